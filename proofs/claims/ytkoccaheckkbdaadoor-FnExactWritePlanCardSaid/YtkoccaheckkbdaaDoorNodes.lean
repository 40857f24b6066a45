/- Steps as nodes: the walk of nodeOf; how nodes lie in memory. -/
import Derived.Test.YtkoccaheckkbdaaDoorBld
namespace Go.Proofs.YtkoccaheckkbdaaDoor
open Go.RowKit

/-- A step as a node, bv being its block's. -/
def nodeV (s : Stp) (bv : Value) : Value :=
  if s.op = 1 then .iface 106 (.agg #[.int .i64 s.a, .int .i64 s.n])
  else if s.op = 2 then .iface 108 (.agg #[.int .i64 s.a, .int .i64 s.b, .int .i64 s.n])
  else if s.op = 3 then .iface 110 (.agg #[.int .i64 s.a])
  else if s.op = 4 then .iface 112 (.agg #[.int .i64 s.a, .int .i64 s.b])
  else if s.op = 5 then .iface 114 (.agg #[.int .i64 s.a, .int .i64 s.b])
  else if s.op = 6 then .iface 115 (.agg #[.int .i64 s.a])
  else if s.op = 7 then .iface 116 (.agg #[.int .i64 s.a, .int .i64 s.b])
  else if s.op = 8 then .iface 117 (.agg #[.int .i64 s.a, .int .i64 s.b])
  else if s.op = 9 then .iface 118 (.agg #[.int .i64 s.a])
  else if s.op = 10 then .iface 119 (.agg #[.int .i64 s.a])
  else if s.op = 11 then .iface 121 (.agg #[.int .i64 s.a, bv])
  else if s.op = 12 then .iface 124 (.agg #[bv])
  else if s.op = 13 then .iface 125 (.agg #[bv])
  else if s.op = 14 then .iface 126 (.agg #[.int .i64 s.a, bv])
  else .iface 127 (.agg #[.int .i64 s.a, bv])

set_option maxRecDepth 100000 in
set_option maxHeartbeats 2000000 in
theorem nodeOf_any (o a b n s : Int) (ao : Option Addr) (l c : Nat) (w : World) (ho : 1 ≤ o ∧ o ≤ 15) :
    Calls Tryd.prog 42 #[.agg #[.int .i64 o, .int .i64 a, .int .i64 b, .int .i64 n, .int .i64 s], .slice ao l c] w fun e w' => e = .returned (nodeV ⟨o, a, b, n, s⟩ (.slice ao l c)) ∧ Below w.heap.size w w' := by
  rcases op_cases o with rfl | rfl | rfl | rfl | rfl | rfl | rfl | rfl | rfl | rfl | rfl | rfl | rfl | rfl | rfl | h | h
  iterate 15
    · go_enter Tryd.func42, Tryd.ntmps42
      go_wp2
      go_ret
      exact ⟨rfl, bel_one _ _⟩
  · omega
  · omega

/-- The steps that stand in the block itself, from i on, in order. -/
def Tops (S : Nat → Stp) (te : Nat) : Nat → List Nat → Prop
  | i, [] => ¬ i < te
  | i, k :: r => k = i ∧ i < te ∧ Tops S te (i + 1 + (S i).size.toNat) r

/-- The value v is the nodes of the steps from i up to te, in rows whose blocks are as ok says. (The first number bounds how deep they go.) -/
def NodesP (S : Nat → Stp) : Nat → (Nat → Prop) → World → Value → Nat → Nat → Prop
  | 0, _, _, _, _, _ => False
  | f + 1, ok, w, v, i, te => ∃ (ks : List Nat) (xs : List Value), Tops S te i ks ∧ w.ownsRow 0 90 1 v ks.length xs ∧ (∀ g, v.ownBlock = some g → ok g) ∧
      ∀ (j k : Nat), ks[j]? = some k → ∃ ao l c, xs[j]? = some (nodeV (S k) (.slice ao l c)) ∧ (headB (S k).op = true → NodesP S f ok w (.slice ao l c) (k + 1) (k + 1 + (S k).size.toNat))

/-- The rows are as they were: so are the nodes. -/
theorem NodesP.carry {S : Nat → Stp} {ok ok' : Nat → Prop} {w w' : World} (hsame : ∀ g cur, w.heap[g]? = some (.cells cur 90 (0, 0)) → ok g → w'.heap[g]? = w.heap[g]? ∧ ok' g) :
    ∀ {f : Nat} {v : Value} {i te : Nat}, NodesP S f ok w v i te → NodesP S f ok' w' v i te
  | 0, _, _, _, h => h.elim
  | f + 1, v, i, te, h => by
    obtain ⟨ks, xs, h1, ⟨hl, h2⟩, h0, h3⟩ := h
    refine ⟨ks, xs, h1, ⟨hl, ?_⟩, ?_, fun j k hk => ?_⟩
    · rcases h2 with h2 | ⟨g, cap, cur, hv, hg, hh, r⟩
      · exact Or.inl h2
      · exact Or.inr ⟨g, cap, cur, hv, hg, (hsame g cur hh (h0 g (by rw [hv]; rfl))).1.trans hh, r⟩
    · intro g hg
      rcases h2 with ⟨rfl, _⟩ | ⟨g', cap, cur, rfl, _, hh, _⟩
      · simp [Value.ownBlock] at hg
      · simp [Value.ownBlock] at hg
        subst hg
        exact (hsame g' cur hh (h0 g' rfl)).2
    · obtain ⟨ao, l, c, h4, h5⟩ := h3 j k hk
      exact ⟨ao, l, c, h4, fun hh => NodesP.carry hsame (h5 hh)⟩
theorem NodesP.below {S : Nat → Stp} {ok : Nat → Prop} {f : Nat} {w w' : World} {v : Value} {i te : Nat} (h : NodesP S f ok w v i te) (hb : Below w.heap.size w w') : NodesP S f ok w' v i te :=
  h.carry (fun g _ hg ho => ⟨hb.block g (Array.getElem?_eq_some_iff.1 hg).1, ho⟩)
theorem NodesP.more {S : Nat → Stp} {ok : Nat → Prop} {w : World} : ∀ {f f' : Nat} {v : Value} {i te : Nat}, f ≤ f' → NodesP S f ok w v i te → NodesP S f' ok w v i te
  | 0, _, _, _, _, _, h => h.elim
  | f + 1, 0, _, _, _, hl, _ => by omega
  | f + 1, f' + 1, v, i, te, hl, h => by
    obtain ⟨ks, xs, h1, h2, h0, h3⟩ := h
    refine ⟨ks, xs, h1, h2, h0, fun j k hk => ?_⟩
    obtain ⟨ao, l, c, h4, h5⟩ := h3 j k hk
    exact ⟨ao, l, c, h4, fun hh => NodesP.more (by omega) (h5 hh)⟩

theorem ownsRow_mono {w : World} {B B' e n : Nat} {v : Value} {xs : List Value} (h : w.ownsRow B e 1 v n xs) (hB : B' ≤ B) : w.ownsRow B' e 1 v n xs := by
  obtain ⟨h1, h2⟩ := h
  refine ⟨h1, ?_⟩
  rcases h2 with h2 | ⟨g, cap, cur, hv, hg, r⟩
  · exact Or.inl h2
  · exact Or.inr ⟨g, cap, cur, hv, by omega, r⟩

/-- The nodes that nodesOf has laid so far. -/
def Some1 (S : Nat → Stp) (f B : Nat) (w : World) (v : Value) (ks : List Nat) (xs : List Value) : Prop :=
  ∀ (j k : Nat), ks[j]? = some k → ∃ ao l c, xs[j]? = some (nodeV (S k) (.slice ao l c)) ∧ (headB (S k).op = true → NodesP S f (fun g => B ≤ g ∧ v.ownBlock ≠ some g) w (.slice ao l c) (k + 1) (k + 1 + (S k).size.toNat))

/-- One node more. -/
theorem Some1.next {S : Nat → Stp} {f B k g cap : Nat} {wr w2 w4 w5 : World} {v : Value} {ks : List Nat} {xs : List Value} {ao : Option Addr} {l c : Nat} (h : Some1 S f B wr v ks xs) (hlen : xs.length = ks.length)
    (hB : B ≤ wr.heap.size) (hv : ∀ x, v.ownBlock = some x → x < wr.heap.size)
    (hb2 : Below wr.heap.size wr w2) (hn : NodesP S f (fun g => wr.heap.size ≤ g) w2 (.slice ao l c) (k + 1) (k + 1 + (S k).size.toNat)) (hb4 : Below w2.heap.size w2 w4) (hgrow : w4.grownBy w5 v.ownBlock) (hat : v.ownBlock = some g ∨ g = w4.heap.size) :
    Some1 S f B w5 (.slice (some ⟨g, 0, none⟩) (ks.length + 1) cap) (ks ++ [k]) (xs ++ [nodeV (S k) (.slice ao l c)]) := by
  have s2 := hb2.size
  have s4 := hb4.size
  intro j k' hk
  by_cases hj : j < ks.length
  · rw [List.getElem?_append_left hj] at hk
    obtain ⟨ao', l', c', h4, h5⟩ := h j k' hk
    refine ⟨ao', l', c', by rw [List.getElem?_append_left (by omega)]; exact h4, fun hh => (h5 hh).carry ?_⟩
    intro x cur hx ⟨hx1, hx2⟩
    have hlt : x < wr.heap.size := (Array.getElem?_eq_some_iff.1 hx).1
    refine ⟨?_, hx1, ?_⟩
    · rw [hgrow.block x (by omega) (fun e => hx2 e.symm), hb4.block x (by omega), hb2.block x hlt]
    · simp only [Value.ownBlock, ne_eq, Option.some.injEq]
      intro e
      subst e
      rcases hat with hat | hat
      · exact hx2 hat
      · omega
  · have hj2 : j = ks.length := by
      have := (List.getElem?_eq_some_iff.1 hk).1
      simp at this; omega
    subst hj2
    simp at hk
    subst hk
    refine ⟨ao, l, c, by rw [← hlen]; simp, fun _ => hn.carry ?_⟩
    intro x cur hx hx1
    have hlt : x < w2.heap.size := (Array.getElem?_eq_some_iff.1 hx).1
    refine ⟨?_, by omega, ?_⟩
    · rw [hgrow.block x (by omega) (fun e => by have := hv x e.symm; omega), hb4.block x hlt]
    · simp only [Value.ownBlock, ne_eq, Option.some.injEq]
      intro e
      subst e
      rcases hat with hat | hat
      · have := hv _ hat; omega
      · omega

theorem Some1.done {S : Nat → Stp} {f B i te : Nat} {w : World} {v : Value} {ks : List Nat} {xs : List Value} (h : Some1 S f B w v ks xs) (ht : Tops S te i ks) (hown : w.ownsRow B 90 1 v ks.length xs) :
    NodesP S (f + 1) (fun g => B ≤ g) w v i te := by
  refine ⟨ks, xs, ht, ownsRow_mono hown (Nat.zero_le _), fun g hg => (hown.lt g hg).1, fun j k hk => ?_⟩
  obtain ⟨ao, l, c, h4, h5⟩ := h j k hk
  exact ⟨ao, l, c, h4, fun hh => (h5 hh).carry (fun _ _ _ ho => ⟨rfl, ho.1⟩)⟩

end Go.Proofs.YtkoccaheckkbdaaDoor
