/- A block of a plan: the walk of the planWriter's head, its block's writing taken as given. -/
import Derived.Test.YtkoccaheckkbdaaDoorWline
namespace Go.Proofs.YtkoccaheckkbdaaDoor
open Go.RowKit

theorem info_string : (Tryd.prog.info? 9).map (fun i => (i.zero, i.size, i.bytes)) = some (some (.string ⟨#[]⟩), 1, 16) := by kernel_rfl

abbrev brace : ByteArray := ⟨#[123]⟩
theorem join_brace (xs : List (List UInt8)) (h : xs ≠ []) : Lib.join (xs ++ [[123]]) [32] = Lib.join xs [32] ++ [32, 123] := by
  unfold Lib.join
  induction xs with
  | nil => exact absurd rfl h
  | cons x r ih =>
    cases r with
    | nil => simp [List.intercalate, List.intersperse]
    | cons y q =>
      rw [List.cons_append, List.cons_append, List.intercalate_cons_cons, ← List.cons_append, ih (by simp), List.intercalate_cons_cons]
      simp

/-- What the writing of nodes keeps: all that lay below B, and every block that is no row of bytes or of strings and no planWriter. -/
def KeptN (B : Nat) (w w' : World) : Prop := Below B w w' ∧ ∀ (g : Nat) (cur : Array Value) (e : TypeId) (fz : Nat × Nat), w.heap[g]? = some (Obj.cells cur e fz) → e ≠ 5 → e ≠ 9 → e ≠ 60 → w'.heap[g]? = w.heap[g]?
theorem KeptN.refl (B : Nat) (w : World) : KeptN B w w := ⟨Below.refl _ _, fun _ _ _ _ _ _ _ _ => rfl⟩
theorem KeptN.trans {B : Nat} {w w1 w2 : World} (h : KeptN B w w1) (k : KeptN B w1 w2) : KeptN B w w2 :=
  ⟨h.1.trans k.1, fun g cur e fz hg e1 e2 e3 => (k.2 g cur e fz ((h.2 g cur e fz hg e1 e2 e3).trans hg) e1 e2 e3).trans (h.2 g cur e fz hg e1 e2 e3)⟩
theorem keptN_below {B : Nat} {w w' : World} (hb : Below w.heap.size w w') (hB : B ≤ w.heap.size) : KeptN B w w' :=
  ⟨hb.mono hB, fun g _ _ _ hg _ _ _ => hb.block g (Array.getElem?_eq_some_iff.1 hg).1⟩
theorem KeptN.cell {B : Nat} {w w' : World} (h : KeptN B w w') {g : Nat} {cur : Array Value} {e : TypeId} {fz : Nat × Nat} (hg : w.heap[g]? = some (Obj.cells cur e fz)) (e1 : e ≠ 5) (e2 : e ≠ 9) (e3 : e ≠ 60) (o : Nat) : w'.cell? ⟨g, o, none⟩ = w.cell? ⟨g, o, none⟩ :=
  World.cell?_of_block (h.2 g cur e fz hg e1 e2 e3)
theorem Wrote.block {B b : Nat} {bs : List UInt8} {w : World} (h : Wrote B b bs w) : ∃ c, w.heap[b]? = some (.cells c 60 (0, 0)) := by
  rcases h with ⟨_, v, hb, _⟩ | ⟨_, v, hb, _⟩
  · exact ⟨_, hb⟩
  · exact ⟨_, hb⟩
theorem Kept.nodes {B b : Nat} {bs : List UInt8} {w w' : World} (h : Kept B b w w') (hw : Wrote B b bs w) : KeptN B w w' := by
  refine ⟨h.1, fun g cur e fz hg e1 _ e3 => ?_⟩
  rw [hg]
  refine h.2 g _ hg ?_ (fun c fz e => ?_)
  · intro e
    obtain rfl := Option.some.inj e
    obtain ⟨c, hb⟩ := hw.block
    rw [hg] at hb
    simp at hb
    exact e3 hb.2.1
  · simp at e
    exact e1 e.2.1
theorem keptN_grown {B : Nat} {w w1 : World} {row : Option Nat} (hg : w.grownBy w1 row) (hB : B ≤ w.heap.size) (hr : ∀ x, row = some x → B ≤ x ∧ ∃ c fz, w.heap[x]? = some (.cells c 9 fz)) : KeptN B w w1 := by
  refine ⟨(Below.refl B w).grown hg hB (fun k hk => (hr k hk).1), fun g cur e fz h _ e2 _ => hg.block g (Array.getElem?_eq_some_iff.1 h).1 (fun e' => ?_)⟩
  obtain ⟨_, c, fz, h2⟩ := hr g e'.symm
  rw [h] at h2
  simp at h2
  exact e2 h2.2.1
theorem own_grown {w w1 : World} {B e n : Nat} {v : Value} {xs : List Value} {row : Option Nat} (h : w.ownsRow B e 1 v n xs) (hg : w.grownBy w1 row) (hr : ∀ x, row = some x → ∃ c fz, w.heap[x]? = some (.cells c 9 fz)) (he : e ≠ 9) : w1.ownsRow B e 1 v n xs := by
  obtain ⟨h1, h2⟩ := h
  refine ⟨h1, ?_⟩
  rcases h2 with h2 | ⟨g, cap, cur, hv, hb, hh, r⟩
  · exact Or.inl h2
  · refine Or.inr ⟨g, cap, cur, hv, hb, (hg.block g (Array.getElem?_eq_some_iff.1 hh).1 (fun e' => ?_)).trans hh, r⟩
    obtain ⟨c, fz, h3⟩ := hr g e'.symm
    rw [hh] at h3
    simp at h3
    exact he h3.2.1
theorem builderAt_grown {B b : Nat} {p : Value} {bs : List Value} {w w1 : World} {row : Option Nat} (h : Lib.BuilderAt 60 5 B b p bs w) (hg : w.grownBy w1 row) (hr : ∀ x, row = some x → ∃ c fz, w.heap[x]? = some (.cells c 9 fz)) :
    Lib.BuilderAt 60 5 B b p bs w1 := by
  have hl := h.lt
  obtain ⟨hB, v, hbk, hown, hne⟩ := h
  refine ⟨hB, v, (hg.block b hl (fun e => ?_)).trans hbk, own_grown hown hg hr (by decide), hne⟩
  obtain ⟨c, fz, h3⟩ := hr b e.symm
  rw [hbk] at h3
  simp at h3
theorem Wrote.grown {B b : Nat} {bs : List UInt8} {w w1 : World} {row : Option Nat} (h : Wrote B b bs w) (hg : w.grownBy w1 row) (hr : ∀ x, row = some x → ∃ c fz, w.heap[x]? = some (.cells c 9 fz)) : Wrote B b bs w1 :=
  h.elim (fun x => .inl (builderAt_grown x hg hr)) (fun x => .inr (builderAt_grown x hg hr))

/-- What a block's writing does. -/
def Writes (B b : Nat) (w : World) (t : Nat) (v : Value) (sub : List UInt8) : Prop :=
  ∀ (bs : List UInt8) (w' : World), Wrote B b bs w' → KeptN B w w' → bs.length + sub.length ≤ 40000000 →
    Calls Tryd.prog 24 #[.pointer (some ⟨b, 0, none⟩), .int .i64 ((t : Int) + 1), v] w' fun e w'' => e = .returned (.tuple #[]) ∧ Wrote B b (bs ++ sub) w'' ∧ KeptN B w' w''

theorem own_lit (B n : Nat) (cs : Array Value) (xs : List ByteArray) (w : World) (hB : B ≤ w.heap.size) (hcs : cs.toList = xs.map Value.string) (hn : n = xs.length) (hm : n ≤ 100) :
    (w.alloc (Obj.cells cs 9)).ownsRow B 9 1 (.slice (some ⟨w.heap.size, 0, none⟩) n n) n (xs.map Value.string) := by
  rw [← hcs]
  exact World.ownsRow_lit w cs n hB (by unfold maxLen; omega) (by rw [← Array.length_toList, hcs, List.length_map, hn, Nat.mul_one])

/-- A line whose words have just been laid. -/
theorem line_lit (B b : Nat) (bs : List UInt8) (t n g : Nat) (cs : Array Value) (xs : List ByteArray) (w : World) (h : Wrote B b bs w) (hBw : B ≤ w.heap.size) (ht : t ≤ 400) (hbs : bs.length ≤ 100000000)
    (hx1 : xs.length ≤ 10) (hcs : cs.toList = xs.map Value.string) (hn : n = xs.length) (hg : g = w.heap.size) (J : List UInt8) (hJ : Lib.join (xs.map (·.data.toList)) [32] = J) (hj : J.length ≤ 1000) :
    Calls Tryd.prog 22 #[.pointer (some ⟨b, 0, none⟩), .int .i64 t, .slice (some ⟨g, 0, none⟩) n n] (w.alloc (Obj.cells cs 9)) fun e w' =>
      e = .returned (.tuple #[]) ∧ Wrote B b (bs ++ (tabsL t ++ (J ++ [10]))) w' ∧ KeptN B w w' := by
  have ho := own_lit B n cs xs w hBw hcs hn (by omega)
  subst hn hJ hg
  have hw1 := h.below (bel_one w (Obj.cells cs 9))
  refine (line_any B b bs t w.heap.size xs.length xs _ hw1 (by simp; omega) ht hbs hx1 (Nat.le_refl _) ho hj).mono ?_
  rintro e w' ⟨he, h1, hk⟩
  exact ⟨he, h1, (keptN_below (bel_one _ _) hBw).trans (hk.nodes hw1)⟩

set_option maxRecDepth 100000 in
set_option maxHeartbeats 2000000 in
theorem head_any (B b : Nat) (bs sub : List UInt8) (t g c : Nat) (ao : Option Addr) (vl vc : Nat) (xs : List ByteArray) (w : World) (h : Wrote B b bs w) (hBw : B ≤ w.heap.size) (ht : t ≤ 399)
    (hx0 : xs ≠ []) (hx1 : xs.length ≤ 5) (hown : w.ownsRow B 9 1 (.slice (some ⟨g, 0, none⟩) xs.length c) xs.length (xs.map Value.string)) (hj : (Lib.join (xs.map (·.data.toList)) [32]).length ≤ 900)
    (hbs : bs.length + (t + ((Lib.join (xs.map (·.data.toList)) [32]).length + 3) + sub.length) ≤ 40000000)
    (hblk : Writes B b w t (.slice ao vl vc) sub) :
    Calls Tryd.prog 55 #[.pointer (some ⟨b, 0, none⟩), .int .i64 t, .slice ao vl vc, .slice (some ⟨g, 0, none⟩) xs.length c] w fun e w' =>
      e = .returned (.tuple #[]) ∧ Wrote B b (bs ++ ((tabsL t ++ (Lib.join (xs.map (·.data.toList)) [32] ++ [32, 123, 10])) ++ (sub ++ (tabsL t ++ [125, 10])))) w' ∧ KeptN B w w' := by
  obtain ⟨i0, hi, hz0, hz1, hz2⟩ := info_parts info_string
  have HB := hid hblk
  have hjb := join_brace (xs.map (·.data.toList)) (by simpa using hx0)
  obtain ⟨J, hJ⟩ : ∃ J, Lib.join (xs.map (·.data.toList)) [32] = J := ⟨_, rfl⟩
  rw [hJ] at hj hjb hbs ⊢
  have HJ := hid hJ
  have HJB := hid hjb
  clear hblk hJ hjb
  go_enter Tryd.func55, Tryd.ntmps55
  go_wp2_with (first | (at_builtin; refine wpList_append_own _ rfl _ _ 81 rfl B 9 i0 (.string ⟨#[]⟩) 1 16 Tryd.underlying81 hi hz0 hz1 hz2 rfl (by decide) _ _ _ rfl (hown.alloc _) ⟨w.heap.size, 0, none⟩ 1 1 [.string brace] rfl rfl ?c1 ?c2 ?c3 ?c4 ?c5 ?_))
  case c1 =>
    intro j u hj
    match j, hj with
    | 0, hj => simp at hj; subst hj; simp [Addr.add]
  case c2 => intro u hu; simp at hu; subst hu; rfl
  case c3 => unfold maxLen; omega
  case c4 => omega
  case c5 => simp; omega
  intro v1 w1 hown1 hgrow _
  obtain ⟨g1, c1, rfl⟩ : ∃ g1 c1, v1 = .slice (some ⟨g1, 0, none⟩) (xs.length + 1) c1 := by
    rcases hown1.2 with ⟨_, h0⟩ | ⟨g1, c1, cur, hv, _⟩
    · omega
    · exact ⟨g1, c1, hv⟩
  have hbel0 : Below w.heap.size w (w.alloc (Obj.cells #[.string brace] 9)) := bel_one _ _
  have hr0 := own_row (hown.alloc (.cells #[.string brace] 9))
  have hr1 := hown.lt
  have h1 : Wrote B b bs w1 := (h.below hbel0).grown hgrow hr0
  have k1 : KeptN B w w1 := (keptN_below hbel0 hBw).trans (keptN_grown hgrow (by simp; omega) (fun x hx => ⟨(hr1 x hx).1, hr0 x hx⟩))
  have hB1 : B ≤ w1.heap.size := Nat.le_trans hBw k1.1.size
  have hc1 : xs.length + 1 ≤ c1 := by
    rcases hown1.2 with ⟨_, h0⟩ | ⟨g1, c1, cur, hv, _, _, hc, _⟩
    · omega
    · simp at hv; omega
  have hown1' : w1.ownsRow B 9 1 (.slice (some ⟨g1, 0, none⟩) (xs ++ [brace]).length c1) (xs ++ [brace]).length ((xs ++ [brace]).map Value.string) := by
    simpa using hown1
  have HL := hid (line_any B b bs t g1 c1 (xs ++ [brace]) w1 h1 hB1 (by omega) (by omega) (by simp; omega) (by simp; omega) hown1' (by
    rw [List.map_append]
    show (Lib.join (xs.map (·.data.toList) ++ [[123]]) [32]).length ≤ 1000
    rw [HJB.out, List.length_append]; simp; omega))
  clear hown1 hown1' hgrow hown
  rw [List.map_append, show ([brace].map (·.data.toList) : List (List UInt8)) = [[123]] from rfl] at HL
  rw [HJB.out] at HL
  rw [show (xs ++ [brace]).length = xs.length + 1 by simp] at HL
  go_wp2_with (go_at_call 22; refine HL.out.mono ?_; rintro e w2 ⟨rfl, h2, hk2⟩; have k2 := k1.trans (hk2.nodes h1); clear hk2 HL)
  go_wp2_with (go_at_call 24; refine (HB.out _ w2 h2 k2 (by simp only [List.length_append, tabsL, List.length_replicate, List.length_cons, List.length_nil]; omega)).mono ?_; rintro e w3 ⟨rfl, h3, hk3⟩; have k3 := k2.trans hk3; clear hk3 HB)
  go_wp2_with (go_at_call 22; refine (line_lit B b _ t _ _ _ [⟨#[125]⟩] w3 h3 (Nat.le_trans hBw k3.1.size) (by omega) (by simp only [List.length_append, tabsL, List.length_replicate, List.length_cons, List.length_nil]; omega) (by decide) rfl rfl rfl [125] rfl (by decide)).mono ?_; rintro e w4 ⟨rfl, h4, hk4⟩)
  go_end0
  refine ⟨rfl, ?_, k3.trans hk4⟩
  simpa using h4

/-- A head whose words have just been laid. -/
theorem head_lit (B b : Nat) (bs sub : List UInt8) (t n g : Nat) (cs : Array Value) (ao : Option Addr) (vl vc : Nat) (xs : List ByteArray) (w0 w : World) (h : Wrote B b bs w) (hBw : B ≤ w.heap.size) (ht : t ≤ 399)
    (hx0 : xs ≠ []) (hx1 : xs.length ≤ 5) (hcs : cs.toList = xs.map Value.string) (hn : n = xs.length) (hg : g = w.heap.size) (J : List UInt8) (hJ : Lib.join (xs.map (·.data.toList)) [32] = J) (hj : J.length ≤ 900) (hbs : bs.length + (t + (J.length + 3) + sub.length) ≤ 40000000)
    (hk0 : KeptN B w0 w) (hblk : Writes B b w0 t (.slice ao vl vc) sub) :
    Calls Tryd.prog 55 #[.pointer (some ⟨b, 0, none⟩), .int .i64 t, .slice ao vl vc, .slice (some ⟨g, 0, none⟩) n n] (w.alloc (Obj.cells cs 9)) fun e w' =>
      e = .returned (.tuple #[]) ∧ Wrote B b (bs ++ ((tabsL t ++ (J ++ [32, 123, 10])) ++ (sub ++ (tabsL t ++ [125, 10])))) w' ∧ KeptN B w w' := by
  have ho := own_lit B n cs xs w hBw hcs hn (by omega)
  subst hn hJ hg
  have hk1 : KeptN B w (w.alloc (Obj.cells cs 9)) := keptN_below (bel_one _ _) hBw
  refine (head_any B b bs sub t w.heap.size xs.length ao vl vc xs _ (h.below (bel_one w (Obj.cells cs 9))) (by simp; omega) ht hx0 hx1 ho hj hbs ?_).mono ?_
  · intro bs' w' h1 h2 h3
    exact hblk bs' w' h1 ((hk0.trans hk1).trans h2) h3
  · rintro e w' ⟨he, h1, hk⟩
    exact ⟨he, h1, hk1.trans hk⟩

end Go.Proofs.YtkoccaheckkbdaaDoor
