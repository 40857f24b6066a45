/- Steps as nodes: the walk of nodesOf. -/
import Derived.Test.YtkoccaheckkbdaaDoorNodes
import Derived.Deep.AppendLies
import Derived.Deep.RegionHeld3
import Derived.Deep.LoopGhost
namespace Go.Proofs.YtkoccaheckkbdaaDoor
open Go.RowKit

theorem info_node : (Tryd.prog.info? 90).map (fun i => (i.zero, i.size, i.bytes)) = some (some .nilIface, 1, 16) := by kernel_rfl

theorem StepsAt.sub {w : World} {b off n lo m : Nat} {S : Nat → Stp} {base : Nat} (h : StepsAt w (some ⟨b, off, none⟩) n (fun j => S (base + j))) (hm : lo + m ≤ n) :
    StepsAt w (some ⟨b, off + lo * 5, none⟩) m (fun j => S (base + lo + j)) := by
  intro j hj
  obtain ⟨b', off', e, hlt, h0, h1, h2, h3, h4⟩ := h (lo + j) (by omega)
  simp at e
  obtain ⟨rfl, rfl⟩ := e
  refine ⟨b, off + lo * 5, rfl, hlt, ?_⟩
  have e : base + lo + j = base + (lo + j) := by omega
  simp only [e]
  rw [show off + lo * 5 + j * 5 = off + (lo + j) * 5 by omega]
  exact ⟨h0, h1, h2, h3, h4⟩
theorem StepsAt.none {w : World} {ao : Option Addr} {S : Nat → Stp} : StepsAt w ao 0 S := fun j hj => absurd hj (by omega)

theorem five_cells {w w2 : World} {a b c d e : Value} {t : TypeId} (hb : Below (w.alloc (.cells #[a, b, c, d, e] t)).drew.heap.size (w.alloc (.cells #[a, b, c, d, e] t)).drew w2) :
    w2.cell? ⟨w.heap.size, 0, none⟩ = some a ∧ w2.cell? ⟨w.heap.size, 1, none⟩ = some b ∧ w2.cell? ⟨w.heap.size, 2, none⟩ = some c ∧ w2.cell? ⟨w.heap.size, 3, none⟩ = some d ∧ w2.cell? ⟨w.heap.size, 4, none⟩ = some e :=
  ⟨(hb.cell (by simp)).trans (by simp), (hb.cell (by simp)).trans (by simp), (hb.cell (by simp)).trans (by simp), (hb.cell (by simp)).trans (by simp), (hb.cell (by simp)).trans (by simp)⟩
theorem ite_iface {c : Prop} [Decidable c] {a b : Value} (ha : ∃ T x, a = .iface T x) (hb : ∃ T x, b = .iface T x) : ∃ T x, (if c then a else b) = .iface T x := by
  split
  · exact ha
  · exact hb
theorem nodeV_iface (s : Stp) (bv : Value) : ∃ T x, nodeV s bv = .iface T x := by
  unfold nodeV
  repeat (refine ite_iface ⟨_, _, rfl⟩ ?_)
  exact ⟨_, _, rfl⟩
theorem five_more {w2 w3 : World} {n : Nat} {a b c d e : Value} (hb : Below w2.heap.size w2 w3) (hn : n < w2.heap.size)
    (h : w2.cell? ⟨n, 0, none⟩ = some a ∧ w2.cell? ⟨n, 1, none⟩ = some b ∧ w2.cell? ⟨n, 2, none⟩ = some c ∧ w2.cell? ⟨n, 3, none⟩ = some d ∧ w2.cell? ⟨n, 4, none⟩ = some e) :
    w3.cell? ⟨n, 0, none⟩ = some a ∧ w3.cell? ⟨n, 1, none⟩ = some b ∧ w3.cell? ⟨n, 2, none⟩ = some c ∧ w3.cell? ⟨n, 3, none⟩ = some d ∧ w3.cell? ⟨n, 4, none⟩ = some e :=
  ⟨(hb.cell hn).trans h.1, (hb.cell hn).trans h.2.1, (hb.cell hn).trans h.2.2.1, (hb.cell hn).trans h.2.2.2.1, (hb.cell hn).trans h.2.2.2.2⟩
theorem five_grown {w4 w5 : World} {n : Nat} {row : Option Nat} {a b c d e : Value} (hg : w4.grownBy w5 row) (hn : n < w4.heap.size) (hr : some n ≠ row)
    (h : w4.cell? ⟨n, 0, none⟩ = some a ∧ w4.cell? ⟨n, 1, none⟩ = some b ∧ w4.cell? ⟨n, 2, none⟩ = some c ∧ w4.cell? ⟨n, 3, none⟩ = some d ∧ w4.cell? ⟨n, 4, none⟩ = some e) :
    w5.cell? ⟨n, 0, none⟩ = some a ∧ w5.cell? ⟨n, 1, none⟩ = some b ∧ w5.cell? ⟨n, 2, none⟩ = some c ∧ w5.cell? ⟨n, 3, none⟩ = some d ∧ w5.cell? ⟨n, 4, none⟩ = some e := by
  have hc : ∀ o, w5.cell? ⟨n, o, none⟩ = w4.cell? ⟨n, o, none⟩ := fun o => World.cell?_of_block (w := w4) (hg.block n hn hr)
  rw [hc, hc, hc, hc, hc]
  exact h
theorem nodeV_size (s : Stp) (z : Int) (bv : Value) : nodeV ⟨s.op, s.a, s.b, s.n, z⟩ bv = nodeV s bv := by unfold nodeV; rfl

set_option maxRecDepth 100000 in
set_option maxHeartbeats 2000000 in
theorem nodesOf_any (S : Nat → Stp) (d : Nat) : ∀ (base n deep : Nat) (dfr : Bool) (ao : Option Addr) (cap : Nat) (w : World), n < d → n ≤ cap → cap ≤ 9223372036854775807 → n ≤ 300 → StepsAt w ao n (fun j => S (base + j)) →
    (∀ j, j < n → Good (S (base + j))) → (ins S base (base + n) deep dfr).1 = 0 →
    Calls Tryd.prog 25 #[.slice ao n cap] w fun e w' => ∃ ao' l c, e = .returned (.slice ao' l c) ∧ NodesP S (n + 1) (fun g => w.heap.size ≤ g) w' (.slice ao' l c) base (base + n) ∧ Below w.heap.size w w' := by
  induction d with
  | zero => intro base n deep dfr ao cap w hd; omega
  | succ d ih0 =>
    intro base n deep dfr ao cap w hd hnc hcap hn3 hst hgood hins
    obtain ⟨i0, hi, hz0, hz1, hz2⟩ := info_parts info_node
    have ih := hid ih0
    have hg := hid hgood
    have hn := hid hins
    clear ih0 hgood hins
    go_enter Tryd.func25, Tryd.ntmps25
    go_wp2_with fail
    go_loopg [3, 4] n (fun r v c wr => ∃ (k : Nat) (ks : List Nat) (xs : List Value), k ≤ n ∧ Hid (r + k = n) ∧ c = .int .i64 k ∧ wr.ownsRow w.heap.size 90 1 v ks.length xs ∧ ks.length ≤ k ∧
      Hid (Some1 S n w.heap.size wr v ks xs) ∧ Hid (∀ q, Tops S (base + n) (base + k) q → Tops S (base + n) base (ks ++ q)) ∧ Hid ((ins S (base + k) (base + n) deep dfr).1 = 0) ∧ Below w.heap.size w wr)
    case atStart => exact ⟨0, [], [], by omega, by show _ = _; omega, rfl, World.ownsRow_nil _ _ _ _, Nat.zero_le _, fun j k hk => by simp at hk, fun q hq => hq, hn, Below.refl _ _⟩
    case round =>
      obtain ⟨k, ks, xs, hk, HK, rfl, hown, hkl, HS, HT, HI, hb⟩ := hrel
      by_cases hlt : k < n
      · obtain ⟨b, off, rfl, hbl, c0, c1, c2, c3, c4⟩ := (hst.below hb) k hlt
        have hgk := hg.out k hlt
        have hg1 : 1 ≤ (S (base + k)).op ∧ (S (base + k)).op ≤ 15 := ⟨hgk.1, hgk.2.1⟩
        have hs0 := hgk.2.2.1
        obtain ⟨z, hz⟩ : ∃ z : Nat, (S (base + k)).size = z := ⟨(S (base + k)).size.toNat, by omega⟩
        have HZ := hid hz
        have hzn : k + 1 + z ≤ n := by
          cases hh : headB (S (base + k)).op
          · have := hgk.2.2.2 hh; omega
          · have := (nest_head (by omega) hh HI.out).1; omega
        simp only [hz] at c4
        clear hz hs0 hgk
        have hcn : (z : Int) ≤ ((cap - (k + 1) : Nat) : Int) := by omega
        obtain ⟨dp, df, HIN⟩ : ∃ dp df, Hid ((ins S (base + (k + 1)) (base + (k + 1) + z) dp df).1 = 0) := by
          cases hh : headB (S (base + k)).op
          · have h0 : z = 0 := by have := (hg.out k hlt).2.2.2 hh; have := HZ.out; omega
            subst h0
            exact ⟨0, false, by show _ = _; rw [ins_end (by omega)]⟩
          · have h3 := (nest_head (by omega) hh HI.out).2.2.1
            rw [HZ.out] at h3
            exact ⟨_, _, h3⟩
        obtain ⟨aX, haX⟩ : ∃ aX, (if cap = k + 1 then some (⟨b, off, none⟩ : Addr) else some ⟨b, off + (k + 1) * 5, none⟩) = aX := ⟨_, rfl⟩
        have hsub : StepsAt w aX z (fun j => S (base + (k + 1) + j)) := by
          by_cases hck : cap = k + 1
          · have hz00 : z = 0 := by omega
            rw [hz00]; exact StepsAt.none
          · rw [if_neg hck] at haX
            rw [← haX]
            exact hst.sub (by omega)
        go_upto_region 7 with fail
        go_region_held3 (fun w' : World => w'.cell? ⟨wr.heap.size, 0, none⟩ = some (.int .i64 (S (base + k)).op) ∧ w'.cell? ⟨wr.heap.size, 1, none⟩ = some (.int .i64 (S (base + k)).a) ∧ w'.cell? ⟨wr.heap.size, 2, none⟩ = some (.int .i64 (S (base + k)).b) ∧ w'.cell? ⟨wr.heap.size, 3, none⟩ = some (.int .i64 (S (base + k)).n) ∧ w'.cell? ⟨wr.heap.size, 4, none⟩ = some (.int .i64 z)) (first | assumption | go_keep) (first | (go_at_call 25; refine (ih.out (base + (k + 1)) z dp df _ _ _ (by omega) (by omega) (by omega) (by omega) (by exact hsub.below (bel_trans hb (Below.drew (bel_one _ _)))) (fun j hj => by have := hg.out (k + 1 + j) (by omega); rwa [show base + (k + 1 + j) = base + (k + 1) + j by omega] at this) HIN.out).mono ?_; rintro e w2 ⟨ao', l', c', rfl, hn2, hb2⟩; have hS2 := five_cells hb2) | (go_at_call 42; refine (nodeOf_any _ _ _ _ _ _ _ _ _ hg1).mono ?_; rintro e w3 ⟨he, hb3⟩; rw [nodeV_size] at he; obtain ⟨T, x, hTx⟩ := nodeV_iface (S (base + k)) (.slice ao' l' c'); rw [hTx] at he; subst he; have HTX := hid hTx; clear hTx; have hz2' : wr.heap.size < w2.heap.size := (by have := hb2.size; simp at this; omega); have hS3 := five_more hb3 hz2' hS2) | (refine step_append_lies _ rfl (.tmp 21) (.tmp 29) 64 rfl w.heap.size 90 i0 .nilIface 1 16 Tryd.underlying64 hi hz0 hz1 hz2 rfl (by decide) u3 ks.length xs (by simp [Act.eval]) (by exact (own_bel (own_bel hown (bel_trans (Below.drew (bel_one _ _)) hb2)) hb3).alloc _) ⟨w3.heap.size, 0, none⟩ 1 1 [.iface T x] (by simp [Act.eval]) rfl (by intro j u hj; match j, hj with | 0, hj => simp at hj; subst hj; simp [Addr.add]) (by intro u hu; simp at hu; subst hu; rfl) (by decide) (by unfold maxLen; omega) (by omega) (by have := hb.size; have := hb2.size; have := hb3.size; simp at *; omega) _ rfl ?_; intro g cap' w5 hown5 hgrow hat hlt5; have hz3' : wr.heap.size < w3.heap.size := Nat.lt_of_lt_of_le hz2' hb3.size; have hS5 := five_grown hgrow (Nat.lt_of_lt_of_le hz3' (by simp)) (fun e => absurd (hown.lt _ e.symm).2 (Nat.lt_irrefl _)) (five_more (bel_one _ _) hz3' hS3)))
        have hbr : Below wr.heap.size wr w2 := bel_trans (Below.drew (bel_one _ _)) hb2
        have hnn : NodesP S n (fun g => wr.heap.size ≤ g) w2 (.slice ao' l' c') (base + k + 1) (base + k + 1 + (S (base + k)).size.toNat) := by
          rw [HZ.out]
          exact (NodesP.more (by omega) hn2).carry (fun x _ _ hx => ⟨rfl, Nat.le_trans (by simp) hx⟩)
        have HS5 := hid (HS.out.next (cap := cap') (k := base + k) (by have := hown.1; omega) hb.size (fun x hx => (hown.lt x hx).2) hbr hnn (bel_alloc hb3 _) hgrow hat)
        rw [← HTX.out] at hown5
        have hb5 : Below w.heap.size w w5 := (bel_alloc (bel_trans (bel_trans hb hbr) hb3) _).grown hgrow (by have := hb.size; have := hbr.size; have := hb3.size; simp; omega) (fun x hx => (hown.lt x hx).1)
        clear hgrow hat HS hn2 hnn
        go_wp2_with fail
        go_roundg (n - (k + 1 + z))
        case measure => have := HK.out; omega
        case rel =>
          refine ⟨k + 1 + z, ks ++ [base + k], xs ++ [nodeV (S (base + k)) (.slice ao' l' c')], by omega, by show _ = _; omega, by go_num, ?_, by simp; omega, ?_, ?_, ?_, hb5⟩
          · simpa using hown5
          · have := HS5.out
            exact this
          · intro q hq
            rw [List.append_assoc]
            refine HT.out _ ⟨rfl, by omega, ?_⟩
            rw [HZ.out, show base + k + 1 + (z : Int).toNat = base + (k + 1 + z) by omega]
            exact hq
          · show _ = _
            cases hh : headB (S (base + k)).op
            · have h0 : z = 0 := by have := (hg.out k hlt).2.2.2 hh; have := HZ.out; omega
              subst h0
              have h4 := nest_step (i := base + k) (te := base + n) (by omega) hh HI.out
              rw [show base + (k + 1 + 0) = base + k + 1 by omega]
              exact h4
            · have h4 := (nest_head (by omega) hh HI.out).2.2.2
              rw [HZ.out, show base + k + 1 + (z : Int).toNat = base + (k + 1 + z) by omega] at h4
              exact h4
      · obtain ⟨ao', l', c', rfl⟩ : ∃ ao' l' c', u3 = .slice ao' l' c' := by
          rcases hown.2 with ⟨hv, _⟩ | ⟨g, cap', cur, hv, _⟩
          · exact ⟨_, _, _, hv⟩
          · exact ⟨_, _, _, hv⟩
        go_wp2_with fail
        go_ret
        refine ⟨ao', l', c', rfl, HS.out.done ?_ hown, hb⟩
        have h0 := HT.out [] (by show ¬ _; omega)
        rwa [List.append_nil] at h0

end Go.Proofs.YtkoccaheckkbdaaDoor
