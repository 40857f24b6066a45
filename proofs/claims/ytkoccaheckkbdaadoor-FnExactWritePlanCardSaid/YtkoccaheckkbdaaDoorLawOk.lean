/- The walk of the law FnExactPlanOk. -/
import Derived.Test.YtkoccaheckkbdaaDoorSizes
import Derived.Test.YtkoccaheckkbdaaDoorCopy
import Derived.Test.YtkoccaheckkbdaaDoorEq
import Derived.Test.YtkoccaheckkbdaaDoorSpecOk
import Derived.Test.YtkoccaheckkbdaaDoorImplOk
namespace Go.Proofs.YtkoccaheckkbdaaDoor
open Go.RowKit

theorem szS_ok {n : Nat} {left : Int} (h : 0 ≤ szS n left) : (n : Int) ≤ left := by unfold szS at h; split at h <;> omega
theorem szRows_ok {L : Nat → Nat} : ∀ r i left, -1 ≤ left → 0 ≤ szRows L r i left → ∀ k, i ≤ k → k < i + r → (L k : Int) ≤ left
  | 0, i, left, _, _, k, h1, h2 => by omega
  | r + 1, i, left, h0, h, k, h1, h2 => by
    have hs := szS_le (L i) left h0
    unfold szRows at h
    by_cases hn : szS (L i) left < 0
    · rw [if_pos hn] at h; omega
    · rw [if_neg hn] at h
      by_cases e : k = i
      · subst e; exact szS_ok (by omega)
      · have := szRows_ok r (i + 1) _ hs.2 h k (by omega) (by omega)
        omega
theorem szP_ok {m : Nat} {L : Nat → Nat} {left : Int} (h0 : 0 ≤ left) (h : 0 ≤ szP m L left) : (m : Int) ≤ left ∧ ∀ i, i < m → (L i : Int) ≤ left := by
  have hs := szS_le m left (by omega)
  unfold szP at h
  by_cases hn : szS m left < 0
  · rw [if_pos hn] at h; omega
  · rw [if_neg hn] at h
    refine ⟨szS_ok (by omega), fun i hi => ?_⟩
    have := szRows_ok m 0 _ hs.2 h i (by omega) (by omega)
    omega

set_option maxRecDepth 100000 in
set_option maxHeartbeats 1000000 in
theorem lawOk_any (ao : Option Addr) (m cap : Nat) (A : Nat → Option Addr) (L C : Nat → Nat) (S : Nat → Nat → Stp) (w : World) (hp : PlanAt w ao m A L C S) (hm : m ≤ 9223372036854775807) (hL : ∀ i, i < m → L i ≤ 9223372036854775807) (htab : Tab w) :
    Calls Tryd.prog 3 #[.agg #[.slice ao m cap]] w fun e w' => e = .returned (.bool true) ∧ Below w.heap.size w w' := by
  obtain ⟨z, hz⟩ : ∃ z, szP m L 1048576 = z := ⟨_, rfl⟩
  have HZ := hid hz
  clear hz
  by_cases hneg : z < 0
  · go_enter Tryd.func3, Tryd.ntmps3
    go_wp2_with (go_at_call 5; refine (szPlan_any _ _ _ A L C _ _ (hp.1.below (bel_one _ _)) hm hL (by omega) (by omega)).mono ?_; rintro e w1 ⟨he, hb1⟩; rw [HZ.out] at he; subst he)
    go_ret
    exact ⟨rfl, bel_trans (bel_one _ _) hb1⟩
  obtain ⟨hm1, hL1⟩ := szP_ok (m := m) (L := L) (left := 1048576) (by omega) (by rw [HZ.out]; omega)
  have hm2 : m ≤ 1048576 := by omega
  have hL2 : ∀ i, i < m → L i ≤ 1048576 := fun i hi => by have := hL1 i hi; omega
  clear hm1 hL1
  obtain ⟨pc, pb, ps, hP⟩ : ∃ pc pb ps, planOk m L S = (pc, pb, ps) := ⟨_, _, _, rfl⟩
  have HP := hid hP
  clear hP
  go_enter Tryd.func3, Tryd.ntmps3
  go_wp2_with fail
  refine (szPlan_any _ _ _ A L C _ _ (hp.1.below (bel_one _ _)) hm hL (by omega) (by omega)).mono ?_
  rintro e w1 ⟨he, hb1⟩
  rw [HZ.out] at he
  subst he
  have hz1 : w.heap.size < w1.heap.size := by have := hb1.size; simp at this; omega
  have k1 : w1.cell? ⟨w.heap.size, 0, none⟩ = some (.slice ao m cap) := (hb1.cell (by simp)).trans (by simp)
  have B1 : Below w.heap.size w w1 := bel_trans (bel_one _ _) hb1
  go_wp2_with fail
  refine (toPlan_any _ _ _ A L C S _ (hp.below B1) hm2 hL2).mono ?_
  rintro e w2 ⟨g2, c2, A2, rfl, hg2, hp2, hh2, hb2⟩
  have k2 := (hb2.cell (p := ⟨w.heap.size, 0, none⟩) hz1).trans k1
  have B2 : Below w.heap.size w w2 := bel_trans B1 hb2
  have hz2 : w.heap.size < w2.heap.size := by have := hb2.size; omega
  go_wp2_with fail
  refine (specOk_any _ _ _ A2 L L S _ hp2 hm2 hL2).mono ?_
  rintro e w3 ⟨he, hb3⟩
  rw [HP.out] at he
  subst he
  have k3 := (hb3.cell (p := ⟨w.heap.size, 0, none⟩) hz2).trans k2
  have B3 : Below w.heap.size w w3 := bel_trans B2 hb3
  have hz3 : w.heap.size < w3.heap.size := by have := hb3.size; omega
  go_wp2_with fail
  refine (toPlan_any _ _ _ A L C S _ (hp.below (bel_alloc B3 _)) hm2 hL2).mono ?_
  rintro e w4 ⟨g4, c4, A4, rfl, hg4, hp4, hh4, hb4⟩
  have k4 := ((bel_trans (bel_one _ _) hb4).cell (p := ⟨w.heap.size, 0, none⟩) hz3).trans k3
  have B4 : Below w.heap.size w w4 := bel_trans (bel_alloc B3 _) hb4
  have hz4 : w3.heap.size < w4.heap.size := by have := hb4.size; simp at this; omega
  have a0 : w4.cell? ⟨w3.heap.size, 0, none⟩ = some (.int .i64 pc) := (hb4.cell (by simp)).trans (by simp)
  have a1 : w4.cell? ⟨w3.heap.size, 1, none⟩ = some (.int .i64 pb) := (hb4.cell (by simp)).trans (by simp)
  have a2 : w4.cell? ⟨w3.heap.size, 2, none⟩ = some (.int .i64 ps) := (hb4.cell (by simp)).trans (by simp)
  go_wp2_with fail
  refine (implOk_any _ _ _ A4 L L S _ (hp4.below (bel_one _ _)) hm2 hL2 (htab.below (bel_alloc B4 _))).mono ?_
  rintro e w5 ⟨he, hb5⟩
  rw [HP.out] at he
  subst he
  have B45 : Below w4.heap.size w4 w5 := bel_trans (bel_one _ _) hb5
  have k5 := (B45.cell (p := ⟨w.heap.size, 0, none⟩) (show w.heap.size < w4.heap.size by omega)).trans k4
  have e0 := (B45.cell (p := ⟨w3.heap.size, 0, none⟩) hz4).trans a0
  have e1 := (B45.cell (p := ⟨w3.heap.size, 1, none⟩) hz4).trans a1
  have e2 := (B45.cell (p := ⟨w3.heap.size, 2, none⟩) hz4).trans a2
  have x5 : w5.cell? ⟨w4.heap.size, 0, none⟩ = some (.slice (some ⟨g4, 0, none⟩) m c4) := (hb5.cell (by simp)).trans (by simp)
  have hz5 : w4.heap.size < w5.heap.size := by have := hb5.size; simp at this; omega
  have B5 : Below w.heap.size w w5 := bel_trans B4 B45
  have y1 : w.heap.size < w5.heap.size := by omega
  have y2 : w3.heap.size < w5.heap.size := by omega
  clear a0 a1 a2 k1 k2 k3 k4
  go_wp2_with fail
  refine (eqFault_any _ _ _ _).mono ?_
  rintro e w6 ⟨rfl, hb6⟩
  have B56 : Below w5.heap.size w5 w6 := bel_trans (bel_one _ _) hb6
  have k6 := (B56.cell (p := ⟨w.heap.size, 0, none⟩) y1).trans k5
  have x6 := (B56.cell (p := ⟨w4.heap.size, 0, none⟩) hz5).trans x5
  have hz6 : w4.heap.size < w6.heap.size := by have := B56.size; omega
  have B6 : Below w.heap.size w w6 := bel_trans B5 B56
  have hp6 : PlanAt w6 (some ⟨g4, 0, none⟩) m A4 L L S := hp4.below (bel_trans B45 B56)
  have y6 : w.heap.size < w6.heap.size := by omega
  clear k5 x5 e0 e1 e2
  go_wp2_with fail
  go_region_with (first | (go_at_call 7; refine (toPlan_any _ _ _ A L C S _ (by exact hp.below ((Below.drew B6))) hm2 hL2).mono ?_; rintro e w7 ⟨g7, c7, A7, rfl, hg7, hp7, hh7, hb7⟩; have x7 : w7.cell? ⟨w4.heap.size, 0, none⟩ = some (.slice (some ⟨g4, 0, none⟩) m c4) := (hb7.cell (p := ⟨w4.heap.size, 0, none⟩) hz6).trans x6; have hz7 : w4.heap.size < w7.heap.size := (by have := hb7.size; have h : w6.drew.heap.size = w6.heap.size := rfl; omega)) | (go_at_call 10; refine (eqPlan_any _ _ _ _ _ A4 A7 L L L S _ (by exact hp6.below (bel_trans (Below.drew (Below.refl _ _)) hb7)) hp7 hm2 hL2).mono ?_; rintro e w8 ⟨rfl, hb8⟩))
  all_goals (go_wp2_with fail; go_ret; exact ⟨rfl, bel_trans (bel_trans (Below.drew B6) hb7) hb8⟩)

end Go.Proofs.YtkoccaheckkbdaaDoor
