/- The walk of the law FnExactWritePlan. -/
import Derived.Test.YtkoccaheckkbdaaDoorLawOk
import Derived.Test.YtkoccaheckkbdaaDoorImplWrite
namespace Go.Proofs.YtkoccaheckkbdaaDoor
open Go.RowKit

theorem Tabs.up {B B' : Nat} {w w' : World} (h : Tabs B w) (hb : Below B w w') (hB : B ≤ B') : Tabs B' w' := by
  obtain ⟨⟨h1, h2⟩, h3, h4⟩ := h.below hb
  exact ⟨⟨h1, Nat.lt_of_lt_of_le h2 hB⟩, h3, fun w2 hw => h4 w2 (hw.mono hB)⟩

set_option maxRecDepth 100000 in
set_option maxHeartbeats 1000000 in
theorem lawWrite_any (ao : Option Addr) (m cap : Nat) (A : Nat → Option Addr) (L C : Nat → Nat) (S : Nat → Nat → Stp) (w : World) (hp : PlanAt w ao m A L C S) (hm : m ≤ 9223372036854775807) (hL : ∀ i, i < m → L i ≤ 9223372036854775807) (hfit : ∀ i, i < m → ∀ j, j < L i → Fit (S i j)) (htab : Tab w) (hT : Tabs w.heap.size w) :
    Calls Tryd.prog 4 #[.agg #[.slice ao m cap]] w fun e w' => e = .returned (.bool true) ∧ Below w.heap.size w w' := by
  obtain ⟨z, hz⟩ : ∃ z, szP m L 1048576 = z := ⟨_, rfl⟩
  have HZ := hid hz
  clear hz
  by_cases hneg : z < 0
  · go_enter Tryd.func4, Tryd.ntmps4
    go_wp2_with (go_at_call 5; refine (szPlan_any _ _ _ A L C _ _ (hp.1.below (bel_one _ _)) hm hL (by omega) (by omega)).mono ?_; rintro e w1 ⟨he, hb1⟩; rw [HZ.out] at he; subst he)
    go_ret
    exact ⟨rfl, bel_trans (bel_one _ _) hb1⟩
  obtain ⟨hm1, hL1⟩ := szP_ok (m := m) (L := L) (left := 1048576) (by omega) (by rw [HZ.out]; omega)
  have hm2 : m ≤ 1048576 := by omega
  have hL2 : ∀ i, i < m → L i ≤ 1048576 := fun i hi => by have := hL1 i hi; omega
  clear hm1 hL1
  obtain ⟨T, hP⟩ : ∃ T, str (planText m L S) = T := ⟨_, rfl⟩
  have HP := hid hP
  clear hP
  have HF := hid hfit
  clear hfit
  go_enter Tryd.func4, Tryd.ntmps4
  go_wp2_with fail
  refine (szPlan_any _ _ _ A L C _ _ (hp.1.below (bel_one _ _)) hm hL (by omega) (by omega)).mono ?_
  rintro e w1 ⟨he, hb1⟩
  rw [HZ.out] at he
  subst he
  have hz1 : w.heap.size < w1.heap.size := by have := hb1.size; simp at this; omega
  have k1 : w1.cell? ⟨w.heap.size, 0, none⟩ = some (.slice ao m cap) := (hb1.cell (by simp)).trans (by simp)
  have B1 : Below w.heap.size w w1 := bel_trans (bel_one _ _) hb1
  go_wp2_with fail
  refine (toPlan_any _ _ _ A L C S _ (hp.below B1) hm2 hL2).mono ?_
  rintro e w2 ⟨g2, c2, A2, rfl, hg2, hp2, hh2, hb2⟩
  have k2 := (hb2.cell (p := ⟨w.heap.size, 0, none⟩) hz1).trans k1
  have B2 : Below w.heap.size w w2 := bel_trans B1 hb2
  have hz2 : w.heap.size < w2.heap.size := by have := hb2.size; omega
  go_wp2_with fail
  refine (specWrite_any _ _ _ A2 L L S _ hp2 hm2 hL2 HF.out).mono ?_
  rintro e w3 ⟨he, hb3⟩
  rw [HP.out] at he
  subst he
  have k3 := (hb3.cell (p := ⟨w.heap.size, 0, none⟩) hz2).trans k2
  have B3 : Below w.heap.size w w3 := bel_trans B2 hb3
  have hz3 : w.heap.size < w3.heap.size := by have := hb3.size; omega
  go_wp2_with fail
  refine (toPlan_any _ _ _ A L C S _ (hp.below B3) hm2 hL2).mono ?_
  rintro e w4 ⟨g4, c4, A4, rfl, hg4, hp4, hh4, hb4⟩
  have k4 := (hb4.cell (p := ⟨w.heap.size, 0, none⟩) hz3).trans k3
  have B4 : Below w.heap.size w w4 := bel_trans B3 hb4
  have hz4 : w.heap.size < w4.heap.size := by have := hb4.size; omega
  have B4a : Below w.heap.size w (w4.alloc (Obj.cells #[.slice (some ⟨g4, 0, none⟩) m c4] 31)) := bel_alloc B4 _
  go_wp2_with fail
  refine (implWrite_any _ _ _ A4 L S _ (hp4.below (bel_one _ _)) hm2 hL2 HF.out (htab.below B4a) (hT.up B4a B4a.size)).mono ?_
  rintro e w5 ⟨he, hb5⟩
  rw [HP.out] at he
  subst he
  have B45 : Below w4.heap.size w4 w5 := bel_trans (bel_one _ _) hb5
  have k5 := (B45.cell (p := ⟨w.heap.size, 0, none⟩) hz4).trans k4
  have x5 : w5.cell? ⟨w4.heap.size, 0, none⟩ = some (.slice (some ⟨g4, 0, none⟩) m c4) := (hb5.cell (by simp)).trans (by simp)
  have hz5 : w4.heap.size < w5.heap.size := by have := hb5.size; simp at this; omega
  have B5 : Below w.heap.size w w5 := bel_trans B4 B45
  have y5 : w.heap.size < w5.heap.size := by omega
  have hp5 : PlanAt w5 (some ⟨g4, 0, none⟩) m A4 L L S := hp4.below B45
  clear k1 k2 k3 k4
  go_wp2_with fail
  go_region_with (first | (go_at_call 7; refine (toPlan_any _ _ _ A L C S _ (by exact hp.below ((Below.drew B5))) hm2 hL2).mono ?_; rintro e w7 ⟨g7, c7, A7, rfl, hg7, hp7, hh7, hb7⟩; have x7 : w7.cell? ⟨w4.heap.size, 0, none⟩ = some (.slice (some ⟨g4, 0, none⟩) m c4) := (hb7.cell (p := ⟨w4.heap.size, 0, none⟩) hz5).trans x5; have hz7 : w4.heap.size < w7.heap.size := (by have := hb7.size; have h : w5.drew.heap.size = w5.heap.size := rfl; omega)) | (go_at_call 10; refine (eqPlan_any _ _ _ _ _ A4 A7 L L L S _ (by exact hp5.below (bel_trans (Below.drew (Below.refl _ _)) hb7)) hp7 hm2 hL2).mono ?_; rintro e w8 ⟨rfl, hb8⟩))
  all_goals (go_wp2_with fail; go_ret; exact ⟨rfl, bel_trans (bel_trans (Below.drew B5) hb7) hb8⟩)

end Go.Proofs.YtkoccaheckkbdaaDoor
