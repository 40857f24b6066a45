/- The walks of szStepS, szBody, szBodyS, szPlan. -/
import Derived.Test.YtkoccaheckkbdaaDoorPlain
namespace Go.Proofs.YtkoccaheckkbdaaDoor
open Go.RowKit

set_option maxHeartbeats 400000 in
theorem szStepS_any (ao : Option Addr) (n cap : Nat) (left : Int) (w : World) (hn : n ≤ 9223372036854775807) (h0 : 0 ≤ left) (h1 : left ≤ 1048576) :
    Calls Tryd.prog 43 #[.slice ao n cap, .int .i64 left] w fun e w' => e = .returned (.int .i64 (szS n left)) ∧ w' = w := by
  go_enter Tryd.func43, Tryd.ntmps43
  go_wp2
  all_goals go_ret
  · exact ⟨ret_int (by unfold szS; split <;> omega), rfl⟩
  · exact ⟨ret_int (by unfold szS; split <;> omega), rfl⟩

set_option maxHeartbeats 400000 in
theorem szBody_any (ao : Option Addr) (n cap : Nat) (left : Int) (w : World) (hn : n ≤ 9223372036854775807) (h0 : 0 ≤ left) (h1 : left ≤ 1048576) :
    Calls Tryd.prog 27 #[.agg #[.slice ao n cap], .int .i64 left] w fun e w' => e = .returned (.int .i64 (szS n left)) ∧ Below w.heap.size w w' := by
  have hs := szS_le n left (by omega)
  go_enter Tryd.func27, Tryd.ntmps27
  go_wp2_with (go_at_call 43; refine (szStepS_any _ _ _ _ _ (by omega) (by omega) (by omega)).mono ?_; rintro e w' ⟨rfl, rfl⟩)
  all_goals go_ret
  · exact ⟨ret_int (by omega), bel_one _ _⟩
  · exact ⟨rfl, bel_one _ _⟩

set_option maxHeartbeats 400000 in
theorem szBodyS_any (ao : Option Addr) (m cap : Nat) (A : Nat → Option Addr) (L C : Nat → Nat) (left : Int) (w : World) (hr : RowsAt w ao m A L C) (hm : m ≤ 9223372036854775807)
    (hL : ∀ i, i < m → L i ≤ 9223372036854775807) (h0 : 0 ≤ left) (h1 : left ≤ 1048576) :
    Calls Tryd.prog 13 #[.slice ao m cap, .int .i64 left] w fun e w' => e = .returned (.int .i64 (szP m L left)) ∧ Below w.heap.size w w' := by
  by_cases hneg : left - (m : Int) < 0
  · go_enter Tryd.func13, Tryd.ntmps13
    go_wp2_with fail
    go_ret
    exact ⟨ret_int (by unfold szP szS; rw [if_pos hneg]; rfl), Below.refl _ _⟩
  · have HE : Hid (szRows L m 0 (left - m) = szP m L left) := by
      unfold szP szS; rw [if_neg hneg, if_neg hneg]; rfl
    go_enter Tryd.func13, Tryd.ntmps13
    go_wp2_with fail
    go_loopw [1, 4, 5] (fun l u i wr => ∃ k : Nat, ∃ x : Int, k ≤ m ∧ i = .int .i64 k ∧ l = .int .i64 x ∧ u = .int .i64 0 ∧ 0 ≤ x ∧ x ≤ 1048576 ∧ Hid (szRows L (m - k) k x = szP m L left) ∧ Below w.heap.size w wr) (fun _ _ i _ => m - (intOf i).toNat)
    case atStart => exact ⟨0, _, Nat.zero_le _, rfl, rfl, rfl, by omega, by omega, HE, Below.refl _ _⟩
    case round =>
      obtain ⟨k, x, hk, rfl, rfl, rfl, hx0, hx1, HR, hb⟩ := hrel
      by_cases hlt : k < m
      · obtain ⟨b, off, rfl, hbl, hc⟩ := (hr.below hb) k hlt
        have hLk := hL k hlt
        have hz := szS_le (L k) x (by omega)
        go_wp2_with (go_at_call 27; refine (szBody_any _ _ _ _ _ (by omega) (by omega) (by omega)).mono ?_; rintro e w' ⟨rfl, hb2⟩)
        · go_ret
          exact ⟨ret_int (by have := HR.out; rw [show m - k = (m - (k + 1)) + 1 by omega, szRows, if_pos (by assumption)] at this; exact this), bel_trans hb hb2⟩
        · exact ⟨⟨k + 1, szS (L k) x, by omega, by go_num, rfl, rfl, by omega, by omega, by have := HR.out; rw [show m - k = (m - (k + 1)) + 1 by omega, szRows, if_neg (by omega)] at this; exact this, bel_trans hb hb2⟩, by simp [intOf]; omega⟩
      · go_wp2_with fail
        go_ret
        exact ⟨ret_int (by have := HR.out; rw [show m - k = 0 by omega] at this; exact this), hb⟩

set_option maxHeartbeats 400000 in
theorem szPlan_any (ao : Option Addr) (m cap : Nat) (A : Nat → Option Addr) (L C : Nat → Nat) (left : Int) (w : World) (hr : RowsAt w ao m A L C) (hm : m ≤ 9223372036854775807)
    (hL : ∀ i, i < m → L i ≤ 9223372036854775807) (h0 : 0 ≤ left) (h1 : left ≤ 1048576) :
    Calls Tryd.prog 5 #[.agg #[.slice ao m cap], .int .i64 left] w fun e w' => e = .returned (.int .i64 (szP m L left)) ∧ Below w.heap.size w w' := by
  have hs := szP_le m L left (by omega)
  go_enter Tryd.func5, Tryd.ntmps5
  go_wp2_with (go_at_call 13; refine (szBodyS_any _ _ _ A L C _ _ (hr.below (bel_one _ _)) hm hL h0 h1).mono ?_; rintro e w' ⟨rfl, hb⟩)
  all_goals go_ret
  · exact ⟨ret_int (by omega), bel_trans (bel_one _ _) hb⟩
  · exact ⟨rfl, bel_trans (bel_one _ _) hb⟩

end Go.Proofs.YtkoccaheckkbdaaDoor
