/- The shape of a step, by the program's table: the walks of upTo, sizeOk, stepOk. -/
import Derived.Test.YtkoccaheckkbdaaDoorShape
namespace Go.Proofs.YtkoccaheckkbdaaDoor
open Go.RowKit

/-- What the table of shapes holds, cell by cell: five for an Op. -/
def tab : List Value := [.int .i64 0, .int .i64 0, .bool false, .bool false, .bool false, .int .i64 3, .int .i64 0, .bool false, .bool true, .bool false, .int .i64 3, .int .i64 3, .bool false, .bool true, .bool false, .int .i64 3, .int .i64 0, .bool false, .bool false, .bool false, .int .i64 3, .int .i64 0, .bool true, .bool false, .bool false, .int .i64 3, .int .i64 3, .bool false, .bool false, .bool false, .int .i64 3, .int .i64 0, .bool false, .bool false, .bool false, .int .i64 3, .int .i64 3, .bool false, .bool false, .bool false, .int .i64 3, .int .i64 3, .bool false, .bool false, .bool false, .int .i64 3, .int .i64 0, .bool false, .bool false, .bool false, .int .i64 3, .int .i64 0, .bool false, .bool false, .bool false, .int .i64 3, .int .i64 0, .bool false, .bool false, .bool true, .int .i64 0, .int .i64 0, .bool false, .bool false, .bool true, .int .i64 0, .int .i64 0, .bool false, .bool false, .bool true, .int .i64 3, .int .i64 0, .bool false, .bool false, .bool true, .int .i64 3, .int .i64 0, .bool false, .bool false, .bool true]
/-- The table lies in block 0. -/
def Tab (w : World) : Prop := 0 < w.heap.size ∧ ∀ i, i < 80 → w.cell? ⟨0, i, none⟩ = tab[i]?
theorem Tab.below {w w' : World} (h : Tab w) (hb : Below w.heap.size w w') : Tab w' :=
  ⟨Nat.lt_of_lt_of_le h.1 hb.size, fun i hi => (hb.cell h.1).trans (h.2 i hi)⟩

def upB (n top : Int) : Bool := decide (0 ≤ n ∧ n ≤ top)
def szB (size : Int) (head : Bool) : Bool := size == 0 || (head && decide (0 < size))

theorem upB_three (n : Int) : upB n 3 = regB n := by unfold upB regB; rw [Bool.eq_iff_iff]; simp; omega
theorem upB_zero (n : Int) : upB n 0 = (n == 0) := by unfold upB; rw [Bool.eq_iff_iff]; simp; omega
theorem upB_pred (n : Int) (m : Nat) : upB n ((m : Int) - 1) = (decide (0 ≤ n) && decide (n < m)) := by unfold upB; rw [Bool.eq_iff_iff]; simp; omega
theorem szB_no (s : Int) : szB s false = (s == 0) := by unfold szB; simp
theorem szB_yes (s : Int) : szB s true = decide (0 ≤ s) := by unfold szB; rw [Bool.eq_iff_iff]; simp; omega

set_option maxHeartbeats 400000 in
theorem upTo_any (n top : Int) (w : World) : Calls Tryd.prog 31 #[.int .i64 n, .int .i64 top] w fun e w' => e = .returned (.bool (upB n top)) ∧ w' = w := by
  go_enter Tryd.func31, Tryd.ntmps31
  go_wp2
  all_goals go_ret
  all_goals exact ⟨ret_bool (by unfold upB; rw [Bool.eq_iff_iff]; simp; omega), rfl⟩

set_option maxHeartbeats 400000 in
theorem sizeOk_any (s : Int) (h : Bool) (w : World) : Calls Tryd.prog 32 #[.int .i64 s, .bool h] w fun e w' => e = .returned (.bool (szB s h)) ∧ w' = w := by
  cases h
  all_goals
    by_cases hs : s = 0
    all_goals
      go_enter Tryd.func32, Tryd.ntmps32
      go_wp2
      go_ret
      exact ⟨ret_bool (by unfold szB; simp [hs]), rfl⟩

set_option maxRecDepth 100000 in
set_option maxHeartbeats 4000000 in
theorem stepOk_any (m : Nat) (o a b n s : Int) (w : World) (ht : Tab w) (hm : m ≤ 1048576) :
    Calls Tryd.prog 17 #[.agg #[.int .i64 o, .int .i64 a, .int .i64 b, .int .i64 n, .int .i64 s], .int .i64 m] w fun e w' => e = .returned (.bool (shp m ⟨o, a, b, n, s⟩)) ∧ Below w.heap.size w w' := by
  have hz := ht.1
  have e3 := upB_three
  have e0 := upB_zero
  have ep := upB_pred b m
  have zn := szB_no
  have zy := szB_yes
  rcases op_cases o with rfl | rfl | rfl | rfl | rfl | rfl | rfl | rfl | rfl | rfl | rfl | rfl | rfl | rfl | rfl | h | h
  · have t0 : w.cell? ⟨0, 5, none⟩ = some (.int .i64 3) := ht.2 5 (by omega)
    have t1 : w.cell? ⟨0, 6, none⟩ = some (.int .i64 0) := ht.2 6 (by omega)
    have t2 : w.cell? ⟨0, 7, none⟩ = some (.bool false) := ht.2 7 (by omega)
    have t3 : w.cell? ⟨0, 8, none⟩ = some (.bool true) := ht.2 8 (by omega)
    have t4 : w.cell? ⟨0, 9, none⟩ = some (.bool false) := ht.2 9 (by omega)
    go_enter Tryd.func17, Tryd.ntmps17
    go_wp2_with (first | (go_at_call 31; refine (upTo_any _ _ _).mono ?_; rintro e w' ⟨rfl, rfl⟩) | (go_at_call 32; refine (sizeOk_any _ _ _).mono ?_; rintro e w' ⟨rfl, rfl⟩))
    all_goals go_ret
    all_goals refine ⟨ret_bool ?_, bel_alloc (bel_one _ _) _⟩
    all_goals go_light
    all_goals (simp [shp, *] <;> omega)
  · have t0 : w.cell? ⟨0, 10, none⟩ = some (.int .i64 3) := ht.2 10 (by omega)
    have t1 : w.cell? ⟨0, 11, none⟩ = some (.int .i64 3) := ht.2 11 (by omega)
    have t2 : w.cell? ⟨0, 12, none⟩ = some (.bool false) := ht.2 12 (by omega)
    have t3 : w.cell? ⟨0, 13, none⟩ = some (.bool true) := ht.2 13 (by omega)
    have t4 : w.cell? ⟨0, 14, none⟩ = some (.bool false) := ht.2 14 (by omega)
    go_enter Tryd.func17, Tryd.ntmps17
    go_wp2_with (first | (go_at_call 31; refine (upTo_any _ _ _).mono ?_; rintro e w' ⟨rfl, rfl⟩) | (go_at_call 32; refine (sizeOk_any _ _ _).mono ?_; rintro e w' ⟨rfl, rfl⟩))
    all_goals go_ret
    all_goals refine ⟨ret_bool ?_, bel_alloc (bel_one _ _) _⟩
    all_goals go_light
    all_goals (simp [shp, *] <;> omega)
  · have t0 : w.cell? ⟨0, 15, none⟩ = some (.int .i64 3) := ht.2 15 (by omega)
    have t1 : w.cell? ⟨0, 16, none⟩ = some (.int .i64 0) := ht.2 16 (by omega)
    have t2 : w.cell? ⟨0, 17, none⟩ = some (.bool false) := ht.2 17 (by omega)
    have t3 : w.cell? ⟨0, 18, none⟩ = some (.bool false) := ht.2 18 (by omega)
    have t4 : w.cell? ⟨0, 19, none⟩ = some (.bool false) := ht.2 19 (by omega)
    go_enter Tryd.func17, Tryd.ntmps17
    go_wp2_with (first | (go_at_call 31; refine (upTo_any _ _ _).mono ?_; rintro e w' ⟨rfl, rfl⟩) | (go_at_call 32; refine (sizeOk_any _ _ _).mono ?_; rintro e w' ⟨rfl, rfl⟩))
    all_goals go_ret
    all_goals refine ⟨ret_bool ?_, bel_alloc (bel_one _ _) _⟩
    all_goals go_light
    all_goals (simp [shp, *] <;> omega)
  · have t0 : w.cell? ⟨0, 20, none⟩ = some (.int .i64 3) := ht.2 20 (by omega)
    have t1 : w.cell? ⟨0, 21, none⟩ = some (.int .i64 0) := ht.2 21 (by omega)
    have t2 : w.cell? ⟨0, 22, none⟩ = some (.bool true) := ht.2 22 (by omega)
    have t3 : w.cell? ⟨0, 23, none⟩ = some (.bool false) := ht.2 23 (by omega)
    have t4 : w.cell? ⟨0, 24, none⟩ = some (.bool false) := ht.2 24 (by omega)
    go_enter Tryd.func17, Tryd.ntmps17
    go_wp2_with (first | (go_at_call 31; refine (upTo_any _ _ _).mono ?_; rintro e w' ⟨rfl, rfl⟩) | (go_at_call 32; refine (sizeOk_any _ _ _).mono ?_; rintro e w' ⟨rfl, rfl⟩))
    all_goals go_ret
    all_goals refine ⟨ret_bool ?_, bel_alloc (bel_one _ _) _⟩
    all_goals go_light
    all_goals (simp [shp, *] <;> omega)
  · have t0 : w.cell? ⟨0, 25, none⟩ = some (.int .i64 3) := ht.2 25 (by omega)
    have t1 : w.cell? ⟨0, 26, none⟩ = some (.int .i64 3) := ht.2 26 (by omega)
    have t2 : w.cell? ⟨0, 27, none⟩ = some (.bool false) := ht.2 27 (by omega)
    have t3 : w.cell? ⟨0, 28, none⟩ = some (.bool false) := ht.2 28 (by omega)
    have t4 : w.cell? ⟨0, 29, none⟩ = some (.bool false) := ht.2 29 (by omega)
    go_enter Tryd.func17, Tryd.ntmps17
    go_wp2_with (first | (go_at_call 31; refine (upTo_any _ _ _).mono ?_; rintro e w' ⟨rfl, rfl⟩) | (go_at_call 32; refine (sizeOk_any _ _ _).mono ?_; rintro e w' ⟨rfl, rfl⟩))
    all_goals go_ret
    all_goals refine ⟨ret_bool ?_, bel_alloc (bel_one _ _) _⟩
    all_goals go_light
    all_goals (simp [shp, *] <;> omega)
  · have t0 : w.cell? ⟨0, 30, none⟩ = some (.int .i64 3) := ht.2 30 (by omega)
    have t1 : w.cell? ⟨0, 31, none⟩ = some (.int .i64 0) := ht.2 31 (by omega)
    have t2 : w.cell? ⟨0, 32, none⟩ = some (.bool false) := ht.2 32 (by omega)
    have t3 : w.cell? ⟨0, 33, none⟩ = some (.bool false) := ht.2 33 (by omega)
    have t4 : w.cell? ⟨0, 34, none⟩ = some (.bool false) := ht.2 34 (by omega)
    go_enter Tryd.func17, Tryd.ntmps17
    go_wp2_with (first | (go_at_call 31; refine (upTo_any _ _ _).mono ?_; rintro e w' ⟨rfl, rfl⟩) | (go_at_call 32; refine (sizeOk_any _ _ _).mono ?_; rintro e w' ⟨rfl, rfl⟩))
    all_goals go_ret
    all_goals refine ⟨ret_bool ?_, bel_alloc (bel_one _ _) _⟩
    all_goals go_light
    all_goals (simp [shp, *] <;> omega)
  · have t0 : w.cell? ⟨0, 35, none⟩ = some (.int .i64 3) := ht.2 35 (by omega)
    have t1 : w.cell? ⟨0, 36, none⟩ = some (.int .i64 3) := ht.2 36 (by omega)
    have t2 : w.cell? ⟨0, 37, none⟩ = some (.bool false) := ht.2 37 (by omega)
    have t3 : w.cell? ⟨0, 38, none⟩ = some (.bool false) := ht.2 38 (by omega)
    have t4 : w.cell? ⟨0, 39, none⟩ = some (.bool false) := ht.2 39 (by omega)
    go_enter Tryd.func17, Tryd.ntmps17
    go_wp2_with (first | (go_at_call 31; refine (upTo_any _ _ _).mono ?_; rintro e w' ⟨rfl, rfl⟩) | (go_at_call 32; refine (sizeOk_any _ _ _).mono ?_; rintro e w' ⟨rfl, rfl⟩))
    all_goals go_ret
    all_goals refine ⟨ret_bool ?_, bel_alloc (bel_one _ _) _⟩
    all_goals go_light
    all_goals (simp [shp, *] <;> omega)
  · have t0 : w.cell? ⟨0, 40, none⟩ = some (.int .i64 3) := ht.2 40 (by omega)
    have t1 : w.cell? ⟨0, 41, none⟩ = some (.int .i64 3) := ht.2 41 (by omega)
    have t2 : w.cell? ⟨0, 42, none⟩ = some (.bool false) := ht.2 42 (by omega)
    have t3 : w.cell? ⟨0, 43, none⟩ = some (.bool false) := ht.2 43 (by omega)
    have t4 : w.cell? ⟨0, 44, none⟩ = some (.bool false) := ht.2 44 (by omega)
    go_enter Tryd.func17, Tryd.ntmps17
    go_wp2_with (first | (go_at_call 31; refine (upTo_any _ _ _).mono ?_; rintro e w' ⟨rfl, rfl⟩) | (go_at_call 32; refine (sizeOk_any _ _ _).mono ?_; rintro e w' ⟨rfl, rfl⟩))
    all_goals go_ret
    all_goals refine ⟨ret_bool ?_, bel_alloc (bel_one _ _) _⟩
    all_goals go_light
    all_goals (simp [shp, *] <;> omega)
  · have t0 : w.cell? ⟨0, 45, none⟩ = some (.int .i64 3) := ht.2 45 (by omega)
    have t1 : w.cell? ⟨0, 46, none⟩ = some (.int .i64 0) := ht.2 46 (by omega)
    have t2 : w.cell? ⟨0, 47, none⟩ = some (.bool false) := ht.2 47 (by omega)
    have t3 : w.cell? ⟨0, 48, none⟩ = some (.bool false) := ht.2 48 (by omega)
    have t4 : w.cell? ⟨0, 49, none⟩ = some (.bool false) := ht.2 49 (by omega)
    go_enter Tryd.func17, Tryd.ntmps17
    go_wp2_with (first | (go_at_call 31; refine (upTo_any _ _ _).mono ?_; rintro e w' ⟨rfl, rfl⟩) | (go_at_call 32; refine (sizeOk_any _ _ _).mono ?_; rintro e w' ⟨rfl, rfl⟩))
    all_goals go_ret
    all_goals refine ⟨ret_bool ?_, bel_alloc (bel_one _ _) _⟩
    all_goals go_light
    all_goals (simp [shp, *] <;> omega)
  · have t0 : w.cell? ⟨0, 50, none⟩ = some (.int .i64 3) := ht.2 50 (by omega)
    have t1 : w.cell? ⟨0, 51, none⟩ = some (.int .i64 0) := ht.2 51 (by omega)
    have t2 : w.cell? ⟨0, 52, none⟩ = some (.bool false) := ht.2 52 (by omega)
    have t3 : w.cell? ⟨0, 53, none⟩ = some (.bool false) := ht.2 53 (by omega)
    have t4 : w.cell? ⟨0, 54, none⟩ = some (.bool false) := ht.2 54 (by omega)
    go_enter Tryd.func17, Tryd.ntmps17
    go_wp2_with (first | (go_at_call 31; refine (upTo_any _ _ _).mono ?_; rintro e w' ⟨rfl, rfl⟩) | (go_at_call 32; refine (sizeOk_any _ _ _).mono ?_; rintro e w' ⟨rfl, rfl⟩))
    all_goals go_ret
    all_goals refine ⟨ret_bool ?_, bel_alloc (bel_one _ _) _⟩
    all_goals go_light
    all_goals (simp [shp, *] <;> omega)
  · have t0 : w.cell? ⟨0, 55, none⟩ = some (.int .i64 3) := ht.2 55 (by omega)
    have t1 : w.cell? ⟨0, 56, none⟩ = some (.int .i64 0) := ht.2 56 (by omega)
    have t2 : w.cell? ⟨0, 57, none⟩ = some (.bool false) := ht.2 57 (by omega)
    have t3 : w.cell? ⟨0, 58, none⟩ = some (.bool false) := ht.2 58 (by omega)
    have t4 : w.cell? ⟨0, 59, none⟩ = some (.bool true) := ht.2 59 (by omega)
    go_enter Tryd.func17, Tryd.ntmps17
    go_wp2_with (first | (go_at_call 31; refine (upTo_any _ _ _).mono ?_; rintro e w' ⟨rfl, rfl⟩) | (go_at_call 32; refine (sizeOk_any _ _ _).mono ?_; rintro e w' ⟨rfl, rfl⟩))
    all_goals go_ret
    all_goals refine ⟨ret_bool ?_, bel_alloc (bel_one _ _) _⟩
    all_goals go_light
    all_goals (simp [shp, *] <;> omega)
  · have t0 : w.cell? ⟨0, 60, none⟩ = some (.int .i64 0) := ht.2 60 (by omega)
    have t1 : w.cell? ⟨0, 61, none⟩ = some (.int .i64 0) := ht.2 61 (by omega)
    have t2 : w.cell? ⟨0, 62, none⟩ = some (.bool false) := ht.2 62 (by omega)
    have t3 : w.cell? ⟨0, 63, none⟩ = some (.bool false) := ht.2 63 (by omega)
    have t4 : w.cell? ⟨0, 64, none⟩ = some (.bool true) := ht.2 64 (by omega)
    go_enter Tryd.func17, Tryd.ntmps17
    go_wp2_with (first | (go_at_call 31; refine (upTo_any _ _ _).mono ?_; rintro e w' ⟨rfl, rfl⟩) | (go_at_call 32; refine (sizeOk_any _ _ _).mono ?_; rintro e w' ⟨rfl, rfl⟩))
    all_goals go_ret
    all_goals refine ⟨ret_bool ?_, bel_alloc (bel_one _ _) _⟩
    all_goals go_light
    all_goals (simp [shp, *] <;> omega)
  · have t0 : w.cell? ⟨0, 65, none⟩ = some (.int .i64 0) := ht.2 65 (by omega)
    have t1 : w.cell? ⟨0, 66, none⟩ = some (.int .i64 0) := ht.2 66 (by omega)
    have t2 : w.cell? ⟨0, 67, none⟩ = some (.bool false) := ht.2 67 (by omega)
    have t3 : w.cell? ⟨0, 68, none⟩ = some (.bool false) := ht.2 68 (by omega)
    have t4 : w.cell? ⟨0, 69, none⟩ = some (.bool true) := ht.2 69 (by omega)
    go_enter Tryd.func17, Tryd.ntmps17
    go_wp2_with (first | (go_at_call 31; refine (upTo_any _ _ _).mono ?_; rintro e w' ⟨rfl, rfl⟩) | (go_at_call 32; refine (sizeOk_any _ _ _).mono ?_; rintro e w' ⟨rfl, rfl⟩))
    all_goals go_ret
    all_goals refine ⟨ret_bool ?_, bel_alloc (bel_one _ _) _⟩
    all_goals go_light
    all_goals (simp [shp, *] <;> omega)
  · have t0 : w.cell? ⟨0, 70, none⟩ = some (.int .i64 3) := ht.2 70 (by omega)
    have t1 : w.cell? ⟨0, 71, none⟩ = some (.int .i64 0) := ht.2 71 (by omega)
    have t2 : w.cell? ⟨0, 72, none⟩ = some (.bool false) := ht.2 72 (by omega)
    have t3 : w.cell? ⟨0, 73, none⟩ = some (.bool false) := ht.2 73 (by omega)
    have t4 : w.cell? ⟨0, 74, none⟩ = some (.bool true) := ht.2 74 (by omega)
    go_enter Tryd.func17, Tryd.ntmps17
    go_wp2_with (first | (go_at_call 31; refine (upTo_any _ _ _).mono ?_; rintro e w' ⟨rfl, rfl⟩) | (go_at_call 32; refine (sizeOk_any _ _ _).mono ?_; rintro e w' ⟨rfl, rfl⟩))
    all_goals go_ret
    all_goals refine ⟨ret_bool ?_, bel_alloc (bel_one _ _) _⟩
    all_goals go_light
    all_goals (simp [shp, *] <;> omega)
  · have t0 : w.cell? ⟨0, 75, none⟩ = some (.int .i64 3) := ht.2 75 (by omega)
    have t1 : w.cell? ⟨0, 76, none⟩ = some (.int .i64 0) := ht.2 76 (by omega)
    have t2 : w.cell? ⟨0, 77, none⟩ = some (.bool false) := ht.2 77 (by omega)
    have t3 : w.cell? ⟨0, 78, none⟩ = some (.bool false) := ht.2 78 (by omega)
    have t4 : w.cell? ⟨0, 79, none⟩ = some (.bool true) := ht.2 79 (by omega)
    go_enter Tryd.func17, Tryd.ntmps17
    go_wp2_with (first | (go_at_call 31; refine (upTo_any _ _ _).mono ?_; rintro e w' ⟨rfl, rfl⟩) | (go_at_call 32; refine (sizeOk_any _ _ _).mono ?_; rintro e w' ⟨rfl, rfl⟩))
    all_goals go_ret
    all_goals refine ⟨ret_bool ?_, bel_alloc (bel_one _ _) _⟩
    all_goals go_light
    all_goals (simp [shp, *] <;> omega)
  · rw [shp_other _ _ _ _ _ _ (.inl h)]
    go_enter Tryd.func17, Tryd.ntmps17
    go_wp2_with fail
    go_ret
    exact ⟨rfl, bel_one _ _⟩
  · rw [shp_other _ _ _ _ _ _ (.inr h)]
    go_enter Tryd.func17, Tryd.ntmps17
    go_wp2_with fail
    go_ret
    exact ⟨rfl, bel_one _ _⟩

end Go.Proofs.YtkoccaheckkbdaaDoor
