/- The shape of a step: the walks of l1reg, l1block, l1shape (the specification's) and of upTo, sizeOk, stepOk (the program's). -/
import Derived.Test.YtkoccaheckkbdaaDoorPlain
import Derived.Deep.Light
namespace Go.Proofs.YtkoccaheckkbdaaDoor
open Go.RowKit

/-- A register's number. -/
def regB (r : Int) : Bool := decide (0 ≤ r ∧ r < 4)
/-- A head of a block. -/
def headB (op : Int) : Bool := decide (11 ≤ op ∧ op ≤ 15)

/-- A step has the fields that its Op wants, and no others. -/
def shp (m : Nat) (s : Stp) : Bool :=
  if s.op = 1 then regB s.a && (s.b == 0) && (s.size == 0)
  else if s.op = 2 then regB s.a && regB s.b && (s.size == 0)
  else if s.op = 3 ∨ s.op = 6 ∨ s.op = 9 ∨ s.op = 10 then regB s.a && (s.b == 0) && (s.n == 0) && (s.size == 0)
  else if s.op = 4 then regB s.a && decide (0 ≤ s.b) && decide (s.b < m) && (s.n == 0) && (s.size == 0)
  else if s.op = 5 ∨ s.op = 7 ∨ s.op = 8 then regB s.a && regB s.b && (s.n == 0) && (s.size == 0)
  else if s.op = 11 ∨ s.op = 14 ∨ s.op = 15 then regB s.a && (s.b == 0) && (s.n == 0) && decide (0 ≤ s.size)
  else if s.op = 12 ∨ s.op = 13 then (s.a == 0) && (s.b == 0) && (s.n == 0) && decide (0 ≤ s.size)
  else false

set_option maxHeartbeats 400000 in
theorem l1reg_any (r : Int) (w : World) : Calls Tryd.prog 28 #[.int .i64 r] w fun e w' => e = .returned (.bool (regB r)) ∧ w' = w := by
  go_enter Tryd.func28, Tryd.ntmps28
  go_wp2
  all_goals go_ret
  all_goals exact ⟨ret_bool (by unfold regB; first | (rw [decide_eq_true]; omega) | (symm; simp; omega) | (simp; omega)), rfl⟩

theorem shp_other (m : Nat) (o a b n s : Int) (h : o < 1 ∨ 15 < o) : shp m ⟨o, a, b, n, s⟩ = false := by
  unfold shp
  simp only []
  rw [if_neg (by omega), if_neg (by omega), if_neg (by omega), if_neg (by omega), if_neg (by omega), if_neg (by omega), if_neg (by omega)]

theorem op_cases (o : Int) : o = 1 ∨ o = 2 ∨ o = 3 ∨ o = 4 ∨ o = 5 ∨ o = 6 ∨ o = 7 ∨ o = 8 ∨ o = 9 ∨ o = 10 ∨ o = 11 ∨ o = 12 ∨ o = 13 ∨ o = 14 ∨ o = 15 ∨ o < 1 ∨ 15 < o := by omega

set_option maxRecDepth 100000 in
set_option maxHeartbeats 2000000 in
theorem l1shape_any (ao : Option Addr) (m cap : Nat) (o a b n s : Int) (w : World) :
    Calls Tryd.prog 14 #[.agg #[.slice ao m cap], .agg #[.int .i64 o, .int .i64 a, .int .i64 b, .int .i64 n, .int .i64 s]] w fun e w' => e = .returned (.bool (shp m ⟨o, a, b, n, s⟩)) ∧ Below w.heap.size w w' := by
  rcases op_cases o with rfl | rfl | rfl | rfl | rfl | rfl | rfl | rfl | rfl | rfl | rfl | rfl | rfl | rfl | rfl | h | h
  iterate 15
    · go_enter Tryd.func14, Tryd.ntmps14
      go_wp2_with (go_at_call 28; refine (l1reg_any _ _).mono ?_; rintro e w' ⟨rfl, rfl⟩)
      all_goals go_ret
      all_goals refine ⟨ret_bool ?_, bel_alloc (bel_one _ _) _⟩
      all_goals go_light
      all_goals (simp [shp, *] <;> omega)
  · rw [shp_other _ _ _ _ _ _ (.inl h)]
    go_enter Tryd.func14, Tryd.ntmps14
    go_wp2_with fail
    go_ret
    exact ⟨rfl, bel_alloc (bel_one _ _) _⟩
  · rw [shp_other _ _ _ _ _ _ (.inr h)]
    go_enter Tryd.func14, Tryd.ntmps14
    go_wp2_with fail
    go_ret
    exact ⟨rfl, bel_alloc (bel_one _ _) _⟩

end Go.Proofs.YtkoccaheckkbdaaDoor
