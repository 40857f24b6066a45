/- The faults 4, 5 and 6 as the program finds them: the walks of placeFault, blockFault. -/
import Derived.Test.YtkoccaheckkbdaaDoorInside
import Derived.Test.YtkoccaheckkbdaaDoorShapeImpl
namespace Go.Proofs.YtkoccaheckkbdaaDoor
open Go.RowKit

/-- The fault of one step at its place. -/
def pf (s : Stp) (deep : Nat) (dfr : Bool) (room : Int) : Int := if room < s.size then 4 else if headB s.op = true ∧ deep = 12 then 5 else if s.op = 10 ∧ dfr = true then 6 else 0

set_option maxRecDepth 100000 in
set_option maxHeartbeats 4000000 in
theorem placeFault_any (o a b n s x y : Int) (deep : Nat) (dfr : Bool) (room : Int) (w : World) (ht : Tab w) (ho : 1 ≤ o ∧ o ≤ 15) :
    Calls Tryd.prog 33 #[.agg #[.int .i64 o, .int .i64 a, .int .i64 b, .int .i64 n, .int .i64 s], .agg #[.int .i64 x, .int .i64 y, .int .i64 deep, .bool dfr], .int .i64 room] w fun e w' =>
      e = .returned (.int .i64 (pf ⟨o, a, b, n, s⟩ deep dfr room)) ∧ Below w.heap.size w w' := by
  have hz := ht.1
  rcases op_cases o with rfl | rfl | rfl | rfl | rfl | rfl | rfl | rfl | rfl | rfl | rfl | rfl | rfl | rfl | rfl | h | h
  · have t4 : w.cell? ⟨0, 9, none⟩ = some (.bool false) := ht.2 9 (by omega)
    cases dfr
    all_goals
      go_enter Tryd.func33, Tryd.ntmps33
      go_wp2_with fail
      all_goals go_ret
      all_goals refine ⟨ret_int ?_, bel_alloc (bel_one _ _) _⟩
      all_goals go_light
      all_goals (unfold pf headB; simp only []; (repeat' split) <;> first | rfl | omega | simp_all)
  · have t4 : w.cell? ⟨0, 14, none⟩ = some (.bool false) := ht.2 14 (by omega)
    cases dfr
    all_goals
      go_enter Tryd.func33, Tryd.ntmps33
      go_wp2_with fail
      all_goals go_ret
      all_goals refine ⟨ret_int ?_, bel_alloc (bel_one _ _) _⟩
      all_goals go_light
      all_goals (unfold pf headB; simp only []; (repeat' split) <;> first | rfl | omega | simp_all)
  · have t4 : w.cell? ⟨0, 19, none⟩ = some (.bool false) := ht.2 19 (by omega)
    cases dfr
    all_goals
      go_enter Tryd.func33, Tryd.ntmps33
      go_wp2_with fail
      all_goals go_ret
      all_goals refine ⟨ret_int ?_, bel_alloc (bel_one _ _) _⟩
      all_goals go_light
      all_goals (unfold pf headB; simp only []; (repeat' split) <;> first | rfl | omega | simp_all)
  · have t4 : w.cell? ⟨0, 24, none⟩ = some (.bool false) := ht.2 24 (by omega)
    cases dfr
    all_goals
      go_enter Tryd.func33, Tryd.ntmps33
      go_wp2_with fail
      all_goals go_ret
      all_goals refine ⟨ret_int ?_, bel_alloc (bel_one _ _) _⟩
      all_goals go_light
      all_goals (unfold pf headB; simp only []; (repeat' split) <;> first | rfl | omega | simp_all)
  · have t4 : w.cell? ⟨0, 29, none⟩ = some (.bool false) := ht.2 29 (by omega)
    cases dfr
    all_goals
      go_enter Tryd.func33, Tryd.ntmps33
      go_wp2_with fail
      all_goals go_ret
      all_goals refine ⟨ret_int ?_, bel_alloc (bel_one _ _) _⟩
      all_goals go_light
      all_goals (unfold pf headB; simp only []; (repeat' split) <;> first | rfl | omega | simp_all)
  · have t4 : w.cell? ⟨0, 34, none⟩ = some (.bool false) := ht.2 34 (by omega)
    cases dfr
    all_goals
      go_enter Tryd.func33, Tryd.ntmps33
      go_wp2_with fail
      all_goals go_ret
      all_goals refine ⟨ret_int ?_, bel_alloc (bel_one _ _) _⟩
      all_goals go_light
      all_goals (unfold pf headB; simp only []; (repeat' split) <;> first | rfl | omega | simp_all)
  · have t4 : w.cell? ⟨0, 39, none⟩ = some (.bool false) := ht.2 39 (by omega)
    cases dfr
    all_goals
      go_enter Tryd.func33, Tryd.ntmps33
      go_wp2_with fail
      all_goals go_ret
      all_goals refine ⟨ret_int ?_, bel_alloc (bel_one _ _) _⟩
      all_goals go_light
      all_goals (unfold pf headB; simp only []; (repeat' split) <;> first | rfl | omega | simp_all)
  · have t4 : w.cell? ⟨0, 44, none⟩ = some (.bool false) := ht.2 44 (by omega)
    cases dfr
    all_goals
      go_enter Tryd.func33, Tryd.ntmps33
      go_wp2_with fail
      all_goals go_ret
      all_goals refine ⟨ret_int ?_, bel_alloc (bel_one _ _) _⟩
      all_goals go_light
      all_goals (unfold pf headB; simp only []; (repeat' split) <;> first | rfl | omega | simp_all)
  · have t4 : w.cell? ⟨0, 49, none⟩ = some (.bool false) := ht.2 49 (by omega)
    cases dfr
    all_goals
      go_enter Tryd.func33, Tryd.ntmps33
      go_wp2_with fail
      all_goals go_ret
      all_goals refine ⟨ret_int ?_, bel_alloc (bel_one _ _) _⟩
      all_goals go_light
      all_goals (unfold pf headB; simp only []; (repeat' split) <;> first | rfl | omega | simp_all)
  · have t4 : w.cell? ⟨0, 54, none⟩ = some (.bool false) := ht.2 54 (by omega)
    cases dfr
    all_goals
      go_enter Tryd.func33, Tryd.ntmps33
      go_wp2_with fail
      all_goals go_ret
      all_goals refine ⟨ret_int ?_, bel_alloc (bel_one _ _) _⟩
      all_goals go_light
      all_goals (unfold pf headB; simp only []; (repeat' split) <;> first | rfl | omega | simp_all)
  · have t4 : w.cell? ⟨0, 59, none⟩ = some (.bool true) := ht.2 59 (by omega)
    rcases (show deep < 12 ∨ deep = 12 ∨ 12 < deep by omega) with hd | rfl | hd <;> cases dfr
    all_goals
      go_enter Tryd.func33, Tryd.ntmps33
      go_wp2_with fail
      all_goals go_ret
      all_goals refine ⟨ret_int ?_, bel_alloc (bel_one _ _) _⟩
      all_goals go_light
      all_goals (unfold pf headB; simp only []; (repeat' split) <;> first | rfl | omega | simp_all)
  · have t4 : w.cell? ⟨0, 64, none⟩ = some (.bool true) := ht.2 64 (by omega)
    rcases (show deep < 12 ∨ deep = 12 ∨ 12 < deep by omega) with hd | rfl | hd <;> cases dfr
    all_goals
      go_enter Tryd.func33, Tryd.ntmps33
      go_wp2_with fail
      all_goals go_ret
      all_goals refine ⟨ret_int ?_, bel_alloc (bel_one _ _) _⟩
      all_goals go_light
      all_goals (unfold pf headB; simp only []; (repeat' split) <;> first | rfl | omega | simp_all)
  · have t4 : w.cell? ⟨0, 69, none⟩ = some (.bool true) := ht.2 69 (by omega)
    rcases (show deep < 12 ∨ deep = 12 ∨ 12 < deep by omega) with hd | rfl | hd <;> cases dfr
    all_goals
      go_enter Tryd.func33, Tryd.ntmps33
      go_wp2_with fail
      all_goals go_ret
      all_goals refine ⟨ret_int ?_, bel_alloc (bel_one _ _) _⟩
      all_goals go_light
      all_goals (unfold pf headB; simp only []; (repeat' split) <;> first | rfl | omega | simp_all)
  · have t4 : w.cell? ⟨0, 74, none⟩ = some (.bool true) := ht.2 74 (by omega)
    rcases (show deep < 12 ∨ deep = 12 ∨ 12 < deep by omega) with hd | rfl | hd <;> cases dfr
    all_goals
      go_enter Tryd.func33, Tryd.ntmps33
      go_wp2_with fail
      all_goals go_ret
      all_goals refine ⟨ret_int ?_, bel_alloc (bel_one _ _) _⟩
      all_goals go_light
      all_goals (unfold pf headB; simp only []; (repeat' split) <;> first | rfl | omega | simp_all)
  · have t4 : w.cell? ⟨0, 79, none⟩ = some (.bool true) := ht.2 79 (by omega)
    rcases (show deep < 12 ∨ deep = 12 ∨ 12 < deep by omega) with hd | rfl | hd <;> cases dfr
    all_goals
      go_enter Tryd.func33, Tryd.ntmps33
      go_wp2_with fail
      all_goals go_ret
      all_goals refine ⟨ret_int ?_, bel_alloc (bel_one _ _) _⟩
      all_goals go_light
      all_goals (unfold pf headB; simp only []; (repeat' split) <;> first | rfl | omega | simp_all)
  · omega
  · omega

end Go.Proofs.YtkoccaheckkbdaaDoor
