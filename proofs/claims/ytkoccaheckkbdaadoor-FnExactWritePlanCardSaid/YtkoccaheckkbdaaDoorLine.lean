/- A step as a line: the walks of the specification's l1name, l1line. -/
import Derived.Test.YtkoccaheckkbdaaDoorText
import Derived.Deep.RegionWith
import Derived.Deep.DeepCutAuto
namespace Go.Proofs.YtkoccaheckkbdaaDoor
open Go.RowKit

theorem ret_str {a : ByteArray} {l : List UInt8} (h : a.data.toList = l) : Ending.returned (.string a) = .returned (.string (str l)) := by
  have : a = str l := by apply ByteArray.ext; rw [← h]; simp [str]
  rw [this]

set_option maxRecDepth 100000 in
set_option maxHeartbeats 2000000 in
theorem l1name_any (o : Int) (w : World) (ho : 1 ≤ o ∧ o ≤ 15) : Calls Tryd.prog 46 #[.int .i64 o] w fun e w' => e = .returned (.string (str (nameL o))) ∧ Below w.heap.size w w' := by
  rcases op_cases o with rfl | rfl | rfl | rfl | rfl | rfl | rfl | rfl | rfl | rfl | rfl | rfl | rfl | rfl | rfl | h | h
  iterate 15
    · go_enter Tryd.func46, Tryd.ntmps46
      go_wp2
      go_ret
      exact ⟨ret_str (by simp [nameL]), bel_one _ _⟩
  · omega
  · omega

end Go.Proofs.YtkoccaheckkbdaaDoor
