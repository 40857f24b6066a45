/- The walk of the planWriter's node, at the Ops of blocks. Printed by gen_node.py. -/
import Derived.Test.YtkoccaheckkbdaaDoorNodeA
namespace Go.Proofs.YtkoccaheckkbdaaDoor
open Go.RowKit

set_option maxRecDepth 100000 in
set_option maxHeartbeats 2000000 in
theorem node_11 (B b : Nat) (bs sub : List UInt8) (t : Nat) (s : Stp) (ao : Option Addr) (vl vc : Nat) (w : World) (ho : s.op = 11) (hra : 0 ≤ s.a ∧ s.a < 4) (hf : Fit s) (h : Wrote B b bs w) (hBw : B ≤ w.heap.size) (ht : t ≤ 399) (hbs : bs.length + (t + ((lineL s).length + 3) + sub.length) ≤ 40000000) (htab : Tabs B w) (hblk : Writes B b w t (.slice ao vl vc) sub) :
    Calls Tryd.prog 41 #[.pointer (some ⟨b, 0, none⟩), .int .i64 t, nodeV s (.slice ao vl vc)] w fun e w' => e = .returned (.tuple #[]) ∧ Wrote B b (bs ++ ((tabsL t ++ (lineL s ++ [32, 123, 10])) ++ (sub ++ (tabsL t ++ [125, 10])))) w' ∧ KeptN B w w' := by
  obtain ⟨o, a', b2, n, z⟩ := s
  simp only at ho hra
  subst ho
  obtain ⟨a, rfl⟩ : ∃ a : Nat, a' = a := ⟨a'.toNat, by omega⟩
  obtain ⟨J, hJ⟩ : ∃ J, lineL ⟨11, a, b2, n, z⟩ = J := ⟨_, rfl⟩
  have hJl : J.length ≤ 80 := by rw [← hJ]; exact line_len _ hf
  rw [hJ] at hbs ⊢
  rw [show nodeV ⟨11, a, b2, n, z⟩ (.slice ao vl vc) = .iface 121 (.agg #[.int .i64 a, .slice ao vl vc]) from rfl]
  obtain ⟨NM, hNM⟩ : ∃ NM, str (nameL 11) = NM := ⟨_, rfl⟩
  have hn : w.cell? ⟨1, 11, none⟩ = some (.string NM) := by rw [← hNM]; exact htab.2.1 11 (by decide) (by decide)
  obtain ⟨RA, hRA⟩ : ∃ RA, str (regL (a : Int)) = RA := ⟨_, rfl⟩
  have HJ : Hid (Lib.join (([NM, RA] : List ByteArray).map (·.data.toList)) [32] = J) := by show _ = _; rw [← hNM, ← hRA, ← hJ]; rfl
  have HRA := hid hRA
  clear hNM hJ hf hRA
  have h1 : 1 < w.heap.size := htab.1.1
  have HBK := hid hblk
  clear hblk
  have hmt : ∀ wx : World, (method 265 121 (.agg #[.int .i64 a, .slice ao vl vc]) "loop.example/thread/impl.op").run Tryd.prog wx = .ok (101, .agg #[.int .i64 a, .slice ao vl vc]) wx := fun _ => by kernel_rfl
  have t1 : ∀ wx : World, (Instr.typeAssert (.iface 121 (.agg #[.int .i64 a, .slice ao vl vc])) 90 106 true).run Tryd.prog wx = .ok (.tuple #[.agg #[.int .i64 0, .int .i64 0], .bool false]) wx := fun _ => by kernel_rfl
  have t2 : ∀ wx : World, (Instr.typeAssert (.iface 121 (.agg #[.int .i64 a, .slice ao vl vc])) 90 108 true).run Tryd.prog wx = .ok (.tuple #[.agg #[.int .i64 0, .int .i64 0, .int .i64 0], .bool false]) wx := fun _ => by kernel_rfl
  have t3 : ∀ wx : World, (Instr.typeAssert (.iface 121 (.agg #[.int .i64 a, .slice ao vl vc])) 90 110 true).run Tryd.prog wx = .ok (.tuple #[.agg #[.int .i64 0], .bool false]) wx := fun _ => by kernel_rfl
  have t4 : ∀ wx : World, (Instr.typeAssert (.iface 121 (.agg #[.int .i64 a, .slice ao vl vc])) 90 112 true).run Tryd.prog wx = .ok (.tuple #[.agg #[.int .i64 0, .int .i64 0], .bool false]) wx := fun _ => by kernel_rfl
  have t5 : ∀ wx : World, (Instr.typeAssert (.iface 121 (.agg #[.int .i64 a, .slice ao vl vc])) 90 114 true).run Tryd.prog wx = .ok (.tuple #[.agg #[.int .i64 0, .int .i64 0], .bool false]) wx := fun _ => by kernel_rfl
  have t6 : ∀ wx : World, (Instr.typeAssert (.iface 121 (.agg #[.int .i64 a, .slice ao vl vc])) 90 115 true).run Tryd.prog wx = .ok (.tuple #[.agg #[.int .i64 0], .bool false]) wx := fun _ => by kernel_rfl
  have t7 : ∀ wx : World, (Instr.typeAssert (.iface 121 (.agg #[.int .i64 a, .slice ao vl vc])) 90 116 true).run Tryd.prog wx = .ok (.tuple #[.agg #[.int .i64 0, .int .i64 0], .bool false]) wx := fun _ => by kernel_rfl
  have t8 : ∀ wx : World, (Instr.typeAssert (.iface 121 (.agg #[.int .i64 a, .slice ao vl vc])) 90 117 true).run Tryd.prog wx = .ok (.tuple #[.agg #[.int .i64 0, .int .i64 0], .bool false]) wx := fun _ => by kernel_rfl
  have t9 : ∀ wx : World, (Instr.typeAssert (.iface 121 (.agg #[.int .i64 a, .slice ao vl vc])) 90 118 true).run Tryd.prog wx = .ok (.tuple #[.agg #[.int .i64 0], .bool false]) wx := fun _ => by kernel_rfl
  have t10 : ∀ wx : World, (Instr.typeAssert (.iface 121 (.agg #[.int .i64 a, .slice ao vl vc])) 90 119 true).run Tryd.prog wx = .ok (.tuple #[.agg #[.int .i64 0], .bool false]) wx := fun _ => by kernel_rfl
  have t11 : ∀ wx : World, (Instr.typeAssert (.iface 121 (.agg #[.int .i64 a, .slice ao vl vc])) 90 121 true).run Tryd.prog wx = .ok (.tuple #[.agg #[.int .i64 a, .slice ao vl vc], .bool true]) wx := fun _ => by kernel_rfl
  have hb0 : Below w.heap.size w ((w.alloc (Obj.cells #[.int .i64 a, .slice ao vl vc] 121)).alloc (Obj.cells #[.int .i64 a, .slice ao vl vc] 121)) := bel_alloc (bel_one _ _) _
  go_enter Tryd.func41, Tryd.ntmps41
  have hbd : Below w.heap.size w ((w.alloc (Obj.cells #[.int .i64 a, .slice ao vl vc] 121)).alloc (Obj.cells #[.int .i64 a, .slice ao vl vc] 121)).drew := Below.drew hb0
  have hbx : ((w.alloc (Obj.cells #[.int .i64 a, .slice ao vl vc] 121)).alloc (Obj.cells #[.int .i64 a, .slice ao vl vc] 121)).drew.heap[w.heap.size + 1]? = some (Obj.cells #[.int .i64 a, .slice ao vl vc] 121 (0, 0)) := box_at w _ _
  go_wp2_with (first | go_in)
  go_region_held3 (fun w' : World => w'.cell? ⟨w.heap.size + 1, 0, none⟩ = some (.int .i64 a) ∧ w'.cell? ⟨w.heap.size + 1, 1, none⟩ = some (.slice ao vl vc)) (first | assumption | go_keep) (first | (go_at_call 53; refine (reg_any a (by omega) _).mono ?_; rintro e w1 ⟨he, rfl⟩; rw [HRA.out] at he; subst he) | (go_at_call 55; refine (head_lit B b bs sub t _ _ _ ao vl vc [NM, RA] w ((w.alloc (Obj.cells #[.int .i64 a, .slice ao vl vc] 121)).alloc (Obj.cells #[.int .i64 a, .slice ao vl vc] 121)).drew (h.below hbd) (Nat.le_trans hBw hbd.size) ht (by simp) (by simp) rfl rfl (by simp) J HJ.out (by omega) hbs (keptN_below hbd hBw) HBK.out).mono ?_; rintro e w9 ⟨rfl, h9, hk9⟩; have hS9 := box_held2 ((hk9.2 _ _ _ _ hbx (by decide) (by decide) (by decide)).trans hbx)))
  all_goals (go_wp2_with fail; go_end0; exact ⟨rfl, h9, (keptN_below hbd hBw).trans hk9⟩)

set_option maxRecDepth 100000 in
set_option maxHeartbeats 2000000 in
theorem node_12 (B b : Nat) (bs sub : List UInt8) (t : Nat) (s : Stp) (ao : Option Addr) (vl vc : Nat) (w : World) (ho : s.op = 12) (hf : Fit s) (h : Wrote B b bs w) (hBw : B ≤ w.heap.size) (ht : t ≤ 399) (hbs : bs.length + (t + ((lineL s).length + 3) + sub.length) ≤ 40000000) (htab : Tabs B w) (hblk : Writes B b w t (.slice ao vl vc) sub) :
    Calls Tryd.prog 41 #[.pointer (some ⟨b, 0, none⟩), .int .i64 t, nodeV s (.slice ao vl vc)] w fun e w' => e = .returned (.tuple #[]) ∧ Wrote B b (bs ++ ((tabsL t ++ (lineL s ++ [32, 123, 10])) ++ (sub ++ (tabsL t ++ [125, 10])))) w' ∧ KeptN B w w' := by
  obtain ⟨o, a, b2, n, z⟩ := s
  simp only at ho
  subst ho
  obtain ⟨J, hJ⟩ : ∃ J, lineL ⟨12, a, b2, n, z⟩ = J := ⟨_, rfl⟩
  have hJl : J.length ≤ 80 := by rw [← hJ]; exact line_len _ hf
  rw [hJ] at hbs ⊢
  rw [show nodeV ⟨12, a, b2, n, z⟩ (.slice ao vl vc) = .iface 124 (.agg #[.slice ao vl vc]) from rfl]
  obtain ⟨NM, hNM⟩ : ∃ NM, str (nameL 12) = NM := ⟨_, rfl⟩
  have hn : w.cell? ⟨1, 12, none⟩ = some (.string NM) := by rw [← hNM]; exact htab.2.1 12 (by decide) (by decide)
  have HJ : Hid (Lib.join (([NM] : List ByteArray).map (·.data.toList)) [32] = J) := by show _ = _; rw [← hNM, ← hJ]; rfl
  clear hNM hJ hf
  have h1 : 1 < w.heap.size := htab.1.1
  have HBK := hid hblk
  clear hblk
  have hmt : ∀ wx : World, (method 265 124 (.agg #[.slice ao vl vc]) "loop.example/thread/impl.op").run Tryd.prog wx = .ok (102, .agg #[.slice ao vl vc]) wx := fun _ => by kernel_rfl
  have t1 : ∀ wx : World, (Instr.typeAssert (.iface 124 (.agg #[.slice ao vl vc])) 90 106 true).run Tryd.prog wx = .ok (.tuple #[.agg #[.int .i64 0, .int .i64 0], .bool false]) wx := fun _ => by kernel_rfl
  have t2 : ∀ wx : World, (Instr.typeAssert (.iface 124 (.agg #[.slice ao vl vc])) 90 108 true).run Tryd.prog wx = .ok (.tuple #[.agg #[.int .i64 0, .int .i64 0, .int .i64 0], .bool false]) wx := fun _ => by kernel_rfl
  have t3 : ∀ wx : World, (Instr.typeAssert (.iface 124 (.agg #[.slice ao vl vc])) 90 110 true).run Tryd.prog wx = .ok (.tuple #[.agg #[.int .i64 0], .bool false]) wx := fun _ => by kernel_rfl
  have t4 : ∀ wx : World, (Instr.typeAssert (.iface 124 (.agg #[.slice ao vl vc])) 90 112 true).run Tryd.prog wx = .ok (.tuple #[.agg #[.int .i64 0, .int .i64 0], .bool false]) wx := fun _ => by kernel_rfl
  have t5 : ∀ wx : World, (Instr.typeAssert (.iface 124 (.agg #[.slice ao vl vc])) 90 114 true).run Tryd.prog wx = .ok (.tuple #[.agg #[.int .i64 0, .int .i64 0], .bool false]) wx := fun _ => by kernel_rfl
  have t6 : ∀ wx : World, (Instr.typeAssert (.iface 124 (.agg #[.slice ao vl vc])) 90 115 true).run Tryd.prog wx = .ok (.tuple #[.agg #[.int .i64 0], .bool false]) wx := fun _ => by kernel_rfl
  have t7 : ∀ wx : World, (Instr.typeAssert (.iface 124 (.agg #[.slice ao vl vc])) 90 116 true).run Tryd.prog wx = .ok (.tuple #[.agg #[.int .i64 0, .int .i64 0], .bool false]) wx := fun _ => by kernel_rfl
  have t8 : ∀ wx : World, (Instr.typeAssert (.iface 124 (.agg #[.slice ao vl vc])) 90 117 true).run Tryd.prog wx = .ok (.tuple #[.agg #[.int .i64 0, .int .i64 0], .bool false]) wx := fun _ => by kernel_rfl
  have t9 : ∀ wx : World, (Instr.typeAssert (.iface 124 (.agg #[.slice ao vl vc])) 90 118 true).run Tryd.prog wx = .ok (.tuple #[.agg #[.int .i64 0], .bool false]) wx := fun _ => by kernel_rfl
  have t10 : ∀ wx : World, (Instr.typeAssert (.iface 124 (.agg #[.slice ao vl vc])) 90 119 true).run Tryd.prog wx = .ok (.tuple #[.agg #[.int .i64 0], .bool false]) wx := fun _ => by kernel_rfl
  have t11 : ∀ wx : World, (Instr.typeAssert (.iface 124 (.agg #[.slice ao vl vc])) 90 121 true).run Tryd.prog wx = .ok (.tuple #[.agg #[.int .i64 0, .slice none 0 0], .bool false]) wx := fun _ => by kernel_rfl
  have t12 : ∀ wx : World, (Instr.typeAssert (.iface 124 (.agg #[.slice ao vl vc])) 90 124 true).run Tryd.prog wx = .ok (.tuple #[.agg #[.slice ao vl vc], .bool true]) wx := fun _ => by kernel_rfl
  have hb0 : Below w.heap.size w ((w.alloc (Obj.cells #[.slice ao vl vc] 124)).alloc (Obj.cells #[.slice ao vl vc] 124)) := bel_alloc (bel_one _ _) _
  go_enter Tryd.func41, Tryd.ntmps41
  go_wp2_with (first | (go_at_call 55; refine (head_lit B b bs sub t _ _ _ ao vl vc [NM] w ((w.alloc (Obj.cells #[.slice ao vl vc] 124)).alloc (Obj.cells #[.slice ao vl vc] 124)) (h.below hb0) (by simp; omega) ht (by simp) (by simp) rfl rfl (by simp) J HJ.out (by omega) hbs (keptN_below hb0 hBw) HBK.out).mono ?_; rintro e w9 ⟨rfl, h9, hk9⟩) | go_in)
  go_end0
  exact ⟨rfl, h9, (keptN_below hb0 hBw).trans hk9⟩

set_option maxRecDepth 100000 in
set_option maxHeartbeats 2000000 in
theorem node_13 (B b : Nat) (bs sub : List UInt8) (t : Nat) (s : Stp) (ao : Option Addr) (vl vc : Nat) (w : World) (ho : s.op = 13) (hf : Fit s) (h : Wrote B b bs w) (hBw : B ≤ w.heap.size) (ht : t ≤ 399) (hbs : bs.length + (t + ((lineL s).length + 3) + sub.length) ≤ 40000000) (htab : Tabs B w) (hblk : Writes B b w t (.slice ao vl vc) sub) :
    Calls Tryd.prog 41 #[.pointer (some ⟨b, 0, none⟩), .int .i64 t, nodeV s (.slice ao vl vc)] w fun e w' => e = .returned (.tuple #[]) ∧ Wrote B b (bs ++ ((tabsL t ++ (lineL s ++ [32, 123, 10])) ++ (sub ++ (tabsL t ++ [125, 10])))) w' ∧ KeptN B w w' := by
  obtain ⟨o, a, b2, n, z⟩ := s
  simp only at ho
  subst ho
  obtain ⟨J, hJ⟩ : ∃ J, lineL ⟨13, a, b2, n, z⟩ = J := ⟨_, rfl⟩
  have hJl : J.length ≤ 80 := by rw [← hJ]; exact line_len _ hf
  rw [hJ] at hbs ⊢
  rw [show nodeV ⟨13, a, b2, n, z⟩ (.slice ao vl vc) = .iface 125 (.agg #[.slice ao vl vc]) from rfl]
  obtain ⟨NM, hNM⟩ : ∃ NM, str (nameL 13) = NM := ⟨_, rfl⟩
  have hn : w.cell? ⟨1, 13, none⟩ = some (.string NM) := by rw [← hNM]; exact htab.2.1 13 (by decide) (by decide)
  have HJ : Hid (Lib.join (([NM] : List ByteArray).map (·.data.toList)) [32] = J) := by show _ = _; rw [← hNM, ← hJ]; rfl
  clear hNM hJ hf
  have h1 : 1 < w.heap.size := htab.1.1
  have HBK := hid hblk
  clear hblk
  have hmt : ∀ wx : World, (method 265 125 (.agg #[.slice ao vl vc]) "loop.example/thread/impl.op").run Tryd.prog wx = .ok (103, .agg #[.slice ao vl vc]) wx := fun _ => by kernel_rfl
  have t1 : ∀ wx : World, (Instr.typeAssert (.iface 125 (.agg #[.slice ao vl vc])) 90 106 true).run Tryd.prog wx = .ok (.tuple #[.agg #[.int .i64 0, .int .i64 0], .bool false]) wx := fun _ => by kernel_rfl
  have t2 : ∀ wx : World, (Instr.typeAssert (.iface 125 (.agg #[.slice ao vl vc])) 90 108 true).run Tryd.prog wx = .ok (.tuple #[.agg #[.int .i64 0, .int .i64 0, .int .i64 0], .bool false]) wx := fun _ => by kernel_rfl
  have t3 : ∀ wx : World, (Instr.typeAssert (.iface 125 (.agg #[.slice ao vl vc])) 90 110 true).run Tryd.prog wx = .ok (.tuple #[.agg #[.int .i64 0], .bool false]) wx := fun _ => by kernel_rfl
  have t4 : ∀ wx : World, (Instr.typeAssert (.iface 125 (.agg #[.slice ao vl vc])) 90 112 true).run Tryd.prog wx = .ok (.tuple #[.agg #[.int .i64 0, .int .i64 0], .bool false]) wx := fun _ => by kernel_rfl
  have t5 : ∀ wx : World, (Instr.typeAssert (.iface 125 (.agg #[.slice ao vl vc])) 90 114 true).run Tryd.prog wx = .ok (.tuple #[.agg #[.int .i64 0, .int .i64 0], .bool false]) wx := fun _ => by kernel_rfl
  have t6 : ∀ wx : World, (Instr.typeAssert (.iface 125 (.agg #[.slice ao vl vc])) 90 115 true).run Tryd.prog wx = .ok (.tuple #[.agg #[.int .i64 0], .bool false]) wx := fun _ => by kernel_rfl
  have t7 : ∀ wx : World, (Instr.typeAssert (.iface 125 (.agg #[.slice ao vl vc])) 90 116 true).run Tryd.prog wx = .ok (.tuple #[.agg #[.int .i64 0, .int .i64 0], .bool false]) wx := fun _ => by kernel_rfl
  have t8 : ∀ wx : World, (Instr.typeAssert (.iface 125 (.agg #[.slice ao vl vc])) 90 117 true).run Tryd.prog wx = .ok (.tuple #[.agg #[.int .i64 0, .int .i64 0], .bool false]) wx := fun _ => by kernel_rfl
  have t9 : ∀ wx : World, (Instr.typeAssert (.iface 125 (.agg #[.slice ao vl vc])) 90 118 true).run Tryd.prog wx = .ok (.tuple #[.agg #[.int .i64 0], .bool false]) wx := fun _ => by kernel_rfl
  have t10 : ∀ wx : World, (Instr.typeAssert (.iface 125 (.agg #[.slice ao vl vc])) 90 119 true).run Tryd.prog wx = .ok (.tuple #[.agg #[.int .i64 0], .bool false]) wx := fun _ => by kernel_rfl
  have t11 : ∀ wx : World, (Instr.typeAssert (.iface 125 (.agg #[.slice ao vl vc])) 90 121 true).run Tryd.prog wx = .ok (.tuple #[.agg #[.int .i64 0, .slice none 0 0], .bool false]) wx := fun _ => by kernel_rfl
  have t12 : ∀ wx : World, (Instr.typeAssert (.iface 125 (.agg #[.slice ao vl vc])) 90 124 true).run Tryd.prog wx = .ok (.tuple #[.agg #[.slice none 0 0], .bool false]) wx := fun _ => by kernel_rfl
  have t13 : ∀ wx : World, (Instr.typeAssert (.iface 125 (.agg #[.slice ao vl vc])) 90 125 true).run Tryd.prog wx = .ok (.tuple #[.agg #[.slice ao vl vc], .bool true]) wx := fun _ => by kernel_rfl
  have hb0 : Below w.heap.size w ((w.alloc (Obj.cells #[.slice ao vl vc] 125)).alloc (Obj.cells #[.slice ao vl vc] 125)) := bel_alloc (bel_one _ _) _
  go_enter Tryd.func41, Tryd.ntmps41
  go_wp2_with (first | (go_at_call 55; refine (head_lit B b bs sub t _ _ _ ao vl vc [NM] w ((w.alloc (Obj.cells #[.slice ao vl vc] 125)).alloc (Obj.cells #[.slice ao vl vc] 125)) (h.below hb0) (by simp; omega) ht (by simp) (by simp) rfl rfl (by simp) J HJ.out (by omega) hbs (keptN_below hb0 hBw) HBK.out).mono ?_; rintro e w9 ⟨rfl, h9, hk9⟩) | go_in)
  go_end0
  exact ⟨rfl, h9, (keptN_below hb0 hBw).trans hk9⟩

set_option maxRecDepth 100000 in
set_option maxHeartbeats 2000000 in
theorem node_14 (B b : Nat) (bs sub : List UInt8) (t : Nat) (s : Stp) (ao : Option Addr) (vl vc : Nat) (w : World) (ho : s.op = 14) (hra : 0 ≤ s.a ∧ s.a < 4) (hf : Fit s) (h : Wrote B b bs w) (hBw : B ≤ w.heap.size) (ht : t ≤ 399) (hbs : bs.length + (t + ((lineL s).length + 3) + sub.length) ≤ 40000000) (htab : Tabs B w) (hblk : Writes B b w t (.slice ao vl vc) sub) :
    Calls Tryd.prog 41 #[.pointer (some ⟨b, 0, none⟩), .int .i64 t, nodeV s (.slice ao vl vc)] w fun e w' => e = .returned (.tuple #[]) ∧ Wrote B b (bs ++ ((tabsL t ++ (lineL s ++ [32, 123, 10])) ++ (sub ++ (tabsL t ++ [125, 10])))) w' ∧ KeptN B w w' := by
  obtain ⟨o, a', b2, n, z⟩ := s
  simp only at ho hra
  subst ho
  obtain ⟨a, rfl⟩ : ∃ a : Nat, a' = a := ⟨a'.toNat, by omega⟩
  obtain ⟨J, hJ⟩ : ∃ J, lineL ⟨14, a, b2, n, z⟩ = J := ⟨_, rfl⟩
  have hJl : J.length ≤ 80 := by rw [← hJ]; exact line_len _ hf
  rw [hJ] at hbs ⊢
  rw [show nodeV ⟨14, a, b2, n, z⟩ (.slice ao vl vc) = .iface 126 (.agg #[.int .i64 a, .slice ao vl vc]) from rfl]
  obtain ⟨NM, hNM⟩ : ∃ NM, str (nameL 14) = NM := ⟨_, rfl⟩
  have hn : w.cell? ⟨1, 14, none⟩ = some (.string NM) := by rw [← hNM]; exact htab.2.1 14 (by decide) (by decide)
  obtain ⟨RA, hRA⟩ : ∃ RA, str (regL (a : Int)) = RA := ⟨_, rfl⟩
  have HJ : Hid (Lib.join (([NM, RA] : List ByteArray).map (·.data.toList)) [32] = J) := by show _ = _; rw [← hNM, ← hRA, ← hJ]; rfl
  have HRA := hid hRA
  clear hNM hJ hf hRA
  have h1 : 1 < w.heap.size := htab.1.1
  have HBK := hid hblk
  clear hblk
  have hmt : ∀ wx : World, (method 265 126 (.agg #[.int .i64 a, .slice ao vl vc]) "loop.example/thread/impl.op").run Tryd.prog wx = .ok (104, .agg #[.int .i64 a, .slice ao vl vc]) wx := fun _ => by kernel_rfl
  have t1 : ∀ wx : World, (Instr.typeAssert (.iface 126 (.agg #[.int .i64 a, .slice ao vl vc])) 90 106 true).run Tryd.prog wx = .ok (.tuple #[.agg #[.int .i64 0, .int .i64 0], .bool false]) wx := fun _ => by kernel_rfl
  have t2 : ∀ wx : World, (Instr.typeAssert (.iface 126 (.agg #[.int .i64 a, .slice ao vl vc])) 90 108 true).run Tryd.prog wx = .ok (.tuple #[.agg #[.int .i64 0, .int .i64 0, .int .i64 0], .bool false]) wx := fun _ => by kernel_rfl
  have t3 : ∀ wx : World, (Instr.typeAssert (.iface 126 (.agg #[.int .i64 a, .slice ao vl vc])) 90 110 true).run Tryd.prog wx = .ok (.tuple #[.agg #[.int .i64 0], .bool false]) wx := fun _ => by kernel_rfl
  have t4 : ∀ wx : World, (Instr.typeAssert (.iface 126 (.agg #[.int .i64 a, .slice ao vl vc])) 90 112 true).run Tryd.prog wx = .ok (.tuple #[.agg #[.int .i64 0, .int .i64 0], .bool false]) wx := fun _ => by kernel_rfl
  have t5 : ∀ wx : World, (Instr.typeAssert (.iface 126 (.agg #[.int .i64 a, .slice ao vl vc])) 90 114 true).run Tryd.prog wx = .ok (.tuple #[.agg #[.int .i64 0, .int .i64 0], .bool false]) wx := fun _ => by kernel_rfl
  have t6 : ∀ wx : World, (Instr.typeAssert (.iface 126 (.agg #[.int .i64 a, .slice ao vl vc])) 90 115 true).run Tryd.prog wx = .ok (.tuple #[.agg #[.int .i64 0], .bool false]) wx := fun _ => by kernel_rfl
  have t7 : ∀ wx : World, (Instr.typeAssert (.iface 126 (.agg #[.int .i64 a, .slice ao vl vc])) 90 116 true).run Tryd.prog wx = .ok (.tuple #[.agg #[.int .i64 0, .int .i64 0], .bool false]) wx := fun _ => by kernel_rfl
  have t8 : ∀ wx : World, (Instr.typeAssert (.iface 126 (.agg #[.int .i64 a, .slice ao vl vc])) 90 117 true).run Tryd.prog wx = .ok (.tuple #[.agg #[.int .i64 0, .int .i64 0], .bool false]) wx := fun _ => by kernel_rfl
  have t9 : ∀ wx : World, (Instr.typeAssert (.iface 126 (.agg #[.int .i64 a, .slice ao vl vc])) 90 118 true).run Tryd.prog wx = .ok (.tuple #[.agg #[.int .i64 0], .bool false]) wx := fun _ => by kernel_rfl
  have t10 : ∀ wx : World, (Instr.typeAssert (.iface 126 (.agg #[.int .i64 a, .slice ao vl vc])) 90 119 true).run Tryd.prog wx = .ok (.tuple #[.agg #[.int .i64 0], .bool false]) wx := fun _ => by kernel_rfl
  have t11 : ∀ wx : World, (Instr.typeAssert (.iface 126 (.agg #[.int .i64 a, .slice ao vl vc])) 90 121 true).run Tryd.prog wx = .ok (.tuple #[.agg #[.int .i64 0, .slice none 0 0], .bool false]) wx := fun _ => by kernel_rfl
  have t12 : ∀ wx : World, (Instr.typeAssert (.iface 126 (.agg #[.int .i64 a, .slice ao vl vc])) 90 124 true).run Tryd.prog wx = .ok (.tuple #[.agg #[.slice none 0 0], .bool false]) wx := fun _ => by kernel_rfl
  have t13 : ∀ wx : World, (Instr.typeAssert (.iface 126 (.agg #[.int .i64 a, .slice ao vl vc])) 90 125 true).run Tryd.prog wx = .ok (.tuple #[.agg #[.slice none 0 0], .bool false]) wx := fun _ => by kernel_rfl
  have t14 : ∀ wx : World, (Instr.typeAssert (.iface 126 (.agg #[.int .i64 a, .slice ao vl vc])) 90 126 true).run Tryd.prog wx = .ok (.tuple #[.agg #[.int .i64 a, .slice ao vl vc], .bool true]) wx := fun _ => by kernel_rfl
  have hb0 : Below w.heap.size w ((w.alloc (Obj.cells #[.int .i64 a, .slice ao vl vc] 126)).alloc (Obj.cells #[.int .i64 a, .slice ao vl vc] 126)) := bel_alloc (bel_one _ _) _
  go_enter Tryd.func41, Tryd.ntmps41
  have hbd : Below w.heap.size w ((w.alloc (Obj.cells #[.int .i64 a, .slice ao vl vc] 126)).alloc (Obj.cells #[.int .i64 a, .slice ao vl vc] 126)).drew := Below.drew hb0
  have hbx : ((w.alloc (Obj.cells #[.int .i64 a, .slice ao vl vc] 126)).alloc (Obj.cells #[.int .i64 a, .slice ao vl vc] 126)).drew.heap[w.heap.size + 1]? = some (Obj.cells #[.int .i64 a, .slice ao vl vc] 126 (0, 0)) := box_at w _ _
  go_wp2_with (first | go_in)
  go_region_held3 (fun w' : World => w'.cell? ⟨w.heap.size + 1, 0, none⟩ = some (.int .i64 a) ∧ w'.cell? ⟨w.heap.size + 1, 1, none⟩ = some (.slice ao vl vc)) (first | assumption | go_keep) (first | (go_at_call 53; refine (reg_any a (by omega) _).mono ?_; rintro e w1 ⟨he, rfl⟩; rw [HRA.out] at he; subst he) | (go_at_call 55; refine (head_lit B b bs sub t _ _ _ ao vl vc [NM, RA] w ((w.alloc (Obj.cells #[.int .i64 a, .slice ao vl vc] 126)).alloc (Obj.cells #[.int .i64 a, .slice ao vl vc] 126)).drew (h.below hbd) (Nat.le_trans hBw hbd.size) ht (by simp) (by simp) rfl rfl (by simp) J HJ.out (by omega) hbs (keptN_below hbd hBw) HBK.out).mono ?_; rintro e w9 ⟨rfl, h9, hk9⟩; have hS9 := box_held2 ((hk9.2 _ _ _ _ hbx (by decide) (by decide) (by decide)).trans hbx)))
  all_goals (go_wp2_with fail; go_end0; exact ⟨rfl, h9, (keptN_below hbd hBw).trans hk9⟩)

set_option maxRecDepth 100000 in
set_option maxHeartbeats 2000000 in
theorem node_15 (B b : Nat) (bs sub : List UInt8) (t : Nat) (s : Stp) (ao : Option Addr) (vl vc : Nat) (w : World) (ho : s.op = 15) (hra : 0 ≤ s.a ∧ s.a < 4) (hf : Fit s) (h : Wrote B b bs w) (hBw : B ≤ w.heap.size) (ht : t ≤ 399) (hbs : bs.length + (t + ((lineL s).length + 3) + sub.length) ≤ 40000000) (htab : Tabs B w) (hblk : Writes B b w t (.slice ao vl vc) sub) :
    Calls Tryd.prog 41 #[.pointer (some ⟨b, 0, none⟩), .int .i64 t, nodeV s (.slice ao vl vc)] w fun e w' => e = .returned (.tuple #[]) ∧ Wrote B b (bs ++ ((tabsL t ++ (lineL s ++ [32, 123, 10])) ++ (sub ++ (tabsL t ++ [125, 10])))) w' ∧ KeptN B w w' := by
  obtain ⟨o, a', b2, n, z⟩ := s
  simp only at ho hra
  subst ho
  obtain ⟨a, rfl⟩ : ∃ a : Nat, a' = a := ⟨a'.toNat, by omega⟩
  obtain ⟨J, hJ⟩ : ∃ J, lineL ⟨15, a, b2, n, z⟩ = J := ⟨_, rfl⟩
  have hJl : J.length ≤ 80 := by rw [← hJ]; exact line_len _ hf
  rw [hJ] at hbs ⊢
  rw [show nodeV ⟨15, a, b2, n, z⟩ (.slice ao vl vc) = .iface 127 (.agg #[.int .i64 a, .slice ao vl vc]) from rfl]
  obtain ⟨NM, hNM⟩ : ∃ NM, str (nameL 15) = NM := ⟨_, rfl⟩
  have hn : w.cell? ⟨1, 15, none⟩ = some (.string NM) := by rw [← hNM]; exact htab.2.1 15 (by decide) (by decide)
  obtain ⟨RA, hRA⟩ : ∃ RA, str (regL (a : Int)) = RA := ⟨_, rfl⟩
  have HJ : Hid (Lib.join (([NM, RA] : List ByteArray).map (·.data.toList)) [32] = J) := by show _ = _; rw [← hNM, ← hRA, ← hJ]; rfl
  have HRA := hid hRA
  clear hNM hJ hf hRA
  have h1 : 1 < w.heap.size := htab.1.1
  have HBK := hid hblk
  clear hblk
  have hmt : ∀ wx : World, (method 265 127 (.agg #[.int .i64 a, .slice ao vl vc]) "loop.example/thread/impl.op").run Tryd.prog wx = .ok (105, .agg #[.int .i64 a, .slice ao vl vc]) wx := fun _ => by kernel_rfl
  have t1 : ∀ wx : World, (Instr.typeAssert (.iface 127 (.agg #[.int .i64 a, .slice ao vl vc])) 90 106 true).run Tryd.prog wx = .ok (.tuple #[.agg #[.int .i64 0, .int .i64 0], .bool false]) wx := fun _ => by kernel_rfl
  have t2 : ∀ wx : World, (Instr.typeAssert (.iface 127 (.agg #[.int .i64 a, .slice ao vl vc])) 90 108 true).run Tryd.prog wx = .ok (.tuple #[.agg #[.int .i64 0, .int .i64 0, .int .i64 0], .bool false]) wx := fun _ => by kernel_rfl
  have t3 : ∀ wx : World, (Instr.typeAssert (.iface 127 (.agg #[.int .i64 a, .slice ao vl vc])) 90 110 true).run Tryd.prog wx = .ok (.tuple #[.agg #[.int .i64 0], .bool false]) wx := fun _ => by kernel_rfl
  have t4 : ∀ wx : World, (Instr.typeAssert (.iface 127 (.agg #[.int .i64 a, .slice ao vl vc])) 90 112 true).run Tryd.prog wx = .ok (.tuple #[.agg #[.int .i64 0, .int .i64 0], .bool false]) wx := fun _ => by kernel_rfl
  have t5 : ∀ wx : World, (Instr.typeAssert (.iface 127 (.agg #[.int .i64 a, .slice ao vl vc])) 90 114 true).run Tryd.prog wx = .ok (.tuple #[.agg #[.int .i64 0, .int .i64 0], .bool false]) wx := fun _ => by kernel_rfl
  have t6 : ∀ wx : World, (Instr.typeAssert (.iface 127 (.agg #[.int .i64 a, .slice ao vl vc])) 90 115 true).run Tryd.prog wx = .ok (.tuple #[.agg #[.int .i64 0], .bool false]) wx := fun _ => by kernel_rfl
  have t7 : ∀ wx : World, (Instr.typeAssert (.iface 127 (.agg #[.int .i64 a, .slice ao vl vc])) 90 116 true).run Tryd.prog wx = .ok (.tuple #[.agg #[.int .i64 0, .int .i64 0], .bool false]) wx := fun _ => by kernel_rfl
  have t8 : ∀ wx : World, (Instr.typeAssert (.iface 127 (.agg #[.int .i64 a, .slice ao vl vc])) 90 117 true).run Tryd.prog wx = .ok (.tuple #[.agg #[.int .i64 0, .int .i64 0], .bool false]) wx := fun _ => by kernel_rfl
  have t9 : ∀ wx : World, (Instr.typeAssert (.iface 127 (.agg #[.int .i64 a, .slice ao vl vc])) 90 118 true).run Tryd.prog wx = .ok (.tuple #[.agg #[.int .i64 0], .bool false]) wx := fun _ => by kernel_rfl
  have t10 : ∀ wx : World, (Instr.typeAssert (.iface 127 (.agg #[.int .i64 a, .slice ao vl vc])) 90 119 true).run Tryd.prog wx = .ok (.tuple #[.agg #[.int .i64 0], .bool false]) wx := fun _ => by kernel_rfl
  have t11 : ∀ wx : World, (Instr.typeAssert (.iface 127 (.agg #[.int .i64 a, .slice ao vl vc])) 90 121 true).run Tryd.prog wx = .ok (.tuple #[.agg #[.int .i64 0, .slice none 0 0], .bool false]) wx := fun _ => by kernel_rfl
  have t12 : ∀ wx : World, (Instr.typeAssert (.iface 127 (.agg #[.int .i64 a, .slice ao vl vc])) 90 124 true).run Tryd.prog wx = .ok (.tuple #[.agg #[.slice none 0 0], .bool false]) wx := fun _ => by kernel_rfl
  have t13 : ∀ wx : World, (Instr.typeAssert (.iface 127 (.agg #[.int .i64 a, .slice ao vl vc])) 90 125 true).run Tryd.prog wx = .ok (.tuple #[.agg #[.slice none 0 0], .bool false]) wx := fun _ => by kernel_rfl
  have t14 : ∀ wx : World, (Instr.typeAssert (.iface 127 (.agg #[.int .i64 a, .slice ao vl vc])) 90 126 true).run Tryd.prog wx = .ok (.tuple #[.agg #[.int .i64 0, .slice none 0 0], .bool false]) wx := fun _ => by kernel_rfl
  have t15 : ∀ wx : World, (Instr.typeAssert (.iface 127 (.agg #[.int .i64 a, .slice ao vl vc])) 90 127 true).run Tryd.prog wx = .ok (.tuple #[.agg #[.int .i64 a, .slice ao vl vc], .bool true]) wx := fun _ => by kernel_rfl
  have hb0 : Below w.heap.size w ((w.alloc (Obj.cells #[.int .i64 a, .slice ao vl vc] 127)).alloc (Obj.cells #[.int .i64 a, .slice ao vl vc] 127)) := bel_alloc (bel_one _ _) _
  go_enter Tryd.func41, Tryd.ntmps41
  have hbd : Below w.heap.size w ((w.alloc (Obj.cells #[.int .i64 a, .slice ao vl vc] 127)).alloc (Obj.cells #[.int .i64 a, .slice ao vl vc] 127)).drew := Below.drew hb0
  have hbx : ((w.alloc (Obj.cells #[.int .i64 a, .slice ao vl vc] 127)).alloc (Obj.cells #[.int .i64 a, .slice ao vl vc] 127)).drew.heap[w.heap.size + 1]? = some (Obj.cells #[.int .i64 a, .slice ao vl vc] 127 (0, 0)) := box_at w _ _
  go_wp2_with (first | go_in)
  go_region_held3 (fun w' : World => w'.cell? ⟨w.heap.size + 1, 0, none⟩ = some (.int .i64 a) ∧ w'.cell? ⟨w.heap.size + 1, 1, none⟩ = some (.slice ao vl vc)) (first | assumption | go_keep) (first | (go_at_call 53; refine (reg_any a (by omega) _).mono ?_; rintro e w1 ⟨he, rfl⟩; rw [HRA.out] at he; subst he) | (go_at_call 55; refine (head_lit B b bs sub t _ _ _ ao vl vc [NM, RA] w ((w.alloc (Obj.cells #[.int .i64 a, .slice ao vl vc] 127)).alloc (Obj.cells #[.int .i64 a, .slice ao vl vc] 127)).drew (h.below hbd) (Nat.le_trans hBw hbd.size) ht (by simp) (by simp) rfl rfl (by simp) J HJ.out (by omega) hbs (keptN_below hbd hBw) HBK.out).mono ?_; rintro e w9 ⟨rfl, h9, hk9⟩; have hS9 := box_held2 ((hk9.2 _ _ _ _ hbx (by decide) (by decide) (by decide)).trans hbx)))
  all_goals (go_wp2_with fail; go_end0; exact ⟨rfl, h9, (keptN_below hbd hBw).trans hk9⟩)

end Go.Proofs.YtkoccaheckkbdaaDoor
