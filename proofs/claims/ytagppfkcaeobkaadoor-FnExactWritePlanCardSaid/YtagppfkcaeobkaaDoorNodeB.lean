/- The walk of the planWriter's node, at the Ops of blocks. Printed by gen_node.py. -/
import Derived.Test.YtagppfkcaeobkaaDoorNodeA
namespace Go.Proofs.YtagppfkcaeobkaaDoor
open Go.RowKit

set_option maxRecDepth 100000 in
set_option maxHeartbeats 2000000 in
theorem node_11 (B b : Nat) (bs sub : List UInt8) (t : Nat) (s : Stp) (ao : Option Addr) (vl vc : Nat) (w : World) (ho : s.op = 11) (hra : 0 ≤ s.a ∧ s.a < 4) (hf : Fit s) (h : Wrote B b bs w) (hBw : B ≤ w.heap.size) (ht : t ≤ 399) (hbs : bs.length + (t + ((lineL s).length + 3) + sub.length) ≤ 40000000) (htab : Tabs B w) (hblk : Writes B b w t (.slice ao vl vc) sub) :
    Calls Tryd.prog 61 #[.pointer (some ⟨b, 0, none⟩), .int .i64 t, nodeV s (.slice ao vl vc)] w fun e w' => e = .returned (.tuple #[]) ∧ Wrote B b (bs ++ ((tabsL t ++ (lineL s ++ [32, 123, 10])) ++ (sub ++ (tabsL t ++ [125, 10])))) w' ∧ KeptN B w w' := by
  obtain ⟨o, a', b2, n, z⟩ := s
  simp only at ho hra
  subst ho
  obtain ⟨a, rfl⟩ : ∃ a : Nat, a' = a := ⟨a'.toNat, by omega⟩
  obtain ⟨J, hJ⟩ : ∃ J, lineL ⟨11, a, b2, n, z⟩ = J := ⟨_, rfl⟩
  have hJl : J.length ≤ 80 := by rw [← hJ]; exact line_len _ hf
  rw [hJ] at hbs ⊢
  rw [show nodeV ⟨11, a, b2, n, z⟩ (.slice ao vl vc) = .iface 183 (.agg #[.int .i64 a, .slice ao vl vc]) from rfl]
  obtain ⟨NM, hNM⟩ : ∃ NM, str (nameL 11) = NM := ⟨_, rfl⟩
  have hn : w.cell? ⟨1, 11, none⟩ = some (.string NM) := by rw [← hNM]; exact htab.2.1 11 (by decide) (by decide)
  obtain ⟨RA, hRA⟩ : ∃ RA, str (regL (a : Int)) = RA := ⟨_, rfl⟩
  have HJ : Hid (Lib.join (([NM, RA] : List ByteArray).map (·.data.toList)) [32] = J) := by show _ = _; rw [← hNM, ← hRA, ← hJ]; rfl
  have HRA := hid hRA
  clear hNM hJ hf hRA
  have h1 : 1 < w.heap.size := htab.1.1
  have HBK := hid hblk
  clear hblk
  have hmt : ∀ wx : World, (method 360 183 (.agg #[.int .i64 a, .slice ao vl vc]) "loop.example/thread/impl.op").run Tryd.prog wx = .ok (180, .agg #[.int .i64 a, .slice ao vl vc]) wx := fun _ => by kernel_rfl
  have t1 : ∀ wx : World, (Instr.typeAssert (.iface 183 (.agg #[.int .i64 a, .slice ao vl vc])) 141 168 true).run Tryd.prog wx = .ok (.tuple #[.agg #[.int .i64 0, .int .i64 0], .bool false]) wx := fun _ => by kernel_rfl
  have t2 : ∀ wx : World, (Instr.typeAssert (.iface 183 (.agg #[.int .i64 a, .slice ao vl vc])) 141 170 true).run Tryd.prog wx = .ok (.tuple #[.agg #[.int .i64 0, .int .i64 0, .int .i64 0], .bool false]) wx := fun _ => by kernel_rfl
  have t3 : ∀ wx : World, (Instr.typeAssert (.iface 183 (.agg #[.int .i64 a, .slice ao vl vc])) 141 172 true).run Tryd.prog wx = .ok (.tuple #[.agg #[.int .i64 0], .bool false]) wx := fun _ => by kernel_rfl
  have t4 : ∀ wx : World, (Instr.typeAssert (.iface 183 (.agg #[.int .i64 a, .slice ao vl vc])) 141 174 true).run Tryd.prog wx = .ok (.tuple #[.agg #[.int .i64 0, .int .i64 0], .bool false]) wx := fun _ => by kernel_rfl
  have t5 : ∀ wx : World, (Instr.typeAssert (.iface 183 (.agg #[.int .i64 a, .slice ao vl vc])) 141 176 true).run Tryd.prog wx = .ok (.tuple #[.agg #[.int .i64 0, .int .i64 0], .bool false]) wx := fun _ => by kernel_rfl
  have t6 : ∀ wx : World, (Instr.typeAssert (.iface 183 (.agg #[.int .i64 a, .slice ao vl vc])) 141 177 true).run Tryd.prog wx = .ok (.tuple #[.agg #[.int .i64 0], .bool false]) wx := fun _ => by kernel_rfl
  have t7 : ∀ wx : World, (Instr.typeAssert (.iface 183 (.agg #[.int .i64 a, .slice ao vl vc])) 141 178 true).run Tryd.prog wx = .ok (.tuple #[.agg #[.int .i64 0, .int .i64 0], .bool false]) wx := fun _ => by kernel_rfl
  have t8 : ∀ wx : World, (Instr.typeAssert (.iface 183 (.agg #[.int .i64 a, .slice ao vl vc])) 141 179 true).run Tryd.prog wx = .ok (.tuple #[.agg #[.int .i64 0, .int .i64 0], .bool false]) wx := fun _ => by kernel_rfl
  have t9 : ∀ wx : World, (Instr.typeAssert (.iface 183 (.agg #[.int .i64 a, .slice ao vl vc])) 141 180 true).run Tryd.prog wx = .ok (.tuple #[.agg #[.int .i64 0], .bool false]) wx := fun _ => by kernel_rfl
  have t10 : ∀ wx : World, (Instr.typeAssert (.iface 183 (.agg #[.int .i64 a, .slice ao vl vc])) 141 181 true).run Tryd.prog wx = .ok (.tuple #[.agg #[.int .i64 0], .bool false]) wx := fun _ => by kernel_rfl
  have t11 : ∀ wx : World, (Instr.typeAssert (.iface 183 (.agg #[.int .i64 a, .slice ao vl vc])) 141 183 true).run Tryd.prog wx = .ok (.tuple #[.agg #[.int .i64 a, .slice ao vl vc], .bool true]) wx := fun _ => by kernel_rfl
  have hb0 : Below w.heap.size w ((w.alloc (Obj.cells #[.int .i64 a, .slice ao vl vc] 183)).alloc (Obj.cells #[.int .i64 a, .slice ao vl vc] 183)) := bel_alloc (bel_one _ _) _
  go_enter Tryd.func61, Tryd.ntmps61
  have hbd : Below w.heap.size w ((w.alloc (Obj.cells #[.int .i64 a, .slice ao vl vc] 183)).alloc (Obj.cells #[.int .i64 a, .slice ao vl vc] 183)).drew := Below.drew hb0
  have hbx : ((w.alloc (Obj.cells #[.int .i64 a, .slice ao vl vc] 183)).alloc (Obj.cells #[.int .i64 a, .slice ao vl vc] 183)).drew.heap[w.heap.size + 1]? = some (Obj.cells #[.int .i64 a, .slice ao vl vc] 183 (0, 0)) := box_at w _ _
  go_wp2_with (first | go_in)
  go_region_held3 (fun w' : World => w'.cell? ⟨w.heap.size + 1, 0, none⟩ = some (.int .i64 a) ∧ w'.cell? ⟨w.heap.size + 1, 1, none⟩ = some (.slice ao vl vc)) (first | assumption | go_keep) (first | (go_at_call 87; refine (reg_any a (by omega) _).mono ?_; rintro e w1 ⟨he, rfl⟩; rw [HRA.out] at he; subst he) | (go_at_call 89; refine (head_lit B b bs sub t _ _ _ ao vl vc [NM, RA] w ((w.alloc (Obj.cells #[.int .i64 a, .slice ao vl vc] 183)).alloc (Obj.cells #[.int .i64 a, .slice ao vl vc] 183)).drew (h.below hbd) (Nat.le_trans hBw hbd.size) ht (by simp) (by simp) rfl rfl (by simp) J HJ.out (by omega) hbs (keptN_below hbd hBw) HBK.out).mono ?_; rintro e w9 ⟨rfl, h9, hk9⟩; have hS9 := box_held2 ((hk9.2 _ _ _ _ hbx (by decide) (by decide) (by decide)).trans hbx)))
  all_goals (go_wp2_with fail; go_end0; exact ⟨rfl, h9, (keptN_below hbd hBw).trans hk9⟩)

set_option maxRecDepth 100000 in
set_option maxHeartbeats 2000000 in
theorem node_12 (B b : Nat) (bs sub : List UInt8) (t : Nat) (s : Stp) (ao : Option Addr) (vl vc : Nat) (w : World) (ho : s.op = 12) (hf : Fit s) (h : Wrote B b bs w) (hBw : B ≤ w.heap.size) (ht : t ≤ 399) (hbs : bs.length + (t + ((lineL s).length + 3) + sub.length) ≤ 40000000) (htab : Tabs B w) (hblk : Writes B b w t (.slice ao vl vc) sub) :
    Calls Tryd.prog 61 #[.pointer (some ⟨b, 0, none⟩), .int .i64 t, nodeV s (.slice ao vl vc)] w fun e w' => e = .returned (.tuple #[]) ∧ Wrote B b (bs ++ ((tabsL t ++ (lineL s ++ [32, 123, 10])) ++ (sub ++ (tabsL t ++ [125, 10])))) w' ∧ KeptN B w w' := by
  obtain ⟨o, a, b2, n, z⟩ := s
  simp only at ho
  subst ho
  obtain ⟨J, hJ⟩ : ∃ J, lineL ⟨12, a, b2, n, z⟩ = J := ⟨_, rfl⟩
  have hJl : J.length ≤ 80 := by rw [← hJ]; exact line_len _ hf
  rw [hJ] at hbs ⊢
  rw [show nodeV ⟨12, a, b2, n, z⟩ (.slice ao vl vc) = .iface 186 (.agg #[.slice ao vl vc]) from rfl]
  obtain ⟨NM, hNM⟩ : ∃ NM, str (nameL 12) = NM := ⟨_, rfl⟩
  have hn : w.cell? ⟨1, 12, none⟩ = some (.string NM) := by rw [← hNM]; exact htab.2.1 12 (by decide) (by decide)
  have HJ : Hid (Lib.join (([NM] : List ByteArray).map (·.data.toList)) [32] = J) := by show _ = _; rw [← hNM, ← hJ]; rfl
  clear hNM hJ hf
  have h1 : 1 < w.heap.size := htab.1.1
  have HBK := hid hblk
  clear hblk
  have hmt : ∀ wx : World, (method 360 186 (.agg #[.slice ao vl vc]) "loop.example/thread/impl.op").run Tryd.prog wx = .ok (181, .agg #[.slice ao vl vc]) wx := fun _ => by kernel_rfl
  have t1 : ∀ wx : World, (Instr.typeAssert (.iface 186 (.agg #[.slice ao vl vc])) 141 168 true).run Tryd.prog wx = .ok (.tuple #[.agg #[.int .i64 0, .int .i64 0], .bool false]) wx := fun _ => by kernel_rfl
  have t2 : ∀ wx : World, (Instr.typeAssert (.iface 186 (.agg #[.slice ao vl vc])) 141 170 true).run Tryd.prog wx = .ok (.tuple #[.agg #[.int .i64 0, .int .i64 0, .int .i64 0], .bool false]) wx := fun _ => by kernel_rfl
  have t3 : ∀ wx : World, (Instr.typeAssert (.iface 186 (.agg #[.slice ao vl vc])) 141 172 true).run Tryd.prog wx = .ok (.tuple #[.agg #[.int .i64 0], .bool false]) wx := fun _ => by kernel_rfl
  have t4 : ∀ wx : World, (Instr.typeAssert (.iface 186 (.agg #[.slice ao vl vc])) 141 174 true).run Tryd.prog wx = .ok (.tuple #[.agg #[.int .i64 0, .int .i64 0], .bool false]) wx := fun _ => by kernel_rfl
  have t5 : ∀ wx : World, (Instr.typeAssert (.iface 186 (.agg #[.slice ao vl vc])) 141 176 true).run Tryd.prog wx = .ok (.tuple #[.agg #[.int .i64 0, .int .i64 0], .bool false]) wx := fun _ => by kernel_rfl
  have t6 : ∀ wx : World, (Instr.typeAssert (.iface 186 (.agg #[.slice ao vl vc])) 141 177 true).run Tryd.prog wx = .ok (.tuple #[.agg #[.int .i64 0], .bool false]) wx := fun _ => by kernel_rfl
  have t7 : ∀ wx : World, (Instr.typeAssert (.iface 186 (.agg #[.slice ao vl vc])) 141 178 true).run Tryd.prog wx = .ok (.tuple #[.agg #[.int .i64 0, .int .i64 0], .bool false]) wx := fun _ => by kernel_rfl
  have t8 : ∀ wx : World, (Instr.typeAssert (.iface 186 (.agg #[.slice ao vl vc])) 141 179 true).run Tryd.prog wx = .ok (.tuple #[.agg #[.int .i64 0, .int .i64 0], .bool false]) wx := fun _ => by kernel_rfl
  have t9 : ∀ wx : World, (Instr.typeAssert (.iface 186 (.agg #[.slice ao vl vc])) 141 180 true).run Tryd.prog wx = .ok (.tuple #[.agg #[.int .i64 0], .bool false]) wx := fun _ => by kernel_rfl
  have t10 : ∀ wx : World, (Instr.typeAssert (.iface 186 (.agg #[.slice ao vl vc])) 141 181 true).run Tryd.prog wx = .ok (.tuple #[.agg #[.int .i64 0], .bool false]) wx := fun _ => by kernel_rfl
  have t11 : ∀ wx : World, (Instr.typeAssert (.iface 186 (.agg #[.slice ao vl vc])) 141 183 true).run Tryd.prog wx = .ok (.tuple #[.agg #[.int .i64 0, .slice none 0 0], .bool false]) wx := fun _ => by kernel_rfl
  have t12 : ∀ wx : World, (Instr.typeAssert (.iface 186 (.agg #[.slice ao vl vc])) 141 186 true).run Tryd.prog wx = .ok (.tuple #[.agg #[.slice ao vl vc], .bool true]) wx := fun _ => by kernel_rfl
  have hb0 : Below w.heap.size w ((w.alloc (Obj.cells #[.slice ao vl vc] 186)).alloc (Obj.cells #[.slice ao vl vc] 186)) := bel_alloc (bel_one _ _) _
  go_enter Tryd.func61, Tryd.ntmps61
  go_wp2_with (first | (go_at_call 89; refine (head_lit B b bs sub t _ _ _ ao vl vc [NM] w ((w.alloc (Obj.cells #[.slice ao vl vc] 186)).alloc (Obj.cells #[.slice ao vl vc] 186)) (h.below hb0) (by simp; omega) ht (by simp) (by simp) rfl rfl (by simp) J HJ.out (by omega) hbs (keptN_below hb0 hBw) HBK.out).mono ?_; rintro e w9 ⟨rfl, h9, hk9⟩) | go_in)
  go_end0
  exact ⟨rfl, h9, (keptN_below hb0 hBw).trans hk9⟩

set_option maxRecDepth 100000 in
set_option maxHeartbeats 2000000 in
theorem node_13 (B b : Nat) (bs sub : List UInt8) (t : Nat) (s : Stp) (ao : Option Addr) (vl vc : Nat) (w : World) (ho : s.op = 13) (hf : Fit s) (h : Wrote B b bs w) (hBw : B ≤ w.heap.size) (ht : t ≤ 399) (hbs : bs.length + (t + ((lineL s).length + 3) + sub.length) ≤ 40000000) (htab : Tabs B w) (hblk : Writes B b w t (.slice ao vl vc) sub) :
    Calls Tryd.prog 61 #[.pointer (some ⟨b, 0, none⟩), .int .i64 t, nodeV s (.slice ao vl vc)] w fun e w' => e = .returned (.tuple #[]) ∧ Wrote B b (bs ++ ((tabsL t ++ (lineL s ++ [32, 123, 10])) ++ (sub ++ (tabsL t ++ [125, 10])))) w' ∧ KeptN B w w' := by
  obtain ⟨o, a, b2, n, z⟩ := s
  simp only at ho
  subst ho
  obtain ⟨J, hJ⟩ : ∃ J, lineL ⟨13, a, b2, n, z⟩ = J := ⟨_, rfl⟩
  have hJl : J.length ≤ 80 := by rw [← hJ]; exact line_len _ hf
  rw [hJ] at hbs ⊢
  rw [show nodeV ⟨13, a, b2, n, z⟩ (.slice ao vl vc) = .iface 187 (.agg #[.slice ao vl vc]) from rfl]
  obtain ⟨NM, hNM⟩ : ∃ NM, str (nameL 13) = NM := ⟨_, rfl⟩
  have hn : w.cell? ⟨1, 13, none⟩ = some (.string NM) := by rw [← hNM]; exact htab.2.1 13 (by decide) (by decide)
  have HJ : Hid (Lib.join (([NM] : List ByteArray).map (·.data.toList)) [32] = J) := by show _ = _; rw [← hNM, ← hJ]; rfl
  clear hNM hJ hf
  have h1 : 1 < w.heap.size := htab.1.1
  have HBK := hid hblk
  clear hblk
  have hmt : ∀ wx : World, (method 360 187 (.agg #[.slice ao vl vc]) "loop.example/thread/impl.op").run Tryd.prog wx = .ok (182, .agg #[.slice ao vl vc]) wx := fun _ => by kernel_rfl
  have t1 : ∀ wx : World, (Instr.typeAssert (.iface 187 (.agg #[.slice ao vl vc])) 141 168 true).run Tryd.prog wx = .ok (.tuple #[.agg #[.int .i64 0, .int .i64 0], .bool false]) wx := fun _ => by kernel_rfl
  have t2 : ∀ wx : World, (Instr.typeAssert (.iface 187 (.agg #[.slice ao vl vc])) 141 170 true).run Tryd.prog wx = .ok (.tuple #[.agg #[.int .i64 0, .int .i64 0, .int .i64 0], .bool false]) wx := fun _ => by kernel_rfl
  have t3 : ∀ wx : World, (Instr.typeAssert (.iface 187 (.agg #[.slice ao vl vc])) 141 172 true).run Tryd.prog wx = .ok (.tuple #[.agg #[.int .i64 0], .bool false]) wx := fun _ => by kernel_rfl
  have t4 : ∀ wx : World, (Instr.typeAssert (.iface 187 (.agg #[.slice ao vl vc])) 141 174 true).run Tryd.prog wx = .ok (.tuple #[.agg #[.int .i64 0, .int .i64 0], .bool false]) wx := fun _ => by kernel_rfl
  have t5 : ∀ wx : World, (Instr.typeAssert (.iface 187 (.agg #[.slice ao vl vc])) 141 176 true).run Tryd.prog wx = .ok (.tuple #[.agg #[.int .i64 0, .int .i64 0], .bool false]) wx := fun _ => by kernel_rfl
  have t6 : ∀ wx : World, (Instr.typeAssert (.iface 187 (.agg #[.slice ao vl vc])) 141 177 true).run Tryd.prog wx = .ok (.tuple #[.agg #[.int .i64 0], .bool false]) wx := fun _ => by kernel_rfl
  have t7 : ∀ wx : World, (Instr.typeAssert (.iface 187 (.agg #[.slice ao vl vc])) 141 178 true).run Tryd.prog wx = .ok (.tuple #[.agg #[.int .i64 0, .int .i64 0], .bool false]) wx := fun _ => by kernel_rfl
  have t8 : ∀ wx : World, (Instr.typeAssert (.iface 187 (.agg #[.slice ao vl vc])) 141 179 true).run Tryd.prog wx = .ok (.tuple #[.agg #[.int .i64 0, .int .i64 0], .bool false]) wx := fun _ => by kernel_rfl
  have t9 : ∀ wx : World, (Instr.typeAssert (.iface 187 (.agg #[.slice ao vl vc])) 141 180 true).run Tryd.prog wx = .ok (.tuple #[.agg #[.int .i64 0], .bool false]) wx := fun _ => by kernel_rfl
  have t10 : ∀ wx : World, (Instr.typeAssert (.iface 187 (.agg #[.slice ao vl vc])) 141 181 true).run Tryd.prog wx = .ok (.tuple #[.agg #[.int .i64 0], .bool false]) wx := fun _ => by kernel_rfl
  have t11 : ∀ wx : World, (Instr.typeAssert (.iface 187 (.agg #[.slice ao vl vc])) 141 183 true).run Tryd.prog wx = .ok (.tuple #[.agg #[.int .i64 0, .slice none 0 0], .bool false]) wx := fun _ => by kernel_rfl
  have t12 : ∀ wx : World, (Instr.typeAssert (.iface 187 (.agg #[.slice ao vl vc])) 141 186 true).run Tryd.prog wx = .ok (.tuple #[.agg #[.slice none 0 0], .bool false]) wx := fun _ => by kernel_rfl
  have t13 : ∀ wx : World, (Instr.typeAssert (.iface 187 (.agg #[.slice ao vl vc])) 141 187 true).run Tryd.prog wx = .ok (.tuple #[.agg #[.slice ao vl vc], .bool true]) wx := fun _ => by kernel_rfl
  have hb0 : Below w.heap.size w ((w.alloc (Obj.cells #[.slice ao vl vc] 187)).alloc (Obj.cells #[.slice ao vl vc] 187)) := bel_alloc (bel_one _ _) _
  go_enter Tryd.func61, Tryd.ntmps61
  go_wp2_with (first | (go_at_call 89; refine (head_lit B b bs sub t _ _ _ ao vl vc [NM] w ((w.alloc (Obj.cells #[.slice ao vl vc] 187)).alloc (Obj.cells #[.slice ao vl vc] 187)) (h.below hb0) (by simp; omega) ht (by simp) (by simp) rfl rfl (by simp) J HJ.out (by omega) hbs (keptN_below hb0 hBw) HBK.out).mono ?_; rintro e w9 ⟨rfl, h9, hk9⟩) | go_in)
  go_end0
  exact ⟨rfl, h9, (keptN_below hb0 hBw).trans hk9⟩

set_option maxRecDepth 100000 in
set_option maxHeartbeats 2000000 in
theorem node_14 (B b : Nat) (bs sub : List UInt8) (t : Nat) (s : Stp) (ao : Option Addr) (vl vc : Nat) (w : World) (ho : s.op = 14) (hra : 0 ≤ s.a ∧ s.a < 4) (hf : Fit s) (h : Wrote B b bs w) (hBw : B ≤ w.heap.size) (ht : t ≤ 399) (hbs : bs.length + (t + ((lineL s).length + 3) + sub.length) ≤ 40000000) (htab : Tabs B w) (hblk : Writes B b w t (.slice ao vl vc) sub) :
    Calls Tryd.prog 61 #[.pointer (some ⟨b, 0, none⟩), .int .i64 t, nodeV s (.slice ao vl vc)] w fun e w' => e = .returned (.tuple #[]) ∧ Wrote B b (bs ++ ((tabsL t ++ (lineL s ++ [32, 123, 10])) ++ (sub ++ (tabsL t ++ [125, 10])))) w' ∧ KeptN B w w' := by
  obtain ⟨o, a', b2, n, z⟩ := s
  simp only at ho hra
  subst ho
  obtain ⟨a, rfl⟩ : ∃ a : Nat, a' = a := ⟨a'.toNat, by omega⟩
  obtain ⟨J, hJ⟩ : ∃ J, lineL ⟨14, a, b2, n, z⟩ = J := ⟨_, rfl⟩
  have hJl : J.length ≤ 80 := by rw [← hJ]; exact line_len _ hf
  rw [hJ] at hbs ⊢
  rw [show nodeV ⟨14, a, b2, n, z⟩ (.slice ao vl vc) = .iface 188 (.agg #[.int .i64 a, .slice ao vl vc]) from rfl]
  obtain ⟨NM, hNM⟩ : ∃ NM, str (nameL 14) = NM := ⟨_, rfl⟩
  have hn : w.cell? ⟨1, 14, none⟩ = some (.string NM) := by rw [← hNM]; exact htab.2.1 14 (by decide) (by decide)
  obtain ⟨RA, hRA⟩ : ∃ RA, str (regL (a : Int)) = RA := ⟨_, rfl⟩
  have HJ : Hid (Lib.join (([NM, RA] : List ByteArray).map (·.data.toList)) [32] = J) := by show _ = _; rw [← hNM, ← hRA, ← hJ]; rfl
  have HRA := hid hRA
  clear hNM hJ hf hRA
  have h1 : 1 < w.heap.size := htab.1.1
  have HBK := hid hblk
  clear hblk
  have hmt : ∀ wx : World, (method 360 188 (.agg #[.int .i64 a, .slice ao vl vc]) "loop.example/thread/impl.op").run Tryd.prog wx = .ok (183, .agg #[.int .i64 a, .slice ao vl vc]) wx := fun _ => by kernel_rfl
  have t1 : ∀ wx : World, (Instr.typeAssert (.iface 188 (.agg #[.int .i64 a, .slice ao vl vc])) 141 168 true).run Tryd.prog wx = .ok (.tuple #[.agg #[.int .i64 0, .int .i64 0], .bool false]) wx := fun _ => by kernel_rfl
  have t2 : ∀ wx : World, (Instr.typeAssert (.iface 188 (.agg #[.int .i64 a, .slice ao vl vc])) 141 170 true).run Tryd.prog wx = .ok (.tuple #[.agg #[.int .i64 0, .int .i64 0, .int .i64 0], .bool false]) wx := fun _ => by kernel_rfl
  have t3 : ∀ wx : World, (Instr.typeAssert (.iface 188 (.agg #[.int .i64 a, .slice ao vl vc])) 141 172 true).run Tryd.prog wx = .ok (.tuple #[.agg #[.int .i64 0], .bool false]) wx := fun _ => by kernel_rfl
  have t4 : ∀ wx : World, (Instr.typeAssert (.iface 188 (.agg #[.int .i64 a, .slice ao vl vc])) 141 174 true).run Tryd.prog wx = .ok (.tuple #[.agg #[.int .i64 0, .int .i64 0], .bool false]) wx := fun _ => by kernel_rfl
  have t5 : ∀ wx : World, (Instr.typeAssert (.iface 188 (.agg #[.int .i64 a, .slice ao vl vc])) 141 176 true).run Tryd.prog wx = .ok (.tuple #[.agg #[.int .i64 0, .int .i64 0], .bool false]) wx := fun _ => by kernel_rfl
  have t6 : ∀ wx : World, (Instr.typeAssert (.iface 188 (.agg #[.int .i64 a, .slice ao vl vc])) 141 177 true).run Tryd.prog wx = .ok (.tuple #[.agg #[.int .i64 0], .bool false]) wx := fun _ => by kernel_rfl
  have t7 : ∀ wx : World, (Instr.typeAssert (.iface 188 (.agg #[.int .i64 a, .slice ao vl vc])) 141 178 true).run Tryd.prog wx = .ok (.tuple #[.agg #[.int .i64 0, .int .i64 0], .bool false]) wx := fun _ => by kernel_rfl
  have t8 : ∀ wx : World, (Instr.typeAssert (.iface 188 (.agg #[.int .i64 a, .slice ao vl vc])) 141 179 true).run Tryd.prog wx = .ok (.tuple #[.agg #[.int .i64 0, .int .i64 0], .bool false]) wx := fun _ => by kernel_rfl
  have t9 : ∀ wx : World, (Instr.typeAssert (.iface 188 (.agg #[.int .i64 a, .slice ao vl vc])) 141 180 true).run Tryd.prog wx = .ok (.tuple #[.agg #[.int .i64 0], .bool false]) wx := fun _ => by kernel_rfl
  have t10 : ∀ wx : World, (Instr.typeAssert (.iface 188 (.agg #[.int .i64 a, .slice ao vl vc])) 141 181 true).run Tryd.prog wx = .ok (.tuple #[.agg #[.int .i64 0], .bool false]) wx := fun _ => by kernel_rfl
  have t11 : ∀ wx : World, (Instr.typeAssert (.iface 188 (.agg #[.int .i64 a, .slice ao vl vc])) 141 183 true).run Tryd.prog wx = .ok (.tuple #[.agg #[.int .i64 0, .slice none 0 0], .bool false]) wx := fun _ => by kernel_rfl
  have t12 : ∀ wx : World, (Instr.typeAssert (.iface 188 (.agg #[.int .i64 a, .slice ao vl vc])) 141 186 true).run Tryd.prog wx = .ok (.tuple #[.agg #[.slice none 0 0], .bool false]) wx := fun _ => by kernel_rfl
  have t13 : ∀ wx : World, (Instr.typeAssert (.iface 188 (.agg #[.int .i64 a, .slice ao vl vc])) 141 187 true).run Tryd.prog wx = .ok (.tuple #[.agg #[.slice none 0 0], .bool false]) wx := fun _ => by kernel_rfl
  have t14 : ∀ wx : World, (Instr.typeAssert (.iface 188 (.agg #[.int .i64 a, .slice ao vl vc])) 141 188 true).run Tryd.prog wx = .ok (.tuple #[.agg #[.int .i64 a, .slice ao vl vc], .bool true]) wx := fun _ => by kernel_rfl
  have hb0 : Below w.heap.size w ((w.alloc (Obj.cells #[.int .i64 a, .slice ao vl vc] 188)).alloc (Obj.cells #[.int .i64 a, .slice ao vl vc] 188)) := bel_alloc (bel_one _ _) _
  go_enter Tryd.func61, Tryd.ntmps61
  have hbd : Below w.heap.size w ((w.alloc (Obj.cells #[.int .i64 a, .slice ao vl vc] 188)).alloc (Obj.cells #[.int .i64 a, .slice ao vl vc] 188)).drew := Below.drew hb0
  have hbx : ((w.alloc (Obj.cells #[.int .i64 a, .slice ao vl vc] 188)).alloc (Obj.cells #[.int .i64 a, .slice ao vl vc] 188)).drew.heap[w.heap.size + 1]? = some (Obj.cells #[.int .i64 a, .slice ao vl vc] 188 (0, 0)) := box_at w _ _
  go_wp2_with (first | go_in)
  go_region_held3 (fun w' : World => w'.cell? ⟨w.heap.size + 1, 0, none⟩ = some (.int .i64 a) ∧ w'.cell? ⟨w.heap.size + 1, 1, none⟩ = some (.slice ao vl vc)) (first | assumption | go_keep) (first | (go_at_call 87; refine (reg_any a (by omega) _).mono ?_; rintro e w1 ⟨he, rfl⟩; rw [HRA.out] at he; subst he) | (go_at_call 89; refine (head_lit B b bs sub t _ _ _ ao vl vc [NM, RA] w ((w.alloc (Obj.cells #[.int .i64 a, .slice ao vl vc] 188)).alloc (Obj.cells #[.int .i64 a, .slice ao vl vc] 188)).drew (h.below hbd) (Nat.le_trans hBw hbd.size) ht (by simp) (by simp) rfl rfl (by simp) J HJ.out (by omega) hbs (keptN_below hbd hBw) HBK.out).mono ?_; rintro e w9 ⟨rfl, h9, hk9⟩; have hS9 := box_held2 ((hk9.2 _ _ _ _ hbx (by decide) (by decide) (by decide)).trans hbx)))
  all_goals (go_wp2_with fail; go_end0; exact ⟨rfl, h9, (keptN_below hbd hBw).trans hk9⟩)

set_option maxRecDepth 100000 in
set_option maxHeartbeats 2000000 in
theorem node_15 (B b : Nat) (bs sub : List UInt8) (t : Nat) (s : Stp) (ao : Option Addr) (vl vc : Nat) (w : World) (ho : s.op = 15) (hra : 0 ≤ s.a ∧ s.a < 4) (hf : Fit s) (h : Wrote B b bs w) (hBw : B ≤ w.heap.size) (ht : t ≤ 399) (hbs : bs.length + (t + ((lineL s).length + 3) + sub.length) ≤ 40000000) (htab : Tabs B w) (hblk : Writes B b w t (.slice ao vl vc) sub) :
    Calls Tryd.prog 61 #[.pointer (some ⟨b, 0, none⟩), .int .i64 t, nodeV s (.slice ao vl vc)] w fun e w' => e = .returned (.tuple #[]) ∧ Wrote B b (bs ++ ((tabsL t ++ (lineL s ++ [32, 123, 10])) ++ (sub ++ (tabsL t ++ [125, 10])))) w' ∧ KeptN B w w' := by
  obtain ⟨o, a', b2, n, z⟩ := s
  simp only at ho hra
  subst ho
  obtain ⟨a, rfl⟩ : ∃ a : Nat, a' = a := ⟨a'.toNat, by omega⟩
  obtain ⟨J, hJ⟩ : ∃ J, lineL ⟨15, a, b2, n, z⟩ = J := ⟨_, rfl⟩
  have hJl : J.length ≤ 80 := by rw [← hJ]; exact line_len _ hf
  rw [hJ] at hbs ⊢
  rw [show nodeV ⟨15, a, b2, n, z⟩ (.slice ao vl vc) = .iface 189 (.agg #[.int .i64 a, .slice ao vl vc]) from rfl]
  obtain ⟨NM, hNM⟩ : ∃ NM, str (nameL 15) = NM := ⟨_, rfl⟩
  have hn : w.cell? ⟨1, 15, none⟩ = some (.string NM) := by rw [← hNM]; exact htab.2.1 15 (by decide) (by decide)
  obtain ⟨RA, hRA⟩ : ∃ RA, str (regL (a : Int)) = RA := ⟨_, rfl⟩
  have HJ : Hid (Lib.join (([NM, RA] : List ByteArray).map (·.data.toList)) [32] = J) := by show _ = _; rw [← hNM, ← hRA, ← hJ]; rfl
  have HRA := hid hRA
  clear hNM hJ hf hRA
  have h1 : 1 < w.heap.size := htab.1.1
  have HBK := hid hblk
  clear hblk
  have hmt : ∀ wx : World, (method 360 189 (.agg #[.int .i64 a, .slice ao vl vc]) "loop.example/thread/impl.op").run Tryd.prog wx = .ok (184, .agg #[.int .i64 a, .slice ao vl vc]) wx := fun _ => by kernel_rfl
  have t1 : ∀ wx : World, (Instr.typeAssert (.iface 189 (.agg #[.int .i64 a, .slice ao vl vc])) 141 168 true).run Tryd.prog wx = .ok (.tuple #[.agg #[.int .i64 0, .int .i64 0], .bool false]) wx := fun _ => by kernel_rfl
  have t2 : ∀ wx : World, (Instr.typeAssert (.iface 189 (.agg #[.int .i64 a, .slice ao vl vc])) 141 170 true).run Tryd.prog wx = .ok (.tuple #[.agg #[.int .i64 0, .int .i64 0, .int .i64 0], .bool false]) wx := fun _ => by kernel_rfl
  have t3 : ∀ wx : World, (Instr.typeAssert (.iface 189 (.agg #[.int .i64 a, .slice ao vl vc])) 141 172 true).run Tryd.prog wx = .ok (.tuple #[.agg #[.int .i64 0], .bool false]) wx := fun _ => by kernel_rfl
  have t4 : ∀ wx : World, (Instr.typeAssert (.iface 189 (.agg #[.int .i64 a, .slice ao vl vc])) 141 174 true).run Tryd.prog wx = .ok (.tuple #[.agg #[.int .i64 0, .int .i64 0], .bool false]) wx := fun _ => by kernel_rfl
  have t5 : ∀ wx : World, (Instr.typeAssert (.iface 189 (.agg #[.int .i64 a, .slice ao vl vc])) 141 176 true).run Tryd.prog wx = .ok (.tuple #[.agg #[.int .i64 0, .int .i64 0], .bool false]) wx := fun _ => by kernel_rfl
  have t6 : ∀ wx : World, (Instr.typeAssert (.iface 189 (.agg #[.int .i64 a, .slice ao vl vc])) 141 177 true).run Tryd.prog wx = .ok (.tuple #[.agg #[.int .i64 0], .bool false]) wx := fun _ => by kernel_rfl
  have t7 : ∀ wx : World, (Instr.typeAssert (.iface 189 (.agg #[.int .i64 a, .slice ao vl vc])) 141 178 true).run Tryd.prog wx = .ok (.tuple #[.agg #[.int .i64 0, .int .i64 0], .bool false]) wx := fun _ => by kernel_rfl
  have t8 : ∀ wx : World, (Instr.typeAssert (.iface 189 (.agg #[.int .i64 a, .slice ao vl vc])) 141 179 true).run Tryd.prog wx = .ok (.tuple #[.agg #[.int .i64 0, .int .i64 0], .bool false]) wx := fun _ => by kernel_rfl
  have t9 : ∀ wx : World, (Instr.typeAssert (.iface 189 (.agg #[.int .i64 a, .slice ao vl vc])) 141 180 true).run Tryd.prog wx = .ok (.tuple #[.agg #[.int .i64 0], .bool false]) wx := fun _ => by kernel_rfl
  have t10 : ∀ wx : World, (Instr.typeAssert (.iface 189 (.agg #[.int .i64 a, .slice ao vl vc])) 141 181 true).run Tryd.prog wx = .ok (.tuple #[.agg #[.int .i64 0], .bool false]) wx := fun _ => by kernel_rfl
  have t11 : ∀ wx : World, (Instr.typeAssert (.iface 189 (.agg #[.int .i64 a, .slice ao vl vc])) 141 183 true).run Tryd.prog wx = .ok (.tuple #[.agg #[.int .i64 0, .slice none 0 0], .bool false]) wx := fun _ => by kernel_rfl
  have t12 : ∀ wx : World, (Instr.typeAssert (.iface 189 (.agg #[.int .i64 a, .slice ao vl vc])) 141 186 true).run Tryd.prog wx = .ok (.tuple #[.agg #[.slice none 0 0], .bool false]) wx := fun _ => by kernel_rfl
  have t13 : ∀ wx : World, (Instr.typeAssert (.iface 189 (.agg #[.int .i64 a, .slice ao vl vc])) 141 187 true).run Tryd.prog wx = .ok (.tuple #[.agg #[.slice none 0 0], .bool false]) wx := fun _ => by kernel_rfl
  have t14 : ∀ wx : World, (Instr.typeAssert (.iface 189 (.agg #[.int .i64 a, .slice ao vl vc])) 141 188 true).run Tryd.prog wx = .ok (.tuple #[.agg #[.int .i64 0, .slice none 0 0], .bool false]) wx := fun _ => by kernel_rfl
  have t15 : ∀ wx : World, (Instr.typeAssert (.iface 189 (.agg #[.int .i64 a, .slice ao vl vc])) 141 189 true).run Tryd.prog wx = .ok (.tuple #[.agg #[.int .i64 a, .slice ao vl vc], .bool true]) wx := fun _ => by kernel_rfl
  have hb0 : Below w.heap.size w ((w.alloc (Obj.cells #[.int .i64 a, .slice ao vl vc] 189)).alloc (Obj.cells #[.int .i64 a, .slice ao vl vc] 189)) := bel_alloc (bel_one _ _) _
  go_enter Tryd.func61, Tryd.ntmps61
  have hbd : Below w.heap.size w ((w.alloc (Obj.cells #[.int .i64 a, .slice ao vl vc] 189)).alloc (Obj.cells #[.int .i64 a, .slice ao vl vc] 189)).drew := Below.drew hb0
  have hbx : ((w.alloc (Obj.cells #[.int .i64 a, .slice ao vl vc] 189)).alloc (Obj.cells #[.int .i64 a, .slice ao vl vc] 189)).drew.heap[w.heap.size + 1]? = some (Obj.cells #[.int .i64 a, .slice ao vl vc] 189 (0, 0)) := box_at w _ _
  go_wp2_with (first | go_in)
  go_region_held3 (fun w' : World => w'.cell? ⟨w.heap.size + 1, 0, none⟩ = some (.int .i64 a) ∧ w'.cell? ⟨w.heap.size + 1, 1, none⟩ = some (.slice ao vl vc)) (first | assumption | go_keep) (first | (go_at_call 87; refine (reg_any a (by omega) _).mono ?_; rintro e w1 ⟨he, rfl⟩; rw [HRA.out] at he; subst he) | (go_at_call 89; refine (head_lit B b bs sub t _ _ _ ao vl vc [NM, RA] w ((w.alloc (Obj.cells #[.int .i64 a, .slice ao vl vc] 189)).alloc (Obj.cells #[.int .i64 a, .slice ao vl vc] 189)).drew (h.below hbd) (Nat.le_trans hBw hbd.size) ht (by simp) (by simp) rfl rfl (by simp) J HJ.out (by omega) hbs (keptN_below hbd hBw) HBK.out).mono ?_; rintro e w9 ⟨rfl, h9, hk9⟩; have hS9 := box_held2 ((hk9.2 _ _ _ _ hbx (by decide) (by decide) (by decide)).trans hbx)))
  all_goals (go_wp2_with fail; go_end0; exact ⟨rfl, h9, (keptN_below hbd hBw).trans hk9⟩)

end Go.Proofs.YtagppfkcaeobkaaDoor
