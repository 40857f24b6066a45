/- The walk of the planWriter's node, at each Op. Printed by gen_node.py. -/
import Derived.Test.YtkoccaheckkbdaaDoorHead
import Derived.Test.YtkoccaheckkbdaaDoorNodesOf
import Derived.Lib.AppendIntMem
namespace Go.Proofs.YtkoccaheckkbdaaDoor
open Go.RowKit

/-- The tables that the writing reads. -/
def Tabs (B : Nat) (w : World) : Prop := (1 < w.heap.size ∧ 1 < B) ∧ (∀ o : Nat, 1 ≤ o → o ≤ 15 → w.cell? ⟨1, o, none⟩ = some (.string (str (nameL (o : Int))))) ∧ Lib.TabBelow Tryd.prog B w "internal/strconv.uint64pow10" .u64 Lib.pow10Tab
theorem Tabs.below {B : Nat} {w w' : World} (h : Tabs B w) (hb : Below B w w') : Tabs B w' := by
  obtain ⟨⟨h1, h2⟩, h3, h4⟩ := h
  exact ⟨⟨Nat.lt_of_lt_of_le h1 hb.size, h2⟩, fun o h5 h6 => (hb.cell h2).trans (h3 o h5 h6), h4.on hb⟩

theorem box_at (w : World) (o1 o2 : Obj) : ((w.alloc o1).alloc o2).drew.heap[w.heap.size + 1]? = some o2 := by
  have h := heap_alloc_new (w.alloc o1) o2
  simp only [World.size_alloc] at h
  exact h
theorem box_held2 {w : World} {g e : Nat} {x y : Value} (h : w.heap[g]? = some (Obj.cells #[x, y] e (0, 0))) : w.cell? ⟨g, 0, none⟩ = some x ∧ w.cell? ⟨g, 1, none⟩ = some y := by
  constructor <;> (rw [Lib.cell_of_heap h]; rfl)
theorem box_held3 {w : World} {g e : Nat} {x y z : Value} (h : w.heap[g]? = some (Obj.cells #[x, y, z] e (0, 0))) : w.cell? ⟨g, 0, none⟩ = some x ∧ w.cell? ⟨g, 1, none⟩ = some y ∧ w.cell? ⟨g, 2, none⟩ = some z := by
  refine ⟨?_, ?_, ?_⟩ <;> (rw [Lib.cell_of_heap h]; rfl)

set_option maxRecDepth 100000 in
set_option maxHeartbeats 2000000 in
theorem node_1 (B b : Nat) (bs : List UInt8) (t : Nat) (s : Stp) (ao : Option Addr) (vl vc : Nat) (w : World) (ho : s.op = 1) (hra : 0 ≤ s.a ∧ s.a < 4) (hf : Fit s) (h : Wrote B b bs w) (hBw : B ≤ w.heap.size) (ht : t ≤ 399) (hbs : bs.length ≤ 40000000) (htab : Tabs B w) :
    Calls Tryd.prog 41 #[.pointer (some ⟨b, 0, none⟩), .int .i64 t, nodeV s (.slice ao vl vc)] w fun e w' => e = .returned (.tuple #[]) ∧ Wrote B b (bs ++ (tabsL t ++ (lineL s ++ [10]))) w' ∧ KeptN B w w' := by
  obtain ⟨o, a', b2, n, z⟩ := s
  simp only at ho hra
  subst ho
  obtain ⟨a, rfl⟩ : ∃ a : Nat, a' = a := ⟨a'.toNat, by omega⟩
  obtain ⟨J, hJ⟩ : ∃ J, lineL ⟨1, a, b2, n, z⟩ = J := ⟨_, rfl⟩
  have hJl : J.length ≤ 80 := by rw [← hJ]; exact line_len _ hf
  rw [hJ]
  rw [show nodeV ⟨1, a, b2, n, z⟩ (.slice ao vl vc) = .iface 106 (.agg #[.int .i64 a, .int .i64 n]) from rfl]
  obtain ⟨NM, hNM⟩ : ∃ NM, str (nameL 1) = NM := ⟨_, rfl⟩
  have hn : w.cell? ⟨1, 1, none⟩ = some (.string NM) := by rw [← hNM]; exact htab.2.1 1 (by decide) (by decide)
  obtain ⟨RA, hRA⟩ : ∃ RA, str (regL (a : Int)) = RA := ⟨_, rfl⟩
  obtain ⟨RN, hRN⟩ : ∃ RN, str (Lib.itoa n) = RN := ⟨_, rfl⟩
  have hn0 : -9223372036854775808 ≤ n := hf.2.2.1
  have hn1 : n ≤ 9223372036854775807 := hf.2.2.2
  have HJ : Hid (Lib.join (([NM, RA, RN] : List ByteArray).map (·.data.toList)) [32] = J) := by show _ = _; rw [← hNM, ← hRA, ← hRN, ← hJ]; rfl
  have HRA := hid hRA
  have HRN := hid hRN
  clear hNM hJ hf hRA hRN
  have h1 : 1 < w.heap.size := htab.1.1
  have hmt : ∀ wx : World, (method 265 106 (.agg #[.int .i64 a, .int .i64 n]) "loop.example/thread/impl.op").run Tryd.prog wx = .ok (91, .agg #[.int .i64 a, .int .i64 n]) wx := fun _ => by kernel_rfl
  have t1 : ∀ wx : World, (Instr.typeAssert (.iface 106 (.agg #[.int .i64 a, .int .i64 n])) 90 106 true).run Tryd.prog wx = .ok (.tuple #[.agg #[.int .i64 a, .int .i64 n], .bool true]) wx := fun _ => by kernel_rfl
  have hb0 : Below w.heap.size w ((w.alloc (Obj.cells #[.int .i64 a, .int .i64 n] 106)).alloc (Obj.cells #[.int .i64 a, .int .i64 n] 106)) := bel_alloc (bel_one _ _) _
  go_enter Tryd.func41, Tryd.ntmps41
  have hbd : Below w.heap.size w ((w.alloc (Obj.cells #[.int .i64 a, .int .i64 n] 106)).alloc (Obj.cells #[.int .i64 a, .int .i64 n] 106)).drew := Below.drew hb0
  have hbx : ((w.alloc (Obj.cells #[.int .i64 a, .int .i64 n] 106)).alloc (Obj.cells #[.int .i64 a, .int .i64 n] 106)).drew.heap[w.heap.size + 1]? = some (Obj.cells #[.int .i64 a, .int .i64 n] 106 (0, 0)) := box_at w _ _
  go_wp2_with (first | go_in)
  go_region_held3 (fun w' : World => w'.cell? ⟨w.heap.size + 1, 0, none⟩ = some (.int .i64 a) ∧ w'.cell? ⟨w.heap.size + 1, 1, none⟩ = some (.int .i64 n)) (first | assumption | go_keep) (first | (go_at_call 53; refine (reg_any a (by omega) _).mono ?_; rintro e w1 ⟨he, rfl⟩; rw [HRA.out] at he; subst he) | (go_at_call 54; refine (Tryd.strconv_FormatInt_10 n hn0 hn1 _ (htab.2.2 _ (hbd.mono hBw))).mono ?_; rintro e w2 ⟨he, k2, os2, hw2⟩; have he2 : e = .returned (.string RN) := (by rw [he]; exact congrArg (fun x => Ending.returned (Value.string x)) HRN.out); subst he2; clear he; have hb2 : Below ((w.alloc (Obj.cells #[.int .i64 a, .int .i64 n] 106)).alloc (Obj.cells #[.int .i64 a, .int .i64 n] 106)).drew.heap.size ((w.alloc (Obj.cells #[.int .i64 a, .int .i64 n] 106)).alloc (Obj.cells #[.int .i64 a, .int .i64 n] 106)).drew w2 := (by rw [hw2]; exact Lib.below_grow _ _ (Nat.le_refl _) _ _); clear hw2; have hbe := bel_trans hbd hb2; have hb2x : w2.heap[w.heap.size + 1]? = some (Obj.cells #[.int .i64 a, .int .i64 n] 106 (0, 0)) := (hb2.block _ (by simp)).trans hbx; have hS2 := box_held2 hb2x) | (go_at_call 22; refine (line_lit B b bs t _ _ _ [NM, RA, RN] w2 (h.below hbe) (Nat.le_trans hBw hbe.size) (by omega) (by omega) (by simp) rfl rfl (by simp) J HJ.out (by omega)).mono ?_; rintro e w9 ⟨rfl, h9, hk9⟩; have hS9 := box_held2 ((hk9.2 _ _ _ _ hb2x (by decide) (by decide) (by decide)).trans hb2x)))
  all_goals (go_wp2_with fail; go_end0; exact ⟨rfl, h9, (keptN_below hbe hBw).trans hk9⟩)

set_option maxRecDepth 100000 in
set_option maxHeartbeats 2000000 in
theorem node_2 (B b : Nat) (bs : List UInt8) (t : Nat) (s : Stp) (ao : Option Addr) (vl vc : Nat) (w : World) (ho : s.op = 2) (hra : 0 ≤ s.a ∧ s.a < 4) (hrb : 0 ≤ s.b ∧ s.b < 4) (hf : Fit s) (h : Wrote B b bs w) (hBw : B ≤ w.heap.size) (ht : t ≤ 399) (hbs : bs.length ≤ 40000000) (htab : Tabs B w) :
    Calls Tryd.prog 41 #[.pointer (some ⟨b, 0, none⟩), .int .i64 t, nodeV s (.slice ao vl vc)] w fun e w' => e = .returned (.tuple #[]) ∧ Wrote B b (bs ++ (tabsL t ++ (lineL s ++ [10]))) w' ∧ KeptN B w w' := by
  obtain ⟨o, a', b', n, z⟩ := s
  simp only at ho hra hrb
  subst ho
  obtain ⟨a, rfl⟩ : ∃ a : Nat, a' = a := ⟨a'.toNat, by omega⟩
  obtain ⟨b2, rfl⟩ : ∃ b2 : Nat, b' = b2 := ⟨b'.toNat, by omega⟩
  obtain ⟨J, hJ⟩ : ∃ J, lineL ⟨2, a, b2, n, z⟩ = J := ⟨_, rfl⟩
  have hJl : J.length ≤ 80 := by rw [← hJ]; exact line_len _ hf
  rw [hJ]
  rw [show nodeV ⟨2, a, b2, n, z⟩ (.slice ao vl vc) = .iface 108 (.agg #[.int .i64 a, .int .i64 b2, .int .i64 n]) from rfl]
  obtain ⟨NM, hNM⟩ : ∃ NM, str (nameL 2) = NM := ⟨_, rfl⟩
  have hn : w.cell? ⟨1, 2, none⟩ = some (.string NM) := by rw [← hNM]; exact htab.2.1 2 (by decide) (by decide)
  obtain ⟨RA, hRA⟩ : ∃ RA, str (regL (a : Int)) = RA := ⟨_, rfl⟩
  obtain ⟨RB, hRB⟩ : ∃ RB, str (regL (b2 : Int)) = RB := ⟨_, rfl⟩
  obtain ⟨RN, hRN⟩ : ∃ RN, str (Lib.itoa n) = RN := ⟨_, rfl⟩
  have hn0 : -9223372036854775808 ≤ n := hf.2.2.1
  have hn1 : n ≤ 9223372036854775807 := hf.2.2.2
  have HJ : Hid (Lib.join (([NM, RA, RB, RN] : List ByteArray).map (·.data.toList)) [32] = J) := by show _ = _; rw [← hNM, ← hRA, ← hRB, ← hRN, ← hJ]; rfl
  have HRA := hid hRA
  have HRB := hid hRB
  have HRN := hid hRN
  clear hNM hJ hf hRA hRB hRN
  have h1 : 1 < w.heap.size := htab.1.1
  have hmt : ∀ wx : World, (method 265 108 (.agg #[.int .i64 a, .int .i64 b2, .int .i64 n]) "loop.example/thread/impl.op").run Tryd.prog wx = .ok (92, .agg #[.int .i64 a, .int .i64 b2, .int .i64 n]) wx := fun _ => by kernel_rfl
  have t1 : ∀ wx : World, (Instr.typeAssert (.iface 108 (.agg #[.int .i64 a, .int .i64 b2, .int .i64 n])) 90 106 true).run Tryd.prog wx = .ok (.tuple #[.agg #[.int .i64 0, .int .i64 0], .bool false]) wx := fun _ => by kernel_rfl
  have t2 : ∀ wx : World, (Instr.typeAssert (.iface 108 (.agg #[.int .i64 a, .int .i64 b2, .int .i64 n])) 90 108 true).run Tryd.prog wx = .ok (.tuple #[.agg #[.int .i64 a, .int .i64 b2, .int .i64 n], .bool true]) wx := fun _ => by kernel_rfl
  have hb0 : Below w.heap.size w ((w.alloc (Obj.cells #[.int .i64 a, .int .i64 b2, .int .i64 n] 108)).alloc (Obj.cells #[.int .i64 a, .int .i64 b2, .int .i64 n] 108)) := bel_alloc (bel_one _ _) _
  go_enter Tryd.func41, Tryd.ntmps41
  have hbd : Below w.heap.size w ((w.alloc (Obj.cells #[.int .i64 a, .int .i64 b2, .int .i64 n] 108)).alloc (Obj.cells #[.int .i64 a, .int .i64 b2, .int .i64 n] 108)).drew := Below.drew hb0
  have hbx : ((w.alloc (Obj.cells #[.int .i64 a, .int .i64 b2, .int .i64 n] 108)).alloc (Obj.cells #[.int .i64 a, .int .i64 b2, .int .i64 n] 108)).drew.heap[w.heap.size + 1]? = some (Obj.cells #[.int .i64 a, .int .i64 b2, .int .i64 n] 108 (0, 0)) := box_at w _ _
  go_wp2_with (first | go_in)
  go_region_held3 (fun w' : World => w'.cell? ⟨w.heap.size + 1, 0, none⟩ = some (.int .i64 a) ∧ w'.cell? ⟨w.heap.size + 1, 1, none⟩ = some (.int .i64 b2) ∧ w'.cell? ⟨w.heap.size + 1, 2, none⟩ = some (.int .i64 n)) (first | assumption | go_keep) (first | (go_at_call 53; refine (reg_any a (by omega) _).mono ?_; rintro e w1 ⟨he, rfl⟩; rw [HRA.out] at he; subst he) | (go_at_call 53; refine (reg_any b2 (by omega) _).mono ?_; rintro e w1 ⟨he, rfl⟩; rw [HRB.out] at he; subst he) | (go_at_call 54; refine (Tryd.strconv_FormatInt_10 n hn0 hn1 _ (htab.2.2 _ (hbd.mono hBw))).mono ?_; rintro e w2 ⟨he, k2, os2, hw2⟩; have he2 : e = .returned (.string RN) := (by rw [he]; exact congrArg (fun x => Ending.returned (Value.string x)) HRN.out); subst he2; clear he; have hb2 : Below ((w.alloc (Obj.cells #[.int .i64 a, .int .i64 b2, .int .i64 n] 108)).alloc (Obj.cells #[.int .i64 a, .int .i64 b2, .int .i64 n] 108)).drew.heap.size ((w.alloc (Obj.cells #[.int .i64 a, .int .i64 b2, .int .i64 n] 108)).alloc (Obj.cells #[.int .i64 a, .int .i64 b2, .int .i64 n] 108)).drew w2 := (by rw [hw2]; exact Lib.below_grow _ _ (Nat.le_refl _) _ _); clear hw2; have hbe := bel_trans hbd hb2; have hb2x : w2.heap[w.heap.size + 1]? = some (Obj.cells #[.int .i64 a, .int .i64 b2, .int .i64 n] 108 (0, 0)) := (hb2.block _ (by simp)).trans hbx; have hS2 := box_held3 hb2x) | (go_at_call 22; refine (line_lit B b bs t _ _ _ [NM, RA, RB, RN] w2 (h.below hbe) (Nat.le_trans hBw hbe.size) (by omega) (by omega) (by simp) rfl rfl (by simp) J HJ.out (by omega)).mono ?_; rintro e w9 ⟨rfl, h9, hk9⟩; have hS9 := box_held3 ((hk9.2 _ _ _ _ hb2x (by decide) (by decide) (by decide)).trans hb2x)))
  all_goals (go_wp2_with fail; go_end0; exact ⟨rfl, h9, (keptN_below hbe hBw).trans hk9⟩)

set_option maxRecDepth 100000 in
set_option maxHeartbeats 2000000 in
theorem node_3 (B b : Nat) (bs : List UInt8) (t : Nat) (s : Stp) (ao : Option Addr) (vl vc : Nat) (w : World) (ho : s.op = 3) (hra : 0 ≤ s.a ∧ s.a < 4) (hf : Fit s) (h : Wrote B b bs w) (hBw : B ≤ w.heap.size) (ht : t ≤ 399) (hbs : bs.length ≤ 40000000) (htab : Tabs B w) :
    Calls Tryd.prog 41 #[.pointer (some ⟨b, 0, none⟩), .int .i64 t, nodeV s (.slice ao vl vc)] w fun e w' => e = .returned (.tuple #[]) ∧ Wrote B b (bs ++ (tabsL t ++ (lineL s ++ [10]))) w' ∧ KeptN B w w' := by
  obtain ⟨o, a', b2, n, z⟩ := s
  simp only at ho hra
  subst ho
  obtain ⟨a, rfl⟩ : ∃ a : Nat, a' = a := ⟨a'.toNat, by omega⟩
  obtain ⟨J, hJ⟩ : ∃ J, lineL ⟨3, a, b2, n, z⟩ = J := ⟨_, rfl⟩
  have hJl : J.length ≤ 80 := by rw [← hJ]; exact line_len _ hf
  rw [hJ]
  rw [show nodeV ⟨3, a, b2, n, z⟩ (.slice ao vl vc) = .iface 110 (.agg #[.int .i64 a]) from rfl]
  obtain ⟨NM, hNM⟩ : ∃ NM, str (nameL 3) = NM := ⟨_, rfl⟩
  have hn : w.cell? ⟨1, 3, none⟩ = some (.string NM) := by rw [← hNM]; exact htab.2.1 3 (by decide) (by decide)
  obtain ⟨RA, hRA⟩ : ∃ RA, str (regL (a : Int)) = RA := ⟨_, rfl⟩
  have HJ : Hid (Lib.join (([NM, RA] : List ByteArray).map (·.data.toList)) [32] = J) := by show _ = _; rw [← hNM, ← hRA, ← hJ]; rfl
  have HRA := hid hRA
  clear hNM hJ hf hRA
  have h1 : 1 < w.heap.size := htab.1.1
  have hmt : ∀ wx : World, (method 265 110 (.agg #[.int .i64 a]) "loop.example/thread/impl.op").run Tryd.prog wx = .ok (93, .agg #[.int .i64 a]) wx := fun _ => by kernel_rfl
  have t1 : ∀ wx : World, (Instr.typeAssert (.iface 110 (.agg #[.int .i64 a])) 90 106 true).run Tryd.prog wx = .ok (.tuple #[.agg #[.int .i64 0, .int .i64 0], .bool false]) wx := fun _ => by kernel_rfl
  have t2 : ∀ wx : World, (Instr.typeAssert (.iface 110 (.agg #[.int .i64 a])) 90 108 true).run Tryd.prog wx = .ok (.tuple #[.agg #[.int .i64 0, .int .i64 0, .int .i64 0], .bool false]) wx := fun _ => by kernel_rfl
  have t3 : ∀ wx : World, (Instr.typeAssert (.iface 110 (.agg #[.int .i64 a])) 90 110 true).run Tryd.prog wx = .ok (.tuple #[.agg #[.int .i64 a], .bool true]) wx := fun _ => by kernel_rfl
  have hb0 : Below w.heap.size w ((w.alloc (Obj.cells #[.int .i64 a] 110)).alloc (Obj.cells #[.int .i64 a] 110)) := bel_alloc (bel_one _ _) _
  go_enter Tryd.func41, Tryd.ntmps41
  go_wp2_with (first | (go_at_call 53; refine (reg_any a (by omega) _).mono ?_; rintro e w1 ⟨he, rfl⟩; rw [HRA.out] at he; subst he) | (go_at_call 22; refine (line_lit B b bs t _ _ _ [NM, RA] ((w.alloc (Obj.cells #[.int .i64 a] 110)).alloc (Obj.cells #[.int .i64 a] 110)) (h.below hb0) (by simp; omega) (by omega) (by omega) (by simp) rfl rfl (by simp) J HJ.out (by omega)).mono ?_; rintro e w9 ⟨rfl, h9, hk9⟩) | go_in)
  go_end0
  exact ⟨rfl, h9, (keptN_below hb0 hBw).trans hk9⟩

set_option maxRecDepth 100000 in
set_option maxHeartbeats 2000000 in
theorem node_4 (B b : Nat) (bs : List UInt8) (t : Nat) (s : Stp) (ao : Option Addr) (vl vc : Nat) (w : World) (ho : s.op = 4) (hra : 0 ≤ s.a ∧ s.a < 4) (hrb : 0 ≤ s.b ∧ s.b < 100) (hf : Fit s) (h : Wrote B b bs w) (hBw : B ≤ w.heap.size) (ht : t ≤ 399) (hbs : bs.length ≤ 40000000) (htab : Tabs B w) :
    Calls Tryd.prog 41 #[.pointer (some ⟨b, 0, none⟩), .int .i64 t, nodeV s (.slice ao vl vc)] w fun e w' => e = .returned (.tuple #[]) ∧ Wrote B b (bs ++ (tabsL t ++ (lineL s ++ [10]))) w' ∧ KeptN B w w' := by
  obtain ⟨o, a', b', n, z⟩ := s
  simp only at ho hra hrb
  subst ho
  obtain ⟨a, rfl⟩ : ∃ a : Nat, a' = a := ⟨a'.toNat, by omega⟩
  obtain ⟨b2, rfl⟩ : ∃ b2 : Nat, b' = b2 := ⟨b'.toNat, by omega⟩
  obtain ⟨J, hJ⟩ : ∃ J, lineL ⟨4, a, b2, n, z⟩ = J := ⟨_, rfl⟩
  have hJl : J.length ≤ 80 := by rw [← hJ]; exact line_len _ hf
  rw [hJ]
  rw [show nodeV ⟨4, a, b2, n, z⟩ (.slice ao vl vc) = .iface 112 (.agg #[.int .i64 a, .int .i64 b2]) from rfl]
  obtain ⟨NM, hNM⟩ : ∃ NM, str (nameL 4) = NM := ⟨_, rfl⟩
  have hn : w.cell? ⟨1, 4, none⟩ = some (.string NM) := by rw [← hNM]; exact htab.2.1 4 (by decide) (by decide)
  obtain ⟨RA, hRA⟩ : ∃ RA, str (regL (a : Int)) = RA := ⟨_, rfl⟩
  obtain ⟨RB, hRB⟩ : ∃ RB, str (Lib.itoa (b2 : Int)) = RB := ⟨_, rfl⟩
  have HJ : Hid (Lib.join (([NM, RA, ⟨#[98, 111, 100, 121]⟩, RB] : List ByteArray).map (·.data.toList)) [32] = J) := by show _ = _; rw [← hNM, ← hRA, ← hRB, ← hJ]; rfl
  have HRA := hid hRA
  have HRB := hid hRB
  have HI : Hid (str (Lib.itoa (b2 : Int)) = ⟨(Lib.decDigits b2).toArray⟩) := by show _ = _; rw [Lib.itoa_nonneg]; rfl
  clear hNM hJ hf hRA hRB
  have h1 : 1 < w.heap.size := htab.1.1
  have hmt : ∀ wx : World, (method 265 112 (.agg #[.int .i64 a, .int .i64 b2]) "loop.example/thread/impl.op").run Tryd.prog wx = .ok (94, .agg #[.int .i64 a, .int .i64 b2]) wx := fun _ => by kernel_rfl
  have t1 : ∀ wx : World, (Instr.typeAssert (.iface 112 (.agg #[.int .i64 a, .int .i64 b2])) 90 106 true).run Tryd.prog wx = .ok (.tuple #[.agg #[.int .i64 0, .int .i64 0], .bool false]) wx := fun _ => by kernel_rfl
  have t2 : ∀ wx : World, (Instr.typeAssert (.iface 112 (.agg #[.int .i64 a, .int .i64 b2])) 90 108 true).run Tryd.prog wx = .ok (.tuple #[.agg #[.int .i64 0, .int .i64 0, .int .i64 0], .bool false]) wx := fun _ => by kernel_rfl
  have t3 : ∀ wx : World, (Instr.typeAssert (.iface 112 (.agg #[.int .i64 a, .int .i64 b2])) 90 110 true).run Tryd.prog wx = .ok (.tuple #[.agg #[.int .i64 0], .bool false]) wx := fun _ => by kernel_rfl
  have t4 : ∀ wx : World, (Instr.typeAssert (.iface 112 (.agg #[.int .i64 a, .int .i64 b2])) 90 112 true).run Tryd.prog wx = .ok (.tuple #[.agg #[.int .i64 a, .int .i64 b2], .bool true]) wx := fun _ => by kernel_rfl
  have hb0 : Below w.heap.size w ((w.alloc (Obj.cells #[.int .i64 a, .int .i64 b2] 112)).alloc (Obj.cells #[.int .i64 a, .int .i64 b2] 112)) := bel_alloc (bel_one _ _) _
  go_enter Tryd.func41, Tryd.ntmps41
  have hbd : Below w.heap.size w ((w.alloc (Obj.cells #[.int .i64 a, .int .i64 b2] 112)).alloc (Obj.cells #[.int .i64 a, .int .i64 b2] 112)).drew := Below.drew hb0
  have hbx : ((w.alloc (Obj.cells #[.int .i64 a, .int .i64 b2] 112)).alloc (Obj.cells #[.int .i64 a, .int .i64 b2] 112)).drew.heap[w.heap.size + 1]? = some (Obj.cells #[.int .i64 a, .int .i64 b2] 112 (0, 0)) := box_at w _ _
  go_wp2_with (first | go_in)
  go_region_held3 (fun w' : World => w'.cell? ⟨w.heap.size + 1, 0, none⟩ = some (.int .i64 a) ∧ w'.cell? ⟨w.heap.size + 1, 1, none⟩ = some (.int .i64 b2)) (first | assumption | go_keep) (first | (go_at_call 53; refine (reg_any a (by omega) _).mono ?_; rintro e w1 ⟨he, rfl⟩; rw [HRA.out] at he; subst he) | (go_at_call 23; refine (Tryd.strconv_Itoa_small b2 (by omega) _).mono ?_; rintro e w1 ⟨he, rfl⟩; rw [← HI.out, HRB.out] at he; subst he) | (go_at_call 22; refine (line_lit B b bs t _ _ _ [NM, RA, ⟨#[98, 111, 100, 121]⟩, RB] ((w.alloc (Obj.cells #[.int .i64 a, .int .i64 b2] 112)).alloc (Obj.cells #[.int .i64 a, .int .i64 b2] 112)).drew (h.below hbd) (Nat.le_trans hBw hbd.size) (by omega) (by omega) (by simp) rfl rfl (by simp) J HJ.out (by omega)).mono ?_; rintro e w9 ⟨rfl, h9, hk9⟩; have hS9 := box_held2 ((hk9.2 _ _ _ _ hbx (by decide) (by decide) (by decide)).trans hbx)))
  all_goals (go_wp2_with fail; go_end0; exact ⟨rfl, h9, (keptN_below hbd hBw).trans hk9⟩)

set_option maxRecDepth 100000 in
set_option maxHeartbeats 2000000 in
theorem node_5 (B b : Nat) (bs : List UInt8) (t : Nat) (s : Stp) (ao : Option Addr) (vl vc : Nat) (w : World) (ho : s.op = 5) (hra : 0 ≤ s.a ∧ s.a < 4) (hrb : 0 ≤ s.b ∧ s.b < 4) (hf : Fit s) (h : Wrote B b bs w) (hBw : B ≤ w.heap.size) (ht : t ≤ 399) (hbs : bs.length ≤ 40000000) (htab : Tabs B w) :
    Calls Tryd.prog 41 #[.pointer (some ⟨b, 0, none⟩), .int .i64 t, nodeV s (.slice ao vl vc)] w fun e w' => e = .returned (.tuple #[]) ∧ Wrote B b (bs ++ (tabsL t ++ (lineL s ++ [10]))) w' ∧ KeptN B w w' := by
  obtain ⟨o, a', b', n, z⟩ := s
  simp only at ho hra hrb
  subst ho
  obtain ⟨a, rfl⟩ : ∃ a : Nat, a' = a := ⟨a'.toNat, by omega⟩
  obtain ⟨b2, rfl⟩ : ∃ b2 : Nat, b' = b2 := ⟨b'.toNat, by omega⟩
  obtain ⟨J, hJ⟩ : ∃ J, lineL ⟨5, a, b2, n, z⟩ = J := ⟨_, rfl⟩
  have hJl : J.length ≤ 80 := by rw [← hJ]; exact line_len _ hf
  rw [hJ]
  rw [show nodeV ⟨5, a, b2, n, z⟩ (.slice ao vl vc) = .iface 114 (.agg #[.int .i64 a, .int .i64 b2]) from rfl]
  obtain ⟨NM, hNM⟩ : ∃ NM, str (nameL 5) = NM := ⟨_, rfl⟩
  have hn : w.cell? ⟨1, 5, none⟩ = some (.string NM) := by rw [← hNM]; exact htab.2.1 5 (by decide) (by decide)
  obtain ⟨RA, hRA⟩ : ∃ RA, str (regL (a : Int)) = RA := ⟨_, rfl⟩
  obtain ⟨RB, hRB⟩ : ∃ RB, str (regL (b2 : Int)) = RB := ⟨_, rfl⟩
  have HJ : Hid (Lib.join (([NM, RA, RB] : List ByteArray).map (·.data.toList)) [32] = J) := by show _ = _; rw [← hNM, ← hRA, ← hRB, ← hJ]; rfl
  have HRA := hid hRA
  have HRB := hid hRB
  clear hNM hJ hf hRA hRB
  have h1 : 1 < w.heap.size := htab.1.1
  have hmt : ∀ wx : World, (method 265 114 (.agg #[.int .i64 a, .int .i64 b2]) "loop.example/thread/impl.op").run Tryd.prog wx = .ok (95, .agg #[.int .i64 a, .int .i64 b2]) wx := fun _ => by kernel_rfl
  have t1 : ∀ wx : World, (Instr.typeAssert (.iface 114 (.agg #[.int .i64 a, .int .i64 b2])) 90 106 true).run Tryd.prog wx = .ok (.tuple #[.agg #[.int .i64 0, .int .i64 0], .bool false]) wx := fun _ => by kernel_rfl
  have t2 : ∀ wx : World, (Instr.typeAssert (.iface 114 (.agg #[.int .i64 a, .int .i64 b2])) 90 108 true).run Tryd.prog wx = .ok (.tuple #[.agg #[.int .i64 0, .int .i64 0, .int .i64 0], .bool false]) wx := fun _ => by kernel_rfl
  have t3 : ∀ wx : World, (Instr.typeAssert (.iface 114 (.agg #[.int .i64 a, .int .i64 b2])) 90 110 true).run Tryd.prog wx = .ok (.tuple #[.agg #[.int .i64 0], .bool false]) wx := fun _ => by kernel_rfl
  have t4 : ∀ wx : World, (Instr.typeAssert (.iface 114 (.agg #[.int .i64 a, .int .i64 b2])) 90 112 true).run Tryd.prog wx = .ok (.tuple #[.agg #[.int .i64 0, .int .i64 0], .bool false]) wx := fun _ => by kernel_rfl
  have t5 : ∀ wx : World, (Instr.typeAssert (.iface 114 (.agg #[.int .i64 a, .int .i64 b2])) 90 114 true).run Tryd.prog wx = .ok (.tuple #[.agg #[.int .i64 a, .int .i64 b2], .bool true]) wx := fun _ => by kernel_rfl
  have hb0 : Below w.heap.size w ((w.alloc (Obj.cells #[.int .i64 a, .int .i64 b2] 114)).alloc (Obj.cells #[.int .i64 a, .int .i64 b2] 114)) := bel_alloc (bel_one _ _) _
  go_enter Tryd.func41, Tryd.ntmps41
  have hbd : Below w.heap.size w ((w.alloc (Obj.cells #[.int .i64 a, .int .i64 b2] 114)).alloc (Obj.cells #[.int .i64 a, .int .i64 b2] 114)).drew := Below.drew hb0
  have hbx : ((w.alloc (Obj.cells #[.int .i64 a, .int .i64 b2] 114)).alloc (Obj.cells #[.int .i64 a, .int .i64 b2] 114)).drew.heap[w.heap.size + 1]? = some (Obj.cells #[.int .i64 a, .int .i64 b2] 114 (0, 0)) := box_at w _ _
  go_wp2_with (first | go_in)
  go_region_held3 (fun w' : World => w'.cell? ⟨w.heap.size + 1, 0, none⟩ = some (.int .i64 a) ∧ w'.cell? ⟨w.heap.size + 1, 1, none⟩ = some (.int .i64 b2)) (first | assumption | go_keep) (first | (go_at_call 53; refine (reg_any a (by omega) _).mono ?_; rintro e w1 ⟨he, rfl⟩; rw [HRA.out] at he; subst he) | (go_at_call 53; refine (reg_any b2 (by omega) _).mono ?_; rintro e w1 ⟨he, rfl⟩; rw [HRB.out] at he; subst he) | (go_at_call 22; refine (line_lit B b bs t _ _ _ [NM, RA, RB] ((w.alloc (Obj.cells #[.int .i64 a, .int .i64 b2] 114)).alloc (Obj.cells #[.int .i64 a, .int .i64 b2] 114)).drew (h.below hbd) (Nat.le_trans hBw hbd.size) (by omega) (by omega) (by simp) rfl rfl (by simp) J HJ.out (by omega)).mono ?_; rintro e w9 ⟨rfl, h9, hk9⟩; have hS9 := box_held2 ((hk9.2 _ _ _ _ hbx (by decide) (by decide) (by decide)).trans hbx)))
  all_goals (go_wp2_with fail; go_end0; exact ⟨rfl, h9, (keptN_below hbd hBw).trans hk9⟩)

set_option maxRecDepth 100000 in
set_option maxHeartbeats 2000000 in
theorem node_6 (B b : Nat) (bs : List UInt8) (t : Nat) (s : Stp) (ao : Option Addr) (vl vc : Nat) (w : World) (ho : s.op = 6) (hra : 0 ≤ s.a ∧ s.a < 4) (hf : Fit s) (h : Wrote B b bs w) (hBw : B ≤ w.heap.size) (ht : t ≤ 399) (hbs : bs.length ≤ 40000000) (htab : Tabs B w) :
    Calls Tryd.prog 41 #[.pointer (some ⟨b, 0, none⟩), .int .i64 t, nodeV s (.slice ao vl vc)] w fun e w' => e = .returned (.tuple #[]) ∧ Wrote B b (bs ++ (tabsL t ++ (lineL s ++ [10]))) w' ∧ KeptN B w w' := by
  obtain ⟨o, a', b2, n, z⟩ := s
  simp only at ho hra
  subst ho
  obtain ⟨a, rfl⟩ : ∃ a : Nat, a' = a := ⟨a'.toNat, by omega⟩
  obtain ⟨J, hJ⟩ : ∃ J, lineL ⟨6, a, b2, n, z⟩ = J := ⟨_, rfl⟩
  have hJl : J.length ≤ 80 := by rw [← hJ]; exact line_len _ hf
  rw [hJ]
  rw [show nodeV ⟨6, a, b2, n, z⟩ (.slice ao vl vc) = .iface 115 (.agg #[.int .i64 a]) from rfl]
  obtain ⟨NM, hNM⟩ : ∃ NM, str (nameL 6) = NM := ⟨_, rfl⟩
  have hn : w.cell? ⟨1, 6, none⟩ = some (.string NM) := by rw [← hNM]; exact htab.2.1 6 (by decide) (by decide)
  obtain ⟨RA, hRA⟩ : ∃ RA, str (regL (a : Int)) = RA := ⟨_, rfl⟩
  have HJ : Hid (Lib.join (([NM, RA] : List ByteArray).map (·.data.toList)) [32] = J) := by show _ = _; rw [← hNM, ← hRA, ← hJ]; rfl
  have HRA := hid hRA
  clear hNM hJ hf hRA
  have h1 : 1 < w.heap.size := htab.1.1
  have hmt : ∀ wx : World, (method 265 115 (.agg #[.int .i64 a]) "loop.example/thread/impl.op").run Tryd.prog wx = .ok (96, .agg #[.int .i64 a]) wx := fun _ => by kernel_rfl
  have t1 : ∀ wx : World, (Instr.typeAssert (.iface 115 (.agg #[.int .i64 a])) 90 106 true).run Tryd.prog wx = .ok (.tuple #[.agg #[.int .i64 0, .int .i64 0], .bool false]) wx := fun _ => by kernel_rfl
  have t2 : ∀ wx : World, (Instr.typeAssert (.iface 115 (.agg #[.int .i64 a])) 90 108 true).run Tryd.prog wx = .ok (.tuple #[.agg #[.int .i64 0, .int .i64 0, .int .i64 0], .bool false]) wx := fun _ => by kernel_rfl
  have t3 : ∀ wx : World, (Instr.typeAssert (.iface 115 (.agg #[.int .i64 a])) 90 110 true).run Tryd.prog wx = .ok (.tuple #[.agg #[.int .i64 0], .bool false]) wx := fun _ => by kernel_rfl
  have t4 : ∀ wx : World, (Instr.typeAssert (.iface 115 (.agg #[.int .i64 a])) 90 112 true).run Tryd.prog wx = .ok (.tuple #[.agg #[.int .i64 0, .int .i64 0], .bool false]) wx := fun _ => by kernel_rfl
  have t5 : ∀ wx : World, (Instr.typeAssert (.iface 115 (.agg #[.int .i64 a])) 90 114 true).run Tryd.prog wx = .ok (.tuple #[.agg #[.int .i64 0, .int .i64 0], .bool false]) wx := fun _ => by kernel_rfl
  have t6 : ∀ wx : World, (Instr.typeAssert (.iface 115 (.agg #[.int .i64 a])) 90 115 true).run Tryd.prog wx = .ok (.tuple #[.agg #[.int .i64 a], .bool true]) wx := fun _ => by kernel_rfl
  have hb0 : Below w.heap.size w ((w.alloc (Obj.cells #[.int .i64 a] 115)).alloc (Obj.cells #[.int .i64 a] 115)) := bel_alloc (bel_one _ _) _
  go_enter Tryd.func41, Tryd.ntmps41
  go_wp2_with (first | (go_at_call 53; refine (reg_any a (by omega) _).mono ?_; rintro e w1 ⟨he, rfl⟩; rw [HRA.out] at he; subst he) | (go_at_call 22; refine (line_lit B b bs t _ _ _ [NM, RA] ((w.alloc (Obj.cells #[.int .i64 a] 115)).alloc (Obj.cells #[.int .i64 a] 115)) (h.below hb0) (by simp; omega) (by omega) (by omega) (by simp) rfl rfl (by simp) J HJ.out (by omega)).mono ?_; rintro e w9 ⟨rfl, h9, hk9⟩) | go_in)
  go_end0
  exact ⟨rfl, h9, (keptN_below hb0 hBw).trans hk9⟩

set_option maxRecDepth 100000 in
set_option maxHeartbeats 2000000 in
theorem node_7 (B b : Nat) (bs : List UInt8) (t : Nat) (s : Stp) (ao : Option Addr) (vl vc : Nat) (w : World) (ho : s.op = 7) (hra : 0 ≤ s.a ∧ s.a < 4) (hrb : 0 ≤ s.b ∧ s.b < 4) (hf : Fit s) (h : Wrote B b bs w) (hBw : B ≤ w.heap.size) (ht : t ≤ 399) (hbs : bs.length ≤ 40000000) (htab : Tabs B w) :
    Calls Tryd.prog 41 #[.pointer (some ⟨b, 0, none⟩), .int .i64 t, nodeV s (.slice ao vl vc)] w fun e w' => e = .returned (.tuple #[]) ∧ Wrote B b (bs ++ (tabsL t ++ (lineL s ++ [10]))) w' ∧ KeptN B w w' := by
  obtain ⟨o, a', b', n, z⟩ := s
  simp only at ho hra hrb
  subst ho
  obtain ⟨a, rfl⟩ : ∃ a : Nat, a' = a := ⟨a'.toNat, by omega⟩
  obtain ⟨b2, rfl⟩ : ∃ b2 : Nat, b' = b2 := ⟨b'.toNat, by omega⟩
  obtain ⟨J, hJ⟩ : ∃ J, lineL ⟨7, a, b2, n, z⟩ = J := ⟨_, rfl⟩
  have hJl : J.length ≤ 80 := by rw [← hJ]; exact line_len _ hf
  rw [hJ]
  rw [show nodeV ⟨7, a, b2, n, z⟩ (.slice ao vl vc) = .iface 116 (.agg #[.int .i64 a, .int .i64 b2]) from rfl]
  obtain ⟨NM, hNM⟩ : ∃ NM, str (nameL 7) = NM := ⟨_, rfl⟩
  have hn : w.cell? ⟨1, 7, none⟩ = some (.string NM) := by rw [← hNM]; exact htab.2.1 7 (by decide) (by decide)
  obtain ⟨RA, hRA⟩ : ∃ RA, str (regL (a : Int)) = RA := ⟨_, rfl⟩
  obtain ⟨RB, hRB⟩ : ∃ RB, str (regL (b2 : Int)) = RB := ⟨_, rfl⟩
  have HJ : Hid (Lib.join (([NM, RA, RB] : List ByteArray).map (·.data.toList)) [32] = J) := by show _ = _; rw [← hNM, ← hRA, ← hRB, ← hJ]; rfl
  have HRA := hid hRA
  have HRB := hid hRB
  clear hNM hJ hf hRA hRB
  have h1 : 1 < w.heap.size := htab.1.1
  have hmt : ∀ wx : World, (method 265 116 (.agg #[.int .i64 a, .int .i64 b2]) "loop.example/thread/impl.op").run Tryd.prog wx = .ok (97, .agg #[.int .i64 a, .int .i64 b2]) wx := fun _ => by kernel_rfl
  have t1 : ∀ wx : World, (Instr.typeAssert (.iface 116 (.agg #[.int .i64 a, .int .i64 b2])) 90 106 true).run Tryd.prog wx = .ok (.tuple #[.agg #[.int .i64 0, .int .i64 0], .bool false]) wx := fun _ => by kernel_rfl
  have t2 : ∀ wx : World, (Instr.typeAssert (.iface 116 (.agg #[.int .i64 a, .int .i64 b2])) 90 108 true).run Tryd.prog wx = .ok (.tuple #[.agg #[.int .i64 0, .int .i64 0, .int .i64 0], .bool false]) wx := fun _ => by kernel_rfl
  have t3 : ∀ wx : World, (Instr.typeAssert (.iface 116 (.agg #[.int .i64 a, .int .i64 b2])) 90 110 true).run Tryd.prog wx = .ok (.tuple #[.agg #[.int .i64 0], .bool false]) wx := fun _ => by kernel_rfl
  have t4 : ∀ wx : World, (Instr.typeAssert (.iface 116 (.agg #[.int .i64 a, .int .i64 b2])) 90 112 true).run Tryd.prog wx = .ok (.tuple #[.agg #[.int .i64 0, .int .i64 0], .bool false]) wx := fun _ => by kernel_rfl
  have t5 : ∀ wx : World, (Instr.typeAssert (.iface 116 (.agg #[.int .i64 a, .int .i64 b2])) 90 114 true).run Tryd.prog wx = .ok (.tuple #[.agg #[.int .i64 0, .int .i64 0], .bool false]) wx := fun _ => by kernel_rfl
  have t6 : ∀ wx : World, (Instr.typeAssert (.iface 116 (.agg #[.int .i64 a, .int .i64 b2])) 90 115 true).run Tryd.prog wx = .ok (.tuple #[.agg #[.int .i64 0], .bool false]) wx := fun _ => by kernel_rfl
  have t7 : ∀ wx : World, (Instr.typeAssert (.iface 116 (.agg #[.int .i64 a, .int .i64 b2])) 90 116 true).run Tryd.prog wx = .ok (.tuple #[.agg #[.int .i64 a, .int .i64 b2], .bool true]) wx := fun _ => by kernel_rfl
  have hb0 : Below w.heap.size w ((w.alloc (Obj.cells #[.int .i64 a, .int .i64 b2] 116)).alloc (Obj.cells #[.int .i64 a, .int .i64 b2] 116)) := bel_alloc (bel_one _ _) _
  go_enter Tryd.func41, Tryd.ntmps41
  have hbd : Below w.heap.size w ((w.alloc (Obj.cells #[.int .i64 a, .int .i64 b2] 116)).alloc (Obj.cells #[.int .i64 a, .int .i64 b2] 116)).drew := Below.drew hb0
  have hbx : ((w.alloc (Obj.cells #[.int .i64 a, .int .i64 b2] 116)).alloc (Obj.cells #[.int .i64 a, .int .i64 b2] 116)).drew.heap[w.heap.size + 1]? = some (Obj.cells #[.int .i64 a, .int .i64 b2] 116 (0, 0)) := box_at w _ _
  go_wp2_with (first | go_in)
  go_region_held3 (fun w' : World => w'.cell? ⟨w.heap.size + 1, 0, none⟩ = some (.int .i64 a) ∧ w'.cell? ⟨w.heap.size + 1, 1, none⟩ = some (.int .i64 b2)) (first | assumption | go_keep) (first | (go_at_call 53; refine (reg_any a (by omega) _).mono ?_; rintro e w1 ⟨he, rfl⟩; rw [HRA.out] at he; subst he) | (go_at_call 53; refine (reg_any b2 (by omega) _).mono ?_; rintro e w1 ⟨he, rfl⟩; rw [HRB.out] at he; subst he) | (go_at_call 22; refine (line_lit B b bs t _ _ _ [NM, RA, RB] ((w.alloc (Obj.cells #[.int .i64 a, .int .i64 b2] 116)).alloc (Obj.cells #[.int .i64 a, .int .i64 b2] 116)).drew (h.below hbd) (Nat.le_trans hBw hbd.size) (by omega) (by omega) (by simp) rfl rfl (by simp) J HJ.out (by omega)).mono ?_; rintro e w9 ⟨rfl, h9, hk9⟩; have hS9 := box_held2 ((hk9.2 _ _ _ _ hbx (by decide) (by decide) (by decide)).trans hbx)))
  all_goals (go_wp2_with fail; go_end0; exact ⟨rfl, h9, (keptN_below hbd hBw).trans hk9⟩)

set_option maxRecDepth 100000 in
set_option maxHeartbeats 2000000 in
theorem node_8 (B b : Nat) (bs : List UInt8) (t : Nat) (s : Stp) (ao : Option Addr) (vl vc : Nat) (w : World) (ho : s.op = 8) (hra : 0 ≤ s.a ∧ s.a < 4) (hrb : 0 ≤ s.b ∧ s.b < 4) (hf : Fit s) (h : Wrote B b bs w) (hBw : B ≤ w.heap.size) (ht : t ≤ 399) (hbs : bs.length ≤ 40000000) (htab : Tabs B w) :
    Calls Tryd.prog 41 #[.pointer (some ⟨b, 0, none⟩), .int .i64 t, nodeV s (.slice ao vl vc)] w fun e w' => e = .returned (.tuple #[]) ∧ Wrote B b (bs ++ (tabsL t ++ (lineL s ++ [10]))) w' ∧ KeptN B w w' := by
  obtain ⟨o, a', b', n, z⟩ := s
  simp only at ho hra hrb
  subst ho
  obtain ⟨a, rfl⟩ : ∃ a : Nat, a' = a := ⟨a'.toNat, by omega⟩
  obtain ⟨b2, rfl⟩ : ∃ b2 : Nat, b' = b2 := ⟨b'.toNat, by omega⟩
  obtain ⟨J, hJ⟩ : ∃ J, lineL ⟨8, a, b2, n, z⟩ = J := ⟨_, rfl⟩
  have hJl : J.length ≤ 80 := by rw [← hJ]; exact line_len _ hf
  rw [hJ]
  rw [show nodeV ⟨8, a, b2, n, z⟩ (.slice ao vl vc) = .iface 117 (.agg #[.int .i64 a, .int .i64 b2]) from rfl]
  obtain ⟨NM, hNM⟩ : ∃ NM, str (nameL 8) = NM := ⟨_, rfl⟩
  have hn : w.cell? ⟨1, 8, none⟩ = some (.string NM) := by rw [← hNM]; exact htab.2.1 8 (by decide) (by decide)
  obtain ⟨RA, hRA⟩ : ∃ RA, str (regL (a : Int)) = RA := ⟨_, rfl⟩
  obtain ⟨RB, hRB⟩ : ∃ RB, str (regL (b2 : Int)) = RB := ⟨_, rfl⟩
  have HJ : Hid (Lib.join (([NM, RA, RB] : List ByteArray).map (·.data.toList)) [32] = J) := by show _ = _; rw [← hNM, ← hRA, ← hRB, ← hJ]; rfl
  have HRA := hid hRA
  have HRB := hid hRB
  clear hNM hJ hf hRA hRB
  have h1 : 1 < w.heap.size := htab.1.1
  have hmt : ∀ wx : World, (method 265 117 (.agg #[.int .i64 a, .int .i64 b2]) "loop.example/thread/impl.op").run Tryd.prog wx = .ok (98, .agg #[.int .i64 a, .int .i64 b2]) wx := fun _ => by kernel_rfl
  have t1 : ∀ wx : World, (Instr.typeAssert (.iface 117 (.agg #[.int .i64 a, .int .i64 b2])) 90 106 true).run Tryd.prog wx = .ok (.tuple #[.agg #[.int .i64 0, .int .i64 0], .bool false]) wx := fun _ => by kernel_rfl
  have t2 : ∀ wx : World, (Instr.typeAssert (.iface 117 (.agg #[.int .i64 a, .int .i64 b2])) 90 108 true).run Tryd.prog wx = .ok (.tuple #[.agg #[.int .i64 0, .int .i64 0, .int .i64 0], .bool false]) wx := fun _ => by kernel_rfl
  have t3 : ∀ wx : World, (Instr.typeAssert (.iface 117 (.agg #[.int .i64 a, .int .i64 b2])) 90 110 true).run Tryd.prog wx = .ok (.tuple #[.agg #[.int .i64 0], .bool false]) wx := fun _ => by kernel_rfl
  have t4 : ∀ wx : World, (Instr.typeAssert (.iface 117 (.agg #[.int .i64 a, .int .i64 b2])) 90 112 true).run Tryd.prog wx = .ok (.tuple #[.agg #[.int .i64 0, .int .i64 0], .bool false]) wx := fun _ => by kernel_rfl
  have t5 : ∀ wx : World, (Instr.typeAssert (.iface 117 (.agg #[.int .i64 a, .int .i64 b2])) 90 114 true).run Tryd.prog wx = .ok (.tuple #[.agg #[.int .i64 0, .int .i64 0], .bool false]) wx := fun _ => by kernel_rfl
  have t6 : ∀ wx : World, (Instr.typeAssert (.iface 117 (.agg #[.int .i64 a, .int .i64 b2])) 90 115 true).run Tryd.prog wx = .ok (.tuple #[.agg #[.int .i64 0], .bool false]) wx := fun _ => by kernel_rfl
  have t7 : ∀ wx : World, (Instr.typeAssert (.iface 117 (.agg #[.int .i64 a, .int .i64 b2])) 90 116 true).run Tryd.prog wx = .ok (.tuple #[.agg #[.int .i64 0, .int .i64 0], .bool false]) wx := fun _ => by kernel_rfl
  have t8 : ∀ wx : World, (Instr.typeAssert (.iface 117 (.agg #[.int .i64 a, .int .i64 b2])) 90 117 true).run Tryd.prog wx = .ok (.tuple #[.agg #[.int .i64 a, .int .i64 b2], .bool true]) wx := fun _ => by kernel_rfl
  have hb0 : Below w.heap.size w ((w.alloc (Obj.cells #[.int .i64 a, .int .i64 b2] 117)).alloc (Obj.cells #[.int .i64 a, .int .i64 b2] 117)) := bel_alloc (bel_one _ _) _
  go_enter Tryd.func41, Tryd.ntmps41
  have hbd : Below w.heap.size w ((w.alloc (Obj.cells #[.int .i64 a, .int .i64 b2] 117)).alloc (Obj.cells #[.int .i64 a, .int .i64 b2] 117)).drew := Below.drew hb0
  have hbx : ((w.alloc (Obj.cells #[.int .i64 a, .int .i64 b2] 117)).alloc (Obj.cells #[.int .i64 a, .int .i64 b2] 117)).drew.heap[w.heap.size + 1]? = some (Obj.cells #[.int .i64 a, .int .i64 b2] 117 (0, 0)) := box_at w _ _
  go_wp2_with (first | go_in)
  go_region_held3 (fun w' : World => w'.cell? ⟨w.heap.size + 1, 0, none⟩ = some (.int .i64 a) ∧ w'.cell? ⟨w.heap.size + 1, 1, none⟩ = some (.int .i64 b2)) (first | assumption | go_keep) (first | (go_at_call 53; refine (reg_any a (by omega) _).mono ?_; rintro e w1 ⟨he, rfl⟩; rw [HRA.out] at he; subst he) | (go_at_call 53; refine (reg_any b2 (by omega) _).mono ?_; rintro e w1 ⟨he, rfl⟩; rw [HRB.out] at he; subst he) | (go_at_call 22; refine (line_lit B b bs t _ _ _ [NM, RA, RB] ((w.alloc (Obj.cells #[.int .i64 a, .int .i64 b2] 117)).alloc (Obj.cells #[.int .i64 a, .int .i64 b2] 117)).drew (h.below hbd) (Nat.le_trans hBw hbd.size) (by omega) (by omega) (by simp) rfl rfl (by simp) J HJ.out (by omega)).mono ?_; rintro e w9 ⟨rfl, h9, hk9⟩; have hS9 := box_held2 ((hk9.2 _ _ _ _ hbx (by decide) (by decide) (by decide)).trans hbx)))
  all_goals (go_wp2_with fail; go_end0; exact ⟨rfl, h9, (keptN_below hbd hBw).trans hk9⟩)

set_option maxRecDepth 100000 in
set_option maxHeartbeats 2000000 in
theorem node_9 (B b : Nat) (bs : List UInt8) (t : Nat) (s : Stp) (ao : Option Addr) (vl vc : Nat) (w : World) (ho : s.op = 9) (hra : 0 ≤ s.a ∧ s.a < 4) (hf : Fit s) (h : Wrote B b bs w) (hBw : B ≤ w.heap.size) (ht : t ≤ 399) (hbs : bs.length ≤ 40000000) (htab : Tabs B w) :
    Calls Tryd.prog 41 #[.pointer (some ⟨b, 0, none⟩), .int .i64 t, nodeV s (.slice ao vl vc)] w fun e w' => e = .returned (.tuple #[]) ∧ Wrote B b (bs ++ (tabsL t ++ (lineL s ++ [10]))) w' ∧ KeptN B w w' := by
  obtain ⟨o, a', b2, n, z⟩ := s
  simp only at ho hra
  subst ho
  obtain ⟨a, rfl⟩ : ∃ a : Nat, a' = a := ⟨a'.toNat, by omega⟩
  obtain ⟨J, hJ⟩ : ∃ J, lineL ⟨9, a, b2, n, z⟩ = J := ⟨_, rfl⟩
  have hJl : J.length ≤ 80 := by rw [← hJ]; exact line_len _ hf
  rw [hJ]
  rw [show nodeV ⟨9, a, b2, n, z⟩ (.slice ao vl vc) = .iface 118 (.agg #[.int .i64 a]) from rfl]
  obtain ⟨NM, hNM⟩ : ∃ NM, str (nameL 9) = NM := ⟨_, rfl⟩
  have hn : w.cell? ⟨1, 9, none⟩ = some (.string NM) := by rw [← hNM]; exact htab.2.1 9 (by decide) (by decide)
  obtain ⟨RA, hRA⟩ : ∃ RA, str (regL (a : Int)) = RA := ⟨_, rfl⟩
  have HJ : Hid (Lib.join (([NM, RA] : List ByteArray).map (·.data.toList)) [32] = J) := by show _ = _; rw [← hNM, ← hRA, ← hJ]; rfl
  have HRA := hid hRA
  clear hNM hJ hf hRA
  have h1 : 1 < w.heap.size := htab.1.1
  have hmt : ∀ wx : World, (method 265 118 (.agg #[.int .i64 a]) "loop.example/thread/impl.op").run Tryd.prog wx = .ok (99, .agg #[.int .i64 a]) wx := fun _ => by kernel_rfl
  have t1 : ∀ wx : World, (Instr.typeAssert (.iface 118 (.agg #[.int .i64 a])) 90 106 true).run Tryd.prog wx = .ok (.tuple #[.agg #[.int .i64 0, .int .i64 0], .bool false]) wx := fun _ => by kernel_rfl
  have t2 : ∀ wx : World, (Instr.typeAssert (.iface 118 (.agg #[.int .i64 a])) 90 108 true).run Tryd.prog wx = .ok (.tuple #[.agg #[.int .i64 0, .int .i64 0, .int .i64 0], .bool false]) wx := fun _ => by kernel_rfl
  have t3 : ∀ wx : World, (Instr.typeAssert (.iface 118 (.agg #[.int .i64 a])) 90 110 true).run Tryd.prog wx = .ok (.tuple #[.agg #[.int .i64 0], .bool false]) wx := fun _ => by kernel_rfl
  have t4 : ∀ wx : World, (Instr.typeAssert (.iface 118 (.agg #[.int .i64 a])) 90 112 true).run Tryd.prog wx = .ok (.tuple #[.agg #[.int .i64 0, .int .i64 0], .bool false]) wx := fun _ => by kernel_rfl
  have t5 : ∀ wx : World, (Instr.typeAssert (.iface 118 (.agg #[.int .i64 a])) 90 114 true).run Tryd.prog wx = .ok (.tuple #[.agg #[.int .i64 0, .int .i64 0], .bool false]) wx := fun _ => by kernel_rfl
  have t6 : ∀ wx : World, (Instr.typeAssert (.iface 118 (.agg #[.int .i64 a])) 90 115 true).run Tryd.prog wx = .ok (.tuple #[.agg #[.int .i64 0], .bool false]) wx := fun _ => by kernel_rfl
  have t7 : ∀ wx : World, (Instr.typeAssert (.iface 118 (.agg #[.int .i64 a])) 90 116 true).run Tryd.prog wx = .ok (.tuple #[.agg #[.int .i64 0, .int .i64 0], .bool false]) wx := fun _ => by kernel_rfl
  have t8 : ∀ wx : World, (Instr.typeAssert (.iface 118 (.agg #[.int .i64 a])) 90 117 true).run Tryd.prog wx = .ok (.tuple #[.agg #[.int .i64 0, .int .i64 0], .bool false]) wx := fun _ => by kernel_rfl
  have t9 : ∀ wx : World, (Instr.typeAssert (.iface 118 (.agg #[.int .i64 a])) 90 118 true).run Tryd.prog wx = .ok (.tuple #[.agg #[.int .i64 a], .bool true]) wx := fun _ => by kernel_rfl
  have hb0 : Below w.heap.size w ((w.alloc (Obj.cells #[.int .i64 a] 118)).alloc (Obj.cells #[.int .i64 a] 118)) := bel_alloc (bel_one _ _) _
  go_enter Tryd.func41, Tryd.ntmps41
  go_wp2_with (first | (go_at_call 53; refine (reg_any a (by omega) _).mono ?_; rintro e w1 ⟨he, rfl⟩; rw [HRA.out] at he; subst he) | (go_at_call 22; refine (line_lit B b bs t _ _ _ [NM, RA] ((w.alloc (Obj.cells #[.int .i64 a] 118)).alloc (Obj.cells #[.int .i64 a] 118)) (h.below hb0) (by simp; omega) (by omega) (by omega) (by simp) rfl rfl (by simp) J HJ.out (by omega)).mono ?_; rintro e w9 ⟨rfl, h9, hk9⟩) | go_in)
  go_end0
  exact ⟨rfl, h9, (keptN_below hb0 hBw).trans hk9⟩

set_option maxRecDepth 100000 in
set_option maxHeartbeats 2000000 in
theorem node_10 (B b : Nat) (bs : List UInt8) (t : Nat) (s : Stp) (ao : Option Addr) (vl vc : Nat) (w : World) (ho : s.op = 10) (hra : 0 ≤ s.a ∧ s.a < 4) (hf : Fit s) (h : Wrote B b bs w) (hBw : B ≤ w.heap.size) (ht : t ≤ 399) (hbs : bs.length ≤ 40000000) (htab : Tabs B w) :
    Calls Tryd.prog 41 #[.pointer (some ⟨b, 0, none⟩), .int .i64 t, nodeV s (.slice ao vl vc)] w fun e w' => e = .returned (.tuple #[]) ∧ Wrote B b (bs ++ (tabsL t ++ (lineL s ++ [10]))) w' ∧ KeptN B w w' := by
  obtain ⟨o, a', b2, n, z⟩ := s
  simp only at ho hra
  subst ho
  obtain ⟨a, rfl⟩ : ∃ a : Nat, a' = a := ⟨a'.toNat, by omega⟩
  obtain ⟨J, hJ⟩ : ∃ J, lineL ⟨10, a, b2, n, z⟩ = J := ⟨_, rfl⟩
  have hJl : J.length ≤ 80 := by rw [← hJ]; exact line_len _ hf
  rw [hJ]
  rw [show nodeV ⟨10, a, b2, n, z⟩ (.slice ao vl vc) = .iface 119 (.agg #[.int .i64 a]) from rfl]
  obtain ⟨NM, hNM⟩ : ∃ NM, str (nameL 10) = NM := ⟨_, rfl⟩
  have hn : w.cell? ⟨1, 10, none⟩ = some (.string NM) := by rw [← hNM]; exact htab.2.1 10 (by decide) (by decide)
  obtain ⟨RA, hRA⟩ : ∃ RA, str (regL (a : Int)) = RA := ⟨_, rfl⟩
  have HJ : Hid (Lib.join (([NM, RA] : List ByteArray).map (·.data.toList)) [32] = J) := by show _ = _; rw [← hNM, ← hRA, ← hJ]; rfl
  have HRA := hid hRA
  clear hNM hJ hf hRA
  have h1 : 1 < w.heap.size := htab.1.1
  have hmt : ∀ wx : World, (method 265 119 (.agg #[.int .i64 a]) "loop.example/thread/impl.op").run Tryd.prog wx = .ok (100, .agg #[.int .i64 a]) wx := fun _ => by kernel_rfl
  have t1 : ∀ wx : World, (Instr.typeAssert (.iface 119 (.agg #[.int .i64 a])) 90 106 true).run Tryd.prog wx = .ok (.tuple #[.agg #[.int .i64 0, .int .i64 0], .bool false]) wx := fun _ => by kernel_rfl
  have t2 : ∀ wx : World, (Instr.typeAssert (.iface 119 (.agg #[.int .i64 a])) 90 108 true).run Tryd.prog wx = .ok (.tuple #[.agg #[.int .i64 0, .int .i64 0, .int .i64 0], .bool false]) wx := fun _ => by kernel_rfl
  have t3 : ∀ wx : World, (Instr.typeAssert (.iface 119 (.agg #[.int .i64 a])) 90 110 true).run Tryd.prog wx = .ok (.tuple #[.agg #[.int .i64 0], .bool false]) wx := fun _ => by kernel_rfl
  have t4 : ∀ wx : World, (Instr.typeAssert (.iface 119 (.agg #[.int .i64 a])) 90 112 true).run Tryd.prog wx = .ok (.tuple #[.agg #[.int .i64 0, .int .i64 0], .bool false]) wx := fun _ => by kernel_rfl
  have t5 : ∀ wx : World, (Instr.typeAssert (.iface 119 (.agg #[.int .i64 a])) 90 114 true).run Tryd.prog wx = .ok (.tuple #[.agg #[.int .i64 0, .int .i64 0], .bool false]) wx := fun _ => by kernel_rfl
  have t6 : ∀ wx : World, (Instr.typeAssert (.iface 119 (.agg #[.int .i64 a])) 90 115 true).run Tryd.prog wx = .ok (.tuple #[.agg #[.int .i64 0], .bool false]) wx := fun _ => by kernel_rfl
  have t7 : ∀ wx : World, (Instr.typeAssert (.iface 119 (.agg #[.int .i64 a])) 90 116 true).run Tryd.prog wx = .ok (.tuple #[.agg #[.int .i64 0, .int .i64 0], .bool false]) wx := fun _ => by kernel_rfl
  have t8 : ∀ wx : World, (Instr.typeAssert (.iface 119 (.agg #[.int .i64 a])) 90 117 true).run Tryd.prog wx = .ok (.tuple #[.agg #[.int .i64 0, .int .i64 0], .bool false]) wx := fun _ => by kernel_rfl
  have t9 : ∀ wx : World, (Instr.typeAssert (.iface 119 (.agg #[.int .i64 a])) 90 118 true).run Tryd.prog wx = .ok (.tuple #[.agg #[.int .i64 0], .bool false]) wx := fun _ => by kernel_rfl
  have t10 : ∀ wx : World, (Instr.typeAssert (.iface 119 (.agg #[.int .i64 a])) 90 119 true).run Tryd.prog wx = .ok (.tuple #[.agg #[.int .i64 a], .bool true]) wx := fun _ => by kernel_rfl
  have hb0 : Below w.heap.size w ((w.alloc (Obj.cells #[.int .i64 a] 119)).alloc (Obj.cells #[.int .i64 a] 119)) := bel_alloc (bel_one _ _) _
  go_enter Tryd.func41, Tryd.ntmps41
  go_wp2_with (first | (go_at_call 53; refine (reg_any a (by omega) _).mono ?_; rintro e w1 ⟨he, rfl⟩; rw [HRA.out] at he; subst he) | (go_at_call 22; refine (line_lit B b bs t _ _ _ [NM, RA] ((w.alloc (Obj.cells #[.int .i64 a] 119)).alloc (Obj.cells #[.int .i64 a] 119)) (h.below hb0) (by simp; omega) (by omega) (by omega) (by simp) rfl rfl (by simp) J HJ.out (by omega)).mono ?_; rintro e w9 ⟨rfl, h9, hk9⟩) | go_in)
  go_end0
  exact ⟨rfl, h9, (keptN_below hb0 hBw).trans hk9⟩

end Go.Proofs.YtkoccaheckkbdaaDoor
