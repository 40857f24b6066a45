/- The walk of the program's WritePlan. -/
import Derived.Test.YtkoccaheckkbdaaDoorBlockW
import Derived.Test.YtkoccaheckkbdaaDoorImplOk
namespace Go.Proofs.YtkoccaheckkbdaaDoor
open Go.RowKit

theorem wrote_new (B : Nat) (w : World) (hB : B ≤ w.heap.size) : Wrote B w.heap.size [] (w.alloc (Obj.cells #[.pointer none, .slice none 0 0] 60)) :=
  .inl ⟨hB, .slice none 0 0, heap_alloc_new w _, World.ownsRow_nil _ _ _ _, by simp [Value.ownBlock]⟩

set_option maxRecDepth 100000 in
set_option maxHeartbeats 2000000 in
theorem implWrite_any (ao : Option Addr) (m cap : Nat) (A : Nat → Option Addr) (L : Nat → Nat) (S : Nat → Nat → Stp) (w : World) (hp : PlanAt w ao m A L L S) (hm : m ≤ 1048576) (hL : ∀ i, i < m → L i ≤ 1048576)
    (hfit : ∀ i, i < m → ∀ j, j < L i → Fit (S i j)) (htab : Tab w) (hT : Tabs w.heap.size w) :
    Calls Tryd.prog 12 #[.agg #[.slice ao m cap]] w fun e w' => e = .returned (.string (str (planText m L S))) ∧ Below w.heap.size w w' := by
  obtain ⟨pc, pb, ps, hP⟩ : ∃ pc pb ps, planOk m L S = (pc, pb, ps) := ⟨_, _, _, rfl⟩
  have HP := hid hP
  obtain ⟨D, hD⟩ : ∃ D, planText m L S = D := ⟨_, rfl⟩
  rw [hD]
  have HD := hid hD
  clear hP hD
  have hfd : ∀ (wx : World) (x y z : Int), (Instr.field 27 (.agg #[.int .i64 x, .int .i64 y, .int .i64 z]) 0).run Tryd.prog wx = .ok (.int .i64 x) wx := fun _ _ _ _ => by kernel_rfl
  by_cases hpc : pc = 0
  · subst hpc
    obtain ⟨hm30, hL300, hsh, hins⟩ := planOk_zero (m := m) (L := L) (S := S) (by rw [HP.out])
    have HB : Hid (bodiesL L S m 0 = D) := by
      show _ = _
      rw [← HD.out]; unfold planText; rw [if_neg (by rw [HP.out]; simp)]
    have HBL : Hid (∀ k, k < m → (bodyL L S k).length ≤ 300100) := fun k hk => body_len (by omega) (hL300 k hk) (hfit k hk)
    have hDl : D.length ≤ 9003000 := by
      rw [← HB.out]
      exact Nat.le_trans (bodies_len (L := L) (S := S) m 0 (fun k _ hk2 => HBL.out k (by omega))) (Nat.mul_le_mul_right 300100 hm30.2)
    have hD1 : 1 ≤ D.length := by
      rw [← HB.out, ← Nat.sub_zero m, bodies_on (by omega)]
      simp only [bodyL, List.length_append, List.length_cons]
      omega
    have HL3 := hid hL300
    have HSH := hid hsh
    have HIN := hid hins
    have HF := hid hfit
    clear hL300 hsh hins hfit
    go_enter Tryd.func12, Tryd.ntmps12
    go_wp2_with (go_at_call 8; refine (implOk_any _ _ _ A L L S _ (hp.below (bel_one _ _)) hm hL (htab.below (bel_one _ _))).mono ?_; rintro e w1 ⟨he, hb1⟩; rw [HP.out] at he; subst he; have k1 : w1.cell? ⟨w.heap.size, 0, none⟩ = some (.slice ao m cap) := (hb1.cell (by simp)).trans (by simp); have hz1' : w.heap.size < w1.heap.size := (by have := hb1.size; simp at this; omega))
    go_loopg [15] m (fun r c wr => ∃ (k : Nat) (O : List UInt8), k ≤ m ∧ Hid (r + k = m) ∧ c = .int .i64 k ∧ Wrote w.heap.size w1.heap.size O wr ∧ Hid (O ++ bodiesL L S (m - k) k = D) ∧ Below w.heap.size w wr)
    case atStart => exact ⟨0, [], by omega, by show _ = _; omega, rfl, wrote_new _ _ (by omega), HB, bel_alloc (bel_trans (bel_one _ _) hb1) _⟩
    case round =>
      obtain ⟨k, O, hk, HK, rfl, hwr, HO, hb⟩ := hrel
      by_cases hlt : k < m
      · obtain ⟨b, off, rfl, hbl, c0⟩ := (hp.below hb).1 k hlt
        have hLk := HL3.out k hlt
        obtain ⟨I, hI⟩ : ∃ I, str (Lib.itoa (k : Int)) = I := ⟨_, rfl⟩
        have HI : Hid (str (Lib.itoa (k : Int)) = ⟨(Lib.decDigits k).toArray⟩) := by show _ = _; rw [Lib.itoa_nonneg]; rfl
        have HI2 := hid hI
        obtain ⟨J, hJ⟩ : ∃ J, [98, 111, 100, 121, 32] ++ Lib.itoa (k : Int) = J := ⟨_, rfl⟩
        have HJ : Hid (Lib.join (([⟨#[98, 111, 100, 121]⟩, I] : List ByteArray).map (·.data.toList)) [32] = J) := by
          show _ = _
          rw [← hI, ← hJ]
          simp [Lib.join, List.intercalate, List.intersperse, str]
        have hJl : J.length ≤ 100 := by
          have := itoa_len (k : Int) (by omega) (by omega)
          rw [← hJ, List.length_append]; simp; omega
        have hbod : bodyL L S k = (tabsL 0 ++ (J ++ [10])) ++ txt (S k) 0 (L k) 1 := by
          unfold bodyL
          rw [← hJ]
          simp [tabsL]
        have hOD : O.length + ((tabsL 0 ++ (J ++ [10])).length + (txt (S k) 0 (L k) 1).length) ≤ 9003000 := by
          have h1 := HO.out
          rw [bodies_on hlt, hbod] at h1
          rw [← h1] at hDl
          simp only [List.length_append] at hDl ⊢
          omega
        have HO2 : Hid (((O ++ (tabsL 0 ++ (J ++ [10]))) ++ txt (S k) 0 (0 + L k) 1) ++ bodiesL L S (m - (k + 1)) (k + 1) = D) := by
          show _ = _
          rw [← HO.out, bodies_on hlt, hbod, Nat.zero_add]
          simp
        have HBD := hid hbod
        have HOD := hid hOD
        have hOl : O.length ≤ 9003000 := by omega
        clear hI hJ hbod hOD
        have hbb : Below w.heap.size w (wr.alloc (Obj.cells #[.slice (A k) (L k) (L k)] 40)) := bel_alloc hb _
        have hBwr := hb.size
        go_wp2_with (go_at_call 23; refine (Tryd.strconv_Itoa_small k (by omega) _).mono ?_; rintro e w' ⟨he, rfl⟩; rw [← HI.out, HI2.out] at he; subst he)
        have hwa := hwr.below (bel_one wr (Obj.cells #[.slice (A k) (L k) (L k)] 40))
        have HLN := hid (line_lit w.heap.size w1.heap.size O 0 2 (wr.heap.size + 1) #[.string ⟨#[98, 111, 100, 121]⟩, .string I] [⟨#[98, 111, 100, 121]⟩, I] _ hwa (by simp; omega) (by omega) (by omega) (by simp) rfl rfl (by simp) J HJ.out (by omega))
        go_wp2_with (go_at_call 22; refine HLN.out.mono ?_; rintro e w3 ⟨rfl, h3, hk3⟩; have c3 : w3.cell? ⟨wr.heap.size, 0, none⟩ = some (.slice (A k) (L k) (L k)) := ((hk3.cell (heap_alloc_new wr _) (by decide) (by decide) (by decide) 0).trans (by simp)); have hb3 : Below w.heap.size w w3 := hbb.trans hk3.1)
        have hz3 : wr.heap.size < w3.heap.size := by have := hk3.1.size; simp at this; omega
        clear HLN
        go_wp2_with (go_at_call 25; refine (nodesOf_any (S k) (L k + 1) 0 (L k) 0 false (A k) (L k) w3 (by omega) (Nat.le_refl _) (by omega) hLk (by simpa using (hp.below hb3).2 k hlt) (fun j hj => by rw [Nat.zero_add]; exact shp_good (HSH.out k hlt j hj)) (by rw [Nat.zero_add]; exact HIN.out k hlt)).mono ?_; rintro e w4 ⟨ao4, l4, c4, rfl, hn4, hb4⟩)
        have hb34 : Below w.heap.size w w4 := hb3.trans (hb4.mono hb3.size)
        have HBK := hid (block_any (S k) (fun g => w3.heap.size ≤ g) w.heap.size w1.heap.size m hm30.2 (L k + 1) ao4 l4 c4 0 (0 + L k) 1 0 false _ w4 hn4 (by omega) (by omega) (by rw [Nat.zero_add]; exact HIN.out k hlt) (fun j hj => HSH.out k hlt j (by omega)) (fun j hj => HF.out k hlt j (by omega)) (h3.below hb4) hb34.size (hT.below hb34) (by have := HOD.out; rw [Nat.zero_add]; simp only [List.length_append] at this ⊢; omega))
        go_wp2_with (go_at_call 24; refine HBK.out.mono ?_; rintro e w5 ⟨rfl, h5, hk5⟩)
        go_roundg (m - (k + 1))
        case measure => have := HK.out; omega
        case rel => exact ⟨k + 1, _, by omega, by show _ = _; omega, by go_num, h5, HO2, hb34.trans hk5.1⟩
      · have hO : O = D := by have := HO.out; rw [show m - k = 0 by omega] at this; simpa [bodiesL] using this
        subst hO
        have HS := hid (string_any w.heap.size w1.heap.size O wr hwr (by intro e; subst e; simp at hD1))
        go_wp2_with (go_at_call 26; refine HS.out.mono ?_; rintro e w9 ⟨rfl, hb9⟩)
        go_ret
        exact ⟨rfl, hb.trans hb9⟩
  · go_enter Tryd.func12, Tryd.ntmps12
    go_wp2_with (go_at_call 8; refine (implOk_any _ _ _ A L L S _ (hp.below (bel_one _ _)) hm hL (htab.below (bel_one _ _))).mono ?_; rintro e w1 ⟨he, hb1⟩; rw [HP.out] at he; subst he)
    go_ret
    refine ⟨?_, bel_trans (bel_one _ _) hb1⟩
    have hD : D = [] := by rw [← HD.out]; unfold planText; rw [if_pos (by rw [HP.out]; exact hpc)]
    subst hD
    rfl

end Go.Proofs.YtkoccaheckkbdaaDoor
