/- The walk of the specification's WritePlan. -/
import Derived.Test.YtkoccaheckkbdaaDoorPlanText
import Derived.Test.YtkoccaheckkbdaaDoorSpecOk
import Derived.Lib.AppendStr
import Derived.Lib.UnsafeStr
import Derived.Deep.LoopGhost
import Derived.Deep.RegionWith
import Derived.Deep.RegionHeld3
import Derived.Deep.DeepCutAuto
namespace Go.Proofs.YtkoccaheckkbdaaDoor
open Go.RowKit

theorem own_bel {w w' : World} {B e size n : Nat} {v : Value} {xs : List Value} (h : w.ownsRow B e size v n xs) (hb : Below w.heap.size w w') : w'.ownsRow B e size v n xs := by
  obtain ⟨h1, h2⟩ := h
  refine ⟨h1, ?_⟩
  rcases h2 with h2 | ⟨g, cap, cur, hv, hg, hh, r⟩
  · exact Or.inl h2
  · exact Or.inr ⟨g, cap, cur, hv, hg, (hb.block g (Array.getElem?_eq_some_iff.1 hh).1).trans hh, r⟩
theorem str_cells (l : List UInt8) : Lib.strCells (str l) = Lib.byteCells l := by simp [Lib.strCells, Lib.byteCells, str]
theorem row_str {P : Program} {w : World} {base : Nat} (src dst e : TypeId) (hs : P.underlying src = some (.slice e)) (he : P.underlying e = some (.int .u8)) (hd : P.underlying dst = some .string) {g cap : Nat} {l : List UInt8}
    (hown : w.ownsRow base e 1 (.slice (some ⟨g, 0, none⟩) l.length cap) l.length (Lib.byteCells l)) :
    (convert src dst (.slice (some ⟨g, 0, none⟩) l.length cap)).run P w = .ok (.string (str l)) w := by
  have h := run_convert_bytes_arg (P := P) w src e hs he g 0 l.length cap (l.map fun c => (c.toNat : Int)) (by simp) (by
    intro i hi
    rw [Nat.zero_add, hown.cellAt i (by omega)]
    simp [Lib.byteCells, hi]) dst hd
  rw [h]
  have h2 : (l.map fun c => (c.toNat : Int)).map (fun n => UInt8.ofNat n.toNat) = l := by
    rw [List.map_map]
    conv => rhs; rw [← List.map_id l]
    exact List.map_congr_left (fun c _ => by simp)
  have h3 : strOfNums (l.map fun c => (c.toNat : Int)) = str l := by unfold strOfNums str; rw [h2]
  rw [h3]

set_option maxRecDepth 100000 in
set_option maxHeartbeats 2000000 in
theorem specWrite_any (ao : Option Addr) (m cap : Nat) (A : Nat → Option Addr) (L C : Nat → Nat) (S : Nat → Nat → Stp) (w : World) (hp : PlanAt w ao m A L C S) (hm : m ≤ 1048576) (hL : ∀ i, i < m → L i ≤ 1048576)
    (hfit : ∀ i, i < m → ∀ j, j < L i → Fit (S i j)) :
    Calls Tryd.prog 11 #[.agg #[.slice ao m cap]] w fun e w' => e = .returned (.string (str (planText m L S))) ∧ Below w.heap.size w w' := by
  obtain ⟨i0, hi, hz0, hz1, hz2⟩ := info_parts info_byte
  obtain ⟨pc, pb, ps, hP⟩ : ∃ pc pb ps, planOk m L S = (pc, pb, ps) := ⟨_, _, _, rfl⟩
  have HP := hid hP
  obtain ⟨D, hD⟩ : ∃ D, planText m L S = D := ⟨_, rfl⟩
  rw [hD]
  have HD := hid hD
  clear hP hD
  by_cases hpc : pc = 0
  · subst hpc
    obtain ⟨hm30, hL300, hsh, hins⟩ := planOk_zero (m := m) (L := L) (S := S) (by rw [HP.out])
    have HB : Hid (bodiesL L S m 0 = D) := by
      show _ = _
      rw [← HD.out]; unfold planText; rw [if_neg (by rw [HP.out]; simp)]
    have HBL : Hid (∀ k, k < m → (bodyL L S k).length ≤ 300100) := fun k hk => body_len (by omega) (hL300 k hk) (hfit k hk)
    have hDl : D.length ≤ 9003000 := by
      rw [← HB.out]
      exact Nat.le_trans (bodies_len (L := L) (S := S) m 0 (fun k _ hk2 => HBL.out k (by omega))) (Nat.mul_le_mul_right 300100 hm30.2)
    have hD1 : 1 ≤ D.length := by
      rw [← HB.out, ← Nat.sub_zero m, bodies_on (by omega)]
      simp only [bodyL, List.length_append, List.length_cons]
      omega
    have HL3 := hid hL300
    have HSH := hid hsh
    have HIN := hid hins
    have HF := hid hfit
    clear hL300 hsh hins hfit
    go_enter Tryd.func11, Tryd.ntmps11
    go_wp2_with (go_at_call 6; refine (specOk_any _ _ _ A L C S _ (hp.below (bel_one _ _)) hm hL).mono ?_; rintro e w1 ⟨he, hb1⟩; rw [HP.out] at he; subst he; have k1 : w1.cell? ⟨w.heap.size, 0, none⟩ = some (.slice ao m cap) := (hb1.cell (by simp)).trans (by simp); have hz1' : w.heap.size < w1.heap.size := (by have := hb1.size; simp at this; omega))
    go_loopg [4, 16] m (fun r v c wr => ∃ (k : Nat) (O : List UInt8), k ≤ m ∧ Hid (r + k = m) ∧ c = .int .i64 k ∧ wr.ownsRow w.heap.size 5 1 v O.length (Lib.byteCells O) ∧ Hid (O ++ bodiesL L S (m - k) k = D) ∧ Below w.heap.size w wr)
    case atStart => exact ⟨0, [], by omega, by show _ = _; omega, rfl, World.ownsRow_nil _ _ _ _, HB, bel_alloc (bel_trans (bel_one _ _) hb1) _⟩
    case round =>
      obtain ⟨k, O, hk, HK, rfl, hown, HO, hb⟩ := hrel
      by_cases hlt : k < m
      · obtain ⟨b, off, rfl, hbl, c0⟩ := (hp.below hb).1 k hlt
        have hsk := (hp.below hb).2 k hlt
        have hLk := HL3.out k hlt
        have hbl2 := HBL.out k hlt
        have hOl : O.length ≤ 9003000 := by have := congrArg List.length HO.out; simp at this; omega
        obtain ⟨Y, hY⟩ : ∃ Y, str (txt (S k) 0 (L k) 1) = Y := ⟨_, rfl⟩
        have hYs : Y.size ≤ 300100 := by
          rw [← hY, str_size]
          have := txt_len (HF.out k hlt) 0 (L k) 1 (Nat.le_refl _) (by omega)
          omega
        have hIs := itoa_size (k : Int) (by omega) (by omega)
        obtain ⟨I, hI⟩ : ∃ I, str (Lib.itoa (k : Int)) = I := ⟨_, rfl⟩
        rw [hI] at hIs
        have HY := hid hY
        have HI := hid hI
        have HT : Hid (⟨#[98, 111, 100, 121, 32]⟩ ++ I ++ ⟨#[10]⟩ ++ Y = str (bodyL L S k)) := by
          show _ = _
          rw [← hI, ← hY]
          apply ByteArray.ext
          simp [str, bodyL]
        clear hY hI
        have s5 : (⟨#[98, 111, 100, 121, 32]⟩ : ByteArray).size = 5 := rfl
        have s1 : (⟨#[10]⟩ : ByteArray).size = 1 := rfl
        have ad1 : ∀ wx : World, (Op.stringOp .add ⟨#[98, 111, 100, 121, 32]⟩ I).run Tryd.prog wx = .ok (.string (⟨#[98, 111, 100, 121, 32]⟩ ++ I)) wx := fun wx => run_string_add_sum wx _ _ (by rw [s5]; omega)
        have ad2 : ∀ wx : World, (Op.stringOp .add (⟨#[98, 111, 100, 121, 32]⟩ ++ I) ⟨#[10]⟩).run Tryd.prog wx = .ok (.string (⟨#[98, 111, 100, 121, 32]⟩ ++ I ++ ⟨#[10]⟩)) wx := fun wx => run_string_add_sum wx _ _ (by rw [ByteArray.size_append, s5, s1]; omega)
        have ad3 : ∀ wx : World, (Op.stringOp .add (⟨#[98, 111, 100, 121, 32]⟩ ++ I ++ ⟨#[10]⟩) Y).run Tryd.prog wx = .ok (.string (⟨#[98, 111, 100, 121, 32]⟩ ++ I ++ ⟨#[10]⟩ ++ Y)) wx := fun wx => run_string_add_sum wx _ _ (by rw [ByteArray.size_append, ByteArray.size_append, s5, s1]; omega)
        clear s5 s1
        go_upto_region 8 with fail
        go_cut [7] (fun x wx => x = .string (⟨#[98, 111, 100, 121, 32]⟩ ++ I ++ ⟨#[10]⟩ ++ Y) ∧ Below wr.heap.size wr wx)
        case first =>
          go_region_held3 (fun w' : World => w'.cell? ⟨wr.heap.size, 0, none⟩ = some (.slice (A k) (L k) (C k))) (first | assumption | go_keep) (first | (go_at_call 20; refine (l1decimal_any _ (by omega) (by omega) _).mono ?_; rintro e w2 ⟨he, hb2⟩; rw [HI.out] at he; subst he; have k6 : w2.cell? ⟨wr.heap.size, 0, none⟩ = some (.slice (A k) (L k) (C k)) := (hb2.cell (by simp)).trans (by simp)) | (go_at_call 21; refine (l1write_any _ _ _ (S k) hLk (fun j hj => shp_good (HSH.out k hlt j hj)) (HF.out k hlt) (L k + 1) 0 (L k) 0 false 1 _ _ _ _ (by omega) (by omega) (by omega) (HIN.out k hlt) (by omega) rfl rfl rfl (by exact hsk.below (bel_trans (Below.drew (bel_one _ _)) hb2))).mono ?_; rintro e w3 ⟨he, hb3⟩; rw [HY.out] at he; subst he; have k7 : w3.cell? ⟨wr.heap.size, 0, none⟩ = some (.slice (A k) (L k) (C k)) := (hb3.cell (by have := hb2.size; simp at this; show wr.heap.size < w2.heap.size; omega)).trans k6))
          all_goals (go_wp2_with fail; go_meet; exact ⟨rfl, bel_trans (bel_trans (Below.drew (bel_one _ _)) hb2) hb3⟩)
        case rest =>
          obtain ⟨rfl, hbe⟩ := hcut
          clear ad1 ad2 ad3
          obtain ⟨T, hT⟩ : ∃ T, (⟨#[98, 111, 100, 121, 32]⟩ ++ I ++ ⟨#[10]⟩ ++ Y : ByteArray) = T := ⟨_, rfl⟩
          rw [hT]
          have hT2 : T = str (bodyL L S k) := hT.symm.trans HT.out
          have HT2 := hid hT2
          have hTs : T.size ≤ 300100 := by rw [hT2, str_size]; exact hbl2
          clear hT hT2
          have hownc := own_bel hown hbe
          go_wp2_with (at_builtin; refine Lib.wpList_append_own_string _ rfl _ _ 52 9 rfl w.heap.size 5 i0 Tryd.underlying52 Tryd.underlying9 hi hz0 hz1 hz2 _ _ _ rfl hownc T rfl ?c3 ?c4 ?c5 ?_)
          case c3 => unfold maxLen; omega
          case c4 => omega
          case c5 => have := hb.size; have := hbe.size; omega
          intro v' w4 hown' hgrow _
          go_wp2_with fail
          go_roundg (m - (k + 1))
          case measure => have := HK.out; omega
          case rel =>
            refine ⟨k + 1, O ++ bodyL L S k, by omega, by show _ = _; omega, by go_num, ?_, ?_, ?_⟩
            · have e := HT2.out
              subst e
              rw [str_cells, str_size] at hown'
              rw [List.length_append]
              have e2 : Lib.byteCells (O ++ bodyL L S k) = Lib.byteCells O ++ Lib.byteCells (bodyL L S k) := by simp [Lib.byteCells]
              rw [e2]; exact hown'
            · show _ = _
              rw [← HO.out, bodies_on hlt, List.append_assoc]
            · exact (bel_trans hb hbe).grown hgrow (by have := hb.size; have := hbe.size; omega) (fun x hx => (hown.lt x hx).1)
      · have hO : O = D := by have := HO.out; rw [show m - k = 0 by omega] at this; simpa [bodiesL] using this
        subst hO
        obtain ⟨g, cap2, rfl⟩ : ∃ g cap2, u4 = .slice (some ⟨g, 0, none⟩) O.length cap2 := by
          rcases hown.2 with ⟨_, h⟩ | ⟨g, cap2, cur, hv, _⟩
          · omega
          · exact ⟨g, cap2, hv⟩
        have hcv := row_str (P := Tryd.prog) 52 9 5 Tryd.underlying52 Tryd.underlying5 Tryd.underlying9 hown
        go_wp2_with fail
        go_ret
        exact ⟨rfl, hb⟩
  · go_enter Tryd.func11, Tryd.ntmps11
    go_wp2_with (go_at_call 6; refine (specOk_any _ _ _ A L C S _ (hp.below (bel_one _ _)) hm hL).mono ?_; rintro e w1 ⟨he, hb1⟩; rw [HP.out] at he; subst he)
    go_ret
    refine ⟨?_, bel_alloc (bel_trans (bel_one _ _) hb1) _⟩
    have hD : D = [] := by rw [← HD.out]; unfold planText; rw [if_pos (by rw [HP.out]; exact hpc)]
    subst hD
    rfl

end Go.Proofs.YtkoccaheckkbdaaDoor
