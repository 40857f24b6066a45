/- Steps as text: the walk of the specification's l1write. -/
import Derived.Test.YtkoccaheckkbdaaDoorLineB
import Derived.Test.YtkoccaheckkbdaaDoorBlockF
namespace Go.Proofs.YtkoccaheckkbdaaDoor
open Go.RowKit

theorem tabs_next (t : Nat) : str (tabsL t) ++ ⟨#[9]⟩ = str (tabsL (t + 1)) := by
  show str (tabsL t) ++ str [9] = _
  rw [str_append]; unfold tabsL; rw [List.replicate_succ']
theorem tabs_size (t : Nat) : (str (tabsL t)).size = t := by rw [str_size]; simp [tabsL]

theorem nest_head {S : Nat → Stp} {i te deep : Nat} {dfr : Bool} (h : i < te) (hh : headB (S i).op = true) (hn : (ins S i te deep dfr).1 = 0) :
    (S i).size ≤ (te : Int) - i - 1 ∧ deep ≠ 12 ∧ (ins S (i + 1) (i + 1 + (S i).size.toNat) (deep + 1) (dfr || (S i).op == 13)).1 = 0 ∧ (ins S (i + 1 + (S i).size.toNat) te deep dfr).1 = 0 := by
  by_cases h4 : (te : Int) - i - 1 < (S i).size
  · rw [ins_four h hh h4] at hn; exact absurd hn (by simp)
  · by_cases h5 : deep = 12
    · subst h5; rw [ins_five h hh h4] at hn; exact absurd hn (by simp)
    · by_cases h6 : (ins S (i + 1) (i + 1 + (S i).size.toNat) (deep + 1) (dfr || (S i).op == 13)).1 = 0
      · rw [ins_on h hh h4 h5 h6] at hn; exact ⟨by omega, h5, h6, hn⟩
      · rw [ins_in h hh h4 h5 h6] at hn; exact absurd hn h6
theorem nest_step {S : Nat → Stp} {i te deep : Nat} {dfr : Bool} (h : i < te) (hh : headB (S i).op = false) (hn : (ins S i te deep dfr).1 = 0) : (ins S (i + 1) te deep dfr).1 = 0 := by
  by_cases h10 : (S i).op = 10 ∧ dfr = true
  · obtain ⟨h10, rfl⟩ := h10
    rw [ins_ret h h10] at hn; exact absurd hn (by simp)
  · rwa [ins_step h hh h10] at hn

theorem txt_on {S : Nat → Stp} {k te t : Nat} {O : ByteArray} {D : ByteArray} (h : k < te) (hh : headB (S k).op = false) (hO : O ++ str (txt S k te t) = D) :
    (O ++ (str (tabsL t) ++ str (lineL (S k))) ++ ⟨#[10]⟩) ++ str (txt S (k + 1) te t) = D := by
  rw [← hO, txt_step h hh]
  apply ByteArray.ext
  simp [str]
theorem txt_in {S : Nat → Stp} {k te t : Nat} {O : ByteArray} {D : ByteArray} (h : k < te) (hh : headB (S k).op = true) (hs : (S k).size ≤ (te : Int) - k - 1) (hO : O ++ str (txt S k te t) = D) :
    (O ++ (str (tabsL t) ++ str (lineL (S k))) ++ (⟨#[32, 123, 10]⟩ ++ str (txt S (k + 1) (k + 1 + (S k).size.toNat) (t + 1)) ++ str (tabsL t) ++ ⟨#[125]⟩) ++ ⟨#[10]⟩) ++ str (txt S (k + 1 + (S k).size.toNat) te t) = D := by
  rw [← hO, txt_head h hh hs]
  apply ByteArray.ext
  simp [str]

set_option maxRecDepth 100000 in
set_option maxHeartbeats 2000000 in
theorem l1write_any (ao : Option Addr) (N cap : Nat) (S : Nat → Stp) (hN : N ≤ 300) (hok : ∀ j, j < N → Good (S j)) (hfit : ∀ j, j < N → Fit (S j)) (d : Nat) :
    ∀ (i te deep : Nat) (dfr : Bool) (t : Nat) (x y : Int) (T : ByteArray) (w : World), te - i < d → i ≤ te → te ≤ N → (ins S i te deep dfr).1 = 0 → t + (te - i) ≤ 400 → x = i → y = te → T = str (tabsL t) → StepsAt w ao N S →
    Calls Tryd.prog 21 #[.agg #[.slice ao N cap], .int .i64 x, .int .i64 y, .string T] w fun e w' => e = .returned (.string (str (txt S i te t))) ∧ Below w.heap.size w w' := by
  induction d with
  | zero => intro i te deep dfr t x y T w hd; omega
  | succ d ih0 =>
    intro i te deep dfr t x y T w hd hle hto hn0 ht hx hy hT0 hst
    subst hx hy
    have ih := hid ih0
    have ok := hid hok
    have ft := hid hfit
    have hT := hid hT0
    have hn := hid hn0
    have hlen := txt_len hfit i te t hto ht
    have hTs : T.size ≤ 400 := by rw [hT0, tabs_size]; omega
    clear ih0 hok hfit hT0 hn0
    obtain ⟨D, hD⟩ : ∃ D, txt S i te t = D := ⟨_, rfl⟩
    have HD := hid hD
    rw [hD] at hlen ⊢
    clear hD
    go_enter Tryd.func21, Tryd.ntmps21
    go_wp2_with fail
    go_loopw [9, 10] (fun o c wr => ∃ (k : Nat) (O : ByteArray), i ≤ k ∧ k ≤ te ∧ c = .int .i64 k ∧ o = .string O ∧ Hid (O ++ str (txt S k te t) = str D) ∧ Hid ((ins S k te deep dfr).1 = 0) ∧ Below (w.heap.size + 1) (w.alloc (.cells #[.slice ao N cap] 40)) wr) (fun _ c _ => te - (intOf c).toNat)
    case atStart => exact ⟨i, _, Nat.le_refl _, hle, rfl, rfl, by show _ = _; rw [HD.out]; apply ByteArray.ext; simp [str], hn, Below.refl _ _⟩
    case round =>
      obtain ⟨k, O, hik, hk, rfl, rfl, HO, HI, hb⟩ := hrel
      have hbw : Below w.heap.size w wr := (bel_one _ _).trans (hb.mono (by omega))
      have hc5 : wr.cell? ⟨w.heap.size, 0, none⟩ = some (.slice ao N cap) := (hb.cell (by simp)).trans (by simp)
      have hsz5 : w.heap.size < wr.heap.size := by have := hb.size; simp at this; omega
      have hOs : O.size + (txt S k te t).length = D.length := by
        have := congrArg ByteArray.size HO.out
        rw [ByteArray.size_append, str_size, str_size] at this; exact this
      have hO2 : O.size ≤ 400000 := by omega
      clear hOs
      by_cases hlt : k < te
      · have hst' := hst.below hbw
        obtain ⟨b, off, rfl, hbl, c0, c1, c2, c3, c4⟩ := hst' k (by omega)
        have hg0 := ok.out k (by omega)
        have hg1 : 1 ≤ (S k).op ∧ (S k).op ≤ 15 := ⟨hg0.1, hg0.2.1⟩
        have hs0 := hg0.2.2.1
        clear hg0
        have hf1 : Hid (Fit ⟨(S k).op, (S k).a, (S k).b, (S k).n, (S k).size⟩) := ft.out k (by omega)
        obtain ⟨X, hX⟩ : ∃ X, str (lineL (S k)) = X := ⟨_, rfl⟩
        have hXs : X.size ≤ 80 := by rw [← hX, str_size]; exact line_len _ (ft.out k (by omega))
        have HX := hid hX
        clear hX
        cases hh : headB (S k).op
        · go_wp2_with (first | (go_at_call 35; refine (l1line_any _ _ _ _ _ _ hg1 hf1.out).mono ?_; rintro e w1 ⟨he, hb1⟩; have he2 : e = .returned (.string X) := he.trans (congrArg (fun x => Ending.returned (Value.string x)) HX.out); subst he2; clear he; have q0 : w1.cell? ⟨wr.heap.size, 0, none⟩ = some (.int .i64 (S k).op) := (hb1.cell (by simp)).trans (by simp); have q4 : w1.cell? ⟨wr.heap.size, 4, none⟩ = some (.int .i64 (S k).size) := (hb1.cell (by simp)).trans (by simp); have hbr := bel_trans (bel_one _ _) hb1; have r0 := (hbr.cell (p := ⟨w.heap.size, 0, none⟩) hsz5).trans hc5; have hz1 : wr.heap.size < w1.heap.size := (by have := hb1.size; simp at this; omega)) | (go_at_call 29; refine (l1block_any _ _).mono ?_; rintro e w' ⟨rfl, rfl⟩))
          exact ⟨⟨k + 1, _, by omega, by omega, by go_num, rfl, by show _ = _; rw [← HX.out, hT.out]; exact txt_on hlt hh HO.out, nest_step hlt hh HI.out, hb.trans (hbr.mono (by omega))⟩, by simp [intOf]; omega⟩
        · obtain ⟨h1, h2, h3, h4⟩ := nest_head hlt hh HI.out
          have HN := hid h3
          have HI2 := hid h4
          clear h2 h3 h4
          obtain ⟨R, hR⟩ : ∃ R, str (txt S (k + 1) (k + 1 + (S k).size.toNat) (t + 1)) = R := ⟨_, rfl⟩
          have hRs : R.size ≤ 400000 := by
            rw [← hR, str_size]
            have := txt_len ft.out (k + 1) (k + 1 + (S k).size.toNat) (t + 1) (by omega) (by omega)
            omega
          have HR2 := hid hR
          clear hR
          go_wp2_with (first | (go_at_call 35; refine (l1line_any _ _ _ _ _ _ hg1 hf1.out).mono ?_; rintro e w1 ⟨he, hb1⟩; have he2 : e = .returned (.string X) := he.trans (congrArg (fun x => Ending.returned (Value.string x)) HX.out); subst he2; clear he; have q0 : w1.cell? ⟨wr.heap.size, 0, none⟩ = some (.int .i64 (S k).op) := (hb1.cell (by simp)).trans (by simp); have q4 : w1.cell? ⟨wr.heap.size, 4, none⟩ = some (.int .i64 (S k).size) := (hb1.cell (by simp)).trans (by simp); have hbr := bel_trans (bel_one _ _) hb1; have r0 := (hbr.cell (p := ⟨w.heap.size, 0, none⟩) hsz5).trans hc5; have hz1 : wr.heap.size < w1.heap.size := (by have := hb1.size; simp at this; omega)) | (go_at_call 29; refine (l1block_any _ _).mono ?_; rintro e w' ⟨rfl, rfl⟩) | (go_at_call 21; refine (ih.out (k + 1) (k + 1 + (S k).size.toNat) (deep + 1) (dfr || (S k).op == 13) (t + 1) _ _ _ _ (by omega) (by omega) (by omega) HN.out (by omega) (by omega) (by omega) (by rw [hT.out]; exact tabs_next t) (by exact hst'.below hbr)).mono ?_; rintro e w2 ⟨he, hb2⟩; rw [HR2.out] at he; subst he; have q5 : w2.cell? ⟨wr.heap.size, 4, none⟩ = some (.int .i64 (S k).size) := (hb2.cell hz1).trans q4))
          exact ⟨⟨k + 1 + (S k).size.toNat, _, by omega, by omega, by go_num, rfl, by show _ = _; rw [← HX.out, ← HR2.out, hT.out]; exact txt_in hlt hh h1 HO.out, HI2, hb.trans ((bel_trans hbr hb2).mono (by omega))⟩, by simp [intOf]; omega⟩
      · go_wp2_with fail
        go_ret
        refine ⟨?_, hbw⟩
        have hO := HO.out
        rw [txt_end (by omega)] at hO
        have hO3 : O = str D := by rw [← hO]; apply ByteArray.ext; simp [str]
        subst hO3
        rfl

end Go.Proofs.YtkoccaheckkbdaaDoor
