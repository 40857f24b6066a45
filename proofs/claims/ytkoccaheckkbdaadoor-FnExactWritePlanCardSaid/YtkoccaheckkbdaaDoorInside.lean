/- The faults 4, 5 and 6: the walks of l1block, l1inside (the specification's). -/
import Derived.Test.YtkoccaheckkbdaaDoorShape
namespace Go.Proofs.YtkoccaheckkbdaaDoor
open Go.RowKit

/-- The first fault of the steps from i up to a place, in so many blocks: its code and its step. (The first number bounds the steps still to be looked at.) -/
def insF (S : Nat → Stp) : Nat → Nat → Nat → Nat → Bool → Int × Int
  | 0, _, _, _, _ => (0, 0)
  | f + 1, i, to, deep, dfr =>
    if i < to then
      if headB (S i).op = true then
        if (to : Int) - i - 1 < (S i).size then (4, (i : Int))
        else if deep = 12 then (5, (i : Int))
        else if (insF S f (i + 1) (i + 1 + (S i).size.toNat) (deep + 1) (dfr || (S i).op == 13)).1 ≠ 0 then insF S f (i + 1) (i + 1 + (S i).size.toNat) (deep + 1) (dfr || (S i).op == 13)
        else insF S f (i + 1 + (S i).size.toNat) to deep dfr
      else if (S i).op = 10 ∧ dfr = true then (6, (i : Int)) else insF S f (i + 1) to deep dfr
    else (0, 0)
def ins (S : Nat → Stp) (i to deep : Nat) (dfr : Bool) : Int × Int := insF S (to - i) i to deep dfr

/-- More than enough changes nothing. -/
theorem insF_same {S : Nat → Stp} : ∀ (f g i to deep : Nat) (dfr : Bool), to - i ≤ f → to - i ≤ g → insF S f i to deep dfr = insF S g i to deep dfr
  | 0, 0, _, _, _, _, _, _ => rfl
  | 0, g + 1, i, to, deep, dfr, h, _ => by rw [insF, insF, if_neg (by omega)]
  | f + 1, 0, i, to, deep, dfr, _, h => by rw [insF, insF, if_neg (by omega)]
  | f + 1, g + 1, i, to, deep, dfr, hf, hg => by
    rw [insF, insF]
    by_cases h : i < to
    · rw [if_pos h, if_pos h]
      by_cases hh : headB (S i).op = true
      · rw [if_pos hh, if_pos hh]
        by_cases hs : (to : Int) - i - 1 < (S i).size
        · rw [if_pos hs, if_pos hs]
        · rw [if_neg hs, if_neg hs, insF_same f g (i + 1) (i + 1 + (S i).size.toNat) (deep + 1) (dfr || (S i).op == 13) (by omega) (by omega), insF_same f g (i + 1 + (S i).size.toNat) to deep dfr (by omega) (by omega)]
      · rw [if_neg hh, if_neg hh, insF_same f g (i + 1) to deep dfr (by omega) (by omega)]
    · rw [if_neg h, if_neg h]

theorem ins_of {S : Nat → Stp} {f i to deep : Nat} {dfr : Bool} (h : to - i ≤ f) : insF S f i to deep dfr = ins S i to deep dfr := insF_same _ _ _ _ _ _ h (Nat.le_refl _)
theorem ins_open {S : Nat → Stp} {i to deep : Nat} {dfr : Bool} (h : i < to) : ins S i to deep dfr = insF S ((to - i - 1) + 1) i to deep dfr := by
  rw [ins_of (by omega)]

theorem ins_end {S : Nat → Stp} {i to deep : Nat} {dfr : Bool} (h : ¬ i < to) : ins S i to deep dfr = (0, 0) := by
  rw [← ins_of (f := (to - i) + 1) (by omega), insF, if_neg h]
theorem ins_step {S : Nat → Stp} {i to deep : Nat} {dfr : Bool} (h : i < to) (hh : headB (S i).op = false) (h10 : ¬ ((S i).op = 10 ∧ dfr = true)) : ins S i to deep dfr = ins S (i + 1) to deep dfr := by
  rw [ins_open h, insF, if_pos h, if_neg (by simp [hh]), if_neg h10, ins_of (by omega)]
theorem ins_ret {S : Nat → Stp} {i to deep : Nat} (h : i < to) (h10 : (S i).op = 10) : ins S i to deep true = (6, (i : Int)) := by
  rw [ins_open h, insF, if_pos h, if_neg (by unfold headB; simp [h10]), if_pos ⟨h10, rfl⟩]
theorem ins_four {S : Nat → Stp} {i to deep : Nat} {dfr : Bool} (h : i < to) (hh : headB (S i).op = true) (hs : (to : Int) - i - 1 < (S i).size) : ins S i to deep dfr = (4, (i : Int)) := by
  rw [ins_open h, insF, if_pos h, if_pos hh, if_pos hs]
theorem ins_five {S : Nat → Stp} {i to : Nat} {dfr : Bool} (h : i < to) (hh : headB (S i).op = true) (hs : ¬ (to : Int) - i - 1 < (S i).size) : ins S i to 12 dfr = (5, (i : Int)) := by
  rw [ins_open h, insF, if_pos h, if_pos hh, if_neg hs, if_pos rfl]
theorem ins_in {S : Nat → Stp} {i to deep : Nat} {dfr : Bool} (h : i < to) (hh : headB (S i).op = true) (hs : ¬ (to : Int) - i - 1 < (S i).size) (hd : ¬ deep = 12)
    (hn : (ins S (i + 1) (i + 1 + (S i).size.toNat) (deep + 1) (dfr || (S i).op == 13)).1 ≠ 0) : ins S i to deep dfr = ins S (i + 1) (i + 1 + (S i).size.toNat) (deep + 1) (dfr || (S i).op == 13) := by
  rw [ins_open h, insF, if_pos h, if_pos hh, if_neg hs, if_neg hd, ins_of (by omega), if_pos hn]
theorem ins_on {S : Nat → Stp} {i to deep : Nat} {dfr : Bool} (h : i < to) (hh : headB (S i).op = true) (hs : ¬ (to : Int) - i - 1 < (S i).size) (hd : ¬ deep = 12)
    (hn : (ins S (i + 1) (i + 1 + (S i).size.toNat) (deep + 1) (dfr || (S i).op == 13)).1 = 0) : ins S i to deep dfr = ins S (i + 1 + (S i).size.toNat) to deep dfr := by
  rw [ins_open h, insF, if_pos h, if_pos hh, if_neg hs, if_neg hd, ins_of (by omega), if_neg (by simpa using hn), ins_of (by omega)]

theorem hid {p : Prop} (h : p) : Hid p := h
theorem ret_two {a b c d : Int} (h : (a, b) = (c, d)) : Ending.returned (.tuple #[.int .i64 a, .int .i64 b]) = .returned (.tuple #[.int .i64 c, .int .i64 d]) := by
  simp only [Prod.mk.injEq] at h; rw [h.1, h.2]

set_option maxHeartbeats 400000 in
theorem l1block_any (o : Int) (w : World) : Calls Tryd.prog 29 #[.int .i64 o] w fun e w' => e = .returned (.bool (headB o)) ∧ w' = w := by
  go_enter Tryd.func29, Tryd.ntmps29
  go_wp2
  all_goals go_ret
  all_goals exact ⟨ret_bool (by unfold headB; rw [Bool.eq_iff_iff]; simp; omega), rfl⟩

set_option maxHeartbeats 1000000 in
theorem l1inside_any (ao : Option Addr) (N cap : Nat) (S : Nat → Stp) (hN : N ≤ 1048576) (hok : ∀ j, j < N → headB (S j).op = true → 0 ≤ (S j).size) (d : Nat) :
    ∀ (i to deep : Nat) (x y z : Int) (dfr : Bool) (w : World), to - i < d → i ≤ to → to ≤ N → deep ≤ 12 → x = i → y = to → z = deep → StepsAt w ao N S →
    Calls Tryd.prog 15 #[.agg #[.slice ao N cap], .int .i64 x, .int .i64 y, .int .i64 z, .bool dfr] w fun e w' => e = .returned (.tuple #[.int .i64 (ins S i to deep dfr).1, .int .i64 (ins S i to deep dfr).2]) ∧ Below w.heap.size w w' := by
  induction d with
  | zero => intro i to deep x y z dfr w hd; omega
  | succ d ih0 =>
    intro i to deep x y z dfr w hd hle hto hdeep hx hy hz hst
    subst hx hy hz
    have ih := hid ih0
    have ok := hid hok
    clear ih0 hok
    go_enter Tryd.func15, Tryd.ntmps15
    go_wp2_with fail
    go_loopw [10, 11, 12] (fun a b c wr => ∃ k : Nat, i ≤ k ∧ k ≤ to ∧ c = .int .i64 k ∧ a = .int .i64 0 ∧ b = .int .i64 0 ∧ Hid (ins S k to deep dfr = ins S i to deep dfr) ∧ Below (w.heap.size + 1) (w.alloc (.cells #[.slice ao N cap] 40)) wr) (fun _ _ c _ => to - (intOf c).toNat)
    case atStart => exact ⟨i, Nat.le_refl _, hle, rfl, rfl, rfl, rfl, Below.refl _ _⟩
    case round =>
      obtain ⟨k, hik, hk, rfl, rfl, rfl, HR, hb⟩ := hrel
      have hbw : Below w.heap.size w wr := (bel_one _ _).trans (hb.mono (by omega))
      have hc5 : wr.cell? ⟨w.heap.size, 0, none⟩ = some (.slice ao N cap) := (hb.cell (by simp)).trans (by simp)
      have hsz5 : w.heap.size < wr.heap.size := by have := hb.size; simp at this; omega
      by_cases hlt : k < to
      · have hst' := hst.below hbw
        obtain ⟨b, off, rfl, hbl, c0, c1, c2, c3, c4⟩ := hst' k (by omega)
        cases hh : headB (S k).op
        · by_cases h10 : (S k).op = 10
          · cases dfr
            · go_wp2_with (go_at_call 29; refine (l1block_any _ _).mono ?_; rintro e w' ⟨rfl, rfl⟩)
              exact ⟨⟨k + 1, by omega, by omega, by go_num, rfl, rfl, by show _ = _; rw [← HR.out]; exact (ins_step hlt hh (by simp)).symm, hb.trans ((bel_one _ _).mono (by omega))⟩, by simp [intOf]; omega⟩
            · go_wp2_with (go_at_call 29; refine (l1block_any _ _).mono ?_; rintro e w' ⟨rfl, rfl⟩)
              go_ret2
              exact ⟨ret_two (by rw [← HR.out, ins_ret hlt h10]), bel_alloc hbw _⟩
          · go_wp2_with (go_at_call 29; refine (l1block_any _ _).mono ?_; rintro e w' ⟨rfl, rfl⟩)
            exact ⟨⟨k + 1, by omega, by omega, by go_num, rfl, rfl, by show _ = _; rw [← HR.out]; exact (ins_step hlt hh (by simp [h10])).symm, hb.trans ((bel_one _ _).mono (by omega))⟩, by simp [intOf]; omega⟩
        · have hs0 : 0 ≤ (S k).size := ok.out k (by omega) hh
          by_cases hsz : (to : Int) - k - 1 < (S k).size
          · go_wp2_with (go_at_call 29; refine (l1block_any _ _).mono ?_; rintro e w' ⟨rfl, rfl⟩)
            go_ret2
            exact ⟨ret_two (by rw [← HR.out, ins_four hlt hh hsz]), bel_alloc hbw _⟩
          by_cases hd12 : deep = 12
          · subst hd12
            go_wp2_with (go_at_call 29; refine (l1block_any _ _).mono ?_; rintro e w' ⟨rfl, rfl⟩)
            go_ret2
            exact ⟨ret_two (by rw [← HR.out, ins_five hlt hh (by omega)]), bel_alloc hbw _⟩
          obtain ⟨rc, ra, hR⟩ : ∃ rc ra, ins S (k + 1) (k + 1 + (S k).size.toNat) (deep + 1) (dfr || (S k).op == 13) = (rc, ra) := ⟨_, _, rfl⟩
          cases dfr
          · have HN : Hid (ins S (k + 1) (k + 1 + (S k).size.toNat) (deep + 1) (false || (S k).op == 13) = (rc, ra)) := hR
            clear hR
            have HR2 := HN
            by_cases hrc : rc = 0
            · subst hrc
              go_wp2_with (first | (go_at_call 29; refine (l1block_any _ _).mono ?_; rintro e w' ⟨rfl, rfl⟩) | (go_at_call 15; refine (ih.out (k + 1) (k + 1 + (S k).size.toNat) (deep + 1) _ _ _ (false || (S k).op == 13) _ (by omega) (by omega) (by omega) (by omega) (by omega) (by omega) (by omega) (by exact hst'.below (bel_one _ _))).mono ?_; rintro e w' ⟨he, hb2⟩; rw [HR2.out] at he; subst he; have hc6 : w'.cell? ⟨wr.heap.size, 4, none⟩ = some (.int .i64 (S k).size) := (hb2.cell (by simp)).trans (by simp)))
              exact ⟨⟨k + 1 + (S k).size.toNat, by omega, by omega, by go_num, rfl, rfl, by show _ = _; rw [← HR.out]; exact (ins_on hlt hh (by omega) (by omega) (by rw [HN.out])).symm, hb.trans ((bel_trans (bel_one _ _) hb2).mono (by omega))⟩, by simp [intOf]; omega⟩
            · go_wp2_with (first | (go_at_call 29; refine (l1block_any _ _).mono ?_; rintro e w' ⟨rfl, rfl⟩) | (go_at_call 15; refine (ih.out (k + 1) (k + 1 + (S k).size.toNat) (deep + 1) _ _ _ (false || (S k).op == 13) _ (by omega) (by omega) (by omega) (by omega) (by omega) (by omega) (by omega) (by exact hst'.below (bel_one _ _))).mono ?_; rintro e w' ⟨he, hb2⟩; rw [HR2.out] at he; subst he; have hc6 : w'.cell? ⟨wr.heap.size, 4, none⟩ = some (.int .i64 (S k).size) := (hb2.cell (by simp)).trans (by simp)))
              go_ret2
              exact ⟨ret_two (by rw [← HR.out, ins_in hlt hh (by omega) (by omega) (by rw [HN.out]; exact hrc), HN.out]), bel_trans (bel_trans hbw (bel_one _ _)) hb2⟩
          · have HN : Hid (ins S (k + 1) (k + 1 + (S k).size.toNat) (deep + 1) (true || (S k).op == 13) = (rc, ra)) := hR
            clear hR
            have HR2 := HN
            by_cases hrc : rc = 0
            · subst hrc
              go_wp2_with (first | (go_at_call 29; refine (l1block_any _ _).mono ?_; rintro e w' ⟨rfl, rfl⟩) | (go_at_call 15; refine (ih.out (k + 1) (k + 1 + (S k).size.toNat) (deep + 1) _ _ _ (true || (S k).op == 13) _ (by omega) (by omega) (by omega) (by omega) (by omega) (by omega) (by omega) (by exact hst'.below (bel_one _ _))).mono ?_; rintro e w' ⟨he, hb2⟩; rw [HR2.out] at he; subst he; have hc6 : w'.cell? ⟨wr.heap.size, 4, none⟩ = some (.int .i64 (S k).size) := (hb2.cell (by simp)).trans (by simp)))
              exact ⟨⟨k + 1 + (S k).size.toNat, by omega, by omega, by go_num, rfl, rfl, by show _ = _; rw [← HR.out]; exact (ins_on hlt hh (by omega) (by omega) (by rw [HN.out])).symm, hb.trans ((bel_trans (bel_one _ _) hb2).mono (by omega))⟩, by simp [intOf]; omega⟩
            · go_wp2_with (first | (go_at_call 29; refine (l1block_any _ _).mono ?_; rintro e w' ⟨rfl, rfl⟩) | (go_at_call 15; refine (ih.out (k + 1) (k + 1 + (S k).size.toNat) (deep + 1) _ _ _ (true || (S k).op == 13) _ (by omega) (by omega) (by omega) (by omega) (by omega) (by omega) (by omega) (by exact hst'.below (bel_one _ _))).mono ?_; rintro e w' ⟨he, hb2⟩; rw [HR2.out] at he; subst he; have hc6 : w'.cell? ⟨wr.heap.size, 4, none⟩ = some (.int .i64 (S k).size) := (hb2.cell (by simp)).trans (by simp)))
              go_ret2
              exact ⟨ret_two (by rw [← HR.out, ins_in hlt hh (by omega) (by omega) (by rw [HN.out]; exact hrc), HN.out]), bel_trans (bel_trans hbw (bel_one _ _)) hb2⟩
      · go_wp2_with fail
        go_ret2
        exact ⟨ret_two (by rw [← HR.out, ins_end (by omega)]), hbw⟩

end Go.Proofs.YtkoccaheckkbdaaDoor
