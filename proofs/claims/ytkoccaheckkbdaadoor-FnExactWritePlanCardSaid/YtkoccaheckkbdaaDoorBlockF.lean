/- The faults 4, 5 and 6 as the program finds them: the walk of blockFault. -/
import Derived.Test.YtkoccaheckkbdaaDoorPlace
namespace Go.Proofs.YtkoccaheckkbdaaDoor
open Go.RowKit

/-- What the shapes of a plan's steps say of them here. -/
def Good (s : Stp) : Prop := 1 ≤ s.op ∧ s.op ≤ 15 ∧ 0 ≤ s.size ∧ (headB s.op = false → s.size = 0)

theorem pf_ins {S : Nat → Stp} {i to deep : Nat} {dfr : Bool} (h : i < to) (hg : Good (S i)) (hp : pf (S i) deep dfr ((to : Int) - i - 1) ≠ 0) :
    ins S i to deep dfr = (pf (S i) deep dfr ((to : Int) - i - 1), (i : Int)) := by
  obtain ⟨_, _, hs0, hs⟩ := hg
  unfold pf at hp ⊢
  by_cases h4 : (to : Int) - i - 1 < (S i).size
  · rw [if_pos h4]
    cases hh : headB (S i).op
    · exact absurd (hs hh) (by omega)
    · exact ins_four h hh h4
  · rw [if_neg h4] at hp ⊢
    cases hh : headB (S i).op
    · rw [if_neg (by simp [hh])] at hp ⊢
      by_cases h10 : (S i).op = 10 ∧ dfr = true
      · rw [if_pos h10]
        obtain ⟨h10, rfl⟩ := h10
        exact ins_ret h h10
      · rw [if_neg h10] at hp; exact absurd rfl hp
    · by_cases hd : deep = 12
      · rw [if_pos (by simp [hd])]; subst hd; exact ins_five h hh h4
      · rw [if_neg (by simp [hd])] at hp ⊢
        have h10 : ¬ ((S i).op = 10 ∧ dfr = true) := fun x => by unfold headB at hh; simp [x.1] at hh
        rw [if_neg h10] at hp; exact absurd rfl hp

theorem pf_zero {S : Nat → Stp} {i to deep : Nat} {dfr : Bool} (hp : pf (S i) deep dfr ((to : Int) - i - 1) = 0) :
    (S i).size ≤ (to : Int) - i - 1 ∧ (headB (S i).op = true → deep ≠ 12) ∧ (headB (S i).op = false → ¬ ((S i).op = 10 ∧ dfr = true)) := by
  unfold pf at hp
  by_cases h4 : (to : Int) - i - 1 < (S i).size
  · rw [if_pos h4] at hp; exact absurd hp (by decide)
  · rw [if_neg h4] at hp
    refine ⟨by omega, fun hh hd => ?_, fun hh h10 => ?_⟩
    · rw [if_pos ⟨hh, hd⟩] at hp; exact absurd hp (by decide)
    · rw [if_neg (by simp [hh]), if_pos h10] at hp; exact absurd hp (by decide)

theorem ins_inner {S : Nat → Stp} {i to deep : Nat} {dfr : Bool} (h : i < to) (hg : Good (S i)) (hp : pf (S i) deep dfr ((to : Int) - i - 1) = 0)
    (hn : (ins S (i + 1) (i + 1 + (S i).size.toNat) (deep + 1) (dfr || (S i).op == 13)).1 ≠ 0) : ins S i to deep dfr = ins S (i + 1) (i + 1 + (S i).size.toNat) (deep + 1) (dfr || (S i).op == 13) := by
  obtain ⟨h1, h2, h3⟩ := pf_zero hp
  cases hh : headB (S i).op
  · rw [hg.2.2.2 hh, ins_end (by simp)] at hn; exact absurd rfl hn
  · exact ins_in h hh (by omega) (h2 hh) hn
theorem ins_next {S : Nat → Stp} {i to deep : Nat} {dfr : Bool} (h : i < to) (hg : Good (S i)) (hp : pf (S i) deep dfr ((to : Int) - i - 1) = 0)
    (hn : (ins S (i + 1) (i + 1 + (S i).size.toNat) (deep + 1) (dfr || (S i).op == 13)).1 = 0) : ins S i to deep dfr = ins S (i + 1 + (S i).size.toNat) to deep dfr := by
  obtain ⟨h1, h2, h3⟩ := pf_zero hp
  cases hh : headB (S i).op
  · rw [hg.2.2.2 hh]; exact ins_step h hh (h3 hh)
  · exact ins_on h hh (by omega) (h2 hh) hn
theorem inner_deep {S : Nat → Stp} {i to deep : Nat} {dfr : Bool} (hg : Good (S i)) (hp : pf (S i) deep dfr ((to : Int) - i - 1) = 0) (hd : deep ≤ 12) : i + 1 < i + 1 + (S i).size.toNat → deep + 1 ≤ 12 := by
  obtain ⟨h1, h2, h3⟩ := pf_zero hp
  intro hlt
  cases hh : headB (S i).op
  · have := hg.2.2.2 hh; omega
  · have := h2 hh; omega

set_option maxHeartbeats 1000000 in
theorem blockFault_any (ao : Option Addr) (N cap : Nat) (S : Nat → Stp) (hN : N ≤ 1048576) (hok : ∀ j, j < N → Good (S j)) (d : Nat) :
    ∀ (i to deep : Nat) (x y z : Int) (dfr : Bool) (w : World), to - i < d → i ≤ to → to ≤ N → (i < to → deep ≤ 12) → deep ≤ 13 → x = i → y = to → z = deep → StepsAt w ao N S → Tab w →
    Calls Tryd.prog 18 #[.slice ao N cap, .agg #[.int .i64 x, .int .i64 y, .int .i64 z, .bool dfr]] w fun e w' => e = .returned (.tuple #[.int .i64 (ins S i to deep dfr).1, .int .i64 (ins S i to deep dfr).2]) ∧ Below w.heap.size w w' := by
  induction d with
  | zero => intro i to deep x y z dfr w hd; omega
  | succ d ih0 =>
    intro i to deep x y z dfr w hd hle hto hdeep hdeep2 hx hy hz hst htab
    subst hx hy hz
    have ih := hid ih0
    have ok := hid hok
    clear ih0 hok
    go_enter Tryd.func18, Tryd.ntmps18
    go_wp2_with fail
    go_loopw [4, 5, 6] (fun a b c wr => ∃ k : Nat, i ≤ k ∧ k ≤ to ∧ c = .int .i64 k ∧ a = .int .i64 0 ∧ b = .int .i64 0 ∧ Hid (ins S k to deep dfr = ins S i to deep dfr) ∧ Below (w.heap.size + 1) (w.alloc (.cells #[.int .i64 i, .int .i64 to, .int .i64 deep, .bool dfr] 50)) wr) (fun _ _ c _ => to - (intOf c).toNat)
    case atStart => exact ⟨i, Nat.le_refl _, hle, rfl, rfl, rfl, rfl, Below.refl _ _⟩
    case round =>
      obtain ⟨k, hik, hk, rfl, rfl, rfl, HR, hb⟩ := hrel
      have hbw : Below w.heap.size w wr := (bel_one _ _).trans (hb.mono (by omega))
      have p0 : wr.cell? ⟨w.heap.size, 0, none⟩ = some (.int .i64 i) := (hb.cell (by simp)).trans (by simp)
      have p1 : wr.cell? ⟨w.heap.size, 1, none⟩ = some (.int .i64 to) := (hb.cell (by simp)).trans (by simp)
      have p2 : wr.cell? ⟨w.heap.size, 2, none⟩ = some (.int .i64 deep) := (hb.cell (by simp)).trans (by simp)
      have p3 : wr.cell? ⟨w.heap.size, 3, none⟩ = some (.bool dfr) := (hb.cell (by simp)).trans (by simp)
      have hsz5 : w.heap.size < wr.heap.size := by have := hb.size; simp at this; omega
      by_cases hlt : k < to
      · have hst' := hst.below hbw
        have htab' := htab.below hbw
        obtain ⟨b, off, rfl, hbl, c0, c1, c2, c3, c4⟩ := hst' k (by omega)
        have hg := hid (ok.out k (by omega))
        have hd12 : deep ≤ 12 := hdeep (by omega)
        obtain ⟨f, hf⟩ : ∃ f, pf (S k) deep dfr ((to : Int) - k - 1) = f := ⟨_, rfl⟩
        have HF := hid hf
        clear hf
        by_cases hf0 : f = 0
        · subst hf0
          have hs1 := (pf_zero HF.out).1
          have hs0 := hg.out.2.2.1
          obtain ⟨rc, ra, hR⟩ : ∃ rc ra, ins S (k + 1) (k + 1 + (S k).size.toNat) (deep + 1) (dfr || (S k).op == 13) = (rc, ra) := ⟨_, _, rfl⟩
          cases dfr
          · have HR2 : Hid (ins S (k + 1) (k + 1 + (S k).size.toNat) (deep + 1) (false || (S k).op == 13) = (rc, ra)) := hR
            clear hR
            by_cases hrc : rc = 0
            · subst hrc
              go_wp2_with (first | (go_at_call 33; refine (placeFault_any _ _ _ _ _ _ _ _ _ _ _ (by exact htab'.below (bel_one _ _)) ⟨hg.out.1, hg.out.2.1⟩).mono ?_; rintro e w1 ⟨he, hb1⟩; rw [HF.out] at he; subst he; have q0 : w1.cell? ⟨wr.heap.size, 0, none⟩ = some (.int .i64 (S k).op) := (hb1.cell (by simp)).trans (by simp); have q4 : w1.cell? ⟨wr.heap.size, 4, none⟩ = some (.int .i64 (S k).size) := (hb1.cell (by simp)).trans (by simp); have hbr := bel_trans (bel_one _ _) hb1; have r1 := (hbr.cell (p := ⟨w.heap.size, 1, none⟩) hsz5).trans p1; have r2 := (hbr.cell (p := ⟨w.heap.size, 2, none⟩) hsz5).trans p2; have r3 := (hbr.cell (p := ⟨w.heap.size, 3, none⟩) hsz5).trans p3; have hz1 : wr.heap.size < w1.heap.size := (by have := hb1.size; simp at this; omega)) | (go_at_call 18; refine (ih.out (k + 1) (k + 1 + (S k).size.toNat) (deep + 1) _ _ _ (false || (S k).op == 13) _ (by omega) (by omega) (by omega) (inner_deep hg.out HF.out hd12) (by omega) (by omega) (by omega) (by omega) (by exact hst'.below (bel_trans hbr (bel_one _ _))) (by exact htab'.below (bel_trans hbr (bel_one _ _)))).mono ?_; rintro e w2 ⟨he, hb2⟩; rw [HR2.out] at he; subst he; have q5 : w2.cell? ⟨wr.heap.size, 4, none⟩ = some (.int .i64 (S k).size) := ((bel_trans (bel_one _ _) hb2).cell hz1).trans q4))
              exact ⟨⟨k + 1 + (S k).size.toNat, by omega, by omega, by go_num, rfl, rfl, by show _ = _; rw [← HR.out]; exact (ins_next hlt hg.out HF.out (by rw [HR2.out])).symm, hb.trans ((bel_trans hbr (bel_trans (bel_one _ _) hb2)).mono (by omega))⟩, by simp [intOf]; omega⟩
            · go_wp2_with (first | (go_at_call 33; refine (placeFault_any _ _ _ _ _ _ _ _ _ _ _ (by exact htab'.below (bel_one _ _)) ⟨hg.out.1, hg.out.2.1⟩).mono ?_; rintro e w1 ⟨he, hb1⟩; rw [HF.out] at he; subst he; have q0 : w1.cell? ⟨wr.heap.size, 0, none⟩ = some (.int .i64 (S k).op) := (hb1.cell (by simp)).trans (by simp); have q4 : w1.cell? ⟨wr.heap.size, 4, none⟩ = some (.int .i64 (S k).size) := (hb1.cell (by simp)).trans (by simp); have hbr := bel_trans (bel_one _ _) hb1; have r1 := (hbr.cell (p := ⟨w.heap.size, 1, none⟩) hsz5).trans p1; have r2 := (hbr.cell (p := ⟨w.heap.size, 2, none⟩) hsz5).trans p2; have r3 := (hbr.cell (p := ⟨w.heap.size, 3, none⟩) hsz5).trans p3; have hz1 : wr.heap.size < w1.heap.size := (by have := hb1.size; simp at this; omega)) | (go_at_call 18; refine (ih.out (k + 1) (k + 1 + (S k).size.toNat) (deep + 1) _ _ _ (false || (S k).op == 13) _ (by omega) (by omega) (by omega) (inner_deep hg.out HF.out hd12) (by omega) (by omega) (by omega) (by omega) (by exact hst'.below (bel_trans hbr (bel_one _ _))) (by exact htab'.below (bel_trans hbr (bel_one _ _)))).mono ?_; rintro e w2 ⟨he, hb2⟩; rw [HR2.out] at he; subst he; have q5 : w2.cell? ⟨wr.heap.size, 4, none⟩ = some (.int .i64 (S k).size) := ((bel_trans (bel_one _ _) hb2).cell hz1).trans q4))
              go_ret2
              exact ⟨ret_two (by rw [← HR.out, ins_inner hlt hg.out HF.out (by rw [HR2.out]; exact hrc), HR2.out]), bel_trans hbw (bel_trans hbr (bel_trans (bel_one _ _) hb2))⟩
          · have HR2 : Hid (ins S (k + 1) (k + 1 + (S k).size.toNat) (deep + 1) (true || (S k).op == 13) = (rc, ra)) := hR
            clear hR
            by_cases hrc : rc = 0
            · subst hrc
              go_wp2_with (first | (go_at_call 33; refine (placeFault_any _ _ _ _ _ _ _ _ _ _ _ (by exact htab'.below (bel_one _ _)) ⟨hg.out.1, hg.out.2.1⟩).mono ?_; rintro e w1 ⟨he, hb1⟩; rw [HF.out] at he; subst he; have q0 : w1.cell? ⟨wr.heap.size, 0, none⟩ = some (.int .i64 (S k).op) := (hb1.cell (by simp)).trans (by simp); have q4 : w1.cell? ⟨wr.heap.size, 4, none⟩ = some (.int .i64 (S k).size) := (hb1.cell (by simp)).trans (by simp); have hbr := bel_trans (bel_one _ _) hb1; have r1 := (hbr.cell (p := ⟨w.heap.size, 1, none⟩) hsz5).trans p1; have r2 := (hbr.cell (p := ⟨w.heap.size, 2, none⟩) hsz5).trans p2; have r3 := (hbr.cell (p := ⟨w.heap.size, 3, none⟩) hsz5).trans p3; have hz1 : wr.heap.size < w1.heap.size := (by have := hb1.size; simp at this; omega)) | (go_at_call 18; refine (ih.out (k + 1) (k + 1 + (S k).size.toNat) (deep + 1) _ _ _ (true || (S k).op == 13) _ (by omega) (by omega) (by omega) (inner_deep hg.out HF.out hd12) (by omega) (by omega) (by omega) (by omega) (by exact hst'.below (bel_trans hbr (bel_one _ _))) (by exact htab'.below (bel_trans hbr (bel_one _ _)))).mono ?_; rintro e w2 ⟨he, hb2⟩; rw [HR2.out] at he; subst he; have q5 : w2.cell? ⟨wr.heap.size, 4, none⟩ = some (.int .i64 (S k).size) := ((bel_trans (bel_one _ _) hb2).cell hz1).trans q4))
              exact ⟨⟨k + 1 + (S k).size.toNat, by omega, by omega, by go_num, rfl, rfl, by show _ = _; rw [← HR.out]; exact (ins_next hlt hg.out HF.out (by rw [HR2.out])).symm, hb.trans ((bel_trans hbr (bel_trans (bel_one _ _) hb2)).mono (by omega))⟩, by simp [intOf]; omega⟩
            · go_wp2_with (first | (go_at_call 33; refine (placeFault_any _ _ _ _ _ _ _ _ _ _ _ (by exact htab'.below (bel_one _ _)) ⟨hg.out.1, hg.out.2.1⟩).mono ?_; rintro e w1 ⟨he, hb1⟩; rw [HF.out] at he; subst he; have q0 : w1.cell? ⟨wr.heap.size, 0, none⟩ = some (.int .i64 (S k).op) := (hb1.cell (by simp)).trans (by simp); have q4 : w1.cell? ⟨wr.heap.size, 4, none⟩ = some (.int .i64 (S k).size) := (hb1.cell (by simp)).trans (by simp); have hbr := bel_trans (bel_one _ _) hb1; have r1 := (hbr.cell (p := ⟨w.heap.size, 1, none⟩) hsz5).trans p1; have r2 := (hbr.cell (p := ⟨w.heap.size, 2, none⟩) hsz5).trans p2; have r3 := (hbr.cell (p := ⟨w.heap.size, 3, none⟩) hsz5).trans p3; have hz1 : wr.heap.size < w1.heap.size := (by have := hb1.size; simp at this; omega)) | (go_at_call 18; refine (ih.out (k + 1) (k + 1 + (S k).size.toNat) (deep + 1) _ _ _ (true || (S k).op == 13) _ (by omega) (by omega) (by omega) (inner_deep hg.out HF.out hd12) (by omega) (by omega) (by omega) (by omega) (by exact hst'.below (bel_trans hbr (bel_one _ _))) (by exact htab'.below (bel_trans hbr (bel_one _ _)))).mono ?_; rintro e w2 ⟨he, hb2⟩; rw [HR2.out] at he; subst he; have q5 : w2.cell? ⟨wr.heap.size, 4, none⟩ = some (.int .i64 (S k).size) := ((bel_trans (bel_one _ _) hb2).cell hz1).trans q4))
              go_ret2
              exact ⟨ret_two (by rw [← HR.out, ins_inner hlt hg.out HF.out (by rw [HR2.out]; exact hrc), HR2.out]), bel_trans hbw (bel_trans hbr (bel_trans (bel_one _ _) hb2))⟩
        · go_wp2_with (first | (go_at_call 33; refine (placeFault_any _ _ _ _ _ _ _ _ _ _ _ (by exact htab'.below (bel_one _ _)) ⟨hg.out.1, hg.out.2.1⟩).mono ?_; rintro e w1 ⟨he, hb1⟩; rw [HF.out] at he; subst he))
          go_ret2
          exact ⟨ret_two (by rw [← HR.out, pf_ins hlt hg.out (by rw [HF.out]; exact hf0), HF.out]), bel_trans (bel_alloc hbw _) hb1⟩
      · go_wp2_with fail
        go_ret2
        exact ⟨ret_two (by rw [← HR.out, ins_end (by omega)]), hbw⟩

end Go.Proofs.YtkoccaheckkbdaaDoor
