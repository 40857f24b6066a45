/- The walk of the specification's PlanOk. -/
import Derived.Test.YtkoccaheckkbdaaDoorFaults
namespace Go.Proofs.YtkoccaheckkbdaaDoor
open Go.RowKit

theorem specOk_ret {a b c d e f : Int} (h : (a, b, c) = (d, e, f)) : Ending.returned (.agg #[.int .i64 a, .int .i64 b, .int .i64 c]) = .returned (.agg #[.int .i64 d, .int .i64 e, .int .i64 f]) := by
  simp only [Prod.mk.injEq] at h; rw [h.1, h.2.1, h.2.2]

set_option maxRecDepth 100000 in
set_option maxHeartbeats 2000000 in
theorem specOk_any (ao : Option Addr) (m cap : Nat) (A : Nat → Option Addr) (L C : Nat → Nat) (S : Nat → Nat → Stp) (w : World) (hp : PlanAt w ao m A L C S) (hm : m ≤ 1048576) (hL : ∀ i, i < m → L i ≤ 1048576) :
    Calls Tryd.prog 6 #[.agg #[.slice ao m cap]] w fun e w' => e = .returned (.agg #[.int .i64 (planOk m L S).1, .int .i64 (planOk m L S).2.1, .int .i64 (planOk m L S).2.2]) ∧ Below w.heap.size w w' := by
  obtain ⟨pc, pb, ps, hP⟩ : ∃ pc pb ps, planOk m L S = (pc, pb, ps) := ⟨_, _, _, rfl⟩
  rw [hP]
  have HP := hid hP
  clear hP
  by_cases hm0 : m = 0
  · subst hm0
    go_enter Tryd.func6, Tryd.ntmps6
    go_wp2_with fail
    refine bodyPost_ret (v := .agg #[.int .i64 1, .int .i64 0, .int .i64 0]) (by simp [results, Tryd.results6, go_sem]) rfl ⟨specOk_ret (by rw [← HP.out, planOk_bodies (.inl rfl)]), ?_⟩
    exact bel_alloc (bel_one _ _) _
  by_cases hm30 : 30 < m
  · go_enter Tryd.func6, Tryd.ntmps6
    go_wp2_with fail
    refine bodyPost_ret (v := .agg #[.int .i64 1, .int .i64 0, .int .i64 0]) (by simp [results, Tryd.results6, go_sem]) rfl ⟨specOk_ret (by rw [← HP.out, planOk_bodies (.inr hm30)]), ?_⟩
    exact bel_alloc (bel_one _ _) _
  have hmm : ¬ (m = 0 ∨ 30 < m) := by omega
  have hmz : ((m : Int) == 0) = false := by simp; omega
  have hml : decide ((30 : Int) < (m : Int)) = false := by simp; omega
  go_enter Tryd.func6, Tryd.ntmps6
  go_wp2_with fail
  go_loopw [27] (fun c wr => ∃ k : Nat, k ≤ m ∧ c = .int .i64 k ∧ Hid (pl1 L (m - k) k = pl1 L m 0) ∧ Below (w.heap.size + 2) ((w.alloc (.cells #[.slice ao m cap] 31)).alloc (.cells #[.int .i64 0, .int .i64 0, .int .i64 0] 27)) wr) (fun c _ => m - (intOf c).toNat)
  case atStart => exact ⟨0, by omega, rfl, rfl, Below.refl _ _⟩
  case round =>
    obtain ⟨k, hk, rfl, HR, hb⟩ := hrel
    obtain ⟨hbw, f0, f1, f2, f3, f4, f5⟩ := start_facts hb
    by_cases hlt : k < m
    · obtain ⟨b, off, rfl, hbl, c0⟩ := (hp.below hbw).1 k hlt
      have hLk := hL k hlt
      by_cases h300 : 300 < L k
      · go_wp2_with fail
        refine bodyPost_ret (v := .agg #[.int .i64 2, .int .i64 k, .int .i64 0]) (by simp [results, Tryd.results6, go_sem, f1, f2, f3, f5]) rfl ⟨specOk_ret ?_, ?_⟩
        · rw [← HP.out, planOk_steps hmm (by rw [← HR.out]; exact pl1_hit hlt h300)]
        · exact bel_alloc (((hbw.setCell (by simp) _).setCell (by simp) _).setCell (by simp) _) _
      · go_wp2_with fail
        exact ⟨⟨k + 1, by omega, by go_num, by show _ = _; rw [← HR.out]; exact (pl1_on hlt h300).symm, hb.trans ((bel_one _ _).mono (by omega))⟩, by simp [intOf]; omega⟩
    obtain rfl : m = k := by omega
    have H1 : Hid (pl1 L m 0 = none) := by show _ = _; rw [← HR.out, Nat.sub_self]; rfl
    clear HR hbw f1 f2 f3 f4 f5 hlt
    go_wp2_with fail
    go_loopw [42] (fun c wr => ∃ i : Nat, i ≤ m ∧ c = .int .i64 i ∧ Hid (pl2 m L S (m - i) i = pl2 m L S m 0) ∧ Below (w.heap.size + 2) ((w.alloc (.cells #[.slice ao m cap] 31)).alloc (.cells #[.int .i64 0, .int .i64 0, .int .i64 0] 27)) wr) (fun c _ => m - (intOf c).toNat)
    case atStart => exact ⟨0, by omega, rfl, rfl, hb⟩
    case round =>
      clear f0 hb
      obtain ⟨k, hk, rfl, HR, hb⟩ := hrel
      obtain ⟨hbw, f0, f1, f2, f3, f4, f5⟩ := start_facts hb
      by_cases hlt : k < m
      · obtain ⟨b, off, rfl, hbl, c0⟩ := (hp.below hbw).1 k hlt
        have hLk := hL k hlt
        have hsk0 := hp.2 k hlt
        obtain ⟨Ak, hAk⟩ : ∃ Ak, A k = Ak := ⟨_, rfl⟩
        rw [hAk] at c0 hsk0
        clear hAk
        go_wp2_with fail
        go_loopw [50] (fun c wq => ∃ j : Nat, j ≤ L k ∧ c = .int .i64 j ∧ Hid (pl2in (fun j => shp m (S k j)) (L k - j) j = pl2in (fun j => shp m (S k j)) (L k) 0) ∧ Below (w.heap.size + 2) ((w.alloc (.cells #[.slice (some ⟨b, off, none⟩) m cap] 31)).alloc (.cells #[.int .i64 0, .int .i64 0, .int .i64 0] 27)) wq) (fun c _ => L k - (intOf c).toNat)
        case atStart => exact ⟨0, by omega, rfl, rfl, hb.trans ((bel_one _ _).mono (by omega))⟩
        case round =>
          clear f0 f1 f2 f3 f4 f5 c0 hbl hb hbw
          obtain ⟨j, hj, rfl, HQ, hb⟩ := hrel
          obtain ⟨hbw2, f0, f1, f2, f3, f4, f5⟩ := start_facts hb
          have f6 : w.heap.size < wr.heap.size := by omega
          by_cases hjl : j < L k
          · obtain ⟨b2, off2, rfl, hbl2, c0, c1, c2, c3, c4⟩ := (hsk0.below hbw2) j hjl
            cases hsh : shp m (S k j)
            · have HS := hid hsh
              clear hsh
              go_wp2_with ((go_at_call 14; refine (l1shape_any _ _ _ _ _ _ _ _ _).mono ?_; rintro e w' ⟨he, hb2⟩; have he2 : e = .returned (.bool (shp m (S k j))) := he; rw [HS.out] at he2; subst he2; clear he); obtain ⟨hbw3, g0, g1, g2, g3, g4, g5⟩ := start_facts (hb.trans ((bel_trans (bel_one _ _) hb2).mono (by omega))))
              refine bodyPost_ret (v := .agg #[.int .i64 3, .int .i64 k, .int .i64 j]) (by simp [results, Tryd.results6, go_sem, g1, g2, g3]) rfl ⟨specOk_ret ?_, ?_⟩
              · rw [← HP.out, planOk_shape hmm H1.out (by rw [← HR.out]; exact pl2_hit hlt (by rw [← HQ.out]; exact pl2in_hit hjl HS.out))]
              · exact ((hbw3.setCell (by simp) _).setCell (by simp) _).setCell (by simp) _
            · have HS := hid hsh
              clear hsh
              go_wp2_with ((go_at_call 14; refine (l1shape_any _ _ _ _ _ _ _ _ _).mono ?_; rintro e w' ⟨he, hb2⟩; have he2 : e = .returned (.bool (shp m (S k j))) := he; rw [HS.out] at he2; subst he2; clear he))
              exact ⟨⟨j + 1, by omega, by go_num, by show _ = _; rw [← HQ.out]; exact (pl2in_on hjl HS.out).symm, hb.trans ((bel_trans (bel_one _ _) hb2).mono (by omega))⟩, by simp [intOf]; omega⟩
          · go_wp2_with fail
            exact ⟨⟨k + 1, by omega, by go_num, by show _ = _; rw [← HR.out]; exact (pl2_on hlt (by rw [← HQ.out, show L k - j = 0 by omega]; rfl)).symm, hb⟩, by simp [intOf]; omega⟩
      obtain rfl : m = k := by omega
      have H2 : Hid (pl2 m L S m 0 = none) := by show _ = _; rw [← HR.out, Nat.sub_self]; rfl
      have hgood : Hid (∀ i, i < m → ∀ j, j < L i → Good (S i j)) := fun i hi j hj => shp_good (pl2_all _ _ H2.out i (by omega) (by omega) j hj)
      clear HR hbw f1 f2 f3 f4 f5 hlt
      go_wp2_with fail
      go_loopw [67] (fun c wr => ∃ i : Nat, i ≤ m ∧ c = .int .i64 i ∧ Hid (pl3 L S (m - i) i = pl3 L S m 0) ∧ Below (w.heap.size + 2) ((w.alloc (.cells #[.slice ao m cap] 31)).alloc (.cells #[.int .i64 0, .int .i64 0, .int .i64 0] 27)) wr) (fun c _ => m - (intOf c).toNat)
      case atStart => exact ⟨0, by omega, rfl, rfl, hb⟩
      case round =>
        clear f0 hb
        obtain ⟨k, hk, rfl, HR, hb⟩ := hrel
        obtain ⟨hbw, f0, f1, f2, f3, f4, f5⟩ := start_facts hb
        by_cases hlt : k < m
        · obtain ⟨b, off, rfl, hbl, c0⟩ := (hp.below hbw).1 k hlt
          have hLk := hL k hlt
          have hsk := (hp.below hbw).2 k hlt
          obtain ⟨rc, ra, hX⟩ : ∃ rc ra, ins (S k) 0 (L k) 0 false = (rc, ra) := ⟨_, _, rfl⟩
          have HX := hid hX
          clear hX
          by_cases hrc : rc = 0
          · subst hrc
            go_wp2_with ((go_at_call 15; refine (l1inside_any _ _ _ (S k) (by omega) (fun j hj _ => (hgood.out k hlt j hj).2.2.1) (L k + 1) 0 (L k) 0 _ _ _ _ _ (by omega) (by omega) (by omega) (by omega) rfl rfl rfl (by exact hsk.below (bel_one _ _))).mono ?_; rintro e w' ⟨he, hb2⟩; rw [HX.out] at he; subst he))
            exact ⟨⟨k + 1, by omega, by go_num, by show _ = _; rw [← HR.out]; exact (pl3_on hlt (by rw [HX.out])).symm, hb.trans ((bel_trans (bel_one _ _) hb2).mono (by omega))⟩, by simp [intOf]; omega⟩
          · go_wp2_with ((go_at_call 15; refine (l1inside_any _ _ _ (S k) (by omega) (fun j hj _ => (hgood.out k hlt j hj).2.2.1) (L k + 1) 0 (L k) 0 _ _ _ _ _ (by omega) (by omega) (by omega) (by omega) rfl rfl rfl (by exact hsk.below (bel_one _ _))).mono ?_; rintro e w' ⟨he, hb2⟩; rw [HX.out] at he; subst he); obtain ⟨hbw3, g0, g1, g2, g3, g4, g5⟩ := start_facts (hb.trans ((bel_trans (bel_one _ _) hb2).mono (by omega))))
            refine bodyPost_ret (v := .agg #[.int .i64 rc, .int .i64 k, .int .i64 ra]) (by simp [results, Tryd.results6, go_sem, g1, g2, g3]) rfl ⟨specOk_ret ?_, ?_⟩
            · rw [← HP.out, planOk_rest hmm H1.out H2.out, ← HR.out, pl3_hit hlt (by rw [HX.out]; exact hrc), HX.out]
            · exact ((hbw3.setCell (by simp) _).setCell (by simp) _).setCell (by simp) _
        obtain rfl : m = k := by omega
        go_wp2_with fail
        refine bodyPost_ret (v := .agg #[.int .i64 0, .int .i64 0, .int .i64 0]) (by simp [results, Tryd.results6, go_sem, f1, f2, f3]) rfl ⟨specOk_ret ?_, ?_⟩
        · rw [← HP.out, planOk_rest hmm H1.out H2.out, ← HR.out, Nat.sub_self]; rfl
        · exact ((hbw.setCell (by simp) _).setCell (by simp) _).setCell (by simp) _

end Go.Proofs.YtkoccaheckkbdaaDoor
