/- The walks of eqFault, eqStep, eqStepS, eqBody, eqBodyS, eqPlan at two things that are the same. -/
import Derived.Test.YtkoccaheckkbdaaDoorPlain
import Derived.Deep.LoopGhost
import Derived.Deep.RegionWith
import Derived.Deep.DeepCutAuto
namespace Go.Proofs.YtkoccaheckkbdaaDoor
open Go.RowKit

set_option maxHeartbeats 400000 in
theorem eqFault_any (c b s : Int) (w : World) :
    Calls Tryd.prog 9 #[.agg #[.int .i64 c, .int .i64 b, .int .i64 s], .agg #[.int .i64 c, .int .i64 b, .int .i64 s]] w fun e w' => e = .returned (.bool true) ∧ Below w.heap.size w w' := by
  go_enter Tryd.func9, Tryd.ntmps9
  go_wp2
  go_ret
  exact ⟨rfl, bel_alloc (bel_one _ _) _⟩

set_option maxHeartbeats 400000 in
theorem eqStep_any (o a b n s : Int) (w : World) :
    Calls Tryd.prog 57 #[.agg #[.int .i64 o, .int .i64 a, .int .i64 b, .int .i64 n, .int .i64 s], .agg #[.int .i64 o, .int .i64 a, .int .i64 b, .int .i64 n, .int .i64 s]] w fun e w' =>
      e = .returned (.bool true) ∧ Below w.heap.size w w' := by
  go_enter Tryd.func57, Tryd.ntmps57
  go_wp2
  go_ret
  exact ⟨rfl, bel_alloc (bel_one _ _) _⟩

set_option maxHeartbeats 400000 in
theorem eqStepS_any (ao bo : Option Addr) (n ca cb : Nat) (S : Nat → Stp) (w : World) (hr : StepsAt w ao n S) (hq : StepsAt w bo n S) (hn : n ≤ 1048576) :
    Calls Tryd.prog 45 #[.slice ao n ca, .slice bo n cb] w fun e w' => e = .returned (.bool true) ∧ Below w.heap.size w w' := by
  go_enter Tryd.func45, Tryd.ntmps45
  go_wp2_with fail
  go_loopg [4, 5] n (fun r u i wr => ∃ k : Nat, k ≤ n ∧ i = .int .i64 k ∧ u = .bool false ∧ Hid (r + k = n) ∧ Below w.heap.size w wr)
  case atStart => exact ⟨0, Nat.zero_le _, rfl, rfl, rfl, Below.refl _ _⟩
  case round =>
    obtain ⟨k, hk, rfl, rfl, HR, hb⟩ := hrel
    by_cases hlt : k < n
    · obtain ⟨b1, o1, rfl, hb1, c0, c1, c2, c3, c4⟩ := (hr.below hb) k hlt
      obtain ⟨b2, o2, rfl, hb2, d0, d1, d2, d3, d4⟩ := (hq.below hb) k hlt
      go_upto_region 6 with fail
      go_cut [26] (fun c wx => c = .bool false ∧ Below wr.heap.size wr wx)
      case first =>
        go_region_with (go_at_call 57; refine (eqStep_any _ _ _ _ _ _).mono ?_; rintro e w' ⟨rfl, hbe⟩)
        all_goals (go_wp2_with fail; go_meet; exact ⟨rfl, bel_trans ((Below.refl _ _).drew) hbe⟩)
      case rest =>
        obtain ⟨rfl, hbe⟩ := hcut
        go_wp2_with fail
        go_roundg (n - (k + 1))
        case measure => have := HR.out; omega
        case rel => exact ⟨k + 1, by omega, by go_num, rfl, by show _ = _; omega, bel_trans hb hbe⟩
    · go_wp2_with fail
      go_ret
      exact ⟨rfl, hb⟩

set_option maxHeartbeats 400000 in
theorem eqBody_any (ao bo : Option Addr) (n ca cb : Nat) (S : Nat → Stp) (w : World) (hr : StepsAt w ao n S) (hq : StepsAt w bo n S) (hn : n ≤ 1048576) :
    Calls Tryd.prog 34 #[.agg #[.slice ao n ca], .agg #[.slice bo n cb]] w fun e w' => e = .returned (.bool true) ∧ Below w.heap.size w w' := by
  go_enter Tryd.func34, Tryd.ntmps34
  go_wp2_with (go_at_call 45; refine (eqStepS_any _ _ _ _ _ S _ (hr.below (bel_alloc (bel_one _ _) _)) (hq.below (bel_alloc (bel_one _ _) _)) hn).mono ?_; rintro e w' ⟨rfl, hb⟩)
  go_ret
  exact ⟨rfl, bel_trans (bel_alloc (bel_one _ _) _) hb⟩

set_option maxHeartbeats 400000 in
theorem eqBodyS_any (ao bo : Option Addr) (m ca cb : Nat) (A A' : Nat → Option Addr) (L C C' : Nat → Nat) (S : Nat → Nat → Stp) (w : World) (hr : PlanAt w ao m A L C S) (hq : PlanAt w bo m A' L C' S) (hm : m ≤ 1048576) (hL : ∀ i, i < m → L i ≤ 1048576) :
    Calls Tryd.prog 19 #[.slice ao m ca, .slice bo m cb] w fun e w' => e = .returned (.bool true) ∧ Below w.heap.size w w' := by
  go_enter Tryd.func19, Tryd.ntmps19
  go_wp2_with fail
  go_loopg [4, 5] m (fun r u i wr => ∃ k : Nat, k ≤ m ∧ i = .int .i64 k ∧ u = .bool false ∧ Hid (r + k = m) ∧ Below w.heap.size w wr)
  case atStart => exact ⟨0, Nat.zero_le _, rfl, rfl, rfl, Below.refl _ _⟩
  case round =>
    obtain ⟨k, hk, rfl, rfl, HR, hb⟩ := hrel
    by_cases hlt : k < m
    · obtain ⟨b1, o1, rfl, hb1, c0⟩ := (hr.below hb).1 k hlt
      obtain ⟨b2, o2, rfl, hb2, d0⟩ := (hq.below hb).1 k hlt
      have hLk := hL k hlt
      have s1 : StepsAt wr.drew (A k) (L k) (S k) := ((hr.below hb).2 k hlt).below ((Below.refl _ _).drew)
      have s2 : StepsAt wr.drew (A' k) (L k) (S k) := ((hq.below hb).2 k hlt).below ((Below.refl _ _).drew)
      go_upto_region 6 with fail
      go_cut [26] (fun c wx => c = .bool false ∧ Below wr.heap.size wr wx)
      case first =>
        go_region_with (go_at_call 34; refine (eqBody_any _ _ _ _ _ (S k) _ s1 s2 hLk).mono ?_; rintro e w' ⟨rfl, hbe⟩)
        all_goals (go_wp2_with fail; go_meet; exact ⟨rfl, bel_trans ((Below.refl _ _).drew) hbe⟩)
      case rest =>
        obtain ⟨rfl, hbe⟩ := hcut
        go_wp2_with fail
        go_roundg (m - (k + 1))
        case measure => have := HR.out; omega
        case rel => exact ⟨k + 1, by omega, by go_num, rfl, by show _ = _; omega, bel_trans hb hbe⟩
    · go_wp2_with fail
      go_ret
      exact ⟨rfl, hb⟩

set_option maxHeartbeats 400000 in
theorem eqPlan_any (ao bo : Option Addr) (m ca cb : Nat) (A A' : Nat → Option Addr) (L C C' : Nat → Nat) (S : Nat → Nat → Stp) (w : World) (hr : PlanAt w ao m A L C S) (hq : PlanAt w bo m A' L C' S) (hm : m ≤ 1048576) (hL : ∀ i, i < m → L i ≤ 1048576) :
    Calls Tryd.prog 10 #[.agg #[.slice ao m ca], .agg #[.slice bo m cb]] w fun e w' => e = .returned (.bool true) ∧ Below w.heap.size w w' := by
  go_enter Tryd.func10, Tryd.ntmps10
  go_wp2_with (go_at_call 19; refine (eqBodyS_any _ _ _ _ _ A A' L C C' S _ (hr.below (bel_alloc (bel_one _ _) _)) (hq.below (bel_alloc (bel_one _ _) _)) hm hL).mono ?_; rintro e w' ⟨rfl, hb⟩)
  go_ret
  exact ⟨rfl, bel_trans (bel_alloc (bel_one _ _) _) hb⟩

end Go.Proofs.YtkoccaheckkbdaaDoor
