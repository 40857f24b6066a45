/- A whole plan as text: plain. -/
import Derived.Test.YtkoccaheckkbdaaDoorWrite
import Derived.Test.YtkoccaheckkbdaaDoorFaults
namespace Go.Proofs.YtkoccaheckkbdaaDoor
open Go.RowKit

/-- A body as text. -/
def bodyL (L : Nat → Nat) (S : Nat → Nat → Stp) (i : Nat) : List UInt8 := ([98, 111, 100, 121, 32] ++ (Lib.itoa (i : Int) ++ [10])) ++ txt (S i) 0 (L i) 1
/-- The bodies from i on, r of them. -/
def bodiesL (L : Nat → Nat) (S : Nat → Nat → Stp) : Nat → Nat → List UInt8
  | 0, _ => []
  | r + 1, i => bodyL L S i ++ bodiesL L S r (i + 1)
/-- What WritePlan answers. -/
def planText (m : Nat) (L : Nat → Nat) (S : Nat → Nat → Stp) : List UInt8 := if (planOk m L S).1 ≠ 0 then [] else bodiesL L S m 0

theorem bodies_on {L : Nat → Nat} {S : Nat → Nat → Stp} {m k : Nat} (h : k < m) : bodiesL L S (m - k) k = bodyL L S k ++ bodiesL L S (m - (k + 1)) (k + 1) := by
  rw [show m - k = (m - (k + 1)) + 1 by omega, bodiesL]

theorem pl1_all {L : Nat → Nat} : ∀ r i, pl1 L r i = none → ∀ k, i ≤ k → k < i + r → L k ≤ 300
  | 0, i, _, k, h1, h2 => by omega
  | r + 1, i, h, k, h1, h2 => by
    unfold pl1 at h
    by_cases hi : 300 < L i
    · rw [if_pos hi] at h; cases h
    · rw [if_neg hi] at h
      by_cases e : k = i
      · subst e; omega
      · exact pl1_all r (i + 1) h k (by omega) (by omega)
theorem pl3_all {L : Nat → Nat} {S : Nat → Nat → Stp} : ∀ r i, (pl3 L S r i).1 = 0 → ∀ k, i ≤ k → k < i + r → (ins (S k) 0 (L k) 0 false).1 = 0
  | 0, i, _, k, h1, h2 => by omega
  | r + 1, i, h, k, h1, h2 => by
    unfold pl3 at h
    by_cases hi : (ins (S i) 0 (L i) 0 false).1 ≠ 0
    · rw [if_pos hi] at h; exact absurd h hi
    · rw [if_neg hi] at h
      by_cases e : k = i
      · subst e; simpa using hi
      · exact pl3_all r (i + 1) h k (by omega) (by omega)
theorem planOk_zero {m : Nat} {L : Nat → Nat} {S : Nat → Nat → Stp} (h : (planOk m L S).1 = 0) :
    (1 ≤ m ∧ m ≤ 30) ∧ (∀ i, i < m → L i ≤ 300) ∧ (∀ i, i < m → ∀ j, j < L i → shp m (S i j) = true) ∧ (∀ i, i < m → (ins (S i) 0 (L i) 0 false).1 = 0) := by
  by_cases hm : m = 0 ∨ 30 < m
  · rw [planOk_bodies hm] at h; exact absurd h (by simp)
  · cases h1 : pl1 L m 0 with
    | some i => rw [planOk_steps hm h1] at h; exact absurd h (by simp)
    | none =>
      cases h2 : pl2 m L S m 0 with
      | some x => obtain ⟨i, j⟩ := x; rw [planOk_shape hm h1 h2] at h; exact absurd h (by simp)
      | none =>
        rw [planOk_rest hm h1 h2] at h
        exact ⟨by omega, fun i hi => pl1_all _ _ h1 i (by omega) (by omega), fun i hi j hj => pl2_all _ _ h2 i (by omega) (by omega) j hj, fun i hi => pl3_all _ _ h i (by omega) (by omega)⟩

theorem body_len {L : Nat → Nat} {S : Nat → Nat → Stp} {k : Nat} (hk : k ≤ 30) (hL : L k ≤ 300) (hfit : ∀ j, j < L k → Fit (S k j)) : (bodyL L S k).length ≤ 300100 := by
  unfold bodyL
  have h1 := txt_len hfit 0 (L k) 1 (Nat.le_refl _) (by omega)
  have h2 := itoa_len (k : Int) (by omega) (by omega)
  simp only [List.length_append, List.length_cons, List.length_nil]
  omega
theorem bodies_len {L : Nat → Nat} {S : Nat → Nat → Stp} : ∀ r i, (∀ k, i ≤ k → k < i + r → (bodyL L S k).length ≤ 300100) → (bodiesL L S r i).length ≤ r * 300100
  | 0, _, _ => by simp [bodiesL]
  | r + 1, i, h => by
    have h1 := h i (Nat.le_refl _) (by omega)
    have h2 := bodies_len r (i + 1) (fun k hk hk2 => h k (by omega) (by omega))
    rw [bodiesL, List.length_append]
    omega

end Go.Proofs.YtkoccaheckkbdaaDoor
