/- A plan's first fault: plain. -/
import Derived.Test.YtkoccaheckkbdaaDoorBlockF
namespace Go.Proofs.YtkoccaheckkbdaaDoor
open Go.RowKit

/-- The first body, from i on, r of them, with too many steps. -/
def pl1 (L : Nat → Nat) : Nat → Nat → Option Nat
  | 0, _ => none
  | r + 1, i => if 300 < L i then some i else pl1 L r (i + 1)
/-- The first step, from j on, r of them, that is not as the table says. -/
def pl2in (ok : Nat → Bool) : Nat → Nat → Option Nat
  | 0, _ => none
  | r + 1, j => if ok j = true then pl2in ok r (j + 1) else some j
/-- The first body that has such a step, and the step. -/
def pl2 (m : Nat) (L : Nat → Nat) (S : Nat → Nat → Stp) : Nat → Nat → Option (Nat × Nat)
  | 0, _ => none
  | r + 1, i => match pl2in (fun j => shp m (S i j)) (L i) 0 with
    | some j => some (i, j)
    | none => pl2 m L S r (i + 1)
/-- The first fault of 4, 5 and 6. -/
def pl3 (L : Nat → Nat) (S : Nat → Nat → Stp) : Nat → Nat → Int × Int × Int
  | 0, _ => (0, 0, 0)
  | r + 1, i => if (ins (S i) 0 (L i) 0 false).1 ≠ 0 then ((ins (S i) 0 (L i) 0 false).1, (i : Int), (ins (S i) 0 (L i) 0 false).2) else pl3 L S r (i + 1)

/-- The first fault of a plan: its code, its body, its step. -/
def planOk (m : Nat) (L : Nat → Nat) (S : Nat → Nat → Stp) : Int × Int × Int :=
  if m = 0 ∨ 30 < m then (1, 0, 0) else
  match pl1 L m 0 with
  | some i => (2, (i : Int), 0)
  | none => match pl2 m L S m 0 with
    | some (i, j) => (3, (i : Int), (j : Int))
    | none => pl3 L S m 0

theorem planOk_bodies {m : Nat} {L : Nat → Nat} {S : Nat → Nat → Stp} (h : m = 0 ∨ 30 < m) : planOk m L S = (1, 0, 0) := by unfold planOk; rw [if_pos h]
theorem planOk_steps {m : Nat} {L : Nat → Nat} {S : Nat → Nat → Stp} (h : ¬ (m = 0 ∨ 30 < m)) {i : Nat} (h1 : pl1 L m 0 = some i) : planOk m L S = (2, (i : Int), 0) := by unfold planOk; rw [if_neg h, h1]
theorem planOk_shape {m : Nat} {L : Nat → Nat} {S : Nat → Nat → Stp} (h : ¬ (m = 0 ∨ 30 < m)) (h1 : pl1 L m 0 = none) {i j : Nat} (h2 : pl2 m L S m 0 = some (i, j)) : planOk m L S = (3, (i : Int), (j : Int)) := by
  unfold planOk; rw [if_neg h, h1]; simp only []; rw [h2]
theorem planOk_rest {m : Nat} {L : Nat → Nat} {S : Nat → Nat → Stp} (h : ¬ (m = 0 ∨ 30 < m)) (h1 : pl1 L m 0 = none) (h2 : pl2 m L S m 0 = none) : planOk m L S = pl3 L S m 0 := by
  unfold planOk; rw [if_neg h, h1]; simp only []; rw [h2]

theorem pl1_hit {L : Nat → Nat} {m k : Nat} (hk : k < m) (h : 300 < L k) : pl1 L (m - k) k = some k := by
  rw [show m - k = (m - (k + 1)) + 1 by omega, pl1, if_pos h]
theorem pl1_on {L : Nat → Nat} {m k : Nat} (hk : k < m) (h : ¬ 300 < L k) : pl1 L (m - k) k = pl1 L (m - (k + 1)) (k + 1) := by
  rw [show m - k = (m - (k + 1)) + 1 by omega, pl1, if_neg h]
theorem pl2in_hit {ok : Nat → Bool} {m k : Nat} (hk : k < m) (h : ok k = false) : pl2in ok (m - k) k = some k := by
  rw [show m - k = (m - (k + 1)) + 1 by omega, pl2in, if_neg (by simp [h])]
theorem pl2in_on {ok : Nat → Bool} {m k : Nat} (hk : k < m) (h : ok k = true) : pl2in ok (m - k) k = pl2in ok (m - (k + 1)) (k + 1) := by
  rw [show m - k = (m - (k + 1)) + 1 by omega, pl2in, if_pos h]
theorem pl2_hit {M : Nat} {L : Nat → Nat} {S : Nat → Nat → Stp} {m k j : Nat} (hk : k < m) (h : pl2in (fun j => shp M (S k j)) (L k) 0 = some j) : pl2 M L S (m - k) k = some (k, j) := by
  rw [show m - k = (m - (k + 1)) + 1 by omega, pl2, h]
theorem pl2_on {M : Nat} {L : Nat → Nat} {S : Nat → Nat → Stp} {m k : Nat} (hk : k < m) (h : pl2in (fun j => shp M (S k j)) (L k) 0 = none) : pl2 M L S (m - k) k = pl2 M L S (m - (k + 1)) (k + 1) := by
  rw [show m - k = (m - (k + 1)) + 1 by omega, pl2, h]
theorem pl3_hit {L : Nat → Nat} {S : Nat → Nat → Stp} {m k : Nat} (hk : k < m) (h : (ins (S k) 0 (L k) 0 false).1 ≠ 0) : pl3 L S (m - k) k = ((ins (S k) 0 (L k) 0 false).1, (k : Int), (ins (S k) 0 (L k) 0 false).2) := by
  rw [show m - k = (m - (k + 1)) + 1 by omega, pl3, if_pos h]
theorem pl3_on {L : Nat → Nat} {S : Nat → Nat → Stp} {m k : Nat} (hk : k < m) (h : (ins (S k) 0 (L k) 0 false).1 = 0) : pl3 L S (m - k) k = pl3 L S (m - (k + 1)) (k + 1) := by
  rw [show m - k = (m - (k + 1)) + 1 by omega, pl3, if_neg (by simpa using h)]

theorem pl2in_all {ok : Nat → Bool} : ∀ r i, pl2in ok r i = none → ∀ j, i ≤ j → j < i + r → ok j = true
  | 0, i, _, j, h1, h2 => by omega
  | r + 1, i, h, j, h1, h2 => by
    unfold pl2in at h
    by_cases hi : ok i = true
    · rw [if_pos hi] at h
      by_cases e : j = i
      · rw [e]; exact hi
      · exact pl2in_all r (i + 1) h j (by omega) (by omega)
    · rw [if_neg hi] at h; cases h
theorem pl2_all {M : Nat} {L : Nat → Nat} {S : Nat → Nat → Stp} : ∀ r i, pl2 M L S r i = none → ∀ k, i ≤ k → k < i + r → ∀ j, j < L k → shp M (S k j) = true
  | 0, i, _, k, h1, h2 => by omega
  | r + 1, i, h, k, h1, h2 => by
    intro j hj
    unfold pl2 at h
    cases hp : pl2in (fun j => shp M (S i j)) (L i) 0 with
    | some x => rw [hp] at h; cases h
    | none =>
      rw [hp] at h
      by_cases e : k = i
      · subst e; exact pl2in_all (ok := fun j => shp M (S k j)) _ _ hp j (by omega) (by omega)
      · exact pl2_all r (i + 1) h k (by omega) (by omega) j hj

theorem shp_good {m : Nat} {s : Stp} (h : shp m s = true) : Good s := by
  obtain ⟨o, a, b, n, z⟩ := s
  unfold Good
  simp only []
  rcases op_cases o with rfl | rfl | rfl | rfl | rfl | rfl | rfl | rfl | rfl | rfl | rfl | rfl | rfl | rfl | rfl | hx | hx
  iterate 15 · (simp [shp] at h; simp [headB]; omega)
  · rw [shp_other _ _ _ _ _ _ (.inl hx)] at h; cases h
  · rw [shp_other _ _ _ _ _ _ (.inr hx)] at h; cases h

/-- The world in which PlanOk begins: the plan boxed, the result's cells laid. -/
theorem start_facts {w wr : World} {v : Value} {tp tf : TypeId} (hb : Below (w.heap.size + 2) ((w.alloc (.cells #[v] tp)).alloc (.cells #[.int .i64 0, .int .i64 0, .int .i64 0] tf)) wr) :
    Below w.heap.size w wr ∧ wr.cell? ⟨w.heap.size, 0, none⟩ = some v ∧ wr.cell? ⟨w.heap.size + 1, 0, none⟩ = some (.int .i64 0) ∧ wr.cell? ⟨w.heap.size + 1, 1, none⟩ = some (.int .i64 0) ∧ wr.cell? ⟨w.heap.size + 1, 2, none⟩ = some (.int .i64 0) ∧
    (∀ f, wr.frozen? ⟨w.heap.size + 1, f, none⟩ = false) ∧ w.heap.size + 1 < wr.heap.size := by
  refine ⟨(bel_alloc (bel_one _ _) _).trans (hb.mono (by omega)), ?_, ?_, ?_, ?_, fun f => ?_, by have := hb.size; simp at this; omega⟩
  · exact (hb.cell (by simp)).trans (by simp)
  · exact (hb.cell (by simp)).trans (by simp)
  · exact (hb.cell (by simp)).trans (by simp)
  · exact (hb.cell (by simp)).trans (by simp)
  · exact (hb.frozen (by simp)).trans (by simp)

end Go.Proofs.YtkoccaheckkbdaaDoor
