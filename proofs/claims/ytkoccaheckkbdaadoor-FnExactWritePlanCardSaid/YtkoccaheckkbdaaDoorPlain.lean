/-
  The plain mathematics: plans as lists by index, the document's faults, and the predicates that say how a plan lies in memory. No walk.
-/
import Derived.Test.YtkoccaheckkbdaaDoorRows
import Derived.WalkKit
import Derived.WalkSpells
import Derived.WalkLawsBesides
namespace Go.Proofs.YtkoccaheckkbdaaDoor
open Go.RowKit

/-- A step of a plan, by its five numbers. -/
structure Stp where
  op : Int
  a : Int
  b : Int
  n : Int
  size : Int

/-- The steps S 0, .., S (n - 1) lie one behind the other from the address ao on, five cells each. -/
def StepsAt (w : World) (ao : Option Addr) (n : Nat) (S : Nat → Stp) : Prop :=
  ∀ j, j < n → ∃ b off, ao = some ⟨b, off, none⟩ ∧ b < w.heap.size ∧
    w.cell? ⟨b, off + j * 5, none⟩ = some (.int .i64 (S j).op) ∧ w.cell? ⟨b, off + j * 5 + 1, none⟩ = some (.int .i64 (S j).a) ∧
    w.cell? ⟨b, off + j * 5 + 2, none⟩ = some (.int .i64 (S j).b) ∧ w.cell? ⟨b, off + j * 5 + 3, none⟩ = some (.int .i64 (S j).n) ∧
    w.cell? ⟨b, off + j * 5 + 4, none⟩ = some (.int .i64 (S j).size)

/-- Slices A i of L i elements lie one behind the other from ao on, one cell each. -/
def RowsAt (w : World) (ao : Option Addr) (m : Nat) (A : Nat → Option Addr) (L C : Nat → Nat) : Prop :=
  ∀ i, i < m → ∃ b off, ao = some ⟨b, off, none⟩ ∧ b < w.heap.size ∧ w.cell? ⟨b, off + i, none⟩ = some (.slice (A i) (L i) (C i))

/-- A plan in memory. -/
def PlanAt (w : World) (ao : Option Addr) (m : Nat) (A : Nat → Option Addr) (L C : Nat → Nat) (S : Nat → Nat → Stp) : Prop :=
  RowsAt w ao m A L C ∧ ∀ i, i < m → StepsAt w (A i) (L i) (S i)

theorem StepsAt.below {w w' : World} {ao : Option Addr} {n : Nat} {S : Nat → Stp} (h : StepsAt w ao n S) (hb : Below w.heap.size w w') : StepsAt w' ao n S := by
  intro j hj
  obtain ⟨b, off, e, hlt, h0, h1, h2, h3, h4⟩ := h j hj
  exact ⟨b, off, e, Nat.lt_of_lt_of_le hlt hb.size, (hb.cell hlt).trans h0, (hb.cell hlt).trans h1, (hb.cell hlt).trans h2, (hb.cell hlt).trans h3, (hb.cell hlt).trans h4⟩

theorem RowsAt.below {w w' : World} {ao : Option Addr} {m : Nat} {A : Nat → Option Addr} {L C : Nat → Nat} (h : RowsAt w ao m A L C) (hb : Below w.heap.size w w') : RowsAt w' ao m A L C := by
  intro i hi
  obtain ⟨b, off, e, hlt, h0⟩ := h i hi
  exact ⟨b, off, e, Nat.lt_of_lt_of_le hlt hb.size, (hb.cell hlt).trans h0⟩

theorem PlanAt.below {w w' : World} {ao : Option Addr} {m : Nat} {A : Nat → Option Addr} {L C : Nat → Nat} {S : Nat → Nat → Stp} (h : PlanAt w ao m A L C S) (hb : Below w.heap.size w w') : PlanAt w' ao m A L C S :=
  ⟨h.1.below hb, fun i hi => (h.2 i hi).below hb⟩

theorem bel_trans {a b c : World} (h : Below a.heap.size a b) (k : Below b.heap.size b c) : Below a.heap.size a c := h.trans (k.mono h.size)
theorem bel_alloc {a b : World} (h : Below a.heap.size a b) (o : Obj) : Below a.heap.size a (b.alloc o) := h.alloc h.size o
theorem bel_one (a : World) (o : Obj) : Below a.heap.size a (a.alloc o) := bel_alloc (Below.refl _ _) o

theorem bcell {W w1 : World} (hb : Below W.heap.size W w1) : (∀ b o, b < W.heap.size → w1.cell? ⟨b, o, none⟩ = W.cell? ⟨b, o, none⟩) ∧ (∀ b o, b < W.heap.size → w1.frozen? ⟨b, o, none⟩ = W.frozen? ⟨b, o, none⟩) :=
  ⟨fun b o h => hb.cell (p := ⟨b, o, none⟩) h, fun b o h => hb.frozen (p := ⟨b, o, none⟩) h⟩

theorem ret_int {k : IntKind} {a b : Int} (h : a = b) : Ending.returned (.int k a) = .returned (.int k b) := by rw [h]
theorem ret_bool {a b : Bool} (h : a = b) : Ending.returned (.bool a) = .returned (.bool b) := by rw [h]

/-- What is left of an allowance behind n things. -/
def szS (n : Nat) (left : Int) : Int := if left - n < 0 then -1 else left - n

/-- What is left behind the rows from i on, r of them. -/
def szRows (L : Nat → Nat) : Nat → Nat → Int → Int
  | 0, _, left => left
  | r + 1, i, left => if szS (L i) left < 0 then -1 else szRows L r (i + 1) (szS (L i) left)

/-- What is left behind a plan. -/
def szP (m : Nat) (L : Nat → Nat) (left : Int) : Int := if szS m left < 0 then -1 else szRows L m 0 (szS m left)

theorem szS_le (n : Nat) (left : Int) (h : -1 ≤ left) : szS n left ≤ left ∧ -1 ≤ szS n left := by unfold szS; split <;> omega
theorem szRows_le (L : Nat → Nat) : ∀ r i left, -1 ≤ left → szRows L r i left ≤ left ∧ -1 ≤ szRows L r i left
  | 0, _, left, h => ⟨Int.le_refl _, h⟩
  | r + 1, i, left, h => by
    have h1 := szS_le (L i) left h
    unfold szRows
    split
    · omega
    · have := szRows_le L r (i + 1) (szS (L i) left) h1.2
      omega

theorem szP_le (m : Nat) (L : Nat → Nat) (left : Int) (h : -1 ≤ left) : szP m L left ≤ left ∧ -1 ≤ szP m L left := by
  have h1 := szS_le m left h
  unfold szP
  split
  · omega
  · have := szRows_le L m 0 (szS m left) h1.2
    omega

end Go.Proofs.YtkoccaheckkbdaaDoor
