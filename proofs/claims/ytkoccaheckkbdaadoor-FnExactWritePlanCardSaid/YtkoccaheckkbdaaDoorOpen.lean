/- From a reading of the law's argument to a plan in memory; from the row's list to the table of shapes. -/
import Derived.Test.YtkoccaheckkbdaaDoorShapeImpl
import Derived.Test.YtkoccaheckkbdaaDoorText
import Derived.ProofKit
import Derived.OpenShut
import Derived.Deep.Slices
namespace Go.Proofs.YtkoccaheckkbdaaDoor
open Go.RowKit Go.Deep Go.ChangeShapes Go.WideShapes

theorem cells_129 : Tryd.prog.cellsOf 129 = 5 := by kernel_rfl
theorem cells_70 : Tryd.prog.cellsOf 70 = 1 := by kernel_rfl
theorem cells_24 : Tryd.prog.cellsOf 24 = 1 := by kernel_rfl
theorem cells_int : Tryd.prog.cellsOf 3 = 1 := by kernel_rfl
theorem cells_int64 : Tryd.prog.cellsOf 2 = 1 := by kernel_rfl
theorem cells_bool : Tryd.prog.cellsOf 4 = 1 := by kernel_rfl
theorem cells_rows : Tryd.prog.cellsOf 22 = 1 := by kernel_rfl
theorem cells_steps : Tryd.prog.cellsOf 68 = 1 := by kernel_rfl
theorem cells_shape : Tryd.prog.cellsOf 74 = 5 := by kernel_rfl

/-- Some step. -/
def noStp : Stp := ⟨0, 0, 0, 0, 0⟩

theorem spot_none {w : World} {a : Addr} {v : Value} (h : w.cell? a = some v) : a.spot = none := by
  cases hs : a.spot with
  | none => rfl
  | some s =>
    unfold World.cell? at h
    simp [hs] at h
    split at h <;> cases h

theorem add_none (b o n : Nat) : (⟨b, o, none⟩ : Addr).add n = ⟨b, o + n, none⟩ := by
  unfold Addr.add
  split
  · rename_i h; rw [h]; rfl
  · rfl
theorem add_zero (a : Addr) : a.add 0 = a := by unfold Addr.add; rw [if_pos rfl]

theorem wf_int {z : Int} (h : (Lit.int .i64 z).wf = true) : -9223372036854775808 ≤ z ∧ z ≤ 9223372036854775807 := by
  have e0 : IntKind.i64.min = -9223372036854775808 := by decide
  have e1 : IntKind.i64.max = 9223372036854775807 := by decide
  simp only [Lit.wf, e0, e1] at h
  simpa using h

section
variable {H : Type} {enc : TypeId × Value → H} {w : World} {spare : Nat → Bool} {held : Bool}

set_option maxRecDepth 100000 in
theorem steps_of_trod {fuel : Nat} {v : Value} {x : DataW H × List MemPlace} (h : DataW.trod enc Tryd.prog w 0 (fun _ => true) held fuel 68 [v] = some x) :
    ∃ ao n cap S, v = .slice ao n cap ∧ n ≤ maxLen ∧ StepsAt w ao n S ∧ ∀ j, j < n → Fit (S j) := by
  rcases open_slice Tryd.underlying68 h with ⟨hcs, _⟩ | ⟨a, len, cap, m, n, D, Pl, hcs, _, hl, hm, hmm, _, hx⟩
  · simp at hcs
    exact ⟨none, 0, 0, fun _ => noStp, hcs, by decide, fun j hj => absurd hj (by omega), fun j hj => absurd hj (by omega)⟩
  · simp at hcs
    simp only [if_true] at hmm
    subst hmm
    by_cases hl0 : len = 0
    · exact ⟨some a, len, m, fun _ => noStp, hcs, by omega, fun j hj => absurd hj (by omega), fun j hj => absurd hj (by omega)⟩
    have hsp : a.spot = none := by
      obtain ⟨cs', h1, _⟩ := hx 0 (by omega)
      rw [cells_129] at h1
      obtain ⟨_, hlen, hcell⟩ := World.cells?_some h1
      have c0 := hcell 0 (by omega)
      rw [Nat.zero_mul, add_zero, add_zero, List.getElem?_eq_getElem (by omega)] at c0
      exact spot_none c0
    obtain ⟨ab, ao, sp⟩ := a
    simp only at hsp
    subst hsp
    have each : ∀ j, j < len → ∃ s : Stp, w.cell? ⟨ab, ao + j * 5, none⟩ = some (.int .i64 s.op) ∧ w.cell? ⟨ab, ao + j * 5 + 1, none⟩ = some (.int .i64 s.a) ∧
        w.cell? ⟨ab, ao + j * 5 + 2, none⟩ = some (.int .i64 s.b) ∧ w.cell? ⟨ab, ao + j * 5 + 3, none⟩ = some (.int .i64 s.n) ∧ w.cell? ⟨ab, ao + j * 5 + 4, none⟩ = some (.int .i64 s.size) ∧ Fit s := by
      intro j hj
      obtain ⟨cs', h1, h2⟩ := hx j (by omega)
      rw [cells_129] at h1
      obtain ⟨_, hlen, hcell⟩ := World.cells?_some h1
      obtain ⟨xs, k, _, _, _, hxl, hf⟩ := DataW.trod_struct Tryd.underlying129 h2
      match xs, hxl, cs', hlen with
      | [y0, y1, y2, y3, y4], _, [v0, v1, v2, v3, v4], _ =>
        have g0 := hf 0 _ rfl
        have g1 := hf 1 _ rfl
        have g2 := hf 2 _ rfl
        have g3 := hf 3 _ rfl
        have g4 := hf 4 _ rfl
        simp [cells_int, cells_int64] at g0 g1 g2 g3 g4
        obtain ⟨z0, e0, _, _⟩ := DataW.trod_int Tryd.underlying3 g0
        obtain ⟨z1, e1, _, f1⟩ := DataW.trod_int Tryd.underlying3 g1
        obtain ⟨z2, e2, _, f2⟩ := DataW.trod_int Tryd.underlying3 g2
        obtain ⟨z3, e3, _, f3⟩ := DataW.trod_int Tryd.underlying2 g3
        obtain ⟨z4, e4, _, _⟩ := DataW.trod_int Tryd.underlying3 g4
        simp at e0 e1 e2 e3 e4
        subst e0 e1 e2 e3 e4
        have c0 := hcell 0 (by omega)
        have c1 := hcell 1 (by omega)
        have c2 := hcell 2 (by omega)
        have c3 := hcell 3 (by omega)
        have c4 := hcell 4 (by omega)
        rw [add_none, add_none] at c0 c1 c2 c3 c4
        exact ⟨⟨z0, z1, z2, z3, z4⟩, c0, c1, c2, c3, c4, wf_int f1, wf_int f2, wf_int f3⟩
    have : Inhabited Stp := ⟨noStp⟩
    obtain ⟨S, hS⟩ := choose_lt each
    refine ⟨some ⟨ab, ao, none⟩, len, m, S, hcs, by omega, fun j hj => ?_, fun j hj => (hS j hj).2.2.2.2.2⟩
    obtain ⟨h0, h1, h2, h3, h4, _⟩ := hS j hj
    exact ⟨ab, ao, rfl, World.block_lt_of_cell? _ _ h0, h0, h1, h2, h3, h4⟩

set_option maxRecDepth 100000 in
theorem rows_of_trod {fuel : Nat} {v : Value} {x : DataW H × List MemPlace} (h : DataW.trod enc Tryd.prog w 0 (fun _ => true) held fuel 22 [v] = some x) :
    ∃ ao m cap A L C S, v = .slice ao m cap ∧ m ≤ maxLen ∧ (∀ i, i < m → L i ≤ maxLen) ∧ PlanAt w ao m A L C S ∧ ∀ i, i < m → ∀ j, j < L i → Fit (S i j) := by
  rcases open_slice1 Tryd.underlying22 cells_70 h with ⟨hcs, _⟩ | ⟨a, len, cap, m, n, V, D, Pl, hcs, _, hl, hm, hmm, _, hx⟩
  · simp at hcs
    exact ⟨none, 0, 0, fun _ => none, fun _ => 0, fun _ => 0, fun _ _ => noStp, hcs, by decide, fun i hi => absurd hi (by omega), ⟨fun i hi => absurd hi (by omega), fun i hi => absurd hi (by omega)⟩, fun i hi => absurd hi (by omega)⟩
  · simp at hcs
    simp only [if_true] at hmm
    subst hmm
    have each : ∀ i, i < len → ∃ q : Option Addr × Nat × Nat × (Nat → Stp), V i = .slice q.1 q.2.1 q.2.2.1 ∧ q.2.1 ≤ maxLen ∧ StepsAt w q.1 q.2.1 q.2.2.2 ∧ ∀ j, j < q.2.1 → Fit (q.2.2.2 j) := by
      intro i hi
      obtain ⟨_, h2⟩ := hx i (by omega)
      obtain ⟨y0, k, _, _, h3⟩ := trod_struct1 Tryd.underlying70 h2
      simp [cells_steps] at h3
      obtain ⟨ao, n, cap, S, e, hn, hs⟩ := steps_of_trod h3
      exact ⟨(ao, n, cap, S), e, hn, hs⟩
    have : Inhabited Stp := ⟨noStp⟩
    obtain ⟨q, hq⟩ := choose_lt each
    refine ⟨some a, len, m, fun i => (q i).1, fun i => (q i).2.1, fun i => (q i).2.2.1, fun i => (q i).2.2.2, hcs, by omega, fun i hi => (hq i hi).2.1, ⟨fun i hi => ?_, fun i hi => (hq i hi).2.2.1⟩, fun i hi => (hq i hi).2.2.2⟩
    obtain ⟨hc, _⟩ := hx i (by omega)
    rw [(hq i hi).1] at hc
    have hsp : a.spot = none := by
      have c0 := (hx 0 (by omega)).1
      rw [add_zero] at c0
      exact spot_none c0
    obtain ⟨ab, ao, sp⟩ := a
    simp only at hsp
    subst hsp
    rw [add_none] at hc
    exact ⟨ab, ao, rfl, World.block_lt_of_cell? _ _ hc, hc⟩

set_option maxRecDepth 100000 in
theorem plan_of_trod {r : Reach} {b0 : Nat} {v : Value} {d : DataW H} {p : List MemPlace} (hv : Value.okWide Tryd.prog w r b0 24 v) (h : DataW.Trod enc Tryd.prog w 0 (fun _ => true) held 24 v d p) :
    ∃ ao m cap A L C S, v = .agg #[.slice ao m cap] ∧ m ≤ maxLen ∧ (∀ i, i < m → L i ≤ maxLen) ∧ PlanAt w ao m A L C S ∧ ∀ i, i < m → ∀ j, j < L i → Fit (S i j) := by
  obtain ⟨cs, rfl, hsz⟩ := okWide_struct Tryd.underlying24 hv
  rw [cells_24] at hsz
  obtain ⟨fuel, hf⟩ := h
  obtain ⟨y0, k, _, _, h3⟩ := trod_struct1 Tryd.underlying24 hf
  obtain ⟨l⟩ := cs
  match l, hsz with
  | [c0], _ =>
    simp [Value.cells, cells_rows] at h3
    obtain ⟨ao, m, cap, A, L, C, S, rfl, hm, hL, hp⟩ := rows_of_trod h3
    exact ⟨ao, m, cap, A, L, C, S, rfl, hm, hL, hp⟩

set_option maxRecDepth 100000 in
/-- One shape, cell for cell. -/
theorem shape_cells {fuel : Nat} {cs : List Value} {p : List MemPlace} {a b : Int} {c d e : Bool}
    (h : DataW.trod enc Tryd.prog w 0 spare held fuel 74 cs = some (.agg [.lit (.int .i64 a), .lit (.int .i64 b), .lit (.bool c), .lit (.bool d), .lit (.bool e)], p)) :
    cs = [.int .i64 a, .int .i64 b, .bool c, .bool d, .bool e] := by
  obtain ⟨xs, k, _, hx, hlen, hxl, hf⟩ := DataW.trod_struct Tryd.underlying74 h
  rw [cells_shape] at hlen
  match xs, hxl, cs, hlen with
  | [y0, y1, y2, y3, y4], _, [v0, v1, v2, v3, v4], _ =>
    have g0 := hf 0 _ rfl
    have g1 := hf 1 _ rfl
    have g2 := hf 2 _ rfl
    have g3 := hf 3 _ rfl
    have g4 := hf 4 _ rfl
    simp [cells_int, cells_bool] at g0 g1 g2 g3 g4
    obtain ⟨z0, e0, rfl, _⟩ := DataW.trod_int Tryd.underlying3 g0
    obtain ⟨z1, e1, rfl, _⟩ := DataW.trod_int Tryd.underlying3 g1
    obtain ⟨z2, e2, rfl⟩ := DataW.trod_bool Tryd.underlying4 g2
    obtain ⟨z3, e3, rfl⟩ := DataW.trod_bool Tryd.underlying4 g3
    obtain ⟨z4, e4, rfl⟩ := DataW.trod_bool Tryd.underlying4 g4
    simp at hx e0 e1 e2 e3 e4
    obtain ⟨⟨rfl, rfl, rfl, rfl, rfl⟩, _⟩ := hx
    simp [e0, e1, e2, e3, e4]

end

end Go.Proofs.YtkoccaheckkbdaaDoor
