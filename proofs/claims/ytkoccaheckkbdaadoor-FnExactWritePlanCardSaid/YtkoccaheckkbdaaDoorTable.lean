/- The table of shapes: from its reading to its cells. -/
import Derived.Test.YtkoccaheckkbdaaDoorOpen
namespace Go.Proofs.YtkoccaheckkbdaaDoor
open Go.RowKit Go.Deep Go.ChangeShapes Go.WideShapes

theorem cells_table : Tryd.prog.cellsOf 75 = 80 := by kernel_rfl
theorem named_table : Tryd.prog.globalNamed "loop.example/thread/impl.shapes" = some 0 := by kernel_rfl
theorem type_table : (Tryd.prog.globals[0]?).map (·.type) = some 75 := by kernel_rfl

theorem five (l : List Value) (n : Nat) : l.drop n = (l.drop n).take 5 ++ l.drop (n + 5) := by
  have h := (List.take_append_drop 5 (l.drop n)).symm
  rwa [List.drop_drop] at h

set_option maxRecDepth 100000 in
set_option maxHeartbeats 1000000 in
theorem table_cells {H : Type} {enc : TypeId × Value → H} {w : World} {spare : Nat → Bool} {held : Bool} {fuel : Nat} {l : List Value} {p : List MemPlace}
    (h : DataW.trod enc Tryd.prog w 0 spare held fuel 75 l = some (Rows.laid_loop_example_thread_impl_shapes, p)) : l = tab := by
  obtain ⟨xs, m, _, hx, hlen, hxl, hf⟩ := DataW.trod_array Tryd.underlying75 h
  rw [cells_table] at hlen
  rw [cells_shape] at hf
  match xs, hxl with
  | [y0, y1, y2, y3, y4, y5, y6, y7, y8, y9, y10, y11, y12, y13, y14, y15], _ =>
    simp only [Rows.laid_loop_example_thread_impl_shapes, Prod.mk.injEq, List.map_cons, List.map_nil, DataW.agg.injEq, List.cons.injEq, and_true] at hx
    obtain ⟨⟨e0, e1, e2, e3, e4, e5, e6, e7, e8, e9, e10, e11, e12, e13, e14, e15⟩, _⟩ := hx
    have g0 : (l.drop 0).take 5 = [.int .i64 0, .int .i64 0, .bool false, .bool false, .bool false] := shape_cells (p := y0.2) ((hf 0 (by omega)).trans (congrArg some (Prod.ext e0.symm rfl)))
    have g1 : (l.drop 5).take 5 = [.int .i64 3, .int .i64 0, .bool false, .bool true, .bool false] := shape_cells (p := y1.2) ((hf 1 (by omega)).trans (congrArg some (Prod.ext e1.symm rfl)))
    have g2 : (l.drop 10).take 5 = [.int .i64 3, .int .i64 3, .bool false, .bool true, .bool false] := shape_cells (p := y2.2) ((hf 2 (by omega)).trans (congrArg some (Prod.ext e2.symm rfl)))
    have g3 : (l.drop 15).take 5 = [.int .i64 3, .int .i64 0, .bool false, .bool false, .bool false] := shape_cells (p := y3.2) ((hf 3 (by omega)).trans (congrArg some (Prod.ext e3.symm rfl)))
    have g4 : (l.drop 20).take 5 = [.int .i64 3, .int .i64 0, .bool true, .bool false, .bool false] := shape_cells (p := y4.2) ((hf 4 (by omega)).trans (congrArg some (Prod.ext e4.symm rfl)))
    have g5 : (l.drop 25).take 5 = [.int .i64 3, .int .i64 3, .bool false, .bool false, .bool false] := shape_cells (p := y5.2) ((hf 5 (by omega)).trans (congrArg some (Prod.ext e5.symm rfl)))
    have g6 : (l.drop 30).take 5 = [.int .i64 3, .int .i64 0, .bool false, .bool false, .bool false] := shape_cells (p := y6.2) ((hf 6 (by omega)).trans (congrArg some (Prod.ext e6.symm rfl)))
    have g7 : (l.drop 35).take 5 = [.int .i64 3, .int .i64 3, .bool false, .bool false, .bool false] := shape_cells (p := y7.2) ((hf 7 (by omega)).trans (congrArg some (Prod.ext e7.symm rfl)))
    have g8 : (l.drop 40).take 5 = [.int .i64 3, .int .i64 3, .bool false, .bool false, .bool false] := shape_cells (p := y8.2) ((hf 8 (by omega)).trans (congrArg some (Prod.ext e8.symm rfl)))
    have g9 : (l.drop 45).take 5 = [.int .i64 3, .int .i64 0, .bool false, .bool false, .bool false] := shape_cells (p := y9.2) ((hf 9 (by omega)).trans (congrArg some (Prod.ext e9.symm rfl)))
    have g10 : (l.drop 50).take 5 = [.int .i64 3, .int .i64 0, .bool false, .bool false, .bool false] := shape_cells (p := y10.2) ((hf 10 (by omega)).trans (congrArg some (Prod.ext e10.symm rfl)))
    have g11 : (l.drop 55).take 5 = [.int .i64 3, .int .i64 0, .bool false, .bool false, .bool true] := shape_cells (p := y11.2) ((hf 11 (by omega)).trans (congrArg some (Prod.ext e11.symm rfl)))
    have g12 : (l.drop 60).take 5 = [.int .i64 0, .int .i64 0, .bool false, .bool false, .bool true] := shape_cells (p := y12.2) ((hf 12 (by omega)).trans (congrArg some (Prod.ext e12.symm rfl)))
    have g13 : (l.drop 65).take 5 = [.int .i64 0, .int .i64 0, .bool false, .bool false, .bool true] := shape_cells (p := y13.2) ((hf 13 (by omega)).trans (congrArg some (Prod.ext e13.symm rfl)))
    have g14 : (l.drop 70).take 5 = [.int .i64 3, .int .i64 0, .bool false, .bool false, .bool true] := shape_cells (p := y14.2) ((hf 14 (by omega)).trans (congrArg some (Prod.ext e14.symm rfl)))
    have g15 : (l.drop 75).take 5 = [.int .i64 3, .int .i64 0, .bool false, .bool false, .bool true] := shape_cells (p := y15.2) ((hf 15 (by omega)).trans (congrArg some (Prod.ext e15.symm rfl)))
    have e : l = l.drop 0 := rfl
    rw [e]
    rw [five l 0, g0]
    rw [five l 5, g1]
    rw [five l 10, g2]
    rw [five l 15, g3]
    rw [five l 20, g4]
    rw [five l 25, g5]
    rw [five l 30, g6]
    rw [five l 35, g7]
    rw [five l 40, g8]
    rw [five l 45, g9]
    rw [five l 50, g10]
    rw [five l 55, g11]
    rw [five l 60, g12]
    rw [five l 65, g13]
    rw [five l 70, g14]
    rw [five l 75, g15]
    rw [List.drop_eq_nil_of_le (by omega)]
    rfl

theorem tab_of_vars {W : World} {l : List (String × DataW Unit)} (hm : ("loop.example/thread/impl.shapes", Rows.laid_loop_example_thread_impl_shapes) ∈ l) (ps : List MemPlace) (hv : DataW.LaidVars Tryd.prog W l ps) : Tab W := by
  induction l generalizing ps with
  | nil => cases hm
  | cons x r ih =>
    obtain ⟨n, d⟩ := x
    obtain ⟨g, t, cs, fuel, p, q, h1, h2, h3, h4, h5, _⟩ := hv
    rcases List.mem_cons.1 hm with e | e
    · simp only [Prod.mk.injEq] at e
      obtain ⟨rfl, rfl⟩ := e
      rw [named_table] at h1
      obtain rfl : 0 = g := Option.some.inj h1
      rw [type_table] at h2
      obtain rfl : 75 = t := Option.some.inj h2
      have hc := table_cells h4
      have hcell := World.var?_cell named_table h3
      refine ⟨?_, fun i _ => ?_⟩
      · have : W.cell? ⟨0, 0, none⟩ = some (.int .i64 0) := by rw [hcell, ← Array.getElem?_toList, hc]; rfl
        exact World.block_lt_of_cell? _ _ this
      · rw [hcell, ← Array.getElem?_toList, hc]
    · exact ih e q h5

theorem tab_of_laid {W : World} {l : List (String × DataW Unit)} (h : laidMet Tryd.prog l W) (hm : ("loop.example/thread/impl.shapes", Rows.laid_loop_example_thread_impl_shapes) ∈ l) : Tab W :=
  let ⟨ps, hv, _⟩ := h
  tab_of_vars hm ps hv

end Go.Proofs.YtkoccaheckkbdaaDoor
