/- The tables of names and of tens: from their readings to their cells. -/
import Derived.Test.YtkoccaheckkbdaaDoorTable
import Derived.Test.YtkoccaheckkbdaaDoorNodeA
import Derived.Lib.LaidTab
namespace Go.Proofs.YtkoccaheckkbdaaDoor
open Go.RowKit Go.Deep Go.ChangeShapes Go.WideShapes

/-- What the table of names holds. -/
def nameTab : List (List UInt8) := [[], nameL 1, nameL 2, nameL 3, nameL 4, nameL 5, nameL 6, nameL 7, nameL 8, nameL 9, nameL 10, nameL 11, nameL 12, nameL 13, nameL 14, nameL 15]
theorem laid_names {H : Type} : (Rows.laid_loop_example_thread_impl_names : DataW H) = .agg (nameTab.map fun l => .lit (.string l)) := rfl
theorem cells_string : Tryd.prog.cellsOf 9 = 1 := by kernel_rfl
theorem named_names : Tryd.prog.globalNamed "loop.example/thread/impl.names" = some 1 := by kernel_rfl
theorem type_names : (Tryd.prog.globals[1]?).map (·.type) = some 104 := by kernel_rfl
theorem named_tens : ∃ g, Tryd.prog.globalNamed "internal/strconv.uint64pow10" = some g ∧ (Tryd.prog.globals[g]?).map (·.type) = some 147 := ⟨2, by kernel_rfl, by kernel_rfl⟩
theorem laid_tens {H : Type} : (Rows.laid_internal_strconv_uint64pow10 : DataW H) = Lib.tabData .u64 Lib.pow10Tab := rfl

set_option maxRecDepth 100000 in
theorem names_cells {H : Type} {enc : TypeId × Value → H} {w : World} {spare : Nat → Bool} {held : Bool} {fuel : Nat} {l : List Value} {p : List MemPlace}
    (h : DataW.trod enc Tryd.prog w 0 spare held fuel 104 l = some (Rows.laid_loop_example_thread_impl_names, p)) (i : Nat) (hi : i < 16) : ∃ b, nameTab[i]? = some b ∧ l[i]? = some (.string (str b)) := by
  rw [laid_names] at h
  obtain ⟨xs, m, _, hx, hlen, hxl, hf⟩ := DataW.trod_array Tryd.underlying104 h
  have h1 := hf i hi
  rw [cells_string, Nat.mul_one] at h1
  rw [List.getElem?_eq_getElem (by omega)] at h1
  obtain ⟨s, hs, hx2, _⟩ := DataW.trod_string Tryd.underlying9 h1
  have h3 : nameTab.map (fun l => (DataW.lit (.string l) : DataW H)) = xs.map (·.1) := by
    have := congrArg Prod.fst hx
    simpa using this
  have h4 := congrArg (·[i]?) h3
  simp only [List.getElem?_map] at h4
  rw [List.getElem?_eq_getElem (l := xs) (by omega), hx2] at h4
  cases hb : nameTab[i]? with
  | none => rw [hb] at h4; simp at h4
  | some b =>
    rw [hb] at h4
    simp at h4
    refine ⟨b, rfl, ?_⟩
    have h5 : l[i]? = some (.string s) := by
      have := congrArg (·[0]?) hs
      simpa [List.getElem?_take, List.getElem?_drop] using this
    rw [h5, h4]
    rfl

theorem laid_at {W : World} {n : String} {d : DataW Unit} : ∀ {l : List (String × DataW Unit)} (ps : List MemPlace), (n, d) ∈ l → DataW.LaidVars Tryd.prog W l ps →
    ∃ g t cs fuel p, Tryd.prog.globalNamed n = some g ∧ (Tryd.prog.globals[g]?).map (·.type) = some t ∧ W.var? Tryd.prog n = some cs ∧ DataW.trod (fun _ => ()) Tryd.prog W 0 (fun _ => true) false fuel t cs.toList = some (d, p)
  | [], _, hm, _ => by cases hm
  | x :: r, ps, hm, hv => by
    obtain ⟨n', d'⟩ := x
    obtain ⟨g, t, cs, fuel, p, q, h1, h2, h3, h4, h5, _⟩ := hv
    rcases List.mem_cons.1 hm with e | e
    · simp only [Prod.mk.injEq] at e
      obtain ⟨rfl, rfl⟩ := e
      exact ⟨g, t, cs, fuel, p, h1, h2, h3, h4⟩
    · exact laid_at q e h5

theorem tabs_of_laid {W : World} {l : List (String × DataW Unit)} (h : laidMet Tryd.prog l W) (hm : ("loop.example/thread/impl.names", Rows.laid_loop_example_thread_impl_names) ∈ l) (ht : ("internal/strconv.uint64pow10", Rows.laid_internal_strconv_uint64pow10) ∈ l) : Tabs W.heap.size W := by
  obtain ⟨ps, hv, _⟩ := h
  have hN : ∀ i, i < 16 → ∃ b, nameTab[i]? = some b ∧ W.cell? ⟨1, i, none⟩ = some (.string (str b)) := by
    obtain ⟨g, t, cs, fuel, p, h1, h2, h3, h4⟩ := laid_at ps hm hv
    rw [named_names] at h1
    obtain rfl : 1 = g := Option.some.inj h1
    rw [type_names] at h2
    obtain rfl : 104 = t := Option.some.inj h2
    intro i hi
    obtain ⟨b, hb, hc⟩ := names_cells h4 i hi
    refine ⟨b, hb, ?_⟩
    rw [World.var?_cell named_names h3, ← Array.getElem?_toList, hc]
  have h1 : 1 < W.heap.size := by
    obtain ⟨b, _, hc⟩ := hN 0 (by decide)
    exact World.block_lt_of_cell? _ _ hc
  refine ⟨⟨h1, h1⟩, fun o h5 h6 => ?_, ?_⟩
  · obtain ⟨b, hb, hc⟩ := hN o (by omega)
    rw [hc]
    have hq : nameTab[o]? = some (nameL (o : Int)) := by
      match o, h5, h6 with
      | 1, _, _ | 2, _, _ | 3, _, _ | 4, _, _ | 5, _, _ | 6, _, _ | 7, _, _ | 8, _, _ | 9, _, _ | 10, _, _ | 11, _, _ | 12, _, _ | 13, _, _ | 14, _, _ | 15, _, _ => rfl
      | n + 16, _, h => omega
    rw [hq] at hb
    rw [Option.some.inj hb]
  · refine Lib.tabBelow_of_tabIs ?_
    obtain ⟨g, t, cs, fuel, p, h1, h2, h3, h4⟩ := laid_at ps ht hv
    obtain ⟨g', e1, e2⟩ := named_tens
    rw [e1] at h1
    obtain rfl := Option.some.inj h1
    rw [e2] at h2
    obtain rfl := Option.some.inj h2
    rw [laid_tens] at h4
    have hc := Lib.cells_of_tab Tryd.underlying147 Tryd.underlying136 (by kernel_rfl) (by kernel_rfl) h4
    unfold Lib.TabIs
    rw [h3, ← hc]

end Go.Proofs.YtkoccaheckkbdaaDoor
