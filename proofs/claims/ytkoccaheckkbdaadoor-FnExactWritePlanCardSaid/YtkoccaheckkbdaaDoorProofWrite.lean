/- The law FnExactWritePlan: its row, and its tied card. -/
import Derived.Test.YtkoccaheckkbdaaDoorProofOk
import Derived.Test.YtkoccaheckkbdaaDoorLawWrite
import Derived.Test.YtkoccaheckkbdaaDoorTableW
namespace Go.Proofs.YtkoccaheckkbdaaDoor
open Go.ChangeShapes Go.WideShapes Go.ChangeAt Go.RowKit

/-- Of two named variables nothing has turned. -/
theorem vars_kept {H : Type} {enc : TypeId × Value → H} {P : Program} {W W' : World} {n n1 : String} {g g1 : Nat} {t t1 : TypeId} {cs cs1 : Array Value} {fuel fuel1 : Nat} {d d1 : DataW H} {p p1 : List MemPlace} (hl : laidOutB P = true)
    (hr : P.readableRec t = true) (hrow : t < P.types.size) (hg : P.globalNamed n = some g) (hty : (P.globals[g]?).map (·.type) = some t) (hv : W.var? P n = some cs) (htr : DataW.trod enc P W 0 (fun _ => true) true fuel t cs.toList = some (d, p))
    (hr1 : P.readableRec t1 = true) (hrow1 : t1 < P.types.size) (hg1 : P.globalNamed n1 = some g1) (hty1 : (P.globals[g1]?).map (·.type) = some t1) (hv1 : W.var? P n1 = some cs1) (htr1 : DataW.trod enc P W 0 (fun _ => true) true fuel1 t1 cs1.toList = some (d1, p1))
    (hb : Below W.heap.size W W') (hg0 : g < W.heap.size) (hg10 : g1 < W.heap.size) (hlt : ∀ x ∈ p, x.block < W.heap.size) (hlt1 : ∀ x ∈ p1, x.block < W.heap.size) :
    DataW.TrodVars enc P W' (fun b => decide (b < W.heap.size)) [n, n1] [d, d1] (MemPlace.row ⟨g, 0, none⟩ cs.size ++ p ++ (MemPlace.row ⟨g1, 0, none⟩ cs1.size ++ p1)) := by
  obtain ⟨f', h'⟩ := Below.trod (v := .agg cs) hl hr hrow ⟨fuel, by simpa [Value.cells] using htr⟩ hb hlt
  exact ⟨g, t, cs, f', p, _, hg, hty, var?_below hb hg hg0 hv, by simpa [Value.cells] using h', var_kept hl hr1 hrow1 hg1 hty1 hv1 htr1 hb hg10 hlt1, rfl⟩

set_option maxRecDepth 100000 in
/-- What the walk gives, for every argument and every world that holds the table. -/
theorem contractW (H : Type) (enc : TypeId × Value → H) (W : World) (base : Nat) (args : Array Value) (ds gs : List (DataW H)) (before : List MemPlace)
    (hval : ∀ (j : Nat) t v, Tryd.f4.params[j]? = some t → args[j]? = some v → Value.okWide Tryd.prog W .any base t v)
    (hW : DataW.Whole enc Tryd.prog Tryd.f4.params.toList Rows.fnExactWritePlanSpec.vars false W args.toList ds gs before) (htab : Tab W) (hT : Tabs W.heap.size W) :
    Calls Tryd.prog 4 args W fun e W' => ∃ v, e = .returned v ∧ Rows.fnExactWritePlanSpec.post enc Tryd.prog Tryd.f4 false true false false W args v W' := by
  have hW' := hW
  obtain ⟨p, q, hA0, hV, rfl, hfz, hnd⟩ := hW
  have hA : DataW.TrodAll enc Tryd.prog W 0 (fun _ => true) true Tryd.f4.params.toList args.toList ds p := hA0
  rw [Tryd.params4] at hA hval
  obtain ⟨v0, vs0, d0, ds0, p0, q0, hargs, rfl, rfl, h0, r0⟩ := trodAll_cons hA
  obtain ⟨rfl, rfl, rfl⟩ := trodAll_nil r0
  obtain rfl : args = #[v0] := by cases args; simp_all
  obtain ⟨g, t, cs, fuel, d1, p1, g', t', cs', fuel', d2, p2, rfl, hg, hty, hvar, htr, hg', hty', hvar', htr', rfl⟩ := trodVars_two hV
  obtain ⟨ao, m, cap, A, L, C, S, rfl, hm, hL, hp, hfit⟩ := plan_of_trod (hval 0 24 v0 rfl rfl) h0
  clear hA0
  have hlt := hW'.lt
  refine (lawWrite_any ao m cap A L C S W hp hm hL hfit htab hT).mono fun e W' ⟨he, hb⟩ => ?_
  subst he
  have eg : g = 0 := by rw [named_table] at hg; exact (Option.some.inj hg).symm
  have et : t = 75 := by subst eg; rw [type_table] at hty; exact (Option.some.inj hty).symm
  have eg' : g' = 1 := by rw [named_names] at hg'; exact (Option.some.inj hg').symm
  have et' : t' = 104 := by subst eg'; rw [type_names] at hty'; exact (Option.some.inj hty').symm
  subst eg et eg' et'
  refine ⟨_, rfl, _, _, _, [], p0 ++ [], MemPlace.row ⟨0, 0, none⟩ cs.size ++ p1 ++ (MemPlace.row ⟨1, 0, none⟩ cs'.size ++ p2), hW', ?_, ?_, ?_, hb.frame _, fun h => by cases h⟩
  · exact trodAll_cons_mk (p := []) (p' := []) (shut_bool Tryd.underlying4 _) trodAll_mk0
  · exact trodAll_cons_mk (Below.trod laidOut (by kernel_rfl) (of_decide_eq_true (by kernel_rfl)) h0 hb (fun x hx => hlt x (by simp [hx]))) trodAll_mk0
  · exact vars_kept laidOut (by kernel_rfl) (of_decide_eq_true (by kernel_rfl)) hg hty hvar htr (by kernel_rfl) (of_decide_eq_true (by kernel_rfl)) hg' hty' hvar' htr' hb htab.1 hT.1.1 (fun x hx => hlt x (by simp [hx])) (fun x hx => hlt x (by simp [hx]))

/-- The cells of a row of numbers or of strings. -/
def litV : DataW Unit → Value
  | .lit (.int k z) => .int k z
  | .lit (.string b) => .string ⟨b.toArray⟩
  | _ => .nilIface
def rowV : DataW Unit → Array Value
  | .agg l => (l.map litV).toArray
  | _ => #[]
/-- The world with a variable's cells laid. -/
def withVar (g : Nat) (cs : Array Value) (w : World) : World :=
  { w with heap := w.heap.modify g fun
      | .cells _ t frozen => .cells cs t frozen
      | o => o }
/-- A world for the witness: the tables hold what their initialisers lay. -/
def withTabs (w : World) : World :=
  withVar 4 (rowV Rows.laid_math_bits_deBruijn32tab) (withVar 5 (rowV Rows.laid_math_bits_deBruijn64tab) (withVar 2 (rowV Rows.laid_internal_strconv_uint64pow10) (withVar 1 (rowV Rows.laid_loop_example_thread_impl_names) (withTab w))))
theorem laid_metW (os : Os) : laidMet Tryd.prog Rows.fnExactWritePlanRow.laid ((withTabs (World.holding Tryd.prog os ⟨#[], #[], []⟩)).forCall (fun _ _ => 0) ⟨#[], #[.agg #[.slice none 0 0]], []⟩).memory :=
  laidMet_of_run' 8 (by kernel_rfl) (by kernel_rfl)
theorem readsW (os : Os) {H : Type} (enc : TypeId × Value → H) : ∃ places, DataW.whole enc Tryd.prog ((withTabs (World.holding Tryd.prog os ⟨#[], #[], []⟩)).forCall (fun _ _ => 0) ⟨#[], #[.agg #[.slice none 0 0]], []⟩).memory Tryd.f4.params.toList Rows.fnExactWritePlanSpec.vars false #[Value.agg #[.slice none 0 0]].toList 8 = some ([.agg [.nil]], [Rows.laid_loop_example_thread_impl_shapes, Rows.laid_loop_example_thread_impl_names], places) :=
  ⟨MemPlace.row ⟨0, 0, none⟩ 80 ++ MemPlace.row ⟨1, 0, none⟩ 16, by kernel_rfl⟩

set_option maxRecDepth 100000 in
theorem liftedW (os : Os) (started : os.Started) (H : Type) (enc : TypeId × Value → H) (F : Stop.Interp) :
    ReturnsInHanded {} Tryd.checked os 4 .any ((OpenSpec.ofChange Rows.fnExactWritePlanSpec).preRow enc Tryd.prog Tryd.f4 Rows.fnExactWritePlanRow.domain false Rows.fnExactWritePlanRow.laid) (((OpenSpec.ofChange Rows.fnExactWritePlanSpec).at F).post enc Tryd.prog Tryd.f4 false true false false) := by
  obtain ⟨places, hx⟩ := readsW os enc
  refine returnsInHanded_of_row (C := Tryd.checked) (s := OpenSpec.ofChange Rows.fnExactWritePlanSpec) own started (by kernel_rfl) Tryd.func4
    (witness_row_at (enc := enc) (C := Tryd.checked) false (withTabs (World.holding Tryd.prog os ⟨#[], #[], []⟩)) #[.agg #[.slice none 0 0]] rfl (by kernel_rfl) (by kernel_rfl) (by kernel_rfl)
      (OpenSpec.preRow_of_cond 8 hx (by kernel_rfl) (fun k hk => by cases hk) (by kernel_rfl) (laid_metW os))) ?_
  intro W base args ds gs before hval hW _ _ _ hL _ _
  exact contractW H enc W base args ds gs before hval hW (tab_of_laid (l := Rows.fnExactWritePlanRow.laid) hL (.tail _ (.tail _ (.tail _ (.head _))))) (tabs_of_laid (l := Rows.fnExactWritePlanRow.laid) hL (.tail _ (.tail _ (.tail _ (.tail _ (.head _))))) (.tail _ (.tail _ (.head _))))

theorem saidW : Rows.FnExactWritePlanSaid :=
  OpenClaim.holds_of_cond 4 Tryd.f4 rfl rfl rfl rfl rfl rfl rfl ⟨rfl, rfl, rfl, rfl, rfl⟩ rfl rfl rfl rfl rfl (by kernel_rfl) Tryd.func4 (by kernel_rfl)
    (of_decide_eq_true (by kernel_rfl)) (by unfold Func.isWrapper; first | (rw [if_pos (by decide +kernel)]; kernel_rfl) | (rw [if_neg (by decide +kernel)]; exact ⟨rfl, rfl⟩))
    (fun os started H enc _ F => by rw [OpenClaim.pre_eq_preRow]; exact liftedW os started H enc F)

theorem plainW (f : FuncId) (fn : Func) (hf : Tryd.pinned.checked.prog.funcNamed "loop.example/thread/laws.FnExactWritePlan" = some f) (hfn : Tryd.pinned.checked.prog.funcs[f]? = some fn) :
    true = Tryd.pinned.checked.prog.looks [] ∧ ∀ (j : Nat) t, fn.params[j]? = some t → Tryd.pinned.checked.prog.wantsStandIn t = false := by
  obtain rfl : f = 4 := Option.some.inj ((show Tryd.prog.funcNamed "loop.example/thread/laws.FnExactWritePlan" = some 4 by kernel_rfl).symm.trans hf) |>.symm
  obtain rfl : fn = Tryd.f4 := (Option.some.inj (Tryd.func4.symm.trans hfn)).symm
  refine ⟨by kernel_rfl, fun j t ht => ?_⟩
  rw [Tryd.params4] at ht
  obtain rfl : t = 24 := by simpa using Array.mem_of_getElem? ht
  exact (show Tryd.prog.wantsStandIn 24 = false by kernel_rfl)

theorem fnExactWritePlan_card : Rows.FnExactWritePlanCardSaid :=
  tied_card .later _ _ _ _ _ saidW (by kernel_rfl) fnExactWritePlan_row_tie rfl ⟨rfl, rfl⟩ (by kernel_rfl) rfl plainW (by kernel_rfl)

end Go.Proofs.YtkoccaheckkbdaaDoor
