/- The law FnExactPlanOk: its row, and its tied card. -/
import Derived.Test.YtkoccaheckkbdaaDoorCards
import Derived.Test.YtkoccaheckkbdaaDoorTie
import Derived.Test.YtkoccaheckkbdaaDoorLawOk
import Derived.Test.YtkoccaheckkbdaaDoorTable
import Derived.WalkKit
import Derived.ProofKit
import Derived.OpenShut
import Derived.WalkSmall
import Derived.Deep.DeepHandedRow
namespace Go.Proofs.YtkoccaheckkbdaaDoor
open Go.ChangeShapes Go.WideShapes Go.ChangeAt Go.RowKit

theorem own : ownKnob Tryd.prog.godebug = none := by kernel_rfl
theorem laidOut : laidOutB Tryd.prog = true := by kernel_rfl

/-- Of a named variable nothing has turned. -/
theorem var_kept {H : Type} {enc : TypeId × Value → H} {P : Program} {W W' : World} {n : String} {g : Nat} {t : TypeId} {cs : Array Value} {fuel : Nat} {d : DataW H} {p : List MemPlace} (hl : laidOutB P = true) (hr : P.readableRec t = true) (hrow : t < P.types.size)
    (hg : P.globalNamed n = some g) (hty : (P.globals[g]?).map (·.type) = some t) (hv : W.var? P n = some cs) (htr : DataW.trod enc P W 0 (fun _ => true) true fuel t cs.toList = some (d, p)) (hb : Below W.heap.size W W')
    (hg0 : g < W.heap.size) (hlt : ∀ x ∈ p, x.block < W.heap.size) :
    DataW.TrodVars enc P W' (fun b => decide (b < W.heap.size)) [n] [d] (MemPlace.row ⟨g, 0, none⟩ cs.size ++ p) := by
  obtain ⟨f', h'⟩ := Below.trod (v := .agg cs) hl hr hrow ⟨fuel, by simpa [Value.cells] using htr⟩ hb hlt
  exact trodVars_mk1 hg hty (var?_below hb hg hg0 hv) (fuel := f') (by simpa [Value.cells] using h')

set_option maxRecDepth 100000 in
/-- What the walk gives, for every argument and every world that holds the table. -/
theorem contractOk (H : Type) (enc : TypeId × Value → H) (W : World) (base : Nat) (args : Array Value) (ds gs : List (DataW H)) (before : List MemPlace)
    (hval : ∀ (j : Nat) t v, Tryd.f3.params[j]? = some t → args[j]? = some v → Value.okWide Tryd.prog W .any base t v)
    (hW : DataW.Whole enc Tryd.prog Tryd.f3.params.toList Rows.fnExactPlanOkSpec.vars false W args.toList ds gs before) (htab : Tab W) :
    Calls Tryd.prog 3 args W fun e W' => ∃ v, e = .returned v ∧ Rows.fnExactPlanOkSpec.post enc Tryd.prog Tryd.f3 false true false false W args v W' := by
  have hW' := hW
  obtain ⟨p, q, hA0, hV, rfl, hfz, hnd⟩ := hW
  have hA : DataW.TrodAll enc Tryd.prog W 0 (fun _ => true) true Tryd.f3.params.toList args.toList ds p := hA0
  rw [Tryd.params3] at hA hval
  obtain ⟨v0, vs0, d0, ds0, p0, q0, hargs, rfl, rfl, h0, r0⟩ := trodAll_cons hA
  obtain ⟨rfl, rfl, rfl⟩ := trodAll_nil r0
  obtain rfl : args = #[v0] := by cases args; simp_all
  obtain ⟨g, t, cs, fuel, d1, p1, rfl, hg, hty, hvar, htr, rfl⟩ := trodVars_one hV
  obtain ⟨ao, m, cap, A, L, C, S, rfl, hm, hL, hp, _⟩ := plan_of_trod (hval 0 24 v0 rfl rfl) h0
  clear hA0
  have hlt := hW'.lt
  refine (lawOk_any ao m cap A L C S W hp hm hL htab).mono fun e W' ⟨he, hb⟩ => ?_
  subst he
  have hg' : g = 0 := by rw [named_table] at hg; exact (Option.some.inj hg).symm
  have hty' : t = 75 := by subst hg'; rw [type_table] at hty; exact (Option.some.inj hty).symm
  subst hg' hty'
  refine ⟨_, rfl, _, _, _, [], p0 ++ [], MemPlace.row ⟨0, 0, none⟩ cs.size ++ p1, hW', ?_, ?_, ?_, hb.frame _, fun h => by cases h⟩
  · exact trodAll_cons_mk (p := []) (p' := []) (shut_bool Tryd.underlying4 _) trodAll_mk0
  · exact trodAll_cons_mk (Below.trod laidOut (by kernel_rfl) (of_decide_eq_true (by kernel_rfl)) h0 hb (fun x hx => hlt x (by simp [hx]))) trodAll_mk0
  · exact var_kept laidOut (by kernel_rfl) (of_decide_eq_true (by kernel_rfl)) hg hty hvar htr hb htab.1 (fun x hx => hlt x (by simp [hx]))

/-- A world for the witness: the table (block 0) holds what its initialiser lays. -/
def withTab (w : World) : World :=
  { w with heap := w.heap.modify 0 fun
      | .cells _ t frozen => .cells tab.toArray t frozen
      | o => o }
theorem laid_met (os : Os) : laidMet Tryd.prog Rows.fnExactPlanOkRow.laid ((withTab (World.holding Tryd.prog os ⟨#[], #[], []⟩)).forCall (fun _ _ => 0) ⟨#[], #[.agg #[.slice none 0 0]], []⟩).memory :=
  laidMet_of_run' 8 (by kernel_rfl) (by kernel_rfl)
theorem readsOk (os : Os) {H : Type} (enc : TypeId × Value → H) : ∃ places, DataW.whole enc Tryd.prog ((withTab (World.holding Tryd.prog os ⟨#[], #[], []⟩)).forCall (fun _ _ => 0) ⟨#[], #[.agg #[.slice none 0 0]], []⟩).memory Tryd.f3.params.toList Rows.fnExactPlanOkSpec.vars false #[Value.agg #[.slice none 0 0]].toList 8 = some ([.agg [.nil]], [Rows.laid_loop_example_thread_impl_shapes], places) :=
  ⟨MemPlace.row ⟨0, 0, none⟩ 80, by kernel_rfl⟩

set_option maxRecDepth 100000 in
theorem liftedOk (os : Os) (started : os.Started) (H : Type) (enc : TypeId × Value → H) (F : Stop.Interp) :
    ReturnsInHanded {} Tryd.checked os 3 .any ((OpenSpec.ofChange Rows.fnExactPlanOkSpec).preRow enc Tryd.prog Tryd.f3 Rows.fnExactPlanOkRow.domain false Rows.fnExactPlanOkRow.laid) (((OpenSpec.ofChange Rows.fnExactPlanOkSpec).at F).post enc Tryd.prog Tryd.f3 false true false false) := by
  obtain ⟨places, hx⟩ := readsOk os enc
  refine returnsInHanded_of_row (C := Tryd.checked) (s := OpenSpec.ofChange Rows.fnExactPlanOkSpec) own started (by kernel_rfl) Tryd.func3
    (witness_row_at (enc := enc) (C := Tryd.checked) false (withTab (World.holding Tryd.prog os ⟨#[], #[], []⟩)) #[.agg #[.slice none 0 0]] rfl (by kernel_rfl) (by kernel_rfl) (by kernel_rfl)
      (OpenSpec.preRow_of_cond 8 hx (by kernel_rfl) (fun k hk => by cases hk) (by kernel_rfl) (laid_met os))) ?_
  intro W base args ds gs before hval hW _ _ _ hL _ _
  exact contractOk H enc W base args ds gs before hval hW (tab_of_laid (l := Rows.fnExactPlanOkRow.laid) hL (.head _))

theorem saidOk : Rows.FnExactPlanOkSaid :=
  OpenClaim.holds_of_cond 3 Tryd.f3 rfl rfl rfl rfl rfl rfl rfl ⟨rfl, rfl, rfl, rfl, rfl⟩ rfl rfl rfl rfl rfl (by kernel_rfl) Tryd.func3 (by kernel_rfl)
    (of_decide_eq_true (by kernel_rfl)) (by unfold Func.isWrapper; first | (rw [if_pos (by decide +kernel)]; kernel_rfl) | (rw [if_neg (by decide +kernel)]; exact ⟨rfl, rfl⟩))
    (fun os started H enc _ F => by rw [OpenClaim.pre_eq_preRow]; exact liftedOk os started H enc F)

theorem plainOk (f : FuncId) (fn : Func) (hf : Tryd.pinned.checked.prog.funcNamed "loop.example/thread/laws.FnExactPlanOk" = some f) (hfn : Tryd.pinned.checked.prog.funcs[f]? = some fn) :
    true = Tryd.pinned.checked.prog.looks [] ∧ ∀ (j : Nat) t, fn.params[j]? = some t → Tryd.pinned.checked.prog.wantsStandIn t = false := by
  obtain rfl : f = 3 := Option.some.inj ((show Tryd.prog.funcNamed "loop.example/thread/laws.FnExactPlanOk" = some 3 by kernel_rfl).symm.trans hf) |>.symm
  obtain rfl : fn = Tryd.f3 := (Option.some.inj (Tryd.func3.symm.trans hfn)).symm
  refine ⟨by kernel_rfl, fun j t ht => ?_⟩
  rw [Tryd.params3] at ht
  obtain rfl : t = 24 := by simpa using Array.mem_of_getElem? ht
  exact (show Tryd.prog.wantsStandIn 24 = false by kernel_rfl)

/-- A tied card, whichever its cell 'goes'. -/
theorem tied_card (Lk : Looks) {p : Pinned} {s : OpenSpec} {c : OpenClaim} (kinds : List LaidKind) (tests : Bool) (har : Bool × String) (lk goes : Bool)
    (hc : c.holds p s) (hw : c.wfByText s = true) (htie : c.laidByTextAt Lk p kinds tests)
    (hst : c.start = .entering) (hnb : c.noBlocks = false ∧ c.again = false) (hm : p.checked.prog.mainIs = some (har.1, har.2.toList)) (hn : (!har.1 && har.2.isEmpty && !lk) = false)
    (hl : ∀ f fn, p.checked.prog.funcNamed c.func = some f → p.checked.prog.funcs[f]? = some fn → lk = p.checked.prog.looks [] ∧ ∀ (j : Nat) t, fn.params[j]? = some t → p.checked.prog.wantsStandIn t = false)
    (hg : goes = c.goesBy p.checked.prog) :
    Claim7.holds p (.plain s) { stood := { row := c, standIns := [], harness := har, looks := lk }, kinds := [], alts := [], goes := goes, laidByText := true, laidKinds := kinds, laidTests := tests, laidLooks := Lk } := by
  have h6 : ∀ r : OpenClaim, Claim7.isSixth { stood := { row := r, standIns := [], harness := har, looks := lk }, kinds := [] } = false := fun r => by simpa [Claim7.isSixth] using hn
  refine ⟨?_, (fun D hD => by cases hD), htie, (fun h => by cases h), hg⟩
  obtain ⟨_, rest⟩ := Claim7.new_of_sixth hc har lk hst hnb hm (h6 c) hl
  exact ⟨hw, rest⟩

theorem fnExactPlanOk_card : Rows.FnExactPlanOkCardSaid :=
  tied_card .later _ _ _ _ _ saidOk (by kernel_rfl) fnExactPlanOk_row_tie rfl ⟨rfl, rfl⟩ (by kernel_rfl) rfl plainOk (by kernel_rfl)

end Go.Proofs.YtkoccaheckkbdaaDoor
