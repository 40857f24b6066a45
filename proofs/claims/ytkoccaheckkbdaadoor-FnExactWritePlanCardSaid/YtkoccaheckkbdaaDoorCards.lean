/-
  DERIVED. GIVEN WITH THE SEED: THE CARDS: each row of YtkoccaheckkbdaaDoorRows.lean that lists a variable, with what it lists TIED to the program's text (the seventh form; the later family's looks); each row that meets fmt, with fmt's text TOLD by the authors' own Lean function (tested against real Go, not proved from fmt's source: count such statements apart). THE CARD IS WHAT COUNTS. Prove the row's statement (the work); the ties are given (YtkoccaheckkbdaaDoorTie.lean); close each card by the builder's one call (the guide's Derived/Test/ToyasCard.lean, 'card_holds'). Laid BY PROGRAM, IN A SANDBOX (cutbox-door.mjs). By AI agents, Wed Nov 11 2026. No macro, syntax, notation, axiom, sorry.
-/
import Derived.Test.YtkoccaheckkbdaaDoorRows
import GoSem.ClaimSeven
namespace Go.Proofs.YtkoccaheckkbdaaDoor
namespace Rows

/-- THE TIED CARD OF 'laws.FnExactPlanOk'. -/
def fnExactPlanOkCard : Claim7 := { stood := { row := fnExactPlanOkRow, standIns := [], harness := (true, "2a2b58d1e9d6d503f77a0a4037acb266b64371b249a766ce2c7a9f7440cdb322"), looks := true }, kinds := [], alts := [], laidByText := true, laidKinds := [.data], laidTests := true, laidLooks := .later }
def FnExactPlanOkCardSaid : Prop := Claim7.holds Tryd.pinned (.plain (OpenSpec.ofChange fnExactPlanOkSpec)) fnExactPlanOkCard

/-- THE TIED CARD OF 'laws.FnExactWritePlan'. -/
def fnExactWritePlanCard : Claim7 := { stood := { row := fnExactWritePlanRow, standIns := [], harness := (true, "2a2b58d1e9d6d503f77a0a4037acb266b64371b249a766ce2c7a9f7440cdb322"), looks := true }, kinds := [], alts := [], laidByText := true, laidKinds := [.data, .data, .data, .data, .data], laidTests := true, laidLooks := .later }
def FnExactWritePlanCardSaid : Prop := Claim7.holds Tryd.pinned (.plain (OpenSpec.ofChange fnExactWritePlanSpec)) fnExactWritePlanCard

/-- THE SECOND FORM's CARD OF 'laws.FnExactPlanOk'. -/
def fnExactPlanOkUptoCard : Claim7 := { stood := { row := fnExactPlanOkUptoRow, standIns := [], harness := (true, "2a2b58d1e9d6d503f77a0a4037acb266b64371b249a766ce2c7a9f7440cdb322"), looks := true }, kinds := [], alts := [], laidByText := true, laidKinds := [.data], laidTests := true, laidLooks := .later }
def FnExactPlanOkUptoCardSaid : Prop := Claim7.holds Tryd.pinned (.plain (OpenSpec.upto fnExactPlanOkSpec)) fnExactPlanOkUptoCard

/-- THE SECOND FORM's CARD OF 'laws.FnExactWritePlan'. -/
def fnExactWritePlanUptoCard : Claim7 := { stood := { row := fnExactWritePlanUptoRow, standIns := [], harness := (true, "2a2b58d1e9d6d503f77a0a4037acb266b64371b249a766ce2c7a9f7440cdb322"), looks := true }, kinds := [], alts := [], laidByText := true, laidKinds := [.data, .data, .data, .data, .data], laidTests := true, laidLooks := .later }
def FnExactWritePlanUptoCardSaid : Prop := Claim7.holds Tryd.pinned (.plain (OpenSpec.upto fnExactWritePlanSpec)) fnExactWritePlanUptoCard
end Rows
end Go.Proofs.YtkoccaheckkbdaaDoor
