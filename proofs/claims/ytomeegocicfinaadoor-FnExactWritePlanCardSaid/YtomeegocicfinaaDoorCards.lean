/-
  DERIVED. GIVEN WITH THE SEED: THE CARDS: each row of YtomeegocicfinaaDoorRows.lean that lists a variable, with what it lists TIED to the program's text (the seventh form; the later family's looks); each row that meets fmt, with fmt's text TOLD by the authors' own Lean function (tested against real Go, not proved from fmt's source: count such statements apart). THE CARD IS WHAT COUNTS. Prove the row's statement (the work); the ties are given (YtomeegocicfinaaDoorTie.lean); close each card by the builder's one call (the guide's Derived/Test/ToyasCard.lean, 'card_holds'). Laid BY PROGRAM, IN A SANDBOX (cutbox-door.mjs). By AI agents, Wed Nov 11 2026. No macro, syntax, notation, axiom, sorry.
-/
import Derived.Test.YtomeegocicfinaaDoorRows
import GoSem.ClaimSeven
namespace Go.Proofs.YtomeegocicfinaaDoor
namespace Rows

/-- THE TIED CARD OF 'laws.FnRelay'. -/
def fnRelayCard : Claim7 := { stood := { row := fnRelayRow, standIns := [], harness := (true, "69342c0451ca61479f815912a598933e8767ff137c213c41e2cbe4d98670965d"), looks := true }, kinds := [], alts := [], goes := true, laidByText := true, laidKinds := [.data], laidTests := true, laidLooks := .later }
def FnRelayCardSaid : Prop := Claim7.holds Tryd.pinned (.plain (OpenSpec.ofChange fnRelaySpec)) fnRelayCard

/-- THE TIED CARD OF 'laws.FnExactPlanOk'. -/
def fnExactPlanOkCard : Claim7 := { stood := { row := fnExactPlanOkRow, standIns := [], harness := (true, "69342c0451ca61479f815912a598933e8767ff137c213c41e2cbe4d98670965d"), looks := true }, kinds := [], alts := [], laidByText := true, laidKinds := [.data], laidTests := true, laidLooks := .later }
def FnExactPlanOkCardSaid : Prop := Claim7.holds Tryd.pinned (.plain (OpenSpec.ofChange fnExactPlanOkSpec)) fnExactPlanOkCard

/-- THE TIED CARD OF 'laws.FnExactWritePlan'. -/
def fnExactWritePlanCard : Claim7 := { stood := { row := fnExactWritePlanRow, standIns := [], harness := (true, "69342c0451ca61479f815912a598933e8767ff137c213c41e2cbe4d98670965d"), looks := true }, kinds := [], alts := [], goes := true, laidByText := true, laidKinds := [.data, .data, .data, .data, .data], laidTests := true, laidLooks := .later }
def FnExactWritePlanCardSaid : Prop := Claim7.holds Tryd.pinned (.plain (OpenSpec.ofChange fnExactWritePlanSpec)) fnExactWritePlanCard

/-- THE SECOND FORM's CARD OF 'laws.FnRelay'. -/
def fnRelayUptoCard : Claim7 := { stood := { row := fnRelayUptoRow, standIns := [], harness := (true, "69342c0451ca61479f815912a598933e8767ff137c213c41e2cbe4d98670965d"), looks := true }, kinds := [], alts := [], goes := true, laidByText := true, laidKinds := [.data], laidTests := true, laidLooks := .later }
def FnRelayUptoCardSaid : Prop := Claim7.holds Tryd.pinned (.plain (OpenSpec.upto fnRelaySpec)) fnRelayUptoCard

/-- THE SECOND FORM's CARD OF 'laws.FnExactPlanOk'. -/
def fnExactPlanOkUptoCard : Claim7 := { stood := { row := fnExactPlanOkUptoRow, standIns := [], harness := (true, "69342c0451ca61479f815912a598933e8767ff137c213c41e2cbe4d98670965d"), looks := true }, kinds := [], alts := [], laidByText := true, laidKinds := [.data], laidTests := true, laidLooks := .later }
def FnExactPlanOkUptoCardSaid : Prop := Claim7.holds Tryd.pinned (.plain (OpenSpec.upto fnExactPlanOkSpec)) fnExactPlanOkUptoCard

/-- THE SECOND FORM's CARD OF 'laws.FnExactWritePlan'. -/
def fnExactWritePlanUptoCard : Claim7 := { stood := { row := fnExactWritePlanUptoRow, standIns := [], harness := (true, "69342c0451ca61479f815912a598933e8767ff137c213c41e2cbe4d98670965d"), looks := true }, kinds := [], alts := [], goes := true, laidByText := true, laidKinds := [.data, .data, .data, .data, .data], laidTests := true, laidLooks := .later }
def FnExactWritePlanUptoCardSaid : Prop := Claim7.holds Tryd.pinned (.plain (OpenSpec.upto fnExactWritePlanSpec)) fnExactWritePlanUptoCard
end Rows
end Go.Proofs.YtomeegocicfinaaDoor
