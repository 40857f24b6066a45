/-
  DERIVED. GIVEN WITH THE SEED: THE CARDS: each row of YtagppfkcaeobkaaDoorRows.lean that lists a variable, with what it lists TIED to the program's text (the seventh form; the later family's looks); each row that meets fmt, with fmt's text TOLD by the authors' own Lean function (tested against real Go, not proved from fmt's source: count such statements apart). THE CARD IS WHAT COUNTS. Prove the row's statement (the work); the ties are given (YtagppfkcaeobkaaDoorTie.lean); close each card by the builder's one call (the guide's Derived/Test/ToyasCard.lean, 'card_holds'). Laid BY PROGRAM, IN A SANDBOX (cutbox-door.mjs). By AI agents, Wed Nov 11 2026. No macro, syntax, notation, axiom, sorry.
-/
import Derived.Test.YtagppfkcaeobkaaDoorRows
import GoSem.ClaimSeven
namespace Go.Proofs.YtagppfkcaeobkaaDoor
namespace Rows

/-- THE TIED CARD OF 'laws.FnDefers'. -/
def fnDefersCard : Claim7 := { stood := { row := fnDefersRow, standIns := [], harness := (true, "ce49d6b790fc9e6843ea7afc94e1c293559592dd689dffc9e55b1e672acc9228"), looks := true }, kinds := [], alts := [], goes := true, laidByText := true, laidKinds := [.data], laidTests := true, laidLooks := .later }
def FnDefersCardSaid : Prop := Claim7.holds Tryd.pinned (.plain (OpenSpec.ofChange fnDefersSpec)) fnDefersCard

/-- THE TIED CARD OF 'laws.FnGone'. -/
def fnGoneCard : Claim7 := { stood := { row := fnGoneRow, standIns := [], harness := (true, "ce49d6b790fc9e6843ea7afc94e1c293559592dd689dffc9e55b1e672acc9228"), looks := true }, kinds := [], alts := [], goes := true, laidByText := true, laidKinds := [.data], laidTests := true, laidLooks := .later }
def FnGoneCardSaid : Prop := Claim7.holds Tryd.pinned (.plain (OpenSpec.ofChange fnGoneSpec)) fnGoneCard

/-- THE TIED CARD OF 'laws.FnRelay'. -/
def fnRelayCard : Claim7 := { stood := { row := fnRelayRow, standIns := [], harness := (true, "ce49d6b790fc9e6843ea7afc94e1c293559592dd689dffc9e55b1e672acc9228"), looks := true }, kinds := [], alts := [], goes := true, laidByText := true, laidKinds := [.data], laidTests := true, laidLooks := .later }
def FnRelayCardSaid : Prop := Claim7.holds Tryd.pinned (.plain (OpenSpec.ofChange fnRelaySpec)) fnRelayCard

/-- THE TIED CARD OF 'laws.FnExactPlanOk'. -/
def fnExactPlanOkCard : Claim7 := { stood := { row := fnExactPlanOkRow, standIns := [], harness := (true, "ce49d6b790fc9e6843ea7afc94e1c293559592dd689dffc9e55b1e672acc9228"), looks := true }, kinds := [], alts := [], laidByText := true, laidKinds := [.data], laidTests := true, laidLooks := .later }
def FnExactPlanOkCardSaid : Prop := Claim7.holds Tryd.pinned (.plain (OpenSpec.ofChange fnExactPlanOkSpec)) fnExactPlanOkCard

/-- THE TIED CARD OF 'laws.FnExactWritePlan'. -/
def fnExactWritePlanCard : Claim7 := { stood := { row := fnExactWritePlanRow, standIns := [], harness := (true, "ce49d6b790fc9e6843ea7afc94e1c293559592dd689dffc9e55b1e672acc9228"), looks := true }, kinds := [], alts := [], goes := true, laidByText := true, laidKinds := [.data, .data, .data, .data, .data], laidTests := true, laidLooks := .later }
def FnExactWritePlanCardSaid : Prop := Claim7.holds Tryd.pinned (.plain (OpenSpec.ofChange fnExactWritePlanSpec)) fnExactWritePlanCard

/-- THE SECOND FORM's CARD OF 'laws.FnDefers'. -/
def fnDefersUptoCard : Claim7 := { stood := { row := fnDefersUptoRow, standIns := [], harness := (true, "ce49d6b790fc9e6843ea7afc94e1c293559592dd689dffc9e55b1e672acc9228"), looks := true }, kinds := [], alts := [], goes := true, laidByText := true, laidKinds := [.data], laidTests := true, laidLooks := .later }
def FnDefersUptoCardSaid : Prop := Claim7.holds Tryd.pinned (.plain (OpenSpec.upto fnDefersSpec)) fnDefersUptoCard

/-- THE SECOND FORM's CARD OF 'laws.FnGone'. -/
def fnGoneUptoCard : Claim7 := { stood := { row := fnGoneUptoRow, standIns := [], harness := (true, "ce49d6b790fc9e6843ea7afc94e1c293559592dd689dffc9e55b1e672acc9228"), looks := true }, kinds := [], alts := [], goes := true, laidByText := true, laidKinds := [.data], laidTests := true, laidLooks := .later }
def FnGoneUptoCardSaid : Prop := Claim7.holds Tryd.pinned (.plain (OpenSpec.upto fnGoneSpec)) fnGoneUptoCard

/-- THE SECOND FORM's CARD OF 'laws.FnRelay'. -/
def fnRelayUptoCard : Claim7 := { stood := { row := fnRelayUptoRow, standIns := [], harness := (true, "ce49d6b790fc9e6843ea7afc94e1c293559592dd689dffc9e55b1e672acc9228"), looks := true }, kinds := [], alts := [], goes := true, laidByText := true, laidKinds := [.data], laidTests := true, laidLooks := .later }
def FnRelayUptoCardSaid : Prop := Claim7.holds Tryd.pinned (.plain (OpenSpec.upto fnRelaySpec)) fnRelayUptoCard

/-- THE SECOND FORM's CARD OF 'laws.FnExactPlanOk'. -/
def fnExactPlanOkUptoCard : Claim7 := { stood := { row := fnExactPlanOkUptoRow, standIns := [], harness := (true, "ce49d6b790fc9e6843ea7afc94e1c293559592dd689dffc9e55b1e672acc9228"), looks := true }, kinds := [], alts := [], laidByText := true, laidKinds := [.data], laidTests := true, laidLooks := .later }
def FnExactPlanOkUptoCardSaid : Prop := Claim7.holds Tryd.pinned (.plain (OpenSpec.upto fnExactPlanOkSpec)) fnExactPlanOkUptoCard

/-- THE SECOND FORM's CARD OF 'laws.FnExactWritePlan'. -/
def fnExactWritePlanUptoCard : Claim7 := { stood := { row := fnExactWritePlanUptoRow, standIns := [], harness := (true, "ce49d6b790fc9e6843ea7afc94e1c293559592dd689dffc9e55b1e672acc9228"), looks := true }, kinds := [], alts := [], goes := true, laidByText := true, laidKinds := [.data, .data, .data, .data, .data], laidTests := true, laidLooks := .later }
def FnExactWritePlanUptoCardSaid : Prop := Claim7.holds Tryd.pinned (.plain (OpenSpec.upto fnExactWritePlanSpec)) fnExactWritePlanUptoCard
end Rows
end Go.Proofs.YtagppfkcaeobkaaDoor
