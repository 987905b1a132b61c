/-
  DERIVED. GIVEN WITH THE SEED: THE CARDS: each row of YtjkgiknklkfipaaDoorRows.lean that lists a variable, with what it lists TIED to the program's text (the seventh form; the later family's looks); each row that meets fmt, with fmt's text TOLD by the authors' own Lean function (tested against real Go, not proved from fmt's source: count such statements apart). THE CARD IS WHAT COUNTS. Prove the row's statement (the work); the ties are given (YtjkgiknklkfipaaDoorTie.lean); close each card by the builder's one call (the guide's Derived/Test/ToyasCard.lean, 'card_holds'). Laid BY PROGRAM, IN A SANDBOX (cutbox-door.mjs). By AI agents, Wed Nov 11 2026. No macro, syntax, notation, axiom, sorry.
-/
import Derived.Test.YtjkgiknklkfipaaDoorRows
import GoSem.ClaimSeven
namespace Go.Proofs.YtjkgiknklkfipaaDoor
namespace Rows

/-- THE TIED CARD OF 'laws.FnExactWeekOf'. -/
def fnExactWeekOfCard : Claim7 := { stood := { row := fnExactWeekOfRow, standIns := [], harness := (true, "1b6487e443befdccb680218ee72d03e5c5c9e5f6b01ea3bde247873e6957911c"), looks := true }, kinds := [], alts := [], laidByText := true, laidKinds := [.data], laidTests := true, laidLooks := .later }
def FnExactWeekOfCardSaid : Prop := Claim7.holds Tryd.pinned (.plain (OpenSpec.ofChange fnExactWeekOfSpec)) fnExactWeekOfCard

/-- THE TIED CARD OF 'laws.FnExactYearOf'. -/
def fnExactYearOfCard : Claim7 := { stood := { row := fnExactYearOfRow, standIns := [], harness := (true, "1b6487e443befdccb680218ee72d03e5c5c9e5f6b01ea3bde247873e6957911c"), looks := true }, kinds := [], alts := [], laidByText := true, laidKinds := [.data], laidTests := true, laidLooks := .later }
def FnExactYearOfCardSaid : Prop := Claim7.holds Tryd.pinned (.plain (OpenSpec.ofChange fnExactYearOfSpec)) fnExactYearOfCard

/-- THE TIED CARD OF 'laws.FnExactQuietWeeks'. -/
def fnExactQuietWeeksCard : Claim7 := { stood := { row := fnExactQuietWeeksRow, standIns := [], harness := (true, "1b6487e443befdccb680218ee72d03e5c5c9e5f6b01ea3bde247873e6957911c"), looks := true }, kinds := [], alts := [], laidByText := true, laidKinds := [.data], laidTests := true, laidLooks := .later }
def FnExactQuietWeeksCardSaid : Prop := Claim7.holds Tryd.pinned (.plain (OpenSpec.ofChange fnExactQuietWeeksSpec)) fnExactQuietWeeksCard

/-- THE TIED CARD OF 'laws.FnExactBestGate'. -/
def fnExactBestGateCard : Claim7 := { stood := { row := fnExactBestGateRow, standIns := [], harness := (true, "1b6487e443befdccb680218ee72d03e5c5c9e5f6b01ea3bde247873e6957911c"), looks := true }, kinds := [], alts := [], laidByText := true, laidKinds := [.sentinel, .sentinel, .sentinel, .sentinel, .sentinel], laidTests := true, laidLooks := .later }
def FnExactBestGateCardSaid : Prop := Claim7.holds Tryd.pinned (.plain (OpenSpec.ofChange fnExactBestGateSpec)) fnExactBestGateCard

/-- THE TIED CARD OF 'laws.FnExactLeastGate'. -/
def fnExactLeastGateCard : Claim7 := { stood := { row := fnExactLeastGateRow, standIns := [], harness := (true, "1b6487e443befdccb680218ee72d03e5c5c9e5f6b01ea3bde247873e6957911c"), looks := true }, kinds := [], alts := [], laidByText := true, laidKinds := [.sentinel, .sentinel, .sentinel, .sentinel, .sentinel], laidTests := true, laidLooks := .later }
def FnExactLeastGateCardSaid : Prop := Claim7.holds Tryd.pinned (.plain (OpenSpec.ofChange fnExactLeastGateSpec)) fnExactLeastGateCard

/-- THE SECOND FORM's CARD OF 'laws.FnExactWeekOf'. -/
def fnExactWeekOfUptoCard : Claim7 := { stood := { row := fnExactWeekOfUptoRow, standIns := [], harness := (true, "1b6487e443befdccb680218ee72d03e5c5c9e5f6b01ea3bde247873e6957911c"), looks := true }, kinds := [], alts := [], laidByText := true, laidKinds := [.data], laidTests := true, laidLooks := .later }
def FnExactWeekOfUptoCardSaid : Prop := Claim7.holds Tryd.pinned (.plain (OpenSpec.upto fnExactWeekOfSpec)) fnExactWeekOfUptoCard

/-- THE SECOND FORM's CARD OF 'laws.FnExactYearOf'. -/
def fnExactYearOfUptoCard : Claim7 := { stood := { row := fnExactYearOfUptoRow, standIns := [], harness := (true, "1b6487e443befdccb680218ee72d03e5c5c9e5f6b01ea3bde247873e6957911c"), looks := true }, kinds := [], alts := [], laidByText := true, laidKinds := [.data], laidTests := true, laidLooks := .later }
def FnExactYearOfUptoCardSaid : Prop := Claim7.holds Tryd.pinned (.plain (OpenSpec.upto fnExactYearOfSpec)) fnExactYearOfUptoCard

/-- THE SECOND FORM's CARD OF 'laws.FnExactQuietWeeks'. -/
def fnExactQuietWeeksUptoCard : Claim7 := { stood := { row := fnExactQuietWeeksUptoRow, standIns := [], harness := (true, "1b6487e443befdccb680218ee72d03e5c5c9e5f6b01ea3bde247873e6957911c"), looks := true }, kinds := [], alts := [], laidByText := true, laidKinds := [.data], laidTests := true, laidLooks := .later }
def FnExactQuietWeeksUptoCardSaid : Prop := Claim7.holds Tryd.pinned (.plain (OpenSpec.upto fnExactQuietWeeksSpec)) fnExactQuietWeeksUptoCard

/-- THE SECOND FORM's CARD OF 'laws.FnExactBestGate'. -/
def fnExactBestGateUptoCard : Claim7 := { stood := { row := fnExactBestGateUptoRow, standIns := [], harness := (true, "1b6487e443befdccb680218ee72d03e5c5c9e5f6b01ea3bde247873e6957911c"), looks := true }, kinds := [], alts := [], laidByText := true, laidKinds := [.sentinel, .sentinel, .sentinel, .sentinel, .sentinel], laidTests := true, laidLooks := .later }
def FnExactBestGateUptoCardSaid : Prop := Claim7.holds Tryd.pinned (.plain (OpenSpec.upto fnExactBestGateSpec)) fnExactBestGateUptoCard

/-- THE SECOND FORM's CARD OF 'laws.FnExactLeastGate'. -/
def fnExactLeastGateUptoCard : Claim7 := { stood := { row := fnExactLeastGateUptoRow, standIns := [], harness := (true, "1b6487e443befdccb680218ee72d03e5c5c9e5f6b01ea3bde247873e6957911c"), looks := true }, kinds := [], alts := [], laidByText := true, laidKinds := [.sentinel, .sentinel, .sentinel, .sentinel, .sentinel], laidTests := true, laidLooks := .later }
def FnExactLeastGateUptoCardSaid : Prop := Claim7.holds Tryd.pinned (.plain (OpenSpec.upto fnExactLeastGateSpec)) fnExactLeastGateUptoCard
end Rows
end Go.Proofs.YtjkgiknklkfipaaDoor
