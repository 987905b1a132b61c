/-
  DERIVED. GIVEN WITH THE SEED: THE CARDS: each row of YtkkcihgnpephiaaDoorRows.lean that lists a variable, with what it lists TIED to the program's text (the seventh form; the later family's looks); each row that meets fmt, with fmt's text TOLD by the authors' own Lean function (tested against real Go, not proved from fmt's source: count such statements apart). THE CARD IS WHAT COUNTS. Prove the row's statement (the work); the ties are given (YtkkcihgnpephiaaDoorTie.lean); close each card by the builder's one call (the guide's Derived/Test/ToyasCard.lean, 'card_holds'). Laid BY PROGRAM, IN A SANDBOX (cutbox-door.mjs). By AI agents, Wed Nov 11 2026. No macro, syntax, notation, axiom, sorry.
-/
import Derived.Test.YtkkcihgnpephiaaDoorRows
import GoSem.ClaimSeven
namespace Go.Proofs.YtkkcihgnpephiaaDoor
namespace Rows

/-- THE TIED CARD OF 'laws.FnExactNumberText'. -/
def fnExactNumberTextCard : Claim7 := { stood := { row := fnExactNumberTextRow, standIns := [], harness := (true, "77d786e2391b4273a3290ff941fb167be778ea132374dfe1a42ffb30e21ecbbd"), looks := true }, kinds := [], alts := [], laidByText := true, laidKinds := [.data, .data, .data], laidTests := true, laidLooks := .later }
def FnExactNumberTextCardSaid : Prop := Claim7.holds Tryd.pinned (.plain (OpenSpec.ofChange fnExactNumberTextSpec)) fnExactNumberTextCard

/-- THE TIED CARD OF 'laws.FnExactReadNumber'. -/
def fnExactReadNumberCard : Claim7 := { stood := { row := fnExactReadNumberRow, standIns := [], harness := (true, "77d786e2391b4273a3290ff941fb167be778ea132374dfe1a42ffb30e21ecbbd"), looks := true }, kinds := [], alts := [], laidByText := true, laidKinds := [.data, .data, .data, .sentinel, .sentinel], laidTests := true, laidLooks := .later }
def FnExactReadNumberCardSaid : Prop := Claim7.holds Tryd.pinned (.plain (OpenSpec.ofChange fnExactReadNumberSpec)) fnExactReadNumberCard

/-- THE TIED CARD OF 'laws.FnExactTrainText'. -/
def fnExactTrainTextCard : Claim7 := { stood := { row := fnExactTrainTextRow, standIns := [], harness := (true, "77d786e2391b4273a3290ff941fb167be778ea132374dfe1a42ffb30e21ecbbd"), looks := true }, kinds := [], alts := [], laidByText := true, laidKinds := [.data, .data, .data], laidTests := true, laidLooks := .later }
def FnExactTrainTextCardSaid : Prop := Claim7.holds Tryd.pinned (.plain (OpenSpec.ofChange fnExactTrainTextSpec)) fnExactTrainTextCard

/-- THE TIED CARD OF 'laws.FnExactReadTrain'. -/
def fnExactReadTrainCard : Claim7 := { stood := { row := fnExactReadTrainRow, standIns := [], harness := (true, "77d786e2391b4273a3290ff941fb167be778ea132374dfe1a42ffb30e21ecbbd"), looks := true }, kinds := [], alts := [], laidByText := true, laidKinds := [.data, .data, .data, .data, .sentinel, .sentinel, .pinned], laidTests := true, laidLooks := .later }
def FnExactReadTrainCardSaid : Prop := Claim7.holds Tryd.pinned (.plain (OpenSpec.ofChange fnExactReadTrainSpec)) fnExactReadTrainCard

/-- THE TIED CARD OF 'laws.FnExactBeltText'. -/
def fnExactBeltTextCard : Claim7 := { stood := { row := fnExactBeltTextRow, standIns := [], harness := (true, "77d786e2391b4273a3290ff941fb167be778ea132374dfe1a42ffb30e21ecbbd"), looks := true }, kinds := [], alts := [], laidByText := true, laidKinds := [.data, .data, .data], laidTests := true, laidLooks := .later }
def FnExactBeltTextCardSaid : Prop := Claim7.holds Tryd.pinned (.plain (OpenSpec.ofChange fnExactBeltTextSpec)) fnExactBeltTextCard

/-- THE TIED CARD OF 'laws.FnExactReadBelt'. -/
def fnExactReadBeltCard : Claim7 := { stood := { row := fnExactReadBeltRow, standIns := [], harness := (true, "77d786e2391b4273a3290ff941fb167be778ea132374dfe1a42ffb30e21ecbbd"), looks := true }, kinds := [], alts := [], laidByText := true, laidKinds := [.data, .data, .data, .data, .sentinel, .sentinel, .pinned], laidTests := true, laidLooks := .later }
def FnExactReadBeltCardSaid : Prop := Claim7.holds Tryd.pinned (.plain (OpenSpec.ofChange fnExactReadBeltSpec)) fnExactReadBeltCard

/-- THE TIED CARD OF 'laws.FnExactStoneText'. -/
def fnExactStoneTextCard : Claim7 := { stood := { row := fnExactStoneTextRow, standIns := [], harness := (true, "77d786e2391b4273a3290ff941fb167be778ea132374dfe1a42ffb30e21ecbbd"), looks := true }, kinds := [], alts := [], laidByText := true, laidKinds := [.data, .data, .data], laidTests := true, laidLooks := .later }
def FnExactStoneTextCardSaid : Prop := Claim7.holds Tryd.pinned (.plain (OpenSpec.ofChange fnExactStoneTextSpec)) fnExactStoneTextCard

/-- THE TIED CARD OF 'laws.FnExactReadStone'. -/
def fnExactReadStoneCard : Claim7 := { stood := { row := fnExactReadStoneRow, standIns := [], harness := (true, "77d786e2391b4273a3290ff941fb167be778ea132374dfe1a42ffb30e21ecbbd"), looks := true }, kinds := [], alts := [], laidByText := true, laidKinds := [.data, .data, .data, .data, .sentinel, .sentinel, .pinned], laidTests := true, laidLooks := .later }
def FnExactReadStoneCardSaid : Prop := Claim7.holds Tryd.pinned (.plain (OpenSpec.ofChange fnExactReadStoneSpec)) fnExactReadStoneCard

/-- THE TIED CARD OF 'laws.FnExactBoxText'. -/
def fnExactBoxTextCard : Claim7 := { stood := { row := fnExactBoxTextRow, standIns := [], harness := (true, "77d786e2391b4273a3290ff941fb167be778ea132374dfe1a42ffb30e21ecbbd"), looks := true }, kinds := [], alts := [], laidByText := true, laidKinds := [.data, .data, .data], laidTests := true, laidLooks := .later }
def FnExactBoxTextCardSaid : Prop := Claim7.holds Tryd.pinned (.plain (OpenSpec.ofChange fnExactBoxTextSpec)) fnExactBoxTextCard

/-- THE TIED CARD OF 'laws.FnExactReadBox'. -/
def fnExactReadBoxCard : Claim7 := { stood := { row := fnExactReadBoxRow, standIns := [], harness := (true, "77d786e2391b4273a3290ff941fb167be778ea132374dfe1a42ffb30e21ecbbd"), looks := true }, kinds := [], alts := [], laidByText := true, laidKinds := [.data, .data, .data, .data, .sentinel, .sentinel, .pinned], laidTests := true, laidLooks := .later }
def FnExactReadBoxCardSaid : Prop := Claim7.holds Tryd.pinned (.plain (OpenSpec.ofChange fnExactReadBoxSpec)) fnExactReadBoxCard

/-- THE TIED CARD OF 'laws.FnExactToothText'. -/
def fnExactToothTextCard : Claim7 := { stood := { row := fnExactToothTextRow, standIns := [], harness := (true, "77d786e2391b4273a3290ff941fb167be778ea132374dfe1a42ffb30e21ecbbd"), looks := true }, kinds := [], alts := [], laidByText := true, laidKinds := [.data, .data, .data], laidTests := true, laidLooks := .later }
def FnExactToothTextCardSaid : Prop := Claim7.holds Tryd.pinned (.plain (OpenSpec.ofChange fnExactToothTextSpec)) fnExactToothTextCard

/-- THE TIED CARD OF 'laws.FnExactReadTooth'. -/
def fnExactReadToothCard : Claim7 := { stood := { row := fnExactReadToothRow, standIns := [], harness := (true, "77d786e2391b4273a3290ff941fb167be778ea132374dfe1a42ffb30e21ecbbd"), looks := true }, kinds := [], alts := [], laidByText := true, laidKinds := [.data, .data, .data, .data, .sentinel, .sentinel, .pinned], laidTests := true, laidLooks := .later }
def FnExactReadToothCardSaid : Prop := Claim7.holds Tryd.pinned (.plain (OpenSpec.ofChange fnExactReadToothSpec)) fnExactReadToothCard

/-- THE SECOND FORM's CARD OF 'laws.FnExactNumberText'. -/
def fnExactNumberTextUptoCard : Claim7 := { stood := { row := fnExactNumberTextUptoRow, standIns := [], harness := (true, "77d786e2391b4273a3290ff941fb167be778ea132374dfe1a42ffb30e21ecbbd"), looks := true }, kinds := [], alts := [], laidByText := true, laidKinds := [.data, .data, .data], laidTests := true, laidLooks := .later }
def FnExactNumberTextUptoCardSaid : Prop := Claim7.holds Tryd.pinned (.plain (OpenSpec.upto fnExactNumberTextSpec)) fnExactNumberTextUptoCard

/-- THE SECOND FORM's CARD OF 'laws.FnExactReadNumber'. -/
def fnExactReadNumberUptoCard : Claim7 := { stood := { row := fnExactReadNumberUptoRow, standIns := [], harness := (true, "77d786e2391b4273a3290ff941fb167be778ea132374dfe1a42ffb30e21ecbbd"), looks := true }, kinds := [], alts := [], laidByText := true, laidKinds := [.data, .data, .data, .sentinel, .sentinel], laidTests := true, laidLooks := .later }
def FnExactReadNumberUptoCardSaid : Prop := Claim7.holds Tryd.pinned (.plain (OpenSpec.upto fnExactReadNumberSpec)) fnExactReadNumberUptoCard

/-- THE SECOND FORM's CARD OF 'laws.FnExactTrainText'. -/
def fnExactTrainTextUptoCard : Claim7 := { stood := { row := fnExactTrainTextUptoRow, standIns := [], harness := (true, "77d786e2391b4273a3290ff941fb167be778ea132374dfe1a42ffb30e21ecbbd"), looks := true }, kinds := [], alts := [], laidByText := true, laidKinds := [.data, .data, .data], laidTests := true, laidLooks := .later }
def FnExactTrainTextUptoCardSaid : Prop := Claim7.holds Tryd.pinned (.plain (OpenSpec.upto fnExactTrainTextSpec)) fnExactTrainTextUptoCard

/-- THE SECOND FORM's CARD OF 'laws.FnExactReadTrain'. -/
def fnExactReadTrainUptoCard : Claim7 := { stood := { row := fnExactReadTrainUptoRow, standIns := [], harness := (true, "77d786e2391b4273a3290ff941fb167be778ea132374dfe1a42ffb30e21ecbbd"), looks := true }, kinds := [], alts := [], laidByText := true, laidKinds := [.data, .data, .data, .data, .sentinel, .sentinel, .pinned], laidTests := true, laidLooks := .later }
def FnExactReadTrainUptoCardSaid : Prop := Claim7.holds Tryd.pinned (.plain (OpenSpec.upto fnExactReadTrainSpec)) fnExactReadTrainUptoCard

/-- THE SECOND FORM's CARD OF 'laws.FnExactBeltText'. -/
def fnExactBeltTextUptoCard : Claim7 := { stood := { row := fnExactBeltTextUptoRow, standIns := [], harness := (true, "77d786e2391b4273a3290ff941fb167be778ea132374dfe1a42ffb30e21ecbbd"), looks := true }, kinds := [], alts := [], laidByText := true, laidKinds := [.data, .data, .data], laidTests := true, laidLooks := .later }
def FnExactBeltTextUptoCardSaid : Prop := Claim7.holds Tryd.pinned (.plain (OpenSpec.upto fnExactBeltTextSpec)) fnExactBeltTextUptoCard

/-- THE SECOND FORM's CARD OF 'laws.FnExactReadBelt'. -/
def fnExactReadBeltUptoCard : Claim7 := { stood := { row := fnExactReadBeltUptoRow, standIns := [], harness := (true, "77d786e2391b4273a3290ff941fb167be778ea132374dfe1a42ffb30e21ecbbd"), looks := true }, kinds := [], alts := [], laidByText := true, laidKinds := [.data, .data, .data, .data, .sentinel, .sentinel, .pinned], laidTests := true, laidLooks := .later }
def FnExactReadBeltUptoCardSaid : Prop := Claim7.holds Tryd.pinned (.plain (OpenSpec.upto fnExactReadBeltSpec)) fnExactReadBeltUptoCard

/-- THE SECOND FORM's CARD OF 'laws.FnExactStoneText'. -/
def fnExactStoneTextUptoCard : Claim7 := { stood := { row := fnExactStoneTextUptoRow, standIns := [], harness := (true, "77d786e2391b4273a3290ff941fb167be778ea132374dfe1a42ffb30e21ecbbd"), looks := true }, kinds := [], alts := [], laidByText := true, laidKinds := [.data, .data, .data], laidTests := true, laidLooks := .later }
def FnExactStoneTextUptoCardSaid : Prop := Claim7.holds Tryd.pinned (.plain (OpenSpec.upto fnExactStoneTextSpec)) fnExactStoneTextUptoCard

/-- THE SECOND FORM's CARD OF 'laws.FnExactReadStone'. -/
def fnExactReadStoneUptoCard : Claim7 := { stood := { row := fnExactReadStoneUptoRow, standIns := [], harness := (true, "77d786e2391b4273a3290ff941fb167be778ea132374dfe1a42ffb30e21ecbbd"), looks := true }, kinds := [], alts := [], laidByText := true, laidKinds := [.data, .data, .data, .data, .sentinel, .sentinel, .pinned], laidTests := true, laidLooks := .later }
def FnExactReadStoneUptoCardSaid : Prop := Claim7.holds Tryd.pinned (.plain (OpenSpec.upto fnExactReadStoneSpec)) fnExactReadStoneUptoCard

/-- THE SECOND FORM's CARD OF 'laws.FnExactBoxText'. -/
def fnExactBoxTextUptoCard : Claim7 := { stood := { row := fnExactBoxTextUptoRow, standIns := [], harness := (true, "77d786e2391b4273a3290ff941fb167be778ea132374dfe1a42ffb30e21ecbbd"), looks := true }, kinds := [], alts := [], laidByText := true, laidKinds := [.data, .data, .data], laidTests := true, laidLooks := .later }
def FnExactBoxTextUptoCardSaid : Prop := Claim7.holds Tryd.pinned (.plain (OpenSpec.upto fnExactBoxTextSpec)) fnExactBoxTextUptoCard

/-- THE SECOND FORM's CARD OF 'laws.FnExactReadBox'. -/
def fnExactReadBoxUptoCard : Claim7 := { stood := { row := fnExactReadBoxUptoRow, standIns := [], harness := (true, "77d786e2391b4273a3290ff941fb167be778ea132374dfe1a42ffb30e21ecbbd"), looks := true }, kinds := [], alts := [], laidByText := true, laidKinds := [.data, .data, .data, .data, .sentinel, .sentinel, .pinned], laidTests := true, laidLooks := .later }
def FnExactReadBoxUptoCardSaid : Prop := Claim7.holds Tryd.pinned (.plain (OpenSpec.upto fnExactReadBoxSpec)) fnExactReadBoxUptoCard

/-- THE SECOND FORM's CARD OF 'laws.FnExactToothText'. -/
def fnExactToothTextUptoCard : Claim7 := { stood := { row := fnExactToothTextUptoRow, standIns := [], harness := (true, "77d786e2391b4273a3290ff941fb167be778ea132374dfe1a42ffb30e21ecbbd"), looks := true }, kinds := [], alts := [], laidByText := true, laidKinds := [.data, .data, .data], laidTests := true, laidLooks := .later }
def FnExactToothTextUptoCardSaid : Prop := Claim7.holds Tryd.pinned (.plain (OpenSpec.upto fnExactToothTextSpec)) fnExactToothTextUptoCard

/-- THE SECOND FORM's CARD OF 'laws.FnExactReadTooth'. -/
def fnExactReadToothUptoCard : Claim7 := { stood := { row := fnExactReadToothUptoRow, standIns := [], harness := (true, "77d786e2391b4273a3290ff941fb167be778ea132374dfe1a42ffb30e21ecbbd"), looks := true }, kinds := [], alts := [], laidByText := true, laidKinds := [.data, .data, .data, .data, .sentinel, .sentinel, .pinned], laidTests := true, laidLooks := .later }
def FnExactReadToothUptoCardSaid : Prop := Claim7.holds Tryd.pinned (.plain (OpenSpec.upto fnExactReadToothSpec)) fnExactReadToothUptoCard
end Rows
end Go.Proofs.YtkkcihgnpephiaaDoor
