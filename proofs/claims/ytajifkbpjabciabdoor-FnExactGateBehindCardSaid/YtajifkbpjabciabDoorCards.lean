/-
  DERIVED. GIVEN WITH THE SEED: THE CARDS: each row of YtajifkbpjabciabDoorRows.lean that lists a variable, with what it lists TIED to the program's text (the seventh form; the later family's looks); each row that meets fmt, with fmt's text TOLD by the authors' own Lean function (tested against real Go, not proved from fmt's source: count such statements apart). THE CARD IS WHAT COUNTS. Prove the row's statement (the work); the ties are given (YtajifkbpjabciabDoorTie.lean); close each card by the builder's one call (the guide's Derived/Test/ToyasCard.lean, 'card_holds'). Laid BY PROGRAM, IN A SANDBOX (cutbox-door.mjs). By AI agents, Wed Nov 11 2026. No macro, syntax, notation, axiom, sorry.
-/
import Derived.Test.YtajifkbpjabciabDoorRows
import GoSem.ClaimSeven
namespace Go.Proofs.YtajifkbpjabciabDoor
namespace Rows

/-- THE TIED CARD OF 'laws.FnExactGateBehind'. -/
def fnExactGateBehindCard : Claim7 := { stood := { row := fnExactGateBehindRow, standIns := [], harness := (true, "f0399c9d5689b162f29a7a3de9574158cd1d53f5f6fb4cb20b76f91d0039e37a"), looks := true }, kinds := [], alts := [], goes := true, laidByText := true, laidKinds := [.sentinel, .sentinel, .sentinel, .sentinel, .sentinel], laidTests := true, laidLooks := .later }
def FnExactGateBehindCardSaid : Prop := Claim7.holds Tryd.pinned (.plain (OpenSpec.ofChange fnExactGateBehindSpec)) fnExactGateBehindCard

/-- THE TIED CARD OF 'laws.FnExactTickOnce'. -/
def fnExactTickOnceCard : Claim7 := { stood := { row := fnExactTickOnceRow, standIns := [], harness := (true, "f0399c9d5689b162f29a7a3de9574158cd1d53f5f6fb4cb20b76f91d0039e37a"), looks := true }, kinds := [], alts := [], goes := true, laidByText := true, laidKinds := [.sentinel, .sentinel, .sentinel, .sentinel, .sentinel], laidTests := true, laidLooks := .later }
def FnExactTickOnceCardSaid : Prop := Claim7.holds Tryd.pinned (.plain (OpenSpec.ofChange fnExactTickOnceSpec)) fnExactTickOnceCard

/-- THE TIED CARD OF 'laws.FnExactTickAll'. -/
def fnExactTickAllCard : Claim7 := { stood := { row := fnExactTickAllRow, standIns := [], harness := (true, "f0399c9d5689b162f29a7a3de9574158cd1d53f5f6fb4cb20b76f91d0039e37a"), looks := true }, kinds := [], alts := [], goes := true, laidByText := true, laidKinds := [.sentinel, .sentinel, .sentinel, .sentinel, .sentinel], laidTests := true, laidLooks := .later }
def FnExactTickAllCardSaid : Prop := Claim7.holds Tryd.pinned (.plain (OpenSpec.ofChange fnExactTickAllSpec)) fnExactTickAllCard

/-- THE TIED CARD OF 'laws.FnExactWithinFrom'. -/
def fnExactWithinFromCard : Claim7 := { stood := { row := fnExactWithinFromRow, standIns := [], harness := (true, "f0399c9d5689b162f29a7a3de9574158cd1d53f5f6fb4cb20b76f91d0039e37a"), looks := true }, kinds := [], alts := [], goes := true, laidByText := true, laidKinds := [.sentinel, .sentinel, .sentinel, .sentinel, .sentinel], laidTests := true, laidLooks := .later }
def FnExactWithinFromCardSaid : Prop := Claim7.holds Tryd.pinned (.plain (OpenSpec.ofChange fnExactWithinFromSpec)) fnExactWithinFromCard

/-- THE TIED CARD OF 'laws.FnExactSteadyFrom'. -/
def fnExactSteadyFromCard : Claim7 := { stood := { row := fnExactSteadyFromRow, standIns := [], harness := (true, "f0399c9d5689b162f29a7a3de9574158cd1d53f5f6fb4cb20b76f91d0039e37a"), looks := true }, kinds := [], alts := [], goes := true, laidByText := true, laidKinds := [.sentinel, .sentinel, .sentinel, .sentinel, .sentinel], laidTests := true, laidLooks := .later }
def FnExactSteadyFromCardSaid : Prop := Claim7.holds Tryd.pinned (.plain (OpenSpec.ofChange fnExactSteadyFromSpec)) fnExactSteadyFromCard

/-- THE TIED CARD OF 'laws.FnExactBestGate'. -/
def fnExactBestGateCard : Claim7 := { stood := { row := fnExactBestGateRow, standIns := [], harness := (true, "f0399c9d5689b162f29a7a3de9574158cd1d53f5f6fb4cb20b76f91d0039e37a"), looks := true }, kinds := [], alts := [], goes := true, laidByText := true, laidKinds := [.sentinel, .sentinel, .sentinel, .sentinel, .sentinel], laidTests := true, laidLooks := .later }
def FnExactBestGateCardSaid : Prop := Claim7.holds Tryd.pinned (.plain (OpenSpec.ofChange fnExactBestGateSpec)) fnExactBestGateCard

/-- THE TIED CARD OF 'laws.FnExactLeastGate'. -/
def fnExactLeastGateCard : Claim7 := { stood := { row := fnExactLeastGateRow, standIns := [], harness := (true, "f0399c9d5689b162f29a7a3de9574158cd1d53f5f6fb4cb20b76f91d0039e37a"), looks := true }, kinds := [], alts := [], goes := true, laidByText := true, laidKinds := [.sentinel, .sentinel, .sentinel, .sentinel, .sentinel], laidTests := true, laidLooks := .later }
def FnExactLeastGateCardSaid : Prop := Claim7.holds Tryd.pinned (.plain (OpenSpec.ofChange fnExactLeastGateSpec)) fnExactLeastGateCard

/-- THE TIED CARD OF 'laws.FnExactMillText'. -/
def fnExactMillTextCard : Claim7 := { stood := { row := fnExactMillTextRow, standIns := [], harness := (true, "f0399c9d5689b162f29a7a3de9574158cd1d53f5f6fb4cb20b76f91d0039e37a"), looks := true }, kinds := [], alts := [], laidByText := true, laidKinds := [.data, .data, .data], laidTests := true, laidLooks := .later }
def FnExactMillTextCardSaid : Prop := Claim7.holds Tryd.pinned (.plain (OpenSpec.ofChange fnExactMillTextSpec)) fnExactMillTextCard

/-- THE SECOND FORM's CARD OF 'laws.FnExactGateBehind'. -/
def fnExactGateBehindUptoCard : Claim7 := { stood := { row := fnExactGateBehindUptoRow, standIns := [], harness := (true, "f0399c9d5689b162f29a7a3de9574158cd1d53f5f6fb4cb20b76f91d0039e37a"), looks := true }, kinds := [], alts := [], goes := true, laidByText := true, laidKinds := [.sentinel, .sentinel, .sentinel, .sentinel, .sentinel], laidTests := true, laidLooks := .later }
def FnExactGateBehindUptoCardSaid : Prop := Claim7.holds Tryd.pinned (.plain (OpenSpec.upto fnExactGateBehindSpec)) fnExactGateBehindUptoCard

/-- THE SECOND FORM's CARD OF 'laws.FnExactTickOnce'. -/
def fnExactTickOnceUptoCard : Claim7 := { stood := { row := fnExactTickOnceUptoRow, standIns := [], harness := (true, "f0399c9d5689b162f29a7a3de9574158cd1d53f5f6fb4cb20b76f91d0039e37a"), looks := true }, kinds := [], alts := [], goes := true, laidByText := true, laidKinds := [.sentinel, .sentinel, .sentinel, .sentinel, .sentinel], laidTests := true, laidLooks := .later }
def FnExactTickOnceUptoCardSaid : Prop := Claim7.holds Tryd.pinned (.plain (OpenSpec.upto fnExactTickOnceSpec)) fnExactTickOnceUptoCard

/-- THE SECOND FORM's CARD OF 'laws.FnExactTickAll'. -/
def fnExactTickAllUptoCard : Claim7 := { stood := { row := fnExactTickAllUptoRow, standIns := [], harness := (true, "f0399c9d5689b162f29a7a3de9574158cd1d53f5f6fb4cb20b76f91d0039e37a"), looks := true }, kinds := [], alts := [], goes := true, laidByText := true, laidKinds := [.sentinel, .sentinel, .sentinel, .sentinel, .sentinel], laidTests := true, laidLooks := .later }
def FnExactTickAllUptoCardSaid : Prop := Claim7.holds Tryd.pinned (.plain (OpenSpec.upto fnExactTickAllSpec)) fnExactTickAllUptoCard

/-- THE SECOND FORM's CARD OF 'laws.FnExactWithinFrom'. -/
def fnExactWithinFromUptoCard : Claim7 := { stood := { row := fnExactWithinFromUptoRow, standIns := [], harness := (true, "f0399c9d5689b162f29a7a3de9574158cd1d53f5f6fb4cb20b76f91d0039e37a"), looks := true }, kinds := [], alts := [], goes := true, laidByText := true, laidKinds := [.sentinel, .sentinel, .sentinel, .sentinel, .sentinel], laidTests := true, laidLooks := .later }
def FnExactWithinFromUptoCardSaid : Prop := Claim7.holds Tryd.pinned (.plain (OpenSpec.upto fnExactWithinFromSpec)) fnExactWithinFromUptoCard

/-- THE SECOND FORM's CARD OF 'laws.FnExactSteadyFrom'. -/
def fnExactSteadyFromUptoCard : Claim7 := { stood := { row := fnExactSteadyFromUptoRow, standIns := [], harness := (true, "f0399c9d5689b162f29a7a3de9574158cd1d53f5f6fb4cb20b76f91d0039e37a"), looks := true }, kinds := [], alts := [], goes := true, laidByText := true, laidKinds := [.sentinel, .sentinel, .sentinel, .sentinel, .sentinel], laidTests := true, laidLooks := .later }
def FnExactSteadyFromUptoCardSaid : Prop := Claim7.holds Tryd.pinned (.plain (OpenSpec.upto fnExactSteadyFromSpec)) fnExactSteadyFromUptoCard

/-- THE SECOND FORM's CARD OF 'laws.FnExactBestGate'. -/
def fnExactBestGateUptoCard : Claim7 := { stood := { row := fnExactBestGateUptoRow, standIns := [], harness := (true, "f0399c9d5689b162f29a7a3de9574158cd1d53f5f6fb4cb20b76f91d0039e37a"), looks := true }, kinds := [], alts := [], goes := true, laidByText := true, laidKinds := [.sentinel, .sentinel, .sentinel, .sentinel, .sentinel], laidTests := true, laidLooks := .later }
def FnExactBestGateUptoCardSaid : Prop := Claim7.holds Tryd.pinned (.plain (OpenSpec.upto fnExactBestGateSpec)) fnExactBestGateUptoCard

/-- THE SECOND FORM's CARD OF 'laws.FnExactLeastGate'. -/
def fnExactLeastGateUptoCard : Claim7 := { stood := { row := fnExactLeastGateUptoRow, standIns := [], harness := (true, "f0399c9d5689b162f29a7a3de9574158cd1d53f5f6fb4cb20b76f91d0039e37a"), looks := true }, kinds := [], alts := [], goes := true, laidByText := true, laidKinds := [.sentinel, .sentinel, .sentinel, .sentinel, .sentinel], laidTests := true, laidLooks := .later }
def FnExactLeastGateUptoCardSaid : Prop := Claim7.holds Tryd.pinned (.plain (OpenSpec.upto fnExactLeastGateSpec)) fnExactLeastGateUptoCard

/-- THE SECOND FORM's CARD OF 'laws.FnExactMillText'. -/
def fnExactMillTextUptoCard : Claim7 := { stood := { row := fnExactMillTextUptoRow, standIns := [], harness := (true, "f0399c9d5689b162f29a7a3de9574158cd1d53f5f6fb4cb20b76f91d0039e37a"), looks := true }, kinds := [], alts := [], laidByText := true, laidKinds := [.data, .data, .data], laidTests := true, laidLooks := .later }
def FnExactMillTextUptoCardSaid : Prop := Claim7.holds Tryd.pinned (.plain (OpenSpec.upto fnExactMillTextSpec)) fnExactMillTextUptoCard
end Rows
end Go.Proofs.YtajifkbpjabciabDoor
