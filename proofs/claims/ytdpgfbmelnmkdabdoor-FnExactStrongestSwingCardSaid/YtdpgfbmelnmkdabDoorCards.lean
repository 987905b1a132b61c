/-
  DERIVED. GIVEN WITH THE SEED: THE CARDS: each row of YtdpgfbmelnmkdabDoorRows.lean that lists a variable, with what it lists TIED to the program's text (the seventh form; the later family's looks); each row that meets fmt, with fmt's text TOLD by the authors' own Lean function (tested against real Go, not proved from fmt's source: count such statements apart). THE CARD IS WHAT COUNTS. Prove the row's statement (the work); the ties are given (YtdpgfbmelnmkdabDoorTie.lean); close each card by the builder's one call (the guide's Derived/Test/ToyasCard.lean, 'card_holds'). Laid BY PROGRAM, IN A SANDBOX (cutbox-door.mjs). By AI agents, Wed Nov 11 2026. No macro, syntax, notation, axiom, sorry.
-/
import Derived.Test.YtdpgfbmelnmkdabDoorRows
import GoSem.ClaimSeven
namespace Go.Proofs.YtdpgfbmelnmkdabDoor
namespace Rows

/-- THE TIED CARD OF 'laws.FnExactSwingsOf'. -/
def fnExactSwingsOfCard : Claim7 := { stood := { row := fnExactSwingsOfRow, standIns := [], harness := (true, "0816a85c1694139cafc079bacee3ebe3e8466e00ec7684050f4c3cdb05b06d45"), looks := true }, kinds := [], alts := [], laidByText := true, laidKinds := [.handle], laidTests := true, laidLooks := .later }
def FnExactSwingsOfCardSaid : Prop := Claim7.holds Tryd.pinned (.plain (OpenSpec.ofChange fnExactSwingsOfSpec)) fnExactSwingsOfCard

/-- THE TIED CARD OF 'laws.FnExactStrongestSwing'. -/
def fnExactStrongestSwingCard : Claim7 := { stood := { row := fnExactStrongestSwingRow, standIns := [], harness := (true, "0816a85c1694139cafc079bacee3ebe3e8466e00ec7684050f4c3cdb05b06d45"), looks := true }, kinds := [], alts := [], laidByText := true, laidKinds := [.handle], laidTests := true, laidLooks := .later }
def FnExactStrongestSwingCardSaid : Prop := Claim7.holds Tryd.pinned (.plain (OpenSpec.ofChange fnExactStrongestSwingSpec)) fnExactStrongestSwingCard

/-- THE TIED CARD OF 'laws.FnExactAnswerOf'. -/
def fnExactAnswerOfCard : Claim7 := { stood := { row := fnExactAnswerOfRow, standIns := [], harness := (true, "0816a85c1694139cafc079bacee3ebe3e8466e00ec7684050f4c3cdb05b06d45"), looks := true }, kinds := [], alts := [], laidByText := true, laidKinds := [.handle], laidTests := true, laidLooks := .later }
def FnExactAnswerOfCardSaid : Prop := Claim7.holds Tryd.pinned (.plain (OpenSpec.ofChange fnExactAnswerOfSpec)) fnExactAnswerOfCard

/-- THE TIED CARD OF 'laws.FnExactCrossingsOf'. -/
def fnExactCrossingsOfCard : Claim7 := { stood := { row := fnExactCrossingsOfRow, standIns := [], harness := (true, "0816a85c1694139cafc079bacee3ebe3e8466e00ec7684050f4c3cdb05b06d45"), looks := true }, kinds := [], alts := [], laidByText := true, laidKinds := [.handle], laidTests := true, laidLooks := .later }
def FnExactCrossingsOfCardSaid : Prop := Claim7.holds Tryd.pinned (.plain (OpenSpec.ofChange fnExactCrossingsOfSpec)) fnExactCrossingsOfCard

/-- THE TIED CARD OF 'laws.FnExactLoneSpeed'. -/
def fnExactLoneSpeedCard : Claim7 := { stood := { row := fnExactLoneSpeedRow, standIns := [], harness := (true, "0816a85c1694139cafc079bacee3ebe3e8466e00ec7684050f4c3cdb05b06d45"), looks := true }, kinds := [], alts := [], laidByText := true, laidKinds := [.handle], laidTests := true, laidLooks := .later }
def FnExactLoneSpeedCardSaid : Prop := Claim7.holds Tryd.pinned (.plain (OpenSpec.ofChange fnExactLoneSpeedSpec)) fnExactLoneSpeedCard

/-- THE SECOND FORM's CARD OF 'laws.FnExactSwingsOf'. -/
def fnExactSwingsOfUptoCard : Claim7 := { stood := { row := fnExactSwingsOfUptoRow, standIns := [], harness := (true, "0816a85c1694139cafc079bacee3ebe3e8466e00ec7684050f4c3cdb05b06d45"), looks := true }, kinds := [], alts := [], laidByText := true, laidKinds := [.handle], laidTests := true, laidLooks := .later }
def FnExactSwingsOfUptoCardSaid : Prop := Claim7.holds Tryd.pinned (.plain (OpenSpec.upto fnExactSwingsOfSpec)) fnExactSwingsOfUptoCard

/-- THE SECOND FORM's CARD OF 'laws.FnExactStrongestSwing'. -/
def fnExactStrongestSwingUptoCard : Claim7 := { stood := { row := fnExactStrongestSwingUptoRow, standIns := [], harness := (true, "0816a85c1694139cafc079bacee3ebe3e8466e00ec7684050f4c3cdb05b06d45"), looks := true }, kinds := [], alts := [], laidByText := true, laidKinds := [.handle], laidTests := true, laidLooks := .later }
def FnExactStrongestSwingUptoCardSaid : Prop := Claim7.holds Tryd.pinned (.plain (OpenSpec.upto fnExactStrongestSwingSpec)) fnExactStrongestSwingUptoCard

/-- THE SECOND FORM's CARD OF 'laws.FnExactAnswerOf'. -/
def fnExactAnswerOfUptoCard : Claim7 := { stood := { row := fnExactAnswerOfUptoRow, standIns := [], harness := (true, "0816a85c1694139cafc079bacee3ebe3e8466e00ec7684050f4c3cdb05b06d45"), looks := true }, kinds := [], alts := [], laidByText := true, laidKinds := [.handle], laidTests := true, laidLooks := .later }
def FnExactAnswerOfUptoCardSaid : Prop := Claim7.holds Tryd.pinned (.plain (OpenSpec.upto fnExactAnswerOfSpec)) fnExactAnswerOfUptoCard

/-- THE SECOND FORM's CARD OF 'laws.FnExactCrossingsOf'. -/
def fnExactCrossingsOfUptoCard : Claim7 := { stood := { row := fnExactCrossingsOfUptoRow, standIns := [], harness := (true, "0816a85c1694139cafc079bacee3ebe3e8466e00ec7684050f4c3cdb05b06d45"), looks := true }, kinds := [], alts := [], laidByText := true, laidKinds := [.handle], laidTests := true, laidLooks := .later }
def FnExactCrossingsOfUptoCardSaid : Prop := Claim7.holds Tryd.pinned (.plain (OpenSpec.upto fnExactCrossingsOfSpec)) fnExactCrossingsOfUptoCard

/-- THE SECOND FORM's CARD OF 'laws.FnExactLoneSpeed'. -/
def fnExactLoneSpeedUptoCard : Claim7 := { stood := { row := fnExactLoneSpeedUptoRow, standIns := [], harness := (true, "0816a85c1694139cafc079bacee3ebe3e8466e00ec7684050f4c3cdb05b06d45"), looks := true }, kinds := [], alts := [], laidByText := true, laidKinds := [.handle], laidTests := true, laidLooks := .later }
def FnExactLoneSpeedUptoCardSaid : Prop := Claim7.holds Tryd.pinned (.plain (OpenSpec.upto fnExactLoneSpeedSpec)) fnExactLoneSpeedUptoCard
end Rows
end Go.Proofs.YtdpgfbmelnmkdabDoor
