/-
  DERIVED. GIVEN WITH THE SEED: THE CARDS: each row of YtkkcihgnpephiabDoorRows.lean that lists a variable, with what it lists TIED to the program's text (the seventh form; the later family's looks); each row that meets fmt, with fmt's text TOLD by the authors' own Lean function (tested against real Go, not proved from fmt's source: count such statements apart). THE CARD IS WHAT COUNTS. Prove the row's statement (the work); the ties are given (YtkkcihgnpephiabDoorTie.lean); close each card by the builder's one call (the guide's Derived/Test/ToyasCard.lean, 'card_holds'). Laid BY PROGRAM, IN A SANDBOX (cutbox-door.mjs). By AI agents, Wed Nov 11 2026. No macro, syntax, notation, axiom, sorry.
-/
import Derived.Test.YtkkcihgnpephiabDoorRows
import GoSem.ClaimSeven
namespace Go.Proofs.YtkkcihgnpephiabDoor
namespace Rows

/-- THE TIED CARD OF 'laws.FnExactMillText'. -/
def fnExactMillTextCard : Claim7 := { stood := { row := fnExactMillTextRow, standIns := [], harness := (true, "f9df6eb39b8ec2885b7f4f0d7164e87643b7f8f4d28abd4794508a523dde91d1"), looks := false }, kinds := [], alts := [], laidByText := true, laidKinds := [.data, .data, .data], laidTests := true, laidLooks := .later }
def FnExactMillTextCardSaid : Prop := Claim7.holds Tryd.pinned (.plain (OpenSpec.ofChange fnExactMillTextSpec)) fnExactMillTextCard

/-- THE SECOND FORM's CARD OF 'laws.FnExactMillText'. -/
def fnExactMillTextUptoCard : Claim7 := { stood := { row := fnExactMillTextUptoRow, standIns := [], harness := (true, "f9df6eb39b8ec2885b7f4f0d7164e87643b7f8f4d28abd4794508a523dde91d1"), looks := false }, kinds := [], alts := [], laidByText := true, laidKinds := [.data, .data, .data], laidTests := true, laidLooks := .later }
def FnExactMillTextUptoCardSaid : Prop := Claim7.holds Tryd.pinned (.plain (OpenSpec.upto fnExactMillTextSpec)) fnExactMillTextUptoCard
end Rows
end Go.Proofs.YtkkcihgnpephiabDoor
