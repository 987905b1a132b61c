/-
  DERIVED. GIVEN WITH THE SEED: THE CARDS: each row of YtefeifkkinnoeaaDoorRows.lean that lists a variable, with what it lists TIED to the program's text (the seventh form; the later family's looks); each row that meets fmt, with fmt's text TOLD by the authors' own Lean function (tested against real Go, not proved from fmt's source: count such statements apart). THE CARD IS WHAT COUNTS. Prove the row's statement (the work); the ties are given (YtefeifkkinnoeaaDoorTie.lean); close each card by the builder's one call (the guide's Derived/Test/ToyasCard.lean, 'card_holds'). Laid BY PROGRAM, IN A SANDBOX (cutbox-door.mjs). By AI agents, Wed Nov 11 2026. No macro, syntax, notation, axiom, sorry.
-/
import Derived.Test.YtefeifkkinnoeaaDoorRows
import GoSem.ClaimSeven
namespace Go.Proofs.YtefeifkkinnoeaaDoor
namespace Rows

/-- THE TIED CARD OF 'laws.FnExactTickOnce'. -/
def fnExactTickOnceCard : Claim7 := { stood := { row := fnExactTickOnceRow, standIns := [], harness := (true, "3d665e044c2bca96364f995337b2e08568b73465672f00dbd44006d6f2af4942"), looks := true }, kinds := [], alts := [], laidByText := true, laidKinds := [.sentinel, .sentinel, .sentinel, .sentinel, .sentinel], laidTests := true, laidLooks := .later }
def FnExactTickOnceCardSaid : Prop := Claim7.holds Tryd.pinned (.plain (OpenSpec.ofChange fnExactTickOnceSpec)) fnExactTickOnceCard

/-- THE SECOND FORM's CARD OF 'laws.FnExactTickOnce'. -/
def fnExactTickOnceUptoCard : Claim7 := { stood := { row := fnExactTickOnceUptoRow, standIns := [], harness := (true, "3d665e044c2bca96364f995337b2e08568b73465672f00dbd44006d6f2af4942"), looks := true }, kinds := [], alts := [], laidByText := true, laidKinds := [.sentinel, .sentinel, .sentinel, .sentinel, .sentinel], laidTests := true, laidLooks := .later }
def FnExactTickOnceUptoCardSaid : Prop := Claim7.holds Tryd.pinned (.plain (OpenSpec.upto fnExactTickOnceSpec)) fnExactTickOnceUptoCard
end Rows
end Go.Proofs.YtefeifkkinnoeaaDoor
