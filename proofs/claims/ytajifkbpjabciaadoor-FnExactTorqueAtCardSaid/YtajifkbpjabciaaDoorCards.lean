/-
  DERIVED. GIVEN WITH THE SEED: THE CARDS: each row of YtajifkbpjabciaaDoorRows.lean that lists a variable, with what it lists TIED to the program's text (the seventh form; the later family's looks); each row that meets fmt, with fmt's text TOLD by the authors' own Lean function (tested against real Go, not proved from fmt's source: count such statements apart). THE CARD IS WHAT COUNTS. Prove the row's statement (the work); the ties are given (YtajifkbpjabciaaDoorTie.lean); close each card by the builder's one call (the guide's Derived/Test/ToyasCard.lean, 'card_holds'). Laid BY PROGRAM, IN A SANDBOX (cutbox-door.mjs). By AI agents, Wed Nov 11 2026. No macro, syntax, notation, axiom, sorry.
-/
import Derived.Test.YtajifkbpjabciaaDoorRows
import GoSem.ClaimSeven
namespace Go.Proofs.YtajifkbpjabciaaDoor
namespace Rows

/-- THE TIED CARD OF 'laws.FnExactWaterSpeed'. -/
def fnExactWaterSpeedCard : Claim7 := { stood := { row := fnExactWaterSpeedRow, standIns := [], harness := (true, "0225ccd85718e34915a6012bf26a9aea1abcc99081923d3fcf701bdca92f42de"), looks := true }, kinds := [], alts := [], laidByText := true, laidKinds := [.sentinel, .sentinel, .sentinel, .sentinel, .sentinel], laidTests := true, laidLooks := .later }
def FnExactWaterSpeedCardSaid : Prop := Claim7.holds Tryd.pinned (.plain (OpenSpec.ofChange fnExactWaterSpeedSpec)) fnExactWaterSpeedCard

/-- THE TIED CARD OF 'laws.FnExactFlowThrough'. -/
def fnExactFlowThroughCard : Claim7 := { stood := { row := fnExactFlowThroughRow, standIns := [], harness := (true, "0225ccd85718e34915a6012bf26a9aea1abcc99081923d3fcf701bdca92f42de"), looks := true }, kinds := [], alts := [], laidByText := true, laidKinds := [.sentinel, .sentinel, .sentinel, .sentinel, .sentinel], laidTests := true, laidLooks := .later }
def FnExactFlowThroughCardSaid : Prop := Claim7.holds Tryd.pinned (.plain (OpenSpec.ofChange fnExactFlowThroughSpec)) fnExactFlowThroughCard

/-- THE TIED CARD OF 'laws.FnExactWaterPower'. -/
def fnExactWaterPowerCard : Claim7 := { stood := { row := fnExactWaterPowerRow, standIns := [], harness := (true, "0225ccd85718e34915a6012bf26a9aea1abcc99081923d3fcf701bdca92f42de"), looks := true }, kinds := [], alts := [], laidByText := true, laidKinds := [.sentinel, .sentinel, .sentinel, .sentinel, .sentinel], laidTests := true, laidLooks := .later }
def FnExactWaterPowerCardSaid : Prop := Claim7.holds Tryd.pinned (.plain (OpenSpec.ofChange fnExactWaterPowerSpec)) fnExactWaterPowerCard

/-- THE TIED CARD OF 'laws.FnExactFillOf'. -/
def fnExactFillOfCard : Claim7 := { stood := { row := fnExactFillOfRow, standIns := [], harness := (true, "0225ccd85718e34915a6012bf26a9aea1abcc99081923d3fcf701bdca92f42de"), looks := true }, kinds := [], alts := [], laidByText := true, laidKinds := [.sentinel, .sentinel, .sentinel, .sentinel, .sentinel], laidTests := true, laidLooks := .later }
def FnExactFillOfCardSaid : Prop := Claim7.holds Tryd.pinned (.plain (OpenSpec.ofChange fnExactFillOfSpec)) fnExactFillOfCard

/-- THE TIED CARD OF 'laws.FnExactSpilledBy'. -/
def fnExactSpilledByCard : Claim7 := { stood := { row := fnExactSpilledByRow, standIns := [], harness := (true, "0225ccd85718e34915a6012bf26a9aea1abcc99081923d3fcf701bdca92f42de"), looks := true }, kinds := [], alts := [], laidByText := true, laidKinds := [.sentinel, .sentinel, .sentinel, .sentinel, .sentinel], laidTests := true, laidLooks := .later }
def FnExactSpilledByCardSaid : Prop := Claim7.holds Tryd.pinned (.plain (OpenSpec.ofChange fnExactSpilledBySpec)) fnExactSpilledByCard

/-- THE TIED CARD OF 'laws.FnExactTorqueFrom'. -/
def fnExactTorqueFromCard : Claim7 := { stood := { row := fnExactTorqueFromRow, standIns := [], harness := (true, "0225ccd85718e34915a6012bf26a9aea1abcc99081923d3fcf701bdca92f42de"), looks := true }, kinds := [], alts := [], laidByText := true, laidKinds := [.sentinel, .sentinel, .sentinel, .sentinel, .sentinel], laidTests := true, laidLooks := .later }
def FnExactTorqueFromCardSaid : Prop := Claim7.holds Tryd.pinned (.plain (OpenSpec.ofChange fnExactTorqueFromSpec)) fnExactTorqueFromCard

/-- THE TIED CARD OF 'laws.FnExactTorqueAt'. -/
def fnExactTorqueAtCard : Claim7 := { stood := { row := fnExactTorqueAtRow, standIns := [], harness := (true, "0225ccd85718e34915a6012bf26a9aea1abcc99081923d3fcf701bdca92f42de"), looks := true }, kinds := [], alts := [], laidByText := true, laidKinds := [.sentinel, .sentinel, .sentinel, .sentinel, .sentinel], laidTests := true, laidLooks := .later }
def FnExactTorqueAtCardSaid : Prop := Claim7.holds Tryd.pinned (.plain (OpenSpec.ofChange fnExactTorqueAtSpec)) fnExactTorqueAtCard

/-- THE SECOND FORM's CARD OF 'laws.FnExactWaterSpeed'. -/
def fnExactWaterSpeedUptoCard : Claim7 := { stood := { row := fnExactWaterSpeedUptoRow, standIns := [], harness := (true, "0225ccd85718e34915a6012bf26a9aea1abcc99081923d3fcf701bdca92f42de"), looks := true }, kinds := [], alts := [], laidByText := true, laidKinds := [.sentinel, .sentinel, .sentinel, .sentinel, .sentinel], laidTests := true, laidLooks := .later }
def FnExactWaterSpeedUptoCardSaid : Prop := Claim7.holds Tryd.pinned (.plain (OpenSpec.upto fnExactWaterSpeedSpec)) fnExactWaterSpeedUptoCard

/-- THE SECOND FORM's CARD OF 'laws.FnExactFlowThrough'. -/
def fnExactFlowThroughUptoCard : Claim7 := { stood := { row := fnExactFlowThroughUptoRow, standIns := [], harness := (true, "0225ccd85718e34915a6012bf26a9aea1abcc99081923d3fcf701bdca92f42de"), looks := true }, kinds := [], alts := [], laidByText := true, laidKinds := [.sentinel, .sentinel, .sentinel, .sentinel, .sentinel], laidTests := true, laidLooks := .later }
def FnExactFlowThroughUptoCardSaid : Prop := Claim7.holds Tryd.pinned (.plain (OpenSpec.upto fnExactFlowThroughSpec)) fnExactFlowThroughUptoCard

/-- THE SECOND FORM's CARD OF 'laws.FnExactWaterPower'. -/
def fnExactWaterPowerUptoCard : Claim7 := { stood := { row := fnExactWaterPowerUptoRow, standIns := [], harness := (true, "0225ccd85718e34915a6012bf26a9aea1abcc99081923d3fcf701bdca92f42de"), looks := true }, kinds := [], alts := [], laidByText := true, laidKinds := [.sentinel, .sentinel, .sentinel, .sentinel, .sentinel], laidTests := true, laidLooks := .later }
def FnExactWaterPowerUptoCardSaid : Prop := Claim7.holds Tryd.pinned (.plain (OpenSpec.upto fnExactWaterPowerSpec)) fnExactWaterPowerUptoCard

/-- THE SECOND FORM's CARD OF 'laws.FnExactFillOf'. -/
def fnExactFillOfUptoCard : Claim7 := { stood := { row := fnExactFillOfUptoRow, standIns := [], harness := (true, "0225ccd85718e34915a6012bf26a9aea1abcc99081923d3fcf701bdca92f42de"), looks := true }, kinds := [], alts := [], laidByText := true, laidKinds := [.sentinel, .sentinel, .sentinel, .sentinel, .sentinel], laidTests := true, laidLooks := .later }
def FnExactFillOfUptoCardSaid : Prop := Claim7.holds Tryd.pinned (.plain (OpenSpec.upto fnExactFillOfSpec)) fnExactFillOfUptoCard

/-- THE SECOND FORM's CARD OF 'laws.FnExactSpilledBy'. -/
def fnExactSpilledByUptoCard : Claim7 := { stood := { row := fnExactSpilledByUptoRow, standIns := [], harness := (true, "0225ccd85718e34915a6012bf26a9aea1abcc99081923d3fcf701bdca92f42de"), looks := true }, kinds := [], alts := [], laidByText := true, laidKinds := [.sentinel, .sentinel, .sentinel, .sentinel, .sentinel], laidTests := true, laidLooks := .later }
def FnExactSpilledByUptoCardSaid : Prop := Claim7.holds Tryd.pinned (.plain (OpenSpec.upto fnExactSpilledBySpec)) fnExactSpilledByUptoCard

/-- THE SECOND FORM's CARD OF 'laws.FnExactTorqueFrom'. -/
def fnExactTorqueFromUptoCard : Claim7 := { stood := { row := fnExactTorqueFromUptoRow, standIns := [], harness := (true, "0225ccd85718e34915a6012bf26a9aea1abcc99081923d3fcf701bdca92f42de"), looks := true }, kinds := [], alts := [], laidByText := true, laidKinds := [.sentinel, .sentinel, .sentinel, .sentinel, .sentinel], laidTests := true, laidLooks := .later }
def FnExactTorqueFromUptoCardSaid : Prop := Claim7.holds Tryd.pinned (.plain (OpenSpec.upto fnExactTorqueFromSpec)) fnExactTorqueFromUptoCard

/-- THE SECOND FORM's CARD OF 'laws.FnExactTorqueAt'. -/
def fnExactTorqueAtUptoCard : Claim7 := { stood := { row := fnExactTorqueAtUptoRow, standIns := [], harness := (true, "0225ccd85718e34915a6012bf26a9aea1abcc99081923d3fcf701bdca92f42de"), looks := true }, kinds := [], alts := [], laidByText := true, laidKinds := [.sentinel, .sentinel, .sentinel, .sentinel, .sentinel], laidTests := true, laidLooks := .later }
def FnExactTorqueAtUptoCardSaid : Prop := Claim7.holds Tryd.pinned (.plain (OpenSpec.upto fnExactTorqueAtSpec)) fnExactTorqueAtUptoCard
end Rows
end Go.Proofs.YtajifkbpjabciaaDoor
