/-
  NARROWER THAN 'FOR EVERY INPUT', by the rows' own cells (each row's printed sentence says how): FnExactWaterSpeed: ifaces, laid · FnExactFlowThrough: ifaces, laid · FnExactWaterPower: ifaces, laid · FnExactFillOf: ifaces, laid · FnExactSpilledBy: ifaces, laid · FnExactTorqueFrom: ifaces, laid · FnExactTorqueAt: ifaces, laid.
  DERIVED. THE GIVEN ROWS OF THIS SEAT. 7 by the template 'for every input the law returns true; each argument reads behind the call as it read before'; 0 by the template 'total and deterministic' (their statements: YtajifkbpjabciaaDoorTotals.lean).
  GIVEN WITH THE SEED: the statements are not yours to turn. If you find one false, say at which input.
  Laid BY PROGRAM, IN A SANDBOX (cutbox-rows.mjs): the forced cells as the released guide's own fill.sh prints them over the translation bf79c15ce98c2017… (all of the seat's roots in one cut). By AI agents, Wed Nov 11 2026. No macro, syntax, notation, axiom, sorry.
-/
import Derived.Test.YtajifkbpjabciaaDoorChecked
import GoSem.Claim
import GoSem.ClaimJoined
import GoSem.ClaimMapViews
import Derived.JoinedTies
import Derived.KernelRfl
namespace Go.Proofs.YtajifkbpjabciaaDoor
/- THE CELL 'sum', in the pinned program and in every row, IS THE sha256 OF THE DUMP (.gsa) THAT YtajifkbpjabciaaDoorProg.lean LOADS. Nothing in Lean hashes anything: it is a label: what it is worth is what the hold of that sum in a sandbox is worth. -/
noncomputable def Tryd.pinned : Pinned := { name := "ytajifkbpjabciaadoor", sum := "bf79c15ce98c20176e9030f31005b4b8ae69c6babf87e463019f92330cf366e8", checked := Tryd.checked }
namespace Rows
def none {H : Type} : Left H := { results := [], args := [] }

/- WHAT THE LISTED PACKAGE-LEVEL VARIABLES READ AS WHEN THE CALL BEGINS. Each datum BY PROGRAM (the guide's laid-datum.mjs) off the statement by which the dump's own 'gosem.cut.vars' lays the variable. In a bare row this is a premise. The card (YtajifkbpjabciaaDoorCards.lean) ties it to the program's text. -/
def laid_loop_example_g01344_impl_errInvalid {H : Type} : DataW H := .iface "*errors.errorString" (.ptr (.agg [.lit (.string [105, 110, 118, 97, 108, 105, 100])]))
def laid_loop_example_g01344_impl_errRange {H : Type} : DataW H := .iface "*errors.errorString" (.ptr (.agg [.lit (.string [114, 97, 110, 103, 101])]))
def laid_loop_example_g01344_impl_errLimit {H : Type} : DataW H := .iface "*errors.errorString" (.ptr (.agg [.lit (.string [108, 105, 109, 105, 116])]))
def laid_loop_example_g01344_impl_errSyntax {H : Type} : DataW H := .iface "*errors.errorString" (.ptr (.agg [.lit (.string [115, 121, 110, 116, 97, 120])]))
def laid_loop_example_g01344_impl_errNotFound {H : Type} : DataW H := .iface "*errors.errorString" (.ptr (.agg [.lit (.string [110, 111, 116, 102, 111, 117, 110, 100])]))

/-- 'laws.FnExactWaterSpeed': WHATEVER THE INPUT: true; the input reads as it did. -/
def fnExactWaterSpeedSpec : ChangeSpec := { name := "fnExactWaterSpeed", vars := ["loop.example/g01344/impl.errRange", "loop.example/g01344/impl.errInvalid", "loop.example/g01344/impl.errLimit", "loop.example/g01344/impl.errSyntax", "loop.example/g01344/impl.errNotFound"], fn := fun _ => fun
  | [d, g1, g2, g3, g4, g5] => { results := [.lit (.bool true)], args := [d], vars := [g1, g2, g3, g4, g5] }
  | _ => none }
def fnExactWaterSpeedRow : OpenClaim := { program := "ytajifkbpjabciaadoor", sum := "bf79c15ce98c20176e9030f31005b4b8ae69c6babf87e463019f92330cf366e8", func := "loop.example/g01344/laws.FnExactWaterSpeed", spec := "fnExactWaterSpeed", inPlace := ["math.sqrt", "internal/reflectlite.TypeOf"], unfollowed := true, recurses := true, named := ["loop.example/g01344/impl.errRange", "loop.example/g01344/impl.errInvalid", "loop.example/g01344/impl.errLimit", "loop.example/g01344/impl.errSyntax", "loop.example/g01344/impl.errNotFound"], ifaces := true, plainKeys := false, apart := false, laid := [("loop.example/g01344/impl.errInvalid", laid_loop_example_g01344_impl_errInvalid), ("loop.example/g01344/impl.errRange", laid_loop_example_g01344_impl_errRange), ("loop.example/g01344/impl.errLimit", laid_loop_example_g01344_impl_errLimit), ("loop.example/g01344/impl.errSyntax", laid_loop_example_g01344_impl_errSyntax), ("loop.example/g01344/impl.errNotFound", laid_loop_example_g01344_impl_errNotFound)] }
def FnExactWaterSpeedSaid : Prop := fnExactWaterSpeedRow.holds Tryd.pinned (OpenSpec.ofChange fnExactWaterSpeedSpec)

/-- ITS FALSE NEIGHBOUR: 'it returns false'. Refute it at one input. -/
def fnExactWaterSpeedWrong : ChangeSpec := { name := "fnExactWaterSpeed", vars := ["loop.example/g01344/impl.errRange", "loop.example/g01344/impl.errInvalid", "loop.example/g01344/impl.errLimit", "loop.example/g01344/impl.errSyntax", "loop.example/g01344/impl.errNotFound"], fn := fun _ => fun
  | [d, g1, g2, g3, g4, g5] => { results := [.lit (.bool false)], args := [d], vars := [g1, g2, g3, g4, g5] }
  | _ => none }
def FnExactWaterSpeedWrongFalsely : Prop := fnExactWaterSpeedRow.holds Tryd.pinned (OpenSpec.ofChange fnExactWaterSpeedWrong)

/-- 'laws.FnExactFlowThrough': WHATEVER THE INPUT: true; the input reads as it did. -/
def fnExactFlowThroughSpec : ChangeSpec := { name := "fnExactFlowThrough", vars := ["loop.example/g01344/impl.errRange", "loop.example/g01344/impl.errInvalid", "loop.example/g01344/impl.errLimit", "loop.example/g01344/impl.errSyntax", "loop.example/g01344/impl.errNotFound"], fn := fun _ => fun
  | [d1, d2, d3, g1, g2, g3, g4, g5] => { results := [.lit (.bool true)], args := [d1, d2, d3], vars := [g1, g2, g3, g4, g5] }
  | _ => none }
def fnExactFlowThroughRow : OpenClaim := { program := "ytajifkbpjabciaadoor", sum := "bf79c15ce98c20176e9030f31005b4b8ae69c6babf87e463019f92330cf366e8", func := "loop.example/g01344/laws.FnExactFlowThrough", spec := "fnExactFlowThrough", inPlace := ["math.sqrt", "internal/reflectlite.TypeOf"], unfollowed := true, recurses := true, named := ["loop.example/g01344/impl.errRange", "loop.example/g01344/impl.errInvalid", "loop.example/g01344/impl.errLimit", "loop.example/g01344/impl.errSyntax", "loop.example/g01344/impl.errNotFound"], ifaces := true, plainKeys := false, apart := false, laid := [("loop.example/g01344/impl.errInvalid", laid_loop_example_g01344_impl_errInvalid), ("loop.example/g01344/impl.errRange", laid_loop_example_g01344_impl_errRange), ("loop.example/g01344/impl.errLimit", laid_loop_example_g01344_impl_errLimit), ("loop.example/g01344/impl.errSyntax", laid_loop_example_g01344_impl_errSyntax), ("loop.example/g01344/impl.errNotFound", laid_loop_example_g01344_impl_errNotFound)] }
def FnExactFlowThroughSaid : Prop := fnExactFlowThroughRow.holds Tryd.pinned (OpenSpec.ofChange fnExactFlowThroughSpec)

/-- ITS FALSE NEIGHBOUR: 'it returns false'. Refute it at one input. -/
def fnExactFlowThroughWrong : ChangeSpec := { name := "fnExactFlowThrough", vars := ["loop.example/g01344/impl.errRange", "loop.example/g01344/impl.errInvalid", "loop.example/g01344/impl.errLimit", "loop.example/g01344/impl.errSyntax", "loop.example/g01344/impl.errNotFound"], fn := fun _ => fun
  | [d1, d2, d3, g1, g2, g3, g4, g5] => { results := [.lit (.bool false)], args := [d1, d2, d3], vars := [g1, g2, g3, g4, g5] }
  | _ => none }
def FnExactFlowThroughWrongFalsely : Prop := fnExactFlowThroughRow.holds Tryd.pinned (OpenSpec.ofChange fnExactFlowThroughWrong)

/-- 'laws.FnExactWaterPower': WHATEVER THE INPUT: true; the input reads as it did. -/
def fnExactWaterPowerSpec : ChangeSpec := { name := "fnExactWaterPower", vars := ["loop.example/g01344/impl.errRange", "loop.example/g01344/impl.errInvalid", "loop.example/g01344/impl.errLimit", "loop.example/g01344/impl.errSyntax", "loop.example/g01344/impl.errNotFound"], fn := fun _ => fun
  | [d1, d2, d3, g1, g2, g3, g4, g5] => { results := [.lit (.bool true)], args := [d1, d2, d3], vars := [g1, g2, g3, g4, g5] }
  | _ => none }
def fnExactWaterPowerRow : OpenClaim := { program := "ytajifkbpjabciaadoor", sum := "bf79c15ce98c20176e9030f31005b4b8ae69c6babf87e463019f92330cf366e8", func := "loop.example/g01344/laws.FnExactWaterPower", spec := "fnExactWaterPower", inPlace := ["internal/reflectlite.TypeOf"], unfollowed := true, recurses := true, named := ["loop.example/g01344/impl.errRange", "loop.example/g01344/impl.errInvalid", "loop.example/g01344/impl.errLimit", "loop.example/g01344/impl.errSyntax", "loop.example/g01344/impl.errNotFound"], ifaces := true, plainKeys := false, apart := false, laid := [("loop.example/g01344/impl.errInvalid", laid_loop_example_g01344_impl_errInvalid), ("loop.example/g01344/impl.errRange", laid_loop_example_g01344_impl_errRange), ("loop.example/g01344/impl.errLimit", laid_loop_example_g01344_impl_errLimit), ("loop.example/g01344/impl.errSyntax", laid_loop_example_g01344_impl_errSyntax), ("loop.example/g01344/impl.errNotFound", laid_loop_example_g01344_impl_errNotFound)] }
def FnExactWaterPowerSaid : Prop := fnExactWaterPowerRow.holds Tryd.pinned (OpenSpec.ofChange fnExactWaterPowerSpec)

/-- ITS FALSE NEIGHBOUR: 'it returns false'. Refute it at one input. -/
def fnExactWaterPowerWrong : ChangeSpec := { name := "fnExactWaterPower", vars := ["loop.example/g01344/impl.errRange", "loop.example/g01344/impl.errInvalid", "loop.example/g01344/impl.errLimit", "loop.example/g01344/impl.errSyntax", "loop.example/g01344/impl.errNotFound"], fn := fun _ => fun
  | [d1, d2, d3, g1, g2, g3, g4, g5] => { results := [.lit (.bool false)], args := [d1, d2, d3], vars := [g1, g2, g3, g4, g5] }
  | _ => none }
def FnExactWaterPowerWrongFalsely : Prop := fnExactWaterPowerRow.holds Tryd.pinned (OpenSpec.ofChange fnExactWaterPowerWrong)

/-- 'laws.FnExactFillOf': WHATEVER THE INPUT: true; the input reads as it did. -/
def fnExactFillOfSpec : ChangeSpec := { name := "fnExactFillOf", vars := ["loop.example/g01344/impl.errInvalid", "loop.example/g01344/impl.errRange", "loop.example/g01344/impl.errLimit", "loop.example/g01344/impl.errSyntax", "loop.example/g01344/impl.errNotFound"], fn := fun _ => fun
  | [d1, d2, d3, g1, g2, g3, g4, g5] => { results := [.lit (.bool true)], args := [d1, d2, d3], vars := [g1, g2, g3, g4, g5] }
  | _ => none }
def fnExactFillOfRow : OpenClaim := { program := "ytajifkbpjabciaadoor", sum := "bf79c15ce98c20176e9030f31005b4b8ae69c6babf87e463019f92330cf366e8", func := "loop.example/g01344/laws.FnExactFillOf", spec := "fnExactFillOf", inPlace := ["internal/reflectlite.TypeOf"], unfollowed := true, recurses := true, named := ["loop.example/g01344/impl.errInvalid", "loop.example/g01344/impl.errRange", "loop.example/g01344/impl.errLimit", "loop.example/g01344/impl.errSyntax", "loop.example/g01344/impl.errNotFound"], ifaces := true, plainKeys := false, apart := false, laid := [("loop.example/g01344/impl.errInvalid", laid_loop_example_g01344_impl_errInvalid), ("loop.example/g01344/impl.errRange", laid_loop_example_g01344_impl_errRange), ("loop.example/g01344/impl.errLimit", laid_loop_example_g01344_impl_errLimit), ("loop.example/g01344/impl.errSyntax", laid_loop_example_g01344_impl_errSyntax), ("loop.example/g01344/impl.errNotFound", laid_loop_example_g01344_impl_errNotFound)] }
def FnExactFillOfSaid : Prop := fnExactFillOfRow.holds Tryd.pinned (OpenSpec.ofChange fnExactFillOfSpec)

/-- ITS FALSE NEIGHBOUR: 'it returns false'. Refute it at one input. -/
def fnExactFillOfWrong : ChangeSpec := { name := "fnExactFillOf", vars := ["loop.example/g01344/impl.errInvalid", "loop.example/g01344/impl.errRange", "loop.example/g01344/impl.errLimit", "loop.example/g01344/impl.errSyntax", "loop.example/g01344/impl.errNotFound"], fn := fun _ => fun
  | [d1, d2, d3, g1, g2, g3, g4, g5] => { results := [.lit (.bool false)], args := [d1, d2, d3], vars := [g1, g2, g3, g4, g5] }
  | _ => none }
def FnExactFillOfWrongFalsely : Prop := fnExactFillOfRow.holds Tryd.pinned (OpenSpec.ofChange fnExactFillOfWrong)

/-- 'laws.FnExactSpilledBy': WHATEVER THE INPUT: true; the input reads as it did. -/
def fnExactSpilledBySpec : ChangeSpec := { name := "fnExactSpilledBy", vars := ["loop.example/g01344/impl.errInvalid", "loop.example/g01344/impl.errRange", "loop.example/g01344/impl.errLimit", "loop.example/g01344/impl.errSyntax", "loop.example/g01344/impl.errNotFound"], fn := fun _ => fun
  | [d1, d2, d3, g1, g2, g3, g4, g5] => { results := [.lit (.bool true)], args := [d1, d2, d3], vars := [g1, g2, g3, g4, g5] }
  | _ => none }
def fnExactSpilledByRow : OpenClaim := { program := "ytajifkbpjabciaadoor", sum := "bf79c15ce98c20176e9030f31005b4b8ae69c6babf87e463019f92330cf366e8", func := "loop.example/g01344/laws.FnExactSpilledBy", spec := "fnExactSpilledBy", inPlace := ["internal/reflectlite.TypeOf"], unfollowed := true, recurses := true, named := ["loop.example/g01344/impl.errInvalid", "loop.example/g01344/impl.errRange", "loop.example/g01344/impl.errLimit", "loop.example/g01344/impl.errSyntax", "loop.example/g01344/impl.errNotFound"], ifaces := true, plainKeys := false, apart := false, laid := [("loop.example/g01344/impl.errInvalid", laid_loop_example_g01344_impl_errInvalid), ("loop.example/g01344/impl.errRange", laid_loop_example_g01344_impl_errRange), ("loop.example/g01344/impl.errLimit", laid_loop_example_g01344_impl_errLimit), ("loop.example/g01344/impl.errSyntax", laid_loop_example_g01344_impl_errSyntax), ("loop.example/g01344/impl.errNotFound", laid_loop_example_g01344_impl_errNotFound)] }
def FnExactSpilledBySaid : Prop := fnExactSpilledByRow.holds Tryd.pinned (OpenSpec.ofChange fnExactSpilledBySpec)

/-- ITS FALSE NEIGHBOUR: 'it returns false'. Refute it at one input. -/
def fnExactSpilledByWrong : ChangeSpec := { name := "fnExactSpilledBy", vars := ["loop.example/g01344/impl.errInvalid", "loop.example/g01344/impl.errRange", "loop.example/g01344/impl.errLimit", "loop.example/g01344/impl.errSyntax", "loop.example/g01344/impl.errNotFound"], fn := fun _ => fun
  | [d1, d2, d3, g1, g2, g3, g4, g5] => { results := [.lit (.bool false)], args := [d1, d2, d3], vars := [g1, g2, g3, g4, g5] }
  | _ => none }
def FnExactSpilledByWrongFalsely : Prop := fnExactSpilledByRow.holds Tryd.pinned (OpenSpec.ofChange fnExactSpilledByWrong)

/-- 'laws.FnExactTorqueFrom': WHATEVER THE INPUT: true; the input reads as it did. -/
def fnExactTorqueFromSpec : ChangeSpec := { name := "fnExactTorqueFrom", vars := ["loop.example/g01344/impl.errInvalid", "loop.example/g01344/impl.errRange", "loop.example/g01344/impl.errLimit", "loop.example/g01344/impl.errSyntax", "loop.example/g01344/impl.errNotFound"], fn := fun _ => fun
  | [d1, d2, d3, g1, g2, g3, g4, g5] => { results := [.lit (.bool true)], args := [d1, d2, d3], vars := [g1, g2, g3, g4, g5] }
  | _ => none }
def fnExactTorqueFromRow : OpenClaim := { program := "ytajifkbpjabciaadoor", sum := "bf79c15ce98c20176e9030f31005b4b8ae69c6babf87e463019f92330cf366e8", func := "loop.example/g01344/laws.FnExactTorqueFrom", spec := "fnExactTorqueFrom", inPlace := ["internal/reflectlite.TypeOf"], unfollowed := true, recurses := true, named := ["loop.example/g01344/impl.errInvalid", "loop.example/g01344/impl.errRange", "loop.example/g01344/impl.errLimit", "loop.example/g01344/impl.errSyntax", "loop.example/g01344/impl.errNotFound"], ifaces := true, plainKeys := false, apart := false, laid := [("loop.example/g01344/impl.errInvalid", laid_loop_example_g01344_impl_errInvalid), ("loop.example/g01344/impl.errRange", laid_loop_example_g01344_impl_errRange), ("loop.example/g01344/impl.errLimit", laid_loop_example_g01344_impl_errLimit), ("loop.example/g01344/impl.errSyntax", laid_loop_example_g01344_impl_errSyntax), ("loop.example/g01344/impl.errNotFound", laid_loop_example_g01344_impl_errNotFound)] }
def FnExactTorqueFromSaid : Prop := fnExactTorqueFromRow.holds Tryd.pinned (OpenSpec.ofChange fnExactTorqueFromSpec)

/-- ITS FALSE NEIGHBOUR: 'it returns false'. Refute it at one input. -/
def fnExactTorqueFromWrong : ChangeSpec := { name := "fnExactTorqueFrom", vars := ["loop.example/g01344/impl.errInvalid", "loop.example/g01344/impl.errRange", "loop.example/g01344/impl.errLimit", "loop.example/g01344/impl.errSyntax", "loop.example/g01344/impl.errNotFound"], fn := fun _ => fun
  | [d1, d2, d3, g1, g2, g3, g4, g5] => { results := [.lit (.bool false)], args := [d1, d2, d3], vars := [g1, g2, g3, g4, g5] }
  | _ => none }
def FnExactTorqueFromWrongFalsely : Prop := fnExactTorqueFromRow.holds Tryd.pinned (OpenSpec.ofChange fnExactTorqueFromWrong)

/-- 'laws.FnExactTorqueAt': WHATEVER THE INPUT: true; the input reads as it did. -/
def fnExactTorqueAtSpec : ChangeSpec := { name := "fnExactTorqueAt", vars := ["loop.example/g01344/impl.errInvalid", "loop.example/g01344/impl.errRange", "loop.example/g01344/impl.errLimit", "loop.example/g01344/impl.errSyntax", "loop.example/g01344/impl.errNotFound"], fn := fun _ => fun
  | [d1, d2, g1, g2, g3, g4, g5] => { results := [.lit (.bool true)], args := [d1, d2], vars := [g1, g2, g3, g4, g5] }
  | _ => none }
def fnExactTorqueAtRow : OpenClaim := { program := "ytajifkbpjabciaadoor", sum := "bf79c15ce98c20176e9030f31005b4b8ae69c6babf87e463019f92330cf366e8", func := "loop.example/g01344/laws.FnExactTorqueAt", spec := "fnExactTorqueAt", inPlace := ["math.sqrt", "internal/reflectlite.TypeOf", "math.Float32bits"], unfollowed := true, recurses := true, named := ["loop.example/g01344/impl.errInvalid", "loop.example/g01344/impl.errRange", "loop.example/g01344/impl.errLimit", "loop.example/g01344/impl.errSyntax", "loop.example/g01344/impl.errNotFound"], ifaces := true, plainKeys := false, apart := false, laid := [("loop.example/g01344/impl.errInvalid", laid_loop_example_g01344_impl_errInvalid), ("loop.example/g01344/impl.errRange", laid_loop_example_g01344_impl_errRange), ("loop.example/g01344/impl.errLimit", laid_loop_example_g01344_impl_errLimit), ("loop.example/g01344/impl.errSyntax", laid_loop_example_g01344_impl_errSyntax), ("loop.example/g01344/impl.errNotFound", laid_loop_example_g01344_impl_errNotFound)] }
def FnExactTorqueAtSaid : Prop := fnExactTorqueAtRow.holds Tryd.pinned (OpenSpec.ofChange fnExactTorqueAtSpec)

/-- ITS FALSE NEIGHBOUR: 'it returns false'. Refute it at one input. -/
def fnExactTorqueAtWrong : ChangeSpec := { name := "fnExactTorqueAt", vars := ["loop.example/g01344/impl.errInvalid", "loop.example/g01344/impl.errRange", "loop.example/g01344/impl.errLimit", "loop.example/g01344/impl.errSyntax", "loop.example/g01344/impl.errNotFound"], fn := fun _ => fun
  | [d1, d2, g1, g2, g3, g4, g5] => { results := [.lit (.bool false)], args := [d1, d2], vars := [g1, g2, g3, g4, g5] }
  | _ => none }
def FnExactTorqueAtWrongFalsely : Prop := fnExactTorqueAtRow.holds Tryd.pinned (OpenSpec.ofChange fnExactTorqueAtWrong)

/- THE SECOND FORM. 'bulk': how many values and letters a reading holds, each counted each time it is reached (what is shared counts as often as it is met; a slice's spare places count too). A statement '..UptoSaid' is the law's where the arguments, and the package variables that the reading takes, are together of bulk at most 1048576: NARROWER than '..Said'. Prove '..Said' where nothing that the law and all that it calls make is longer than what came in: it says more and counts as full. Else prove '..UptoSaid'. A law counts once. -/
mutual
def uptoBulk {H : Type} : DataW H → Nat
  | .lit (.string bytes) => bytes.length + 1
  | .lit _ => 1
  | .nil => 1
  | .ptr d => uptoBulk d + 1
  | .slice elems spare => uptoBulkAll elems + uptoBulkAll spare + 1
  | .agg parts => uptoBulkAll parts + 1
  | .iface _ d => uptoBulk d + 1
  | .map entries => uptoBulkEntries entries + 1
  | .held _ => 1
def uptoBulkAll {H : Type} : List (DataW H) → Nat
  | [] => 0
  | d :: r => uptoBulk d + uptoBulkAll r
def uptoBulkEntries {H : Type} : List (Lit × DataW H) → Nat
  | [] => 0
  | x :: r => uptoBulkEntry x + uptoBulkEntries r
def uptoBulkEntry {H : Type} : Lit × DataW H → Nat
  | (.string bytes, d) => bytes.length + uptoBulk d + 1
  | (_, d) => uptoBulk d + 1
 end
def uptoSmall : (H : Type) → List (DataW H) → Bool := fun _ ds => decide (uptoBulkAll ds ≤ 1048576)
def OpenSpec.upto (s : _root_.Go.ChangeSpec) : _root_.Go.OpenSpec := { _root_.Go.OpenSpec.ofChange s with cond := some uptoSmall }

/-- 'laws.FnExactWaterSpeed', WHERE WHAT IT READS IS OF BULK AT MOST 1048576: true; the input reads as it did. -/
def fnExactWaterSpeedUptoRow : OpenClaim := { program := "ytajifkbpjabciaadoor", sum := "bf79c15ce98c20176e9030f31005b4b8ae69c6babf87e463019f92330cf366e8", func := "loop.example/g01344/laws.FnExactWaterSpeed", spec := "fnExactWaterSpeed", inPlace := ["math.sqrt", "internal/reflectlite.TypeOf"], unfollowed := true, recurses := true, named := ["loop.example/g01344/impl.errRange", "loop.example/g01344/impl.errInvalid", "loop.example/g01344/impl.errLimit", "loop.example/g01344/impl.errSyntax", "loop.example/g01344/impl.errNotFound"], ifaces := true, plainKeys := false, apart := false, laid := [("loop.example/g01344/impl.errInvalid", laid_loop_example_g01344_impl_errInvalid), ("loop.example/g01344/impl.errRange", laid_loop_example_g01344_impl_errRange), ("loop.example/g01344/impl.errLimit", laid_loop_example_g01344_impl_errLimit), ("loop.example/g01344/impl.errSyntax", laid_loop_example_g01344_impl_errSyntax), ("loop.example/g01344/impl.errNotFound", laid_loop_example_g01344_impl_errNotFound)], narrowed := true }
def FnExactWaterSpeedUptoSaid : Prop := fnExactWaterSpeedUptoRow.holds Tryd.pinned (OpenSpec.upto fnExactWaterSpeedSpec)

/-- 'laws.FnExactFlowThrough', WHERE WHAT IT READS IS OF BULK AT MOST 1048576: true; the input reads as it did. -/
def fnExactFlowThroughUptoRow : OpenClaim := { program := "ytajifkbpjabciaadoor", sum := "bf79c15ce98c20176e9030f31005b4b8ae69c6babf87e463019f92330cf366e8", func := "loop.example/g01344/laws.FnExactFlowThrough", spec := "fnExactFlowThrough", inPlace := ["math.sqrt", "internal/reflectlite.TypeOf"], unfollowed := true, recurses := true, named := ["loop.example/g01344/impl.errRange", "loop.example/g01344/impl.errInvalid", "loop.example/g01344/impl.errLimit", "loop.example/g01344/impl.errSyntax", "loop.example/g01344/impl.errNotFound"], ifaces := true, plainKeys := false, apart := false, laid := [("loop.example/g01344/impl.errInvalid", laid_loop_example_g01344_impl_errInvalid), ("loop.example/g01344/impl.errRange", laid_loop_example_g01344_impl_errRange), ("loop.example/g01344/impl.errLimit", laid_loop_example_g01344_impl_errLimit), ("loop.example/g01344/impl.errSyntax", laid_loop_example_g01344_impl_errSyntax), ("loop.example/g01344/impl.errNotFound", laid_loop_example_g01344_impl_errNotFound)], narrowed := true }
def FnExactFlowThroughUptoSaid : Prop := fnExactFlowThroughUptoRow.holds Tryd.pinned (OpenSpec.upto fnExactFlowThroughSpec)

/-- 'laws.FnExactWaterPower', WHERE WHAT IT READS IS OF BULK AT MOST 1048576: true; the input reads as it did. -/
def fnExactWaterPowerUptoRow : OpenClaim := { program := "ytajifkbpjabciaadoor", sum := "bf79c15ce98c20176e9030f31005b4b8ae69c6babf87e463019f92330cf366e8", func := "loop.example/g01344/laws.FnExactWaterPower", spec := "fnExactWaterPower", inPlace := ["internal/reflectlite.TypeOf"], unfollowed := true, recurses := true, named := ["loop.example/g01344/impl.errRange", "loop.example/g01344/impl.errInvalid", "loop.example/g01344/impl.errLimit", "loop.example/g01344/impl.errSyntax", "loop.example/g01344/impl.errNotFound"], ifaces := true, plainKeys := false, apart := false, laid := [("loop.example/g01344/impl.errInvalid", laid_loop_example_g01344_impl_errInvalid), ("loop.example/g01344/impl.errRange", laid_loop_example_g01344_impl_errRange), ("loop.example/g01344/impl.errLimit", laid_loop_example_g01344_impl_errLimit), ("loop.example/g01344/impl.errSyntax", laid_loop_example_g01344_impl_errSyntax), ("loop.example/g01344/impl.errNotFound", laid_loop_example_g01344_impl_errNotFound)], narrowed := true }
def FnExactWaterPowerUptoSaid : Prop := fnExactWaterPowerUptoRow.holds Tryd.pinned (OpenSpec.upto fnExactWaterPowerSpec)

/-- 'laws.FnExactFillOf', WHERE WHAT IT READS IS OF BULK AT MOST 1048576: true; the input reads as it did. -/
def fnExactFillOfUptoRow : OpenClaim := { program := "ytajifkbpjabciaadoor", sum := "bf79c15ce98c20176e9030f31005b4b8ae69c6babf87e463019f92330cf366e8", func := "loop.example/g01344/laws.FnExactFillOf", spec := "fnExactFillOf", inPlace := ["internal/reflectlite.TypeOf"], unfollowed := true, recurses := true, named := ["loop.example/g01344/impl.errInvalid", "loop.example/g01344/impl.errRange", "loop.example/g01344/impl.errLimit", "loop.example/g01344/impl.errSyntax", "loop.example/g01344/impl.errNotFound"], ifaces := true, plainKeys := false, apart := false, laid := [("loop.example/g01344/impl.errInvalid", laid_loop_example_g01344_impl_errInvalid), ("loop.example/g01344/impl.errRange", laid_loop_example_g01344_impl_errRange), ("loop.example/g01344/impl.errLimit", laid_loop_example_g01344_impl_errLimit), ("loop.example/g01344/impl.errSyntax", laid_loop_example_g01344_impl_errSyntax), ("loop.example/g01344/impl.errNotFound", laid_loop_example_g01344_impl_errNotFound)], narrowed := true }
def FnExactFillOfUptoSaid : Prop := fnExactFillOfUptoRow.holds Tryd.pinned (OpenSpec.upto fnExactFillOfSpec)

/-- 'laws.FnExactSpilledBy', WHERE WHAT IT READS IS OF BULK AT MOST 1048576: true; the input reads as it did. -/
def fnExactSpilledByUptoRow : OpenClaim := { program := "ytajifkbpjabciaadoor", sum := "bf79c15ce98c20176e9030f31005b4b8ae69c6babf87e463019f92330cf366e8", func := "loop.example/g01344/laws.FnExactSpilledBy", spec := "fnExactSpilledBy", inPlace := ["internal/reflectlite.TypeOf"], unfollowed := true, recurses := true, named := ["loop.example/g01344/impl.errInvalid", "loop.example/g01344/impl.errRange", "loop.example/g01344/impl.errLimit", "loop.example/g01344/impl.errSyntax", "loop.example/g01344/impl.errNotFound"], ifaces := true, plainKeys := false, apart := false, laid := [("loop.example/g01344/impl.errInvalid", laid_loop_example_g01344_impl_errInvalid), ("loop.example/g01344/impl.errRange", laid_loop_example_g01344_impl_errRange), ("loop.example/g01344/impl.errLimit", laid_loop_example_g01344_impl_errLimit), ("loop.example/g01344/impl.errSyntax", laid_loop_example_g01344_impl_errSyntax), ("loop.example/g01344/impl.errNotFound", laid_loop_example_g01344_impl_errNotFound)], narrowed := true }
def FnExactSpilledByUptoSaid : Prop := fnExactSpilledByUptoRow.holds Tryd.pinned (OpenSpec.upto fnExactSpilledBySpec)

/-- 'laws.FnExactTorqueFrom', WHERE WHAT IT READS IS OF BULK AT MOST 1048576: true; the input reads as it did. -/
def fnExactTorqueFromUptoRow : OpenClaim := { program := "ytajifkbpjabciaadoor", sum := "bf79c15ce98c20176e9030f31005b4b8ae69c6babf87e463019f92330cf366e8", func := "loop.example/g01344/laws.FnExactTorqueFrom", spec := "fnExactTorqueFrom", inPlace := ["internal/reflectlite.TypeOf"], unfollowed := true, recurses := true, named := ["loop.example/g01344/impl.errInvalid", "loop.example/g01344/impl.errRange", "loop.example/g01344/impl.errLimit", "loop.example/g01344/impl.errSyntax", "loop.example/g01344/impl.errNotFound"], ifaces := true, plainKeys := false, apart := false, laid := [("loop.example/g01344/impl.errInvalid", laid_loop_example_g01344_impl_errInvalid), ("loop.example/g01344/impl.errRange", laid_loop_example_g01344_impl_errRange), ("loop.example/g01344/impl.errLimit", laid_loop_example_g01344_impl_errLimit), ("loop.example/g01344/impl.errSyntax", laid_loop_example_g01344_impl_errSyntax), ("loop.example/g01344/impl.errNotFound", laid_loop_example_g01344_impl_errNotFound)], narrowed := true }
def FnExactTorqueFromUptoSaid : Prop := fnExactTorqueFromUptoRow.holds Tryd.pinned (OpenSpec.upto fnExactTorqueFromSpec)

/-- 'laws.FnExactTorqueAt', WHERE WHAT IT READS IS OF BULK AT MOST 1048576: true; the input reads as it did. -/
def fnExactTorqueAtUptoRow : OpenClaim := { program := "ytajifkbpjabciaadoor", sum := "bf79c15ce98c20176e9030f31005b4b8ae69c6babf87e463019f92330cf366e8", func := "loop.example/g01344/laws.FnExactTorqueAt", spec := "fnExactTorqueAt", inPlace := ["math.sqrt", "internal/reflectlite.TypeOf", "math.Float32bits"], unfollowed := true, recurses := true, named := ["loop.example/g01344/impl.errInvalid", "loop.example/g01344/impl.errRange", "loop.example/g01344/impl.errLimit", "loop.example/g01344/impl.errSyntax", "loop.example/g01344/impl.errNotFound"], ifaces := true, plainKeys := false, apart := false, laid := [("loop.example/g01344/impl.errInvalid", laid_loop_example_g01344_impl_errInvalid), ("loop.example/g01344/impl.errRange", laid_loop_example_g01344_impl_errRange), ("loop.example/g01344/impl.errLimit", laid_loop_example_g01344_impl_errLimit), ("loop.example/g01344/impl.errSyntax", laid_loop_example_g01344_impl_errSyntax), ("loop.example/g01344/impl.errNotFound", laid_loop_example_g01344_impl_errNotFound)], narrowed := true }
def FnExactTorqueAtUptoSaid : Prop := fnExactTorqueAtUptoRow.holds Tryd.pinned (OpenSpec.upto fnExactTorqueAtSpec)

end Rows
end Go.Proofs.YtajifkbpjabciaaDoor
