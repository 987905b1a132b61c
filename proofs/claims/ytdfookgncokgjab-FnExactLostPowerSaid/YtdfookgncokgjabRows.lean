/-
  No cell of these rows narrows 'for every input' (looked for: loops, veiled, ifaces, maps, wideKeys, modest, calm, conditions, laid).
  DERIVED. THE GIVEN ROWS OF THIS SEAT. 12 by the template 'for every input the law returns true; each argument reads behind the call as it read before'; 0 by the template 'total and deterministic' (their statements: YtdfookgncokgjabTotals.lean).
  GIVEN WITH THE SEED: the statements are not yours to turn. If you find one false, say at which input.
  Laid BY PROGRAM, IN A SANDBOX (cutbox-rows.mjs): the forced cells as the released guide's own fill.sh prints them over the translation 10183dd8becc8662… (all of the seat's roots in one cut). By AI agents, Wed Nov 11 2026. No macro, syntax, notation, axiom, sorry.
-/
import Derived.Test.YtdfookgncokgjabChecked
import GoSem.Claim
import GoSem.ClaimJoined
import GoSem.ClaimMapViews
import Derived.JoinedTies
import Derived.KernelRfl
namespace Go.Proofs.Ytdfookgncokgjab
/- THE CELL 'sum', in the pinned program and in every row, IS THE sha256 OF THE DUMP (.gsa) THAT YtdfookgncokgjabProg.lean LOADS. Nothing in Lean hashes anything: it is a label: what it is worth is what the hold of that sum in a sandbox is worth. -/
noncomputable def Try.pinned : Pinned := { name := "ytdfookgncokgjab", sum := "10183dd8becc86625f2927b4302183da574d9d9b42ec18c2caf28a0d1a8b3c5d", checked := Try.checked }
namespace Rows
def none {H : Type} : Left H := { results := [], args := [] }

/-- 'laws.FnExactIsReversed': WHATEVER THE INPUT: true; the input reads as it did. -/
def fnExactIsReversedSpec : ChangeSpec := { name := "fnExactIsReversed", fn := fun _ => fun
  | [d] => { results := [.lit (.bool true)], args := [d] }
  | _ => none }
def fnExactIsReversedRow : OpenClaim := { program := "ytdfookgncokgjab", sum := "10183dd8becc86625f2927b4302183da574d9d9b42ec18c2caf28a0d1a8b3c5d", func := "loop.example/g01344/laws.FnExactIsReversed", spec := "fnExactIsReversed", unfollowed := true, recurses := true, apart := false }
def FnExactIsReversedSaid : Prop := fnExactIsReversedRow.holds Try.pinned (OpenSpec.ofChange fnExactIsReversedSpec)

/-- ITS FALSE NEIGHBOUR: 'it returns false'. Refute it at one input. -/
def fnExactIsReversedWrong : ChangeSpec := { name := "fnExactIsReversed", fn := fun _ => fun
  | [d] => { results := [.lit (.bool false)], args := [d] }
  | _ => none }
def FnExactIsReversedWrongFalsely : Prop := fnExactIsReversedRow.holds Try.pinned (OpenSpec.ofChange fnExactIsReversedWrong)

/-- 'laws.FnExactSpeedsOf': WHATEVER THE INPUT: true; the input reads as it did. -/
def fnExactSpeedsOfSpec : ChangeSpec := { name := "fnExactSpeedsOf", fn := fun _ => fun
  | [d1, d2] => { results := [.lit (.bool true)], args := [d1, d2] }
  | _ => none }
def fnExactSpeedsOfRow : OpenClaim := { program := "ytdfookgncokgjab", sum := "10183dd8becc86625f2927b4302183da574d9d9b42ec18c2caf28a0d1a8b3c5d", func := "loop.example/g01344/laws.FnExactSpeedsOf", spec := "fnExactSpeedsOf", unfollowed := true, recurses := true, apart := false }
def FnExactSpeedsOfSaid : Prop := fnExactSpeedsOfRow.holds Try.pinned (OpenSpec.ofChange fnExactSpeedsOfSpec)

/-- ITS FALSE NEIGHBOUR: 'it returns false'. Refute it at one input. -/
def fnExactSpeedsOfWrong : ChangeSpec := { name := "fnExactSpeedsOf", fn := fun _ => fun
  | [d1, d2] => { results := [.lit (.bool false)], args := [d1, d2] }
  | _ => none }
def FnExactSpeedsOfWrongFalsely : Prop := fnExactSpeedsOfRow.holds Try.pinned (OpenSpec.ofChange fnExactSpeedsOfWrong)

/-- 'laws.FnExactTorquesOf': WHATEVER THE INPUT: true; the input reads as it did. -/
def fnExactTorquesOfSpec : ChangeSpec := { name := "fnExactTorquesOf", fn := fun _ => fun
  | [d1, d2] => { results := [.lit (.bool true)], args := [d1, d2] }
  | _ => none }
def fnExactTorquesOfRow : OpenClaim := { program := "ytdfookgncokgjab", sum := "10183dd8becc86625f2927b4302183da574d9d9b42ec18c2caf28a0d1a8b3c5d", func := "loop.example/g01344/laws.FnExactTorquesOf", spec := "fnExactTorquesOf", unfollowed := true, recurses := true, apart := false }
def FnExactTorquesOfSaid : Prop := fnExactTorquesOfRow.holds Try.pinned (OpenSpec.ofChange fnExactTorquesOfSpec)

/-- ITS FALSE NEIGHBOUR: 'it returns false'. Refute it at one input. -/
def fnExactTorquesOfWrong : ChangeSpec := { name := "fnExactTorquesOf", fn := fun _ => fun
  | [d1, d2] => { results := [.lit (.bool false)], args := [d1, d2] }
  | _ => none }
def FnExactTorquesOfWrongFalsely : Prop := fnExactTorquesOfRow.holds Try.pinned (OpenSpec.ofChange fnExactTorquesOfWrong)

/-- 'laws.FnExactPowersOf': WHATEVER THE INPUT: true; the input reads as it did. -/
def fnExactPowersOfSpec : ChangeSpec := { name := "fnExactPowersOf", fn := fun _ => fun
  | [d1, d2, d3] => { results := [.lit (.bool true)], args := [d1, d2, d3] }
  | _ => none }
def fnExactPowersOfRow : OpenClaim := { program := "ytdfookgncokgjab", sum := "10183dd8becc86625f2927b4302183da574d9d9b42ec18c2caf28a0d1a8b3c5d", func := "loop.example/g01344/laws.FnExactPowersOf", spec := "fnExactPowersOf", unfollowed := true, recurses := true, apart := false }
def FnExactPowersOfSaid : Prop := fnExactPowersOfRow.holds Try.pinned (OpenSpec.ofChange fnExactPowersOfSpec)

/-- ITS FALSE NEIGHBOUR: 'it returns false'. Refute it at one input. -/
def fnExactPowersOfWrong : ChangeSpec := { name := "fnExactPowersOf", fn := fun _ => fun
  | [d1, d2, d3] => { results := [.lit (.bool false)], args := [d1, d2, d3] }
  | _ => none }
def FnExactPowersOfWrongFalsely : Prop := fnExactPowersOfRow.holds Try.pinned (OpenSpec.ofChange fnExactPowersOfWrong)

/-- 'laws.FnExactEfficiencyOf': WHATEVER THE INPUT: true; the input reads as it did. -/
def fnExactEfficiencyOfSpec : ChangeSpec := { name := "fnExactEfficiencyOf", fn := fun _ => fun
  | [d] => { results := [.lit (.bool true)], args := [d] }
  | _ => none }
def fnExactEfficiencyOfRow : OpenClaim := { program := "ytdfookgncokgjab", sum := "10183dd8becc86625f2927b4302183da574d9d9b42ec18c2caf28a0d1a8b3c5d", func := "loop.example/g01344/laws.FnExactEfficiencyOf", spec := "fnExactEfficiencyOf", unfollowed := true, recurses := true, apart := false }
def FnExactEfficiencyOfSaid : Prop := fnExactEfficiencyOfRow.holds Try.pinned (OpenSpec.ofChange fnExactEfficiencyOfSpec)

/-- ITS FALSE NEIGHBOUR: 'it returns false'. Refute it at one input. -/
def fnExactEfficiencyOfWrong : ChangeSpec := { name := "fnExactEfficiencyOf", fn := fun _ => fun
  | [d] => { results := [.lit (.bool false)], args := [d] }
  | _ => none }
def FnExactEfficiencyOfWrongFalsely : Prop := fnExactEfficiencyOfRow.holds Try.pinned (OpenSpec.ofChange fnExactEfficiencyOfWrong)

/-- 'laws.FnExactLostPower': WHATEVER THE INPUT: true; the input reads as it did. -/
def fnExactLostPowerSpec : ChangeSpec := { name := "fnExactLostPower", fn := fun _ => fun
  | [d1, d2, d3] => { results := [.lit (.bool true)], args := [d1, d2, d3] }
  | _ => none }
def fnExactLostPowerRow : OpenClaim := { program := "ytdfookgncokgjab", sum := "10183dd8becc86625f2927b4302183da574d9d9b42ec18c2caf28a0d1a8b3c5d", func := "loop.example/g01344/laws.FnExactLostPower", spec := "fnExactLostPower", unfollowed := true, recurses := true, apart := false }
def FnExactLostPowerSaid : Prop := fnExactLostPowerRow.holds Try.pinned (OpenSpec.ofChange fnExactLostPowerSpec)

/-- ITS FALSE NEIGHBOUR: 'it returns false'. Refute it at one input. -/
def fnExactLostPowerWrong : ChangeSpec := { name := "fnExactLostPower", fn := fun _ => fun
  | [d1, d2, d3] => { results := [.lit (.bool false)], args := [d1, d2, d3] }
  | _ => none }
def FnExactLostPowerWrongFalsely : Prop := fnExactLostPowerRow.holds Try.pinned (OpenSpec.ofChange fnExactLostPowerWrong)

/-- 'laws.FnExactWorstPair': WHATEVER THE INPUT: true; the input reads as it did. -/
def fnExactWorstPairSpec : ChangeSpec := { name := "fnExactWorstPair", fn := fun _ => fun
  | [d] => { results := [.lit (.bool true)], args := [d] }
  | _ => none }
def fnExactWorstPairRow : OpenClaim := { program := "ytdfookgncokgjab", sum := "10183dd8becc86625f2927b4302183da574d9d9b42ec18c2caf28a0d1a8b3c5d", func := "loop.example/g01344/laws.FnExactWorstPair", spec := "fnExactWorstPair", inPlace := ["math.Float32bits"], unfollowed := true, recurses := true, apart := false }
def FnExactWorstPairSaid : Prop := fnExactWorstPairRow.holds Try.pinned (OpenSpec.ofChange fnExactWorstPairSpec)

/-- ITS FALSE NEIGHBOUR: 'it returns false'. Refute it at one input. -/
def fnExactWorstPairWrong : ChangeSpec := { name := "fnExactWorstPair", fn := fun _ => fun
  | [d] => { results := [.lit (.bool false)], args := [d] }
  | _ => none }
def FnExactWorstPairWrongFalsely : Prop := fnExactWorstPairRow.holds Try.pinned (OpenSpec.ofChange fnExactWorstPairWrong)

/-- 'laws.FnExactWithLoss': WHATEVER THE INPUT: true; the input reads as it did. -/
def fnExactWithLossSpec : ChangeSpec := { name := "fnExactWithLoss", fn := fun _ => fun
  | [d1, d2, d3] => { results := [.lit (.bool true)], args := [d1, d2, d3] }
  | _ => none }
def fnExactWithLossRow : OpenClaim := { program := "ytdfookgncokgjab", sum := "10183dd8becc86625f2927b4302183da574d9d9b42ec18c2caf28a0d1a8b3c5d", func := "loop.example/g01344/laws.FnExactWithLoss", spec := "fnExactWithLoss", unfollowed := true, recurses := true, apart := false }
def FnExactWithLossSaid : Prop := fnExactWithLossRow.holds Try.pinned (OpenSpec.ofChange fnExactWithLossSpec)

/-- ITS FALSE NEIGHBOUR: 'it returns false'. Refute it at one input. -/
def fnExactWithLossWrong : ChangeSpec := { name := "fnExactWithLoss", fn := fun _ => fun
  | [d1, d2, d3] => { results := [.lit (.bool false)], args := [d1, d2, d3] }
  | _ => none }
def FnExactWithLossWrongFalsely : Prop := fnExactWithLossRow.holds Try.pinned (OpenSpec.ofChange fnExactWithLossWrong)

/-- 'laws.FnExactBackTrain': WHATEVER THE INPUT: true; the input reads as it did. -/
def fnExactBackTrainSpec : ChangeSpec := { name := "fnExactBackTrain", fn := fun _ => fun
  | [d] => { results := [.lit (.bool true)], args := [d] }
  | _ => none }
def fnExactBackTrainRow : OpenClaim := { program := "ytdfookgncokgjab", sum := "10183dd8becc86625f2927b4302183da574d9d9b42ec18c2caf28a0d1a8b3c5d", func := "loop.example/g01344/laws.FnExactBackTrain", spec := "fnExactBackTrain", unfollowed := true, recurses := true, apart := false }
def FnExactBackTrainSaid : Prop := fnExactBackTrainRow.holds Try.pinned (OpenSpec.ofChange fnExactBackTrainSpec)

/-- ITS FALSE NEIGHBOUR: 'it returns false'. Refute it at one input. -/
def fnExactBackTrainWrong : ChangeSpec := { name := "fnExactBackTrain", fn := fun _ => fun
  | [d] => { results := [.lit (.bool false)], args := [d] }
  | _ => none }
def FnExactBackTrainWrongFalsely : Prop := fnExactBackTrainRow.holds Try.pinned (OpenSpec.ofChange fnExactBackTrainWrong)

/-- 'laws.FnExactJoinTrains': WHATEVER THE INPUT: true; the input reads as it did. -/
def fnExactJoinTrainsSpec : ChangeSpec := { name := "fnExactJoinTrains", fn := fun _ => fun
  | [d1, d2] => { results := [.lit (.bool true)], args := [d1, d2] }
  | _ => none }
def fnExactJoinTrainsRow : OpenClaim := { program := "ytdfookgncokgjab", sum := "10183dd8becc86625f2927b4302183da574d9d9b42ec18c2caf28a0d1a8b3c5d", func := "loop.example/g01344/laws.FnExactJoinTrains", spec := "fnExactJoinTrains", unfollowed := true, recurses := true, apart := false }
def FnExactJoinTrainsSaid : Prop := fnExactJoinTrainsRow.holds Try.pinned (OpenSpec.ofChange fnExactJoinTrainsSpec)

/-- ITS FALSE NEIGHBOUR: 'it returns false'. Refute it at one input. -/
def fnExactJoinTrainsWrong : ChangeSpec := { name := "fnExactJoinTrains", fn := fun _ => fun
  | [d1, d2] => { results := [.lit (.bool false)], args := [d1, d2] }
  | _ => none }
def FnExactJoinTrainsWrongFalsely : Prop := fnExactJoinTrainsRow.holds Try.pinned (OpenSpec.ofChange fnExactJoinTrainsWrong)

/-- 'laws.FnExactRadiusOf': WHATEVER THE INPUT: true; the input reads as it did. -/
def fnExactRadiusOfSpec : ChangeSpec := { name := "fnExactRadiusOf", fn := fun _ => fun
  | [d1, d2] => { results := [.lit (.bool true)], args := [d1, d2] }
  | _ => none }
def fnExactRadiusOfRow : OpenClaim := { program := "ytdfookgncokgjab", sum := "10183dd8becc86625f2927b4302183da574d9d9b42ec18c2caf28a0d1a8b3c5d", func := "loop.example/g01344/laws.FnExactRadiusOf", spec := "fnExactRadiusOf", apart := false }
def FnExactRadiusOfSaid : Prop := fnExactRadiusOfRow.holds Try.pinned (OpenSpec.ofChange fnExactRadiusOfSpec)

/-- ITS FALSE NEIGHBOUR: 'it returns false'. Refute it at one input. -/
def fnExactRadiusOfWrong : ChangeSpec := { name := "fnExactRadiusOf", fn := fun _ => fun
  | [d1, d2] => { results := [.lit (.bool false)], args := [d1, d2] }
  | _ => none }
def FnExactRadiusOfWrongFalsely : Prop := fnExactRadiusOfRow.holds Try.pinned (OpenSpec.ofChange fnExactRadiusOfWrong)

/-- 'laws.FnExactDistancesOf': WHATEVER THE INPUT: true; the input reads as it did. -/
def fnExactDistancesOfSpec : ChangeSpec := { name := "fnExactDistancesOf", fn := fun _ => fun
  | [d1, d2] => { results := [.lit (.bool true)], args := [d1, d2] }
  | _ => none }
def fnExactDistancesOfRow : OpenClaim := { program := "ytdfookgncokgjab", sum := "10183dd8becc86625f2927b4302183da574d9d9b42ec18c2caf28a0d1a8b3c5d", func := "loop.example/g01344/laws.FnExactDistancesOf", spec := "fnExactDistancesOf", unfollowed := true, recurses := true, apart := false }
def FnExactDistancesOfSaid : Prop := fnExactDistancesOfRow.holds Try.pinned (OpenSpec.ofChange fnExactDistancesOfSpec)

/-- ITS FALSE NEIGHBOUR: 'it returns false'. Refute it at one input. -/
def fnExactDistancesOfWrong : ChangeSpec := { name := "fnExactDistancesOf", fn := fun _ => fun
  | [d1, d2] => { results := [.lit (.bool false)], args := [d1, d2] }
  | _ => none }
def FnExactDistancesOfWrongFalsely : Prop := fnExactDistancesOfRow.holds Try.pinned (OpenSpec.ofChange fnExactDistancesOfWrong)

/- THE SECOND FORM. 'bulk': how many values and letters a reading holds, each counted each time it is reached (what is shared counts as often as it is met; a slice's spare places count too). A statement '..UptoSaid' is the law's where the arguments, and the package variables that the reading takes, are together of bulk at most 1048576: NARROWER than '..Said'. Prove '..Said' where nothing that the law and all that it calls make is longer than what came in: it says more and counts as full. Else prove '..UptoSaid'. A law counts once. -/
mutual
def uptoBulk {H : Type} : DataW H → Nat
  | .lit (.string bytes) => bytes.length + 1
  | .lit _ => 1
  | .nil => 1
  | .ptr d => uptoBulk d + 1
  | .slice elems spare => uptoBulkAll elems + uptoBulkAll spare + 1
  | .agg parts => uptoBulkAll parts + 1
  | .iface _ d => uptoBulk d + 1
  | .map entries => uptoBulkEntries entries + 1
  | .held _ => 1
def uptoBulkAll {H : Type} : List (DataW H) → Nat
  | [] => 0
  | d :: r => uptoBulk d + uptoBulkAll r
def uptoBulkEntries {H : Type} : List (Lit × DataW H) → Nat
  | [] => 0
  | x :: r => uptoBulkEntry x + uptoBulkEntries r
def uptoBulkEntry {H : Type} : Lit × DataW H → Nat
  | (.string bytes, d) => bytes.length + uptoBulk d + 1
  | (_, d) => uptoBulk d + 1
 end
def uptoSmall : (H : Type) → List (DataW H) → Bool := fun _ ds => decide (uptoBulkAll ds ≤ 1048576)
def OpenSpec.upto (s : _root_.Go.ChangeSpec) : _root_.Go.OpenSpec := { _root_.Go.OpenSpec.ofChange s with cond := some uptoSmall }

/-- 'laws.FnExactIsReversed', WHERE WHAT IT READS IS OF BULK AT MOST 1048576: true; the input reads as it did. -/
def fnExactIsReversedUptoRow : OpenClaim := { program := "ytdfookgncokgjab", sum := "10183dd8becc86625f2927b4302183da574d9d9b42ec18c2caf28a0d1a8b3c5d", func := "loop.example/g01344/laws.FnExactIsReversed", spec := "fnExactIsReversed", unfollowed := true, recurses := true, apart := false, narrowed := true }
def FnExactIsReversedUptoSaid : Prop := fnExactIsReversedUptoRow.holds Try.pinned (OpenSpec.upto fnExactIsReversedSpec)

/-- 'laws.FnExactSpeedsOf', WHERE WHAT IT READS IS OF BULK AT MOST 1048576: true; the input reads as it did. -/
def fnExactSpeedsOfUptoRow : OpenClaim := { program := "ytdfookgncokgjab", sum := "10183dd8becc86625f2927b4302183da574d9d9b42ec18c2caf28a0d1a8b3c5d", func := "loop.example/g01344/laws.FnExactSpeedsOf", spec := "fnExactSpeedsOf", unfollowed := true, recurses := true, apart := false, narrowed := true }
def FnExactSpeedsOfUptoSaid : Prop := fnExactSpeedsOfUptoRow.holds Try.pinned (OpenSpec.upto fnExactSpeedsOfSpec)

/-- 'laws.FnExactTorquesOf', WHERE WHAT IT READS IS OF BULK AT MOST 1048576: true; the input reads as it did. -/
def fnExactTorquesOfUptoRow : OpenClaim := { program := "ytdfookgncokgjab", sum := "10183dd8becc86625f2927b4302183da574d9d9b42ec18c2caf28a0d1a8b3c5d", func := "loop.example/g01344/laws.FnExactTorquesOf", spec := "fnExactTorquesOf", unfollowed := true, recurses := true, apart := false, narrowed := true }
def FnExactTorquesOfUptoSaid : Prop := fnExactTorquesOfUptoRow.holds Try.pinned (OpenSpec.upto fnExactTorquesOfSpec)

/-- 'laws.FnExactPowersOf', WHERE WHAT IT READS IS OF BULK AT MOST 1048576: true; the input reads as it did. -/
def fnExactPowersOfUptoRow : OpenClaim := { program := "ytdfookgncokgjab", sum := "10183dd8becc86625f2927b4302183da574d9d9b42ec18c2caf28a0d1a8b3c5d", func := "loop.example/g01344/laws.FnExactPowersOf", spec := "fnExactPowersOf", unfollowed := true, recurses := true, apart := false, narrowed := true }
def FnExactPowersOfUptoSaid : Prop := fnExactPowersOfUptoRow.holds Try.pinned (OpenSpec.upto fnExactPowersOfSpec)

/-- 'laws.FnExactEfficiencyOf', WHERE WHAT IT READS IS OF BULK AT MOST 1048576: true; the input reads as it did. -/
def fnExactEfficiencyOfUptoRow : OpenClaim := { program := "ytdfookgncokgjab", sum := "10183dd8becc86625f2927b4302183da574d9d9b42ec18c2caf28a0d1a8b3c5d", func := "loop.example/g01344/laws.FnExactEfficiencyOf", spec := "fnExactEfficiencyOf", unfollowed := true, recurses := true, apart := false, narrowed := true }
def FnExactEfficiencyOfUptoSaid : Prop := fnExactEfficiencyOfUptoRow.holds Try.pinned (OpenSpec.upto fnExactEfficiencyOfSpec)

/-- 'laws.FnExactLostPower', WHERE WHAT IT READS IS OF BULK AT MOST 1048576: true; the input reads as it did. -/
def fnExactLostPowerUptoRow : OpenClaim := { program := "ytdfookgncokgjab", sum := "10183dd8becc86625f2927b4302183da574d9d9b42ec18c2caf28a0d1a8b3c5d", func := "loop.example/g01344/laws.FnExactLostPower", spec := "fnExactLostPower", unfollowed := true, recurses := true, apart := false, narrowed := true }
def FnExactLostPowerUptoSaid : Prop := fnExactLostPowerUptoRow.holds Try.pinned (OpenSpec.upto fnExactLostPowerSpec)

/-- 'laws.FnExactWorstPair', WHERE WHAT IT READS IS OF BULK AT MOST 1048576: true; the input reads as it did. -/
def fnExactWorstPairUptoRow : OpenClaim := { program := "ytdfookgncokgjab", sum := "10183dd8becc86625f2927b4302183da574d9d9b42ec18c2caf28a0d1a8b3c5d", func := "loop.example/g01344/laws.FnExactWorstPair", spec := "fnExactWorstPair", inPlace := ["math.Float32bits"], unfollowed := true, recurses := true, apart := false, narrowed := true }
def FnExactWorstPairUptoSaid : Prop := fnExactWorstPairUptoRow.holds Try.pinned (OpenSpec.upto fnExactWorstPairSpec)

/-- 'laws.FnExactWithLoss', WHERE WHAT IT READS IS OF BULK AT MOST 1048576: true; the input reads as it did. -/
def fnExactWithLossUptoRow : OpenClaim := { program := "ytdfookgncokgjab", sum := "10183dd8becc86625f2927b4302183da574d9d9b42ec18c2caf28a0d1a8b3c5d", func := "loop.example/g01344/laws.FnExactWithLoss", spec := "fnExactWithLoss", unfollowed := true, recurses := true, apart := false, narrowed := true }
def FnExactWithLossUptoSaid : Prop := fnExactWithLossUptoRow.holds Try.pinned (OpenSpec.upto fnExactWithLossSpec)

/-- 'laws.FnExactBackTrain', WHERE WHAT IT READS IS OF BULK AT MOST 1048576: true; the input reads as it did. -/
def fnExactBackTrainUptoRow : OpenClaim := { program := "ytdfookgncokgjab", sum := "10183dd8becc86625f2927b4302183da574d9d9b42ec18c2caf28a0d1a8b3c5d", func := "loop.example/g01344/laws.FnExactBackTrain", spec := "fnExactBackTrain", unfollowed := true, recurses := true, apart := false, narrowed := true }
def FnExactBackTrainUptoSaid : Prop := fnExactBackTrainUptoRow.holds Try.pinned (OpenSpec.upto fnExactBackTrainSpec)

/-- 'laws.FnExactJoinTrains', WHERE WHAT IT READS IS OF BULK AT MOST 1048576: true; the input reads as it did. -/
def fnExactJoinTrainsUptoRow : OpenClaim := { program := "ytdfookgncokgjab", sum := "10183dd8becc86625f2927b4302183da574d9d9b42ec18c2caf28a0d1a8b3c5d", func := "loop.example/g01344/laws.FnExactJoinTrains", spec := "fnExactJoinTrains", unfollowed := true, recurses := true, apart := false, narrowed := true }
def FnExactJoinTrainsUptoSaid : Prop := fnExactJoinTrainsUptoRow.holds Try.pinned (OpenSpec.upto fnExactJoinTrainsSpec)

/-- 'laws.FnExactRadiusOf', WHERE WHAT IT READS IS OF BULK AT MOST 1048576: true; the input reads as it did. -/
def fnExactRadiusOfUptoRow : OpenClaim := { program := "ytdfookgncokgjab", sum := "10183dd8becc86625f2927b4302183da574d9d9b42ec18c2caf28a0d1a8b3c5d", func := "loop.example/g01344/laws.FnExactRadiusOf", spec := "fnExactRadiusOf", apart := false, narrowed := true }
def FnExactRadiusOfUptoSaid : Prop := fnExactRadiusOfUptoRow.holds Try.pinned (OpenSpec.upto fnExactRadiusOfSpec)

/-- 'laws.FnExactDistancesOf', WHERE WHAT IT READS IS OF BULK AT MOST 1048576: true; the input reads as it did. -/
def fnExactDistancesOfUptoRow : OpenClaim := { program := "ytdfookgncokgjab", sum := "10183dd8becc86625f2927b4302183da574d9d9b42ec18c2caf28a0d1a8b3c5d", func := "loop.example/g01344/laws.FnExactDistancesOf", spec := "fnExactDistancesOf", unfollowed := true, recurses := true, apart := false, narrowed := true }
def FnExactDistancesOfUptoSaid : Prop := fnExactDistancesOfUptoRow.holds Try.pinned (OpenSpec.upto fnExactDistancesOfSpec)

end Rows
end Go.Proofs.Ytdfookgncokgjab
