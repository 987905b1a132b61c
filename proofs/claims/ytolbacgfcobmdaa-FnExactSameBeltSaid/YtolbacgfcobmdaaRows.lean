/-
  No cell of these rows narrows 'for every input' (looked for: loops, veiled, ifaces, maps, wideKeys, modest, calm, conditions, laid).
  DERIVED. THE GIVEN ROWS OF THIS SEAT. 6 by the template 'for every input the law returns true; each argument reads behind the call as it read before'; 0 by the template 'total and deterministic' (their statements: YtolbacgfcobmdaaTotals.lean).
  GIVEN WITH THE SEED: the statements are not yours to turn. If you find one false, say at which input.
  Laid BY PROGRAM, IN A SANDBOX (cutbox-rows.mjs): the forced cells as the released guide's own fill.sh prints them over the translation 334ca6d162f4f676… (all of the seat's roots in one cut). By AI agents, Wed Nov 11 2026. No macro, syntax, notation, axiom, sorry.
-/
import Derived.Test.YtolbacgfcobmdaaChecked
import GoSem.Claim
import GoSem.ClaimJoined
import GoSem.ClaimMapViews
import Derived.JoinedTies
import Derived.KernelRfl
namespace Go.Proofs.Ytolbacgfcobmdaa
/- THE CELL 'sum', in the pinned program and in every row, IS THE sha256 OF THE DUMP (.gsa) THAT YtolbacgfcobmdaaProg.lean LOADS. Nothing in Lean hashes anything: it is a label: what it is worth is what the hold of that sum in a sandbox is worth. -/
noncomputable def Try.pinned : Pinned := { name := "ytolbacgfcobmdaa", sum := "334ca6d162f4f676f0b86ddcc0402f92fcd29f1f6c8a64dfd8eb0cdf09ca5e87", checked := Try.checked }
namespace Rows
def none {H : Type} : Left H := { results := [], args := [] }

/-- 'laws.FnExactWorstPair': WHATEVER THE INPUT: true; the input reads as it did. -/
def fnExactWorstPairSpec : ChangeSpec := { name := "fnExactWorstPair", fn := fun _ => fun
  | [d] => { results := [.lit (.bool true)], args := [d] }
  | _ => none }
def fnExactWorstPairRow : OpenClaim := { program := "ytolbacgfcobmdaa", sum := "334ca6d162f4f676f0b86ddcc0402f92fcd29f1f6c8a64dfd8eb0cdf09ca5e87", func := "loop.example/g01344/laws.FnExactWorstPair", spec := "fnExactWorstPair", inPlace := ["math.Float32bits"], unfollowed := true, recurses := true, apart := false }
def FnExactWorstPairSaid : Prop := fnExactWorstPairRow.holds Try.pinned (OpenSpec.ofChange fnExactWorstPairSpec)

/-- ITS FALSE NEIGHBOUR: 'it returns false'. Refute it at one input. -/
def fnExactWorstPairWrong : ChangeSpec := { name := "fnExactWorstPair", fn := fun _ => fun
  | [d] => { results := [.lit (.bool false)], args := [d] }
  | _ => none }
def FnExactWorstPairWrongFalsely : Prop := fnExactWorstPairRow.holds Try.pinned (OpenSpec.ofChange fnExactWorstPairWrong)

/-- 'laws.FnExactWithLoss': WHATEVER THE INPUT: true; the input reads as it did. -/
def fnExactWithLossSpec : ChangeSpec := { name := "fnExactWithLoss", fn := fun _ => fun
  | [d1, d2, d3] => { results := [.lit (.bool true)], args := [d1, d2, d3] }
  | _ => none }
def fnExactWithLossRow : OpenClaim := { program := "ytolbacgfcobmdaa", sum := "334ca6d162f4f676f0b86ddcc0402f92fcd29f1f6c8a64dfd8eb0cdf09ca5e87", func := "loop.example/g01344/laws.FnExactWithLoss", spec := "fnExactWithLoss", unfollowed := true, recurses := true, apart := false }
def FnExactWithLossSaid : Prop := fnExactWithLossRow.holds Try.pinned (OpenSpec.ofChange fnExactWithLossSpec)

/-- ITS FALSE NEIGHBOUR: 'it returns false'. Refute it at one input. -/
def fnExactWithLossWrong : ChangeSpec := { name := "fnExactWithLoss", fn := fun _ => fun
  | [d1, d2, d3] => { results := [.lit (.bool false)], args := [d1, d2, d3] }
  | _ => none }
def FnExactWithLossWrongFalsely : Prop := fnExactWithLossRow.holds Try.pinned (OpenSpec.ofChange fnExactWithLossWrong)

/-- 'laws.FnExactBackTrain': WHATEVER THE INPUT: true; the input reads as it did. -/
def fnExactBackTrainSpec : ChangeSpec := { name := "fnExactBackTrain", fn := fun _ => fun
  | [d] => { results := [.lit (.bool true)], args := [d] }
  | _ => none }
def fnExactBackTrainRow : OpenClaim := { program := "ytolbacgfcobmdaa", sum := "334ca6d162f4f676f0b86ddcc0402f92fcd29f1f6c8a64dfd8eb0cdf09ca5e87", func := "loop.example/g01344/laws.FnExactBackTrain", spec := "fnExactBackTrain", unfollowed := true, recurses := true, apart := false }
def FnExactBackTrainSaid : Prop := fnExactBackTrainRow.holds Try.pinned (OpenSpec.ofChange fnExactBackTrainSpec)

/-- ITS FALSE NEIGHBOUR: 'it returns false'. Refute it at one input. -/
def fnExactBackTrainWrong : ChangeSpec := { name := "fnExactBackTrain", fn := fun _ => fun
  | [d] => { results := [.lit (.bool false)], args := [d] }
  | _ => none }
def FnExactBackTrainWrongFalsely : Prop := fnExactBackTrainRow.holds Try.pinned (OpenSpec.ofChange fnExactBackTrainWrong)

/-- 'laws.FnExactJoinTrains': WHATEVER THE INPUT: true; the input reads as it did. -/
def fnExactJoinTrainsSpec : ChangeSpec := { name := "fnExactJoinTrains", fn := fun _ => fun
  | [d1, d2] => { results := [.lit (.bool true)], args := [d1, d2] }
  | _ => none }
def fnExactJoinTrainsRow : OpenClaim := { program := "ytolbacgfcobmdaa", sum := "334ca6d162f4f676f0b86ddcc0402f92fcd29f1f6c8a64dfd8eb0cdf09ca5e87", func := "loop.example/g01344/laws.FnExactJoinTrains", spec := "fnExactJoinTrains", unfollowed := true, recurses := true, apart := false }
def FnExactJoinTrainsSaid : Prop := fnExactJoinTrainsRow.holds Try.pinned (OpenSpec.ofChange fnExactJoinTrainsSpec)

/-- ITS FALSE NEIGHBOUR: 'it returns false'. Refute it at one input. -/
def fnExactJoinTrainsWrong : ChangeSpec := { name := "fnExactJoinTrains", fn := fun _ => fun
  | [d1, d2] => { results := [.lit (.bool false)], args := [d1, d2] }
  | _ => none }
def FnExactJoinTrainsWrongFalsely : Prop := fnExactJoinTrainsRow.holds Try.pinned (OpenSpec.ofChange fnExactJoinTrainsWrong)

/-- 'laws.FnExactSameBelt': WHATEVER THE INPUT: true; the input reads as it did. -/
def fnExactSameBeltSpec : ChangeSpec := { name := "fnExactSameBelt", fn := fun _ => fun
  | [d1, d2] => { results := [.lit (.bool true)], args := [d1, d2] }
  | _ => none }
def fnExactSameBeltRow : OpenClaim := { program := "ytolbacgfcobmdaa", sum := "334ca6d162f4f676f0b86ddcc0402f92fcd29f1f6c8a64dfd8eb0cdf09ca5e87", func := "loop.example/g01344/laws.FnExactSameBelt", spec := "fnExactSameBelt", inPlace := ["math.Float32bits"], apart := false }
def FnExactSameBeltSaid : Prop := fnExactSameBeltRow.holds Try.pinned (OpenSpec.ofChange fnExactSameBeltSpec)

/-- ITS FALSE NEIGHBOUR: 'it returns false'. Refute it at one input. -/
def fnExactSameBeltWrong : ChangeSpec := { name := "fnExactSameBelt", fn := fun _ => fun
  | [d1, d2] => { results := [.lit (.bool false)], args := [d1, d2] }
  | _ => none }
def FnExactSameBeltWrongFalsely : Prop := fnExactSameBeltRow.holds Try.pinned (OpenSpec.ofChange fnExactSameBeltWrong)

/-- 'laws.FnExactSpeedsThrough': WHATEVER THE INPUT: true; the input reads as it did. -/
def fnExactSpeedsThroughSpec : ChangeSpec := { name := "fnExactSpeedsThrough", fn := fun _ => fun
  | [d1, d2] => { results := [.lit (.bool true)], args := [d1, d2] }
  | _ => none }
def fnExactSpeedsThroughRow : OpenClaim := { program := "ytolbacgfcobmdaa", sum := "334ca6d162f4f676f0b86ddcc0402f92fcd29f1f6c8a64dfd8eb0cdf09ca5e87", func := "loop.example/g01344/laws.FnExactSpeedsThrough", spec := "fnExactSpeedsThrough", apart := false }
def FnExactSpeedsThroughSaid : Prop := fnExactSpeedsThroughRow.holds Try.pinned (OpenSpec.ofChange fnExactSpeedsThroughSpec)

/-- ITS FALSE NEIGHBOUR: 'it returns false'. Refute it at one input. -/
def fnExactSpeedsThroughWrong : ChangeSpec := { name := "fnExactSpeedsThrough", fn := fun _ => fun
  | [d1, d2] => { results := [.lit (.bool false)], args := [d1, d2] }
  | _ => none }
def FnExactSpeedsThroughWrongFalsely : Prop := fnExactSpeedsThroughRow.holds Try.pinned (OpenSpec.ofChange fnExactSpeedsThroughWrong)

/- THE SECOND FORM. 'bulk': how many values and letters a reading holds, each counted each time it is reached (what is shared counts as often as it is met; a slice's spare places count too). A statement '..UptoSaid' is the law's where the arguments, and the package variables that the reading takes, are together of bulk at most 1048576: NARROWER than '..Said'. Prove '..Said' where nothing that the law and all that it calls make is longer than what came in: it says more and counts as full. Else prove '..UptoSaid'. A law counts once. -/
mutual
def uptoBulk {H : Type} : DataW H → Nat
  | .lit (.string bytes) => bytes.length + 1
  | .lit _ => 1
  | .nil => 1
  | .ptr d => uptoBulk d + 1
  | .slice elems spare => uptoBulkAll elems + uptoBulkAll spare + 1
  | .agg parts => uptoBulkAll parts + 1
  | .iface _ d => uptoBulk d + 1
  | .map entries => uptoBulkEntries entries + 1
  | .held _ => 1
def uptoBulkAll {H : Type} : List (DataW H) → Nat
  | [] => 0
  | d :: r => uptoBulk d + uptoBulkAll r
def uptoBulkEntries {H : Type} : List (Lit × DataW H) → Nat
  | [] => 0
  | x :: r => uptoBulkEntry x + uptoBulkEntries r
def uptoBulkEntry {H : Type} : Lit × DataW H → Nat
  | (.string bytes, d) => bytes.length + uptoBulk d + 1
  | (_, d) => uptoBulk d + 1
 end
def uptoSmall : (H : Type) → List (DataW H) → Bool := fun _ ds => decide (uptoBulkAll ds ≤ 1048576)
def OpenSpec.upto (s : _root_.Go.ChangeSpec) : _root_.Go.OpenSpec := { _root_.Go.OpenSpec.ofChange s with cond := some uptoSmall }

/-- 'laws.FnExactWorstPair', WHERE WHAT IT READS IS OF BULK AT MOST 1048576: true; the input reads as it did. -/
def fnExactWorstPairUptoRow : OpenClaim := { program := "ytolbacgfcobmdaa", sum := "334ca6d162f4f676f0b86ddcc0402f92fcd29f1f6c8a64dfd8eb0cdf09ca5e87", func := "loop.example/g01344/laws.FnExactWorstPair", spec := "fnExactWorstPair", inPlace := ["math.Float32bits"], unfollowed := true, recurses := true, apart := false, narrowed := true }
def FnExactWorstPairUptoSaid : Prop := fnExactWorstPairUptoRow.holds Try.pinned (OpenSpec.upto fnExactWorstPairSpec)

/-- 'laws.FnExactWithLoss', WHERE WHAT IT READS IS OF BULK AT MOST 1048576: true; the input reads as it did. -/
def fnExactWithLossUptoRow : OpenClaim := { program := "ytolbacgfcobmdaa", sum := "334ca6d162f4f676f0b86ddcc0402f92fcd29f1f6c8a64dfd8eb0cdf09ca5e87", func := "loop.example/g01344/laws.FnExactWithLoss", spec := "fnExactWithLoss", unfollowed := true, recurses := true, apart := false, narrowed := true }
def FnExactWithLossUptoSaid : Prop := fnExactWithLossUptoRow.holds Try.pinned (OpenSpec.upto fnExactWithLossSpec)

/-- 'laws.FnExactBackTrain', WHERE WHAT IT READS IS OF BULK AT MOST 1048576: true; the input reads as it did. -/
def fnExactBackTrainUptoRow : OpenClaim := { program := "ytolbacgfcobmdaa", sum := "334ca6d162f4f676f0b86ddcc0402f92fcd29f1f6c8a64dfd8eb0cdf09ca5e87", func := "loop.example/g01344/laws.FnExactBackTrain", spec := "fnExactBackTrain", unfollowed := true, recurses := true, apart := false, narrowed := true }
def FnExactBackTrainUptoSaid : Prop := fnExactBackTrainUptoRow.holds Try.pinned (OpenSpec.upto fnExactBackTrainSpec)

/-- 'laws.FnExactJoinTrains', WHERE WHAT IT READS IS OF BULK AT MOST 1048576: true; the input reads as it did. -/
def fnExactJoinTrainsUptoRow : OpenClaim := { program := "ytolbacgfcobmdaa", sum := "334ca6d162f4f676f0b86ddcc0402f92fcd29f1f6c8a64dfd8eb0cdf09ca5e87", func := "loop.example/g01344/laws.FnExactJoinTrains", spec := "fnExactJoinTrains", unfollowed := true, recurses := true, apart := false, narrowed := true }
def FnExactJoinTrainsUptoSaid : Prop := fnExactJoinTrainsUptoRow.holds Try.pinned (OpenSpec.upto fnExactJoinTrainsSpec)

/-- 'laws.FnExactSameBelt', WHERE WHAT IT READS IS OF BULK AT MOST 1048576: true; the input reads as it did. -/
def fnExactSameBeltUptoRow : OpenClaim := { program := "ytolbacgfcobmdaa", sum := "334ca6d162f4f676f0b86ddcc0402f92fcd29f1f6c8a64dfd8eb0cdf09ca5e87", func := "loop.example/g01344/laws.FnExactSameBelt", spec := "fnExactSameBelt", inPlace := ["math.Float32bits"], apart := false, narrowed := true }
def FnExactSameBeltUptoSaid : Prop := fnExactSameBeltUptoRow.holds Try.pinned (OpenSpec.upto fnExactSameBeltSpec)

/-- 'laws.FnExactSpeedsThrough', WHERE WHAT IT READS IS OF BULK AT MOST 1048576: true; the input reads as it did. -/
def fnExactSpeedsThroughUptoRow : OpenClaim := { program := "ytolbacgfcobmdaa", sum := "334ca6d162f4f676f0b86ddcc0402f92fcd29f1f6c8a64dfd8eb0cdf09ca5e87", func := "loop.example/g01344/laws.FnExactSpeedsThrough", spec := "fnExactSpeedsThrough", apart := false, narrowed := true }
def FnExactSpeedsThroughUptoSaid : Prop := fnExactSpeedsThroughUptoRow.holds Try.pinned (OpenSpec.upto fnExactSpeedsThroughSpec)

end Rows
end Go.Proofs.Ytolbacgfcobmdaa
