/-
  No cell of these rows narrows 'for every input' (looked for: loops, veiled, ifaces, maps, wideKeys, modest, calm, conditions, laid).
  DERIVED. THE GIVEN ROWS OF THIS SEAT. 12 by the template 'for every input the law returns true; each argument reads behind the call as it read before'; 0 by the template 'total and deterministic' (their statements: YteelgnadooodeaaTotals.lean).
  GIVEN WITH THE SEED: the statements are not yours to turn. If you find one false, say at which input.
  Laid BY PROGRAM, IN A SANDBOX (cutbox-rows.mjs): the forced cells as the released guide's own fill.sh prints them over the translation 1f14cbcd20b8616f… (all of the seat's roots in one cut). By AI agents, Wed Nov 11 2026. No macro, syntax, notation, axiom, sorry.
-/
import Derived.Test.YteelgnadooodeaaChecked
import GoSem.Claim
import GoSem.ClaimJoined
import GoSem.ClaimMapViews
import Derived.JoinedTies
import Derived.KernelRfl
namespace Go.Proofs.Yteelgnadooodeaa
/- THE CELL 'sum', in the pinned program and in every row, IS THE sha256 OF THE DUMP (.gsa) THAT YteelgnadooodeaaProg.lean LOADS. Nothing in Lean hashes anything: it is a label: what it is worth is what the hold of that sum in a sandbox is worth. -/
noncomputable def Try.pinned : Pinned := { name := "yteelgnadooodeaa", sum := "1f14cbcd20b8616f7b8bc3097920b69ccf0ecd187cdeac4f19c91e5951cabac2", checked := Try.checked }
namespace Rows
def none {H : Type} : Left H := { results := [], args := [] }

/-- 'laws.FnExactValidBox': WHATEVER THE INPUT: true; the input reads as it did. -/
def fnExactValidBoxSpec : ChangeSpec := { name := "fnExactValidBox", fn := fun _ => fun
  | [d] => { results := [.lit (.bool true)], args := [d] }
  | _ => none }
def fnExactValidBoxRow : OpenClaim := { program := "yteelgnadooodeaa", sum := "1f14cbcd20b8616f7b8bc3097920b69ccf0ecd187cdeac4f19c91e5951cabac2", func := "loop.example/g01344/laws.FnExactValidBox", spec := "fnExactValidBox", plainKeys := false, apart := false }
def FnExactValidBoxSaid : Prop := fnExactValidBoxRow.holds Try.pinned (OpenSpec.ofChange fnExactValidBoxSpec)

/-- ITS FALSE NEIGHBOUR: 'it returns false'. Refute it at one input. -/
def fnExactValidBoxWrong : ChangeSpec := { name := "fnExactValidBox", fn := fun _ => fun
  | [d] => { results := [.lit (.bool false)], args := [d] }
  | _ => none }
def FnExactValidBoxWrongFalsely : Prop := fnExactValidBoxRow.holds Try.pinned (OpenSpec.ofChange fnExactValidBoxWrong)

/-- 'laws.FnExactOffBy': WHATEVER THE INPUT: true; the input reads as it did. -/
def fnExactOffBySpec : ChangeSpec := { name := "fnExactOffBy", fn := fun _ => fun
  | [d1, d2] => { results := [.lit (.bool true)], args := [d1, d2] }
  | _ => none }
def fnExactOffByRow : OpenClaim := { program := "yteelgnadooodeaa", sum := "1f14cbcd20b8616f7b8bc3097920b69ccf0ecd187cdeac4f19c91e5951cabac2", func := "loop.example/g01344/laws.FnExactOffBy", spec := "fnExactOffBy", plainKeys := false, apart := false }
def FnExactOffBySaid : Prop := fnExactOffByRow.holds Try.pinned (OpenSpec.ofChange fnExactOffBySpec)

/-- ITS FALSE NEIGHBOUR: 'it returns false'. Refute it at one input. -/
def fnExactOffByWrong : ChangeSpec := { name := "fnExactOffBy", fn := fun _ => fun
  | [d1, d2] => { results := [.lit (.bool false)], args := [d1, d2] }
  | _ => none }
def FnExactOffByWrongFalsely : Prop := fnExactOffByRow.holds Try.pinned (OpenSpec.ofChange fnExactOffByWrong)

/-- 'laws.FnExactFactorOfPair': WHATEVER THE INPUT: true; the input reads as it did. -/
def fnExactFactorOfPairSpec : ChangeSpec := { name := "fnExactFactorOfPair", fn := fun _ => fun
  | [d1, d2, d3] => { results := [.lit (.bool true)], args := [d1, d2, d3] }
  | _ => none }
def fnExactFactorOfPairRow : OpenClaim := { program := "yteelgnadooodeaa", sum := "1f14cbcd20b8616f7b8bc3097920b69ccf0ecd187cdeac4f19c91e5951cabac2", func := "loop.example/g01344/laws.FnExactFactorOfPair", spec := "fnExactFactorOfPair", plainKeys := false, apart := false }
def FnExactFactorOfPairSaid : Prop := fnExactFactorOfPairRow.holds Try.pinned (OpenSpec.ofChange fnExactFactorOfPairSpec)

/-- ITS FALSE NEIGHBOUR: 'it returns false'. Refute it at one input. -/
def fnExactFactorOfPairWrong : ChangeSpec := { name := "fnExactFactorOfPair", fn := fun _ => fun
  | [d1, d2, d3] => { results := [.lit (.bool false)], args := [d1, d2, d3] }
  | _ => none }
def FnExactFactorOfPairWrongFalsely : Prop := fnExactFactorOfPairRow.holds Try.pinned (OpenSpec.ofChange fnExactFactorOfPairWrong)

/-- 'laws.FnExactFactorOfChoice': WHATEVER THE INPUT: true; the input reads as it did. -/
def fnExactFactorOfChoiceSpec : ChangeSpec := { name := "fnExactFactorOfChoice", fn := fun _ => fun
  | [d1, d2] => { results := [.lit (.bool true)], args := [d1, d2] }
  | _ => none }
def fnExactFactorOfChoiceRow : OpenClaim := { program := "yteelgnadooodeaa", sum := "1f14cbcd20b8616f7b8bc3097920b69ccf0ecd187cdeac4f19c91e5951cabac2", func := "loop.example/g01344/laws.FnExactFactorOfChoice", spec := "fnExactFactorOfChoice", plainKeys := false, apart := false }
def FnExactFactorOfChoiceSaid : Prop := fnExactFactorOfChoiceRow.holds Try.pinned (OpenSpec.ofChange fnExactFactorOfChoiceSpec)

/-- ITS FALSE NEIGHBOUR: 'it returns false'. Refute it at one input. -/
def fnExactFactorOfChoiceWrong : ChangeSpec := { name := "fnExactFactorOfChoice", fn := fun _ => fun
  | [d1, d2] => { results := [.lit (.bool false)], args := [d1, d2] }
  | _ => none }
def FnExactFactorOfChoiceWrongFalsely : Prop := fnExactFactorOfChoiceRow.holds Try.pinned (OpenSpec.ofChange fnExactFactorOfChoiceWrong)

/-- 'laws.FnExactTrainFor': WHATEVER THE INPUT: true; the input reads as it did. -/
def fnExactTrainForSpec : ChangeSpec := { name := "fnExactTrainFor", fn := fun _ => fun
  | [d1, d2] => { results := [.lit (.bool true)], args := [d1, d2] }
  | _ => none }
def fnExactTrainForRow : OpenClaim := { program := "yteelgnadooodeaa", sum := "1f14cbcd20b8616f7b8bc3097920b69ccf0ecd187cdeac4f19c91e5951cabac2", func := "loop.example/g01344/laws.FnExactTrainFor", spec := "fnExactTrainFor", plainKeys := false, apart := false }
def FnExactTrainForSaid : Prop := fnExactTrainForRow.holds Try.pinned (OpenSpec.ofChange fnExactTrainForSpec)

/-- ITS FALSE NEIGHBOUR: 'it returns false'. Refute it at one input. -/
def fnExactTrainForWrong : ChangeSpec := { name := "fnExactTrainFor", fn := fun _ => fun
  | [d1, d2] => { results := [.lit (.bool false)], args := [d1, d2] }
  | _ => none }
def FnExactTrainForWrongFalsely : Prop := fnExactTrainForRow.holds Try.pinned (OpenSpec.ofChange fnExactTrainForWrong)

/-- 'laws.FnExactBestPair': WHATEVER THE INPUT: true; the input reads as it did. -/
def fnExactBestPairSpec : ChangeSpec := { name := "fnExactBestPair", fn := fun _ => fun
  | [d1, d2] => { results := [.lit (.bool true)], args := [d1, d2] }
  | _ => none }
def fnExactBestPairRow : OpenClaim := { program := "yteelgnadooodeaa", sum := "1f14cbcd20b8616f7b8bc3097920b69ccf0ecd187cdeac4f19c91e5951cabac2", func := "loop.example/g01344/laws.FnExactBestPair", spec := "fnExactBestPair", unfollowed := true, recurses := true, plainKeys := false, apart := false }
def FnExactBestPairSaid : Prop := fnExactBestPairRow.holds Try.pinned (OpenSpec.ofChange fnExactBestPairSpec)

/-- ITS FALSE NEIGHBOUR: 'it returns false'. Refute it at one input. -/
def fnExactBestPairWrong : ChangeSpec := { name := "fnExactBestPair", fn := fun _ => fun
  | [d1, d2] => { results := [.lit (.bool false)], args := [d1, d2] }
  | _ => none }
def FnExactBestPairWrongFalsely : Prop := fnExactBestPairRow.holds Try.pinned (OpenSpec.ofChange fnExactBestPairWrong)

/-- 'laws.FnExactBestChoice': WHATEVER THE INPUT: true; the input reads as it did. -/
def fnExactBestChoiceSpec : ChangeSpec := { name := "fnExactBestChoice", fn := fun _ => fun
  | [d1, d2] => { results := [.lit (.bool true)], args := [d1, d2] }
  | _ => none }
def fnExactBestChoiceRow : OpenClaim := { program := "yteelgnadooodeaa", sum := "1f14cbcd20b8616f7b8bc3097920b69ccf0ecd187cdeac4f19c91e5951cabac2", func := "loop.example/g01344/laws.FnExactBestChoice", spec := "fnExactBestChoice", unfollowed := true, recurses := true, plainKeys := false, apart := false }
def FnExactBestChoiceSaid : Prop := fnExactBestChoiceRow.holds Try.pinned (OpenSpec.ofChange fnExactBestChoiceSpec)

/-- ITS FALSE NEIGHBOUR: 'it returns false'. Refute it at one input. -/
def fnExactBestChoiceWrong : ChangeSpec := { name := "fnExactBestChoice", fn := fun _ => fun
  | [d1, d2] => { results := [.lit (.bool false)], args := [d1, d2] }
  | _ => none }
def FnExactBestChoiceWrongFalsely : Prop := fnExactBestChoiceRow.holds Try.pinned (OpenSpec.ofChange fnExactBestChoiceWrong)

/-- 'laws.FnExactPairsWithin': WHATEVER THE INPUT: true; the input reads as it did. -/
def fnExactPairsWithinSpec : ChangeSpec := { name := "fnExactPairsWithin", fn := fun _ => fun
  | [d1, d2, d3] => { results := [.lit (.bool true)], args := [d1, d2, d3] }
  | _ => none }
def fnExactPairsWithinRow : OpenClaim := { program := "yteelgnadooodeaa", sum := "1f14cbcd20b8616f7b8bc3097920b69ccf0ecd187cdeac4f19c91e5951cabac2", func := "loop.example/g01344/laws.FnExactPairsWithin", spec := "fnExactPairsWithin", unfollowed := true, recurses := true, plainKeys := false, apart := false }
def FnExactPairsWithinSaid : Prop := fnExactPairsWithinRow.holds Try.pinned (OpenSpec.ofChange fnExactPairsWithinSpec)

/-- ITS FALSE NEIGHBOUR: 'it returns false'. Refute it at one input. -/
def fnExactPairsWithinWrong : ChangeSpec := { name := "fnExactPairsWithin", fn := fun _ => fun
  | [d1, d2, d3] => { results := [.lit (.bool false)], args := [d1, d2, d3] }
  | _ => none }
def FnExactPairsWithinWrongFalsely : Prop := fnExactPairsWithinRow.holds Try.pinned (OpenSpec.ofChange fnExactPairsWithinWrong)

/-- 'laws.FnExactCountChoices': WHATEVER THE INPUT: true; the input reads as it did. -/
def fnExactCountChoicesSpec : ChangeSpec := { name := "fnExactCountChoices", fn := fun _ => fun
  | [d1, d2, d3] => { results := [.lit (.bool true)], args := [d1, d2, d3] }
  | _ => none }
def fnExactCountChoicesRow : OpenClaim := { program := "yteelgnadooodeaa", sum := "1f14cbcd20b8616f7b8bc3097920b69ccf0ecd187cdeac4f19c91e5951cabac2", func := "loop.example/g01344/laws.FnExactCountChoices", spec := "fnExactCountChoices", unfollowed := true, recurses := true, plainKeys := false, apart := false }
def FnExactCountChoicesSaid : Prop := fnExactCountChoicesRow.holds Try.pinned (OpenSpec.ofChange fnExactCountChoicesSpec)

/-- ITS FALSE NEIGHBOUR: 'it returns false'. Refute it at one input. -/
def fnExactCountChoicesWrong : ChangeSpec := { name := "fnExactCountChoices", fn := fun _ => fun
  | [d1, d2, d3] => { results := [.lit (.bool false)], args := [d1, d2, d3] }
  | _ => none }
def FnExactCountChoicesWrongFalsely : Prop := fnExactCountChoicesRow.holds Try.pinned (OpenSpec.ofChange fnExactCountChoicesWrong)

/-- 'laws.FnExactAddWheel': WHATEVER THE INPUT: true; the input reads as it did. -/
def fnExactAddWheelSpec : ChangeSpec := { name := "fnExactAddWheel", fn := fun _ => fun
  | [d1, d2] => { results := [.lit (.bool true)], args := [d1, d2] }
  | _ => none }
def fnExactAddWheelRow : OpenClaim := { program := "yteelgnadooodeaa", sum := "1f14cbcd20b8616f7b8bc3097920b69ccf0ecd187cdeac4f19c91e5951cabac2", func := "loop.example/g01344/laws.FnExactAddWheel", spec := "fnExactAddWheel", unfollowed := true, recurses := true, plainKeys := false, apart := false }
def FnExactAddWheelSaid : Prop := fnExactAddWheelRow.holds Try.pinned (OpenSpec.ofChange fnExactAddWheelSpec)

/-- ITS FALSE NEIGHBOUR: 'it returns false'. Refute it at one input. -/
def fnExactAddWheelWrong : ChangeSpec := { name := "fnExactAddWheel", fn := fun _ => fun
  | [d1, d2] => { results := [.lit (.bool false)], args := [d1, d2] }
  | _ => none }
def FnExactAddWheelWrongFalsely : Prop := fnExactAddWheelRow.holds Try.pinned (OpenSpec.ofChange fnExactAddWheelWrong)

/-- 'laws.FnExactExactOf': WHATEVER THE INPUT: true; the input reads as it did. -/
def fnExactExactOfSpec : ChangeSpec := { name := "fnExactExactOf", fn := fun _ => fun
  | [d] => { results := [.lit (.bool true)], args := [d] }
  | _ => none }
def fnExactExactOfRow : OpenClaim := { program := "yteelgnadooodeaa", sum := "1f14cbcd20b8616f7b8bc3097920b69ccf0ecd187cdeac4f19c91e5951cabac2", func := "loop.example/g01344/laws.FnExactExactOf", spec := "fnExactExactOf", inPlace := ["math.Float32bits", "math.archTrunc", "math.Float64bits", "math.Float64frombits"], plainKeys := false, apart := false }
def FnExactExactOfSaid : Prop := fnExactExactOfRow.holds Try.pinned (OpenSpec.ofChange fnExactExactOfSpec)

/-- ITS FALSE NEIGHBOUR: 'it returns false'. Refute it at one input. -/
def fnExactExactOfWrong : ChangeSpec := { name := "fnExactExactOf", fn := fun _ => fun
  | [d] => { results := [.lit (.bool false)], args := [d] }
  | _ => none }
def FnExactExactOfWrongFalsely : Prop := fnExactExactOfRow.holds Try.pinned (OpenSpec.ofChange fnExactExactOfWrong)

/-- 'laws.FnExactConvergentsOf': WHATEVER THE INPUT: true; the input reads as it did. -/
def fnExactConvergentsOfSpec : ChangeSpec := { name := "fnExactConvergentsOf", fn := fun _ => fun
  | [d1, d2] => { results := [.lit (.bool true)], args := [d1, d2] }
  | _ => none }
def fnExactConvergentsOfRow : OpenClaim := { program := "yteelgnadooodeaa", sum := "1f14cbcd20b8616f7b8bc3097920b69ccf0ecd187cdeac4f19c91e5951cabac2", func := "loop.example/g01344/laws.FnExactConvergentsOf", spec := "fnExactConvergentsOf", inPlace := ["math.Float32bits", "math.archTrunc", "math.Float64bits", "math.Float64frombits"], plainKeys := false, apart := false }
def FnExactConvergentsOfSaid : Prop := fnExactConvergentsOfRow.holds Try.pinned (OpenSpec.ofChange fnExactConvergentsOfSpec)

/-- ITS FALSE NEIGHBOUR: 'it returns false'. Refute it at one input. -/
def fnExactConvergentsOfWrong : ChangeSpec := { name := "fnExactConvergentsOf", fn := fun _ => fun
  | [d1, d2] => { results := [.lit (.bool false)], args := [d1, d2] }
  | _ => none }
def FnExactConvergentsOfWrongFalsely : Prop := fnExactConvergentsOfRow.holds Try.pinned (OpenSpec.ofChange fnExactConvergentsOfWrong)

/- THE SECOND FORM. 'bulk': how many values and letters a reading holds, each counted each time it is reached (what is shared counts as often as it is met; a slice's spare places count too). A statement '..UptoSaid' is the law's where the arguments, and the package variables that the reading takes, are together of bulk at most 1048576: NARROWER than '..Said'. Prove '..Said' where nothing that the law and all that it calls make is longer than what came in: it says more and counts as full. Else prove '..UptoSaid'. A law counts once. -/
mutual
def uptoBulk {H : Type} : DataW H → Nat
  | .lit (.string bytes) => bytes.length + 1
  | .lit _ => 1
  | .nil => 1
  | .ptr d => uptoBulk d + 1
  | .slice elems spare => uptoBulkAll elems + uptoBulkAll spare + 1
  | .agg parts => uptoBulkAll parts + 1
  | .iface _ d => uptoBulk d + 1
  | .map entries => uptoBulkEntries entries + 1
  | .held _ => 1
def uptoBulkAll {H : Type} : List (DataW H) → Nat
  | [] => 0
  | d :: r => uptoBulk d + uptoBulkAll r
def uptoBulkEntries {H : Type} : List (Lit × DataW H) → Nat
  | [] => 0
  | x :: r => uptoBulkEntry x + uptoBulkEntries r
def uptoBulkEntry {H : Type} : Lit × DataW H → Nat
  | (.string bytes, d) => bytes.length + uptoBulk d + 1
  | (_, d) => uptoBulk d + 1
 end
def uptoSmall : (H : Type) → List (DataW H) → Bool := fun _ ds => decide (uptoBulkAll ds ≤ 1048576)
def OpenSpec.upto (s : _root_.Go.ChangeSpec) : _root_.Go.OpenSpec := { _root_.Go.OpenSpec.ofChange s with cond := some uptoSmall }

/-- 'laws.FnExactValidBox', WHERE WHAT IT READS IS OF BULK AT MOST 1048576: true; the input reads as it did. -/
def fnExactValidBoxUptoRow : OpenClaim := { program := "yteelgnadooodeaa", sum := "1f14cbcd20b8616f7b8bc3097920b69ccf0ecd187cdeac4f19c91e5951cabac2", func := "loop.example/g01344/laws.FnExactValidBox", spec := "fnExactValidBox", plainKeys := false, apart := false, narrowed := true }
def FnExactValidBoxUptoSaid : Prop := fnExactValidBoxUptoRow.holds Try.pinned (OpenSpec.upto fnExactValidBoxSpec)

/-- 'laws.FnExactOffBy', WHERE WHAT IT READS IS OF BULK AT MOST 1048576: true; the input reads as it did. -/
def fnExactOffByUptoRow : OpenClaim := { program := "yteelgnadooodeaa", sum := "1f14cbcd20b8616f7b8bc3097920b69ccf0ecd187cdeac4f19c91e5951cabac2", func := "loop.example/g01344/laws.FnExactOffBy", spec := "fnExactOffBy", plainKeys := false, apart := false, narrowed := true }
def FnExactOffByUptoSaid : Prop := fnExactOffByUptoRow.holds Try.pinned (OpenSpec.upto fnExactOffBySpec)

/-- 'laws.FnExactFactorOfPair', WHERE WHAT IT READS IS OF BULK AT MOST 1048576: true; the input reads as it did. -/
def fnExactFactorOfPairUptoRow : OpenClaim := { program := "yteelgnadooodeaa", sum := "1f14cbcd20b8616f7b8bc3097920b69ccf0ecd187cdeac4f19c91e5951cabac2", func := "loop.example/g01344/laws.FnExactFactorOfPair", spec := "fnExactFactorOfPair", plainKeys := false, apart := false, narrowed := true }
def FnExactFactorOfPairUptoSaid : Prop := fnExactFactorOfPairUptoRow.holds Try.pinned (OpenSpec.upto fnExactFactorOfPairSpec)

/-- 'laws.FnExactFactorOfChoice', WHERE WHAT IT READS IS OF BULK AT MOST 1048576: true; the input reads as it did. -/
def fnExactFactorOfChoiceUptoRow : OpenClaim := { program := "yteelgnadooodeaa", sum := "1f14cbcd20b8616f7b8bc3097920b69ccf0ecd187cdeac4f19c91e5951cabac2", func := "loop.example/g01344/laws.FnExactFactorOfChoice", spec := "fnExactFactorOfChoice", plainKeys := false, apart := false, narrowed := true }
def FnExactFactorOfChoiceUptoSaid : Prop := fnExactFactorOfChoiceUptoRow.holds Try.pinned (OpenSpec.upto fnExactFactorOfChoiceSpec)

/-- 'laws.FnExactTrainFor', WHERE WHAT IT READS IS OF BULK AT MOST 1048576: true; the input reads as it did. -/
def fnExactTrainForUptoRow : OpenClaim := { program := "yteelgnadooodeaa", sum := "1f14cbcd20b8616f7b8bc3097920b69ccf0ecd187cdeac4f19c91e5951cabac2", func := "loop.example/g01344/laws.FnExactTrainFor", spec := "fnExactTrainFor", plainKeys := false, apart := false, narrowed := true }
def FnExactTrainForUptoSaid : Prop := fnExactTrainForUptoRow.holds Try.pinned (OpenSpec.upto fnExactTrainForSpec)

/-- 'laws.FnExactBestPair', WHERE WHAT IT READS IS OF BULK AT MOST 1048576: true; the input reads as it did. -/
def fnExactBestPairUptoRow : OpenClaim := { program := "yteelgnadooodeaa", sum := "1f14cbcd20b8616f7b8bc3097920b69ccf0ecd187cdeac4f19c91e5951cabac2", func := "loop.example/g01344/laws.FnExactBestPair", spec := "fnExactBestPair", unfollowed := true, recurses := true, plainKeys := false, apart := false, narrowed := true }
def FnExactBestPairUptoSaid : Prop := fnExactBestPairUptoRow.holds Try.pinned (OpenSpec.upto fnExactBestPairSpec)

/-- 'laws.FnExactBestChoice', WHERE WHAT IT READS IS OF BULK AT MOST 1048576: true; the input reads as it did. -/
def fnExactBestChoiceUptoRow : OpenClaim := { program := "yteelgnadooodeaa", sum := "1f14cbcd20b8616f7b8bc3097920b69ccf0ecd187cdeac4f19c91e5951cabac2", func := "loop.example/g01344/laws.FnExactBestChoice", spec := "fnExactBestChoice", unfollowed := true, recurses := true, plainKeys := false, apart := false, narrowed := true }
def FnExactBestChoiceUptoSaid : Prop := fnExactBestChoiceUptoRow.holds Try.pinned (OpenSpec.upto fnExactBestChoiceSpec)

/-- 'laws.FnExactPairsWithin', WHERE WHAT IT READS IS OF BULK AT MOST 1048576: true; the input reads as it did. -/
def fnExactPairsWithinUptoRow : OpenClaim := { program := "yteelgnadooodeaa", sum := "1f14cbcd20b8616f7b8bc3097920b69ccf0ecd187cdeac4f19c91e5951cabac2", func := "loop.example/g01344/laws.FnExactPairsWithin", spec := "fnExactPairsWithin", unfollowed := true, recurses := true, plainKeys := false, apart := false, narrowed := true }
def FnExactPairsWithinUptoSaid : Prop := fnExactPairsWithinUptoRow.holds Try.pinned (OpenSpec.upto fnExactPairsWithinSpec)

/-- 'laws.FnExactCountChoices', WHERE WHAT IT READS IS OF BULK AT MOST 1048576: true; the input reads as it did. -/
def fnExactCountChoicesUptoRow : OpenClaim := { program := "yteelgnadooodeaa", sum := "1f14cbcd20b8616f7b8bc3097920b69ccf0ecd187cdeac4f19c91e5951cabac2", func := "loop.example/g01344/laws.FnExactCountChoices", spec := "fnExactCountChoices", unfollowed := true, recurses := true, plainKeys := false, apart := false, narrowed := true }
def FnExactCountChoicesUptoSaid : Prop := fnExactCountChoicesUptoRow.holds Try.pinned (OpenSpec.upto fnExactCountChoicesSpec)

/-- 'laws.FnExactAddWheel', WHERE WHAT IT READS IS OF BULK AT MOST 1048576: true; the input reads as it did. -/
def fnExactAddWheelUptoRow : OpenClaim := { program := "yteelgnadooodeaa", sum := "1f14cbcd20b8616f7b8bc3097920b69ccf0ecd187cdeac4f19c91e5951cabac2", func := "loop.example/g01344/laws.FnExactAddWheel", spec := "fnExactAddWheel", unfollowed := true, recurses := true, plainKeys := false, apart := false, narrowed := true }
def FnExactAddWheelUptoSaid : Prop := fnExactAddWheelUptoRow.holds Try.pinned (OpenSpec.upto fnExactAddWheelSpec)

/-- 'laws.FnExactExactOf', WHERE WHAT IT READS IS OF BULK AT MOST 1048576: true; the input reads as it did. -/
def fnExactExactOfUptoRow : OpenClaim := { program := "yteelgnadooodeaa", sum := "1f14cbcd20b8616f7b8bc3097920b69ccf0ecd187cdeac4f19c91e5951cabac2", func := "loop.example/g01344/laws.FnExactExactOf", spec := "fnExactExactOf", inPlace := ["math.Float32bits", "math.archTrunc", "math.Float64bits", "math.Float64frombits"], plainKeys := false, apart := false, narrowed := true }
def FnExactExactOfUptoSaid : Prop := fnExactExactOfUptoRow.holds Try.pinned (OpenSpec.upto fnExactExactOfSpec)

/-- 'laws.FnExactConvergentsOf', WHERE WHAT IT READS IS OF BULK AT MOST 1048576: true; the input reads as it did. -/
def fnExactConvergentsOfUptoRow : OpenClaim := { program := "yteelgnadooodeaa", sum := "1f14cbcd20b8616f7b8bc3097920b69ccf0ecd187cdeac4f19c91e5951cabac2", func := "loop.example/g01344/laws.FnExactConvergentsOf", spec := "fnExactConvergentsOf", inPlace := ["math.Float32bits", "math.archTrunc", "math.Float64bits", "math.Float64frombits"], plainKeys := false, apart := false, narrowed := true }
def FnExactConvergentsOfUptoSaid : Prop := fnExactConvergentsOfUptoRow.holds Try.pinned (OpenSpec.upto fnExactConvergentsOfSpec)

end Rows
end Go.Proofs.Yteelgnadooodeaa
