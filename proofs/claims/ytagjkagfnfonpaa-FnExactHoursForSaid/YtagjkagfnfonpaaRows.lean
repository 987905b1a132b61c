/-
  No cell of these rows narrows 'for every input' (looked for: loops, veiled, ifaces, maps, wideKeys, modest, calm, conditions, laid).
  DERIVED. THE GIVEN ROWS OF THIS SEAT. 12 by the template 'for every input the law returns true; each argument reads behind the call as it read before'; 0 by the template 'total and deterministic' (their statements: YtagjkagfnfonpaaTotals.lean).
  GIVEN WITH THE SEED: the statements are not yours to turn. If you find one false, say at which input.
  Laid BY PROGRAM, IN A SANDBOX (cutbox-rows.mjs): the forced cells as the released guide's own fill.sh prints them over the translation 9472f5f7dde46588… (all of the seat's roots in one cut). By AI agents, Wed Nov 11 2026. No macro, syntax, notation, axiom, sorry.
-/
import Derived.Test.YtagjkagfnfonpaaChecked
import GoSem.Claim
import GoSem.ClaimJoined
import GoSem.ClaimMapViews
import Derived.JoinedTies
import Derived.KernelRfl
namespace Go.Proofs.Ytagjkagfnfonpaa
/- THE CELL 'sum', in the pinned program and in every row, IS THE sha256 OF THE DUMP (.gsa) THAT YtagjkagfnfonpaaProg.lean LOADS. Nothing in Lean hashes anything: it is a label: what it is worth is what the hold of that sum in a sandbox is worth. -/
noncomputable def Try.pinned : Pinned := { name := "ytagjkagfnfonpaa", sum := "9472f5f7dde4658862bb210ff7278d4fa81b78aef4a5d9f5d1da208125eacd60", checked := Try.checked }
namespace Rows
def none {H : Type} : Left H := { results := [], args := [] }

/-- 'laws.FnExactIsRate': WHATEVER THE INPUT: true; the input reads as it did. -/
def fnExactIsRateSpec : ChangeSpec := { name := "fnExactIsRate", fn := fun _ => fun
  | [d] => { results := [.lit (.bool true)], args := [d] }
  | _ => none }
def fnExactIsRateRow : OpenClaim := { program := "ytagjkagfnfonpaa", sum := "9472f5f7dde4658862bb210ff7278d4fa81b78aef4a5d9f5d1da208125eacd60", func := "loop.example/g01344/laws.FnExactIsRate", spec := "fnExactIsRate", apart := false }
def FnExactIsRateSaid : Prop := fnExactIsRateRow.holds Try.pinned (OpenSpec.ofChange fnExactIsRateSpec)

/-- ITS FALSE NEIGHBOUR: 'it returns false'. Refute it at one input. -/
def fnExactIsRateWrong : ChangeSpec := { name := "fnExactIsRate", fn := fun _ => fun
  | [d] => { results := [.lit (.bool false)], args := [d] }
  | _ => none }
def FnExactIsRateWrongFalsely : Prop := fnExactIsRateRow.holds Try.pinned (OpenSpec.ofChange fnExactIsRateWrong)

/-- 'laws.FnExactValidStone': WHATEVER THE INPUT: true; the input reads as it did. -/
def fnExactValidStoneSpec : ChangeSpec := { name := "fnExactValidStone", fn := fun _ => fun
  | [d] => { results := [.lit (.bool true)], args := [d] }
  | _ => none }
def fnExactValidStoneRow : OpenClaim := { program := "ytagjkagfnfonpaa", sum := "9472f5f7dde4658862bb210ff7278d4fa81b78aef4a5d9f5d1da208125eacd60", func := "loop.example/g01344/laws.FnExactValidStone", spec := "fnExactValidStone", apart := false }
def FnExactValidStoneSaid : Prop := fnExactValidStoneRow.holds Try.pinned (OpenSpec.ofChange fnExactValidStoneSpec)

/-- ITS FALSE NEIGHBOUR: 'it returns false'. Refute it at one input. -/
def fnExactValidStoneWrong : ChangeSpec := { name := "fnExactValidStone", fn := fun _ => fun
  | [d] => { results := [.lit (.bool false)], args := [d] }
  | _ => none }
def FnExactValidStoneWrongFalsely : Prop := fnExactValidStoneRow.holds Try.pinned (OpenSpec.ofChange fnExactValidStoneWrong)

/-- 'laws.FnExactSameStone': WHATEVER THE INPUT: true; the input reads as it did. -/
def fnExactSameStoneSpec : ChangeSpec := { name := "fnExactSameStone", fn := fun _ => fun
  | [d1, d2] => { results := [.lit (.bool true)], args := [d1, d2] }
  | _ => none }
def fnExactSameStoneRow : OpenClaim := { program := "ytagjkagfnfonpaa", sum := "9472f5f7dde4658862bb210ff7278d4fa81b78aef4a5d9f5d1da208125eacd60", func := "loop.example/g01344/laws.FnExactSameStone", spec := "fnExactSameStone", inPlace := ["math.Float32bits"], apart := false }
def FnExactSameStoneSaid : Prop := fnExactSameStoneRow.holds Try.pinned (OpenSpec.ofChange fnExactSameStoneSpec)

/-- ITS FALSE NEIGHBOUR: 'it returns false'. Refute it at one input. -/
def fnExactSameStoneWrong : ChangeSpec := { name := "fnExactSameStone", fn := fun _ => fun
  | [d1, d2] => { results := [.lit (.bool false)], args := [d1, d2] }
  | _ => none }
def FnExactSameStoneWrongFalsely : Prop := fnExactSameStoneRow.holds Try.pinned (OpenSpec.ofChange fnExactSameStoneWrong)

/-- 'laws.FnExactLoadOf': WHATEVER THE INPUT: true; the input reads as it did. -/
def fnExactLoadOfSpec : ChangeSpec := { name := "fnExactLoadOf", fn := fun _ => fun
  | [d1, d2, d3] => { results := [.lit (.bool true)], args := [d1, d2, d3] }
  | _ => none }
def fnExactLoadOfRow : OpenClaim := { program := "ytagjkagfnfonpaa", sum := "9472f5f7dde4658862bb210ff7278d4fa81b78aef4a5d9f5d1da208125eacd60", func := "loop.example/g01344/laws.FnExactLoadOf", spec := "fnExactLoadOf", unfollowed := true, recurses := true, apart := false }
def FnExactLoadOfSaid : Prop := fnExactLoadOfRow.holds Try.pinned (OpenSpec.ofChange fnExactLoadOfSpec)

/-- ITS FALSE NEIGHBOUR: 'it returns false'. Refute it at one input. -/
def fnExactLoadOfWrong : ChangeSpec := { name := "fnExactLoadOf", fn := fun _ => fun
  | [d1, d2, d3] => { results := [.lit (.bool false)], args := [d1, d2, d3] }
  | _ => none }
def FnExactLoadOfWrongFalsely : Prop := fnExactLoadOfRow.holds Try.pinned (OpenSpec.ofChange fnExactLoadOfWrong)

/-- 'laws.FnExactFlourOf': WHATEVER THE INPUT: true; the input reads as it did. -/
def fnExactFlourOfSpec : ChangeSpec := { name := "fnExactFlourOf", fn := fun _ => fun
  | [d1, d2, d3] => { results := [.lit (.bool true)], args := [d1, d2, d3] }
  | _ => none }
def fnExactFlourOfRow : OpenClaim := { program := "ytagjkagfnfonpaa", sum := "9472f5f7dde4658862bb210ff7278d4fa81b78aef4a5d9f5d1da208125eacd60", func := "loop.example/g01344/laws.FnExactFlourOf", spec := "fnExactFlourOf", unfollowed := true, recurses := true, apart := false }
def FnExactFlourOfSaid : Prop := fnExactFlourOfRow.holds Try.pinned (OpenSpec.ofChange fnExactFlourOfSpec)

/-- ITS FALSE NEIGHBOUR: 'it returns false'. Refute it at one input. -/
def fnExactFlourOfWrong : ChangeSpec := { name := "fnExactFlourOf", fn := fun _ => fun
  | [d1, d2, d3] => { results := [.lit (.bool false)], args := [d1, d2, d3] }
  | _ => none }
def FnExactFlourOfWrongFalsely : Prop := fnExactFlourOfRow.holds Try.pinned (OpenSpec.ofChange fnExactFlourOfWrong)

/-- 'laws.FnExactFeedFor': WHATEVER THE INPUT: true; the input reads as it did. -/
def fnExactFeedForSpec : ChangeSpec := { name := "fnExactFeedFor", fn := fun _ => fun
  | [d1, d2, d3] => { results := [.lit (.bool true)], args := [d1, d2, d3] }
  | _ => none }
def fnExactFeedForRow : OpenClaim := { program := "ytagjkagfnfonpaa", sum := "9472f5f7dde4658862bb210ff7278d4fa81b78aef4a5d9f5d1da208125eacd60", func := "loop.example/g01344/laws.FnExactFeedFor", spec := "fnExactFeedFor", apart := false }
def FnExactFeedForSaid : Prop := fnExactFeedForRow.holds Try.pinned (OpenSpec.ofChange fnExactFeedForSpec)

/-- ITS FALSE NEIGHBOUR: 'it returns false'. Refute it at one input. -/
def fnExactFeedForWrong : ChangeSpec := { name := "fnExactFeedFor", fn := fun _ => fun
  | [d1, d2, d3] => { results := [.lit (.bool false)], args := [d1, d2, d3] }
  | _ => none }
def FnExactFeedForWrongFalsely : Prop := fnExactFeedForRow.holds Try.pinned (OpenSpec.ofChange fnExactFeedForWrong)

/-- 'laws.FnExactDulled': WHATEVER THE INPUT: true; the input reads as it did. -/
def fnExactDulledSpec : ChangeSpec := { name := "fnExactDulled", fn := fun _ => fun
  | [d1, d2] => { results := [.lit (.bool true)], args := [d1, d2] }
  | _ => none }
def fnExactDulledRow : OpenClaim := { program := "ytagjkagfnfonpaa", sum := "9472f5f7dde4658862bb210ff7278d4fa81b78aef4a5d9f5d1da208125eacd60", func := "loop.example/g01344/laws.FnExactDulled", spec := "fnExactDulled", apart := false }
def FnExactDulledSaid : Prop := fnExactDulledRow.holds Try.pinned (OpenSpec.ofChange fnExactDulledSpec)

/-- ITS FALSE NEIGHBOUR: 'it returns false'. Refute it at one input. -/
def fnExactDulledWrong : ChangeSpec := { name := "fnExactDulled", fn := fun _ => fun
  | [d1, d2] => { results := [.lit (.bool false)], args := [d1, d2] }
  | _ => none }
def FnExactDulledWrongFalsely : Prop := fnExactDulledRow.holds Try.pinned (OpenSpec.ofChange fnExactDulledWrong)

/-- 'laws.FnExactDressed': WHATEVER THE INPUT: true; the input reads as it did. -/
def fnExactDressedSpec : ChangeSpec := { name := "fnExactDressed", fn := fun _ => fun
  | [d] => { results := [.lit (.bool true)], args := [d] }
  | _ => none }
def fnExactDressedRow : OpenClaim := { program := "ytagjkagfnfonpaa", sum := "9472f5f7dde4658862bb210ff7278d4fa81b78aef4a5d9f5d1da208125eacd60", func := "loop.example/g01344/laws.FnExactDressed", spec := "fnExactDressed", apart := false }
def FnExactDressedSaid : Prop := fnExactDressedRow.holds Try.pinned (OpenSpec.ofChange fnExactDressedSpec)

/-- ITS FALSE NEIGHBOUR: 'it returns false'. Refute it at one input. -/
def fnExactDressedWrong : ChangeSpec := { name := "fnExactDressed", fn := fun _ => fun
  | [d] => { results := [.lit (.bool false)], args := [d] }
  | _ => none }
def FnExactDressedWrongFalsely : Prop := fnExactDressedRow.holds Try.pinned (OpenSpec.ofChange fnExactDressedWrong)

/-- 'laws.FnExactSumOf': WHATEVER THE INPUT: true; the input reads as it did. -/
def fnExactSumOfSpec : ChangeSpec := { name := "fnExactSumOf", fn := fun _ => fun
  | [d] => { results := [.lit (.bool true)], args := [d] }
  | _ => none }
def fnExactSumOfRow : OpenClaim := { program := "ytagjkagfnfonpaa", sum := "9472f5f7dde4658862bb210ff7278d4fa81b78aef4a5d9f5d1da208125eacd60", func := "loop.example/g01344/laws.FnExactSumOf", spec := "fnExactSumOf", apart := false }
def FnExactSumOfSaid : Prop := fnExactSumOfRow.holds Try.pinned (OpenSpec.ofChange fnExactSumOfSpec)

/-- ITS FALSE NEIGHBOUR: 'it returns false'. Refute it at one input. -/
def fnExactSumOfWrong : ChangeSpec := { name := "fnExactSumOf", fn := fun _ => fun
  | [d] => { results := [.lit (.bool false)], args := [d] }
  | _ => none }
def FnExactSumOfWrongFalsely : Prop := fnExactSumOfRow.holds Try.pinned (OpenSpec.ofChange fnExactSumOfWrong)

/-- 'laws.FnExactSteadySpeed': WHATEVER THE INPUT: true; the input reads as it did. -/
def fnExactSteadySpeedSpec : ChangeSpec := { name := "fnExactSteadySpeed", fn := fun _ => fun
  | [d1, d2, d3, d4] => { results := [.lit (.bool true)], args := [d1, d2, d3, d4] }
  | _ => none }
def fnExactSteadySpeedRow : OpenClaim := { program := "ytagjkagfnfonpaa", sum := "9472f5f7dde4658862bb210ff7278d4fa81b78aef4a5d9f5d1da208125eacd60", func := "loop.example/g01344/laws.FnExactSteadySpeed", spec := "fnExactSteadySpeed", unfollowed := true, recurses := true, apart := false }
def FnExactSteadySpeedSaid : Prop := fnExactSteadySpeedRow.holds Try.pinned (OpenSpec.ofChange fnExactSteadySpeedSpec)

/-- ITS FALSE NEIGHBOUR: 'it returns false'. Refute it at one input. -/
def fnExactSteadySpeedWrong : ChangeSpec := { name := "fnExactSteadySpeed", fn := fun _ => fun
  | [d1, d2, d3, d4] => { results := [.lit (.bool false)], args := [d1, d2, d3, d4] }
  | _ => none }
def FnExactSteadySpeedWrongFalsely : Prop := fnExactSteadySpeedRow.holds Try.pinned (OpenSpec.ofChange fnExactSteadySpeedWrong)

/-- 'laws.FnExactGrindHour': WHATEVER THE INPUT: true; the input reads as it did. -/
def fnExactGrindHourSpec : ChangeSpec := { name := "fnExactGrindHour", fn := fun _ => fun
  | [d1, d2, d3] => { results := [.lit (.bool true)], args := [d1, d2, d3] }
  | _ => none }
def fnExactGrindHourRow : OpenClaim := { program := "ytagjkagfnfonpaa", sum := "9472f5f7dde4658862bb210ff7278d4fa81b78aef4a5d9f5d1da208125eacd60", func := "loop.example/g01344/laws.FnExactGrindHour", spec := "fnExactGrindHour", unfollowed := true, recurses := true, apart := false }
def FnExactGrindHourSaid : Prop := fnExactGrindHourRow.holds Try.pinned (OpenSpec.ofChange fnExactGrindHourSpec)

/-- ITS FALSE NEIGHBOUR: 'it returns false'. Refute it at one input. -/
def fnExactGrindHourWrong : ChangeSpec := { name := "fnExactGrindHour", fn := fun _ => fun
  | [d1, d2, d3] => { results := [.lit (.bool false)], args := [d1, d2, d3] }
  | _ => none }
def FnExactGrindHourWrongFalsely : Prop := fnExactGrindHourRow.holds Try.pinned (OpenSpec.ofChange fnExactGrindHourWrong)

/-- 'laws.FnExactHoursFor': WHATEVER THE INPUT: true; the input reads as it did. -/
def fnExactHoursForSpec : ChangeSpec := { name := "fnExactHoursFor", fn := fun _ => fun
  | [d1, d2, d3, d4] => { results := [.lit (.bool true)], args := [d1, d2, d3, d4] }
  | _ => none }
def fnExactHoursForRow : OpenClaim := { program := "ytagjkagfnfonpaa", sum := "9472f5f7dde4658862bb210ff7278d4fa81b78aef4a5d9f5d1da208125eacd60", func := "loop.example/g01344/laws.FnExactHoursFor", spec := "fnExactHoursFor", unfollowed := true, recurses := true, apart := false }
def FnExactHoursForSaid : Prop := fnExactHoursForRow.holds Try.pinned (OpenSpec.ofChange fnExactHoursForSpec)

/-- ITS FALSE NEIGHBOUR: 'it returns false'. Refute it at one input. -/
def fnExactHoursForWrong : ChangeSpec := { name := "fnExactHoursFor", fn := fun _ => fun
  | [d1, d2, d3, d4] => { results := [.lit (.bool false)], args := [d1, d2, d3, d4] }
  | _ => none }
def FnExactHoursForWrongFalsely : Prop := fnExactHoursForRow.holds Try.pinned (OpenSpec.ofChange fnExactHoursForWrong)

/- THE SECOND FORM. 'bulk': how many values and letters a reading holds, each counted each time it is reached (what is shared counts as often as it is met; a slice's spare places count too). A statement '..UptoSaid' is the law's where the arguments, and the package variables that the reading takes, are together of bulk at most 1048576: NARROWER than '..Said'. Prove '..Said' where nothing that the law and all that it calls make is longer than what came in: it says more and counts as full. Else prove '..UptoSaid'. A law counts once. -/
mutual
def uptoBulk {H : Type} : DataW H → Nat
  | .lit (.string bytes) => bytes.length + 1
  | .lit _ => 1
  | .nil => 1
  | .ptr d => uptoBulk d + 1
  | .slice elems spare => uptoBulkAll elems + uptoBulkAll spare + 1
  | .agg parts => uptoBulkAll parts + 1
  | .iface _ d => uptoBulk d + 1
  | .map entries => uptoBulkEntries entries + 1
  | .held _ => 1
def uptoBulkAll {H : Type} : List (DataW H) → Nat
  | [] => 0
  | d :: r => uptoBulk d + uptoBulkAll r
def uptoBulkEntries {H : Type} : List (Lit × DataW H) → Nat
  | [] => 0
  | x :: r => uptoBulkEntry x + uptoBulkEntries r
def uptoBulkEntry {H : Type} : Lit × DataW H → Nat
  | (.string bytes, d) => bytes.length + uptoBulk d + 1
  | (_, d) => uptoBulk d + 1
 end
def uptoSmall : (H : Type) → List (DataW H) → Bool := fun _ ds => decide (uptoBulkAll ds ≤ 1048576)
def OpenSpec.upto (s : _root_.Go.ChangeSpec) : _root_.Go.OpenSpec := { _root_.Go.OpenSpec.ofChange s with cond := some uptoSmall }

/-- 'laws.FnExactIsRate', WHERE WHAT IT READS IS OF BULK AT MOST 1048576: true; the input reads as it did. -/
def fnExactIsRateUptoRow : OpenClaim := { program := "ytagjkagfnfonpaa", sum := "9472f5f7dde4658862bb210ff7278d4fa81b78aef4a5d9f5d1da208125eacd60", func := "loop.example/g01344/laws.FnExactIsRate", spec := "fnExactIsRate", apart := false, narrowed := true }
def FnExactIsRateUptoSaid : Prop := fnExactIsRateUptoRow.holds Try.pinned (OpenSpec.upto fnExactIsRateSpec)

/-- 'laws.FnExactValidStone', WHERE WHAT IT READS IS OF BULK AT MOST 1048576: true; the input reads as it did. -/
def fnExactValidStoneUptoRow : OpenClaim := { program := "ytagjkagfnfonpaa", sum := "9472f5f7dde4658862bb210ff7278d4fa81b78aef4a5d9f5d1da208125eacd60", func := "loop.example/g01344/laws.FnExactValidStone", spec := "fnExactValidStone", apart := false, narrowed := true }
def FnExactValidStoneUptoSaid : Prop := fnExactValidStoneUptoRow.holds Try.pinned (OpenSpec.upto fnExactValidStoneSpec)

/-- 'laws.FnExactSameStone', WHERE WHAT IT READS IS OF BULK AT MOST 1048576: true; the input reads as it did. -/
def fnExactSameStoneUptoRow : OpenClaim := { program := "ytagjkagfnfonpaa", sum := "9472f5f7dde4658862bb210ff7278d4fa81b78aef4a5d9f5d1da208125eacd60", func := "loop.example/g01344/laws.FnExactSameStone", spec := "fnExactSameStone", inPlace := ["math.Float32bits"], apart := false, narrowed := true }
def FnExactSameStoneUptoSaid : Prop := fnExactSameStoneUptoRow.holds Try.pinned (OpenSpec.upto fnExactSameStoneSpec)

/-- 'laws.FnExactLoadOf', WHERE WHAT IT READS IS OF BULK AT MOST 1048576: true; the input reads as it did. -/
def fnExactLoadOfUptoRow : OpenClaim := { program := "ytagjkagfnfonpaa", sum := "9472f5f7dde4658862bb210ff7278d4fa81b78aef4a5d9f5d1da208125eacd60", func := "loop.example/g01344/laws.FnExactLoadOf", spec := "fnExactLoadOf", unfollowed := true, recurses := true, apart := false, narrowed := true }
def FnExactLoadOfUptoSaid : Prop := fnExactLoadOfUptoRow.holds Try.pinned (OpenSpec.upto fnExactLoadOfSpec)

/-- 'laws.FnExactFlourOf', WHERE WHAT IT READS IS OF BULK AT MOST 1048576: true; the input reads as it did. -/
def fnExactFlourOfUptoRow : OpenClaim := { program := "ytagjkagfnfonpaa", sum := "9472f5f7dde4658862bb210ff7278d4fa81b78aef4a5d9f5d1da208125eacd60", func := "loop.example/g01344/laws.FnExactFlourOf", spec := "fnExactFlourOf", unfollowed := true, recurses := true, apart := false, narrowed := true }
def FnExactFlourOfUptoSaid : Prop := fnExactFlourOfUptoRow.holds Try.pinned (OpenSpec.upto fnExactFlourOfSpec)

/-- 'laws.FnExactFeedFor', WHERE WHAT IT READS IS OF BULK AT MOST 1048576: true; the input reads as it did. -/
def fnExactFeedForUptoRow : OpenClaim := { program := "ytagjkagfnfonpaa", sum := "9472f5f7dde4658862bb210ff7278d4fa81b78aef4a5d9f5d1da208125eacd60", func := "loop.example/g01344/laws.FnExactFeedFor", spec := "fnExactFeedFor", apart := false, narrowed := true }
def FnExactFeedForUptoSaid : Prop := fnExactFeedForUptoRow.holds Try.pinned (OpenSpec.upto fnExactFeedForSpec)

/-- 'laws.FnExactDulled', WHERE WHAT IT READS IS OF BULK AT MOST 1048576: true; the input reads as it did. -/
def fnExactDulledUptoRow : OpenClaim := { program := "ytagjkagfnfonpaa", sum := "9472f5f7dde4658862bb210ff7278d4fa81b78aef4a5d9f5d1da208125eacd60", func := "loop.example/g01344/laws.FnExactDulled", spec := "fnExactDulled", apart := false, narrowed := true }
def FnExactDulledUptoSaid : Prop := fnExactDulledUptoRow.holds Try.pinned (OpenSpec.upto fnExactDulledSpec)

/-- 'laws.FnExactDressed', WHERE WHAT IT READS IS OF BULK AT MOST 1048576: true; the input reads as it did. -/
def fnExactDressedUptoRow : OpenClaim := { program := "ytagjkagfnfonpaa", sum := "9472f5f7dde4658862bb210ff7278d4fa81b78aef4a5d9f5d1da208125eacd60", func := "loop.example/g01344/laws.FnExactDressed", spec := "fnExactDressed", apart := false, narrowed := true }
def FnExactDressedUptoSaid : Prop := fnExactDressedUptoRow.holds Try.pinned (OpenSpec.upto fnExactDressedSpec)

/-- 'laws.FnExactSumOf', WHERE WHAT IT READS IS OF BULK AT MOST 1048576: true; the input reads as it did. -/
def fnExactSumOfUptoRow : OpenClaim := { program := "ytagjkagfnfonpaa", sum := "9472f5f7dde4658862bb210ff7278d4fa81b78aef4a5d9f5d1da208125eacd60", func := "loop.example/g01344/laws.FnExactSumOf", spec := "fnExactSumOf", apart := false, narrowed := true }
def FnExactSumOfUptoSaid : Prop := fnExactSumOfUptoRow.holds Try.pinned (OpenSpec.upto fnExactSumOfSpec)

/-- 'laws.FnExactSteadySpeed', WHERE WHAT IT READS IS OF BULK AT MOST 1048576: true; the input reads as it did. -/
def fnExactSteadySpeedUptoRow : OpenClaim := { program := "ytagjkagfnfonpaa", sum := "9472f5f7dde4658862bb210ff7278d4fa81b78aef4a5d9f5d1da208125eacd60", func := "loop.example/g01344/laws.FnExactSteadySpeed", spec := "fnExactSteadySpeed", unfollowed := true, recurses := true, apart := false, narrowed := true }
def FnExactSteadySpeedUptoSaid : Prop := fnExactSteadySpeedUptoRow.holds Try.pinned (OpenSpec.upto fnExactSteadySpeedSpec)

/-- 'laws.FnExactGrindHour', WHERE WHAT IT READS IS OF BULK AT MOST 1048576: true; the input reads as it did. -/
def fnExactGrindHourUptoRow : OpenClaim := { program := "ytagjkagfnfonpaa", sum := "9472f5f7dde4658862bb210ff7278d4fa81b78aef4a5d9f5d1da208125eacd60", func := "loop.example/g01344/laws.FnExactGrindHour", spec := "fnExactGrindHour", unfollowed := true, recurses := true, apart := false, narrowed := true }
def FnExactGrindHourUptoSaid : Prop := fnExactGrindHourUptoRow.holds Try.pinned (OpenSpec.upto fnExactGrindHourSpec)

/-- 'laws.FnExactHoursFor', WHERE WHAT IT READS IS OF BULK AT MOST 1048576: true; the input reads as it did. -/
def fnExactHoursForUptoRow : OpenClaim := { program := "ytagjkagfnfonpaa", sum := "9472f5f7dde4658862bb210ff7278d4fa81b78aef4a5d9f5d1da208125eacd60", func := "loop.example/g01344/laws.FnExactHoursFor", spec := "fnExactHoursFor", unfollowed := true, recurses := true, apart := false, narrowed := true }
def FnExactHoursForUptoSaid : Prop := fnExactHoursForUptoRow.holds Try.pinned (OpenSpec.upto fnExactHoursForSpec)

end Rows
end Go.Proofs.Ytagjkagfnfonpaa
