/-
  No cell of these rows narrows 'for every input' (looked for: loops, veiled, ifaces, maps, wideKeys, modest, calm, conditions, laid).
  DERIVED. THE GIVEN ROWS OF THIS SEAT. 10 by the template 'for every input the law returns true; each argument reads behind the call as it read before'; 0 by the template 'total and deterministic' (their statements: YtdfookgncokgjadTotals.lean).
  GIVEN WITH THE SEED: the statements are not yours to turn. If you find one false, say at which input.
  Laid BY PROGRAM, IN A SANDBOX (cutbox-rows.mjs): the forced cells as the released guide's own fill.sh prints them over the translation c8fc210c292ebbe7… (all of the seat's roots in one cut). By AI agents, Wed Nov 11 2026. No macro, syntax, notation, axiom, sorry.
-/
import Derived.Test.YtdfookgncokgjadChecked
import GoSem.Claim
import GoSem.ClaimJoined
import GoSem.ClaimMapViews
import Derived.JoinedTies
import Derived.KernelRfl
namespace Go.Proofs.Ytdfookgncokgjad
/- THE CELL 'sum', in the pinned program and in every row, IS THE sha256 OF THE DUMP (.gsa) THAT YtdfookgncokgjadProg.lean LOADS. Nothing in Lean hashes anything: it is a label: what it is worth is what the hold of that sum in a sandbox is worth. -/
noncomputable def Try.pinned : Pinned := { name := "ytdfookgncokgjad", sum := "c8fc210c292ebbe7de7ac4d38290979d7fc81606c2cc79a8198c83892d9afcda", checked := Try.checked }
namespace Rows
def none {H : Type} : Left H := { results := [], args := [] }

/-- 'laws.FnExactSlipFor': WHATEVER THE INPUT: true; the input reads as it did. -/
def fnExactSlipForSpec : ChangeSpec := { name := "fnExactSlipFor", fn := fun _ => fun
  | [d1, d2, d3] => { results := [.lit (.bool true)], args := [d1, d2, d3] }
  | _ => none }
def fnExactSlipForRow : OpenClaim := { program := "ytdfookgncokgjad", sum := "c8fc210c292ebbe7de7ac4d38290979d7fc81606c2cc79a8198c83892d9afcda", func := "loop.example/g01344/laws.FnExactSlipFor", spec := "fnExactSlipFor", unfollowed := true, recurses := true, leaving := true, apart := false }
def FnExactSlipForSaid : Prop := fnExactSlipForRow.holds Try.pinned (OpenSpec.ofChange fnExactSlipForSpec)

/-- ITS FALSE NEIGHBOUR: 'it returns false'. Refute it at one input. -/
def fnExactSlipForWrong : ChangeSpec := { name := "fnExactSlipFor", fn := fun _ => fun
  | [d1, d2, d3] => { results := [.lit (.bool false)], args := [d1, d2, d3] }
  | _ => none }
def FnExactSlipForWrongFalsely : Prop := fnExactSlipForRow.holds Try.pinned (OpenSpec.ofChange fnExactSlipForWrong)

/-- 'laws.FnExactSpeedOut': WHATEVER THE INPUT: true; the input reads as it did. -/
def fnExactSpeedOutSpec : ChangeSpec := { name := "fnExactSpeedOut", fn := fun _ => fun
  | [d1, d2, d3] => { results := [.lit (.bool true)], args := [d1, d2, d3] }
  | _ => none }
def fnExactSpeedOutRow : OpenClaim := { program := "ytdfookgncokgjad", sum := "c8fc210c292ebbe7de7ac4d38290979d7fc81606c2cc79a8198c83892d9afcda", func := "loop.example/g01344/laws.FnExactSpeedOut", spec := "fnExactSpeedOut", apart := false }
def FnExactSpeedOutSaid : Prop := fnExactSpeedOutRow.holds Try.pinned (OpenSpec.ofChange fnExactSpeedOutSpec)

/-- ITS FALSE NEIGHBOUR: 'it returns false'. Refute it at one input. -/
def fnExactSpeedOutWrong : ChangeSpec := { name := "fnExactSpeedOut", fn := fun _ => fun
  | [d1, d2, d3] => { results := [.lit (.bool false)], args := [d1, d2, d3] }
  | _ => none }
def FnExactSpeedOutWrongFalsely : Prop := fnExactSpeedOutRow.holds Try.pinned (OpenSpec.ofChange fnExactSpeedOutWrong)

/-- 'laws.FnExactBeltsNeeded': WHATEVER THE INPUT: true; the input reads as it did. -/
def fnExactBeltsNeededSpec : ChangeSpec := { name := "fnExactBeltsNeeded", fn := fun _ => fun
  | [d1, d2, d3] => { results := [.lit (.bool true)], args := [d1, d2, d3] }
  | _ => none }
def fnExactBeltsNeededRow : OpenClaim := { program := "ytdfookgncokgjad", sum := "c8fc210c292ebbe7de7ac4d38290979d7fc81606c2cc79a8198c83892d9afcda", func := "loop.example/g01344/laws.FnExactBeltsNeeded", spec := "fnExactBeltsNeeded", unfollowed := true, recurses := true, leaving := true, apart := false }
def FnExactBeltsNeededSaid : Prop := fnExactBeltsNeededRow.holds Try.pinned (OpenSpec.ofChange fnExactBeltsNeededSpec)

/-- ITS FALSE NEIGHBOUR: 'it returns false'. Refute it at one input. -/
def fnExactBeltsNeededWrong : ChangeSpec := { name := "fnExactBeltsNeeded", fn := fun _ => fun
  | [d1, d2, d3] => { results := [.lit (.bool false)], args := [d1, d2, d3] }
  | _ => none }
def FnExactBeltsNeededWrongFalsely : Prop := fnExactBeltsNeededRow.holds Try.pinned (OpenSpec.ofChange fnExactBeltsNeededWrong)

/-- 'laws.FnExactStretchedLength': WHATEVER THE INPUT: true; the input reads as it did. -/
def fnExactStretchedLengthSpec : ChangeSpec := { name := "fnExactStretchedLength", fn := fun _ => fun
  | [d1, d2, d3] => { results := [.lit (.bool true)], args := [d1, d2, d3] }
  | _ => none }
def fnExactStretchedLengthRow : OpenClaim := { program := "ytdfookgncokgjad", sum := "c8fc210c292ebbe7de7ac4d38290979d7fc81606c2cc79a8198c83892d9afcda", func := "loop.example/g01344/laws.FnExactStretchedLength", spec := "fnExactStretchedLength", unfollowed := true, recurses := true, leaving := true, apart := false }
def FnExactStretchedLengthSaid : Prop := fnExactStretchedLengthRow.holds Try.pinned (OpenSpec.ofChange fnExactStretchedLengthSpec)

/-- ITS FALSE NEIGHBOUR: 'it returns false'. Refute it at one input. -/
def fnExactStretchedLengthWrong : ChangeSpec := { name := "fnExactStretchedLength", fn := fun _ => fun
  | [d1, d2, d3] => { results := [.lit (.bool false)], args := [d1, d2, d3] }
  | _ => none }
def FnExactStretchedLengthWrongFalsely : Prop := fnExactStretchedLengthRow.holds Try.pinned (OpenSpec.ofChange fnExactStretchedLengthWrong)

/-- 'laws.FnExactApartFor': WHATEVER THE INPUT: true; the input reads as it did. -/
def fnExactApartForSpec : ChangeSpec := { name := "fnExactApartFor", fn := fun _ => fun
  | [d1, d2] => { results := [.lit (.bool true)], args := [d1, d2] }
  | _ => none }
def fnExactApartForRow : OpenClaim := { program := "ytdfookgncokgjad", sum := "c8fc210c292ebbe7de7ac4d38290979d7fc81606c2cc79a8198c83892d9afcda", func := "loop.example/g01344/laws.FnExactApartFor", spec := "fnExactApartFor", unfollowed := true, recurses := true, leaving := true, apart := false }
def FnExactApartForSaid : Prop := fnExactApartForRow.holds Try.pinned (OpenSpec.ofChange fnExactApartForSpec)

/-- ITS FALSE NEIGHBOUR: 'it returns false'. Refute it at one input. -/
def fnExactApartForWrong : ChangeSpec := { name := "fnExactApartFor", fn := fun _ => fun
  | [d1, d2] => { results := [.lit (.bool false)], args := [d1, d2] }
  | _ => none }
def FnExactApartForWrongFalsely : Prop := fnExactApartForRow.holds Try.pinned (OpenSpec.ofChange fnExactApartForWrong)

/-- 'laws.FnExactRadiusFor': WHATEVER THE INPUT: true; the input reads as it did. -/
def fnExactRadiusForSpec : ChangeSpec := { name := "fnExactRadiusFor", fn := fun _ => fun
  | [d1, d2, d3] => { results := [.lit (.bool true)], args := [d1, d2, d3] }
  | _ => none }
def fnExactRadiusForRow : OpenClaim := { program := "ytdfookgncokgjad", sum := "c8fc210c292ebbe7de7ac4d38290979d7fc81606c2cc79a8198c83892d9afcda", func := "loop.example/g01344/laws.FnExactRadiusFor", spec := "fnExactRadiusFor", unfollowed := true, recurses := true, leaving := true, apart := false }
def FnExactRadiusForSaid : Prop := fnExactRadiusForRow.holds Try.pinned (OpenSpec.ofChange fnExactRadiusForSpec)

/-- ITS FALSE NEIGHBOUR: 'it returns false'. Refute it at one input. -/
def fnExactRadiusForWrong : ChangeSpec := { name := "fnExactRadiusFor", fn := fun _ => fun
  | [d1, d2, d3] => { results := [.lit (.bool false)], args := [d1, d2, d3] }
  | _ => none }
def FnExactRadiusForWrongFalsely : Prop := fnExactRadiusForRow.holds Try.pinned (OpenSpec.ofChange fnExactRadiusForWrong)

/-- 'laws.FnExactConeFor': WHATEVER THE INPUT: true; the input reads as it did. -/
def fnExactConeForSpec : ChangeSpec := { name := "fnExactConeFor", fn := fun _ => fun
  | [d1, d2] => { results := [.lit (.bool true)], args := [d1, d2] }
  | _ => none }
def fnExactConeForRow : OpenClaim := { program := "ytdfookgncokgjad", sum := "c8fc210c292ebbe7de7ac4d38290979d7fc81606c2cc79a8198c83892d9afcda", func := "loop.example/g01344/laws.FnExactConeFor", spec := "fnExactConeFor", unfollowed := true, recurses := true, leaving := true, apart := false }
def FnExactConeForSaid : Prop := fnExactConeForRow.holds Try.pinned (OpenSpec.ofChange fnExactConeForSpec)

/-- ITS FALSE NEIGHBOUR: 'it returns false'. Refute it at one input. -/
def fnExactConeForWrong : ChangeSpec := { name := "fnExactConeFor", fn := fun _ => fun
  | [d1, d2] => { results := [.lit (.bool false)], args := [d1, d2] }
  | _ => none }
def FnExactConeForWrongFalsely : Prop := fnExactConeForRow.holds Try.pinned (OpenSpec.ofChange fnExactConeForWrong)

/-- 'laws.FnExactSpeedsThrough': WHATEVER THE INPUT: true; the input reads as it did. -/
def fnExactSpeedsThroughSpec : ChangeSpec := { name := "fnExactSpeedsThrough", fn := fun _ => fun
  | [d1, d2] => { results := [.lit (.bool true)], args := [d1, d2] }
  | _ => none }
def fnExactSpeedsThroughRow : OpenClaim := { program := "ytdfookgncokgjad", sum := "c8fc210c292ebbe7de7ac4d38290979d7fc81606c2cc79a8198c83892d9afcda", func := "loop.example/g01344/laws.FnExactSpeedsThrough", spec := "fnExactSpeedsThrough", apart := false }
def FnExactSpeedsThroughSaid : Prop := fnExactSpeedsThroughRow.holds Try.pinned (OpenSpec.ofChange fnExactSpeedsThroughSpec)

/-- ITS FALSE NEIGHBOUR: 'it returns false'. Refute it at one input. -/
def fnExactSpeedsThroughWrong : ChangeSpec := { name := "fnExactSpeedsThrough", fn := fun _ => fun
  | [d1, d2] => { results := [.lit (.bool false)], args := [d1, d2] }
  | _ => none }
def FnExactSpeedsThroughWrongFalsely : Prop := fnExactSpeedsThroughRow.holds Try.pinned (OpenSpec.ofChange fnExactSpeedsThroughWrong)

/-- 'laws.FnExactLongestBelt': WHATEVER THE INPUT: true; the input reads as it did. -/
def fnExactLongestBeltSpec : ChangeSpec := { name := "fnExactLongestBelt", fn := fun _ => fun
  | [d] => { results := [.lit (.bool true)], args := [d] }
  | _ => none }
def fnExactLongestBeltRow : OpenClaim := { program := "ytdfookgncokgjad", sum := "c8fc210c292ebbe7de7ac4d38290979d7fc81606c2cc79a8198c83892d9afcda", func := "loop.example/g01344/laws.FnExactLongestBelt", spec := "fnExactLongestBelt", unfollowed := true, recurses := true, leaving := true, apart := false }
def FnExactLongestBeltSaid : Prop := fnExactLongestBeltRow.holds Try.pinned (OpenSpec.ofChange fnExactLongestBeltSpec)

/-- ITS FALSE NEIGHBOUR: 'it returns false'. Refute it at one input. -/
def fnExactLongestBeltWrong : ChangeSpec := { name := "fnExactLongestBelt", fn := fun _ => fun
  | [d] => { results := [.lit (.bool false)], args := [d] }
  | _ => none }
def FnExactLongestBeltWrongFalsely : Prop := fnExactLongestBeltRow.holds Try.pinned (OpenSpec.ofChange fnExactLongestBeltWrong)

/-- 'laws.FnExactTurnBelt': WHATEVER THE INPUT: true; the input reads as it did. -/
def fnExactTurnBeltSpec : ChangeSpec := { name := "fnExactTurnBelt", fn := fun _ => fun
  | [d] => { results := [.lit (.bool true)], args := [d] }
  | _ => none }
def fnExactTurnBeltRow : OpenClaim := { program := "ytdfookgncokgjad", sum := "c8fc210c292ebbe7de7ac4d38290979d7fc81606c2cc79a8198c83892d9afcda", func := "loop.example/g01344/laws.FnExactTurnBelt", spec := "fnExactTurnBelt", apart := false }
def FnExactTurnBeltSaid : Prop := fnExactTurnBeltRow.holds Try.pinned (OpenSpec.ofChange fnExactTurnBeltSpec)

/-- ITS FALSE NEIGHBOUR: 'it returns false'. Refute it at one input. -/
def fnExactTurnBeltWrong : ChangeSpec := { name := "fnExactTurnBelt", fn := fun _ => fun
  | [d] => { results := [.lit (.bool false)], args := [d] }
  | _ => none }
def FnExactTurnBeltWrongFalsely : Prop := fnExactTurnBeltRow.holds Try.pinned (OpenSpec.ofChange fnExactTurnBeltWrong)

/- THE SECOND FORM. 'bulk': how many values and letters a reading holds, each counted each time it is reached (what is shared counts as often as it is met; a slice's spare places count too). A statement '..UptoSaid' is the law's where the arguments, and the package variables that the reading takes, are together of bulk at most 1048576: NARROWER than '..Said'. Prove '..Said' where nothing that the law and all that it calls make is longer than what came in: it says more and counts as full. Else prove '..UptoSaid'. A law counts once. -/
mutual
def uptoBulk {H : Type} : DataW H → Nat
  | .lit (.string bytes) => bytes.length + 1
  | .lit _ => 1
  | .nil => 1
  | .ptr d => uptoBulk d + 1
  | .slice elems spare => uptoBulkAll elems + uptoBulkAll spare + 1
  | .agg parts => uptoBulkAll parts + 1
  | .iface _ d => uptoBulk d + 1
  | .map entries => uptoBulkEntries entries + 1
  | .held _ => 1
def uptoBulkAll {H : Type} : List (DataW H) → Nat
  | [] => 0
  | d :: r => uptoBulk d + uptoBulkAll r
def uptoBulkEntries {H : Type} : List (Lit × DataW H) → Nat
  | [] => 0
  | x :: r => uptoBulkEntry x + uptoBulkEntries r
def uptoBulkEntry {H : Type} : Lit × DataW H → Nat
  | (.string bytes, d) => bytes.length + uptoBulk d + 1
  | (_, d) => uptoBulk d + 1
 end
def uptoSmall : (H : Type) → List (DataW H) → Bool := fun _ ds => decide (uptoBulkAll ds ≤ 1048576)
def OpenSpec.upto (s : _root_.Go.ChangeSpec) : _root_.Go.OpenSpec := { _root_.Go.OpenSpec.ofChange s with cond := some uptoSmall }

/-- 'laws.FnExactSlipFor', WHERE WHAT IT READS IS OF BULK AT MOST 1048576: true; the input reads as it did. -/
def fnExactSlipForUptoRow : OpenClaim := { program := "ytdfookgncokgjad", sum := "c8fc210c292ebbe7de7ac4d38290979d7fc81606c2cc79a8198c83892d9afcda", func := "loop.example/g01344/laws.FnExactSlipFor", spec := "fnExactSlipFor", unfollowed := true, recurses := true, leaving := true, apart := false, narrowed := true }
def FnExactSlipForUptoSaid : Prop := fnExactSlipForUptoRow.holds Try.pinned (OpenSpec.upto fnExactSlipForSpec)

/-- 'laws.FnExactSpeedOut', WHERE WHAT IT READS IS OF BULK AT MOST 1048576: true; the input reads as it did. -/
def fnExactSpeedOutUptoRow : OpenClaim := { program := "ytdfookgncokgjad", sum := "c8fc210c292ebbe7de7ac4d38290979d7fc81606c2cc79a8198c83892d9afcda", func := "loop.example/g01344/laws.FnExactSpeedOut", spec := "fnExactSpeedOut", apart := false, narrowed := true }
def FnExactSpeedOutUptoSaid : Prop := fnExactSpeedOutUptoRow.holds Try.pinned (OpenSpec.upto fnExactSpeedOutSpec)

/-- 'laws.FnExactBeltsNeeded', WHERE WHAT IT READS IS OF BULK AT MOST 1048576: true; the input reads as it did. -/
def fnExactBeltsNeededUptoRow : OpenClaim := { program := "ytdfookgncokgjad", sum := "c8fc210c292ebbe7de7ac4d38290979d7fc81606c2cc79a8198c83892d9afcda", func := "loop.example/g01344/laws.FnExactBeltsNeeded", spec := "fnExactBeltsNeeded", unfollowed := true, recurses := true, leaving := true, apart := false, narrowed := true }
def FnExactBeltsNeededUptoSaid : Prop := fnExactBeltsNeededUptoRow.holds Try.pinned (OpenSpec.upto fnExactBeltsNeededSpec)

/-- 'laws.FnExactStretchedLength', WHERE WHAT IT READS IS OF BULK AT MOST 1048576: true; the input reads as it did. -/
def fnExactStretchedLengthUptoRow : OpenClaim := { program := "ytdfookgncokgjad", sum := "c8fc210c292ebbe7de7ac4d38290979d7fc81606c2cc79a8198c83892d9afcda", func := "loop.example/g01344/laws.FnExactStretchedLength", spec := "fnExactStretchedLength", unfollowed := true, recurses := true, leaving := true, apart := false, narrowed := true }
def FnExactStretchedLengthUptoSaid : Prop := fnExactStretchedLengthUptoRow.holds Try.pinned (OpenSpec.upto fnExactStretchedLengthSpec)

/-- 'laws.FnExactApartFor', WHERE WHAT IT READS IS OF BULK AT MOST 1048576: true; the input reads as it did. -/
def fnExactApartForUptoRow : OpenClaim := { program := "ytdfookgncokgjad", sum := "c8fc210c292ebbe7de7ac4d38290979d7fc81606c2cc79a8198c83892d9afcda", func := "loop.example/g01344/laws.FnExactApartFor", spec := "fnExactApartFor", unfollowed := true, recurses := true, leaving := true, apart := false, narrowed := true }
def FnExactApartForUptoSaid : Prop := fnExactApartForUptoRow.holds Try.pinned (OpenSpec.upto fnExactApartForSpec)

/-- 'laws.FnExactRadiusFor', WHERE WHAT IT READS IS OF BULK AT MOST 1048576: true; the input reads as it did. -/
def fnExactRadiusForUptoRow : OpenClaim := { program := "ytdfookgncokgjad", sum := "c8fc210c292ebbe7de7ac4d38290979d7fc81606c2cc79a8198c83892d9afcda", func := "loop.example/g01344/laws.FnExactRadiusFor", spec := "fnExactRadiusFor", unfollowed := true, recurses := true, leaving := true, apart := false, narrowed := true }
def FnExactRadiusForUptoSaid : Prop := fnExactRadiusForUptoRow.holds Try.pinned (OpenSpec.upto fnExactRadiusForSpec)

/-- 'laws.FnExactConeFor', WHERE WHAT IT READS IS OF BULK AT MOST 1048576: true; the input reads as it did. -/
def fnExactConeForUptoRow : OpenClaim := { program := "ytdfookgncokgjad", sum := "c8fc210c292ebbe7de7ac4d38290979d7fc81606c2cc79a8198c83892d9afcda", func := "loop.example/g01344/laws.FnExactConeFor", spec := "fnExactConeFor", unfollowed := true, recurses := true, leaving := true, apart := false, narrowed := true }
def FnExactConeForUptoSaid : Prop := fnExactConeForUptoRow.holds Try.pinned (OpenSpec.upto fnExactConeForSpec)

/-- 'laws.FnExactSpeedsThrough', WHERE WHAT IT READS IS OF BULK AT MOST 1048576: true; the input reads as it did. -/
def fnExactSpeedsThroughUptoRow : OpenClaim := { program := "ytdfookgncokgjad", sum := "c8fc210c292ebbe7de7ac4d38290979d7fc81606c2cc79a8198c83892d9afcda", func := "loop.example/g01344/laws.FnExactSpeedsThrough", spec := "fnExactSpeedsThrough", apart := false, narrowed := true }
def FnExactSpeedsThroughUptoSaid : Prop := fnExactSpeedsThroughUptoRow.holds Try.pinned (OpenSpec.upto fnExactSpeedsThroughSpec)

/-- 'laws.FnExactLongestBelt', WHERE WHAT IT READS IS OF BULK AT MOST 1048576: true; the input reads as it did. -/
def fnExactLongestBeltUptoRow : OpenClaim := { program := "ytdfookgncokgjad", sum := "c8fc210c292ebbe7de7ac4d38290979d7fc81606c2cc79a8198c83892d9afcda", func := "loop.example/g01344/laws.FnExactLongestBelt", spec := "fnExactLongestBelt", unfollowed := true, recurses := true, leaving := true, apart := false, narrowed := true }
def FnExactLongestBeltUptoSaid : Prop := fnExactLongestBeltUptoRow.holds Try.pinned (OpenSpec.upto fnExactLongestBeltSpec)

/-- 'laws.FnExactTurnBelt', WHERE WHAT IT READS IS OF BULK AT MOST 1048576: true; the input reads as it did. -/
def fnExactTurnBeltUptoRow : OpenClaim := { program := "ytdfookgncokgjad", sum := "c8fc210c292ebbe7de7ac4d38290979d7fc81606c2cc79a8198c83892d9afcda", func := "loop.example/g01344/laws.FnExactTurnBelt", spec := "fnExactTurnBelt", apart := false, narrowed := true }
def FnExactTurnBeltUptoSaid : Prop := fnExactTurnBeltUptoRow.holds Try.pinned (OpenSpec.upto fnExactTurnBeltSpec)

end Rows
end Go.Proofs.Ytdfookgncokgjad
