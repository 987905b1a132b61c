/-
  No cell of these rows narrows 'for every input' (looked for: loops, veiled, ifaces, maps, wideKeys, modest, calm, conditions, laid).
  DERIVED. THE GIVEN ROWS OF THIS SEAT. 4 by the template 'for every input the law returns true; each argument reads behind the call as it read before'; 0 by the template 'total and deterministic' (their statements: YtagjkagfnfonpabTotals.lean).
  GIVEN WITH THE SEED: the statements are not yours to turn. If you find one false, say at which input.
  Laid BY PROGRAM, IN A SANDBOX (cutbox-rows.mjs): the forced cells as the released guide's own fill.sh prints them over the translation b562a8177cc8726b… (all of the seat's roots in one cut). By AI agents, Wed Nov 11 2026. No macro, syntax, notation, axiom, sorry.
-/
import Derived.Test.YtagjkagfnfonpabChecked
import GoSem.Claim
import GoSem.ClaimJoined
import GoSem.ClaimMapViews
import Derived.JoinedTies
import Derived.KernelRfl
namespace Go.Proofs.Ytagjkagfnfonpab
/- THE CELL 'sum', in the pinned program and in every row, IS THE sha256 OF THE DUMP (.gsa) THAT YtagjkagfnfonpabProg.lean LOADS. Nothing in Lean hashes anything: it is a label: what it is worth is what the hold of that sum in a sandbox is worth. -/
noncomputable def Try.pinned : Pinned := { name := "ytagjkagfnfonpab", sum := "b562a8177cc8726b55128b0fc61e6fee91c7aade1044a68bcb89171c98cb9fe0", checked := Try.checked }
namespace Rows
def none {H : Type} : Left H := { results := [], args := [] }

/-- 'laws.FnExactGrindDay': WHATEVER THE INPUT: true; the input reads as it did. -/
def fnExactGrindDaySpec : ChangeSpec := { name := "fnExactGrindDay", fn := fun _ => fun
  | [d1, d2, d3] => { results := [.lit (.bool true)], args := [d1, d2, d3] }
  | _ => none }
def fnExactGrindDayRow : OpenClaim := { program := "ytagjkagfnfonpab", sum := "b562a8177cc8726b55128b0fc61e6fee91c7aade1044a68bcb89171c98cb9fe0", func := "loop.example/g01344/laws.FnExactGrindDay", spec := "fnExactGrindDay", unfollowed := true, recurses := true, apart := false }
def FnExactGrindDaySaid : Prop := fnExactGrindDayRow.holds Try.pinned (OpenSpec.ofChange fnExactGrindDaySpec)

/-- ITS FALSE NEIGHBOUR: 'it returns false'. Refute it at one input. -/
def fnExactGrindDayWrong : ChangeSpec := { name := "fnExactGrindDay", fn := fun _ => fun
  | [d1, d2, d3] => { results := [.lit (.bool false)], args := [d1, d2, d3] }
  | _ => none }
def FnExactGrindDayWrongFalsely : Prop := fnExactGrindDayRow.holds Try.pinned (OpenSpec.ofChange fnExactGrindDayWrong)

/-- 'laws.FnExactDressedDay': WHATEVER THE INPUT: true; the input reads as it did. -/
def fnExactDressedDaySpec : ChangeSpec := { name := "fnExactDressedDay", fn := fun _ => fun
  | [d1, d2, d3, d4] => { results := [.lit (.bool true)], args := [d1, d2, d3, d4] }
  | _ => none }
def fnExactDressedDayRow : OpenClaim := { program := "ytagjkagfnfonpab", sum := "b562a8177cc8726b55128b0fc61e6fee91c7aade1044a68bcb89171c98cb9fe0", func := "loop.example/g01344/laws.FnExactDressedDay", spec := "fnExactDressedDay", unfollowed := true, recurses := true, apart := false }
def FnExactDressedDaySaid : Prop := fnExactDressedDayRow.holds Try.pinned (OpenSpec.ofChange fnExactDressedDaySpec)

/-- ITS FALSE NEIGHBOUR: 'it returns false'. Refute it at one input. -/
def fnExactDressedDayWrong : ChangeSpec := { name := "fnExactDressedDay", fn := fun _ => fun
  | [d1, d2, d3, d4] => { results := [.lit (.bool false)], args := [d1, d2, d3, d4] }
  | _ => none }
def FnExactDressedDayWrongFalsely : Prop := fnExactDressedDayRow.holds Try.pinned (OpenSpec.ofChange fnExactDressedDayWrong)

/-- 'laws.FnExactShareTorque': WHATEVER THE INPUT: true; the input reads as it did. -/
def fnExactShareTorqueSpec : ChangeSpec := { name := "fnExactShareTorque", fn := fun _ => fun
  | [d1, d2, d3] => { results := [.lit (.bool true)], args := [d1, d2, d3] }
  | _ => none }
def fnExactShareTorqueRow : OpenClaim := { program := "ytagjkagfnfonpab", sum := "b562a8177cc8726b55128b0fc61e6fee91c7aade1044a68bcb89171c98cb9fe0", func := "loop.example/g01344/laws.FnExactShareTorque", spec := "fnExactShareTorque", unfollowed := true, recurses := true, apart := false }
def FnExactShareTorqueSaid : Prop := fnExactShareTorqueRow.holds Try.pinned (OpenSpec.ofChange fnExactShareTorqueSpec)

/-- ITS FALSE NEIGHBOUR: 'it returns false'. Refute it at one input. -/
def fnExactShareTorqueWrong : ChangeSpec := { name := "fnExactShareTorque", fn := fun _ => fun
  | [d1, d2, d3] => { results := [.lit (.bool false)], args := [d1, d2, d3] }
  | _ => none }
def FnExactShareTorqueWrongFalsely : Prop := fnExactShareTorqueRow.holds Try.pinned (OpenSpec.ofChange fnExactShareTorqueWrong)

/-- 'laws.FnExactBestFeed': WHATEVER THE INPUT: true; the input reads as it did. -/
def fnExactBestFeedSpec : ChangeSpec := { name := "fnExactBestFeed", fn := fun _ => fun
  | [d1, d2, d3] => { results := [.lit (.bool true)], args := [d1, d2, d3] }
  | _ => none }
def fnExactBestFeedRow : OpenClaim := { program := "ytagjkagfnfonpab", sum := "b562a8177cc8726b55128b0fc61e6fee91c7aade1044a68bcb89171c98cb9fe0", func := "loop.example/g01344/laws.FnExactBestFeed", spec := "fnExactBestFeed", unfollowed := true, recurses := true, apart := false }
def FnExactBestFeedSaid : Prop := fnExactBestFeedRow.holds Try.pinned (OpenSpec.ofChange fnExactBestFeedSpec)

/-- ITS FALSE NEIGHBOUR: 'it returns false'. Refute it at one input. -/
def fnExactBestFeedWrong : ChangeSpec := { name := "fnExactBestFeed", fn := fun _ => fun
  | [d1, d2, d3] => { results := [.lit (.bool false)], args := [d1, d2, d3] }
  | _ => none }
def FnExactBestFeedWrongFalsely : Prop := fnExactBestFeedRow.holds Try.pinned (OpenSpec.ofChange fnExactBestFeedWrong)

/- THE SECOND FORM. 'bulk': how many values and letters a reading holds, each counted each time it is reached (what is shared counts as often as it is met; a slice's spare places count too). A statement '..UptoSaid' is the law's where the arguments, and the package variables that the reading takes, are together of bulk at most 1048576: NARROWER than '..Said'. Prove '..Said' where nothing that the law and all that it calls make is longer than what came in: it says more and counts as full. Else prove '..UptoSaid'. A law counts once. -/
mutual
def uptoBulk {H : Type} : DataW H → Nat
  | .lit (.string bytes) => bytes.length + 1
  | .lit _ => 1
  | .nil => 1
  | .ptr d => uptoBulk d + 1
  | .slice elems spare => uptoBulkAll elems + uptoBulkAll spare + 1
  | .agg parts => uptoBulkAll parts + 1
  | .iface _ d => uptoBulk d + 1
  | .map entries => uptoBulkEntries entries + 1
  | .held _ => 1
def uptoBulkAll {H : Type} : List (DataW H) → Nat
  | [] => 0
  | d :: r => uptoBulk d + uptoBulkAll r
def uptoBulkEntries {H : Type} : List (Lit × DataW H) → Nat
  | [] => 0
  | x :: r => uptoBulkEntry x + uptoBulkEntries r
def uptoBulkEntry {H : Type} : Lit × DataW H → Nat
  | (.string bytes, d) => bytes.length + uptoBulk d + 1
  | (_, d) => uptoBulk d + 1
 end
def uptoSmall : (H : Type) → List (DataW H) → Bool := fun _ ds => decide (uptoBulkAll ds ≤ 1048576)
def OpenSpec.upto (s : _root_.Go.ChangeSpec) : _root_.Go.OpenSpec := { _root_.Go.OpenSpec.ofChange s with cond := some uptoSmall }

/-- 'laws.FnExactGrindDay', WHERE WHAT IT READS IS OF BULK AT MOST 1048576: true; the input reads as it did. -/
def fnExactGrindDayUptoRow : OpenClaim := { program := "ytagjkagfnfonpab", sum := "b562a8177cc8726b55128b0fc61e6fee91c7aade1044a68bcb89171c98cb9fe0", func := "loop.example/g01344/laws.FnExactGrindDay", spec := "fnExactGrindDay", unfollowed := true, recurses := true, apart := false, narrowed := true }
def FnExactGrindDayUptoSaid : Prop := fnExactGrindDayUptoRow.holds Try.pinned (OpenSpec.upto fnExactGrindDaySpec)

/-- 'laws.FnExactDressedDay', WHERE WHAT IT READS IS OF BULK AT MOST 1048576: true; the input reads as it did. -/
def fnExactDressedDayUptoRow : OpenClaim := { program := "ytagjkagfnfonpab", sum := "b562a8177cc8726b55128b0fc61e6fee91c7aade1044a68bcb89171c98cb9fe0", func := "loop.example/g01344/laws.FnExactDressedDay", spec := "fnExactDressedDay", unfollowed := true, recurses := true, apart := false, narrowed := true }
def FnExactDressedDayUptoSaid : Prop := fnExactDressedDayUptoRow.holds Try.pinned (OpenSpec.upto fnExactDressedDaySpec)

/-- 'laws.FnExactShareTorque', WHERE WHAT IT READS IS OF BULK AT MOST 1048576: true; the input reads as it did. -/
def fnExactShareTorqueUptoRow : OpenClaim := { program := "ytagjkagfnfonpab", sum := "b562a8177cc8726b55128b0fc61e6fee91c7aade1044a68bcb89171c98cb9fe0", func := "loop.example/g01344/laws.FnExactShareTorque", spec := "fnExactShareTorque", unfollowed := true, recurses := true, apart := false, narrowed := true }
def FnExactShareTorqueUptoSaid : Prop := fnExactShareTorqueUptoRow.holds Try.pinned (OpenSpec.upto fnExactShareTorqueSpec)

/-- 'laws.FnExactBestFeed', WHERE WHAT IT READS IS OF BULK AT MOST 1048576: true; the input reads as it did. -/
def fnExactBestFeedUptoRow : OpenClaim := { program := "ytagjkagfnfonpab", sum := "b562a8177cc8726b55128b0fc61e6fee91c7aade1044a68bcb89171c98cb9fe0", func := "loop.example/g01344/laws.FnExactBestFeed", spec := "fnExactBestFeed", unfollowed := true, recurses := true, apart := false, narrowed := true }
def FnExactBestFeedUptoSaid : Prop := fnExactBestFeedUptoRow.holds Try.pinned (OpenSpec.upto fnExactBestFeedSpec)

end Rows
end Go.Proofs.Ytagjkagfnfonpab
