/-
  No cell of these rows narrows 'for every input' (looked for: loops, veiled, ifaces, maps, wideKeys, modest, calm, conditions, laid).
  DERIVED. THE GIVEN ROWS OF THIS SEAT. 11 by the template 'for every input the law returns true; each argument reads behind the call as it read before'; 0 by the template 'total and deterministic' (their statements: YtdakmlnhnajmmaaTotals.lean).
  GIVEN WITH THE SEED: the statements are not yours to turn. If you find one false, say at which input.
  Laid BY PROGRAM, IN A SANDBOX (cutbox-rows.mjs): the forced cells as the released guide's own fill.sh prints them over the translation 0e65f5c4fa9b8f37… (all of the seat's roots in one cut). By AI agents, Wed Nov 11 2026. No macro, syntax, notation, axiom, sorry.
-/
import Derived.Test.YtdakmlnhnajmmaaChecked
import GoSem.Claim
import GoSem.ClaimJoined
import GoSem.ClaimMapViews
import Derived.JoinedTies
import Derived.KernelRfl
namespace Go.Proofs.Ytdakmlnhnajmmaa
/- THE CELL 'sum', in the pinned program and in every row, IS THE sha256 OF THE DUMP (.gsa) THAT YtdakmlnhnajmmaaProg.lean LOADS. Nothing in Lean hashes anything: it is a label: what it is worth is what the hold of that sum in a sandbox is worth. -/
noncomputable def Try.pinned : Pinned := { name := "ytdakmlnhnajmmaa", sum := "0e65f5c4fa9b8f371e457a1fb3394aa0a171dc700e17d4b8c54298c5f293e72a", checked := Try.checked }
namespace Rows
def none {H : Type} : Left H := { results := [], args := [] }

/-- 'laws.FnTurnsOn': WHATEVER THE INPUT: true; the input reads as it did. -/
def fnTurnsOnSpec : ChangeSpec := { name := "fnTurnsOn", fn := fun _ => fun
  | [d1, d2] => { results := [.lit (.bool true)], args := [d1, d2] }
  | _ => none }
def fnTurnsOnRow : OpenClaim := { program := "ytdakmlnhnajmmaa", sum := "0e65f5c4fa9b8f371e457a1fb3394aa0a171dc700e17d4b8c54298c5f293e72a", func := "loop.example/g01344/laws.FnTurnsOn", spec := "fnTurnsOn", inPlace := ["math.Float32bits"], unfollowed := true, recurses := true, apart := false }
def FnTurnsOnSaid : Prop := fnTurnsOnRow.holds Try.pinned (OpenSpec.ofChange fnTurnsOnSpec)

/-- ITS FALSE NEIGHBOUR: 'it returns false'. Refute it at one input. -/
def fnTurnsOnWrong : ChangeSpec := { name := "fnTurnsOn", fn := fun _ => fun
  | [d1, d2] => { results := [.lit (.bool false)], args := [d1, d2] }
  | _ => none }
def FnTurnsOnWrongFalsely : Prop := fnTurnsOnRow.holds Try.pinned (OpenSpec.ofChange fnTurnsOnWrong)

/-- 'laws.FnExactCodeName': WHATEVER THE INPUT: true; the input reads as it did. -/
def fnExactCodeNameSpec : ChangeSpec := { name := "fnExactCodeName", fn := fun _ => fun
  | [d] => { results := [.lit (.bool true)], args := [d] }
  | _ => none }
def fnExactCodeNameRow : OpenClaim := { program := "ytdakmlnhnajmmaa", sum := "0e65f5c4fa9b8f371e457a1fb3394aa0a171dc700e17d4b8c54298c5f293e72a", func := "loop.example/g01344/laws.FnExactCodeName", spec := "fnExactCodeName", apart := false }
def FnExactCodeNameSaid : Prop := fnExactCodeNameRow.holds Try.pinned (OpenSpec.ofChange fnExactCodeNameSpec)

/-- ITS FALSE NEIGHBOUR: 'it returns false'. Refute it at one input. -/
def fnExactCodeNameWrong : ChangeSpec := { name := "fnExactCodeName", fn := fun _ => fun
  | [d] => { results := [.lit (.bool false)], args := [d] }
  | _ => none }
def FnExactCodeNameWrongFalsely : Prop := fnExactCodeNameRow.holds Try.pinned (OpenSpec.ofChange fnExactCodeNameWrong)

/-- 'laws.FnExactSameNumber': WHATEVER THE INPUT: true; the input reads as it did. -/
def fnExactSameNumberSpec : ChangeSpec := { name := "fnExactSameNumber", fn := fun _ => fun
  | [d1, d2] => { results := [.lit (.bool true)], args := [d1, d2] }
  | _ => none }
def fnExactSameNumberRow : OpenClaim := { program := "ytdakmlnhnajmmaa", sum := "0e65f5c4fa9b8f371e457a1fb3394aa0a171dc700e17d4b8c54298c5f293e72a", func := "loop.example/g01344/laws.FnExactSameNumber", spec := "fnExactSameNumber", inPlace := ["math.Float32bits"], apart := false }
def FnExactSameNumberSaid : Prop := fnExactSameNumberRow.holds Try.pinned (OpenSpec.ofChange fnExactSameNumberSpec)

/-- ITS FALSE NEIGHBOUR: 'it returns false'. Refute it at one input. -/
def fnExactSameNumberWrong : ChangeSpec := { name := "fnExactSameNumber", fn := fun _ => fun
  | [d1, d2] => { results := [.lit (.bool false)], args := [d1, d2] }
  | _ => none }
def FnExactSameNumberWrongFalsely : Prop := fnExactSameNumberRow.holds Try.pinned (OpenSpec.ofChange fnExactSameNumberWrong)

/-- 'laws.FnExactIsPlain': WHATEVER THE INPUT: true; the input reads as it did. -/
def fnExactIsPlainSpec : ChangeSpec := { name := "fnExactIsPlain", fn := fun _ => fun
  | [d] => { results := [.lit (.bool true)], args := [d] }
  | _ => none }
def fnExactIsPlainRow : OpenClaim := { program := "ytdakmlnhnajmmaa", sum := "0e65f5c4fa9b8f371e457a1fb3394aa0a171dc700e17d4b8c54298c5f293e72a", func := "loop.example/g01344/laws.FnExactIsPlain", spec := "fnExactIsPlain", apart := false }
def FnExactIsPlainSaid : Prop := fnExactIsPlainRow.holds Try.pinned (OpenSpec.ofChange fnExactIsPlainSpec)

/-- ITS FALSE NEIGHBOUR: 'it returns false'. Refute it at one input. -/
def fnExactIsPlainWrong : ChangeSpec := { name := "fnExactIsPlain", fn := fun _ => fun
  | [d] => { results := [.lit (.bool false)], args := [d] }
  | _ => none }
def FnExactIsPlainWrongFalsely : Prop := fnExactIsPlainRow.holds Try.pinned (OpenSpec.ofChange fnExactIsPlainWrong)

/-- 'laws.FnExactIsPart': WHATEVER THE INPUT: true; the input reads as it did. -/
def fnExactIsPartSpec : ChangeSpec := { name := "fnExactIsPart", fn := fun _ => fun
  | [d] => { results := [.lit (.bool true)], args := [d] }
  | _ => none }
def fnExactIsPartRow : OpenClaim := { program := "ytdakmlnhnajmmaa", sum := "0e65f5c4fa9b8f371e457a1fb3394aa0a171dc700e17d4b8c54298c5f293e72a", func := "loop.example/g01344/laws.FnExactIsPart", spec := "fnExactIsPart", apart := false }
def FnExactIsPartSaid : Prop := fnExactIsPartRow.holds Try.pinned (OpenSpec.ofChange fnExactIsPartSpec)

/-- ITS FALSE NEIGHBOUR: 'it returns false'. Refute it at one input. -/
def fnExactIsPartWrong : ChangeSpec := { name := "fnExactIsPart", fn := fun _ => fun
  | [d] => { results := [.lit (.bool false)], args := [d] }
  | _ => none }
def FnExactIsPartWrongFalsely : Prop := fnExactIsPartRow.holds Try.pinned (OpenSpec.ofChange fnExactIsPartWrong)

/-- 'laws.FnExactValidTrain': WHATEVER THE INPUT: true; the input reads as it did. -/
def fnExactValidTrainSpec : ChangeSpec := { name := "fnExactValidTrain", fn := fun _ => fun
  | [d] => { results := [.lit (.bool true)], args := [d] }
  | _ => none }
def fnExactValidTrainRow : OpenClaim := { program := "ytdakmlnhnajmmaa", sum := "0e65f5c4fa9b8f371e457a1fb3394aa0a171dc700e17d4b8c54298c5f293e72a", func := "loop.example/g01344/laws.FnExactValidTrain", spec := "fnExactValidTrain", unfollowed := true, recurses := true, apart := false }
def FnExactValidTrainSaid : Prop := fnExactValidTrainRow.holds Try.pinned (OpenSpec.ofChange fnExactValidTrainSpec)

/-- ITS FALSE NEIGHBOUR: 'it returns false'. Refute it at one input. -/
def fnExactValidTrainWrong : ChangeSpec := { name := "fnExactValidTrain", fn := fun _ => fun
  | [d] => { results := [.lit (.bool false)], args := [d] }
  | _ => none }
def FnExactValidTrainWrongFalsely : Prop := fnExactValidTrainRow.holds Try.pinned (OpenSpec.ofChange fnExactValidTrainWrong)

/-- 'laws.FnExactSameTrain': WHATEVER THE INPUT: true; the input reads as it did. -/
def fnExactSameTrainSpec : ChangeSpec := { name := "fnExactSameTrain", fn := fun _ => fun
  | [d1, d2] => { results := [.lit (.bool true)], args := [d1, d2] }
  | _ => none }
def fnExactSameTrainRow : OpenClaim := { program := "ytdakmlnhnajmmaa", sum := "0e65f5c4fa9b8f371e457a1fb3394aa0a171dc700e17d4b8c54298c5f293e72a", func := "loop.example/g01344/laws.FnExactSameTrain", spec := "fnExactSameTrain", inPlace := ["math.Float32bits"], unfollowed := true, recurses := true, apart := false }
def FnExactSameTrainSaid : Prop := fnExactSameTrainRow.holds Try.pinned (OpenSpec.ofChange fnExactSameTrainSpec)

/-- ITS FALSE NEIGHBOUR: 'it returns false'. Refute it at one input. -/
def fnExactSameTrainWrong : ChangeSpec := { name := "fnExactSameTrain", fn := fun _ => fun
  | [d1, d2] => { results := [.lit (.bool false)], args := [d1, d2] }
  | _ => none }
def FnExactSameTrainWrongFalsely : Prop := fnExactSameTrainRow.holds Try.pinned (OpenSpec.ofChange fnExactSameTrainWrong)

/-- 'laws.FnExactRatioOf': WHATEVER THE INPUT: true; the input reads as it did. -/
def fnExactRatioOfSpec : ChangeSpec := { name := "fnExactRatioOf", fn := fun _ => fun
  | [d] => { results := [.lit (.bool true)], args := [d] }
  | _ => none }
def fnExactRatioOfRow : OpenClaim := { program := "ytdakmlnhnajmmaa", sum := "0e65f5c4fa9b8f371e457a1fb3394aa0a171dc700e17d4b8c54298c5f293e72a", func := "loop.example/g01344/laws.FnExactRatioOf", spec := "fnExactRatioOf", unfollowed := true, recurses := true, apart := false }
def FnExactRatioOfSaid : Prop := fnExactRatioOfRow.holds Try.pinned (OpenSpec.ofChange fnExactRatioOfSpec)

/-- ITS FALSE NEIGHBOUR: 'it returns false'. Refute it at one input. -/
def fnExactRatioOfWrong : ChangeSpec := { name := "fnExactRatioOf", fn := fun _ => fun
  | [d] => { results := [.lit (.bool false)], args := [d] }
  | _ => none }
def FnExactRatioOfWrongFalsely : Prop := fnExactRatioOfRow.holds Try.pinned (OpenSpec.ofChange fnExactRatioOfWrong)

/-- 'laws.FnExactFactorOf': WHATEVER THE INPUT: true; the input reads as it did. -/
def fnExactFactorOfSpec : ChangeSpec := { name := "fnExactFactorOf", fn := fun _ => fun
  | [d] => { results := [.lit (.bool true)], args := [d] }
  | _ => none }
def fnExactFactorOfRow : OpenClaim := { program := "ytdakmlnhnajmmaa", sum := "0e65f5c4fa9b8f371e457a1fb3394aa0a171dc700e17d4b8c54298c5f293e72a", func := "loop.example/g01344/laws.FnExactFactorOf", spec := "fnExactFactorOf", unfollowed := true, recurses := true, apart := false }
def FnExactFactorOfSaid : Prop := fnExactFactorOfRow.holds Try.pinned (OpenSpec.ofChange fnExactFactorOfSpec)

/-- ITS FALSE NEIGHBOUR: 'it returns false'. Refute it at one input. -/
def fnExactFactorOfWrong : ChangeSpec := { name := "fnExactFactorOf", fn := fun _ => fun
  | [d] => { results := [.lit (.bool false)], args := [d] }
  | _ => none }
def FnExactFactorOfWrongFalsely : Prop := fnExactFactorOfRow.holds Try.pinned (OpenSpec.ofChange fnExactFactorOfWrong)

/-- 'laws.FnExactIsReversed': WHATEVER THE INPUT: true; the input reads as it did. -/
def fnExactIsReversedSpec : ChangeSpec := { name := "fnExactIsReversed", fn := fun _ => fun
  | [d] => { results := [.lit (.bool true)], args := [d] }
  | _ => none }
def fnExactIsReversedRow : OpenClaim := { program := "ytdakmlnhnajmmaa", sum := "0e65f5c4fa9b8f371e457a1fb3394aa0a171dc700e17d4b8c54298c5f293e72a", func := "loop.example/g01344/laws.FnExactIsReversed", spec := "fnExactIsReversed", unfollowed := true, recurses := true, apart := false }
def FnExactIsReversedSaid : Prop := fnExactIsReversedRow.holds Try.pinned (OpenSpec.ofChange fnExactIsReversedSpec)

/-- ITS FALSE NEIGHBOUR: 'it returns false'. Refute it at one input. -/
def fnExactIsReversedWrong : ChangeSpec := { name := "fnExactIsReversed", fn := fun _ => fun
  | [d] => { results := [.lit (.bool false)], args := [d] }
  | _ => none }
def FnExactIsReversedWrongFalsely : Prop := fnExactIsReversedRow.holds Try.pinned (OpenSpec.ofChange fnExactIsReversedWrong)

/-- 'laws.FnExactSpeedsOf': WHATEVER THE INPUT: true; the input reads as it did. -/
def fnExactSpeedsOfSpec : ChangeSpec := { name := "fnExactSpeedsOf", fn := fun _ => fun
  | [d1, d2] => { results := [.lit (.bool true)], args := [d1, d2] }
  | _ => none }
def fnExactSpeedsOfRow : OpenClaim := { program := "ytdakmlnhnajmmaa", sum := "0e65f5c4fa9b8f371e457a1fb3394aa0a171dc700e17d4b8c54298c5f293e72a", func := "loop.example/g01344/laws.FnExactSpeedsOf", spec := "fnExactSpeedsOf", unfollowed := true, recurses := true, apart := false }
def FnExactSpeedsOfSaid : Prop := fnExactSpeedsOfRow.holds Try.pinned (OpenSpec.ofChange fnExactSpeedsOfSpec)

/-- ITS FALSE NEIGHBOUR: 'it returns false'. Refute it at one input. -/
def fnExactSpeedsOfWrong : ChangeSpec := { name := "fnExactSpeedsOf", fn := fun _ => fun
  | [d1, d2] => { results := [.lit (.bool false)], args := [d1, d2] }
  | _ => none }
def FnExactSpeedsOfWrongFalsely : Prop := fnExactSpeedsOfRow.holds Try.pinned (OpenSpec.ofChange fnExactSpeedsOfWrong)

/- THE SECOND FORM. 'bulk': how many values and letters a reading holds, each counted each time it is reached (what is shared counts as often as it is met; a slice's spare places count too). A statement '..UptoSaid' is the law's where the arguments, and the package variables that the reading takes, are together of bulk at most 1048576: NARROWER than '..Said'. Prove '..Said' where nothing that the law and all that it calls make is longer than what came in: it says more and counts as full. Else prove '..UptoSaid'. A law counts once. -/
mutual
def uptoBulk {H : Type} : DataW H → Nat
  | .lit (.string bytes) => bytes.length + 1
  | .lit _ => 1
  | .nil => 1
  | .ptr d => uptoBulk d + 1
  | .slice elems spare => uptoBulkAll elems + uptoBulkAll spare + 1
  | .agg parts => uptoBulkAll parts + 1
  | .iface _ d => uptoBulk d + 1
  | .map entries => uptoBulkEntries entries + 1
  | .held _ => 1
def uptoBulkAll {H : Type} : List (DataW H) → Nat
  | [] => 0
  | d :: r => uptoBulk d + uptoBulkAll r
def uptoBulkEntries {H : Type} : List (Lit × DataW H) → Nat
  | [] => 0
  | x :: r => uptoBulkEntry x + uptoBulkEntries r
def uptoBulkEntry {H : Type} : Lit × DataW H → Nat
  | (.string bytes, d) => bytes.length + uptoBulk d + 1
  | (_, d) => uptoBulk d + 1
 end
def uptoSmall : (H : Type) → List (DataW H) → Bool := fun _ ds => decide (uptoBulkAll ds ≤ 1048576)
def OpenSpec.upto (s : _root_.Go.ChangeSpec) : _root_.Go.OpenSpec := { _root_.Go.OpenSpec.ofChange s with cond := some uptoSmall }

/-- 'laws.FnTurnsOn', WHERE WHAT IT READS IS OF BULK AT MOST 1048576: true; the input reads as it did. -/
def fnTurnsOnUptoRow : OpenClaim := { program := "ytdakmlnhnajmmaa", sum := "0e65f5c4fa9b8f371e457a1fb3394aa0a171dc700e17d4b8c54298c5f293e72a", func := "loop.example/g01344/laws.FnTurnsOn", spec := "fnTurnsOn", inPlace := ["math.Float32bits"], unfollowed := true, recurses := true, apart := false, narrowed := true }
def FnTurnsOnUptoSaid : Prop := fnTurnsOnUptoRow.holds Try.pinned (OpenSpec.upto fnTurnsOnSpec)

/-- 'laws.FnExactCodeName', WHERE WHAT IT READS IS OF BULK AT MOST 1048576: true; the input reads as it did. -/
def fnExactCodeNameUptoRow : OpenClaim := { program := "ytdakmlnhnajmmaa", sum := "0e65f5c4fa9b8f371e457a1fb3394aa0a171dc700e17d4b8c54298c5f293e72a", func := "loop.example/g01344/laws.FnExactCodeName", spec := "fnExactCodeName", apart := false, narrowed := true }
def FnExactCodeNameUptoSaid : Prop := fnExactCodeNameUptoRow.holds Try.pinned (OpenSpec.upto fnExactCodeNameSpec)

/-- 'laws.FnExactSameNumber', WHERE WHAT IT READS IS OF BULK AT MOST 1048576: true; the input reads as it did. -/
def fnExactSameNumberUptoRow : OpenClaim := { program := "ytdakmlnhnajmmaa", sum := "0e65f5c4fa9b8f371e457a1fb3394aa0a171dc700e17d4b8c54298c5f293e72a", func := "loop.example/g01344/laws.FnExactSameNumber", spec := "fnExactSameNumber", inPlace := ["math.Float32bits"], apart := false, narrowed := true }
def FnExactSameNumberUptoSaid : Prop := fnExactSameNumberUptoRow.holds Try.pinned (OpenSpec.upto fnExactSameNumberSpec)

/-- 'laws.FnExactIsPlain', WHERE WHAT IT READS IS OF BULK AT MOST 1048576: true; the input reads as it did. -/
def fnExactIsPlainUptoRow : OpenClaim := { program := "ytdakmlnhnajmmaa", sum := "0e65f5c4fa9b8f371e457a1fb3394aa0a171dc700e17d4b8c54298c5f293e72a", func := "loop.example/g01344/laws.FnExactIsPlain", spec := "fnExactIsPlain", apart := false, narrowed := true }
def FnExactIsPlainUptoSaid : Prop := fnExactIsPlainUptoRow.holds Try.pinned (OpenSpec.upto fnExactIsPlainSpec)

/-- 'laws.FnExactIsPart', WHERE WHAT IT READS IS OF BULK AT MOST 1048576: true; the input reads as it did. -/
def fnExactIsPartUptoRow : OpenClaim := { program := "ytdakmlnhnajmmaa", sum := "0e65f5c4fa9b8f371e457a1fb3394aa0a171dc700e17d4b8c54298c5f293e72a", func := "loop.example/g01344/laws.FnExactIsPart", spec := "fnExactIsPart", apart := false, narrowed := true }
def FnExactIsPartUptoSaid : Prop := fnExactIsPartUptoRow.holds Try.pinned (OpenSpec.upto fnExactIsPartSpec)

/-- 'laws.FnExactValidTrain', WHERE WHAT IT READS IS OF BULK AT MOST 1048576: true; the input reads as it did. -/
def fnExactValidTrainUptoRow : OpenClaim := { program := "ytdakmlnhnajmmaa", sum := "0e65f5c4fa9b8f371e457a1fb3394aa0a171dc700e17d4b8c54298c5f293e72a", func := "loop.example/g01344/laws.FnExactValidTrain", spec := "fnExactValidTrain", unfollowed := true, recurses := true, apart := false, narrowed := true }
def FnExactValidTrainUptoSaid : Prop := fnExactValidTrainUptoRow.holds Try.pinned (OpenSpec.upto fnExactValidTrainSpec)

/-- 'laws.FnExactSameTrain', WHERE WHAT IT READS IS OF BULK AT MOST 1048576: true; the input reads as it did. -/
def fnExactSameTrainUptoRow : OpenClaim := { program := "ytdakmlnhnajmmaa", sum := "0e65f5c4fa9b8f371e457a1fb3394aa0a171dc700e17d4b8c54298c5f293e72a", func := "loop.example/g01344/laws.FnExactSameTrain", spec := "fnExactSameTrain", inPlace := ["math.Float32bits"], unfollowed := true, recurses := true, apart := false, narrowed := true }
def FnExactSameTrainUptoSaid : Prop := fnExactSameTrainUptoRow.holds Try.pinned (OpenSpec.upto fnExactSameTrainSpec)

/-- 'laws.FnExactRatioOf', WHERE WHAT IT READS IS OF BULK AT MOST 1048576: true; the input reads as it did. -/
def fnExactRatioOfUptoRow : OpenClaim := { program := "ytdakmlnhnajmmaa", sum := "0e65f5c4fa9b8f371e457a1fb3394aa0a171dc700e17d4b8c54298c5f293e72a", func := "loop.example/g01344/laws.FnExactRatioOf", spec := "fnExactRatioOf", unfollowed := true, recurses := true, apart := false, narrowed := true }
def FnExactRatioOfUptoSaid : Prop := fnExactRatioOfUptoRow.holds Try.pinned (OpenSpec.upto fnExactRatioOfSpec)

/-- 'laws.FnExactFactorOf', WHERE WHAT IT READS IS OF BULK AT MOST 1048576: true; the input reads as it did. -/
def fnExactFactorOfUptoRow : OpenClaim := { program := "ytdakmlnhnajmmaa", sum := "0e65f5c4fa9b8f371e457a1fb3394aa0a171dc700e17d4b8c54298c5f293e72a", func := "loop.example/g01344/laws.FnExactFactorOf", spec := "fnExactFactorOf", unfollowed := true, recurses := true, apart := false, narrowed := true }
def FnExactFactorOfUptoSaid : Prop := fnExactFactorOfUptoRow.holds Try.pinned (OpenSpec.upto fnExactFactorOfSpec)

/-- 'laws.FnExactIsReversed', WHERE WHAT IT READS IS OF BULK AT MOST 1048576: true; the input reads as it did. -/
def fnExactIsReversedUptoRow : OpenClaim := { program := "ytdakmlnhnajmmaa", sum := "0e65f5c4fa9b8f371e457a1fb3394aa0a171dc700e17d4b8c54298c5f293e72a", func := "loop.example/g01344/laws.FnExactIsReversed", spec := "fnExactIsReversed", unfollowed := true, recurses := true, apart := false, narrowed := true }
def FnExactIsReversedUptoSaid : Prop := fnExactIsReversedUptoRow.holds Try.pinned (OpenSpec.upto fnExactIsReversedSpec)

/-- 'laws.FnExactSpeedsOf', WHERE WHAT IT READS IS OF BULK AT MOST 1048576: true; the input reads as it did. -/
def fnExactSpeedsOfUptoRow : OpenClaim := { program := "ytdakmlnhnajmmaa", sum := "0e65f5c4fa9b8f371e457a1fb3394aa0a171dc700e17d4b8c54298c5f293e72a", func := "loop.example/g01344/laws.FnExactSpeedsOf", spec := "fnExactSpeedsOf", unfollowed := true, recurses := true, apart := false, narrowed := true }
def FnExactSpeedsOfUptoSaid : Prop := fnExactSpeedsOfUptoRow.holds Try.pinned (OpenSpec.upto fnExactSpeedsOfSpec)

end Rows
end Go.Proofs.Ytdakmlnhnajmmaa
