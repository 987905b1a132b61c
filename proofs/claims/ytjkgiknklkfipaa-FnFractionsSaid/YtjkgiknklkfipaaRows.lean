/-
  No cell of these rows narrows 'for every input' (looked for: loops, veiled, ifaces, maps, wideKeys, modest, calm, conditions, laid).
  DERIVED. THE GIVEN ROWS OF THIS SEAT. 4 by the template 'for every input the law returns true; each argument reads behind the call as it read before'; 0 by the template 'total and deterministic' (their statements: YtjkgiknklkfipaaTotals.lean).
  GIVEN WITH THE SEED: the statements are not yours to turn. If you find one false, say at which input.
  Laid BY PROGRAM, IN A SANDBOX (cutbox-rows.mjs): the forced cells as the released guide's own fill.sh prints them over the translation 9515c0b8e7de5e1a… (all of the seat's roots in one cut). By AI agents, Wed Nov 11 2026. No macro, syntax, notation, axiom, sorry.
-/
import Derived.Test.YtjkgiknklkfipaaChecked
import GoSem.Claim
import GoSem.ClaimJoined
import GoSem.ClaimMapViews
import Derived.JoinedTies
import Derived.KernelRfl
namespace Go.Proofs.Ytjkgiknklkfipaa
/- THE CELL 'sum', in the pinned program and in every row, IS THE sha256 OF THE DUMP (.gsa) THAT YtjkgiknklkfipaaProg.lean LOADS. Nothing in Lean hashes anything: it is a label: what it is worth is what the hold of that sum in a sandbox is worth. -/
noncomputable def Try.pinned : Pinned := { name := "ytjkgiknklkfipaa", sum := "9515c0b8e7de5e1a4640b8d489782ac4bafd3dfd810c259eefa3e9d8284a8c98", checked := Try.checked }
namespace Rows
def none {H : Type} : Left H := { results := [], args := [] }

/-- 'laws.FnFractions': WHATEVER THE INPUT: true; the input reads as it did. -/
def fnFractionsSpec : ChangeSpec := { name := "fnFractions", fn := fun _ => fun
  | [d1, d2] => { results := [.lit (.bool true)], args := [d1, d2] }
  | _ => none }
def fnFractionsRow : OpenClaim := { program := "ytjkgiknklkfipaa", sum := "9515c0b8e7de5e1a4640b8d489782ac4bafd3dfd810c259eefa3e9d8284a8c98", func := "loop.example/g01344/laws.FnFractions", spec := "fnFractions", inPlace := ["math.Float64frombits", "math.Float32frombits", "math.archTrunc", "math.Float64bits", "math.Float32bits"], apart := false }
def FnFractionsSaid : Prop := fnFractionsRow.holds Try.pinned (OpenSpec.ofChange fnFractionsSpec)

/-- ITS FALSE NEIGHBOUR: 'it returns false'. Refute it at one input. -/
def fnFractionsWrong : ChangeSpec := { name := "fnFractions", fn := fun _ => fun
  | [d1, d2] => { results := [.lit (.bool false)], args := [d1, d2] }
  | _ => none }
def FnFractionsWrongFalsely : Prop := fnFractionsRow.holds Try.pinned (OpenSpec.ofChange fnFractionsWrong)

/-- 'laws.FnExactDressedDay': WHATEVER THE INPUT: true; the input reads as it did. -/
def fnExactDressedDaySpec : ChangeSpec := { name := "fnExactDressedDay", fn := fun _ => fun
  | [d1, d2, d3, d4] => { results := [.lit (.bool true)], args := [d1, d2, d3, d4] }
  | _ => none }
def fnExactDressedDayRow : OpenClaim := { program := "ytjkgiknklkfipaa", sum := "9515c0b8e7de5e1a4640b8d489782ac4bafd3dfd810c259eefa3e9d8284a8c98", func := "loop.example/g01344/laws.FnExactDressedDay", spec := "fnExactDressedDay", unfollowed := true, recurses := true, apart := false }
def FnExactDressedDaySaid : Prop := fnExactDressedDayRow.holds Try.pinned (OpenSpec.ofChange fnExactDressedDaySpec)

/-- ITS FALSE NEIGHBOUR: 'it returns false'. Refute it at one input. -/
def fnExactDressedDayWrong : ChangeSpec := { name := "fnExactDressedDay", fn := fun _ => fun
  | [d1, d2, d3, d4] => { results := [.lit (.bool false)], args := [d1, d2, d3, d4] }
  | _ => none }
def FnExactDressedDayWrongFalsely : Prop := fnExactDressedDayRow.holds Try.pinned (OpenSpec.ofChange fnExactDressedDayWrong)

/-- 'laws.FnExactBestFeed': WHATEVER THE INPUT: true; the input reads as it did. -/
def fnExactBestFeedSpec : ChangeSpec := { name := "fnExactBestFeed", fn := fun _ => fun
  | [d1, d2, d3] => { results := [.lit (.bool true)], args := [d1, d2, d3] }
  | _ => none }
def fnExactBestFeedRow : OpenClaim := { program := "ytjkgiknklkfipaa", sum := "9515c0b8e7de5e1a4640b8d489782ac4bafd3dfd810c259eefa3e9d8284a8c98", func := "loop.example/g01344/laws.FnExactBestFeed", spec := "fnExactBestFeed", unfollowed := true, recurses := true, apart := false }
def FnExactBestFeedSaid : Prop := fnExactBestFeedRow.holds Try.pinned (OpenSpec.ofChange fnExactBestFeedSpec)

/-- ITS FALSE NEIGHBOUR: 'it returns false'. Refute it at one input. -/
def fnExactBestFeedWrong : ChangeSpec := { name := "fnExactBestFeed", fn := fun _ => fun
  | [d1, d2, d3] => { results := [.lit (.bool false)], args := [d1, d2, d3] }
  | _ => none }
def FnExactBestFeedWrongFalsely : Prop := fnExactBestFeedRow.holds Try.pinned (OpenSpec.ofChange fnExactBestFeedWrong)

/-- 'laws.FnPlays': WHATEVER THE INPUT: true; the input reads as it did. -/
def fnPlaysSpec : ChangeSpec := { name := "fnPlays", fn := fun _ => fun
  | [d1, d2] => { results := [.lit (.bool true)], args := [d1, d2] }
  | _ => none }
def fnPlaysRow : OpenClaim := { program := "ytjkgiknklkfipaa", sum := "9515c0b8e7de5e1a4640b8d489782ac4bafd3dfd810c259eefa3e9d8284a8c98", func := "loop.example/g01344/laws.FnPlays", spec := "fnPlays", inPlace := ["math.Float32bits"], unfollowed := true, recurses := true, apart := false }
def FnPlaysSaid : Prop := fnPlaysRow.holds Try.pinned (OpenSpec.ofChange fnPlaysSpec)

/-- ITS FALSE NEIGHBOUR: 'it returns false'. Refute it at one input. -/
def fnPlaysWrong : ChangeSpec := { name := "fnPlays", fn := fun _ => fun
  | [d1, d2] => { results := [.lit (.bool false)], args := [d1, d2] }
  | _ => none }
def FnPlaysWrongFalsely : Prop := fnPlaysRow.holds Try.pinned (OpenSpec.ofChange fnPlaysWrong)

/- THE SECOND FORM. 'bulk': how many values and letters a reading holds, each counted each time it is reached (what is shared counts as often as it is met; a slice's spare places count too). A statement '..UptoSaid' is the law's where the arguments, and the package variables that the reading takes, are together of bulk at most 1048576: NARROWER than '..Said'. Prove '..Said' where nothing that the law and all that it calls make is longer than what came in: it says more and counts as full. Else prove '..UptoSaid'. A law counts once. -/
mutual
def uptoBulk {H : Type} : DataW H → Nat
  | .lit (.string bytes) => bytes.length + 1
  | .lit _ => 1
  | .nil => 1
  | .ptr d => uptoBulk d + 1
  | .slice elems spare => uptoBulkAll elems + uptoBulkAll spare + 1
  | .agg parts => uptoBulkAll parts + 1
  | .iface _ d => uptoBulk d + 1
  | .map entries => uptoBulkEntries entries + 1
  | .held _ => 1
def uptoBulkAll {H : Type} : List (DataW H) → Nat
  | [] => 0
  | d :: r => uptoBulk d + uptoBulkAll r
def uptoBulkEntries {H : Type} : List (Lit × DataW H) → Nat
  | [] => 0
  | x :: r => uptoBulkEntry x + uptoBulkEntries r
def uptoBulkEntry {H : Type} : Lit × DataW H → Nat
  | (.string bytes, d) => bytes.length + uptoBulk d + 1
  | (_, d) => uptoBulk d + 1
 end
def uptoSmall : (H : Type) → List (DataW H) → Bool := fun _ ds => decide (uptoBulkAll ds ≤ 1048576)
def OpenSpec.upto (s : _root_.Go.ChangeSpec) : _root_.Go.OpenSpec := { _root_.Go.OpenSpec.ofChange s with cond := some uptoSmall }

/-- 'laws.FnFractions', WHERE WHAT IT READS IS OF BULK AT MOST 1048576: true; the input reads as it did. -/
def fnFractionsUptoRow : OpenClaim := { program := "ytjkgiknklkfipaa", sum := "9515c0b8e7de5e1a4640b8d489782ac4bafd3dfd810c259eefa3e9d8284a8c98", func := "loop.example/g01344/laws.FnFractions", spec := "fnFractions", inPlace := ["math.Float64frombits", "math.Float32frombits", "math.archTrunc", "math.Float64bits", "math.Float32bits"], apart := false, narrowed := true }
def FnFractionsUptoSaid : Prop := fnFractionsUptoRow.holds Try.pinned (OpenSpec.upto fnFractionsSpec)

/-- 'laws.FnExactDressedDay', WHERE WHAT IT READS IS OF BULK AT MOST 1048576: true; the input reads as it did. -/
def fnExactDressedDayUptoRow : OpenClaim := { program := "ytjkgiknklkfipaa", sum := "9515c0b8e7de5e1a4640b8d489782ac4bafd3dfd810c259eefa3e9d8284a8c98", func := "loop.example/g01344/laws.FnExactDressedDay", spec := "fnExactDressedDay", unfollowed := true, recurses := true, apart := false, narrowed := true }
def FnExactDressedDayUptoSaid : Prop := fnExactDressedDayUptoRow.holds Try.pinned (OpenSpec.upto fnExactDressedDaySpec)

/-- 'laws.FnExactBestFeed', WHERE WHAT IT READS IS OF BULK AT MOST 1048576: true; the input reads as it did. -/
def fnExactBestFeedUptoRow : OpenClaim := { program := "ytjkgiknklkfipaa", sum := "9515c0b8e7de5e1a4640b8d489782ac4bafd3dfd810c259eefa3e9d8284a8c98", func := "loop.example/g01344/laws.FnExactBestFeed", spec := "fnExactBestFeed", unfollowed := true, recurses := true, apart := false, narrowed := true }
def FnExactBestFeedUptoSaid : Prop := fnExactBestFeedUptoRow.holds Try.pinned (OpenSpec.upto fnExactBestFeedSpec)

/-- 'laws.FnPlays', WHERE WHAT IT READS IS OF BULK AT MOST 1048576: true; the input reads as it did. -/
def fnPlaysUptoRow : OpenClaim := { program := "ytjkgiknklkfipaa", sum := "9515c0b8e7de5e1a4640b8d489782ac4bafd3dfd810c259eefa3e9d8284a8c98", func := "loop.example/g01344/laws.FnPlays", spec := "fnPlays", inPlace := ["math.Float32bits"], unfollowed := true, recurses := true, apart := false, narrowed := true }
def FnPlaysUptoSaid : Prop := fnPlaysUptoRow.holds Try.pinned (OpenSpec.upto fnPlaysSpec)

end Rows
end Go.Proofs.Ytjkgiknklkfipaa
