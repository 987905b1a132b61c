/-
  No cell of these rows narrows 'for every input' (looked for: loops, veiled, ifaces, maps, wideKeys, modest, calm, conditions, laid).
  DERIVED. THE GIVEN ROWS OF THIS SEAT. 12 by the template 'for every input the law returns true; each argument reads behind the call as it read before'; 0 by the template 'total and deterministic' (their statements: YtndmkfmfphgckaaTotals.lean).
  GIVEN WITH THE SEED: the statements are not yours to turn. If you find one false, say at which input.
  Laid BY PROGRAM, IN A SANDBOX (cutbox-rows.mjs): the forced cells as the released guide's own fill.sh prints them over the translation 9bf52845943a1903… (all of the seat's roots in one cut). By AI agents, Wed Nov 11 2026. No macro, syntax, notation, axiom, sorry.
-/
import Derived.Test.YtndmkfmfphgckaaChecked
import GoSem.Claim
import GoSem.ClaimJoined
import GoSem.ClaimMapViews
import Derived.JoinedTies
import Derived.KernelRfl
namespace Go.Proofs.Ytndmkfmfphgckaa
/- THE CELL 'sum', in the pinned program and in every row, IS THE sha256 OF THE DUMP (.gsa) THAT YtndmkfmfphgckaaProg.lean LOADS. Nothing in Lean hashes anything: it is a label: what it is worth is what the hold of that sum in a sandbox is worth. -/
noncomputable def Try.pinned : Pinned := { name := "ytndmkfmfphgckaa", sum := "9bf52845943a1903fb58843d26ac2aebda527a211d0da4ff0e88e8baca080286", checked := Try.checked }
namespace Rows
def none {H : Type} : Left H := { results := [], args := [] }

/-- 'laws.FnExactValidTooth': WHATEVER THE INPUT: true; the input reads as it did. -/
def fnExactValidToothSpec : ChangeSpec := { name := "fnExactValidTooth", fn := fun _ => fun
  | [d] => { results := [.lit (.bool true)], args := [d] }
  | _ => none }
def fnExactValidToothRow : OpenClaim := { program := "ytndmkfmfphgckaa", sum := "9bf52845943a1903fb58843d26ac2aebda527a211d0da4ff0e88e8baca080286", func := "loop.example/g01344/laws.FnExactValidTooth", spec := "fnExactValidTooth", unfollowed := true, recurses := true, apart := false }
def FnExactValidToothSaid : Prop := fnExactValidToothRow.holds Try.pinned (OpenSpec.ofChange fnExactValidToothSpec)

/-- ITS FALSE NEIGHBOUR: 'it returns false'. Refute it at one input. -/
def fnExactValidToothWrong : ChangeSpec := { name := "fnExactValidTooth", fn := fun _ => fun
  | [d] => { results := [.lit (.bool false)], args := [d] }
  | _ => none }
def FnExactValidToothWrongFalsely : Prop := fnExactValidToothRow.holds Try.pinned (OpenSpec.ofChange fnExactValidToothWrong)

/-- 'laws.FnExactSameTooth': WHATEVER THE INPUT: true; the input reads as it did. -/
def fnExactSameToothSpec : ChangeSpec := { name := "fnExactSameTooth", fn := fun _ => fun
  | [d1, d2] => { results := [.lit (.bool true)], args := [d1, d2] }
  | _ => none }
def fnExactSameToothRow : OpenClaim := { program := "ytndmkfmfphgckaa", sum := "9bf52845943a1903fb58843d26ac2aebda527a211d0da4ff0e88e8baca080286", func := "loop.example/g01344/laws.FnExactSameTooth", spec := "fnExactSameTooth", inPlace := ["math.Float32bits"], apart := false }
def FnExactSameToothSaid : Prop := fnExactSameToothRow.holds Try.pinned (OpenSpec.ofChange fnExactSameToothSpec)

/-- ITS FALSE NEIGHBOUR: 'it returns false'. Refute it at one input. -/
def fnExactSameToothWrong : ChangeSpec := { name := "fnExactSameTooth", fn := fun _ => fun
  | [d1, d2] => { results := [.lit (.bool false)], args := [d1, d2] }
  | _ => none }
def FnExactSameToothWrongFalsely : Prop := fnExactSameToothRow.holds Try.pinned (OpenSpec.ofChange fnExactSameToothWrong)

/-- 'laws.FnExactWearOf': WHATEVER THE INPUT: true; the input reads as it did. -/
def fnExactWearOfSpec : ChangeSpec := { name := "fnExactWearOf", fn := fun _ => fun
  | [d] => { results := [.lit (.bool true)], args := [d] }
  | _ => none }
def fnExactWearOfRow : OpenClaim := { program := "ytndmkfmfphgckaa", sum := "9bf52845943a1903fb58843d26ac2aebda527a211d0da4ff0e88e8baca080286", func := "loop.example/g01344/laws.FnExactWearOf", spec := "fnExactWearOf", unfollowed := true, recurses := true, apart := false }
def FnExactWearOfSaid : Prop := fnExactWearOfRow.holds Try.pinned (OpenSpec.ofChange fnExactWearOfSpec)

/-- ITS FALSE NEIGHBOUR: 'it returns false'. Refute it at one input. -/
def fnExactWearOfWrong : ChangeSpec := { name := "fnExactWearOf", fn := fun _ => fun
  | [d] => { results := [.lit (.bool false)], args := [d] }
  | _ => none }
def FnExactWearOfWrongFalsely : Prop := fnExactWearOfRow.holds Try.pinned (OpenSpec.ofChange fnExactWearOfWrong)

/-- 'laws.FnExactWornBy': WHATEVER THE INPUT: true; the input reads as it did. -/
def fnExactWornBySpec : ChangeSpec := { name := "fnExactWornBy", fn := fun _ => fun
  | [d1, d2] => { results := [.lit (.bool true)], args := [d1, d2] }
  | _ => none }
def fnExactWornByRow : OpenClaim := { program := "ytndmkfmfphgckaa", sum := "9bf52845943a1903fb58843d26ac2aebda527a211d0da4ff0e88e8baca080286", func := "loop.example/g01344/laws.FnExactWornBy", spec := "fnExactWornBy", unfollowed := true, recurses := true, apart := false }
def FnExactWornBySaid : Prop := fnExactWornByRow.holds Try.pinned (OpenSpec.ofChange fnExactWornBySpec)

/-- ITS FALSE NEIGHBOUR: 'it returns false'. Refute it at one input. -/
def fnExactWornByWrong : ChangeSpec := { name := "fnExactWornBy", fn := fun _ => fun
  | [d1, d2] => { results := [.lit (.bool false)], args := [d1, d2] }
  | _ => none }
def FnExactWornByWrongFalsely : Prop := fnExactWornByRow.holds Try.pinned (OpenSpec.ofChange fnExactWornByWrong)

/-- 'laws.FnExactWeeksUntil': WHATEVER THE INPUT: true; the input reads as it did. -/
def fnExactWeeksUntilSpec : ChangeSpec := { name := "fnExactWeeksUntil", fn := fun _ => fun
  | [d1, d2, d3] => { results := [.lit (.bool true)], args := [d1, d2, d3] }
  | _ => none }
def fnExactWeeksUntilRow : OpenClaim := { program := "ytndmkfmfphgckaa", sum := "9bf52845943a1903fb58843d26ac2aebda527a211d0da4ff0e88e8baca080286", func := "loop.example/g01344/laws.FnExactWeeksUntil", spec := "fnExactWeeksUntil", unfollowed := true, recurses := true, apart := false }
def FnExactWeeksUntilSaid : Prop := fnExactWeeksUntilRow.holds Try.pinned (OpenSpec.ofChange fnExactWeeksUntilSpec)

/-- ITS FALSE NEIGHBOUR: 'it returns false'. Refute it at one input. -/
def fnExactWeeksUntilWrong : ChangeSpec := { name := "fnExactWeeksUntil", fn := fun _ => fun
  | [d1, d2, d3] => { results := [.lit (.bool false)], args := [d1, d2, d3] }
  | _ => none }
def FnExactWeeksUntilWrongFalsely : Prop := fnExactWeeksUntilRow.holds Try.pinned (OpenSpec.ofChange fnExactWeeksUntilWrong)

/-- 'laws.FnExactTurnTooth': WHATEVER THE INPUT: true; the input reads as it did. -/
def fnExactTurnToothSpec : ChangeSpec := { name := "fnExactTurnTooth", fn := fun _ => fun
  | [d] => { results := [.lit (.bool true)], args := [d] }
  | _ => none }
def fnExactTurnToothRow : OpenClaim := { program := "ytndmkfmfphgckaa", sum := "9bf52845943a1903fb58843d26ac2aebda527a211d0da4ff0e88e8baca080286", func := "loop.example/g01344/laws.FnExactTurnTooth", spec := "fnExactTurnTooth", unfollowed := true, recurses := true, apart := false }
def FnExactTurnToothSaid : Prop := fnExactTurnToothRow.holds Try.pinned (OpenSpec.ofChange fnExactTurnToothSpec)

/-- ITS FALSE NEIGHBOUR: 'it returns false'. Refute it at one input. -/
def fnExactTurnToothWrong : ChangeSpec := { name := "fnExactTurnTooth", fn := fun _ => fun
  | [d] => { results := [.lit (.bool false)], args := [d] }
  | _ => none }
def FnExactTurnToothWrongFalsely : Prop := fnExactTurnToothRow.holds Try.pinned (OpenSpec.ofChange fnExactTurnToothWrong)

/-- 'laws.FnExactNewTooth': WHATEVER THE INPUT: true; the input reads as it did. -/
def fnExactNewToothSpec : ChangeSpec := { name := "fnExactNewTooth", fn := fun _ => fun
  | [d] => { results := [.lit (.bool true)], args := [d] }
  | _ => none }
def fnExactNewToothRow : OpenClaim := { program := "ytndmkfmfphgckaa", sum := "9bf52845943a1903fb58843d26ac2aebda527a211d0da4ff0e88e8baca080286", func := "loop.example/g01344/laws.FnExactNewTooth", spec := "fnExactNewTooth", unfollowed := true, recurses := true, apart := false }
def FnExactNewToothSaid : Prop := fnExactNewToothRow.holds Try.pinned (OpenSpec.ofChange fnExactNewToothSpec)

/-- ITS FALSE NEIGHBOUR: 'it returns false'. Refute it at one input. -/
def fnExactNewToothWrong : ChangeSpec := { name := "fnExactNewTooth", fn := fun _ => fun
  | [d] => { results := [.lit (.bool false)], args := [d] }
  | _ => none }
def FnExactNewToothWrongFalsely : Prop := fnExactNewToothRow.holds Try.pinned (OpenSpec.ofChange fnExactNewToothWrong)

/-- 'laws.FnExactPlayAt': WHATEVER THE INPUT: true; the input reads as it did. -/
def fnExactPlayAtSpec : ChangeSpec := { name := "fnExactPlayAt", fn := fun _ => fun
  | [d1, d2] => { results := [.lit (.bool true)], args := [d1, d2] }
  | _ => none }
def fnExactPlayAtRow : OpenClaim := { program := "ytndmkfmfphgckaa", sum := "9bf52845943a1903fb58843d26ac2aebda527a211d0da4ff0e88e8baca080286", func := "loop.example/g01344/laws.FnExactPlayAt", spec := "fnExactPlayAt", unfollowed := true, recurses := true, apart := false }
def FnExactPlayAtSaid : Prop := fnExactPlayAtRow.holds Try.pinned (OpenSpec.ofChange fnExactPlayAtSpec)

/-- ITS FALSE NEIGHBOUR: 'it returns false'. Refute it at one input. -/
def fnExactPlayAtWrong : ChangeSpec := { name := "fnExactPlayAt", fn := fun _ => fun
  | [d1, d2] => { results := [.lit (.bool false)], args := [d1, d2] }
  | _ => none }
def FnExactPlayAtWrongFalsely : Prop := fnExactPlayAtRow.holds Try.pinned (OpenSpec.ofChange fnExactPlayAtWrong)

/-- 'laws.FnExactPlaysAlong': WHATEVER THE INPUT: true; the input reads as it did. -/
def fnExactPlaysAlongSpec : ChangeSpec := { name := "fnExactPlaysAlong", fn := fun _ => fun
  | [d1, d2] => { results := [.lit (.bool true)], args := [d1, d2] }
  | _ => none }
def fnExactPlaysAlongRow : OpenClaim := { program := "ytndmkfmfphgckaa", sum := "9bf52845943a1903fb58843d26ac2aebda527a211d0da4ff0e88e8baca080286", func := "loop.example/g01344/laws.FnExactPlaysAlong", spec := "fnExactPlaysAlong", unfollowed := true, recurses := true, apart := false }
def FnExactPlaysAlongSaid : Prop := fnExactPlaysAlongRow.holds Try.pinned (OpenSpec.ofChange fnExactPlaysAlongSpec)

/-- ITS FALSE NEIGHBOUR: 'it returns false'. Refute it at one input. -/
def fnExactPlaysAlongWrong : ChangeSpec := { name := "fnExactPlaysAlong", fn := fun _ => fun
  | [d1, d2] => { results := [.lit (.bool false)], args := [d1, d2] }
  | _ => none }
def FnExactPlaysAlongWrongFalsely : Prop := fnExactPlaysAlongRow.holds Try.pinned (OpenSpec.ofChange fnExactPlaysAlongWrong)

/-- 'laws.FnExactPlayBounds': WHATEVER THE INPUT: true; the input reads as it did. -/
def fnExactPlayBoundsSpec : ChangeSpec := { name := "fnExactPlayBounds", fn := fun _ => fun
  | [d1, d2, d3] => { results := [.lit (.bool true)], args := [d1, d2, d3] }
  | _ => none }
def fnExactPlayBoundsRow : OpenClaim := { program := "ytndmkfmfphgckaa", sum := "9bf52845943a1903fb58843d26ac2aebda527a211d0da4ff0e88e8baca080286", func := "loop.example/g01344/laws.FnExactPlayBounds", spec := "fnExactPlayBounds", unfollowed := true, recurses := true, apart := false }
def FnExactPlayBoundsSaid : Prop := fnExactPlayBoundsRow.holds Try.pinned (OpenSpec.ofChange fnExactPlayBoundsSpec)

/-- ITS FALSE NEIGHBOUR: 'it returns false'. Refute it at one input. -/
def fnExactPlayBoundsWrong : ChangeSpec := { name := "fnExactPlayBounds", fn := fun _ => fun
  | [d1, d2, d3] => { results := [.lit (.bool false)], args := [d1, d2, d3] }
  | _ => none }
def FnExactPlayBoundsWrongFalsely : Prop := fnExactPlayBoundsRow.holds Try.pinned (OpenSpec.ofChange fnExactPlayBoundsWrong)

/-- 'laws.FnExactWidestPlay': WHATEVER THE INPUT: true; the input reads as it did. -/
def fnExactWidestPlaySpec : ChangeSpec := { name := "fnExactWidestPlay", fn := fun _ => fun
  | [d1, d2] => { results := [.lit (.bool true)], args := [d1, d2] }
  | _ => none }
def fnExactWidestPlayRow : OpenClaim := { program := "ytndmkfmfphgckaa", sum := "9bf52845943a1903fb58843d26ac2aebda527a211d0da4ff0e88e8baca080286", func := "loop.example/g01344/laws.FnExactWidestPlay", spec := "fnExactWidestPlay", unfollowed := true, recurses := true, apart := false }
def FnExactWidestPlaySaid : Prop := fnExactWidestPlayRow.holds Try.pinned (OpenSpec.ofChange fnExactWidestPlaySpec)

/-- ITS FALSE NEIGHBOUR: 'it returns false'. Refute it at one input. -/
def fnExactWidestPlayWrong : ChangeSpec := { name := "fnExactWidestPlay", fn := fun _ => fun
  | [d1, d2] => { results := [.lit (.bool false)], args := [d1, d2] }
  | _ => none }
def FnExactWidestPlayWrongFalsely : Prop := fnExactWidestPlayRow.holds Try.pinned (OpenSpec.ofChange fnExactWidestPlayWrong)

/-- 'laws.FnExactCountChanges': WHATEVER THE INPUT: true; the input reads as it did. -/
def fnExactCountChangesSpec : ChangeSpec := { name := "fnExactCountChanges", fn := fun _ => fun
  | [d] => { results := [.lit (.bool true)], args := [d] }
  | _ => none }
def fnExactCountChangesRow : OpenClaim := { program := "ytndmkfmfphgckaa", sum := "9bf52845943a1903fb58843d26ac2aebda527a211d0da4ff0e88e8baca080286", func := "loop.example/g01344/laws.FnExactCountChanges", spec := "fnExactCountChanges", apart := false }
def FnExactCountChangesSaid : Prop := fnExactCountChangesRow.holds Try.pinned (OpenSpec.ofChange fnExactCountChangesSpec)

/-- ITS FALSE NEIGHBOUR: 'it returns false'. Refute it at one input. -/
def fnExactCountChangesWrong : ChangeSpec := { name := "fnExactCountChanges", fn := fun _ => fun
  | [d] => { results := [.lit (.bool false)], args := [d] }
  | _ => none }
def FnExactCountChangesWrongFalsely : Prop := fnExactCountChangesRow.holds Try.pinned (OpenSpec.ofChange fnExactCountChangesWrong)

/- THE SECOND FORM. 'bulk': how many values and letters a reading holds, each counted each time it is reached (what is shared counts as often as it is met; a slice's spare places count too). A statement '..UptoSaid' is the law's where the arguments, and the package variables that the reading takes, are together of bulk at most 1048576: NARROWER than '..Said'. Prove '..Said' where nothing that the law and all that it calls make is longer than what came in: it says more and counts as full. Else prove '..UptoSaid'. A law counts once. -/
mutual
def uptoBulk {H : Type} : DataW H → Nat
  | .lit (.string bytes) => bytes.length + 1
  | .lit _ => 1
  | .nil => 1
  | .ptr d => uptoBulk d + 1
  | .slice elems spare => uptoBulkAll elems + uptoBulkAll spare + 1
  | .agg parts => uptoBulkAll parts + 1
  | .iface _ d => uptoBulk d + 1
  | .map entries => uptoBulkEntries entries + 1
  | .held _ => 1
def uptoBulkAll {H : Type} : List (DataW H) → Nat
  | [] => 0
  | d :: r => uptoBulk d + uptoBulkAll r
def uptoBulkEntries {H : Type} : List (Lit × DataW H) → Nat
  | [] => 0
  | x :: r => uptoBulkEntry x + uptoBulkEntries r
def uptoBulkEntry {H : Type} : Lit × DataW H → Nat
  | (.string bytes, d) => bytes.length + uptoBulk d + 1
  | (_, d) => uptoBulk d + 1
 end
def uptoSmall : (H : Type) → List (DataW H) → Bool := fun _ ds => decide (uptoBulkAll ds ≤ 1048576)
def OpenSpec.upto (s : _root_.Go.ChangeSpec) : _root_.Go.OpenSpec := { _root_.Go.OpenSpec.ofChange s with cond := some uptoSmall }

/-- 'laws.FnExactValidTooth', WHERE WHAT IT READS IS OF BULK AT MOST 1048576: true; the input reads as it did. -/
def fnExactValidToothUptoRow : OpenClaim := { program := "ytndmkfmfphgckaa", sum := "9bf52845943a1903fb58843d26ac2aebda527a211d0da4ff0e88e8baca080286", func := "loop.example/g01344/laws.FnExactValidTooth", spec := "fnExactValidTooth", unfollowed := true, recurses := true, apart := false, narrowed := true }
def FnExactValidToothUptoSaid : Prop := fnExactValidToothUptoRow.holds Try.pinned (OpenSpec.upto fnExactValidToothSpec)

/-- 'laws.FnExactSameTooth', WHERE WHAT IT READS IS OF BULK AT MOST 1048576: true; the input reads as it did. -/
def fnExactSameToothUptoRow : OpenClaim := { program := "ytndmkfmfphgckaa", sum := "9bf52845943a1903fb58843d26ac2aebda527a211d0da4ff0e88e8baca080286", func := "loop.example/g01344/laws.FnExactSameTooth", spec := "fnExactSameTooth", inPlace := ["math.Float32bits"], apart := false, narrowed := true }
def FnExactSameToothUptoSaid : Prop := fnExactSameToothUptoRow.holds Try.pinned (OpenSpec.upto fnExactSameToothSpec)

/-- 'laws.FnExactWearOf', WHERE WHAT IT READS IS OF BULK AT MOST 1048576: true; the input reads as it did. -/
def fnExactWearOfUptoRow : OpenClaim := { program := "ytndmkfmfphgckaa", sum := "9bf52845943a1903fb58843d26ac2aebda527a211d0da4ff0e88e8baca080286", func := "loop.example/g01344/laws.FnExactWearOf", spec := "fnExactWearOf", unfollowed := true, recurses := true, apart := false, narrowed := true }
def FnExactWearOfUptoSaid : Prop := fnExactWearOfUptoRow.holds Try.pinned (OpenSpec.upto fnExactWearOfSpec)

/-- 'laws.FnExactWornBy', WHERE WHAT IT READS IS OF BULK AT MOST 1048576: true; the input reads as it did. -/
def fnExactWornByUptoRow : OpenClaim := { program := "ytndmkfmfphgckaa", sum := "9bf52845943a1903fb58843d26ac2aebda527a211d0da4ff0e88e8baca080286", func := "loop.example/g01344/laws.FnExactWornBy", spec := "fnExactWornBy", unfollowed := true, recurses := true, apart := false, narrowed := true }
def FnExactWornByUptoSaid : Prop := fnExactWornByUptoRow.holds Try.pinned (OpenSpec.upto fnExactWornBySpec)

/-- 'laws.FnExactWeeksUntil', WHERE WHAT IT READS IS OF BULK AT MOST 1048576: true; the input reads as it did. -/
def fnExactWeeksUntilUptoRow : OpenClaim := { program := "ytndmkfmfphgckaa", sum := "9bf52845943a1903fb58843d26ac2aebda527a211d0da4ff0e88e8baca080286", func := "loop.example/g01344/laws.FnExactWeeksUntil", spec := "fnExactWeeksUntil", unfollowed := true, recurses := true, apart := false, narrowed := true }
def FnExactWeeksUntilUptoSaid : Prop := fnExactWeeksUntilUptoRow.holds Try.pinned (OpenSpec.upto fnExactWeeksUntilSpec)

/-- 'laws.FnExactTurnTooth', WHERE WHAT IT READS IS OF BULK AT MOST 1048576: true; the input reads as it did. -/
def fnExactTurnToothUptoRow : OpenClaim := { program := "ytndmkfmfphgckaa", sum := "9bf52845943a1903fb58843d26ac2aebda527a211d0da4ff0e88e8baca080286", func := "loop.example/g01344/laws.FnExactTurnTooth", spec := "fnExactTurnTooth", unfollowed := true, recurses := true, apart := false, narrowed := true }
def FnExactTurnToothUptoSaid : Prop := fnExactTurnToothUptoRow.holds Try.pinned (OpenSpec.upto fnExactTurnToothSpec)

/-- 'laws.FnExactNewTooth', WHERE WHAT IT READS IS OF BULK AT MOST 1048576: true; the input reads as it did. -/
def fnExactNewToothUptoRow : OpenClaim := { program := "ytndmkfmfphgckaa", sum := "9bf52845943a1903fb58843d26ac2aebda527a211d0da4ff0e88e8baca080286", func := "loop.example/g01344/laws.FnExactNewTooth", spec := "fnExactNewTooth", unfollowed := true, recurses := true, apart := false, narrowed := true }
def FnExactNewToothUptoSaid : Prop := fnExactNewToothUptoRow.holds Try.pinned (OpenSpec.upto fnExactNewToothSpec)

/-- 'laws.FnExactPlayAt', WHERE WHAT IT READS IS OF BULK AT MOST 1048576: true; the input reads as it did. -/
def fnExactPlayAtUptoRow : OpenClaim := { program := "ytndmkfmfphgckaa", sum := "9bf52845943a1903fb58843d26ac2aebda527a211d0da4ff0e88e8baca080286", func := "loop.example/g01344/laws.FnExactPlayAt", spec := "fnExactPlayAt", unfollowed := true, recurses := true, apart := false, narrowed := true }
def FnExactPlayAtUptoSaid : Prop := fnExactPlayAtUptoRow.holds Try.pinned (OpenSpec.upto fnExactPlayAtSpec)

/-- 'laws.FnExactPlaysAlong', WHERE WHAT IT READS IS OF BULK AT MOST 1048576: true; the input reads as it did. -/
def fnExactPlaysAlongUptoRow : OpenClaim := { program := "ytndmkfmfphgckaa", sum := "9bf52845943a1903fb58843d26ac2aebda527a211d0da4ff0e88e8baca080286", func := "loop.example/g01344/laws.FnExactPlaysAlong", spec := "fnExactPlaysAlong", unfollowed := true, recurses := true, apart := false, narrowed := true }
def FnExactPlaysAlongUptoSaid : Prop := fnExactPlaysAlongUptoRow.holds Try.pinned (OpenSpec.upto fnExactPlaysAlongSpec)

/-- 'laws.FnExactPlayBounds', WHERE WHAT IT READS IS OF BULK AT MOST 1048576: true; the input reads as it did. -/
def fnExactPlayBoundsUptoRow : OpenClaim := { program := "ytndmkfmfphgckaa", sum := "9bf52845943a1903fb58843d26ac2aebda527a211d0da4ff0e88e8baca080286", func := "loop.example/g01344/laws.FnExactPlayBounds", spec := "fnExactPlayBounds", unfollowed := true, recurses := true, apart := false, narrowed := true }
def FnExactPlayBoundsUptoSaid : Prop := fnExactPlayBoundsUptoRow.holds Try.pinned (OpenSpec.upto fnExactPlayBoundsSpec)

/-- 'laws.FnExactWidestPlay', WHERE WHAT IT READS IS OF BULK AT MOST 1048576: true; the input reads as it did. -/
def fnExactWidestPlayUptoRow : OpenClaim := { program := "ytndmkfmfphgckaa", sum := "9bf52845943a1903fb58843d26ac2aebda527a211d0da4ff0e88e8baca080286", func := "loop.example/g01344/laws.FnExactWidestPlay", spec := "fnExactWidestPlay", unfollowed := true, recurses := true, apart := false, narrowed := true }
def FnExactWidestPlayUptoSaid : Prop := fnExactWidestPlayUptoRow.holds Try.pinned (OpenSpec.upto fnExactWidestPlaySpec)

/-- 'laws.FnExactCountChanges', WHERE WHAT IT READS IS OF BULK AT MOST 1048576: true; the input reads as it did. -/
def fnExactCountChangesUptoRow : OpenClaim := { program := "ytndmkfmfphgckaa", sum := "9bf52845943a1903fb58843d26ac2aebda527a211d0da4ff0e88e8baca080286", func := "loop.example/g01344/laws.FnExactCountChanges", spec := "fnExactCountChanges", apart := false, narrowed := true }
def FnExactCountChangesUptoSaid : Prop := fnExactCountChangesUptoRow.holds Try.pinned (OpenSpec.upto fnExactCountChangesSpec)

end Rows
end Go.Proofs.Ytndmkfmfphgckaa
