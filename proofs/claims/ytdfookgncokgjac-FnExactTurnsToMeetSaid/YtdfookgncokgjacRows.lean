/-
  No cell of these rows narrows 'for every input' (looked for: loops, veiled, ifaces, maps, wideKeys, modest, calm, conditions, laid).
  DERIVED. THE GIVEN ROWS OF THIS SEAT. 8 by the template 'for every input the law returns true; each argument reads behind the call as it read before'; 0 by the template 'total and deterministic' (their statements: YtdfookgncokgjacTotals.lean).
  GIVEN WITH THE SEED: the statements are not yours to turn. If you find one false, say at which input.
  Laid BY PROGRAM, IN A SANDBOX (cutbox-rows.mjs): the forced cells as the released guide's own fill.sh prints them over the translation ec2b72ae2bbe5840… (all of the seat's roots in one cut). By AI agents, Wed Nov 11 2026. No macro, syntax, notation, axiom, sorry.
-/
import Derived.Test.YtdfookgncokgjacChecked
import GoSem.Claim
import GoSem.ClaimJoined
import GoSem.ClaimMapViews
import Derived.JoinedTies
import Derived.KernelRfl
namespace Go.Proofs.Ytdfookgncokgjac
/- THE CELL 'sum', in the pinned program and in every row, IS THE sha256 OF THE DUMP (.gsa) THAT YtdfookgncokgjacProg.lean LOADS. Nothing in Lean hashes anything: it is a label: what it is worth is what the hold of that sum in a sandbox is worth. -/
noncomputable def Try.pinned : Pinned := { name := "ytdfookgncokgjac", sum := "ec2b72ae2bbe5840137feefbbd5cf72e51dccb9273b64e7727d950619a8f8e8b", checked := Try.checked }
namespace Rows
def none {H : Type} : Left H := { results := [], args := [] }

/-- 'laws.FnExactTurnsToMeet': WHATEVER THE INPUT: true; the input reads as it did. -/
def fnExactTurnsToMeetSpec : ChangeSpec := { name := "fnExactTurnsToMeet", fn := fun _ => fun
  | [d1, d2] => { results := [.lit (.bool true)], args := [d1, d2] }
  | _ => none }
def fnExactTurnsToMeetRow : OpenClaim := { program := "ytdfookgncokgjac", sum := "ec2b72ae2bbe5840137feefbbd5cf72e51dccb9273b64e7727d950619a8f8e8b", func := "loop.example/g01344/laws.FnExactTurnsToMeet", spec := "fnExactTurnsToMeet", unfollowed := true, recurses := true, apart := false }
def FnExactTurnsToMeetSaid : Prop := fnExactTurnsToMeetRow.holds Try.pinned (OpenSpec.ofChange fnExactTurnsToMeetSpec)

/-- ITS FALSE NEIGHBOUR: 'it returns false'. Refute it at one input. -/
def fnExactTurnsToMeetWrong : ChangeSpec := { name := "fnExactTurnsToMeet", fn := fun _ => fun
  | [d1, d2] => { results := [.lit (.bool false)], args := [d1, d2] }
  | _ => none }
def FnExactTurnsToMeetWrongFalsely : Prop := fnExactTurnsToMeetRow.holds Try.pinned (OpenSpec.ofChange fnExactTurnsToMeetWrong)

/-- 'laws.FnExactValidBelt': WHATEVER THE INPUT: true; the input reads as it did. -/
def fnExactValidBeltSpec : ChangeSpec := { name := "fnExactValidBelt", fn := fun _ => fun
  | [d] => { results := [.lit (.bool true)], args := [d] }
  | _ => none }
def fnExactValidBeltRow : OpenClaim := { program := "ytdfookgncokgjac", sum := "ec2b72ae2bbe5840137feefbbd5cf72e51dccb9273b64e7727d950619a8f8e8b", func := "loop.example/g01344/laws.FnExactValidBelt", spec := "fnExactValidBelt", apart := false }
def FnExactValidBeltSaid : Prop := fnExactValidBeltRow.holds Try.pinned (OpenSpec.ofChange fnExactValidBeltSpec)

/-- ITS FALSE NEIGHBOUR: 'it returns false'. Refute it at one input. -/
def fnExactValidBeltWrong : ChangeSpec := { name := "fnExactValidBelt", fn := fun _ => fun
  | [d] => { results := [.lit (.bool false)], args := [d] }
  | _ => none }
def FnExactValidBeltWrongFalsely : Prop := fnExactValidBeltRow.holds Try.pinned (OpenSpec.ofChange fnExactValidBeltWrong)

/-- 'laws.FnExactSameBelt': WHATEVER THE INPUT: true; the input reads as it did. -/
def fnExactSameBeltSpec : ChangeSpec := { name := "fnExactSameBelt", fn := fun _ => fun
  | [d1, d2] => { results := [.lit (.bool true)], args := [d1, d2] }
  | _ => none }
def fnExactSameBeltRow : OpenClaim := { program := "ytdfookgncokgjac", sum := "ec2b72ae2bbe5840137feefbbd5cf72e51dccb9273b64e7727d950619a8f8e8b", func := "loop.example/g01344/laws.FnExactSameBelt", spec := "fnExactSameBelt", inPlace := ["math.Float32bits"], apart := false }
def FnExactSameBeltSaid : Prop := fnExactSameBeltRow.holds Try.pinned (OpenSpec.ofChange fnExactSameBeltSpec)

/-- ITS FALSE NEIGHBOUR: 'it returns false'. Refute it at one input. -/
def fnExactSameBeltWrong : ChangeSpec := { name := "fnExactSameBelt", fn := fun _ => fun
  | [d1, d2] => { results := [.lit (.bool false)], args := [d1, d2] }
  | _ => none }
def FnExactSameBeltWrongFalsely : Prop := fnExactSameBeltRow.holds Try.pinned (OpenSpec.ofChange fnExactSameBeltWrong)

/-- 'laws.FnExactLengthOf': WHATEVER THE INPUT: true; the input reads as it did. -/
def fnExactLengthOfSpec : ChangeSpec := { name := "fnExactLengthOf", fn := fun _ => fun
  | [d] => { results := [.lit (.bool true)], args := [d] }
  | _ => none }
def fnExactLengthOfRow : OpenClaim := { program := "ytdfookgncokgjac", sum := "ec2b72ae2bbe5840137feefbbd5cf72e51dccb9273b64e7727d950619a8f8e8b", func := "loop.example/g01344/laws.FnExactLengthOf", spec := "fnExactLengthOf", unfollowed := true, recurses := true, apart := false }
def FnExactLengthOfSaid : Prop := fnExactLengthOfRow.holds Try.pinned (OpenSpec.ofChange fnExactLengthOfSpec)

/-- ITS FALSE NEIGHBOUR: 'it returns false'. Refute it at one input. -/
def fnExactLengthOfWrong : ChangeSpec := { name := "fnExactLengthOf", fn := fun _ => fun
  | [d] => { results := [.lit (.bool false)], args := [d] }
  | _ => none }
def FnExactLengthOfWrongFalsely : Prop := fnExactLengthOfRow.holds Try.pinned (OpenSpec.ofChange fnExactLengthOfWrong)

/-- 'laws.FnExactWrapOf': WHATEVER THE INPUT: true; the input reads as it did. -/
def fnExactWrapOfSpec : ChangeSpec := { name := "fnExactWrapOf", fn := fun _ => fun
  | [d] => { results := [.lit (.bool true)], args := [d] }
  | _ => none }
def fnExactWrapOfRow : OpenClaim := { program := "ytdfookgncokgjac", sum := "ec2b72ae2bbe5840137feefbbd5cf72e51dccb9273b64e7727d950619a8f8e8b", func := "loop.example/g01344/laws.FnExactWrapOf", spec := "fnExactWrapOf", unfollowed := true, recurses := true, apart := false }
def FnExactWrapOfSaid : Prop := fnExactWrapOfRow.holds Try.pinned (OpenSpec.ofChange fnExactWrapOfSpec)

/-- ITS FALSE NEIGHBOUR: 'it returns false'. Refute it at one input. -/
def fnExactWrapOfWrong : ChangeSpec := { name := "fnExactWrapOf", fn := fun _ => fun
  | [d] => { results := [.lit (.bool false)], args := [d] }
  | _ => none }
def FnExactWrapOfWrongFalsely : Prop := fnExactWrapOfRow.holds Try.pinned (OpenSpec.ofChange fnExactWrapOfWrong)

/-- 'laws.FnExactGripOf': WHATEVER THE INPUT: true; the input reads as it did. -/
def fnExactGripOfSpec : ChangeSpec := { name := "fnExactGripOf", fn := fun _ => fun
  | [d] => { results := [.lit (.bool true)], args := [d] }
  | _ => none }
def fnExactGripOfRow : OpenClaim := { program := "ytdfookgncokgjac", sum := "ec2b72ae2bbe5840137feefbbd5cf72e51dccb9273b64e7727d950619a8f8e8b", func := "loop.example/g01344/laws.FnExactGripOf", spec := "fnExactGripOf", unfollowed := true, recurses := true, apart := false }
def FnExactGripOfSaid : Prop := fnExactGripOfRow.holds Try.pinned (OpenSpec.ofChange fnExactGripOfSpec)

/-- ITS FALSE NEIGHBOUR: 'it returns false'. Refute it at one input. -/
def fnExactGripOfWrong : ChangeSpec := { name := "fnExactGripOf", fn := fun _ => fun
  | [d] => { results := [.lit (.bool false)], args := [d] }
  | _ => none }
def FnExactGripOfWrongFalsely : Prop := fnExactGripOfRow.holds Try.pinned (OpenSpec.ofChange fnExactGripOfWrong)

/-- 'laws.FnExactPullOf': WHATEVER THE INPUT: true; the input reads as it did. -/
def fnExactPullOfSpec : ChangeSpec := { name := "fnExactPullOf", fn := fun _ => fun
  | [d1, d2] => { results := [.lit (.bool true)], args := [d1, d2] }
  | _ => none }
def fnExactPullOfRow : OpenClaim := { program := "ytdfookgncokgjac", sum := "ec2b72ae2bbe5840137feefbbd5cf72e51dccb9273b64e7727d950619a8f8e8b", func := "loop.example/g01344/laws.FnExactPullOf", spec := "fnExactPullOf", unfollowed := true, recurses := true, apart := false }
def FnExactPullOfSaid : Prop := fnExactPullOfRow.holds Try.pinned (OpenSpec.ofChange fnExactPullOfSpec)

/-- ITS FALSE NEIGHBOUR: 'it returns false'. Refute it at one input. -/
def fnExactPullOfWrong : ChangeSpec := { name := "fnExactPullOf", fn := fun _ => fun
  | [d1, d2] => { results := [.lit (.bool false)], args := [d1, d2] }
  | _ => none }
def FnExactPullOfWrongFalsely : Prop := fnExactPullOfRow.holds Try.pinned (OpenSpec.ofChange fnExactPullOfWrong)

/-- 'laws.FnExactTorqueOf': WHATEVER THE INPUT: true; the input reads as it did. -/
def fnExactTorqueOfSpec : ChangeSpec := { name := "fnExactTorqueOf", fn := fun _ => fun
  | [d1, d2] => { results := [.lit (.bool true)], args := [d1, d2] }
  | _ => none }
def fnExactTorqueOfRow : OpenClaim := { program := "ytdfookgncokgjac", sum := "ec2b72ae2bbe5840137feefbbd5cf72e51dccb9273b64e7727d950619a8f8e8b", func := "loop.example/g01344/laws.FnExactTorqueOf", spec := "fnExactTorqueOf", unfollowed := true, recurses := true, apart := false }
def FnExactTorqueOfSaid : Prop := fnExactTorqueOfRow.holds Try.pinned (OpenSpec.ofChange fnExactTorqueOfSpec)

/-- ITS FALSE NEIGHBOUR: 'it returns false'. Refute it at one input. -/
def fnExactTorqueOfWrong : ChangeSpec := { name := "fnExactTorqueOf", fn := fun _ => fun
  | [d1, d2] => { results := [.lit (.bool false)], args := [d1, d2] }
  | _ => none }
def FnExactTorqueOfWrongFalsely : Prop := fnExactTorqueOfRow.holds Try.pinned (OpenSpec.ofChange fnExactTorqueOfWrong)

/- THE SECOND FORM. 'bulk': how many values and letters a reading holds, each counted each time it is reached (what is shared counts as often as it is met; a slice's spare places count too). A statement '..UptoSaid' is the law's where the arguments, and the package variables that the reading takes, are together of bulk at most 1048576: NARROWER than '..Said'. Prove '..Said' where nothing that the law and all that it calls make is longer than what came in: it says more and counts as full. Else prove '..UptoSaid'. A law counts once. -/
mutual
def uptoBulk {H : Type} : DataW H → Nat
  | .lit (.string bytes) => bytes.length + 1
  | .lit _ => 1
  | .nil => 1
  | .ptr d => uptoBulk d + 1
  | .slice elems spare => uptoBulkAll elems + uptoBulkAll spare + 1
  | .agg parts => uptoBulkAll parts + 1
  | .iface _ d => uptoBulk d + 1
  | .map entries => uptoBulkEntries entries + 1
  | .held _ => 1
def uptoBulkAll {H : Type} : List (DataW H) → Nat
  | [] => 0
  | d :: r => uptoBulk d + uptoBulkAll r
def uptoBulkEntries {H : Type} : List (Lit × DataW H) → Nat
  | [] => 0
  | x :: r => uptoBulkEntry x + uptoBulkEntries r
def uptoBulkEntry {H : Type} : Lit × DataW H → Nat
  | (.string bytes, d) => bytes.length + uptoBulk d + 1
  | (_, d) => uptoBulk d + 1
 end
def uptoSmall : (H : Type) → List (DataW H) → Bool := fun _ ds => decide (uptoBulkAll ds ≤ 1048576)
def OpenSpec.upto (s : _root_.Go.ChangeSpec) : _root_.Go.OpenSpec := { _root_.Go.OpenSpec.ofChange s with cond := some uptoSmall }

/-- 'laws.FnExactTurnsToMeet', WHERE WHAT IT READS IS OF BULK AT MOST 1048576: true; the input reads as it did. -/
def fnExactTurnsToMeetUptoRow : OpenClaim := { program := "ytdfookgncokgjac", sum := "ec2b72ae2bbe5840137feefbbd5cf72e51dccb9273b64e7727d950619a8f8e8b", func := "loop.example/g01344/laws.FnExactTurnsToMeet", spec := "fnExactTurnsToMeet", unfollowed := true, recurses := true, apart := false, narrowed := true }
def FnExactTurnsToMeetUptoSaid : Prop := fnExactTurnsToMeetUptoRow.holds Try.pinned (OpenSpec.upto fnExactTurnsToMeetSpec)

/-- 'laws.FnExactValidBelt', WHERE WHAT IT READS IS OF BULK AT MOST 1048576: true; the input reads as it did. -/
def fnExactValidBeltUptoRow : OpenClaim := { program := "ytdfookgncokgjac", sum := "ec2b72ae2bbe5840137feefbbd5cf72e51dccb9273b64e7727d950619a8f8e8b", func := "loop.example/g01344/laws.FnExactValidBelt", spec := "fnExactValidBelt", apart := false, narrowed := true }
def FnExactValidBeltUptoSaid : Prop := fnExactValidBeltUptoRow.holds Try.pinned (OpenSpec.upto fnExactValidBeltSpec)

/-- 'laws.FnExactSameBelt', WHERE WHAT IT READS IS OF BULK AT MOST 1048576: true; the input reads as it did. -/
def fnExactSameBeltUptoRow : OpenClaim := { program := "ytdfookgncokgjac", sum := "ec2b72ae2bbe5840137feefbbd5cf72e51dccb9273b64e7727d950619a8f8e8b", func := "loop.example/g01344/laws.FnExactSameBelt", spec := "fnExactSameBelt", inPlace := ["math.Float32bits"], apart := false, narrowed := true }
def FnExactSameBeltUptoSaid : Prop := fnExactSameBeltUptoRow.holds Try.pinned (OpenSpec.upto fnExactSameBeltSpec)

/-- 'laws.FnExactLengthOf', WHERE WHAT IT READS IS OF BULK AT MOST 1048576: true; the input reads as it did. -/
def fnExactLengthOfUptoRow : OpenClaim := { program := "ytdfookgncokgjac", sum := "ec2b72ae2bbe5840137feefbbd5cf72e51dccb9273b64e7727d950619a8f8e8b", func := "loop.example/g01344/laws.FnExactLengthOf", spec := "fnExactLengthOf", unfollowed := true, recurses := true, apart := false, narrowed := true }
def FnExactLengthOfUptoSaid : Prop := fnExactLengthOfUptoRow.holds Try.pinned (OpenSpec.upto fnExactLengthOfSpec)

/-- 'laws.FnExactWrapOf', WHERE WHAT IT READS IS OF BULK AT MOST 1048576: true; the input reads as it did. -/
def fnExactWrapOfUptoRow : OpenClaim := { program := "ytdfookgncokgjac", sum := "ec2b72ae2bbe5840137feefbbd5cf72e51dccb9273b64e7727d950619a8f8e8b", func := "loop.example/g01344/laws.FnExactWrapOf", spec := "fnExactWrapOf", unfollowed := true, recurses := true, apart := false, narrowed := true }
def FnExactWrapOfUptoSaid : Prop := fnExactWrapOfUptoRow.holds Try.pinned (OpenSpec.upto fnExactWrapOfSpec)

/-- 'laws.FnExactGripOf', WHERE WHAT IT READS IS OF BULK AT MOST 1048576: true; the input reads as it did. -/
def fnExactGripOfUptoRow : OpenClaim := { program := "ytdfookgncokgjac", sum := "ec2b72ae2bbe5840137feefbbd5cf72e51dccb9273b64e7727d950619a8f8e8b", func := "loop.example/g01344/laws.FnExactGripOf", spec := "fnExactGripOf", unfollowed := true, recurses := true, apart := false, narrowed := true }
def FnExactGripOfUptoSaid : Prop := fnExactGripOfUptoRow.holds Try.pinned (OpenSpec.upto fnExactGripOfSpec)

/-- 'laws.FnExactPullOf', WHERE WHAT IT READS IS OF BULK AT MOST 1048576: true; the input reads as it did. -/
def fnExactPullOfUptoRow : OpenClaim := { program := "ytdfookgncokgjac", sum := "ec2b72ae2bbe5840137feefbbd5cf72e51dccb9273b64e7727d950619a8f8e8b", func := "loop.example/g01344/laws.FnExactPullOf", spec := "fnExactPullOf", unfollowed := true, recurses := true, apart := false, narrowed := true }
def FnExactPullOfUptoSaid : Prop := fnExactPullOfUptoRow.holds Try.pinned (OpenSpec.upto fnExactPullOfSpec)

/-- 'laws.FnExactTorqueOf', WHERE WHAT IT READS IS OF BULK AT MOST 1048576: true; the input reads as it did. -/
def fnExactTorqueOfUptoRow : OpenClaim := { program := "ytdfookgncokgjac", sum := "ec2b72ae2bbe5840137feefbbd5cf72e51dccb9273b64e7727d950619a8f8e8b", func := "loop.example/g01344/laws.FnExactTorqueOf", spec := "fnExactTorqueOf", unfollowed := true, recurses := true, apart := false, narrowed := true }
def FnExactTorqueOfUptoSaid : Prop := fnExactTorqueOfUptoRow.holds Try.pinned (OpenSpec.upto fnExactTorqueOfSpec)

end Rows
end Go.Proofs.Ytdfookgncokgjac
