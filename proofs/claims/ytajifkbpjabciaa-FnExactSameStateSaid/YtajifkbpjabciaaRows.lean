/-
  No cell of these rows narrows 'for every input' (looked for: loops, veiled, ifaces, maps, wideKeys, modest, calm, conditions, laid).
  DERIVED. THE GIVEN ROWS OF THIS SEAT. 5 by the template 'for every input the law returns true; each argument reads behind the call as it read before'; 0 by the template 'total and deterministic' (their statements: YtajifkbpjabciaaTotals.lean).
  GIVEN WITH THE SEED: the statements are not yours to turn. If you find one false, say at which input.
  Laid BY PROGRAM, IN A SANDBOX (cutbox-rows.mjs): the forced cells as the released guide's own fill.sh prints them over the translation 41f795a8072fa2ac… (all of the seat's roots in one cut). By AI agents, Wed Nov 11 2026. No macro, syntax, notation, axiom, sorry.
-/
import Derived.Test.YtajifkbpjabciaaChecked
import GoSem.Claim
import GoSem.ClaimJoined
import GoSem.ClaimMapViews
import Derived.JoinedTies
import Derived.KernelRfl
namespace Go.Proofs.Ytajifkbpjabciaa
/- THE CELL 'sum', in the pinned program and in every row, IS THE sha256 OF THE DUMP (.gsa) THAT YtajifkbpjabciaaProg.lean LOADS. Nothing in Lean hashes anything: it is a label: what it is worth is what the hold of that sum in a sandbox is worth. -/
noncomputable def Try.pinned : Pinned := { name := "ytajifkbpjabciaa", sum := "41f795a8072fa2ac6f2aff1059ad94f96a0e221e57a6882c5de1175e80659b4d", checked := Try.checked }
namespace Rows
def none {H : Type} : Left H := { results := [], args := [] }

/-- 'laws.FnExactIsLength': WHATEVER THE INPUT: true; the input reads as it did. -/
def fnExactIsLengthSpec : ChangeSpec := { name := "fnExactIsLength", fn := fun _ => fun
  | [d] => { results := [.lit (.bool true)], args := [d] }
  | _ => none }
def fnExactIsLengthRow : OpenClaim := { program := "ytajifkbpjabciaa", sum := "41f795a8072fa2ac6f2aff1059ad94f96a0e221e57a6882c5de1175e80659b4d", func := "loop.example/g01344/laws.FnExactIsLength", spec := "fnExactIsLength", apart := false }
def FnExactIsLengthSaid : Prop := fnExactIsLengthRow.holds Try.pinned (OpenSpec.ofChange fnExactIsLengthSpec)

/-- ITS FALSE NEIGHBOUR: 'it returns false'. Refute it at one input. -/
def fnExactIsLengthWrong : ChangeSpec := { name := "fnExactIsLength", fn := fun _ => fun
  | [d] => { results := [.lit (.bool false)], args := [d] }
  | _ => none }
def FnExactIsLengthWrongFalsely : Prop := fnExactIsLengthRow.holds Try.pinned (OpenSpec.ofChange fnExactIsLengthWrong)

/-- 'laws.FnExactValidMill': WHATEVER THE INPUT: true; the input reads as it did. -/
def fnExactValidMillSpec : ChangeSpec := { name := "fnExactValidMill", fn := fun _ => fun
  | [d] => { results := [.lit (.bool true)], args := [d] }
  | _ => none }
def fnExactValidMillRow : OpenClaim := { program := "ytajifkbpjabciaa", sum := "41f795a8072fa2ac6f2aff1059ad94f96a0e221e57a6882c5de1175e80659b4d", func := "loop.example/g01344/laws.FnExactValidMill", spec := "fnExactValidMill", apart := false }
def FnExactValidMillSaid : Prop := fnExactValidMillRow.holds Try.pinned (OpenSpec.ofChange fnExactValidMillSpec)

/-- ITS FALSE NEIGHBOUR: 'it returns false'. Refute it at one input. -/
def fnExactValidMillWrong : ChangeSpec := { name := "fnExactValidMill", fn := fun _ => fun
  | [d] => { results := [.lit (.bool false)], args := [d] }
  | _ => none }
def FnExactValidMillWrongFalsely : Prop := fnExactValidMillRow.holds Try.pinned (OpenSpec.ofChange fnExactValidMillWrong)

/-- 'laws.FnExactValidGovernor': WHATEVER THE INPUT: true; the input reads as it did. -/
def fnExactValidGovernorSpec : ChangeSpec := { name := "fnExactValidGovernor", fn := fun _ => fun
  | [d] => { results := [.lit (.bool true)], args := [d] }
  | _ => none }
def fnExactValidGovernorRow : OpenClaim := { program := "ytajifkbpjabciaa", sum := "41f795a8072fa2ac6f2aff1059ad94f96a0e221e57a6882c5de1175e80659b4d", func := "loop.example/g01344/laws.FnExactValidGovernor", spec := "fnExactValidGovernor", apart := false }
def FnExactValidGovernorSaid : Prop := fnExactValidGovernorRow.holds Try.pinned (OpenSpec.ofChange fnExactValidGovernorSpec)

/-- ITS FALSE NEIGHBOUR: 'it returns false'. Refute it at one input. -/
def fnExactValidGovernorWrong : ChangeSpec := { name := "fnExactValidGovernor", fn := fun _ => fun
  | [d] => { results := [.lit (.bool false)], args := [d] }
  | _ => none }
def FnExactValidGovernorWrongFalsely : Prop := fnExactValidGovernorRow.holds Try.pinned (OpenSpec.ofChange fnExactValidGovernorWrong)

/-- 'laws.FnExactValidState': WHATEVER THE INPUT: true; the input reads as it did. -/
def fnExactValidStateSpec : ChangeSpec := { name := "fnExactValidState", fn := fun _ => fun
  | [d] => { results := [.lit (.bool true)], args := [d] }
  | _ => none }
def fnExactValidStateRow : OpenClaim := { program := "ytajifkbpjabciaa", sum := "41f795a8072fa2ac6f2aff1059ad94f96a0e221e57a6882c5de1175e80659b4d", func := "loop.example/g01344/laws.FnExactValidState", spec := "fnExactValidState", apart := false }
def FnExactValidStateSaid : Prop := fnExactValidStateRow.holds Try.pinned (OpenSpec.ofChange fnExactValidStateSpec)

/-- ITS FALSE NEIGHBOUR: 'it returns false'. Refute it at one input. -/
def fnExactValidStateWrong : ChangeSpec := { name := "fnExactValidState", fn := fun _ => fun
  | [d] => { results := [.lit (.bool false)], args := [d] }
  | _ => none }
def FnExactValidStateWrongFalsely : Prop := fnExactValidStateRow.holds Try.pinned (OpenSpec.ofChange fnExactValidStateWrong)

/-- 'laws.FnExactSameState': WHATEVER THE INPUT: true; the input reads as it did. -/
def fnExactSameStateSpec : ChangeSpec := { name := "fnExactSameState", fn := fun _ => fun
  | [d1, d2] => { results := [.lit (.bool true)], args := [d1, d2] }
  | _ => none }
def fnExactSameStateRow : OpenClaim := { program := "ytajifkbpjabciaa", sum := "41f795a8072fa2ac6f2aff1059ad94f96a0e221e57a6882c5de1175e80659b4d", func := "loop.example/g01344/laws.FnExactSameState", spec := "fnExactSameState", inPlace := ["math.Float32bits"], apart := false }
def FnExactSameStateSaid : Prop := fnExactSameStateRow.holds Try.pinned (OpenSpec.ofChange fnExactSameStateSpec)

/-- ITS FALSE NEIGHBOUR: 'it returns false'. Refute it at one input. -/
def fnExactSameStateWrong : ChangeSpec := { name := "fnExactSameState", fn := fun _ => fun
  | [d1, d2] => { results := [.lit (.bool false)], args := [d1, d2] }
  | _ => none }
def FnExactSameStateWrongFalsely : Prop := fnExactSameStateRow.holds Try.pinned (OpenSpec.ofChange fnExactSameStateWrong)

/- THE SECOND FORM. 'bulk': how many values and letters a reading holds, each counted each time it is reached (what is shared counts as often as it is met; a slice's spare places count too). A statement '..UptoSaid' is the law's where the arguments, and the package variables that the reading takes, are together of bulk at most 1048576: NARROWER than '..Said'. Prove '..Said' where nothing that the law and all that it calls make is longer than what came in: it says more and counts as full. Else prove '..UptoSaid'. A law counts once. -/
mutual
def uptoBulk {H : Type} : DataW H → Nat
  | .lit (.string bytes) => bytes.length + 1
  | .lit _ => 1
  | .nil => 1
  | .ptr d => uptoBulk d + 1
  | .slice elems spare => uptoBulkAll elems + uptoBulkAll spare + 1
  | .agg parts => uptoBulkAll parts + 1
  | .iface _ d => uptoBulk d + 1
  | .map entries => uptoBulkEntries entries + 1
  | .held _ => 1
def uptoBulkAll {H : Type} : List (DataW H) → Nat
  | [] => 0
  | d :: r => uptoBulk d + uptoBulkAll r
def uptoBulkEntries {H : Type} : List (Lit × DataW H) → Nat
  | [] => 0
  | x :: r => uptoBulkEntry x + uptoBulkEntries r
def uptoBulkEntry {H : Type} : Lit × DataW H → Nat
  | (.string bytes, d) => bytes.length + uptoBulk d + 1
  | (_, d) => uptoBulk d + 1
 end
def uptoSmall : (H : Type) → List (DataW H) → Bool := fun _ ds => decide (uptoBulkAll ds ≤ 1048576)
def OpenSpec.upto (s : _root_.Go.ChangeSpec) : _root_.Go.OpenSpec := { _root_.Go.OpenSpec.ofChange s with cond := some uptoSmall }

/-- 'laws.FnExactIsLength', WHERE WHAT IT READS IS OF BULK AT MOST 1048576: true; the input reads as it did. -/
def fnExactIsLengthUptoRow : OpenClaim := { program := "ytajifkbpjabciaa", sum := "41f795a8072fa2ac6f2aff1059ad94f96a0e221e57a6882c5de1175e80659b4d", func := "loop.example/g01344/laws.FnExactIsLength", spec := "fnExactIsLength", apart := false, narrowed := true }
def FnExactIsLengthUptoSaid : Prop := fnExactIsLengthUptoRow.holds Try.pinned (OpenSpec.upto fnExactIsLengthSpec)

/-- 'laws.FnExactValidMill', WHERE WHAT IT READS IS OF BULK AT MOST 1048576: true; the input reads as it did. -/
def fnExactValidMillUptoRow : OpenClaim := { program := "ytajifkbpjabciaa", sum := "41f795a8072fa2ac6f2aff1059ad94f96a0e221e57a6882c5de1175e80659b4d", func := "loop.example/g01344/laws.FnExactValidMill", spec := "fnExactValidMill", apart := false, narrowed := true }
def FnExactValidMillUptoSaid : Prop := fnExactValidMillUptoRow.holds Try.pinned (OpenSpec.upto fnExactValidMillSpec)

/-- 'laws.FnExactValidGovernor', WHERE WHAT IT READS IS OF BULK AT MOST 1048576: true; the input reads as it did. -/
def fnExactValidGovernorUptoRow : OpenClaim := { program := "ytajifkbpjabciaa", sum := "41f795a8072fa2ac6f2aff1059ad94f96a0e221e57a6882c5de1175e80659b4d", func := "loop.example/g01344/laws.FnExactValidGovernor", spec := "fnExactValidGovernor", apart := false, narrowed := true }
def FnExactValidGovernorUptoSaid : Prop := fnExactValidGovernorUptoRow.holds Try.pinned (OpenSpec.upto fnExactValidGovernorSpec)

/-- 'laws.FnExactValidState', WHERE WHAT IT READS IS OF BULK AT MOST 1048576: true; the input reads as it did. -/
def fnExactValidStateUptoRow : OpenClaim := { program := "ytajifkbpjabciaa", sum := "41f795a8072fa2ac6f2aff1059ad94f96a0e221e57a6882c5de1175e80659b4d", func := "loop.example/g01344/laws.FnExactValidState", spec := "fnExactValidState", apart := false, narrowed := true }
def FnExactValidStateUptoSaid : Prop := fnExactValidStateUptoRow.holds Try.pinned (OpenSpec.upto fnExactValidStateSpec)

/-- 'laws.FnExactSameState', WHERE WHAT IT READS IS OF BULK AT MOST 1048576: true; the input reads as it did. -/
def fnExactSameStateUptoRow : OpenClaim := { program := "ytajifkbpjabciaa", sum := "41f795a8072fa2ac6f2aff1059ad94f96a0e221e57a6882c5de1175e80659b4d", func := "loop.example/g01344/laws.FnExactSameState", spec := "fnExactSameState", inPlace := ["math.Float32bits"], apart := false, narrowed := true }
def FnExactSameStateUptoSaid : Prop := fnExactSameStateUptoRow.holds Try.pinned (OpenSpec.upto fnExactSameStateSpec)

end Rows
end Go.Proofs.Ytajifkbpjabciaa
