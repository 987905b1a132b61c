/-
  NARROWER THAN 'FOR EVERY INPUT', by the rows' own cells (each row's printed sentence says how): FnExactTickOnce: ifaces, laid.
  DERIVED. THE GIVEN ROWS OF THIS SEAT. 1 by the template 'for every input the law returns true; each argument reads behind the call as it read before'; 0 by the template 'total and deterministic' (their statements: YtefeifkkinnoeaaDoorTotals.lean).
  GIVEN WITH THE SEED: the statements are not yours to turn. If you find one false, say at which input.
  Laid BY PROGRAM, IN A SANDBOX (cutbox-rows.mjs): the forced cells as the released guide's own fill.sh prints them over the translation b64f78cf7942cf17… (all of the seat's roots in one cut). By AI agents, Wed Nov 11 2026. No macro, syntax, notation, axiom, sorry.
-/
import Derived.Test.YtefeifkkinnoeaaDoorChecked
import GoSem.Claim
import GoSem.ClaimJoined
import GoSem.ClaimMapViews
import Derived.JoinedTies
import Derived.KernelRfl
namespace Go.Proofs.YtefeifkkinnoeaaDoor
/- THE CELL 'sum', in the pinned program and in every row, IS THE sha256 OF THE DUMP (.gsa) THAT YtefeifkkinnoeaaDoorProg.lean LOADS. Nothing in Lean hashes anything: it is a label: what it is worth is what the hold of that sum in a sandbox is worth. -/
noncomputable def Tryd.pinned : Pinned := { name := "ytefeifkkinnoeaadoor", sum := "b64f78cf7942cf1704aab9356f00e5d365a085d3a5494a82bd7302393a52cb0c", checked := Tryd.checked }
namespace Rows
def none {H : Type} : Left H := { results := [], args := [] }

/- WHAT THE LISTED PACKAGE-LEVEL VARIABLES READ AS WHEN THE CALL BEGINS. Each datum BY PROGRAM (the guide's laid-datum.mjs) off the statement by which the dump's own 'gosem.cut.vars' lays the variable. In a bare row this is a premise. The card (YtefeifkkinnoeaaDoorCards.lean) ties it to the program's text. -/
def laid_loop_example_g01344_impl_errInvalid {H : Type} : DataW H := .iface "*errors.errorString" (.ptr (.agg [.lit (.string [105, 110, 118, 97, 108, 105, 100])]))
def laid_loop_example_g01344_impl_errRange {H : Type} : DataW H := .iface "*errors.errorString" (.ptr (.agg [.lit (.string [114, 97, 110, 103, 101])]))
def laid_loop_example_g01344_impl_errLimit {H : Type} : DataW H := .iface "*errors.errorString" (.ptr (.agg [.lit (.string [108, 105, 109, 105, 116])]))
def laid_loop_example_g01344_impl_errSyntax {H : Type} : DataW H := .iface "*errors.errorString" (.ptr (.agg [.lit (.string [115, 121, 110, 116, 97, 120])]))
def laid_loop_example_g01344_impl_errNotFound {H : Type} : DataW H := .iface "*errors.errorString" (.ptr (.agg [.lit (.string [110, 111, 116, 102, 111, 117, 110, 100])]))

/-- 'laws.FnExactTickOnce': WHATEVER THE INPUT: true; the input reads as it did. -/
def fnExactTickOnceSpec : ChangeSpec := { name := "fnExactTickOnce", vars := ["loop.example/g01344/impl.errRange", "loop.example/g01344/impl.errLimit", "loop.example/g01344/impl.errInvalid", "loop.example/g01344/impl.errSyntax", "loop.example/g01344/impl.errNotFound"], fn := fun _ => fun
  | [d1, d2, d3, g1, g2, g3, g4, g5] => { results := [.lit (.bool true)], args := [d1, d2, d3], vars := [g1, g2, g3, g4, g5] }
  | _ => none }
def fnExactTickOnceRow : OpenClaim := { program := "ytefeifkkinnoeaadoor", sum := "b64f78cf7942cf1704aab9356f00e5d365a085d3a5494a82bd7302393a52cb0c", func := "loop.example/g01344/laws.FnExactTickOnce", spec := "fnExactTickOnce", inPlace := ["math.sqrt", "internal/reflectlite.TypeOf", "math.Float32bits"], unfollowed := true, recurses := true, named := ["loop.example/g01344/impl.errRange", "loop.example/g01344/impl.errLimit", "loop.example/g01344/impl.errInvalid", "loop.example/g01344/impl.errSyntax", "loop.example/g01344/impl.errNotFound"], ifaces := true, plainKeys := false, apart := false, laid := [("loop.example/g01344/impl.errInvalid", laid_loop_example_g01344_impl_errInvalid), ("loop.example/g01344/impl.errRange", laid_loop_example_g01344_impl_errRange), ("loop.example/g01344/impl.errLimit", laid_loop_example_g01344_impl_errLimit), ("loop.example/g01344/impl.errSyntax", laid_loop_example_g01344_impl_errSyntax), ("loop.example/g01344/impl.errNotFound", laid_loop_example_g01344_impl_errNotFound)] }
def FnExactTickOnceSaid : Prop := fnExactTickOnceRow.holds Tryd.pinned (OpenSpec.ofChange fnExactTickOnceSpec)

/-- ITS FALSE NEIGHBOUR: 'it returns false'. Refute it at one input. -/
def fnExactTickOnceWrong : ChangeSpec := { name := "fnExactTickOnce", vars := ["loop.example/g01344/impl.errRange", "loop.example/g01344/impl.errLimit", "loop.example/g01344/impl.errInvalid", "loop.example/g01344/impl.errSyntax", "loop.example/g01344/impl.errNotFound"], fn := fun _ => fun
  | [d1, d2, d3, g1, g2, g3, g4, g5] => { results := [.lit (.bool false)], args := [d1, d2, d3], vars := [g1, g2, g3, g4, g5] }
  | _ => none }
def FnExactTickOnceWrongFalsely : Prop := fnExactTickOnceRow.holds Tryd.pinned (OpenSpec.ofChange fnExactTickOnceWrong)

/- THE SECOND FORM. 'bulk': how many values and letters a reading holds, each counted each time it is reached (what is shared counts as often as it is met; a slice's spare places count too). A statement '..UptoSaid' is the law's where the arguments, and the package variables that the reading takes, are together of bulk at most 1048576: NARROWER than '..Said'. Prove '..Said' where nothing that the law and all that it calls make is longer than what came in: it says more and counts as full. Else prove '..UptoSaid'. A law counts once. -/
mutual
def uptoBulk {H : Type} : DataW H → Nat
  | .lit (.string bytes) => bytes.length + 1
  | .lit _ => 1
  | .nil => 1
  | .ptr d => uptoBulk d + 1
  | .slice elems spare => uptoBulkAll elems + uptoBulkAll spare + 1
  | .agg parts => uptoBulkAll parts + 1
  | .iface _ d => uptoBulk d + 1
  | .map entries => uptoBulkEntries entries + 1
  | .held _ => 1
def uptoBulkAll {H : Type} : List (DataW H) → Nat
  | [] => 0
  | d :: r => uptoBulk d + uptoBulkAll r
def uptoBulkEntries {H : Type} : List (Lit × DataW H) → Nat
  | [] => 0
  | x :: r => uptoBulkEntry x + uptoBulkEntries r
def uptoBulkEntry {H : Type} : Lit × DataW H → Nat
  | (.string bytes, d) => bytes.length + uptoBulk d + 1
  | (_, d) => uptoBulk d + 1
 end
def uptoSmall : (H : Type) → List (DataW H) → Bool := fun _ ds => decide (uptoBulkAll ds ≤ 1048576)
def OpenSpec.upto (s : _root_.Go.ChangeSpec) : _root_.Go.OpenSpec := { _root_.Go.OpenSpec.ofChange s with cond := some uptoSmall }

/-- 'laws.FnExactTickOnce', WHERE WHAT IT READS IS OF BULK AT MOST 1048576: true; the input reads as it did. -/
def fnExactTickOnceUptoRow : OpenClaim := { program := "ytefeifkkinnoeaadoor", sum := "b64f78cf7942cf1704aab9356f00e5d365a085d3a5494a82bd7302393a52cb0c", func := "loop.example/g01344/laws.FnExactTickOnce", spec := "fnExactTickOnce", inPlace := ["math.sqrt", "internal/reflectlite.TypeOf", "math.Float32bits"], unfollowed := true, recurses := true, named := ["loop.example/g01344/impl.errRange", "loop.example/g01344/impl.errLimit", "loop.example/g01344/impl.errInvalid", "loop.example/g01344/impl.errSyntax", "loop.example/g01344/impl.errNotFound"], ifaces := true, plainKeys := false, apart := false, laid := [("loop.example/g01344/impl.errInvalid", laid_loop_example_g01344_impl_errInvalid), ("loop.example/g01344/impl.errRange", laid_loop_example_g01344_impl_errRange), ("loop.example/g01344/impl.errLimit", laid_loop_example_g01344_impl_errLimit), ("loop.example/g01344/impl.errSyntax", laid_loop_example_g01344_impl_errSyntax), ("loop.example/g01344/impl.errNotFound", laid_loop_example_g01344_impl_errNotFound)], narrowed := true }
def FnExactTickOnceUptoSaid : Prop := fnExactTickOnceUptoRow.holds Tryd.pinned (OpenSpec.upto fnExactTickOnceSpec)

end Rows
end Go.Proofs.YtefeifkkinnoeaaDoor
