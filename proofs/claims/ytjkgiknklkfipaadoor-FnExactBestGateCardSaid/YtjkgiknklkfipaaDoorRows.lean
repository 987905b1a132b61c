/-
  NARROWER THAN 'FOR EVERY INPUT', by the rows' own cells (each row's printed sentence says how): FnExactWeekOf: laid · FnExactYearOf: laid · FnExactQuietWeeks: laid · FnExactBestGate: ifaces, laid · FnExactLeastGate: ifaces, laid.
  DERIVED. THE GIVEN ROWS OF THIS SEAT. 5 by the template 'for every input the law returns true; each argument reads behind the call as it read before'; 0 by the template 'total and deterministic' (their statements: YtjkgiknklkfipaaDoorTotals.lean).
  GIVEN WITH THE SEED: the statements are not yours to turn. If you find one false, say at which input.
  Laid BY PROGRAM, IN A SANDBOX (cutbox-rows.mjs): the forced cells as the released guide's own fill.sh prints them over the translation d6a3c2604660d48f… (all of the seat's roots in one cut). By AI agents, Wed Nov 11 2026. No macro, syntax, notation, axiom, sorry.
-/
import Derived.Test.YtjkgiknklkfipaaDoorChecked
import GoSem.Claim
import GoSem.ClaimJoined
import GoSem.ClaimMapViews
import Derived.JoinedTies
import Derived.KernelRfl
namespace Go.Proofs.YtjkgiknklkfipaaDoor
/- THE CELL 'sum', in the pinned program and in every row, IS THE sha256 OF THE DUMP (.gsa) THAT YtjkgiknklkfipaaDoorProg.lean LOADS. Nothing in Lean hashes anything: it is a label: what it is worth is what the hold of that sum in a sandbox is worth. -/
noncomputable def Tryd.pinned : Pinned := { name := "ytjkgiknklkfipaadoor", sum := "d6a3c2604660d48fbbc12969155e6bd5c63ccff1134c1c35712d0913710b0f48", checked := Tryd.checked }
namespace Rows
def none {H : Type} : Left H := { results := [], args := [] }

/- WHAT THE LISTED PACKAGE-LEVEL VARIABLES READ AS WHEN THE CALL BEGINS. Each datum BY PROGRAM (the guide's laid-datum.mjs) off the statement by which the dump's own 'gosem.cut.vars' lays the variable. In a bare row this is a premise. The card (YtjkgiknklkfipaaDoorCards.lean) ties it to the program's text. -/
def laid_loop_example_g01344_impl_noChange {H : Type} : DataW H := .agg [.lit (.int .i16 0), .lit (.int .i8 (-1)), .lit (.bool false)]
def laid_loop_example_g01344_impl_errInvalid {H : Type} : DataW H := .iface "*errors.errorString" (.ptr (.agg [.lit (.string [105, 110, 118, 97, 108, 105, 100])]))
def laid_loop_example_g01344_impl_errRange {H : Type} : DataW H := .iface "*errors.errorString" (.ptr (.agg [.lit (.string [114, 97, 110, 103, 101])]))
def laid_loop_example_g01344_impl_errLimit {H : Type} : DataW H := .iface "*errors.errorString" (.ptr (.agg [.lit (.string [108, 105, 109, 105, 116])]))
def laid_loop_example_g01344_impl_errSyntax {H : Type} : DataW H := .iface "*errors.errorString" (.ptr (.agg [.lit (.string [115, 121, 110, 116, 97, 120])]))
def laid_loop_example_g01344_impl_errNotFound {H : Type} : DataW H := .iface "*errors.errorString" (.ptr (.agg [.lit (.string [110, 111, 116, 102, 111, 117, 110, 100])]))

/-- 'laws.FnExactWeekOf': WHATEVER THE INPUT: true; the input reads as it did. -/
def fnExactWeekOfSpec : ChangeSpec := { name := "fnExactWeekOf", vars := ["loop.example/g01344/impl.noChange"], fn := fun _ => fun
  | [d1, d2, d3, d4, g1] => { results := [.lit (.bool true)], args := [d1, d2, d3, d4], vars := [g1] }
  | _ => none }
def fnExactWeekOfRow : OpenClaim := { program := "ytjkgiknklkfipaadoor", sum := "d6a3c2604660d48fbbc12969155e6bd5c63ccff1134c1c35712d0913710b0f48", func := "loop.example/g01344/laws.FnExactWeekOf", spec := "fnExactWeekOf", unfollowed := true, recurses := true, named := ["loop.example/g01344/impl.noChange"], plainKeys := false, apart := false, laid := [("loop.example/g01344/impl.noChange", laid_loop_example_g01344_impl_noChange)] }
def FnExactWeekOfSaid : Prop := fnExactWeekOfRow.holds Tryd.pinned (OpenSpec.ofChange fnExactWeekOfSpec)

/-- ITS FALSE NEIGHBOUR: 'it returns false'. Refute it at one input. -/
def fnExactWeekOfWrong : ChangeSpec := { name := "fnExactWeekOf", vars := ["loop.example/g01344/impl.noChange"], fn := fun _ => fun
  | [d1, d2, d3, d4, g1] => { results := [.lit (.bool false)], args := [d1, d2, d3, d4], vars := [g1] }
  | _ => none }
def FnExactWeekOfWrongFalsely : Prop := fnExactWeekOfRow.holds Tryd.pinned (OpenSpec.ofChange fnExactWeekOfWrong)

/-- 'laws.FnExactYearOf': WHATEVER THE INPUT: true; the input reads as it did. -/
def fnExactYearOfSpec : ChangeSpec := { name := "fnExactYearOf", vars := ["loop.example/g01344/impl.noChange"], fn := fun _ => fun
  | [d1, d2, d3, d4, g1] => { results := [.lit (.bool true)], args := [d1, d2, d3, d4], vars := [g1] }
  | _ => none }
def fnExactYearOfRow : OpenClaim := { program := "ytjkgiknklkfipaadoor", sum := "d6a3c2604660d48fbbc12969155e6bd5c63ccff1134c1c35712d0913710b0f48", func := "loop.example/g01344/laws.FnExactYearOf", spec := "fnExactYearOf", unfollowed := true, recurses := true, named := ["loop.example/g01344/impl.noChange"], plainKeys := false, apart := false, laid := [("loop.example/g01344/impl.noChange", laid_loop_example_g01344_impl_noChange)] }
def FnExactYearOfSaid : Prop := fnExactYearOfRow.holds Tryd.pinned (OpenSpec.ofChange fnExactYearOfSpec)

/-- ITS FALSE NEIGHBOUR: 'it returns false'. Refute it at one input. -/
def fnExactYearOfWrong : ChangeSpec := { name := "fnExactYearOf", vars := ["loop.example/g01344/impl.noChange"], fn := fun _ => fun
  | [d1, d2, d3, d4, g1] => { results := [.lit (.bool false)], args := [d1, d2, d3, d4], vars := [g1] }
  | _ => none }
def FnExactYearOfWrongFalsely : Prop := fnExactYearOfRow.holds Tryd.pinned (OpenSpec.ofChange fnExactYearOfWrong)

/-- 'laws.FnExactQuietWeeks': WHATEVER THE INPUT: true; the input reads as it did. -/
def fnExactQuietWeeksSpec : ChangeSpec := { name := "fnExactQuietWeeks", vars := ["loop.example/g01344/impl.noChange"], fn := fun _ => fun
  | [d1, d2, d3, d4, g1] => { results := [.lit (.bool true)], args := [d1, d2, d3, d4], vars := [g1] }
  | _ => none }
def fnExactQuietWeeksRow : OpenClaim := { program := "ytjkgiknklkfipaadoor", sum := "d6a3c2604660d48fbbc12969155e6bd5c63ccff1134c1c35712d0913710b0f48", func := "loop.example/g01344/laws.FnExactQuietWeeks", spec := "fnExactQuietWeeks", unfollowed := true, recurses := true, named := ["loop.example/g01344/impl.noChange"], plainKeys := false, apart := false, laid := [("loop.example/g01344/impl.noChange", laid_loop_example_g01344_impl_noChange)] }
def FnExactQuietWeeksSaid : Prop := fnExactQuietWeeksRow.holds Tryd.pinned (OpenSpec.ofChange fnExactQuietWeeksSpec)

/-- ITS FALSE NEIGHBOUR: 'it returns false'. Refute it at one input. -/
def fnExactQuietWeeksWrong : ChangeSpec := { name := "fnExactQuietWeeks", vars := ["loop.example/g01344/impl.noChange"], fn := fun _ => fun
  | [d1, d2, d3, d4, g1] => { results := [.lit (.bool false)], args := [d1, d2, d3, d4], vars := [g1] }
  | _ => none }
def FnExactQuietWeeksWrongFalsely : Prop := fnExactQuietWeeksRow.holds Tryd.pinned (OpenSpec.ofChange fnExactQuietWeeksWrong)

/-- 'laws.FnExactBestGate': WHATEVER THE INPUT: true; the input reads as it did. -/
def fnExactBestGateSpec : ChangeSpec := { name := "fnExactBestGate", vars := ["loop.example/g01344/impl.errInvalid", "loop.example/g01344/impl.errRange", "loop.example/g01344/impl.errLimit", "loop.example/g01344/impl.errSyntax", "loop.example/g01344/impl.errNotFound"], fn := fun _ => fun
  | [d1, d2, d3, g1, g2, g3, g4, g5] => { results := [.lit (.bool true)], args := [d1, d2, d3], vars := [g1, g2, g3, g4, g5] }
  | _ => none }
def fnExactBestGateRow : OpenClaim := { program := "ytjkgiknklkfipaadoor", sum := "d6a3c2604660d48fbbc12969155e6bd5c63ccff1134c1c35712d0913710b0f48", func := "loop.example/g01344/laws.FnExactBestGate", spec := "fnExactBestGate", inPlace := ["math.sqrt", "internal/reflectlite.TypeOf", "math.Float32bits"], unfollowed := true, recurses := true, named := ["loop.example/g01344/impl.errInvalid", "loop.example/g01344/impl.errRange", "loop.example/g01344/impl.errLimit", "loop.example/g01344/impl.errSyntax", "loop.example/g01344/impl.errNotFound"], ifaces := true, plainKeys := false, apart := false, laid := [("loop.example/g01344/impl.errInvalid", laid_loop_example_g01344_impl_errInvalid), ("loop.example/g01344/impl.errRange", laid_loop_example_g01344_impl_errRange), ("loop.example/g01344/impl.errLimit", laid_loop_example_g01344_impl_errLimit), ("loop.example/g01344/impl.errSyntax", laid_loop_example_g01344_impl_errSyntax), ("loop.example/g01344/impl.errNotFound", laid_loop_example_g01344_impl_errNotFound)] }
def FnExactBestGateSaid : Prop := fnExactBestGateRow.holds Tryd.pinned (OpenSpec.ofChange fnExactBestGateSpec)

/-- ITS FALSE NEIGHBOUR: 'it returns false'. Refute it at one input. -/
def fnExactBestGateWrong : ChangeSpec := { name := "fnExactBestGate", vars := ["loop.example/g01344/impl.errInvalid", "loop.example/g01344/impl.errRange", "loop.example/g01344/impl.errLimit", "loop.example/g01344/impl.errSyntax", "loop.example/g01344/impl.errNotFound"], fn := fun _ => fun
  | [d1, d2, d3, g1, g2, g3, g4, g5] => { results := [.lit (.bool false)], args := [d1, d2, d3], vars := [g1, g2, g3, g4, g5] }
  | _ => none }
def FnExactBestGateWrongFalsely : Prop := fnExactBestGateRow.holds Tryd.pinned (OpenSpec.ofChange fnExactBestGateWrong)

/-- 'laws.FnExactLeastGate': WHATEVER THE INPUT: true; the input reads as it did. -/
def fnExactLeastGateSpec : ChangeSpec := { name := "fnExactLeastGate", vars := ["loop.example/g01344/impl.errNotFound", "loop.example/g01344/impl.errInvalid", "loop.example/g01344/impl.errRange", "loop.example/g01344/impl.errLimit", "loop.example/g01344/impl.errSyntax"], fn := fun _ => fun
  | [d1, d2, d3, g1, g2, g3, g4, g5] => { results := [.lit (.bool true)], args := [d1, d2, d3], vars := [g1, g2, g3, g4, g5] }
  | _ => none }
def fnExactLeastGateRow : OpenClaim := { program := "ytjkgiknklkfipaadoor", sum := "d6a3c2604660d48fbbc12969155e6bd5c63ccff1134c1c35712d0913710b0f48", func := "loop.example/g01344/laws.FnExactLeastGate", spec := "fnExactLeastGate", inPlace := ["math.sqrt", "internal/reflectlite.TypeOf", "math.Float32bits"], unfollowed := true, recurses := true, named := ["loop.example/g01344/impl.errNotFound", "loop.example/g01344/impl.errInvalid", "loop.example/g01344/impl.errRange", "loop.example/g01344/impl.errLimit", "loop.example/g01344/impl.errSyntax"], ifaces := true, plainKeys := false, apart := false, laid := [("loop.example/g01344/impl.errInvalid", laid_loop_example_g01344_impl_errInvalid), ("loop.example/g01344/impl.errRange", laid_loop_example_g01344_impl_errRange), ("loop.example/g01344/impl.errLimit", laid_loop_example_g01344_impl_errLimit), ("loop.example/g01344/impl.errSyntax", laid_loop_example_g01344_impl_errSyntax), ("loop.example/g01344/impl.errNotFound", laid_loop_example_g01344_impl_errNotFound)] }
def FnExactLeastGateSaid : Prop := fnExactLeastGateRow.holds Tryd.pinned (OpenSpec.ofChange fnExactLeastGateSpec)

/-- ITS FALSE NEIGHBOUR: 'it returns false'. Refute it at one input. -/
def fnExactLeastGateWrong : ChangeSpec := { name := "fnExactLeastGate", vars := ["loop.example/g01344/impl.errNotFound", "loop.example/g01344/impl.errInvalid", "loop.example/g01344/impl.errRange", "loop.example/g01344/impl.errLimit", "loop.example/g01344/impl.errSyntax"], fn := fun _ => fun
  | [d1, d2, d3, g1, g2, g3, g4, g5] => { results := [.lit (.bool false)], args := [d1, d2, d3], vars := [g1, g2, g3, g4, g5] }
  | _ => none }
def FnExactLeastGateWrongFalsely : Prop := fnExactLeastGateRow.holds Tryd.pinned (OpenSpec.ofChange fnExactLeastGateWrong)

/- THE SECOND FORM. 'bulk': how many values and letters a reading holds, each counted each time it is reached (what is shared counts as often as it is met; a slice's spare places count too). A statement '..UptoSaid' is the law's where the arguments, and the package variables that the reading takes, are together of bulk at most 1048576: NARROWER than '..Said'. Prove '..Said' where nothing that the law and all that it calls make is longer than what came in: it says more and counts as full. Else prove '..UptoSaid'. A law counts once. -/
mutual
def uptoBulk {H : Type} : DataW H → Nat
  | .lit (.string bytes) => bytes.length + 1
  | .lit _ => 1
  | .nil => 1
  | .ptr d => uptoBulk d + 1
  | .slice elems spare => uptoBulkAll elems + uptoBulkAll spare + 1
  | .agg parts => uptoBulkAll parts + 1
  | .iface _ d => uptoBulk d + 1
  | .map entries => uptoBulkEntries entries + 1
  | .held _ => 1
def uptoBulkAll {H : Type} : List (DataW H) → Nat
  | [] => 0
  | d :: r => uptoBulk d + uptoBulkAll r
def uptoBulkEntries {H : Type} : List (Lit × DataW H) → Nat
  | [] => 0
  | x :: r => uptoBulkEntry x + uptoBulkEntries r
def uptoBulkEntry {H : Type} : Lit × DataW H → Nat
  | (.string bytes, d) => bytes.length + uptoBulk d + 1
  | (_, d) => uptoBulk d + 1
 end
def uptoSmall : (H : Type) → List (DataW H) → Bool := fun _ ds => decide (uptoBulkAll ds ≤ 1048576)
def OpenSpec.upto (s : _root_.Go.ChangeSpec) : _root_.Go.OpenSpec := { _root_.Go.OpenSpec.ofChange s with cond := some uptoSmall }

/-- 'laws.FnExactWeekOf', WHERE WHAT IT READS IS OF BULK AT MOST 1048576: true; the input reads as it did. -/
def fnExactWeekOfUptoRow : OpenClaim := { program := "ytjkgiknklkfipaadoor", sum := "d6a3c2604660d48fbbc12969155e6bd5c63ccff1134c1c35712d0913710b0f48", func := "loop.example/g01344/laws.FnExactWeekOf", spec := "fnExactWeekOf", unfollowed := true, recurses := true, named := ["loop.example/g01344/impl.noChange"], plainKeys := false, apart := false, laid := [("loop.example/g01344/impl.noChange", laid_loop_example_g01344_impl_noChange)], narrowed := true }
def FnExactWeekOfUptoSaid : Prop := fnExactWeekOfUptoRow.holds Tryd.pinned (OpenSpec.upto fnExactWeekOfSpec)

/-- 'laws.FnExactYearOf', WHERE WHAT IT READS IS OF BULK AT MOST 1048576: true; the input reads as it did. -/
def fnExactYearOfUptoRow : OpenClaim := { program := "ytjkgiknklkfipaadoor", sum := "d6a3c2604660d48fbbc12969155e6bd5c63ccff1134c1c35712d0913710b0f48", func := "loop.example/g01344/laws.FnExactYearOf", spec := "fnExactYearOf", unfollowed := true, recurses := true, named := ["loop.example/g01344/impl.noChange"], plainKeys := false, apart := false, laid := [("loop.example/g01344/impl.noChange", laid_loop_example_g01344_impl_noChange)], narrowed := true }
def FnExactYearOfUptoSaid : Prop := fnExactYearOfUptoRow.holds Tryd.pinned (OpenSpec.upto fnExactYearOfSpec)

/-- 'laws.FnExactQuietWeeks', WHERE WHAT IT READS IS OF BULK AT MOST 1048576: true; the input reads as it did. -/
def fnExactQuietWeeksUptoRow : OpenClaim := { program := "ytjkgiknklkfipaadoor", sum := "d6a3c2604660d48fbbc12969155e6bd5c63ccff1134c1c35712d0913710b0f48", func := "loop.example/g01344/laws.FnExactQuietWeeks", spec := "fnExactQuietWeeks", unfollowed := true, recurses := true, named := ["loop.example/g01344/impl.noChange"], plainKeys := false, apart := false, laid := [("loop.example/g01344/impl.noChange", laid_loop_example_g01344_impl_noChange)], narrowed := true }
def FnExactQuietWeeksUptoSaid : Prop := fnExactQuietWeeksUptoRow.holds Tryd.pinned (OpenSpec.upto fnExactQuietWeeksSpec)

/-- 'laws.FnExactBestGate', WHERE WHAT IT READS IS OF BULK AT MOST 1048576: true; the input reads as it did. -/
def fnExactBestGateUptoRow : OpenClaim := { program := "ytjkgiknklkfipaadoor", sum := "d6a3c2604660d48fbbc12969155e6bd5c63ccff1134c1c35712d0913710b0f48", func := "loop.example/g01344/laws.FnExactBestGate", spec := "fnExactBestGate", inPlace := ["math.sqrt", "internal/reflectlite.TypeOf", "math.Float32bits"], unfollowed := true, recurses := true, named := ["loop.example/g01344/impl.errInvalid", "loop.example/g01344/impl.errRange", "loop.example/g01344/impl.errLimit", "loop.example/g01344/impl.errSyntax", "loop.example/g01344/impl.errNotFound"], ifaces := true, plainKeys := false, apart := false, laid := [("loop.example/g01344/impl.errInvalid", laid_loop_example_g01344_impl_errInvalid), ("loop.example/g01344/impl.errRange", laid_loop_example_g01344_impl_errRange), ("loop.example/g01344/impl.errLimit", laid_loop_example_g01344_impl_errLimit), ("loop.example/g01344/impl.errSyntax", laid_loop_example_g01344_impl_errSyntax), ("loop.example/g01344/impl.errNotFound", laid_loop_example_g01344_impl_errNotFound)], narrowed := true }
def FnExactBestGateUptoSaid : Prop := fnExactBestGateUptoRow.holds Tryd.pinned (OpenSpec.upto fnExactBestGateSpec)

/-- 'laws.FnExactLeastGate', WHERE WHAT IT READS IS OF BULK AT MOST 1048576: true; the input reads as it did. -/
def fnExactLeastGateUptoRow : OpenClaim := { program := "ytjkgiknklkfipaadoor", sum := "d6a3c2604660d48fbbc12969155e6bd5c63ccff1134c1c35712d0913710b0f48", func := "loop.example/g01344/laws.FnExactLeastGate", spec := "fnExactLeastGate", inPlace := ["math.sqrt", "internal/reflectlite.TypeOf", "math.Float32bits"], unfollowed := true, recurses := true, named := ["loop.example/g01344/impl.errNotFound", "loop.example/g01344/impl.errInvalid", "loop.example/g01344/impl.errRange", "loop.example/g01344/impl.errLimit", "loop.example/g01344/impl.errSyntax"], ifaces := true, plainKeys := false, apart := false, laid := [("loop.example/g01344/impl.errInvalid", laid_loop_example_g01344_impl_errInvalid), ("loop.example/g01344/impl.errRange", laid_loop_example_g01344_impl_errRange), ("loop.example/g01344/impl.errLimit", laid_loop_example_g01344_impl_errLimit), ("loop.example/g01344/impl.errSyntax", laid_loop_example_g01344_impl_errSyntax), ("loop.example/g01344/impl.errNotFound", laid_loop_example_g01344_impl_errNotFound)], narrowed := true }
def FnExactLeastGateUptoSaid : Prop := fnExactLeastGateUptoRow.holds Tryd.pinned (OpenSpec.upto fnExactLeastGateSpec)

end Rows
end Go.Proofs.YtjkgiknklkfipaaDoor
