/-
  NARROWER THAN 'FOR EVERY INPUT', by the rows' own cells (each row's printed sentence says how): FnExactGateBehind: ifaces, laid · FnExactTickOnce: ifaces, laid · FnExactTickAll: ifaces, laid · FnExactWithinFrom: ifaces, laid · FnExactSteadyFrom: ifaces, laid · FnExactBestGate: ifaces, laid · FnExactLeastGate: ifaces, laid · FnExactMillText: laid.
  DERIVED. THE GIVEN ROWS OF THIS SEAT. 8 by the template 'for every input the law returns true; each argument reads behind the call as it read before'; 0 by the template 'total and deterministic' (their statements: YtajifkbpjabciabDoorTotals.lean).
  GIVEN WITH THE SEED: the statements are not yours to turn. If you find one false, say at which input.
  Laid BY PROGRAM, IN A SANDBOX (cutbox-rows.mjs): the forced cells as the released guide's own fill.sh prints them over the translation a653f760318a54db… (all of the seat's roots in one cut). By AI agents, Wed Nov 11 2026. No macro, syntax, notation, axiom, sorry.
-/
import Derived.Test.YtajifkbpjabciabDoorChecked
import GoSem.Claim
import GoSem.ClaimJoined
import GoSem.ClaimMapViews
import Derived.JoinedTies
import Derived.KernelRfl
namespace Go.Proofs.YtajifkbpjabciabDoor
/- THE CELL 'sum', in the pinned program and in every row, IS THE sha256 OF THE DUMP (.gsa) THAT YtajifkbpjabciabDoorProg.lean LOADS. Nothing in Lean hashes anything: it is a label: what it is worth is what the hold of that sum in a sandbox is worth. -/
noncomputable def Tryd.pinned : Pinned := { name := "ytajifkbpjabciabdoor", sum := "a653f760318a54dbe80200a8d004dc1dade4a1ee064874fc56ed201603a89f63", checked := Tryd.checked }
namespace Rows
def none {H : Type} : Left H := { results := [], args := [] }

/- WHAT THE LISTED PACKAGE-LEVEL VARIABLES READ AS WHEN THE CALL BEGINS. Each datum BY PROGRAM (the guide's laid-datum.mjs) off the statement by which the dump's own 'gosem.cut.vars' lays the variable. In a bare row this is a premise. The card (YtajifkbpjabciabDoorCards.lean) ties it to the program's text. -/
def laid_loop_example_g01344_impl_errInvalid {H : Type} : DataW H := .iface "*errors.errorString" (.ptr (.agg [.lit (.string [105, 110, 118, 97, 108, 105, 100])]))
def laid_loop_example_g01344_impl_errRange {H : Type} : DataW H := .iface "*errors.errorString" (.ptr (.agg [.lit (.string [114, 97, 110, 103, 101])]))
def laid_loop_example_g01344_impl_errLimit {H : Type} : DataW H := .iface "*errors.errorString" (.ptr (.agg [.lit (.string [108, 105, 109, 105, 116])]))
def laid_loop_example_g01344_impl_errSyntax {H : Type} : DataW H := .iface "*errors.errorString" (.ptr (.agg [.lit (.string [115, 121, 110, 116, 97, 120])]))
def laid_loop_example_g01344_impl_errNotFound {H : Type} : DataW H := .iface "*errors.errorString" (.ptr (.agg [.lit (.string [110, 111, 116, 102, 111, 117, 110, 100])]))
def laid_math_bits_deBruijn32tab {H : Type} : DataW H := .agg [.lit (.int .u8 0), .lit (.int .u8 1), .lit (.int .u8 28), .lit (.int .u8 2), .lit (.int .u8 29), .lit (.int .u8 14), .lit (.int .u8 24), .lit (.int .u8 3), .lit (.int .u8 30), .lit (.int .u8 22), .lit (.int .u8 20), .lit (.int .u8 15), .lit (.int .u8 25), .lit (.int .u8 17), .lit (.int .u8 4), .lit (.int .u8 8), .lit (.int .u8 31), .lit (.int .u8 27), .lit (.int .u8 13), .lit (.int .u8 23), .lit (.int .u8 21), .lit (.int .u8 19), .lit (.int .u8 16), .lit (.int .u8 7), .lit (.int .u8 26), .lit (.int .u8 12), .lit (.int .u8 18), .lit (.int .u8 6), .lit (.int .u8 11), .lit (.int .u8 5), .lit (.int .u8 10), .lit (.int .u8 9)]
def laid_math_bits_deBruijn64tab {H : Type} : DataW H := .agg [.lit (.int .u8 0), .lit (.int .u8 1), .lit (.int .u8 56), .lit (.int .u8 2), .lit (.int .u8 57), .lit (.int .u8 49), .lit (.int .u8 28), .lit (.int .u8 3), .lit (.int .u8 61), .lit (.int .u8 58), .lit (.int .u8 42), .lit (.int .u8 50), .lit (.int .u8 38), .lit (.int .u8 29), .lit (.int .u8 17), .lit (.int .u8 4), .lit (.int .u8 62), .lit (.int .u8 47), .lit (.int .u8 59), .lit (.int .u8 36), .lit (.int .u8 45), .lit (.int .u8 43), .lit (.int .u8 51), .lit (.int .u8 22), .lit (.int .u8 53), .lit (.int .u8 39), .lit (.int .u8 33), .lit (.int .u8 30), .lit (.int .u8 24), .lit (.int .u8 18), .lit (.int .u8 12), .lit (.int .u8 5), .lit (.int .u8 63), .lit (.int .u8 55), .lit (.int .u8 48), .lit (.int .u8 27), .lit (.int .u8 60), .lit (.int .u8 41), .lit (.int .u8 37), .lit (.int .u8 16), .lit (.int .u8 46), .lit (.int .u8 35), .lit (.int .u8 44), .lit (.int .u8 21), .lit (.int .u8 52), .lit (.int .u8 32), .lit (.int .u8 23), .lit (.int .u8 11), .lit (.int .u8 54), .lit (.int .u8 26), .lit (.int .u8 40), .lit (.int .u8 15), .lit (.int .u8 34), .lit (.int .u8 20), .lit (.int .u8 31), .lit (.int .u8 10), .lit (.int .u8 25), .lit (.int .u8 14), .lit (.int .u8 19), .lit (.int .u8 9), .lit (.int .u8 13), .lit (.int .u8 8), .lit (.int .u8 7), .lit (.int .u8 6)]
def laid_internal_strconv_uint64pow10 {H : Type} : DataW H := .agg [.lit (.int .u64 1), .lit (.int .u64 10), .lit (.int .u64 100), .lit (.int .u64 1000), .lit (.int .u64 10000), .lit (.int .u64 100000), .lit (.int .u64 1000000), .lit (.int .u64 10000000), .lit (.int .u64 100000000), .lit (.int .u64 1000000000), .lit (.int .u64 10000000000), .lit (.int .u64 100000000000), .lit (.int .u64 1000000000000), .lit (.int .u64 10000000000000), .lit (.int .u64 100000000000000), .lit (.int .u64 1000000000000000), .lit (.int .u64 10000000000000000), .lit (.int .u64 100000000000000000), .lit (.int .u64 1000000000000000000), .lit (.int .u64 10000000000000000000)]

/-- 'laws.FnExactGateBehind': WHATEVER THE INPUT: true; the input reads as it did. -/
def fnExactGateBehindSpec : ChangeSpec := { name := "fnExactGateBehind", vars := ["loop.example/g01344/impl.errInvalid", "loop.example/g01344/impl.errRange", "loop.example/g01344/impl.errLimit", "loop.example/g01344/impl.errSyntax", "loop.example/g01344/impl.errNotFound"], fn := fun _ => fun
  | [d1, d2, g1, g2, g3, g4, g5] => { results := [.lit (.bool true)], args := [d1, d2], vars := [g1, g2, g3, g4, g5] }
  | _ => none }
def fnExactGateBehindRow : OpenClaim := { program := "ytajifkbpjabciabdoor", sum := "a653f760318a54dbe80200a8d004dc1dade4a1ee064874fc56ed201603a89f63", func := "loop.example/g01344/laws.FnExactGateBehind", spec := "fnExactGateBehind", inPlace := ["internal/reflectlite.TypeOf"], unfollowed := true, recurses := true, named := ["loop.example/g01344/impl.errInvalid", "loop.example/g01344/impl.errRange", "loop.example/g01344/impl.errLimit", "loop.example/g01344/impl.errSyntax", "loop.example/g01344/impl.errNotFound"], ifaces := true, plainKeys := false, leaving := true, apart := false, laid := [("loop.example/g01344/impl.errInvalid", laid_loop_example_g01344_impl_errInvalid), ("loop.example/g01344/impl.errRange", laid_loop_example_g01344_impl_errRange), ("loop.example/g01344/impl.errLimit", laid_loop_example_g01344_impl_errLimit), ("loop.example/g01344/impl.errSyntax", laid_loop_example_g01344_impl_errSyntax), ("loop.example/g01344/impl.errNotFound", laid_loop_example_g01344_impl_errNotFound)] }
def FnExactGateBehindSaid : Prop := fnExactGateBehindRow.holds Tryd.pinned (OpenSpec.ofChange fnExactGateBehindSpec)

/-- ITS FALSE NEIGHBOUR: 'it returns false'. Refute it at one input. -/
def fnExactGateBehindWrong : ChangeSpec := { name := "fnExactGateBehind", vars := ["loop.example/g01344/impl.errInvalid", "loop.example/g01344/impl.errRange", "loop.example/g01344/impl.errLimit", "loop.example/g01344/impl.errSyntax", "loop.example/g01344/impl.errNotFound"], fn := fun _ => fun
  | [d1, d2, g1, g2, g3, g4, g5] => { results := [.lit (.bool false)], args := [d1, d2], vars := [g1, g2, g3, g4, g5] }
  | _ => none }
def FnExactGateBehindWrongFalsely : Prop := fnExactGateBehindRow.holds Tryd.pinned (OpenSpec.ofChange fnExactGateBehindWrong)

/-- 'laws.FnExactTickOnce': WHATEVER THE INPUT: true; the input reads as it did. -/
def fnExactTickOnceSpec : ChangeSpec := { name := "fnExactTickOnce", vars := ["loop.example/g01344/impl.errRange", "loop.example/g01344/impl.errLimit", "loop.example/g01344/impl.errInvalid", "loop.example/g01344/impl.errSyntax", "loop.example/g01344/impl.errNotFound"], fn := fun _ => fun
  | [d1, d2, d3, g1, g2, g3, g4, g5] => { results := [.lit (.bool true)], args := [d1, d2, d3], vars := [g1, g2, g3, g4, g5] }
  | _ => none }
def fnExactTickOnceRow : OpenClaim := { program := "ytajifkbpjabciabdoor", sum := "a653f760318a54dbe80200a8d004dc1dade4a1ee064874fc56ed201603a89f63", func := "loop.example/g01344/laws.FnExactTickOnce", spec := "fnExactTickOnce", inPlace := ["math.sqrt", "internal/reflectlite.TypeOf", "math.Float32bits"], unfollowed := true, recurses := true, named := ["loop.example/g01344/impl.errRange", "loop.example/g01344/impl.errLimit", "loop.example/g01344/impl.errInvalid", "loop.example/g01344/impl.errSyntax", "loop.example/g01344/impl.errNotFound"], ifaces := true, plainKeys := false, leaving := true, apart := false, laid := [("loop.example/g01344/impl.errInvalid", laid_loop_example_g01344_impl_errInvalid), ("loop.example/g01344/impl.errRange", laid_loop_example_g01344_impl_errRange), ("loop.example/g01344/impl.errLimit", laid_loop_example_g01344_impl_errLimit), ("loop.example/g01344/impl.errSyntax", laid_loop_example_g01344_impl_errSyntax), ("loop.example/g01344/impl.errNotFound", laid_loop_example_g01344_impl_errNotFound)] }
def FnExactTickOnceSaid : Prop := fnExactTickOnceRow.holds Tryd.pinned (OpenSpec.ofChange fnExactTickOnceSpec)

/-- ITS FALSE NEIGHBOUR: 'it returns false'. Refute it at one input. -/
def fnExactTickOnceWrong : ChangeSpec := { name := "fnExactTickOnce", vars := ["loop.example/g01344/impl.errRange", "loop.example/g01344/impl.errLimit", "loop.example/g01344/impl.errInvalid", "loop.example/g01344/impl.errSyntax", "loop.example/g01344/impl.errNotFound"], fn := fun _ => fun
  | [d1, d2, d3, g1, g2, g3, g4, g5] => { results := [.lit (.bool false)], args := [d1, d2, d3], vars := [g1, g2, g3, g4, g5] }
  | _ => none }
def FnExactTickOnceWrongFalsely : Prop := fnExactTickOnceRow.holds Tryd.pinned (OpenSpec.ofChange fnExactTickOnceWrong)

/-- 'laws.FnExactTickAll': WHATEVER THE INPUT: true; the input reads as it did. -/
def fnExactTickAllSpec : ChangeSpec := { name := "fnExactTickAll", vars := ["loop.example/g01344/impl.errRange", "loop.example/g01344/impl.errLimit", "loop.example/g01344/impl.errInvalid", "loop.example/g01344/impl.errSyntax", "loop.example/g01344/impl.errNotFound"], fn := fun _ => fun
  | [d1, d2, d3, g1, g2, g3, g4, g5] => { results := [.lit (.bool true)], args := [d1, d2, d3], vars := [g1, g2, g3, g4, g5] }
  | _ => none }
def fnExactTickAllRow : OpenClaim := { program := "ytajifkbpjabciabdoor", sum := "a653f760318a54dbe80200a8d004dc1dade4a1ee064874fc56ed201603a89f63", func := "loop.example/g01344/laws.FnExactTickAll", spec := "fnExactTickAll", inPlace := ["math.sqrt", "internal/reflectlite.TypeOf", "math.Float32bits"], unfollowed := true, recurses := true, named := ["loop.example/g01344/impl.errRange", "loop.example/g01344/impl.errLimit", "loop.example/g01344/impl.errInvalid", "loop.example/g01344/impl.errSyntax", "loop.example/g01344/impl.errNotFound"], ifaces := true, plainKeys := false, leaving := true, apart := false, laid := [("loop.example/g01344/impl.errInvalid", laid_loop_example_g01344_impl_errInvalid), ("loop.example/g01344/impl.errRange", laid_loop_example_g01344_impl_errRange), ("loop.example/g01344/impl.errLimit", laid_loop_example_g01344_impl_errLimit), ("loop.example/g01344/impl.errSyntax", laid_loop_example_g01344_impl_errSyntax), ("loop.example/g01344/impl.errNotFound", laid_loop_example_g01344_impl_errNotFound)] }
def FnExactTickAllSaid : Prop := fnExactTickAllRow.holds Tryd.pinned (OpenSpec.ofChange fnExactTickAllSpec)

/-- ITS FALSE NEIGHBOUR: 'it returns false'. Refute it at one input. -/
def fnExactTickAllWrong : ChangeSpec := { name := "fnExactTickAll", vars := ["loop.example/g01344/impl.errRange", "loop.example/g01344/impl.errLimit", "loop.example/g01344/impl.errInvalid", "loop.example/g01344/impl.errSyntax", "loop.example/g01344/impl.errNotFound"], fn := fun _ => fun
  | [d1, d2, d3, g1, g2, g3, g4, g5] => { results := [.lit (.bool false)], args := [d1, d2, d3], vars := [g1, g2, g3, g4, g5] }
  | _ => none }
def FnExactTickAllWrongFalsely : Prop := fnExactTickAllRow.holds Tryd.pinned (OpenSpec.ofChange fnExactTickAllWrong)

/-- 'laws.FnExactWithinFrom': WHATEVER THE INPUT: true; the input reads as it did. -/
def fnExactWithinFromSpec : ChangeSpec := { name := "fnExactWithinFrom", vars := ["loop.example/g01344/impl.errNotFound", "loop.example/g01344/impl.errRange", "loop.example/g01344/impl.errLimit", "loop.example/g01344/impl.errInvalid", "loop.example/g01344/impl.errSyntax"], fn := fun _ => fun
  | [d1, d2, d3, g1, g2, g3, g4, g5] => { results := [.lit (.bool true)], args := [d1, d2, d3], vars := [g1, g2, g3, g4, g5] }
  | _ => none }
def fnExactWithinFromRow : OpenClaim := { program := "ytajifkbpjabciabdoor", sum := "a653f760318a54dbe80200a8d004dc1dade4a1ee064874fc56ed201603a89f63", func := "loop.example/g01344/laws.FnExactWithinFrom", spec := "fnExactWithinFrom", inPlace := ["math.sqrt", "internal/reflectlite.TypeOf", "math.Float32bits"], unfollowed := true, recurses := true, named := ["loop.example/g01344/impl.errNotFound", "loop.example/g01344/impl.errRange", "loop.example/g01344/impl.errLimit", "loop.example/g01344/impl.errInvalid", "loop.example/g01344/impl.errSyntax"], ifaces := true, plainKeys := false, leaving := true, apart := false, laid := [("loop.example/g01344/impl.errInvalid", laid_loop_example_g01344_impl_errInvalid), ("loop.example/g01344/impl.errRange", laid_loop_example_g01344_impl_errRange), ("loop.example/g01344/impl.errLimit", laid_loop_example_g01344_impl_errLimit), ("loop.example/g01344/impl.errSyntax", laid_loop_example_g01344_impl_errSyntax), ("loop.example/g01344/impl.errNotFound", laid_loop_example_g01344_impl_errNotFound)] }
def FnExactWithinFromSaid : Prop := fnExactWithinFromRow.holds Tryd.pinned (OpenSpec.ofChange fnExactWithinFromSpec)

/-- ITS FALSE NEIGHBOUR: 'it returns false'. Refute it at one input. -/
def fnExactWithinFromWrong : ChangeSpec := { name := "fnExactWithinFrom", vars := ["loop.example/g01344/impl.errNotFound", "loop.example/g01344/impl.errRange", "loop.example/g01344/impl.errLimit", "loop.example/g01344/impl.errInvalid", "loop.example/g01344/impl.errSyntax"], fn := fun _ => fun
  | [d1, d2, d3, g1, g2, g3, g4, g5] => { results := [.lit (.bool false)], args := [d1, d2, d3], vars := [g1, g2, g3, g4, g5] }
  | _ => none }
def FnExactWithinFromWrongFalsely : Prop := fnExactWithinFromRow.holds Tryd.pinned (OpenSpec.ofChange fnExactWithinFromWrong)

/-- 'laws.FnExactSteadyFrom': WHATEVER THE INPUT: true; the input reads as it did. -/
def fnExactSteadyFromSpec : ChangeSpec := { name := "fnExactSteadyFrom", vars := ["loop.example/g01344/impl.errNotFound", "loop.example/g01344/impl.errRange", "loop.example/g01344/impl.errLimit", "loop.example/g01344/impl.errInvalid", "loop.example/g01344/impl.errSyntax"], fn := fun _ => fun
  | [d1, d2, d3, g1, g2, g3, g4, g5] => { results := [.lit (.bool true)], args := [d1, d2, d3], vars := [g1, g2, g3, g4, g5] }
  | _ => none }
def fnExactSteadyFromRow : OpenClaim := { program := "ytajifkbpjabciabdoor", sum := "a653f760318a54dbe80200a8d004dc1dade4a1ee064874fc56ed201603a89f63", func := "loop.example/g01344/laws.FnExactSteadyFrom", spec := "fnExactSteadyFrom", inPlace := ["math.sqrt", "math.Float32bits", "internal/reflectlite.TypeOf"], unfollowed := true, recurses := true, named := ["loop.example/g01344/impl.errNotFound", "loop.example/g01344/impl.errRange", "loop.example/g01344/impl.errLimit", "loop.example/g01344/impl.errInvalid", "loop.example/g01344/impl.errSyntax"], ifaces := true, plainKeys := false, leaving := true, apart := false, laid := [("loop.example/g01344/impl.errInvalid", laid_loop_example_g01344_impl_errInvalid), ("loop.example/g01344/impl.errRange", laid_loop_example_g01344_impl_errRange), ("loop.example/g01344/impl.errLimit", laid_loop_example_g01344_impl_errLimit), ("loop.example/g01344/impl.errSyntax", laid_loop_example_g01344_impl_errSyntax), ("loop.example/g01344/impl.errNotFound", laid_loop_example_g01344_impl_errNotFound)] }
def FnExactSteadyFromSaid : Prop := fnExactSteadyFromRow.holds Tryd.pinned (OpenSpec.ofChange fnExactSteadyFromSpec)

/-- ITS FALSE NEIGHBOUR: 'it returns false'. Refute it at one input. -/
def fnExactSteadyFromWrong : ChangeSpec := { name := "fnExactSteadyFrom", vars := ["loop.example/g01344/impl.errNotFound", "loop.example/g01344/impl.errRange", "loop.example/g01344/impl.errLimit", "loop.example/g01344/impl.errInvalid", "loop.example/g01344/impl.errSyntax"], fn := fun _ => fun
  | [d1, d2, d3, g1, g2, g3, g4, g5] => { results := [.lit (.bool false)], args := [d1, d2, d3], vars := [g1, g2, g3, g4, g5] }
  | _ => none }
def FnExactSteadyFromWrongFalsely : Prop := fnExactSteadyFromRow.holds Tryd.pinned (OpenSpec.ofChange fnExactSteadyFromWrong)

/-- 'laws.FnExactBestGate': WHATEVER THE INPUT: true; the input reads as it did. -/
def fnExactBestGateSpec : ChangeSpec := { name := "fnExactBestGate", vars := ["loop.example/g01344/impl.errInvalid", "loop.example/g01344/impl.errRange", "loop.example/g01344/impl.errLimit", "loop.example/g01344/impl.errSyntax", "loop.example/g01344/impl.errNotFound"], fn := fun _ => fun
  | [d1, d2, d3, g1, g2, g3, g4, g5] => { results := [.lit (.bool true)], args := [d1, d2, d3], vars := [g1, g2, g3, g4, g5] }
  | _ => none }
def fnExactBestGateRow : OpenClaim := { program := "ytajifkbpjabciabdoor", sum := "a653f760318a54dbe80200a8d004dc1dade4a1ee064874fc56ed201603a89f63", func := "loop.example/g01344/laws.FnExactBestGate", spec := "fnExactBestGate", inPlace := ["math.sqrt", "internal/reflectlite.TypeOf", "math.Float32bits"], unfollowed := true, recurses := true, named := ["loop.example/g01344/impl.errInvalid", "loop.example/g01344/impl.errRange", "loop.example/g01344/impl.errLimit", "loop.example/g01344/impl.errSyntax", "loop.example/g01344/impl.errNotFound"], ifaces := true, plainKeys := false, leaving := true, apart := false, laid := [("loop.example/g01344/impl.errInvalid", laid_loop_example_g01344_impl_errInvalid), ("loop.example/g01344/impl.errRange", laid_loop_example_g01344_impl_errRange), ("loop.example/g01344/impl.errLimit", laid_loop_example_g01344_impl_errLimit), ("loop.example/g01344/impl.errSyntax", laid_loop_example_g01344_impl_errSyntax), ("loop.example/g01344/impl.errNotFound", laid_loop_example_g01344_impl_errNotFound)] }
def FnExactBestGateSaid : Prop := fnExactBestGateRow.holds Tryd.pinned (OpenSpec.ofChange fnExactBestGateSpec)

/-- ITS FALSE NEIGHBOUR: 'it returns false'. Refute it at one input. -/
def fnExactBestGateWrong : ChangeSpec := { name := "fnExactBestGate", vars := ["loop.example/g01344/impl.errInvalid", "loop.example/g01344/impl.errRange", "loop.example/g01344/impl.errLimit", "loop.example/g01344/impl.errSyntax", "loop.example/g01344/impl.errNotFound"], fn := fun _ => fun
  | [d1, d2, d3, g1, g2, g3, g4, g5] => { results := [.lit (.bool false)], args := [d1, d2, d3], vars := [g1, g2, g3, g4, g5] }
  | _ => none }
def FnExactBestGateWrongFalsely : Prop := fnExactBestGateRow.holds Tryd.pinned (OpenSpec.ofChange fnExactBestGateWrong)

/-- 'laws.FnExactLeastGate': WHATEVER THE INPUT: true; the input reads as it did. -/
def fnExactLeastGateSpec : ChangeSpec := { name := "fnExactLeastGate", vars := ["loop.example/g01344/impl.errNotFound", "loop.example/g01344/impl.errInvalid", "loop.example/g01344/impl.errRange", "loop.example/g01344/impl.errLimit", "loop.example/g01344/impl.errSyntax"], fn := fun _ => fun
  | [d1, d2, d3, g1, g2, g3, g4, g5] => { results := [.lit (.bool true)], args := [d1, d2, d3], vars := [g1, g2, g3, g4, g5] }
  | _ => none }
def fnExactLeastGateRow : OpenClaim := { program := "ytajifkbpjabciabdoor", sum := "a653f760318a54dbe80200a8d004dc1dade4a1ee064874fc56ed201603a89f63", func := "loop.example/g01344/laws.FnExactLeastGate", spec := "fnExactLeastGate", inPlace := ["math.sqrt", "internal/reflectlite.TypeOf", "math.Float32bits"], unfollowed := true, recurses := true, named := ["loop.example/g01344/impl.errNotFound", "loop.example/g01344/impl.errInvalid", "loop.example/g01344/impl.errRange", "loop.example/g01344/impl.errLimit", "loop.example/g01344/impl.errSyntax"], ifaces := true, plainKeys := false, leaving := true, apart := false, laid := [("loop.example/g01344/impl.errInvalid", laid_loop_example_g01344_impl_errInvalid), ("loop.example/g01344/impl.errRange", laid_loop_example_g01344_impl_errRange), ("loop.example/g01344/impl.errLimit", laid_loop_example_g01344_impl_errLimit), ("loop.example/g01344/impl.errSyntax", laid_loop_example_g01344_impl_errSyntax), ("loop.example/g01344/impl.errNotFound", laid_loop_example_g01344_impl_errNotFound)] }
def FnExactLeastGateSaid : Prop := fnExactLeastGateRow.holds Tryd.pinned (OpenSpec.ofChange fnExactLeastGateSpec)

/-- ITS FALSE NEIGHBOUR: 'it returns false'. Refute it at one input. -/
def fnExactLeastGateWrong : ChangeSpec := { name := "fnExactLeastGate", vars := ["loop.example/g01344/impl.errNotFound", "loop.example/g01344/impl.errInvalid", "loop.example/g01344/impl.errRange", "loop.example/g01344/impl.errLimit", "loop.example/g01344/impl.errSyntax"], fn := fun _ => fun
  | [d1, d2, d3, g1, g2, g3, g4, g5] => { results := [.lit (.bool false)], args := [d1, d2, d3], vars := [g1, g2, g3, g4, g5] }
  | _ => none }
def FnExactLeastGateWrongFalsely : Prop := fnExactLeastGateRow.holds Tryd.pinned (OpenSpec.ofChange fnExactLeastGateWrong)

/-- 'laws.FnExactMillText': WHATEVER THE INPUT: true; the input reads as it did. -/
def fnExactMillTextSpec : ChangeSpec := { name := "fnExactMillText", fn := fun _ => fun
  | [d] => { results := [.lit (.bool true)], args := [d] }
  | _ => none }
def fnExactMillTextRow : OpenClaim := { program := "ytajifkbpjabciabdoor", sum := "a653f760318a54dbe80200a8d004dc1dade4a1ee064874fc56ed201603a89f63", func := "loop.example/g01344/laws.FnExactMillText", spec := "fnExactMillText", inPlace := ["math.Float32bits", "internal/abi.NoEscape", "internal/bytealg.MakeNoZero"], recurses := true, named := ["internal/strconv.uint64pow10", "math/bits.deBruijn32tab", "math/bits.deBruijn64tab"], plainKeys := false, apart := false, laid := [("math/bits.deBruijn32tab", laid_math_bits_deBruijn32tab), ("math/bits.deBruijn64tab", laid_math_bits_deBruijn64tab), ("internal/strconv.uint64pow10", laid_internal_strconv_uint64pow10)] }
def FnExactMillTextSaid : Prop := fnExactMillTextRow.holds Tryd.pinned (OpenSpec.ofChange fnExactMillTextSpec)

/-- ITS FALSE NEIGHBOUR: 'it returns false'. Refute it at one input. -/
def fnExactMillTextWrong : ChangeSpec := { name := "fnExactMillText", fn := fun _ => fun
  | [d] => { results := [.lit (.bool false)], args := [d] }
  | _ => none }
def FnExactMillTextWrongFalsely : Prop := fnExactMillTextRow.holds Tryd.pinned (OpenSpec.ofChange fnExactMillTextWrong)

/- THE SECOND FORM. 'bulk': how many values and letters a reading holds, each counted each time it is reached (what is shared counts as often as it is met; a slice's spare places count too). A statement '..UptoSaid' is the law's where the arguments, and the package variables that the reading takes, are together of bulk at most 1048576: NARROWER than '..Said'. Prove '..Said' where nothing that the law and all that it calls make is longer than what came in: it says more and counts as full. Else prove '..UptoSaid'. A law counts once. -/
mutual
def uptoBulk {H : Type} : DataW H → Nat
  | .lit (.string bytes) => bytes.length + 1
  | .lit _ => 1
  | .nil => 1
  | .ptr d => uptoBulk d + 1
  | .slice elems spare => uptoBulkAll elems + uptoBulkAll spare + 1
  | .agg parts => uptoBulkAll parts + 1
  | .iface _ d => uptoBulk d + 1
  | .map entries => uptoBulkEntries entries + 1
  | .held _ => 1
def uptoBulkAll {H : Type} : List (DataW H) → Nat
  | [] => 0
  | d :: r => uptoBulk d + uptoBulkAll r
def uptoBulkEntries {H : Type} : List (Lit × DataW H) → Nat
  | [] => 0
  | x :: r => uptoBulkEntry x + uptoBulkEntries r
def uptoBulkEntry {H : Type} : Lit × DataW H → Nat
  | (.string bytes, d) => bytes.length + uptoBulk d + 1
  | (_, d) => uptoBulk d + 1
 end
def uptoSmall : (H : Type) → List (DataW H) → Bool := fun _ ds => decide (uptoBulkAll ds ≤ 1048576)
def OpenSpec.upto (s : _root_.Go.ChangeSpec) : _root_.Go.OpenSpec := { _root_.Go.OpenSpec.ofChange s with cond := some uptoSmall }

/-- 'laws.FnExactGateBehind', WHERE WHAT IT READS IS OF BULK AT MOST 1048576: true; the input reads as it did. -/
def fnExactGateBehindUptoRow : OpenClaim := { program := "ytajifkbpjabciabdoor", sum := "a653f760318a54dbe80200a8d004dc1dade4a1ee064874fc56ed201603a89f63", func := "loop.example/g01344/laws.FnExactGateBehind", spec := "fnExactGateBehind", inPlace := ["internal/reflectlite.TypeOf"], unfollowed := true, recurses := true, named := ["loop.example/g01344/impl.errInvalid", "loop.example/g01344/impl.errRange", "loop.example/g01344/impl.errLimit", "loop.example/g01344/impl.errSyntax", "loop.example/g01344/impl.errNotFound"], ifaces := true, plainKeys := false, leaving := true, apart := false, laid := [("loop.example/g01344/impl.errInvalid", laid_loop_example_g01344_impl_errInvalid), ("loop.example/g01344/impl.errRange", laid_loop_example_g01344_impl_errRange), ("loop.example/g01344/impl.errLimit", laid_loop_example_g01344_impl_errLimit), ("loop.example/g01344/impl.errSyntax", laid_loop_example_g01344_impl_errSyntax), ("loop.example/g01344/impl.errNotFound", laid_loop_example_g01344_impl_errNotFound)], narrowed := true }
def FnExactGateBehindUptoSaid : Prop := fnExactGateBehindUptoRow.holds Tryd.pinned (OpenSpec.upto fnExactGateBehindSpec)

/-- 'laws.FnExactTickOnce', WHERE WHAT IT READS IS OF BULK AT MOST 1048576: true; the input reads as it did. -/
def fnExactTickOnceUptoRow : OpenClaim := { program := "ytajifkbpjabciabdoor", sum := "a653f760318a54dbe80200a8d004dc1dade4a1ee064874fc56ed201603a89f63", func := "loop.example/g01344/laws.FnExactTickOnce", spec := "fnExactTickOnce", inPlace := ["math.sqrt", "internal/reflectlite.TypeOf", "math.Float32bits"], unfollowed := true, recurses := true, named := ["loop.example/g01344/impl.errRange", "loop.example/g01344/impl.errLimit", "loop.example/g01344/impl.errInvalid", "loop.example/g01344/impl.errSyntax", "loop.example/g01344/impl.errNotFound"], ifaces := true, plainKeys := false, leaving := true, apart := false, laid := [("loop.example/g01344/impl.errInvalid", laid_loop_example_g01344_impl_errInvalid), ("loop.example/g01344/impl.errRange", laid_loop_example_g01344_impl_errRange), ("loop.example/g01344/impl.errLimit", laid_loop_example_g01344_impl_errLimit), ("loop.example/g01344/impl.errSyntax", laid_loop_example_g01344_impl_errSyntax), ("loop.example/g01344/impl.errNotFound", laid_loop_example_g01344_impl_errNotFound)], narrowed := true }
def FnExactTickOnceUptoSaid : Prop := fnExactTickOnceUptoRow.holds Tryd.pinned (OpenSpec.upto fnExactTickOnceSpec)

/-- 'laws.FnExactTickAll', WHERE WHAT IT READS IS OF BULK AT MOST 1048576: true; the input reads as it did. -/
def fnExactTickAllUptoRow : OpenClaim := { program := "ytajifkbpjabciabdoor", sum := "a653f760318a54dbe80200a8d004dc1dade4a1ee064874fc56ed201603a89f63", func := "loop.example/g01344/laws.FnExactTickAll", spec := "fnExactTickAll", inPlace := ["math.sqrt", "internal/reflectlite.TypeOf", "math.Float32bits"], unfollowed := true, recurses := true, named := ["loop.example/g01344/impl.errRange", "loop.example/g01344/impl.errLimit", "loop.example/g01344/impl.errInvalid", "loop.example/g01344/impl.errSyntax", "loop.example/g01344/impl.errNotFound"], ifaces := true, plainKeys := false, leaving := true, apart := false, laid := [("loop.example/g01344/impl.errInvalid", laid_loop_example_g01344_impl_errInvalid), ("loop.example/g01344/impl.errRange", laid_loop_example_g01344_impl_errRange), ("loop.example/g01344/impl.errLimit", laid_loop_example_g01344_impl_errLimit), ("loop.example/g01344/impl.errSyntax", laid_loop_example_g01344_impl_errSyntax), ("loop.example/g01344/impl.errNotFound", laid_loop_example_g01344_impl_errNotFound)], narrowed := true }
def FnExactTickAllUptoSaid : Prop := fnExactTickAllUptoRow.holds Tryd.pinned (OpenSpec.upto fnExactTickAllSpec)

/-- 'laws.FnExactWithinFrom', WHERE WHAT IT READS IS OF BULK AT MOST 1048576: true; the input reads as it did. -/
def fnExactWithinFromUptoRow : OpenClaim := { program := "ytajifkbpjabciabdoor", sum := "a653f760318a54dbe80200a8d004dc1dade4a1ee064874fc56ed201603a89f63", func := "loop.example/g01344/laws.FnExactWithinFrom", spec := "fnExactWithinFrom", inPlace := ["math.sqrt", "internal/reflectlite.TypeOf", "math.Float32bits"], unfollowed := true, recurses := true, named := ["loop.example/g01344/impl.errNotFound", "loop.example/g01344/impl.errRange", "loop.example/g01344/impl.errLimit", "loop.example/g01344/impl.errInvalid", "loop.example/g01344/impl.errSyntax"], ifaces := true, plainKeys := false, leaving := true, apart := false, laid := [("loop.example/g01344/impl.errInvalid", laid_loop_example_g01344_impl_errInvalid), ("loop.example/g01344/impl.errRange", laid_loop_example_g01344_impl_errRange), ("loop.example/g01344/impl.errLimit", laid_loop_example_g01344_impl_errLimit), ("loop.example/g01344/impl.errSyntax", laid_loop_example_g01344_impl_errSyntax), ("loop.example/g01344/impl.errNotFound", laid_loop_example_g01344_impl_errNotFound)], narrowed := true }
def FnExactWithinFromUptoSaid : Prop := fnExactWithinFromUptoRow.holds Tryd.pinned (OpenSpec.upto fnExactWithinFromSpec)

/-- 'laws.FnExactSteadyFrom', WHERE WHAT IT READS IS OF BULK AT MOST 1048576: true; the input reads as it did. -/
def fnExactSteadyFromUptoRow : OpenClaim := { program := "ytajifkbpjabciabdoor", sum := "a653f760318a54dbe80200a8d004dc1dade4a1ee064874fc56ed201603a89f63", func := "loop.example/g01344/laws.FnExactSteadyFrom", spec := "fnExactSteadyFrom", inPlace := ["math.sqrt", "math.Float32bits", "internal/reflectlite.TypeOf"], unfollowed := true, recurses := true, named := ["loop.example/g01344/impl.errNotFound", "loop.example/g01344/impl.errRange", "loop.example/g01344/impl.errLimit", "loop.example/g01344/impl.errInvalid", "loop.example/g01344/impl.errSyntax"], ifaces := true, plainKeys := false, leaving := true, apart := false, laid := [("loop.example/g01344/impl.errInvalid", laid_loop_example_g01344_impl_errInvalid), ("loop.example/g01344/impl.errRange", laid_loop_example_g01344_impl_errRange), ("loop.example/g01344/impl.errLimit", laid_loop_example_g01344_impl_errLimit), ("loop.example/g01344/impl.errSyntax", laid_loop_example_g01344_impl_errSyntax), ("loop.example/g01344/impl.errNotFound", laid_loop_example_g01344_impl_errNotFound)], narrowed := true }
def FnExactSteadyFromUptoSaid : Prop := fnExactSteadyFromUptoRow.holds Tryd.pinned (OpenSpec.upto fnExactSteadyFromSpec)

/-- 'laws.FnExactBestGate', WHERE WHAT IT READS IS OF BULK AT MOST 1048576: true; the input reads as it did. -/
def fnExactBestGateUptoRow : OpenClaim := { program := "ytajifkbpjabciabdoor", sum := "a653f760318a54dbe80200a8d004dc1dade4a1ee064874fc56ed201603a89f63", func := "loop.example/g01344/laws.FnExactBestGate", spec := "fnExactBestGate", inPlace := ["math.sqrt", "internal/reflectlite.TypeOf", "math.Float32bits"], unfollowed := true, recurses := true, named := ["loop.example/g01344/impl.errInvalid", "loop.example/g01344/impl.errRange", "loop.example/g01344/impl.errLimit", "loop.example/g01344/impl.errSyntax", "loop.example/g01344/impl.errNotFound"], ifaces := true, plainKeys := false, leaving := true, apart := false, laid := [("loop.example/g01344/impl.errInvalid", laid_loop_example_g01344_impl_errInvalid), ("loop.example/g01344/impl.errRange", laid_loop_example_g01344_impl_errRange), ("loop.example/g01344/impl.errLimit", laid_loop_example_g01344_impl_errLimit), ("loop.example/g01344/impl.errSyntax", laid_loop_example_g01344_impl_errSyntax), ("loop.example/g01344/impl.errNotFound", laid_loop_example_g01344_impl_errNotFound)], narrowed := true }
def FnExactBestGateUptoSaid : Prop := fnExactBestGateUptoRow.holds Tryd.pinned (OpenSpec.upto fnExactBestGateSpec)

/-- 'laws.FnExactLeastGate', WHERE WHAT IT READS IS OF BULK AT MOST 1048576: true; the input reads as it did. -/
def fnExactLeastGateUptoRow : OpenClaim := { program := "ytajifkbpjabciabdoor", sum := "a653f760318a54dbe80200a8d004dc1dade4a1ee064874fc56ed201603a89f63", func := "loop.example/g01344/laws.FnExactLeastGate", spec := "fnExactLeastGate", inPlace := ["math.sqrt", "internal/reflectlite.TypeOf", "math.Float32bits"], unfollowed := true, recurses := true, named := ["loop.example/g01344/impl.errNotFound", "loop.example/g01344/impl.errInvalid", "loop.example/g01344/impl.errRange", "loop.example/g01344/impl.errLimit", "loop.example/g01344/impl.errSyntax"], ifaces := true, plainKeys := false, leaving := true, apart := false, laid := [("loop.example/g01344/impl.errInvalid", laid_loop_example_g01344_impl_errInvalid), ("loop.example/g01344/impl.errRange", laid_loop_example_g01344_impl_errRange), ("loop.example/g01344/impl.errLimit", laid_loop_example_g01344_impl_errLimit), ("loop.example/g01344/impl.errSyntax", laid_loop_example_g01344_impl_errSyntax), ("loop.example/g01344/impl.errNotFound", laid_loop_example_g01344_impl_errNotFound)], narrowed := true }
def FnExactLeastGateUptoSaid : Prop := fnExactLeastGateUptoRow.holds Tryd.pinned (OpenSpec.upto fnExactLeastGateSpec)

/-- 'laws.FnExactMillText', WHERE WHAT IT READS IS OF BULK AT MOST 1048576: true; the input reads as it did. -/
def fnExactMillTextUptoRow : OpenClaim := { program := "ytajifkbpjabciabdoor", sum := "a653f760318a54dbe80200a8d004dc1dade4a1ee064874fc56ed201603a89f63", func := "loop.example/g01344/laws.FnExactMillText", spec := "fnExactMillText", inPlace := ["math.Float32bits", "internal/abi.NoEscape", "internal/bytealg.MakeNoZero"], recurses := true, named := ["internal/strconv.uint64pow10", "math/bits.deBruijn32tab", "math/bits.deBruijn64tab"], plainKeys := false, apart := false, laid := [("math/bits.deBruijn32tab", laid_math_bits_deBruijn32tab), ("math/bits.deBruijn64tab", laid_math_bits_deBruijn64tab), ("internal/strconv.uint64pow10", laid_internal_strconv_uint64pow10)], narrowed := true }
def FnExactMillTextUptoSaid : Prop := fnExactMillTextUptoRow.holds Tryd.pinned (OpenSpec.upto fnExactMillTextSpec)

end Rows
end Go.Proofs.YtajifkbpjabciabDoor
