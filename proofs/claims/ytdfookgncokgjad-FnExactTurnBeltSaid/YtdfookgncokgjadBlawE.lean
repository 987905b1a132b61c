/-
  The law of a belt that is turned.
-/
import Derived.Test.YtdfookgncokgjadBturn
import Derived.Test.YtdfookgncokgjadBeq
namespace Go.Proofs.Ytdfookgncokgjad
open Go.RowKit Go.ChangeShapes Go.WideShapes Go.Deep
attribute [local go_sem ↓] Go.wp_at_zero Go.wp_at_succ
set_option linter.unusedVariables false
set_option linter.unusedSimpArgs false
set_option maxRecDepth 100000 in
set_option maxHeartbeats 1000000 in
theorem walk_FnExactTurnBelt (B : Bl) (w : World) :
    Calls Try.prog 12 #[.agg #[.float .f32 B.a, .float .f32 B.b, .float .f32 B.ap, .float .f32 B.g, .bool B.x]] w fun e w' => e = .returned (.bool true) ∧ Below w.heap.size w w' := by
  have hE := fun W => eqBelt_same (bTurn B) W
  have hI := fun W => implTurn_any B W
  have hS := fun W => specTurn_any B W
  generalize bTurn B = C at *
  generalize codeB B = k at *
  have HE := Lib.hid hE; have HI := Lib.hid hI; have HS := Lib.hid hS
  clear hE hI hS
  go_enter Try.func12, Try.ntmps12
  go_wp2_with fail
  refine (toBelt_any B _).mono ?_
  rintro e w0 ⟨rfl, b0⟩
  have l0 := AtL.on (AtL.new w B) (by rfl) b0
  have B0 : Hid (Below w.heap.size w w0) := by first | exact b0 | exact b_then (b_alloc (Below.refl _ _) _) b0
  clear b0
  go_wp2_with fail
  refine (HS.out _).mono ?_
  rintro e w1 ⟨rfl, b1⟩
  have B1 : Hid (Below w.heap.size w w1) := b_then B0.out b1
  have l1 := AtL.on l0 (by rfl) b1
  clear b1 l0
  obtain ⟨c0, c1, c2, c3, c4⟩ := l1.cells
  have hlt : w.heap.size < w1.heap.size := l1.lt
  have a1 := Lib.hid (At.new w1 C)
  have l2 := Lib.hid (AtL.on l1 (w' := w1.alloc (.cells #[.float .f32 C.a, .float .f32 C.b, .float .f32 C.ap, .float .f32 C.g, .bool C.x] 27)) (by rfl) (b_alloc (Below.refl _ _) _))
  clear l1
  go_wp2_with fail
  clear c0 c1 c2 c3 c4 hlt
  refine (toBelt_any B _).mono ?_
  rintro e w2 ⟨rfl, b2⟩
  have B2 : Hid (Below w.heap.size w w2) := b_then (b_alloc B1.out _) b2
  have a2 := Lib.hid (At.on a1.out (by rfl) b2)
  clear b2
  go_wp2_with fail
  refine (HI.out _).mono ?_
  rintro e w3 ⟨rfl, b3⟩
  have B3 : Hid (Below w.heap.size w w3) := b_then B2.out b3
  have a3 := At.on a2.out (by rfl) b3
  clear b3
  obtain ⟨d0, d1, d2, d3, d4⟩ := a3.cells
  have hlt : w1.heap.size < w3.heap.size := a3.lt
  go_wp2_with fail
  refine (HE.out _).mono ?_
  rintro e w4 ⟨rfl, b4⟩
  have B4 : Hid (Below w.heap.size w w4) := b_then (b_alloc B3.out _) b4
  go_wp2
  go_ret
  exact ⟨rfl, B4.out⟩
end Go.Proofs.Ytdfookgncokgjad
