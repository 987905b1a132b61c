/-
  The laws of a belt by value: length, angle, grip, pull, torque, validity.
-/
import Derived.Test.YtdfookgncokgjacBpull
import Derived.Test.YtdfookgncokgjacBeltIn
namespace Go.Proofs.Ytdfookgncokgjac
open Go.RowKit Go.ChangeShapes Go.WideShapes Go.Deep
attribute [local go_sem ↓] Go.wp_at_zero Go.wp_at_succ
set_option linter.unusedVariables false
set_option linter.unusedSimpArgs false
theorem implWrapOf_any (B : Bl) (w : World) : Calls Try.prog 25 #[.agg #[.float .f32 B.a, .float .f32 B.b, .float .f32 B.ap, .float .f32 B.g, .bool B.x]] w (RFC (zeroIf (codeB B) (wrapC B)) (codeB B) w) := by
  rcases Bool.eq_false_or_eq_true (okB B) with hk | hk
  · have e1 : codeB B = 0 := by simp [codeB, hk]
    rw [e1]
    clear e1
    go_enter Try.func25, Try.ntmps25
    go_wp2_with (first | (go_at_call 18; refine (validBelt_any _ _).mono ?_; rintro e w1 ⟨rfl, b1⟩; obtain ⟨c0, c1, c2, c3, c4⟩ := ((At.new w B).below b1).cells) | (go_at_call 45; refine (implWrap_any _ _).mono ?_; rintro e w2 ⟨r, rfl, hr, b2⟩))
    go_ret2
    refine ⟨_, rfl, hr, ?_⟩
    (repeat (first | exact Below.refl _ _ | refine b_drewN ?_ _ | refine b_drew ?_ | refine b_alloc ?_ _ | refine b_then ?_ (by assumption)))
  · have e1 : codeB B = 1 := by simp [codeB, hk]
    rw [e1]
    clear e1
    go_enter Try.func25, Try.ntmps25
    go_wp2_with (go_at_call 18; refine (validBelt_any _ _).mono ?_; rintro e w1 ⟨rfl, b1⟩)
    go_ret2
    refine ⟨_, rfl, rfl, ?_⟩
    (repeat (first | exact Below.refl _ _ | refine b_drewN ?_ _ | refine b_drew ?_ | refine b_alloc ?_ _ | refine b_then ?_ (by assumption)))
theorem specWrapOf_any (B : Bl) (w : World) : Calls Try.prog 24 #[.agg #[.float .f32 B.a, .float .f32 B.b, .float .f32 B.ap, .float .f32 B.g, .bool B.x]] w (RFC (zeroIf (codeB B) (wrapC B)) (codeB B) w) := by
  have h0 := At.new w B
  obtain ⟨c0, c1, c2, c3, c4⟩ := h0.cells
  have H0 := Lib.hid h0
  clear h0
  rcases Bool.eq_false_or_eq_true (okB B) with hk | hk
  · have e1 : codeB B = 0 := by simp [codeB, hk]
    rw [e1]
    clear e1
    go_enter Try.func24, Try.ntmps24
    go_wp2_with (first | (go_at_call 38; refine (l02Ok_any B _ _ c0 c1 c2 c3).mono ?_; rintro e w1 ⟨rfl, n1, rfl⟩) | (go_at_call 44; refine (specWrap_any B _ _ (H0.out.below (b_drewN (Below.refl _ _) _))).mono ?_; rintro e w2 ⟨r, rfl, hr, b2⟩))
    go_ret2
    refine ⟨_, rfl, hr, ?_⟩
    (repeat (first | exact Below.refl _ _ | refine b_drewN ?_ _ | refine b_drew ?_ | refine b_alloc ?_ _ | refine b_then ?_ (by assumption)))
  · have e1 : codeB B = 1 := by simp [codeB, hk]
    rw [e1]
    clear e1
    go_enter Try.func24, Try.ntmps24
    go_wp2_with (go_at_call 38; refine (l02Ok_any B _ _ c0 c1 c2 c3).mono ?_; rintro e w1 ⟨rfl, n1, rfl⟩)
    go_ret2
    refine ⟨_, rfl, rfl, ?_⟩
    (repeat (first | exact Below.refl _ _ | refine b_drewN ?_ _ | refine b_drew ?_ | refine b_alloc ?_ _ | refine b_then ?_ (by assumption)))
theorem implGripOf_any (B : Bl) (w : World) : Calls Try.prog 27 #[.agg #[.float .f32 B.a, .float .f32 B.b, .float .f32 B.ap, .float .f32 B.g, .bool B.x]] w (RFC (zeroIf (codeB B) (gripC B)) (codeB B) w) := by
  rcases Bool.eq_false_or_eq_true (okB B) with hk | hk
  · have e1 : codeB B = 0 := by simp [codeB, hk]
    rw [e1]
    clear e1
    go_enter Try.func27, Try.ntmps27
    go_wp2_with (first | (go_at_call 18; refine (validBelt_any _ _).mono ?_; rintro e w1 ⟨rfl, b1⟩; obtain ⟨c0, c1, c2, c3, c4⟩ := ((At.new w B).below b1).cells) | (go_at_call 47; refine (implGrip_any _ _).mono ?_; rintro e w2 ⟨r, rfl, hr, b2⟩))
    go_ret2
    refine ⟨_, rfl, hr, ?_⟩
    (repeat (first | exact Below.refl _ _ | refine b_drewN ?_ _ | refine b_drew ?_ | refine b_alloc ?_ _ | refine b_then ?_ (by assumption)))
  · have e1 : codeB B = 1 := by simp [codeB, hk]
    rw [e1]
    clear e1
    go_enter Try.func27, Try.ntmps27
    go_wp2_with (go_at_call 18; refine (validBelt_any _ _).mono ?_; rintro e w1 ⟨rfl, b1⟩)
    go_ret2
    refine ⟨_, rfl, rfl, ?_⟩
    (repeat (first | exact Below.refl _ _ | refine b_drewN ?_ _ | refine b_drew ?_ | refine b_alloc ?_ _ | refine b_then ?_ (by assumption)))
theorem specGripOf_any (B : Bl) (w : World) : Calls Try.prog 26 #[.agg #[.float .f32 B.a, .float .f32 B.b, .float .f32 B.ap, .float .f32 B.g, .bool B.x]] w (RFC (zeroIf (codeB B) (gripC B)) (codeB B) w) := by
  have h0 := At.new w B
  obtain ⟨c0, c1, c2, c3, c4⟩ := h0.cells
  have H0 := Lib.hid h0
  clear h0
  rcases Bool.eq_false_or_eq_true (okB B) with hk | hk
  · have e1 : codeB B = 0 := by simp [codeB, hk]
    rw [e1]
    clear e1
    go_enter Try.func26, Try.ntmps26
    go_wp2_with (first | (go_at_call 38; refine (l02Ok_any B _ _ c0 c1 c2 c3).mono ?_; rintro e w1 ⟨rfl, n1, rfl⟩) | (go_at_call 46; refine (specGrip_any B _ _ (H0.out.below (b_drewN (Below.refl _ _) _))).mono ?_; rintro e w2 ⟨r, rfl, hr, b2⟩))
    go_ret2
    refine ⟨_, rfl, hr, ?_⟩
    (repeat (first | exact Below.refl _ _ | refine b_drewN ?_ _ | refine b_drew ?_ | refine b_alloc ?_ _ | refine b_then ?_ (by assumption)))
  · have e1 : codeB B = 1 := by simp [codeB, hk]
    rw [e1]
    clear e1
    go_enter Try.func26, Try.ntmps26
    go_wp2_with (go_at_call 38; refine (l02Ok_any B _ _ c0 c1 c2 c3).mono ?_; rintro e w1 ⟨rfl, n1, rfl⟩)
    go_ret2
    refine ⟨_, rfl, rfl, ?_⟩
    (repeat (first | exact Below.refl _ _ | refine b_drewN ?_ _ | refine b_drew ?_ | refine b_alloc ?_ _ | refine b_then ?_ (by assumption)))
theorem specValidBelt_any (B : Bl) (w : World) : Calls Try.prog 16 #[.agg #[.float .f32 B.a, .float .f32 B.b, .float .f32 B.ap, .float .f32 B.g, .bool B.x]] w (RV (.bool (okB B)) w) := by
  obtain ⟨c0, c1, c2, c3, c4⟩ := (At.new w B).cells
  go_enter Try.func16, Try.ntmps16
  go_wp2_with (go_at_call 38; refine (l02Ok_any B _ _ c0 c1 c2 c3).mono ?_; rintro e w1 ⟨rfl, n1, rfl⟩)
  go_ret
  refine ⟨rfl, ?_⟩
  (repeat (first | exact Below.refl _ _ | refine b_drewN ?_ _ | refine b_drew ?_ | refine b_alloc ?_ _ | refine b_then ?_ (by assumption)))
def AtL (w : World) (q : Nat) (B : Bl) : Prop := w.heap[q]? = some (.cells #[.float .f32 B.a, .float .f32 B.b, .float .f32 B.ap, .float .f32 B.g, .bool B.x] 33 (0, 0))
theorem AtL.lt {w : World} {q : Nat} {B : Bl} (h : AtL w q B) : q < w.heap.size := by
  rcases Nat.lt_or_ge q w.heap.size with hlt | hge
  · exact hlt
  · unfold AtL at h; rw [Array.getElem?_eq_none hge] at h; cases h
theorem AtL.on {w W w' : World} {q : Nat} {B : Bl} (h : AtL w q B) (hW : W.heap = w.heap) (b : Below W.heap.size W w') : AtL w' q B := (b.block q (by rw [hW]; exact h.lt)).trans (by rw [hW]; exact h)
theorem AtL.new (w : World) (B : Bl) : AtL (w.alloc (.cells #[.float .f32 B.a, .float .f32 B.b, .float .f32 B.ap, .float .f32 B.g, .bool B.x] 33)) w.heap.size B := heap_alloc_new w _
theorem AtL.cells {w : World} {q : Nat} {B : Bl} (h : AtL w q B) : w.cell? ⟨q, 0, none⟩ = some (.float .f32 B.a) ∧ w.cell? ⟨q, 1, none⟩ = some (.float .f32 B.b) ∧ w.cell? ⟨q, 2, none⟩ = some (.float .f32 B.ap) ∧ w.cell? ⟨q, 3, none⟩ = some (.float .f32 B.g) ∧ w.cell? ⟨q, 4, none⟩ = some (.bool B.x) :=
  ⟨cell_of_row _ _ 0 _ _ _ h, cell_of_row _ _ 1 _ _ _ h, cell_of_row _ _ 2 _ _ _ h, cell_of_row _ _ 3 _ _ _ h, cell_of_row _ _ 4 _ _ _ h⟩
theorem toBelt_any (B : Bl) (w : World) : Calls Try.prog 17 #[.agg #[.float .f32 B.a, .float .f32 B.b, .float .f32 B.ap, .float .f32 B.g, .bool B.x]] w (RV (.agg #[.float .f32 B.a, .float .f32 B.b, .float .f32 B.ap, .float .f32 B.g, .bool B.x]) w) := by
  go_enter Try.func17, Try.ntmps17
  go_wp2
  refine bodyPost_ret (v := .agg #[.float .f32 B.a, .float .f32 B.b, .float .f32 B.ap, .float .f32 B.g, .bool B.x]) (by simp [results, Try.results17, go_sem]) rfl ⟨rfl, ?_⟩
  (repeat (first | exact Below.refl _ _ | refine b_drewN ?_ _ | refine b_drew ?_ | refine b_alloc ?_ _ | refine b_then ?_ (by assumption)))
set_option maxRecDepth 100000 in
theorem walk_FnExactLengthOf (B : Bl) (w : World) :
    Calls Try.prog 6 #[.agg #[.float .f32 B.a, .float .f32 B.b, .float .f32 B.ap, .float .f32 B.g, .bool B.x]] w fun e w' => e = .returned (.bool true) ∧ Below w.heap.size w w' := by
  go_enter Try.func6, Try.ntmps6
  go_wp2_with fail
  refine (toBelt_any B _).mono ?_
  rintro e w0 ⟨rfl, b0⟩
  have l0 := AtL.on (AtL.new w B) (by rfl) b0
  have B0 : Hid (Below w.heap.size w w0) := by first | exact b0 | exact b_then (b_alloc (Below.refl _ _) _) b0
  clear b0
  go_wp2_with fail
  refine (specLengthOf_any B _).mono ?_
  rintro e w1 ⟨r1, rfl, h1, b1⟩
  have H1 := Lib.hid h1; clear h1
  have B1 : Hid (Below w.heap.size w w1) := b_then B0.out b1
  have l1 := AtL.on l0 (by rfl) b1
  clear b1
  obtain ⟨c0, c1, c2, c3, c4⟩ := l1.cells
  clear l0 l1
  go_wp2_with fail
  refine (toBelt_any B _).mono ?_
  rintro e w2 ⟨rfl, b2⟩
  clear c0 c1 c2 c3 c4
  have B2 : Hid (Below w.heap.size w w2) := b_then B1.out b2
  clear b2
  go_wp2_with fail
  refine (implLengthOf_any B _).mono ?_
  rintro e w3 ⟨r3, rfl, h3, b3⟩
  have H3 := Lib.hid h3; clear h3
  have B3 : Hid (Below w.heap.size w w3) := b_then B2.out b3
  clear b3
  rcases cnx (H3.out.trans H1.out.symm) with ⟨hn2, hn1⟩ | ⟨hnn, he12⟩
  · have q1 := fun w => run_nan_wide (P := Try.prog) w 31 43 r1 (by rw [Try.underlying31]; rfl) Try.underlying43 hn1
    have q2 := fun w => run_nan_wide (P := Try.prog) w 31 43 r3 (by rw [Try.underlying31]; rfl) Try.underlying43 hn2
    clear hn1 hn2
    go_wp2_with (go_at_call 23; refine (sf_nan _ _ _ (nanTo_nan _ _) (nanTo_nan _ _)).mono ?_; rintro e w' ⟨rfl, rfl⟩)
    go_ret
    exact ⟨rfl, by first | exact B3.out.drew.drew | exact b_drewN B3.out _⟩
  · subst he12
    have q1 := fun w => run_wide (P := Try.prog) w 31 43 r3 (by rw [Try.underlying31]; rfl) Try.underlying43 hnn
    have q3 := (wide_some hnn).2
    clear hnn
    go_wp2_with (go_at_call 23; refine (sf_eq _ _ q3).mono ?_; rintro e w' ⟨rfl, rfl⟩)
    go_ret
    exact ⟨rfl, B3.out⟩
set_option maxRecDepth 100000 in
theorem walk_FnExactWrapOf (B : Bl) (w : World) :
    Calls Try.prog 7 #[.agg #[.float .f32 B.a, .float .f32 B.b, .float .f32 B.ap, .float .f32 B.g, .bool B.x]] w fun e w' => e = .returned (.bool true) ∧ Below w.heap.size w w' := by
  go_enter Try.func7, Try.ntmps7
  go_wp2_with fail
  refine (toBelt_any B _).mono ?_
  rintro e w0 ⟨rfl, b0⟩
  have l0 := AtL.on (AtL.new w B) (by rfl) b0
  have B0 : Hid (Below w.heap.size w w0) := by first | exact b0 | exact b_then (b_alloc (Below.refl _ _) _) b0
  clear b0
  go_wp2_with fail
  refine (specWrapOf_any B _).mono ?_
  rintro e w1 ⟨r1, rfl, h1, b1⟩
  have H1 := Lib.hid h1; clear h1
  have B1 : Hid (Below w.heap.size w w1) := b_then B0.out b1
  have l1 := AtL.on l0 (by rfl) b1
  clear b1
  obtain ⟨c0, c1, c2, c3, c4⟩ := l1.cells
  clear l0 l1
  go_wp2_with fail
  refine (toBelt_any B _).mono ?_
  rintro e w2 ⟨rfl, b2⟩
  clear c0 c1 c2 c3 c4
  have B2 : Hid (Below w.heap.size w w2) := b_then B1.out b2
  clear b2
  go_wp2_with fail
  refine (implWrapOf_any B _).mono ?_
  rintro e w3 ⟨r3, rfl, h3, b3⟩
  have H3 := Lib.hid h3; clear h3
  have B3 : Hid (Below w.heap.size w w3) := b_then B2.out b3
  clear b3
  rcases cnx (H3.out.trans H1.out.symm) with ⟨hn2, hn1⟩ | ⟨hnn, he12⟩
  · have q1 := fun w => run_nan_wide (P := Try.prog) w 31 43 r1 (by rw [Try.underlying31]; rfl) Try.underlying43 hn1
    have q2 := fun w => run_nan_wide (P := Try.prog) w 31 43 r3 (by rw [Try.underlying31]; rfl) Try.underlying43 hn2
    clear hn1 hn2
    go_wp2_with (go_at_call 23; refine (sf_nan _ _ _ (nanTo_nan _ _) (nanTo_nan _ _)).mono ?_; rintro e w' ⟨rfl, rfl⟩)
    go_ret
    exact ⟨rfl, by first | exact B3.out.drew.drew | exact b_drewN B3.out _⟩
  · subst he12
    have q1 := fun w => run_wide (P := Try.prog) w 31 43 r3 (by rw [Try.underlying31]; rfl) Try.underlying43 hnn
    have q3 := (wide_some hnn).2
    clear hnn
    go_wp2_with (go_at_call 23; refine (sf_eq _ _ q3).mono ?_; rintro e w' ⟨rfl, rfl⟩)
    go_ret
    exact ⟨rfl, B3.out⟩
set_option maxRecDepth 100000 in
theorem walk_FnExactGripOf (B : Bl) (w : World) :
    Calls Try.prog 8 #[.agg #[.float .f32 B.a, .float .f32 B.b, .float .f32 B.ap, .float .f32 B.g, .bool B.x]] w fun e w' => e = .returned (.bool true) ∧ Below w.heap.size w w' := by
  go_enter Try.func8, Try.ntmps8
  go_wp2_with fail
  refine (toBelt_any B _).mono ?_
  rintro e w0 ⟨rfl, b0⟩
  have l0 := AtL.on (AtL.new w B) (by rfl) b0
  have B0 : Hid (Below w.heap.size w w0) := by first | exact b0 | exact b_then (b_alloc (Below.refl _ _) _) b0
  clear b0
  go_wp2_with fail
  refine (specGripOf_any B _).mono ?_
  rintro e w1 ⟨r1, rfl, h1, b1⟩
  have H1 := Lib.hid h1; clear h1
  have B1 : Hid (Below w.heap.size w w1) := b_then B0.out b1
  have l1 := AtL.on l0 (by rfl) b1
  clear b1
  obtain ⟨c0, c1, c2, c3, c4⟩ := l1.cells
  clear l0 l1
  go_wp2_with fail
  refine (toBelt_any B _).mono ?_
  rintro e w2 ⟨rfl, b2⟩
  clear c0 c1 c2 c3 c4
  have B2 : Hid (Below w.heap.size w w2) := b_then B1.out b2
  clear b2
  go_wp2_with fail
  refine (implGripOf_any B _).mono ?_
  rintro e w3 ⟨r3, rfl, h3, b3⟩
  have H3 := Lib.hid h3; clear h3
  have B3 : Hid (Below w.heap.size w w3) := b_then B2.out b3
  clear b3
  rcases cnx (H3.out.trans H1.out.symm) with ⟨hn2, hn1⟩ | ⟨hnn, he12⟩
  · have q1 := fun w => run_nan_wide (P := Try.prog) w 31 43 r1 (by rw [Try.underlying31]; rfl) Try.underlying43 hn1
    have q2 := fun w => run_nan_wide (P := Try.prog) w 31 43 r3 (by rw [Try.underlying31]; rfl) Try.underlying43 hn2
    clear hn1 hn2
    go_wp2_with (go_at_call 23; refine (sf_nan _ _ _ (nanTo_nan _ _) (nanTo_nan _ _)).mono ?_; rintro e w' ⟨rfl, rfl⟩)
    go_ret
    exact ⟨rfl, by first | exact B3.out.drew.drew | exact b_drewN B3.out _⟩
  · subst he12
    have q1 := fun w => run_wide (P := Try.prog) w 31 43 r3 (by rw [Try.underlying31]; rfl) Try.underlying43 hnn
    have q3 := (wide_some hnn).2
    clear hnn
    go_wp2_with (go_at_call 23; refine (sf_eq _ _ q3).mono ?_; rintro e w' ⟨rfl, rfl⟩)
    go_ret
    exact ⟨rfl, B3.out⟩
set_option maxRecDepth 100000 in
theorem walk_FnExactPullOf (B : Bl) (t : Nat) (wt : (Lit.float .f32 t).wf = true) (w : World) :
    Calls Try.prog 9 #[.agg #[.float .f32 B.a, .float .f32 B.b, .float .f32 B.ap, .float .f32 B.g, .bool B.x], .float .f32 t] w fun e w' => e = .returned (.bool true) ∧ Below w.heap.size w w' := by
  go_enter Try.func9, Try.ntmps9
  go_wp2_with fail
  refine (toBelt_any B _).mono ?_
  rintro e w0 ⟨rfl, b0⟩
  have l0 := AtL.on (AtL.new w B) (by rfl) b0
  have B0 : Hid (Below w.heap.size w w0) := by first | exact b0 | exact b_then (b_alloc (Below.refl _ _) _) b0
  clear b0
  go_wp2_with fail
  refine (specPullOf_any B t _).mono ?_
  rintro e w1 ⟨r1, rfl, h1, b1⟩
  have H1 := Lib.hid h1; clear h1
  have B1 : Hid (Below w.heap.size w w1) := b_then B0.out b1
  have l1 := AtL.on l0 (by rfl) b1
  clear b1
  obtain ⟨c0, c1, c2, c3, c4⟩ := l1.cells
  clear l0 l1
  go_wp2_with fail
  refine (toBelt_any B _).mono ?_
  rintro e w2 ⟨rfl, b2⟩
  clear c0 c1 c2 c3 c4
  have B2 : Hid (Below w.heap.size w w2) := b_then B1.out b2
  clear b2
  go_wp2_with fail
  refine (implPullOf_any B t _).mono ?_
  rintro e w3 ⟨r3, rfl, h3, b3⟩
  have H3 := Lib.hid h3; clear h3
  have B3 : Hid (Below w.heap.size w w3) := b_then B2.out b3
  clear b3
  rcases cnx (H3.out.trans H1.out.symm) with ⟨hn2, hn1⟩ | ⟨hnn, he12⟩
  · have q1 := fun w => run_nan_wide (P := Try.prog) w 31 43 r1 (by rw [Try.underlying31]; rfl) Try.underlying43 hn1
    have q2 := fun w => run_nan_wide (P := Try.prog) w 31 43 r3 (by rw [Try.underlying31]; rfl) Try.underlying43 hn2
    clear hn1 hn2
    go_wp2_with (go_at_call 23; refine (sf_nan _ _ _ (nanTo_nan _ _) (nanTo_nan _ _)).mono ?_; rintro e w' ⟨rfl, rfl⟩)
    go_ret
    exact ⟨rfl, by first | exact B3.out.drew.drew | exact b_drewN B3.out _⟩
  · subst he12
    have q1 := fun w => run_wide (P := Try.prog) w 31 43 r3 (by rw [Try.underlying31]; rfl) Try.underlying43 hnn
    have q3 := (wide_some hnn).2
    clear hnn
    go_wp2_with (go_at_call 23; refine (sf_eq _ _ q3).mono ?_; rintro e w' ⟨rfl, rfl⟩)
    go_ret
    exact ⟨rfl, B3.out⟩
set_option maxRecDepth 100000 in
theorem walk_FnExactTorqueOf (B : Bl) (t : Nat) (wt : (Lit.float .f32 t).wf = true) (w : World) :
    Calls Try.prog 10 #[.agg #[.float .f32 B.a, .float .f32 B.b, .float .f32 B.ap, .float .f32 B.g, .bool B.x], .float .f32 t] w fun e w' => e = .returned (.bool true) ∧ Below w.heap.size w w' := by
  go_enter Try.func10, Try.ntmps10
  go_wp2_with fail
  refine (toBelt_any B _).mono ?_
  rintro e w0 ⟨rfl, b0⟩
  have l0 := AtL.on (AtL.new w B) (by rfl) b0
  have B0 : Hid (Below w.heap.size w w0) := by first | exact b0 | exact b_then (b_alloc (Below.refl _ _) _) b0
  clear b0
  go_wp2_with fail
  refine (specTorqueOf_any B t _).mono ?_
  rintro e w1 ⟨r1, rfl, h1, b1⟩
  have H1 := Lib.hid h1; clear h1
  have B1 : Hid (Below w.heap.size w w1) := b_then B0.out b1
  have l1 := AtL.on l0 (by rfl) b1
  clear b1
  obtain ⟨c0, c1, c2, c3, c4⟩ := l1.cells
  clear l0 l1
  go_wp2_with fail
  refine (toBelt_any B _).mono ?_
  rintro e w2 ⟨rfl, b2⟩
  clear c0 c1 c2 c3 c4
  have B2 : Hid (Below w.heap.size w w2) := b_then B1.out b2
  clear b2
  go_wp2_with fail
  refine (implTorqueOf_any B t _).mono ?_
  rintro e w3 ⟨r3, rfl, h3, b3⟩
  have H3 := Lib.hid h3; clear h3
  have B3 : Hid (Below w.heap.size w w3) := b_then B2.out b3
  clear b3
  rcases cnx (H3.out.trans H1.out.symm) with ⟨hn2, hn1⟩ | ⟨hnn, he12⟩
  · have q1 := fun w => run_nan_wide (P := Try.prog) w 31 43 r1 (by rw [Try.underlying31]; rfl) Try.underlying43 hn1
    have q2 := fun w => run_nan_wide (P := Try.prog) w 31 43 r3 (by rw [Try.underlying31]; rfl) Try.underlying43 hn2
    clear hn1 hn2
    go_wp2_with (go_at_call 23; refine (sf_nan _ _ _ (nanTo_nan _ _) (nanTo_nan _ _)).mono ?_; rintro e w' ⟨rfl, rfl⟩)
    go_ret
    exact ⟨rfl, by first | exact B3.out.drew.drew | exact b_drewN B3.out _⟩
  · subst he12
    have q1 := fun w => run_wide (P := Try.prog) w 31 43 r3 (by rw [Try.underlying31]; rfl) Try.underlying43 hnn
    have q3 := (wide_some hnn).2
    clear hnn
    go_wp2_with (go_at_call 23; refine (sf_eq _ _ q3).mono ?_; rintro e w' ⟨rfl, rfl⟩)
    go_ret
    exact ⟨rfl, B3.out⟩
set_option maxRecDepth 100000 in
theorem walk_FnExactValidBelt (B : Bl) (w : World) :
    Calls Try.prog 4 #[.agg #[.float .f32 B.a, .float .f32 B.b, .float .f32 B.ap, .float .f32 B.g, .bool B.x]] w fun e w' => e = .returned (.bool true) ∧ Below w.heap.size w w' := by
  go_enter Try.func4, Try.ntmps4
  go_wp2_with fail
  refine (toBelt_any B _).mono ?_
  rintro e w0 ⟨rfl, b0⟩
  have l0 := AtL.on (AtL.new w B) (by rfl) b0
  have B0 : Hid (Below w.heap.size w w0) := by first | exact b0 | exact b_then (b_alloc (Below.refl _ _) _) b0
  clear b0
  go_wp2_with fail
  refine (specValidBelt_any B _).mono ?_
  rintro e w1 ⟨rfl, b1⟩
  have B1 : Hid (Below w.heap.size w w1) := b_then B0.out b1
  have l1 := AtL.on l0 (by rfl) b1
  clear b1
  obtain ⟨c0, c1, c2, c3, c4⟩ := l1.cells
  clear l0 l1
  go_wp2_with fail
  refine (toBelt_any B _).mono ?_
  rintro e w2 ⟨rfl, b2⟩
  clear c0 c1 c2 c3 c4
  have B2 : Hid (Below w.heap.size w w2) := b_then B1.out b2
  clear b2
  go_wp2_with fail
  refine (validBelt_any B _).mono ?_
  rintro e w3 ⟨rfl, b3⟩
  have B3 : Hid (Below w.heap.size w w3) := b_then B2.out b3
  clear b3
  go_wp2
  go_ret
  exact ⟨rfl, B3.out⟩
end Go.Proofs.Ytdfookgncokgjac
