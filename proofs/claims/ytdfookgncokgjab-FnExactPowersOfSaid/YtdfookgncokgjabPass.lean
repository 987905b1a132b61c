/-
  What one pair hands on: factor, speed, torque, part.
-/
import Derived.Test.YtdfookgncokgjabFlo
import Derived.Test.YtdfookgncokgjabLawsA
import Derived.WalkSmall
namespace Go.Proofs.Ytdfookgncokgjab
open Go.RowKit Go.ChangeShapes Go.WideShapes Go.Deep
set_option linter.unusedVariables false
set_option linter.unusedSimpArgs false
/-- The call returns one number, known up to which NaN it is, and turns nothing that was there. -/
def FB (c : Nat) (w : World) (e : Ending) (w' : World) : Prop := ∃ r, e = .returned (.float .f32 r) ∧ cn r = c ∧ Below w.heap.size w w'
def fwdC (p : Pr) : Nat := f2 .quo (fint p.a) (fint p.b)
def bwdC (p : Pr) : Nat := f2 .quo (fint p.b) (fint p.a)
def keptC (p : Pr) : Nat := f2 .sub (cn 1065353216) (cn p.l)
def gFactor (p : Pr) (x : Nat) : Nat := f2 .mul x (fwdC p)
def gSpeed (p : Pr) (x : Nat) : Nat := fneg (f2 .mul x (fwdC p))
def gTorque (p : Pr) (x : Nat) : Nat := fneg (f2 .mul (f2 .mul x (bwdC p)) (keptC p))
def gPart (p : Pr) (x : Nat) : Nat := f2 .mul x (keptC p)
theorem forward_any (p : Pr) (w : World) : Calls Try.prog 82 #[.agg #[.int .i16 p.a, .int .i16 p.b, .float .f32 p.l]] w (FB (fwdC p) w) := by
  go_enter Try.func82, Try.ntmps82
  go_wp2_with (refine wpList_f32 rfl _ _ _ _ _ _ _ rfl rfl rfl rfl ?_; intro r n hr; have Hr := Lib.hid hr; clear hr)
  go_ret
  refine ⟨r, rfl, ?_, below_drewN ((Below.refl _ _).alloc (Nat.le_refl _) _) _⟩
  rw [Hr.out, cn_fint, cn_fint]
  rfl
theorem backward_any (p : Pr) (w : World) : Calls Try.prog 83 #[.agg #[.int .i16 p.a, .int .i16 p.b, .float .f32 p.l]] w (FB (bwdC p) w) := by
  go_enter Try.func83, Try.ntmps83
  go_wp2_with (refine wpList_f32 rfl _ _ _ _ _ _ _ rfl rfl rfl rfl ?_; intro r n hr; have Hr := Lib.hid hr; clear hr)
  go_ret
  refine ⟨r, rfl, ?_, below_drewN ((Below.refl _ _).alloc (Nat.le_refl _) _) _⟩
  rw [Hr.out, cn_fint, cn_fint]
  rfl
theorem kept_any (p : Pr) (w : World) : Calls Try.prog 84 #[.agg #[.int .i16 p.a, .int .i16 p.b, .float .f32 p.l]] w (FB (keptC p) w) := by
  go_enter Try.func84, Try.ntmps84
  go_wp2_with (refine wpList_f32 rfl _ _ _ _ _ _ _ rfl rfl rfl rfl ?_; intro r n hr; have Hr := Lib.hid hr; clear hr)
  go_ret
  exact ⟨r, rfl, Hr.out, below_drewN ((Below.refl _ _).alloc (Nat.le_refl _) _) _⟩
theorem passSpeed_any (p : Pr) (x : Nat) (w : World) : Calls Try.prog 56 #[.agg #[.int .i16 p.a, .int .i16 p.b, .float .f32 p.l], .float .f32 x] w (FB (gSpeed p (cn x)) w) := by
  go_enter Try.func56, Try.ntmps56
  go_wp2_with (first | (go_at_call 82; refine (forward_any _ _).mono ?_; rintro e w1 ⟨r1, rfl, h1, b1⟩; have H1 := Lib.hid h1; have B1 := Lib.hid b1; clear h1 b1) | (refine wpList_f32 rfl _ _ _ _ _ _ _ rfl rfl rfl rfl ?_; intro r n hr; have Hr := Lib.hid hr; clear hr))
  go_ret
  refine ⟨Op.negFloat .f32 r, rfl, by rw [cn_neg, Hr.out, H1.out]; rfl, below_drewN (((Below.refl _ _).alloc (Nat.le_refl _) _).trans (B1.out.mono (by simp))) _⟩
theorem passPart_any (p : Pr) (x : Nat) (w : World) : Calls Try.prog 61 #[.agg #[.int .i16 p.a, .int .i16 p.b, .float .f32 p.l], .float .f32 x] w (FB (gPart p (cn x)) w) := by
  go_enter Try.func61, Try.ntmps61
  go_wp2_with (first | (go_at_call 84; refine (kept_any _ _).mono ?_; rintro e w1 ⟨r1, rfl, h1, b1⟩; have H1 := Lib.hid h1; have B1 := Lib.hid b1; clear h1 b1) | (refine wpList_f32 rfl _ _ _ _ _ _ _ rfl rfl rfl rfl ?_; intro r n hr; have Hr := Lib.hid hr; clear hr))
  go_ret
  refine ⟨r, rfl, by rw [Hr.out, H1.out]; rfl, below_drewN (((Below.refl _ _).alloc (Nat.le_refl _) _).trans (B1.out.mono (by simp))) _⟩
theorem passTorque_any (p : Pr) (x : Nat) (w : World) : Calls Try.prog 58 #[.agg #[.int .i16 p.a, .int .i16 p.b, .float .f32 p.l], .float .f32 x] w (FB (gTorque p (cn x)) w) := by
  go_enter Try.func58, Try.ntmps58
  go_wp2_with fail
  refine (backward_any _ _).mono ?_
  rintro e w1 ⟨r1, rfl, h1, b1⟩
  have H1 := Lib.hid h1; clear h1
  have hbk : w1.heap[w.heap.size]? = some (.cells #[.int .i16 p.a, .int .i16 p.b, .float .f32 p.l] 59 (0, 0)) := (b1.block w.heap.size (by simp)).trans (heap_alloc_new w _)
  have c0 : w1.cell? ⟨w.heap.size, 0, none⟩ = some (.int .i16 p.a) := cell_of_row _ _ 0 _ _ _ hbk
  have c1 : w1.cell? ⟨w.heap.size, 1, none⟩ = some (.int .i16 p.b) := cell_of_row _ _ 1 _ _ _ hbk
  have c2 : w1.cell? ⟨w.heap.size, 2, none⟩ = some (.float .f32 p.l) := cell_of_row _ _ 2 _ _ _ hbk
  have B1 := Lib.hid b1; clear b1 hbk
  go_wp2_with (first | (go_at_call 84; refine (kept_any _ _).mono ?_; rintro e w2 ⟨r2, rfl, h2, b2⟩; have H2 := Lib.hid h2; have B2 := Lib.hid b2; clear h2 b2) | (refine wpList_f32 rfl _ _ _ _ _ _ _ rfl rfl rfl rfl ?_; intro r n hr; have Hr := Lib.hid hr; clear hr))
  rename_i r3 n3 H3
  go_ret
  refine ⟨Op.negFloat .f32 r, rfl, ?_, below_drewN ((below_drewN (((Below.refl _ _).alloc (Nat.le_refl _) _).trans (B1.out.mono (by simp))) _).trans (B2.out.mono ?_)) _⟩
  · rw [cn_neg, Hr.out, H2.out, H3.out, H1.out]
    rfl
  · have := B1.out.size
    simp at this ⊢
    omega
end Go.Proofs.Ytdfookgncokgjab
