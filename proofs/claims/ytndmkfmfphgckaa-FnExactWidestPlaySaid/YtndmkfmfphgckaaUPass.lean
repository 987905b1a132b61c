/-
  What one pair hands on: factor, speed, torque, part.
-/
import Derived.Test.YtndmkfmfphgckaaFlo
import Derived.Test.YtndmkfmfphgckaaULawsA
import Derived.WalkSmall
namespace Go.Proofs.Ytndmkfmfphgckaa
open Go.RowKit Go.ChangeShapes Go.WideShapes Go.Deep
set_option linter.unusedVariables false
set_option linter.unusedSimpArgs false
/-- The call returns one number, known up to which NaN it is, and turns nothing that was there. -/
def FB (c : Nat) (w : World) (e : Ending) (w' : World) : Prop := ∃ r, e = .returned (.float .f32 r) ∧ cn r = c ∧ Below w.heap.size w w'
def fwdC (p : Px) : Nat := f2 .quo (fint p.a) (fint p.b)
def bwdC (p : Px) : Nat := f2 .quo (fint p.b) (fint p.a)
def keptC (p : Px) : Nat := f2 .sub (cn 1065353216) (cn p.l)
def gFactor (p : Px) (x : Nat) : Nat := f2 .mul x (fwdC p)
def gSpeed (p : Px) (x : Nat) : Nat := fneg (f2 .mul x (fwdC p))
def gTorque (p : Px) (x : Nat) : Nat := fneg (f2 .mul (f2 .mul x (bwdC p)) (keptC p))
def gPart (p : Px) (x : Nat) : Nat := f2 .mul x (keptC p)
theorem forward_any (p : Px) (w : World) : Calls Try.prog 88 #[.agg #[.int .i16 p.a, .int .i16 p.b, .float .f32 p.l]] w (FB (fwdC p) w) := by
  go_enter Try.func88, Try.ntmps88
  go_wp2_with (refine wpList_f32 rfl _ _ _ _ _ _ _ rfl rfl rfl rfl ?_; intro r n hr; have Hr := Lib.hid hr; clear hr)
  go_ret
  refine ⟨r, rfl, ?_, below_drewN ((Below.refl _ _).alloc (Nat.le_refl _) _) _⟩
  rw [Hr.out, cn_fint, cn_fint]
  rfl
end Go.Proofs.Ytndmkfmfphgckaa
