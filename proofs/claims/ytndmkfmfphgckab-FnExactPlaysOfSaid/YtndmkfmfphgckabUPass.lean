/-
  What one pair hands on: factor, speed, torque, part.
-/
import Derived.Test.YtndmkfmfphgckabFlo
import Derived.Test.YtndmkfmfphgckabULawsA
import Derived.WalkSmall
namespace Go.Proofs.Ytndmkfmfphgckab
open Go.RowKit Go.ChangeShapes Go.WideShapes Go.Deep
set_option linter.unusedVariables false
set_option linter.unusedSimpArgs false
/-- The call returns one number, known up to which NaN it is, and turns nothing that was there. -/
def FB (c : Nat) (w : World) (e : Ending) (w' : World) : Prop := ∃ r, e = .returned (.float .f32 r) ∧ cn r = c ∧ Below w.heap.size w w'
def fwdC (p : Px) : Nat := f2 .quo (fint p.a) (fint p.b)
def bwdC (p : Px) : Nat := f2 .quo (fint p.b) (fint p.a)
def keptC (p : Px) : Nat := f2 .sub (cn 1065353216) (cn p.l)
def gFactor (p : Px) (x : Nat) : Nat := f2 .mul x (fwdC p)
def gSpeed (p : Px) (x : Nat) : Nat := fneg (f2 .mul x (fwdC p))
def gTorque (p : Px) (x : Nat) : Nat := fneg (f2 .mul (f2 .mul x (bwdC p)) (keptC p))
def gPart (p : Px) (x : Nat) : Nat := f2 .mul x (keptC p)
end Go.Proofs.Ytndmkfmfphgckab
