/-
  Belts, without a program: what the functions of a belt answer, up to which NaN it is.
-/
import Derived.Test.YtjkgiknklkfipaaFlo
namespace Go.Proofs.Ytjkgiknklkfipaa
open Go
set_option linter.unusedVariables false
def oGe (x y : Nat) : Bool := FloatKind.f32.format.order x y == some .gt || FloatKind.f32.format.order x y == some .eq
def oLe (x y : Nat) : Bool := FloatKind.f32.format.order x y == some .lt || FloatKind.f32.format.order x y == some .eq
def oGt (x y : Nat) : Bool := FloatKind.f32.format.order x y == some .gt
def oLt (x y : Nat) : Bool := FloatKind.f32.format.order x y == some .lt
def oEq (x y : Nat) : Bool := FloatKind.f32.format.order x y == some .eq
theorem oGe_cn {x y x' y' : Nat} (hx : cn x = cn x') (hy : cn y = cn y') : oGe x y = oGe x' y' := by
  unfold oGe; rw [← order_cn x y, ← order_cn x' y', hx, hy]
theorem oLe_cn {x y x' y' : Nat} (hx : cn x = cn x') (hy : cn y = cn y') : oLe x y = oLe x' y' := by
  unfold oLe; rw [← order_cn x y, ← order_cn x' y', hx, hy]
theorem oGt_cn {x y x' y' : Nat} (hx : cn x = cn x') (hy : cn y = cn y') : oGt x y = oGt x' y' := by
  unfold oGt; rw [← order_cn x y, ← order_cn x' y', hx, hy]
theorem oLt_cn {x y x' y' : Nat} (hx : cn x = cn x') (hy : cn y = cn y') : oLt x y = oLt x' y' := by
  unfold oLt; rw [← order_cn x y, ← order_cn x' y', hx, hy]
theorem oEq_cn {x y x' y' : Nat} (hx : cn x = cn x') (hy : cn y = cn y') : oEq x y = oEq x' y' := by
  unfold oEq; rw [← order_cn x y, ← order_cn x' y', hx, hy]
/-- A belt, by its words. -/
structure Bl where
  a : Nat
  b : Nat
  ap : Nat
  g : Nat
  x : Bool
def radB (x : Nat) : Bool := oGe x 1031798784 && oLe x 1149239296
def sumC (B : Bl) : Nat := f2 .add (cn B.a) (cn B.b)
def fitB (B : Bl) : Bool := oGe B.ap (sumC B) && (oLe B.ap 1199570944 && (oGe B.g 0 && oLe B.g 1073741824))
def okB (B : Bl) : Bool := radB B.a && radB B.b && fitB B
def reachC (B : Bl) : Nat := if B.x then sumC B else if oGt B.b B.a then f2 .sub (cn B.b) (cn B.a) else f2 .sub (cn B.a) (cn B.b)
def halfC : Nat := cn 1078525952
def lenC (B : Bl) : Nat := f2 .add (f2 .add (f2 .mul (cn 1073741824) (cn B.ap)) (f2 .mul halfC (sumC B))) (f2 .quo (f2 .mul (reachC B) (reachC B)) (cn B.ap))
def slantC (B : Bl) : Nat := f2 .quo (f2 .mul (cn 1073741824) (reachC B)) (cn B.ap)
def wrapC (B : Bl) : Nat := if B.x then f2 .add halfC (slantC B) else f2 .sub halfC (slantC B)
def sqC (x : Nat) : Nat := f2 .mul x x
def sqN : Nat → Nat → Nat
  | 0, x => x
  | k + 1, x => sqC (sqN k x)
def gripZ (B : Bl) : Nat := f2 .add (cn 1065353216) (f2 .quo (f2 .mul (cn B.g) (wrapC B)) (cn 1098907648))
def gripC (B : Bl) : Nat := sqN 4 (gripZ B)
def pullC (B : Bl) (t : Nat) : Nat := f2 .sub (cn t) (f2 .quo (cn t) (gripC B))
def torqC (B : Bl) (t : Nat) : Nat := f2 .mul (pullC B t) (cn B.a)
def psB (x : Nat) : Bool := oGe x 0 && oLe x 1233125376
def plB (x : Nat) : Bool := oGe x 3380609024 && oLe x 1233125376
def codeP (B : Bl) (t m : Nat) : Int := if okB B then (if psB t && plB m then 0 else 2) else 1
def zeroIf (k : Int) (x : Nat) : Nat := if k = 0 then x else cn 0
def codeB (B : Bl) : Int := if okB B then 0 else 1
end Go.Proofs.Ytjkgiknklkfipaa
