/-
  Complex numbers: what a conversion to the wider kind gives, and the laws' comparison of two that are one up to which NaN their parts are.
-/
import Derived.Test.YtdbcblfinflieaaDoorOps
import Derived.Laws.ComplexArith
import Derived.Laws.Cover3
namespace Go.Proofs.YtdbcblfinflieaaDoor
open Go.RowKit Go.ChangeShapes Go.WideShapes Go.Deep
set_option linter.unusedVariables false
set_option linter.unusedSimpArgs false
/-- The word behind one part's conversion, and whether it draws. -/
def cvt (w : World) (a : Nat) : Nat := if nan32 a = true then nanTo w a else wide a
def cvd (a : Nat) : Nat := if nan32 a = true then 1 else 0
theorem run_cvt {P : Program} (w : World) (a : Nat) : (Conv.floatToFloat .f32 a .f64).run P w = .ok (.float .f64 (cvt w a)) (w.drewN (cvd a)) := by
  unfold cvt cvd
  cases h : nan32 a
  · rw [if_neg (by simp), if_neg (by simp)]
    exact run_floatToFloat w (wide_some h).1
  · rw [if_pos rfl, if_pos rfl]
    cases hq : FloatKind.f32.decode a with
    | nan s f =>
      simp [Conv.floatToFloat, hq, nanTo, choose]
      rfl
    | infinity s => unfold nan32 at h; rw [hq] at h; simp [Ieee.Datum.isNaN] at h
    | number s m e => unfold nan32 at h; rw [hq] at h; simp [Ieee.Datum.isNaN] at h
theorem run_wideC {P : Program} (w : World) (src dst : TypeId) (a b : Nat) (hs : (P.underlying src).isSome = true) (hd : P.underlying dst = some (.complex .f64)) :
    (convert src dst (.complex .f32 a b)).run P w = .ok (.complex .f64 (cvt w a) (cvt (w.drewN (cvd a)) b)) (w.drewN (cvd a + cvd b)) := by
  obtain ⟨u, hs'⟩ := Option.isSome_iff_exists.1 hs
  cases u <;> simp [convert, run_underlying hs', run_underlying hd, Conv.complexToComplex, run_cvt]
theorem sf_cvt {a a' : Nat} (h : cn a = cn a') (w w2 W : World) : Calls Tryd.prog 25 #[.float .f64 (cvt w a), .float .f64 (cvt w2 a')] W fun e w' => e = .returned (.bool true) ∧ W = w' := by
  unfold cvt
  rcases cnx h with ⟨hx, hy⟩ | ⟨hx, rfl⟩
  · rw [if_pos hx, if_pos hy]
    exact sf_nan _ _ _ (nanTo_nan _ _) (nanTo_nan _ _)
  · rw [if_neg (by simp [hx]), if_neg (by simp [hx])]
    exact sf_eq _ _ (wide_some hx).2
set_option maxRecDepth 100000 in
theorem sc_cvt {a a' b b' : Nat} (h : cn a = cn a') (k : cn b = cn b') (w w2 u u2 W : World) : Calls Tryd.prog 7 #[.complex .f64 (cvt w a) (cvt u b), .complex .f64 (cvt w2 a') (cvt u2 b')] W fun e w' => e = .returned (.bool true) ∧ W = w' := by
  have c1 := fun W => sf_cvt h w w2 W
  have c2 := fun W => sf_cvt k u u2 W
  generalize cvt w a = x at *
  generalize cvt w2 a' = x' at *
  generalize cvt u b = y at *
  generalize cvt u2 b' = y' at *
  clear h k
  go_enter Tryd.func7, Tryd.ntmps7
  go_wp2_with (first | (go_at_call 25; (with_reducible refine (c1 _).mono ?_); rintro e w1 ⟨rfl, rfl⟩) | (go_at_call 25; (with_reducible refine (c2 _).mono ?_); rintro e w1 ⟨rfl, rfl⟩))
  go_ret
  exact ⟨rfl, rfl⟩
end Go.Proofs.YtdbcblfinflieaaDoor
