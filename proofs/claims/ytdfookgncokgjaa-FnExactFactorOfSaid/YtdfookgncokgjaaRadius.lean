/-
  The radius of a wheel.
-/
import Derived.Test.YtdfookgncokgjaaFlo
import Derived.Test.YtdfookgncokgjaaValid
import Derived.WalkSmall
namespace Go.Proofs.Ytdfookgncokgjaa
open Go.RowKit Go.ChangeShapes Go.WideShapes Go.Deep
set_option linter.unusedVariables false
set_option linter.unusedSimpArgs false
theorem cn_cases {a b : Nat} (h : cn a = cn b) : (nan32 a = true ∧ nan32 b = true) ∨ (nan32 a = false ∧ a = b) := by
  cases ha : nan32 a
  · right
    refine ⟨rfl, ?_⟩
    have hb : nan32 b = false := by rw [← nan_cn b, ← h, nan_cn, ha]
    rw [cn_of_not ha, cn_of_not hb] at h
    exact h
  · left
    exact ⟨rfl, by rw [← nan_cn b, ← h, nan_cn, ha]⟩
/-- The call returns one number, known up to which NaN it is, and only draws. -/
def FRet (c : Nat) (w : World) (e : Ending) (w' : World) : Prop := ∃ r n, e = .returned (.float .f32 r) ∧ cn r = c ∧ w' = w.drewN n
/-- Likewise a number and a code. -/
def FCode (c : Nat) (k : Int) (w : World) (e : Ending) (w' : World) : Prop := ∃ r n, e = .returned (.tuple #[.float .f32 r, .int .i64 k]) ∧ cn r = c ∧ w' = w.drewN n
def modB (m : Nat) : Bool := (FloatKind.f32.format.order m 1031798784 == some .gt || FloatKind.f32.format.order m 1031798784 == some .eq) && (FloatKind.f32.format.order m 1115684864 == some .lt || FloatKind.f32.format.order m 1115684864 == some .eq)
def radC (x : Int) (m : Nat) : Nat := f2 .quo (f2 .mul (fint x) m) (cn 1073741824)
theorem implRad_any (x : Int) (m : Nat) (w : World) : Calls Try.prog 89 #[.int .i64 x, .float .f32 m] w (FRet (radC x (cn m)) w) := by
  go_enter Try.func89, Try.ntmps89
  go_wp2_with (refine wpList_f32 rfl _ _ _ _ _ _ _ rfl rfl rfl rfl ?_; intro r n hr; have Hr := Lib.hid hr; clear hr)
  rename_i r1 n1 H1
  go_ret
  refine ⟨r, n1 + n, rfl, ?_, rfl⟩
  rw [Hr.out, H1.out, cn_fint]
  rfl
theorem isModule_any (m : Nat) (w : World) : Calls Try.prog 88 #[.float .f32 m] w fun e w' => e = .returned (.bool (modB m)) ∧ w = w' := by
  unfold modB
  go_enter Try.func88, Try.ntmps88
  go_wp2
  · go_ret
    exact ⟨rfl, rfl⟩
  · rename_i h
    go_ret
    refine ⟨?_, rfl⟩
    simp at h
    simp [h]
def codeRad (x : Int) (m : Nat) : Int := if teethB x && modB m then 0 else 2
def radR (x : Int) (m : Nat) : Nat := if teethB x && modB m then radC x (cn m) else cn 0
theorem implRadiusOf_any (x : Int) (m : Nat) (w : World) : Calls Try.prog 33 #[.int .i64 x, .float .f32 m] w (FCode (radR x m) (codeRad x m) w) := by
  unfold radR codeRad
  cases h1 : teethB x
  · go_enter Try.func33, Try.ntmps33
    go_wp2_with (first | (go_at_call 90; refine (areTeeth_any _ _).mono ?_; rintro e w1 ⟨rfl, rfl⟩) | (go_at_call 88; refine (isModule_any _ _).mono ?_; rintro e w1 ⟨rfl, rfl⟩) | (go_at_call 89; refine (implRad_any _ _ _).mono ?_; rintro e w1 ⟨r, n, rfl, hr, rfl⟩; have Hr := Lib.hid hr; clear hr))
    go_ret2
    exact ⟨0, 0, rfl, rfl, rfl⟩
  · cases h2 : modB m
    · go_enter Try.func33, Try.ntmps33
      go_wp2_with (first | (go_at_call 90; refine (areTeeth_any _ _).mono ?_; rintro e w1 ⟨rfl, rfl⟩) | (go_at_call 88; refine (isModule_any _ _).mono ?_; rintro e w1 ⟨rfl, rfl⟩) | (go_at_call 89; refine (implRad_any _ _ _).mono ?_; rintro e w1 ⟨r, n, rfl, hr, rfl⟩; have Hr := Lib.hid hr; clear hr))
      go_ret2
      exact ⟨0, 0, rfl, rfl, rfl⟩
    · go_enter Try.func33, Try.ntmps33
      go_wp2_with (first | (go_at_call 90; refine (areTeeth_any _ _).mono ?_; rintro e w1 ⟨rfl, rfl⟩) | (go_at_call 88; refine (isModule_any _ _).mono ?_; rintro e w1 ⟨rfl, rfl⟩) | (go_at_call 89; refine (implRad_any _ _ _).mono ?_; rintro e w1 ⟨r, n, rfl, hr, rfl⟩; have Hr := Lib.hid hr; clear hr))
      go_ret2
      exact ⟨r, n, rfl, Hr.out, rfl⟩
end Go.Proofs.Ytdfookgncokgjaa
