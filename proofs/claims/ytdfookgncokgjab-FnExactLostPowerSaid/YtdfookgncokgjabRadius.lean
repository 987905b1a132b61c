/-
  The radius of a wheel.
-/
import Derived.Test.YtdfookgncokgjabFlo
import Derived.Test.YtdfookgncokgjabValid
import Derived.WalkSmall
namespace Go.Proofs.Ytdfookgncokgjab
open Go.RowKit Go.ChangeShapes Go.WideShapes Go.Deep
set_option linter.unusedVariables false
set_option linter.unusedSimpArgs false
theorem cn_cases {a b : Nat} (h : cn a = cn b) : (nan32 a = true ∧ nan32 b = true) ∨ (nan32 a = false ∧ a = b) := by
  cases ha : nan32 a
  · right
    refine ⟨rfl, ?_⟩
    have hb : nan32 b = false := by rw [← nan_cn b, ← h, nan_cn, ha]
    rw [cn_of_not ha, cn_of_not hb] at h
    exact h
  · left
    exact ⟨rfl, by rw [← nan_cn b, ← h, nan_cn, ha]⟩
/-- The call returns one number, known up to which NaN it is, and only draws. -/
def FRet (c : Nat) (w : World) (e : Ending) (w' : World) : Prop := ∃ r n, e = .returned (.float .f32 r) ∧ cn r = c ∧ w' = w.drewN n
/-- Likewise a number and a code. -/
def FCode (c : Nat) (k : Int) (w : World) (e : Ending) (w' : World) : Prop := ∃ r n, e = .returned (.tuple #[.float .f32 r, .int .i64 k]) ∧ cn r = c ∧ w' = w.drewN n
def modB (m : Nat) : Bool := (FloatKind.f32.format.order m 1031798784 == some .gt || FloatKind.f32.format.order m 1031798784 == some .eq) && (FloatKind.f32.format.order m 1115684864 == some .lt || FloatKind.f32.format.order m 1115684864 == some .eq)
def radC (x : Int) (m : Nat) : Nat := f2 .quo (f2 .mul (fint x) m) (cn 1073741824)
theorem implRad_any (x : Int) (m : Nat) (w : World) : Calls Try.prog 75 #[.int .i64 x, .float .f32 m] w (FRet (radC x (cn m)) w) := by
  go_enter Try.func75, Try.ntmps75
  go_wp2_with (refine wpList_f32 rfl _ _ _ _ _ _ _ rfl rfl rfl rfl ?_; intro r n hr; have Hr := Lib.hid hr; clear hr)
  rename_i r1 n1 H1
  go_ret
  refine ⟨r, n1 + n, rfl, ?_, rfl⟩
  rw [Hr.out, H1.out, cn_fint]
  rfl
theorem specRad_any (x : Int) (m : Nat) (w : World) : Calls Try.prog 72 #[.int .i64 x, .float .f32 m] w (FRet (radC x (cn m)) w) := by
  go_enter Try.func72, Try.ntmps72
  go_wp2_with (refine wpList_f32 rfl _ _ _ _ _ _ _ rfl rfl rfl rfl ?_; intro r n hr; have Hr := Lib.hid hr; clear hr)
  rename_i r1 n1 H1
  go_ret
  refine ⟨r, n1 + n, rfl, ?_, rfl⟩
  rw [Hr.out, H1.out, cn_fint]
  rfl
theorem isModule_any (m : Nat) (w : World) : Calls Try.prog 74 #[.float .f32 m] w fun e w' => e = .returned (.bool (modB m)) ∧ w = w' := by
  unfold modB
  go_enter Try.func74, Try.ntmps74
  go_wp2
  · go_ret
    exact ⟨rfl, rfl⟩
  · rename_i h
    go_ret
    refine ⟨?_, rfl⟩
    simp at h
    simp [h]
theorem l01Module_any (m : Nat) (w : World) : Calls Try.prog 71 #[.float .f32 m] w fun e w' => e = .returned (.bool (modB m)) ∧ w = w' := by
  unfold modB
  go_enter Try.func71, Try.ntmps71
  go_wp2
  · go_ret
    exact ⟨rfl, rfl⟩
  · rename_i h
    go_ret
    refine ⟨?_, rfl⟩
    simp at h
    simp [h]
def codeRad (x : Int) (m : Nat) : Int := if teethB x && modB m then 0 else 2
def radR (x : Int) (m : Nat) : Nat := if teethB x && modB m then radC x (cn m) else cn 0
theorem implRadiusOf_any (x : Int) (m : Nat) (w : World) : Calls Try.prog 45 #[.int .i64 x, .float .f32 m] w (FCode (radR x m) (codeRad x m) w) := by
  unfold radR codeRad
  cases h1 : teethB x
  · go_enter Try.func45, Try.ntmps45
    go_wp2_with (first | (go_at_call 73; refine (areTeeth_any _ _).mono ?_; rintro e w1 ⟨rfl, rfl⟩) | (go_at_call 74; refine (isModule_any _ _).mono ?_; rintro e w1 ⟨rfl, rfl⟩) | (go_at_call 75; refine (implRad_any _ _ _).mono ?_; rintro e w1 ⟨r, n, rfl, hr, rfl⟩; have Hr := Lib.hid hr; clear hr))
    go_ret2
    exact ⟨0, 0, rfl, rfl, rfl⟩
  · cases h2 : modB m
    · go_enter Try.func45, Try.ntmps45
      go_wp2_with (first | (go_at_call 73; refine (areTeeth_any _ _).mono ?_; rintro e w1 ⟨rfl, rfl⟩) | (go_at_call 74; refine (isModule_any _ _).mono ?_; rintro e w1 ⟨rfl, rfl⟩) | (go_at_call 75; refine (implRad_any _ _ _).mono ?_; rintro e w1 ⟨r, n, rfl, hr, rfl⟩; have Hr := Lib.hid hr; clear hr))
      go_ret2
      exact ⟨0, 0, rfl, rfl, rfl⟩
    · go_enter Try.func45, Try.ntmps45
      go_wp2_with (first | (go_at_call 73; refine (areTeeth_any _ _).mono ?_; rintro e w1 ⟨rfl, rfl⟩) | (go_at_call 74; refine (isModule_any _ _).mono ?_; rintro e w1 ⟨rfl, rfl⟩) | (go_at_call 75; refine (implRad_any _ _ _).mono ?_; rintro e w1 ⟨r, n, rfl, hr, rfl⟩; have Hr := Lib.hid hr; clear hr))
      go_ret2
      exact ⟨r, n, rfl, Hr.out, rfl⟩
theorem specRadiusOf_any (x : Int) (m : Nat) (w : World) : Calls Try.prog 44 #[.int .i64 x, .float .f32 m] w (FCode (radR x m) (codeRad x m) w) := by
  unfold radR codeRad
  cases h1 : teethB x
  · go_enter Try.func44, Try.ntmps44
    go_wp2_with (first | (go_at_call 70; refine (l01Teeth_any _ _).mono ?_; rintro e w1 ⟨rfl, rfl⟩) | (go_at_call 71; refine (l01Module_any _ _).mono ?_; rintro e w1 ⟨rfl, rfl⟩) | (go_at_call 72; refine (specRad_any _ _ _).mono ?_; rintro e w1 ⟨r, n, rfl, hr, rfl⟩; have Hr := Lib.hid hr; clear hr))
    go_ret2
    exact ⟨0, 0, rfl, rfl, rfl⟩
  · cases h2 : modB m
    · go_enter Try.func44, Try.ntmps44
      go_wp2_with (first | (go_at_call 70; refine (l01Teeth_any _ _).mono ?_; rintro e w1 ⟨rfl, rfl⟩) | (go_at_call 71; refine (l01Module_any _ _).mono ?_; rintro e w1 ⟨rfl, rfl⟩) | (go_at_call 72; refine (specRad_any _ _ _).mono ?_; rintro e w1 ⟨r, n, rfl, hr, rfl⟩; have Hr := Lib.hid hr; clear hr))
      go_ret2
      exact ⟨0, 0, rfl, rfl, rfl⟩
    · go_enter Try.func44, Try.ntmps44
      go_wp2_with (first | (go_at_call 70; refine (l01Teeth_any _ _).mono ?_; rintro e w1 ⟨rfl, rfl⟩) | (go_at_call 71; refine (l01Module_any _ _).mono ?_; rintro e w1 ⟨rfl, rfl⟩) | (go_at_call 72; refine (specRad_any _ _ _).mono ?_; rintro e w1 ⟨r, n, rfl, hr, rfl⟩; have Hr := Lib.hid hr; clear hr))
      go_ret2
      exact ⟨r, n, rfl, Hr.out, rfl⟩
set_option maxRecDepth 100000 in
theorem walk_FnExactRadiusOf (x : Int) (wx : (Lit.int .i64 x).wf = true) (m : Nat) (wm : (Lit.float .f32 m).wf = true) (w : World) :
    Calls Try.prog 13 #[.int .i64 x, .float .f32 m] w fun e w' => e = .returned (.bool true) ∧ Below w.heap.size w w' := by
  go_enter Try.func13, Try.ntmps13
  go_wp2_with fail
  refine (specRadiusOf_any _ _ _).mono ?_
  rintro e w1 ⟨r1, n1, rfl, h1, rfl⟩
  have H1 := Lib.hid h1; clear h1
  go_wp2_with fail
  refine (implRadiusOf_any _ _ _).mono ?_
  rintro e w1 ⟨r2, n2, rfl, h2, rfl⟩
  have H2 := Lib.hid h2; clear h2
  rcases cn_cases (H2.out.trans H1.out.symm) with ⟨hn2, hn1⟩ | ⟨hn, rfl⟩
  · have q1 := fun w => run_nan_wide (P := Try.prog) w 31 44 r1 (by rw [Try.underlying31]; rfl) Try.underlying44 hn1
    have q2 := fun w => run_nan_wide (P := Try.prog) w 31 44 r2 (by rw [Try.underlying31]; rfl) Try.underlying44 hn2
    clear hn1 hn2
    go_wp2_with (go_at_call 32; refine (sameFloat_nan _ _ _ (nanTo_nan _ _) (nanTo_nan _ _)).mono ?_; rintro e w' ⟨rfl, rfl⟩)
    go_ret
    exact ⟨rfl, below_drewN (Below.refl _ _) _⟩
  · have q1 := fun w => run_wide (P := Try.prog) w 31 44 r2 (by rw [Try.underlying31]; rfl) Try.underlying44 hn
    have q3 := (wide_some hn).2
    clear hn
    go_wp2_with (go_at_call 32; refine (sameFloat_eq _ _ q3).mono ?_; rintro e w' ⟨rfl, rfl⟩)
    go_ret
    exact ⟨rfl, below_drewN (Below.refl _ _) _⟩
end Go.Proofs.Ytdfookgncokgjab
