/-
  The load of a stone, its flour, the feed that a torque allows: the program's functions and the model's.
-/
import Derived.Test.YtjkgiknklkfipaaSv
import Derived.Deep.RegionLaw
namespace Go.Proofs.Ytjkgiknklkfipaa
open Go.RowKit Go.ChangeShapes Go.WideShapes Go.Deep
attribute [local go_sem ↓] Go.wp_at_zero Go.wp_at_succ
set_option linter.unusedVariables false
set_option linter.unusedSimpArgs false
set_option maxRecDepth 100000
def idleC (S : Sn) (a : Nat) : Nat := f2 .add (cn S.d) (f2 .mul (cn S.r) (cn a))
def loadC (S : Sn) (a b : Nat) : Nat := f2 .add (idleC S a) (f2 .mul (cn S.b) (cn b))
def flourC (S : Sn) (a b : Nat) : Nat := f2 .mul (f2 .mul (cn a) (cn b)) (cn S.g)
theorem cn_loadC (S : Sn) (a b : Nat) : cn (loadC S a b) = loadC S a b := cn_f2 _ _ _
theorem loadC_cn (S : Sn) {a a' b b' : Nat} (h : cn a = cn a') (k : cn b = cn b') : loadC S a b = loadC S a' b' := by unfold loadC idleC; rw [h, k]
theorem flourC_cn (S : Sn) {a a' b b' : Nat} (h : cn a = cn a') (k : cn b = cn b') : flourC S a b = flourC S a' b' := by unfold flourC; rw [h, k]
theorem implIdle_any (S : Sn) (a : Nat) (w : World) : Calls Try.prog 131 #[.agg #[.float .f32 S.d, .float .f32 S.r, .float .f32 S.b, .float .f32 S.g], .float .f32 a] w (RF (idleC S a) w) := by
  obtain ⟨R, N, hR, hC⟩ := ops_fun Try.prog 24; have ra := hR .add rfl; have rs := hR .sub rfl; have rm := hR .mul rfl; have rq := hR .quo rfl; have HC := Lib.hid hC; clear hC hR
  go_enter Try.func131, Try.ntmps131
  go_wp2
  go_ret
  refine ⟨_, rfl, ?_, ?_⟩
  · unfold CN idleC
    simp only [HC.out .add rfl, HC.out .mul rfl, HC.out .quo rfl, HC.out .sub rfl]
  · (repeat (first | exact Below.refl _ _ | refine b_drewN ?_ _ | refine b_drew ?_ | refine b_alloc ?_ _ | refine b_then ?_ (by assumption)))
theorem specIdle_any (S : Sn) (a : Nat) (w : World) : Calls Try.prog 135 #[.agg #[.float .f32 S.d, .float .f32 S.r, .float .f32 S.b, .float .f32 S.g], .float .f32 a] w (RF (idleC S a) w) := by
  obtain ⟨R, N, hR, hC⟩ := ops_fun Try.prog 24; have ra := hR .add rfl; have rs := hR .sub rfl; have rm := hR .mul rfl; have rq := hR .quo rfl; have HC := Lib.hid hC; clear hC hR
  go_enter Try.func135, Try.ntmps135
  go_wp2
  go_ret
  refine ⟨_, rfl, ?_, ?_⟩
  · unfold CN idleC
    simp only [HC.out .add rfl, HC.out .mul rfl, HC.out .quo rfl, HC.out .sub rfl]
  · (repeat (first | exact Below.refl _ _ | refine b_drewN ?_ _ | refine b_drew ?_ | refine b_alloc ?_ _ | refine b_then ?_ (by assumption)))
theorem implLoad_any (S : Sn) (a b : Nat) (w : World) : Calls Try.prog 120 #[.agg #[.float .f32 S.d, .float .f32 S.r, .float .f32 S.b, .float .f32 S.g], .float .f32 a, .float .f32 b] w (RF (loadC S a b) w) := by
  obtain ⟨R, N, hR, hC⟩ := ops_fun Try.prog 24; have ra := hR .add rfl; have rs := hR .sub rfl; have rm := hR .mul rfl; have rq := hR .quo rfl; have HC := Lib.hid hC; clear hC hR
  have h0 := AtSn.new w S
  obtain ⟨c0, c1, c2, c3⟩ := h0.cells
  have H0 := Lib.hid h0
  clear h0
  go_enter Try.func120, Try.ntmps120
  go_wp2_with fail
  go_region_law (go_simp; go_at_call 131; refine (implIdle_any S a _).mono ?_; rintro e w1 ⟨r, rfl, hr, b1⟩; (try (obtain ⟨f0', f1', f2', f3'⟩ := (H0.out.on (by rfl) b1).cells)); dsimp only)
  all_goals
    go_wp2
    go_ret
    refine ⟨_, rfl, ?_, ?_⟩
    · unfold CN at hr ⊢
      unfold loadC
      simp only [HC.out .add rfl, HC.out .mul rfl, HC.out .quo rfl, HC.out .sub rfl]
      rw [hr]
    · (repeat (first | exact Below.refl _ _ | refine b_drewN ?_ _ | refine b_drew ?_ | refine b_alloc ?_ _ | refine b_then ?_ (by assumption)))
theorem specLoad_any (S : Sn) (a b : Nat) (w : World) : Calls Try.prog 130 #[.agg #[.float .f32 S.d, .float .f32 S.r, .float .f32 S.b, .float .f32 S.g], .float .f32 a, .float .f32 b] w (RF (loadC S a b) w) := by
  obtain ⟨R, N, hR, hC⟩ := ops_fun Try.prog 24; have ra := hR .add rfl; have rs := hR .sub rfl; have rm := hR .mul rfl; have rq := hR .quo rfl; have HC := Lib.hid hC; clear hC hR
  have h0 := AtSn.new w S
  obtain ⟨c0, c1, c2, c3⟩ := h0.cells
  have H0 := Lib.hid h0
  clear h0
  go_enter Try.func130, Try.ntmps130
  go_wp2_with fail
  go_region_law (go_simp; go_at_call 135; refine (specIdle_any S a _).mono ?_; rintro e w1 ⟨r, rfl, hr, b1⟩; (try (obtain ⟨f0', f1', f2', f3'⟩ := (H0.out.on (by rfl) b1).cells)); dsimp only)
  all_goals
    go_wp2
    go_ret
    refine ⟨_, rfl, ?_, ?_⟩
    · unfold CN at hr ⊢
      unfold loadC
      simp only [HC.out .add rfl, HC.out .mul rfl, HC.out .quo rfl, HC.out .sub rfl]
      rw [hr]
    · (repeat (first | exact Below.refl _ _ | refine b_drewN ?_ _ | refine b_drew ?_ | refine b_alloc ?_ _ | refine b_then ?_ (by assumption)))
theorem implFlour_any (S : Sn) (a b : Nat) (w : World) : Calls Try.prog 99 #[.agg #[.float .f32 S.d, .float .f32 S.r, .float .f32 S.b, .float .f32 S.g], .float .f32 a, .float .f32 b] w (RF (flourC S a b) w) := by
  obtain ⟨R, N, hR, hC⟩ := ops_fun Try.prog 24; have ra := hR .add rfl; have rs := hR .sub rfl; have rm := hR .mul rfl; have rq := hR .quo rfl; have HC := Lib.hid hC; clear hC hR
  go_enter Try.func99, Try.ntmps99
  go_wp2
  go_ret
  refine ⟨_, rfl, ?_, ?_⟩
  · unfold CN flourC
    simp only [HC.out .add rfl, HC.out .mul rfl, HC.out .quo rfl, HC.out .sub rfl]
  · (repeat (first | exact Below.refl _ _ | refine b_drewN ?_ _ | refine b_drew ?_ | refine b_alloc ?_ _ | refine b_then ?_ (by assumption)))
theorem specFlour_any (S : Sn) (a b : Nat) (w : World) : Calls Try.prog 93 #[.agg #[.float .f32 S.d, .float .f32 S.r, .float .f32 S.b, .float .f32 S.g], .float .f32 a, .float .f32 b] w (RF (flourC S a b) w) := by
  obtain ⟨R, N, hR, hC⟩ := ops_fun Try.prog 24; have ra := hR .add rfl; have rs := hR .sub rfl; have rm := hR .mul rfl; have rq := hR .quo rfl; have HC := Lib.hid hC; clear hC hR
  go_enter Try.func93, Try.ntmps93
  go_wp2
  go_ret
  refine ⟨_, rfl, ?_, ?_⟩
  · unfold CN flourC
    simp only [HC.out .add rfl, HC.out .mul rfl, HC.out .quo rfl, HC.out .sub rfl]
  · (repeat (first | exact Below.refl _ _ | refine b_drewN ?_ _ | refine b_drew ?_ | refine b_alloc ?_ _ | refine b_then ?_ (by assumption)))
end Go.Proofs.Ytjkgiknklkfipaa
