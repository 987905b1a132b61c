/-
  What a belt can pull.
-/
import Derived.Test.YtdfookgncokgjadBgrip
namespace Go.Proofs.Ytdfookgncokgjad
open Go.RowKit Go.ChangeShapes Go.WideShapes Go.Deep
attribute [local go_sem ↓] Go.wp_at_zero Go.wp_at_succ
set_option linter.unusedVariables false
set_option linter.unusedSimpArgs false
theorem isPs_any (m : Nat) (w : World) : Calls Try.prog 62 #[.float .f32 m] w fun e w' => e = .returned (.bool (psB m)) ∧ w = w' := by
  unfold psB oGe oLe
  go_enter Try.func62, Try.ntmps62
  go_wp2
  · go_ret
    exact ⟨rfl, rfl⟩
  · rename_i h
    go_ret
    refine ⟨?_, rfl⟩
    simp at h
    simp [h]
theorem l02Tight_any (m : Nat) (w : World) : Calls Try.prog 71 #[.float .f32 m] w fun e w' => e = .returned (.bool (psB m)) ∧ w = w' := by
  unfold psB oGe oLe
  go_enter Try.func71, Try.ntmps71
  go_wp2
  · go_ret
    exact ⟨rfl, rfl⟩
  · rename_i h
    go_ret
    refine ⟨?_, rfl⟩
    simp at h
    simp [h]
theorem isPl_any (m : Nat) (w : World) : Calls Try.prog 53 #[.float .f32 m] w fun e w' => e = .returned (.bool (plB m)) ∧ w = w' := by
  unfold plB oGe oLe
  go_enter Try.func53, Try.ntmps53
  go_wp2
  · go_ret
    exact ⟨rfl, rfl⟩
  · rename_i h
    go_ret
    refine ⟨?_, rfl⟩
    simp at h
    simp [h]
theorem l01Pl_any (m : Nat) (w : World) : Calls Try.prog 68 #[.float .f32 m] w fun e w' => e = .returned (.bool (plB m)) ∧ w = w' := by
  unfold plB oGe oLe
  go_enter Try.func68, Try.ntmps68
  go_wp2
  · go_ret
    exact ⟨rfl, rfl⟩
  · rename_i h
    go_ret
    refine ⟨?_, rfl⟩
    simp at h
    simp [h]
theorem pl_zero : plB 0 = true := by decide +kernel
theorem codeP_cases (B : Bl) (t m : Nat) : codeP B t m = 0 ∨ codeP B t m = 1 ∨ codeP B t m = 2 := by
  unfold codeP
  split
  · split
    · exact .inl rfl
    · exact .inr (.inr rfl)
  · exact .inr (.inl rfl)
theorem implAsk_any (B : Bl) (t m : Nat) (w : World) : Calls Try.prog 47 #[.agg #[.float .f32 B.a, .float .f32 B.b, .float .f32 B.ap, .float .f32 B.g, .bool B.x], .float .f32 t, .float .f32 m] w (RV (.int .i64 (codeP B t m)) w) := by

  unfold codeP
  rcases Bool.eq_false_or_eq_true (okB B) with h1 | h1
  · rcases Bool.eq_false_or_eq_true (psB t) with h2 | h2
    · rcases Bool.eq_false_or_eq_true (plB m) with h3 | h3
      all_goals
        simp only [h1, h2, h3, Bool.and_self, Bool.and_false, if_true, if_false, Bool.false_eq_true]
        go_enter Try.func47, Try.ntmps47
        go_wp2_with (first | (go_at_call 52; refine (validBelt_any _ _).mono ?_; rintro e w1 ⟨rfl, b1⟩) | (go_at_call 62; refine (isPs_any _ _).mono ?_; rintro e w2 ⟨rfl, rfl⟩) | (go_at_call 53; refine (isPl_any _ _).mono ?_; rintro e w3 ⟨rfl, rfl⟩))
        go_ret
        refine ⟨rfl, ?_⟩
        (repeat (first | exact Below.refl _ _ | refine b_drewN ?_ _ | refine b_drew ?_ | refine b_alloc ?_ _ | refine b_then ?_ (by assumption)))
    all_goals
      simp only [h1, h2, Bool.false_and, if_true, if_false, Bool.false_eq_true]
      go_enter Try.func47, Try.ntmps47
      go_wp2_with (first | (go_at_call 52; refine (validBelt_any _ _).mono ?_; rintro e w1 ⟨rfl, b1⟩) | (go_at_call 62; refine (isPs_any _ _).mono ?_; rintro e w2 ⟨rfl, rfl⟩))
      go_ret
      refine ⟨rfl, ?_⟩
      (repeat (first | exact Below.refl _ _ | refine b_drewN ?_ _ | refine b_drew ?_ | refine b_alloc ?_ _ | refine b_then ?_ (by assumption)))
  all_goals
    simp only [h1, if_false, Bool.false_eq_true]
    go_enter Try.func47, Try.ntmps47
    go_wp2_with (go_at_call 52; refine (validBelt_any _ _).mono ?_; rintro e w1 ⟨rfl, b1⟩)
    go_ret
    refine ⟨rfl, ?_⟩
    (repeat (first | exact Below.refl _ _ | refine b_drewN ?_ _ | refine b_drew ?_ | refine b_alloc ?_ _ | refine b_then ?_ (by assumption)))
theorem specAsk_any (B : Bl) (t m : Nat) (q : Nat) (w : World) (h0 : At w q B) : Calls Try.prog 44 #[.pointer (some ⟨q, 0, none⟩), .float .f32 t, .float .f32 m] w (RV (.int .i64 (codeP B t m)) w) := by
  obtain ⟨c0, c1, c2, c3, c4⟩ := h0.cells
  clear h0
  unfold codeP
  rcases Bool.eq_false_or_eq_true (okB B) with h1 | h1
  · rcases Bool.eq_false_or_eq_true (psB t) with h2 | h2
    · rcases Bool.eq_false_or_eq_true (plB m) with h3 | h3
      all_goals
        simp only [h1, h2, h3, Bool.and_self, Bool.and_false, if_true, if_false, Bool.false_eq_true]
        go_enter Try.func44, Try.ntmps44
        go_wp2_with (first | (go_at_call 59; refine (l02Ok_any B _ _ c0 c1 c2 c3).mono ?_; rintro e w1 ⟨rfl, n1, rfl⟩) | (go_at_call 71; refine (l02Tight_any _ _).mono ?_; rintro e w2 ⟨rfl, rfl⟩) | (go_at_call 68; refine (l01Pl_any _ _).mono ?_; rintro e w3 ⟨rfl, rfl⟩))
        go_ret
        refine ⟨rfl, ?_⟩
        (repeat (first | exact Below.refl _ _ | refine b_drewN ?_ _ | refine b_drew ?_ | refine b_alloc ?_ _ | refine b_then ?_ (by assumption)))
    all_goals
      simp only [h1, h2, Bool.false_and, if_true, if_false, Bool.false_eq_true]
      go_enter Try.func44, Try.ntmps44
      go_wp2_with (first | (go_at_call 59; refine (l02Ok_any B _ _ c0 c1 c2 c3).mono ?_; rintro e w1 ⟨rfl, n1, rfl⟩) | (go_at_call 71; refine (l02Tight_any _ _).mono ?_; rintro e w2 ⟨rfl, rfl⟩))
      go_ret
      refine ⟨rfl, ?_⟩
      (repeat (first | exact Below.refl _ _ | refine b_drewN ?_ _ | refine b_drew ?_ | refine b_alloc ?_ _ | refine b_then ?_ (by assumption)))
  all_goals
    simp only [h1, if_false, Bool.false_eq_true]
    go_enter Try.func44, Try.ntmps44
    go_wp2_with (go_at_call 59; refine (l02Ok_any B _ _ c0 c1 c2 c3).mono ?_; rintro e w1 ⟨rfl, n1, rfl⟩)
    go_ret
    refine ⟨rfl, ?_⟩
    (repeat (first | exact Below.refl _ _ | refine b_drewN ?_ _ | refine b_drew ?_ | refine b_alloc ?_ _ | refine b_then ?_ (by assumption)))
theorem implAsk_is {B : Bl} {t m : Nat} {c : Int} (h : codeP B t m = c) (w : World) : Calls Try.prog 47 #[.agg #[.float .f32 B.a, .float .f32 B.b, .float .f32 B.ap, .float .f32 B.g, .bool B.x], .float .f32 t, .float .f32 m] w (RV (.int .i64 c) w) := by
  rw [← h]
  exact implAsk_any B t m w
theorem specAsk_is {B : Bl} {t m : Nat} {c : Int} (h : codeP B t m = c) (q : Nat) (w : World) (h0 : At w q B) : Calls Try.prog 44 #[.pointer (some ⟨q, 0, none⟩), .float .f32 t, .float .f32 m] w (RV (.int .i64 c) w) := by
  rw [← h]
  exact specAsk_any B t m q w h0
theorem implPull_any (B : Bl) (t : Nat) (w : World) : Calls Try.prog 48 #[.agg #[.float .f32 B.a, .float .f32 B.b, .float .f32 B.ap, .float .f32 B.g, .bool B.x], .float .f32 t] w (RF (pullC B t) w) := by
  obtain ⟨R, N, hR, hC⟩ := ops_fun Try.prog 22; have ra := hR .add rfl; have rs := hR .sub rfl; have rm := hR .mul rfl; have rq := hR .quo rfl; have HC := Lib.hid hC; clear hC hR
  go_enter Try.func48, Try.ntmps48
  go_wp2_with (go_at_call 73; refine (implGrip_any B _).mono ?_; rintro e w1 ⟨r, rfl, hr, b1⟩)
  go_ret
  refine ⟨_, rfl, ?_, ?_⟩
  · unfold CN pullC at *
    rw [← hr]
    simp only [HC.out .quo rfl, HC.out .sub rfl]
  · (repeat (first | exact Below.refl _ _ | refine b_drewN ?_ _ | refine b_drew ?_ | refine b_alloc ?_ _ | refine b_then ?_ (by assumption)))
theorem specPull_any (B : Bl) (t : Nat) (q : Nat) (w : World) (h0 : At w q B) : Calls Try.prog 45 #[.pointer (some ⟨q, 0, none⟩), .float .f32 t] w (RF (pullC B t) w) := by
  obtain ⟨R, N, hR, hC⟩ := ops_fun Try.prog 22; have ra := hR .add rfl; have rs := hR .sub rfl; have rm := hR .mul rfl; have rq := hR .quo rfl; have HC := Lib.hid hC; clear hC hR
  go_enter Try.func45, Try.ntmps45
  go_wp2_with (go_at_call 72; refine (specGrip_any B q _ (At.same h0 (by rfl))).mono ?_; rintro e w1 ⟨r, rfl, hr, b1⟩)
  go_ret
  refine ⟨_, rfl, ?_, ?_⟩
  · unfold CN pullC at *
    rw [← hr]
    simp only [HC.out .quo rfl, HC.out .sub rfl]
  · (repeat (first | exact Below.refl _ _ | refine b_drewN ?_ _ | refine b_drew ?_ | refine b_alloc ?_ _ | refine b_then ?_ (by assumption)))
theorem implTorq_any (B : Bl) (t : Nat) (w : World) : Calls Try.prog 56 #[.agg #[.float .f32 B.a, .float .f32 B.b, .float .f32 B.ap, .float .f32 B.g, .bool B.x], .float .f32 t] w (RF (torqC B t) w) := by
  obtain ⟨R, N, hR, hC⟩ := ops_fun Try.prog 22; have ra := hR .add rfl; have rs := hR .sub rfl; have rm := hR .mul rfl; have rq := hR .quo rfl; have HC := Lib.hid hC; clear hC hR
  have h1 := At.new w B
  obtain ⟨c0, c1, c2, c3, c4⟩ := h1.cells
  go_enter Try.func56, Try.ntmps56
  go_wp2_with fail
  go_region_law ((go_simp; go_at_call 48; refine (implPull_any B _ _).mono ?_; rintro e w2 ⟨r, rfl, hr, b2⟩; obtain ⟨d0, d1, d2, d3, d4⟩ := At.cells (At.on h1 (by rfl) b2); dsimp only))
  all_goals
    go_wp2
    go_ret
    refine ⟨_, rfl, ?_, ?_⟩
    · unfold CN torqC at *
      rw [← hr]
      simp only [HC.out .mul rfl]
    · (repeat (first | exact Below.refl _ _ | refine b_drewN ?_ _ | refine b_drew ?_ | refine b_alloc ?_ _ | refine b_then ?_ (by assumption)))
end Go.Proofs.Ytdfookgncokgjad
