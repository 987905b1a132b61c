/-
  The speed behind a belt; its length under tension; a belt that is turned.
-/
import Derived.Test.YtdfookgncokgjadBpull
import Derived.Test.YtdfookgncokgjadBeltIn
namespace Go.Proofs.Ytdfookgncokgjad
open Go.RowKit Go.ChangeShapes Go.WideShapes Go.Deep
attribute [local go_sem ↓] Go.wp_at_zero Go.wp_at_succ
set_option linter.unusedVariables false
set_option linter.unusedSimpArgs false
def ptB (x : Nat) : Bool := oGe x 0 && oLe x 1065353216
def stB (x : Nat) : Bool := oGe x 1065353216 && oLe x 1233125376
theorem ps_zero : psB 0 = true := by decide +kernel
def outF (a b : Nat) (x : Bool) (s p : Nat) : Nat := let o := f2 .mul (f2 .mul s (f2 .quo a b)) (f2 .sub (cn 1065353216) p); if x then fneg o else o
def outC (B : Bl) (s p : Nat) : Nat := outF (cn B.a) (cn B.b) B.x (cn s) (cn p)
def codeS (B : Bl) (s p : Nat) : Int := if okB B then (if plB s && ptB p then 0 else 2) else 1
def strC (B : Bl) (t s : Nat) : Nat := f2 .mul (lenC B) (f2 .add (cn 1065353216) (f2 .quo (cn t) (cn s)))
def codeT (B : Bl) (t s : Nat) : Int := if okB B then (if psB t && stB s then 0 else 2) else 1
theorem isPt_any (m : Nat) (w : World) : Calls Try.prog 54 #[.float .f32 m] w fun e w' => e = .returned (.bool (ptB m)) ∧ w = w' := by
  unfold ptB oGe oLe
  go_enter Try.func54, Try.ntmps54
  go_wp2
  · go_ret
    exact ⟨rfl, rfl⟩
  · rename_i h
    go_ret
    refine ⟨?_, rfl⟩
    simp at h
    simp [h]
theorem l01Pt_any (m : Nat) (w : World) : Calls Try.prog 50 #[.float .f32 m] w fun e w' => e = .returned (.bool (ptB m)) ∧ w = w' := by
  unfold ptB oGe oLe
  go_enter Try.func50, Try.ntmps50
  go_wp2
  · go_ret
    exact ⟨rfl, rfl⟩
  · rename_i h
    go_ret
    refine ⟨?_, rfl⟩
    simp at h
    simp [h]
theorem implOut_any (B : Bl) (s p : Nat) (w : World) : Calls Try.prog 55 #[.agg #[.float .f32 B.a, .float .f32 B.b, .float .f32 B.ap, .float .f32 B.g, .bool B.x], .float .f32 s, .float .f32 p] w (RF (outC B s p) w) := by
  obtain ⟨R, N, hR, hC⟩ := ops_fun Try.prog 22; have ra := hR .add rfl; have rs := hR .sub rfl; have rm := hR .mul rfl; have rq := hR .quo rfl; have HC := Lib.hid hC; clear hC hR
  unfold outC outF
  rcases Bool.eq_false_or_eq_true B.x with hx | hx
  all_goals
    simp only [hx, if_true, if_false, Bool.false_eq_true]
    go_enter Try.func55, Try.ntmps55
    go_wp2
    go_ret
    refine ⟨_, rfl, ?_, ?_⟩
    · unfold CN
      simp only [cn_neg, HC.out .add rfl, HC.out .mul rfl, HC.out .quo rfl, HC.out .sub rfl]
    · (repeat (first | exact Below.refl _ _ | refine b_drewN ?_ _ | refine b_drew ?_ | refine b_alloc ?_ _ | refine b_then ?_ (by assumption)))
theorem specOut_any (B : Bl) (s p : Nat) (q : Nat) (w : World) (h : At w q B) : Calls Try.prog 51 #[.pointer (some ⟨q, 0, none⟩), .float .f32 s, .float .f32 p] w (RF (outC B s p) w) := by
  obtain ⟨R, N, hR, hC⟩ := ops_fun Try.prog 22; have ra := hR .add rfl; have rs := hR .sub rfl; have rm := hR .mul rfl; have rq := hR .quo rfl; have HC := Lib.hid hC; clear hC hR
  unfold outC outF
  obtain ⟨c0, c1, c2, c3, c4⟩ := h.cells
  clear h
  rcases Bool.eq_false_or_eq_true B.x with hx | hx
  all_goals
    rw [hx] at c4
    simp only [hx, if_true, if_false, Bool.false_eq_true]
    clear hx
    go_enter Try.func51, Try.ntmps51
    go_wp2
    go_region_law (fail)
    all_goals
      go_wp2
      go_ret
      refine ⟨_, rfl, ?_, ?_⟩
      · unfold CN
        simp only [cn_neg, HC.out .add rfl, HC.out .mul rfl, HC.out .quo rfl, HC.out .sub rfl]
      · (repeat (first | exact Below.refl _ _ | refine b_drewN ?_ _ | refine b_drew ?_ | refine b_alloc ?_ _ | refine b_then ?_ (by assumption)))
theorem implSpeedOut_any (B : Bl) (s p : Nat) (w : World) : Calls Try.prog 18 #[.agg #[.float .f32 B.a, .float .f32 B.b, .float .f32 B.ap, .float .f32 B.g, .bool B.x], .float .f32 s, .float .f32 p] w (RFC (zeroIf (codeS B s p) (outC B s p)) (codeS B s p) w) := by
  unfold codeS
  rcases Bool.eq_false_or_eq_true (okB B) with h1 | h1 <;> rcases Bool.eq_false_or_eq_true (plB s) with h2 | h2 <;> rcases Bool.eq_false_or_eq_true (ptB p) with h3 | h3
  all_goals
    simp only [h1, h2, h3, Bool.and_self, Bool.and_false, Bool.false_and, if_true, if_false, Bool.false_eq_true]
    go_enter Try.func18, Try.ntmps18
    go_wp2_with (first | (go_at_call 52; refine (validBelt_any _ _).mono ?_; rintro e w1 ⟨rfl, b1⟩; obtain ⟨c0, c1, c2, c3, c4⟩ := ((At.new w B).below b1).cells) | (go_at_call 53; refine (isPl_any _ _).mono ?_; rintro e w2 ⟨rfl, rfl⟩) | (go_at_call 54; refine (isPt_any _ _).mono ?_; rintro e w3 ⟨rfl, rfl⟩) | (go_at_call 55; refine (implOut_any B _ _ _).mono ?_; rintro e w2 ⟨r, rfl, hr, b2⟩))
    go_ret2
    refine ⟨_, rfl, by first | exact hr | rfl, ?_⟩
    (repeat (first | exact Below.refl _ _ | refine b_drewN ?_ _ | refine b_drew ?_ | refine b_alloc ?_ _ | refine b_then ?_ (by assumption)))
theorem specSpeedOut_any (B : Bl) (s p : Nat) (w : World) : Calls Try.prog 17 #[.agg #[.float .f32 B.a, .float .f32 B.b, .float .f32 B.ap, .float .f32 B.g, .bool B.x], .float .f32 s, .float .f32 p] w (RFC (zeroIf (codeS B s p) (outC B s p)) (codeS B s p) w) := by
  have h0 := Lib.hid (At.new w B)
  unfold codeS
  rcases Bool.eq_false_or_eq_true (okB B) with h1 | h1 <;> rcases Bool.eq_false_or_eq_true (plB s) with h2 | h2
  all_goals
    first
      | (have hc : codeP B 0 s = 0 := by simp [codeP, h1, h2, ps_zero])
      | (have hc : codeP B 0 s = 1 := by simp [codeP, h1, h2, ps_zero])
      | (have hc : codeP B 0 s = 2 := by simp [codeP, h1, h2, ps_zero])
    have Hc := Lib.hid hc
    clear hc
    rcases Bool.eq_false_or_eq_true (ptB p) with h3 | h3
    all_goals
      simp only [h1, h2, h3, Bool.and_self, Bool.and_false, Bool.false_and, if_true, if_false, Bool.false_eq_true]
      go_enter Try.func17, Try.ntmps17
      go_wp2_with (first | (go_at_call 44; refine (specAsk_is Hc.out _ _ (At.same h0.out (by rfl))).mono ?_; rintro e w1 ⟨rfl, b1⟩; have h5 := Lib.hid (At.on h0.out (by rfl) b1)) | (go_at_call 50; refine (l01Pt_any _ _).mono ?_; rintro e w3 ⟨rfl, rfl⟩) | (go_at_call 51; refine (specOut_any B _ _ _ _ (At.same h5.out (by rfl))).mono ?_; rintro e w2 ⟨r, rfl, hr, b2⟩))
      go_ret2
      refine ⟨_, rfl, by first | exact hr | rfl, ?_⟩
      (repeat (first | exact Below.refl _ _ | refine b_drewN ?_ _ | refine b_drew ?_ | refine b_alloc ?_ _ | refine b_then ?_ (by assumption)))
theorem implStr_any (B : Bl) (t s : Nat) (w : World) : Calls Try.prog 22 #[.agg #[.float .f32 B.a, .float .f32 B.b, .float .f32 B.ap, .float .f32 B.g, .bool B.x], .float .f32 t, .float .f32 s] w (RFC (zeroIf (codeT B t s) (strC B t s)) (codeT B t s) w) := by
  obtain ⟨R, N, hR, hC⟩ := ops_fun Try.prog 22; have ra := hR .add rfl; have rs := hR .sub rfl; have rm := hR .mul rfl; have rq := hR .quo rfl; have HC := Lib.hid hC; clear hC hR
  unfold codeT
  rcases Bool.eq_false_or_eq_true (okB B) with h1 | h1 <;> rcases Bool.eq_false_or_eq_true (psB t) with h2 | h2
  all_goals
    first
      | (have hc : codeP B t 0 = 0 := by simp [codeP, h1, h2, pl_zero])
      | (have hc : codeP B t 0 = 1 := by simp [codeP, h1, h2, pl_zero])
      | (have hc : codeP B t 0 = 2 := by simp [codeP, h1, h2, pl_zero])
    have Hc := Lib.hid hc
    clear hc
    rcases Bool.eq_false_or_eq_true (oGe s 1065353216) with h3 | h3 <;> rcases Bool.eq_false_or_eq_true (oLe s 1233125376) with h4 | h4
    all_goals
      simp only [stB, h1, h2, h3, h4, Bool.and_self, Bool.and_false, Bool.false_and, Bool.and_true, if_true, if_false, Bool.false_eq_true]
      unfold oGe at h3
      unfold oLe at h4
      clear h1 h2
      go_enter Try.func22, Try.ntmps22
      go_wp2_with (first | (go_at_call 47; refine (implAsk_is Hc.out _).mono ?_; rintro e w1 ⟨rfl, b1⟩; obtain ⟨c0, c1, c2, c3, c4⟩ := ((At.new w B).below b1).cells) | (go_at_call 58; refine (implLen_any B _).mono ?_; rintro e w2 ⟨r, rfl, hr, b2⟩))
      go_ret2
      refine ⟨_, rfl, ?_, ?_⟩
      · first
          | rfl
          | (unfold CN strC zeroIf at *
             rw [← hr, if_pos rfl]
             simp only [HC.out .mul rfl, HC.out .add rfl, HC.out .quo rfl])
      · (repeat (first | exact Below.refl _ _ | refine b_drewN ?_ _ | refine b_drew ?_ | refine b_alloc ?_ _ | refine b_then ?_ (by assumption)))
theorem specStr_any (B : Bl) (t s : Nat) (w : World) : Calls Try.prog 21 #[.agg #[.float .f32 B.a, .float .f32 B.b, .float .f32 B.ap, .float .f32 B.g, .bool B.x], .float .f32 t, .float .f32 s] w (RFC (zeroIf (codeT B t s) (strC B t s)) (codeT B t s) w) := by
  obtain ⟨R, N, hR, hC⟩ := ops_fun Try.prog 22; have ra := hR .add rfl; have rs := hR .sub rfl; have rm := hR .mul rfl; have rq := hR .quo rfl; have HC := Lib.hid hC; clear hC hR
  have h0 := Lib.hid (At.new w B)
  unfold codeT
  rcases Bool.eq_false_or_eq_true (okB B) with h1 | h1 <;> rcases Bool.eq_false_or_eq_true (psB t) with h2 | h2
  all_goals
    first
      | (have hc : codeP B t 0 = 0 := by simp [codeP, h1, h2, pl_zero])
      | (have hc : codeP B t 0 = 1 := by simp [codeP, h1, h2, pl_zero])
      | (have hc : codeP B t 0 = 2 := by simp [codeP, h1, h2, pl_zero])
    have Hc := Lib.hid hc
    clear hc
    rcases Bool.eq_false_or_eq_true (oGe s 1065353216) with h3 | h3 <;> rcases Bool.eq_false_or_eq_true (oLe s 1233125376) with h4 | h4
    all_goals
      simp only [stB, h1, h2, h3, h4, Bool.and_self, Bool.and_false, Bool.false_and, Bool.and_true, if_true, if_false, Bool.false_eq_true]
      unfold oGe at h3
      unfold oLe at h4
      clear h1 h2
      go_enter Try.func21, Try.ntmps21
      go_wp2_with (first | (go_at_call 44; refine (specAsk_is Hc.out _ _ (At.same h0.out (by rfl))).mono ?_; rintro e w1 ⟨rfl, b1⟩; have h5 := Lib.hid (At.on h0.out (by rfl) b1)) | (go_at_call 57; refine (specLen_any B _ _ (At.same h5.out (by rfl))).mono ?_; rintro e w2 ⟨r, rfl, hr, b2⟩))
      go_ret2
      refine ⟨_, rfl, ?_, ?_⟩
      · first
          | rfl
          | (unfold CN strC zeroIf at *
             rw [← hr, if_pos rfl]
             simp only [HC.out .mul rfl, HC.out .add rfl, HC.out .quo rfl])
      · (repeat (first | exact Below.refl _ _ | refine b_drewN ?_ _ | refine b_drew ?_ | refine b_alloc ?_ _ | refine b_then ?_ (by assumption)))
end Go.Proofs.Ytdfookgncokgjad
