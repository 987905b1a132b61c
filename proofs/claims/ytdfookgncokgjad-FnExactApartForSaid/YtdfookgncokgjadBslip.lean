/-
  What slips; how many belts are needed.
-/
import Derived.Test.YtdfookgncokgjadBspd
import Derived.Test.YtdfookgncokgjadSz
namespace Go.Proofs.Ytdfookgncokgjad
open Go.RowKit Go.ChangeShapes Go.WideShapes Go.Deep
attribute [local go_sem ↓] Go.wp_at_zero Go.wp_at_succ
set_option linter.unusedVariables false
set_option linter.unusedSimpArgs false
def sizeC (m : Nat) : Nat := if oLt m 0 then fneg (cn m) else cn m
def loadC (B : Bl) (m : Nat) : Nat := f2 .quo (sizeC m) (cn B.a)
def slipC (B : Bl) (t m : Nat) : Nat := if oEq (loadC B m) (cn 0) then cn 0 else if oGe (loadC B m) (pullC B t) then cn 1065353216 else f2 .quo (f2 .quo (loadC B m) (pullC B t)) (cn 1115684864)
theorem sub_fneg {m : Nat} (hm : m < 4294967296) (h : FloatKind.f32.format.order m 0 = some .lt) : f2 .sub (cn 0) (cn m) = fneg (cn m) := by
  have h1 := zero_sub hm h
  rw [f2_cn, ← cn_neg, cn_of_not (floatBits_notNan h1)]
  unfold f2
  rw [h1]
  rfl
theorem ge_t {x y : Nat} (h : (FloatKind.f32.format.order x y == some .gt) = true ∨ (FloatKind.f32.format.order x y == some .eq) = true) : oGe x y = true := by
  unfold oGe; rcases h with h | h <;> simp [h]
theorem ge_f {x y : Nat} (h : (FloatKind.f32.format.order x y == some .gt) = false ∧ (FloatKind.f32.format.order x y == some .eq) = false) : oGe x y = false := by
  unfold oGe; rw [h.1, h.2]; rfl
theorem slip_z {B : Bl} {t m rl : Nat} (hl : CN rl (loadC B m)) (h0 : oEq rl 0 = true) : slipC B t m = cn 0 := by
  have h : FloatKind.f32.format.order rl 0 = some .eq := by simpa [oEq] using h0
  have e : oEq (loadC B m) (cn 0) = true := by
    unfold CN at hl
    rw [oEq_cn (x' := rl) (y' := 0) (by rw [← hl, cn_cn]) (cn_cn 0)]
    simp [oEq, h]
  unfold slipC
  rw [if_pos e]
theorem slip_n {B : Bl} {m rl : Nat} (hl : CN rl (loadC B m)) (h : ¬ FloatKind.f32.format.order rl 0 = some .eq) : ¬ oEq (loadC B m) (cn 0) = true := by
  unfold CN at hl
  rw [oEq_cn (x' := rl) (y' := 0) (by rw [← hl, cn_cn]) (cn_cn 0)]
  simp [oEq, h]
theorem slip_1 {B : Bl} {t m rl rp : Nat} (hl : CN rl (loadC B m)) (hp : CN rp (pullC B t)) (h0 : oEq rl 0 = false) (h9 : oGe rl rp = true) : slipC B t m = cn 1065353216 := by
  have h : ¬ FloatKind.f32.format.order rl 0 = some .eq := by simpa [oEq] using h0
  have h2 : FloatKind.f32.format.order rl rp = some .gt ∨ FloatKind.f32.format.order rl rp = some .eq := by simpa [oGe] using h9
  have h3 := slip_n hl h
  have e : oGe (loadC B m) (pullC B t) = true := by
    unfold CN at hl hp
    rw [oGe_cn (x' := rl) (y' := rp) (by rw [← hl, cn_cn]) (by rw [← hp, cn_cn])]
    simpa [oGe] using h2
  unfold slipC
  rw [if_neg h3, if_pos e]
theorem slip_q {B : Bl} {t m rl rp : Nat} (hl : CN rl (loadC B m)) (hp : CN rp (pullC B t)) (h0 : oEq rl 0 = false) (h9 : oGe rl rp = false) : slipC B t m = f2 .quo (f2 .quo (cn rl) (cn rp)) (cn 1115684864) := by
  have h : ¬ FloatKind.f32.format.order rl 0 = some .eq := by simpa [oEq] using h0
  have h2 : ¬ (FloatKind.f32.format.order rl rp = some .gt ∨ FloatKind.f32.format.order rl rp = some .eq) := by simpa [oGe] using h9
  have h3 := slip_n hl h
  have e : oGe (loadC B m) (pullC B t) = false := by
    unfold CN at hl hp
    rw [oGe_cn (x' := rl) (y' := rp) (by rw [← hl, cn_cn]) (by rw [← hp, cn_cn])]
    simpa [oGe] using h2
  unfold slipC
  rw [if_neg h3, if_neg (by rw [e]; decide)]
  unfold CN at hl hp
  rw [hl, hp]
theorem implSize_any (m : Nat) (hm : m < 4294967296) (w : World) : Calls Try.prog 49 #[.float .f32 m] w (RF (sizeC m) w) := by
  obtain ⟨R, N, hR, hC⟩ := ops_fun Try.prog 22; have ra := hR .add rfl; have rs := hR .sub rfl; have rm := hR .mul rfl; have rq := hR .quo rfl; have HC := Lib.hid hC; clear hC hR
  unfold sizeC
  rcases Bool.eq_false_or_eq_true (oLt m 0) with h | h
  · have h2 : FloatKind.f32.format.order m 0 = some .lt := by simpa [oLt] using h
    have hs := Lib.hid (sub_fneg hm h2)
    simp only [h, if_true]
    clear h
    go_enter Try.func49, Try.ntmps49
    go_wp2
    go_ret
    refine ⟨_, rfl, ?_, ?_⟩
    · unfold CN
      rw [HC.out .sub rfl, hs.out]
    · (repeat (first | exact Below.refl _ _ | refine b_drewN ?_ _ | refine b_drew ?_ | refine b_alloc ?_ _ | refine b_then ?_ (by assumption)))
  · have h2 : (FloatKind.f32.format.order m 0 == some .lt) = false := h
    simp only [h, if_false, Bool.false_eq_true]
    clear h
    go_enter Try.func49, Try.ntmps49
    go_wp2
    go_ret
    exact ⟨_, rfl, rfl, Below.refl _ _⟩
theorem specSize_any (m : Nat) (w : World) : Calls Try.prog 46 #[.float .f32 m] w fun e w' => ∃ r, e = .returned (.float .f32 r) ∧ CN r (sizeC m) ∧ w = w' := by
  unfold sizeC
  rcases Bool.eq_false_or_eq_true (oLt m 0) with h | h
  · have h2 : FloatKind.f32.format.order m 0 = some .lt := by simpa [oLt] using h
    simp only [h, if_true]
    clear h
    go_enter Try.func46, Try.ntmps46
    go_wp2
    go_ret
    exact ⟨_, rfl, cn_neg m, rfl⟩
  · have h2 : (FloatKind.f32.format.order m 0 == some .lt) = false := h
    simp only [h, if_false, Bool.false_eq_true]
    clear h
    go_enter Try.func46, Try.ntmps46
    go_wp2
    go_ret
    exact ⟨_, rfl, rfl, rfl⟩
set_option maxHeartbeats 4000000 in
theorem implSlip_any (B : Bl) (t m : Nat) (hm : m < 4294967296) (w : World) : Calls Try.prog 15 #[.agg #[.float .f32 B.a, .float .f32 B.b, .float .f32 B.ap, .float .f32 B.g, .bool B.x], .float .f32 t, .float .f32 m] w (RFC (zeroIf (codeP B t m) (slipC B t m)) (codeP B t m) w) := by
  obtain ⟨R, N, hR, hC⟩ := ops_fun Try.prog 22; have ra := hR .add rfl; have rs := hR .sub rfl; have rm := hR .mul rfl; have rq := hR .quo rfl; have HC := Lib.hid hC; clear hC hR
  obtain ⟨c, hc⟩ : ∃ c, codeP B t m = c := ⟨_, rfl⟩
  have h3 := codeP_cases B t m
  rw [hc] at h3 ⊢
  have Hc := Lib.hid hc
  have Hm := Lib.hid hm
  clear hc hm
  rcases h3 with rfl | rfl | rfl
  · go_enter Try.func15, Try.ntmps15
    go_wp2_with (go_at_call 47; refine (implAsk_is Hc.out _).mono ?_; rintro e w1 ⟨rfl, b1⟩; have A1 := Lib.hid ((At.new w B).below b1); obtain ⟨c0, c1, c2, c3, c4⟩ := A1.out.cells)
    go_region_law (first | (go_simp; go_at_call 48; refine (implPull_any B _ _).mono ?_; rintro e w2 ⟨rp, rfl, hp, b2⟩; have A2 := Lib.hid (At.on A1.out (by rfl) b2); obtain ⟨d0, d1, d2, d3, d4⟩ := A2.out.cells; dsimp only) | (go_simp; go_at_call 49; refine (implSize_any _ Hm.out _).mono ?_; rintro e w3 ⟨rs, rfl, hs, b3⟩; first | (have A3 := Lib.hid (At.on A2.out (by rfl) b3); obtain ⟨e0, e1, e2, e3, e4⟩ := A3.out.cells) | (have A2' := Lib.hid (At.on A1.out (by rfl) b3); obtain ⟨e0, e1, e2, e3, e4⟩ := A2'.out.cells); dsimp only))
    all_goals
      have hl : Hid (∀ W, CN (R .quo rs B.a W) (loadC B m)) := fun W => by
        unfold CN loadC at *
        rw [HC.out .quo rfl, hs]
      go_wp2
      all_goals
        go_ret2
        refine ⟨_, rfl, ?_, ?_⟩
        · (unfold zeroIf; rw [if_pos rfl]; first | (rw [slip_z (hl.out _) (by unfold oEq; first | assumption | (simp; assumption))]; rfl) | (rw [slip_1 (hl.out _) hp (by unfold oEq; first | assumption | (simp; assumption)) (by first | exact ge_t (by assumption) | exact ge_f (by assumption))]; rfl) | (rw [slip_q (hl.out _) hp (by unfold oEq; first | assumption | (simp; assumption)) (by first | exact ge_t (by assumption) | exact ge_f (by assumption))]; unfold CN; simp only [HC.out .quo rfl]))
        · (repeat (first | exact Below.refl _ _ | refine b_drewN ?_ _ | refine b_drew ?_ | refine b_alloc ?_ _ | refine b_then ?_ (by assumption)))
  all_goals
    go_enter Try.func15, Try.ntmps15
    go_wp2_with (go_at_call 47; refine (implAsk_is Hc.out _).mono ?_; rintro e w1 ⟨rfl, b1⟩)
    go_ret2
    refine ⟨_, rfl, rfl, ?_⟩
    (repeat (first | exact Below.refl _ _ | refine b_drewN ?_ _ | refine b_drew ?_ | refine b_alloc ?_ _ | refine b_then ?_ (by assumption)))
set_option maxHeartbeats 4000000 in
theorem specSlip_any (B : Bl) (t m : Nat) (w : World) : Calls Try.prog 13 #[.agg #[.float .f32 B.a, .float .f32 B.b, .float .f32 B.ap, .float .f32 B.g, .bool B.x], .float .f32 t, .float .f32 m] w (RFC (zeroIf (codeP B t m) (slipC B t m)) (codeP B t m) w) := by
  obtain ⟨R, N, hR, hC⟩ := ops_fun Try.prog 22; have ra := hR .add rfl; have rs := hR .sub rfl; have rm := hR .mul rfl; have rq := hR .quo rfl; have HC := Lib.hid hC; clear hC hR
  have h0 := Lib.hid (At.new w B)
  obtain ⟨c, hc⟩ : ∃ c, codeP B t m = c := ⟨_, rfl⟩
  have h3 := codeP_cases B t m
  rw [hc] at h3 ⊢
  have Hc := Lib.hid hc
  clear hc
  rcases h3 with rfl | rfl | rfl
  · go_enter Try.func13, Try.ntmps13
    go_wp2_with (first | (go_at_call 44; refine (specAsk_is Hc.out _ _ (At.same h0.out (by rfl))).mono ?_; rintro e w1 ⟨rfl, b1⟩; have h5 := Lib.hid (At.on h0.out (by rfl) b1)) | (go_at_call 45; refine (specPull_any B _ _ _ (At.same h5.out (by rfl))).mono ?_; rintro e w2 ⟨rp, rfl, hp, b2⟩; have A2 := Lib.hid (At.on h5.out (by rfl) b2); obtain ⟨d0, d1, d2, d3, d4⟩ := A2.out.cells))
    go_region_law (go_simp; go_at_call 46; refine (specSize_any _ _).mono ?_; rintro e w3 ⟨rs, rfl, hs, rfl⟩; dsimp only)
    all_goals
      have hl : Hid (∀ W, CN (R .quo rs B.a W) (loadC B m)) := fun W => by
        unfold CN loadC at *
        rw [HC.out .quo rfl, hs]
      go_wp2
      all_goals
        go_ret2
        refine ⟨_, rfl, ?_, ?_⟩
        · (unfold zeroIf; rw [if_pos rfl]; first | (rw [slip_z (hl.out _) (by unfold oEq; first | assumption | (simp; assumption))]; rfl) | (rw [slip_1 (hl.out _) hp (by unfold oEq; first | assumption | (simp; assumption)) (by first | exact ge_t (by assumption) | exact ge_f (by assumption))]; rfl) | (rw [slip_q (hl.out _) hp (by unfold oEq; first | assumption | (simp; assumption)) (by first | exact ge_t (by assumption) | exact ge_f (by assumption))]; unfold CN; simp only [HC.out .quo rfl]))
        · (repeat (first | exact Below.refl _ _ | refine b_drewN ?_ _ | refine b_drew ?_ | refine b_alloc ?_ _ | refine b_then ?_ (by assumption)))
  all_goals
    go_enter Try.func13, Try.ntmps13
    go_wp2_with (go_at_call 44; refine (specAsk_is Hc.out _ _ (At.same h0.out (by rfl))).mono ?_; rintro e w1 ⟨rfl, b1⟩)
    go_ret2
    refine ⟨_, rfl, rfl, ?_⟩
    (repeat (first | exact Below.refl _ _ | refine b_drewN ?_ _ | refine b_drew ?_ | refine b_alloc ?_ _ | refine b_then ?_ (by assumption)))
end Go.Proofs.Ytdfookgncokgjad
