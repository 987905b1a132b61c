/-
  The steady speed: both sides and the law.
-/
import Derived.Test.YtagjkagfnfonpaaHv
import Derived.Test.YtagjkagfnfonpaaSe
namespace Go.Proofs.Ytagjkagfnfonpaa
open Go.RowKit Go.ChangeShapes Go.WideShapes Go.Deep
attribute [local go_sem ↓] Go.wp_at_zero Go.wp_at_succ
set_option linter.unusedVariables false
set_option linter.unusedSimpArgs false
set_option maxRecDepth 100000
def inB (x lo hi : Int) : Bool := decide (lo ≤ x) && decide (x ≤ hi)
theorem l00In_any (x lo hi : Int) (w : World) : Calls Try.prog 64 #[.int .i64 x, .int .i64 lo, .int .i64 hi] w fun e w' => e = .returned (.bool (inB x lo hi)) ∧ w = w' := by
  unfold inB
  go_enter Try.func64, Try.ntmps64
  go_wp2
  all_goals
    go_ret
    refine ⟨by first | (simp_all; done) | (simp_all; omega) | (simp_all; intros; omega), rfl⟩
theorem l00In_is {x lo hi : Int} {t : Bool} (h : inB x lo hi = t) (w : World) : Calls Try.prog 64 #[.int .i64 x, .int .i64 lo, .int .i64 hi] w fun e w' => e = .returned (.bool t) ∧ w = w' := by
  subst h
  exact l00In_any x lo hi w
def codeK (c : Int) (g : Bool) : Int := if c = 0 then (if g then 6 else 0) else c
def codeSp (S : Sn) (t f : Nat) (K : Int) : Int := codeR (okS S) ((psB t && rtB f) && inB K 0 60)
theorem steadyV_if (k : Nat) (S : Sn) (t f : Nat) : zeroIf (codeSt (oGt (sumLd [S] 0 f) t)) (steadyC [S] t f k) = steadyV [S] t f k := by
  unfold steadyV codeSt zeroIf
  cases oGt (sumLd [S] 0 f) t <;> rfl
theorem code_bad {S : Sn} {t f : Nat} {K : Int} {c : Int} {g : Bool} {x : Nat} (hc : codeSp S t f K = c) (h : c ≠ 0) : codeK (codeSp S t f K) g = c ∧ zeroIf (codeK (codeSp S t f K) g) x = cn 0 := by
  subst hc
  have : codeK (codeSp S t f K) g = codeSp S t f K := by unfold codeK; rw [if_neg h]
  rw [this]
  refine ⟨rfl, ?_⟩
  unfold zeroIf
  rw [if_neg h]
theorem code_good {S : Sn} {t f : Nat} {K : Int} {g : Bool} (hc : codeSp S t f K = 0) : codeK (codeSp S t f K) g = codeSt g := by
  rw [hc]
  rfl
set_option maxHeartbeats 4000000 in
theorem specSteadySp_any (S : Sn) (t f : Nat) (K : Int) (w : World) : Calls Try.prog 38 #[.agg #[.float .f32 S.d, .float .f32 S.r, .float .f32 S.b, .float .f32 S.g], .float .f32 t, .float .f32 f, .int .i64 K] w (RFC (zeroIf (codeK (codeSp S t f K) (oGt (sumLd [S] 0 f) t)) (steadyC [S] t f K.toNat)) (codeK (codeSp S t f K) (oGt (sumLd [S] 0 f) t)) w) := by
  have ha := fun w => specTurned_any S t f w
  obtain ⟨C, hC⟩ : ∃ C, codeR (okS S) (psB t && rtB f) = C := ⟨_, rfl⟩
  rw [hC] at ha
  have HA := Lib.hid ha
  have HCC := Lib.hid hC
  have HC3 := Lib.hid (codeR_cases hC)
  clear ha hC
  have h0 := Lib.hid (AtSn.new w S)
  rcases HC3.out with rfl | rfl | rfl
  · have hok : okS S = true ∧ (psB t && rtB f) = true := by
      have := HCC.out
      unfold codeR at this
      cases h1 : okS S <;> cases h2 : (psB t && rtB f) <;> simp_all
    rcases Bool.eq_false_or_eq_true (inB K 0 60) with hi | hi
    · have hc : codeSp S t f K = 0 := by unfold codeSp codeR; rw [hok.1, hok.2, hi]; rfl
      rw [code_good hc, steadyV_if]
      obtain ⟨k, rfl⟩ := Int.eq_ofNat_of_zero_le (show 0 ≤ K by unfold inB at hi; simp at hi; exact hi.1)
      have hk : k ≤ 60 := by unfold inB at hi; simp at hi; omega
      rw [Int.toNat_natCast]
      have HI := Lib.hid (fun w => l00In_is hi w)
      clear hi hc hok HCC HC3
      obtain ⟨gg, hg⟩ : ∃ gg, oGt (sumLd [S] 0 f) t = gg := ⟨_, rfl⟩
      have HG := Lib.hid hg
      rw [hg]
      clear hg
      go_enter Try.func38, Try.ntmps38
      go_wp2_with (first | (go_at_call 55; refine (HA.out _).mono ?_; rintro e w1 ⟨rfl, b1⟩; obtain ⟨c0, c1, c2, c3⟩ := (h0.out.on (by rfl) b1).cells; have B1 := Lib.hid b1) | (go_at_call 64; refine (HI.out _).mono ?_; rintro e w2 ⟨rfl, rfl⟩))
      refine (specSteady_any _ 1 1 [S] t f k _ rfl (by decide) hk (one_stone w1 S)).mono ?_
      rw [HG.out]
      rintro e w3 ⟨r, rfl, hr, b3⟩
      have B3 : Hid (Below w.heap.size w w3) := b_then (b_alloc (b_then (b_alloc (Below.refl _ _) _) B1.out) _) b3
      have HR := Lib.hid hr
      clear b3 hr
      rcases HG2 : gg with _ | _
      · go_wp2
        go_ret2
        rw [show codeSt gg = 0 by rw [HG2]; rfl]
        exact ⟨_, rfl, HR.out, B3.out⟩
      · go_wp2
        go_ret2
        rw [show codeSt gg = 6 by rw [HG2]; rfl]
        refine ⟨_, rfl, ?_, B3.out⟩
        unfold steadyV
        rw [HG.out, HG2]
        exact cn_lit _
    · have hc : codeSp S t f K = 2 := by unfold codeSp codeR; rw [hok.1, hok.2, hi]; rfl
      obtain ⟨e1, e2⟩ := code_bad (g := oGt (sumLd [S] 0 f) t) (x := steadyC [S] t f K.toNat) hc (by decide)
      rw [e2, e1]
      have HI := Lib.hid (fun w => l00In_is hi w)
      clear hi hc hok HCC HC3 e1 e2
      go_enter Try.func38, Try.ntmps38
      go_wp2_with (first | (go_at_call 55; refine (HA.out _).mono ?_; rintro e w1 ⟨rfl, b1⟩) | (go_at_call 64; refine (HI.out _).mono ?_; rintro e w2 ⟨rfl, rfl⟩))
      go_ret2
      refine ⟨_, rfl, cn_lit _, ?_⟩
      (repeat (first | exact Below.refl _ _ | refine b_drewN ?_ _ | refine b_drew ?_ | refine b_alloc ?_ _ | refine b_then ?_ (by assumption)))
  all_goals
    first
      | (have hc : codeSp S t f K = 1 := by
           have := HCC.out
           unfold codeSp; unfold codeR at this ⊢
           cases h1 : okS S <;> cases h2 : (psB t && rtB f) <;> simp_all)
      | (have hc : codeSp S t f K = 2 := by
           have := HCC.out
           unfold codeSp; unfold codeR at this ⊢
           cases h1 : okS S <;> cases h2 : (psB t && rtB f) <;> simp_all)
    obtain ⟨e1, e2⟩ := code_bad (g := oGt (sumLd [S] 0 f) t) (x := steadyC [S] t f K.toNat) hc (by decide)
    rw [e2, e1]
    clear hc HCC HC3 e1 e2
    go_enter Try.func38, Try.ntmps38
    go_wp2_with (first | (go_at_call 55; refine (HA.out _).mono ?_; rintro e w1 ⟨rfl, b1⟩))
    go_ret2
    refine ⟨_, rfl, cn_lit _, ?_⟩
    (repeat (first | exact Below.refl _ _ | refine b_drewN ?_ _ | refine b_drew ?_ | refine b_alloc ?_ _ | refine b_then ?_ (by assumption)))
theorem codeSp_of {S : Sn} {t f : Nat} {K : Int} {r : Bool} (h : ((psB t && rtB f) && inB K 0 60) = r) : codeSp S t f K = codeR (okS S) r := by unfold codeSp; rw [h]
set_option maxHeartbeats 4000000 in
theorem implSteady_bad (S : Sn) (t f : Nat) (K : Int) (h : ((psB t && rtB f) && inB K 0 60) = false) (w : World) : Calls Try.prog 39 #[.agg #[.float .f32 S.d, .float .f32 S.r, .float .f32 S.b, .float .f32 S.g], .float .f32 t, .float .f32 f, .int .i64 K] w (RFC (zeroIf (codeK (codeSp S t f K) (oGt (sumLd [S] 0 f) t)) (steadyC [S] t f K.toNat)) (codeK (codeSp S t f K) (oGt (sumLd [S] 0 f) t)) w) := by
  have hE := fun w => stoneError_any S false w
  obtain ⟨C, hC⟩ : ∃ C, codeR (okS S) false = C := ⟨_, rfl⟩
  rw [hC] at hE
  have hc : codeSp S t f K = C := (codeSp_of h).trans hC
  have h2 : C = 1 ∨ C = 2 := by subst hC; unfold codeR; cases okS S <;> simp
  have H2 := Lib.hid h2
  obtain ⟨e1, e2⟩ := code_bad (g := oGt (sumLd [S] 0 f) t) (x := steadyC [S] t f K.toNat) hc (by omega)
  rw [e2, e1]
  have HE := Lib.hid hE
  have hP := fun w => isPlainSize_any t w
  have hQ := fun w => isRate_any f w
  clear e1 e2 hE hc hC H2
  rcases h2 with rfl | rfl
  all_goals
    rcases Bool.eq_false_or_eq_true (psB t) with p1 | p1
    · rw [p1] at hP
      have HP := Lib.hid hP; clear hP
      rcases Bool.eq_false_or_eq_true (rtB f) with p2 | p2
      · rw [p2] at hQ
        have HQ := Lib.hid hQ; clear hQ
        rw [p1, p2] at h
        unfold inB at h
        by_cases p3 : 0 ≤ K
        · have p4' : ¬ K ≤ 60 := by simpa [p3] using h
          have p4 : decide (K ≤ 60) = false := decide_eq_false p4'
          have p3' : decide (0 ≤ K) = true := decide_eq_true p3
          clear h p1 p2
          go_enter Try.func39, Try.ntmps39
          go_wp2_with (first | (go_at_call 58; refine (HP.out _).mono ?_; rintro e w1 ⟨rfl, rfl⟩) | (go_at_call 16; refine (HQ.out _).mono ?_; rintro e w1 ⟨rfl, rfl⟩) | (go_at_call 57; refine (HE.out _).mono ?_; rintro e w2 ⟨rfl, b2⟩))
          go_ret2
          refine ⟨_, rfl, cn_lit _, ?_⟩
          (repeat (first | exact Below.refl _ _ | refine b_drewN ?_ _ | refine b_drew ?_ | refine b_alloc ?_ _ | refine b_then ?_ (by assumption)))
        · have p3' : decide (0 ≤ K) = false := decide_eq_false p3
          clear h p1 p2
          go_enter Try.func39, Try.ntmps39
          go_wp2_with (first | (go_at_call 58; refine (HP.out _).mono ?_; rintro e w1 ⟨rfl, rfl⟩) | (go_at_call 16; refine (HQ.out _).mono ?_; rintro e w1 ⟨rfl, rfl⟩) | (go_at_call 57; refine (HE.out _).mono ?_; rintro e w2 ⟨rfl, b2⟩))
          go_ret2
          refine ⟨_, rfl, cn_lit _, ?_⟩
          (repeat (first | exact Below.refl _ _ | refine b_drewN ?_ _ | refine b_drew ?_ | refine b_alloc ?_ _ | refine b_then ?_ (by assumption)))
      · rw [p2] at hQ
        have HQ := Lib.hid hQ; clear hQ h p1 p2
        go_enter Try.func39, Try.ntmps39
        go_wp2_with (first | (go_at_call 58; refine (HP.out _).mono ?_; rintro e w1 ⟨rfl, rfl⟩) | (go_at_call 16; refine (HQ.out _).mono ?_; rintro e w1 ⟨rfl, rfl⟩) | (go_at_call 57; refine (HE.out _).mono ?_; rintro e w2 ⟨rfl, b2⟩))
        go_ret2
        refine ⟨_, rfl, cn_lit _, ?_⟩
        (repeat (first | exact Below.refl _ _ | refine b_drewN ?_ _ | refine b_drew ?_ | refine b_alloc ?_ _ | refine b_then ?_ (by assumption)))
    · rw [p1] at hP
      have HP := Lib.hid hP; clear hP h p1
      have HQ := Lib.hid hQ; clear hQ
      go_enter Try.func39, Try.ntmps39
      go_wp2_with (first | (go_at_call 58; refine (HP.out _).mono ?_; rintro e w1 ⟨rfl, rfl⟩) | (go_at_call 16; refine (HQ.out _).mono ?_; rintro e w1 ⟨rfl, rfl⟩) | (go_at_call 57; refine (HE.out _).mono ?_; rintro e w2 ⟨rfl, b2⟩))
      go_ret2
      refine ⟨_, rfl, cn_lit _, ?_⟩
      (repeat (first | exact Below.refl _ _ | refine b_drewN ?_ _ | refine b_drew ?_ | refine b_alloc ?_ _ | refine b_then ?_ (by assumption)))
set_option maxHeartbeats 4000000 in
theorem implSteady_good (S : Sn) (t f : Nat) (k : Nat) (p1 : psB t = true) (p2 : rtB f = true) (hk : k ≤ 60) (w : World) : Calls Try.prog 39 #[.agg #[.float .f32 S.d, .float .f32 S.r, .float .f32 S.b, .float .f32 S.g], .float .f32 t, .float .f32 f, .int .i64 (k : Int)] w (RFC (zeroIf (codeK (codeSp S t f k) (oGt (sumLd [S] 0 f) t)) (steadyC [S] t f k)) (codeK (codeSp S t f k) (oGt (sumLd [S] 0 f) t)) w) := by
  have hE := fun w => stoneError_any S true w
  obtain ⟨C, hC⟩ : ∃ C, codeR (okS S) true = C := ⟨_, rfl⟩
  rw [hC] at hE
  have hi : inB (k : Int) 0 60 = true := by unfold inB; simp; omega
  have hc : codeSp S t f k = C := (codeSp_of (by rw [p1, p2, hi]; rfl)).trans hC
  have h2 : C = 0 ∨ C = 1 := by subst hC; unfold codeR; cases okS S <;> simp
  have HE := Lib.hid hE
  have hP := fun w => isPlainSize_any t w
  have hQ := fun w => isRate_any f w
  rw [p1] at hP
  rw [p2] at hQ
  have HP := Lib.hid hP; have HQ := Lib.hid hQ
  have k0 : (0 : Int) ≤ (k : Int) := by omega
  have k1 : (k : Int) ≤ 60 := by omega
  have h0 := Lib.hid (AtSn.new w S)
  rcases h2 with rfl | rfl
  · rw [code_good hc, steadyV_if]
    clear hP hQ p1 p2 hE hc hC hi
    go_enter Try.func39, Try.ntmps39
    go_wp2_with (first | (go_at_call 58; refine (HP.out _).mono ?_; rintro e w1 ⟨rfl, rfl⟩) | (go_at_call 16; refine (HQ.out _).mono ?_; rintro e w1 ⟨rfl, rfl⟩) | (go_at_call 57; refine (HE.out _).mono ?_; rintro e w2 ⟨rfl, b2⟩; obtain ⟨c0, c1, c2, c3⟩ := (h0.out.on (by rfl) b2).cells; have B2 : Hid (Below w.heap.size w w2) := b_then (b_alloc (Below.refl _ _) _) b2) | (go_at_call 66; refine (loadWith_any _ _ _ _ _).mono ?_; rintro e w3 ⟨rfl, rfl⟩))
    have he := env_new (A := some ⟨w2.heap.size, 0, none⟩) (n := 1) (c := 1) f (one_stone w2 S)
    rw [show (w2.alloc (.cells #[.float .f32 S.d, .float .f32 S.r, .float .f32 S.b, .float .f32 S.g] 27)).heap.size = w2.heap.size + 1 by simp] at he
    refine (steady_any (n := 1) (ps := [S]) rfl (by omega) t k hk _ he).mono ?_
    clear he
    rintro e w4 ⟨r, rfl, hr, b4⟩
    have B4 : Hid (Below w.heap.size w w4) := b_then (b_alloc (b_alloc (b_alloc B2.out _) _) _) b4
    clear b4
    go_wp2
    go_ret2
    exact ⟨_, rfl, hr, B4.out⟩
  · obtain ⟨e1, e2⟩ := code_bad (g := oGt (sumLd [S] 0 f) t) (x := steadyC [S] t f k) hc (by decide)
    rw [e2, e1]
    clear hP hQ p1 p2 hE hc hC hi e1 e2
    go_enter Try.func39, Try.ntmps39
    go_wp2_with (first | (go_at_call 58; refine (HP.out _).mono ?_; rintro e w1 ⟨rfl, rfl⟩) | (go_at_call 16; refine (HQ.out _).mono ?_; rintro e w1 ⟨rfl, rfl⟩) | (go_at_call 57; refine (HE.out _).mono ?_; rintro e w2 ⟨rfl, b2⟩))
    go_ret2
    refine ⟨_, rfl, cn_lit _, ?_⟩
    (repeat (first | exact Below.refl _ _ | refine b_drewN ?_ _ | refine b_drew ?_ | refine b_alloc ?_ _ | refine b_then ?_ (by assumption)))
theorem implSteadySp_any (S : Sn) (t f : Nat) (K : Int) (w : World) : Calls Try.prog 39 #[.agg #[.float .f32 S.d, .float .f32 S.r, .float .f32 S.b, .float .f32 S.g], .float .f32 t, .float .f32 f, .int .i64 K] w (RFC (zeroIf (codeK (codeSp S t f K) (oGt (sumLd [S] 0 f) t)) (steadyC [S] t f K.toNat)) (codeK (codeSp S t f K) (oGt (sumLd [S] 0 f) t)) w) := by
  rcases Bool.eq_false_or_eq_true ((psB t && rtB f) && inB K 0 60) with h | h
  · have h' := h
    unfold inB at h'
    simp only [Bool.and_eq_true, decide_eq_true_eq] at h'
    obtain ⟨⟨p1, p2⟩, p3, p4⟩ := h'
    obtain ⟨k, rfl⟩ := Int.eq_ofNat_of_zero_le p3
    rw [Int.toNat_natCast]
    exact implSteady_good S t f k p1 p2 (by omega) w
  · exact implSteady_bad S t f K h w
set_option maxRecDepth 100000 in
set_option maxHeartbeats 4000000 in
theorem walk_FnExactSteadySpeed (S : Sn) (wS : (Lit.float .f32 S.d).wf = true ∧ (Lit.float .f32 S.r).wf = true ∧ (Lit.float .f32 S.b).wf = true ∧ (Lit.float .f32 S.g).wf = true) (t : Nat) (wt : (Lit.float .f32 t).wf = true) (f : Nat) (wf : (Lit.float .f32 f).wf = true) (K : Int) (wK : (Lit.int .i64 K).wf = true) (w : World) :
    Calls Try.prog 12 #[.agg #[.float .f32 S.d, .float .f32 S.r, .float .f32 S.b, .float .f32 S.g], .float .f32 t, .float .f32 f, .int .i64 K] w fun e w' => e = .returned (.bool true) ∧ Below w.heap.size w w' := by
  skip
  go_enter Try.func12, Try.ntmps12
  go_wp2_with fail
  refine (toSn_any S _).mono ?_
  rintro e w0 ⟨rfl, b0⟩
  have B0 : Hid (Below w.heap.size w w0) := b_then ((b_alloc (Below.refl _ _) _)) b0
  have l0 := AtLSn.on (AtLSn.new w S) (by rfl) b0
  clear b0
  go_wp2_with fail
  refine (specSteadySp_any S t f K _).mono ?_
  rintro e w1 ⟨r1, rfl, h1, b1⟩
  have H1 := Lib.hid h1; clear h1
  have B1 : Hid (Below w.heap.size w w1) := b_then (B0.out) b1
  have l1 := AtLSn.on l0 (by rfl) b1
  clear b1 l0
  obtain ⟨c0, c1, c2, c3⟩ := l1.cells
  clear l1
  go_wp2_with fail
  refine (toSn_any S _).mono ?_
  rintro e w2 ⟨rfl, b2⟩
  have B2 : Hid (Below w.heap.size w w2) := b_then (B1.out) b2
  clear b2
  go_wp2_with fail
  refine (implSteadySp_any S t f K _).mono ?_
  rintro e w3 ⟨r3, rfl, h3, b3⟩
  have H3 := Lib.hid h3; clear h3
  have B3 : Hid (Below w.heap.size w w3) := b_then (B2.out) b3
  clear b3
  rcases cnx (H3.out.trans H1.out.symm) with ⟨hn2, hn1⟩ | ⟨hnn, he12⟩
  · have q1 := fun w => run_nan_wide (P := Try.prog) w 22 35 r1 (by rw [Try.underlying22]; rfl) Try.underlying35 hn1
    have q2 := fun w => run_nan_wide (P := Try.prog) w 22 35 r3 (by rw [Try.underlying22]; rfl) Try.underlying35 hn2
    clear hn1 hn2
    go_wp2_with (go_at_call 24; refine (sf_nan _ _ _ (nanTo_nan _ _) (nanTo_nan _ _)).mono ?_; rintro e w' ⟨rfl, rfl⟩)
    go_ret
    exact ⟨rfl, by first | exact B3.out.drew.drew | exact b_drewN B3.out _⟩
  · subst he12
    have q1 := fun w => run_wide (P := Try.prog) w 22 35 r3 (by rw [Try.underlying22]; rfl) Try.underlying35 hnn
    have q3 := (wide_some hnn).2
    clear hnn
    go_wp2_with (go_at_call 24; refine (sf_eq _ _ q3).mono ?_; rintro e w' ⟨rfl, rfl⟩)
    go_ret
    exact ⟨rfl, B3.out⟩
end Go.Proofs.Ytagjkagfnfonpaa
