/-
  The feed that a torque allows: both sides and the law.
-/
import Derived.Test.YtagjkagfnfonpaaSe
import Derived.Test.YtagjkagfnfonpaaQTail
import Derived.Deep.DeepCutAuto
namespace Go.Proofs.Ytagjkagfnfonpaa
open Go.RowKit Go.ChangeShapes Go.WideShapes Go.Deep
attribute [local go_sem ↓] Go.wp_at_zero Go.wp_at_succ
set_option linter.unusedVariables false
set_option linter.unusedSimpArgs false
set_option maxRecDepth 100000
def spareC (S : Sn) (t a : Nat) : Nat := f2 .sub (cn t) (idleC S a)
def capC (q : Nat) : Nat := if oGt q 1149239296 then 1149239296 else q
def feedV (S : Sn) (t a : Nat) : Nat := if oEq S.b 0 then cn 1149239296 else capC (f2 .quo (spareC S t a) (cn S.b))
def codeF (K : Int) (x : Nat) : Int := if K = 0 then (if oLt x 0 then 6 else 0) else K
theorem cn_1024 : cn 1149239296 = 1149239296 := cn_of_not (by decide +kernel)
theorem capC_fmin (op : BinOp) (x y : Nat) : fmin (f2 op x y) (cn 1149239296) = capC (f2 op x y) := by
  rw [cn_1024]
  exact fmin_test (w32_f2 _ _ _) (cn_f2 _ _ _) (by decide) (by decide)
theorem or_cn {x y c d : Nat} (hx : cn x = c) (hy : cn y = d) : FloatKind.f32.format.order x y = FloatKind.f32.format.order c d := by
  rw [← order_cn x y, hx, hy]
theorem tf_lt {x y : Nat} {t : Bool} (h : oLt x y = t) : (t = true → FloatKind.f32.format.order x y = some .lt) ∧ (t = false → (FloatKind.f32.format.order x y == some .lt) = false ∧ ¬ FloatKind.f32.format.order x y = some .lt) := by
  unfold oLt at h
  subst h
  exact ⟨fun h => by simpa using h, fun h => ⟨h, by simpa using h⟩⟩
theorem tf_gt {x y : Nat} {t : Bool} (h : oGt x y = t) : (t = true → FloatKind.f32.format.order x y = some .gt) ∧ (t = false → (FloatKind.f32.format.order x y == some .gt) = false ∧ ¬ FloatKind.f32.format.order x y = some .gt) := by
  unfold oGt at h
  subst h
  exact ⟨fun h => by simpa using h, fun h => ⟨h, by simpa using h⟩⟩
theorem tf_eq {x y : Nat} {t : Bool} (h : oEq x y = t) : (t = true → FloatKind.f32.format.order x y = some .eq) ∧ (t = false → (FloatKind.f32.format.order x y == some .eq) = false ∧ ¬ FloatKind.f32.format.order x y = some .eq) := by
  unfold oEq at h
  subst h
  exact ⟨fun h => by simpa using h, fun h => ⟨h, by simpa using h⟩⟩
set_option maxHeartbeats 4000000 in
theorem specFeedFor_any (S : Sn) (t a : Nat) (w : World) : Calls Try.prog 27 #[.agg #[.float .f32 S.d, .float .f32 S.r, .float .f32 S.b, .float .f32 S.g], .float .f32 t, .float .f32 a] w (RFC (zeroIf (codeF (codeR (okS S) (psB t && rtB a)) (spareC S t a)) (feedV S t a)) (codeF (codeR (okS S) (psB t && rtB a)) (spareC S t a)) w) := by
  obtain ⟨R, N, hR, hC⟩ := ops_fun Try.prog 22; have ra := hR .add rfl; have rs := hR .sub rfl; have rm := hR .mul rfl; have rq := hR .quo rfl; have HC := Lib.hid hC; clear hC hR
  have ha := fun w => specTurned_any S t a w
  obtain ⟨K, hK⟩ : ∃ K, codeR (okS S) (psB t && rtB a) = K := ⟨_, rfl⟩
  rw [hK] at ha ⊢
  have HA := Lib.hid ha
  have HK := Lib.hid (codeR_cases hK)
  clear ha hK
  have h0 := Lib.hid (AtSn.new w S)
  rcases HK.out with rfl | rfl | rfl
  · rcases Bool.eq_false_or_eq_true (oLt (spareC S t a) 0) with t1 | t1
    · simp only [codeF, t1, if_true]
      have T1 := Lib.hid t1; clear t1
      go_enter Try.func27, Try.ntmps27
      go_wp2_with (first | (go_at_call 55; refine (HA.out _).mono ?_; rintro e w1 ⟨rfl, b1⟩; obtain ⟨c0, c1, c2, c3⟩ := (h0.out.on (by rfl) b1).cells; have h1 := Lib.hid (h0.out.on (by rfl) b1)) | (go_at_call 56; refine (specIdle_any S a _).mono ?_; rintro e w2 ⟨r, rfl, hr, b2⟩; obtain ⟨d0, d1, d2, d3⟩ := (h1.out.on (by rfl) b2).cells; have ht := fun w => (tf_lt ((oLt_cn (x := R .sub t r w) (y := 0) (x' := spareC S t a) (y' := 0) (by rw [HC.out .sub rfl, show cn r = idleC S a from hr]; exact (cn_f2 _ _ _).symm) rfl).trans T1.out)).1 rfl))
      go_ret2
      refine ⟨_, rfl, cn_lit _, ?_⟩
      (repeat (first | exact Below.refl _ _ | refine b_drewN ?_ _ | refine b_drew ?_ | refine b_alloc ?_ _ | refine b_then ?_ (by assumption)))
    · rcases Bool.eq_false_or_eq_true (oEq S.b 0) with t2 | t2
      · simp only [codeF, t1, t2, feedV, if_true, if_false, Bool.false_eq_true, zeroIf]
        have T1 := Lib.hid t1; clear t1
        have t3 := (tf_eq t2).1 rfl; clear t2
        go_enter Try.func27, Try.ntmps27
        go_wp2_with (first | (go_at_call 55; refine (HA.out _).mono ?_; rintro e w1 ⟨rfl, b1⟩; obtain ⟨c0, c1, c2, c3⟩ := (h0.out.on (by rfl) b1).cells; have h1 := Lib.hid (h0.out.on (by rfl) b1)) | (go_at_call 56; refine (specIdle_any S a _).mono ?_; rintro e w2 ⟨r, rfl, hr, b2⟩; obtain ⟨d0, d1, d2, d3⟩ := (h1.out.on (by rfl) b2).cells; have ht := fun w => ((tf_lt ((oLt_cn (x := R .sub t r w) (y := 0) (x' := spareC S t a) (y' := 0) (by rw [HC.out .sub rfl, show cn r = idleC S a from hr]; exact (cn_f2 _ _ _).symm) rfl).trans T1.out)).2 rfl).1; have ht2 := fun w => ((tf_lt ((oLt_cn (x := R .sub t r w) (y := 0) (x' := spareC S t a) (y' := 0) (by rw [HC.out .sub rfl, show cn r = idleC S a from hr]; exact (cn_f2 _ _ _).symm) rfl).trans T1.out)).2 rfl).2))
        go_ret2
        refine ⟨_, rfl, cn_lit _, ?_⟩
        (repeat (first | exact Below.refl _ _ | refine b_drewN ?_ _ | refine b_drew ?_ | refine b_alloc ?_ _ | refine b_then ?_ (by assumption)))
      · have cq := capC_fmin .quo (spareC S t a) (cn S.b)
        rcases Bool.eq_false_or_eq_true (oGt (f2 .quo (spareC S t a) (cn S.b)) 1149239296) with t4 | t4
        all_goals
          simp only [codeF, t1, t2, t4, feedV, capC, if_true, if_false, Bool.false_eq_true, zeroIf]
          have T1 := Lib.hid t1; clear t1
          have T4 := Lib.hid t4; clear t4 cq
          have t3 := ((tf_eq t2).2 rfl).1; have t5 := ((tf_eq t2).2 rfl).2; clear t2
          go_enter Try.func27, Try.ntmps27
          go_wp2_with (first | (go_at_call 55; refine (HA.out _).mono ?_; rintro e w1 ⟨rfl, b1⟩; obtain ⟨c0, c1, c2, c3⟩ := (h0.out.on (by rfl) b1).cells; have h1 := Lib.hid (h0.out.on (by rfl) b1)) | (go_at_call 56; refine (specIdle_any S a _).mono ?_; rintro e w2 ⟨r, rfl, hr, b2⟩; obtain ⟨d0, d1, d2, d3⟩ := (h1.out.on (by rfl) b2).cells; have HR : Hid (∀ w, cn (R .sub t r w) = spareC S t a) := (fun w => by rw [HC.out .sub rfl, show cn r = idleC S a from hr]; rfl); have HQ : Hid (∀ w w', cn (R .quo (R .sub t r w) S.b w') = f2 .quo (spareC S t a) (cn S.b)) := (fun w w' => by rw [HC.out .quo rfl, HR.out]); have ht := fun w => ((tf_lt ((oLt_cn (x := R .sub t r w) (y := 0) (x' := spareC S t a) (y' := 0) (by rw [HR.out]; exact (cn_f2 _ _ _).symm) rfl).trans T1.out)).2 rfl).1; have ht2 := fun w => ((tf_lt ((oLt_cn (x := R .sub t r w) (y := 0) (x' := spareC S t a) (y' := 0) (by rw [HR.out]; exact (cn_f2 _ _ _).symm) rfl).trans T1.out)).2 rfl).2; have u0 := fun w w' => (oGt_cn (x := R .quo (R .sub t r w) S.b w') (y := 1149239296) (x' := f2 .quo (spareC S t a) (cn S.b)) (y' := 1149239296) (by rw [HQ.out]; exact (cn_f2 _ _ _).symm) rfl).trans T4.out; first | (have u1 := fun w w' => (tf_gt (u0 w w')).1 rfl) | (have u1 := fun w w' => ((tf_gt (u0 w w')).2 rfl).1; have u2 := fun w w' => ((tf_gt (u0 w w')).2 rfl).2); clear u0))
          go_ret2
          refine ⟨_, rfl, by first | exact HQ.out _ _ | exact cn_1024, ?_⟩
          (repeat (first | exact Below.refl _ _ | refine b_drewN ?_ _ | refine b_drew ?_ | refine b_alloc ?_ _ | refine b_then ?_ (by assumption)))
  all_goals
    simp only [codeF, if_true, if_false, reduceCtorEq, zeroIf, show ¬ ((1 : Int) = 0) by decide, show ¬ ((2 : Int) = 0) by decide]
    go_enter Try.func27, Try.ntmps27
    go_wp2_with (first | (go_at_call 55; refine (HA.out _).mono ?_; rintro e w1 ⟨rfl, b1⟩))
    go_ret2
    refine ⟨_, rfl, cn_lit _, ?_⟩
    (repeat (first | exact Below.refl _ _ | refine b_drewN ?_ _ | refine b_drew ?_ | refine b_alloc ?_ _ | refine b_then ?_ (by assumption)))
set_option maxHeartbeats 4000000 in
theorem implFeed_true (S : Sn) (t a : Nat) (hp : psB t = true) (w : World) : Calls Try.prog 28 #[.agg #[.float .f32 S.d, .float .f32 S.r, .float .f32 S.b, .float .f32 S.g], .float .f32 t, .float .f32 a] w (RFC (zeroIf (codeF (codeR (okS S) (psB t && rtB a)) (spareC S t a)) (feedV S t a)) (codeF (codeR (okS S) (psB t && rtB a)) (spareC S t a)) w) := by
  obtain ⟨R, N, hR, hC⟩ := ops_fun Try.prog 22; have ra := hR .add rfl; have rs := hR .sub rfl; have rm := hR .mul rfl; have rq := hR .quo rfl; have HC := Lib.hid hC; clear hC hR
  have hP := fun w => isPlainSize_any t w
  have hQ := fun w => isRate_any a w
  obtain ⟨ta, ht⟩ : ∃ ta, rtB a = ta := ⟨_, rfl⟩
  rw [hp] at hP ⊢
  rw [ht] at hQ ⊢
  have hE := fun w => stoneError_any S ta w
  simp only [Bool.true_and, Bool.false_and]
  obtain ⟨K, hK⟩ : ∃ K, codeR (okS S) ta = K := ⟨_, rfl⟩
  rw [hK] at hE ⊢
  have HP := Lib.hid hP; have HQ := Lib.hid hQ; have HE := Lib.hid hE
  have HK := Lib.hid (codeR_cases hK)
  clear hP hQ hE hK hp ht
  have h0 := Lib.hid (AtSn.new w S)
  go_enter Try.func28, Try.ntmps28
  go_upto_region 1 with fail
  have bw : Below w.heap.size w (w.alloc (.cells #[.float .f32 S.d, .float .f32 S.r, .float .f32 S.b, .float .f32 S.g] 27)) := b_alloc (Below.refl _ _) _
  have hsz : w.heap.size < (w.alloc (.cells #[.float .f32 S.d, .float .f32 S.r, .float .f32 S.b, .float .f32 S.g] 27)).heap.size := by simp
  generalize (w.alloc (.cells #[.float .f32 S.d, .float .f32 S.r, .float .f32 S.b, .float .f32 S.g] 27)) = W at *
  have Bw := Lib.hid bw; clear bw
  obtain ⟨c0, c1, c2, c3⟩ := h0.out.cells
  go_cut [8] (fun s8 wx => s8 = .int .i64 K ∧ Below W.heap.size W wx)
  case first =>
    go_region_law (first | (go_simp; go_at_call 58; refine (HP.out _).mono ?_; rintro e w1 ⟨rfl, rfl⟩; dsimp only) | (go_simp; go_at_call 16; refine (HQ.out _).mono ?_; rintro e w1 ⟨rfl, rfl⟩; dsimp only) | (go_simp; go_at_call 57; refine (HE.out _).mono ?_; rintro e w1 ⟨rfl, b1⟩; dsimp only))
    all_goals
      go_wp2_with fail
      go_meet
      refine ⟨rfl, ?_⟩
      repeat (first | exact Below.refl W.heap.size W | refine b_drewN ?_ _ | refine b_drew ?_ | refine b_then ?_ (by assumption))
  case rest =>
   obtain ⟨rfl, hbc⟩ := hcut
   have k1 := h0.out.on (by rfl) hbc
   have BC := Lib.hid (b_then Bw.out hbc)
   clear c0 c1 c2 c3 hbc
   obtain ⟨c0, c1, c2, c3⟩ := k1.cells
   have h1 := Lib.hid k1
   clear k1
   rcases HK.out with rfl | rfl | rfl
   · rcases Bool.eq_false_or_eq_true (oLt (spareC S t a) 0) with t1 | t1
     · have T1 := Lib.hid t1; clear t1
       go_wp2_with (go_at_call 59; refine (implIdle_any S a _).mono ?_; rintro e w2 ⟨r, rfl, hr, b2⟩; obtain ⟨d0, d1, d2, d3⟩ := (h1.out.on (by rfl) b2).cells; have HR : Hid (∀ w, cn (R .sub t r w) = spareC S t a) := (fun w => by rw [HC.out .sub rfl, show cn r = idleC S a from hr]; rfl); have ht := fun w => (tf_lt ((oLt_cn (x := R .sub t r w) (y := 0) (x' := spareC S t a) (y' := 0) (by rw [HR.out]; exact (cn_f2 _ _ _).symm) rfl).trans T1.out)).1 rfl)
       go_ret2
       rw [show codeF 0 (spareC S t a) = 6 by unfold codeF; rw [T1.out]; rfl]
       refine ⟨_, rfl, cn_lit _, ?_⟩
       have bc := BC.out
       repeat (first | exact bc | refine b_drewN ?_ _ | refine b_drew ?_ | refine b_then ?_ (by assumption))
     · rcases Bool.eq_false_or_eq_true (oEq S.b 0) with t2 | t2
       · have T1 := Lib.hid t1; clear t1; have T2 := Lib.hid t2
         have t3 := (tf_eq t2).1 rfl; clear t2
         go_wp2_with (go_at_call 59; refine (implIdle_any S a _).mono ?_; rintro e w2 ⟨r, rfl, hr, b2⟩; obtain ⟨d0, d1, d2, d3⟩ := (h1.out.on (by rfl) b2).cells; have HR : Hid (∀ w, cn (R .sub t r w) = spareC S t a) := (fun w => by rw [HC.out .sub rfl, show cn r = idleC S a from hr]; rfl); have ht := fun w => ((tf_lt ((oLt_cn (x := R .sub t r w) (y := 0) (x' := spareC S t a) (y' := 0) (by rw [HR.out]; exact (cn_f2 _ _ _).symm) rfl).trans T1.out)).2 rfl).1; have ht2 := fun w => ((tf_lt ((oLt_cn (x := R .sub t r w) (y := 0) (x' := spareC S t a) (y' := 0) (by rw [HR.out]; exact (cn_f2 _ _ _).symm) rfl).trans T1.out)).2 rfl).2)
         go_ret2
         rw [show codeF 0 (spareC S t a) = 0 by unfold codeF; rw [T1.out]; rfl, show feedV S t a = cn 1149239296 by unfold feedV; rw [T2.out]; rfl]
         refine ⟨_, rfl, cn_lit _, ?_⟩
         have bc := BC.out
         repeat (first | exact bc | refine b_drewN ?_ _ | refine b_drew ?_ | refine b_then ?_ (by assumption))
       · have T1 := Lib.hid t1; clear t1; have T2 := Lib.hid t2
         have t3 := ((tf_eq t2).2 rfl).1; have t5 := ((tf_eq t2).2 rfl).2; clear t2
         obtain ⟨M, NM, hM, hMc⟩ := min_fun Try.prog
         have HM := Lib.hid hMc; clear hMc
         go_wp2_with (go_at_call 59; refine (implIdle_any S a _).mono ?_; rintro e w2 ⟨r, rfl, hr, b2⟩; obtain ⟨d0, d1, d2, d3⟩ := (h1.out.on (by rfl) b2).cells; have HR : Hid (∀ w, cn (R .sub t r w) = spareC S t a) := (fun w => by rw [HC.out .sub rfl, show cn r = idleC S a from hr]; rfl); have ht := fun w => ((tf_lt ((oLt_cn (x := R .sub t r w) (y := 0) (x' := spareC S t a) (y' := 0) (by rw [HR.out]; exact (cn_f2 _ _ _).symm) rfl).trans T1.out)).2 rfl).1; have ht2 := fun w => ((tf_lt ((oLt_cn (x := R .sub t r w) (y := 0) (x' := spareC S t a) (y' := 0) (by rw [HR.out]; exact (cn_f2 _ _ _).symm) rfl).trans T1.out)).2 rfl).2)
         go_ret2
         rw [show codeF 0 (spareC S t a) = 0 by unfold codeF; rw [T1.out]; rfl, show feedV S t a = capC (f2 .quo (spareC S t a) (cn S.b)) by unfold feedV; rw [T2.out]; rfl]
         refine ⟨_, rfl, ?_, ?_⟩
         · unfold CN
           rw [HM.out, HC.out .quo rfl, HR.out]
           exact capC_fmin _ _ _
         · have bc := BC.out
           repeat (first | exact bc | refine b_drewN ?_ _ | refine b_drew ?_ | refine b_then ?_ (by assumption))
   all_goals
     go_wp2
     go_ret2
     refine ⟨_, rfl, cn_lit _, ?_⟩
     have bc := BC.out
     repeat (first | exact bc | refine b_drewN ?_ _ | refine b_drew ?_ | refine b_then ?_ (by assumption))
set_option maxHeartbeats 4000000 in
theorem implFeed_false (S : Sn) (t a : Nat) (hp : psB t = false) (w : World) : Calls Try.prog 28 #[.agg #[.float .f32 S.d, .float .f32 S.r, .float .f32 S.b, .float .f32 S.g], .float .f32 t, .float .f32 a] w (RFC (zeroIf (codeF (codeR (okS S) (psB t && rtB a)) (spareC S t a)) (feedV S t a)) (codeF (codeR (okS S) (psB t && rtB a)) (spareC S t a)) w) := by
  obtain ⟨R, N, hR, hC⟩ := ops_fun Try.prog 22; have ra := hR .add rfl; have rs := hR .sub rfl; have rm := hR .mul rfl; have rq := hR .quo rfl; have HC := Lib.hid hC; clear hC hR
  have hP := fun w => isPlainSize_any t w
  have hQ := fun w => isRate_any a w
  obtain ⟨ta, ht⟩ : ∃ ta, rtB a = ta := ⟨_, rfl⟩
  rw [hp] at hP ⊢
  rw [ht] at hQ ⊢
  have hE := fun w => stoneError_any S false w
  simp only [Bool.true_and, Bool.false_and]
  obtain ⟨K, hK⟩ : ∃ K, codeR (okS S) false = K := ⟨_, rfl⟩
  rw [hK] at hE ⊢
  have HP := Lib.hid hP; have HQ := Lib.hid hQ; have HE := Lib.hid hE
  have HK := Lib.hid (codeR_cases hK)
  clear hP hQ hE hK hp ht
  have h0 := Lib.hid (AtSn.new w S)
  go_enter Try.func28, Try.ntmps28
  go_upto_region 1 with fail
  have bw : Below w.heap.size w (w.alloc (.cells #[.float .f32 S.d, .float .f32 S.r, .float .f32 S.b, .float .f32 S.g] 27)) := b_alloc (Below.refl _ _) _
  have hsz : w.heap.size < (w.alloc (.cells #[.float .f32 S.d, .float .f32 S.r, .float .f32 S.b, .float .f32 S.g] 27)).heap.size := by simp
  generalize (w.alloc (.cells #[.float .f32 S.d, .float .f32 S.r, .float .f32 S.b, .float .f32 S.g] 27)) = W at *
  have Bw := Lib.hid bw; clear bw
  obtain ⟨c0, c1, c2, c3⟩ := h0.out.cells
  go_cut [8] (fun s8 wx => s8 = .int .i64 K ∧ Below W.heap.size W wx)
  case first =>
    first
      | go_region_law (first | (go_simp; go_at_call 58; refine (HP.out _).mono ?_; rintro e w1 ⟨rfl, rfl⟩; dsimp only) | (go_simp; go_at_call 16; refine (HQ.out _).mono ?_; rintro e w1 ⟨rfl, rfl⟩; dsimp only) | (go_simp; go_at_call 57; refine (HE.out _).mono ?_; rintro e w1 ⟨rfl, b1⟩; dsimp only))
      | fail
    all_goals
      go_wp2_with fail
      go_meet
      refine ⟨rfl, ?_⟩
      repeat (first | exact Below.refl W.heap.size W | refine b_drewN ?_ _ | refine b_drew ?_ | refine b_then ?_ (by assumption))
  case rest =>
   obtain ⟨rfl, hbc⟩ := hcut
   have k1 := h0.out.on (by rfl) hbc
   have BC := Lib.hid (b_then Bw.out hbc)
   clear c0 c1 c2 c3 hbc
   obtain ⟨c0, c1, c2, c3⟩ := k1.cells
   have h1 := Lib.hid k1
   clear k1
   rcases HK.out with rfl | rfl | rfl
   · rcases Bool.eq_false_or_eq_true (oLt (spareC S t a) 0) with t1 | t1
     · have T1 := Lib.hid t1; clear t1
       go_wp2_with (go_at_call 59; refine (implIdle_any S a _).mono ?_; rintro e w2 ⟨r, rfl, hr, b2⟩; obtain ⟨d0, d1, d2, d3⟩ := (h1.out.on (by rfl) b2).cells; have HR : Hid (∀ w, cn (R .sub t r w) = spareC S t a) := (fun w => by rw [HC.out .sub rfl, show cn r = idleC S a from hr]; rfl); have ht := fun w => (tf_lt ((oLt_cn (x := R .sub t r w) (y := 0) (x' := spareC S t a) (y' := 0) (by rw [HR.out]; exact (cn_f2 _ _ _).symm) rfl).trans T1.out)).1 rfl)
       go_ret2
       rw [show codeF 0 (spareC S t a) = 6 by unfold codeF; rw [T1.out]; rfl]
       refine ⟨_, rfl, cn_lit _, ?_⟩
       have bc := BC.out
       repeat (first | exact bc | refine b_drewN ?_ _ | refine b_drew ?_ | refine b_then ?_ (by assumption))
     · rcases Bool.eq_false_or_eq_true (oEq S.b 0) with t2 | t2
       · have T1 := Lib.hid t1; clear t1; have T2 := Lib.hid t2
         have t3 := (tf_eq t2).1 rfl; clear t2
         go_wp2_with (go_at_call 59; refine (implIdle_any S a _).mono ?_; rintro e w2 ⟨r, rfl, hr, b2⟩; obtain ⟨d0, d1, d2, d3⟩ := (h1.out.on (by rfl) b2).cells; have HR : Hid (∀ w, cn (R .sub t r w) = spareC S t a) := (fun w => by rw [HC.out .sub rfl, show cn r = idleC S a from hr]; rfl); have ht := fun w => ((tf_lt ((oLt_cn (x := R .sub t r w) (y := 0) (x' := spareC S t a) (y' := 0) (by rw [HR.out]; exact (cn_f2 _ _ _).symm) rfl).trans T1.out)).2 rfl).1; have ht2 := fun w => ((tf_lt ((oLt_cn (x := R .sub t r w) (y := 0) (x' := spareC S t a) (y' := 0) (by rw [HR.out]; exact (cn_f2 _ _ _).symm) rfl).trans T1.out)).2 rfl).2)
         go_ret2
         rw [show codeF 0 (spareC S t a) = 0 by unfold codeF; rw [T1.out]; rfl, show feedV S t a = cn 1149239296 by unfold feedV; rw [T2.out]; rfl]
         refine ⟨_, rfl, cn_lit _, ?_⟩
         have bc := BC.out
         repeat (first | exact bc | refine b_drewN ?_ _ | refine b_drew ?_ | refine b_then ?_ (by assumption))
       · have T1 := Lib.hid t1; clear t1; have T2 := Lib.hid t2
         have t3 := ((tf_eq t2).2 rfl).1; have t5 := ((tf_eq t2).2 rfl).2; clear t2
         obtain ⟨M, NM, hM, hMc⟩ := min_fun Try.prog
         have HM := Lib.hid hMc; clear hMc
         go_wp2_with (go_at_call 59; refine (implIdle_any S a _).mono ?_; rintro e w2 ⟨r, rfl, hr, b2⟩; obtain ⟨d0, d1, d2, d3⟩ := (h1.out.on (by rfl) b2).cells; have HR : Hid (∀ w, cn (R .sub t r w) = spareC S t a) := (fun w => by rw [HC.out .sub rfl, show cn r = idleC S a from hr]; rfl); have ht := fun w => ((tf_lt ((oLt_cn (x := R .sub t r w) (y := 0) (x' := spareC S t a) (y' := 0) (by rw [HR.out]; exact (cn_f2 _ _ _).symm) rfl).trans T1.out)).2 rfl).1; have ht2 := fun w => ((tf_lt ((oLt_cn (x := R .sub t r w) (y := 0) (x' := spareC S t a) (y' := 0) (by rw [HR.out]; exact (cn_f2 _ _ _).symm) rfl).trans T1.out)).2 rfl).2)
         go_ret2
         rw [show codeF 0 (spareC S t a) = 0 by unfold codeF; rw [T1.out]; rfl, show feedV S t a = capC (f2 .quo (spareC S t a) (cn S.b)) by unfold feedV; rw [T2.out]; rfl]
         refine ⟨_, rfl, ?_, ?_⟩
         · unfold CN
           rw [HM.out, HC.out .quo rfl, HR.out]
           exact capC_fmin _ _ _
         · have bc := BC.out
           repeat (first | exact bc | refine b_drewN ?_ _ | refine b_drew ?_ | refine b_then ?_ (by assumption))
   all_goals
     go_wp2
     go_ret2
     refine ⟨_, rfl, cn_lit _, ?_⟩
     have bc := BC.out
     repeat (first | exact bc | refine b_drewN ?_ _ | refine b_drew ?_ | refine b_then ?_ (by assumption))
theorem implFeedFor_any (S : Sn) (t a : Nat) (w : World) : Calls Try.prog 28 #[.agg #[.float .f32 S.d, .float .f32 S.r, .float .f32 S.b, .float .f32 S.g], .float .f32 t, .float .f32 a] w (RFC (zeroIf (codeF (codeR (okS S) (psB t && rtB a)) (spareC S t a)) (feedV S t a)) (codeF (codeR (okS S) (psB t && rtB a)) (spareC S t a)) w) := by
  rcases Bool.eq_false_or_eq_true (psB t) with h | h
  · exact implFeed_true S t a h w
  · exact implFeed_false S t a h w
set_option maxRecDepth 100000 in
set_option maxHeartbeats 4000000 in
theorem walk_FnExactFeedFor (S : Sn) (wS : (Lit.float .f32 S.d).wf = true ∧ (Lit.float .f32 S.r).wf = true ∧ (Lit.float .f32 S.b).wf = true ∧ (Lit.float .f32 S.g).wf = true) (t : Nat) (wt : (Lit.float .f32 t).wf = true) (a : Nat) (wa : (Lit.float .f32 a).wf = true) (w : World) :
    Calls Try.prog 8 #[.agg #[.float .f32 S.d, .float .f32 S.r, .float .f32 S.b, .float .f32 S.g], .float .f32 t, .float .f32 a] w fun e w' => e = .returned (.bool true) ∧ Below w.heap.size w w' := by
  skip
  go_enter Try.func8, Try.ntmps8
  go_wp2_with fail
  refine (toSn_any S _).mono ?_
  rintro e w0 ⟨rfl, b0⟩
  have B0 : Hid (Below w.heap.size w w0) := b_then ((b_alloc (Below.refl _ _) _)) b0
  have l0 := AtLSn.on (AtLSn.new w S) (by rfl) b0
  clear b0
  go_wp2_with fail
  refine (specFeedFor_any S t a _).mono ?_
  rintro e w1 ⟨r1, rfl, h1, b1⟩
  have H1 := Lib.hid h1; clear h1
  have B1 : Hid (Below w.heap.size w w1) := b_then (B0.out) b1
  have l1 := AtLSn.on l0 (by rfl) b1
  clear b1 l0
  obtain ⟨c0, c1, c2, c3⟩ := l1.cells
  clear l1
  go_wp2_with fail
  refine (toSn_any S _).mono ?_
  rintro e w2 ⟨rfl, b2⟩
  have B2 : Hid (Below w.heap.size w w2) := b_then (B1.out) b2
  clear b2
  go_wp2_with fail
  refine (implFeedFor_any S t a _).mono ?_
  rintro e w3 ⟨r3, rfl, h3, b3⟩
  have H3 := Lib.hid h3; clear h3
  have B3 : Hid (Below w.heap.size w w3) := b_then (B2.out) b3
  clear b3
  rcases cnx (H3.out.trans H1.out.symm) with ⟨hn2, hn1⟩ | ⟨hnn, he12⟩
  · have q1 := fun w => run_nan_wide (P := Try.prog) w 22 35 r1 (by rw [Try.underlying22]; rfl) Try.underlying35 hn1
    have q2 := fun w => run_nan_wide (P := Try.prog) w 22 35 r3 (by rw [Try.underlying22]; rfl) Try.underlying35 hn2
    clear hn1 hn2
    go_wp2_with (go_at_call 24; refine (sf_nan _ _ _ (nanTo_nan _ _) (nanTo_nan _ _)).mono ?_; rintro e w' ⟨rfl, rfl⟩)
    go_ret
    exact ⟨rfl, by first | exact B3.out.drew.drew | exact b_drewN B3.out _⟩
  · subst he12
    have q1 := fun w => run_wide (P := Try.prog) w 22 35 r3 (by rw [Try.underlying22]; rfl) Try.underlying35 hnn
    have q3 := (wide_some hnn).2
    clear hnn
    go_wp2_with (go_at_call 24; refine (sf_eq _ _ q3).mono ?_; rintro e w' ⟨rfl, rfl⟩)
    go_ret
    exact ⟨rfl, B3.out⟩
end Go.Proofs.Ytagjkagfnfonpaa
