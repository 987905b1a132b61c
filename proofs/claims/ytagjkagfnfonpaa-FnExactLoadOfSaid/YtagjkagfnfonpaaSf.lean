/-
  LoadOf, FlourOf, FeedFor: both sides and the laws.
-/
import Derived.Test.YtagjkagfnfonpaaSe
import Derived.Deep.DeepCutAuto
namespace Go.Proofs.Ytagjkagfnfonpaa
open Go.RowKit Go.ChangeShapes Go.WideShapes Go.Deep
attribute [local go_sem ↓] Go.wp_at_zero Go.wp_at_succ
set_option linter.unusedVariables false
set_option linter.unusedSimpArgs false
set_option maxRecDepth 100000
theorem specLoadOf_any (S : Sn) (a b : Nat) (w : World) : Calls Try.prog 22 #[.agg #[.float .f32 S.d, .float .f32 S.r, .float .f32 S.b, .float .f32 S.g], .float .f32 a, .float .f32 b] w (RFC (zeroIf (codeR (okS S) (rtB a && rtB b)) (loadC S a b)) (codeR (okS S) (rtB a && rtB b)) w) := by
  have h0 := Lib.hid (AtSn.new w S)
  rcases Bool.eq_false_or_eq_true (okS S) with h1 | h1 <;> rcases Bool.eq_false_or_eq_true (rtB a) with h2 | h2 <;> rcases Bool.eq_false_or_eq_true (rtB b) with h3 | h3
  all_goals
    have hc := specAsk_is (S := S) (a := a) (b := b) (c := _) (by simp only [h1, h2, h3, codeR, Bool.and_self, Bool.and_true, Bool.true_and, Bool.and_false, Bool.false_and, if_true, if_false, Bool.false_eq_true] <;> rfl)
    have HC := Lib.hid hc; clear hc
    simp only [h1, h2, h3, codeR, Bool.and_self, Bool.and_true, Bool.true_and, Bool.and_false, Bool.false_and, if_true, if_false, Bool.false_eq_true]
    clear h1 h2 h3
    go_enter Try.func22, Try.ntmps22
    go_wp2_with (first | (go_at_call 49; refine (HC.out _).mono ?_; rintro e w1 ⟨rfl, b1⟩; obtain ⟨c0, c1, c2, c3⟩ := (h0.out.on (by rfl) b1).cells) | (go_at_call 50; refine (specLoad_any S a b _).mono ?_; rintro e w1 ⟨r, rfl, hr, b2⟩))
    go_ret2
    refine ⟨_, rfl, by first | exact hr | rfl, ?_⟩
    (repeat (first | exact Below.refl _ _ | refine b_drewN ?_ _ | refine b_drew ?_ | refine b_alloc ?_ _ | refine b_then ?_ (by assumption)))
set_option maxHeartbeats 4000000 in
theorem toldLoad_any (S : Sn) (a b : Nat) (w : World) : Calls Try.prog 51 #[.agg #[.float .f32 S.d, .float .f32 S.r, .float .f32 S.b, .float .f32 S.g], .float .f32 a, .float .f32 b, .func (.func 52) #[] #[]] w (RFC (zeroIf (codeR (okS S) (rtB a && rtB b)) (loadC S a b)) (codeR (okS S) (rtB a && rtB b)) w) := by
  have h0 := Lib.hid (AtSn.new w S)
  obtain ⟨t, ht⟩ : ∃ t, [a, b].all rtB = t := ⟨_, rfl⟩
  have ht2 : (rtB a && rtB b) = t := by rw [← ht]; simp
  rw [ht2]; clear ht2
  have hc := fun w => stoneError_any S t w
  have HC := Lib.hid hc; clear hc
  have HT := Lib.hid ht; clear ht
  obtain ⟨K, hK⟩ : ∃ K, codeR (okS S) t = K := ⟨_, rfl⟩
  rw [hK] at HC ⊢
  have HK := Lib.hid hK; clear hK
  obtain ⟨c0, c1, c2, c3⟩ := h0.out.cells
  go_enter Try.func51, Try.ntmps51
  go_upto_region 1 with fail
  have bw : Below w.heap.size w (w.alloc (.cells #[.float .f32 S.d, .float .f32 S.r, .float .f32 S.b, .float .f32 S.g] 27)) := b_alloc (Below.refl _ _) _
  have hsz : w.heap.size < (w.alloc (.cells #[.float .f32 S.d, .float .f32 S.r, .float .f32 S.b, .float .f32 S.g] 27)).heap.size := by simp
  generalize (w.alloc (.cells #[.float .f32 S.d, .float .f32 S.r, .float .f32 S.b, .float .f32 S.g] 27)) = W at *
  have Bw := Lib.hid bw; clear bw
  go_cut [10] (fun s10 wx => s10 = .int .i64 K ∧ Below W.heap.size W wx)
  case first =>
    go_region_law (first | (go_simp; go_at_call 70; refine (allRate_is (n := 2) HT.out rfl (by unfold maxLen; omega) (fo_two (by go_simp) (by go_simp))).mono ?_; rintro e w1 ⟨rfl, rfl⟩; dsimp only) | (go_simp; go_at_call 57; refine (HC.out _).mono ?_; rintro e w1 ⟨rfl, b1⟩; dsimp only))
    all_goals
      go_wp2_with fail
      go_meet
      refine ⟨rfl, ?_⟩
      repeat (first | exact Below.refl W.heap.size W | refine b_drewN ?_ _ | refine b_drew ?_ | refine b_alloc ?_ _ | refine b_then ?_ (by assumption))
  case rest =>
    obtain ⟨rfl, hbc⟩ := hcut
    have k1 := h0.out.on (by rfl) hbc
    have BC := Lib.hid (b_then Bw.out hbc)
    clear c0 c1 c2 c3 hbc
    obtain ⟨c0, c1, c2, c3⟩ := k1.cells
    clear k1
    rcases codeR_cases HK.out with rfl | rfl | rfl
    all_goals
      go_wp2_with (go_at_call 52; refine (implLoad_any S a b _).mono ?_; rintro e w2 ⟨r, rfl, hr, b2⟩)
      go_ret2
      refine ⟨_, rfl, by first | exact hr | rfl, ?_⟩
      have bc := BC.out
      repeat (first | exact bc | refine b_drewN ?_ _ | refine b_drew ?_ | refine b_then ?_ (by assumption))
theorem implLoadOf_any (S : Sn) (a b : Nat) (w : World) : Calls Try.prog 23 #[.agg #[.float .f32 S.d, .float .f32 S.r, .float .f32 S.b, .float .f32 S.g], .float .f32 a, .float .f32 b] w (RFC (zeroIf (codeR (okS S) (rtB a && rtB b)) (loadC S a b)) (codeR (okS S) (rtB a && rtB b)) w) := by
  have ht := Lib.hid (toldLoad_any S a b)
  generalize zeroIf (codeR (okS S) (rtB a && rtB b)) (loadC S a b) = Z at *
  generalize codeR (okS S) (rtB a && rtB b) = K at *
  go_enter Try.func23, Try.ntmps23
  go_wp2_with (go_at_call 51; refine (ht.out _).mono ?_; rintro e w2 ⟨r, rfl, hr, b2⟩)
  go_ret2
  refine ⟨_, rfl, hr, ?_⟩
  (repeat (first | exact Below.refl _ _ | refine b_drewN ?_ _ | refine b_drew ?_ | refine b_alloc ?_ _ | refine b_then ?_ (by assumption)))
set_option maxRecDepth 100000 in
set_option maxHeartbeats 4000000 in
theorem walk_FnExactLoadOf (S : Sn) (wS : (Lit.float .f32 S.d).wf = true ∧ (Lit.float .f32 S.r).wf = true ∧ (Lit.float .f32 S.b).wf = true ∧ (Lit.float .f32 S.g).wf = true) (a : Nat) (wa : (Lit.float .f32 a).wf = true) (b : Nat) (wb : (Lit.float .f32 b).wf = true) (w : World) :
    Calls Try.prog 6 #[.agg #[.float .f32 S.d, .float .f32 S.r, .float .f32 S.b, .float .f32 S.g], .float .f32 a, .float .f32 b] w fun e w' => e = .returned (.bool true) ∧ Below w.heap.size w w' := by
  skip
  go_enter Try.func6, Try.ntmps6
  go_wp2_with fail
  refine (toSn_any S _).mono ?_
  rintro e w0 ⟨rfl, b0⟩
  have B0 : Hid (Below w.heap.size w w0) := b_then ((b_alloc (Below.refl _ _) _)) b0
  have l0 := AtLSn.on (AtLSn.new w S) (by rfl) b0
  clear b0
  go_wp2_with fail
  refine (specLoadOf_any S a b _).mono ?_
  rintro e w1 ⟨r1, rfl, h1, b1⟩
  have H1 := Lib.hid h1; clear h1
  have B1 : Hid (Below w.heap.size w w1) := b_then (B0.out) b1
  have l1 := AtLSn.on l0 (by rfl) b1
  clear b1 l0
  obtain ⟨c0, c1, c2, c3⟩ := l1.cells
  clear l1
  go_wp2_with fail
  refine (toSn_any S _).mono ?_
  rintro e w2 ⟨rfl, b2⟩
  have B2 : Hid (Below w.heap.size w w2) := b_then (B1.out) b2
  clear b2
  go_wp2_with fail
  refine (implLoadOf_any S a b _).mono ?_
  rintro e w3 ⟨r3, rfl, h3, b3⟩
  have H3 := Lib.hid h3; clear h3
  have B3 : Hid (Below w.heap.size w w3) := b_then (B2.out) b3
  clear b3
  rcases cnx (H3.out.trans H1.out.symm) with ⟨hn2, hn1⟩ | ⟨hnn, he12⟩
  · have q1 := fun w => run_nan_wide (P := Try.prog) w 22 35 r1 (by rw [Try.underlying22]; rfl) Try.underlying35 hn1
    have q2 := fun w => run_nan_wide (P := Try.prog) w 22 35 r3 (by rw [Try.underlying22]; rfl) Try.underlying35 hn2
    clear hn1 hn2
    go_wp2_with (go_at_call 24; refine (sf_nan _ _ _ (nanTo_nan _ _) (nanTo_nan _ _)).mono ?_; rintro e w' ⟨rfl, rfl⟩)
    go_ret
    exact ⟨rfl, by first | exact B3.out.drew.drew | exact b_drewN B3.out _⟩
  · subst he12
    have q1 := fun w => run_wide (P := Try.prog) w 22 35 r3 (by rw [Try.underlying22]; rfl) Try.underlying35 hnn
    have q3 := (wide_some hnn).2
    clear hnn
    go_wp2_with (go_at_call 24; refine (sf_eq _ _ q3).mono ?_; rintro e w' ⟨rfl, rfl⟩)
    go_ret
    exact ⟨rfl, B3.out⟩
theorem specFlourOf_any (S : Sn) (a b : Nat) (w : World) : Calls Try.prog 25 #[.agg #[.float .f32 S.d, .float .f32 S.r, .float .f32 S.b, .float .f32 S.g], .float .f32 a, .float .f32 b] w (RFC (zeroIf (codeR (okS S) (rtB a && rtB b)) (flourC S a b)) (codeR (okS S) (rtB a && rtB b)) w) := by
  have h0 := Lib.hid (AtSn.new w S)
  rcases Bool.eq_false_or_eq_true (okS S) with h1 | h1 <;> rcases Bool.eq_false_or_eq_true (rtB a) with h2 | h2 <;> rcases Bool.eq_false_or_eq_true (rtB b) with h3 | h3
  all_goals
    have hc := specAsk_is (S := S) (a := a) (b := b) (c := _) (by simp only [h1, h2, h3, codeR, Bool.and_self, Bool.and_true, Bool.true_and, Bool.and_false, Bool.false_and, if_true, if_false, Bool.false_eq_true] <;> rfl)
    have HC := Lib.hid hc; clear hc
    simp only [h1, h2, h3, codeR, Bool.and_self, Bool.and_true, Bool.true_and, Bool.and_false, Bool.false_and, if_true, if_false, Bool.false_eq_true]
    clear h1 h2 h3
    go_enter Try.func25, Try.ntmps25
    go_wp2_with (first | (go_at_call 49; refine (HC.out _).mono ?_; rintro e w1 ⟨rfl, b1⟩; obtain ⟨c0, c1, c2, c3⟩ := (h0.out.on (by rfl) b1).cells) | (go_at_call 53; refine (specFlour_any S a b _).mono ?_; rintro e w1 ⟨r, rfl, hr, b2⟩))
    go_ret2
    refine ⟨_, rfl, by first | exact hr | rfl, ?_⟩
    (repeat (first | exact Below.refl _ _ | refine b_drewN ?_ _ | refine b_drew ?_ | refine b_alloc ?_ _ | refine b_then ?_ (by assumption)))
set_option maxHeartbeats 4000000 in
theorem toldFlour_any (S : Sn) (a b : Nat) (w : World) : Calls Try.prog 51 #[.agg #[.float .f32 S.d, .float .f32 S.r, .float .f32 S.b, .float .f32 S.g], .float .f32 a, .float .f32 b, .func (.func 54) #[] #[]] w (RFC (zeroIf (codeR (okS S) (rtB a && rtB b)) (flourC S a b)) (codeR (okS S) (rtB a && rtB b)) w) := by
  have h0 := Lib.hid (AtSn.new w S)
  obtain ⟨t, ht⟩ : ∃ t, [a, b].all rtB = t := ⟨_, rfl⟩
  have ht2 : (rtB a && rtB b) = t := by rw [← ht]; simp
  rw [ht2]; clear ht2
  have hc := fun w => stoneError_any S t w
  have HC := Lib.hid hc; clear hc
  have HT := Lib.hid ht; clear ht
  obtain ⟨K, hK⟩ : ∃ K, codeR (okS S) t = K := ⟨_, rfl⟩
  rw [hK] at HC ⊢
  have HK := Lib.hid hK; clear hK
  obtain ⟨c0, c1, c2, c3⟩ := h0.out.cells
  go_enter Try.func51, Try.ntmps51
  go_upto_region 1 with fail
  have bw : Below w.heap.size w (w.alloc (.cells #[.float .f32 S.d, .float .f32 S.r, .float .f32 S.b, .float .f32 S.g] 27)) := b_alloc (Below.refl _ _) _
  have hsz : w.heap.size < (w.alloc (.cells #[.float .f32 S.d, .float .f32 S.r, .float .f32 S.b, .float .f32 S.g] 27)).heap.size := by simp
  generalize (w.alloc (.cells #[.float .f32 S.d, .float .f32 S.r, .float .f32 S.b, .float .f32 S.g] 27)) = W at *
  have Bw := Lib.hid bw; clear bw
  go_cut [10] (fun s10 wx => s10 = .int .i64 K ∧ Below W.heap.size W wx)
  case first =>
    go_region_law (first | (go_simp; go_at_call 70; refine (allRate_is (n := 2) HT.out rfl (by unfold maxLen; omega) (fo_two (by go_simp) (by go_simp))).mono ?_; rintro e w1 ⟨rfl, rfl⟩; dsimp only) | (go_simp; go_at_call 57; refine (HC.out _).mono ?_; rintro e w1 ⟨rfl, b1⟩; dsimp only))
    all_goals
      go_wp2_with fail
      go_meet
      refine ⟨rfl, ?_⟩
      repeat (first | exact Below.refl W.heap.size W | refine b_drewN ?_ _ | refine b_drew ?_ | refine b_alloc ?_ _ | refine b_then ?_ (by assumption))
  case rest =>
    obtain ⟨rfl, hbc⟩ := hcut
    have k1 := h0.out.on (by rfl) hbc
    have BC := Lib.hid (b_then Bw.out hbc)
    clear c0 c1 c2 c3 hbc
    obtain ⟨c0, c1, c2, c3⟩ := k1.cells
    clear k1
    rcases codeR_cases HK.out with rfl | rfl | rfl
    all_goals
      go_wp2_with (go_at_call 54; refine (implFlour_any S a b _).mono ?_; rintro e w2 ⟨r, rfl, hr, b2⟩)
      go_ret2
      refine ⟨_, rfl, by first | exact hr | rfl, ?_⟩
      have bc := BC.out
      repeat (first | exact bc | refine b_drewN ?_ _ | refine b_drew ?_ | refine b_then ?_ (by assumption))
theorem implFlourOf_any (S : Sn) (a b : Nat) (w : World) : Calls Try.prog 26 #[.agg #[.float .f32 S.d, .float .f32 S.r, .float .f32 S.b, .float .f32 S.g], .float .f32 a, .float .f32 b] w (RFC (zeroIf (codeR (okS S) (rtB a && rtB b)) (flourC S a b)) (codeR (okS S) (rtB a && rtB b)) w) := by
  have ht := Lib.hid (toldFlour_any S a b)
  generalize zeroIf (codeR (okS S) (rtB a && rtB b)) (flourC S a b) = Z at *
  generalize codeR (okS S) (rtB a && rtB b) = K at *
  go_enter Try.func26, Try.ntmps26
  go_wp2_with (go_at_call 51; refine (ht.out _).mono ?_; rintro e w2 ⟨r, rfl, hr, b2⟩)
  go_ret2
  refine ⟨_, rfl, hr, ?_⟩
  (repeat (first | exact Below.refl _ _ | refine b_drewN ?_ _ | refine b_drew ?_ | refine b_alloc ?_ _ | refine b_then ?_ (by assumption)))
set_option maxRecDepth 100000 in
set_option maxHeartbeats 4000000 in
theorem walk_FnExactFlourOf (S : Sn) (wS : (Lit.float .f32 S.d).wf = true ∧ (Lit.float .f32 S.r).wf = true ∧ (Lit.float .f32 S.b).wf = true ∧ (Lit.float .f32 S.g).wf = true) (a : Nat) (wa : (Lit.float .f32 a).wf = true) (b : Nat) (wb : (Lit.float .f32 b).wf = true) (w : World) :
    Calls Try.prog 7 #[.agg #[.float .f32 S.d, .float .f32 S.r, .float .f32 S.b, .float .f32 S.g], .float .f32 a, .float .f32 b] w fun e w' => e = .returned (.bool true) ∧ Below w.heap.size w w' := by
  skip
  go_enter Try.func7, Try.ntmps7
  go_wp2_with fail
  refine (toSn_any S _).mono ?_
  rintro e w0 ⟨rfl, b0⟩
  have B0 : Hid (Below w.heap.size w w0) := b_then ((b_alloc (Below.refl _ _) _)) b0
  have l0 := AtLSn.on (AtLSn.new w S) (by rfl) b0
  clear b0
  go_wp2_with fail
  refine (specFlourOf_any S a b _).mono ?_
  rintro e w1 ⟨r1, rfl, h1, b1⟩
  have H1 := Lib.hid h1; clear h1
  have B1 : Hid (Below w.heap.size w w1) := b_then (B0.out) b1
  have l1 := AtLSn.on l0 (by rfl) b1
  clear b1 l0
  obtain ⟨c0, c1, c2, c3⟩ := l1.cells
  clear l1
  go_wp2_with fail
  refine (toSn_any S _).mono ?_
  rintro e w2 ⟨rfl, b2⟩
  have B2 : Hid (Below w.heap.size w w2) := b_then (B1.out) b2
  clear b2
  go_wp2_with fail
  refine (implFlourOf_any S a b _).mono ?_
  rintro e w3 ⟨r3, rfl, h3, b3⟩
  have H3 := Lib.hid h3; clear h3
  have B3 : Hid (Below w.heap.size w w3) := b_then (B2.out) b3
  clear b3
  rcases cnx (H3.out.trans H1.out.symm) with ⟨hn2, hn1⟩ | ⟨hnn, he12⟩
  · have q1 := fun w => run_nan_wide (P := Try.prog) w 22 35 r1 (by rw [Try.underlying22]; rfl) Try.underlying35 hn1
    have q2 := fun w => run_nan_wide (P := Try.prog) w 22 35 r3 (by rw [Try.underlying22]; rfl) Try.underlying35 hn2
    clear hn1 hn2
    go_wp2_with (go_at_call 24; refine (sf_nan _ _ _ (nanTo_nan _ _) (nanTo_nan _ _)).mono ?_; rintro e w' ⟨rfl, rfl⟩)
    go_ret
    exact ⟨rfl, by first | exact B3.out.drew.drew | exact b_drewN B3.out _⟩
  · subst he12
    have q1 := fun w => run_wide (P := Try.prog) w 22 35 r3 (by rw [Try.underlying22]; rfl) Try.underlying35 hnn
    have q3 := (wide_some hnn).2
    clear hnn
    go_wp2_with (go_at_call 24; refine (sf_eq _ _ q3).mono ?_; rintro e w' ⟨rfl, rfl⟩)
    go_ret
    exact ⟨rfl, B3.out⟩
end Go.Proofs.Ytagjkagfnfonpaa
