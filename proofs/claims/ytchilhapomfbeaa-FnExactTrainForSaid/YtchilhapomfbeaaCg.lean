/-
  The factor of four wheels: both sides and the law.
-/
import Derived.Test.YtchilhapomfbeaaCf
import Derived.Test.YtchilhapomfbeaaQt
namespace Go.Proofs.Ytchilhapomfbeaa
open Go.RowKit Go.ChangeShapes Go.WideShapes Go.Deep
attribute [local go_sem ↓] Go.wp_at_zero Go.wp_at_succ
set_option linter.unusedVariables false
set_option linter.unusedSimpArgs false
set_option maxRecDepth 100000
set_option maxHeartbeats 2000000 in
theorem choiceError_is {K : Int} (A : Option Addr) (n k : Nat) (zs : List Int) (a b c d : Int) (w : World) (hK0 : codeW zs [a, b, c, d] = K) (hl : zs.length = n) (hn : n ≤ 1048576) (hw : ∀ z ∈ zs, I16 z) (hT : Ii w w.heap.size A zs) (ha : I16 a) (hb : I16 b) (hc : I16 c) (hd : I16 d) :
    Calls Try.prog 61 #[.slice A n k, .agg #[.int .i16 a, .int .i16 b, .int .i16 c, .int .i16 d]] w (RV (.int .i64 K) w) := by
  have HT := Lib.hid hT; clear hT
  have Hl := Lib.hid hl; clear hl
  have Hw := Lib.hid hw; clear hw
  have hK := Lib.hid hK0; clear hK0
  obtain ⟨c0, c1, c2, c3⟩ := (AtCh.new w ⟨a, b, c, d⟩).cells
  dsimp only at c0 c1 c2 c3
  obtain ⟨ha1, ha2⟩ := ha
  obtain ⟨hb1, hb2⟩ := hb
  obtain ⟨hc1, hc2⟩ := hc
  obtain ⟨hd1, hd2⟩ := hd
  go_enter Try.func61, Try.ntmps61
  go_wp2_with (first | (go_at_call 108; refine (wheelsError_is (m := 4) (c' := 4) hK.out Hl.out hn Hw.out (HT.out.keep (by (repeat (first | exact Below.refl _ _ | refine b_drewN ?_ _ | refine b_drew ?_ | refine b_alloc ?_ _ | refine b_then ?_ (by assumption))))) rfl (by decide) (by decide) (by decide) (lo_four (by go_simp) (by go_simp) (by go_simp) (by go_simp) (by simp))).mono ?_; rintro e w1 ⟨rfl, b1⟩))
  go_ret
  refine ⟨rfl, ?_⟩
  (repeat (first | exact Below.refl _ _ | refine b_drewN ?_ _ | refine b_drew ?_ | refine b_alloc ?_ _ | refine b_then ?_ (by assumption)))
set_option maxHeartbeats 8000000 in
theorem l05Choice_any (A : Option Addr) (n k : Nat) (zs : List Int) (a b c d : Int) (w : World) (hl : zs.length = n) (hn : n ≤ 1048576) (hw : ∀ z ∈ zs, I16 z) (hT : Ii w w.heap.size A zs) (ha : I16 a) (hb : I16 b) (hc : I16 c) (hd : I16 d) :
    Calls Try.prog 60 #[.slice A n k, .agg #[.int .i16 a, .int .i16 b, .int .i16 c, .int .i16 d]] w (RV (.int .i64 (codeW zs [a, b, c, d])) w) := by
  have HT := Lib.hid hT; clear hT
  have Hl := Lib.hid hl; clear hl
  have Hw := Lib.hid hw; clear hw
  have h0 := Lib.hid (AtCh.new w ⟨a, b, c, d⟩)
  obtain ⟨ha1, ha2⟩ := ha
  obtain ⟨hb1, hb2⟩ := hb
  obtain ⟨hc1, hc2⟩ := hc
  obtain ⟨hd1, hd2⟩ := hd
  rcases Bool.eq_false_or_eq_true (okZ zs) with hz | hz
  rotate_left
  · have Ho := Lib.hid (fun W (hb0 : Below w.heap.size w W) => specOk_is (w := W) (c := k) hz Hl.out hn Hw.out (HT.out.keep hb0))
    have hk : codeW zs [a, b, c, d] = 1 := by unfold codeW; rw [hz]; rfl
    rw [hk]
    clear hz hk
    go_enter Try.func60, Try.ntmps60
    go_wp2_with (go_at_call 96; refine (Ho.out _ (by (repeat (first | exact Below.refl _ _ | refine b_drewN ?_ _ | refine b_drew ?_ | refine b_alloc ?_ _ | refine b_then ?_ (by assumption))))).mono ?_; rintro e w1 ⟨rfl, b1⟩; obtain ⟨d0, d1, d2, d3⟩ := (h0.out.on (by rfl) b1).cells; dsimp only at d0 d1 d2 d3)
    go_ret
    refine ⟨rfl, ?_⟩
    (repeat (first | exact Below.refl _ _ | refine b_drewN ?_ _ | refine b_drew ?_ | refine b_alloc ?_ _ | refine b_then ?_ (by assumption)))
  have Ho := Lib.hid (fun W (hb0 : Below w.heap.size w W) => specOk_is (w := W) (c := k) hz Hl.out hn Hw.out (HT.out.keep hb0))
  have hk : codeW zs [a, b, c, d] = if (wB n a && (wB n b && (wB n c && wB n d))) then (if (a == b || (a == c || (a == d || (b == c || (b == d || c == d))))) then 4 else 0) else 2 := by unfold codeW; rw [hz, inB_four, dupB_four, Hl.out]; rfl
  clear hz
  rcases Bool.eq_false_or_eq_true (wB n a) with ha | ha <;> rcases Bool.eq_false_or_eq_true (wB n b) with hb | hb <;> rcases Bool.eq_false_or_eq_true (wB n c) with hc | hc <;> rcases Bool.eq_false_or_eq_true (wB n d) with hd | hd
  all_goals
    have wa := Lib.hid (fun w => l05Wheel_is A k ha hn w)
    have wb := Lib.hid (fun w => l05Wheel_is A k hb hn w)
    have wc := Lib.hid (fun w => l05Wheel_is A k hc hn w)
    have wd := Lib.hid (fun w => l05Wheel_is A k hd hn w)
    rw [ha, hb, hc, hd] at hk
    simp only [Bool.and_false, Bool.false_and, Bool.and_self, Bool.and_true, if_true, if_false, Bool.false_eq_true] at hk
    clear ha hb hc hd
  · rcases Bool.eq_false_or_eq_true (a == b) with g0 | g0
    · have hE := Lib.hid (show codeW zs [a, b, c, d] = 4 by rw [hk]; simp only [g0, Bool.true_or, Bool.false_or, Bool.or_true, Bool.or_false, if_true, if_false, Bool.false_eq_true])
      clear hk
      go_enter Try.func60, Try.ntmps60
      go_wp2_with (first | (go_at_call 96; refine (Ho.out _ (by (repeat (first | exact Below.refl _ _ | refine b_drewN ?_ _ | refine b_drew ?_ | refine b_alloc ?_ _ | refine b_then ?_ (by assumption))))).mono ?_; rintro e w1 ⟨rfl, b1⟩; obtain ⟨d0, d1, d2, d3⟩ := (h0.out.on (by rfl) b1).cells; dsimp only at d0 d1 d2 d3) | (go_at_call 107; first | ((with_reducible refine (wa.out _).mono ?_); rintro e w2 ⟨rfl, rfl⟩) | ((with_reducible refine (wb.out _).mono ?_); rintro e w2 ⟨rfl, rfl⟩) | ((with_reducible refine (wc.out _).mono ?_); rintro e w2 ⟨rfl, rfl⟩) | ((with_reducible refine (wd.out _).mono ?_); rintro e w2 ⟨rfl, rfl⟩)))
      go_ret
      refine ⟨by rw [hE.out]; rfl, ?_⟩
      (repeat (first | exact Below.refl _ _ | refine b_drewN ?_ _ | refine b_drew ?_ | refine b_alloc ?_ _ | refine b_then ?_ (by assumption)))
    rcases Bool.eq_false_or_eq_true (a == c) with g1 | g1
    · have hE := Lib.hid (show codeW zs [a, b, c, d] = 4 by rw [hk]; simp only [g0, g1, Bool.true_or, Bool.false_or, Bool.or_true, Bool.or_false, if_true, if_false, Bool.false_eq_true])
      clear hk
      go_enter Try.func60, Try.ntmps60
      go_wp2_with (first | (go_at_call 96; refine (Ho.out _ (by (repeat (first | exact Below.refl _ _ | refine b_drewN ?_ _ | refine b_drew ?_ | refine b_alloc ?_ _ | refine b_then ?_ (by assumption))))).mono ?_; rintro e w1 ⟨rfl, b1⟩; obtain ⟨d0, d1, d2, d3⟩ := (h0.out.on (by rfl) b1).cells; dsimp only at d0 d1 d2 d3) | (go_at_call 107; first | ((with_reducible refine (wa.out _).mono ?_); rintro e w2 ⟨rfl, rfl⟩) | ((with_reducible refine (wb.out _).mono ?_); rintro e w2 ⟨rfl, rfl⟩) | ((with_reducible refine (wc.out _).mono ?_); rintro e w2 ⟨rfl, rfl⟩) | ((with_reducible refine (wd.out _).mono ?_); rintro e w2 ⟨rfl, rfl⟩)))
      go_ret
      refine ⟨by rw [hE.out]; rfl, ?_⟩
      (repeat (first | exact Below.refl _ _ | refine b_drewN ?_ _ | refine b_drew ?_ | refine b_alloc ?_ _ | refine b_then ?_ (by assumption)))
    rcases Bool.eq_false_or_eq_true (a == d) with g2 | g2
    · have hE := Lib.hid (show codeW zs [a, b, c, d] = 4 by rw [hk]; simp only [g0, g1, g2, Bool.true_or, Bool.false_or, Bool.or_true, Bool.or_false, if_true, if_false, Bool.false_eq_true])
      clear hk
      go_enter Try.func60, Try.ntmps60
      go_wp2_with (first | (go_at_call 96; refine (Ho.out _ (by (repeat (first | exact Below.refl _ _ | refine b_drewN ?_ _ | refine b_drew ?_ | refine b_alloc ?_ _ | refine b_then ?_ (by assumption))))).mono ?_; rintro e w1 ⟨rfl, b1⟩; obtain ⟨d0, d1, d2, d3⟩ := (h0.out.on (by rfl) b1).cells; dsimp only at d0 d1 d2 d3) | (go_at_call 107; first | ((with_reducible refine (wa.out _).mono ?_); rintro e w2 ⟨rfl, rfl⟩) | ((with_reducible refine (wb.out _).mono ?_); rintro e w2 ⟨rfl, rfl⟩) | ((with_reducible refine (wc.out _).mono ?_); rintro e w2 ⟨rfl, rfl⟩) | ((with_reducible refine (wd.out _).mono ?_); rintro e w2 ⟨rfl, rfl⟩)))
      go_ret
      refine ⟨by rw [hE.out]; rfl, ?_⟩
      (repeat (first | exact Below.refl _ _ | refine b_drewN ?_ _ | refine b_drew ?_ | refine b_alloc ?_ _ | refine b_then ?_ (by assumption)))
    rcases Bool.eq_false_or_eq_true (b == c) with g3 | g3
    · have hE := Lib.hid (show codeW zs [a, b, c, d] = 4 by rw [hk]; simp only [g0, g1, g2, g3, Bool.true_or, Bool.false_or, Bool.or_true, Bool.or_false, if_true, if_false, Bool.false_eq_true])
      clear hk
      go_enter Try.func60, Try.ntmps60
      go_wp2_with (first | (go_at_call 96; refine (Ho.out _ (by (repeat (first | exact Below.refl _ _ | refine b_drewN ?_ _ | refine b_drew ?_ | refine b_alloc ?_ _ | refine b_then ?_ (by assumption))))).mono ?_; rintro e w1 ⟨rfl, b1⟩; obtain ⟨d0, d1, d2, d3⟩ := (h0.out.on (by rfl) b1).cells; dsimp only at d0 d1 d2 d3) | (go_at_call 107; first | ((with_reducible refine (wa.out _).mono ?_); rintro e w2 ⟨rfl, rfl⟩) | ((with_reducible refine (wb.out _).mono ?_); rintro e w2 ⟨rfl, rfl⟩) | ((with_reducible refine (wc.out _).mono ?_); rintro e w2 ⟨rfl, rfl⟩) | ((with_reducible refine (wd.out _).mono ?_); rintro e w2 ⟨rfl, rfl⟩)))
      go_ret
      refine ⟨by rw [hE.out]; rfl, ?_⟩
      (repeat (first | exact Below.refl _ _ | refine b_drewN ?_ _ | refine b_drew ?_ | refine b_alloc ?_ _ | refine b_then ?_ (by assumption)))
    rcases Bool.eq_false_or_eq_true (b == d) with g4 | g4
    · have hE := Lib.hid (show codeW zs [a, b, c, d] = 4 by rw [hk]; simp only [g0, g1, g2, g3, g4, Bool.true_or, Bool.false_or, Bool.or_true, Bool.or_false, if_true, if_false, Bool.false_eq_true])
      clear hk
      go_enter Try.func60, Try.ntmps60
      go_wp2_with (first | (go_at_call 96; refine (Ho.out _ (by (repeat (first | exact Below.refl _ _ | refine b_drewN ?_ _ | refine b_drew ?_ | refine b_alloc ?_ _ | refine b_then ?_ (by assumption))))).mono ?_; rintro e w1 ⟨rfl, b1⟩; obtain ⟨d0, d1, d2, d3⟩ := (h0.out.on (by rfl) b1).cells; dsimp only at d0 d1 d2 d3) | (go_at_call 107; first | ((with_reducible refine (wa.out _).mono ?_); rintro e w2 ⟨rfl, rfl⟩) | ((with_reducible refine (wb.out _).mono ?_); rintro e w2 ⟨rfl, rfl⟩) | ((with_reducible refine (wc.out _).mono ?_); rintro e w2 ⟨rfl, rfl⟩) | ((with_reducible refine (wd.out _).mono ?_); rintro e w2 ⟨rfl, rfl⟩)))
      go_ret
      refine ⟨by rw [hE.out]; rfl, ?_⟩
      (repeat (first | exact Below.refl _ _ | refine b_drewN ?_ _ | refine b_drew ?_ | refine b_alloc ?_ _ | refine b_then ?_ (by assumption)))
    rcases Bool.eq_false_or_eq_true (c == d) with g5 | g5
    · have hE := Lib.hid (show codeW zs [a, b, c, d] = 4 by rw [hk]; simp only [g0, g1, g2, g3, g4, g5, Bool.true_or, Bool.false_or, Bool.or_true, Bool.or_false, if_true, if_false, Bool.false_eq_true])
      clear hk
      go_enter Try.func60, Try.ntmps60
      go_wp2_with (first | (go_at_call 96; refine (Ho.out _ (by (repeat (first | exact Below.refl _ _ | refine b_drewN ?_ _ | refine b_drew ?_ | refine b_alloc ?_ _ | refine b_then ?_ (by assumption))))).mono ?_; rintro e w1 ⟨rfl, b1⟩; obtain ⟨d0, d1, d2, d3⟩ := (h0.out.on (by rfl) b1).cells; dsimp only at d0 d1 d2 d3) | (go_at_call 107; first | ((with_reducible refine (wa.out _).mono ?_); rintro e w2 ⟨rfl, rfl⟩) | ((with_reducible refine (wb.out _).mono ?_); rintro e w2 ⟨rfl, rfl⟩) | ((with_reducible refine (wc.out _).mono ?_); rintro e w2 ⟨rfl, rfl⟩) | ((with_reducible refine (wd.out _).mono ?_); rintro e w2 ⟨rfl, rfl⟩)))
      go_ret
      refine ⟨by rw [hE.out]; rfl, ?_⟩
      (repeat (first | exact Below.refl _ _ | refine b_drewN ?_ _ | refine b_drew ?_ | refine b_alloc ?_ _ | refine b_then ?_ (by assumption)))
    have hE := Lib.hid (show codeW zs [a, b, c, d] = 0 by rw [hk]; simp only [g0, g1, g2, g3, g4, g5, Bool.true_or, Bool.false_or, Bool.or_true, Bool.or_false, if_true, if_false, Bool.false_eq_true])
    clear hk
    go_enter Try.func60, Try.ntmps60
    go_wp2_with (first | (go_at_call 96; refine (Ho.out _ (by (repeat (first | exact Below.refl _ _ | refine b_drewN ?_ _ | refine b_drew ?_ | refine b_alloc ?_ _ | refine b_then ?_ (by assumption))))).mono ?_; rintro e w1 ⟨rfl, b1⟩; obtain ⟨d0, d1, d2, d3⟩ := (h0.out.on (by rfl) b1).cells; dsimp only at d0 d1 d2 d3) | (go_at_call 107; first | ((with_reducible refine (wa.out _).mono ?_); rintro e w2 ⟨rfl, rfl⟩) | ((with_reducible refine (wb.out _).mono ?_); rintro e w2 ⟨rfl, rfl⟩) | ((with_reducible refine (wc.out _).mono ?_); rintro e w2 ⟨rfl, rfl⟩) | ((with_reducible refine (wd.out _).mono ?_); rintro e w2 ⟨rfl, rfl⟩)))
    go_ret
    refine ⟨by rw [hE.out]; rfl, ?_⟩
    (repeat (first | exact Below.refl _ _ | refine b_drewN ?_ _ | refine b_drew ?_ | refine b_alloc ?_ _ | refine b_then ?_ (by assumption)))
  all_goals
    have hE := Lib.hid hk
    clear hk
    go_enter Try.func60, Try.ntmps60
    go_wp2_with (first | (go_at_call 96; refine (Ho.out _ (by (repeat (first | exact Below.refl _ _ | refine b_drewN ?_ _ | refine b_drew ?_ | refine b_alloc ?_ _ | refine b_then ?_ (by assumption))))).mono ?_; rintro e w1 ⟨rfl, b1⟩; obtain ⟨d0, d1, d2, d3⟩ := (h0.out.on (by rfl) b1).cells; dsimp only at d0 d1 d2 d3) | (go_at_call 107; first | ((with_reducible refine (wa.out _).mono ?_); rintro e w2 ⟨rfl, rfl⟩) | ((with_reducible refine (wb.out _).mono ?_); rintro e w2 ⟨rfl, rfl⟩) | ((with_reducible refine (wc.out _).mono ?_); rintro e w2 ⟨rfl, rfl⟩) | ((with_reducible refine (wd.out _).mono ?_); rintro e w2 ⟨rfl, rfl⟩)))
    go_ret
    refine ⟨by rw [hE.out]; rfl, ?_⟩
    (repeat (first | exact Below.refl _ _ | refine b_drewN ?_ _ | refine b_drew ?_ | refine b_alloc ?_ _ | refine b_then ?_ (by assumption)))
theorem chW (C : Ch) (h : (Lit.int .i16 C.a).wf = true ∧ (Lit.int .i16 C.b).wf = true ∧ (Lit.int .i16 C.c).wf = true ∧ (Lit.int .i16 C.d).wf = true) : I16 C.a ∧ I16 C.b ∧ I16 C.c ∧ I16 C.d := by
  obtain ⟨h1, h2, h3, h4⟩ := h
  refine ⟨?_, ?_, ?_, ?_⟩
  · simpa [I16, Lit.wf, IntKind.min, IntKind.max, IntKind.signed, IntKind.bits] using h1
  · simpa [I16, Lit.wf, IntKind.min, IntKind.max, IntKind.signed, IntKind.bits] using h2
  · simpa [I16, Lit.wf, IntKind.min, IntKind.max, IntKind.signed, IntKind.bits] using h3
  · simpa [I16, Lit.wf, IntKind.min, IntKind.max, IntKind.signed, IntKind.bits] using h4
end Go.Proofs.Ytchilhapomfbeaa
