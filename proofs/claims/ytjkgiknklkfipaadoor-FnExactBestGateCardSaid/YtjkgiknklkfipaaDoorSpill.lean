/-
  What is spilled, and the torque, word for word.
-/
import Derived.Test.YtjkgiknklkfipaaDoorFill
namespace Go.Proofs.YtjkgiknklkfipaaDoor
open Go.RowKit Go.ChangeShapes Go.WideShapes Go.Deep
attribute [local go_sem ↓] Go.wp_at_zero Go.wp_at_succ
set_option linter.unusedVariables false
set_option linter.unusedSimpArgs false
set_option maxRecDepth 100000
def sgn (x : Nat) : Bool := x / 2147483648 % 2 == 1
theorem sgn_word (s : Bool) {r : Nat} (h : r ≤ 2139095040) : sgn (Ieee.single.word s r) = s := word_neg Ieee.single s (by rw [show Ieee.Format.signWeight Ieee.single = 2147483648 by decide]; omega)
theorem sgn_nearest (s : Bool) (m : Nat) (e : Int) : sgn (Ieee.single.nearest s m e) = s := by
  unfold Ieee.Format.nearest
  dsimp only
  split
  · exact sgn_word s (by decide)
  · refine sgn_word s (Nat.le_trans (Nat.min_le_right _ _) ?_)
    rw [show Ieee.Format.infRung Ieee.single = 2139095040 by decide]
    exact Nat.le_refl _
theorem rk_of_sgn {x : Nat} (h : sgn x = false) : rk x = (rg x : Int) := by
  unfold rk rg
  rw [if_neg (by show ¬ sgn x = true; rw [h]; decide)]
theorem sgn_of_rk {x : Nat} (h : 0 < rk x) : sgn x = false := by
  cases hs : sgn x
  · rfl
  · exfalso
    unfold rk at h
    rw [if_pos (show (x / 2147483648 % 2 == 1) = true from hs)] at h
    omega
theorem mul_sgn {x y r A B : Nat} (hx : rg x < A * 8388608) (hy : rg y < B * 8388608) (hA : 1 ≤ A) (hB : 1 ≤ B) (hA2 : A ≤ 255) (hB2 : B ≤ 255) (h : floatBits .mul .f32 x y = some r) : sgn r = (sgn x ^^ sgn y) := by
  obtain ⟨m, k, e, r1, _⟩ := read_small hx hA hA2
  obtain ⟨n, l, f, r2, _⟩ := read_small hy hB hB2
  simp only [floatBits, FloatKind.format, Ieee.Format.mul, r1, r2, Ieee.Datum.product, Option.map_some] at h
  obtain rfl := Option.some.inj h
  exact sgn_nearest _ _ _
theorem quo_sgn {x y r A B : Nat} (hx : rg x < A * 8388608) (hy : rg y < B * 8388608) (hA : 1 ≤ A) (hB : 1 ≤ B) (hA2 : A ≤ 255) (hB2 : B ≤ 255) (h : floatBits .quo .f32 x y = some r) : sgn r = (sgn x ^^ sgn y) := by
  obtain ⟨m, k, e, r1, _⟩ := read_small hx hA hA2
  obtain ⟨n, l, f, r2, _⟩ := read_small hy hB hB2
  simp only [floatBits, FloatKind.format, Ieee.Format.div, r1, r2, Ieee.Datum.quotient] at h
  split at h
  · split at h
    · cases h
    · obtain rfl := Option.some.inj h
      exact sgn_word _ (by decide)
  · obtain rfl := Option.some.inj h
    exact sgn_nearest _ _ _
theorem fint_sgn_all : ((List.range 49).all fun k => sgn (floatOfInt .f32 (k : Int)) == false) = true := by decide +kernel
theorem fint_sgn {b : Int} (h1 : 0 ≤ b) (h2 : b ≤ 48) : sgn (floatOfInt .f32 b) = false := by
  obtain ⟨k, rfl⟩ := Int.eq_ofNat_of_zero_le h1
  simpa using List.all_eq_true.1 fint_sgn_all k (List.mem_range.2 (by omega))
theorem fill_rg {M : Ml} (hM : GoodM M) {f s : Nat} (hf : fOK f) (hs : spB s = true) : rg (fillN M f s) ≤ 1149239296 := by
  unfold fillN
  rcases Bool.eq_false_or_eq_true (oEq f 0) with f0 | f0
  · rw [f0]; exact Nat.zero_le _
  · rcases Bool.eq_false_or_eq_true (oEq s 0) with s0 | s0
    · rw [f0, s0]; exact hM.h.2.1
    · rcases Bool.eq_false_or_eq_true (oGt (qN M f s) M.h) with g0 | g0
      · rw [f0, s0, g0]; exact hM.h.2.1
      · rw [f0, s0, g0]
        show rg (qN M f s) ≤ 1149239296
        obtain ⟨eq, nq, _⟩ := q_some hM hf hs f0
        obtain ⟨ep, bp⟩ := pas_some hM hs
        obtain ⟨n1, k1, b1⟩ := id hf
        obtain ⟨n2, b2, _, k2⟩ := sp_between hs
        obtain ⟨n3, b3, _, k3⟩ := hM.h
        have hb := hM.b
        rw [oEq_rk n1 nan_zero, rk_zero, decide_eq_false_iff_not] at f0
        rw [oEq_rk n2 nan_zero, rk_zero, decide_eq_false_iff_not] at s0
        have sf := sgn_of_rk (x := f) (by omega)
        have ss := sgn_of_rk (x := s) (by omega)
        have sp := mul_sgn (A := 138) (B := 133) (by omega) (fint_rg (by omega) (by omega)) (by omega) (by omega) (by omega) (by omega) ep
        rw [ss, fint_sgn (by omega) (by omega)] at sp
        have sq := quo_sgn (A := 160) (B := 145) (by omega) (by omega) (by omega) (by omega) (by omega) (by omega) eq
        rw [sf, sp] at sq
        have kq := rk_of_sgn (x := qN M f s) (by rw [sq]; rfl)
        rw [oGt_rk nq n3, decide_eq_false_iff_not] at g0
        omega
def clampN (a : Nat) : Nat := if oGt a 0 then a else 0
def takenN (M : Ml) (f s : Nat) : Nat := mulN (fillN M f s) (pasN M s)
def leftN (M : Ml) (f s : Nat) : Nat := subN f (takenN M f s)
def spillN (M : Ml) (f s : Nat) : Nat := clampN (leftN M f s)
theorem taken_some {M : Ml} (hM : GoodM M) {f s : Nat} (hf : fOK f) (hs : spB s = true) : floatBits .mul .f32 (fillN M f s) (pasN M s) = some (takenN M f s) ∧ rg (takenN M f s) ≤ 156 * 8388608 := by
  have h1 := fill_rg hM hf hs
  have h2 := (pas_some hM hs).2
  obtain ⟨r, e, hr⟩ := mul_le (x := fillN M f s) (y := pasN M s) (A := 138) (B := 145) (C := 156) (by omega) (by omega) (by omega) (by omega) (by omega) (by omega) (by omega) (by omega) (by omega)
  have := mulN_some e
  refine ⟨this, ?_⟩
  have e2 : takenN M f s = r := by unfold takenN; rw [e] at this; exact (Option.some.inj this).symm
  rw [e2]; exact hr
theorem left_some {M : Ml} (hM : GoodM M) {f s : Nat} (hf : fOK f) (hs : spB s = true) : floatBits .sub .f32 f (takenN M f s) = some (leftN M f s) ∧ nan32 (leftN M f s) = false ∧ leftN M f s < 4294967296 := by
  have h1 := hf.2.2
  have h2 := (taken_some hM hf hs).2
  obtain ⟨r, e, hr⟩ := sub_le (x := f) (y := takenN M f s) (A := 160) (by omega) (by omega) (by omega) (by omega)
  have := subN_some e
  have e2 : leftN M f s = r := by unfold leftN; rw [e] at this; exact (Option.some.inj this).symm
  refine ⟨this, ?_, ?_⟩
  · rw [e2]; exact floatBits_notNan e
  · rw [e2]; exact bits_lt e
theorem clamp_max {a : Nat} (ha : nan32 a = false) (hl : a < 4294967296) {P : Program} (ts : Array TypeId) (t : TypeId) (w : World) :
    (Builtin.max_ ts t #[.float .f32 a, .float .f32 0]).run P w = .ok (.float .f32 (clampN a)) w := by
  rw [run_max_num ha nan_zero]
  have : (if rk a < rk 0 then 0 else if rk 0 < rk a then a else if (FloatKind.f32.decode a).neg then 0 else a) = clampN a := by
    unfold clampN
    rw [oGt_rk ha nan_zero, rk_zero]
    rcases Int.lt_trichotomy (rk a) 0 with h | h | h
    · rw [if_pos h, decide_eq_false (by omega)]; rfl
    · rw [if_neg (by omega), if_neg (by omega), decide_eq_false (by omega)]
      simp only [Bool.false_eq_true, if_false]
      have hz : a = 0 ∨ a = 2147483648 := by
        unfold rk at h
        split at h <;> omega
      rcases hz with rfl | rfl
      · split <;> rfl
      · rw [if_pos (by decide +kernel)]
    · rw [if_neg (by omega), if_pos h, decide_eq_true h]; rfl
  rw [this]
/-- The torque. -/
def heavyN : Nat := 1092419584
def leverN : Nat := 1059061760
def downN (M : Ml) : Nat := floatOfInt .f32 (M.b / 2)
def tq1 (M : Ml) (f s : Nat) : Nat := mulN (fillN M f s) 1092419584
def tq2 (M : Ml) (f s : Nat) : Nat := mulN (tq1 M f s) (downN M)
def tq3 (M : Ml) (f s : Nat) : Nat := mulN (tq2 M f s) M.r
def torqN (M : Ml) (f s : Nat) : Nat := mulN (tq3 M f s) 1059061760
theorem mul_step {x y A B C : Nat} (hx : rg x < A * 8388608) (hy : rg y < B * 8388608) (hA : 1 ≤ A) (hB : 1 ≤ B) (hA2 : A ≤ 255) (hB2 : B ≤ 255) (hC : A + B = C + 127) (h1 : 1 ≤ C) (h2 : C ≤ 254) :
    floatBits .mul .f32 x y = some (mulN x y) ∧ rg (mulN x y) ≤ C * 8388608 := by
  obtain ⟨r, e, hr⟩ := mul_le hx hy hA hB hA2 hB2 hC h1 h2
  have := mulN_some e
  refine ⟨this, ?_⟩
  have e2 : mulN x y = r := by rw [e] at this; exact (Option.some.inj this).symm
  rw [e2]; exact hr
theorem down_rg {M : Ml} (hM : GoodM M) : rg (downN M) < 133 * 8388608 := by
  have := hM.b
  exact fint_rg (by omega) (by omega)
theorem torq_some {M : Ml} (hM : GoodM M) {f s : Nat} (hf : fOK f) (hs : spB s = true) :
    floatBits .mul .f32 (fillN M f s) 1092419584 = some (tq1 M f s) ∧ floatBits .mul .f32 (tq1 M f s) (downN M) = some (tq2 M f s) ∧ floatBits .mul .f32 (tq2 M f s) M.r = some (tq3 M f s) ∧ floatBits .mul .f32 (tq3 M f s) 1059061760 = some (torqN M f s) ∧ rg (torqN M f s) ≤ 162 * 8388608 := by
  have h0 := fill_rg hM hf hs
  have hr := hM.r.2.1
  obtain ⟨e1, b1⟩ := mul_step (x := fillN M f s) (y := 1092419584) (A := 138) (B := 131) (C := 142) (by omega) (by rw [rg_small (by decide)]; decide) (by omega) (by omega) (by omega) (by omega) (by omega) (by omega) (by omega)
  obtain ⟨e2, b2⟩ := mul_step (x := tq1 M f s) (y := downN M) (A := 143) (B := 133) (C := 149) (by unfold tq1; omega) (down_rg hM) (by omega) (by omega) (by omega) (by omega) (by omega) (by omega) (by omega)
  obtain ⟨e3, b3⟩ := mul_step (x := tq2 M f s) (y := M.r) (A := 150) (B := 138) (C := 161) (by unfold tq2; omega) (by omega) (by omega) (by omega) (by omega) (by omega) (by omega) (by omega) (by omega)
  obtain ⟨e4, b4⟩ := mul_step (x := tq3 M f s) (y := 1059061760) (A := 162) (B := 127) (C := 162) (by unfold tq3; omega) (by rw [rg_small (by decide)]; decide) (by omega) (by omega) (by omega) (by omega) (by omega) (by omega) (by omega)
  exact ⟨e1, e2, e3, e4, b4⟩
end Go.Proofs.YtjkgiknklkfipaaDoor
