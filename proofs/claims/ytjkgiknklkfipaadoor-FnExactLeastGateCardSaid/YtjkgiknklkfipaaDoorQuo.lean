/-
  Quotients in single precision by numbers that are not small, without a program.
-/
import Derived.Test.YtjkgiknklkfipaaDoorSpill
import Derived.Test.YtjkgiknklkfipaaDoorRoot
namespace Go.Proofs.YtjkgiknklkfipaaDoor
open Go
set_option linter.unusedVariables false
set_option linter.unusedSimpArgs false
theorem read_big {x B : Nat} (h : B * 8388608 ≤ rg x) (h1 : 1 ≤ B) (h2 : rg x < 255 * 8388608) : ∃ (m : Nat) (e : Int), Ieee.single.read x = .number (x / 2147483648 % 2 == 1) m e ∧ 2 ^ 23 ≤ m ∧ (B : Int) - 127 ≤ e + 23 := by
  have hs : Ieee.Format.signWeight Ieee.single = 2147483648 := by decide
  have hb : Ieee.Format.binade Ieee.single = 8388608 := by decide
  have hi : Ieee.Format.infRung Ieee.single = 2139095040 := by decide
  have hl : Ieee.Format.leastPlace Ieee.single = -149 := by decide
  have hB : 1 * 8388608 ≤ B * 8388608 := Nat.mul_le_mul_right _ h1
  have hr : B * 8388608 ≤ x % 2147483648 := h
  have hr2 : x % 2147483648 < 255 * 8388608 := h2
  unfold Ieee.Format.read
  simp only [hs, hb, hi, hl]
  rw [if_neg (by omega), if_pos (by omega)]
  refine ⟨_, _, rfl, ?_, ?_⟩
  · exact Nat.le_add_right 8388608 _
  · have : B ≤ x % 2147483648 / 8388608 := (Nat.le_div_iff_mul_le (by decide)).2 hr
    omega
theorem quo_le {x y A B C : Nat} (hx : rg x < A * 8388608) (hy : B * 8388608 ≤ rg y) (hy2 : rg y < 255 * 8388608) (hA : 1 ≤ A) (hB : 1 ≤ B) (hA2 : A ≤ 255) (hC : A + 127 = C + B) (h1 : 1 ≤ C) (h2 : C ≤ 254) :
    floatBits .quo .f32 x y = some (quoN x y) ∧ rg (quoN x y) ≤ C * 8388608 ∧ sgn (quoN x y) = (sgn x ^^ sgn y) := by
  obtain ⟨m, k, e, r1, b1, c1, _⟩ := read_small hx hA hA2
  obtain ⟨n, f, r2, b2, c2⟩ := read_big hy hB hy2
  have n0 : n ≠ 0 := by
    intro h0
    rw [h0] at b2
    exact absurd b2 (by decide)
  have e0 : floatBits .quo .f32 x y = some (Ieee.single.write ((Ieee.Datum.number ((x / 2147483648 % 2 == 1) ^^ (y / 2147483648 % 2 == 1)) (2 * ((m <<< (Ieee.single.fractionBits + 2 + n.log2 - m.log2)) / n) + ((m <<< (Ieee.single.fractionBits + 2 + n.log2 - m.log2)) % n != 0).toNat) (e - f - (Ieee.single.fractionBits + 2 + n.log2 - m.log2 : Nat) - 1)))) := by
    simp only [floatBits, FloatKind.format, Ieee.Format.div, r1, r2, Ieee.Datum.quotient]
    rw [if_neg n0]
    rfl
  have e1 := quoN_some e0
  have e2 : quoN x y = _ := Option.some.inj (e1.symm.trans e0)
  refine ⟨e1, ?_, ?_⟩
  · rw [e2]
    have hlog : m < 2 ^ (m.log2 + 1) := Nat.lt_log2_self
    have hnl : 23 ≤ n.log2 := (Nat.le_log2 n0).2 b2
    generalize hmo : Ieee.single.fractionBits + 2 + n.log2 - m.log2 = more
    by_cases m0 : m = 0
    · subst m0
      have z : (2 * ((0 <<< more) / n) + ((0 <<< more) % n != 0).toNat) = 0 := by simp
      rw [z]
      show rg (Ieee.single.nearest _ 0 _) ≤ _
      unfold Ieee.Format.nearest
      rw [if_pos rfl, rg_word _ (by decide)]
      exact Nat.zero_le _
    · have hk : m.log2 < k := (Nat.log2_lt m0).2 b1
      have hm2 : 25 + n.log2 - m.log2 = more := hmo
      have hkm : 23 ≤ k + more := by omega
      have q1 : m <<< more < 2 ^ (k + more - 23) * n := by
        rw [Nat.shiftLeft_eq]
        have t1 : m * 2 ^ more < 2 ^ k * 2 ^ more := Nat.mul_lt_mul_of_pos_right b1 (Nat.two_pow_pos _)
        have t2 : 2 ^ k * 2 ^ more = 2 ^ (k + more - 23) * 2 ^ 23 := by rw [← Nat.pow_add, ← Nat.pow_add, Nat.sub_add_cancel hkm]
        have t3 : 2 ^ (k + more - 23) * 2 ^ 23 ≤ 2 ^ (k + more - 23) * n := Nat.mul_le_mul_left _ b2
        omega
      have q2 : (m <<< more) / n < 2 ^ (k + more - 23) := (Nat.div_lt_iff_lt_mul (by omega)).2 q1
      have hb : ((m <<< more) % n != 0).toNat ≤ 1 := Bool.toNat_le _
      refine nearest_le _ (k := k + more - 23 + 1) ?_ ?_ h1 h2
      · rw [Nat.pow_succ]
        omega
      · omega
  · rw [e2]
    exact sgn_nearest _ _ _
theorem add_step {x y A : Nat} (hx : rg x < A * 8388608) (hy : rg y < A * 8388608) (hA : 1 ≤ A) (h2 : A ≤ 253) :
    floatBits .add .f32 x y = some (addN x y) ∧ rg (addN x y) ≤ (A + 1) * 8388608 := by
  obtain ⟨r, e, hr⟩ := sum_le hx hy hA h2
  have := addN_some e
  refine ⟨this, ?_⟩
  have e2 : addN x y = r := by rw [e] at this; exact (Option.some.inj this).symm
  rw [e2]; exact hr
theorem sub_step {x y A : Nat} (hx : rg x < A * 8388608) (hy : rg y < A * 8388608) (hA : 1 ≤ A) (h2 : A ≤ 253) :
    floatBits .sub .f32 x y = some (subN x y) ∧ rg (subN x y) ≤ (A + 1) * 8388608 := by
  obtain ⟨r, e, hr⟩ := sub_le hx hy hA h2
  have := subN_some e
  refine ⟨this, ?_⟩
  have e2 : subN x y = r := by rw [e] at this; exact (Option.some.inj this).symm
  rw [e2]; exact hr
def sqN19 (h : Nat) : Nat := mulN 1100808192 h
def fastN (h : Nat) : Nat := fastOf (sqN19 h)
def openN (ar : Nat) (g : Int) : Nat := quoN (mulN ar (floatOfInt .f32 g)) 1098907648
def flowN (ar he : Nat) (g : Int) : Nat := mulN (openN ar g) (fastN he)
theorem rad_between {x : Nat} (h : radB x = true) : nan32 x = false ∧ rg x ≤ 1149239296 ∧ 1031798784 ≤ rg x ∧ rk x = (rg x : Int) := by
  unfold radB at h
  simp only [Bool.and_eq_true] at h
  exact between h.1 h.2 (by decide) (by decide)
theorem fast_some {h : Nat} (hh : radB h = true) : floatBits .mul .f32 1100808192 h = some (sqN19 h) ∧ nan32 (sqN19 h) = false ∧ Ieee.double.sqrt (wide (sqN19 h)) = some (rootN (sqN19 h)) ∧ floatToFloatBits .f64 (rootN (sqN19 h)) .f32 = some (fastN h) ∧ rg (fastN h) ≤ 138 * 8388608 ∧ sgn (fastN h) = false := by
  obtain ⟨n1, b1, l1, k1⟩ := rad_between hh
  obtain ⟨e1, c1⟩ := mul_step (x := 1100808192) (y := h) (A := 132) (B := 138) (C := 143) (by rw [rg_small (by decide)]; decide) (by omega) (by omega) (by omega) (by omega) (by omega) (by omega) (by omega) (by omega)
  have s1 := mul_sgn (A := 132) (B := 138) (by rw [rg_small (by decide)]; decide) (by omega) (by omega) (by omega) (by omega) (by omega) e1
  rw [sgn_of_rk (x := h) (by omega), show sgn 1100808192 = false by decide] at s1
  have e1' : floatBits .mul .f32 1100808192 h = some (sqN19 h) := e1
  have c1' : rg (sqN19 h) ≤ 143 * 8388608 := c1
  have s1' : (sqN19 h / 2147483648 % 2 == 1) = false := s1
  obtain ⟨r1, r2, r3, r4⟩ := root_some (x := sqN19 h) (C := 144) (D := 137) (by omega) (by omega) (by omega) s1' (by omega) (by omega) (by omega)
  refine ⟨e1', floatBits_notNan e1', r1, r2, r3, ?_⟩
  unfold sgn
  have r5 : fastN h < 2147483648 := r4
  have : fastN h / 2147483648 = 0 := Nat.div_eq_of_lt r5
  rw [this]
  rfl
theorem flow_some {ar he : Nat} {g : Int} (ha : radB ar = true) (hh : radB he = true) (g0 : 0 ≤ g) (g1 : g ≤ 16) :
    floatBits .mul .f32 ar (floatOfInt .f32 g) = some (mulN ar (floatOfInt .f32 g)) ∧ floatBits .quo .f32 (mulN ar (floatOfInt .f32 g)) 1098907648 = some (openN ar g) ∧ floatBits .mul .f32 (openN ar g) (fastN he) = some (flowN ar he g) ∧ fOK (flowN ar he g) := by
  obtain ⟨n1, b1, l1, k1⟩ := rad_between ha
  have bf := (fast_some hh).2.2.2.2.1
  have sf := (fast_some hh).2.2.2.2.2
  have hg := fint_rg g0 (by omega : g ≤ 48)
  obtain ⟨e1, c1⟩ := mul_step (x := ar) (y := floatOfInt .f32 g) (A := 138) (B := 133) (C := 144) (by omega) hg (by omega) (by omega) (by omega) (by omega) (by omega) (by omega) (by omega)
  have s1 := mul_sgn (A := 138) (B := 133) (by omega) hg (by omega) (by omega) (by omega) (by omega) e1
  rw [sgn_of_rk (x := ar) (by omega), fint_sgn g0 (by omega)] at s1
  obtain ⟨e2, c2, s2⟩ := quo_le (x := mulN ar (floatOfInt .f32 g)) (y := 1098907648) (A := 145) (B := 131) (C := 141) (by omega) (by rw [rg_small (by decide)]; decide) (by rw [rg_small (by decide)]; decide) (by omega) (by omega) (by omega) (by omega) (by omega) (by omega)
  rw [s1, show sgn 1098907648 = false by decide] at s2
  have c2' : rg (openN ar g) ≤ 141 * 8388608 := c2
  have s2' : sgn (openN ar g) = false := s2
  obtain ⟨e3, c3⟩ := mul_step (x := openN ar g) (y := fastN he) (A := 142) (B := 139) (C := 154) (by omega) (by omega) (by omega) (by omega) (by omega) (by omega) (by omega) (by omega) (by omega)
  have s3 := mul_sgn (x := openN ar g) (y := fastN he) (A := 142) (B := 139) (by omega) (by omega) (by omega) (by omega) (by omega) (by omega) e3
  rw [s2', sf] at s3
  have e3' : floatBits .mul .f32 (openN ar g) (fastN he) = some (flowN ar he g) := e3
  have c3' : rg (flowN ar he g) ≤ 154 * 8388608 := c3
  exact ⟨e1, e2, e3', floatBits_notNan e3', rk_of_sgn s3, by omega⟩
end Go.Proofs.YtjkgiknklkfipaaDoor
