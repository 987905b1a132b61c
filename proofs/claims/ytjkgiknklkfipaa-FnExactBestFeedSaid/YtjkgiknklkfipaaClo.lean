/-
  Single precision, without a program: sums and halves between bounds that are powers of two, the bounds included.
-/
import Derived.Test.YtjkgiknklkfipaaMag
namespace Go.Proofs.Ytjkgiknklkfipaa
open Go
set_option linter.unusedVariables false
set_option linter.unusedSimpArgs false
theorem cut_pow (neg : Bool) (j d : Nat) : Ieee.Toward.even.cut neg (2 ^ (j + d)) d ≤ 2 ^ j := by
  unfold Ieee.Toward.cut
  dsimp only
  have hl : (2 ^ (j + d)).log2 = j + d := Nat.log2_two_pow
  rw [hl, Nat.min_eq_left (by omega : d ≤ j + d + 2), Nat.shiftLeft_eq, Nat.one_mul, Nat.pow_add, Nat.mul_div_cancel _ (Nat.two_pow_pos d), Nat.mul_mod_left]
  have : ¬ (2 ^ d < 2 * 0) := by rw [Nat.mul_zero]; exact Nat.not_lt_zero _
  have h2 : (2 ^ d == 2 * 0) = false := by
    have := Nat.two_pow_pos d
    exact beq_eq_false_iff_ne.2 (by omega)
  simp [this, h2]
theorem nearest_le' (s : Bool) {mag k C : Nat} {place : Int} (hm : mag ≤ 2 ^ k) (hk : place + (k : Int) ≤ (C : Int) - 127) (h1 : 1 ≤ C) (h2 : C ≤ 254) :
    rg (Ieee.single.nearest s mag place) ≤ C * 8388608 := by
  rcases Nat.lt_or_eq_of_le hm with hlt | rfl
  · exact nearest_le s hlt hk h1 h2
  have hb : Ieee.Format.binade Ieee.single = 8388608 := by decide
  have hi : Ieee.Format.infRung Ieee.single = 2139095040 := by decide
  have hl : Ieee.Format.leastPlace Ieee.single = -149 := by decide
  have hf : (Ieee.single.fractionBits : Int) = 23 := rfl
  by_cases hc : -149 ≤ place + (k : Int) - 23
  · unfold Ieee.Format.nearest
    dsimp only
    rw [if_neg (Nat.ne_of_gt (Nat.two_pow_pos k)), Nat.log2_two_pow, hl, hb, hi, hf, Int.max_eq_left hc]
    have hcut : Ieee.Toward.even.cut s (2 ^ k <<< (place - (place + (k : Int) - 23)).toNat) ((place + (k : Int) - 23) - place).toNat ≤ 2 ^ 23 := by
      rw [Nat.shiftLeft_eq, ← Nat.pow_add, show k + (place - (place + (k : Int) - 23)).toNat = 23 + ((place + (k : Int) - 23) - place).toNat by omega]
      exact cut_pow _ _ _
    refine min_word s _ C ?_ h2
    have e2 : ((place + (k : Int) - 23) - -149).toNat + 1 ≤ C := by omega
    have e3 : (((place + (k : Int) - 23) - -149).toNat + 1) * 8388608 ≤ C * 8388608 := Nat.mul_le_mul_right _ e2
    omega
  · refine nearest_le s (k := k + 1) ?_ ?_ h1 h2
    · exact Nat.pow_lt_pow_right (by decide) (by omega)
    · omega
/-- What a word of a small rung stands for, the bound included. -/
theorem read_small' {x C : Nat} (h : rg x ≤ C * 8388608) (h1 : 1 ≤ C) (h2 : C ≤ 254) : ∃ (m k : Nat) (e : Int), Ieee.single.read x = .number (x / 2147483648 % 2 == 1) m e ∧ m ≤ 2 ^ k ∧ e + (k : Int) ≤ (C : Int) - 127 ∧ m < 2 ^ 24 := by
  have hs : Ieee.Format.signWeight Ieee.single = 2147483648 := by decide
  have hb : Ieee.Format.binade Ieee.single = 8388608 := by decide
  have hi : Ieee.Format.infRung Ieee.single = 2139095040 := by decide
  have hl : Ieee.Format.leastPlace Ieee.single = -149 := by decide
  have hC : C * 8388608 ≤ 254 * 8388608 := Nat.mul_le_mul_right _ h2
  have hr : x % 2147483648 ≤ C * 8388608 := h
  unfold Ieee.Format.read
  simp only [hs, hb, hi, hl]
  split
  · rename_i hlt
    exact ⟨_, 23, -149, rfl, by omega, by omega, by omega⟩
  · rename_i hge
    rw [if_pos (by omega)]
    rcases Nat.lt_or_eq_of_le hr with hlt | heq
    · have : x % 2147483648 / 8388608 < C := Nat.div_lt_of_lt_mul (by omega)
      exact ⟨_, 24, _, rfl, by omega, by omega, by omega⟩
    · rw [heq, Nat.mul_mod_left, Nat.mul_div_cancel _ (by decide : 0 < 8388608)]
      exact ⟨_, 23, _, rfl, by omega, by omega, by omega⟩
theorem sum_le' {x y A : Nat} (hx : rg x ≤ A * 8388608) (hy : rg y ≤ A * 8388608) (hA : 1 ≤ A) (h2 : A ≤ 253) :
    ∃ r, floatBits .add .f32 x y = some r ∧ rg r ≤ (A + 1) * 8388608 := by
  obtain ⟨m, k, e, r1, b1, c1, _⟩ := read_small' hx hA (by omega)
  obtain ⟨n, l, f, r2, b2, c2, _⟩ := read_small' hy hA (by omega)
  refine ⟨_, by simp only [floatBits, FloatKind.format, Ieee.Format.add, r1, r2, Ieee.Datum.sum, Option.map_some]; rfl, ?_⟩
  refine nearest_le' _ (k := ((A : Int) + 1 - 127 - min e f).toNat) ?_ (by omega) (by omega) (by omega)
  refine Nat.le_trans (Int.natAbs_add_le _ _) ?_
  rw [signed_abs, signed_abs]
  have e1 : m * 2 ^ (e - min e f).toNat ≤ 2 ^ k * 2 ^ (e - min e f).toNat := Nat.mul_le_mul_right _ b1
  have e2 : n * 2 ^ (f - min e f).toNat ≤ 2 ^ l * 2 ^ (f - min e f).toNat := Nat.mul_le_mul_right _ b2
  rw [← Nat.pow_add] at e1 e2
  have p1 : 2 ^ (k + (e - min e f).toNat) ≤ 2 ^ ((A : Int) - 127 - min e f).toNat := Nat.pow_le_pow_right (by decide) (by omega)
  have p2 : 2 ^ (l + (f - min e f).toNat) ≤ 2 ^ ((A : Int) - 127 - min e f).toNat := Nat.pow_le_pow_right (by decide) (by omega)
  have p3 : 2 ^ ((A : Int) + 1 - 127 - min e f).toNat = 2 * 2 ^ ((A : Int) - 127 - min e f).toNat := by
    rw [show ((A : Int) + 1 - 127 - min e f).toNat = ((A : Int) - 127 - min e f).toNat + 1 by omega, Nat.pow_succ, Nat.mul_comm]
  omega
theorem sub_le' {x y A : Nat} (hx : rg x ≤ A * 8388608) (hy : rg y ≤ A * 8388608) (hA : 1 ≤ A) (h2 : A ≤ 253) :
    ∃ r, floatBits .sub .f32 x y = some r ∧ rg r ≤ (A + 1) * 8388608 := by
  obtain ⟨m, k, e, r1, b1, c1, _⟩ := read_small' hx hA (by omega)
  obtain ⟨n, l, f, r2, b2, c2, _⟩ := read_small' hy hA (by omega)
  refine ⟨_, by simp only [floatBits, FloatKind.format, Ieee.Format.sub, r1, r2, Ieee.Datum.opposite, Ieee.Datum.sum, Option.map_some]; rfl, ?_⟩
  refine nearest_le' _ (k := ((A : Int) + 1 - 127 - min e f).toNat) ?_ (by omega) (by omega) (by omega)
  refine Nat.le_trans (Int.natAbs_add_le _ _) ?_
  rw [signed_abs, signed_abs]
  have e1 : m * 2 ^ (e - min e f).toNat ≤ 2 ^ k * 2 ^ (e - min e f).toNat := Nat.mul_le_mul_right _ b1
  have e2 : n * 2 ^ (f - min e f).toNat ≤ 2 ^ l * 2 ^ (f - min e f).toNat := Nat.mul_le_mul_right _ b2
  rw [← Nat.pow_add] at e1 e2
  have p1 : 2 ^ (k + (e - min e f).toNat) ≤ 2 ^ ((A : Int) - 127 - min e f).toNat := Nat.pow_le_pow_right (by decide) (by omega)
  have p2 : 2 ^ (l + (f - min e f).toNat) ≤ 2 ^ ((A : Int) - 127 - min e f).toNat := Nat.pow_le_pow_right (by decide) (by omega)
  have p3 : 2 ^ ((A : Int) + 1 - 127 - min e f).toNat = 2 * 2 ^ ((A : Int) - 127 - min e f).toNat := by
    rw [show ((A : Int) + 1 - 127 - min e f).toNat = ((A : Int) - 127 - min e f).toNat + 1 by omega, Nat.pow_succ, Nat.mul_comm]
  omega
theorem mul_le' {x y A B C : Nat} (hx : rg x ≤ A * 8388608) (hy : rg y ≤ B * 8388608) (hA : 1 ≤ A) (hB : 1 ≤ B) (hA2 : A ≤ 254) (hB2 : B ≤ 254) (hC : A + B = C + 127) (h1 : 1 ≤ C) (h2 : C ≤ 254) :
    ∃ r, floatBits .mul .f32 x y = some r ∧ rg r ≤ C * 8388608 := by
  obtain ⟨m, k, e, r1, b1, c1, _⟩ := read_small' hx hA hA2
  obtain ⟨n, l, f, r2, b2, c2, _⟩ := read_small' hy hB hB2
  refine ⟨_, by simp only [floatBits, FloatKind.format, Ieee.Format.mul, r1, r2, Ieee.Datum.product, Option.map_some]; rfl, ?_⟩
  refine nearest_le' _ (k := k + l) ?_ (by omega) h1 h2
  rw [Nat.pow_add]
  exact Nat.mul_le_mul b1 b2
/-- A quotient by a power of two: B is the rung of the divisor's binade. -/
theorem quo_pow {x y A B C : Nat} (hx : rg x ≤ A * 8388608) (hy : y = B * 8388608) (hB : 1 ≤ B) (hA : 1 ≤ A) (hA2 : A ≤ 254) (hB2 : B ≤ 254) (hC : A + 127 = C + B) (h1 : 1 ≤ C) (h2 : C ≤ 254) :
    ∃ r, floatBits .quo .f32 x y = some r ∧ rg r ≤ C * 8388608 := by
  have hs : Ieee.Format.signWeight Ieee.single = 2147483648 := by decide
  have hb : Ieee.Format.binade Ieee.single = 8388608 := by decide
  have hi : Ieee.Format.infRung Ieee.single = 2139095040 := by decide
  have hl : Ieee.Format.leastPlace Ieee.single = -149 := by decide
  obtain ⟨m, k, e, r1, b1, c1, d1⟩ := read_small' hx hA hA2
  have r2 : ∃ s, Ieee.single.read y = .number s 8388608 ((B : Int) - 150) := by
    refine ⟨false, ?_⟩
    subst hy
    unfold Ieee.Format.read
    simp only [hs, hb, hi, hl]
    have t1 : B * 8388608 % 2147483648 = B * 8388608 := Nat.mod_eq_of_lt (by omega)
    rw [t1, if_neg (by omega), if_pos (by omega), Nat.mul_mod_left, Nat.mul_div_cancel _ (by decide : 0 < 8388608)]
    have t2 : (B * 8388608 / 2147483648 % 2 == 1) = false := by
      have : B * 8388608 / 2147483648 = 0 := Nat.div_eq_of_lt (by omega)
      rw [this]; rfl
    rw [t2]
    simp only [Ieee.Datum.number.injEq, true_and]
    omega
  obtain ⟨s2, r2⟩ := r2
  have hlog : (8388608 : Nat).log2 = 23 := by decide +kernel
  refine ⟨_, by simp only [floatBits, FloatKind.format, Ieee.Format.div, r1, r2, Ieee.Datum.quotient]; rw [if_neg (by decide)]; rfl, ?_⟩
  rw [hlog]
  show rg (Ieee.single.nearest _ _ _) ≤ _
  have hmore : Ieee.single.fractionBits + 2 + 23 - m.log2 = 48 - m.log2 := rfl
  rw [hmore]
  have hm24 : m.log2 ≤ 23 := by
    by_cases m0 : m = 0
    · subst m0; decide
    · have := (Nat.log2_lt m0).2 d1
      omega
  generalize hmo : 48 - m.log2 = more
  have hge : 23 ≤ more := by omega
  have hsplit : m <<< more = m * 2 ^ (more - 23) * 8388608 := by
    rw [Nat.shiftLeft_eq, show (8388608 : Nat) = 2 ^ 23 by decide, Nat.mul_assoc, ← Nat.pow_add, Nat.sub_add_cancel hge]
  rw [hsplit, Nat.mul_div_cancel _ (by decide : 0 < 8388608), Nat.mul_mod_left]
  have hz : (0 != 0 : Bool).toNat = 0 := rfl
  rw [hz, Nat.add_zero]
  refine nearest_le' _ (k := k + (more - 23) + 1) ?_ ?_ h1 h2
  · rw [Nat.pow_succ, Nat.pow_add]
    have := Nat.mul_le_mul_right (2 ^ (more - 23)) b1
    omega
  · omega
end Go.Proofs.Ytjkgiknklkfipaa
