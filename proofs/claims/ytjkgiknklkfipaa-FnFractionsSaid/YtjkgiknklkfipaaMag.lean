/-
  Single precision, without a program: how great a sum, a difference, a product is, by its rung; so none of them is no number.
-/
import Derived.Test.YtjkgiknklkfipaaOrd
namespace Go.Proofs.Ytjkgiknklkfipaa
open Go
set_option linter.unusedVariables false
set_option linter.unusedSimpArgs false
/-- The rung of a word. -/
def rg (x : Nat) : Nat := x % 2147483648
theorem cut_le (neg : Bool) (n drop j : Nat) (h : n < 2 ^ (j + drop)) : Ieee.Toward.even.cut neg n drop ≤ 2 ^ j := by
  have key : n / (1 <<< min drop (n.log2 + 2)) < 2 ^ j := by
    rw [Nat.shiftLeft_eq, Nat.one_mul]
    rcases Nat.le_total drop (n.log2 + 2) with hd | hd
    · rw [Nat.min_eq_left hd, Nat.div_lt_iff_lt_mul (Nat.two_pow_pos _), ← Nat.pow_add]
      exact h
    · rw [Nat.min_eq_right hd, Nat.div_lt_iff_lt_mul (Nat.two_pow_pos _)]
      have h1 : n < 2 ^ (n.log2 + 1) := Nat.lt_log2_self
      have h2 : 2 ^ (n.log2 + 1) ≤ 2 ^ (n.log2 + 2) := Nat.pow_le_pow_right (by decide) (by omega)
      have h3 : 1 * 2 ^ (n.log2 + 2) ≤ 2 ^ j * 2 ^ (n.log2 + 2) := Nat.mul_le_mul_right _ (Nat.two_pow_pos _)
      omega
  unfold Ieee.Toward.cut
  dsimp only
  refine Nat.le_trans (Nat.add_le_add_left (Bool.toNat_le _) _) ?_
  omega
theorem rg_word (neg : Bool) {r : Nat} (h : r < 2147483648) : rg (Ieee.single.word neg r) = r := word_mod Ieee.single neg (by rw [show Ieee.Format.signWeight Ieee.single = 2147483648 by decide]; exact h)
theorem min_word (s : Bool) (a C : Nat) (h : a ≤ C * 8388608) (hC : C ≤ 254) : rg (Ieee.single.word s (min a 2139095040)) ≤ C * 8388608 := by
  rw [rg_word s (Nat.lt_of_le_of_lt (Nat.min_le_right _ _) (by decide))]
  exact Nat.le_trans (Nat.min_le_left _ _) h
theorem nearest_le (s : Bool) {mag k C : Nat} {place : Int} (hm : mag < 2 ^ k) (hk : place + (k : Int) ≤ (C : Int) - 127) (h1 : 1 ≤ C) (h2 : C ≤ 254) :
    rg (Ieee.single.nearest s mag place) ≤ C * 8388608 := by
  have hb : Ieee.Format.binade Ieee.single = 8388608 := by decide
  have hi : Ieee.Format.infRung Ieee.single = 2139095040 := by decide
  have hl : Ieee.Format.leastPlace Ieee.single = -149 := by decide
  have hf : (Ieee.single.fractionBits : Int) = 23 := rfl
  unfold Ieee.Format.nearest
  dsimp only
  split
  · rw [rg_word s (by decide)]; exact Nat.zero_le _
  · rename_i h0
    have hlog : mag.log2 < k := (Nat.log2_lt h0).2 hm
    have hself : mag < 2 ^ (mag.log2 + 1) := Nat.lt_log2_self
    rw [hl, hb, hi, hf]
    have key : ((max (place + (mag.log2 : Int) - 23) (-149)) - -149).toNat * 8388608 + Ieee.Toward.even.cut s (mag <<< (place - max (place + (mag.log2 : Int) - 23) (-149)).toNat) ((max (place + (mag.log2 : Int) - 23) (-149)) - place).toNat ≤ C * 8388608 := by
      by_cases hc : -149 ≤ place + (mag.log2 : Int) - 23
      · rw [Int.max_eq_left hc]
        have hcut : Ieee.Toward.even.cut s (mag <<< (place - (place + (mag.log2 : Int) - 23)).toNat) ((place + (mag.log2 : Int) - 23) - place).toNat ≤ 2 ^ 24 := by
          refine cut_le _ _ _ _ ?_
          rw [Nat.shiftLeft_eq]
          have e1 : mag * 2 ^ (place - (place + (mag.log2 : Int) - 23)).toNat < 2 ^ (mag.log2 + 1) * 2 ^ (place - (place + (mag.log2 : Int) - 23)).toNat := Nat.mul_lt_mul_of_pos_right hself (Nat.two_pow_pos _)
          refine Nat.lt_of_lt_of_le e1 ?_
          rw [← Nat.pow_add]
          refine Nat.pow_le_pow_right (by decide) ?_
          omega
        have e2 : ((place + (mag.log2 : Int) - 23) - -149).toNat + 2 ≤ C := by omega
        have e3 : (((place + (mag.log2 : Int) - 23) - -149).toNat + 2) * 8388608 ≤ C * 8388608 := Nat.mul_le_mul_right _ e2
        omega
      · rw [Int.max_eq_right (by omega)]
        have hcut : Ieee.Toward.even.cut s (mag <<< (place - -149).toNat) (-149 - place).toNat ≤ 2 ^ 23 := by
          refine cut_le _ _ _ _ ?_
          rw [Nat.shiftLeft_eq]
          have e1 : mag * 2 ^ (place - -149).toNat < 2 ^ (mag.log2 + 1) * 2 ^ (place - -149).toNat := Nat.mul_lt_mul_of_pos_right hself (Nat.two_pow_pos _)
          refine Nat.lt_of_lt_of_le e1 ?_
          rw [← Nat.pow_add]
          refine Nat.pow_le_pow_right (by decide) ?_
          omega
        have e3 : 1 * 8388608 ≤ C * 8388608 := Nat.mul_le_mul_right _ h1
        have e4 : ((-149 : Int) - -149).toNat = 0 := by decide
        rw [e4, Nat.zero_mul, Nat.zero_add]
        refine Nat.le_trans hcut (Nat.le_trans ?_ e3)
        exact Nat.le_of_eq rfl
    revert key
    generalize ((max (place + (mag.log2 : Int) - 23) (-149)) - -149).toNat * 8388608 + Ieee.Toward.even.cut s (mag <<< (place - max (place + (mag.log2 : Int) - 23) (-149)).toNat) ((max (place + (mag.log2 : Int) - 23) (-149)) - place).toNat = T
    intro key
    exact min_word s T C key h2
/-- What a word of a small rung stands for. -/
theorem read_small {x C : Nat} (h : rg x < C * 8388608) (h1 : 1 ≤ C) (h2 : C ≤ 255) : ∃ (m k : Nat) (e : Int), Ieee.single.read x = .number (x / 2147483648 % 2 == 1) m e ∧ m < 2 ^ k ∧ e + (k : Int) ≤ (C : Int) - 127 ∧ (m = 0 ↔ rg x = 0) := by
  have hs : Ieee.Format.signWeight Ieee.single = 2147483648 := by decide
  have hb : Ieee.Format.binade Ieee.single = 8388608 := by decide
  have hi : Ieee.Format.infRung Ieee.single = 2139095040 := by decide
  have hl : Ieee.Format.leastPlace Ieee.single = -149 := by decide
  have hC : C * 8388608 ≤ 255 * 8388608 := Nat.mul_le_mul_right _ h2
  have hr : x % 2147483648 < C * 8388608 := h
  unfold Ieee.Format.read
  simp only [hs, hb, hi, hl]
  split
  · rename_i hlt
    exact ⟨_, 23, -149, rfl, by omega, by omega, by unfold rg; omega⟩
  · rename_i hge
    rw [if_pos (by omega)]
    refine ⟨_, 24, _, rfl, by omega, ?_, by unfold rg; omega⟩
    have : x % 2147483648 / 8388608 < C := Nat.div_lt_of_lt_mul (by omega)
    omega
theorem nan_rg {x : Nat} (h : rg x ≤ 2139095040) : nan32 x = false := by
  unfold rg at h
  rcases Nat.lt_or_ge (x % 2147483648) 2139095040 with h1 | h1
  · obtain ⟨m, k, e, _⟩ := read_number h1
    unfold nan32 FloatKind.decode FloatKind.format
    dsimp only
    rw [e]
    rfl
  · have e := read_inf (by omega : x % 2147483648 = 2139095040)
    unfold nan32 FloatKind.decode FloatKind.format
    dsimp only
    rw [e]
    rfl
theorem mul_le {x y A B C : Nat} (hx : rg x < A * 8388608) (hy : rg y < B * 8388608) (hA : 1 ≤ A) (hB : 1 ≤ B) (hA2 : A ≤ 255) (hB2 : B ≤ 255) (hC : A + B = C + 127) (h1 : 1 ≤ C) (h2 : C ≤ 254) :
    ∃ r, floatBits .mul .f32 x y = some r ∧ rg r ≤ C * 8388608 := by
  obtain ⟨m, k, e, r1, b1, c1, _⟩ := read_small hx hA hA2
  obtain ⟨n, l, f, r2, b2, c2, _⟩ := read_small hy hB hB2
  refine ⟨_, by simp only [floatBits, FloatKind.format, Ieee.Format.mul, r1, r2, Ieee.Datum.product, Option.map_some]; rfl, ?_⟩
  refine nearest_le _ (k := k + l) ?_ (by omega) h1 h2
  rw [Nat.pow_add]
  exact Nat.mul_lt_mul'' b1 b2
theorem signed_abs (s : Bool) (m u : Nat) : (Ieee.signed s m u).natAbs = m * 2 ^ u := by
  unfold Ieee.signed
  rw [Nat.shiftLeft_eq]
  cases s
  · show ((m * 2 ^ u : Nat) : Int).natAbs = _
    exact Int.natAbs_natCast _
  · show (-((m * 2 ^ u : Nat) : Int)).natAbs = _
    rw [Int.natAbs_neg]
    exact Int.natAbs_natCast _
theorem sum_le {x y A : Nat} (hx : rg x < A * 8388608) (hy : rg y < A * 8388608) (hA : 1 ≤ A) (h2 : A ≤ 253) :
    ∃ r, floatBits .add .f32 x y = some r ∧ rg r ≤ (A + 1) * 8388608 := by
  obtain ⟨m, k, e, r1, b1, c1, _⟩ := read_small hx hA (by omega)
  obtain ⟨n, l, f, r2, b2, c2, _⟩ := read_small hy hA (by omega)
  refine ⟨_, by simp only [floatBits, FloatKind.format, Ieee.Format.add, r1, r2, Ieee.Datum.sum, Option.map_some]; rfl, ?_⟩
  refine nearest_le _ (k := ((A : Int) + 1 - 127 - min e f).toNat) ?_ (by omega) (by omega) (by omega)
  refine Nat.lt_of_le_of_lt (Int.natAbs_add_le _ _) ?_
  rw [signed_abs, signed_abs]
  have e1 : m * 2 ^ (e - min e f).toNat < 2 ^ k * 2 ^ (e - min e f).toNat := Nat.mul_lt_mul_of_pos_right b1 (Nat.two_pow_pos _)
  have e2 : n * 2 ^ (f - min e f).toNat < 2 ^ l * 2 ^ (f - min e f).toNat := Nat.mul_lt_mul_of_pos_right b2 (Nat.two_pow_pos _)
  rw [← Nat.pow_add] at e1 e2
  have p1 : 2 ^ (k + (e - min e f).toNat) ≤ 2 ^ ((A : Int) - 127 - min e f).toNat := Nat.pow_le_pow_right (by decide) (by omega)
  have p2 : 2 ^ (l + (f - min e f).toNat) ≤ 2 ^ ((A : Int) - 127 - min e f).toNat := Nat.pow_le_pow_right (by decide) (by omega)
  have p3 : 2 ^ ((A : Int) + 1 - 127 - min e f).toNat = 2 * 2 ^ ((A : Int) - 127 - min e f).toNat := by
    rw [show ((A : Int) + 1 - 127 - min e f).toNat = ((A : Int) - 127 - min e f).toNat + 1 by omega, Nat.pow_succ, Nat.mul_comm]
  omega
theorem sub_le {x y A : Nat} (hx : rg x < A * 8388608) (hy : rg y < A * 8388608) (hA : 1 ≤ A) (h2 : A ≤ 253) :
    ∃ r, floatBits .sub .f32 x y = some r ∧ rg r ≤ (A + 1) * 8388608 := by
  obtain ⟨m, k, e, r1, b1, c1, _⟩ := read_small hx hA (by omega)
  obtain ⟨n, l, f, r2, b2, c2, _⟩ := read_small hy hA (by omega)
  refine ⟨_, by simp only [floatBits, FloatKind.format, Ieee.Format.sub, r1, r2, Ieee.Datum.opposite, Ieee.Datum.sum, Option.map_some]; rfl, ?_⟩
  refine nearest_le _ (k := ((A : Int) + 1 - 127 - min e f).toNat) ?_ (by omega) (by omega) (by omega)
  refine Nat.lt_of_le_of_lt (Int.natAbs_add_le _ _) ?_
  rw [signed_abs, signed_abs]
  have e1 : m * 2 ^ (e - min e f).toNat < 2 ^ k * 2 ^ (e - min e f).toNat := Nat.mul_lt_mul_of_pos_right b1 (Nat.two_pow_pos _)
  have e2 : n * 2 ^ (f - min e f).toNat < 2 ^ l * 2 ^ (f - min e f).toNat := Nat.mul_lt_mul_of_pos_right b2 (Nat.two_pow_pos _)
  rw [← Nat.pow_add] at e1 e2
  have p1 : 2 ^ (k + (e - min e f).toNat) ≤ 2 ^ ((A : Int) - 127 - min e f).toNat := Nat.pow_le_pow_right (by decide) (by omega)
  have p2 : 2 ^ (l + (f - min e f).toNat) ≤ 2 ^ ((A : Int) - 127 - min e f).toNat := Nat.pow_le_pow_right (by decide) (by omega)
  have p3 : 2 ^ ((A : Int) + 1 - 127 - min e f).toNat = 2 * 2 ^ ((A : Int) - 127 - min e f).toNat := by
    rw [show ((A : Int) + 1 - 127 - min e f).toNat = ((A : Int) - 127 - min e f).toNat + 1 by omega, Nat.pow_succ, Nat.mul_comm]
  omega
end Go.Proofs.Ytjkgiknklkfipaa
