/-
  A number times one is that number.
-/
import Derived.Test.YtaodpopghacmaaaDoorBl
namespace Go.Proofs.YtaodpopghacmaaaDoor
open Go
set_option linter.unusedVariables false
set_option linter.unusedSimpArgs false
theorem cut_exact (neg : Bool) (m d : Nat) (h : m ≠ 0) : Ieee.Toward.even.cut neg (m * 2 ^ d) d = m := by
  have hp : 0 < 2 ^ d := Nat.two_pow_pos d
  have hl : d ≤ (m * 2 ^ d).log2 + 2 := by
    have h0 : m * 2 ^ d ≠ 0 := Nat.mul_ne_zero h (Nat.ne_of_gt hp)
    have : d ≤ (m * 2 ^ d).log2 := (Nat.le_log2 h0).2 (Nat.le_mul_of_pos_left _ (Nat.pos_of_ne_zero h))
    omega
  unfold Ieee.Toward.cut
  dsimp only
  rw [Nat.min_eq_left hl, Nat.shiftLeft_eq, Nat.one_mul, Nat.mul_mod_left, Nat.mul_div_cancel _ hp]
  have e1 : (decide (2 ^ d < 2 * 0)) = false := by simp
  have e2 : (2 ^ d == 2 * 0) = false := by simp
  rw [e1, e2]
  rfl
theorem word_back (x : Nat) (hx : x < 4294967296) : Ieee.single.word (x / 2147483648 % 2 == 1) (x % 2147483648) = x := by
  unfold Ieee.Format.word
  rw [show Ieee.Format.signWeight Ieee.single = 2147483648 by decide]
  split
  · rename_i h
    simp at h
    omega
  · rename_i h
    simp at h
    omega
theorem log2_mul (m d : Nat) (h : m ≠ 0) : (m * 2 ^ d).log2 = m.log2 + d := by
  have hp : 0 < 2 ^ d := Nat.two_pow_pos d
  have h0 : m * 2 ^ d ≠ 0 := Nat.mul_ne_zero h (Nat.ne_of_gt hp)
  have h1 : 2 ^ m.log2 ≤ m := (Nat.le_log2 h).1 (Nat.le_refl _)
  have h2 : m < 2 ^ (m.log2 + 1) := Nat.lt_log2_self
  refine Nat.le_antisymm ?_ ((Nat.le_log2 h0).2 ?_)
  · have : (m * 2 ^ d).log2 < m.log2 + d + 1 := (Nat.log2_lt h0).2 (by
      rw [show m.log2 + d + 1 = (m.log2 + 1) + d by omega, Nat.pow_add]
      exact Nat.mul_lt_mul_of_pos_right h2 hp)
    omega
  · rw [Nat.pow_add]
    exact Nat.mul_le_mul_right _ h1
/-- One, as a word. -/
theorem read_one : Ieee.single.read 1065353216 = .number false 8388608 (-23) := by decide +kernel
theorem one_not_nan : nan32 1065353216 = false := by decide +kernel
theorem nearest_one (s : Bool) (m : Nat) (e : Int) (r : Nat) (hr : r < 2139095040)
    (h : (r < 8388608 ∧ m = r ∧ e = -149) ∨ (8388608 ≤ r ∧ m = 8388608 + r % 8388608 ∧ e = -149 + ((r / 8388608 - 1 : Nat) : Int))) :
    Ieee.single.nearest s (m * 8388608) (e - 23) = Ieee.single.word s r := by
  have hl : Ieee.Format.leastPlace Ieee.single = -149 := by decide
  have hb : Ieee.Format.binade Ieee.single = 8388608 := by decide
  have hi : Ieee.Format.infRung Ieee.single = 2139095040 := by decide
  have hfr : (Ieee.single.fractionBits : Int) = 23 := rfl
  unfold Ieee.Format.nearest
  dsimp only
  by_cases hm : m = 0
  · subst hm
    rw [if_pos (by simp)]
    rcases h with ⟨_, h1, _⟩ | ⟨_, h1, _⟩
    · rw [← h1]
    · omega
  · rw [if_neg (by omega), hl, hb, hi, hfr]
    have e23 : m * 8388608 = m * 2 ^ 23 := by rw [show (2 : Nat) ^ 23 = 8388608 by decide]
    have elog : (m * 8388608).log2 = m.log2 + 23 := by rw [e23]; exact log2_mul m 23 hm
    rw [elog]
    have hlast : max (e - 23 + ((m.log2 + 23 : Nat) : Int) - 23) (-149) = e := by
      rcases h with ⟨h0, h1, h2⟩ | ⟨h0, h1, h2⟩
      · have : m.log2 < 23 := (Nat.log2_lt hm).2 (by omega)
        omega
      · have g1 : m.log2 < 24 := (Nat.log2_lt hm).2 (by omega)
        have g2 : 23 ≤ m.log2 := (Nat.le_log2 hm).2 (by omega)
        omega
    rw [hlast]
    have z1 : (e - 23 - e).toNat = 0 := by omega
    have z2 : (e - (e - 23)).toNat = 23 := by omega
    rw [z1, z2, Nat.shiftLeft_zero, e23, cut_exact s m 23 hm]
    refine congrArg (Ieee.single.word s) ?_
    clear e23 elog hlast z1 z2 hl hb hi hfr
    have hc : (e - -149).toNat * 8388608 + m = r := by omega
    have hd : r ≤ 2139095040 := by omega
    clear h
    generalize (e - -149).toNat * 8388608 + m = t at *
    subst hc
    exact Nat.min_eq_left hd
theorem write_number (s : Bool) (m : Nat) (e : Int) : Ieee.single.write (.number s m e) = Ieee.single.nearest s m e := by simp only [Ieee.Format.write]
theorem write_inf (s : Bool) : Ieee.single.write (.infinity s) = Ieee.single.word s (Ieee.Format.infRung Ieee.single) := by simp only [Ieee.Format.write]
theorem prod_one (s : Bool) (m : Nat) (e : Int) : (Ieee.Datum.number s m e).product (.number false 8388608 (-23)) = some (.number s (m * 8388608) (e - 23)) := by
  show some (Ieee.Datum.number (s ^^ false) (m * 8388608) (e + -23)) = _
  rw [Bool.xor_false, Int.sub_eq_add_neg]
theorem prod_one_inf (s : Bool) : (Ieee.Datum.infinity s).product (.number false 8388608 (-23)) = some (.infinity s) := by
  show (if 8388608 = 0 then none else some (Ieee.Datum.infinity (s ^^ false))) = _
  rw [if_neg (by decide), Bool.xor_false]
theorem mul_one32 (x : Nat) (hx : x < 4294967296) : f2 .mul (cn x) (cn 1065353216) = cn x := by
  rw [f2_cn]
  cases hn : nan32 x
  · rw [cn_of_not hn]
    unfold f2 floatBits
    simp only [FloatKind.format, Ieee.Format.mul, read_one]
    have hs : Ieee.Format.signWeight Ieee.single = 2147483648 := by decide
    have hb : Ieee.Format.binade Ieee.single = 8388608 := by decide
    have hi : Ieee.Format.infRung Ieee.single = 2139095040 := by decide
    have hl : Ieee.Format.leastPlace Ieee.single = -149 := by decide
    unfold nan32 FloatKind.decode FloatKind.format at hn
    simp only [Ieee.Format.read, hs, hb, hi, hl] at hn ⊢
    have hw := word_back x hx
    generalize (x / 2147483648 % 2 == 1) = s at *
    have hr : x % 2147483648 < 2147483648 := Nat.mod_lt _ (by decide)
    generalize x % 2147483648 = r at *
    by_cases h1 : r < 8388608
    · rw [if_pos h1, prod_one, Option.map_some, Option.getD_some, write_number]
      exact (nearest_one s r (-149) r (by omega) (Or.inl ⟨h1, rfl, rfl⟩)).trans hw
    · rw [if_neg h1]
      by_cases h2 : r < 2139095040
      · rw [if_pos h2, prod_one, Option.map_some, Option.getD_some, write_number]
        exact (nearest_one s _ _ r h2 (Or.inr ⟨by omega, rfl, rfl⟩)).trans hw
      · rw [if_neg h2]
        by_cases h3 : r = 2139095040
        · rw [if_pos h3, prod_one_inf, Option.map_some, Option.getD_some, write_inf, hi, ← h3]
          exact hw
        · rw [if_neg h1, if_neg h2, if_neg h3] at hn
          simp [Ieee.Datum.isNaN] at hn
  · rw [cn_of_nan hn]
    unfold f2
    rw [floatBits_nan_left _ _ hn]
    rfl
end Go.Proofs.YtaodpopghacmaaaDoor
