/-
  Nought less a number below nought is that number with its sign changed.
-/
import Derived.Test.YtjkgiknklkfipaaBl
namespace Go.Proofs.Ytjkgiknklkfipaa
open Go
set_option linter.unusedVariables false
theorem xor_top {r : Nat} (hr : r < 2 ^ 31) : (2 ^ 31 + r) ^^^ 2 ^ 31 = r := by
  have h1 : ((2 ^ 31 + r) ^^^ 2 ^ 31) % 2 ^ 31 = r := by
    rw [Nat.xor_mod_two_pow, Nat.mod_self, Nat.xor_zero]
    omega
  have h2 : ((2 ^ 31 + r) ^^^ 2 ^ 31) / 2 ^ 31 = 0 := by
    rw [Nat.xor_div_two_pow]
    have : (2 ^ 31 + r) / 2 ^ 31 = 1 := by omega
    rw [this]
    decide
  omega
theorem cut_shift (m k : Nat) (hm : 0 < m) : Ieee.Toward.even.cut false (m <<< k) k = m := by
  unfold Ieee.Toward.cut
  have hl : k ≤ (m <<< k).log2 := by
    rw [Nat.shiftLeft_eq]
    refine (Nat.le_log2 (by have := Nat.two_pow_pos k; exact Nat.ne_of_gt (Nat.mul_pos hm this))).2 ?_
    exact Nat.le_mul_of_pos_left _ hm
  have hmin : min k ((m <<< k).log2 + 2) = k := by omega
  have hp := Nat.two_pow_pos k
  simp only [hmin]
  rw [Nat.shiftLeft_eq, Nat.shiftLeft_eq, Nat.one_mul, Nat.mul_div_cancel _ hp, Nat.mul_mod_left]
  simp
theorem log2_shift {m k a : Nat} (h1 : 2 ^ a ≤ m) (h2 : m < 2 ^ (a + 1)) : (m <<< k).log2 = a + k := by
  rw [Nat.shiftLeft_eq]
  have hp := Nat.two_pow_pos k
  have hm : 0 < m := Nat.lt_of_lt_of_le (Nat.two_pow_pos a) h1
  have hne : m * 2 ^ k ≠ 0 := Nat.ne_of_gt (Nat.mul_pos hm hp)
  refine Nat.le_antisymm ?_ ((Nat.le_log2 hne).2 ?_)
  · refine Nat.lt_succ_iff.1 ((Nat.log2_lt hne).2 ?_)
    calc m * 2 ^ k < 2 ^ (a + 1) * 2 ^ k := Nat.mul_lt_mul_of_pos_right h2 hp
      _ = 2 ^ (a + k).succ := by rw [← Nat.pow_add]; congr 1; omega
  · rw [Nat.pow_add]
    exact Nat.mul_le_mul_right _ h1
theorem int_lt {a b : Int} (h : compare a b = .lt) : a < b := by
  simp only [compare, compareOfLessAndEq] at h
  split at h
  · assumption
  · split at h <;> cases h
theorem nearest_exact (m k : Nat) (hm : 0 < m) (hlog : (m <<< k).log2 = 23 + k ∨ k = 0 ∧ m.log2 ≤ 23) (hr : k * 8388608 + m < 2139095040) : Ieee.single.nearest false (m <<< k) (-149) = k * 8388608 + m := by
  have hb : Ieee.Format.binade Ieee.single = 8388608 := by decide
  have hi : Ieee.Format.infRung Ieee.single = 2139095040 := by decide
  have hl : Ieee.Format.leastPlace Ieee.single = -149 := by decide
  have hfb : (Ieee.single.fractionBits : Int) = 23 := rfl
  have hpos : ¬ m <<< k = 0 := by rw [Nat.shiftLeft_eq]; exact Nat.ne_of_gt (Nat.mul_pos hm (Nat.two_pow_pos k))
  unfold Ieee.Format.nearest
  rw [if_neg hpos]
  dsimp only
  rw [hl, hb, hi, hfb]
  have hlast : max (-149 + ((m <<< k).log2 : Int) - 23) (-149) = -149 + (k : Int) := by
    rcases hlog with h | ⟨rfl, h⟩
    · rw [h]; omega
    · rw [Nat.shiftLeft_zero]; omega
  rw [hlast]
  have h9 : (-149 - (-149 + (k : Int))).toNat = 0 := by omega
  have h10 : (-149 + (k : Int) - -149).toNat = k := by omega
  rw [h9, h10, Nat.shiftLeft_zero, cut_shift m k hm, Nat.min_eq_left (Nat.le_of_lt hr)]
  rfl
theorem ord_key (s : Bool) (m k : Nat) (p : Int) (hp : p = -149 + (k : Int)) (h : Ieee.Datum.order (.number s m p) (.number false 0 (-149)) = some .lt) : s = true ∧ 0 < m := by
  subst hp
  simp only [Ieee.Datum.order, Option.some.injEq] at h
  have h2 : min (-149 + (k : Int)) (-149) = -149 := by omega
  rw [h2] at h
  have h4 := int_lt h
  have h3 : Ieee.signed false 0 (-149 - -149 : Int).toNat = 0 := by simp [Ieee.signed]
  rw [h3] at h4
  unfold Ieee.signed at h4
  cases s
  · simp only [Bool.false_eq_true, if_false] at h4
    exact absurd h4 (Int.not_lt.2 (Int.natCast_nonneg _))
  · refine ⟨rfl, ?_⟩
    simp only [if_true] at h4
    rcases Nat.eq_zero_or_pos m with rfl | hm
    · simp at h4
    · exact hm
theorem sub_fin (m k : Nat) (p : Int) (hp : p = -149 + (k : Int)) (hm : 0 < m) (hlog : (m <<< k).log2 = 23 + k ∨ k = 0 ∧ m.log2 ≤ 23) (hr : k * 8388608 + m < 2139095040) :
    ((Ieee.Datum.number false 0 (-149)).sum (Ieee.Datum.opposite (.number true m p))).map Ieee.single.write = some (k * 8388608 + m) := by
  subst hp
  have h2 : min (-149) (-149 + (k : Int)) = -149 := by omega
  have h5 : (-149 + (k : Int) - -149).toNat = k := by omega
  have hpos : 0 < m <<< k := by rw [Nat.shiftLeft_eq]; exact Nat.mul_pos hm (Nat.two_pow_pos k)
  simp only [Ieee.Datum.opposite, Bool.not_true, Ieee.Datum.sum, h2, h5, Option.map_some, Option.some.injEq]
  have h6 : Ieee.signed false 0 (-149 - -149 : Int).toNat + Ieee.signed false m k = ((m <<< k : Nat) : Int) := by simp [Ieee.signed]
  rw [h6]
  have h7 : ¬ ((m <<< k : Nat) : Int) = 0 := by omega
  have h8 : decide (((m <<< k : Nat) : Int) < 0) = false := decide_eq_false (by omega)
  rw [if_neg h7, h8, Int.natAbs_natCast]
  exact nearest_exact m k hm hlog hr
theorem sub_neg_word {a r : Nat} (ha : a = 2147483648 + r) (hr : r < 2147483648) : Op.negFloat .f32 a = r := by
  subst ha
  exact xor_top hr
theorem zero_sub {a : Nat} (ha : a < 4294967296) (h : FloatKind.f32.format.order a 0 = some .lt) : floatBits .sub .f32 0 a = some (Op.negFloat .f32 a) := by
  have h0 : Ieee.single.read 0 = .number false 0 (-149) := by decide +kernel
  have hs : Ieee.Format.signWeight Ieee.single = 2147483648 := by decide
  have hb : Ieee.Format.binade Ieee.single = 8388608 := by decide
  have hi : Ieee.Format.infRung Ieee.single = 2139095040 := by decide
  have hl : Ieee.Format.leastPlace Ieee.single = -149 := by decide
  unfold floatBits
  simp only [FloatKind.format, Ieee.Format.sub, h0]
  simp only [FloatKind.format, Ieee.Format.order, h0] at h
  have hr : Ieee.single.read a = if a % 2147483648 < 8388608 then .number (a / 2147483648 % 2 == 1) (a % 2147483648) (-149)
      else if a % 2147483648 < 2139095040 then .number (a / 2147483648 % 2 == 1) (8388608 + a % 2147483648 % 8388608) (-149 + (a % 2147483648 / 8388608 - 1 : Nat))
      else if a % 2147483648 = 2139095040 then .infinity (a / 2147483648 % 2 == 1) else .nan (a / 2147483648 % 2 == 1) (a % 2147483648 - 2139095040) := by
    simp only [Ieee.Format.read, hs, hb, hi, hl]
  have top : (a / 2147483648 % 2 == 1) = true → a = 2147483648 + a % 2147483648 := fun e => by
    have := beq_iff_eq.1 e
    omega
  have hlt : a % 2147483648 < 2147483648 := Nat.mod_lt _ (by decide)
  rw [hr] at h ⊢
  by_cases c1 : a % 2147483648 < 8388608
  · rw [if_pos c1] at h ⊢
    obtain ⟨e1, e2⟩ := ord_key _ _ 0 _ (by omega) h
    rw [e1, sub_neg_word (top e1) hlt]
    have hlg : (a % 2147483648).log2 ≤ 23 := by
      have := (Nat.log2_lt (k := 23) (Nat.ne_of_gt e2)).2 c1
      omega
    rw [sub_fin (a % 2147483648) 0 _ (by omega) e2 (.inr ⟨rfl, hlg⟩) (by omega)]
    rw [Nat.zero_mul, Nat.zero_add]
  · rw [if_neg c1] at h ⊢
    by_cases c2 : a % 2147483648 < 2139095040
    · rw [if_pos c2] at h ⊢
      obtain ⟨e1, e2⟩ := ord_key _ _ _ _ rfl h
      rw [e1, sub_neg_word (top e1) hlt]
      rw [sub_fin _ _ _ rfl e2 (.inl (log2_shift (a := 23) (by omega) (by omega))) (by omega)]
      exact congrArg some (by omega)
    · rw [if_neg c2] at h ⊢
      by_cases c3 : a % 2147483648 = 2139095040
      · rw [if_pos c3] at h ⊢
        cases hsg : (a / 2147483648 % 2 == 1)
        · rw [hsg] at h; exact absurd h (by show ¬ (some Ordering.gt = some Ordering.lt); decide)
        · rw [sub_neg_word (top hsg) hlt, c3]
          simp only [Ieee.Datum.opposite, Ieee.Datum.sum, Option.map_some, Ieee.Format.write, Ieee.Format.word, hi]
          rfl
      · rw [if_neg c3] at h
        exact absurd h (by show ¬ (none = some Ordering.lt); decide)
end Go.Proofs.Ytjkgiknklkfipaa
