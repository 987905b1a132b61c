/-
  A fraction's two parts as numbers of double precision, their quotient, and that quotient in single precision.
-/
import Derived.Test.YtjkgiknklkfipaaEx
namespace Go.Proofs.Ytjkgiknklkfipaa
open Go
set_option linter.unusedVariables false
theorem log29 {M : Nat} (h1 : 8388608 ≤ M) (h2 : M < 16777216) : (M * 536870912).log2 = 52 := by
  have h := log2_shift (m := M) (k := 29) (a := 23) (show 2 ^ 23 ≤ M by omega) (show M < 2 ^ (23 + 1) by omega)
  rwa [Nat.shiftLeft_eq, show (2 : Nat) ^ 29 = 536870912 by decide] at h
theorem quo_core {x y : Int} {P N Q : Nat} (l1 : P.log2 = 52) (l2 : N.log2 = 52) (hN0 : ¬ N = 0) (q0 : P * 2 ^ 54 = Q * N) :
    (Ieee.Datum.number false P x).quotient 54 (.number false N y) = some (.number false (2 * Q) (x - y - ((54 : Nat) : Int) - 1)) := by
  have q1 : P <<< 54 / N = Q := by
    rw [Nat.shiftLeft_eq, q0]
    exact Nat.mul_div_cancel _ (by omega)
  have q2 : P <<< 54 % N = 0 := by
    rw [Nat.shiftLeft_eq, q0]
    exact Nat.mul_mod_left _ _
  clear q0
  simp only [Ieee.Datum.quotient]
  rw [if_neg hN0, l1, l2]
  simp only [Nat.reduceAdd, Nat.reduceSub, q1, q2]
  rfl
theorem p54 : (2 : Nat) ^ 54 = 2147483648 * 8388608 := by decide +kernel
theorem p32 : (2 : Nat) ^ 32 = 2 * 2147483648 := by decide +kernel
theorem q_mul (M : Nat) : M * 536870912 * 2 ^ 54 = M * 2147483648 * (8388608 * 536870912) := by
  rw [p54, Nat.mul_assoc, Nat.mul_assoc, Nat.mul_comm 536870912, Nat.mul_assoc]
theorem q_shift (M : Nat) : M <<< 32 = 2 * (M * 2147483648) := by rw [Nat.shiftLeft_eq, p32, Nat.mul_left_comm]
theorem n_zero : ¬ 8388608 * 536870912 = 0 := by decide +kernel
theorem quo64 {M x y z : Nat} (h1 : 8388608 ≤ M) (h2 : M < 16777216) (x1 : 1 ≤ x) (x2 : x ≤ 2046) (y1 : 1 ≤ y) (y2 : y ≤ 2046) (hz : z + y = x + 1023) (z1 : 1 ≤ z) (z2 : z ≤ 2046) :
    floatBits .quo .f64 (D64 M x) (D64 8388608 y) = some (D64 M z) := by
  have hv := quo_core (x := (x : Int) - 1075) (y := (y : Int) - 1075) (log29 h1 h2) (log29 (M := 8388608) (by decide) (by decide)) n_zero (q_mul M)
  have hn := nearest64 (M := M) (x := z) (j := 32) (p := (x : Int) - 1075 - ((y : Int) - 1075) - ((54 : Nat) : Int) - 1) h1 h2 z1 z2 (by omega)
  rw [q_shift] at hn
  have e : floatBits .quo .f64 (D64 M x) (D64 8388608 y) = ((Ieee.double.read (D64 M x)).quotient 54 (Ieee.double.read (D64 8388608 y))).map Ieee.double.write := rfl
  rw [e, read64 h1 h2 x1 x2, read64 (M := 8388608) (by decide) (by decide) y1 y2, hv]
  exact congrArg some hn
theorem narrow_word {M K : Nat} (h1 : 8388608 ≤ M) (h2 : M < 16777216) (hK : K ≤ 148) : Ieee.single.nearest false (M * 536870912) (((1046 - K : Nat) : Int) - 1075) = (149 - K) * 8388608 + M := by
  have l1 : (M * 536870912).log2 = 52 := log29 h1 h2
  have hb : Ieee.Format.binade Ieee.single = 8388608 := by decide
  have hi : Ieee.Format.infRung Ieee.single = 2139095040 := by decide
  have hl : Ieee.Format.leastPlace Ieee.single = -149 := by decide
  have hf : (Ieee.single.fractionBits : Int) = 23 := rfl
  unfold Ieee.Format.nearest
  rw [if_neg (by omega)]
  dsimp only
  rw [hl, hb, hi, hf, l1]
  have hlast : max ((((1046 - K : Nat) : Int) - 1075) + ((52 : Nat) : Int) - 23) (-149) = -(K : Int) := by omega
  rw [hlast]
  have a1 : ((((1046 - K : Nat) : Int) - 1075) - -(K : Int)).toNat = 0 := by omega
  have a2 : (-(K : Int) - (((1046 - K : Nat) : Int) - 1075)).toNat = 29 := by omega
  rw [a1, a2, Nat.shiftLeft_zero]
  have e : M * 536870912 = M <<< 29 := by rw [Nat.shiftLeft_eq, show (2 : Nat) ^ 29 = 536870912 by decide]
  rw [e, cut_shift _ _ (by omega)]
  have hr : (-(K : Int) - -149).toNat = 149 - K := by omega
  rw [hr, Nat.min_eq_left (by omega), word_false]
theorem narrow64 {a K M : Nat} (hE : a / 8388608 + K = 150) (hM : a % 8388608 + 8388608 = M) (k1 : 13 ≤ K) (k2 : K ≤ 33) : floatToFloatBits .f64 (D64 M (1046 - K)) .f32 = some a := by
  have h1 : 8388608 ≤ M := by omega
  have h2 : M < 16777216 := by omega
  have hn := narrow_word (K := K) h1 h2 (by omega)
  have ha : (149 - K) * 8388608 + M = a := by omega
  rw [ha] at hn
  have hr := read32M (a := a) (E := 150 - K) (M := M) (by omega) hM (by omega) (by omega) (by omega)
  unfold floatToFloatBits
  rw [if_neg (by decide)]
  have hd : FloatKind.f64.decode (D64 M (1046 - K)) = .number false (M * 536870912) (((1046 - K : Nat) : Int) - 1075) := read64 h1 h2 (by omega) (by omega)
  rw [hd]
  have henc : FloatKind.f32.encode (.number false (M * 536870912) (((1046 - K : Nat) : Int) - 1075)) = a := hn
  have hinf : (FloatKind.f32.decode (FloatKind.f32.encode (.number false (M * 536870912) (((1046 - K : Nat) : Int) - 1075)))).isInfinity = false := by
    rw [henc]
    show (Ieee.single.read a).isInfinity = false
    rw [hr]
    rfl
  dsimp only
  simp only [hinf, Bool.false_eq_true, if_false]
  rw [henc]
theorem int64_word (n : Nat) : floatOfInt .f64 (n : Int) = Ieee.double.nearest false n 0 := by
  show Ieee.double.nearest (decide ((n : Int) < 0)) (n : Int).natAbs 0 = _
  rw [decide_eq_false (by omega)]
  rfl
/-- How deep 2 ^ j lies in M: the greatest j up to k. -/
theorem deep (M : Nat) : ∀ k, ∃ i, i ≤ k ∧ 2 ^ (k - i) ∣ M ∧ ∀ i', i' < i → ¬ 2 ^ (k - i') ∣ M
  | 0 => ⟨0, Nat.le_refl _, by simp, fun i' h => by omega⟩
  | k + 1 => by
    by_cases h : 2 ^ (k + 1) ∣ M
    · exact ⟨0, by omega, h, fun i' h => by omega⟩
    · obtain ⟨i, h1, h2, h3⟩ := deep M k
      refine ⟨i + 1, by omega, by rw [show k + 1 - (i + 1) = k - i by omega]; exact h2, fun i' hi' => ?_⟩
      cases i' with
      | zero => exact h
      | succ i' => rw [show k + 1 - (i' + 1) = k - i' by omega]; exact h3 i' (by omega)
theorem fr_words {a : Nat} (ha : a < 4294967296) (h : tgB a = true) :
    ∃ r, floatBits .quo .f64 (floatOfInt .f64 (exN a : Int)) (floatOfInt .f64 (exD a : Int)) = some r ∧ floatToFloatBits .f64 r .f32 = some a := by
  obtain ⟨f1, f2, f3, f4, f5, f6⟩ := ex_facts ha h
  obtain ⟨i, hi, hd, hn⟩ := deep (exM a) (exK a)
  obtain ⟨e1, e2⟩ := ex_of hi hd hn
  have hs : exK a - i ≤ 23 := by
    rcases Nat.lt_or_ge 23 (exK a - i) with hlt | hge
    · exfalso
      have h1 : 2 ^ 24 ∣ exM a := Nat.dvd_trans (Nat.pow_dvd_pow 2 (by omega)) hd
      have h2 := Nat.le_of_dvd (by omega) h1
      rw [show (2 : Nat) ^ 24 = 16777216 by decide] at h2
      omega
    · exact hge
  have hq : (exM a / 2 ^ (exK a - i)) <<< (exK a - i) = exM a := by rw [Nat.shiftLeft_eq, Nat.div_mul_cancel hd]
  have w1 : floatOfInt .f64 (exN a : Int) = D64 (exM a) (1046 - (exK a - i)) := by
    rw [int64_word, e1]
    exact nearest64q hq f4 f5 (by omega) (by omega) hs (by omega)
  have w2 : floatOfInt .f64 (exD a : Int) = D64 8388608 (1023 + i) := by
    rw [int64_word, e2]
    rcases Nat.le_total i 23 with h23 | h23
    · exact nearest64q (q := 2 ^ i) (s := 23 - i) (by rw [Nat.shiftLeft_eq, ← Nat.pow_add, show i + (23 - i) = 23 by omega]) (by decide) (by decide) (by omega) (by omega) (by omega) (by omega)
    · have := nearest64 (M := 8388608) (x := 1023 + i) (j := i - 23) (p := 0) (by decide) (by decide) (by omega) (by omega) (by omega)
      rw [Nat.shiftLeft_eq, show (8388608 : Nat) = 2 ^ 23 by decide, ← Nat.pow_add, show 23 + (i - 23) = i by omega] at this
      exact this
  refine ⟨D64 (exM a) (1046 - exK a), ?_, narrow64 f1 rfl f2 f3⟩
  rw [w1, w2]
  exact quo64 f4 f5 (by omega) (by omega) (by omega) (by omega) (by omega) (by omega) (by omega)
end Go.Proofs.Ytjkgiknklkfipaa
