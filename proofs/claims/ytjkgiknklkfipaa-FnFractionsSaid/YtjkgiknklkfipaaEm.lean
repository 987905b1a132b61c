/-
  Double precision, without a program: numbers of single precision, doubled step by step, until they are whole.
-/
import Derived.Test.YtjkgiknklkfipaaSz
import Derived.Laws.FloatArith
namespace Go.Proofs.Ytjkgiknklkfipaa
open Go
set_option linter.unusedVariables false
set_option linter.unusedSimpArgs false
set_option maxRecDepth 100000
theorem word_false (f : Ieee.Format) (n : Nat) : f.word false n = n := by
  unfold Ieee.Format.word
  simp
/-- The double word of M * 2 ^ (x - 1046), for 2 ^ 23 ≤ M < 2 ^ 24. -/
def D64 (M x : Nat) : Nat := x * 4503599627370496 + (M - 8388608) * 536870912
theorem D64_lt {M x : Nat} (h1 : 8388608 ≤ M) (h2 : M < 16777216) : (M - 8388608) * 536870912 < 4503599627370496 := by omega
theorem read64 {M x : Nat} (h1 : 8388608 ≤ M) (h2 : M < 16777216) (x1 : 1 ≤ x) (x2 : x ≤ 2046) : Ieee.double.read (D64 M x) = .number false (M * 536870912) ((x : Int) - 1075) := by
  have hs : Ieee.Format.signWeight Ieee.double = 9223372036854775808 := by decide
  have hb : Ieee.Format.binade Ieee.double = 4503599627370496 := by decide
  have hi : Ieee.Format.infRung Ieee.double = 9218868437227405312 := by decide
  have hl : Ieee.Format.leastPlace Ieee.double = -1074 := by decide
  have hlt : D64 M x < 9223372036854775808 := by unfold D64; omega
  have hmod : D64 M x % 9223372036854775808 = D64 M x := Nat.mod_eq_of_lt hlt
  have hdiv : D64 M x / 9223372036854775808 = 0 := Nat.div_eq_of_lt hlt
  unfold Ieee.Format.read
  simp only [hs, hb, hi, hl, hmod, hdiv]
  have g1 : ¬ D64 M x < 4503599627370496 := by unfold D64; omega
  have g2 : D64 M x < 9218868437227405312 := by unfold D64; omega
  rw [if_neg g1, if_pos g2]
  have e1 : D64 M x % 4503599627370496 = (M - 8388608) * 536870912 := by unfold D64; omega
  have e2 : D64 M x / 4503599627370496 = x := by unfold D64; omega
  rw [e1, e2]
  have e3 : 4503599627370496 + (M - 8388608) * 536870912 = M * 536870912 := by omega
  have e4 : (-1074 : Int) + ((x - 1 : Nat) : Int) = (x : Int) - 1075 := by omega
  rw [e3, e4]
  rfl
theorem log2M {M : Nat} (h1 : 8388608 ≤ M) (h2 : M < 16777216) : M.log2 = 23 := by
  have hne : M ≠ 0 := by omega
  refine Nat.le_antisymm ?_ ((Nat.le_log2 hne).2 h1)
  exact Nat.lt_succ_iff.1 ((Nat.log2_lt hne).2 h2)
theorem nearest64 {M x j : Nat} {p : Int} (h1 : 8388608 ≤ M) (h2 : M < 16777216) (x1 : 1 ≤ x) (x2 : x ≤ 2046) (hp : p + (j : Int) + 1046 = (x : Int)) : Ieee.double.nearest false (M <<< j) p = D64 M x := by
  have hb : Ieee.Format.binade Ieee.double = 4503599627370496 := by decide
  have hi : Ieee.Format.infRung Ieee.double = 9218868437227405312 := by decide
  have hl : Ieee.Format.leastPlace Ieee.double = -1074 := by decide
  have hf : (Ieee.double.fractionBits : Int) = 52 := rfl
  have hpos : ¬ M <<< j = 0 := by
    rw [Nat.shiftLeft_eq]
    exact Nat.ne_of_gt (Nat.mul_pos (by omega) (Nat.two_pow_pos j))
  have hlog : (M <<< j).log2 = 23 + j := log2_shift h1 h2
  unfold Ieee.Format.nearest
  rw [if_neg hpos]
  dsimp only
  rw [hl, hb, hi, hf, hlog]
  have hlast : max (p + ((23 + j : Nat) : Int) - 52) (-1074) = p + (j : Int) - 29 := by omega
  rw [hlast]
  have hcut : Ieee.Toward.even.cut false ((M <<< j) <<< (p - (p + (j : Int) - 29)).toNat) ((p + (j : Int) - 29) - p).toNat = M * 536870912 := by
    rcases Nat.le_total j 29 with hj | hj
    · have a1 : (p - (p + (j : Int) - 29)).toNat = 29 - j := by omega
      have a2 : ((p + (j : Int) - 29) - p).toNat = 0 := by omega
      rw [a1, a2, cut_none, Nat.shiftLeft_eq, Nat.shiftLeft_eq, Nat.mul_assoc, ← Nat.pow_add]
      rw [show j + (29 - j) = 29 by omega, show (2 : Nat) ^ 29 = 536870912 by decide]
    · have a1 : (p - (p + (j : Int) - 29)).toNat = 0 := by omega
      have a2 : ((p + (j : Int) - 29) - p).toNat = j - 29 := by omega
      rw [a1, a2, Nat.shiftLeft_zero]
      have e : M <<< j = (M * 536870912) <<< (j - 29) := by
        rw [Nat.shiftLeft_eq, Nat.shiftLeft_eq, Nat.mul_assoc]
        rw [show (536870912 : Nat) = 2 ^ 29 by decide, ← Nat.pow_add, show 29 + (j - 29) = j by omega]
      rw [e]
      exact cut_shift _ _ (by omega)
  rw [hcut]
  have hr : ((p + (j : Int) - 29) - -1074).toNat = x - 1 := by omega
  rw [hr]
  have hm : min ((x - 1) * 4503599627370496 + M * 536870912) 9218868437227405312 = D64 M x := by
    have q1 : (x - 1) * 4503599627370496 + M * 536870912 = x * 4503599627370496 + (M - 8388608) * 536870912 := by omega
    rw [q1]
    exact Nat.min_eq_left (by omega)
  rw [hm, word_false]
/-- A word of single precision from 1/1024 to 1024: its digits, and the place of its value. -/
theorem read32M {a E M : Nat} (hE : a / 8388608 = E) (hM : a % 8388608 + 8388608 = M) (e1 : 1 ≤ E) (e2 : E ≤ 254) (ha : a < 2139095040) : Ieee.single.read a = .number false M ((E : Int) - 150) := by
  have hs : Ieee.Format.signWeight Ieee.single = 2147483648 := by decide
  have hb : Ieee.Format.binade Ieee.single = 8388608 := by decide
  have hi : Ieee.Format.infRung Ieee.single = 2139095040 := by decide
  have hl : Ieee.Format.leastPlace Ieee.single = -149 := by decide
  have hmod : a % 2147483648 = a := Nat.mod_eq_of_lt (by omega)
  have hdiv : a / 2147483648 = 0 := Nat.div_eq_of_lt (by omega)
  unfold Ieee.Format.read
  simp only [hs, hb, hi, hl, hmod, hdiv]
  rw [if_neg (by omega), if_pos ha, hE]
  have e3 : 8388608 + a % 8388608 = M := by omega
  have e4 : (-149 : Int) + ((E - 1 : Nat) : Int) = (E : Int) - 150 := by omega
  rw [e3, e4]
  rfl
theorem wide64 {a E M : Nat} (hE : a / 8388608 = E) (hM : a % 8388608 + 8388608 = M) (e1 : 1 ≤ E) (e2 : E ≤ 254) (ha : a < 2139095040) : floatToFloatBits .f32 a .f64 = some (D64 M (E + 896)) := by
  have h1 : 8388608 ≤ M := by omega
  have h2 : M < 16777216 := by omega
  have hr := read32M hE hM e1 e2 ha
  have hn := nearest64 (M := M) (x := E + 896) (j := 0) (p := (E : Int) - 150) h1 h2 (by omega) (by omega) (by omega)
  rw [Nat.shiftLeft_zero] at hn
  unfold floatToFloatBits
  rw [if_neg (by decide)]
  have hd : FloatKind.f32.decode a = .number false M ((E : Int) - 150) := hr
  rw [hd]
  have henc : FloatKind.f64.encode (.number false M ((E : Int) - 150)) = D64 M (E + 896) := hn
  have hinf : (FloatKind.f64.decode (FloatKind.f64.encode (.number false M ((E : Int) - 150)))).isInfinity = false := by
    rw [henc]
    show (Ieee.double.read (D64 M (E + 896))).isInfinity = false
    rw [read64 h1 h2 (by omega) (by omega)]
    rfl
  dsimp only
  simp only [hinf, Bool.false_eq_true, if_false]
  rw [henc]
theorem read_two : Ieee.double.read 4611686018427387904 = .number false 4503599627370496 (-51) := by decide +kernel
theorem double64 {M x : Nat} (h1 : 8388608 ≤ M) (h2 : M < 16777216) (x1 : 1 ≤ x) (x2 : x ≤ 2045) : floatBits .mul .f64 (D64 M x) 4611686018427387904 = some (D64 M (x + 1)) := by
  have hm : floatBits .mul .f64 (D64 M x) 4611686018427387904 = some (Ieee.double.nearest false (M * 536870912 * 4503599627370496) ((x : Int) - 1075 + -51)) := by
    show ((Ieee.double.read (D64 M x)).product (Ieee.double.read 4611686018427387904)).map Ieee.double.write = _
    rw [read64 h1 h2 x1 (by omega), read_two]
    rfl
  rw [hm]
  have hn := nearest64 (M := M) (x := x + 1) (j := 81) (p := (x : Int) - 1075 + -51) h1 h2 (by omega) (by omega) (by omega)
  have e : M <<< 81 = M * 536870912 * 4503599627370496 := by
    rw [Nat.shiftLeft_eq, Nat.mul_assoc]
  rw [e] at hn
  rw [hn]
/-- The whole part, as the library cuts it off: the low binary digits of the word are cleared. -/
def cutW (b d : Nat) : Nat := b - b % 2 ^ d
theorem cut_low {M x d : Nat} (h1 : 8388608 ≤ M) (h2 : M < 16777216) (hd1 : 29 ≤ d) (hd2 : d ≤ 52) : D64 M x % 2 ^ d = 536870912 * (M % 2 ^ (d - 29)) := by
  have e1 : (4503599627370496 : Nat) = 2 ^ d * 2 ^ (52 - d) := by rw [← Nat.pow_add, show d + (52 - d) = 52 by omega]
  have e2 : (2 : Nat) ^ d = 536870912 * 2 ^ (d - 29) := by rw [show (536870912 : Nat) = 2 ^ 29 by decide, ← Nat.pow_add, show 29 + (d - 29) = d by omega]
  have e3 : (8388608 : Nat) = 2 ^ (d - 29) * 2 ^ (52 - d) := by rw [← Nat.pow_add, show d - 29 + (52 - d) = 23 by omega]
  have s1 : D64 M x = 536870912 * M + 2 ^ d * (2 ^ (52 - d) * (x - 1)) + (if x = 0 then 0 else 0) + (if x = 0 then 0 else 0) ∨ x = 0 := by
    rcases Nat.eq_zero_or_pos x with h | h
    · exact Or.inr h
    · left
      unfold D64
      rw [← Nat.mul_assoc, ← e1]
      have : ¬ x = 0 := by omega
      simp only [this, if_false]
      omega
  rcases s1 with s | s
  · rw [s]
    have : ∀ q : Nat, (q + (if x = 0 then 0 else 0) + (if x = 0 then 0 else 0)) = q := fun q => by split <;> rfl
    rw [this, Nat.add_mul_mod_self_left, e2, Nat.mul_mod_mul_left]
  · subst s
    unfold D64
    rw [Nat.zero_mul, Nat.zero_add, e2, Nat.mul_comm, Nat.mul_mod_mul_left]
    refine congrArg (fun q => 536870912 * q) ?_
    have : M = (M - 8388608) + 2 ^ (d - 29) * 2 ^ (52 - d) := by rw [← e3]; omega
    generalize M - 8388608 = q at *
    rw [this, Nat.add_mul_mod_self_left]
theorem order_cut {M x d : Nat} (h1 : 8388608 ≤ M) (h2 : M < 16777216) (x1 : 1 ≤ x) (x2 : x ≤ 2046) (hd1 : 29 ≤ d) (hd2 : d ≤ 52) :
    FloatKind.f64.format.order (D64 M x) (cutW (D64 M x) d) = if M % 2 ^ (d - 29) = 0 then some .eq else some .gt := by
  have hc := cut_low (x := x) h1 h2 hd1 hd2
  have hr := read64 h1 h2 x1 x2
  by_cases h0 : M % 2 ^ (d - 29) = 0
  · rw [if_pos h0]
    unfold cutW
    rw [hc, h0, Nat.mul_zero, Nat.sub_zero]
    refine order_self ?_
    show (Ieee.double.read (D64 M x)).isNaN = false
    rw [hr]
    rfl
  · rw [if_neg h0]
    have hm : M % 2 ^ (d - 29) < 8388608 ∨ M % 2 ^ (d - 29) < 8388609 := by
      left
      have : M % 2 ^ (d - 29) < 2 ^ (d - 29) := Nat.mod_lt _ (Nat.two_pow_pos _)
      have : 2 ^ (d - 29) ≤ 2 ^ 23 := Nat.pow_le_pow_right (by decide) (by omega)
      omega
    have hle : M % 2 ^ (d - 29) ≤ M - 8388608 := by
      have e3 : (8388608 : Nat) = 2 ^ (d - 29) * 2 ^ (52 - d) := by rw [← Nat.pow_add, show d - 29 + (52 - d) = 23 by omega]
      have : M % 2 ^ (d - 29) = (M - 8388608) % 2 ^ (d - 29) := by
        conv => lhs; rw [show M = (M - 8388608) + 2 ^ (d - 29) * 2 ^ (52 - d) by rw [← e3]; omega]
        rw [Nat.add_mul_mod_self_left]
      rw [this]
      exact Nat.mod_le _ _
    generalize M % 2 ^ (d - 29) = r at *
    have ew : cutW (D64 M x) d = D64 (M - r) x := by
      unfold cutW
      rw [hc]
      unfold D64
      omega
    rw [ew]
    show Ieee.double.order (D64 M x) (D64 (M - r) x) = _
    unfold Ieee.Format.order
    rw [hr, read64 (M := M - r) (by omega) (by omega) x1 x2]
    simp only [Ieee.Datum.order, Int.min_self, Int.sub_self, Int.toNat_zero]
    unfold Ieee.signed
    rw [if_neg (by decide), if_neg (by decide), Nat.shiftLeft_zero, Nat.shiftLeft_zero]
    exact congrArg some (Int.compare_eq_gt.2 (by omega))
theorem order_zero {M x : Nat} (h1 : 8388608 ≤ M) (h2 : M < 16777216) (x1 : 1 ≤ x) (x2 : x ≤ 2046) : FloatKind.f64.format.order (D64 M x) 0 = some .gt := by
  have h0 : Ieee.double.read 0 = .number false 0 (-1074) := by decide +kernel
  show Ieee.double.order (D64 M x) 0 = _
  unfold Ieee.Format.order
  rw [read64 h1 h2 x1 x2, h0]
  simp only [Ieee.Datum.order]
  unfold Ieee.signed
  rw [if_neg (by decide), if_neg (by decide), Nat.shiftLeft_eq, Nat.shiftLeft_eq, Nat.zero_mul]
  refine congrArg some (Int.compare_eq_gt.2 ?_)
  have := Nat.mul_pos (show 0 < M * 536870912 by omega) (Nat.two_pow_pos ((x : Int) - 1075 - min ((x : Int) - 1075) (-1074)).toNat)
  omega
theorem order_one {M x : Nat} (h1 : 8388608 ≤ M) (h2 : M < 16777216) (x1 : 1 ≤ x) (x2 : x ≤ 2046) : FloatKind.f64.format.order (D64 M x) 4607182418800017408 = if x < 1023 then some .lt else if D64 M x = 4607182418800017408 then some .eq else some .gt := by
  have h0 : Ieee.double.read 4607182418800017408 = .number false 4503599627370496 (-52) := by decide +kernel
  have hd : D64 M x = 4607182418800017408 ↔ (x = 1023 ∧ M = 8388608) := by
    unfold D64
    omega
  show Ieee.double.order (D64 M x) 4607182418800017408 = _
  unfold Ieee.Format.order
  rw [read64 h1 h2 x1 x2, h0]
  simp only [Ieee.Datum.order]
  unfold Ieee.signed
  rw [if_neg (by decide), if_neg (by decide), Nat.shiftLeft_eq, Nat.shiftLeft_eq]
  rcases Nat.lt_trichotomy x 1023 with hx | hx | hx
  · rw [if_pos hx]
    refine congrArg some (Int.compare_eq_lt.2 ?_)
    have a1 : ((x : Int) - 1075 - min ((x : Int) - 1075) (-52)).toNat = 0 := by omega
    have a2 : ((-52 : Int) - min ((x : Int) - 1075) (-52)).toNat = (1023 - x - 1) + 1 := by omega
    rw [a1, a2, Nat.pow_succ]
    have := Nat.two_pow_pos (1023 - x - 1)
    have : 4503599627370496 * (2 ^ (1023 - x - 1) * 2) ≥ 4503599627370496 * (1 * 2) := Nat.mul_le_mul_left _ (Nat.mul_le_mul_right _ this)
    omega
  · subst hx
    rw [if_neg (by omega)]
    have a1 : (((1023 : Nat) : Int) - 1075 - min (((1023 : Nat) : Int) - 1075) (-52)).toNat = 0 := by decide
    have a2 : ((-52 : Int) - min (((1023 : Nat) : Int) - 1075) (-52)).toNat = 0 := by decide
    rw [a1, a2, Nat.pow_zero, Nat.mul_one, Nat.mul_one]
    by_cases hm : M = 8388608
    · rw [if_pos (hd.2 ⟨rfl, hm⟩), hm]
      rfl
    · rw [if_neg (fun h => hm (hd.1 h).2)]
      exact congrArg some (Int.compare_eq_gt.2 (by omega))
  · rw [if_neg (by omega), if_neg (fun h => by have := (hd.1 h).1; omega)]
    refine congrArg some (Int.compare_eq_gt.2 ?_)
    have a1 : ((x : Int) - 1075 - min ((x : Int) - 1075) (-52)).toNat = (x - 1023 - 1) + 1 := by omega
    have a2 : ((-52 : Int) - min ((x : Int) - 1075) (-52)).toNat = 0 := by omega
    rw [a1, a2, Nat.pow_succ, Nat.pow_zero, Nat.mul_one]
    have := Nat.two_pow_pos (x - 1023 - 1)
    have : M * 536870912 * (2 ^ (x - 1023 - 1) * 2) ≥ M * 536870912 * (1 * 2) := Nat.mul_le_mul_left _ (Nat.mul_le_mul_right _ this)
    omega
/-- The whole part of a number. -/
def wholeW (M x : Nat) : Nat := if x < 1023 then 0 else cutW (D64 M x) (1075 - x)
theorem cut_floor (n k : Nat) : Ieee.Toward.zero.cut false n k = n / 2 ^ k := by
  unfold Ieee.Toward.cut
  dsimp only
  rw [Nat.shiftLeft_eq, Nat.one_mul]
  show n / 2 ^ min k (n.log2 + 2) + 0 = _
  rw [Nat.add_zero]
  rcases Nat.le_total k (n.log2 + 2) with h | h
  · rw [Nat.min_eq_left h]
  · rw [Nat.min_eq_right h]
    have h1 : n < 2 ^ (n.log2 + 1) := Nat.lt_log2_self
    have h2 : (2 : Nat) ^ (n.log2 + 1) ≤ 2 ^ (n.log2 + 2) := Nat.pow_le_pow_right (by decide) (by omega)
    have h3 : (2 : Nat) ^ (n.log2 + 2) ≤ 2 ^ k := Nat.pow_le_pow_right (by decide) h
    rw [Nat.div_eq_of_lt (Nat.lt_of_lt_of_le h1 h2), Nat.div_eq_of_lt (Nat.lt_of_lt_of_le h1 (Nat.le_trans h2 h3))]
theorem nearest64q {q s M x : Nat} (hq : q <<< s = M) (h1 : 8388608 ≤ M) (h2 : M < 16777216) (x1 : 1 ≤ x) (x2 : x ≤ 2046) (hs : s ≤ 23) (hx : x + s = 1046) : Ieee.double.nearest false q 0 = D64 M x := by
  have hb : Ieee.Format.binade Ieee.double = 4503599627370496 := by decide
  have hi : Ieee.Format.infRung Ieee.double = 9218868437227405312 := by decide
  have hl : Ieee.Format.leastPlace Ieee.double = -1074 := by decide
  have hf : (Ieee.double.fractionBits : Int) = 52 := rfl
  have hq0 : q ≠ 0 := by
    rintro rfl
    rw [Nat.zero_shiftLeft] at hq
    omega
  have hlog : q.log2 = 23 - s := by
    have ha := log2M h1 h2
    rw [← hq, log2_shift (Nat.log2_self_le hq0) Nat.lt_log2_self] at ha
    omega
  unfold Ieee.Format.nearest
  rw [if_neg hq0]
  dsimp only
  rw [hl, hb, hi, hf, hlog]
  have hlast : max ((0 : Int) + ((23 - s : Nat) : Int) - 52) (-1074) = -29 - (s : Int) := by omega
  rw [hlast]
  have a1 : ((0 : Int) - (-29 - (s : Int))).toNat = s + 29 := by omega
  have a2 : ((-29 - (s : Int)) - 0).toNat = 0 := by omega
  rw [a1, a2, cut_none]
  have a3 : q <<< (s + 29) = M * 536870912 := by
    have p29 : (2 : Nat) ^ 29 = 536870912 := by decide
    rw [Nat.shiftLeft_add, hq, Nat.shiftLeft_eq, p29]
  rw [a3]
  have hr : ((-29 - (s : Int)) - -1074).toNat = x - 1 := by omega
  rw [hr]
  have hm : min ((x - 1) * 4503599627370496 + M * 536870912) 9218868437227405312 = D64 M x := by
    have q1 : (x - 1) * 4503599627370496 + M * 536870912 = x * 4503599627370496 + (M - 8388608) * 536870912 := by omega
    rw [q1]
    exact Nat.min_eq_left (by omega)
  rw [hm, word_false]
theorem low_le {M j : Nat} (h1 : 8388608 ≤ M) (hj : j ≤ 23) : M % 2 ^ j ≤ M - 8388608 := by
  have e3 : (8388608 : Nat) = 2 ^ j * 2 ^ (23 - j) := by rw [← Nat.pow_add, show j + (23 - j) = 23 by omega]
  have : M % 2 ^ j = (M - 8388608) % 2 ^ j := by
    conv => lhs; rw [show M = (M - 8388608) + 2 ^ j * 2 ^ (23 - j) by rw [← e3]; omega]
    rw [Nat.add_mul_mod_self_left]
  rw [this]
  exact Nat.mod_le _ _
theorem whole_eq {M x : Nat} (h1 : 8388608 ≤ M) (h2 : M < 16777216) (x1 : 1 ≤ x) (x2 : x ≤ 1046) : Ieee.double.write ((Ieee.double.read (D64 M x)).integral .zero) = wholeW M x := by
  rw [read64 h1 h2 x1 (by omega)]
  have a1 : ((x : Int) - 1075).toNat = 0 := by omega
  have a2 : (-((x : Int) - 1075)).toNat = 1075 - x := by omega
  show Ieee.double.nearest false (Ieee.Toward.zero.cut false ((M * 536870912) <<< ((x : Int) - 1075).toNat) (-((x : Int) - 1075)).toNat) 0 = _
  rw [a1, a2, Nat.shiftLeft_zero, cut_floor]
  have p29 : (536870912 : Nat) = 2 ^ 29 := by decide
  have e2 : (2 : Nat) ^ (1075 - x) = 2 ^ 29 * 2 ^ (1046 - x) := by rw [← Nat.pow_add, show 29 + (1046 - x) = 1075 - x by omega]
  have e4 : M * 536870912 / 2 ^ (1075 - x) = M / 2 ^ (1046 - x) := by
    rw [e2, p29, Nat.mul_comm M, Nat.mul_div_mul_left _ _ (Nat.two_pow_pos 29)]
  rw [e4]
  unfold wholeW
  by_cases hx : x < 1023
  · rw [if_pos hx]
    have h24 : (2 : Nat) ^ 24 ≤ 2 ^ (1046 - x) := Nat.pow_le_pow_right (by decide) (by omega)
    have p24 : (2 : Nat) ^ 24 = 16777216 := by decide
    rw [Nat.div_eq_of_lt (by omega)]
    unfold Ieee.Format.nearest
    rw [if_pos rfl, word_false]
  · rw [if_neg hx]
    have hc := cut_low (x := x) (d := 1075 - x) h1 h2 (by omega) (by omega)
    rw [show 1075 - x - 29 = 1046 - x by omega] at hc
    have hle := low_le (j := 1046 - x) h1 (by omega)
    have ew : cutW (D64 M x) (1075 - x) = D64 (M - M % 2 ^ (1046 - x)) x := by
      unfold cutW
      rw [hc]
      generalize M % 2 ^ (1046 - x) = r at *
      unfold D64
      omega
    rw [ew]
    refine nearest64q (s := 1046 - x) ?_ (by omega) (by omega) x1 (by omega) (by omega) (by omega)
    rw [Nat.shiftLeft_eq]
    have := Nat.div_add_mod M (2 ^ (1046 - x))
    rw [Nat.mul_comm] at this
    omega
theorem order_whole {M x : Nat} (h1 : 8388608 ≤ M) (h2 : M < 16777216) (x1 : 1 ≤ x) (x2 : x ≤ 1046) : FloatKind.f64.format.order (D64 M x) (wholeW M x) = if 2 ^ (1046 - x) ∣ M then some .eq else some .gt := by
  unfold wholeW
  by_cases hx : x < 1023
  · rw [if_pos hx, order_zero h1 h2 x1 (by omega), if_neg]
    intro hd
    have h24 : (2 : Nat) ^ 24 ≤ 2 ^ (1046 - x) := Nat.pow_le_pow_right (by decide) (by omega)
    have p24 : (2 : Nat) ^ 24 = 16777216 := by decide
    have := Nat.le_of_dvd (by omega) hd
    omega
  · rw [if_neg hx, order_cut h1 h2 x1 (by omega) (by omega) (by omega), show 1075 - x - 29 = 1046 - x by omega]
    by_cases hd : 2 ^ (1046 - x) ∣ M
    · rw [if_pos (Nat.mod_eq_zero_of_dvd hd), if_pos hd]
    · rw [if_neg (fun h => hd (Nat.dvd_of_mod_eq_zero h)), if_neg hd]
theorem cut_zero {q k : Nat} (hq : 0 < q) : Ieee.Toward.zero.cut false (q <<< k) k = q := by
  have hp := Nat.two_pow_pos k
  have hl : k ≤ (q <<< k).log2 := by
    rw [Nat.shiftLeft_eq]
    refine (Nat.le_log2 (Nat.ne_of_gt (Nat.mul_pos hq hp))).2 ?_
    exact Nat.le_mul_of_pos_left _ hq
  unfold Ieee.Toward.cut
  have hmin : min k ((q <<< k).log2 + 2) = k := by omega
  simp only [hmin]
  rw [Nat.shiftLeft_eq, Nat.shiftLeft_eq, Nat.one_mul, Nat.mul_div_cancel _ hp]
  rfl
theorem ftiv_of {src : FloatKind} {bits : Nat} {dst : IntKind} {n : Int} (h : (src.decode bits).toInt .zero = some n) (h5 : dst.min ≤ n) (h6 : n ≤ dst.max) : floatToIntVal src bits dst = some n := by
  unfold floatToIntVal
  rw [h]
  dsimp only
  rw [if_pos ⟨h5, h6⟩]
/-- A whole number's integer. -/
theorem int64_of {M x j : Nat} (h1 : 8388608 ≤ M) (h2 : M < 16777216) (x1 : 1 ≤ x) (x2 : x ≤ 2046) (hj : x + j = 1046) (hd : 2 ^ j ∣ M) : floatToIntVal .f64 (D64 M x) .i64 = some ((M / 2 ^ j : Nat) : Int) := by
  have hr := read64 h1 h2 x1 x2
  obtain ⟨q, hq⟩ := hd
  have hp := Nat.two_pow_pos j
  have hq1 : M / 2 ^ j = q := by rw [hq]; exact Nat.mul_div_cancel_left _ hp
  have hq2 : q ≤ M := by rw [hq]; exact Nat.le_mul_of_pos_left _ hp
  have hq3 : 0 < q := by
    rcases Nat.eq_zero_or_pos q with h | h
    · subst h; rw [Nat.mul_zero] at hq; omega
    · exact h
  have a3 : M * 536870912 = q <<< (j + 29) := by
    have p29 : (2 : Nat) ^ 29 = 536870912 := by decide
    rw [Nat.shiftLeft_eq, Nat.pow_add, p29, hq, Nat.mul_comm (2 ^ j) q, Nat.mul_assoc]
  have a1 : ((x : Int) - 1075).toNat = 0 := by omega
  have a2 : (-((x : Int) - 1075)).toNat = j + 29 := by omega
  have e : (FloatKind.f64.decode (D64 M x)).toInt .zero = some ((q : Nat) : Int) := by
    have e0 : FloatKind.f64.decode (D64 M x) = .number false (M * 536870912) ((x : Int) - 1075) := hr
    rw [e0]
    unfold Ieee.Datum.toInt Ieee.Datum.integral
    dsimp only
    rw [a1, a2, Nat.shiftLeft_zero, a3, cut_zero hq3]
    unfold Ieee.signed
    rw [if_neg (by decide), Nat.shiftLeft_zero]
  have hmin : IntKind.i64.min = -9223372036854775808 := by decide
  have hmax : IntKind.i64.max = 9223372036854775807 := by decide
  have hq4 : q < 16777216 := Nat.lt_of_le_of_lt hq2 h2
  rw [hq1]
  clear hq hq1 hq2 a3 a1 a2 hr h1 h2
  have h5 : IntKind.i64.min ≤ (q : Int) := by rw [hmin]; omega
  have h6 : (q : Int) ≤ IntKind.i64.max := by rw [hmax]; omega
  exact ftiv_of e h5 h6
/-- The common divisor of a number and a power of two. -/
theorem gcd_pow {M k i : Nat} (hi : i ≤ k) (hd : 2 ^ (k - i) ∣ M) (hn : ∀ i', i' < i → ¬ 2 ^ (k - i') ∣ M) : Nat.gcd M (2 ^ k) = 2 ^ (k - i) := by
  rcases Nat.eq_zero_or_pos i with h | h
  · subst h
    rw [Nat.sub_zero] at hd ⊢
    exact Nat.gcd_eq_right hd
  · obtain ⟨q, rfl⟩ := hd
    have hq : ¬ 2 ∣ q := by
      rintro ⟨r, rfl⟩
      refine hn (i - 1) (by omega) ⟨r, ?_⟩
      rw [show k - (i - 1) = (k - i) + 1 by omega, Nat.pow_succ, Nat.mul_assoc]
    have hodd : q % 2 = 1 := by omega
    have e : 2 ^ k = 2 ^ (k - i) * 2 ^ i := by rw [← Nat.pow_add, show k - i + i = k by omega]
    rw [e, Nat.gcd_mul_left]
    have hc : Nat.gcd q (2 ^ i) = 1 := by
      have h2 : Nat.Coprime q 2 := by
        show Nat.gcd q 2 = 1
        rw [Nat.gcd_comm, Nat.gcd_rec, hodd]
        rfl
      exact Nat.Coprime.pow_right i h2
    rw [hc, Nat.mul_one]
end Go.Proofs.Ytjkgiknklkfipaa
