/-
  Single precision, without a program: to round is monotone; sums, differences and products by the whole numbers that words stand for.
-/
import Derived.Test.YtaodpopghacmaaaMag
import Derived.Test.YtaodpopghacmaaaMin
namespace Go.Proofs.Ytaodpopghacmaaa
open Go
set_option linter.unusedVariables false
set_option linter.unusedSimpArgs false
/-- A number of 2^d parts to the nearest whole, to the even one between two. -/
def cutE (n d : Nat) : Nat := n / 2 ^ d + (if 2 ^ d < 2 * (n % 2 ^ d) ∨ (2 ^ d = 2 * (n % 2 ^ d) ∧ n / 2 ^ d % 2 = 1) then 1 else 0)
theorem cut_eq (s : Bool) (n d : Nat) : Ieee.Toward.even.cut s n d = cutE n d := by
  unfold Ieee.Toward.cut cutE
  dsimp only
  rw [Nat.shiftLeft_eq, Nat.one_mul]
  rcases Nat.le_total d (n.log2 + 2) with hd | hd
  · rw [Nat.min_eq_left hd]
    congr 1
    generalize 2 ^ d = g
    generalize n % g = r
    generalize n / g = q
    by_cases h1 : g < 2 * r
    · simp [h1]
    · by_cases h2 : g = 2 * r
      · by_cases h3 : q % 2 = 1
        · simp [h2, h3]
        · simp [h2, h3]
      · simp [h1, h2]
  · rw [Nat.min_eq_right hd]
    have h1 : n < 2 ^ (n.log2 + 1) := Nat.lt_log2_self
    have h2 : 2 ^ (n.log2 + 2) = 2 * 2 ^ (n.log2 + 1) := by rw [Nat.pow_succ 2 (n.log2 + 1), Nat.mul_comm]
    have h3 : 2 ^ (n.log2 + 2) ≤ 2 ^ d := Nat.pow_le_pow_right (by decide) hd
    generalize 2 ^ (n.log2 + 1) = a at *
    generalize 2 ^ (n.log2 + 2) = b at *
    generalize 2 ^ d = g at *
    rw [Nat.div_eq_of_lt (show n < b by omega), Nat.mod_eq_of_lt (show n < b by omega), Nat.div_eq_of_lt (show n < g by omega), Nat.mod_eq_of_lt (show n < g by omega)]
    have e1 : ¬ b < 2 * n := by omega
    have e2 : ¬ b = 2 * n := by omega
    have e3 : ¬ g < 2 * n := by omega
    have e4 : ¬ g = 2 * n := by omega
    simp [e1, e2, e3, e4]
theorem cutE_scale (n d c : Nat) : cutE (n * 2 ^ c) (d + c) = cutE n d := by
  unfold cutE
  have hp := Nat.two_pow_pos c
  rw [Nat.pow_add, Nat.mul_div_mul_right _ _ hp, Nat.mul_mod_mul_right]
  generalize 2 ^ c = p at *
  generalize 2 ^ d = g
  have e1 : g * p < 2 * (n % g * p) ↔ g < 2 * (n % g) := by
    rw [← Nat.mul_assoc]
    exact Nat.mul_lt_mul_right hp
  have e2 : g * p = 2 * (n % g * p) ↔ g = 2 * (n % g) := by
    rw [← Nat.mul_assoc]
    exact Nat.mul_left_inj (by omega)
  simp only [e1, e2]
theorem cutE_zero (n : Nat) : cutE n 0 = n := by
  unfold cutE
  rw [Nat.pow_zero, Nat.div_one, Nat.mod_one]
  simp
theorem cutE_mono {n n' : Nat} (d : Nat) (h : n ≤ n') : cutE n d ≤ cutE n' d := by
  unfold cutE
  have hp := Nat.two_pow_pos d
  generalize 2 ^ d = g at *
  have h1 : n / g ≤ n' / g := Nat.div_le_div_right h
  have a1 := Nat.div_add_mod n g
  have a2 := Nat.div_add_mod n' g
  rcases Nat.lt_or_ge (n / g) (n' / g) with h2 | h2
  · split <;> split <;> omega
  · have h3 : n / g = n' / g := by omega
    rw [h3] at a1 ⊢
    have h4 : n % g ≤ n' % g := by omega
    generalize n % g = x at *
    generalize n' % g = y at *
    generalize n' / g = q at *
    split
    · rename_i hc
      rw [if_pos (by omega)]
      exact Nat.le_refl _
    · omega
theorem cutE_le {n d j : Nat} (h : n < 2 ^ (j + d)) : cutE n d ≤ 2 ^ j := by
  unfold cutE
  have : n / 2 ^ d < 2 ^ j := by
    rw [Nat.div_lt_iff_lt_mul (Nat.two_pow_pos _), ← Nat.pow_add]
    exact h
  split <;> omega
theorem cutE_ge {n d j : Nat} (h : 2 ^ (j + d) ≤ n) : 2 ^ j ≤ cutE n d := by
  unfold cutE
  have : 2 ^ j ≤ n / 2 ^ d := by
    rw [Nat.le_div_iff_mul_le (Nat.two_pow_pos _), ← Nat.pow_add]
    exact h
  omega
/-- The rung nearest to n parts, of which 2^k make the least step. -/
def RN (k n : Nat) : Nat := if n < 2 ^ (24 + k) then cutE n k else (n.log2 - 23 - k) * 8388608 + cutE n (n.log2 - 23)
theorem log2_in {n j : Nat} (h1 : 2 ^ j ≤ n) (h2 : n < 2 ^ (j + 1)) : n.log2 = j := by
  have h0 : n ≠ 0 := by have := Nat.two_pow_pos j; omega
  have a := (Nat.le_log2 h0).2 h1
  have b := (Nat.log2_lt h0).2 h2
  omega
theorem log2_scale {n : Nat} (h0 : n ≠ 0) (j : Nat) : (n * 2 ^ j).log2 = n.log2 + j := by
  refine log2_in ?_ ?_
  · rw [Nat.pow_add]
    exact Nat.mul_le_mul_right _ (Nat.log2_self_le h0)
  · have e : n.log2 + j + 1 = (n.log2 + 1) + j := by omega
    rw [e, Nat.pow_add]
    exact Nat.mul_lt_mul_of_pos_right Nat.lt_log2_self (Nat.two_pow_pos _)
theorem RN_low {k n : Nat} (h : n < 2 ^ (24 + k)) : RN k n = cutE n k := if_pos h
theorem RN_high {k n : Nat} (h : 2 ^ (24 + k) ≤ n) : RN k n = (n.log2 - 23 - k) * 8388608 + cutE n (n.log2 - 23) := if_neg (by omega)
theorem high_log {k n : Nat} (h : 2 ^ (24 + k) ≤ n) : 24 + k ≤ n.log2 := by
  have h0 : n ≠ 0 := by have := Nat.two_pow_pos (24 + k); omega
  exact (Nat.le_log2 h0).2 h
theorem low_log {k n : Nat} (h0 : n ≠ 0) (h : n < 2 ^ (24 + k)) : n.log2 ≤ 23 + k := by
  have := (Nat.log2_lt h0).2 h
  omega
theorem RN_mono {k n n' : Nat} (h : n ≤ n') : RN k n ≤ RN k n' := by
  rcases Nat.lt_or_ge n' (2 ^ (24 + k)) with h1 | h1
  · rw [RN_low h1, RN_low (Nat.lt_of_le_of_lt h h1)]
    exact cutE_mono k h
  · have hl' := high_log h1
    have g' : 2 ^ 23 ≤ cutE n' (n'.log2 - 23) := cutE_ge (by
      have h0 : n' ≠ 0 := by have := Nat.two_pow_pos (24 + k); omega
      have := Nat.log2_self_le h0
      rwa [show 23 + (n'.log2 - 23) = n'.log2 by omega])
    rw [RN_high h1]
    rcases Nat.lt_or_ge n (2 ^ (24 + k)) with h2 | h2
    · rw [RN_low h2]
      have := cutE_le h2
      have e : 1 * 8388608 ≤ (n'.log2 - 23 - k) * 8388608 := Nat.mul_le_mul_right _ (by omega)
      have e2 : (2 : Nat) ^ 24 = 8388608 + 8388608 := by decide
      have e3 : (2 : Nat) ^ 23 = 8388608 := by decide
      omega
    · have hl := high_log h2
      have h0 : n ≠ 0 := by have := Nat.two_pow_pos (24 + k); omega
      rw [RN_high h2]
      have hle : n.log2 ≤ n'.log2 := by
        have h0' : n' ≠ 0 := by omega
        refine (Nat.le_log2 h0').2 ?_
        exact Nat.le_trans (Nat.log2_self_le h0) h
      rcases Nat.lt_or_ge n.log2 n'.log2 with h3 | h3
      · have c : cutE n (n.log2 - 23) ≤ 2 ^ 24 := cutE_le (by
          rw [show 24 + (n.log2 - 23) = n.log2 + 1 by omega]
          exact Nat.lt_log2_self)
        have e2 : (2 : Nat) ^ 24 = 8388608 + 8388608 := by decide
        have e3 : (2 : Nat) ^ 23 = 8388608 := by decide
        have e : (n.log2 - 23 - k + 1) * 8388608 ≤ (n'.log2 - 23 - k) * 8388608 := Nat.mul_le_mul_right _ (by omega)
        rw [Nat.add_mul] at e
        omega
      · have h4 : n.log2 = n'.log2 := by omega
        rw [h4]
        exact Nat.add_le_add_left (cutE_mono _ h) _
theorem RN_zero (k : Nat) : RN k 0 = 0 := by
  rw [RN_low (Nat.two_pow_pos _)]
  unfold cutE
  simp
/-- What a rung stands for is rounded to that rung. -/
theorem RN_vl (k r : Nat) : RN k (vl r * 2 ^ k) = r := by
  unfold vl
  by_cases hr : r < 8388608
  · rw [if_pos hr, RN_low]
    · have := cutE_scale r 0 k
      rw [Nat.zero_add] at this
      rw [this, cutE_zero]
    · rw [Nat.pow_add]
      exact Nat.mul_lt_mul_of_pos_right (by have : (2 : Nat) ^ 24 = 16777216 := by decide
                                            omega) (Nat.two_pow_pos _)
  · rw [if_neg hr]
    obtain ⟨m, hm⟩ : ∃ m, 8388608 + r % 8388608 = m := ⟨_, rfl⟩
    obtain ⟨e, he⟩ : ∃ e, r / 8388608 - 1 = e := ⟨_, rfl⟩
    have hm1 : 8388608 ≤ m := by omega
    have hm2 : m < 16777216 := by omega
    have p24 : (2 : Nat) ^ 24 = 16777216 := by decide
    have p23 : (2 : Nat) ^ 23 = 8388608 := by decide
    rw [hm, he, Nat.mul_assoc, ← Nat.pow_add]
    have hc : cutE (m * 2 ^ (e + k)) (e + k) = m := by
      have := cutE_scale m 0 (e + k)
      rw [Nat.zero_add] at this
      rw [this, cutE_zero]
    by_cases h0 : e = 0
    · subst h0
      rw [Nat.zero_add] at hc ⊢
      rw [RN_low, hc]
      · omega
      · rw [Nat.pow_add]
        exact Nat.mul_lt_mul_of_pos_right (by omega) (Nat.two_pow_pos _)
    · have hl : (m * 2 ^ (e + k)).log2 = 23 + e + k := by
        rw [log2_scale (by omega), log2_in (j := 23) (by omega) (by omega)]
        omega
      have hge : 2 ^ (24 + k) ≤ m * 2 ^ (e + k) := by
        have a : 2 ^ (23 + (e + k)) ≤ m * 2 ^ (e + k) := by
          rw [Nat.pow_add]
          exact Nat.mul_le_mul_right _ (by omega)
        exact Nat.le_trans (Nat.pow_le_pow_right (by decide) (by omega)) a
      rw [RN_high hge, hl, show 23 + e + k - 23 = e + k by omega, hc, show e + k - k = e by omega]
      omega
theorem RN_ge {k n r : Nat} (h : vl r * 2 ^ k ≤ n) : r ≤ RN k n := by
  have := RN_mono (k := k) h
  rwa [RN_vl] at this
theorem RN_le {k n r : Nat} (h : n ≤ vl r * 2 ^ k) : RN k n ≤ r := by
  have := RN_mono (k := k) h
  rwa [RN_vl] at this
theorem nearest_RN (s : Bool) (mag : Nat) (place : Int) (k N : Nat) (hk : -149 - (k : Int) ≤ place) (hN : N = mag * 2 ^ (place + 149 + k).toNat) :
    Ieee.single.nearest s mag place = Ieee.single.word s (min (RN k N) 2139095040) := by
  have hb : Ieee.Format.binade Ieee.single = 8388608 := by decide
  have hi : Ieee.Format.infRung Ieee.single = 2139095040 := by decide
  have hl : Ieee.Format.leastPlace Ieee.single = -149 := by decide
  have hf : (Ieee.single.fractionBits : Int) = 23 := rfl
  unfold Ieee.Format.nearest
  dsimp only
  split
  · rename_i h0
    subst h0
    rw [Nat.zero_mul] at hN
    subst hN
    rw [RN_zero]
    rfl
  · rename_i h0
    rw [hl, hb, hi, hf, cut_eq, Nat.shiftLeft_eq]
    refine congrArg (fun t => Ieee.single.word s (min t 2139095040)) ?_
    have hN0 : N ≠ 0 := by
      rw [hN]
      have := Nat.two_pow_pos (place + 149 + k).toNat
      exact Nat.mul_ne_zero h0 (by omega)
    obtain ⟨j, hj⟩ : ∃ j, (place + 149 + k).toNat = j := ⟨_, rfl⟩
    have hlog : N.log2 = mag.log2 + j := by rw [hN, hj, log2_scale h0]
    rw [hj] at hN
    have scale : ∀ a b d : Nat, a + d = j + b → b ≤ d → cutE (mag * 2 ^ a) b = cutE N d := fun a b d h1 h2 => by
      rw [hN]
      obtain ⟨c, rfl⟩ : ∃ c, d = b + c := ⟨d - b, by omega⟩
      have : j = a + c := by omega
      rw [this, Nat.pow_add, ← Nat.mul_assoc]
      exact (cutE_scale (mag * 2 ^ a) b c).symm
    by_cases hc : place + (mag.log2 : Int) - 23 ≤ -149
    · rw [Int.max_eq_right hc, show ((-149 : Int) - -149).toNat = 0 by decide, Nat.zero_mul, Nat.zero_add]
      have hlt : N < 2 ^ (24 + k) := (Nat.log2_lt hN0).1 (by omega)
      rw [RN_low hlt]
      exact scale _ _ _ (by omega) (by omega)
    · rw [Int.max_eq_left (by omega)]
      have hge : 2 ^ (24 + k) ≤ N := (Nat.le_log2 hN0).1 (by omega)
      rw [RN_high hge, ← scale (place - (place + (mag.log2 : Int) - 23)).toNat ((place + (mag.log2 : Int) - 23) - place).toNat (N.log2 - 23) (by omega) (by omega)]
      have e1 : (place + (mag.log2 : Int) - 23 - -149).toNat = N.log2 - 23 - k := by omega
      rw [e1]
/-- What a word stands for, in least steps. -/
def V (x : Nat) : Int := if x / 2147483648 % 2 == 1 then -((vl (x % 2147483648) : Nat) : Int) else ((vl (x % 2147483648) : Nat) : Int)
/-- The rank nearest to a whole number of parts. -/
def RZ (k : Nat) (z : Int) : Int := if z < 0 then -((min (RN k z.natAbs) 2139095040 : Nat) : Int) else ((min (RN k z.natAbs) 2139095040 : Nat) : Int)
theorem RZ_mono {k : Nat} {z z' : Int} (h : z ≤ z') : RZ k z ≤ RZ k z' := by
  unfold RZ
  by_cases h1 : z < 0
  · rw [if_pos h1]
    by_cases h2 : z' < 0
    · rw [if_pos h2]
      have := RN_mono (k := k) (show z'.natAbs ≤ z.natAbs by omega)
      omega
    · rw [if_neg h2]
      omega
  · rw [if_neg h1, if_neg (by omega)]
    have := RN_mono (k := k) (show z.natAbs ≤ z'.natAbs by omega)
    omega
theorem RZ_zero (k : Nat) : RZ k 0 = 0 := by
  unfold RZ
  rw [if_neg (by decide), show (0 : Int).natAbs = 0 from rfl, RN_zero]
  rfl
theorem RZ_nonneg {k : Nat} {z : Int} (h : 0 ≤ z) : 0 ≤ RZ k z := by
  have := RZ_mono (k := k) h
  rwa [RZ_zero] at this
theorem RZ_neg (k : Nat) (z : Int) : RZ k (-z) = - RZ k z := by
  by_cases h0 : z = 0
  · subst h0; rw [RZ_zero]; exact RZ_zero k
  unfold RZ
  by_cases h1 : z < 0
  · rw [if_pos h1, if_neg (by omega), Int.natAbs_neg]
    omega
  · rw [if_neg h1, if_pos (by omega), Int.natAbs_neg]
theorem V_le {x y : Nat} : V x ≤ V y ↔ rk x ≤ rk y := by
  have h := sgn_cmp (x / 2147483648 % 2 == 1) (y / 2147483648 % 2 == 1) (x % 2147483648) (y % 2147483648)
  change compare (V x) (V y) = compare (rk x) (rk y) at h
  have a := @Int.compare_eq_gt (V x) (V y)
  have b := @Int.compare_eq_gt (rk x) (rk y)
  rw [h] at a
  constructor
  · intro h1
    rcases (show rk y < rk x ∨ rk x ≤ rk y by omega) with h2 | h2
    · have := a.1 (b.2 h2); omega
    · exact h2
  · intro h1
    rcases (show V y < V x ∨ V x ≤ V y by omega) with h2 | h2
    · have := b.1 (a.2 h2); omega
    · exact h2
theorem V_lt {x y : Nat} : V x < V y ↔ rk x < rk y := by
  have := @V_le y x
  omega
theorem V_eq {x y : Nat} : V x = V y ↔ rk x = rk y := by
  have := @V_le x y
  have := @V_le y x
  omega
theorem V_zero : V 0 = 0 := rfl
theorem V_nonneg {x : Nat} : 0 ≤ V x ↔ 0 ≤ rk x := by
  have := @V_le 0 x
  rwa [V_zero, show rk 0 = 0 from rfl] at this
theorem V_pos {x : Nat} : 0 < V x ↔ 0 < rk x := by
  have := @V_lt 0 x
  rwa [V_zero, show rk 0 = 0 from rfl] at this
theorem V_neg {x : Nat} : V x < 0 ↔ rk x < 0 := by
  have := @V_lt x 0
  rwa [V_zero, show rk 0 = 0 from rfl] at this
/-- What a word stands for is rounded to its rank. -/
theorem RZ_V {x : Nat} (k : Nat) (h : rg x ≤ 2139095040) : RZ k (V x * (2 ^ k : Nat)) = rk x := by
  unfold rg at h
  unfold RZ V rk
  generalize x / 2147483648 % 2 = s
  generalize x % 2147483648 = r at *
  have hp := Nat.two_pow_pos k
  have key := RN_vl k r
  have hr0 : vl r * 2 ^ k = 0 → r = 0 := fun e => by
    rw [e, RN_zero] at key
    exact key.symm
  by_cases hs : s = 1
  · subst hs
    simp only [beq_self_eq_true, if_true]
    rw [Int.neg_mul, ← Int.natCast_mul, Int.natAbs_neg, Int.natAbs_natCast, key, Nat.min_eq_left h]
    by_cases h0 : vl r * 2 ^ k = 0
    · have := hr0 h0
      subst this
      rw [h0]
      rfl
    · rw [if_pos (by omega)]
  · have : (s == 1) = false := by simpa using hs
    rw [this]
    simp only [Bool.false_eq_true, if_false]
    rw [← Int.natCast_mul, Int.natAbs_natCast, key, Nat.min_eq_left h, if_neg (by omega)]
theorem rk_word (s : Bool) {r : Nat} (h : r ≤ 2139095040) : rk (Ieee.single.word s r) = if s then -(r : Int) else (r : Int) := by
  have hs : Ieee.Format.signWeight Ieee.single = 2147483648 := by decide
  unfold rk
  cases s
  · have e : Ieee.single.word false r = r := rfl
    rw [e]
    have e1 : r / 2147483648 % 2 = 0 := by omega
    have e2 : r % 2147483648 = r := by omega
    rw [e1, e2]
    rfl
  · have e : Ieee.single.word true r = 2147483648 + r := by unfold Ieee.Format.word; rw [hs]; rfl
    rw [e]
    have e1 : (2147483648 + r) / 2147483648 % 2 = 1 := by omega
    have e2 : (2147483648 + r) % 2147483648 = r := by omega
    rw [e1, e2]
    rfl
/-- A word written: its rank. -/
theorem rk_nearest (s : Bool) (mag : Nat) (place : Int) (k : Nat) (z : Int) (hk : -149 - (k : Int) ≤ place) (hN : z.natAbs = mag * 2 ^ (place + 149 + k).toNat) (hs : z = 0 ∨ s = decide (z < 0)) :
    rk (Ieee.single.nearest s mag place) = RZ k z := by
  rw [nearest_RN s mag place k z.natAbs hk hN, rk_word s (Nat.min_le_right _ _)]
  unfold RZ
  rcases hs with rfl | hs
  · rw [show (0 : Int).natAbs = 0 from rfl, RN_zero]
    cases s <;> rfl
  · subst hs
    by_cases h : z < 0
    · rw [decide_eq_true h, if_pos rfl, if_pos h]
    · rw [decide_eq_false h, if_neg h]
      rfl
theorem signed_V {x m k c : Nat} (hm : m * 2 ^ k = vl (x % 2147483648)) (hc : c ≤ k) : Ieee.signed (x / 2147483648 % 2 == 1) m (k - c) * (2 ^ c : Nat) = V x := by
  rw [signed_scale, Nat.mul_assoc, ← Nat.pow_add, show k - c + c = k by omega, hm]
  rfl
theorem rk_add {x y r : Nat} (hx : rg x < 2139095040) (hy : rg y < 2139095040) (h : floatBits .add .f32 x y = some r) : rk r = RZ 0 (V x + V y) := by
  obtain ⟨m, k, e1, v1⟩ := read_number hx
  obtain ⟨n, l, e2, v2⟩ := read_number hy
  simp only [floatBits, FloatKind.format, Ieee.Format.add, e1, e2, Ieee.Datum.sum, Option.map_some] at h
  cases h
  show rk (Ieee.single.nearest _ _ _) = _
  have hb : min (-149 + (k : Int)) (-149 + (l : Int)) = -149 + ((min k l : Nat) : Int) := by omega
  rw [hb]
  have t1 : (-149 + (k : Int) - (-149 + ((min k l : Nat) : Int))).toNat = k - min k l := by omega
  have t2 : (-149 + (l : Int) - (-149 + ((min k l : Nat) : Int))).toNat = l - min k l := by omega
  rw [t1, t2]
  have s1 := signed_V (c := min k l) v1 (Nat.min_le_left _ _)
  have s2 := signed_V (c := min k l) v2 (Nat.min_le_right _ _)
  have hp : 0 < 2 ^ min k l := Nat.two_pow_pos _
  have t3 : (-149 + ((min k l : Nat) : Int) + 149 + ((0 : Nat) : Int)).toNat = min k l := by omega
  generalize Ieee.signed (x / 2147483648 % 2 == 1) m (k - min k l) = A at *
  generalize Ieee.signed (y / 2147483648 % 2 == 1) n (l - min k l) = B at *
  have hsum : V x + V y = (A + B) * (2 ^ min k l : Nat) := by rw [← s1, ← s2, Int.add_mul]
  have hz : V x + V y = 0 ↔ A + B = 0 := by
    rw [hsum]
    constructor
    · intro h0
      rcases Int.mul_eq_zero.1 h0 with h1 | h1
      · exact h1
      · omega
    · intro h0; rw [h0, Int.zero_mul]
  have hn : V x + V y < 0 ↔ A + B < 0 := by
    rw [hsum]
    constructor
    · intro h0
      rcases (show A + B < 0 ∨ 0 ≤ A + B by omega) with h1 | h1
      · exact h1
      · have := Int.mul_nonneg h1 (Int.natCast_nonneg (2 ^ min k l)); omega
    · intro h0
      exact Int.mul_neg_of_neg_of_pos h0 (by omega)
  refine rk_nearest _ _ _ 0 _ (by omega) ?_ ?_
  · rw [t3, hsum, Int.natAbs_mul, Int.natAbs_natCast]
  · by_cases h0 : A + B = 0
    · exact .inl (hz.2 h0)
    · refine .inr ?_
      rw [if_neg h0]
      exact decide_eq_decide.2 hn.symm
theorem V_flip {x : Nat} (hx : x < 4294967296) : V (Op.negFloat .f32 x) = - V x := by
  unfold Op.negFloat V
  rw [show FloatKind.f32.format.exponentBits + FloatKind.f32.format.fractionBits = 31 from rfl]
  have e1 : (x ^^^ 2 ^ 31) % 2147483648 = x % 2147483648 := by
    rw [show 2147483648 = 2 ^ 31 from rfl, Nat.xor_mod_two_pow, Nat.mod_self, Nat.xor_zero]
  have e2 : (x ^^^ 2 ^ 31) / 2147483648 = (x / 2147483648) ^^^ 1 := by
    rw [show 2147483648 = 2 ^ 31 from rfl, Nat.xor_div_two_pow, Nat.div_self (Nat.two_pow_pos 31)]
  rw [e1, e2]
  have h2 : x / 2147483648 = 0 ∨ x / 2147483648 = 1 := by omega
  rcases h2 with h | h <;> rw [h] <;> simp
theorem rk_sub {x y r : Nat} (hx : rg x < 2139095040) (hy : rg y < 2139095040) (h : floatBits .sub .f32 x y = some r) : rk r = RZ 0 (V x - V y) := by
  obtain ⟨m, k, e1, v1⟩ := read_number hx
  obtain ⟨n, l, e2, v2⟩ := read_number hy
  simp only [floatBits, FloatKind.format, Ieee.Format.sub, e1, e2, Ieee.Datum.opposite, Ieee.Datum.sum, Option.map_some] at h
  cases h
  show rk (Ieee.single.nearest _ _ _) = _
  have hb : min (-149 + (k : Int)) (-149 + (l : Int)) = -149 + ((min k l : Nat) : Int) := by omega
  rw [hb]
  have t1 : (-149 + (k : Int) - (-149 + ((min k l : Nat) : Int))).toNat = k - min k l := by omega
  have t2 : (-149 + (l : Int) - (-149 + ((min k l : Nat) : Int))).toNat = l - min k l := by omega
  rw [t1, t2]
  have s1 := signed_V (c := min k l) v1 (Nat.min_le_left _ _)
  have s2 := signed_V (c := min k l) v2 (Nat.min_le_right _ _)
  have flip : ∀ u, Ieee.signed (!(y / 2147483648 % 2 == 1)) n u = - Ieee.signed (y / 2147483648 % 2 == 1) n u := fun u => by
    unfold Ieee.signed
    cases (y / 2147483648 % 2 == 1) <;> simp
  rw [flip]
  have hp : 0 < 2 ^ min k l := Nat.two_pow_pos _
  have t3 : (-149 + ((min k l : Nat) : Int) + 149 + ((0 : Nat) : Int)).toNat = min k l := by omega
  generalize Ieee.signed (x / 2147483648 % 2 == 1) m (k - min k l) = A at *
  generalize Ieee.signed (y / 2147483648 % 2 == 1) n (l - min k l) = B at *
  have hsum : V x - V y = (A + -B) * (2 ^ min k l : Nat) := by rw [← s1, ← s2, Int.add_mul, Int.neg_mul]; omega
  have hz : V x - V y = 0 ↔ A + -B = 0 := by
    rw [hsum]
    constructor
    · intro h0
      rcases Int.mul_eq_zero.1 h0 with h1 | h1
      · exact h1
      · omega
    · intro h0; rw [h0, Int.zero_mul]
  have hn : V x - V y < 0 ↔ A + -B < 0 := by
    rw [hsum]
    constructor
    · intro h0
      rcases (show A + -B < 0 ∨ 0 ≤ A + -B by omega) with h1 | h1
      · exact h1
      · have := Int.mul_nonneg h1 (Int.natCast_nonneg (2 ^ min k l)); omega
    · intro h0
      exact Int.mul_neg_of_neg_of_pos h0 (by omega)
  refine rk_nearest _ _ _ 0 _ (by omega) ?_ ?_
  · rw [t3, hsum, Int.natAbs_mul, Int.natAbs_natCast]
  · by_cases h0 : A + -B = 0
    · exact .inl (hz.2 h0)
    · refine .inr ?_
      rw [if_neg h0]
      exact decide_eq_decide.2 hn.symm
theorem rk_mul {x y r : Nat} (hx : rg x < 2139095040) (hy : rg y < 2139095040) (h : floatBits .mul .f32 x y = some r) : rk r = RZ 149 (V x * V y) := by
  obtain ⟨m, k, e1, v1⟩ := read_number hx
  obtain ⟨n, l, e2, v2⟩ := read_number hy
  simp only [floatBits, FloatKind.format, Ieee.Format.mul, e1, e2, Ieee.Datum.product, Option.map_some] at h
  cases h
  show rk (Ieee.single.nearest _ _ _) = _
  refine rk_nearest _ _ _ 149 _ (by omega) ?_ ?_
  · rw [show (-149 + (k : Int) + (-149 + (l : Int)) + 149 + ((149 : Nat) : Int)).toNat = k + l by omega, Nat.pow_add, Int.natAbs_mul]
    have a1 : (V x).natAbs = vl (x % 2147483648) := by
      unfold V
      split
      · rw [Int.natAbs_neg, Int.natAbs_natCast]
      · rw [Int.natAbs_natCast]
    have a2 : (V y).natAbs = vl (y % 2147483648) := by
      unfold V
      split
      · rw [Int.natAbs_neg, Int.natAbs_natCast]
      · rw [Int.natAbs_natCast]
    rw [a1, a2, ← v1, ← v2]
    exact Nat.mul_mul_mul_comm _ _ _ _
  · unfold V
    generalize vl (x % 2147483648) = a
    generalize vl (y % 2147483648) = b
    by_cases ha : a = 0
    · left; subst ha; split <;> simp
    · by_cases hb : b = 0
      · left; subst hb; split <;> simp
      · right
        have hab : 0 < (a : Int) * (b : Int) := Int.mul_pos (by omega) (by omega)
        cases (x / 2147483648 % 2 == 1) <;> cases (y / 2147483648 % 2 == 1) <;> simp [Int.neg_mul, Int.mul_neg] <;> omega
/-- A word that is a number: as 'read_number', with its digits bounded. -/
theorem read_number' {x : Nat} (h : x % 2147483648 < 2139095040) : ∃ m k : Nat, Ieee.single.read x = .number (x / 2147483648 % 2 == 1) m (-149 + (k : Int)) ∧ m * 2 ^ k = vl (x % 2147483648) ∧ m < 16777216 := by
  have hs : Ieee.Format.signWeight Ieee.single = 2147483648 := by decide
  have hb : Ieee.Format.binade Ieee.single = 8388608 := by decide
  have hi : Ieee.Format.infRung Ieee.single = 2139095040 := by decide
  have hl : Ieee.Format.leastPlace Ieee.single = -149 := by decide
  unfold Ieee.Format.read vl
  simp only [hs, hb, hi, hl]
  by_cases hr : x % 2147483648 < 8388608
  · rw [if_pos hr, if_pos hr]
    exact ⟨x % 2147483648, 0, rfl, Nat.mul_one _, by omega⟩
  · rw [if_neg hr, if_neg hr, if_pos h]
    exact ⟨_, _, rfl, rfl, by omega⟩
theorem read_two : Ieee.single.read 1073741824 = .number false 8388608 (-22) := by decide +kernel
/-- A half. -/
theorem rk_half {x r : Nat} (hx : rg x < 2139095040) (h : floatBits .quo .f32 x 1073741824 = some r) : rk r = RZ 60 (V x * (2 ^ 59 : Nat)) := by
  obtain ⟨m, k, e1, v1, hm⟩ := read_number' hx
  have hfb : Ieee.single.fractionBits + 2 = 25 := rfl
  simp only [floatBits, FloatKind.format, Ieee.Format.div, e1, read_two, Ieee.Datum.quotient, hfb] at h
  rw [if_neg (by decide)] at h
  simp only [Option.map_some] at h
  cases h
  show rk (Ieee.single.nearest _ _ _) = _
  have h23 : Nat.log2 8388608 = 23 := by decide
  rw [h23]
  have hlog : m.log2 ≤ 23 := by
    by_cases h0 : m = 0
    · subst h0; decide
    · have := (Nat.log2_lt h0).2 (show m < 2 ^ 24 from hm)
      omega
  obtain ⟨c, hc⟩ : ∃ c, 25 + 23 - m.log2 = c + 23 := ⟨25 - m.log2, by omega⟩
  have hc2 : c ≤ 25 := by omega
  have hc3 : 2 ≤ c := by omega
  rw [hc]
  have e23 : (2 : Nat) ^ 23 = 8388608 := by decide
  have hd : m <<< (c + 23) = m * 2 ^ c * 8388608 := by rw [Nat.shiftLeft_eq, Nat.pow_add, e23, Nat.mul_assoc]
  rw [hd, Nat.mul_div_cancel _ (by decide), Nat.mul_mod_left]
  have hz : ((0 : Nat) != 0).toNat = 0 := rfl
  rw [hz, Nat.add_zero, Bool.xor_false]
  refine rk_nearest _ _ _ 60 _ (by omega) ?_ ?_
  · have he : (-149 + (k : Int) - -22 - ((c + 23 : Nat) : Int) - 1 + 149 + ((60 : Nat) : Int)).toNat = k + 58 - c := by omega
    rw [he, Int.natAbs_mul, Int.natAbs_natCast]
    have a1 : (V x).natAbs = vl (x % 2147483648) := by
      unfold V
      split
      · rw [Int.natAbs_neg, Int.natAbs_natCast]
      · rw [Int.natAbs_natCast]
    rw [a1, ← v1, Nat.mul_assoc m, ← Nat.pow_add]
    have h2 : (2 : Nat) * (m * 2 ^ c) = m * 2 ^ (c + 1) := by rw [Nat.pow_succ]; rw [Nat.mul_comm 2, Nat.mul_assoc]
    rw [h2, Nat.mul_assoc, ← Nat.pow_add, show c + 1 + (k + 58 - c) = k + 59 by omega]
  · unfold V
    have hp : 0 < (2 : Nat) ^ 59 := Nat.two_pow_pos 59
    generalize (2 : Nat) ^ 59 = p at *
    generalize vl (x % 2147483648) = a
    by_cases ha : a = 0
    · left; subst ha; split <;> simp
    · right
      have hab : 0 < (a : Int) * (p : Int) := Int.mul_pos (by omega) (by omega)
      cases (x / 2147483648 % 2 == 1) <;> simp [Int.neg_mul] <;> omega
theorem V_small {x : Nat} (h : x < 2147483648) : V x = (vl x : Int) := by
  unfold V
  have e1 : x / 2147483648 % 2 = 0 := by omega
  have e2 : x % 2147483648 = x := by omega
  rw [e1, e2]
  rfl
theorem vl_dbl {r : Nat} (h : 8388608 ≤ r) : vl (r + 8388608) = 2 * vl r := by
  unfold vl
  rw [if_neg (by omega), if_neg (by omega)]
  have e1 : (r + 8388608) % 8388608 = r % 8388608 := by omega
  have e2 : (r + 8388608) / 8388608 - 1 = (r / 8388608 - 1) + 1 := by omega
  rw [e1, e2, Nat.pow_succ]
  generalize 2 ^ (r / 8388608 - 1) = p
  rw [← Nat.mul_assoc, Nat.mul_comm]
theorem vl_le {r s : Nat} (h : r ≤ s) : vl r ≤ vl s := by
  rcases Nat.lt_or_ge r s with h1 | h1
  · exact Nat.le_of_lt (vl_mono h1)
  · have : r = s := by omega
    rw [this]; exact Nat.le_refl _
theorem RZ_nat (k n : Nat) : RZ k (n : Int) = ((min (RN k n) 2139095040 : Nat) : Int) := by
  unfold RZ
  rw [if_neg (by omega), Int.natAbs_natCast]
theorem RZ_ge {k n r : Nat} (hr : r ≤ 2139095040) (h : vl r * 2 ^ k ≤ n) : (r : Int) ≤ RZ k (n : Int) := by
  have := RN_ge h
  rw [RZ_nat]
  omega
theorem RZ_le {k n r : Nat} (h : n ≤ vl r * 2 ^ k) : RZ k (n : Int) ≤ (r : Int) := by
  have := RN_le h
  rw [RZ_nat]
  omega
/-- The sum of two numbers that are not less than nought. -/
theorem add_in {l h s : Nat} (hl : l < 2139095040) (hh : h < 2139095040) (hs : floatBits .add .f32 l h = some s) : rk s = RZ 0 ((vl l + vl h : Nat) : Int) := by
  have a := rk_add (by rw [rg_small (by omega)]; omega) (by rw [rg_small (by omega)]; omega) hs
  rw [V_small (by omega), V_small (by omega)] at a
  rw [a, Int.natCast_add]
theorem half_in {x m : Nat} (hx : x < 2139095040) (hm : floatBits .quo .f32 x 1073741824 = some m) : rk m = RZ 60 ((vl x * 2 ^ 59 : Nat) : Int) := by
  have b := rk_half (by rw [rg_small (by omega)]; omega) hm
  rw [V_small (by omega)] at b
  rw [b, Int.natCast_mul]
theorem half_some {s : Nat} (hs : rg s < 2139095040) : ∃ m, floatBits .quo .f32 s 1073741824 = some m := by
  obtain ⟨m, k, e1, _⟩ := read_number hs
  simp only [floatBits, FloatKind.format, Ieee.Format.div, e1, read_two, Ieee.Datum.quotient]
  rw [if_neg (by decide)]
  exact ⟨_, rfl⟩
theorem pow_60 (a : Nat) : a * 2 ^ 60 = 2 * a * 2 ^ 59 := by
  rw [show (60 : Nat) = 59 + 1 from rfl, Nat.pow_succ]
  generalize (2 : Nat) ^ 59 = p
  rw [Nat.mul_comm p 2, ← Nat.mul_assoc, Nat.mul_comm a 2]
theorem sum_in {l h : Nat} (h1 : 8388608 ≤ l) (h2 : l ≤ h) (h3 : h ≤ 1233125376) : ∃ s, floatBits .add .f32 l h = some s ∧ l + 8388608 ≤ s ∧ s ≤ h + 8388608 := by
  have gl : rg l = l := rg_small (by omega)
  have gh : rg h = h := rg_small (by omega)
  have b1 : rg l < 148 * 8388608 := by rw [gl]; omega
  have b2 : rg h < 148 * 8388608 := by rw [gh]; omega
  obtain ⟨s, hs, _⟩ := sum_le b1 b2 (by decide) (by decide)
  have a := add_in (by omega) (by omega) hs
  have hl : vl l ≤ vl h := vl_le h2
  have d1 := vl_dbl h1
  have d2 := vl_dbl (r := h) (by omega)
  have k1 : vl (l + 8388608) * 2 ^ 0 ≤ vl l + vl h := by rw [d1, Nat.pow_zero]; omega
  have k2 : vl l + vl h ≤ vl (h + 8388608) * 2 ^ 0 := by rw [d2, Nat.pow_zero]; omega
  have lo := RZ_ge (by omega) k1
  have hi := RZ_le k2
  rw [← a] at lo hi
  have sw := word_of_rk (bits_lt hs) (by omega)
  exact ⟨s, hs, by omega, by omega⟩
theorem half_mid {l h s : Nat} (h1 : 8388608 ≤ l) (h2 : 8388608 ≤ h) (h3 : h ≤ 1233125376) (s1 : l + 8388608 ≤ s) (s2 : s ≤ h + 8388608) : ∃ m, floatBits .quo .f32 s 1073741824 = some m ∧ l ≤ m ∧ m ≤ h := by
  have w1 := vl_le s1
  have w2 := vl_le s2
  rw [vl_dbl h1] at w1
  rw [vl_dbl h2] at w2
  obtain ⟨m, hm⟩ := half_some (s := s) (by rw [rg_small (by omega)]; omega)
  have b := half_in (by omega) hm
  have k1 : vl l * 2 ^ 60 ≤ vl s * 2 ^ 59 := by rw [pow_60]; exact Nat.mul_le_mul_right _ w1
  have k2 : vl s * 2 ^ 59 ≤ vl h * 2 ^ 60 := by rw [pow_60]; exact Nat.mul_le_mul_right _ w2
  have lo := RZ_ge (by omega) k1
  have hi := RZ_le k2
  rw [← b] at lo hi
  clear k1 k2 b
  have mw := word_of_rk (bits_lt hm) (by omega)
  exact ⟨m, hm, by omega, by omega⟩
/-- The middle of two numbers lies between them. -/
theorem mid_in {l h : Nat} (h1 : 8388608 ≤ l) (h2 : l ≤ h) (h3 : h ≤ 1233125376) :
    ∃ s m, floatBits .add .f32 l h = some s ∧ floatBits .quo .f32 s 1073741824 = some m ∧ l ≤ m ∧ m ≤ h := by
  obtain ⟨s, hs, s1, s2⟩ := sum_in h1 h2 h3
  obtain ⟨m, hm, m1, m2⟩ := half_mid h1 (Nat.le_trans h1 h2) h3 s1 s2
  exact ⟨s, m, hs, hm, m1, m2⟩
end Go.Proofs.Ytaodpopghacmaaa
