/-
  Single precision, without a program: quotients of numbers of teeth, and products of two such quotients, are numbers.
-/
import Derived.Test.YtaodpopghacmaaaMag
namespace Go.Proofs.Ytaodpopghacmaaa
open Go
set_option linter.unusedVariables false
set_option linter.unusedSimpArgs false
theorem read_bigT {x B : Nat} (h : B * 8388608 ≤ rg x) (h1 : 1 ≤ B) (h2 : rg x < 255 * 8388608) : ∃ (m : Nat) (e : Int), Ieee.single.read x = .number (x / 2147483648 % 2 == 1) m e ∧ 2 ^ 23 ≤ m ∧ (B : Int) - 127 ≤ e + 23 := by
  have hs : Ieee.Format.signWeight Ieee.single = 2147483648 := by decide
  have hb : Ieee.Format.binade Ieee.single = 8388608 := by decide
  have hi : Ieee.Format.infRung Ieee.single = 2139095040 := by decide
  have hl : Ieee.Format.leastPlace Ieee.single = -149 := by decide
  have hB : 1 * 8388608 ≤ B * 8388608 := Nat.mul_le_mul_right _ h1
  have hr : B * 8388608 ≤ x % 2147483648 := h
  have hr2 : x % 2147483648 < 255 * 8388608 := h2
  unfold Ieee.Format.read
  simp only [hs, hb, hi, hl]
  rw [if_neg (by omega), if_pos (by omega)]
  refine ⟨_, _, rfl, ?_, ?_⟩
  · exact Nat.le_add_right 8388608 _
  · have : B ≤ x % 2147483648 / 8388608 := (Nat.le_div_iff_mul_le (by decide)).2 hr
    omega
theorem quo_leT {x y A B C : Nat} (hx : rg x < A * 8388608) (hy : B * 8388608 ≤ rg y) (hy2 : rg y < 255 * 8388608) (hA : 1 ≤ A) (hB : 1 ≤ B) (hA2 : A ≤ 255) (hC : A + 127 = C + B) (h1 : 1 ≤ C) (h2 : C ≤ 254) :
    ∃ r, floatBits .quo .f32 x y = some r ∧ rg r ≤ C * 8388608 := by
  obtain ⟨m, k, e, r1, b1, c1, _⟩ := read_small hx hA hA2
  obtain ⟨n, f, r2, b2, c2⟩ := read_bigT hy hB hy2
  have n0 : n ≠ 0 := by
    intro h0
    rw [h0] at b2
    exact absurd b2 (by decide)
  refine ⟨_, by simp only [floatBits, FloatKind.format, Ieee.Format.div, r1, r2, Ieee.Datum.quotient]; rw [if_neg n0]; rfl, ?_⟩
  have hlog : m < 2 ^ (m.log2 + 1) := Nat.lt_log2_self
  have hnl : 23 ≤ n.log2 := (Nat.le_log2 n0).2 b2
  generalize hmo : Ieee.single.fractionBits + 2 + n.log2 - m.log2 = more
  by_cases m0 : m = 0
  · subst m0
    have z : (2 * ((0 <<< more) / n) + ((0 <<< more) % n != 0).toNat) = 0 := by simp
    rw [z]
    show rg (Ieee.single.nearest _ 0 _) ≤ _
    unfold Ieee.Format.nearest
    rw [if_pos rfl, rg_word _ (by decide)]
    exact Nat.zero_le _
  · have hk : m.log2 < k := (Nat.log2_lt m0).2 b1
    have hm2 : 25 + n.log2 - m.log2 = more := hmo
    have hkm : 23 ≤ k + more := by omega
    have q1 : m <<< more < 2 ^ (k + more - 23) * n := by
      rw [Nat.shiftLeft_eq]
      have t1 : m * 2 ^ more < 2 ^ k * 2 ^ more := Nat.mul_lt_mul_of_pos_right b1 (Nat.two_pow_pos _)
      have t2 : 2 ^ k * 2 ^ more = 2 ^ (k + more - 23) * 2 ^ 23 := by rw [← Nat.pow_add, ← Nat.pow_add, Nat.sub_add_cancel hkm]
      have t3 : 2 ^ (k + more - 23) * 2 ^ 23 ≤ 2 ^ (k + more - 23) * n := Nat.mul_le_mul_left _ b2
      omega
    have q2 : (m <<< more) / n < 2 ^ (k + more - 23) := (Nat.div_lt_iff_lt_mul (by omega)).2 q1
    have hb : ((m <<< more) % n != 0).toNat ≤ 1 := Bool.toNat_le _
    refine nearest_le _ (k := k + more - 23 + 1) ?_ ?_ h1 h2
    · rw [Nat.pow_succ]
      omega
    · omega
theorem fint_rg_all : ((List.range 201).all fun b => decide (b < 6) || (decide (rg (floatOfInt .f32 (b : Int)) < 135 * 8388608) && decide (129 * 8388608 ≤ rg (floatOfInt .f32 (b : Int))))) = true := by decide +kernel
theorem fint_rg {b : Int} (h1 : 6 ≤ b) (h2 : b ≤ 200) : rg (floatOfInt .f32 b) < 135 * 8388608 ∧ 129 * 8388608 ≤ rg (floatOfInt .f32 b) := by
  obtain ⟨k, rfl⟩ := Int.eq_ofNat_of_zero_le (by omega : 0 ≤ b)
  have h := List.all_eq_true.1 fint_rg_all k (List.mem_range.2 (by omega))
  rcases Bool.or_eq_true _ _ ▸ h with h | h
  · have := of_decide_eq_true h
    omega
  · simp only [Bool.and_eq_true, decide_eq_true_eq] at h
    exact h
/-- A quotient of numbers of teeth is at most 64. -/
theorem quoT_rg {a b : Int} (a1 : 6 ≤ a) (a2 : a ≤ 200) (b1 : 6 ≤ b) (b2 : b ≤ 200) : rg (quoT a b) < 134 * 8388608 := by
  have ha := fint_rg a1 a2
  have hb := fint_rg b1 b2
  obtain ⟨r, e, hr⟩ := quo_leT (C := 133) ha.1 hb.2 (Nat.lt_trans hb.1 (by decide)) (by decide) (by decide) (by decide) (by decide) (by decide) (by decide)
  have e2 := quoT_some a1 a2 b1 b2
  rw [e] at e2
  rw [← Option.some.inj e2]
  exact Nat.lt_of_le_of_lt hr (by decide)
theorem mulT_some {x y : Nat} (hx : rg x < 134 * 8388608) (hy : rg y < 134 * 8388608) : ∃ r, floatBits .mul .f32 x y = some r ∧ rg r < 142 * 8388608 := by
  obtain ⟨r, e, hr⟩ := mul_le (C := 141) hx hy (by decide) (by decide) (by decide) (by decide) (by decide) (by decide) (by decide)
  exact ⟨r, e, Nat.lt_of_le_of_lt hr (by decide)⟩
theorem f2_of {op : BinOp} {x y r : Nat} (h : floatBits op .f32 x y = some r) : cn r = f2 op (cn x) (cn y) := by
  rw [f2_cn, cn_of_not (floatBits_notNan h)]
  unfold f2
  rw [h]
  rfl
end Go.Proofs.Ytaodpopghacmaaa
