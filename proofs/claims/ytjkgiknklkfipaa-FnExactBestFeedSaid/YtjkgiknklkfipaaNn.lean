/-
  Single precision, without a program: numbers that are not negative: sums, products, quotients; what is left of one behind a loss is no greater than its bound.
-/
import Derived.Test.YtjkgiknklkfipaaClo
import Derived.Test.YtjkgiknklkfipaaMc
namespace Go.Proofs.Ytjkgiknklkfipaa
open Go
set_option linter.unusedVariables false
set_option linter.unusedSimpArgs false
def sgnB (x : Nat) : Bool := x / 2147483648 % 2 == 1
theorem sgnB_word (s : Bool) {r : Nat} (h : r ≤ 2139095040) : sgnB (Ieee.single.word s r) = s := word_neg Ieee.single s (by rw [show Ieee.Format.signWeight Ieee.single = 2147483648 by decide]; omega)
theorem sgnB_nearest (s : Bool) (m : Nat) (e : Int) : sgnB (Ieee.single.nearest s m e) = s := by
  unfold Ieee.Format.nearest
  dsimp only
  split
  · exact sgnB_word s (by decide)
  · refine sgnB_word s (Nat.le_trans (Nat.min_le_right _ _) ?_)
    rw [show Ieee.Format.infRung Ieee.single = 2139095040 by decide]
    exact Nat.le_refl _
theorem rk_pos {x : Nat} (h : sgnB x = false) : rk x = (rg x : Int) := by
  unfold rk rg
  rw [if_neg (by show ¬ sgnB x = true; rw [h]; decide)]
theorem rk_neg {x : Nat} (h : sgnB x = true) : rk x = -(rg x : Int) := by
  unfold rk rg
  rw [if_pos (show (x / 2147483648 % 2 == 1) = true from h)]
theorem nn_read {x C : Nat} (h : rg x < C * 8388608) (h1 : 1 ≤ C) (h2 : C ≤ 255) (hx : 0 ≤ rk x) : ∃ (s : Bool) (m k : Nat) (e : Int), Ieee.single.read x = .number s m e ∧ (s = false ∨ m = 0) ∧ m < 2 ^ k ∧ e + (k : Int) ≤ (C : Int) - 127 := by
  obtain ⟨m, k, e, r, b, c, z⟩ := read_small h h1 h2
  refine ⟨_, m, k, e, r, ?_, b, c⟩
  cases hs : sgnB x
  · left; exact hs
  · right
    have := rk_neg hs
    exact z.2 (by omega)
theorem nearest_nn (s : Bool) (m : Nat) (e : Int) (h : s = false ∨ m = 0) : 0 ≤ rk (Ieee.single.nearest s m e) := by
  rcases h with h | h
  · rw [rk_pos (by rw [sgnB_nearest, h])]
    omega
  · subst h
    unfold Ieee.Format.nearest
    rw [if_pos rfl]
    cases s <;> decide +kernel
theorem nearest_zero (s : Bool) (e : Int) : rk (Ieee.single.nearest s 0 e) = 0 := by
  unfold Ieee.Format.nearest
  rw [if_pos rfl]
  cases s <;> decide +kernel
theorem mul_nn {x y r A B : Nat} (hx : rg x < A * 8388608) (hy : rg y < B * 8388608) (hA : 1 ≤ A) (hB : 1 ≤ B) (hA2 : A ≤ 255) (hB2 : B ≤ 255) (nx : 0 ≤ rk x) (ny : 0 ≤ rk y) (h : floatBits .mul .f32 x y = some r) : 0 ≤ rk r := by
  obtain ⟨s, m, k, e, r1, z1, _⟩ := nn_read hx hA hA2 nx
  obtain ⟨t, n, l, f, r2, z2, _⟩ := nn_read hy hB hB2 ny
  simp only [floatBits, FloatKind.format, Ieee.Format.mul, r1, r2, Ieee.Datum.product, Option.map_some, Option.some.injEq] at h
  subst h
  refine nearest_nn _ _ _ ?_
  rcases z1 with rfl | rfl
  · rcases z2 with rfl | rfl
    · exact .inl rfl
    · exact .inr (Nat.mul_zero _)
  · exact .inr (Nat.zero_mul _)
theorem quo_nn {x y r A B : Nat} (hx : rg x < A * 8388608) (hy : rg y < B * 8388608) (hA : 1 ≤ A) (hB : 1 ≤ B) (hA2 : A ≤ 255) (hB2 : B ≤ 255) (nx : 0 ≤ rk x) (ny : 0 < rk y) (h : floatBits .quo .f32 x y = some r) : 0 ≤ rk r := by
  obtain ⟨s, m, k, e, r1, z1, _⟩ := nn_read hx hA hA2 nx
  obtain ⟨n, l, f, r2, _, _, z2⟩ := read_small hy hB hB2
  have hs : (y / 2147483648 % 2 == 1) = false := by
    cases hs : sgnB y
    · exact hs
    · have := rk_neg hs
      omega
  rw [hs] at r2
  have n0 : n ≠ 0 := fun h0 => by
    have := rk_pos (x := y) hs
    have := z2.1 h0
    omega
  simp only [floatBits, FloatKind.format, Ieee.Format.div, r1, r2, Ieee.Datum.quotient] at h
  rw [if_neg n0] at h
  simp only [Option.map_some, Option.some.injEq] at h
  subst h
  refine nearest_nn _ _ _ ?_
  rcases z1 with rfl | rfl
  · exact .inl rfl
  · right
    simp
theorem signed_nn {s : Bool} {m u : Nat} (h : s = false ∨ m = 0) : Ieee.signed s m u = ((m * 2 ^ u : Nat) : Int) := by
  unfold Ieee.signed
  rw [Nat.shiftLeft_eq]
  rcases h with rfl | rfl
  · rfl
  · simp
theorem add_nn {x y r A B : Nat} (hx : rg x < A * 8388608) (hy : rg y < B * 8388608) (hA : 1 ≤ A) (hB : 1 ≤ B) (hA2 : A ≤ 255) (hB2 : B ≤ 255) (nx : 0 ≤ rk x) (ny : 0 ≤ rk y) (h : floatBits .add .f32 x y = some r) : 0 ≤ rk r := by
  obtain ⟨s, m, k, e, r1, z1, _⟩ := nn_read hx hA hA2 nx
  obtain ⟨t, n, l, f, r2, z2, _⟩ := nn_read hy hB hB2 ny
  simp only [floatBits, FloatKind.format, Ieee.Format.add, r1, r2, Ieee.Datum.sum, Option.map_some, Option.some.injEq] at h
  subst h
  refine nearest_nn _ _ _ ?_
  rw [signed_nn z1, signed_nn z2]
  generalize m * 2 ^ (e - min e f).toNat = a
  generalize n * 2 ^ (f - min e f).toNat = b
  by_cases h0 : ((a : Nat) : Int) + ((b : Nat) : Int) = 0
  · right; rw [h0]; rfl
  · left
    rw [if_neg h0]
    exact decide_eq_false (by omega)
theorem signed_flip {s : Bool} {m u : Nat} (h : s = false ∨ m = 0) : Ieee.signed (!s) m u = -((m * 2 ^ u : Nat) : Int) := by
  unfold Ieee.signed
  rw [Nat.shiftLeft_eq]
  rcases h with rfl | rfl
  · rfl
  · simp
/-- What is left of a number behind a loss, or nought. -/
theorem sub_keep {x y r A B : Nat} (hx : rg x ≤ A * 8388608) (hy : rg y < B * 8388608) (hA : 1 ≤ A) (hB : 1 ≤ B) (hA2 : A ≤ 254) (hB2 : B ≤ 255) (nx : 0 ≤ rk x) (ny : 0 ≤ rk y) (h : floatBits .sub .f32 x y = some r) :
    (if oGt r 0 then rg r ≤ A * 8388608 else True) := by
  obtain ⟨m, k, e, r1, b1, c1, _⟩ := read_small' hx hA hA2
  obtain ⟨s', m', k', e', r1', z1', _⟩ := nn_read (C := A + 1) (by omega) (by omega) (by omega) nx
  rw [r1'] at r1
  injection r1 with q1 q2 q3
  obtain ⟨t, n, l, f, r2, z2, _⟩ := nn_read hy hB hB2 ny
  have hnan := floatBits_notNan h
  simp only [floatBits, FloatKind.format, Ieee.Format.sub, r1', r2, Ieee.Datum.opposite, Ieee.Datum.sum, Option.map_some, Option.some.injEq] at h
  rw [signed_nn z1', signed_flip z2] at h
  subst q2 q3
  have hX : m' * 2 ^ (e' - min e' f).toNat ≤ 2 ^ (k + (e' - min e' f).toNat) := by
    rw [Nat.pow_add]
    exact Nat.mul_le_mul_right _ b1
  generalize hX' : m' * 2 ^ (e' - min e' f).toNat = X at *
  generalize n * 2 ^ (f - min e' f).toNat = Y at *
  split
  · rename_i hg
    rw [oGt_rk hnan nan_zero] at hg
    have hg' : rk 0 < rk r := of_decide_eq_true hg
    rw [show rk 0 = 0 from rfl] at hg'
    subst h
    by_cases hpos : 0 < ((X : Nat) : Int) + -((Y : Nat) : Int)
    · refine nearest_le' _ (k := k + (e' - min e' f).toNat) ?_ ?_ hA hA2
      · omega
      · omega
    · exfalso
      by_cases h0 : ((X : Nat) : Int) + -((Y : Nat) : Int) = 0
      · rw [h0] at hg'
        simp only [if_true] at hg'
        have hg2 : 0 < rk (Ieee.single.nearest (s' && !t) 0 (min e' f)) := hg'
        rw [nearest_zero] at hg2
        omega
      · have hneg : sgnB (Ieee.single.write (Ieee.Datum.number (if ((X : Nat) : Int) + -((Y : Nat) : Int) = 0 then s' && !t else decide (((X : Nat) : Int) + -((Y : Nat) : Int) < 0)) (((X : Nat) : Int) + -((Y : Nat) : Int)).natAbs (min e' f))) = true := by
          rw [if_neg h0]
          show sgnB (Ieee.single.nearest _ _ _) = true
          rw [sgnB_nearest]
          exact decide_eq_true (by omega)
        have := rk_neg hneg
        omega
  · trivial
end Go.Proofs.Ytjkgiknklkfipaa
