/-
  A lone speed lies between those between which it is looked for, and the last twist has the sign there that it has at the lower one.
-/
import Derived.Test.YtaodpopghacmaaaDoorLnl
import Derived.Test.YtaodpopghacmaaaDoorRn
namespace Go.Proofs.YtaodpopghacmaaaDoor
open Go.RowKit Go.ChangeShapes Go.WideShapes Go.Deep
set_option linter.unusedVariables false
set_option linter.unusedSimpArgs false
theorem cn_small {x : Nat} (h : x ≤ 2139095040) : cn x = x := cn_of_not (nan_rg (by unfold rg; omega))
theorem mid_f2 {l h : Nat} (h1 : 8388608 ≤ l) (h2 : l ≤ h) (h3 : h ≤ 1233125376) : l ≤ f2 .quo (f2 .add l h) (cn 1073741824) ∧ f2 .quo (f2 .add l h) (cn 1073741824) ≤ h := by
  obtain ⟨s, m, hs, hm, a, b⟩ := mid_in h1 h2 h3
  have e1 : f2 .add l h = s := by unfold f2; rw [hs]; rfl
  have e2 : f2 .quo s (cn 1073741824) = m := by rw [cn_small (by decide)]; unfold f2; rw [hm]; rfl
  rw [e1, e2]
  exact ⟨a, b⟩
theorem lone_between (ds : List Dc) (S : Nat) {lo hi : Nat} (h1 : 8388608 ≤ lo) (h2 : lo < hi) (h3 : hi ≤ 1233125376) (hl : akB (lst ds lo) S = true) (hh : akB (lst ds hi) S = false) :
    ∀ k, lo ≤ (loneN ds S k (lo, hi)).1 ∧ (loneN ds S k (lo, hi)).1 < (loneN ds S k (lo, hi)).2 ∧ (loneN ds S k (lo, hi)).2 ≤ hi ∧ akB (lst ds (loneN ds S k (lo, hi)).1) S = true ∧ akB (lst ds (loneN ds S k (lo, hi)).2) S = false
  | 0 => ⟨Nat.le_refl _, h2, Nat.le_refl _, hl, hh⟩
  | k + 1 => by
    obtain ⟨a, b, c, d, e⟩ := lone_between ds S h1 h2 h3 hl hh k
    rw [loneN]
    generalize loneN ds S k (lo, hi) = p at *
    obtain ⟨l, h⟩ := p
    dsimp only at a b c d e
    unfold loneStep
    dsimp only
    obtain ⟨m1, m2⟩ := mid_f2 (l := l) (h := h) (by omega) (by omega) (by omega)
    generalize f2 .quo (f2 .add l h) (cn 1073741824) = m at *
    cases hm : akB (lst ds m) S
    · rw [if_neg (by decide)]
      refine ⟨a, ?_, Nat.le_trans m2 c, d, hm⟩
      rcases Nat.lt_or_ge l m with h5 | h5
      · exact h5
      · have : l = m := by omega
        subst this
        rw [d] at hm
        cases hm
    · rw [if_pos rfl]
      refine ⟨Nat.le_trans a m1, ?_, c, hm, e⟩
      rcases Nat.lt_or_ge m h with h5 | h5
      · exact h5
      · have : m = h := by omega
        subst this
        rw [e] at hm
        cases hm
theorem ak_of_ap {x y : Nat} (h : apB x y = true) : akB x x = true ∧ akB y x = false := by
  unfold apB at h
  unfold akB
  have h' : (oLt x 0 = true ∧ oGt y 0 = true) ∨ (oGt x 0 = true ∧ oLt y 0 = true) := by simpa using h
  rcases h' with ⟨h1, h2⟩ | ⟨h1, h2⟩
  · have e1 := lt_not_gt h1
    have e2 : oLt y 0 = false := by
      cases hc : oLt y 0
      · rfl
      · rw [lt_not_gt hc] at h2; cases h2
    rw [h1, h2, e1, e2]
    exact ⟨rfl, rfl⟩
  · have e1 := lt_not_gt h2
    have e2 : oLt x 0 = false := by
      cases hc : oLt x 0
      · rfl
      · rw [lt_not_gt hc] at h1; cases h1
    rw [h1, h2, e1, e2]
    exact ⟨rfl, rfl⟩
/-- The lone speed that is found. -/
theorem lone_found (ds : List Dc) {lo hi : Nat} (h1 : 8388608 ≤ lo) (h2 : lo < hi) (h3 : hi ≤ 1233125376) (ha : apB (lst ds lo) (lst ds hi) = true) :
    lo ≤ (loneN ds (lst ds lo) 40 (cn lo, cn hi)).1 ∧ (loneN ds (lst ds lo) 40 (cn lo, cn hi)).1 < hi ∧ akB (lst ds (loneN ds (lst ds lo) 40 (cn lo, cn hi)).1) (lst ds lo) = true := by
  obtain ⟨a, b⟩ := ak_of_ap ha
  rw [cn_small (show lo ≤ 2139095040 by omega), cn_small (show hi ≤ 2139095040 by omega)]
  obtain ⟨c1, c2, c3, c4, c5⟩ := lone_between ds (lst ds lo) h1 h2 h3 a b 40
  exact ⟨c1, by omega, c4⟩
theorem ak_sign {x S : Nat} (h : akB x S = true) : oLt x 0 = oLt S 0 ∧ oEq x 0 = false := by
  have s := sg_of_ak h
  refine ⟨s.1, ?_⟩
  unfold akB at h
  have h' : (oLt x 0 = true ∧ oLt S 0 = true) ∨ (oGt x 0 = true ∧ oGt S 0 = true) := by simpa using h
  unfold oEq
  rcases h' with ⟨h1, h2⟩ | ⟨h1, h2⟩
  · unfold oLt at h1
    have h3 : FloatKind.f32.format.order x 0 = some .lt := by simpa using h1
    rw [h3]; rfl
  · unfold oGt at h1
    have h3 : FloatKind.f32.format.order x 0 = some .gt := by simpa using h1
    rw [h3]; rfl
end Go.Proofs.YtaodpopghacmaaaDoor
