/-
  A line at rest: all discs swing by one, and no shaft is twisted.
-/
import Derived.Test.YtaodpopghacmaaaDoorDsg
import Derived.Test.YtaodpopghacmaaaDoorLnd
import Derived.Test.YtaodpopghacmaaaDoorMin
namespace Go.Proofs.YtaodpopghacmaaaDoor
open Go
set_option linter.unusedVariables false
set_option linter.unusedSimpArgs false
theorem word_in {x lo hi : Nat} (hx : x < 4294967296) (h1 : oGe x lo = true) (h2 : oLe x hi = true) (hl : lo < 2147483648) (hh : hi < 2139095040) (h8 : 8388608 ≤ lo) : 8388608 ≤ x ∧ x < 2139095040 ∧ cn x = x := by
  obtain ⟨n, r1, r2, r3⟩ := between h1 h2 hl (by omega)
  have h4 := word_of_rk hx (by rw [r3]; omega)
  rw [r3] at h4
  exact ⟨by omega, by omega, cn_of_not n⟩
theorem okD_words {d : Dc} (h : okD d = true) (hw : d.wf) : (8388608 ≤ d.i ∧ d.i < 2139095040 ∧ cn d.i = d.i) ∧ (8388608 ≤ d.s ∧ d.s < 2139095040 ∧ cn d.s = d.s) := by
  unfold okD at h
  simp only [Bool.and_eq_true] at h
  exact ⟨word_in hw.1 h.1 h.2.1 (by decide) (by decide) (by decide), word_in hw.2 h.2.2.1 h.2.2.2 (by decide) (by decide) (by decide)⟩
theorem at_rest {ds : List Dc} (h : ∀ d ∈ ds, okD d = true ∧ d.wf) : ∀ k, k < ds.length → bef ds 0 (k + 1) = (cn 1065353216, 0)
  | 0, hk => by
    obtain ⟨d, hd⟩ : ∃ d, ds[0]? = some d := ⟨_, List.getElem?_eq_getElem hk⟩
    obtain ⟨⟨i1, i2, i3⟩, _⟩ := okD_words (h d (List.mem_of_getElem? hd)).1 (h d (List.mem_of_getElem? hd)).2
    rw [bef_first, getD_of hd, i3, z_cn, z_mul i1 i2, z_one, z_sub2]
  | k + 1, hk => by
    have ih := at_rest h k (by omega)
    obtain ⟨d, hd⟩ : ∃ d, ds[k]? = some d := ⟨_, List.getElem?_eq_getElem (by omega)⟩
    obtain ⟨d', hd'⟩ : ∃ d, ds[k + 1]? = some d := ⟨_, List.getElem?_eq_getElem hk⟩
    obtain ⟨_, s1, s2, s3⟩ := okD_words (h d (List.mem_of_getElem? hd)).1 (h d (List.mem_of_getElem? hd)).2
    obtain ⟨⟨i1, i2, i3⟩, _⟩ := okD_words (h d' (List.mem_of_getElem? hd')).1 (h d' (List.mem_of_getElem? hd')).2
    rw [bef_next, ih, getD_of hd, getD_of hd', i3, s3]
    dsimp only
    rw [z_cn, z_mul i1 i2, z_quo s1 s2, z_add, z_one, z_sub2]
/-- At rest all swings are one. -/
theorem rest_sw {ds : List Dc} (h : ∀ d ∈ ds, okD d = true ∧ d.wf) {k : Nat} (hk : k < ds.length) : swC ds 0 k = cn 1065353216 := by unfold swC; rw [at_rest h k hk]
/-- At rest no shaft is twisted. -/
theorem rest_tw {ds : List Dc} (h : ∀ d ∈ ds, okD d = true ∧ d.wf) {k : Nat} (hk : k < ds.length) : twC ds 0 k = 0 := by unfold twC; rw [at_rest h k hk]
/-- The first swing is one. -/
theorem first_sw (ds : List Dc) (q : Nat) : swC ds q 0 = cn 1065353216 := rfl
end Go.Proofs.YtaodpopghacmaaaDoor
