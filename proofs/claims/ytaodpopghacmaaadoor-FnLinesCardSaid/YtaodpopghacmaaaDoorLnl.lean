/-
  Lone speeds: the last twist, halvings, codes; what both sides share.
-/
import Derived.Test.YtaodpopghacmaaaDoorLnj
import Derived.Test.YtaodpopghacmaaaDoorMin
namespace Go.Proofs.YtaodpopghacmaaaDoor
open Go.RowKit Go.ChangeShapes Go.WideShapes Go.Deep
attribute [local go_sem ↓] Go.wp_at_zero Go.wp_at_succ
set_option linter.unusedVariables false
set_option linter.unusedSimpArgs false
set_option maxRecDepth 100000
/-- The last twist of a line. -/
def lst (ds : List Dc) (q : Nat) : Nat := twC ds q (ds.length - 1)
theorem bef_cn (ds : List Dc) {q q' : Nat} (h : cn q = cn q') : ∀ k, bef ds q k = bef ds q' k
  | 0 => rfl
  | k + 1 => by rw [bef, bef, bef_cn ds h k, h]
theorem lst_cn (ds : List Dc) {q q' : Nat} (h : cn q = cn q') : lst ds q = lst ds q' := by
  unfold lst twC
  rw [bef_cn ds h]
theorem cn_lst (ds : List Dc) (q : Nat) : cn (lst ds q) = lst ds q := by
  unfold lst twC
  rw [bef]
  exact cn_f2 _ _ _
/-- One halving: the lower end moves where the sign is that of S. -/
def loneStep (ds : List Dc) (S : Nat) (p : Nat × Nat) : Nat × Nat :=
  if akB (lst ds (f2 .quo (f2 .add p.1 p.2) (cn 1073741824))) S then (f2 .quo (f2 .add p.1 p.2) (cn 1073741824), p.2) else (p.1, f2 .quo (f2 .add p.1 p.2) (cn 1073741824))
def loneN (ds : List Dc) (S : Nat) : Nat → Nat × Nat → Nat × Nat
  | 0, p => p
  | k + 1, p => loneStep ds S (loneN ds S k p)
theorem lone_step {ds : List Dc} {S k lo hi m r : Nat} {p : Nat × Nat} (h : (cn lo, cn hi) = loneN ds S k p) (hm : cn m = f2 .quo (f2 .add (cn lo) (cn hi)) (cn 1073741824)) (hr : cn r = lst ds m) :
    loneN ds S (k + 1) p = if akB r S then (cn m, cn hi) else (cn lo, cn m) := by
  show loneStep ds S (loneN ds S k p) = _
  rw [← h]
  unfold loneStep
  dsimp only
  rw [← hm, show lst ds (cn m) = lst ds m from lst_cn ds (cn_cn m), ← hr, show akB (cn r) S = akB r S from akB_cn (cn_cn r) rfl]
/-- Two numbers have the same signs, or none. -/
def Sg (x y : Nat) : Prop := oLt x 0 = oLt y 0 ∧ oGt x 0 = oGt y 0
theorem Sg.cn {x y x' y' : Nat} (h : Sg x y) (hx : Proofs.YtaodpopghacmaaaDoor.cn x = Proofs.YtaodpopghacmaaaDoor.cn x') (hy : Proofs.YtaodpopghacmaaaDoor.cn y = Proofs.YtaodpopghacmaaaDoor.cn y') : Sg x' y' := by
  unfold Sg at *
  rw [← oLt_cn hx (rfl : Proofs.YtaodpopghacmaaaDoor.cn 0 = Proofs.YtaodpopghacmaaaDoor.cn 0), ← oLt_cn hy (rfl : Proofs.YtaodpopghacmaaaDoor.cn 0 = Proofs.YtaodpopghacmaaaDoor.cn 0), ← oGt_cn hx (rfl : Proofs.YtaodpopghacmaaaDoor.cn 0 = Proofs.YtaodpopghacmaaaDoor.cn 0), ← oGt_cn hy (rfl : Proofs.YtaodpopghacmaaaDoor.cn 0 = Proofs.YtaodpopghacmaaaDoor.cn 0)]
  exact h
theorem ak_sg {x y S : Nat} (h : Sg y S) : akB x y = akB x S := by
  unfold akB
  rw [h.1, h.2]
theorem lt_not_gt {x : Nat} (h : oLt x 0 = true) : oGt x 0 = false := by
  unfold oLt at h
  unfold oGt
  have h1 : FloatKind.f32.format.order x 0 = some .lt := by simpa using h
  rw [h1]
  rfl
theorem sg_of_ak {x S : Nat} (h : akB x S = true) : Sg x S := by
  unfold akB at h
  have h' : (oLt x 0 = true ∧ oLt S 0 = true) ∨ (oGt x 0 = true ∧ oGt S 0 = true) := by simpa using h
  rcases h' with ⟨h1, h2⟩ | ⟨h1, h2⟩
  · exact ⟨h1.trans h2.symm, (lt_not_gt h1).trans (lt_not_gt h2).symm⟩
  · refine ⟨?_, h1.trans h2.symm⟩
    have e : ∀ z, oGt z 0 = true → oLt z 0 = false := fun z hz => by
      cases hc : oLt z 0
      · rfl
      · rw [lt_not_gt hc] at hz
        cases hz
    exact (e x h1).trans (e S h2).symm
/-- Of two numbers that are none less than nought: the one is not less than the other where it is at least as great. -/
theorem ge_lt {x y : Nat} (hx : psB x = true) (hy : psB y = true) : oGe x y = !oLt x y := by
  have n1 : nan32 x = false := by
    unfold psB at hx
    exact (oGe_rk (by simp at hx; exact hx.1)).1
  have n2 : nan32 y = false := by
    unfold psB at hy
    exact (oGe_rk (by simp at hy; exact hy.1)).1
  unfold oGe oLt
  rw [ord_rk n1 n2]
  cases compare (rk x) (rk y) <;> rfl
def inR (lo hi : Nat) : Bool := psB lo && (psB hi && oLt lo hi)
def codeO (ds : List Dc) (lo hi : Nat) : Int := if okLine ds then (if inR lo hi then (if apB (lst ds lo) (lst ds hi) then 0 else 6) else 2) else 1
def loneC (ds : List Dc) (lo hi : Nat) : Nat := if codeO ds lo hi = 0 then (loneN ds (lst ds lo) 40 (cn lo, cn hi)).1 else cn 0
end Go.Proofs.YtaodpopghacmaaaDoor
