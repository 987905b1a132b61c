/-
  Swings, the program's: all of them.
-/
import Derived.Test.YtdpgfbmelnmkdabDoorSwd
import Derived.Test.YtdpgfbmelnmkdabDoorSwe
import Derived.Test.YtdpgfbmelnmkdabDoorAsb
import Derived.Deep.DeepCutAuto
namespace Go.Proofs.YtdpgfbmelnmkdabDoor
open Go.RowKit Go.ChangeShapes Go.WideShapes Go.Deep
attribute [local go_sem ↓] Go.wp_at_zero Go.wp_at_succ
set_option linter.unusedVariables false
set_option linter.unusedSimpArgs false
set_option maxRecDepth 100000

theorem bP_set {w : World} {q : Nat} {X Y : Nat → Nat} {t : TypeId} (k : Nat) (hk : k < 8) (x y : Nat) (h : Blk w q #[.float .f32 (X 0), .float .f32 (Y 0), .float .f32 (X 1), .float .f32 (Y 1), .float .f32 (X 2), .float .f32 (Y 2), .float .f32 (X 3), .float .f32 (Y 3), .float .f32 (X 4), .float .f32 (Y 4), .float .f32 (X 5), .float .f32 (Y 5), .float .f32 (X 6), .float .f32 (Y 6), .float .f32 (X 7), .float .f32 (Y 7)] t) : Blk ((w.setCell ⟨q, k * 2, none⟩ (.float .f32 x)).setCell ⟨q, k * 2 + 1, none⟩ (.float .f32 y)) q #[.float .f32 ((upd X k x) 0), .float .f32 ((upd Y k y) 0), .float .f32 ((upd X k x) 1), .float .f32 ((upd Y k y) 1), .float .f32 ((upd X k x) 2), .float .f32 ((upd Y k y) 2), .float .f32 ((upd X k x) 3), .float .f32 ((upd Y k y) 3), .float .f32 ((upd X k x) 4), .float .f32 ((upd Y k y) 4), .float .f32 ((upd X k x) 5), .float .f32 ((upd Y k y) 5), .float .f32 ((upd X k x) 6), .float .f32 ((upd Y k y) 6), .float .f32 ((upd X k x) 7), .float .f32 ((upd Y k y) 7)] t := by
  have h1 := (h.set (k * 2) (.float .f32 x)).set (k * 2 + 1) (.float .f32 y)
  have e : ((#[.float .f32 (X 0), .float .f32 (Y 0), .float .f32 (X 1), .float .f32 (Y 1), .float .f32 (X 2), .float .f32 (Y 2), .float .f32 (X 3), .float .f32 (Y 3), .float .f32 (X 4), .float .f32 (Y 4), .float .f32 (X 5), .float .f32 (Y 5), .float .f32 (X 6), .float .f32 (Y 6), .float .f32 (X 7), .float .f32 (Y 7)] : Array Value).setIfInBounds (k * 2) (.float .f32 x)).setIfInBounds (k * 2 + 1) (.float .f32 y) = #[.float .f32 ((upd X k x) 0), .float .f32 ((upd Y k y) 0), .float .f32 ((upd X k x) 1), .float .f32 ((upd Y k y) 1), .float .f32 ((upd X k x) 2), .float .f32 ((upd Y k y) 2), .float .f32 ((upd X k x) 3), .float .f32 ((upd Y k y) 3), .float .f32 ((upd X k x) 4), .float .f32 ((upd Y k y) 4), .float .f32 ((upd X k x) 5), .float .f32 ((upd Y k y) 5), .float .f32 ((upd X k x) 6), .float .f32 ((upd Y k y) 6), .float .f32 ((upd X k x) 7), .float .f32 ((upd Y k y) 7)] := by
    rcases (by omega : k = 0 ∨ k = 1 ∨ k = 2 ∨ k = 3 ∨ k = 4 ∨ k = 5 ∨ k = 6 ∨ k = 7) with rfl | rfl | rfl | rfl | rfl | rfl | rfl | rfl <;> rfl
  rw [e] at h1
  exact h1
theorem bP_get {w : World} {q : Nat} {X Y : Nat → Nat} {t : TypeId} (h : Blk w q #[.float .f32 (X 0), .float .f32 (Y 0), .float .f32 (X 1), .float .f32 (Y 1), .float .f32 (X 2), .float .f32 (Y 2), .float .f32 (X 3), .float .f32 (Y 3), .float .f32 (X 4), .float .f32 (Y 4), .float .f32 (X 5), .float .f32 (Y 5), .float .f32 (X 6), .float .f32 (Y 6), .float .f32 (X 7), .float .f32 (Y 7)] t) (k : Nat) (hk : k < 8) : w.cell? ⟨q, k * 2, none⟩ = some (.float .f32 (X k)) ∧ w.cell? ⟨q, k * 2 + 1, none⟩ = some (.float .f32 (Y k)) := by
  refine ⟨(h.cell _).trans ?_, (h.cell _).trans ?_⟩
  all_goals
    rcases (by omega : k = 0 ∨ k = 1 ∨ k = 2 ∨ k = 3 ∨ k = 4 ∨ k = 5 ∨ k = 6 ∨ k = 7) with rfl | rfl | rfl | rfl | rfl | rfl | rfl | rfl <;> rfl
theorem bP_whole {w : World} {q : Nat} {t : TypeId} {X0 Y0 : Nat → Nat} (X Y : Nat → Nat) (h : Blk w q #[.float .f32 (X0 0), .float .f32 (Y0 0), .float .f32 (X0 1), .float .f32 (Y0 1), .float .f32 (X0 2), .float .f32 (Y0 2), .float .f32 (X0 3), .float .f32 (Y0 3), .float .f32 (X0 4), .float .f32 (Y0 4), .float .f32 (X0 5), .float .f32 (Y0 5), .float .f32 (X0 6), .float .f32 (Y0 6), .float .f32 (X0 7), .float .f32 (Y0 7)] t) : Blk ((((((((((((((((w.setCell ⟨q, 0, none⟩ (.float .f32 (X 0))).setCell ⟨q, 1, none⟩ (.float .f32 (Y 0))).setCell ⟨q, 2, none⟩ (.float .f32 (X 1))).setCell ⟨q, 3, none⟩ (.float .f32 (Y 1))).setCell ⟨q, 4, none⟩ (.float .f32 (X 2))).setCell ⟨q, 5, none⟩ (.float .f32 (Y 2))).setCell ⟨q, 6, none⟩ (.float .f32 (X 3))).setCell ⟨q, 7, none⟩ (.float .f32 (Y 3))).setCell ⟨q, 8, none⟩ (.float .f32 (X 4))).setCell ⟨q, 9, none⟩ (.float .f32 (Y 4))).setCell ⟨q, 10, none⟩ (.float .f32 (X 5))).setCell ⟨q, 11, none⟩ (.float .f32 (Y 5))).setCell ⟨q, 12, none⟩ (.float .f32 (X 6))).setCell ⟨q, 13, none⟩ (.float .f32 (Y 6))).setCell ⟨q, 14, none⟩ (.float .f32 (X 7))).setCell ⟨q, 15, none⟩ (.float .f32 (Y 7))) q #[.float .f32 (X 0), .float .f32 (Y 0), .float .f32 (X 1), .float .f32 (Y 1), .float .f32 (X 2), .float .f32 (Y 2), .float .f32 (X 3), .float .f32 (Y 3), .float .f32 (X 4), .float .f32 (Y 4), .float .f32 (X 5), .float .f32 (Y 5), .float .f32 (X 6), .float .f32 (Y 6), .float .f32 (X 7), .float .f32 (Y 7)] t := by
  have h : Blk (w.setCell ⟨q, 0, none⟩ (.float .f32 (X 0))) q #[.float .f32 (X 0), .float .f32 (Y0 0), .float .f32 (X0 1), .float .f32 (Y0 1), .float .f32 (X0 2), .float .f32 (Y0 2), .float .f32 (X0 3), .float .f32 (Y0 3), .float .f32 (X0 4), .float .f32 (Y0 4), .float .f32 (X0 5), .float .f32 (Y0 5), .float .f32 (X0 6), .float .f32 (Y0 6), .float .f32 (X0 7), .float .f32 (Y0 7)] t := h.set 0 _
  generalize hW0 : (w.setCell ⟨q, 0, none⟩ (.float .f32 (X 0))) = W at h
  have h : Blk (W.setCell ⟨q, 1, none⟩ (.float .f32 (Y 0))) q #[.float .f32 (X 0), .float .f32 (Y 0), .float .f32 (X0 1), .float .f32 (Y0 1), .float .f32 (X0 2), .float .f32 (Y0 2), .float .f32 (X0 3), .float .f32 (Y0 3), .float .f32 (X0 4), .float .f32 (Y0 4), .float .f32 (X0 5), .float .f32 (Y0 5), .float .f32 (X0 6), .float .f32 (Y0 6), .float .f32 (X0 7), .float .f32 (Y0 7)] t := h.set 1 _
  generalize hW1 : (W.setCell ⟨q, 1, none⟩ (.float .f32 (Y 0))) = W at h
  have h : Blk (W.setCell ⟨q, 2, none⟩ (.float .f32 (X 1))) q #[.float .f32 (X 0), .float .f32 (Y 0), .float .f32 (X 1), .float .f32 (Y0 1), .float .f32 (X0 2), .float .f32 (Y0 2), .float .f32 (X0 3), .float .f32 (Y0 3), .float .f32 (X0 4), .float .f32 (Y0 4), .float .f32 (X0 5), .float .f32 (Y0 5), .float .f32 (X0 6), .float .f32 (Y0 6), .float .f32 (X0 7), .float .f32 (Y0 7)] t := h.set 2 _
  generalize hW2 : (W.setCell ⟨q, 2, none⟩ (.float .f32 (X 1))) = W at h
  have h : Blk (W.setCell ⟨q, 3, none⟩ (.float .f32 (Y 1))) q #[.float .f32 (X 0), .float .f32 (Y 0), .float .f32 (X 1), .float .f32 (Y 1), .float .f32 (X0 2), .float .f32 (Y0 2), .float .f32 (X0 3), .float .f32 (Y0 3), .float .f32 (X0 4), .float .f32 (Y0 4), .float .f32 (X0 5), .float .f32 (Y0 5), .float .f32 (X0 6), .float .f32 (Y0 6), .float .f32 (X0 7), .float .f32 (Y0 7)] t := h.set 3 _
  generalize hW3 : (W.setCell ⟨q, 3, none⟩ (.float .f32 (Y 1))) = W at h
  have h : Blk (W.setCell ⟨q, 4, none⟩ (.float .f32 (X 2))) q #[.float .f32 (X 0), .float .f32 (Y 0), .float .f32 (X 1), .float .f32 (Y 1), .float .f32 (X 2), .float .f32 (Y0 2), .float .f32 (X0 3), .float .f32 (Y0 3), .float .f32 (X0 4), .float .f32 (Y0 4), .float .f32 (X0 5), .float .f32 (Y0 5), .float .f32 (X0 6), .float .f32 (Y0 6), .float .f32 (X0 7), .float .f32 (Y0 7)] t := h.set 4 _
  generalize hW4 : (W.setCell ⟨q, 4, none⟩ (.float .f32 (X 2))) = W at h
  have h : Blk (W.setCell ⟨q, 5, none⟩ (.float .f32 (Y 2))) q #[.float .f32 (X 0), .float .f32 (Y 0), .float .f32 (X 1), .float .f32 (Y 1), .float .f32 (X 2), .float .f32 (Y 2), .float .f32 (X0 3), .float .f32 (Y0 3), .float .f32 (X0 4), .float .f32 (Y0 4), .float .f32 (X0 5), .float .f32 (Y0 5), .float .f32 (X0 6), .float .f32 (Y0 6), .float .f32 (X0 7), .float .f32 (Y0 7)] t := h.set 5 _
  generalize hW5 : (W.setCell ⟨q, 5, none⟩ (.float .f32 (Y 2))) = W at h
  have h : Blk (W.setCell ⟨q, 6, none⟩ (.float .f32 (X 3))) q #[.float .f32 (X 0), .float .f32 (Y 0), .float .f32 (X 1), .float .f32 (Y 1), .float .f32 (X 2), .float .f32 (Y 2), .float .f32 (X 3), .float .f32 (Y0 3), .float .f32 (X0 4), .float .f32 (Y0 4), .float .f32 (X0 5), .float .f32 (Y0 5), .float .f32 (X0 6), .float .f32 (Y0 6), .float .f32 (X0 7), .float .f32 (Y0 7)] t := h.set 6 _
  generalize hW6 : (W.setCell ⟨q, 6, none⟩ (.float .f32 (X 3))) = W at h
  have h : Blk (W.setCell ⟨q, 7, none⟩ (.float .f32 (Y 3))) q #[.float .f32 (X 0), .float .f32 (Y 0), .float .f32 (X 1), .float .f32 (Y 1), .float .f32 (X 2), .float .f32 (Y 2), .float .f32 (X 3), .float .f32 (Y 3), .float .f32 (X0 4), .float .f32 (Y0 4), .float .f32 (X0 5), .float .f32 (Y0 5), .float .f32 (X0 6), .float .f32 (Y0 6), .float .f32 (X0 7), .float .f32 (Y0 7)] t := h.set 7 _
  generalize hW7 : (W.setCell ⟨q, 7, none⟩ (.float .f32 (Y 3))) = W at h
  have h : Blk (W.setCell ⟨q, 8, none⟩ (.float .f32 (X 4))) q #[.float .f32 (X 0), .float .f32 (Y 0), .float .f32 (X 1), .float .f32 (Y 1), .float .f32 (X 2), .float .f32 (Y 2), .float .f32 (X 3), .float .f32 (Y 3), .float .f32 (X 4), .float .f32 (Y0 4), .float .f32 (X0 5), .float .f32 (Y0 5), .float .f32 (X0 6), .float .f32 (Y0 6), .float .f32 (X0 7), .float .f32 (Y0 7)] t := h.set 8 _
  generalize hW8 : (W.setCell ⟨q, 8, none⟩ (.float .f32 (X 4))) = W at h
  have h : Blk (W.setCell ⟨q, 9, none⟩ (.float .f32 (Y 4))) q #[.float .f32 (X 0), .float .f32 (Y 0), .float .f32 (X 1), .float .f32 (Y 1), .float .f32 (X 2), .float .f32 (Y 2), .float .f32 (X 3), .float .f32 (Y 3), .float .f32 (X 4), .float .f32 (Y 4), .float .f32 (X0 5), .float .f32 (Y0 5), .float .f32 (X0 6), .float .f32 (Y0 6), .float .f32 (X0 7), .float .f32 (Y0 7)] t := h.set 9 _
  generalize hW9 : (W.setCell ⟨q, 9, none⟩ (.float .f32 (Y 4))) = W at h
  have h : Blk (W.setCell ⟨q, 10, none⟩ (.float .f32 (X 5))) q #[.float .f32 (X 0), .float .f32 (Y 0), .float .f32 (X 1), .float .f32 (Y 1), .float .f32 (X 2), .float .f32 (Y 2), .float .f32 (X 3), .float .f32 (Y 3), .float .f32 (X 4), .float .f32 (Y 4), .float .f32 (X 5), .float .f32 (Y0 5), .float .f32 (X0 6), .float .f32 (Y0 6), .float .f32 (X0 7), .float .f32 (Y0 7)] t := h.set 10 _
  generalize hW10 : (W.setCell ⟨q, 10, none⟩ (.float .f32 (X 5))) = W at h
  have h : Blk (W.setCell ⟨q, 11, none⟩ (.float .f32 (Y 5))) q #[.float .f32 (X 0), .float .f32 (Y 0), .float .f32 (X 1), .float .f32 (Y 1), .float .f32 (X 2), .float .f32 (Y 2), .float .f32 (X 3), .float .f32 (Y 3), .float .f32 (X 4), .float .f32 (Y 4), .float .f32 (X 5), .float .f32 (Y 5), .float .f32 (X0 6), .float .f32 (Y0 6), .float .f32 (X0 7), .float .f32 (Y0 7)] t := h.set 11 _
  generalize hW11 : (W.setCell ⟨q, 11, none⟩ (.float .f32 (Y 5))) = W at h
  have h : Blk (W.setCell ⟨q, 12, none⟩ (.float .f32 (X 6))) q #[.float .f32 (X 0), .float .f32 (Y 0), .float .f32 (X 1), .float .f32 (Y 1), .float .f32 (X 2), .float .f32 (Y 2), .float .f32 (X 3), .float .f32 (Y 3), .float .f32 (X 4), .float .f32 (Y 4), .float .f32 (X 5), .float .f32 (Y 5), .float .f32 (X 6), .float .f32 (Y0 6), .float .f32 (X0 7), .float .f32 (Y0 7)] t := h.set 12 _
  generalize hW12 : (W.setCell ⟨q, 12, none⟩ (.float .f32 (X 6))) = W at h
  have h : Blk (W.setCell ⟨q, 13, none⟩ (.float .f32 (Y 6))) q #[.float .f32 (X 0), .float .f32 (Y 0), .float .f32 (X 1), .float .f32 (Y 1), .float .f32 (X 2), .float .f32 (Y 2), .float .f32 (X 3), .float .f32 (Y 3), .float .f32 (X 4), .float .f32 (Y 4), .float .f32 (X 5), .float .f32 (Y 5), .float .f32 (X 6), .float .f32 (Y 6), .float .f32 (X0 7), .float .f32 (Y0 7)] t := h.set 13 _
  generalize hW13 : (W.setCell ⟨q, 13, none⟩ (.float .f32 (Y 6))) = W at h
  have h : Blk (W.setCell ⟨q, 14, none⟩ (.float .f32 (X 7))) q #[.float .f32 (X 0), .float .f32 (Y 0), .float .f32 (X 1), .float .f32 (Y 1), .float .f32 (X 2), .float .f32 (Y 2), .float .f32 (X 3), .float .f32 (Y 3), .float .f32 (X 4), .float .f32 (Y 4), .float .f32 (X 5), .float .f32 (Y 5), .float .f32 (X 6), .float .f32 (Y 6), .float .f32 (X 7), .float .f32 (Y0 7)] t := h.set 14 _
  generalize hW14 : (W.setCell ⟨q, 14, none⟩ (.float .f32 (X 7))) = W at h
  have h : Blk (W.setCell ⟨q, 15, none⟩ (.float .f32 (Y 7))) q #[.float .f32 (X 0), .float .f32 (Y 0), .float .f32 (X 1), .float .f32 (Y 1), .float .f32 (X 2), .float .f32 (Y 2), .float .f32 (X 3), .float .f32 (Y 3), .float .f32 (X 4), .float .f32 (Y 4), .float .f32 (X 5), .float .f32 (Y 5), .float .f32 (X 6), .float .f32 (Y 6), .float .f32 (X 7), .float .f32 (Y 7)] t := h.set 15 _
  subst hW14
  subst hW13
  subst hW12
  subst hW11
  subst hW10
  subst hW9
  subst hW8
  subst hW7
  subst hW6
  subst hW5
  subst hW4
  subst hW3
  subst hW2
  subst hW1
  subst hW0
  exact h
theorem bP_other {w : World} {q p : Nat} {t : TypeId} {cs : Array Value} (X Y : Nat → Nat) (h : Blk w p cs t) (hne : p ≠ q) : Blk ((((((((((((((((w.setCell ⟨q, 0, none⟩ (.float .f32 (X 0))).setCell ⟨q, 1, none⟩ (.float .f32 (Y 0))).setCell ⟨q, 2, none⟩ (.float .f32 (X 1))).setCell ⟨q, 3, none⟩ (.float .f32 (Y 1))).setCell ⟨q, 4, none⟩ (.float .f32 (X 2))).setCell ⟨q, 5, none⟩ (.float .f32 (Y 2))).setCell ⟨q, 6, none⟩ (.float .f32 (X 3))).setCell ⟨q, 7, none⟩ (.float .f32 (Y 3))).setCell ⟨q, 8, none⟩ (.float .f32 (X 4))).setCell ⟨q, 9, none⟩ (.float .f32 (Y 4))).setCell ⟨q, 10, none⟩ (.float .f32 (X 5))).setCell ⟨q, 11, none⟩ (.float .f32 (Y 5))).setCell ⟨q, 12, none⟩ (.float .f32 (X 6))).setCell ⟨q, 13, none⟩ (.float .f32 (Y 6))).setCell ⟨q, 14, none⟩ (.float .f32 (X 7))).setCell ⟨q, 15, none⟩ (.float .f32 (Y 7))) p cs t := by
  refine Blk.setO ?_ hne 15 _
  refine Blk.setO ?_ hne 14 _
  refine Blk.setO ?_ hne 13 _
  refine Blk.setO ?_ hne 12 _
  refine Blk.setO ?_ hne 11 _
  refine Blk.setO ?_ hne 10 _
  refine Blk.setO ?_ hne 9 _
  refine Blk.setO ?_ hne 8 _
  refine Blk.setO ?_ hne 7 _
  refine Blk.setO ?_ hne 6 _
  refine Blk.setO ?_ hne 5 _
  refine Blk.setO ?_ hne 4 _
  refine Blk.setO ?_ hne 3 _
  refine Blk.setO ?_ hne 2 _
  refine Blk.setO ?_ hne 1 _
  refine Blk.setO ?_ hne 0 _
  exact h
theorem bP_below {w a : World} {q B : Nat} (X Y : Nat → Nat) (h : Below B a w) (hq : B ≤ q) : Below B a ((((((((((((((((w.setCell ⟨q, 0, none⟩ (.float .f32 (X 0))).setCell ⟨q, 1, none⟩ (.float .f32 (Y 0))).setCell ⟨q, 2, none⟩ (.float .f32 (X 1))).setCell ⟨q, 3, none⟩ (.float .f32 (Y 1))).setCell ⟨q, 4, none⟩ (.float .f32 (X 2))).setCell ⟨q, 5, none⟩ (.float .f32 (Y 2))).setCell ⟨q, 6, none⟩ (.float .f32 (X 3))).setCell ⟨q, 7, none⟩ (.float .f32 (Y 3))).setCell ⟨q, 8, none⟩ (.float .f32 (X 4))).setCell ⟨q, 9, none⟩ (.float .f32 (Y 4))).setCell ⟨q, 10, none⟩ (.float .f32 (X 5))).setCell ⟨q, 11, none⟩ (.float .f32 (Y 5))).setCell ⟨q, 12, none⟩ (.float .f32 (X 6))).setCell ⟨q, 13, none⟩ (.float .f32 (Y 6))).setCell ⟨q, 14, none⟩ (.float .f32 (X 7))).setCell ⟨q, 15, none⟩ (.float .f32 (Y 7))) := by
  refine Below.setCell (p := ⟨q, 15, none⟩) ?_ hq _
  refine Below.setCell (p := ⟨q, 14, none⟩) ?_ hq _
  refine Below.setCell (p := ⟨q, 13, none⟩) ?_ hq _
  refine Below.setCell (p := ⟨q, 12, none⟩) ?_ hq _
  refine Below.setCell (p := ⟨q, 11, none⟩) ?_ hq _
  refine Below.setCell (p := ⟨q, 10, none⟩) ?_ hq _
  refine Below.setCell (p := ⟨q, 9, none⟩) ?_ hq _
  refine Below.setCell (p := ⟨q, 8, none⟩) ?_ hq _
  refine Below.setCell (p := ⟨q, 7, none⟩) ?_ hq _
  refine Below.setCell (p := ⟨q, 6, none⟩) ?_ hq _
  refine Below.setCell (p := ⟨q, 5, none⟩) ?_ hq _
  refine Below.setCell (p := ⟨q, 4, none⟩) ?_ hq _
  refine Below.setCell (p := ⟨q, 3, none⟩) ?_ hq _
  refine Below.setCell (p := ⟨q, 2, none⟩) ?_ hq _
  refine Below.setCell (p := ⟨q, 1, none⟩) ?_ hq _
  refine Below.setCell (p := ⟨q, 0, none⟩) ?_ hq _
  exact h
theorem ret_p8 {fn : Func} {tmps : Array Value} {W : World} {q s s' : Nat} {t : TypeId} {v : Value} (X Y : Nat → Nat) (hr : fn.results = #[.cell s t, .tmp s']) (h2 : tmps.getD s undef = .pointer (some ⟨q, 0, none⟩)) (h3 : tmps.getD s' undef = v) (Z : Blk W q #[.float .f32 (X 0), .float .f32 (Y 0), .float .f32 (X 1), .float .f32 (Y 1), .float .f32 (X 2), .float .f32 (Y 2), .float .f32 (X 3), .float .f32 (Y 3), .float .f32 (X 4), .float .f32 (Y 4), .float .f32 (X 5), .float .f32 (Y 5), .float .f32 (X 6), .float .f32 (Y 6), .float .f32 (X 7), .float .f32 (Y 7)] t) (hi : (Tryd.prog.info? t).map (·.size) = some 16 := by kernel_rfl) (hg : ∀ w, (isAgg t).run Tryd.prog w = .ok true w := by (intro w; kernel_rfl)) :
    (results fn tmps).run Tryd.prog W = .ok (.tuple #[.agg #[.float .f32 (X 0), .float .f32 (Y 0), .float .f32 (X 1), .float .f32 (Y 1), .float .f32 (X 2), .float .f32 (Y 2), .float .f32 (X 3), .float .f32 (Y 3), .float .f32 (X 4), .float .f32 (Y 4), .float .f32 (X 5), .float .f32 (Y 5), .float .f32 (X 6), .float .f32 (Y 6), .float .f32 (X 7), .float .f32 (Y 7)], v]) W := by
  have e0 := Z.cell 0; have e1 := Z.cell 1; have e2 := Z.cell 2; have e3 := Z.cell 3; have e4 := Z.cell 4; have e5 := Z.cell 5; have e6 := Z.cell 6; have e7 := Z.cell 7; have e8 := Z.cell 8; have e9 := Z.cell 9; have e10 := Z.cell 10; have e11 := Z.cell 11; have e12 := Z.cell 12; have e13 := Z.cell 13; have e14 := Z.cell 14; have e15 := Z.cell 15
  simp at e0 e1 e2 e3 e4 e5 e6 e7 e8 e9 e10 e11 e12 e13 e14 e15
  rw [Array.getD_eq_getD_getElem?] at h2 h3
  obtain ⟨i0, hi0, hs0⟩ := Option.map_eq_some_iff.1 hi
  simp [results, hr, h2, h3, go_sem, loadVar, hg, sizeOf, typeInfo, hi0, hs0, loadCells, loadCellsFrom, e0, e1, e2, e3, e4, e5, e6, e7, e8, e9, e10, e11, e12, e13, e14, e15]
theorem index_p8 (X Y : Nat → Nat) (k : Nat) (h : k < 8) (w : World) : (Instr.index 57 (.agg #[.float .f32 (X 0), .float .f32 (Y 0), .float .f32 (X 1), .float .f32 (Y 1), .float .f32 (X 2), .float .f32 (Y 2), .float .f32 (X 3), .float .f32 (Y 3), .float .f32 (X 4), .float .f32 (Y 4), .float .f32 (X 5), .float .f32 (Y 5), .float .f32 (X 6), .float .f32 (Y 6), .float .f32 (X 7), .float .f32 (Y 7)]) (.int .i64 (k : Int))).run Tryd.prog w = .ok (.agg #[.float .f32 (X k), .float .f32 (Y k)]) w := by
  rcases (by omega : k = 0 ∨ k = 1 ∨ k = 2 ∨ k = 3 ∨ k = 4 ∨ k = 5 ∨ k = 6 ∨ k = 7) with rfl | rfl | rfl | rfl | rfl | rfl | rfl | rfl
  all_goals
    simp [Instr.index, go_sem, asIntOf]
theorem fo_of {w : World} {q : Nat} {F : Nat → Nat} {t : TypeId} (h : Blk w q #[.float .f32 (F 0), .float .f32 (F 1), .float .f32 (F 2), .float .f32 (F 3), .float .f32 (F 4), .float .f32 (F 5), .float .f32 (F 6), .float .f32 (F 7)] t) : Fo w w.heap.size (some ⟨q, 0, none⟩) [F 0, F 1, F 2, F 3, F 4, F 5, F 6, F 7] := fun _ => by
  refine ⟨q, 0, rfl, h.lt, fun i f hf => ?_⟩
  have hi : i < 8 := (List.getElem?_eq_some_iff.1 hf).1
  rw [Nat.zero_add]
  refine (bA_get h i hi).trans ?_
  rcases (by omega : i = 0 ∨ i = 1 ∨ i = 2 ∨ i = 3 ∨ i = 4 ∨ i = 5 ∨ i = 6 ∨ i = 7) with rfl | rfl | rfl | rfl | rfl | rfl | rfl | rfl <;> (cases hf; rfl)
theorem plA8_all (F : Nat → Nat) : ([F 0, F 1, F 2, F 3, F 4, F 5, F 6, F 7] : List Nat).all plB = plA8 F := rfl
/-- The call returns the eight points as pairs, and the refusal or none. -/
def RSP (F : Nat → Nat) (w : World) (e : Ending) (w' : World) : Prop := ∃ X Y : Nat → Nat, e = .returned (.tuple #[.agg #[.float .f32 (X 0), .float .f32 (Y 0), .float .f32 (X 1), .float .f32 (Y 1), .float .f32 (X 2), .float .f32 (Y 2), .float .f32 (X 3), .float .f32 (Y 3), .float .f32 (X 4), .float .f32 (Y 4), .float .f32 (X 5), .float .f32 (Y 5), .float .f32 (X 6), .float .f32 (Y 6), .float .f32 (X 7), .float .f32 (Y 7)], if plA8 F then .nilIface else .iface 89 (.int .i64 2)]) ∧ (∀ i, i < 8 → cn (X i) = swX F i ∧ cn (Y i) = swY F i) ∧ Below w.heap.size w w'
set_option maxHeartbeats 4000000 in
theorem allSw_no (F : Nat → Nat) (hp : plA8 F = false) (w : World) : Calls Tryd.prog 30 #[.agg #[.float .f32 (F 0), .float .f32 (F 1), .float .f32 (F 2), .float .f32 (F 3), .float .f32 (F 4), .float .f32 (F 5), .float .f32 (F 6), .float .f32 (F 7)]] w (RSP F w) := by
  have e1 : (w.alloc (.cells #[.float .f32 (F 0), .float .f32 (F 1), .float .f32 (F 2), .float .f32 (F 3), .float .f32 (F 4), .float .f32 (F 5), .float .f32 (F 6), .float .f32 (F 7)] 23)).heap.size = w.heap.size + 1 := by simp
  have k0 : Blk ((w.alloc (.cells #[.float .f32 (F 0), .float .f32 (F 1), .float .f32 (F 2), .float .f32 (F 3), .float .f32 (F 4), .float .f32 (F 5), .float .f32 (F 6), .float .f32 (F 7)] 23)).alloc (.cells #[.float .f32 0, .float .f32 0, .float .f32 0, .float .f32 0, .float .f32 0, .float .f32 0, .float .f32 0, .float .f32 0, .float .f32 0, .float .f32 0, .float .f32 0, .float .f32 0, .float .f32 0, .float .f32 0, .float .f32 0, .float .f32 0] 57)) w.heap.size #[.float .f32 (F 0), .float .f32 (F 1), .float .f32 (F 2), .float .f32 (F 3), .float .f32 (F 4), .float .f32 (F 5), .float .f32 (F 6), .float .f32 (F 7)] 23 := (Below.heap_alloc _ _ _ (by simp)).trans (Blk.new _ _ _)
  have k1 : Blk ((w.alloc (.cells #[.float .f32 (F 0), .float .f32 (F 1), .float .f32 (F 2), .float .f32 (F 3), .float .f32 (F 4), .float .f32 (F 5), .float .f32 (F 6), .float .f32 (F 7)] 23)).alloc (.cells #[.float .f32 0, .float .f32 0, .float .f32 0, .float .f32 0, .float .f32 0, .float .f32 0, .float .f32 0, .float .f32 0, .float .f32 0, .float .f32 0, .float .f32 0, .float .f32 0, .float .f32 0, .float .f32 0, .float .f32 0, .float .f32 0] 57)) (w.heap.size + 1) #[.float .f32 0, .float .f32 0, .float .f32 0, .float .f32 0, .float .f32 0, .float .f32 0, .float .f32 0, .float .f32 0, .float .f32 0, .float .f32 0, .float .f32 0, .float .f32 0, .float .f32 0, .float .f32 0, .float .f32 0, .float .f32 0] 57 := by rw [← e1]; exact Blk.new _ _ _
  have bw : Below w.heap.size w ((w.alloc (.cells #[.float .f32 (F 0), .float .f32 (F 1), .float .f32 (F 2), .float .f32 (F 3), .float .f32 (F 4), .float .f32 (F 5), .float .f32 (F 6), .float .f32 (F 7)] 23)).alloc (.cells #[.float .f32 0, .float .f32 0, .float .f32 0, .float .f32 0, .float .f32 0, .float .f32 0, .float .f32 0, .float .f32 0, .float .f32 0, .float .f32 0, .float .f32 0, .float .f32 0, .float .f32 0, .float .f32 0, .float .f32 0, .float .f32 0] 57)) := b_alloc (b_alloc (Below.refl _ _) _) _
  have K0 := Lib.hid k0; have K1 := Lib.hid k1; have Bw := Lib.hid bw; have Hp := Lib.hid hp
  clear k0 k1 bw e1 hp
  go_enter Tryd.func30, Tryd.ntmps30
  go_wp2_with fail
  generalize ((w.alloc (.cells #[.float .f32 (F 0), .float .f32 (F 1), .float .f32 (F 2), .float .f32 (F 3), .float .f32 (F 4), .float .f32 (F 5), .float .f32 (F 6), .float .f32 (F 7)] 23)).alloc (.cells #[.float .f32 0, .float .f32 0, .float .f32 0, .float .f32 0, .float .f32 0, .float .f32 0, .float .f32 0, .float .f32 0, .float .f32 0, .float .f32 0, .float .f32 0, .float .f32 0, .float .f32 0, .float .f32 0, .float .f32 0, .float .f32 0] 57)) = W at *
  refine (allPlain_is ((plA8_all F).trans Hp.out) rfl (show 8 ≤ maxLen by decide) (fo_of K0.out)).mono ?_
  rintro e w1 ⟨rfl, rfl⟩
  have h_ := K1.out; have x0 := h_.cell 0; have y0 := h_.frozen 0; have x1 := h_.cell 1; have y1 := h_.frozen 1; have x2 := h_.cell 2; have y2 := h_.frozen 2; have x3 := h_.cell 3; have y3 := h_.frozen 3; have x4 := h_.cell 4; have y4 := h_.frozen 4; have x5 := h_.cell 5; have y5 := h_.frozen 5; have x6 := h_.cell 6; have y6 := h_.frozen 6; have x7 := h_.cell 7; have y7 := h_.frozen 7; have x8 := h_.cell 8; have y8 := h_.frozen 8; have x9 := h_.cell 9; have y9 := h_.frozen 9; have x10 := h_.cell 10; have y10 := h_.frozen 10; have x11 := h_.cell 11; have y11 := h_.frozen 11; have x12 := h_.cell 12; have y12 := h_.frozen 12; have x13 := h_.cell 13; have y13 := h_.frozen 13; have x14 := h_.cell 14; have y14 := h_.frozen 14; have x15 := h_.cell 15; have y15 := h_.frozen 15; simp at x0 x1 x2 x3 x4 x5 x6 x7 x8 x9 x10 x11 x12 x13 x14 x15; clear h_
  go_wp2
  have q1 : w.heap.size ≤ w.heap.size + 1 := by omega
  have hz : Blk ((((((((((((((((W.setCell ⟨w.heap.size + 1, 0, none⟩ (.float .f32 0)).setCell ⟨w.heap.size + 1, 1, none⟩ (.float .f32 0)).setCell ⟨w.heap.size + 1, 2, none⟩ (.float .f32 0)).setCell ⟨w.heap.size + 1, 3, none⟩ (.float .f32 0)).setCell ⟨w.heap.size + 1, 4, none⟩ (.float .f32 0)).setCell ⟨w.heap.size + 1, 5, none⟩ (.float .f32 0)).setCell ⟨w.heap.size + 1, 6, none⟩ (.float .f32 0)).setCell ⟨w.heap.size + 1, 7, none⟩ (.float .f32 0)).setCell ⟨w.heap.size + 1, 8, none⟩ (.float .f32 0)).setCell ⟨w.heap.size + 1, 9, none⟩ (.float .f32 0)).setCell ⟨w.heap.size + 1, 10, none⟩ (.float .f32 0)).setCell ⟨w.heap.size + 1, 11, none⟩ (.float .f32 0)).setCell ⟨w.heap.size + 1, 12, none⟩ (.float .f32 0)).setCell ⟨w.heap.size + 1, 13, none⟩ (.float .f32 0)).setCell ⟨w.heap.size + 1, 14, none⟩ (.float .f32 0)).setCell ⟨w.heap.size + 1, 15, none⟩ (.float .f32 0)) (w.heap.size + 1) #[.float .f32 0, .float .f32 0, .float .f32 0, .float .f32 0, .float .f32 0, .float .f32 0, .float .f32 0, .float .f32 0, .float .f32 0, .float .f32 0, .float .f32 0, .float .f32 0, .float .f32 0, .float .f32 0, .float .f32 0, .float .f32 0] 57 := bP_whole (X0 := fun _ => 0) (Y0 := fun _ => 0) (fun _ => 0) (fun _ => 0) K1.out
  have hb : Below w.heap.size w ((((((((((((((((W.setCell ⟨w.heap.size + 1, 0, none⟩ (.float .f32 0)).setCell ⟨w.heap.size + 1, 1, none⟩ (.float .f32 0)).setCell ⟨w.heap.size + 1, 2, none⟩ (.float .f32 0)).setCell ⟨w.heap.size + 1, 3, none⟩ (.float .f32 0)).setCell ⟨w.heap.size + 1, 4, none⟩ (.float .f32 0)).setCell ⟨w.heap.size + 1, 5, none⟩ (.float .f32 0)).setCell ⟨w.heap.size + 1, 6, none⟩ (.float .f32 0)).setCell ⟨w.heap.size + 1, 7, none⟩ (.float .f32 0)).setCell ⟨w.heap.size + 1, 8, none⟩ (.float .f32 0)).setCell ⟨w.heap.size + 1, 9, none⟩ (.float .f32 0)).setCell ⟨w.heap.size + 1, 10, none⟩ (.float .f32 0)).setCell ⟨w.heap.size + 1, 11, none⟩ (.float .f32 0)).setCell ⟨w.heap.size + 1, 12, none⟩ (.float .f32 0)).setCell ⟨w.heap.size + 1, 13, none⟩ (.float .f32 0)).setCell ⟨w.heap.size + 1, 14, none⟩ (.float .f32 0)).setCell ⟨w.heap.size + 1, 15, none⟩ (.float .f32 0)) := bP_below (fun _ => 0) (fun _ => 0) Bw.out q1
  generalize ((((((((((((((((W.setCell ⟨w.heap.size + 1, 0, none⟩ (.float .f32 0)).setCell ⟨w.heap.size + 1, 1, none⟩ (.float .f32 0)).setCell ⟨w.heap.size + 1, 2, none⟩ (.float .f32 0)).setCell ⟨w.heap.size + 1, 3, none⟩ (.float .f32 0)).setCell ⟨w.heap.size + 1, 4, none⟩ (.float .f32 0)).setCell ⟨w.heap.size + 1, 5, none⟩ (.float .f32 0)).setCell ⟨w.heap.size + 1, 6, none⟩ (.float .f32 0)).setCell ⟨w.heap.size + 1, 7, none⟩ (.float .f32 0)).setCell ⟨w.heap.size + 1, 8, none⟩ (.float .f32 0)).setCell ⟨w.heap.size + 1, 9, none⟩ (.float .f32 0)).setCell ⟨w.heap.size + 1, 10, none⟩ (.float .f32 0)).setCell ⟨w.heap.size + 1, 11, none⟩ (.float .f32 0)).setCell ⟨w.heap.size + 1, 12, none⟩ (.float .f32 0)).setCell ⟨w.heap.size + 1, 13, none⟩ (.float .f32 0)).setCell ⟨w.heap.size + 1, 14, none⟩ (.float .f32 0)).setCell ⟨w.heap.size + 1, 15, none⟩ (.float .f32 0)) = W5 at *
  refine bodyPost_ret (v := .tuple #[.agg #[.float .f32 0, .float .f32 0, .float .f32 0, .float .f32 0, .float .f32 0, .float .f32 0, .float .f32 0, .float .f32 0, .float .f32 0, .float .f32 0, .float .f32 0, .float .f32 0, .float .f32 0, .float .f32 0, .float .f32 0, .float .f32 0], .iface 89 (.int .i64 2)]) (ret_p8 (fun _ => 0) (fun _ => 0) Tryd.results30 rfl rfl hz) rfl ⟨fun _ => 0, fun _ => 0, ?_, fun i hi => ⟨?_, ?_⟩, hb⟩
  · rw [Hp.out]; rfl
  · unfold swX; rw [Hp.out]; rfl
  · unfold swY; rw [Hp.out]; rfl
set_option maxHeartbeats 4000000 in
theorem allSw_ok (F : Nat → Nat) (hp : plA8 F = true) (w : World) : Calls Tryd.prog 30 #[.agg #[.float .f32 (F 0), .float .f32 (F 1), .float .f32 (F 2), .float .f32 (F 3), .float .f32 (F 4), .float .f32 (F 5), .float .f32 (F 6), .float .f32 (F 7)]] w (RSP F w) := by
  have hmf : ∀ (fn : Fn) (first cap : Array Value) (w : World), (Instr.makeFunc fn first cap).run Tryd.prog w = .ok (.func fn first cap) w := fun _ _ _ _ => rfl
  have e1 : (w.alloc (.cells #[.float .f32 (F 0), .float .f32 (F 1), .float .f32 (F 2), .float .f32 (F 3), .float .f32 (F 4), .float .f32 (F 5), .float .f32 (F 6), .float .f32 (F 7)] 23)).heap.size = w.heap.size + 1 := by simp
  have k0 : Blk ((w.alloc (.cells #[.float .f32 (F 0), .float .f32 (F 1), .float .f32 (F 2), .float .f32 (F 3), .float .f32 (F 4), .float .f32 (F 5), .float .f32 (F 6), .float .f32 (F 7)] 23)).alloc (.cells #[.float .f32 0, .float .f32 0, .float .f32 0, .float .f32 0, .float .f32 0, .float .f32 0, .float .f32 0, .float .f32 0, .float .f32 0, .float .f32 0, .float .f32 0, .float .f32 0, .float .f32 0, .float .f32 0, .float .f32 0, .float .f32 0] 57)) w.heap.size #[.float .f32 (F 0), .float .f32 (F 1), .float .f32 (F 2), .float .f32 (F 3), .float .f32 (F 4), .float .f32 (F 5), .float .f32 (F 6), .float .f32 (F 7)] 23 := (Below.heap_alloc _ _ _ (by simp)).trans (Blk.new _ _ _)
  have k1 : Blk ((w.alloc (.cells #[.float .f32 (F 0), .float .f32 (F 1), .float .f32 (F 2), .float .f32 (F 3), .float .f32 (F 4), .float .f32 (F 5), .float .f32 (F 6), .float .f32 (F 7)] 23)).alloc (.cells #[.float .f32 0, .float .f32 0, .float .f32 0, .float .f32 0, .float .f32 0, .float .f32 0, .float .f32 0, .float .f32 0, .float .f32 0, .float .f32 0, .float .f32 0, .float .f32 0, .float .f32 0, .float .f32 0, .float .f32 0, .float .f32 0] 57)) (w.heap.size + 1) #[.float .f32 0, .float .f32 0, .float .f32 0, .float .f32 0, .float .f32 0, .float .f32 0, .float .f32 0, .float .f32 0, .float .f32 0, .float .f32 0, .float .f32 0, .float .f32 0, .float .f32 0, .float .f32 0, .float .f32 0, .float .f32 0] 57 := by rw [← e1]; exact Blk.new _ _ _
  have bw : Below w.heap.size w ((w.alloc (.cells #[.float .f32 (F 0), .float .f32 (F 1), .float .f32 (F 2), .float .f32 (F 3), .float .f32 (F 4), .float .f32 (F 5), .float .f32 (F 6), .float .f32 (F 7)] 23)).alloc (.cells #[.float .f32 0, .float .f32 0, .float .f32 0, .float .f32 0, .float .f32 0, .float .f32 0, .float .f32 0, .float .f32 0, .float .f32 0, .float .f32 0, .float .f32 0, .float .f32 0, .float .f32 0, .float .f32 0, .float .f32 0, .float .f32 0] 57)) := b_alloc (b_alloc (Below.refl _ _) _) _
  have K0 := Lib.hid k0; have K1 := Lib.hid k1; have Bw := Lib.hid bw; have Hp := Lib.hid hp
  clear k0 k1 bw e1 hp
  go_enter Tryd.func30, Tryd.ntmps30
  go_wp2_with fail
  generalize ((w.alloc (.cells #[.float .f32 (F 0), .float .f32 (F 1), .float .f32 (F 2), .float .f32 (F 3), .float .f32 (F 4), .float .f32 (F 5), .float .f32 (F 6), .float .f32 (F 7)] 23)).alloc (.cells #[.float .f32 0, .float .f32 0, .float .f32 0, .float .f32 0, .float .f32 0, .float .f32 0, .float .f32 0, .float .f32 0, .float .f32 0, .float .f32 0, .float .f32 0, .float .f32 0, .float .f32 0, .float .f32 0, .float .f32 0, .float .f32 0] 57)) = W at *
  have n0 : w.heap.size ≠ w.heap.size + 1 := by omega
  have q1 : w.heap.size ≤ w.heap.size + 1 := by omega
  refine (allPlain_is ((plA8_all F).trans Hp.out) rfl (show 8 ≤ maxLen by decide) (fo_of K0.out)).mono ?_
  rintro e w1 ⟨rfl, rfl⟩
  go_wp2_with fail
  refine (circle_any _).mono ?_
  rintro e w2 ⟨rfl, b2⟩
  have M0 := Lib.hid (Blk.on K0.out (by rfl) b2)
  have M1 := Lib.hid (Blk.on K1.out (by rfl) b2)
  have Bm : Hid (Below w.heap.size w w2) := b_then Bw.out b2
  clear K0 K1 Bw b2
  generalize hcv : Value.agg circV = cv
  have HC := Lib.hid hcv
  clear hcv
  go_wp2_with fail
  go_loopw [5, 13] (fun _ i wr => ∃ (k : Nat) (X Y : Nat → Nat), k ≤ 8 ∧ i = .int .i64 k ∧ Hid (Blk wr w.heap.size #[.float .f32 (F 0), .float .f32 (F 1), .float .f32 (F 2), .float .f32 (F 3), .float .f32 (F 4), .float .f32 (F 5), .float .f32 (F 6), .float .f32 (F 7)] 23) ∧ Hid (Blk wr (w.heap.size + 1) #[.float .f32 (X 0), .float .f32 (Y 0), .float .f32 (X 1), .float .f32 (Y 1), .float .f32 (X 2), .float .f32 (Y 2), .float .f32 (X 3), .float .f32 (Y 3), .float .f32 (X 4), .float .f32 (Y 4), .float .f32 (X 5), .float .f32 (Y 5), .float .f32 (X 6), .float .f32 (Y 6), .float .f32 (X 7), .float .f32 (Y 7)] 57) ∧ Hid (∀ i, i < k → cn (X i) = (swP F i 8).1 ∧ cn (Y i) = (swP F i 8).2) ∧ Hid (Below w.heap.size w wr)) (fun _ i _ => 8 - (intOf i).toNat)
  case atStart => exact ⟨0, fun _ => 0, fun _ => 0, by omega, rfl, M0, M1, fun i hi => absurd hi (by omega), Bm⟩
  case round =>
    obtain ⟨k, X, Y, hk, rfl, h0, h1, hxy, hb⟩ := hrel
    by_cases hlt : k < 8
    · have hsw := fun w' => Lib.hid (swing_any F k hlt w')
      rw [HC.out] at hsw
      have HS := Lib.hid hsw
      clear hsw
      have c0 := h0.out.cell 0; have c1 := h0.out.cell 1; have c2 := h0.out.cell 2; have c3 := h0.out.cell 3; have c4 := h0.out.cell 4; have c5 := h0.out.cell 5; have c6 := h0.out.cell 6; have c7 := h0.out.cell 7; simp at c0 c1 c2 c3 c4 c5 c6 c7
      go_wp2_with fail
      refine (HS.out _).out.mono ?_
      rintro e w1 ⟨x, y, rfl, hx, hy, b1⟩
      have h0 := Lib.hid (Blk.on h0.out (by rfl) b1)
      have h1 := Lib.hid (Blk.on h1.out (by rfl) b1)
      have B1 : Hid (Below w.heap.size w w1) := b_then hb.out b1
      have HX : Hid (cn x = _) := hx; have HY : Hid (cn y = _) := hy
      obtain ⟨d0, d1⟩ := bP_get h1.out k hlt
      have f0 := h1.out.frozen (k * 2); have f1 := h1.out.frozen (k * 2 + 1)
      clear b1 hx hy hb
      go_wp2
      go_roundw
      case rel =>
        refine ⟨k + 1, upd X k x, upd Y k y, by omega, by go_num, (h0.out.setO n0 _ _).setO n0 _ _, bP_set k hlt x y h1.out, ?_, Below.setCell (p := ⟨w.heap.size + 1, k * 2 + 1, none⟩) (Below.setCell (p := ⟨w.heap.size + 1, k * 2, none⟩) B1.out q1 _) q1 _⟩
        intro i hi
        by_cases hik : i = k
        · subst hik
          rw [upd_same, upd_same]
          exact ⟨HX.out, HY.out⟩
        · rw [upd_other _ _ _ _ hik, upd_other _ _ _ _ hik]
          exact hxy.out i (by omega)
      case measure => simp [intOf]; omega
    · obtain rfl : k = 8 := by omega
      have h_ := h1.out; have x0 := h_.cell 0; have y0 := h_.frozen 0; have x1 := h_.cell 1; have y1 := h_.frozen 1; have x2 := h_.cell 2; have y2 := h_.frozen 2; have x3 := h_.cell 3; have y3 := h_.frozen 3; have x4 := h_.cell 4; have y4 := h_.frozen 4; have x5 := h_.cell 5; have y5 := h_.frozen 5; have x6 := h_.cell 6; have y6 := h_.frozen 6; have x7 := h_.cell 7; have y7 := h_.frozen 7; have x8 := h_.cell 8; have y8 := h_.frozen 8; have x9 := h_.cell 9; have y9 := h_.frozen 9; have x10 := h_.cell 10; have y10 := h_.frozen 10; have x11 := h_.cell 11; have y11 := h_.frozen 11; have x12 := h_.cell 12; have y12 := h_.frozen 12; have x13 := h_.cell 13; have y13 := h_.frozen 13; have x14 := h_.cell 14; have y14 := h_.frozen 14; have x15 := h_.cell 15; have y15 := h_.frozen 15; simp at x0 x1 x2 x3 x4 x5 x6 x7 x8 x9 x10 x11 x12 x13 x14 x15; clear h_
      go_wp2
      have hz : Blk ((((((((((((((((wr.setCell ⟨w.heap.size + 1, 0, none⟩ (.float .f32 (X 0))).setCell ⟨w.heap.size + 1, 1, none⟩ (.float .f32 (Y 0))).setCell ⟨w.heap.size + 1, 2, none⟩ (.float .f32 (X 1))).setCell ⟨w.heap.size + 1, 3, none⟩ (.float .f32 (Y 1))).setCell ⟨w.heap.size + 1, 4, none⟩ (.float .f32 (X 2))).setCell ⟨w.heap.size + 1, 5, none⟩ (.float .f32 (Y 2))).setCell ⟨w.heap.size + 1, 6, none⟩ (.float .f32 (X 3))).setCell ⟨w.heap.size + 1, 7, none⟩ (.float .f32 (Y 3))).setCell ⟨w.heap.size + 1, 8, none⟩ (.float .f32 (X 4))).setCell ⟨w.heap.size + 1, 9, none⟩ (.float .f32 (Y 4))).setCell ⟨w.heap.size + 1, 10, none⟩ (.float .f32 (X 5))).setCell ⟨w.heap.size + 1, 11, none⟩ (.float .f32 (Y 5))).setCell ⟨w.heap.size + 1, 12, none⟩ (.float .f32 (X 6))).setCell ⟨w.heap.size + 1, 13, none⟩ (.float .f32 (Y 6))).setCell ⟨w.heap.size + 1, 14, none⟩ (.float .f32 (X 7))).setCell ⟨w.heap.size + 1, 15, none⟩ (.float .f32 (Y 7))) (w.heap.size + 1) #[.float .f32 (X 0), .float .f32 (Y 0), .float .f32 (X 1), .float .f32 (Y 1), .float .f32 (X 2), .float .f32 (Y 2), .float .f32 (X 3), .float .f32 (Y 3), .float .f32 (X 4), .float .f32 (Y 4), .float .f32 (X 5), .float .f32 (Y 5), .float .f32 (X 6), .float .f32 (Y 6), .float .f32 (X 7), .float .f32 (Y 7)] 57 := bP_whole (X0 := X) (Y0 := Y) X Y h1.out
      have hbz : Below w.heap.size w ((((((((((((((((wr.setCell ⟨w.heap.size + 1, 0, none⟩ (.float .f32 (X 0))).setCell ⟨w.heap.size + 1, 1, none⟩ (.float .f32 (Y 0))).setCell ⟨w.heap.size + 1, 2, none⟩ (.float .f32 (X 1))).setCell ⟨w.heap.size + 1, 3, none⟩ (.float .f32 (Y 1))).setCell ⟨w.heap.size + 1, 4, none⟩ (.float .f32 (X 2))).setCell ⟨w.heap.size + 1, 5, none⟩ (.float .f32 (Y 2))).setCell ⟨w.heap.size + 1, 6, none⟩ (.float .f32 (X 3))).setCell ⟨w.heap.size + 1, 7, none⟩ (.float .f32 (Y 3))).setCell ⟨w.heap.size + 1, 8, none⟩ (.float .f32 (X 4))).setCell ⟨w.heap.size + 1, 9, none⟩ (.float .f32 (Y 4))).setCell ⟨w.heap.size + 1, 10, none⟩ (.float .f32 (X 5))).setCell ⟨w.heap.size + 1, 11, none⟩ (.float .f32 (Y 5))).setCell ⟨w.heap.size + 1, 12, none⟩ (.float .f32 (X 6))).setCell ⟨w.heap.size + 1, 13, none⟩ (.float .f32 (Y 6))).setCell ⟨w.heap.size + 1, 14, none⟩ (.float .f32 (X 7))).setCell ⟨w.heap.size + 1, 15, none⟩ (.float .f32 (Y 7))) := bP_below X Y hb.out q1
      generalize ((((((((((((((((wr.setCell ⟨w.heap.size + 1, 0, none⟩ (.float .f32 (X 0))).setCell ⟨w.heap.size + 1, 1, none⟩ (.float .f32 (Y 0))).setCell ⟨w.heap.size + 1, 2, none⟩ (.float .f32 (X 1))).setCell ⟨w.heap.size + 1, 3, none⟩ (.float .f32 (Y 1))).setCell ⟨w.heap.size + 1, 4, none⟩ (.float .f32 (X 2))).setCell ⟨w.heap.size + 1, 5, none⟩ (.float .f32 (Y 2))).setCell ⟨w.heap.size + 1, 6, none⟩ (.float .f32 (X 3))).setCell ⟨w.heap.size + 1, 7, none⟩ (.float .f32 (Y 3))).setCell ⟨w.heap.size + 1, 8, none⟩ (.float .f32 (X 4))).setCell ⟨w.heap.size + 1, 9, none⟩ (.float .f32 (Y 4))).setCell ⟨w.heap.size + 1, 10, none⟩ (.float .f32 (X 5))).setCell ⟨w.heap.size + 1, 11, none⟩ (.float .f32 (Y 5))).setCell ⟨w.heap.size + 1, 12, none⟩ (.float .f32 (X 6))).setCell ⟨w.heap.size + 1, 13, none⟩ (.float .f32 (Y 6))).setCell ⟨w.heap.size + 1, 14, none⟩ (.float .f32 (X 7))).setCell ⟨w.heap.size + 1, 15, none⟩ (.float .f32 (Y 7))) = W5 at *
      refine bodyPost_ret (v := .tuple #[.agg #[.float .f32 (X 0), .float .f32 (Y 0), .float .f32 (X 1), .float .f32 (Y 1), .float .f32 (X 2), .float .f32 (Y 2), .float .f32 (X 3), .float .f32 (Y 3), .float .f32 (X 4), .float .f32 (Y 4), .float .f32 (X 5), .float .f32 (Y 5), .float .f32 (X 6), .float .f32 (Y 6), .float .f32 (X 7), .float .f32 (Y 7)], .nilIface]) (ret_p8 X Y Tryd.results30 rfl rfl hz) rfl ⟨X, Y, ?_, fun i hi => ⟨?_, ?_⟩, hbz⟩
      · rw [Hp.out]; rfl
      · unfold swX; rw [Hp.out, if_pos rfl]; exact (hxy.out i hi).1
      · unfold swY; rw [Hp.out, if_pos rfl]; exact (hxy.out i hi).2
end Go.Proofs.YtdpgfbmelnmkdabDoor
