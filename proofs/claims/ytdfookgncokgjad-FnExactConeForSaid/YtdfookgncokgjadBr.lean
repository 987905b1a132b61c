/-
  The reach of a belt.
-/
import Derived.Test.YtdfookgncokgjadBv
import Derived.Deep.RegionLaw
import Derived.Deep.AppendLies
namespace Go.Proofs.Ytdfookgncokgjad
open Go.RowKit Go.ChangeShapes Go.WideShapes Go.Deep
attribute [local go_sem ↓] Go.wp_at_zero Go.wp_at_succ
set_option linter.unusedVariables false
set_option linter.unusedSimpArgs false
/-- The belt lies in block q. -/
def At (w : World) (q : Nat) (B : Bl) : Prop := w.heap[q]? = some (.cells #[.float .f32 B.a, .float .f32 B.b, .float .f32 B.ap, .float .f32 B.g, .bool B.x] 27 (0, 0))
theorem At.lt {w : World} {q : Nat} {B : Bl} (h : At w q B) : q < w.heap.size := by
  rcases Nat.lt_or_ge q w.heap.size with hlt | hge
  · exact hlt
  · unfold At at h; rw [Array.getElem?_eq_none hge] at h; cases h
theorem At.below {w w' : World} {q : Nat} {B : Bl} (h : At w q B) (b : Below w.heap.size w w') : At w' q B := (b.block q h.lt).trans h
theorem At.on {w W w' : World} {q : Nat} {B : Bl} (h : At w q B) (hW : W.heap = w.heap) (b : Below W.heap.size W w') : At w' q B := (b.block q (by rw [hW]; exact h.lt)).trans (by rw [hW]; exact h)
theorem At.same {w W : World} {q : Nat} {B : Bl} (h : At w q B) (hW : W.heap = w.heap) : At W q B := by unfold At; rw [hW]; exact h
theorem At.cells {w : World} {q : Nat} {B : Bl} (h : At w q B) : w.cell? ⟨q, 0, none⟩ = some (.float .f32 B.a) ∧ w.cell? ⟨q, 1, none⟩ = some (.float .f32 B.b) ∧ w.cell? ⟨q, 2, none⟩ = some (.float .f32 B.ap) ∧ w.cell? ⟨q, 3, none⟩ = some (.float .f32 B.g) ∧ w.cell? ⟨q, 4, none⟩ = some (.bool B.x) :=
  ⟨cell_of_row _ _ 0 _ _ _ h, cell_of_row _ _ 1 _ _ _ h, cell_of_row _ _ 2 _ _ _ h, cell_of_row _ _ 3 _ _ _ h, cell_of_row _ _ 4 _ _ _ h⟩
theorem At.new (w : World) (B : Bl) : At (w.alloc (.cells #[.float .f32 B.a, .float .f32 B.b, .float .f32 B.ap, .float .f32 B.g, .bool B.x] 27)) w.heap.size B := heap_alloc_new w _
theorem l02Reach_any (B : Bl) (q : Nat) (w : World) (h : At w q B) : Calls Try.prog 74 #[.pointer (some ⟨q, 0, none⟩)] w (RF (reachC B) w) := by
  obtain ⟨c0, c1, c2, c3, c4⟩ := h.cells
  clear h
  obtain ⟨R, N, hR, hC⟩ := ops_fun Try.prog 22
  have ra := hR .add rfl
  have rs := hR .sub rfl
  have HC := Lib.hid hC
  clear hC hR
  rcases Bool.eq_false_or_eq_true B.x with hx | hx
  · have hr : reachC B = f2 .add (cn B.a) (cn B.b) := by simp [reachC, hx, sumC]
    rw [hr]
    rw [hx] at c4
    clear hr hx
    go_enter Try.func74, Try.ntmps74
    go_wp2
    (refine wp_region_still_tail 8 (by kernel_rfl) (by kernel_rfl) ?_; (try change wpStill _ _ (World.drew _) _ _ _); simp only [List.take_succ_cons, List.take_zero, List.drop_succ_cons, List.drop_zero]; (repeat still_step); (try refine wpStill_nil ?_); (try change wpList _ _ _ _ _ (World.drew _)))
    go_wp2
    go_ret
    refine ⟨_, rfl, HC.out .add rfl _ _ _, ?_⟩
    (repeat (first | exact Below.refl _ _ | refine b_drewN ?_ _ | refine b_drew ?_ | refine b_alloc ?_ _ | refine b_then ?_ (by assumption)))
  · rcases Bool.eq_false_or_eq_true (oGt B.b B.a) with ho | ho
    all_goals
      first
        | (have hr : reachC B = f2 .sub (cn B.b) (cn B.a) := by simp [reachC, hx, ho])
        | (have hr : reachC B = f2 .sub (cn B.a) (cn B.b) := by simp [reachC, hx, ho])
      rw [hr]
      rw [hx] at c4
      clear hr hx
      unfold oGt at ho
      go_enter Try.func74, Try.ntmps74
      go_wp2
      go_quiet (fail)
      go_wp2
      (refine wp_region_still_tail 8 (by kernel_rfl) (by kernel_rfl) ?_; (try change wpStill _ _ (World.drew _) _ _ _); simp only [List.take_succ_cons, List.take_zero, List.drop_succ_cons, List.drop_zero]; (repeat still_step); (try refine wpStill_nil ?_); (try change wpList _ _ _ _ _ (World.drew _)))
      go_wp2
      go_ret
      refine ⟨_, rfl, HC.out .sub rfl _ _ _, ?_⟩
      (repeat (first | exact Below.refl _ _ | refine b_drewN ?_ _ | refine b_drew ?_ | refine b_alloc ?_ _ | refine b_then ?_ (by assumption)))
theorem openReach_any (a b : Nat) (w : World) : Calls Try.prog 100 #[.agg #[.float .f32 a, .float .f32 b]] w (RF (if oGt b a then f2 .sub (cn b) (cn a) else f2 .sub (cn a) (cn b)) w) := by
  obtain ⟨R, N, hR, hC⟩ := ops_fun Try.prog 22
  have rs := hR .sub rfl
  have HC := Lib.hid hC
  clear hC hR
  rcases Bool.eq_false_or_eq_true (oGt b a) with ho | ho
  all_goals
    simp only [ho, if_true, if_false, Bool.false_eq_true]
    unfold oGt at ho
    go_enter Try.func100, Try.ntmps100
    go_wp2
    go_ret
    refine ⟨_, rfl, HC.out .sub rfl _ _ _, ?_⟩
    (repeat (first | exact Below.refl _ _ | refine b_drewN ?_ _ | refine b_drew ?_ | refine b_alloc ?_ _ | refine b_then ?_ (by assumption)))
theorem crossedReach_any (a b : Nat) (w : World) : Calls Try.prog 99 #[.agg #[.float .f32 a, .float .f32 b]] w (RF (f2 .add (cn a) (cn b)) w) := by
  obtain ⟨R, N, hR, hC⟩ := ops_fun Try.prog 22
  have rs := hR .add rfl
  have HC := Lib.hid hC
  clear hC hR
  go_enter Try.func99, Try.ntmps99
  go_wp2
  go_ret
  refine ⟨_, rfl, HC.out .add rfl _ _ _, ?_⟩
  (repeat (first | exact Below.refl _ _ | refine b_drewN ?_ _ | refine b_drew ?_ | refine b_alloc ?_ _ | refine b_then ?_ (by assumption)))
theorem pulleys_x {B : Bl} (hx : B.x = true) (w : World) : Calls Try.prog 75 #[.agg #[.float .f32 B.a, .float .f32 B.b, .float .f32 B.ap, .float .f32 B.g, .bool B.x]] w (RV (.iface 89 (.agg #[.float .f32 B.a, .float .f32 B.b])) w) := by
  go_enter Try.func75, Try.ntmps75
  go_wp2
  go_ret
  refine ⟨rfl, ?_⟩
  (repeat (first | exact Below.refl _ _ | refine b_drewN ?_ _ | refine b_drew ?_ | refine b_alloc ?_ _ | refine b_then ?_ (by assumption)))
theorem pulleys_o {B : Bl} (hx : B.x = false) (w : World) : Calls Try.prog 75 #[.agg #[.float .f32 B.a, .float .f32 B.b, .float .f32 B.ap, .float .f32 B.g, .bool B.x]] w (RV (.iface 90 (.agg #[.float .f32 B.a, .float .f32 B.b])) w) := by
  go_enter Try.func75, Try.ntmps75
  go_wp2
  go_ret
  refine ⟨rfl, ?_⟩
  (repeat (first | exact Below.refl _ _ | refine b_drewN ?_ _ | refine b_drew ?_ | refine b_alloc ?_ _ | refine b_then ?_ (by assumption)))
end Go.Proofs.Ytdfookgncokgjad
