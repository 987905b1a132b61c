/-
  Small words for walks over single precision: what a call answers, up to which NaN; blocks that stand; the four operations as functions.
-/
import Derived.Test.YtjkgiknklkfipaaRows
import Derived.Test.YtjkgiknklkfipaaBl
import Derived.WalkKit
import Derived.WalkLawsBesides
import Derived.WalkSmall
import Derived.OwnWalk
import Derived.Below
import Derived.Deep.Fields
import Derived.Deep.Draws
import Derived.Deep.DrawnRows
import Derived.Deep.QuietTactic
import Derived.BigQuiet
import Derived.StillTailTactics
import Derived.Laws.Cover2
import Derived.Laws.Externs
import Derived.Laws.EntriesVeiled
import Derived.Lib.Hide
import Derived.Outline
namespace Go.Proofs.Ytjkgiknklkfipaa
open Go.RowKit Go.ChangeShapes Go.WideShapes Go.Deep
set_option linter.unusedVariables false
/-- r is the number c, up to which NaN it is. -/
def CN (r c : Nat) : Prop := cn r = c
theorem cn_lit (r : Nat) : CN r (cn r) := rfl
/-- The call returns a number, and turns nothing that was there. -/
def RF (c : Nat) (w : World) (e : Ending) (w' : World) : Prop := ∃ r, e = .returned (.float .f32 r) ∧ CN r c ∧ Below w.heap.size w w'
/-- The call returns a number and a code, and turns nothing that was there. -/
def RFC (c : Nat) (k : Int) (w : World) (e : Ending) (w' : World) : Prop := ∃ r, e = .returned (.tuple #[.float .f32 r, .int .i64 k]) ∧ CN r c ∧ Below w.heap.size w w'
/-- The call returns a value, and turns nothing that was there. -/
def RV (v : Value) (w : World) (e : Ending) (w' : World) : Prop := e = .returned v ∧ Below w.heap.size w w'
theorem unhid {p : Prop} (h : Hid p) : p := h
theorem b_then {w w1 w2 : World} (h : Below w.heap.size w w1) (k : Below w1.heap.size w1 w2) : Below w.heap.size w w2 := h.trans (k.mono h.size)
theorem b_alloc {w w' : World} (h : Below w.heap.size w w') (o : Obj) : Below w.heap.size w (w'.alloc o) := h.alloc h.size o
theorem b_drewN {B : Nat} {a w : World} (h : Below B a w) (n : Nat) : Below B a (w.drewN n) := ⟨h.os, h.tape, h.output, h.size, h.block⟩
theorem b_drew {B : Nat} {a w : World} (h : Below B a w) : Below B a w.drew := h.drew
/-- The four operations as functions of what they are given and of the world. -/
theorem ops_fun (P : Program) (t : TypeId) : ∃ (R N : BinOp → Nat → Nat → World → Nat),
    (∀ op, arith op = true → ∀ x y w, (binOp op t (.float .f32 x) (.float .f32 y)).run P w = .ok (.float .f32 (R op x y w)) (w.drewN (N op x y w))) ∧
    ∀ op, arith op = true → ∀ x y w, cn (R op x y w) = f2 op (cn x) (cn y) := by
  have H : ∀ q : BinOp × Nat × Nat × World, ∃ rn : Nat × Nat, arith q.1 = true → (binOp q.1 t (.float .f32 q.2.1) (.float .f32 q.2.2.1)).run P q.2.2.2 = .ok (.float .f32 rn.1) (q.2.2.2.drewN rn.2) ∧ cn rn.1 = f2 q.1 (cn q.2.1) (cn q.2.2.1) := fun q => by
    by_cases ha : arith q.1 = true
    · obtain ⟨r, n, h1, h2⟩ := run_f32 (P := P) q.2.2.2 q.1 t q.2.1 q.2.2.1 ha
      exact ⟨(r, n), fun _ => ⟨h1, h2⟩⟩
    · exact ⟨(0, 0), fun h => absurd h ha⟩
  obtain ⟨F, hF⟩ := Classical.skolem.1 H
  exact ⟨fun op x y w => (F (op, x, y, w)).1, fun op x y w => (F (op, x, y, w)).2, fun op ha x y w => (hF (op, x, y, w) ha).1, fun op ha x y w => (hF (op, x, y, w) ha).2⟩
theorem sf_eq (x : Nat) (w : World) (hx : (FloatKind.f64.decode x).isNaN = false) :
    Calls Try.prog 28 #[.float .f64 x, .float .f64 x] w fun e w' => e = .returned (.bool true) ∧ w = w' := by
  have h1 := order_self hx
  cases h0 : (FloatKind.f64.format.order x 0 == some .eq)
  · go_enter Try.func28, Try.ntmps28
    go_wp2
    go_ret
    exact ⟨rfl, rfl⟩
  · have h2 : FloatKind.f64.format.order x 0 = some .eq := by simpa using h0
    obtain ⟨r, hr⟩ := quo_zero h2
    have hq := fun w => run_float_arith (P := Try.prog) w .quo 35 .f64 4607182418800017408 x r hr
    clear hr h0
    go_enter Try.func28, Try.ntmps28
    go_wp2
    go_ret
    exact ⟨rfl, rfl⟩
theorem sf_nan (x y : Nat) (w : World) (hx : (FloatKind.f64.decode x).isNaN = true) (hy : (FloatKind.f64.decode y).isNaN = true) :
    Calls Try.prog 28 #[.float .f64 x, .float .f64 y] w fun e w' => e = .returned (.bool true) ∧ w = w' := by
  have h1 := order_nan_left x hx
  have h2 := order_nan_left y hy
  go_enter Try.func28, Try.ntmps28
  go_wp2
  all_goals
    go_ret
    exact ⟨rfl, rfl⟩
theorem cnx {a b : Nat} (h : cn a = cn b) : (nan32 a = true ∧ nan32 b = true) ∨ (nan32 a = false ∧ a = b) := by
  cases ha : nan32 a
  · right
    refine ⟨rfl, ?_⟩
    have hb : nan32 b = false := by rw [← nan_cn b, ← h, nan_cn, ha]
    rw [cn_of_not ha, cn_of_not hb] at h
    exact h
  · left
    exact ⟨rfl, by rw [← nan_cn b, ← h, nan_cn, ha]⟩
end Go.Proofs.Ytjkgiknklkfipaa
