/-
  The length of a belt.
-/
import Derived.Test.YtdfookgncokgjadBr
namespace Go.Proofs.Ytdfookgncokgjad
open Go.RowKit Go.ChangeShapes Go.WideShapes Go.Deep
attribute [local go_sem ↓] Go.wp_at_zero Go.wp_at_succ
set_option linter.unusedVariables false
set_option linter.unusedSimpArgs false
theorem meth_x (a b : Nat) (w : World) : (method 208 89 (.agg #[.float .f32 a, .float .f32 b]) "loop.example/g01344/impl.reach").run Try.prog w = .ok (99, .agg #[.float .f32 a, .float .f32 b]) w := by kernel_rfl
theorem meth_o (a b : Nat) (w : World) : (method 208 90 (.agg #[.float .f32 a, .float .f32 b]) "loop.example/g01344/impl.reach").run Try.prog w = .ok (100, .agg #[.float .f32 a, .float .f32 b]) w := by kernel_rfl
theorem reach_x {B : Bl} (hx : B.x = true) : reachC B = f2 .add (cn B.a) (cn B.b) := by simp [reachC, hx, sumC]
theorem reach_o {B : Bl} (hx : B.x = false) : reachC B = if oGt B.b B.a then f2 .sub (cn B.b) (cn B.a) else f2 .sub (cn B.a) (cn B.b) := by simp [reachC, hx]
theorem implLen_x {B : Bl} (hx : B.x = true) (w : World) : Calls Try.prog 58 #[.agg #[.float .f32 B.a, .float .f32 B.b, .float .f32 B.ap, .float .f32 B.g, .bool B.x]] w (RF (lenC B) w) := by
  obtain ⟨R, N, hR, hC⟩ := ops_fun Try.prog 22; have ra := hR .add rfl; have rs := hR .sub rfl; have rm := hR .mul rfl; have rq := hR .quo rfl; have HC := Lib.hid hC; clear hC hR
  have Hr := Lib.hid (reach_x hx)
  have Hx := Lib.hid hx
  clear hx
  have m0 := meth_x B.a B.b
  go_enter Try.func58, Try.ntmps58
  go_wp2_with fail
  refine (pulleys_x Hx.out _).mono ?_
  rintro e w1 ⟨rfl, b1⟩
  have h1 := (At.new w B).below b1
  obtain ⟨c0, c1, c2, c3, c4⟩ := h1.cells
  go_wp2_with fail
  refine (crossedReach_any _ _ _).mono ?_
  rintro e w2 ⟨r, rfl, hr, b2⟩
  obtain ⟨d0, d1, d2, d3, d4⟩ := (h1.below b2).cells
  clear h1 c0 c1 c2 c3 c4
  go_wp2
  go_ret
  refine ⟨_, rfl, ?_, ?_⟩
  · unfold CN lenC at *
    have hr2 := Hr.out
    rw [← hr] at hr2
    rw [hr2]
    simp only [HC.out .add rfl, HC.out .mul rfl, HC.out .quo rfl, sumC, halfC]
  · (repeat (first | exact Below.refl _ _ | refine b_drewN ?_ _ | refine b_drew ?_ | refine b_alloc ?_ _ | refine b_then ?_ (by assumption)))
theorem implLen_o {B : Bl} (hx : B.x = false) (w : World) : Calls Try.prog 58 #[.agg #[.float .f32 B.a, .float .f32 B.b, .float .f32 B.ap, .float .f32 B.g, .bool B.x]] w (RF (lenC B) w) := by
  obtain ⟨R, N, hR, hC⟩ := ops_fun Try.prog 22; have ra := hR .add rfl; have rs := hR .sub rfl; have rm := hR .mul rfl; have rq := hR .quo rfl; have HC := Lib.hid hC; clear hC hR
  have Hr := Lib.hid (reach_o hx)
  have Hx := Lib.hid hx
  clear hx
  have m0 := meth_o B.a B.b
  go_enter Try.func58, Try.ntmps58
  go_wp2_with fail
  refine (pulleys_o Hx.out _).mono ?_
  rintro e w1 ⟨rfl, b1⟩
  have h1 := (At.new w B).below b1
  obtain ⟨c0, c1, c2, c3, c4⟩ := h1.cells
  go_wp2_with fail
  refine (openReach_any _ _ _).mono ?_
  rintro e w2 ⟨r, rfl, hr, b2⟩
  obtain ⟨d0, d1, d2, d3, d4⟩ := (h1.below b2).cells
  clear h1 c0 c1 c2 c3 c4
  go_wp2
  go_ret
  refine ⟨_, rfl, ?_, ?_⟩
  · unfold CN lenC at *
    have hr2 := Hr.out
    rw [← hr] at hr2
    rw [hr2]
    simp only [HC.out .add rfl, HC.out .mul rfl, HC.out .quo rfl, sumC, halfC]
  · (repeat (first | exact Below.refl _ _ | refine b_drewN ?_ _ | refine b_drew ?_ | refine b_alloc ?_ _ | refine b_then ?_ (by assumption)))
theorem implLen_any (B : Bl) (w : World) : Calls Try.prog 58 #[.agg #[.float .f32 B.a, .float .f32 B.b, .float .f32 B.ap, .float .f32 B.g, .bool B.x]] w (RF (lenC B) w) := by
  rcases Bool.eq_false_or_eq_true B.x with hx | hx
  · exact implLen_x hx w
  · exact implLen_o hx w
theorem specLen_any (B : Bl) (q : Nat) (w : World) (h : At w q B) : Calls Try.prog 57 #[.pointer (some ⟨q, 0, none⟩)] w (RF (lenC B) w) := by
  obtain ⟨R, N, hR, hC⟩ := ops_fun Try.prog 22; have ra := hR .add rfl; have rs := hR .sub rfl; have rm := hR .mul rfl; have rq := hR .quo rfl; have HC := Lib.hid hC; clear hC hR
  go_enter Try.func57, Try.ntmps57
  go_wp2_with fail
  refine (l02Reach_any B q _ h).mono ?_
  rintro e w1 ⟨r, rfl, hr, b1⟩
  obtain ⟨c0, c1, c2, c3, c4⟩ := (h.below b1).cells
  clear h
  go_wp2
  (refine wp_region_still_tail 8 (by kernel_rfl) (by kernel_rfl) ?_; (try change wpStill _ _ (World.drew _) _ _ _); simp only [List.take_succ_cons, List.take_zero, List.drop_succ_cons, List.drop_zero]; (repeat still_step); (try refine wpStill_nil ?_); (try change wpList _ _ _ _ _ (World.drew _)))
  go_wp2
  go_ret
  refine ⟨_, rfl, ?_, ?_⟩
  · unfold CN lenC at *
    rw [← hr]
    simp only [HC.out .add rfl, HC.out .mul rfl, HC.out .quo rfl, sumC, halfC]
  · (repeat (first | exact Below.refl _ _ | refine b_drewN ?_ _ | refine b_drew ?_ | refine b_alloc ?_ _ | refine b_then ?_ (by assumption)))
end Go.Proofs.Ytdfookgncokgjad
