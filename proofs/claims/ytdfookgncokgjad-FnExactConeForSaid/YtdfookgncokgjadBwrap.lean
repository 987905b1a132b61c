/-
  The angle on a belt's lesser pulley.
-/
import Derived.Test.YtdfookgncokgjadBlen
namespace Go.Proofs.Ytdfookgncokgjad
open Go.RowKit Go.ChangeShapes Go.WideShapes Go.Deep
attribute [local go_sem ↓] Go.wp_at_zero Go.wp_at_succ
set_option linter.unusedVariables false
set_option linter.unusedSimpArgs false
theorem asrt_x (a b : Nat) (w : World) : (Instr.typeAssert (.iface 89 (.agg #[.float .f32 a, .float .f32 b])) 80 89 true).run Try.prog w = .ok (.tuple #[.agg #[.float .f32 a, .float .f32 b], .bool true]) w := by kernel_rfl
theorem asrt_o (a b : Nat) (w : World) : (Instr.typeAssert (.iface 90 (.agg #[.float .f32 a, .float .f32 b])) 80 89 true).run Try.prog w = .ok (.tuple #[.agg #[.float .f32 0, .float .f32 0], .bool false]) w := by kernel_rfl
set_option maxHeartbeats 1000000 in
theorem implWrap_x {B : Bl} (hx : B.x = true) (w : World) : Calls Try.prog 82 #[.agg #[.float .f32 B.a, .float .f32 B.b, .float .f32 B.ap, .float .f32 B.g, .bool B.x]] w (RF (wrapC B) w) := by
  obtain ⟨R, N, hR, hC⟩ := ops_fun Try.prog 22; have ra := hR .add rfl; have rs := hR .sub rfl; have rm := hR .mul rfl; have rq := hR .quo rfl; have HC := Lib.hid hC; clear hC hR
  have Hr := Lib.hid (reach_x hx)
  have Hx := Lib.hid hx
  clear hx
  have m0 := meth_x B.a B.b
  have m1 := asrt_x B.a B.b
  go_enter Try.func82, Try.ntmps82
  go_wp2_with fail
  refine (pulleys_x Hx.out _).mono ?_
  rintro e w1 ⟨rfl, b1⟩
  have h1 := (At.new w B).below b1
  obtain ⟨c0, c1, c2, c3, c4⟩ := h1.cells
  go_wp2_with fail
  go_region_law ((go_simp; go_at_call 99; refine (crossedReach_any _ _ _).mono ?_; rintro e w2 ⟨r, rfl, hr, b2⟩; obtain ⟨d0, d1, d2, d3, d4⟩ := At.cells (At.on h1 (by rfl) b2); dsimp only))
  all_goals
    go_wp2
    go_ret
    refine ⟨_, rfl, ?_, ?_⟩
    · unfold CN wrapC slantC at *
      have hr2 := Hr.out
      rw [← hr] at hr2
      rw [hr2]
      simp only [HC.out .add rfl, HC.out .mul rfl, HC.out .quo rfl, HC.out .sub rfl, Hx.out, halfC, if_true, if_false, Bool.false_eq_true]
    · (repeat (first | exact Below.refl _ _ | refine b_drewN ?_ _ | refine b_drew ?_ | refine b_alloc ?_ _ | refine b_then ?_ (by assumption)))
set_option maxHeartbeats 1000000 in
theorem implWrap_o {B : Bl} (hx : B.x = false) (w : World) : Calls Try.prog 82 #[.agg #[.float .f32 B.a, .float .f32 B.b, .float .f32 B.ap, .float .f32 B.g, .bool B.x]] w (RF (wrapC B) w) := by
  obtain ⟨R, N, hR, hC⟩ := ops_fun Try.prog 22; have ra := hR .add rfl; have rs := hR .sub rfl; have rm := hR .mul rfl; have rq := hR .quo rfl; have HC := Lib.hid hC; clear hC hR
  have Hr := Lib.hid (reach_o hx)
  have Hx := Lib.hid hx
  clear hx
  have m0 := meth_o B.a B.b
  have m1 := asrt_o B.a B.b
  go_enter Try.func82, Try.ntmps82
  go_wp2_with fail
  refine (pulleys_o Hx.out _).mono ?_
  rintro e w1 ⟨rfl, b1⟩
  have h1 := (At.new w B).below b1
  obtain ⟨c0, c1, c2, c3, c4⟩ := h1.cells
  go_wp2_with fail
  go_region_law ((go_simp; go_at_call 100; refine (openReach_any _ _ _).mono ?_; rintro e w2 ⟨r, rfl, hr, b2⟩; obtain ⟨d0, d1, d2, d3, d4⟩ := At.cells (At.on h1 (by rfl) b2); dsimp only))
  all_goals
    go_wp2
    go_ret
    refine ⟨_, rfl, ?_, ?_⟩
    · unfold CN wrapC slantC at *
      have hr2 := Hr.out
      rw [← hr] at hr2
      rw [hr2]
      simp only [HC.out .add rfl, HC.out .mul rfl, HC.out .quo rfl, HC.out .sub rfl, Hx.out, halfC, if_true, if_false, Bool.false_eq_true]
    · (repeat (first | exact Below.refl _ _ | refine b_drewN ?_ _ | refine b_drew ?_ | refine b_alloc ?_ _ | refine b_then ?_ (by assumption)))
theorem implWrap_any (B : Bl) (w : World) : Calls Try.prog 82 #[.agg #[.float .f32 B.a, .float .f32 B.b, .float .f32 B.ap, .float .f32 B.g, .bool B.x]] w (RF (wrapC B) w) := by
  rcases Bool.eq_false_or_eq_true B.x with hx | hx
  · exact implWrap_x hx w
  · exact implWrap_o hx w
theorem specWrap_any (B : Bl) (q : Nat) (w : World) (h : At w q B) : Calls Try.prog 81 #[.pointer (some ⟨q, 0, none⟩)] w (RF (wrapC B) w) := by
  obtain ⟨R, N, hR, hC⟩ := ops_fun Try.prog 22; have ra := hR .add rfl; have rs := hR .sub rfl; have rm := hR .mul rfl; have rq := hR .quo rfl; have HC := Lib.hid hC; clear hC hR
  rcases Bool.eq_false_or_eq_true B.x with hx | hx
  all_goals
    go_enter Try.func81, Try.ntmps81
    go_wp2_with fail
    refine (l02Reach_any B q _ h).mono ?_
    rintro e w1 ⟨r, rfl, hr, b1⟩
    obtain ⟨c0, c1, c2, c3, c4⟩ := (h.below b1).cells
    rw [hx] at c4
    have Hx := Lib.hid hx
    clear hx h
    go_wp2
    go_ret
    refine ⟨_, rfl, ?_, ?_⟩
    · unfold CN wrapC slantC at *
      rw [← hr]
      simp only [HC.out .add rfl, HC.out .mul rfl, HC.out .quo rfl, HC.out .sub rfl, Hx.out, halfC, if_true, if_false, Bool.false_eq_true]
    · (repeat (first | exact Below.refl _ _ | refine b_drewN ?_ _ | refine b_drew ?_ | refine b_alloc ?_ _ | refine b_then ?_ (by assumption)))
end Go.Proofs.Ytdfookgncokgjad
