/-
  The speed of water and the flow through a gate: the program's functions and the model's, and their laws' parts.
-/
import Derived.Test.YtefeifkkinnoeaaDoorTq
import Derived.Test.YtefeifkkinnoeaaDoorQuo
namespace Go.Proofs.YtefeifkkinnoeaaDoor
open Go.RowKit Go.ChangeShapes Go.WideShapes Go.Deep
attribute [local go_sem ↓] Go.wp_at_zero Go.wp_at_succ
set_option linter.unusedVariables false
set_option linter.unusedSimpArgs false
set_option maxRecDepth 100000
theorem run_sqrt {x r : Nat} (h : Ieee.double.sqrt x = some r) (w : World) : (Extern.MathSqrt.sqrt #[.float .f64 x]).run Tryd.prog w = .ok (.float .f64 r) w := by
  have h' : FloatKind.f64.format.sqrt x = some r := h
  show (match FloatKind.f64.format.sqrt x with | some r => (pure (Value.float .f64 r) : Sem Value) | none => do pure (Value.float .f64 (← choose (.nanBits .f64 x x)))).run Tryd.prog w = _
  rw [h']
  rfl
theorem mathSqrt_any {x r : Nat} (h : Ieee.double.sqrt x = some r) (w : World) : Calls Tryd.prog 56 #[.float .f64 x] w fun e w' => e = .returned (.float .f64 r) ∧ w = w' := by
  have hs := run_sqrt h
  have he := @run_callFunc_extern Tryd.prog 58 _ Extern.MathSqrt.sqrt Tryd.func58 (by kernel_rfl) (by kernel_rfl) (by kernel_rfl) (by kernel_rfl)
  clear h
  go_enter Tryd.func56, Tryd.ntmps56
  go_wp2
  go_ret
  exact ⟨rfl, rfl⟩
theorem waterSpeed_any (h : Nat) (hh : radB h = true) (w : World) : Calls Tryd.prog 51 #[.float .f32 h] w fun e w' => e = .returned (.float .f32 (fastN h)) ∧ w = w' := by
  obtain ⟨e1, n1, e2, e3, _⟩ := fast_some hh
  have rm1 := fun w => run_float_arith (P := Tryd.prog) w .mul 23 .f32 _ _ _ e1
  have cw := fun w => run_wide (P := Tryd.prog) w 23 55 _ (by rw [Tryd.underlying23]; rfl) Tryd.underlying55 n1
  have cn' := fun w => run_convert_float_float (P := Tryd.prog) w 55 23 .f64 .f32 _ _ (by rw [Tryd.underlying55]; rfl) Tryd.underlying23 e3
  have E2 := Lib.hid e2
  clear e1 n1 e2 e3 hh
  go_enter Tryd.func51, Tryd.ntmps51
  go_wp2_with (go_at_call 56; refine (mathSqrt_any E2.out _).mono ?_; rintro e w1 ⟨rfl, rfl⟩)
  go_ret
  exact ⟨rfl, rfl⟩
theorem l03Root_any (h : Nat) (hh : radB h = true) (w : World) : Calls Tryd.prog 55 #[.float .f32 (sqN19 h)] w fun e w' => e = .returned (.float .f32 (fastN h)) ∧ w = w' := by
  obtain ⟨e1, n1, e2, e3, _⟩ := fast_some hh
  have cw := fun w => run_wide (P := Tryd.prog) w 23 55 _ (by rw [Tryd.underlying23]; rfl) Tryd.underlying55 n1
  have cn' := fun w => run_convert_float_float (P := Tryd.prog) w 55 23 .f64 .f32 _ _ (by rw [Tryd.underlying55]; rfl) Tryd.underlying23 e3
  have E2 := Lib.hid e2
  clear e1 n1 e2 e3 hh
  go_enter Tryd.func55, Tryd.ntmps55
  go_wp2_with (go_at_call 56; refine (mathSqrt_any E2.out _).mono ?_; rintro e w1 ⟨rfl, rfl⟩)
  go_ret
  exact ⟨rfl, rfl⟩
theorem l03Fast_any (h : Nat) (hh : radB h = true) (w : World) : Calls Tryd.prog 46 #[.float .f32 h] w fun e w' => e = .returned (.float .f32 (fastN h)) ∧ w = w' := by
  have rm1 := fun w => run_float_arith (P := Tryd.prog) w .mul 23 .f32 _ _ _ (fast_some hh).1
  have HH := Lib.hid hh
  clear hh
  go_enter Tryd.func46, Tryd.ntmps46
  go_wp2_with (go_at_call 55; refine (l03Root_any h HH.out _).mono ?_; rintro e w1 ⟨rfl, rfl⟩)
  go_ret
  exact ⟨rfl, rfl⟩
theorem implFlow_any (ar he : Nat) (g : Int) (ha : radB ar = true) (hh : radB he = true) (g0 : 0 ≤ g) (g1 : g ≤ 16) (w : World) : Calls Tryd.prog 41 #[.float .f32 ar, .float .f32 he, .int .i64 g] w fun e w' => e = .returned (.float .f32 (flowN ar he g)) ∧ w = w' := by
  obtain ⟨e1, e2, e3, _⟩ := flow_some ha hh g0 g1; have rm1 := fun w => run_float_arith (P := Tryd.prog) w .mul 23 .f32 _ _ _ e1; have rq1 := fun w => run_float_arith (P := Tryd.prog) w .quo 23 .f32 _ _ _ e2; have rm2 := fun w => run_float_arith (P := Tryd.prog) w .mul 23 .f32 _ _ _ e3; have HH := Lib.hid hh; clear e1 e2 e3 hh ha
  go_enter Tryd.func41, Tryd.ntmps41
  go_wp2_with (go_at_call 51; refine (waterSpeed_any he HH.out _).mono ?_; rintro e w1 ⟨rfl, rfl⟩)
  go_ret
  exact ⟨rfl, rfl⟩
theorem specFlow_any (ar he : Nat) (g : Int) (ha : radB ar = true) (hh : radB he = true) (g0 : 0 ≤ g) (g1 : g ≤ 16) (w : World) : Calls Tryd.prog 36 #[.float .f32 ar, .float .f32 he, .int .i64 g] w fun e w' => e = .returned (.float .f32 (flowN ar he g)) ∧ w = w' := by
  obtain ⟨e1, e2, e3, _⟩ := flow_some ha hh g0 g1; have rm1 := fun w => run_float_arith (P := Tryd.prog) w .mul 23 .f32 _ _ _ e1; have rq1 := fun w => run_float_arith (P := Tryd.prog) w .quo 23 .f32 _ _ _ e2; have rm2 := fun w => run_float_arith (P := Tryd.prog) w .mul 23 .f32 _ _ _ e3; have HH := Lib.hid hh; clear e1 e2 e3 hh ha
  go_enter Tryd.func36, Tryd.ntmps36
  go_wp2_with (go_at_call 46; refine (l03Fast_any he HH.out _).mono ?_; rintro e w1 ⟨rfl, rfl⟩)
  go_ret
  exact ⟨rfl, rfl⟩
theorem inB_le {x lo hi : Int} (h : inB x lo hi = true) : lo ≤ x ∧ x ≤ hi := by
  unfold inB at h
  simpa using h
end Go.Proofs.YtefeifkkinnoeaaDoor
