/-
  The speed of water and the flow through a gate: the program's functions and the model's, and their laws' parts.
-/
import Derived.Test.YtjkgiknklkfipaaDoorTq
import Derived.Test.YtjkgiknklkfipaaDoorQuo
namespace Go.Proofs.YtjkgiknklkfipaaDoor
open Go.RowKit Go.ChangeShapes Go.WideShapes Go.Deep
attribute [local go_sem ↓] Go.wp_at_zero Go.wp_at_succ
set_option linter.unusedVariables false
set_option linter.unusedSimpArgs false
set_option maxRecDepth 100000
theorem run_sqrt {x r : Nat} (h : Ieee.double.sqrt x = some r) (w : World) : (Extern.MathSqrt.sqrt #[.float .f64 x]).run Tryd.prog w = .ok (.float .f64 r) w := by
  have h' : FloatKind.f64.format.sqrt x = some r := h
  show (match FloatKind.f64.format.sqrt x with | some r => (pure (Value.float .f64 r) : Sem Value) | none => do pure (Value.float .f64 (← choose (.nanBits .f64 x x)))).run Tryd.prog w = _
  rw [h']
  rfl
theorem mathSqrt_any {x r : Nat} (h : Ieee.double.sqrt x = some r) (w : World) : Calls Tryd.prog 120 #[.float .f64 x] w fun e w' => e = .returned (.float .f64 r) ∧ w = w' := by
  have hs := run_sqrt h
  have he := @run_callFunc_extern Tryd.prog 122 _ Extern.MathSqrt.sqrt Tryd.func122 (by kernel_rfl) (by kernel_rfl) (by kernel_rfl) (by kernel_rfl)
  clear h
  go_enter Tryd.func120, Tryd.ntmps120
  go_wp2
  go_ret
  exact ⟨rfl, rfl⟩
theorem waterSpeed_any (h : Nat) (hh : radB h = true) (w : World) : Calls Tryd.prog 114 #[.float .f32 h] w fun e w' => e = .returned (.float .f32 (fastN h)) ∧ w = w' := by
  obtain ⟨e1, n1, e2, e3, _⟩ := fast_some hh
  have rm1 := fun w => run_float_arith (P := Tryd.prog) w .mul 24 .f32 _ _ _ e1
  have cw := fun w => run_wide (P := Tryd.prog) w 24 84 _ (by rw [Tryd.underlying24]; rfl) Tryd.underlying84 n1
  have cn' := fun w => run_convert_float_float (P := Tryd.prog) w 84 24 .f64 .f32 _ _ (by rw [Tryd.underlying84]; rfl) Tryd.underlying24 e3
  have E2 := Lib.hid e2
  clear e1 n1 e2 e3 hh
  go_enter Tryd.func114, Tryd.ntmps114
  go_wp2_with (go_at_call 120; refine (mathSqrt_any E2.out _).mono ?_; rintro e w1 ⟨rfl, rfl⟩)
  go_ret
  exact ⟨rfl, rfl⟩
theorem l03Root_any (h : Nat) (hh : radB h = true) (w : World) : Calls Tryd.prog 113 #[.float .f32 (sqN19 h)] w fun e w' => e = .returned (.float .f32 (fastN h)) ∧ w = w' := by
  obtain ⟨e1, n1, e2, e3, _⟩ := fast_some hh
  have cw := fun w => run_wide (P := Tryd.prog) w 24 84 _ (by rw [Tryd.underlying24]; rfl) Tryd.underlying84 n1
  have cn' := fun w => run_convert_float_float (P := Tryd.prog) w 84 24 .f64 .f32 _ _ (by rw [Tryd.underlying84]; rfl) Tryd.underlying24 e3
  have E2 := Lib.hid e2
  clear e1 n1 e2 e3 hh
  go_enter Tryd.func113, Tryd.ntmps113
  go_wp2_with (go_at_call 120; refine (mathSqrt_any E2.out _).mono ?_; rintro e w1 ⟨rfl, rfl⟩)
  go_ret
  exact ⟨rfl, rfl⟩
theorem l03Fast_any (h : Nat) (hh : radB h = true) (w : World) : Calls Tryd.prog 98 #[.float .f32 h] w fun e w' => e = .returned (.float .f32 (fastN h)) ∧ w = w' := by
  have rm1 := fun w => run_float_arith (P := Tryd.prog) w .mul 24 .f32 _ _ _ (fast_some hh).1
  have HH := Lib.hid hh
  clear hh
  go_enter Tryd.func98, Tryd.ntmps98
  go_wp2_with (go_at_call 113; refine (l03Root_any h HH.out _).mono ?_; rintro e w1 ⟨rfl, rfl⟩)
  go_ret
  exact ⟨rfl, rfl⟩
theorem implFlow_any (ar he : Nat) (g : Int) (ha : radB ar = true) (hh : radB he = true) (g0 : 0 ≤ g) (g1 : g ≤ 16) (w : World) : Calls Tryd.prog 103 #[.float .f32 ar, .float .f32 he, .int .i64 g] w fun e w' => e = .returned (.float .f32 (flowN ar he g)) ∧ w = w' := by
  obtain ⟨e1, e2, e3, _⟩ := flow_some ha hh g0 g1; have rm1 := fun w => run_float_arith (P := Tryd.prog) w .mul 24 .f32 _ _ _ e1; have rq1 := fun w => run_float_arith (P := Tryd.prog) w .quo 24 .f32 _ _ _ e2; have rm2 := fun w => run_float_arith (P := Tryd.prog) w .mul 24 .f32 _ _ _ e3; have HH := Lib.hid hh; clear e1 e2 e3 hh ha
  go_enter Tryd.func103, Tryd.ntmps103
  go_wp2_with (go_at_call 114; refine (waterSpeed_any he HH.out _).mono ?_; rintro e w1 ⟨rfl, rfl⟩)
  go_ret
  exact ⟨rfl, rfl⟩
theorem specFlow_any (ar he : Nat) (g : Int) (ha : radB ar = true) (hh : radB he = true) (g0 : 0 ≤ g) (g1 : g ≤ 16) (w : World) : Calls Tryd.prog 78 #[.float .f32 ar, .float .f32 he, .int .i64 g] w fun e w' => e = .returned (.float .f32 (flowN ar he g)) ∧ w = w' := by
  obtain ⟨e1, e2, e3, _⟩ := flow_some ha hh g0 g1; have rm1 := fun w => run_float_arith (P := Tryd.prog) w .mul 24 .f32 _ _ _ e1; have rq1 := fun w => run_float_arith (P := Tryd.prog) w .quo 24 .f32 _ _ _ e2; have rm2 := fun w => run_float_arith (P := Tryd.prog) w .mul 24 .f32 _ _ _ e3; have HH := Lib.hid hh; clear e1 e2 e3 hh ha
  go_enter Tryd.func78, Tryd.ntmps78
  go_wp2_with (go_at_call 98; refine (l03Fast_any he HH.out _).mono ?_; rintro e w1 ⟨rfl, rfl⟩)
  go_ret
  exact ⟨rfl, rfl⟩
theorem inB_le {x lo hi : Int} (h : inB x lo hi = true) : lo ≤ x ∧ x ≤ hi := by
  unfold inB at h
  simpa using h
end Go.Proofs.YtjkgiknklkfipaaDoor
