/-
  The speed of water and the flow through a gate: the program's functions and the model's, and their laws' parts.
-/
import Derived.Test.YtajifkbpjabciaaDoorTq
import Derived.Test.YtajifkbpjabciaaDoorQuo
namespace Go.Proofs.YtajifkbpjabciaaDoor
open Go.RowKit Go.ChangeShapes Go.WideShapes Go.Deep
attribute [local go_sem ↓] Go.wp_at_zero Go.wp_at_succ
set_option linter.unusedVariables false
set_option linter.unusedSimpArgs false
set_option maxRecDepth 100000
theorem run_sqrt {x r : Nat} (h : Ieee.double.sqrt x = some r) (w : World) : (Extern.MathSqrt.sqrt #[.float .f64 x]).run Tryd.prog w = .ok (.float .f64 r) w := by
  have h' : FloatKind.f64.format.sqrt x = some r := h
  show (match FloatKind.f64.format.sqrt x with | some r => (pure (Value.float .f64 r) : Sem Value) | none => do pure (Value.float .f64 (← choose (.nanBits .f64 x x)))).run Tryd.prog w = _
  rw [h']
  rfl
theorem mathSqrt_any {x r : Nat} (h : Ieee.double.sqrt x = some r) (w : World) : Calls Tryd.prog 57 #[.float .f64 x] w fun e w' => e = .returned (.float .f64 r) ∧ w = w' := by
  have hs := run_sqrt h
  have he := @run_callFunc_extern Tryd.prog 70 _ Extern.MathSqrt.sqrt Tryd.func70 (by kernel_rfl) (by kernel_rfl) (by kernel_rfl) (by kernel_rfl)
  clear h
  go_enter Tryd.func57, Tryd.ntmps57
  go_wp2
  go_ret
  exact ⟨rfl, rfl⟩
theorem waterSpeed_any (h : Nat) (hh : radB h = true) (w : World) : Calls Tryd.prog 32 #[.float .f32 h] w fun e w' => e = .returned (.float .f32 (fastN h)) ∧ w = w' := by
  obtain ⟨e1, n1, e2, e3, _⟩ := fast_some hh
  have rm1 := fun w => run_float_arith (P := Tryd.prog) w .mul 22 .f32 _ _ _ e1
  have cw := fun w => run_wide (P := Tryd.prog) w 22 26 _ (by rw [Tryd.underlying22]; rfl) Tryd.underlying26 n1
  have cn' := fun w => run_convert_float_float (P := Tryd.prog) w 26 22 .f64 .f32 _ _ (by rw [Tryd.underlying26]; rfl) Tryd.underlying22 e3
  have E2 := Lib.hid e2
  clear e1 n1 e2 e3 hh
  go_enter Tryd.func32, Tryd.ntmps32
  go_wp2_with (go_at_call 57; refine (mathSqrt_any E2.out _).mono ?_; rintro e w1 ⟨rfl, rfl⟩)
  go_ret
  exact ⟨rfl, rfl⟩
theorem l03Root_any (h : Nat) (hh : radB h = true) (w : World) : Calls Tryd.prog 55 #[.float .f32 (sqN19 h)] w fun e w' => e = .returned (.float .f32 (fastN h)) ∧ w = w' := by
  obtain ⟨e1, n1, e2, e3, _⟩ := fast_some hh
  have cw := fun w => run_wide (P := Tryd.prog) w 22 26 _ (by rw [Tryd.underlying22]; rfl) Tryd.underlying26 n1
  have cn' := fun w => run_convert_float_float (P := Tryd.prog) w 26 22 .f64 .f32 _ _ (by rw [Tryd.underlying26]; rfl) Tryd.underlying22 e3
  have E2 := Lib.hid e2
  clear e1 n1 e2 e3 hh
  go_enter Tryd.func55, Tryd.ntmps55
  go_wp2_with (go_at_call 57; refine (mathSqrt_any E2.out _).mono ?_; rintro e w1 ⟨rfl, rfl⟩)
  go_ret
  exact ⟨rfl, rfl⟩
theorem l03Fast_any (h : Nat) (hh : radB h = true) (w : World) : Calls Tryd.prog 29 #[.float .f32 h] w fun e w' => e = .returned (.float .f32 (fastN h)) ∧ w = w' := by
  have rm1 := fun w => run_float_arith (P := Tryd.prog) w .mul 22 .f32 _ _ _ (fast_some hh).1
  have HH := Lib.hid hh
  clear hh
  go_enter Tryd.func29, Tryd.ntmps29
  go_wp2_with (go_at_call 55; refine (l03Root_any h HH.out _).mono ?_; rintro e w1 ⟨rfl, rfl⟩)
  go_ret
  exact ⟨rfl, rfl⟩
theorem implFlow_any (ar he : Nat) (g : Int) (ha : radB ar = true) (hh : radB he = true) (g0 : 0 ≤ g) (g1 : g ≤ 16) (w : World) : Calls Tryd.prog 36 #[.float .f32 ar, .float .f32 he, .int .i64 g] w fun e w' => e = .returned (.float .f32 (flowN ar he g)) ∧ w = w' := by
  obtain ⟨e1, e2, e3, _⟩ := flow_some ha hh g0 g1; have rm1 := fun w => run_float_arith (P := Tryd.prog) w .mul 22 .f32 _ _ _ e1; have rq1 := fun w => run_float_arith (P := Tryd.prog) w .quo 22 .f32 _ _ _ e2; have rm2 := fun w => run_float_arith (P := Tryd.prog) w .mul 22 .f32 _ _ _ e3; have HH := Lib.hid hh; clear e1 e2 e3 hh ha
  go_enter Tryd.func36, Tryd.ntmps36
  go_wp2_with (go_at_call 32; refine (waterSpeed_any he HH.out _).mono ?_; rintro e w1 ⟨rfl, rfl⟩)
  go_ret
  exact ⟨rfl, rfl⟩
theorem specFlow_any (ar he : Nat) (g : Int) (ha : radB ar = true) (hh : radB he = true) (g0 : 0 ≤ g) (g1 : g ≤ 16) (w : World) : Calls Tryd.prog 34 #[.float .f32 ar, .float .f32 he, .int .i64 g] w fun e w' => e = .returned (.float .f32 (flowN ar he g)) ∧ w = w' := by
  obtain ⟨e1, e2, e3, _⟩ := flow_some ha hh g0 g1; have rm1 := fun w => run_float_arith (P := Tryd.prog) w .mul 22 .f32 _ _ _ e1; have rq1 := fun w => run_float_arith (P := Tryd.prog) w .quo 22 .f32 _ _ _ e2; have rm2 := fun w => run_float_arith (P := Tryd.prog) w .mul 22 .f32 _ _ _ e3; have HH := Lib.hid hh; clear e1 e2 e3 hh ha
  go_enter Tryd.func34, Tryd.ntmps34
  go_wp2_with (go_at_call 29; refine (l03Fast_any he HH.out _).mono ?_; rintro e w1 ⟨rfl, rfl⟩)
  go_ret
  exact ⟨rfl, rfl⟩
def codeWs (h : Nat) : Int := if radB h then 0 else 2
theorem specWaterSpeed_any (h : Nat) (w : World) : Calls Tryd.prog 10 #[.float .f32 h] w (RFC (zeroIf (codeWs h) (cn (fastN h))) (codeWs h) w) := by
  unfold codeWs
  rcases Bool.eq_false_or_eq_true (radB h) with hk | hk
  all_goals
    have HK := Lib.hid hk
    simp only [hk, if_true, if_false, Bool.false_eq_true]
    clear hk
    go_enter Tryd.func10, Tryd.ntmps10
    go_wp2_with (first | (go_at_call 28; refine (l03Length_any _ _).mono ?_; rintro e w1 ⟨rfl, rfl⟩; have Hk1 := HK.out; rw [Hk1]; clear Hk1) | (go_at_call 29; refine (l03Fast_any h HK.out _).mono ?_; rintro e w1 ⟨rfl, rfl⟩))
    go_ret2
    exact ⟨_, rfl, cn_lit _, Below.refl _ _⟩
theorem implWaterSpeed_any (h : Nat) (w : World) (S : Sens) (hS : SenAt w S) : Calls Tryd.prog 11 #[.float .f32 h] w (RFC (zeroIf (codeWs h) (cn (fastN h))) (codeWs h) w) := by
  have hc := hS.1.2.1.cell
  have HS := Lib.hid hS
  clear hS
  unfold codeWs
  rcases Bool.eq_false_or_eq_true (radB h) with hk | hk
  all_goals
    have HK := Lib.hid hk
    simp only [hk, if_true, if_false, Bool.false_eq_true]
    clear hk
    go_enter Tryd.func11, Tryd.ntmps11
    go_wp2_with (first | (go_at_call 30; refine (isLength_any _ _).mono ?_; rintro e w1 ⟨rfl, rfl⟩; have Hk1 := HK.out; rw [Hk1]; clear Hk1) | (go_at_call 32; refine (waterSpeed_any h HK.out _).mono ?_; rintro e w1 ⟨rfl, rfl⟩) | (go_at_call 31; refine (codeOf_1 S _ HS.out).mono ?_; rintro e w1 ⟨rfl, rfl⟩))
    go_ret2
    exact ⟨_, rfl, cn_lit _, Below.refl _ _⟩
def codeFt (ar he : Nat) (g : Int) : Int := if radB ar && (radB he && inB g 0 16) then 0 else 2
theorem inB_le {x lo hi : Int} (h : inB x lo hi = true) : lo ≤ x ∧ x ≤ hi := by
  unfold inB at h
  simpa using h
theorem isLength_is {m : Nat} {b : Bool} (h : radB m = b) (w : World) : Calls Tryd.prog 30 #[.float .f32 m] w fun e w' => e = .returned (.bool b) ∧ w = w' := by subst h; exact isLength_any m w
theorem l03Length_is {m : Nat} {b : Bool} (h : radB m = b) (w : World) : Calls Tryd.prog 28 #[.float .f32 m] w fun e w' => e = .returned (.bool b) ∧ w = w' := by subst h; exact l03Length_any m w
theorem isGate_is {m : Int} {b : Bool} (h : inB m 0 16 = b) (w : World) : Calls Tryd.prog 35 #[.int .i64 m] w fun e w' => e = .returned (.bool b) ∧ w = w' := by subst h; exact isGate_any m w
theorem l00In_is {x lo hi : Int} {b : Bool} (h : inB x lo hi = b) (w : World) : Calls Tryd.prog 33 #[.int .i64 x, .int .i64 lo, .int .i64 hi] w fun e w' => e = .returned (.bool b) ∧ w = w' := by subst h; exact l00In_any x lo hi w
theorem specFlowThrough_any (ar he : Nat) (g : Int) (w : World) : Calls Tryd.prog 13 #[.float .f32 ar, .float .f32 he, .int .i64 g] w (RFC (zeroIf (codeFt ar he g) (cn (flowN ar he g))) (codeFt ar he g) w) := by
  unfold codeFt
  rcases Bool.eq_false_or_eq_true (radB ar) with h1 | h1 <;> rcases Bool.eq_false_or_eq_true (radB he) with h2 | h2 <;> rcases Bool.eq_false_or_eq_true (inB g 0 16) with h3 | h3
  all_goals
    have H1 := Lib.hid h1; have H2 := Lib.hid h2; have H3 := Lib.hid h3; simp only [h1, h2, h3, if_true, if_false, Bool.false_eq_true, Bool.and_true, Bool.and_false]; clear h1 h2 h3
    go_enter Tryd.func13, Tryd.ntmps13
    go_wp2_with (first | (go_at_call_of 28 (Value.float .f32 ar); with_reducible refine (l03Length_is H1.out _).mono ?_; rintro e w1 ⟨rfl, rfl⟩) | (go_at_call_of 28 (Value.float .f32 he); with_reducible refine (l03Length_is H2.out _).mono ?_; rintro e w1 ⟨rfl, rfl⟩) | (go_at_call 33; refine (l00In_is H3.out _).mono ?_; rintro e w1 ⟨rfl, rfl⟩) | (go_at_call 34; refine (specFlow_any ar he g H1.out H2.out (inB_le H3.out).1 (inB_le H3.out).2 _).mono ?_; rintro e w1 ⟨rfl, rfl⟩))
    go_ret2
    exact ⟨_, rfl, cn_lit _, Below.refl _ _⟩
theorem implFlowThrough_any (ar he : Nat) (g : Int) (w : World) (S : Sens) (hS : SenAt w S) : Calls Tryd.prog 14 #[.float .f32 ar, .float .f32 he, .int .i64 g] w (RFC (zeroIf (codeFt ar he g) (cn (flowN ar he g))) (codeFt ar he g) w) := by
  have hc := hS.1.2.1.cell
  have HS := Lib.hid hS
  clear hS
  unfold codeFt
  rcases Bool.eq_false_or_eq_true (radB ar) with h1 | h1 <;> rcases Bool.eq_false_or_eq_true (radB he) with h2 | h2 <;> rcases Bool.eq_false_or_eq_true (inB g 0 16) with h3 | h3
  all_goals
    have H1 := Lib.hid h1; have H2 := Lib.hid h2; have H3 := Lib.hid h3; simp only [h1, h2, h3, if_true, if_false, Bool.false_eq_true, Bool.and_true, Bool.and_false]; clear h1 h2 h3
    go_enter Tryd.func14, Tryd.ntmps14
    go_wp2_with (first | (go_at_call_of 30 (Value.float .f32 ar); with_reducible refine (isLength_is H1.out _).mono ?_; rintro e w1 ⟨rfl, rfl⟩) | (go_at_call_of 30 (Value.float .f32 he); with_reducible refine (isLength_is H2.out _).mono ?_; rintro e w1 ⟨rfl, rfl⟩) | (go_at_call 35; refine (isGate_is H3.out _).mono ?_; rintro e w1 ⟨rfl, rfl⟩) | (go_at_call 36; refine (implFlow_any ar he g H1.out H2.out (inB_le H3.out).1 (inB_le H3.out).2 _).mono ?_; rintro e w1 ⟨rfl, rfl⟩) | (go_at_call 31; refine (codeOf_1 S _ HS.out).mono ?_; rintro e w1 ⟨rfl, rfl⟩))
    go_ret2
    exact ⟨_, rfl, cn_lit _, Below.refl _ _⟩
end Go.Proofs.YtajifkbpjabciaaDoor
