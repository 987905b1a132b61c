/-
  The three functions of a mill into which water flows, and their laws.
-/
import Derived.Test.YtajifkbpjabciaaDoorTq
namespace Go.Proofs.YtajifkbpjabciaaDoor
open Go.RowKit Go.ChangeShapes Go.WideShapes Go.Deep
attribute [local go_sem ↓] Go.wp_at_zero Go.wp_at_succ
set_option linter.unusedVariables false
set_option linter.unusedSimpArgs false
set_option maxRecDepth 100000
theorem specFillOf_ok (M : Ml) (wM : (Lit.int .i16 M.b).wf = true) (f s : Nat) (hM : Hid (GoodM M)) (Hf : Hid (psB f = true)) (Hs : Hid (spB s = true)) (w : World) : Calls Tryd.prog 17 #[.agg #[.int .i16 M.b, .float .f32 M.h, .float .f32 M.r], .float .f32 f, .float .f32 s] w (RFC (cn (fillN M f s)) 0 w) := by
  have et := Lib.hid (show askC M f s = 0 from (by unfold askC; simp [hM.out.ok, Hf.out, Hs.out]))
  have H0 := Lib.hid (AtMl.new w M)
  go_enter Tryd.func17, Tryd.ntmps17
  go_wp2_with (first | (go_at_call 41; refine (specAsk_any M wM f s _).mono ?_; rintro e w1 ⟨rfl, b1⟩; have B1 : Hid (Below w.heap.size w w1) := b_then (b_alloc (Below.refl _ _) _) b1; have l1 := H0.out.on (by rfl) b1; have HL := Lib.hid l1; obtain ⟨c0, c1, c2⟩ := l1.cells; clear b1 l1; rw [et.out]) | (go_at_call 42; refine (specFill_any M hM.out f s Hf.out Hs.out _).mono ?_; rintro e w2 ⟨rfl, b2⟩))
  all_goals
    go_ret2
    refine ⟨_, rfl, cn_lit _, ?_⟩
    have B2 := B1.out
    repeat (first | exact B2 | exact Below.refl _ _ | refine b_drewN ?_ _ | refine b_drew ?_ | refine b_alloc ?_ _ | refine b_then ?_ (by assumption))
theorem specFillOf_range (M : Ml) (wM : (Lit.int .i16 M.b).wf = true) (f s : Nat) (hk : okM M = true) (hf : (psB f && spB s) = false) (w : World) : Calls Tryd.prog 17 #[.agg #[.int .i16 M.b, .float .f32 M.h, .float .f32 M.r], .float .f32 f, .float .f32 s] w (RFC (cn (0)) 2 w) := by
  have et := Lib.hid (show askC M f s = 2 from (by unfold askC; simp [hk, hf]))
  clear hk hf
  have H0 := Lib.hid (AtMl.new w M)
  go_enter Tryd.func17, Tryd.ntmps17
  go_wp2_with (first | (go_at_call 41; refine (specAsk_any M wM f s _).mono ?_; rintro e w1 ⟨rfl, b1⟩; have B1 : Hid (Below w.heap.size w w1) := b_then (b_alloc (Below.refl _ _) _) b1; have l1 := H0.out.on (by rfl) b1; have HL := Lib.hid l1; obtain ⟨c0, c1, c2⟩ := l1.cells; clear b1 l1; rw [et.out]))
  all_goals
    go_ret2
    refine ⟨_, rfl, cn_lit _, ?_⟩
    have B2 := B1.out
    repeat (first | exact B2 | exact Below.refl _ _ | refine b_drewN ?_ _ | refine b_drew ?_ | refine b_alloc ?_ _ | refine b_then ?_ (by assumption))
theorem specFillOf_invalid (M : Ml) (wM : (Lit.int .i16 M.b).wf = true) (f s : Nat) (hk : okM M = false) (w : World) : Calls Tryd.prog 17 #[.agg #[.int .i16 M.b, .float .f32 M.h, .float .f32 M.r], .float .f32 f, .float .f32 s] w (RFC (cn (0)) 1 w) := by
  have et := Lib.hid (show askC M f s = 1 from (by unfold askC; simp [hk]))
  clear hk
  have H0 := Lib.hid (AtMl.new w M)
  go_enter Tryd.func17, Tryd.ntmps17
  go_wp2_with (first | (go_at_call 41; refine (specAsk_any M wM f s _).mono ?_; rintro e w1 ⟨rfl, b1⟩; have B1 : Hid (Below w.heap.size w w1) := b_then (b_alloc (Below.refl _ _) _) b1; have l1 := H0.out.on (by rfl) b1; have HL := Lib.hid l1; obtain ⟨c0, c1, c2⟩ := l1.cells; clear b1 l1; rw [et.out]))
  all_goals
    go_ret2
    refine ⟨_, rfl, cn_lit _, ?_⟩
    have B2 := B1.out
    repeat (first | exact B2 | exact Below.refl _ _ | refine b_drewN ?_ _ | refine b_drew ?_ | refine b_alloc ?_ _ | refine b_then ?_ (by assumption))
theorem specFillOf_any (M : Ml) (wM : (Lit.int .i16 M.b).wf = true) (wh : M.h < 4294967296) (f s : Nat) (w : World) : Calls Tryd.prog 17 #[.agg #[.int .i16 M.b, .float .f32 M.h, .float .f32 M.r], .float .f32 f, .float .f32 s] w (RFC (zeroIf (askC M f s) (cn (fillN M f s))) (askC M f s) w) := by
  unfold askC
  rcases Bool.eq_false_or_eq_true (okM M) with hk | hk
  · rcases Bool.eq_false_or_eq_true (psB f && spB s) with hf | hf
    · simp only [hk, hf, if_true]
      rw [Bool.and_eq_true] at hf
      exact specFillOf_ok M wM f s ⟨hk, wM, wh⟩ hf.1 hf.2 w
    · simp only [hk, hf, if_true, if_false, Bool.false_eq_true]
      exact specFillOf_range M wM f s hk hf w
  · simp only [hk, if_false, Bool.false_eq_true]
    exact specFillOf_invalid M wM f s hk w
theorem implFillOf_ok (M : Ml) (wM : (Lit.int .i16 M.b).wf = true) (f s : Nat) (hM : Hid (GoodM M)) (Hf : Hid (psB f = true)) (Hs : Hid (spB s = true)) (w : World) (S : Sens) (hS : SenAt w S) : Calls Tryd.prog 19 #[.agg #[.int .i16 M.b, .float .f32 M.h, .float .f32 M.r], .float .f32 f, .float .f32 s] w (RFC (cn (fillN M f s)) 0 w) := by
  have HS := Lib.hid hS; clear hS
  have et := Lib.hid (show turnV S M f s = .nilIface from (by unfold turnV; simp [hM.out.ok, Hf.out, Hs.out]))
  have H0 := Lib.hid (AtMl.new w M)
  go_enter Tryd.func19, Tryd.ntmps19
  go_wp2_with (first | (go_at_call 43; refine (turnError_any S M f s _ (SenAt.on HS.out (by rfl) (b_alloc (Below.refl _ _) _))).mono ?_; rintro e w1 ⟨rfl, b1⟩; have B1 : Hid (Below w.heap.size w w1) := b_then (b_alloc (Below.refl _ _) _) b1; have z1 : Hid (SenAt w1 S) := SenAt.on HS.out (by rfl) B1.out; have l1 := H0.out.on (by rfl) b1; have HL := Lib.hid l1; obtain ⟨c0, c1, c2⟩ := l1.cells; clear b1 l1; rw [et.out]) | (go_at_call 44; refine (implFill_any M hM.out f s Hf.out Hs.out _).mono ?_; rintro e w2 ⟨rfl, b2⟩))
  all_goals
    go_ret2
    refine ⟨_, rfl, cn_lit _, ?_⟩
    have B2 := B1.out
    repeat (first | exact B2 | exact Below.refl _ _ | refine b_drewN ?_ _ | refine b_drew ?_ | refine b_alloc ?_ _ | refine b_then ?_ (by assumption))
theorem implFillOf_range (M : Ml) (wM : (Lit.int .i16 M.b).wf = true) (f s : Nat) (hk : okM M = true) (hf : (psB f && spB s) = false) (w : World) (S : Sens) (hS : SenAt w S) : Calls Tryd.prog 19 #[.agg #[.int .i16 M.b, .float .f32 M.h, .float .f32 M.r], .float .f32 f, .float .f32 s] w (RFC (cn (0)) 2 w) := by
  have HS := Lib.hid hS; clear hS
  have et := Lib.hid (show turnV S M f s = .iface 100 (.pointer (some S.a1)) from (by unfold turnV; simp [hk, hf]))
  clear hk hf
  have H0 := Lib.hid (AtMl.new w M)
  go_enter Tryd.func19, Tryd.ntmps19
  go_wp2_with (first | (go_at_call 43; refine (turnError_any S M f s _ (SenAt.on HS.out (by rfl) (b_alloc (Below.refl _ _) _))).mono ?_; rintro e w1 ⟨rfl, b1⟩; have B1 : Hid (Below w.heap.size w w1) := b_then (b_alloc (Below.refl _ _) _) b1; have z1 : Hid (SenAt w1 S) := SenAt.on HS.out (by rfl) B1.out; have l1 := H0.out.on (by rfl) b1; have HL := Lib.hid l1; obtain ⟨c0, c1, c2⟩ := l1.cells; clear b1 l1; rw [et.out]) | (go_at_call 31; refine (codeOf_1 S _ z1.out).mono ?_; rintro e w2 ⟨rfl, rfl⟩))
  all_goals
    go_ret2
    refine ⟨_, rfl, cn_lit _, ?_⟩
    have B2 := B1.out
    repeat (first | exact B2 | exact Below.refl _ _ | refine b_drewN ?_ _ | refine b_drew ?_ | refine b_alloc ?_ _ | refine b_then ?_ (by assumption))
theorem implFillOf_invalid (M : Ml) (wM : (Lit.int .i16 M.b).wf = true) (f s : Nat) (hk : okM M = false) (w : World) (S : Sens) (hS : SenAt w S) : Calls Tryd.prog 19 #[.agg #[.int .i16 M.b, .float .f32 M.h, .float .f32 M.r], .float .f32 f, .float .f32 s] w (RFC (cn (0)) 1 w) := by
  have HS := Lib.hid hS; clear hS
  have et := Lib.hid (show turnV S M f s = .iface 100 (.pointer (some S.a0)) from (by unfold turnV; simp [hk]))
  clear hk
  have H0 := Lib.hid (AtMl.new w M)
  go_enter Tryd.func19, Tryd.ntmps19
  go_wp2_with (first | (go_at_call 43; refine (turnError_any S M f s _ (SenAt.on HS.out (by rfl) (b_alloc (Below.refl _ _) _))).mono ?_; rintro e w1 ⟨rfl, b1⟩; have B1 : Hid (Below w.heap.size w w1) := b_then (b_alloc (Below.refl _ _) _) b1; have z1 : Hid (SenAt w1 S) := SenAt.on HS.out (by rfl) B1.out; have l1 := H0.out.on (by rfl) b1; have HL := Lib.hid l1; obtain ⟨c0, c1, c2⟩ := l1.cells; clear b1 l1; rw [et.out]) | (go_at_call 31; refine (codeOf_0 S _ z1.out).mono ?_; rintro e w2 ⟨rfl, rfl⟩))
  all_goals
    go_ret2
    refine ⟨_, rfl, cn_lit _, ?_⟩
    have B2 := B1.out
    repeat (first | exact B2 | exact Below.refl _ _ | refine b_drewN ?_ _ | refine b_drew ?_ | refine b_alloc ?_ _ | refine b_then ?_ (by assumption))
theorem implFillOf_any (M : Ml) (wM : (Lit.int .i16 M.b).wf = true) (wh : M.h < 4294967296) (f s : Nat) (w : World) (S : Sens) (hS : SenAt w S) : Calls Tryd.prog 19 #[.agg #[.int .i16 M.b, .float .f32 M.h, .float .f32 M.r], .float .f32 f, .float .f32 s] w (RFC (zeroIf (askC M f s) (cn (fillN M f s))) (askC M f s) w) := by
  unfold askC
  rcases Bool.eq_false_or_eq_true (okM M) with hk | hk
  · rcases Bool.eq_false_or_eq_true (psB f && spB s) with hf | hf
    · simp only [hk, hf, if_true]
      rw [Bool.and_eq_true] at hf
      exact implFillOf_ok M wM f s ⟨hk, wM, wh⟩ hf.1 hf.2 w S hS
    · simp only [hk, hf, if_true, if_false, Bool.false_eq_true]
      exact implFillOf_range M wM f s hk hf w S hS
  · simp only [hk, if_false, Bool.false_eq_true]
    exact implFillOf_invalid M wM f s hk w S hS
set_option maxRecDepth 100000 in
set_option maxHeartbeats 4000000 in
theorem walk_FnExactFillOf (M : Ml) (wM : (Lit.int .i16 M.b).wf = true ∧ (Lit.float .f32 M.h).wf = true ∧ (Lit.float .f32 M.r).wf = true) (f : Nat) (wf : (Lit.float .f32 f).wf = true) (s : Nat) (ws : (Lit.float .f32 s).wf = true) (w : World) (Z : Sens) (hZ : SenAt w Z) :
    Calls Tryd.prog 6 #[.agg #[.int .i16 M.b, .float .f32 M.h, .float .f32 M.r], .float .f32 f, .float .f32 s] w fun e w' => e = .returned (.bool true) ∧ Below w.heap.size w w' := by
  have HZ := Lib.hid hZ; clear hZ
  skip
  go_enter Tryd.func6, Tryd.ntmps6
  go_wp2_with fail
  refine (toMl_any M _).mono ?_
  rintro e w0 ⟨rfl, b0⟩
  have B0 : Hid (Below w.heap.size w w0) := b_then ((b_alloc (Below.refl _ _) _)) b0
  have l0 := AtLMl.on (AtLMl.new w M) (by rfl) b0
  clear b0
  go_wp2_with fail
  refine (specFillOf_any M wM.1 (f32_wf wM.2.1) f s _).mono ?_
  rintro e w1 ⟨r1, rfl, h1, b1⟩
  have H1 := Lib.hid h1; clear h1
  have B1 : Hid (Below w.heap.size w w1) := b_then (B0.out) b1
  have l1 := AtLMl.on l0 (by rfl) b1
  clear b1 l0
  obtain ⟨c0, c1, c2⟩ := l1.cells
  clear l1
  go_wp2_with fail
  refine (toMl_any M _).mono ?_
  rintro e w2 ⟨rfl, b2⟩
  have B2 : Hid (Below w.heap.size w w2) := b_then (B1.out) b2
  clear b2
  have Z2 : Hid (SenAt w2 Z) := SenAt.on HZ.out (by rfl) B2.out
  go_wp2_with fail
  refine (implFillOf_any M wM.1 (f32_wf wM.2.1) f s _ Z Z2.out).mono ?_
  rintro e w3 ⟨r3, rfl, h3, b3⟩
  have H3 := Lib.hid h3; clear h3
  have B3 : Hid (Below w.heap.size w w3) := b_then (B2.out) b3
  clear b3
  rcases cnx (H3.out.trans H1.out.symm) with ⟨hn2, hn1⟩ | ⟨hnn, he12⟩
  · have q1 := fun w => run_nan_wide (P := Tryd.prog) w 22 26 r1 (by rw [Tryd.underlying22]; rfl) Tryd.underlying26 hn1
    have q2 := fun w => run_nan_wide (P := Tryd.prog) w 22 26 r3 (by rw [Tryd.underlying22]; rfl) Tryd.underlying26 hn2
    clear hn1 hn2
    go_wp2_with (go_at_call 12; refine (sf_nan _ _ _ (nanTo_nan _ _) (nanTo_nan _ _)).mono ?_; rintro e w' ⟨rfl, rfl⟩)
    go_ret
    exact ⟨rfl, by first | exact B3.out.drew.drew | exact b_drewN B3.out _⟩
  · subst he12
    have q1 := fun w => run_wide (P := Tryd.prog) w 22 26 r3 (by rw [Tryd.underlying22]; rfl) Tryd.underlying26 hnn
    have q3 := (wide_some hnn).2
    clear hnn
    go_wp2_with (go_at_call 12; refine (sf_eq _ _ q3).mono ?_; rintro e w' ⟨rfl, rfl⟩)
    go_ret
    exact ⟨rfl, B3.out⟩
theorem specSpilledBy_ok (M : Ml) (wM : (Lit.int .i16 M.b).wf = true) (f s : Nat) (hM : Hid (GoodM M)) (Hf : Hid (psB f = true)) (Hs : Hid (spB s = true)) (w : World) : Calls Tryd.prog 20 #[.agg #[.int .i16 M.b, .float .f32 M.h, .float .f32 M.r], .float .f32 f, .float .f32 s] w (RFC (cn (spillN M f s)) 0 w) := by
  have et := Lib.hid (show askC M f s = 0 from (by unfold askC; simp [hM.out.ok, Hf.out, Hs.out]))
  have HP := Lib.hid (pas_some hM.out Hs.out).1
  have HN := Lib.hid (left_some hM.out Hf.out Hs.out).2
  have rm1 := fun w => run_float_arith (P := Tryd.prog) w .mul 22 .f32 _ _ _ HP.out
  have rm2 := fun w => run_float_arith (P := Tryd.prog) w .mul 22 .f32 _ _ _ (taken_some hM.out Hf.out Hs.out).1
  have rs1 := fun w => run_float_arith (P := Tryd.prog) w .sub 22 .f32 _ _ _ (left_some hM.out Hf.out Hs.out).1
  have H0 := Lib.hid (AtMl.new w M)
  go_enter Tryd.func20, Tryd.ntmps20
  go_wp2_with (first | (go_at_call 41; refine (specAsk_any M wM f s _).mono ?_; rintro e w1 ⟨rfl, b1⟩; have B1 : Hid (Below w.heap.size w w1) := b_then (b_alloc (Below.refl _ _) _) b1; have l1 := H0.out.on (by rfl) b1; have HL := Lib.hid l1; obtain ⟨c0, c1, c2⟩ := l1.cells; clear b1 l1; rw [et.out]))
  all_goals
    go_region_law (go_simp; go_at_call 42; refine (specFill_any M hM.out f s Hf.out Hs.out _).mono ?_; rintro e w2 ⟨rfl, b2⟩; (try (obtain ⟨u0, u1, u2⟩ := (HL.out.on (by rfl) b2).cells)); dsimp only)
  all_goals
    go_wp2_with (go_at_call 45; refine (l03Least_any _ _).mono ?_; rintro e w4 ⟨rfl, rfl⟩)
  all_goals
    go_ret2
    refine ⟨_, rfl, cn_lit _, ?_⟩
    have B2 := B1.out
    repeat (first | exact B2 | exact Below.refl _ _ | refine b_drewN ?_ _ | refine b_drew ?_ | refine b_alloc ?_ _ | refine b_then ?_ (by assumption))
theorem specSpilledBy_range (M : Ml) (wM : (Lit.int .i16 M.b).wf = true) (f s : Nat) (hk : okM M = true) (hf : (psB f && spB s) = false) (w : World) : Calls Tryd.prog 20 #[.agg #[.int .i16 M.b, .float .f32 M.h, .float .f32 M.r], .float .f32 f, .float .f32 s] w (RFC (cn (0)) 2 w) := by
  have et := Lib.hid (show askC M f s = 2 from (by unfold askC; simp [hk, hf]))
  clear hk hf
  have H0 := Lib.hid (AtMl.new w M)
  go_enter Tryd.func20, Tryd.ntmps20
  go_wp2_with (first | (go_at_call 41; refine (specAsk_any M wM f s _).mono ?_; rintro e w1 ⟨rfl, b1⟩; have B1 : Hid (Below w.heap.size w w1) := b_then (b_alloc (Below.refl _ _) _) b1; have l1 := H0.out.on (by rfl) b1; have HL := Lib.hid l1; obtain ⟨c0, c1, c2⟩ := l1.cells; clear b1 l1; rw [et.out]))
  all_goals
    go_ret2
    refine ⟨_, rfl, cn_lit _, ?_⟩
    have B2 := B1.out
    repeat (first | exact B2 | exact Below.refl _ _ | refine b_drewN ?_ _ | refine b_drew ?_ | refine b_alloc ?_ _ | refine b_then ?_ (by assumption))
theorem specSpilledBy_invalid (M : Ml) (wM : (Lit.int .i16 M.b).wf = true) (f s : Nat) (hk : okM M = false) (w : World) : Calls Tryd.prog 20 #[.agg #[.int .i16 M.b, .float .f32 M.h, .float .f32 M.r], .float .f32 f, .float .f32 s] w (RFC (cn (0)) 1 w) := by
  have et := Lib.hid (show askC M f s = 1 from (by unfold askC; simp [hk]))
  clear hk
  have H0 := Lib.hid (AtMl.new w M)
  go_enter Tryd.func20, Tryd.ntmps20
  go_wp2_with (first | (go_at_call 41; refine (specAsk_any M wM f s _).mono ?_; rintro e w1 ⟨rfl, b1⟩; have B1 : Hid (Below w.heap.size w w1) := b_then (b_alloc (Below.refl _ _) _) b1; have l1 := H0.out.on (by rfl) b1; have HL := Lib.hid l1; obtain ⟨c0, c1, c2⟩ := l1.cells; clear b1 l1; rw [et.out]))
  all_goals
    go_ret2
    refine ⟨_, rfl, cn_lit _, ?_⟩
    have B2 := B1.out
    repeat (first | exact B2 | exact Below.refl _ _ | refine b_drewN ?_ _ | refine b_drew ?_ | refine b_alloc ?_ _ | refine b_then ?_ (by assumption))
theorem specSpilledBy_any (M : Ml) (wM : (Lit.int .i16 M.b).wf = true) (wh : M.h < 4294967296) (f s : Nat) (w : World) : Calls Tryd.prog 20 #[.agg #[.int .i16 M.b, .float .f32 M.h, .float .f32 M.r], .float .f32 f, .float .f32 s] w (RFC (zeroIf (askC M f s) (cn (spillN M f s))) (askC M f s) w) := by
  unfold askC
  rcases Bool.eq_false_or_eq_true (okM M) with hk | hk
  · rcases Bool.eq_false_or_eq_true (psB f && spB s) with hf | hf
    · simp only [hk, hf, if_true]
      rw [Bool.and_eq_true] at hf
      exact specSpilledBy_ok M wM f s ⟨hk, wM, wh⟩ hf.1 hf.2 w
    · simp only [hk, hf, if_true, if_false, Bool.false_eq_true]
      exact specSpilledBy_range M wM f s hk hf w
  · simp only [hk, if_false, Bool.false_eq_true]
    exact specSpilledBy_invalid M wM f s hk w
theorem implSpilledBy_ok (M : Ml) (wM : (Lit.int .i16 M.b).wf = true) (f s : Nat) (hM : Hid (GoodM M)) (Hf : Hid (psB f = true)) (Hs : Hid (spB s = true)) (w : World) (S : Sens) (hS : SenAt w S) : Calls Tryd.prog 21 #[.agg #[.int .i16 M.b, .float .f32 M.h, .float .f32 M.r], .float .f32 f, .float .f32 s] w (RFC (cn (spillN M f s)) 0 w) := by
  have HS := Lib.hid hS; clear hS
  have et := Lib.hid (show turnV S M f s = .nilIface from (by unfold turnV; simp [hM.out.ok, Hf.out, Hs.out]))
  have HP := Lib.hid (pas_some hM.out Hs.out).1
  have HN := Lib.hid (left_some hM.out Hf.out Hs.out).2
  have rm1 := fun w => run_float_arith (P := Tryd.prog) w .mul 22 .f32 _ _ _ HP.out
  have rm2 := fun w => run_float_arith (P := Tryd.prog) w .mul 22 .f32 _ _ _ (taken_some hM.out Hf.out Hs.out).1
  have rs1 := fun w => run_float_arith (P := Tryd.prog) w .sub 22 .f32 _ _ _ (left_some hM.out Hf.out Hs.out).1
  have H0 := Lib.hid (AtMl.new w M)
  go_enter Tryd.func21, Tryd.ntmps21
  go_wp2_with (first | (go_at_call 43; refine (turnError_any S M f s _ (SenAt.on HS.out (by rfl) (b_alloc (Below.refl _ _) _))).mono ?_; rintro e w1 ⟨rfl, b1⟩; have B1 : Hid (Below w.heap.size w w1) := b_then (b_alloc (Below.refl _ _) _) b1; have z1 : Hid (SenAt w1 S) := SenAt.on HS.out (by rfl) B1.out; have l1 := H0.out.on (by rfl) b1; have HL := Lib.hid l1; obtain ⟨c0, c1, c2⟩ := l1.cells; clear b1 l1; rw [et.out]))
  all_goals
    go_region_law (first | (go_simp; go_at_call 44; refine (implFill_any M hM.out f s Hf.out Hs.out _).mono ?_; rintro e w2 ⟨rfl, b2⟩; (try (obtain ⟨u0, u1, u2⟩ := (HL.out.on (by rfl) b2).cells)); dsimp only) | (go_simp; go_at_call 47; refine (passing_any M s _ HP.out _).mono ?_; rintro e w3 ⟨rfl, b3⟩; dsimp only) | (go_simp; go_at_call 46; refine (notBelow0_any _ HN.out.1 HN.out.2 _).mono ?_; rintro e w4 ⟨rfl, rfl⟩; dsimp only))
  all_goals
    go_wp2
  all_goals
    go_ret2
    refine ⟨_, rfl, cn_lit _, ?_⟩
    have B2 := B1.out
    repeat (first | exact B2 | exact Below.refl _ _ | refine b_drewN ?_ _ | refine b_drew ?_ | refine b_alloc ?_ _ | refine b_then ?_ (by assumption))
theorem implSpilledBy_range (M : Ml) (wM : (Lit.int .i16 M.b).wf = true) (f s : Nat) (hk : okM M = true) (hf : (psB f && spB s) = false) (w : World) (S : Sens) (hS : SenAt w S) : Calls Tryd.prog 21 #[.agg #[.int .i16 M.b, .float .f32 M.h, .float .f32 M.r], .float .f32 f, .float .f32 s] w (RFC (cn (0)) 2 w) := by
  have HS := Lib.hid hS; clear hS
  have et := Lib.hid (show turnV S M f s = .iface 100 (.pointer (some S.a1)) from (by unfold turnV; simp [hk, hf]))
  clear hk hf
  have H0 := Lib.hid (AtMl.new w M)
  go_enter Tryd.func21, Tryd.ntmps21
  go_wp2_with (first | (go_at_call 43; refine (turnError_any S M f s _ (SenAt.on HS.out (by rfl) (b_alloc (Below.refl _ _) _))).mono ?_; rintro e w1 ⟨rfl, b1⟩; have B1 : Hid (Below w.heap.size w w1) := b_then (b_alloc (Below.refl _ _) _) b1; have z1 : Hid (SenAt w1 S) := SenAt.on HS.out (by rfl) B1.out; have l1 := H0.out.on (by rfl) b1; have HL := Lib.hid l1; obtain ⟨c0, c1, c2⟩ := l1.cells; clear b1 l1; rw [et.out]) | (go_at_call 31; refine (codeOf_1 S _ z1.out).mono ?_; rintro e w2 ⟨rfl, rfl⟩))
  all_goals
    go_ret2
    refine ⟨_, rfl, cn_lit _, ?_⟩
    have B2 := B1.out
    repeat (first | exact B2 | exact Below.refl _ _ | refine b_drewN ?_ _ | refine b_drew ?_ | refine b_alloc ?_ _ | refine b_then ?_ (by assumption))
theorem implSpilledBy_invalid (M : Ml) (wM : (Lit.int .i16 M.b).wf = true) (f s : Nat) (hk : okM M = false) (w : World) (S : Sens) (hS : SenAt w S) : Calls Tryd.prog 21 #[.agg #[.int .i16 M.b, .float .f32 M.h, .float .f32 M.r], .float .f32 f, .float .f32 s] w (RFC (cn (0)) 1 w) := by
  have HS := Lib.hid hS; clear hS
  have et := Lib.hid (show turnV S M f s = .iface 100 (.pointer (some S.a0)) from (by unfold turnV; simp [hk]))
  clear hk
  have H0 := Lib.hid (AtMl.new w M)
  go_enter Tryd.func21, Tryd.ntmps21
  go_wp2_with (first | (go_at_call 43; refine (turnError_any S M f s _ (SenAt.on HS.out (by rfl) (b_alloc (Below.refl _ _) _))).mono ?_; rintro e w1 ⟨rfl, b1⟩; have B1 : Hid (Below w.heap.size w w1) := b_then (b_alloc (Below.refl _ _) _) b1; have z1 : Hid (SenAt w1 S) := SenAt.on HS.out (by rfl) B1.out; have l1 := H0.out.on (by rfl) b1; have HL := Lib.hid l1; obtain ⟨c0, c1, c2⟩ := l1.cells; clear b1 l1; rw [et.out]) | (go_at_call 31; refine (codeOf_0 S _ z1.out).mono ?_; rintro e w2 ⟨rfl, rfl⟩))
  all_goals
    go_ret2
    refine ⟨_, rfl, cn_lit _, ?_⟩
    have B2 := B1.out
    repeat (first | exact B2 | exact Below.refl _ _ | refine b_drewN ?_ _ | refine b_drew ?_ | refine b_alloc ?_ _ | refine b_then ?_ (by assumption))
theorem implSpilledBy_any (M : Ml) (wM : (Lit.int .i16 M.b).wf = true) (wh : M.h < 4294967296) (f s : Nat) (w : World) (S : Sens) (hS : SenAt w S) : Calls Tryd.prog 21 #[.agg #[.int .i16 M.b, .float .f32 M.h, .float .f32 M.r], .float .f32 f, .float .f32 s] w (RFC (zeroIf (askC M f s) (cn (spillN M f s))) (askC M f s) w) := by
  unfold askC
  rcases Bool.eq_false_or_eq_true (okM M) with hk | hk
  · rcases Bool.eq_false_or_eq_true (psB f && spB s) with hf | hf
    · simp only [hk, hf, if_true]
      rw [Bool.and_eq_true] at hf
      exact implSpilledBy_ok M wM f s ⟨hk, wM, wh⟩ hf.1 hf.2 w S hS
    · simp only [hk, hf, if_true, if_false, Bool.false_eq_true]
      exact implSpilledBy_range M wM f s hk hf w S hS
  · simp only [hk, if_false, Bool.false_eq_true]
    exact implSpilledBy_invalid M wM f s hk w S hS
set_option maxRecDepth 100000 in
set_option maxHeartbeats 4000000 in
theorem walk_FnExactSpilledBy (M : Ml) (wM : (Lit.int .i16 M.b).wf = true ∧ (Lit.float .f32 M.h).wf = true ∧ (Lit.float .f32 M.r).wf = true) (f : Nat) (wf : (Lit.float .f32 f).wf = true) (s : Nat) (ws : (Lit.float .f32 s).wf = true) (w : World) (Z : Sens) (hZ : SenAt w Z) :
    Calls Tryd.prog 7 #[.agg #[.int .i16 M.b, .float .f32 M.h, .float .f32 M.r], .float .f32 f, .float .f32 s] w fun e w' => e = .returned (.bool true) ∧ Below w.heap.size w w' := by
  have HZ := Lib.hid hZ; clear hZ
  skip
  go_enter Tryd.func7, Tryd.ntmps7
  go_wp2_with fail
  refine (toMl_any M _).mono ?_
  rintro e w0 ⟨rfl, b0⟩
  have B0 : Hid (Below w.heap.size w w0) := b_then ((b_alloc (Below.refl _ _) _)) b0
  have l0 := AtLMl.on (AtLMl.new w M) (by rfl) b0
  clear b0
  go_wp2_with fail
  refine (specSpilledBy_any M wM.1 (f32_wf wM.2.1) f s _).mono ?_
  rintro e w1 ⟨r1, rfl, h1, b1⟩
  have H1 := Lib.hid h1; clear h1
  have B1 : Hid (Below w.heap.size w w1) := b_then (B0.out) b1
  have l1 := AtLMl.on l0 (by rfl) b1
  clear b1 l0
  obtain ⟨c0, c1, c2⟩ := l1.cells
  clear l1
  go_wp2_with fail
  refine (toMl_any M _).mono ?_
  rintro e w2 ⟨rfl, b2⟩
  have B2 : Hid (Below w.heap.size w w2) := b_then (B1.out) b2
  clear b2
  have Z2 : Hid (SenAt w2 Z) := SenAt.on HZ.out (by rfl) B2.out
  go_wp2_with fail
  refine (implSpilledBy_any M wM.1 (f32_wf wM.2.1) f s _ Z Z2.out).mono ?_
  rintro e w3 ⟨r3, rfl, h3, b3⟩
  have H3 := Lib.hid h3; clear h3
  have B3 : Hid (Below w.heap.size w w3) := b_then (B2.out) b3
  clear b3
  rcases cnx (H3.out.trans H1.out.symm) with ⟨hn2, hn1⟩ | ⟨hnn, he12⟩
  · have q1 := fun w => run_nan_wide (P := Tryd.prog) w 22 26 r1 (by rw [Tryd.underlying22]; rfl) Tryd.underlying26 hn1
    have q2 := fun w => run_nan_wide (P := Tryd.prog) w 22 26 r3 (by rw [Tryd.underlying22]; rfl) Tryd.underlying26 hn2
    clear hn1 hn2
    go_wp2_with (go_at_call 12; refine (sf_nan _ _ _ (nanTo_nan _ _) (nanTo_nan _ _)).mono ?_; rintro e w' ⟨rfl, rfl⟩)
    go_ret
    exact ⟨rfl, by first | exact B3.out.drew.drew | exact b_drewN B3.out _⟩
  · subst he12
    have q1 := fun w => run_wide (P := Tryd.prog) w 22 26 r3 (by rw [Tryd.underlying22]; rfl) Tryd.underlying26 hnn
    have q3 := (wide_some hnn).2
    clear hnn
    go_wp2_with (go_at_call 12; refine (sf_eq _ _ q3).mono ?_; rintro e w' ⟨rfl, rfl⟩)
    go_ret
    exact ⟨rfl, B3.out⟩
theorem specTorqueFrom_ok (M : Ml) (wM : (Lit.int .i16 M.b).wf = true) (f s : Nat) (hM : Hid (GoodM M)) (Hf : Hid (psB f = true)) (Hs : Hid (spB s = true)) (w : World) : Calls Tryd.prog 22 #[.agg #[.int .i16 M.b, .float .f32 M.h, .float .f32 M.r], .float .f32 f, .float .f32 s] w (RFC (cn (torqN M f s)) 0 w) := by
  have et := Lib.hid (show askC M f s = 0 from (by unfold askC; simp [hM.out.ok, Hf.out, Hs.out]))
  have H0 := Lib.hid (AtMl.new w M)
  go_enter Tryd.func22, Tryd.ntmps22
  go_wp2_with (first | (go_at_call 41; refine (specAsk_any M wM f s _).mono ?_; rintro e w1 ⟨rfl, b1⟩; have B1 : Hid (Below w.heap.size w w1) := b_then (b_alloc (Below.refl _ _) _) b1; have l1 := H0.out.on (by rfl) b1; have HL := Lib.hid l1; obtain ⟨c0, c1, c2⟩ := l1.cells; clear b1 l1; rw [et.out]) | (go_at_call 48; refine (specTorque_any M hM.out f s Hf.out Hs.out _).mono ?_; rintro e w2 ⟨rfl, b2⟩))
  all_goals
    go_ret2
    refine ⟨_, rfl, cn_lit _, ?_⟩
    have B2 := B1.out
    repeat (first | exact B2 | exact Below.refl _ _ | refine b_drewN ?_ _ | refine b_drew ?_ | refine b_alloc ?_ _ | refine b_then ?_ (by assumption))
theorem specTorqueFrom_range (M : Ml) (wM : (Lit.int .i16 M.b).wf = true) (f s : Nat) (hk : okM M = true) (hf : (psB f && spB s) = false) (w : World) : Calls Tryd.prog 22 #[.agg #[.int .i16 M.b, .float .f32 M.h, .float .f32 M.r], .float .f32 f, .float .f32 s] w (RFC (cn (0)) 2 w) := by
  have et := Lib.hid (show askC M f s = 2 from (by unfold askC; simp [hk, hf]))
  clear hk hf
  have H0 := Lib.hid (AtMl.new w M)
  go_enter Tryd.func22, Tryd.ntmps22
  go_wp2_with (first | (go_at_call 41; refine (specAsk_any M wM f s _).mono ?_; rintro e w1 ⟨rfl, b1⟩; have B1 : Hid (Below w.heap.size w w1) := b_then (b_alloc (Below.refl _ _) _) b1; have l1 := H0.out.on (by rfl) b1; have HL := Lib.hid l1; obtain ⟨c0, c1, c2⟩ := l1.cells; clear b1 l1; rw [et.out]))
  all_goals
    go_ret2
    refine ⟨_, rfl, cn_lit _, ?_⟩
    have B2 := B1.out
    repeat (first | exact B2 | exact Below.refl _ _ | refine b_drewN ?_ _ | refine b_drew ?_ | refine b_alloc ?_ _ | refine b_then ?_ (by assumption))
theorem specTorqueFrom_invalid (M : Ml) (wM : (Lit.int .i16 M.b).wf = true) (f s : Nat) (hk : okM M = false) (w : World) : Calls Tryd.prog 22 #[.agg #[.int .i16 M.b, .float .f32 M.h, .float .f32 M.r], .float .f32 f, .float .f32 s] w (RFC (cn (0)) 1 w) := by
  have et := Lib.hid (show askC M f s = 1 from (by unfold askC; simp [hk]))
  clear hk
  have H0 := Lib.hid (AtMl.new w M)
  go_enter Tryd.func22, Tryd.ntmps22
  go_wp2_with (first | (go_at_call 41; refine (specAsk_any M wM f s _).mono ?_; rintro e w1 ⟨rfl, b1⟩; have B1 : Hid (Below w.heap.size w w1) := b_then (b_alloc (Below.refl _ _) _) b1; have l1 := H0.out.on (by rfl) b1; have HL := Lib.hid l1; obtain ⟨c0, c1, c2⟩ := l1.cells; clear b1 l1; rw [et.out]))
  all_goals
    go_ret2
    refine ⟨_, rfl, cn_lit _, ?_⟩
    have B2 := B1.out
    repeat (first | exact B2 | exact Below.refl _ _ | refine b_drewN ?_ _ | refine b_drew ?_ | refine b_alloc ?_ _ | refine b_then ?_ (by assumption))
theorem specTorqueFrom_any (M : Ml) (wM : (Lit.int .i16 M.b).wf = true) (wh : M.h < 4294967296) (f s : Nat) (w : World) : Calls Tryd.prog 22 #[.agg #[.int .i16 M.b, .float .f32 M.h, .float .f32 M.r], .float .f32 f, .float .f32 s] w (RFC (zeroIf (askC M f s) (cn (torqN M f s))) (askC M f s) w) := by
  unfold askC
  rcases Bool.eq_false_or_eq_true (okM M) with hk | hk
  · rcases Bool.eq_false_or_eq_true (psB f && spB s) with hf | hf
    · simp only [hk, hf, if_true]
      rw [Bool.and_eq_true] at hf
      exact specTorqueFrom_ok M wM f s ⟨hk, wM, wh⟩ hf.1 hf.2 w
    · simp only [hk, hf, if_true, if_false, Bool.false_eq_true]
      exact specTorqueFrom_range M wM f s hk hf w
  · simp only [hk, if_false, Bool.false_eq_true]
    exact specTorqueFrom_invalid M wM f s hk w
theorem implTorqueFrom_ok (M : Ml) (wM : (Lit.int .i16 M.b).wf = true) (f s : Nat) (hM : Hid (GoodM M)) (Hf : Hid (psB f = true)) (Hs : Hid (spB s = true)) (w : World) (S : Sens) (hS : SenAt w S) : Calls Tryd.prog 23 #[.agg #[.int .i16 M.b, .float .f32 M.h, .float .f32 M.r], .float .f32 f, .float .f32 s] w (RFC (cn (torqN M f s)) 0 w) := by
  have HS := Lib.hid hS; clear hS
  have et := Lib.hid (show turnV S M f s = .nilIface from (by unfold turnV; simp [hM.out.ok, Hf.out, Hs.out]))
  have H0 := Lib.hid (AtMl.new w M)
  go_enter Tryd.func23, Tryd.ntmps23
  go_wp2_with (first | (go_at_call 43; refine (turnError_any S M f s _ (SenAt.on HS.out (by rfl) (b_alloc (Below.refl _ _) _))).mono ?_; rintro e w1 ⟨rfl, b1⟩; have B1 : Hid (Below w.heap.size w w1) := b_then (b_alloc (Below.refl _ _) _) b1; have z1 : Hid (SenAt w1 S) := SenAt.on HS.out (by rfl) B1.out; have l1 := H0.out.on (by rfl) b1; have HL := Lib.hid l1; obtain ⟨c0, c1, c2⟩ := l1.cells; clear b1 l1; rw [et.out]) | (go_at_call 49; refine (implTorque_any M hM.out f s Hf.out Hs.out _).mono ?_; rintro e w2 ⟨rfl, b2⟩))
  all_goals
    go_ret2
    refine ⟨_, rfl, cn_lit _, ?_⟩
    have B2 := B1.out
    repeat (first | exact B2 | exact Below.refl _ _ | refine b_drewN ?_ _ | refine b_drew ?_ | refine b_alloc ?_ _ | refine b_then ?_ (by assumption))
theorem implTorqueFrom_range (M : Ml) (wM : (Lit.int .i16 M.b).wf = true) (f s : Nat) (hk : okM M = true) (hf : (psB f && spB s) = false) (w : World) (S : Sens) (hS : SenAt w S) : Calls Tryd.prog 23 #[.agg #[.int .i16 M.b, .float .f32 M.h, .float .f32 M.r], .float .f32 f, .float .f32 s] w (RFC (cn (0)) 2 w) := by
  have HS := Lib.hid hS; clear hS
  have et := Lib.hid (show turnV S M f s = .iface 100 (.pointer (some S.a1)) from (by unfold turnV; simp [hk, hf]))
  clear hk hf
  have H0 := Lib.hid (AtMl.new w M)
  go_enter Tryd.func23, Tryd.ntmps23
  go_wp2_with (first | (go_at_call 43; refine (turnError_any S M f s _ (SenAt.on HS.out (by rfl) (b_alloc (Below.refl _ _) _))).mono ?_; rintro e w1 ⟨rfl, b1⟩; have B1 : Hid (Below w.heap.size w w1) := b_then (b_alloc (Below.refl _ _) _) b1; have z1 : Hid (SenAt w1 S) := SenAt.on HS.out (by rfl) B1.out; have l1 := H0.out.on (by rfl) b1; have HL := Lib.hid l1; obtain ⟨c0, c1, c2⟩ := l1.cells; clear b1 l1; rw [et.out]) | (go_at_call 31; refine (codeOf_1 S _ z1.out).mono ?_; rintro e w2 ⟨rfl, rfl⟩))
  all_goals
    go_ret2
    refine ⟨_, rfl, cn_lit _, ?_⟩
    have B2 := B1.out
    repeat (first | exact B2 | exact Below.refl _ _ | refine b_drewN ?_ _ | refine b_drew ?_ | refine b_alloc ?_ _ | refine b_then ?_ (by assumption))
theorem implTorqueFrom_invalid (M : Ml) (wM : (Lit.int .i16 M.b).wf = true) (f s : Nat) (hk : okM M = false) (w : World) (S : Sens) (hS : SenAt w S) : Calls Tryd.prog 23 #[.agg #[.int .i16 M.b, .float .f32 M.h, .float .f32 M.r], .float .f32 f, .float .f32 s] w (RFC (cn (0)) 1 w) := by
  have HS := Lib.hid hS; clear hS
  have et := Lib.hid (show turnV S M f s = .iface 100 (.pointer (some S.a0)) from (by unfold turnV; simp [hk]))
  clear hk
  have H0 := Lib.hid (AtMl.new w M)
  go_enter Tryd.func23, Tryd.ntmps23
  go_wp2_with (first | (go_at_call 43; refine (turnError_any S M f s _ (SenAt.on HS.out (by rfl) (b_alloc (Below.refl _ _) _))).mono ?_; rintro e w1 ⟨rfl, b1⟩; have B1 : Hid (Below w.heap.size w w1) := b_then (b_alloc (Below.refl _ _) _) b1; have z1 : Hid (SenAt w1 S) := SenAt.on HS.out (by rfl) B1.out; have l1 := H0.out.on (by rfl) b1; have HL := Lib.hid l1; obtain ⟨c0, c1, c2⟩ := l1.cells; clear b1 l1; rw [et.out]) | (go_at_call 31; refine (codeOf_0 S _ z1.out).mono ?_; rintro e w2 ⟨rfl, rfl⟩))
  all_goals
    go_ret2
    refine ⟨_, rfl, cn_lit _, ?_⟩
    have B2 := B1.out
    repeat (first | exact B2 | exact Below.refl _ _ | refine b_drewN ?_ _ | refine b_drew ?_ | refine b_alloc ?_ _ | refine b_then ?_ (by assumption))
theorem implTorqueFrom_any (M : Ml) (wM : (Lit.int .i16 M.b).wf = true) (wh : M.h < 4294967296) (f s : Nat) (w : World) (S : Sens) (hS : SenAt w S) : Calls Tryd.prog 23 #[.agg #[.int .i16 M.b, .float .f32 M.h, .float .f32 M.r], .float .f32 f, .float .f32 s] w (RFC (zeroIf (askC M f s) (cn (torqN M f s))) (askC M f s) w) := by
  unfold askC
  rcases Bool.eq_false_or_eq_true (okM M) with hk | hk
  · rcases Bool.eq_false_or_eq_true (psB f && spB s) with hf | hf
    · simp only [hk, hf, if_true]
      rw [Bool.and_eq_true] at hf
      exact implTorqueFrom_ok M wM f s ⟨hk, wM, wh⟩ hf.1 hf.2 w S hS
    · simp only [hk, hf, if_true, if_false, Bool.false_eq_true]
      exact implTorqueFrom_range M wM f s hk hf w S hS
  · simp only [hk, if_false, Bool.false_eq_true]
    exact implTorqueFrom_invalid M wM f s hk w S hS
set_option maxRecDepth 100000 in
set_option maxHeartbeats 4000000 in
theorem walk_FnExactTorqueFrom (M : Ml) (wM : (Lit.int .i16 M.b).wf = true ∧ (Lit.float .f32 M.h).wf = true ∧ (Lit.float .f32 M.r).wf = true) (f : Nat) (wf : (Lit.float .f32 f).wf = true) (s : Nat) (ws : (Lit.float .f32 s).wf = true) (w : World) (Z : Sens) (hZ : SenAt w Z) :
    Calls Tryd.prog 8 #[.agg #[.int .i16 M.b, .float .f32 M.h, .float .f32 M.r], .float .f32 f, .float .f32 s] w fun e w' => e = .returned (.bool true) ∧ Below w.heap.size w w' := by
  have HZ := Lib.hid hZ; clear hZ
  skip
  go_enter Tryd.func8, Tryd.ntmps8
  go_wp2_with fail
  refine (toMl_any M _).mono ?_
  rintro e w0 ⟨rfl, b0⟩
  have B0 : Hid (Below w.heap.size w w0) := b_then ((b_alloc (Below.refl _ _) _)) b0
  have l0 := AtLMl.on (AtLMl.new w M) (by rfl) b0
  clear b0
  go_wp2_with fail
  refine (specTorqueFrom_any M wM.1 (f32_wf wM.2.1) f s _).mono ?_
  rintro e w1 ⟨r1, rfl, h1, b1⟩
  have H1 := Lib.hid h1; clear h1
  have B1 : Hid (Below w.heap.size w w1) := b_then (B0.out) b1
  have l1 := AtLMl.on l0 (by rfl) b1
  clear b1 l0
  obtain ⟨c0, c1, c2⟩ := l1.cells
  clear l1
  go_wp2_with fail
  refine (toMl_any M _).mono ?_
  rintro e w2 ⟨rfl, b2⟩
  have B2 : Hid (Below w.heap.size w w2) := b_then (B1.out) b2
  clear b2
  have Z2 : Hid (SenAt w2 Z) := SenAt.on HZ.out (by rfl) B2.out
  go_wp2_with fail
  refine (implTorqueFrom_any M wM.1 (f32_wf wM.2.1) f s _ Z Z2.out).mono ?_
  rintro e w3 ⟨r3, rfl, h3, b3⟩
  have H3 := Lib.hid h3; clear h3
  have B3 : Hid (Below w.heap.size w w3) := b_then (B2.out) b3
  clear b3
  rcases cnx (H3.out.trans H1.out.symm) with ⟨hn2, hn1⟩ | ⟨hnn, he12⟩
  · have q1 := fun w => run_nan_wide (P := Tryd.prog) w 22 26 r1 (by rw [Tryd.underlying22]; rfl) Tryd.underlying26 hn1
    have q2 := fun w => run_nan_wide (P := Tryd.prog) w 22 26 r3 (by rw [Tryd.underlying22]; rfl) Tryd.underlying26 hn2
    clear hn1 hn2
    go_wp2_with (go_at_call 12; refine (sf_nan _ _ _ (nanTo_nan _ _) (nanTo_nan _ _)).mono ?_; rintro e w' ⟨rfl, rfl⟩)
    go_ret
    exact ⟨rfl, by first | exact B3.out.drew.drew | exact b_drewN B3.out _⟩
  · subst he12
    have q1 := fun w => run_wide (P := Tryd.prog) w 22 26 r3 (by rw [Tryd.underlying22]; rfl) Tryd.underlying26 hnn
    have q3 := (wide_some hnn).2
    clear hnn
    go_wp2_with (go_at_call 12; refine (sf_eq _ _ q3).mono ?_; rintro e w' ⟨rfl, rfl⟩)
    go_ret
    exact ⟨rfl, B3.out⟩
end Go.Proofs.YtajifkbpjabciaaDoor
