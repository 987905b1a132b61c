/-
  When teeth are the same.
-/
import Derived.ChangeKeysEq
import Derived.Test.YtndmkfmfphgckaaYh
namespace Go.Proofs.Ytndmkfmfphgckaa
open Go.RowKit Go.ChangeShapes Go.WideShapes Go.Deep
attribute [local go_sem ↓] Go.wp_at_zero Go.wp_at_succ
set_option linter.unusedVariables false
set_option linter.unusedSimpArgs false
set_option maxRecDepth 100000
attribute [local go_sem] bits_callB
theorem eqA2u (a b a' b' : Int) (w : World) : (Op.equalIn 9999 77 (.agg #[.int .u32 a, .int .u32 b]) (.agg #[.int .u32 a', .int .u32 b'])).run Try.prog w = .ok (a == a' && b == b') w := by
  have hu : Try.prog.underlying 77 = some (.array 2 76) := Try.underlying77
  obtain ⟨i, hi⟩ := info_of_underlying Try.underlying76
  have hc : Try.prog.cellsOf 76 = 1 := by kernel_rfl
  have he : Try.prog.plainKey 76 = true := by kernel_rfl
  have p0 := fun w => run_part_plain w he (xs := #[.int .u32 a, .int .u32 b]) (off := 0) (v := .int .u32 a) rfl
  have p1 := fun w => run_part_plain w he (xs := #[.int .u32 a, .int .u32 b]) (off := 1) (v := .int .u32 b) rfl
  have p2 := fun w => run_part_plain w he (xs := #[.int .u32 a', .int .u32 b']) (off := 0) (v := .int .u32 a') rfl
  have p3 := fun w => run_part_plain w he (xs := #[.int .u32 a', .int .u32 b']) (off := 1) (v := .int .u32 b') rfl
  have r0 : ∀ w, (Op.equalIn 9998 76 (.int .u32 a) (.int .u32 a')).run Try.prog w = .ok (a == a') w := fun w => run_equalIn_int w 9997 76 .u32 .u32 a a' Try.underlying76
  have r1 : ∀ w, (Op.equalIn 9998 76 (.int .u32 b) (.int .u32 b')).run Try.prog w = .ok (b == b') w := fun w => run_equalIn_int w 9997 76 .u32 .u32 b b' Try.underlying76
  rw [show (9999 : Nat) = 9998 + 1 from rfl, run_equalIn_array w 9998 _ _ hu hi, hc, show List.range 2 = [0, 1] from rfl]
  simp only [Op.eqItems, Sem.run_bind, Nat.zero_mul, Nat.one_mul, p0, p1, p2, p3, Result.andThen_ok, r0, r1]
  cases h1 : (a == a') <;> cases h2 : (b == b') <;> simp [p1, p3, r1, h2]
attribute [local go_sem] eqA2u
def sameTh (X Y : Th) : Bool := sB X.h Y.h && sB X.u Y.u && sB X.v Y.v && (X.s == Y.s)
theorem ret_bitsTh {fn : Func} {tmps : Array Value} {W : World} {q : Nat} {a0 a1 a2 a3 : Value} (ha0 : a0.oneCell' = true) (ha1 : a1.oneCell' = true) (ha2 : a2.oneCell' = true) (ha3 : a3.oneCell' = true) (hr : fn.results = #[.cell 2 79]) (h2 : tmps.getD 2 undef = .pointer (some ⟨q, 0, none⟩)) (Z : Blk W q #[a0, a1, a2, a3] 79) :
    (results fn tmps).run Try.prog W = .ok (.agg #[a0, a1, a2, a3]) W := by
  have e0 := Z.cell 0
  have e1 := Z.cell 1
  have e2 := Z.cell 2
  have e3 := Z.cell 3
  simp at e0 e1 e2 e3
  rw [Array.getD_eq_getD_getElem?] at h2
  simp [results, hr, h2, go_sem, e0, e1, e2, e3]
set_option maxRecDepth 100000 in
set_option maxHeartbeats 4000000 in
theorem bitsTh_any (X : Th) (w : World) : Calls Try.prog 58 #[.agg #[.float .f32 X.h, .float .f32 X.u, .float .f32 X.v, .int .i8 X.s]] w (RV (.agg #[.int .u32 (cn X.h), .int .u32 (cn X.u), .int .u32 (cn X.v), .int .i8 X.s]) w) := by
  go_enter Try.func58, Try.ntmps58
  go_wp2_with fail
  (refine wp_quiet_tail 15 (by kernel_rfl) (by kernel_rfl) (by kernel_rfl) ?_; simp only [List.take_succ_cons, List.take_zero, List.drop_succ_cons, List.drop_zero])
  repeat (quiet_step ((go_at_call 84; exact Calls.quiet_of (bitsOf_any _ _))))
  refine wpQuiet_nil ?_
  intro _ hw'
  obtain ⟨nq, hw''⟩ := hw'
  subst hw''
  go_wp2
  have z0 : Blk ((w.alloc (.cells #[.float .f32 X.h, .float .f32 X.u, .float .f32 X.v, .int .i8 X.s] 28)).alloc (.cells #[.int .u32 0, .int .u32 0, .int .u32 0, .int .i8 0] 79)) (w.heap.size + 1) #[.int .u32 0, .int .u32 0, .int .u32 0, .int .i8 0] 79 := by
    have e : (w.alloc (.cells #[.float .f32 X.h, .float .f32 X.u, .float .f32 X.v, .int .i8 X.s] 28)).heap.size = w.heap.size + 1 := by simp
    rw [← e]
    exact Blk.new _ _ _
  have bw : Below w.heap.size w ((w.alloc (.cells #[.float .f32 X.h, .float .f32 X.u, .float .f32 X.v, .int .i8 X.s] 28)).alloc (.cells #[.int .u32 0, .int .u32 0, .int .u32 0, .int .i8 0] 79)) := b_alloc (b_alloc (Below.refl _ _) _) _
  generalize ((w.alloc (.cells #[.float .f32 X.h, .float .f32 X.u, .float .f32 X.v, .int .i8 X.s] 28)).alloc (.cells #[.int .u32 0, .int .u32 0, .int .u32 0, .int .i8 0] 79)) = W at *
  have z1 : Blk _ (w.heap.size + 1) #[.int .u32 (cn X.h), .int .u32 0, .int .u32 0, .int .i8 0] 79 := (z0.draws nq).set 0 (.int .u32 (cn X.h))
  have z2 : Blk _ (w.heap.size + 1) #[.int .u32 (cn X.h), .int .u32 (cn X.u), .int .u32 0, .int .i8 0] 79 := z1.set 1 (.int .u32 (cn X.u))
  have z3 : Blk _ (w.heap.size + 1) #[.int .u32 (cn X.h), .int .u32 (cn X.u), .int .u32 (cn X.v), .int .i8 0] 79 := z2.set 2 (.int .u32 (cn X.v))
  have z4 : Blk _ (w.heap.size + 1) #[.int .u32 (cn X.h), .int .u32 (cn X.u), .int .u32 (cn X.v), .int .i8 X.s] 79 := z3.set 3 (.int .i8 X.s)
  refine bodyPost_ret (ret_bitsTh rfl rfl rfl rfl Try.results58 rfl z4) rfl ⟨rfl, ?_⟩
  have q1 : w.heap.size ≤ w.heap.size + 1 := by omega
  exact b_set (b_set (b_set (b_set (b_drewN bw nq) q1 _ _) q1 _ _) q1 _ _) q1 _ _
set_option maxRecDepth 100000 in
theorem specsameTh_any (X Y : Th) (w : World) : Calls Try.prog 18 #[.agg #[.float .f32 X.h, .float .f32 X.u, .float .f32 X.v, .int .i8 X.s], .agg #[.float .f32 Y.h, .float .f32 Y.u, .float .f32 Y.v, .int .i8 Y.s]] w (RV (.bool (sameTh X Y)) w) := by
  unfold sameTh
  rcases Bool.eq_false_or_eq_true (sB X.h Y.h) with h0 | h0 <;> rcases Bool.eq_false_or_eq_true (sB X.u Y.u) with h1 | h1 <;> rcases Bool.eq_false_or_eq_true (sB X.v Y.v) with h2 | h2 <;> rcases Bool.eq_false_or_eq_true (X.s == Y.s) with g0 | g0
  all_goals
    simp only [h0, h1, h2, g0, Bool.true_and, Bool.false_and, Bool.and_true, Bool.and_false]
    have H0 := Lib.hid h0; clear h0
    have H1 := Lib.hid h1; clear h1
    have H2 := Lib.hid h2; clear h2
    go_enter Try.func18, Try.ntmps18
    go_wp2_with (first | (go_at_call_of 57 (Value.float .f32 X.h); refine (l01S_is H0.out _).mono ?_; rintro e w1 ⟨rfl, rfl⟩) | (go_at_call_of 57 (Value.float .f32 X.u); refine (l01S_is H1.out _).mono ?_; rintro e w1 ⟨rfl, rfl⟩) | (go_at_call_of 57 (Value.float .f32 X.v); refine (l01S_is H2.out _).mono ?_; rintro e w1 ⟨rfl, rfl⟩))
    all_goals
      go_ret
      refine ⟨by simp_all, ?_⟩
      (repeat (first | exact Below.refl _ _ | refine b_drewN ?_ _ | refine b_drew ?_ | refine b_alloc ?_ _ | refine b_then ?_ (by assumption)))
theorem eqlTh (X Y : Th) (w : World) : (binOp .eql 79 (.agg #[.int .u32 (cn X.h), .int .u32 (cn X.u), .int .u32 (cn X.v), .int .i8 X.s]) (.agg #[.int .u32 (cn Y.h), .int .u32 (cn Y.u), .int .u32 (cn Y.v), .int .i8 Y.s])).run Try.prog w = .ok (.bool (sameTh X Y)) w := by
  have e0 := sB_beq X.h Y.h
  have e1 := sB_beq X.u Y.u
  have e2 := sB_beq X.v Y.v
  unfold sameTh
  rcases Bool.eq_false_or_eq_true (sB X.h Y.h) with h0 | h0 <;> rcases Bool.eq_false_or_eq_true (sB X.u Y.u) with h1 | h1 <;> rcases Bool.eq_false_or_eq_true (sB X.v Y.v) with h2 | h2 <;> rcases Bool.eq_false_or_eq_true (X.s == Y.s) with g0 | g0
  all_goals
    rw [h0] at e0
    rw [h1] at e1
    rw [h2] at e2
    simp only [h0, h1, h2, g0, Bool.true_and, Bool.false_and, Bool.and_self, Bool.and_true, Bool.and_false]
    clear h0 h1 h2
    go_simp
set_option maxRecDepth 100000 in
set_option maxHeartbeats 4000000 in
theorem implsameTh_any (X Y : Th) (w : World) : Calls Try.prog 19 #[.agg #[.float .f32 X.h, .float .f32 X.u, .float .f32 X.v, .int .i8 X.s], .agg #[.float .f32 Y.h, .float .f32 Y.u, .float .f32 Y.v, .int .i8 Y.s]] w (RV (.bool (sameTh X Y)) w) := by
  have hbin := eqlTh X Y
  have hbB : Blk (w.alloc (.cells #[.float .f32 X.h, .float .f32 X.u, .float .f32 X.v, .int .i8 X.s] 28)) w.heap.size #[.float .f32 X.h, .float .f32 X.u, .float .f32 X.v, .int .i8 X.s] 28 := Blk.new _ _ _
  have k0 : Blk ((w.alloc (.cells #[.float .f32 X.h, .float .f32 X.u, .float .f32 X.v, .int .i8 X.s] 28)).alloc (.cells #[.float .f32 Y.h, .float .f32 Y.u, .float .f32 Y.v, .int .i8 Y.s] 28)) w.heap.size #[.float .f32 X.h, .float .f32 X.u, .float .f32 X.v, .int .i8 X.s] 28 := (Below.heap_alloc _ _ _ (by simp)).trans hbB
  have k1 : Blk ((w.alloc (.cells #[.float .f32 X.h, .float .f32 X.u, .float .f32 X.v, .int .i8 X.s] 28)).alloc (.cells #[.float .f32 Y.h, .float .f32 Y.u, .float .f32 Y.v, .int .i8 Y.s] 28)) (w.heap.size + 1) #[.float .f32 Y.h, .float .f32 Y.u, .float .f32 Y.v, .int .i8 Y.s] 28 := by
    have e : (w.alloc (.cells #[.float .f32 X.h, .float .f32 X.u, .float .f32 X.v, .int .i8 X.s] 28)).heap.size = w.heap.size + 1 := by simp
    rw [← e]
    exact Blk.new _ _ _
  have bw : Below w.heap.size w ((w.alloc (.cells #[.float .f32 X.h, .float .f32 X.u, .float .f32 X.v, .int .i8 X.s] 28)).alloc (.cells #[.float .f32 Y.h, .float .f32 Y.u, .float .f32 Y.v, .int .i8 Y.s] 28)) := b_alloc (b_alloc (Below.refl _ _) _) _
  go_enter Try.func19, Try.ntmps19
  go_wp2_with fail
  generalize ((w.alloc (.cells #[.float .f32 X.h, .float .f32 X.u, .float .f32 X.v, .int .i8 X.s] 28)).alloc (.cells #[.float .f32 Y.h, .float .f32 Y.u, .float .f32 Y.v, .int .i8 Y.s] 28)) = W at *
  have K0 := Lib.hid k0; have K1 := Lib.hid k1; have Bw := Lib.hid bw
  have c0 := k0.cell 0
  have c1 := k0.cell 1
  have c2 := k0.cell 2
  have c3 := k0.cell 3
  have d0 := k1.cell 0
  have d1 := k1.cell 1
  have d2 := k1.cell 2
  have d3 := k1.cell 3
  simp at c0 c1 c2 c3 d0 d1 d2 d3
  have hs0 : w.heap.size < W.heap.size := k0.lt
  have hs1 : w.heap.size + 1 < W.heap.size := k1.lt
  clear k0 k1 bw hbB
  go_region_law (go_simp; go_at_call 58; refine (bitsTh_any _ _).mono ?_; rintro e w1 ⟨rfl, b1⟩; (try (have a0 := Blk.on K0.out (by rfl) b1; have a1 := Blk.on K1.out (by rfl) b1; have f0 := a0.cell 0; have f1 := a0.cell 1; have f2 := a0.cell 2; have f3 := a0.cell 3; have g0 := a1.cell 0; have g1 := a1.cell 1; have g2 := a1.cell 2; have g3 := a1.cell 3; simp at f0 f1 f2 f3 g0 g1 g2 g3)); dsimp only)
  all_goals
    have bw2 := Bw.out
    go_wp2
    go_ret
    refine ⟨rfl, ?_⟩
    repeat (first | exact bw2 | refine b_drewN ?_ _ | refine b_drew ?_ | refine b_then ?_ (by assumption))
set_option maxRecDepth 100000 in
set_option maxHeartbeats 4000000 in
theorem walk_FnExactSameTooth (X : Th) (wX : (Lit.float .f32 X.h).wf = true ∧ (Lit.float .f32 X.u).wf = true ∧ (Lit.float .f32 X.v).wf = true ∧ (Lit.int .i8 X.s).wf = true) (Y : Th) (wY : (Lit.float .f32 Y.h).wf = true ∧ (Lit.float .f32 Y.u).wf = true ∧ (Lit.float .f32 Y.v).wf = true ∧ (Lit.int .i8 Y.s).wf = true) (w : World) : Calls Try.prog 4 #[.agg #[.float .f32 X.h, .float .f32 X.u, .float .f32 X.v, .int .i8 X.s], .agg #[.float .f32 Y.h, .float .f32 Y.u, .float .f32 Y.v, .int .i8 Y.s]] w fun e w' => e = .returned (.bool true) ∧ Below w.heap.size w w' := by
  have hbB : Blk (w.alloc (.cells #[.float .f32 X.h, .float .f32 X.u, .float .f32 X.v, .int .i8 X.s] 26)) w.heap.size #[.float .f32 X.h, .float .f32 X.u, .float .f32 X.v, .int .i8 X.s] 26 := Blk.new _ _ _
  have k0 : Blk ((w.alloc (.cells #[.float .f32 X.h, .float .f32 X.u, .float .f32 X.v, .int .i8 X.s] 26)).alloc (.cells #[.float .f32 Y.h, .float .f32 Y.u, .float .f32 Y.v, .int .i8 Y.s] 26)) w.heap.size #[.float .f32 X.h, .float .f32 X.u, .float .f32 X.v, .int .i8 X.s] 26 := (Below.heap_alloc _ _ _ (by simp)).trans hbB
  have k1 : Blk ((w.alloc (.cells #[.float .f32 X.h, .float .f32 X.u, .float .f32 X.v, .int .i8 X.s] 26)).alloc (.cells #[.float .f32 Y.h, .float .f32 Y.u, .float .f32 Y.v, .int .i8 Y.s] 26)) (w.heap.size + 1) #[.float .f32 Y.h, .float .f32 Y.u, .float .f32 Y.v, .int .i8 Y.s] 26 := by
    have e : (w.alloc (.cells #[.float .f32 X.h, .float .f32 X.u, .float .f32 X.v, .int .i8 X.s] 26)).heap.size = w.heap.size + 1 := by simp
    rw [← e]
    exact Blk.new _ _ _
  have bw : Below w.heap.size w ((w.alloc (.cells #[.float .f32 X.h, .float .f32 X.u, .float .f32 X.v, .int .i8 X.s] 26)).alloc (.cells #[.float .f32 Y.h, .float .f32 Y.u, .float .f32 Y.v, .int .i8 Y.s] 26)) := b_alloc (b_alloc (Below.refl _ _) _) _
  go_enter Try.func4, Try.ntmps4
  go_wp2_with fail
  generalize ((w.alloc (.cells #[.float .f32 X.h, .float .f32 X.u, .float .f32 X.v, .int .i8 X.s] 26)).alloc (.cells #[.float .f32 Y.h, .float .f32 Y.u, .float .f32 Y.v, .int .i8 Y.s] 26)) = W at *
  have K0 := Lib.hid k0; have K1 := Lib.hid k1; have Bw := Lib.hid bw
  have c0 := k0.cell 0
  have c1 := k0.cell 1
  have c2 := k0.cell 2
  have c3 := k0.cell 3
  have d0 := k1.cell 0
  have d1 := k1.cell 1
  have d2 := k1.cell 2
  have d3 := k1.cell 3
  simp at c0 c1 c2 c3 d0 d1 d2 d3
  have hs0 : w.heap.size < W.heap.size := k0.lt
  have hs1 : w.heap.size + 1 < W.heap.size := k1.lt
  clear k0 k1 bw hbB wX wY
  go_upto_region 1 with fail
  go_cut [5] (fun s5 wx => s5 = .bool (sameTh X Y) ∧ Below W.heap.size W wx)
  case first =>
    go_region_law (first | (go_simp; go_at_call 18; refine (specsameTh_any X Y _).mono ?_; rintro e w1 ⟨rfl, b1⟩; dsimp only) | (go_simp; go_at_call 16; (first | (with_reducible refine (toTh_any X _).mono ?_) | (with_reducible refine (toTh_any Y _).mono ?_)); rintro e w1 ⟨rfl, b1⟩; (try (have a0 := Blk.on K0.out (by rfl) b1; have a1 := Blk.on K1.out (by rfl) b1; have f0 := a0.cell 0; have f1 := a0.cell 1; have f2 := a0.cell 2; have f3 := a0.cell 3; have g0 := a1.cell 0; have g1 := a1.cell 1; have g2 := a1.cell 2; have g3 := a1.cell 3; simp at f0 f1 f2 f3 g0 g1 g2 g3)); dsimp only))
    all_goals
      go_wp2_with fail
      go_meet
      refine ⟨rfl, ?_⟩
      repeat (first | exact Below.refl W.heap.size W | refine b_drewN ?_ _ | refine b_drew ?_ | refine b_then ?_ (by assumption))
  case rest =>
    obtain ⟨rfl, hbc⟩ := hcut
    have k0 : Blk wc _ _ _ := Blk.on K0.out (by rfl) hbc
    have k1 : Blk wc _ _ _ := Blk.on K1.out (by rfl) hbc
    have M0 := Lib.hid k0; have M1 := Lib.hid k1; have Bc := Lib.hid hbc
    clear c0 c1 c2 c3 d0 d1 d2 d3 hbc
    have c0 := k0.cell 0
    have c1 := k0.cell 1
    have c2 := k0.cell 2
    have c3 := k0.cell 3
    have d0 := k1.cell 0
    have d1 := k1.cell 1
    have d2 := k1.cell 2
    have d3 := k1.cell 3
    simp at c0 c1 c2 c3 d0 d1 d2 d3
    have ht0 : w.heap.size < wc.heap.size := k0.lt
    have ht1 : w.heap.size + 1 < wc.heap.size := k1.lt
    clear k0 k1
    go_upto_region 2 with fail
    go_cut [6] (fun s6 wx => s6 = .bool (sameTh X Y) ∧ Below wc.heap.size wc wx)
    case first =>
      go_region_law (first | (go_simp; go_at_call 19; refine (implsameTh_any X Y _).mono ?_; rintro e w1 ⟨rfl, b1⟩; dsimp only) | (go_simp; go_at_call 16; (first | (with_reducible refine (toTh_any X _).mono ?_) | (with_reducible refine (toTh_any Y _).mono ?_)); rintro e w1 ⟨rfl, b1⟩; (try (have a0 := Blk.on M0.out (by rfl) b1; have a1 := Blk.on M1.out (by rfl) b1; have f0 := a0.cell 0; have f1 := a0.cell 1; have f2 := a0.cell 2; have f3 := a0.cell 3; have g0 := a1.cell 0; have g1 := a1.cell 1; have g2 := a1.cell 2; have g3 := a1.cell 3; simp at f0 f1 f2 f3 g0 g1 g2 g3)); dsimp only))
      all_goals
        go_wp2_with fail
        go_meet
        refine ⟨rfl, ?_⟩
        repeat (first | exact Below.refl wc.heap.size wc | refine b_drewN ?_ _ | refine b_drew ?_ | refine b_then ?_ (by assumption))
    case rest =>
      obtain ⟨rfl, hbd⟩ := hcut
      clear c0 c1 c2 c3 d0 d1 d2 d3
      have hbe : (sameTh X Y != sameTh X Y) = false := by simp
      go_wp2
      all_goals
        go_ret
        exact ⟨rfl, b_then (b_then Bw.out Bc.out) hbd⟩
end Go.Proofs.Ytndmkfmfphgckaa
