/-
  When stones are the same.
-/
import Derived.Test.YtagjkagfnfonpaaSm
import Derived.Test.YtagjkagfnfonpaaSk
namespace Go.Proofs.Ytagjkagfnfonpaa
open Go.RowKit Go.ChangeShapes Go.WideShapes Go.Deep
attribute [local go_sem ↓] Go.wp_at_zero Go.wp_at_succ
set_option linter.unusedVariables false
set_option linter.unusedSimpArgs false
set_option maxRecDepth 100000
attribute [local go_sem] bits_callB
def sameSn (X Y : Sn) : Bool := sB X.d Y.d && sB X.r Y.r && sB X.b Y.b && sB X.g Y.g
theorem ret_bitsSn {fn : Func} {tmps : Array Value} {W : World} {q : Nat} {a0 a1 a2 a3 : Value} (ha0 : a0.oneCell' = true) (ha1 : a1.oneCell' = true) (ha2 : a2.oneCell' = true) (ha3 : a3.oneCell' = true) (hr : fn.results = #[.cell 2 56]) (h2 : tmps.getD 2 undef = .pointer (some ⟨q, 0, none⟩)) (Z : Blk W q #[a0, a1, a2, a3] 56) :
    (results fn tmps).run Try.prog W = .ok (.agg #[a0, a1, a2, a3]) W := by
  have e0 := Z.cell 0
  have e1 := Z.cell 1
  have e2 := Z.cell 2
  have e3 := Z.cell 3
  simp at e0 e1 e2 e3
  rw [Array.getD_eq_getD_getElem?] at h2
  simp [results, hr, h2, go_sem, e0, e1, e2, e3]
set_option maxRecDepth 100000 in
set_option maxHeartbeats 4000000 in
theorem bitsSn_any (X : Sn) (w : World) : Calls Try.prog 48 #[.agg #[.float .f32 X.d, .float .f32 X.r, .float .f32 X.b, .float .f32 X.g]] w (RV (.agg #[.int .u32 (cn X.d), .int .u32 (cn X.r), .int .u32 (cn X.b), .int .u32 (cn X.g)]) w) := by
  go_enter Try.func48, Try.ntmps48
  go_wp2_with fail
  (refine wp_quiet_tail 13 (by kernel_rfl) (by kernel_rfl) (by kernel_rfl) ?_; simp only [List.take_succ_cons, List.take_zero, List.drop_succ_cons, List.drop_zero])
  repeat (quiet_step ((go_at_call 73; exact Calls.quiet_of (bitsOf_any _ _))))
  refine wpQuiet_nil ?_
  intro _ hw'
  obtain ⟨nq, hw''⟩ := hw'
  subst hw''
  go_wp2
  have z0 : Blk ((w.alloc (.cells #[.float .f32 X.d, .float .f32 X.r, .float .f32 X.b, .float .f32 X.g] 27)).alloc (.cells #[.int .u32 0, .int .u32 0, .int .u32 0, .int .u32 0] 56)) (w.heap.size + 1) #[.int .u32 0, .int .u32 0, .int .u32 0, .int .u32 0] 56 := by
    have e : (w.alloc (.cells #[.float .f32 X.d, .float .f32 X.r, .float .f32 X.b, .float .f32 X.g] 27)).heap.size = w.heap.size + 1 := by simp
    rw [← e]
    exact Blk.new _ _ _
  have bw : Below w.heap.size w ((w.alloc (.cells #[.float .f32 X.d, .float .f32 X.r, .float .f32 X.b, .float .f32 X.g] 27)).alloc (.cells #[.int .u32 0, .int .u32 0, .int .u32 0, .int .u32 0] 56)) := b_alloc (b_alloc (Below.refl _ _) _) _
  generalize ((w.alloc (.cells #[.float .f32 X.d, .float .f32 X.r, .float .f32 X.b, .float .f32 X.g] 27)).alloc (.cells #[.int .u32 0, .int .u32 0, .int .u32 0, .int .u32 0] 56)) = W at *
  have z1 : Blk _ (w.heap.size + 1) #[.int .u32 (cn X.d), .int .u32 0, .int .u32 0, .int .u32 0] 56 := (z0.draws nq).set 0 (.int .u32 (cn X.d))
  have z2 : Blk _ (w.heap.size + 1) #[.int .u32 (cn X.d), .int .u32 (cn X.r), .int .u32 0, .int .u32 0] 56 := z1.set 1 (.int .u32 (cn X.r))
  have z3 : Blk _ (w.heap.size + 1) #[.int .u32 (cn X.d), .int .u32 (cn X.r), .int .u32 (cn X.b), .int .u32 0] 56 := z2.set 2 (.int .u32 (cn X.b))
  have z4 : Blk _ (w.heap.size + 1) #[.int .u32 (cn X.d), .int .u32 (cn X.r), .int .u32 (cn X.b), .int .u32 (cn X.g)] 56 := z3.set 3 (.int .u32 (cn X.g))
  refine bodyPost_ret (ret_bitsSn rfl rfl rfl rfl Try.results48 rfl z4) rfl ⟨rfl, ?_⟩
  have q1 : w.heap.size ≤ w.heap.size + 1 := by omega
  exact b_set (b_set (b_set (b_set (b_drewN bw nq) q1 _ _) q1 _ _) q1 _ _) q1 _ _
set_option maxRecDepth 100000 in
theorem specsameSn_any (X Y : Sn) (w : World) : Calls Try.prog 20 #[.agg #[.float .f32 X.d, .float .f32 X.r, .float .f32 X.b, .float .f32 X.g], .agg #[.float .f32 Y.d, .float .f32 Y.r, .float .f32 Y.b, .float .f32 Y.g]] w (RV (.bool (sameSn X Y)) w) := by
  unfold sameSn
  rcases Bool.eq_false_or_eq_true (sB X.d Y.d) with h0 | h0 <;> rcases Bool.eq_false_or_eq_true (sB X.r Y.r) with h1 | h1 <;> rcases Bool.eq_false_or_eq_true (sB X.b Y.b) with h2 | h2 <;> rcases Bool.eq_false_or_eq_true (sB X.g Y.g) with h3 | h3
  all_goals
    simp only [h0, h1, h2, h3, Bool.true_and, Bool.false_and, Bool.and_true, Bool.and_false]
    have H0 := Lib.hid h0; clear h0
    have H1 := Lib.hid h1; clear h1
    have H2 := Lib.hid h2; clear h2
    have H3 := Lib.hid h3; clear h3
    go_enter Try.func20, Try.ntmps20
    go_wp2_with (first | (go_at_call_of 47 (Value.float .f32 X.d); refine (l01S_is H0.out _).mono ?_; rintro e w1 ⟨rfl, rfl⟩) | (go_at_call_of 47 (Value.float .f32 X.r); refine (l01S_is H1.out _).mono ?_; rintro e w1 ⟨rfl, rfl⟩) | (go_at_call_of 47 (Value.float .f32 X.b); refine (l01S_is H2.out _).mono ?_; rintro e w1 ⟨rfl, rfl⟩) | (go_at_call_of 47 (Value.float .f32 X.g); refine (l01S_is H3.out _).mono ?_; rintro e w1 ⟨rfl, rfl⟩))
    all_goals
      go_ret
      refine ⟨by simp_all, ?_⟩
      (repeat (first | exact Below.refl _ _ | refine b_drewN ?_ _ | refine b_drew ?_ | refine b_alloc ?_ _ | refine b_then ?_ (by assumption)))
theorem eqlSn (X Y : Sn) (w : World) : (binOp .eql 56 (.agg #[.int .u32 (cn X.d), .int .u32 (cn X.r), .int .u32 (cn X.b), .int .u32 (cn X.g)]) (.agg #[.int .u32 (cn Y.d), .int .u32 (cn Y.r), .int .u32 (cn Y.b), .int .u32 (cn Y.g)])).run Try.prog w = .ok (.bool (sameSn X Y)) w := by
  have e0 := sB_beq X.d Y.d
  have e1 := sB_beq X.r Y.r
  have e2 := sB_beq X.b Y.b
  have e3 := sB_beq X.g Y.g
  unfold sameSn
  rcases Bool.eq_false_or_eq_true (sB X.d Y.d) with h0 | h0 <;> rcases Bool.eq_false_or_eq_true (sB X.r Y.r) with h1 | h1 <;> rcases Bool.eq_false_or_eq_true (sB X.b Y.b) with h2 | h2 <;> rcases Bool.eq_false_or_eq_true (sB X.g Y.g) with h3 | h3
  all_goals
    rw [h0] at e0
    rw [h1] at e1
    rw [h2] at e2
    rw [h3] at e3
    simp only [h0, h1, h2, h3, Bool.true_and, Bool.false_and, Bool.and_self, Bool.and_true, Bool.and_false]
    clear h0 h1 h2 h3
    go_simp
set_option maxRecDepth 100000 in
set_option maxHeartbeats 4000000 in
theorem implsameSn_any (X Y : Sn) (w : World) : Calls Try.prog 21 #[.agg #[.float .f32 X.d, .float .f32 X.r, .float .f32 X.b, .float .f32 X.g], .agg #[.float .f32 Y.d, .float .f32 Y.r, .float .f32 Y.b, .float .f32 Y.g]] w (RV (.bool (sameSn X Y)) w) := by
  have hbin := eqlSn X Y
  have hbB : Blk (w.alloc (.cells #[.float .f32 X.d, .float .f32 X.r, .float .f32 X.b, .float .f32 X.g] 27)) w.heap.size #[.float .f32 X.d, .float .f32 X.r, .float .f32 X.b, .float .f32 X.g] 27 := Blk.new _ _ _
  have k0 : Blk ((w.alloc (.cells #[.float .f32 X.d, .float .f32 X.r, .float .f32 X.b, .float .f32 X.g] 27)).alloc (.cells #[.float .f32 Y.d, .float .f32 Y.r, .float .f32 Y.b, .float .f32 Y.g] 27)) w.heap.size #[.float .f32 X.d, .float .f32 X.r, .float .f32 X.b, .float .f32 X.g] 27 := (Below.heap_alloc _ _ _ (by simp)).trans hbB
  have k1 : Blk ((w.alloc (.cells #[.float .f32 X.d, .float .f32 X.r, .float .f32 X.b, .float .f32 X.g] 27)).alloc (.cells #[.float .f32 Y.d, .float .f32 Y.r, .float .f32 Y.b, .float .f32 Y.g] 27)) (w.heap.size + 1) #[.float .f32 Y.d, .float .f32 Y.r, .float .f32 Y.b, .float .f32 Y.g] 27 := by
    have e : (w.alloc (.cells #[.float .f32 X.d, .float .f32 X.r, .float .f32 X.b, .float .f32 X.g] 27)).heap.size = w.heap.size + 1 := by simp
    rw [← e]
    exact Blk.new _ _ _
  have bw : Below w.heap.size w ((w.alloc (.cells #[.float .f32 X.d, .float .f32 X.r, .float .f32 X.b, .float .f32 X.g] 27)).alloc (.cells #[.float .f32 Y.d, .float .f32 Y.r, .float .f32 Y.b, .float .f32 Y.g] 27)) := b_alloc (b_alloc (Below.refl _ _) _) _
  go_enter Try.func21, Try.ntmps21
  go_wp2_with fail
  generalize ((w.alloc (.cells #[.float .f32 X.d, .float .f32 X.r, .float .f32 X.b, .float .f32 X.g] 27)).alloc (.cells #[.float .f32 Y.d, .float .f32 Y.r, .float .f32 Y.b, .float .f32 Y.g] 27)) = W at *
  have K0 := Lib.hid k0; have K1 := Lib.hid k1; have Bw := Lib.hid bw
  have c0 := k0.cell 0
  have c1 := k0.cell 1
  have c2 := k0.cell 2
  have c3 := k0.cell 3
  have d0 := k1.cell 0
  have d1 := k1.cell 1
  have d2 := k1.cell 2
  have d3 := k1.cell 3
  simp at c0 c1 c2 c3 d0 d1 d2 d3
  have hs0 : w.heap.size < W.heap.size := k0.lt
  have hs1 : w.heap.size + 1 < W.heap.size := k1.lt
  clear k0 k1 bw hbB
  go_region_law (go_simp; go_at_call 48; refine (bitsSn_any _ _).mono ?_; rintro e w1 ⟨rfl, b1⟩; (try (have a0 := Blk.on K0.out (by rfl) b1; have a1 := Blk.on K1.out (by rfl) b1; have f0 := a0.cell 0; have f1 := a0.cell 1; have f2 := a0.cell 2; have f3 := a0.cell 3; have g0 := a1.cell 0; have g1 := a1.cell 1; have g2 := a1.cell 2; have g3 := a1.cell 3; simp at f0 f1 f2 f3 g0 g1 g2 g3)); dsimp only)
  all_goals
    have bw2 := Bw.out
    go_wp2
    go_ret
    refine ⟨rfl, ?_⟩
    repeat (first | exact bw2 | refine b_drewN ?_ _ | refine b_drew ?_ | refine b_then ?_ (by assumption))
set_option maxRecDepth 100000 in
set_option maxHeartbeats 4000000 in
theorem walk_FnExactSameStone (X : Sn) (wX : (Lit.float .f32 X.d).wf = true ∧ (Lit.float .f32 X.r).wf = true ∧ (Lit.float .f32 X.b).wf = true ∧ (Lit.float .f32 X.g).wf = true) (Y : Sn) (wY : (Lit.float .f32 Y.d).wf = true ∧ (Lit.float .f32 Y.r).wf = true ∧ (Lit.float .f32 Y.b).wf = true ∧ (Lit.float .f32 Y.g).wf = true) (w : World) : Calls Try.prog 5 #[.agg #[.float .f32 X.d, .float .f32 X.r, .float .f32 X.b, .float .f32 X.g], .agg #[.float .f32 Y.d, .float .f32 Y.r, .float .f32 Y.b, .float .f32 Y.g]] w fun e w' => e = .returned (.bool true) ∧ Below w.heap.size w w' := by
  have hbB : Blk (w.alloc (.cells #[.float .f32 X.d, .float .f32 X.r, .float .f32 X.b, .float .f32 X.g] 25)) w.heap.size #[.float .f32 X.d, .float .f32 X.r, .float .f32 X.b, .float .f32 X.g] 25 := Blk.new _ _ _
  have k0 : Blk ((w.alloc (.cells #[.float .f32 X.d, .float .f32 X.r, .float .f32 X.b, .float .f32 X.g] 25)).alloc (.cells #[.float .f32 Y.d, .float .f32 Y.r, .float .f32 Y.b, .float .f32 Y.g] 25)) w.heap.size #[.float .f32 X.d, .float .f32 X.r, .float .f32 X.b, .float .f32 X.g] 25 := (Below.heap_alloc _ _ _ (by simp)).trans hbB
  have k1 : Blk ((w.alloc (.cells #[.float .f32 X.d, .float .f32 X.r, .float .f32 X.b, .float .f32 X.g] 25)).alloc (.cells #[.float .f32 Y.d, .float .f32 Y.r, .float .f32 Y.b, .float .f32 Y.g] 25)) (w.heap.size + 1) #[.float .f32 Y.d, .float .f32 Y.r, .float .f32 Y.b, .float .f32 Y.g] 25 := by
    have e : (w.alloc (.cells #[.float .f32 X.d, .float .f32 X.r, .float .f32 X.b, .float .f32 X.g] 25)).heap.size = w.heap.size + 1 := by simp
    rw [← e]
    exact Blk.new _ _ _
  have bw : Below w.heap.size w ((w.alloc (.cells #[.float .f32 X.d, .float .f32 X.r, .float .f32 X.b, .float .f32 X.g] 25)).alloc (.cells #[.float .f32 Y.d, .float .f32 Y.r, .float .f32 Y.b, .float .f32 Y.g] 25)) := b_alloc (b_alloc (Below.refl _ _) _) _
  go_enter Try.func5, Try.ntmps5
  go_wp2_with fail
  generalize ((w.alloc (.cells #[.float .f32 X.d, .float .f32 X.r, .float .f32 X.b, .float .f32 X.g] 25)).alloc (.cells #[.float .f32 Y.d, .float .f32 Y.r, .float .f32 Y.b, .float .f32 Y.g] 25)) = W at *
  have K0 := Lib.hid k0; have K1 := Lib.hid k1; have Bw := Lib.hid bw
  have c0 := k0.cell 0
  have c1 := k0.cell 1
  have c2 := k0.cell 2
  have c3 := k0.cell 3
  have d0 := k1.cell 0
  have d1 := k1.cell 1
  have d2 := k1.cell 2
  have d3 := k1.cell 3
  simp at c0 c1 c2 c3 d0 d1 d2 d3
  have hs0 : w.heap.size < W.heap.size := k0.lt
  have hs1 : w.heap.size + 1 < W.heap.size := k1.lt
  clear k0 k1 bw hbB wX wY
  go_upto_region 1 with fail
  go_cut [5] (fun s5 wx => s5 = .bool (sameSn X Y) ∧ Below W.heap.size W wx)
  case first =>
    go_region_law (first | (go_simp; go_at_call 20; refine (specsameSn_any X Y _).mono ?_; rintro e w1 ⟨rfl, b1⟩; dsimp only) | (go_simp; go_at_call 18; (first | (with_reducible refine (toSn_any X _).mono ?_) | (with_reducible refine (toSn_any Y _).mono ?_)); rintro e w1 ⟨rfl, b1⟩; (try (have a0 := Blk.on K0.out (by rfl) b1; have a1 := Blk.on K1.out (by rfl) b1; have f0 := a0.cell 0; have f1 := a0.cell 1; have f2 := a0.cell 2; have f3 := a0.cell 3; have g0 := a1.cell 0; have g1 := a1.cell 1; have g2 := a1.cell 2; have g3 := a1.cell 3; simp at f0 f1 f2 f3 g0 g1 g2 g3)); dsimp only))
    all_goals
      go_wp2_with fail
      go_meet
      refine ⟨rfl, ?_⟩
      repeat (first | exact Below.refl W.heap.size W | refine b_drewN ?_ _ | refine b_drew ?_ | refine b_then ?_ (by assumption))
  case rest =>
    obtain ⟨rfl, hbc⟩ := hcut
    have k0 : Blk wc _ _ _ := Blk.on K0.out (by rfl) hbc
    have k1 : Blk wc _ _ _ := Blk.on K1.out (by rfl) hbc
    have M0 := Lib.hid k0; have M1 := Lib.hid k1; have Bc := Lib.hid hbc
    clear c0 c1 c2 c3 d0 d1 d2 d3 hbc
    have c0 := k0.cell 0
    have c1 := k0.cell 1
    have c2 := k0.cell 2
    have c3 := k0.cell 3
    have d0 := k1.cell 0
    have d1 := k1.cell 1
    have d2 := k1.cell 2
    have d3 := k1.cell 3
    simp at c0 c1 c2 c3 d0 d1 d2 d3
    have ht0 : w.heap.size < wc.heap.size := k0.lt
    have ht1 : w.heap.size + 1 < wc.heap.size := k1.lt
    clear k0 k1
    go_upto_region 2 with fail
    go_cut [6] (fun s6 wx => s6 = .bool (sameSn X Y) ∧ Below wc.heap.size wc wx)
    case first =>
      go_region_law (first | (go_simp; go_at_call 21; refine (implsameSn_any X Y _).mono ?_; rintro e w1 ⟨rfl, b1⟩; dsimp only) | (go_simp; go_at_call 18; (first | (with_reducible refine (toSn_any X _).mono ?_) | (with_reducible refine (toSn_any Y _).mono ?_)); rintro e w1 ⟨rfl, b1⟩; (try (have a0 := Blk.on M0.out (by rfl) b1; have a1 := Blk.on M1.out (by rfl) b1; have f0 := a0.cell 0; have f1 := a0.cell 1; have f2 := a0.cell 2; have f3 := a0.cell 3; have g0 := a1.cell 0; have g1 := a1.cell 1; have g2 := a1.cell 2; have g3 := a1.cell 3; simp at f0 f1 f2 f3 g0 g1 g2 g3)); dsimp only))
      all_goals
        go_wp2_with fail
        go_meet
        refine ⟨rfl, ?_⟩
        repeat (first | exact Below.refl wc.heap.size wc | refine b_drewN ?_ _ | refine b_drew ?_ | refine b_then ?_ (by assumption))
    case rest =>
      obtain ⟨rfl, hbd⟩ := hcut
      clear c0 c1 c2 c3 d0 d1 d2 d3
      have hbe : (sameSn X Y != sameSn X Y) = false := by simp
      go_wp2
      all_goals
        go_ret
        exact ⟨rfl, b_then (b_then Bw.out Bc.out) hbd⟩
end Go.Proofs.Ytagjkagfnfonpaa
