/-
  When states are the same.
-/
import Derived.Test.YtajifkbpjabciaaSm
import Derived.Test.YtajifkbpjabciaaSt
namespace Go.Proofs.Ytajifkbpjabciaa
open Go.RowKit Go.ChangeShapes Go.WideShapes Go.Deep
attribute [local go_sem ↓] Go.wp_at_zero Go.wp_at_succ
set_option linter.unusedVariables false
set_option linter.unusedSimpArgs false
attribute [local go_sem] bits_callB
def sameSe (X Y : Se) : Bool := sB X.s Y.s && (X.g == Y.g)
theorem ret_bitsSe {fn : Func} {tmps : Array Value} {W : World} {q : Nat} {a0 a1 : Value} (ha0 : a0.oneCell' = true) (ha1 : a1.oneCell' = true) (hr : fn.results = #[.cell 2 51]) (h2 : tmps.getD 2 undef = .pointer (some ⟨q, 0, none⟩)) (Z : Blk W q #[a0, a1] 51) :
    (results fn tmps).run Try.prog W = .ok (.agg #[a0, a1]) W := by
  have e0 := Z.cell 0
  have e1 := Z.cell 1
  simp at e0 e1
  rw [Array.getD_eq_getD_getElem?] at h2
  simp [results, hr, h2, go_sem, e0, e1]
set_option maxRecDepth 100000 in
set_option maxHeartbeats 4000000 in
theorem bitsSe_any (X : Se) (w : World) : Calls Try.prog 28 #[.agg #[.float .f32 X.s, .int .i8 X.g]] w (RV (.agg #[.int .u32 (cn X.s), .int .i8 X.g]) w) := by
  go_enter Try.func28, Try.ntmps28
  go_wp2_with fail
  (refine wp_quiet_tail 6 (by kernel_rfl) (by kernel_rfl) (by kernel_rfl) ?_; simp only [List.take_succ_cons, List.take_zero, List.drop_succ_cons, List.drop_zero])
  repeat (quiet_step ((go_at_call 32; exact Calls.quiet_of (bitsOf_any _ _))))
  refine wpQuiet_nil ?_
  intro _ hw'
  obtain ⟨nq, hw''⟩ := hw'
  subst hw''
  go_wp2
  have z0 : Blk ((w.alloc (.cells #[.float .f32 X.s, .int .i8 X.g] 42)).alloc (.cells #[.int .u32 0, .int .i8 0] 51)) (w.heap.size + 1) #[.int .u32 0, .int .i8 0] 51 := by
    have e : (w.alloc (.cells #[.float .f32 X.s, .int .i8 X.g] 42)).heap.size = w.heap.size + 1 := by simp
    rw [← e]
    exact Blk.new _ _ _
  have bw : Below w.heap.size w ((w.alloc (.cells #[.float .f32 X.s, .int .i8 X.g] 42)).alloc (.cells #[.int .u32 0, .int .i8 0] 51)) := b_alloc (b_alloc (Below.refl _ _) _) _
  generalize ((w.alloc (.cells #[.float .f32 X.s, .int .i8 X.g] 42)).alloc (.cells #[.int .u32 0, .int .i8 0] 51)) = W at *
  have z1 : Blk _ (w.heap.size + 1) #[.int .u32 (cn X.s), .int .i8 0] 51 := (z0.draws nq).set 0 (.int .u32 (cn X.s))
  have z2 : Blk _ (w.heap.size + 1) #[.int .u32 (cn X.s), .int .i8 X.g] 51 := z1.set 1 (.int .i8 X.g)
  refine bodyPost_ret (ret_bitsSe rfl rfl Try.results28 rfl z2) rfl ⟨rfl, ?_⟩
  have q1 : w.heap.size ≤ w.heap.size + 1 := by omega
  exact b_set (b_set (b_drewN bw nq) q1 _ _) q1 _ _
set_option maxRecDepth 100000 in
theorem specsameSe_any (X Y : Se) (w : World) : Calls Try.prog 19 #[.agg #[.float .f32 X.s, .int .i8 X.g], .agg #[.float .f32 Y.s, .int .i8 Y.g]] w (RV (.bool (sameSe X Y)) w) := by
  unfold sameSe
  rcases Bool.eq_false_or_eq_true (sB X.s Y.s) with h0 | h0 <;> rcases Bool.eq_false_or_eq_true (X.g == Y.g) with g0 | g0
  all_goals
    simp only [h0, g0, Bool.true_and, Bool.false_and, Bool.and_true, Bool.and_false]
    have H0 := Lib.hid h0; clear h0
    go_enter Try.func19, Try.ntmps19
    go_wp2_with (first | (go_at_call_of 27 (Value.float .f32 X.s); refine (l01S_is H0.out _).mono ?_; rintro e w1 ⟨rfl, rfl⟩))
    all_goals
      go_ret
      refine ⟨by simp_all, ?_⟩
      (repeat (first | exact Below.refl _ _ | refine b_drewN ?_ _ | refine b_drew ?_ | refine b_alloc ?_ _ | refine b_then ?_ (by assumption)))
theorem eqlSe (X Y : Se) (w : World) : (binOp .eql 51 (.agg #[.int .u32 (cn X.s), .int .i8 X.g]) (.agg #[.int .u32 (cn Y.s), .int .i8 Y.g])).run Try.prog w = .ok (.bool (sameSe X Y)) w := by
  have e0 := sB_beq X.s Y.s
  unfold sameSe
  rcases Bool.eq_false_or_eq_true (sB X.s Y.s) with h0 | h0 <;> rcases Bool.eq_false_or_eq_true (X.g == Y.g) with g0 | g0
  all_goals
    rw [h0] at e0
    simp only [h0, g0, Bool.true_and, Bool.false_and, Bool.and_self, Bool.and_true, Bool.and_false]
    clear h0
    go_simp
set_option maxRecDepth 100000 in
set_option maxHeartbeats 4000000 in
theorem implsameSe_any (X Y : Se) (w : World) : Calls Try.prog 20 #[.agg #[.float .f32 X.s, .int .i8 X.g], .agg #[.float .f32 Y.s, .int .i8 Y.g]] w (RV (.bool (sameSe X Y)) w) := by
  have hbin := eqlSe X Y
  have hbB : Blk (w.alloc (.cells #[.float .f32 X.s, .int .i8 X.g] 42)) w.heap.size #[.float .f32 X.s, .int .i8 X.g] 42 := Blk.new _ _ _
  have k0 : Blk ((w.alloc (.cells #[.float .f32 X.s, .int .i8 X.g] 42)).alloc (.cells #[.float .f32 Y.s, .int .i8 Y.g] 42)) w.heap.size #[.float .f32 X.s, .int .i8 X.g] 42 := (Below.heap_alloc _ _ _ (by simp)).trans hbB
  have k1 : Blk ((w.alloc (.cells #[.float .f32 X.s, .int .i8 X.g] 42)).alloc (.cells #[.float .f32 Y.s, .int .i8 Y.g] 42)) (w.heap.size + 1) #[.float .f32 Y.s, .int .i8 Y.g] 42 := by
    have e : (w.alloc (.cells #[.float .f32 X.s, .int .i8 X.g] 42)).heap.size = w.heap.size + 1 := by simp
    rw [← e]
    exact Blk.new _ _ _
  have bw : Below w.heap.size w ((w.alloc (.cells #[.float .f32 X.s, .int .i8 X.g] 42)).alloc (.cells #[.float .f32 Y.s, .int .i8 Y.g] 42)) := b_alloc (b_alloc (Below.refl _ _) _) _
  go_enter Try.func20, Try.ntmps20
  go_wp2_with fail
  generalize ((w.alloc (.cells #[.float .f32 X.s, .int .i8 X.g] 42)).alloc (.cells #[.float .f32 Y.s, .int .i8 Y.g] 42)) = W at *
  have K0 := Lib.hid k0; have K1 := Lib.hid k1; have Bw := Lib.hid bw
  have c0 := k0.cell 0
  have c1 := k0.cell 1
  have d0 := k1.cell 0
  have d1 := k1.cell 1
  simp at c0 c1 d0 d1
  have hs0 : w.heap.size < W.heap.size := k0.lt
  have hs1 : w.heap.size + 1 < W.heap.size := k1.lt
  clear k0 k1 bw hbB
  go_region_law (go_simp; go_at_call 28; refine (bitsSe_any _ _).mono ?_; rintro e w1 ⟨rfl, b1⟩; (try (have a0 := Blk.on K0.out (by rfl) b1; have a1 := Blk.on K1.out (by rfl) b1; have f0 := a0.cell 0; have f1 := a0.cell 1; have g0 := a1.cell 0; have g1 := a1.cell 1; simp at f0 f1 g0 g1)); dsimp only)
  all_goals
    have bw2 := Bw.out
    go_wp2
    go_ret
    refine ⟨rfl, ?_⟩
    repeat (first | exact bw2 | refine b_drewN ?_ _ | refine b_drew ?_ | refine b_then ?_ (by assumption))
set_option maxRecDepth 100000 in
set_option maxHeartbeats 4000000 in
theorem walk_FnExactSameState (X : Se) (wX : (Lit.float .f32 X.s).wf = true ∧ (Lit.int .i8 X.g).wf = true) (Y : Se) (wY : (Lit.float .f32 Y.s).wf = true ∧ (Lit.int .i8 Y.g).wf = true) (w : World) : Calls Try.prog 7 #[.agg #[.float .f32 X.s, .int .i8 X.g], .agg #[.float .f32 Y.s, .int .i8 Y.g]] w fun e w' => e = .returned (.bool true) ∧ Below w.heap.size w w' := by
  have hbB : Blk (w.alloc (.cells #[.float .f32 X.s, .int .i8 X.g] 40)) w.heap.size #[.float .f32 X.s, .int .i8 X.g] 40 := Blk.new _ _ _
  have k0 : Blk ((w.alloc (.cells #[.float .f32 X.s, .int .i8 X.g] 40)).alloc (.cells #[.float .f32 Y.s, .int .i8 Y.g] 40)) w.heap.size #[.float .f32 X.s, .int .i8 X.g] 40 := (Below.heap_alloc _ _ _ (by simp)).trans hbB
  have k1 : Blk ((w.alloc (.cells #[.float .f32 X.s, .int .i8 X.g] 40)).alloc (.cells #[.float .f32 Y.s, .int .i8 Y.g] 40)) (w.heap.size + 1) #[.float .f32 Y.s, .int .i8 Y.g] 40 := by
    have e : (w.alloc (.cells #[.float .f32 X.s, .int .i8 X.g] 40)).heap.size = w.heap.size + 1 := by simp
    rw [← e]
    exact Blk.new _ _ _
  have bw : Below w.heap.size w ((w.alloc (.cells #[.float .f32 X.s, .int .i8 X.g] 40)).alloc (.cells #[.float .f32 Y.s, .int .i8 Y.g] 40)) := b_alloc (b_alloc (Below.refl _ _) _) _
  go_enter Try.func7, Try.ntmps7
  go_wp2_with fail
  generalize ((w.alloc (.cells #[.float .f32 X.s, .int .i8 X.g] 40)).alloc (.cells #[.float .f32 Y.s, .int .i8 Y.g] 40)) = W at *
  have K0 := Lib.hid k0; have K1 := Lib.hid k1; have Bw := Lib.hid bw
  have c0 := k0.cell 0
  have c1 := k0.cell 1
  have d0 := k1.cell 0
  have d1 := k1.cell 1
  simp at c0 c1 d0 d1
  have hs0 : w.heap.size < W.heap.size := k0.lt
  have hs1 : w.heap.size + 1 < W.heap.size := k1.lt
  clear k0 k1 bw hbB wX wY
  go_upto_region 1 with fail
  go_cut [5] (fun s5 wx => s5 = .bool (sameSe X Y) ∧ Below W.heap.size W wx)
  case first =>
    go_region_law (first | (go_simp; go_at_call 19; refine (specsameSe_any X Y _).mono ?_; rintro e w1 ⟨rfl, b1⟩; dsimp only) | (go_simp; go_at_call 17; (first | (with_reducible refine (toSe_any X _).mono ?_) | (with_reducible refine (toSe_any Y _).mono ?_)); rintro e w1 ⟨rfl, b1⟩; (try (have a0 := Blk.on K0.out (by rfl) b1; have a1 := Blk.on K1.out (by rfl) b1; have f0 := a0.cell 0; have f1 := a0.cell 1; have g0 := a1.cell 0; have g1 := a1.cell 1; simp at f0 f1 g0 g1)); dsimp only))
    all_goals
      go_wp2_with fail
      go_meet
      refine ⟨rfl, ?_⟩
      repeat (first | exact Below.refl W.heap.size W | refine b_drewN ?_ _ | refine b_drew ?_ | refine b_then ?_ (by assumption))
  case rest =>
    obtain ⟨rfl, hbc⟩ := hcut
    have k0 : Blk wc _ _ _ := Blk.on K0.out (by rfl) hbc
    have k1 : Blk wc _ _ _ := Blk.on K1.out (by rfl) hbc
    have M0 := Lib.hid k0; have M1 := Lib.hid k1; have Bc := Lib.hid hbc
    clear c0 c1 d0 d1 hbc
    have c0 := k0.cell 0
    have c1 := k0.cell 1
    have d0 := k1.cell 0
    have d1 := k1.cell 1
    simp at c0 c1 d0 d1
    have ht0 : w.heap.size < wc.heap.size := k0.lt
    have ht1 : w.heap.size + 1 < wc.heap.size := k1.lt
    clear k0 k1
    go_upto_region 2 with fail
    go_cut [6] (fun s6 wx => s6 = .bool (sameSe X Y) ∧ Below wc.heap.size wc wx)
    case first =>
      go_region_law (first | (go_simp; go_at_call 20; refine (implsameSe_any X Y _).mono ?_; rintro e w1 ⟨rfl, b1⟩; dsimp only) | (go_simp; go_at_call 17; (first | (with_reducible refine (toSe_any X _).mono ?_) | (with_reducible refine (toSe_any Y _).mono ?_)); rintro e w1 ⟨rfl, b1⟩; (try (have a0 := Blk.on M0.out (by rfl) b1; have a1 := Blk.on M1.out (by rfl) b1; have f0 := a0.cell 0; have f1 := a0.cell 1; have g0 := a1.cell 0; have g1 := a1.cell 1; simp at f0 f1 g0 g1)); dsimp only))
      all_goals
        go_wp2_with fail
        go_meet
        refine ⟨rfl, ?_⟩
        repeat (first | exact Below.refl wc.heap.size wc | refine b_drewN ?_ _ | refine b_drew ?_ | refine b_then ?_ (by assumption))
    case rest =>
      obtain ⟨rfl, hbd⟩ := hcut
      clear c0 c1 d0 d1
      have hbe : (sameSe X Y != sameSe X Y) = false := by simp
      go_wp2
      all_goals
        go_ret
        exact ⟨rfl, b_then (b_then Bw.out Bc.out) hbd⟩
end Go.Proofs.Ytajifkbpjabciaa
