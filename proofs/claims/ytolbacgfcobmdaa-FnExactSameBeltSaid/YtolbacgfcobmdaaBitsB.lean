/-
  When belts are the same: the model's function, the program's, and the law.
-/
import Derived.Test.YtolbacgfcobmdaaBits
import Derived.Test.YtolbacgfcobmdaaBeltIn
import Derived.Laws.StructEq
import Derived.Deep.RegionLaw
import Derived.Deep.DeepCutAuto
namespace Go.Proofs.Ytolbacgfcobmdaa
open Go.RowKit Go.ChangeShapes Go.WideShapes Go.Deep
attribute [local go_sem ↓] Go.wp_at_zero Go.wp_at_succ
attribute [local go_sem] bits_callB
set_option linter.unusedVariables false
set_option linter.unusedSimpArgs false
/-- One number, up to which NaN. -/
def sB (a b : Nat) : Bool := decide (cn a = cn b)
theorem natBeqS (a b : Nat) : ((a : Int) == (b : Int)) = decide (a = b) := by
  by_cases h : a = b
  · subst h; simp
  · have h1 : ¬ ((a : Int) = (b : Int)) := by omega
    rw [beq_eq_false_iff_ne.2 h1, decide_eq_false h]
theorem l01SameS_any (a b : Nat) (w : World) : Calls Try.prog 47 #[.float .f32 a, .float .f32 b] w fun e w' => e = .returned (.bool (sB a b)) ∧ w = w' := by
  cases ha : nan32 a
  · have a2 := order_self (k := .f32) ha
    cases hb : nan32 b
    · have b2 := order_self (k := .f32) hb
      have e : sB a b = ((a : Int) == (b : Int)) := by unfold sB; rw [cn_of_not ha, cn_of_not hb, natBeqS]
      rw [e]
      clear ha hb e
      go_enter Try.func47, Try.ntmps47
      go_wp2
      go_ret
      exact ⟨rfl, rfl⟩
    · have b2 := order_nan_left (k := .f32) b hb
      have e : sB a b = false := by
        unfold sB
        refine decide_eq_false (fun h => ?_)
        have := nan_cn a
        rw [h, nan_cn, ha, hb] at this
        cases this
      rw [e]
      clear ha hb e
      go_enter Try.func47, Try.ntmps47
      go_wp2
      all_goals
        go_ret
        exact ⟨rfl, rfl⟩
  · have a2 := order_nan_left (k := .f32) a ha
    cases hb : nan32 b
    · have b2 := order_self (k := .f32) hb
      have e : sB a b = false := by
        unfold sB
        refine decide_eq_false (fun h => ?_)
        have := nan_cn a
        rw [h, nan_cn, ha, hb] at this
        cases this
      rw [e]
      clear ha hb e
      go_enter Try.func47, Try.ntmps47
      go_wp2
      all_goals
        go_ret
        exact ⟨rfl, rfl⟩
    · have b2 := order_nan_left (k := .f32) b hb
      have e : sB a b = true := by unfold sB; rw [cn_of_nan ha, cn_of_nan hb]; rfl
      rw [e]
      clear ha hb e
      go_enter Try.func47, Try.ntmps47
      go_wp2
      all_goals
        go_ret
        exact ⟨rfl, rfl⟩
theorem l01S_is {a b : Nat} {t : Bool} (h : sB a b = t) (w : World) : Calls Try.prog 47 #[.float .f32 a, .float .f32 b] w fun e w' => e = .returned (.bool t) ∧ w = w' := by
  subst h
  exact l01SameS_any a b w
def sameBl (B C : Bl) : Bool := sB B.a C.a && (sB B.b C.b && (sB B.ap C.ap && (sB B.g C.g && (B.x == C.x))))
set_option maxRecDepth 100000 in
theorem specSameBelt_any (B C : Bl) (w : World) : Calls Try.prog 23 #[.agg #[.float .f32 B.a, .float .f32 B.b, .float .f32 B.ap, .float .f32 B.g, .bool B.x], .agg #[.float .f32 C.a, .float .f32 C.b, .float .f32 C.ap, .float .f32 C.g, .bool C.x]] w (RV (.bool (sameBl B C)) w) := by
  unfold sameBl
  rcases Bool.eq_false_or_eq_true (sB B.a C.a) with h1 | h1 <;> rcases Bool.eq_false_or_eq_true (sB B.b C.b) with h2 | h2 <;> rcases Bool.eq_false_or_eq_true (sB B.ap C.ap) with h3 | h3 <;> rcases Bool.eq_false_or_eq_true (sB B.g C.g) with h4 | h4
  all_goals
    simp only [h1, h2, h3, h4, Bool.true_and, Bool.false_and]
    have H1 := Lib.hid h1; have H2 := Lib.hid h2; have H3 := Lib.hid h3; have H4 := Lib.hid h4
    clear h1 h2 h3 h4
    go_enter Try.func23, Try.ntmps23
    go_wp2_with (first
      | (go_at_call_of 47 (Value.float .f32 B.a); refine (l01S_is H1.out _).mono ?_; rintro e w1 ⟨rfl, rfl⟩)
      | (go_at_call_of 47 (Value.float .f32 B.b); refine (l01S_is H2.out _).mono ?_; rintro e w1 ⟨rfl, rfl⟩)
      | (go_at_call_of 47 (Value.float .f32 B.ap); refine (l01S_is H3.out _).mono ?_; rintro e w1 ⟨rfl, rfl⟩)
      | (go_at_call_of 47 (Value.float .f32 B.g); refine (l01S_is H4.out _).mono ?_; rintro e w1 ⟨rfl, rfl⟩))
    go_ret
    refine ⟨rfl, ?_⟩
    (repeat (first | exact Below.refl _ _ | refine b_drewN ?_ _ | refine b_drew ?_ | refine b_alloc ?_ _ | refine b_then ?_ (by assumption)))
theorem sB_beq (a b : Nat) : ((cn a : Int) == (cn b : Int)) = sB a b := natBeqS _ _
theorem eqlBits (B C : Bl) (w : World) : (binOp .eql 78 (.agg #[.int .u32 (cn B.a), .int .u32 (cn B.b), .int .u32 (cn B.ap), .int .u32 (cn B.g), .bool B.x]) (.agg #[.int .u32 (cn C.a), .int .u32 (cn C.b), .int .u32 (cn C.ap), .int .u32 (cn C.g), .bool C.x])).run Try.prog w = .ok (.bool (sameBl B C)) w := by
  have e1 := sB_beq B.a C.a; have e2 := sB_beq B.b C.b; have e3 := sB_beq B.ap C.ap; have e4 := sB_beq B.g C.g
  unfold sameBl
  rcases Bool.eq_false_or_eq_true (sB B.a C.a) with h1 | h1 <;> rcases Bool.eq_false_or_eq_true (sB B.b C.b) with h2 | h2 <;> rcases Bool.eq_false_or_eq_true (sB B.ap C.ap) with h3 | h3 <;> rcases Bool.eq_false_or_eq_true (sB B.g C.g) with h4 | h4 <;> rcases Bool.eq_false_or_eq_true (B.x == C.x) with h5 | h5
  all_goals
    rw [h1] at e1; rw [h2] at e2; rw [h3] at e3; rw [h4] at e4
    simp only [h1, h2, h3, h4, h5, Bool.true_and, Bool.false_and, Bool.and_self]
    clear h1 h2 h3 h4
    go_simp
set_option maxRecDepth 100000 in
set_option maxHeartbeats 4000000 in
theorem implSameBelt_any (B C : Bl) (w : World) : Calls Try.prog 25 #[.agg #[.float .f32 B.a, .float .f32 B.b, .float .f32 B.ap, .float .f32 B.g, .bool B.x], .agg #[.float .f32 C.a, .float .f32 C.b, .float .f32 C.ap, .float .f32 C.g, .bool C.x]] w (RV (.bool (sameBl B C)) w) := by
  have hbin := eqlBits B C
  have hbB : Blk (w.alloc (.cells #[.float .f32 B.a, .float .f32 B.b, .float .f32 B.ap, .float .f32 B.g, .bool B.x] 44)) w.heap.size #[.float .f32 B.a, .float .f32 B.b, .float .f32 B.ap, .float .f32 B.g, .bool B.x] 44 := Blk.new _ _ _
  have k0 : Blk ((w.alloc (.cells #[.float .f32 B.a, .float .f32 B.b, .float .f32 B.ap, .float .f32 B.g, .bool B.x] 44)).alloc (.cells #[.float .f32 C.a, .float .f32 C.b, .float .f32 C.ap, .float .f32 C.g, .bool C.x] 44)) w.heap.size #[.float .f32 B.a, .float .f32 B.b, .float .f32 B.ap, .float .f32 B.g, .bool B.x] 44 := (Below.heap_alloc _ _ _ (by simp)).trans hbB
  have k1 : Blk ((w.alloc (.cells #[.float .f32 B.a, .float .f32 B.b, .float .f32 B.ap, .float .f32 B.g, .bool B.x] 44)).alloc (.cells #[.float .f32 C.a, .float .f32 C.b, .float .f32 C.ap, .float .f32 C.g, .bool C.x] 44)) (w.heap.size + 1) #[.float .f32 C.a, .float .f32 C.b, .float .f32 C.ap, .float .f32 C.g, .bool C.x] 44 := by
    have e : (w.alloc (.cells #[.float .f32 B.a, .float .f32 B.b, .float .f32 B.ap, .float .f32 B.g, .bool B.x] 44)).heap.size = w.heap.size + 1 := by simp
    rw [← e]
    exact Blk.new _ _ _
  have bw : Below w.heap.size w ((w.alloc (.cells #[.float .f32 B.a, .float .f32 B.b, .float .f32 B.ap, .float .f32 B.g, .bool B.x] 44)).alloc (.cells #[.float .f32 C.a, .float .f32 C.b, .float .f32 C.ap, .float .f32 C.g, .bool C.x] 44)) := b_alloc (b_alloc (Below.refl _ _) _) _
  go_enter Try.func25, Try.ntmps25
  go_wp2_with fail
  generalize ((w.alloc (.cells #[.float .f32 B.a, .float .f32 B.b, .float .f32 B.ap, .float .f32 B.g, .bool B.x] 44)).alloc (.cells #[.float .f32 C.a, .float .f32 C.b, .float .f32 C.ap, .float .f32 C.g, .bool C.x] 44)) = W at *
  have K0 := Lib.hid k0; have K1 := Lib.hid k1; have Bw := Lib.hid bw
  have c0 := k0.cell 0; have c1 := k0.cell 1; have c2 := k0.cell 2; have c3 := k0.cell 3; have c4 := k0.cell 4
  have d0 := k1.cell 0; have d1 := k1.cell 1; have d2 := k1.cell 2; have d3 := k1.cell 3; have d4 := k1.cell 4
  simp at c0 c1 c2 c3 c4 d0 d1 d2 d3 d4
  have hs0 : w.heap.size < W.heap.size := k0.lt
  have hs1 : w.heap.size + 1 < W.heap.size := k1.lt
  clear k0 k1 bw hbB
  go_region_law (go_simp; go_at_call 48; refine (beltBits_any _ _).mono ?_; rintro e w1 ⟨rfl, b1⟩; (try (have a0 := Blk.on K0.out (by rfl) b1; have a1 := Blk.on K1.out (by rfl) b1; have f0 := a0.cell 0; have f1 := a0.cell 1; have f2 := a0.cell 2; have f3 := a0.cell 3; have f4 := a0.cell 4; have g0 := a1.cell 0; have g1 := a1.cell 1; have g2 := a1.cell 2; have g3 := a1.cell 3; have g4 := a1.cell 4; simp at f0 f1 f2 f3 f4 g0 g1 g2 g3 g4)); dsimp only)
  all_goals
    have bw2 := Bw.out
    go_wp2
    go_ret
    refine ⟨rfl, ?_⟩
    repeat (first | exact bw2 | refine b_drewN ?_ _ | refine b_drew ?_ | refine b_then ?_ (by assumption))
theorem toBeltS_any (B : Bl) (w : World) : Calls Try.prog 24 #[.agg #[.float .f32 B.a, .float .f32 B.b, .float .f32 B.ap, .float .f32 B.g, .bool B.x]] w (RV (.agg #[.float .f32 B.a, .float .f32 B.b, .float .f32 B.ap, .float .f32 B.g, .bool B.x]) w) := by
  go_enter Try.func24, Try.ntmps24
  go_wp2
  refine bodyPost_ret (v := .agg #[.float .f32 B.a, .float .f32 B.b, .float .f32 B.ap, .float .f32 B.g, .bool B.x]) (by simp [results, Try.results24, go_sem]) rfl ⟨rfl, ?_⟩
  (repeat (first | exact Below.refl _ _ | refine b_drewN ?_ _ | refine b_drew ?_ | refine b_alloc ?_ _ | refine b_then ?_ (by assumption)))
set_option maxRecDepth 100000 in
set_option maxHeartbeats 4000000 in
theorem walk_FnExactSameBelt (B C : Bl) (w : World) : Calls Try.prog 7 #[.agg #[.float .f32 B.a, .float .f32 B.b, .float .f32 B.ap, .float .f32 B.g, .bool B.x], .agg #[.float .f32 C.a, .float .f32 C.b, .float .f32 C.ap, .float .f32 C.g, .bool C.x]] w fun e w' => e = .returned (.bool true) ∧ Below w.heap.size w w' := by
  have hbB : Blk (w.alloc (.cells #[.float .f32 B.a, .float .f32 B.b, .float .f32 B.ap, .float .f32 B.g, .bool B.x] 42)) w.heap.size #[.float .f32 B.a, .float .f32 B.b, .float .f32 B.ap, .float .f32 B.g, .bool B.x] 42 := Blk.new _ _ _
  have k0 : Blk ((w.alloc (.cells #[.float .f32 B.a, .float .f32 B.b, .float .f32 B.ap, .float .f32 B.g, .bool B.x] 42)).alloc (.cells #[.float .f32 C.a, .float .f32 C.b, .float .f32 C.ap, .float .f32 C.g, .bool C.x] 42)) w.heap.size #[.float .f32 B.a, .float .f32 B.b, .float .f32 B.ap, .float .f32 B.g, .bool B.x] 42 := (Below.heap_alloc _ _ _ (by simp)).trans hbB
  have k1 : Blk ((w.alloc (.cells #[.float .f32 B.a, .float .f32 B.b, .float .f32 B.ap, .float .f32 B.g, .bool B.x] 42)).alloc (.cells #[.float .f32 C.a, .float .f32 C.b, .float .f32 C.ap, .float .f32 C.g, .bool C.x] 42)) (w.heap.size + 1) #[.float .f32 C.a, .float .f32 C.b, .float .f32 C.ap, .float .f32 C.g, .bool C.x] 42 := by
    have e : (w.alloc (.cells #[.float .f32 B.a, .float .f32 B.b, .float .f32 B.ap, .float .f32 B.g, .bool B.x] 42)).heap.size = w.heap.size + 1 := by simp
    rw [← e]
    exact Blk.new _ _ _
  have bw : Below w.heap.size w ((w.alloc (.cells #[.float .f32 B.a, .float .f32 B.b, .float .f32 B.ap, .float .f32 B.g, .bool B.x] 42)).alloc (.cells #[.float .f32 C.a, .float .f32 C.b, .float .f32 C.ap, .float .f32 C.g, .bool C.x] 42)) := b_alloc (b_alloc (Below.refl _ _) _) _
  go_enter Try.func7, Try.ntmps7
  go_wp2_with fail
  generalize ((w.alloc (.cells #[.float .f32 B.a, .float .f32 B.b, .float .f32 B.ap, .float .f32 B.g, .bool B.x] 42)).alloc (.cells #[.float .f32 C.a, .float .f32 C.b, .float .f32 C.ap, .float .f32 C.g, .bool C.x] 42)) = W at *
  have K0 := Lib.hid k0; have K1 := Lib.hid k1; have Bw := Lib.hid bw
  have c0 := k0.cell 0; have c1 := k0.cell 1; have c2 := k0.cell 2; have c3 := k0.cell 3; have c4 := k0.cell 4
  have d0 := k1.cell 0; have d1 := k1.cell 1; have d2 := k1.cell 2; have d3 := k1.cell 3; have d4 := k1.cell 4
  simp at c0 c1 c2 c3 c4 d0 d1 d2 d3 d4
  have hs0 : w.heap.size < W.heap.size := k0.lt
  have hs1 : w.heap.size + 1 < W.heap.size := k1.lt
  clear k0 k1 bw hbB
  go_upto_region 1 with fail
  go_cut [5] (fun s5 wx => s5 = .bool (sameBl B C) ∧ Below W.heap.size W wx)
  case first =>
    go_region_law (first
      | (go_simp; go_at_call 23; refine (specSameBelt_any B C _).mono ?_; rintro e w1 ⟨rfl, b1⟩; dsimp only)
      | (go_simp; go_at_call 24; (first | (with_reducible refine (toBeltS_any B _).mono ?_) | (with_reducible refine (toBeltS_any C _).mono ?_)); rintro e w1 ⟨rfl, b1⟩; (try (have a0 := Blk.on K0.out (by rfl) b1; have a1 := Blk.on K1.out (by rfl) b1; have f0 := a0.cell 0; have f1 := a0.cell 1; have f2 := a0.cell 2; have f3 := a0.cell 3; have f4 := a0.cell 4; have g0 := a1.cell 0; have g1 := a1.cell 1; have g2 := a1.cell 2; have g3 := a1.cell 3; have g4 := a1.cell 4; simp at f0 f1 f2 f3 f4 g0 g1 g2 g3 g4)); dsimp only))
    all_goals
      go_wp2_with fail
      go_meet
      refine ⟨rfl, ?_⟩
      repeat (first | exact Below.refl W.heap.size W | refine b_drewN ?_ _ | refine b_drew ?_ | refine b_then ?_ (by assumption))
  case rest =>
    obtain ⟨rfl, hbc⟩ := hcut
    have k0 : Blk wc _ _ _ := Blk.on K0.out (by rfl) hbc
    have k1 : Blk wc _ _ _ := Blk.on K1.out (by rfl) hbc
    have M0 := Lib.hid k0; have M1 := Lib.hid k1; have Bc := Lib.hid hbc
    clear c0 c1 c2 c3 c4 d0 d1 d2 d3 d4 hbc
    have c0 := k0.cell 0; have c1 := k0.cell 1; have c2 := k0.cell 2; have c3 := k0.cell 3; have c4 := k0.cell 4
    have d0 := k1.cell 0; have d1 := k1.cell 1; have d2 := k1.cell 2; have d3 := k1.cell 3; have d4 := k1.cell 4
    simp at c0 c1 c2 c3 c4 d0 d1 d2 d3 d4
    have ht0 : w.heap.size < wc.heap.size := k0.lt
    have ht1 : w.heap.size + 1 < wc.heap.size := k1.lt
    clear k0 k1
    go_upto_region 2 with fail
    go_cut [6] (fun s6 wx => s6 = .bool (sameBl B C) ∧ Below wc.heap.size wc wx)
    case first =>
      go_region_law (first
        | (go_simp; go_at_call 25; refine (implSameBelt_any B C _).mono ?_; rintro e w1 ⟨rfl, b1⟩; dsimp only)
        | (go_simp; go_at_call 24; (first | (with_reducible refine (toBeltS_any B _).mono ?_) | (with_reducible refine (toBeltS_any C _).mono ?_)); rintro e w1 ⟨rfl, b1⟩; (try (have a0 := Blk.on M0.out (by rfl) b1; have a1 := Blk.on M1.out (by rfl) b1; have f0 := a0.cell 0; have f1 := a0.cell 1; have f2 := a0.cell 2; have f3 := a0.cell 3; have f4 := a0.cell 4; have g0 := a1.cell 0; have g1 := a1.cell 1; have g2 := a1.cell 2; have g3 := a1.cell 3; have g4 := a1.cell 4; simp at f0 f1 f2 f3 f4 g0 g1 g2 g3 g4)); dsimp only))
      all_goals
        go_wp2_with fail
        go_meet
        refine ⟨rfl, ?_⟩
        repeat (first | exact Below.refl wc.heap.size wc | refine b_drewN ?_ _ | refine b_drew ?_ | refine b_then ?_ (by assumption))
    case rest =>
      obtain ⟨rfl, hbd⟩ := hcut
      clear c0 c1 c2 c3 c4 d0 d1 d2 d3 d4
      have hbe : (sameBl B C != sameBl B C) = false := by simp
      go_wp2
      all_goals
        go_ret
        exact ⟨rfl, b_then (b_then Bw.out Bc.out) hbd⟩
end Go.Proofs.Ytolbacgfcobmdaa
