/-
  The laws' copy of a tooth, their comparison.
-/
import Derived.Test.YtkkcihgnpephiaaDoorYc
import Derived.Test.YtkkcihgnpephiaaDoorBase
namespace Go.Proofs.YtkkcihgnpephiaaDoor
open Go.RowKit Go.ChangeShapes Go.WideShapes Go.Deep
attribute [local go_sem ↓] Go.wp_at_zero Go.wp_at_succ
set_option linter.unusedVariables false
set_option linter.unusedSimpArgs false
set_option maxRecDepth 100000

def A2at (w : World) (q a b : Nat) : Prop := Blk w q #[.float .f32 a, .float .f32 b] 67
theorem A2at.new (w : World) (a b : Nat) : A2at (w.alloc (.cells #[.float .f32 a, .float .f32 b] 67)) w.heap.size a b := Blk.new _ _ _
theorem A2at.newS {W : World} {s : Nat} (a b : Nat) (h : W.heap.size = s) : A2at (W.alloc (.cells #[.float .f32 a, .float .f32 b] 67)) s a b := by subst h; exact A2at.new W a b
theorem A2at.push {w : World} {q a b : Nat} (h : A2at w q a b) (o : Obj) : A2at (w.alloc o) q a b := Blk.on (W := w) h rfl (b_alloc (Below.refl _ _) o)
theorem A2at.cells {w : World} {q a b : Nat} (h : A2at w q a b) : w.cell? ⟨q, 0, none⟩ = some (.float .f32 a) ∧ w.cell? ⟨q, 1, none⟩ = some (.float .f32 b) ∧ w.frozen? ⟨q, 0, none⟩ = false ∧ w.frozen? ⟨q, 1, none⟩ = false :=
  ⟨Blk.cell h 0, Blk.cell h 1, Blk.frozen h 0, Blk.frozen h 1⟩
theorem A2at.lt {w : World} {q a b : Nat} (h : A2at w q a b) : q < w.heap.size := Blk.lt h
theorem A2at.set0 {w : World} {q a b : Nat} (h : A2at w q a b) (x : Nat) : A2at (w.setCell ⟨q, 0, none⟩ (.float .f32 x)) q x b := Blk.set h 0 _
theorem A2at.set1 {w : World} {q a b : Nat} (h : A2at w q a b) (x : Nat) : A2at (w.setCell ⟨q, 1, none⟩ (.float .f32 x)) q a x := Blk.set h 1 _
theorem A2at.setO {w : World} {q q' a b : Nat} (h : A2at w q a b) (hne : q ≠ q') (i : Nat) (v : Value) : A2at (w.setCell ⟨q', i, none⟩ v) q a b := Blk.setO h hne i v
theorem A2at.heap {w W : World} {q a b : Nat} (h : A2at w q a b) (hW : W.heap = w.heap) : A2at W q a b := by unfold A2at Blk; rw [hW]; exact h
theorem ret_a2 {fn : Func} {tmps : Array Value} {W : World} {q s a b : Nat} (hr : fn.results = #[.cell s 67]) (h2 : tmps.getD s undef = .pointer (some ⟨q, 0, none⟩)) (Z : A2at W q a b) :
    (results fn tmps).run Tryd.prog W = .ok (.agg #[.float .f32 a, .float .f32 b]) W := by
  obtain ⟨e0, e1, _, _⟩ := Z.cells
  rw [Array.getD_eq_getD_getElem?] at h2
  simp [results, hr, h2, go_sem, e0, e1]
set_option maxHeartbeats 1000000 in
theorem toA2_any (a b : Nat) (w : World) : Calls Tryd.prog 88 #[.agg #[.float .f32 a, .float .f32 b]] w (RV (.agg #[.float .f32 a, .float .f32 b]) w) := by
  have k0 := ((A2at.new w a b).push (.cells #[.float .f32 0, .float .f32 0] 67)).push (.cells #[.float .f32 0, .float .f32 0] 67)
  have k1 : A2at (((w.alloc (.cells #[.float .f32 a, .float .f32 b] 67)).alloc (.cells #[.float .f32 0, .float .f32 0] 67)).alloc (.cells #[.float .f32 0, .float .f32 0] 67)) (w.heap.size + 1) 0 0 := (A2at.newS 0 0 (by simp)).push _
  have k2 : A2at (((w.alloc (.cells #[.float .f32 a, .float .f32 b] 67)).alloc (.cells #[.float .f32 0, .float .f32 0] 67)).alloc (.cells #[.float .f32 0, .float .f32 0] 67)) (w.heap.size + 1 + 1) 0 0 := A2at.newS 0 0 (by simp)
  have bw : Below w.heap.size w (((w.alloc (.cells #[.float .f32 a, .float .f32 b] 67)).alloc (.cells #[.float .f32 0, .float .f32 0] 67)).alloc (.cells #[.float .f32 0, .float .f32 0] 67)) := b_alloc (b_alloc (b_alloc (Below.refl _ _) _) _) _
  have K0 := Lib.hid k0; have K1 := Lib.hid k1; have K2 := Lib.hid k2; have Bw := Lib.hid bw
  clear k0 k1 k2 bw
  go_enter Tryd.func88, Tryd.ntmps88
  go_wp2
  generalize (((w.alloc (.cells #[.float .f32 a, .float .f32 b] 67)).alloc (.cells #[.float .f32 0, .float .f32 0] 67)).alloc (.cells #[.float .f32 0, .float .f32 0] 67)) = W at *
  have q1 : w.heap.size ≤ w.heap.size + 1 := by omega
  have q2 : w.heap.size ≤ w.heap.size + 1 + 1 := by omega
  have n0 : w.heap.size ≠ w.heap.size + 1 + 1 := by omega
  have n1 : w.heap.size + 1 ≠ w.heap.size + 1 + 1 := by omega
  go_loopw [4] (fun i wr => ∃ k x y : Nat, i = .int .i64 k ∧ Hid ((k = 0 ∧ x = 0 ∧ y = 0) ∨ (k = 1 ∧ x = a ∧ y = 0) ∨ (k = 2 ∧ x = a ∧ y = b)) ∧ Hid (A2at wr w.heap.size a b) ∧ Hid (A2at wr (w.heap.size + 1) 0 0) ∧ Hid (A2at wr (w.heap.size + 1 + 1) x y) ∧ Hid (Below w.heap.size w wr)) (fun i _ => 2 - (intOf i).toNat)
  case atStart => exact ⟨0, 0, 0, rfl, Or.inl ⟨rfl, rfl, rfl⟩, K0, K1, K2, Bw⟩
  case round =>
    obtain ⟨k, x, y, rfl, hk, h0, h1, h2, hb⟩ := hrel
    obtain ⟨c0, c1, _, _⟩ := h0.out.cells
    obtain ⟨d0, d1, z0, z1⟩ := h2.out.cells
    obtain ⟨_, _, y0, y1⟩ := h1.out.cells
    have s0 := h0.out.lt
    have s1 := h1.out.lt
    have s2 := h2.out.lt
    rcases hk.out with ⟨rfl, rfl, rfl⟩ | ⟨rfl, rfl, rfl⟩ | ⟨rfl, rfl, rfl⟩
    · go_wp2
      go_roundw
      case rel => exact ⟨1, a, 0, rfl, Or.inr (Or.inl ⟨rfl, rfl, rfl⟩), h0.out.setO n0 _ _, h1.out.setO n1 _ _, h2.out.set0 _, b_set hb.out q2 _ _⟩
      case measure => simp [intOf]
    · go_wp2
      go_roundw
      case rel => exact ⟨2, x, b, rfl, Or.inr (Or.inr ⟨rfl, rfl, rfl⟩), h0.out.setO n0 _ _, h1.out.setO n1 _ _, h2.out.set1 _, b_set hb.out q2 _ _⟩
      case measure => simp [intOf]
    · go_wp2
      refine bodyPost_ret (ret_a2 Tryd.results88 rfl ((h1.out.set0 _).set1 _)) rfl ⟨rfl, ?_⟩
      exact b_set (b_set hb.out q1 _ _) q1 _ _

set_option maxHeartbeats 1000000 in
theorem toTh_any (X : Th) (w : World) : Calls Tryd.prog 50 #[.agg #[.float .f32 X.h, .float .f32 X.u, .float .f32 X.v, .int .i8 X.s]] w (RV (.agg #[.float .f32 X.h, .float .f32 X.u, .float .f32 X.v, .int .i8 X.s]) w) := by
  have k0 : Blk (((w.alloc (.cells #[.float .f32 X.h, .float .f32 X.u, .float .f32 X.v, .int .i8 X.s] 70)).alloc (.cells #[.float .f32 0, .float .f32 0, .float .f32 0, .int .i8 0] 72)).alloc (.cells #[.float .f32 0, .float .f32 0, .float .f32 0, .int .i8 0] 72)) w.heap.size #[.float .f32 X.h, .float .f32 X.u, .float .f32 X.v, .int .i8 X.s] 70 := (Below.heap_alloc _ _ _ (by simp; omega)).trans ((Below.heap_alloc _ _ _ (by simp)).trans (Blk.new _ _ _))
  have e1 : (w.alloc (.cells #[.float .f32 X.h, .float .f32 X.u, .float .f32 X.v, .int .i8 X.s] 70)).heap.size = w.heap.size + 1 := by simp
  have e2 : ((w.alloc (.cells #[.float .f32 X.h, .float .f32 X.u, .float .f32 X.v, .int .i8 X.s] 70)).alloc (.cells #[.float .f32 0, .float .f32 0, .float .f32 0, .int .i8 0] 72)).heap.size = w.heap.size + 1 + 1 := by simp
  have k1 : Blk (((w.alloc (.cells #[.float .f32 X.h, .float .f32 X.u, .float .f32 X.v, .int .i8 X.s] 70)).alloc (.cells #[.float .f32 0, .float .f32 0, .float .f32 0, .int .i8 0] 72)).alloc (.cells #[.float .f32 0, .float .f32 0, .float .f32 0, .int .i8 0] 72)) (w.heap.size + 1) #[.float .f32 0, .float .f32 0, .float .f32 0, .int .i8 0] 72 := by rw [← e1]; exact (Below.heap_alloc _ _ _ (by simp)).trans (Blk.new _ _ _)
  have k2 : Blk (((w.alloc (.cells #[.float .f32 X.h, .float .f32 X.u, .float .f32 X.v, .int .i8 X.s] 70)).alloc (.cells #[.float .f32 0, .float .f32 0, .float .f32 0, .int .i8 0] 72)).alloc (.cells #[.float .f32 0, .float .f32 0, .float .f32 0, .int .i8 0] 72)) (w.heap.size + 1 + 1) #[.float .f32 0, .float .f32 0, .float .f32 0, .int .i8 0] 72 := by rw [← e2]; exact Blk.new _ _ _
  have bw : Below w.heap.size w (((w.alloc (.cells #[.float .f32 X.h, .float .f32 X.u, .float .f32 X.v, .int .i8 X.s] 70)).alloc (.cells #[.float .f32 0, .float .f32 0, .float .f32 0, .int .i8 0] 72)).alloc (.cells #[.float .f32 0, .float .f32 0, .float .f32 0, .int .i8 0] 72)) := b_alloc (b_alloc (b_alloc (Below.refl _ _) _) _) _
  have K0 := Lib.hid k0; have K1 := Lib.hid k1; have K2 := Lib.hid k2; have Bw := Lib.hid bw
  clear bw e1 e2
  have q1 : w.heap.size ≤ w.heap.size + 1 := by omega
  have q2 : w.heap.size ≤ w.heap.size + 1 + 1 := by omega
  have n0 : w.heap.size ≠ w.heap.size + 1 + 1 := by omega
  have n1 : w.heap.size + 1 ≠ w.heap.size + 1 + 1 := by omega
  go_enter Tryd.func50, Tryd.ntmps50
  go_upto_region 2 with fail
  generalize (((w.alloc (.cells #[.float .f32 X.h, .float .f32 X.u, .float .f32 X.v, .int .i8 X.s] 70)).alloc (.cells #[.float .f32 0, .float .f32 0, .float .f32 0, .int .i8 0] 72)).alloc (.cells #[.float .f32 0, .float .f32 0, .float .f32 0, .int .i8 0] 72)) = W at *
  have c0 := k0.cell 0; have c1 := k0.cell 1; have c2 := k0.cell 2; have c3 := k0.cell 3
  have d0 := k1.cell 0; have d1 := k1.cell 1; have d2 := k1.cell 2; have d3 := k1.cell 3
  have e0 := k2.cell 0; have e1 := k2.cell 1; have e2 := k2.cell 2; have e3 := k2.cell 3
  simp at c0 c1 c2 c3 d0 d1 d2 d3 e0 e1 e2 e3
  have y0 := k1.frozen 0; have y1 := k1.frozen 1; have y2 := k1.frozen 2; have y3 := k1.frozen 3
  have z0 := k2.frozen 0; have z1 := k2.frozen 1; have z2 := k2.frozen 2; have z3 := k2.frozen 3
  have s0 := k0.lt; have s1 := k1.lt; have s2 := k2.lt
  clear k0 k1 k2
  go_wp2_with fail
  have m0 := K0.out.setO n0 0 (.float .f32 X.h); have m1 := K1.out.setO n1 0 (.float .f32 X.h); have m2 := K2.out.set 0 (.float .f32 X.h)
  have Bx := Lib.hid (b_set Bw.out q2 0 (.float .f32 X.h))
  have M0 := Lib.hid m0; have M1 := Lib.hid m1; have M2 := Lib.hid m2
  clear m0 m1 m2 c0 c1 c2 c3 d0 d1 d2 d3 e0 e1 e2 e3 y0 y1 y2 y3 z0 z1 z2 z3
  refine (toA2_any X.u X.v _).mono ?_
  rintro e w1 ⟨rfl, b1⟩
  have k0 := Blk.on M0.out (by rfl) b1; have k1 := Blk.on M1.out (by rfl) b1; have k2 := Blk.on M2.out (by rfl) b1
  have B1 := Lib.hid (b_then Bx.out b1)
  have N1 := Lib.hid k1; have N2 := Lib.hid k2
  clear b1
  have c0 := k0.cell 0; have c1 := k0.cell 1; have c2 := k0.cell 2; have c3 := k0.cell 3
  have d0 := k1.cell 0; have d1 := k1.cell 1; have d2 := k1.cell 2; have d3 := k1.cell 3
  have e0 := k2.cell 0; have e1 := k2.cell 1; have e2 := k2.cell 2; have e3 := k2.cell 3
  simp at c0 c1 c2 c3 d0 d1 d2 d3 e0 e1 e2 e3
  have y0 := k1.frozen 0; have y1 := k1.frozen 1; have y2 := k1.frozen 2; have y3 := k1.frozen 3
  have z0 := k2.frozen 0; have z1 := k2.frozen 1; have z2 := k2.frozen 2; have z3 := k2.frozen 3
  have s0 := k0.lt; have s1 := k1.lt; have s2 := k2.lt
  clear k0 k1 k2
  go_wp2
  refine bodyPost_ret (ret_th (T := X) Tryd.results50 rfl ((((((((N1.out.setO n1 1 _).setO n1 2 _).setO n1 3 _).set 0 _).set 1 _).set 2 _).set 3 _))) rfl ⟨rfl, ?_⟩
  exact b_set (b_set (b_set (b_set (b_set (b_set (b_set B1.out q2 _ _) q2 _ _) q2 _ _) q1 _ _) q1 _ _) q1 _ _) q1 _ _
set_option maxHeartbeats 2000000 in
theorem eqA2_same (a b a' b' : Nat) (ha : cn a = cn a') (hb : cn b = cn b') (w : World) : Calls Tryd.prog 90 #[.agg #[.float .f32 a, .float .f32 b], .agg #[.float .f32 a', .float .f32 b']] w (RV (.bool true) w) := by
  obtain ⟨za, ya, da, ea, ra, sa, ha⟩ := conv2 ha
  obtain ⟨zb, yb, db, eb, rb, sb, hb⟩ := conv2 hb
  have Ha := Lib.hid ha; have Hb := Lib.hid hb
  clear ha hb
  have k0 := ((A2at.new w a b).push (.cells #[.float .f32 a', .float .f32 b'] 67))
  have k1 : A2at ((w.alloc (.cells #[.float .f32 a, .float .f32 b] 67)).alloc (.cells #[.float .f32 a', .float .f32 b'] 67)) (w.heap.size + 1) a' b' := (A2at.newS a' b' (by simp))
  have bw : Below w.heap.size w ((w.alloc (.cells #[.float .f32 a, .float .f32 b] 67)).alloc (.cells #[.float .f32 a', .float .f32 b'] 67)) := b_alloc (b_alloc (Below.refl _ _) _) _
  have K0 := Lib.hid k0; have K1 := Lib.hid k1; have Bw := Lib.hid bw
  clear k0 k1 bw
  go_enter Tryd.func90, Tryd.ntmps90
  go_wp2
  generalize ((w.alloc (.cells #[.float .f32 a, .float .f32 b] 67)).alloc (.cells #[.float .f32 a', .float .f32 b'] 67)) = W at *
  go_loopw [5] (fun i wr => ∃ k : Nat, i = .int .i64 k ∧ Hid (k = 0 ∨ k = 1 ∨ k = 2) ∧ Hid (A2at wr w.heap.size a b) ∧ Hid (A2at wr (w.heap.size + 1) a' b') ∧ Hid (Below w.heap.size w wr)) (fun i _ => 2 - (intOf i).toNat)
  case atStart => exact ⟨0, rfl, Or.inl rfl, K0, K1, Bw⟩
  case round =>
    obtain ⟨k, rfl, hk, h0, h1, hb⟩ := hrel
    obtain ⟨c0, c1, _, _⟩ := h0.out.cells
    obtain ⟨d0, d1, _, _⟩ := h1.out.cells
    have s0 := h0.out.lt
    have s1 := h1.out.lt
    rcases hk.out with rfl | rfl | rfl
    · go_wp2
      go_region_law (go_simp; go_at_call 19; refine (Ha.out _ _ _).mono ?_; rintro e w1 ⟨rfl, rfl⟩; dsimp only)
      all_goals
        go_wp2
        go_roundw
        case rel => exact ⟨1, rfl, Or.inr (Or.inl rfl), A2at.heap h0.out (by rfl), A2at.heap h1.out (by rfl), by first | exact b_drewN (b_drewN hb.out _) _ | exact b_drewN hb.out _ | exact hb.out⟩
        case measure => simp [intOf]
    · go_wp2
      go_region_law (go_simp; go_at_call 19; refine (Hb.out _ _ _).mono ?_; rintro e w1 ⟨rfl, rfl⟩; dsimp only)
      all_goals
        go_wp2
        go_roundw
        case rel => exact ⟨2, rfl, Or.inr (Or.inr rfl), A2at.heap h0.out (by rfl), A2at.heap h1.out (by rfl), by first | exact b_drewN (b_drewN hb.out _) _ | exact b_drewN hb.out _ | exact hb.out⟩
        case measure => simp [intOf]
    · go_wp2
      go_ret
      exact ⟨rfl, hb.out⟩
set_option maxHeartbeats 2000000 in
theorem eqTh_same (X Y : Th) (h : cnT X = cnT Y) (w : World) : Calls Tryd.prog 54 #[.agg #[.float .f32 X.h, .float .f32 X.u, .float .f32 X.v, .int .i8 X.s], .agg #[.float .f32 Y.h, .float .f32 Y.u, .float .f32 Y.v, .int .i8 Y.s]] w (RV (.bool true) w) := by
  unfold cnT at h
  injection h with h1 h2 h3 h4
  obtain ⟨za, ya, da, ea, ra, sa, ha⟩ := conv2 h1
  have Ha := Lib.hid ha
  have Hb := Lib.hid (fun w => eqA2_same X.u X.v Y.u Y.v h2 h3 w)
  have e4 : (X.s != Y.s) = false := by rw [h4]; simp
  have k0 : Blk ((w.alloc (.cells #[.float .f32 X.h, .float .f32 X.u, .float .f32 X.v, .int .i8 X.s] 72)).alloc (.cells #[.float .f32 Y.h, .float .f32 Y.u, .float .f32 Y.v, .int .i8 Y.s] 72)) w.heap.size #[.float .f32 X.h, .float .f32 X.u, .float .f32 X.v, .int .i8 X.s] 72 := (Below.heap_alloc _ _ _ (by simp)).trans (Blk.new _ _ _)
  have k1 : Blk ((w.alloc (.cells #[.float .f32 X.h, .float .f32 X.u, .float .f32 X.v, .int .i8 X.s] 72)).alloc (.cells #[.float .f32 Y.h, .float .f32 Y.u, .float .f32 Y.v, .int .i8 Y.s] 72)) (w.heap.size + 1) #[.float .f32 Y.h, .float .f32 Y.u, .float .f32 Y.v, .int .i8 Y.s] 72 := by
    have e : (w.alloc (.cells #[.float .f32 X.h, .float .f32 X.u, .float .f32 X.v, .int .i8 X.s] 72)).heap.size = w.heap.size + 1 := by simp
    rw [← e]
    exact Blk.new _ _ _
  have K0 := Lib.hid k0; have K1 := Lib.hid k1
  clear ha h1 h2 h3 h4 k0 k1
  go_enter Tryd.func54, Tryd.ntmps54
  go_wp2_with fail
  refine (Ha.out _ _ _).mono ?_
  rintro e w1 ⟨rfl, rfl⟩
  go_wp2_with fail
  refine (Hb.out _).mono ?_
  rintro e w1 ⟨rfl, b1⟩
  have k0 := Blk.on K0.out (by rfl) b1; have k1 := Blk.on K1.out (by rfl) b1
  have c3 := k0.cell 3; have d3 := k1.cell 3
  simp at c3 d3
  clear k0 k1
  go_wp2
  go_ret
  refine ⟨rfl, ?_⟩
  (repeat (first | exact Below.refl _ _ | refine b_drewN ?_ _ | refine b_drew ?_ | refine b_alloc ?_ _ | refine b_then ?_ (by assumption)))

end Go.Proofs.YtkkcihgnpephiaaDoor
