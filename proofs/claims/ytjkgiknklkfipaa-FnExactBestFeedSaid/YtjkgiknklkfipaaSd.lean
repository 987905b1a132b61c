/-
  Stones as results; a stone behind some flour, a stone that is dressed: the program's functions and the model's.
-/
import Derived.Test.YtjkgiknklkfipaaSe
import Derived.Test.YtjkgiknklkfipaaSm
import Derived.Test.YtjkgiknklkfipaaClo
import Derived.Deep.DeepCutAuto
namespace Go.Proofs.Ytjkgiknklkfipaa
open Go.RowKit Go.ChangeShapes Go.WideShapes Go.Deep
attribute [local go_sem ↓] Go.wp_at_zero Go.wp_at_succ
set_option linter.unusedVariables false
set_option linter.unusedSimpArgs false
set_option maxRecDepth 100000
theorem Blk.frozen {w : World} {q : Nat} {cs : Array Value} {t : TypeId} (h : Blk w q cs t) (i : Nat) : w.frozen? ⟨q, i, none⟩ = false := by
  unfold World.frozen?
  rw [h]
  simp
theorem Blk.setO {w : World} {q q' : Nat} {cs : Array Value} {t : TypeId} (h : Blk w q cs t) (hne : q ≠ q') (i : Nat) (v : Value) : Blk (w.setCell ⟨q', i, none⟩ v) q cs t := (Below.heap_setCell w ⟨q', i, none⟩ v q hne).trans h
theorem ret_sn {fn : Func} {tmps : Array Value} {W : World} {q s : Nat} {T : Sn} (hr : fn.results = #[.cell s 42]) (h2 : tmps.getD s undef = .pointer (some ⟨q, 0, none⟩)) (Z : Blk W q #[.float .f32 T.d, .float .f32 T.r, .float .f32 T.b, .float .f32 T.g] 42) :
    (results fn tmps).run Try.prog W = .ok (.agg #[.float .f32 T.d, .float .f32 T.r, .float .f32 T.b, .float .f32 T.g]) W := by
  have e0 := Z.cell 0
  have e1 := Z.cell 1
  have e2 := Z.cell 2
  have e3 := Z.cell 3
  simp at e0 e1 e2 e3
  rw [Array.getD_eq_getD_getElem?] at h2
  simp [results, hr, h2, go_sem, e0, e1, e2, e3]
theorem ret_snc {fn : Func} {tmps : Array Value} {W : World} {q s t : Nat} {T : Sn} (hr : fn.results = #[.cell s 42, .tmp t]) (h2 : tmps.getD s undef = .pointer (some ⟨q, 0, none⟩)) (Z : Blk W q #[.float .f32 T.d, .float .f32 T.r, .float .f32 T.b, .float .f32 T.g] 42) :
    (results fn tmps).run Try.prog W = .ok (.tuple #[.agg #[.float .f32 T.d, .float .f32 T.r, .float .f32 T.b, .float .f32 T.g], tmps.getD t undef]) W := by
  have e0 := Z.cell 0
  have e1 := Z.cell 1
  have e2 := Z.cell 2
  have e3 := Z.cell 3
  simp at e0 e1 e2 e3
  rw [Array.getD_eq_getD_getElem?] at h2
  simp [results, hr, h2, go_sem, e0, e1, e2, e3]
def cnS (S : Sn) : Sn := ⟨cn S.d, cn S.r, cn S.b, cn S.g⟩
/-- The stone is C, up to which NaN its numbers are. -/
def SnIs (T C : Sn) : Prop := cnS T = C
def RSt (C : Sn) (w : World) (e : Ending) (w' : World) : Prop := ∃ T : Sn, e = .returned (.agg #[.float .f32 T.d, .float .f32 T.r, .float .f32 T.b, .float .f32 T.g]) ∧ SnIs T C ∧ Below w.heap.size w w'
def RStC (C : Sn) (k : Int) (w : World) (e : Ending) (w' : World) : Prop := ∃ T : Sn, e = .returned (.tuple #[.agg #[.float .f32 T.d, .float .f32 T.r, .float .f32 T.b, .float .f32 T.g], .int .i64 k]) ∧ SnIs T C ∧ Below w.heap.size w w'
def sn0 : Sn := ⟨0, 0, 0, 0⟩
def snIf (k : Int) (C : Sn) : Sn := if k = 0 then C else sn0
theorem cn_zero : cn 0 = 0 := cn_of_not nan_zero
theorem is_sn0 : SnIs ⟨0, 0, 0, 0⟩ sn0 := by unfold SnIs cnS sn0; rw [cn_zero]
theorem okS_cn {S T : Sn} (h : cnS S = cnS T) : okS S = okS T := by
  unfold cnS at h
  injection h with h1 h2 h3 h4
  unfold okS rtB partB
  rw [oGe_cn h1 rfl, oLe_cn h1 rfl, oGe_cn h2 rfl, oLe_cn h2 rfl, oGe_cn h3 rfl, oLe_cn h3 rfl, oGe_cn h4 rfl, oLe_cn h4 rfl]
theorem cnS_cnS (S : Sn) : cnS (cnS S) = cnS S := by unfold cnS; simp only [cn_cn]
def leastW (a : Nat) : Nat := if oGt a 0 then a else 0
theorem cn_leastW (a : Nat) : cn (leastW a) = leastW (cn a) := by
  unfold leastW
  rw [oGt_cn (cn_cn a) (rfl : cn 0 = cn 0)]
  split
  · rfl
  · exact cn_zero
def dulG (g f : Nat) : Nat := f2 .sub g (f2 .mul g (f2 .quo f (cn 1166016512)))
def dulS (S : Sn) (f : Nat) : Sn := ⟨cn S.d, cn S.r, cn S.b, leastW (dulG (cn S.g) (cn f))⟩
theorem f2_some {op : BinOp} {x y r : Nat} (h : floatBits op .f32 x y = some r) : f2 op x y = r := by unfold f2; rw [h]; rfl
theorem dul_num {g f : Nat} (hg : rg g ≤ 127 * 8388608) (hf : rg f ≤ 147 * 8388608) : nan32 (dulG g f) = false ∧ W32 (dulG g f) ∧ rg (f2 .mul g (f2 .quo f (cn 1166016512))) ≤ 135 * 8388608 := by
  have hk : cn 1166016512 = 1166016512 := cn_of_not (by decide +kernel)
  obtain ⟨r1, e1, b1⟩ := quo_pow (x := f) (y := 1166016512) (A := 147) (B := 139) (C := 135) hf (by decide) (by decide) (by decide) (by decide) (by decide) (by decide) (by decide) (by decide)
  obtain ⟨r2, e2, b2⟩ := mul_le' (x := g) (y := r1) (A := 127) (B := 135) (C := 135) hg b1 (by decide) (by decide) (by decide) (by decide) (by decide) (by decide) (by decide)
  obtain ⟨r3, e3, b3⟩ := sub_le' (x := g) (y := r2) (A := 135) (by omega) b2 (by decide) (by decide)
  have q1 := f2_some e1
  have q2 := f2_some e2
  have q3 := f2_some e3
  unfold dulG
  rw [hk, q1, q2]
  refine ⟨?_, w32_f2 _ _ _, b2⟩
  rw [q3]
  exact floatBits_notNan e3
theorem notBelow0_any (a : Nat) (w : World) : Calls Try.prog 123 #[.float .f32 a] w (RF (fmax (cn a) (cn 0)) w) := by
  obtain ⟨M, NM, hM, hc⟩ := max_fun Try.prog
  have HC := Lib.hid hc; clear hc
  go_enter Try.func123, Try.ntmps123
  go_wp2
  go_ret
  refine ⟨_, rfl, HC.out _ _ _, ?_⟩
  (repeat (first | exact Below.refl _ _ | refine b_drewN ?_ _ | refine b_drew ?_ | refine b_alloc ?_ _ | refine b_then ?_ (by assumption)))
theorem l03Least_any (a : Nat) (w : World) : Calls Try.prog 117 #[.float .f32 a] w fun e w' => e = .returned (.float .f32 (leastW a)) ∧ w = w' := by
  unfold leastW
  rcases Bool.eq_false_or_eq_true (oGt a 0) with h | h
  all_goals
    rw [h]
    unfold oGt at h
    go_enter Try.func117, Try.ntmps117
    go_wp2
    go_ret
    exact ⟨rfl, rfl⟩
theorem l03Least_c (a : Nat) (w : World) : Calls Try.prog 117 #[.float .f32 a] w fun e w' => ∃ r, e = .returned (.float .f32 r) ∧ CN r (leastW (cn a)) ∧ w = w' :=
  (l03Least_any a w).mono fun _ _ ⟨h1, h2⟩ => ⟨_, h1, cn_leastW a, h2⟩
theorem box_two (w : World) (S : Sn) : Blk ((w.alloc (.cells #[.float .f32 S.d, .float .f32 S.r, .float .f32 S.b, .float .f32 S.g] 42)).alloc (.cells #[.float .f32 0, .float .f32 0, .float .f32 0, .float .f32 0] 42)) w.heap.size #[.float .f32 S.d, .float .f32 S.r, .float .f32 S.b, .float .f32 S.g] 42 ∧ Blk ((w.alloc (.cells #[.float .f32 S.d, .float .f32 S.r, .float .f32 S.b, .float .f32 S.g] 42)).alloc (.cells #[.float .f32 0, .float .f32 0, .float .f32 0, .float .f32 0] 42)) (w.heap.size + 1) #[.float .f32 0, .float .f32 0, .float .f32 0, .float .f32 0] 42 ∧ Below w.heap.size w ((w.alloc (.cells #[.float .f32 S.d, .float .f32 S.r, .float .f32 S.b, .float .f32 S.g] 42)).alloc (.cells #[.float .f32 0, .float .f32 0, .float .f32 0, .float .f32 0] 42)) := by
  refine ⟨(Below.heap_alloc _ _ _ (by simp)).trans (Blk.new _ _ _), ?_, b_alloc (b_alloc (Below.refl _ _) _) _⟩
  have e : (w.alloc (.cells #[.float .f32 S.d, .float .f32 S.r, .float .f32 S.b, .float .f32 S.g] 42)).heap.size = w.heap.size + 1 := by simp
  rw [← e]
  exact Blk.new _ _ _
theorem withGrit_any (S : Sn) (g : Nat) (w : World) : Calls Try.prog 101 #[.agg #[.float .f32 S.d, .float .f32 S.r, .float .f32 S.b, .float .f32 S.g], .float .f32 g] w fun e w' => e = .returned (.agg #[.float .f32 S.d, .float .f32 S.r, .float .f32 S.b, .float .f32 g]) ∧ Below w.heap.size w w' := by
  obtain ⟨k0, k1, bw⟩ := box_two w S; have hs0 : w.heap.size < ((w.alloc (.cells #[.float .f32 S.d, .float .f32 S.r, .float .f32 S.b, .float .f32 S.g] 42)).alloc (.cells #[.float .f32 0, .float .f32 0, .float .f32 0, .float .f32 0] 42)).heap.size := k0.lt; have hs1 : w.heap.size + 1 < ((w.alloc (.cells #[.float .f32 S.d, .float .f32 S.r, .float .f32 S.b, .float .f32 S.g] 42)).alloc (.cells #[.float .f32 0, .float .f32 0, .float .f32 0, .float .f32 0] 42)).heap.size := k1.lt; have K0 := Lib.hid k0; have K1 := Lib.hid k1; have Bw := Lib.hid bw; clear bw
  go_enter Try.func101, Try.ntmps101
  go_upto_region 1 with fail
  generalize ((w.alloc (.cells #[.float .f32 S.d, .float .f32 S.r, .float .f32 S.b, .float .f32 S.g] 42)).alloc (.cells #[.float .f32 0, .float .f32 0, .float .f32 0, .float .f32 0] 42)) = W at *; have c0 := k0.cell 0; have c1 := k0.cell 1; have c2 := k0.cell 2; have c3 := k0.cell 3; simp at c0 c1 c2 c3; have z0 := k0.frozen 3; have d0 := k1.cell 0; have d1 := k1.cell 1; have d2 := k1.cell 2; have d3 := k1.cell 3; simp at d0 d1 d2 d3; have y0 := k1.frozen 0; have y1 := k1.frozen 1; have y2 := k1.frozen 2; have y3 := k1.frozen 3; clear k0 k1
  go_wp2
  refine bodyPost_ret (ret_sn (T := ⟨S.d, S.r, S.b, g⟩) Try.results101 rfl ((((K1.out.set 0 _).set 1 _).set 2 _).set 3 _)) rfl ⟨rfl, ?_⟩
  have q1 : w.heap.size ≤ w.heap.size + 1 := by omega
  exact b_set (b_set (b_set (b_set Bw.out q1 _ _) q1 _ _) q1 _ _) q1 _ _
set_option maxHeartbeats 1000000 in
theorem specDul_any (S : Sn) (f : Nat) (w : World) : Calls Try.prog 94 #[.agg #[.float .f32 S.d, .float .f32 S.r, .float .f32 S.b, .float .f32 S.g], .float .f32 f] w (RSt (dulS S f) w) := by
  obtain ⟨R, N, hR, hC⟩ := ops_fun Try.prog 24; have ra := hR .add rfl; have rs := hR .sub rfl; have rm := hR .mul rfl; have rq := hR .quo rfl; have HC := Lib.hid hC; clear hC hR
  obtain ⟨k0, k1, bw⟩ := box_two w S; have hs0 : w.heap.size < ((w.alloc (.cells #[.float .f32 S.d, .float .f32 S.r, .float .f32 S.b, .float .f32 S.g] 42)).alloc (.cells #[.float .f32 0, .float .f32 0, .float .f32 0, .float .f32 0] 42)).heap.size := k0.lt; have hs1 : w.heap.size + 1 < ((w.alloc (.cells #[.float .f32 S.d, .float .f32 S.r, .float .f32 S.b, .float .f32 S.g] 42)).alloc (.cells #[.float .f32 0, .float .f32 0, .float .f32 0, .float .f32 0] 42)).heap.size := k1.lt; have K0 := Lib.hid k0; have K1 := Lib.hid k1; have Bw := Lib.hid bw; clear bw
  go_enter Try.func94, Try.ntmps94
  go_upto_region 1 with fail
  generalize ((w.alloc (.cells #[.float .f32 S.d, .float .f32 S.r, .float .f32 S.b, .float .f32 S.g] 42)).alloc (.cells #[.float .f32 0, .float .f32 0, .float .f32 0, .float .f32 0] 42)) = W at *; have c0 := k0.cell 0; have c1 := k0.cell 1; have c2 := k0.cell 2; have c3 := k0.cell 3; simp at c0 c1 c2 c3; have z0 := k0.frozen 3; have d0 := k1.cell 0; have d1 := k1.cell 1; have d2 := k1.cell 2; have d3 := k1.cell 3; simp at d0 d1 d2 d3; have y0 := k1.frozen 0; have y1 := k1.frozen 1; have y2 := k1.frozen 2; have y3 := k1.frozen 3; clear k0 k1
  go_wp2_with (go_at_call 117; refine (l03Least_c _ _).mono ?_; rintro e w4 ⟨r, rfl, hr, rfl⟩)
  have hne : w.heap.size + 1 ≠ w.heap.size := by omega
  have q0 : w.heap.size ≤ w.heap.size := Nat.le_refl _
  have q1 : w.heap.size ≤ w.heap.size + 1 := by omega
  refine bodyPost_ret (ret_sn (T := ⟨S.d, S.r, S.b, r⟩) Try.results94 rfl ((((((K1.out.draws _).setO hne 3 _).set 0 _).set 1 _).set 2 _).set 3 _)) rfl ⟨_, rfl, ?_, ?_⟩
  · unfold CN at hr
    rw [HC.out .sub rfl, HC.out .mul rfl, HC.out .quo rfl] at hr
    unfold SnIs cnS dulS dulG
    dsimp only
    rw [hr]
  · exact b_set (b_set (b_set (b_set (b_set (b_drewN Bw.out _) q0 _ _) q1 _ _) q1 _ _) q1 _ _) q1 _ _
set_option maxHeartbeats 4000000 in
theorem implDul_any (S : Sn) (f : Nat) (hg : rg (cn S.g) ≤ 127 * 8388608) (hf : rg (cn f) ≤ 147 * 8388608) (w : World) : Calls Try.prog 100 #[.agg #[.float .f32 S.d, .float .f32 S.r, .float .f32 S.b, .float .f32 S.g], .float .f32 f] w (RSt (dulS S f) w) := by
  obtain ⟨R, N, hR, hC⟩ := ops_fun Try.prog 24; have ra := hR .add rfl; have rs := hR .sub rfl; have rm := hR .mul rfl; have rq := hR .quo rfl; have HC := Lib.hid hC; clear hC hR
  obtain ⟨k0, k1, bw⟩ := box_two w S; have hs0 : w.heap.size < ((w.alloc (.cells #[.float .f32 S.d, .float .f32 S.r, .float .f32 S.b, .float .f32 S.g] 42)).alloc (.cells #[.float .f32 0, .float .f32 0, .float .f32 0, .float .f32 0] 42)).heap.size := k0.lt; have hs1 : w.heap.size + 1 < ((w.alloc (.cells #[.float .f32 S.d, .float .f32 S.r, .float .f32 S.b, .float .f32 S.g] 42)).alloc (.cells #[.float .f32 0, .float .f32 0, .float .f32 0, .float .f32 0] 42)).heap.size := k1.lt; have K0 := Lib.hid k0; have K1 := Lib.hid k1; have Bw := Lib.hid bw; clear bw
  obtain ⟨dn, dw, _⟩ := dul_num hg hf
  have hfm := Lib.hid (fmax_test dw dn)
  clear dn dw hg hf
  go_enter Try.func100, Try.ntmps100
  go_upto_region 1 with fail
  generalize ((w.alloc (.cells #[.float .f32 S.d, .float .f32 S.r, .float .f32 S.b, .float .f32 S.g] 42)).alloc (.cells #[.float .f32 0, .float .f32 0, .float .f32 0, .float .f32 0] 42)) = W at *; have c0 := k0.cell 0; have c1 := k0.cell 1; have c2 := k0.cell 2; have c3 := k0.cell 3; simp at c0 c1 c2 c3; have z0 := k0.frozen 3; have d0 := k1.cell 0; have d1 := k1.cell 1; have d2 := k1.cell 2; have d3 := k1.cell 3; simp at d0 d1 d2 d3; have y0 := k1.frozen 0; have y1 := k1.frozen 1; have y2 := k1.frozen 2; have y3 := k1.frozen 3; clear k0 k1
  go_wp2_with fail
  go_region_law (first | (go_simp; go_at_call 123; refine (notBelow0_any _ _).mono ?_; rintro e w1 ⟨r, rfl, hr, b1⟩; have k0 := Blk.on K0.out (by rfl) b1; have k1 := Blk.on K1.out (by rfl) b1; have c0 := k0.cell 0; have c1 := k0.cell 1; have c2 := k0.cell 2; have c3 := k0.cell 3; simp at c0 c1 c2 c3; have M0 := Lib.hid k0; have M1 := Lib.hid k1; have hs0 := k0.lt; have hs1 := k1.lt; clear k0 k1; dsimp only) | (go_simp; go_at_call 101; refine (withGrit_any S _ _).mono ?_; rintro e w2 ⟨rfl, b2⟩; have k1 := Blk.on M1.out (by rfl) b2; have d0 := k1.cell 0; have d1 := k1.cell 1; have d2 := k1.cell 2; have d3 := k1.cell 3; simp at d0 d1 d2 d3; have y0 := k1.frozen 0; have y1 := k1.frozen 1; have y2 := k1.frozen 2; have y3 := k1.frozen 3; have N1 := Lib.hid k1; have hs2 := k1.lt; clear k1; dsimp only))
  all_goals
    go_wp2
    have q1 : w.heap.size ≤ w.heap.size + 1 := by omega
    first
      | refine bodyPost_ret (ret_sn (T := ⟨S.d, S.r, S.b, r⟩) Try.results100 rfl ((((N1.out.set 0 _).set 1 _).set 2 _).set 3 _)) rfl ⟨_, rfl, ?_, ?_⟩
    · unfold CN at hr
      rw [HC.out .sub rfl, HC.out .mul rfl, HC.out .quo rfl, cn_zero] at hr
      have hm := hfm.out
      unfold SnIs cnS dulS leastW
      unfold dulG at hm ⊢
      dsimp only
      rw [hr, hm]
    · have bw := Bw.out
      refine b_set (b_set (b_set (b_set ?_ q1 _ _) q1 _ _) q1 _ _) q1 _ _
      repeat (first | exact bw | refine b_drewN ?_ _ | refine b_drew ?_ | refine b_then ?_ (by assumption))

def oneW : Nat := 1065353216
def dreS (S : Sn) : Sn := ⟨cn S.d, cn S.r, cn S.b, cn 1065353216⟩
theorem implDre_any (S : Sn) (w : World) : Calls Try.prog 64 #[.agg #[.float .f32 S.d, .float .f32 S.r, .float .f32 S.b, .float .f32 S.g]] w (RSt (dreS S) w) := by
  obtain ⟨k0, k1, bw⟩ := box_two w S; have hs0 : w.heap.size < ((w.alloc (.cells #[.float .f32 S.d, .float .f32 S.r, .float .f32 S.b, .float .f32 S.g] 42)).alloc (.cells #[.float .f32 0, .float .f32 0, .float .f32 0, .float .f32 0] 42)).heap.size := k0.lt; have hs1 : w.heap.size + 1 < ((w.alloc (.cells #[.float .f32 S.d, .float .f32 S.r, .float .f32 S.b, .float .f32 S.g] 42)).alloc (.cells #[.float .f32 0, .float .f32 0, .float .f32 0, .float .f32 0] 42)).heap.size := k1.lt; have K0 := Lib.hid k0; have K1 := Lib.hid k1; have Bw := Lib.hid bw; clear bw
  go_enter Try.func64, Try.ntmps64
  go_upto_region 1 with fail
  generalize ((w.alloc (.cells #[.float .f32 S.d, .float .f32 S.r, .float .f32 S.b, .float .f32 S.g] 42)).alloc (.cells #[.float .f32 0, .float .f32 0, .float .f32 0, .float .f32 0] 42)) = W at *; have c0 := k0.cell 0; have c1 := k0.cell 1; have c2 := k0.cell 2; have c3 := k0.cell 3; simp at c0 c1 c2 c3; have z0 := k0.frozen 3; have d0 := k1.cell 0; have d1 := k1.cell 1; have d2 := k1.cell 2; have d3 := k1.cell 3; simp at d0 d1 d2 d3; have y0 := k1.frozen 0; have y1 := k1.frozen 1; have y2 := k1.frozen 2; have y3 := k1.frozen 3; clear k0 k1
  go_wp2_with (go_at_call 101; refine (withGrit_any S _ _).mono ?_; rintro e w2 ⟨rfl, b2⟩; have k1 := Blk.on K1.out (by rfl) b2; have d0 := k1.cell 0; have d1 := k1.cell 1; have d2 := k1.cell 2; have d3 := k1.cell 3; simp at d0 d1 d2 d3; have y0 := k1.frozen 0; have y1 := k1.frozen 1; have y2 := k1.frozen 2; have y3 := k1.frozen 3; have M1a := Lib.hid k1; have hsa := k1.lt; clear k1)
  have q1 : w.heap.size ≤ w.heap.size + 1 := by omega
  refine bodyPost_ret (ret_sn (T := ⟨S.d, S.r, S.b, 1065353216⟩) Try.results64 rfl ((((M1a.out.set 0 _).set 1 _).set 2 _).set 3 _)) rfl ⟨_, rfl, ?_, ?_⟩
  · rfl
  · have bw := Bw.out
    refine b_set (b_set (b_set (b_set ?_ q1 _ _) q1 _ _) q1 _ _) q1 _ _
    repeat (first | exact bw | refine b_drewN ?_ _ | refine b_drew ?_ | refine b_then ?_ (by assumption))

def codeDre (S : Sn) : Int := if okS S then 0 else 1

theorem part_rg {x : Nat} (h : partB x = true) : rg (cn x) ≤ 127 * 8388608 := by
  unfold partB at h
  simp only [Bool.and_eq_true] at h
  obtain ⟨n, a, _, _⟩ := between h.1 h.2 (by decide) (by decide)
  rw [cn_of_not n]
  omega
theorem ok_g {S : Sn} (h : okS S = true) : rg (cn S.g) ≤ 127 * 8388608 := by
  unfold okS at h
  simp only [Bool.and_eq_true] at h
  exact part_rg h.2.2.2
theorem ps_rg {f : Nat} (h : psB f = true) : rg (cn f) ≤ 147 * 8388608 := by
  unfold psB at h
  simp only [Bool.and_eq_true] at h
  obtain ⟨n, a, _, _⟩ := between h.1 h.2 (by decide) (by decide)
  rw [cn_of_not n]
  omega
theorem rt_rg {f : Nat} (h : rtB f = true) : rg (cn f) ≤ 137 * 8388608 := by
  unfold rtB at h
  simp only [Bool.and_eq_true] at h
  obtain ⟨n, a, _, _⟩ := between h.1 h.2 (by decide) (by decide)
  rw [cn_of_not n]
  omega

end Go.Proofs.Ytjkgiknklkfipaa
