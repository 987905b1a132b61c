/-
  GrindHour: both sides and the law.
-/
import Derived.Test.YtagjkagfnfonpaaHo
import Derived.Test.YtagjkagfnfonpaaSh
import Derived.Deep.DeepCutAuto
namespace Go.Proofs.Ytagjkagfnfonpaa
open Go.RowKit Go.ChangeShapes Go.WideShapes Go.Deep
attribute [local go_sem ↓] Go.wp_at_zero Go.wp_at_succ
set_option linter.unusedVariables false
set_option linter.unusedSimpArgs false
set_option maxRecDepth 100000
theorem ret_snfc {fn : Func} {tmps : Array Value} {W : World} {q s t u : Nat} {T : Sn} (hr : fn.results = #[.cell s 27, .tmp t, .tmp u]) (h2 : tmps.getD s undef = .pointer (some ⟨q, 0, none⟩)) (Z : Blk W q #[.float .f32 T.d, .float .f32 T.r, .float .f32 T.b, .float .f32 T.g] 27) :
    (results fn tmps).run Try.prog W = .ok (.tuple #[.agg #[.float .f32 T.d, .float .f32 T.r, .float .f32 T.b, .float .f32 T.g], tmps.getD t undef, tmps.getD u undef]) W := by
  have e0 := Z.cell 0
  have e1 := Z.cell 1
  have e2 := Z.cell 2
  have e3 := Z.cell 3
  simp at e0 e1 e2 e3
  rw [Array.getD_eq_getD_getElem?] at h2
  simp [results, hr, h2, go_sem, e0, e1, e2, e3]
def RHoC (C : Sn) (f : Nat) (k : Int) (w : World) (e : Ending) (w' : World) : Prop := ∃ T r, e = .returned (.tuple #[.agg #[.float .f32 T.d, .float .f32 T.r, .float .f32 T.b, .float .f32 T.g], .float .f32 r, .int .i64 k]) ∧ SnIs T C ∧ CN r f ∧ Below w.heap.size w w'
theorem Blk.push {w : World} {q : Nat} {cs : Array Value} {t : TypeId} (h : Blk w q cs t) (o : Obj) : Blk (w.alloc o) q cs t := h.on (W := w) rfl (b_alloc (Below.refl _ _) o)
theorem grinding_c (fd : Nat) (w : World) : Calls Try.prog 69 #[.float .f32 fd] w fun e w' => ∃ q, e = .returned (.func (.func 81) #[] #[.pointer (some ⟨q, 0, none⟩)]) ∧ One w' q (.float .f32 fd) 22 ∧ w.heap.size ≤ q ∧ Below w.heap.size w w' := by
  have hmf : ∀ (fn : Fn) (first cap : Array Value) (w : World), (Instr.makeFunc fn first cap).run Try.prog w = .ok (.func fn first cap) w := fun _ _ _ _ => rfl
  have h1 := One.new w (.float .f32 fd) 22
  have H1 := Lib.hid h1
  clear h1
  go_enter Try.func69, Try.ntmps69
  go_wp2
  go_ret
  exact ⟨_, rfl, H1.out, Nat.le_refl _, b_alloc (Below.refl _ _) _⟩
theorem code_ok {S : Sn} {a : Bool} (h : codeR (okS S) a = 0) : okS S = true ∧ a = true := by
  unfold codeR at h
  cases h1 : okS S <;> cases h2 : a <;> simp_all

set_option maxHeartbeats 4000000 in
theorem specGrind_any (S : Sn) (t fd : Nat) (w : World) : Calls Try.prog 40 #[.agg #[.float .f32 S.d, .float .f32 S.r, .float .f32 S.b, .float .f32 S.g], .float .f32 t, .float .f32 fd] w (RHoC (snIf (codeR (okS S) (psB t && rtB fd)) (hourS S t fd)) (zeroIf (codeR (okS S) (psB t && rtB fd)) (hourF S t fd)) (codeR (okS S) (psB t && rtB fd)) w) := by
  have ha := fun w => specTurned_any S t fd w
  obtain ⟨C, hC⟩ : ∃ C, codeR (okS S) (psB t && rtB fd) = C := ⟨_, rfl⟩
  rw [hC] at ha ⊢
  have HA := Lib.hid ha
  have HC3 := codeR_cases hC
  clear ha hC
  obtain ⟨k0, k1, bw⟩ := box_two w S; have hs0 : w.heap.size < ((w.alloc (.cells #[.float .f32 S.d, .float .f32 S.r, .float .f32 S.b, .float .f32 S.g] 27)).alloc (.cells #[.float .f32 0, .float .f32 0, .float .f32 0, .float .f32 0] 27)).heap.size := k0.lt; have hs1 : w.heap.size + 1 < ((w.alloc (.cells #[.float .f32 S.d, .float .f32 S.r, .float .f32 S.b, .float .f32 S.g] 27)).alloc (.cells #[.float .f32 0, .float .f32 0, .float .f32 0, .float .f32 0] 27)).heap.size := k1.lt; have K0 := Lib.hid k0; have K1 := Lib.hid k1; have Bw := Lib.hid bw; clear bw
  rcases HC3 with rfl | rfl | rfl
  · go_enter Try.func40, Try.ntmps40
    go_upto_region 1 with fail
    generalize ((w.alloc (.cells #[.float .f32 S.d, .float .f32 S.r, .float .f32 S.b, .float .f32 S.g] 27)).alloc (.cells #[.float .f32 0, .float .f32 0, .float .f32 0, .float .f32 0] 27)) = W at *; have c0 := k0.cell 0; have c1 := k0.cell 1; have c2 := k0.cell 2; have c3 := k0.cell 3; simp at c0 c1 c2 c3; have z0 := k0.frozen 3; have d0 := k1.cell 0; have d1 := k1.cell 1; have d2 := k1.cell 2; have d3 := k1.cell 3; simp at d0 d1 d2 d3; have y0 := k1.frozen 0; have y1 := k1.frozen 1; have y2 := k1.frozen 2; have y3 := k1.frozen 3; clear k0 k1
    go_wp2_with fail
    refine (HA.out _).mono ?_
    rintro e w1 ⟨rfl, b1⟩
    clear c0 c1 c2 c3 d0 d1 d2 d3 y0 y1 y2 y3 z0
    have k1 := Blk.on K1.out (by rfl) b1
    have k0 := Blk.on K0.out (by rfl) b1
    have c0 := k0.cell 0
    have c1 := k0.cell 1
    have c2 := k0.cell 2
    have c3 := k0.cell 3
    simp at c0 c1 c2 c3
    have z0 := k0.frozen 3
    have M0a := Lib.hid k0
    clear k0
    have d0 := k1.cell 0
    have d1 := k1.cell 1
    have d2 := k1.cell 2
    have d3 := k1.cell 3
    simp at d0 d1 d2 d3
    have y0 := k1.frozen 0
    have y1 := k1.frozen 1
    have y2 := k1.frozen 2
    have y3 := k1.frozen 3
    have M1a := Lib.hid k1
    have hsa := k1.lt
    clear k1
    have B1 : Hid (Below w.heap.size w w1) := b_then Bw.out b1
    clear b1
    go_wp2_with fail
    refine (specHour_any S t fd _).mono ?_
    rintro e w2 ⟨T, r, rfl, hT, hr, b2⟩
    clear c0 c1 c2 c3 d0 d1 d2 d3 y0 y1 y2 y3 z0
    have k1 := Blk.on M1a.out (by rfl) b2
    have d0 := k1.cell 0
    have d1 := k1.cell 1
    have d2 := k1.cell 2
    have d3 := k1.cell 3
    simp at d0 d1 d2 d3
    have y0 := k1.frozen 0
    have y1 := k1.frozen 1
    have y2 := k1.frozen 2
    have y3 := k1.frozen 3
    have M1b := Lib.hid k1
    have hsb := k1.lt
    clear k1
    have B2 : Hid (Below w.heap.size w w2) := b_then B1.out b2
    clear b2
    go_wp2
    have q1 : w.heap.size ≤ w.heap.size + 1 := by omega
    refine bodyPost_ret (ret_snfc (T := T) Try.results40 rfl (((((M1b.out.set 0 _).set 1 _).set 2 _).set 3 _).push _)) rfl ⟨_, _, rfl, hT, hr, ?_⟩
    exact b_alloc (b_set (b_set (b_set (b_set B2.out q1 _ _) q1 _ _) q1 _ _) q1 _ _) _
  all_goals
    go_enter Try.func40, Try.ntmps40
    go_upto_region 1 with fail
    generalize ((w.alloc (.cells #[.float .f32 S.d, .float .f32 S.r, .float .f32 S.b, .float .f32 S.g] 27)).alloc (.cells #[.float .f32 0, .float .f32 0, .float .f32 0, .float .f32 0] 27)) = W at *; have c0 := k0.cell 0; have c1 := k0.cell 1; have c2 := k0.cell 2; have c3 := k0.cell 3; simp at c0 c1 c2 c3; have z0 := k0.frozen 3; have d0 := k1.cell 0; have d1 := k1.cell 1; have d2 := k1.cell 2; have d3 := k1.cell 3; simp at d0 d1 d2 d3; have y0 := k1.frozen 0; have y1 := k1.frozen 1; have y2 := k1.frozen 2; have y3 := k1.frozen 3; clear k0 k1
    go_wp2_with fail
    refine (HA.out _).mono ?_
    rintro e w1 ⟨rfl, b1⟩
    clear c0 c1 c2 c3 d0 d1 d2 d3 y0 y1 y2 y3 z0
    have k1 := Blk.on K1.out (by rfl) b1
    have k0 := Blk.on K0.out (by rfl) b1
    have c0 := k0.cell 0
    have c1 := k0.cell 1
    have c2 := k0.cell 2
    have c3 := k0.cell 3
    simp at c0 c1 c2 c3
    have z0 := k0.frozen 3
    have M0a := Lib.hid k0
    clear k0
    have d0 := k1.cell 0
    have d1 := k1.cell 1
    have d2 := k1.cell 2
    have d3 := k1.cell 3
    simp at d0 d1 d2 d3
    have y0 := k1.frozen 0
    have y1 := k1.frozen 1
    have y2 := k1.frozen 2
    have y3 := k1.frozen 3
    have M1a := Lib.hid k1
    have hsa := k1.lt
    clear k1
    have B1 : Hid (Below w.heap.size w w1) := b_then Bw.out b1
    clear b1
    go_wp2
    have q1 : w.heap.size ≤ w.heap.size + 1 := by omega
    refine bodyPost_ret (ret_snfc (T := ⟨0, 0, 0, 0⟩) Try.results40 rfl ((((M1a.out.set 0 _).set 1 _).set 2 _).set 3 _)) rfl ⟨_, _, rfl, is_sn0, cn_lit _, ?_⟩
    exact b_set (b_set (b_set (b_set B1.out q1 _ _) q1 _ _) q1 _ _) q1 _ _
set_option maxHeartbeats 8000000 in
theorem implGrind_any (S : Sn) (t fd : Nat) (w : World) : Calls Try.prog 41 #[.agg #[.float .f32 S.d, .float .f32 S.r, .float .f32 S.b, .float .f32 S.g], .float .f32 t, .float .f32 fd] w (RHoC (snIf (codeR (okS S) (psB t && rtB fd)) (hourS S t fd)) (zeroIf (codeR (okS S) (psB t && rtB fd)) (hourF S t fd)) (codeR (okS S) (psB t && rtB fd)) w) := by
  have hP := fun w => isPlainSize_any t w
  have hQ := fun w => isRate_any fd w
  obtain ⟨ta, ht⟩ : ∃ ta, rtB fd = ta := ⟨_, rfl⟩
  obtain ⟨tp, hp⟩ : ∃ tp, psB t = tp := ⟨_, rfl⟩
  rw [hp] at hP ⊢
  rw [ht] at hQ ⊢
  have hE := fun w => stoneError_any S (tp && ta) w
  obtain ⟨K, hK⟩ : ∃ K, codeR (okS S) (tp && ta) = K := ⟨_, rfl⟩
  rw [hK] at hE ⊢
  have HP := Lib.hid hP; have HQ := Lib.hid hQ; have HE := Lib.hid hE
  have HK := Lib.hid (codeR_cases hK)
  have HO : Hid (K = 0 → rg (cn S.g) ≤ 127 * 8388608 ∧ rg (cn fd) ≤ 137 * 8388608) := fun h => by
    subst h
    obtain ⟨o1, o2⟩ := code_ok hK
    exact ⟨ok_g o1, rt_rg (by rw [ht]; cases tp <;> simp_all)⟩
  clear hP hQ hE hK hp ht
  obtain ⟨k0, k1, bw⟩ := box_two w S; have hs0 : w.heap.size < ((w.alloc (.cells #[.float .f32 S.d, .float .f32 S.r, .float .f32 S.b, .float .f32 S.g] 27)).alloc (.cells #[.float .f32 0, .float .f32 0, .float .f32 0, .float .f32 0] 27)).heap.size := k0.lt; have hs1 : w.heap.size + 1 < ((w.alloc (.cells #[.float .f32 S.d, .float .f32 S.r, .float .f32 S.b, .float .f32 S.g] 27)).alloc (.cells #[.float .f32 0, .float .f32 0, .float .f32 0, .float .f32 0] 27)).heap.size := k1.lt; have K0 := Lib.hid k0; have K1 := Lib.hid k1; have Bw := Lib.hid bw; clear bw
  go_enter Try.func41, Try.ntmps41
  go_upto_region 1 with fail
  generalize ((w.alloc (.cells #[.float .f32 S.d, .float .f32 S.r, .float .f32 S.b, .float .f32 S.g] 27)).alloc (.cells #[.float .f32 0, .float .f32 0, .float .f32 0, .float .f32 0] 27)) = W at *; have c0 := k0.cell 0; have c1 := k0.cell 1; have c2 := k0.cell 2; have c3 := k0.cell 3; simp at c0 c1 c2 c3; have z0 := k0.frozen 3; have d0 := k1.cell 0; have d1 := k1.cell 1; have d2 := k1.cell 2; have d3 := k1.cell 3; simp at d0 d1 d2 d3; have y0 := k1.frozen 0; have y1 := k1.frozen 1; have y2 := k1.frozen 2; have y3 := k1.frozen 3; clear k0 k1
  go_cut [9] (fun s9 wx => s9 = .int .i64 K ∧ Below W.heap.size W wx)
  case first =>
    cases tp
    · simp only [Bool.false_and] at HE
      first
        | go_region_law (first | (go_simp; go_at_call 58; refine (HP.out _).mono ?_; rintro e w1 ⟨rfl, rfl⟩; dsimp only) | (go_simp; go_at_call 16; refine (HQ.out _).mono ?_; rintro e w1 ⟨rfl, rfl⟩; dsimp only) | (go_simp; go_at_call 57; refine (HE.out _).mono ?_; rintro e w1 ⟨rfl, b1⟩; dsimp only))
        | fail
      all_goals
        go_wp2_with fail
        go_meet
        refine ⟨rfl, ?_⟩
        repeat (first | exact Below.refl W.heap.size W | refine b_drewN ?_ _ | refine b_drew ?_ | refine b_then ?_ (by assumption))
    · simp only [Bool.true_and] at HE
      go_region_law (first | (go_simp; go_at_call 58; refine (HP.out _).mono ?_; rintro e w1 ⟨rfl, rfl⟩; dsimp only) | (go_simp; go_at_call 16; refine (HQ.out _).mono ?_; rintro e w1 ⟨rfl, rfl⟩; dsimp only) | (go_simp; go_at_call 57; refine (HE.out _).mono ?_; rintro e w1 ⟨rfl, b1⟩; dsimp only))
      all_goals
        go_wp2_with fail
        go_meet
        refine ⟨rfl, ?_⟩
        repeat (first | exact Below.refl W.heap.size W | refine b_drewN ?_ _ | refine b_drew ?_ | refine b_then ?_ (by assumption))
  case rest =>
    obtain ⟨rfl, hbc⟩ := hcut
    clear c0 c1 c2 c3 d0 d1 d2 d3 y0 y1 y2 y3 z0
    have k1 := Blk.on K1.out (by rfl) hbc
    have k0 := Blk.on K0.out (by rfl) hbc
    have c0 := k0.cell 0
    have c1 := k0.cell 1
    have c2 := k0.cell 2
    have c3 := k0.cell 3
    simp at c0 c1 c2 c3
    have z0 := k0.frozen 3
    have M0a := Lib.hid k0
    clear k0
    have d0 := k1.cell 0
    have d1 := k1.cell 1
    have d2 := k1.cell 2
    have d3 := k1.cell 3
    simp at d0 d1 d2 d3
    have y0 := k1.frozen 0
    have y1 := k1.frozen 1
    have y2 := k1.frozen 2
    have y3 := k1.frozen 3
    have M1a := Lib.hid k1
    have hsa := k1.lt
    clear k1
    have BC := Lib.hid (b_then Bw.out hbc)
    clear hbc
    have q1 : w.heap.size ≤ w.heap.size + 1 := by omega
    rcases HK.out with rfl | rfl | rfl
    · obtain ⟨hg, hf⟩ := HO.out rfl
      have HG := Lib.hid hg; have HF := Lib.hid hf
      clear hg hf
      have hl0 : w.heap.size < wc.heap.size := M0a.out.lt
      go_upto_region 4 with fail
      go_cut [10, 11] (fun s10 s11 wx => ∃ q10 T r, s10 = .pointer (some ⟨q10, 0, none⟩) ∧ s11 = .float .f32 r ∧ SnIs T (hourS S t fd) ∧ CN r (hourF S t fd) ∧ Blk wx q10 #[.float .f32 T.d, .float .f32 T.r, .float .f32 T.b, .float .f32 T.g] 27 ∧ Below wc.heap.size wc wx)
      case first =>
        go_region_law (first | (go_simp; go_at_call 69; refine (grinding_c fd _).mono ?_; rintro e w1 ⟨qf, rfl, of, lf, b1⟩; have OF := Lib.hid of; have k0 : Blk w1 w.heap.size #[.float .f32 S.d, .float .f32 S.r, .float .f32 S.b, .float .f32 S.g] 27 := (by first | exact Blk.on M0a.out (by rfl) b1 | exact Blk.on (M0a.out.push _) (by rfl) b1); have c0 := k0.cell 0; have c1 := k0.cell 1; have c2 := k0.cell 2; have c3 := k0.cell 3; simp at c0 c1 c2 c3; have ls := k0.lt; clear k0 of; (try (have x1 : Blk w1 wc.heap.size #[.float .f32 0, .float .f32 0, .float .f32 0, .float .f32 0] 27 := Blk.on (Blk.new _ _ _) (by rfl) b1; have X1 := Lib.hid x1; clear x1)); dsimp only) | (go_simp; go_at_call 81; refine (implHour_any S t fd HG.out HF.out _ _ (by first | exact OF.out | exact One.push OF.out _)).mono ?_; rintro e w2 ⟨T, r, rfl, hT, hr, b2⟩; (first | (have y1 : Blk w2 wc.heap.size #[.float .f32 0, .float .f32 0, .float .f32 0, .float .f32 0] 27 := Blk.on X1.out (by rfl) b2) | (have y1 : Blk w2 w1.heap.size #[.float .f32 0, .float .f32 0, .float .f32 0, .float .f32 0] 27 := Blk.on (Blk.new w1 _ _) (by rfl) b2) | skip); (try (have d0 := y1.cell 0; have d1 := y1.cell 1; have d2 := y1.cell 2; have d3 := y1.cell 3; simp at d0 d1 d2 d3; have y0 := y1.frozen 0; have y1' := y1.frozen 1; have y2 := y1.frozen 2; have y3 := y1.frozen 3; have Y1 := Lib.hid y1; have ly := y1.lt; clear y1)); dsimp only))
        all_goals
          go_wp2_with fail
          go_meet
          have hw1 : wc.heap.size ≤ w1.heap.size := by
            have := b1.size
            simp at this
            omega
          have hbw : Below wc.heap.size wc w2 := by
            repeat (first | with_reducible exact Below.refl wc.heap.size wc | refine b_then ?_ (by assumption) | refine b_drew ?_ | refine b_alloc ?_ _ | refine b_drewN ?_ _)
          clear b1 b2
          first
            | exact ⟨_, T, r, rfl, rfl, hT, hr, ((((Y1.out.set 0 _).set 1 _).set 2 _).set 3 _), b_set (b_set (b_set (b_set hbw (by first | exact Nat.le_refl _ | assumption) _ _) (by first | exact Nat.le_refl _ | assumption) _ _) (by first | exact Nat.le_refl _ | assumption) _ _) (by first | exact Nat.le_refl _ | assumption) _ _⟩
            | exact ⟨_, T, r, rfl, rfl, hT, hr, Blk.new _ _ _, b_alloc hbw _⟩
      case rest =>
        obtain ⟨q10, T, r, rfl, rfl, hT, hr, hB, hbd⟩ := hcut
        clear c0 c1 c2 c3 d0 d1 d2 d3 y0 y1 y2 y3 z0
        have c0 := hB.cell 0; have c1 := hB.cell 1; have c2 := hB.cell 2; have c3 := hB.cell 3
        simp at c0 c1 c2 c3
        have BD := Lib.hid (b_then BC.out hbd)
        have lb := hB.lt
        have k1 := Blk.on M1a.out (by rfl) hbd; have d0 := k1.cell 0; have d1 := k1.cell 1; have d2 := k1.cell 2; have d3 := k1.cell 3; simp at d0 d1 d2 d3; have y0 := k1.frozen 0; have y1 := k1.frozen 1; have y2 := k1.frozen 2; have y3 := k1.frozen 3; have M1d := Lib.hid k1; have hsd := k1.lt; clear k1
        clear hB hbd
        go_wp2
        refine bodyPost_ret (ret_snfc (T := T) Try.results41 rfl ((((M1d.out.set 0 _).set 1 _).set 2 _).set 3 _)) rfl ⟨_, _, rfl, hT, hr, ?_⟩
        exact b_set (b_set (b_set (b_set BD.out q1 _ _) q1 _ _) q1 _ _) q1 _ _
    all_goals
      go_wp2
      refine bodyPost_ret (ret_snfc (T := ⟨0, 0, 0, 0⟩) Try.results41 rfl ((((M1a.out.set 0 _).set 1 _).set 2 _).set 3 _)) rfl ⟨_, _, rfl, is_sn0, cn_lit _, ?_⟩
      exact b_set (b_set (b_set (b_set BC.out q1 _ _) q1 _ _) q1 _ _) q1 _ _
set_option maxRecDepth 100000 in
set_option maxHeartbeats 4000000 in
theorem walk_FnExactGrindHour (S : Sn) (wS : (Lit.float .f32 S.d).wf = true ∧ (Lit.float .f32 S.r).wf = true ∧ (Lit.float .f32 S.b).wf = true ∧ (Lit.float .f32 S.g).wf = true) (t : Nat) (wt : (Lit.float .f32 t).wf = true) (fd : Nat) (wfd : (Lit.float .f32 fd).wf = true) (w : World) :
    Calls Try.prog 13 #[.agg #[.float .f32 S.d, .float .f32 S.r, .float .f32 S.b, .float .f32 S.g], .float .f32 t, .float .f32 fd] w fun e w' => e = .returned (.bool true) ∧ Below w.heap.size w w' := by
  go_enter Try.func13, Try.ntmps13
  go_wp2_with fail
  refine (toSn_any S _).mono ?_
  rintro e w0 ⟨rfl, b0⟩
  have l0 := AtLSn.on (AtLSn.new w S) (by rfl) b0
  have B0 : Hid (Below w.heap.size w w0) := b_then (b_alloc (Below.refl _ _) _) b0
  clear b0
  go_wp2_with fail
  refine (specGrind_any S t fd _).mono ?_
  rintro e w1 ⟨T1, r1, rfl, t1, f1, b1⟩
  have l1 := AtLSn.on l0 (by rfl) b1
  have B1 : Hid (Below w.heap.size w w1) := b_then B0.out b1
  have T1h := Lib.hid t1
  have F1h := Lib.hid f1
  clear b1 l0 t1 f1
  obtain ⟨c0, c1, c2, c3⟩ := l1.cells
  have hs1 : w.heap.size < w1.heap.size := l1.lt
  clear l1
  go_wp2_with fail
  have j2 := AtSn.new w1 T1
  refine (toSn_any S _).mono ?_
  rintro e w2 ⟨rfl, b2⟩
  have k2 := AtSn.on j2 (by rfl) b2
  have B2 : Hid (Below w.heap.size w w2) := b_then (b_alloc B1.out _) b2
  clear b2 c0 c1 c2 c3 j2
  go_wp2_with fail
  refine (implGrind_any S t fd _).mono ?_
  rintro e w3 ⟨T3, r3, rfl, t3, f3, b3⟩
  have k3 := AtSn.on k2 (by rfl) b3
  have B3 : Hid (Below w.heap.size w w3) := b_then B2.out b3
  clear b3 k2
  have E3 : Hid (cnS T3 = cnS T1) := t3.trans T1h.out.symm
  have F3 : Hid (cn r3 = cn r1) := f3.trans F1h.out.symm
  clear t3 f3
  obtain ⟨zx, zy, dx, dy, q1, q2, hcv⟩ := conv_two F3.out
  have HCV := Lib.hid hcv
  clear hcv
  obtain ⟨c0, c1, c2, c3⟩ := k3.cells
  have hs3 : w1.heap.size < w3.heap.size := k3.lt
  clear k3
  go_wp2_with fail
  refine (eqSn_same T3 T1 E3.out _).mono ?_
  rintro e w4 ⟨rfl, b4⟩
  have B4 : Hid (Below w.heap.size w w4) := b_then (b_alloc B3.out _) b4
  clear b4 c0 c1 c2 c3
  go_wp2_with fail
  refine (HCV.out _ _ _).mono ?_
  rintro e w5 ⟨rfl, rfl⟩
  go_wp2
  go_ret
  refine ⟨rfl, ?_⟩
  have b4 := B4.out
  repeat (first | exact b4 | refine b_drewN ?_ _ | refine b_drew ?_)
end Go.Proofs.Ytagjkagfnfonpaa
