/-
  A tick, without a program; and the program's function and the model's.
-/
import Derived.Test.YtefeifkkinnoeaaDoorGb
namespace Go.Proofs.YtefeifkkinnoeaaDoor
open Go.RowKit Go.ChangeShapes Go.WideShapes Go.Deep
attribute [local go_sem ↓] Go.wp_at_zero Go.wp_at_succ
set_option linter.unusedVariables false
set_option linter.unusedSimpArgs false
set_option maxRecDepth 100000
def pullN (G : Gv) (S : Se) (l : Nat) : Nat := subN (torqG G (gateN G S) S.s) l
def gainN (G : Gv) (S : Se) (l : Nat) : Nat := quoN (pullN G S l) G.ine
def rawN (G : Gv) (S : Se) (l : Nat) : Nat := addN S.s (gainN G S l)
def capN (a : Nat) : Nat := if oGt a 1149239296 then 1149239296 else clampN a
def tickS (G : Gv) (S : Se) (l : Nat) : Se := ⟨capN (rawN G S l), gateN G S⟩
theorem torq_bits {M : Ml} (hM : GoodM M) {f s : Nat} (hf : fOK f) (hs : spB s = true) : rg (torqN M f s) ≤ 162 * 8388608 := (torq_some hM hf hs).2.2.2.2
theorem tick_some {G : Gv} (hG : GoodG G) {S : Se} (hS : GoodS S) {l : Nat} (hl : psB l = true) :
    floatBits .sub .f32 (torqG G (gateN G S) S.s) l = some (pullN G S l) ∧ floatBits .quo .f32 (pullN G S l) G.ine = some (gainN G S l) ∧ floatBits .add .f32 S.s (gainN G S l) = some (rawN G S l) ∧ nan32 (rawN G S l) = false ∧ rawN G S l < 4294967296 := by
  obtain ⟨hs, g0, g1⟩ := hS.parts
  obtain ⟨n0, n1⟩ := gateN_in (G := G) g0 g1
  have ht : rg (torqG G (gateN G S) S.s) ≤ 162 * 8388608 := torq_bits hG.mill (flowG_ok hG n0 n1) hs
  have hb := (ps_between hl).2.1
  have hsb := (sp_between hs).2.1
  obtain ⟨_, i1, i2, _⟩ := rad_between hG.ar.2.2.1
  obtain ⟨e1, c1⟩ := sub_step (x := torqG G (gateN G S) S.s) (y := l) (A := 163) (by omega) (by omega) (by omega) (by omega)
  have c1' : rg (pullN G S l) ≤ 164 * 8388608 := c1
  obtain ⟨e2, c2, _⟩ := quo_le (x := pullN G S l) (y := G.ine) (A := 165) (B := 123) (C := 169) (by omega) (by omega) (by omega) (by omega) (by omega) (by omega) (by omega) (by omega) (by omega)
  have c2' : rg (gainN G S l) ≤ 169 * 8388608 := c2
  obtain ⟨e3, c3⟩ := add_step (x := S.s) (y := gainN G S l) (A := 170) (by omega) (by omega) (by omega) (by omega)
  have e3' : floatBits .add .f32 S.s (gainN G S l) = some (rawN G S l) := e3
  exact ⟨e1, e2, e3', floatBits_notNan e3', bits_lt e3'⟩
theorem clamp_facts {a : Nat} (ha : nan32 a = false) (hl : a < 4294967296) : nan32 (clampN a) = false ∧ clampN a < 4294967296 ∧ 0 ≤ rk (clampN a) := by
  unfold clampN
  rcases Bool.eq_false_or_eq_true (oGt a 0) with h | h
  · rw [h]
    rw [oGt_rk ha nan_zero, rk_zero, decide_eq_true_eq] at h
    exact ⟨ha, hl, by simp; omega⟩
  · rw [h]
    exact ⟨nan_zero, by simp, by simp [rk_zero]⟩
theorem nan_top : nan32 1149239296 = false := by decide +kernel
theorem cap_min {a : Nat} (ha : nan32 a = false) (hl : a < 4294967296) {P : Program} (ts : Array TypeId) (t : TypeId) (w : World) :
    (Builtin.min_ ts t #[.float .f32 (clampN a), .float .f32 1149239296]).run P w = .ok (.float .f32 (capN a)) w := by
  obtain ⟨n1, l1, k1⟩ := clamp_facts ha hl
  rw [run_min_num n1 nan_top]
  have : (if rk (clampN a) < rk 1149239296 then clampN a else if rk 1149239296 < rk (clampN a) then 1149239296 else if (FloatKind.f32.decode (clampN a)).neg then clampN a else 1149239296) = capN a := by
    have kt : rk 1149239296 = 1149239296 := rk_small (by decide)
    unfold capN
    rw [oGt_rk ha nan_top, kt]
    have hc : clampN a = if oGt a 0 then a else 0 := rfl
    rw [oGt_rk ha nan_zero, rk_zero] at hc
    by_cases h : 0 < rk a
    · rw [decide_eq_true h] at hc
      simp only [if_true] at hc
      rw [hc]
      rcases Int.lt_trichotomy (rk a) 1149239296 with h1 | h1 | h1
      · rw [if_pos h1, decide_eq_false (by omega)]; rfl
      · have e := same_word (x := a) (y := 1149239296) hl (by decide) (by rw [h1, kt]) h
        rw [if_neg (by omega), if_neg (by omega), decide_eq_false (by omega)]
        simp only [Bool.false_eq_true, if_false]
        rw [e]
        split <;> rfl
      · rw [if_neg (by omega), if_pos h1, decide_eq_true h1]; rfl
    · rw [decide_eq_false h] at hc
      simp only [Bool.false_eq_true, if_false] at hc
      rw [hc, rk_zero, if_pos (by decide), decide_eq_false (by omega)]
      rfl
  rw [this]
theorem Blk.frozen {w : World} {q : Nat} {cs : Array Value} {t : TypeId} (h : Blk w q cs t) (i : Nat) : w.frozen? ⟨q, i, none⟩ = false := by
  unfold World.frozen?
  unfold Blk at h
  rw [h]
  simp
/-- A governor (or a governed mill), a state and a result, in blocks one behind the other. -/
def tickW (w : World) (cs : Array Value) (t : TypeId) (S : Se) : World := ((w.alloc (.cells cs t)).alloc (.cells #[.float .f32 S.s, .int .i8 S.g] 31)).alloc (.cells #[.float .f32 0, .int .i8 0] 31)
theorem tick_q (w : World) (cs : Array Value) (t : TypeId) (S : Se) : Blk (tickW w cs t S) w.heap.size cs t ∧ AtSe (tickW w cs t S) (w.heap.size + 1) S ∧ Blk (tickW w cs t S) (w.heap.size + 2) #[.float .f32 0, .int .i8 0] 31 ∧ Below w.heap.size w (tickW w cs t S) := by
  refine ⟨heap_first w _ _ _, ?_, heap_third w _ _ _, b_alloc (b_alloc (b_alloc (Below.refl _ _) _) _) _⟩
  have e : (w.alloc (.cells cs t)).heap.size = w.heap.size + 1 := by simp
  unfold tickW
  rw [← e]
  exact (AtSe.new _ _).push _
theorem ret_state {fn : Func} {tmps : Array Value} {W : World} {q k : Nat} {a b : Value} (ha : a.oneCell' = true) (hb : b.oneCell' = true) (hr : fn.results = #[.cell k 31]) (h2 : tmps.getD k undef = .pointer (some ⟨q, 0, none⟩)) (Z : Blk W q #[a, b] 31) :
    (results fn tmps).run Tryd.prog W = .ok (.agg #[a, b]) W := by
  have e0 := Z.cell 0; have e1 := Z.cell 1
  simp at e0 e1
  rw [Array.getD_eq_getD_getElem?] at h2
  simp [results, hr, h2, go_sem, e0, e1]
theorem clamp_top : clampN 1149239296 = 1149239296 := by decide +kernel
set_option maxHeartbeats 4000000 in
theorem l03Tick_any (G : Gv) (hG : GoodG G) (S : Se) (hS : GoodS S) (l : Nat) (hl : psB l = true) (w : World) : Calls Tryd.prog 11 #[.agg #[.int .i16 G.mb, .float .f32 G.mh, .float .f32 G.mr, .float .f32 G.ar, .float .f32 G.he, .float .f32 G.lo, .float .f32 G.hi, .float .f32 G.ine], .agg #[.float .f32 S.s, .int .i8 S.g], .float .f32 l] w (RV (.agg #[.float .f32 (tickS G S l).s, .int .i8 (tickS G S l).g]) w) := by
  obtain ⟨q0, q1, qr, bw⟩ := tick_q w #[.int .i16 G.mb, .float .f32 G.mh, .float .f32 G.mr, .float .f32 G.ar, .float .f32 G.he, .float .f32 G.lo, .float .f32 G.hi, .float .f32 G.ine] 36 S
  have q0' : AtGv (tickW w #[.int .i16 G.mb, .float .f32 G.mh, .float .f32 G.mr, .float .f32 G.ar, .float .f32 G.he, .float .f32 G.lo, .float .f32 G.hi, .float .f32 G.ine] 36 S) w.heap.size G := q0
  have Q0 := Lib.hid q0'; have Q1 := Lib.hid q1; have ZR := Lib.hid qr; have BW := Lib.hid bw
  obtain ⟨hs, g0, g1⟩ := hS.parts
  obtain ⟨n0, n1⟩ := gateN_in (G := G) g0 g1
  have h8 := i8_small (z := gateN G S) (by omega) (by omega)
  obtain ⟨e1, e2, e3, e4, e5⟩ := tick_some hG hS hl
  have ra1 := fun w => run_float_arith (P := Tryd.prog) w .sub 23 .f32 _ _ _ e1
  have ra2 := fun w => run_float_arith (P := Tryd.prog) w .quo 23 .f32 _ _ _ e2
  have ra3 := fun w => run_float_arith (P := Tryd.prog) w .add 23 .f32 _ _ _ e3
  have HG := Lib.hid hG; have HS := Lib.hid hS
  clear q0 q0' q1 qr bw e1 e2 e3 e4 e5 hG hl
  go_enter Tryd.func11, Tryd.ntmps11
  go_upto_region 2 with (go_at_call 20; refine (l03Gate_any G S HS.out.wg g0 g1 _).mono ?_; rintro e w1 ⟨rfl, b1⟩; have B1 := Lib.hid b1; obtain ⟨c0, c1, c2, c3, c4, c5, c6, c7⟩ := (Q0.out.on (by rfl) b1).cells; obtain ⟨d0, d1⟩ := (Q1.out.on (by rfl) b1).cells; clear b1)
  go_cut [8] (fun s8 wx => s8 = .float .f32 (rawN G S l) ∧ Below w1.heap.size w1 wx)
  case first =>
    go_region_law (go_simp; go_at_call 21; refine (l03At_any G HG.out S.s hs (gateN G S) n0 n1 _).mono ?_; rintro e w2 ⟨rfl, b2⟩; have B2 := Lib.hid b2; clear b2; (try (obtain ⟨u0, u1⟩ := ((Q1.out.on (by rfl) B1.out).on (by rfl) B2.out).cells; obtain ⟨v0, v1, v2, v3, v4, v5, v6, v7⟩ := ((Q0.out.on (by rfl) B1.out).on (by rfl) B2.out).cells)); dsimp only)
    all_goals
      go_wp2_with fail
      go_meet
      refine ⟨rfl, ?_⟩
      have b2 := B2.out
      repeat (first | exact Below.refl w1.heap.size w1 | refine b_drewN ?_ _ | refine b_drew ?_ | refine b_then ?_ (by assumption))
  case rest =>
    obtain ⟨rfl, hbc⟩ := hcut
    have bz : Below (tickW w #[.int .i16 G.mb, .float .f32 G.mh, .float .f32 G.mr, .float .f32 G.ar, .float .f32 G.he, .float .f32 G.lo, .float .f32 G.hi, .float .f32 G.ine] 36 S).heap.size (tickW w #[.int .i16 G.mb, .float .f32 G.mh, .float .f32 G.mr, .float .f32 G.ar, .float .f32 G.he, .float .f32 G.lo, .float .f32 G.hi, .float .f32 G.ine] 36 S) wc := b_then B1.out hbc
    have BF := Lib.hid (b_then BW.out bz)
    clear c0 c1 c2 c3 c4 c5 c6 c7 d0 d1
    have zr := ZR.out.on (by rfl) bz; have rc0 := zr.cell 0; have rc1 := zr.cell 1; have rf0 := zr.frozen 0; have rf1 := zr.frozen 1; simp at rc0 rc1; have ZQ := Lib.hid zr; clear zr
    clear hbc bz
    have hq : w.heap.size ≤ w.heap.size + 2 := by omega
    rcases Bool.eq_false_or_eq_true (oGt (rawN G S l) 1149239296) with ho | ho
    all_goals
      first
        | (have ec := Lib.hid (show capN (rawN G S l) = 1149239296 by unfold capN; rw [ho]; rfl))
        | (have ec := Lib.hid (show capN (rawN G S l) = clampN (rawN G S l) by unfold capN; rw [ho]; rfl))
      unfold oGt at ho
      go_wp2_with (go_at_call 22; refine (l03Least_any _ _).mono ?_; rintro e w4 ⟨rfl, rfl⟩)
      refine bodyPost_ret (ret_state rfl rfl Tryd.results11 rfl ((ZQ.out.set 0 _).set 1 _)) rfl ⟨?_, ?_⟩
      · have et := clamp_top
        have ec' := ec.out
        unfold tickS
        dsimp only
        simp only [ec', et]
      · exact b_set (b_set BF.out hq _ _) hq _ _
end Go.Proofs.YtefeifkkinnoeaaDoor
