/-
  How far buckets are filled: the program's function and the model's, word for word.
-/
import Derived.Test.YtjkgiknklkfipaaDoorWp
import Derived.Test.YtjkgiknklkfipaaDoorMin
import Derived.Deep.RegionLaw
namespace Go.Proofs.YtjkgiknklkfipaaDoor
open Go.RowKit Go.ChangeShapes Go.WideShapes Go.Deep
attribute [local go_sem ↓] Go.wp_at_zero Go.wp_at_succ
set_option linter.unusedVariables false
set_option linter.unusedSimpArgs false
set_option maxRecDepth 100000
def mulN (x y : Nat) : Nat := (floatBits .mul .f32 x y).getD 0
def quoN (x y : Nat) : Nat := (floatBits .quo .f32 x y).getD 0
def subN (x y : Nat) : Nat := (floatBits .sub .f32 x y).getD 0
def addN (x y : Nat) : Nat := (floatBits .add .f32 x y).getD 0
theorem mulN_some {x y r : Nat} (h : floatBits .mul .f32 x y = some r) : floatBits .mul .f32 x y = some (mulN x y) := by unfold mulN; rw [h]; rfl
theorem quoN_some {x y r : Nat} (h : floatBits .quo .f32 x y = some r) : floatBits .quo .f32 x y = some (quoN x y) := by unfold quoN; rw [h]; rfl
theorem subN_some {x y r : Nat} (h : floatBits .sub .f32 x y = some r) : floatBits .sub .f32 x y = some (subN x y) := by unfold subN; rw [h]; rfl
theorem addN_some {x y r : Nat} (h : floatBits .add .f32 x y = some r) : floatBits .add .f32 x y = some (addN x y) := by unfold addN; rw [h]; rfl
/-- A mill that is valid, of words of its types. -/
structure GoodM (M : Ml) : Prop where
  ok : okM M = true
  wb : (Lit.int .i16 M.b).wf = true
  wh : M.h < 4294967296
theorem f32_wf {b : Nat} (h : (Lit.float .f32 b).wf = true) : b < 4294967296 := by
  simpa [Lit.wf] using h
theorem fint_small : ((List.range 49).all fun k => decide (rg (floatOfInt .f32 (k : Int)) < 133 * 8388608)) = true := by decide +kernel
theorem fint_rg {b : Int} (h1 : 0 ≤ b) (h2 : b ≤ 48) : rg (floatOfInt .f32 b) < 133 * 8388608 := by
  obtain ⟨k, rfl⟩ := Int.eq_ofNat_of_zero_le h1
  exact of_decide_eq_true (List.all_eq_true.1 fint_small k (List.mem_range.2 (by omega)))
theorem GoodM.b {M : Ml} (h : GoodM M) : 4 ≤ M.b ∧ M.b ≤ 48 := by
  have := h.ok
  unfold okM inB at this
  simp only [Bool.and_eq_true, decide_eq_true_eq] at this
  exact this.1
theorem GoodM.h {M : Ml} (h : GoodM M) : nan32 M.h = false ∧ rg M.h ≤ 1149239296 ∧ 1031798784 ≤ rg M.h ∧ rk M.h = (rg M.h : Int) := by
  have := h.ok
  unfold okM radB at this
  simp only [Bool.and_eq_true] at this
  exact between this.2.1.1 this.2.1.2 (by decide) (by decide)
theorem GoodM.r {M : Ml} (h : GoodM M) : nan32 M.r = false ∧ rg M.r ≤ 1149239296 ∧ 1031798784 ≤ rg M.r ∧ rk M.r = (rg M.r : Int) := by
  have := h.ok
  unfold okM radB at this
  simp only [Bool.and_eq_true] at this
  exact between this.2.2.1 this.2.2.2 (by decide) (by decide)
theorem ps_between {x : Nat} (h : psB x = true) : nan32 x = false ∧ rg x ≤ 1233125376 ∧ 0 ≤ rg x ∧ rk x = (rg x : Int) := by
  unfold psB at h
  simp only [Bool.and_eq_true] at h
  exact between h.1 h.2 (by decide) (by decide)
theorem sp_between {x : Nat} (h : spB x = true) : nan32 x = false ∧ rg x ≤ 1149239296 ∧ 0 ≤ rg x ∧ rk x = (rg x : Int) := by
  unfold spB at h
  simp only [Bool.and_eq_true] at h
  exact between h.1 h.2 (by decide) (by decide)
/-- A flow: a number that is not negative, and not too great. -/
def fOK (f : Nat) : Prop := nan32 f = false ∧ rk f = (rg f : Int) ∧ rg f < 160 * 8388608
theorem fok_ps {f : Nat} (h : psB f = true) : fOK f := by
  obtain ⟨h1, h2, _, h4⟩ := ps_between h
  exact ⟨h1, h4, by omega⟩
def pasN (M : Ml) (s : Nat) : Nat := mulN s (floatOfInt .f32 M.b)
def qN (M : Ml) (f s : Nat) : Nat := quoN f (pasN M s)
def fillN (M : Ml) (f s : Nat) : Nat := if oEq f 0 then 0 else if oEq s 0 then M.h else if oGt (qN M f s) M.h then M.h else qN M f s
theorem nan_zero : nan32 0 = false := by decide +kernel
theorem rk_zero : rk 0 = 0 := rfl
theorem pas_some {M : Ml} (hM : GoodM M) {s : Nat} (hs : spB s = true) : floatBits .mul .f32 s (floatOfInt .f32 M.b) = some (pasN M s) ∧ rg (pasN M s) ≤ 144 * 8388608 := by
  obtain ⟨_, h2, _, _⟩ := sp_between hs
  have hb := hM.b
  obtain ⟨r, e, hr⟩ := mul_le (x := s) (y := floatOfInt .f32 M.b) (A := 138) (B := 133) (C := 144) (by omega) (fint_rg (by omega) (by omega)) (by omega) (by omega) (by omega) (by omega) (by omega) (by omega) (by omega)
  have := mulN_some e
  refine ⟨this, ?_⟩
  have e2 : pasN M s = r := by unfold pasN; rw [e] at this; exact (Option.some.inj this).symm
  rw [e2]; exact hr
theorem q_some {M : Ml} (hM : GoodM M) {f s : Nat} (hf : fOK f) (hs : spB s = true) (f0 : oEq f 0 = false) : floatBits .quo .f32 f (pasN M s) = some (qN M f s) ∧ nan32 (qN M f s) = false ∧ qN M f s < 4294967296 := by
  obtain ⟨n1, h4, h2⟩ := id hf
  rw [oEq_rk n1 nan_zero, rk_zero, decide_eq_false_iff_not] at f0
  obtain ⟨m, k, e, r1, _, _, z1⟩ := read_small (x := f) (C := 160) (by omega) (by omega) (by omega)
  obtain ⟨n, l, g, r2, _, _, _⟩ := read_small (x := pasN M s) (C := 145) (by have := (pas_some hM hs).2; omega) (by omega) (by omega)
  have hm : m ≠ 0 := fun h => f0 (by rw [h4, z1.1 h]; rfl)
  have hq : ∃ r, floatBits .quo .f32 f (pasN M s) = some r := by
    simp only [floatBits, FloatKind.format, Ieee.Format.div, r1, r2, Ieee.Datum.quotient]
    by_cases hn : n = 0
    · rw [if_pos hn, if_neg hm]; exact ⟨_, rfl⟩
    · rw [if_neg hn]; exact ⟨_, rfl⟩
  obtain ⟨r, hr⟩ := hq
  have e := quoN_some hr
  exact ⟨e, floatBits_notNan e, bits_lt e⟩
theorem fill_min {M : Ml} (hM : GoodM M) {f s : Nat} (hf : fOK f) (hs : spB s = true) (f0 : oEq f 0 = false) (s0 : oEq s 0 = false) {P : Program} (ts : Array TypeId) (t : TypeId) (w : World) :
    (Builtin.min_ ts t #[.float .f32 (qN M f s), .float .f32 M.h]).run P w = .ok (.float .f32 (fillN M f s)) w := by
  obtain ⟨_, nq, lq⟩ := q_some hM hf hs f0
  obtain ⟨nh, _, l1, e1⟩ := hM.h
  rw [run_min_num nq nh]
  have : (if rk (qN M f s) < rk M.h then qN M f s else if rk M.h < rk (qN M f s) then M.h else if (FloatKind.f32.decode (qN M f s)).neg then qN M f s else M.h) = fillN M f s := by
    unfold fillN
    rw [f0, s0, oGt_rk nq nh]
    simp only [Bool.false_eq_true, if_false]
    rcases Int.lt_trichotomy (rk (qN M f s)) (rk M.h) with h | h | h
    · rw [if_pos h, decide_eq_false (by omega), if_neg (by decide)]
    · have e := same_word lq hM.wh h (by omega)
      rw [if_neg (by omega), if_neg (by omega), decide_eq_false (by omega)]
      simp only [Bool.false_eq_true, if_false]
      rw [e]
      split <;> rfl
    · rw [if_neg (by omega), if_pos h, decide_eq_true h, if_pos rfl]
  rw [this]
theorem passing_any (M : Ml) (s p : Nat) (hp : floatBits .mul .f32 s (floatOfInt .f32 M.b) = some p) (w : World) : Calls Tryd.prog 121 #[.agg #[.int .i16 M.b, .float .f32 M.h, .float .f32 M.r], .float .f32 s] w (RV (.float .f32 p) w) := by
  have rm := fun w => run_float_arith (P := Tryd.prog) w .mul 24 .f32 _ _ _ hp
  clear hp
  go_enter Tryd.func121, Tryd.ntmps121
  go_wp2
  go_ret
  refine ⟨rfl, ?_⟩
  (repeat (first | exact Below.refl _ _ | refine b_drewN ?_ _ | refine b_drew ?_ | refine b_alloc ?_ _ | refine b_then ?_ (by assumption)))
theorem implFill_any (M : Ml) (hM : GoodM M) (f s : Nat) (hf : fOK f) (hs : spB s = true) (w : World) : Calls Tryd.prog 117 #[.agg #[.int .i16 M.b, .float .f32 M.h, .float .f32 M.r], .float .f32 f, .float .f32 s] w (RV (.float .f32 (fillN M f s)) w) := by
  have h0 := AtMl.new w M
  obtain ⟨c0, c1, c2⟩ := h0.cells
  have H0 := Lib.hid h0
  clear h0
  rcases Bool.eq_false_or_eq_true (oEq f 0) with f0 | f0
  · have e : fillN M f s = 0 := by unfold fillN; rw [f0]; rfl
    rw [e]
    clear e hM hf hs
    unfold oEq at f0
    go_enter Tryd.func117, Tryd.ntmps117
    go_wp2
    go_ret
    refine ⟨rfl, ?_⟩
    (repeat (first | exact Below.refl _ _ | refine b_drewN ?_ _ | refine b_drew ?_ | refine b_alloc ?_ _ | refine b_then ?_ (by assumption)))
  · rcases Bool.eq_false_or_eq_true (oEq s 0) with s0 | s0
    · have e : fillN M f s = M.h := by unfold fillN; rw [f0, s0]; rfl
      rw [e]
      clear e hM hf hs
      unfold oEq at f0 s0
      go_enter Tryd.func117, Tryd.ntmps117
      go_wp2
      go_ret
      refine ⟨rfl, ?_⟩
      (repeat (first | exact Below.refl _ _ | refine b_drewN ?_ _ | refine b_drew ?_ | refine b_alloc ?_ _ | refine b_then ?_ (by assumption)))
    · have hp := (pas_some hM hs).1
      have hq := (q_some hM hf hs f0).1
      have hmn := fun ts t w => fill_min (P := Tryd.prog) hM hf hs f0 s0 ts t w
      have rq := fun w => run_float_arith (P := Tryd.prog) w .quo 24 .f32 _ _ _ hq
      have HP := Lib.hid hp
      clear hp hq hM hf hs
      unfold oEq at f0 s0
      go_enter Tryd.func117, Tryd.ntmps117
      go_wp2_with fail
      go_region_law (go_simp; go_at_call 121; refine (passing_any M s _ HP.out _).mono ?_; rintro e w1 ⟨rfl, b1⟩; (try (obtain ⟨f0', f1', f2'⟩ := (H0.out.on (by rfl) b1).cells)); dsimp only)
      all_goals
        go_wp2
        go_ret
        refine ⟨rfl, ?_⟩
        (repeat (first | exact Below.refl _ _ | refine b_drewN ?_ _ | refine b_drew ?_ | refine b_alloc ?_ _ | refine b_then ?_ (by assumption)))
theorem specFill_any (M : Ml) (hM : GoodM M) (f s : Nat) (hf : fOK f) (hs : spB s = true) (w : World) : Calls Tryd.prog 97 #[.agg #[.int .i16 M.b, .float .f32 M.h, .float .f32 M.r], .float .f32 f, .float .f32 s] w (RV (.float .f32 (fillN M f s)) w) := by
  rcases Bool.eq_false_or_eq_true (oEq f 0) with f0 | f0
  · have e : fillN M f s = 0 := by unfold fillN; rw [f0]; rfl
    rw [e]
    clear e hM hf hs
    unfold oEq at f0
    go_enter Tryd.func97, Tryd.ntmps97
    go_wp2
    go_ret
    refine ⟨rfl, ?_⟩
    (repeat (first | exact Below.refl _ _ | refine b_drewN ?_ _ | refine b_drew ?_ | refine b_alloc ?_ _ | refine b_then ?_ (by assumption)))
  · rcases Bool.eq_false_or_eq_true (oEq s 0) with s0 | s0
    · have e : fillN M f s = M.h := by unfold fillN; rw [f0, s0]; rfl
      rw [e]
      clear e hM hf hs
      unfold oEq at f0 s0
      go_enter Tryd.func97, Tryd.ntmps97
      go_wp2
      go_ret
      refine ⟨rfl, ?_⟩
      (repeat (first | exact Below.refl _ _ | refine b_drewN ?_ _ | refine b_drew ?_ | refine b_alloc ?_ _ | refine b_then ?_ (by assumption)))
    · have hp := (pas_some hM hs).1
      have hq := (q_some hM hf hs f0).1
      have rm := fun w => run_float_arith (P := Tryd.prog) w .mul 24 .f32 _ _ _ hp
      have rq := fun w => run_float_arith (P := Tryd.prog) w .quo 24 .f32 _ _ _ hq
      clear hp hq hM hf hs
      rcases Bool.eq_false_or_eq_true (oGt (qN M f s) M.h) with g0 | g0
      all_goals
        first
          | (have e : fillN M f s = M.h := by unfold fillN; rw [f0, s0, g0]; rfl)
          | (have e : fillN M f s = qN M f s := by unfold fillN; rw [f0, s0, g0]; rfl)
        rw [e]
        clear e
        unfold oEq at f0 s0
        unfold oGt at g0
        go_enter Tryd.func97, Tryd.ntmps97
        go_wp2
        go_ret
        refine ⟨rfl, ?_⟩
        (repeat (first | exact Below.refl _ _ | refine b_drewN ?_ _ | refine b_drew ?_ | refine b_alloc ?_ _ | refine b_then ?_ (by assumption)))
end Go.Proofs.YtjkgiknklkfipaaDoor
