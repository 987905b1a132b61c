/-
  An hour of a stone: the model's and the program's.
-/
import Derived.Test.YtjkgiknklkfipaaSd
import Derived.Test.YtjkgiknklkfipaaHv
namespace Go.Proofs.Ytjkgiknklkfipaa
open Go.RowKit Go.ChangeShapes Go.WideShapes Go.Deep
attribute [local go_sem ↓] Go.wp_at_zero Go.wp_at_succ
set_option linter.unusedVariables false
set_option linter.unusedSimpArgs false
set_option maxRecDepth 100000
def capM (q : Nat) : Nat := if oGt q 1233125376 then 1233125376 else q
def hourF (S : Sn) (t fd : Nat) : Nat := if oGt (sumLd [S] 0 fd) t then cn 0 else capM (flourC S (steadyC [S] t fd 40) fd)
def hourS (S : Sn) (t fd : Nat) : Sn := if oGt (sumLd [S] 0 fd) t then cnS S else dulS S (hourF S t fd)
/-- The call returns a stone and a number, known up to which NaN they are, and turns nothing that was there. -/
def RHo (C : Sn) (f : Nat) (w : World) (e : Ending) (w' : World) : Prop := ∃ T r, e = .returned (.tuple #[.agg #[.float .f32 T.d, .float .f32 T.r, .float .f32 T.b, .float .f32 T.g], .float .f32 r]) ∧ SnIs T C ∧ CN r f ∧ Below w.heap.size w w'
theorem cn_MS : cn 1233125376 = 1233125376 := cn_of_not (by decide +kernel)
theorem capM_fmin {q : Nat} (h : W32 q) (e : cn q = q) : fmin q (cn 1233125376) = capM q := by
  rw [cn_MS]
  exact fmin_test h e (by decide) (by decide)
theorem halv_rg {ld : Nat → Nat} {t : Nat} (k : Nat) {p : Nat × Nat} (h : rg p.1 ≤ 137 * 8388608 ∧ rg p.2 ≤ 137 * 8388608) : rg (halvN ld t k p).1 ≤ 137 * 8388608 ∧ rg (halvN ld t k p).2 ≤ 137 * 8388608 := by
  induction k with
  | zero => exact h
  | succ k ih =>
    have hm : rg (f2 .quo (f2 .add (halvN ld t k p).1 (halvN ld t k p).2) (cn 1073741824)) ≤ 137 * 8388608 := by
      have hk : cn 1073741824 = 1073741824 := cn_of_not (by decide +kernel)
      obtain ⟨r1, e1, b1⟩ := sum_le' (A := 137) ih.1 ih.2 (by decide) (by decide)
      obtain ⟨r2, e2, b2⟩ := quo_pow (x := r1) (y := 1073741824) (A := 138) (B := 128) (C := 137) b1 (by decide) (by decide) (by decide) (by decide) (by decide) (by decide) (by decide) (by decide)
      rw [f2_some e1, hk, f2_some e2]
      exact b2
    show rg (halfStep ld t (halvN ld t k p)).1 ≤ _ ∧ rg (halfStep ld t (halvN ld t k p)).2 ≤ _
    unfold halfStep
    split
    · exact ⟨ih.1, hm⟩
    · exact ⟨hm, ih.2⟩
theorem steady_rg (ps : List Sn) (t fd k : Nat) : rg (steadyC ps t fd k) ≤ 137 * 8388608 := by
  refine (halv_rg k ⟨?_, ?_⟩).1
  · rw [cn_zero]; decide
  · rw [show cn 1149239296 = 1149239296 from cn_of_not (by decide +kernel)]; decide
theorem flour_rg {S : Sn} {a b : Nat} (hg : rg (cn S.g) ≤ 127 * 8388608) (ha : rg (cn a) ≤ 137 * 8388608) (hb : rg (cn b) ≤ 137 * 8388608) : rg (flourC S a b) ≤ 147 * 8388608 := by
  obtain ⟨r1, e1, b1⟩ := mul_le' (A := 137) (B := 137) (C := 147) ha hb (by decide) (by decide) (by decide) (by decide) (by decide) (by decide) (by decide)
  obtain ⟨r2, e2, b2⟩ := mul_le' (A := 147) (B := 127) (C := 147) b1 hg (by decide) (by decide) (by decide) (by decide) (by decide) (by decide) (by decide)
  unfold flourC
  rw [f2_some e1, f2_some e2]
  exact b2
theorem cn_fix {r c : Nat} (h : CN r c) : cn c = c := by
  have h' : cn r = c := h
  rw [← h', cn_cn]
theorem cn_flourC (S : Sn) (a b : Nat) : cn (flourC S a b) = flourC S a b := cn_f2 _ _ _
theorem cn_steadyC (ps : List Sn) (t fd k : Nat) : cn (steadyC ps t fd k) = steadyC ps t fd k := by
  have : ∀ k, cn (halvN (fun m => sumLd ps m fd) t k (cn 0, cn 1149239296)).1 = (halvN (fun m => sumLd ps m fd) t k (cn 0, cn 1149239296)).1 ∧ cn (halvN (fun m => sumLd ps m fd) t k (cn 0, cn 1149239296)).2 = (halvN (fun m => sumLd ps m fd) t k (cn 0, cn 1149239296)).2 := fun k => by
    induction k with
    | zero =>
      show cn (cn 0) = cn 0 ∧ cn (cn 1149239296) = cn 1149239296
      exact ⟨cn_cn _, cn_cn _⟩
    | succ k ih =>
      show cn (halfStep _ t (halvN _ t k _)).1 = (halfStep _ t (halvN _ t k _)).1 ∧ cn (halfStep _ t (halvN _ t k _)).2 = (halfStep _ t (halvN _ t k _)).2
      unfold halfStep
      split
      · exact ⟨ih.1, cn_f2 _ _ _⟩
      · exact ⟨cn_f2 _ _ _, ih.2⟩
  exact (this k).1
theorem capM_cn {q : Nat} (e : cn q = q) : cn (capM q) = capM q := by
  unfold capM
  split
  · exact cn_MS
  · exact e
theorem cap_rg {q : Nat} (h : rg q ≤ 147 * 8388608) : rg (capM q) ≤ 147 * 8388608 := by
  unfold capM
  split
  · decide
  · exact h
theorem hourF_cn (S : Sn) (t fd : Nat) : cn (hourF S t fd) = hourF S t fd := by
  unfold hourF
  split
  · exact cn_cn 0
  · exact capM_cn (cn_flourC _ _ _)
theorem hourF_rg {S : Sn} {t fd : Nat} (hg : rg (cn S.g) ≤ 127 * 8388608) (hf : rg (cn fd) ≤ 137 * 8388608) : rg (hourF S t fd) ≤ 147 * 8388608 := by
  unfold hourF
  split
  · rw [cn_zero]; decide
  · exact cap_rg (flour_rg hg (by rw [cn_steadyC]; exact steady_rg _ _ _ _) hf)
theorem dulS_cn {S : Sn} {f f' : Nat} (h : cn f = cn f') : dulS S f = dulS S f' := by unfold dulS; rw [h]

set_option maxHeartbeats 4000000 in
theorem specHour_any (S : Sn) (t fd : Nat) (w : World) : Calls Try.prog 56 #[.agg #[.float .f32 S.d, .float .f32 S.r, .float .f32 S.b, .float .f32 S.g], .float .f32 t, .float .f32 fd] w (RHo (hourS S t fd) (hourF S t fd) w) := by
  have hs := fun w => specSteady_any (some ⟨(w : World).heap.size, 0, none⟩) 1 1 [S] t fd 40 _ rfl (by omega) (by omega) (one_stone w S)
  have HS := Lib.hid hs; clear hs
  obtain ⟨k0, k1, bw⟩ := box_two w S; have hs0 : w.heap.size < ((w.alloc (.cells #[.float .f32 S.d, .float .f32 S.r, .float .f32 S.b, .float .f32 S.g] 42)).alloc (.cells #[.float .f32 0, .float .f32 0, .float .f32 0, .float .f32 0] 42)).heap.size := k0.lt; have hs1 : w.heap.size + 1 < ((w.alloc (.cells #[.float .f32 S.d, .float .f32 S.r, .float .f32 S.b, .float .f32 S.g] 42)).alloc (.cells #[.float .f32 0, .float .f32 0, .float .f32 0, .float .f32 0] 42)).heap.size := k1.lt; have K0 := Lib.hid k0; have K1 := Lib.hid k1; have Bw := Lib.hid bw; clear bw
  rcases Bool.eq_false_or_eq_true (oGt (sumLd [S] 0 fd) t) with g | g
  · have hS : hourS S t fd = cnS S := by unfold hourS; rw [g]; rfl
    have hF : hourF S t fd = cn 0 := by unfold hourF; rw [g]; rfl
    rw [hS, hF]
    have G := Lib.hid g
    clear hS hF g
    go_enter Try.func56, Try.ntmps56
    go_upto_region 1 with fail
    generalize ((w.alloc (.cells #[.float .f32 S.d, .float .f32 S.r, .float .f32 S.b, .float .f32 S.g] 42)).alloc (.cells #[.float .f32 0, .float .f32 0, .float .f32 0, .float .f32 0] 42)) = W at *; have c0 := k0.cell 0; have c1 := k0.cell 1; have c2 := k0.cell 2; have c3 := k0.cell 3; simp at c0 c1 c2 c3; have z0 := k0.frozen 3; have d0 := k1.cell 0; have d1 := k1.cell 1; have d2 := k1.cell 2; have d3 := k1.cell 3; simp at d0 d1 d2 d3; have y0 := k1.frozen 0; have y1 := k1.frozen 1; have y2 := k1.frozen 2; have y3 := k1.frozen 3; clear k0 k1
    go_wp2_with fail
    refine (HS.out _).mono ?_
    rw [G.out]
    rintro e w1 ⟨r, rfl, hr, b1'⟩
    have b1 : Below W.heap.size W w1 := b_then (b_alloc (Below.refl _ _) _) b1'
    have k1 := Blk.on K1.out (by rfl) b1
    have k0 := Blk.on K0.out (by rfl) b1
    have c0 := k0.cell 0
    have c1 := k0.cell 1
    have c2 := k0.cell 2
    have c3 := k0.cell 3
    simp at c0 c1 c2 c3
    have z0 := k0.frozen 3
    have M0a := Lib.hid k0
    clear k0
    have d0 := k1.cell 0
    have d1 := k1.cell 1
    have d2 := k1.cell 2
    have d3 := k1.cell 3
    simp at d0 d1 d2 d3
    have y0 := k1.frozen 0
    have y1 := k1.frozen 1
    have y2 := k1.frozen 2
    have y3 := k1.frozen 3
    have M1a := Lib.hid k1
    have hsa := k1.lt
    clear k1
    have B1 : Hid (Below w.heap.size w w1) := b_then Bw.out b1
    clear b1 b1' hr
    go_wp2
    have q1 : w.heap.size ≤ w.heap.size + 1 := by omega
    refine bodyPost_ret (ret_snc (T := S) Try.results56 rfl ((((M1a.out.set 0 _).set 1 _).set 2 _).set 3 _)) rfl ⟨_, _, rfl, rfl, cn_lit _, ?_⟩
    exact b_set (b_set (b_set (b_set B1.out q1 _ _) q1 _ _) q1 _ _) q1 _ _
  · have hF : hourF S t fd = capM (flourC S (steadyC [S] t fd 40) fd) := by unfold hourF; rw [g]; rfl
    have hS : hourS S t fd = dulS S (capM (flourC S (steadyC [S] t fd 40) fd)) := by unfold hourS; rw [g, hF]; rfl
    rw [hS, hF]
    have G := Lib.hid g
    have hV : steadyV [S] t fd 40 = steadyC [S] t fd 40 := by unfold steadyV; rw [g]; rfl
    have HV := Lib.hid hV
    clear hS hF g hV
    go_enter Try.func56, Try.ntmps56
    go_upto_region 1 with fail
    generalize ((w.alloc (.cells #[.float .f32 S.d, .float .f32 S.r, .float .f32 S.b, .float .f32 S.g] 42)).alloc (.cells #[.float .f32 0, .float .f32 0, .float .f32 0, .float .f32 0] 42)) = W at *; have c0 := k0.cell 0; have c1 := k0.cell 1; have c2 := k0.cell 2; have c3 := k0.cell 3; simp at c0 c1 c2 c3; have z0 := k0.frozen 3; have d0 := k1.cell 0; have d1 := k1.cell 1; have d2 := k1.cell 2; have d3 := k1.cell 3; simp at d0 d1 d2 d3; have y0 := k1.frozen 0; have y1 := k1.frozen 1; have y2 := k1.frozen 2; have y3 := k1.frozen 3; clear k0 k1
    go_wp2_with fail
    refine (HS.out _).mono ?_
    rw [G.out, HV.out]
    rintro e w1 ⟨r, rfl, hr, b1'⟩
    have b1 : Below W.heap.size W w1 := b_then (b_alloc (Below.refl _ _) _) b1'
    have k1 := Blk.on K1.out (by rfl) b1
    have k0 := Blk.on K0.out (by rfl) b1
    have c0 := k0.cell 0
    have c1 := k0.cell 1
    have c2 := k0.cell 2
    have c3 := k0.cell 3
    simp at c0 c1 c2 c3
    have z0 := k0.frozen 3
    have M0a := Lib.hid k0
    clear k0
    have d0 := k1.cell 0
    have d1 := k1.cell 1
    have d2 := k1.cell 2
    have d3 := k1.cell 3
    simp at d0 d1 d2 d3
    have y0 := k1.frozen 0
    have y1 := k1.frozen 1
    have y2 := k1.frozen 2
    have y3 := k1.frozen 3
    have M1a := Lib.hid k1
    have hsa := k1.lt
    clear k1
    have B1 : Hid (Below w.heap.size w w1) := b_then Bw.out b1
    have HR := Lib.hid hr
    clear b1 b1' hr
    go_wp2_with fail
    refine (specFlour_any S r fd _).mono ?_
    rintro e w2 ⟨q, rfl, hq, b2⟩
    have HQ : Hid (cn q = flourC S (steadyC [S] t fd 40) fd) := by
      show _ = _
      rw [show cn q = flourC S r fd from hq]
      exact flourC_cn S (by rw [show cn r = steadyC [S] t fd 40 from HR.out, cn_steadyC]) rfl
    clear c0 c1 c2 c3 d0 d1 d2 d3 y0 y1 y2 y3 z0
    have k1 := Blk.on M1a.out (by rfl) b2
    have k0 := Blk.on M0a.out (by rfl) b2
    have c0 := k0.cell 0
    have c1 := k0.cell 1
    have c2 := k0.cell 2
    have c3 := k0.cell 3
    simp at c0 c1 c2 c3
    have z0 := k0.frozen 3
    have M0b := Lib.hid k0
    clear k0
    have d0 := k1.cell 0
    have d1 := k1.cell 1
    have d2 := k1.cell 2
    have d3 := k1.cell 3
    simp at d0 d1 d2 d3
    have y0 := k1.frozen 0
    have y1 := k1.frozen 1
    have y2 := k1.frozen 2
    have y3 := k1.frozen 3
    have M1b := Lib.hid k1
    have hsb := k1.lt
    clear k1
    have B2 : Hid (Below w.heap.size w w2) := b_then B1.out b2
    clear b2 hq
    have q1 : w.heap.size ≤ w.heap.size + 1 := by omega
    rcases Bool.eq_false_or_eq_true (oGt (flourC S (steadyC [S] t fd 40) fd) 1233125376) with k | k
    · have h1 : oGt q 1233125376 = true := (oGt_cn (show cn q = cn (flourC S (steadyC [S] t fd 40) fd) by rw [HQ.out, cn_flourC]) rfl).trans k
      have ho := (tf_gt h1).1 rfl
      have hC : capM (flourC S (steadyC [S] t fd 40) fd) = 1233125376 := by unfold capM; rw [k]; rfl
      have HC := Lib.hid hC
      clear h1 hC k
      go_wp2_with fail
      refine (specDul_any S _ _).mono ?_
      rintro e w3 ⟨T, rfl, hT, b3⟩
      clear ho c0 c1 c2 c3 d0 d1 d2 d3 y0 y1 y2 y3 z0
      have k1 := Blk.on M1b.out (by rfl) b3
      have d0 := k1.cell 0
      have d1 := k1.cell 1
      have d2 := k1.cell 2
      have d3 := k1.cell 3
      simp at d0 d1 d2 d3
      have y0 := k1.frozen 0
      have y1 := k1.frozen 1
      have y2 := k1.frozen 2
      have y3 := k1.frozen 3
      have M1c := Lib.hid k1
      have hsc := k1.lt
      clear k1
      have B3 : Hid (Below w.heap.size w w3) := b_then B2.out b3
      clear b3
      go_wp2
      rw [HC.out]
      refine bodyPost_ret (ret_snc (T := T) Try.results56 rfl ((((M1c.out.set 0 _).set 1 _).set 2 _).set 3 _)) rfl ⟨_, _, rfl, hT, cn_MS, ?_⟩
      exact b_set (b_set (b_set (b_set B3.out q1 _ _) q1 _ _) q1 _ _) q1 _ _
    · have h1 : oGt q 1233125376 = false := (oGt_cn (show cn q = cn (flourC S (steadyC [S] t fd 40) fd) by rw [HQ.out, cn_flourC]) rfl).trans k
      have ho := ((tf_gt h1).2 rfl).1; have ho2 := ((tf_gt h1).2 rfl).2
      have hC : capM (flourC S (steadyC [S] t fd 40) fd) = flourC S (steadyC [S] t fd 40) fd := by unfold capM; rw [k]; rfl
      have HC := Lib.hid hC
      clear h1 hC k
      go_wp2_with fail
      refine (specDul_any S _ _).mono ?_
      rintro e w3 ⟨T, rfl, hT, b3⟩
      clear ho ho2 c0 c1 c2 c3 d0 d1 d2 d3 y0 y1 y2 y3 z0
      have k1 := Blk.on M1b.out (by rfl) b3
      have d0 := k1.cell 0
      have d1 := k1.cell 1
      have d2 := k1.cell 2
      have d3 := k1.cell 3
      simp at d0 d1 d2 d3
      have y0 := k1.frozen 0
      have y1 := k1.frozen 1
      have y2 := k1.frozen 2
      have y3 := k1.frozen 3
      have M1c := Lib.hid k1
      have hsc := k1.lt
      clear k1
      have B3 : Hid (Below w.heap.size w w3) := b_then B2.out b3
      clear b3
      go_wp2
      rw [HC.out]
      refine bodyPost_ret (ret_snc (T := T) Try.results56 rfl ((((M1c.out.set 0 _).set 1 _).set 2 _).set 3 _)) rfl ⟨_, _, rfl, ?_, HQ.out, ?_⟩
      · rw [dulS_cn (f' := q) (by rw [HQ.out, cn_flourC])]
        exact hT
      · exact b_set (b_set (b_set (b_set B3.out q1 _ _) q1 _ _) q1 _ _) q1 _ _
theorem env_one (w : World) (S : Sn) (fd : Nat) : Env (((w.alloc (.cells #[.float .f32 S.d, .float .f32 S.r, .float .f32 S.b, .float .f32 S.g] 42)).alloc (.cells #[.float .f32 fd] 24)).alloc (.cells #[.slice (some ⟨w.heap.size, 0, none⟩) 1 1] 117)) (w.heap.size + 1 + 1) (w.heap.size + 1) (some ⟨w.heap.size, 0, none⟩) 1 1 [S] fd := by
  have he := env_new (A := some ⟨w.heap.size, 0, none⟩) (n := 1) (c := 1) fd (one_stone w S)
  rw [show (w.alloc (.cells #[.float .f32 S.d, .float .f32 S.r, .float .f32 S.b, .float .f32 S.g] 42)).heap.size = w.heap.size + 1 by simp] at he
  exact he
set_option maxHeartbeats 4000000 in
theorem implHour_any (S : Sn) (t fd : Nat) (hg : rg (cn S.g) ≤ 127 * 8388608) (hf : rg (cn fd) ≤ 137 * 8388608) (q2 : Nat) (w : World) (h2 : One w q2 (.float .f32 fd) 24) :
    Calls Try.prog 96 #[.agg #[.float .f32 S.d, .float .f32 S.r, .float .f32 S.b, .float .f32 S.g], .float .f32 t, .pointer (some ⟨q2, 0, none⟩)] w (RHo (hourS S t fd) (hourF S t fd) w) := by
  have hs := fun w => steady_any (n := 1) (ps := [S]) rfl (by omega) t 40 (by omega) _ (env_one w S fd)
  have HS := Lib.hid hs; clear hs
  obtain ⟨M, NM, hM, hMc⟩ := min_fun Try.prog
  have HM := Lib.hid hMc; clear hMc
  have hHr := Lib.hid (hourF_rg (S := S) (t := t) (fd := fd) hg hf)
  have Hg := Lib.hid hg; clear hg hf
  obtain ⟨k0, k1, bw⟩ := box_two w S; have hs0 : w.heap.size < ((w.alloc (.cells #[.float .f32 S.d, .float .f32 S.r, .float .f32 S.b, .float .f32 S.g] 42)).alloc (.cells #[.float .f32 0, .float .f32 0, .float .f32 0, .float .f32 0] 42)).heap.size := k0.lt; have hs1 : w.heap.size + 1 < ((w.alloc (.cells #[.float .f32 S.d, .float .f32 S.r, .float .f32 S.b, .float .f32 S.g] 42)).alloc (.cells #[.float .f32 0, .float .f32 0, .float .f32 0, .float .f32 0] 42)).heap.size := k1.lt; have K0 := Lib.hid k0; have K1 := Lib.hid k1; have Bw := Lib.hid bw; clear bw
  have o2 := One.on h2 (by rfl) Bw.out
  have O2 := Lib.hid o2
  clear h2
  rcases Bool.eq_false_or_eq_true (oGt (sumLd [S] 0 fd) t) with g | g
  · have hS : hourS S t fd = cnS S := by unfold hourS; rw [g]; rfl
    have hF : hourF S t fd = cn 0 := by unfold hourF; rw [g]; rfl
    rw [hS, hF]
    have G := Lib.hid g
    clear hS hF g
    go_enter Try.func96, Try.ntmps96
    go_upto_region 1 with fail
    generalize ((w.alloc (.cells #[.float .f32 S.d, .float .f32 S.r, .float .f32 S.b, .float .f32 S.g] 42)).alloc (.cells #[.float .f32 0, .float .f32 0, .float .f32 0, .float .f32 0] 42)) = W at *; have c0 := k0.cell 0; have c1 := k0.cell 1; have c2 := k0.cell 2; have c3 := k0.cell 3; simp at c0 c1 c2 c3; have z0 := k0.frozen 3; have d0 := k1.cell 0; have d1 := k1.cell 1; have d2 := k1.cell 2; have d3 := k1.cell 3; simp at d0 d1 d2 d3; have y0 := k1.frozen 0; have y1 := k1.frozen 1; have y2 := k1.frozen 2; have y3 := k1.frozen 3; clear k0 k1
    have g2 := o2.cell; have l2 := o2.lt
    clear o2
    go_wp2_with (go_at_call 97; refine (loadWith_any _ _ _ _ _).mono ?_; rintro e w0 ⟨rfl, rfl⟩)
    refine (HS.out _).mono ?_
    rw [G.out]
    rintro e w1 ⟨r, rfl, hr, b1'⟩
    have b1 : Below W.heap.size W w1 := b_then (b_alloc (b_alloc (b_alloc (Below.refl _ _) _) _) _) b1'
    have k1 := Blk.on K1.out (by rfl) b1
    have k0 := Blk.on K0.out (by rfl) b1
    have c0 := k0.cell 0
    have c1 := k0.cell 1
    have c2 := k0.cell 2
    have c3 := k0.cell 3
    simp at c0 c1 c2 c3
    have z0 := k0.frozen 3
    have M0a := Lib.hid k0
    clear k0
    have d0 := k1.cell 0
    have d1 := k1.cell 1
    have d2 := k1.cell 2
    have d3 := k1.cell 3
    simp at d0 d1 d2 d3
    have y0 := k1.frozen 0
    have y1 := k1.frozen 1
    have y2 := k1.frozen 2
    have y3 := k1.frozen 3
    have M1a := Lib.hid k1
    have hsa := k1.lt
    clear k1
    have B1 : Hid (Below w.heap.size w w1) := b_then Bw.out b1
    clear b1 b1' hr g2 l2
    go_wp2
    have q1 : w.heap.size ≤ w.heap.size + 1 := by omega
    refine bodyPost_ret (ret_snc (T := S) Try.results96 rfl ((((M1a.out.set 0 _).set 1 _).set 2 _).set 3 _)) rfl ⟨_, _, rfl, rfl, cn_lit _, ?_⟩
    exact b_set (b_set (b_set (b_set B1.out q1 _ _) q1 _ _) q1 _ _) q1 _ _
  · have hF : hourF S t fd = capM (flourC S (steadyC [S] t fd 40) fd) := by unfold hourF; rw [g]; rfl
    have hS : hourS S t fd = dulS S (hourF S t fd) := by unfold hourS; rw [g]; rfl
    rw [hS]
    have G := Lib.hid g
    have HF := Lib.hid hF
    have hV : steadyV [S] t fd 40 = steadyC [S] t fd 40 := by unfold steadyV; rw [g]; rfl
    have HV := Lib.hid hV
    clear hS hF g hV
    go_enter Try.func96, Try.ntmps96
    go_upto_region 1 with fail
    generalize ((w.alloc (.cells #[.float .f32 S.d, .float .f32 S.r, .float .f32 S.b, .float .f32 S.g] 42)).alloc (.cells #[.float .f32 0, .float .f32 0, .float .f32 0, .float .f32 0] 42)) = W at *; have c0 := k0.cell 0; have c1 := k0.cell 1; have c2 := k0.cell 2; have c3 := k0.cell 3; simp at c0 c1 c2 c3; have z0 := k0.frozen 3; have d0 := k1.cell 0; have d1 := k1.cell 1; have d2 := k1.cell 2; have d3 := k1.cell 3; simp at d0 d1 d2 d3; have y0 := k1.frozen 0; have y1 := k1.frozen 1; have y2 := k1.frozen 2; have y3 := k1.frozen 3; clear k0 k1
    have g2 := o2.cell; have l2 := o2.lt
    clear o2
    go_wp2_with (go_at_call 97; refine (loadWith_any _ _ _ _ _).mono ?_; rintro e w0 ⟨rfl, rfl⟩)
    refine (HS.out _).mono ?_
    rw [G.out, HV.out]
    rintro e w1 ⟨r, rfl, hr, b1'⟩
    have b1 : Below W.heap.size W w1 := b_then (b_alloc (b_alloc (b_alloc (Below.refl _ _) _) _) _) b1'
    have k1 := Blk.on K1.out (by rfl) b1
    have k0 := Blk.on K0.out (by rfl) b1
    have c0 := k0.cell 0
    have c1 := k0.cell 1
    have c2 := k0.cell 2
    have c3 := k0.cell 3
    simp at c0 c1 c2 c3
    have z0 := k0.frozen 3
    have M0a := Lib.hid k0
    clear k0
    have d0 := k1.cell 0
    have d1 := k1.cell 1
    have d2 := k1.cell 2
    have d3 := k1.cell 3
    simp at d0 d1 d2 d3
    have y0 := k1.frozen 0
    have y1 := k1.frozen 1
    have y2 := k1.frozen 2
    have y3 := k1.frozen 3
    have M1a := Lib.hid k1
    have hsa := k1.lt
    clear k1
    have B1 : Hid (Below w.heap.size w w1) := b_then Bw.out b1
    have o2 := One.on O2.out (by rfl) b1
    have P2 := Lib.hid o2
    have HR := Lib.hid hr
    clear b1' hr g2 l2 b1
    have g2 := o2.cell; have l2 := o2.lt
    clear o2
    go_wp2_with fail
    refine (implFlour_any S r fd _).mono ?_
    rintro e w2 ⟨q, rfl, hq, b2⟩
    have HQ : Hid (∀ w, cn (M q 1233125376 w) = hourF S t fd) := fun w => by
      rw [HM.out, show cn q = flourC S r fd from hq, HF.out, flourC_cn S (show cn r = cn (steadyC [S] t fd 40) by rw [show cn r = steadyC [S] t fd 40 from HR.out, cn_steadyC]) (rfl : cn fd = cn fd)]
      exact capM_fmin (w32_f2 _ _ _) (cn_flourC _ _ _)
    clear c0 c1 c2 c3 d0 d1 d2 d3 y0 y1 y2 y3 z0 g2 l2
    have k1 := Blk.on M1a.out (by rfl) b2
    have k0 := Blk.on M0a.out (by rfl) b2
    have c0 := k0.cell 0
    have c1 := k0.cell 1
    have c2 := k0.cell 2
    have c3 := k0.cell 3
    simp at c0 c1 c2 c3
    have z0 := k0.frozen 3
    have M0b := Lib.hid k0
    clear k0
    have d0 := k1.cell 0
    have d1 := k1.cell 1
    have d2 := k1.cell 2
    have d3 := k1.cell 3
    simp at d0 d1 d2 d3
    have y0 := k1.frozen 0
    have y1 := k1.frozen 1
    have y2 := k1.frozen 2
    have y3 := k1.frozen 3
    have M1b := Lib.hid k1
    have hsb := k1.lt
    clear k1
    have B2 : Hid (Below w.heap.size w w2) := b_then B1.out b2
    clear b2 hq
    have q1 : w.heap.size ≤ w.heap.size + 1 := by omega
    go_wp2_with fail
    refine (implDul_any S _ Hg.out (by rw [HQ.out]; exact hHr.out) _).mono ?_
    rintro e w3 ⟨T, rfl, hT, b3'⟩
    have b3 : Below w2.heap.size w2 w3 := b_then (b_drewN (Below.refl _ _) _) b3'
    clear c0 c1 c2 c3 d0 d1 d2 d3 y0 y1 y2 y3 z0
    have k1 := Blk.on M1b.out (by rfl) b3
    have d0 := k1.cell 0
    have d1 := k1.cell 1
    have d2 := k1.cell 2
    have d3 := k1.cell 3
    simp at d0 d1 d2 d3
    have y0 := k1.frozen 0
    have y1 := k1.frozen 1
    have y2 := k1.frozen 2
    have y3 := k1.frozen 3
    have M1c := Lib.hid k1
    have hsc := k1.lt
    clear k1
    have B3 : Hid (Below w.heap.size w w3) := b_then B2.out b3
    clear b3 b3'
    go_wp2
    refine bodyPost_ret (ret_snc (T := T) Try.results96 rfl ((((M1c.out.set 0 _).set 1 _).set 2 _).set 3 _)) rfl ⟨_, _, rfl, ?_, HQ.out _, ?_⟩
    · rw [dulS_cn (f' := M q 1233125376 w2) (by rw [HQ.out, hourF_cn])]
      exact hT
    · exact b_set (b_set (b_set (b_set B3.out q1 _ _) q1 _ _) q1 _ _) q1 _ _
end Go.Proofs.Ytjkgiknklkfipaa
