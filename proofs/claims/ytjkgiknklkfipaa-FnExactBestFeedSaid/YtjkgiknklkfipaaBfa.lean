/-
  BestFeed: the program's side.
-/
import Derived.Test.YtjkgiknklkfipaaHda
import Derived.Test.YtjkgiknklkfipaaLe
import Derived.Deep.DeepCutAuto
namespace Go.Proofs.Ytjkgiknklkfipaa
open Go.RowKit Go.ChangeShapes Go.WideShapes Go.Deep
attribute [local go_sem ↓] Go.wp_at_zero Go.wp_at_succ
set_option linter.unusedVariables false
set_option linter.unusedSimpArgs false
set_option maxRecDepth 100000

/-- The best of the first k feeds, and its flour. -/
def bfP (S : Sn) (t : Nat) (fs : List Nat) : Nat → Nat × Nat
  | 0 => (0, cn 0)
  | k + 1 => if k = 0 ∨ oGt (hourF S t (fs.getD k 0)) (bfP S t fs k).2 = true then (k, hourF S t (fs.getD k 0)) else bfP S t fs k
def bfK (S : Sn) (t : Nat) (fs : List Nat) (n : Nat) : Int := if okS S then (if psB t && fs.all rtB then (if 60 < n then 3 else if n = 0 then 6 else 0) else 2) else 1
def bfI (S : Sn) (t : Nat) (fs : List Nat) (n : Nat) : Int := if bfK S t fs n = 0 then ((bfP S t fs n).1 : Int) else 0
def bfF (S : Sn) (t : Nat) (fs : List Nat) (n : Nat) : Nat := if bfK S t fs n = 0 then (bfP S t fs n).2 else cn 0
/-- The call returns a number of a feed, a flour and a code. -/
def RBf (i : Int) (c : Nat) (k : Int) (w : World) (e : Ending) (w' : World) : Prop := ∃ r, e = .returned (.tuple #[.int .i64 i, .float .f32 r, .int .i64 k]) ∧ CN r c ∧ Below w.heap.size w w'
theorem ret_3 {fn : Func} {tmps : Array Value} {W : World} {a b c : Nat} (hr : fn.results = #[.tmp a, .tmp b, .tmp c]) : (results fn tmps).run Try.prog W = .ok (.tuple #[tmps.getD a undef, tmps.getD b undef, tmps.getD c undef]) W := by
  simp [results, hr, go_sem]
theorem bfP_cn (S : Sn) (t : Nat) (fs : List Nat) (k : Nat) : cn (bfP S t fs k).2 = (bfP S t fs k).2 := by
  induction k with
  | zero => exact cn_cn 0
  | succ k ih =>
    unfold bfP
    split
    · exact hourF_cn _ _ _
    · exact ih
theorem bfP_yes {S : Sn} {t : Nat} {fs : List Nat} {k : Nat} (h : k = 0 ∨ oGt (hourF S t (fs.getD k 0)) (bfP S t fs k).2 = true) : bfP S t fs (k + 1) = (k, hourF S t (fs.getD k 0)) := by
  rw [show bfP S t fs (k + 1) = if k = 0 ∨ oGt (hourF S t (fs.getD k 0)) (bfP S t fs k).2 = true then (k, hourF S t (fs.getD k 0)) else bfP S t fs k from rfl, if_pos h]
theorem bfP_no {S : Sn} {t : Nat} {fs : List Nat} {k : Nat} (h0 : ¬ k = 0) (h : oGt (hourF S t (fs.getD k 0)) (bfP S t fs k).2 = false) : bfP S t fs (k + 1) = bfP S t fs k := by
  rw [show bfP S t fs (k + 1) = if k = 0 ∨ oGt (hourF S t (fs.getD k 0)) (bfP S t fs k).2 = true then (k, hourF S t (fs.getD k 0)) else bfP S t fs k from rfl, if_neg (by rw [h]; simp [h0])]
theorem bf_gt {S : Sn} {t f k r m : Nat} {fs : List Nat} (hf : fs[k]? = some f) (hr : CN r (hourF S t f)) (hm : CN m (bfP S t fs k).2) : oGt r m = oGt (hourF S t (fs.getD k 0)) (bfP S t fs k).2 := by
  have g : fs.getD k 0 = f := by rw [List.getD_eq_getElem?_getD, hf]; rfl
  rw [g]
  exact oGt_cn (by rw [show cn r = hourF S t f from hr, hourF_cn]) (by rw [show cn m = _ from hm, bfP_cn])
set_option maxHeartbeats 8000000 in
theorem implBestFeed_any (S : Sn) (t : Nat) (A : Option Addr) (n c : Nat) (fs : List Nat) (w : World) (hl : fs.length = n) (hn : n ≤ 1048576) (hT : Fo w w.heap.size A fs) :
    Calls Try.prog 27 #[.agg #[.float .f32 S.d, .float .f32 S.r, .float .f32 S.b, .float .f32 S.g], .float .f32 t, .slice A n c] w (RBf (bfI S t fs n) (bfF S t fs n) (bfK S t fs n) w) := by
  obtain ⟨tp, hp⟩ : ∃ tp, psB t = tp := ⟨_, rfl⟩
  obtain ⟨ta, ht⟩ : ∃ ta, fs.all rtB = ta := ⟨_, rfl⟩
  have hb1 : Below w.heap.size w (w.alloc (.cells #[.float .f32 S.d, .float .f32 S.r, .float .f32 S.b, .float .f32 S.g] 42)) := b_alloc (Below.refl _ _) _
  have hP := fun w => isPlainSize_any t w
  rw [hp] at hP
  have hQ := allRate_is (c := c) ht hl (by unfold maxLen; omega) (hT.keep hb1)
  have hE := fun w => listError_any S (tp && ta) n w hn
  have HT := Lib.hid hT; have Hl := Lib.hid hl; have HP := Lib.hid hP; have HQ := Lib.hid hQ
  have k0 : Blk (w.alloc (.cells #[.float .f32 S.d, .float .f32 S.r, .float .f32 S.b, .float .f32 S.g] 42)) w.heap.size #[.float .f32 S.d, .float .f32 S.r, .float .f32 S.b, .float .f32 S.g] 42 := Blk.new _ _ _
  have K0 := Lib.hid k0; have Bw := Lib.hid hb1
  clear hT hl hP hQ k0 hb1
  by_cases hk0 : bfK S t fs n = 0
  · have ho : okS S = true ∧ tp = true ∧ ta = true ∧ ¬ 60 < n ∧ ¬ n = 0 := by
      unfold bfK at hk0
      rw [hp, ht] at hk0
      rcases Bool.eq_false_or_eq_true (okS S) with h1 | h1 <;> cases tp <;> cases ta <;> simp_all
      split at hk0
      · cases hk0
      · split at hk0
        · cases hk0
        · omega
    obtain ⟨o1, rfl, rfl, o4, o5⟩ := ho
    rw [show codeL (okS S) (true && true) n = 0 by unfold codeL codeR; rw [o1]; simp; omega] at hE
    have HE := Lib.hid hE
    rw [show bfI S t fs n = ((bfP S t fs n).1 : Int) by unfold bfI; rw [if_pos hk0], show bfF S t fs n = (bfP S t fs n).2 by unfold bfF; rw [if_pos hk0], hk0]
    have HG := Lib.hid (ok_g o1)
    have HF := Lib.hid (show ∀ j f, fs[j]? = some f → rg (cn f) ≤ 137 * 8388608 from fun j f hf => rt_rg (List.all_eq_true.1 ht f (List.mem_of_getElem? hf)))
    have HY := Lib.hid (show ∀ k, k = 0 ∨ oGt (hourF S t (fs.getD k 0)) (bfP S t fs k).2 = true → bfP S t fs (k + 1) = (k, hourF S t (fs.getD k 0)) from fun k h => bfP_yes h)
    have HN := Lib.hid (show ∀ k, ¬ k = 0 → oGt (hourF S t (fs.getD k 0)) (bfP S t fs k).2 = false → bfP S t fs (k + 1) = bfP S t fs k from fun k h0 h => bfP_no h0 h)
    have n60 : n ≤ 60 := by omega
    have npos : 0 < n := by omega
    have nn0 : ((n : Int) == 0) = false := by rw [beq_eq_false_iff_ne]; omega
    clear hk0 hp ht o1 o4 o5 hE
    have k0 := K0.out
    have c0 := k0.cell 0; have c1 := k0.cell 1; have c2 := k0.cell 2; have c3 := k0.cell 3
    simp at c0 c1 c2 c3
    clear k0
    go_enter Try.func27, Try.ntmps27
    go_wp2_with (first | (go_at_call 57; refine HQ.out.mono ?_; rintro e w1 ⟨rfl, rfl⟩) | (go_at_call 58; refine (HP.out _).mono ?_; rintro e w1 ⟨rfl, rfl⟩) | (go_at_call 61; refine (HE.out _).mono ?_; rintro e w2 ⟨rfl, b2⟩; have K2 := Lib.hid (Blk.on K0.out (by rfl) b2); have B2 : Hid (Below w.heap.size w w2) := b_then Bw.out b2; clear b2 c0 c1 c2 c3))
    go_loopw [11, 12, 13, 14, 15, 16, 36] (fun v11 v12 v13 v14 v15 v16 v36 wr => ∃ k m : Nat, k ≤ n ∧ v36 = .int .i64 k ∧ v11 = .int .i64 ((bfP S t fs k).1 : Int) ∧ v12 = .float .f32 m ∧ Hid (CN m (bfP S t fs k).2) ∧ Hid (Blk wr w.heap.size #[.float .f32 S.d, .float .f32 S.r, .float .f32 S.b, .float .f32 S.g] 42) ∧ Hid (Below w.heap.size w wr)) (fun _ _ _ _ _ _ v36 _ => n - (intOf v36).toNat)
    case atStart => exact ⟨0, 0, Nat.zero_le _, rfl, rfl, rfl, rfl, K2, B2⟩
    case round =>
      obtain ⟨k, m, hk, rfl, rfl, rfl, HM, KK, BB⟩ := hrel
      by_cases hlt : k < n
      · have hkl : k < fs.length := by have := Hl.out; omega
        obtain ⟨b, off, rfl, hbs, hc⟩ := HT.out (by omega)
        obtain ⟨f, hf⟩ : ∃ f, fs[k]? = some f := ⟨_, List.getElem?_eq_getElem hkl⟩
        have e0 := (World.cell?_of_block (a := ⟨b, off + k, none⟩) (BB.out.block b hbs)).trans (hc k f hf)
        have HFk := Lib.hid (HF.out k f hf)
        have HGT := Lib.hid (show ∀ r, CN r (hourF S t f) → oGt r m = oGt (hourF S t (fs.getD k 0)) (bfP S t fs k).2 from fun r hr => bf_gt hf hr HM.out)
        have HY0 := Lib.hid (HY.out k); have HN0 := Lib.hid (HN.out k)
        have HGD := Lib.hid (show fs.getD k 0 = f by rw [List.getD_eq_getElem?_getD, hf]; rfl)
        have u1 : (0 : Int) ≤ (k : Int) := by omega
        have u2 : (k : Int) < (n : Int) := by omega
        clear hkl hc hf hbs
        obtain ⟨z, hz⟩ : ∃ z, bfP S t fs k = z := ⟨_, rfl⟩
        rw [hz] at HM HGT HY0 HN0 ⊢
        clear hz
        have k0 := KK.out
        have c0 := k0.cell 0; have c1 := k0.cell 1; have c2 := k0.cell 2; have c3 := k0.cell 3
        simp at c0 c1 c2 c3
        have hl0 : w.heap.size < wr.heap.size := k0.lt
        clear k0
        go_upto_region 11 with fail
        go_cut [15, 16] (fun s15 s16 wx => ∃ q r : Nat, s15 = .pointer (some ⟨q, 0, none⟩) ∧ s16 = .float .f32 r ∧ CN r (hourF S t f) ∧ Below wr.heap.size wr wx)
        case first =>
          go_region_law (first | (go_simp; go_at_call 62; refine (grinding_c f _).mono ?_; rintro e w1 ⟨qf, rfl, of, lf, b1⟩; have OF := Lib.hid of; have k0 : Blk w1 w.heap.size #[.float .f32 S.d, .float .f32 S.r, .float .f32 S.b, .float .f32 S.g] 42 := (by first | exact Blk.on KK.out (by rfl) b1 | exact Blk.on (KK.out.push _) (by rfl) b1); have c0 := k0.cell 0; have c1 := k0.cell 1; have c2 := k0.cell 2; have c3 := k0.cell 3; simp at c0 c1 c2 c3; have ls := k0.lt; clear k0 of; (try (have x1 : Blk w1 wr.heap.size #[.float .f32 0, .float .f32 0, .float .f32 0, .float .f32 0] 42 := Blk.on (Blk.new _ _ _) (by rfl) b1; have X1 := Lib.hid x1; clear x1)); dsimp only) | (go_simp; go_at_call 96; refine (implHour_any S t f HG.out HFk.out _ _ (by first | exact OF.out | exact One.push OF.out _)).mono ?_; rintro e w2 ⟨T, r, rfl, hT, hr, b2⟩; have HR := Lib.hid hr; clear hT hr; (first | (have y1 : Blk w2 wr.heap.size #[.float .f32 0, .float .f32 0, .float .f32 0, .float .f32 0] 42 := Blk.on X1.out (by rfl) b2) | (have y1 : Blk w2 w1.heap.size #[.float .f32 0, .float .f32 0, .float .f32 0, .float .f32 0] 42 := Blk.on (Blk.new w1 _ _) (by rfl) b2) | skip); (try (have d0 := y1.cell 0; have d1 := y1.cell 1; have d2 := y1.cell 2; have d3 := y1.cell 3; simp at d0 d1 d2 d3; have y0 := y1.frozen 0; have y1' := y1.frozen 1; have y2 := y1.frozen 2; have y3 := y1.frozen 3; have ly := y1.lt; clear y1)); dsimp only))
          all_goals
            go_wp2_with fail
            go_meet
            have hw1 : wr.heap.size ≤ w1.heap.size := by
              have := b1.size
              simp at this
              omega
            have hbw : Below wr.heap.size wr w2 := by
              repeat (first | with_reducible exact Below.refl wr.heap.size wr | refine b_then ?_ (by assumption) | refine b_drew ?_ | refine b_alloc ?_ _ | refine b_drewN ?_ _)
            clear b1 b2
            first
              | exact ⟨_, r, rfl, rfl, HR.out, b_set (b_set (b_set (b_set hbw (by first | exact Nat.le_refl _ | assumption) _ _) (by first | exact Nat.le_refl _ | assumption) _ _) (by first | exact Nat.le_refl _ | assumption) _ _) (by first | exact Nat.le_refl _ | assumption) _ _⟩
              | exact ⟨_, r, rfl, rfl, HR.out, b_alloc hbw _⟩
        case rest =>
          obtain ⟨q15, r, rfl, rfl, hr, hbc⟩ := hcut
          have B3 := Lib.hid (b_then BB.out hbc)
          have K3 := Lib.hid (Blk.on KK.out (by rfl) hbc)
          have HGr := Lib.hid (HGT.out r hr)
          have HR := Lib.hid hr
          clear c0 c1 c2 c3 e0 hr hbc
          by_cases hk0 : k = 0
          · subst hk0
            have HS := Lib.hid (HY0.out (Or.inl rfl))
            go_wp2
            go_roundw
            case rel => exact ⟨1, r, by omega, rfl, by rw [HS.out], rfl, Lib.hid (by rw [HS.out]; show CN r (hourF S t (fs.getD 0 0)); rw [HGD.out]; exact HR.out), K3, B3⟩
            case measure => simp [intOf]; omega
          · have kne : ((k : Int) == 0) = false := by rw [beq_eq_false_iff_ne]; omega
            have kne2 : ¬ (k : Int) = 0 := by omega
            obtain ⟨tb, htb⟩ : ∃ b, oGt r m = b := ⟨_, rfl⟩
            cases tb
            · obtain ⟨g1, g2⟩ := (tf_gt htb).2 rfl
              have HS := Lib.hid (HN0.out hk0 (HGr.out.symm.trans htb))
              clear htb
              go_wp2
              go_roundw
              case rel => exact ⟨k + 1, m, by omega, by go_num, by rw [HS.out], rfl, Lib.hid (by rw [HS.out]; exact HM.out), K3, B3⟩
              case measure => simp [intOf]; omega
            · have g1 := (tf_gt htb).1 rfl
              have HS := Lib.hid (HY0.out (Or.inr (HGr.out.symm.trans htb)))
              clear htb
              go_wp2
              go_roundw
              case rel => exact ⟨k + 1, r, by omega, by go_num, by rw [HS.out], rfl, Lib.hid (by rw [HS.out]; show CN r (hourF S t (fs.getD k 0)); rw [HGD.out]; exact HR.out), K3, B3⟩
              case measure => simp [intOf]; omega
      · obtain rfl : k = n := by omega
        go_wp2
        exact bodyPost_ret (ret_3 Try.results27) rfl ⟨_, rfl, HM.out, BB.out⟩
  · obtain ⟨K, hK⟩ : ∃ K, bfK S t fs n = K := ⟨_, rfl⟩
    rw [show bfI S t fs n = 0 by unfold bfI; rw [if_neg hk0], show bfF S t fs n = cn 0 by unfold bfF; rw [if_neg hk0]]
    rw [hK] at hk0 ⊢
    by_cases hc0 : codeL (okS S) (tp && ta) n = 0
    · have ho : okS S = true ∧ (tp && ta) = true ∧ ¬ 60 < n := by
        unfold codeL codeR at hc0
        rcases Bool.eq_false_or_eq_true (okS S) with h1 | h1 <;> cases tp <;> cases ta <;> simp_all
      obtain ⟨o1, o2, o3⟩ := ho
      have h6 : n = 0 ∧ K = 6 := by
        have := hK
        unfold bfK at this
        rw [hp, ht, o1, o2] at this
        simp only [if_true] at this
        rw [if_neg o3] at this
        split at this
        · exact ⟨by assumption, this.symm⟩
        · exact absurd this.symm hk0
      obtain ⟨h6, rfl⟩ := h6
      rw [hc0] at hE
      have HE := Lib.hid hE
      clear hE hc0 hK hk0 hp ht
      simp only [Bool.and_eq_true] at o2
      obtain ⟨rfl, rfl⟩ := o2
      clear o1 o3
      subst h6
      have k0 := K0.out
      have c0 := k0.cell 0; have c1 := k0.cell 1; have c2 := k0.cell 2; have c3 := k0.cell 3
      simp at c0 c1 c2 c3
      clear k0
      go_enter Try.func27, Try.ntmps27
      go_wp2_with (first | (go_at_call 57; refine HQ.out.mono ?_; rintro e w1 ⟨rfl, rfl⟩) | (go_at_call 58; refine (HP.out _).mono ?_; rintro e w1 ⟨rfl, rfl⟩) | (go_at_call 61; refine (HE.out _).mono ?_; rintro e w2 ⟨rfl, b2⟩; have B2 : Hid (Below w.heap.size w w2) := b_then Bw.out b2; clear b2 c0 c1 c2 c3))
      exact bodyPost_ret (ret_3 Try.results27) rfl ⟨_, rfl, cn_lit _, B2.out⟩
    · have hKc : codeL (okS S) (tp && ta) n = K := by
        rw [← hK]
        unfold bfK codeL codeR at *
        rw [hp, ht] at *
        rcases Bool.eq_false_or_eq_true (okS S) with h1 | h1 <;> cases tp <;> cases ta <;> simp_all
      rw [hKc] at hE hc0
      have hcs : K = 1 ∨ K = 2 ∨ K = 3 := by
        rw [← hKc] at hc0 ⊢
        unfold codeL codeR at hc0 ⊢
        by_cases h60 : 60 < n <;> rcases Bool.eq_false_or_eq_true (okS S) with h1 | h1 <;> cases tp <;> cases ta <;> simp [h1, h60] at hc0 ⊢
      clear hKc hK hk0 hc0 hp ht
      have k0 := K0.out
      have c0 := k0.cell 0; have c1 := k0.cell 1; have c2 := k0.cell 2; have c3 := k0.cell 3
      simp at c0 c1 c2 c3
      clear k0
      rcases hcs with rfl | rfl | rfl <;> cases tp
      all_goals
        simp only [Bool.true_and, Bool.false_and] at hE
        have HE := Lib.hid hE
        clear hE
        go_enter Try.func27, Try.ntmps27
        go_wp2_with (first | (go_at_call 57; refine HQ.out.mono ?_; rintro e w1 ⟨rfl, rfl⟩) | (go_at_call 58; refine (HP.out _).mono ?_; rintro e w1 ⟨rfl, rfl⟩) | (go_at_call 61; refine (HE.out _).mono ?_; rintro e w2 ⟨rfl, b2⟩; have B2 : Hid (Below w.heap.size w w2) := b_then Bw.out b2; clear b2 c0 c1 c2 c3))
        exact bodyPost_ret (ret_3 Try.results27) rfl ⟨_, rfl, cn_lit _, B2.out⟩
end Go.Proofs.Ytjkgiknklkfipaa
