/-
  HoursFor: both sides and the law.
-/
import Derived.Test.YtagjkagfnfonpaaHk
import Derived.Test.YtagjkagfnfonpaaHg
namespace Go.Proofs.Ytagjkagfnfonpaa
open Go.RowKit Go.ChangeShapes Go.WideShapes Go.Deep
attribute [local go_sem ↓] Go.wp_at_zero Go.wp_at_succ
set_option linter.unusedVariables false
set_option linter.unusedSimpArgs false
set_option maxRecDepth 100000
theorem One.setI {w : World} {q q' : Nat} {x : Value} {t : TypeId} (h : One w q x t) (hne : q ≠ q') (i : Nat) (v : Value) : One (w.setCell ⟨q', i, none⟩ v) q x t := (Below.heap_setCell w ⟨q', i, none⟩ v q hne).trans h
theorem One.draws {w : World} {q : Nat} {x : Value} {t : TypeId} (h : One w q x t) (n : Nat) : One (w.drewN n) q x t := h
def codeHr (S : Sn) (t f am : Nat) : Int := codeR (okS S) ((psB t && rtB f) && psB am)
def hrsV (S : Sn) (t f am : Nat) : Int × Int := if codeHr S t f am = 0 then hrsR S t f am 61 0 else (0, codeHr S t f am)
/-- What holds at the head of every round. -/
def HrI (S : Sn) (t f am k r : Nat) (T : Sn) : Prop := cn r = suC S t f k ∧ cnS T = hrS S t f k ∧ hrsR S t f am (61 - k) k = hrsR S t f am 61 0
theorem HrI.start (S : Sn) (t f am : Nat) : HrI S t f am 0 0 S := ⟨rfl, rfl, rfl⟩
theorem HrI.next {S : Sn} {t f am k r : Nat} {T : Sn} (h : HrI S t f am k r T) (hk : k ≤ 60) (hl : oGe (suC S t f k) am = false) {T' : Sn} {r' x : Nat} (hT : SnIs T' (hourS T t f)) (hx : CN x (hourF T t f)) (hr : cn r' = f2 .add (cn r) (cn x)) : HrI S t f am (k + 1) r' T' := by
  obtain ⟨h1, h2, h3⟩ := h
  have e : cnS T = cnS (hrS S t f k) := by rw [hrS_cn]; exact h2
  refine ⟨?_, ?_, ?_⟩
  · rw [hr, h1, show cn x = hourF T t f from hx, hourF_cnS e]
    rfl
  · rw [show cnS T' = hourS T t f from hT, hourS_cnS e]
    rfl
  · rw [← h3, show 61 - k = (61 - (k + 1)) + 1 by omega]
    show _ = (if oGe (suC S t f k) am then ((k : Int), 0) else _)
    rw [hl]
    rfl
theorem HrI.found {S : Sn} {t f am k r : Nat} {T : Sn} (h : HrI S t f am k r T) (hk : k ≤ 60) (hl : oGe (suC S t f k) am = true) : hrsR S t f am 61 0 = ((k : Int), 0) := by
  rw [← h.2.2, show 61 - k = (60 - k) + 1 by omega]
  show (if oGe (suC S t f k) am then ((k : Int), 0) else _) = _
  rw [hl]
  rfl
theorem HrI.last {S : Sn} {t f am k r : Nat} {T : Sn} (h : HrI S t f am k r T) (hk : k = 61) : hrsR S t f am 61 0 = (0, 6) := by
  rw [← h.2.2, hk]
  rfl
theorem HrI.at60 {S : Sn} {t f am r : Nat} {T : Sn} (h : HrI S t f am 60 r T) (hl : oGe (suC S t f 60) am = false) : hrsR S t f am 61 0 = (0, 6) := by
  rw [← h.2.2]
  show (if oGe (suC S t f 60) am then ((60 : Int), 0) else _) = _
  rw [hl]
  rfl
theorem order_some {x y : Nat} (hx : nan32 x = false) (hy : nan32 y = false) : ∃ o, FloatKind.f32.format.order x y = some o := ⟨_, ord_rk hx hy⟩
theorem HrI.order {S : Sn} {t f am k r : Nat} {T : Sn} (h : HrI S t f am k r T) (hk : k ≤ 61) (hg : ptN (cn S.g)) (hf : rtN (cn f)) (ha : nan32 am = false) : ∃ o, FloatKind.f32.format.order r am = some o ∧ oGe (suC S t f k) am = (o == .gt || o == .eq) := by
  have n1 := (suC_rg (t := t) hg hf k hk).1
  have hn : nan32 r = false := by rw [← nan_cn, h.1]; exact n1
  obtain ⟨o, ho⟩ := order_some hn ha
  refine ⟨o, ho, ?_⟩
  rw [← oGe_cn (x := r) (y := am) (by rw [h.1, cn_suC]) rfl]
  unfold oGe
  rw [ho]
  cases o <;> rfl
theorem ps_nan {am : Nat} (h : psB am = true) : nan32 am = false := by
  unfold psB at h
  simp only [Bool.and_eq_true] at h
  exact (between h.1 h.2 (by decide) (by decide)).1
set_option maxHeartbeats 4000000 in
theorem specHours_any (S : Sn) (t f am : Nat) (w : World) : Calls Try.prog 42 #[.agg #[.float .f32 S.d, .float .f32 S.r, .float .f32 S.b, .float .f32 S.g], .float .f32 t, .float .f32 f, .float .f32 am] w (RV (.tuple #[.int .i64 (hrsV S t f am).1, .int .i64 (hrsV S t f am).2]) w) := by
  obtain ⟨R, N, hR, hC⟩ := ops_fun Try.prog 22; have ra := hR .add rfl; have rs := hR .sub rfl; have rm := hR .mul rfl; have rq := hR .quo rfl; have HC := Lib.hid hC; clear hC hR
  have ha := fun w => specTurned_any S t f w
  obtain ⟨C, hC⟩ : ∃ C, codeR (okS S) (psB t && rtB f) = C := ⟨_, rfl⟩
  rw [hC] at ha
  have HA := Lib.hid ha
  have HC3 := codeR_cases hC
  have HCC := Lib.hid hC
  have hP := fun w => l03Amount_any am w
  clear ha hC
  have k0 : Blk (w.alloc (.cells #[.float .f32 S.d, .float .f32 S.r, .float .f32 S.b, .float .f32 S.g] 27)) w.heap.size #[.float .f32 S.d, .float .f32 S.r, .float .f32 S.b, .float .f32 S.g] 27 := Blk.new _ _ _
  have bw : Below w.heap.size w (w.alloc (.cells #[.float .f32 S.d, .float .f32 S.r, .float .f32 S.b, .float .f32 S.g] 27)) := b_alloc (Below.refl _ _) _
  have K0 := Lib.hid k0; have Bw := Lib.hid bw
  clear k0 bw
  rcases HC3 with rfl | rfl | rfl
  · obtain ⟨o1, o2⟩ := code_ok HCC.out
    rcases Bool.eq_false_or_eq_true (psB am) with p | p
    · have hc : hrsV S t f am = hrsR S t f am 61 0 := by unfold hrsV codeHr codeR; rw [o1, o2, p]; rfl
      rw [hc]
      have o3 : rtB f = true := by simp only [Bool.and_eq_true] at o2; exact o2.2
      have hg := ok_n o1
      have hf := rt_n o3
      have hna := ps_nan p
      have HO := Lib.hid (fun (k r : Nat) (T : Sn) (h : HrI S t f am k r T) (hk : k ≤ 61) => h.order hk hg hf hna)
      rw [p] at hP
      have HP := Lib.hid hP
      clear hc o1 o2 o3 p hP hg hf hna HCC
      go_enter Try.func42, Try.ntmps42
      go_wp2_with (first | (go_at_call 55; refine (HA.out _).mono ?_; rintro e w1 ⟨rfl, b1⟩; have k1 := Blk.on K0.out (by rfl) b1; have B1 : Hid (Below w.heap.size w w1) := b_then Bw.out b1; clear b1) | (go_at_call 60; refine (HP.out _).mono ?_; rintro e w2 ⟨rfl, rfl⟩))
      have K1 := Lib.hid k1; clear k1
      go_loopw [11, 12] (fun u i wr => ∃ (k r : Nat) (T : Sn), k ≤ 61 ∧ i = .int .i64 k ∧ u = .float .f32 r ∧ HrI S t f am k r T ∧ Blk wr w.heap.size #[.float .f32 T.d, .float .f32 T.r, .float .f32 T.b, .float .f32 T.g] 27 ∧ Below w.heap.size w wr) (fun _ i _ => 61 - (intOf i).toNat)
      case atStart => exact ⟨0, 0, S, by omega, rfl, rfl, HrI.start S t f am, K1.out, B1.out⟩
      case round =>
        obtain ⟨k, r, T, hk, rfl, rfl, hI, k0, hb⟩ := hrel
        have HI := Lib.hid hI; clear hI
        have Hb := Lib.hid hb; clear hb
        by_cases hlt : k ≤ 60
        · obtain ⟨od, ho, hge⟩ := HO.out k r T HI.out hk
          have HGE := Lib.hid hge; clear hge
          have K2 := Lib.hid k0
          cases od
          · have c0 := k0.cell 0; have c1 := k0.cell 1; have c2 := k0.cell 2; have c3 := k0.cell 3; simp at c0 c1 c2 c3; have z0 := k0.frozen 0; have z1 := k0.frozen 1; have z2 := k0.frozen 2; have z3 := k0.frozen 3; have l0 := k0.lt
            clear k0
            have hl : Hid (oGe (suC S t f k) am = false) := HGE.out
            go_wp2_with fail
            refine (specHour_any T t f _).mono ?_
            rintro e w3 ⟨T1, x, rfl, hT, hx, b3⟩
            have HT := Lib.hid hT; have HX := Lib.hid hx
            have HR : Hid (∀ w', cn (R .add r x w') = f2 .add (cn r) (cn x)) := fun w' => HC.out .add rfl _ _ _
            have B3 : Hid (Below w.heap.size w w3) := b_then Hb.out b3
            have k0 := Blk.on K2.out (by rfl) b3
            clear b3 hT hx c0 c1 c2 c3 z0 z1 z2 z3 ho l0
            have c0 := k0.cell 0; have c1 := k0.cell 1; have c2 := k0.cell 2; have c3 := k0.cell 3; simp at c0 c1 c2 c3; have z0 := k0.frozen 0; have z1 := k0.frozen 1; have z2 := k0.frozen 2; have z3 := k0.frozen 3; have l0 := k0.lt
            have K3 := Lib.hid k0
            clear k0
            go_wp2
            clear c0 c1 c2 c3 z0 z1 z2 z3
            go_roundw
            case rel =>
              refine ⟨k + 1, _, T1, by omega, by go_num, rfl, HI.out.next hlt hl.out HT.out HX.out (HR.out _), (((((K3.out.set 0 _).set 1 _).set 2 _).set 3 _).push _).draws _, b_drewN (b_alloc (b_set (b_set (b_set (b_set B3.out (Nat.le_refl _) _ _) (Nat.le_refl _) _ _) (Nat.le_refl _) _ _) (Nat.le_refl _) _ _) _) _⟩
            case measure => simp [intOf]; omega
          all_goals
            clear k0
            go_wp2
            go_ret2
            rw [HI.out.found hlt HGE.out]
            exact ⟨rfl, Hb.out⟩
        · obtain rfl : k = 61 := by omega
          go_wp2
          go_ret2
          rw [HI.out.last rfl]
          exact ⟨rfl, Hb.out⟩
    · have hc : hrsV S t f am = (0, 2) := by unfold hrsV codeHr codeR; rw [o1, o2, p]; rfl
      rw [hc]
      rw [p] at hP
      have HP := Lib.hid hP
      clear hc o1 o2 p hP HCC
      go_enter Try.func42, Try.ntmps42
      go_wp2_with (first | (go_at_call 55; refine (HA.out _).mono ?_; rintro e w1 ⟨rfl, b1⟩) | (go_at_call 60; refine (HP.out _).mono ?_; rintro e w2 ⟨rfl, rfl⟩))
      go_ret2
      refine ⟨rfl, ?_⟩
      (repeat (first | exact Below.refl _ _ | refine b_drewN ?_ _ | refine b_drew ?_ | refine b_alloc ?_ _ | refine b_then ?_ (by assumption)))
  all_goals
    have hc : codeHr S t f am = codeR (okS S) (psB t && rtB f) := by
      have := HCC.out
      unfold codeHr; unfold codeR at this ⊢
      cases h1 : okS S <;> cases h2 : (psB t && rtB f) <;> simp_all
    have hv : hrsV S t f am = (0, codeR (okS S) (psB t && rtB f)) := by
      unfold hrsV
      rw [hc, HCC.out]
      rfl
    rw [hv, HCC.out]
    clear hc hv HCC hP
    go_enter Try.func42, Try.ntmps42
    go_wp2_with (first | (go_at_call 55; refine (HA.out _).mono ?_; rintro e w1 ⟨rfl, b1⟩))
    go_ret2
    refine ⟨rfl, ?_⟩
    (repeat (first | exact Below.refl _ _ | refine b_drewN ?_ _ | refine b_drew ?_ | refine b_alloc ?_ _ | refine b_then ?_ (by assumption)))
theorem codeHr_of {S : Sn} {t f am : Nat} : codeHr S t f am = codeR (okS S) ((psB t && psB am) && rtB f) := by
  unfold codeHr
  cases psB t <;> cases rtB f <;> cases psB am <;> rfl
set_option maxHeartbeats 4000000 in
theorem implHours_any (S : Sn) (t f am : Nat) (w : World) : Calls Try.prog 43 #[.agg #[.float .f32 S.d, .float .f32 S.r, .float .f32 S.b, .float .f32 S.g], .float .f32 t, .float .f32 f, .float .f32 am] w (RV (.tuple #[.int .i64 (hrsV S t f am).1, .int .i64 (hrsV S t f am).2]) w) := by
  obtain ⟨R, N, hR, hC⟩ := ops_fun Try.prog 22; have ra := hR .add rfl; have rs := hR .sub rfl; have rm := hR .mul rfl; have rq := hR .quo rfl; have HC := Lib.hid hC; clear hC hR
  obtain ⟨tt, htt⟩ : ∃ tt, [t, am].all psB = tt := ⟨_, rfl⟩
  have htt2 : (psB t && psB am) = tt := by rw [← htt]; simp
  obtain ⟨tf, htf⟩ : ∃ tf, rtB f = tf := ⟨_, rfl⟩
  have HTT := Lib.hid htt
  have hQ := fun w => isRate_any f w
  rw [htf] at hQ
  have HQ := Lib.hid hQ
  have HE := Lib.hid (fun w => stoneError_any S (tt && tf) w)
  have hC : codeHr S t f am = codeR (okS S) (tt && tf) := by rw [codeHr_of, htt2, htf]
  obtain ⟨C, hC2⟩ : ∃ C, codeR (okS S) (tt && tf) = C := ⟨_, rfl⟩
  rw [hC2] at HE hC
  have HC3 := codeR_cases hC2
  have HCC := Lib.hid hC2
  have HCH := Lib.hid hC
  have HT2 := Lib.hid htt2
  have HF2 := Lib.hid htf
  clear hQ hC hC2 htt htt2 htf
  have k0 : Blk (w.alloc (.cells #[.float .f32 S.d, .float .f32 S.r, .float .f32 S.b, .float .f32 S.g] 27)) w.heap.size #[.float .f32 S.d, .float .f32 S.r, .float .f32 S.b, .float .f32 S.g] 27 := Blk.new _ _ _
  have bw : Below w.heap.size w (w.alloc (.cells #[.float .f32 S.d, .float .f32 S.r, .float .f32 S.b, .float .f32 S.g] 27)) := b_alloc (Below.refl _ _) _
  have K0 := Lib.hid k0; have Bw := Lib.hid bw
  clear k0 bw
  cases tt <;> cases tf
  all_goals
    simp only [Bool.and_self, Bool.and_true, Bool.and_false, Bool.true_and, Bool.false_and] at HE HCC
    rcases HC3 with rfl | rfl | rfl
  all_goals
    first
      | (exfalso; have := HCC.out; unfold codeR at this; cases h1 : okS S <;> simp_all; done)
      | (have hv : hrsV S t f am = hrsR S t f am 61 0 := by unfold hrsV; rw [if_pos HCH.out]
         rw [hv]
         clear hv
         obtain ⟨o1, _⟩ := code_ok HCC.out
         have hg := ok_n o1
         have hf := rt_n HF2.out
         have hna := ps_nan (am := am) (by have := HT2.out; simp only [Bool.and_eq_true] at this; exact this.2)
         have HO := Lib.hid (fun (k r : Nat) (T : Sn) (h : HrI S t f am k r T) (hk : k ≤ 61) => h.order hk hg hf hna)
         have HGP := Lib.hid (fun (k : Nat) => hrS_g (t := t) hg hf k)
         have HFP := Lib.hid hf.1
         clear hg hf hna o1 HCH HCC HF2 HT2
         go_enter Try.func43, Try.ntmps43
         go_wp2_with (first | (go_at_call 70; refine (allSize_is (n := 2) HTT.out rfl (by unfold maxLen; omega) (fo_two (by go_simp) (by go_simp))).mono ?_; rintro e w0 ⟨rfl, rfl⟩) | (go_at_call 16; refine (HQ.out _).mono ?_; rintro e w2 ⟨rfl, rfl⟩) | (go_at_call 57; refine (HE.out _).mono ?_; rintro e w1 ⟨rfl, b1⟩) | (go_at_call 69; refine (grinding_c f _).mono ?_; rintro e w2 ⟨qf, rfl, of, lf, b2⟩))
         have k1 := Blk.on (K0.out.push _) (by rfl) b1
         have B1 : Hid (Below w.heap.size w w1) := b_then (b_alloc Bw.out _) b1
         have k2 := Blk.on k1 (by rfl) b2
         have K2 := Lib.hid k2
         have B2 : Hid (Below w.heap.size w w2) := b_then B1.out b2
         have hne : Hid (qf ≠ w.heap.size) := (fun h => by have := k1.lt; omega)
         have OF := Lib.hid of
         clear k1 k2 b1 b2 of lf
         go_loopw [12, 13] (fun i u wr => ∃ (k r : Nat) (T : Sn), k ≤ 60 ∧ i = .int .i64 k ∧ u = .float .f32 r ∧ HrI S t f am k r T ∧ Blk wr w.heap.size #[.float .f32 T.d, .float .f32 T.r, .float .f32 T.b, .float .f32 T.g] 27 ∧ One wr qf (.float .f32 f) 22 ∧ Below w.heap.size w wr) (fun i _ _ => 60 - (intOf i).toNat)
         case atStart => exact ⟨0, 0, S, by omega, rfl, rfl, HrI.start S t f am, K2.out, OF.out, B2.out⟩
         case round =>
           obtain ⟨k, r, T, hk, rfl, rfl, hI, k0, ok, hb⟩ := hrel
           have HI := Lib.hid hI; clear hI
           have Hb := Lib.hid hb; clear hb
           have OK := Lib.hid ok; clear ok
           obtain ⟨od, ho, hge⟩ := HO.out k r T HI.out (by omega)
           have HGE := Lib.hid hge; clear hge
           have KK := Lib.hid k0
           cases od
           · have hl : Hid (oGe (suC S t f k) am = false) := HGE.out
             by_cases hlt : k < 60
             · have c0 := k0.cell 0; have c1 := k0.cell 1; have c2 := k0.cell 2; have c3 := k0.cell 3; simp at c0 c1 c2 c3; have z0 := k0.frozen 0; have z1 := k0.frozen 1; have z2 := k0.frozen 2; have z3 := k0.frozen 3; have l0 := k0.lt
               clear k0
               go_wp2_with fail
               refine (implHour_any T t f (by rw [show cn T.g = (hrS S t f k).g from congrArg Sn.g HI.out.2.1]; exact (HGP.out k).1) HFP.out qf _ OK.out).mono ?_
               rintro e w3 ⟨T1, x, rfl, hT, hx, b3⟩
               have HT := Lib.hid hT; have HX := Lib.hid hx
               have HR : Hid (∀ w', cn (R .add r x w') = f2 .add (cn r) (cn x)) := fun w' => HC.out .add rfl _ _ _
               have B3 : Hid (Below w.heap.size w w3) := b_then Hb.out b3
               have k0 := Blk.on KK.out (by rfl) b3
               have O3 := Lib.hid (One.on OK.out (by rfl) b3)
               clear b3 hT hx c0 c1 c2 c3 z0 z1 z2 z3 ho l0
               have c0 := k0.cell 0; have c1 := k0.cell 1; have c2 := k0.cell 2; have c3 := k0.cell 3; simp at c0 c1 c2 c3; have z0 := k0.frozen 0; have z1 := k0.frozen 1; have z2 := k0.frozen 2; have z3 := k0.frozen 3; have l0 := k0.lt
               have K3 := Lib.hid k0
               clear k0
               go_wp2
               clear c0 c1 c2 c3 z0 z1 z2 z3
               go_roundw
               case rel =>
                 refine ⟨k + 1, _, T1, by omega, by go_num, rfl, HI.out.next (by omega) hl.out HT.out HX.out (HR.out _), (((((K3.out.set 0 _).set 1 _).set 2 _).set 3 _).push _).draws _, One.draws (((((O3.out.setI hne.out 0 _).setI hne.out 1 _).setI hne.out 2 _).setI hne.out 3 _).push _) _, b_drewN (b_alloc (b_set (b_set (b_set (b_set B3.out (Nat.le_refl _) _ _) (Nat.le_refl _) _ _) (Nat.le_refl _) _ _) (Nat.le_refl _) _ _) _) _⟩
               case measure => simp [intOf]; omega
             · obtain rfl : k = 60 := by omega
               clear k0
               go_wp2
               go_ret2
               rw [HI.out.at60 hl.out]
               exact ⟨rfl, Hb.out⟩
           all_goals
             clear k0
             go_wp2
             go_ret2
             rw [HI.out.found hk HGE.out]
             exact ⟨rfl, Hb.out⟩)
      | (have hv : hrsV S t f am = (0, codeHr S t f am) := by unfold hrsV; rw [if_neg (by rw [HCH.out]; decide)]
         rw [hv, HCH.out]
         clear hv HCH HCC HF2 HT2
         go_enter Try.func43, Try.ntmps43
         go_wp2_with (first | (go_at_call 70; refine (allSize_is (n := 2) HTT.out rfl (by unfold maxLen; omega) (fo_two (by go_simp) (by go_simp))).mono ?_; rintro e w0 ⟨rfl, rfl⟩) | (go_at_call 16; refine (HQ.out _).mono ?_; rintro e w2 ⟨rfl, rfl⟩) | (go_at_call 57; refine (HE.out _).mono ?_; rintro e w1 ⟨rfl, b1⟩))
         go_ret2
         refine ⟨rfl, ?_⟩
         (repeat (first | exact Below.refl _ _ | refine b_drewN ?_ _ | refine b_drew ?_ | refine b_alloc ?_ _ | refine b_then ?_ (by assumption))))
set_option maxRecDepth 100000 in
set_option maxHeartbeats 4000000 in
theorem walk_FnExactHoursFor (S : Sn) (wS : (Lit.float .f32 S.d).wf = true ∧ (Lit.float .f32 S.r).wf = true ∧ (Lit.float .f32 S.b).wf = true ∧ (Lit.float .f32 S.g).wf = true) (t : Nat) (wt : (Lit.float .f32 t).wf = true) (f : Nat) (wf : (Lit.float .f32 f).wf = true) (am : Nat) (wam : (Lit.float .f32 am).wf = true) (w : World) :
    Calls Try.prog 14 #[.agg #[.float .f32 S.d, .float .f32 S.r, .float .f32 S.b, .float .f32 S.g], .float .f32 t, .float .f32 f, .float .f32 am] w fun e w' => e = .returned (.bool true) ∧ Below w.heap.size w w' := by
  skip
  go_enter Try.func14, Try.ntmps14
  go_wp2_with fail
  refine (toSn_any S _).mono ?_
  rintro e w0 ⟨rfl, b0⟩
  have B0 : Hid (Below w.heap.size w w0) := b_then ((b_alloc (Below.refl _ _) _)) b0
  have l0 := AtLSn.on (AtLSn.new w S) (by rfl) b0
  clear b0
  go_wp2_with fail
  refine (specHours_any S t f am _).mono ?_
  rintro e w1 ⟨rfl, b1⟩
  have B1 : Hid (Below w.heap.size w w1) := b_then (B0.out) b1
  have l1 := AtLSn.on l0 (by rfl) b1
  clear b1 l0
  obtain ⟨c0, c1, c2, c3⟩ := l1.cells
  clear l1
  go_wp2_with fail
  refine (toSn_any S _).mono ?_
  rintro e w2 ⟨rfl, b2⟩
  have B2 : Hid (Below w.heap.size w w2) := b_then (B1.out) b2
  clear b2
  go_wp2_with fail
  refine (implHours_any S t f am _).mono ?_
  rintro e w3 ⟨rfl, b3⟩
  have B3 : Hid (Below w.heap.size w w3) := b_then (B2.out) b3
  clear b3
  go_wp2
  go_ret
  exact ⟨rfl, B3.out⟩
end Go.Proofs.Ytagjkagfnfonpaa
