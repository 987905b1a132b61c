/-
  BestFeed: the model's side.
-/
import Derived.Test.YtjkgiknklkfipaaBfa
import Derived.Deep.DeepCutAuto
namespace Go.Proofs.Ytjkgiknklkfipaa
open Go.RowKit Go.ChangeShapes Go.WideShapes Go.Deep
attribute [local go_sem ↓] Go.wp_at_zero Go.wp_at_succ
set_option linter.unusedVariables false
set_option linter.unusedSimpArgs false
set_option maxRecDepth 100000
theorem bfK_no {S : Sn} {t : Nat} {fs : List Nat} {n : Nat} (h : okS S = false) : bfK S t fs n = 1 := by unfold bfK; rw [h]; rfl
theorem bfK_two {S : Sn} {t : Nat} {fs : List Nat} {n : Nat} (h : okS S = true) (h2 : (psB t && fs.all rtB) = false) : bfK S t fs n = 2 := by unfold bfK; rw [h, h2]; rfl
theorem bfK_three {S : Sn} {t : Nat} {fs : List Nat} {n : Nat} (h : okS S = true) (h2 : (psB t && fs.all rtB) = true) (h3 : 60 < n) : bfK S t fs n = 3 := by unfold bfK; rw [h, h2]; simp [h3]
theorem bfK_six {S : Sn} {t : Nat} {fs : List Nat} {n : Nat} (h : okS S = true) (h2 : (psB t && fs.all rtB) = true) (h4 : n = 0) : bfK S t fs n = 6 := by unfold bfK; rw [h, h2]; simp [h4]
theorem bfK_zero {S : Sn} {t : Nat} {fs : List Nat} {n : Nat} (h : okS S = true) (h2 : (psB t && fs.all rtB) = true) (h3 : ¬ 60 < n) (h4 : ¬ n = 0) : bfK S t fs n = 0 := by unfold bfK; rw [h, h2]; simp [h3, h4]
theorem rbf_no {S : Sn} {t : Nat} {fs : List Nat} {n : Nat} {w w' : World} {K : Int} (h : bfK S t fs n = K) (h0 : ¬ K = 0) (b : Below w.heap.size w w') : RBf (bfI S t fs n) (bfF S t fs n) (bfK S t fs n) w (.returned (.tuple #[.int .i64 0, .float .f32 0, .int .i64 K])) w' := by
  unfold bfI bfF
  rw [h, if_neg h0, if_neg h0]
  exact ⟨0, rfl, cn_lit 0, b⟩
theorem rbf_yes {S : Sn} {t : Nat} {fs : List Nat} {n m : Nat} {w w' : World} (h : bfK S t fs n = 0) (hm : CN m (bfP S t fs n).2) (b : Below w.heap.size w w') : RBf (bfI S t fs n) (bfF S t fs n) (bfK S t fs n) w (.returned (.tuple #[.int .i64 ((bfP S t fs n).1 : Int), .float .f32 m, .int .i64 0])) w' := by
  unfold bfI bfF
  rw [h, if_pos rfl, if_pos rfl]
  exact ⟨m, rfl, hm, b⟩
theorem take_all {fs : List Nat} {p : Nat → Bool} {k f : Nat} (h : fs[k]? = some f) : (fs.take (k + 1)).all p = ((fs.take k).all p && p f) := by
  rw [List.take_add_one, h]
  simp [List.all_append]
set_option maxHeartbeats 8000000 in
theorem specBestFeed_any (S : Sn) (t : Nat) (A : Option Addr) (n c : Nat) (fs : List Nat) (w : World) (hl : fs.length = n) (hn : n ≤ 1048576) (hT : Fo w w.heap.size A fs) :
    Calls Try.prog 26 #[.agg #[.float .f32 S.d, .float .f32 S.r, .float .f32 S.b, .float .f32 S.g], .float .f32 t, .slice A n c] w (RBf (bfI S t fs n) (bfF S t fs n) (bfK S t fs n) w) := by
  have hb1 : Below w.heap.size w (w.alloc (.cells #[.float .f32 S.d, .float .f32 S.r, .float .f32 S.b, .float .f32 S.g] 42)) := b_alloc (Below.refl _ _) _
  have hO := fun w => l04Ok_any S w
  have hP := fun w => l03Amount_any t w
  have HT := Lib.hid hT; have Hl := Lib.hid hl
  have k0 : Blk (w.alloc (.cells #[.float .f32 S.d, .float .f32 S.r, .float .f32 S.b, .float .f32 S.g] 42)) w.heap.size #[.float .f32 S.d, .float .f32 S.r, .float .f32 S.b, .float .f32 S.g] 42 := Blk.new _ _ _
  have K0 := Lib.hid k0; have Bw := Lib.hid hb1
  have c0 := k0.cell 0; have c1 := k0.cell 1; have c2 := k0.cell 2; have c3 := k0.cell 3
  simp at c0 c1 c2 c3
  clear hT hl k0 hb1
  rcases Bool.eq_false_or_eq_true (okS S) with ho | ho
  rotate_left
  · rw [ho] at hO
    have HO := Lib.hid hO
    have HK := Lib.hid (fun w' b => rbf_no (S := S) (t := t) (fs := fs) (n := n) (w := w) (w' := w') (bfK_no ho) (by decide) b)
    clear hO ho hP
    go_enter Try.func26, Try.ntmps26
    go_wp2_with (first | (go_at_call 66; refine (HO.out _).mono ?_; rintro e w1 ⟨rfl, b1⟩; have B1 : Hid (Below w.heap.size w w1) := b_then Bw.out b1))
    exact bodyPost_ret (ret_3 Try.results26) rfl (HK.out _ B1.out)
  · rw [ho] at hO
    have HO := Lib.hid hO; have HOk := Lib.hid ho
    obtain ⟨tp, hp⟩ : ∃ tp, psB t = tp := ⟨_, rfl⟩
    rw [hp] at hP
    have HP := Lib.hid hP; have Hp := Lib.hid hp
    clear hO ho hP hp
    go_enter Try.func26, Try.ntmps26
    go_wp2_with (first | (go_at_call 66; refine (HO.out _).mono ?_; rintro e w1 ⟨rfl, b1⟩; have B1 : Hid (Below w.heap.size w w1) := b_then Bw.out b1; have K1 := Lib.hid (Blk.on K0.out (by rfl) b1); clear b1 c0 c1 c2 c3) | (go_at_call 67; refine (HP.out _).mono ?_; rintro e w2 ⟨rfl, rfl⟩))
    go_loopw [9, 10] (fun v9 v10 wr => ∃ (k : Nat) (b : Bool), k ≤ n ∧ v10 = .int .i64 k ∧ v9 = .bool b ∧ Hid (b = (tp && (fs.take k).all rtB)) ∧ Hid (Blk wr w.heap.size #[.float .f32 S.d, .float .f32 S.r, .float .f32 S.b, .float .f32 S.g] 42) ∧ Hid (Below w.heap.size w wr)) (fun _ v10 _ => n - (intOf v10).toNat)
    case atStart => exact ⟨0, tp, Nat.zero_le _, rfl, rfl, Lib.hid (by simp), K1, B1⟩
    case round =>
      obtain ⟨k, b, hk, rfl, rfl, HB, KK, BB⟩ := hrel
      by_cases hlt : k < n
      · have hkl : k < fs.length := by have := Hl.out; omega
        obtain ⟨bb, off, rfl, hbs, hc⟩ := HT.out (by omega)
        obtain ⟨f, hf⟩ : ∃ f, fs[k]? = some f := ⟨_, List.getElem?_eq_getElem hkl⟩
        have e0 := (World.cell?_of_block (a := ⟨bb, off + k, none⟩) (BB.out.block bb hbs)).trans (hc k f hf)
        have HTA := Lib.hid (take_all (p := rtB) hf)
        have hQ := fun w => l04Rate_any f w
        obtain ⟨tf, htf⟩ : ∃ b, rtB f = b := ⟨_, rfl⟩
        rw [htf] at hQ HTA
        have HQ := Lib.hid hQ
        have u1 : (0 : Int) ≤ (k : Int) := by omega
        have u2 : (k : Int) < (n : Int) := by omega
        clear hkl hc hf hbs hQ htf
        cases b
        · go_wp2
          go_roundw
          case rel => exact ⟨k + 1, false, by omega, by go_num, rfl, Lib.hid (by rw [HTA.out, ← Bool.and_assoc, ← HB.out]; rfl), KK, BB⟩
          case measure => simp [intOf]; omega
        · go_wp2_with (go_at_call 68; refine (HQ.out _).mono ?_; rintro e w3 ⟨rfl, rfl⟩)
          go_roundw
          case rel => exact ⟨k + 1, tf, by omega, by go_num, rfl, Lib.hid (by rw [HTA.out, ← Bool.and_assoc, ← HB.out]; rfl), KK, BB⟩
          case measure => simp [intOf]; omega
      · obtain rfl : k = n := by omega
        have hB : b = (tp && fs.all rtB) := by
          have := HB.out
          rwa [List.take_of_length_le (by rw [Hl.out]; exact Nat.le_refl _)] at this
        have HB2 := Lib.hid (show (psB t && fs.all rtB) = b by rw [Hp.out, hB])
        clear HB hB
        cases b
        · have HK := Lib.hid (fun w' b => rbf_no (S := S) (t := t) (fs := fs) (n := k) (w := w) (w' := w') (bfK_two HOk.out HB2.out) (by decide) b)
          go_wp2
          exact bodyPost_ret (ret_3 Try.results26) rfl (HK.out _ BB.out)
        · by_cases h60 : 60 < k
          · have HK := Lib.hid (fun w' b => rbf_no (S := S) (t := t) (fs := fs) (n := k) (w := w) (w' := w') (bfK_three HOk.out HB2.out h60) (by decide) b)
            have h61 : 60 < (k : Int) := by omega
            go_wp2
            exact bodyPost_ret (ret_3 Try.results26) rfl (HK.out _ BB.out)
          · have h61 : ¬ 60 < (k : Int) := by omega
            by_cases hk0 : k = 0
            · have HK := Lib.hid (fun w' b => rbf_no (S := S) (t := t) (fs := fs) (n := k) (w := w) (w' := w') (bfK_six HOk.out HB2.out hk0) (by decide) b)
              subst hk0
              go_wp2
              exact bodyPost_ret (ret_3 Try.results26) rfl (HK.out _ BB.out)
            · have HK := Lib.hid (fun w' m hm b => rbf_yes (S := S) (t := t) (fs := fs) (n := k) (w := w) (w' := w') (m := m) (bfK_zero HOk.out HB2.out h60 hk0) hm b)
              have nn0 : ((k : Int) == 0) = false := by rw [beq_eq_false_iff_ne]; omega
              have HY := Lib.hid (show ∀ k, k = 0 ∨ oGt (hourF S t (fs.getD k 0)) (bfP S t fs k).2 = true → bfP S t fs (k + 1) = (k, hourF S t (fs.getD k 0)) from fun k h => bfP_yes h)
              have HN := Lib.hid (show ∀ k, ¬ k = 0 → oGt (hourF S t (fs.getD k 0)) (bfP S t fs k).2 = false → bfP S t fs (k + 1) = bfP S t fs k from fun k h0 h => bfP_no h0 h)
              obtain ⟨bb, off, rfl, hbs, hc⟩ := HT.out (by have := Hl.out; omega)
              have HC := Lib.hid hc; have HBS := Lib.hid hbs
              have hpos : 0 < fs.length := by have := Hl.out; omega
              obtain ⟨f, hf⟩ : ∃ f, fs[0]? = some f := ⟨_, List.getElem?_eq_getElem hpos⟩
              have e0 := (World.cell?_of_block (a := ⟨bb, off + 0, none⟩) (BB.out.block bb hbs)).trans (hc 0 f hf)
              have HGD := Lib.hid (show fs.getD 0 0 = f by rw [List.getD_eq_getElem?_getD, hf]; rfl)
              simp only [Nat.add_zero] at e0
              have hkn : 0 < k := by omega
              have k0 := KK.out
              have c0 := k0.cell 0; have c1 := k0.cell 1; have c2 := k0.cell 2; have c3 := k0.cell 3
              simp at c0 c1 c2 c3
              have hl0 : w.heap.size < wr.heap.size := k0.lt
              have hbz : bb < wr.heap.size := Nat.lt_of_lt_of_le hbs BB.out.size
              clear k0 hpos hf hc hbs
              go_upto_region 15 with fail
              go_cut [12, 13] (fun s12 s13 wx => ∃ q r : Nat, s12 = .pointer (some ⟨q, 0, none⟩) ∧ s13 = .float .f32 r ∧ CN r (hourF S t f) ∧ Below wr.heap.size wr wx)
              case first =>
                go_region_law (first | (go_simp; go_at_call 56; refine (specHour_any S t f _).mono ?_; rintro e w4 ⟨T1, x, rfl, hT, hx, b4⟩; have HX1 := Lib.hid hx; clear hT hx; (try (have y1 : Blk w4 wr.heap.size #[.float .f32 0, .float .f32 0, .float .f32 0, .float .f32 0] 42 := Blk.on (Blk.new wr _ _) (by rfl) b4; have d0 := y1.cell 0; have d1 := y1.cell 1; have d2 := y1.cell 2; have d3 := y1.cell 3; simp at d0 d1 d2 d3; have y0 := y1.frozen 0; have y1' := y1.frozen 1; have y2 := y1.frozen 2; have y3 := y1.frozen 3; have ly := y1.lt; clear y1)); dsimp only))
                all_goals
                  go_wp2_with fail; go_meet; have hbw : Below wr.heap.size wr w4 := (by repeat (first | with_reducible exact Below.refl wr.heap.size wr | refine b_then ?_ (by assumption) | refine b_drew ?_ | refine b_alloc ?_ _ | refine b_drewN ?_ _)); clear b4; first | exact ⟨_, x, rfl, rfl, HX1.out, b_set (b_set (b_set (b_set hbw (Nat.le_refl _) _ _) (Nat.le_refl _) _ _) (Nat.le_refl _) _ _) (Nat.le_refl _) _ _⟩ | exact ⟨_, x, rfl, rfl, HX1.out, b_alloc hbw _⟩
              case rest =>
                obtain ⟨q12, r, rfl, rfl, hr, hbc⟩ := hcut
                have B3 := Lib.hid (b_then BB.out hbc)
                have K3 := Lib.hid (Blk.on KK.out (by rfl) hbc)
                have HR := Lib.hid (show CN r (hourF S t (fs.getD 0 0)) by rw [HGD.out]; exact hr)
                have HS := Lib.hid (HY.out 0 (Or.inl rfl))
                clear c0 c1 c2 c3 e0 hr hbc HGD
                go_wp2
                go_loopw [11, 13, 14, 15, 16] (fun v11 v13 v14 v15 v16 wr => ∃ j m : Nat, 1 ≤ j ∧ j ≤ k ∧ v14 = .int .i64 j ∧ v11 = .int .i64 ((bfP S t fs j).1 : Int) ∧ v13 = .float .f32 m ∧ Hid (CN m (bfP S t fs j).2) ∧ Hid (Blk wr w.heap.size #[.float .f32 S.d, .float .f32 S.r, .float .f32 S.b, .float .f32 S.g] 42) ∧ Hid (Below w.heap.size w wr)) (fun _ _ v14 _ _ _ => k - (intOf v14).toNat)
                case atStart => exact ⟨1, r, Nat.le_refl _, by omega, rfl, by rw [HS.out]; rfl, rfl, Lib.hid (by rw [HS.out]; exact HR.out), K3, B3⟩
                case round =>
                  obtain ⟨j, m, hj1, hj, rfl, rfl, rfl, HM, KK, BB⟩ := hrel
                  by_cases hlt : j < k
                  · have hkl : j < fs.length := by have := Hl.out; omega
                    obtain ⟨f, hf⟩ : ∃ f, fs[j]? = some f := ⟨_, List.getElem?_eq_getElem hkl⟩
                    have e0 := (World.cell?_of_block (a := ⟨bb, off + j, none⟩) (BB.out.block bb HBS.out)).trans (HC.out j f hf)
                    have HGT := Lib.hid (show ∀ r, CN r (hourF S t f) → oGt r m = oGt (hourF S t (fs.getD j 0)) (bfP S t fs j).2 from fun r hr => bf_gt hf hr HM.out)
                    have HY0 := Lib.hid (HY.out j); have HN0 := Lib.hid (HN.out j)
                    have HGD := Lib.hid (show fs.getD j 0 = f by rw [List.getD_eq_getElem?_getD, hf]; rfl)
                    have u1 : (0 : Int) ≤ (j : Int) := by omega
                    have u2 : (j : Int) < (k : Int) := by omega
                    clear hkl hf
                    obtain ⟨z, hz⟩ : ∃ z, bfP S t fs j = z := ⟨_, rfl⟩
                    rw [hz] at HM HGT HY0 HN0 ⊢
                    clear hz
                    have k0 := KK.out
                    have c0 := k0.cell 0; have c1 := k0.cell 1; have c2 := k0.cell 2; have c3 := k0.cell 3
                    simp at c0 c1 c2 c3
                    have hl1 : w.heap.size < wr.heap.size := k0.lt
                    have hbz : bb < wr.heap.size := Nat.lt_of_lt_of_le HBS.out BB.out.size
                    clear k0
                    go_upto_region 19 with fail
                    go_cut [15, 16] (fun s12 s13 wx => ∃ q r : Nat, s12 = .pointer (some ⟨q, 0, none⟩) ∧ s13 = .float .f32 r ∧ CN r (hourF S t f) ∧ Below wr.heap.size wr wx)
                    case first =>
                      go_region_law (first | (go_simp; go_at_call 56; refine (specHour_any S t f _).mono ?_; rintro e w4 ⟨T1, x, rfl, hT, hx, b4⟩; have HX1 := Lib.hid hx; clear hT hx; (try (have y1 : Blk w4 wr.heap.size #[.float .f32 0, .float .f32 0, .float .f32 0, .float .f32 0] 42 := Blk.on (Blk.new wr _ _) (by rfl) b4; have d0 := y1.cell 0; have d1 := y1.cell 1; have d2 := y1.cell 2; have d3 := y1.cell 3; simp at d0 d1 d2 d3; have y0 := y1.frozen 0; have y1' := y1.frozen 1; have y2 := y1.frozen 2; have y3 := y1.frozen 3; have ly := y1.lt; clear y1)); dsimp only))
                      all_goals
                        go_wp2_with fail; go_meet; have hbw : Below wr.heap.size wr w4 := (by repeat (first | with_reducible exact Below.refl wr.heap.size wr | refine b_then ?_ (by assumption) | refine b_drew ?_ | refine b_alloc ?_ _ | refine b_drewN ?_ _)); clear b4; first | exact ⟨_, x, rfl, rfl, HX1.out, b_set (b_set (b_set (b_set hbw (Nat.le_refl _) _ _) (Nat.le_refl _) _ _) (Nat.le_refl _) _ _) (Nat.le_refl _) _ _⟩ | exact ⟨_, x, rfl, rfl, HX1.out, b_alloc hbw _⟩
                    case rest =>
                      obtain ⟨q15, r, rfl, rfl, hr, hbc⟩ := hcut
                      have B3 := Lib.hid (b_then BB.out hbc)
                      have K3 := Lib.hid (Blk.on KK.out (by rfl) hbc)
                      have HGr := Lib.hid (HGT.out r hr)
                      have HR := Lib.hid (show CN r (hourF S t (fs.getD j 0)) by rw [HGD.out]; exact hr)
                      clear c0 c1 c2 c3 e0 hr hbc
                      obtain ⟨tb, htb⟩ : ∃ b, oGt r m = b := ⟨_, rfl⟩
                      cases tb
                      · obtain ⟨g1, g2⟩ := (tf_gt htb).2 rfl
                        have HS := Lib.hid (HN0.out (by omega) (HGr.out.symm.trans htb))
                        clear htb
                        go_wp2
                        go_roundw
                        case rel => exact ⟨j + 1, m, by omega, by omega, by go_num, by rw [HS.out], rfl, Lib.hid (by rw [HS.out]; exact HM.out), K3, B3⟩
                        case measure => simp [intOf]; omega
                      · have g1 := (tf_gt htb).1 rfl
                        have HS := Lib.hid (HY0.out (Or.inr (HGr.out.symm.trans htb)))
                        clear htb
                        go_wp2
                        go_roundw
                        case rel => exact ⟨j + 1, r, by omega, by omega, by go_num, by rw [HS.out], rfl, Lib.hid (by rw [HS.out]; exact HR.out), K3, B3⟩
                        case measure => simp [intOf]; omega
                  · obtain rfl : j = k := by omega
                    go_wp2
                    exact bodyPost_ret (ret_3 Try.results26) rfl (HK.out _ _ HM.out BB.out)
end Go.Proofs.Ytjkgiknklkfipaa
