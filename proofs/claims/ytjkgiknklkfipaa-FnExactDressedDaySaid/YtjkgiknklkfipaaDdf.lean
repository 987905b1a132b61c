/-
  DressedDay: the model's side.
-/
import Derived.Test.YtjkgiknklkfipaaDde
import Derived.Deep.DeepCutAuto
namespace Go.Proofs.Ytjkgiknklkfipaa
open Go.RowKit Go.ChangeShapes Go.WideShapes Go.Deep
attribute [local go_sem ↓] Go.wp_at_zero Go.wp_at_succ
set_option linter.unusedVariables false
set_option linter.unusedSimpArgs false
set_option maxRecDepth 100000
set_option maxHeartbeats 8000000 in
theorem specDressedDay_any (S : Sn) (A : Option Addr) (n c : Nat) (ts : List Nat) (f l : Nat) (w : World) (hl : ts.length = n) (hn : n ≤ 1048576) (hT : Fo w w.heap.size A ts) :
    Calls Try.prog 18 #[.agg #[.float .f32 S.d, .float .f32 S.r, .float .f32 S.b, .float .f32 S.g], .slice A n c, .float .f32 f, .float .f32 l] w (RDdC (ddyS (codeDay S ts n ((ts.all psB && rtB f) && partB l)) S ts f l n) (ddyL (codeDay S ts n ((ts.all psB && rtB f) && partB l)) S ts f l) (ddyC (codeDay S ts n ((ts.all psB && rtB f) && partB l)) S ts f l n) (codeDay S ts n ((ts.all psB && rtB f) && partB l)) w) := by
  obtain ⟨i0, hi, hz0, hz1, hz2⟩ := info_parts infoF32
  obtain ⟨tl, htl⟩ : ∃ tl, partB l = tl := ⟨_, rfl⟩
  have hR := fun w => l01Part_any l w
  rw [htl] at hR
  rw [htl]
  have HR := Lib.hid hR
  clear hR htl
  have ecm : (rtB f && (tl && ts.all psB)) = ((ts.all psB && rtB f) && tl) := by cases rtB f <;> cases ts.all psB <;> cases tl <;> rfl
  obtain ⟨K, hK⟩ : ∃ K, codeDay S ts n ((ts.all psB && rtB f) && tl) = K := ⟨_, rfl⟩
  have hE := fun (w1 : World) (hb : Below w.heap.size w w1) => l04Day_any S A n c ts f tl w1 hl hn (hT.keep hb)
  rw [ecm, hK] at hE
  rw [hK]
  obtain ⟨CS, hCS⟩ : ∃ C, ddyS K S ts f l n = C := ⟨_, rfl⟩
  obtain ⟨CL, hCL⟩ : ∃ C, ddyL K S ts f l = C := ⟨_, rfl⟩
  obtain ⟨CC, hCC⟩ : ∃ C, ddyC K S ts f l n = C := ⟨_, rfl⟩
  rw [hCS, hCL, hCC]
  have S0 := Lib.hid (fun h : K = 0 => show CS = ddK S ts f l n ∧ CL = ddL S ts f l ∧ CC = (ddC S ts f l n : Int) by rw [← hCS, ← hCL, ← hCC, h]; exact ⟨rfl, rfl, rfl⟩)
  have S1 := Lib.hid (fun h : K ≠ 0 => show CS = sn0 ∧ CL = [] ∧ CC = 0 by rw [← hCS, ← hCL, ← hCC]; unfold ddyS ddyL ddyC; rw [if_neg h, if_neg h, if_neg h]; exact ⟨rfl, rfl, rfl⟩)
  have HE := Lib.hid hE
  have HK := Lib.hid (codeDay_cases hK)
  have Hl := Lib.hid hl; have HT := Lib.hid hT
  clear hE hK hCS hCL hCC hl hT ecm
  obtain ⟨k0, k1, bw⟩ := box_two w S; have hs0 : w.heap.size < ((w.alloc (.cells #[.float .f32 S.d, .float .f32 S.r, .float .f32 S.b, .float .f32 S.g] 42)).alloc (.cells #[.float .f32 0, .float .f32 0, .float .f32 0, .float .f32 0] 42)).heap.size := k0.lt; have hs1 : w.heap.size + 1 < ((w.alloc (.cells #[.float .f32 S.d, .float .f32 S.r, .float .f32 S.b, .float .f32 S.g] 42)).alloc (.cells #[.float .f32 0, .float .f32 0, .float .f32 0, .float .f32 0] 42)).heap.size := k1.lt; have K0 := Lib.hid k0; have K1 := Lib.hid k1; have Bw := Lib.hid bw; clear bw
  go_enter Try.func18, Try.ntmps18
  go_upto_region 1 with fail
  have hW2 : ((w.alloc (.cells #[.float .f32 S.d, .float .f32 S.r, .float .f32 S.b, .float .f32 S.g] 42)).alloc (.cells #[.float .f32 0, .float .f32 0, .float .f32 0, .float .f32 0] 42)).heap.size = w.heap.size + 1 + 1 := by simp
  have HW2 := Lib.hid hW2; clear hW2
  generalize ((w.alloc (.cells #[.float .f32 S.d, .float .f32 S.r, .float .f32 S.b, .float .f32 S.g] 42)).alloc (.cells #[.float .f32 0, .float .f32 0, .float .f32 0, .float .f32 0] 42)) = W at *
  have c0 := k0.cell 0; have c1 := k0.cell 1; have c2 := k0.cell 2; have c3 := k0.cell 3; simp at c0 c1 c2 c3; have z0 := k0.frozen 3; have d0 := k1.cell 0; have d1 := k1.cell 1; have d2 := k1.cell 2; have d3 := k1.cell 3; simp at d0 d1 d2 d3; have y0 := k1.frozen 0; have y1 := k1.frozen 1; have y2 := k1.frozen 2; have y3 := k1.frozen 3
  clear k0 k1
  have q0 : w.heap.size ≤ w.heap.size := Nat.le_refl _
  have q1 : w.heap.size ≤ w.heap.size + 1 := by omega
  have Ho : Hid ((W.alloc (.cells #[] 24)).ownsRow W.heap.size 24 1 (.slice (some ⟨W.heap.size, 0, none⟩) 0 0) 0 (([] : List Nat).map (Value.float .f32))) := own_empty W W.heap.size 24 1 (Nat.le_refl _)
  have BW1 : Hid (Below w.heap.size w (W.alloc (.cells #[] 24))) := b_alloc Bw.out _
  have c0' := c0; have c1' := c1; have c2' := c2; have c3' := c3
  go_upto_region 2 with fail
  go_cut [13] (fun s13 wx => s13 = .int .i64 K ∧ Below (W.alloc (.cells #[] 24)).heap.size (W.alloc (.cells #[] 24)) wx)
  case first =>
    go_region_law (first | (go_simp; go_at_call 55; refine (HR.out _).mono ?_; rintro e w1 ⟨rfl, rfl⟩; dsimp only) | (go_simp; go_at_call 54; refine (HE.out _ (by (repeat (first | exact BW1.out | refine b_drewN ?_ _ | refine b_drew ?_)))).mono ?_; rintro e w1 ⟨rfl, b1⟩; dsimp only))
    all_goals
      go_wp2_with fail
      go_meet
      refine ⟨rfl, ?_⟩
      repeat (first | exact Below.refl _ _ | refine b_drewN ?_ _ | refine b_drew ?_ | refine b_then ?_ (by assumption))
  case rest =>
  obtain ⟨rfl, b2⟩ := hcut
  generalize wc = w2 at *
  clear c0' c1' c2' c3'
  have M0a := Lib.hid (Blk.on (K0.out.push _) (by rfl) b2)
  have k1 := Blk.on (K1.out.push _) (by rfl) b2
  have O2 : Hid (w2.ownsRow W.heap.size 24 1 (.slice (some ⟨W.heap.size, 0, none⟩) 0 0) 0 (([] : List Nat).map (Value.float .f32))) := own_below Ho.out b2
  clear c0 c1 c2 c3 z0 d0 d1 d2 d3 y0 y1 y2 y3
  have M1a := Lib.hid k1; have hsa := k1.lt
  have BC : Hid (Below w.heap.size w w2) := b_then BW1.out b2
  have hw2 : W.heap.size ≤ w2.heap.size := by have := b2.size; simp at this; omega
  rcases HK.out with rfl | rfl | rfl | rfl
  · obtain ⟨es, el, ec⟩ := S0.out (by trivial)
    have ES := Lib.hid es; have EL := Lib.hid el; have EC := Lib.hid ec
    clear es el ec S0 S1 b2 k1
    go_wp2
    go_loopw [12, 14, 15, 16, 17] (fun v m i v12 v13 wr => ∃ (j cnt : Nat) (fs : List Nat) (T : Sn), j ≤ n ∧ i = .int .i64 j ∧ m = .int .i64 cnt ∧ cnt ≤ j ∧ Hid (cnt = ddC S ts f l j) ∧ Hid (wr.ownsRow W.heap.size 24 1 v j (fs.map (Value.float .f32))) ∧ Hid (fs.map cn = (ddL S ts f l).take j) ∧ Hid (fs.length = j) ∧ Hid (cnS T = ddK S ts f l j) ∧ Hid (Blk wr w.heap.size #[.float .f32 T.d, .float .f32 T.r, .float .f32 T.b, .float .f32 T.g] 42) ∧ Hid (Blk wr (w.heap.size + 1) #[.float .f32 0, .float .f32 0, .float .f32 0, .float .f32 0] 42) ∧ Hid (Below w.heap.size w wr) ∧ W.heap.size ≤ wr.heap.size) (fun _ _ i _ _ _ => n - (intOf i).toNat)
    case atStart => exact ⟨0, 0, [], S, Nat.zero_le _, rfl, rfl, Nat.le_refl _, rfl, O2, by show _ = _; simp, rfl, rfl, M0a, M1a, BC, hw2⟩
    case round =>
      obtain ⟨j, cnt, fs, T, hj, rfl, rfl, hcj, Hcnt, Hown, Hcs, Hfl, HTk, KK0, KK1, Hbb, hws⟩ := hrel
      have hW2 := HW2.out
      by_cases hlt : j < n
      · have hkl : j < ts.length := by have := Hl.out; omega
        obtain ⟨b, off, rfl, hbs, hc⟩ := HT.out (by omega)
        obtain ⟨t, ht⟩ : ∃ t, ts[j]? = some t := ⟨_, List.getElem?_eq_getElem hkl⟩
        have e0 := (World.cell?_of_block (a := ⟨b, off + j, none⟩) (Hbb.out.block b hbs)).trans (hc j t ht)
        have hbz : b < wr.heap.size := Nat.lt_of_lt_of_le hbs Hbb.out.size
        have HTt := Lib.hid ht
        have HAt := Lib.hid (ddL_at (S := S) (f := f) (l := l) hkl)
        have u3 : (0 : Int) ≤ (cnt : Int) := by omega
        have u4 : (cnt : Int) ≤ 1048576 := by omega
        have u1 : (0 : Int) ≤ (j : Int) := by omega
        have u2 : (j : Int) < (n : Int) := by omega
        have HWW := Lib.hid hW2
        have Hba := Lib.hid (own_base Hown.out)
        clear hc hkl ht hW2
        have k0 := KK0.out
        have c0 := k0.cell 0; have c1 := k0.cell 1; have c2 := k0.cell 2; have c3 := k0.cell 3; simp at c0 c1 c2 c3; have z0 := k0.frozen 0; have z1 := k0.frozen 1; have z2 := k0.frozen 2; have z3 := k0.frozen 3; have l0 := k0.lt
        clear k0
        obtain ⟨b5, hb5⟩ : ∃ b, oLt T.g l = b := ⟨_, rfl⟩
        cases b5
        rotate_left
        · have t1 := (tf_lt hb5).1 rfl
          have NX := Lib.hid (dd_next HTk.out HTt.out (T' := ⟨T.d, T.r, T.b, 1065353216⟩) (x := 0) (l := l) (f := f) (by unfold ddS; rw [hb5]; rfl) (by unfold ddF; rw [hb5]; rfl))
          have NC : Hid (cnt + 1 = ddC S ts f l (j + 1)) := Lib.hid (by rw [dd_cnt HTk.out, Hcnt.out]; unfold ddO; rw [hb5]; rfl)
          have hww := HWW.out
          have hq0 : w.heap.size < W.heap.size := by omega
          have hq1 : w.heap.size + 1 ≠ w.heap.size := by omega
          clear hww hb5
          go_wp2_with (at_builtin; refine wpList_append_own _ rfl _ _ 41 rfl W.heap.size 24 i0 _ 1 4 Try.underlying41 hi hz0 hz1 hz2 rfl (by omega) _ j _ rfl ((own_setO Hown.out hq0 3 _).alloc _) _ 1 _ [_] rfl rfl (World.news_of_block (cs := #[_]) (new_at (by simp) _)) (by intro u hu; simp at hu; subst hu; rfl) (by unfold maxLen; omega) (by omega) (by simp; omega) ?_; intro v9 w9 hown9 hgrow9 hif9)
          all_goals
            have hr0 : ∀ q, q < W.heap.size → some q ≠ _ := fun q hq h => by have := (Hba.out q h.symm).1; omega
            have KA9 := Lib.hid ((KK0.out.set 3 (.float .f32 1065353216)).push _ |>.grown hgrow9 (hr0 _ hq0))
            have KB9 := Lib.hid ((KK1.out.setO hq1 3 (.float .f32 1065353216)).push _ |>.grown hgrow9 (hr0 _ (by have := HWW.out; omega)))
            have B9 : Hid (Below w.heap.size w w9) := (b_alloc (b_set Hbb.out (Nat.le_refl _) _ _) _).grown hgrow9 (by simp; omega) (fun k h => by have := (Hba.out k h).1; omega)
            have O9 : Hid (w9.ownsRow W.heap.size 24 1 v9 (j + 1) ((fs ++ [0]).map (Value.float .f32))) := by
              rw [List.map_append]
              exact hown9
            have e9 : Hid ((fs ++ [0]).map cn = (ddL S ts f l).take (j + 1)) := takeD_snoc Hcs.out (by rw [HAt.out, NX.out.2])
            have l9 : Hid ((fs ++ [0]).length = j + 1) := by show _ = _; rw [List.length_append, Hfl.out]; rfl
            have s9 : W.heap.size ≤ w9.heap.size := by have := hgrow9.size; simp at this; omega
            have TK9 := Lib.hid NX.out.1
            clear hown9 hgrow9 hif9 hr0 c0 c1 c2 c3 z0 z1 z2 z3 t1
            go_wp2
            go_roundw
            case rel => exact ⟨j + 1, cnt + 1, fs ++ [0], ⟨T.d, T.r, T.b, 1065353216⟩, by omega, by go_num, by go_num, by omega, NC, O9, e9, l9, TK9, KA9, KB9, B9, s9⟩
            case measure => simp [intOf]; omega
        have t1 := (tf_lt hb5).2 rfl
        have E1 := Lib.hid (show ddS T t f l = hourS T t f ∧ ddF T t f l = hourF T t f from ⟨by unfold ddS; rw [hb5]; rfl, by unfold ddF; rw [hb5]; rfl⟩)
        have NC : Hid (cnt = ddC S ts f l (j + 1)) := Lib.hid (by rw [dd_cnt HTk.out, Hcnt.out]; unfold ddO; rw [hb5]; rfl)
        clear hb5
        go_upto_region 13 with fail
        go_cut [16, 17] (fun s12 s13 wx => ∃ q T1 x, s12 = .pointer (some ⟨q, 0, none⟩) ∧ s13 = .float .f32 x ∧ SnIs T1 (hourS T t f) ∧ CN x (hourF T t f) ∧ Blk wx q #[.float .f32 T1.d, .float .f32 T1.r, .float .f32 T1.b, .float .f32 T1.g] 42 ∧ wr.heap.size ≤ q ∧ Below wr.heap.size wr wx)
        case first =>
          go_region_law (go_simp; go_at_call 56; refine (specHour_any T t f _).mono ?_; rintro e w4 ⟨T1, x, rfl, hT, hx, b4⟩; have HT1 := Lib.hid hT; have HX1 := Lib.hid hx; clear hT hx; (try (have y1 : Blk w4 wr.heap.size #[.float .f32 0, .float .f32 0, .float .f32 0, .float .f32 0] 42 := Blk.on (Blk.new wr _ _) (by rfl) b4; have d0 := y1.cell 0; have d1 := y1.cell 1; have d2 := y1.cell 2; have d3 := y1.cell 3; simp at d0 d1 d2 d3; have y0 := y1.frozen 0; have y1' := y1.frozen 1; have y2 := y1.frozen 2; have y3 := y1.frozen 3; have Y1 := Lib.hid y1; have ly := y1.lt; clear y1)); dsimp only)
          all_goals
            go_wp2_with fail
            go_meet
            have hbw : Below wr.heap.size wr w4 := by
              repeat (first | with_reducible exact Below.refl wr.heap.size wr | refine b_then ?_ (by assumption) | refine b_drew ?_ | refine b_alloc ?_ _ | refine b_drewN ?_ _)
            have hsz4 := hbw.size
            clear b4
            first
              | exact ⟨_, T1, x, rfl, rfl, HT1.out, HX1.out, ((((Y1.out.set 0 _).set 1 _).set 2 _).set 3 _), Nat.le_refl _, b_set (b_set (b_set (b_set hbw (Nat.le_refl _) _ _) (Nat.le_refl _) _ _) (Nat.le_refl _) _ _) (Nat.le_refl _) _ _⟩
              | exact ⟨_, T1, x, rfl, rfl, HT1.out, HX1.out, Blk.new _ _ _, hsz4, b_alloc hbw _⟩
        case rest =>
          obtain ⟨q, T1, x, rfl, rfl, hT, hx, hB, hqq, hbd⟩ := hcut
          have NX := Lib.hid (dd_next HTk.out HTt.out (l := l) (f := f) (by rw [E1.out.1]; exact hT) (by rw [E1.out.2]; exact hx))
          have B3 : Hid (Below w.heap.size w wc) := b_then Hbb.out hbd
          have O3 : Hid (wc.ownsRow W.heap.size 24 1 _ j (fs.map (Value.float .f32))) := own_below Hown.out hbd
          have KA := Lib.hid (Blk.on KK0.out (by rfl) hbd)
          have KB := Lib.hid (Blk.on KK1.out (by rfl) hbd)
          have hw3 : W.heap.size ≤ wc.heap.size := Nat.le_trans hws hbd.size
          clear hT hx c0 c1 c2 c3 z0 z1 z2 z3 l0 e0
          have k0 := KA.out
          have c0 := k0.cell 0; have c1 := k0.cell 1; have c2 := k0.cell 2; have c3 := k0.cell 3; simp at c0 c1 c2 c3; have z0 := k0.frozen 0; have z1 := k0.frozen 1; have z2 := k0.frozen 2; have z3 := k0.frozen 3; have l0 := k0.lt
          clear k0
          have d0 := hB.cell 0; have d1 := hB.cell 1; have d2 := hB.cell 2; have d3 := hB.cell 3
          simp at d0 d1 d2 d3
          have lB := hB.lt
          clear hB hbd
          have hww := HWW.out
          have hq0 : w.heap.size < W.heap.size := by omega
          have hq1 : w.heap.size + 1 ≠ w.heap.size := by omega
          have hqn : q ≠ w.heap.size := by omega
          clear hww
          go_wp2_with (at_builtin; refine wpList_append_own _ rfl _ _ 41 rfl W.heap.size 24 i0 _ 1 4 Try.underlying41 hi hz0 hz1 hz2 rfl (by omega) _ j _ rfl ((own_setO (own_setO (own_setO (own_setO O3.out hq0 0 _) hq0 1 _) hq0 2 _) hq0 3 _).alloc _) _ 1 _ [_] rfl rfl (World.news_of_block (cs := #[_]) (new_at (by simp) _)) (by intro u hu; simp at hu; subst hu; rfl) (by unfold maxLen; omega) (by omega) (by simp; omega) ?_; intro v9 w9 hown9 hgrow9 hif9)
          all_goals
            have hr0 : ∀ q, q < W.heap.size → some q ≠ _ := fun q hq h => by have := (Hba.out q h.symm).1; omega
            have KA9 := Lib.hid (((((KA.out.set 0 _).set 1 _).set 2 _).set 3 _).push _ |>.grown hgrow9 (hr0 _ hq0))
            have KB9 := Lib.hid (((((KB.out.setO hq1 0 _).setO hq1 1 _).setO hq1 2 _).setO hq1 3 _).push _ |>.grown hgrow9 (hr0 _ (by have := HWW.out; omega)))
            have B9 : Hid (Below w.heap.size w w9) := (b_alloc (b_set (b_set (b_set (b_set B3.out (Nat.le_refl _) _ _) (Nat.le_refl _) _ _) (Nat.le_refl _) _ _) (Nat.le_refl _) _ _) _).grown hgrow9 (by simp; omega) (fun k h => by have := (Hba.out k h).1; omega)
            have O9 : Hid (w9.ownsRow W.heap.size 24 1 v9 (j + 1) ((fs ++ [x]).map (Value.float .f32))) := by
              rw [List.map_append]
              exact hown9
            have e9 : Hid ((fs ++ [x]).map cn = (ddL S ts f l).take (j + 1)) := takeD_snoc Hcs.out (by rw [HAt.out, NX.out.2])
            have l9 : Hid ((fs ++ [x]).length = j + 1) := by show _ = _; rw [List.length_append, Hfl.out]; rfl
            have s9 : W.heap.size ≤ w9.heap.size := by have := hgrow9.size; simp at this; omega
            have TK9 := Lib.hid NX.out.1
            clear hown9 hgrow9 hif9 hr0 c0 c1 c2 c3 z0 z1 z2 z3 d0 d1 d2 d3
            go_wp2
            go_roundw
            case rel => exact ⟨j + 1, cnt, fs ++ [x], T1, by omega, by go_num, rfl, by omega, NC, O9, e9, l9, TK9, KA9, KB9, B9, s9⟩
            case measure => simp [intOf]; omega
      · obtain rfl : j = n := by omega
        have hz : fs.map cn = ddL S ts f l := by
          have := Hcs.out
          rwa [List.take_of_length_le (by rw [ddL_len, Hl.out]; exact Nat.le_refl _)] at this
        have Hz := Lib.hid hz; clear hz
        have k0 := KK0.out
        have c0 := k0.cell 0; have c1 := k0.cell 1; have c2 := k0.cell 2; have c3 := k0.cell 3; simp at c0 c1 c2 c3; have z0 := k0.frozen 0; have z1 := k0.frozen 1; have z2 := k0.frozen 2; have z3 := k0.frozen 3; have l0 := k0.lt
        clear k0
        have k1 := KK1.out
        have d0 := k1.cell 0; have d1 := k1.cell 1; have d2 := k1.cell 2; have d3 := k1.cell 3
        simp at d0 d1 d2 d3
        have y0 := k1.frozen 0; have y1 := k1.frozen 1; have y2 := k1.frozen 2; have y3 := k1.frozen 3
        have l1 := k1.lt
        have q3 : w.heap.size + 1 < W.heap.size := by omega
        have Q3 := Lib.hid hW2
        clear k1 hW2
        go_wp2
        refine bodyPost_ret (ret_sn4 (T := T) Try.results18 rfl ((((KK1.out.set 0 _).set 1 _).set 2 _).set 3 _)) rfl ?_
        rw [ES.out, EL.out, EC.out, ← Hcnt.out, ← Hz.out]
        exact ddc_of_row HTk.out (own_more (own_setO (own_setO (own_setO (own_setO Hown.out q3 0 _) q3 1 _) q3 2 _) q3 3 _) (by omega)) (b_set (b_set (b_set (b_set Hbb.out q1 _ _) q1 _ _) q1 _ _) q1 _ _)
  all_goals
    obtain ⟨es, el, ec⟩ := S1.out (by first | trivial | decide)
    have ES := Lib.hid es; have EL := Lib.hid el; have EC := Lib.hid ec
    have d0 := k1.cell 0; have d1 := k1.cell 1; have d2 := k1.cell 2; have d3 := k1.cell 3
    simp at d0 d1 d2 d3
    have y0 := k1.frozen 0; have y1 := k1.frozen 1; have y2 := k1.frozen 2; have y3 := k1.frozen 3
    have q3 : w.heap.size + 1 < W.heap.size := by have := HW2.out; omega
    clear es el ec S0 S1 k1 b2
    go_wp2
    refine bodyPost_ret (ret_sn4 (T := ⟨0, 0, 0, 0⟩) Try.results18 rfl ((((M1a.out.set 0 _).set 1 _).set 2 _).set 3 _)) rfl ?_
    rw [ES.out, EL.out, EC.out]
    exact ddc_of_row (fs := []) is_sn0 (own_more (own_setO (own_setO (own_setO (own_setO O2.out q3 0 _) q3 1 _) q3 2 _) q3 3 _) (by omega)) (b_set (b_set (b_set (b_set BC.out q1 _ _) q1 _ _) q1 _ _) q1 _ _)
end Go.Proofs.Ytjkgiknklkfipaa
