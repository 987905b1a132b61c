/-
  The convergents of a number: the program's list.
-/
import Derived.Test.YtjkgiknklkfipaaCvb
namespace Go.Proofs.Ytjkgiknklkfipaa
open Go.RowKit Go.ChangeShapes Go.WideShapes Go.Deep
attribute [local go_sem ↓] Go.wp_at_zero Go.wp_at_succ
set_option linter.unusedVariables false
set_option linter.unusedSimpArgs false
set_option maxRecDepth 100000







theorem wp_scope_jumps2 {P : Program} {a : Act} {w : World} {Q : Exit → Act → World → Prop} {c rest : Code} (l : Nat) (J : Act → World → Prop) (μ : Act → World → Nat) (hf : findLabel c l = some (Code.skip.seq rest))
    (pass : ∀ a w, J a w → rest.wp P (Exit.jump l (fun a' w' => J a' w' ∧ μ a' w' < μ a w) Q) a w)
    (first : (∀ a w, J a w → rest.wp P (Exit.jump l J Q) a w) → c.wp P (Exit.jump l J Q) a w) : (Code.scope c).wp P Q a w :=
  wp_scope_jumps l J μ hf (first fun a w h => wp_mono (pass a w h) fun e a' w' q => by
    cases e with
    | goto l' => exact ⟨q.1, q.2.1⟩
    | _ => exact q) (fun a w h => wp_seq (wp_skip (pass a w h)))
def cellN (w : World) (s : Nat) : Nat := match w.cell? ⟨s, 1, none⟩ with
  | some v => (intOf v).toNat
  | none => 0
theorem cellN_of {w : World} {s y : Nat} (h : w.cell? ⟨s, 1, none⟩ = some (.int .i64 (y : Int))) : cellN w s = y := by
  unfold cellN
  rw [h]
  simp [intOf]
/-- Where the loop stands. -/
structure CvJ (w wr : World) (N D m : Nat) (R : List Fr) (x y p' q' p q : Nat) (v : Value) (k f : Nat) (ps : List Fr) : Prop where
  hk : f + k = 40
  hy : 0 < y
  i : CvI N D x y p' q' p q
  l : ps ++ cvL f x y p' q' p q m = R
  c : Cv2 w wr (w.heap.size + 1) (w.heap.size + 1 + 1) (w.heap.size + 1 + 1 + 1) p' q' p q v k ps
  F : Blk wr w.heap.size #[.int .i64 (x : Int), .int .i64 (y : Int)] 28

set_option maxHeartbeats 8000000 in
theorem implConv_any (a m : Nat) (ha : a < 4294967296) (h : tgB a = true) (hm : m ≤ 1000000) (w : World) : Calls Try.prog 49 #[.agg #[.int .i64 (exN a : Int), .int .i64 (exD a : Int)], .int .i64 (m : Int)] w (CvR (cvA a m) w) := by
  obtain ⟨i0, hi, hy0, hy1, hy2⟩ := info_parts infoFr
  have hys : (Value.agg #[.int .i64 0, .int .i64 0]).cells.size = 2 := rfl
  have Hi := Lib.hid hi
  have Hy0 := Lib.hid hy0; have Hy1 := Lib.hid hy1; have Hy2 := Lib.hid hy2; have Hys := Lib.hid hys
  obtain ⟨n1, n2, n3⟩ := exN_le ha h
  have hR : cvA a m = cvL 40 (exN a) (exD a) 0 1 1 0 m := rfl
  clear hi hy0 hy1 hy2 hys ha h
  generalize cvA a m = R at *
  generalize exN a = N at *
  generalize exD a = D at *
  have I0 : Hid (CvI N D N D 0 1 1 0) := Lib.hid ⟨by omega, by omega, n1, n2⟩
  have HN := Lib.hid n1; have HD := Lib.hid n2; have HR := Lib.hid hR; have H3 := Lib.hid n3
  clear hR n1 n2 n3
  go_enter Try.func49, Try.ntmps49
  go_wp2_with fail
  refine wp_scope_jumps2 0 (fun a' w' => ∃ (x y p' q' p q k f c : Nat) (A : Option Addr) (ps : List Fr) (u8 u9 u10 u11 u12 u13 u14 u15 u16 u17 u18 u19 u20 u21 u22 u23 u24 u25 u26 u27 u28 u29 u30 u31 u32 u33 u34 u35 u36 u37 u38 u39 u40 u41 u42 u43 u44 u45 u46 u47 u48 u49 u50 u51 u52 u53 u54 u55 u56 u57 u58 u59 u60 u61 : Value), Hid (CvJ w w' N D m R x y p' q' p q (.slice A k c) k f ps) ∧ a' = { tmps := #[.agg #[.int .i64 (N : Int), .int .i64 (D : Int)], .int .i64 (m : Int), .pointer (some ⟨w.heap.size, 0, none⟩), undef, .slice none 0 0, .slice A k c, .pointer (some ⟨w.heap.size + 1, 0, none⟩), .pointer (some ⟨w.heap.size + 1 + 1, 0, none⟩), u8, u9, u10, u11, u12, u13, u14, u15, u16, u17, u18, u19, u20, u21, u22, u23, u24, u25, u26, u27, u28, u29, u30, u31, u32, u33, u34, u35, u36, u37, u38, u39, u40, u41, u42, u43, u44, u45, u46, u47, u48, u49, u50, u51, u52, u53, u54, u55, u56, u57, u58, u59, u60, u61], defers := [] }) (fun _ w' => cellN w' w.heap.size) rfl ?_ ?_
  · rintro a' wr ⟨x, y, p', q', p, q, k, f, c, A, ps, u8, u9, u10, u11, u12, u13, u14, u15, u16, u17, u18, u19, u20, u21, u22, u23, u24, u25, u26, u27, u28, u29, u30, u31, u32, u33, u34, u35, u36, u37, u38, u39, u40, u41, u42, u43, u44, u45, u46, u47, u48, u49, u50, u51, u52, u53, u54, u55, u56, u57, u58, u59, u60, u61, hC, rfl⟩
    rw [show cellN wr w.heap.size = y from cellN_of (hC.out.F.cell 1)]
    have hpl : ps.length = k := by
      have := hC.out.c.o.1
      rw [cellsF_len] at this
      omega
    have Hpl := Lib.hid hpl
    clear hpl
    have key : Hid (ps = R → (wr.ownsRow w.heap.size 28 2 (.slice A k c) R.length (cellsF R) ∧ Below w.heap.size w wr)) := Lib.hid fun e => by
      rw [← e, Hpl.out]
      exact ⟨own_more hC.out.c.o (by omega), hC.out.c.h⟩
    have hk := hC.out.hk
    have hy := hC.out.hy
    obtain ⟨K, kp, kq, ky, P, Q, r, eK, eP, eQ, er, m1, m2, m3, a1, a2, a3, b1, b2, b3⟩ := cv_words hC.out.i hy HN.out HD.out
    have hq := wq (x := x) (y := y) hC.out.i.2.2.1
    rw [← eK] at hq
    have hI2 := hC.out.i.next hy
    rw [← eP, ← eQ, ← er] at hI2
    have hrl : r < y := by rw [er]; exact Nat.mod_lt _ hy
    have g0 := hC.out.F.cell 0; have g1 := hC.out.F.cell 1; have c0 := hC.out.c.b.cell 0; have c1 := hC.out.c.b.cell 1; have d0 := hC.out.c.l.cell 0; have d1 := hC.out.c.l.cell 1
    simp at g0 g1 c0 c1 d0 d1
    have z1 : ¬ y = 0 := by omega
    have e1 : ((kp : Int) + (p' : Int)) = (P : Int) := by omega
    have e2 : ((kq : Int) + (q' : Int)) = (Q : Int) := by omega
    by_cases hQ : m < Q
    · have hR : ps = R := by
        have := hC.out.l
        rw [cvL_stop (by rw [← eQ]; exact hQ), List.append_nil] at this
        exact this
      have HRp := Lib.hid hR
      have hQi : (m : Int) < (Q : Int) := by omega
      clear hR hI2 eK eP eQ er
      go_wp2
      simp only [Exit.jump]
      go_ret
      obtain ⟨o1, o2⟩ := key.out HRp.out
      exact ⟨_, rfl, o1.alloc _, b_alloc o2 _⟩
    · have hQi : ¬ (m : Int) < (Q : Int) := by omega
      by_cases hk40 : k = 40
      · obtain rfl : k = 40 := hk40
        have hR : ps = R := by
          have := hC.out.l
          obtain rfl : f = 0 := by omega
          rw [cvL_none, List.append_nil] at this
          exact this
        have HRp := Lib.hid hR
        skip
        clear hR hI2 eK eP eQ er
        go_wp2
        simp only [Exit.jump]
        go_ret
        obtain ⟨o1, o2⟩ := key.out HRp.out
        exact ⟨_, rfl, o1.alloc _, b_alloc o2 _⟩
      · have hgo := hC.out.l
        have hki : ((k : Int) == 40) = false := by rw [beq_eq_false_iff_ne]; omega
        obtain ⟨f', rfl⟩ : ∃ f', f = f' + 1 := ⟨f - 1, by omega⟩
        rw [cvL_go hy (by rw [← eQ]; omega), ← eP, ← eQ, ← er, List.append_cons] at hgo
        have Hgo := Lib.hid hgo
        have HI2 := Lib.hid hI2
        have e3 := wrap_sub a3 hC.out.i.2.2.1
        have hks : 2 ≤ 2 := Nat.le_refl _
        clear hgo hI2 eK eP eQ er key
        have hB2 : Hid (Below wr.heap.size wr ((wr.alloc (.cells #[.int .i64 (P : Int), .int .i64 (Q : Int)] 28)).alloc (.cells #[.int .i64 (P : Int), .int .i64 (Q : Int)] 28))) := b_alloc (b_alloc (Below.refl _ _) _) _
        have X2 : Hid (Blk ((wr.alloc (.cells #[.int .i64 (P : Int), .int .i64 (Q : Int)] 28)).alloc (.cells #[.int .i64 (P : Int), .int .i64 (Q : Int)] 28)) wr.heap.size #[.int .i64 (P : Int), .int .i64 (Q : Int)] 28) := Lib.hid ((heap_alloc_old _ _ (by simp)).trans (heap_alloc_at rfl))
        have iw : w.heap.size + 1 + 1 + 1 ≤ wr.heap.size := hC.out.c.i.2.2.2.2.2
        go_wp2_with (at_builtin; refine wpList_append_own _ rfl (.tmp 42) (.tmp 44) 31 rfl (w.heap.size + 1 + 1 + 1) 28 i0 _ 2 16 Try.underlying31 Hi.out Hy0.out Hy1.out Hy2.out Hys.out (by omega) _ k _ rfl ((hC.out.c.o.alloc _).alloc _) _ 1 _ [_, _] rfl rfl (World.news_of_block (cs := #[_, _]) (heap_alloc_at (by simp))) (by intro u hu; simp at hu; rcases hu with rfl | rfl <;> rfl) (by unfold maxLen; omega) (by omega) (by simp; omega) ?_; intro v9 w9 hown9 hgrow9 hif9; obtain ⟨g0', g1', p0, p1, x0, x1, f0, f1, f2, f3⟩ := hC.out.c.facts hB2.out X2.out (Nat.le_refl _) hgrow9; have F9 := Lib.hid ((Blk.on hC.out.F (W := wr) rfl hB2.out).grown hgrow9 (own_not hC.out.c.o (by omega))); have O9 := Lib.hid hown9; have K9 := Lib.hid ((Blk.on hC.out.c.b (W := wr) rfl hB2.out).grown hgrow9 (own_not hC.out.c.o (by omega))); have L9 := Lib.hid ((Blk.on hC.out.c.l (W := wr) rfl hB2.out).grown hgrow9 (own_not hC.out.c.o (by omega))); have B9 : Hid (Below w.heap.size w w9) := Lib.hid ((b_then hC.out.c.h hB2.out).grown hgrow9 (by have := hC.out.c.h.size; have := hB2.out.size; omega) (fun j e => by have := (own_base hC.out.c.o j e).1; omega)); clear hgrow9 hown9 c0 c1 d0 d1 g0 g1)
        go_cut [] (fun wx => Blk wx (w.heap.size + 1) #[.int .i64 (p : Int), .int .i64 (q : Int)] 28 ∧ Blk wx (w.heap.size + 1 + 1) #[.int .i64 (P : Int), .int .i64 (Q : Int)] 28 ∧ wx.ownsRow (w.heap.size + 1 + 1 + 1) 28 2 v9 (k + 1) (cellsF ps ++ [.int .i64 (P : Int), .int .i64 (Q : Int)]) ∧ Blk wx w.heap.size #[.int .i64 (x : Int), .int .i64 (y : Int)] 28 ∧ Below w.heap.size w wx)
        case first =>
          have ib : w.heap.size + 1 ≠ w.heap.size + 1 + 1 := by omega
          have ib2 : w.heap.size + 1 + 1 ≠ w.heap.size + 1 := by omega
          have n1 : w.heap.size ≠ w.heap.size + 1 := by omega
          have n2 : w.heap.size ≠ w.heap.size + 1 + 1 := by omega
          have o1 := fun (W : World) (i : Nat) (x : Value) (h : W.ownsRow (w.heap.size + 1 + 1 + 1) 28 2 v9 (k + 1) (cellsF ps ++ [.int .i64 (P : Int), .int .i64 (Q : Int)])) => own_set h (w.heap.size + 1) i x (own_not h (by omega))
          have o2 := fun (W : World) (i : Nat) (x : Value) (h : W.ownsRow (w.heap.size + 1 + 1 + 1) 28 2 v9 (k + 1) (cellsF ps ++ [.int .i64 (P : Int), .int .i64 (Q : Int)])) => own_set h (w.heap.size + 1 + 1) i x (own_not h (by omega))
          have P1 : Hid (∀ W : World, W.heap = ((((w9.setCell ⟨w.heap.size + 1, 0, none⟩ (.int .i64 (p : Int))).setCell ⟨w.heap.size + 1, 1, none⟩ (.int .i64 (q : Int))).setCell ⟨w.heap.size + 1 + 1, 0, none⟩ (.int .i64 (P : Int))).setCell ⟨w.heap.size + 1 + 1, 1, none⟩ (.int .i64 (Q : Int))).heap → Blk W (w.heap.size + 1) #[.int .i64 (p : Int), .int .i64 (q : Int)] 28 ∧ Blk W (w.heap.size + 1 + 1) #[.int .i64 (P : Int), .int .i64 (Q : Int)] 28 ∧ W.ownsRow (w.heap.size + 1 + 1 + 1) 28 2 v9 (k + 1) (cellsF ps ++ [.int .i64 (P : Int), .int .i64 (Q : Int)]) ∧ Blk W w.heap.size #[.int .i64 (x : Int), .int .i64 (y : Int)] 28) := Lib.hid fun W hW => by
            refine ⟨?_, ?_, own_heap hW (o2 _ 1 _ (o2 _ 0 _ (o1 _ 1 _ (o1 _ 0 _ O9.out)))), ?_⟩
            · unfold Blk; rw [hW]; exact (((K9.out.set 0 _).set 1 _).setO ib 0 _).setO ib 1 _
            · unfold Blk; rw [hW]; exact (((L9.out.setO ib2 0 _).setO ib2 1 _).set 0 _).set 1 _
            · unfold Blk; rw [hW]; exact (((F9.out.setO n1 0 _).setO n1 1 _).setO n2 0 _).setO n2 1 _
          clear o1 o2
          go_region_law (fail)
          all_goals
            go_wp2_with fail
            go_meet
            obtain ⟨q1, q2, q3, q4⟩ := P1.out _ (by rfl)
            refine ⟨q1, q2, q3, q4, ?_⟩
            repeat (first | exact B9.out | refine b_drewN ?_ _ | refine b_drew ?_ | refine Below.setCell ?_ (by first | (simp; done) | (simp; omega)) _)
        case rest =>
          obtain ⟨hb1, hb2, ho, hF, hbel⟩ := hcut
          have g0 := hF.cell 0; have g1 := hF.cell 1; have fz0 := hF.frozen 0; have fz1 := hF.frozen 1
          simp at g0 g1
          have n1 : w.heap.size + 1 ≠ w.heap.size := by omega
          have n2 : w.heap.size + 1 + 1 ≠ w.heap.size := by omega
          have bs := hbel.size
          have os := (own_base ho)
          have hst : Hid (Cv2 w ((wc.setCell ⟨w.heap.size, 0, none⟩ (.int .i64 (y : Int))).setCell ⟨w.heap.size, 1, none⟩ (.int .i64 (r : Int))) (w.heap.size + 1) (w.heap.size + 1 + 1) (w.heap.size + 1 + 1 + 1) p q P Q v9 (k + 1) (ps ++ [⟨(P : Int), (Q : Int)⟩])) := by
            refine ⟨(hb1.setO n1 0 _).setO n1 1 _, (hb2.setO n2 0 _).setO n2 1 _, ?_, (hbel.setCell (p := ⟨w.heap.size, 0, none⟩) (Nat.le_refl _) _).setCell (p := ⟨w.heap.size, 1, none⟩) (Nat.le_refl _) _, by omega, by omega, by omega, by omega, by omega, by have := hb2.lt; simp; omega⟩
            rw [cellsF_snoc]
            exact own_set (own_set ho _ _ _ (own_not ho (by omega))) _ _ _ (own_not (own_set ho w.heap.size 0 (.int .i64 (y : Int)) (own_not ho (by omega))) (by omega))
          have hF2 : Hid (Blk ((wc.setCell ⟨w.heap.size, 0, none⟩ (.int .i64 (y : Int))).setCell ⟨w.heap.size, 1, none⟩ (.int .i64 (r : Int))) w.heap.size #[.int .i64 (y : Int), .int .i64 (r : Int)] 28) := Lib.hid ((hF.set 0 _).set 1 _)
          obtain ⟨A9, c9, rfl, hl9, _, _, _⟩ := fr_of_row (ps := ps ++ [⟨(P : Int), (Q : Int)⟩]) (by rw [cellsF_snoc]; exact ho)
          have Hl9 := Lib.hid hl9
          clear hb1 hb2 ho hF hbel hl9 K9 L9 F9 O9 B9 os bs
          clear e1 e2 hks hQi m1 m2 hq z1 a1 a2 b1 b2 b3 hki iw
          go_upto_region 10 with fail
          clear g0 g1 fz0 fz1 e3 m3 a3
          generalize (wc.setCell ⟨w.heap.size, 0, none⟩ (.int .i64 (y : Int))).setCell ⟨w.heap.size, 1, none⟩ (.int .i64 (r : Int)) = W9 at *
          have h1 := hF2.out.cell 1
          simp at h1
          by_cases hr0 : r = 0
          · have hR : ps ++ [⟨(P : Int), (Q : Int)⟩] = R := by
              have := Hgo.out
              rw [hr0, cvL_zero, List.append_nil] at this
              exact this
            have HRp := Lib.hid hR
            have hri : ((r : Int) == 0) = true := by subst hr0; rfl
            clear hR
            go_wp2
            simp only [Exit.jump]
            go_ret
            refine ⟨_, rfl, ?_, hst.out.h⟩
            rw [← HRp.out, Hl9.out]
            exact own_more hst.out.o (by omega)
          · have hri : ((r : Int) == 0) = false := by rw [beq_eq_false_iff_ne]; omega
            go_wp2
            go_step3
            refine ⟨rfl, ⟨y, r, p, q, P, Q, k + 1, f', c9, A9, _, _, _, _, _, _, _, _, _, _, _, _, _, _, _, _, _, _, _, _, _, _, _, _, _, _, _, _, _, _, _, _, _, _, _, _, _, _, _, _, _, _, _, _, _, _, _, _, _, _, _, _, _, _, _, Lib.hid ⟨by omega, by omega, HI2.out, Hgo.out, hst.out, hF2.out⟩, rfl⟩, ?_⟩
            rw [cellN_of (hF2.out.cell 1)]
            exact hrl
  · intro hrest
    go_wp2_with fail
    go_step3
    have C0 : Hid (CvJ w (((w.alloc (.cells #[.int .i64 (N : Int), .int .i64 (D : Int)] 28)).alloc (.cells #[.int .i64 0, .int .i64 1] 28)).alloc (.cells #[.int .i64 1, .int .i64 0] 28)) N D m R N D 0 1 1 0 (.slice none 0 0) 0 40 []) := by
      refine ⟨rfl, H3.out, I0.out, (List.nil_append _).trans HR.out.symm, ⟨?_, ?_, ⟨by simp [cellsF], .inl ⟨rfl, rfl⟩⟩, ?_, by omega, by omega, by omega, by omega, by omega, by simp⟩, ?_⟩
      · exact (heap_alloc_old _ _ (by simp)).trans (heap_alloc_at (by simp))
      · exact heap_alloc_at (by simp)
      · exact b_alloc (b_alloc (b_alloc (Below.refl _ _) _) _) _
      · exact (heap_alloc_old _ _ (by simp; omega)).trans ((heap_alloc_old _ _ (by simp)).trans (heap_alloc_at rfl))
    rename_i hKK
    refine hKK _ _ (hrest _ _ ⟨N, D, 0, 1, 1, 0, 0, 40, 0, none, [], _, _, _, _, _, _, _, _, _, _, _, _, _, _, _, _, _, _, _, _, _, _, _, _, _, _, _, _, _, _, _, _, _, _, _, _, _, _, _, _, _, _, _, _, _, _, _, _, _, _, _, _, _, _, C0, rfl⟩)
end Go.Proofs.Ytjkgiknklkfipaa
