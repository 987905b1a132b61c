/-
  The convergents of a number: the model's list.
-/
import Derived.Test.YtjkgiknklkfipaaCva
namespace Go.Proofs.Ytjkgiknklkfipaa
open Go.RowKit Go.ChangeShapes Go.WideShapes Go.Deep
attribute [local go_sem ↓] Go.wp_at_zero Go.wp_at_succ
set_option linter.unusedVariables false
set_option linter.unusedSimpArgs false
set_option maxRecDepth 100000
/-- The convergents of a number. -/
def cvA (a m : Nat) : List Fr := cvL 40 (exN a) (exD a) 0 1 1 0 m
theorem exN_le {a : Nat} (ha : a < 4294967296) (h : tgB a = true) : exN a ≤ 8589934592 ∧ exD a ≤ 8589934592 ∧ 0 < exD a := by
  obtain ⟨_, _, k3, m1, m2, _⟩ := ex_facts ha h
  have h1 : exN a ≤ exM a := Nat.div_le_self _ _
  have h2 : exD a ≤ 2 ^ exK a := Nat.div_le_self _ _
  have h3 := two_pow_33 k3
  have h4 : 0 < Nat.gcd (exM a) (2 ^ exK a) := Nat.gcd_pos_of_pos_left _ (by omega)
  have h5 : Nat.gcd (exM a) (2 ^ exK a) ≤ 2 ^ exK a := Nat.le_of_dvd (Nat.two_pow_pos _) (Nat.gcd_dvd_right _ _)
  exact ⟨by omega, by omega, Nat.div_pos h5 h4⟩
/-- The model's list is made. -/
def CvR (ps : List Fr) (w : World) (e : Ending) (w' : World) : Prop := ∃ v, e = .returned v ∧ w'.ownsRow w.heap.size 28 2 v ps.length (cellsF ps) ∧ Below w.heap.size w w'
set_option maxHeartbeats 4000000 in
theorem specConv_any (a m : Nat) (ha : a < 4294967296) (h : tgB a = true) (hm : m ≤ 1000000) (w : World) : Calls Try.prog 51 #[.float .f32 a, .int .i64 (m : Int)] w (CvR (cvA a m) w) := by
  obtain ⟨i0, hi, hy0, hy1, hy2⟩ := info_parts infoFr
  have hys : (Value.agg #[.int .i64 0, .int .i64 0]).cells.size = 2 := rfl
  have Hi := Lib.hid hi
  have Hy0 := Lib.hid hy0; have Hy1 := Lib.hid hy1; have Hy2 := Lib.hid hy2; have Hys := Lib.hid hys
  obtain ⟨n1, n2, n3⟩ := exN_le ha h
  have hR : cvA a m = cvL 40 (exN a) (exD a) 0 1 1 0 m := rfl
  have HE := Lib.hid (fun W => specExact_any a ha h W)
  clear hi hy0 hy1 hy2 hys ha h
  generalize cvA a m = R at *
  generalize exN a = N at *
  generalize exD a = D at *
  have I0 : Hid (CvI N D N D 0 1 1 0) := Lib.hid ⟨by omega, by omega, n1, n2⟩
  have HN := Lib.hid n1; have HD := Lib.hid n2
  have HR := Lib.hid hR
  clear hR n1 n2
  go_enter Try.func51, Try.ntmps51
  go_wp2_with fail
  refine (HE.out _).mono ?_
  rintro e w1 ⟨rfl, b1⟩
  have B1 := Lib.hid b1
  have K1 := Lib.hid (Blk.new w1 #[.int .i64 (N : Int), .int .i64 (D : Int)] 28)
  clear b1
  have C0 : Hid (Cv2 w ((((w1.alloc (.cells #[.int .i64 (N : Int), .int .i64 (D : Int)] 28)).alloc (.cells #[.int .i64 0, .int .i64 1] 28)).alloc (.cells #[.int .i64 1, .int .i64 0] 28)).alloc (.cells #[] 28)) (w1.heap.size + 1) (w1.heap.size + 1 + 1) (w1.heap.size + 1 + 1 + 1) 0 1 1 0 (.slice (some ⟨w1.heap.size + 1 + 1 + 1, 0, none⟩) 0 0) 0 []) := by
    have hs := B1.out.size
    refine ⟨?_, ?_, ?_, ?_, by omega, by omega, by omega, by omega, by omega, by simp⟩
    · exact (heap_alloc_old _ _ (by simp)).trans ((heap_alloc_old _ _ (by simp)).trans (heap_alloc_at (by simp)))
    · exact (heap_alloc_old _ _ (by simp)).trans (heap_alloc_at (by simp))
    · exact own_emptyS (by simp) _ _ (Nat.le_refl _)
    · exact b_alloc (b_alloc (b_alloc (b_alloc B1.out _) _) _) _
  go_wp2_with fail
  generalize (((w1.alloc (.cells #[.int .i64 (N : Int), .int .i64 (D : Int)] 28)).alloc (.cells #[.int .i64 0, .int .i64 1] 28)).alloc (.cells #[.int .i64 1, .int .i64 0] 28)).alloc (.cells #[] 28) = W1 at *
  clear K1 B1 HE
  generalize w1.heap.size = s1 at *
  go_loopw [6, 7, 10] (fun vx vy v wr => ∃ (x y p' q' p q k f : Nat) (ps : List Fr), vx = .int .i64 x ∧ vy = .int .i64 y ∧ f + k = 40 ∧ Hid (CvI N D x y p' q' p q) ∧ Hid (ps ++ cvL f x y p' q' p q m = R) ∧ Hid (Cv2 w wr (s1 + 1) (s1 + 1 + 1) (s1 + 1 + 1 + 1) p' q' p q v k ps)) (fun _ vy _ _ => (intOf vy).toNat)
  case atStart => exact ⟨N, D, 0, 1, 1, 0, 0, 40, [], rfl, rfl, rfl, I0, Lib.hid ((List.nil_append _).trans HR.out.symm), C0⟩
  case round =>
    obtain ⟨x, y, p', q', p, q, k, f, ps, rfl, rfl, hk, hI, hL, hC⟩ := hrel
    obtain ⟨A, c, rfl, hpl, _, _, _⟩ := fr_of_row hC.out.o
    have Hpl := Lib.hid hpl
    clear hpl
    have key : Hid (ps = R → (wr.ownsRow w.heap.size 28 2 (.slice A k c) R.length (cellsF R) ∧ Below w.heap.size w wr)) := Lib.hid fun e => by
      rw [← e, Hpl.out]
      exact ⟨own_more hC.out.o (by have := hC.out.i; omega), hC.out.h⟩
    by_cases hy : 0 < y
    · by_cases hk40 : k < 40
      · obtain ⟨K, kp, kq, ky, P, Q, r, eK, eP, eQ, er, m1, m2, m3, a1, a2, a3, b1, b2, b3⟩ := cv_words hI.out hy HN.out HD.out
        have hq := wq (x := x) (y := y) hI.out.2.2.1
        rw [← eK] at hq
        have hI2 := hI.out.next hy
        rw [← eP, ← eQ, ← er] at hI2
        have hrl : r < y := by rw [er]; exact Nat.mod_lt _ hy
        have c0 := hC.out.b.cell 0; have c1 := hC.out.b.cell 1; have d0 := hC.out.l.cell 0; have d1 := hC.out.l.cell 1
        simp at c0 c1 d0 d1
        have y0 : (0 : Int) < (y : Int) := by omega
        have z1 : ¬ y = 0 := by omega
        have k40 : (k : Int) < 40 := by omega
        by_cases hQ : m < Q
        · have hR : ps = R := by
            have := hL.out
            rw [cvL_stop (by rw [← eQ]; exact hQ), List.append_nil] at this
            exact this
          have HRp := Lib.hid hR
          have e1 : ((kp : Int) + (p' : Int)) = (P : Int) := by omega
          have e2 : ((kq : Int) + (q' : Int)) = (Q : Int) := by omega
          have hQi : (m : Int) < (Q : Int) := by omega
          clear hR hI2 eK eP eQ er hL
          go_wp2
          go_ret
          obtain ⟨o1, o2⟩ := key.out HRp.out
          exact ⟨_, rfl, o1.alloc _, b_alloc o2 _⟩
        · have hgo := hL.out
          obtain ⟨f', rfl⟩ : ∃ f', f = f' + 1 := ⟨f - 1, by omega⟩
          rw [cvL_go hy (by rw [← eQ]; omega), ← eP, ← eQ, ← er, List.append_cons] at hgo
          have Hgo := Lib.hid hgo
          have HI2 := Lib.hid hI2
          have e1 : ((kp : Int) + (p' : Int)) = (P : Int) := by omega
          have e2 : ((kq : Int) + (q' : Int)) = (Q : Int) := by omega
          have e3 : ((x : Int) - (ky : Int)) = (r : Int) := by omega
          have hQi : ¬ (m : Int) < (Q : Int) := by omega
          have hks : 2 ≤ 2 := Nat.le_refl _
          clear hgo hI2 eK eP eQ er hL key
          have hB2 : Hid (Below wr.heap.size wr ((wr.alloc (.cells #[.int .i64 (P : Int), .int .i64 (Q : Int)] 28)).alloc (.cells #[.int .i64 (P : Int), .int .i64 (Q : Int)] 28))) := b_alloc (b_alloc (Below.refl _ _) _) _
          have X2 : Hid (Blk ((wr.alloc (.cells #[.int .i64 (P : Int), .int .i64 (Q : Int)] 28)).alloc (.cells #[.int .i64 (P : Int), .int .i64 (Q : Int)] 28)) wr.heap.size #[.int .i64 (P : Int), .int .i64 (Q : Int)] 28) := Lib.hid ((heap_alloc_old _ _ (by simp)).trans (heap_alloc_at rfl))
          have ib : s1 + 1 < s1 + 1 + 1 := by omega
          have iw : s1 + 1 + 1 + 1 ≤ wr.heap.size := hC.out.i.2.2.2.2.2
          go_wp2_with (at_builtin; refine wpList_append_own _ rfl (.tmp 52) (.tmp 54) 31 rfl (s1 + 1 + 1 + 1) 28 i0 _ 2 16 Try.underlying31 Hi.out Hy0.out Hy1.out Hy2.out Hys.out (by omega) _ k _ rfl ((hC.out.o.alloc _).alloc _) _ 1 _ [_, _] rfl rfl (World.news_of_block (cs := #[_, _]) (heap_alloc_at (by simp))) (by intro u hu; simp at hu; rcases hu with rfl | rfl <;> rfl) (by unfold maxLen; omega) (by omega) (by have := hC.out.i; simp; omega) ?_; intro v9 w9 hown9 hgrow9 hif9; obtain ⟨g0, g1, p0, p1, x0, x1, f0, f1, f2, f3⟩ := hC.out.facts hB2.out X2.out (Nat.le_refl _) hgrow9; have hst := Lib.hid (hC.out.step hown9 hB2.out hgrow9); clear hgrow9 hown9 c0 c1 d0 d1)
          rw [wrap_sub a3 hI.out.2.2.1]
          exact ⟨⟨y, r, p, q, P, Q, k + 1, f', _, rfl, rfl, by omega, HI2, Hgo, hst⟩, by simpa [intOf] using hrl⟩
      · have hR : ps = R := by
          have := hL.out
          obtain rfl : f = 0 := by omega
          rw [cvL_none, List.append_nil] at this
          exact this
        have HRp := Lib.hid hR
        have y0 : (0 : Int) < (y : Int) := by omega
        obtain rfl : k = 40 := by omega
        clear hR hL
        go_wp2
        go_ret
        obtain ⟨o1, o2⟩ := key.out HRp.out
        exact ⟨_, rfl, o1, o2⟩
    · have hR : ps = R := by
        have := hL.out
        obtain rfl : y = 0 := by omega
        rw [cvL_zero, List.append_nil] at this
        exact this
      have HRp := Lib.hid hR
      have y0 : ¬ (0 : Int) < (y : Int) := by omega
      clear hR hL
      go_wp2
      go_ret
      obtain ⟨o1, o2⟩ := key.out HRp.out
      exact ⟨_, rfl, o1, o2⟩
end Go.Proofs.Ytjkgiknklkfipaa
