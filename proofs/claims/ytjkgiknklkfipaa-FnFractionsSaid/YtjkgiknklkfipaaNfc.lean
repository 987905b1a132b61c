/-
  The nearest fraction: both functions, and the law.
-/
import Derived.Test.YtjkgiknklkfipaaNfb
namespace Go.Proofs.Ytjkgiknklkfipaa
open Go.RowKit Go.ChangeShapes Go.WideShapes Go.Deep
attribute [local go_sem ↓] Go.wp_at_zero Go.wp_at_succ
set_option linter.unusedVariables false
set_option linter.unusedSimpArgs false
set_option maxRecDepth 100000
theorem exR {a : Nat} (ha : a < 4294967296) (h : tgB a = true) : NfR (exN a) (exD a) := by
  obtain ⟨_, _, k3, m1, m2, _⟩ := ex_facts ha h
  have h1 : exN a ≤ exM a := Nat.div_le_self _ _
  exact ⟨by omega, (exN_le ha h).2.1⟩
def neB (a : Nat) (m : Int) : Bool := mostB a m && decide (m ≤ 1000)
def neK (a : Nat) (m : Int) : Int := if mostB a m then (if m ≤ 1000 then 0 else 3) else 2
def neA (a : Nat) (m : Int) : Nat × Nat := if neB a m then nfA (exN a) (exD a) m.toNat else (0, 0)
set_option maxHeartbeats 2000000 in
theorem implNear_any (a : Nat) (m : Int) (ha : a < 4294967296) (w : World) : Calls Try.prog 14 #[.float .f32 a, .int .i64 m] w (RV (.tuple #[.agg #[.int .i64 ((neA a m).1 : Int), .int .i64 ((neA a m).2 : Int)], .int .i64 (neK a m)]) w) := by
  have hF := Lib.hid (fun w => fracErr_any a m w)
  have Z0 : Hid (Blk (w.alloc (.cells #[.int .i64 0, .int .i64 0] 28)) w.heap.size #[.int .i64 0, .int .i64 0] 28) := Blk.new _ _ _
  have d0 := Z0.out.cell 0
  have d1 := Z0.out.cell 1
  simp at d0 d1
  have f0 := Z0.out.frozen 0; have f1 := Z0.out.frozen 1
  unfold neA neB neK
  cases h : mostB a m
  · have hk : mostK a m = 2 := by unfold mostK; rw [h]; rfl
    rw [hk] at hF
    clear h hk
    go_enter Try.func14, Try.ntmps14
    go_wp2_with (go_at_call 48; refine (hF.out _).mono ?_; rintro e w1 ⟨rfl, rfl⟩)
    refine bodyPost_ret (ret_frc (x := 0) (y := 0) Try.results14 rfl Z0.out) rfl ⟨rfl, ?_⟩
    exact b_alloc (Below.refl _ _) _
  · have hk : mostK a m = 0 := by unfold mostK; rw [h]; rfl
    rw [hk] at hF
    obtain ⟨h1, h2, h3⟩ := mostB_is h
    by_cases hm : m ≤ 1000
    · have hE := Lib.hid (fun w => implExact_any a ha h1 w)
      have hC := Lib.hid (fun w => implNearest_any (exN a) (exD a) m.toNat (exR ha h1) (exN_le ha h1).2.2 (by omega) (by omega) w)
      rw [Int.toNat_of_nonneg (by omega)] at hC
      have hml : ¬ (1000 : Int) < m := by omega
      rw [decide_eq_true hm]
      simp only [Bool.and_self, if_true, if_pos hm]
      clear h hk h1 h2 h3 ha hm
      generalize nfA (exN a) (exD a) m.toNat = R at *
      clear d0 d1 f0 f1
      go_enter Try.func14, Try.ntmps14
      go_wp2_with (first | (go_at_call 48; refine (hF.out _).mono ?_; rintro e w1 ⟨rfl, rfl⟩) | (go_at_call 46; refine (hE.out _).mono ?_; rintro e w1 ⟨rfl, b1⟩) | (go_at_call 52; refine (hC.out _).mono ?_; rintro e w2 ⟨rfl, b2⟩; have Z2 := Lib.hid ((Z0.out.on (by rfl) b1).on (by rfl) b2); have d0 := Z2.out.cell 0; have d1 := Z2.out.cell 1; simp at d0 d1; have f0 := Z2.out.frozen 0; have f1 := Z2.out.frozen 1))
      refine bodyPost_ret (ret_frc (x := (R.1 : Int)) (y := (R.2 : Int)) Try.results14 rfl ((Z2.out.set 0 _).set 1 _)) rfl ⟨rfl, ?_⟩
      exact ((b_then (b_then (b_alloc (Below.refl _ _) _) b1) b2).setCell (p := ⟨w.heap.size, 0, none⟩) (Nat.le_refl _) _).setCell (p := ⟨w.heap.size, 1, none⟩) (Nat.le_refl _) _
    · have hml : (1000 : Int) < m := by omega
      rw [decide_eq_false hm]
      simp only [Bool.and_false, if_true, if_neg hm]
      clear h hk h1 h2 h3 ha hm
      go_enter Try.func14, Try.ntmps14
      go_wp2_with (go_at_call 48; refine (hF.out _).mono ?_; rintro e w1 ⟨rfl, rfl⟩)
      refine bodyPost_ret (ret_frc (x := 0) (y := 0) Try.results14 rfl Z0.out) rfl ⟨rfl, ?_⟩
      exact b_alloc (Below.refl _ _) _
theorem l00Max_any (x y : Int) (w : World) : Calls Try.prog 90 #[.int .i64 x, .int .i64 y] w fun e w' => e = .returned (.int .i64 (if y < x then x else y)) ∧ w = w' := by
  by_cases h : y < x
  · rw [if_pos h]
    go_enter Try.func90, Try.ntmps90
    go_wp2
    go_ret
    exact ⟨rfl, rfl⟩
  · rw [if_neg h]
    go_enter Try.func90, Try.ntmps90
    go_wp2
    go_ret
    exact ⟨rfl, rfl⟩
set_option maxHeartbeats 2000000 in
theorem l05Apart_any {N D n d : Nat} (hR : NfR N D) (h : NfB N D (n, d)) (w : World) : Calls Try.prog 53 #[.agg #[.int .i64 (N : Int), .int .i64 (D : Int)], .int .i64 (n : Int), .int .i64 (d : Int)] w (RV (.int .i64 (gapI N D n d)) w) := by
  obtain ⟨x, y, e1, e2, e3, b1, b2⟩ := nf_words hR h
  have hM := Lib.hid (fun w => l00Max_any ((x : Int) - (y : Int)) (-((x : Int) - (y : Int))) w)
  have hz : (if -((x : Int) - (y : Int)) < (x : Int) - (y : Int) then (x : Int) - (y : Int) else -((x : Int) - (y : Int))) = gapI N D n d := by
    rw [e3]
    by_cases h : (x : Int) - y > (y : Int) - x
    · rw [if_pos h, if_pos (by omega)]
    · rw [if_neg h, if_neg (by omega)]; omega
  rw [hz] at hM
  generalize gapI N D n d = z at *
  have K0 : Blk (w.alloc (.cells #[.int .i64 (N : Int), .int .i64 (D : Int)] 28)) w.heap.size #[.int .i64 (N : Int), .int .i64 (D : Int)] 28 := Blk.new _ _ _
  have c0 := K0.cell 0; have c1 := K0.cell 1
  simp at c0 c1
  clear K0 hR h e3 hz
  obtain ⟨v, hv⟩ : ∃ v, (x : Int) - (y : Int) = v := ⟨_, rfl⟩
  have v1 : -25367150592 ≤ v := by omega
  have v2 : v ≤ 25367150592 := by omega
  rw [hv] at hM
  go_enter Try.func53, Try.ntmps53
  go_wp2_with (go_at_call 90; refine (hM.out _).mono ?_; rintro e w1 ⟨rfl, rfl⟩)
  go_ret
  exact ⟨rfl, b_alloc (Below.refl _ _) _⟩
theorem near_words {N D n d bn bd : Nat} (hR : NfR N D) (h : NfB N D (n, d)) (hb : NfB N D (bn, bd)) : ∃ u v : Int, gapI N D n d * (bd : Int) = u ∧ gapI N D bn bd * (d : Int) = v ∧ 0 ≤ u ∧ u ≤ 8589934592000 ∧ 0 ≤ v ∧ v ≤ 8589934592000 ∧ nearB N D n d bn bd = decide (u < v) := by
  obtain ⟨l1, l2⟩ := gap_le h
  obtain ⟨l3, l4⟩ := gap_le hb
  have hD := hR.2
  obtain ⟨d1, d2, _, _⟩ := h
  obtain ⟨d3, d4, _, _⟩ := hb
  simp only at d1 d2 d3 d4
  unfold nearB
  generalize gapI N D n d = x at *
  generalize gapI N D bn bd = y at *
  exact ⟨_, _, rfl, rfl, Int.mul_nonneg l1 (by omega), Int.le_trans (Int.mul_le_mul (show x ≤ 8589934592 by omega) (show (bd : Int) ≤ 1000 by omega) (by omega) (by omega)) (by decide), Int.mul_nonneg l3 (by omega), Int.le_trans (Int.mul_le_mul (show y ≤ 8589934592 by omega) (show (d : Int) ≤ 1000 by omega) (by omega) (by omega)) (by decide), rfl⟩
attribute [local irreducible] nfR nfI nfS
set_option maxHeartbeats 4000000 in
theorem specNear_any (a : Nat) (m : Int) (ha : a < 4294967296) (w : World) : Calls Try.prog 15 #[.float .f32 a, .int .i64 m] w (RV (.tuple #[.agg #[.int .i64 ((neA a m).1 : Int), .int .i64 ((neA a m).2 : Int)], .int .i64 (neK a m)]) w) := by
  have hF := Lib.hid (fun w => l05Most_any a m w)
  have Z0 : Hid (Blk (w.alloc (.cells #[.int .i64 0, .int .i64 0] 28)) w.heap.size #[.int .i64 0, .int .i64 0] 28) := Blk.new _ _ _
  have d0 := Z0.out.cell 0
  have d1 := Z0.out.cell 1
  simp at d0 d1
  have f0 := Z0.out.frozen 0; have f1 := Z0.out.frozen 1
  unfold neA neB neK
  cases h : mostB a m
  · have hk : mostK a m = 2 := by unfold mostK; rw [h]; rfl
    rw [hk] at hF
    clear h hk
    go_enter Try.func15, Try.ntmps15
    go_wp2_with (go_at_call 50; refine (hF.out _).mono ?_; rintro e w1 ⟨rfl, rfl⟩)
    refine bodyPost_ret (ret_frc (x := 0) (y := 0) Try.results15 rfl Z0.out) rfl ⟨rfl, ?_⟩
    exact b_alloc (Below.refl _ _) _
  · have hk : mostK a m = 0 := by unfold mostK; rw [h]; rfl
    rw [hk] at hF
    obtain ⟨h1, h2, h3⟩ := mostB_is h
    by_cases hm : m ≤ 1000
    · have hE := Lib.hid (fun w => specExact_any a ha h1 w)
      have hR := exR ha h1
      have hD := (exN_le ha h1).2.2
      obtain ⟨mm, rfl⟩ : ∃ k : Nat, m = (k : Int) := ⟨m.toNat, by omega⟩
      have hml : ¬ (1000 : Int) < (mm : Int) := by omega
      rw [decide_eq_true hm]
      simp only [Bool.and_self, if_true, if_pos hm, Int.toNat_natCast]
      have hT : nfA (exN a) (exD a) mm = nfR (exN a) (exD a) mm 1 (exN a / exD a, 1) := rfl
      have HT := Lib.hid hT
      clear h hk h1 h3 ha hm hT d0 d1 f0 f1
      generalize nfA (exN a) (exD a) mm = T at *
      generalize exN a = N at *
      generalize exD a = D at *
      have LI := Lib.hid (fun n d (h : NfB N D (n, d)) W => l05Apart_any hR h W)
      have hq0 := wq (x := N) (y := D) (by have := hR.1; omega)
      have HR := Lib.hid hR
      have HD := Lib.hid hD
      have z1 : ¬ D = 0 := by omega
      have S0 : Hid (NfB N D (N / D, 1)) := Lib.hid (NfB.start hD)
      obtain ⟨Q, hQ⟩ : ∃ Q, N / D = Q := ⟨_, rfl⟩
      rw [hQ] at hq0 S0 HT
      clear hQ hR hD
      go_enter Try.func15, Try.ntmps15
      go_wp2_with (first | (go_at_call 50; refine (hF.out _).mono ?_; rintro e w1 ⟨rfl, rfl⟩) | (go_at_call 47; refine (hE.out _).mono ?_; rintro e w1 ⟨rfl, b1⟩; have K1 := Lib.hid (Blk.new w1 #[.int .i64 (N : Int), .int .i64 (D : Int)] 28); have c0 := K1.out.cell 0; have c1 := K1.out.cell 1; simp at c0 c1))
      have W0 : Hid (NfW w ((w1.alloc (.cells #[.int .i64 (N : Int), .int .i64 (D : Int)] 28)).alloc (.cells #[.int .i64 (Q : Int), .int .i64 1] 28)) w1.heap.size (w1.heap.size + 1) N D (Q, 1) ∧ Blk ((w1.alloc (.cells #[.int .i64 (N : Int), .int .i64 (D : Int)] 28)).alloc (.cells #[.int .i64 (Q : Int), .int .i64 1] 28)) w.heap.size #[.int .i64 0, .int .i64 0] 28) := by
        have hsz := b1.size
        simp at hsz
        have Z1 := Z0.out.on (by rfl) b1
        refine Lib.hid ⟨⟨?_, ?_, b_alloc (b_alloc (b_then (b_alloc (Below.refl _ _) _) b1) _) _, ⟨by omega, by omega⟩, S0.out⟩, ?_⟩
        · exact (heap_alloc_old _ _ (by simp)).trans (heap_alloc_at rfl)
        · exact heap_alloc_at (by simp)
        · exact Z1.on (W := w1) rfl (b_alloc (b_alloc (Below.refl _ _) _) _)
      have hsq : w.heap.size < w1.heap.size := by have := b1.size; simp at this; omega
      clear c0 c1 hq0 K1
      generalize (w1.alloc (.cells #[.int .i64 (N : Int), .int .i64 (D : Int)] 28)).alloc (.cells #[.int .i64 (Q : Int), .int .i64 1] 28) = W1 at *
      clear b1
      generalize w1.heap.size = s1 at *
      go_loopw [9, 10, 11, 12, 13] (fun vd _ _ _ _ wr => ∃ (d f : Nat) (b : Nat × Nat), vd = .int .i64 d ∧ 1 ≤ d ∧ f + d = mm + 1 ∧ Hid (nfR N D f d b = T) ∧ Hid (NfW w wr s1 (s1 + 1) N D b ∧ Blk wr w.heap.size #[.int .i64 0, .int .i64 0] 28)) (fun vd _ _ _ _ _ => mm + 1 - (intOf vd).toNat)
      case atStart => exact ⟨1, mm, (Q, 1), rfl, by omega, rfl, HT.out.symm, W0⟩
      case round =>
        obtain ⟨d, f, b, rfl, hd1, hfd, hN, hW⟩ := hrel
        by_cases hlt : d ≤ mm
        · obtain ⟨f', rfl⟩ : ∃ f', f = f' + 1 := ⟨f - 1, by omega⟩
          have hN2 := hN.out
          rw [nfR_succ] at hN2
          have hd2 : d ≤ 1000 := by omega
          have hxl := mul_le24 HR.out.1 hd2
          have hin := fun j (hj : j < 2) => NfB.inner (N := N) HD.out hd1 hd2 hj
          have ex : (N : Int) * (d : Int) = ((N * d : Nat) : Int) := by simp
          have hqq := wqB (x := N * d) (y := D) (by omega)
          have hql := Nat.div_le_self (N * d) D
          obtain ⟨x, hx⟩ : ∃ x, N * d = x := ⟨_, rfl⟩
          rw [hx] at hN2 hxl hin ex hqq hql
          obtain ⟨q, hq⟩ : ∃ q, x / D = q := ⟨_, rfl⟩
          rw [hq] at hN2 hin hqq hql
          have HN2 := Lib.hid hN2
          have Hin := Lib.hid hin
          obtain ⟨I, hI⟩ : ∃ I, nfI N D 2 q d b = I := ⟨_, rfl⟩
          have HI := Lib.hid hI
          rw [hI] at HN2
          have ldm : (d : Int) ≤ (mm : Int) := by omega
          have c0 := hW.out.1.F.cell 0; have c1 := hW.out.1.F.cell 1
          simp at c0 c1
          clear hN hN2 hin hI hx hq
          go_wp2_with fail
          clear c0 c1 ex hqq
          go_loopw [11, 12, 13] (fun vk _ _ wr2 => ∃ (j f2 : Nat) (b' : Nat × Nat), vk = .int .i64 j ∧ f2 + j = 2 ∧ Hid (nfI N D f2 (q + j) d b' = I) ∧ Hid (NfW w wr2 s1 (s1 + 1) N D b' ∧ Blk wr2 w.heap.size #[.int .i64 0, .int .i64 0] 28)) (fun vk _ _ _ => 2 - (intOf vk).toNat)
          case atStart => exact ⟨0, 2, b, rfl, rfl, HI, hW⟩
          case round =>
            obtain ⟨j, f2, b', rfl, hf2, hnI, hW2⟩ := hrel
            by_cases hj : j < 2
            · obtain ⟨f3, rfl⟩ : ∃ f3, f2 = f3 + 1 := ⟨f2 - 1, by omega⟩
              have hnI2 := hnI.out
              rw [nfI_succ, nfS_if] at hnI2
              have hnb := Hin.out j hj
              obtain ⟨b1, b2⟩ := b'
              dsimp only at hnI2
              have hbb := hW2.out.1.n
              obtain ⟨u, v, hu, hv, u1, u2, v1, v2, hnr⟩ := near_words HR.out hnb hbb
              have L1 := Lib.hid (LI.out (q + j) d hnb)
              have L2 := Lib.hid (LI.out b1 b2 hbb)
              have Hnb := Lib.hid hnb
              have hci : ((q + j : Nat) : Int) = (q : Int) + (j : Int) := by simp
              rw [hci] at L1
              have c0 := hW2.out.1.F.cell 0; have c1 := hW2.out.1.F.cell 1
              simp at c0 c1
              have lj : (j : Int) < 2 := by omega
              generalize gapI N D (q + j) d = g1 at *
              generalize gapI N D b1 b2 = g2 at *
              have Hci := Lib.hid hci
              clear hnb hbb hci
              go_wp2_with fail
              refine (L1.out _).mono ?_
              rintro e w3 ⟨rfl, b3⟩
              have V3 := Lib.hid (hW2.out.1.below b3)
              have U3 := Lib.hid (Blk.on hW2.out.2 (W := wr) rfl b3)
              clear b3 c0 c1
              have c0 := V3.out.F.cell 0; have c1 := V3.out.F.cell 1; have e0 := V3.out.B.cell 0; have e1 := V3.out.B.cell 1
              simp at c0 c1 e0 e1
              go_wp2_with fail
              refine (L2.out _).mono ?_
              rintro e w4 ⟨rfl, b4⟩
              have V4 := Lib.hid (V3.out.below b4)
              have U4 := Lib.hid (Blk.on U3.out (W := w3) rfl b4)
              clear b4 c0 c1 e0 e1
              have e0 := V4.out.B.cell 0; have e1 := V4.out.B.cell 1
              simp at e0 e1
              have f0 := V4.out.B.frozen 0; have f1 := V4.out.B.frozen 1
              have hne : w.heap.size ≠ s1 + 1 := by omega
              by_cases huv : u < v
              · have hT : nearB N D (q + j) d b1 b2 = true := by rw [hnr]; exact decide_eq_true huv
                rw [hT] at hnI2
                simp only [if_true] at hnI2
                have HnI := Lib.hid hnI2
                clear hnI2 hnI hT hnr
                go_wp2
                refine ⟨⟨j + 1, f3, (q + j, d), by go_num, by omega, HnI, ?_⟩, by simp [intOf]; omega⟩
                have h9 := V4.out.store Hnb.out
                rw [Hci.out] at h9
                exact Lib.hid ⟨h9, (U4.out.setO hne 0 _).setO hne 1 _⟩
              · have hT : nearB N D (q + j) d b1 b2 = false := by rw [hnr]; exact decide_eq_false huv
                rw [hT] at hnI2
                simp only [Bool.false_eq_true, if_false] at hnI2
                have HnI := Lib.hid hnI2
                clear hnI2 hnI hT hnr
                go_wp2
                exact ⟨⟨j + 1, f3, (b1, b2), by go_num, by omega, HnI, Lib.hid ⟨V4.out, U4.out⟩⟩, by simp [intOf]; omega⟩
            · obtain rfl : f2 = 0 := by omega
              have hnI2 := hnI.out
              rw [nfI_zero] at hnI2
              subst hnI2
              have lj : ¬ (j : Int) < 2 := by omega
              clear hnI
              go_wp2
              exact ⟨⟨d + 1, f', b', by go_num, by omega, by omega, HN2, hW2⟩, by simp [intOf]; omega⟩
        · have hb : b = T := by
            have := hN.out
            obtain rfl : f = 0 := by omega
            rw [nfR_zero] at this
            exact this
          subst hb
          have ldm : ¬ (d : Int) ≤ (mm : Int) := by omega
          have d0 := hW.out.1.B.cell 0; have d1 := hW.out.1.B.cell 1; have e0 := hW.out.2.cell 0; have e1 := hW.out.2.cell 1
          simp at d0 d1 e0 e1
          have f0 := hW.out.2.frozen 0; have f1 := hW.out.2.frozen 1
          clear hN
          go_wp2
          refine bodyPost_ret (ret_frc (x := (b.1 : Int)) (y := (b.2 : Int)) Try.results15 rfl ((hW.out.2.set 0 _).set 1 _)) rfl ⟨rfl, ?_⟩
          exact (hW.out.1.h.setCell (p := ⟨w.heap.size, 0, none⟩) (Nat.le_refl _) _).setCell (p := ⟨w.heap.size, 1, none⟩) (Nat.le_refl _) _
    · have hml : (1000 : Int) < m := by omega
      rw [decide_eq_false hm]
      simp only [Bool.and_false, if_true, if_neg hm]
      clear h hk h1 h2 h3 ha hm
      go_enter Try.func15, Try.ntmps15
      go_wp2_with (go_at_call 50; refine (hF.out _).mono ?_; rintro e w1 ⟨rfl, rfl⟩)
      refine bodyPost_ret (ret_frc (x := 0) (y := 0) Try.results15 rfl Z0.out) rfl ⟨rfl, ?_⟩
      exact b_alloc (Below.refl _ _) _
end Go.Proofs.Ytjkgiknklkfipaa
