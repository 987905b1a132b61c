/-
  The nearest fraction: the program's search.
-/
import Derived.Test.YtjkgiknklkfipaaNfa
namespace Go.Proofs.Ytjkgiknklkfipaa
open Go.RowKit Go.ChangeShapes Go.WideShapes Go.Deep
attribute [local go_sem ↓] Go.wp_at_zero Go.wp_at_succ
set_option linter.unusedVariables false
set_option linter.unusedSimpArgs false
set_option maxRecDepth 100000
/-- The numerators that are tried with one denominator. -/
def nfI (N D : Nat) : Nat → Nat → Nat → Nat × Nat → Nat × Nat
  | 0, _, _, b => b
  | f + 1, n, d, b => nfI N D f (n + 1) d (nfS N D b n d)
theorem nfI_two (N D n d : Nat) (b : Nat × Nat) : nfI N D 2 n d b = nfS N D (nfS N D b n d) (n + 1) d := rfl
theorem nfI_zero (N D n d : Nat) (b : Nat × Nat) : nfI N D 0 n d b = b := rfl
theorem nfI_succ (N D f n d : Nat) (b : Nat × Nat) : nfI N D (f + 1) n d b = nfI N D f (n + 1) d (nfS N D b n d) := rfl
theorem nfR_zero (N D d : Nat) (b : Nat × Nat) : nfR N D 0 d b = b := rfl
theorem nfR_succ (N D f d : Nat) (b : Nat × Nat) : nfR N D (f + 1) d b = nfR N D f (d + 1) (nfI N D 2 (N * d / D) d b) := rfl
theorem nfS_if (N D : Nat) (b : Nat × Nat) (n d : Nat) : nfS N D b n d = if nearB N D n d b.1 b.2 = true then (n, d) else b := by
  unfold nfS nearB
  simp
theorem NfB.inner {N D d : Nat} (hD : 0 < D) (h1 : 1 ≤ d) (h2 : d ≤ 1000) {j : Nat} (hj : j < 2) : NfB N D (N * d / D + j, d) := by
  obtain ⟨a, b⟩ := NfB.low (N := N) hD h1 h2
  rcases (by omega : j = 0 ∨ j = 1) with rfl | rfl
  · exact a
  · exact b
/-- The nearest fraction with a denominator of at most m. -/
def nfA (N D m : Nat) : Nat × Nat := nfR N D m 1 (N / D, 1)
attribute [local irreducible] nfR nfI nfS
structure NfW (w wr : World) (s q : Nat) (N D : Nat) (b : Nat × Nat) : Prop where
  F : Blk wr s #[.int .i64 (N : Int), .int .i64 (D : Int)] 28
  B : Blk wr q #[.int .i64 (b.1 : Int), .int .i64 (b.2 : Int)] 28
  h : Below w.heap.size w wr
  i : w.heap.size ≤ s ∧ s < q
  n : NfB N D b
theorem NfW.below {w wr w' : World} {s q N D : Nat} {b : Nat × Nat} (h : NfW w wr s q N D b) (hb : Below wr.heap.size wr w') : NfW w w' s q N D b :=
  ⟨h.F.on rfl hb, h.B.on rfl hb, b_then h.h hb, h.i, h.n⟩
theorem NfW.store {w wr : World} {s q N D : Nat} {b : Nat × Nat} (h : NfW w wr s q N D b) {n d : Nat} (hn : NfB N D (n, d)) : NfW w ((wr.setCell ⟨q, 0, none⟩ (.int .i64 (n : Int))).setCell ⟨q, 1, none⟩ (.int .i64 (d : Int))) s q N D (n, d) := by
  obtain ⟨h1, h2, h3, ⟨i1, i2⟩, h5⟩ := h
  have hne : s ≠ q := by omega
  exact ⟨(h1.setO hne 0 _).setO hne 1 _, (h2.set 0 _).set 1 _, (h3.setCell (p := ⟨q, 0, none⟩) (by show w.heap.size ≤ q; omega) _).setCell (p := ⟨q, 1, none⟩) (by show w.heap.size ≤ q; omega) _, ⟨i1, i2⟩, hn⟩
theorem ret_fr2 {fn : Func} {tmps : Array Value} {W : World} {q s : Nat} {x y : Int} (hr : fn.results = #[.cell s 28]) (h2 : tmps.getD s undef = .pointer (some ⟨q, 0, none⟩)) (Z : Blk W q #[.int .i64 x, .int .i64 y] 28) :
    (results fn tmps).run Try.prog W = .ok (.agg #[.int .i64 x, .int .i64 y]) W := ret_fr hr h2 Z
theorem wqB {x y : Nat} (hx : x ≤ 4611686018427387904) : IntKind.i64.wrap ((x : Int) / (y : Int)) = ((x / y : Nat) : Int) := by
  have h1 := Nat.div_le_self x y
  rw [← Int.natCast_ediv]
  generalize x / y = k at *
  unfold IntKind.wrap
  simp [IntKind.signed, IntKind.bits]
  omega
theorem mul_le24 {N d : Nat} (h : N ≤ 16777216) (hd : d ≤ 1000) : N * d ≤ 16777216000 := Nat.le_trans (Nat.mul_le_mul h hd) (by decide)
set_option maxHeartbeats 4000000 in
theorem implNearest_any (N D m : Nat) (hR : NfR N D) (hD : 0 < D) (h1 : 1 ≤ m) (hm : m ≤ 1000) (w : World) : Calls Try.prog 52 #[.agg #[.int .i64 (N : Int), .int .i64 (D : Int)], .int .i64 (m : Int)] w (RV (.agg #[.int .i64 ((nfA N D m).1 : Int), .int .i64 ((nfA N D m).2 : Int)]) w) := by
  have hT : nfA N D m = nfR N D m 1 (N / D, 1) := rfl
  have HT := Lib.hid hT
  generalize nfA N D m = T at *
  have LI := Lib.hid (fun n d bn bd (h : NfB N D (n, d)) (hb : NfB N D (bn, bd)) W => isNearer_any hR h hb W)
  have hq0 := wq (x := N) (y := D) (by have := hR.1; omega)
  have HR := Lib.hid hR
  have HD := Lib.hid hD
  have z1 : ¬ D = 0 := by omega
  have S0 : Hid (NfB N D (N / D, 1)) := Lib.hid (NfB.start hD)
  obtain ⟨Q, hQ⟩ : ∃ Q, N / D = Q := ⟨_, rfl⟩
  rw [hQ] at hq0 S0 HT
  have W0 : Hid (NfW w (((w.alloc (.cells #[.int .i64 (N : Int), .int .i64 (D : Int)] 28)).alloc (.cells #[.int .i64 0, .int .i64 0] 28)).alloc (.cells #[.int .i64 (Q : Int), .int .i64 1] 28)) w.heap.size (w.heap.size + 1 + 1) N D (Q, 1) ∧ Blk (((w.alloc (.cells #[.int .i64 (N : Int), .int .i64 (D : Int)] 28)).alloc (.cells #[.int .i64 0, .int .i64 0] 28)).alloc (.cells #[.int .i64 (Q : Int), .int .i64 1] 28)) (w.heap.size + 1) #[.int .i64 0, .int .i64 0] 28) := by
    refine Lib.hid ⟨⟨?_, ?_, b_alloc (b_alloc (b_alloc (Below.refl _ _) _) _) _, ⟨Nat.le_refl _, by omega⟩, S0.out⟩, ?_⟩
    · exact (heap_alloc_old _ _ (by simp; omega)).trans ((heap_alloc_old _ _ (by simp)).trans (heap_alloc_at rfl))
    · exact heap_alloc_at (by simp)
    · exact (heap_alloc_old _ _ (by simp)).trans (heap_alloc_at (by simp))
  have K0 := Blk.new w #[.int .i64 (N : Int), .int .i64 (D : Int)] 28
  have c0 := Blk.cell (Blk.on K0 (W := (w.alloc (.cells #[.int .i64 (N : Int), .int .i64 (D : Int)] 28))) rfl (b_alloc (Below.refl _ _) (.cells #[.int .i64 0, .int .i64 0] 28))) 0
  have c1 := Blk.cell (Blk.on K0 (W := (w.alloc (.cells #[.int .i64 (N : Int), .int .i64 (D : Int)] 28))) rfl (b_alloc (Below.refl _ _) (.cells #[.int .i64 0, .int .i64 0] 28))) 1
  simp at c0 c1
  clear K0 hQ hT hR hD
  go_enter Try.func52, Try.ntmps52
  go_wp2_with fail
  clear c0 c1 hq0
  generalize ((w.alloc (.cells #[.int .i64 (N : Int), .int .i64 (D : Int)] 28)).alloc (.cells #[.int .i64 0, .int .i64 0] 28)).alloc (.cells #[.int .i64 (Q : Int), .int .i64 1] 28) = W1 at *
  go_loopw [6, 7, 8, 9] (fun vd _ _ _ wr => ∃ (d f : Nat) (b : Nat × Nat), vd = .int .i64 d ∧ 1 ≤ d ∧ f + d = m + 1 ∧ Hid (nfR N D f d b = T) ∧ Hid (NfW w wr w.heap.size (w.heap.size + 1 + 1) N D b ∧ Blk wr (w.heap.size + 1) #[.int .i64 0, .int .i64 0] 28)) (fun vd _ _ _ _ => m + 1 - (intOf vd).toNat)
  case atStart => exact ⟨1, m, (Q, 1), rfl, by omega, rfl, HT.out.symm, W0⟩
  case round =>
    obtain ⟨d, f, b, rfl, hd1, hfd, hN, hW⟩ := hrel
    by_cases hlt : d ≤ m
    · obtain ⟨f', rfl⟩ : ∃ f', f = f' + 1 := ⟨f - 1, by omega⟩
      have hN2 := hN.out
      rw [nfR_succ] at hN2
      have hd2 : d ≤ 1000 := by omega
      have hxl := mul_le24 HR.out.1 hd2
      have hin := fun j (hj : j < 2) => NfB.inner (N := N) HD.out hd1 hd2 hj
      have ex : (N : Int) * (d : Int) = ((N * d : Nat) : Int) := by simp
      have hqq := wqB (x := N * d) (y := D) (by omega)
      have hql := Nat.div_le_self (N * d) D
      obtain ⟨x, hx⟩ : ∃ x, N * d = x := ⟨_, rfl⟩
      rw [hx] at hN2 hxl hin ex hqq hql
      obtain ⟨q, hq⟩ : ∃ q, x / D = q := ⟨_, rfl⟩
      rw [hq] at hN2 hin hqq hql
      have HN2 := Lib.hid hN2
      have Hin := Lib.hid hin
      obtain ⟨I, hI⟩ : ∃ I, nfI N D 2 q d b = I := ⟨_, rfl⟩
      have HI := Lib.hid hI
      rw [hI] at HN2
      have ldm : (d : Int) ≤ (m : Int) := by omega
      have c0 := hW.out.1.F.cell 0; have c1 := hW.out.1.F.cell 1
      simp at c0 c1
      clear hN hN2 hin hI hx hq
      go_wp2_with fail
      clear c0 c1 ex hqq
      go_loopw [8, 9] (fun vn _ wr2 => ∃ (n j f2 : Nat) (b' : Nat × Nat), vn = .int .i64 n ∧ Hid (n = q + j) ∧ f2 + j = 2 ∧ Hid (nfI N D f2 n d b' = I) ∧ Hid (NfW w wr2 w.heap.size (w.heap.size + 1 + 1) N D b' ∧ Blk wr2 (w.heap.size + 1) #[.int .i64 0, .int .i64 0] 28)) (fun vn _ _ => q + 2 - (intOf vn).toNat)
      case atStart => exact ⟨q, 0, 2, b, rfl, rfl, rfl, HI, hW⟩
      case round =>
        obtain ⟨n, j, f2, b', rfl, hn, hf2, hnI, hW2⟩ := hrel
        have c0 := hW2.out.1.F.cell 0; have c1 := hW2.out.1.F.cell 1; have d0 := hW2.out.1.B.cell 0; have d1 := hW2.out.1.B.cell 1
        simp at c0 c1 d0 d1
        by_cases hj : j < 2
        · obtain ⟨f3, rfl⟩ : ∃ f3, f2 = f3 + 1 := ⟨f2 - 1, by omega⟩
          have hnI2 := hnI.out
          rw [nfI_succ, nfS_if] at hnI2
          have hnb : NfB N D (n, d) := by rw [hn.out]; exact Hin.out j hj
          have Hnb := Lib.hid hnb
          have L := Lib.hid (LI.out n d b'.1 b'.2 hnb hW2.out.1.n)
          have Y2 : Hid (Blk (wr.alloc (.cells #[.int .i64 (n : Int), .int .i64 (d : Int)] 28)) wr.heap.size #[.int .i64 (n : Int), .int .i64 (d : Int)] 28) := Lib.hid (Blk.new _ _ _)
          have V2 := Lib.hid (hW2.out.1.below (b_alloc (Below.refl _ _) (.cells #[.int .i64 (n : Int), .int .i64 (d : Int)] 28)))
          have U2 := Lib.hid (Blk.on hW2.out.2 (W := wr) rfl (b_alloc (Below.refl _ _) (.cells #[.int .i64 (n : Int), .int .i64 (d : Int)] 28)))
          have ln : (n : Int) ≤ (q : Int) + 1 := by have := hn.out; omega
          have nq : n ≤ q + 1 := by have := hn.out; omega
          have Hn1 : Hid (n + 1 = q + (j + 1)) := Lib.hid (by have := hn.out; omega)
          have iw1 : w.heap.size < wr.heap.size := hW2.out.1.F.lt
          have iw2 : w.heap.size + 1 + 1 < wr.heap.size := hW2.out.1.B.lt
          obtain ⟨b1, b2⟩ := b'
          dsimp only at L d0 d1 hnI2
          cases hnr : nearB N D n d b1 b2
          · rw [hnr] at hnI2 L
            simp only [Bool.false_eq_true, if_false] at hnI2
            have HnI := Lib.hid hnI2
            clear hnI2 hnb hnr hnI
            go_wp2_with fail
            clear c0 c1 d0 d1
            refine (L.out _).mono ?_
            rintro e w3 ⟨rfl, b3⟩
            have V3 := Lib.hid (V2.out.below b3)
            have U3 := Lib.hid (Blk.on U2.out rfl b3)
            clear b3
            go_wp2
            exact ⟨⟨n + 1, j + 1, f3, (b1, b2), by go_num, Hn1, by omega, HnI, Lib.hid ⟨V3.out, U3.out⟩⟩, by simp [intOf]; omega⟩
          · rw [hnr] at hnI2 L
            simp only [if_true] at hnI2
            have HnI := Lib.hid hnI2
            clear hnI2 hnb hnr hnI
            go_wp2_with fail
            clear c0 c1 d0 d1
            refine (L.out _).mono ?_
            rintro e w3 ⟨rfl, b3⟩
            have V3 := Lib.hid (V2.out.below b3)
            have U3 := Lib.hid (Blk.on U2.out rfl b3)
            have Y3 := Lib.hid (Blk.on Y2.out rfl b3)
            have d0 := V3.out.B.cell 0; have d1 := V3.out.B.cell 1; have x0 := Y3.out.cell 0; have x1 := Y3.out.cell 1
            simp at d0 d1 x0 x1
            have f0 := V3.out.B.frozen 0; have f1 := V3.out.B.frozen 1
            clear b3
            go_wp2
            have hne : w.heap.size + 1 ≠ w.heap.size + 1 + 1 := by omega
            exact ⟨⟨n + 1, j + 1, f3, (n, d), by go_num, Hn1, by omega, HnI, Lib.hid ⟨V3.out.store Hnb.out, (U3.out.setO hne 0 _).setO hne 1 _⟩⟩, by simp [intOf]; omega⟩
        · obtain rfl : f2 = 0 := by omega
          have hnI2 := hnI.out
          rw [nfI_zero] at hnI2
          subst hnI2
          have ln : ¬ (n : Int) ≤ (q : Int) + 1 := by have := hn.out; omega
          clear c0 c1 d0 d1 hnI
          go_wp2
          exact ⟨⟨d + 1, f', b', by go_num, by omega, by omega, HN2, hW2⟩, by simp [intOf]; omega⟩
    · have hb : b = T := by
        have := hN.out
        obtain rfl : f = 0 := by omega
        rw [nfR_zero] at this
        exact this
      subst hb
      have ldm : ¬ (d : Int) ≤ (m : Int) := by omega
      have d0 := hW.out.1.B.cell 0; have d1 := hW.out.1.B.cell 1; have e0 := hW.out.2.cell 0; have e1 := hW.out.2.cell 1
      simp at d0 d1 e0 e1
      have f0 := hW.out.2.frozen 0; have f1 := hW.out.2.frozen 1
      clear hN
      go_wp2
      refine bodyPost_ret (ret_fr (x := (b.1 : Int)) (y := (b.2 : Int)) Try.results52 rfl ((hW.out.2.set 0 _).set 1 _)) rfl ⟨rfl, ?_⟩
      exact (hW.out.1.h.setCell (p := ⟨w.heap.size + 1, 0, none⟩) (by show w.heap.size ≤ w.heap.size + 1; omega) _).setCell (p := ⟨w.heap.size + 1, 1, none⟩) (by show w.heap.size ≤ w.heap.size + 1; omega) _
end Go.Proofs.Ytjkgiknklkfipaa
