/-
  The law FnFractions.
-/
import Derived.Test.YtjkgiknklkfipaaFfd
import Derived.Test.YtjkgiknklkfipaaFfc
import Derived.Test.YtjkgiknklkfipaaDse
import Derived.Deep.RegionHeld3
import Derived.Deep.DeepCutAuto
namespace Go.Proofs.Ytjkgiknklkfipaa
open Go.RowKit Go.ChangeShapes Go.WideShapes Go.Deep
attribute [local go_sem ↓] Go.wp_at_zero Go.wp_at_succ
set_option linter.unusedVariables false
set_option linter.unusedSimpArgs false
set_option maxRecDepth 100000
theorem ByIn.keep {w w' : World} {A : Option Addr} {n c : Nat} {zs : List Int} (h : ByIn w A n c zs) (hb : Below w.heap.size w w') : ByIn w' A n c zs := ⟨h.1, h.2.1, h.2.2.1, h.2.2.2.1.keep hb, h.2.2.2.2⟩
/-- What the law's calls answer for a target and a greatest denominator. -/
structure FrAll (a k N D b1 b2 : Nat) (ps : List Fr) : Prop where
  R : NfR N D
  D0 : 1 ≤ D
  ie : ∀ w, Calls Try.prog 10 #[.float .f32 a] w (RV (.tuple #[.agg #[.int .i64 (N : Int), .int .i64 (D : Int)], .int .i64 0]) w)
  se : ∀ w, Calls Try.prog 11 #[.float .f32 a] w (RV (.tuple #[.agg #[.int .i64 (N : Int), .int .i64 (D : Int)], .int .i64 0]) w)
  ic : ∀ w, Calls Try.prog 12 #[.float .f32 a, .int .i64 1000] w (RFr ps 0 w)
  sc : ∀ w, Calls Try.prog 13 #[.float .f32 a, .int .i64 1000] w (RFr ps 0 w)
  inn : ∀ w, Calls Try.prog 14 #[.float .f32 a, .int .i64 (1 + (k : Int))] w (RV (.tuple #[.agg #[.int .i64 (b1 : Int), .int .i64 (b2 : Int)], .int .i64 0]) w)
  sn : ∀ w, Calls Try.prog 15 #[.float .f32 a, .int .i64 (1 + (k : Int))] w (RV (.tuple #[.agg #[.int .i64 (b1 : Int), .int .i64 (b2 : Int)], .int .i64 0]) w)
  fw : ∃ r, floatBits .quo .f64 (floatOfInt .f64 (N : Int)) (floatOfInt .f64 (D : Int)) = some r ∧ floatToFloatBits .f64 r .f32 = some a
  na : nan32 a = false
  ch : Chain N D 1000 D 0 ps
  pl : ps.length ≤ 40
  p0 : 1 ≤ ps.length
  nb : NfB N D (b1, b2)
  bm : b2 ≤ k + 1
  nf : ∀ d j : Nat, 1 ≤ d → d ≤ k + 1 → j ≤ 1 → NoFar N D (b1, b2) (N * d / D + j, d)
theorem fr_all {a k : Nat} (ha : a < 4294967296) (h : tgB a = true) (hk : k < 120) : ∃ N D b1 b2 ps, FrAll a k N D b1 b2 ps := by
  obtain ⟨g1, g2, g3⟩ := exN_le ha h
  have hm : mostB a 1000 = true := by unfold mostB; rw [h]; rfl
  have hmk : mostK a 1000 = 0 := by unfold mostK; rw [hm]; rfl
  have hm2 : mostB a (1 + (k : Int)) = true := by unfold mostB; rw [h]; simp; omega
  have hnb : neB a (1 + (k : Int)) = true := by unfold neB; rw [hm2]; simp; omega
  have hnk : neK a (1 + (k : Int)) = 0 := by unfold neK; rw [hm2, if_pos rfl, if_pos (by omega)]
  have hna : neA a (1 + (k : Int)) = nfA (exN a) (exD a) (k + 1) := by unfold neA; rw [hnb, if_pos rfl, show (1 + (k : Int)).toNat = k + 1 by omega]
  have hps : cvP a 1000 = cvL 40 (exN a) (exD a) 0 1 1 0 1000 := by unfold cvP cvA; rw [if_pos hm, show (1000 : Int).toNat = 1000 from rfl]
  obtain ⟨c1, c2⟩ := cv_first (N := exN a) (D := exD a) (m := 1000) g3 (by decide) g1 g2
  obtain ⟨n1, n2, n3⟩ := near_all (N := exN a) (D := exD a) (m := k + 1) g3 (by omega) (by omega)
  have e1 := fun w => implExactOf_any a ha w
  have e2 := fun w => specExactOf_any a ha w
  have e3 : exP a = (exN a : Int) := by unfold exP; rw [h]; rfl
  have e4 : exQ a = (exD a : Int) := by unfold exQ; rw [h]; rfl
  have e5 : exC a = 0 := by unfold exC; rw [h]; rfl
  have i1 := fun w => implConvOf_any a 1000 ha w
  have i2 := fun w => specConvOf_any a 1000 ha w
  have j1 := fun w => implNear_any a (1 + (k : Int)) ha w
  have j2 := fun w => specNear_any a (1 + (k : Int)) ha w
  rw [e3, e4, e5] at e1 e2
  rw [hmk] at i1 i2
  rw [hna, hnk] at j1 j2
  have hl := cvP_len a 1000
  rw [← hps] at c1 c2
  refine ⟨exN a, exD a, (nfA (exN a) (exD a) (k + 1)).1, (nfA (exN a) (exD a) (k + 1)).2, cvP a 1000, exR ha h, g3, e1, e2, i1, i2, j1, j2, fr_words ha h, ?_, c1, hl, ?_, n1, n2, n3⟩
  · have := (tg_range ha h)
    exact nan_rg (by unfold rg; omega)
  · rcases Nat.eq_zero_or_pos (cvP a 1000).length with h0 | h0
    · exact absurd (List.length_eq_zero_iff.1 h0) c2
    · exact h0
theorem chain_at {N D : Nat} {ps : List Fr} (hc : Chain N D 1000 D 0 ps) {i : Nat} {p : Fr} (hp : ps[i]? = some p) : ∃ P Q r : Nat, p = ⟨(P : Int), (Q : Int)⟩ ∧ gapI N D P Q = r ∧ NfB N D (P, Q) ∧ r ≤ D ∧ 1 ≤ Q ∧ Q ≤ 1000 := by
  obtain ⟨P, Q, r, h1, h2, h3, h4, h5, h6⟩ := chain_get ps D 0 hc i p hp
  exact ⟨P, Q, r, h1, h2, nfb_of_gap h2 h3 h5 h6, h3, h5, h6⟩
theorem chain_two {N D : Nat} {ps : List Fr} (hc : Chain N D 1000 D 0 ps) {m : Nat} {p p' : Fr} (hp' : ps[m]? = some p') (hp : ps[m + 1]? = some p) : ∃ P Q r P' Q' r' : Nat, p = ⟨(P : Int), (Q : Int)⟩ ∧ p' = ⟨(P' : Int), (Q' : Int)⟩ ∧ gapI N D P Q = r ∧ gapI N D P' Q' = r' ∧ NfB N D (P, Q) ∧ NfB N D (P', Q') ∧ r ≤ r' ∧ Q' ≤ Q ∧ r' ≤ D ∧ 1 ≤ Q' ∧ Q ≤ 1000 := by
  obtain ⟨P', Q', r', P, Q, r, a1, a2, a3, a4, a5, a6, a7⟩ := chain_step ps D 0 hc m p' p hp' hp
  obtain ⟨P2, Q2, r2, b1, b2, b3, b4, b5, b6⟩ := chain_at hc hp
  obtain ⟨P3, Q3, r3, c1, c2, c3, c4, c5, c6⟩ := chain_at hc hp'
  rw [a2] at b1
  rw [a1] at c1
  injection b1 with x1 x2
  injection c1 with y1 y2
  obtain rfl : P = P2 := by omega
  obtain rfl : Q = Q2 := by omega
  obtain rfl : P' = P3 := by omega
  obtain rfl : Q' = Q3 := by omega
  exact ⟨P, Q, r, P', Q', r', a2, a1, a4, a3, b3, c3, a5, a6, a7, c5, b6⟩
/-- The products of a loop's two gaps and denominators. -/
theorem two_words {D r Q r' Q' : Nat} (hD : D ≤ 8589934592) (h1 : r ≤ r') (h2 : Q' ≤ Q) (h3 : r' ≤ D) (h4 : Q ≤ 1000) : ∃ u v : Nat, (r : Int) * (Q' : Int) = (u : Int) ∧ (r' : Int) * (Q : Int) = (v : Int) ∧ u ≤ v ∧ v ≤ 8589934592000 :=
  ⟨r * Q', r' * Q, (Int.natCast_mul r Q').symm, (Int.natCast_mul r' Q).symm, Nat.mul_le_mul h1 h2, Nat.le_trans (Nat.mul_le_mul (Nat.le_trans h3 hD) h4) (by decide)⟩
theorem rg_two {w W w' : World} {p q : Nat} {b o : Nat} {A0 A1 B0 B1 : Value} (h : W.cell? ⟨p, 0, none⟩ = some A0 ∧ W.cell? ⟨p, 1, none⟩ = some A1 ∧ W.cell? ⟨b, o, none⟩ = some B0 ∧ W.cell? ⟨b, q, none⟩ = some B1 ∧ Hid (Below w.heap.size w W)) (hb : Below W.heap.size W w') :
    w'.cell? ⟨p, 0, none⟩ = some A0 ∧ w'.cell? ⟨p, 1, none⟩ = some A1 ∧ w'.cell? ⟨b, o, none⟩ = some B0 ∧ w'.cell? ⟨b, q, none⟩ = some B1 ∧ Hid (Below w.heap.size w w') :=
  ⟨cell_onF h.1 rfl hb, cell_onF h.2.1 rfl hb, cell_onF h.2.2.1 rfl hb, cell_onF h.2.2.2.1 rfl hb, Lib.hid (b_then h.2.2.2.2.out hb)⟩
theorem num2 {m : Nat} (h : m < 1000) : Value.int .i64 (wrap64 ((m : Int) + 1 + 1)) = Value.int .i64 ((m + 2 : Nat) : Int) := by
  have e : wrap64 ((m : Int) + 1 + 1) = (m : Int) + 1 + 1 := by unfold wrap64; omega
  rw [e]
  exact congrArg (Value.int .i64) (by omega)
set_option maxHeartbeats 8000000 in
theorem walk_FnFractions (A0 : Option Addr) (n0 c0 : Nat) (zs0 : List Int) (A1 : Option Addr) (n1 c1 : Nat) (zs1 : List Int) (w : World) (h0 : ByIn w A0 n0 c0 zs0) (h1 : ByIn w A1 n1 c1 zs1) :
    Calls Try.prog 3 #[.slice A0 n0 c0, .slice A1 n1 c1] w fun e w' => e = .returned (.bool true) ∧ Below w.heap.size w w' := by
  have H0 := Lib.hid h0; have H1 := Lib.hid h1
  clear h0 h1
  have hlg := long_any A0 A1 n0 c0 n1 c1 w
  obtain ⟨tl, htl⟩ : ∃ t, (decide (3000 < n0) || decide (3000 < n1)) = t := ⟨_, rfl⟩
  rw [htl] at hlg
  have HLG := Lib.hid hlg
  clear hlg htl
  cases tl
  case true =>
    go_enter Try.func3, Try.ntmps3
    go_wp2_with fail
    refine HLG.out.mono ?_
    rintro e w1 ⟨rfl, rfl⟩
    go_wp2
    go_ret
    exact ⟨rfl, Below.refl _ _⟩
  go_enter Try.func3, Try.ntmps3
  go_wp2_with fail
  refine HLG.out.mono ?_
  rintro e w1 ⟨rfl, rfl⟩
  go_wp2_with fail
  refine (target_any H0.out).mono ?_
  rintro e w1 ⟨a, rfl, htg, ha, hb1⟩
  have D1 : Hid (Below w.heap.size w w1) := hb1
  clear hb1
  go_wp2_with fail
  refine (at_any (H1.out.keep D1.out) 0 (by omega) 120 (by omega) (by omega)).mono ?_
  rintro e w2 ⟨x0, x0a, x0b, rfl, rfl⟩
  obtain ⟨k, rfl⟩ := Int.eq_ofNat_of_zero_le x0a
  have hk120 : k < 120 := by omega
  obtain ⟨N, D, b1, b2, ps, F⟩ := fr_all ha htg hk120
  have HF := Lib.hid F
  have wk : IntKind.i64.wrap (1 + (k : Int)) = 1 + (k : Int) := IntWalk.i64_in _ (by omega)
  clear F htg ha x0a x0b
  go_wp2_with fail
  refine (HF.out.ie _).mono ?_
  rintro e w3 ⟨rfl, b⟩
  have B3 := Lib.hid b; have D3 : Hid (Below w.heap.size w w3) := b_then D1.out b
  clear b
  have k7 := Blk.new w3 #[.int .i64 (N : Int), .int .i64 (D : Int)] 28
  have K7 := Lib.hid k7
  have D3' : Hid (Below w.heap.size w (w3.alloc (.cells #[.int .i64 (N : Int), .int .i64 (D : Int)] 28))) := b_alloc D3.out _
  clear k7
  go_wp2_with fail
  refine (HF.out.se _).mono ?_
  rintro e w4 ⟨rfl, b⟩
  have B4 := Lib.hid b; have D4 : Hid (Below w.heap.size w w4) := b_then D3'.out b
  have K7a := Lib.hid (Blk.on K7.out (by rfl) b)
  clear b K7
  have k9 := Blk.new w4 #[.int .i64 (N : Int), .int .i64 (D : Int)] 28
  have K9 := Lib.hid k9
  have D4' : Hid (Below w.heap.size w (w4.alloc (.cells #[.int .i64 (N : Int), .int .i64 (D : Int)] 28))) := b_alloc D4.out _
  clear k9
  go_wp2_with fail
  refine (HF.out.ic _).mono ?_
  rintro e w5 h5
  obtain ⟨A5, c5, rfl, t5, -, -, b⟩ := h5.facts
  have T5 := Lib.hid t5; have B5 := Lib.hid b; have D5 : Hid (Below w.heap.size w w5) := b_then D4'.out b
  have K7b := Lib.hid (Blk.on (Blk.on K7a.out (by rfl) (b_alloc (Below.refl _ _) _)) (by rfl) b)
  have K9a := Lib.hid (Blk.on K9.out (by rfl) b)
  clear b t5 h5 K7a K9
  go_wp2_with fail
  refine (HF.out.sc _).mono ?_
  rintro e w6 h6
  obtain ⟨A6, c6, rfl, t6, -, -, b⟩ := h6.facts
  have T6 := Lib.hid t6; have B6 := Lib.hid b; have D6 : Hid (Below w.heap.size w w6) := b_then D5.out b
  have T5a := Lib.hid (T5.out.keep b)
  have K7c := Lib.hid (Blk.on K7b.out (by rfl) b)
  have K9b := Lib.hid (Blk.on K9a.out (by rfl) b)
  clear b t6 h6 K7b K9a T5
  go_wp2_with fail
  refine (HF.out.inn _).mono ?_
  rintro e w7 ⟨rfl, b⟩
  have D7 : Hid (Below w.heap.size w w7) := b_then D6.out b
  have T5b := Lib.hid (T5a.out.keep b); have T6a := Lib.hid (T6.out.keep b)
  have K7d := Lib.hid (Blk.on K7c.out (by rfl) b)
  have K9c := Lib.hid (Blk.on K9b.out (by rfl) b)
  clear b K7c K9b T5a T6
  have k15 := Blk.new w7 #[.int .i64 (b1 : Int), .int .i64 (b2 : Int)] 28
  have K15 := Lib.hid k15
  have D7' : Hid (Below w.heap.size w (w7.alloc (.cells #[.int .i64 (b1 : Int), .int .i64 (b2 : Int)] 28))) := b_alloc D7.out _
  clear k15
  go_wp2_with fail
  refine (HF.out.sn _).mono ?_
  rintro e w8 ⟨rfl, b⟩
  have bz : Below w7.heap.size w7 w8 := (b_alloc (Below.refl _ _) _).trans (b.mono (by simp))
  have D8 : Hid (Below w.heap.size w w8) := b_then D7'.out b
  have T5c := Lib.hid (T5b.out.keep bz); have T6b := Lib.hid (T6a.out.keep bz)
  have K7e := Lib.hid (Blk.on K7d.out (by rfl) bz)
  have K9d := Lib.hid (Blk.on K9c.out (by rfl) bz)
  have K15a := Lib.hid (Blk.on K15.out (by rfl) b)
  clear b bz K7d K9c T5b T6a K15
  have k17 := Blk.new w8 #[.int .i64 (b1 : Int), .int .i64 (b2 : Int)] 28
  have bw := b_alloc (Below.refl w8.heap.size w8) (.cells #[.int .i64 (b1 : Int), .int .i64 (b2 : Int)] 28)
  have K17 := Lib.hid k17
  have D9 : Hid (Below w.heap.size w (w8.alloc (.cells #[.int .i64 (b1 : Int), .int .i64 (b2 : Int)] 28))) := b_alloc D8.out _
  have T5d := Lib.hid (T5c.out.keep bw); have T6c := Lib.hid (T6b.out.keep bw)
  have K7f := Lib.hid (Blk.on K7e.out (by rfl) bw)
  have K9e := Lib.hid (Blk.on K9d.out (by rfl) bw)
  have K15b := Lib.hid (Blk.on K15a.out (by rfl) bw)
  clear k17 bw K7e K9d T5c T6b K15a
  go_upto_region 11 with fail
  generalize w8.alloc (.cells #[.int .i64 (b1 : Int), .int .i64 (b2 : Int)] 28) = W at *
  obtain ⟨r64, hq, hn⟩ := HF.out.fw
  have rq := fun w => run_float_arith (P := Try.prog) w .quo 35 .f64 _ _ _ hq
  have cv := fun w => run_convert_float_float (P := Try.prog) w 35 24 .f64 .f32 _ _ (by rw [Try.underlying35]; rfl) Try.underlying24 hn
  have oa : FloatKind.f32.format.order a a = some .eq := order_self (k := .f32) HF.out.na
  have i1 : ¬ (D : Int) < 1 := by have := HF.out.D0; omega
  have i2 : ¬ (ps.length : Int) < 1 := by have := HF.out.p0; omega
  have i3 : ¬ (b2 : Int) < 1 := by have := HF.out.nb.1; simp only at this; omega
  have i4 : ¬ (b2 : Int) > 1 + (k : Int) := by have := HF.out.bm; omega
  have i5 : ¬ (b1 : Int) < 0 := by omega
  have i4' : ¬ 1 + (k : Int) < (b2 : Int) := by omega
  have p0 := K7f.out.cell 0; have p1 := K7f.out.cell 1; have q0 := K9e.out.cell 0; have q1 := K9e.out.cell 1
  have r0 := K15b.out.cell 0; have r1 := K15b.out.cell 1; have s0 := K17.out.cell 0; have s1 := K17.out.cell 1
  simp at p0 p1 q0 q1 r0 r1 s0 s1
  go_cut [149] (fun s149 wx => s149 = .bool false ∧ Below W.heap.size W wx)
  case first =>
    go_wp2_with fail
    refine (sameFr_any A5 A6 _ _ _ ps _ rfl HF.out.pl T5d.out T6c.out).mono ?_
    rintro e w10 ⟨rfl, b⟩
    have B10 := Lib.hid b
    have p0 := (Blk.on K7f.out (by rfl) b).cell 0; have p1 := (Blk.on K7f.out (by rfl) b).cell 1; have q0 := (Blk.on K9e.out (by rfl) b).cell 0; have q1 := (Blk.on K9e.out (by rfl) b).cell 1
    have r0 := (Blk.on K15b.out (by rfl) b).cell 0; have r1 := (Blk.on K15b.out (by rfl) b).cell 1; have s0 := (Blk.on K17.out (by rfl) b).cell 0; have s1 := (Blk.on K17.out (by rfl) b).cell 1
    simp at p0 p1 q0 q1 r0 r1 s0 s1
    clear b
    go_wp2_with fail
    go_meet
    refine ⟨congrArg Value.bool ?_, B10.out⟩
    rw [decide_eq_false (by omega : ¬ (ps.length : Int) < 1), decide_eq_false (by omega : ¬ (b2 : Int) < 1), decide_eq_false (by omega : ¬ 1 + (k : Int) < (b2 : Int)), decide_eq_false (by omega : ¬ (b1 : Int) < 0)]
    rfl
  case rest =>
    obtain ⟨rfl, b⟩ := hcut
    have D10 : Hid (Below w.heap.size w wc) := b_then D9.out b
    have K9 := Lib.hid (Blk.on K9e.out (by rfl) b)
    have K17a := Lib.hid (Blk.on K17.out (by rfl) b)
    have T6 := Lib.hid (T6c.out.keep b)
    clear b p0 p1 q0 q1 r0 r1 s0 s1 rq cv oa i1 i2 i3 i4 i5 hq hn K7f K9e K15b K17 T5d T6c D9 D1 D3 D3' D4 D4' D5 D6 D7 D7' D8 B3 B4 B5 B6 HLG H0 H1
    obtain ⟨bl, off, rfl, hbs, hc⟩ := T6.out (by have := HF.out.p0; omega)
    have HBS := Lib.hid hbs; have HCC := Lib.hid hc
    clear hbs hc T6
    obtain ⟨n, hn⟩ : ∃ n, ps.length = n := ⟨_, rfl⟩
    have HN := Lib.hid hn
    simp only [hn]
    clear hn
    as_aux_lemma =>
    go_wp2_with fail
    go_loopw [19, 20, 21, 22, 23] (fun v19 _ _ _ _ wr => ∃ i : Nat, i ≤ n ∧ v19 = .int .i64 i ∧ Hid (Below wc.heap.size wc wr)) (fun v19 _ _ _ _ _ => n - (intOf v19).toNat)
    case atStart => exact ⟨0, Nat.zero_le _, rfl, Lib.hid (Below.refl _ _)⟩
    case round =>
      obtain ⟨i, hi, rfl, hB⟩ := hrel
      by_cases hlt : i < n
      · have k9 := K9.out.on rfl hB.out
        have c0 := k9.cell 0; have c1 := k9.cell 1
        simp at c0 c1
        clear k9
        obtain ⟨p, hp⟩ : ∃ p, ps[i]? = some p := ⟨_, List.getElem?_eq_getElem (by have := HN.out; omega)⟩
        cases i with
        | zero =>
          obtain ⟨P, Q, r, he, hg, hnb, hrD, hq1, hq2⟩ := chain_at HF.out.ch hp
          subst he
          obtain ⟨e0, e1⟩ := Fr.at (rangeAt_of_block (HCC.out 0 _ hp) (hB.out.block bl HBS.out))
          simp at e0 e1
          have j1 : decide ((Q : Int) < 1) = false := decide_eq_false (by omega)
          have j2 : decide ((1000 : Int) < (Q : Int)) = false := decide_eq_false (by omega)
          have j3 : (0 : Int) < (n : Int) := by omega
          clear hp hg hnb hrD hq1 hq2 c0 c1
          go_wp2_with fail
          go_quiet (fail)
          all_goals
            go_wp2
            refine ⟨⟨0 + 1, by omega, by go_num, ?_⟩, by simp [intOf]; omega⟩
            first | exact Lib.hid (b_drewN hB.out _) | exact Lib.hid hB.out.drew | exact hB
        | succ m =>
          obtain ⟨p', hp'⟩ : ∃ p, ps[m]? = some p := ⟨_, List.getElem?_eq_getElem (by have := HN.out; omega)⟩
          obtain ⟨P, Q, r, P', Q', r', he, he', hg, hg', hnb, hnb', hr, hq, hrD, hq1, hq2⟩ := chain_two HF.out.ch hp' hp
          subst he
          subst he'
          obtain ⟨e0, e1⟩ := Fr.at (rangeAt_of_block (HCC.out (m + 1) _ hp) (hB.out.block bl HBS.out))
          obtain ⟨g0, g1⟩ := Fr.at (rangeAt_of_block (HCC.out m _ hp') (hB.out.block bl HBS.out))
          simp at e0 e1 g0 g1
          have HGG := Lib.hid (fun W (b : Below wc.heap.size wc W) => Fr.at (rangeAt_of_block (HCC.out m _ hp') (b.block bl HBS.out)))
          obtain ⟨u, v, hu, hv, huv, hvb⟩ := two_words HF.out.R.2 hr hq hrD hq2
          have L1 := Lib.hid (fun W => far_any HF.out.R hnb W)
          have L2 := Lib.hid (fun W => far_any HF.out.R hnb' W)
          rw [hg] at L1
          rw [hg'] at L2
          have wu : IntKind.i64.wrap (u : Int) = (u : Int) := IntWalk.i64_in _ (by omega)
          have wv : IntKind.i64.wrap (v : Int) = (v : Int) := IntWalk.i64_in _ (by omega)
          have j1 : decide ((Q : Int) < 1) = false := decide_eq_false (by omega)
          have j2 : decide ((1000 : Int) < (Q : Int)) = false := decide_eq_false (by omega)
          have j3 : decide ((Q : Int) < (Q' : Int)) = false := decide_eq_false (by omega)
          have j4 : ¬ (v : Int) < (u : Int) := by omega
          have j6 : ¬ Q < Q' := by omega
          have j7 : ¬ v < u := by omega
          have j5 : decide ((0 : Int) < (m : Int) + 1) = true := decide_eq_true (by omega)
          have ws : IntKind.i64.wrap ((m : Int) + 1 - 1) = (m : Int) := by rw [Int.add_sub_cancel]; exact IntWalk.i64_in _ (by have := HF.out.pl; have := HN.out; omega)
          have wm : IntKind.i64.wrap (m : Int) = (m : Int) := IntWalk.i64_in _ (by have := HF.out.pl; have := HN.out; omega)
          have wm1 : IntKind.i64.wrap ((m : Int) + 1) = (m : Int) + 1 := IntWalk.i64_in _ (by have := HF.out.pl; have := HN.out; omega)
          have y0 : (0 : Int) ≤ (m : Int) := by omega
          have y1 : (m : Int) + 1 < (n : Int) := by omega
          have y2 : (0 : Int) ≤ (m : Int) + 1 := by omega
          have y3 : (m : Int) < (n : Int) := by omega
          have y4 : (0 : Int) < (m : Int) + 1 := by omega
          have MN := Lib.hid hlt
          clear hp hp' hg hg' hnb hnb' hr hq hrD hq1 hq2 huv hvb hi hlt
          go_wp2_with fail
          go_quiet (fail)
          all_goals
            go_wp2_with fail
            go_region_held3 (fun w' => w'.cell? ⟨w4.heap.size, 0, none⟩ = some (.int .i64 (N : Int)) ∧ w'.cell? ⟨w4.heap.size, 1, none⟩ = some (.int .i64 (D : Int)) ∧ w'.cell? ⟨bl, off + (m + 1) * 2, none⟩ = some (.int .i64 (P : Int)) ∧ w'.cell? ⟨bl, off + (m + 1) * 2 + 1, none⟩ = some (.int .i64 (Q : Int)) ∧ Hid (Below wc.heap.size wc w'))
              (first
                | exact ⟨c0, c1, e0, e1, Lib.hid (b_drew (b_drewN hB.out _))⟩
                | exact ⟨c0, c1, e0, e1, Lib.hid (b_drew hB.out)⟩
                | assumption)
              ((go_at_call 17; refine (L1.out _).mono ?_; rintro e w' ⟨rfl, b⟩; have C := rg_two (by assumption) b; clear b))
            clear c0 c1 e0 e1 g0 g1
            obtain ⟨c0, c1, -, -, hC⟩ := C
            obtain ⟨g0, g1⟩ := HGG.out _ hC.out
            go_wp2_with fail
            go_region_held3 (fun w' => w'.cell? ⟨w4.heap.size, 0, none⟩ = some (.int .i64 (N : Int)) ∧ w'.cell? ⟨w4.heap.size, 1, none⟩ = some (.int .i64 (D : Int)) ∧ w'.cell? ⟨bl, off + m * 2, none⟩ = some (.int .i64 (P' : Int)) ∧ w'.cell? ⟨bl, off + m * 2 + 1, none⟩ = some (.int .i64 (Q' : Int)) ∧ Hid (Below wc.heap.size wc w'))
              (first
                | exact ⟨c0, c1, g0, g1, Lib.hid (b_drew hC.out)⟩
                | exact ⟨c0, c1, g0, g1, Lib.hid (b_drew (b_drewN hC.out _))⟩
                | assumption)
              ((go_at_call 17; refine (L2.out _).mono ?_; rintro e w' ⟨rfl, b⟩; have C := rg_two (by assumption) b; clear b))
            have hD := Lib.hid C.2.2.2.2.out
            clear c0 c1 g0 g1 C
            go_wp2
            have hn40 : n ≤ 40 := by have := HF.out.pl; have := HN.out; omega
            have hm1 := MN.out
            clear ws wm wm1 wu wv wk hu hv j1 j2 j3 j5
            rw [num2 (m := m) (by omega)]
            exact ⟨⟨m + 2, by omega, rfl, hD⟩, by simp [intOf]; omega⟩
      · obtain rfl : i = n := by omega
        have D11 : Hid (Below w.heap.size w wr) := b_then D10.out hB.out
        have K9b := Lib.hid (K9.out.on rfl hB.out)
        have K17b := Lib.hid (K17a.out.on rfl hB.out)
        have LF := Lib.hid (fun (n d : Nat) (h : NfB N D (n, d)) W => far_any HF.out.R h W)
        have L1 := Lib.hid (LF.out b1 b2 HF.out.nb)
        obtain ⟨G, hG⟩ : ∃ G, gapI N D b1 b2 = G := ⟨_, rfl⟩
        rw [hG] at L1
        have HG := Lib.hid hG
        have c0 := K9b.out.cell 0; have c1 := K9b.out.cell 1; have d0 := K17b.out.cell 0; have d1 := K17b.out.cell 1
        simp at c0 c1 d0 d1
        clear hi hlt K9 K17a HBS HCC hB HN hG D10
        as_aux_lemma =>
        go_wp2_with fail
        refine (L1.out _).mono ?_
        rintro e w12 ⟨rfl, b⟩
        have D12 : Hid (Below w.heap.size w w12) := b_then D11.out b
        have K9c := Lib.hid (Blk.on K9b.out rfl b)
        have K17c := Lib.hid (Blk.on K17b.out rfl b)
        clear b c0 c1 d0 d1 K9b K17b D11 L1
        go_wp2_with fail
        go_loopw [26, 27, 28, 29, 30] (fun vd _ _ _ _ wr2 => ∃ d : Nat, vd = .int .i64 d ∧ 1 ≤ d ∧ d ≤ k + 2 ∧ Hid (Below w12.heap.size w12 wr2)) (fun vd _ _ _ _ _ => k + 2 - (intOf vd).toNat)
        case atStart => exact ⟨1, rfl, Nat.le_refl _, by omega, Lib.hid (Below.refl _ _)⟩
        case round =>
          obtain ⟨d, rfl, hd1, hd2, hB⟩ := hrel
          by_cases hlt : d ≤ k + 1
          · have hd3 : d ≤ 1000 := by omega
            have hxl := mul_le24 HF.out.R.1 hd3
            have hD0 := HF.out.D0
            have hin := fun j (hj : j < 2) => NfB.inner (N := N) hD0 hd1 hd3 hj
            have hnf := fun j (hj : j ≤ 1) => HF.out.nf d j hd1 hlt hj
            have ex : (N : Int) * (d : Int) = ((N * d : Nat) : Int) := by simp
            have hqq := wqB (x := N * d) (y := D) (by omega)
            have hql := Nat.div_le_self (N * d) D
            obtain ⟨x, hx⟩ : ∃ x, N * d = x := ⟨_, rfl⟩
            rw [hx] at hxl hin hnf ex hqq hql
            obtain ⟨q, hq⟩ : ∃ q, x / D = q := ⟨_, rfl⟩
            rw [hq] at hin hnf hqq hql
            have Hin := Lib.hid hin
            have Hnf := Lib.hid hnf
            have ldm : (d : Int) ≤ 1 + (k : Int) := by omega
            have z1 : ¬ D = 0 := by omega
            have k9 := K9c.out.on rfl hB.out
            have c0 := k9.cell 0; have c1 := k9.cell 1
            simp at c0 c1
            have HD1 := Lib.hid hd1
            clear hin hnf hx hq k9 hD0 hd1
            go_wp2_with fail
            clear c0 c1 ex hqq z1 ldm
            go_loopw [28, 29, 30] (fun vk _ _ wr3 => ∃ j : Nat, vk = .int .i64 j ∧ j ≤ 2 ∧ Hid (Below w12.heap.size w12 wr3)) (fun vk _ _ _ => 2 - (intOf vk).toNat)
            case atStart => exact ⟨0, rfl, by omega, hB⟩
            case round =>
              obtain ⟨j, rfl, hj, hB2⟩ := hrel
              by_cases hj2 : j < 2
              · have hnb := Hin.out j hj2
                have hnf := Hnf.out j (by omega)
                obtain ⟨u, v, hu, hv, u1, u2, v1, v2, -⟩ := near_words HF.out.R hnb HF.out.nb
                unfold NoFar at hnf
                simp only at hnf
                rw [hu, hv] at hnf
                obtain ⟨hvu, hne⟩ := hnf
                have L2 := Lib.hid (LF.out (q + j) d hnb)
                have hci : ((q + j : Nat) : Int) = (q : Int) + (j : Int) := by simp
                rw [hci] at L2
                rw [HG.out] at hv
                obtain ⟨g1, hg1⟩ : ∃ g, gapI N D (q + j) d = g := ⟨_, rfl⟩
                rw [hg1] at hu L2
                have k9 := K9c.out.on rfl hB2.out
                have c0 := k9.cell 0; have c1 := k9.cell 1
                simp at c0 c1
                have lj : (j : Int) < 2 := by omega
                have HNE := Lib.hid hne
                have HVU := Lib.hid hvu
                clear hnb k9 hci hg1 hne hvu
                go_wp2_with fail
                refine (L2.out _).mono ?_
                rintro e w13 ⟨rfl, b⟩
                have hB3 : Hid (Below w12.heap.size w12 w13) := Lib.hid (b_then hB2.out b)
                have k17 := K17c.out.on rfl hB3.out
                have d1 := k17.cell 1
                simp at d1
                clear b c0 c1 k17
                by_cases huv : u = v
                · have f0 := HNE.out huv
                  subst huv
                  have f1 : ¬ (d : Int) < (b2 : Int) := by omega
                  have f2 : ¬ d < b2 := by omega
                  go_wp2
                  exact ⟨⟨j + 1, by go_num, by omega, hB3⟩, by simp [intOf]; omega⟩
                · have f0 := HVU.out
                  have f1 : ¬ u < v := by omega
                  go_wp2
                  exact ⟨⟨j + 1, by go_num, by omega, hB3⟩, by simp [intOf]; omega⟩
              · obtain rfl : j = 2 := by omega
                have HDD := HD1.out
                go_wp2
                exact ⟨⟨d + 1, by go_num, by omega, by omega, hB2⟩, by simp [intOf]; omega⟩
          · have g0 : ¬ (d : Int) ≤ 1 + (k : Int) := by omega
            go_wp2
            go_ret
            exact ⟨rfl, b_then D12.out hB.out⟩
end Go.Proofs.Ytjkgiknklkfipaa
