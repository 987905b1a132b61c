/-
  The law of DressedDay.
-/
import Derived.Test.YtjkgiknklkfipaaHdc
import Derived.Test.YtjkgiknklkfipaaDdf
import Derived.Test.YtjkgiknklkfipaaSh
import Derived.Test.YtjkgiknklkfipaaFlIn2
import Derived.Deep.DeepCutAuto
namespace Go.Proofs.Ytjkgiknklkfipaa
open Go.RowKit Go.ChangeShapes Go.WideShapes Go.Deep
attribute [local go_sem ↓] Go.wp_at_zero Go.wp_at_succ
set_option linter.unusedVariables false
set_option linter.unusedSimpArgs false
set_option maxRecDepth 100000
theorem ddyL_le {K : Int} {S : Sn} {ts : List Nat} {f l : Nat} (h : K = 0 → ts.length ≤ 60) : (ddyL K S ts f l).length ≤ 60 := by
  unfold ddyL
  split
  · rw [ddL_len]; exact h (by assumption)
  · simp
set_option maxHeartbeats 8000000 in
theorem walk_FnExactDressedDay (S : Sn) (wS : (Lit.float .f32 S.d).wf = true ∧ (Lit.float .f32 S.r).wf = true ∧ (Lit.float .f32 S.b).wf = true ∧ (Lit.float .f32 S.g).wf = true) (A : Option Addr) (n c : Nat) (ts : List Nat) (f : Nat) (wf : (Lit.float .f32 f).wf = true) (l : Nat) (wl : (Lit.float .f32 l).wf = true) (w : World) (h : FlIn w A n c ts) :
    Calls Try.prog 4 #[.agg #[.float .f32 S.d, .float .f32 S.r, .float .f32 S.b, .float .f32 S.g], .slice A n c, .float .f32 f, .float .f32 l] w fun e w' => e = .returned (.bool true) ∧ Below w.heap.size w w' := by
  obtain ⟨hl, hnc, hc, hT⟩ := h
  have hnm : n ≤ maxLen := Nat.le_trans hnc hc
  unfold maxLen at hnm
  have Hl := Lib.hid hl; have HT := Lib.hid hT
  clear hT hnc hc
  obtain ⟨KK, hKK⟩ : ∃ k, codeDay S ts n ((ts.all psB && rtB f) && partB l) = k := ⟨_, rfl⟩
  obtain ⟨CS, hCS⟩ : ∃ k, ddyS KK S ts f l n = k := ⟨_, rfl⟩
  obtain ⟨CL, hCL⟩ : ∃ k, ddyL KK S ts f l = k := ⟨_, rfl⟩
  obtain ⟨CC, hCC⟩ : ∃ k, ddyC KK S ts f l n = k := ⟨_, rfl⟩
  have hle : CL.length ≤ 60 := by rw [← hCL]; exact ddyL_le (fun h => by rw [hl]; exact codeDay_len (hKK.trans h))
  have SPC : Hid (∀ (A : Option Addr) (c : Nat) (w : World), n ≤ 1048576 → Fo w w.heap.size A ts → Calls Try.prog 18 #[.agg #[.float .f32 S.d, .float .f32 S.r, .float .f32 S.b, .float .f32 S.g], .slice A n c, .float .f32 f, .float .f32 l] w (RDdC CS CL CC KK w)) := fun A c w hn hT => by rw [← hCS, ← hCL, ← hCC, ← hKK]; exact specDressedDay_any S A n c ts f l w hl hn hT
  have IMC : Hid (∀ (A : Option Addr) (c : Nat) (w : World), n ≤ 1048576 → Fo w w.heap.size A ts → Calls Try.prog 21 #[.agg #[.float .f32 S.d, .float .f32 S.r, .float .f32 S.b, .float .f32 S.g], .slice A n c, .float .f32 f, .float .f32 l] w (RDdC CS CL CC KK w)) := fun A c w hn hT => by rw [← hCS, ← hCL, ← hCC, ← hKK]; exact implDressedDay_any S A n c ts f l w hl hn hT
  have HLE := Lib.hid hle
  clear hle hCS hCL hCC hKK hl
  by_cases z0 : 1048576 < (n : Int)
  · go_enter Try.func4, Try.ntmps4
    go_wp2
    go_ret
    refine ⟨rfl, ?_⟩
    repeat (first | exact Below.refl _ _ | refine b_alloc ?_ _)
  have kb : n ≤ 1048576 := by omega
  go_enter Try.func4, Try.ntmps4
  go_upto_region 3 with fail
  have kqS : AtLSn (w.alloc (.cells #[.float .f32 S.d, .float .f32 S.r, .float .f32 S.b, .float .f32 S.g] 40)) w.heap.size S := AtLSn.new _ _
  have bqS : Below w.heap.size w (w.alloc (.cells #[.float .f32 S.d, .float .f32 S.r, .float .f32 S.b, .float .f32 S.g] 40)) := b_alloc (Below.refl _ _) _
  have hqS : w.heap.size < (w.alloc (.cells #[.float .f32 S.d, .float .f32 S.r, .float .f32 S.b, .float .f32 S.g] 40)).heap.size := by simp
  generalize w.alloc (.cells #[.float .f32 S.d, .float .f32 S.r, .float .f32 S.b, .float .f32 S.g] 40) = V0 at *
  have KQS := Lib.hid kqS; have BQS := Lib.hid bqS; clear kqS bqS
  have B1 : Hid (Below w.heap.size w V0) := BQS.out
  have D1 : Hid (Below w.heap.size w V0) := B1.out
  have s1 : w.heap.size ≤ V0.heap.size := B1.out.size
  obtain ⟨c0, c1, c2, c3⟩ := (KQS.out).cells
  go_wp2_with fail
  refine (toSn_any S _).mono ?_
  rintro e w1 ⟨rfl, b⟩
  have BX := Lib.hid b; clear b
  clear c0 c1 c2 c3
  have B2 : Hid (Below V0.heap.size V0 w1) := BX.out
  have D2 : Hid (Below w.heap.size w w1) := b_then D1.out B2.out
  have s2 : V0.heap.size ≤ w1.heap.size := B2.out.size
  clear BX
  go_wp2_with fail
  refine (toFloats_any A n c ts _ Hl.out kb (HT.out.keep D2.out)).mono ?_
  rintro e w2 ⟨rfl, m⟩
  have M2 := Lib.hid m; clear m
  have g2 : w1.heap.size < w2.heap.size := M2.out.2.2.1
  have B3 : Hid (Below w1.heap.size w1 w2) := M2.out.2.2.2
  have D3 : Hid (Below w.heap.size w w2) := b_then D2.out B3.out
  have s3 : w1.heap.size ≤ w2.heap.size := B3.out.size
  go_wp2_with fail
  refine (SPC.out _ _ _ kb (fo_of_flD M2.out.fl.weak)).mono ?_
  rintro e w3 ⟨T3, A3, n3, c3, fs3, rfl, hT, hl, hm, hf, ho, ha, b⟩
  have TT3 := Lib.hid hT; have L3 := Lib.hid hl; have C3 := Lib.hid hm; have F3 := Lib.hid hf.weak; have O3 := Lib.hid ho; have Y3 := Lib.hid ha; have BX := Lib.hid b
  have hb3 : n3 ≤ 60 := by have h1 := congrArg List.length hm; rw [List.length_map, hl] at h1; rw [h1]; exact HLE.out
  clear hT hl hm hf ho ha b
  have B4 : Hid (Below w2.heap.size w2 w3) := BX.out
  have D4 : Hid (Below w.heap.size w w3) := b_then D3.out B4.out
  have s4 : w2.heap.size ≤ w3.heap.size := B4.out.size
  clear BX
  go_upto_region 4 with fail
  have kq3 : AtSn (w3.alloc (.cells #[.float .f32 T3.d, .float .f32 T3.r, .float .f32 T3.b, .float .f32 T3.g] 42)) w3.heap.size T3 := AtSn.new _ _
  have bq3 : Below w3.heap.size w3 (w3.alloc (.cells #[.float .f32 T3.d, .float .f32 T3.r, .float .f32 T3.b, .float .f32 T3.g] 42)) := b_alloc (Below.refl _ _) _
  have hq3 : w3.heap.size < (w3.alloc (.cells #[.float .f32 T3.d, .float .f32 T3.r, .float .f32 T3.b, .float .f32 T3.g] 42)).heap.size := by simp
  generalize w3.alloc (.cells #[.float .f32 T3.d, .float .f32 T3.r, .float .f32 T3.b, .float .f32 T3.g] 42) = V3 at *
  have KQ3 := Lib.hid kq3; have BQ3 := Lib.hid bq3; clear kq3 bq3
  have B5 : Hid (Below w3.heap.size w3 V3) := BQ3.out
  have D5 : Hid (Below w.heap.size w V3) := b_then D4.out B5.out
  have s5 : w3.heap.size ≤ V3.heap.size := B5.out.size
  go_wp2_with fail
  refine (toFloats_any A n c ts _ Hl.out kb (HT.out.keep D5.out)).mono ?_
  rintro e w4 ⟨rfl, m⟩
  have M4 := Lib.hid m; clear m
  have g4 : V3.heap.size < w4.heap.size := M4.out.2.2.1
  have B6 : Hid (Below V3.heap.size V3 w4) := M4.out.2.2.2
  have D6 : Hid (Below w.heap.size w w4) := b_then D5.out B6.out
  have s6 : V3.heap.size ≤ w4.heap.size := B6.out.size
  obtain ⟨c0, c1, c2, c3⟩ := ((AtLSn.on (AtLSn.on (AtLSn.on (AtLSn.on (AtLSn.on KQS.out (by rfl) B2.out) (by rfl) B3.out) (by rfl) B4.out) (by rfl) B5.out) (by rfl) B6.out)).cells
  go_wp2_with fail
  refine (toSn_any S _).mono ?_
  rintro e w5 ⟨rfl, b⟩
  have BX := Lib.hid b; clear b
  clear c0 c1 c2 c3
  have B7 : Hid (Below w4.heap.size w4 w5) := BX.out
  have D7 : Hid (Below w.heap.size w w5) := b_then D6.out B7.out
  have s7 : w4.heap.size ≤ w5.heap.size := B7.out.size
  clear BX
  go_wp2_with fail
  refine (IMC.out _ _ _ kb (fo_of_flD (M4.out.fl.weak.keep B7.out))).mono ?_
  rintro e w6 ⟨T6, A6, n6, c6, fs6, rfl, hT, hl, hm, hf, ho, ha, b⟩
  have TT6 := Lib.hid hT; have L6 := Lib.hid hl; have C6 := Lib.hid hm; have F6 := Lib.hid hf.weak; have O6 := Lib.hid ho; have Y6 := Lib.hid ha; have BX := Lib.hid b
  have hb6 : n6 ≤ 60 := by have h1 := congrArg List.length hm; rw [List.length_map, hl] at h1; rw [h1]; exact HLE.out
  clear hT hl hm hf ho ha b
  have B8 : Hid (Below w5.heap.size w5 w6) := BX.out
  have D8 : Hid (Below w.heap.size w w6) := b_then D7.out B8.out
  have s8 : w5.heap.size ≤ w6.heap.size := B8.out.size
  clear BX
  have E6 : Hid (fs6.map cn = fs3.map cn) := C6.out.trans C3.out.symm
  obtain rfl : n6 = n3 := by
    have h1 := congrArg List.length E6.out
    rw [List.length_map, List.length_map, L6.out, L3.out] at h1
    exact h1
  go_upto_region 6 with fail
  have kq6 : AtSn (w6.alloc (.cells #[.float .f32 T6.d, .float .f32 T6.r, .float .f32 T6.b, .float .f32 T6.g] 42)) w6.heap.size T6 := AtSn.new _ _
  have bq6 : Below w6.heap.size w6 (w6.alloc (.cells #[.float .f32 T6.d, .float .f32 T6.r, .float .f32 T6.b, .float .f32 T6.g] 42)) := b_alloc (Below.refl _ _) _
  have hq6 : w6.heap.size < (w6.alloc (.cells #[.float .f32 T6.d, .float .f32 T6.r, .float .f32 T6.b, .float .f32 T6.g] 42)).heap.size := by simp
  generalize w6.alloc (.cells #[.float .f32 T6.d, .float .f32 T6.r, .float .f32 T6.b, .float .f32 T6.g] 42) = V6 at *
  have KQ6 := Lib.hid kq6; have BQ6 := Lib.hid bq6; clear kq6 bq6
  have B9 : Hid (Below w6.heap.size w6 V6) := BQ6.out
  have D9 : Hid (Below w.heap.size w V6) := b_then D8.out B9.out
  have s9 : w6.heap.size ≤ V6.heap.size := B9.out.size
  obtain ⟨x0, x1, x2, x3⟩ := (KQ6.out).cells
  obtain ⟨y0, y1, y2, y3⟩ := ((AtSn.on (AtSn.on (AtSn.on (AtSn.on KQ3.out (by rfl) B6.out) (by rfl) B7.out) (by rfl) B8.out) (by rfl) B9.out)).cells
  go_wp2_with fail
  refine (eqSn_same T6 T3 (TT6.out.trans TT3.out.symm) _).mono ?_
  rintro e w7 ⟨rfl, b⟩
  have BX := Lib.hid b; clear b x0 x1 x2 x3 y0 y1 y2 y3
  have B10 : Hid (Below V6.heap.size V6 w7) := BX.out
  have D10 : Hid (Below w.heap.size w w7) := b_then D9.out B10.out
  have s10 : V6.heap.size ≤ w7.heap.size := B10.out.size
  clear BX
  go_wp2_with fail
  refine (eqFloats_same _ _ _ _ _ fs6 fs3 _ L6.out E6.out (by omega) ((F6.out.keep B9.out).keep B10.out) ((((((F3.out.keep B5.out).keep B6.out).keep B7.out).keep B8.out).keep B9.out).keep B10.out)).mono ?_
  rintro e w8 ⟨rfl, b⟩
  have BX := Lib.hid b; clear b
  have B11 : Hid (Below w7.heap.size w7 w8) := BX.out
  have D11 : Hid (Below w.heap.size w w8) := b_then D10.out B11.out
  have s11 : w7.heap.size ≤ w8.heap.size := B11.out.size
  clear BX
  go_wp2_with fail
  refine (toFloats_any A n c ts _ Hl.out kb (HT.out.keep D11.out)).mono ?_
  rintro e w9 ⟨rfl, m⟩
  have M9 := Lib.hid m; clear m
  have g9 : w8.heap.size < w9.heap.size := M9.out.2.2.1
  have B12 : Hid (Below w8.heap.size w8 w9) := M9.out.2.2.2
  have D12 : Hid (Below w.heap.size w w9) := b_then D11.out B12.out
  have s12 : w8.heap.size ≤ w9.heap.size := B12.out.size
  go_wp2_with fail
  refine (eqFloats_same _ _ _ _ _ ts ts _ Hl.out rfl kb ((((((M4.out.fl.weak.keep B7.out).keep B8.out).keep B9.out).keep B10.out).keep B11.out).keep B12.out) M9.out.fl.weak).mono ?_
  rintro e w10 ⟨rfl, b⟩
  have BX := Lib.hid b; clear b
  have B13 : Hid (Below w9.heap.size w9 w10) := BX.out
  have D13 : Hid (Below w.heap.size w w10) := b_then D12.out B13.out
  have s13 : w9.heap.size ≤ w10.heap.size := B13.out.size
  clear BX
  go_wp2_with fail
  refine (markFloats_any _ _ _ _ _ kb (by omega) (fun _ => ⟨_, rfl, (there_of_block (there_of_block (there_of_block (there_of_block (there_of_block (there_of_block (there_of_block M4.out.1 (B7.out.block _ (by omega))) (B8.out.block _ (by omega))) (B9.out.block _ (by omega))) (B10.out.block _ (by omega))) (B11.out.block _ (by omega))) (B12.out.block _ (by omega))) (B13.out.block _ (by omega)))⟩)).mono ?_
  rintro e w11 ⟨rfl, b, _⟩
  have B14 := Lib.hid b; clear b
  have S14 := Lib.hid B14.out.1
  have s14 : w10.heap.size ≤ w11.heap.size := by rw [S14.out]; exact Nat.le_refl _
  have t14 : w11.heap.size ≤ w10.heap.size := by rw [S14.out]; exact Nat.le_refl _
  have D14 : Hid (Below w.heap.size w w11) := D13.out.trans (B14.out.2.2 _ (fun a h => by cases h; (try dsimp only); omega))
  go_upto_region 12 with fail
  obtain ⟨x0, x1, x2, x3⟩ := ((AtSn.mb (AtSn.on (AtSn.on (AtSn.on (AtSn.on KQ6.out (by rfl) B10.out) (by rfl) B11.out) (by rfl) B12.out) (by rfl) B13.out) B14.out (fun a h => by cases h; (try dsimp only); omega))).cells
  obtain ⟨y0, y1, y2, y3⟩ := ((AtSn.mb (AtSn.on (AtSn.on (AtSn.on (AtSn.on (AtSn.on (AtSn.on (AtSn.on (AtSn.on KQ3.out (by rfl) B6.out) (by rfl) B7.out) (by rfl) B8.out) (by rfl) B9.out) (by rfl) B10.out) (by rfl) B11.out) (by rfl) B12.out) (by rfl) B13.out) B14.out (fun a h => by cases h; (try dsimp only); omega))).cells
  go_wp2_with fail
  refine (eqSn_same T6 T3 (TT6.out.trans TT3.out.symm) _).mono ?_
  rintro e w12 ⟨rfl, b⟩
  have BX := Lib.hid b; clear b x0 x1 x2 x3 y0 y1 y2 y3
  have B15 : Hid (Below w11.heap.size w11 w12) := BX.out
  have D15 : Hid (Below w.heap.size w w12) := b_then D14.out B15.out
  have s15 : w11.heap.size ≤ w12.heap.size := B15.out.size
  clear BX
  go_wp2_with fail
  refine (eqFloats_same _ _ _ _ _ fs6 fs3 _ L6.out E6.out (by omega) (((((((F6.out.keep B9.out).keep B10.out).keep B11.out).keep B12.out).keep B13.out).mb0 B14.out (fun a a' ha ha' => by cases ha'; have := (Y6.out a ha).1; have := (Y6.out a ha).2; (try dsimp only); omega)).keep B15.out) (((((((((((F3.out.keep B5.out).keep B6.out).keep B7.out).keep B8.out).keep B9.out).keep B10.out).keep B11.out).keep B12.out).keep B13.out).mb0 B14.out (fun a a' ha ha' => by cases ha'; have := (Y3.out a ha).1; have := (Y3.out a ha).2; (try dsimp only); omega)).keep B15.out)).mono ?_
  rintro e w13 ⟨rfl, b⟩
  have BX := Lib.hid b; clear b
  have B16 : Hid (Below w12.heap.size w12 w13) := BX.out
  have D16 : Hid (Below w.heap.size w w13) := b_then D15.out B16.out
  have s16 : w12.heap.size ≤ w13.heap.size := B16.out.size
  clear BX
  have Z : Hid (0 < n6 → ∃ b, A6 = some ⟨b, 0, none⟩ ∧ w13.there b 0 n6) := fun h0 => by
    obtain ⟨b, he, ht⟩ := O6.out h0
    have hy1 := (Y6.out _ he).1
    have hy2 : b < w6.heap.size := (Y6.out _ he).2
    have hy3 : w5.heap.size ≤ b := hy1
    exact ⟨b, he, (there_of_block (there_of_block (there_of_block (there_of_block (there_of_block (there_of_block (there_of_block (there_of_block ht (B9.out.block _ (by omega))) (B10.out.block _ (by omega))) (B11.out.block _ (by omega))) (B12.out.block _ (by omega))) (B13.out.block _ (by omega))) (B14.out.2.1 _ (fun a h => by cases h; (try dsimp only); omega))) (B15.out.block _ (by omega))) (B16.out.block _ (by omega)))⟩
  go_wp2_with fail
  refine (markFloats_any A6 _ _ 1 _ (by omega) (by omega) Z.out).mono ?_
  rintro e w14 ⟨rfl, b, mk⟩
  have B17 := Lib.hid b; have MK := Lib.hid mk; clear b mk
  have S17 := Lib.hid B17.out.1
  have s17 : w13.heap.size ≤ w14.heap.size := by rw [S17.out]; exact Nat.le_refl _
  have t17 : w14.heap.size ≤ w13.heap.size := by rw [S17.out]; exact Nat.le_refl _
  have D17 : Hid (Below w.heap.size w w14) := D16.out.trans (B17.out.2.2 _ (fun a h => by have := (Y6.out a h).1; omega))
  go_wp2_with fail
  refine (heldFloats_any A6 _ _ 1 _ (by omega) (by omega) MK.out).mono ?_
  rintro e wx ⟨rfl, rfl⟩
  go_upto_region 22 with fail
  obtain ⟨c0, c1, c2, c3⟩ := ((AtLSn.mb (AtLSn.on (AtLSn.on (AtLSn.mb (AtLSn.on (AtLSn.on (AtLSn.on (AtLSn.on (AtLSn.on (AtLSn.on (AtLSn.on (AtLSn.on (AtLSn.on (AtLSn.on (AtLSn.on (AtLSn.on KQS.out (by rfl) B2.out) (by rfl) B3.out) (by rfl) B4.out) (by rfl) B5.out) (by rfl) B6.out) (by rfl) B7.out) (by rfl) B8.out) (by rfl) B9.out) (by rfl) B10.out) (by rfl) B11.out) (by rfl) B12.out) (by rfl) B13.out) B14.out (fun a h => by cases h; (try dsimp only); omega)) (by rfl) B15.out) (by rfl) B16.out) B17.out (fun a h => by have := (Y6.out a h).1; have := (Y6.out a h).2; omega))).cells
  go_wp2_with fail
  refine (toSn_any S _).mono ?_
  rintro e w15 ⟨rfl, b⟩
  have BX := Lib.hid b; clear b
  clear c0 c1 c2 c3
  have B18 : Hid (Below w14.heap.size w14 w15) := BX.out
  have D18 : Hid (Below w.heap.size w w15) := b_then D17.out B18.out
  have s18 : w14.heap.size ≤ w15.heap.size := B18.out.size
  clear BX
  go_wp2_with fail
  refine (toFloats_any A n c ts _ Hl.out kb (HT.out.keep D18.out)).mono ?_
  rintro e w16 ⟨rfl, m⟩
  have M16 := Lib.hid m; clear m
  have g16 : w15.heap.size < w16.heap.size := M16.out.2.2.1
  have B19 : Hid (Below w15.heap.size w15 w16) := M16.out.2.2.2
  have D19 : Hid (Below w.heap.size w w16) := b_then D18.out B19.out
  have s19 : w15.heap.size ≤ w16.heap.size := B19.out.size
  go_wp2_with fail
  refine (IMC.out _ _ _ kb (fo_of_flD M16.out.fl.weak)).mono ?_
  rintro e w17 ⟨T17, A17, n17, c17, fs17, rfl, hT, hl, hm, hf, ho, ha, b⟩
  have TT17 := Lib.hid hT; have L17 := Lib.hid hl; have C17 := Lib.hid hm; have F17 := Lib.hid hf.weak; have O17 := Lib.hid ho; have Y17 := Lib.hid ha; have BX := Lib.hid b
  have hb17 : n17 ≤ 60 := by have h1 := congrArg List.length hm; rw [List.length_map, hl] at h1; rw [h1]; exact HLE.out
  clear hT hl hm hf ho ha b
  have B20 : Hid (Below w16.heap.size w16 w17) := BX.out
  have D20 : Hid (Below w.heap.size w w17) := b_then D19.out B20.out
  have s20 : w16.heap.size ≤ w17.heap.size := B20.out.size
  clear BX
  have E17 : Hid (fs17.map cn = fs3.map cn) := C17.out.trans C3.out.symm
  obtain rfl : n17 = n6 := by
    have h1 := congrArg List.length E17.out
    rw [List.length_map, List.length_map, L17.out, L3.out] at h1
    exact h1
  go_upto_region 23 with fail
  have kq17 : AtSn (w17.alloc (.cells #[.float .f32 T17.d, .float .f32 T17.r, .float .f32 T17.b, .float .f32 T17.g] 42)) w17.heap.size T17 := AtSn.new _ _
  have bq17 : Below w17.heap.size w17 (w17.alloc (.cells #[.float .f32 T17.d, .float .f32 T17.r, .float .f32 T17.b, .float .f32 T17.g] 42)) := b_alloc (Below.refl _ _) _
  have hq17 : w17.heap.size < (w17.alloc (.cells #[.float .f32 T17.d, .float .f32 T17.r, .float .f32 T17.b, .float .f32 T17.g] 42)).heap.size := by simp
  generalize w17.alloc (.cells #[.float .f32 T17.d, .float .f32 T17.r, .float .f32 T17.b, .float .f32 T17.g] 42) = V17 at *
  have KQ17 := Lib.hid kq17; have BQ17 := Lib.hid bq17; clear kq17 bq17
  have B21 : Hid (Below w17.heap.size w17 V17) := BQ17.out
  have D21 : Hid (Below w.heap.size w V17) := b_then D20.out B21.out
  have s21 : w17.heap.size ≤ V17.heap.size := B21.out.size
  obtain ⟨x0, x1, x2, x3⟩ := (KQ17.out).cells
  obtain ⟨y0, y1, y2, y3⟩ := ((AtSn.on (AtSn.on (AtSn.on (AtSn.on (AtSn.mb (AtSn.on (AtSn.on (AtSn.mb (AtSn.on (AtSn.on (AtSn.on (AtSn.on (AtSn.on (AtSn.on (AtSn.on (AtSn.on KQ3.out (by rfl) B6.out) (by rfl) B7.out) (by rfl) B8.out) (by rfl) B9.out) (by rfl) B10.out) (by rfl) B11.out) (by rfl) B12.out) (by rfl) B13.out) B14.out (fun a h => by cases h; (try dsimp only); omega)) (by rfl) B15.out) (by rfl) B16.out) B17.out (fun a h => by have := (Y6.out a h).1; have := (Y6.out a h).2; omega)) (by rfl) B18.out) (by rfl) B19.out) (by rfl) B20.out) (by rfl) B21.out)).cells
  go_wp2_with fail
  refine (eqSn_same T17 T3 (TT17.out.trans TT3.out.symm) _).mono ?_
  rintro e w18 ⟨rfl, b⟩
  have BX := Lib.hid b; clear b x0 x1 x2 x3 y0 y1 y2 y3
  have B22 : Hid (Below V17.heap.size V17 w18) := BX.out
  have D22 : Hid (Below w.heap.size w w18) := b_then D21.out B22.out
  have s22 : V17.heap.size ≤ w18.heap.size := B22.out.size
  clear BX
  go_wp2_with fail
  refine (eqFloats_same _ _ _ _ _ fs17 fs3 _ L17.out E17.out (by omega) ((F17.out.keep B21.out).keep B22.out) ((((((((((((((((((F3.out.keep B5.out).keep B6.out).keep B7.out).keep B8.out).keep B9.out).keep B10.out).keep B11.out).keep B12.out).keep B13.out).mb0 B14.out (fun a a' ha ha' => by cases ha'; have := (Y3.out a ha).1; have := (Y3.out a ha).2; (try dsimp only); omega)).keep B15.out).keep B16.out).mb0 B17.out (fun a a' ha ha' => by have := (Y6.out a' ha').1; have := (Y6.out a' ha').2; have := (Y3.out a ha).1; have := (Y3.out a ha).2; (try dsimp only); omega)).keep B18.out).keep B19.out).keep B20.out).keep B21.out).keep B22.out)).mono ?_
  rintro e w19 ⟨rfl, b⟩
  have BX := Lib.hid b; clear b
  have B23 : Hid (Below w18.heap.size w18 w19) := BX.out
  have D23 : Hid (Below w.heap.size w w19) := b_then D22.out B23.out
  have s23 : w18.heap.size ≤ w19.heap.size := B23.out.size
  clear BX
  have KK2 : Hid (0 < n17 → ∃ b, A6 = some ⟨b, 0, none⟩ ∧ ∀ i : Nat, i < n17 → w19.cell? ⟨b, i, none⟩ = some (.float .f32 (floatOfInt .f32 (1 + i)))) := fun h0 => by
    obtain ⟨b, he, hcs⟩ := MK.out h0
    have hy2 : b < w6.heap.size := (Y6.out _ he).2
    exact ⟨b, he, fun i hi => (World.cell?_of_block (a := ⟨b, i, none⟩) (B23.out.block b (by omega))).trans ((World.cell?_of_block (a := ⟨b, i, none⟩) (B22.out.block b (by omega))).trans ((World.cell?_of_block (a := ⟨b, i, none⟩) (B21.out.block b (by omega))).trans ((World.cell?_of_block (a := ⟨b, i, none⟩) (B20.out.block b (by omega))).trans ((World.cell?_of_block (a := ⟨b, i, none⟩) (B19.out.block b (by omega))).trans ((World.cell?_of_block (a := ⟨b, i, none⟩) (B18.out.block b (by omega))).trans (hcs i hi))))))⟩
  go_wp2_with fail
  refine (heldFloats_any A6 _ _ 1 _ (by omega) (by omega) KK2.out).mono ?_
  rintro e wx ⟨rfl, rfl⟩
  go_wp2
  go_ret
  exact ⟨rfl, D23.out⟩
end Go.Proofs.Ytjkgiknklkfipaa
