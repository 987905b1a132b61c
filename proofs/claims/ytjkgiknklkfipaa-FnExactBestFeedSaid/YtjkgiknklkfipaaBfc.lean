/-
  The law of BestFeed.
-/
import Derived.Test.YtjkgiknklkfipaaHdc
import Derived.Test.YtjkgiknklkfipaaBfb
import Derived.Test.YtjkgiknklkfipaaSh
import Derived.Test.YtjkgiknklkfipaaFlIn2
import Derived.Deep.DeepCutAuto
namespace Go.Proofs.Ytjkgiknklkfipaa
open Go.RowKit Go.ChangeShapes Go.WideShapes Go.Deep
attribute [local go_sem ↓] Go.wp_at_zero Go.wp_at_succ
set_option linter.unusedVariables false
set_option linter.unusedSimpArgs false
set_option maxRecDepth 100000
set_option maxHeartbeats 8000000 in
theorem walk_FnExactBestFeed (S : Sn) (wS : (Lit.float .f32 S.d).wf = true ∧ (Lit.float .f32 S.r).wf = true ∧ (Lit.float .f32 S.b).wf = true ∧ (Lit.float .f32 S.g).wf = true) (t : Nat) (wt : (Lit.float .f32 t).wf = true) (A : Option Addr) (n c : Nat) (ts : List Nat) (w : World) (h : FlIn w A n c ts) :
    Calls Try.prog 5 #[.agg #[.float .f32 S.d, .float .f32 S.r, .float .f32 S.b, .float .f32 S.g], .float .f32 t, .slice A n c] w fun e w' => e = .returned (.bool true) ∧ Below w.heap.size w w' := by
  obtain ⟨hl, hnc, hc, hT⟩ := h
  have hnm : n ≤ maxLen := Nat.le_trans hnc hc
  unfold maxLen at hnm
  have Hl := Lib.hid hl; have HT := Lib.hid hT
  clear hT hnc hc
  have SPC : Hid (∀ (A : Option Addr) (c : Nat) (w : World), n ≤ 1048576 → Fo w w.heap.size A ts → Calls Try.prog 26 #[.agg #[.float .f32 S.d, .float .f32 S.r, .float .f32 S.b, .float .f32 S.g], .float .f32 t, .slice A n c] w (RBf (bfI S t ts n) (bfF S t ts n) (bfK S t ts n) w)) := Lib.hid (fun A c w hn hT => specBestFeed_any S t A n c ts w hl hn hT)
  have IMC : Hid (∀ (A : Option Addr) (c : Nat) (w : World), n ≤ 1048576 → Fo w w.heap.size A ts → Calls Try.prog 27 #[.agg #[.float .f32 S.d, .float .f32 S.r, .float .f32 S.b, .float .f32 S.g], .float .f32 t, .slice A n c] w (RBf (bfI S t ts n) (bfF S t ts n) (bfK S t ts n) w)) := Lib.hid (fun A c w hn hT => implBestFeed_any S t A n c ts w hl hn hT)
  obtain ⟨II, hII⟩ : ∃ k, bfI S t ts n = k := ⟨_, rfl⟩
  obtain ⟨CF, hCF⟩ : ∃ k, bfF S t ts n = k := ⟨_, rfl⟩
  obtain ⟨KK, hKK⟩ : ∃ k, bfK S t ts n = k := ⟨_, rfl⟩
  rw [hII, hCF, hKK] at SPC IMC
  clear hII hCF hKK hl
  by_cases z0 : 1048576 < (n : Int)
  · go_enter Try.func5, Try.ntmps5
    go_wp2
    go_ret
    refine ⟨rfl, ?_⟩
    repeat (first | exact Below.refl _ _ | refine b_alloc ?_ _)
  have kb : n ≤ 1048576 := by omega
  go_enter Try.func5, Try.ntmps5
  go_upto_region 3 with fail
  have kqS : AtLSn (w.alloc (.cells #[.float .f32 S.d, .float .f32 S.r, .float .f32 S.b, .float .f32 S.g] 40)) w.heap.size S := AtLSn.new _ _
  have bqS : Below w.heap.size w (w.alloc (.cells #[.float .f32 S.d, .float .f32 S.r, .float .f32 S.b, .float .f32 S.g] 40)) := b_alloc (Below.refl _ _) _
  have hqS : w.heap.size < (w.alloc (.cells #[.float .f32 S.d, .float .f32 S.r, .float .f32 S.b, .float .f32 S.g] 40)).heap.size := by simp
  generalize w.alloc (.cells #[.float .f32 S.d, .float .f32 S.r, .float .f32 S.b, .float .f32 S.g] 40) = V0 at *
  have KQS := Lib.hid kqS; have BQS := Lib.hid bqS; clear kqS bqS
  have B1 : Hid (Below w.heap.size w V0) := BQS.out
  have D1 : Hid (Below w.heap.size w V0) := B1.out
  have s1 : w.heap.size ≤ V0.heap.size := B1.out.size
  obtain ⟨c0, c1, c2, c3⟩ := (KQS.out).cells
  go_wp2_with fail
  refine (toSn_any S _).mono ?_
  rintro e w1 ⟨rfl, b⟩
  have BX := Lib.hid b; clear b
  clear c0 c1 c2 c3
  have B2 : Hid (Below V0.heap.size V0 w1) := BX.out
  have D2 : Hid (Below w.heap.size w w1) := b_then D1.out B2.out
  have s2 : V0.heap.size ≤ w1.heap.size := B2.out.size
  clear BX
  go_wp2_with fail
  refine (toFloats_any A n c ts _ Hl.out kb (HT.out.keep D2.out)).mono ?_
  rintro e w2 ⟨rfl, m⟩
  have M2 := Lib.hid m; clear m
  have g2 : w1.heap.size < w2.heap.size := M2.out.2.2.1
  have B3 : Hid (Below w1.heap.size w1 w2) := M2.out.2.2.2
  have D3 : Hid (Below w.heap.size w w2) := b_then D2.out B3.out
  have s3 : w1.heap.size ≤ w2.heap.size := B3.out.size
  go_wp2_with fail
  refine (SPC.out _ _ _ kb (fo_of_flD M2.out.fl.weak)).mono ?_
  rintro e w3 ⟨r3, rfl, h3, b⟩
  have G3 := Lib.hid h3; have BX := Lib.hid b; clear h3 b
  have B4 : Hid (Below w2.heap.size w2 w3) := BX.out
  have D4 : Hid (Below w.heap.size w w3) := b_then D3.out B4.out
  have s4 : w2.heap.size ≤ w3.heap.size := B4.out.size
  clear BX
  go_wp2_with fail
  refine (toFloats_any A n c ts _ Hl.out kb (HT.out.keep D4.out)).mono ?_
  rintro e w4 ⟨rfl, m⟩
  have M4 := Lib.hid m; clear m
  have g4 : w3.heap.size < w4.heap.size := M4.out.2.2.1
  have B5 : Hid (Below w3.heap.size w3 w4) := M4.out.2.2.2
  have D5 : Hid (Below w.heap.size w w4) := b_then D4.out B5.out
  have s5 : w3.heap.size ≤ w4.heap.size := B5.out.size
  obtain ⟨c0, c1, c2, c3⟩ := ((AtLSn.on (AtLSn.on (AtLSn.on (AtLSn.on KQS.out (by rfl) B2.out) (by rfl) B3.out) (by rfl) B4.out) (by rfl) B5.out)).cells
  go_wp2_with fail
  refine (toSn_any S _).mono ?_
  rintro e w5 ⟨rfl, b⟩
  have BX := Lib.hid b; clear b
  clear c0 c1 c2 c3
  have B6 : Hid (Below w4.heap.size w4 w5) := BX.out
  have D6 : Hid (Below w.heap.size w w5) := b_then D5.out B6.out
  have s6 : w4.heap.size ≤ w5.heap.size := B6.out.size
  clear BX
  go_wp2_with fail
  refine (IMC.out _ _ _ kb (fo_of_flD (M4.out.fl.weak.keep B6.out))).mono ?_
  rintro e w6 ⟨r6, rfl, h6, b⟩
  have G6 := Lib.hid h6; have BX := Lib.hid b; clear h6 b
  have B7 : Hid (Below w5.heap.size w5 w6) := BX.out
  have D7 : Hid (Below w.heap.size w w6) := b_then D6.out B7.out
  have s7 : w5.heap.size ≤ w6.heap.size := B7.out.size
  clear BX
  obtain ⟨z, y, dz, dy, cz, cy, hs⟩ := conv2 (G6.out.trans G3.out.symm : cn r6 = cn r3)
  have HS := Lib.hid hs; clear hs
  go_wp2_with fail
  refine (HS.out _ _ _).mono ?_
  rintro e w7 ⟨rfl, hw7⟩
  have B8 : Hid (Below w6.heap.size w6 w7) := by rw [← hw7]; repeat (first | exact Below.refl _ _ | refine b_drewN ?_ _ | refine b_drew ?_)
  have D8 : Hid (Below w.heap.size w w7) := b_then D7.out B8.out
  have s8 : w6.heap.size ≤ w7.heap.size := B8.out.size
  clear hw7 cz cy
  go_wp2_with fail
  refine (toFloats_any A n c ts _ Hl.out kb (HT.out.keep D8.out)).mono ?_
  rintro e w8 ⟨rfl, m⟩
  have M8 := Lib.hid m; clear m
  have g8 : w7.heap.size < w8.heap.size := M8.out.2.2.1
  have B9 : Hid (Below w7.heap.size w7 w8) := M8.out.2.2.2
  have D9 : Hid (Below w.heap.size w w8) := b_then D8.out B9.out
  have s9 : w7.heap.size ≤ w8.heap.size := B9.out.size
  go_wp2_with fail
  refine (eqFloats_same _ _ _ _ _ ts ts _ Hl.out rfl kb ((((M4.out.fl.weak.keep B6.out).keep B7.out).keep B8.out).keep B9.out) M8.out.fl.weak).mono ?_
  rintro e w9 ⟨rfl, b⟩
  have BX := Lib.hid b; clear b
  have B10 : Hid (Below w8.heap.size w8 w9) := BX.out
  have D10 : Hid (Below w.heap.size w w9) := b_then D9.out B10.out
  have s10 : w8.heap.size ≤ w9.heap.size := B10.out.size
  go_wp2
  go_ret
  exact ⟨rfl, D10.out⟩
end Go.Proofs.Ytjkgiknklkfipaa
