/-
  The wheel that is best added: both functions, and the law.
-/
import Derived.Test.YtaodpopghacmaaaAwc
namespace Go.Proofs.Ytaodpopghacmaaa
open Go.RowKit Go.ChangeShapes Go.WideShapes Go.Deep
attribute [local go_sem ↓] Go.wp_at_zero Go.wp_at_succ
set_option linter.unusedVariables false
set_option linter.unusedSimpArgs false
set_option maxRecDepth 100000
/-- The best wheel to be added, by how much it is off, and the code. -/
def awR (zs : List Int) (t : Nat) : Int × Nat × Int := if codeX (okZ zs) (tgB t) = 0 then (if zs.length = 24 then (0, 0, 3) else ((awS zs t 195).1, (awS zs t 195).2, 0)) else (0, 0, codeX (okZ zs) (tgB t))
theorem awR_bad {zs : List Int} {t : Nat} {K : Int} (h : codeX (okZ zs) (tgB t) = K) (hK : K ≠ 0) : awR zs t = (0, 0, K) := by unfold awR; rw [h, if_neg hK]
theorem awR_full {zs : List Int} {t : Nat} (h : codeX (okZ zs) (tgB t) = 0) (hn : zs.length = 24) : awR zs t = (0, 0, 3) := by unfold awR; rw [if_pos h, if_pos hn]
theorem awR_ok {zs : List Int} {t : Nat} (h : codeX (okZ zs) (tgB t) = 0) (hn : ¬ zs.length = 24) : awR zs t = ((awS zs t 195).1, (awS zs t 195).2, 0) := by unfold awR; rw [if_pos h, if_neg hn]
theorem ret_3 {fn : Func} {tmps : Array Value} {W : World} {a b c : Nat} (hr : fn.results = #[.tmp a, .tmp b, .tmp c]) : (results fn tmps).run Try.prog W = .ok (.tuple #[tmps.getD a undef, tmps.getD b undef, tmps.getD c undef]) W := by
  simp [results, hr, go_sem]
theorem codeX_two {zs : List Int} {t : Nat} (h : codeX (okZ zs) (tgB t) = 0) : okZ zs = true ∧ tgB t = true := codeX_zero h
set_option maxHeartbeats 2000000 in
theorem implAdd_any (A : Option Addr) (n c : Nat) (zs : List Int) (t : Nat) (w : World) (hl : zs.length = n) (hn : n ≤ 1048576) (hw : ∀ z ∈ zs, I16 z) (hT : Ii w w.heap.size A zs) :
    Calls Try.prog 20 #[.slice A n c, .float .f32 t] w (RV (.tuple #[.int .i64 (awR zs t).1, .float .f32 (awR zs t).2.1, .int .i64 (awR zs t).2.2]) w) := by
  have hG := Lib.hid (fun w => isTarget_any t w)
  have hB := Lib.hid (boxError_any A n c zs (tgB t) w hl hn hw hT)
  rcases codeX_cases (K := codeX (okZ zs) (tgB t)) rfl with h0 | h0 | h0
  · obtain ⟨h1, h2⟩ := codeX_two h0
    by_cases hf : zs.length = 24
    · rw [awR_full h0 hf]
      have hb := hB.out
      rw [h0] at hb
      have HB := Lib.hid hb
      rw [hl] at hf
      have n24 : ((n : Int) == 24) = true := by rw [hf]; rfl
      clear h0 h1 h2 hl hn hw hT hb hB hf
      go_enter Try.func20, Try.ntmps20
      go_wp2_with fail
      refine wp_scope_straight ?_
      go_wp2_with fail
      refine (hG.out _).mono ?_
      rintro e w1 ⟨rfl, rfl⟩
      go_wp2_with fail
      refine HB.out.mono ?_
      rintro e w2 ⟨rfl, b2⟩
      go_wp2
      exact bodyPost_ret (ret_3 Try.results20) rfl ⟨rfl, b2⟩
    · rw [awR_ok h0 hf]
      rw [hl] at hf
      have hlen := (okZ_at h1).1.2
      have hn24 : n < 24 := by omega
      exact implAdd_ok A n c zs t w hl hw h1 h2 hn24 hT
  all_goals
    rw [awR_bad h0 (by decide)]
    have hb := hB.out
    rw [h0] at hb
    have HB := Lib.hid hb
    clear h0 hl hn hw hT hb hB
    go_enter Try.func20, Try.ntmps20
    go_wp2_with fail
    refine wp_scope_straight ?_
    go_wp2_with fail
    refine (hG.out _).mono ?_
    rintro e w1 ⟨rfl, rfl⟩
    go_wp2_with fail
    refine HB.out.mono ?_
    rintro e w2 ⟨rfl, b2⟩
    go_wp2
    exact bodyPost_ret (ret_3 Try.results20) rfl ⟨rfl, b2⟩
set_option maxHeartbeats 2000000 in
theorem specAdd_any (A : Option Addr) (n c : Nat) (zs : List Int) (t : Nat) (w : World) (hl : zs.length = n) (hn : n ≤ 1048576) (hw : ∀ z ∈ zs, I16 z) (ht2 : t < 4294967296) (hc : n ≤ c) (hcm : c ≤ maxLen) (hT : Ii w w.heap.size A zs) :
    Calls Try.prog 19 #[.slice A n c, .float .f32 t] w (RV (.tuple #[.int .i64 (awR zs t).1, .float .f32 (awR zs t).2.1, .int .i64 (awR zs t).2.2]) w) := by
  have hB0 := l05Asked_any A n c zs t 0 w hl hn hw hT
  unfold askK at hB0
  rw [pt_zero, Bool.and_true] at hB0
  have hB := Lib.hid hB0
  clear hB0
  rcases codeX_cases (K := codeX (okZ zs) (tgB t)) rfl with h0 | h0 | h0
  · obtain ⟨h1, h2⟩ := codeX_two h0
    by_cases hf : zs.length = 24
    · rw [awR_full h0 hf]
      have hb := hB.out
      rw [h0] at hb
      have HB := Lib.hid hb
      rw [hl] at hf
      have n24 : ((n : Int) == 24) = true := by rw [hf]; rfl
      clear h0 h1 h2 hl hn hw hT hb hB hf
      go_enter Try.func19, Try.ntmps19
      go_wp2_with fail
      refine HB.out.mono ?_
      rintro e w2 ⟨rfl, b2⟩
      go_wp2
      exact bodyPost_ret (ret_3 Try.results19) rfl ⟨rfl, b2⟩
    · rw [awR_ok h0 hf]
      rw [hl] at hf
      have hlen := (okZ_at h1).1.2
      have hn24 : n < 24 := by omega
      have := specAdd_ok A n c zs t w hl hw h1 h2 ht2 hn24 hc hcm hT
      rw [am_end h1 (by omega) h2 ht2] at this
      exact this
  all_goals
    rw [awR_bad h0 (by decide)]
    have hb := hB.out
    rw [h0] at hb
    have HB := Lib.hid hb
    clear h0 hl hn hw hT hb hB
    go_enter Try.func19, Try.ntmps19
    go_wp2_with fail
    refine HB.out.mono ?_
    rintro e w2 ⟨rfl, b2⟩
    go_wp2
    exact bodyPost_ret (ret_3 Try.results19) rfl ⟨rfl, b2⟩
theorem conv_oneP (x : Nat) : ∃ z : World → Nat, ∃ d : Nat, (∀ w, (convert 23 36 (.float .f32 x)).run Try.prog w = .ok (.float .f64 (z w)) (w.drewN d)) ∧ ∀ (w W w2 : World), Calls Try.prog 21 #[.float .f64 (z w), .float .f64 (z w2)] W fun e w' => e = .returned (.bool true) ∧ W = w' := by
  cases h : nan32 x
  · refine ⟨fun _ => wide x, 0, fun w => ?_, fun w W w2 => sf_eq _ _ (wide_some h).2⟩
    exact run_wide (P := Try.prog) w 23 36 x (by rw [Try.underlying23]; rfl) Try.underlying36 h
  · refine ⟨fun w => nanTo w x, 1, fun w => ?_, fun w W w2 => sf_nan _ _ _ (nanTo_nan _ _) (nanTo_nan _ _)⟩
    exact run_nan_wide (P := Try.prog) w 23 36 x (by rw [Try.underlying23]; rfl) Try.underlying36 h
set_option maxHeartbeats 4000000 in
theorem walk_FnExactAddWheel (A : Option Addr) (n c : Nat) (zs : List Int) (t : Nat) (wt : (Lit.float .f32 t).wf = true) (w : World) (h : IiIn w A n c zs) :
    Calls Try.prog 4 #[.slice A n c, .float .f32 t] w fun e w' => e = .returned (.bool true) ∧ Below w.heap.size w w' := by
  obtain ⟨hl, hnc, hc, hT, hw⟩ := h
  have Hl := Lib.hid hl; clear hl
  have HT := Lib.hid hT; clear hT
  have Hw := Lib.hid hw; clear hw
  have hnm : n ≤ maxLen := Nat.le_trans hnc hc
  unfold maxLen at hnm
  have ht2 : t < 4294967296 := by simpa [Lit.wf] using wt
  clear hnc hc wt
  by_cases z0 : 1048576 < (n : Int)
  · go_enter Try.func4, Try.ntmps4
    go_wp2
    go_ret
    exact ⟨rfl, Below.refl _ _⟩
  have kb : n ≤ 1048576 := by omega
  have L1 := Lib.hid (fun A W h => specAdd_any A n n zs t W Hl.out kb Hw.out ht2 (Nat.le_refl _) (by unfold maxLen; omega) h)
  have L2 := Lib.hid (fun A c W h => implAdd_any A n c zs t W Hl.out kb Hw.out h)
  generalize awR zs t = Q at *
  obtain ⟨P, Z, K⟩ := Q
  dsimp only at L1 L2
  obtain ⟨z1, dz1, cz1, hs1⟩ := conv_oneP Z
  have HS1 := Lib.hid hs1; clear hs1
  go_enter Try.func4, Try.ntmps4
  go_wp2_with fail
  refine (toInts_any A n c zs _ Hl.out kb HT.out).mono ?_
  rintro e w1 ⟨rfl, m1⟩
  have M1 := Lib.hid m1; clear m1
  have B1 : Hid (Below w.heap.size w w1) := M1.out.2.2.2
  go_wp2_with fail
  refine (L1.out _ _ M1.out.ii).mono ?_
  rintro e w2 ⟨rfl, b2⟩
  have B2 : Hid (Below w.heap.size w w2) := b_then B1.out b2
  clear b2
  go_wp2_with fail
  refine (toInts_any A n c zs _ Hl.out kb (HT.out.keep B2.out)).mono ?_
  rintro e w3 ⟨rfl, m3⟩
  have M3 := Lib.hid m3; clear m3
  have B3 : Hid (Below w.heap.size w w3) := b_then B2.out M3.out.2.2.2
  go_wp2_with fail
  refine (L2.out _ _ _ M3.out.ii).mono ?_
  rintro e w4 ⟨rfl, b4⟩
  have B4l := Lib.hid b4
  have B4 : Hid (Below w.heap.size w w4) := b_then B3.out b4
  clear b4
  go_wp2_with fail
  refine (HS1.out _ _ _).mono ?_
  rintro e w5 ⟨rfl, hw5⟩
  have B5l : Hid (Below w4.heap.size w4 w5) := by rw [← hw5]; repeat (first | exact Below.refl _ _ | refine b_drewN ?_ _ | refine b_drew ?_)
  clear hw5
  have B5 : Hid (Below w.heap.size w w5) := b_then B4.out B5l.out
  clear cz1
  go_wp2_with fail
  refine (toInts_any A n c zs _ Hl.out kb (HT.out.keep B5.out)).mono ?_
  rintro e w6 ⟨rfl, m6⟩
  have M6 := Lib.hid m6; clear m6
  have B6 : Hid (Below w.heap.size w w6) := b_then B5.out M6.out.2.2.2
  go_wp2_with fail
  refine (eqInts_same _ _ _ _ _ zs _ Hl.out kb (((M3.out.ii.keep B4l.out).keep B5l.out).keep M6.out.2.2.2) M6.out.ii).mono ?_
  rintro e w7 ⟨rfl, b7⟩
  have B7 := Lib.hid (b_then B6.out b7)
  go_wp2
  go_ret
  exact ⟨rfl, B7.out⟩
end Go.Proofs.Ytaodpopghacmaaa
