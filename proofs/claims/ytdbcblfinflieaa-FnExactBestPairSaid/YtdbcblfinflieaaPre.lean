/-
  The best pair: both functions, and the law.
-/
import Derived.Test.YtdbcblfinflieaaPrc
import Derived.Test.YtdbcblfinflieaaPrd
namespace Go.Proofs.Ytdbcblfinflieaa
open Go.RowKit Go.ChangeShapes Go.WideShapes Go.Deep
attribute [local go_sem ↓] Go.wp_at_zero Go.wp_at_succ
set_option linter.unusedVariables false
set_option linter.unusedSimpArgs false
set_option maxRecDepth 100000
def askK (zs : List Int) (t x : Nat) : Int := codeX (okZ zs) (tgB t && ptB x)
theorem pt_zero : ptB 0 = true := by decide +kernel
theorem l05Asked_any (A : Option Addr) (n c : Nat) (zs : List Int) (t x : Nat) (w : World) (hl : zs.length = n) (hn : n ≤ 1048576) (hw : ∀ z ∈ zs, I16 z) {B0 : Nat} (hT : Ii w B0 A zs) :
    Calls Try.prog 56 #[.slice A n c, .float .f32 t, .float .f32 x] w (RV (.int .i64 (askK zs t x)) w) := by
  have HT := Lib.hid hT; clear hT
  have Hl := Lib.hid hl; clear hl
  unfold askK
  have hP := Lib.hid (fun w => l01Part_any x w)
  have hG := Lib.hid (fun w => l05Target_any t w)
  generalize tgB t = g at *
  generalize ptB x = u at *
  cases h1 : okZ zs
  · have hc := Lib.hid (specOk_is h1 Hl.out hn hw HT.out (c := c))
    clear h1
    go_enter Try.func56, Try.ntmps56
    go_wp2_with (go_at_call 70; refine hc.out.mono ?_; rintro e w1 ⟨rfl, b1⟩)
    go_ret
    exact ⟨rfl, b1⟩
  · have hc := Lib.hid (specOk_is h1 Hl.out hn hw HT.out (c := c))
    clear h1
    cases g
    · go_enter Try.func56, Try.ntmps56
      go_wp2_with (first | (go_at_call 70; refine hc.out.mono ?_; rintro e w1 ⟨rfl, b1⟩) | (go_at_call 83; refine (hG.out _).mono ?_; rintro e w2 ⟨rfl, rfl⟩))
      go_ret
      exact ⟨rfl, b1⟩
    · cases u
      all_goals
        go_enter Try.func56, Try.ntmps56
        go_wp2_with (first | (go_at_call 70; refine hc.out.mono ?_; rintro e w1 ⟨rfl, b1⟩) | (go_at_call 83; refine (hG.out _).mono ?_; rintro e w2 ⟨rfl, rfl⟩) | (go_at_call 90; refine (hP.out _).mono ?_; rintro e w3 ⟨rfl, rfl⟩))
        go_ret
        exact ⟨rfl, b1⟩
/-- The best pair, or none. -/
def bpR (zs : List Int) (t : Nat) : (Nat × Nat) × Nat := if codeX (okZ zs) (tgB t) = 0 then bestF (offP zs t) (prU zs.length zs.length 0) ((0, 0), 2139095039) else ((0, 0), 0)
theorem codeX_ok {zs : List Int} {t : Nat} (h : codeX (okZ zs) (tgB t) = 0) : okZ zs = true ∧ tgB t = true := codeX_zero h
theorem ret_4 {fn : Func} {tmps : Array Value} {W : World} {a b c d : Nat} (hr : fn.results = #[.tmp a, .tmp b, .tmp c, .tmp d]) : (results fn tmps).run Try.prog W = .ok (.tuple #[tmps.getD a undef, tmps.getD b undef, tmps.getD c undef, tmps.getD d undef]) W := by
  simp [results, hr, go_sem]
set_option maxHeartbeats 2000000 in
theorem implBestPair_any (A : Option Addr) (n c : Nat) (zs : List Int) (t : Nat) (w : World) (hl : zs.length = n) (hn : n ≤ 1048576) (hw : ∀ z ∈ zs, I16 z) (hT : Ii w w.heap.size A zs) :
    Calls Try.prog 30 #[.slice A n c, .float .f32 t] w (RV (.tuple #[.int .i64 ((bpR zs t).1.1 : Int), .int .i64 ((bpR zs t).1.2 : Int), .float .f32 (bpR zs t).2, .int .i64 (codeX (okZ zs) (tgB t))]) w) := by
  have hB := Lib.hid (boxError_any A n c zs (tgB t) w hl hn hw hT)
  have hG := Lib.hid (fun w => isTarget_any t w)
  unfold bpR
  by_cases h : codeX (okZ zs) (tgB t) = 0
  · obtain ⟨h1, h2⟩ := codeX_ok h
    rw [if_pos h, h, hl]
    have hlen := (okZ_at h1).1
    rw [hl] at hlen
    have hC := Lib.hid (fun W hT' => bestPair_any A n c zs t W hl h1 h2 hT')
    have HT := Lib.hid hT
    have hb := hB.out
    rw [h] at hb
    have HB := Lib.hid hb
    have hres := fun p => @prU_mem n p
    have hin : ∀ s : (Nat × Nat) × Nat, s.1.1 < 24 → s.1.2 < 24 → ∀ off l, (∀ p ∈ l, p.1 < 24 ∧ p.2 < 24) → (bestF off l s).1.1 < 24 ∧ (bestF off l s).1.2 < 24 := fun s => by
      intro a1 a2 off l
      induction l generalizing s with
      | nil => intro _; exact ⟨a1, a2⟩
      | cons p l ih =>
        intro hp
        show (bestF off l (bstep off s p)).1.1 < 24 ∧ _
        refine ih _ ?_ ?_ (fun q hq => hp q (List.mem_cons_of_mem _ hq))
        · unfold bstep; split
          · exact (hp p (by simp)).1
          · exact a1
        · unfold bstep; split
          · exact (hp p (by simp)).2
          · exact a2
    obtain ⟨r1, r2⟩ := hin ((0, 0), 2139095039) (by decide) (by decide) (offP zs t) (prU n n 0) (fun p hp => by have := hres p hp; omega)
    generalize bestF (offP zs t) (prU n n 0) ((0, 0), 2139095039) = R at *
    obtain ⟨⟨p, q⟩, z⟩ := R
    dsimp only at r1 r2 hC
    have w1 : IntKind.i64.wrap (p : Int) = p := IntWalk.i64_in _ (by omega)
    have w2 : IntKind.i64.wrap (q : Int) = q := IntWalk.i64_in _ (by omega)
    clear h h1 h2 hl hn hw hT hlen hb hB hres hin
    go_enter Try.func30, Try.ntmps30
    go_wp2_with (first | (go_at_call 60; refine (hG.out _).mono ?_; rintro e w2 ⟨rfl, rfl⟩) | (go_at_call 59; refine HB.out.mono ?_; rintro e w3 ⟨rfl, b3⟩) | (go_at_call 68; refine (hC.out _ (HT.out.keep b3)).mono ?_; rintro e w4 ⟨rfl, b4⟩))
    exact bodyPost_ret (ret_4 Try.results30) rfl ⟨rfl, b_then b3 b4⟩
  · rw [if_neg h]
    rcases codeX_cases (K := codeX (okZ zs) (tgB t)) rfl with h0 | h0 | h0
    · exact absurd h0 h
    all_goals
      have hb := hB.out
      rw [h0] at hb ⊢
      have HB := Lib.hid hb
      clear h h0 hl hn hw hT hb hB
      go_enter Try.func30, Try.ntmps30
      go_wp2_with (first | (go_at_call 60; refine (hG.out _).mono ?_; rintro e w2 ⟨rfl, rfl⟩) | (go_at_call 59; refine HB.out.mono ?_; rintro e w3 ⟨rfl, b3⟩))
      exact bodyPost_ret (ret_4 Try.results30) rfl ⟨rfl, b3⟩
set_option maxHeartbeats 2000000 in
theorem specBestPair_any (A : Option Addr) (n c : Nat) (zs : List Int) (t : Nat) (w : World) (hl : zs.length = n) (hn : n ≤ 1048576) (hw : ∀ z ∈ zs, I16 z) (hT : Ii w w.heap.size A zs) :
    Calls Try.prog 29 #[.slice A n c, .float .f32 t] w (RV (.tuple #[.int .i64 ((bpR zs t).1.1 : Int), .int .i64 ((bpR zs t).1.2 : Int), .float .f32 (bpR zs t).2, .int .i64 (codeX (okZ zs) (tgB t))]) w) := by
  have hB0 := l05Asked_any A n c zs t 0 w hl hn hw hT
  unfold askK at hB0
  rw [pt_zero, Bool.and_true] at hB0
  have hB := Lib.hid hB0
  clear hB0
  unfold bpR
  by_cases h : codeX (okZ zs) (tgB t) = 0
  · obtain ⟨h1, h2⟩ := codeX_ok h
    rw [if_pos h, h, hl]
    have hlen := (okZ_at h1).1
    rw [hl] at hlen
    have hsame : bestF (offM zs t) (prU n n 0) ((0, 1), offM zs t (0, 1)) = bestF (offP zs t) (prU n n 0) ((0, 0), 2139095039) := (best_same (off := offP zs t) hlen.1 (fun p hp => by
      obtain ⟨a1, a2, _⟩ := prU_mem hp
      exact (offP_num h1 h2 (by rw [hl]; exact a1) (by rw [hl]; exact a2)).1)).symm
    have hC0 := fun W hT' => l05Best_any A n c zs t W hl h1 h2 hT'
    rw [hsame] at hC0
    have hC := Lib.hid hC0
    have HT := Lib.hid hT
    have hb := hB.out
    rw [h] at hb
    have HB := Lib.hid hb
    clear hsame hC0
    generalize bestF (offP zs t) (prU n n 0) ((0, 0), 2139095039) = R at *
    obtain ⟨⟨p, q⟩, z⟩ := R
    dsimp only at hC
    clear h h1 h2 hl hn hw hT hlen hb hB
    go_enter Try.func29, Try.ntmps29
    go_wp2_with (first | (go_at_call 56; refine HB.out.mono ?_; rintro e w3 ⟨rfl, b3⟩) | (go_at_call 67; refine (hC.out _ (HT.out.keep b3)).mono ?_; rintro e w4 ⟨rfl, b4⟩))
    exact bodyPost_ret (ret_4 Try.results29) rfl ⟨rfl, b_then b3 b4⟩
  · rw [if_neg h]
    rcases codeX_cases (K := codeX (okZ zs) (tgB t)) rfl with h0 | h0 | h0
    · exact absurd h0 h
    all_goals
      have hb := hB.out
      rw [h0] at hb ⊢
      have HB := Lib.hid hb
      clear h h0 hl hn hw hT hb hB
      go_enter Try.func29, Try.ntmps29
      go_wp2_with (go_at_call 56; refine HB.out.mono ?_; rintro e w3 ⟨rfl, b3⟩)
      exact bodyPost_ret (ret_4 Try.results29) rfl ⟨rfl, b3⟩
theorem conv_oneP (x : Nat) : ∃ z : World → Nat, ∃ d : Nat, (∀ w, (convert 22 47 (.float .f32 x)).run Try.prog w = .ok (.float .f64 (z w)) (w.drewN d)) ∧ ∀ (w W w2 : World), Calls Try.prog 31 #[.float .f64 (z w), .float .f64 (z w2)] W fun e w' => e = .returned (.bool true) ∧ W = w' := by
  cases h : nan32 x
  · refine ⟨fun _ => wide x, 0, fun w => ?_, fun w W w2 => sf_eq _ _ (wide_some h).2⟩
    exact run_wide (P := Try.prog) w 22 47 x (by rw [Try.underlying22]; rfl) Try.underlying47 h
  · refine ⟨fun w => nanTo w x, 1, fun w => ?_, fun w W w2 => sf_nan _ _ _ (nanTo_nan _ _) (nanTo_nan _ _)⟩
    exact run_nan_wide (P := Try.prog) w 22 47 x (by rw [Try.underlying22]; rfl) Try.underlying47 h
set_option maxHeartbeats 4000000 in
theorem walk_FnExactBestPair (A : Option Addr) (n c : Nat) (zs : List Int) (t : Nat) (wt : (Lit.float .f32 t).wf = true) (w : World) (h : IiIn w A n c zs) :
    Calls Try.prog 6 #[.slice A n c, .float .f32 t] w fun e w' => e = .returned (.bool true) ∧ Below w.heap.size w w' := by
  obtain ⟨hl, hnc, hc, hT, hw⟩ := h
  have Hl := Lib.hid hl; clear hl
  have HT := Lib.hid hT; clear hT
  have Hw := Lib.hid hw; clear hw
  have hnm : n ≤ maxLen := Nat.le_trans hnc hc
  unfold maxLen at hnm
  clear hnc hc wt
  by_cases z0 : 1048576 < (n : Int)
  · go_enter Try.func6, Try.ntmps6
    go_wp2
    go_ret
    exact ⟨rfl, Below.refl _ _⟩
  have kb : n ≤ 1048576 := by omega
  have L1 := Lib.hid (fun A c W h => specBestPair_any A n c zs t W Hl.out kb Hw.out h)
  have L2 := Lib.hid (fun A c W h => implBestPair_any A n c zs t W Hl.out kb Hw.out h)
  generalize ((bpR zs t).1.1 : Int) = P at *
  generalize ((bpR zs t).1.2 : Int) = Q at *
  generalize (bpR zs t).2 = Z at *
  generalize codeX (okZ zs) (tgB t) = K at *
  obtain ⟨z1, dz1, cz1, hs1⟩ := conv_oneP Z
  have HS1 := Lib.hid hs1; clear hs1
  go_enter Try.func6, Try.ntmps6
  go_wp2_with fail
  refine (toInts_any A n c zs _ Hl.out kb HT.out).mono ?_
  rintro e w1 ⟨rfl, m1⟩
  have M1 := Lib.hid m1; clear m1
  have B1 : Hid (Below w.heap.size w w1) := M1.out.2.2.2
  go_wp2_with fail
  refine (L1.out _ _ _ M1.out.ii).mono ?_
  rintro e w2 ⟨rfl, b2⟩
  have B2 : Hid (Below w.heap.size w w2) := b_then B1.out b2
  clear b2
  go_wp2_with fail
  refine (toInts_any A n c zs _ Hl.out kb (HT.out.keep B2.out)).mono ?_
  rintro e w3 ⟨rfl, m3⟩
  have M3 := Lib.hid m3; clear m3
  have B3 : Hid (Below w.heap.size w w3) := b_then B2.out M3.out.2.2.2
  go_wp2_with fail
  refine (L2.out _ _ _ M3.out.ii).mono ?_
  rintro e w4 ⟨rfl, b4⟩
  have B4l := Lib.hid b4
  have B4 : Hid (Below w.heap.size w w4) := b_then B3.out b4
  clear b4
  go_wp2_with fail
  refine (HS1.out _ _ _).mono ?_
  rintro e w5 ⟨rfl, hw5⟩
  have B5l : Hid (Below w4.heap.size w4 w5) := by rw [← hw5]; repeat (first | exact Below.refl _ _ | refine b_drewN ?_ _ | refine b_drew ?_)
  clear hw5
  have B5 : Hid (Below w.heap.size w w5) := b_then B4.out B5l.out
  clear cz1
  go_wp2_with fail
  refine (toInts_any A n c zs _ Hl.out kb (HT.out.keep B5.out)).mono ?_
  rintro e w6 ⟨rfl, m6⟩
  have M6 := Lib.hid m6; clear m6
  have B6 : Hid (Below w.heap.size w w6) := b_then B5.out M6.out.2.2.2
  go_wp2_with fail
  refine (eqInts_same _ _ _ _ _ zs _ Hl.out kb (((M3.out.ii.keep B4l.out).keep B5l.out).keep M6.out.2.2.2) M6.out.ii).mono ?_
  rintro e w7 ⟨rfl, b7⟩
  have B7 := Lib.hid (b_then B6.out b7)
  go_wp2
  go_ret
  exact ⟨rfl, B7.out⟩
end Go.Proofs.Ytdbcblfinflieaa
