/-
  The best choice: the law.
-/
import Derived.Test.YtaodpopghacmaaaChn
namespace Go.Proofs.Ytaodpopghacmaaa
open Go.RowKit Go.ChangeShapes Go.WideShapes Go.Deep
attribute [local go_sem ↓] Go.wp_at_zero Go.wp_at_succ
set_option linter.unusedVariables false
set_option linter.unusedSimpArgs false
set_option maxRecDepth 100000
theorem eqC_any (x : (Nat × Nat) × (Nat × Nat)) (w : World) : Calls Try.prog 33 #[.agg (chK x), .agg (chK x)] w fun e w' => e = .returned (.bool true) ∧ Below w.heap.size w w' := by
  have k0 := Blk.new w (chK x) 49
  have k1 := k0.more (.cells (chK x) 49)
  have k2 : Blk ((w.alloc (.cells (chK x) 49)).alloc (.cells (chK x) 49)) (w.heap.size + 1) (chK x) 49 := Blk.newAt (by simp) _ _
  have c0 := k1.cell 0; have c1 := k1.cell 1; have c2 := k1.cell 2; have c3 := k1.cell 3
  have d0 := k2.cell 0; have d1 := k2.cell 1; have d2 := k2.cell 2; have d3 := k2.cell 3
  simp at c0 c1 c2 c3 d0 d1 d2 d3
  clear k0 k1 k2
  go_enter Try.func33, Try.ntmps33
  go_wp2
  go_ret
  exact ⟨rfl, b_alloc (b_alloc (Below.refl _ _) _) _⟩
theorem conv_oneC (x : Nat) : ∃ z : World → Nat, ∃ d : Nat, (∀ w, (convert 23 36 (.float .f32 x)).run Try.prog w = .ok (.float .f64 (z w)) (w.drewN d)) ∧ ∀ (w W w2 : World), Calls Try.prog 21 #[.float .f64 (z w), .float .f64 (z w2)] W fun e w' => e = .returned (.bool true) ∧ W = w' := by
  cases h : nan32 x
  · refine ⟨fun _ => wide x, 0, fun w => ?_, fun w W w2 => sf_eq _ _ (wide_some h).2⟩
    exact run_wide (P := Try.prog) w 23 36 x (by rw [Try.underlying23]; rfl) Try.underlying36 h
  · refine ⟨fun w => nanTo w x, 1, fun w => ?_, fun w W w2 => sf_nan _ _ _ (nanTo_nan _ _) (nanTo_nan _ _)⟩
    exact run_nan_wide (P := Try.prog) w 23 36 x (by rw [Try.underlying23]; rfl) Try.underlying36 h
set_option maxHeartbeats 4000000 in
theorem walk_FnExactBestChoice (A : Option Addr) (n c : Nat) (zs : List Int) (t : Nat) (wt : (Lit.float .f32 t).wf = true) (w : World) (h : IiIn w A n c zs) :
    Calls Try.prog 8 #[.slice A n c, .float .f32 t] w fun e w' => e = .returned (.bool true) ∧ Below w.heap.size w w' := by
  obtain ⟨hl, hnc, hc, hT, hw⟩ := h
  have Hl := Lib.hid hl; clear hl
  have HT := Lib.hid hT; clear hT
  have Hw := Lib.hid hw; clear hw
  have hnm : n ≤ maxLen := Nat.le_trans hnc hc
  unfold maxLen at hnm
  clear hnc hc wt
  by_cases z0 : 1048576 < (n : Int)
  · go_enter Try.func8, Try.ntmps8
    go_wp2
    go_ret
    exact ⟨rfl, Below.refl _ _⟩
  have kb : n ≤ 1048576 := by omega
  have L1 := Lib.hid (fun A c W h => specBestC_any A n c zs t W Hl.out kb Hw.out h rfl)
  have L2 := Lib.hid (fun A c W h => implBestC_any A n c zs t W Hl.out kb Hw.out h rfl rfl)
  generalize bcK n (codeX (okZ zs) (tgB t)) = K at *
  generalize bcR zs n t (codeX (okZ zs) (tgB t)) = R at *
  obtain ⟨y, Z⟩ := R
  dsimp only at L1 L2
  have HQ := Lib.hid (fun W => eqC_any y W)
  obtain ⟨z1, dz1, cz1, hs1⟩ := conv_oneC Z
  have HS1 := Lib.hid hs1; clear hs1
  go_enter Try.func8, Try.ntmps8
  go_wp2_with fail
  refine (toInts_any A n c zs _ Hl.out kb HT.out).mono ?_
  rintro e w1 ⟨rfl, m1⟩
  have M1 := Lib.hid m1; clear m1
  have B1 : Hid (Below w.heap.size w w1) := M1.out.2.2.2
  go_wp2_with fail
  refine (L1.out _ _ _ M1.out.ii).mono ?_
  rintro e w2 ⟨rfl, b2⟩
  have B2 : Hid (Below w.heap.size w w2) := b_then B1.out b2
  clear b2
  go_wp2_with fail
  obtain ⟨V, hV⟩ : ∃ V, w2.alloc (.cells (chK y) 49) = V := ⟨_, rfl⟩
  have k2 := Lib.hid (show Blk V w2.heap.size (chK y) 49 by rw [← hV]; exact Blk.new _ _ _)
  have BV : Hid (Below w.heap.size w V) := by rw [← hV]; exact b_alloc B2.out _
  dsimp only [chK] at hV
  try simp only [hV]
  refine (toInts_any A n c zs _ Hl.out kb (HT.out.keep BV.out)).mono ?_
  rintro e w3 ⟨rfl, m3⟩
  have k3 := Lib.hid (k2.out.under m3.2.2.2)
  have M3 := Lib.hid m3; clear m3
  have B3 : Hid (Below w.heap.size w w3) := b_then BV.out M3.out.2.2.2
  go_wp2_with fail
  refine (L2.out _ _ _ M3.out.ii).mono ?_
  rintro e w4 ⟨rfl, b4⟩
  have k4 := Lib.hid (k3.out.under b4)
  have B4 : Hid (Below w.heap.size w w4) := b_then B3.out b4
  have M4 := Lib.hid (M3.out.ii.keep b4)
  clear b4
  have k5 := k4.out.more (.cells (chK y) 49)
  have c0 := k5.cell 0; have c1 := k5.cell 1; have c2 := k5.cell 2; have c3 := k5.cell 3
  simp at c0 c1 c2 c3
  clear k5
  go_wp2_with fail
  refine (HQ.out _).mono ?_
  rintro e w5 ⟨rfl, b5⟩
  have B5l : Hid (Below w4.heap.size w4 w5) := b_then (b_alloc (Below.refl _ _) _) b5
  have B5 : Hid (Below w.heap.size w w5) := b_then B4.out B5l.out
  clear b5 c0 c1 c2 c3
  go_wp2_with fail
  refine (HS1.out _ _ _).mono ?_
  rintro e w6 ⟨rfl, hw6⟩
  have B6l : Hid (Below w5.heap.size w5 w6) := by rw [← hw6]; repeat (first | exact Below.refl _ _ | refine b_drewN ?_ _ | refine b_drew ?_)
  clear hw6
  have B6 : Hid (Below w.heap.size w w6) := b_then B5.out B6l.out
  clear cz1
  go_wp2_with fail
  refine (toInts_any A n c zs _ Hl.out kb (HT.out.keep B6.out)).mono ?_
  rintro e w7 ⟨rfl, m7⟩
  have M7 := Lib.hid m7; clear m7
  have B7 : Hid (Below w.heap.size w w7) := b_then B6.out M7.out.2.2.2
  go_wp2_with fail
  refine (eqInts_same _ _ _ _ _ zs _ Hl.out kb (((M4.out.keep B5l.out).keep B6l.out).keep M7.out.2.2.2) M7.out.ii).mono ?_
  rintro e w8 ⟨rfl, b8⟩
  have B8 := Lib.hid (b_then B7.out b8)
  go_wp2
  go_ret
  exact ⟨rfl, B8.out⟩
end Go.Proofs.Ytaodpopghacmaaa
