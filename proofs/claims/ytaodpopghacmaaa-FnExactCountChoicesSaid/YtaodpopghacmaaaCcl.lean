/-
  How many choices are near to a target: the law.
-/
import Derived.Test.YtaodpopghacmaaaCcp
namespace Go.Proofs.Ytaodpopghacmaaa
open Go.RowKit Go.ChangeShapes Go.WideShapes Go.Deep
attribute [local go_sem ↓] Go.wp_at_zero Go.wp_at_succ
set_option linter.unusedVariables false
set_option linter.unusedSimpArgs false
set_option maxRecDepth 100000
theorem implCount_any (A : Option Addr) (n c : Nat) (zs : List Int) (t x : Nat) (w : World) (hl : zs.length = n) (hn : n ≤ 1048576) (hw : ∀ z ∈ zs, I16 z) (hT : Ii w w.heap.size A zs) {K0 : Int} (hK0 : codeX (okZ zs) (tgB t && ptB x) = K0) :
    Calls Try.prog 35 #[.slice A n c, .float .f32 t, .float .f32 x] w (RV (.tuple #[.int .i64 (ccN zs n t x K0 : Int), .int .i64 K0]) w) := by
  cases ht : tgB t
  · rw [ht, Bool.false_and] at hK0
    exact implCount_F A n c zs t x w hl hn hw hT ht hK0
  · rw [ht, Bool.true_and] at hK0
    exact implCount_T A n c zs t x w hl hn hw hT ht rfl hK0
set_option maxHeartbeats 4000000 in
theorem walk_FnExactCountChoices (A : Option Addr) (n c : Nat) (zs : List Int) (t : Nat) (wt : (Lit.float .f32 t).wf = true) (x : Nat) (wx : (Lit.float .f32 x).wf = true) (w : World) (h : IiIn w A n c zs) :
    Calls Try.prog 9 #[.slice A n c, .float .f32 t, .float .f32 x] w fun e w' => e = .returned (.bool true) ∧ Below w.heap.size w w' := by
  obtain ⟨hl, hnc, hc, hT, hw⟩ := h
  have Hl := Lib.hid hl; clear hl
  have HT := Lib.hid hT; clear hT
  have Hw := Lib.hid hw; clear hw
  have hnm : n ≤ maxLen := Nat.le_trans hnc hc
  unfold maxLen at hnm
  clear hnc hc wt wx
  by_cases z0 : 1048576 < (n : Int)
  · go_enter Try.func9, Try.ntmps9
    go_wp2
    go_ret
    exact ⟨rfl, Below.refl _ _⟩
  have kb : n ≤ 1048576 := by omega
  have L1 := Lib.hid (fun A c W h => specCount_any A n c zs t x W Hl.out kb Hw.out h rfl)
  have L2 := Lib.hid (fun A c W h => implCount_any A n c zs t x W Hl.out kb Hw.out h rfl)
  generalize codeX (okZ zs) (tgB t && ptB x) = K at *
  generalize (ccN zs n t x K : Int) = R at *
  go_enter Try.func9, Try.ntmps9
  go_wp2_with fail
  refine (toInts_any A n c zs _ Hl.out kb HT.out).mono ?_
  rintro e w1 ⟨rfl, m1⟩
  have M1 := Lib.hid m1; clear m1
  have B1 : Hid (Below w.heap.size w w1) := M1.out.2.2.2
  go_wp2_with fail
  refine (L1.out _ _ _ M1.out.ii).mono ?_
  rintro e w2 ⟨rfl, b2⟩
  have B2 : Hid (Below w.heap.size w w2) := b_then B1.out b2
  clear b2
  go_wp2_with fail
  refine (toInts_any A n c zs _ Hl.out kb (HT.out.keep B2.out)).mono ?_
  rintro e w3 ⟨rfl, m3⟩
  have M3 := Lib.hid m3; clear m3
  have B3 : Hid (Below w.heap.size w w3) := b_then B2.out M3.out.2.2.2
  go_wp2_with fail
  refine (L2.out _ _ _ M3.out.ii).mono ?_
  rintro e w4 ⟨rfl, b4⟩
  have M4 := Lib.hid (M3.out.ii.keep b4)
  have B4 : Hid (Below w.heap.size w w4) := b_then B3.out b4
  clear b4
  go_wp2_with fail
  refine (toInts_any A n c zs _ Hl.out kb (HT.out.keep B4.out)).mono ?_
  rintro e w7 ⟨rfl, m7⟩
  have M7 := Lib.hid m7; clear m7
  have B7 : Hid (Below w.heap.size w w7) := b_then B4.out M7.out.2.2.2
  go_wp2_with fail
  refine (eqInts_same _ _ _ _ _ zs _ Hl.out kb (M4.out.keep M7.out.2.2.2) M7.out.ii).mono ?_
  rintro e w8 ⟨rfl, b8⟩
  have B8 := Lib.hid (b_then B7.out b8)
  go_wp2
  go_ret
  exact ⟨rfl, B8.out⟩
end Go.Proofs.Ytaodpopghacmaaa
