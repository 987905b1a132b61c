/-
  The law of CrossingsOf.
-/
import Derived.Test.YtdpgfbmelnmkdabDoorLnj
namespace Go.Proofs.YtdpgfbmelnmkdabDoor
open Go.RowKit Go.ChangeShapes Go.WideShapes Go.Deep
attribute [local go_sem ↓] Go.wp_at_zero Go.wp_at_succ
set_option linter.unusedVariables false
set_option linter.unusedSimpArgs false
set_option maxRecDepth 100000 in
set_option maxHeartbeats 4000000 in
theorem walk_FnExactCrossingsOf (A_0 : Option Addr) (n_0 c_0 : Nat) (p_0 : List Dc) (x1 : Nat) (wx1 : (Lit.float .f32 x1).wf = true) (w : World) (h_0 : Dc.In w A_0 n_0 c_0 p_0) (hE : EtAt w) :
    Calls Tryd.prog 6 #[.slice A_0 n_0 c_0, .float .f32 x1] w fun e w' => e = .returned (.bool true) ∧ Below w.heap.size w w' := by
  have HE := Lib.hid hE; clear hE
  obtain ⟨hl0, hnc0, hc0, hT0, hw0⟩ := h_0
  have hnm0 : n_0 ≤ maxLen := Nat.le_trans hnc0 hc0
  unfold maxLen at hnm0
  have Hl0 := Lib.hid hl0; clear hl0
  have HT0 := Lib.hid hT0; clear hT0
  have Hw0 := Lib.hid hw0; clear hw0
  clear hnc0 hc0
  by_cases z0 : 1048576 < (n_0 : Int)
  · go_enter Tryd.func6, Tryd.ntmps6
    go_wp2_with fail
    refine (Dc.sz_any _ _ _ _ _ (by unfold maxLen; exact hnm0) (by omega) (by omega)).mono ?_
    rintro e v0 ⟨rfl, rfl⟩
    rw [if_pos (by omega)]
    go_wp2
    go_ret
    exact ⟨rfl, Below.refl _ _⟩
  have kb0 : n_0 ≤ 1048576 := by omega
  go_enter Tryd.func6, Tryd.ntmps6
  go_wp2_with fail
  refine (Dc.sz_any _ _ _ _ _ (by unfold maxLen; exact hnm0) (by omega) (by omega)).mono ?_
  rintro e v0 ⟨rfl, rfl⟩
  rw [if_neg (by omega)]
  go_wp2_with fail
  refine (Dc.to_any A_0 n_0 c_0 p_0 _ Hl0.out kb0 HT0.out).mono ?_
  rintro e w1 ⟨rfl, m1⟩
  have M1 := Lib.hid m1; clear m1
  have B1 : Hid (Below w.heap.size w w1) := M1.out.2.2.2
  have f1 : w.heap.size < w1.heap.size := M1.out.2.2.1
  have D1 : Hid (Below w.heap.size w w1) := B1.out
  have s1 : w.heap.size ≤ w1.heap.size := B1.out.size
  go_wp2_with fail
  refine (specCross_any _ _ _ p_0 x1 _ Hl0.out kb0 M1.out.l).mono ?_
  rintro e w2 ⟨rfl, b2⟩
  have B2 := Lib.hid b2; clear b2
  have D2 : Hid (Below w.heap.size w w2) := b_then D1.out B2.out
  have s2 : w1.heap.size ≤ w2.heap.size := B2.out.size
  go_wp2_with fail
  refine (Dc.to_any A_0 n_0 c_0 p_0 _ Hl0.out kb0 (HT0.out.keep D2.out)).mono ?_
  rintro e w3 ⟨rfl, m3⟩
  have M3 := Lib.hid m3; clear m3
  have B3 : Hid (Below w2.heap.size w2 w3) := M3.out.2.2.2
  have f3 : w2.heap.size < w3.heap.size := M3.out.2.2.1
  have D3 : Hid (Below w.heap.size w w3) := b_then D2.out B3.out
  have s3 : w2.heap.size ≤ w3.heap.size := B3.out.size
  go_wp2_with fail
  refine (implCross_any _ _ _ p_0 x1 _ (EtAt.on HE.out (by rfl) D3.out) Hl0.out kb0 M3.out.l).mono ?_
  rintro e w4 ⟨rfl, b4⟩
  have B4 := Lib.hid b4; clear b4
  have D4 : Hid (Below w.heap.size w w4) := b_then D3.out B4.out
  have s4 : w3.heap.size ≤ w4.heap.size := B4.out.size
  go_wp2_with fail
  refine (Dc.to_any A_0 n_0 c_0 p_0 _ Hl0.out kb0 (HT0.out.keep D4.out)).mono ?_
  rintro e w5 ⟨rfl, m5⟩
  have M5 := Lib.hid m5; clear m5
  have B5 : Hid (Below w4.heap.size w4 w5) := M5.out.2.2.2
  have f5 : w4.heap.size < w5.heap.size := M5.out.2.2.1
  have D5 : Hid (Below w.heap.size w w5) := b_then D4.out B5.out
  have s5 : w4.heap.size ≤ w5.heap.size := B5.out.size
  go_wp2_with fail
  refine (Dc.eq_any _ _ _ _ _ p_0 p_0 _ Hl0.out rfl kb0 ((M3.out.l.keep B4.out).keep B5.out) M5.out.l).mono ?_
  rintro e w6 ⟨rfl, b6⟩
  have B6 := Lib.hid b6; clear b6
  have D6 : Hid (Below w.heap.size w w6) := b_then D5.out B6.out
  have s6 : w5.heap.size ≤ w6.heap.size := B6.out.size
  go_wp2
  go_ret
  exact ⟨rfl, D6.out⟩
end Go.Proofs.YtdpgfbmelnmkdabDoor
