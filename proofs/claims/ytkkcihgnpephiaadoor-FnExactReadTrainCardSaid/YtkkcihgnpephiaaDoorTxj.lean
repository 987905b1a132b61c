/-
  The laws of a number's text and of a number that is read.
-/
import Derived.Test.YtkkcihgnpephiaaDoorTxi
import Derived.Test.YtkkcihgnpephiaaDoorBase
namespace Go.Proofs.YtkkcihgnpephiaaDoor
open Go.RowKit Go.ChangeShapes Go.WideShapes Go.Deep
attribute [local go_sem ↓] Go.wp_at_zero Go.wp_at_succ
set_option linter.unusedVariables false
set_option linter.unusedSimpArgs false
set_option maxRecDepth 100000
theorem f32_lt {a : Nat} (h : (Lit.float .f32 a).wf = true) : a < 4294967296 := by
  have h2 : (Lit.float .f32 a).wf = decide (a < 4294967296) := by rfl
  rw [h2] at h
  exact of_decide_eq_true h
theorem specNumText_any (a : Nat) (ha : a < 4294967296) (w : World) : Calls Tryd.prog 15 #[.float .f32 a] w (RV (.string (bsOf (hex8 (cn a)))) w) := by
  have L := Lib.hid (l01Hex_any a ha w)
  go_enter Tryd.func15, Tryd.ntmps15
  go_wp2_with fail
  refine L.out.mono ?_
  rintro e w1 ⟨rfl, b⟩
  go_wp2
  go_ret
  exact ⟨rfl, b⟩
theorem specReadNum_any (t : ByteArray) (w : World) : Calls Tryd.prog 17 #[.string t] w fun e w' => e = .returned (.tuple #[.float .f32 (rnV (rdN t.data.toList)), .int .i64 (rnK (rdN t.data.toList))]) ∧ w = w' := by
  have L := Lib.hid (l01Read_any t w)
  cases hr : rdN t.data.toList with
  | some v =>
    rw [hr] at L
    have HR := Lib.hid hr
    clear hr
    go_enter Tryd.func17, Tryd.ntmps17
    go_wp2_with fail
    refine L.out.mono ?_
    rintro e w1 ⟨⟨x, rfl, hx⟩, rfl⟩
    obtain rfl := hx v rfl
    go_wp2
    go_ret2
    exact ⟨rfl, rfl⟩
  | none =>
    rw [hr] at L
    have HR := Lib.hid hr
    clear hr
    go_enter Tryd.func17, Tryd.ntmps17
    go_wp2_with fail
    refine L.out.mono ?_
    rintro e w1 ⟨⟨x, rfl, hx⟩, rfl⟩
    go_wp2
    go_ret2
    exact ⟨rfl, rfl⟩
/-- A number, converted twice, is the same. -/
theorem conv1 (x : Nat) : ∃ (z : World → Nat) (d : Nat), (∀ w, (convert 22 28 (.float .f32 x)).run Tryd.prog w = .ok (.float .f64 (z w)) (w.drewN d)) ∧
    ∀ (w W w2 : World), Calls Tryd.prog 19 #[.float .f64 (z w), .float .f64 (z w2)] W fun e w' => e = .returned (.bool true) ∧ W = w' := by
  cases hx : nan32 x
  · refine ⟨fun _ => wide x, 0, fun w => ?_, fun w W w2 => sf_eq _ _ (wide_some hx).2⟩
    exact run_wide (P := Tryd.prog) w 22 28 x (by rw [Tryd.underlying22]; rfl) Tryd.underlying28 hx
  · refine ⟨fun w => nanTo w x, 1, fun w => ?_, fun w W w2 => sf_nan _ _ _ (nanTo_nan _ _) (nanTo_nan _ _)⟩
    exact run_nan_wide (P := Tryd.prog) w 22 28 x (by rw [Tryd.underlying22]; rfl) Tryd.underlying28 hx
theorem walk_FnExactNumberText (a : Nat) (wa : (Lit.float .f32 a).wf = true) (w : World) (hT : TbAt w) :
    Calls Tryd.prog 3 #[.float .f32 a] w fun e w' => e = .returned (.bool true) ∧ Below w.heap.size w w' := by
  have ha := f32_lt wa
  have HT := Lib.hid hT
  clear hT wa
  obtain ⟨T, hTT⟩ : ∃ T, T = bsOf (hex8 (cn a)) := ⟨_, rfl⟩
  have HTT := Lib.hid hTT
  clear hTT
  go_enter Tryd.func3, Tryd.ntmps3
  go_wp2_with fail
  refine (specNumText_any a ha _).mono ?_
  rintro e w1 ⟨rfl, b1⟩
  rw [← HTT.out]
  have B1 := Lib.hid b1
  have HT1 := Lib.hid (HT.out.below b1)
  clear b1
  go_wp2_with fail
  refine (numText_any a ha w1 HT1.out).mono ?_
  rintro e w2 ⟨rfl, b2⟩
  rw [← HTT.out]
  have B2 := Lib.hid (b_then B1.out b2)
  clear b2
  go_wp2
  go_ret
  exact ⟨rfl, B2.out⟩
set_option maxHeartbeats 1000000 in
theorem walk_FnExactReadNumber (t : ByteArray) (wt : t.size ≤ maxLen) (w : World) (hT : TbAt w) (hE : TeAt w) :
    Calls Tryd.prog 4 #[.string t] w fun e w' => e = .returned (.bool true) ∧ Below w.heap.size w w' := by
  have HT := Lib.hid hT
  have HE := Lib.hid hE
  clear hT hE
  unfold maxLen at wt
  by_cases hz : 1048576 < (t.size : Int)
  · go_enter Tryd.func4, Tryd.ntmps4
    go_wp2
    go_ret
    exact ⟨rfl, Below.refl _ _⟩
  · have hmax : t.size ≤ 281474976710656 := by omega
    have L1 := Lib.hid (specReadNum_any t w)
    have L2 := Lib.hid (readNum_any t hmax w HT.out HE.out)
    generalize rnV (rdN t.data.toList) = V at *
    generalize rnK (rdN t.data.toList) = K at *
    obtain ⟨z1, d1, c1, hs⟩ := conv1 V
    have HS := Lib.hid hs
    clear hs hmax
    go_enter Tryd.func4, Tryd.ntmps4
    go_wp2_with fail
    refine L1.out.mono ?_
    rintro e w1 ⟨rfl, rfl⟩
    go_wp2_with fail
    refine L2.out.mono ?_
    rintro e w2 ⟨rfl, b2⟩
    have B2 := Lib.hid b2
    clear b2
    go_wp2_with fail
    refine (HS.out _ _ _).mono ?_
    rintro e w3 ⟨rfl, hw3⟩
    have B3 : Hid (Below w.heap.size w w3) := by rw [← hw3]; exact Lib.hid (by repeat (first | exact B2.out | refine b_drewN ?_ _ | refine b_drew ?_))
    clear hw3 c1
    go_wp2
    go_ret
    exact ⟨rfl, B3.out⟩
end Go.Proofs.YtkkcihgnpephiaaDoor
