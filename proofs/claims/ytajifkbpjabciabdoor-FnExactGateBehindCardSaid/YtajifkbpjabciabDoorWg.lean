/-
  The walk of the law on GateBehind.
-/
import Derived.Test.YtajifkbpjabciabDoorGb
namespace Go.Proofs.YtajifkbpjabciabDoor
open Go.RowKit Go.ChangeShapes Go.WideShapes Go.Deep
attribute [local go_sem ↓] Go.wp_at_zero Go.wp_at_succ
set_option linter.unusedVariables false
set_option linter.unusedSimpArgs false
set_option maxRecDepth 100000
set_option maxRecDepth 100000 in
set_option maxHeartbeats 4000000 in
theorem walk_FnExactGateBehind (X : Gv) (wX : (Lit.int .i16 X.mb).wf = true ∧ (Lit.float .f32 X.mh).wf = true ∧ (Lit.float .f32 X.mr).wf = true ∧ (Lit.float .f32 X.ar).wf = true ∧ (Lit.float .f32 X.he).wf = true ∧ (Lit.float .f32 X.lo).wf = true ∧ (Lit.float .f32 X.hi).wf = true ∧ (Lit.float .f32 X.ine).wf = true) (Y : Se) (wY : (Lit.float .f32 Y.s).wf = true ∧ (Lit.int .i8 Y.g).wf = true) (w : World) (Z : Sens) (hZ : SenAt w Z) : Calls Tryd.prog 3 #[.agg #[.int .i16 X.mb, .float .f32 X.mh, .float .f32 X.mr, .float .f32 X.ar, .float .f32 X.he, .float .f32 X.lo, .float .f32 X.hi, .float .f32 X.ine], .agg #[.float .f32 Y.s, .int .i8 Y.g]] w fun e w' => e = .returned (.bool true) ∧ Below w.heap.size w w' := by
  have k0 : AtLGv ((w.alloc (.cells #[.int .i16 X.mb, .float .f32 X.mh, .float .f32 X.mr, .float .f32 X.ar, .float .f32 X.he, .float .f32 X.lo, .float .f32 X.hi, .float .f32 X.ine] 27)).alloc (.cells #[.float .f32 Y.s, .int .i8 Y.g] 30)) w.heap.size X := (AtLGv.new w X).push _
  have k1 : AtLSe ((w.alloc (.cells #[.int .i16 X.mb, .float .f32 X.mh, .float .f32 X.mr, .float .f32 X.ar, .float .f32 X.he, .float .f32 X.lo, .float .f32 X.hi, .float .f32 X.ine] 27)).alloc (.cells #[.float .f32 Y.s, .int .i8 Y.g] 30)) (w.heap.size + 1) Y := by
    have e : (w.alloc (.cells #[.int .i16 X.mb, .float .f32 X.mh, .float .f32 X.mr, .float .f32 X.ar, .float .f32 X.he, .float .f32 X.lo, .float .f32 X.hi, .float .f32 X.ine] 27)).heap.size = w.heap.size + 1 := by simp
    rw [← e]
    exact AtLSe.new _ _
  have bw : Below w.heap.size w ((w.alloc (.cells #[.int .i16 X.mb, .float .f32 X.mh, .float .f32 X.mr, .float .f32 X.ar, .float .f32 X.he, .float .f32 X.lo, .float .f32 X.hi, .float .f32 X.ine] 27)).alloc (.cells #[.float .f32 Y.s, .int .i8 Y.g] 30)) := b_alloc (b_alloc (Below.refl _ _) _) _
  have HZ := Lib.hid hZ; clear hZ
  go_enter Tryd.func3, Tryd.ntmps3
  go_upto_region 1 with fail
  generalize ((w.alloc (.cells #[.int .i16 X.mb, .float .f32 X.mh, .float .f32 X.mr, .float .f32 X.ar, .float .f32 X.he, .float .f32 X.lo, .float .f32 X.hi, .float .f32 X.ine] 27)).alloc (.cells #[.float .f32 Y.s, .int .i8 Y.g] 30)) = W at *
  have K0 := Lib.hid k0; have K1 := Lib.hid k1; have Bw := Lib.hid bw
  obtain ⟨c0, c1, c2, c3, c4, c5, c6, c7⟩ := k0.cells
  obtain ⟨d0, d1⟩ := k1.cells
  have hs0 : w.heap.size < W.heap.size := k0.lt
  have hs1 : w.heap.size + 1 < W.heap.size := k1.lt
  clear k0 k1 bw
  go_cut [5, 6] (fun s5 s6 wx => s5 = .int .i64 (zeroIfI (bothK X Y) (gateN X Y)) ∧ s6 = .int .i64 (bothK X Y) ∧ Below W.heap.size W wx)
  case first =>
    go_region_law (first | (go_simp; go_at_call 11; refine (specGateBehind_any X wX.1 Y wY.2 _).mono ?_; rintro e w1 ⟨rfl, b1⟩; dsimp only) | (go_simp; go_at_call 12; refine (toGv_any X _).mono ?_; rintro e w1 ⟨rfl, b1⟩; (try (obtain ⟨u0, u1⟩ := (K1.out.on (by rfl) b1).cells)); dsimp only) | (go_simp; go_at_call 13; refine (toSe_any Y _).mono ?_; rintro e w1 ⟨rfl, b1⟩; dsimp only))
    all_goals
      go_wp2_with fail
      go_meet
      refine ⟨rfl, rfl, ?_⟩
      repeat (first | exact Below.refl W.heap.size W | refine b_drewN ?_ _ | refine b_drew ?_ | refine b_then ?_ (by assumption))
  case rest =>
    obtain ⟨rfl, rfl, hbc⟩ := hcut
    have k0 := K0.out.on (by rfl) hbc
    have k1 := K1.out.on (by rfl) hbc
    have M0 := Lib.hid k0; have M1 := Lib.hid k1; have Bc := Lib.hid (b_then Bw.out hbc)
    have ZC : Hid (SenAt wc Z) := SenAt.on HZ.out (by rfl) Bc.out
    clear c0 c1 c2 c3 c4 c5 c6 c7 d0 d1 hbc
    obtain ⟨c0, c1, c2, c3, c4, c5, c6, c7⟩ := k0.cells
    obtain ⟨d0, d1⟩ := k1.cells
    have ht0 : w.heap.size < wc.heap.size := k0.lt
    have ht1 : w.heap.size + 1 < wc.heap.size := k1.lt
    clear k0 k1
    go_upto_region 2 with fail
    go_cut [7, 8] (fun s7 s8 wx => s7 = .int .i64 (zeroIfI (bothK X Y) (gateN X Y)) ∧ s8 = .int .i64 (bothK X Y) ∧ Below wc.heap.size wc wx)
    case first =>
      go_region_law (first | (go_simp; go_at_call 14; refine (implGateBehind_any X Y wY.2 _ Z (SenAt.on ZC.out (by rfl) (by (repeat (first | exact Below.refl _ _ | refine b_drewN ?_ _ | refine b_drew ?_ | refine b_then ?_ (by assumption)))))).mono ?_; rintro e w1 ⟨rfl, b1⟩; dsimp only) | (go_simp; go_at_call 12; refine (toGv_any X _).mono ?_; rintro e w1 ⟨rfl, b1⟩; (try (obtain ⟨u0, u1⟩ := (M1.out.on (by rfl) b1).cells)); dsimp only) | (go_simp; go_at_call 13; refine (toSe_any Y _).mono ?_; rintro e w1 ⟨rfl, b1⟩; dsimp only))
      all_goals
        go_wp2_with fail
        go_meet
        refine ⟨rfl, rfl, ?_⟩
        repeat (first | exact Below.refl wc.heap.size wc | refine b_drewN ?_ _ | refine b_drew ?_ | refine b_then ?_ (by assumption))
    case rest =>
      obtain ⟨rfl, rfl, hbd⟩ := hcut
      have B3 : Hid (Below w.heap.size w _) := b_then Bc.out hbd
      clear c0 c1 c2 c3 c4 c5 c6 c7 d0 d1 hbd
      go_wp2
      go_ret
      exact ⟨rfl, B3.out⟩
end Go.Proofs.YtajifkbpjabciabDoor
