/-
  The errors of a state, and TorqueAt: the program's function and the model's.
-/
import Derived.Test.YtefeifkkinnoeaaDoorTa
namespace Go.Proofs.YtefeifkkinnoeaaDoor
open Go.RowKit Go.ChangeShapes Go.WideShapes Go.Deep
attribute [local go_sem ↓] Go.wp_at_zero Go.wp_at_succ
set_option linter.unusedVariables false
set_option linter.unusedSimpArgs false
set_option maxRecDepth 100000
/-- A governor and a state, boxed one behind the other. -/
def bothW (w : World) (G : Gv) (S : Se) : World := (w.alloc (.cells #[.int .i16 G.mb, .float .f32 G.mh, .float .f32 G.mr, .float .f32 G.ar, .float .f32 G.he, .float .f32 G.lo, .float .f32 G.hi, .float .f32 G.ine] 36)).alloc (.cells #[.float .f32 S.s, .int .i8 S.g] 31)
theorem both_q (w : World) (G : Gv) (S : Se) : AtGv (bothW w G S) w.heap.size G ∧ AtSe (bothW w G S) (w.heap.size + 1) S ∧ Below w.heap.size w (bothW w G S) := by
  refine ⟨(AtGv.new w G).push _, ?_, b_alloc (b_alloc (Below.refl _ _) _) _⟩
  have e : (w.alloc (.cells #[.int .i16 G.mb, .float .f32 G.mh, .float .f32 G.mr, .float .f32 G.ar, .float .f32 G.he, .float .f32 G.lo, .float .f32 G.hi, .float .f32 G.ine] 36)).heap.size = w.heap.size + 1 := by simp
  unfold bothW
  rw [← e]
  exact AtSe.new _ _
def bothB (G : Gv) (S : Se) : Bool := okG G && stB S
def bothK (G : Gv) (S : Se) : Int := if bothB G S then 0 else 1
def bothV (Z : Sens) (G : Gv) (S : Se) : Value := if bothB G S then .nilIface else .iface 98 (.pointer (some Z.a0))
theorem validState_is {S : Se} {b : Bool} (h : stB S = b) (wS : (Lit.int .i8 S.g).wf = true) (w : World) : Calls Tryd.prog 38 #[.agg #[.float .f32 S.s, .int .i8 S.g]] w (RV (.bool b) w) := by subst h; exact validState_any S wS w
theorem validGov_is {G : Gv} {b : Bool} (h : okG G = b) (w : World) : Calls Tryd.prog 37 #[.agg #[.int .i16 G.mb, .float .f32 G.mh, .float .f32 G.mr, .float .f32 G.ar, .float .f32 G.he, .float .f32 G.lo, .float .f32 G.hi, .float .f32 G.ine]] w (RV (.bool b) w) := by subst h; exact validGov_any G w
theorem l03State_is {S : Se} {b : Bool} (h : stB S = b) (wS : (Lit.int .i8 S.g).wf = true) (w : World) : Calls Tryd.prog 19 #[.agg #[.float .f32 S.s, .int .i8 S.g]] w (RV (.bool b) w) := by subst h; exact l03State_any S wS w
theorem l03Ok_is {G : Gv} {b : Bool} (h : okG G = b) (wG : (Lit.int .i16 G.mb).wf = true) (w : World) : Calls Tryd.prog 18 #[.agg #[.int .i16 G.mb, .float .f32 G.mh, .float .f32 G.mr, .float .f32 G.ar, .float .f32 G.he, .float .f32 G.lo, .float .f32 G.hi, .float .f32 G.ine]] w (RV (.bool b) w) := by subst h; exact l03Ok_any G wG w
theorem stateError_any (Z : Sens) (G : Gv) (S : Se) (wS : (Lit.int .i8 S.g).wf = true) (w : World) (hZ : SenAt w Z) : Calls Tryd.prog 23 #[.agg #[.int .i16 G.mb, .float .f32 G.mh, .float .f32 G.mr, .float .f32 G.ar, .float .f32 G.he, .float .f32 G.lo, .float .f32 G.hi, .float .f32 G.ine], .agg #[.float .f32 S.s, .int .i8 S.g]] w (RV (bothV Z G S) w) := by
  have HZ := Lib.hid hZ
  obtain ⟨q0, q1, bw⟩ := both_q w G S
  clear hZ
  unfold bothV bothB
  rcases Bool.eq_false_or_eq_true (okG G) with hk | hk <;> rcases Bool.eq_false_or_eq_true (stB S) with hs | hs
  all_goals
    simp only [hk, hs, if_true, if_false, Bool.false_eq_true, Bool.and_true, Bool.and_false, Bool.and_self, Bool.false_and]
    have Hk := Lib.hid hk; have Hs := Lib.hid hs
    have Q1 := Lib.hid q1; have BW := Lib.hid bw
    clear hk hs q0 q1 bw
    go_enter Tryd.func23, Tryd.ntmps23
    go_wp2_with (first | (go_at_call 37; refine (validGov_is Hk.out _).mono ?_; rintro e w1 ⟨rfl, b1⟩; have B1 : Hid (Below w.heap.size w w1) := b_then BW.out b1; have z1 := SenAt.on HZ.out (by rfl) B1.out; have g0 := z1.1.1.cell; clear z1; obtain ⟨d0, d1⟩ := (Q1.out.on (by rfl) b1).cells) | (go_at_call 38; refine (validState_is Hs.out wS _).mono ?_; rintro e w2 ⟨rfl, b2⟩; have B2 : Hid (Below w.heap.size w w2) := b_then B1.out b2; have z2 := SenAt.on HZ.out (by rfl) B2.out; have g1 := z2.1.1.cell; clear z2))
    go_ret
    refine ⟨rfl, ?_⟩
    first | exact B2.out | exact B1.out
theorem l03Both_any (G : Gv) (wG : (Lit.int .i16 G.mb).wf = true) (S : Se) (wS : (Lit.int .i8 S.g).wf = true) (w : World) : Calls Tryd.prog 9 #[.agg #[.int .i16 G.mb, .float .f32 G.mh, .float .f32 G.mr, .float .f32 G.ar, .float .f32 G.he, .float .f32 G.lo, .float .f32 G.hi, .float .f32 G.ine], .agg #[.float .f32 S.s, .int .i8 S.g]] w (RV (.int .i64 (bothK G S)) w) := by
  obtain ⟨q0, q1, bw⟩ := both_q w G S
  unfold bothK bothB
  rcases Bool.eq_false_or_eq_true (okG G) with hk | hk <;> rcases Bool.eq_false_or_eq_true (stB S) with hs | hs
  all_goals
    simp only [hk, hs, if_true, if_false, Bool.false_eq_true, Bool.and_true, Bool.and_false, Bool.and_self, Bool.false_and]
    have Hk := Lib.hid hk; have Hs := Lib.hid hs
    have Q1 := Lib.hid q1; have BW := Lib.hid bw
    clear hk hs q0 q1 bw
    go_enter Tryd.func9, Tryd.ntmps9
    go_wp2_with (first | (go_at_call 18; refine (l03Ok_is Hk.out wG _).mono ?_; rintro e w1 ⟨rfl, b1⟩; have B1 : Hid (Below w.heap.size w w1) := b_then BW.out b1; obtain ⟨d0, d1⟩ := (Q1.out.on (by rfl) b1).cells) | (go_at_call 19; refine (l03State_is Hs.out wS _).mono ?_; rintro e w2 ⟨rfl, b2⟩; have B2 : Hid (Below w.heap.size w w2) := b_then B1.out b2))
    go_ret
    refine ⟨rfl, ?_⟩
    first | exact B2.out | exact B1.out
theorem l03At_any (G : Gv) (hG : GoodG G) (s : Nat) (hs : spB s = true) (g : Int) (g0 : 0 ≤ g) (g1 : g ≤ 16) (w : World) : Calls Tryd.prog 21 #[.agg #[.int .i16 G.mb, .float .f32 G.mh, .float .f32 G.mr, .float .f32 G.ar, .float .f32 G.he, .float .f32 G.lo, .float .f32 G.hi, .float .f32 G.ine], .float .f32 s, .int .i64 g] w (RV (.float .f32 (torqG G g s)) w) := by
  have h0 := AtGv.new w G
  obtain ⟨c0, c1, c2, c3, c4, c5, c6, c7⟩ := h0.cells
  have HG := Lib.hid hG; have Hs := Lib.hid hs
  clear h0 hG hs
  go_enter Tryd.func21, Tryd.ntmps21
  go_wp2_with fail
  go_region_law (first
    | (go_simp; go_at_call 36; refine (specFlow_any G.ar G.he g HG.out.ar.1 HG.out.ar.2.1 g0 g1 _).mono ?_; rintro e w1 ⟨rfl, rfl⟩; dsimp only)
    | (go_simp; go_at_call 35; refine (specTorque_any (millOf G) HG.out.mill (flowN G.ar G.he g) s (flowG_ok HG.out g0 g1) Hs.out _).mono ?_; rintro e w2 ⟨rfl, b2⟩; dsimp only))
  all_goals
    go_wp2
    go_ret
    refine ⟨rfl, ?_⟩
    (repeat (first | exact Below.refl _ _ | refine b_drewN ?_ _ | refine b_drew ?_ | refine b_alloc ?_ _ | refine b_then ?_ (by assumption)))
end Go.Proofs.YtefeifkkinnoeaaDoor
