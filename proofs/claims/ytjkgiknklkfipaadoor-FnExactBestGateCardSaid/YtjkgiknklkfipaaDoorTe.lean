/-
  The errors of a state, and TorqueAt: the program's function and the model's.
-/
import Derived.Test.YtjkgiknklkfipaaDoorTa
namespace Go.Proofs.YtjkgiknklkfipaaDoor
open Go.RowKit Go.ChangeShapes Go.WideShapes Go.Deep
attribute [local go_sem ↓] Go.wp_at_zero Go.wp_at_succ
set_option linter.unusedVariables false
set_option linter.unusedSimpArgs false
set_option maxRecDepth 100000
/-- A governor and a state, boxed one behind the other. -/
def bothW (w : World) (G : Gv) (S : Se) : World := (w.alloc (.cells #[.int .i16 G.mb, .float .f32 G.mh, .float .f32 G.mr, .float .f32 G.ar, .float .f32 G.he, .float .f32 G.lo, .float .f32 G.hi, .float .f32 G.ine] 58)).alloc (.cells #[.float .f32 S.s, .int .i8 S.g] 126)
theorem both_q (w : World) (G : Gv) (S : Se) : AtGv (bothW w G S) w.heap.size G ∧ AtSe (bothW w G S) (w.heap.size + 1) S ∧ Below w.heap.size w (bothW w G S) := by
  refine ⟨(AtGv.new w G).push _, ?_, b_alloc (b_alloc (Below.refl _ _) _) _⟩
  have e : (w.alloc (.cells #[.int .i16 G.mb, .float .f32 G.mh, .float .f32 G.mr, .float .f32 G.ar, .float .f32 G.he, .float .f32 G.lo, .float .f32 G.hi, .float .f32 G.ine] 58)).heap.size = w.heap.size + 1 := by simp
  unfold bothW
  rw [← e]
  exact AtSe.new _ _
def bothB (G : Gv) (S : Se) : Bool := okG G && stB S
def bothK (G : Gv) (S : Se) : Int := if bothB G S then 0 else 1
def bothV (Z : Sens) (G : Gv) (S : Se) : Value := if bothB G S then .nilIface else .iface 174 (.pointer (some Z.a0))
theorem validGov_is {G : Gv} {b : Bool} (h : okG G = b) (w : World) : Calls Tryd.prog 79 #[.agg #[.int .i16 G.mb, .float .f32 G.mh, .float .f32 G.mr, .float .f32 G.ar, .float .f32 G.he, .float .f32 G.lo, .float .f32 G.hi, .float .f32 G.ine]] w (RV (.bool b) w) := by subst h; exact validGov_any G w
theorem l03Ok_is {G : Gv} {b : Bool} (h : okG G = b) (wG : (Lit.int .i16 G.mb).wf = true) (w : World) : Calls Tryd.prog 74 #[.agg #[.int .i16 G.mb, .float .f32 G.mh, .float .f32 G.mr, .float .f32 G.ar, .float .f32 G.he, .float .f32 G.lo, .float .f32 G.hi, .float .f32 G.ine]] w (RV (.bool b) w) := by subst h; exact l03Ok_any G wG w
theorem l03At_any (G : Gv) (hG : GoodG G) (s : Nat) (hs : spB s = true) (g : Int) (g0 : 0 ≤ g) (g1 : g ≤ 16) (w : World) : Calls Tryd.prog 52 #[.agg #[.int .i16 G.mb, .float .f32 G.mh, .float .f32 G.mr, .float .f32 G.ar, .float .f32 G.he, .float .f32 G.lo, .float .f32 G.hi, .float .f32 G.ine], .float .f32 s, .int .i64 g] w (RV (.float .f32 (torqG G g s)) w) := by
  have h0 := AtGv.new w G
  obtain ⟨c0, c1, c2, c3, c4, c5, c6, c7⟩ := h0.cells
  have HG := Lib.hid hG; have Hs := Lib.hid hs
  clear h0 hG hs
  go_enter Tryd.func52, Tryd.ntmps52
  go_wp2_with fail
  go_region_law (first
    | (go_simp; go_at_call 78; refine (specFlow_any G.ar G.he g HG.out.ar.1 HG.out.ar.2.1 g0 g1 _).mono ?_; rintro e w1 ⟨rfl, rfl⟩; dsimp only)
    | (go_simp; go_at_call 77; refine (specTorque_any (millOf G) HG.out.mill (flowN G.ar G.he g) s (flowG_ok HG.out g0 g1) Hs.out _).mono ?_; rintro e w2 ⟨rfl, b2⟩; dsimp only))
  all_goals
    go_wp2
    go_ret
    refine ⟨rfl, ?_⟩
    (repeat (first | exact Below.refl _ _ | refine b_drewN ?_ _ | refine b_drew ?_ | refine b_alloc ?_ _ | refine b_then ?_ (by assumption)))
end Go.Proofs.YtjkgiknklkfipaaDoor
