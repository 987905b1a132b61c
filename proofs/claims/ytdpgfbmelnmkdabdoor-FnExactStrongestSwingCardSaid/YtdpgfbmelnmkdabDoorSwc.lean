/-
  Swings, the program's: points added and parted, and the place with the clock.
-/
import Derived.Test.YtdpgfbmelnmkdabDoorSwb
import Derived.Deep.DeepCutAuto
namespace Go.Proofs.YtdpgfbmelnmkdabDoor
open Go.RowKit Go.ChangeShapes Go.WideShapes Go.Deep
attribute [local go_sem ↓] Go.wp_at_zero Go.wp_at_succ
set_option linter.unusedVariables false
set_option linter.unusedSimpArgs false
set_option maxRecDepth 100000

/-- The call returns a point of two numbers, known up to which NaN they are. -/
def RP (c d : Nat) (w : World) (e : Ending) (w' : World) : Prop := ∃ x y, e = .returned (.agg #[.float .f32 x, .float .f32 y]) ∧ CN x c ∧ CN y d ∧ Below w.heap.size w w'
set_option maxHeartbeats 2000000 in
theorem with_any (e : Int) (h0 : 0 ≤ e) (h9 : e ≤ 49) (k : Int) (hk : -(e % 8) % 8 = k) (w : World) : Calls Tryd.prog 57 #[.agg circV, .int .i64 e] w (RV (.agg #[.float .f32 (pcA k), .float .f32 (pcB k)]) w) := by
  rcases (by omega : k = 0 ∨ k = 1 ∨ k = 2 ∨ k = 3 ∨ k = 4 ∨ k = 5 ∨ k = 6 ∨ k = 7) with rfl | rfl | rfl | rfl | rfl | rfl | rfl | rfl
  all_goals
    unfold circV
    go_enter Tryd.func57, Tryd.ntmps57
    go_wp2
    refine bodyPost_ret (v := .agg #[.float .f32 (pcA _), .float .f32 (pcB _)]) ?_ rfl ⟨rfl, ?_⟩
    (focus simp [results, Tryd.results57, go_sem, pcA, pcB])
    (repeat (first | exact Below.refl _ _ | refine b_drewN ?_ _ | refine b_drew ?_ | refine b_alloc ?_ _ | refine Below.setCell (p := ⟨_, _, none⟩) ?_ (by first | (simp; done) | (dsimp only; omega)) _ | refine b_then ?_ (by assumption)))
theorem plus_any (a b c d : Nat) (w : World) : Calls Tryd.prog 64 #[.agg #[.float .f32 a, .float .f32 b], .agg #[.float .f32 c, .float .f32 d]] w (RP (f2 .add (cn a) (cn c)) (f2 .add (cn b) (cn d)) w) := by
  obtain ⟨R, N, hR, hC⟩ := ops_fun Tryd.prog 22; have ra := hR .add rfl; have rs := hR .sub rfl; have rm := hR .mul rfl; have rq := hR .quo rfl; have HC := Lib.hid hC; clear hC hR
  go_enter Tryd.func64, Tryd.ntmps64
  go_wp2
  generalize hx : R .add a c _ = x
  generalize hy : R .add b d _ = y
  have hx' : cn x = _ := hx ▸ HC.out .add rfl _ _ _
  have hy' : cn y = _ := hy ▸ HC.out .add rfl _ _ _
  refine bodyPost_ret (v := .agg #[.float .f32 x, .float .f32 y]) ?_ rfl ⟨_, _, rfl, hx', hy', ?_⟩
  (focus simp [results, Tryd.results64, go_sem])
  (repeat (first | exact Below.refl _ _ | refine b_drewN ?_ _ | refine b_drew ?_ | refine b_alloc ?_ _ | refine Below.setCell (p := ⟨_, _, none⟩) ?_ (by first | (simp; done) | (dsimp only; omega)) _ | refine b_then ?_ (by assumption)))
theorem part_any (a b c : Nat) (w : World) : Calls Tryd.prog 65 #[.agg #[.float .f32 a, .float .f32 b], .float .f32 c] w (RP (f2 .mul (cn a) (cn c)) (f2 .mul (cn b) (cn c)) w) := by
  obtain ⟨R, N, hR, hC⟩ := ops_fun Tryd.prog 22; have ra := hR .add rfl; have rs := hR .sub rfl; have rm := hR .mul rfl; have rq := hR .quo rfl; have HC := Lib.hid hC; clear hC hR
  go_enter Tryd.func65, Tryd.ntmps65
  go_wp2
  generalize hx : R .mul a c _ = x
  generalize hy : R .mul b c _ = y
  have hx' : cn x = _ := hx ▸ HC.out .mul rfl _ _ _
  have hy' : cn y = _ := hy ▸ HC.out .mul rfl _ _ _
  refine bodyPost_ret (v := .agg #[.float .f32 x, .float .f32 y]) ?_ rfl ⟨_, _, rfl, hx', hy', ?_⟩
  (focus simp [results, Tryd.results65, go_sem])
  (repeat (first | exact Below.refl _ _ | refine b_drewN ?_ _ | refine b_drew ?_ | refine b_alloc ?_ _ | refine Below.setCell (p := ⟨_, _, none⟩) ?_ (by first | (simp; done) | (dsimp only; omega)) _ | refine b_then ?_ (by assumption)))
end Go.Proofs.YtdpgfbmelnmkdabDoor
