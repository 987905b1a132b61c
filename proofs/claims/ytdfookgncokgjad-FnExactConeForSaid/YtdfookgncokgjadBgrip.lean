/-
  How much greater the tension of the tight side can be.
-/
import Derived.Test.YtdfookgncokgjadBwrap
namespace Go.Proofs.Ytdfookgncokgjad
open Go.RowKit Go.ChangeShapes Go.WideShapes Go.Deep
attribute [local go_sem ↓] Go.wp_at_zero Go.wp_at_succ
set_option linter.unusedVariables false
set_option linter.unusedSimpArgs false
set_option maxHeartbeats 1000000 in
theorem implGrip_any (B : Bl) (w : World) : Calls Try.prog 73 #[.agg #[.float .f32 B.a, .float .f32 B.b, .float .f32 B.ap, .float .f32 B.g, .bool B.x]] w (RF (gripC B) w) := by
  obtain ⟨R, N, hR, hC⟩ := ops_fun Try.prog 22; have ra := hR .add rfl; have rs := hR .sub rfl; have rm := hR .mul rfl; have rq := hR .quo rfl; have HC := Lib.hid hC; clear hC hR
  have h1 := At.new w B
  obtain ⟨c0, c1, c2, c3, c4⟩ := h1.cells
  go_enter Try.func73, Try.ntmps73
  go_wp2_with fail
  go_region_law ((go_simp; go_at_call 82; refine (implWrap_any B _).mono ?_; rintro e w2 ⟨r, rfl, hr, b2⟩; obtain ⟨d0, d1, d2, d3, d4⟩ := At.cells (At.on h1 (by rfl) b2); dsimp only))
  all_goals
    clear h1
    go_wp2
    go_loopw [3, 11] (fun z i wr => ∃ (k : Nat) (y : Nat), k ≤ 4 ∧ i = .int .i64 k ∧ z = .float .f32 y ∧ CN y (sqN k (gripZ B)) ∧ Below w.heap.size w wr) (fun _ i _ => 4 - (intOf i).toNat)
    case atStart =>
      refine ⟨0, _, by omega, rfl, rfl, ?_, ?_⟩
      · unfold CN sqN gripZ at *
        rw [← hr]
        simp only [HC.out .add rfl, HC.out .mul rfl, HC.out .quo rfl, HC.out .sub rfl]
      · (repeat (first | exact Below.refl _ _ | refine b_drewN ?_ _ | refine b_drew ?_ | refine b_alloc ?_ _ | refine b_then ?_ (by assumption)))
    case round =>
      obtain ⟨k, y, hk, rfl, rfl, hy, hb⟩ := hrel
      by_cases hlt : k < 4
      · go_wp2
        go_roundw
        case rel =>
          refine ⟨k + 1, _, by omega, by go_num, rfl, ?_, b_drewN hb _⟩
          unfold CN at *
          rw [sqN, ← hy, HC.out .mul rfl]
          rfl
        case measure => simp [intOf]; omega
      · obtain rfl : k = 4 := by omega
        go_wp2
        go_ret
        exact ⟨y, rfl, hy, hb⟩
set_option maxHeartbeats 1000000 in
theorem specGrip_any (B : Bl) (q : Nat) (w : World) (h1 : At w q B) : Calls Try.prog 72 #[.pointer (some ⟨q, 0, none⟩)] w (RF (gripC B) w) := by
  obtain ⟨R, N, hR, hC⟩ := ops_fun Try.prog 22; have ra := hR .add rfl; have rs := hR .sub rfl; have rm := hR .mul rfl; have rq := hR .quo rfl; have HC := Lib.hid hC; clear hC hR

  obtain ⟨c0, c1, c2, c3, c4⟩ := h1.cells
  go_enter Try.func72, Try.ntmps72
  go_wp2_with fail
  go_region_law ((go_simp; go_at_call 81; refine (specWrap_any B q _ (At.same h1 (by rfl))).mono ?_; rintro e w2 ⟨r, rfl, hr, b2⟩; obtain ⟨d0, d1, d2, d3, d4⟩ := At.cells (At.on h1 (by rfl) b2); dsimp only))
  all_goals
    clear h1
    go_wp2
    go_loopw [4, 5] (fun z i wr => ∃ (k : Nat) (y : Nat), k ≤ 4 ∧ i = .int .i64 k ∧ z = .float .f32 y ∧ CN y (sqN k (gripZ B)) ∧ Below w.heap.size w wr) (fun _ i _ => 4 - (intOf i).toNat)
    case atStart =>
      refine ⟨0, _, by omega, rfl, rfl, ?_, ?_⟩
      · unfold CN sqN gripZ at *
        rw [← hr]
        simp only [HC.out .add rfl, HC.out .mul rfl, HC.out .quo rfl, HC.out .sub rfl]
      · (repeat (first | exact Below.refl _ _ | refine b_drewN ?_ _ | refine b_drew ?_ | refine b_alloc ?_ _ | refine b_then ?_ (by assumption)))
    case round =>
      obtain ⟨k, y, hk, rfl, rfl, hy, hb⟩ := hrel
      by_cases hlt : k < 4
      · go_wp2
        go_roundw
        case rel =>
          refine ⟨k + 1, _, by omega, by go_num, rfl, ?_, b_drewN hb _⟩
          unfold CN at *
          rw [sqN, ← hy, HC.out .mul rfl]
          rfl
        case measure => simp [intOf]; omega
      · obtain rfl : k = 4 := by omega
        go_wp2
        go_ret
        exact ⟨y, rfl, hy, hb⟩
end Go.Proofs.Ytdfookgncokgjad
