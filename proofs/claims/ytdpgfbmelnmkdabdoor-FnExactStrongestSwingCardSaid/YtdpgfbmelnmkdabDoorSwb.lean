/-
  Swings, the model's: points added and parted, the sum of an order, and all of them.
-/
import Derived.Test.YtdpgfbmelnmkdabDoorSwa
import Derived.Test.YtdpgfbmelnmkdabDoorLnh
import Derived.IntWalk
import Derived.Deep.DeepCutAuto
namespace Go.Proofs.YtdpgfbmelnmkdabDoor
open Go.RowKit Go.ChangeShapes Go.WideShapes Go.Deep
attribute [local go_sem ↓] Go.wp_at_zero Go.wp_at_succ
set_option linter.unusedVariables false
set_option linter.unusedSimpArgs false
set_option maxRecDepth 100000

/-- The call returns a point, known up to which NaN its parts are. -/
def RC (c d : Nat) (w : World) (e : Ending) (w' : World) : Prop := ∃ x y, e = .returned (.complex .f32 x y) ∧ CN x c ∧ CN y d ∧ Below w.heap.size w w'
def idx (n k : Nat) : Nat := (8 - (n * k) % 8) % 8
theorem idx_le (n k : Nat) : idx n k ≤ 7 := by unfold idx; omega
/-- The sum of an order, behind k readings. -/
def swP (r : Nat → Nat) (n : Nat) : Nat → Nat × Nat
  | 0 => (cn 0, cn 0)
  | k + 1 => (f2 .add (swP r n k).1 (f2 .mul (cn (pcA (idx n k))) (cn (r k))), f2 .add (swP r n k).2 (f2 .mul (cn (pcB (idx n k))) (cn (r k))))
theorem swP_cn {r r' : Nat → Nat} (n : Nat) : ∀ k, (∀ i, i < k → cn (r i) = cn (r' i)) → swP r n k = swP r' n k
  | 0, _ => rfl
  | k + 1, h => by rw [swP, swP, swP_cn n k (fun i hi => h i (by omega)), h k (by omega)]
def plA8 (r : Nat → Nat) : Bool := (List.range 8).all fun k => plB (r k)
theorem l07Plus_any (a b c d : Nat) (w : World) : Calls Tryd.prog 54 #[.complex .f32 a b, .complex .f32 c d] w (RC (f2 .add (cn a) (cn c)) (f2 .add (cn b) (cn d)) w) := by
  obtain ⟨R, N, hR, hC⟩ := ops_fun Tryd.prog 22; have ra := hR .add rfl; have rs := hR .sub rfl; have rm := hR .mul rfl; have rq := hR .quo rfl; have HC := Lib.hid hC; clear hC hR
  go_enter Tryd.func54, Tryd.ntmps54
  go_wp2
  go_ret
  refine ⟨_, _, rfl, HC.out .add rfl _ _ _, HC.out .add rfl _ _ _, ?_⟩
  (repeat (first | exact Below.refl _ _ | refine b_drewN ?_ _ | refine b_drew ?_ | refine b_alloc ?_ _ | refine b_then ?_ (by assumption)))
theorem l07Part_any (a b c : Nat) (w : World) : Calls Tryd.prog 55 #[.complex .f32 a b, .float .f32 c] w (RC (f2 .mul (cn a) (cn c)) (f2 .mul (cn b) (cn c)) w) := by
  obtain ⟨R, N, hR, hC⟩ := ops_fun Tryd.prog 22; have ra := hR .add rfl; have rs := hR .sub rfl; have rm := hR .mul rfl; have rq := hR .quo rfl; have HC := Lib.hid hC; clear hC hR
  go_enter Tryd.func55, Tryd.ntmps55
  go_wp2
  go_ret
  refine ⟨_, _, rfl, HC.out .mul rfl _ _ _, HC.out .mul rfl _ _ _, ?_⟩
  (repeat (first | exact Below.refl _ _ | refine b_drewN ?_ _ | refine b_drew ?_ | refine b_alloc ?_ _ | refine b_then ?_ (by assumption)))
set_option maxHeartbeats 2000000 in
theorem l07Readings_any (F : Nat → Nat) (q : Nat) (w : World) (hq : Blk w q #[.float .f32 (F 0), .float .f32 (F 1), .float .f32 (F 2), .float .f32 (F 3), .float .f32 (F 4), .float .f32 (F 5), .float .f32 (F 6), .float .f32 (F 7)] 23) : Calls Tryd.prog 28 #[.pointer (some ⟨q, 0, none⟩)] w fun e w' => e = .returned (.bool (plA8 F)) ∧ w = w' := by
  obtain ⟨t, ht⟩ : ∃ t, plA8 F = t := ⟨_, rfl⟩
  rw [ht]
  have Ht := Lib.hid ht
  have HQ := Lib.hid hq
  clear ht hq
  go_enter Tryd.func28, Tryd.ntmps28
  go_wp2_with fail
  go_loop [3] (fun i => ∃ k : Nat, k ≤ 8 ∧ i = .int .i64 k ∧ Hid (∀ j, j < k → plB (F j) = true)) (fun i => 8 - (intOf i).toNat)
  case atStart => exact ⟨0, by omega, rfl, fun j hj => absurd hj (by omega)⟩
  case round =>
    obtain ⟨k, hk, rfl, hp⟩ := hrel
    by_cases hlt : k < 8
    · have c0 := bA_get HQ.out k hlt
      obtain ⟨u, hu⟩ : ∃ u, plB (F k) = u := ⟨_, rfl⟩
      have hv := Lib.hid (fun w => l01Plain_any (F k) w)
      rw [hu] at hv
      have HU := Lib.hid hu
      clear hu
      cases u
      · have ht0 : Hid (t = false) := Ht.out.symm.trans (List.all_eq_false.2 ⟨k, List.mem_range.2 hlt, by simp [HU.out]⟩)
        go_wp2_with (go_at_call 43; refine (hv.out _).mono ?_; rintro e w1 ⟨rfl, rfl⟩)
        go_ret
        exact ⟨by rw [ht0.out]; rfl, rfl⟩
      · have hp2 : Hid (∀ j, j < k + 1 → plB (F j) = true) := fun j hj => by
          rcases (by omega : j < k ∨ j = k) with h | rfl
          · exact hp.out j h
          · exact HU.out
        go_wp2_with (go_at_call 43; refine (hv.out _).mono ?_; rintro e w1 ⟨rfl, rfl⟩)
        go_round
        case rel => exact ⟨k + 1, by omega, by go_num, hp2⟩
        case measure => simp [intOf]; omega
    · obtain rfl : k = 8 := by omega
      have ht1 : Hid (t = true) := Ht.out.symm.trans (List.all_eq_true.2 fun j hj => hp.out j (List.mem_range.1 hj))
      go_wp2
      go_ret
      exact ⟨by rw [ht1.out]; rfl, rfl⟩
set_option maxHeartbeats 4000000 in
theorem l07Swing_any (F : Nat → Nat) (q n : Nat) (hn : n < 8) (w : World) (hq : Blk w q #[.float .f32 (F 0), .float .f32 (F 1), .float .f32 (F 2), .float .f32 (F 3), .float .f32 (F 4), .float .f32 (F 5), .float .f32 (F 6), .float .f32 (F 7)] 23) : Calls Tryd.prog 29 #[.pointer (some ⟨q, 0, none⟩), .int .i64 (n : Int)] w (RC (swP F n 8).1 (swP F n 8).2 w) := by
  have HQ := Lib.hid hq
  clear hq
  go_enter Tryd.func29, Tryd.ntmps29
  go_wp2_with fail
  go_loopw [5, 6, 7] (fun s i p wr => ∃ (k x y : Nat), k ≤ 8 ∧ i = .int .i64 k ∧ s = .complex .f32 x y ∧ Hid (cn x = (swP F n k).1) ∧ Hid (cn y = (swP F n k).2) ∧ Hid (Below w.heap.size w wr)) (fun _ i _ _ => 8 - (intOf i).toNat)
  case atStart => exact ⟨0, 0, 0, by omega, rfl, rfl, rfl, rfl, Below.refl _ _⟩
  case round =>
    obtain ⟨k, x, y, hk, rfl, rfl, hx, hy, hb⟩ := hrel
    by_cases hlt : k < 8
    · have h0 := Blk.on HQ.out (by rfl) hb.out
      have c0 := bA_get h0 k hlt
      have hnk : n * k ≤ 49 := Nat.le_trans (Nat.mul_le_mul (by omega : n ≤ 7) (by omega : k ≤ 7)) (by decide)
      have u1 : IntKind.i64.wrap ((n : Int) * (k : Int)) = ((n * k : Nat) : Int) := (IntWalk.i64_in _ (by rw [← Int.natCast_mul]; omega)).trans (Int.natCast_mul n k).symm
      have u2 : -((n : Int) * (k : Int) % 8) % 8 = ((idx n k : Nat) : Int) := by
        unfold idx
        rw [← Int.natCast_mul]
        omega
      have u3 := idx_le n k
      have hsx : (swP F n (k + 1)).1 = f2 .add (swP F n k).1 (f2 .mul (cn (pcA (idx n k))) (cn (F k))) := rfl
      have hsy : (swP F n (k + 1)).2 = f2 .add (swP F n k).2 (f2 .mul (cn (pcB (idx n k))) (cn (F k))) := rfl
      have HSX := Lib.hid hsx; have HSY := Lib.hid hsy
      clear h0 hsx hsy
      go_wp2_with fail
      refine (l07Place_any (idx n k) (by omega) (by omega) _).mono ?_
      rintro e w1 ⟨rfl, b1⟩
      have B1 : Hid (Below w.heap.size w w1) := b_then hb.out b1
      have c1 := (World.cell?_of_block (a := ⟨q, k, none⟩) (b1.block q (Blk.lt (Blk.on HQ.out (by rfl) hb.out)))).trans c0
      clear b1 c0 u1 u2
      generalize pcA (idx n k) = pa at *
      generalize pcB (idx n k) = pb at *
      generalize F k = fk at *
      go_wp2_with fail
      refine (l07Part_any _ _ _ _).mono ?_
      rintro e w2 ⟨px, py, rfl, hpx, hpy, b2⟩
      have B2 : Hid (Below w.heap.size w w2) := b_then B1.out b2
      have HPX : Hid (cn px = _) := hpx; have HPY : Hid (cn py = _) := hpy
      clear b2 hpx hpy c1
      go_wp2_with fail
      refine (l07Plus_any _ _ _ _ _).mono ?_
      rintro e w3 ⟨sx, sy, rfl, hx2, hy2, b3⟩
      have B3 : Hid (Below w.heap.size w w3) := b_then B2.out b3
      have HX : Hid (cn sx = (swP F n (k + 1)).1) := by
        show _ = _
        rw [HSX.out, ← hx.out, ← HPX.out]
        exact hx2
      have HY : Hid (cn sy = (swP F n (k + 1)).2) := by
        show _ = _
        rw [HSY.out, ← hy.out, ← HPY.out]
        exact hy2
      clear b3 hx2 hy2 HPX HPY
      go_wp2
      go_roundw
      case rel => exact ⟨k + 1, sx, sy, by omega, by go_num, rfl, HX, HY, B3⟩
      case measure => simp [intOf]; omega
    · obtain rfl : k = 8 := by omega
      go_wp2
      go_ret
      exact ⟨x, y, rfl, hx, hy, hb.out⟩
end Go.Proofs.YtdpgfbmelnmkdabDoor
