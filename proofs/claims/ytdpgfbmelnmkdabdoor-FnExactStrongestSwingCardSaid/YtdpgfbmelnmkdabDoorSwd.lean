/-
  Swings, the program's: the swing of an order.
-/
import Derived.Test.YtdpgfbmelnmkdabDoorSwc
namespace Go.Proofs.YtdpgfbmelnmkdabDoor
open Go.RowKit Go.ChangeShapes Go.WideShapes Go.Deep
attribute [local go_sem ↓] Go.wp_at_zero Go.wp_at_succ
set_option linter.unusedVariables false
set_option linter.unusedSimpArgs false
set_option maxRecDepth 100000

theorem ret_blk2 {fn : Func} {tmps : Array Value} {W : World} {q s : Nat} {t : TypeId} (x y : Nat) (hr : fn.results = #[.cell s t]) (h2 : tmps.getD s undef = .pointer (some ⟨q, 0, none⟩)) (Z : Blk W q #[.float .f32 x, .float .f32 y] t) (hi : (Tryd.prog.info? t).map (·.size) = some 2 := by kernel_rfl) (hg : ∀ w, (isAgg t).run Tryd.prog w = .ok true w := by (intro w; kernel_rfl)) :
    (results fn tmps).run Tryd.prog W = .ok (.agg #[.float .f32 x, .float .f32 y]) W := by
  have e0 := Z.cell 0; have e1 := Z.cell 1
  simp at e0 e1
  rw [Array.getD_eq_getD_getElem?] at h2
  obtain ⟨i0, hi0, hs0⟩ := Option.map_eq_some_iff.1 hi
  simp [results, hr, h2, go_sem, loadVar, hg, sizeOf, typeInfo, hi0, hs0, loadCells, loadCellsFrom, e0, e1]
theorem index_f8 (F : Nat → Nat) (k : Nat) (h : k < 8) (w : World) : (Instr.index 23 (.agg #[.float .f32 (F 0), .float .f32 (F 1), .float .f32 (F 2), .float .f32 (F 3), .float .f32 (F 4), .float .f32 (F 5), .float .f32 (F 6), .float .f32 (F 7)]) (.int .i64 (k : Int))).run Tryd.prog w = .ok (.float .f32 (F k)) w := by
  rcases (by omega : k = 0 ∨ k = 1 ∨ k = 2 ∨ k = 3 ∨ k = 4 ∨ k = 5 ∨ k = 6 ∨ k = 7) with rfl | rfl | rfl | rfl | rfl | rfl | rfl | rfl
  all_goals
    simp [Instr.index, go_sem, asIntOf]
set_option maxHeartbeats 4000000 in
theorem swing_any (F : Nat → Nat) (n : Nat) (hn : n < 8) (w : World) : Calls Tryd.prog 58 #[.func (.func 57) #[.agg circV] #[], .agg #[.float .f32 (F 0), .float .f32 (F 1), .float .f32 (F 2), .float .f32 (F 3), .float .f32 (F 4), .float .f32 (F 5), .float .f32 (F 6), .float .f32 (F 7)], .int .i64 (n : Int)] w (RP (swP F n 8).1 (swP F n 8).2 w) := by
  have k1 : Blk (((w.alloc (.cells #[.float .f32 (F 0), .float .f32 (F 1), .float .f32 (F 2), .float .f32 (F 3), .float .f32 (F 4), .float .f32 (F 5), .float .f32 (F 6), .float .f32 (F 7)] 23)).alloc (.cells #[.float .f32 0, .float .f32 0] 56)).alloc (.cells #[.float .f32 0, .float .f32 0] 56)) (w.heap.size + 1) #[.float .f32 0, .float .f32 0] 56 := by
    have e1 : (w.alloc (.cells #[.float .f32 (F 0), .float .f32 (F 1), .float .f32 (F 2), .float .f32 (F 3), .float .f32 (F 4), .float .f32 (F 5), .float .f32 (F 6), .float .f32 (F 7)] 23)).heap.size = w.heap.size + 1 := by simp
    rw [← e1]; exact (Below.heap_alloc _ _ _ (by simp)).trans (Blk.new _ _ _)
  have k2 : Blk (((w.alloc (.cells #[.float .f32 (F 0), .float .f32 (F 1), .float .f32 (F 2), .float .f32 (F 3), .float .f32 (F 4), .float .f32 (F 5), .float .f32 (F 6), .float .f32 (F 7)] 23)).alloc (.cells #[.float .f32 0, .float .f32 0] 56)).alloc (.cells #[.float .f32 0, .float .f32 0] 56)) (w.heap.size + 1 + 1) #[.float .f32 0, .float .f32 0] 56 := by
    have e2 : ((w.alloc (.cells #[.float .f32 (F 0), .float .f32 (F 1), .float .f32 (F 2), .float .f32 (F 3), .float .f32 (F 4), .float .f32 (F 5), .float .f32 (F 6), .float .f32 (F 7)] 23)).alloc (.cells #[.float .f32 0, .float .f32 0] 56)).heap.size = w.heap.size + 1 + 1 := by simp
    rw [← e2]; exact Blk.new _ _ _
  have bw : Below w.heap.size w (((w.alloc (.cells #[.float .f32 (F 0), .float .f32 (F 1), .float .f32 (F 2), .float .f32 (F 3), .float .f32 (F 4), .float .f32 (F 5), .float .f32 (F 6), .float .f32 (F 7)] 23)).alloc (.cells #[.float .f32 0, .float .f32 0] 56)).alloc (.cells #[.float .f32 0, .float .f32 0] 56)) := b_alloc (b_alloc (b_alloc (Below.refl _ _) _) _) _
  have K1 := Lib.hid k1; have K2 := Lib.hid k2; have Bw := Lib.hid bw
  clear k1 k2 bw
  unfold circV
  go_enter Tryd.func58, Tryd.ntmps58
  go_wp2_with fail
  generalize (((w.alloc (.cells #[.float .f32 (F 0), .float .f32 (F 1), .float .f32 (F 2), .float .f32 (F 3), .float .f32 (F 4), .float .f32 (F 5), .float .f32 (F 6), .float .f32 (F 7)] 23)).alloc (.cells #[.float .f32 0, .float .f32 0] 56)).alloc (.cells #[.float .f32 0, .float .f32 0] 56)) = W at *
  have n1 : w.heap.size + 1 ≠ w.heap.size + 1 + 1 := by omega
  have q2 : w.heap.size ≤ w.heap.size + 1 + 1 := by omega
  have q1 : w.heap.size ≤ w.heap.size + 1 := by omega
  go_loopw [8, 9, 11] (fun e r i wr => ∃ (k x y : Nat), k ≤ 8 ∧ i = .int .i64 k ∧ Hid (Blk wr (w.heap.size + 1) #[.float .f32 0, .float .f32 0] 56) ∧ Hid (Blk wr (w.heap.size + 1 + 1) #[.float .f32 x, .float .f32 y] 56) ∧ Hid (cn x = (swP F n k).1) ∧ Hid (cn y = (swP F n k).2) ∧ Hid (Below w.heap.size w wr)) (fun _ _ i _ => 8 - (intOf i).toNat)
  case atStart => exact ⟨0, 0, 0, by omega, rfl, K1, K2, rfl, rfl, Bw⟩
  case round =>
    obtain ⟨k, x, y, hk, rfl, h1, h2, hx, hy, hb⟩ := hrel
    by_cases hlt : k < 8
    · have ix := index_f8 F k hlt
      have hnk : n * k ≤ 49 := Nat.le_trans (Nat.mul_le_mul (by omega : n ≤ 7) (by omega : k ≤ 7)) (by decide)
      have u1 : IntKind.i64.wrap ((n : Int) * (k : Int)) = ((n * k : Nat) : Int) := (IntWalk.i64_in _ (by rw [← Int.natCast_mul]; omega)).trans (Int.natCast_mul n k).symm
      have u2 : -((n : Int) * (k : Int) % 8) % 8 = ((idx n k : Nat) : Int) := by
        unfold idx
        rw [← Int.natCast_mul]
        omega
      have h0k : (0 : Int) ≤ (n : Int) * (k : Int) := by rw [← Int.natCast_mul]; omega
      have h9k : (n : Int) * (k : Int) ≤ 49 := by rw [← Int.natCast_mul]; omega
      have H0 := Lib.hid h0k; have H9 := Lib.hid h9k
      have hsx : (swP F n (k + 1)).1 = f2 .add (swP F n k).1 (f2 .mul (cn (pcA (idx n k))) (cn (F k))) := rfl
      have hsy : (swP F n (k + 1)).2 = f2 .add (swP F n k).2 (f2 .mul (cn (pcB (idx n k))) (cn (F k))) := rfl
      have HSX := Lib.hid hsx; have HSY := Lib.hid hsy
      have U2 := Lib.hid u2
      have c0 := h2.out.cell 0; have c1 := h2.out.cell 1
      simp at c0 c1
      have HB : Hid (∀ wz, Below wr.heap.size wr wz → wz.cell? ⟨w.heap.size + 1 + 1, 0, none⟩ = some (.float .f32 x) ∧ wz.cell? ⟨w.heap.size + 1 + 1, 1, none⟩ = some (.float .f32 y)) := fun wz b => by
        have h := Blk.on h2.out (by rfl) b
        have c0 := h.cell 0; have c1 := h.cell 1
        simp at c0 c1
        exact ⟨c0, c1⟩
      clear hsx hsy u2 hnk h0k h9k
      generalize F k = fk at *
      go_upto_region 5 with fail
      go_region_law (first
        | (go_simp; go_at_call 57; refine (with_any _ H0.out H9.out _ U2.out _).mono ?_; rintro e w3 ⟨rfl, b3⟩; have B3 : Hid (Below wr.heap.size wr w3) := (by (repeat (first | exact Below.refl _ _ | refine b_drewN ?_ _ | refine b_drew ?_ | refine b_alloc ?_ _ | refine b_then ?_ (by assumption)))); obtain ⟨d0, d1⟩ := HB.out _ B3.out; clear b3; dsimp only)
        | (go_simp; go_at_call 65; refine (part_any _ _ _ _).mono ?_; rintro e w4 ⟨px, py, rfl, hpx, hpy, b4⟩; have B4 : Hid (Below wr.heap.size wr w4) := (by have b3 := B3.out; (repeat (first | exact Below.refl _ _ | refine b_drewN ?_ _ | refine b_drew ?_ | refine b_alloc ?_ _ | refine b_then ?_ (by assumption)))); obtain ⟨e0, e1⟩ := HB.out _ B4.out; have HPX : Hid (cn px = _) := hpx; have HPY : Hid (cn py = _) := hpy; clear b4 hpx hpy; dsimp only)
        | (go_simp; go_at_call 64; refine (plus_any _ _ _ _ _).mono ?_; rintro e w5 ⟨sx, sy, rfl, hsx, hsy, b5⟩; have B5 : Hid (Below wr.heap.size wr w5) := (by have b4 := B4.out; (repeat (first | exact Below.refl _ _ | refine b_drewN ?_ _ | refine b_drew ?_ | refine b_alloc ?_ _ | refine b_then ?_ (by assumption)))); have HSX2 : Hid (cn sx = _) := hsx; have HSY2 : Hid (cn sy = _) := hsy; have Z1 := Lib.hid (Blk.on h1.out (by rfl) B5.out); have Z2 := Lib.hid (Blk.on h2.out (by rfl) B5.out); have y0 := Z2.out.frozen 0; have y1 := Z2.out.frozen 1; have x0 := Z2.out.cell 0; have x1 := Z2.out.cell 1; simp at x0 x1; have lz := Z2.out.lt; clear b5 hsx hsy; dsimp only))
      all_goals
        have NX : Hid (cn sx = (swP F n (k + 1)).1) := by
          show _ = _
          rw [HSX.out, ← hx.out, ← HPX.out]
          exact HSX2.out
        have NY : Hid (cn sy = (swP F n (k + 1)).2) := by
          show _ = _
          rw [HSY.out, ← hy.out, ← HPY.out]
          exact HSY2.out
        have A1 : Hid (Blk ((w5.setCell ⟨w.heap.size + 1 + 1, 0, none⟩ (.float .f32 sx)).setCell ⟨w.heap.size + 1 + 1, 1, none⟩ (.float .f32 sy)) (w.heap.size + 1) #[.float .f32 0, .float .f32 0] 56) := (Z1.out.setO n1 0 _).setO n1 1 _
        have A2 : Hid (Blk ((w5.setCell ⟨w.heap.size + 1 + 1, 0, none⟩ (.float .f32 sx)).setCell ⟨w.heap.size + 1 + 1, 1, none⟩ (.float .f32 sy)) (w.heap.size + 1 + 1) #[.float .f32 sx, .float .f32 sy] 56) := (Z2.out.set 0 _).set 1 _
        have AB : Hid (Below w.heap.size w ((w5.setCell ⟨w.heap.size + 1 + 1, 0, none⟩ (.float .f32 sx)).setCell ⟨w.heap.size + 1 + 1, 1, none⟩ (.float .f32 sy))) := Below.setCell (p := ⟨w.heap.size + 1 + 1, 1, none⟩) (Below.setCell (p := ⟨w.heap.size + 1 + 1, 0, none⟩) (b_then hb.out B5.out) q2 _) q2 _
        clear h1 h2 hx hy hb HSX HSY HPX HPY HSX2 HSY2 B3 B4 B5 Z1 Z2 HB H0 H9 U2 u1 ix c0 c1 x0 x1 y0 y1 lz
        generalize ((w5.setCell ⟨w.heap.size + 1 + 1, 0, none⟩ (.float .f32 sx)).setCell ⟨w.heap.size + 1 + 1, 1, none⟩ (.float .f32 sy)) = Wz at *
        go_wp2_with fail
        go_roundw
        case rel => exact ⟨k + 1, sx, sy, by omega, by go_num, A1, A2, NX, NY, AB⟩
        case measure => simp [intOf]; omega
    · obtain rfl : k = 8 := by omega
      have c0 := h2.out.cell 0; have c1 := h2.out.cell 1
      have d0 := h1.out.cell 0; have d1 := h1.out.cell 1
      have y0 := h1.out.frozen 0; have y1 := h1.out.frozen 1
      simp at c0 c1 d0 d1
      go_wp2
      refine bodyPost_ret (ret_blk2 x y Tryd.results58 rfl ((h1.out.set 0 _).set 1 _)) rfl ⟨x, y, rfl, hx.out, hy.out, ?_⟩
      exact Below.setCell (p := ⟨w.heap.size + 1, 1, none⟩) (Below.setCell (p := ⟨w.heap.size + 1, 0, none⟩) hb.out q1 _) q1 _
end Go.Proofs.YtdpgfbmelnmkdabDoor
