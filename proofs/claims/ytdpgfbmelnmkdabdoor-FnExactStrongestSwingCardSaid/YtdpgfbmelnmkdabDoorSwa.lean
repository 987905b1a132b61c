/-
  Arrays of eight: the laws' copy of numbers, and their comparison of complex numbers.
-/
import Derived.Test.YtdpgfbmelnmkdabDoorCpb
import Derived.Test.YtdpgfbmelnmkdabDoorOne
import Derived.Deep.DeepCutAuto
namespace Go.Proofs.YtdpgfbmelnmkdabDoor
open Go.RowKit Go.ChangeShapes Go.WideShapes Go.Deep
attribute [local go_sem ↓] Go.wp_at_zero Go.wp_at_succ
set_option linter.unusedVariables false
set_option linter.unusedSimpArgs false
set_option maxRecDepth 100000

theorem lit8_get (f : Nat → Value) (k : Nat) (h : k < 8) : (#[f 0, f 1, f 2, f 3, f 4, f 5, f 6, f 7] : Array Value)[k]? = some (f k) := by
  rcases (by omega : k = 0 ∨ k = 1 ∨ k = 2 ∨ k = 3 ∨ k = 4 ∨ k = 5 ∨ k = 6 ∨ k = 7) with rfl | rfl | rfl | rfl | rfl | rfl | rfl | rfl <;> rfl
theorem lit8_set (f : Nat → Value) (k : Nat) (h : k < 8) (v : Value) : (#[f 0, f 1, f 2, f 3, f 4, f 5, f 6, f 7] : Array Value).setIfInBounds k v = #[(if 0 = k then v else f 0), (if 1 = k then v else f 1), (if 2 = k then v else f 2), (if 3 = k then v else f 3), (if 4 = k then v else f 4), (if 5 = k then v else f 5), (if 6 = k then v else f 6), (if 7 = k then v else f 7)] := by
  rcases (by omega : k = 0 ∨ k = 1 ∨ k = 2 ∨ k = 3 ∨ k = 4 ∨ k = 5 ∨ k = 6 ∨ k = 7) with rfl | rfl | rfl | rfl | rfl | rfl | rfl | rfl <;> rfl
theorem ret_blk8 {fn : Func} {tmps : Array Value} {W : World} {q s : Nat} {t : TypeId} (f : Nat → Value) (hf : ∀ i, (f i).oneCell' = true) (hr : fn.results = #[.cell s t]) (h2 : tmps.getD s undef = .pointer (some ⟨q, 0, none⟩)) (Z : Blk W q #[f 0, f 1, f 2, f 3, f 4, f 5, f 6, f 7] t) (hi : (Tryd.prog.info? t).map (·.size) = some 8 := by kernel_rfl) (hg : ∀ w, (isAgg t).run Tryd.prog w = .ok true w := by (intro w; kernel_rfl)) :
    (results fn tmps).run Tryd.prog W = .ok (.agg #[f 0, f 1, f 2, f 3, f 4, f 5, f 6, f 7]) W := by
  have e0 := Z.cell 0; have e1 := Z.cell 1; have e2 := Z.cell 2; have e3 := Z.cell 3; have e4 := Z.cell 4; have e5 := Z.cell 5; have e6 := Z.cell 6; have e7 := Z.cell 7
  simp at e0 e1 e2 e3 e4 e5 e6 e7
  rw [Array.getD_eq_getD_getElem?] at h2
  obtain ⟨i0, hi0, hs0⟩ := Option.map_eq_some_iff.1 hi
  simp [results, hr, h2, go_sem, loadVar, hg, sizeOf, typeInfo, hi0, hs0, loadCells, loadCellsFrom, e0, e1, e2, e3, e4, e5, e6, e7]
theorem bA_get {w : World} {q : Nat} {F : Nat → Nat} {t : TypeId} (h : Blk w q #[.float .f32 (F 0), .float .f32 (F 1), .float .f32 (F 2), .float .f32 (F 3), .float .f32 (F 4), .float .f32 (F 5), .float .f32 (F 6), .float .f32 (F 7)] t) (k : Nat) (hk : k < 8) : w.cell? ⟨q, k, none⟩ = some (.float .f32 (F k)) := (h.cell k).trans (lit8_get (fun i => .float .f32 (F i)) k hk)
theorem bC_get {w : World} {q : Nat} {F G : Nat → Nat} {t : TypeId} (h : Blk w q #[.complex .f32 (F 0) (G 0), .complex .f32 (F 1) (G 1), .complex .f32 (F 2) (G 2), .complex .f32 (F 3) (G 3), .complex .f32 (F 4) (G 4), .complex .f32 (F 5) (G 5), .complex .f32 (F 6) (G 6), .complex .f32 (F 7) (G 7)] t) (k : Nat) (hk : k < 8) : w.cell? ⟨q, k, none⟩ = some (.complex .f32 (F k) (G k)) := (h.cell k).trans (lit8_get (fun i => .complex .f32 (F i) (G i)) k hk)
theorem bA_step {w : World} {q : Nat} {F : Nat → Nat} {t : TypeId} (k : Nat) (hk : k < 8) (h : Blk w q #[.float .f32 ((fun i => if i < k then F i else 0) 0), .float .f32 ((fun i => if i < k then F i else 0) 1), .float .f32 ((fun i => if i < k then F i else 0) 2), .float .f32 ((fun i => if i < k then F i else 0) 3), .float .f32 ((fun i => if i < k then F i else 0) 4), .float .f32 ((fun i => if i < k then F i else 0) 5), .float .f32 ((fun i => if i < k then F i else 0) 6), .float .f32 ((fun i => if i < k then F i else 0) 7)] t) : Blk (w.setCell ⟨q, k, none⟩ (.float .f32 (F k))) q #[.float .f32 ((fun i => if i < k + 1 then F i else 0) 0), .float .f32 ((fun i => if i < k + 1 then F i else 0) 1), .float .f32 ((fun i => if i < k + 1 then F i else 0) 2), .float .f32 ((fun i => if i < k + 1 then F i else 0) 3), .float .f32 ((fun i => if i < k + 1 then F i else 0) 4), .float .f32 ((fun i => if i < k + 1 then F i else 0) 5), .float .f32 ((fun i => if i < k + 1 then F i else 0) 6), .float .f32 ((fun i => if i < k + 1 then F i else 0) 7)] t := by
  have h1 := h.set k (.float .f32 (F k))
  have e : (#[.float .f32 ((fun i => if i < k then F i else 0) 0), .float .f32 ((fun i => if i < k then F i else 0) 1), .float .f32 ((fun i => if i < k then F i else 0) 2), .float .f32 ((fun i => if i < k then F i else 0) 3), .float .f32 ((fun i => if i < k then F i else 0) 4), .float .f32 ((fun i => if i < k then F i else 0) 5), .float .f32 ((fun i => if i < k then F i else 0) 6), .float .f32 ((fun i => if i < k then F i else 0) 7)] : Array Value).setIfInBounds k (.float .f32 (F k)) = #[.float .f32 ((fun i => if i < k + 1 then F i else 0) 0), .float .f32 ((fun i => if i < k + 1 then F i else 0) 1), .float .f32 ((fun i => if i < k + 1 then F i else 0) 2), .float .f32 ((fun i => if i < k + 1 then F i else 0) 3), .float .f32 ((fun i => if i < k + 1 then F i else 0) 4), .float .f32 ((fun i => if i < k + 1 then F i else 0) 5), .float .f32 ((fun i => if i < k + 1 then F i else 0) 6), .float .f32 ((fun i => if i < k + 1 then F i else 0) 7)] := by
    rcases (by omega : k = 0 ∨ k = 1 ∨ k = 2 ∨ k = 3 ∨ k = 4 ∨ k = 5 ∨ k = 6 ∨ k = 7) with rfl | rfl | rfl | rfl | rfl | rfl | rfl | rfl <;> rfl
  rw [e] at h1
  exact h1
set_option maxHeartbeats 4000000 in
theorem toA8_any (F : Nat → Nat) (w : World) : Calls Tryd.prog 9 #[.agg #[.float .f32 (F 0), .float .f32 (F 1), .float .f32 (F 2), .float .f32 (F 3), .float .f32 (F 4), .float .f32 (F 5), .float .f32 (F 6), .float .f32 (F 7)]] w (RV (.agg #[.float .f32 (F 0), .float .f32 (F 1), .float .f32 (F 2), .float .f32 (F 3), .float .f32 (F 4), .float .f32 (F 5), .float .f32 (F 6), .float .f32 (F 7)]) w) := by
  have k0 : Blk (((w.alloc (.cells #[.float .f32 (F 0), .float .f32 (F 1), .float .f32 (F 2), .float .f32 (F 3), .float .f32 (F 4), .float .f32 (F 5), .float .f32 (F 6), .float .f32 (F 7)] 23)).alloc (.cells #[.float .f32 0, .float .f32 0, .float .f32 0, .float .f32 0, .float .f32 0, .float .f32 0, .float .f32 0, .float .f32 0] 23)).alloc (.cells #[.float .f32 0, .float .f32 0, .float .f32 0, .float .f32 0, .float .f32 0, .float .f32 0, .float .f32 0, .float .f32 0] 23)) w.heap.size #[.float .f32 (F 0), .float .f32 (F 1), .float .f32 (F 2), .float .f32 (F 3), .float .f32 (F 4), .float .f32 (F 5), .float .f32 (F 6), .float .f32 (F 7)] 23 := (Below.heap_alloc _ _ _ (by simp; omega)).trans ((Below.heap_alloc _ _ _ (by simp)).trans (Blk.new _ _ _))
  have e1 : (w.alloc (.cells #[.float .f32 (F 0), .float .f32 (F 1), .float .f32 (F 2), .float .f32 (F 3), .float .f32 (F 4), .float .f32 (F 5), .float .f32 (F 6), .float .f32 (F 7)] 23)).heap.size = w.heap.size + 1 := by simp
  have e2 : ((w.alloc (.cells #[.float .f32 (F 0), .float .f32 (F 1), .float .f32 (F 2), .float .f32 (F 3), .float .f32 (F 4), .float .f32 (F 5), .float .f32 (F 6), .float .f32 (F 7)] 23)).alloc (.cells #[.float .f32 0, .float .f32 0, .float .f32 0, .float .f32 0, .float .f32 0, .float .f32 0, .float .f32 0, .float .f32 0] 23)).heap.size = w.heap.size + 1 + 1 := by simp
  have k1 : Blk (((w.alloc (.cells #[.float .f32 (F 0), .float .f32 (F 1), .float .f32 (F 2), .float .f32 (F 3), .float .f32 (F 4), .float .f32 (F 5), .float .f32 (F 6), .float .f32 (F 7)] 23)).alloc (.cells #[.float .f32 0, .float .f32 0, .float .f32 0, .float .f32 0, .float .f32 0, .float .f32 0, .float .f32 0, .float .f32 0] 23)).alloc (.cells #[.float .f32 0, .float .f32 0, .float .f32 0, .float .f32 0, .float .f32 0, .float .f32 0, .float .f32 0, .float .f32 0] 23)) (w.heap.size + 1) #[.float .f32 0, .float .f32 0, .float .f32 0, .float .f32 0, .float .f32 0, .float .f32 0, .float .f32 0, .float .f32 0] 23 := by rw [← e1]; exact (Below.heap_alloc _ _ _ (by simp)).trans (Blk.new _ _ _)
  have k2 : Blk (((w.alloc (.cells #[.float .f32 (F 0), .float .f32 (F 1), .float .f32 (F 2), .float .f32 (F 3), .float .f32 (F 4), .float .f32 (F 5), .float .f32 (F 6), .float .f32 (F 7)] 23)).alloc (.cells #[.float .f32 0, .float .f32 0, .float .f32 0, .float .f32 0, .float .f32 0, .float .f32 0, .float .f32 0, .float .f32 0] 23)).alloc (.cells #[.float .f32 0, .float .f32 0, .float .f32 0, .float .f32 0, .float .f32 0, .float .f32 0, .float .f32 0, .float .f32 0] 23)) (w.heap.size + 1 + 1) #[.float .f32 0, .float .f32 0, .float .f32 0, .float .f32 0, .float .f32 0, .float .f32 0, .float .f32 0, .float .f32 0] 23 := by rw [← e2]; exact Blk.new _ _ _
  have bw : Below w.heap.size w (((w.alloc (.cells #[.float .f32 (F 0), .float .f32 (F 1), .float .f32 (F 2), .float .f32 (F 3), .float .f32 (F 4), .float .f32 (F 5), .float .f32 (F 6), .float .f32 (F 7)] 23)).alloc (.cells #[.float .f32 0, .float .f32 0, .float .f32 0, .float .f32 0, .float .f32 0, .float .f32 0, .float .f32 0, .float .f32 0] 23)).alloc (.cells #[.float .f32 0, .float .f32 0, .float .f32 0, .float .f32 0, .float .f32 0, .float .f32 0, .float .f32 0, .float .f32 0] 23)) := b_alloc (b_alloc (b_alloc (Below.refl _ _) _) _) _
  have K0 := Lib.hid k0; have K1 := Lib.hid k1; have K2 := Lib.hid k2; have Bw := Lib.hid bw
  clear k0 k1 k2 bw e1 e2
  go_enter Tryd.func9, Tryd.ntmps9
  go_wp2_with fail
  generalize (((w.alloc (.cells #[.float .f32 (F 0), .float .f32 (F 1), .float .f32 (F 2), .float .f32 (F 3), .float .f32 (F 4), .float .f32 (F 5), .float .f32 (F 6), .float .f32 (F 7)] 23)).alloc (.cells #[.float .f32 0, .float .f32 0, .float .f32 0, .float .f32 0, .float .f32 0, .float .f32 0, .float .f32 0, .float .f32 0] 23)).alloc (.cells #[.float .f32 0, .float .f32 0, .float .f32 0, .float .f32 0, .float .f32 0, .float .f32 0, .float .f32 0, .float .f32 0] 23)) = W at *
  have q1 : w.heap.size ≤ w.heap.size + 1 := by omega
  have q2 : w.heap.size ≤ w.heap.size + 1 + 1 := by omega
  have n0 : w.heap.size ≠ w.heap.size + 1 + 1 := by omega
  have n1 : w.heap.size + 1 ≠ w.heap.size + 1 + 1 := by omega
  go_loopw [4] (fun i wr => ∃ k : Nat, k ≤ 8 ∧ i = .int .i64 k ∧ Hid (Blk wr w.heap.size #[.float .f32 (F 0), .float .f32 (F 1), .float .f32 (F 2), .float .f32 (F 3), .float .f32 (F 4), .float .f32 (F 5), .float .f32 (F 6), .float .f32 (F 7)] 23) ∧ Hid (Blk wr (w.heap.size + 1) #[.float .f32 0, .float .f32 0, .float .f32 0, .float .f32 0, .float .f32 0, .float .f32 0, .float .f32 0, .float .f32 0] 23) ∧ Hid (Blk wr (w.heap.size + 1 + 1) #[.float .f32 ((fun i => if i < k then F i else 0) 0), .float .f32 ((fun i => if i < k then F i else 0) 1), .float .f32 ((fun i => if i < k then F i else 0) 2), .float .f32 ((fun i => if i < k then F i else 0) 3), .float .f32 ((fun i => if i < k then F i else 0) 4), .float .f32 ((fun i => if i < k then F i else 0) 5), .float .f32 ((fun i => if i < k then F i else 0) 6), .float .f32 ((fun i => if i < k then F i else 0) 7)] 23) ∧ Hid (Below w.heap.size w wr)) (fun i _ => 8 - (intOf i).toNat)
  case atStart => exact ⟨0, by omega, rfl, K0, K1, K2, Bw⟩
  case round =>
    obtain ⟨k, hk, rfl, h0, h1, h2, hb⟩ := hrel
    have s0 := h0.out.lt
    have s1 := h1.out.lt
    have s2 := h2.out.lt
    by_cases hlt : k < 8
    · have c0 := bA_get h0.out k hlt
      have d0 := bA_get (F := fun i => if i < k then F i else 0) h2.out k hlt
      have f0 := h2.out.frozen k
      go_wp2_with fail
      go_roundw
      case rel => exact ⟨k + 1, by omega, by go_num, h0.out.setO n0 _ _, h1.out.setO n1 _ _, bA_step k hlt h2.out, Below.setCell (p := ⟨w.heap.size + 1 + 1, k, none⟩) hb.out q2 _⟩
      case measure => simp [intOf]; omega
    · obtain rfl : k = 8 := by omega
      have h2' : Blk wr (w.heap.size + 1 + 1) #[.float .f32 (F 0), .float .f32 (F 1), .float .f32 (F 2), .float .f32 (F 3), .float .f32 (F 4), .float .f32 (F 5), .float .f32 (F 6), .float .f32 (F 7)] 23 := h2.out
      have e0 := h2'.cell 0; have e1 := h2'.cell 1; have e2 := h2'.cell 2; have e3 := h2'.cell 3; have e4 := h2'.cell 4; have e5 := h2'.cell 5; have e6 := h2'.cell 6; have e7 := h2'.cell 7
      have y0 := h1.out.frozen 0; have x0 := h1.out.cell 0; have y1 := h1.out.frozen 1; have x1 := h1.out.cell 1; have y2 := h1.out.frozen 2; have x2 := h1.out.cell 2; have y3 := h1.out.frozen 3; have x3 := h1.out.cell 3; have y4 := h1.out.frozen 4; have x4 := h1.out.cell 4; have y5 := h1.out.frozen 5; have x5 := h1.out.cell 5; have y6 := h1.out.frozen 6; have x6 := h1.out.cell 6; have y7 := h1.out.frozen 7; have x7 := h1.out.cell 7
      simp at e0 x0 e1 x1 e2 x2 e3 x3 e4 x4 e5 x5 e6 x6 e7 x7
      go_wp2
      refine bodyPost_ret (ret_blk8 (fun i => .float .f32 (F i)) (fun _ => rfl) Tryd.results9 rfl ((((((((h1.out.set 0 _).set 1 _).set 2 _).set 3 _).set 4 _).set 5 _).set 6 _).set 7 _)) rfl ⟨rfl, ?_⟩
      exact (Below.setCell (p := ⟨w.heap.size + 1, 7, none⟩) (Below.setCell (p := ⟨w.heap.size + 1, 6, none⟩) (Below.setCell (p := ⟨w.heap.size + 1, 5, none⟩) (Below.setCell (p := ⟨w.heap.size + 1, 4, none⟩) (Below.setCell (p := ⟨w.heap.size + 1, 3, none⟩) (Below.setCell (p := ⟨w.heap.size + 1, 2, none⟩) (Below.setCell (p := ⟨w.heap.size + 1, 1, none⟩) (Below.setCell (p := ⟨w.heap.size + 1, 0, none⟩) hb.out q1 _) q1 _) q1 _) q1 _) q1 _) q1 _) q1 _) q1 _)
set_option maxHeartbeats 4000000 in
theorem eqC8_any (F G F' G' : Nat → Nat) (hF : ∀ i, i < 8 → cn (F i) = cn (F' i)) (hG : ∀ i, i < 8 → cn (G i) = cn (G' i)) (w : World) : Calls Tryd.prog 11 #[.agg #[.complex .f32 (F 0) (G 0), .complex .f32 (F 1) (G 1), .complex .f32 (F 2) (G 2), .complex .f32 (F 3) (G 3), .complex .f32 (F 4) (G 4), .complex .f32 (F 5) (G 5), .complex .f32 (F 6) (G 6), .complex .f32 (F 7) (G 7)], .agg #[.complex .f32 (F' 0) (G' 0), .complex .f32 (F' 1) (G' 1), .complex .f32 (F' 2) (G' 2), .complex .f32 (F' 3) (G' 3), .complex .f32 (F' 4) (G' 4), .complex .f32 (F' 5) (G' 5), .complex .f32 (F' 6) (G' 6), .complex .f32 (F' 7) (G' 7)]] w (RV (.bool true) w) := by
  have q := fun w a b => run_wideC (P := Tryd.prog) w 24 65 a b (by rw [Tryd.underlying24]; rfl) Tryd.underlying65
  have k0 : Blk ((w.alloc (.cells #[.complex .f32 (F 0) (G 0), .complex .f32 (F 1) (G 1), .complex .f32 (F 2) (G 2), .complex .f32 (F 3) (G 3), .complex .f32 (F 4) (G 4), .complex .f32 (F 5) (G 5), .complex .f32 (F 6) (G 6), .complex .f32 (F 7) (G 7)] 25)).alloc (.cells #[.complex .f32 (F' 0) (G' 0), .complex .f32 (F' 1) (G' 1), .complex .f32 (F' 2) (G' 2), .complex .f32 (F' 3) (G' 3), .complex .f32 (F' 4) (G' 4), .complex .f32 (F' 5) (G' 5), .complex .f32 (F' 6) (G' 6), .complex .f32 (F' 7) (G' 7)] 25)) w.heap.size #[.complex .f32 (F 0) (G 0), .complex .f32 (F 1) (G 1), .complex .f32 (F 2) (G 2), .complex .f32 (F 3) (G 3), .complex .f32 (F 4) (G 4), .complex .f32 (F 5) (G 5), .complex .f32 (F 6) (G 6), .complex .f32 (F 7) (G 7)] 25 := (Below.heap_alloc _ _ _ (by simp)).trans (Blk.new _ _ _)
  have k1 : Blk ((w.alloc (.cells #[.complex .f32 (F 0) (G 0), .complex .f32 (F 1) (G 1), .complex .f32 (F 2) (G 2), .complex .f32 (F 3) (G 3), .complex .f32 (F 4) (G 4), .complex .f32 (F 5) (G 5), .complex .f32 (F 6) (G 6), .complex .f32 (F 7) (G 7)] 25)).alloc (.cells #[.complex .f32 (F' 0) (G' 0), .complex .f32 (F' 1) (G' 1), .complex .f32 (F' 2) (G' 2), .complex .f32 (F' 3) (G' 3), .complex .f32 (F' 4) (G' 4), .complex .f32 (F' 5) (G' 5), .complex .f32 (F' 6) (G' 6), .complex .f32 (F' 7) (G' 7)] 25)) (w.heap.size + 1) #[.complex .f32 (F' 0) (G' 0), .complex .f32 (F' 1) (G' 1), .complex .f32 (F' 2) (G' 2), .complex .f32 (F' 3) (G' 3), .complex .f32 (F' 4) (G' 4), .complex .f32 (F' 5) (G' 5), .complex .f32 (F' 6) (G' 6), .complex .f32 (F' 7) (G' 7)] 25 := by
    have e1 : (w.alloc (.cells #[.complex .f32 (F 0) (G 0), .complex .f32 (F 1) (G 1), .complex .f32 (F 2) (G 2), .complex .f32 (F 3) (G 3), .complex .f32 (F 4) (G 4), .complex .f32 (F 5) (G 5), .complex .f32 (F 6) (G 6), .complex .f32 (F 7) (G 7)] 25)).heap.size = w.heap.size + 1 := by simp
    rw [← e1]
    exact Blk.new _ _ _
  have bw : Below w.heap.size w ((w.alloc (.cells #[.complex .f32 (F 0) (G 0), .complex .f32 (F 1) (G 1), .complex .f32 (F 2) (G 2), .complex .f32 (F 3) (G 3), .complex .f32 (F 4) (G 4), .complex .f32 (F 5) (G 5), .complex .f32 (F 6) (G 6), .complex .f32 (F 7) (G 7)] 25)).alloc (.cells #[.complex .f32 (F' 0) (G' 0), .complex .f32 (F' 1) (G' 1), .complex .f32 (F' 2) (G' 2), .complex .f32 (F' 3) (G' 3), .complex .f32 (F' 4) (G' 4), .complex .f32 (F' 5) (G' 5), .complex .f32 (F' 6) (G' 6), .complex .f32 (F' 7) (G' 7)] 25)) := b_alloc (b_alloc (Below.refl _ _) _) _
  have K0 := Lib.hid k0; have K1 := Lib.hid k1; have Bw := Lib.hid bw; have HF := Lib.hid hF; have HG := Lib.hid hG
  clear k0 k1 bw hF hG
  go_enter Tryd.func11, Tryd.ntmps11
  go_wp2_with fail
  generalize ((w.alloc (.cells #[.complex .f32 (F 0) (G 0), .complex .f32 (F 1) (G 1), .complex .f32 (F 2) (G 2), .complex .f32 (F 3) (G 3), .complex .f32 (F 4) (G 4), .complex .f32 (F 5) (G 5), .complex .f32 (F 6) (G 6), .complex .f32 (F 7) (G 7)] 25)).alloc (.cells #[.complex .f32 (F' 0) (G' 0), .complex .f32 (F' 1) (G' 1), .complex .f32 (F' 2) (G' 2), .complex .f32 (F' 3) (G' 3), .complex .f32 (F' 4) (G' 4), .complex .f32 (F' 5) (G' 5), .complex .f32 (F' 6) (G' 6), .complex .f32 (F' 7) (G' 7)] 25)) = W at *
  go_loopw [5] (fun i wr => ∃ k : Nat, k ≤ 8 ∧ i = .int .i64 k ∧ Hid (Below W.heap.size W wr)) (fun i _ => 8 - (intOf i).toNat)
  case atStart => exact ⟨0, by omega, rfl, Below.refl _ _⟩
  case round =>
    obtain ⟨k, hk, rfl, hb⟩ := hrel
    have h0 := Blk.on K0.out (by rfl) hb.out
    have h1 := Blk.on K1.out (by rfl) hb.out
    by_cases hlt : k < 8
    · have c0 := bC_get h0 k hlt
      have d0 := bC_get h1 k hlt
      have u1 : (0 : Int) ≤ (k : Int) := by omega
      have u2 : (k : Int) < 8 := by omega
      have hs := Lib.hid (sc_cvt (HF.out k hlt) (HG.out k hlt))
      clear h0 h1
      generalize F k = f1 at *
      generalize G k = g1 at *
      generalize F' k = f2 at *
      generalize G' k = g2 at *
      go_upto_region 4 with fail
      go_cut [19] (fun s19 wx => s19 = .bool false ∧ Below wr.heap.size wr wx)
      case first =>
        go_region_law (go_simp; go_at_call 33; refine (hs.out _ _ _ _ _).mono ?_; rintro e w3 ⟨rfl, rfl⟩; dsimp only)
        all_goals
          go_wp2_with fail
          go_meet
          refine ⟨rfl, ?_⟩
          repeat (first | exact Below.refl wr.heap.size wr | refine b_drewN ?_ _ | refine b_drew ?_ | refine b_then ?_ (by assumption))
      case rest =>
        obtain ⟨rfl, hbc⟩ := hcut
        have Bc : Hid (Below W.heap.size W wc) := b_then hb.out hbc
        clear hbc c0 d0
        go_wp2
        go_roundw
        case rel => exact ⟨k + 1, by omega, by go_num, Bc⟩
        case measure => simp [intOf]; omega
    · obtain rfl : k = 8 := by omega
      go_wp2
      go_ret
      exact ⟨rfl, b_then Bw.out hb.out⟩
end Go.Proofs.YtdpgfbmelnmkdabDoor
