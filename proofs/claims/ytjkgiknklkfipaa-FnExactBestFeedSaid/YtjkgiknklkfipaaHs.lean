/-
  The load of several stones at a speed: the model's sum, the program's closure.
-/
import Derived.Test.YtjkgiknklkfipaaSl
import Derived.Test.YtjkgiknklkfipaaStL
namespace Go.Proofs.Ytjkgiknklkfipaa
open Go.RowKit Go.ChangeShapes Go.WideShapes Go.Deep
attribute [local go_sem ↓] Go.wp_at_zero Go.wp_at_succ
set_option linter.unusedVariables false
set_option linter.unusedSimpArgs false
set_option maxRecDepth 100000
def sumLd (ps : List Sn) (a b : Nat) : Nat := ps.foldl (fun s S => f2 .add s (loadC S a b)) (cn 0)
theorem sumLd_snoc {ps : List Sn} {k : Nat} {S : Sn} (h : ps[k]? = some S) (a b : Nat) : sumLd (ps.take (k + 1)) a b = f2 .add (sumLd (ps.take k) a b) (loadC S a b) := by
  unfold sumLd
  rw [List.take_add_one, h, List.foldl_append]
  rfl
theorem sumLd_cn (ps : List Sn) {a a' b b' : Nat} (h : cn a = cn a') (k : cn b = cn b') : sumLd ps a b = sumLd ps a' b' := by
  unfold sumLd
  congr 1
  funext s S
  rw [loadC_cn S h k]
/-- One cell that is a block of its own. -/
def One (w : World) (q : Nat) (v : Value) (t : TypeId) : Prop := w.heap[q]? = some (.cells #[v] t (0, 0))
theorem One.lt {w : World} {q : Nat} {v : Value} {t : TypeId} (h : One w q v t) : q < w.heap.size := (Array.getElem?_eq_some_iff.1 h).1
theorem One.cell {w : World} {q : Nat} {v : Value} {t : TypeId} (h : One w q v t) : w.cell? ⟨q, 0, none⟩ = some v := cell_of_row _ _ 0 _ _ _ h
theorem One.on {w W w' : World} {q : Nat} {v : Value} {t : TypeId} (h : One w q v t) (hW : W.heap = w.heap) (b : Below W.heap.size W w') : One w' q v t := (b.block q (by rw [hW]; exact h.lt)).trans (by rw [hW]; exact h)
theorem One.new (w : World) (v : Value) (t : TypeId) : One (w.alloc (.cells #[v] t)) w.heap.size v t := heap_alloc_new w _
theorem One.push {w : World} {q : Nat} {v : Value} {t : TypeId} (h : One w q v t) (o : Obj) : One (w.alloc o) q v t := h.on (W := w) rfl (b_alloc (Below.refl _ _) o)
theorem One.set {w : World} {q : Nat} {x : Value} {t : TypeId} (h : One w q x t) (v : Value) : One (w.setCell ⟨q, 0, none⟩ v) q v t := heap_setCell_same w q 0 #[x] t v h
theorem One.setO {w : World} {q q' : Nat} {x : Value} {t : TypeId} (h : One w q x t) (hne : q ≠ q') (v : Value) : One (w.setCell ⟨q', 0, none⟩ v) q x t := (Below.heap_setCell w ⟨q', 0, none⟩ v q hne).trans h
theorem One.frozen {w : World} {q : Nat} {v : Value} {t : TypeId} (h : One w q v t) : w.frozen? ⟨q, 0, none⟩ = false := by
  unfold World.frozen?
  rw [h]
  simp
set_option maxHeartbeats 2000000 in
theorem specSumL_any (A : Option Addr) (n c : Nat) (ps : List Sn) (a fd : Nat) (w : World) (hl : ps.length = n) (hn : n ≤ 1048576) (hT : Sn.L w w.heap.size A ps) :
    Calls Try.prog 116 #[.slice A n c, .float .f32 a, .float .f32 fd] w (RF (sumLd ps a fd) w) := by
  obtain ⟨R, N, hR, hC⟩ := ops_fun Try.prog 24; have ra := hR .add rfl; have rs := hR .sub rfl; have rm := hR .mul rfl; have rq := hR .quo rfl; have HC := Lib.hid hC; clear hC hR
  have Hl := Lib.hid hl; clear hl
  have HT := Lib.hid hT; clear hT
  go_enter Try.func116, Try.ntmps116
  go_wp2
  go_loopw [7, 8] (fun s i wr => ∃ (k r : Nat), k ≤ n ∧ i = .int .i64 k ∧ s = .float .f32 r ∧ Hid (cn r = sumLd (ps.take k) a fd) ∧ Below w.heap.size w wr) (fun _ i _ => n - (intOf i).toNat)
  case atStart => exact ⟨0, 0, Nat.zero_le _, rfl, rfl, (by show _ = _; rfl), Below.refl _ _⟩
  case round =>
    obtain ⟨k, r, hk, rfl, rfl, hp, hb⟩ := hrel
    have Hb := Lib.hid hb; clear hb
    by_cases hlt : k < n
    · have hkl : k < ps.length := by have := Hl.out; omega
      obtain ⟨b, off, rfl, hbs, hc⟩ := HT.out (by omega)
      obtain ⟨S, hS⟩ : ∃ S, ps[k]? = some S := ⟨_, List.getElem?_eq_getElem hkl⟩
      obtain ⟨c0, c1, c2, c3⟩ := Sn.at (rangeAt_of_block (hc k S hS) (Hb.out.block b hbs))
      have hbz : b < wr.heap.size := Nat.lt_of_lt_of_le hbs Hb.out.size
      skip
      have hs : Hid (∀ r2 w, cn r2 = loadC S a fd → cn (R .add r r2 w) = sumLd (ps.take (k + 1)) a fd) := fun r2 w h => by rw [HC.out .add rfl, sumLd_snoc hS, hp.out, h]
      clear hc hkl hS hp
      go_wp2_with (go_at_call 130; refine (specLoad_any S a fd _).mono ?_; rintro e w2 ⟨r2, rfl, hr2, b2⟩; have HR2 := Lib.hid hr2; clear hr2)
      have B2 := Lib.hid b2
      go_roundw
      case rel =>
        refine ⟨k + 1, _, by omega, by go_num, rfl, hs.out _ _ HR2.out, b_drewN (b_then (Hb.out) B2.out) _⟩
      case measure => simp [intOf]; omega
    · obtain rfl : k = n := by omega
      go_wp2
      go_ret
      refine ⟨_, rfl, ?_, Hb.out⟩
      have := hp.out
      rw [List.take_of_length_le (by have := Hl.out; omega)] at this
      exact this
set_option maxHeartbeats 2000000 in
theorem clSumL_any (A : Option Addr) (n c : Nat) (ps : List Sn) (a fd : Nat) (q3 q2 : Nat) (w : World) (hl : ps.length = n) (hn : n ≤ 1048576) (hT : Sn.L w w.heap.size A ps) (h3 : One w q3 (.slice A n c) 117) (h2 : One w q2 (.float .f32 fd) 24) :
    Calls Try.prog 119 #[.float .f32 a, .pointer (some ⟨q3, 0, none⟩), .pointer (some ⟨q2, 0, none⟩)] w (RF (sumLd ps a fd) w) := by
  obtain ⟨R, N, hR, hC⟩ := ops_fun Try.prog 24; have ra := hR .add rfl; have rs := hR .sub rfl; have rm := hR .mul rfl; have rq := hR .quo rfl; have HC := Lib.hid hC; clear hC hR
  have Hl := Lib.hid hl; clear hl
  have HT := Lib.hid hT; clear hT
  have g3 := h3.cell
  have H2 := Lib.hid h2; clear h2 h3
  go_enter Try.func119, Try.ntmps119
  go_wp2
  clear g3
  go_loopw [5, 10] (fun s i wr => ∃ (k r : Nat), k ≤ n ∧ i = .int .i64 k ∧ s = .float .f32 r ∧ Hid (cn r = sumLd (ps.take k) a fd) ∧ Below w.heap.size w wr) (fun _ i _ => n - (intOf i).toNat)
  case atStart => exact ⟨0, 0, Nat.zero_le _, rfl, rfl, (by show _ = _; rfl), Below.refl _ _⟩
  case round =>
    obtain ⟨k, r, hk, rfl, rfl, hp, hb⟩ := hrel
    have Hb := Lib.hid hb; clear hb
    by_cases hlt : k < n
    · have hkl : k < ps.length := by have := Hl.out; omega
      obtain ⟨b, off, rfl, hbs, hc⟩ := HT.out (by omega)
      obtain ⟨S, hS⟩ : ∃ S, ps[k]? = some S := ⟨_, List.getElem?_eq_getElem hkl⟩
      obtain ⟨c0, c1, c2, c3⟩ := Sn.at (rangeAt_of_block (hc k S hS) (Hb.out.block b hbs))
      have hbz : b < wr.heap.size := Nat.lt_of_lt_of_le hbs Hb.out.size
      have k2 := One.on H2.out (by rfl) Hb.out; have g2 := k2.cell; have hq2 := k2.lt; clear k2
      have hs : Hid (∀ r2 w, cn r2 = loadC S a fd → cn (R .add r r2 w) = sumLd (ps.take (k + 1)) a fd) := fun r2 w h => by rw [HC.out .add rfl, sumLd_snoc hS, hp.out, h]
      clear hc hkl hS hp
      go_wp2_with (go_at_call 120; refine (implLoad_any S a fd _).mono ?_; rintro e w2 ⟨r2, rfl, hr2, b2⟩; have HR2 := Lib.hid hr2; clear hr2)
      have B2 := Lib.hid b2
      go_roundw
      case rel =>
        refine ⟨k + 1, _, by omega, by go_num, rfl, hs.out _ _ HR2.out, b_drewN (b_then (b_alloc Hb.out _) B2.out) _⟩
      case measure => simp [intOf]; omega
    · obtain rfl : k = n := by omega
      go_wp2
      go_ret
      refine ⟨_, rfl, ?_, Hb.out⟩
      have := hp.out
      rw [List.take_of_length_le (by have := Hl.out; omega)] at this
      exact this
end Go.Proofs.Ytjkgiknklkfipaa
