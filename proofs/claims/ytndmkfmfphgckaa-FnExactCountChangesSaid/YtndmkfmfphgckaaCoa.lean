/-
  CountChanges: both sides.
-/
import Derived.Test.YtndmkfmfphgckaaChangeS
import Derived.IntWalk
namespace Go.Proofs.Ytndmkfmfphgckaa
open Go.RowKit Go.ChangeShapes Go.WideShapes Go.Deep
attribute [local go_sem ↓] Go.wp_at_zero Go.wp_at_succ
set_option linter.unusedVariables false
set_option linter.unusedSimpArgs false
set_option maxRecDepth 100000
def freshN (cs : List Cg) : Nat := cs.countP (·.n)
def turnedN (cs : List Cg) : Nat := cs.countP (fun p => !p.n)
def manyB (cs : List Cg) : Bool := decide (832 < cs.length)
def cntV (cs : List Cg) (x : Nat) : Int := if manyB cs then 0 else x
def cntK (cs : List Cg) : Int := if manyB cs then 3 else 0
theorem fresh_take {cs : List Cg} {k : Nat} {p : Cg} (h : cs[k]? = some p) : freshN (cs.take (k + 1)) = freshN (cs.take k) + (if p.n then 1 else 0) := by
  unfold freshN
  rw [List.take_add_one, h, List.countP_append]
  cases hp : p.n <;> simp [List.countP_cons, hp]
theorem turned_take {cs : List Cg} {k : Nat} {p : Cg} (h : cs[k]? = some p) : turnedN (cs.take (k + 1)) = turnedN (cs.take k) + (if p.n then 0 else 1) := by
  unfold turnedN
  rw [List.take_add_one, h, List.countP_append]
  cases hp : p.n <;> simp [List.countP_cons, hp]
theorem fresh_le (cs : List Cg) (k : Nat) : freshN (cs.take k) ≤ k := Nat.le_trans (List.countP_le_length ..) (List.length_take_le _ _)
theorem turned_le (cs : List Cg) (k : Nat) : turnedN (cs.take k) ≤ k := Nat.le_trans (List.countP_le_length ..) (List.length_take_le _ _)
set_option maxHeartbeats 2000000 in
theorem specCount_any (A : Option Addr) (n c : Nat) (cs : List Cg) (w : World) (hl : cs.length = n) (hn : n ≤ 1048576) (hT : Cg.L w w.heap.size A cs) :
    Calls Try.prog 49 #[.slice A n c] w (RV (.tuple #[.int .i64 (cntV cs (turnedN cs)), .int .i64 (cntV cs (freshN cs)), .int .i64 (cntK cs)]) w) := by
  obtain ⟨t, ht⟩ : ∃ t, manyB cs = t := ⟨_, rfl⟩
  unfold cntV cntK
  rw [ht]
  unfold manyB at ht
  rw [hl] at ht
  have Hl := Lib.hid hl; have HT := Lib.hid hT
  clear hl hT
  cases t
  · have h8 : ¬ (832 : Int) < (n : Int) := by simp at ht; omega
    have h9 : n ≤ 832 := by simp at ht; omega
    clear ht
    simp only [if_false, Bool.false_eq_true]
    go_enter Try.func49, Try.ntmps49
    go_wp2
    go_loop [5, 6, 7] (fun t5 t6 i => ∃ k a b : Nat, k ≤ n ∧ i = .int .i64 k ∧ t5 = .int .i64 a ∧ t6 = .int .i64 b ∧ a ≤ k ∧ b ≤ k ∧ Hid (a = turnedN (cs.take k)) ∧ Hid (b = freshN (cs.take k))) (fun _ _ i => n - (intOf i).toNat)
    case atStart => exact ⟨0, 0, 0, Nat.zero_le _, rfl, rfl, rfl, Nat.le_refl _, Nat.le_refl _, by show _ = _; simp [turnedN], by show _ = _; simp [freshN]⟩
    case round =>
      obtain ⟨k, a, b, hk, rfl, rfl, rfl, ha, hb, hA, hB⟩ := hrel
      by_cases hlt : k < n
      · have hkl : k < cs.length := by have := Hl.out; omega
        obtain ⟨bb, off, rfl, hbs, hc⟩ := HT.out (by omega)
        obtain ⟨p, hp⟩ : ∃ p, cs[k]? = some p := ⟨_, List.getElem?_eq_getElem hkl⟩
        obtain ⟨c0, c1, c2⟩ := Cg.at (hc k p hp)
        have hf := Lib.hid (fresh_take hp); have ht := Lib.hid (turned_take hp)
        clear hc hkl hp c0 c1
        cases hpn : p.n
        · rw [hpn] at c2 hf ht
          have hf2 : Hid (freshN (cs.take (k + 1)) = b) := by show _ = _; rw [hf.out, hB.out]; rfl
          have ht2 : Hid (turnedN (cs.take (k + 1)) = a + 1) := by show _ = _; rw [ht.out, hA.out]; rfl
          clear hf ht hpn
          go_wp2
          go_round
          case rel => exact ⟨k + 1, a + 1, b, by omega, by go_num, by go_num, rfl, by omega, by omega, ht2.out.symm, hf2.out.symm⟩
          case measure => simp [intOf]; omega
        · rw [hpn] at c2 hf ht
          have hf2 : Hid (freshN (cs.take (k + 1)) = b + 1) := by show _ = _; rw [hf.out, hB.out]; rfl
          have ht2 : Hid (turnedN (cs.take (k + 1)) = a) := by show _ = _; rw [ht.out, hA.out]; rfl
          clear hf ht hpn
          go_wp2
          go_round
          case rel => exact ⟨k + 1, a, b + 1, by omega, by go_num, rfl, by go_num, by omega, by omega, ht2.out.symm, hf2.out.symm⟩
          case measure => simp [intOf]; omega
      · obtain rfl : k = n := by omega
        have h1 : Hid (a = turnedN cs) := by have := hA.out; rwa [List.take_of_length_le (by have := Hl.out; omega)] at this
        have h2 : Hid (b = freshN cs) := by have := hB.out; rwa [List.take_of_length_le (by have := Hl.out; omega)] at this
        go_wp2
        go_ret3
        exact ⟨by rw [← h1.out, ← h2.out]; rfl, Below.refl _ _⟩
  · have h8 : (832 : Int) < (n : Int) := by simp at ht; omega
    clear ht
    simp only [if_true]
    go_enter Try.func49, Try.ntmps49
    go_wp2
    go_ret3
    exact ⟨rfl, Below.refl _ _⟩
set_option maxHeartbeats 2000000 in
theorem implCount_any (A : Option Addr) (n c : Nat) (cs : List Cg) (w : World) (hl : cs.length = n) (hn : n ≤ 1048576) (hT : Cg.L w w.heap.size A cs) :
    Calls Try.prog 51 #[.slice A n c] w (RV (.tuple #[.int .i64 (cntV cs (turnedN cs)), .int .i64 (cntV cs (freshN cs)), .int .i64 (cntK cs)]) w) := by
  obtain ⟨t, ht⟩ : ∃ t, manyB cs = t := ⟨_, rfl⟩
  unfold cntV cntK
  rw [ht]
  unfold manyB at ht
  rw [hl] at ht
  have Hl := Lib.hid hl; have HT := Lib.hid hT
  clear hl hT
  cases t
  · have h8 : ¬ (832 : Int) < (n : Int) := by simp at ht; omega
    have h9 : n ≤ 832 := by simp at ht; omega
    clear ht
    simp only [if_false, Bool.false_eq_true]
    go_enter Try.func51, Try.ntmps51
    go_wp2
    go_loopw [5, 6, 8, 14] (fun t5 t6 v8 i wr => ∃ k a b : Nat, k ≤ n ∧ i = .int .i64 k ∧ t5 = .int .i64 a ∧ t6 = .int .i64 b ∧ a ≤ k ∧ b ≤ k ∧ Hid (a = turnedN (cs.take k)) ∧ Hid (b = freshN (cs.take k)) ∧ Hid (Below w.heap.size w wr)) (fun _ _ _ i _ => n - (intOf i).toNat)
    case atStart => exact ⟨0, 0, 0, Nat.zero_le _, rfl, rfl, rfl, Nat.le_refl _, Nat.le_refl _, by show _ = _; simp [turnedN], by show _ = _; simp [freshN], Below.refl _ _⟩
    case round =>
      obtain ⟨k, a, b, hk, rfl, rfl, rfl, ha, hb, hA, hB, hbb⟩ := hrel
      by_cases hlt : k < n
      · have hkl : k < cs.length := by have := Hl.out; omega
        obtain ⟨bb, off, rfl, hbs, hc⟩ := HT.out (by omega)
        obtain ⟨p, hp⟩ : ∃ p, cs[k]? = some p := ⟨_, List.getElem?_eq_getElem hkl⟩
        obtain ⟨c0, c1, c2⟩ := Cg.at (rangeAt_of_block (hc k p hp) (hbb.out.block bb hbs))
        have hf := Lib.hid (fresh_take hp); have ht := Lib.hid (turned_take hp)
        clear hc hkl hp
        cases hpn : p.n
        · rw [hpn] at c2 hf ht
          have hf2 : Hid (freshN (cs.take (k + 1)) = b) := by show _ = _; rw [hf.out, hB.out]; rfl
          have ht2 : Hid (turnedN (cs.take (k + 1)) = a + 1) := by show _ = _; rw [ht.out, hA.out]; rfl
          clear hf ht hpn
          go_wp2
          go_roundw
          case rel => exact ⟨k + 1, a + 1, b, by omega, by go_num, by go_num, rfl, by omega, by omega, ht2.out.symm, hf2.out.symm, b_alloc hbb.out _⟩
          case measure => simp [intOf]; omega
        · rw [hpn] at c2 hf ht
          have hf2 : Hid (freshN (cs.take (k + 1)) = b + 1) := by show _ = _; rw [hf.out, hB.out]; rfl
          have ht2 : Hid (turnedN (cs.take (k + 1)) = a) := by show _ = _; rw [ht.out, hA.out]; rfl
          clear hf ht hpn
          go_wp2
          go_roundw
          case rel => exact ⟨k + 1, a, b + 1, by omega, by go_num, rfl, by go_num, by omega, by omega, ht2.out.symm, hf2.out.symm, b_alloc hbb.out _⟩
          case measure => simp [intOf]; omega
      · obtain rfl : k = n := by omega
        have h1 : Hid (a = turnedN cs) := by have := hA.out; rwa [List.take_of_length_le (by have := Hl.out; omega)] at this
        have h2 : Hid (b = freshN cs) := by have := hB.out; rwa [List.take_of_length_le (by have := Hl.out; omega)] at this
        go_wp2
        go_ret3
        exact ⟨by rw [← h1.out, ← h2.out]; rfl, hbb.out⟩
  · have h8 : (832 : Int) < (n : Int) := by simp at ht; omega
    clear ht
    simp only [if_true]
    go_enter Try.func51, Try.ntmps51
    go_wp2
    go_ret3
    exact ⟨rfl, Below.refl _ _⟩
end Go.Proofs.Ytndmkfmfphgckaa
