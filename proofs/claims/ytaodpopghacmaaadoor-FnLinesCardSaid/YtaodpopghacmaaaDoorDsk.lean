/-
  The numbers that FnLines draws: squares of speeds, a lower and a higher speed.
-/
import Derived.Test.YtaodpopghacmaaaDoorDsi
import Derived.Test.YtaodpopghacmaaaDoorDsj
import Derived.Test.YtaodpopghacmaaaDoorDsh
namespace Go.Proofs.YtaodpopghacmaaaDoor
open Go
set_option linter.unusedVariables false
set_option linter.unusedSimpArgs false
theorem oLe_of {x y : Nat} (hx : nan32 x = false) (hy : nan32 y = false) (h : rk x ≤ rk y) : oLe x y = true := by
  unfold oLe
  rw [ord_rk hx hy]
  have : compare (rk x) (rk y) ≠ .gt := fun e => by have := Int.compare_eq_gt.1 e; omega
  revert this
  cases compare (rk x) (rk y) <;> simp
theorem oGe_of {x y : Nat} (hx : nan32 x = false) (hy : nan32 y = false) (h : rk y ≤ rk x) : oGe x y = true := by
  unfold oGe
  rw [ord_rk hx hy]
  have : compare (rk x) (rk y) ≠ .lt := fun e => by have := Int.compare_eq_lt.1 e; omega
  revert this
  cases compare (rk x) (rk y) <;> simp
theorem ord_lt {x y : Nat} (hx : nan32 x = false) (hy : nan32 y = false) (h : rk x < rk y) : FloatKind.f32.format.order x y = some .lt := by
  rw [ord_rk hx hy, Int.compare_eq_lt.2 h]
theorem ord_ge {x y : Nat} (hx : nan32 x = false) (hy : nan32 y = false) (h : rk y ≤ rk x) : FloatKind.f32.format.order x y = some .gt ∨ FloatKind.f32.format.order x y = some .eq := by
  rw [ord_rk hx hy]
  have : compare (rk x) (rk y) ≠ .lt := fun e => by have := Int.compare_eq_lt.1 e; omega
  revert this
  cases compare (rk x) (rk y) <;> simp
theorem small_num {x : Nat} (h : x ≤ 2139095040) : nan32 x = false := nan_rg (by unfold rg; omega)
theorem ps_word {x : Nat} (h : x ≤ 1233125376) : psB x = true := by
  unfold psB
  have h0 : nan32 0 = false := by decide +kernel
  have hm : nan32 1233125376 = false := small_num (by decide)
  have e1 : rk 1233125376 = (1233125376 : Nat) := rk_small (by decide)
  have e0 : rk 0 = 0 := rfl
  have ex : rk x = (x : Int) := rk_small (by omega)
  rw [oGe_of (small_num (by omega)) h0 (by omega), oLe_of (small_num (by omega)) hm (by omega)]
  rfl
theorem sq_num {x : Int} (h0 : 0 ≤ x) (h1 : x < 200) : ∃ r, floatBits .quo .f32 (floatOfInt .f32 x) 1090519040 = some r ∧ psB r = true := by
  have h := List.all_eq_true.1 sq_all x.toNat (List.mem_range.2 (by omega))
  rw [show ((x.toNat : Nat) : Int) = x by omega] at h
  unfold sqB at h
  cases hr : floatBits .quo .f32 (floatOfInt .f32 x) 1090519040 with
  | none => rw [hr] at h; cases h
  | some r => rw [hr] at h; simp only [Bool.and_eq_true] at h; exact ⟨r, rfl, h.1⟩
def loW (a : Nat) : Bool := match floatBits .quo .f32 (floatOfInt .f32 (1 + (a : Int))) 1098907648 with
  | some r => decide (8388608 ≤ r) && decide (r ≤ 1082130432) && decide (vl (r + 1) ≤ vl r + vl 1048576000)
  | none => false
theorem lo_words : ((List.range 60).all loW) = true := by decide +kernel
def hiW (a : Nat) : Bool := match floatBits .quo .f32 (floatOfInt .f32 (1 + (a : Int))) 1082130432 with
  | some r => decide (1048576000 ≤ r) && decide (r ≤ 1115684864)
  | none => false
theorem hi_words : ((List.range 250).all hiW) = true := by decide +kernel
theorem lo_num {x : Int} (h0 : 0 ≤ x) (h1 : x < 60) : ∃ r, floatBits .quo .f32 (floatOfInt .f32 (1 + x)) 1098907648 = some r ∧ 8388608 ≤ r ∧ r ≤ 1082130432 ∧ vl (r + 1) ≤ vl r + vl 1048576000 := by
  have h := List.all_eq_true.1 lo_words x.toNat (List.mem_range.2 (by omega))
  unfold loW at h
  rw [show ((x.toNat : Nat) : Int) = x by omega] at h
  cases hr : floatBits .quo .f32 (floatOfInt .f32 (1 + x)) 1098907648 with
  | none => rw [hr] at h; cases h
  | some r => rw [hr] at h; simp only [Bool.and_eq_true, decide_eq_true_eq] at h; exact ⟨r, rfl, h.1.1, h.1.2, h.2⟩
theorem hi_num {x : Int} (h0 : 0 ≤ x) (h1 : x < 250) : ∃ r, floatBits .quo .f32 (floatOfInt .f32 (1 + x)) 1082130432 = some r ∧ 1048576000 ≤ r ∧ r ≤ 1115684864 := by
  have h := List.all_eq_true.1 hi_words x.toNat (List.mem_range.2 (by omega))
  unfold hiW at h
  rw [show ((x.toNat : Nat) : Int) = x by omega] at h
  cases hr : floatBits .quo .f32 (floatOfInt .f32 (1 + x)) 1082130432 with
  | none => rw [hr] at h; cases h
  | some r => rw [hr] at h; simp only [Bool.and_eq_true, decide_eq_true_eq] at h; exact ⟨r, rfl, h.1, h.2⟩
theorem up_num {l g : Nat} (l1 : 8388608 ≤ l) (l2 : l ≤ 1082130432) (l3 : vl (l + 1) ≤ vl l + vl 1048576000) (g1 : 1048576000 ≤ g) (g2 : g ≤ 1115684864) : ∃ h, floatBits .add .f32 l g = some h ∧ l < h ∧ h ≤ 1233125376 := by
  have gl : rg l = l := rg_small (by omega)
  have gg : rg g = g := rg_small (by omega)
  have b1 : rg l < 134 * 8388608 := by rw [gl]; omega
  have b2 : rg g < 134 * 8388608 := by rw [gg]; omega
  obtain ⟨h, hh, hb⟩ := sum_le b1 b2 (by decide) (by decide)
  have a := add_in (by omega) (by omega) hh
  have k1 : vl (l + 1) * 2 ^ 0 ≤ vl l + vl g := by
    rw [Nat.pow_zero, Nat.mul_one]
    exact Nat.le_trans l3 (Nat.add_le_add_left (vl_le g1) _)
  have lo := RZ_ge (by omega) k1
  rw [← a] at lo
  clear a k1 l3
  have hw := word_of_rk (bits_lt hh) (by omega)
  have hr := rk_nonneg (x := h) (by omega)
  exact ⟨h, hh, by omega, by omega⟩
end Go.Proofs.YtaodpopghacmaaaDoor
