/-
  How long the bytes are; a number that they stand for.
-/
import Derived.Test.YtjkgiknklkfipaaBy
namespace Go.Proofs.Ytjkgiknklkfipaa
open Go.RowKit Go.ChangeShapes Go.WideShapes Go.Deep Go.Joins
attribute [local go_sem ↓] Go.wp_at_zero Go.wp_at_succ
set_option linter.unusedVariables false
set_option linter.unusedSimpArgs false
set_option maxRecDepth 100000
theorem long_any (A A' : Option Addr) (n c n' c' : Nat) (w : World) : Calls Try.prog 7 #[.slice A n c, .slice A' n' c'] w fun e w' => e = .returned (.bool (decide (3000 < n) || decide (3000 < n'))) ∧ w = w' := by
  by_cases h1 : 3000 < n
  · have y1 : (n : Int) > 3000 := by omega
    rw [decide_eq_true h1]
    go_enter Try.func7, Try.ntmps7
    go_wp2
    go_ret
    exact ⟨rfl, rfl⟩
  · have y1 : ¬ (n : Int) > 3000 := by omega
    rw [decide_eq_false h1]
    by_cases h2 : 3000 < n'
    · have y2 : (n' : Int) > 3000 := by omega
      rw [decide_eq_true h2]
      go_enter Try.func7, Try.ntmps7
      go_wp2
      go_ret
      exact ⟨rfl, rfl⟩
    · have y2 : ¬ (n' : Int) > 3000 := by omega
      rw [decide_eq_false h2]
      go_enter Try.func7, Try.ntmps7
      go_wp2
      go_ret
      exact ⟨rfl, rfl⟩
theorem at_any {w : World} {A : Option Addr} {n c : Nat} {zs : List Int} (h : ByIn w A n c zs) (i : Nat) (hi : i ≤ 1000) (N : Int) (h1 : 1 ≤ N) (h2 : N ≤ 1000) :
    Calls Try.prog 9 #[.slice A n c, .int .i64 (i : Int), .int .i64 N] w fun e w' => ∃ x : Int, 0 ≤ x ∧ x < N ∧ e = .returned (.int .i64 x) ∧ w = w' := by
  obtain ⟨a1, a2, a3, a4, a5⟩ := h
  have H4 := Lib.hid a4; have H5 := Lib.hid a5; have H1 := Lib.hid a1
  clear a1 a4 a5
  have y5 : ¬ N < 1 := by omega
  have y6 : ¬ N = 0 := by omega
  by_cases hin : i < n
  · obtain ⟨b, off, rfl, hbs, hcs⟩ := H4.out (by have := H1.out; omega)
    obtain ⟨z, hz⟩ : ∃ z, zs[i]? = some z := ⟨_, List.getElem?_eq_getElem (by have := H1.out; omega)⟩
    have d0 : w.cell? ⟨b, off + i, none⟩ = some (.int .u8 z) := hcs i z hz
    have hu := H5.out z (List.mem_of_getElem? hz)
    have HU := Lib.hid hu
    have w0 : IntKind.i64.wrap z = z := IntWalk.i64_in _ (by have := hu.1; have := hu.2; omega)
    have y0 : (0 : Int) ≤ (i : Int) := by omega
    have y1 : (i : Int) < (n : Int) := by omega
    have y2 : ¬ (i : Int) ≥ (n : Int) := by omega
    have z0 : 0 ≤ z := hu.1
    have g3 : IntKind.i64.wrap (z % N) = z % N := IntWalk.i64_in _ (by have := Int.emod_lt_of_pos z (show 0 < N by omega); have := Int.emod_nonneg z y6; omega)
    clear hz hcs hu hbs
    go_enter Try.func9, Try.ntmps9
    go_wp2
    go_ret
    refine ⟨_, ?_, ?_, rfl, rfl⟩ <;> first | exact Int.emod_nonneg _ (by omega) | exact Int.emod_lt_of_pos _ (by omega)
  · have y2 : (i : Int) ≥ (n : Int) := by omega
    go_enter Try.func9, Try.ntmps9
    go_wp2
    go_ret
    exact ⟨0, by omega, by omega, rfl, rfl⟩
end Go.Proofs.Ytjkgiknklkfipaa
