/-
  Numbers picked from the source; the source itself.
-/
import Derived.Test.YtjkgiknklkfipaaSrc
import Derived.ChangeArms
namespace Go.Proofs.Ytjkgiknklkfipaa
open Go.RowKit Go.ChangeShapes Go.WideShapes Go.Deep
attribute [local go_sem ↓] Go.wp_at_zero Go.wp_at_succ
set_option linter.unusedVariables false
set_option linter.unusedSimpArgs false
set_option maxRecDepth 100000
/-- A number x of the source, which has gone on by two bytes at most. -/
def Pk (x : Int) (q B : Nat) (A : Option Addr) (n c p : Nat) (zs : List Int) (w w' : World) : Prop := ∃ p', p' ≤ p + 2 ∧ Src w' q B A n c p' zs ∧ Kp q w w'
theorem pick_any {w : World} {q B : Nat} {A : Option Addr} {n c p : Nat} {zs : List Int} (h : Src w q B A n c p zs) (hp : p ≤ 900000) (k : Int) (hk : k ≤ 1000000) :
    Calls Try.prog 70 #[.pointer (some ⟨q, 0, none⟩), .int .i64 k] w fun e w' => ∃ x : Int, 0 ≤ x ∧ (x < k ∨ x = 0) ∧ e = .returned (.int .i64 x) ∧ Pk x q B A n c p zs w w' := by
  have HS := Lib.hid h; clear h
  go_enter Try.func70, Try.ntmps70
  by_cases h1 : k ≤ 1
  · go_wp2
    go_ret
    exact ⟨0, by omega, Or.inr rfl, rfl, p, by omega, HS.out, Kp.refl _ _⟩
  · have h0 : ¬ k = 0 := by omega
    by_cases h2 : k > 200
    · go_wp2_with (first
        | (go_at_call 104; refine (next_any HS.out (by omega)).mono ?_; rintro e w1 ⟨x, x0, x1, rfl, s1, k1⟩; have S1 := Lib.hid s1; have K1 := Lib.hid k1; clear s1 k1 HS
           have g1 : IntKind.i64.wrap (x * 256) = x * 256 := IntWalk.i64_in _ (by omega))
        | (go_at_call 104; refine (next_any S1.out (by omega)).mono ?_; rintro e w2 ⟨y, y0, y1, rfl, s2, k2⟩; have S2 := Lib.hid s2; have K2 := Lib.hid k2; clear s2 k2
           have g2 : IntKind.i64.wrap (x * 256 + y) = x * 256 + y := IntWalk.i64_in _ (by omega)
           have g3 : IntKind.i64.wrap ((x * 256 + y).tmod k) = (x * 256 + y).tmod k := IntWalk.i64_in _ (by have := Int.tmod_lt_of_pos (x * 256 + y) (show 0 < k by omega); have := Int.tmod_nonneg k (show 0 ≤ x * 256 + y by omega); omega)))
      go_ret
      have := Int.tmod_lt_of_pos (x * 256 + y) (show 0 < k by omega); have := Int.tmod_nonneg k (show 0 ≤ x * 256 + y by omega)
      refine ⟨_, ?_, Or.inl ?_, rfl, p + 1 + 1, by omega, S2.out, K1.out.trans K2.out⟩ <;> first | assumption | exact Int.emod_nonneg _ (by omega) | exact Int.emod_lt_of_pos _ (by omega)
    · go_wp2_with (first
        | (go_at_call 104; refine (next_any HS.out (by omega)).mono ?_; rintro e w1 ⟨x, x0, x1, rfl, s1, k1⟩; have S1 := Lib.hid s1; have K1 := Lib.hid k1; clear s1 k1 HS
           have g3 : IntKind.i64.wrap (x.tmod k) = x.tmod k := IntWalk.i64_in _ (by have := Int.tmod_lt_of_pos x (show 0 < k by omega); have := Int.tmod_nonneg k x0; omega)))
      go_ret
      have := Int.tmod_lt_of_pos x (show 0 < k by omega); have := Int.tmod_nonneg k x0
      refine ⟨_, ?_, Or.inl ?_, rfl, p + 1, by omega, S1.out, K1.out⟩ <;> first | assumption | exact Int.emod_nonneg _ (by omega) | exact Int.emod_lt_of_pos _ (by omega)
theorem among_any {w : World} {q B : Nat} {A : Option Addr} {n c p : Nat} {zs : List Int} (h : Src w q B A n c p zs) (hp : p ≤ 900000) {b m d : Nat} (ls : List Int) (hm : ls.length = m) (h0 : 0 < m) (h1 : m ≤ 1000000) (hb : b < w.heap.size) (hbq : b ≠ q)
    (hc : ∀ i z, ls[i]? = some z → w.cell? ⟨b, i, none⟩ = some (.int .i64 z)) :
    Calls Try.prog 84 #[.pointer (some ⟨q, 0, none⟩), .slice (some ⟨b, 0, none⟩) m d] w fun e w' => ∃ x : Int, x ∈ ls ∧ e = .returned (.int .i64 x) ∧ Pk x q B A n c p zs w w' := by
  have HS := Lib.hid h; clear h
  have HC := Lib.hid hc; clear hc
  go_enter Try.func84, Try.ntmps84
  go_wp2_with (go_at_call 70; refine (pick_any HS.out hp _ (by omega)).mono ?_; rintro e w1 ⟨x, x0, x1, rfl, p', hp', s1, k1⟩; have S1 := Lib.hid s1; have K1 := Lib.hid k1; clear s1 k1 HS
               obtain ⟨i, rfl⟩ := Int.eq_ofNat_of_zero_le x0
               have hi : i < ls.length := by omega
               obtain ⟨z, hz⟩ : ∃ z, ls[i]? = some z := ⟨_, List.getElem?_eq_getElem hi⟩
               have c0 : w1.cell? ⟨b, i, none⟩ = some (.int .i64 z) := (World.cell?_of_block (a := ⟨b, i, none⟩) (K1.out.2.2 b hb hbq)).trans (HC.out i z hz)
               have y0 : (0 : Int) ≤ (i : Int) := by omega
               have y1 : (i : Int) < (m : Int) := by omega
               have HZ := Lib.hid (List.mem_of_getElem? hz)
               clear hz x1)
  go_ret
  exact ⟨_, HZ.out, rfl, _, hp', S1.out, K1.out⟩
theorem from_any {w : World} {A : Option Addr} {n c : Nat} {zs : List Int} (h : ByIn w A n c zs) :
    Calls Try.prog 43 #[.slice A n c] w fun e w' => e = .returned (.pointer (some ⟨w.heap.size, 0, none⟩)) ∧ Src w' w.heap.size w.heap.size A n c 0 zs ∧ Below w.heap.size w w' ∧ w.heap.size < w'.heap.size := by
  have H := Lib.hid h; clear h
  go_enter Try.func43, Try.ntmps43
  go_wp2
  go_ret
  obtain ⟨a1, a2, a3, a4, a5⟩ := H.out
  exact ⟨rfl, ⟨0, Blk.new _ _ _, a4.below (b_alloc (Below.refl _ _) _) (Nat.le_refl _), a1, Nat.le_refl _, a2, a3, a5⟩, b_alloc (Below.refl _ _) _, by simp⟩
end Go.Proofs.Ytjkgiknklkfipaa
