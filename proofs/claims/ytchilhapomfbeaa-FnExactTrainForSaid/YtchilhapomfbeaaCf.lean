/-
  The factors of two wheels and of four: both sides and the laws.
-/
import Derived.Test.YtchilhapomfbeaaWh
namespace Go.Proofs.Ytchilhapomfbeaa
open Go.RowKit Go.ChangeShapes Go.WideShapes Go.Deep
attribute [local go_sem ↓] Go.wp_at_zero Go.wp_at_succ
set_option linter.unusedVariables false
set_option linter.unusedSimpArgs false
set_option maxRecDepth 100000
def wB (n : Nat) (x : Int) : Bool := decide (0 ≤ x) && decide (x < (n : Int))
theorem inB_two (n : Nat) (a b : Int) : inB n [a, b] = (wB n a && wB n b) := by simp [inB, wB]
theorem inB_four (n : Nat) (a b c d : Int) : inB n [a, b, c, d] = (wB n a && (wB n b && (wB n c && wB n d))) := by simp [inB, wB]
theorem dupB_two (a b : Int) : dupB [a, b] = (a == b) := by
  simp only [dupB, List.length_cons, List.length_nil, List.range_succ, List.range_zero, List.any_append, List.any_cons, List.any_nil]
  by_cases h : a = b
  · subst h; simp
  · have h2 : ¬ b = a := fun e => h e.symm
    simp [h, h2]
theorem dupB_four (a b c d : Int) : dupB [a, b, c, d] = (a == b || (a == c || (a == d || (b == c || (b == d || c == d))))) := by
  have e1 : (b == a) = (a == b) := Bool.beq_comm
  have e2 : (c == a) = (a == c) := Bool.beq_comm
  have e3 : (d == a) = (a == d) := Bool.beq_comm
  have e4 : (c == b) = (b == c) := Bool.beq_comm
  have e5 : (d == b) = (b == d) := Bool.beq_comm
  have e6 : (d == c) = (c == d) := Bool.beq_comm
  simp only [dupB, List.length_cons, List.length_nil, List.range_succ, List.range_zero, List.any_append, List.any_cons, List.any_nil, List.take_succ_cons, List.take_zero, List.getD_cons_zero, List.getD_cons_succ, List.contains_cons, List.contains_nil, Bool.or_false, Bool.false_or, Nat.zero_add, Nat.reduceAdd]
  rw [e1, e2, e3, e4, e5, e6]
  generalize (a == b) = p1, (a == c) = p2, (a == d) = p3, (b == c) = p4, (b == d) = p5, (c == d) = p6
  revert p1 p2 p3 p4 p5 p6
  decide
def pairC (zs : List Int) (a b : Int) : Nat := cn (quoT (zs.getD a.toNat 0) (zs.getD b.toNat 0))
theorem pairC_of {zs : List Int} {i j : Nat} {x y : Int} (hx : zs[i]? = some x) (hy : zs[j]? = some y) : pairC zs (i : Int) (j : Int) = cn (quoT x y) := by
  unfold pairC
  rw [Int.toNat_natCast, Int.toNat_natCast, getD_of hx, getD_of hy]
def choiceC (zs : List Int) (C : Ch) : Nat := f2 .mul (pairC zs C.a C.b) (pairC zs C.c C.d)
def chL (C : Ch) : List Int := [C.a, C.b, C.c, C.d]
theorem wheelsError_is {A : Option Addr} {n c : Nat} {zs : List Int} {A' : Option Addr} {m c' : Nat} {xs : List Int} {w : World} {K : Int} (hK : codeW zs xs = K) (hl : zs.length = n) (hn : n ≤ 1048576) (hw : ∀ z ∈ zs, I16 z) (hT : Ii w w.heap.size A zs)
    (hl' : xs.length = m) (hm : m ≤ 1000) (hmc : m ≤ c') (hc' : c' ≤ 1000) (hT' : Lo w w.heap.size A' xs) :
    Calls Try.prog 108 #[.slice A n c, .slice A' m c'] w (RV (.int .i64 K) w) := by
  subst hK
  exact wheelsError_any A n c zs A' m c' xs w hl hn hw hT hl' hm hmc hc' hT'
/-- A wheel that is there. -/
theorem wheel_of {zs : List Int} (hz : okZ zs = true) {x : Int} (hx : 0 ≤ x ∧ x < (zs.length : Int)) : ∃ (i : Nat) (z : Int), x = (i : Int) ∧ zs[i]? = some z ∧ i < zs.length ∧ 6 ≤ z ∧ z ≤ 200 ∧ IntKind.i16.wrap (i : Int) = (i : Int) := by
  obtain ⟨i, rfl⟩ := Int.eq_ofNat_of_zero_le hx.1
  have hi : i < zs.length := by omega
  have h24 := (okZ_at hz).1.2
  obtain ⟨h1, h2⟩ := okZ_teeth hz (List.getElem?_eq_getElem hi)
  exact ⟨i, _, rfl, List.getElem?_eq_getElem hi, hi, h1, h2, i16_small _ (by omega) (by omega)⟩
end Go.Proofs.Ytchilhapomfbeaa
