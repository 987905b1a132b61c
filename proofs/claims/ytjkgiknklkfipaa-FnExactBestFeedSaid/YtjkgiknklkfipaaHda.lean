/-
  GrindDay: both sides.
-/
import Derived.Test.YtjkgiknklkfipaaHd
import Derived.Test.YtjkgiknklkfipaaLe
import Derived.Test.YtjkgiknklkfipaaDa
import Derived.Deep.DeepCutAuto
namespace Go.Proofs.Ytjkgiknklkfipaa
open Go.RowKit Go.ChangeShapes Go.WideShapes Go.Deep
attribute [local go_sem ↓] Go.wp_at_zero Go.wp_at_succ
set_option linter.unusedVariables false
set_option linter.unusedSimpArgs false
set_option maxRecDepth 100000
/-- A stone, a list of one's own and a code. -/
def RDyC (C : Sn) (cs : List Nat) (k : Int) (w : World) (e : Ending) (w' : World) : Prop :=
  ∃ (T : Sn) (A : Option Addr) (n c : Nat) (fs : List Nat), e = .returned (.tuple #[.agg #[.float .f32 T.d, .float .f32 T.r, .float .f32 T.b, .float .f32 T.g], .slice A n c, .int .i64 k]) ∧ SnIs T C ∧ fs.length = n ∧ fs.map cn = cs ∧ Fl w' w.heap.size w'.heap.size A fs ∧ (0 < n → ∃ b, A = some ⟨b, 0, none⟩ ∧ w'.there b 0 n) ∧ (∀ a, A = some a → w.heap.size ≤ a.block ∧ a.block < w'.heap.size) ∧ Below w.heap.size w w'
theorem dyc_of_row {C T : Sn} {k : Int} {w w' : World} {v : Value} {n : Nat} {fs : List Nat} (hT : SnIs T C) (h : w'.ownsRow w.heap.size 24 1 v n (fs.map (Value.float .f32))) (hb : Below w.heap.size w w') : RDyC C (fs.map cn) k w (.returned (.tuple #[.agg #[.float .f32 T.d, .float .f32 T.r, .float .f32 T.b, .float .f32 T.g], v, .int .i64 k])) w' := by
  obtain ⟨A, n', c, fs', he, h1, h2, h3, h4, h5, h6⟩ := flc_of_row (k := k) h hb
  simp only [Ending.returned.injEq, Value.tuple.injEq, Array.mk.injEq, List.cons.injEq, and_true] at he
  obtain rfl := he
  exact ⟨T, A, n', c, fs', rfl, hT, h1, h2, h3, h4, h5, h6⟩
theorem own_setN {w : World} {base : Nat} {e : TypeId} {size : Nat} {v : Value} {n : Nat} {xs : List Value} (h : w.ownsRow base e size v n xs) {q : Nat} (hq : ∀ k, v.ownBlock = some k → k ≠ q) (i : Nat) (u : Value) : (w.setCell ⟨q, i, none⟩ u).ownsRow base e size v n xs := by
  rcases h with ⟨h1, h2 | ⟨g, cap, cur, rfl, h3, h4, rest⟩⟩
  · exact ⟨h1, .inl h2⟩
  · exact ⟨h1, .inr ⟨g, cap, cur, rfl, h3, (Below.heap_setCell w ⟨q, i, none⟩ u g (hq g rfl)).trans h4, rest⟩⟩
def dyS (K : Int) (S : Sn) (ts : List Nat) (f n : Nat) : Sn := if K = 0 then dayK S ts f n else sn0
def dyL (K : Int) (S : Sn) (ts : List Nat) (f : Nat) : List Nat := if K = 0 then dayL S ts f else []
theorem codeDay_cases {S : Sn} {ts : List Nat} {n : Nat} {b : Bool} {K : Int} (h : codeDay S ts n b = K) : K = 0 ∨ K = 1 ∨ K = 2 ∨ K = 3 := by
  subst h
  unfold codeDay
  split
  · split
    · split <;> simp
    · simp
  · simp
theorem codeDay_zero {S : Sn} {ts : List Nat} {n : Nat} {b : Bool} (h : codeDay S ts n b = 0) : okS S = true ∧ b = true := by
  unfold codeDay at h
  cases h1 : okS S <;> cases b <;> simp_all
theorem codeL_day (S : Sn) (ts : List Nat) (n : Nat) (b : Bool) : codeL (okS S) b n = codeDay S ts n b := by
  unfold codeL codeDay codeR
  cases okS S <;> cases b <;> simp
theorem dayL_len (S : Sn) (ts : List Nat) (f : Nat) : (dayL S ts f).length = ts.length := by unfold dayL; simp
end Go.Proofs.Ytjkgiknklkfipaa
