/-
  Worlds in which all blocks but one keep.
-/
import Derived.Test.YtjkgiknklkfipaaBase
import Derived.Test.YtjkgiknklkfipaaSm
namespace Go.Proofs.Ytjkgiknklkfipaa
open Go.RowKit Go.ChangeShapes Go.WideShapes Go.Deep
set_option linter.unusedVariables false
/-- All blocks but q keep; nothing is written out. -/
def Kp (q : Nat) (w w' : World) : Prop := Below 0 w w' ∧ w.heap.size ≤ w'.heap.size ∧ ∀ k, k < w.heap.size → k ≠ q → w'.heap[k]? = w.heap[k]?
theorem Kp.refl (q : Nat) (w : World) : Kp q w w := ⟨Below.refl _ _, Nat.le_refl _, fun _ _ _ => rfl⟩
theorem Kp.trans {q : Nat} {a b c : World} (h : Kp q a b) (k : Kp q b c) : Kp q a c :=
  ⟨h.1.trans (k.1.mono (Nat.zero_le _)), Nat.le_trans h.2.1 k.2.1, fun i hi hq => (k.2.2 i (Nat.lt_of_lt_of_le hi h.2.1) hq).trans (h.2.2 i hi hq)⟩
theorem Kp.of {q : Nat} {w w' : World} (h : Below w.heap.size w w') : Kp q w w' := ⟨h.mono (Nat.zero_le _), h.size, fun k hk _ => h.block k hk⟩
theorem Kp.put {q : Nat} {a w w1 : World} (h : Kp q a w) (b : Below a.heap.size w w1) : Kp q a w1 := ⟨h.1.trans (b.mono (Nat.zero_le _)), Nat.le_trans h.2.1 b.size, fun k hk hq => (b.block k hk).trans (h.2.2 k hk hq)⟩
theorem Kp.size {q : Nat} {w w' : World} (h : Kp q w w') : w.heap.size ≤ w'.heap.size := h.2.1
theorem Kp.block {q : Nat} {w w' : World} (h : Kp q w w') (k : Nat) (hk : k < w.heap.size) (hq : k ≠ q) : w'.heap[k]? = w.heap[k]? := h.2.2 k hk hq
theorem Kp.below {q B : Nat} {w w' : World} (h : Kp q w w') (hq : B ≤ q) (hB : B ≤ w.heap.size) : Below B w w' := ⟨h.1.os, h.1.tape, h.1.output, h.2.1, fun k hk => h.2.2 k (Nat.lt_of_lt_of_le hk hB) (by omega)⟩
theorem Kp.set {q : Nat} {a w : World} (h : Kp q a w) (i : Nat) (v : Value) : Kp q a (w.setCell ⟨q, i, none⟩ v) :=
  h.trans ⟨b_set (Below.refl _ _) (Nat.zero_le _) _ _, by simp, fun k hk hq => Below.heap_setCell w ⟨q, i, none⟩ v k hq⟩
theorem Kp.drewN {q : Nat} {a w : World} (h : Kp q a w) (n : Nat) : Kp q a (w.drewN n) := h.trans (Kp.of (b_drewN (Below.refl _ _) n))
theorem Kp.drew {q : Nat} {a w : World} (h : Kp q a w) : Kp q a w.drew := h.trans (Kp.of (b_drew (Below.refl _ _)))
theorem own_kp {q base : Nat} {w w' : World} {e : TypeId} {size : Nat} {v : Value} {n : Nat} {xs : List Value} (h : w.ownsRow base e size v n xs) (k : Kp q w w') (hq : q < base) : w'.ownsRow base e size v n xs := by
  have hlt := own_base h
  rcases h with ⟨h1, h2 | ⟨g, cap, cur, rfl, h3, h4, rest⟩⟩
  · exact ⟨h1, .inl h2⟩
  · exact ⟨h1, .inr ⟨g, cap, cur, rfl, h3, (k.2.2 g (hlt g rfl).2 (by omega)).trans h4, rest⟩⟩
theorem Blk.kp {q b : Nat} {w w' : World} {cs : Array Value} {t : TypeId} (h : Blk w b cs t) (k : Kp q w w') (hq : b ≠ q) : Blk w' b cs t := (k.2.2 b (Blk.lt h) hq).trans h
end Go.Proofs.Ytjkgiknklkfipaa
