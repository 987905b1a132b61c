/-
  All choices of four wheels: lists.
-/
import Derived.Test.YtaodpopghacmaaaPra
namespace Go.Proofs.Ytaodpopghacmaaa
open Go Go.RowKit
set_option linter.unusedVariables false
set_option linter.unusedSimpArgs false
/-- Two pairs that share no wheel. -/
def apt (p q : Nat × Nat) : Bool := p.1 != q.1 && p.1 != q.2 && p.2 != q.1 && p.2 != q.2
/-- The choices of a pair with those of a list. -/
def rowC (p : Nat × Nat) (l : List (Nat × Nat)) : List ((Nat × Nat) × (Nat × Nat)) := (l.filter (apt p)).map fun q => (p, q)
/-- The choices of the pairs of a list with those of another. -/
def chC (Q l : List (Nat × Nat)) : List ((Nat × Nat) × (Nat × Nat)) := l.flatMap fun p => rowC p Q
/-- All choices of n wheels, in their order. -/
def chU (n : Nat) : List ((Nat × Nat) × (Nat × Nat)) := chC (prU n n 0) (prU n n 0)
theorem rowC_nil (p : Nat × Nat) : rowC p [] = [] := rfl
theorem chC_nil (Q : List (Nat × Nat)) : chC Q [] = [] := rfl
theorem rowC_yes {p q : Nat × Nat} (h : apt p q = true) (l : List (Nat × Nat)) : rowC p (l ++ [q]) = rowC p l ++ [(p, q)] := by
  unfold rowC
  rw [List.filter_append, List.map_append]
  simp [h]
theorem rowC_no {p q : Nat × Nat} (h : apt p q = false) (l : List (Nat × Nat)) : rowC p (l ++ [q]) = rowC p l := by
  unfold rowC
  rw [List.filter_append]
  simp [h]
theorem chC_snoc (Q l : List (Nat × Nat)) (p : Nat × Nat) : chC Q (l ++ [p]) = chC Q l ++ rowC p Q := by
  unfold chC
  rw [List.flatMap_append]
  simp
theorem rowC_pre {l Q : List (Nat × Nat)} (p : Nat × Nat) (h : l <+: Q) : rowC p l <+: rowC p Q := by
  obtain ⟨t, rfl⟩ := h
  unfold rowC
  rw [List.filter_append, List.map_append]
  exact List.prefix_append _ _
theorem chC_pre {Q l L : List (Nat × Nat)} (h : l <+: L) : chC Q l <+: chC Q L := by
  obtain ⟨t, rfl⟩ := h
  unfold chC
  rw [List.flatMap_append]
  exact List.prefix_append _ _
theorem ch_pre {Q l l2 : List (Nat × Nat)} {p : Nat × Nat} (h : l ++ [p] <+: Q) (h2 : l2 <+: Q) : chC Q l ++ rowC p l2 <+: chC Q Q := by
  refine List.IsPrefix.trans ?_ (chC_pre h)
  rw [chC_snoc, List.prefix_append_right_inj]
  exact rowC_pre p h2
theorem rowC_len (p : Nat × Nat) (l : List (Nat × Nat)) : (rowC p l).length ≤ l.length := by
  unfold rowC
  rw [List.length_map]
  exact List.length_filter_le _ _
theorem chC_len {Q : List (Nat × Nat)} {m : Nat} (hQ : Q.length ≤ m) : ∀ l : List (Nat × Nat), (chC Q l).length ≤ m * l.length
  | [] => Nat.zero_le _
  | p :: l => by
    have h1 := chC_len hQ l
    have h2 := rowC_len p Q
    have h3 : (chC Q (p :: l)).length = (rowC p Q).length + (chC Q l).length := by
      show ((p :: l).flatMap fun p => rowC p Q).length = _
      rw [List.flatMap_cons, List.length_append]
      rfl
    rw [h3, List.length_cons, Nat.mul_add, Nat.mul_one]
    omega
theorem rowU_len (a b : Nat) : (rowU a b).length ≤ b := by
  unfold rowU
  rw [List.length_map]
  have := List.length_filter_le (fun j => j != a) (List.range b)
  rwa [List.length_range] at this
theorem prU_len (n : Nat) : ∀ a, (prU n a 0).length ≤ n * a
  | 0 => by simp [prU, rowU]
  | a + 1 => by
    rw [prU_next]
    have h1 := prU_len n a
    have h2 := rowU_len a n
    unfold prU at h1 ⊢
    rw [List.length_append] at h1 ⊢
    rw [Nat.mul_add, Nat.mul_one]
    omega
theorem prU_576 {n : Nat} (hn : n ≤ 24) : (prU n n 0).length ≤ 576 := Nat.le_trans (prU_len n n) (by have := Nat.mul_le_mul hn hn; omega)
/-- Four wheels of n. -/
abbrev ChT (n : Nat) := { x : (Nat × Nat) × (Nat × Nat) // x.1.1 < n ∧ x.1.2 < n ∧ x.2.1 < n ∧ x.2.2 < n ∧ ¬ x.1.1 = x.1.2 ∧ ¬ x.2.1 = x.2.2 ∧ apt x.1 x.2 = true }
/-- What a choice is handed over as. -/
def chV (x : (Nat × Nat) × (Nat × Nat)) : Go.Value := .agg #[.int .i16 (x.1.1 : Int), .int .i16 (x.1.2 : Int), .int .i16 (x.2.1 : Int), .int .i16 (x.2.2 : Int)]
theorem apt_yes {a b c d : Nat} (h1 : ¬ a = c) (h2 : ¬ a = d) (h3 : ¬ b = c) (h4 : ¬ b = d) : apt (a, b) (c, d) = true := by simp [apt, h1, h2, h3, h4]
theorem apt_no {a b c d : Nat} (h : a = c ∨ a = d ∨ b = c ∨ b = d) : apt (a, b) (c, d) = false := by
  unfold apt
  rcases h with rfl | rfl | rfl | rfl <;> simp
/-- Blocks of cells lie on, but for those of x; no block has gone. -/
def KC (x : Nat → Prop) (W W' : Go.World) : Prop := W.heap.size ≤ W'.heap.size ∧ ∀ (k : Nat) (o : Go.Obj), ¬ x k → W.heap[k]? = some o → o.isCells = true → W'.heap[k]? = some o
theorem KC.refl (x : Nat → Prop) (W : Go.World) : KC x W W := ⟨Nat.le_refl _, fun _ _ _ h _ => h⟩
theorem KC.trans {x : Nat → Prop} {A B C : Go.World} (h : KC x A B) (k : KC x B C) : KC x A C := ⟨Nat.le_trans h.1 k.1, fun i o hx hi ho => k.2 i o hx (h.2 i o hx hi ho) ho⟩
theorem KC.below {x : Nat → Prop} {A B : Go.World} (h : Below A.heap.size A B) : KC x A B := ⟨h.size, fun k o _ hk _ => (h.block k (Array.getElem?_eq_some_iff.1 hk).1).trans hk⟩
theorem KC.put {x : Nat → Prop} (W : Go.World) (l : Nat) (o o' : Go.Obj) (ho : W.heap[l]? = some o) (hc : o.isCells = false) : KC x W (W.putObj l o') :=
  ⟨by simp, fun k u _ hk hu => (Go.World.putObj_heap_other (fun e => by subst e; rw [ho] at hk; cases hk; rw [hc] at hu; cases hu)).trans hk⟩
theorem KC.set {x : Nat → Prop} {W : Go.World} {q : Nat} (hx : x q) (i : Nat) (v : Go.Value) : KC x W (W.setCell ⟨q, i, none⟩ v) :=
  ⟨by simp [Go.World.setCell], fun k o hk h _ => (Below.heap_setCell W ⟨q, i, none⟩ v k (fun e => hk (by rw [e]; exact hx))).trans h⟩
theorem KC.box {x : Nat → Prop} {A B : Go.World} (h : KC x A B) {q : Nat} {t : Go.TypeId} {v : Go.Value} (hx : ¬ x q) (b : Boxed A q t v) : Boxed B q t v := h.2 q _ hx b rfl
end Go.Proofs.Ytaodpopghacmaaa
