/-
  The convergents of a number: the list, by whole numbers alone; what lies where while it is made.
-/
import Derived.Test.YtjkgiknklkfipaaFrm
import Derived.ScopeJumps
import Derived.Deep.DeepCutAuto
import Derived.WalkMore
import Derived.WalkLawsBesides
namespace Go.Proofs.Ytjkgiknklkfipaa
open Go.RowKit Go.ChangeShapes Go.WideShapes Go.Deep
attribute [local go_sem ↓] Go.wp_at_zero Go.wp_at_succ
set_option linter.unusedVariables false
set_option linter.unusedSimpArgs false
set_option maxRecDepth 100000
/-- The convergents that follow: numerators and denominators of what is left, of the one before and of the last one. -/
def cvL : Nat → Nat → Nat → Nat → Nat → Nat → Nat → Nat → List Fr
  | 0, _, _, _, _, _, _, _ => []
  | f + 1, x, y, p', q', p, q, m => if y = 0 ∨ m < x / y * q + q' then [] else ⟨((x / y * p + p' : Nat) : Int), ((x / y * q + q' : Nat) : Int)⟩ :: cvL f y (x % y) p q (x / y * p + p') (x / y * q + q') m
def CvI (N D x y p' q' p q : Nat) : Prop := x * p + y * p' = N ∧ x * q + y * q' = D ∧ x ≤ 8589934592 ∧ y ≤ 8589934592
theorem cv_id (x y a b : Nat) : y * (x / y * a + b) + x % y * a = x * a + y * b := by
  have h := Nat.div_add_mod x y
  calc y * (x / y * a + b) + x % y * a = (y * (x / y) + x % y) * a + y * b := by rw [Nat.mul_add, Nat.add_mul, Nat.mul_assoc]; omega
    _ = x * a + y * b := by rw [h]
theorem CvI.next {N D x y p' q' p q : Nat} (h : CvI N D x y p' q' p q) (hy : 0 < y) : CvI N D y (x % y) p q (x / y * p + p') (x / y * q + q') := by
  obtain ⟨h1, h2, h3, h4⟩ := h
  have := Nat.mod_lt x hy
  exact ⟨by rw [cv_id]; exact h1, by rw [cv_id]; exact h2, h4, by omega⟩
theorem CvI.le {N D x y p' q' p q : Nat} (h : CvI N D x y p' q' p q) (hy : 0 < y) : x / y * p + p' ≤ N ∧ x / y * q + q' ≤ D := by
  obtain ⟨h1, h2, h3, h4⟩ := h
  have e1 := cv_id x y p p'
  have e2 := cv_id x y q q'
  have l1 : x / y * p + p' ≤ y * (x / y * p + p') := Nat.le_mul_of_pos_left _ hy
  have l2 : x / y * q + q' ≤ y * (x / y * q + q') := Nat.le_mul_of_pos_left _ hy
  omega
theorem CvI.div {x y : Nat} (hx : x ≤ 8589934592) : x / y ≤ 8589934592 ∧ x / y * y ≤ x := ⟨Nat.le_trans (Nat.div_le_self _ _) hx, Nat.div_mul_le_self _ _⟩
theorem cvL_stop {f x y p' q' p q m : Nat} (h : m < x / y * q + q') : cvL f x y p' q' p q m = [] := by
  cases f with
  | zero => rfl
  | succ f => unfold cvL; rw [if_pos (Or.inr h)]
theorem cvL_none {x y p' q' p q m : Nat} : cvL 0 x y p' q' p q m = [] := rfl
theorem cvL_zero {f x p' q' p q m : Nat} : cvL f x 0 p' q' p q m = [] := by
  cases f with
  | zero => rfl
  | succ f => unfold cvL; rw [if_pos (Or.inl rfl)]
theorem cvL_go {f x y p' q' p q m : Nat} (hy : 0 < y) (h : x / y * q + q' ≤ m) : cvL (f + 1) x y p' q' p q m = ⟨((x / y * p + p' : Nat) : Int), ((x / y * q + q' : Nat) : Int)⟩ :: cvL f y (x % y) p q (x / y * p + p') (x / y * q + q') m := by
  conv => lhs; unfold cvL
  rw [if_neg (by omega)]
theorem cvL_len : ∀ (f x y p' q' p q m : Nat), (cvL f x y p' q' p q m).length ≤ f
  | 0, _, _, _, _, _, _, _ => Nat.le_refl _
  | f + 1, x, y, p', q', p, q, m => by
    unfold cvL
    split
    · simp
    · simp only [List.length_cons]
      have := cvL_len f y (x % y) p q (x / y * p + p') (x / y * q + q') m
      omega

attribute [irreducible] cvL
theorem Blk.grown {w w' : World} {q : Nat} {cs : Array Value} {t : TypeId} {row : Option Nat} (h : Blk w q cs t) (hg : w.grownBy w' row) (hne : row ≠ some q) : Blk w' q cs t :=
  (hg.block q h.lt (fun e => hne e.symm)).trans h
theorem heap_alloc_at {w : World} {o : Obj} {k : Nat} (hk : k = w.heap.size) : (w.alloc o).heap[k]? = some o := by subst hk; exact heap_alloc_new w o
theorem own_set {w : World} {base : Nat} {e : TypeId} {size : Nat} {v : Value} {n : Nat} {xs : List Value} (h : w.ownsRow base e size v n xs) (q i : Nat) (x : Value) (hne : v.ownBlock ≠ some q) : (w.setCell ⟨q, i, none⟩ x).ownsRow base e size v n xs := by
  rcases h with ⟨h1, h2 | ⟨g, cap, cur, rfl, h3, h4, rest⟩⟩
  · exact ⟨h1, .inl h2⟩
  · refine ⟨h1, .inr ⟨g, cap, cur, rfl, h3, ?_, rest⟩⟩
    exact (Below.heap_setCell w ⟨q, i, none⟩ x g (fun e => hne (by rw [e]; rfl))).trans h4
theorem own_not {w : World} {base : Nat} {e : TypeId} {size : Nat} {v : Value} {n : Nat} {xs : List Value} (h : w.ownsRow base e size v n xs) {q : Nat} (hq : q < base) : v.ownBlock ≠ some q := fun e => by
  have := (own_base h q e).1
  omega
/-- Two fractions in blocks of their own, and a list. -/
structure Cv2 (w wr : World) (qb ql base : Nat) (p' q' p q : Nat) (v : Value) (k : Nat) (ps : List Fr) : Prop where
  b : Blk wr qb #[.int .i64 (p' : Int), .int .i64 (q' : Int)] 28
  l : Blk wr ql #[.int .i64 (p : Int), .int .i64 (q : Int)] 28
  o : wr.ownsRow base 28 2 v k (cellsF ps)
  h : Below w.heap.size w wr
  i : w.heap.size ≤ qb ∧ w.heap.size ≤ ql ∧ qb < base ∧ ql < base ∧ qb ≠ ql ∧ base ≤ wr.heap.size
theorem wq {x y : Nat} (hx : x ≤ 8589934592) : IntKind.i64.wrap ((x : Int) / (y : Int)) = ((x / y : Nat) : Int) := by
  have h1 := Nat.div_le_self x y
  rw [← Int.natCast_ediv]
  generalize x / y = k at *
  unfold IntKind.wrap
  simp [IntKind.signed, IntKind.bits]
  omega
theorem wrap_sub {x ky r : Nat} (h : ky + r = x) (hx : x ≤ 8589934592) : wrap64 ((x : Int) - wrap64 (ky : Int)) = (r : Int) := by
  rw [IntWalk.wrap64_in (ky : Int) (by omega), IntWalk.wrap64_in _ (by omega)]
  omega
/-- The numbers of one step: no overflow. -/
theorem cv_words {N D x y p' q' p q : Nat} (h : CvI N D x y p' q' p q) (hy : 0 < y) (hN : N ≤ 8589934592) (hD : D ≤ 8589934592) :
    ∃ k kp kq ky P Q r : Nat, k = x / y ∧ P = x / y * p + p' ∧ Q = x / y * q + q' ∧ r = x % y ∧ ((k : Int) * (p : Int) = (kp : Int)) ∧ ((k : Int) * (q : Int) = (kq : Int)) ∧ ((k : Int) * (y : Int) = (ky : Int)) ∧ kp + p' = P ∧ kq + q' = Q ∧ ky + r = x ∧ k ≤ 8589934592 ∧ P ≤ 8589934592 ∧ Q ≤ 8589934592 := by
  obtain ⟨h1, h2⟩ := h.le hy
  obtain ⟨h3, h4⟩ := CvI.div (y := y) h.2.2.1
  refine ⟨x / y, x / y * p, x / y * q, x / y * y, _, _, _, rfl, rfl, rfl, rfl, (Int.natCast_mul _ _).symm, (Int.natCast_mul _ _).symm, (Int.natCast_mul _ _).symm, rfl, rfl, ?_, h3, Nat.le_trans h1 hN, Nat.le_trans h2 hD⟩
  rw [Nat.mul_comm]
  exact Nat.div_add_mod x y
theorem Cv2.facts {w wr W w9 : World} {qb ql base p' q' p q P Q k qx : Nat} {v : Value} {ps : List Fr} (h : Cv2 w wr qb ql base p' q' p q v k ps) (hW : Below wr.heap.size wr W) (hx : Blk W qx #[.int .i64 (P : Int), .int .i64 (Q : Int)] 28) (hq : wr.heap.size ≤ qx) (hg : W.grownBy w9 v.ownBlock) :
    w9.cell? ⟨qb, 0, none⟩ = some (.int .i64 (p' : Int)) ∧ w9.cell? ⟨qb, 1, none⟩ = some (.int .i64 (q' : Int)) ∧ w9.cell? ⟨ql, 0, none⟩ = some (.int .i64 (p : Int)) ∧ w9.cell? ⟨ql, 1, none⟩ = some (.int .i64 (q : Int)) ∧
    w9.cell? ⟨qx, 0, none⟩ = some (.int .i64 (P : Int)) ∧ w9.cell? ⟨qx, 1, none⟩ = some (.int .i64 (Q : Int)) ∧ w9.frozen? ⟨qb, 0, none⟩ = false ∧ w9.frozen? ⟨qb, 1, none⟩ = false ∧ w9.frozen? ⟨ql, 0, none⟩ = false ∧ w9.frozen? ⟨ql, 1, none⟩ = false := by
  have K9 := (Blk.on h.b (W := wr) rfl hW).grown hg (own_not h.o h.i.2.2.1)
  have L9 := (Blk.on h.l (W := wr) rfl hW).grown hg (own_not h.o h.i.2.2.2.1)
  have X9 := hx.grown hg (fun e => by have := (own_base h.o _ e).2; omega)
  exact ⟨K9.cell 0, K9.cell 1, L9.cell 0, L9.cell 1, X9.cell 0, X9.cell 1, K9.frozen 0, K9.frozen 1, L9.frozen 0, L9.frozen 1⟩
theorem Cv2.step {w wr w9 : World} {qb ql base p' q' p q P Q k : Nat} {v v9 : Value} {ps : List Fr} (h : Cv2 w wr qb ql base p' q' p q v k ps) (hown : w9.ownsRow base 28 2 v9 (k + 1) (cellsF ps ++ [.int .i64 (P : Int), .int .i64 (Q : Int)])) {W : World} (hW : Below wr.heap.size wr W) (hg : W.grownBy w9 v.ownBlock) :
    Cv2 w ((((w9.setCell ⟨qb, 0, none⟩ (.int .i64 (p : Int))).setCell ⟨qb, 1, none⟩ (.int .i64 (q : Int))).setCell ⟨ql, 0, none⟩ (.int .i64 (P : Int))).setCell ⟨ql, 1, none⟩ (.int .i64 (Q : Int))) qb ql base p q P Q v9 (k + 1) (ps ++ [⟨(P : Int), (Q : Int)⟩]) := by
  obtain ⟨h1, h2, h3, h4, i1, i2, i3, i4, i5, i6⟩ := h
  have g1 := (Blk.on h1 (W := wr) rfl hW).grown hg (own_not h3 i3)
  have g2 := (Blk.on h2 (W := wr) rfl hW).grown hg (own_not h3 i4)
  have hs : wr.heap.size ≤ w9.heap.size := Nat.le_trans hW.size hg.size
  have hB : Below w.heap.size w w9 := (b_then h4 hW).grown hg (by have := hW.size; have := h4.size; omega) (fun j e => by have := (own_base h3 j e).1; omega)
  refine ⟨?_, ?_, ?_, ?_, i1, i2, i3, i4, i5, by simpa using Nat.le_trans i6 hs⟩
  · exact (((g1.set 0 _).set 1 _).setO i5 0 _).setO i5 1 _
  · exact (((g2.setO (Ne.symm i5) 0 _).setO (Ne.symm i5) 1 _).set 0 _).set 1 _
  · rw [cellsF_snoc]
    exact own_set (own_set (own_set (own_set hown _ _ _ (own_not hown i3)) _ _ _ (own_not (own_set hown qb 0 (.int .i64 (p : Int)) (own_not hown i3)) i3)) _ _ _ (own_not hown i4)) _ _ _ (own_not hown i4)
  · exact (((hB.setCell (p := ⟨qb, 0, none⟩) i1 _).setCell (p := ⟨qb, 1, none⟩) i1 _).setCell (p := ⟨ql, 0, none⟩) i2 _).setCell (p := ⟨ql, 1, none⟩) i2 _
end Go.Proofs.Ytjkgiknklkfipaa
