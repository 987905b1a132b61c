/-
  What FnFractions asks of whole numbers: no fraction that is tried is nearer than the nearest one; a convergent is no further off than the one before.
-/
import Derived.Test.YtjkgiknklkfipaaNfc
namespace Go.Proofs.Ytjkgiknklkfipaa
set_option linter.unusedVariables false
/-- b is no further off than c; where both are as far, it has no greater denominator. -/
def NoFar (N D : Nat) (b c : Nat × Nat) : Prop := gapI N D b.1 b.2 * (c.2 : Int) ≤ gapI N D c.1 c.2 * (b.2 : Int) ∧ (gapI N D c.1 c.2 * (b.2 : Int) = gapI N D b.1 b.2 * (c.2 : Int) → b.2 ≤ c.2)
theorem cross_lt {a b c x y z : Int} (hy : 0 < y) (hz : 0 < z) (hx : 0 < x) (h1 : a * y < b * x) (h2 : b * z ≤ c * y) : a * z < c * x := by
  have e1 : a * y * z < b * x * z := Int.mul_lt_mul_of_pos_right h1 hz
  have e2 : b * z * x ≤ c * y * x := Int.mul_le_mul_of_nonneg_right h2 (by omega)
  have e3 : a * z * y < c * x * y := by
    have a1 : a * y * z = a * z * y := by rw [Int.mul_assoc, Int.mul_comm y z, ← Int.mul_assoc]
    have a2 : b * x * z = b * z * x := by rw [Int.mul_assoc, Int.mul_comm x z, ← Int.mul_assoc]
    have a3 : c * y * x = c * x * y := by rw [Int.mul_assoc, Int.mul_comm y x, ← Int.mul_assoc]
    omega
  exact Int.lt_of_mul_lt_mul_right e3 (by omega)
theorem nfS_far {N D : Nat} {b : Nat × Nat} {n d : Nat} (hb : 1 ≤ b.2) (hbd : b.2 ≤ d) {T : Nat × Nat → Prop} (hT : ∀ c, T c → 1 ≤ c.2) (h : ∀ c, T c → NoFar N D b c) :
    1 ≤ (nfS N D b n d).2 ∧ (nfS N D b n d).2 ≤ d ∧ ∀ c, T c ∨ c = (n, d) → NoFar N D (nfS N D b n d) c := by
  unfold nfS
  split
  · rename_i hlt
    refine ⟨by show 1 ≤ d; omega, Nat.le_refl _, fun c hc => ?_⟩
    rcases hc with hc | rfl
    · have h1 := (h c hc).1
      have h2 := hT c hc
      have h3 := cross_lt (a := gapI N D n d) (b := gapI N D b.1 b.2) (c := gapI N D c.1 c.2) (x := (d : Int)) (y := (b.2 : Int)) (z := (c.2 : Int)) (by omega) (by omega) (by omega) hlt h1
      exact ⟨Int.le_of_lt h3, fun e => by simp only at e; omega⟩
    · exact ⟨Int.le_refl _, fun _ => Nat.le_refl _⟩
  · rename_i hlt
    refine ⟨hb, hbd, fun c hc => ?_⟩
    rcases hc with hc | rfl
    · exact h c hc
    · exact ⟨by simp only; omega, fun _ => hbd⟩
/-- What has been tried: with each denominator below e, the two numerators next to it. -/
def Tried (N D e : Nat) (c : Nat × Nat) : Prop := 1 ≤ c.2 ∧ c.2 < e ∧ (c.1 = N * c.2 / D ∨ c.1 = N * c.2 / D + 1)
theorem nfR_far {N D : Nat} : ∀ (f d : Nat) (b : Nat × Nat), 1 ≤ d → 1 ≤ b.2 → b.2 ≤ d → (∀ c, Tried N D d c → NoFar N D b c) →
    1 ≤ (nfR N D f d b).2 ∧ (nfR N D f d b).2 ≤ d + f ∧ ∀ c, Tried N D (d + f) c → NoFar N D (nfR N D f d b) c
  | 0, d, b, h1, h2, h3, h => ⟨h2, h3, h⟩
  | f + 1, d, b, h1, h2, h3, h => by
    obtain ⟨a1, a2, a3⟩ := nfS_far (n := N * d / D) h2 h3 (fun c hc => hc.1) h
    obtain ⟨b1, b2, b3⟩ := nfS_far (N := N) (D := D) (b := nfS N D b (N * d / D) d) (n := N * d / D + 1) a1 a2 (T := fun c => Tried N D d c ∨ c = (N * d / D, d)) (fun c hc => by
      rcases hc with hc | rfl
      · exact hc.1
      · exact h1) a3
    have key : ∀ c, Tried N D (d + 1) c → NoFar N D (nfD N D b d) c := fun c hc => by
      refine b3 c ?_
      obtain ⟨k1, k2, k3⟩ := hc
      rcases (by omega : c.2 < d ∨ c.2 = d) with hlt | he
      · exact Or.inl (Or.inl ⟨k1, hlt, k3⟩)
      · obtain ⟨x, y⟩ := c
        simp only at he k3
        subst he
        rcases k3 with rfl | rfl
        · exact Or.inl (Or.inr rfl)
        · exact Or.inr rfl
    obtain ⟨c1, c2, c3⟩ := nfR_far f (d + 1) (nfD N D b d) (by omega) b1 (Nat.le_succ_of_le b2) key
    rw [show d + (f + 1) = d + 1 + f by omega]
    exact ⟨c1, c2, c3⟩
theorem nfS_den {N D M : Nat} {b : Nat × Nat} {n d : Nat} (hb : b.2 ≤ M) (hd : d ≤ M) : (nfS N D b n d).2 ≤ M := by
  unfold nfS
  split
  · exact hd
  · exact hb
theorem nfR_den {N D M : Nat} : ∀ (f d : Nat) (b : Nat × Nat), b.2 ≤ M → d + f ≤ M + 1 → (nfR N D f d b).2 ≤ M
  | 0, _, _, h, _ => h
  | f + 1, d, b, h, hm => nfR_den f (d + 1) _ (nfS_den (nfS_den h (by omega)) (by omega)) (by omega)
/-- The two last fractions differ by one part of both denominators. -/
def Det (p' q' p q : Nat) : Prop := (p : Int) * q' - (p' : Int) * q = 1 ∨ (p' : Int) * q - (p : Int) * q' = 1
theorem det_next {p' q' p q k : Nat} (h : Det p' q' p q) : Det p q (k * p + p') (k * q + q') := by
  have e1 : ((k * p + p' : Nat) : Int) * q = (k : Int) * p * q + (p' : Int) * q := by
    rw [Int.natCast_add, Int.natCast_mul, Int.add_mul]
  have e2 : (p : Int) * ((k * q + q' : Nat) : Int) = (k : Int) * p * q + (p : Int) * q' := by
    rw [Int.natCast_add, Int.natCast_mul, Int.mul_add, ← Int.mul_assoc, Int.mul_comm (p : Int) (k : Int)]
  unfold Det at *
  rw [e1, e2]
  generalize (k : Int) * p * q = z at *
  omega
/-- How far the last fraction is: as far as what is left. -/
theorem gap_of {N D x y p' q' p q : Nat} (h1 : x * p + y * p' = N) (h2 : x * q + y * q' = D) (h : Det p' q' p q) : gapI N D p q = y := by
  have e1 : ((N : Int) * q) = (x : Int) * p * q + (y : Int) * ((p' : Int) * q) := by
    rw [← h1, Int.natCast_add, Int.natCast_mul, Int.natCast_mul, Int.add_mul, Int.mul_assoc (y : Int)]
  have e2 : ((p : Int) * D) = (x : Int) * p * q + (y : Int) * ((p : Int) * q') := by
    rw [← h2, Int.natCast_add, Int.natCast_mul, Int.natCast_mul, Int.mul_add, ← Int.mul_assoc, Int.mul_comm (p : Int) (x : Int), ← Int.mul_assoc (p : Int) (y : Int), Int.mul_comm (p : Int) (y : Int), Int.mul_assoc (y : Int)]
  unfold gapI
  rw [e1, e2]
  have e3 : (y : Int) * ((p' : Int) * q) - (y : Int) * ((p : Int) * q') = (y : Int) * ((p' : Int) * q - (p : Int) * q') := by rw [Int.mul_sub]
  have e4 : (y : Int) * ((p : Int) * q') - (y : Int) * ((p' : Int) * q) = (y : Int) * ((p : Int) * q' - (p' : Int) * q) := by rw [Int.mul_sub]
  rcases h with h | h
  · have h' : (p' : Int) * q - (p : Int) * q' = -1 := by omega
    rw [h'] at e3; rw [h] at e4
    omega
  · have h' : (p : Int) * q' - (p' : Int) * q = -1 := by omega
    rw [h] at e3; rw [h'] at e4
    omega
/-- Each convergent has a denominator from one up to m, no less than the one before, and is no further off, times both denominators. -/
def Chain (N D m : Nat) : Nat → Nat → List Fr → Prop
  | _, _, [] => True
  | g, q, c :: l => ∃ P Q r : Nat, c = ⟨(P : Int), (Q : Int)⟩ ∧ gapI N D P Q = r ∧ r ≤ g ∧ q ≤ Q ∧ 1 ≤ Q ∧ Q ≤ m ∧ Chain N D m r Q l
theorem cvL_chain {N D m : Nat} : ∀ (f x y p' q' p q : Nat), CvI N D x y p' q' p q → Det p' q' p q → y ≤ x ∨ q = 0 → 1 ≤ q + q' → Chain N D m y q (cvL f x y p' q' p q m)
  | 0, _, _, _, _, _, _, _, _, _, _ => by rw [cvL_none]; exact trivial
  | f + 1, x, y, p', q', p, q, hI, hd, hxy, hq => by
    unfold cvL
    split
    · trivial
    · rename_i hc
      have hy : 0 < y := by omega
      have hm : x / y * q + q' ≤ m := by omega
      obtain ⟨h1, h2, h3, h4⟩ := hI
      have e0 := Nat.div_add_mod x y
      have hk : q = 0 ∨ 1 ≤ x / y := by
        rcases hxy with h | h
        · exact Or.inr (Nat.div_pos h hy)
        · exact Or.inl h
      have hQ : q ≤ x / y * q + q' := by
        rcases hk with h | h
        · omega
        · have := Nat.mul_le_mul_right q h
          omega
      have hQ1 : 1 ≤ x / y * q + q' := by
        rcases hk with h | h
        · subst h; omega
        · have := Nat.mul_le_mul_right q h
          omega
      have id : ∀ a b : Nat, y * (x / y * a + b) + x % y * a = x * a + y * b := fun a b => by
        have h := Nat.div_add_mod x y
        calc y * (x / y * a + b) + x % y * a = (y * (x / y) + x % y) * a + y * b := by rw [Nat.mul_add, Nat.add_mul, Nat.mul_assoc]; omega
          _ = x * a + y * b := by rw [h]
      have hr := Nat.mod_lt x hy
      have hI2 : CvI N D y (x % y) p q (x / y * p + p') (x / y * q + q') := ⟨by rw [id]; exact h1, by rw [id]; exact h2, h4, by omega⟩
      have hd2 := det_next (k := x / y) hd
      exact ⟨_, _, x % y, rfl, gap_of hI2.1 hI2.2.1 hd2, by omega, hQ, hQ1, hm, cvL_chain f y (x % y) p q _ _ hI2 hd2 (Or.inl (by omega)) (by omega)⟩
theorem cv_first {N D m : Nat} (hD : 0 < D) (hm : 1 ≤ m) (hN : N ≤ 8589934592) (hD2 : D ≤ 8589934592) : Chain N D m D 0 (cvL 40 N D 0 1 1 0 m) ∧ cvL 40 N D 0 1 1 0 m ≠ [] := by
  refine ⟨cvL_chain 40 N D 0 1 1 0 ⟨by omega, by omega, hN, hD2⟩ (Or.inl (by decide)) (Or.inr rfl) (by decide), ?_⟩
  unfold cvL
  rw [if_neg (by omega)]
  exact List.cons_ne_nil _ _
end Go.Proofs.Ytjkgiknklkfipaa
