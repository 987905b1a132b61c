/-
  The nearest fraction: by whole numbers alone; how far two fractions are apart, both sides; which is nearer.
-/
import Derived.Test.YtjkgiknklkfipaaCvd
import Derived.Deep.RegionHeld3
import Derived.Deep.RegionLaw
namespace Go.Proofs.Ytjkgiknklkfipaa
open Go.RowKit Go.ChangeShapes Go.WideShapes Go.Deep
attribute [local go_sem ↓] Go.wp_at_zero Go.wp_at_succ
set_option linter.unusedVariables false
set_option linter.unusedSimpArgs false
set_option maxRecDepth 100000
/-- How far two fractions are apart, times both denominators. -/
def gapI (N D n d : Nat) : Int := max ((N : Int) * d - (n : Int) * D) ((n : Int) * D - (N : Int) * d)
def nfS (N D : Nat) (b : Nat × Nat) (n d : Nat) : Nat × Nat := if gapI N D n d * (b.2 : Int) < gapI N D b.1 b.2 * (d : Int) then (n, d) else b
def nfD (N D : Nat) (b : Nat × Nat) (d : Nat) : Nat × Nat := nfS N D (nfS N D b (N * d / D) d) (N * d / D + 1) d
def nfR (N D : Nat) : Nat → Nat → Nat × Nat → Nat × Nat
  | 0, _, b => b
  | f + 1, d, b => nfR N D f (d + 1) (nfD N D b d)
/-- A fraction near to it. -/
def NfB (N D : Nat) (b : Nat × Nat) : Prop := 1 ≤ b.2 ∧ b.2 ≤ 1000 ∧ b.1 * D ≤ N * b.2 + D ∧ N * b.2 ≤ b.1 * D + D
theorem NfB.start {N D : Nat} (hD : 0 < D) : NfB N D (N / D, 1) := by
  have h1 := Nat.div_add_mod N D
  have h2 := Nat.mod_lt N hD
  have h3 : N / D * D = D * (N / D) := Nat.mul_comm _ _
  refine ⟨Nat.le_refl _, (by show 1 ≤ 1000; decide), ?_, ?_⟩ <;> simp only [Nat.mul_one] <;> omega
theorem NfB.low {N D d : Nat} (hD : 0 < D) (h1 : 1 ≤ d) (h2 : d ≤ 1000) : NfB N D (N * d / D, d) ∧ NfB N D (N * d / D + 1, d) := by
  have e1 := Nat.div_add_mod (N * d) D
  have e2 := Nat.mod_lt (N * d) hD
  have e3 : N * d / D * D = D * (N * d / D) := Nat.mul_comm _ _
  have e4 : (N * d / D + 1) * D = N * d / D * D + D := by rw [Nat.add_mul, Nat.one_mul]
  refine ⟨⟨h1, h2, ?_, ?_⟩, h1, h2, ?_, ?_⟩ <;> simp only [e4] <;> omega
theorem NfB.step {N D n d : Nat} {b : Nat × Nat} (hb : NfB N D b) (hn : NfB N D (n, d)) : NfB N D (nfS N D b n d) := by
  unfold nfS
  split
  · exact hn
  · exact hb
theorem gap_le {N D n d : Nat} (h : NfB N D (n, d)) : 0 ≤ gapI N D n d ∧ gapI N D n d ≤ D := by
  obtain ⟨_, _, h1, h2⟩ := h
  unfold gapI
  have e1 : ((n : Int) * D) = ((n * D : Nat) : Int) := by simp
  have e2 : ((N : Int) * d) = ((N * d : Nat) : Int) := by simp
  simp only at h1 h2
  rw [e1, e2]
  generalize n * D = x at *
  generalize N * d = y at *
  omega

/-- Numbers that lie in their ranges. -/
def NfR (N D : Nat) : Prop := N ≤ 16777216 ∧ D ≤ 8589934592
theorem nf_words {N D n d : Nat} (hR : NfR N D) (h : NfB N D (n, d)) : ∃ x y : Nat, ((N : Int) * (d : Int) = (x : Int)) ∧ ((n : Int) * (D : Int) = (y : Int)) ∧ gapI N D n d = (if (x : Int) - (y : Int) > (y : Int) - (x : Int) then (x : Int) - y else (y : Int) - x) ∧ x ≤ 25367150592 ∧ y ≤ 25367150592 := by
  obtain ⟨r1, r2⟩ := hR
  obtain ⟨h1, h2, h3, h4⟩ := h
  simp only at h1 h2 h3 h4
  have e1 : ((n : Int) * D) = ((n * D : Nat) : Int) := by simp
  have e2 : ((N : Int) * d) = ((N * d : Nat) : Int) := by simp
  have h5 : N * d ≤ 16777216 * 1000 := Nat.mul_le_mul r1 h2
  refine ⟨N * d, n * D, e2, e1, ?_, by omega, by omega⟩
  unfold gapI
  rw [e1, e2]
  generalize n * D = x at *
  generalize N * d = y at *
  split <;> omega
def TwF (w : World) (N D n d : Nat) : World := (w.alloc (.cells #[.int .i64 (N : Int), .int .i64 (D : Int)] 28)).alloc (.cells #[.int .i64 (n : Int), .int .i64 (d : Int)] 28)
set_option maxHeartbeats 2000000 in
theorem gap_any {N D n d : Nat} (hR : NfR N D) (h : NfB N D (n, d)) (w : World) : Calls Try.prog 115 #[.agg #[.int .i64 (N : Int), .int .i64 (D : Int)], .agg #[.int .i64 (n : Int), .int .i64 (d : Int)]] w (RV (.int .i64 (gapI N D n d)) w) := by
  obtain ⟨x, y, e1, e2, e3, b1, b2⟩ := nf_words hR h
  generalize gapI N D n d = z at *
  have hz1 : (x : Int) - y > (y : Int) - x → z = (x : Int) - y := fun h => by rw [e3, if_pos h]
  have hz2 : ¬ ((x : Int) - y > (y : Int) - x) → z = (y : Int) - x := fun h => by rw [e3, if_neg h]
  have HZ1 := Lib.hid hz1; have HZ2 := Lib.hid hz2
  clear hz1 hz2
  have K0 : Blk (TwF w N D n d) w.heap.size #[.int .i64 (N : Int), .int .i64 (D : Int)] 28 := (heap_alloc_old _ _ (by simp)).trans (heap_alloc_at rfl)
  have K1 : Blk (TwF w N D n d) (w.heap.size + 1) #[.int .i64 (n : Int), .int .i64 (d : Int)] 28 := heap_alloc_at (by simp)
  have c0 := K0.cell 0; have c1 := K0.cell 1; have d0 := K1.cell 0; have d1 := K1.cell 1
  simp at c0 c1 d0 d1
  unfold TwF at c0 c1 d0 d1
  clear K0 K1 hR h e3
  go_enter Try.func115, Try.ntmps115
  go_wp2
  all_goals
    have hz1 := HZ1.out
    have hz2 := HZ2.out
    go_ret
    first
      | exact ⟨by rw [show z = (x : Int) - y by omega]; rfl, b_alloc (b_alloc (Below.refl _ _) _) _⟩
      | exact ⟨by rw [show z = (y : Int) - x by omega]; rfl, b_alloc (b_alloc (Below.refl _ _) _) _⟩
theorem cell_onF {w W w' : World} {g o : Nat} {v : Value} (h : w.cell? ⟨g, o, none⟩ = some v) (hW : W.heap = w.heap) (b : Below W.heap.size W w') : w'.cell? ⟨g, o, none⟩ = some v := by
  rw [World.cell?_of_block (b.block g (by rw [hW]; exact World.block_lt_of_cell? w ⟨g, o, none⟩ h))]
  rw [← h]
  exact World.cell?_of_block (by rw [hW])
theorem sf_step {w' W : World} {q : Nat} {a b c d e f : Value} {r : World} (h : W.cell? ⟨q, 0, none⟩ = some a ∧ W.cell? ⟨q, 1, none⟩ = some b ∧ W.cell? ⟨q + 1, 0, none⟩ = some c ∧ W.cell? ⟨q + 1, 1, none⟩ = some d ∧ W.cell? ⟨q + 1 + 1, 0, none⟩ = some e ∧ W.cell? ⟨q + 1 + 1, 1, none⟩ = some f ∧ Hid (Below r.heap.size r W)) (hb : Below W.heap.size W w') :
    w'.cell? ⟨q, 0, none⟩ = some a ∧ w'.cell? ⟨q, 1, none⟩ = some b ∧ w'.cell? ⟨q + 1, 0, none⟩ = some c ∧ w'.cell? ⟨q + 1, 1, none⟩ = some d ∧ w'.cell? ⟨q + 1 + 1, 0, none⟩ = some e ∧ w'.cell? ⟨q + 1 + 1, 1, none⟩ = some f ∧ Hid (Below r.heap.size r w') := by
  obtain ⟨h1, h2, h3, h4, h5, h6, h7⟩ := h
  exact ⟨cell_onF h1 rfl hb, cell_onF h2 rfl hb, cell_onF h3 rfl hb, cell_onF h4 rfl hb, cell_onF h5 rfl hb, cell_onF h6 rfl hb, Lib.hid (b_then h7.out hb)⟩
def nearB (N D n d bn bd : Nat) : Bool := decide (gapI N D n d * (bd : Int) < gapI N D bn bd * (d : Int))
set_option maxHeartbeats 2000000 in
theorem isNearer_any {N D n d bn bd : Nat} (hR : NfR N D) (h : NfB N D (n, d)) (hb : NfB N D (bn, bd)) (w : World) : Calls Try.prog 89 #[.agg #[.int .i64 (N : Int), .int .i64 (D : Int)], .agg #[.int .i64 (n : Int), .int .i64 (d : Int)], .agg #[.int .i64 (bn : Int), .int .i64 (bd : Int)]] w (RV (.bool (nearB N D n d bn bd)) w) := by
  have G1 := Lib.hid (fun w => gap_any hR h w)
  have G2 := Lib.hid (fun w => gap_any hR hb w)
  obtain ⟨l1, l2⟩ := gap_le h
  obtain ⟨l3, l4⟩ := gap_le hb
  unfold nearB
  have hD := hR.2
  obtain ⟨d1, d2, _, _⟩ := h
  obtain ⟨d3, d4, _, _⟩ := hb
  simp only at d1 d2 d3 d4
  generalize gapI N D n d = x at *
  generalize gapI N D bn bd = y at *
  obtain ⟨u, hu⟩ : ∃ u : Int, x * (bd : Int) = u := ⟨_, rfl⟩
  obtain ⟨v, hv⟩ : ∃ v : Int, y * (d : Int) = v := ⟨_, rfl⟩
  have u1 : 0 ≤ u := by rw [← hu]; exact Int.mul_nonneg l1 (by omega)
  have v1 : 0 ≤ v := by rw [← hv]; exact Int.mul_nonneg l3 (by omega)
  have u2 : u ≤ 8589934592000 := by rw [← hu]; exact Int.le_trans (Int.mul_le_mul (show x ≤ 8589934592 by omega) (show (bd : Int) ≤ 1000 by omega) (by omega) (by omega)) (by decide)
  have v2 : v ≤ 8589934592000 := by rw [← hv]; exact Int.le_trans (Int.mul_le_mul (show y ≤ 8589934592 by omega) (show (d : Int) ≤ 1000 by omega) (by omega) (by omega)) (by decide)
  clear l1 l2 l3 l4 hD d1 d2 d3 d4 hR
  obtain ⟨W, hW⟩ : ∃ W, ((w.alloc (.cells #[.int .i64 (N : Int), .int .i64 (D : Int)] 28)).alloc (.cells #[.int .i64 (n : Int), .int .i64 (d : Int)] 28)).alloc (.cells #[.int .i64 (bn : Int), .int .i64 (bd : Int)] 28) = W := ⟨_, rfl⟩
  have C0 : Hid (W.cell? ⟨w.heap.size, 0, none⟩ = some (.int .i64 (N : Int)) ∧ W.cell? ⟨w.heap.size, 1, none⟩ = some (.int .i64 (D : Int)) ∧ W.cell? ⟨w.heap.size + 1, 0, none⟩ = some (.int .i64 (n : Int)) ∧ W.cell? ⟨w.heap.size + 1, 1, none⟩ = some (.int .i64 (d : Int)) ∧ W.cell? ⟨w.heap.size + 1 + 1, 0, none⟩ = some (.int .i64 (bn : Int)) ∧ W.cell? ⟨w.heap.size + 1 + 1, 1, none⟩ = some (.int .i64 (bd : Int)) ∧ Hid (Below w.heap.size w W)) := by
    rw [← hW]
    have K0 : Blk W w.heap.size #[.int .i64 (N : Int), .int .i64 (D : Int)] 28 := by rw [← hW]; exact (heap_alloc_old _ _ (by simp; omega)).trans ((heap_alloc_old _ _ (by simp)).trans (heap_alloc_at rfl))
    have K1 : Blk W (w.heap.size + 1) #[.int .i64 (n : Int), .int .i64 (d : Int)] 28 := by rw [← hW]; exact (heap_alloc_old _ _ (by simp)).trans (heap_alloc_at (by simp))
    have K2 : Blk W (w.heap.size + 1 + 1) #[.int .i64 (bn : Int), .int .i64 (bd : Int)] 28 := by rw [← hW]; exact heap_alloc_at (by simp)
    rw [hW]
    exact ⟨K0.cell 0, K0.cell 1, K1.cell 0, K1.cell 1, K2.cell 0, K2.cell 1, by rw [← hW]; exact b_alloc (b_alloc (b_alloc (Below.refl _ _) _) _) _⟩
  go_enter Try.func89, Try.ntmps89
  go_upto_region 1 with fail
  try rw [hW]
  clear hW
  have wu : IntKind.i64.wrap u = u := IntWalk.i64_in _ (by omega)
  have wv : IntKind.i64.wrap v = v := IntWalk.i64_in _ (by omega)
  have C1 := sf_step C0.out (b_drew (Below.refl W.heap.size W))
  go_region_held3 (fun w' => w'.cell? ⟨w.heap.size, 0, none⟩ = some (.int .i64 (N : Int)) ∧ w'.cell? ⟨w.heap.size, 1, none⟩ = some (.int .i64 (D : Int)) ∧ w'.cell? ⟨w.heap.size + 1, 0, none⟩ = some (.int .i64 (n : Int)) ∧ w'.cell? ⟨w.heap.size + 1, 1, none⟩ = some (.int .i64 (d : Int)) ∧ w'.cell? ⟨w.heap.size + 1 + 1, 0, none⟩ = some (.int .i64 (bn : Int)) ∧ w'.cell? ⟨w.heap.size + 1 + 1, 1, none⟩ = some (.int .i64 (bd : Int)) ∧ Hid (Below w.heap.size w w'))
    (first
      | exact C1
      | exact C0.out
      | assumption)
    (first | (go_at_call 115; (first | with_reducible refine (G1.out _).mono ?_ | with_reducible refine (G2.out _).mono ?_); rintro e w' ⟨rfl, b⟩; have C := sf_step (by assumption) b; clear b))
  have HF := C.2.2.2.2.2.2
  clear C C0 C1
  try simp only [wu, wv]
  go_wp2
  go_ret
  first | exact ⟨rfl, HF.out⟩ | exact ⟨by rw [hu, hv]; rfl, HF.out⟩
end Go.Proofs.Ytjkgiknklkfipaa
