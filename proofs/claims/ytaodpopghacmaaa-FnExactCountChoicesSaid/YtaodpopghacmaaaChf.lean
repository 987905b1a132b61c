/-
  The factor of four wheels: the function alone, on both sides.
-/
import Derived.Test.YtaodpopghacmaaaWh
import Derived.Test.YtaodpopghacmaaaQt
import Derived.Test.YtaodpopghacmaaaPrb
namespace Go.Proofs.Ytaodpopghacmaaa
open Go.RowKit Go.ChangeShapes Go.WideShapes Go.Deep
attribute [local go_sem ↓] Go.wp_at_zero Go.wp_at_succ
set_option linter.unusedVariables false
set_option linter.unusedSimpArgs false
set_option maxRecDepth 100000
structure Ch where
  a : Int
  b : Int
  c : Int
  d : Int
def AtCh (w : World) (q : Nat) (X : Ch) : Prop := w.heap[q]? = some (.cells #[.int .i16 X.a, .int .i16 X.b, .int .i16 X.c, .int .i16 X.d] 49 (0, 0))
theorem AtCh.lt {w : World} {q : Nat} {X : Ch} (h : AtCh w q X) : q < w.heap.size := by
  rcases Nat.lt_or_ge q w.heap.size with hlt | hge
  · exact hlt
  · unfold AtCh at h; rw [Array.getElem?_eq_none hge] at h; cases h
theorem AtCh.on {w W w' : World} {q : Nat} {X : Ch} (h : AtCh w q X) (hW : W.heap = w.heap) (b : Below W.heap.size W w') : AtCh w' q X := (b.block q (by rw [hW]; exact h.lt)).trans (by rw [hW]; exact h)
theorem AtCh.under {w w' : World} {q B : Nat} {X : Ch} (h : AtCh w q X) (hq : q < B) (b : Below B w w') : AtCh w' q X := (b.block q hq).trans h
theorem AtCh.same {w W : World} {q : Nat} {X : Ch} (h : AtCh w q X) (hW : W.heap = w.heap) : AtCh W q X := by unfold AtCh; rw [hW]; exact h
theorem AtCh.push {w : World} {q : Nat} {X : Ch} (h : AtCh w q X) (o : Obj) : AtCh (w.alloc o) q X := h.on (W := w) rfl (b_alloc (Below.refl _ _) o)
theorem AtCh.new (w : World) (X : Ch) : AtCh (w.alloc (.cells #[.int .i16 X.a, .int .i16 X.b, .int .i16 X.c, .int .i16 X.d] 49)) w.heap.size X := heap_alloc_new w _
theorem AtCh.cells {w : World} {q : Nat} {X : Ch} (h : AtCh w q X) : w.cell? ⟨q, 0, none⟩ = some (.int .i16 X.a) ∧ w.cell? ⟨q, 1, none⟩ = some (.int .i16 X.b) ∧ w.cell? ⟨q, 2, none⟩ = some (.int .i16 X.c) ∧ w.cell? ⟨q, 3, none⟩ = some (.int .i16 X.d) :=
  ⟨cell_of_row _ _ 0 _ _ _ h, cell_of_row _ _ 1 _ _ _ h, cell_of_row _ _ 2 _ _ _ h, cell_of_row _ _ 3 _ _ _ h⟩
set_option maxHeartbeats 4000000 in
theorem implFactor_any (A : Option Addr) (n k : Nat) (zs : List Int) (a b c d : Nat) (x y u v : Int) (w : World) (hl : zs.length = n) (hn : n ≤ 1048576) (hT : Ii w w.heap.size A zs)
    (hx : zs[a]? = some x) (hy : zs[b]? = some y) (hu : zs[c]? = some u) (hv : zs[d]? = some v) (hf1 : ∀ l w, Calls Try.prog 56 #[.agg #[.int .i16 x, .int .i16 y, .float .f32 l]] w (RV (.float .f32 (quoT x y)) w)) (hf2 : ∀ l w, Calls Try.prog 56 #[.agg #[.int .i16 u, .int .i16 v, .float .f32 l]] w (RV (.float .f32 (quoT u v)) w)) :
    Calls Try.prog 72 #[.agg #[.int .i16 a, .int .i16 b, .int .i16 c, .int .i16 d], .slice A n k] w (RF (f2 .mul (cn (quoT x y)) (cn (quoT u v))) w) := by
  obtain ⟨R, N, hR, hC⟩ := ops_fun Try.prog 23; have ra := hR .add rfl; have rs := hR .sub rfl; have rm := hR .mul rfl; have rq := hR .quo rfl; have HC := Lib.hid hC; clear hC hR
  have HT := Lib.hid hT; clear hT
  have Hl := Lib.hid hl; clear hl
  have Hx := Lib.hid hx; have Hy := Lib.hid hy; have Hu := Lib.hid hu; have Hv := Lib.hid hv
  clear hx hy hu hv
  obtain ⟨q1, hq1⟩ : ∃ q, quoT x y = q := ⟨_, rfl⟩
  obtain ⟨q2, hq2⟩ : ∃ q, quoT u v = q := ⟨_, rfl⟩
  rw [hq1] at hf1 ⊢
  rw [hq2] at hf2 ⊢
  clear hq1 hq2
  have Hf1 := Lib.hid hf1; have Hf2 := Lib.hid hf2
  clear hf1 hf2
  have k0 := Lib.hid (AtCh.new w ⟨(a : Int), (b : Int), (c : Int), (d : Int)⟩)
  obtain ⟨c0, c1, c2, c3⟩ := k0.out.cells
  dsimp only at c0 c1 c2 c3
  have kat : Hid (∀ W, Below (w.heap.size + 1) (w.alloc (.cells #[.int .i16 a, .int .i16 b, .int .i16 c, .int .i16 d] 49)) W → AtCh W w.heap.size ⟨(a : Int), (b : Int), (c : Int), (d : Int)⟩) := fun W hW => k0.out.under (Nat.lt_succ_self _) hW
  have hsz : (w.alloc (.cells #[.int .i16 a, .int .i16 b, .int .i16 c, .int .i16 d] 49)).heap.size = w.heap.size + 1 := by simp
  have Hsz := Lib.hid hsz
  clear hsz
  go_enter Try.func72, Try.ntmps72
  go_wp2_with fail
  go_region_law (first
    | (go_simp; go_at_call 55; first
        | ((with_reducible refine (pairIn_any A n k a b zs x y _ Hl.out Hx.out Hy.out hn (HT.out.keep ?_)).mono ?_); (focus (repeat (first | exact Below.refl _ _ | refine b_drewN ?_ _ | refine b_drew ?_ | refine b_alloc ?_ _ | refine b_then ?_ (by assumption)))); rintro e w1 ⟨rfl, b1⟩; obtain ⟨d0, d1, d2, d3⟩ := (kat.out w1 (by rw [← Hsz.out]; (repeat (first | exact Below.refl _ _ | refine b_drewN ?_ _ | refine b_drew ?_ | refine b_alloc ?_ _ | refine b_then ?_ (by assumption))))).cells; dsimp only at d0 d1 d2 d3; dsimp only)
        | ((with_reducible refine (pairIn_any A n k c d zs u v _ Hl.out Hu.out Hv.out hn (HT.out.keep ?_)).mono ?_); (focus (repeat (first | exact Below.refl _ _ | refine b_drewN ?_ _ | refine b_drew ?_ | refine b_alloc ?_ _ | refine b_then ?_ (by assumption)))); rintro e w2 ⟨rfl, b2⟩; obtain ⟨d0, d1, d2, d3⟩ := (kat.out w2 (by rw [← Hsz.out]; (repeat (first | exact Below.refl _ _ | refine b_drewN ?_ _ | refine b_drew ?_ | refine b_alloc ?_ _ | refine b_then ?_ (by assumption))))).cells; dsimp only at d0 d1 d2 d3; dsimp only))
    | (go_simp; go_at_call 56; first
        | ((with_reducible refine (Hf1.out _ _).mono ?_); rintro e w3 ⟨rfl, b3⟩; obtain ⟨d0, d1, d2, d3⟩ := (kat.out w3 (by rw [← Hsz.out]; (repeat (first | exact Below.refl _ _ | refine b_drewN ?_ _ | refine b_drew ?_ | refine b_alloc ?_ _ | refine b_then ?_ (by assumption))))).cells; dsimp only at d0 d1 d2 d3; dsimp only)
        | ((with_reducible refine (Hf2.out _ _).mono ?_); rintro e w4 ⟨rfl, b4⟩; obtain ⟨d0, d1, d2, d3⟩ := (kat.out w4 (by rw [← Hsz.out]; (repeat (first | exact Below.refl _ _ | refine b_drewN ?_ _ | refine b_drew ?_ | refine b_alloc ?_ _ | refine b_then ?_ (by assumption))))).cells; dsimp only at d0 d1 d2 d3; dsimp only)))
  all_goals
    go_wp2_with fail
    go_ret
    refine ⟨_, rfl, ?_, ?_⟩
    · unfold CN
      simp only [HC.out .add rfl, HC.out .mul rfl, HC.out .quo rfl, HC.out .sub rfl]
    · (repeat (first | exact Below.refl _ _ | refine b_drewN ?_ _ | refine b_drew ?_ | refine b_alloc ?_ _ | refine b_then ?_ (by assumption)))
set_option maxHeartbeats 4000000 in
theorem specFactor_any (A : Option Addr) (n k : Nat) (zs : List Int) (a b c d : Nat) (x y u v : Int) (w : World) (hl : zs.length = n) (hn : n ≤ 1048576) (hT : Ii w w.heap.size A zs)
    (hx : zs[a]? = some x) (hy : zs[b]? = some y) (hu : zs[c]? = some u) (hv : zs[d]? = some v) (hf1 : ∀ w, Calls Try.prog 49 #[.int .i16 x, .int .i16 y] w fun e w' => e = .returned (.float .f32 (quoT x y)) ∧ w = w') (hf2 : ∀ w, Calls Try.prog 49 #[.int .i16 u, .int .i16 v] w fun e w' => e = .returned (.float .f32 (quoT u v)) ∧ w = w') {r : Nat} (hm : floatBits .mul .f32 (quoT x y) (quoT u v) = some r) :
    Calls Try.prog 70 #[.slice A n k, .agg #[.int .i16 a, .int .i16 b, .int .i16 c, .int .i16 d]] w (RV (.float .f32 r) w) := by
  have hla : a < n := by rw [← hl]; exact (List.getElem?_eq_some_iff.1 hx).1
  have hlb : b < n := by rw [← hl]; exact (List.getElem?_eq_some_iff.1 hy).1
  have hlc : c < n := by rw [← hl]; exact (List.getElem?_eq_some_iff.1 hu).1
  have hld : d < n := by rw [← hl]; exact (List.getElem?_eq_some_iff.1 hv).1
  obtain ⟨q1, hq1⟩ : ∃ q, quoT x y = q := ⟨_, rfl⟩
  obtain ⟨q2, hq2⟩ : ∃ q, quoT u v = q := ⟨_, rfl⟩
  rw [hq1] at hf1 hm
  rw [hq2] at hf2 hm
  clear hq1 hq2
  have rm := fun w => run_float_arith (P := Try.prog) w .mul 23 .f32 q1 q2 r hm
  clear hm
  have hg1 : ∀ w, Calls Try.prog 49 #[.int .i16 x, .int .i16 y] w fun e w' => e = .returned (.float .f32 q1) ∧ w' = w := fun w => (hf1 w).mono fun _ _ h => ⟨h.1, h.2.symm⟩
  have hg2 : ∀ w, Calls Try.prog 49 #[.int .i16 u, .int .i16 v] w fun e w' => e = .returned (.float .f32 q2) ∧ w' = w := fun w => (hf2 w).mono fun _ _ h => ⟨h.1, h.2.symm⟩
  have Hf1 := Lib.hid (fun (w : World) (n : Nat) => Calls.quiet_of_same (hg1 (w.drewN n)))
  have Hf2 := Lib.hid (fun (w : World) (n : Nat) => Calls.quiet_of_same (hg2 (w.drewN n)))
  clear hg1 hg2
  clear hf1 hf2
  obtain ⟨bl, off, rfl, hbs, hcs⟩ := hT (by omega)
  obtain ⟨c0, c1, c2, c3⟩ := (AtCh.new w ⟨(a : Int), (b : Int), (c : Int), (d : Int)⟩).cells
  dsimp only at c0 c1 c2 c3
  have e0 : ∀ o, (w.alloc o).cell? ⟨bl, off + a, none⟩ = some (.int .i16 x) := fun o => (World.cell?_of_block (a := ⟨bl, off + a, none⟩) ((Below.refl _ w).alloc (Nat.le_refl _) o |>.block bl hbs)).trans (hcs a x hx)
  have e1 : ∀ o, (w.alloc o).cell? ⟨bl, off + b, none⟩ = some (.int .i16 y) := fun o => (World.cell?_of_block (a := ⟨bl, off + b, none⟩) ((Below.refl _ w).alloc (Nat.le_refl _) o |>.block bl hbs)).trans (hcs b y hy)
  have e2 : ∀ o, (w.alloc o).cell? ⟨bl, off + c, none⟩ = some (.int .i16 u) := fun o => (World.cell?_of_block (a := ⟨bl, off + c, none⟩) ((Below.refl _ w).alloc (Nat.le_refl _) o |>.block bl hbs)).trans (hcs c u hu)
  have e3 : ∀ o, (w.alloc o).cell? ⟨bl, off + d, none⟩ = some (.int .i16 v) := fun o => (World.cell?_of_block (a := ⟨bl, off + d, none⟩) ((Below.refl _ w).alloc (Nat.le_refl _) o |>.block bl hbs)).trans (hcs d v hv)
  have z0 : (0 : Int) ≤ (a : Int) := by omega
  have z1 : (a : Int) < (n : Int) := by omega
  have z2 : (0 : Int) ≤ (b : Int) := by omega
  have z3 : (b : Int) < (n : Int) := by omega
  have z4 : (0 : Int) ≤ (c : Int) := by omega
  have z5 : (c : Int) < (n : Int) := by omega
  have z6 : (0 : Int) ≤ (d : Int) := by omega
  have z7 : (d : Int) < (n : Int) := by omega
  clear hcs hx hy hu hv hl hT hla hlb hlc hld
  go_enter Try.func70, Try.ntmps70
  go_wp2_with fail
  go_quiet ((go_at_call 49; first
        | (with_reducible exact Hf1.out _ _)
        | (with_reducible exact Hf2.out _ _)))
  go_wp2
  go_ret
  refine ⟨rfl, ?_⟩
  (repeat (first | exact Below.refl _ _ | refine b_drewN ?_ _ | refine b_drew ?_ | refine b_alloc ?_ _ | refine b_then ?_ (by assumption)))

/-- The factor of four wheels. -/
def facC (zs : List Int) (x : (Nat × Nat) × (Nat × Nat)) : Nat := f2 .mul (cn (quoT (zs.getD x.1.1 0) (zs.getD x.1.2 0))) (cn (quoT (zs.getD x.2.1 0) (zs.getD x.2.2 0)))
theorem facT {a b c d : Int} (a1 : 6 ≤ a) (a2 : a ≤ 200) (b1 : 6 ≤ b) (b2 : b ≤ 200) (c1 : 6 ≤ c) (c2 : c ≤ 200) (d1 : 6 ≤ d) (d2 : d ≤ 200) :
    floatBits .mul .f32 (quoT a b) (quoT c d) = some (f2 .mul (cn (quoT a b)) (cn (quoT c d))) ∧ rg (f2 .mul (cn (quoT a b)) (cn (quoT c d))) < 142 * 8388608 := by
  obtain ⟨r, e, hr⟩ := mulT_some (quoT_rg a1 a2 b1 b2) (quoT_rg c1 c2 d1 d2)
  have h := f2_of e
  rw [cn_fix (floatBits_notNan e)] at h
  rw [← h]
  exact ⟨e, hr⟩
/-- A part by which a factor of four wheels is off: a number, not negative, not very great. -/
def OffK (r : Nat) : Prop := nan32 r = false ∧ rg r ≤ 156 * 8388608 ∧ 0 ≤ rk r
theorem offK_facts {f t : Nat} (hf : rg f < 142 * 8388608) (ht : tgB t = true) : OffK (offC f t) ∧ cn (offC f t) = offC f t := by
  unfold tgB at ht
  simp only [Bool.and_eq_true] at ht
  obtain ⟨t1, t2, t3, t4⟩ := between ht.1 ht.2 (by decide) (by decide)
  have hfn : nan32 f = false := nan_rg (by omega)
  obtain ⟨r, hr, hrb⟩ := sub_le (x := f) (y := t) (A := 142) (by omega) (by omega) (by decide) (by decide)
  have hrl := bits_lt hr
  have hrn : nan32 r = false := nan_rg (by omega)
  have hs : f2 .sub (cn f) (cn t) = r := by rw [cn_fix hfn, cn_fix t1]; unfold f2; rw [hr]; rfl
  obtain ⟨s1, s2, s3, s4⟩ := size_facts hrn hrl hrb
  obtain ⟨q, hq, hqb⟩ := quo_leT (x := sizeC r) (y := t) (A := 144) (B := 117) (C := 154) (by omega) (by omega) (by omega) (by decide) (by decide) (by decide) (by decide) (by decide) (by decide)
  have hqn : nan32 q = false := nan_rg (by omega)
  have e : offC f t = q := by
    unfold offC
    rw [hs, cn_fix t1]
    unfold f2
    rw [hq]
    rfl
  have h9 := quo_nn (x := sizeC r) (y := t) (A := 144) (B := 138) (by omega) (by omega) (by decide) (by decide) (by decide) (by decide) s3 (by omega) hq
  rw [e]
  exact ⟨⟨hqn, by omega, h9⟩, cn_fix hqn⟩
theorem offK_max {r : Nat} (h : OffK r) : oLt r 2139095039 = true := by
  have hm : nan32 2139095039 = false := by decide +kernel
  rw [off_rk h.1 hm, rk_nonneg h.2.2]
  have := h.2.1
  have e : rk 2139095039 = 2139095039 := by decide
  rw [e]
  exact decide_eq_true (by omega)
theorem offK_zero {r z : Nat} (h : OffK r) (h0 : oEq z 0 = true) : oLt r z = false := by
  have h1 : FloatKind.f32.format.order z 0 = some .eq := by unfold oEq at h0; simpa using h0
  obtain ⟨hz, hn⟩ := not_nan_of_order h1
  rw [oEq_rk hz hn] at h0
  have := of_decide_eq_true h0
  rw [off_rk h.1 hz]
  rw [show rk 0 = 0 from rfl] at this
  exact decide_eq_false (by have := h.2.2; omega)
/-- The best so far, and by how much it is off. -/
def bstepG {α : Type} (off : α → Nat) (s : α × Nat) (p : α) : α × Nat := if oLt (off p) s.2 then (p, off p) else s
def bestG {α : Type} (off : α → Nat) (l : List α) (s : α × Nat) : α × Nat := l.foldl (bstepG off) s
theorem bestG_snoc {α : Type} (off : α → Nat) (l : List α) (p : α) (s : α × Nat) : bestG off (l ++ [p]) s = bstepG off (bestG off l s) p := by unfold bestG; rw [List.foldl_append]; rfl
theorem bestG_stay {α : Type} {off : α → Nat} : ∀ {l : List α} {s : α × Nat}, (∀ p ∈ l, oLt (off p) s.2 = false) → bestG off l s = s
  | [], s, _ => rfl
  | p :: l, s, h => by
    show bestG off l (bstepG off s p) = s
    have : bstepG off s p = s := by unfold bstepG; rw [h p (by simp)]; rfl
    rw [this]
    exact bestG_stay fun q hq => h q (List.mem_cons_of_mem _ hq)
theorem bestG_head {α : Type} {off : α → Nat} {p : α} {l : List α} (h : OffK (off p)) (s : α) : bestG off (p :: l) (s, 2139095039) = bestG off l (p, off p) := by
  show bestG off l (bstepG off _ _) = _
  unfold bstepG
  dsimp only
  rw [offK_max h]
  rfl
theorem bestG_zero {α : Type} {off : α → Nat} {all : List α} (h : ∀ p ∈ all, OffK (off p)) {pre : List α} (hp : pre <+: all) {s : α × Nat} (hz : oEq (bestG off pre s).2 0 = true) : bestG off all s = bestG off pre s := by
  obtain ⟨l, hl⟩ := hp
  have e : bestG off (pre ++ l) s = bestG off l (bestG off pre s) := by unfold bestG; rw [List.foldl_append]
  rw [← hl, e]
  exact bestG_stay fun q hq => offK_zero (h q (by rw [← hl]; exact List.mem_append_right _ hq)) hz
/-- By how much a choice is off. -/
def offX (zs : List Int) (t : Nat) (x : (Nat × Nat) × (Nat × Nat)) : Nat := offC (facC zs x) t
/-- Four wheels that are there. -/
def Wn (n : Nat) (x : (Nat × Nat) × (Nat × Nat)) : Prop := x.1.1 < n ∧ x.1.2 < n ∧ x.2.1 < n ∧ x.2.2 < n
theorem te_at {zs : List Int} (hz : okZ zs = true) {i : Nat} (hi : i < zs.length) : zs[i]? = some (zs.getD i 0) ∧ 6 ≤ zs.getD i 0 ∧ zs.getD i 0 ≤ 200 := by
  have h1 : zs[i]? = some zs[i] := List.getElem?_eq_getElem hi
  rw [getD_of h1]
  exact ⟨h1, okZ_teeth hz h1⟩
theorem offX_num {zs : List Int} {t : Nat} (hz : okZ zs = true) (ht : tgB t = true) {x : (Nat × Nat) × (Nat × Nat)} (h : Wn zs.length x) : OffK (offX zs t x) ∧ cn (offX zs t x) = offX zs t x := by
  obtain ⟨_, a1, a2⟩ := te_at hz h.1
  obtain ⟨_, b1, b2⟩ := te_at hz h.2.1
  obtain ⟨_, c1, c2⟩ := te_at hz h.2.2.1
  obtain ⟨_, d1, d2⟩ := te_at hz h.2.2.2
  exact offK_facts (facT a1 a2 b1 b2 c1 c2 d1 d2).2 ht
theorem implFac_any (A : Option Addr) (n k : Nat) (zs : List Int) (x : (Nat × Nat) × (Nat × Nat)) (w : World) (hl : zs.length = n) (hn : n ≤ 1048576) (hz : okZ zs = true) (hx : Wn n x) (hT : Ii w w.heap.size A zs) :
    Calls Try.prog 72 #[.agg #[.int .i16 (x.1.1 : Int), .int .i16 (x.1.2 : Int), .int .i16 (x.2.1 : Int), .int .i16 (x.2.2 : Int)], .slice A n k] w (RV (.float .f32 (facC zs x)) w) := by
  obtain ⟨a0, a1, a2⟩ := te_at hz (by rw [hl]; exact hx.1)
  obtain ⟨b0, b1, b2⟩ := te_at hz (by rw [hl]; exact hx.2.1)
  obtain ⟨c0, c1, c2⟩ := te_at hz (by rw [hl]; exact hx.2.2.1)
  obtain ⟨d0, d1, d2⟩ := te_at hz (by rw [hl]; exact hx.2.2.2)
  refine (implFactor_any A n k zs _ _ _ _ _ _ _ _ w hl hn hT a0 b0 c0 d0 (fun l w => forward_any a1 a2 b1 b2 l w) (fun l w => forward_any c1 c2 d1 d2 l w)).mono ?_
  rintro e w' ⟨r, rfl, hr, hb⟩
  have h := cn_eq_fix hr (nan_rg (by have := (facT a1 a2 b1 b2 c1 c2 d1 d2).2; omega))
  subst h
  exact ⟨rfl, hb⟩
theorem specFac_any (A : Option Addr) (n k : Nat) (zs : List Int) (x : (Nat × Nat) × (Nat × Nat)) (w : World) (hl : zs.length = n) (hn : n ≤ 1048576) (hz : okZ zs = true) (hx : Wn n x) (hT : Ii w w.heap.size A zs) :
    Calls Try.prog 70 #[.slice A n k, .agg #[.int .i16 (x.1.1 : Int), .int .i16 (x.1.2 : Int), .int .i16 (x.2.1 : Int), .int .i16 (x.2.2 : Int)]] w (RV (.float .f32 (facC zs x)) w) := by
  obtain ⟨a0, a1, a2⟩ := te_at hz (by rw [hl]; exact hx.1)
  obtain ⟨b0, b1, b2⟩ := te_at hz (by rw [hl]; exact hx.2.1)
  obtain ⟨c0, c1, c2⟩ := te_at hz (by rw [hl]; exact hx.2.2.1)
  obtain ⟨d0, d1, d2⟩ := te_at hz (by rw [hl]; exact hx.2.2.2)
  exact specFactor_any A n k zs _ _ _ _ _ _ _ _ w hl hn hT a0 b0 c0 d0 (fun w => l01Quotient_any a1 a2 b1 b2 w) (fun w => l01Quotient_any c1 c2 d1 d2 w) (facT a1 a2 b1 b2 c1 c2 d1 d2).1
end Go.Proofs.Ytaodpopghacmaaa
