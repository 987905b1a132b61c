/-
  Wheels of a box: their errors, the quotient of two, the factor of four.
-/
import Derived.Test.YtaodpopghacmaaaBo
import Derived.Test.YtaodpopghacmaaaOff
import Derived.Test.YtaodpopghacmaaaCh
import Derived.Deep.DeepCutAuto
namespace Go.Proofs.Ytaodpopghacmaaa
open Go.RowKit Go.ChangeShapes Go.WideShapes Go.Deep
attribute [local go_sem ↓] Go.wp_at_zero Go.wp_at_succ
set_option linter.unusedVariables false
set_option linter.unusedSimpArgs false
set_option maxRecDepth 100000
def codeX (ok rng : Bool) : Int := if ok then (if rng then 0 else 2) else 1
def inB (n : Nat) (xs : List Int) : Bool := xs.all (fun x => decide (0 ≤ x) && decide (x < (n : Int)))
def dupB (xs : List Int) : Bool := (List.range xs.length).any (fun i => (xs.take i).contains (xs.getD i 0))
def codeW (zs xs : List Int) : Int := if okZ zs then (if inB zs.length xs then (if dupB xs then 4 else 0) else 2) else 1
theorem codeW_bad {zs xs : List Int} {K : Int} (h : codeX (okZ zs) (inB zs.length xs) = K) (hK : K ≠ 0) : codeW zs xs = K := by
  unfold codeW codeX at *
  cases h1 : okZ zs <;> cases h2 : inB zs.length xs <;> simp only [h1, h2, if_true, if_false, Bool.false_eq_true] at h ⊢ <;> first | exact h | exact absurd h.symm hK
theorem codeX_zero {a b : Bool} (h : codeX a b = 0) : a = true ∧ b = true := by
  unfold codeX at h
  cases a <;> cases b <;> simp_all
theorem codeW_dup {zs xs : List Int} (h : codeX (okZ zs) (inB zs.length xs) = 0) {k : Nat} (hk : k < xs.length) (hd : (xs.take k).contains (xs.getD k 0) = true) : codeW zs xs = 4 := by
  obtain ⟨h1, h2⟩ := codeX_zero h
  have h3 : dupB xs = true := by
    unfold dupB
    rw [List.any_eq_true]
    exact ⟨k, List.mem_range.2 hk, hd⟩
  unfold codeW
  rw [h1, h2, h3]
  rfl
theorem codeW_ok {zs xs : List Int} (h : codeX (okZ zs) (inB zs.length xs) = 0) (hd : ∀ i, i < xs.length → (xs.take i).contains (xs.getD i 0) = false) : codeW zs xs = 0 := by
  obtain ⟨h1, h2⟩ := codeX_zero h
  have h3 : dupB xs = false := by
    unfold dupB
    rw [List.any_eq_false]
    intro i hi
    rw [hd i (List.mem_range.1 hi)]
    decide
  unfold codeW
  rw [h1, h2, h3]
  rfl
theorem codeX_cases {o r : Bool} {K : Int} (h : codeX o r = K) : K = 0 ∨ K = 1 ∨ K = 2 := by
  subst h
  unfold codeX
  cases o <;> cases r <;> simp
theorem codeW_cases {zs xs : List Int} {K : Int} (h : codeW zs xs = K) : K = 0 ∨ K = 1 ∨ K = 2 ∨ K = 4 := by
  subst h
  unfold codeW
  cases okZ zs <;> cases inB zs.length xs <;> cases dupB xs <;> simp
theorem codeW_zero {zs xs : List Int} (h : codeW zs xs = 0) : okZ zs = true ∧ inB zs.length xs = true := by
  unfold codeW at h
  cases h1 : okZ zs <;> cases h2 : inB zs.length xs <;> cases h3 : dupB xs <;> simp_all
theorem inB_at {n : Nat} {xs : List Int} (h : inB n xs = true) {x : Int} (hx : x ∈ xs) : 0 ≤ x ∧ x < n := by
  have := List.all_eq_true.1 h x hx
  simpa using this
/-- The slice of address A holds the numbers xs, below block B. -/
def Lo (w : World) (B : Nat) (A : Option Addr) (xs : List Int) : Prop :=
  0 < xs.length → ∃ b off, A = some ⟨b, off, none⟩ ∧ b < B ∧ ∀ i x, xs[i]? = some x → w.cell? ⟨b, off + i, none⟩ = some (.int .i64 x)
theorem Lo.keep {w w' : World} {A : Option Addr} {xs : List Int} (h : Lo w w.heap.size A xs) (hb : Below w.heap.size w w') : Lo w' w'.heap.size A xs := fun h0 => by
  obtain ⟨b, off, e, h1, hc⟩ := h h0
  exact ⟨b, off, e, Nat.lt_of_lt_of_le h1 hb.size, fun i x hx => (World.cell?_of_block (a := ⟨b, off + i, none⟩) (hb.block b h1)).trans (hc i x hx)⟩
theorem lo_two {w : World} {q : Nat} {x y : Int} (h0 : w.cell? ⟨q, 0, none⟩ = some (.int .i64 x)) (h1 : w.cell? ⟨q, 1, none⟩ = some (.int .i64 y)) (hq : q < w.heap.size) : Lo w w.heap.size (some ⟨q, 0, none⟩) [x, y] := fun _ =>
  ⟨q, 0, rfl, hq, fun i f hf => by
    rw [Nat.zero_add]
    match i, hf with
    | 0, hf => simp at hf; subst hf; exact h0
    | 1, hf => simp at hf; subst hf; exact h1⟩
theorem lo_four {w : World} {q : Nat} {x y z u : Int} (h0 : w.cell? ⟨q, 0, none⟩ = some (.int .i64 x)) (h1 : w.cell? ⟨q, 1, none⟩ = some (.int .i64 y)) (h2 : w.cell? ⟨q, 2, none⟩ = some (.int .i64 z)) (h3 : w.cell? ⟨q, 3, none⟩ = some (.int .i64 u)) (hq : q < w.heap.size) : Lo w w.heap.size (some ⟨q, 0, none⟩) [x, y, z, u] := fun _ =>
  ⟨q, 0, rfl, hq, fun i f hf => by
    rw [Nat.zero_add]
    match i, hf with
    | 0, hf => simp at hf; subst hf; exact h0
    | 1, hf => simp at hf; subst hf; exact h1
    | 2, hf => simp at hf; subst hf; exact h2
    | 3, hf => simp at hf; subst hf; exact h3⟩
theorem boxError_any (A : Option Addr) (n c : Nat) (zs : List Int) (b : Bool) (w : World) (hl : zs.length = n) (hn : n ≤ 1048576) (hw : ∀ z ∈ zs, I16 z) {B0 : Nat} (hT : Ii w B0 A zs) :
    Calls Try.prog 50 #[.slice A n c, .bool b] w (RV (.int .i64 (codeX (okZ zs) b)) w) := by
  have HT := Lib.hid hT; clear hT
  have Hl := Lib.hid hl; clear hl
  rcases Bool.eq_false_or_eq_true (okZ zs) with h1 | h1 <;> cases b
  all_goals
    have hc := Lib.hid (implOk_is h1 Hl.out hn hw HT.out (c := c))
    simp only [h1, codeX, if_true, if_false, Bool.false_eq_true]
    clear h1
    go_enter Try.func50, Try.ntmps50
    go_wp2_with (go_at_call 63; refine hc.out.mono ?_; rintro e w1 ⟨rfl, b1⟩)
    go_ret
    refine ⟨rfl, ?_⟩
    (repeat (first | exact Below.refl _ _ | refine b_drewN ?_ _ | refine b_drew ?_ | refine b_alloc ?_ _ | refine b_then ?_ (by assumption)))
theorem boxError_is {A : Option Addr} {n c : Nat} {zs : List Int} {b : Bool} {K : Int} {w : World} (hK : codeX (okZ zs) b = K) (hl : zs.length = n) (hn : n ≤ 1048576) (hw : ∀ z ∈ zs, I16 z) {B0 : Nat} (hT : Ii w B0 A zs) :
    Calls Try.prog 50 #[.slice A n c, .bool b] w (RV (.int .i64 K) w) := by
  subst hK
  exact boxError_any A n c zs b w hl hn hw hT
theorem pairIn_any (A : Option Addr) (n c i j : Nat) (zs : List Int) (x y : Int) (w : World) (hl : zs.length = n) (hx : zs[i]? = some x) (hy : zs[j]? = some y) (hn : n ≤ 1048576) (hT : Ii w w.heap.size A zs) :
    Calls Try.prog 55 #[.slice A n c, .int .i16 i, .int .i16 j] w (RV (.agg #[.int .i16 x, .int .i16 y, .float .f32 0]) w) := by
  have hil : i < n := by rw [← hl]; exact (List.getElem?_eq_some_iff.1 hx).1
  have hjl : j < n := by rw [← hl]; exact (List.getElem?_eq_some_iff.1 hy).1
  obtain ⟨b, off, rfl, hbs, hc⟩ := hT (by omega)
  have c0 : ∀ o, (w.alloc o).cell? ⟨b, off + i, none⟩ = some (.int .i16 x) := fun o => (World.cell?_of_block (a := ⟨b, off + i, none⟩) ((Below.refl _ w).alloc (Nat.le_refl _) o |>.block b hbs)).trans (hc i x hx)
  have c1 : ∀ o, (w.alloc o).cell? ⟨b, off + j, none⟩ = some (.int .i16 y) := fun o => (World.cell?_of_block (a := ⟨b, off + j, none⟩) ((Below.refl _ w).alloc (Nat.le_refl _) o |>.block b hbs)).trans (hc j y hy)
  have y0 : (0 : Int) ≤ (i : Int) := by omega
  have y1 : (i : Int) < (n : Int) := by omega
  have y2 : (0 : Int) ≤ (j : Int) := by omega
  have y3 : (j : Int) < (n : Int) := by omega
  clear hc hx hy hl hT
  go_enter Try.func55, Try.ntmps55
  go_wp2_with fail
  (refine wp_region_still_tail 8 (by kernel_rfl) (by kernel_rfl) ?_; (try change wpStill _ _ (World.drew _) _ _ _); simp only [List.take_succ_cons, List.take_zero, List.drop_succ_cons, List.drop_zero]; (repeat still_step); (try refine wpStill_nil ?_); (try change wpList _ _ _ _ _ (World.drew _)))
  go_wp2
  refine bodyPost_ret (v := .agg #[.int .i16 x, .int .i16 y, .float .f32 0]) (by simp [results, Try.results55, go_sem]) rfl ⟨rfl, ?_⟩
  repeat (first | exact Below.refl _ _ | refine b_drewN ?_ _ | refine b_drew ?_ | refine b_alloc ?_ _ | refine Below.setCell ?_ (by simp) _)
theorem forward_any {x y : Int} (x1 : 6 ≤ x) (x2 : x ≤ 200) (y1 : 6 ≤ y) (y2 : y ≤ 200) (l : Nat) (w : World) : Calls Try.prog 56 #[.agg #[.int .i16 x, .int .i16 y, .float .f32 l]] w (RV (.float .f32 (quoT x y)) w) := by
  have hq := fun w => run_float_arith (P := Try.prog) w .quo 23 .f32 _ _ _ (quoT_some x1 x2 y1 y2)
  clear x1 x2 y1 y2
  go_enter Try.func56, Try.ntmps56
  go_wp2
  go_ret
  refine ⟨rfl, ?_⟩
  (repeat (first | exact Below.refl _ _ | refine b_drewN ?_ _ | refine b_drew ?_ | refine b_alloc ?_ _ | refine b_then ?_ (by assumption)))
theorem l01Quotient_any {a b : Int} (a1 : 6 ≤ a) (a2 : a ≤ 200) (b1 : 6 ≤ b) (b2 : b ≤ 200) (w : World) : Calls Try.prog 49 #[.int .i16 a, .int .i16 b] w fun e w' => e = .returned (.float .f32 (quoT a b)) ∧ w = w' := by
  have hq := fun w => run_float_arith (P := Try.prog) w .quo 23 .f32 _ _ _ (quoT_some a1 a2 b1 b2)
  clear a1 a2 b1 b2
  go_enter Try.func49, Try.ntmps49
  go_wp2
  go_ret
  exact ⟨rfl, rfl⟩
end Go.Proofs.Ytaodpopghacmaaa
