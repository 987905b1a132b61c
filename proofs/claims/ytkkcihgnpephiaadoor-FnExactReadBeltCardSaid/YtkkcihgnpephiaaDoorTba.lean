/-
  The text of a belt: the program's and the model's; the law.
-/
import Derived.Test.YtkkcihgnpephiaaDoorTsa
import Derived.Test.YtkkcihgnpephiaaDoorBv
import Derived.Test.YtkkcihgnpephiaaDoorTxj
namespace Go.Proofs.YtkkcihgnpephiaaDoor
open Go.RowKit Go.ChangeShapes Go.WideShapes Go.Deep
attribute [local go_sem ↓] Go.wp_at_zero Go.wp_at_succ
set_option linter.unusedVariables false
set_option linter.unusedSimpArgs false
set_option maxRecDepth 100000
def At (w : World) (q : Nat) (B : Bl) : Prop := w.heap[q]? = some (.cells #[.float .f32 B.a, .float .f32 B.b, .float .f32 B.ap, .float .f32 B.g, .bool B.x] 44 (0, 0))
theorem At.lt {w : World} {q : Nat} {B : Bl} (h : At w q B) : q < w.heap.size := by
  rcases Nat.lt_or_ge q w.heap.size with hlt | hge
  · exact hlt
  · unfold At at h; rw [Array.getElem?_eq_none hge] at h; cases h
theorem At.below {w w' : World} {q : Nat} {B : Bl} (h : At w q B) (b : Below w.heap.size w w') : At w' q B := (b.block q h.lt).trans h
theorem At.on {w W w' : World} {q : Nat} {B : Bl} (h : At w q B) (hW : W.heap = w.heap) (b : Below W.heap.size W w') : At w' q B := (b.block q (by rw [hW]; exact h.lt)).trans (by rw [hW]; exact h)
theorem At.same {w W : World} {q : Nat} {B : Bl} (h : At w q B) (hW : W.heap = w.heap) : At W q B := by unfold At; rw [hW]; exact h
theorem At.cells {w : World} {q : Nat} {B : Bl} (h : At w q B) : w.cell? ⟨q, 0, none⟩ = some (.float .f32 B.a) ∧ w.cell? ⟨q, 1, none⟩ = some (.float .f32 B.b) ∧ w.cell? ⟨q, 2, none⟩ = some (.float .f32 B.ap) ∧ w.cell? ⟨q, 3, none⟩ = some (.float .f32 B.g) ∧ w.cell? ⟨q, 4, none⟩ = some (.bool B.x) :=
  ⟨cell_of_row _ _ 0 _ _ _ h, cell_of_row _ _ 1 _ _ _ h, cell_of_row _ _ 2 _ _ _ h, cell_of_row _ _ 3 _ _ _ h, cell_of_row _ _ 4 _ _ _ h⟩
theorem At.new (w : World) (B : Bl) : At (w.alloc (.cells #[.float .f32 B.a, .float .f32 B.b, .float .f32 B.ap, .float .f32 B.g, .bool B.x] 44)) w.heap.size B := heap_alloc_new w _
def AtL (w : World) (q : Nat) (B : Bl) : Prop := w.heap[q]? = some (.cells #[.float .f32 B.a, .float .f32 B.b, .float .f32 B.ap, .float .f32 B.g, .bool B.x] 42 (0, 0))
theorem AtL.lt {w : World} {q : Nat} {B : Bl} (h : AtL w q B) : q < w.heap.size := by
  rcases Nat.lt_or_ge q w.heap.size with hlt | hge
  · exact hlt
  · unfold AtL at h; rw [Array.getElem?_eq_none hge] at h; cases h
theorem AtL.on {w W w' : World} {q : Nat} {B : Bl} (h : AtL w q B) (hW : W.heap = w.heap) (b : Below W.heap.size W w') : AtL w' q B := (b.block q (by rw [hW]; exact h.lt)).trans (by rw [hW]; exact h)
theorem AtL.new (w : World) (B : Bl) : AtL (w.alloc (.cells #[.float .f32 B.a, .float .f32 B.b, .float .f32 B.ap, .float .f32 B.g, .bool B.x] 42)) w.heap.size B := heap_alloc_new w _
theorem AtL.cells {w : World} {q : Nat} {B : Bl} (h : AtL w q B) : w.cell? ⟨q, 0, none⟩ = some (.float .f32 B.a) ∧ w.cell? ⟨q, 1, none⟩ = some (.float .f32 B.b) ∧ w.cell? ⟨q, 2, none⟩ = some (.float .f32 B.ap) ∧ w.cell? ⟨q, 3, none⟩ = some (.float .f32 B.g) ∧ w.cell? ⟨q, 4, none⟩ = some (.bool B.x) :=
  ⟨cell_of_row _ _ 0 _ _ _ h, cell_of_row _ _ 1 _ _ _ h, cell_of_row _ _ 2 _ _ _ h, cell_of_row _ _ 3 _ _ _ h, cell_of_row _ _ 4 _ _ _ h⟩
theorem toBelt_any (B : Bl) (w : World) : Calls Tryd.prog 30 #[.agg #[.float .f32 B.a, .float .f32 B.b, .float .f32 B.ap, .float .f32 B.g, .bool B.x]] w (RV (.agg #[.float .f32 B.a, .float .f32 B.b, .float .f32 B.ap, .float .f32 B.g, .bool B.x]) w) := by
  go_enter Tryd.func30, Tryd.ntmps30
  go_wp2
  refine bodyPost_ret (v := .agg #[.float .f32 B.a, .float .f32 B.b, .float .f32 B.ap, .float .f32 B.g, .bool B.x]) (by simp [results, Tryd.results30, go_sem]) rfl ⟨rfl, ?_⟩
  (repeat (first | exact Below.refl _ _ | refine b_drewN ?_ _ | refine b_drew ?_ | refine b_alloc ?_ _ | refine b_then ?_ (by assumption)))
theorem conv_any (x : Nat) : ∃ z : World → Nat, ∃ d : Nat, (∀ w, (convert 22 28 (.float .f32 x)).run Tryd.prog w = .ok (.float .f64 (z w)) (w.drewN d)) ∧ ∀ (w W w2 : World), Calls Tryd.prog 19 #[.float .f64 (z w), .float .f64 (z w2)] W fun e w' => e = .returned (.bool true) ∧ W = w' := by
  cases h : nan32 x
  · refine ⟨fun _ => wide x, 0, fun w => ?_, fun w W w2 => sf_eq _ _ (wide_some h).2⟩
    exact run_wide (P := Tryd.prog) w 22 28 x (by rw [Tryd.underlying22]; rfl) Tryd.underlying28 h
  · refine ⟨fun w => nanTo w x, 1, fun w => ?_, fun w W w2 => sf_nan _ _ _ (nanTo_nan _ _) (nanTo_nan _ _)⟩
    exact run_nan_wide (P := Tryd.prog) w 22 28 x (by rw [Tryd.underlying22]; rfl) Tryd.underlying28 h
set_option maxHeartbeats 2000000 in
theorem eqBelt_same (B : Bl) (w : World) : Calls Tryd.prog 34 #[.agg #[.float .f32 B.a, .float .f32 B.b, .float .f32 B.ap, .float .f32 B.g, .bool B.x], .agg #[.float .f32 B.a, .float .f32 B.b, .float .f32 B.ap, .float .f32 B.g, .bool B.x]] w (RV (.bool true) w) := by
  obtain ⟨za, da, ra, ha⟩ := conv_any B.a
  obtain ⟨zb, db, rb, hb⟩ := conv_any B.b
  obtain ⟨zc, dc, rc, hc⟩ := conv_any B.ap
  obtain ⟨zd, dd, rd, hd⟩ := conv_any B.g
  have Ha := Lib.hid ha; have Hb := Lib.hid hb; have Hc := Lib.hid hc; have Hd := Lib.hid hd
  clear ha hb hc hd
  go_enter Tryd.func34, Tryd.ntmps34
  go_wp2_with fail
  refine (Ha.out _ _ _).mono ?_
  rintro e w1 ⟨rfl, rfl⟩
  go_wp2_with fail
  refine (Hb.out _ _ _).mono ?_
  rintro e w1 ⟨rfl, rfl⟩
  go_wp2_with fail
  refine (Hc.out _ _ _).mono ?_
  rintro e w1 ⟨rfl, rfl⟩
  go_wp2_with fail
  refine (Hd.out _ _ _).mono ?_
  rintro e w1 ⟨rfl, rfl⟩
  go_wp2
  all_goals
    go_ret
    refine ⟨rfl, ?_⟩
    (repeat (first | exact Below.refl _ _ | refine b_drewN ?_ _ | refine b_drew ?_ | refine b_alloc ?_ _ | refine b_then ?_ (by assumption)))
def crW : List UInt8 := [99, 114, 111, 115, 115, 101, 100]
def opW : List UInt8 := [111, 112, 101, 110]
def wordB (x : Bool) : List UInt8 := if x then crW else opW
def txB (B : Bl) : List (List UInt8) := [hex8 (cn B.a), hex8 (cn B.b), hex8 (cn B.ap), hex8 (cn B.g), wordB B.x]
def textB (B : Bl) : List UInt8 := if okB B then Lib.join (txB B) [32] else []
def wfB (B : Bl) : Prop := B.a < 4294967296 ∧ B.b < 4294967296 ∧ B.ap < 4294967296 ∧ B.g < 4294967296
theorem txB_join (B : Bl) : (Lib.join (txB B) [32]).length ≤ 43 := by
  unfold txB
  rw [join_two, join_two, join_two, join_two, Lib.join_one]
  have : (wordB B.x).length ≤ 7 := by cases B.x <;> decide
  simp [hex8_length]
  omega
theorem rgB_step {B : Bl} {q : Nat} {w W w' : World} (h : W.cell? ⟨q, 0, none⟩ = some (.float .f32 B.a) ∧ W.cell? ⟨q, 1, none⟩ = some (.float .f32 B.b) ∧ W.cell? ⟨q, 2, none⟩ = some (.float .f32 B.ap) ∧ W.cell? ⟨q, 3, none⟩ = some (.float .f32 B.g) ∧ Hid (TbAt W) ∧ Hid (Below w.heap.size w W)) (b : Below W.heap.size W w') : w'.cell? ⟨q, 0, none⟩ = some (.float .f32 B.a) ∧ w'.cell? ⟨q, 1, none⟩ = some (.float .f32 B.b) ∧ w'.cell? ⟨q, 2, none⟩ = some (.float .f32 B.ap) ∧ w'.cell? ⟨q, 3, none⟩ = some (.float .f32 B.g) ∧ Hid (TbAt w') ∧ Hid (Below w.heap.size w w') :=
  ⟨cell_on h.1 rfl b, cell_on h.2.1 rfl b, cell_on h.2.2.1 rfl b, cell_on h.2.2.2.1 rfl b, Lib.hid (h.2.2.2.2.1.out.below b), Lib.hid (b_then h.2.2.2.2.2.out b)⟩
theorem rgB_tb {B : Bl} {q : Nat} {w W : World} (h : W.cell? ⟨q, 0, none⟩ = some (.float .f32 B.a) ∧ W.cell? ⟨q, 1, none⟩ = some (.float .f32 B.b) ∧ W.cell? ⟨q, 2, none⟩ = some (.float .f32 B.ap) ∧ W.cell? ⟨q, 3, none⟩ = some (.float .f32 B.g) ∧ Hid (TbAt W) ∧ Hid (Below w.heap.size w W)) : TbAt W := h.2.2.2.2.1.out
theorem rgB_b {B : Bl} {q : Nat} {w W : World} (h : W.cell? ⟨q, 0, none⟩ = some (.float .f32 B.a) ∧ W.cell? ⟨q, 1, none⟩ = some (.float .f32 B.b) ∧ W.cell? ⟨q, 2, none⟩ = some (.float .f32 B.ap) ∧ W.cell? ⟨q, 3, none⟩ = some (.float .f32 B.g) ∧ Hid (TbAt W) ∧ Hid (Below w.heap.size w W)) : Below w.heap.size w W := h.2.2.2.2.2.out
theorem rgD_step {B : Bl} {xb : Bool} {q : Nat} {w W w' : World} (h : W.cell? ⟨q, 0, none⟩ = some (.float .f32 B.a) ∧ W.cell? ⟨q, 1, none⟩ = some (.float .f32 B.b) ∧ W.cell? ⟨q, 2, none⟩ = some (.float .f32 B.ap) ∧ W.cell? ⟨q, 3, none⟩ = some (.float .f32 B.g) ∧ W.cell? ⟨q, 4, none⟩ = some (.bool xb) ∧ Hid (Below w.heap.size w W)) (b : Below W.heap.size W w') : w'.cell? ⟨q, 0, none⟩ = some (.float .f32 B.a) ∧ w'.cell? ⟨q, 1, none⟩ = some (.float .f32 B.b) ∧ w'.cell? ⟨q, 2, none⟩ = some (.float .f32 B.ap) ∧ w'.cell? ⟨q, 3, none⟩ = some (.float .f32 B.g) ∧ w'.cell? ⟨q, 4, none⟩ = some (.bool xb) ∧ Hid (Below w.heap.size w w') :=
  ⟨cell_on h.1 rfl b, cell_on h.2.1 rfl b, cell_on h.2.2.1 rfl b, cell_on h.2.2.2.1 rfl b, cell_on h.2.2.2.2.1 rfl b, Lib.hid (b_then h.2.2.2.2.2.out b)⟩
theorem rgD_b {B : Bl} {xb : Bool} {q : Nat} {w W : World} (h : W.cell? ⟨q, 0, none⟩ = some (.float .f32 B.a) ∧ W.cell? ⟨q, 1, none⟩ = some (.float .f32 B.b) ∧ W.cell? ⟨q, 2, none⟩ = some (.float .f32 B.ap) ∧ W.cell? ⟨q, 3, none⟩ = some (.float .f32 B.g) ∧ W.cell? ⟨q, 4, none⟩ = some (.bool xb) ∧ Hid (Below w.heap.size w W)) : Below w.heap.size w W := h.2.2.2.2.2.out
theorem rgD_x {B : Bl} {xb : Bool} {q : Nat} {w W : World} (h : W.cell? ⟨q, 0, none⟩ = some (.float .f32 B.a) ∧ W.cell? ⟨q, 1, none⟩ = some (.float .f32 B.b) ∧ W.cell? ⟨q, 2, none⟩ = some (.float .f32 B.ap) ∧ W.cell? ⟨q, 3, none⟩ = some (.float .f32 B.g) ∧ W.cell? ⟨q, 4, none⟩ = some (.bool xb) ∧ Hid (Below w.heap.size w W)) : W.cell? ⟨q, 4, none⟩ = some (.bool xb) := h.2.2.2.2.1
set_option maxHeartbeats 4000000 in
theorem implBeltText_any (B : Bl) (hB : wfB B) (w : World) (hT : TbAt w) : Calls Tryd.prog 31 #[.agg #[.float .f32 B.a, .float .f32 B.b, .float .f32 B.ap, .float .f32 B.g, .bool B.x]] w (RV (.string (bsOf (textB B))) w) := by
  obtain ⟨g1, g2, g3, g4⟩ := hB
  have L1 := Lib.hid (fun W h => numText_any B.a g1 W h)
  have L2 := Lib.hid (fun W h => numText_any B.b g2 W h)
  have L3 := Lib.hid (fun W h => numText_any B.ap g3 W h)
  have L4 := Lib.hid (fun W h => numText_any B.g g4 W h)
  have HT := Lib.hid hT
  have KA := Lib.hid (At.new w B)
  have E0 := Lib.hid (fun h => show textB B = [] by unfold textB; rw [show okB B = false from h]; rfl)
  have E1 := Lib.hid (fun h => show textB B = Lib.join (txB B) [32] by unfold textB; rw [show okB B = true from h]; rfl)
  have LV := Lib.hid (fun W => validBelt_any B W)
  clear hT g1 g2 g3 g4
  go_enter Tryd.func31, Tryd.ntmps31
  go_wp2_with fail
  refine (LV.out _).mono ?_
  rintro e w1 ⟨rfl, b1⟩
  have k1 := KA.out.on rfl b1
  obtain ⟨c0, c1, c2, c3, c4⟩ := k1.cells
  have B1 := Lib.hid (b_then (b_alloc (Below.refl _ w) _) b1)
  have T1 := Lib.hid (HT.out.below B1.out)
  clear b1 k1 KA HT LV
  cases hk : okB B
  · have E := Lib.hid (E0.out hk)
    clear hk c0 c1 c2 c3 c4
    go_wp2
    go_ret
    exact ⟨by rw [E.out]; rfl, B1.out⟩
  · have E := Lib.hid (E1.out hk)
    clear hk
    rcases Bool.eq_false_or_eq_true B.x with hx | hx
    · have J := Lib.hid (show ∀ W : World, Calls Tryd.prog 67 #[.slice (some ⟨W.heap.size, 0, none⟩) 5 5, .string ⟨#[32]⟩] (W.alloc (.cells #[.string (bsOf (hex8 (cn B.a))), .string (bsOf (hex8 (cn B.b))), .string (bsOf (hex8 (cn B.ap))), .string (bsOf (hex8 (cn B.g))), .string ⟨#[99, 114, 111, 115, 115, 101, 100]⟩] 9)) (RV (.string (bsOf (Lib.join (txB B) [32]))) (W.alloc (.cells #[.string (bsOf (hex8 (cn B.a))), .string (bsOf (hex8 (cn B.b))), .string (bsOf (hex8 (cn B.ap))), .string (bsOf (hex8 (cn B.g))), .string ⟨#[99, 114, 111, 115, 115, 101, 100]⟩] 9))) from fun W => by
        have hj := join_any _ (txB B) 32 _ (StIn.new W (txB B) (by show 5 ≤ maxLen; unfold maxLen; omega)) (by show 5 ≤ 1000; omega) (Nat.le_trans (txB_join B) (by omega))
        unfold txB wordB at hj ⊢
        rw [hx] at hj ⊢
        exact hj)
      rw [hx] at c4
      clear hx
      go_wp2
      go_region_held3 (fun w' => w'.cell? ⟨w.heap.size, 0, none⟩ = some (.float .f32 B.a) ∧ w'.cell? ⟨w.heap.size, 1, none⟩ = some (.float .f32 B.b) ∧ w'.cell? ⟨w.heap.size, 2, none⟩ = some (.float .f32 B.ap) ∧ w'.cell? ⟨w.heap.size, 3, none⟩ = some (.float .f32 B.g) ∧ Hid (TbAt w') ∧ Hid (Below w.heap.size w w'))
        (first
          | exact ⟨c0, c1, c2, c3, Lib.hid (T1.out.on rfl (b_drew (Below.refl _ _))), Lib.hid (b_drew B1.out)⟩
          | assumption
          | exact rgB_step (by assumption) (b_alloc (Below.refl _ _) _))
        (first
          | (go_at_call 16; (first | with_reducible refine (L1.out _ ?_).mono ?_ | with_reducible refine (L2.out _ ?_).mono ?_ | with_reducible refine (L3.out _ ?_).mono ?_ | with_reducible refine (L4.out _ ?_).mono ?_); (· exact rgB_tb (by assumption)); rintro e w' ⟨rfl, b⟩; have C := rgB_step (by assumption) b; clear b)
          | (go_at_call 67; refine (J.out _).mono ?_; rintro e w' ⟨rfl, b⟩; have C := rgB_step (by assumption) b; clear b))
      go_wp2
      go_ret
      exact ⟨by rw [E.out]; rfl, rgB_b (by assumption)⟩
    · have J := Lib.hid (show ∀ W : World, Calls Tryd.prog 67 #[.slice (some ⟨W.heap.size, 0, none⟩) 5 5, .string ⟨#[32]⟩] (W.alloc (.cells #[.string (bsOf (hex8 (cn B.a))), .string (bsOf (hex8 (cn B.b))), .string (bsOf (hex8 (cn B.ap))), .string (bsOf (hex8 (cn B.g))), .string ⟨#[111, 112, 101, 110]⟩] 9)) (RV (.string (bsOf (Lib.join (txB B) [32]))) (W.alloc (.cells #[.string (bsOf (hex8 (cn B.a))), .string (bsOf (hex8 (cn B.b))), .string (bsOf (hex8 (cn B.ap))), .string (bsOf (hex8 (cn B.g))), .string ⟨#[111, 112, 101, 110]⟩] 9))) from fun W => by
        have hj := join_any _ (txB B) 32 _ (StIn.new W (txB B) (by show 5 ≤ maxLen; unfold maxLen; omega)) (by show 5 ≤ 1000; omega) (Nat.le_trans (txB_join B) (by omega))
        unfold txB wordB at hj ⊢
        rw [hx] at hj ⊢
        exact hj)
      rw [hx] at c4
      clear hx
      go_wp2
      go_region_held3 (fun w' => w'.cell? ⟨w.heap.size, 0, none⟩ = some (.float .f32 B.a) ∧ w'.cell? ⟨w.heap.size, 1, none⟩ = some (.float .f32 B.b) ∧ w'.cell? ⟨w.heap.size, 2, none⟩ = some (.float .f32 B.ap) ∧ w'.cell? ⟨w.heap.size, 3, none⟩ = some (.float .f32 B.g) ∧ Hid (TbAt w') ∧ Hid (Below w.heap.size w w'))
        (first
          | exact ⟨c0, c1, c2, c3, Lib.hid (T1.out.on rfl (b_drew (Below.refl _ _))), Lib.hid (b_drew B1.out)⟩
          | assumption
          | exact rgB_step (by assumption) (b_alloc (Below.refl _ _) _))
        (first
          | (go_at_call 16; (first | with_reducible refine (L1.out _ ?_).mono ?_ | with_reducible refine (L2.out _ ?_).mono ?_ | with_reducible refine (L3.out _ ?_).mono ?_ | with_reducible refine (L4.out _ ?_).mono ?_); (· exact rgB_tb (by assumption)); rintro e w' ⟨rfl, b⟩; have C := rgB_step (by assumption) b; clear b)
          | (go_at_call 67; refine (J.out _).mono ?_; rintro e w' ⟨rfl, b⟩; have C := rgB_step (by assumption) b; clear b))
      go_wp2
      go_ret
      exact ⟨by rw [E.out]; rfl, rgB_b (by assumption)⟩
theorem join5 (a b c d f : List UInt8) (x : UInt8) : bsOf (Lib.join [a, b, c, d, f] [x]) = bsOf a ++ ⟨#[x]⟩ ++ bsOf b ++ ⟨#[x]⟩ ++ bsOf c ++ ⟨#[x]⟩ ++ bsOf d ++ bsOf (x :: f) := by
  have e : (⟨#[x]⟩ : ByteArray) = bsOf [x] := rfl
  rw [e, bsOf_append, bsOf_append, bsOf_append, bsOf_append, bsOf_append, bsOf_append, bsOf_append, join_two, join_two, join_two, join_two, Lib.join_one]
  simp
set_option maxHeartbeats 4000000 in
theorem l02Text_any (B : Bl) (hB : wfB B) (q : Nat) (w : World) (hA : At w q B) : Calls Tryd.prog 75 #[.pointer (some ⟨q, 0, none⟩)] w (RV (.string (bsOf (Lib.join (txB B) [32]))) w) := by
  obtain ⟨g1, g2, g3, g4⟩ := hB
  have J := Lib.hid (join5 (hex8 (cn B.a)) (hex8 (cn B.b)) (hex8 (cn B.ap)) (hex8 (cn B.g)) (wordB B.x) 32)
  have L1 := Lib.hid (fun W => l01Hex_any B.a g1 W)
  have L2 := Lib.hid (fun W => l01Hex_any B.b g2 W)
  have L3 := Lib.hid (fun W => l01Hex_any B.ap g3 W)
  have L4 := Lib.hid (fun W => l01Hex_any B.g g4 W)
  have z1 := h8_size (cn B.a); have z2 := h8_size (cn B.b); have z3 := h8_size (cn B.ap); have z4 := h8_size (cn B.g)
  have ej : bsOf (Lib.join (txB B) [32]) = bsOf (Lib.join [hex8 (cn B.a), hex8 (cn B.b), hex8 (cn B.ap), hex8 (cn B.g), wordB B.x] [32]) := rfl
  rw [ej, J.out]
  clear g1 g2 g3 g4 ej J
  generalize bsOf (hex8 (cn B.a)) = t1 at *
  generalize bsOf (hex8 (cn B.b)) = t2 at *
  generalize bsOf (hex8 (cn B.ap)) = t3 at *
  generalize bsOf (hex8 (cn B.g)) = t4 at *
  have s0 : (⟨#[32]⟩ : ByteArray).size = 1 := rfl
  have s1 : (⟨#[32, 99, 114, 111, 115, 115, 101, 100]⟩ : ByteArray).size = 8 := rfl
  have s2 : (⟨#[32, 111, 112, 101, 110]⟩ : ByteArray).size = 5 := rfl
  have y1 : (t1 ++ ⟨#[32]⟩).size = 9 := by rw [ByteArray.size_append, z1, s0]
  have y2 : (t1 ++ ⟨#[32]⟩ ++ t2).size = 17 := by rw [ByteArray.size_append, y1, z2]
  have y3 : (t1 ++ ⟨#[32]⟩ ++ t2 ++ ⟨#[32]⟩).size = 18 := by rw [ByteArray.size_append, y2, s0]
  have y4 : (t1 ++ ⟨#[32]⟩ ++ t2 ++ ⟨#[32]⟩ ++ t3).size = 26 := by rw [ByteArray.size_append, y3, z3]
  have y5 : (t1 ++ ⟨#[32]⟩ ++ t2 ++ ⟨#[32]⟩ ++ t3 ++ ⟨#[32]⟩).size = 27 := by rw [ByteArray.size_append, y4, s0]
  have y6 : (t1 ++ ⟨#[32]⟩ ++ t2 ++ ⟨#[32]⟩ ++ t3 ++ ⟨#[32]⟩ ++ t4).size = 35 := by rw [ByteArray.size_append, y5, z4]
  have HA := Lib.hid hA
  obtain ⟨c0, c1, c2, c3, c4⟩ := hA.cells
  clear hA
  obtain ⟨xb, hxb⟩ : ∃ xb, B.x = xb := ⟨_, rfl⟩
  rw [hxb] at c4 ⊢
  clear hxb HA
  go_enter Tryd.func75, Tryd.ntmps75
  go_wp2_with fail
  go_region_held3 (fun w' => w'.cell? ⟨q, 0, none⟩ = some (.float .f32 B.a) ∧ w'.cell? ⟨q, 1, none⟩ = some (.float .f32 B.b) ∧ w'.cell? ⟨q, 2, none⟩ = some (.float .f32 B.ap) ∧ w'.cell? ⟨q, 3, none⟩ = some (.float .f32 B.g) ∧ w'.cell? ⟨q, 4, none⟩ = some (.bool xb) ∧ Hid (Below w.heap.size w w'))
    (first
      | exact ⟨c0, c1, c2, c3, c4, Lib.hid (b_drew (Below.refl _ w))⟩
      | assumption)
    (first
      | (go_at_call 55; (first | with_reducible refine (L1.out _).mono ?_ | with_reducible refine (L2.out _).mono ?_ | with_reducible refine (L3.out _).mono ?_ | with_reducible refine (L4.out _).mono ?_); rintro e w' ⟨rfl, b⟩; have C := rgD_step (by assumption) b; clear b))
  have HB := Lib.hid (rgD_b C)
  have x4 := rgD_x C
  clear C c4
  cases xb
  all_goals
    go_wp2
    go_ret
    exact ⟨rfl, HB.out⟩
theorem specBeltText_any (B : Bl) (hB : wfB B) (w : World) : Calls Tryd.prog 29 #[.agg #[.float .f32 B.a, .float .f32 B.b, .float .f32 B.ap, .float .f32 B.g, .bool B.x]] w (RV (.string (bsOf (textB B))) w) := by
  have LT := Lib.hid (fun q W h => l02Text_any B hB q W h)
  have E0 := Lib.hid (fun h => show textB B = [] by unfold textB; rw [show okB B = false from h]; rfl)
  have E1 := Lib.hid (fun h => show textB B = Lib.join (txB B) [32] by unfold textB; rw [show okB B = true from h]; rfl)
  have KA := Lib.hid (At.new w B)
  obtain ⟨c0, c1, c2, c3, c4⟩ := KA.out.cells
  have LO := Lib.hid (l02Ok_any B _ _ c0 c1 c2 c3)
  clear c0 c1 c2 c3 c4
  go_enter Tryd.func29, Tryd.ntmps29
  go_wp2_with fail
  refine LO.out.mono ?_
  rintro e w1 ⟨rfl, n, rfl⟩
  cases hk : okB B
  · have E := Lib.hid (E0.out hk)
    clear hk
    go_wp2
    go_ret
    exact ⟨by rw [E.out]; rfl, b_drewN (b_alloc (Below.refl _ _) _) _⟩
  · have E := Lib.hid (E1.out hk)
    clear hk
    go_wp2_with fail
    refine (LT.out _ ((w.alloc _).drewN n) (KA.out.same rfl)).mono ?_
    rintro e w2 ⟨rfl, b2⟩
    have B2 := Lib.hid (b_then (b_drewN (b_alloc (Below.refl _ _) _) _) b2)
    clear b2
    go_wp2
    go_ret
    exact ⟨by rw [E.out]; rfl, B2.out⟩
theorem walk_FnExactBeltText (B : Bl) (wB : (Lit.float .f32 B.a).wf = true ∧ (Lit.float .f32 B.b).wf = true ∧ (Lit.float .f32 B.ap).wf = true ∧ (Lit.float .f32 B.g).wf = true) (w : World) (hT : TbAt w) :
    Calls Tryd.prog 7 #[.agg #[.float .f32 B.a, .float .f32 B.b, .float .f32 B.ap, .float .f32 B.g, .bool B.x]] w fun e w' => e = .returned (.bool true) ∧ Below w.heap.size w w' := by
  have hB : wfB B := ⟨f32_lt wB.1, f32_lt wB.2.1, f32_lt wB.2.2.1, f32_lt wB.2.2.2⟩
  have L1 := Lib.hid (fun W => specBeltText_any B hB W)
  have L2 := Lib.hid (fun W h => implBeltText_any B hB W h)
  have HT := Lib.hid hT
  have LC := Lib.hid (fun W => toBelt_any B W)
  have KA := Lib.hid (AtL.new w B)
  clear hT wB hB
  generalize bsOf (textB B) = T at *
  go_enter Tryd.func7, Tryd.ntmps7
  go_wp2_with fail
  refine (LC.out _).mono ?_
  rintro e w1 ⟨rfl, b1⟩
  have B1 : Hid (Below w.heap.size w w1) := Lib.hid (b_then (b_alloc (Below.refl _ w) _) b1)
  have K1 := Lib.hid (KA.out.on rfl b1)
  clear b1
  go_wp2_with fail
  refine (L1.out _).mono ?_
  rintro e w2 ⟨rfl, b2⟩
  have B2 := Lib.hid (b_then B1.out b2)
  obtain ⟨c0, c1, c2, c3, c4⟩ := (K1.out.on rfl b2).cells
  clear b2
  go_wp2_with fail
  clear c0 c1 c2 c3 c4
  refine (LC.out _).mono ?_
  rintro e w3 ⟨rfl, b3⟩
  have B3 := Lib.hid (b_then B2.out b3)
  clear b3
  go_wp2_with fail
  refine (L2.out _ (HT.out.below B3.out)).mono ?_
  rintro e w4 ⟨rfl, b4⟩
  have B4 := Lib.hid (b_then B3.out b4)
  clear b4
  go_wp2
  go_ret
  exact ⟨rfl, B4.out⟩
end Go.Proofs.YtkkcihgnpephiaaDoor
