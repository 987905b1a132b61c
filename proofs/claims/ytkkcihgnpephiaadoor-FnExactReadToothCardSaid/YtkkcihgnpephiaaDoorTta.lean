/-
  The text of a tooth: the program's and the model's; the law.
-/
import Derived.Test.YtkkcihgnpephiaaDoorTs0
import Derived.Test.YtkkcihgnpephiaaDoorYb
import Derived.Test.YtkkcihgnpephiaaDoorYh
namespace Go.Proofs.YtkkcihgnpephiaaDoor
open Go.RowKit Go.ChangeShapes Go.WideShapes Go.Deep
attribute [local go_sem ↓] Go.wp_at_zero Go.wp_at_succ
set_option linter.unusedVariables false
set_option linter.unusedSimpArgs false
set_option maxRecDepth 100000
def txT (X : Th) : List (List UInt8) := [hex8 (cn X.h), hex8 (cn X.u), hex8 (cn X.v), Lib.decDigits X.s.toNat]
def textT (X : Th) : List UInt8 := if okT X then Lib.join (txT X) [44] else []
def wfT (X : Th) : Prop := X.h < 4294967296 ∧ X.u < 4294967296 ∧ X.v < 4294967296
theorem okT_nat {X : Th} (h : okT X = true) : ∃ n : Nat, X.s = (n : Int) ∧ n ≤ 1 := by
  unfold okT sidB at h
  simp at h
  exact ⟨X.s.toNat, by omega, by omega⟩
theorem dec_one {n : Nat} (h : n ≤ 1) : (Lib.decDigits n).length = 1 := by rw [dec_small (by omega)]; rfl
theorem txT_join (X : Th) (n : Nat) (hs : X.s = (n : Int)) (hn : n ≤ 1) : (Lib.join (txT X) [44]).length = 28 := by
  unfold txT
  rw [join_two, join_two, join_two, Lib.join_one, hs]
  have := dec_one hn
  simp [hex8_length, this]
theorem rgT_step {X : Th} {x : Int} {q : Nat} {w W w' : World} (h : W.cell? ⟨q, 0, none⟩ = some (.float .f32 X.h) ∧ W.cell? ⟨q, 1, none⟩ = some (.float .f32 X.u) ∧ W.cell? ⟨q, 2, none⟩ = some (.float .f32 X.v) ∧ W.cell? ⟨q, 3, none⟩ = some (.int .i8 x) ∧ Hid (TbAt W) ∧ Hid (Below w.heap.size w W)) (b : Below W.heap.size W w') : w'.cell? ⟨q, 0, none⟩ = some (.float .f32 X.h) ∧ w'.cell? ⟨q, 1, none⟩ = some (.float .f32 X.u) ∧ w'.cell? ⟨q, 2, none⟩ = some (.float .f32 X.v) ∧ w'.cell? ⟨q, 3, none⟩ = some (.int .i8 x) ∧ Hid (TbAt w') ∧ Hid (Below w.heap.size w w') :=
  ⟨cell_on h.1 rfl b, cell_on h.2.1 rfl b, cell_on h.2.2.1 rfl b, cell_on h.2.2.2.1 rfl b, Lib.hid (h.2.2.2.2.1.out.below b), Lib.hid (b_then h.2.2.2.2.2.out b)⟩
theorem rgT_tb {X : Th} {x : Int} {q : Nat} {w W : World} (h : W.cell? ⟨q, 0, none⟩ = some (.float .f32 X.h) ∧ W.cell? ⟨q, 1, none⟩ = some (.float .f32 X.u) ∧ W.cell? ⟨q, 2, none⟩ = some (.float .f32 X.v) ∧ W.cell? ⟨q, 3, none⟩ = some (.int .i8 x) ∧ Hid (TbAt W) ∧ Hid (Below w.heap.size w W)) : TbAt W := h.2.2.2.2.1.out
theorem rgT_b {X : Th} {x : Int} {q : Nat} {w W : World} (h : W.cell? ⟨q, 0, none⟩ = some (.float .f32 X.h) ∧ W.cell? ⟨q, 1, none⟩ = some (.float .f32 X.u) ∧ W.cell? ⟨q, 2, none⟩ = some (.float .f32 X.v) ∧ W.cell? ⟨q, 3, none⟩ = some (.int .i8 x) ∧ Hid (TbAt W) ∧ Hid (Below w.heap.size w W)) : Below w.heap.size w W := h.2.2.2.2.2.out
set_option maxHeartbeats 4000000 in
theorem implToothText_any (X : Th) (hX : wfT X) (w : World) (hT : TbAt w) : Calls Tryd.prog 51 #[.agg #[.float .f32 X.h, .float .f32 X.u, .float .f32 X.v, .int .i8 X.s]] w (RV (.string (bsOf (textT X))) w) := by
  obtain ⟨g1, g2, g3⟩ := hX
  have L1 := Lib.hid (fun W h => numText_any X.h g1 W h)
  have L2 := Lib.hid (fun W h => numText_any X.u g2 W h)
  have L3 := Lib.hid (fun W h => numText_any X.v g3 W h)
  have HT := Lib.hid hT
  have KA := Lib.hid (AtTh.new w X)
  have E0 := Lib.hid (fun h => show textT X = [] by unfold textT; rw [show okT X = false from h]; rfl)
  have E1 := Lib.hid (fun h => show textT X = Lib.join (txT X) [44] by unfold textT; rw [show okT X = true from h]; rfl)
  have LV := Lib.hid (fun W => validTooth_any X W)
  clear hT g1 g2 g3
  obtain ⟨c0, c1, c2, c3⟩ := KA.out.cells
  go_enter Tryd.func51, Tryd.ntmps51
  go_wp2_with fail
  refine (LV.out _).mono ?_
  rintro e w1 ⟨rfl, b1⟩
  have k1 := KA.out.on rfl b1
  clear c0 c1 c2 c3
  obtain ⟨c0, c1, c2, c3⟩ := k1.cells
  have B1 := Lib.hid (b_then (b_alloc (Below.refl _ w) _) b1)
  have T1 := Lib.hid (HT.out.below B1.out)
  clear b1 k1 KA HT LV
  cases hk : okT X
  · have E := Lib.hid (E0.out hk)
    clear hk c0 c1 c2 c3
    go_wp2
    go_ret
    exact ⟨by rw [E.out]; rfl, B1.out⟩
  · have E := Lib.hid (E1.out hk)
    obtain ⟨n, hs, hn⟩ := okT_nat hk
    rw [hs] at c3
    have L4 := Lib.hid (fun W h => itoa_any n (by omega) W h)
    have wn : IntKind.i64.wrap (n : Int) = n := IntWalk.i64_in _ (by omega)
    have J := Lib.hid (show ∀ W : World, Calls Tryd.prog 67 #[.slice (some ⟨W.heap.size, 0, none⟩) 4 4, .string ⟨#[44]⟩] (W.alloc (.cells #[.string (bsOf (hex8 (cn X.h))), .string (bsOf (hex8 (cn X.u))), .string (bsOf (hex8 (cn X.v))), .string (bsOf (Lib.decDigits n))] 9)) (RV (.string (bsOf (Lib.join (txT X) [44]))) (W.alloc (.cells #[.string (bsOf (hex8 (cn X.h))), .string (bsOf (hex8 (cn X.u))), .string (bsOf (hex8 (cn X.v))), .string (bsOf (Lib.decDigits n))] 9))) from fun W => by
      have hj := join_any _ (txT X) 44 _ (StIn.new W (txT X) (by show 4 ≤ maxLen; unfold maxLen; omega)) (by show 4 ≤ 1000; omega) (by rw [txT_join X n hs hn]; omega)
      unfold txT at hj ⊢
      rw [hs] at hj ⊢
      exact hj)
    clear hk hs
    go_wp2
    go_region_held3 (fun w' => w'.cell? ⟨w.heap.size, 0, none⟩ = some (.float .f32 X.h) ∧ w'.cell? ⟨w.heap.size, 1, none⟩ = some (.float .f32 X.u) ∧ w'.cell? ⟨w.heap.size, 2, none⟩ = some (.float .f32 X.v) ∧ w'.cell? ⟨w.heap.size, 3, none⟩ = some (.int .i8 n) ∧ Hid (TbAt w') ∧ Hid (Below w.heap.size w w'))
      (first
        | exact ⟨c0, c1, c2, c3, Lib.hid (T1.out.on rfl (b_drew (Below.refl _ _))), Lib.hid (b_drew B1.out)⟩
        | assumption
        | exact rgT_step (by assumption) (b_alloc (Below.refl _ _) _))
      (first
        | (go_at_call 16; (first | with_reducible refine (L1.out _ ?_).mono ?_ | with_reducible refine (L2.out _ ?_).mono ?_ | with_reducible refine (L3.out _ ?_).mono ?_); (· exact rgT_tb (by assumption)); rintro e w' ⟨rfl, b⟩; have C := rgT_step (by assumption) b; clear b)
        | (go_at_call 84; refine (L4.out _ ?_).mono ?_; (· exact rgT_tb (by assumption)); rintro e w' ⟨rfl, b⟩; have C := rgT_step (by assumption) b; clear b))
    clear L1 L2 L3 L4
    go_wp2_with fail
    refine (J.out _).mono ?_
    rintro e w9 ⟨rfl, b⟩
    have HB : Hid (Below w.heap.size w w9) := Lib.hid (by refine b_then (rgT_b (X := X) (x := n) (q := w.heap.size) ?_) b; assumption)
    clear b
    go_wp2
    go_ret
    exact ⟨by rw [E.out]; rfl, HB.out⟩
theorem rgU_step {X : Th} {x : Int} {q : Nat} {w W w' : World} (h : W.cell? ⟨q, 0, none⟩ = some (.float .f32 X.h) ∧ W.cell? ⟨q, 1, none⟩ = some (.float .f32 X.u) ∧ W.cell? ⟨q, 2, none⟩ = some (.float .f32 X.v) ∧ W.cell? ⟨q, 3, none⟩ = some (.int .i8 x) ∧ Hid (Below w.heap.size w W)) (b : Below W.heap.size W w') : w'.cell? ⟨q, 0, none⟩ = some (.float .f32 X.h) ∧ w'.cell? ⟨q, 1, none⟩ = some (.float .f32 X.u) ∧ w'.cell? ⟨q, 2, none⟩ = some (.float .f32 X.v) ∧ w'.cell? ⟨q, 3, none⟩ = some (.int .i8 x) ∧ Hid (Below w.heap.size w w') :=
  ⟨cell_on h.1 rfl b, cell_on h.2.1 rfl b, cell_on h.2.2.1 rfl b, cell_on h.2.2.2.1 rfl b, Lib.hid (b_then h.2.2.2.2.out b)⟩
set_option maxHeartbeats 4000000 in
theorem l06Text_any (X : Th) (hX : wfT X) (n : Nat) (hs : X.s = (n : Int)) (hn : n ≤ 1) (w : World) : Calls Tryd.prog 87 #[.agg #[.float .f32 X.h, .float .f32 X.u, .float .f32 X.v, .int .i8 X.s]] w (RV (.string (bsOf (Lib.join (txT X) [44]))) w) := by
  obtain ⟨g1, g2, g3⟩ := hX
  have J := Lib.hid (join4 (hex8 (cn X.h)) (hex8 (cn X.u)) (hex8 (cn X.v)) (Lib.decDigits n) 44)
  have L1 := Lib.hid (fun W => l01Hex_any X.h g1 W)
  have L2 := Lib.hid (fun W => l01Hex_any X.u g2 W)
  have L3 := Lib.hid (fun W => l01Hex_any X.v g3 W)
  have L4 := Lib.hid (fun W => decimal_any n (by omega) W)
  have wn : IntKind.i64.wrap (n : Int) = n := IntWalk.i64_in _ (by omega)
  have z1 := h8_size (cn X.h); have z2 := h8_size (cn X.u); have z3 := h8_size (cn X.v)
  have z4 : (bsOf (Lib.decDigits n)).size = 1 := by rw [bsOf_size]; exact dec_one hn
  have ej : bsOf (Lib.join (txT X) [44]) = bsOf (Lib.join [hex8 (cn X.h), hex8 (cn X.u), hex8 (cn X.v), Lib.decDigits n] [44]) := by unfold txT; rw [hs]; rfl
  rw [ej, J.out]
  have KA := Lib.hid (AtTh.new w X)
  obtain ⟨c0, c1, c2, c3⟩ := KA.out.cells
  rw [hs] at c3
  rw [hs]
  rw [hs] at KA
  clear g1 g2 g3 ej J KA
  generalize bsOf (hex8 (cn X.h)) = t1 at *
  generalize bsOf (hex8 (cn X.u)) = t2 at *
  generalize bsOf (hex8 (cn X.v)) = t3 at *
  generalize bsOf (Lib.decDigits n) = t4 at *
  have s0 : (⟨#[44]⟩ : ByteArray).size = 1 := rfl
  have y1 : (t1 ++ ⟨#[44]⟩).size = 9 := by rw [ByteArray.size_append, z1, s0]
  have y2 : (t1 ++ ⟨#[44]⟩ ++ t2).size = 17 := by rw [ByteArray.size_append, y1, z2]
  have y3 : (t1 ++ ⟨#[44]⟩ ++ t2 ++ ⟨#[44]⟩).size = 18 := by rw [ByteArray.size_append, y2, s0]
  have y4 : (t1 ++ ⟨#[44]⟩ ++ t2 ++ ⟨#[44]⟩ ++ t3).size = 26 := by rw [ByteArray.size_append, y3, z3]
  have y5 : (t1 ++ ⟨#[44]⟩ ++ t2 ++ ⟨#[44]⟩ ++ t3 ++ ⟨#[44]⟩).size = 27 := by rw [ByteArray.size_append, y4, s0]
  rw [hs] at c0 c1 c2
  clear hs
  go_enter Tryd.func87, Tryd.ntmps87
  go_wp2_with fail
  go_region_held3 (fun w' => w'.cell? ⟨w.heap.size, 0, none⟩ = some (.float .f32 X.h) ∧ w'.cell? ⟨w.heap.size, 1, none⟩ = some (.float .f32 X.u) ∧ w'.cell? ⟨w.heap.size, 2, none⟩ = some (.float .f32 X.v) ∧ w'.cell? ⟨w.heap.size, 3, none⟩ = some (.int .i8 n) ∧ Hid (Below w.heap.size w w'))
    (first
      | exact ⟨c0, c1, c2, c3, Lib.hid (b_drew (b_alloc (Below.refl _ w) _))⟩
      | assumption)
    (first
      | (go_at_call 55; (first | with_reducible refine (L1.out _).mono ?_ | with_reducible refine (L2.out _).mono ?_ | with_reducible refine (L3.out _).mono ?_); rintro e w' ⟨rfl, b⟩; have C := rgU_step (by assumption) b; clear b)
      | (go_at_call 105; refine (L4.out _).mono ?_; rintro e w' ⟨rfl, b⟩; have C := rgU_step (by assumption) b; clear b))
  have HB := Lib.hid (show Below w.heap.size w _ from C.2.2.2.2.out)
  clear C
  go_wp2
  go_ret
  exact ⟨rfl, HB.out⟩
theorem specToothText_any (X : Th) (hX : wfT X) (wX : (Lit.int .i8 X.s).wf = true) (w : World) : Calls Tryd.prog 49 #[.agg #[.float .f32 X.h, .float .f32 X.u, .float .f32 X.v, .int .i8 X.s]] w (RV (.string (bsOf (textT X))) w) := by
  have LT := Lib.hid (fun n h1 h2 W => l06Text_any X hX n h1 h2 W)
  have E0 := Lib.hid (fun h => show textT X = [] by unfold textT; rw [show okT X = false from h]; rfl)
  have E1 := Lib.hid (fun h => show textT X = Lib.join (txT X) [44] by unfold textT; rw [show okT X = true from h]; rfl)
  have KA := Lib.hid (AtTh.new w X)
  have LO := Lib.hid (fun W => l06Ok_any X wX W)
  obtain ⟨c0, c1, c2, c3⟩ := KA.out.cells
  clear wX
  go_enter Tryd.func49, Tryd.ntmps49
  go_wp2_with fail
  refine (LO.out _).mono ?_
  rintro e w1 ⟨rfl, b1⟩
  have K1 := Lib.hid (KA.out.on rfl b1)
  have B1 := Lib.hid (b_then (b_alloc (Below.refl _ w) _) b1)
  clear c0 c1 c2 c3 b1 KA
  obtain ⟨c0, c1, c2, c3⟩ := K1.out.cells
  cases hk : okT X
  · have E := Lib.hid (E0.out hk)
    clear hk
    go_wp2
    go_ret
    exact ⟨by rw [E.out]; rfl, B1.out⟩
  · have E := Lib.hid (E1.out hk)
    obtain ⟨n, hs, hn⟩ := okT_nat hk
    have L := Lib.hid (fun W => LT.out n hs hn W)
    clear hk hs hn LT
    go_wp2_with fail
    refine (L.out _).mono ?_
    rintro e w2 ⟨rfl, b2⟩
    have B2 := Lib.hid (b_then B1.out b2)
    clear b2
    go_wp2
    go_ret
    exact ⟨by rw [E.out]; rfl, B2.out⟩
theorem walk_FnExactToothText (X : Th) (wX : (Lit.float .f32 X.h).wf = true ∧ (Lit.float .f32 X.u).wf = true ∧ (Lit.float .f32 X.v).wf = true ∧ (Lit.int .i8 X.s).wf = true) (w : World) (hT : TbAt w) :
    Calls Tryd.prog 13 #[.agg #[.float .f32 X.h, .float .f32 X.u, .float .f32 X.v, .int .i8 X.s]] w fun e w' => e = .returned (.bool true) ∧ Below w.heap.size w w' := by
  have hX : wfT X := ⟨f32_lt wX.1, f32_lt wX.2.1, f32_lt wX.2.2.1⟩
  have L1 := Lib.hid (fun W => specToothText_any X hX wX.2.2.2 W)
  have L2 := Lib.hid (fun W h => implToothText_any X hX W h)
  have HT := Lib.hid hT
  have LC := Lib.hid (fun W => toTh_any X W)
  have KA := Lib.hid (AtLTh.new w X)
  clear hT wX hX
  generalize bsOf (textT X) = T at *
  obtain ⟨c0, c1, c2, c3⟩ := KA.out.cells
  go_enter Tryd.func13, Tryd.ntmps13
  go_wp2_with fail
  refine (LC.out _).mono ?_
  rintro e w1 ⟨rfl, b1⟩
  have B1 : Hid (Below w.heap.size w w1) := Lib.hid (b_then (b_alloc (Below.refl _ w) _) b1)
  have K1 := Lib.hid (KA.out.on rfl b1)
  clear b1 c0 c1 c2 c3
  go_wp2_with fail
  refine (L1.out _).mono ?_
  rintro e w2 ⟨rfl, b2⟩
  have B2 := Lib.hid (b_then B1.out b2)
  obtain ⟨c0, c1, c2, c3⟩ := (K1.out.on rfl b2).cells
  clear b2
  go_wp2_with fail
  clear c0 c1 c2 c3
  refine (LC.out _).mono ?_
  rintro e w3 ⟨rfl, b3⟩
  have B3 := Lib.hid (b_then B2.out b3)
  clear b3
  go_wp2_with fail
  refine (L2.out _ (HT.out.below B3.out)).mono ?_
  rintro e w4 ⟨rfl, b4⟩
  have B4 := Lib.hid (b_then B3.out b4)
  clear b4
  go_wp2
  go_ret
  exact ⟨rfl, B4.out⟩
end Go.Proofs.YtkkcihgnpephiaaDoor
