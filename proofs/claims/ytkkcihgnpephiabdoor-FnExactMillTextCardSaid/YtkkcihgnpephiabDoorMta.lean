/-
  The text of a mill: the program's and the model's; the law.
-/
import Derived.Test.YtkkcihgnpephiabDoorWta
import Derived.Test.YtkkcihgnpephiabDoorWv
namespace Go.Proofs.YtkkcihgnpephiabDoor
open Go.RowKit Go.ChangeShapes Go.WideShapes Go.Deep
attribute [local go_sem ↓] Go.wp_at_zero Go.wp_at_succ
set_option linter.unusedVariables false
set_option linter.unusedSimpArgs false
set_option maxRecDepth 100000
def txM (X : Ml) : List (List UInt8) := [Lib.decDigits X.b.toNat, hex8 (cn X.h), hex8 (cn X.r)]
def textM (X : Ml) : List UInt8 := if okM X then Lib.join (txM X) [58] else []
def wfM (X : Ml) : Prop := X.h < 4294967296 ∧ X.r < 4294967296
theorem okM_nat {X : Ml} (h : okM X = true) : ∃ n : Nat, X.b = (n : Int) ∧ n ≤ 48 := by
  unfold okM inB at h
  simp at h
  exact ⟨X.b.toNat, by omega, by omega⟩
theorem dec48 {n : Nat} (h : n ≤ 48) : (Lib.decDigits n).length ≤ 2 := dec_len 1 n (by show n < 10 ^ 2; omega)
theorem txM_join (X : Ml) (n : Nat) (hs : X.b = (n : Int)) (hn : n ≤ 48) : (Lib.join (txM X) [58]).length ≤ 20 := by
  unfold txM
  rw [join_two, join_two, Lib.join_one, hs]
  have := dec48 hn
  simp [hex8_length]
  omega
theorem rgM_step {X : Ml} {x : Int} {q : Nat} {w W w' : World} (h : W.cell? ⟨q, 0, none⟩ = some (.int .i16 x) ∧ W.cell? ⟨q, 1, none⟩ = some (.float .f32 X.h) ∧ W.cell? ⟨q, 2, none⟩ = some (.float .f32 X.r) ∧ Hid (TbAt W) ∧ Hid (Below w.heap.size w W)) (b : Below W.heap.size W w') : w'.cell? ⟨q, 0, none⟩ = some (.int .i16 x) ∧ w'.cell? ⟨q, 1, none⟩ = some (.float .f32 X.h) ∧ w'.cell? ⟨q, 2, none⟩ = some (.float .f32 X.r) ∧ Hid (TbAt w') ∧ Hid (Below w.heap.size w w') :=
  ⟨cell_on h.1 rfl b, cell_on h.2.1 rfl b, cell_on h.2.2.1 rfl b, Lib.hid (h.2.2.2.1.out.below b), Lib.hid (b_then h.2.2.2.2.out b)⟩
theorem rgM_tb {X : Ml} {x : Int} {q : Nat} {w W : World} (h : W.cell? ⟨q, 0, none⟩ = some (.int .i16 x) ∧ W.cell? ⟨q, 1, none⟩ = some (.float .f32 X.h) ∧ W.cell? ⟨q, 2, none⟩ = some (.float .f32 X.r) ∧ Hid (TbAt W) ∧ Hid (Below w.heap.size w W)) : TbAt W := h.2.2.2.1.out
theorem rgM_b {X : Ml} {x : Int} {q : Nat} {w W : World} (h : W.cell? ⟨q, 0, none⟩ = some (.int .i16 x) ∧ W.cell? ⟨q, 1, none⟩ = some (.float .f32 X.h) ∧ W.cell? ⟨q, 2, none⟩ = some (.float .f32 X.r) ∧ Hid (TbAt W) ∧ Hid (Below w.heap.size w W)) : Below w.heap.size w W := h.2.2.2.2.out
set_option maxHeartbeats 4000000 in
theorem implMillText_any (X : Ml) (hX : wfM X) (w : World) (hT : TbAt w) : Calls Tryd.prog 6 #[.agg #[.int .i16 X.b, .float .f32 X.h, .float .f32 X.r]] w (RV (.string (bsOf (textM X))) w) := by
  obtain ⟨g1, g2⟩ := hX
  have L1 := Lib.hid (fun W h => numText_any X.h g1 W h)
  have L2 := Lib.hid (fun W h => numText_any X.r g2 W h)
  have HT := Lib.hid hT
  have KA := Lib.hid (AtMl.new w X)
  have E0 := Lib.hid (fun h => show textM X = [] by unfold textM; rw [show okM X = false from h]; rfl)
  have E1 := Lib.hid (fun h => show textM X = Lib.join (txM X) [58] by unfold textM; rw [show okM X = true from h]; rfl)
  have LV := Lib.hid (fun W => validMill_any X W)
  clear hT g1 g2
  obtain ⟨c0, c1, c2⟩ := KA.out.cells
  go_enter Tryd.func6, Tryd.ntmps6
  go_wp2_with fail
  refine (LV.out _).mono ?_
  rintro e w1 ⟨rfl, b1⟩
  have k1 := KA.out.on rfl b1
  clear c0 c1 c2
  obtain ⟨c0, c1, c2⟩ := k1.cells
  have B1 := Lib.hid (b_then (b_alloc (Below.refl _ w) _) b1)
  have T1 := Lib.hid (HT.out.below B1.out)
  clear b1 k1 KA HT LV
  cases hk : okM X
  · have E := Lib.hid (E0.out hk)
    clear hk c0 c1 c2
    go_wp2
    go_ret
    exact ⟨by rw [E.out]; rfl, B1.out⟩
  · have E := Lib.hid (E1.out hk)
    obtain ⟨n, hs, hn⟩ := okM_nat hk
    rw [hs] at c0
    have L3 := Lib.hid (fun W h => itoa_any n (by omega) W h)
    have wn : IntKind.i64.wrap (n : Int) = n := IntWalk.i64_in _ (by omega)
    have J := Lib.hid (show ∀ W : World, Calls Tryd.prog 10 #[.slice (some ⟨W.heap.size, 0, none⟩) 3 3, .string ⟨#[58]⟩] (W.alloc (.cells #[.string (bsOf (Lib.decDigits n)), .string (bsOf (hex8 (cn X.h))), .string (bsOf (hex8 (cn X.r)))] 9)) (RV (.string (bsOf (Lib.join (txM X) [58]))) (W.alloc (.cells #[.string (bsOf (Lib.decDigits n)), .string (bsOf (hex8 (cn X.h))), .string (bsOf (hex8 (cn X.r)))] 9))) from fun W => by
      have hj := join_any _ (txM X) 58 _ (StIn.new W (txM X) (by show 3 ≤ maxLen; unfold maxLen; omega)) (by show 3 ≤ 1000; omega) (Nat.le_trans (txM_join X n hs hn) (by omega))
      unfold txM at hj ⊢
      rw [hs] at hj ⊢
      exact hj)
    clear hk hs
    go_wp2
    go_region_held3 (fun w' => w'.cell? ⟨w.heap.size, 0, none⟩ = some (.int .i16 n) ∧ w'.cell? ⟨w.heap.size, 1, none⟩ = some (.float .f32 X.h) ∧ w'.cell? ⟨w.heap.size, 2, none⟩ = some (.float .f32 X.r) ∧ Hid (TbAt w') ∧ Hid (Below w.heap.size w w'))
      (first
        | exact ⟨c0, c1, c2, Lib.hid (T1.out.on rfl (b_drew (Below.refl _ _))), Lib.hid (b_drew B1.out)⟩
        | assumption
        | exact rgM_step (by assumption) (b_alloc (Below.refl _ _) _))
      (first
        | (go_at_call 12; (first | with_reducible refine (L1.out _ ?_).mono ?_ | with_reducible refine (L2.out _ ?_).mono ?_); (· exact rgM_tb (by assumption)); rintro e w' ⟨rfl, b⟩; have C := rgM_step (by assumption) b; clear b)
        | (go_at_call 11; refine (L3.out _ ?_).mono ?_; (· exact rgM_tb (by assumption)); rintro e w' ⟨rfl, b⟩; have C := rgM_step (by assumption) b; clear b)
        | (go_at_call 10; refine (J.out _).mono ?_; rintro e w' ⟨rfl, b⟩; have C := rgM_step (by assumption) b; clear b))
    go_wp2
    go_ret
    exact ⟨by rw [E.out]; rfl, rgM_b (by assumption)⟩
theorem join3 (a b c : List UInt8) (x : UInt8) : bsOf (Lib.join [a, b, c] [x]) = bsOf a ++ ⟨#[x]⟩ ++ bsOf b ++ ⟨#[x]⟩ ++ bsOf c := by
  have e : (⟨#[x]⟩ : ByteArray) = bsOf [x] := rfl
  rw [e, bsOf_append, bsOf_append, bsOf_append, bsOf_append, join_two, join_two, Lib.join_one]
  simp
theorem rgN_step {X : Ml} {x : Int} {q : Nat} {w W w' : World} (h : W.cell? ⟨q, 0, none⟩ = some (.int .i16 x) ∧ W.cell? ⟨q, 1, none⟩ = some (.float .f32 X.h) ∧ W.cell? ⟨q, 2, none⟩ = some (.float .f32 X.r) ∧ Hid (Below w.heap.size w W)) (b : Below W.heap.size W w') : w'.cell? ⟨q, 0, none⟩ = some (.int .i16 x) ∧ w'.cell? ⟨q, 1, none⟩ = some (.float .f32 X.h) ∧ w'.cell? ⟨q, 2, none⟩ = some (.float .f32 X.r) ∧ Hid (Below w.heap.size w w') :=
  ⟨cell_on h.1 rfl b, cell_on h.2.1 rfl b, cell_on h.2.2.1 rfl b, Lib.hid (b_then h.2.2.2.out b)⟩
set_option maxHeartbeats 4000000 in
theorem l03Text_any (X : Ml) (hX : wfM X) (n : Nat) (hs : X.b = (n : Int)) (hn : n ≤ 48) (w : World) : Calls Tryd.prog 8 #[.agg #[.int .i16 X.b, .float .f32 X.h, .float .f32 X.r]] w (RV (.string (bsOf (Lib.join (txM X) [58]))) w) := by
  obtain ⟨g1, g2⟩ := hX
  have J := Lib.hid (join3 (Lib.decDigits n) (hex8 (cn X.h)) (hex8 (cn X.r)) 58)
  have L1 := Lib.hid (fun W => l01Hex_any X.h g1 W)
  have L2 := Lib.hid (fun W => l01Hex_any X.r g2 W)
  have L3 := Lib.hid (fun W => decimal_any n (by omega) W)
  have wn : IntKind.i64.wrap (n : Int) = n := IntWalk.i64_in _ (by omega)
  have z1 : (bsOf (Lib.decDigits n)).size ≤ 2 := by rw [bsOf_size]; exact dec48 hn
  have z2 := h8_size (cn X.h); have z3 := h8_size (cn X.r)
  have ej : bsOf (Lib.join (txM X) [58]) = bsOf (Lib.join [Lib.decDigits n, hex8 (cn X.h), hex8 (cn X.r)] [58]) := by unfold txM; rw [hs]; rfl
  rw [ej, J.out]
  have KA := Lib.hid (AtMl.new w X)
  obtain ⟨c0, c1, c2⟩ := KA.out.cells
  rw [hs] at c0 c1 c2
  rw [hs]
  clear g1 g2 ej J KA hs
  generalize bsOf (Lib.decDigits n) = t1 at *
  generalize bsOf (hex8 (cn X.h)) = t2 at *
  generalize bsOf (hex8 (cn X.r)) = t3 at *
  have s0 : (⟨#[58]⟩ : ByteArray).size = 1 := rfl
  have y1 : ¬ 9223372036854775807 < t1.size + 1 := by omega
  have y2 : ¬ 9223372036854775807 < t1.size + 1 + 8 := by omega
  have y3 : ¬ 9223372036854775807 < t1.size + 1 + 8 + 1 := by omega
  have y4 : ¬ 9223372036854775807 < t1.size + 1 + 8 + 1 + 8 := by omega
  clear z1
  go_enter Tryd.func8, Tryd.ntmps8
  go_wp2_with fail
  go_region_held3 (fun w' => w'.cell? ⟨w.heap.size, 0, none⟩ = some (.int .i16 n) ∧ w'.cell? ⟨w.heap.size, 1, none⟩ = some (.float .f32 X.h) ∧ w'.cell? ⟨w.heap.size, 2, none⟩ = some (.float .f32 X.r) ∧ Hid (Below w.heap.size w w'))
    (first
      | exact ⟨c0, c1, c2, Lib.hid (b_drew (b_alloc (Below.refl _ w) _))⟩
      | assumption)
    (first
      | (go_at_call 16; (first | with_reducible refine (L1.out _).mono ?_ | with_reducible refine (L2.out _).mono ?_); rintro e w' ⟨rfl, b⟩; have C := rgN_step (by assumption) b; clear b)
      | (go_at_call 15; refine (L3.out _).mono ?_; rintro e w' ⟨rfl, b⟩; have C := rgN_step (by assumption) b; clear b))
  have HB := Lib.hid (show Below w.heap.size w _ from C.2.2.2.out)
  clear C
  go_wp2
  go_ret
  exact ⟨rfl, HB.out⟩
theorem specMillText_any (X : Ml) (hX : wfM X) (wX : (Lit.int .i16 X.b).wf = true) (w : World) : Calls Tryd.prog 4 #[.agg #[.int .i16 X.b, .float .f32 X.h, .float .f32 X.r]] w (RV (.string (bsOf (textM X))) w) := by
  have LT := Lib.hid (fun n h1 h2 W => l03Text_any X hX n h1 h2 W)
  have E0 := Lib.hid (fun h => show textM X = [] by unfold textM; rw [show okM X = false from h]; rfl)
  have E1 := Lib.hid (fun h => show textM X = Lib.join (txM X) [58] by unfold textM; rw [show okM X = true from h]; rfl)
  have KA := Lib.hid (AtMl.new w X)
  have LO := Lib.hid (fun W => l03Mill_any X wX W)
  obtain ⟨c0, c1, c2⟩ := KA.out.cells
  clear wX
  go_enter Tryd.func4, Tryd.ntmps4
  go_wp2_with fail
  refine (LO.out _).mono ?_
  rintro e w1 ⟨rfl, b1⟩
  have K1 := Lib.hid (KA.out.on rfl b1)
  have B1 := Lib.hid (b_then (b_alloc (Below.refl _ w) _) b1)
  clear c0 c1 c2 b1 KA
  obtain ⟨c0, c1, c2⟩ := K1.out.cells
  cases hk : okM X
  · have E := Lib.hid (E0.out hk)
    clear hk
    go_wp2
    go_ret
    exact ⟨by rw [E.out]; rfl, B1.out⟩
  · have E := Lib.hid (E1.out hk)
    obtain ⟨n, hs, hn⟩ := okM_nat hk
    have L := Lib.hid (fun W => LT.out n hs hn W)
    clear hk hs hn LT
    go_wp2_with fail
    refine (L.out _).mono ?_
    rintro e w2 ⟨rfl, b2⟩
    have B2 := Lib.hid (b_then B1.out b2)
    clear b2
    go_wp2
    go_ret
    exact ⟨by rw [E.out]; rfl, B2.out⟩
theorem walk_FnExactMillText (X : Ml) (wX : (Lit.int .i16 X.b).wf = true ∧ (Lit.float .f32 X.h).wf = true ∧ (Lit.float .f32 X.r).wf = true) (w : World) (hT : TbAt w) :
    Calls Tryd.prog 3 #[.agg #[.int .i16 X.b, .float .f32 X.h, .float .f32 X.r]] w fun e w' => e = .returned (.bool true) ∧ Below w.heap.size w w' := by
  have hX : wfM X := ⟨f32_lt wX.2.1, f32_lt wX.2.2⟩
  have L1 := Lib.hid (fun W => specMillText_any X hX wX.1 W)
  have L2 := Lib.hid (fun W h => implMillText_any X hX W h)
  have HT := Lib.hid hT
  have LC := Lib.hid (fun W => toMl_any X W)
  have KA := Lib.hid (AtLMl.new w X)
  clear hT wX hX
  generalize bsOf (textM X) = T at *
  obtain ⟨c0, c1, c2⟩ := KA.out.cells
  go_enter Tryd.func3, Tryd.ntmps3
  go_wp2_with fail
  refine (LC.out _).mono ?_
  rintro e w1 ⟨rfl, b1⟩
  have B1 : Hid (Below w.heap.size w w1) := Lib.hid (b_then (b_alloc (Below.refl _ w) _) b1)
  have K1 := Lib.hid (KA.out.on rfl b1)
  clear b1 c0 c1 c2
  go_wp2_with fail
  refine (L1.out _).mono ?_
  rintro e w2 ⟨rfl, b2⟩
  have B2 := Lib.hid (b_then B1.out b2)
  obtain ⟨c0, c1, c2⟩ := (K1.out.on rfl b2).cells
  clear b2
  go_wp2_with fail
  clear c0 c1 c2
  refine (LC.out _).mono ?_
  rintro e w3 ⟨rfl, b3⟩
  have B3 := Lib.hid (b_then B2.out b3)
  clear b3
  go_wp2_with fail
  refine (L2.out _ (HT.out.below B3.out)).mono ?_
  rintro e w4 ⟨rfl, b4⟩
  have B4 := Lib.hid (b_then B3.out b4)
  clear b4
  go_wp2
  go_ret
  exact ⟨rfl, B4.out⟩
end Go.Proofs.YtkkcihgnpephiabDoor
