/-
  The text of a mill: the program's (variant for the seat of ReadMill).
-/
import Derived.Test.YtdbcblfinflieaaGreatDoorTs0
import Derived.Test.YtdbcblfinflieaaGreatDoorWv
namespace Go.Proofs.YtdbcblfinflieaaGreatDoor
open Go.RowKit Go.ChangeShapes Go.WideShapes Go.Deep
attribute [local go_sem ↓] Go.wp_at_zero Go.wp_at_succ
set_option linter.unusedVariables false
set_option linter.unusedSimpArgs false
set_option maxRecDepth 100000
def txM (X : Ml) : List (List UInt8) := [Lib.decDigits X.b.toNat, hex8 (cn X.h), hex8 (cn X.r)]
def textM (X : Ml) : List UInt8 := if okM X then Lib.join (txM X) [58] else []
def wfM (X : Ml) : Prop := X.h < 4294967296 ∧ X.r < 4294967296
theorem okM_nat {X : Ml} (h : okM X = true) : ∃ n : Nat, X.b = (n : Int) ∧ n ≤ 48 := by
  unfold okM inB at h
  simp at h
  exact ⟨X.b.toNat, by omega, by omega⟩
theorem dec48 {n : Nat} (h : n ≤ 48) : (Lib.decDigits n).length ≤ 2 := dec_len 1 n (by show n < 10 ^ 2; omega)
theorem txM_join (X : Ml) (n : Nat) (hs : X.b = (n : Int)) (hn : n ≤ 48) : (Lib.join (txM X) [58]).length ≤ 20 := by
  unfold txM
  rw [join_two, join_two, Lib.join_one, hs]
  have := dec48 hn
  simp [hex8_length]
  omega
theorem rgM_step {X : Ml} {x : Int} {q : Nat} {w W w' : World} (h : W.cell? ⟨q, 0, none⟩ = some (.int .i16 x) ∧ W.cell? ⟨q, 1, none⟩ = some (.float .f32 X.h) ∧ W.cell? ⟨q, 2, none⟩ = some (.float .f32 X.r) ∧ Hid (TbAt W) ∧ Hid (Below w.heap.size w W)) (b : Below W.heap.size W w') : w'.cell? ⟨q, 0, none⟩ = some (.int .i16 x) ∧ w'.cell? ⟨q, 1, none⟩ = some (.float .f32 X.h) ∧ w'.cell? ⟨q, 2, none⟩ = some (.float .f32 X.r) ∧ Hid (TbAt w') ∧ Hid (Below w.heap.size w w') :=
  ⟨cell_on h.1 rfl b, cell_on h.2.1 rfl b, cell_on h.2.2.1 rfl b, Lib.hid (h.2.2.2.1.out.below b), Lib.hid (b_then h.2.2.2.2.out b)⟩
theorem rgM_tb {X : Ml} {x : Int} {q : Nat} {w W : World} (h : W.cell? ⟨q, 0, none⟩ = some (.int .i16 x) ∧ W.cell? ⟨q, 1, none⟩ = some (.float .f32 X.h) ∧ W.cell? ⟨q, 2, none⟩ = some (.float .f32 X.r) ∧ Hid (TbAt W) ∧ Hid (Below w.heap.size w W)) : TbAt W := h.2.2.2.1.out
theorem rgM_b {X : Ml} {x : Int} {q : Nat} {w W : World} (h : W.cell? ⟨q, 0, none⟩ = some (.int .i16 x) ∧ W.cell? ⟨q, 1, none⟩ = some (.float .f32 X.h) ∧ W.cell? ⟨q, 2, none⟩ = some (.float .f32 X.r) ∧ Hid (TbAt W) ∧ Hid (Below w.heap.size w W)) : Below w.heap.size w W := h.2.2.2.2.out
set_option maxHeartbeats 4000000 in
theorem implMillText_any (X : Ml) (hX : wfM X) (w : World) (hT : TbAt w) : Calls Tryz.prog 21 #[.agg #[.int .i16 X.b, .float .f32 X.h, .float .f32 X.r]] w (RV (.string (bsOf (textM X))) w) := by
  obtain ⟨g1, g2⟩ := hX
  have L1 := Lib.hid (fun W h => numText_any X.h g1 W h)
  have L2 := Lib.hid (fun W h => numText_any X.r g2 W h)
  have HT := Lib.hid hT
  have KA := Lib.hid (AtMl.new w X)
  have E0 := Lib.hid (fun h => show textM X = [] by unfold textM; rw [show okM X = false from h]; rfl)
  have E1 := Lib.hid (fun h => show textM X = Lib.join (txM X) [58] by unfold textM; rw [show okM X = true from h]; rfl)
  have LV := Lib.hid (fun W => validMill_any X W)
  clear hT g1 g2
  obtain ⟨c0, c1, c2⟩ := KA.out.cells
  go_enter Tryz.func21, Tryz.ntmps21
  go_wp2_with fail
  refine (LV.out _).mono ?_
  rintro e w1 ⟨rfl, b1⟩
  have k1 := KA.out.on rfl b1
  clear c0 c1 c2
  obtain ⟨c0, c1, c2⟩ := k1.cells
  have B1 := Lib.hid (b_then (b_alloc (Below.refl _ w) _) b1)
  have T1 := Lib.hid (HT.out.below B1.out)
  clear b1 k1 KA HT LV
  cases hk : okM X
  · have E := Lib.hid (E0.out hk)
    clear hk c0 c1 c2
    go_wp2
    go_ret
    exact ⟨by rw [E.out]; rfl, B1.out⟩
  · have E := Lib.hid (E1.out hk)
    obtain ⟨n, hs, hn⟩ := okM_nat hk
    rw [hs] at c0
    have L3 := Lib.hid (fun W h => itoa_any n (by omega) W h)
    have wn : IntKind.i64.wrap (n : Int) = n := IntWalk.i64_in _ (by omega)
    have J := Lib.hid (show ∀ W : World, Calls Tryz.prog 30 #[.slice (some ⟨W.heap.size, 0, none⟩) 3 3, .string ⟨#[58]⟩] (W.alloc (.cells #[.string (bsOf (Lib.decDigits n)), .string (bsOf (hex8 (cn X.h))), .string (bsOf (hex8 (cn X.r)))] 9)) (RV (.string (bsOf (Lib.join (txM X) [58]))) (W.alloc (.cells #[.string (bsOf (Lib.decDigits n)), .string (bsOf (hex8 (cn X.h))), .string (bsOf (hex8 (cn X.r)))] 9))) from fun W => by
      have hj := join_any _ (txM X) 58 _ (StIn.new W (txM X) (by show 3 ≤ maxLen; unfold maxLen; omega)) (by show 3 ≤ 1000; omega) (Nat.le_trans (txM_join X n hs hn) (by omega))
      unfold txM at hj ⊢
      rw [hs] at hj ⊢
      exact hj)
    clear hk hs
    go_wp2
    go_region_held3 (fun w' => w'.cell? ⟨w.heap.size, 0, none⟩ = some (.int .i16 n) ∧ w'.cell? ⟨w.heap.size, 1, none⟩ = some (.float .f32 X.h) ∧ w'.cell? ⟨w.heap.size, 2, none⟩ = some (.float .f32 X.r) ∧ Hid (TbAt w') ∧ Hid (Below w.heap.size w w'))
      (first
        | exact ⟨c0, c1, c2, Lib.hid (T1.out.on rfl (b_drew (Below.refl _ _))), Lib.hid (b_drew B1.out)⟩
        | assumption
        | exact rgM_step (by assumption) (b_alloc (Below.refl _ _) _))
      (first
        | (go_at_call 28; (first | with_reducible refine (L1.out _ ?_).mono ?_ | with_reducible refine (L2.out _ ?_).mono ?_); (· exact rgM_tb (by assumption)); rintro e w' ⟨rfl, b⟩; have C := rgM_step (by assumption) b; clear b)
        | (go_at_call 31; refine (L3.out _ ?_).mono ?_; (· exact rgM_tb (by assumption)); rintro e w' ⟨rfl, b⟩; have C := rgM_step (by assumption) b; clear b)
        | (go_at_call 30; refine (J.out _).mono ?_; rintro e w' ⟨rfl, b⟩; have C := rgM_step (by assumption) b; clear b))
    go_wp2
    go_ret
    exact ⟨by rw [E.out]; rfl, rgM_b (by assumption)⟩
end Go.Proofs.YtdbcblfinflieaaGreatDoor
