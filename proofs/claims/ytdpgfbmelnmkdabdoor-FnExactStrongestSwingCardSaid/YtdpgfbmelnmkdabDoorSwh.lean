/-
  An array of eight numbers that comes in by value.
-/
import Derived.Test.YtdpgfbmelnmkdabDoorSwg
import Derived.ChangeArms
import Derived.OpenShut
namespace Go.Proofs.YtdpgfbmelnmkdabDoor
open Go.RowKit Go.ChangeShapes Go.WideShapes Go.Deep
attribute [local go_sem ↓] Go.wp_at_zero Go.wp_at_succ
set_option linter.unusedVariables false
set_option linter.unusedSimpArgs false
set_option maxRecDepth 100000

section
variable {H : Type} {enc : TypeId × Value → H} {w : World} {base : Nat} {spare : Nat → Bool} {held : Bool}
theorem trod_f32sw {P : Program} {t : TypeId} {fuel : Nat} {cs : List Value} {x : DataW H × List MemPlace} (ht : P.underlying t = some (.float .f32)) (h : DataW.trod enc P w base spare held fuel t cs = some x) :
    ∃ b, cs = [.float .f32 b] ∧ (Lit.float .f32 b).wf = true := by
  cases fuel with
  | zero => simp [DataW.trod] at h
  | succ n =>
    unfold DataW.trod at h
    rw [ht] at h
    split at h <;> simp_all
theorem l8_of {α : Type} {l : List α} (h : l.length = 8) : ∃ a b c d e f g k, l = [a, b, c, d, e, f, g, k] :=
  match l, h with | [a, b, c, d, e, f, g, k], _ => ⟨a, b, c, d, e, f, g, k, rfl⟩
theorem okWide_arr {P : Program} {r : Reach} {n : Nat} {e t : TypeId} {v : Value} (ht : P.underlying t = some (.array n e)) (h : Value.okWide P w r base t v) : ∃ cs, v = .agg cs ∧ cs.size = P.cellsOf t := by
  simp only [Value.okWide, ht] at h
  obtain ⟨cs, h1, h2, _⟩ := h
  exact ⟨cs, h1, h2⟩
theorem arr8_cells {fuel : Nat} {cs : List Value} {x : DataW H × List MemPlace} (h : DataW.trod enc Tryd.prog w base spare held fuel 23 cs = some x) :
    ∃ F : Nat → Nat, cs = [.float .f32 (F 0), .float .f32 (F 1), .float .f32 (F 2), .float .f32 (F 3), .float .f32 (F 4), .float .f32 (F 5), .float .f32 (F 6), .float .f32 (F 7)] := by
  obtain ⟨xs, n, _, _, hlen, hxl, hf⟩ := DataW.trod_array Tryd.underlying23 h
  have hC : Tryd.prog.cellsOf 23 = 8 := by kernel_rfl
  have hE : Tryd.prog.cellsOf 22 = 1 := by kernel_rfl
  rw [hC] at hlen
  obtain ⟨v0, v1, v2, v3, v4, v5, v6, v7, rfl⟩ := l8_of hlen
  obtain ⟨y0, y1, y2, y3, y4, y5, y6, y7, rfl⟩ := l8_of hxl
  have f0 : DataW.trod enc Tryd.prog w base spare held n 22 [v0] = some y0 := by have := hf 0 (by decide); rw [hE] at this; exact this
  have f1 : DataW.trod enc Tryd.prog w base spare held n 22 [v1] = some y1 := by have := hf 1 (by decide); rw [hE] at this; exact this
  have f2 : DataW.trod enc Tryd.prog w base spare held n 22 [v2] = some y2 := by have := hf 2 (by decide); rw [hE] at this; exact this
  have f3 : DataW.trod enc Tryd.prog w base spare held n 22 [v3] = some y3 := by have := hf 3 (by decide); rw [hE] at this; exact this
  have f4 : DataW.trod enc Tryd.prog w base spare held n 22 [v4] = some y4 := by have := hf 4 (by decide); rw [hE] at this; exact this
  have f5 : DataW.trod enc Tryd.prog w base spare held n 22 [v5] = some y5 := by have := hf 5 (by decide); rw [hE] at this; exact this
  have f6 : DataW.trod enc Tryd.prog w base spare held n 22 [v6] = some y6 := by have := hf 6 (by decide); rw [hE] at this; exact this
  have f7 : DataW.trod enc Tryd.prog w base spare held n 22 [v7] = some y7 := by have := hf 7 (by decide); rw [hE] at this; exact this
  obtain ⟨x0, e0, _⟩ := trod_f32sw Tryd.underlying22 f0
  obtain rfl : v0 = .float .f32 x0 := List.head_eq_of_cons_eq e0
  obtain ⟨x1, e1, _⟩ := trod_f32sw Tryd.underlying22 f1
  obtain rfl : v1 = .float .f32 x1 := List.head_eq_of_cons_eq e1
  obtain ⟨x2, e2, _⟩ := trod_f32sw Tryd.underlying22 f2
  obtain rfl : v2 = .float .f32 x2 := List.head_eq_of_cons_eq e2
  obtain ⟨x3, e3, _⟩ := trod_f32sw Tryd.underlying22 f3
  obtain rfl : v3 = .float .f32 x3 := List.head_eq_of_cons_eq e3
  obtain ⟨x4, e4, _⟩ := trod_f32sw Tryd.underlying22 f4
  obtain rfl : v4 = .float .f32 x4 := List.head_eq_of_cons_eq e4
  obtain ⟨x5, e5, _⟩ := trod_f32sw Tryd.underlying22 f5
  obtain rfl : v5 = .float .f32 x5 := List.head_eq_of_cons_eq e5
  obtain ⟨x6, e6, _⟩ := trod_f32sw Tryd.underlying22 f6
  obtain rfl : v6 = .float .f32 x6 := List.head_eq_of_cons_eq e6
  obtain ⟨x7, e7, _⟩ := trod_f32sw Tryd.underlying22 f7
  obtain rfl : v7 = .float .f32 x7 := List.head_eq_of_cons_eq e7
  exact ⟨fun i => [x0, x1, x2, x3, x4, x5, x6, x7].getD i 0, rfl⟩
theorem floats8_in {r : Reach} {b0 : Nat} {v : Value} {d : DataW H} {p : List MemPlace} (hv : Value.okWide Tryd.prog w r b0 23 v) (h : DataW.Trod enc Tryd.prog w base spare held 23 v d p) :
    ∃ F : Nat → Nat, v = .agg #[.float .f32 (F 0), .float .f32 (F 1), .float .f32 (F 2), .float .f32 (F 3), .float .f32 (F 4), .float .f32 (F 5), .float .f32 (F 6), .float .f32 (F 7)] := by
  obtain ⟨cs, rfl, hsz⟩ := okWide_arr Tryd.underlying23 hv
  obtain ⟨fuel, hf⟩ := h
  obtain ⟨F, hB⟩ := arr8_cells hf
  refine ⟨F, ?_⟩
  obtain ⟨l⟩ := cs
  have : l = _ := hB
  rw [this]
end
theorem specSw_any (F : Nat → Nat) (w : World) : Calls Tryd.prog 8 #[.agg #[.float .f32 (F 0), .float .f32 (F 1), .float .f32 (F 2), .float .f32 (F 3), .float .f32 (F 4), .float .f32 (F 5), .float .f32 (F 6), .float .f32 (F 7)]] w (RS8 F w) := by
  cases hp : plA8 F
  · exact specSw_no F hp w
  · exact specSw_ok F hp w
set_option maxHeartbeats 4000000 in
theorem walk_FnExactSwingsOf (F : Nat → Nat) (w : World) (hE : EtAt w) : Calls Tryd.prog 3 #[.agg #[.float .f32 (F 0), .float .f32 (F 1), .float .f32 (F 2), .float .f32 (F 3), .float .f32 (F 4), .float .f32 (F 5), .float .f32 (F 6), .float .f32 (F 7)]] w fun e w' => e = .returned (.bool true) ∧ Below w.heap.size w w' := by
  have HE := Lib.hid hE
  have ka : Hid (Blk (w.alloc (.cells #[.float .f32 (F 0), .float .f32 (F 1), .float .f32 (F 2), .float .f32 (F 3), .float .f32 (F 4), .float .f32 (F 5), .float .f32 (F 6), .float .f32 (F 7)] 23)) w.heap.size #[.float .f32 (F 0), .float .f32 (F 1), .float .f32 (F 2), .float .f32 (F 3), .float .f32 (F 4), .float .f32 (F 5), .float .f32 (F 6), .float .f32 (F 7)] 23) := Blk.new _ _ _
  obtain ⟨kc, hkc⟩ : ∃ kc, codeSw F = kc := ⟨_, rfl⟩
  have HKC := Lib.hid hkc
  clear hE hkc
  go_enter Tryd.func3, Tryd.ntmps3
  go_wp2_with fail
  refine (toA8_any F _).mono ?_
  rintro e w1 ⟨rfl, b1⟩
  have k1 := Lib.hid (Blk.on ka.out (by rfl) b1)
  have B1 : Hid (Below w.heap.size w w1) := b_then (b_alloc (Below.refl _ _) _) b1
  clear b1 ka
  go_wp2_with fail
  refine (specSw_any F _).mono ?_
  rintro e w2 ⟨X1, Y1, rfl, h1, b2⟩
  rw [HKC.out]
  have k2 := Lib.hid (Blk.on k1.out (by rfl) b2)
  have H1 := Lib.hid h1
  have B2 : Hid (Below w.heap.size w w2) := b_then B1.out b2
  have k3 : Hid (Blk (w2.alloc (.cells #[.complex .f32 (X1 0) (Y1 0), .complex .f32 (X1 1) (Y1 1), .complex .f32 (X1 2) (Y1 2), .complex .f32 (X1 3) (Y1 3), .complex .f32 (X1 4) (Y1 4), .complex .f32 (X1 5) (Y1 5), .complex .f32 (X1 6) (Y1 6), .complex .f32 (X1 7) (Y1 7)] 25)) w.heap.size #[.float .f32 (F 0), .float .f32 (F 1), .float .f32 (F 2), .float .f32 (F 3), .float .f32 (F 4), .float .f32 (F 5), .float .f32 (F 6), .float .f32 (F 7)] 23) := (Below.heap_alloc w2 _ w.heap.size k2.out.lt).trans k2.out
  have z3 : Hid (Blk (w2.alloc (.cells #[.complex .f32 (X1 0) (Y1 0), .complex .f32 (X1 1) (Y1 1), .complex .f32 (X1 2) (Y1 2), .complex .f32 (X1 3) (Y1 3), .complex .f32 (X1 4) (Y1 4), .complex .f32 (X1 5) (Y1 5), .complex .f32 (X1 6) (Y1 6), .complex .f32 (X1 7) (Y1 7)] 25)) w2.heap.size #[.complex .f32 (X1 0) (Y1 0), .complex .f32 (X1 1) (Y1 1), .complex .f32 (X1 2) (Y1 2), .complex .f32 (X1 3) (Y1 3), .complex .f32 (X1 4) (Y1 4), .complex .f32 (X1 5) (Y1 5), .complex .f32 (X1 6) (Y1 6), .complex .f32 (X1 7) (Y1 7)] 25) := Blk.new _ _ _
  have B3 : Hid (Below w.heap.size w (w2.alloc (.cells #[.complex .f32 (X1 0) (Y1 0), .complex .f32 (X1 1) (Y1 1), .complex .f32 (X1 2) (Y1 2), .complex .f32 (X1 3) (Y1 3), .complex .f32 (X1 4) (Y1 4), .complex .f32 (X1 5) (Y1 5), .complex .f32 (X1 6) (Y1 6), .complex .f32 (X1 7) (Y1 7)] 25))) := b_alloc B2.out _
  clear b2 k1 k2 h1 B1 B2
  have c0 : ((w2.alloc (.cells #[.complex .f32 (X1 0) (Y1 0), .complex .f32 (X1 1) (Y1 1), .complex .f32 (X1 2) (Y1 2), .complex .f32 (X1 3) (Y1 3), .complex .f32 (X1 4) (Y1 4), .complex .f32 (X1 5) (Y1 5), .complex .f32 (X1 6) (Y1 6), .complex .f32 (X1 7) (Y1 7)] 25))).cell? ⟨w.heap.size, 0, none⟩ = some (.float .f32 (F 0)) := k3.out.cell 0; have c1 : ((w2.alloc (.cells #[.complex .f32 (X1 0) (Y1 0), .complex .f32 (X1 1) (Y1 1), .complex .f32 (X1 2) (Y1 2), .complex .f32 (X1 3) (Y1 3), .complex .f32 (X1 4) (Y1 4), .complex .f32 (X1 5) (Y1 5), .complex .f32 (X1 6) (Y1 6), .complex .f32 (X1 7) (Y1 7)] 25))).cell? ⟨w.heap.size, 1, none⟩ = some (.float .f32 (F 1)) := k3.out.cell 1; have c2 : ((w2.alloc (.cells #[.complex .f32 (X1 0) (Y1 0), .complex .f32 (X1 1) (Y1 1), .complex .f32 (X1 2) (Y1 2), .complex .f32 (X1 3) (Y1 3), .complex .f32 (X1 4) (Y1 4), .complex .f32 (X1 5) (Y1 5), .complex .f32 (X1 6) (Y1 6), .complex .f32 (X1 7) (Y1 7)] 25))).cell? ⟨w.heap.size, 2, none⟩ = some (.float .f32 (F 2)) := k3.out.cell 2; have c3 : ((w2.alloc (.cells #[.complex .f32 (X1 0) (Y1 0), .complex .f32 (X1 1) (Y1 1), .complex .f32 (X1 2) (Y1 2), .complex .f32 (X1 3) (Y1 3), .complex .f32 (X1 4) (Y1 4), .complex .f32 (X1 5) (Y1 5), .complex .f32 (X1 6) (Y1 6), .complex .f32 (X1 7) (Y1 7)] 25))).cell? ⟨w.heap.size, 3, none⟩ = some (.float .f32 (F 3)) := k3.out.cell 3; have c4 : ((w2.alloc (.cells #[.complex .f32 (X1 0) (Y1 0), .complex .f32 (X1 1) (Y1 1), .complex .f32 (X1 2) (Y1 2), .complex .f32 (X1 3) (Y1 3), .complex .f32 (X1 4) (Y1 4), .complex .f32 (X1 5) (Y1 5), .complex .f32 (X1 6) (Y1 6), .complex .f32 (X1 7) (Y1 7)] 25))).cell? ⟨w.heap.size, 4, none⟩ = some (.float .f32 (F 4)) := k3.out.cell 4; have c5 : ((w2.alloc (.cells #[.complex .f32 (X1 0) (Y1 0), .complex .f32 (X1 1) (Y1 1), .complex .f32 (X1 2) (Y1 2), .complex .f32 (X1 3) (Y1 3), .complex .f32 (X1 4) (Y1 4), .complex .f32 (X1 5) (Y1 5), .complex .f32 (X1 6) (Y1 6), .complex .f32 (X1 7) (Y1 7)] 25))).cell? ⟨w.heap.size, 5, none⟩ = some (.float .f32 (F 5)) := k3.out.cell 5; have c6 : ((w2.alloc (.cells #[.complex .f32 (X1 0) (Y1 0), .complex .f32 (X1 1) (Y1 1), .complex .f32 (X1 2) (Y1 2), .complex .f32 (X1 3) (Y1 3), .complex .f32 (X1 4) (Y1 4), .complex .f32 (X1 5) (Y1 5), .complex .f32 (X1 6) (Y1 6), .complex .f32 (X1 7) (Y1 7)] 25))).cell? ⟨w.heap.size, 6, none⟩ = some (.float .f32 (F 6)) := k3.out.cell 6; have c7 : ((w2.alloc (.cells #[.complex .f32 (X1 0) (Y1 0), .complex .f32 (X1 1) (Y1 1), .complex .f32 (X1 2) (Y1 2), .complex .f32 (X1 3) (Y1 3), .complex .f32 (X1 4) (Y1 4), .complex .f32 (X1 5) (Y1 5), .complex .f32 (X1 6) (Y1 6), .complex .f32 (X1 7) (Y1 7)] 25))).cell? ⟨w.heap.size, 7, none⟩ = some (.float .f32 (F 7)) := k3.out.cell 7
  go_wp2_with fail
  clear c0 c1 c2 c3 c4 c5 c6 c7
  refine (toA8_any F _).mono ?_
  rintro e w3 ⟨rfl, b3⟩
  have z4 := Lib.hid (Blk.on z3.out (by rfl) b3)
  have B4 : Hid (Below w.heap.size w w3) := b_then B3.out b3
  clear b3 k3 z3 B3
  go_wp2_with fail
  refine (implSw_any F _ (HE.out.on (W := w) rfl B4.out)).mono ?_
  rintro e w4 ⟨X2, Y2, rfl, h2, b4⟩
  rw [HKC.out]
  have z5 := Lib.hid (Blk.on z4.out (by rfl) b4)
  have H2 := Lib.hid h2
  have B5 : Hid (Below w.heap.size w w4) := b_then B4.out b4
  have z6 : Hid (Blk (w4.alloc (.cells #[.complex .f32 (X2 0) (Y2 0), .complex .f32 (X2 1) (Y2 1), .complex .f32 (X2 2) (Y2 2), .complex .f32 (X2 3) (Y2 3), .complex .f32 (X2 4) (Y2 4), .complex .f32 (X2 5) (Y2 5), .complex .f32 (X2 6) (Y2 6), .complex .f32 (X2 7) (Y2 7)] 25)) w2.heap.size #[.complex .f32 (X1 0) (Y1 0), .complex .f32 (X1 1) (Y1 1), .complex .f32 (X1 2) (Y1 2), .complex .f32 (X1 3) (Y1 3), .complex .f32 (X1 4) (Y1 4), .complex .f32 (X1 5) (Y1 5), .complex .f32 (X1 6) (Y1 6), .complex .f32 (X1 7) (Y1 7)] 25) := (Below.heap_alloc w4 _ w2.heap.size z5.out.lt).trans z5.out
  have B6 : Hid (Below w.heap.size w (w4.alloc (.cells #[.complex .f32 (X2 0) (Y2 0), .complex .f32 (X2 1) (Y2 1), .complex .f32 (X2 2) (Y2 2), .complex .f32 (X2 3) (Y2 3), .complex .f32 (X2 4) (Y2 4), .complex .f32 (X2 5) (Y2 5), .complex .f32 (X2 6) (Y2 6), .complex .f32 (X2 7) (Y2 7)] 25))) := b_alloc B5.out _
  clear b4 z4 z5 B4 B5 h2
  have d0 : ((w4.alloc (.cells #[.complex .f32 (X2 0) (Y2 0), .complex .f32 (X2 1) (Y2 1), .complex .f32 (X2 2) (Y2 2), .complex .f32 (X2 3) (Y2 3), .complex .f32 (X2 4) (Y2 4), .complex .f32 (X2 5) (Y2 5), .complex .f32 (X2 6) (Y2 6), .complex .f32 (X2 7) (Y2 7)] 25))).cell? ⟨w2.heap.size, 0, none⟩ = some (.complex .f32 (X1 0) (Y1 0)) := z6.out.cell 0; have d1 : ((w4.alloc (.cells #[.complex .f32 (X2 0) (Y2 0), .complex .f32 (X2 1) (Y2 1), .complex .f32 (X2 2) (Y2 2), .complex .f32 (X2 3) (Y2 3), .complex .f32 (X2 4) (Y2 4), .complex .f32 (X2 5) (Y2 5), .complex .f32 (X2 6) (Y2 6), .complex .f32 (X2 7) (Y2 7)] 25))).cell? ⟨w2.heap.size, 1, none⟩ = some (.complex .f32 (X1 1) (Y1 1)) := z6.out.cell 1; have d2 : ((w4.alloc (.cells #[.complex .f32 (X2 0) (Y2 0), .complex .f32 (X2 1) (Y2 1), .complex .f32 (X2 2) (Y2 2), .complex .f32 (X2 3) (Y2 3), .complex .f32 (X2 4) (Y2 4), .complex .f32 (X2 5) (Y2 5), .complex .f32 (X2 6) (Y2 6), .complex .f32 (X2 7) (Y2 7)] 25))).cell? ⟨w2.heap.size, 2, none⟩ = some (.complex .f32 (X1 2) (Y1 2)) := z6.out.cell 2; have d3 : ((w4.alloc (.cells #[.complex .f32 (X2 0) (Y2 0), .complex .f32 (X2 1) (Y2 1), .complex .f32 (X2 2) (Y2 2), .complex .f32 (X2 3) (Y2 3), .complex .f32 (X2 4) (Y2 4), .complex .f32 (X2 5) (Y2 5), .complex .f32 (X2 6) (Y2 6), .complex .f32 (X2 7) (Y2 7)] 25))).cell? ⟨w2.heap.size, 3, none⟩ = some (.complex .f32 (X1 3) (Y1 3)) := z6.out.cell 3; have d4 : ((w4.alloc (.cells #[.complex .f32 (X2 0) (Y2 0), .complex .f32 (X2 1) (Y2 1), .complex .f32 (X2 2) (Y2 2), .complex .f32 (X2 3) (Y2 3), .complex .f32 (X2 4) (Y2 4), .complex .f32 (X2 5) (Y2 5), .complex .f32 (X2 6) (Y2 6), .complex .f32 (X2 7) (Y2 7)] 25))).cell? ⟨w2.heap.size, 4, none⟩ = some (.complex .f32 (X1 4) (Y1 4)) := z6.out.cell 4; have d5 : ((w4.alloc (.cells #[.complex .f32 (X2 0) (Y2 0), .complex .f32 (X2 1) (Y2 1), .complex .f32 (X2 2) (Y2 2), .complex .f32 (X2 3) (Y2 3), .complex .f32 (X2 4) (Y2 4), .complex .f32 (X2 5) (Y2 5), .complex .f32 (X2 6) (Y2 6), .complex .f32 (X2 7) (Y2 7)] 25))).cell? ⟨w2.heap.size, 5, none⟩ = some (.complex .f32 (X1 5) (Y1 5)) := z6.out.cell 5; have d6 : ((w4.alloc (.cells #[.complex .f32 (X2 0) (Y2 0), .complex .f32 (X2 1) (Y2 1), .complex .f32 (X2 2) (Y2 2), .complex .f32 (X2 3) (Y2 3), .complex .f32 (X2 4) (Y2 4), .complex .f32 (X2 5) (Y2 5), .complex .f32 (X2 6) (Y2 6), .complex .f32 (X2 7) (Y2 7)] 25))).cell? ⟨w2.heap.size, 6, none⟩ = some (.complex .f32 (X1 6) (Y1 6)) := z6.out.cell 6; have d7 : ((w4.alloc (.cells #[.complex .f32 (X2 0) (Y2 0), .complex .f32 (X2 1) (Y2 1), .complex .f32 (X2 2) (Y2 2), .complex .f32 (X2 3) (Y2 3), .complex .f32 (X2 4) (Y2 4), .complex .f32 (X2 5) (Y2 5), .complex .f32 (X2 6) (Y2 6), .complex .f32 (X2 7) (Y2 7)] 25))).cell? ⟨w2.heap.size, 7, none⟩ = some (.complex .f32 (X1 7) (Y1 7)) := z6.out.cell 7
  have hq := Lib.hid (eqC8_any X2 Y2 X1 Y1 (fun i hi => (H2.out i hi).1.trans (H1.out i hi).1.symm) (fun i hi => (H2.out i hi).2.trans (H1.out i hi).2.symm))
  go_wp2_with fail
  clear d0 d1 d2 d3 d4 d5 d6 d7
  refine (hq.out _).mono ?_
  rintro e w5 ⟨rfl, b5⟩
  have B7 : Hid (Below w.heap.size w w5) := b_then B6.out b5
  clear b5
  go_wp2
  go_ret
  exact ⟨rfl, B7.out⟩
end Go.Proofs.YtdpgfbmelnmkdabDoor
