/-
  The law of a cone.
-/
import Derived.Test.YtdfookgncokgjadCone
import Derived.Test.YtdfookgncokgjadBto
namespace Go.Proofs.Ytdfookgncokgjad
open Go.RowKit Go.ChangeShapes Go.WideShapes Go.Deep
attribute [local go_sem ↓] Go.wp_at_zero Go.wp_at_succ
set_option linter.unusedVariables false
set_option linter.unusedSimpArgs false
theorem there_of_block {w w' : World} {b o n : Nat} (h : w.there b o n) (hb : w'.heap[b]? = w.heap[b]?) : w'.there b o n := fun j hj => by
  obtain ⟨h1, h2⟩ := h j hj
  refine ⟨by rw [World.cell?_of_block (a := ⟨b, o + j, none⟩) hb]; exact h1, ?_⟩
  unfold World.frozen? at h2 ⊢
  rw [hb]
  exact h2
theorem coneL_le (B : Bl) (fs : List Nat) : (coneL B fs).length ≤ fs.length := by
  unfold coneL
  split
  · simp
  · simp
set_option maxRecDepth 100000 in
set_option maxHeartbeats 4000000 in
theorem walk_FnExactConeFor (B : Bl) (A : Option Addr) (n c : Nat) (fs : List Nat) (w : World) (h : FlIn w A n c fs) :
    Calls Try.prog 9 #[.agg #[.float .f32 B.a, .float .f32 B.b, .float .f32 B.ap, .float .f32 B.g, .bool B.x], .slice A n c] w fun e w' => e = .returned (.bool true) ∧ Below w.heap.size w w' := by
  obtain ⟨hl, hnc, hc, hT⟩ := h
  have Hl := Lib.hid hl; clear hl
  have HT := Lib.hid hT; clear hT
  by_cases hn : 1048576 < n
  · have z1 : (1048576 : Int) < (n : Int) := by omega
    go_enter Try.func9, Try.ntmps9
    go_wp2
    go_ret
    exact ⟨rfl, b_alloc (Below.refl _ _) _⟩
  · have hn' : n ≤ 1048576 := by omega
    have z1 : ¬ (1048576 : Int) < (n : Int) := by omega
    go_enter Try.func9, Try.ntmps9
    go_wp2_with fail
    refine (toBelt_any B _).mono ?_
    rintro e w0 ⟨rfl, b0⟩
    have l0 := Lib.hid (AtL.on (AtL.new w B) (by rfl) b0)
    have D0 : Hid (Below w.heap.size w w0) := by first | exact b_then (b_alloc (Below.refl _ _) _) b0 | exact b0
    clear b0
    go_wp2_with fail
    refine (toFloats_any A n c fs _ Hl.out hn' (HT.out.keep D0.out)).mono ?_
    rintro e w1 ⟨rfl, m1⟩
    have M1 := Lib.hid m1; clear m1
    have D1 := Lib.hid (b_then D0.out M1.out.2.2.2)
    have l1 := Lib.hid (AtL.on l0.out (by rfl) M1.out.2.2.2)
    go_wp2_with fail
    refine (specCone_any B _ _ _ fs _ Hl.out hn' M1.out.fl).mono ?_
    rintro e w2 ⟨A2, n2, c2, fs2, rfl, hl2, hc2, hf2, ho2, ha2, b2⟩
    have hb2 : n2 ≤ 1048576 := by
      have hx := congrArg List.length hc2
      rw [List.length_map, hl2] at hx
      rw [hx]
      exact Nat.le_trans (coneL_le B fs) (by rw [Hl.out]; exact hn')
    have D2 := Lib.hid (b_then D1.out b2)
    have l2 := Lib.hid (AtL.on l1.out (by rfl) b2)
    have L2 := Lib.hid hl2; have C2 := Lib.hid hc2; have F2 := Lib.hid hf2; have Y2 := Lib.hid ha2
    clear hl2 hc2 hf2 ho2 ha2 b2
    go_wp2_with fail
    refine (toFloats_any A n c fs _ Hl.out hn' (HT.out.keep D2.out)).mono ?_
    rintro e w3 ⟨rfl, m3⟩
    have M3 := Lib.hid m3; clear m3
    have D3 := Lib.hid (b_then D2.out M3.out.2.2.2)
    have l3 := Lib.hid (AtL.on l2.out (by rfl) M3.out.2.2.2)
    obtain ⟨c0, c1, c2', c3, c4⟩ := l3.out.cells
    have hlt3 : w.heap.size < w3.heap.size := l3.out.lt
    go_wp2_with fail
    refine (toBelt_any B _).mono ?_
    rintro e wb ⟨rfl, bb⟩
    clear c0 c1 c2' c3 c4 hlt3
    have Xb := Lib.hid bb
    have Db := Lib.hid (b_then D3.out bb)
    have lb := Lib.hid (AtL.on l3.out (by rfl) bb)
    clear bb
    go_wp2_with fail
    refine (implCone_any B _ _ _ fs _ Hl.out hn' ((M3.out.fl.below Xb.out (Nat.le_refl _)).more Xb.out.size)).mono ?_
    rintro e w4 ⟨A4, n4, c4, fs4, rfl, hl4, hc4, hf4, ho4, ha4, b4⟩
    have h42 : fs4.map cn = fs2.map cn := hc4.trans C2.out.symm
    obtain rfl : n4 = n2 := by
      have := congrArg List.length h42
      rw [List.length_map, List.length_map, hl4, L2.out] at this
      exact this
    have D4 := Lib.hid (b_then Db.out b4)
    have l4 := Lib.hid (AtL.on lb.out (by rfl) b4)
    have X34 := Lib.hid (b_then Xb.out b4)
    have L4 := Lib.hid hl4; have E42 := Lib.hid h42; have F4 := Lib.hid hf4; have O4 := Lib.hid ho4; have Y4 := Lib.hid ha4
    clear hl4 hc4 h42 hf4 ho4 ha4 b4
    have X24 := Lib.hid (b_then M3.out.2.2.2 X34.out)
    have G2 := Lib.hid (F2.out.below X24.out (Nat.le_refl _))
    go_wp2_with fail
    refine (eqFloats_same A4 A2 _ _ _ fs4 fs2 _ L4.out E42.out hb2 F4.out (G2.out.more X24.out.size)).mono ?_
    rintro e w5 ⟨rfl, b5⟩
    have B5 := Lib.hid b5
    have D5 := Lib.hid (b_then D4.out b5); clear b5
    go_wp2_with fail
    refine (toFloats_any A n c fs _ Hl.out hn' (HT.out.keep D5.out)).mono ?_
    rintro e w6 ⟨rfl, m6⟩
    have M6 := Lib.hid m6; clear m6
    have D6 := Lib.hid (b_then D5.out M6.out.2.2.2)
    have X36 : Hid (Below w3.heap.size w3 w6) := b_then (b_then X34.out B5.out) M6.out.2.2.2
    go_wp2_with fail
    refine (eqFloats_same _ _ _ _ _ fs fs _ Hl.out rfl hn' ((M3.out.fl.below X36.out (Nat.le_refl _)).more X36.out.size) M6.out.fl).mono ?_
    rintro e w7 ⟨rfl, b7⟩
    have B7 := Lib.hid b7
    have D7 := Lib.hid (b_then D6.out b7); clear b7
    have B47 : Hid (Below w4.heap.size w4 w7) := b_then (b_then B5.out M6.out.2.2.2) B7.out
    have B37 : Hid (Below w3.heap.size w3 w7) := b_then X34.out B47.out
    have l7 := Lib.hid (AtL.on l4.out (by rfl) B47.out)
    go_wp2_with fail
    refine (markFloats_any _ _ _ 1 _ hn' (by omega) (fun _ => ⟨_, rfl, there_of_block M3.out.1 (B37.out.block _ M3.out.2.2.1)⟩)).mono ?_
    rintro e w8 ⟨rfl, mb8, mk8⟩
    have MB8 := Lib.hid mb8; clear mb8 mk8
    have hlt23 : w2.heap.size < wb.heap.size := Nat.lt_of_lt_of_le M3.out.2.2.1 Xb.out.size
    have hltw2 : w.heap.size < w2.heap.size := l2.out.lt
    have l8 : Hid (AtL w8 w.heap.size B) := (MB8.out.2.1 w.heap.size (fun a h => by cases h; show w2.heap.size ≠ w.heap.size; omega)).trans l7.out
    have P8 := Lib.hid ((F4.out.below B47.out (Nat.le_refl _)).mb MB8.out (fun a h => by cases h; exact .inl hlt23))
    have Q8 := Lib.hid ((G2.out.below (B' := w4.heap.size) B47.out X24.out.size).mb MB8.out (fun a h => by cases h; exact .inr (Nat.le_refl _)))
    have sz8 : Hid (w8.heap.size = w7.heap.size) := MB8.out.1
    have D8 : Hid (Below w.heap.size w w8) := D7.out.trans (MB8.out.2.2 _ (fun a h => by cases h; exact D2.out.size))
    have s48 : w4.heap.size ≤ w8.heap.size := by rw [sz8.out]; exact B47.out.size
    have s24 : w2.heap.size ≤ w4.heap.size := X24.out.size
    go_wp2_with fail
    refine (eqFloats_same A4 A2 _ _ _ fs4 fs2 _ L4.out E42.out hb2 (P8.out.more s48) (Q8.out.more (by omega))).mono ?_
    rintro e w9 ⟨rfl, b9⟩
    have B9 := Lib.hid b9
    have D9 := Lib.hid (b_then D8.out b9)
    have l9 := Lib.hid (AtL.on l8.out (by rfl) b9)
    clear b9
    have s89 : w8.heap.size ≤ w9.heap.size := B9.out.size
    have O9 : Hid (0 < n4 → ∃ b, A4 = some ⟨b, 0, none⟩ ∧ w9.there b 0 n4) := fun h0 => by
      obtain ⟨b, he, ht⟩ := O4.out h0
      have hy := Y4.out _ he
      have e1 : w7.heap[b]? = w4.heap[b]? := B47.out.block b hy.2
      have e2 : w8.heap[b]? = w7.heap[b]? := MB8.out.2.1 b (fun a h => by cases h; have := hy.1; simp at this ⊢; omega)
      have e3 : w9.heap[b]? = w8.heap[b]? := B9.out.block b (by have := hy.2; simp at this; omega)
      exact ⟨b, he, there_of_block ht (e3.trans (e2.trans e1))⟩
    go_wp2_with fail
    refine (markFloats_any A4 _ _ 1 _ hb2 (by omega) O9.out).mono ?_
    rintro e w10 ⟨rfl, mb10, mk10⟩
    have MB10 := Lib.hid mb10; have MK10 := Lib.hid mk10
    clear mb10 mk10
    have D10 : Hid (Below w.heap.size w w10) := D9.out.trans (MB10.out.2.2 _ (fun a h => Nat.le_trans Db.out.size (Y4.out a h).1))
    have sz10 : Hid (w10.heap.size = w9.heap.size) := MB10.out.1
    have l10 : Hid (AtL w10 w.heap.size B) := (MB10.out.2.1 w.heap.size (fun a h => by have := (Y4.out a h).1; omega)).trans l9.out
    have Q10 := Lib.hid ((Q8.out.below B9.out (by have := sz8.out; omega)).mb MB10.out (fun a h => .inr (by have := (Y4.out a h).1; omega)))
    go_wp2_with fail
    refine (heldFloats_any A4 _ _ 1 _ hb2 (by omega) MK10.out).mono ?_
    rintro e w10' ⟨rfl, rfl⟩
    obtain ⟨c0, c1, c2', c3, c5⟩ := l10.out.cells
    have hlt10 : w.heap.size < w10.heap.size := l10.out.lt
    go_wp2_with fail
    refine (toBelt_any B _).mono ?_
    rintro e w11 ⟨rfl, b11⟩
    clear c0 c1 c2' c3 c5 hlt10
    have B11 := Lib.hid b11
    have D11 := Lib.hid (b_then D10.out b11)
    clear b11
    go_wp2_with fail
    refine (toFloats_any A n c fs _ Hl.out hn' (HT.out.keep D11.out)).mono ?_
    rintro e w12 ⟨rfl, m12⟩
    have M12 := Lib.hid m12; clear m12
    have D12 := Lib.hid (b_then D11.out M12.out.2.2.2)
    go_wp2_with fail
    refine (implCone_any B _ _ _ fs _ Hl.out hn' M12.out.fl).mono ?_
    rintro e w13 ⟨A5, n5, c5, fs5, rfl, hl5, hc5, hf5, ho5, ha5, b13⟩
    have h52 : fs5.map cn = fs2.map cn := hc5.trans C2.out.symm
    obtain rfl : n5 = n4 := by
      have := congrArg List.length h52
      rw [List.length_map, List.length_map, hl5, L2.out] at this
      exact this
    have D13 := Lib.hid (b_then D12.out b13)
    have B1013 : Hid (Below w10.heap.size w10 w13) := b_then (b_then B11.out M12.out.2.2.2) b13
    have L5 := Lib.hid hl5; have E52 := Lib.hid h52; have F5 := Lib.hid hf5
    clear hl5 hc5 h52 hf5 ho5 ha5 b13
    have s1013 : w10.heap.size ≤ w13.heap.size := B1013.out.size
    go_wp2_with fail
    refine (eqFloats_same A5 A2 _ _ _ fs5 fs2 _ L5.out E52.out hb2 F5.out ((Q10.out.below (B' := w10.heap.size) B1013.out (by have := sz8.out; have := sz10.out; omega)).more (by have := sz8.out; have := sz10.out; omega))).mono ?_
    rintro e w14 ⟨rfl, b14⟩
    have D14 := Lib.hid (b_then D13.out b14)
    have B1014 := Lib.hid (b_then B1013.out b14); clear b14
    have K14 : Hid (0 < n5 → ∃ b, A4 = some ⟨b, 0, none⟩ ∧ ∀ i : Nat, i < n5 → w14.cell? ⟨b, i, none⟩ = some (.float .f32 (floatOfInt .f32 (1 + i)))) := fun h0 => by
      obtain ⟨b, he, hcs⟩ := MK10.out h0
      have hy := Y4.out _ he
      exact ⟨b, he, fun i hi => (World.cell?_of_block (a := ⟨b, i, none⟩) (B1014.out.block b (by have := hy.2; have := sz8.out; have := sz10.out; simp at *; omega))).trans (hcs i hi)⟩
    go_wp2_with fail
    refine (heldFloats_any A4 _ _ 1 _ hb2 (by omega) K14.out).mono ?_
    rintro e w15 ⟨rfl, rfl⟩
    go_wp2
    go_ret
    exact ⟨rfl, D14.out⟩
end Go.Proofs.Ytdfookgncokgjad
