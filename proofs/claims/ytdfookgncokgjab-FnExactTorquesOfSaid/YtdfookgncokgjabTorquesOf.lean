/-
  The law of TorquesOf.
-/
import Derived.Test.YtdfookgncokgjabTorq
namespace Go.Proofs.Ytdfookgncokgjab
open Go.RowKit Go.ChangeShapes Go.WideShapes Go.Deep
set_option linter.unusedVariables false
set_option linter.unusedSimpArgs false
theorem asked_TorquesOf (ps : List Pr) (x : Nat) : codeDrive ps [0, x] = codeDrive ps [x] := by
  unfold codeDrive
  simp only [List.all_cons, List.all_nil, plain_zero, Bool.true_and, Bool.and_true]
set_option maxRecDepth 100000 in
theorem specTorquesOf_any (A : Option Addr) (n c : Nat) (ps : List Pr) (x : Nat) (w : World) (hl : ps.length = n) (hn : n ≤ 1048576) (hT : Tr w w.heap.size A ps) (hw : ∀ p ∈ ps, p.wf) :
    Calls Try.prog 26 #[.slice A n c, .float .f32 x] w (FLC (axlesC gTorque ps [x] x) (codeDrive ps [x]) w) := by
  have Hl := Lib.hid hl; clear hl
  have HT := Lib.hid hT; clear hT
  have Hw := Lib.hid hw; clear hw
  have hde := l01Asked_any A n c ps 0 x w Hl.out hn HT.out Hw.out
  rw [asked_TorquesOf] at hde
  by_cases h0 : codeDrive ps [x] = 0
  · have hok : okTr ps = true := by
      rcases Bool.eq_false_or_eq_true (okTr ps) with h1 | h1
      · exact h1
      · simp [codeDrive, h1] at h0
    have hpl : plainB x = true := by
      rcases Bool.eq_false_or_eq_true (plainB x) with h2 | h2
      · exact h2
      · simp [codeDrive, hok, h2] at h0
    have hax : axlesC gTorque ps [x] x = axC gTorque (cn x) ps := by
      unfold axlesC
      simp [hok, hpl]
    clear hpl
    rw [hax]
    rw [h0] at hde ⊢
    have Hok := Lib.hid hok; have Hde := Lib.hid hde
    clear hax hok hde h0
    go_enter Try.func26, Try.ntmps26
    go_wp2_with fail
    refine Hde.out.mono ?_
    rintro e w1 ⟨rfl, rfl⟩
    go_wp2_with fail
    refine (l01Torques_any _ _ _ ps _ _ Hl.out hn HT.out Hw.out Hok.out).mono ?_
    rintro e w2 ⟨v, fs, rfl, hr, hc, b2⟩
    have Fin := Lib.hid (frow_flc (e := .returned v) (Below.refl _ _) hr hc b2)
    clear hr hc b2
    go_wp2
    go_ret2
    exact Fin.out
  · have hax : axlesC gTorque ps [x] x = [] := by
      rcases Bool.eq_false_or_eq_true (okTr ps) with h1 | h1 <;> rcases Bool.eq_false_or_eq_true (plainB x) with h2 | h2 <;> simp [axlesC, codeDrive, h1, h2] at h0 ⊢
    rw [hax]
    clear hax
    generalize codeDrive ps [x] = code at *
    have Hde := Lib.hid hde; clear hde
    go_enter Try.func26, Try.ntmps26
    go_wp2_with fail
    refine Hde.out.mono ?_
    rintro e w1 ⟨rfl, rfl⟩
    go_wp2
    go_ret2
    exact flc_of_row (fs := []) (own_empty _ _ _ _ (Nat.le_refl _)) ((Below.refl _ _).alloc (Nat.le_refl _) _)
set_option maxRecDepth 100000 in
set_option maxHeartbeats 1000000 in
theorem walk_FnExactTorquesOf (A : Option Addr) (n c : Nat) (ps : List Pr) (x : Nat) (wx : (Lit.float .f32 x).wf = true) (w : World) (h : PairsIn w A n c ps) :
    Calls Try.prog 5 #[.slice A n c, .float .f32 x] w fun e w' => e = .returned (.bool true) ∧ Below w.heap.size w w' := by
  obtain ⟨hl, hnc, hc, hT, hw⟩ := h
  have hnm : n ≤ maxLen := Nat.le_trans hnc hc
  have Hl := Lib.hid hl; clear hl
  have HT := Lib.hid hT; clear hT
  have Hw := Lib.hid hw; clear hw
  by_cases hn : 1048576 < n
  · go_enter Try.func5, Try.ntmps5
    go_wp2_with (go_at_call 15; refine (szTrain_any _ _ _ _ hnm).mono ?_; rintro e w1 ⟨rfl, rfl⟩; rw [if_pos hn])
    go_ret
    exact ⟨rfl, Below.refl _ _⟩
  · have hn' : n ≤ 1048576 := by omega
    go_enter Try.func5, Try.ntmps5
    go_wp2_with (go_at_call 15; refine (szTrain_any _ _ _ _ hnm).mono ?_; rintro e w1 ⟨rfl, rfl⟩; rw [if_neg hn])
    refine (toTrain_any A n c ps _ Hl.out hn' HT.out).mono ?_
    rintro e w1 ⟨rfl, m1⟩
    have M1 := Lib.hid m1; clear m1
    go_wp2_with fail
    refine (specTorquesOf_any _ _ _ ps x _ Hl.out hn' M1.out.tr Hw.out).mono ?_
    rintro e w2 ⟨A2, n2, c2, fs2, rfl, hl2, hc2, hf2, ho2, ha2, b2⟩
    have hb2 : n2 ≤ 1048576 := by
      have hx := congrArg List.length hc2
      rw [List.length_map, hl2] at hx
      rw [hx]
      exact (Nat.le_trans (axlesC_len gTorque ps [x] x) (by omega))
    have D2 := Lib.hid (bthen M1.out.below b2)
    have S2 := Lib.hid (show w1.heap.size ≤ w2.heap.size from b2.size)
    have L2 := Lib.hid hl2; have C2 := Lib.hid hc2; have F2 := Lib.hid hf2; have Y2 := Lib.hid ha2
    clear hl2 hc2 hf2 ho2 ha2 b2
    go_wp2_with fail
    refine (toTrain_any A n c ps _ Hl.out hn' (HT.out.keep D2.out)).mono ?_
    rintro e w3 ⟨rfl, m3⟩
    have M3 := Lib.hid m3; clear m3
    have D3 := Lib.hid (bthen D2.out M3.out.below)
    go_wp2_with fail
    refine (implTorquesOf_any _ _ _ ps x _ Hl.out hn' M3.out.tr Hw.out).mono ?_
    rintro e w4 ⟨A4, n4, c4, fs4, rfl, hl4, hc4, hf4, ho4, ha4, b4⟩
    have h42 : fs4.map cn = fs2.map cn := hc4.trans C2.out.symm
    obtain rfl : n4 = n2 := by
      have := congrArg List.length h42
      rw [List.length_map, List.length_map, hl4, L2.out] at this
      exact this
    have D4 := Lib.hid (bthen D3.out b4)
    have X34 := Lib.hid b4
    have L4 := Lib.hid hl4; have E42 := Lib.hid h42; have F4 := Lib.hid hf4; have O4 := Lib.hid ho4; have Y4 := Lib.hid ha4
    have C4 := Lib.hid hc4
    clear hl4 hc4 h42 hf4 ho4 ha4 b4
    have G2 := Lib.hid ((F2.out.below M3.out.below (Nat.le_refl _)).below X34.out M3.out.below.size)
    go_wp2_with fail
    refine (eqFloats_same A4 A2 _ _ _ fs4 fs2 _ L4.out E42.out hb2 F4.out (G2.out.more (Nat.le_trans M3.out.below.size X34.out.size))).mono ?_
    rintro e w5 ⟨rfl, b5⟩
    have B5 := Lib.hid b5
    have D5 := Lib.hid (bthen D4.out b5); clear b5
    have M3x := Lib.hid (M3.out.tr.keep (bthen X34.out B5.out))
    go_wp2_with fail
    refine (toTrain_any A n c ps _ Hl.out hn' (HT.out.keep D5.out)).mono ?_
    rintro e w6 ⟨rfl, m6⟩
    have M6 := Lib.hid m6; clear m6
    have D6 := Lib.hid (bthen D5.out M6.out.below)
    go_wp2_with fail
    refine (eqTrain_same _ _ _ _ _ ps _ Hl.out hn' (M3x.out.keep M6.out.below) M6.out.tr).mono ?_
    rintro e w7 ⟨rfl, b7⟩
    have B7 := Lib.hid b7
    have D7 := Lib.hid (bthen D6.out b7); clear b7
    have B47 : Hid (Below w4.heap.size w4 w7) := bthen (bthen B5.out M6.out.below) B7.out
    have B37 : Hid (Below w3.heap.size w3 w7) := bthen X34.out B47.out
    go_wp2_with fail
    refine (markTrain_any _ _ _ _ hn' (there_of_block M3.out.1 (B37.out.block _ M3.out.2.2.1))).mono ?_
    rintro e w8 ⟨rfl, mb8⟩
    have MB8 := Lib.hid mb8; clear mb8
    have hlt23 : w2.heap.size < w3.heap.size := M3.out.2.2.1
    have P8 := Lib.hid ((F4.out.below B47.out (Nat.le_refl _)).mb MB8.out (fun a h => by cases h; exact .inl hlt23))
    have Q8 := Lib.hid ((G2.out.below (B' := w4.heap.size) B47.out (Nat.le_trans M3.out.below.size X34.out.size)).mb MB8.out (fun a h => by cases h; exact .inr (Nat.le_refl _)))
    have sz8 : Hid (w8.heap.size = w7.heap.size) := MB8.out.1
    have D8 : Hid (Below w.heap.size w w8) := D7.out.trans (MB8.out.2.2 _ (fun a h => by cases h; exact D2.out.size))
    have s48 : w4.heap.size ≤ w8.heap.size := by rw [sz8.out]; exact B47.out.size
    have s34 : w3.heap.size ≤ w4.heap.size := X34.out.size
    go_wp2_with fail
    refine (eqFloats_same A4 A2 _ _ _ fs4 fs2 _ L4.out E42.out hb2 (P8.out.more s48) (Q8.out.more (by have := sz8.out; omega))).mono ?_
    rintro e w9 ⟨rfl, b9⟩
    have B9 := Lib.hid b9
    have D9 := Lib.hid (bthen D8.out b9); clear b9
    have s89 : w8.heap.size ≤ w9.heap.size := B9.out.size
    have O9 : Hid (0 < n4 → ∃ b, A4 = some ⟨b, 0, none⟩ ∧ w9.there b 0 n4) := fun h0 => by
      obtain ⟨b, he, ht⟩ := O4.out h0
      have hy := Y4.out _ he
      have e1 : w7.heap[b]? = w4.heap[b]? := B47.out.block b hy.2
      have e2 : w8.heap[b]? = w7.heap[b]? := MB8.out.2.1 b (fun a h => by cases h; have := hy.1; simp at this ⊢; omega)
      have e3 : w9.heap[b]? = w8.heap[b]? := B9.out.block b (by have := hy.2; simp at this; omega)
      exact ⟨b, he, there_of_block ht (e3.trans (e2.trans e1))⟩
    go_wp2_with fail
    refine (markFloats_any A4 _ _ 1 _ hb2 (by omega) O9.out).mono ?_
    rintro e w10 ⟨rfl, mb10, mk10⟩
    have MB10 := Lib.hid mb10; have MK10 := Lib.hid mk10
    clear mb10 mk10
    have D10 : Hid (Below w.heap.size w w10) := D9.out.trans (MB10.out.2.2 _ (fun a h => Nat.le_trans D3.out.size (Y4.out a h).1))
    have sz10 : Hid (w10.heap.size = w9.heap.size) := MB10.out.1
    have Q10 := Lib.hid ((Q8.out.below B9.out (by have := sz8.out; omega)).mb MB10.out (fun a h => .inr (by have := (Y4.out a h).1; omega)))
    go_wp2_with fail
    refine (heldFloats_any A4 _ _ 1 _ hb2 (by omega) MK10.out).mono ?_
    rintro e w10' ⟨rfl, rfl⟩
    go_wp2_with fail
    refine (toTrain_any A n c ps _ Hl.out hn' (HT.out.keep D10.out)).mono ?_
    rintro e w12 ⟨rfl, m12⟩
    have M12 := Lib.hid m12; clear m12
    have D12 := Lib.hid (bthen D10.out M12.out.below)
    go_wp2_with fail
    refine (implTorquesOf_any _ _ _ ps x _ Hl.out hn' M12.out.tr Hw.out).mono ?_
    rintro e w13 ⟨A5, n5, c5, fs5, rfl, hl5, hc5, hf5, ho5, ha5, b13⟩
    have h52 : fs5.map cn = fs2.map cn := hc5.trans C2.out.symm
    obtain rfl : n5 = n4 := by
      have := congrArg List.length h52
      rw [List.length_map, List.length_map, hl5, L2.out] at this
      exact this
    have D13 := Lib.hid (bthen D12.out b13)
    have B1013 := Lib.hid (bthen M12.out.below b13)
    have L5 := Lib.hid hl5; have E52 := Lib.hid h52; have F5 := Lib.hid hf5
    clear hl5 hc5 h52 hf5 ho5 ha5 b13
    have s1013 : w10.heap.size ≤ w13.heap.size := B1013.out.size
    go_wp2_with fail
    refine (eqFloats_same A5 A2 _ _ _ fs5 fs2 _ L5.out E52.out hb2 F5.out ((Q10.out.below (B' := w10.heap.size) B1013.out (by have := sz8.out; have := sz10.out; omega)).more (by have := sz8.out; have := sz10.out; omega))).mono ?_
    rintro e w14 ⟨rfl, b14⟩
    have D14 := Lib.hid (bthen D13.out b14)
    have B1014 := Lib.hid (bthen B1013.out b14); clear b14
    have K14 : Hid (0 < n5 → ∃ b, A4 = some ⟨b, 0, none⟩ ∧ ∀ i : Nat, i < n5 → w14.cell? ⟨b, i, none⟩ = some (.float .f32 (floatOfInt .f32 (1 + i)))) := fun h0 => by
      obtain ⟨b, he, hcs⟩ := MK10.out h0
      have hy := Y4.out _ he
      exact ⟨b, he, fun i hi => (World.cell?_of_block (a := ⟨b, i, none⟩) (B1014.out.block b (by have := hy.2; have := sz8.out; have := sz10.out; simp at *; omega))).trans (hcs i hi)⟩
    go_wp2_with fail
    refine (heldFloats_any A4 _ _ 1 _ hb2 (by omega) K14.out).mono ?_
    rintro e w15 ⟨rfl, rfl⟩
    go_wp2
    go_ret
    exact ⟨rfl, D14.out⟩
end Go.Proofs.Ytdfookgncokgjab
