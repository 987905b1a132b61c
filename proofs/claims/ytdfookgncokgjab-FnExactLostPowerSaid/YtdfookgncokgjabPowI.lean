/-
  The powers of all axles: the program's function, the law.
-/
import Derived.Test.YtdfookgncokgjabPow
import Derived.Laws.OwnMore
namespace Go.Proofs.Ytdfookgncokgjab
open Go.RowKit Go.ChangeShapes Go.WideShapes Go.Deep
attribute [local go_sem ↓] Go.wp_at_zero Go.wp_at_succ
set_option linter.unusedVariables false
set_option linter.unusedSimpArgs false
def powersC (ps : List Pr) (x y : Nat) : List Nat := if codeDrive ps [x, y] = 0 then powC ps x y else []
theorem drive_ok {ps : List Pr} {xs : List Nat} (h : codeDrive ps xs = 0) : okTr ps = true := by
  rcases Bool.eq_false_or_eq_true (okTr ps) with h1 | h1
  · exact h1
  · simp [codeDrive, h1] at h
theorem powersC_len (ps : List Pr) (x y : Nat) : (powersC ps x y).length ≤ 9 := by
  unfold powersC
  split
  · rename_i h
    have := size_bounds (drive_ok h)
    rw [powC_len]; omega
  · simp
theorem set_next {hs fs : List Nat} {k f r : Nat} (hl : hs.length = k) (hf : fs[k]? = some f) : (hs ++ fs.drop k).set k r = (hs ++ [r]) ++ fs.drop (k + 1) := by
  obtain ⟨h1, h2⟩ := List.getElem?_eq_some_iff.1 hf
  rw [List.drop_eq_getElem_cons h1, List.set_append_right _ _ (by omega), hl, Nat.sub_self, List.set_cons_zero, List.append_assoc]
  rfl
theorem two_fl (w : World) (x y : Nat) : Fl (w.alloc (.cells #[.float .f32 x, .float .f32 y] 31)) 0 (w.alloc (.cells #[.float .f32 x, .float .f32 y] 31)).heap.size (some ⟨w.heap.size, 0, none⟩) [x, y] := fun _ =>
  ⟨w.heap.size, rfl, Nat.zero_le _, by simp, fun i f hf => by
    have hb : (w.alloc (.cells #[.float .f32 x, .float .f32 y] 31)).heap[w.heap.size]? = some (.cells #[.float .f32 x, .float .f32 y] 31 (0, 0)) := heap_alloc_new w _
    rw [cell_of_row _ _ i _ _ _ hb]
    match i, hf with
    | 0, hf => (simp at hf; subst hf; rfl)
    | 1, hf => (simp at hf; subst hf; rfl)
    | i + 2, hf => simp at hf⟩
set_option maxRecDepth 100000 in
theorem specPowersOf_any (A : Option Addr) (n c : Nat) (ps : List Pr) (x y : Nat) (w : World) (hl : ps.length = n) (hn : n ≤ 1048576) (hT : Tr w w.heap.size A ps) (hw : ∀ p ∈ ps, p.wf) :
    Calls Try.prog 28 #[.slice A n c, .float .f32 x, .float .f32 y] w (FLC (powersC ps x y) (codeDrive ps [x, y]) w) := by
  have Hl := Lib.hid hl; clear hl
  have HT := Lib.hid hT; clear hT
  have Hw := Lib.hid hw; clear hw
  have hde := l01Asked_any A n c ps x y w Hl.out hn HT.out Hw.out
  unfold powersC
  by_cases h0 : codeDrive ps [x, y] = 0
  · have hok := drive_ok h0
    rw [if_pos h0]
    rw [h0] at hde ⊢
    have Hok := Lib.hid hok; have Hde := Lib.hid hde
    clear hok hde h0
    go_enter Try.func28, Try.ntmps28
    go_wp2_with fail
    refine Hde.out.mono ?_
    rintro e w1 ⟨rfl, rfl⟩
    go_wp2_with fail
    refine (l01Powers_any _ _ _ ps _ _ _ Hl.out hn HT.out Hw.out Hok.out).mono ?_
    rintro e w2 ⟨v, fs, rfl, hr, hc, b2⟩
    have Fin := Lib.hid (frow_flc (e := .returned v) (Below.refl _ _) hr hc b2)
    clear hr hc b2
    go_wp2
    go_ret2
    exact Fin.out
  · rw [if_neg h0]
    generalize codeDrive ps [x, y] = code at *
    have Hde := Lib.hid hde; clear hde
    go_enter Try.func28, Try.ntmps28
    go_wp2_with fail
    refine Hde.out.mono ?_
    rintro e w1 ⟨rfl, rfl⟩
    go_wp2
    go_ret2
    exact flc_of_row (fs := []) (own_empty _ _ _ _ (Nat.le_refl _)) ((Below.refl _ _).alloc (Nat.le_refl _) _)
set_option maxRecDepth 100000 in
set_option maxHeartbeats 2000000 in
theorem implPowersOf_any (A : Option Addr) (n c : Nat) (ps : List Pr) (x y : Nat) (w : World) (hl : ps.length = n) (hn : n ≤ 1048576) (hT : Tr w w.heap.size A ps) (hw : ∀ p ∈ ps, p.wf) :
    Calls Try.prog 29 #[.slice A n c, .float .f32 x, .float .f32 y] w (FLC (powersC ps x y) (codeDrive ps [x, y]) w) := by
  have hb0 : Below w.heap.size w (w.alloc (.cells #[.float .f32 x, .float .f32 y] 31)) := (Below.refl _ _).alloc (Nat.le_refl _) _
  have HB0 := Lib.hid hb0
  have HT0 := Lib.hid (hT.keep hb0)
  clear hb0
  have Hl := Lib.hid hl; clear hl
  have HT := Lib.hid hT; clear hT
  have Hw := Lib.hid hw; clear hw
  have hde := driveError_any A n c ps (some ⟨w.heap.size, 0, none⟩) 2 2 [x, y] _ Hl.out hn HT0.out Hw.out rfl (by omega) (two_fl w x y)
  unfold powersC
  by_cases h0 : codeDrive ps [x, y] = 0
  · have hok := drive_ok h0
    rw [if_pos h0]
    rw [h0] at hde ⊢
    have Hok := Lib.hid hok; have Hde := Lib.hid hde
    clear hok hde h0
    go_enter Try.func29, Try.ntmps29
    go_wp2_with fail
    refine Hde.out.mono ?_
    rintro e w1 ⟨rfl, b1⟩
    have B1 := Lib.hid (bthen HB0.out b1); clear b1
    have T1 := Lib.hid (HT.out.keep B1.out)
    go_wp2_with fail
    refine (allAxles_any 56 gSpeed passSpeed_any (enters_of Try.func56 (by kernel_rfl) rfl) _ _ _ ps _ _ Hl.out hn T1.out).mono ?_
    rintro e w2 ⟨v1, fs, rfl, r1, hc1, b2⟩
    have hfl : fs.length = n + 1 := by have := congrArg List.length hc1; rw [List.length_map, axC_len] at this; have := Hl.out; omega
    rw [hfl] at r1
    obtain ⟨g1, cap1, rfl, hg1, hg1lt⟩ := r1.form (by omega)
    have O1 := Lib.hid r1
    have B2 := Lib.hid (bthen B1.out b2)
    have T2 := Lib.hid (T1.out.keep b2)
    have C1 := Lib.hid hc1; have F1 := Lib.hid hfl
    have hg1w : w.heap.size ≤ g1 := Nat.le_trans B1.out.size hg1
    clear r1 hc1 hfl b2
    go_wp2_with fail
    refine (allAxles_any 58 gTorque passTorque_any (enters_of Try.func58 (by kernel_rfl) rfl) _ _ _ ps _ _ Hl.out hn T2.out).mono ?_
    rintro e w3 ⟨v2, gs, rfl, r2, hc2, b3⟩
    have hgl : gs.length = n + 1 := by have := congrArg List.length hc2; rw [List.length_map, axC_len] at this; have := Hl.out; omega
    rw [hgl] at r2
    obtain ⟨g2, cap2, rfl, hg2, hg2lt⟩ := r2.form (by omega)
    have hne : g1 ≠ g2 := by omega
    have R2 := Lib.hid (rowAt_of r2 hg2lt)
    have O3 : Hid (w3.ownsRow w.heap.size 31 1 (.slice (some ⟨g1, 0, none⟩) (n + 1) cap1) (n + 1) (fs.map (Value.float .f32))) := by
      have h9 := O1.out
      refine ⟨h9.1, ?_⟩
      rcases h9.2 with ⟨h, _⟩ | ⟨g, cap, cur, e, hg, hh, rest⟩
      · cases h
      · have eg : g = g1 := by injection e with e1; injection e1 with e2; injection e2 with e3; exact e3.symm
        subst eg
        exact .inr ⟨g, cap, cur, e, hg1w, (b3.block g hg1lt).trans hh, rest⟩
    have B3 := Lib.hid (bthen B2.out b3)
    have C2 := Lib.hid hc2; have F2 := Lib.hid hgl
    have Hne := Lib.hid hne
    clear r2 hc2 hgl b3 hg2 hg2lt hne hg1 hg1lt
    go_wp2
    go_loopw [10, 11, 27] (fun a b i wr => ∃ (k : Nat) (hs : List Nat), k ≤ n + 1 ∧ i = .int .i64 k ∧ hs.length = k ∧ wr.ownsRow w.heap.size 31 1 (.slice (some ⟨g1, 0, none⟩) (n + 1) cap1) (n + 1) ((hs ++ fs.drop k).map (Value.float .f32)) ∧ hs.map cn = (powC ps x y).take k ∧ Below w.heap.size w wr ∧ RowAt wr g2 gs) (fun _ _ i _ => n + 1 - (intOf i).toNat)
    case atStart => exact ⟨0, [], Nat.zero_le _, rfl, rfl, by simpa using O3.out, rfl, B3.out, R2.out⟩
    case round =>
      obtain ⟨k, hs, hk, rfl, hlen, hown, hcs, hb, hr2⟩ := hrel
      have Hlen := Lib.hid hlen; have Hown := Lib.hid hown; have Hcs := Lib.hid hcs; have Hb := Lib.hid hb; have Hr2 := Lib.hid hr2
      clear hlen hown hcs hb hr2
      by_cases hlt : k < n + 1
      · obtain ⟨f, hf⟩ : ∃ f, fs[k]? = some f := ⟨_, List.getElem?_eq_getElem (by have := F1.out; omega)⟩
        obtain ⟨g, hg⟩ : ∃ g, gs[k]? = some g := ⟨_, List.getElem?_eq_getElem (by have := F2.out; omega)⟩
        have hat : (hs ++ fs.drop k)[k]? = some f := by
          rw [List.getElem?_append_right (by rw [Hlen.out]; exact Nat.le_refl _), Hlen.out, Nat.sub_self, List.getElem?_drop, Nat.add_zero, hf]
        have cf : wr.cell? ⟨g1, k, none⟩ = some (.float .f32 f) := own_cell Hown.out (by rw [List.getElem?_map, hat]; rfl)
        have cg := Hr2.out.2 k g hg
        have hfz : wr.frozen? ⟨g1, k, none⟩ = false := by
          exact World.ownsRow.frozenAt Hown.out k
        have hpc := Lib.hid (powC_at C1.out C2.out hf hg)
        have Hat := Lib.hid hat; have Hf := Lib.hid hf; have Hg := Lib.hid hg
        clear hf hg hat
        have z1 : (0 : Int) ≤ (k : Int) := by omega
        have z2 : (k : Int) < (n : Int) + 1 := by omega
        obtain ⟨R, N, hR, hcR⟩ := f32_fun Try.prog .mul 31 rfl
        have HcR := Lib.hid hcR; clear hcR
        have O9 : Hid (((wr.drewN (N f g wr)).setCell ⟨g1, k, none⟩ (.float .f32 (R f g wr))).ownsRow w.heap.size 31 1 (.slice (some ⟨g1, 0, none⟩) (n + 1) cap1) (n + 1) (((hs ++ [R f g wr]) ++ fs.drop (k + 1)).map (Value.float .f32))) := by
          have := (World.ownsRow.stored (own_heap (w' := wr.drewN (N f g wr)) (by rfl) Hown.out) k (.float .f32 (R f g wr))).1
          rw [← List.map_set, set_next Hlen.out Hf.out] at this
          exact this
        have e9 : Hid ((hs ++ [R f g wr]).map cn = (powC ps x y).take (k + 1)) := by
          show _ = _
          rw [List.take_add_one, hpc.out, List.map_append, Hcs.out]
          simp only [List.map_cons, List.map_nil, HcR.out, Option.toList]
        have B9 : Hid (Below w.heap.size w ((wr.drewN (N f g wr)).setCell ⟨g1, k, none⟩ (.float .f32 (R f g wr)))) := (below_drewN Hb.out _).setCell (p := ⟨g1, k, none⟩) hg1w _
        have R9 : Hid (RowAt ((wr.drewN (N f g wr)).setCell ⟨g1, k, none⟩ (.float .f32 (R f g wr))) g2 gs) := by
          refine ⟨by have := Hr2.out.1; simpa [World.setCell] using this, fun i u hu => ?_⟩
          rw [World.cell?_setCell_other _ _ _ _ (fun e => Hne.out (by injection e))]
          exact Hr2.out.2 i u hu
        have L9 : Hid ((hs ++ [R f g wr]).length = k + 1) := by show _ = _; simp [Hlen.out]
        go_wp2
        refine ⟨⟨k + 1, hs ++ [R f g wr], by omega, by go_num, L9.out, O9.out, e9.out, B9.out, R9.out⟩, ?_⟩
        simp [intOf]; omega
      · have hkn : k = n + 1 := by omega
        subst hkn
        have hz : hs.map cn = powC ps x y := by
          have := Hcs.out
          rwa [List.take_of_length_le (by rw [powC_len, Hl.out]; exact Nat.le_refl _)] at this
        have Hz := Lib.hid hz
        clear hz
        go_wp2
        go_ret2
        have h9 := Hown.out
        rw [List.drop_of_length_le (by rw [F1.out]; exact Nat.le_refl _), List.append_nil] at h9
        have := flc_of_row (k := 0) h9 Hb.out
        rw [Hz.out] at this
        exact this
  · rw [if_neg h0]
    generalize codeDrive ps [x, y] = code at *
    have Hde := Lib.hid hde; clear hde
    go_enter Try.func29, Try.ntmps29
    go_wp2_with fail
    refine Hde.out.mono ?_
    rintro e w1 ⟨rfl, b1⟩
    have B1 := Lib.hid (bthen HB0.out b1); clear b1
    go_wp2
    go_ret2
    exact flc_of_row (fs := []) (World.ownsRow_nil _ _ _ _) B1.out
set_option maxRecDepth 100000 in
set_option maxHeartbeats 1000000 in
theorem walk_FnExactPowersOf (A : Option Addr) (n c : Nat) (ps : List Pr) (x : Nat) (wx : (Lit.float .f32 x).wf = true) (y : Nat) (wy : (Lit.float .f32 y).wf = true) (w : World) (h : PairsIn w A n c ps) :
    Calls Try.prog 6 #[.slice A n c, .float .f32 x, .float .f32 y] w fun e w' => e = .returned (.bool true) ∧ Below w.heap.size w w' := by
  obtain ⟨hl, hnc, hc, hT, hw⟩ := h
  have hnm : n ≤ maxLen := Nat.le_trans hnc hc
  have Hl := Lib.hid hl; clear hl
  have HT := Lib.hid hT; clear hT
  have Hw := Lib.hid hw; clear hw
  by_cases hn : 1048576 < n
  · go_enter Try.func6, Try.ntmps6
    go_wp2_with (go_at_call 15; refine (szTrain_any _ _ _ _ hnm).mono ?_; rintro e w1 ⟨rfl, rfl⟩; rw [if_pos hn])
    go_ret
    exact ⟨rfl, Below.refl _ _⟩
  · have hn' : n ≤ 1048576 := by omega
    go_enter Try.func6, Try.ntmps6
    go_wp2_with (go_at_call 15; refine (szTrain_any _ _ _ _ hnm).mono ?_; rintro e w1 ⟨rfl, rfl⟩; rw [if_neg hn])
    refine (toTrain_any A n c ps _ Hl.out hn' HT.out).mono ?_
    rintro e w1 ⟨rfl, m1⟩
    have M1 := Lib.hid m1; clear m1
    go_wp2_with fail
    refine (specPowersOf_any _ _ _ ps x y _ Hl.out hn' M1.out.tr Hw.out).mono ?_
    rintro e w2 ⟨A2, n2, c2, fs2, rfl, hl2, hc2, hf2, ho2, ha2, b2⟩
    have hb2 : n2 ≤ 1048576 := by
      have hx := congrArg List.length hc2
      rw [List.length_map, hl2] at hx
      rw [hx]
      exact (Nat.le_trans (powersC_len ps x y) (by decide))
    have D2 := Lib.hid (bthen M1.out.below b2)
    have S2 := Lib.hid (show w1.heap.size ≤ w2.heap.size from b2.size)
    have L2 := Lib.hid hl2; have C2 := Lib.hid hc2; have F2 := Lib.hid hf2; have Y2 := Lib.hid ha2
    clear hl2 hc2 hf2 ho2 ha2 b2
    go_wp2_with fail
    refine (toTrain_any A n c ps _ Hl.out hn' (HT.out.keep D2.out)).mono ?_
    rintro e w3 ⟨rfl, m3⟩
    have M3 := Lib.hid m3; clear m3
    have D3 := Lib.hid (bthen D2.out M3.out.below)
    go_wp2_with fail
    refine (implPowersOf_any _ _ _ ps x y _ Hl.out hn' M3.out.tr Hw.out).mono ?_
    rintro e w4 ⟨A4, n4, c4, fs4, rfl, hl4, hc4, hf4, ho4, ha4, b4⟩
    have h42 : fs4.map cn = fs2.map cn := hc4.trans C2.out.symm
    obtain rfl : n4 = n2 := by
      have := congrArg List.length h42
      rw [List.length_map, List.length_map, hl4, L2.out] at this
      exact this
    have D4 := Lib.hid (bthen D3.out b4)
    have X34 := Lib.hid b4
    have L4 := Lib.hid hl4; have E42 := Lib.hid h42; have F4 := Lib.hid hf4; have O4 := Lib.hid ho4; have Y4 := Lib.hid ha4
    have C4 := Lib.hid hc4
    clear hl4 hc4 h42 hf4 ho4 ha4 b4
    have G2 := Lib.hid ((F2.out.below M3.out.below (Nat.le_refl _)).below X34.out M3.out.below.size)
    go_wp2_with fail
    refine (eqFloats_same A4 A2 _ _ _ fs4 fs2 _ L4.out E42.out hb2 F4.out (G2.out.more (Nat.le_trans M3.out.below.size X34.out.size))).mono ?_
    rintro e w5 ⟨rfl, b5⟩
    have B5 := Lib.hid b5
    have D5 := Lib.hid (bthen D4.out b5); clear b5
    have M3x := Lib.hid (M3.out.tr.keep (bthen X34.out B5.out))
    go_wp2_with fail
    refine (toTrain_any A n c ps _ Hl.out hn' (HT.out.keep D5.out)).mono ?_
    rintro e w6 ⟨rfl, m6⟩
    have M6 := Lib.hid m6; clear m6
    have D6 := Lib.hid (bthen D5.out M6.out.below)
    go_wp2_with fail
    refine (eqTrain_same _ _ _ _ _ ps _ Hl.out hn' (M3x.out.keep M6.out.below) M6.out.tr).mono ?_
    rintro e w7 ⟨rfl, b7⟩
    have B7 := Lib.hid b7
    have D7 := Lib.hid (bthen D6.out b7); clear b7
    have B47 : Hid (Below w4.heap.size w4 w7) := bthen (bthen B5.out M6.out.below) B7.out
    have B37 : Hid (Below w3.heap.size w3 w7) := bthen X34.out B47.out
    go_wp2_with fail
    refine (markTrain_any _ _ _ _ hn' (there_of_block M3.out.1 (B37.out.block _ M3.out.2.2.1))).mono ?_
    rintro e w8 ⟨rfl, mb8⟩
    have MB8 := Lib.hid mb8; clear mb8
    have hlt23 : w2.heap.size < w3.heap.size := M3.out.2.2.1
    have P8 := Lib.hid ((F4.out.below B47.out (Nat.le_refl _)).mb MB8.out (fun a h => by cases h; exact .inl hlt23))
    have Q8 := Lib.hid ((G2.out.below (B' := w4.heap.size) B47.out (Nat.le_trans M3.out.below.size X34.out.size)).mb MB8.out (fun a h => by cases h; exact .inr (Nat.le_refl _)))
    have sz8 : Hid (w8.heap.size = w7.heap.size) := MB8.out.1
    have D8 : Hid (Below w.heap.size w w8) := D7.out.trans (MB8.out.2.2 _ (fun a h => by cases h; exact D2.out.size))
    have s48 : w4.heap.size ≤ w8.heap.size := by rw [sz8.out]; exact B47.out.size
    have s34 : w3.heap.size ≤ w4.heap.size := X34.out.size
    go_wp2_with fail
    refine (eqFloats_same A4 A2 _ _ _ fs4 fs2 _ L4.out E42.out hb2 (P8.out.more s48) (Q8.out.more (by have := sz8.out; omega))).mono ?_
    rintro e w9 ⟨rfl, b9⟩
    have B9 := Lib.hid b9
    have D9 := Lib.hid (bthen D8.out b9); clear b9
    have s89 : w8.heap.size ≤ w9.heap.size := B9.out.size
    have O9 : Hid (0 < n4 → ∃ b, A4 = some ⟨b, 0, none⟩ ∧ w9.there b 0 n4) := fun h0 => by
      obtain ⟨b, he, ht⟩ := O4.out h0
      have hy := Y4.out _ he
      have e1 : w7.heap[b]? = w4.heap[b]? := B47.out.block b hy.2
      have e2 : w8.heap[b]? = w7.heap[b]? := MB8.out.2.1 b (fun a h => by cases h; have := hy.1; simp at this ⊢; omega)
      have e3 : w9.heap[b]? = w8.heap[b]? := B9.out.block b (by have := hy.2; simp at this; omega)
      exact ⟨b, he, there_of_block ht (e3.trans (e2.trans e1))⟩
    go_wp2_with fail
    refine (markFloats_any A4 _ _ 1 _ hb2 (by omega) O9.out).mono ?_
    rintro e w10 ⟨rfl, mb10, mk10⟩
    have MB10 := Lib.hid mb10; have MK10 := Lib.hid mk10
    clear mb10 mk10
    have D10 : Hid (Below w.heap.size w w10) := D9.out.trans (MB10.out.2.2 _ (fun a h => Nat.le_trans D3.out.size (Y4.out a h).1))
    have sz10 : Hid (w10.heap.size = w9.heap.size) := MB10.out.1
    have Q10 := Lib.hid ((Q8.out.below B9.out (by have := sz8.out; omega)).mb MB10.out (fun a h => .inr (by have := (Y4.out a h).1; omega)))
    go_wp2_with fail
    refine (heldFloats_any A4 _ _ 1 _ hb2 (by omega) MK10.out).mono ?_
    rintro e w10' ⟨rfl, rfl⟩
    go_wp2_with fail
    refine (toTrain_any A n c ps _ Hl.out hn' (HT.out.keep D10.out)).mono ?_
    rintro e w12 ⟨rfl, m12⟩
    have M12 := Lib.hid m12; clear m12
    have D12 := Lib.hid (bthen D10.out M12.out.below)
    go_wp2_with fail
    refine (implPowersOf_any _ _ _ ps x y _ Hl.out hn' M12.out.tr Hw.out).mono ?_
    rintro e w13 ⟨A5, n5, c5, fs5, rfl, hl5, hc5, hf5, ho5, ha5, b13⟩
    have h52 : fs5.map cn = fs2.map cn := hc5.trans C2.out.symm
    obtain rfl : n5 = n4 := by
      have := congrArg List.length h52
      rw [List.length_map, List.length_map, hl5, L2.out] at this
      exact this
    have D13 := Lib.hid (bthen D12.out b13)
    have B1013 := Lib.hid (bthen M12.out.below b13)
    have L5 := Lib.hid hl5; have E52 := Lib.hid h52; have F5 := Lib.hid hf5
    clear hl5 hc5 h52 hf5 ho5 ha5 b13
    have s1013 : w10.heap.size ≤ w13.heap.size := B1013.out.size
    go_wp2_with fail
    refine (eqFloats_same A5 A2 _ _ _ fs5 fs2 _ L5.out E52.out hb2 F5.out ((Q10.out.below (B' := w10.heap.size) B1013.out (by have := sz8.out; have := sz10.out; omega)).more (by have := sz8.out; have := sz10.out; omega))).mono ?_
    rintro e w14 ⟨rfl, b14⟩
    have D14 := Lib.hid (bthen D13.out b14)
    have B1014 := Lib.hid (bthen B1013.out b14); clear b14
    have K14 : Hid (0 < n5 → ∃ b, A4 = some ⟨b, 0, none⟩ ∧ ∀ i : Nat, i < n5 → w14.cell? ⟨b, i, none⟩ = some (.float .f32 (floatOfInt .f32 (1 + i)))) := fun h0 => by
      obtain ⟨b, he, hcs⟩ := MK10.out h0
      have hy := Y4.out _ he
      exact ⟨b, he, fun i hi => (World.cell?_of_block (a := ⟨b, i, none⟩) (B1014.out.block b (by have := hy.2; have := sz8.out; have := sz10.out; simp at *; omega))).trans (hcs i hi)⟩
    go_wp2_with fail
    refine (heldFloats_any A4 _ _ 1 _ hb2 (by omega) K14.out).mono ?_
    rintro e w15 ⟨rfl, rfl⟩
    go_wp2
    go_ret
    exact ⟨rfl, D14.out⟩
end Go.Proofs.Ytdfookgncokgjab
