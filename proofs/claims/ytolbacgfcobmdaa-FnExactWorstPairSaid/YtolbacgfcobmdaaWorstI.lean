/-
  The pair with the greatest loss: the program's function.
-/
import Derived.Test.YtolbacgfcobmdaaWorst
namespace Go.Proofs.Ytolbacgfcobmdaa
open Go.RowKit Go.ChangeShapes Go.WideShapes Go.Deep Go.Maps
set_option linter.unusedVariables false
set_option linter.unusedSimpArgs false
theorem lawW : Keyed Try.prog 67 := int_keyed Try.underlying67
theorem zeroW (w : World) : (zeroValue 2).run Try.prog w = .ok (.int .i64 0) w := by kernel_rfl
theorem kOf_is {ps : List Pr} {j : Nat} (h : okTr ps = true) (hj : j < ps.length) : keyOf Try.prog 67 (.int .u32 (rkAt ps j)) = some (kOf ps j) := by
  refine keyOf_int_mk Try.underlying67 ?_
  have := part_rk (part_at h hj)
  unfold rkAt
  simp [Lit.wf, IntKind.min, IntKind.max, IntKind.signed, IntKind.bits]
  omega
theorem i64_nat (j : Nat) (h : j ≤ 1048576) : (Lit.int .i64 (j : Int)).wf = true := by
  simp [Lit.wf, IntKind.min, IntKind.max, IntKind.signed, IntKind.bits]
  omega
set_option maxRecDepth 100000 in
set_option maxHeartbeats 2000000 in
theorem firstW_any (A : Option Addr) (n c : Nat) (ps : List Pr) (w : World) (hok : okTr ps = true) (hl : ps.length = n) (hn : n ≤ 1048576) (hT : Tr w w.heap.size A ps) (hw : ∀ p ∈ ps, p.wf) :
    Calls Try.prog 38 #[.slice A n c] w fun e w' => e = .returned (.map (some w.heap.size)) ∧ (∃ D, w'.ownsMap Try.prog 67 (plainElem (H := Unit) Try.prog 2) w.heap.size n D ∧ FW ps n D) ∧ Below w.heap.size w w' := by
  have hmm := @run_makeMap Try.prog
  have Hl := Lib.hid hl; clear hl
  have HT := Lib.hid hT; clear hT
  have Hw := Lib.hid hw; clear hw
  have Hok := Lib.hid hok; clear hok
  go_enter Try.func38, Try.ntmps38
  go_wp2
  clear hmm
  go_loopw [12] (fun i wr => ∃ (k : Nat) (D : DataW Unit), k ≤ n ∧ i = .int .i64 k ∧ wr.ownsMap Try.prog 67 (plainElem (H := Unit) Try.prog 2) w.heap.size k D ∧ FW ps k D ∧ Below w.heap.size w wr) (fun i _ => n - (intOf i).toNat)
  case atStart => exact ⟨0, _, Nat.zero_le _, rfl, World.ownsMap_made _ _ _ _, FW.zero ps, (Below.refl _ _).alloc (Nat.le_refl _) _⟩
  case round =>
    obtain ⟨k, D, hk, rfl, hown, hf, hb⟩ := hrel
    have Hb := Lib.hid hb; have Hf := Lib.hid hf; have Hown := Lib.hid hown
    clear hb hf hown
    by_cases hlt : k < n
    · have hkl : k < ps.length := by have := Hl.out; omega
      obtain ⟨b, off, rfl, hbs, hc⟩ := HT.out (by omega)
      obtain ⟨p, hp⟩ : ∃ p, ps[k]? = some p := ⟨_, List.getElem?_eq_getElem hkl⟩
      obtain ⟨c0, c1, c2⟩ := cells3 (rangeAt_of_block (hc k p hp) (Hb.out.block b hbs))
      have Hpt : Hid (partB p.l = true) := by have := part_at Hok.out hkl; rwa [lossAt_of hp] at this
      have Hpw : Hid (p.l < 4294967296) := (Hw.out p (List.mem_of_getElem? hp)).2.2
      have Hkey : Hid (keyOf Try.prog 67 (.int .u32 (rk p.l)) = some (kOf ps k)) := by have := kOf_is Hok.out hkl; rwa [rkAt, lossAt_of hp] at this
      clear hc hkl hp
      have hown1 : (wr.alloc (.cells #[.int .i16 p.a, .int .i16 p.b, .float .f32 p.l] 62)).ownsMap Try.prog 67 (plainElem (H := Unit) Try.prog 2) w.heap.size k D := Hown.out.alloc _
      have Hown1 := Lib.hid hown1; clear hown1
      have Hb1 : Hid (Below w.heap.size w (wr.alloc (.cells #[.int .i16 p.a, .int .i16 p.b, .float .f32 p.l] 62))) := Hb.out.alloc Hb.out.size _
      rcases Bool.eq_false_or_eq_true (has D (kOf ps k)) with hh | hh
      · have F1 := Lib.hid (Hf.out.stay hh)
        go_wp2_with (first
          | (go_at_call 39; refine (lossKey_any p.l Hpt.out Hpw.out _).mono ?_; rintro e w1 ⟨rfl, rfl⟩)
          | (at_lookup; refine wpList_lookup_own_ok_int _ rfl _ _ 65 rfl 67 2 .i64 lawW Try.underlying65 Try.underlying2 (zeroW _) w.heap.size k _ rfl Hown1.out _ _ rfl Hkey.out ?_; intro cc hat hwc; rw [hh]; clear hat hwc))
        have Hown2 : Hid ((wr.alloc (.cells #[.int .i16 p.a, .int .i16 p.b, .float .f32 p.l] 62)).ownsMap Try.prog 67 (plainElem (H := Unit) Try.prog 2) w.heap.size (k + 1) D) := Hown1.out.mono (Nat.le_succ _)
        clear c0 c1 c2 hh
        go_roundw
        case rel => exact ⟨k + 1, D, by omega, by go_num, Hown2.out, F1.out, Hb1.out⟩
        case measure => simp [intOf]; omega
      · have F1 := Lib.hid (Hf.out.put hh)
        go_wp2_with (first
          | (go_at_call 39; refine (lossKey_any p.l Hpt.out Hpw.out _).mono ?_; rintro e w1 ⟨rfl, rfl⟩)
          | (at_lookup; refine wpList_lookup_own_ok_int _ rfl _ _ 65 rfl 67 2 .i64 lawW Try.underlying65 Try.underlying2 (zeroW _) w.heap.size k _ rfl Hown1.out _ _ rfl Hkey.out ?_; intro cc hat hwc; rw [hh]; clear hat hwc)
          | (at_mapUpdate; refine wpList_mapUpdate_own _ rfl _ _ _ 65 rfl 67 2 lawW Try.underlying65 _ w.heap.size k _ rfl Hown1.out (by unfold maxLen; omega) _ _ _ rfl rfl Hkey.out _ [] (plainElem_int Try.underlying2 (i64_nat k (by omega))) ?_; intro w9 hown9 hgrow9))
        have B9 : Hid (Below w.heap.size w w9) := Hb1.out.grown hgrow9 Hb1.out.size (fun j hj => by cases hj; exact Nat.le_refl _)
        have O9 := Lib.hid hown9
        clear c0 c1 c2 hh hown9 hgrow9
        go_wp2
        go_roundw
        case rel => exact ⟨k + 1, _, by omega, by go_num, O9.out, F1.out, B9.out⟩
        case measure => simp [intOf]; omega
    · have hkn : k = n := by omega
      subst hkn
      go_wp2
      go_ret
      exact ⟨rfl, ⟨D, Hown.out, Hf.out⟩, Hb.out⟩
theorem max_rk {x y : Nat} (hx : nan32 x = false) (hy : nan32 y = false) : ∃ z, (∀ (ts : Array TypeId) (t : TypeId) (w : World), (Builtin.max_ ts t #[.float .f32 x, .float .f32 y]).run Try.prog w = .ok (.float .f32 z) w) ∧ (z = x ∨ z = y) ∧ rk x ≤ rk z ∧ rk y ≤ rk z := by
  have ho := ord_rk hx hy
  unfold Builtin.max_ Builtin.max2
  rcases Int.lt_trichotomy (rk x) (rk y) with h | h | h
  · rw [Int.compare_eq_lt.2 h] at ho
    exact ⟨y, fun _ _ _ => by simp [ho], .inr rfl, by omega, by omega⟩
  · rw [Int.compare_eq_eq.2 h] at ho
    by_cases hn : (FloatKind.f32.decode x).neg = true
    · exact ⟨y, fun _ _ _ => (by simp [ho]; intro h; rw [hn] at h; cases h), .inr rfl, by omega, by omega⟩
    · exact ⟨x, fun _ _ _ => (by simp [ho]; intro h; exact absurd h hn), .inl rfl, by omega, by omega⟩
  · rw [Int.compare_eq_gt.2 h] at ho
    exact ⟨x, fun _ _ _ => by simp [ho], .inl rfl, by omega, by omega⟩
/-- The greatest loss of the first k pairs. -/
def IsMost (ps : List Pr) (k g : Nat) : Prop := (∃ j, j < ps.length ∧ g = lossAt ps j) ∧ (∀ i, i < k → rkAt ps i ≤ rk g) ∧ ∃ j, j < ps.length ∧ (j < k ∨ j = 0) ∧ rkAt ps j = rk g
set_option maxRecDepth 100000 in
set_option maxHeartbeats 2000000 in
theorem implWorst_any (A : Option Addr) (n c : Nat) (ps : List Pr) (w : World) (hl : ps.length = n) (hn : n ≤ 1048576) (hT : Tr w w.heap.size A ps) (hw : ∀ p ∈ ps, p.wf) :
    Calls Try.prog 12 #[.slice A n c] w fun e w' => WorstE ps e ∧ Below w.heap.size w w' := by
  have Hl := Lib.hid hl; clear hl
  have HT := Lib.hid hT; clear hT
  have Hw := Lib.hid hw; clear hw
  unfold WorstE
  rcases Bool.eq_false_or_eq_true (okTr ps) with h1 | h1
  · simp only [h1, if_true]
    have zs := size_bounds h1
    rw [Hl.out] at zs
    have H1 := Lib.hid h1
    obtain ⟨b, off, rfl, hbs, hc⟩ := HT.out (by rw [Hl.out]; omega)
    have Hc := Lib.hid hc; clear hc
    obtain ⟨p0, hp0⟩ : ∃ p, ps[0]? = some p := ⟨_, List.getElem?_eq_getElem (by rw [Hl.out]; omega)⟩
    have Hp0 := Lib.hid hp0; clear hp0
    have y0 : (0 : Int) < (n : Int) := by omega
    go_enter Try.func12, Try.ntmps12
    go_wp2_with (go_at_call 37; refine (validTrain_any _ _ _ ps _ Hl.out hn HT.out Hw.out).mono ?_; rintro e w1 ⟨rfl, b1⟩; have B1 := Lib.hid b1; clear b1; obtain ⟨c0, c1, c2⟩ := cells3 (rangeAt_of_block (Hc.out 0 p0 Hp0.out) (B1.out.block b hbs)); simp only [Nat.zero_mul, Nat.add_zero] at c0 c1 c2)
    clear c0 c1 c2
    have zm : Hid (IsMost ps 0 p0.l) := ⟨⟨0, by rw [Hl.out]; omega, (lossAt_of Hp0.out).symm⟩, fun i h => absurd h (by omega), 0, by rw [Hl.out]; omega, .inr rfl, by rw [rkAt, lossAt_of Hp0.out]⟩
    go_loopw [5, 18] (fun gv i wr => ∃ k g : Nat, k ≤ n ∧ i = .int .i64 k ∧ gv = .float .f32 g ∧ IsMost ps k g ∧ Below w.heap.size w wr) (fun _ i _ => n - (intOf i).toNat)
    case atStart => exact ⟨0, p0.l, Nat.zero_le _, rfl, rfl, zm.out, B1.out⟩
    case round =>
      obtain ⟨k, g, hk, rfl, rfl, hz, hb⟩ := hrel
      have Hz := Lib.hid hz; have Hb := Lib.hid hb
      clear hz hb
      by_cases hlt : k < n
      · have hkl : k < ps.length := by rw [Hl.out]; exact hlt
        obtain ⟨p, hp⟩ : ∃ p, ps[k]? = some p := ⟨_, List.getElem?_eq_getElem hkl⟩
        obtain ⟨c0, c1, c2⟩ := cells3 (rangeAt_of_block (Hc.out k p hp) (Hb.out.block b hbs))
        have hnp : nan32 p.l = false := by have := part_num (part_at H1.out hkl); rwa [lossAt_of hp] at this
        have hng : nan32 g = false := by obtain ⟨⟨j, hj, e⟩, _⟩ := Hz.out; rw [e]; exact part_num (part_at H1.out hj)
        obtain ⟨z, hmx, hzz, r1, r2⟩ := max_rk hng hnp
        have N : Hid (IsMost ps (k + 1) z) := by
          obtain ⟨⟨j, hj, e⟩, h2, j', hj', hjk, e'⟩ := Hz.out
          have er : rkAt ps k = rk p.l := by unfold rkAt; rw [lossAt_of hp]
          refine ⟨?_, fun i hi => ?_, ?_⟩
          · rcases hzz with rfl | rfl
            · exact ⟨j, hj, e⟩
            · exact ⟨k, hkl, (lossAt_of hp).symm⟩
          · rcases (by omega : i < k ∨ i = k) with x | rfl
            · have := h2 i x; omega
            · omega
          · rcases hzz with rfl | rfl
            · exact ⟨j', hj', by omega, e'⟩
            · exact ⟨k, hkl, by omega, er⟩
        clear hkl hp hnp hng hzz r1 r2
        go_wp2
        clear c0 c1 c2 hmx
        have B9 : Hid (Below w.heap.size w (wr.alloc (.cells #[.int .i16 p.a, .int .i16 p.b, .float .f32 p.l] 62))) := Hb.out.alloc Hb.out.size _
        go_roundw
        case rel => exact ⟨k + 1, z, by omega, by go_num, rfl, N.out, B9.out⟩
        case measure => simp [intOf]; omega
      · have hkn : k = n := by omega
        subst hkn
        obtain ⟨⟨j, hj, e⟩, h2, j', hj', hjk, e'⟩ := Hz.out
        subst e
        have H2 := Lib.hid h2
        have T2 := Lib.hid (HT.out.keep Hb.out)
        have Hpt := Lib.hid (part_at H1.out hj)
        have Hpw : Hid (lossAt ps j < 4294967296) := by
          have hp := List.getElem?_eq_getElem hj
          rw [lossAt_of hp]
          exact (Hw.out _ (List.mem_of_getElem? hp)).2.2
        have Hkey := Lib.hid (kOf_is H1.out hj)
        have Hj := Lib.hid hj
        clear h2 e' hjk hj' j' hj
        go_wp2_with fail
        refine (firstW_any _ _ _ ps _ H1.out Hl.out hn T2.out Hw.out).mono ?_
        rintro e w5 ⟨rfl, ⟨D, hown, hf⟩, b5⟩
        have Hown := Lib.hid hown; have Hf := Lib.hid hf; have B5 : Hid (Below w.heap.size w w5) := bthen Hb.out b5
        clear hown hf b5
        go_wp2_with fail
        refine (lossKey_any _ Hpt.out Hpw.out _).mono ?_
        rintro e w6 ⟨rfl, rfl⟩
        go_wp2_with (at_lookup; refine wpList_lookup_own_int _ rfl _ _ 65 rfl 67 2 .i64 lawW Try.underlying65 Try.underlying2 (zeroW _) _ _ _ rfl Hown.out _ _ rfl Hkey.out ?_; intro cc hat hwc)
        have hres : ∃ i : Nat, cc = (i : Int) ∧ i < k ∧ IsWorst ps k i := by
          obtain ⟨i, h1, h2, h3, h4⟩ := Hf.out.first _ (Hf.out.all j (by have := Hj.out; have := Hl.out; omega))
          rw [h4] at hat
          have ee : rkAt ps j = rkAt ps i := by unfold kOf at h2; injection h2
          refine ⟨i, by injection hat with hat; injection hat with _ hat; exact hat.symm, h1, h1, fun x hx => ?_, fun x hx => ?_⟩
          · have a1 := H2.out x (by omega)
            have a2 := h3 x hx
            have a3 : rkAt ps x ≠ rkAt ps i := fun h => a2 (by unfold kOf; rw [h])
            unfold rkAt at *
            omega
          · have a1 := H2.out x hx
            unfold rkAt at *
            omega
        obtain ⟨i, rfl, hik, hiw⟩ := hres
        have Hiw := Lib.hid hiw
        clear hat hwc hiw
        obtain ⟨q, hq⟩ : ∃ q, ps[i]? = some q := ⟨_, List.getElem?_eq_getElem (by rw [Hl.out]; omega)⟩
        obtain ⟨d0, d1, d2⟩ := cells3 (rangeAt_of_block (Hc.out i q hq) (B5.out.block b hbs))
        have es := Lib.hid (lossAt_of hq)
        have y2 : (0 : Int) ≤ (i : Int) := by omega
        have y3 : (i : Int) < (k : Int) := by omega
        clear d0 d1 hq
        go_wp2_with fail
        go_quiet (fail)
        go_wp2
        go_ret3
        refine ⟨⟨i, by rw [Hl.out]; exact Hiw.out, ?_⟩, below_drewN B5.out _⟩
        rw [es.out]
        rfl
  · simp only [h1, if_false, Bool.false_eq_true]
    go_enter Try.func12, Try.ntmps12
    go_wp2_with (go_at_call 37; refine (validTrain_any _ _ _ ps _ Hl.out hn HT.out Hw.out).mono ?_; rintro e w1 ⟨rfl, b1⟩)
    go_ret3
    exact ⟨rfl, b1⟩
end Go.Proofs.Ytolbacgfcobmdaa
