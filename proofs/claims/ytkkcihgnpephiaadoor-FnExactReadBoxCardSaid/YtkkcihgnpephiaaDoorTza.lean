/-
  The text of a box: the program's and the model's; the law.
-/
import Derived.Test.YtkkcihgnpephiaaDoorTs0
import Derived.Test.YtkkcihgnpephiaaDoorBo
namespace Go.Proofs.YtkkcihgnpephiaaDoor
open Go.RowKit Go.ChangeShapes Go.WideShapes Go.Deep
attribute [local go_sem ↓] Go.wp_at_zero Go.wp_at_succ
set_option linter.unusedVariables false
set_option linter.unusedSimpArgs false
set_option maxRecDepth 100000
def txZ (zs : List Int) : List (List UInt8) := zs.map fun z => Lib.decDigits z.toNat
def textZ (zs : List Int) : List UInt8 := if okZ zs then Lib.join (txZ zs) [32] else []
theorem join_bound (b : UInt8) (m : Nat) : ∀ l : List (List UInt8), (∀ x ∈ l, x.length ≤ m) → (Lib.join l [b]).length ≤ l.length * (m + 1)
  | [], _ => by simp [Lib.join]
  | [x], h => by rw [Lib.join_one]; have := h x (by simp); simp; omega
  | x :: y :: r, h => by
    rw [join_two]
    have h1 := h x (by simp)
    have h2 := join_bound b m (y :: r) (fun z hz => h z (List.mem_cons_of_mem _ hz))
    simp only [List.length_append, List.length_cons] at h2 ⊢
    rw [Nat.add_mul (r.length + 1) 1]
    omega
theorem join_snoc (b : UInt8) (x : List UInt8) : ∀ l : List (List UInt8), l ≠ [] → Lib.join (l ++ [x]) [b] = Lib.join l [b] ++ b :: x
  | [], h => absurd rfl h
  | [y], _ => by
    show Lib.join [y, x] [b] = _
    rw [join_two, Lib.join_one, Lib.join_one]
  | y :: z :: r, _ => by
    show Lib.join (y :: z :: (r ++ [x])) [b] = _
    rw [join_two, show z :: (r ++ [x]) = (z :: r) ++ [x] from rfl, join_snoc b x (z :: r) (by simp), join_two]
    simp
theorem txZ_len (zs : List Int) : (txZ zs).length = zs.length := by simp [txZ]
theorem txZ_at {zs : List Int} {k : Nat} {z : Int} (h : zs[k]? = some z) : (txZ zs)[k]? = some (Lib.decDigits z.toNat) := by simp [txZ, h]
theorem txZ_take {zs : List Int} {k : Nat} {z : Int} (h : zs[k]? = some z) : (txZ zs).take (k + 1) = (txZ zs).take k ++ [Lib.decDigits z.toNat] := by rw [List.take_add_one, txZ_at h]; rfl
theorem txZ_short {zs : List Int} (hk : okZ zs = true) : ∀ x ∈ txZ zs, x.length ≤ 20 := fun x hx => by
  unfold txZ at hx
  obtain ⟨z, hz, rfl⟩ := List.mem_map.1 hx
  obtain ⟨i, hi, he⟩ := List.mem_iff_getElem.1 hz
  have := okZ_teeth hk (i := i) (z := z) (by rw [List.getElem?_eq_getElem hi, he])
  exact dec_lt20 _ (by omega)
set_option maxHeartbeats 4000000 in
theorem implBoxText_any (A : Option Addr) (n c : Nat) (zs : List Int) (w : World) (hl : zs.length = n) (hn : n ≤ 1048576) (hw : ∀ z ∈ zs, I16 z) (hT : Ii w w.heap.size A zs) (hB : TbAt w) : Calls Tryd.prog 43 #[.slice A n c] w (RV (.string (bsOf (textZ zs))) w) := by
  obtain ⟨i0, hi, hy⟩ := Option.map_eq_some_iff.1 str_info
  injection hy with hy0 hy
  injection hy with hy1 hy2
  have hys : (Value.string ⟨#[]⟩).cells.size = 1 := rfl
  have Hi := Lib.hid hi
  have Hy0 := Lib.hid hy0; have Hy1 := Lib.hid hy1; have Hy2 := Lib.hid hy2; have Hys := Lib.hid hys
  have HT := Lib.hid hT; have HB := Lib.hid hB; have Hl := Lib.hid hl
  have LV := Lib.hid (implOk_any A n c zs w hl hn hw hT)
  have E0 := Lib.hid (fun h => show textZ zs = [] by unfold textZ; rw [show okZ zs = false from h]; rfl)
  have E1 := Lib.hid (fun h => show textZ zs = Lib.join (txZ zs) [32] by unfold textZ; rw [show okZ zs = true from h]; rfl)
  clear hi hy0 hy1 hy2 hys hT hB hl hw
  go_enter Tryd.func43, Tryd.ntmps43
  go_wp2_with fail
  refine LV.out.mono ?_
  rintro e w1 ⟨rfl, b1⟩
  have B1 := Lib.hid b1
  have T1 := Lib.hid (HB.out.below b1)
  have I1 := Lib.hid (HT.out.keep b1)
  clear b1 HB HT LV
  cases hk : okZ zs
  · have E := Lib.hid (E0.out hk)
    clear hk
    go_wp2
    go_ret
    exact ⟨by rw [E.out]; rfl, B1.out⟩
  · have E := Lib.hid (E1.out hk)
    have hlen := (okZ_at hk).1
    rw [Hl.out] at hlen
    obtain ⟨hn2, hn24⟩ := hlen
    have Hk := Lib.hid hk
    clear hk E0 E1
    go_wp2_with (at_make; refine wpList_make_own _ rfl _ _ 96 rfl w1.heap.size 9 i0 _ 1 Tryd.underlying96 Hi.out Hy0.out Hy1.out _ _ _ n rfl rfl rfl (by rw [Hy2.out]; omega) (by unfold maxLen; omega) (Nat.le_refl _) ?_; intro w2 hown hgrow; have B2 : Hid (Below w1.heap.size w1 w2) := (Below.refl _ w1).grown hgrow (Nat.le_refl _) (fun k h => by cases h); have O2 := Lib.hid hown; clear hown hgrow)
    go_loopw [3, 14] (fun v vi wr => ∃ (k : Nat), vi = .int .i64 k ∧ k ≤ n ∧ Hid (wr.ownsRow w1.heap.size 9 1 v k (((txZ zs).take k).map strV)) ∧ Hid (Below w1.heap.size w1 wr)) (fun _ vi _ => n - (intOf vi).toNat)
    case atStart => exact ⟨0, rfl, by omega, O2, B2⟩
    case round =>
      obtain ⟨k, rfl, hkn, hO, hB⟩ := hrel
      have hba := own_base hO.out
      have Hba := Lib.hid hba
      clear hba
      by_cases hlt : k < n
      · obtain ⟨z, hz⟩ : ∃ z, zs[k]? = some z := ⟨_, List.getElem?_eq_getElem (by rw [Hl.out]; exact hlt)⟩
        obtain ⟨b, off, rfl, hbs, hc⟩ := I1.out (by rw [Hl.out]; omega)
        have hc0 := cell_on (hc k z hz) rfl hB.out
        obtain ⟨hz1, hz2⟩ := okZ_teeth Hk.out hz
        have Htk := Lib.hid (txZ_take hz)
        obtain ⟨m, rfl⟩ : ∃ m : Nat, z = (m : Int) := ⟨z.toNat, by omega⟩
        rw [Int.toNat_natCast] at Htk
        have wm : IntKind.i64.wrap (m : Int) = m := IntWalk.i64_in _ (by omega)
        have L := Lib.hid (itoa_any m (by omega) wr (T1.out.below hB.out))
        have D : Hid (strV (Lib.decDigits m) = .string (bsOf (Lib.decDigits m))) := Lib.hid rfl
        generalize bsOf (Lib.decDigits m) = DD at *
        clear hc hz
        go_wp2_with fail
        refine L.out.mono ?_
        rintro e w3 ⟨rfl, b3⟩
        have B3 := Lib.hid (b_then hB.out b3)
        have O3 := Lib.hid (own_below hO.out b3)
        clear b3 hc0
        go_wp2_with (at_builtin; refine wpList_append_own _ rfl (.tmp 18) (.tmp 22) 96 rfl w1.heap.size 9 i0 _ 1 16 Tryd.underlying96 Hi.out Hy0.out Hy1.out Hy2.out Hys.out (by omega) _ k _ rfl (O3.out.alloc _) _ 1 _ [_] rfl rfl (World.news_of_block (cs := #[_]) (heap_alloc_new _ _)) (by intro u hu; simp at hu; subst hu; rfl) (by unfold maxLen; omega) (by omega) (by have := B3.out.size; simp; omega) ?_; intro v9 w9 hown9 hgrow9 hif9)
        have O9 : Hid (w9.ownsRow w1.heap.size 9 1 v9 (k + 1) (((txZ zs).take (k + 1)).map strV)) := by
          rw [Htk.out, List.map_append]
          have h9 := hown9
          rw [← D.out] at h9
          exact h9
        have B9 : Hid (Below w1.heap.size w1 w9) := (b_alloc B3.out _).grown hgrow9 (by have := B3.out.size; simp; omega) (fun k h => (Hba.out k h).1)
        exact ⟨⟨k + 1, by go_num, by omega, O9, B9⟩, by simp [intOf]; omega⟩
      · obtain rfl : k = n := by omega
        have e1 : (txZ zs).take k = txZ zs := List.take_of_length_le (by rw [txZ_len, Hl.out]; exact Nat.le_refl _)
        rw [e1] at hO
        have hjl := join_bound 32 20 (txZ zs) (txZ_short Hk.out)
        rw [txZ_len, Hl.out] at hjl
        have J := Lib.hid (join_any _ (txZ zs) 32 wr (StIn.of_row hO.out (by omega)) (by rw [txZ_len, Hl.out]; omega) (by omega))
        clear e1 hjl
        go_wp2_with fail
        refine J.out.mono ?_
        rintro e w4 ⟨rfl, b4⟩
        have B4 := Lib.hid (b_then B1.out (b_then hB.out b4))
        clear b4
        go_wp2
        go_ret
        exact ⟨by rw [E.out]; rfl, B4.out⟩
theorem textCat (T D : List UInt8) : bsOf T ++ (⟨#[32]⟩ ++ bsOf D) = bsOf (T ++ 32 :: D) := by
  have e : (⟨#[32]⟩ : ByteArray) = bsOf [32] := rfl
  rw [e, bsOf_append, bsOf_append]
  rfl
set_option maxHeartbeats 4000000 in
theorem l05Text_any (A : Option Addr) (n c : Nat) (zs : List Int) (w : World) (hl : zs.length = n) (hk : okZ zs = true) (hT : Ii w w.heap.size A zs) : Calls Tryd.prog 82 #[.slice A n c] w (RV (.string (bsOf (Lib.join (txZ zs) [32]))) w) := by
  have hlen := (okZ_at hk).1
  rw [hl] at hlen
  obtain ⟨hn2, hn24⟩ := hlen
  have HT := Lib.hid hT; have Hl := Lib.hid hl; have Hk := Lib.hid hk
  obtain ⟨b, off, rfl, hbs, hc⟩ := hT (by rw [hl]; omega)
  have Hc := Lib.hid hc
  obtain ⟨z0, hz0⟩ : ∃ z, zs[0]? = some z := ⟨_, List.getElem?_eq_getElem (by rw [hl]; omega)⟩
  have c0 : w.cell? ⟨b, off, none⟩ = some (.int .i16 z0) := hc 0 z0 hz0
  obtain ⟨hz1, hz2⟩ := okZ_teeth hk hz0
  have Ht1 := txZ_take hz0
  obtain ⟨m0, rfl⟩ : ∃ m : Nat, z0 = (m : Int) := ⟨z0.toNat, by omega⟩
  rw [Int.toNat_natCast] at Ht1
  have wm : IntKind.i64.wrap (m0 : Int) = m0 := IntWalk.i64_in _ (by omega)
  have L0 := Lib.hid (fun W => decimal_any m0 (by omega) W)
  have hT1 : bsOf (Lib.decDigits m0) = bsOf (Lib.join ((txZ zs).take 1) [32]) := by rw [Ht1]; simp [Lib.join_one]
  rw [hT1] at L0
  have HSZ := Lib.hid (fun k => show (Lib.join ((txZ zs).take k) [32]).length ≤ 504 from by
    have h1 := join_bound 32 20 ((txZ zs).take k) (fun x hx => txZ_short hk x (List.mem_of_mem_take hx))
    have h2 : ((txZ zs).take k).length ≤ 24 := by rw [List.length_take, txZ_len, hl]; omega
    omega)
  clear hT hl hk hc hz0 Ht1 hT1
  go_enter Tryd.func82, Tryd.ntmps82
  go_wp2_with fail
  refine (L0.out _).mono ?_
  rintro e w1 ⟨rfl, b1⟩
  have B1 := Lib.hid b1
  clear b1 c0 wm
  go_wp2_with fail
  go_loopw [3, 4] (fun v vi wr => ∃ (k : Nat), vi = .int .i64 k ∧ 1 ≤ k ∧ k ≤ n ∧ Hid (v = .string (bsOf (Lib.join ((txZ zs).take k) [32]))) ∧ Hid (Below w.heap.size w wr)) (fun _ vi _ => n - (intOf vi).toNat)
  case atStart => exact ⟨1, rfl, by omega, by omega, rfl, B1⟩
  case round =>
    obtain ⟨k, rfl, hk1, hkn, hv, hB⟩ := hrel
    have hv := hv.out
    by_cases hlt : k < n
    · obtain ⟨z, hz⟩ : ∃ z, zs[k]? = some z := ⟨_, List.getElem?_eq_getElem (by rw [Hl.out]; exact hlt)⟩
      have hc0 := cell_on (Hc.out k z hz) rfl hB.out
      obtain ⟨hz1, hz2⟩ := okZ_teeth Hk.out hz
      have Htk := txZ_take hz
      obtain ⟨m, rfl⟩ : ∃ m : Nat, z = (m : Int) := ⟨z.toNat, by omega⟩
      rw [Int.toNat_natCast] at Htk
      have wm : IntKind.i64.wrap (m : Int) = m := IntWalk.i64_in _ (by omega)
      have L := Lib.hid (fun W => decimal_any m (by omega) W)
      have hne : (txZ zs).take k ≠ [] := fun e => by
        have := congrArg List.length e
        rw [List.length_take, txZ_len, Hl.out] at this
        simp at this; omega
      have hcat := textCat (Lib.join ((txZ zs).take k) [32]) (Lib.decDigits m)
      rw [← join_snoc 32 (Lib.decDigits m) ((txZ zs).take k) hne, ← Htk] at hcat
      have Hcat := Lib.hid hcat
      have s1 : (bsOf (Lib.join ((txZ zs).take k) [32])).size ≤ 504 := by rw [bsOf_size]; exact HSZ.out k
      have s2 : (bsOf (Lib.decDigits m)).size ≤ 20 := by rw [bsOf_size]; exact dec_lt20 _ (by omega)
      have s0 : (⟨#[32]⟩ : ByteArray).size = 1 := rfl
      have s3 : (⟨#[32]⟩ ++ bsOf (Lib.decDigits m)).size ≤ 21 := by rw [ByteArray.size_append, s0]; omega
      subst hv
      generalize bsOf (Lib.join ((txZ zs).take k) [32]) = T1 at *
      generalize bsOf (Lib.decDigits m) = D at *
      clear hz Htk hne hcat
      have h1i : (1 : Int) ≤ k := by omega
      go_wp2_with fail
      refine (L.out _).mono ?_
      rintro e w3 ⟨rfl, b3⟩
      have B3 := Lib.hid (b_then hB.out b3)
      clear b3 hc0
      go_wp2
      exact ⟨⟨k + 1, by go_num, by omega, by omega, Lib.hid (congrArg Value.string Hcat.out), B3⟩, by simp [intOf]; omega⟩
    · obtain rfl : k = n := by omega
      have e1 : (txZ zs).take k = txZ zs := List.take_of_length_le (by rw [txZ_len, Hl.out]; exact Nat.le_refl _)
      rw [e1] at hv
      subst hv
      clear e1
      go_wp2
      go_ret
      exact ⟨rfl, hB.out⟩
theorem specBoxText_any (A : Option Addr) (n c : Nat) (zs : List Int) (w : World) (hl : zs.length = n) (hn : n ≤ 1048576) (hw : ∀ z ∈ zs, I16 z) (hT : Ii w w.heap.size A zs) : Calls Tryd.prog 41 #[.slice A n c] w (RV (.string (bsOf (textZ zs))) w) := by
  have HT := Lib.hid hT
  have LV := Lib.hid (specOk_any A n c zs w hl hn hw hT)
  have E0 := Lib.hid (fun h => show textZ zs = [] by unfold textZ; rw [show okZ zs = false from h]; rfl)
  have E1 := Lib.hid (fun h => show textZ zs = Lib.join (txZ zs) [32] by unfold textZ; rw [show okZ zs = true from h]; rfl)
  have LT := Lib.hid (fun h W h2 => l05Text_any A n c zs W hl h h2)
  clear hT hl hw
  go_enter Tryd.func41, Tryd.ntmps41
  go_wp2_with fail
  refine LV.out.mono ?_
  rintro e w1 ⟨rfl, b1⟩
  have B1 := Lib.hid b1
  have I1 := Lib.hid (HT.out.keep b1)
  clear b1 HT LV
  cases hk : okZ zs
  · have E := Lib.hid (E0.out hk)
    clear hk
    go_wp2
    go_ret
    exact ⟨by rw [E.out]; rfl, B1.out⟩
  · have E := Lib.hid (E1.out hk)
    have L := Lib.hid (LT.out hk w1 I1.out)
    clear hk LT
    go_wp2_with fail
    refine L.out.mono ?_
    rintro e w2 ⟨rfl, b2⟩
    have B2 := Lib.hid (b_then B1.out b2)
    clear b2
    go_wp2
    go_ret
    exact ⟨by rw [E.out]; rfl, B2.out⟩
theorem walk_FnExactBoxText (A : Option Addr) (n c : Nat) (zs : List Int) (w : World) (h : IiIn w A n c zs) (hB : TbAt w) :
    Calls Tryd.prog 11 #[.slice A n c] w fun e w' => e = .returned (.bool true) ∧ Below w.heap.size w w' := by
  obtain ⟨hl, hnc, hc, hT, hw⟩ := h
  have Hl := Lib.hid hl; clear hl
  have HT := Lib.hid hT; clear hT
  have Hw := Lib.hid hw; clear hw
  have HB := Lib.hid hB; clear hB
  have hnm : n ≤ maxLen := Nat.le_trans hnc hc
  unfold maxLen at hnm
  clear hnc hc
  by_cases z0 : 1048576 < (n : Int)
  · go_enter Tryd.func11, Tryd.ntmps11
    go_wp2
    go_ret
    exact ⟨rfl, Below.refl _ _⟩
  have kb : n ≤ 1048576 := by omega
  have L1 := Lib.hid (fun A c W h => specBoxText_any A n c zs W Hl.out kb Hw.out h)
  have L2 := Lib.hid (fun A c W h h2 => implBoxText_any A n c zs W Hl.out kb Hw.out h h2)
  generalize bsOf (textZ zs) = T at *
  go_enter Tryd.func11, Tryd.ntmps11
  go_wp2_with fail
  refine (toInts_any A n c zs _ Hl.out kb HT.out).mono ?_
  rintro e w1 ⟨rfl, m1⟩
  have M1 := Lib.hid m1; clear m1
  have B1 : Hid (Below w.heap.size w w1) := M1.out.2.2.2
  go_wp2_with fail
  refine (L1.out _ _ _ M1.out.ii).mono ?_
  rintro e w2 ⟨rfl, b2⟩
  have B2 : Hid (Below w.heap.size w w2) := b_then B1.out b2
  clear b2
  go_wp2_with fail
  refine (toInts_any A n c zs _ Hl.out kb (HT.out.keep B2.out)).mono ?_
  rintro e w3 ⟨rfl, m3⟩
  have M3 := Lib.hid m3; clear m3
  have B3 : Hid (Below w.heap.size w w3) := b_then B2.out M3.out.2.2.2
  go_wp2_with fail
  refine (L2.out _ _ _ M3.out.ii (HB.out.below B3.out)).mono ?_
  rintro e w4 ⟨rfl, b4⟩
  have B4l := Lib.hid b4
  have B4 : Hid (Below w.heap.size w w4) := b_then B3.out b4
  clear b4
  go_wp2_with fail
  refine (toInts_any A n c zs _ Hl.out kb (HT.out.keep B4.out)).mono ?_
  rintro e w5 ⟨rfl, m5⟩
  have M5 := Lib.hid m5; clear m5
  have B5 : Hid (Below w.heap.size w w5) := b_then B4.out M5.out.2.2.2
  go_wp2_with fail
  refine (eqInts_same _ _ _ _ _ zs _ Hl.out kb ((M3.out.ii.keep B4l.out).keep M5.out.2.2.2) M5.out.ii).mono ?_
  rintro e w6 ⟨rfl, b6⟩
  have B6 := Lib.hid (b_then B5.out b6)
  go_wp2
  go_ret
  exact ⟨rfl, B6.out⟩
end Go.Proofs.YtkkcihgnpephiaaDoor
