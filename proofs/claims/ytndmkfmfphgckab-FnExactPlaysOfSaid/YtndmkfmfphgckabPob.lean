/-
  PlaysOf: both sides.
-/
import Derived.Test.YtndmkfmfphgckabPoa
namespace Go.Proofs.Ytndmkfmfphgckab
open Go.RowKit Go.ChangeShapes Go.WideShapes Go.Deep
attribute [local go_sem ↓] Go.wp_at_zero Go.wp_at_succ
set_option linter.unusedVariables false
set_option linter.unusedSimpArgs false
set_option maxRecDepth 100000
def curC (X : Th) : Nat := cn (curW X)
def playsT (ps : List Px) (ts : List Th) : List Nat := if codeTe ps ts true = 0 then ts.map curC else []
theorem playsT_le (ps : List Px) (ts : List Th) : (playsT ps ts).length ≤ 8 := by
  unfold playsT
  split
  · rename_i h
    obtain ⟨h1, _, _, h4⟩ := codeTe_zero h
    have := (size_bounds h1).2
    simp; omega
  · simp
theorem cur_snoc {ts : List Th} {hs : List Nat} {j x : Nat} {X : Th} (h : hs.map cn = (ts.take j).map curC) (hX : ts[j]? = some X) (hx : cn x = curC X) : (hs ++ [x]).map cn = (ts.take (j + 1)).map curC := by
  rw [List.take_add_one, hX, List.map_append, List.map_append, h]
  simp [hx]
set_option maxHeartbeats 4000000 in
theorem implPlaysOf_any (A A' : Option Addr) (n n' c c' : Nat) (ps : List Px) (ts : List Th) (w : World) (hl : ps.length = n) (hl' : ts.length = n') (hn : n ≤ 1048576) (hn' : n' ≤ 1048576) (hT : Px.L w w.heap.size A ps) (hw : ∀ p ∈ ps, p.wf) (hT' : Th.L w w.heap.size A' ts) (hw' : ∀ p ∈ ts, p.wf) :
    Calls Try.prog 9 #[.slice A n c, .slice A' n' c'] w (FLC (playsT ps ts) (codeTe ps ts true) w) := by
  obtain ⟨i0, hi, hz0, hz1, hz2⟩ := info_parts infoF32
  have Hi := Lib.hid hi
  obtain ⟨K, hK⟩ : ∃ K, codeTe ps ts true = K := ⟨_, rfl⟩
  have ha := teethError_any A A' n n' c c' ps ts true w hl hl' hn hn' hT hw hT'
  rw [hK] at ha
  unfold playsT
  rw [hK]
  obtain ⟨L, hL⟩ : ∃ L, (if K = 0 then ts.map curC else []) = L := ⟨_, rfl⟩
  rw [hL]
  have L0 := Lib.hid (fun h : K = 0 => show L = ts.map curC by rw [← hL, if_pos h])
  have L1 := Lib.hid (fun h : K ≠ 0 => show L = [] by rw [← hL, if_neg h])
  have HK := Lib.hid (codeTe_cases hK)
  have HZ := Lib.hid (fun h : K = 0 => (codeTe_zero (hK.trans h)).2.1)
  have HA := Lib.hid ha; have Hl' := Lib.hid hl'; have HT' := Lib.hid hT'
  clear ha hK hL hl hl' hT hT' hw hw'
  go_enter Try.func9, Try.ntmps9
  go_wp2_with fail
  refine HA.out.mono ?_
  rintro e w1 ⟨rfl, b1⟩
  have B1 := Lib.hid b1
  clear b1
  rcases HK.out with rfl | rfl | rfl | rfl
  · have HALL := Lib.hid (HZ.out (by trivial))
    have E0 := Lib.hid (L0.out (by trivial))
    clear HZ L0 L1
    go_wp2_with (at_make; refine wpList_make_own _ rfl _ _ 26 rfl w.heap.size 42 i0 _ 1 Try.underlying26 hi hz0 hz1 _ _ _ n' rfl rfl (by omega) (by rw [hz2]; omega) (by unfold maxLen; omega) B1.out.size ?_; intro w2 hown hgrow; have B2 : Hid (Below w.heap.size w w2) := B1.out.grown hgrow B1.out.size (fun k h => by cases h); have Ho := Lib.hid hown; have hsz2 := (own_base hown _ rfl).2; clear hown hgrow)
    go_loopw [7, 9, 21] (fun v p9 i wr => ∃ (j : Nat) (hs : List Nat), j ≤ n' ∧ i = .int .i64 j ∧ Hid (wr.ownsRow w.heap.size 42 1 v j (hs.map (Value.float .f32))) ∧ Hid (hs.map cn = (ts.take j).map curC) ∧ Hid (hs.length = j) ∧ Hid (Below w.heap.size w wr)) (fun _ _ i _ => n' - (intOf i).toNat)
    case atStart => exact ⟨0, [], Nat.zero_le _, rfl, Ho, rfl, rfl, B2⟩
    case round =>
     obtain ⟨j, hs, hj, rfl, Hown, Hcs, Hfl, Hbb⟩ := hrel
     by_cases hlt : j < n'
     · skip
       have hkl : j < ts.length := by have := Hl'.out; omega
       obtain ⟨b, off, rfl, hbs, hc⟩ := HT'.out (by omega)
       obtain ⟨X, hX⟩ : ∃ X, ts[j]? = some X := ⟨_, List.getElem?_eq_getElem hkl⟩
       obtain ⟨c0, c1, c2, c3⟩ := Th.at (rangeAt_of_block (hc j X hX) (Hbb.out.block b hbs))
       have HX := Lib.hid hX
       have hok := allTh_at HALL.out hX
       have hsd := okT_side hok
       have Hba := Lib.hid (own_base Hown.out)
       clear hc hkl hX hok
       have hw := Lib.hid (fun w => wear_any X hsd w)
       obtain ⟨r, hr⟩ : ∃ r, curW X = r := ⟨_, rfl⟩
       rw [hr] at hw
       have HR : Hid (cn r = curC X) := by show _ = _; unfold curC; rw [hr]
       clear hr hsd
       go_wp2_with (first
         | (go_at_call 21; refine (hw.out _).mono ?_; rintro e w5 ⟨rfl, b5⟩; have B5 : Hid (Below w.heap.size w w5) := b_then (b_alloc Hbb.out _) b5; have O5 : Hid (w5.ownsRow w.heap.size 42 1 _ j (hs.map (Value.float .f32))) := own_below (Hown.out.alloc _) b5; clear b5)
         | (at_builtin; refine wpList_append_own _ rfl _ _ 26 rfl w.heap.size 42 i0 _ 1 4 Try.underlying26 hi hz0 hz1 hz2 rfl (by omega) _ j _ rfl (O5.out.alloc _) _ 1 _ [_] rfl rfl (World.news_of_block (cs := #[_]) (heap_alloc_new _ _)) (by intro u hu; simp at hu; subst hu; rfl) (by unfold maxLen; omega) (by omega) (by have := B5.out.size; simp; omega) ?_; intro v9 w9 hown9 hgrow9 hif9))
       all_goals
         have B9 : Hid (Below w.heap.size w w9) := (B5.out.alloc B5.out.size _).grown hgrow9 (by have := B5.out.size; simp; omega) (fun k h => (Hba.out k h).1)
         have O9 : Hid (w9.ownsRow w.heap.size 42 1 v9 (j + 1) ((hs ++ [r]).map (Value.float .f32))) := by
           rw [List.map_append]
           exact hown9
         have e9 : Hid ((hs ++ [r]).map cn = (ts.take (j + 1)).map curC) := cur_snoc Hcs.out HX.out HR.out
         have l9 : Hid ((hs ++ [r]).length = j + 1) := by show _ = _; rw [List.length_append, Hfl.out]; rfl
         clear hown9 hgrow9 hif9 c0 c1 c2 c3
         go_wp2
         go_roundw
         case rel => exact ⟨j + 1, hs ++ [r], by omega, by go_num, O9, e9, l9, B9⟩
         case measure => simp [intOf]; omega
     · obtain rfl : j = n' := by omega
       have hz : hs.map cn = ts.map curC := by have := Hcs.out; rwa [List.take_of_length_le (by have := Hl'.out; omega)] at this
       have Hz := Lib.hid hz; clear hz
       go_wp2
       go_ret2
       rw [E0.out, ← Hz.out]
       have hown := Hown.out
       exact flc_of_row hown Hbb.out
  all_goals
    go_wp2
    go_ret2
    rw [L1.out (by first | trivial | decide)]
    exact flc_of_row (fs := []) (World.ownsRow_nil _ _ _ _) B1.out
set_option maxHeartbeats 4000000 in
theorem specPlaysOf_any (A A' : Option Addr) (n n' c c' : Nat) (ps : List Px) (ts : List Th) (w : World) (hl : ps.length = n) (hl' : ts.length = n') (hn : n ≤ 1048576) (hn' : n' ≤ 1048576) (hT : Px.L w w.heap.size A ps) (hw : ∀ p ∈ ps, p.wf) (hT' : Th.L w w.heap.size A' ts) (hw' : ∀ p ∈ ts, p.wf) :
    Calls Try.prog 6 #[.slice A n c, .slice A' n' c'] w (FLC (playsT ps ts) (codeTe ps ts true) w) := by
  obtain ⟨i0, hi, hz0, hz1, hz2⟩ := info_parts infoF32
  have Hi := Lib.hid hi
  obtain ⟨K, hK⟩ : ∃ K, codeTe ps ts true = K := ⟨_, rfl⟩
  have ha := (fun w1 (hb : Below w.heap.size w w1) => l06Teeth_any A A' n n' c c' ps ts true w1 hl hl' hn hn' (hT.keep hb) hw (hT'.keep hb) hw')
  rw [hK] at ha
  unfold playsT
  rw [hK]
  obtain ⟨L, hL⟩ : ∃ L, (if K = 0 then ts.map curC else []) = L := ⟨_, rfl⟩
  rw [hL]
  have L0 := Lib.hid (fun h : K = 0 => show L = ts.map curC by rw [← hL, if_pos h])
  have L1 := Lib.hid (fun h : K ≠ 0 => show L = [] by rw [← hL, if_neg h])
  have HK := Lib.hid (codeTe_cases hK)
  have HZ := Lib.hid (fun h : K = 0 => (codeTe_zero (hK.trans h)).2.1)
  have HA := Lib.hid ha; have Hl' := Lib.hid hl'; have HT' := Lib.hid hT'
  clear ha hK hL hl hl' hT hT' hw hw'
  have Ho : Hid ((w.alloc (.cells #[] 42)).ownsRow w.heap.size 42 1 (.slice (some ⟨w.heap.size, 0, none⟩) 0 0) 0 (([] : List Nat).map (Value.float .f32))) := own_empty w w.heap.size 42 1 (Nat.le_refl _)
  have B0 : Hid (Below w.heap.size w (w.alloc (.cells #[] 42))) := b_alloc (Below.refl _ _) _
  go_enter Try.func6, Try.ntmps6
  go_wp2_with fail
  refine (HA.out _ B0.out).mono ?_
  rintro e w1 ⟨rfl, b1⟩
  have B1 : Hid (Below w.heap.size w w1) := b_then B0.out b1
  have O1 : Hid (w1.ownsRow w.heap.size 42 1 (.slice (some ⟨w.heap.size, 0, none⟩) 0 0) 0 (([] : List Nat).map (Value.float .f32))) := own_below Ho.out b1
  clear b1 Ho
  rcases HK.out with rfl | rfl | rfl | rfl
  · have HALL := Lib.hid (HZ.out (by trivial))
    have E0 := Lib.hid (L0.out (by trivial))
    clear HZ L0 L1
    go_wp2
    go_loopw [6, 8] (fun v i wr => ∃ (j : Nat) (hs : List Nat) (g cap : Nat), v = .slice (some ⟨g, 0, none⟩) j cap ∧ j ≤ n' ∧ i = .int .i64 j ∧ w.heap.size ≤ g ∧ Hid (wr.ownsRow w.heap.size 42 1 (.slice (some ⟨g, 0, none⟩) j cap) j (hs.map (Value.float .f32))) ∧ Hid (hs.map cn = (ts.take j).map curC) ∧ Hid (hs.length = j) ∧ Hid (Below w.heap.size w wr)) (fun _ i _ => n' - (intOf i).toNat)
    case atStart => exact ⟨0, [], _, 0, rfl, Nat.zero_le _, rfl, Nat.le_refl _, O1, rfl, rfl, B1⟩
    case round =>
     obtain ⟨j, hs, g, cap, rfl, hj, rfl, hgb, Hown, Hcs, Hfl, Hbb⟩ := hrel
     by_cases hlt : j < n'
     · skip
       have hkl : j < ts.length := by have := Hl'.out; omega
       obtain ⟨b, off, rfl, hbs, hc⟩ := HT'.out (by omega)
       obtain ⟨X, hX⟩ : ∃ X, ts[j]? = some X := ⟨_, List.getElem?_eq_getElem hkl⟩
       obtain ⟨c0, c1, c2, c3⟩ := Th.at (rangeAt_of_block (hc j X hX) (Hbb.out.block b hbs))
       have HX := Lib.hid hX
       have hok := allTh_at HALL.out hX
       have hsd := okT_side hok
       have Hba := Lib.hid (own_base Hown.out)
       clear hc hkl hX hok
       have y1 : (0 : Int) ≤ (j : Int) := by omega
       have y2 : (j : Int) < (n' : Int) := by omega
       have B5 := Hbb
       obtain ⟨xh, xu, xv, xs⟩ := X
       dsimp only at c0 c1 c2 c3 hsd HX
       rcases hsd with rfl | rfl
       · have HR : Hid (cn xu = curC ⟨xh, xu, xv, 0⟩) := rfl
         go_wp2_with fail
         go_region_law (refine step_append_lies _ (by rfl) (.tmp 23) (.tmp 35) _ (by rfl) w.heap.size 42 i0 _ 1 4 Try.underlying26 Hi.out hz0 hz1 hz2 (by rfl) (by omega) _ j _ (by rfl) ((own_heap (w := wr) (by rfl) Hown.out).alloc _) _ 1 _ [_] (by rfl) (by rfl) (World.news_of_block (cs := #[_]) (heap_alloc_new _ _)) (by intro u hu; simp at hu; subst hu; rfl) (by omega) (by unfold maxLen; omega) (by omega) (by have := B5.out.size; simp; omega) _ (by rfl) ?_; intro g2 cap2 w9 hown9 hgrow9 hat9 hlt9)
         all_goals
           have B9 : Hid (Below w.heap.size w w9) := ((B5.out.alloc B5.out.size _).drew).grown hgrow9 (by have := B5.out.size; simp; omega) (fun k h => by cases h; exact hgb)
           have O9 : Hid (w9.ownsRow w.heap.size 42 1 (.slice (some ⟨g2, 0, none⟩) (j + 1) cap2) (j + 1) ((hs ++ [xu]).map (Value.float .f32))) := by
             rw [List.map_append]
             exact hown9
           have e9 : Hid ((hs ++ [xu]).map cn = (ts.take (j + 1)).map curC) := cur_snoc Hcs.out HX.out HR.out
           have l9 : Hid ((hs ++ [xu]).length = j + 1) := by show _ = _; rw [List.length_append, Hfl.out]; rfl
           clear hown9 hgrow9 c0 c1 c2 c3
           go_wp2
           go_roundw
           case rel => exact ⟨j + 1, hs ++ [xu], g2, cap2, rfl, by omega, by go_num, (own_base O9.out g2 rfl).1, O9, e9, l9, B9⟩
           case measure => simp [intOf]; omega
       · have HR : Hid (cn xv = curC ⟨xh, xu, xv, 1⟩) := rfl
         go_wp2_with fail
         go_region_law (refine step_append_lies _ (by rfl) (.tmp 23) (.tmp 35) _ (by rfl) w.heap.size 42 i0 _ 1 4 Try.underlying26 Hi.out hz0 hz1 hz2 (by rfl) (by omega) _ j _ (by rfl) ((own_heap (w := wr) (by rfl) Hown.out).alloc _) _ 1 _ [_] (by rfl) (by rfl) (World.news_of_block (cs := #[_]) (heap_alloc_new _ _)) (by intro u hu; simp at hu; subst hu; rfl) (by omega) (by unfold maxLen; omega) (by omega) (by have := B5.out.size; simp; omega) _ (by rfl) ?_; intro g2 cap2 w9 hown9 hgrow9 hat9 hlt9)
         all_goals
           have B9 : Hid (Below w.heap.size w w9) := ((B5.out.alloc B5.out.size _).drew).grown hgrow9 (by have := B5.out.size; simp; omega) (fun k h => by cases h; exact hgb)
           have O9 : Hid (w9.ownsRow w.heap.size 42 1 (.slice (some ⟨g2, 0, none⟩) (j + 1) cap2) (j + 1) ((hs ++ [xv]).map (Value.float .f32))) := by
             rw [List.map_append]
             exact hown9
           have e9 : Hid ((hs ++ [xv]).map cn = (ts.take (j + 1)).map curC) := cur_snoc Hcs.out HX.out HR.out
           have l9 : Hid ((hs ++ [xv]).length = j + 1) := by show _ = _; rw [List.length_append, Hfl.out]; rfl
           clear hown9 hgrow9 c0 c1 c2 c3
           go_wp2
           go_roundw
           case rel => exact ⟨j + 1, hs ++ [xv], g2, cap2, rfl, by omega, by go_num, (own_base O9.out g2 rfl).1, O9, e9, l9, B9⟩
           case measure => simp [intOf]; omega
     · obtain rfl : j = n' := by omega
       have hz : hs.map cn = ts.map curC := by have := Hcs.out; rwa [List.take_of_length_le (by have := Hl'.out; omega)] at this
       have Hz := Lib.hid hz; clear hz
       go_wp2
       go_ret2
       rw [E0.out, ← Hz.out]
       have hown := Hown.out
       exact flc_of_row hown Hbb.out
  all_goals
    go_wp2
    go_ret2
    rw [L1.out (by first | trivial | decide)]
    exact flc_of_row (fs := []) O1.out B1.out
end Go.Proofs.Ytndmkfmfphgckab
