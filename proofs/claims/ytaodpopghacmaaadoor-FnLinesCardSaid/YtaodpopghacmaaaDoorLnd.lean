/-
  The answer of a line: swings and twists, the program's.
-/
import Derived.Test.YtaodpopghacmaaaDoorLna
import Derived.Test.YtaodpopghacmaaaDoorOwn2
import Derived.Test.YtaodpopghacmaaaDoorOnem
import Derived.Test.YtaodpopghacmaaaDoorFs2
import Derived.Test.YtaodpopghacmaaaDoorFlIn2
import Derived.IntWalk
import Derived.Deep.DeepCutAuto
namespace Go.Proofs.YtaodpopghacmaaaDoor
open Go.RowKit Go.ChangeShapes Go.WideShapes Go.Deep
attribute [local go_sem ↓] Go.wp_at_zero Go.wp_at_succ
set_option linter.unusedVariables false
set_option linter.unusedSimpArgs false
set_option maxRecDepth 100000
/-- The swing and the twist ahead of disc k. -/
def bef (ds : List Dc) (q : Nat) : Nat → Nat × Nat
  | 0 => (cn 1065353216, cn 0)
  | k + 1 => (if k = 0 then (bef ds q k).1 else f2 .add (bef ds q k).1 (f2 .quo (bef ds q k).2 (cn (ds.getD (k - 1) default).s)),
      f2 .sub (bef ds q k).2 (f2 .mul (f2 .mul (cn q) (cn (ds.getD k default).i)) (if k = 0 then (bef ds q k).1 else f2 .add (bef ds q k).1 (f2 .quo (bef ds q k).2 (cn (ds.getD (k - 1) default).s)))))
def swC (ds : List Dc) (q k : Nat) : Nat := (bef ds q (k + 1)).1
def twC (ds : List Dc) (q k : Nat) : Nat := (bef ds q (k + 1)).2
theorem bef_first (ds : List Dc) (q : Nat) : bef ds q 1 = (cn 1065353216, f2 .sub (cn 0) (f2 .mul (f2 .mul (cn q) (cn (ds.getD 0 default).i)) (cn 1065353216))) := rfl
theorem bef_next (ds : List Dc) (q m : Nat) : bef ds q (m + 2) = (f2 .add (bef ds q (m + 1)).1 (f2 .quo (bef ds q (m + 1)).2 (cn (ds.getD m default).s)), f2 .sub (bef ds q (m + 1)).2 (f2 .mul (f2 .mul (cn q) (cn (ds.getD (m + 1) default).i)) (f2 .add (bef ds q (m + 1)).1 (f2 .quo (bef ds q (m + 1)).2 (cn (ds.getD m default).s))))) := by
  rw [bef]
  simp
/-- The call returns two slices of numbers, its own and apart from each other. -/
def RFF (S T : List Nat) (w : World) (e : Ending) (w' : World) : Prop :=
  ∃ (v u : Value) (ss ts : List Nat), e = .returned (.tuple #[v, u]) ∧ w'.ownsRow w.heap.size 26 1 v ss.length (ss.map (Value.float .f32)) ∧ w'.ownsRow w.heap.size 26 1 u ts.length (ts.map (Value.float .f32)) ∧ Apart2 v u ∧ ss.map cn = S ∧ ts.map cn = T ∧ Below w.heap.size w w'
theorem map_snoc {F : Nat → Nat} {hs : List Nat} {j x : Nat} (h : hs.map cn = (List.range j).map F) (hx : cn x = F j) : (hs ++ [x]).map cn = (List.range (j + 1)).map F := by
  rw [List.map_append, h, List.range_succ, List.map_append, List.map_singleton, List.map_singleton, hx]
theorem map_at {F : Nat → Nat} {hs : List Nat} {n i x : Nat} (h : hs.map cn = (List.range n).map F) (hx : hs[i]? = some x) : cn x = F i := by
  have h1 := congrArg (fun l => l[i]?) h
  simp only [List.getElem?_map, hx, Option.map_some] at h1
  have hi : i < n := by
    have := congrArg List.length h
    simp at this
    rw [← this]
    exact (List.getElem?_eq_some_iff.1 hx).1
  rw [List.getElem?_range hi] at h1
  simpa using h1
theorem getD_of {ds : List Dc} {k : Nat} {X : Dc} (h : ds[k]? = some X) : ds.getD k default = X := by rw [List.getD_eq_getElem?_getD, h]; rfl
set_option maxHeartbeats 8000000 in
theorem answer_any (A : Option Addr) (n c : Nat) (ds : List Dc) (q : Nat) (w : World) (hl : ds.length = n) (hn : n ≤ 1048576) (hT : Dc.L w w.heap.size A ds) :
    Calls Tryd.prog 21 #[.slice A n c, .float .f32 q] w (RFF ((List.range n).map (swC ds q)) ((List.range n).map (twC ds q)) w) := by
  obtain ⟨i0, hi, hz0, hz1, hz2⟩ := info_parts infoF32
  obtain ⟨R, N, hR, hC⟩ := ops_fun Tryd.prog 26; have ra := hR .add rfl; have rs := hR .sub rfl; have rm := hR .mul rfl; have rq := hR .quo rfl; have HC := Lib.hid hC; clear hC hR
  have Hl := Lib.hid hl; clear hl
  have HT := Lib.hid hT; clear hT
  go_enter Tryd.func21, Tryd.ntmps21
  go_wp2_with fail
  go_loopw [4, 5, 6, 7, 8, 9, 12] (fun v u s t v8 v9 i wr => ∃ (j sw tw : Nat) (ss ts : List Nat), j ≤ n ∧ i = .int .i64 j ∧ s = .float .f32 sw ∧ t = .float .f32 tw ∧
    Hid (wr.ownsRow w.heap.size 26 1 v j (ss.map (Value.float .f32))) ∧ Hid (wr.ownsRow w.heap.size 26 1 u j (ts.map (Value.float .f32))) ∧ Hid (Apart2 v u) ∧
    Hid (ss.map cn = (List.range j).map (swC ds q)) ∧ Hid (ts.map cn = (List.range j).map (twC ds q)) ∧ Hid (cn sw = (bef ds q j).1) ∧ Hid (cn tw = (bef ds q j).2) ∧ Hid (Below w.heap.size w wr)) (fun _ _ _ _ _ _ i _ => n - (intOf i).toNat)
  case atStart => exact ⟨0, 1065353216, 0, [], [], Nat.zero_le _, rfl, rfl, rfl, World.ownsRow_nil _ _ _ _, World.ownsRow_nil _ _ _ _, (fun k hk => by cases hk), rfl, rfl, rfl, rfl, Below.refl _ _⟩
  case round =>
    obtain ⟨j, sw, tw, ss, ts, hj, rfl, rfl, rfl, Ho1, Ho2, Ha, Hs, Ht, Hw, Hv, Hb⟩ := hrel
    by_cases hlt : j < n
    · have hkl : j < ds.length := by have := Hl.out; omega
      obtain ⟨b, off, rfl, hbs, hc⟩ := HT.out (by omega)
      obtain ⟨X, hX⟩ : ∃ X, ds[j]? = some X := ⟨_, List.getElem?_eq_getElem hkl⟩
      obtain ⟨c0, c1⟩ := Dc.at (rangeAt_of_block (hc j X hX) (Hb.out.block b hbs))
      have Hx := Lib.hid (getD_of hX)
      cases j with
      | zero =>
        clear hc hkl hX
        simp only [Nat.zero_mul, Nat.add_zero] at c0 c1
        go_upto_region 8 with fail
        generalize hrt : R .sub tw _ _ = rt
        have VS : Hid (cn sw = swC ds q 0) := by show _ = _; unfold swC; rw [bef_first]; exact Hw.out
        have VT : Hid (cn rt = twC ds q 0) := by
          show _ = _
          unfold twC
          rw [← hrt, bef_first, HC.out .sub rfl, HC.out .mul rfl, HC.out .mul rfl, Hw.out, Hv.out, Hx.out]
          rfl
        clear hrt c0 c1
        generalize hW8 : World.drewN (wr.alloc _) (_ + _ + _) = W8
        have BW8 : Below wr.heap.size wr W8 := by rw [← hW8]; exact b_drewN (b_alloc (Below.refl _ _) _) _
        clear hW8
        have B8 : Hid (Below w.heap.size w W8) := b_then Hb.out BW8
        have O1 := Lib.hid (own_below Ho1.out BW8); have O2 := Lib.hid (own_below Ho2.out BW8)
        clear BW8
        go_wp2_with (first | (at_builtin; refine wpList_append_own2 _ rfl _ _ 28 rfl w.heap.size 26 i0 _ 1 4 Tryd.underlying28 hi hz0 hz1 hz2 rfl (by omega) _ 0 _ rfl (O1.out.alloc _) _ 1 _ [_] rfl rfl (World.news_of_block (cs := #[_]) (heap_alloc_new _ _)) (by intro u hu; simp at hu; subst hu; rfl) (by unfold maxLen; omega) (by omega) (by have := B8.out.size; simp; omega) ?_; intro v9 w9 hown9 hgrow9 hf9; have O29 := Apart2.keep Ha.out (O2.out.alloc _) hgrow9; have A9 := Apart2.grow Ha.out hf9 (fun k hk => ((O2.out.alloc _).lt k hk).2); have hz9 := hgrow9.size; simp at hz9) | (at_builtin; refine wpList_append_own2 _ rfl _ _ 28 rfl w.heap.size 26 i0 _ 1 4 Tryd.underlying28 hi hz0 hz1 hz2 rfl (by omega) _ 0 _ rfl (O29.alloc _) _ 1 _ [_] rfl rfl (World.news_of_block (cs := #[_]) (heap_alloc_new _ _)) (by intro u hu; simp at hu; subst hu; rfl) (by unfold maxLen; omega) (by omega) (by have := B8.out.size; simp; omega) ?_; intro u9 wz hown10 hgrow10 hf10))
        all_goals
          have B9 : Hid (Below w.heap.size w w9) := (B8.out.alloc B8.out.size _).grown hgrow9 (by have := B8.out.size; simp; omega) (fun k h => (O1.out.lt k h).1)
          have Bz : Hid (Below w.heap.size w wz) := (B9.out.alloc B9.out.size _).grown hgrow10 (by have := B9.out.size; simp; omega) (fun k h => (O2.out.lt k h).1)
          have O1z : Hid (wz.ownsRow w.heap.size 26 1 v9 (0 + 1) ((ss ++ [sw]).map (Value.float .f32))) := by
            rw [List.map_append]
            exact Apart2.keep A9.symm (hown9.alloc _) hgrow10
          have O2z : Hid (wz.ownsRow w.heap.size 26 1 u9 (0 + 1) ((ts ++ [rt]).map (Value.float .f32))) := by
            rw [List.map_append]
            exact hown10
          have Az : Hid (Apart2 v9 u9) := (Apart2.grow A9.symm hf10 (fun k hk => ((hown9.alloc _).lt k hk).2)).symm
          have e1 : Hid ((ss ++ [sw]).map cn = (List.range (0 + 1)).map (swC ds q)) := map_snoc Hs.out VS.out
          have e2 : Hid ((ts ++ [rt]).map cn = (List.range (0 + 1)).map (twC ds q)) := map_snoc Ht.out VT.out
          clear hown9 hgrow9 hf9 hown10 hgrow10 hf10 O29 A9
          go_wp2
          go_roundw
          case rel => exact ⟨0 + 1, sw, rt, ss ++ [sw], ts ++ [rt], by omega, by go_num, rfl, rfl, O1z, O2z, Az, e1, e2, VS, VT, Bz⟩
          case measure => simp [intOf]; omega
      | succ m =>
        have hky : m < ds.length := by have := Hl.out; omega
        obtain ⟨Y, hY⟩ : ∃ Y, ds[m]? = some Y := ⟨_, List.getElem?_eq_getElem hky⟩
        obtain ⟨d0, d1⟩ := Dc.at (rangeAt_of_block (hc m Y hY) (Hb.out.block b hbs))
        have Hy := Lib.hid (getD_of hY)
        have u1 : (0 : Int) < ((m + 1 : Nat) : Int) := by omega
        have u1' : ((m + 1 : Nat) : Int) > 0 := by omega
        have u2 : IntKind.i64.wrap (m : Int) = (m : Int) := IntWalk.i64_in _ (by omega)
        have u3 : (m : Int) < (n : Int) := by omega
        have hbr : b < wr.heap.size := Nat.lt_of_lt_of_le hbs Hb.out.size
        clear hc hkl hX hky hY
        go_upto_region 8 with fail
        generalize hrs : R .add sw _ _ = gs
        generalize hrt : R .sub tw _ _ = gt
        have VS : Hid (cn gs = swC ds q (m + 1)) := by
          show _ = _
          unfold swC
          rw [← hrs, bef_next, HC.out .add rfl, HC.out .quo rfl, Hw.out, Hv.out, Hy.out]
        have VT : Hid (cn gt = twC ds q (m + 1)) := by
          have hvs : cn gs = (bef ds q (m + 2)).1 := VS.out
          rw [bef_next] at hvs
          show _ = _
          unfold twC
          rw [← hrt, bef_next, HC.out .sub rfl, HC.out .mul rfl, HC.out .mul rfl, hvs, Hv.out, Hx.out]
        clear hrs hrt c0 c1 d0 d1
        generalize hW8 : World.drewN (wr.alloc _) (_ + _ + _ + _ + _) = W8
        have BW8 : Below wr.heap.size wr W8 := by rw [← hW8]; exact b_drewN (b_alloc (Below.refl _ _) _) _
        clear hW8
        have B8 : Hid (Below w.heap.size w W8) := b_then Hb.out BW8
        have O1 := Lib.hid (own_below Ho1.out BW8); have O2 := Lib.hid (own_below Ho2.out BW8)
        clear BW8
        go_wp2_with (first | (at_builtin; refine wpList_append_own2 _ rfl _ _ 28 rfl w.heap.size 26 i0 _ 1 4 Tryd.underlying28 hi hz0 hz1 hz2 rfl (by omega) _ (m + 1) _ rfl (O1.out.alloc _) _ 1 _ [_] rfl rfl (World.news_of_block (cs := #[_]) (heap_alloc_new _ _)) (by intro u hu; simp at hu; subst hu; rfl) (by unfold maxLen; omega) (by omega) (by have := B8.out.size; simp; omega) ?_; intro v9 w9 hown9 hgrow9 hf9; have O29 := Apart2.keep Ha.out (O2.out.alloc _) hgrow9; have A9 := Apart2.grow Ha.out hf9 (fun k hk => ((O2.out.alloc _).lt k hk).2); have hz9 := hgrow9.size; simp at hz9) | (at_builtin; refine wpList_append_own2 _ rfl _ _ 28 rfl w.heap.size 26 i0 _ 1 4 Tryd.underlying28 hi hz0 hz1 hz2 rfl (by omega) _ (m + 1) _ rfl (O29.alloc _) _ 1 _ [_] rfl rfl (World.news_of_block (cs := #[_]) (heap_alloc_new _ _)) (by intro u hu; simp at hu; subst hu; rfl) (by unfold maxLen; omega) (by omega) (by have := B8.out.size; simp; omega) ?_; intro u9 wz hown10 hgrow10 hf10))
        all_goals
          have B9 : Hid (Below w.heap.size w w9) := (B8.out.alloc B8.out.size _).grown hgrow9 (by have := B8.out.size; simp; omega) (fun k h => (O1.out.lt k h).1)
          have Bz : Hid (Below w.heap.size w wz) := (B9.out.alloc B9.out.size _).grown hgrow10 (by have := B9.out.size; simp; omega) (fun k h => (O2.out.lt k h).1)
          have O1z : Hid (wz.ownsRow w.heap.size 26 1 v9 ((m + 1) + 1) ((ss ++ [gs]).map (Value.float .f32))) := by
            rw [List.map_append]
            exact Apart2.keep A9.symm (hown9.alloc _) hgrow10
          have O2z : Hid (wz.ownsRow w.heap.size 26 1 u9 ((m + 1) + 1) ((ts ++ [gt]).map (Value.float .f32))) := by
            rw [List.map_append]
            exact hown10
          have Az : Hid (Apart2 v9 u9) := (Apart2.grow A9.symm hf10 (fun k hk => ((hown9.alloc _).lt k hk).2)).symm
          have e1 : Hid ((ss ++ [gs]).map cn = (List.range ((m + 1) + 1)).map (swC ds q)) := map_snoc Hs.out VS.out
          have e2 : Hid ((ts ++ [gt]).map cn = (List.range ((m + 1) + 1)).map (twC ds q)) := map_snoc Ht.out VT.out
          clear hown9 hgrow9 hf9 hown10 hgrow10 hf10 O29 A9
          go_wp2
          go_roundw
          case rel => exact ⟨(m + 1) + 1, gs, gt, ss ++ [gs], ts ++ [gt], by omega, by go_num, rfl, rfl, O1z, O2z, Az, e1, e2, VS, VT, Bz⟩
          case measure => simp [intOf]; omega
    · obtain rfl : j = n := by omega
      go_wp2
      go_ret2
      have hl1 : ss.length = j := by have := congrArg List.length Hs.out; simpa using this
      have hl2 : ts.length = j := by have := congrArg List.length Ht.out; simpa using this
      exact ⟨_, _, ss, ts, rfl, by rw [hl1]; exact Ho1.out, by rw [hl2]; exact Ho2.out, Ha.out, Hs.out, Ht.out, Hb.out⟩
end Go.Proofs.YtaodpopghacmaaaDoor
