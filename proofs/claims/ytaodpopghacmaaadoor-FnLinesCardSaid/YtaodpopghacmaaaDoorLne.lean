/-
  The answer of a line: swings and twists, the model's.
-/
import Derived.Test.YtaodpopghacmaaaDoorLnd
namespace Go.Proofs.YtaodpopghacmaaaDoor
open Go.RowKit Go.ChangeShapes Go.WideShapes Go.Deep
attribute [local go_sem ↓] Go.wp_at_zero Go.wp_at_succ
set_option linter.unusedVariables false
set_option linter.unusedSimpArgs false
set_option maxRecDepth 100000
theorem f2_lt (op : BinOp) (x y : Nat) : f2 op x y < 4294967296 := by
  unfold f2
  cases h : floatBits op .f32 x y with
  | none => decide
  | some r =>
    have := floatBits_wf h
    simpa [Lit.wf] using this
theorem f2_one (op : BinOp) (x y : Nat) : f2 .mul (f2 op x y) (cn 1065353216) = f2 op x y := by
  have h := mul_one32 (f2 op x y) (f2_lt _ _ _)
  rwa [cn_f2] at h
set_option maxHeartbeats 8000000 in
theorem specAnswer_any (A : Option Addr) (n c : Nat) (ds : List Dc) (q : Nat) (w : World) (hl : ds.length = n) (h1n : 1 ≤ n) (hn : n ≤ 1048576) (hT : Dc.L w w.heap.size A ds) :
    Calls Tryd.prog 23 #[.slice A n c, .float .f32 q] w (RFF ((List.range n).map (swC ds q)) ((List.range n).map (twC ds q)) w) := by
  obtain ⟨i0, hi, hz0, hz1, hz2⟩ := info_parts infoF32
  obtain ⟨R, N, hR, hC⟩ := ops_fun Tryd.prog 26; have ra := hR .add rfl; have rs := hR .sub rfl; have rm := hR .mul rfl; have rq := hR .quo rfl; have HC := Lib.hid hC; clear hC hR
  have Hl := Lib.hid hl; clear hl
  have HT := Lib.hid hT; clear hT
  obtain ⟨b, off, rfl, hbs, hc⟩ := HT.out (by have := Hl.out; omega)
  obtain ⟨X0, hX0⟩ : ∃ X, ds[0]? = some X := ⟨_, List.getElem?_eq_getElem (by have := Hl.out; omega)⟩
  have Hx0 := Lib.hid (getD_of hX0)
  have Hc := Lib.hid hc
  obtain ⟨c0, c1⟩ := Dc.at (hc 0 X0 hX0)
  simp only [Nat.zero_mul, Nat.add_zero] at c0 c1
  have g0 : (0 : Int) < (n : Int) := by omega
  clear hX0 hc
  go_enter Tryd.func23, Tryd.ntmps23
  go_wp2_with fail
  generalize hrt : R .sub 0 _ _ = t0
  have VT0 : Hid (cn t0 = twC ds q 0) := by
    show _ = _
    unfold twC
    rw [← hrt, bef_first, HC.out .sub rfl, HC.out .mul rfl, Hx0.out, f2_one]
  generalize hW1 : World.drewN (w.alloc _) (_ + _) = W1
  have hh1 : W1.heap = (w.alloc (.cells #[.float .f32 1065353216] 26)).heap := by rw [← hW1]; rfl
  have bw1 : Below w.heap.size w W1 := by rw [← hW1]; exact b_drewN (b_alloc (Below.refl _ _) _) _
  have o1 : (W1.alloc (.cells #[.float .f32 t0] 26)).ownsRow w.heap.size 26 1 (.slice (some ⟨w.heap.size, 0, none⟩) 1 1) 1 [.float .f32 1065353216] := (own_heap hh1 (World.ownsRow_lit (e := 26) (size := 1) w #[.float .f32 1065353216] 1 (Nat.le_refl _) (by unfold maxLen; omega) rfl)).alloc _
  have hs1 : W1.heap.size = w.heap.size + 1 := by rw [hh1]; simp
  have o2 : (W1.alloc (.cells #[.float .f32 t0] 26)).ownsRow w.heap.size 26 1 (.slice (some ⟨w.heap.size + 1, 0, none⟩) 1 1) 1 [.float .f32 t0] := by
    rw [← hs1]
    exact World.ownsRow_lit (e := 26) (size := 1) W1 #[.float .f32 t0] 1 (by omega) (by unfold maxLen; omega) rfl
  have O1s := Lib.hid o1; have O2s := Lib.hid o2
  have B1s : Hid (Below w.heap.size w (W1.alloc (.cells #[.float .f32 t0] 26))) := b_alloc bw1 _
  clear hrt hW1 hh1 bw1 o1 o2 hs1
  generalize W1.alloc (.cells #[.float .f32 t0] 26) = W2 at *
  clear c0 c1
  go_loopw [6, 7, 8, 9, 10] (fun v u i s9 s10 wr => ∃ (j : Nat) (ss ts : List Nat), 1 ≤ j ∧ j ≤ n ∧ i = .int .i64 j ∧
    Hid (wr.ownsRow w.heap.size 26 1 v j (ss.map (Value.float .f32))) ∧ Hid (wr.ownsRow w.heap.size 26 1 u j (ts.map (Value.float .f32))) ∧ Hid (Apart2 v u) ∧
    Hid (ss.map cn = (List.range j).map (swC ds q)) ∧ Hid (ts.map cn = (List.range j).map (twC ds q)) ∧ Hid (Below w.heap.size w wr)) (fun _ _ i _ _ _ => n - (intOf i).toNat)
  case atStart => exact ⟨1, [1065353216], [t0], Nat.le_refl _, h1n, rfl, O1s, O2s, (fun k hk hk' => by cases hk; simp [Value.ownBlock] at hk'), (by show _ = _; simp [List.range_succ]; rfl), (by show _ = _; simp [List.range_succ]; exact VT0.out), B1s⟩
  case round =>
    obtain ⟨j, ss, ts, hj1, hj, rfl, Ho1, Ho2, Ha, Hs, Ht, Hb⟩ := hrel
    by_cases hlt : j < n
    · obtain ⟨m, rfl⟩ : ∃ m, j = m + 1 := ⟨j - 1, by omega⟩
      obtain ⟨X, hX⟩ : ∃ X, ds[m + 1]? = some X := ⟨_, List.getElem?_eq_getElem (by have := Hl.out; omega)⟩
      obtain ⟨Y, hY⟩ : ∃ Y, ds[m]? = some Y := ⟨_, List.getElem?_eq_getElem (by have := Hl.out; omega)⟩
      obtain ⟨c0, c1⟩ := Dc.at (rangeAt_of_block (Hc.out (m + 1) X hX) (Hb.out.block b hbs))
      obtain ⟨d0, d1⟩ := Dc.at (rangeAt_of_block (Hc.out m Y hY) (Hb.out.block b hbs))
      have Hx := Lib.hid (getD_of hX); have Hy := Lib.hid (getD_of hY)
      obtain ⟨ga, ca, rfl, hga⟩ := row_form Ho1.out (by omega)
      obtain ⟨gb, cb, rfl, hgb⟩ := row_form Ho2.out (by omega)
      have hl1 : ss.length = m + 1 := by have := congrArg List.length Hs.out; simpa using this
      have hl2 : ts.length = m + 1 := by have := congrArg List.length Ht.out; simpa using this
      obtain ⟨x, hx⟩ : ∃ x, ss[m]? = some x := ⟨_, List.getElem?_eq_getElem (by omega)⟩
      obtain ⟨y, hy⟩ : ∃ y, ts[m]? = some y := ⟨_, List.getElem?_eq_getElem (by omega)⟩
      have a0 : wr.cell? ⟨ga, m, none⟩ = some (.float .f32 x) := (Ho1.out.cellAt m (by omega)).trans (by rw [List.getElem?_map, hx]; rfl)
      have b0 : wr.cell? ⟨gb, m, none⟩ = some (.float .f32 y) := (Ho2.out.cellAt m (by omega)).trans (by rw [List.getElem?_map, hy]; rfl)
      have Hyy := Lib.hid hy
      have Hsx := Lib.hid (map_at Hs.out hx); have Hty := Lib.hid (map_at Ht.out hy)
      have u1 : (0 : Int) ≤ ((m + 1 : Nat) : Int) := by omega
      have u2 : IntKind.i64.wrap (m : Int) = (m : Int) := IntWalk.i64_in _ (by omega)
      have u3 : (m : Int) < (m : Int) + 1 := by omega
      have u4 : (m : Int) + 1 < (n : Int) := by omega
      have u5 : (m : Int) < (n : Int) := by omega
      clear hX hY hl1 hl2 hx hy
      go_upto_region 6 with fail
      go_cut [9] (fun s9 wx => (∃ r, s9 = .float .f32 r ∧ CN r (swC ds q (m + 1))) ∧ Below wr.heap.size wr wx)
      case first =>
        go_region_law (fail)
        all_goals
          go_wp2_with fail
          go_meet
          refine ⟨⟨_, rfl, ?_⟩, ?_⟩
          · show cn _ = _
            unfold swC
            rw [bef_next, HC.out .add rfl, HC.out .quo rfl, Hsx.out, Hty.out, Hy.out]
            rfl
          · repeat (first | exact Below.refl wr.heap.size wr | refine b_drewN ?_ _ | refine b_drew ?_ | refine b_then ?_ (by assumption))
      case rest =>
        obtain ⟨⟨gs, rfl, hr⟩, hbc⟩ := hcut
        have VS : Hid (cn gs = swC ds q (m + 1)) := hr
        have Bc : Hid (Below w.heap.size w wc) := b_then Hb.out hbc
        have e0 : wc.cell? ⟨b, off + (m + 1) * 2, none⟩ = some (.float .f32 X.i) := (World.cell?_of_block (a := ⟨b, off + (m + 1) * 2, none⟩) (hbc.block b (Nat.lt_of_lt_of_le hbs Hb.out.size))).trans c0
        have P1 := Lib.hid (own_below Ho1.out hbc); have P2 := Lib.hid (own_below Ho2.out hbc)
        clear c0 c1 d0 d1 a0 b0 hr hbc
        go_upto_region 8 with fail
        generalize hgp : R .mul _ gs _ = gp
        have VP : Hid (cn gp = f2 .mul (f2 .mul (cn q) (cn (ds.getD (m + 1) default).i)) (swC ds q (m + 1))) := by
          show _ = _
          rw [← hgp, HC.out .mul rfl, HC.out .mul rfl, VS.out, Hx.out]
        clear hgp e0
        generalize hW8 : World.drewN wc (_ + _) = W8
        have hh8 : W8.heap = wc.heap := by rw [← hW8]; rfl
        have B8 : Hid (Below w.heap.size w W8) := by rw [← hW8]; exact b_drewN Bc.out _
        have O1 := Lib.hid (own_heap hh8 P1.out); have O2 := Lib.hid (own_heap hh8 P2.out)
        clear hW8 hh8
        go_wp2_with (first | (at_builtin; refine wpList_append_own2 _ rfl _ _ 28 rfl w.heap.size 26 i0 _ 1 4 Tryd.underlying28 hi hz0 hz1 hz2 rfl (by omega) _ (m + 1) _ rfl (O1.out.alloc _) _ 1 _ [_] rfl rfl (World.news_of_block (cs := #[_]) (heap_alloc_new _ _)) (by intro u hu; simp at hu; subst hu; rfl) (by unfold maxLen; omega) (by omega) (by have := B8.out.size; simp; omega) ?_; intro v9 w9 hown9 hgrow9 hf9; have O29 := Lib.hid (Apart2.keep Ha.out (O2.out.alloc _) hgrow9); have b9 : w9.cell? ⟨gb, m, none⟩ = some (.float .f32 y) := (O29.out.cellAt m (by omega)).trans (by rw [List.getElem?_map, Hyy.out]; rfl)) | (at_builtin; refine wpList_append_own2 _ rfl _ _ 28 rfl w.heap.size 26 i0 _ 1 4 Tryd.underlying28 hi hz0 hz1 hz2 rfl (by omega) _ (m + 1) _ rfl ((own_heap (w := w9) rfl O29.out).alloc _) _ 1 _ [_] rfl rfl (World.news_of_block (cs := #[_]) (heap_alloc_new _ _)) (by intro u hu; simp at hu; subst hu; rfl) (by unfold maxLen; omega) (by omega) (by have := B8.out.size; have := hgrow9.size; simp at this ⊢; omega) ?_; intro u9 wz hown10 hgrow10 hf10))
        all_goals
          have A9 := Apart2.grow Ha.out hf9 (fun k hk => ((O2.out.alloc _).lt k hk).2)
          have B9 : Hid (Below w.heap.size w w9) := (B8.out.alloc B8.out.size _).grown hgrow9 (by have := B8.out.size; simp; omega) (fun k h => (O1.out.lt k h).1)
          have Bz : Hid (Below w.heap.size w wz) := ((b_drewN B9.out _).alloc B9.out.size _).grown hgrow10 (by have := B9.out.size; simp; omega) (fun k h => (O2.out.lt k h).1)
          have hg10 : ((w9.drewN (N .sub y gp w9)).alloc (.cells #[.float .f32 (R .sub y gp w9)] 26)).grownBy wz (Value.slice (some ⟨gb, 0, none⟩) (m + 1) cb).ownBlock := hgrow10
          have O1z : Hid (wz.ownsRow w.heap.size 26 1 v9 (m + 1 + 1) ((ss ++ [gs]).map (Value.float .f32))) := by
            rw [List.map_append]
            exact Apart2.keep A9.symm ((own_heap (w := w9) (w' := w9.drewN (N .sub y gp w9)) rfl hown9).alloc _) hg10
          have hV : ∀ W, cn (R .sub y gp W) = twC ds q (m + 1) := fun W => by
            rw [HC.out .sub rfl, Hty.out, VP.out]
            unfold twC
            rw [bef_next]
            unfold swC
            rw [bef_next]
          have O2z : Hid (wz.ownsRow w.heap.size 26 1 u9 (m + 1 + 1) ((ts ++ [R .sub y gp w9]).map (Value.float .f32))) := by
            rw [List.map_append]
            exact hown10
          have Az : Hid (Apart2 v9 u9) := (Apart2.grow A9.symm hf10 (fun k hk => (((own_heap (w := w9) (w' := w9.drewN (N .sub y gp w9)) rfl hown9).alloc _).lt k hk).2)).symm
          have e1 : Hid ((ss ++ [gs]).map cn = (List.range (m + 1 + 1)).map (swC ds q)) := map_snoc Hs.out VS.out
          have e2 : Hid ((ts ++ [R .sub y gp w9]).map cn = (List.range (m + 1 + 1)).map (twC ds q)) := map_snoc Ht.out (hV _)
          clear hown9 hgrow9 hf9 hown10 hgrow10 hf10 O29 A9 hV b9 hg10
          go_wp2
          go_roundw
          case rel => exact ⟨m + 1 + 1, ss ++ [gs], ts ++ [R .sub y gp w9], by omega, by omega, by go_num, O1z, O2z, Az, e1, e2, Bz⟩
          case measure => simp [intOf]; omega
    · obtain rfl : j = n := by omega
      go_wp2
      go_ret2
      have hl1 : ss.length = j := by have := congrArg List.length Hs.out; simpa using this
      have hl2 : ts.length = j := by have := congrArg List.length Ht.out; simpa using this
      exact ⟨_, _, ss, ts, rfl, by rw [hl1]; exact Ho1.out, by rw [hl2]; exact Ho2.out, Ha.out, Hs.out, Ht.out, Hb.out⟩
end Go.Proofs.YtaodpopghacmaaaDoor
