/-
  BestGate, LeastGate: the program's side.
-/
import Derived.Test.YtjkgiknklkfipaaDoorGu
import Derived.RangeFuncBox
import Derived.Stop.RegionWithIn
import Derived.Shelf.Abstract
namespace Go.Proofs.YtjkgiknklkfipaaDoor
open Go.RowKit Go.ChangeShapes Go.WideShapes Go.Deep Go.Shelf
attribute [local go_sem] Oper.semAt_some
set_option linter.unusedVariables false
set_option linter.unusedSimpArgs false
set_option maxRecDepth 100000
theorem bx_newG {k : Nat} {t : TypeId} {v : Value} (W : World) (h : W.heap.size = k) : Boxed (W.alloc (.cells #[v] t)) k t v := by subst h; exact Boxed.new W t v
theorem bx_underG {W W' : World} {B : Nat} {t : TypeId} {v : Value} (h : Boxed W B t v) (hb : Below W.heap.size W W') : Boxed W' B t v := (hb.block B h.lt).trans h
theorem bx_keptG {q : Nat} {t : TypeId} {v : Value} {W W' : World} {row : Option Nat} (h : Boxed W q t v) (hg : W.grownBy W' row) (hr : ∀ r, row = some r → ∃ o : Obj, W.heap[r]? = some o ∧ o.isCells = false) : Boxed W' q t v := boxed_own q t (fun _ : Unit => v) () W W' row h hg hr
theorem bx_otherG {W : World} {B q i : Nat} {t : TypeId} {v x : Value} (h : Boxed W B t v) (hne : B ≠ q) : Boxed (W.setCell ⟨q, i, none⟩ x) B t v := (Below.heap_setCell W ⟨q, i, none⟩ x B hne).trans h
/-- The best gate of those that have come, and how far its torque is off. -/
def bgF (off : Nat → Nat) : Nat → Nat × Nat
  | 0 => (0, 2139095039)
  | k + 1 => (bgB off k, off (bgB off k))
theorem bgF_next {off : Nat → Nat} (h : oLt (off 0) 2139095039 = true) (k : Nat) : bgF off (k + 1) = if oLt (off k) (bgF off k).2 then (k, off k) else bgF off k := by
  cases k with
  | zero => show (0, off 0) = _; rw [show (bgF off 0).2 = 2139095039 from rfl, h]; rfl
  | succ k =>
    show (bgB off (k + 1), off (bgB off (k + 1))) = if oLt (off (k + 1)) (off (bgB off k)) then _ else (bgB off k, off (bgB off k))
    rw [show bgB off (k + 1) = if oLt (off (k + 1)) (off (bgB off k)) then k + 1 else bgB off k from rfl]
    split <;> rfl
/-- The search goes on with gate k. -/
def bgS (off : Nat → Nat) (z : Nat × Nat) (k : Nat) : Nat × Nat := if oLt (off k) z.2 then (k, off k) else z
def bgL (off : Nat → Nat) (ks : List Nat) : Nat × Nat := ks.foldl (bgS off) (0, 2139095039)
theorem bgL_snoc (off : Nat → Nat) (ks : List Nat) (k : Nat) : bgL off (ks ++ [k]) = bgS off (bgL off ks) k := by unfold bgL; rw [List.foldl_append]; rfl
theorem bgL_range {off : Nat → Nat} (h : oLt (off 0) 2139095039 = true) (k : Nat) : bgL off (List.range k) = bgF off k := by
  induction k with
  | zero => rfl
  | succ k ih => rw [List.range_succ, bgL_snoc, ih, bgF_next h]; rfl
/-- What the search for the best gate has in its boxes. -/
structure BgI (w W : World) (B l best least : Nat) (z : Nat × Nat) : Prop where
  l : Boxed W B 24 (.float .f32 l)
  a : Boxed W best 2 (.int .i64 (z.1 : Int))
  b : Boxed W least 24 (.float .f32 z.2)
  h : Below w.heap.size w W
theorem BgI.own {X : Nat → Prop} {C : Nat} (w : World) (B l best least : Nat) (hX : ∀ r, X r → w.heap.size ≤ r) (hC : w.heap.size ≤ C) {β : Type} (f : β → Nat × Nat) : OwnX X C (fun (x : β) W => BgI w W B l best least (f x)) := by
  intro s W W' row hs hg hr
  have hr2 : ∀ r, row = some r → ∃ o : Obj, W.heap[r]? = some o ∧ o.isCells = false := fun r e => (hr r e).2
  exact ⟨bx_keptG hs.l hg hr2, bx_keptG hs.a hg hr2, bx_keptG hs.b hg hr2, hs.h.grown hg hs.h.size (fun j e => (hr j e).1.elim (hX j) (fun h => Nat.le_trans hC h))⟩
theorem ret_2g {fn : Func} {tmps : Array Value} {W : World} {a b : Nat} (hr : fn.results = #[.tmp a, .tmp b]) : (results fn tmps).run Tryd.prog W = .ok (.tuple #[tmps.getD a undef, tmps.getD b undef]) W := by
  simp [results, hr, go_sem]
theorem keepsO_below {W W' : World} (h : Below W.heap.size W W') : KeepsOthers W W' := KeepsOthers.of_grownBy (grown_of_below h none) (fun j o e => by cases e)
set_option maxHeartbeats 8000000 in
theorem implBestGate_any (G : Gv) (wG : (Lit.int .i16 G.mb).wf = true) (wh : G.mh < 4294967296) (s : Nat) (ws : s < 4294967296) (l : Nat) (w : World) (Z : Sens) (hZ : SenAt w Z) : Calls Tryd.prog 31 #[.agg #[.int .i16 G.mb, .float .f32 G.mh, .float .f32 G.mr, .float .f32 G.ar, .float .f32 G.he, .float .f32 G.lo, .float .f32 G.hi, .float .f32 G.ine], .float .f32 s, .float .f32 l] w (RV (.tuple #[.int .i64 (bgR G s l), .int .i64 (gtK G s l)]) w) := by
  have b2 : Below w.heap.size w ((w.alloc (.cells #[.int .i16 G.mb, .float .f32 G.mh, .float .f32 G.mr, .float .f32 G.ar, .float .f32 G.he, .float .f32 G.lo, .float .f32 G.hi, .float .f32 G.ine] 58)).alloc (.cells #[.float .f32 l] 24)) := b_alloc (b_alloc (Below.refl _ _) _) _; have hE := gateError_any Z G s l _ (SenAt.on hZ (by rfl) b2); have HZ := Lib.hid hZ; have B2 := Lib.hid b2; have k0 : AtGv ((w.alloc (.cells #[.int .i16 G.mb, .float .f32 G.mh, .float .f32 G.mr, .float .f32 G.ar, .float .f32 G.he, .float .f32 G.lo, .float .f32 G.hi, .float .f32 G.ine] 58)).alloc (.cells #[.float .f32 l] 24)) w.heap.size G := (AtGv.new w G).push _; have kl : Boxed ((w.alloc (.cells #[.int .i16 G.mb, .float .f32 G.mh, .float .f32 G.mr, .float .f32 G.ar, .float .f32 G.he, .float .f32 G.lo, .float .f32 G.hi, .float .f32 G.ine] 58)).alloc (.cells #[.float .f32 l] 24)) (w.heap.size + 1) 24 (.float .f32 l) := bx_newG _ (by simp); have K0 := Lib.hid k0; have KL := Lib.hid kl; clear hZ b2
  have hc := gtK_cases G s l
  rcases hc with hK | hK | hK
  · obtain ⟨o1, o2, o3⟩ := gtK_zero hK
    have hV : gateV Z G s l = .nilIface := by unfold gateV; rw [o1, o2, o3]; rfl
    have hbg : bgR G s l = (bgB (offG G s l) 16 : Int) := by unfold bgR; rw [if_pos hK]
    rw [hV] at hE
    rw [hbg, hK]
    have HE := Lib.hid hE
    have HG : Hid (GoodG G) := Lib.hid ⟨o1, wG, wh⟩
    have HSp := Lib.hid o2
    have HO := Lib.hid (fun (k : Nat) (hk : k ≤ 16) => off_some HG.out o2 o3 hk)
    have H0 := Lib.hid (off_less HG.out o2 o3 (show 0 ≤ 16 by omega))
    have HD := Lib.hid (show ∀ k : Nat, sizN (subN (torqG G (k : Int) s) l) = offG G s l k from fun _ => rfl)
    clear hK hV hE o1 o2 o3 hbg
    generalize offG G s l = off at *
    refine (callsIn_wide (n := 9)).1 ?_
    refine callsIn_of_wp_marks Tryd.func31 rfl trivial ?_ rfl
    simp only [Tryd.ntmps31, List.size_toArray, List.length_cons, List.length_nil, Nat.reduceAdd, Nat.reduceSub, Array.replicate_succ, Array.replicate_zero, List.push_toArray, List.append_toArray, List.nil_append, List.cons_append]
    obtain ⟨c0, c1, c2, c3, c4, c5, c6, c7⟩ := k0.cells; have cl := kl.cell; clear k0 kl
    gi_wp2_with fail
    refine ⟨trivial, ?_⟩
    refine (callsIn_wide.2 HE.out).mono ?_
    rintro e w1 ⟨rfl, b1⟩
    have B1 : Hid (Below w.heap.size w w1) := Lib.hid (b_then B2.out b1)
    have K1 := Lib.hid (K0.out.on (by rfl) b1)
    have L1 := Lib.hid (bx_underG KL.out b1)
    have hl0 : w.heap.size < w1.heap.size := K1.out.lt
    have hl1 : w.heap.size + 1 < w1.heap.size := L1.out.lt
    clear c0 c1 c2 c3 c4 c5 c6 c7 cl b1
    obtain ⟨c0, c1, c2, c3, c4, c5, c6, c7⟩ := K1.out.cells
    gi_wp2_with fail
    refine ⟨trivial, ?_⟩
    refine (callsIn_wide.2 (governedBy_any G _)).mono ?_
    rintro e w2 ⟨p, rfl, hm, hp, b2⟩
    have HM := Lib.hid hm
    have B2' := Lib.hid b2
    have hp2 : w1.heap.size + 2 ≤ p := by simp at hp; omega
    have hs2 : w1.heap.size + 2 ≤ w2.heap.size := by have := b2.size; simp at this; omega
    have hpl : p < w2.heap.size := (Array.getElem?_eq_some_iff.1 hm).1
    have XA : Hid (Boxed w2 w1.heap.size 2 (.int .i64 0)) := Lib.hid (bx_underG ((bx_newG w1 rfl).alloc _) b2)
    have XB : Hid (Boxed w2 (w1.heap.size + 1) 24 (.float .f32 2139095039)) := Lib.hid (bx_underG (bx_newG _ (by simp)) b2)
    have XL : Hid (Boxed w2 (w.heap.size + 1) 24 (.float .f32 l)) := Lib.hid (bx_underG ((L1.out.alloc _).alloc _) b2)
    have X2 : Hid (Below w.heap.size w w2) := Lib.hid (b_then (b_alloc (b_alloc B1.out _) _) b2)
    clear c0 c1 c2 c3 c4 c5 c6 c7 hm hp b2
    gi_wp2_with fail
    refine ⟨trivial, ?_⟩
    refine (gates_in 8 G p s _).mono ?_
    rintro e w' ⟨rfl, rfl⟩
    gi_wp2
    obtain ⟨W0, hW0⟩ : ∃ W0, (w2.alloc (.cells #[.int .i16 G.mb, .float .f32 G.mh, .float .f32 G.mr, .int .i16 G.mb, .float .f32 G.mh, .float .f32 G.mr, .float .f32 G.ar, .float .f32 G.he, .float .f32 G.lo, .float .f32 G.hi, .float .f32 G.ine, .map (some p)] 98)).alloc (.cells #[.float .f32 s] 24) = W0 := ⟨_, rfl⟩
    have hsz : W0.heap.size = w2.heap.size + 2 := by rw [← hW0]; simp
    have hI0 : BgI w W0 (w.heap.size + 1) l w1.heap.size (w1.heap.size + 1) (0, 2139095039) := by
      rw [← hW0]
      exact ⟨(XL.out.alloc _).alloc _, (XA.out.alloc _).alloc _, (XB.out.alloc _).alloc _, b_alloc (b_alloc X2.out _) _⟩
    have hg0 : AtGd W0 w2.heap.size G p := by rw [← hW0]; exact (AtGd.new w2 G p).push _
    have hq0 : Boxed W0 (w2.heap.size + 1) 24 (.float .f32 s) := by rw [← hW0]; exact bx_newG _ (by simp)
    have hm0 : W0.heap[p]? = some (.map #[] 0) := by
      rw [← hW0]
      exact (Below.heap_alloc _ _ _ (by simp; omega)).trans ((Below.heap_alloc _ _ _ hpl).trans HM.out)
    try simp only [hW0]
    clear hW0
    have hseq := gates_seq 8 G HG.out s HSp.out ws (w2.heap.size + 2) (fun k => k = w1.heap.size ∨ k = w1.heap.size + 1) W0 hsz w2.heap.size (w2.heap.size + 1) p #[] 0 hg0 hq0 hm0 (Inv.nil _) (by show ¬ (_ ∨ _); omega) (by show ¬ (_ ∨ _); omega) (by show ¬ (_ ∨ _); omega) (by omega) (by omega)
    have HI0 := Lib.hid hI0
    clear hg0 hq0 hm0 hI0
    refine range_at (α := GtP) (X := fun r => r = p) rfl (by omega) (gf := 83) (lb := #[.pointer (some ⟨w2.heap.size, 0, none⟩), .pointer (some ⟨w2.heap.size + 1, 0, none⟩)]) rfl trivial (enters_of Tryd.func83 (by kernel_rfl) rfl)
      hseq (fun r h => by have : r = p := h; omega) Keep.trans (fun W l o o' hle ho hc hwk => keep_b W o o' (by omega) ho) (Below.refl _ _) (fun _ => rfl)
      (fun pre W => BgI w W (w.heap.size + 1) l w1.heap.size (w1.heap.size + 1) (bgL off (pre.map (·.1))) ∧ W0.heap.size ≤ W.heap.size)
      (fun _ _ _ => False)
      ?ownI (fun cd => fun _ _ _ _ hs _ _ => hs) ⟨HI0.out, Nat.le_refl _⟩ (fun y a' W => a' = { tmps := #[.agg #[.int .i16 G.mb, .float .f32 G.mh, .float .f32 G.mr, .float .f32 G.ar, .float .f32 G.he, .float .f32 G.lo, .float .f32 G.hi, .float .f32 G.ine], .float .f32 s, .float .f32 l, .pointer (some ⟨w.heap.size, 0, none⟩), undef, .pointer (some ⟨w.heap.size + 1, 0, none⟩), .int .i64 0, .int .i64 0, .nilIface, .pointer (some ⟨w1.heap.size, 0, none⟩), .pointer (some ⟨w1.heap.size + 1, 0, none⟩), .int .i64 (y.1 : Int), .float .f32 (torqG G (y.1 : Int) s), undef, .agg #[.int .i16 G.mb, .float .f32 G.mh, .float .f32 G.mr, .float .f32 G.ar, .float .f32 G.he, .float .f32 G.lo, .float .f32 G.hi, .float .f32 G.ine], .float .f32 s, .float .f32 l, .nilIface, .nilIface, .bool false, undef, undef, .agg #[.int .i16 G.mb, .float .f32 G.mh, .float .f32 G.mr, .float .f32 G.ar, .float .f32 G.he, .float .f32 G.lo, .float .f32 G.hi, .float .f32 G.ine], .agg #[.int .i16 G.mb, .float .f32 G.mh, .float .f32 G.mr, .int .i16 G.mb, .float .f32 G.mh, .float .f32 G.mr, .float .f32 G.ar, .float .f32 G.he, .float .f32 G.lo, .float .f32 G.hi, .float .f32 G.ine, .map (some p)], .float .f32 s, .func (.func 83) #[] #[.pointer (some ⟨w2.heap.size, 0, none⟩), .pointer (some ⟨w2.heap.size + 1, 0, none⟩)], .int .i64 (y.1 : Int), .float .f32 (torqG G (y.1 : Int) s), undef, undef, undef, undef, undef, undef, undef, undef, undef, undef], defers := [] }) (fun _ _ _ _ _ _ hs _ _ => hs) ?assign ?body ?done ?stop
    case ownI =>
      exact OwnX.and (BgI.own w _ l _ _ (fun r h => by have : r = p := h; omega) (by omega) _) (fun _ _ _ _ hs hg _ => Nat.le_trans hs hg.size)
    case assign =>
      rintro l1 pre y W K hI hK
      have HK := Lib.hid hK; have HI := Lib.hid hI
      clear hK hI hseq
      gi_wp2
      exact HK.out _ _ (KeepsFrom.refl _ _) (Keep.refl _ _ _) HI.out rfl
    case body =>
      rintro l1 pre y a' W hle _ ⟨hI, hsW⟩ rfl hlen
      obtain ⟨k, hk⟩ := y
      dsimp only
      obtain ⟨e1, e2, _⟩ := HO.out k (by omega)
      have ra := fun w => run_float_arith (P := Tryd.prog) w .sub 24 .f32 _ _ _ e1
      have Z1 := fun w => sizeW_any (subN (torqG G (k : Int) s) l) e2 w
      rw [HD.out k] at Z1
      have ZZ := Lib.hid Z1
      have hsn := bgL_snoc off (pre.map (·.1)) k
      have HSN := Lib.hid (show bgL off ((pre ++ [(⟨k, hk⟩ : GtP)]).map (·.1)) = bgS off (bgL off (pre.map (·.1))) k by rw [List.map_append]; exact hsn)
      have HI := Lib.hid hI
      clear e1 e2 Z1 hsn hI hseq HO HD
      generalize torqG G (k : Int) s = t1 at *
      generalize subN t1 l = u1 at *
      obtain ⟨v1, hv1⟩ : ∃ v, off k = v := ⟨_, rfl⟩
      rw [hv1] at ZZ
      generalize bgL off (pre.map (·.1)) = z at *
      obtain ⟨b0, m0⟩ := z
      have cl := HI.out.l.cell
      have cb := HI.out.b.cell; have ca := HI.out.a.cell
      have fa := HI.out.a.frozen; have fb := HI.out.b.frozen
      dsimp only at ca cb
      obtain ⟨tb, htb⟩ : ∃ t, oLt v1 m0 = t := ⟨_, rfl⟩
      have hS2 : bgS off (b0, m0) k = if tb then (k, v1) else (b0, m0) := by unfold bgS; rw [hv1]; show (if oLt v1 m0 then _ else _) = _; rw [htb]
      have HS2 := Lib.hid (HSN.out.trans hS2)
      clear hS2 HSN hv1
      cases tb
      · obtain ⟨t1', t2'⟩ := (tf_ltG htb).2 rfl
        clear htb
        gi_wp2_with fail
        refine ⟨trivial, ?_⟩
        refine (CallsIn.inRound l1 (callsIn_wide.2 (ZZ.out _))).mono ?_
        rintro e w' ⟨rfl, rfl⟩
        gi_wp2
        exact ⟨KeepsFrom.refl _ _, Keep.refl _ _ _, by rw [HS2.out]; exact HI.out, hsW⟩
      · have t1' := (tf_ltG htb).1 rfl
        clear htb
        gi_wp2_with fail
        refine ⟨trivial, ?_⟩
        refine (CallsIn.inRound l1 (callsIn_wide.2 (ZZ.out _))).mono ?_
        rintro e w' ⟨rfl, rfl⟩
        gi_wp2
        have n1 : w.heap.size + 1 ≠ w1.heap.size := by omega
        have n2 : w.heap.size + 1 ≠ w1.heap.size + 1 := by omega
        exact ⟨((KeepsOthers.setCell _ _ _).trans (KeepsOthers.setCell _ _ _)).from _, (Keep.set (Or.inl rfl) _).trans (Keep.set (Or.inr rfl) _), by
          rw [HS2.out]
          exact ⟨bx_otherG (bx_otherG HI.out.l n1) n2, bx_otherG (HI.out.a.set _) (by omega), (bx_otherG HI.out.b (by omega)).set _, (HI.out.h.setCell (p := ⟨w1.heap.size, 0, none⟩) (by show w.heap.size ≤ w1.heap.size; omega) _).setCell (p := ⟨w1.heap.size + 1, 0, none⟩) (by show w.heap.size ≤ w1.heap.size + 1; omega) _⟩, by simp [World.setCell]; omega⟩
    case done =>
      rintro D xs W hD hS ⟨hI, _⟩ hK
      rw [hS, bgL_range H0.out] at hI
      have ca := hI.a.cell
      dsimp only [bgF] at ca
      have HI := Lib.hid hI; have HK := Lib.hid hK
      clear hI hK hseq
      gi_wp2
      refine ⟨by simp, .inl ⟨_, _, rfl, run_takeDeferred HK.out, ?_⟩⟩
      exact ⟨_, ret_2g Tryd.results31, rfl, HI.out.h.trans (belowK_b (w := w) (Nat.le_refl _) W D _ _ (by omega) HK.out rfl rfl)⟩
    case stop =>
      rintro D cd pre W hD hS hF hK
      exact hF.elim
  · have hk : okG G = false := by
      unfold gtK at hK
      rcases Bool.eq_false_or_eq_true (okG G) with h1 | h1
      · rw [h1] at hK; rcases Bool.eq_false_or_eq_true (spB s && psB l) with h2 | h2 <;> simp [h2] at hK
      · exact h1
    have hV : gateV Z G s l = .iface 174 (.pointer (some Z.a0)) := by unfold gateV; rw [hk]; rfl
    have hbg : bgR G s l = 0 := by unfold bgR; rw [hK]; rfl
    rw [hV] at hE
    rw [hbg, hK]
    have HE := Lib.hid hE
    clear hK hV hE hbg hk
    refine (callsIn_wide (n := 9)).1 ?_
    refine callsIn_of_wp_marks Tryd.func31 rfl trivial ?_ rfl
    simp only [Tryd.ntmps31, List.size_toArray, List.length_cons, List.length_nil, Nat.reduceAdd, Nat.reduceSub, Array.replicate_succ, Array.replicate_zero, List.push_toArray, List.append_toArray, List.nil_append, List.cons_append]
    obtain ⟨c0, c1, c2, c3, c4, c5, c6, c7⟩ := k0.cells; have cl := kl.cell; clear k0 kl
    gi_wp2_with fail
    refine ⟨trivial, ?_⟩
    refine (callsIn_wide.2 HE.out).mono ?_
    rintro e w1 ⟨rfl, b1⟩
    have B1 : Hid (Below w.heap.size w w1) := Lib.hid (b_then B2.out b1)
    have Z1 : Hid (SenAt w1 Z) := Lib.hid (SenAt.on HZ.out (by rfl) B1.out)
    clear c0 c1 c2 c3 c4 c5 c6 c7 cl b1
    gi_wp2_with fail
    refine ⟨trivial, ?_⟩
    refine (callsIn_wide.2 (codeOf_0 Z _ Z1.out)).mono ?_
    rintro e w2 ⟨rfl, rfl⟩
    gi_wp2
    exact ⟨_, ret_2g Tryd.results31, rfl, B1.out⟩
  · have hk : okG G = true ∧ (spB s && psB l) = false := by
      unfold gtK at hK
      rcases Bool.eq_false_or_eq_true (okG G) with h1 | h1 <;> rcases Bool.eq_false_or_eq_true (spB s && psB l) with h2 | h2 <;> simp [h1, h2] at hK
      exact ⟨h1, h2⟩
    have hV : gateV Z G s l = .iface 174 (.pointer (some Z.a1)) := by unfold gateV; rw [hk.1, hk.2]; rfl
    have hbg : bgR G s l = 0 := by unfold bgR; rw [hK]; rfl
    rw [hV] at hE
    rw [hbg, hK]
    have HE := Lib.hid hE
    clear hK hV hE hbg hk
    refine (callsIn_wide (n := 9)).1 ?_
    refine callsIn_of_wp_marks Tryd.func31 rfl trivial ?_ rfl
    simp only [Tryd.ntmps31, List.size_toArray, List.length_cons, List.length_nil, Nat.reduceAdd, Nat.reduceSub, Array.replicate_succ, Array.replicate_zero, List.push_toArray, List.append_toArray, List.nil_append, List.cons_append]
    obtain ⟨c0, c1, c2, c3, c4, c5, c6, c7⟩ := k0.cells; have cl := kl.cell; clear k0 kl
    gi_wp2_with fail
    refine ⟨trivial, ?_⟩
    refine (callsIn_wide.2 HE.out).mono ?_
    rintro e w1 ⟨rfl, b1⟩
    have B1 : Hid (Below w.heap.size w w1) := Lib.hid (b_then B2.out b1)
    have Z1 : Hid (SenAt w1 Z) := Lib.hid (SenAt.on HZ.out (by rfl) B1.out)
    clear c0 c1 c2 c3 c4 c5 c6 c7 cl b1
    gi_wp2_with fail
    refine ⟨trivial, ?_⟩
    refine (callsIn_wide.2 (codeOf_1 Z _ Z1.out)).mono ?_
    rintro e w2 ⟨rfl, rfl⟩
    gi_wp2
    exact ⟨_, ret_2g Tryd.results31, rfl, B1.out⟩
end Go.Proofs.YtjkgiknklkfipaaDoor
