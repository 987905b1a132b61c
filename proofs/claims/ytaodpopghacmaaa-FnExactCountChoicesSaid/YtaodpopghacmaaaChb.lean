/-
  The best choice: the program's search.
-/
import Derived.Test.YtaodpopghacmaaaChs
import Derived.Test.YtaodpopghacmaaaChf
import Derived.Test.YtaodpopghacmaaaPtb
import Derived.Test.YtaodpopghacmaaaBlk
import Derived.RangeFuncBox
import Derived.Stop.RegionWithIn
import Derived.Deep.RegionHeld3
import Derived.Deep.RegionLaw
namespace Go.Proofs.Ytaodpopghacmaaa
open Go.RowKit Go.ChangeShapes Go.WideShapes Go.Deep Go.Shelf
attribute [local go_sem] Oper.semAt_some
set_option linter.unusedVariables false
set_option linter.unusedSimpArgs false
/-- The cells of a choice. -/
abbrev chK (x : (Nat × Nat) × (Nat × Nat)) : Array Value := #[.int .i16 (x.1.1 : Int), .int .i16 (x.1.2 : Int), .int .i16 (x.2.1 : Int), .int .i16 (x.2.2 : Int)]
theorem choices_in (f : Nat) (A : Option Addr) (k c : Nat) (w : World) :
    CallsIn Fence.wide f Try.prog 71 #[.slice A k c] w fun e w' =>
      e = .returned (.func (.func 95) #[] #[.pointer (some ⟨w.heap.size, 0, none⟩)]) ∧ w.alloc (.cells #[.slice A k c] 22) = w' := by
  refine callsIn_wide.2 ?_
  go_enter Try.func71, Try.ntmps71
  go_wp2
  go_ret
  exact ⟨rfl, rfl⟩
theorem ret_ch {fn : Func} {tmps : Array Value} {W : World} {q s1 s2 s3 : Nat} {x : (Nat × Nat) × (Nat × Nat)} (hr : fn.results = #[.cell s1 49, .tmp s2, .tmp s3])
    (h1 : tmps.getD s1 undef = .pointer (some ⟨q, 0, none⟩)) (Z : Blk W q (chK x) 49) : (results fn tmps).run Try.prog W = .ok (.tuple #[.agg (chK x), tmps.getD s2 undef, tmps.getD s3 undef]) W := by
  have e0 := Z.cell 0
  have e1 := Z.cell 1
  have e2 := Z.cell 2
  have e3 := Z.cell 3
  simp at e0 e1 e2 e3
  rw [Array.getD_eq_getD_getElem?] at h1
  simp [results, hr, h1, go_sem, e0, e1, e2, e3]
theorem Blk.under {W W' : World} {q : Nat} {cs : Array Value} {t : TypeId} (h : Blk W q cs t) (hb : Below W.heap.size W W') : Blk W' q cs t := (hb.block q h.lt).trans h
theorem Blk.more {W : World} {q : Nat} {cs : Array Value} {t : TypeId} (h : Blk W q cs t) (o : Obj) : Blk (W.alloc o) q cs t := h.under (b_alloc (Below.refl _ _) o)
theorem Blk.newAt {W : World} {k : Nat} (h : W.heap.size = k) (cs : Array Value) (t : TypeId) : Blk (W.alloc (.cells cs t)) k cs t := by subst h; exact Blk.new W cs t
theorem bx_underC {W W' : World} {B : Nat} {t : TypeId} {v : Value} (h : Boxed W B t v) (hb : Below W.heap.size W W') : Boxed W' B t v := (hb.block B h.lt).trans h
theorem put4 {W : World} {q : Nat} {a b c d : Value} {t : TypeId} (h : Blk W q #[a, b, c, d] t) (x y z u : Int) :
    Blk ((((W.setCell ⟨q, 0, none⟩ (.int .i16 x)).setCell ⟨q, 1, none⟩ (.int .i16 y)).setCell ⟨q, 2, none⟩ (.int .i16 z)).setCell ⟨q, 3, none⟩ (.int .i16 u)) q #[.int .i16 x, .int .i16 y, .int .i16 z, .int .i16 u] t := (((h.set 0 _).set 1 _).set 2 _).set 3 _
theorem put4_below {B : Nat} {w W : World} {q : Nat} (h : Below B w W) (hq : B ≤ q) (x y z u : Value) :
    Below B w ((((W.setCell ⟨q, 0, none⟩ x).setCell ⟨q, 1, none⟩ y).setCell ⟨q, 2, none⟩ z).setCell ⟨q, 3, none⟩ u) := (((h.setCell (p := ⟨q, 0, none⟩) hq x).setCell (p := ⟨q, 1, none⟩) hq y).setCell (p := ⟨q, 2, none⟩) hq z).setCell (p := ⟨q, 3, none⟩) hq u
def bcK (n : Nat) (K : Int) : Int := if K = 0 then (if n < 4 then 6 else 0) else K
/-- The best choice of a box that is right. -/
def bcR (zs : List Int) (n t : Nat) (K : Int) : ((Nat × Nat) × (Nat × Nat)) × Nat := if K = 0 then (if n < 4 then (((0, 0), (0, 0)), 0) else bestG (offX zs t) (chU n) (((0, 0), (0, 0)), 2139095039)) else (((0, 0), (0, 0)), 0)
theorem chU_mem {n : Nat} {x : (Nat × Nat) × (Nat × Nat)} (h : x ∈ chU n) : Wn n x := by
  unfold chU chC at h
  obtain ⟨p, hp, hx⟩ := List.mem_flatMap.1 h
  unfold rowC at hx
  obtain ⟨q, hq, rfl⟩ := List.mem_map.1 hx
  have h1 := prU_mem hp
  have h2 := prU_mem (List.mem_filter.1 hq).1
  exact ⟨h1.1, h1.2.1, h2.1, h2.2.1⟩
/-- What the search has in its boxes. -/
structure BcI (w W : World) (L : Nat) (A : Option Addr) (n c t : Nat) (s : ((Nat × Nat) × (Nat × Nat)) × Nat) : Prop where
  a : Boxed W w.heap.size 22 (.slice A n c)
  b : Boxed W (w.heap.size + 1) 23 (.float .f32 t)
  r : Blk W (w.heap.size + 1 + 1) (chK ((0, 0), (0, 0))) 49
  e : Blk W L (chK s.1) 49
  l : Boxed W (L + 1) 23 (.float .f32 s.2)
  h : Below w.heap.size w W
theorem blk_kept {q : Nat} {cs : Array Value} {t : TypeId} {W W' : World} {row : Option Nat} (h : Blk W q cs t) (hg : W.grownBy W' row) (hr : ∀ r, row = some r → ∃ o : Obj, W.heap[r]? = some o ∧ o.isCells = false) : Blk W' q cs t :=
  (hg.block q h.lt (fun e => by
    obtain ⟨o, ho, hc⟩ := hr q e.symm
    rw [show W.heap[q]? = _ from h] at ho
    cases ho; cases hc)).trans h
theorem BcI.own (w : World) (B L : Nat) (A : Option Addr) (n c t : Nat) (hB : w.heap.size ≤ B) {β : Type} (f : β → ((Nat × Nat) × (Nat × Nat)) × Nat) : OwnX (fun _ => False) B (fun (x : β) W => BcI w W L A n c t (f x)) := fun s W W' row hs hg hr => by
  have k := fun r e => (hr r e).2
  exact ⟨bx_kept hs.a hg k, bx_kept hs.b hg k, blk_kept hs.r hg k, blk_kept hs.e hg k, bx_kept hs.l hg k, hs.h.grown hg hs.h.size (fun j e => Nat.le_trans hB ((hr j e).1.elim False.elim id))⟩
theorem BcI.under {w W W' : World} {L : Nat} {A : Option Addr} {n c t : Nat} {s : ((Nat × Nat) × (Nat × Nat)) × Nat} (h : BcI w W L A n c t s) (hb : Below W.heap.size W W') : BcI w W' L A n c t s :=
  ⟨bx_underC h.a hb, bx_underC h.b hb, h.r.under hb, h.e.under hb, bx_underC h.l hb, b_then h.h hb⟩
theorem bx_oth {W : World} {B q i : Nat} {t : TypeId} {v x : Value} (h : Boxed W B t v) (hne : B ≠ q) : Boxed (W.setCell ⟨q, i, none⟩ x) B t v := (Below.heap_setCell W ⟨q, i, none⟩ x B hne).trans h
/-- A choice is stored, and by how much it is off. -/
def stC (W : World) (L : Nat) (x : (Nat × Nat) × (Nat × Nat)) (z : Nat) : World :=
  ((((W.setCell ⟨L, 0, none⟩ (.int .i16 (x.1.1 : Int))).setCell ⟨L, 1, none⟩ (.int .i16 (x.1.2 : Int))).setCell ⟨L, 2, none⟩ (.int .i16 (x.2.1 : Int))).setCell ⟨L, 3, none⟩ (.int .i16 (x.2.2 : Int))).setCell ⟨L + 1, 0, none⟩ (.float .f32 z)
theorem BcI.store {w W : World} {L : Nat} {A : Option Addr} {n c t : Nat} {s : ((Nat × Nat) × (Nat × Nat)) × Nat} (h : BcI w W L A n c t s) (hS : w.heap.size + 3 ≤ L) (x : (Nat × Nat) × (Nat × Nat)) (z : Nat) : BcI w (stC W L x z) L A n c t (x, z) := by
  unfold stC
  refine ⟨?_, ?_, ?_, ?_, ?_, ?_⟩
  · exact bx_oth (bx_oth (bx_oth (bx_oth (bx_oth h.a (by omega)) (by omega)) (by omega)) (by omega)) (by omega)
  · exact bx_oth (bx_oth (bx_oth (bx_oth (bx_oth h.b (by omega)) (by omega)) (by omega)) (by omega)) (by omega)
  · exact ((((h.r.setO (by omega) _ _).setO (by omega) _ _).setO (by omega) _ _).setO (by omega) _ _).setO (by omega) _ _
  · exact (put4 h.e _ _ _ _).setO (by omega) _ _
  · exact (bx_oth (bx_oth (bx_oth (bx_oth h.l (by omega)) (by omega)) (by omega)) (by omega)).set _
  · exact (put4_below h.h (by omega) _ _ _ _).setCell (p := ⟨L + 1, 0, none⟩) (by show w.heap.size ≤ L + 1; omega) _
theorem stC_keeps (W : World) (L : Nat) (x : (Nat × Nat) × (Nat × Nat)) (z : Nat) : KeepsOthers W (stC W L x z) :=
  ((((KeepsOthers.setCell _ _ _).trans (KeepsOthers.setCell _ _ _)).trans (KeepsOthers.setCell _ _ _)).trans (KeepsOthers.setCell _ _ _)).trans (KeepsOthers.setCell _ _ _)
theorem stC_kc (W : World) (L : Nat) (x : (Nat × Nat) × (Nat × Nat)) (z : Nat) : KC (fun k => k = L ∨ k = L + 1) W (stC W L x z) :=
  ((((KC.set (.inl rfl) _ _).trans (KC.set (.inl rfl) _ _)).trans (KC.set (.inl rfl) _ _)).trans (KC.set (.inl rfl) _ _)).trans (KC.set (.inr rfl) _ _)
set_option maxRecDepth 100000 in
set_option maxHeartbeats 8000000 in
theorem implBestC_any (A : Option Addr) (n c : Nat) (zs : List Int) (t : Nat) (w : World) (hl : zs.length = n) (hn : n ≤ 1048576) (hw : ∀ z ∈ zs, I16 z) (hT : Ii w w.heap.size A zs) {tb : Bool} (htb : tgB t = tb) {K0 : Int} (hK0 : codeX (okZ zs) tb = K0) :
    Calls Try.prog 32 #[.slice A n c, .float .f32 t] w (RV (.tuple #[.agg (chK (bcR zs n t K0).1), .float .f32 (bcR zs n t K0).2, .int .i64 (bcK n K0)]) w) := by
  obtain ⟨R, hR⟩ : ∃ R, bcR zs n t K0 = R := ⟨_, rfl⟩
  obtain ⟨K2, hK2⟩ : ∃ K2, bcK n K0 = K2 := ⟨_, rfl⟩
  have HR := Lib.hid hR; have HK2 := Lib.hid hK2
  rw [hR, hK2]
  clear hR hK2
  have hG := Lib.hid (fun w => (by have := isTarget_any t w; rw [htb] at this; exact this : Calls Try.prog 51 #[.float .f32 t] w fun e w' => e = .returned (.bool tb) ∧ w = w'))
  have hE := Lib.hid (fun (W : World) (h : Ii W W.heap.size A zs) => (boxError_is (b := tb) (K := K0) hK0 hl hn hw h : Calls Try.prog 50 #[.slice A n c, .bool tb] W (RV (.int .i64 K0) W)))
  have HT := Lib.hid hT
  refine (callsIn_wide (n := 9)).1 ?_
  refine callsIn_of_wp_marks Try.func32 rfl trivial ?_ rfl
  simp only [Try.ntmps32, List.size_toArray, List.length_cons, List.length_nil, Nat.reduceAdd, Nat.reduceSub, Array.replicate_succ, Array.replicate_zero, List.push_toArray, List.append_toArray, List.nil_append, List.cons_append]
  obtain ⟨W3, hW3⟩ : ∃ W3, ((w.alloc (.cells #[.slice A n c] 22)).alloc (.cells #[.float .f32 t] 23)).alloc (.cells (chK ((0, 0), (0, 0))) 49) = W3 := ⟨_, rfl⟩
  have xa : Boxed W3 w.heap.size 22 (.slice A n c) := by rw [← hW3]; exact ((Boxed.new w _ _).alloc _).alloc _
  have xb : Boxed W3 (w.heap.size + 1) 23 (.float .f32 t) := by rw [← hW3]; exact (bx_newC _ (by simp)).alloc _
  have xc : Blk W3 (w.heap.size + 1 + 1) (chK ((0, 0), (0, 0))) 49 := by rw [← hW3]; exact Blk.newAt (by simp) _ _
  have B3 : Hid (Below w.heap.size w W3) := by rw [← hW3]; exact b_alloc (b_alloc (b_alloc (Below.refl _ _) _) _) _
  have s3 : W3.heap.size = w.heap.size + 3 := by rw [← hW3]; simp
  have ca := xa.cell; have cb := xb.cell
  dsimp only [chK] at hW3
  simp only [Int.natCast_zero] at hW3
  gi_wp2
  try simp only [hW3]
  clear hW3
  obtain ⟨QQ, hQQ⟩ : ∃ QQ : Exit → Act → World → Prop, QQ = (fun e a' W4 => e = .normal ∧ a' = { tmps := #[.slice A n c, .float .f32 t, .pointer (some ⟨w.heap.size, 0, none⟩), .pointer (some ⟨w.heap.size + 1, 0, none⟩), .pointer (some ⟨w.heap.size + 1 + 1, 0, none⟩), .float .f32 0, .int .i64 0, .int .i64 K0, undef, undef, undef, undef, .slice A n c, .float .f32 t, .bool tb, .int .i64 K0, undef, undef, undef, undef, undef, undef, undef, undef, undef, undef, undef, undef, undef, undef, undef, undef, undef, undef, undef, undef, undef, undef, undef, undef, undef, undef], defers := [] } ∧ Below W3.heap.size W3 W4) := ⟨_, rfl⟩
  have HQ : Hid (∀ W4, Below W3.heap.size W3 W4 → QQ .normal { tmps := #[.slice A n c, .float .f32 t, .pointer (some ⟨w.heap.size, 0, none⟩), .pointer (some ⟨w.heap.size + 1, 0, none⟩), .pointer (some ⟨w.heap.size + 1 + 1, 0, none⟩), .float .f32 0, .int .i64 0, .int .i64 K0, undef, undef, undef, undef, .slice A n c, .float .f32 t, .bool tb, .int .i64 K0, undef, undef, undef, undef, undef, undef, undef, undef, undef, undef, undef, undef, undef, undef, undef, undef, undef, undef, undef, undef, undef, undef, undef, undef, undef, undef], defers := [] } W4) := Lib.hid fun W4 h => by rw [hQQ]; exact ⟨rfl, rfl, h⟩
  have HQQ := Lib.hid hQQ
  clear hQQ
  refine wpIn_mono (Q := QQ) ?_ ?_
  case refine_1 =>
    refine wpIn_wide.2 ?_
    refine wp_region_noPanic ?_
    go_region_law (first
      | (go_simp; go_at_call 51; refine (hG.out _).mono ?_; rintro e w1 ⟨rfl, rfl⟩; dsimp only)
      | (go_simp; go_at_call 50; refine (hE.out _ (by first | exact (HT.out.keep B3.out).keep (b_drew (Below.refl _ _)) | exact HT.out.keep B3.out)).mono ?_; rintro e w2 ⟨rfl, q2⟩; have Q2 := Lib.hid (b_then (b_drew (Below.refl W3.heap.size W3)) q2); clear q2; dsimp only))
    all_goals exact NoPanic.normal (HQ.out _ Q2.out)
  case refine_2 =>
    intro e a' W4 hq
    rw [HQQ.out] at hq
    obtain ⟨rfl, rfl, q4⟩ := hq
    clear HQ HQQ
    have ya := bx_underC xa q4; have yb := bx_underC xb q4; have yc := xc.under q4
    have B4 : Hid (Below w.heap.size w W4) := b_then B3.out q4
    have s4 : w.heap.size + 3 ≤ W4.heap.size := by have := q4.size; omega
    clear ca cb xa xb xc q4 B3 s3
    have cc0 := yc.cell 0; have cc1 := yc.cell 1; have cc2 := yc.cell 2; have cc3 := yc.cell 3
    simp at cc0 cc1 cc2 cc3
    have ff0 := yc.frozen 0; have ff1 := yc.frozen 1; have ff2 := yc.frozen 2; have ff3 := yc.frozen 3
    have ca := ya.cell
    rcases codeX_cases hK0 with rfl | rfl | rfl
    rotate_left
    · gi_wp2
      have hr := HR.out; have hk := HK2.out
      rw [show bcR zs n t 1 = (((0, 0), (0, 0)), 0) from rfl] at hr
      rw [show bcK n 1 = 1 from rfl] at hk
      subst hr hk
      exact ⟨_, ret_ch (x := ((0, 0), (0, 0))) Try.results32 rfl (put4 yc 0 0 0 0), rfl, put4_below B4.out (by omega) _ _ _ _⟩
    · gi_wp2
      have hr := HR.out; have hk := HK2.out
      rw [show bcR zs n t 2 = (((0, 0), (0, 0)), 0) from rfl] at hr
      rw [show bcK n 2 = 2 from rfl] at hk
      subst hr hk
      exact ⟨_, ret_ch (x := ((0, 0), (0, 0))) Try.results32 rfl (put4 yc 0 0 0 0), rfl, put4_below B4.out (by omega) _ _ _ _⟩
    · by_cases h4 : n < 4
      · have l4 : (n : Int) < 4 := by omega
        gi_wp2
        have hr := HR.out; have hk := HK2.out
        rw [show bcR zs n t 0 = (((0, 0), (0, 0)), 0) from if_pos h4] at hr
        rw [show bcK n 0 = 6 from if_pos h4] at hk
        subst hr hk
        exact ⟨_, ret_ch (x := ((0, 0), (0, 0))) Try.results32 rfl (put4 yc 0 0 0 0), rfl, put4_below B4.out (by omega) _ _ _ _⟩
      · have l4 : ¬ (n : Int) < 4 := by omega
        have ca2 := ((ya.alloc (.cells #[.int .i16 0, .int .i16 0, .int .i16 0, .int .i16 0] 49)).alloc (.cells #[.float .f32 2139095039] 23)).cell
        obtain ⟨hz, htt⟩ := codeX_zero hK0
        have ht : tgB t = true := htb.trans htt
        clear htt
        have hlen := (okZ_at hz).1
        rw [hl] at hlen
        obtain ⟨hn2, hn24⟩ := hlen
        gi_wp2
        clear ca ca2 cc0 cc1 cc2 cc3 ff0 ff1 ff2 ff3
        refine ⟨trivial, ?_⟩
        refine (choices_in 8 A n c _).mono ?_
        rintro e w' ⟨rfl, rfl⟩
        gi_wp2
        obtain ⟨L, hL⟩ : ∃ L, W4.heap.size = L := ⟨_, rfl⟩
        rw [hL] at s4
        simp only [hL, World.size_alloc]
        obtain ⟨W0, hW0⟩ : ∃ W0, ((W4.alloc (.cells #[.int .i16 0, .int .i16 0, .int .i16 0, .int .i16 0] 49)).alloc (.cells #[.float .f32 2139095039] 23)).alloc (.cells #[.slice A n c] 22) = W0 := ⟨_, rfl⟩
        have hsz : W0.heap.size = L + 3 := by rw [← hW0, ← hL]; simp
        have hI0 : BcI w W0 L A n c t (((0, 0), (0, 0)), 2139095039) := by
          rw [← hW0]
          refine ⟨((ya.alloc _).alloc _).alloc _, ((yb.alloc _).alloc _).alloc _, ((yc.more _).more _).more _, ((Blk.newAt hL _ _).more _).more _, (bx_newC _ (by simp [hL])).alloc _, b_alloc (b_alloc (b_alloc B4.out _) _) _⟩
        have k5 : Boxed W0 (L + 2) 22 (.slice A n c) := by
          rw [← hW0]
          exact bx_newC _ (by simp [hL])
        try simp only [hW0]
        clear hW0 ya yb yc
        have hseq := choices_seq n hn24 A c (L + 3) (fun k => k = L ∨ k = L + 1) (fun _ => False) W0 hsz (L + 2) k5 (by simp) (fun k h => by omega) (fun k h => h.elim)
        clear k5
        have HZ := Lib.hid hz; have Htt := Lib.hid ht; have Hl := Lib.hid hl; have H4 := Lib.hid h4; have HS4 := Lib.hid s4
        have Hoff := Lib.hid (fun x (hx : Wn n x) => offX_num hz ht (x := x) (by rw [hl]; exact hx))
        have HOD : Hid (∀ x, offC (facC zs x) t = offX zs t x) := Lib.hid fun x => rfl
        have HR2 : Hid (bestG (offX zs t) (chU n) (((0, 0), (0, 0)), 2139095039) = R) := Lib.hid (by have := HR.out; rwa [show bcR zs n t 0 = bestG (offX zs t) (chU n) (((0, 0), (0, 0)), 2139095039) from if_neg h4] at this)
        have HK3 : Hid (K2 = 0) := Lib.hid (by have := HK2.out; rw [show bcK n 0 = 0 from if_neg h4] at this; exact this.symm)
        clear hz ht hw hK0 htb l4 h4 hl
        obtain ⟨off, hoff⟩ : ∃ off, offX zs t = off := ⟨_, rfl⟩
        rw [hoff] at Hoff HOD HR2
        clear HR HK2
        clear hoff
        refine range_at (α := ChT n) (X := fun _ => False) rfl (by omega) (gf := 95) (lb := #[.pointer (some ⟨L + 2, 0, none⟩)]) rfl trivial (enters_of Try.func95 (by kernel_rfl) rfl)
          hseq (fun r h => h.elim) KC.trans (fun W l o o' hle ho hc hwk => KC.put W l o o' ho hc) (Below.refl _ _) (fun _ => rfl)
          (fun pre W => BcI w W L A n c t (bestG off (pre.map (·.1)) (((0, 0), (0, 0)), 2139095039)) ∧ L + 3 ≤ W.heap.size)
          (fun cd pre W => BcI w W L A n c t (bestG off (pre.map (·.1)) (((0, 0), (0, 0)), 2139095039)) ∧ (oEq (bestG off (pre.map (·.1)) (((0, 0), (0, 0)), 2139095039)).2 0 = true ∧ cd = .exit 0))
          (fun s W W' row hs hg hr => ⟨BcI.own w W0.heap.size L A n c t (by omega) (fun pre : List (ChT n) => bestG off (pre.map (·.1)) (((0, 0), (0, 0)), 2139095039)) s W W' row hs.1 hg hr, Nat.le_trans hs.2 hg.size⟩)
          (fun cd s W W' row hs hg hr => ⟨BcI.own w W0.heap.size L A n c t (by omega) (fun pre : List (ChT n) => bestG off (pre.map (·.1)) (((0, 0), (0, 0)), 2139095039)) s W W' row hs.1 hg hr, hs.2⟩)
          ⟨hI0, by omega⟩
          (fun y a' W => ∃ p, L + 3 ≤ p ∧ a' = { tmps := #[.slice A n c, .float .f32 t, .pointer (some ⟨w.heap.size, 0, none⟩), .pointer (some ⟨w.heap.size + 1, 0, none⟩), .pointer (some ⟨w.heap.size + 1 + 1, 0, none⟩), .float .f32 0, .int .i64 0, .int .i64 0, .pointer (some ⟨L, 0, none⟩), .pointer (some ⟨L + 1, 0, none⟩), .pointer (some ⟨p, 0, none⟩), undef, .slice A n c, .float .f32 t, .bool tb, .int .i64 0, .int .i64 0, .bool false, undef, undef, .slice A n c, .int .i64 n, .bool false, undef, .agg #[.int .i16 0, .int .i16 0, .int .i16 0, .int .i16 0], .slice A n c, .func (.func 95) #[] #[.pointer (some ⟨L + 2, 0, none⟩)], .agg (chK y.1), undef, undef, undef, undef, undef, undef, undef, undef, undef, undef, undef, undef, undef, undef], defers := [] } ∧ Blk W p (chK y.1) 49)
          (fun y a' s W W' row hs hg hr => by obtain ⟨p, h0, h1, h2⟩ := hs; exact ⟨p, h0, h1, blk_kept h2 hg (fun r e => (hr r e).2)⟩) ?assign ?body ?done ?stop
        case assign =>
          rintro l pre y W K hI hK
          have HK := Lib.hid hK
          have HI := Lib.hid hI
          clear hK hI
          dsimp only [chV]
          gi_wp2
          refine HK.out _ _ (kf_below (b_alloc (Below.refl _ _) _)) (KC.below (b_alloc (Below.refl _ _) _)) ⟨HI.out.1.under (b_alloc (Below.refl _ _) _), by have := HI.out.2; simp; omega⟩ ⟨W.heap.size, HI.out.2, ?_, Blk.new _ _ _⟩
          rfl
        case body =>
          rintro l pre ⟨y, hy⟩ a' W hle _ ⟨hI, h6⟩ ⟨p, hp, rfl, hy4⟩ hlen
          have HW6 := Lib.hid h6
          have HWn : Hid (Wn n y) := Lib.hid ⟨hy.1, hy.2.1, hy.2.2.1, hy.2.2.2.1⟩
          have ba := hI.a.cell; have bb := hI.b.cell
          have p0 := hy4.cell 0; have p1 := hy4.cell 1; have p2 := hy4.cell 2; have p3 := hy4.cell 3
          simp at p0 p1 p2 p3
          have HI := Lib.hid hI; have HY4 := Lib.hid hy4
          have HD := Lib.hid (HOD.out y)
          have HN := Lib.hid (Hoff.out y HWn.out)
          clear hI h6 hy4 hlen hseq
          gi_wp2_with fail
          refine wpIn_mono (Q := fun e a' w3 => e = .normal ∧ ∃ r : Nat, a' = { tmps := #[.slice A n c, .float .f32 t, .pointer (some ⟨w.heap.size, 0, none⟩), .pointer (some ⟨w.heap.size + 1, 0, none⟩), .pointer (some ⟨w.heap.size + 1 + 1, 0, none⟩), .float .f32 0, .int .i64 0, .int .i64 0, .pointer (some ⟨L, 0, none⟩), .pointer (some ⟨L + 1, 0, none⟩), .pointer (some ⟨p, 0, none⟩), .float .f32 r, .slice A n c, .float .f32 t, .bool tb, .int .i64 0, .int .i64 0, .bool false, undef, undef, .slice A n c, .int .i64 n, .bool false, undef, .agg #[.int .i16 0, .int .i16 0, .int .i16 0, .int .i16 0], .slice A n c, .func (.func 95) #[] #[.pointer (some ⟨L + 2, 0, none⟩)], .agg (chK y), .agg (chK y), .slice A n c, .float .f32 (facC zs y), .float .f32 t, .float .f32 r, undef, undef, undef, undef, undef, undef, undef, undef, undef], defers := [] } ∧ CN r (offC (facC zs y) t) ∧ Below W.heap.size W w3) ?_ ?_
          case refine_1 =>
            gi_region_with (first
              | (refine ⟨trivial, ?_⟩; gi_at_call 72; refine (CallsIn.inRound l (callsIn_wide.2 (implFac_any A n c zs y _ Hl.out (by omega) HZ.out HWn.out (by first | exact (HT.out.keep HI.out.h).keep (b_drew (Below.refl _ _)) | exact (HT.out.keep HI.out.h))))).mono ?_; rintro e w1 ⟨rfl, q1⟩; have Q1 := Lib.hid (b_then (b_drew (Below.refl W.heap.size W)) q1); clear q1; have bb1 := (bx_underC HI.out.b Q1.out).cell)
              | (refine ⟨trivial, ?_⟩; gi_at_call 54; refine (CallsIn.inRound l (callsIn_wide.2 (implOff_any _ _ _))).mono ?_; rintro e w3 ⟨r, rfl, hr, q3⟩; have Q3 := Lib.hid (b_then Q1.out q3); have HR := Lib.hid hr; clear q3 hr))
            all_goals exact ⟨rfl, r, rfl, HR.out, Q3.out⟩
          case refine_2 =>
            rintro e a' w3 ⟨rfl, r, rfl, hr, q3⟩
            have hr : r = off y := cn_eq_fix (hr.trans HD.out) HN.out.1.1
            subst hr
            have I3 := Lib.hid (HI.out.under q3)
            have KF3 : Hid (KeepsFrom W0.heap.size W w3) := Lib.hid (kf_below q3)
            have KK : Hid (KC (fun k => k = L ∨ k = L + 1) W w3) := Lib.hid (KC.below q3)
            have hs3 : L + 3 ≤ w3.heap.size := Nat.le_trans HW6.out q3.size
            have hsn : bestG off ((pre ++ [(⟨y, hy⟩ : ChT n)]).map (·.1)) (((0, 0), (0, 0)), 2139095039) = bstepG off (bestG off (pre.map (·.1)) (((0, 0), (0, 0)), 2139095039)) y := by rw [List.map_append]; exact bestG_snoc _ _ _ _
            have y3 := HY4.out.under q3
            have p0 := y3.cell 0; have p1 := y3.cell 1; have p2 := y3.cell 2; have p3 := y3.cell 3
            simp at p0 p1 p2 p3
            clear HN HD ba bb q3 y3
            generalize bestG off (pre.map (·.1)) (((0, 0), (0, 0)), 2139095039) = st at *
            obtain ⟨q, z0⟩ := st
            generalize hz : off y = z at *
            have bl := I3.out.l.cell
            have be0 := I3.out.e.cell 0; have be1 := I3.out.e.cell 1; have be2 := I3.out.e.cell 2; have be3 := I3.out.e.cell 3
            simp at be0 be1 be2 be3
            have fl := I3.out.l.frozen
            have f0 := I3.out.e.frozen 0; have f1 := I3.out.e.frozen 1; have f2 := I3.out.e.frozen 2; have f3 := I3.out.e.frozen 3
            have Hsn := Lib.hid hsn
            have hws := HS4.out
            clear hsn
            dsimp only at bl
            cases hlt : oLt z z0
            · have t1 := (tf_lt hlt).2 rfl
              have Hs2 : Hid (bestG off ((pre ++ [(⟨y, hy⟩ : ChT n)]).map (·.1)) (((0, 0), (0, 0)), 2139095039) = (q, z0)) := Lib.hid (by rw [Hsn.out]; unfold bstepG; rw [hz, hlt]; rfl)
              clear hlt Hsn hz
              cases heq : oEq z0 0
              · have t2 := (tf_eq heq).2 rfl
                gi_wp2
                exact ⟨KF3.out, KK.out, by rw [Hs2.out]; exact I3.out, hs3⟩
              · have t2 := (tf_eq heq).1 rfl
                gi_wp2
                exact ⟨KF3.out, by rw [Hs2.out]; exact I3.out, by rw [Hs2.out]; exact heq, rfl⟩
            · have t1 := (tf_lt hlt).1 rfl
              have Hs2 : Hid (bestG off ((pre ++ [(⟨y, hy⟩ : ChT n)]).map (·.1)) (((0, 0), (0, 0)), 2139095039) = (y, z)) := Lib.hid (by rw [Hsn.out]; unfold bstepG; rw [hz, hlt]; rfl)
              clear hlt Hsn hz
              have K9 : Hid (KeepsFrom W0.heap.size W (stC w3 L y z)) := Lib.hid (KF3.out.trans ((stC_keeps w3 L y z).from _))
              have C9 : Hid (KC (fun k => k = L ∨ k = L + 1) W (stC w3 L y z)) := Lib.hid (KK.out.trans (stC_kc w3 L y z))
              have I9 : Hid (BcI w (stC w3 L y z) L A n c t (y, z)) := Lib.hid (I3.out.store (by omega) y z)
              have S9 : Hid (L + 3 ≤ (stC w3 L y z).heap.size) := Lib.hid (by simp [stC, World.setCell]; omega)
              cases heq : oEq z 0
              · have t2 := (tf_eq heq).2 rfl
                gi_wp2
                exact ⟨K9.out, C9.out, by rw [Hs2.out]; exact I9.out, S9.out⟩
              · have t2 := (tf_eq heq).1 rfl
                gi_wp2
                exact ⟨K9.out, by rw [Hs2.out]; exact I9.out, by rw [Hs2.out]; exact heq, rfl⟩
        case done =>
          rintro D ys W hD hS ⟨hI, _⟩ hK
          rw [hS, HR2.out] at hI
          clear hS hseq
          obtain ⟨q, z0⟩ := R
          have be0 := hI.e.cell 0; have be1 := hI.e.cell 1; have be2 := hI.e.cell 2; have be3 := hI.e.cell 3
          have br0 := hI.r.cell 0; have br1 := hI.r.cell 1; have br2 := hI.r.cell 2; have br3 := hI.r.cell 3
          simp at be0 be1 be2 be3 br0 br1 br2 br3
          have bl := hI.l.cell
          have f0 := hI.r.frozen 0; have f1 := hI.r.frozen 1; have f2 := hI.r.frozen 2; have f3 := hI.r.frozen 3
          have HI := Lib.hid hI; have HK := Lib.hid hK
          have hws : w.heap.size + 3 ≤ L := HS4.out
          clear hI hK
          gi_wp2_with fail
          obtain ⟨QQ, hQQ⟩ : ∃ QQ : Exit → Act → World → Prop, QQ = (fun e a' w3 => e = .normal ∧ a' = { tmps := #[.slice A n c, .float .f32 t, .pointer (some ⟨w.heap.size, 0, none⟩), .pointer (some ⟨w.heap.size + 1, 0, none⟩), .pointer (some ⟨w.heap.size + 1 + 1, 0, none⟩), .float .f32 z0, .int .i64 0, .int .i64 0, .pointer (some ⟨L, 0, none⟩), .pointer (some ⟨L + 1, 0, none⟩), undef, undef, .slice A n c, .float .f32 t, .bool tb, .int .i64 0, .int .i64 0, .bool false, undef, undef, .slice A n c, .int .i64 n, .bool false, undef, .agg #[.int .i16 0, .int .i16 0, .int .i16 0, .int .i16 0], .slice A n c, .func (.func 95) #[] #[.pointer (some ⟨L + 2, 0, none⟩)], undef, undef, undef, undef, undef, undef, undef, undef, undef, undef, undef, undef, undef, .agg (chK q), .float .f32 z0], defers := [{ target := .collected D, args := #[] }] } ∧ w3 = (((((W.setCell ⟨w.heap.size + 1 + 1, 0, none⟩ (.int .i16 (q.1.1 : Int))).setCell ⟨w.heap.size + 1 + 1, 1, none⟩ (.int .i16 (q.1.2 : Int))).setCell ⟨w.heap.size + 1 + 1, 2, none⟩ (.int .i16 (q.2.1 : Int))).setCell ⟨w.heap.size + 1 + 1, 3, none⟩ (.int .i16 (q.2.2 : Int)))).drew) := ⟨_, rfl⟩
          have HQ : Hid (QQ .normal { tmps := #[.slice A n c, .float .f32 t, .pointer (some ⟨w.heap.size, 0, none⟩), .pointer (some ⟨w.heap.size + 1, 0, none⟩), .pointer (some ⟨w.heap.size + 1 + 1, 0, none⟩), .float .f32 z0, .int .i64 0, .int .i64 0, .pointer (some ⟨L, 0, none⟩), .pointer (some ⟨L + 1, 0, none⟩), undef, undef, .slice A n c, .float .f32 t, .bool tb, .int .i64 0, .int .i64 0, .bool false, undef, undef, .slice A n c, .int .i64 n, .bool false, undef, .agg #[.int .i16 0, .int .i16 0, .int .i16 0, .int .i16 0], .slice A n c, .func (.func 95) #[] #[.pointer (some ⟨L + 2, 0, none⟩)], undef, undef, undef, undef, undef, undef, undef, undef, undef, undef, undef, undef, undef, .agg (chK q), .float .f32 z0], defers := [{ target := .collected D, args := #[] }] } (((((W.setCell ⟨w.heap.size + 1 + 1, 0, none⟩ (.int .i16 (q.1.1 : Int))).setCell ⟨w.heap.size + 1 + 1, 1, none⟩ (.int .i16 (q.1.2 : Int))).setCell ⟨w.heap.size + 1 + 1, 2, none⟩ (.int .i16 (q.2.1 : Int))).setCell ⟨w.heap.size + 1 + 1, 3, none⟩ (.int .i16 (q.2.2 : Int)))).drew) := Lib.hid (by rw [hQQ]; exact ⟨rfl, rfl, rfl⟩)
          have HQQ := Lib.hid hQQ
          clear hQQ
          refine wpIn_mono (Q := QQ) ?_ ?_
          case refine_1 =>
            refine wpIn_wide.2 ?_
            refine wp_region_noPanic ?_
            go_region_law (fail)
            all_goals exact NoPanic.normal HQ.out
          case refine_2 =>
            rintro e a' w3 hq
            rw [HQQ.out] at hq
            obtain ⟨rfl, rfl, rfl⟩ := hq
            clear HQ HQQ
            have hr4 := put4 HI.out.r (q.1.1 : Int) (q.1.2 : Int) (q.2.1 : Int) (q.2.2 : Int)
            have hb4 := put4_below HI.out.h (q := w.heap.size + 1 + 1) (by omega) (.int .i16 (q.1.1 : Int)) (.int .i16 (q.1.2 : Int)) (.int .i16 (q.2.1 : Int)) (.int .i16 (q.2.2 : Int))
            have hk4 := (((KeepsOthers.setCell W ⟨w.heap.size + 1 + 1, 0, none⟩ (.int .i16 (q.1.1 : Int))).trans (KeepsOthers.setCell _ ⟨w.heap.size + 1 + 1, 1, none⟩ (.int .i16 (q.1.2 : Int)))).trans (KeepsOthers.setCell _ ⟨w.heap.size + 1 + 1, 2, none⟩ (.int .i16 (q.2.1 : Int)))).trans (KeepsOthers.setCell _ ⟨w.heap.size + 1 + 1, 3, none⟩ (.int .i16 (q.2.2 : Int)))
            have hD4 := hk4.same D _ HK.out rfl
            generalize (((W.setCell ⟨w.heap.size + 1 + 1, 0, none⟩ (.int .i16 (q.1.1 : Int))).setCell ⟨w.heap.size + 1 + 1, 1, none⟩ (.int .i16 (q.1.2 : Int))).setCell ⟨w.heap.size + 1 + 1, 2, none⟩ (.int .i16 (q.2.1 : Int))).setCell ⟨w.heap.size + 1 + 1, 3, none⟩ (.int .i16 (q.2.2 : Int)) = WF at *
            have HR4 := Lib.hid hr4; have HB4 := Lib.hid hb4; have HD4 := Lib.hid hD4
            clear hr4 hb4 hk4 hD4
            gi_wp2
            have hr5 : Blk (WF.drew.putObj D (.deferred none)) (w.heap.size + 1 + 1) (chK q) 49 := (World.putObj_heap_other (by omega)).trans HR4.out
            have hb5 : Below w.heap.size w (WF.drew.putObj D (.deferred none)) := b_then HB4.out (b_drew (Below.refl _ _)) |>.trans (belowK_b (w := w) (Nat.le_refl _) WF.drew D _ _ (by omega) HD4.out rfl rfl)
            refine ⟨by simp, .inl ⟨_, _, rfl, run_takeDeferred HD4.out, ?_⟩⟩
            exact ⟨_, ret_ch (x := q) Try.results32 rfl hr5, by rw [HK3.out]; rfl, hb5⟩
        case stop =>
          rintro D cd pre W hD hS ⟨hI, hz, rfl⟩ hK
          have hall := bestG_zero (off := off) (all := chU n) (fun p hp => (Hoff.out p (chU_mem hp)).1) hS (s := (((0, 0), (0, 0)), 2139095039)) hz
          rw [← hall, HR2.out] at hI
          clear hS hz hall hseq
          obtain ⟨q, z0⟩ := R
          have be0 := hI.e.cell 0; have be1 := hI.e.cell 1; have be2 := hI.e.cell 2; have be3 := hI.e.cell 3
          have br0 := hI.r.cell 0; have br1 := hI.r.cell 1; have br2 := hI.r.cell 2; have br3 := hI.r.cell 3
          simp at be0 be1 be2 be3 br0 br1 br2 br3
          have bl := hI.l.cell
          have f0 := hI.r.frozen 0; have f1 := hI.r.frozen 1; have f2 := hI.r.frozen 2; have f3 := hI.r.frozen 3
          have HI := Lib.hid hI; have HK := Lib.hid hK
          have hws : w.heap.size + 3 ≤ L := HS4.out
          clear hI hK
          gi_wp2_with fail
          obtain ⟨QQ, hQQ⟩ : ∃ QQ : Exit → Act → World → Prop, QQ = (fun e a' w3 => e = .normal ∧ a' = { tmps := #[.slice A n c, .float .f32 t, .pointer (some ⟨w.heap.size, 0, none⟩), .pointer (some ⟨w.heap.size + 1, 0, none⟩), .pointer (some ⟨w.heap.size + 1 + 1, 0, none⟩), .float .f32 z0, .int .i64 0, .int .i64 0, .pointer (some ⟨L, 0, none⟩), .pointer (some ⟨L + 1, 0, none⟩), undef, undef, .slice A n c, .float .f32 t, .bool tb, .int .i64 0, .int .i64 0, .bool false, undef, undef, .slice A n c, .int .i64 n, .bool false, undef, .agg #[.int .i16 0, .int .i16 0, .int .i16 0, .int .i16 0], .slice A n c, .func (.func 95) #[] #[.pointer (some ⟨L + 2, 0, none⟩)], undef, undef, undef, undef, undef, undef, undef, undef, undef, undef, undef, undef, undef, .agg (chK q), .float .f32 z0], defers := [{ target := .collected D, args := #[] }] } ∧ w3 = (((((W.setCell ⟨w.heap.size + 1 + 1, 0, none⟩ (.int .i16 (q.1.1 : Int))).setCell ⟨w.heap.size + 1 + 1, 1, none⟩ (.int .i16 (q.1.2 : Int))).setCell ⟨w.heap.size + 1 + 1, 2, none⟩ (.int .i16 (q.2.1 : Int))).setCell ⟨w.heap.size + 1 + 1, 3, none⟩ (.int .i16 (q.2.2 : Int)))).drew) := ⟨_, rfl⟩
          have HQ : Hid (QQ .normal { tmps := #[.slice A n c, .float .f32 t, .pointer (some ⟨w.heap.size, 0, none⟩), .pointer (some ⟨w.heap.size + 1, 0, none⟩), .pointer (some ⟨w.heap.size + 1 + 1, 0, none⟩), .float .f32 z0, .int .i64 0, .int .i64 0, .pointer (some ⟨L, 0, none⟩), .pointer (some ⟨L + 1, 0, none⟩), undef, undef, .slice A n c, .float .f32 t, .bool tb, .int .i64 0, .int .i64 0, .bool false, undef, undef, .slice A n c, .int .i64 n, .bool false, undef, .agg #[.int .i16 0, .int .i16 0, .int .i16 0, .int .i16 0], .slice A n c, .func (.func 95) #[] #[.pointer (some ⟨L + 2, 0, none⟩)], undef, undef, undef, undef, undef, undef, undef, undef, undef, undef, undef, undef, undef, .agg (chK q), .float .f32 z0], defers := [{ target := .collected D, args := #[] }] } (((((W.setCell ⟨w.heap.size + 1 + 1, 0, none⟩ (.int .i16 (q.1.1 : Int))).setCell ⟨w.heap.size + 1 + 1, 1, none⟩ (.int .i16 (q.1.2 : Int))).setCell ⟨w.heap.size + 1 + 1, 2, none⟩ (.int .i16 (q.2.1 : Int))).setCell ⟨w.heap.size + 1 + 1, 3, none⟩ (.int .i16 (q.2.2 : Int)))).drew) := Lib.hid (by rw [hQQ]; exact ⟨rfl, rfl, rfl⟩)
          have HQQ := Lib.hid hQQ
          clear hQQ
          refine wpIn_mono (Q := QQ) ?_ ?_
          case refine_1 =>
            refine wpIn_wide.2 ?_
            refine wp_region_noPanic ?_
            go_region_law (fail)
            all_goals exact NoPanic.normal HQ.out
          case refine_2 =>
            rintro e a' w3 hq
            rw [HQQ.out] at hq
            obtain ⟨rfl, rfl, rfl⟩ := hq
            clear HQ HQQ
            have hr4 := put4 HI.out.r (q.1.1 : Int) (q.1.2 : Int) (q.2.1 : Int) (q.2.2 : Int)
            have hb4 := put4_below HI.out.h (q := w.heap.size + 1 + 1) (by omega) (.int .i16 (q.1.1 : Int)) (.int .i16 (q.1.2 : Int)) (.int .i16 (q.2.1 : Int)) (.int .i16 (q.2.2 : Int))
            have hk4 := (((KeepsOthers.setCell W ⟨w.heap.size + 1 + 1, 0, none⟩ (.int .i16 (q.1.1 : Int))).trans (KeepsOthers.setCell _ ⟨w.heap.size + 1 + 1, 1, none⟩ (.int .i16 (q.1.2 : Int)))).trans (KeepsOthers.setCell _ ⟨w.heap.size + 1 + 1, 2, none⟩ (.int .i16 (q.2.1 : Int)))).trans (KeepsOthers.setCell _ ⟨w.heap.size + 1 + 1, 3, none⟩ (.int .i16 (q.2.2 : Int)))
            have hD4 := hk4.same D _ HK.out rfl
            generalize (((W.setCell ⟨w.heap.size + 1 + 1, 0, none⟩ (.int .i16 (q.1.1 : Int))).setCell ⟨w.heap.size + 1 + 1, 1, none⟩ (.int .i16 (q.1.2 : Int))).setCell ⟨w.heap.size + 1 + 1, 2, none⟩ (.int .i16 (q.2.1 : Int))).setCell ⟨w.heap.size + 1 + 1, 3, none⟩ (.int .i16 (q.2.2 : Int)) = WF at *
            have HR4 := Lib.hid hr4; have HB4 := Lib.hid hb4; have HD4 := Lib.hid hD4
            clear hr4 hb4 hk4 hD4
            gi_wp2
            have hr5 : Blk (WF.drew.putObj D (.deferred none)) (w.heap.size + 1 + 1) (chK q) 49 := (World.putObj_heap_other (by omega)).trans HR4.out
            have hb5 : Below w.heap.size w (WF.drew.putObj D (.deferred none)) := b_then HB4.out (b_drew (Below.refl _ _)) |>.trans (belowK_b (w := w) (Nat.le_refl _) WF.drew D _ _ (by omega) HD4.out rfl rfl)
            refine ⟨by simp, .inl ⟨_, _, rfl, run_takeDeferred HD4.out, ?_⟩⟩
            exact ⟨_, ret_ch (x := q) Try.results32 rfl hr5, by rw [HK3.out]; rfl, hb5⟩
end Go.Proofs.Ytaodpopghacmaaa
