/-
  How many choices are near to a target: the program's.
-/
import Derived.Test.YtaodpopghacmaaaChb
import Derived.Test.YtaodpopghacmaaaCcm
import Derived.Test.YtaodpopghacmaaaCcq
import Derived.RangeFuncBox
import Derived.Stop.RegionWithIn
import Derived.Deep.RegionHeld3
import Derived.Deep.RegionLaw
namespace Go.Proofs.Ytaodpopghacmaaa
open Go.RowKit Go.ChangeShapes Go.WideShapes Go.Deep Go.Shelf
attribute [local go_sem] Oper.semAt_some
set_option linter.unusedVariables false
set_option linter.unusedSimpArgs false
theorem turned_any (y : (Nat × Nat) × (Nat × Nat)) (w : World) : Calls Try.prog 73 #[.agg (chK y)] w (RV (.agg (chK (trn y))) w) := by
  have k0 := (Blk.new w (chK y) 49).more (.cells (chK ((0, 0), (0, 0))) 49)
  have k1 : Blk ((w.alloc (.cells (chK y) 49)).alloc (.cells (chK ((0, 0), (0, 0))) 49)) (w.heap.size + 1) (chK ((0, 0), (0, 0))) 49 := Blk.newAt (by simp) _ _
  have c0 := k0.cell 0; have c1 := k0.cell 1; have c2 := k0.cell 2; have c3 := k0.cell 3
  simp at c0 c1 c2 c3
  go_enter Try.func73, Try.ntmps73
  go_wp2
  refine bodyPost_ret (v := .agg (chK (trn y))) (by simp [results, Try.results73, go_sem, trn]) rfl ⟨rfl, ?_⟩
  repeat (first | exact Below.refl _ _ | refine b_drewN ?_ _ | refine b_drew ?_ | refine b_alloc ?_ _ | refine Below.setCell ?_ (by simp) _)
/-- What the count has in its boxes. -/
structure CcI (w W : World) (M : Nat) (A : Option Addr) (n c t x : Nat) (Ks : List ((Nat × Nat) × (Nat × Nat))) : Prop where
  a : Boxed W w.heap.size 22 (.slice A n c)
  b : Boxed W (w.heap.size + 1) 23 (.float .f32 t)
  c : Boxed W (w.heap.size + 1 + 1) 23 (.float .f32 x)
  m : Boxed W (M + 1) 96 (.map (some M))
  e : ∃ es cl, W.heap[M]? = some (.map es cl) ∧ InvK Ks es.toList
  h : Below w.heap.size w W
theorem CcI.own (w : World) (B M : Nat) (A : Option Addr) (n c t x : Nat) (hB : w.heap.size ≤ B) (hM : M < B) {β : Type} (f : β → List ((Nat × Nat) × (Nat × Nat))) : OwnX (fun _ => False) B (fun (s : β) W => CcI w W M A n c t x (f s)) := fun s W W' row hs hg hr => by
  have k := fun r e => (hr r e).2
  obtain ⟨es, cl, h1, h2⟩ := hs.e
  exact ⟨bx_kept hs.a hg k, bx_kept hs.b hg k, bx_kept hs.c hg k, bx_kept hs.m hg k, ⟨es, cl, (hg.block M (Array.getElem?_eq_some_iff.1 h1).1 (fun e => by have := (hr M e.symm).1.elim False.elim id; omega)).trans h1, h2⟩, hs.h.grown hg hs.h.size (fun j e => Nat.le_trans hB ((hr j e).1.elim False.elim id))⟩
theorem CcI.under {w W W' : World} {M : Nat} {A : Option Addr} {n c t x : Nat} {Ks : List ((Nat × Nat) × (Nat × Nat))} (h : CcI w W M A n c t x Ks) (hb : Below W.heap.size W W') : CcI w W' M A n c t x Ks := by
  obtain ⟨es, cl, h1, h2⟩ := h.e
  exact ⟨bx_underC h.a hb, bx_underC h.b hb, bx_underC h.c hb, bx_underC h.m hb, ⟨es, cl, (hb.block M (Array.getElem?_eq_some_iff.1 h1).1).trans h1, h2⟩, b_then h.h hb⟩
theorem putC_other {W : World} {M k : Nat} {es : Array MapEntry} {cl : Nat} (h : k ≠ M) : (putMapC W M es cl).heap[k]? = W.heap[k]? := by
  unfold putMapC
  simp only
  rw [Array.getElem?_setIfInBounds_ne (Ne.symm h)]
theorem CcI.put {w W : World} {M : Nat} {A : Option Addr} {n c t x : Nat} {Ks Ks' : List ((Nat × Nat) × (Nat × Nat))} (h : CcI w W M A n c t x Ks) (hM : w.heap.size + 3 ≤ M) (es : Array MapEntry) (cl : Nat) (hI : InvK Ks' es.toList) : CcI w (putMapC W M es cl) M A n c t x Ks' := by
  have hml : M < W.heap.size := by have := h.m.lt; omega
  refine ⟨(putC_other (by omega)).trans h.a, (putC_other (by omega)).trans h.b, (putC_other (by omega)).trans h.c, (putC_other (by omega)).trans h.m, ⟨es, cl, by unfold putMapC; simp [hml], hI⟩, ?_⟩
  exact ⟨h.h.os, h.h.tape, h.h.output, by have := h.h.size; unfold putMapC; simpa using this, fun k hk => (putC_other (by omega)).trans (h.h.block k hk)⟩
theorem putC_kc {W : World} {M : Nat} {es0 : Array MapEntry} {cl0 : Nat} (h : W.heap[M]? = some (.map es0 cl0)) (es : Array MapEntry) (cl : Nat) : KC (fun _ => False) W (putMapC W M es cl) :=
  ⟨by unfold putMapC; simp, fun k o _ hk hc => (putC_other (fun e => by subst e; rw [h] at hk; cases hk; cases hc)).trans hk⟩
theorem putC_keeps {W : World} {M B : Nat} (hM : M < B) (es : Array MapEntry) (cl : Nat) : KeepsFrom B W (putMapC W M es cl) :=
  ⟨by unfold putMapC; simp, fun k o hk h _ => (putC_other (by omega)).trans h⟩
set_option maxRecDepth 100000 in
set_option maxHeartbeats 8000000 in
theorem implCount_F (A : Option Addr) (n c : Nat) (zs : List Int) (t x : Nat) (w : World) (hl : zs.length = n) (hn : n ≤ 1048576) (hw : ∀ z ∈ zs, I16 z) (hT : Ii w w.heap.size A zs) (ht : tgB t = false) {K0 : Int} (hK0 : codeX (okZ zs) false = K0) :
    Calls Try.prog 35 #[.slice A n c, .float .f32 t, .float .f32 x] w (RV (.tuple #[.int .i64 (ccN zs n t x K0 : Int), .int .i64 K0]) w) := by
  obtain ⟨R, hR⟩ : ∃ R, ccN zs n t x K0 = R := ⟨_, rfl⟩
  have HR := Lib.hid hR
  rw [hR]
  clear hR
  have hG := Lib.hid (fun w => (by have := isTarget_any t w; rw [ht] at this; exact this : Calls Try.prog 51 #[.float .f32 t] w fun e w' => e = .returned (.bool false) ∧ w = w'))
  have hE := Lib.hid (fun (W : World) (h : Ii W W.heap.size A zs) => (boxError_is (K := K0) hK0 hl hn hw h : Calls Try.prog 50 #[.slice A n c, .bool false] W (RV (.int .i64 K0) W)))
  have HT := Lib.hid hT

  refine (callsIn_wide (n := 9)).1 ?_
  refine callsIn_of_wp_marks Try.func35 rfl trivial ?_ rfl
  simp only [Try.ntmps35, List.size_toArray, List.length_cons, List.length_nil, Nat.reduceAdd, Nat.reduceSub, Array.replicate_succ, Array.replicate_zero, List.push_toArray, List.append_toArray, List.nil_append, List.cons_append]
  obtain ⟨W3, hW3⟩ : ∃ W3, ((w.alloc (.cells #[.slice A n c] 22)).alloc (.cells #[.float .f32 t] 23)).alloc (.cells #[.float .f32 x] 23) = W3 := ⟨_, rfl⟩
  have xa : Boxed W3 w.heap.size 22 (.slice A n c) := by rw [← hW3]; exact ((Boxed.new w _ _).alloc _).alloc _
  have xb : Boxed W3 (w.heap.size + 1) 23 (.float .f32 t) := by rw [← hW3]; exact (bx_newC _ (by simp)).alloc _
  have xc : Boxed W3 (w.heap.size + 1 + 1) 23 (.float .f32 x) := by rw [← hW3]; exact bx_newC _ (by simp)
  have B3 : Hid (Below w.heap.size w W3) := by rw [← hW3]; exact b_alloc (b_alloc (b_alloc (Below.refl _ _) _) _) _
  have s3 : W3.heap.size = w.heap.size + 3 := by rw [← hW3]; simp
  have ca := xa.cell; have cb := xb.cell; have cc := xc.cell
  gi_wp2
  try simp only [hW3]
  clear hW3
  obtain ⟨QQ, hQQ⟩ : ∃ QQ : Exit → Act → World → Prop, QQ = (fun e a' W4 => e = .normal ∧ a' = { tmps := #[.slice A n c, .float .f32 t, .float .f32 x, .pointer (some ⟨w.heap.size, 0, none⟩), .pointer (some ⟨w.heap.size + 1, 0, none⟩), .pointer (some ⟨w.heap.size + 1 + 1, 0, none⟩), .int .i64 0, .int .i64 0, .int .i64 K0, undef, undef, .slice A n c, .float .f32 t, .bool false, .bool false, undef, undef, .bool false, .int .i64 K0, undef, undef, undef, undef, undef, undef, undef, undef, undef, undef, undef, undef, undef, undef, undef, undef, undef, undef, undef, undef, undef, undef, undef, undef], defers := [] } ∧ Below W3.heap.size W3 W4) := ⟨_, rfl⟩
  have HQ : Hid (∀ W4, Below W3.heap.size W3 W4 → QQ .normal { tmps := #[.slice A n c, .float .f32 t, .float .f32 x, .pointer (some ⟨w.heap.size, 0, none⟩), .pointer (some ⟨w.heap.size + 1, 0, none⟩), .pointer (some ⟨w.heap.size + 1 + 1, 0, none⟩), .int .i64 0, .int .i64 0, .int .i64 K0, undef, undef, .slice A n c, .float .f32 t, .bool false, .bool false, undef, undef, .bool false, .int .i64 K0, undef, undef, undef, undef, undef, undef, undef, undef, undef, undef, undef, undef, undef, undef, undef, undef, undef, undef, undef, undef, undef, undef, undef, undef], defers := [] } W4) := Lib.hid fun W4 h => by rw [hQQ]; exact ⟨rfl, rfl, h⟩
  have HQQ := Lib.hid hQQ
  clear hQQ
  refine wpIn_mono (Q := QQ) ?_ ?_
  case refine_1 =>
    refine wpIn_wide.2 ?_
    refine wp_region_noPanic ?_
    first | go_region_law (first | (go_simp; go_at_call 51; refine (hG.out _).mono ?_; rintro e w1 ⟨rfl, rfl⟩; dsimp only) | (go_simp; go_at_call 50; refine (hE.out _ (by first | exact (HT.out.keep B3.out).keep (b_drew (Below.refl _ _)) | exact HT.out.keep B3.out)).mono ?_; rintro e w2 ⟨rfl, q2⟩; have Q2 := Lib.hid (b_then (b_drew (Below.refl W3.heap.size W3)) q2); clear q2; dsimp only)) | fail
    all_goals exact NoPanic.normal (HQ.out _ Q2.out)
  case refine_2 =>
    intro e a' W4 hq
    rw [HQQ.out] at hq
    obtain ⟨rfl, rfl, q4⟩ := hq
    clear HQ HQQ
    have ya := bx_underC xa q4; have yb := bx_underC xb q4; have yc := bx_underC xc q4
    have B4 : Hid (Below w.heap.size w W4) := b_then B3.out q4
    have s4 : w.heap.size + 3 ≤ W4.heap.size := by have := q4.size; omega
    clear ca cb cc xa xb xc q4 B3 s3
    have hK2 : K0 = 1 ∨ K0 = 2 := by
      rcases codeX_cases hK0 with h | h | h
      · subst h; have := (codeX_zero hK0).2; cases this
      · exact .inl h
      · exact .inr h
    clear hK0
    rcases hK2 with rfl | rfl
    · have hr := HR.out
      rw [show ccN zs n t x 1 = 0 from rfl] at hr
      subst hr
      gi_wp2
      exact ⟨_, ret_2c Try.results35, rfl, B4.out⟩
    · have hr := HR.out
      rw [show ccN zs n t x 2 = 0 from rfl] at hr
      subst hr
      gi_wp2
      exact ⟨_, ret_2c Try.results35, rfl, B4.out⟩
set_option maxRecDepth 100000 in
set_option maxHeartbeats 8000000 in
theorem implCount_T (A : Option Addr) (n c : Nat) (zs : List Int) (t x : Nat) (w : World) (hl : zs.length = n) (hn : n ≤ 1048576) (hw : ∀ z ∈ zs, I16 z) (hT : Ii w w.heap.size A zs) (ht : tgB t = true) {u : Bool} (hu : ptB x = u) {K0 : Int} (hK0 : codeX (okZ zs) u = K0) :
    Calls Try.prog 35 #[.slice A n c, .float .f32 t, .float .f32 x] w (RV (.tuple #[.int .i64 (ccN zs n t x K0 : Int), .int .i64 K0]) w) := by
  obtain ⟨R, hR⟩ : ∃ R, ccN zs n t x K0 = R := ⟨_, rfl⟩
  have HR := Lib.hid hR
  rw [hR]
  clear hR
  have hG := Lib.hid (fun w => (by have := isTarget_any t w; rw [ht] at this; exact this : Calls Try.prog 51 #[.float .f32 t] w fun e w' => e = .returned (.bool true) ∧ w = w'))
  have hE := Lib.hid (fun (W : World) (h : Ii W W.heap.size A zs) => (boxError_is (K := K0) hK0 hl hn hw h : Calls Try.prog 50 #[.slice A n c, .bool u] W (RV (.int .i64 K0) W)))
  have HT := Lib.hid hT
  have hP := Lib.hid (fun w => (by have := isPart_any x w; rw [hu] at this; exact this : Calls Try.prog 52 #[.float .f32 x] w fun e w2 => e = .returned (.bool u) ∧ w = w2))
  refine (callsIn_wide (n := 9)).1 ?_
  refine callsIn_of_wp_marks Try.func35 rfl trivial ?_ rfl
  simp only [Try.ntmps35, List.size_toArray, List.length_cons, List.length_nil, Nat.reduceAdd, Nat.reduceSub, Array.replicate_succ, Array.replicate_zero, List.push_toArray, List.append_toArray, List.nil_append, List.cons_append]
  obtain ⟨W3, hW3⟩ : ∃ W3, ((w.alloc (.cells #[.slice A n c] 22)).alloc (.cells #[.float .f32 t] 23)).alloc (.cells #[.float .f32 x] 23) = W3 := ⟨_, rfl⟩
  have xa : Boxed W3 w.heap.size 22 (.slice A n c) := by rw [← hW3]; exact ((Boxed.new w _ _).alloc _).alloc _
  have xb : Boxed W3 (w.heap.size + 1) 23 (.float .f32 t) := by rw [← hW3]; exact (bx_newC _ (by simp)).alloc _
  have xc : Boxed W3 (w.heap.size + 1 + 1) 23 (.float .f32 x) := by rw [← hW3]; exact bx_newC _ (by simp)
  have B3 : Hid (Below w.heap.size w W3) := by rw [← hW3]; exact b_alloc (b_alloc (b_alloc (Below.refl _ _) _) _) _
  have s3 : W3.heap.size = w.heap.size + 3 := by rw [← hW3]; simp
  have ca := xa.cell; have cb := xb.cell; have cc := xc.cell
  gi_wp2
  try simp only [hW3]
  clear hW3
  obtain ⟨QQ, hQQ⟩ : ∃ QQ : Exit → Act → World → Prop, QQ = (fun e a' W4 => e = .normal ∧ a' = { tmps := #[.slice A n c, .float .f32 t, .float .f32 x, .pointer (some ⟨w.heap.size, 0, none⟩), .pointer (some ⟨w.heap.size + 1, 0, none⟩), .pointer (some ⟨w.heap.size + 1 + 1, 0, none⟩), .int .i64 0, .int .i64 0, .int .i64 K0, undef, undef, .slice A n c, .float .f32 t, .bool true, .bool true, .float .f32 x, .bool u, .bool u, .int .i64 K0, undef, undef, undef, undef, undef, undef, undef, undef, undef, undef, undef, undef, undef, undef, undef, undef, undef, undef, undef, undef, undef, undef, undef, undef], defers := [] } ∧ Below W3.heap.size W3 W4) := ⟨_, rfl⟩
  have HQ : Hid (∀ W4, Below W3.heap.size W3 W4 → QQ .normal { tmps := #[.slice A n c, .float .f32 t, .float .f32 x, .pointer (some ⟨w.heap.size, 0, none⟩), .pointer (some ⟨w.heap.size + 1, 0, none⟩), .pointer (some ⟨w.heap.size + 1 + 1, 0, none⟩), .int .i64 0, .int .i64 0, .int .i64 K0, undef, undef, .slice A n c, .float .f32 t, .bool true, .bool true, .float .f32 x, .bool u, .bool u, .int .i64 K0, undef, undef, undef, undef, undef, undef, undef, undef, undef, undef, undef, undef, undef, undef, undef, undef, undef, undef, undef, undef, undef, undef, undef, undef], defers := [] } W4) := Lib.hid fun W4 h => by rw [hQQ]; exact ⟨rfl, rfl, h⟩
  have HQQ := Lib.hid hQQ
  clear hQQ
  refine wpIn_mono (Q := QQ) ?_ ?_
  case refine_1 =>
    refine wpIn_wide.2 ?_
    refine wp_region_noPanic ?_
    go_region_law (first | (go_simp; go_at_call 51; refine (hG.out _).mono ?_; rintro e w1 ⟨rfl, rfl⟩; dsimp only) | (go_simp; go_at_call 52; refine (hP.out _).mono ?_; rintro e w1 ⟨rfl, rfl⟩; dsimp only) | (go_simp; go_at_call 50; refine (hE.out _ (by first | exact (HT.out.keep B3.out).keep (b_drew (Below.refl _ _)) | exact HT.out.keep B3.out)).mono ?_; rintro e w2 ⟨rfl, q2⟩; have Q2 := Lib.hid (b_then (b_drew (Below.refl W3.heap.size W3)) q2); clear q2; dsimp only))
    all_goals exact NoPanic.normal (HQ.out _ Q2.out)
  case refine_2 =>
    intro e a' W4 hq
    rw [HQQ.out] at hq
    obtain ⟨rfl, rfl, q4⟩ := hq
    clear HQ HQQ
    have ya := bx_underC xa q4; have yb := bx_underC xb q4; have yc := bx_underC xc q4
    have B4 : Hid (Below w.heap.size w W4) := b_then B3.out q4
    have s4 : w.heap.size + 3 ≤ W4.heap.size := by have := q4.size; omega
    clear ca cb cc xa xb xc q4 B3 s3
    rcases codeX_cases hK0 with rfl | rfl | rfl
    rotate_left
    · have hr := HR.out
      rw [show ccN zs n t x 1 = 0 from rfl] at hr
      subst hr
      gi_wp2
      exact ⟨_, ret_2c Try.results35, rfl, B4.out⟩
    · have hr := HR.out
      rw [show ccN zs n t x 2 = 0 from rfl] at hr
      subst hr
      gi_wp2
      exact ⟨_, ret_2c Try.results35, rfl, B4.out⟩
    · obtain ⟨hz, hut⟩ := codeX_zero hK0
      subst hut
      have hlen := (okZ_at hz).1
      rw [hl] at hlen
      obtain ⟨hn2, hn24⟩ := hlen
      have hm := fun w => run_makeMap (P := Try.prog) 96 w
      have ca2 := ((ya.alloc (.map #[] 0)).alloc (.cells #[.map (some W4.heap.size)] 96)).cell
      gi_wp2
      clear ca2 hm
      refine ⟨trivial, ?_⟩
      refine (choices_in 8 A n c _).mono ?_
      rintro e w' ⟨rfl, rfl⟩
      gi_wp2
      obtain ⟨M, hM⟩ : ∃ M, W4.heap.size = M := ⟨_, rfl⟩
      rw [hM] at s4
      simp only [hM, World.size_alloc]
      obtain ⟨W0, hW0⟩ : ∃ W0, ((W4.alloc (.map #[] 0)).alloc (.cells #[.map (some M)] 96)).alloc (.cells #[.slice A n c] 22) = W0 := ⟨_, rfl⟩
      have hsz : W0.heap.size = M + 3 := by rw [← hW0, ← hM]; simp
      have hI0 : CcI w W0 M A n c t x [] := by
        rw [← hW0]
        refine ⟨((ya.alloc _).alloc _).alloc _, ((yb.alloc _).alloc _).alloc _, ((yc.alloc _).alloc _).alloc _, (bx_newC _ (by simp [hM])).alloc _, ⟨#[], 0, ?_, rfl⟩, b_alloc (b_alloc (b_alloc B4.out _) _) _⟩
        refine (Below.heap_alloc _ _ _ (by simp; omega)).trans ((Below.heap_alloc _ _ _ (by simp; omega)).trans ?_)
        rw [← hM]
        exact World.alloc_heap_new W4 _
      have k5 : Boxed W0 (M + 2) 22 (.slice A n c) := by
        rw [← hW0]
        exact bx_newC _ (by simp [hM])
      try simp only [hW0]
      clear hW0 ya yb yc
      have hseq := choices_seq n hn24 A c (M + 3) (fun _ => False) (fun _ => False) W0 hsz (M + 2) k5 (fun h => h) (fun k h => h.elim) (fun k h => h.elim)
      clear k5
      have HZ := Lib.hid hz; have Hl := Lib.hid hl; have HS4 := Lib.hid s4
      have Hoff := Lib.hid (fun y (hy : Wn n y) => offX_num hz ht (x := y) (by rw [hl]; exact hy))
      have HOD : Hid (∀ y, offC (facC zs y) t = offX zs t y) := Lib.hid fun y => rfl
      have HTR : Hid (∀ y, offX zs t (trn y) = offX zs t y) := Lib.hid fun y => off_trn zs t y
      have HR2 : Hid (((chU n).filter (nrC (offX zs t) x)).length = R) := HR.out
      clear hz ht hu hw hK0 hl HR
      obtain ⟨off, hoff⟩ : ∃ off, offX zs t = off := ⟨_, rfl⟩
      rw [hoff] at Hoff HOD HR2 HTR
      clear hoff
      refine range_at (α := ChT n) (X := fun _ => False) rfl (by omega) (gf := 95) (lb := #[.pointer (some ⟨M + 2, 0, none⟩)]) rfl trivial (enters_of Try.func95 (by kernel_rfl) rfl)
        hseq (fun r h => h.elim) KC.trans (fun W l o o' hle ho hc hwk => KC.put W l o o' ho hc) (Below.refl _ _) (fun _ => rfl)
        (fun pre W => CcI w W M A n c t x (nearK (nrC off x) (pre.map (·.1))) ∧ M + 3 ≤ W.heap.size)
        (fun _ _ _ => False)
        (fun s W W' row hs hg hr => ⟨CcI.own w W0.heap.size M A n c t x (by omega) (by omega) (fun pre : List (ChT n) => nearK (nrC off x) (pre.map (·.1))) s W W' row hs.1 hg hr, Nat.le_trans hs.2 hg.size⟩)
        (fun _ _ _ _ _ hs _ _ => hs)
        ⟨hI0, by omega⟩
        (fun y a' W => ∃ p, M + 3 ≤ p ∧ a' = { tmps := #[.slice A n c, .float .f32 t, .float .f32 x, .pointer (some ⟨w.heap.size, 0, none⟩), .pointer (some ⟨w.heap.size + 1, 0, none⟩), .pointer (some ⟨w.heap.size + 1 + 1, 0, none⟩), .int .i64 0, .int .i64 0, .int .i64 0, .pointer (some ⟨M + 1, 0, none⟩), .pointer (some ⟨p, 0, none⟩), .slice A n c, .float .f32 t, .bool true, .bool true, .float .f32 x, .bool true, .bool true, .int .i64 0, .int .i64 0, .bool false, undef, .map (some M), .slice A n c, .func (.func 95) #[] #[.pointer (some ⟨M + 2, 0, none⟩)], .agg (chK y.1), undef, undef, undef, undef, undef, undef, undef, undef, undef, undef, undef, undef, undef, undef, undef, undef, undef], defers := [] } ∧ Blk W p (chK y.1) 49)
        (fun y a' s W W' row hs hg hr => by obtain ⟨p, h0, h1, h2⟩ := hs; exact ⟨p, h0, h1, blk_kept h2 hg (fun r e => (hr r e).2)⟩) ?assign ?body ?done ?stop
      case assign =>
        rintro l pre y W K hI hK
        have HK := Lib.hid hK
        have HI := Lib.hid hI
        clear hK hI
        dsimp only [chV]
        gi_wp2
        refine HK.out _ _ (kf_below (b_alloc (Below.refl _ _) _)) (KC.below (b_alloc (Below.refl _ _) _)) ⟨HI.out.1.under (b_alloc (Below.refl _ _) _), by have := HI.out.2; simp; omega⟩ ⟨W.heap.size, HI.out.2, ?_, Blk.new _ _ _⟩
        rfl
      case body =>
        rintro l pre ⟨y, hy⟩ a' W hle _ ⟨hI, h6⟩ ⟨p, hp, rfl, hy4⟩ hlen
        have HW6 := Lib.hid h6
        have HWn : Hid (Wn n y) := Lib.hid ⟨hy.1, hy.2.1, hy.2.2.1, hy.2.2.2.1⟩
        obtain ⟨es, cl, he1, he2⟩ := hI.e
        have hml : M < W.heap.size := (Array.getElem?_eq_some_iff.1 he1).1
        have HE2 := Lib.hid he2
        have HE1 := Lib.hid (fun (W' : World) (hb : Below W.heap.size W W') => (hb.block M hml).trans he1)
        have ba := hI.a.cell; have bb := hI.b.cell; have bc := hI.c.cell; have bm := hI.m.cell
        have p0 := hy4.cell 0; have p1 := hy4.cell 1; have p2 := hy4.cell 2; have p3 := hy4.cell 3
        simp at p0 p1 p2 p3
        have HI := Lib.hid hI; have HY4 := Lib.hid hy4
        have HD := Lib.hid (HOD.out y)
        have HN := Lib.hid (Hoff.out y HWn.out)
        have hsn : nearK (nrC off x) ((pre ++ [(⟨y, hy⟩ : ChT n)]).map (·.1)) = if nrC off x y then insK (nearK (nrC off x) (pre.map (·.1))) y else nearK (nrC off x) (pre.map (·.1)) := by rw [List.map_append]; exact nearK_snoc _ _ _
        have Hsn := Lib.hid hsn
        have hnr : trn y ∈ nearK (nrC off x) (pre.map (·.1)) → nrC off x y = true := fun h => by
          have := nearK_near (nr := nrC off x) (pre.map (·.1)) [] (fun _ h => by simp at h) _ h
          unfold nrC at this ⊢
          rwa [HTR.out] at this
        have Hnr := Lib.hid hnr
        clear hI h6 hy4 hlen hseq he1 he2 hsn hnr
        generalize nearK (nrC off x) (pre.map (·.1)) = Ks at *
        have after : ∀ (w3 : World) (a3 : Act), Hid (Below W.heap.size W w3) → nrC off x y = false → Hid (ownPostG W0.heap.size (KC (fun _ => False)) (fun pre W => CcI w W M A n c t x (nearK (nrC off x) (pre.map (·.1))) ∧ M + 3 ≤ W.heap.size) (fun _ _ _ => False) (pre ++ [(⟨y, hy⟩ : ChT n)]) W .normal a3 w3) := fun w3 a3 hb hn => Lib.hid ⟨kf_below hb.out, KC.below hb.out, by
          show CcI w w3 M A n c t x (nearK (nrC off x) ((pre ++ [(⟨y, hy⟩ : ChT n)]).map (·.1)))
          rw [Hsn.out, hn]
          exact HI.out.under hb.out, Nat.le_trans HW6.out hb.out.size⟩
        have after2 : ∀ (w3 : World) (a3 : Act) (es' : Array MapEntry) (cl' : Nat), Hid (Below W.heap.size W w3) → nrC off x y = true → InvK (insK Ks y) es'.toList → Hid (ownPostG W0.heap.size (KC (fun _ => False)) (fun pre W => CcI w W M A n c t x (nearK (nrC off x) (pre.map (·.1))) ∧ M + 3 ≤ W.heap.size) (fun _ _ _ => False) (pre ++ [(⟨y, hy⟩ : ChT n)]) W .normal a3 (putMapC w3 M es' cl')) := fun w3 a3 es' cl' hb hn hi => Lib.hid ⟨(kf_below hb.out).trans (putC_keeps (by omega) _ _), (KC.below hb.out).trans (putC_kc (HE1.out w3 hb.out) _ _), by
          show CcI w _ M A n c t x (nearK (nrC off x) ((pre ++ [(⟨y, hy⟩ : ChT n)]).map (·.1)))
          rw [Hsn.out, hn]
          exact (HI.out.under hb.out).put HS4.out _ _ hi, by
          have h1 := HW6.out; have h2 := hb.out.size
          show M + 3 ≤ (putMapC w3 M es' cl').heap.size
          unfold putMapC
          simp
          omega⟩
        have HA1 := Lib.hid after; have HA2 := Lib.hid after2
        clear after after2
        by_cases htm : trn y ∈ Ks
        · have hnr2 := Hnr.out htm
          have HLK := Lib.hid (fun (W' : World) (hb : Below W.heap.size W W') => (show (Instr.lookup 96 (.map (some M)) (.agg (chK (trn y))) false).run Try.prog W' = .ok (.bool true) W' from by
            have := lookK (trn y) W' M es cl Ks (HE1.out W' hb) HE2.out
            rwa [decide_eq_true htm] at this))
          clear htm Hnr
          gi_wp2_with fail
          refine wpIn_mono (Q := NormP (fun a' w3 => a' = { tmps := #[.slice A n c, .float .f32 t, .float .f32 x, .pointer (some ⟨w.heap.size, 0, none⟩), .pointer (some ⟨w.heap.size + 1, 0, none⟩), .pointer (some ⟨w.heap.size + 1 + 1, 0, none⟩), .int .i64 0, .int .i64 0, .int .i64 0, .pointer (some ⟨M + 1, 0, none⟩), .pointer (some ⟨p, 0, none⟩), .slice A n c, .float .f32 t, .bool true, .bool true, .float .f32 x, .bool true, .bool true, .int .i64 0, .int .i64 0, .bool false, undef, .map (some M), .slice A n c, .func (.func 95) #[] #[.pointer (some ⟨M + 2, 0, none⟩)], .agg (chK y), .map (some M), .agg (chK y), .agg (chK (trn y)), .bool true, .bool true, undef, undef, undef, undef, undef, undef, undef, .bool true, undef, undef, undef, undef], defers := [] } ∧ Below W.heap.size W w3)) ?_ ?_
          case refine_1 =>
            gi_region_with (first | (refine ⟨trivial, ?_⟩; gi_at_call 73; refine (CallsIn.inRound l (callsIn_wide.2 (turned_any y _))).mono ?_; rintro e w1 ⟨rfl, q1⟩; have Q1 := Lib.hid (b_then (b_drew (Below.refl W.heap.size W)) q1); clear q1; have bm1 := (bx_underC HI.out.m Q1.out).cell; have hl1 := HLK.out w1 Q1.out) | (refine ⟨trivial, ?_⟩))
            all_goals exact ⟨rfl, Q1.out⟩
          case refine_2 =>
            intro e a' w3 hq
            obtain ⟨rfl, rfl, q3⟩ := hq.get
            have Q3 := Lib.hid q3
            have bm := (bx_underC HI.out.m q3).cell
            have y3 := HY4.out.under q3
            have p0 := y3.cell 0; have p1 := y3.cell 1; have p2 := y3.cell 2; have p3 := y3.cell 3
            simp at p0 p1 p2 p3
            obtain ⟨es', cl', hu, hi⟩ := updK y w3 M es cl Ks (HE1.out w3 q3) HE2.out
            unfold chV at hu
            have HF := Lib.hid (fun a3 => (HA2.out w3 a3 es' cl' Q3 hnr2 hi).out)
            clear q3 y3 hi hnr2
            gi_wp2
            first | exact HF.out _ | exact hsz ▸ HF.out _
        · have HLK := Lib.hid (fun (W' : World) (hb : Below W.heap.size W W') => (show (Instr.lookup 96 (.map (some M)) (.agg (chK (trn y))) false).run Try.prog W' = .ok (.bool false) W' from by
            have := lookK (trn y) W' M es cl Ks (HE1.out W' hb) HE2.out
            rwa [decide_eq_false htm] at this))
          clear htm Hnr
          gi_wp2_with fail
          refine wpIn_mono (Q := NormP (fun a' w3 => ∃ r : Nat, a' = { tmps := #[.slice A n c, .float .f32 t, .float .f32 x, .pointer (some ⟨w.heap.size, 0, none⟩), .pointer (some ⟨w.heap.size + 1, 0, none⟩), .pointer (some ⟨w.heap.size + 1 + 1, 0, none⟩), .int .i64 0, .int .i64 0, .int .i64 0, .pointer (some ⟨M + 1, 0, none⟩), .pointer (some ⟨p, 0, none⟩), .slice A n c, .float .f32 t, .bool true, .bool true, .float .f32 x, .bool true, .bool true, .int .i64 0, .int .i64 0, .bool false, undef, .map (some M), .slice A n c, .func (.func 95) #[] #[.pointer (some ⟨M + 2, 0, none⟩)], .agg (chK y), .map (some M), .agg (chK y), .agg (chK (trn y)), .bool false, .bool false, .agg (chK y), .slice A n c, .float .f32 (facC zs y), .float .f32 t, .float .f32 r, .float .f32 x, .bool (oLe r x), .bool (oLe r x), undef, undef, undef, undef], defers := [] } ∧ CN r (offC (facC zs y) t) ∧ Below W.heap.size W w3)) ?_ ?_
          case refine_1 =>
            gi_region_with (first
              | (refine ⟨trivial, ?_⟩; gi_at_call 73; refine (CallsIn.inRound l (callsIn_wide.2 (turned_any y _))).mono ?_; rintro e w1 ⟨rfl, q1⟩; have Q1 := Lib.hid (b_then (b_drew (Below.refl W.heap.size W)) q1); clear q1; have bm1 := (bx_underC HI.out.m Q1.out).cell; have hl1 := HLK.out w1 Q1.out; have ba1 := (bx_underC HI.out.a Q1.out).cell; have bb1 := (bx_underC HI.out.b Q1.out).cell; have bc1 := (bx_underC HI.out.c Q1.out).cell; have y1 := HY4.out.under Q1.out; have p01 := y1.cell 0; have p11 := y1.cell 1; have p21 := y1.cell 2; have p31 := y1.cell 3; simp at p01 p11 p21 p31; clear y1)
              | (refine ⟨trivial, ?_⟩; gi_at_call 72; refine (CallsIn.inRound l (callsIn_wide.2 (implFac_any A n c zs y _ Hl.out hn HZ.out HWn.out ((HT.out.keep HI.out.h).keep Q1.out)))).mono ?_; rintro e w2 ⟨rfl, q2⟩; have Q2 := Lib.hid (b_then Q1.out q2); clear q2; have bb2 := (bx_underC HI.out.b Q2.out).cell; have bc2 := (bx_underC HI.out.c Q2.out).cell)
              | (refine ⟨trivial, ?_⟩; gi_at_call 54; refine (CallsIn.inRound l (callsIn_wide.2 (implOff_any _ _ _))).mono ?_; rintro e w3 ⟨r, rfl, hr, q3⟩; have Q3 := Lib.hid (b_then Q2.out q3); have HR := Lib.hid hr; clear q3 hr; have bc3 := (bx_underC HI.out.c Q3.out).cell)
              | (refine ⟨trivial, ?_⟩))
            all_goals exact ⟨r, rfl, HR.out, Q3.out⟩
          case refine_2 =>
            intro e a' w3 hq
            obtain ⟨rfl, r, rfl, hr, q3⟩ := hq.get
            have hr : r = off y := cn_eq_fix (hr.trans HD.out) HN.out.1.1
            have Q3 := Lib.hid q3
            have bm := (bx_underC HI.out.m q3).cell
            have y3 := HY4.out.under q3
            have p0 := y3.cell 0; have p1 := y3.cell 1; have p2 := y3.cell 2; have p3 := y3.cell 3
            simp at p0 p1 p2 p3
            obtain ⟨es', cl', hu, hi⟩ := updK y w3 M es cl Ks (HE1.out w3 q3) HE2.out
            unfold chV at hu
            obtain ⟨tb, htb⟩ : ∃ tb, oLe r x = tb := ⟨_, rfl⟩
            have hnr2 : nrC off x y = tb := by unfold nrC; rw [← hr]; exact htb
            simp only [htb]
            clear q3 y3 hr htb
            cases tb
            · have HF := Lib.hid (fun a3 => (HA1.out w3 a3 Q3 hnr2).out)
              clear hnr2 hi hu
              gi_wp2
              first | exact HF.out _ | exact hsz ▸ HF.out _
            · have HF := Lib.hid (fun a3 => (HA2.out w3 a3 es' cl' Q3 hnr2 hi).out)
              clear hi hnr2
              gi_wp2
              first | exact HF.out _ | exact hsz ▸ HF.out _
      case done =>
        rintro D ys W hD hS ⟨hI, _⟩ hK
        rw [hS, near_all] at hI
        obtain ⟨es, cl, he1, he2⟩ := hI.e
        have hsz2 := InvK.size he2
        rw [HR2.out] at hsz2
        have bm := hI.m.cell
        have HI := Lib.hid hI; have HK := Lib.hid hK
        have hut : Try.prog.underlying 96 = some (.map (Try.prog.mapKeyOf 96) (Try.prog.mapElemOf 96)) := by kernel_rfl
        clear hI hK he2 hS hseq
        have hln := run_len_map (P := Try.prog) (w := W) 96 3 M es cl hut he1
        gi_wp2
        refine ⟨by simp, .inl ⟨_, _, rfl, run_takeDeferred HK.out, ?_⟩⟩
        exact ⟨_, ret_2c Try.results35, by simp [hsz2], HI.out.h.trans (belowK_b (w := w) (Nat.le_refl _) W D _ _ (by omega) HK.out rfl rfl)⟩
      case stop =>
        rintro D cd pre W hD hS h
        exact h.elim
end Go.Proofs.Ytaodpopghacmaaa
