/-
  The pairs that are near to a target: both sides, and the law.
-/
import Derived.Test.YtaodpopghacmaaaPwa
import Derived.Test.YtaodpopghacmaaaPre
import Derived.Test.YtaodpopghacmaaaPwm
import Derived.Deep.RegionHeld3
namespace Go.Proofs.Ytaodpopghacmaaa
open Go.RowKit Go.ChangeShapes Go.WideShapes Go.Deep Go.Shelf
attribute [local go_sem] Oper.semAt_some
set_option linter.unusedVariables false
set_option linter.unusedSimpArgs false
theorem ret_2 {fn : Func} {tmps : Array Value} {W : World} {a b : Nat} (hr : fn.results = #[.tmp a, .tmp b]) : (results fn tmps).run Try.prog W = .ok (.tuple #[tmps.getD a undef, tmps.getD b undef]) W := by
  simp [results, hr, go_sem]
set_option maxRecDepth 100000 in
set_option maxHeartbeats 8000000 in
theorem implWithin_badT (A : Option Addr) (n c : Nat) (zs : List Int) (t x : Nat) (u : Bool) (K : Int) (w : World) (hl : zs.length = n) (hn : n ≤ 1048576) (hw : ∀ z ∈ zs, I16 z) (ht : tgB t = true) (hu : ptB x = u) (hK : codeX (okZ zs) u = K) (hK2 : K = 1 ∨ K = 2) (hT : Ii w w.heap.size A zs) :
    Calls Try.prog 13 #[.slice A n c, .float .f32 t, .float .f32 x] w (RIp [] K w) := by
  have hG := Lib.hid (fun w => (by have := isTarget_any t w; rw [ht] at this; exact this : Calls Try.prog 51 #[.float .f32 t] w fun e w' => e = .returned (.bool true) ∧ w = w'))
  have hP := Lib.hid (fun w => (by have := isPart_any x w; rw [hu] at this; exact this : Calls Try.prog 52 #[.float .f32 x] w fun e w' => e = .returned (.bool u) ∧ w = w'))
  have hE := Lib.hid (fun (W : World) (h : Ii W W.heap.size A zs) => (boxError_is (b := u) (K := K) hK hl hn hw h : Calls Try.prog 50 #[.slice A n c, .bool u] W (RV (.int .i64 K) W)))
  have HT := Lib.hid hT
  clear hK
  refine (callsIn_wide (n := 9)).1 ?_
  refine callsIn_of_wp_marks Try.func13 rfl trivial ?_ rfl
  simp only [Try.ntmps13, List.size_toArray, List.length_cons, List.length_nil, Nat.reduceAdd, Nat.reduceSub, Array.replicate_succ, Array.replicate_zero, List.push_toArray, List.append_toArray, List.nil_append, List.cons_append]
  obtain ⟨W3, hW3⟩ : ∃ W3, ((w.alloc (.cells #[.slice A n c] 22)).alloc (.cells #[.float .f32 t] 23)).alloc (.cells #[.float .f32 x] 23) = W3 := ⟨_, rfl⟩
  have xa : Boxed W3 w.heap.size 22 (.slice A n c) := by rw [← hW3]; exact ((Boxed.new w _ _).alloc _).alloc _
  have xb : Boxed W3 (w.heap.size + 1) 23 (.float .f32 t) := by rw [← hW3]; exact (bx_new _ 0 (by simp)).alloc _
  have xc : Boxed W3 (w.heap.size + 1 + 1) 23 (.float .f32 x) := by rw [← hW3]; exact bx_new _ 0 (by simp)
  have B3 : Hid (Below w.heap.size w W3) := by rw [← hW3]; exact b_alloc (b_alloc (b_alloc (Below.refl _ _) _) _) _
  have ca := xa.cell; have cb := xb.cell; have cc := xc.cell
  gi_wp2
  try simp only [hW3]
  clear hW3 xa xb xc
  obtain ⟨QQ, hQQ⟩ : ∃ QQ : Exit → Act → World → Prop, QQ = (fun e a' W4 => e = .normal ∧ a' = { tmps := #[.slice A n c, .float .f32 t, .float .f32 x, .pointer (some ⟨w.heap.size, 0, none⟩), .pointer (some ⟨w.heap.size + 1, 0, none⟩), .pointer (some ⟨w.heap.size + 1 + 1, 0, none⟩), .slice none 0 0, .int .i64 0, .int .i64 K, undef, undef, undef, .slice A n c, .float .f32 t, .bool true, .bool true, .float .f32 x, .bool u, .bool u, .int .i64 K, undef, undef, undef, undef, undef, undef, undef, undef, undef, undef, undef, undef, undef, undef, undef, undef, undef, undef, undef, undef, undef, undef, undef, undef, undef], defers := [] } ∧ Below W3.heap.size W3 W4) := ⟨_, rfl⟩
  have HQ : Hid (∀ W4, Below W3.heap.size W3 W4 → QQ .normal { tmps := #[.slice A n c, .float .f32 t, .float .f32 x, .pointer (some ⟨w.heap.size, 0, none⟩), .pointer (some ⟨w.heap.size + 1, 0, none⟩), .pointer (some ⟨w.heap.size + 1 + 1, 0, none⟩), .slice none 0 0, .int .i64 0, .int .i64 K, undef, undef, undef, .slice A n c, .float .f32 t, .bool true, .bool true, .float .f32 x, .bool u, .bool u, .int .i64 K, undef, undef, undef, undef, undef, undef, undef, undef, undef, undef, undef, undef, undef, undef, undef, undef, undef, undef, undef, undef, undef, undef, undef, undef, undef], defers := [] } W4) := Lib.hid fun W4 h => by rw [hQQ]; exact ⟨rfl, rfl, h⟩
  have HQQ := Lib.hid hQQ
  clear hQQ
  refine wpIn_mono (Q := QQ) ?_ ?_
  case refine_1 =>
    refine wpIn_wide.2 ?_
    refine wp_region_noPanic ?_
    go_region_law (first
      | (go_simp; go_at_call 51; refine (hG.out _).mono ?_; rintro e w1 ⟨rfl, rfl⟩; dsimp only)
      | (go_simp; go_at_call 52; refine (hP.out _).mono ?_; rintro e w1 ⟨rfl, rfl⟩; dsimp only)
      | (go_simp; go_at_call 50; refine (hE.out _ (by first | exact (HT.out.keep B3.out).keep (b_drew (Below.refl _ _)) | exact HT.out.keep B3.out)).mono ?_; rintro e w2 ⟨rfl, q2⟩; have Q2 := Lib.hid (b_then (b_drew (Below.refl W3.heap.size W3)) q2); clear q2; dsimp only))
    all_goals exact NoPanic.normal (HQ.out _ Q2.out)
  case refine_2 =>
    intro e a' W4 hq
    rw [HQQ.out] at hq
    obtain ⟨rfl, rfl, q4⟩ := hq
    clear HQ HQQ ca cb cc
    have B4 : Hid (Below w.heap.size w W4) := b_then B3.out q4
    clear q4
    rcases hK2 with rfl | rfl
    all_goals
      gi_wp2
      exact ⟨_, ret_2 Try.results13, _, rfl, own_noneI _ _, B4.out⟩
set_option maxRecDepth 100000 in
set_option maxHeartbeats 8000000 in
theorem implWithin_badF (A : Option Addr) (n c : Nat) (zs : List Int) (t x : Nat) (u : Bool) (K : Int) (w : World) (hl : zs.length = n) (hn : n ≤ 1048576) (hw : ∀ z ∈ zs, I16 z) (ht : tgB t = false) (hu : ptB x = u) (hK : codeX (okZ zs) false = K) (hK2 : K = 1 ∨ K = 2) (hT : Ii w w.heap.size A zs) :
    Calls Try.prog 13 #[.slice A n c, .float .f32 t, .float .f32 x] w (RIp [] K w) := by
  have hG := Lib.hid (fun w => (by have := isTarget_any t w; rw [ht] at this; exact this : Calls Try.prog 51 #[.float .f32 t] w fun e w' => e = .returned (.bool false) ∧ w = w'))
  have hE := Lib.hid (fun (W : World) (h : Ii W W.heap.size A zs) => (boxError_is (b := false) (K := K) hK hl hn hw h : Calls Try.prog 50 #[.slice A n c, .bool false] W (RV (.int .i64 K) W)))
  have HT := Lib.hid hT
  clear hK
  refine (callsIn_wide (n := 9)).1 ?_
  refine callsIn_of_wp_marks Try.func13 rfl trivial ?_ rfl
  simp only [Try.ntmps13, List.size_toArray, List.length_cons, List.length_nil, Nat.reduceAdd, Nat.reduceSub, Array.replicate_succ, Array.replicate_zero, List.push_toArray, List.append_toArray, List.nil_append, List.cons_append]
  obtain ⟨W3, hW3⟩ : ∃ W3, ((w.alloc (.cells #[.slice A n c] 22)).alloc (.cells #[.float .f32 t] 23)).alloc (.cells #[.float .f32 x] 23) = W3 := ⟨_, rfl⟩
  have xa : Boxed W3 w.heap.size 22 (.slice A n c) := by rw [← hW3]; exact ((Boxed.new w _ _).alloc _).alloc _
  have xb : Boxed W3 (w.heap.size + 1) 23 (.float .f32 t) := by rw [← hW3]; exact (bx_new _ 0 (by simp)).alloc _
  have xc : Boxed W3 (w.heap.size + 1 + 1) 23 (.float .f32 x) := by rw [← hW3]; exact bx_new _ 0 (by simp)
  have B3 : Hid (Below w.heap.size w W3) := by rw [← hW3]; exact b_alloc (b_alloc (b_alloc (Below.refl _ _) _) _) _
  have ca := xa.cell; have cb := xb.cell; have cc := xc.cell
  gi_wp2
  try simp only [hW3]
  clear hW3 xa xb xc
  obtain ⟨QQ, hQQ⟩ : ∃ QQ : Exit → Act → World → Prop, QQ = (fun e a' W4 => e = .normal ∧ a' = { tmps := #[.slice A n c, .float .f32 t, .float .f32 x, .pointer (some ⟨w.heap.size, 0, none⟩), .pointer (some ⟨w.heap.size + 1, 0, none⟩), .pointer (some ⟨w.heap.size + 1 + 1, 0, none⟩), .slice none 0 0, .int .i64 0, .int .i64 K, undef, undef, undef, .slice A n c, .float .f32 t, .bool false, .bool false, undef, undef, .bool false, .int .i64 K, undef, undef, undef, undef, undef, undef, undef, undef, undef, undef, undef, undef, undef, undef, undef, undef, undef, undef, undef, undef, undef, undef, undef, undef, undef], defers := [] } ∧ Below W3.heap.size W3 W4) := ⟨_, rfl⟩
  have HQ : Hid (∀ W4, Below W3.heap.size W3 W4 → QQ .normal { tmps := #[.slice A n c, .float .f32 t, .float .f32 x, .pointer (some ⟨w.heap.size, 0, none⟩), .pointer (some ⟨w.heap.size + 1, 0, none⟩), .pointer (some ⟨w.heap.size + 1 + 1, 0, none⟩), .slice none 0 0, .int .i64 0, .int .i64 K, undef, undef, undef, .slice A n c, .float .f32 t, .bool false, .bool false, undef, undef, .bool false, .int .i64 K, undef, undef, undef, undef, undef, undef, undef, undef, undef, undef, undef, undef, undef, undef, undef, undef, undef, undef, undef, undef, undef, undef, undef, undef, undef], defers := [] } W4) := Lib.hid fun W4 h => by rw [hQQ]; exact ⟨rfl, rfl, h⟩
  have HQQ := Lib.hid hQQ
  clear hQQ
  refine wpIn_mono (Q := QQ) ?_ ?_
  case refine_1 =>
    refine wpIn_wide.2 ?_
    refine wp_region_noPanic ?_
    first | go_region_law (first
      | (go_simp; go_at_call 51; refine (hG.out _).mono ?_; rintro e w1 ⟨rfl, rfl⟩; dsimp only)
      | (go_simp; go_at_call 50; refine (hE.out _ (by first | exact (HT.out.keep B3.out).keep (b_drew (Below.refl _ _)) | exact HT.out.keep B3.out)).mono ?_; rintro e w2 ⟨rfl, q2⟩; have Q2 := Lib.hid (b_then (b_drew (Below.refl W3.heap.size W3)) q2); clear q2; dsimp only)) | fail
    all_goals exact NoPanic.normal (HQ.out _ Q2.out)
  case refine_2 =>
    intro e a' W4 hq
    rw [HQQ.out] at hq
    obtain ⟨rfl, rfl, q4⟩ := hq
    clear HQ HQQ ca cb cc
    have B4 : Hid (Below w.heap.size w W4) := b_then B3.out q4
    clear q4
    rcases hK2 with rfl | rfl
    all_goals
      gi_wp2
      exact ⟨_, ret_2 Try.results13, _, rfl, own_noneI _ _, B4.out⟩
/-- Both sides. -/
def nwL (zs : List Int) (t x : Nat) : List Ip := if codeX (okZ zs) (tgB t && ptB x) = 0 then nearL (offP zs t) x (prU zs.length zs.length 0) else []
theorem implWithin_any (A : Option Addr) (n c : Nat) (zs : List Int) (t x : Nat) (w : World) (hl : zs.length = n) (hn : n ≤ 1048576) (hw : ∀ z ∈ zs, I16 z) (hT : Ii w w.heap.size A zs) :
    Calls Try.prog 13 #[.slice A n c, .float .f32 t, .float .f32 x] w (RIp (nwL zs t x) (codeX (okZ zs) (tgB t && ptB x)) w) := by
  unfold nwL
  rw [hl]
  by_cases h : codeX (okZ zs) (tgB t && ptB x) = 0
  · obtain ⟨hz, hr⟩ := codeX_zero h
    obtain ⟨ht, hx⟩ := (Bool.and_eq_true _ _).mp hr
    rw [if_pos h, h]
    exact implWithin_ok A n c zs t x w hl hw hz ht hx hT
  · rw [if_neg h]
    have h2 : codeX (okZ zs) (tgB t && ptB x) = 1 ∨ codeX (okZ zs) (tgB t && ptB x) = 2 := by
      rcases codeX_cases (K := codeX (okZ zs) (tgB t && ptB x)) rfl with h0 | h0 | h0
      · exact absurd h0 h
      · exact .inl h0
      · exact .inr h0
    cases ht : tgB t
    · rw [ht] at h2
      exact implWithin_badF A n c zs t x (ptB x) _ w hl hn hw ht rfl rfl h2 hT
    · rw [ht] at h2
      exact implWithin_badT A n c zs t x (ptB x) _ w hl hn hw ht rfl rfl h2 hT
theorem specWithin_all (A : Option Addr) (n c : Nat) (zs : List Int) (t x : Nat) (w : World) (hl : zs.length = n) (hn : n ≤ 1048576) (hw : ∀ z ∈ zs, I16 z) (hT : Ii w w.heap.size A zs) :
    Calls Try.prog 11 #[.slice A n c, .float .f32 t, .float .f32 x] w (RIp (nwL zs t x) (codeX (okZ zs) (tgB t && ptB x)) w) := by
  have := specWithin_any A n c zs t x _ w hl hn hw rfl hT
  unfold nwL
  rw [hl]
  exact this
theorem nwL_le (zs : List Int) (t x : Nat) : (nwL zs t x).length ≤ 576 := by
  unfold nwL
  split
  · rename_i h
    obtain ⟨hz, _⟩ := codeX_zero h
    have h1 := (okZ_at hz).1.2
    have h2 := nearL_len (offP zs t) x (prU zs.length zs.length 0)
    have h3 := prU_len zs.length
    have h4 : zs.length * zs.length ≤ 24 * 24 := Nat.mul_le_mul h1 h1
    omega
  · simp
section
attribute [local go_sem ↓] Go.wp_at_zero Go.wp_at_succ
set_option maxRecDepth 100000
set_option maxHeartbeats 4000000 in
theorem walk_FnExactPairsWithin (A : Option Addr) (n c : Nat) (zs : List Int) (t : Nat) (wt : (Lit.float .f32 t).wf = true) (x : Nat) (wx : (Lit.float .f32 x).wf = true) (w : World) (h : IiIn w A n c zs) :
    Calls Try.prog 3 #[.slice A n c, .float .f32 t, .float .f32 x] w fun e w' => e = .returned (.bool true) ∧ Below w.heap.size w w' := by
  obtain ⟨hl, hnc, hc, hT, hw⟩ := h
  have Hl := Lib.hid hl; clear hl
  have HT := Lib.hid hT; clear hT
  have Hw := Lib.hid hw; clear hw
  have hnm : n ≤ maxLen := Nat.le_trans hnc hc
  unfold maxLen at hnm
  clear hnc hc wt wx
  by_cases z0 : 1048576 < (n : Int)
  · go_enter Try.func3, Try.ntmps3
    go_wp2
    go_ret
    exact ⟨rfl, Below.refl _ _⟩
  have kb : n ≤ 1048576 := by omega
  have S1 := Lib.hid (fun A c W h => specWithin_all A n c zs t x W Hl.out kb Hw.out h)
  have S2 := Lib.hid (fun A c W h => implWithin_any A n c zs t x W Hl.out kb Hw.out h)
  have hle := nwL_le zs t x
  generalize nwL zs t x = R at *
  generalize codeX (okZ zs) (tgB t && ptB x) = K at *
  obtain ⟨N, hN⟩ : ∃ N, R.length = N := ⟨_, rfl⟩
  have HN := Lib.hid hN
  rw [hN] at hle
  clear hN
  go_enter Try.func3, Try.ntmps3
  go_wp2_with fail
  refine (toInts_any A n c zs _ Hl.out kb HT.out).mono ?_
  rintro e w1 ⟨rfl, m⟩
  have M1 := Lib.hid m; have B1 := Lib.hid m.2.2.2; have f1 : w.heap.size < w1.heap.size := m.2.2.1; clear m
  have D1 : Hid (Below w.heap.size w w1) := B1.out
  go_wp2_with fail
  refine (S1.out _ _ _ (M1.out.ii)).mono ?_
  rintro e w2 h2
  obtain ⟨A2, c2, rfl, l, y, tt, b⟩ := h2.facts
  rw [HN.out] at tt ⊢
  have L2 := Lib.hid l; have Y2 := Lib.hid y; have T2 := Lib.hid tt; have B2 := Lib.hid b; have f2 := b.size; clear l y tt b h2
  have D2 : Hid (Below w.heap.size w w2) := b_then D1.out B2.out
  go_wp2_with fail
  refine (toInts_any A n c zs _ Hl.out kb (HT.out.keep D2.out)).mono ?_
  rintro e w3 ⟨rfl, m⟩
  have M3 := Lib.hid m; have B3 := Lib.hid m.2.2.2; have f3 : w2.heap.size < w3.heap.size := m.2.2.1; clear m
  have D3 : Hid (Below w.heap.size w w3) := b_then D2.out B3.out
  go_wp2_with fail
  refine (S2.out _ _ _ (M3.out.ii)).mono ?_
  rintro e w4 h4
  obtain ⟨A4, c4, rfl, l, y, tt, b⟩ := h4.facts
  rw [HN.out] at tt ⊢
  have L4 := Lib.hid l; have Y4 := Lib.hid y; have T4 := Lib.hid tt; have B4 := Lib.hid b; have f4 := b.size; clear l y tt b h4
  have D4 : Hid (Below w.heap.size w w4) := b_then D3.out B4.out
  have L24 : Hid (Ip.L w4 w4.heap.size A2 R) := (L2.out.keep B3.out).keep B4.out
  go_wp2_with fail
  refine (Ip.eq_any _ _ _ _ _ R R _ HN.out rfl (by omega) L4.out L24.out).mono ?_
  rintro e w5 ⟨rfl, b⟩
  have B5 := Lib.hid b; have f5 := b.size; clear b
  have D5 : Hid (Below w.heap.size w w5) := b_then D4.out B5.out
  go_wp2_with fail
  refine (toInts_any A n c zs _ Hl.out kb (HT.out.keep D5.out)).mono ?_
  rintro e w6 ⟨rfl, m⟩
  have M6 := Lib.hid m; have B6 := Lib.hid m.2.2.2; have f6 : w5.heap.size < w6.heap.size := m.2.2.1; clear m
  have D6 : Hid (Below w.heap.size w w6) := b_then D5.out B6.out
  go_wp2_with fail
  refine (eqInts_same _ _ _ _ _ zs _ Hl.out kb (((M3.out.ii.keep B4.out).keep B5.out).keep B6.out) M6.out.ii).mono ?_
  rintro e w7 ⟨rfl, b⟩
  have B7 := Lib.hid b; have f7 := b.size; clear b
  have D7 : Hid (Below w.heap.size w w7) := b_then D6.out B7.out
  have B47 : Hid (Below w4.heap.size w4 w7) := b_then (b_then B5.out B6.out) B7.out
  have B37 : Hid (Below w3.heap.size w3 w7) := b_then B4.out B47.out
  go_wp2_with fail
  refine (markInts_any _ _ _ _ _ kb (by omega) (fun _ => ⟨_, rfl, there_of_block M3.out.1 (B37.out.block _ f3)⟩)).mono ?_
  rintro e w8 ⟨rfl, b8, _⟩
  have B8 := Lib.hid b8; clear b8
  have S8 := Lib.hid B8.out.1
  have f8 : w7.heap.size ≤ w8.heap.size := by rw [S8.out]; exact Nat.le_refl _
  have g8 : w8.heap.size ≤ w7.heap.size := by rw [S8.out]; exact Nat.le_refl _
  have s1 := B1.out.size
  have D8 : Hid (Below w.heap.size w w8) := D7.out.trans (B8.out.2.2 _ (fun a h => by cases h; show w.heap.size ≤ w2.heap.size; omega))
  have L48 : Hid (Ip.L w8 w8.heap.size A4 R) := (L4.out.keep B47.out).mb B8.out (fun a a' ha ha' => by cases ha'; have := (Y4.out a ha).1; show w2.heap.size ≠ a.block; omega)
  have L28 : Hid (Ip.L w8 w8.heap.size A2 R) := (L24.out.keep B47.out).mb B8.out (fun a a' ha ha' => by cases ha'; have := (Y2.out a ha).2; show w2.heap.size ≠ a.block; omega)
  go_wp2_with fail
  refine (Ip.eq_any _ _ _ _ _ R R _ HN.out rfl (by omega) L48.out L28.out).mono ?_
  rintro e w9 ⟨rfl, b⟩
  have B9 := Lib.hid b; have f9 := b.size; clear b
  have D9 : Hid (Below w.heap.size w w9) := b_then D8.out B9.out
  have Z9 : Hid (0 < N → ∃ b, A4 = some ⟨b, 0, none⟩ ∧ b < w9.heap.size ∧ w9.there b 0 (N * 2)) := Lib.hid fun h0 => by
    obtain ⟨b, e, ht⟩ := T4.out h0
    have hy1 := (Y4.out _ e).1
    have hy2 : b < w4.heap.size := (Y4.out _ e).2
    have hy3 : w3.heap.size ≤ b := hy1
    have q7 := B47.out.size
    exact ⟨b, e, by omega, there_of_block (there_of_block (there_of_block ht (B47.out.block b hy2)) (B8.out.2.1 b (fun a h => by cases h; show w2.heap.size ≠ b; omega))) (B9.out.block b (by omega))⟩
  go_wp2_with fail
  refine (markIp_any A4 N _ _ (by omega) Z9.out).mono ?_
  rintro e w10 ⟨rfl, b10, mk⟩
  have B10 := Lib.hid b10; have MK := Lib.hid mk; clear b10 mk
  have S10 := Lib.hid B10.out.1
  have f10 : w9.heap.size ≤ w10.heap.size := by rw [S10.out]; exact Nat.le_refl _
  have g10 : w10.heap.size ≤ w9.heap.size := by rw [S10.out]; exact Nat.le_refl _
  have s3 := B3.out.size; have s2 := B2.out.size
  have D10 : Hid (Below w.heap.size w w10) := D9.out.trans (B10.out.2.2 _ (fun a h => by have := (Y4.out a h).1; omega))
  have L210 : Hid (Ip.L w10 w10.heap.size A2 R) := (L28.out.keep B9.out).mb B10.out (fun a a' ha ha' => by have := (Y4.out a' ha').1; have := (Y2.out a ha).2; omega)
  go_wp2_with fail
  refine (heldIp_any A4 N _ _ (by omega) MK.out).mono ?_
  rintro e w11 ⟨rfl, b⟩
  have B11 := Lib.hid b; have f11 := b.size; clear b
  have D11 : Hid (Below w.heap.size w w11) := b_then D10.out B11.out
  go_wp2_with fail
  refine (toInts_any A n c zs _ Hl.out kb (HT.out.keep D11.out)).mono ?_
  rintro e w12 ⟨rfl, m⟩
  have M12 := Lib.hid m; have B12 := Lib.hid m.2.2.2; have f12 : w11.heap.size < w12.heap.size := m.2.2.1; clear m
  have D12 : Hid (Below w.heap.size w w12) := b_then D11.out B12.out
  go_wp2_with fail
  refine (S2.out _ _ _ (M12.out.ii)).mono ?_
  rintro e w13 h13
  obtain ⟨A13, c13, rfl, l, y, tt, b⟩ := h13.facts
  rw [HN.out] at tt ⊢
  have L13 := Lib.hid l; have Y13 := Lib.hid y; have T13 := Lib.hid tt; have B13 := Lib.hid b; have f13 := b.size; clear l y tt b h13
  have D13 : Hid (Below w.heap.size w w13) := b_then D12.out B13.out
  have L213 : Hid (Ip.L w13 w13.heap.size A2 R) := (((L210.out.keep B11.out).keep B12.out).keep B13.out)
  go_wp2_with fail
  refine (Ip.eq_any _ _ _ _ _ R R _ HN.out rfl (by omega) L13.out L213.out).mono ?_
  rintro e w14 ⟨rfl, b⟩
  have B14 := Lib.hid b; have f14 := b.size; clear b
  have D14 : Hid (Below w.heap.size w w14) := b_then D13.out B14.out
  have MK14 := Lib.hid ((((MK.out.keep B11.out).keep B12.out).keep B13.out).keep B14.out)
  go_wp2_with fail
  refine (heldIp_any A4 N _ _ (by omega) MK14.out).mono ?_
  rintro e w15 ⟨rfl, b⟩
  have B15 := Lib.hid b; clear b
  have D15 : Hid (Below w.heap.size w w15) := b_then D14.out B15.out
  go_wp2
  go_ret
  exact ⟨rfl, D15.out⟩
end
end Go.Proofs.Ytaodpopghacmaaa
