/-
  The pairs that are near to a target: the program's.
-/
import Derived.Test.YtaodpopghacmaaaPrc
import Derived.Test.YtaodpopghacmaaaIpm
import Derived.Test.YtaodpopghacmaaaPwn
import Derived.Maps.AppendAt
import Derived.Deep.RegionHeld3
import Derived.Deep.RegionLaw
namespace Go.Proofs.Ytaodpopghacmaaa
open Go.RowKit Go.ChangeShapes Go.WideShapes Go.Deep Go.Shelf
attribute [local go_sem] Oper.semAt_some
set_option linter.unusedVariables false
set_option linter.unusedSimpArgs false
/-- What the search has in its boxes. -/
structure PwI (w W : World) (S L : Nat) (A : Option Addr) (n c t x : Nat) (ps : List Ip) : Prop where
  a : Boxed W S 22 (.slice A n c)
  b : Boxed W (S + 1) 23 (.float .f32 t)
  c : Boxed W (S + 1 + 1) 23 (.float .f32 x)
  l : ∃ v, Boxed W L 24 v ∧ W.ownsRow (L + 2) 72 2 v ps.length (cellsI ps)
  h : Below w.heap.size w W
theorem PwI.own (w : World) (B S L : Nat) (A : Option Addr) (n c t x : Nat) (hB : w.heap.size ≤ B) {β : Type} (f : β → List Ip) : OwnFrom B (fun (s : β) W => PwI w W S L A n c t x (f s)) := by
  intro s W W' row hs hg hr
  have k : ∀ {q : Nat} {t : TypeId} {v : Value}, Boxed W q t v → Boxed W' q t v := fun {q t v} hb => hb.kept hg (fun e => by
    obtain ⟨_, o, ho, hc⟩ := hr q e.symm
    rw [show W.heap[q]? = _ from hb] at ho
    cases ho; cases hc)
  obtain ⟨v, h1, h2⟩ := hs.l
  obtain ⟨v', h1', h2', _⟩ := holdsRow_own (L + 2) L 24 72 2 (fun s : β => (f s).length) (fun s => cellsI (f s)) (fun _ _ => True) s W W' row ⟨v, h1, h2, trivial⟩ hg (fun r e => (hr r e).2)
  exact ⟨k hs.a, k hs.b, k hs.c, ⟨v', h1', h2'⟩, hs.h.grown hg hs.h.size (fun j e => Nat.le_trans hB (hr j e).1)⟩
theorem PwI.under {w W W' : World} {S L : Nat} {A : Option Addr} {n c t x : Nat} {ps : List Ip} (h : PwI w W S L A n c t x ps) (hb : Below W.heap.size W W') : PwI w W' S L A n c t x ps := by
  obtain ⟨v, h1, h2⟩ := h.l
  exact ⟨bx_under h.a hb, bx_under h.b hb, bx_under h.c hb, ⟨v, bx_under h1 hb, own_below h2 hb⟩, b_then h.h hb⟩
def nwK (zs : List Int) (t x : Nat) : Int := codeX (okZ zs) (tgB t && ptB x)

set_option maxRecDepth 100000 in
set_option maxHeartbeats 8000000 in
theorem implWithin_ok (A : Option Addr) (n c : Nat) (zs : List Int) (t x : Nat) (w : World) (hl : zs.length = n) (hw : ∀ z ∈ zs, I16 z) (hz : okZ zs = true) (ht : tgB t = true) (hx : ptB x = true) (hT : Ii w w.heap.size A zs) :
    Calls Try.prog 13 #[.slice A n c, .float .f32 t, .float .f32 x] w (RIp (nearL (offP zs t) x (prU n n 0)) 0 w) := by
  have hlen := (okZ_at hz).1
  rw [hl] at hlen
  obtain ⟨hn2, hn24⟩ := hlen
  have hG := Lib.hid (fun w => (by have := isTarget_any t w; rw [ht] at this; exact this : Calls Try.prog 51 #[.float .f32 t] w fun e w' => e = .returned (.bool true) ∧ w = w'))
  have hP := Lib.hid (fun w => (by have := isPart_any x w; rw [hx] at this; exact this : Calls Try.prog 52 #[.float .f32 x] w fun e w' => e = .returned (.bool true) ∧ w = w'))
  have hE := Lib.hid (fun (W : World) (h : Ii W W.heap.size A zs) => (boxError_is (b := true) (K := 0) (by rw [hz]; rfl) hl (by omega) hw h : Calls Try.prog 50 #[.slice A n c, .bool true] W (RV (.int .i64 0) W)))
  have HT := Lib.hid hT
  refine (callsIn_wide (n := 9)).1 ?_
  refine callsIn_of_wp_marks Try.func13 rfl trivial ?_ rfl
  simp only [Try.ntmps13, List.size_toArray, List.length_cons, List.length_nil, Nat.reduceAdd, Nat.reduceSub, Array.replicate_succ, Array.replicate_zero, List.push_toArray, List.append_toArray, List.nil_append, List.cons_append]
  obtain ⟨W3, hW3⟩ : ∃ W3, ((w.alloc (.cells #[.slice A n c] 22)).alloc (.cells #[.float .f32 t] 23)).alloc (.cells #[.float .f32 x] 23) = W3 := ⟨_, rfl⟩
  have xa : Boxed W3 w.heap.size 22 (.slice A n c) := by rw [← hW3]; exact ((Boxed.new w _ _).alloc _).alloc _
  have xb : Boxed W3 (w.heap.size + 1) 23 (.float .f32 t) := by rw [← hW3]; exact (bx_new _ 0 (by simp)).alloc _
  have xc : Boxed W3 (w.heap.size + 1 + 1) 23 (.float .f32 x) := by rw [← hW3]; exact bx_new _ 0 (by simp)
  have B3 : Hid (Below w.heap.size w W3) := by rw [← hW3]; exact b_alloc (b_alloc (b_alloc (Below.refl _ _) _) _) _
  have s3 : W3.heap.size = w.heap.size + 3 := by rw [← hW3]; simp
  have ca := xa.cell; have cb := xb.cell; have cc := xc.cell
  gi_wp2
  try simp only [hW3]
  clear hW3
  obtain ⟨QQ, hQQ⟩ : ∃ QQ : Exit → Act → World → Prop, QQ = (fun e a' W4 => e = .normal ∧ a' = { tmps := #[.slice A n c, .float .f32 t, .float .f32 x, .pointer (some ⟨w.heap.size, 0, none⟩), .pointer (some ⟨w.heap.size + 1, 0, none⟩), .pointer (some ⟨w.heap.size + 1 + 1, 0, none⟩), .slice none 0 0, .int .i64 0, .int .i64 0, undef, undef, undef, .slice A n c, .float .f32 t, .bool true, .bool true, .float .f32 x, .bool true, .bool true, .int .i64 0, undef, undef, undef, undef, undef, undef, undef, undef, undef, undef, undef, undef, undef, undef, undef, undef, undef, undef, undef, undef, undef, undef, undef, undef, undef], defers := [] } ∧ Below W3.heap.size W3 W4) := ⟨_, rfl⟩
  have HQ : Hid (∀ W4, Below W3.heap.size W3 W4 → QQ .normal { tmps := #[.slice A n c, .float .f32 t, .float .f32 x, .pointer (some ⟨w.heap.size, 0, none⟩), .pointer (some ⟨w.heap.size + 1, 0, none⟩), .pointer (some ⟨w.heap.size + 1 + 1, 0, none⟩), .slice none 0 0, .int .i64 0, .int .i64 0, undef, undef, undef, .slice A n c, .float .f32 t, .bool true, .bool true, .float .f32 x, .bool true, .bool true, .int .i64 0, undef, undef, undef, undef, undef, undef, undef, undef, undef, undef, undef, undef, undef, undef, undef, undef, undef, undef, undef, undef, undef, undef, undef, undef, undef], defers := [] } W4) := Lib.hid fun W4 h => by rw [hQQ]; exact ⟨rfl, rfl, h⟩
  have HQQ := Lib.hid hQQ
  clear hQQ
  refine wpIn_mono (Q := QQ) ?_ ?_
  case refine_1 =>
    refine wpIn_wide.2 ?_
    refine wp_region_noPanic ?_
    go_region_law (first
      | (go_simp; go_at_call 51; refine (hG.out _).mono ?_; rintro e w1 ⟨rfl, rfl⟩; dsimp only)
      | (go_simp; go_at_call 52; refine (hP.out _).mono ?_; rintro e w1 ⟨rfl, rfl⟩; dsimp only)
      | (go_simp; go_at_call 50; refine (hE.out _ (by first | exact (HT.out.keep B3.out).keep (b_drew (Below.refl _ _)) | exact HT.out.keep B3.out)).mono ?_; rintro e w2 ⟨rfl, q2⟩; have Q2 := Lib.hid (b_then (b_drew (Below.refl W3.heap.size W3)) q2); clear q2; dsimp only))
    all_goals exact NoPanic.normal (HQ.out _ Q2.out)
  case refine_2 =>
    intro e a' W4 hq
    rw [HQQ.out] at hq
    obtain ⟨rfl, rfl, q4⟩ := hq
    clear HQ HQQ
    have ya := bx_under xa q4; have yb := bx_under xb q4; have yc := bx_under xc q4
    have B4 : Hid (Below w.heap.size w W4) := b_then B3.out q4
    have s4 : w.heap.size + 3 ≤ W4.heap.size := by have := q4.size; omega
    clear ca cb cc xa xb xc q4 B3 s3
    have ca := ya.cell
    have s5 : w.heap.size < W4.heap.size := by omega
    gi_wp2
    clear ca
    refine ⟨trivial, ?_⟩
    refine (pairs_in 8 A n c hn24 _).mono ?_
    rintro e w' ⟨rfl, rfl⟩
    gi_wp2
    obtain ⟨L, hL⟩ : ∃ L, W4.heap.size = L := ⟨_, rfl⟩
    rw [hL] at s4 s5
    simp only [hL, World.size_alloc]
    obtain ⟨W0, hW0⟩ : ∃ W0, (W4.alloc (.cells #[.slice none 0 0] 24)).alloc (.cells #[.int .i16 (n : Int)] 47) = W0 := ⟨_, rfl⟩
    have hsz : W0.heap.size = L + 2 := by rw [← hW0, ← hL]; simp
    have hI0 : PwI w W0 w.heap.size L A n c t x [] := by
      rw [← hW0]
      refine ⟨(ya.alloc _).alloc _, (yb.alloc _).alloc _, (yc.alloc _).alloc _, ⟨.slice none 0 0, (bx_new _ 0 hL).alloc _, own_noneI _ _⟩, b_alloc (b_alloc B4.out _) _⟩
    have k5 : W0.heap[L + 1]? = some (.cells #[.int .i16 (n : Int)] 47 (0, 0)) := by
      rw [← hW0]
      exact bx_new (t := 47) (v := .int .i16 (n : Int)) _ 0 (by simp [hL])
    simp only [hW0]
    clear hW0 ya yb yc
    have hseq := pairs_stops 8 n hn24 (L + 2) (fun k => k = L) W0 hsz (L + 1) k5 (by show ¬ (_ = _); omega) (by omega)
    clear k5
    have Hte := Lib.hid (fun i (hi : i < n) => (show zs[i]? = some (zs.getD i 0) ∧ 6 ≤ zs.getD i 0 ∧ zs.getD i 0 ≤ 200 from by
      have h1 : zs[i]? = some zs[i] := List.getElem?_eq_getElem (by rw [hl]; exact hi)
      rw [getD_of h1]
      exact ⟨h1, okZ_teeth hz h1⟩))
    have Hoff := Lib.hid (fun i j (hi : i < n) (hj : j < n) => offP_num hz ht (i := i) (j := j) (by rw [hl]; exact hi) (by rw [hl]; exact hj))
    have HOD : Hid (∀ i j, offC (quoT (zs.getD i 0) (zs.getD j 0)) t = offP zs t (i, j)) := Lib.hid (fun i j => rfl)
    have Hl := Lib.hid hl
    have H4 := Lib.hid s4
    clear hl hz ht hx hw
    generalize offP zs t = off at *
    obtain ⟨i0, hi0, hz0, hz1, hz2⟩ := info_parts infoIp
    refine wpIn_rangeFunc_ownF (α := TwP n) rfl (by omega) (gf := 87) (lb := #[.pointer (some ⟨L + 1, 0, none⟩)]) rfl trivial (enters_of Try.func87 (by kernel_rfl) rfl)
      hseq Keep.trans (fun W l o o' hle ho hc hwk => keep_b W o o' (by omega) ho) (Below.refl _ _) (fun _ => rfl)
      (fun pre W => PwI w W w.heap.size L A n c t x (nearL off x (pre.map (·.1))) ∧ L + 2 ≤ W.heap.size)
      (fun _ _ _ => False)
      (OwnFrom.and (PwI.own w _ _ L A n c t x (by omega) _) (fun _ _ _ _ hs hg _ => Nat.le_trans hs hg.size))
      (fun _ _ _ _ _ hs _ _ => hs)
      ⟨hI0, by omega⟩
      (fun x_ => { tmps := #[.slice A n c, .float .f32 t, .float .f32 x, .pointer (some ⟨w.heap.size, 0, none⟩), .pointer (some ⟨w.heap.size + 1, 0, none⟩), .pointer (some ⟨w.heap.size + 1 + 1, 0, none⟩), .slice none 0 0, .int .i64 0, .int .i64 0, .pointer (some ⟨L, 0, none⟩), .int .i16 (x_.1.1 : Int), .int .i16 (x_.1.2 : Int), .slice A n c, .float .f32 t, .bool true, .bool true, .float .f32 x, .bool true, .bool true, .int .i64 0, .int .i64 0, .bool false, undef, .slice A n c, .func (.func 87) #[] #[.pointer (some ⟨L + 1, 0, none⟩)], .int .i16 (x_.1.1 : Int), .int .i16 (x_.1.2 : Int), undef, undef, undef, undef, undef, undef, undef, undef, undef, undef, undef, undef, undef, undef, undef, undef, undef, undef], defers := [] }) ?assign ?body ?done ?stop
    case assign =>
      intro l y W K hK
      gi_wp2
      exact hK
    case body =>
      rintro l pre ⟨⟨i, j⟩, hi, hj, hij⟩ W ⟨hI, h6⟩ hlt
      have HW6 := Lib.hid h6
      have HLT := Lib.hid hlt
      clear h6 hlt
      have ba := hI.a.cell; have bb := hI.b.cell; have bc := hI.c.cell
      have HI := Lib.hid hI
      obtain ⟨e1, x1, x2⟩ := Hte.out i hi
      obtain ⟨e2, y1, y2⟩ := Hte.out j hj
      have HE1 := Lib.hid e1; have HE2 := Lib.hid e2
      have HD := Lib.hid (HOD.out i j)
      have HN := Lib.hid (Hoff.out i j hi hj)
      clear hI e1 e2
      generalize zs.getD i 0 = xi at *
      generalize zs.getD j 0 = xj at *
      gi_wp2_with fail
      refine wpIn_mono (Q := fun e a' w3 => e = .normal ∧ ∃ r : Nat, a' = { tmps := #[.slice A n c, .float .f32 t, .float .f32 x, .pointer (some ⟨w.heap.size, 0, none⟩), .pointer (some ⟨w.heap.size + 1, 0, none⟩), .pointer (some ⟨w.heap.size + 1 + 1, 0, none⟩), .slice none 0 0, .int .i64 0, .int .i64 0, .pointer (some ⟨L, 0, none⟩), .int .i16 (i : Int), .int .i16 (j : Int), .slice A n c, .float .f32 t, .bool true, .bool true, .float .f32 x, .bool true, .bool true, .int .i64 0, .int .i64 0, .bool false, undef, .slice A n c, .func (.func 87) #[] #[.pointer (some ⟨L + 1, 0, none⟩)], .int .i16 (i : Int), .int .i16 (j : Int), .slice A n c, .int .i16 (i : Int), .int .i16 (j : Int), .agg #[.int .i16 xi, .int .i16 xj, .float .f32 0], .float .f32 (quoT xi xj), .float .f32 t, .float .f32 r, .float .f32 x, .bool (oLe r x), undef, undef, undef, undef, undef, undef, undef, undef, undef], defers := [] } ∧ CN r (offC (quoT xi xj) t) ∧ Below W.heap.size W w3) ?_ ?_
      case refine_1 =>
        gi_region_with (first
          | (refine ⟨trivial, ?_⟩; gi_at_call 55; refine (CallsIn.inRound l (callsIn_wide.2 (pairIn_any A n c i j zs xi xj _ Hl.out HE1.out HE2.out (by omega) (by first | exact (HT.out.keep HI.out.h).keep (b_drew (Below.refl _ _)) | exact (HT.out.keep HI.out.h))))).mono ?_; rintro e w1 ⟨rfl, q1⟩; have Q1 := Lib.hid (b_then (b_drew (Below.refl W.heap.size W)) q1); clear q1; have bb1 := (bx_under HI.out.b Q1.out).cell; have bc1 := (bx_under HI.out.c Q1.out).cell)
          | (refine ⟨trivial, ?_⟩; gi_at_call 56; refine (CallsIn.inRound l (callsIn_wide.2 (forward_any x1 x2 y1 y2 0 _))).mono ?_; rintro e w2 ⟨rfl, q2⟩; have Q2 := Lib.hid (b_then Q1.out q2); clear q2; have bb2 := (bx_under HI.out.b Q2.out).cell; have bc2 := (bx_under HI.out.c Q2.out).cell)
          | (refine ⟨trivial, ?_⟩; gi_at_call 54; refine (CallsIn.inRound l (callsIn_wide.2 (implOff_any _ _ _))).mono ?_; rintro e w3 ⟨r, rfl, hr, q3⟩; have Q3 := Lib.hid (b_then Q2.out q3); have HR := Lib.hid hr; clear q3 hr; have bc3 := (bx_under HI.out.c Q3.out).cell))
        all_goals exact ⟨rfl, r, rfl, HR.out, Q3.out⟩
      case refine_2 =>
        rintro e a' w3 ⟨rfl, r, rfl, hr, q3⟩
        have hr : r = off (i, j) := cn_eq_fix (hr.trans HD.out) HN.out.1.1
        have I3 := Lib.hid (HI.out.under q3)
        have KO := Lib.hid (keepsO_below q3)
        have KK : Hid (Keep (L + 2) (fun k => k = L) W w3) := Lib.hid (Keep.below (q3.mono HW6.out))
        have hs3 : L + 2 ≤ w3.heap.size := Nat.le_trans HW6.out q3.size
        subst hr
        have hsn : ∀ b, oLe (off (i, j)) x = b → nearL off x ((pre ++ [(⟨(i, j), hi, hj, hij⟩ : TwP n)]).map (·.1)) = if b then nearL off x (pre.map (·.1)) ++ [ipOf (i, j)] else nearL off x (pre.map (·.1)) := fun b hb => by
          rw [List.map_append]
          cases b
          · exact nearL_no hb
          · exact nearL_yes hb
        have hpl := nearL_len off x (pre.map (·.1))
        rw [List.length_map] at hpl
        have HPL : Hid ((nearL off x (pre.map (·.1))).length ≤ 576) := Nat.le_trans hpl (Nat.le_of_lt HLT.out)
        have Hsn := Lib.hid hsn
        clear HN HD HE1 HE2 ba bb bc hsn hpl q3
        generalize nearL off x (pre.map (·.1)) = ps at *
        obtain ⟨v, bl, row⟩ := I3.out.l
        have fl := bl.frozen
        have cl := bl.cell
        obtain ⟨tb, htb⟩ : ∃ tb, oLe (off (i, j)) x = tb := ⟨_, rfl⟩
        have Hs := Lib.hid (Hsn.out tb htb)
        simp only [htb]
        clear Hsn htb
        cases tb
        · gi_wp2
          exact ⟨KO.out, KK.out, by rw [Hs.out]; exact I3.out, hs3⟩
        · have Hrow := Lib.hid row
          have Hbl := Lib.hid bl
          have hws := I3.out.h.size
          have hwL : w.heap.size ≤ L := by have := H4.out; omega
          clear row bl
          have wi : IntKind.i64.wrap (i : Int) = (i : Int) := IntWalk.i64_in _ (by omega)
          have wj : IntKind.i64.wrap (j : Int) = (j : Int) := IntWalk.i64_in _ (by omega)
          have hpl := HPL.out
          gi_wp2_with (gi_at_builtin; refine wpListIn_append_own _ rfl _ _ 24 rfl (L + 2) 72 i0 _ 2 16 Try.underlying24 hi0 hz0 hz1 hz2 rfl (by decide) _ ps.length _ rfl (Hrow.out.alloc _) ⟨w3.heap.size, 0, none⟩ 1 1 (ipOf (i, j)).cells rfl rfl (World.news_of_block (cs := #[_, _]) (heap_alloc_new _ _)) (by intro u hu; simp [Ip.cells] at hu; rcases hu with rfl | rfl <;> rfl) (by unfold maxLen; omega) (by omega) (by simp; omega) ?_; intro v' w9 hown' hgrow _; obtain ⟨g', cap', rfl⟩ := ownsRow_succ hown'; obtain ⟨hv1, hv2, _, hk2, hb2⟩ := Hbl.out.appended (by decide) (own_more Hrow.out (by omega)) hws hwL (own_more hown' (by omega)) hgrow; have hr2 := hown'.kept (grownBy_setCell' w9 L (.slice (some ⟨g', 0, none⟩) (ps.length + 1) cap')) (.inr (hv1.not_row (by decide) hown').symm); have HR2 := Lib.hid hr2; have HK2 := Lib.hid (hk2); have HB2 := Lib.hid hb2; have HV2 := Lib.hid hv2; have HG2 := Lib.hid hgrow; have hc1 := hv1.cell; have hf1 := hv1.frozen; have HV1 := Lib.hid hv1; clear hown' hr2 hk2 hb2 hv2 hgrow hv1)
          have KF : Keep (L + 2) (fun k => k = L) w3 (w9.setCell ⟨L, 0, none⟩ (.slice (some ⟨g', 0, none⟩) (ps.length + 1) cap')) := by
            refine Keep.trans ?_ (Keep.set (x := fun k => k = L) (q := L) (show L = L from rfl) _)
            refine Keep.trans (Keep.below (b_alloc (Below.refl w3.heap.size w3) _ |>.mono hs3)) ⟨HG2.out.size, fun k hk _ => HG2.out.block k (by simp; omega) (fun e => ?_)⟩
            have := (own_base Hrow.out k e.symm).1
            omega
          have hnn : PwI w (w9.setCell ⟨L, 0, none⟩ (.slice (some ⟨g', 0, none⟩) (ps.length + 1) cap')) w.heap.size L A n c t x (ps ++ [ipOf (i, j)]) := by
            have bx : ∀ {q : Nat} {t : TypeId} {v : Value}, Boxed w3 q t v → q < L → Boxed (w9.setCell ⟨L, 0, none⟩ (.slice (some ⟨g', 0, none⟩) (ps.length + 1) cap')) q t v := fun {q t v} hb hq => (KF.2 q (by omega) (by omega)).trans hb
            refine ⟨bx I3.out.a (by have := H4.out; omega), bx I3.out.b (by have := H4.out; omega), bx I3.out.c (by have := H4.out; omega), ⟨_, HV2.out, ?_⟩, I3.out.h.trans HB2.out⟩
            rw [cellsI_snoc, List.length_append]
            exact HR2.out
          have hbs := HB2.out.size
          refine ⟨KO.out.trans HK2.out, KK.out.trans KF, ?_, Nat.le_trans hs3 ?_⟩
          · rw [Hs.out]
            exact hnn
          · exact (KF).1
    case done =>
      rintro D ys W hD hS ⟨hI, _⟩ hK
      rw [hS] at hI
      have HI := Lib.hid hI; have HK := Lib.hid hK
      clear hI hK
      generalize nearL off x (prU n n 0) = ps at *
      obtain ⟨v, bl, row⟩ := HI.out.l
      have cl := bl.cell
      clear bl
      gi_wp2
      refine ⟨by simp, .inl ⟨_, _, rfl, run_takeDeferred HK.out, ?_⟩⟩
      exact ⟨_, by simp [results, Try.results13, go_sem], _, rfl, ownsRow_putObj (own_more row (by have := H4.out; omega)) _ HK.out rfl, HI.out.h.trans (belowK_b (w := w) (Nat.le_refl _) W D _ _ (by omega) HK.out rfl rfl)⟩
    case stop =>
      rintro D cd pre W hD hS h
      exact h.elim
end Go.Proofs.Ytaodpopghacmaaa
