/-
  LeastGate: the program's side.
-/
import Derived.Test.YtjkgiknklkfipaaDoorGv
namespace Go.Proofs.YtjkgiknklkfipaaDoor
open Go.RowKit Go.ChangeShapes Go.WideShapes Go.Deep Go.Shelf
attribute [local go_sem] Oper.semAt_some
set_option linter.unusedVariables false
set_option linter.unusedSimpArgs false
set_option maxRecDepth 100000
/-- What the search for the least gate has in its boxes. -/
structure LgI (w W : World) (B l q6 q7 : Nat) (a b : Int) : Prop where
  l : Boxed W B 24 (.float .f32 l)
  a : Boxed W q6 2 (.int .i64 a)
  b : Boxed W q7 2 (.int .i64 b)
  h : Below w.heap.size w W
theorem LgI.own {X : Nat → Prop} {C : Nat} (w : World) (B l q6 q7 : Nat) (hX : ∀ r, X r → w.heap.size ≤ r) (hC : w.heap.size ≤ C) {β : Type} (f g : β → Int) : OwnX X C (fun (x : β) W => LgI w W B l q6 q7 (f x) (g x)) := by
  intro s W W' row hs hg hr
  have hr2 : ∀ r, row = some r → ∃ o : Obj, W.heap[r]? = some o ∧ o.isCells = false := fun r e => (hr r e).2
  exact ⟨bx_keptG hs.l hg hr2, bx_keptG hs.a hg hr2, bx_keptG hs.b hg hr2, hs.h.grown hg hs.h.size (fun j e => (hr j e).1.elim (hX j) (fun h => Nat.le_trans hC h))⟩
/-- No gate of those that have come has torque enough. -/
def LgP (G : Gv) (s l : Nat) (pre : List GtP) : Prop := ∀ k ∈ pre.map (·.1), oGe (torqG G ((k : Nat) : Int) s) l = false
/-- The last one has, and none before. -/
def LgJ (G : Gv) (s l : Nat) (w : World) (B q6 q7 : Nat) (pre : List GtP) (W : World) : Prop := ∃ (ks : List Nat) (k : Nat), pre.map (·.1) = ks ++ [k] ∧ (∀ i ∈ ks, oGe (torqG G ((i : Nat) : Int) s) l = false) ∧ oGe (torqG G (k : Int) s) l = true ∧ LgI w W B l q6 q7 (k : Int) 0
theorem bx_put {W : World} {q D : Nat} {t : TypeId} {v : Value} (h : Boxed W q t v) {o o' : Obj} (hD : W.heap[D]? = some o) (ho : o.isCells = false) : Boxed (W.putObj D o') q t v := by
  refine (World.putObj_heap_other (fun e => ?_)).trans h
  subst e
  rw [show W.heap[q]? = _ from h] at hD
  cases hD
  cases ho
theorem ret_c2 {fn : Func} {tmps : Array Value} {W : World} {a b s1 s2 : Nat} {x y : Value} (hr : fn.results = #[.cell s1 2, .cell s2 2])
    (h1 : tmps.getD s1 undef = .pointer (some ⟨a, 0, none⟩)) (h2 : tmps.getD s2 undef = .pointer (some ⟨b, 0, none⟩))
    (k1 : Boxed W a 2 x) (k2 : Boxed W b 2 y) : (results fn tmps).run Tryd.prog W = .ok (.tuple #[x, y]) W := by
  have e0 := k1.cell; have e1 := k2.cell
  rw [Array.getD_eq_getD_getElem?] at h1 h2
  simp [results, hr, h1, h2, go_sem, e0, e1]
theorem pre_last {ks : List Nat} {k : Nat} (h : ks ++ [k] <+: List.range 17) : k < 17 ∧ ks = List.range k := by
  have h1 := List.prefix_iff_eq_take.1 h
  rw [List.take_range] at h1
  have h2 := congrArg List.length h1
  simp at h2
  have h3 : min (ks ++ [k]).length 17 = ks.length + 1 := by simp; omega
  rw [h3, List.range_succ] at h1
  have h4 := List.append_inj' h1 rfl
  obtain ⟨h5, h6⟩ := h4
  simp at h6
  subst h6
  exact ⟨by omega, h5⟩
set_option maxHeartbeats 8000000 in
theorem implLeastGate_any (G : Gv) (wG : (Lit.int .i16 G.mb).wf = true) (wh : G.mh < 4294967296) (s : Nat) (ws : s < 4294967296) (l : Nat) (w : World) (Z : Sens) (hZ : SenAt w Z) : Calls Tryd.prog 33 #[.agg #[.int .i16 G.mb, .float .f32 G.mh, .float .f32 G.mr, .float .f32 G.ar, .float .f32 G.he, .float .f32 G.lo, .float .f32 G.hi, .float .f32 G.ine], .float .f32 s, .float .f32 l] w (RV (.tuple #[.int .i64 (lgR G s l).1, .int .i64 (lgR G s l).2]) w) := by
  have b2 : Below w.heap.size w ((((w.alloc (.cells #[.int .i16 G.mb, .float .f32 G.mh, .float .f32 G.mr, .float .f32 G.ar, .float .f32 G.he, .float .f32 G.lo, .float .f32 G.hi, .float .f32 G.ine] 58)).alloc (.cells #[.float .f32 l] 24)).alloc (.cells #[.int .i64 0] 2)).alloc (.cells #[.int .i64 0] 2)) := b_alloc (b_alloc (b_alloc (b_alloc (Below.refl _ _) _) _) _) _; have hE := gateError_any Z G s l _ (SenAt.on hZ (by rfl) b2); have HZ := Lib.hid hZ; have B2 := Lib.hid b2; have k0 : AtGv ((((w.alloc (.cells #[.int .i16 G.mb, .float .f32 G.mh, .float .f32 G.mr, .float .f32 G.ar, .float .f32 G.he, .float .f32 G.lo, .float .f32 G.hi, .float .f32 G.ine] 58)).alloc (.cells #[.float .f32 l] 24)).alloc (.cells #[.int .i64 0] 2)).alloc (.cells #[.int .i64 0] 2)) w.heap.size G := (((AtGv.new w G).push _).push _).push _; have kl : Boxed ((((w.alloc (.cells #[.int .i16 G.mb, .float .f32 G.mh, .float .f32 G.mr, .float .f32 G.ar, .float .f32 G.he, .float .f32 G.lo, .float .f32 G.hi, .float .f32 G.ine] 58)).alloc (.cells #[.float .f32 l] 24)).alloc (.cells #[.int .i64 0] 2)).alloc (.cells #[.int .i64 0] 2)) (w.heap.size + 1) 24 (.float .f32 l) := ((bx_newG _ (by simp)).alloc _).alloc _; have k6 : Boxed ((((w.alloc (.cells #[.int .i16 G.mb, .float .f32 G.mh, .float .f32 G.mr, .float .f32 G.ar, .float .f32 G.he, .float .f32 G.lo, .float .f32 G.hi, .float .f32 G.ine] 58)).alloc (.cells #[.float .f32 l] 24)).alloc (.cells #[.int .i64 0] 2)).alloc (.cells #[.int .i64 0] 2)) (w.heap.size + 1 + 1) 2 (.int .i64 0) := (bx_newG _ (by simp)).alloc _; have k7 : Boxed ((((w.alloc (.cells #[.int .i16 G.mb, .float .f32 G.mh, .float .f32 G.mr, .float .f32 G.ar, .float .f32 G.he, .float .f32 G.lo, .float .f32 G.hi, .float .f32 G.ine] 58)).alloc (.cells #[.float .f32 l] 24)).alloc (.cells #[.int .i64 0] 2)).alloc (.cells #[.int .i64 0] 2)) (w.heap.size + 1 + 1 + 1) 2 (.int .i64 0) := bx_newG _ (by simp); have K0 := Lib.hid k0; have KL := Lib.hid kl; have K6 := Lib.hid k6; have K7 := Lib.hid k7; clear hZ b2 k6 k7
  have hc := gtK_cases G s l
  rcases hc with hK | hK | hK
  · obtain ⟨o1, o2, o3⟩ := gtK_zero hK
    have hV : gateV Z G s l = .nilIface := by unfold gateV; rw [o1, o2, o3]; rfl
    have hbg : lgR G s l = lgO G s l := by unfold lgR; rw [if_pos hK]
    rw [hV] at hE
    rw [hbg]
    have HE := Lib.hid hE
    have HG : Hid (GoodG G) := Lib.hid ⟨o1, wG, wh⟩
    have HSp := Lib.hid o2
    have HL := Lib.hid (show ∀ k : Nat, k ≤ 16 → (∀ i, i < k → oGe (torqG G ((i : Nat) : Int) s) l = false) → oGe (torqG G (k : Int) s) l = true → lgO G s l = ((k : Int), 0) from fun k hk h1 h2 => by unfold lgO; rw [find_at h1 (by omega) h2])
    have HN := Lib.hid (show (∀ i, i < 17 → oGe (torqG G ((i : Nat) : Int) s) l = false) → lgO G s l = (0, 6) from fun h1 => by unfold lgO; rw [find_no h1])
    clear hK hV hE o1 o2 o3 hbg
    generalize lgO G s l = R at *
    refine (callsIn_wide (n := 9)).1 ?_
    refine callsIn_of_wp_marks Tryd.func33 rfl trivial ?_ rfl
    simp only [Tryd.ntmps33, List.size_toArray, List.length_cons, List.length_nil, Nat.reduceAdd, Nat.reduceSub, Array.replicate_succ, Array.replicate_zero, List.push_toArray, List.append_toArray, List.nil_append, List.cons_append]
    obtain ⟨c0, c1, c2, c3, c4, c5, c6, c7⟩ := k0.cells; have cl := kl.cell; clear k0 kl
    gi_wp2_with fail
    refine ⟨trivial, ?_⟩
    refine (callsIn_wide.2 HE.out).mono ?_
    rintro e w1 ⟨rfl, b1⟩
    have B1 : Hid (Below w.heap.size w w1) := Lib.hid (b_then B2.out b1)
    have K1 := Lib.hid (K0.out.on (by rfl) b1)
    have L1 := Lib.hid (bx_underG KL.out b1)
    have Q6 := Lib.hid (bx_underG K6.out b1)
    have Q7 := Lib.hid (bx_underG K7.out b1)
    have hl0 : w.heap.size < w1.heap.size := K1.out.lt
    have hl1 : w.heap.size + 1 + 1 + 1 < w1.heap.size := Q7.out.lt
    clear c0 c1 c2 c3 c4 c5 c6 c7 cl b1
    obtain ⟨c0, c1, c2, c3, c4, c5, c6, c7⟩ := K1.out.cells
    gi_wp2_with fail
    refine ⟨trivial, ?_⟩
    refine (callsIn_wide.2 (governedBy_any G _)).mono ?_
    rintro e w2 ⟨p, rfl, hm, hp, b2⟩
    have HM := Lib.hid hm
    have B2' := Lib.hid b2
    have hp2 : w1.heap.size ≤ p := by omega
    have hs2 : w1.heap.size ≤ w2.heap.size := b2.size
    have hpl : p < w2.heap.size := (Array.getElem?_eq_some_iff.1 hm).1
    have XA : Hid (Boxed w2 (w.heap.size + 1 + 1) 2 (.int .i64 0)) := Lib.hid (bx_underG Q6.out b2)
    have XB : Hid (Boxed w2 (w.heap.size + 1 + 1 + 1) 2 (.int .i64 0)) := Lib.hid (bx_underG Q7.out b2)
    have XL : Hid (Boxed w2 (w.heap.size + 1) 24 (.float .f32 l)) := Lib.hid (bx_underG L1.out b2)
    have X2 : Hid (Below w.heap.size w w2) := Lib.hid (b_then B1.out b2)
    clear c0 c1 c2 c3 c4 c5 c6 c7 hm hp b2
    gi_wp2_with fail
    refine ⟨trivial, ?_⟩
    refine (gates_in 8 G p s _).mono ?_
    rintro e w' ⟨rfl, rfl⟩
    gi_wp2
    obtain ⟨W0, hW0⟩ : ∃ W0, (w2.alloc (.cells #[.int .i16 G.mb, .float .f32 G.mh, .float .f32 G.mr, .int .i16 G.mb, .float .f32 G.mh, .float .f32 G.mr, .float .f32 G.ar, .float .f32 G.he, .float .f32 G.lo, .float .f32 G.hi, .float .f32 G.ine, .map (some p)] 98)).alloc (.cells #[.float .f32 s] 24) = W0 := ⟨_, rfl⟩
    have hsz : W0.heap.size = w2.heap.size + 2 := by rw [← hW0]; simp
    have hI0 : LgI w W0 (w.heap.size + 1) l (w.heap.size + 1 + 1) (w.heap.size + 1 + 1 + 1) 0 0 := by
      rw [← hW0]
      exact ⟨(XL.out.alloc _).alloc _, (XA.out.alloc _).alloc _, (XB.out.alloc _).alloc _, b_alloc (b_alloc X2.out _) _⟩
    have hg0 : AtGd W0 w2.heap.size G p := by rw [← hW0]; exact (AtGd.new w2 G p).push _
    have hq0 : Boxed W0 (w2.heap.size + 1) 24 (.float .f32 s) := by rw [← hW0]; exact bx_newG _ (by simp)
    have hm0 : W0.heap[p]? = some (.map #[] 0) := by
      rw [← hW0]
      exact (Below.heap_alloc _ _ _ (by simp; omega)).trans ((Below.heap_alloc _ _ _ hpl).trans HM.out)
    try simp only [hW0]
    clear hW0
    have hseq := gates_seq 8 G HG.out s HSp.out ws (w2.heap.size + 2) (fun k => k = w.heap.size + 1 + 1 ∨ k = w.heap.size + 1 + 1 + 1) W0 hsz w2.heap.size (w2.heap.size + 1) p #[] 0 hg0 hq0 hm0 (Inv.nil _) (by show ¬ (_ ∨ _); omega) (by show ¬ (_ ∨ _); omega) (by show ¬ (_ ∨ _); omega) (by omega) (by omega)
    have HI0 := Lib.hid hI0
    clear hg0 hq0 hm0 hI0
    refine range_at (α := GtP) (X := fun r => r = p) rfl (by omega) (gf := 83) (lb := #[.pointer (some ⟨w2.heap.size, 0, none⟩), .pointer (some ⟨w2.heap.size + 1, 0, none⟩)]) rfl trivial (enters_of Tryd.func83 (by kernel_rfl) rfl)
      hseq (fun r h => by have : r = p := h; omega) Keep.trans (fun W l o o' hle ho hc hwk => keep_b W o o' (by omega) ho) (Below.refl _ _) (fun _ => rfl)
      (fun pre W => LgI w W (w.heap.size + 1) l (w.heap.size + 1 + 1) (w.heap.size + 1 + 1 + 1) 0 0 ∧ w2.heap.size + 2 ≤ W.heap.size ∧ LgP G s l pre)
      (fun cd pre W => cd = .ret ∧ LgJ G s l w (w.heap.size + 1) (w.heap.size + 1 + 1) (w.heap.size + 1 + 1 + 1) pre W)
      ?ownI ?ownIx ⟨HI0.out, by omega, fun k hk => by simp at hk⟩ (fun y a' W => a' = { tmps := #[.agg #[.int .i16 G.mb, .float .f32 G.mh, .float .f32 G.mr, .float .f32 G.ar, .float .f32 G.he, .float .f32 G.lo, .float .f32 G.hi, .float .f32 G.ine], .float .f32 s, .float .f32 l, .pointer (some ⟨w.heap.size, 0, none⟩), undef, .pointer (some ⟨w.heap.size + 1, 0, none⟩), .pointer (some ⟨w.heap.size + 1 + 1, 0, none⟩), .pointer (some ⟨w.heap.size + 1 + 1 + 1, 0, none⟩), .nilIface, .int .i64 (y.1 : Int), .float .f32 (torqG G (y.1 : Int) s), .agg #[.int .i16 G.mb, .float .f32 G.mh, .float .f32 G.mr, .float .f32 G.ar, .float .f32 G.he, .float .f32 G.lo, .float .f32 G.hi, .float .f32 G.ine], .float .f32 s, .float .f32 l, .nilIface, .nilIface, .bool false, undef, undef, .agg #[.int .i16 G.mb, .float .f32 G.mh, .float .f32 G.mr, .float .f32 G.ar, .float .f32 G.he, .float .f32 G.lo, .float .f32 G.hi, .float .f32 G.ine], .agg #[.int .i16 G.mb, .float .f32 G.mh, .float .f32 G.mr, .int .i16 G.mb, .float .f32 G.mh, .float .f32 G.mr, .float .f32 G.ar, .float .f32 G.he, .float .f32 G.lo, .float .f32 G.hi, .float .f32 G.ine, .map (some p)], .float .f32 s, .func (.func 83) #[] #[.pointer (some ⟨w2.heap.size, 0, none⟩), .pointer (some ⟨w2.heap.size + 1, 0, none⟩)], .int .i64 (y.1 : Int), .float .f32 (torqG G (y.1 : Int) s), undef, undef, undef, undef, undef, undef], defers := [] }) (fun _ _ _ _ _ _ hs _ _ => hs) ?assign ?body ?done ?stop
    case ownI =>
      exact OwnX.and (LgI.own w _ l _ _ (fun r h => by have : r = p := h; omega) (by omega) (fun _ => 0) (fun _ => 0)) (fun _ _ _ _ hs hg _ => ⟨Nat.le_trans hs.1 hg.size, hs.2⟩)
    case ownIx =>
      rintro cd pre A C row ⟨h0, ks, k, h1, h2, h3, h4⟩ hg hr
      exact ⟨h0, ks, k, h1, h2, h3, LgI.own (β := Unit) w _ l _ _ (fun r h => by have : r = p := h; omega) (by omega) (fun _ => (k : Int)) (fun _ => 0) () A C row h4 hg hr⟩
    case assign =>
      rintro l1 pre y W K hI hK
      have HK := Lib.hid hK; have HI := Lib.hid hI
      clear hK hI hseq
      gi_wp2
      exact HK.out _ _ (KeepsFrom.refl _ _) (Keep.refl _ _ _) HI.out rfl
    case body =>
      rintro l1 pre y a' W hle _ ⟨hI, hsW, hall⟩ rfl hlen
      obtain ⟨k, hk⟩ := y
      dsimp only
      have hmp : (pre ++ [(⟨k, hk⟩ : GtP)]).map (·.1) = pre.map (·.1) ++ [k] := by rw [List.map_append]; rfl
      obtain ⟨tb, htb⟩ : ∃ t, oGe (torqG G (k : Int) s) l = t := ⟨_, rfl⟩
      have HP0 := Lib.hid (show tb = false → LgP G s l (pre ++ [(⟨k, hk⟩ : GtP)]) from fun h => by
        unfold LgP
        rw [hmp]
        intro i hi
        rcases List.mem_append.1 hi with h1 | h1
        · exact hall i h1
        · rw [List.mem_singleton] at h1; rw [h1, htb, h])
      have HP1 := Lib.hid (show tb = true → ∀ W, LgI w W (w.heap.size + 1) l (w.heap.size + 1 + 1) (w.heap.size + 1 + 1 + 1) (k : Int) 0 → LgJ G s l w (w.heap.size + 1) (w.heap.size + 1 + 1) (w.heap.size + 1 + 1 + 1) (pre ++ [(⟨k, hk⟩ : GtP)]) W from fun h W hW => ⟨List.map (fun x : GtP => x.1) pre, k, hmp, hall, htb.trans h, hW⟩)
      have HI := Lib.hid hI
      have cl := hI.l.cell; have ca := hI.a.cell; have cb := hI.b.cell
      have fa := hI.a.frozen; have fb := hI.b.frozen
      have TG := Lib.hid (tf_geG htb)
      clear hmp hI hall htb hseq
      generalize torqG G (k : Int) s = t1 at *
      cases tb
      · obtain ⟨g1, g2, g3, g4⟩ := TG.out.2 rfl
        gi_wp2
        exact ⟨KeepsFrom.refl _ _, Keep.refl _ _ _, HI.out, hsW, HP0.out (by trivial)⟩
      · obtain ⟨g1, g2, g3⟩ := TG.out.1 rfl
        gi_wp2
        have n1 : w.heap.size + 1 ≠ w.heap.size + 1 + 1 := by omega
        have n2 : w.heap.size + 1 ≠ w.heap.size + 1 + 1 + 1 := by omega
        exact ⟨((KeepsOthers.setCell _ _ _).trans (KeepsOthers.setCell _ _ _)).from _, (by trivial), HP1.out (by trivial) _ ⟨bx_otherG (bx_otherG HI.out.l n1) n2, bx_otherG (HI.out.a.set _) (by omega), (bx_otherG HI.out.b (by omega)).set _, (HI.out.h.setCell (p := ⟨w.heap.size + 1 + 1, 0, none⟩) (by show w.heap.size ≤ w.heap.size + 1 + 1; omega) _).setCell (p := ⟨w.heap.size + 1 + 1 + 1, 0, none⟩) (by show w.heap.size ≤ w.heap.size + 1 + 1 + 1; omega) _⟩⟩
    case done =>
      rintro D xs W hD hS ⟨hI, _, hall⟩ hK
      unfold LgP at hall
      rw [hS] at hall
      have hR := HN.out (fun i hi => hall i (List.mem_range.2 hi))
      have hz := SenAt.on HZ.out (by rfl) hI.h
      have g4 := hz.1.2.2.2.2.cell
      have ca := hI.a.cell; have cb := hI.b.cell
      have fa := hI.a.frozen; have fb := hI.b.frozen
      have HI := Lib.hid hI; have HK := Lib.hid hK; have HR := Lib.hid hR; have ZZ := Lib.hid hz
      clear hI hK hseq hall hS hR hz
      gi_wp2_with fail
      refine ⟨trivial, ?_⟩
      refine (callsIn_wide.2 (codeOf_4 Z _ ZZ.out)).mono ?_
      rintro e w3 ⟨rfl, rfl⟩
      gi_wp2
      have n1 : w.heap.size + 1 + 1 ≠ w.heap.size + 1 + 1 + 1 := by omega
      have e6 : Boxed ((w3.setCell ⟨w.heap.size + 1 + 1, 0, none⟩ (.int .i64 0)).setCell ⟨w.heap.size + 1 + 1 + 1, 0, none⟩ (.int .i64 6)) (w.heap.size + 1 + 1) 2 (.int .i64 0) := bx_otherG (HI.out.a.set _) n1
      have e7 : Boxed ((w3.setCell ⟨w.heap.size + 1 + 1, 0, none⟩ (.int .i64 0)).setCell ⟨w.heap.size + 1 + 1 + 1, 0, none⟩ (.int .i64 6)) (w.heap.size + 1 + 1 + 1) 2 (.int .i64 6) := (bx_otherG HI.out.b (Ne.symm n1)).set _
      have e8 : Below w.heap.size w ((w3.setCell ⟨w.heap.size + 1 + 1, 0, none⟩ (.int .i64 0)).setCell ⟨w.heap.size + 1 + 1 + 1, 0, none⟩ (.int .i64 6)) := (HI.out.h.setCell (p := ⟨w.heap.size + 1 + 1, 0, none⟩) (by show w.heap.size ≤ w.heap.size + 1 + 1; omega) _).setCell (p := ⟨w.heap.size + 1 + 1 + 1, 0, none⟩) (by show w.heap.size ≤ w.heap.size + 1 + 1 + 1; omega) _
      have e9 := ((KeepsOthers.setCell w3 ⟨w.heap.size + 1 + 1, 0, none⟩ (.int .i64 0)).trans (KeepsOthers.setCell _ ⟨w.heap.size + 1 + 1 + 1, 0, none⟩ (.int .i64 6))).same D _ HK.out rfl
      refine ⟨by simp, .inl ⟨_, _, rfl, run_takeDeferred e9, ?_⟩⟩
      refine ⟨_, ret_c2 Tryd.results33 rfl rfl (bx_put e6 e9 rfl) (bx_put e7 e9 rfl), ?_, e8.trans (belowK_b (w := w) (Nat.le_refl _) _ D _ _ (by omega) e9 rfl rfl)⟩
      rw [HR.out]
    case stop =>
      rintro D cd pre W hD hS ⟨rfl, ks, k, h1, h2, h3, hI⟩ hK
      rw [h1] at hS
      obtain ⟨hk, rfl⟩ := pre_last hS
      have hR := HL.out k (by omega) (fun i hi => h2 i (List.mem_range.2 hi)) h3
      have HI := Lib.hid hI; have HK := Lib.hid hK; have HR := Lib.hid hR
      clear hI hK hseq h1 h2 h3 hR hS
      gi_wp2
      refine ⟨by simp, .inl ⟨_, _, rfl, run_takeDeferred HK.out, ?_⟩⟩
      refine ⟨_, ret_c2 Tryd.results33 rfl rfl (bx_put HI.out.a HK.out rfl) (bx_put HI.out.b HK.out rfl), ?_, HI.out.h.trans (belowK_b (w := w) (Nat.le_refl _) W D _ _ (by omega) HK.out rfl rfl)⟩
      rw [HR.out]
  · have hk : okG G = false := by
      unfold gtK at hK
      rcases Bool.eq_false_or_eq_true (okG G) with h1 | h1
      · rw [h1] at hK; rcases Bool.eq_false_or_eq_true (spB s && psB l) with h2 | h2 <;> simp [h2] at hK
      · exact h1
    have hV : gateV Z G s l = .iface 174 (.pointer (some Z.a0)) := by unfold gateV; rw [hk]; rfl
    have hbg : lgR G s l = (0, gtK G s l) := by unfold lgR; rw [hK]; rfl
    rw [hV] at hE
    rw [hbg, hK]
    have HE := Lib.hid hE
    clear hK hV hE hbg hk
    refine (callsIn_wide (n := 9)).1 ?_
    refine callsIn_of_wp_marks Tryd.func33 rfl trivial ?_ rfl
    simp only [Tryd.ntmps33, List.size_toArray, List.length_cons, List.length_nil, Nat.reduceAdd, Nat.reduceSub, Array.replicate_succ, Array.replicate_zero, List.push_toArray, List.append_toArray, List.nil_append, List.cons_append]
    obtain ⟨c0, c1, c2, c3, c4, c5, c6, c7⟩ := k0.cells; have cl := kl.cell; clear k0 kl
    gi_wp2_with fail
    refine ⟨trivial, ?_⟩
    refine (callsIn_wide.2 HE.out).mono ?_
    rintro e w1 ⟨rfl, b1⟩
    have B1 : Hid (Below w.heap.size w w1) := Lib.hid (b_then B2.out b1)
    have Q6 := Lib.hid (bx_underG K6.out b1)
    have Q7 := Lib.hid (bx_underG K7.out b1)
    have ca := Q6.out.cell; have cb := Q7.out.cell; have fa := Q6.out.frozen; have fb := Q7.out.frozen
    have Z1 : Hid (SenAt w1 Z) := Lib.hid (SenAt.on HZ.out (by rfl) B1.out)
    clear c0 c1 c2 c3 c4 c5 c6 c7 cl b1
    gi_wp2_with fail
    refine ⟨trivial, ?_⟩
    refine (callsIn_wide.2 (codeOf_0 Z _ Z1.out)).mono ?_
    rintro e w2 ⟨rfl, rfl⟩
    gi_wp2
    have n1 : w.heap.size + 1 + 1 ≠ w.heap.size + 1 + 1 + 1 := by omega
    exact ⟨_, ret_c2 Tryd.results33 rfl rfl (bx_otherG (Q6.out.set _) n1) ((bx_otherG Q7.out (Ne.symm n1)).set _), rfl, (B1.out.setCell (p := ⟨w.heap.size + 1 + 1, 0, none⟩) (by show w.heap.size ≤ w.heap.size + 1 + 1; omega) _).setCell (p := ⟨w.heap.size + 1 + 1 + 1, 0, none⟩) (by show w.heap.size ≤ w.heap.size + 1 + 1 + 1; omega) _⟩
  · have hk : okG G = true ∧ (spB s && psB l) = false := by
      unfold gtK at hK
      rcases Bool.eq_false_or_eq_true (okG G) with h1 | h1 <;> rcases Bool.eq_false_or_eq_true (spB s && psB l) with h2 | h2 <;> simp [h1, h2] at hK
      exact ⟨h1, h2⟩
    have hV : gateV Z G s l = .iface 174 (.pointer (some Z.a1)) := by unfold gateV; rw [hk.1, hk.2]; rfl
    have hbg : lgR G s l = (0, gtK G s l) := by unfold lgR; rw [hK]; rfl
    rw [hV] at hE
    rw [hbg, hK]
    have HE := Lib.hid hE
    clear hK hV hE hbg hk
    refine (callsIn_wide (n := 9)).1 ?_
    refine callsIn_of_wp_marks Tryd.func33 rfl trivial ?_ rfl
    simp only [Tryd.ntmps33, List.size_toArray, List.length_cons, List.length_nil, Nat.reduceAdd, Nat.reduceSub, Array.replicate_succ, Array.replicate_zero, List.push_toArray, List.append_toArray, List.nil_append, List.cons_append]
    obtain ⟨c0, c1, c2, c3, c4, c5, c6, c7⟩ := k0.cells; have cl := kl.cell; clear k0 kl
    gi_wp2_with fail
    refine ⟨trivial, ?_⟩
    refine (callsIn_wide.2 HE.out).mono ?_
    rintro e w1 ⟨rfl, b1⟩
    have B1 : Hid (Below w.heap.size w w1) := Lib.hid (b_then B2.out b1)
    have Q6 := Lib.hid (bx_underG K6.out b1)
    have Q7 := Lib.hid (bx_underG K7.out b1)
    have ca := Q6.out.cell; have cb := Q7.out.cell; have fa := Q6.out.frozen; have fb := Q7.out.frozen
    have Z1 : Hid (SenAt w1 Z) := Lib.hid (SenAt.on HZ.out (by rfl) B1.out)
    clear c0 c1 c2 c3 c4 c5 c6 c7 cl b1
    gi_wp2_with fail
    refine ⟨trivial, ?_⟩
    refine (callsIn_wide.2 (codeOf_1 Z _ Z1.out)).mono ?_
    rintro e w2 ⟨rfl, rfl⟩
    gi_wp2
    have n1 : w.heap.size + 1 + 1 ≠ w.heap.size + 1 + 1 + 1 := by omega
    exact ⟨_, ret_c2 Tryd.results33 rfl rfl (bx_otherG (Q6.out.set _) n1) ((bx_otherG Q7.out (Ne.symm n1)).set _), rfl, (B1.out.setCell (p := ⟨w.heap.size + 1 + 1, 0, none⟩) (by show w.heap.size ≤ w.heap.size + 1 + 1; omega) _).setCell (p := ⟨w.heap.size + 1 + 1 + 1, 0, none⟩) (by show w.heap.size ≤ w.heap.size + 1 + 1 + 1; omega) _⟩
end Go.Proofs.YtjkgiknklkfipaaDoor
