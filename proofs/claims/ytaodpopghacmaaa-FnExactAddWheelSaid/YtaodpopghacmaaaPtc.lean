/-
  The best pair: the program's search.
-/
import Derived.Test.YtaodpopghacmaaaPtb
import Derived.RangeFuncBox
import Derived.Stop.RegionWithIn
namespace Go.Proofs.Ytaodpopghacmaaa
open Go.RowKit Go.ChangeShapes Go.WideShapes Go.Deep Go.Shelf
attribute [local go_sem] Oper.semAt_some
set_option linter.unusedVariables false
set_option linter.unusedSimpArgs false
/-- By how much a pair of wheels is off. -/
def offP (zs : List Int) (t : Nat) (p : Nat × Nat) : Nat := offC (quoT (zs.getD p.1 0) (zs.getD p.2 0)) t
theorem offP_num {zs : List Int} {t : Nat} (hz : TeZ zs) (ht : tgB t = true) {i j : Nat} (hi : i < zs.length) (hj : j < zs.length) : OffN (offP zs t (i, j)) ∧ cn (offP zs t (i, j)) = offP zs t (i, j) := by
  obtain ⟨a1, a2⟩ := hz.2 _ _ (List.getElem?_eq_getElem hi)
  obtain ⟨b1, b2⟩ := hz.2 _ _ (List.getElem?_eq_getElem hj)
  unfold offP
  dsimp only
  rw [getD_of (List.getElem?_eq_getElem hi), getD_of (List.getElem?_eq_getElem hj)]
  exact off_facts (quoT_rg a1 a2 b1 b2) ht
theorem bx_new {k : Nat} {t : TypeId} {v : Value} (W : World) (_ : Nat) (h : W.heap.size = k) : Boxed (W.alloc (.cells #[v] t)) k t v := by subst h; exact Boxed.new W t v
theorem bx_under {W W' : World} {B : Nat} {t : TypeId} {v : Value} (h : Boxed W B t v) (hb : Below W.heap.size W W') : Boxed W' B t v := (hb.block B h.lt).trans h
/-- What the search has in its boxes. -/
structure BpI (w W : World) (S : Nat) (A : Option Addr) (n c t : Nat) (s : (Nat × Nat) × Nat) : Prop where
  a : Boxed W S 22 (.slice A n c)
  b : Boxed W (S + 1) 23 (.float .f32 t)
  c : Boxed W (S + 1 + 1) 47 (.int .i16 (s.1.1 : Int))
  d : Boxed W (S + 1 + 1 + 1) 47 (.int .i16 (s.1.2 : Int))
  e : Boxed W (S + 1 + 1 + 1 + 1) 23 (.float .f32 s.2)
  h : Below w.heap.size w W
theorem BpI.own (w : World) (B S : Nat) (A : Option Addr) (n c t : Nat) (hB : w.heap.size ≤ B) {β : Type} (f : β → (Nat × Nat) × Nat) : OwnFrom B (fun (x : β) W => BpI w W S A n c t (f x)) := by
  intro s W W' row hs hg hr
  have k : ∀ {q : Nat} {t : TypeId} {v : Value}, Boxed W q t v → Boxed W' q t v := fun {q t v} hb => hb.kept hg (fun e => by
    obtain ⟨_, o, ho, hc⟩ := hr q e.symm
    rw [show W.heap[q]? = _ from hb] at ho
    cases ho; cases hc)
  exact ⟨k hs.a, k hs.b, k hs.c, k hs.d, k hs.e, hs.h.grown hg hs.h.size (fun j e => Nat.le_trans hB (hr j e).1)⟩
theorem bx_other {W : World} {B q i : Nat} {t : TypeId} {v x : Value} (h : Boxed W B t v) (hne : B ≠ q) : Boxed (W.setCell ⟨q, i, none⟩ x) B t v := (Below.heap_setCell W ⟨q, i, none⟩ x B hne).trans h
theorem BpI.under {w W W' : World} {S : Nat} {A : Option Addr} {n c t : Nat} {s : (Nat × Nat) × Nat} (h : BpI w W S A n c t s) (hb : Below W.heap.size W W') : BpI w W' S A n c t s :=
  ⟨bx_under h.a hb, bx_under h.b hb, bx_under h.c hb, bx_under h.d hb, bx_under h.e hb, b_then h.h hb⟩
theorem BpI.store {w W : World} {S : Nat} {A : Option Addr} {n c t : Nat} {s : (Nat × Nat) × Nat} (h : BpI w W S A n c t s) (hS : w.heap.size ≤ S) (i j z : Nat) :
    BpI w (((W.setCell ⟨S + 1 + 1, 0, none⟩ (.int .i16 (i : Int))).setCell ⟨S + 1 + 1 + 1, 0, none⟩ (.int .i16 (j : Int))).setCell ⟨S + 1 + 1 + 1 + 1, 0, none⟩ (.float .f32 z)) S A n c t ((i, j), z) := by
  refine ⟨?_, ?_, ?_, ?_, ?_, ?_⟩
  · exact bx_other (bx_other (bx_other h.a (by omega)) (by omega)) (by omega)
  · exact bx_other (bx_other (bx_other h.b (by omega)) (by omega)) (by omega)
  · exact bx_other (bx_other (h.c.set _) (by omega)) (by omega)
  · exact bx_other ((bx_other h.d (by omega)).set _) (by omega)
  · exact (bx_other (bx_other h.e (by omega)) (by omega)).set _
  · exact ((h.h.setCell (p := ⟨S + 1 + 1, 0, none⟩) (by show w.heap.size ≤ S + 1 + 1; omega) _).setCell (p := ⟨S + 1 + 1 + 1, 0, none⟩) (by show w.heap.size ≤ S + 1 + 1 + 1; omega) _).setCell (p := ⟨S + 1 + 1 + 1 + 1, 0, none⟩) (by show w.heap.size ≤ S + 1 + 1 + 1 + 1; omega) _
theorem keepsO_below {W W' : World} (h : Below W.heap.size W W') : KeepsOthers W W' := KeepsOthers.of_grownBy (grown_of_below h none) (fun j o e => by cases e)
theorem Keep.set {m : Nat} {x : Nat → Prop} {W : World} {q : Nat} (hx : x q) (v : Value) : Keep m x W (W.setCell ⟨q, 0, none⟩ v) :=
  ⟨by simp [World.setCell], fun k _ hk => Below.heap_setCell W ⟨q, 0, none⟩ v k (fun e => hk (by rw [e]; exact hx))⟩
theorem ret_bp {fn : Func} {tmps : Array Value} {W : World} {a b d s1 s2 s3 : Nat} {x y z : Value} (hr : fn.results = #[.cell s1 47, .cell s2 47, .cell s3 23])
    (h1 : tmps.getD s1 undef = .pointer (some ⟨a, 0, none⟩)) (h2 : tmps.getD s2 undef = .pointer (some ⟨b, 0, none⟩)) (h3 : tmps.getD s3 undef = .pointer (some ⟨d, 0, none⟩))
    (k1 : Boxed W a 47 x) (k2 : Boxed W b 47 y) (k3 : Boxed W d 23 z) : (results fn tmps).run Try.prog W = .ok (.tuple #[x, y, z]) W := by
  have e0 := k1.cell; have e1 := k2.cell; have e2 := k3.cell
  rw [Array.getD_eq_getD_getElem?] at h1 h2 h3
  simp [results, hr, h1, h2, h3, go_sem, e0, e1, e2]
set_option maxRecDepth 100000 in
set_option maxHeartbeats 4000000 in
theorem bestPair_any (A : Option Addr) (n c : Nat) (zs : List Int) (t : Nat) (w : World) (hl : zs.length = n) (hz : TeZ zs) (ht : tgB t = true) (hT : Ii w w.heap.size A zs) :
    Calls Try.prog 59 #[.slice A n c, .float .f32 t] w (RV (.tuple #[.int .i16 ((bestF (offP zs t) (prU n n 0) ((0, 0), 2139095039)).1.1 : Int), .int .i16 ((bestF (offP zs t) (prU n n 0) ((0, 0), 2139095039)).1.2 : Int), .float .f32 (bestF (offP zs t) (prU n n 0) ((0, 0), 2139095039)).2]) w) := by
  have hlen := hz.1
  rw [hl] at hlen
  obtain ⟨hn2, hn24⟩ := hlen
  refine (callsIn_wide (n := 9)).1 ?_
  refine callsIn_of_wp_marks Try.func59 rfl trivial ?_ rfl
  simp only [Try.ntmps59, List.size_toArray, List.length_cons, List.length_nil, Nat.reduceAdd, Nat.reduceSub, Array.replicate_succ, Array.replicate_zero, List.push_toArray, List.append_toArray, List.nil_append, List.cons_append]
  gi_wp2
  refine ⟨trivial, ?_⟩
  refine (pairs_in 8 A n c hn24 _).mono ?_
  rintro e w' ⟨rfl, rfl⟩
  gi_wp2
  obtain ⟨W0, hW0⟩ : ∃ W0, (((((w.alloc (.cells #[.slice A n c] 22)).alloc (.cells #[.float .f32 t] 23)).alloc (.cells #[.int .i16 0] 47)).alloc (.cells #[.int .i16 0] 47)).alloc (.cells #[.float .f32 2139095039] 23)).alloc (.cells #[.int .i16 (n : Int)] 47) = W0 := ⟨_, rfl⟩
  have hsz : W0.heap.size = w.heap.size + 6 := by rw [← hW0]; simp
  have hI0 : BpI w W0 w.heap.size A n c t ((0, 0), 2139095039) := by
    rw [← hW0]
    refine ⟨?_, ?_, ?_, ?_, ?_, b_alloc (b_alloc (b_alloc (b_alloc (b_alloc (b_alloc (Below.refl _ _) _) _) _) _) _) _⟩
    · exact (((((Boxed.new w _ _).alloc _).alloc _).alloc _).alloc _).alloc _
    · exact ((((bx_new _ 0 (by simp)).alloc _).alloc _).alloc _).alloc _
    · exact (((bx_new _ 0 (by simp)).alloc _).alloc _).alloc _
    · exact ((bx_new _ 0 (by simp)).alloc _).alloc _
    · exact (bx_new _ 0 (by simp)).alloc _
  have k5 : W0.heap[w.heap.size + 1 + 1 + 1 + 1 + 1]? = some (.cells #[.int .i16 (n : Int)] 47 (0, 0)) := by
    rw [← hW0]
    exact bx_new (t := 47) (v := .int .i16 (n : Int)) _ 0 (by simp)
  simp only [hW0]
  clear hW0
  have hseq := pairs_stops 8 n hn24 (w.heap.size + 6) (fun k => k = w.heap.size + 1 + 1 ∨ k = w.heap.size + 1 + 1 + 1 ∨ k = w.heap.size + 1 + 1 + 1 + 1) W0 hsz (w.heap.size + 1 + 1 + 1 + 1 + 1) k5 (by show ¬ (_ ∨ _ ∨ _); omega) (by omega)
  clear k5
  have hoff : ∀ p ∈ prU n n 0, OffN (offP zs t p) := fun p hp => by
    obtain ⟨h1, h2, _⟩ := prU_mem hp
    exact (offP_num hz ht (by rw [hl]; exact h1) (by rw [hl]; exact h2)).1
  have HF := Lib.hid hoff
  have Hoff := Lib.hid (fun i j (hi : i < n) (hj : j < n) => offP_num hz ht (i := i) (j := j) (by rw [hl]; exact hi) (by rw [hl]; exact hj))
  have Hte := Lib.hid (fun i (hi : i < n) => (show zs[i]? = some (zs.getD i 0) ∧ 6 ≤ zs.getD i 0 ∧ zs.getD i 0 ≤ 200 from by
    have h1 : zs[i]? = some zs[i] := List.getElem?_eq_getElem (by rw [hl]; exact hi)
    rw [getD_of h1]
    exact ⟨h1, hz.2 _ _ h1⟩))
  have HOD : Hid (∀ i j, offC (quoT (zs.getD i 0) (zs.getD j 0)) t = offP zs t (i, j)) := Lib.hid (fun i j => rfl)
  have Hl := Lib.hid hl
  have HT := Lib.hid hT
  clear hoff hT hl hz ht
  generalize offP zs t = off at *
  refine wpIn_rangeFunc_ownF (α := TwP n) rfl (by omega) (gf := 87) (lb := #[.pointer (some ⟨w.heap.size + 1 + 1 + 1 + 1 + 1, 0, none⟩)]) rfl trivial (enters_of Try.func87 (by kernel_rfl) rfl)
    hseq Keep.trans (fun W l o o' hle ho hc hwk => keep_b W o o' (by omega) ho) (Below.refl _ _) (fun _ => rfl)
    (fun pre W => BpI w W w.heap.size A n c t (bestF off (pre.map (·.1)) ((0, 0), 2139095039)) ∧ w.heap.size + 6 ≤ W.heap.size)
    (fun cd pre W => BpI w W w.heap.size A n c t (bestF off (pre.map (·.1)) ((0, 0), 2139095039)) ∧ (oEq (bestF off (pre.map (·.1)) ((0, 0), 2139095039)).2 0 = true ∧ cd = .exit 0))
    (OwnFrom.and (BpI.own w _ _ A n c t (by omega) _) (fun _ _ _ _ hs hg _ => Nat.le_trans hs hg.size))
    (fun cd => OwnFrom.and (BpI.own w _ _ A n c t (by omega) _) (ownFrom_pure _ (fun pre : List (TwP n) => oEq (bestF off (pre.map (·.1)) ((0, 0), 2139095039)).2 0 = true ∧ cd = .exit 0)))
    ⟨hI0, by omega⟩
    (fun x => { tmps := #[.slice A n c, .float .f32 t, .pointer (some ⟨w.heap.size, 0, none⟩), .pointer (some ⟨w.heap.size + 1, 0, none⟩), .pointer (some ⟨w.heap.size + 1 + 1, 0, none⟩), .pointer (some ⟨w.heap.size + 1 + 1 + 1, 0, none⟩), .pointer (some ⟨w.heap.size + 1 + 1 + 1 + 1, 0, none⟩), .int .i16 (x.1.1 : Int), .int .i16 (x.1.2 : Int), undef, .slice A n c, .func (.func 87) #[] #[.pointer (some ⟨w.heap.size + 1 + 1 + 1 + 1 + 1, 0, none⟩)], .int .i16 (x.1.1 : Int), .int .i16 (x.1.2 : Int), undef, undef, undef, undef, undef, undef, undef, undef, undef, undef, undef, undef, undef, undef, undef, undef, undef, undef], defers := [] }) ?assign ?body ?done ?stop
  case assign =>
    intro l y W K hK
    gi_wp2
    exact hK
  case body =>
    rintro l pre ⟨⟨i, j⟩, hi, hj, hij⟩ W ⟨hI, h6⟩ _
    have HW6 := Lib.hid h6
    clear h6
    have ba := hI.a.cell; have bb := hI.b.cell; have bc := hI.c.cell; have bd := hI.d.cell; have be := hI.e.cell
    have HI := Lib.hid hI
    obtain ⟨e1, x1, x2⟩ := Hte.out i hi
    obtain ⟨e2, y1, y2⟩ := Hte.out j hj
    have HE1 := Lib.hid e1; have HE2 := Lib.hid e2
    have HD := Lib.hid (HOD.out i j)
    have HN := Lib.hid (Hoff.out i j hi hj)
    clear hI e1 e2
    generalize zs.getD i 0 = xi at *
    generalize zs.getD j 0 = xj at *
    gi_wp2_with fail
    refine wpIn_mono (Q := fun e a' w3 => e = .normal ∧ ∃ r : Nat, a' = { tmps := #[.slice A n c, .float .f32 t, .pointer (some ⟨w.heap.size, 0, none⟩), .pointer (some ⟨w.heap.size + 1, 0, none⟩), .pointer (some ⟨w.heap.size + 1 + 1, 0, none⟩), .pointer (some ⟨w.heap.size + 1 + 1 + 1, 0, none⟩), .pointer (some ⟨w.heap.size + 1 + 1 + 1 + 1, 0, none⟩), .int .i16 (i : Int), .int .i16 (j : Int), .float .f32 r, .slice A n c, .func (.func 87) #[] #[.pointer (some ⟨w.heap.size + 1 + 1 + 1 + 1 + 1, 0, none⟩)], .int .i16 (i : Int), .int .i16 (j : Int), .slice A n c, .int .i16 (i : Int), .int .i16 (j : Int), .agg #[.int .i16 xi, .int .i16 xj, .float .f32 0], .float .f32 (quoT xi xj), .float .f32 t, .float .f32 r, undef, undef, undef, undef, undef, undef, undef, undef, undef, undef, undef], defers := [] } ∧ CN r (offC (quoT xi xj) t) ∧ Below W.heap.size W w3) ?_ ?_
    case refine_1 =>
      gi_region_with (first
        | (refine ⟨trivial, ?_⟩; gi_at_call 55; refine (CallsIn.inRound l (callsIn_wide.2 (pairIn_any A n c i j zs xi xj _ Hl.out HE1.out HE2.out (by omega) (by first | exact (HT.out.keep HI.out.h).keep (b_drew (Below.refl _ _)) | exact (HT.out.keep HI.out.h))))).mono ?_; rintro e w1 ⟨rfl, q1⟩; have Q1 := Lib.hid (b_then (b_drew (Below.refl W.heap.size W)) q1); clear q1; have bb1 := (bx_under HI.out.b Q1.out).cell)
        | (refine ⟨trivial, ?_⟩; gi_at_call 56; refine (CallsIn.inRound l (callsIn_wide.2 (forward_any x1 x2 y1 y2 0 _))).mono ?_; rintro e w2 ⟨rfl, q2⟩; have Q2 := Lib.hid (b_then Q1.out q2); clear q2; have bb2 := (bx_under HI.out.b Q2.out).cell)
        | (refine ⟨trivial, ?_⟩; gi_at_call 54; refine (CallsIn.inRound l (callsIn_wide.2 (implOff_any _ _ _))).mono ?_; rintro e w3 ⟨r, rfl, hr, q3⟩; have Q3 := Lib.hid (b_then Q2.out q3); have HR := Lib.hid hr; clear q3 hr))
      all_goals exact ⟨rfl, r, rfl, HR.out, Q3.out⟩
    case refine_2 =>
      rintro e a' w3 ⟨rfl, r, rfl, hr, q3⟩
      have hr : r = off (i, j) := cn_eq_fix (hr.trans HD.out) HN.out.1.1
      subst hr
      have I3 := Lib.hid (HI.out.under q3)
      have KO := Lib.hid (keepsO_below q3)
      have hWs : w.heap.size + 5 ≤ W.heap.size := by have := HI.out.e.lt; omega
      have KK : Hid (Keep (w.heap.size + 6) (fun k => k = w.heap.size + 1 + 1 ∨ k = w.heap.size + 1 + 1 + 1 ∨ k = w.heap.size + 1 + 1 + 1 + 1) W w3) := Lib.hid (Keep.below (q3.mono HW6.out))
      have hsn : bestF off ((pre ++ [(⟨(i, j), hi, hj, hij⟩ : TwP n)]).map (·.1)) ((0, 0), 2139095039) = bstep off (bestF off (pre.map (·.1)) ((0, 0), 2139095039)) (i, j) := by rw [List.map_append]; exact bestF_snoc _ _ _ _
      have HN2 := HN.out.1
      clear HN HD HE1 HE2 ba bb bc bd be
      generalize bestF off (pre.map (·.1)) ((0, 0), 2139095039) = st at *
      obtain ⟨⟨p, q⟩, z0⟩ := st
      generalize hz : off (i, j) = z at *
      have bc := I3.out.c.cell; have bd := I3.out.d.cell; have be := I3.out.e.cell
      have fc := I3.out.c.frozen; have fd := I3.out.d.frozen; have fe := I3.out.e.frozen
      have Hsn := Lib.hid hsn
      clear hsn
      dsimp only at bc bd be
      cases hlt : oLt z z0
      · have t1 := (tf_lt hlt).2 rfl
        have Hs2 : Hid (bestF off ((pre ++ [(⟨(i, j), hi, hj, hij⟩ : TwP n)]).map (·.1)) ((0, 0), 2139095039) = ((p, q), z0)) := Lib.hid (by rw [Hsn.out]; unfold bstep; rw [hz, hlt]; rfl)
        clear hlt
        cases heq : oEq z0 0
        · have t2 := (tf_eq heq).2 rfl
          gi_wp2
          exact ⟨KO.out, KK.out, by rw [Hs2.out]; exact I3.out, by have := q3.size; have := HW6.out; omega⟩
        · have t2 := (tf_eq heq).1 rfl
          gi_wp2
          exact ⟨KO.out, by rw [Hs2.out]; exact I3.out, by rw [Hs2.out]; exact heq, rfl⟩
      · have t1 := (tf_lt hlt).1 rfl
        have Hs2 : Hid (bestF off ((pre ++ [(⟨(i, j), hi, hj, hij⟩ : TwP n)]).map (·.1)) ((0, 0), 2139095039) = ((i, j), z)) := Lib.hid (by rw [Hsn.out]; unfold bstep; rw [hz, hlt]; rfl)
        clear hlt
        cases heq : oEq z 0
        · have t2 := (tf_eq heq).2 rfl
          gi_wp2
          exact ⟨((KO.out.trans (KeepsOthers.setCell _ _ _)).trans (KeepsOthers.setCell _ _ _)).trans (KeepsOthers.setCell _ _ _), ((KK.out.trans (Keep.set (Or.inl rfl) _)).trans (Keep.set (Or.inr (Or.inl rfl)) _)).trans (Keep.set (Or.inr (Or.inr rfl)) _), by rw [Hs2.out]; exact I3.out.store (Nat.le_refl _) i j z, by have := q3.size; have := HW6.out; simp [World.setCell]; omega⟩
        · have t2 := (tf_eq heq).1 rfl
          gi_wp2
          exact ⟨((KO.out.trans (KeepsOthers.setCell _ _ _)).trans (KeepsOthers.setCell _ _ _)).trans (KeepsOthers.setCell _ _ _), by rw [Hs2.out]; exact I3.out.store (Nat.le_refl _) i j z, by rw [Hs2.out]; exact heq, rfl⟩
  case done =>
    rintro D ys W hD hS ⟨hI, _⟩ hK
    rw [hS] at hI
    generalize bestF off (prU n n 0) ((0, 0), 2139095039) = R at *
    obtain ⟨⟨p, q⟩, z0⟩ := R
    have bc := hI.c.cell; have bd := hI.d.cell; have be := hI.e.cell
    have fc := hI.c.frozen; have fd := hI.d.frozen; have fe := hI.e.frozen
    have HI := Lib.hid hI; have HK := Lib.hid hK
    clear hI hK
    dsimp only at bc bd be
    gi_wp2
    refine wpIn_mono (Q := fun e a' w3 => e = .normal ∧ a' = { tmps := #[.slice A n c, .float .f32 t, .pointer (some ⟨w.heap.size, 0, none⟩), .pointer (some ⟨w.heap.size + 1, 0, none⟩), .pointer (some ⟨w.heap.size + 1 + 1, 0, none⟩), .pointer (some ⟨w.heap.size + 1 + 1 + 1, 0, none⟩), .pointer (some ⟨w.heap.size + 1 + 1 + 1 + 1, 0, none⟩), undef, undef, undef, .slice A n c, .func (.func 87) #[] #[.pointer (some ⟨w.heap.size + 1 + 1 + 1 + 1 + 1, 0, none⟩)], undef, undef, undef, undef, undef, undef, undef, undef, undef, undef, undef, undef, undef, undef, undef, undef, undef, .int .i16 (p : Int), .int .i16 (q : Int), .float .f32 z0], defers := [{ target := .collected D, args := #[] }] } ∧ BpI w w3 w.heap.size A n c t ((p, q), z0) ∧ w3.heap[D]? = some (.deferred (some []))) ?_ ?_
    case refine_1 =>
      have H1 : Hid (BpI w ((((W.setCell ⟨w.heap.size + 1 + 1, 0, none⟩ (.int .i16 (p : Int))).setCell ⟨w.heap.size + 1 + 1 + 1, 0, none⟩ (.int .i16 (q : Int))).setCell ⟨w.heap.size + 1 + 1 + 1 + 1, 0, none⟩ (.float .f32 z0)).drew) w.heap.size A n c t ((p, q), z0)) := Lib.hid ((HI.out.store (Nat.le_refl _) p q z0).under (b_drew (Below.refl _ _)))
      have H2 : Hid (((((W.setCell ⟨w.heap.size + 1 + 1, 0, none⟩ (.int .i16 (p : Int))).setCell ⟨w.heap.size + 1 + 1 + 1, 0, none⟩ (.int .i16 (q : Int))).setCell ⟨w.heap.size + 1 + 1 + 1 + 1, 0, none⟩ (.float .f32 z0)).drew).heap[D]? = some (.deferred (some []))) := Lib.hid ((((KeepsOthers.setCell W ⟨w.heap.size + 1 + 1, 0, none⟩ (.int .i16 (p : Int))).trans (KeepsOthers.setCell _ ⟨w.heap.size + 1 + 1 + 1, 0, none⟩ (.int .i16 (q : Int)))).trans (KeepsOthers.setCell _ ⟨w.heap.size + 1 + 1 + 1 + 1, 0, none⟩ (.float .f32 z0))).same D _ HK.out rfl)
      gi_region_with (fail)
      all_goals exact ⟨rfl, rfl, H1.out, H2.out⟩
    case refine_2 =>
      rintro e a' w3 ⟨rfl, rfl, h3, hK⟩
      have h4 := (BpI.own w w.heap.size w.heap.size A n c t (Nat.le_refl _) (fun _ : Unit => ((p, q), z0))).putObj (s := ()) (.deferred none) h3 (by omega) hK rfl
      gi_wp2
      refine ⟨by simp, .inl ⟨_, _, rfl, run_takeDeferred hK, ?_⟩⟩
      exact ⟨_, ret_bp Try.results59 rfl rfl rfl h4.c h4.d h4.e, rfl, h4.h⟩
  case stop =>
    rintro D cd pre W hD hS ⟨hI, hz, rfl⟩ hK
    have hall := best_zero HF.out hS (s := ((0, 0), 2139095039)) hz
    rw [← hall] at hI
    generalize bestF off (prU n n 0) ((0, 0), 2139095039) = R at *
    obtain ⟨⟨p, q⟩, z0⟩ := R
    have bc := hI.c.cell; have bd := hI.d.cell; have be := hI.e.cell
    have fc := hI.c.frozen; have fd := hI.d.frozen; have fe := hI.e.frozen
    have HI := Lib.hid hI; have HK := Lib.hid hK
    clear hI hK
    dsimp only at bc bd be
    gi_wp2
    refine wpIn_mono (Q := fun e a' w3 => e = .normal ∧ a' = { tmps := #[.slice A n c, .float .f32 t, .pointer (some ⟨w.heap.size, 0, none⟩), .pointer (some ⟨w.heap.size + 1, 0, none⟩), .pointer (some ⟨w.heap.size + 1 + 1, 0, none⟩), .pointer (some ⟨w.heap.size + 1 + 1 + 1, 0, none⟩), .pointer (some ⟨w.heap.size + 1 + 1 + 1 + 1, 0, none⟩), undef, undef, undef, .slice A n c, .func (.func 87) #[] #[.pointer (some ⟨w.heap.size + 1 + 1 + 1 + 1 + 1, 0, none⟩)], undef, undef, undef, undef, undef, undef, undef, undef, undef, undef, undef, undef, undef, undef, undef, undef, undef, .int .i16 (p : Int), .int .i16 (q : Int), .float .f32 z0], defers := [{ target := .collected D, args := #[] }] } ∧ BpI w w3 w.heap.size A n c t ((p, q), z0) ∧ w3.heap[D]? = some (.deferred (some []))) ?_ ?_
    case refine_1 =>
      have H1 : Hid (BpI w ((((W.setCell ⟨w.heap.size + 1 + 1, 0, none⟩ (.int .i16 (p : Int))).setCell ⟨w.heap.size + 1 + 1 + 1, 0, none⟩ (.int .i16 (q : Int))).setCell ⟨w.heap.size + 1 + 1 + 1 + 1, 0, none⟩ (.float .f32 z0)).drew) w.heap.size A n c t ((p, q), z0)) := Lib.hid ((HI.out.store (Nat.le_refl _) p q z0).under (b_drew (Below.refl _ _)))
      have H2 : Hid (((((W.setCell ⟨w.heap.size + 1 + 1, 0, none⟩ (.int .i16 (p : Int))).setCell ⟨w.heap.size + 1 + 1 + 1, 0, none⟩ (.int .i16 (q : Int))).setCell ⟨w.heap.size + 1 + 1 + 1 + 1, 0, none⟩ (.float .f32 z0)).drew).heap[D]? = some (.deferred (some []))) := Lib.hid ((((KeepsOthers.setCell W ⟨w.heap.size + 1 + 1, 0, none⟩ (.int .i16 (p : Int))).trans (KeepsOthers.setCell _ ⟨w.heap.size + 1 + 1 + 1, 0, none⟩ (.int .i16 (q : Int)))).trans (KeepsOthers.setCell _ ⟨w.heap.size + 1 + 1 + 1 + 1, 0, none⟩ (.float .f32 z0))).same D _ HK.out rfl)
      gi_region_with (fail)
      all_goals exact ⟨rfl, rfl, H1.out, H2.out⟩
    case refine_2 =>
      rintro e a' w3 ⟨rfl, rfl, h3, hK⟩
      have h4 := (BpI.own w w.heap.size w.heap.size A n c t (Nat.le_refl _) (fun _ : Unit => ((p, q), z0))).putObj (s := ()) (.deferred none) h3 (by omega) hK rfl
      gi_wp2
      refine ⟨by simp, .inl ⟨_, _, rfl, run_takeDeferred hK, ?_⟩⟩
      exact ⟨_, ret_bp Try.results59 rfl rfl rfl h4.c h4.d h4.e, rfl, h4.h⟩
end Go.Proofs.Ytaodpopghacmaaa
