/-
  How far axles are apart.
-/
import Derived.Test.YtdfookgncokgjabMark
import Derived.Deep.AppendLies
import Derived.Deep.RegionLaw
import Derived.Deep.DrawnRows
namespace Go.Proofs.Ytdfookgncokgjab
open Go.RowKit Go.ChangeShapes Go.WideShapes Go.Deep
set_option linter.unusedVariables false
set_option linter.unusedSimpArgs false
theorem f32_fun (P : Program) (op : BinOp) (t : TypeId) (ha : arith op = true) : ∃ (R N : Nat → Nat → World → Nat), (∀ x y w, (binOp op t (.float .f32 x) (.float .f32 y)).run P w = .ok (.float .f32 (R x y w)) (w.drewN (N x y w))) ∧ ∀ x y w, cn (R x y w) = f2 op (cn x) (cn y) := by
  have H : ∀ q : Nat × Nat × World, ∃ rn : Nat × Nat, (binOp op t (.float .f32 q.1) (.float .f32 q.2.1)).run P q.2.2 = .ok (.float .f32 rn.1) (q.2.2.drewN rn.2) ∧ cn rn.1 = f2 op (cn q.1) (cn q.2.1) := fun q => by
    obtain ⟨r, n, h1, h2⟩ := run_f32 (P := P) q.2.2 op t q.1 q.2.1 ha
    exact ⟨(r, n), h1, h2⟩
  obtain ⟨F, hF⟩ := Classical.skolem.1 H
  exact ⟨fun x y w => (F (x, y, w)).1, fun x y w => (F (x, y, w)).2, fun x y w => (hF (x, y, w)).1, fun x y w => (hF (x, y, w)).2⟩
theorem own_base {w : World} {base : Nat} {e : TypeId} {size : Nat} {v : Value} {n : Nat} {xs : List Value} (h : w.ownsRow base e size v n xs) : ∀ k, v.ownBlock = some k → base ≤ k ∧ k < w.heap.size := fun k hk => by
  rcases h.2 with ⟨rfl, _⟩ | ⟨g, cap, cur, rfl, hb, hg, _⟩
  · cases hk
  · cases hk
    refine ⟨hb, ?_⟩
    rcases Nat.lt_or_ge g w.heap.size with hlt | hge
    · exact hlt
    · rw [Array.getElem?_eq_none hge] at hg; cases hg
theorem own_heap {w w' : World} {base : Nat} {e : TypeId} {size : Nat} {v : Value} {n : Nat} {xs : List Value} (hh : w'.heap = w.heap) (h : w.ownsRow base e size v n xs) : w'.ownsRow base e size v n xs := by
  unfold World.ownsRow at *
  rw [hh]
  exact h
theorem own_empty (w : World) (base : Nat) (e : TypeId) (size : Nat) (hb : base ≤ w.heap.size) : (w.alloc (.cells #[] e)).ownsRow base e size (.slice (some ⟨w.heap.size, 0, none⟩) 0 0) 0 [] :=
  ⟨by simp, .inr ⟨w.heap.size, 0, #[], rfl, hb, heap_alloc_new w _, Nat.le_refl _, Nat.zero_le _, by simp, by simp⟩⟩
theorem infoF32 : (Try.prog.info? 31).map (fun i => (i.zero, i.size, i.bytes)) = some (some (.float .f32 0), 1, 4) := by kernel_rfl
def distC (m : Nat) (p : Pr) : Nat := f2 .add (radC p.a m) (radC p.b m)
def distsC (m : Nat) (ps : List Pr) : List Nat := if okTr ps && modB m then ps.map (distC (cn m)) else []
def codeDist (ps : List Pr) (m : Nat) : Int := if okTr ps then (if modB m then 0 else 2) else 1
set_option maxRecDepth 100000 in
set_option maxHeartbeats 4000000 in
theorem implDist_any (A : Option Addr) (n c : Nat) (ps : List Pr) (m : Nat) (w : World) (hl : ps.length = n) (hn : n ≤ 1048576) (hT : Tr w w.heap.size A ps) (hw : ∀ p ∈ ps, p.wf) :
    Calls Try.prog 47 #[.slice A n c, .float .f32 m] w (FLC (distsC m ps) (codeDist ps m) w) := by
  obtain ⟨i0, hi, hz0, hz1, hz2⟩ := info_parts infoF32
  have Hl := Lib.hid hl; clear hl
  have HT := Lib.hid hT; clear hT
  have Hw := Lib.hid hw; clear hw
  unfold distsC codeDist
  rcases Bool.eq_false_or_eq_true (okTr ps) with h1 | h1
  · rcases Bool.eq_false_or_eq_true (modB m) with h2 | h2
    · simp only [h1, h2, if_true, Bool.and_self]
      have H1 := Lib.hid h1
      go_enter Try.func47, Try.ntmps47
      go_wp2_with fail
      refine (validTrain_any _ _ _ ps _ Hl.out hn HT.out Hw.out).mono ?_
      rintro e w1 ⟨rfl, b1⟩
      have B1 := Lib.hid b1; clear b1
      go_wp2_with fail
      refine (isModule_any _ _).mono ?_
      rintro e w2 ⟨rfl, rfl⟩
      go_wp2_with (at_make; refine wpList_make_own _ rfl _ _ 32 rfl w.heap.size 31 i0 _ 1 Try.underlying32 hi hz0 hz1 _ _ _ n rfl rfl rfl (by rw [hz2]; omega) (by unfold maxLen; omega) B1.out.size ?_)
      intro w2 hown hgrow
      have T2 : Hid (Tr w2 w.heap.size A ps) := (HT.out.below B1.out (Nat.le_refl _)).below (Below.grown (Below.refl _ _) hgrow B1.out.size (fun k h => by cases h)) (Nat.le_refl _)
      have B2 : Hid (Below w.heap.size w w2) := B1.out.grown hgrow B1.out.size (fun k h => by cases h)
      have Ho := Lib.hid hown; clear hown hgrow
      have Hi := Lib.hid hi
      go_wp2
      go_loopw [6, 20] (fun v i wr => ∃ (k : Nat) (fs : List Nat), k ≤ n ∧ i = .int .i64 k ∧ wr.ownsRow w.heap.size 31 1 v k (fs.map (Value.float .f32)) ∧ fs.map cn = (ps.take k).map (distC (cn m)) ∧ Below w.heap.size w wr ∧ Tr wr w.heap.size A ps) (fun _ i _ => n - (intOf i).toNat)
      case atStart => exact ⟨0, [], Nat.zero_le _, rfl, Ho.out, rfl, B2.out, T2.out⟩
      case round =>
        obtain ⟨k, fs, hk, rfl, hown, hcs, hb, hT⟩ := hrel
        have Hown := Lib.hid hown; have Hcs := Lib.hid hcs; have Hb := Lib.hid hb; have HTr := Lib.hid hT
        clear hown hcs hb hT
        by_cases hlt : k < n
        · have hkl : k < ps.length := by have := Hl.out; omega
          obtain ⟨b, off, rfl, hbs, hc⟩ := HTr.out (by omega)
          obtain ⟨p, hp⟩ : ∃ p, ps[k]? = some p := ⟨_, List.getElem?_eq_getElem hkl⟩
          obtain ⟨c0, c1, c2⟩ := cells3 (hc k p hp)
          have hpm := (Hw.out p (List.mem_of_getElem? hp))
          have hpa : IntKind.i64.wrap p.a = p.a := by rw [IntKind.wrap_i64]; unfold Pr.wf at hpm; omega
          have hpb : IntKind.i64.wrap p.b = p.b := by rw [IntKind.wrap_i64]; unfold Pr.wf at hpm; omega
          clear hpm
          have Hp := Lib.hid hp
          clear hc hkl hp
          go_wp2_with fail
          clear c0 c1 c2
          have hblk : (wr.alloc (Obj.cells #[Value.int .i16 p.a, Value.int .i16 p.b, Value.float .f32 p.l] 59)).heap[wr.heap.size]? = some (.cells #[.int .i16 p.a, .int .i16 p.b, .float .f32 p.l] 59 (0, 0)) := heap_alloc_new wr _
          have c0 : (wr.alloc (Obj.cells #[Value.int .i16 p.a, Value.int .i16 p.b, Value.float .f32 p.l] 59)).cell? ⟨wr.heap.size, 0, none⟩ = some (.int .i16 p.a) := cell_of_row _ _ 0 _ _ _ hblk
          have c1 : (wr.alloc (Obj.cells #[Value.int .i16 p.a, Value.int .i16 p.b, Value.float .f32 p.l] 59)).cell? ⟨wr.heap.size, 1, none⟩ = some (.int .i16 p.b) := cell_of_row _ _ 1 _ _ _ hblk
          have hlt2 : wr.heap.size < (wr.alloc (Obj.cells #[Value.int .i16 p.a, Value.int .i16 p.b, Value.float .f32 p.l] 59)).heap.size := by simp
          have Ho2 := Lib.hid (Hown.out.alloc (Obj.cells #[Value.int .i16 p.a, Value.int .i16 p.b, Value.float .f32 p.l] 59))
          have Hbs := Lib.hid (own_base Hown.out)
          have Bb : Hid (Below w.heap.size w (wr.alloc (Obj.cells #[Value.int .i16 p.a, Value.int .i16 p.b, Value.float .f32 p.l] 59))) := Hb.out.alloc Hb.out.size _
          have Tb : Hid (Tr (wr.alloc (Obj.cells #[Value.int .i16 p.a, Value.int .i16 p.b, Value.float .f32 p.l] 59)) w.heap.size (some ⟨b, off, none⟩) ps) := HTr.out.below ((Below.refl _ _).alloc (Nat.le_refl _) _) Hb.out.size
          have ea : IntKind.i64.wrap p.a = p.a := hpa
          have eb : IntKind.i64.wrap p.b = p.b := hpb
          clear hpa hpb
          generalize hW : wr.alloc (Obj.cells #[Value.int .i16 p.a, Value.int .i16 p.b, Value.float .f32 p.l] 59) = W at *
          clear hblk
          have HW := Lib.hid hW; clear hW
          obtain ⟨R, N, hR, hcR⟩ := f32_fun Try.prog .add 31 rfl
          have HcR := Lib.hid hcR; clear hcR
          go_region_law (first | (refine step_append_lies _ (by rfl) _ _ _ (by rfl) w.heap.size 31 i0 _ 1 4 Try.underlying32 Hi.out hz0 hz1 hz2 (by rfl) (by omega) _ k _ (by rfl) ((own_heap (w := W) (by rfl) Ho2.out).alloc _) _ 1 _ [_] (by rfl) (by rfl) (World.news_of_block (cs := #[_]) (heap_alloc_new _ _)) (by intro u hu; simp at hu; subst hu; rfl) (by omega) (by unfold maxLen; omega) (by omega) (by have := Bb.out.size; simp; omega) _ (by rfl) ?_; intro g cap w9 hown9 hgrow9 hat9 hlt9) | (go_simp; go_at_call 75; refine (implRad_any _ _ _).mono ?_; rintro e w1 ⟨rr, nn, rfl, hr, rfl⟩; have Hr := Lib.hid hr; clear hr; dsimp only))
          all_goals
            rename_i r1 n1 H1
            have hb9 : Below w.heap.size W w9 := ((below_drewN (Below.refl w.heap.size W) _).alloc (by simpa using Bb.out.size) _).grown hgrow9 (by have := Bb.out.size; simp; omega) (fun k h => (Hbs.out k h).1)
            have T9 : Hid (Tr w9 w.heap.size (some ⟨b, off, none⟩) ps) := Tb.out.below hb9 (Nat.le_refl _)
            have B9 : Hid (Below w.heap.size w w9) := Bb.out.trans hb9
            have O9 := Lib.hid hown9
            clear hb9 hown9 hgrow9 hat9 hlt9 c0 c1
            have e9 : Hid ((fs ++ [R r1 rr (W.drewN (1 + n1 + nn))]).map cn = (ps.take (k + 1)).map (distC (cn m))) := by
              have e1 : ps.take (k + 1) = ps.take k ++ [p] := by rw [List.take_add_one, Hp.out]; rfl
              rw [e1, List.map_append, List.map_append, Hcs.out]
              simp only [List.map_cons, List.map_nil, HcR.out, H1.out, Hr.out]
              rfl
            have O9' : Hid (w9.ownsRow w.heap.size 31 1 (.slice (some ⟨g, 0, none⟩) (k + 1) cap) (k + 1) ((fs ++ [R r1 rr (W.drewN (1 + n1 + nn))]).map (Value.float .f32))) := by
              have := O9.out
              rw [List.map_append]
              exact this
            go_wp2
            go_roundw
            case rel => exact ⟨k + 1, _, by omega, by go_num, O9'.out, e9.out, B9.out, T9.out⟩
            case measure => simp [intOf]; omega
        · have hkn : k = n := by omega
          subst hkn
          have hz : fs.map cn = ps.map (distC (cn m)) := by have := Hcs.out; rwa [List.take_of_length_le (by have := Hl.out; omega)] at this
          have Hz := Lib.hid hz
          clear hz
          go_wp2
          go_ret2
          have := flc_of_row (k := 0) Hown.out Hb.out
          rw [Hz.out] at this
          exact this
    · simp only [h1, h2, if_true, Bool.and_false, Bool.false_eq_true, if_false]
      go_enter Try.func47, Try.ntmps47
      go_wp2_with fail
      refine (validTrain_any _ _ _ ps _ Hl.out hn HT.out Hw.out).mono ?_
      rintro e w1 ⟨rfl, b1⟩
      have B1 := Lib.hid b1; clear b1
      go_wp2_with fail
      refine (isModule_any _ _).mono ?_
      rintro e w2 ⟨rfl, rfl⟩
      go_wp2
      go_ret2
      exact flc_of_row (fs := []) (World.ownsRow_nil _ _ _ _) B1.out
  · simp only [h1, Bool.false_and, Bool.false_eq_true, if_false]
    go_enter Try.func47, Try.ntmps47
    go_wp2_with fail
    refine (validTrain_any _ _ _ ps _ Hl.out hn HT.out Hw.out).mono ?_
    rintro e w1 ⟨rfl, b1⟩
    have B1 := Lib.hid b1; clear b1
    go_wp2
    go_ret2
    exact flc_of_row (fs := []) (World.ownsRow_nil _ _ _ _) B1.out
set_option maxRecDepth 100000 in
set_option maxHeartbeats 4000000 in
theorem specDist_any (A : Option Addr) (n c : Nat) (ps : List Pr) (m : Nat) (w : World) (hl : ps.length = n) (hn : n ≤ 1048576) (hT : Tr w w.heap.size A ps) (hw : ∀ p ∈ ps, p.wf) :
    Calls Try.prog 46 #[.slice A n c, .float .f32 m] w (FLC (distsC m ps) (codeDist ps m) w) := by
  obtain ⟨i0, hi, hz0, hz1, hz2⟩ := info_parts infoF32
  have Hl := Lib.hid hl; clear hl
  have HT := Lib.hid hT; clear hT
  have Hw := Lib.hid hw; clear hw
  have Hi := Lib.hid hi; clear hi
  unfold distsC codeDist
  rcases Bool.eq_false_or_eq_true (okTr ps) with h1 | h1
  · rcases Bool.eq_false_or_eq_true (modB m) with h2 | h2
    · simp only [h1, h2, if_true, Bool.and_self]
      go_enter Try.func46, Try.ntmps46
      go_wp2_with fail
      refine (l01Ok_any _ _ _ ps _ Hl.out hn HT.out Hw.out).mono ?_
      rintro e w1 ⟨rfl, rfl⟩
      go_wp2_with fail
      refine (l01Module_any _ _).mono ?_
      rintro e w2 ⟨rfl, rfl⟩
      go_wp2
      have Ho := Lib.hid (own_empty w w.heap.size 31 1 (Nat.le_refl _))
      have B2 : Hid (Below w.heap.size w (w.alloc (.cells #[] 31))) := (Below.refl _ _).alloc (Nat.le_refl _) _
      have T2 : Hid (Tr (w.alloc (.cells #[] 31)) w.heap.size A ps) := HT.out.below B2.out (Nat.le_refl _)
      go_loopw [6, 7] (fun v i wr => ∃ (k : Nat) (fs : List Nat), k ≤ n ∧ i = .int .i64 k ∧ wr.ownsRow w.heap.size 31 1 v k (fs.map (Value.float .f32)) ∧ fs.map cn = (ps.take k).map (distC (cn m)) ∧ Below w.heap.size w wr ∧ Tr wr w.heap.size A ps) (fun _ i _ => n - (intOf i).toNat)
      case atStart => exact ⟨0, [], Nat.zero_le _, rfl, Ho.out, rfl, B2.out, T2.out⟩
      case round =>
        obtain ⟨k, fs, hk, rfl, hown, hcs, hb, hT⟩ := hrel
        have Hown := Lib.hid hown; have Hcs := Lib.hid hcs; have Hb := Lib.hid hb; have HTr := Lib.hid hT
        clear hown hcs hb hT
        by_cases hlt : k < n
        · have hkl : k < ps.length := by have := Hl.out; omega
          obtain ⟨b, off, rfl, hbs, hc⟩ := HTr.out (by omega)
          obtain ⟨p, hp⟩ : ∃ p, ps[k]? = some p := ⟨_, List.getElem?_eq_getElem hkl⟩
          obtain ⟨c0, c1, c2⟩ := cells3 (hc k p hp)
          have hpm := (Hw.out p (List.mem_of_getElem? hp))
          have ea : IntKind.i64.wrap p.a = p.a := by rw [IntKind.wrap_i64]; unfold Pr.wf at hpm; omega
          have eb : IntKind.i64.wrap p.b = p.b := by rw [IntKind.wrap_i64]; unfold Pr.wf at hpm; omega
          clear hpm
          have Hp := Lib.hid hp
          have Hbs := Lib.hid (own_base Hown.out)
          clear hc hkl hp c2
          have z1 : (0 : Int) ≤ (k : Int) := by omega
          have z2 : (k : Int) < (n : Int) := by omega
          have hbz : b < wr.heap.size := Nat.lt_of_lt_of_le hbs Hb.out.size
          obtain ⟨R, N, hR, hcR⟩ := f32_fun Try.prog .add 31 rfl
          have HcR := Lib.hid hcR; clear hcR
          go_wp2_with fail
          go_region_law (first | (refine step_append_lies _ (by rfl) _ _ _ (by rfl) w.heap.size 31 i0 _ 1 4 Try.underlying32 Hi.out hz0 hz1 hz2 (by rfl) (by omega) _ k _ (by rfl) ((own_heap (w := wr) (by rfl) Hown.out).alloc _) _ 1 _ [_] (by rfl) (by rfl) (World.news_of_block (cs := #[_]) (heap_alloc_new _ _)) (by intro u hu; simp at hu; subst hu; rfl) (by omega) (by unfold maxLen; omega) (by omega) (by have := Hb.out.size; simp; omega) _ (by rfl) ?_; intro g cap w9 hown9 hgrow9 hat9 hlt9) | (go_simp; go_at_call 72; refine (specRad_any _ _ _).mono ?_; rintro e w1 ⟨rr, nn, rfl, hr, rfl⟩; have Hr := Lib.hid hr; clear hr; dsimp only))
          all_goals
            rename_i r1 n1 H1
            have hb9 : Below w.heap.size wr w9 := ((below_drewN (Below.refl w.heap.size wr) _).alloc (by simpa using Hb.out.size) _).grown hgrow9 (by have := Hb.out.size; simp; omega) (fun k h => (Hbs.out k h).1)
            have T9 : Hid (Tr w9 w.heap.size (some ⟨b, off, none⟩) ps) := HTr.out.below hb9 (Nat.le_refl _)
            have B9 : Hid (Below w.heap.size w w9) := Hb.out.trans hb9
            have O9 := Lib.hid hown9
            clear hb9 hown9 hgrow9 hat9 hlt9 c0 c1
            have e9 : Hid ((fs ++ [R r1 rr (wr.drewN (1 + n1 + nn))]).map cn = (ps.take (k + 1)).map (distC (cn m))) := by
              have e1 : ps.take (k + 1) = ps.take k ++ [p] := by rw [List.take_add_one, Hp.out]; rfl
              rw [e1, List.map_append, List.map_append, Hcs.out]
              simp only [List.map_cons, List.map_nil, HcR.out, H1.out, Hr.out]
              rfl
            have O9' : Hid (w9.ownsRow w.heap.size 31 1 (.slice (some ⟨g, 0, none⟩) (k + 1) cap) (k + 1) ((fs ++ [R r1 rr (wr.drewN (1 + n1 + nn))]).map (Value.float .f32))) := by
              have := O9.out
              rw [List.map_append]
              exact this
            go_wp2
            go_roundw
            case rel => exact ⟨k + 1, _, by omega, by go_num, O9'.out, e9.out, B9.out, T9.out⟩
            case measure => simp [intOf]; omega
        · have hkn : k = n := by omega
          subst hkn
          have hz : fs.map cn = ps.map (distC (cn m)) := by have := Hcs.out; rwa [List.take_of_length_le (by have := Hl.out; omega)] at this
          have Hz := Lib.hid hz
          clear hz
          go_wp2
          go_ret2
          have := flc_of_row (k := 0) Hown.out Hb.out
          rw [Hz.out] at this
          exact this
    · simp only [h1, h2, if_true, Bool.and_false, Bool.false_eq_true, if_false]
      go_enter Try.func46, Try.ntmps46
      go_wp2_with fail
      refine (l01Ok_any _ _ _ ps _ Hl.out hn HT.out Hw.out).mono ?_
      rintro e w1 ⟨rfl, rfl⟩
      go_wp2_with fail
      refine (l01Module_any _ _).mono ?_
      rintro e w2 ⟨rfl, rfl⟩
      go_wp2
      go_ret2
      exact flc_of_row (fs := []) (own_empty _ _ _ _ (Nat.le_refl _)) ((Below.refl _ _).alloc (Nat.le_refl _) _)
  · simp only [h1, Bool.false_and, Bool.false_eq_true, if_false]
    go_enter Try.func46, Try.ntmps46
    go_wp2_with fail
    refine (l01Ok_any _ _ _ ps _ Hl.out hn HT.out Hw.out).mono ?_
    rintro e w1 ⟨rfl, rfl⟩
    go_wp2
    go_ret2
    exact flc_of_row (fs := []) (own_empty _ _ _ _ (Nat.le_refl _)) ((Below.refl _ _).alloc (Nat.le_refl _) _)
end Go.Proofs.Ytdfookgncokgjab
