/-
  All gates with their torques: the program's iterator; how far a torque is off a load.
-/
import Derived.Test.YtjkgiknklkfipaaDoorTe
import Derived.Test.YtjkgiknklkfipaaDoorSz
import Derived.Test.YtjkgiknklkfipaaDoorRo
import Derived.Shelf.Abstract
import Derived.Shelf.RegionOpen
import Derived.OwnWalkIn
import Derived.TacticsInMore
import Derived.LoopNIn
import Derived.LoopIn
namespace Go.Proofs.YtjkgiknklkfipaaDoor
open Go.RowKit Go.ChangeShapes Go.WideShapes Go.Deep Go.Shelf
attribute [local go_sem] Oper.semAt_some
set_option linter.unusedVariables false
set_option linter.unusedSimpArgs false
set_option maxRecDepth 100000
/-- Below block m all is as it was, but for the blocks of x; no block has gone. -/
def Keep (m : Nat) (x : Nat → Prop) (W W' : World) : Prop := W.heap.size ≤ W'.heap.size ∧ ∀ k, k < m → ¬ x k → W'.heap[k]? = W.heap[k]?
theorem Keep.refl (m : Nat) (x : Nat → Prop) (W : World) : Keep m x W W := ⟨Nat.le_refl _, fun _ _ _ => rfl⟩
theorem Keep.trans {m : Nat} {x : Nat → Prop} {A B C : World} (h : Keep m x A B) (k : Keep m x B C) : Keep m x A C :=
  ⟨Nat.le_trans h.1 k.1, fun i hi hx => (k.2 i hi hx).trans (h.2 i hi hx)⟩
theorem Keep.below {m : Nat} {x : Nat → Prop} {A B : World} (h : Below m A B) : Keep m x A B := ⟨h.size, fun k hk _ => h.block k hk⟩
theorem keep_b {m : Nat} {x : Nat → Prop} {l : Nat} (W : World) (o o' : Obj) (hl : m ≤ l) (ho : W.heap[l]? = some o) : Keep m x W (W.putObj l o') := by
  refine ⟨by simp, fun k hk _ => World.putObj_heap_other (fun e => ?_)⟩
  omega
theorem Keep.set {m : Nat} {x : Nat → Prop} {W : World} {q : Nat} (hx : x q) (v : Value) : Keep m x W (W.setCell ⟨q, 0, none⟩ v) :=
  ⟨by simp [World.setCell], fun k _ hk => Below.heap_setCell W ⟨q, 0, none⟩ v k (fun e => hk (by rw [e]; exact hx))⟩
theorem grown_of_save {p : Nat} {w w' : World} (h : Save p w w') : w.grownBy w' (some p) :=
  ⟨h.1.os, h.1.tape, h.1.output, h.2.1, fun k hk hn => h.2.2 k hk (fun e => hn (by rw [e]))⟩
theorem grown_of_below {w w' : World} (h : Below w.heap.size w w') (row : Option Nat) : w.grownBy w' row :=
  ⟨h.os, h.tape, h.output, h.size, fun k hk _ => h.block k hk⟩
theorem kf_below {B : Nat} {W W' : World} (h : Below W.heap.size W W') : KeepsFrom B W W' := ⟨h.size, fun k o _ hk _ => (h.block k (Array.getElem?_eq_some_iff.1 hk).1).trans hk⟩
theorem range_pre {a b : Nat} (h : a ≤ b) : List.range a <+: List.range b := by
  obtain ⟨k, rfl⟩ : ∃ k, b = a + k := ⟨b - a, by omega⟩
  rw [List.range_add]
  exact List.prefix_append _ _
/-- The size of a number. -/
def sizN (a : Nat) : Nat := if oLt a 0 then Op.negFloat .f32 a else a
def offG (G : Gv) (s l k : Nat) : Nat := sizN (subN (torqG G (k : Int) s) l)
theorem negF_lt {a : Nat} (h : a < 4294967296) : Op.negFloat .f32 a < 4294967296 := by
  show a ^^^ 2 ^ 31 < 2 ^ 32
  exact Nat.xor_lt_two_pow (by omega) (by omega)
theorem rg_neg (a : Nat) : rg (Op.negFloat .f32 a) = rg a := by
  show (a ^^^ 2 ^ 31) % 2 ^ 31 = a % 2 ^ 31
  rw [Nat.xor_mod_two_pow, Nat.mod_self, Nat.xor_zero]
theorem rg_siz (a : Nat) : rg (sizN a) = rg a := by
  unfold sizN
  split
  · exact rg_neg a
  · rfl
theorem siz_lt {a : Nat} (h : a < 4294967296) : sizN a < 4294967296 := by
  unfold sizN
  split
  · exact negF_lt h
  · exact h
theorem rk_le_rg (a : Nat) : rk a ≤ (rg a : Int) := by unfold rk rg; split <;> omega
theorem off_some {G : Gv} (hG : GoodG G) {s : Nat} (hs : spB s = true) {l : Nat} (hl : psB l = true) {k : Nat} (hk : k ≤ 16) :
    floatBits .sub .f32 (torqG G (k : Int) s) l = some (subN (torqG G (k : Int) s) l) ∧ subN (torqG G (k : Int) s) l < 4294967296 ∧ rg (subN (torqG G (k : Int) s) l) ≤ 164 * 8388608 := by
  have ht : rg (torqG G (k : Int) s) ≤ 162 * 8388608 := (torq_some hG.mill (flowG_ok hG (by omega) (by omega)) hs).2.2.2.2
  have hb := (ps_between hl).2.1
  obtain ⟨e1, c1⟩ := sub_step (x := torqG G (k : Int) s) (y := l) (A := 163) (by omega) (by omega) (by omega) (by omega)
  exact ⟨e1, bits_lt e1, c1⟩
theorem off_less {G : Gv} (hG : GoodG G) {s : Nat} (hs : spB s = true) {l : Nat} (hl : psB l = true) {k : Nat} (hk : k ≤ 16) : oLt (offG G s l k) 2139095039 = true := by
  obtain ⟨_, _, h⟩ := off_some hG hs hl hk
  have h1 : rg (offG G s l k) ≤ 164 * 8388608 := by unfold offG; rw [rg_siz]; exact h
  have h2 := rk_le_rg (offG G s l k)
  unfold oLt
  rw [ord_rk (nan_rg (by omega)) (by decide +kernel)]
  have h3 : rk 2139095039 = 2139095039 := by decide
  rw [h3]
  have h4 : compare (rk (offG G s l k)) 2139095039 = .lt := by
    show compareOfLessAndEq _ _ = _
    unfold compareOfLessAndEq
    rw [if_pos (by omega)]
  rw [h4]
  rfl
theorem sizeW_any (m : Nat) (hm : m < 4294967296) (w : World) : Calls Tryd.prog 58 #[.float .f32 m] w fun e w' => e = .returned (.float .f32 (sizN m)) ∧ w = w' := by
  unfold sizN
  rcases Bool.eq_false_or_eq_true (oLt m 0) with h | h
  · have h2 : FloatKind.f32.format.order m 0 = some .lt := by simpa [oLt] using h
    have h3 := zero_sub hm h2
    have ra := fun w => run_float_arith (P := Tryd.prog) w .sub 24 .f32 _ _ _ h3
    simp only [h, if_true]
    clear h h3
    go_enter Tryd.func58, Tryd.ntmps58
    go_wp2
    go_ret
    exact ⟨rfl, rfl⟩
  · have h2 : (FloatKind.f32.format.order m 0 == some .lt) = false := h
    simp only [h, if_false, Bool.false_eq_true]
    clear h
    go_enter Tryd.func58, Tryd.ntmps58
    go_wp2
    go_ret
    exact ⟨rfl, rfl⟩
theorem specSizeW_any (m : Nat) (w : World) : Calls Tryd.prog 51 #[.float .f32 m] w fun e w' => e = .returned (.float .f32 (sizN m)) ∧ w = w' := by
  unfold sizN
  rcases Bool.eq_false_or_eq_true (oLt m 0) with h | h
  · have h2 : FloatKind.f32.format.order m 0 = some .lt := by simpa [oLt] using h
    simp only [h, if_true]
    clear h
    go_enter Tryd.func51, Tryd.ntmps51
    go_wp2
    go_ret
    exact ⟨rfl, rfl⟩
  · have h2 : (FloatKind.f32.format.order m 0 == some .lt) = false := h
    simp only [h, if_false, Bool.false_eq_true]
    clear h
    go_enter Tryd.func51, Tryd.ntmps51
    go_wp2
    go_ret
    exact ⟨rfl, rfl⟩
theorem i8_up {z : Int} (h0 : -1 ≤ z) (h1 : z ≤ 18) : IntKind.i8.wrap z = z := by
  unfold IntKind.wrap
  simp [IntKind.signed, IntKind.bits]
  omega
/-- A gate. -/
abbrev GtP := { k : Nat // k < 17 }
theorem wf8 {k : Nat} (h : k < 17) : (Lit.int .i8 (k : Int)).wf = true := by
  simp [Lit.wf, IntKind.min, IntKind.max, IntKind.bits, IntKind.signed]
  omega
set_option maxRecDepth 100000 in
set_option maxHeartbeats 4000000 in
theorem gates_seq (f : Nat) (G : Gv) (hG : GoodG G) (s : Nat) (hs : spB s = true) (ws : s < 4294967296) (m : Nat) (x : Nat → Prop) (w : World) (hm : w.heap.size = m) (qg qs p : Nat) (es : Array MapEntry) (c : Nat)
    (hg : AtGd w qg G p) (hq : Boxed w qs 24 (.float .f32 s)) (hp : w.heap[p]? = some (.map es c)) (hI : Inv (millOf G) es.toList) (xg : ¬ x qg) (xs : ¬ x qs) (xp : ¬ x p) (gp : qg ≠ p) (sp : qs ≠ p) :
    SeqX Fence.wide f Tryd.prog 83 #[.pointer (some ⟨qg, 0, none⟩), .pointer (some ⟨qs, 0, none⟩)] (fun y : GtP => #[.int .i64 (y.1 : Int), .float .f32 (torqG G (y.1 : Int) s)]) (Keep m x) (fun r => r = p)
      (fun xs => xs.map (·.1) = List.range 17) (fun pre => pre.map (·.1) <+: List.range 17) 17 w := by
  intro l J Jx W hW hll hJ hJx hY h0
  refine callsIn_of_wp Tryd.func83 rfl trivial ?_ rfl
  simp only [Tryd.ntmps83, List.size_toArray, List.length_cons, List.length_nil, Nat.reduceAdd, Nat.reduceSub, Array.replicate_succ, Array.replicate_zero, List.push_toArray, List.append_toArray, List.nil_append, List.cons_append]
  have lg : qg < m := by rw [← hm]; exact hg.lt
  have lq : qs < m := by rw [← hm]; exact hq.lt
  have lp : p < m := by rw [← hm]; exact (Array.getElem?_eq_some_iff.1 hp).1
  have g1 : Hid (AtGd W qg G p) := Lib.hid ((hW.block qg (by omega)).trans hg)
  have b1 : Hid (Boxed W qs 24 (.float .f32 s)) := Lib.hid ((hW.block qs (by omega)).trans hq)
  have p1 : Hid (∃ es c, W.heap[p]? = some (.map es c) ∧ Inv (millOf G) es.toList) := Lib.hid ⟨es, c, (hW.block p (by omega)).trans hp, hI⟩
  have m1 : Hid (m ≤ W.heap.size) := Lib.hid (by rw [← hm]; exact hW.size)
  have HY := Lib.hid hY; have HJ := Lib.hid hJ; have H0 := Lib.hid h0; have HG := Lib.hid hG; have HS := Lib.hid hs
  have LG := Lib.hid lg; have LQ := Lib.hid lq; have LP := Lib.hid lp; have GP := Lib.hid gp; have SP := Lib.hid sp
  clear hY hJ h0 hW hg hq hp hI lg lq lp gp sp hG hs hm hll
  gi_wp2
  gi_loopw [4, 5] (fun v4 v5 wr => ∃ (k : Nat) (pre : List GtP), k ≤ 17 ∧ v5 = .int .i8 k ∧ Hid (pre.map (·.1) = List.range k) ∧ Hid (J pre wr) ∧ Hid (AtGd wr qg G p) ∧ Hid (Boxed wr qs 24 (.float .f32 s)) ∧ Hid (∃ es c, wr.heap[p]? = some (.map es c) ∧ Inv (millOf G) es.toList) ∧ Hid (m ≤ wr.heap.size) ∧ Hid (W.heap.size ≤ wr.heap.size)) (fun _ v5 _ => 17 - (intOf v5).toNat)
  case atStart => exact ⟨0, [], Nat.zero_le _, rfl, rfl, H0, g1, b1, p1, m1, Lib.hid (Nat.le_refl _)⟩
  case round =>
    obtain ⟨k, pre, hk, rfl, hpre, hJp, hGd, hB, hM, hms, hWs⟩ := hrel
    by_cases hlt : k < 17
    · obtain ⟨es, c, hp, hI⟩ := hM.out
      have HP := Lib.hid hp; have HI := Lib.hid hI
      obtain ⟨c0, c1, c2, c3, c4, c5, c6, c7, c8, c9, c10, c11⟩ := hGd.out.cells
      have cs := hB.out.cell
      have k1 : IntKind.i64.wrap (k : Int) = (k : Int) := IntWalk.i64_in _ (by omega)
      have k2 : IntKind.i8.wrap ((k : Int) + 1) = (k : Int) + 1 := i8_up (by omega) (by omega)
      clear hp hI hM
      gi_wp2_with fail
      refine ⟨trivial, fun h => absurd h (by decide), ?_⟩
      refine (callsIn_wide.2 (torqueAt_any G HG.out ⟨s, (k : Int)⟩ ⟨by unfold stB inB; rw [HS.out]; simp; omega, wf8 hlt, ws⟩ p es c _ HP.out HI.out)).mono ?_
      rintro e w2 ⟨rfl, hM2, sv⟩
      have hJ2 := HJ.out pre wr w2 (some p) hJp.out (grown_of_save sv) (fun r e => by cases e; exact ⟨.inl rfl, _, HP.out, rfl⟩)
      have G2 : Hid (AtGd w2 qg G p) := Lib.hid ((sv.2.2 qg hGd.out.lt GP.out).trans hGd.out)
      have B2 : Hid (Boxed w2 qs 24 (.float .f32 s)) := Lib.hid ((sv.2.2 qs hB.out.lt SP.out).trans hB.out)
      have M2 := Lib.hid hM2
      have s2 : Hid (wr.heap.size ≤ w2.heap.size) := Lib.hid sv.2.1
      obtain ⟨fn, tmps, assign, body, hy, hR⟩ := HY.out pre ⟨k, hlt⟩ w2 hJ2 (by have := congrArg List.length hpre.out; rw [List.length_map, List.length_range] at this; omega)
      dsimp only at hy
      have hpn : Hid ((pre ++ [(⟨k, hlt⟩ : GtP)]).map (·.1) = List.range (k + 1)) := Lib.hid (by rw [List.map_append, hpre.out, List.range_succ]; rfl)
      generalize pre ++ [(⟨k, hlt⟩ : GtP)] = pre3 at *
      clear hJ2 hM2 sv c0 c1 c2 c3 c4 c5 c6 c7 c8 c9 c10 c11 cs
      gi_wp2
      refine ⟨fun h => absurd h (by decide), ?_⟩
      refine hR.mono ?_
      clear hR hy
      rintro e W3 (⟨rfl, hJ3, hk3, _⟩ | ⟨rfl, hJx3, _⟩)
      · have HJ3 := Lib.hid hJ3; have HK3 := Lib.hid hk3
        clear hJ3 hk3
        gi_wp2
        refine ⟨⟨k + 1, pre3, by omega, by go_num, hpn, HJ3, ?_, ?_, ?_, ?_, ?_⟩, by simp [intOf]; omega⟩
        · exact Lib.hid ((HK3.out.2 qg LG.out xg).trans G2.out)
        · exact Lib.hid ((HK3.out.2 qs LQ.out xs).trans B2.out)
        · obtain ⟨es', c', h1, h2⟩ := M2.out
          exact Lib.hid ⟨es', c', (HK3.out.2 p LP.out xp).trans h1, h2⟩
        · exact Lib.hid (Nat.le_trans hms.out (Nat.le_trans s2.out HK3.out.1))
        · exact Lib.hid (Nat.le_trans hWs.out (Nat.le_trans s2.out HK3.out.1))
      · gi_wp2
        refine bodyPost_ret (results_none rfl _ _ _) rfl ?_
        exact ⟨⟨_, rfl⟩, .inr ⟨pre3, by show _ <+: _; rw [hpn.out]; exact range_pre (by omega), hJx3⟩⟩
    · obtain rfl : k = 17 := by omega
      gi_wp2
      go_end0
      exact ⟨⟨_, rfl⟩, .inl ⟨pre, hpre.out, hJp.out⟩⟩
theorem gates_in (f : Nat) (G : Gv) (p s : Nat) (w : World) :
    CallsIn Fence.wide f Tryd.prog 57 #[.agg #[.int .i16 G.mb, .float .f32 G.mh, .float .f32 G.mr, .int .i16 G.mb, .float .f32 G.mh, .float .f32 G.mr, .float .f32 G.ar, .float .f32 G.he, .float .f32 G.lo, .float .f32 G.hi, .float .f32 G.ine, .map (some p)], .float .f32 s] w fun e w' =>
      e = .returned (.func (.func 83) #[] #[.pointer (some ⟨w.heap.size, 0, none⟩), .pointer (some ⟨w.heap.size + 1, 0, none⟩)]) ∧ (w.alloc (.cells #[.int .i16 G.mb, .float .f32 G.mh, .float .f32 G.mr, .int .i16 G.mb, .float .f32 G.mh, .float .f32 G.mr, .float .f32 G.ar, .float .f32 G.he, .float .f32 G.lo, .float .f32 G.hi, .float .f32 G.ine, .map (some p)] 98)).alloc (.cells #[.float .f32 s] 24) = w' := by
  refine callsIn_wide.2 ?_
  go_enter Tryd.func57, Tryd.ntmps57
  go_wp2
  go_ret
  exact ⟨rfl, rfl⟩
end Go.Proofs.YtjkgiknklkfipaaDoor
