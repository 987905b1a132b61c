/-
  The torque in a state, with the map of torques that have been found.
-/
import Derived.Test.YtjkgiknklkfipaaDoorMp
import Derived.Deep.RegionLaw
import Derived.Deep.DeepCutAuto
namespace Go.Proofs.YtjkgiknklkfipaaDoor
open Go.RowKit Go.ChangeShapes Go.WideShapes Go.Deep
attribute [local go_sem ↓] Go.wp_at_zero Go.wp_at_succ
attribute [local go_sem] bits_callB
set_option linter.unusedVariables false
set_option linter.unusedSimpArgs false
set_option maxRecDepth 100000
/-- A governor that is valid, of words of its types. -/
structure GoodG (G : Gv) : Prop where
  ok : okG G = true
  wb : (Lit.int .i16 G.mb).wf = true
  wh : G.mh < 4294967296
theorem GoodG.mill {G : Gv} (h : GoodG G) : GoodM (millOf G) := by
  have := h.ok
  unfold okG at this
  simp only [Bool.and_eq_true] at this
  exact ⟨this.1, h.wb, h.wh⟩
theorem GoodG.ar {G : Gv} (h : GoodG G) : radB G.ar = true ∧ radB G.he = true ∧ radB G.ine = true ∧ oGe G.lo 0 = true ∧ oLe G.hi 1149239296 = true ∧ oLt G.lo G.hi = true := by
  have := h.ok
  unfold okG at this
  simp only [Bool.and_eq_true] at this
  exact ⟨this.2.1, this.2.2.1, this.2.2.2.1, this.2.2.2.2.1, this.2.2.2.2.2.1, this.2.2.2.2.2.2⟩
/-- A state that is valid, of words of its types. -/
structure GoodS (S : Se) : Prop where
  ok : stB S = true
  wg : (Lit.int .i8 S.g).wf = true
  ws : S.s < 4294967296
theorem GoodS.parts {S : Se} (h : GoodS S) : spB S.s = true ∧ 0 ≤ S.g ∧ S.g ≤ 16 := by
  have := h.ok
  unfold stB at this
  simp only [Bool.and_eq_true] at this
  exact ⟨this.1, inB_le this.2⟩
def flowG (G : Gv) (g : Int) : Nat := flowN G.ar G.he g
def torqG (G : Gv) (g : Int) (s : Nat) : Nat := torqN (millOf G) (flowG G g) s
theorem flowG_ok {G : Gv} (hG : GoodG G) {g : Int} (g0 : 0 ≤ g) (g1 : g ≤ 16) : fOK (flowG G g) := (flow_some hG.ar.1 hG.ar.2.1 g0 g1).2.2.2
theorem heap_first (w : World) (o a b : Obj) : (((w.alloc o).alloc a).alloc b).heap[w.heap.size]? = some o := by
  have h := heap_alloc_new w o
  have h1 : w.heap.size < (w.alloc o).heap.size := (Array.getElem?_eq_some_iff.1 h).1
  have e1 : ((w.alloc o).alloc a).heap[w.heap.size]? = (w.alloc o).heap[w.heap.size]? := Below.heap_alloc _ _ _ (by omega)
  have h2 := e1.trans h
  have h3 : w.heap.size < ((w.alloc o).alloc a).heap.size := (Array.getElem?_eq_some_iff.1 h2).1
  exact (Below.heap_alloc _ _ _ (by omega)).trans h2
theorem heap_third_d (w : World) (a b o : Obj) (n : Nat) : ((((w.alloc a).alloc b).drewN n).alloc o).heap[w.heap.size + 1 + 1]? = some o := heap_third w a b o
theorem heap_first_d (w : World) (o a b : Obj) (n : Nat) : ((((w.alloc o).alloc a).alloc b).drewN n).heap[w.heap.size]? = some o := heap_first w o a b
theorem heap_first_set (w : World) (x y : Obj) (n : Nat) (a b c d e : Value) : (((((((((w.alloc (.cells #[.int .i16 0, .int .u32 0, .int .u32 0, .int .u32 0, .int .u32 0] 155)).alloc x).alloc y).drewN n).setCell ⟨w.heap.size, 0, none⟩ a).setCell ⟨w.heap.size, 1, none⟩ b).setCell ⟨w.heap.size, 2, none⟩ c).setCell ⟨w.heap.size, 3, none⟩ d).setCell ⟨w.heap.size, 4, none⟩ e).heap[w.heap.size]? = some (.cells #[a, b, c, d, e] 155 (0, 0)) := by
  have z0 : Blk ((((w.alloc (.cells #[.int .i16 0, .int .u32 0, .int .u32 0, .int .u32 0, .int .u32 0] 155)).alloc x).alloc y).drewN n) w.heap.size #[.int .i16 0, .int .u32 0, .int .u32 0, .int .u32 0, .int .u32 0] 155 := heap_first_d w _ x y n
  exact ((((z0.set 0 a).set 1 b).set 2 c).set 3 d).set 4 e
theorem bitsOf_num {a : Nat} (ha : nan32 a = false) (w : World) : Calls Tryd.prog 105 #[.float .f32 a] w fun e w' => e = .returned (.int .u32 (cn a)) ∧ w' = w := by
  have a2 := fun w => run_wide (P := Tryd.prog) w 24 84 a (by rw [Tryd.underlying24]; rfl) Tryd.underlying84 ha
  have a3 := order_self (wide_some ha).2
  have e := Lib.hid (cn_of_not ha)
  clear ha
  go_enter Tryd.func105, Tryd.ntmps105
  go_wp2
  go_ret
  exact ⟨by rw [e.out]; rfl, rfl⟩
set_option maxHeartbeats 4000000 in
theorem bitsMl_ex (X : Ml) (hh : nan32 X.h = false) (hr : nan32 X.r = false) (w : World) : Calls Tryd.prog 104 #[.agg #[.int .i16 X.b, .float .f32 X.h, .float .f32 X.r]] w fun e w' => e = .returned (.agg #[.int .i16 X.b, .int .u32 (cn X.h), .int .u32 (cn X.r)]) ∧ ∃ A B n, w' = ((w.alloc A).alloc B).drewN n := by
  have Hh := Lib.hid hh; have Hr := Lib.hid hr
  clear hh hr
  go_enter Tryd.func104, Tryd.ntmps104
  go_wp2_with fail
  go_region_law (first
    | (go_simp; go_at_call_of 105 (Value.float .f32 X.h); with_reducible refine (bitsOf_num Hh.out _).mono ?_; rintro e w1 ⟨rfl, rfl⟩; dsimp only)
    | (go_simp; go_at_call_of 105 (Value.float .f32 X.r); with_reducible refine (bitsOf_num Hr.out _).mono ?_; rintro e w1 ⟨rfl, rfl⟩; dsimp only))
  all_goals
    go_wp2
    refine bodyPost_ret (v := .agg #[.int .i16 X.b, .int .u32 (cn X.h), .int .u32 (cn X.r)]) (by simp [results, Tryd.results104, go_sem]) rfl ⟨rfl, ?_⟩
    first | exact ⟨_, _, 0, rfl⟩ | exact ⟨_, _, 1, rfl⟩ | exact ⟨_, _, 2, rfl⟩ | exact ⟨_, _, 3, rfl⟩ | exact ⟨_, _, 4, rfl⟩ | exact ⟨_, _, 5, rfl⟩ | exact ⟨_, _, 6, rfl⟩
set_option maxHeartbeats 4000000 in
theorem torqueAt_any (G : Gv) (hG : GoodG G) (S : Se) (hS : GoodS S) (p : Nat) (es : Array MapEntry) (c : Nat) (w : World) (hp : w.heap[p]? = some (.map es c)) (hI : Inv (millOf G) es.toList) :
    Calls Tryd.prog 84 #[.agg #[.int .i16 G.mb, .float .f32 G.mh, .float .f32 G.mr, .int .i16 G.mb, .float .f32 G.mh, .float .f32 G.mr, .float .f32 G.ar, .float .f32 G.he, .float .f32 G.lo, .float .f32 G.hi, .float .f32 G.ine, .map (some p)], .agg #[.float .f32 S.s, .int .i8 S.g]] w fun e w' => e = .returned (.float .f32 (torqG G S.g S.s)) ∧ (∃ es' c', w'.heap[p]? = some (.map es' c') ∧ Inv (millOf G) es'.toList) ∧ Save p w w' := by
  have hpl : p < w.heap.size := (Array.getElem?_eq_some_iff.1 hp).1
  have q0 : AtGd ((w.alloc (.cells #[.int .i16 G.mb, .float .f32 G.mh, .float .f32 G.mr, .int .i16 G.mb, .float .f32 G.mh, .float .f32 G.mr, .float .f32 G.ar, .float .f32 G.he, .float .f32 G.lo, .float .f32 G.hi, .float .f32 G.ine, .map (some p)] 98)).alloc (.cells #[.float .f32 S.s, .int .i8 S.g] 126)) w.heap.size G p := (AtGd.new w G p).push _
  have q1 : AtSe ((w.alloc (.cells #[.int .i16 G.mb, .float .f32 G.mh, .float .f32 G.mr, .int .i16 G.mb, .float .f32 G.mh, .float .f32 G.mr, .float .f32 G.ar, .float .f32 G.he, .float .f32 G.lo, .float .f32 G.hi, .float .f32 G.ine, .map (some p)] 98)).alloc (.cells #[.float .f32 S.s, .int .i8 S.g] 126)) (w.heap.size + 1) S := by
    have e : (w.alloc (.cells #[.int .i16 G.mb, .float .f32 G.mh, .float .f32 G.mr, .int .i16 G.mb, .float .f32 G.mh, .float .f32 G.mr, .float .f32 G.ar, .float .f32 G.he, .float .f32 G.lo, .float .f32 G.hi, .float .f32 G.ine, .map (some p)] 98)).heap.size = w.heap.size + 1 := by simp
    rw [← e]
    exact AtSe.new _ _
  have bw : Below w.heap.size w ((w.alloc (.cells #[.int .i16 G.mb, .float .f32 G.mh, .float .f32 G.mr, .int .i16 G.mb, .float .f32 G.mh, .float .f32 G.mr, .float .f32 G.ar, .float .f32 G.he, .float .f32 G.lo, .float .f32 G.hi, .float .f32 G.ine, .map (some p)] 98)).alloc (.cells #[.float .f32 S.s, .int .i8 S.g] 126)) := b_alloc (b_alloc (Below.refl _ _) _) _
  have hg8 := i64_of_i8 hS.wg
  obtain ⟨hs1, hg0, hg1⟩ := hS.parts
  have HF := Lib.hid (show nan32 (flowN G.ar G.he S.g) = false from (flowG_ok hG hg0 hg1).1); have HN := Lib.hid (sp_between hs1).1
  have HG := Lib.hid hG; have HS := Lib.hid hS; have HI := Lib.hid hI
  go_enter Tryd.func84, Tryd.ntmps84
  go_upto_region 1 with fail
  generalize ((w.alloc (.cells #[.int .i16 G.mb, .float .f32 G.mh, .float .f32 G.mr, .int .i16 G.mb, .float .f32 G.mh, .float .f32 G.mr, .float .f32 G.ar, .float .f32 G.he, .float .f32 G.lo, .float .f32 G.hi, .float .f32 G.ine, .map (some p)] 98)).alloc (.cells #[.float .f32 S.s, .int .i8 S.g] 126)) = W at *
  have Q0 := Lib.hid q0; have Q1 := Lib.hid q1; have BW := Lib.hid bw
  obtain ⟨c0, c1, c2, c3, c4, c5, c6, c7, c8, c9, c10, c11⟩ := q0.cells
  obtain ⟨d0, d1⟩ := q1.cells
  have hs0 : w.heap.size < W.heap.size := q0.lt
  have hs2 : w.heap.size + 1 < W.heap.size := q1.lt
  clear q0 q1 bw hG hS hI
  go_upto_region 2 with (go_at_call 103; refine (implFlow_any G.ar G.he S.g HG.out.ar.1 HG.out.ar.2.1 hg0 hg1 _).mono ?_; rintro e w1 ⟨rfl, rfl⟩)
  go_cut [6] (fun s6 wx => ∃ k, s6 = .pointer (some ⟨k, 0, none⟩) ∧ W.heap.size ≤ k ∧ Blk wx k #[.int .i16 G.mb, .int .u32 (cn G.mh), .int .u32 (cn G.mr), .int .u32 (cn (flowN G.ar G.he S.g)), .int .u32 (cn S.s)] 155 ∧ Below W.heap.size W wx)
  case first =>
    go_region_law (first
      | (go_simp; go_at_call 104; refine (bitsMl_ex ⟨G.mb, G.mh, G.mr⟩ HG.out.mill.h.1 HG.out.mill.r.1 _).mono ?_; rintro e w1 ⟨rfl, X1, X2, nx, rfl⟩; dsimp only)
      | (go_simp; go_at_call_of 105 (Value.float .f32 (flowN G.ar G.he S.g)); with_reducible refine (bitsOf_num HF.out _).mono ?_; rintro e w2 ⟨rfl, rfl⟩; dsimp only)
      | (go_simp; go_at_call_of 105 (Value.float .f32 S.s); with_reducible refine (bitsOf_num HN.out _).mono ?_; rintro e w2 ⟨rfl, rfl⟩; dsimp only))
    all_goals
      go_wp2_with fail
      go_meet
      refine ⟨_, rfl, ?_, ?_, ?_⟩
      · with_reducible first | exact Nat.le_refl _ | omega
      unfold Blk
      · first
          | with_reducible exact heap_third_d W _ _ _ _
          | with_reducible exact heap_first_set W _ _ _ _ _ _ _ _
      · with_reducible repeat (first | exact Below.refl W.heap.size W | refine b_drewN ?_ _ | refine b_drew ?_ | refine b_alloc ?_ _ | refine b_set ?_ (Nat.le_refl _) _ _)
  case rest =>
    obtain ⟨k, rfl, hk, hb, hbc⟩ := hcut
    obtain ⟨c0, c1, c2, c3, c4, c5, c6, c7, c8, c9, c10, c11⟩ := (Q0.out.on (by rfl) hbc).cells
    obtain ⟨d0, d1⟩ := (Q1.out.on (by rfl) hbc).cells
    have k0 := hb.cell 0; have k1 := hb.cell 1; have k2 := hb.cell 2; have k3 := hb.cell 3; have k4 := hb.cell 4
    simp at k0 k1 k2 k3 k4
    have hW : W.heap[p]? = some (.map es c) := (BW.out.block p hpl).trans hp
    have hpW : p < W.heap.size := Nat.lt_of_lt_of_le hpl BW.out.size
    have hc : wc.heap[p]? = some (.map es c) := (hbc.block p hpW).trans hW
    obtain ⟨v, b, hlk, hv, hnf⟩ := lookup_any (millOf G) HF.out HN.out wc p es c hc HI.out
    have hlk' : (Instr.lookup 96 (.map (some p)) (.agg #[.int .i16 G.mb, .int .u32 (cn G.mh), .int .u32 (cn G.mr), .int .u32 (cn (flowN G.ar G.he S.g)), .int .u32 (cn S.s)]) true).run Tryd.prog wc = .ok (.tuple #[.float .f32 v, .bool b]) wc := hlk
    have HB := Lib.hid hb; have HC := Lib.hid hc; have HBC := Lib.hid hbc
    have hpc : Hid (p < wc.heap.size) := Nat.lt_of_lt_of_le hpW hbc.size
    cases b with
    | true =>
      obtain rfl := hv rfl
      clear hv hnf hW hc hb hbc hlk
      go_wp2
      refine bodyPost_ret (v := .float .f32 (torqN (millOf G) (flowN G.ar G.he S.g) S.s)) (by simp [results, Tryd.results84, go_sem]) rfl ?_
      exact ⟨rfl, ⟨es, c, HC.out, HI.out⟩, (Save.of BW.out).trans (Save.of HBC.out)⟩
    | false =>
      have HN2 := Lib.hid (hnf rfl)
      clear hv hnf hW hc hb hbc hlk
      go_wp2_with (go_at_call 106; refine (implTorque_any ⟨G.mb, G.mh, G.mr⟩ HG.out.mill (flowN G.ar G.he S.g) S.s (flowG_ok HG.out hg0 hg1) hs1 _).mono ?_; rintro e w2 ⟨rfl, b2⟩; have B2 := Lib.hid b2; clear c0 c1 c2 c3 c4 c5 c6 c7 c8 c9 c10 c11 d0 d1 k0 k1 k2 k3 k4 hlk'; obtain ⟨c0, c1, c2, c3, c4, c5, c6, c7, c8, c9, c10, c11⟩ := ((Q0.out.on (by rfl) HBC.out).on (by rfl) b2).cells; have kb := Blk.on HB.out (by rfl) b2; have k0 := kb.cell 0; have k1 := kb.cell 1; have k2 := kb.cell 2; have k3 := kb.cell 3; have k4 := kb.cell 4; simp at k0 k1 k2 k3 k4; have hu : (Instr.mapUpdate 96 (.map (some p)) (.agg #[.int .i16 G.mb, .int .u32 (cn G.mh), .int .u32 (cn G.mr), .int .u32 (cn (flowN G.ar G.he S.g)), .int .u32 (cn S.s)]) (.float .f32 (torqN ⟨G.mb, G.mh, G.mr⟩ (flowN G.ar G.he S.g) S.s))).run Tryd.prog w2 = .ok () (putMap w2 p (es.push { key := keyV (millOf G) (flowN G.ar G.he S.g) S.s, val := .float .f32 (torqN (millOf G) (flowN G.ar G.he S.g) S.s), born := c }) (c + 1)) := update_any (millOf G) _ w2 p es c ((b2.block p hpc.out).trans HC.out) (HN2.out w2); clear b2 kb)
      go_ret
      exact ⟨rfl, ⟨_, _, putMap_get (Nat.lt_of_lt_of_le hpc.out B2.out.size) _ _, HI.out.push HF.out HN.out _⟩, (((Save.of BW.out).trans (Save.of HBC.out)).trans (Save.of B2.out)).trans (Save.put _ _ _ _)⟩
end Go.Proofs.YtjkgiknklkfipaaDoor
