/-
  A day with dressing: the hour that dresses, and the method day over it.
-/
import Derived.Test.YtjkgiknklkfipaaHd
import Derived.Test.YtjkgiknklkfipaaKp
namespace Go.Proofs.Ytjkgiknklkfipaa
open Go.RowKit Go.ChangeShapes Go.WideShapes Go.Deep
attribute [local go_sem ↓] Go.wp_at_zero Go.wp_at_succ
set_option linter.unusedVariables false
set_option linter.unusedSimpArgs false
set_option maxRecDepth 100000
/-- The stone behind an hour in which a dull one is dressed; its flour; whether it has been dressed. -/
def ddS (T : Sn) (t f l : Nat) : Sn := if oLt T.g l then dreS T else hourS T t f
def ddF (T : Sn) (t f l : Nat) : Nat := if oLt T.g l then cn 0 else hourF T t f
def ddO (T : Sn) (l : Nat) : Nat := if oLt T.g l then 1 else 0
def ddK (S : Sn) (ts : List Nat) (f l : Nat) : Nat → Sn
  | 0 => cnS S
  | k + 1 => ddS (ddK S ts f l k) (ts.getD k 0) f l
def ddC (S : Sn) (ts : List Nat) (f l : Nat) : Nat → Nat
  | 0 => 0
  | k + 1 => ddC S ts f l k + ddO (ddK S ts f l k) l
def ddL (S : Sn) (ts : List Nat) (f l : Nat) : List Nat := (List.range ts.length).map fun k => ddF (ddK S ts f l k) (ts.getD k 0) f l
theorem ddO_le (T : Sn) (l : Nat) : ddO T l ≤ 1 := by unfold ddO; split <;> omega
theorem ddC_le (S : Sn) (ts : List Nat) (f l k : Nat) : ddC S ts f l k ≤ k := by
  induction k with
  | zero => exact Nat.le_refl _
  | succ k ih => have := ddO_le (ddK S ts f l k) l; unfold ddC; omega
theorem oLt_g {T U : Sn} (h : cnS T = cnS U) (l : Nat) : oLt T.g l = oLt U.g l := oLt_cn (congrArg Sn.g h) rfl
theorem ddS_cn {T U : Sn} (h : cnS T = cnS U) (t f l : Nat) : ddS T t f l = ddS U t f l := by
  unfold ddS dreS
  rw [oLt_g h, hourS_cnS h, show cn T.d = cn U.d from congrArg Sn.d h, show cn T.r = cn U.r from congrArg Sn.r h, show cn T.b = cn U.b from congrArg Sn.b h]
theorem ddF_cn {T U : Sn} (h : cnS T = cnS U) (t f l : Nat) : ddF T t f l = ddF U t f l := by
  unfold ddF
  rw [oLt_g h, hourF_cnS h]
theorem ddO_cn {T U : Sn} (h : cnS T = cnS U) (l : Nat) : ddO T l = ddO U l := by
  unfold ddO
  rw [oLt_g h]
theorem cnS_dreS (T : Sn) : cnS (dreS T) = dreS T := by unfold dreS cnS; simp only [cn_cn]
theorem cnS_ddS (T : Sn) (t f l : Nat) : cnS (ddS T t f l) = ddS T t f l := by
  unfold ddS
  split
  · exact cnS_dreS T
  · exact cnS_hourS _ _ _
theorem ddK_cn (S : Sn) (ts : List Nat) (f l k : Nat) : cnS (ddK S ts f l k) = ddK S ts f l k := by
  cases k with
  | zero => exact cnS_cnS S
  | succ k => exact cnS_ddS _ _ _ _
theorem ddK_g {S : Sn} {ts : List Nat} {f l : Nat} (hg : ptN (cn S.g)) (hf : rtN (cn f)) (k : Nat) : ptN (ddK S ts f l k).g := by
  induction k with
  | zero => exact hg
  | succ k ih =>
    show ptN (ddS _ _ _ _).g
    unfold ddS
    split
    · show ptN (cn 1065353216)
      rw [show cn 1065353216 = 1065353216 from cn_of_not (by decide +kernel)]
      exact ⟨by decide, by decide⟩
    · refine hour_g ?_ hf
      have : cn (ddK S ts f l k).g = (ddK S ts f l k).g := congrArg Sn.g (ddK_cn S ts f l k)
      rw [this]
      exact ih
theorem ddL_len (S : Sn) (ts : List Nat) (f l : Nat) : (ddL S ts f l).length = ts.length := by unfold ddL; simp
theorem ddL_at {S : Sn} {ts : List Nat} {f l k : Nat} (h : k < ts.length) : (ddL S ts f l)[k]? = some (ddF (ddK S ts f l k) (ts.getD k 0) f l) := by
  unfold ddL
  rw [List.getElem?_map, List.getElem?_range h]
  rfl
theorem dd_next {S T T' : Sn} {ts : List Nat} {f l k t x : Nat} (h : cnS T = ddK S ts f l k) (ht : ts[k]? = some t) (hT : SnIs T' (ddS T t f l)) (hx : CN x (ddF T t f l)) : cnS T' = ddK S ts f l (k + 1) ∧ cn x = ddF (ddK S ts f l k) (ts.getD k 0) f l := by
  have e : cnS T = cnS (ddK S ts f l k) := by rw [ddK_cn]; exact h
  have g : ts.getD k 0 = t := by rw [List.getD_eq_getElem?_getD, ht]; rfl
  constructor
  · rw [show cnS T' = ddS T t f l from hT, ddS_cn e]
    show _ = ddS (ddK S ts f l k) (ts.getD k 0) f l
    rw [g]
  · rw [show cn x = ddF T t f l from hx, ddF_cn e, g]
theorem dd_cnt {S T : Sn} {ts : List Nat} {f l k : Nat} (h : cnS T = ddK S ts f l k) : ddC S ts f l (k + 1) = ddC S ts f l k + ddO T l := by
  show _ + _ = _
  rw [ddO_cn (show cnS T = cnS (ddK S ts f l k) by rw [ddK_cn]; exact h)]
/-- What the hour that dresses has captured. -/
def DEnv (w : World) (ql qt qg qf f l k : Nat) : Prop :=
  One w ql (.float .f32 l) 24 ∧ One w qt (.int .i64 (k : Int)) 2 ∧ One w qg (.func (.func 96) #[] #[.pointer (some ⟨qf, 0, none⟩)]) 84 ∧ One w qf (.float .f32 f) 24 ∧ ql ≠ qt ∧ qg ≠ qt ∧ qf ≠ qt
def DLt (ql qt qg qf B : Nat) : Prop := ql < B ∧ qt < B ∧ qg < B ∧ qf < B
theorem DEnv.lt {w : World} {ql qt qg qf f l k : Nat} (h : DEnv w ql qt qg qf f l k) : DLt ql qt qg qf w.heap.size := ⟨h.1.lt, h.2.1.lt, h.2.2.1.lt, h.2.2.2.1.lt⟩
theorem DEnv.on {w w' : World} {ql qt qg qf f l k : Nat} (h : DEnv w ql qt qg qf f l k) (b : Below w.heap.size w w') : DEnv w' ql qt qg qf f l k := ⟨One.on h.1 (by rfl) b, One.on h.2.1 (by rfl) b, One.on h.2.2.1 (by rfl) b, One.on h.2.2.2.1 (by rfl) b, h.2.2.2.2⟩
theorem DEnv.push {w : World} {ql qt qg qf f l k : Nat} (h : DEnv w ql qt qg qf f l k) (o : Obj) : DEnv (w.alloc o) ql qt qg qf f l k := h.on (b_alloc (Below.refl _ _) o)
theorem DEnv.setI {w : World} {ql qt qg qf f l k B q' : Nat} (h : DEnv w ql qt qg qf f l k) (hl : DLt ql qt qg qf B) (hq : B ≤ q') (i : Nat) (v : Value) : DEnv (w.setCell ⟨q', i, none⟩ v) ql qt qg qf f l k := by
  obtain ⟨a, b, c, d⟩ := hl
  exact ⟨OneI h.1 (by omega) i v, OneI h.2.1 (by omega) i v, OneI h.2.2.1 (by omega) i v, OneI h.2.2.2.1 (by omega) i v, h.2.2.2.2⟩
theorem DEnv.grown {w w' : World} {row : Option Nat} {ql qt qg qf f l k B : Nat} (h : DEnv w ql qt qg qf f l k) (hl : DLt ql qt qg qf B) (hg : w.grownBy w' row) (hr : ∀ q, q < B → some q ≠ row) : DEnv w' ql qt qg qf f l k :=
  ⟨One.grown h.1 hg (hr _ hl.1), One.grown h.2.1 hg (hr _ hl.2.1), One.grown h.2.2.1 hg (hr _ hl.2.2.1), One.grown h.2.2.2.1 hg (hr _ hl.2.2.2), h.2.2.2.2⟩
theorem DEnv.tick {w : World} {ql qt qg qf f l k : Nat} (h : DEnv w ql qt qg qf f l k) : DEnv (w.setCell ⟨qt, 0, none⟩ (.int .i64 ((k : Int) + 1))) ql qt qg qf f l (k + 1) :=
  ⟨OneI h.1 h.2.2.2.2.1 _ _, heap_setCell_same w qt 0 #[_] 2 _ h.2.1, OneI h.2.2.1 h.2.2.2.2.2.1 _ _, OneI h.2.2.2.1 h.2.2.2.2.2.2 _ _, h.2.2.2.2⟩
set_option maxHeartbeats 4000000 in
theorem dressing_any (S : Sn) (t f l k : Nat) (hg : rg (cn S.g) ≤ 127 * 8388608) (hf : rg (cn f) ≤ 137 * 8388608) (hk : k ≤ 2000000) (ql qt qg qf : Nat) (w : World) (h : DEnv w ql qt qg qf f l k) :
    Calls Try.prog 63 #[.agg #[.float .f32 S.d, .float .f32 S.r, .float .f32 S.b, .float .f32 S.g], .float .f32 t, .pointer (some ⟨ql, 0, none⟩), .pointer (some ⟨qt, 0, none⟩), .pointer (some ⟨qg, 0, none⟩)] w fun e w' => ∃ (T' : Sn) (x : Nat), e = .returned (.tuple #[.agg #[.float .f32 T'.d, .float .f32 T'.r, .float .f32 T'.b, .float .f32 T'.g], .float .f32 x]) ∧ SnIs T' (ddS S t f l) ∧ CN x (ddF S t f l) ∧ DEnv w' ql qt qg qf f l (k + ddO S l) ∧ Kp qt w w' := by
  have hlt0 := h.lt
  have hkw : IntKind.i64.wrap ((k : Int) + 1) = (k : Int) + 1 := IntWalk.i64_in _ (by omega)
  have hne : Hid (w.heap.size + 1 ≠ qt) := Lib.hid (by have := hlt0.2.1; omega)
  obtain ⟨k0, k1, bw⟩ := box_two w S; have hs0 : w.heap.size < ((w.alloc (.cells #[.float .f32 S.d, .float .f32 S.r, .float .f32 S.b, .float .f32 S.g] 42)).alloc (.cells #[.float .f32 0, .float .f32 0, .float .f32 0, .float .f32 0] 42)).heap.size := k0.lt; have hs1 : w.heap.size + 1 < ((w.alloc (.cells #[.float .f32 S.d, .float .f32 S.r, .float .f32 S.b, .float .f32 S.g] 42)).alloc (.cells #[.float .f32 0, .float .f32 0, .float .f32 0, .float .f32 0] 42)).heap.size := k1.lt; have K0 := Lib.hid k0; have K1 := Lib.hid k1; have Bw := Lib.hid bw; clear bw
  have HD := Lib.hid (h.on Bw.out)
  have LT := Lib.hid hlt0
  have HG := Lib.hid hg; have HF := Lib.hid hf
  have q1 : w.heap.size ≤ w.heap.size + 1 := by omega
  clear h hlt0 hg hf
  go_enter Try.func63, Try.ntmps63
  go_upto_region 1 with fail
  generalize ((w.alloc (.cells #[.float .f32 S.d, .float .f32 S.r, .float .f32 S.b, .float .f32 S.g] 42)).alloc (.cells #[.float .f32 0, .float .f32 0, .float .f32 0, .float .f32 0] 42)) = W at *; have c0 := k0.cell 0; have c1 := k0.cell 1; have c2 := k0.cell 2; have c3 := k0.cell 3; simp at c0 c1 c2 c3; have z0 := k0.frozen 3; have d0 := k1.cell 0; have d1 := k1.cell 1; have d2 := k1.cell 2; have d3 := k1.cell 3; simp at d0 d1 d2 d3; have y0 := k1.frozen 0; have y1 := k1.frozen 1; have y2 := k1.frozen 2; have y3 := k1.frozen 3; clear k0 k1
  have l0 := HD.out.1.cell; have l1 := HD.out.2.1.cell; have l2 := HD.out.2.2.1.cell
  have fq : W.frozen? ⟨qt, 0, none⟩ = false := Blk.frozen (cs := #[_]) HD.out.2.1 0
  have BW : Hid (w.heap.size ≤ W.heap.size) := Lib.hid Bw.out.size
  obtain ⟨b, hb⟩ : ∃ b, oLt S.g l = b := ⟨_, rfl⟩
  cases b
  · have t1 := (tf_lt hb).2 rfl
    have E1 := Lib.hid (show ddS S t f l = hourS S t f ∧ ddF S t f l = hourF S t f ∧ ddO S l = 0 from ⟨by unfold ddS; rw [hb]; rfl, by unfold ddF; rw [hb]; rfl, by unfold ddO; rw [hb]; rfl⟩)
    clear hb
    go_wp2_with fail
    refine (implHour_any S t f HG.out HF.out qf _ HD.out.2.2.2.1).mono ?_
    rintro e w3 ⟨T1, x, rfl, hT1, hx, b3⟩
    have HT1 := Lib.hid hT1; have HX1 := Lib.hid hx; have B3 := Lib.hid b3
    have k1 := Blk.on K1.out (by rfl) b3
    clear hT1 hx b3 c0 c1 c2 c3 z0 d0 d1 d2 d3 y0 y1 y2 y3 l0 l1 l2 fq t1
    have y0 := k1.frozen 0; have y1 := k1.frozen 1; have y2 := k1.frozen 2; have y3 := k1.frozen 3
    have d0 := k1.cell 0; have d1 := k1.cell 1; have d2 := k1.cell 2; have d3 := k1.cell 3
    simp at d0 d1 d2 d3
    have KB := Lib.hid k1
    clear k1
    go_wp2
    refine bodyPost_ret (ret_snc (T := T1) Try.results63 rfl ((((KB.out.set 0 _).set 1 _).set 2 _).set 3 _)) rfl ⟨T1, _, rfl, ?_, ?_, ?_, ?_⟩
    · rw [E1.out.1]; exact HT1.out
    · rw [E1.out.2.1]; exact HX1.out
    · rw [E1.out.2.2]
      exact (((((HD.out.on B3.out).setI LT.out q1 0 _).setI LT.out q1 1 _).setI LT.out q1 2 _).setI LT.out q1 3 _)
    · exact Kp.of (b_set (b_set (b_set (b_set (b_then Bw.out B3.out) q1 _ _) q1 _ _) q1 _ _) q1 _ _)
  · have t1 := (tf_lt hb).1 rfl
    have E1 := Lib.hid (show ddS S t f l = dreS S ∧ ddF S t f l = cn 0 ∧ ddO S l = 1 from ⟨by unfold ddS; rw [hb]; rfl, by unfold ddF; rw [hb]; rfl, by unfold ddO; rw [hb]; rfl⟩)
    clear hb
    have n1 : ¬ qt = w.heap.size := by have := LT.out.2.1; omega
    have n2 : ¬ w.heap.size = qt := by have := LT.out.2.1; omega
    go_wp2_with fail
    refine (implDre_any S _).mono ?_
    rintro e w3 ⟨T1, rfl, hT1, b3⟩
    have HT1 := Lib.hid hT1
    have D3 := Lib.hid (HD.out.tick.on b3)
    have P3 : Hid (Kp qt w w3) := Lib.hid (((Kp.of Bw.out).set 0 (.int .i64 ((k : Int) + 1))).put (b3.mono (by have := BW.out; simp; omega)))
    have k1 := Blk.on (Blk.setO K1.out hne.out 0 (.int .i64 ((k : Int) + 1))) (by rfl) b3
    clear hT1 b3 c0 c1 c2 c3 z0 d0 d1 d2 d3 y0 y1 y2 y3 l0 l1 l2 fq t1
    have y0 := k1.frozen 0; have y1 := k1.frozen 1; have y2 := k1.frozen 2; have y3 := k1.frozen 3
    have d0 := k1.cell 0; have d1 := k1.cell 1; have d2 := k1.cell 2; have d3 := k1.cell 3
    simp at d0 d1 d2 d3
    have KB := Lib.hid k1
    clear k1
    go_wp2
    refine bodyPost_ret (ret_snc (T := T1) Try.results63 rfl ((((KB.out.set 0 _).set 1 _).set 2 _).set 3 _)) rfl ⟨T1, _, rfl, ?_, ?_, ?_, ?_⟩
    · rw [E1.out.1]; exact HT1.out
    · rw [E1.out.2.1]; exact cn_lit 0
    · rw [E1.out.2.2]
      exact (((D3.out.setI LT.out q1 0 _).setI LT.out q1 1 _).setI LT.out q1 2 _).setI LT.out q1 3 _
    · exact P3.out.put (b_set (b_set (b_set (b_set (Below.refl _ _) q1 _ _) q1 _ _) q1 _ _) q1 _ _)
/-- The call returns a stone and a list of its own of numbers, and has counted. -/
def RDayD (C : Sn) (cs : List Nat) (ql qt qg qf f l k : Nat) (w : World) (e : Ending) (w' : World) : Prop :=
  ∃ (T : Sn) (v : Value) (n : Nat) (fs : List Nat), e = .returned (.tuple #[.agg #[.float .f32 T.d, .float .f32 T.r, .float .f32 T.b, .float .f32 T.g], v]) ∧ SnIs T C ∧ w'.ownsRow w.heap.size 24 1 v n (fs.map (Value.float .f32)) ∧ fs.length = n ∧ fs.map cn = cs ∧ DEnv w' ql qt qg qf f l k ∧ Kp qt w w'
set_option maxRecDepth 100000 in
set_option maxHeartbeats 4000000 in
theorem dayD_any (S : Sn) (f l : Nat) (hg : ptN (cn S.g)) (hf : rtN (cn f)) (A : Option Addr) (n c : Nat) (ts : List Nat) (ql qt qg qf : Nat) (w : World) (hl : ts.length = n) (hn : n ≤ 1048576) (hT : Fo w w.heap.size A ts) (hnq : 0 < n → ∀ a, A = some a → a.block ≠ qt) (h2 : DEnv w ql qt qg qf f l 0) :
    Calls Try.prog 65 #[.func (.func 63) #[] #[.pointer (some ⟨ql, 0, none⟩), .pointer (some ⟨qt, 0, none⟩), .pointer (some ⟨qg, 0, none⟩)], .agg #[.float .f32 S.d, .float .f32 S.r, .float .f32 S.b, .float .f32 S.g], .slice A n c] w (RDayD (ddK S ts f l n) (ddL S ts f l) ql qt qg qf f l (ddC S ts f l n) w) := by
  obtain ⟨i0, hi, hz0, hz1, hz2⟩ := info_parts infoF32
  have Hl := Lib.hid hl; clear hl
  have HT := Lib.hid hT; clear hT
  have HNQ := Lib.hid hnq; clear hnq
  have HGP := Lib.hid (fun (k : Nat) => ddK_g (ts := ts) (l := l) hg hf k)
  have HF := Lib.hid hf
  clear hg hf
  obtain ⟨k0, k1, bw⟩ := box_two w S; have hs0 : w.heap.size < ((w.alloc (.cells #[.float .f32 S.d, .float .f32 S.r, .float .f32 S.b, .float .f32 S.g] 42)).alloc (.cells #[.float .f32 0, .float .f32 0, .float .f32 0, .float .f32 0] 42)).heap.size := k0.lt; have hs1 : w.heap.size + 1 < ((w.alloc (.cells #[.float .f32 S.d, .float .f32 S.r, .float .f32 S.b, .float .f32 S.g] 42)).alloc (.cells #[.float .f32 0, .float .f32 0, .float .f32 0, .float .f32 0] 42)).heap.size := k1.lt; have K0 := Lib.hid k0; have K1 := Lib.hid k1; have Bw := Lib.hid bw; clear bw
  have o2 := h2.on Bw.out
  have lq := h2.lt
  have LQ := Lib.hid lq
  have O2 := Lib.hid o2
  clear h2 o2 lq
  go_enter Try.func65, Try.ntmps65
  go_upto_region 1 with fail
  generalize ((w.alloc (.cells #[.float .f32 S.d, .float .f32 S.r, .float .f32 S.b, .float .f32 S.g] 42)).alloc (.cells #[.float .f32 0, .float .f32 0, .float .f32 0, .float .f32 0] 42)) = W at *; have c0 := k0.cell 0; have c1 := k0.cell 1; have c2 := k0.cell 2; have c3 := k0.cell 3; simp at c0 c1 c2 c3; have z0 := k0.frozen 3; have d0 := k1.cell 0; have d1 := k1.cell 1; have d2 := k1.cell 2; have d3 := k1.cell 3; simp at d0 d1 d2 d3; have y0 := k1.frozen 0; have y1 := k1.frozen 1; have y2 := k1.frozen 2; have y3 := k1.frozen 3; clear k0 k1
  clear c0 c1 c2 c3 d0 d1 d2 d3 y0 y1 y2 y3 z0
  have hbw := Bw.out.size
  go_wp2_with (at_make; refine wpList_make_own _ rfl _ _ 41 rfl W.heap.size 24 i0 _ 1 Try.underlying41 hi hz0 hz1 _ _ _ n rfl rfl (by omega) (by rw [hz2]; omega) (by unfold maxLen; omega) (Nat.le_refl _) ?_; intro w4 hown hgrow; have B4 : Hid (Below W.heap.size W w4) := (Below.refl _ _).grown hgrow (Nat.le_refl _) (fun k h => by cases h); have Ho := Lib.hid hown; clear hown hgrow)
  have K0 := Lib.hid (Blk.on K0.out (by rfl) B4.out); have K1 := Lib.hid (Blk.on K1.out (by rfl) B4.out); have O4 := Lib.hid (O2.out.on B4.out)
  have BB4 : Hid (Kp qt w w4) := Kp.of (b_then Bw.out B4.out)
  have hW4 := B4.out.size
  go_loopw [8, 18] (fun v i wr => ∃ (j : Nat) (fs : List Nat) (T : Sn), j ≤ n ∧ i = .int .i64 j ∧ wr.ownsRow W.heap.size 24 1 v j (fs.map (Value.float .f32)) ∧ fs.map cn = (ddL S ts f l).take j ∧ fs.length = j ∧ cnS T = ddK S ts f l j ∧ Blk wr w.heap.size #[.float .f32 T.d, .float .f32 T.r, .float .f32 T.b, .float .f32 T.g] 42 ∧ Blk wr (w.heap.size + 1) #[.float .f32 0, .float .f32 0, .float .f32 0, .float .f32 0] 42 ∧ DEnv wr ql qt qg qf f l (ddC S ts f l j) ∧ Kp qt w wr ∧ W.heap.size ≤ wr.heap.size) (fun _ i _ => n - (intOf i).toNat)
  case atStart => exact ⟨0, [], S, Nat.zero_le _, rfl, Ho.out, rfl, rfl, rfl, K0.out, K1.out, O4.out, BB4.out, hW4⟩
  case round =>
    obtain ⟨j, fs, T, hj, rfl, hown, hcs, hfl, hTk, k0, k1, o2, hbb, hws⟩ := hrel
    have Hown := Lib.hid hown; have Hcs := Lib.hid hcs; have Hfl := Lib.hid hfl; have Hbb := Lib.hid hbb; have HTk := Lib.hid hTk; have KK0 := Lib.hid k0; have KK1 := Lib.hid k1; have OO2 := Lib.hid o2
    clear hown hcs hfl hbb hTk o2 k1
    by_cases hlt : j < n
    · have hkl : j < ts.length := by have := Hl.out; omega
      obtain ⟨b, off, rfl, hbs, hc⟩ := HT.out (by omega)
      have hbq : b ≠ qt := HNQ.out (by omega) _ rfl
      obtain ⟨t, ht⟩ : ∃ t, ts[j]? = some t := ⟨_, List.getElem?_eq_getElem hkl⟩
      have e0 := (World.cell?_of_block (a := ⟨b, off + j, none⟩) (Hbb.out.block b hbs hbq)).trans (hc j t ht)
      have hbz : b < wr.heap.size := Nat.lt_of_lt_of_le hbs Hbb.out.size
      have HTt := Lib.hid ht
      have HAt := Lib.hid (ddL_at (S := S) (f := f) (l := l) hkl)
      clear hbq
      clear hc hkl ht
      have c0 := k0.cell 0; have c1 := k0.cell 1; have c2 := k0.cell 2; have c3 := k0.cell 3; simp at c0 c1 c2 c3; have z0 := k0.frozen 0; have z1 := k0.frozen 1; have z2 := k0.frozen 2; have z3 := k0.frozen 3; have l0 := k0.lt
      clear k0
      go_wp2_with fail
      refine (dressing_any T t f l (ddC S ts f l j) (by rw [show cn T.g = (ddK S ts f l j).g from congrArg Sn.g HTk.out]; exact (HGP.out j).1) HF.out.1 (by have := ddC_le S ts f l j; omega) ql qt qg qf _ OO2.out).mono ?_
      rintro e w3 ⟨T1, x, rfl, hT1, hx, o3, b3⟩
      have hnx := dd_next HTk.out HTt.out hT1 hx
      have OC := Lib.hid (show DEnv w3 ql qt qg qf f l (ddC S ts f l (j + 1)) by rw [dd_cnt HTk.out]; exact o3)
      have BE := Lib.hid b3
      have hqW : qt < w.heap.size := LQ.out.2.1
      have hqw : w.heap.size < W.heap.size := hs0
      have HNX := Lib.hid hnx
      have B3 : Hid (Kp qt w w3) := Hbb.out.trans b3
      have O3 : Hid (w3.ownsRow W.heap.size 24 1 _ j (fs.map (Value.float .f32))) := own_kp Hown.out b3 (by omega)
      have k0 := Blk.kp KK0.out b3 (by omega)
      have KA := Lib.hid k0
      have KB := Lib.hid (Blk.kp KK1.out b3 (by omega))
      have hw3 : W.heap.size ≤ w3.heap.size := Nat.le_trans hws b3.size
      clear b3 o3 hqW hT1 hx hnx c0 c1 c2 c3 z0 z1 z2 z3 l0 e0
      have c0 := k0.cell 0; have c1 := k0.cell 1; have c2 := k0.cell 2; have c3 := k0.cell 3; simp at c0 c1 c2 c3; have z0 := k0.frozen 0; have z1 := k0.frozen 1; have z2 := k0.frozen 2; have z3 := k0.frozen 3; have l0 := k0.lt
      clear k0
      have hba := own_base Hown.out
      have Hba := Lib.hid hba
      clear hba
      have hq0 : w.heap.size < W.heap.size := by omega
      have hq1 : w.heap.size + 1 ≠ w.heap.size := by omega
      go_wp2_with (at_builtin; refine wpList_append_own _ rfl _ _ 41 rfl W.heap.size 24 i0 _ 1 4 Try.underlying41 hi hz0 hz1 hz2 rfl (by omega) _ j _ rfl (((own_setO (own_setO (own_setO (own_setO O3.out hq0 0 _) hq0 1 _) hq0 2 _) hq0 3 _).alloc _).alloc _) _ 1 _ [_] rfl rfl (World.news_of_block (cs := #[_]) (new_at (by simp) _)) (by intro u hu; simp at hu; subst hu; rfl) (by unfold maxLen; omega) (by omega) (by simp; omega) ?_; intro v9 w9 hown9 hgrow9 hif9)
      all_goals
        have hr0 : ∀ q, q < W.heap.size → some q ≠ _ := fun q hq h => by have := (Hba.out q h.symm).1; omega
        have hnr := hr0
        have KA9 := Lib.hid ((((((KA.out.set 0 _).set 1 _).set 2 _).set 3 _).push _).push _ |>.grown hgrow9 (hr0 _ hq0))
        have KB9 := Lib.hid ((((((KB.out.setO hq1 0 _).setO hq1 1 _).setO hq1 2 _).setO hq1 3 _).push _).push _ |>.grown hgrow9 (hr0 _ (by omega)))
        have OC9 := Lib.hid ((((((OC.out.setI LQ.out (Nat.le_refl _) 0 _).setI LQ.out (Nat.le_refl _) 1 _).setI LQ.out (Nat.le_refl _) 2 _).setI LQ.out (Nat.le_refl _) 3 _).push _).push _ |>.grown LQ.out hgrow9 (fun q hq => hr0 q (by omega)))
        have B9 : Hid (Kp qt w w9) := B3.out.put ((((b_set (b_set (b_set (b_set (Below.refl _ _) (Nat.le_refl _) _ _) (Nat.le_refl _) _ _) (Nat.le_refl _) _ _) (Nat.le_refl _) _ _).alloc (by have := B3.out.size; simp; omega) _).alloc (by have := B3.out.size; simp; omega) _).grown hgrow9 (by have := B3.out.size; simp; omega) (fun k h => by have := (Hba.out k h).1; omega))
        have O9 : Hid (w9.ownsRow W.heap.size 24 1 v9 (j + 1) ((fs ++ [x]).map (Value.float .f32))) := by
          rw [List.map_append]
          exact hown9
        have e9 : Hid ((fs ++ [x]).map cn = (ddL S ts f l).take (j + 1)) := takeD_snoc Hcs.out (by rw [HAt.out, HNX.out.2])
        have l9 : Hid ((fs ++ [x]).length = j + 1) := by rw [List.length_append, Hfl.out]; rfl
        have s9 : W.heap.size ≤ w9.heap.size := by have := hgrow9.size; simp at this; omega
        clear hown9 hgrow9 hif9 hr0 hnr c0 c1 c2 c3 z0 z1 z2 z3
        go_roundw
        case rel => exact ⟨j + 1, fs ++ [x], T1, by omega, by go_num, O9.out, e9.out, l9.out, HNX.out.1, KA9.out, KB9.out, OC9.out, B9.out, s9⟩
        case measure => simp [intOf]; omega
    · obtain rfl : j = n := by omega
      have hz : fs.map cn = ddL S ts f l := by
        have := Hcs.out
        rwa [List.take_of_length_le (by rw [ddL_len, Hl.out]; exact Nat.le_refl _)] at this
      have Hz := Lib.hid hz; clear hz
      have c0 := k0.cell 0; have c1 := k0.cell 1; have c2 := k0.cell 2; have c3 := k0.cell 3; simp at c0 c1 c2 c3; have z0 := k0.frozen 0; have z1 := k0.frozen 1; have z2 := k0.frozen 2; have z3 := k0.frozen 3; have l0 := k0.lt
      clear k0
      have k1 := KK1.out
      have d0 := k1.cell 0; have d1 := k1.cell 1; have d2 := k1.cell 2; have d3 := k1.cell 3
      simp at d0 d1 d2 d3
      have y0 := k1.frozen 0; have y1 := k1.frozen 1; have y2 := k1.frozen 2; have y3 := k1.frozen 3
      have l1 := k1.lt
      clear k1
      go_wp2
      have q1 : w.heap.size ≤ w.heap.size + 1 := by omega
      have q3 : w.heap.size + 1 < W.heap.size := hs1
      refine bodyPost_ret (ret_snc (T := T) Try.results65 rfl ((((KK1.out.set 0 _).set 1 _).set 2 _).set 3 _)) rfl ⟨_, _, _, fs, rfl, HTk.out, ?_, Hfl.out, Hz.out, ?_, ?_⟩
      · exact own_more (own_setO (own_setO (own_setO (own_setO Hown.out q3 0 _) q3 1 _) q3 2 _) q3 3 _) (by omega)
      · exact (((OO2.out.setI LQ.out q1 0 _).setI LQ.out q1 1 _).setI LQ.out q1 2 _).setI LQ.out q1 3 _
      · exact Hbb.out.put (b_set (b_set (b_set (b_set (Below.refl _ _) q1 _ _) q1 _ _) q1 _ _) q1 _ _)
end Go.Proofs.Ytjkgiknklkfipaa
