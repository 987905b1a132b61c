/-
  The speed at which a torque is the load: the model's loop; the program's halvings, its panic and its recovery.
-/
import Derived.Test.YtjkgiknklkfipaaHs
import Derived.Defers
import Derived.Recover
import Derived.ScopeJumps
import Derived.WalkMore
import Derived.WalkLawsBesides
namespace Go.Proofs.Ytjkgiknklkfipaa
open Go.RowKit Go.ChangeShapes Go.WideShapes Go.Deep
attribute [local go_sem ↓] Go.wp_at_zero Go.wp_at_succ
set_option linter.unusedVariables false
set_option linter.unusedSimpArgs false
set_option maxRecDepth 100000
theorem cn_sumLd (ps : List Sn) (a b : Nat) : cn (sumLd ps a b) = sumLd ps a b := by
  unfold sumLd
  rcases List.eq_nil_or_concat ps with rfl | ⟨l, x, rfl⟩
  · exact cn_cn 0
  · rw [List.concat_eq_append, List.foldl_append]
    exact cn_f2 _ _ _
def halfStep (ld : Nat → Nat) (t : Nat) (p : Nat × Nat) : Nat × Nat := if oGt (ld (f2 .quo (f2 .add p.1 p.2) (cn 1073741824))) t then (p.1, f2 .quo (f2 .add p.1 p.2) (cn 1073741824)) else (f2 .quo (f2 .add p.1 p.2) (cn 1073741824), p.2)
def halvN (ld : Nat → Nat) (t : Nat) : Nat → Nat × Nat → Nat × Nat
  | 0, p => p
  | k + 1, p => halfStep ld t (halvN ld t k p)
def steadyC (ps : List Sn) (t fd k : Nat) : Nat := (halvN (fun m => sumLd ps m fd) t k (cn 0, cn 1149239296)).1
theorem halv_step {ld : Nat → Nat} (hld : ∀ {a b}, cn a = cn b → ld a = ld b) {t k lo hi m r : Nat} {p : Nat × Nat} (h : (cn lo, cn hi) = halvN ld t k p) (hm : cn m = f2 .quo (f2 .add (cn lo) (cn hi)) (cn 1073741824)) (hr : cn r = ld m) :
    halvN ld t (k + 1) p = if oGt r t then (cn lo, cn m) else (cn m, cn hi) := by
  show halfStep ld t (halvN ld t k p) = _
  rw [← h]
  unfold halfStep
  dsimp only
  rw [← hm, show ld (cn m) = ld m from hld (cn_cn m), ← hr, show oGt (cn r) t = oGt r t from oGt_cn (cn_cn r) rfl]
/-- The call returns a number and a truth value, and turns nothing that was there. -/
def RFB (c : Nat) (b : Bool) (w : World) (e : Ending) (w' : World) : Prop := ∃ r, e = .returned (.tuple #[.float .f32 r, .bool b]) ∧ CN r c ∧ Below w.heap.size w w'
def steadyV (ps : List Sn) (t fd k : Nat) : Nat := if oGt (sumLd ps 0 fd) t then cn 0 else steadyC ps t fd k
set_option maxHeartbeats 4000000 in
theorem specSteady_any (A : Option Addr) (n c : Nat) (ps : List Sn) (t fd K : Nat) (w : World) (hl : ps.length = n) (hn : n ≤ 1048576) (hK : K ≤ 60) (hT : Sn.L w w.heap.size A ps) :
    Calls Try.prog 92 #[.slice A n c, .float .f32 t, .float .f32 fd, .int .i64 (K : Int)] w (RFB (steadyV ps t fd K) (!oGt (sumLd ps 0 fd) t) w) := by
  obtain ⟨R, N, hR, hC⟩ := ops_fun Try.prog 24; have ra := hR .add rfl; have rs := hR .sub rfl; have rm := hR .mul rfl; have rq := hR .quo rfl; have HC := Lib.hid hC; clear hC hR
  have Hl := Lib.hid hl; clear hl
  have HT := Lib.hid hT; clear hT
  rcases Bool.eq_false_or_eq_true (oGt (sumLd ps 0 fd) t) with g | g
  · unfold steadyV
    rw [g]
    have G := Lib.hid g; clear g
    go_enter Try.func92, Try.ntmps92
    go_wp2_with (go_at_call 116; refine (specSumL_any A n c ps 0 fd _ Hl.out hn HT.out).mono ?_; rintro e w1 ⟨r, rfl, hr, b1⟩; have ho : FloatKind.f32.format.order r t = some .gt := by (have h1 : oGt r t = true := (oGt_cn (show cn r = cn (sumLd ps 0 fd) by rw [show cn r = sumLd ps 0 fd from hr]; exact (cn_sumLd ps 0 fd).symm) rfl).trans G.out; unfold oGt at h1; simpa using h1))
    go_ret2
    refine ⟨_, rfl, cn_lit _, ?_⟩
    (repeat (first | exact Below.refl _ _ | refine b_drewN ?_ _ | refine b_drew ?_ | refine b_alloc ?_ _ | refine b_then ?_ (by assumption)))
  · unfold steadyV
    rw [g]
    have G := Lib.hid g; clear g
    go_enter Try.func92, Try.ntmps92
    go_wp2_with (go_at_call 116; refine (specSumL_any A n c ps 0 fd _ Hl.out hn HT.out).mono ?_; rintro e w1 ⟨r, rfl, hr, b1⟩; have h1 : oGt r t = false := (oGt_cn (show cn r = cn (sumLd ps 0 fd) by rw [show cn r = sumLd ps 0 fd from hr]; exact (cn_sumLd ps 0 fd).symm) rfl).trans G.out; have ho := ((tf_gt h1).2 rfl).1; have ho2 := ((tf_gt h1).2 rfl).2; clear h1)
    have B1 := Lib.hid b1
    clear ho ho2 hr b1
    go_loopw [10, 11, 12] (fun u v i wr => ∃ (k lo hi : Nat), k ≤ K ∧ i = .int .i64 k ∧ u = .float .f32 lo ∧ v = .float .f32 hi ∧ Hid ((cn lo, cn hi) = halvN (fun m => sumLd ps m fd) t k (cn 0, cn 1149239296)) ∧ Below w.heap.size w wr) (fun _ _ i _ => K - (intOf i).toNat)
    case atStart => exact ⟨0, 0, 1149239296, Nat.zero_le _, rfl, rfl, rfl, (by show _ = _; rfl), B1.out⟩
    case round =>
      obtain ⟨k, lo, hi, hk, rfl, rfl, rfl, hp, hb⟩ := hrel
      have Hb := Lib.hid hb; clear hb
      by_cases hlt : k < K
      · have hmid : Hid (∀ w1 w2, cn (R .quo (R .add lo hi w1) 1073741824 w2) = f2 .quo (f2 .add (cn lo) (cn hi)) (cn 1073741824)) := fun w1 w2 => by rw [HC.out .quo rfl, HC.out .add rfl]
        go_wp2_with fail
        refine (specSumL_any A n c ps _ fd _ Hl.out hn (HT.out.keep (b_drewN Hb.out _))).mono ?_
        rintro e w5 ⟨r, rfl, hr, b5⟩
        have hst := Lib.hid (halv_step (ld := fun m => sumLd ps m fd) (fun h => sumLd_cn ps h rfl) (t := t) hp (hmid.out _ _) hr)
        have B5 : Hid (Below w.heap.size w w5) := b_then (b_drewN Hb.out _) b5
        clear hr b5 hp
        go_wp2
        all_goals
          rename_i hcmp
          first
            | (have hc : Hid (oGt r t = true) := by (show _ = _; unfold oGt; simpa using hcmp))
            | (have hc : Hid (oGt r t = false) := by (show _ = _; unfold oGt; simpa using hcmp))
          clear hcmp
          go_roundw
          case rel =>
            refine ⟨k + 1, _, _, by omega, by go_num, rfl, rfl, ?_, B5.out⟩
            show _ = _
            rw [hst.out, hc.out]
            rfl
          case measure => simp [intOf]; omega
      · obtain rfl : k = K := by omega
        go_wp2
        go_ret2
        refine ⟨lo, rfl, ?_, Hb.out⟩
        have hp2 : (cn lo, cn hi) = _ := hp
        unfold CN steadyC
        rw [← hp2]
/-- What the program's closure has captured: the list of stones and the feed. -/
def Env (w : World) (q3 q2 : Nat) (A : Option Addr) (n c : Nat) (ps : List Sn) (fd : Nat) : Prop := Sn.L w w.heap.size A ps ∧ One w q3 (.slice A n c) 117 ∧ One w q2 (.float .f32 fd) 24
theorem Env.on {w W w' : World} {q3 q2 : Nat} {A : Option Addr} {n c : Nat} {ps : List Sn} {fd : Nat} (h : Env w q3 q2 A n c ps fd) (hW : W.heap = w.heap) (b : Below W.heap.size W w') : Env w' q3 q2 A n c ps fd := by
  refine ⟨?_, h.2.1.on hW b, h.2.2.on hW b⟩
  have h1 : Sn.L W W.heap.size A ps := fun h0 => by
    obtain ⟨b, off, e, h1, hc⟩ := h.1 h0
    exact ⟨b, off, e, by rw [hW]; exact h1, fun i p hp => rangeAt_of_block (hc i p hp) (by rw [hW])⟩
  exact h1.keep b
theorem clSum_env {A : Option Addr} {n c : Nat} {ps : List Sn} {fd q3 q2 : Nat} (hl : ps.length = n) (hn : n ≤ 1048576) (a : Nat) (w : World) (h : Env w q3 q2 A n c ps fd) :
    Calls Try.prog 119 #[.float .f32 a, .pointer (some ⟨q3, 0, none⟩), .pointer (some ⟨q2, 0, none⟩)] w (RF (sumLd ps a fd) w) := clSumL_any A n c ps a fd q3 q2 w hl hn h.1 h.2.1 h.2.2
set_option maxHeartbeats 1000000 in
theorem halve_panics {A : Option Addr} {n c : Nat} {ps : List Sn} {fd q3 q2 : Nat} (hl : ps.length = n) (hn : n ≤ 1048576) (t : Nat) (K : Int) (w : World) (h : Env w q3 q2 A n c ps fd) (g : oGt (sumLd ps 0 fd) t = true) :
    Calls Try.prog 122 #[.func (.func 119) #[] #[.pointer (some ⟨q3, 0, none⟩), .pointer (some ⟨q2, 0, none⟩)], .float .f32 t, .int .i64 K] w fun e w' => e = .panicked [{ v := .iface 151 (.agg #[]), recovered := false }] ∧ Below w.heap.size w w' := by
  have G := Lib.hid g; clear g
  have H := Lib.hid h; clear h
  have Hl := Lib.hid hl; clear hl
  go_enter Try.func122, Try.ntmps122
  go_wp2
  go_step3
  go_wp2_with fail
  refine (clSum_env Hl.out hn 0 _ H.out).mono ?_
  rintro e w1 ⟨r, rfl, hr, b1⟩
  have h1 : oGt r t = true := (oGt_cn (show cn r = cn (sumLd ps 0 fd) by rw [show cn r = sumLd ps 0 fd from hr]; exact (cn_sumLd ps 0 fd).symm) rfl).trans G.out
  have ho := (tf_gt h1).1 rfl
  clear h1
  go_wp2
  exact ⟨rfl, rfl, b1⟩
set_option maxHeartbeats 4000000 in
theorem halve_any {A : Option Addr} {n c : Nat} {ps : List Sn} {fd q3 q2 : Nat} (hl : ps.length = n) (hn : n ≤ 1048576) (t : Nat) (K : Nat) (hK : K ≤ 60) (w : World) (h : Env w q3 q2 A n c ps fd) (g : oGt (sumLd ps 0 fd) t = false) :
    Calls Try.prog 122 #[.func (.func 119) #[] #[.pointer (some ⟨q3, 0, none⟩), .pointer (some ⟨q2, 0, none⟩)], .float .f32 t, .int .i64 (K : Int)] w (RF (steadyC ps t fd K) w) := by
  obtain ⟨R, N, hR, hC⟩ := ops_fun Try.prog 24; have ra := hR .add rfl; have rs := hR .sub rfl; have rm := hR .mul rfl; have rq := hR .quo rfl; have HC := Lib.hid hC; clear hC hR
  have G := Lib.hid g; clear g
  have H := Lib.hid h; clear h
  have Hl := Lib.hid hl; clear hl
  go_enter Try.func122, Try.ntmps122
  go_wp2
  refine wp_scope_jumps 0 (fun a' w' => ∃ (k m lo hi : Nat) (u9 u10 u11 u12 u13 u14 u15 u16 u17 u18 u19 u20 u21 u22 u23 u24 u25 u26 u27 u28 u29 u30 u31 : Value), k + m = K ∧ Hid ((cn lo, cn hi) = halvN (fun m => sumLd ps m fd) t k (cn 0, cn 1149239296)) ∧ Below w.heap.size w w' ∧ a' = { tmps := #[.func (.func 119) #[] #[.pointer (some ⟨q3, 0, none⟩), .pointer (some ⟨q2, 0, none⟩)], .float .f32 t, .int .i64 (m : Int), undef, undef, undef, .float .f32 0, .float .f32 lo, .float .f32 hi, u9, u10, u11, u12, u13, u14, u15, u16, u17, u18, u19, u20, u21, u22, u23, u24, u25, u26, u27, u28, u29, u30, u31], defers := [] }) (fun a' _ => (intOf (a'.tmps.getD 2 undef)).toNat) rfl ?_ ?_
  · go_wp2_with fail
    refine (clSum_env Hl.out hn 0 _ H.out).mono ?_
    rintro e w1 ⟨r, rfl, hr, b1⟩
    have h1 : oGt r t = false := (oGt_cn (show cn r = cn (sumLd ps 0 fd) by rw [show cn r = sumLd ps 0 fd from hr]; exact (cn_sumLd ps 0 fd).symm) rfl).trans G.out
    have ho := ((tf_gt h1).2 rfl).1; have ho2 := ((tf_gt h1).2 rfl).2
    have B1 := Lib.hid b1
    clear h1 hr b1
    go_wp2_with fail
    go_step3
    have hp : Hid ((cn 0, cn 1149239296) = halvN (fun m => sumLd ps m fd) t 0 (cn 0, cn 1149239296)) := rfl
    have Hb : Hid (Below w.heap.size w w1) := B1.out
    clear ho ho2 B1
    have hmid : Hid (∀ w1 w2, cn (R .quo (R .add 0 1149239296 w1) 1073741824 w2) = f2 .quo (f2 .add (cn 0) (cn 1149239296)) (cn 1073741824)) := fun w1 w2 => by rw [HC.out .quo rfl, HC.out .add rfl]
    by_cases hz : K = 0
    · subst hz
      go_wp2
      simp only [Exit.jump]
      go_ret
      refine ⟨_, rfl, ?_, Hb.out⟩
      have hp2 : (cn 0, cn 1149239296) = _ := hp
      unfold CN steadyC
      rw [← hp2]
    · obtain ⟨j, rfl⟩ : ∃ j, K = j + 1 := ⟨K - 1, by omega⟩
      go_wp2_with fail
      refine (clSum_env Hl.out hn _ _ (Env.on H.out (by rfl) (b_drewN Hb.out _))).mono ?_
      rintro e w5 ⟨r5, rfl, hr5, b5⟩
      have hst := Lib.hid (halv_step (ld := fun m => sumLd ps m fd) (fun h => sumLd_cn ps h rfl) (t := t) hp (hmid.out _ _) hr5)
      have B5 : Hid (Below w.heap.size w w5) := b_then (b_drewN Hb.out _) b5
      clear hr5 b5 hp
      go_wp2
      all_goals
        rename_i hcmp
        first
          | (have hc : Hid (oGt r5 t = true) := by (show _ = _; unfold oGt; simpa using hcmp))
          | (have hc : Hid (oGt r5 t = false) := by (show _ = _; unfold oGt; simpa using hcmp))
        clear hcmp
        go_step3
        refine ⟨rfl, 1, j, _, _, _, _, _, _, _, _, _, _, _, _, _, _, _, _, _, _, _, _, _, _, _, _, _, by omega, ?_, B5.out, rfl⟩
        show _ = _
        rw [show (1 : Nat) = 0 + 1 from rfl, hst.out, hc.out]
        rfl
  · rintro a' w1 ⟨k, m, lo, hi, u9, u10, u11, u12, u13, u14, u15, u16, u17, u18, u19, u20, u21, u22, u23, u24, u25, u26, u27, u28, u29, u30, u31, hkm, hp, hb, rfl⟩
    have Hb := Lib.hid hb; clear hb
    have hmid : Hid (∀ w1 w2, cn (R .quo (R .add lo hi w1) 1073741824 w2) = f2 .quo (f2 .add (cn lo) (cn hi)) (cn 1073741824)) := fun w1 w2 => by rw [HC.out .quo rfl, HC.out .add rfl]
    by_cases hz : m = 0
    · subst hz
      go_wp2
      simp only [Exit.jump]
      go_ret
      refine ⟨_, rfl, ?_, Hb.out⟩
      have hp2 : (cn lo, cn hi) = _ := hp
      unfold CN steadyC
      obtain rfl : k = K := by omega
      rw [← hp2]
    · obtain ⟨j, rfl⟩ : ∃ j, m = j + 1 := ⟨m - 1, by omega⟩
      go_wp2_with fail
      refine (clSum_env Hl.out hn _ _ (Env.on H.out (by rfl) (b_drewN Hb.out _))).mono ?_
      rintro e w5 ⟨r5, rfl, hr5, b5⟩
      have hst := Lib.hid (halv_step (ld := fun m => sumLd ps m fd) (fun h => sumLd_cn ps h rfl) (t := t) hp (hmid.out _ _) hr5)
      have B5 : Hid (Below w.heap.size w w5) := b_then (b_drewN Hb.out _) b5
      clear hr5 b5 hp
      go_wp2
      all_goals
        rename_i hcmp
        first
          | (have hc : Hid (oGt r5 t = true) := by (show _ = _; unfold oGt; simpa using hcmp))
          | (have hc : Hid (oGt r5 t = false) := by (show _ = _; unfold oGt; simpa using hcmp))
        clear hcmp
        go_step3
        refine ⟨rfl, ⟨k + 1, j, _, _, _, _, _, _, _, _, _, _, _, _, _, _, _, _, _, _, _, _, _, _, _, _, _, by omega, ?_, B5.out, rfl⟩, ?_⟩
        · show _ = _
          rw [hst.out, hc.out]
          rfl
        · simp [intOf]
          try omega
theorem asrt_s (w : World) : (Instr.typeAssert (.iface 151 (.agg #[])) 20 141 true).run Try.prog w = .ok (.tuple #[.iface 151 (.agg #[]), .bool true]) w := by kernel_rfl
theorem asrt_n (w : World) : (Instr.typeAssert .nilIface 20 141 true).run Try.prog w = .ok (.tuple #[.nilIface, .bool false]) w := by kernel_rfl
theorem meth_s (w : World) : (method 270 151 (.agg #[]) "loop.example/g01344/impl.code").run Try.prog w = .ok (153, .agg #[]) w := by kernel_rfl
theorem neq_nn (w : World) : (binOp .neq 20 .nilIface .nilIface).run Try.prog w = .ok (.bool false) w := by kernel_rfl
theorem code_s (w : World) : Calls Try.prog 153 #[.agg #[]] w (RV (.int .i64 6) w) := by
  go_enter Try.func153, Try.ntmps153
  go_wp2
  go_ret
  refine ⟨rfl, ?_⟩
  (repeat (first | exact Below.refl _ _ | refine b_drewN ?_ _ | refine b_drew ?_ | refine b_alloc ?_ _ | refine b_then ?_ (by assumption)))
theorem catch_idle (q6 q7 : Nat) (w : World) :
    CallsD Try.prog 121 #[.pointer (some ⟨q6, 0, none⟩), .pointer (some ⟨q7, 0, none⟩)] .returning w fun e u' w' => e = .returned (.tuple #[]) ∧ u' = .returning ∧ w' = w := by
  have a1 := asrt_n
  have a2 := neq_nn
  refine callsD_of_wpS Try.func121 rfl fun c₀ cs hu => ?_
  apply wpS_seq
  apply wpS_region
  simp [wpOpsS, go_sem, recoverD, hu, Try.ntmps121, Exit.thenS]
  apply wpS_seq
  apply wpS_region
  simp [wpOpsS, go_sem, a1, Exit.thenS]
  apply wpS_seq
  apply wpS_region
  simp [wpOpsS, go_sem, Exit.thenS]
  refine wpS_cond (t := false) (by simp [Act.eval, Array.replicate]) ?_
  simp only [Bool.false_eq_true, if_false]
  apply wpS_seq
  apply wpS_region
  simp [wpOpsS, go_sem, a2, Exit.thenS]
  refine wpS_cond (t := false) (by simp [Act.eval, Array.replicate]) ?_
  simp only [Bool.false_eq_true, if_false]
  refine wpS_of_wp (wp_skip ?_)
  cases c₀
  simp_all [bodyPostS, results, Try.results121]
theorem catch_panicking (q6 q7 : Nat) (x y : Value) (older : List PanicEntry) (w : World) (h6 : One w q6 x 24) (h7 : One w q7 y 2) (hne : q6 ≠ q7) :
    CallsD Try.prog 121 #[.pointer (some ⟨q6, 0, none⟩), .pointer (some ⟨q7, 0, none⟩)] (.panicking ({ v := .iface 151 (.agg #[]), recovered := false } :: older)) w fun e u' w' =>
      e = .returned (.tuple #[]) ∧ u' = .panicking ({ v := .iface 151 (.agg #[]), recovered := true } :: older) ∧ ∃ w2, Below w.heap.size w w2 ∧ w' = (w2.setCell ⟨q6, 0, none⟩ (.float .f32 0)).setCell ⟨q7, 0, none⟩ (.int .i64 6) := by
  have a1 := asrt_s
  have a2 := meth_s
  refine callsD_of_wpS Try.func121 rfl fun c₀ cs hu => ?_
  apply wpS_seq
  apply wpS_region
  simp [wpOpsS, go_sem, recoverD, hu, Try.ntmps121, Exit.thenS]
  apply wpS_seq
  apply wpS_region
  simp [wpOpsS, go_sem, a1, Exit.thenS]
  apply wpS_seq
  apply wpS_region
  simp [wpOpsS, go_sem, Exit.thenS]
  refine wpS_cond (t := true) (by simp [Act.eval, Array.replicate]) ?_
  simp only [if_true]
  refine wpS_of_wp ?_
  generalize hQ : (fun (e : Exit) (a' : Act) (w' : World) => _) = Q
  go_wp2_with fail
  refine (code_s _).mono ?_
  rintro e w2 ⟨rfl, b2⟩
  have k6 := One.on h6 (by rfl) b2
  have k7 := One.on h7 (by rfl) b2
  have c6 := k6.cell; have c7 := k7.cell; have f6 := k6.frozen; have f7 := k7.frozen; have l6 := k6.lt; have l7 := k7.lt
  have B2 := Lib.hid b2; have Hu := Lib.hid hu
  clear k6 k7 h6 h7 b2 hu
  go_wp2
  subst hQ
  exact ⟨rfl, .panicking ({ v := .iface 151 (.agg #[]), recovered := true } :: older), rfl, .tuple #[], by simp [results, Try.results121], rfl, rfl, w2, B2.out, rfl⟩
def codeSt (g : Bool) : Int := if g then 6 else 0
set_option maxHeartbeats 4000000 in
theorem steady_no {A : Option Addr} {n c : Nat} {ps : List Sn} {fd q3 q2 : Nat} (hl : ps.length = n) (hn : n ≤ 1048576) (t : Nat) (K : Int) (w : World) (h : Env w q3 q2 A n c ps fd) (g : oGt (sumLd ps 0 fd) t = true) :
    Calls Try.prog 98 #[.func (.func 119) #[] #[.pointer (some ⟨q3, 0, none⟩), .pointer (some ⟨q2, 0, none⟩)], .float .f32 t, .int .i64 K] w (RFC (cn 0) 6 w) := by
  have hmf : ∀ (fn : Fn) (first cap : Array Value) (w : World), (Instr.makeFunc fn first cap).run Try.prog w = .ok (.func fn first cap) w := fun _ _ _ _ => rfl
  have G := Lib.hid g; clear g
  have H := Lib.hid h; clear h
  have Hl := Lib.hid hl; clear hl
  go_enter_defers Try.func98, Try.ntmps98
  go_wp2_with fail
  have k6 : One ((w.alloc (.cells #[.float .f32 0] 24)).alloc (.cells #[.int .i64 0] 2)) w.heap.size (.float .f32 0) 24 := (One.new w _ _).push _
  have k7 : One ((w.alloc (.cells #[.float .f32 0] 24)).alloc (.cells #[.int .i64 0] 2)) (w.heap.size + 1) (.int .i64 0) 2 := by
    have e : (w.alloc (.cells #[.float .f32 0] 24)).heap.size = w.heap.size + 1 := by simp
    rw [← e]
    exact One.new _ _ _
  have bw : Below w.heap.size w ((w.alloc (.cells #[.float .f32 0] 24)).alloc (.cells #[.int .i64 0] 2)) := b_alloc (b_alloc (Below.refl _ _) _) _
  have HW := Lib.hid (Env.on H.out (by rfl) bw)
  have K6 := Lib.hid k6; have K7 := Lib.hid k7; have Bw := Lib.hid bw
  clear k6 k7 bw
  generalize ((w.alloc (.cells #[.float .f32 0] 24)).alloc (.cells #[.int .i64 0] 2)) = W at *
  refine (halve_panics Hl.out hn t K _ HW.out G.out).mono ?_
  rintro e w1 ⟨rfl, b1⟩
  refine leaves_cons (f := 121) (args := #[.pointer (some ⟨w.heap.size, 0, none⟩), .pointer (some ⟨w.heap.size + 1, 0, none⟩)]) (by simp) (by simp [go_sem]) ?_
  refine (catch_panicking w.heap.size (w.heap.size + 1) (.float .f32 0) (.int .i64 0) [] _ (One.on K6.out (by rfl) b1) (One.on K7.out (by rfl) b1) (by omega)).mono ?_
  rintro e u' w'' ⟨rfl, rfl, w2, b2, rfl⟩
  have B1 : Below w.heap.size w w1 := b_then Bw.out b1
  have m6 := ((One.on (One.on K6.out (by rfl) b1) (by rfl) b2).set (.float .f32 0)).setO (q' := w.heap.size + 1) (by omega) (.int .i64 6)
  have m7 := ((One.on (One.on K7.out (by rfl) b1) (by rfl) b2).setO (q' := w.heap.size) (by omega) (.float .f32 0)).set (.int .i64 6)
  have c6 := m6.cell; have c7 := m7.cell
  have hb : Below w.heap.size w ((w2.setCell ⟨w.heap.size, 0, none⟩ (.float .f32 0)).setCell ⟨w.heap.size + 1, 0, none⟩ (.int .i64 6)) := (Below.setCell (p := ⟨w.heap.size, 0, none⟩) (b_then B1 b2) (Nat.le_refl _) _).setCell (p := ⟨w.heap.size + 1, 0, none⟩) (by show w.heap.size ≤ w.heap.size + 1; omega) _
  generalize ((w2.setCell ⟨w.heap.size, 0, none⟩ (.float .f32 0)).setCell ⟨w.heap.size + 1, 0, none⟩ (.int .i64 6)) = Wx at *
  simp [Leaves, settle, results, Try.results98, go_sem, c6, c7]
  exact ⟨_, rfl, cn_lit _, hb⟩
set_option maxHeartbeats 4000000 in
theorem steady_ok {A : Option Addr} {n c : Nat} {ps : List Sn} {fd q3 q2 : Nat} (hl : ps.length = n) (hn : n ≤ 1048576) (t : Nat) (K : Nat) (hK : K ≤ 60) (w : World) (h : Env w q3 q2 A n c ps fd) (g : oGt (sumLd ps 0 fd) t = false) :
    Calls Try.prog 98 #[.func (.func 119) #[] #[.pointer (some ⟨q3, 0, none⟩), .pointer (some ⟨q2, 0, none⟩)], .float .f32 t, .int .i64 (K : Int)] w (RFC (steadyC ps t fd K) 0 w) := by
  have hmf : ∀ (fn : Fn) (first cap : Array Value) (w : World), (Instr.makeFunc fn first cap).run Try.prog w = .ok (.func fn first cap) w := fun _ _ _ _ => rfl
  have G := Lib.hid g; clear g
  have H := Lib.hid h; clear h
  have Hl := Lib.hid hl; clear hl
  go_enter_defers Try.func98, Try.ntmps98
  go_wp2_with fail
  have k6 : One ((w.alloc (.cells #[.float .f32 0] 24)).alloc (.cells #[.int .i64 0] 2)) w.heap.size (.float .f32 0) 24 := (One.new w _ _).push _
  have k7 : One ((w.alloc (.cells #[.float .f32 0] 24)).alloc (.cells #[.int .i64 0] 2)) (w.heap.size + 1) (.int .i64 0) 2 := by
    have e : (w.alloc (.cells #[.float .f32 0] 24)).heap.size = w.heap.size + 1 := by simp
    rw [← e]
    exact One.new _ _ _
  have bw : Below w.heap.size w ((w.alloc (.cells #[.float .f32 0] 24)).alloc (.cells #[.int .i64 0] 2)) := b_alloc (b_alloc (Below.refl _ _) _) _
  have HW := Lib.hid (Env.on H.out (by rfl) bw)
  have K6 := Lib.hid k6; have K7 := Lib.hid k7; have Bw := Lib.hid bw
  clear k6 k7 bw
  generalize ((w.alloc (.cells #[.float .f32 0] 24)).alloc (.cells #[.int .i64 0] 2)) = W at *
  refine (halve_any Hl.out hn t K hK _ HW.out G.out).mono ?_
  rintro e w1 ⟨r, rfl, hr, b1⟩
  have k6 := One.on K6.out (by rfl) b1
  have k7 := One.on K7.out (by rfl) b1
  have c6 := k6.cell; have c7 := k7.cell; have f6 := k6.frozen; have f7 := k7.frozen; have l6 := k6.lt; have l7 := k7.lt
  have M6 := Lib.hid k6; have M7 := Lib.hid k7
  have B1 : Hid (Below w.heap.size w w1) := b_then Bw.out b1
  clear k6 k7 b1
  go_wp2
  refine leaves_cons (f := 121) (args := #[.pointer (some ⟨w.heap.size, 0, none⟩), .pointer (some ⟨w.heap.size + 1, 0, none⟩)]) (by simp) (by simp [go_sem]) ?_
  refine (catch_idle w.heap.size (w.heap.size + 1) _).mono ?_
  rintro e u' w'' ⟨rfl, rfl, rfl⟩
  have m6 := (M6.out.set (.float .f32 r)).setO (q' := w.heap.size + 1) (by omega) (.int .i64 0)
  have m7 := (M7.out.setO (q' := w.heap.size) (by omega) (.float .f32 r)).set (.int .i64 0)
  clear c6 c7 f6 f7
  have c6 := m6.cell; have c7 := m7.cell
  have hb : Below w.heap.size w ((w1.setCell ⟨w.heap.size, 0, none⟩ (.float .f32 r)).setCell ⟨w.heap.size + 1, 0, none⟩ (.int .i64 0)) := (Below.setCell (p := ⟨w.heap.size, 0, none⟩) B1.out (Nat.le_refl _) _).setCell (p := ⟨w.heap.size + 1, 0, none⟩) (by show w.heap.size ≤ w.heap.size + 1; omega) _
  generalize ((w1.setCell ⟨w.heap.size, 0, none⟩ (.float .f32 r)).setCell ⟨w.heap.size + 1, 0, none⟩ (.int .i64 0)) = Wx at *
  simp [Leaves, settle, results, Try.results98, go_sem, c6, c7]
  exact ⟨_, rfl, hr, hb⟩
theorem steady_any {A : Option Addr} {n c : Nat} {ps : List Sn} {fd q3 q2 : Nat} (hl : ps.length = n) (hn : n ≤ 1048576) (t : Nat) (K : Nat) (hK : K ≤ 60) (w : World) (h : Env w q3 q2 A n c ps fd) :
    Calls Try.prog 98 #[.func (.func 119) #[] #[.pointer (some ⟨q3, 0, none⟩), .pointer (some ⟨q2, 0, none⟩)], .float .f32 t, .int .i64 (K : Int)] w (RFC (steadyV ps t fd K) (codeSt (oGt (sumLd ps 0 fd) t)) w) := by
  unfold steadyV codeSt
  rcases Bool.eq_false_or_eq_true (oGt (sumLd ps 0 fd) t) with g | g
  · rw [g]
    exact steady_no hl hn t K w h g
  · rw [g]
    exact steady_ok hl hn t K hK w h g
theorem loadWith_any (A : Option Addr) (n c fd : Nat) (w : World) :
    Calls Try.prog 97 #[.float .f32 fd, .slice A n c] w fun e w' => e = .returned (.func (.func 119) #[] #[.pointer (some ⟨w.heap.size + 1, 0, none⟩), .pointer (some ⟨w.heap.size, 0, none⟩)]) ∧
      (w.alloc (.cells #[.float .f32 fd] 24)).alloc (.cells #[.slice A n c] 117) = w' := by
  have hmf : ∀ (fn : Fn) (first cap : Array Value) (w : World), (Instr.makeFunc fn first cap).run Try.prog w = .ok (.func fn first cap) w := fun _ _ _ _ => rfl
  go_enter Try.func97, Try.ntmps97
  go_wp2
  go_ret
  exact ⟨rfl, rfl⟩
theorem env_new {A : Option Addr} {n c : Nat} {ps : List Sn} (fd : Nat) {w : World} (h : Sn.L w w.heap.size A ps) :
    Env ((w.alloc (.cells #[.float .f32 fd] 24)).alloc (.cells #[.slice A n c] 117)) (w.heap.size + 1) w.heap.size A n c ps fd := by
  refine ⟨h.keep (b_alloc (b_alloc (Below.refl _ _) _) _), ?_, (One.new w _ _).push _⟩
  have e : (w.alloc (.cells #[.float .f32 fd] 24)).heap.size = w.heap.size + 1 := by simp
  rw [← e]
  exact One.new _ _ _
/-- A list of one stone, made anew. -/
theorem one_stone (w : World) (S : Sn) : Sn.L (w.alloc (.cells #[.float .f32 S.d, .float .f32 S.r, .float .f32 S.b, .float .f32 S.g] 42)) (w.alloc (.cells #[.float .f32 S.d, .float .f32 S.r, .float .f32 S.b, .float .f32 S.g] 42)).heap.size (some ⟨w.heap.size, 0, none⟩) [S] := fun _ => by
  refine ⟨w.heap.size, 0, rfl, by simp, fun i p hp => ?_⟩
  obtain ⟨c0, c1, c2, c3⟩ := (AtSn.new w S).cells
  match i, hp with
  | 0, hp =>
    simp at hp
    subst hp
    intro j v hj
    unfold Sn.cells at hj
    match j, hj with
    | 0, hj => simp at hj; subst hj; exact c0
    | 1, hj => simp at hj; subst hj; exact c1
    | 2, hj => simp at hj; subst hj; exact c2
    | 3, hj => simp at hj; subst hj; exact c3
end Go.Proofs.Ytjkgiknklkfipaa
