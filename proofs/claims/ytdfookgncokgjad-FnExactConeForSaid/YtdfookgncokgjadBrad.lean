/-
  Radii that are looked for.
-/
import Derived.Test.YtdfookgncokgjadBapartI
namespace Go.Proofs.Ytdfookgncokgjad
open Go.RowKit Go.ChangeShapes Go.WideShapes Go.Deep
attribute [local go_sem ↓] Go.wp_at_zero Go.wp_at_succ
set_option linter.unusedVariables false
set_option linter.unusedSimpArgs false
theorem int_cmp_swap (a b : Int) : compare a b = (compare b a).swap := by
  rcases Int.lt_trichotomy a b with h | h | h
  · rw [Int.compare_eq_lt.2 h, Int.compare_eq_gt.2 h]; rfl
  · subst h; simp
  · rw [Int.compare_eq_gt.2 h, Int.compare_eq_lt.2 h]; rfl
theorem order_swap (a b : Nat) : FloatKind.f32.format.order a b = (FloatKind.f32.format.order b a).map Ordering.swap := by
  unfold FloatKind.format Ieee.Format.order
  simp only
  cases Ieee.single.read a with
  | nan s f => cases Ieee.single.read b <;> rfl
  | infinity s =>
    cases Ieee.single.read b with
    | nan s f => rfl
    | infinity t => cases s <;> cases t <;> rfl
    | number t n j => cases s <;> rfl
  | number s m i =>
    cases Ieee.single.read b with
    | nan s f => rfl
    | infinity t => cases t <;> rfl
    | number t n j =>
      simp only [Ieee.Datum.order, Option.map_some, Option.some.injEq, Int.min_comm j i]
      exact int_cmp_swap _ _
/-- The lesser one of 1024 and a number. -/
def mnF (s : Nat) : Nat := if oGt s 1149239296 then 1149239296 else s
theorem run_min_1024 {P : Program} (ts : Array TypeId) (t : TypeId) {s : Nat} (hs : nan32 s = false) (w : World) : (Builtin.min_ ts t #[.float .f32 1149239296, .float .f32 s]).run P w = .ok (.float .f32 (mnF s)) w := by
  have hsw := order_swap 1149239296 s
  have h1 : nan32 1149239296 = false := by decide +kernel
  have hne : ∃ o, FloatKind.f32.format.order s 1149239296 = some o := by
    unfold nan32 FloatKind.decode FloatKind.format at hs h1
    unfold FloatKind.format Ieee.Format.order
    simp only at hs h1 ⊢
    cases hx : Ieee.single.read s with
    | nan _ _ => rw [hx] at hs; simp [Ieee.Datum.isNaN] at hs
    | infinity p =>
      cases hy : Ieee.single.read 1149239296 with
      | nan _ _ => rw [hy] at h1; simp [Ieee.Datum.isNaN] at h1
      | infinity q => exact ⟨_, rfl⟩
      | number _ _ _ => exact ⟨_, rfl⟩
    | number _ _ _ =>
      cases hy : Ieee.single.read 1149239296 with
      | nan _ _ => rw [hy] at h1; simp [Ieee.Datum.isNaN] at h1
      | infinity q => exact ⟨_, rfl⟩
      | number _ _ _ => exact ⟨_, rfl⟩
  obtain ⟨o, ho⟩ := hne
  rw [ho] at hsw
  have hd : (FloatKind.f32.decode 1149239296).neg = false := by decide +kernel
  unfold mnF oGt
  cases o <;> simp [Builtin.min_, Builtin.min2, hsw, ho, hd, Ordering.swap]
def bAB (B : Bl) (a x : Nat) : Bl := { B with a := a, b := x }
theorem lenC_bz (B : Bl) (a x : Nat) : lenC (bAB B a x) = (fun z r => f2 .add (f2 .add (f2 .mul (cn 1073741824) (cn B.ap)) (f2 .mul halfC (f2 .add (cn a) z))) (f2 .quo (f2 .mul r r) (cn B.ap))) (cn x) (reachC (bAB B a x)) := rfl
theorem lenC_b (B : Bl) (a : Nat) {x y : Nat} (h : cn x = cn y) : lenC (bAB B a x) = lenC (bAB B a y) := by
  have hr : reachC (bAB B a x) = reachC (bAB B a y) := by
    have ho : oGt x a = oGt y a := oGt_cn h rfl
    unfold reachC sumC bAB
    simp only [h, ho]
  rw [lenC_bz, lenC_bz, h, hr]
theorem len_midb {B : Bl} {a r y m : Nat} (h : CN r (lenC (bAB (bAB B a y) a m))) : CN r ((fun m => lenC (bAB B a m)) (cn m)) := by
  unfold CN at *
  rw [h]
  exact lenC_b B a (cn_cn _).symm
def subF (B : Bl) (a : Nat) : Nat := (floatBits .sub .f32 B.ap a).getD 0
theorem ap_nan {B : Bl} (h : okB B = true) : nan32 B.ap = false := by
  unfold okB fitB at h
  simp only [Bool.and_eq_true] at h
  obtain ⟨_, _, h4, _⟩ := h
  unfold oLe FloatKind.format Ieee.Format.order at h4
  unfold nan32 FloatKind.decode FloatKind.format
  simp only at h4 ⊢
  cases hx : Ieee.single.read B.ap with
  | number s m e => rfl
  | infinity q => rfl
  | nan _ _ => rw [hx] at h4; simp [Ieee.Datum.order] at h4
theorem sub_some {x y : Nat} (hx : nan32 x = false) (hy : ∃ s m e, FloatKind.f32.decode y = .number s m e) : ∃ r, floatBits .sub .f32 x y = some r := by
  obtain ⟨s, m, e, hy⟩ := hy
  unfold nan32 at hx
  unfold FloatKind.decode FloatKind.format at hx hy
  simp only at hx hy
  simp only [floatBits, FloatKind.format, Ieee.Format.sub, hy, Ieee.Datum.opposite]
  cases hd : Ieee.single.read x with
  | nan _ _ => rw [hd] at hx; simp [Ieee.Datum.isNaN] at hx
  | infinity q => exact ⟨_, rfl⟩
  | number _ _ _ => exact ⟨_, rfl⟩
theorem sub_is {B : Bl} {a : Nat} (h : okB B = true) (ha : radB a = true) : floatBits .sub .f32 B.ap a = some (subF B a) ∧ nan32 (subF B a) = false := by
  obtain ⟨r, hr⟩ := sub_some (ap_nan h) (rad_num ha)
  have e : subF B a = r := by unfold subF; rw [hr]; rfl
  rw [e]
  exact ⟨hr, floatBits_notNan hr⟩
def nearB (B : Bl) (a hi l : Nat) : Bool := oLt hi 1031798784 || oGt (lenC (bAB B a 1031798784)) (cn l)
theorem near_l {B : Bl} {a hi l : Nat} (h : FloatKind.f32.format.order hi 1031798784 = some .lt) : nearB B a hi l = true := by
  unfold nearB; simp [oLt, h]
theorem near_or {B : Bl} {a hi l r : Nat} (hr : CN r (lenC (bAB B a 1031798784))) (h : (FloatKind.f32.format.order hi 1031798784 == some .lt) = true ∨ (FloatKind.f32.format.order r l == some .gt) = true) : nearB B a hi l = true := by
  unfold nearB
  rw [oGt_of hr]
  rcases h with h | h <;> simp [oLt, oGt, h]
theorem near_no {B : Bl} {a hi l r : Nat} (hr : CN r (lenC (bAB B a 1031798784))) (h : (FloatKind.f32.format.order hi 1031798784 == some .lt) = false ∧ (FloatKind.f32.format.order r l == some .gt) = false) : nearB B a hi l = false := by
  unfold nearB
  rw [oGt_of hr]
  unfold oLt oGt
  rw [h.1, h.2]
  rfl
def radR (B : Bl) (a hi l : Nat) : Nat := (halveN (fun m => lenC (bAB B a m)) (cn l) 40 (cn 1031798784, cn hi)).1
def codeF (B : Bl) (a l : Nat) : Int := if radB a && psB l then (if nearB B a (mnF (subF B a)) l then 6 else 0) else 2
def radC (B : Bl) (a l : Nat) : Nat := radR B a (mnF (subF B a)) l
theorem specOther_any (B : Bl) (a x : Nat) (w : World) : Calls Try.prog 77 #[.agg #[.float .f32 B.a, .float .f32 B.b, .float .f32 B.ap, .float .f32 B.g, .bool B.x], .float .f32 a, .float .f32 x] w (RF (lenC (bAB B a x)) w) := by
  have h0 := Lib.hid (At.new w (bAB B a x))
  go_enter Try.func77, Try.ntmps77
  go_wp2_with (go_at_call 57; refine (specLen_any (bAB B a x) _ _ (At.same h0.out (by rfl))).mono ?_; rintro e w2 ⟨r, rfl, hr, b2⟩)
  go_ret
  refine ⟨_, rfl, hr, ?_⟩
  (repeat (first | exact Below.refl _ _ | refine b_drewN ?_ _ | refine b_drew ?_ | refine b_alloc ?_ _ | refine b_then ?_ (by assumption)))
theorem specFor_2 {B : Bl} {a l : Nat} (h : radB a = false ∨ (radB a = true ∧ psB l = false)) (q : Nat) (w : World) (h0 : At w q B) : Calls Try.prog 65 #[.pointer (some ⟨q, 0, none⟩), .float .f32 a, .float .f32 l] w (RFC (cn 0) 2 w) := by
  rcases h with h | ⟨h, h'⟩
  all_goals
    go_enter Try.func65, Try.ntmps65
    go_wp2_with (first | (go_at_call 76; refine (l02Radius_any _ _).mono ?_; rintro e w1 ⟨rfl, rfl⟩) | (go_at_call 60; refine (l02Long_any _ _).mono ?_; rintro e w2 ⟨rfl, rfl⟩))
    go_ret2
    exact ⟨_, rfl, rfl, Below.refl _ _⟩
set_option maxHeartbeats 2000000 in
theorem specFor_6 {B : Bl} {a l s : Nat} (ha : radB a = true) (hl : psB l = true) (hs : floatBits .sub .f32 B.ap a = some s) (hn : nearB B a (mnF s) l = true) (q : Nat) (w : World) (h0 : At w q B) : Calls Try.prog 65 #[.pointer (some ⟨q, 0, none⟩), .float .f32 a, .float .f32 l] w (RFC (cn 0) 6 w) := by
  have rs := fun w => run_float_arith (P := Try.prog) w .sub 22 .f32 _ _ _ hs
  clear hs
  have Ha := Lib.hid h0; obtain ⟨c0, c1, c2, c3, c4⟩ := h0.cells; clear h0; rcases Bool.eq_false_or_eq_true (oGt s 1149239296) with ho | ho
  all_goals
    first | (have hm : mnF s = 1149239296 := by unfold mnF; rw [ho]; rfl) | (have hm : mnF s = s := by unfold mnF; rw [ho]; rfl)
    rw [hm] at hn
    have Hn := Lib.hid hn
    clear hn hm
    unfold oGt at ho
    go_enter Try.func65, Try.ntmps65
    go_wp2_with (first | (go_at_call 76; refine (l02Radius_any _ _).mono ?_; rintro e w1 ⟨rfl, rfl⟩) | (go_at_call 60; refine (l02Long_any _ _).mono ?_; rintro e w2 ⟨rfl, rfl⟩) | (go_at_call 77; refine (specOther_any B _ _ _).mono ?_; rintro e w3 ⟨r, rfl, hr, b3⟩))
    all_goals first
      | (go_ret2
         refine ⟨_, rfl, rfl, ?_⟩
         (repeat (first | exact Below.refl _ _ | refine b_drewN ?_ _ | refine b_drew ?_ | refine b_alloc ?_ _ | refine b_then ?_ (by assumption))))
      | (exfalso
         have := Hn.out
         rw [near_no hr (by assumption)] at this
         cases this)
set_option maxHeartbeats 2000000 in
theorem specFor_0 {B : Bl} {a l s : Nat} (ha : radB a = true) (hl : psB l = true) (hs : floatBits .sub .f32 B.ap a = some s) (hn : nearB B a (mnF s) l = false) (q : Nat) (w : World) (h0 : At w q B) : Calls Try.prog 65 #[.pointer (some ⟨q, 0, none⟩), .float .f32 a, .float .f32 l] w (RFC (radR B a (mnF s) l) 0 w) := by
  obtain ⟨R, N, hR, hC⟩ := ops_fun Try.prog 22
  have ra := hR .add rfl
  have rq := hR .quo rfl
  have HC := Lib.hid hC
  clear hC hR
  have rs := fun w => run_float_arith (P := Try.prog) w .sub 22 .f32 _ _ _ hs
  clear hs
  have Ha := Lib.hid h0; obtain ⟨c0, c1, c2, c3, c4⟩ := h0.cells; clear h0; rcases Bool.eq_false_or_eq_true (oGt s 1149239296) with ho | ho
  all_goals
    first | (have hm : mnF s = 1149239296 := by unfold mnF; rw [ho]; rfl) | (have hm : mnF s = s := by unfold mnF; rw [ho]; rfl)
    have Hn : Hid (nearB B a (mnF s) l = false) := hn
    have Hm := Lib.hid hm
    clear hn hm
    unfold oGt at ho
    go_enter Try.func65, Try.ntmps65
    go_wp2_with (first | (go_at_call 76; refine (l02Radius_any _ _).mono ?_; rintro e w1 ⟨rfl, rfl⟩) | (go_at_call 60; refine (l02Long_any _ _).mono ?_; rintro e w2 ⟨rfl, rfl⟩) | (go_at_call 77; refine (specOther_any B _ _ _).mono ?_; rintro e w3 ⟨r, rfl, hr, b3⟩))
    all_goals first
      | (go_ret2
         exfalso
         have := Hn.out
         rw [Hm.out] at this
         first
           | (rw [near_l (by assumption)] at this; cases this)
           | (rw [near_or hr (by assumption)] at this; cases this))
      | (have B3 : Hid (Below w.heap.size w w3) := b3
         have A3 := Lib.hid (At.on Ha.out (by rfl) b3)
         rename_i hx1 hx2 _ _
         clear c0 c1 c2 c3 c4 hr b3 hx1 hx2
         go_loopw [8, 9, 10, 11] (fun u v i m wr => ∃ (k lo hi : Nat), k ≤ 40 ∧ i = .int .i64 k ∧ u = .float .f32 lo ∧ v = .float .f32 hi ∧ Hid ((cn lo, cn hi) = halveN (fun m => lenC (bAB B a m)) (cn l) k (cn 1031798784, cn (mnF s))) ∧ Below w.heap.size w wr ∧ At wr q B) (fun _ _ i _ _ => 40 - (intOf i).toNat)
         case atStart => exact ⟨0, 1031798784, _, by omega, rfl, rfl, rfl, by show _ = _; rw [Hm.out]; rfl, B3.out, A3.out⟩
         case round =>
           obtain ⟨k, lo, hi, hk, rfl, rfl, rfl, hp, hb, ha⟩ := hrel
           by_cases hlt : k < 40
           · obtain ⟨d0, d1, d2, d3, d4⟩ := ha.cells
             have Ha2 := Lib.hid ha
             clear ha
             have hmid : Hid (∀ w1 w2, cn (R .quo (R .add lo hi w1) 1073741824 w2) = f2 .quo (f2 .add (cn lo) (cn hi)) (cn 1073741824)) := fun w1 w2 => by rw [HC.out .quo rfl, HC.out .add rfl]
             go_wp2_with (go_at_call 77; refine (specOther_any B _ _ _).mono ?_; rintro e w5 ⟨r, rfl, hr, b5⟩)
             all_goals
               have hr2 := len_midb (B := B) (a := a) (y := B.b) hr
               have hst := Lib.hid (half_step hp (hmid.out _ _) hr2)
               have A5 := Lib.hid (At.on Ha2.out (by rfl) b5)
               have B5 : Hid (Below w.heap.size w w5) := b_then (b_drewN hb _) b5
               clear hr hr2 b5 hb d0 d1 d2 d3 d4
               rename_i hcmp
               first
                 | (have hc : Hid (oLe r l = true) := by (show _ = _; unfold oLe; simpa using hcmp))
                 | (have hc : Hid (oLe r l = false) := by (show _ = _; unfold oLe; simpa using hcmp))
               clear hcmp
               go_roundw
               case rel =>
                 refine ⟨k + 1, _, _, by omega, by go_num, rfl, rfl, ?_, B5.out, A5.out⟩
                 show _ = _
                 rw [hst.out, hc.out]
                 rfl
               case measure => simp [intOf]; omega
           · obtain rfl : k = 40 := by omega
             go_wp2
             go_ret2
             refine ⟨lo, rfl, ?_, hb⟩
             have hp2 : (cn lo, cn hi) = _ := hp
             unfold CN radR
             rw [← hp2])
theorem specFor_any {B : Bl} (hk : okB B = true) (a l : Nat) (q : Nat) (w : World) (h0 : At w q B) : Calls Try.prog 65 #[.pointer (some ⟨q, 0, none⟩), .float .f32 a, .float .f32 l] w (RFC (zeroIf (codeF B a l) (radC B a l)) (codeF B a l) w) := by
  unfold codeF
  rcases Bool.eq_false_or_eq_true (radB a) with ha | ha
  · rcases Bool.eq_false_or_eq_true (psB l) with hl | hl
    · obtain ⟨hs, _⟩ := sub_is hk ha
      rcases Bool.eq_false_or_eq_true (nearB B a (mnF (subF B a)) l) with hn | hn
      · simp only [ha, hl, hn, Bool.and_self, if_true]
        exact specFor_6 ha hl hs hn q w h0
      · simp only [ha, hl, hn, Bool.and_self, if_true, if_false, Bool.false_eq_true]
        exact specFor_0 ha hl hs hn q w h0
    · simp only [ha, hl, Bool.and_false, if_false, Bool.false_eq_true]
      exact specFor_2 (.inr ⟨ha, hl⟩) q w h0
  · simp only [ha, Bool.false_and, if_false, Bool.false_eq_true]
    exact specFor_2 (.inl ha) q w h0
def codeR (B : Bl) (a l : Nat) : Int := if okB B then codeF B a l else 1
theorem specRadius_any (B : Bl) (a l : Nat) (w : World) : Calls Try.prog 25 #[.agg #[.float .f32 B.a, .float .f32 B.b, .float .f32 B.ap, .float .f32 B.g, .bool B.x], .float .f32 a, .float .f32 l] w (RFC (zeroIf (codeR B a l) (radC B a l)) (codeR B a l) w) := by
  have h0 := At.new w B
  obtain ⟨c0, c1, c2, c3, c4⟩ := h0.cells
  have H0 := Lib.hid h0
  clear h0
  unfold codeR
  rcases Bool.eq_false_or_eq_true (okB B) with hk | hk
  · simp only [hk, if_true]
    have Hf := fun W (h : At W w.heap.size B) => specFor_any hk a l w.heap.size W h
    have HF := Lib.hid Hf
    clear Hf
    go_enter Try.func25, Try.ntmps25
    go_wp2_with (go_at_call 59; refine (l02Ok_any B _ _ c0 c1 c2 c3).mono ?_; rintro e w1 ⟨rfl, n1, rfl⟩)
    refine (HF.out _ (At.same H0.out (by rfl))).mono ?_
    rintro e w2 ⟨r, rfl, hr, b2⟩
    go_wp2
    go_ret2
    refine ⟨r, rfl, hr, ?_⟩
    (repeat (first | exact Below.refl _ _ | refine b_drewN ?_ _ | refine b_drew ?_ | refine b_alloc ?_ _ | refine b_then ?_ (by assumption)))
  · simp only [hk, if_false, Bool.false_eq_true]
    go_enter Try.func25, Try.ntmps25
    go_wp2_with (go_at_call 59; refine (l02Ok_any B _ _ c0 c1 c2 c3).mono ?_; rintro e w1 ⟨rfl, n1, rfl⟩)
    go_ret2
    refine ⟨_, rfl, rfl, ?_⟩
    (repeat (first | exact Below.refl _ _ | refine b_drewN ?_ _ | refine b_drew ?_ | refine b_alloc ?_ _ | refine b_then ?_ (by assumption)))
theorem At.frz {w : World} {q : Nat} {B : Bl} (h : At w q B) (o : Nat) : w.frozen? ⟨q, o, none⟩ = false := by
  unfold At at h
  unfold World.frozen?
  rw [h]
  simp
theorem At.seta {w : World} {q : Nat} {B : Bl} (h : At w q B) (x : Nat) : At (w.setCell ⟨q, 0, none⟩ (.float .f32 x)) q { B with a := x } := by
  unfold At at *
  show (w.heap.modify q _)[q]? = _
  rw [Array.getElem?_modify, if_pos rfl, h]
  rfl
theorem At.setb {w : World} {q : Nat} {B : Bl} (h : At w q B) (x : Nat) : At (w.setCell ⟨q, 1, none⟩ (.float .f32 x)) q (bAB B B.a x) := by
  unfold At at *
  show (w.heap.modify q _)[q]? = _
  rw [Array.getElem?_modify, if_pos rfl, h]
  rfl
theorem clRad_any (B : Bl) (x : Nat) (q : Nat) (w : World) (h : At w q B) : Calls Try.prog 67 #[.float .f32 x, .pointer (some ⟨q, 0, none⟩)] w fun e w' => ∃ r, e = .returned (.float .f32 r) ∧ CN r (lenC (bAB B B.a x)) ∧ At w' q (bAB B B.a x) ∧ Below q w w' := by
  have h2 := At.setb h x
  have hb : Below q w (w.setCell ⟨q, 1, none⟩ (.float .f32 x)) := (Below.refl q w).setCell (p := ⟨q, 1, none⟩) (Nat.le_refl _) _
  obtain ⟨c0, c1, c2, c3, c4⟩ := h.cells
  have hfz : w.frozen? ⟨q, 1, none⟩ = false := by unfold World.frozen?; rw [h]; simp
  have H2 := Lib.hid h2
  have Hb := Lib.hid hb
  obtain ⟨d0, d1, d2, d3, d4⟩ := h2.cells
  clear h2 hb h
  go_enter Try.func67, Try.ntmps67
  go_wp2_with (go_at_call 58; refine (implLen_any (bAB B B.a x) _).mono ?_; rintro e w2 ⟨r, rfl, hr, b2⟩)
  go_ret
  exact ⟨r, rfl, hr, At.below H2.out b2, Hb.out.trans (b2.mono (Nat.le_of_lt H2.out.lt))⟩
set_option maxHeartbeats 2000000 in
theorem halvedR_any (B : Bl) (lo0 hi0 l : Nat) (q : Nat) (w : World) (h : At w q B) : Calls Try.prog 64 #[.float .f32 lo0, .float .f32 hi0, .float .f32 l, .func (.func 67) #[] #[.pointer (some ⟨q, 0, none⟩)]] w fun e w' => ∃ r, e = .returned (.float .f32 r) ∧ CN r (halveN (fun m => lenC (bAB B B.a m)) (cn l) 40 (cn lo0, cn hi0)).1 ∧ Below q w w' := by
  obtain ⟨R, N, hR, hC⟩ := ops_fun Try.prog 22; have ra := hR .add rfl; have rs := hR .sub rfl; have rm := hR .mul rfl; have rq := hR .quo rfl; have HC := Lib.hid hC; clear hC hR
  have Hw := Lib.hid h
  clear h
  go_enter Try.func64, Try.ntmps64
  go_wp2
  go_loopw [0, 1, 9, 10] (fun u v m i wr => ∃ (k lo hi y : Nat), k ≤ 40 ∧ i = .int .i64 k ∧ u = .float .f32 lo ∧ v = .float .f32 hi ∧ Hid ((cn lo, cn hi) = halveN (fun m => lenC (bAB B B.a m)) (cn l) k (cn lo0, cn hi0)) ∧ Below q w wr ∧ At wr q (bAB B B.a y)) (fun _ _ _ i _ => 40 - (intOf i).toNat)
  case atStart => exact ⟨0, lo0, hi0, B.b, by omega, rfl, rfl, rfl, by show _ = _; rfl, Below.refl _ _, Hw.out⟩
  case round =>
    obtain ⟨k, lo, hi, y, hk, rfl, rfl, rfl, hp, hb, ha⟩ := hrel
    by_cases hlt : k < 40
    · have Ha := Lib.hid ha
      clear ha
      have hmid : Hid (∀ w1 w2, cn (R .quo (R .add lo hi w1) 1073741824 w2) = f2 .quo (f2 .add (cn lo) (cn hi)) (cn 1073741824)) := fun w1 w2 => by rw [HC.out .quo rfl, HC.out .add rfl]
      go_wp2_with fail
      refine (clRad_any (bAB B B.a y) _ q _ (At.same Ha.out (by rfl))).mono ?_
      rintro e w5 ⟨r, rfl, hr, a5, b5⟩
      have A5 := Lib.hid a5
      have B5 : Hid (Below q w w5) := (b_drewN hb _).trans b5
      have hst := Lib.hid (half_step (f := fun m => lenC (bAB B B.a m)) hp (hmid.out _ _) (len_midb (B := B) (a := B.a) (y := y) hr))
      clear hr a5 b5 hb hp
      go_wp2
      all_goals
        rename_i hcmp
        first
          | (have hc : Hid (oLe r l = true) := by (show _ = _; unfold oLe; simpa using hcmp))
          | (have hc : Hid (oLe r l = false) := by (show _ = _; unfold oLe; simpa using hcmp))
        clear hcmp
        go_roundw
        case rel =>
          refine ⟨k + 1, _, _, _, by omega, by go_num, rfl, rfl, ?_, B5.out, A5.out⟩
          show _ = _
          rw [hst.out, hc.out]
          rfl
        case measure => simp [intOf]; omega
    · obtain rfl : k = 40 := by omega
      go_wp2
      go_ret
      refine ⟨lo, rfl, ?_, hb⟩
      have hp2 : (cn lo, cn hi) = _ := hp
      unfold CN
      rw [← hp2]
theorem implRad_1 {B : Bl} {a l : Nat} (hk : okB B = false) (w : World) : Calls Try.prog 26 #[.agg #[.float .f32 B.a, .float .f32 B.b, .float .f32 B.ap, .float .f32 B.g, .bool B.x], .float .f32 a, .float .f32 l] w (RFC (cn 0) 1 w) := by
  go_enter Try.func26, Try.ntmps26
  go_wp2_with (go_at_call 52; refine (validBelt_any _ _).mono ?_; rintro e w1 ⟨rfl, b1⟩)
  go_ret2
  refine ⟨_, rfl, rfl, ?_⟩
  (repeat (first | exact Below.refl _ _ | refine b_drewN ?_ _ | refine b_drew ?_ | refine b_alloc ?_ _ | refine b_then ?_ (by assumption)))
theorem implRad_2 {B : Bl} {a l : Nat} (hk : okB B = true) (h : radB a = false ∨ (radB a = true ∧ psB l = false)) (w : World) : Calls Try.prog 26 #[.agg #[.float .f32 B.a, .float .f32 B.b, .float .f32 B.ap, .float .f32 B.g, .bool B.x], .float .f32 a, .float .f32 l] w (RFC (cn 0) 2 w) := by
  rcases h with h | ⟨h, h'⟩
  all_goals
    go_enter Try.func26, Try.ntmps26
    go_wp2_with (first | (go_at_call 52; refine (validBelt_any _ _).mono ?_; rintro e w1 ⟨rfl, b1⟩) | (go_at_call 66; refine (isRadius_any _ _).mono ?_; rintro e w2 ⟨rfl, rfl⟩) | (go_at_call 62; refine (isPs_any _ _).mono ?_; rintro e w3 ⟨rfl, rfl⟩))
    go_ret2
    refine ⟨_, rfl, rfl, ?_⟩
    (repeat (first | exact Below.refl _ _ | refine b_drewN ?_ _ | refine b_drew ?_ | refine b_alloc ?_ _ | refine b_then ?_ (by assumption)))
set_option maxHeartbeats 2000000 in
theorem implRad_6 {B : Bl} {a l s : Nat} (hk : okB B = true) (ha : radB a = true) (hl : psB l = true) (hs : floatBits .sub .f32 B.ap a = some s) (hnn : nan32 s = false) (hn : nearB B a (mnF s) l = true) (w : World) : Calls Try.prog 26 #[.agg #[.float .f32 B.a, .float .f32 B.b, .float .f32 B.ap, .float .f32 B.g, .bool B.x], .float .f32 a, .float .f32 l] w (RFC (cn 0) 6 w) := by
  have rs := fun w => run_float_arith (P := Try.prog) w .sub 22 .f32 _ _ _ hs; have rmin := fun ts t w => run_min_1024 (P := Try.prog) ts t hnn w; clear hs hnn; generalize hhi : mnF s = hi at *; clear hhi; have Hn := Lib.hid hn; clear hn; go_enter Try.func26, Try.ntmps26; go_wp2_with (first | (go_at_call 52; refine (validBelt_any _ _).mono ?_; rintro e w1 ⟨rfl, b1⟩; have A1 := Lib.hid ((At.new w B).below b1); obtain ⟨c0, c1, c2, c3, c4⟩ := A1.out.cells; have z0 := At.frz A1.out 0; have B1 : Hid (Below w.heap.size w w1) := b_then (b_alloc (Below.refl _ _) _) b1; clear b1) | (go_at_call 66; refine (isRadius_any _ _).mono ?_; rintro e w2 ⟨rfl, rfl⟩) | (go_at_call 62; refine (isPs_any _ _).mono ?_; rintro e w3 ⟨rfl, rfl⟩))
  go_region_law (fail)
  go_wp2_with fail
  · go_ret2
    exact ⟨_, rfl, rfl, by first | exact b_drew (b_set B1.out (Nat.le_refl _) _) | exact b_drewN (b_set B1.out (Nat.le_refl _) _) _⟩
  · refine (clRad_any { B with a := a } _ _ _ (At.same (At.seta A1.out a) (by rfl))).mono ?_
    rintro e w3 ⟨r, rfl, hr', a3, b3⟩
    have hr : CN r (lenC (bAB B a 1031798784)) := hr'
    have B3 : Hid (Below w.heap.size w w3) := (b_drew (b_set B1.out (Nat.le_refl _) _)).trans b3
    clear hr' a3 b3
    go_wp2_with fail
    all_goals first
      | (go_ret2
         exact ⟨_, rfl, rfl, B3.out⟩)
      | (exfalso
         have := Hn.out
         rw [near_no hr (by assumption)] at this
         cases this)
set_option maxHeartbeats 2000000 in
theorem implRad_0 {B : Bl} {a l s : Nat} (hk : okB B = true) (ha : radB a = true) (hl : psB l = true) (hs : floatBits .sub .f32 B.ap a = some s) (hnn : nan32 s = false) (hn : nearB B a (mnF s) l = false) (w : World) : Calls Try.prog 26 #[.agg #[.float .f32 B.a, .float .f32 B.b, .float .f32 B.ap, .float .f32 B.g, .bool B.x], .float .f32 a, .float .f32 l] w (RFC (radR B a (mnF s) l) 0 w) := by
  have rs := fun w => run_float_arith (P := Try.prog) w .sub 22 .f32 _ _ _ hs; have rmin := fun ts t w => run_min_1024 (P := Try.prog) ts t hnn w; clear hs hnn; generalize hhi : mnF s = hi at *; clear hhi; have Hn := Lib.hid hn; clear hn; go_enter Try.func26, Try.ntmps26; go_wp2_with (first | (go_at_call 52; refine (validBelt_any _ _).mono ?_; rintro e w1 ⟨rfl, b1⟩; have A1 := Lib.hid ((At.new w B).below b1); obtain ⟨c0, c1, c2, c3, c4⟩ := A1.out.cells; have z0 := At.frz A1.out 0; have B1 : Hid (Below w.heap.size w w1) := b_then (b_alloc (Below.refl _ _) _) b1; clear b1) | (go_at_call 66; refine (isRadius_any _ _).mono ?_; rintro e w2 ⟨rfl, rfl⟩) | (go_at_call 62; refine (isPs_any _ _).mono ?_; rintro e w3 ⟨rfl, rfl⟩))
  go_region_law (fail)
  go_wp2_with fail
  · exfalso
    have := Hn.out
    rw [near_l (by assumption)] at this
    cases this
  · refine (clRad_any { B with a := a } _ _ _ (At.same (At.seta A1.out a) (by rfl))).mono ?_
    rintro e w3 ⟨r, rfl, hr', a3, b3⟩
    have hr : CN r (lenC (bAB B a 1031798784)) := hr'
    have A3 := Lib.hid a3
    have B3 : Hid (Below w.heap.size w w3) := (b_drew (b_set B1.out (Nat.le_refl _) _)).trans b3
    clear hr' a3 b3
    go_wp2_with fail
    all_goals first
      | (go_ret2
         exfalso
         have := Hn.out
         rw [near_or hr (by assumption)] at this
         cases this)
      | (refine (halvedR_any _ 1031798784 hi l _ _ (At.same A3.out (by rfl))).mono ?_
         rintro e w5 ⟨z, rfl, hz, b5⟩
         go_wp2
         go_ret2
         exact ⟨z, rfl, hz, B3.out.trans b5⟩)
theorem implRadius_any (B : Bl) (a l : Nat) (w : World) : Calls Try.prog 26 #[.agg #[.float .f32 B.a, .float .f32 B.b, .float .f32 B.ap, .float .f32 B.g, .bool B.x], .float .f32 a, .float .f32 l] w (RFC (zeroIf (codeR B a l) (radC B a l)) (codeR B a l) w) := by
  unfold codeR codeF
  rcases Bool.eq_false_or_eq_true (okB B) with hk | hk
  · rcases Bool.eq_false_or_eq_true (radB a) with ha | ha
    · rcases Bool.eq_false_or_eq_true (psB l) with hl | hl
      · obtain ⟨hs, hnn⟩ := sub_is hk ha
        rcases Bool.eq_false_or_eq_true (nearB B a (mnF (subF B a)) l) with hn | hn
        · simp only [hk, ha, hl, hn, Bool.and_self, if_true]
          exact implRad_6 hk ha hl hs hnn hn w
        · simp only [hk, ha, hl, hn, Bool.and_self, if_true, if_false, Bool.false_eq_true]
          exact implRad_0 hk ha hl hs hnn hn w
      · simp only [hk, ha, hl, Bool.and_false, if_true, if_false, Bool.false_eq_true]
        exact implRad_2 hk (.inr ⟨ha, hl⟩) w
    · simp only [hk, ha, Bool.false_and, if_true, if_false, Bool.false_eq_true]
      exact implRad_2 hk (.inl ha) w
  · simp only [hk, if_false, Bool.false_eq_true]
    exact implRad_1 hk w
end Go.Proofs.Ytdfookgncokgjad
