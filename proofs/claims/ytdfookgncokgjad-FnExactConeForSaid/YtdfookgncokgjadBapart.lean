/-
  Distances and radii that are looked for: halving.
-/
import Derived.Test.YtdfookgncokgjadBspd
namespace Go.Proofs.Ytdfookgncokgjad
open Go.RowKit Go.ChangeShapes Go.WideShapes Go.Deep
attribute [local go_sem ↓] Go.wp_at_zero Go.wp_at_succ
set_option linter.unusedVariables false
set_option linter.unusedSimpArgs false
def bAp (B : Bl) (x : Nat) : Bl := { B with ap := x }
theorem lenC_z (B : Bl) (x : Nat) : lenC (bAp B x) = (fun z => f2 .add (f2 .add (f2 .mul (cn 1073741824) z) (f2 .mul halfC (sumC B))) (f2 .quo (f2 .mul (reachC B) (reachC B)) z)) (cn x) := rfl
theorem lenC_ap (B : Bl) {x y : Nat} (h : cn x = cn y) : lenC (bAp B x) = lenC (bAp B y) := by
  rw [lenC_z, lenC_z, h]
theorem cn_sum (B : Bl) : cn (sumC B) = sumC B := cn_f2 _ _ _
theorem okB_ap (B : Bl) {x y : Nat} (h : cn x = cn y) : okB (bAp B x) = okB (bAp B y) := by
  have h1 := oGe_cn h (rfl : cn (f2 .add (cn B.a) (cn B.b)) = cn (f2 .add (cn B.a) (cn B.b)))
  have h2 := oLe_cn h (rfl : cn 1199570944 = cn 1199570944)
  simp only [okB, fitB, sumC, bAp, h1, h2]
def halfStep (f : Nat → Nat) (t : Nat) (p : Nat × Nat) : Nat × Nat := if oLe (f (f2 .quo (f2 .add p.1 p.2) (cn 1073741824))) t then (f2 .quo (f2 .add p.1 p.2) (cn 1073741824), p.2) else (p.1, f2 .quo (f2 .add p.1 p.2) (cn 1073741824))
def halveN (f : Nat → Nat) (t : Nat) : Nat → Nat × Nat → Nat × Nat
  | 0, p => p
  | k + 1, p => halfStep f t (halveN f t k p)
/-- A comparison with a word that stands for a canonical one. -/
theorem oLe_of {r c t : Nat} (h : CN r c) : oLe c (cn t) = oLe r t := by
  unfold CN at h
  exact oLe_cn (by rw [← h, cn_cn]) (cn_cn t)
theorem oGt_of {r c t : Nat} (h : CN r c) : oGt c (cn t) = oGt r t := by
  unfold CN at h
  exact oGt_cn (by rw [← h, cn_cn]) (cn_cn t)
theorem oLt_of {r c t : Nat} (h : CN r c) : oLt c (cn t) = oLt r t := by
  unfold CN at h
  exact oLt_cn (by rw [← h, cn_cn]) (cn_cn t)
theorem half_step {f : Nat → Nat} {t lo hi m r : Nat} {k : Nat} {p : Nat × Nat} (hp : (cn lo, cn hi) = halveN f (cn t) k p) (hm : cn m = f2 .quo (f2 .add (cn lo) (cn hi)) (cn 1073741824)) (hr : CN r (f (cn m))) :
    halveN f (cn t) (k + 1) p = if oLe r t then (cn m, cn hi) else (cn lo, cn m) := by
  rw [halveN, ← hp, halfStep]
  simp only
  rw [← hm, oLe_of hr]
def farB (B : Bl) (l : Nat) : Bool := oGt (lenC (bAp B (sumC B))) (cn l) || oLt (lenC (bAp B 1199570944)) (cn l)
def codeA (B : Bl) (l : Nat) : Int := if okB (bAp B (sumC B)) then (if psB l then (if farB B l then 6 else 0) else 2) else 1
def apartC (B : Bl) (l : Nat) : Nat := (halveN (fun m => lenC (bAp B m)) (cn l) 40 (sumC B, cn 1199570944)).1
theorem specWith_any (B : Bl) (x : Nat) (w : World) : Calls Try.prog 61 #[.agg #[.float .f32 B.a, .float .f32 B.b, .float .f32 B.ap, .float .f32 B.g, .bool B.x], .float .f32 x] w (RF (lenC (bAp B x)) w) := by
  have h0 := Lib.hid (At.new w (bAp B x))
  go_enter Try.func61, Try.ntmps61
  go_wp2_with (go_at_call 57; refine (specLen_any (bAp B x) _ _ (At.same h0.out (by rfl))).mono ?_; rintro e w2 ⟨r, rfl, hr, b2⟩)
  go_ret
  refine ⟨_, rfl, hr, ?_⟩
  (repeat (first | exact Below.refl _ _ | refine b_drewN ?_ _ | refine b_drew ?_ | refine b_alloc ?_ _ | refine b_then ?_ (by assumption)))
theorem At.setAp {w : World} {q : Nat} {B : Bl} (h : At w q B) (x : Nat) : At (w.setCell ⟨q, 2, none⟩ (.float .f32 x)) q (bAp B x) := by
  unfold At at *
  show (w.heap.modify q _)[q]? = _
  rw [Array.getElem?_modify, if_pos rfl, h]
  rfl
theorem b_set {a w : World} (h : Below a.heap.size a w) {q o : Nat} (hq : a.heap.size ≤ q) (v : Value) : Below a.heap.size a (w.setCell ⟨q, o, none⟩ v) := h.setCell (p := ⟨q, o, none⟩) hq v
theorem codeA_eq {B : Bl} {l r0 : Nat} (h : cn r0 = sumC B) : codeA B l = if okB (bAp B r0) then (if psB l then (if oGt (lenC (bAp B r0)) (cn l) || oLt (lenC (bAp B 1199570944)) (cn l) then 6 else 0) else 2) else 1 := by
  have e : cn (sumC B) = cn r0 := by rw [cn_sum, h]
  unfold codeA farB
  rw [okB_ap B e, lenC_ap B e]
theorem l02Long_any (m : Nat) (w : World) : Calls Try.prog 60 #[.float .f32 m] w fun e w' => e = .returned (.bool (psB m)) ∧ w = w' := by
  unfold psB oGe oLe
  go_enter Try.func60, Try.ntmps60
  go_wp2
  · go_ret
    exact ⟨rfl, rfl⟩
  · rename_i h
    go_ret
    refine ⟨?_, rfl⟩
    simp at h
    simp [h]
theorem specApart_1 {B : Bl} {l : Nat} (hk : okB (bAp B (sumC B)) = false) (w : World) : Calls Try.prog 23 #[.agg #[.float .f32 B.a, .float .f32 B.b, .float .f32 B.ap, .float .f32 B.g, .bool B.x], .float .f32 l] w (RFC (cn 0) 1 w) := by
  obtain ⟨R, N, hR, hC⟩ := ops_fun Try.prog 22; have ra := hR .add rfl; have rs := hR .sub rfl; have rm := hR .mul rfl; have rq := hR .quo rfl; have HC := Lib.hid hC; clear hC hR
  obtain ⟨A0, hA0⟩ : ∃ A0, w.alloc (.cells #[.float .f32 B.a, .float .f32 B.b, .float .f32 B.ap, .float .f32 B.g, .bool B.x] 27) = A0 := ⟨_, rfl⟩; have a1 : Hid (At A0 w.heap.size B) := (by rw [← hA0]; exact At.new w B); have b1 : Hid (Below w.heap.size w A0) := (by rw [← hA0]; exact b_alloc (Below.refl _ _) _); have HA := Lib.hid hA0; clear hA0
  have Hk := Lib.hid hk
  clear hk
  go_enter Try.func23, Try.ntmps23
  go_wp2_with fail
  rw [HA.out]; have hsum := HC.out .add rfl B.a B.b A0; generalize R BinOp.add B.a B.b A0 = r0 at *; generalize N BinOp.add B.a B.b A0 = n0 at *
  have a2 : At ((A0.drewN n0).setCell ⟨w.heap.size, 2, none⟩ (.float .f32 r0)) w.heap.size (bAp B r0) := At.setAp (At.same a1.out (by rfl)) r0; have b2 : Below w.heap.size w ((A0.drewN n0).setCell ⟨w.heap.size, 2, none⟩ (.float .f32 r0)) := b_set (b_drewN b1.out n0) (Nat.le_refl _) _; generalize (A0.drewN n0).setCell ⟨w.heap.size, 2, none⟩ (.float .f32 r0) = W0 at *; have e : cn r0 = cn (sumC B) := (by rw [cn_sum]; exact hsum); have HK : Hid (okB (bAp B r0) = okB (bAp B (sumC B))) := okB_ap B e; have HL : Hid (lenC (bAp B r0) = lenC (bAp B (sumC B))) := lenC_ap B e; have Hs := Lib.hid hsum; clear hsum e; have A2 := Lib.hid a2; have B2 := Lib.hid b2; obtain ⟨c0, c1, c2, c3, c4⟩ := a2.cells; clear a2 b2
  refine (l02Ok_any (bAp B r0) _ _ c0 c1 c2 c3).mono ?_
  rintro e w1 ⟨rfl, n1, rfl⟩
  have hk := HK.out.trans Hk.out
  go_wp2
  go_ret2
  exact ⟨_, rfl, rfl, b_drewN B2.out _⟩
theorem specApart_2 {B : Bl} {l : Nat} (hk : okB (bAp B (sumC B)) = true) (hl : psB l = false) (w : World) : Calls Try.prog 23 #[.agg #[.float .f32 B.a, .float .f32 B.b, .float .f32 B.ap, .float .f32 B.g, .bool B.x], .float .f32 l] w (RFC (cn 0) 2 w) := by
  obtain ⟨R, N, hR, hC⟩ := ops_fun Try.prog 22; have ra := hR .add rfl; have rs := hR .sub rfl; have rm := hR .mul rfl; have rq := hR .quo rfl; have HC := Lib.hid hC; clear hC hR
  obtain ⟨A0, hA0⟩ : ∃ A0, w.alloc (.cells #[.float .f32 B.a, .float .f32 B.b, .float .f32 B.ap, .float .f32 B.g, .bool B.x] 27) = A0 := ⟨_, rfl⟩; have a1 : Hid (At A0 w.heap.size B) := (by rw [← hA0]; exact At.new w B); have b1 : Hid (Below w.heap.size w A0) := (by rw [← hA0]; exact b_alloc (Below.refl _ _) _); have HA := Lib.hid hA0; clear hA0
  have Hk := Lib.hid hk
  clear hk
  go_enter Try.func23, Try.ntmps23
  go_wp2_with fail
  rw [HA.out]; have hsum := HC.out .add rfl B.a B.b A0; generalize R BinOp.add B.a B.b A0 = r0 at *; generalize N BinOp.add B.a B.b A0 = n0 at *
  have a2 : At ((A0.drewN n0).setCell ⟨w.heap.size, 2, none⟩ (.float .f32 r0)) w.heap.size (bAp B r0) := At.setAp (At.same a1.out (by rfl)) r0; have b2 : Below w.heap.size w ((A0.drewN n0).setCell ⟨w.heap.size, 2, none⟩ (.float .f32 r0)) := b_set (b_drewN b1.out n0) (Nat.le_refl _) _; generalize (A0.drewN n0).setCell ⟨w.heap.size, 2, none⟩ (.float .f32 r0) = W0 at *; have e : cn r0 = cn (sumC B) := (by rw [cn_sum]; exact hsum); have HK : Hid (okB (bAp B r0) = okB (bAp B (sumC B))) := okB_ap B e; have HL : Hid (lenC (bAp B r0) = lenC (bAp B (sumC B))) := lenC_ap B e; have Hs := Lib.hid hsum; clear hsum e; have A2 := Lib.hid a2; have B2 := Lib.hid b2; obtain ⟨c0, c1, c2, c3, c4⟩ := a2.cells; clear a2 b2
  refine (l02Ok_any (bAp B r0) _ _ c0 c1 c2 c3).mono ?_
  rintro e w1 ⟨rfl, n1, rfl⟩
  have hk := HK.out.trans Hk.out
  go_wp2_with (go_at_call 60; refine (l02Long_any _ _).mono ?_; rintro e w2 ⟨rfl, rfl⟩)
  go_ret2
  exact ⟨_, rfl, rfl, b_drewN B2.out _⟩
theorem far_l {B : Bl} {l r r0 : Nat} (hL : lenC (bAp B r0) = lenC (bAp B (sumC B))) (hr : CN r (lenC (bAp B r0))) (h : FloatKind.f32.format.order r l = some .gt) : farB B l = true := by
  unfold farB
  rw [← hL, oGt_of hr]
  simp [oGt, h]
theorem far_r {B : Bl} {l r : Nat} (hr : CN r (lenC (bAp B 1199570944))) (h : FloatKind.f32.format.order r l = some .lt) : farB B l = true := by
  unfold farB
  rw [oLt_of hr]
  simp [oLt, h]
theorem far_or {B : Bl} {l r r' : Nat} (hg : ¬ FloatKind.f32.format.order r l = some .gt) (hr : CN r' (lenC (bAp B 1199570944))) (h : (FloatKind.f32.format.order r l == some .gt) = true ∨ (FloatKind.f32.format.order r' l == some .lt) = true) : farB B l = true := by
  simp only [beq_iff_eq] at h
  exact far_r hr (h.resolve_left hg)
theorem len_mid {B : Bl} {r r0 m : Nat} (h : CN r (lenC (bAp (bAp B r0) m))) : CN r ((fun m => lenC (bAp B m)) (cn m)) := by
  unfold CN at *
  rw [h]
  exact lenC_ap B (cn_cn _).symm
theorem far_no {B : Bl} {l r r' r0 : Nat} (hL : lenC (bAp B r0) = lenC (bAp B (sumC B))) (hr : CN r (lenC (bAp B r0))) (h : ¬ FloatKind.f32.format.order r l = some .gt) (hr' : CN r' (lenC (bAp B 1199570944))) (h2 : (FloatKind.f32.format.order r l == some .gt) = false ∧ (FloatKind.f32.format.order r' l == some .lt) = false) : farB B l = false := by
  have h' : ¬ FloatKind.f32.format.order r' l = some .lt := by have := h2.2; simpa using this
  unfold farB
  rw [← hL, oGt_of hr, oLt_of hr']
  simp [oGt, oLt, h, h']
set_option maxHeartbeats 2000000 in
theorem specApart_3 {B : Bl} {l : Nat} (hk : okB (bAp B (sumC B)) = true) (hl : psB l = true) (hf : farB B l = true) (w : World) : Calls Try.prog 23 #[.agg #[.float .f32 B.a, .float .f32 B.b, .float .f32 B.ap, .float .f32 B.g, .bool B.x], .float .f32 l] w (RFC (cn 0) 6 w) := by
  obtain ⟨R, N, hR, hC⟩ := ops_fun Try.prog 22; have ra := hR .add rfl; have rs := hR .sub rfl; have rm := hR .mul rfl; have rq := hR .quo rfl; have HC := Lib.hid hC; clear hC hR
  obtain ⟨A0, hA0⟩ : ∃ A0, w.alloc (.cells #[.float .f32 B.a, .float .f32 B.b, .float .f32 B.ap, .float .f32 B.g, .bool B.x] 27) = A0 := ⟨_, rfl⟩; have a1 : Hid (At A0 w.heap.size B) := (by rw [← hA0]; exact At.new w B); have b1 : Hid (Below w.heap.size w A0) := (by rw [← hA0]; exact b_alloc (Below.refl _ _) _); have HA := Lib.hid hA0; clear hA0
  have Hk := Lib.hid hk; have Hf := Lib.hid hf
  clear hk hf
  go_enter Try.func23, Try.ntmps23
  go_wp2_with fail
  rw [HA.out]; have hsum := HC.out .add rfl B.a B.b A0; generalize R BinOp.add B.a B.b A0 = r0 at *; generalize N BinOp.add B.a B.b A0 = n0 at *
  have a2 : At ((A0.drewN n0).setCell ⟨w.heap.size, 2, none⟩ (.float .f32 r0)) w.heap.size (bAp B r0) := At.setAp (At.same a1.out (by rfl)) r0; have b2 : Below w.heap.size w ((A0.drewN n0).setCell ⟨w.heap.size, 2, none⟩ (.float .f32 r0)) := b_set (b_drewN b1.out n0) (Nat.le_refl _) _; generalize (A0.drewN n0).setCell ⟨w.heap.size, 2, none⟩ (.float .f32 r0) = W0 at *; have e : cn r0 = cn (sumC B) := (by rw [cn_sum]; exact hsum); have HK : Hid (okB (bAp B r0) = okB (bAp B (sumC B))) := okB_ap B e; have HL : Hid (lenC (bAp B r0) = lenC (bAp B (sumC B))) := lenC_ap B e; have Hs := Lib.hid hsum; clear hsum e; have A2 := Lib.hid a2; have B2 := Lib.hid b2; obtain ⟨c0, c1, c2, c3, c4⟩ := a2.cells; clear a2 b2
  refine (l02Ok_any (bAp B r0) _ _ c0 c1 c2 c3).mono ?_
  rintro e w1 ⟨rfl, n1, rfl⟩
  have hk := HK.out.trans Hk.out
  go_wp2_with (go_at_call 60; refine (l02Long_any _ _).mono ?_; rintro e w2 ⟨rfl, rfl⟩)
  clear hk
  refine (specWith_any (bAp B r0) _ _).mono ?_
  rintro e w3 ⟨r, rfl, hr, b3⟩
  have A3 := Lib.hid (At.on A2.out (by rfl) b3)
  obtain ⟨d0, d1, d2, d3, d4⟩ := A3.out.cells
  clear c0 c1 c2 c3 c4
  go_wp2_with (go_at_call 61; refine (specWith_any (bAp B r0) _ _).mono ?_; rintro e w4 ⟨r', rfl, hr', b4⟩)
  all_goals first
    | (go_ret2
       exact ⟨_, rfl, rfl, by first | exact b_then (b_drewN B2.out _) b3 | exact b_then (b_then (b_drewN B2.out _) b3) b4⟩)
    | (exfalso
       have := Hf.out
       rw [far_no (B := B) HL.out hr (by assumption) hr' (by assumption)] at this
       cases this)
set_option maxHeartbeats 2000000 in
theorem specApart_4 {B : Bl} {l : Nat} (hk : okB (bAp B (sumC B)) = true) (hl : psB l = true) (hf : farB B l = false) (w : World) : Calls Try.prog 23 #[.agg #[.float .f32 B.a, .float .f32 B.b, .float .f32 B.ap, .float .f32 B.g, .bool B.x], .float .f32 l] w (RFC (apartC B l) 0 w) := by
  obtain ⟨R, N, hR, hC⟩ := ops_fun Try.prog 22; have ra := hR .add rfl; have rs := hR .sub rfl; have rm := hR .mul rfl; have rq := hR .quo rfl; have HC := Lib.hid hC; clear hC hR
  obtain ⟨A0, hA0⟩ : ∃ A0, w.alloc (.cells #[.float .f32 B.a, .float .f32 B.b, .float .f32 B.ap, .float .f32 B.g, .bool B.x] 27) = A0 := ⟨_, rfl⟩; have a1 : Hid (At A0 w.heap.size B) := (by rw [← hA0]; exact At.new w B); have b1 : Hid (Below w.heap.size w A0) := (by rw [← hA0]; exact b_alloc (Below.refl _ _) _); have HA := Lib.hid hA0; clear hA0
  have Hk := Lib.hid hk; have Hf := Lib.hid hf
  clear hk hf
  go_enter Try.func23, Try.ntmps23
  go_wp2_with fail
  rw [HA.out]; have hsum := HC.out .add rfl B.a B.b A0; generalize R BinOp.add B.a B.b A0 = r0 at *; generalize N BinOp.add B.a B.b A0 = n0 at *
  have a2 : At ((A0.drewN n0).setCell ⟨w.heap.size, 2, none⟩ (.float .f32 r0)) w.heap.size (bAp B r0) := At.setAp (At.same a1.out (by rfl)) r0; have b2 : Below w.heap.size w ((A0.drewN n0).setCell ⟨w.heap.size, 2, none⟩ (.float .f32 r0)) := b_set (b_drewN b1.out n0) (Nat.le_refl _) _; generalize (A0.drewN n0).setCell ⟨w.heap.size, 2, none⟩ (.float .f32 r0) = W0 at *; have e : cn r0 = cn (sumC B) := (by rw [cn_sum]; exact hsum); have HK : Hid (okB (bAp B r0) = okB (bAp B (sumC B))) := okB_ap B e; have HL : Hid (lenC (bAp B r0) = lenC (bAp B (sumC B))) := lenC_ap B e; have Hs := Lib.hid hsum; clear hsum e; have A2 := Lib.hid a2; have B2 := Lib.hid b2; obtain ⟨c0, c1, c2, c3, c4⟩ := a2.cells; clear a2 b2
  refine (l02Ok_any (bAp B r0) _ _ c0 c1 c2 c3).mono ?_
  rintro e w1 ⟨rfl, n1, rfl⟩
  have hk := HK.out.trans Hk.out
  go_wp2_with (go_at_call 60; refine (l02Long_any _ _).mono ?_; rintro e w2 ⟨rfl, rfl⟩)
  clear hk
  refine (specWith_any (bAp B r0) _ _).mono ?_
  rintro e w3 ⟨r, rfl, hr, b3⟩
  have A3 := Lib.hid (At.on A2.out (by rfl) b3)
  obtain ⟨d0, d1, d2, d3, d4⟩ := A3.out.cells
  clear c0 c1 c2 c3 c4
  go_wp2_with (go_at_call 61; refine (specWith_any (bAp B r0) _ _).mono ?_; rintro e w4 ⟨r', rfl, hr', b4⟩)
  · exfalso
    have := Hf.out
    rw [far_l (B := B) HL.out hr (by assumption)] at this
    cases this
  · exfalso
    have := Hf.out
    rw [far_or (B := B) (r := r) (by assumption) hr' (by assumption)] at this
    cases this
  · have B4 : Hid (Below w.heap.size w w4) := b_then (b_then (b_drewN B2.out _) b3) b4
    have A4 := Lib.hid (At.on A3.out (by rfl) b4)
    rename_i hx1 hx2 _ _
    clear d0 d1 d2 d3 d4 hr hr' b3 b4 hx1 hx2
    go_loopw [6, 7, 8, 9] (fun u v i m wr => ∃ (k lo hi : Nat), k ≤ 40 ∧ i = .int .i64 k ∧ u = .float .f32 lo ∧ v = .float .f32 hi ∧ Hid ((cn lo, cn hi) = halveN (fun m => lenC (bAp B m)) (cn l) k (sumC B, cn 1199570944)) ∧ Below w.heap.size w wr ∧ At wr w.heap.size (bAp B r0)) (fun _ _ i _ _ => 40 - (intOf i).toNat)
    case atStart => exact ⟨0, r0, 1199570944, by omega, rfl, rfl, rfl, by show _ = _; rw [Hs.out]; rfl, B4.out, A4.out⟩
    case round =>
      obtain ⟨k, lo, hi, hk, rfl, rfl, rfl, hp, hb, ha⟩ := hrel
      by_cases hlt : k < 40
      · obtain ⟨d0, d1, d2, d3, d4⟩ := ha.cells
        have Ha := Lib.hid ha
        clear ha
        have hmid : Hid (∀ w1 w2, cn (R .quo (R .add lo hi w1) 1073741824 w2) = f2 .quo (f2 .add (cn lo) (cn hi)) (cn 1073741824)) := fun w1 w2 => by rw [HC.out .quo rfl, HC.out .add rfl]
        go_wp2_with (go_at_call 61; refine (specWith_any (bAp B r0) _ _).mono ?_; rintro e w5 ⟨r, rfl, hr, b5⟩)
        all_goals
          have hr2 := len_mid (B := B) (r0 := r0) hr
          have hst := Lib.hid (half_step hp (hmid.out _ _) hr2)
          have A5 := Lib.hid (At.on Ha.out (by rfl) b5)
          have B5 : Hid (Below w.heap.size w w5) := b_then (b_drewN hb _) b5
          clear hr hr2 b5 hb d0 d1 d2 d3 d4
          rename_i hcmp
          first
            | (have hc : Hid (oLe r l = true) := by (show _ = _; unfold oLe; simpa using hcmp))
            | (have hc : Hid (oLe r l = false) := by (show _ = _; unfold oLe; simpa using hcmp))
          clear hcmp
          go_roundw
          case rel =>
            refine ⟨k + 1, _, _, by omega, by go_num, rfl, rfl, ?_, B5.out, A5.out⟩
            show _ = _
            rw [hst.out, hc.out]
            rfl
          case measure => simp [intOf]; omega
      · obtain rfl : k = 40 := by omega
        go_wp2
        go_ret2
        refine ⟨lo, rfl, ?_, hb⟩
        have hp2 : (cn lo, cn hi) = _ := hp
        unfold CN apartC
        rw [← hp2]
theorem specApart_any (B : Bl) (l : Nat) (w : World) : Calls Try.prog 23 #[.agg #[.float .f32 B.a, .float .f32 B.b, .float .f32 B.ap, .float .f32 B.g, .bool B.x], .float .f32 l] w (RFC (zeroIf (codeA B l) (apartC B l)) (codeA B l) w) := by
  unfold codeA
  rcases Bool.eq_false_or_eq_true (okB (bAp B (sumC B))) with hk | hk
  · rcases Bool.eq_false_or_eq_true (psB l) with hl | hl
    · rcases Bool.eq_false_or_eq_true (farB B l) with hf | hf
      · simp only [hk, hl, hf, if_true]
        exact specApart_3 hk hl hf w
      · simp only [hk, hl, hf, if_true, if_false, Bool.false_eq_true]
        exact specApart_4 hk hl hf w
    · simp only [hk, hl, if_true, if_false, Bool.false_eq_true]
      exact specApart_2 hk hl w
  · simp only [hk, if_false, Bool.false_eq_true]
    exact specApart_1 hk w
end Go.Proofs.Ytdfookgncokgjad
