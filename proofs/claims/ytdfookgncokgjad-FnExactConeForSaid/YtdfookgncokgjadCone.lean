/-
  A cone: the specification's list and the program's.
-/
import Derived.Test.YtdfookgncokgjadFlIn
import Derived.Test.YtdfookgncokgjadBrad
import Derived.Deep.RegionLaw
import Derived.Deep.DrawnRows
namespace Go.Proofs.Ytdfookgncokgjad
open Go.RowKit Go.ChangeShapes Go.WideShapes Go.Deep
attribute [local go_sem ↓] Go.wp_at_zero Go.wp_at_succ
set_option linter.unusedVariables false
set_option linter.unusedSimpArgs false
/-- The first code that is not zero, else zero. -/
def firstK (c : Nat → Int) : List Nat → Int
  | [] => 0
  | a :: rest => if c a = 0 then firstK c rest else c a
theorem firstK_at (c : Nat → Int) : ∀ (fs : List Nat) (k f : Nat), fs[k]? = some f → (∀ j g, j < k → fs[j]? = some g → c g = 0) → c f ≠ 0 → firstK c fs = c f := by
  intro fs
  induction fs with
  | nil => intro k f h; simp at h
  | cons a rest ih =>
    intro k f h hz hf
    cases k with
    | zero =>
      simp at h
      subst h
      unfold firstK
      rw [if_neg hf]
    | succ k =>
      unfold firstK
      rw [if_pos (hz 0 a (Nat.succ_pos _) (by simp))]
      exact ih k f (by simpa using h) (fun j g hj hg => hz (j + 1) g (Nat.succ_lt_succ hj) (by simpa using hg)) hf
theorem firstK_all (c : Nat → Int) : ∀ (fs : List Nat), (∀ j g, j < fs.length → fs[j]? = some g → c g = 0) → firstK c fs = 0 := by
  intro fs
  induction fs with
  | nil => intro _; rfl
  | cons a rest ih =>
    intro hz
    unfold firstK
    rw [if_pos (hz 0 a (by simp) (by simp))]
    exact ih (fun j g hj hg => hz (j + 1) g (by simp; omega) (by simpa using hg))
def cK (B : Bl) (a : Nat) : Int := codeF B a (lenC B)
def cR (B : Bl) (a : Nat) : Nat := radC B a (lenC B)
def coneCode (B : Bl) (fs : List Nat) : Int := if okB B then (if 12 < fs.length then 3 else firstK (cK B) fs) else 1
def coneL (B : Bl) (fs : List Nat) : List Nat := if coneCode B fs = 0 then fs.map (cR B) else []
theorem psB_cn {x y : Nat} (h : cn x = cn y) : psB x = psB y := by
  unfold psB
  rw [oGe_cn h rfl, oLe_cn h rfl]
theorem cK_of {B : Bl} {a r : Nat} (h : CN r (lenC B)) : codeF B a r = cK B a := by
  unfold CN at h
  have e : cn r = cn (lenC B) := by rw [← h, cn_cn]
  unfold cK codeF nearB
  rw [psB_cn e, e]
theorem cR_of {B : Bl} {a r : Nat} (h : CN r (lenC B)) : radC B a r = cR B a := by
  unfold CN at h
  have e : cn r = cn (lenC B) := by rw [← h, cn_cn]
  unfold cR radC radR
  rw [e]
theorem cK_cases (B : Bl) (a : Nat) : cK B a = 0 ∨ cK B a = 6 ∨ cK B a = 2 := by
  unfold cK codeF
  split
  · split
    · exact .inr (.inl rfl)
    · exact .inl rfl
  · exact .inr (.inr rfl)
theorem own_emptyS {W : World} {s base : Nat} (h : W.heap.size = s) (e : TypeId) (size : Nat) (hb : base ≤ s) : (W.alloc (.cells #[] e)).ownsRow base e size (.slice (some ⟨s, 0, none⟩) 0 0) 0 [] := by
  subst h
  exact own_empty W base e size hb
theorem own_below {w w' : World} {base : Nat} {e : TypeId} {size : Nat} {v : Value} {n : Nat} {xs : List Value} (h : w.ownsRow base e size v n xs) (hb : Below w.heap.size w w') : w'.ownsRow base e size v n xs := by
  have hlt := own_base h
  rcases h with ⟨h1, h2 | ⟨g, cap, cur, rfl, h3, h4, rest⟩⟩
  · exact ⟨h1, .inl h2⟩
  · exact ⟨h1, .inr ⟨g, cap, cur, rfl, h3, (hb.block g (hlt g rfl).2).trans h4, rest⟩⟩
theorem own_more {w : World} {base base' : Nat} {e : TypeId} {size : Nat} {v : Value} {n : Nat} {xs : List Value} (h : w.ownsRow base e size v n xs) (hb : base' ≤ base) : w.ownsRow base' e size v n xs := by
  rcases h with ⟨h1, h2 | ⟨g, cap, cur, rfl, h3, rest⟩⟩
  · exact ⟨h1, .inl h2⟩
  · exact ⟨h1, .inr ⟨g, cap, cur, rfl, Nat.le_trans hb h3, rest⟩⟩
theorem cone_err {B : Bl} {fs : List Nat} {k f : Nat} {e : Int} (hk : okB B = true) (hn : ¬ 12 < fs.length) (hf : fs[k]? = some f) (hz : ∀ j g, j < k → fs[j]? = some g → cK B g = 0) (he : cK B f = e) (h0 : e ≠ 0) : coneCode B fs = e ∧ coneL B fs = [] := by
  have h1 : coneCode B fs = e := by
    unfold coneCode
    rw [if_pos hk, if_neg hn, firstK_at _ fs k f hf hz (by rw [he]; exact h0), he]
  refine ⟨h1, ?_⟩
  unfold coneL
  rw [h1, if_neg h0]
theorem cone_ok {B : Bl} {fs : List Nat} (hk : okB B = true) (hn : ¬ 12 < fs.length) (hz : ∀ j g, j < fs.length → fs[j]? = some g → cK B g = 0) : coneCode B fs = 0 ∧ coneL B fs = fs.map (cR B) := by
  have h1 : coneCode B fs = 0 := by
    unfold coneCode
    rw [if_pos hk, if_neg hn, firstK_all _ fs hz]
  refine ⟨h1, ?_⟩
  unfold coneL
  rw [h1, if_pos rfl]
theorem take_step {fs gs : List Nat} {k f g : Nat} {c : Nat → Nat} (hf : fs[k]? = some f) (hc : gs.map cn = (fs.take k).map c) (hg : cn g = c f) : (gs ++ [g]).map cn = (fs.take (k + 1)).map c := by
  rw [List.take_add_one, hf, List.map_append, List.map_append, hc]
  simp [hg]
theorem specForC {B : Bl} (hk : okB B = true) {r : Nat} (hr : CN r (lenC B)) {a : Nat} {k : Int} (h : cK B a = k) (q : Nat) (w : World) (h0 : At w q B) : Calls Try.prog 65 #[.pointer (some ⟨q, 0, none⟩), .float .f32 a, .float .f32 r] w (RFC (zeroIf k (cR B a)) k w) := by
  have := specFor_any hk a r q w h0
  rw [cK_of hr, cR_of hr, h] at this
  exact this
set_option maxRecDepth 100000 in
set_option maxHeartbeats 4000000 in
theorem specCone_any (B : Bl) (A : Option Addr) (n c : Nat) (fs : List Nat) (w : World) (hl : fs.length = n) (hn : n ≤ 1048576) {B0 : Nat} (hT : Fl w B0 w.heap.size A fs) :
    Calls Try.prog 27 #[.agg #[.float .f32 B.a, .float .f32 B.b, .float .f32 B.ap, .float .f32 B.g, .bool B.x], .slice A n c] w (FLC (coneL B fs) (coneCode B fs) w) := by
  obtain ⟨i0, hi, hz0, hz1, hz2⟩ := info_parts infoF32
  have h0 := At.new w B
  obtain ⟨c0, c1, c2, c3, c4⟩ := h0.cells
  have H0 := Lib.hid h0
  clear h0
  have Hl := Lib.hid hl; clear hl
  have HT := Lib.hid hT; clear hT
  have Hi := Lib.hid hi; clear hi
  rcases Bool.eq_false_or_eq_true (okB B) with hk | hk
  · by_cases h12 : 12 < n
    · have e1 : coneCode B fs = 3 := by unfold coneCode; rw [if_pos hk, if_pos (by rw [Hl.out]; exact h12)]
      have e2 : coneL B fs = [] := by unfold coneL; rw [e1]; rfl
      rw [e1, e2]
      clear e1 e2
      have z1 : (12 : Int) < (n : Int) := by omega
      go_enter Try.func27, Try.ntmps27
      go_wp2_with (go_at_call 59; refine (l02Ok_any B _ _ c0 c1 c2 c3).mono ?_; rintro e w1 ⟨rfl, n1, rfl⟩)
      go_ret2
      exact flc_of_row (fs := []) (own_emptyS (W := (w.alloc (.cells #[.float .f32 B.a, .float .f32 B.b, .float .f32 B.ap, .float .f32 B.g, .bool B.x] 27)).drewN n1) (s := w.heap.size + 1) (by show (w.alloc _).heap.size = _; simp) _ _ (Nat.le_succ _)) (b_alloc (b_drewN (b_alloc (Below.refl w.heap.size w) _) _) _)
    · have Hk := Lib.hid hk
      have z1 : ¬ (12 : Int) < (n : Int) := by omega
      go_enter Try.func27, Try.ntmps27
      go_wp2_with (go_at_call 59; refine (l02Ok_any B _ _ c0 c1 c2 c3).mono ?_; rintro e w1 ⟨rfl, n1, rfl⟩)
      refine (specLen_any B _ _ (At.same H0.out (by rfl))).mono ?_
      rintro e w2 ⟨r, rfl, hr, b2⟩
      clear c0 c1 c2 c3 c4
      have A2 := Lib.hid (At.on H0.out (by rfl) b2)
      have B2 : Hid (Below w.heap.size w w2) := b_then (b_drewN (b_alloc (Below.refl _ _) _) _) b2
      have T2 := Lib.hid ((HT.out.below B2.out (Nat.le_refl _)).more B2.out.size)
      have Hr := Lib.hid hr
      clear b2 hr
      go_wp2
      have Ho : Hid ((w2.alloc (.cells #[] 22)).ownsRow w2.heap.size 22 1 (.slice (some ⟨w2.heap.size, 0, none⟩) 0 0) 0 []) := own_empty w2 w2.heap.size 22 1 (Nat.le_refl _)
      have B3 : Hid (Below w2.heap.size w2 (w2.alloc (.cells #[] 22))) := (Below.refl _ _).alloc (Nat.le_refl _) _
      go_loopw [7, 8] (fun v i wr => ∃ (k : Nat) (gs : List Nat), k ≤ n ∧ i = .int .i64 k ∧ wr.ownsRow w2.heap.size 22 1 v k (gs.map (Value.float .f32)) ∧ gs.map cn = (fs.take k).map (cR B) ∧ (∀ j g, j < k → fs[j]? = some g → cK B g = 0) ∧ Below w2.heap.size w2 wr) (fun _ i _ => n - (intOf i).toNat)
      case atStart => exact ⟨0, [], Nat.zero_le _, rfl, Ho.out, rfl, fun j g h => absurd h (by omega), B3.out⟩
      case round =>
        obtain ⟨k, gs, hkn, rfl, hown, hcs, hzs, hb⟩ := hrel
        have Hown := Lib.hid hown; have Hcs := Lib.hid hcs; have Hzs := Lib.hid hzs; have Hb := Lib.hid hb
        clear hown hcs hzs hb
        by_cases hlt : k < n
        · obtain ⟨b, rfl, hb0, hbs, hc⟩ := (T2.out.below Hb.out (Nat.le_refl _)) (by rw [Hl.out]; omega)
          obtain ⟨f, hf⟩ : ∃ f, fs[k]? = some f := ⟨_, List.getElem?_eq_getElem (by rw [Hl.out]; exact hlt)⟩
          have c0 := hc k f hf
          have Hf := Lib.hid hf
          have HA := Lib.hid (A2.out.below Hb.out)
          have hbz : b < wr.heap.size := Nat.lt_of_lt_of_le hbs Hb.out.size
          clear hc hf
          have z2 : (0 : Int) ≤ (k : Int) := by omega
          have z3 : (k : Int) < (n : Int) := by omega
          have h12' : ¬ 12 < fs.length := by rw [Hl.out]; exact h12
          rcases cK_cases B f with h | h | h
          · go_wp2_with fail
            refine (specForC Hk.out Hr.out h _ _ (At.same HA.out (by rfl))).mono ?_
            rintro e w3 ⟨g, rfl, hg, b3⟩
            have Hg : Hid (cn g = cR B f) := by have hg' : cn g = zeroIf 0 (cR B f) := hg; unfold zeroIf at hg'; exact hg'
            have Ho3 := Lib.hid (own_below Hown.out b3)
            have Hbs := Lib.hid (own_base Ho3.out)
            have Hb3 : Hid (Below w2.heap.size w2 w3) := b_then Hb.out b3
            clear b3 hg c0
            have Hh := Lib.hid h
            clear h
            go_wp2_with (at_builtin; refine wpList_append_own _ rfl _ _ 36 rfl w2.heap.size 22 i0 _ 1 4 Try.underlying36 Hi.out hz0 hz1 hz2 rfl (by omega) _ k _ rfl (Ho3.out.alloc _) _ 1 _ [_] rfl rfl (World.news_of_block (cs := #[_]) (heap_alloc_new _ _)) (by intro u hu; simp at hu; subst hu; rfl) (by unfold maxLen; omega) (by omega) (by have := Hb3.out.size; simp; omega) ?_; intro v9 w9 hown9 hgrow9 hif9)
            all_goals
              have hb9 : Below w2.heap.size w3 w9 := by
                refine Below.grown ?_ hgrow9 (by have := Hb3.out.size; simp; omega) (fun k h => (Hbs.out k h).1)
                repeat (first | exact Below.refl _ _ | refine b_drewN ?_ _ | refine Below.drew ?_ | refine Below.alloc ?_ (by simpa using Hb3.out.size) _)
              have B9 : Hid (Below w2.heap.size w2 w9) := Hb3.out.trans hb9
              have O9 : Hid (w9.ownsRow w2.heap.size 22 1 v9 (k + 1) ((gs ++ [g]).map (Value.float .f32))) := by
                rw [List.map_append]
                exact hown9
              have e9 := Lib.hid (take_step Hf.out Hcs.out Hg.out)
              clear hb9 hown9 hgrow9 hif9
              go_wp2
              go_roundw
              case rel => exact ⟨k + 1, gs ++ [g], by omega, by go_num, O9.out, e9.out, fun j x hj hx => by
                rcases (by omega : j < k ∨ j = k) with h | rfl
                · exact Hzs.out j x h hx
                · have := Hf.out; rw [hx] at this; cases this; exact Hh.out, B9.out⟩
              case measure => simp [intOf]; omega
          all_goals
            obtain ⟨e1, e2⟩ := cone_err Hk.out h12' Hf.out Hzs.out h (by decide)
            have E1 := Lib.hid e1; have E2 := Lib.hid e2
            clear e1 e2
            go_wp2_with fail
            refine (specForC Hk.out Hr.out h _ _ (At.same HA.out (by rfl))).mono ?_
            rintro e w3 ⟨g, rfl, hg, b3⟩
            have Hb3 : Hid (Below w.heap.size w w3) := b_then (b_then B2.out Hb.out) b3
            clear b3 hg c0
            go_wp2
            go_ret2
            rw [E1.out, E2.out]
            exact flc_of_row (fs := []) (own_empty _ _ _ _ (Hb3.out.size)) (b_alloc Hb3.out _)
        · have hkk : k = n := by omega
          subst hkk
          obtain ⟨e1, e2⟩ := cone_ok (fs := fs) Hk.out (by rw [Hl.out]; exact h12) (fun j g hj hg => Hzs.out j g (by rw [← Hl.out]; exact hj) hg)
          have E1 := Lib.hid e1; have E2 := Lib.hid e2
          clear e1 e2
          have hz : gs.map cn = fs.map (cR B) := by have := Hcs.out; rwa [List.take_of_length_le (by rw [Hl.out]; exact Nat.le_refl _)] at this
          have Hz := Lib.hid hz
          clear hz
          go_wp2
          go_ret2
          have := flc_of_row (k := 0) (own_more Hown.out B2.out.size) (b_then B2.out Hb.out)
          rw [Hz.out] at this
          rw [E1.out, E2.out]
          exact this
  · have e1 : coneCode B fs = 1 := by unfold coneCode; rw [if_neg (by rw [hk]; decide)]
    have e2 : coneL B fs = [] := by unfold coneL; rw [e1]; rfl
    rw [e1, e2]
    clear e1 e2
    go_enter Try.func27, Try.ntmps27
    go_wp2_with (go_at_call 59; refine (l02Ok_any B _ _ c0 c1 c2 c3).mono ?_; rintro e w1 ⟨rfl, n1, rfl⟩)
    go_ret2
    exact flc_of_row (fs := []) (own_emptyS (W := (w.alloc (.cells #[.float .f32 B.a, .float .f32 B.b, .float .f32 B.ap, .float .f32 B.g, .bool B.x] 27)).drewN n1) (s := w.heap.size + 1) (by show (w.alloc _).heap.size = _; simp) _ _ (Nat.le_succ _)) (b_alloc (b_drewN (b_alloc (Below.refl w.heap.size w) _) _) _)
theorem implForC {B : Bl} (hk : okB B = true) {r : Nat} (hr : CN r (lenC B)) {a : Nat} {k : Int} (h : cK B a = k) (w : World) : Calls Try.prog 26 #[.agg #[.float .f32 B.a, .float .f32 B.b, .float .f32 B.ap, .float .f32 B.g, .bool B.x], .float .f32 a, .float .f32 r] w (RFC (zeroIf k (cR B a)) k w) := by
  have := implRadius_any B a r w
  unfold codeR at this
  rw [if_pos hk, cK_of hr, cR_of hr, h] at this
  exact this
set_option maxRecDepth 100000 in
set_option maxHeartbeats 4000000 in
theorem implCone_any (B : Bl) (A : Option Addr) (n c : Nat) (fs : List Nat) (w : World) (hl : fs.length = n) (hn : n ≤ 1048576) {B0 : Nat} (hT : Fl w B0 w.heap.size A fs) :
    Calls Try.prog 29 #[.agg #[.float .f32 B.a, .float .f32 B.b, .float .f32 B.ap, .float .f32 B.g, .bool B.x], .slice A n c] w (FLC (coneL B fs) (coneCode B fs) w) := by
  obtain ⟨i0, hi, hz0, hz1, hz2⟩ := info_parts infoF32
  have Hl := Lib.hid hl; clear hl
  have HT := Lib.hid hT; clear hT
  have Hi := Lib.hid hi
  rcases Bool.eq_false_or_eq_true (okB B) with hk | hk
  · by_cases h12 : 12 < n
    · have e1 : coneCode B fs = 3 := by unfold coneCode; rw [if_pos hk, if_pos (by rw [Hl.out]; exact h12)]
      have e2 : coneL B fs = [] := by unfold coneL; rw [e1]; rfl
      rw [e1, e2]
      clear e1 e2
      have z1 : (12 : Int) < (n : Int) := by omega
      go_enter Try.func29, Try.ntmps29
      go_wp2_with (go_at_call 52; refine (validBelt_any _ _).mono ?_; rintro e w1 ⟨rfl, b1⟩)
      go_ret2
      exact flc_of_row (fs := []) (World.ownsRow_nil _ _ _ _) (b_then (b_alloc (Below.refl _ _) _) b1)
    · have Hk := Lib.hid hk
      have z1 : ¬ (12 : Int) < (n : Int) := by omega
      go_enter Try.func29, Try.ntmps29
      go_wp2_with (go_at_call 52; refine (validBelt_any _ _).mono ?_; rintro e w1 ⟨rfl, b1⟩; have A1 := Lib.hid ((At.new w B).below b1); obtain ⟨c0, c1, c2, c3, c4⟩ := A1.out.cells; have B1 : Hid (Below w.heap.size w w1) := b_then (b_alloc (Below.refl _ _) _) b1; clear b1)
      refine (implLen_any B _).mono ?_
      rintro e w2 ⟨r, rfl, hr, b2⟩
      clear c0 c1 c2 c3 c4
      have A2 := Lib.hid (A1.out.below b2)
      have B2 : Hid (Below w.heap.size w w2) := b_then B1.out b2
      have T2 := Lib.hid ((HT.out.below B2.out (Nat.le_refl _)).more B2.out.size)
      have Hr := Lib.hid hr
      clear b2 hr
      go_wp2_with (at_make; refine wpList_make_own _ rfl _ _ 36 rfl w2.heap.size 22 i0 _ 1 Try.underlying36 hi hz0 hz1 _ _ _ n rfl rfl rfl (by rw [hz2]; omega) (by unfold maxLen; omega) (Nat.le_refl _) ?_; intro w3 hown hgrow; have Ho := Lib.hid hown; have B3 : Hid (Below w2.heap.size w2 w3) := Below.grown (Below.refl _ _) hgrow (Nat.le_refl _) (fun k h => by cases h); clear hown hgrow)
      clear hi
      go_loopw [7, 25] (fun v i wr => ∃ (k : Nat) (gs : List Nat), k ≤ n ∧ i = .int .i64 k ∧ wr.ownsRow w2.heap.size 22 1 v k (gs.map (Value.float .f32)) ∧ gs.map cn = (fs.take k).map (cR B) ∧ (∀ j g, j < k → fs[j]? = some g → cK B g = 0) ∧ Below w2.heap.size w2 wr) (fun _ i _ => n - (intOf i).toNat)
      case atStart => exact ⟨0, [], Nat.zero_le _, rfl, Ho.out, rfl, fun j g h => absurd h (by omega), B3.out⟩
      case round =>
        obtain ⟨k, gs, hkn, rfl, hown, hcs, hzs, hb⟩ := hrel
        have Hown := Lib.hid hown; have Hcs := Lib.hid hcs; have Hzs := Lib.hid hzs; have Hb := Lib.hid hb
        clear hown hcs hzs hb
        by_cases hlt : k < n
        · obtain ⟨b, rfl, hb0, hbs, hc⟩ := (T2.out.below Hb.out (Nat.le_refl _)) (by rw [Hl.out]; omega)
          obtain ⟨f, hf⟩ : ∃ f, fs[k]? = some f := ⟨_, List.getElem?_eq_getElem (by rw [Hl.out]; exact hlt)⟩
          have c0 := hc k f hf
          have Hf := Lib.hid hf
          have HA := Lib.hid (A2.out.below Hb.out)
          obtain ⟨d0, d1, d2, d3, d4⟩ := HA.out.cells
          have hbz : b < wr.heap.size := Nat.lt_of_lt_of_le hbs Hb.out.size
          have hAz : w.heap.size < wr.heap.size := HA.out.lt
          clear hc hf
          have z2 : (0 : Int) ≤ (k : Int) := by omega
          have z3 : (k : Int) < (n : Int) := by omega
          have h12' : ¬ 12 < fs.length := by rw [Hl.out]; exact h12
          rcases cK_cases B f with h | h | h
          · go_wp2_with fail
            refine (implForC Hk.out Hr.out h _).mono ?_
            rintro e w3 ⟨g, rfl, hg, b3⟩
            have Hg : Hid (cn g = cR B f) := by have hg' : cn g = zeroIf 0 (cR B f) := hg; unfold zeroIf at hg'; exact hg'
            have Ho3 := Lib.hid (own_below Hown.out b3)
            have Hbs := Lib.hid (own_base Ho3.out)
            have Hb3 : Hid (Below w2.heap.size w2 w3) := b_then Hb.out b3
            clear b3 hg c0 d0 d1 d2 d3 d4
            have Hh := Lib.hid h
            clear h
            go_wp2_with (at_builtin; refine wpList_append_own _ rfl _ _ 36 rfl w2.heap.size 22 i0 _ 1 4 Try.underlying36 Hi.out hz0 hz1 hz2 rfl (by omega) _ k _ rfl (Ho3.out.alloc _) _ 1 _ [_] rfl rfl (World.news_of_block (cs := #[_]) (heap_alloc_new _ _)) (by intro u hu; simp at hu; subst hu; rfl) (by unfold maxLen; omega) (by omega) (by have := Hb3.out.size; simp; omega) ?_; intro v9 w9 hown9 hgrow9 hif9)
            all_goals
              have hb9 : Below w2.heap.size w3 w9 := by
                refine Below.grown ?_ hgrow9 (by have := Hb3.out.size; simp; omega) (fun k h => (Hbs.out k h).1)
                repeat (first | exact Below.refl _ _ | refine b_drewN ?_ _ | refine Below.drew ?_ | refine Below.alloc ?_ (by simpa using Hb3.out.size) _)
              have B9 : Hid (Below w2.heap.size w2 w9) := Hb3.out.trans hb9
              have O9 : Hid (w9.ownsRow w2.heap.size 22 1 v9 (k + 1) ((gs ++ [g]).map (Value.float .f32))) := by
                rw [List.map_append]
                exact hown9
              have e9 := Lib.hid (take_step Hf.out Hcs.out Hg.out)
              clear hb9 hown9 hgrow9 hif9
              go_wp2
              go_roundw
              case rel => exact ⟨k + 1, gs ++ [g], by omega, by go_num, O9.out, e9.out, fun j x hj hx => by
                rcases (by omega : j < k ∨ j = k) with h | rfl
                · exact Hzs.out j x h hx
                · have := Hf.out; rw [hx] at this; cases this; exact Hh.out, B9.out⟩
              case measure => simp [intOf]; omega
          all_goals
            obtain ⟨e1, e2⟩ := cone_err Hk.out h12' Hf.out Hzs.out h (by decide)
            have E1 := Lib.hid e1; have E2 := Lib.hid e2
            clear e1 e2
            go_wp2_with fail
            refine (implForC Hk.out Hr.out h _).mono ?_
            rintro e w3 ⟨g, rfl, hg, b3⟩
            have Hb3 : Hid (Below w.heap.size w w3) := b_then (b_then B2.out Hb.out) b3
            clear b3 hg c0 d0 d1 d2 d3 d4
            go_wp2
            go_ret2
            rw [E1.out, E2.out]
            exact flc_of_row (fs := []) (World.ownsRow_nil _ _ _ _) Hb3.out
        · have hkk : k = n := by omega
          subst hkk
          obtain ⟨e1, e2⟩ := cone_ok (fs := fs) Hk.out (by rw [Hl.out]; exact h12) (fun j g hj hg => Hzs.out j g (by rw [← Hl.out]; exact hj) hg)
          have E1 := Lib.hid e1; have E2 := Lib.hid e2
          clear e1 e2
          have hz : gs.map cn = fs.map (cR B) := by have := Hcs.out; rwa [List.take_of_length_le (by rw [Hl.out]; exact Nat.le_refl _)] at this
          have Hz := Lib.hid hz
          clear hz
          go_wp2
          go_ret2
          have := flc_of_row (k := 0) (own_more Hown.out B2.out.size) (b_then B2.out Hb.out)
          rw [Hz.out] at this
          rw [E1.out, E2.out]
          exact this
  · have e1 : coneCode B fs = 1 := by unfold coneCode; rw [if_neg (by rw [hk]; decide)]
    have e2 : coneL B fs = [] := by unfold coneL; rw [e1]; rfl
    rw [e1, e2]
    clear e1 e2
    go_enter Try.func29, Try.ntmps29
    go_wp2_with (go_at_call 52; refine (validBelt_any _ _).mono ?_; rintro e w1 ⟨rfl, b1⟩)
    go_ret2
    exact flc_of_row (fs := []) (World.ownsRow_nil _ _ _ _) (b_then (b_alloc (Below.refl _ _) _) b1)
end Go.Proofs.Ytdfookgncokgjad
