/-
  The text of a train: the program's and the model's; the law.
-/
import Derived.Test.YtkkcihgnpephiaaDoorTs0
import Derived.Test.YtkkcihgnpephiaaDoorULawsA
namespace Go.Proofs.YtkkcihgnpephiaaDoor
open Go.RowKit Go.ChangeShapes Go.WideShapes Go.Deep
attribute [local go_sem ↓] Go.wp_at_zero Go.wp_at_succ
set_option linter.unusedVariables false
set_option linter.unusedSimpArgs false
set_option maxRecDepth 100000
def txP (p : Px) : List UInt8 := Lib.decDigits p.a.toNat ++ 47 :: (Lib.decDigits p.b.toNat ++ 58 :: hex8 (cn p.l))
def txR (ps : List Px) : List (List UInt8) := ps.map txP
def textR (ps : List Px) : List UInt8 := if okTr ps then Lib.join (txR ps) [32] else []
/-- A pair of a valid train, with its numbers as natural ones. -/
structure Np (p : Px) (x y : Nat) : Prop where
  ha : p.a = (x : Int)
  hb : p.b = (y : Int)
  hx : x ≤ 200
  hy : y ≤ 200
  hl : p.l < 4294967296
theorem np_of {ps : List Px} (h : okTr ps = true) (hw : ∀ p ∈ ps, p.wf) {k : Nat} {p : Px} (hp : ps[k]? = some p) : ∃ x y, Np p x y := by
  have hm := List.mem_of_getElem? hp
  obtain ⟨h1, h2, _⟩ := teeth_bounds h hm
  exact ⟨p.a.toNat, p.b.toNat, by omega, by omega, by omega, by omega, (hw p hm).2.2⟩
theorem dec200 {x : Nat} (h : x ≤ 200) : (Lib.decDigits x).length ≤ 3 := dec_len 2 x (by show x < 10 ^ 3; omega)
theorem txP_np {p : Px} {x y : Nat} (h : Np p x y) : txP p = Lib.decDigits x ++ 47 :: (Lib.decDigits y ++ 58 :: hex8 (cn p.l)) := by
  unfold txP
  rw [h.ha, h.hb, Int.toNat_natCast, Int.toNat_natCast]
theorem txP_cat {p : Px} {x y : Nat} (h : Np p x y) : bsOf (Lib.decDigits x) ++ ⟨#[47]⟩ ++ bsOf (Lib.decDigits y) ++ ⟨#[58]⟩ ++ bsOf (hex8 (cn p.l)) = bsOf (txP p) := by
  have e : (⟨#[47]⟩ : ByteArray) = bsOf [47] := rfl
  have e2 : (⟨#[58]⟩ : ByteArray) = bsOf [58] := rfl
  rw [txP_np h, e, e2, bsOf_append, bsOf_append, bsOf_append, bsOf_append]
  simp
theorem rgX_step {p : Px} {x y : Nat} {b o : Nat} {w W w' : World} (h : W.cell? ⟨b, o, none⟩ = some (.int .i16 x) ∧ W.cell? ⟨b, o + 1, none⟩ = some (.int .i16 y) ∧ W.cell? ⟨b, o + 2, none⟩ = some (.float .f32 p.l) ∧ Hid (TbAt W) ∧ Hid (Below w.heap.size w W)) (b' : Below W.heap.size W w') : w'.cell? ⟨b, o, none⟩ = some (.int .i16 x) ∧ w'.cell? ⟨b, o + 1, none⟩ = some (.int .i16 y) ∧ w'.cell? ⟨b, o + 2, none⟩ = some (.float .f32 p.l) ∧ Hid (TbAt w') ∧ Hid (Below w.heap.size w w') :=
  ⟨cell_on h.1 rfl b', cell_on h.2.1 rfl b', cell_on h.2.2.1 rfl b', Lib.hid (h.2.2.2.1.out.below b'), Lib.hid (b_then h.2.2.2.2.out b')⟩
theorem rgX_tb {p : Px} {x y : Nat} {b o : Nat} {w W : World} (h : W.cell? ⟨b, o, none⟩ = some (.int .i16 x) ∧ W.cell? ⟨b, o + 1, none⟩ = some (.int .i16 y) ∧ W.cell? ⟨b, o + 2, none⟩ = some (.float .f32 p.l) ∧ Hid (TbAt W) ∧ Hid (Below w.heap.size w W)) : TbAt W := h.2.2.2.1.out
theorem rgX_b {p : Px} {x y : Nat} {b o : Nat} {w W : World} (h : W.cell? ⟨b, o, none⟩ = some (.int .i16 x) ∧ W.cell? ⟨b, o + 1, none⟩ = some (.int .i16 y) ∧ W.cell? ⟨b, o + 2, none⟩ = some (.float .f32 p.l) ∧ Hid (TbAt W) ∧ Hid (Below w.heap.size w W)) : Below w.heap.size w W := h.2.2.2.2.out
set_option maxHeartbeats 4000000 in
theorem pairText_any (p : Px) (x y : Nat) (hp : Np p x y) (w : World) (hB : TbAt w) : Calls Tryd.prog 66 #[.agg #[.int .i16 p.a, .int .i16 p.b, .float .f32 p.l]] w (RV (.string (bsOf (txP p))) w) := by
  have J := Lib.hid (txP_cat hp)
  obtain ⟨ha, hb, hx, hy, hl⟩ := hp
  rw [ha, hb, ← J.out]
  have La := Lib.hid (fun W h => itoa_any x (by omega) W h)
  have Lb := Lib.hid (fun W h => itoa_any y (by omega) W h)
  have Lh := Lib.hid (fun W h => numText_any p.l hl W h)
  have wx : IntKind.i64.wrap (x : Int) = x := IntWalk.i64_in _ (by omega)
  have wy : IntKind.i64.wrap (y : Int) = y := IntWalk.i64_in _ (by omega)
  have z1 : (bsOf (Lib.decDigits x)).size ≤ 3 := by rw [bsOf_size]; exact dec200 hx
  have z2 : (bsOf (Lib.decDigits y)).size ≤ 3 := by rw [bsOf_size]; exact dec200 hy
  have z3 := h8_size (cn p.l)
  have K0 := heap_alloc_new w (.cells #[.int .i16 (x : Int), .int .i16 (y : Int), .float .f32 p.l] 93)
  have c0 := cell_of_row _ _ 0 _ _ _ K0; have c1 := cell_of_row _ _ 1 _ _ _ K0; have c2 := cell_of_row _ _ 2 _ _ _ K0
  simp only [List.getElem?_toArray, Array.getElem?_toList] at c0 c1 c2
  have HB := Lib.hid hB
  clear ha hb hx hy hl J hB K0
  generalize bsOf (Lib.decDigits x) = t1 at *
  generalize bsOf (Lib.decDigits y) = t2 at *
  generalize bsOf (hex8 (cn p.l)) = t3 at *
  have s0 : (⟨#[47]⟩ : ByteArray).size = 1 := rfl
  have s1 : (⟨#[58]⟩ : ByteArray).size = 1 := rfl
  have y1 : ¬ 9223372036854775807 < t1.size + 1 := by omega
  have y2 : ¬ 9223372036854775807 < t1.size + 1 + t2.size := by omega
  have y3 : ¬ 9223372036854775807 < t1.size + 1 + t2.size + 1 := by omega
  have y4 : ¬ 9223372036854775807 < t1.size + 1 + t2.size + 1 + 8 := by omega
  clear z1 z2
  have C0 : (w.alloc (.cells #[.int .i16 (x : Int), .int .i16 (y : Int), .float .f32 p.l] 93)).cell? ⟨w.heap.size, 0, none⟩ = some (.int .i16 x) := c0
  have C1 : (w.alloc (.cells #[.int .i16 (x : Int), .int .i16 (y : Int), .float .f32 p.l] 93)).cell? ⟨w.heap.size, 1, none⟩ = some (.int .i16 y) := c1
  have C2 : (w.alloc (.cells #[.int .i16 (x : Int), .int .i16 (y : Int), .float .f32 p.l] 93)).cell? ⟨w.heap.size, 2, none⟩ = some (.float .f32 p.l) := c2
  clear c0 c1 c2
  go_enter Tryd.func66, Tryd.ntmps66
  go_wp2_with fail
  go_region_held3 (fun w' => w'.cell? ⟨w.heap.size, 0, none⟩ = some (.int .i16 x) ∧ w'.cell? ⟨w.heap.size, 1, none⟩ = some (.int .i16 y) ∧ w'.cell? ⟨w.heap.size, 2, none⟩ = some (.float .f32 p.l) ∧ Hid (TbAt w') ∧ Hid (Below w.heap.size w w'))
    (first
      | exact ⟨C0, C1, C2, Lib.hid (HB.out.below (b_drew (b_alloc (Below.refl _ w) _))), Lib.hid (b_drew (b_alloc (Below.refl _ w) _))⟩
      | assumption)
    (first
      | (go_at_call 84; (first | with_reducible refine (La.out _ ?_).mono ?_ | with_reducible refine (Lb.out _ ?_).mono ?_); (· exact rgX_tb (o := 0) (by assumption)); rintro e w' ⟨rfl, b⟩; have C := rgX_step (o := 0) (by assumption) b; clear b)
      | (go_at_call 16; refine (Lh.out _ ?_).mono ?_; (· exact rgX_tb (o := 0) (by assumption)); rintro e w' ⟨rfl, b⟩; have C := rgX_step (o := 0) (by assumption) b; clear b))
  have HF := Lib.hid (show Below w.heap.size w _ from C.2.2.2.2.out)
  clear C C0 C1 C2
  go_wp2
  go_ret
  exact ⟨rfl, HF.out⟩
theorem join_bound (b : UInt8) (m : Nat) : ∀ l : List (List UInt8), (∀ x ∈ l, x.length ≤ m) → (Lib.join l [b]).length ≤ l.length * (m + 1)
  | [], _ => by simp [Lib.join]
  | [x], h => by rw [Lib.join_one]; have := h x (by simp); simp; omega
  | x :: y :: r, h => by
    rw [join_two]
    have h1 := h x (by simp)
    have h2 := join_bound b m (y :: r) (fun z hz => h z (List.mem_cons_of_mem _ hz))
    simp only [List.length_append, List.length_cons] at h2 ⊢
    rw [Nat.add_mul (r.length + 1) 1]
    omega
theorem join_snoc (b : UInt8) (x : List UInt8) : ∀ l : List (List UInt8), l ≠ [] → Lib.join (l ++ [x]) [b] = Lib.join l [b] ++ b :: x
  | [], h => absurd rfl h
  | [y], _ => by
    show Lib.join [y, x] [b] = _
    rw [join_two, Lib.join_one, Lib.join_one]
  | y :: z :: r, _ => by
    show Lib.join (y :: z :: (r ++ [x])) [b] = _
    rw [join_two, show z :: (r ++ [x]) = (z :: r) ++ [x] from rfl, join_snoc b x (z :: r) (by simp), join_two]
    simp
theorem txR_len (ps : List Px) : (txR ps).length = ps.length := by simp [txR]
theorem txR_take {ps : List Px} {k : Nat} {p : Px} (h : ps[k]? = some p) : (txR ps).take (k + 1) = (txR ps).take k ++ [txP p] := by
  unfold txR
  rw [List.take_add_one, List.getElem?_map, h]; rfl
theorem txP_len {p : Px} {x y : Nat} (h : Np p x y) : (txP p).length ≤ 16 := by
  rw [txP_np h]
  have h1 := dec200 h.hx
  have h2 := dec200 h.hy
  simp [hex8_length]
  omega
theorem txR_short {ps : List Px} (hk : okTr ps = true) (hw : ∀ p ∈ ps, p.wf) : ∀ x ∈ txR ps, x.length ≤ 16 := fun x hx => by
  unfold txR at hx
  obtain ⟨p, hp, rfl⟩ := List.mem_map.1 hx
  obtain ⟨i, hi, he⟩ := List.mem_iff_getElem.1 hp
  obtain ⟨a, b, hn⟩ := np_of hk hw (k := i) (p := p) (by rw [List.getElem?_eq_getElem hi, he])
  exact txP_len hn
set_option maxHeartbeats 4000000 in
theorem implTrainText_any (A : Option Addr) (n c : Nat) (ps : List Px) (w : World) (hl : ps.length = n) (hn : n ≤ 1048576) (hw : ∀ p ∈ ps, p.wf) (hT : Px.L w w.heap.size A ps) (hB : TbAt w) : Calls Tryd.prog 23 #[.slice A n c] w (RV (.string (bsOf (textR ps))) w) := by
  obtain ⟨i0, hi, hy⟩ := Option.map_eq_some_iff.1 str_info
  injection hy with hy0 hy
  injection hy with hy1 hy2
  have hys : (Value.string ⟨#[]⟩).cells.size = 1 := rfl
  have Hi := Lib.hid hi
  have Hy0 := Lib.hid hy0; have Hy1 := Lib.hid hy1; have Hy2 := Lib.hid hy2; have Hys := Lib.hid hys
  have HT := Lib.hid hT; have HB := Lib.hid hB; have Hl := Lib.hid hl; have Hw := Lib.hid hw
  have LV := Lib.hid (validTrain_any A n c ps w hl hn hT hw)
  have E0 := Lib.hid (fun h => show textR ps = [] by unfold textR; rw [show okTr ps = false from h]; rfl)
  have E1 := Lib.hid (fun h => show textR ps = Lib.join (txR ps) [32] by unfold textR; rw [show okTr ps = true from h]; rfl)
  clear hi hy0 hy1 hy2 hys hT hB hl hw
  go_enter Tryd.func23, Tryd.ntmps23
  go_wp2_with fail
  refine LV.out.mono ?_
  rintro e w1 ⟨rfl, b1⟩
  have B1 := Lib.hid b1
  have T1 := Lib.hid (HB.out.below b1)
  have I1 := Lib.hid (HT.out.keep b1)
  clear b1 HB HT LV
  cases hk : okTr ps
  · have E := Lib.hid (E0.out hk)
    clear hk
    go_wp2
    go_ret
    exact ⟨by rw [E.out]; rfl, B1.out⟩
  · have E := Lib.hid (E1.out hk)
    have hlen := size_bounds hk
    rw [Hl.out] at hlen
    obtain ⟨hn2, hn24⟩ := hlen
    have Hk := Lib.hid hk
    clear hk E0 E1
    go_wp2_with (at_make; refine wpList_make_own _ rfl _ _ 96 rfl w1.heap.size 9 i0 _ 1 Tryd.underlying96 Hi.out Hy0.out Hy1.out _ _ _ n rfl rfl rfl (by rw [Hy2.out]; omega) (by unfold maxLen; omega) (Nat.le_refl _) ?_; intro w2 hown hgrow; have B2 : Hid (Below w1.heap.size w1 w2) := (Below.refl _ w1).grown hgrow (Nat.le_refl _) (fun k h => by cases h); have O2 := Lib.hid hown; clear hown hgrow)
    go_loopw [3, 14] (fun v vi wr => ∃ (k : Nat), vi = .int .i64 k ∧ k ≤ n ∧ Hid (wr.ownsRow w1.heap.size 9 1 v k (((txR ps).take k).map strV)) ∧ Hid (Below w1.heap.size w1 wr)) (fun _ vi _ => n - (intOf vi).toNat)
    case atStart => exact ⟨0, rfl, by omega, O2, B2⟩
    case round =>
      obtain ⟨k, rfl, hkn, hO, hB⟩ := hrel
      have hba := own_base hO.out
      have Hba := Lib.hid hba
      clear hba
      by_cases hlt : k < n
      · obtain ⟨p, hp⟩ : ∃ p, ps[k]? = some p := ⟨_, List.getElem?_eq_getElem (by rw [Hl.out]; exact hlt)⟩
        obtain ⟨b, off, rfl, hbs, hc⟩ := I1.out (by rw [Hl.out]; omega)
        obtain ⟨d0, d1, d2⟩ := cells3 (hc k p hp)
        have c0 := cell_on d0 rfl hB.out
        have c1 := cell_on d1 rfl hB.out
        have c2 := cell_on d2 rfl hB.out
        obtain ⟨x, y, hnp⟩ := np_of Hk.out Hw.out hp
        have Htk := Lib.hid (txR_take hp)
        have L := Lib.hid (fun W h => pairText_any p x y hnp W h)
        have D : Hid (strV (txP p) = .string (bsOf (txP p))) := Lib.hid rfl
        generalize bsOf (txP p) = DD at *
        clear hc hp d0 d1 d2 hnp
        go_wp2_with fail
        clear c0 c1 c2
        refine (L.out _ (T1.out.below (b_alloc hB.out _))).mono ?_
        rintro e w3 ⟨rfl, b3⟩
        have b23 : Below wr.heap.size wr w3 := b_then (b_alloc (Below.refl _ _) _) b3
        have B3 := Lib.hid (b_then hB.out b23)
        have O3 := Lib.hid (own_below hO.out b23)
        clear b3 b23
        go_wp2_with (at_builtin; refine wpList_append_own _ rfl (.tmp 18) (.tmp 21) 96 rfl w1.heap.size 9 i0 _ 1 16 Tryd.underlying96 Hi.out Hy0.out Hy1.out Hy2.out Hys.out (by omega) _ k _ rfl (O3.out.alloc _) _ 1 _ [_] rfl rfl (World.news_of_block (cs := #[_]) (heap_alloc_new _ _)) (by intro u hu; simp at hu; subst hu; rfl) (by unfold maxLen; omega) (by omega) (by have := B3.out.size; simp; omega) ?_; intro v9 w9 hown9 hgrow9 hif9)
        have O9 : Hid (w9.ownsRow w1.heap.size 9 1 v9 (k + 1) (((txR ps).take (k + 1)).map strV)) := by
          rw [Htk.out, List.map_append]
          have h9 := hown9
          rw [← D.out] at h9
          exact h9
        have B9 : Hid (Below w1.heap.size w1 w9) := (b_alloc B3.out _).grown hgrow9 (by have := B3.out.size; simp; omega) (fun k h => (Hba.out k h).1)
        exact ⟨⟨k + 1, by go_num, by omega, O9, B9⟩, by simp [intOf]; omega⟩
      · obtain rfl : k = n := by omega
        have e1 : (txR ps).take k = txR ps := List.take_of_length_le (by rw [txR_len, Hl.out]; exact Nat.le_refl _)
        rw [e1] at hO
        have hjl := join_bound 32 16 (txR ps) (txR_short Hk.out Hw.out)
        rw [txR_len, Hl.out] at hjl
        have J := Lib.hid (join_any _ (txR ps) 32 wr (StIn.of_row hO.out (by omega)) (by rw [txR_len, Hl.out]; omega) (by omega))
        clear e1 hjl
        go_wp2_with fail
        refine J.out.mono ?_
        rintro e w4 ⟨rfl, b4⟩
        have B4 := Lib.hid (b_then B1.out (b_then hB.out b4))
        clear b4
        go_wp2
        go_ret
        exact ⟨by rw [E.out]; rfl, B4.out⟩
end Go.Proofs.YtkkcihgnpephiaaDoor
