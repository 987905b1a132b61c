/-
  Wheels of a box: their errors, the quotient of two, the factor of four.
-/
import Derived.Test.YtchilhapomfbeaaBo
import Derived.Test.YtchilhapomfbeaaOff
import Derived.Test.YtchilhapomfbeaaCh
import Derived.Deep.DeepCutAuto
namespace Go.Proofs.Ytchilhapomfbeaa
open Go.RowKit Go.ChangeShapes Go.WideShapes Go.Deep
attribute [local go_sem ↓] Go.wp_at_zero Go.wp_at_succ
set_option linter.unusedVariables false
set_option linter.unusedSimpArgs false
set_option maxRecDepth 100000
def codeX (ok rng : Bool) : Int := if ok then (if rng then 0 else 2) else 1
def inB (n : Nat) (xs : List Int) : Bool := xs.all (fun x => decide (0 ≤ x) && decide (x < (n : Int)))
def dupB (xs : List Int) : Bool := (List.range xs.length).any (fun i => (xs.take i).contains (xs.getD i 0))
def codeW (zs xs : List Int) : Int := if okZ zs then (if inB zs.length xs then (if dupB xs then 4 else 0) else 2) else 1
theorem codeW_bad {zs xs : List Int} {K : Int} (h : codeX (okZ zs) (inB zs.length xs) = K) (hK : K ≠ 0) : codeW zs xs = K := by
  unfold codeW codeX at *
  cases h1 : okZ zs <;> cases h2 : inB zs.length xs <;> simp only [h1, h2, if_true, if_false, Bool.false_eq_true] at h ⊢ <;> first | exact h | exact absurd h.symm hK
theorem codeX_zero {a b : Bool} (h : codeX a b = 0) : a = true ∧ b = true := by
  unfold codeX at h
  cases a <;> cases b <;> simp_all
theorem codeW_dup {zs xs : List Int} (h : codeX (okZ zs) (inB zs.length xs) = 0) {k : Nat} (hk : k < xs.length) (hd : (xs.take k).contains (xs.getD k 0) = true) : codeW zs xs = 4 := by
  obtain ⟨h1, h2⟩ := codeX_zero h
  have h3 : dupB xs = true := by
    unfold dupB
    rw [List.any_eq_true]
    exact ⟨k, List.mem_range.2 hk, hd⟩
  unfold codeW
  rw [h1, h2, h3]
  rfl
theorem codeW_ok {zs xs : List Int} (h : codeX (okZ zs) (inB zs.length xs) = 0) (hd : ∀ i, i < xs.length → (xs.take i).contains (xs.getD i 0) = false) : codeW zs xs = 0 := by
  obtain ⟨h1, h2⟩ := codeX_zero h
  have h3 : dupB xs = false := by
    unfold dupB
    rw [List.any_eq_false]
    intro i hi
    rw [hd i (List.mem_range.1 hi)]
    decide
  unfold codeW
  rw [h1, h2, h3]
  rfl
theorem codeX_cases {o r : Bool} {K : Int} (h : codeX o r = K) : K = 0 ∨ K = 1 ∨ K = 2 := by
  subst h
  unfold codeX
  cases o <;> cases r <;> simp
theorem codeW_cases {zs xs : List Int} {K : Int} (h : codeW zs xs = K) : K = 0 ∨ K = 1 ∨ K = 2 ∨ K = 4 := by
  subst h
  unfold codeW
  cases okZ zs <;> cases inB zs.length xs <;> cases dupB xs <;> simp
theorem codeW_zero {zs xs : List Int} (h : codeW zs xs = 0) : okZ zs = true ∧ inB zs.length xs = true := by
  unfold codeW at h
  cases h1 : okZ zs <;> cases h2 : inB zs.length xs <;> cases h3 : dupB xs <;> simp_all
theorem inB_at {n : Nat} {xs : List Int} (h : inB n xs = true) {x : Int} (hx : x ∈ xs) : 0 ≤ x ∧ x < n := by
  have := List.all_eq_true.1 h x hx
  simpa using this
/-- The slice of address A holds the numbers xs, below block B. -/
def Lo (w : World) (B : Nat) (A : Option Addr) (xs : List Int) : Prop :=
  0 < xs.length → ∃ b off, A = some ⟨b, off, none⟩ ∧ b < B ∧ ∀ i x, xs[i]? = some x → w.cell? ⟨b, off + i, none⟩ = some (.int .i64 x)
theorem Lo.keep {w w' : World} {A : Option Addr} {xs : List Int} (h : Lo w w.heap.size A xs) (hb : Below w.heap.size w w') : Lo w' w'.heap.size A xs := fun h0 => by
  obtain ⟨b, off, e, h1, hc⟩ := h h0
  exact ⟨b, off, e, Nat.lt_of_lt_of_le h1 hb.size, fun i x hx => (World.cell?_of_block (a := ⟨b, off + i, none⟩) (hb.block b h1)).trans (hc i x hx)⟩
theorem lo_two {w : World} {q : Nat} {x y : Int} (h0 : w.cell? ⟨q, 0, none⟩ = some (.int .i64 x)) (h1 : w.cell? ⟨q, 1, none⟩ = some (.int .i64 y)) (hq : q < w.heap.size) : Lo w w.heap.size (some ⟨q, 0, none⟩) [x, y] := fun _ =>
  ⟨q, 0, rfl, hq, fun i f hf => by
    rw [Nat.zero_add]
    match i, hf with
    | 0, hf => simp at hf; subst hf; exact h0
    | 1, hf => simp at hf; subst hf; exact h1⟩
theorem lo_four {w : World} {q : Nat} {x y z u : Int} (h0 : w.cell? ⟨q, 0, none⟩ = some (.int .i64 x)) (h1 : w.cell? ⟨q, 1, none⟩ = some (.int .i64 y)) (h2 : w.cell? ⟨q, 2, none⟩ = some (.int .i64 z)) (h3 : w.cell? ⟨q, 3, none⟩ = some (.int .i64 u)) (hq : q < w.heap.size) : Lo w w.heap.size (some ⟨q, 0, none⟩) [x, y, z, u] := fun _ =>
  ⟨q, 0, rfl, hq, fun i f hf => by
    rw [Nat.zero_add]
    match i, hf with
    | 0, hf => simp at hf; subst hf; exact h0
    | 1, hf => simp at hf; subst hf; exact h1
    | 2, hf => simp at hf; subst hf; exact h2
    | 3, hf => simp at hf; subst hf; exact h3⟩
theorem boxError_any (A : Option Addr) (n c : Nat) (zs : List Int) (b : Bool) (w : World) (hl : zs.length = n) (hn : n ≤ 1048576) (hw : ∀ z ∈ zs, I16 z) {B0 : Nat} (hT : Ii w B0 A zs) :
    Calls Try.prog 87 #[.slice A n c, .bool b] w (RV (.int .i64 (codeX (okZ zs) b)) w) := by
  have HT := Lib.hid hT; clear hT
  have Hl := Lib.hid hl; clear hl
  rcases Bool.eq_false_or_eq_true (okZ zs) with h1 | h1 <;> cases b
  all_goals
    have hc := Lib.hid (implOk_is h1 Hl.out hn hw HT.out (c := c))
    simp only [h1, codeX, if_true, if_false, Bool.false_eq_true]
    clear h1
    go_enter Try.func87, Try.ntmps87
    go_wp2_with (go_at_call 98; refine hc.out.mono ?_; rintro e w1 ⟨rfl, b1⟩)
    go_ret
    refine ⟨rfl, ?_⟩
    (repeat (first | exact Below.refl _ _ | refine b_drewN ?_ _ | refine b_drew ?_ | refine b_alloc ?_ _ | refine b_then ?_ (by assumption)))
theorem boxError_is {A : Option Addr} {n c : Nat} {zs : List Int} {b : Bool} {K : Int} {w : World} (hK : codeX (okZ zs) b = K) (hl : zs.length = n) (hn : n ≤ 1048576) (hw : ∀ z ∈ zs, I16 z) {B0 : Nat} (hT : Ii w B0 A zs) :
    Calls Try.prog 87 #[.slice A n c, .bool b] w (RV (.int .i64 K) w) := by
  subst hK
  exact boxError_any A n c zs b w hl hn hw hT
theorem index_any {t : Bool} (A : Option Addr) (m c : Nat) (xs : List Int) (x : Int) (w : World) (ht : (xs.take m).contains x = t) (hm : m ≤ xs.length) (hm2 : m ≤ 1000) {B0 : Nat} (hT : Lo w B0 A xs) :
    Calls Try.prog 149 #[.slice A m c, .int .i64 x] w fun e w' => ∃ r : Int, e = .returned (.int .i64 r) ∧ decide (0 ≤ r) = t ∧ w = w' := by
  have HT := Lib.hid hT; clear hT
  have Ht := Lib.hid ht; clear ht
  go_enter Try.func149, Try.ntmps149
  go_wp2
  go_loop [8] (fun i => ∃ k : Nat, k ≤ m ∧ i = .int .i64 k ∧ Hid ((xs.take k).contains x = false)) (fun i => m - (intOf i).toNat)
  case atStart => exact ⟨0, Nat.zero_le _, rfl, (by show _ = _; simp)⟩
  case round =>
    obtain ⟨k, hk, rfl, hp⟩ := hrel
    by_cases hlt : k < m
    · have hkl : k < xs.length := by omega
      obtain ⟨b, off, rfl, hbs, hc⟩ := HT.out (by omega)
      obtain ⟨y, hy⟩ : ∃ y, xs[k]? = some y := ⟨_, List.getElem?_eq_getElem hkl⟩
      have c0 := hc k y hy
      by_cases hxy : x = y
      · have hd : Hid ((xs.take m).contains x = true) := by
          show _ = _
          rw [List.contains_iff_mem, hxy]
          exact List.mem_take_iff_getElem.2 ⟨k, by omega, (List.getElem?_eq_some_iff.1 hy).2⟩
        subst hxy
        clear hc hkl hy hp
        go_wp2
        go_ret
        exact ⟨(k : Int), rfl, by rw [← Ht.out, hd.out]; exact decide_eq_true (by omega), rfl⟩
      · have hd : Hid ((xs.take (k + 1)).contains x = false) := by
          show _ = _
          rw [List.take_add_one, hy, List.contains_append, hp.out]
          simp [hxy]
        clear hc hkl hy hp
        go_wp2
        go_round
        case rel => exact ⟨k + 1, by omega, by go_num, hd⟩
        case measure => simp [intOf]; omega
    · obtain rfl : k = m := by omega
      go_wp2
      go_ret
      exact ⟨-1, rfl, by rw [← Ht.out, hp.out]; rfl, rfl⟩
theorem contains_is {t : Bool} {A : Option Addr} {m c : Nat} {xs : List Int} {x : Int} {w : World} (ht : (xs.take m).contains x = t) (hm : m ≤ xs.length) (hm2 : m ≤ 1000) {B0 : Nat} (hT : Lo w B0 A xs) :
    Calls Try.prog 135 #[.slice A m c, .int .i64 x] w fun e w' => e = .returned (.bool t) ∧ w = w' := by
  have HT := Lib.hid hT; clear hT
  have Ht := Lib.hid ht; clear ht
  go_enter Try.func135, Try.ntmps135
  go_wp2_with (go_at_call 149; refine (index_any _ _ _ xs _ _ Ht.out hm hm2 HT.out).mono ?_; rintro e w1 ⟨r, rfl, hr, rfl⟩; have Hr := Lib.hid hr; clear hr)
  go_ret
  exact ⟨by rw [Hr.out]; rfl, rfl⟩
set_option maxHeartbeats 4000000 in
theorem wheelsError_any (A : Option Addr) (n c : Nat) (zs : List Int) (A' : Option Addr) (m c' : Nat) (xs : List Int) (w : World) (hl : zs.length = n) (hn : n ≤ 1048576) (hw : ∀ z ∈ zs, I16 z) (hT : Ii w w.heap.size A zs)
    (hl' : xs.length = m) (hm : m ≤ 1000) (hmc : m ≤ c') (hc' : c' ≤ 1000) (hT' : Lo w w.heap.size A' xs) :
    Calls Try.prog 108 #[.slice A n c, .slice A' m c'] w (RV (.int .i64 (codeW zs xs)) w) := by
  have HT := Lib.hid hT; clear hT
  have Hl := Lib.hid hl; clear hl
  have Hw := Lib.hid hw; clear hw
  have HT' := Lib.hid hT'; clear hT'
  have Hl' := Lib.hid hl'; clear hl'
  go_enter Try.func108, Try.ntmps108
  go_wp2
  go_loop [5, 13] (fun q i => ∃ (k : Nat) (t : Bool), k ≤ m ∧ q = .bool t ∧ i = .int .i64 k ∧ Hid (inB n (xs.take k) = t)) (fun _ i => m - (intOf i).toNat)
  case atStart => exact ⟨0, true, Nat.zero_le _, rfl, rfl, (by show _ = _; rfl)⟩
  case round =>
    obtain ⟨k, t, hk, rfl, rfl, hp⟩ := hrel
    by_cases hlt : k < m
    · have hkl : k < xs.length := by have := Hl'.out; omega
      obtain ⟨b, off, rfl, hbs, hc⟩ := HT'.out (by omega)
      obtain ⟨y, hy⟩ : ∃ y, xs[k]? = some y := ⟨_, List.getElem?_eq_getElem hkl⟩
      have c0 := hc k y hy
      have hd : Hid (inB n (xs.take (k + 1)) = (t && (decide (0 ≤ y) && decide (y < (n : Int))))) := by
        show _ = _
        unfold inB at hp ⊢
        rw [List.take_add_one, hy, List.all_append, hp.out]
        simp
      clear hc hkl hy hp
      cases t
      · go_wp2
        go_round
        case rel => exact ⟨k + 1, false, by omega, rfl, by go_num, hd⟩
        case measure => simp [intOf]; omega
      · by_cases h1 : 0 ≤ y <;> by_cases h2 : y < (n : Int)
        all_goals
          have hd2 := hd.out
          simp only [h1, h2, decide_true, decide_false, Bool.and_true, Bool.and_false, Bool.true_and, Bool.false_and] at hd2
          have hd3 := Lib.hid hd2
          clear hd hd2
          go_wp2
          go_round
          case rel => exact ⟨k + 1, _, by omega, rfl, by go_num, hd3⟩
          case measure => simp [intOf]; omega
    · obtain rfl : k = m := by omega
      have hp2 : Hid (inB zs.length xs = t) := by
        have := hp.out
        rw [List.take_of_length_le (by have := Hl'.out; omega)] at this
        rw [Hl.out]
        exact this
      clear hp
      obtain ⟨K, hK⟩ : ∃ K, codeX (okZ zs) t = K := ⟨_, rfl⟩
      have HK : Hid (codeX (okZ zs) (inB zs.length xs) = K) := by show _ = _; rw [hp2.out]; exact hK
      have hbe := Lib.hid (boxError_is (w := w) (c := c) hK Hl.out hn Hw.out HT.out)
      clear hK
      rcases codeX_cases HK.out with rfl | rfl | rfl
      · go_wp2_with (go_at_call 87; refine hbe.out.mono ?_; rintro e w1 ⟨rfl, b1⟩; have B1 := Lib.hid b1; clear b1)
        have HL := Lib.hid (HT'.out.keep B1.out)
        go_loop [37] (fun i => ∃ k' : Nat, k' ≤ k ∧ i = .int .i64 k' ∧ Hid (∀ i, i < k' → (xs.take i).contains (xs.getD i 0) = false)) (fun i => k - (intOf i).toNat)
        case atStart => exact ⟨0, Nat.zero_le _, rfl, fun i hi => absurd hi (by omega)⟩
        case round =>
          obtain ⟨j, hj, rfl, hp⟩ := hrel
          by_cases hlt2 : j < k
          · have hjl : j < xs.length := by have := Hl'.out; omega
            obtain ⟨b, off, rfl, hbs, hc⟩ := HL.out (by omega)
            obtain ⟨y, hy⟩ : ∃ y, xs[j]? = some y := ⟨_, List.getElem?_eq_getElem hjl⟩
            have c0 := hc j y hy
            have hyd := getD_of hy
            have hjc : (j : Int) ≤ (c' : Int) := by omega
            have hj0 : (0 : Int) ≤ (j : Int) := by omega
            rcases Bool.eq_false_or_eq_true ((xs.take j).contains y) with ht | ht
            · have hres := Lib.hid (codeW_dup HK.out hjl (by rw [hyd]; exact ht))
              have hco := Lib.hid (contains_is (c := c') ht (Nat.le_of_lt hjl) (by omega) HL.out)
              clear hc hjl hy hyd hp ht
              go_wp2_with (go_at_call 135; refine hco.out.mono ?_; rintro e w2 ⟨rfl, rfl⟩)
              go_ret
              exact ⟨by rw [hres.out]; rfl, B1.out⟩
            · have hd : Hid (∀ i, i < j + 1 → (xs.take i).contains (xs.getD i 0) = false) := fun i hi => by
                rcases (by omega : i < j ∨ i = j) with h' | rfl
                · exact hp.out i h'
                · rw [hyd]; exact ht
              have hco := Lib.hid (contains_is (c := c') ht (Nat.le_of_lt hjl) (by omega) HL.out)
              clear hc hjl hy hyd hp ht
              go_wp2_with (go_at_call 135; refine hco.out.mono ?_; rintro e w2 ⟨rfl, rfl⟩)
              go_round
              case rel => exact ⟨j + 1, by omega, by go_num, hd⟩
              case measure => simp [intOf]; omega
          · obtain rfl : j = k := by omega
            have hres := Lib.hid (codeW_ok HK.out (by rw [Hl'.out]; exact hp.out))
            go_wp2
            go_ret
            exact ⟨by rw [hres.out]; rfl, B1.out⟩
      all_goals
        have hres := Lib.hid (codeW_bad HK.out (by decide))
        go_wp2_with (go_at_call 87; refine hbe.out.mono ?_; rintro e w1 ⟨rfl, b1⟩; have B1 := Lib.hid b1; clear b1)
        go_ret
        exact ⟨by rw [hres.out]; rfl, B1.out⟩
theorem pairIn_any (A : Option Addr) (n c i j : Nat) (zs : List Int) (x y : Int) (w : World) (hl : zs.length = n) (hx : zs[i]? = some x) (hy : zs[j]? = some y) (hn : n ≤ 1048576) (hT : Ii w w.heap.size A zs) :
    Calls Try.prog 62 #[.slice A n c, .int .i16 i, .int .i16 j] w (RV (.agg #[.int .i16 x, .int .i16 y, .float .f32 0]) w) := by
  have hil : i < n := by rw [← hl]; exact (List.getElem?_eq_some_iff.1 hx).1
  have hjl : j < n := by rw [← hl]; exact (List.getElem?_eq_some_iff.1 hy).1
  obtain ⟨b, off, rfl, hbs, hc⟩ := hT (by omega)
  have c0 : ∀ o, (w.alloc o).cell? ⟨b, off + i, none⟩ = some (.int .i16 x) := fun o => (World.cell?_of_block (a := ⟨b, off + i, none⟩) ((Below.refl _ w).alloc (Nat.le_refl _) o |>.block b hbs)).trans (hc i x hx)
  have c1 : ∀ o, (w.alloc o).cell? ⟨b, off + j, none⟩ = some (.int .i16 y) := fun o => (World.cell?_of_block (a := ⟨b, off + j, none⟩) ((Below.refl _ w).alloc (Nat.le_refl _) o |>.block b hbs)).trans (hc j y hy)
  have y0 : (0 : Int) ≤ (i : Int) := by omega
  have y1 : (i : Int) < (n : Int) := by omega
  have y2 : (0 : Int) ≤ (j : Int) := by omega
  have y3 : (j : Int) < (n : Int) := by omega
  clear hc hx hy hl hT
  go_enter Try.func62, Try.ntmps62
  go_wp2_with fail
  (refine wp_region_still_tail 8 (by kernel_rfl) (by kernel_rfl) ?_; (try change wpStill _ _ (World.drew _) _ _ _); simp only [List.take_succ_cons, List.take_zero, List.drop_succ_cons, List.drop_zero]; (repeat still_step); (try refine wpStill_nil ?_); (try change wpList _ _ _ _ _ (World.drew _)))
  go_wp2
  refine bodyPost_ret (v := .agg #[.int .i16 x, .int .i16 y, .float .f32 0]) (by simp [results, Try.results62, go_sem]) rfl ⟨rfl, ?_⟩
  repeat (first | exact Below.refl _ _ | refine b_drewN ?_ _ | refine b_drew ?_ | refine b_alloc ?_ _ | refine Below.setCell ?_ (by simp) _)
theorem forward_any {x y : Int} (x1 : 6 ≤ x) (x2 : x ≤ 200) (y1 : 6 ≤ y) (y2 : y ≤ 200) (l : Nat) (w : World) : Calls Try.prog 91 #[.agg #[.int .i16 x, .int .i16 y, .float .f32 l]] w (RV (.float .f32 (quoT x y)) w) := by
  have hq := fun w => run_float_arith (P := Try.prog) w .quo 38 .f32 _ _ _ (quoT_some x1 x2 y1 y2)
  clear x1 x2 y1 y2
  go_enter Try.func91, Try.ntmps91
  go_wp2
  go_ret
  refine ⟨rfl, ?_⟩
  (repeat (first | exact Below.refl _ _ | refine b_drewN ?_ _ | refine b_drew ?_ | refine b_alloc ?_ _ | refine b_then ?_ (by assumption)))
theorem l01Quotient_any {a b : Int} (a1 : 6 ≤ a) (a2 : a ≤ 200) (b1 : 6 ≤ b) (b2 : b ≤ 200) (w : World) : Calls Try.prog 86 #[.int .i16 a, .int .i16 b] w fun e w' => e = .returned (.float .f32 (quoT a b)) ∧ w = w' := by
  have hq := fun w => run_float_arith (P := Try.prog) w .quo 38 .f32 _ _ _ (quoT_some a1 a2 b1 b2)
  clear a1 a2 b1 b2
  go_enter Try.func86, Try.ntmps86
  go_wp2
  go_ret
  exact ⟨rfl, rfl⟩
theorem l05Wheel_is {n : Nat} {x : Int} {t : Bool} (A : Option Addr) (c : Nat) (ht : (decide (0 ≤ x) && decide (x < (n : Int))) = t) (hn : n ≤ 1048576) (w : World) : Calls Try.prog 107 #[.slice A n c, .int .i64 x] w fun e w' => e = .returned (.bool t) ∧ w = w' := by
  have Ht : Hid ((decide (0 ≤ x) && decide (x ≤ (n : Int) - 1)) = t) := by
    show _ = _
    rw [← ht]
    by_cases h1 : 0 ≤ x <;> by_cases h2 : x < (n : Int)
    all_goals
      have h3 : (x ≤ (n : Int) - 1) ↔ x < (n : Int) := by omega
      simp [h1, h3]
  clear ht
  go_enter Try.func107, Try.ntmps107
  go_wp2_with (go_at_call 121; refine (l00In_any _ _ _ _).mono ?_; rintro e w' ⟨rfl, rfl⟩)
  go_ret
  exact ⟨by rw [Ht.out]; rfl, rfl⟩
end Go.Proofs.Ytchilhapomfbeaa
