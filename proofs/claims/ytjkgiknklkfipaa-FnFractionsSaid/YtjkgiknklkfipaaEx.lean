/-
  The fraction that a number is: the library's cutting off, both sides and the law.
-/
import Derived.Test.YtjkgiknklkfipaaOff
import Derived.Test.YtjkgiknklkfipaaEm
import Derived.Test.YtjkgiknklkfipaaGcd
import Derived.Test.YtjkgiknklkfipaaBase
import Derived.Test.YtjkgiknklkfipaaMin
import Derived.Test.YtjkgiknklkfipaaQTail
import Derived.Test.YtjkgiknklkfipaaBlk
namespace Go.Proofs.Ytjkgiknklkfipaa
open Go.RowKit Go.ChangeShapes Go.WideShapes Go.Deep
attribute [local go_sem ↓] Go.wp_at_zero Go.wp_at_succ
set_option linter.unusedVariables false
set_option linter.unusedSimpArgs false
set_option maxRecDepth 100000
theorem bits32_call (b : Nat) (w : World) : (callFunc 86 #[.float .f32 b]).run Try.prog w = .ok (.value (.int .u32 b)) w := by
  rw [run_callFunc_extern (fn := Try.f86) (e := Extern.MathFloatBits.float32bits) Try.func86 (by kernel_rfl) (by kernel_rfl) (by kernel_rfl) (by kernel_rfl)]
  rfl
theorem ti (n : String) (way : Ieee.Toward) {b : Nat} {s : Bool} {m : Nat} {e : Int} (h : FloatKind.f64.decode b = .number s m e) :
    Extern.MathFloor.toIntegral n way #[.float .f64 b] = pure (.float .f64 (FloatKind.f64.encode ((Ieee.Datum.number s m e).integral way))) := by
  delta Extern.MathFloor.toIntegral
  delta Extern.MathFloor.toIntegral.match_2
  rw [dif_pos (by rfl)]
  delta Extern.MathFloor.toIntegral._sparseCasesOn_2 Extern.MathFloor.toIntegral._sparseCasesOn_3
  dsimp only [Array.getLit, List.getElem_toArray, List.getElem_cons_zero, Nat.hasNotBit]
  rw [h]
theorem arch_call {b : Nat} {s : Bool} {m : Nat} {e : Int} (h : Ieee.double.read b = .number s m e) (w : World) : (callFunc 113 #[.float .f64 b]).run Try.prog w = .ok (.value (.float .f64 (Ieee.double.write ((Ieee.double.read b).integral .zero)))) w := by
  rw [run_callFunc_extern (fn := Try.f113) (e := Extern.MathFloor.toIntegral "math.archTrunc" .zero) Try.func113 (by kernel_rfl) (by kernel_rfl) (by kernel_rfl) (by kernel_rfl)]
  have hd : FloatKind.f64.decode b = .number s m e := h
  rw [ti _ _ hd, h]
  rfl
attribute [local go_sem] bits32_call
theorem trunc_any {M x : Nat} (h1 : 8388608 ≤ M) (h2 : M < 16777216) (x1 : 1 ≤ x) (x2 : x ≤ 1046) (w : World) : Calls Try.prog 85 #[.float .f64 (D64 M x)] w fun e w' => e = .returned (.float .f64 (wholeW M x)) ∧ w = w' := by
  have ht := arch_call (read64 h1 h2 x1 (by omega : x ≤ 2046))
  rw [whole_eq h1 h2 x1 x2] at ht
  generalize D64 M x = b at *
  generalize wholeW M x = v at *
  go_enter Try.func85, Try.ntmps85
  go_wp2
  go_ret
  exact ⟨rfl, rfl⟩

structure Fr where
  p : Int
  q : Int
def AtFr (w : World) (q : Nat) (X : Fr) : Prop := w.heap[q]? = some (.cells #[.int .i64 X.p, .int .i64 X.q] 28 (0, 0))
theorem AtFr.lt {w : World} {q : Nat} {X : Fr} (h : AtFr w q X) : q < w.heap.size := by
  rcases Nat.lt_or_ge q w.heap.size with hlt | hge
  · exact hlt
  · unfold AtFr at h; rw [Array.getElem?_eq_none hge] at h; cases h
theorem AtFr.on {w W w' : World} {q : Nat} {X : Fr} (h : AtFr w q X) (hW : W.heap = w.heap) (b : Below W.heap.size W w') : AtFr w' q X := (b.block q (by rw [hW]; exact h.lt)).trans (by rw [hW]; exact h)
theorem AtFr.under {w w' : World} {q B : Nat} {X : Fr} (h : AtFr w q X) (hq : q < B) (b : Below B w w') : AtFr w' q X := (b.block q hq).trans h
theorem AtFr.same {w W : World} {q : Nat} {X : Fr} (h : AtFr w q X) (hW : W.heap = w.heap) : AtFr W q X := by unfold AtFr; rw [hW]; exact h
theorem AtFr.push {w : World} {q : Nat} {X : Fr} (h : AtFr w q X) (o : Obj) : AtFr (w.alloc o) q X := h.on (W := w) rfl (b_alloc (Below.refl _ _) o)
theorem AtFr.new (w : World) (X : Fr) : AtFr (w.alloc (.cells #[.int .i64 X.p, .int .i64 X.q] 28)) w.heap.size X := heap_alloc_new w _
theorem AtFr.cells {w : World} {q : Nat} {X : Fr} (h : AtFr w q X) : w.cell? ⟨q, 0, none⟩ = some (.int .i64 X.p) ∧ w.cell? ⟨q, 1, none⟩ = some (.int .i64 X.q) :=
  ⟨cell_of_row _ _ 0 _ _ _ h, cell_of_row _ _ 1 _ _ _ h⟩
theorem ret_fr {fn : Func} {tmps : Array Value} {W : World} {q s : Nat} {x y : Int} (hr : fn.results = #[.cell s 28]) (h2 : tmps.getD s undef = .pointer (some ⟨q, 0, none⟩)) (Z : Blk W q #[.int .i64 x, .int .i64 y] 28) :
    (results fn tmps).run Try.prog W = .ok (.agg #[.int .i64 x, .int .i64 y]) W := by
  have e0 := Z.cell 0
  have e1 := Z.cell 1
  simp at e0 e1
  rw [Array.getD_eq_getD_getElem?] at h2
  simp [results, hr, h2, go_sem, e0, e1]
theorem AtFr.frz {w : World} {q : Nat} {X : Fr} (h : AtFr w q X) (i : Nat) : w.frozen? ⟨q, i, none⟩ = false := by
  unfold AtFr at h
  unfold World.frozen?
  rw [h]
  simp
def exM (a : Nat) : Nat := a % 8388608 + 8388608
def exK (a : Nat) : Nat := 150 - a / 8388608
/-- The fraction that a number is. -/
def exN (a : Nat) : Nat := exM a / Nat.gcd (exM a) (2 ^ exK a)
def exD (a : Nat) : Nat := 2 ^ exK a / Nat.gcd (exM a) (2 ^ exK a)
theorem tg_range {a : Nat} (ha : a < 4294967296) (h : tgB a = true) : 981467136 ≤ a ∧ a ≤ 1149239296 := by
  unfold tgB at h
  simp only [Bool.and_eq_true] at h
  obtain ⟨_, h1, h2, h3⟩ := between h.1 h.2 (by decide) (by decide)
  have h4 := word_of_rk ha (by rw [h3]; omega)
  rw [h3] at h4
  omega
theorem ex_facts {a : Nat} (ha : a < 4294967296) (h : tgB a = true) : a / 8388608 + exK a = 150 ∧ 13 ≤ exK a ∧ exK a ≤ 33 ∧ 8388608 ≤ exM a ∧ exM a < 16777216 ∧ a < 2139095040 := by
  obtain ⟨h1, h2⟩ := tg_range ha h
  unfold exK exM
  omega
theorem two_pow_33 {i : Nat} (h : i ≤ 33) : (2 : Nat) ^ i ≤ 8589934592 := Nat.pow_le_pow_right (n := 2) (by decide) h
theorem ex_of {a i : Nat} (hi : i ≤ exK a) (hd : 2 ^ (exK a - i) ∣ exM a) (hn : ∀ i', i' < i → ¬ 2 ^ (exK a - i') ∣ exM a) : exN a = exM a / 2 ^ (exK a - i) ∧ exD a = 2 ^ i := by
  have hg := gcd_pow hi hd hn
  unfold exN exD
  rw [hg]
  refine ⟨rfl, ?_⟩
  have e : 2 ^ exK a = 2 ^ (exK a - i) * 2 ^ i := by rw [← Nat.pow_add, show exK a - i + i = exK a by omega]
  rw [e, Nat.mul_div_cancel_left _ (Nat.two_pow_pos _)]
set_option maxHeartbeats 2000000 in
theorem implExact_any (a : Nat) (ha : a < 4294967296) (h : tgB a = true) (w : World) : Calls Try.prog 46 #[.float .f32 a] w (RV (.agg #[.int .i64 (exN a : Int), .int .i64 (exD a : Int)]) w) := by
  obtain ⟨k1, k2, k3, m1, m2, a2⟩ := ex_facts ha h
  have hcv := fun w => run_convert_float_float (P := Try.prog) (w := w) 24 35 .f32 .f64 a _ (by rw [Try.underlying24]; rfl) Try.underlying35 (wide64 (E := a / 8388608) (M := exM a) rfl rfl (by omega) (by omega) a2)
  have ht : ∀ i, i ≤ exK a → ∀ w, Calls Try.prog 85 #[.float .f64 (D64 (exM a) (a / 8388608 + 896 + i))] w fun e w' => e = .returned (.float .f64 (wholeW (exM a) (a / 8388608 + 896 + i))) ∧ w = w' := fun i hi w => trunc_any m1 m2 (by omega) (by omega) w
  have ho : ∀ i, i ≤ exK a → FloatKind.f64.format.order (D64 (exM a) (a / 8388608 + 896 + i)) (wholeW (exM a) (a / 8388608 + 896 + i)) = if 2 ^ (exK a - i) ∣ exM a then some .eq else some .gt := fun i hi => by
    have := order_whole m1 m2 (x := a / 8388608 + 896 + i) (by omega) (by omega)
    rwa [show 1046 - (a / 8388608 + 896 + i) = exK a - i by omega] at this
  have hm : ∀ i, i ≤ exK a → ∀ w, (binOp .mul 35 (.float .f64 (D64 (exM a) (a / 8388608 + 896 + i))) (.float .f64 4611686018427387904)).run Try.prog w = .ok (.float .f64 (D64 (exM a) (a / 8388608 + 896 + (i + 1)))) w := fun i hi w => run_float_arith (P := Try.prog) w .mul 35 .f64 _ _ _ (double64 m1 m2 (by omega) (by omega))
  have hi64 : ∀ i, i ≤ exK a → 2 ^ (exK a - i) ∣ exM a → ∀ w, (convert 35 2 (.float .f64 (D64 (exM a) (a / 8388608 + 896 + i)))).run Try.prog w = .ok (.int .i64 ((exM a / 2 ^ (exK a - i) : Nat) : Int)) w := fun i hi hd w =>
    run_convert_float_int (P := Try.prog) (w := w) 35 2 .f64 .i64 _ _ (by rw [Try.underlying35]; rfl) Try.underlying2 (int64_of (j := exK a - i) m1 m2 (by omega) (by omega) (by omega) hd)
  have h0 : D64 (exM a) (a / 8388608 + 896) = D64 (exM a) (a / 8388608 + 896 + 0) := rfl
  rw [h0] at hcv
  obtain ⟨d, hd⟩ : ∃ d : Nat → Nat, (fun i => D64 (exM a) (a / 8388608 + 896 + i)) = d := ⟨_, rfl⟩
  obtain ⟨v, hv⟩ : ∃ v : Nat → Nat, (fun i => wholeW (exM a) (a / 8388608 + 896 + i)) = v := ⟨_, rfl⟩
  have hd' : ∀ i, D64 (exM a) (a / 8388608 + 896 + i) = d i := fun i => congrFun hd i
  have hv' : ∀ i, wholeW (exM a) (a / 8388608 + 896 + i) = v i := fun i => congrFun hv i
  simp only [hd', hv'] at hcv ht ho hm hi64
  clear hd hv hd' hv' h0 m1 m2 k1 k2 a2 ha h
  have HT := Lib.hid ht; have HO := Lib.hid ho; have HM := Lib.hid hm; have HI := Lib.hid hi64
  clear ht ho hm hi64
  have j0 := AtFr.new w ⟨0, 0⟩
  obtain ⟨c0, c1⟩ := j0.cells
  dsimp only at c0 c1
  clear j0
  go_enter Try.func46, Try.ntmps46
  go_wp2
  clear hcv
  go_loop [3, 4] (fun p q => ∃ i : Nat, i ≤ exK a ∧ p = .float .f64 (d i) ∧ q = .int .i64 ((2 ^ i : Nat) : Int) ∧ Hid (∀ i', i' < i → ¬ 2 ^ (exK a - i') ∣ exM a)) (fun _ q => exK a - (intOf q).toNat.log2)
  case atStart => exact ⟨0, Nat.zero_le _, rfl, rfl, fun i' h => absurd h (by omega)⟩
  case round =>
    obtain ⟨i, hi, rfl, rfl, hn⟩ := hrel
    have hto := HT.out i hi
    have hor := HO.out i hi
    have hp33 := two_pow_33 (Nat.le_trans hi k3)
    by_cases hdv : 2 ^ (exK a - i) ∣ exM a
    · rw [if_pos hdv] at hor
      have hcv := HI.out i hi hdv
      obtain ⟨e1, e2⟩ := ex_of hi hdv hn.out
      rw [← e1] at hcv
      rw [← e2]
      rw [← e2] at hp33
      generalize d i = x at *
      generalize v i = y at *
      clear hn hdv e1 e2
      generalize exN a = P at *
      generalize exD a = Q at *
      have Hto := Lib.hid hto; clear hto
      go_wp2_with (go_at_call 85; refine (Hto.out _).mono ?_; rintro e w1 ⟨rfl, rfl⟩)
      refine bodyPost_ret (v := .agg #[.int .i64 (P : Int), .int .i64 (Q : Int)]) (by simp [results, Try.results46, go_sem]) rfl ⟨rfl, ?_⟩
      repeat (first | exact Below.refl _ _ | refine b_drewN ?_ _ | refine b_drew ?_ | refine b_alloc ?_ _ | refine Below.setCell ?_ (by simp) _)
    · rw [if_neg hdv] at hor
      have hik : i < exK a := by
        rcases Nat.lt_or_ge i (exK a) with h | h
        · exact h
        · refine absurd ?_ hdv
          rw [show exK a - i = 0 by omega]
          exact ⟨_, (Nat.one_mul _).symm⟩
      have hmu := HM.out i hi
      have hn2 : Hid (∀ i', i' < i + 1 → ¬ 2 ^ (exK a - i') ∣ exM a) := fun i' h' => by
        rcases (by omega : i' < i ∨ i' = i) with h | rfl
        · exact hn.out i' h
        · exact hdv
      clear hn hdv
      have Hto := Lib.hid hto; clear hto
      have hpp : (0 : Int) < ((2 ^ i : Nat) : Int) := Int.natCast_pos.2 (Nat.two_pow_pos i)
      have hmeas : exK a - (2 ^ (i + 1)).log2 < exK a - (2 ^ i).log2 := by rw [Nat.log2_two_pow, Nat.log2_two_pow]; omega
      have hw : Hid (wrap64 ((2 : Int) ^ i * 2) = ((2 ^ (i + 1) : Nat) : Int)) := by
        show _ = _
        have e : ((2 : Int) ^ i) = ((2 ^ i : Nat) : Int) := by rw [Int.natCast_pow]; rfl
        rw [e, Nat.pow_succ]
        generalize 2 ^ i = q at hp33
        unfold wrap64
        omega
      go_wp2_with (go_at_call 85; refine (Hto.out _).mono ?_; rintro e w1 ⟨rfl, rfl⟩)
      go_round
      case rel => exact ⟨i + 1, hik, rfl, by rw [hw.out], hn2⟩
      case measure => rw [hw.out]; exact hmeas

theorem quo_run {P : Program} {x y : Int} (h0 : 0 ≤ x) (hx : x ≤ 9223372036854775807) (hy : 1 ≤ y) (t : TypeId) (w : World) : (binOp .quo t (.int .i64 x) (.int .i64 y)).run P w = .ok (.int .i64 (x / y)) w := by
  have hw : IntKind.i64.wrap (x.tdiv y) = x / y := by
    rw [Int.tdiv_eq_ediv_of_nonneg h0]
    have h1 : 0 ≤ x / y := Int.ediv_nonneg h0 (by omega)
    have h2 : x / y ≤ x := Int.ediv_le_self _ h0
    generalize x / y = q at *
    unfold IntKind.wrap
    simp [IntKind.signed, IntKind.bits]
    omega
  have h : ¬ y = 0 := by omega
  simp [binOp, Op.intDiv, h, hw]
theorem wrap_quo {x y : Int} (h0 : 0 ≤ x) (hx : x ≤ 9223372036854775807) (hy : 1 ≤ y) : IntKind.i64.wrap (x / y) = x / y := by
  have h1 : 0 ≤ x / y := Int.ediv_nonneg h0 (by omega)
  have h2 : x / y ≤ x := Int.ediv_le_self _ h0
  generalize x / y = q at *
  unfold IntKind.wrap
  simp [IntKind.signed, IntKind.bits]
  omega
set_option maxHeartbeats 2000000 in
theorem specExact_any (a : Nat) (ha : a < 4294967296) (h : tgB a = true) (w : World) : Calls Try.prog 47 #[.float .f32 a] w (RV (.agg #[.int .i64 (exN a : Int), .int .i64 (exD a : Int)]) w) := by
  obtain ⟨k1, k2, k3, m1, m2, a2⟩ := ex_facts ha h
  have ai : (a : Int) < 4294967296 := by omega
  have a0 : (0 : Int) ≤ (a : Int) := by omega
  have hE : (a : Int) / 8388608 = ((a / 8388608 : Nat) : Int) := by omega
  have hM : (a : Int) % 8388608 + 8388608 = ((exM a : Nat) : Int) := by unfold exM; omega
  generalize a / 8388608 = E at *
  clear ha h a2
  have Hk1 := Lib.hid k1; clear k1
  have Hk := Lib.hid k3; have Hk2 := Lib.hid k2
  have Hm1 := Lib.hid m1; have Hm2 := Lib.hid m2
  clear k3 k2 m1 m2
  obtain ⟨c0, c1⟩ := (AtFr.new w ⟨0, 0⟩).cells
  dsimp only at c0 c1
  have j0 := Lib.hid (AtFr.new w ⟨0, 0⟩)
  have hN : exN a = exM a / Nat.gcd (exM a) (2 ^ exK a) := rfl
  have hD : exD a = 2 ^ exK a / Nat.gcd (exM a) (2 ^ exK a) := rfl
  have HN := Lib.hid hN; have HD := Lib.hid hD
  clear hN hD
  generalize exN a = P at *
  generalize exD a = Q at *
  generalize hKK : exK a = K at *
  generalize hMM : exM a = M at *
  clear hKK hMM
  go_enter Try.func47, Try.ntmps47
  go_wp2
  clear hE hM ai a0 c0 c1
  go_loop [5, 6] (fun p q => ∃ i : Nat, i ≤ K ∧ p = .int .i64 ((2 ^ i : Nat) : Int) ∧ q = .int .i64 ((E + i : Nat) : Int)) (fun _ q => 150 - (intOf q).toNat)
  case atStart => exact ⟨0, Nat.zero_le _, rfl, rfl⟩
  case round =>
    obtain ⟨i, hi, rfl, rfl⟩ := hrel
    have hp33 := two_pow_33 (Nat.le_trans hi Hk.out)
    by_cases hlt : i < K
    · have hw : Hid (wrap64 ((2 : Int) ^ i * 2) = ((2 ^ (i + 1) : Nat) : Int)) := by
        show _ = _
        have e : ((2 : Int) ^ i) = ((2 ^ i : Nat) : Int) := by rw [Int.natCast_pow]; rfl
        rw [e, Nat.pow_succ]
        generalize 2 ^ i = q at hp33
        unfold wrap64
        omega
      have l1 : ((E + i : Nat) : Int) < 150 := by have := Hk1.out; omega
      go_wp2
      go_round
      case rel => exact ⟨i + 1, hlt, by rw [hw.out], by go_num⟩
      case measure => simp [intOf]; have := Hk1.out; omega
    · obtain rfl : i = K := by omega
      have l1 : ¬ ((E + i : Nat) : Int) < 150 := by have := Hk1.out; omega
      have m1 := Hm1.out
      have m2 := Hm2.out
      have hg1 : 1 ≤ Nat.gcd M (2 ^ i) := Nat.gcd_pos_of_pos_left _ (by omega)
      have hgM : Nat.gcd M (2 ^ i) ≤ M := Nat.gcd_le_left _ (by omega)
      have hco := Lib.hid (fun w => specGcd_any M (2 ^ i) w (by omega) (by omega))
      generalize 2 ^ i = B at *
      generalize Nat.gcd M B = g at *
      have g1 : (1 : Int) ≤ (g : Int) := by omega
      have z1 : ¬ g = 0 := by omega
      have hw1 : IntKind.i64.wrap ((M : Int) / (g : Int)) = (M : Int) / (g : Int) := wrap_quo (by omega) (by omega) g1
      have hw2 : IntKind.i64.wrap ((B : Int) / (g : Int)) = (B : Int) / (g : Int) := wrap_quo (by omega) (by omega) g1
      have q1 : Hid ((M : Int) / (g : Int) = (P : Int)) := by show _ = _; rw [HN.out]; exact (Int.natCast_ediv _ _).symm
      have q2 : Hid ((B : Int) / (g : Int) = (Q : Int)) := by show _ = _; rw [HD.out]; exact (Int.natCast_ediv _ _).symm
      go_wp2_with (go_at_call 87; refine (hco.out _).mono ?_; rintro e w1 ⟨rfl, b1⟩; obtain ⟨d0, d1⟩ := (j0.out.on (by rfl) b1).cells; dsimp only at d0 d1; have f0 := (j0.out.on (by rfl) b1).frz 0; have f1 := (j0.out.on (by rfl) b1).frz 1; have Z1 : Hid (Blk w1 w.heap.size #[.int .i64 0, .int .i64 0] 28) := j0.out.on (by rfl) b1)
      clear l1 hp33 hgM m1 m2
      go_region_law (fail)
      go_wp2
      have Z2 := (Z1.out.set 0 (.int .i64 ((M : Int) / (g : Int)))).set 1 (.int .i64 ((B : Int) / (g : Int)))
      have BB := b_drew (Below.setCell (p := ⟨w.heap.size, 1, none⟩) (Below.setCell (p := ⟨w.heap.size, 0, none⟩) (b_then (b_alloc (Below.refl w.heap.size w) _) b1) (Nat.le_refl _) (.int .i64 ((M : Int) / (g : Int)))) (Nat.le_refl _) (.int .i64 ((B : Int) / (g : Int))))
      generalize (w1.setCell ⟨w.heap.size, 0, none⟩ (.int .i64 ((M : Int) / (g : Int)))).setCell ⟨w.heap.size, 1, none⟩ (.int .i64 ((B : Int) / (g : Int))) = W9 at *
      have Z3 : Blk W9.drew w.heap.size _ _ := Z2
      refine bodyPost_ret (ret_fr (x := (M : Int) / (g : Int)) (y := (B : Int) / (g : Int)) Try.results47 rfl Z3) rfl ⟨by rw [q1.out, q2.out], BB⟩

theorem ret_frc {fn : Func} {tmps : Array Value} {W : World} {q s t : Nat} {x y : Int} (hr : fn.results = #[.cell s 28, .tmp t]) (h2 : tmps.getD s undef = .pointer (some ⟨q, 0, none⟩)) (Z : Blk W q #[.int .i64 x, .int .i64 y] 28) :
    (results fn tmps).run Try.prog W = .ok (.tuple #[.agg #[.int .i64 x, .int .i64 y], tmps.getD t undef]) W := by
  have e0 := Z.cell 0
  have e1 := Z.cell 1
  simp at e0 e1
  rw [Array.getD_eq_getD_getElem?] at h2
  simp [results, hr, h2, go_sem, e0, e1]
def exP (a : Nat) : Int := if tgB a then (exN a : Int) else 0
def exQ (a : Nat) : Int := if tgB a then (exD a : Int) else 0
def exC (a : Nat) : Int := if tgB a then 0 else 2
set_option maxHeartbeats 2000000 in
theorem implExactOf_any (a : Nat) (ha : a < 4294967296) (w : World) : Calls Try.prog 10 #[.float .f32 a] w (RV (.tuple #[.agg #[.int .i64 (exP a), .int .i64 (exQ a)], .int .i64 (exC a)]) w) := by
  unfold exP exQ exC
  have Z0 : Hid (Blk (w.alloc (.cells #[.int .i64 0, .int .i64 0] 28)) w.heap.size #[.int .i64 0, .int .i64 0] 28) := Blk.new _ _ _
  rcases Bool.eq_false_or_eq_true (tgB a) with h | h
  · have hT := Lib.hid (fun w => (by have := isTarget_any a w; rw [h] at this; exact this : Calls Try.prog 45 #[.float .f32 a] w fun e w' => e = .returned (.bool true) ∧ w = w'))
    have hE := Lib.hid (implExact_any a ha h)
    simp only [h, if_true]
    clear h ha
    generalize (exN a : Int) = P at *
    generalize (exD a : Int) = Q at *
    go_enter Try.func10, Try.ntmps10
    go_wp2_with (first | (go_at_call 45; refine (hT.out _).mono ?_; rintro e w1 ⟨rfl, rfl⟩) | (go_at_call 46; refine (hE.out _).mono ?_; rintro e w2 ⟨rfl, b2⟩; have Z1 : Hid (Blk w2 w.heap.size #[.int .i64 0, .int .i64 0] 28) := Z0.out.on (by rfl) b2; have d0 := Z1.out.cell 0; have d1 := Z1.out.cell 1; simp at d0 d1; have f0 := Z1.out.frozen 0; have f1 := Z1.out.frozen 1))
    have Z2 := (Z1.out.set 0 (.int .i64 P)).set 1 (.int .i64 Q)
    have BB := Below.setCell (p := ⟨w.heap.size, 1, none⟩) (Below.setCell (p := ⟨w.heap.size, 0, none⟩) (b_then (b_alloc (Below.refl w.heap.size w) _) b2) (Nat.le_refl _) (.int .i64 P)) (Nat.le_refl _) (.int .i64 Q)
    generalize (w2.setCell ⟨w.heap.size, 0, none⟩ (.int .i64 P)).setCell ⟨w.heap.size, 1, none⟩ (.int .i64 Q) = W9 at *
    have Z3 : Blk W9 w.heap.size #[.int .i64 P, .int .i64 Q] 28 := Z2
    refine bodyPost_ret (ret_frc (x := P) (y := Q) Try.results10 rfl Z3) rfl ⟨rfl, BB⟩
  · have hT := Lib.hid (fun w => (by have := isTarget_any a w; rw [h] at this; exact this : Calls Try.prog 45 #[.float .f32 a] w fun e w' => e = .returned (.bool false) ∧ w = w'))
    simp only [h, if_false, Bool.false_eq_true]
    clear h ha
    have d0 := Z0.out.cell 0
    have d1 := Z0.out.cell 1
    simp at d0 d1
    go_enter Try.func10, Try.ntmps10
    go_wp2_with (go_at_call 45; refine (hT.out _).mono ?_; rintro e w1 ⟨rfl, rfl⟩)
    exact bodyPost_ret (ret_frc (x := 0) (y := 0) Try.results10 rfl Z0.out) rfl ⟨rfl, b_alloc (Below.refl _ _) _⟩
set_option maxHeartbeats 2000000 in
theorem specExactOf_any (a : Nat) (ha : a < 4294967296) (w : World) : Calls Try.prog 11 #[.float .f32 a] w (RV (.tuple #[.agg #[.int .i64 (exP a), .int .i64 (exQ a)], .int .i64 (exC a)]) w) := by
  unfold exP exQ exC
  have Z0 : Hid (Blk (w.alloc (.cells #[.int .i64 0, .int .i64 0] 28)) w.heap.size #[.int .i64 0, .int .i64 0] 28) := Blk.new _ _ _
  rcases Bool.eq_false_or_eq_true (tgB a) with h | h
  · have hT := Lib.hid (fun w => (by have := l05Target_any a w; rw [h] at this; exact this : Calls Try.prog 44 #[.float .f32 a] w fun e w' => e = .returned (.bool true) ∧ w = w'))
    have hE := Lib.hid (specExact_any a ha h)
    simp only [h, if_true]
    clear h ha
    generalize (exN a : Int) = P at *
    generalize (exD a : Int) = Q at *
    go_enter Try.func11, Try.ntmps11
    go_wp2_with (first | (go_at_call 44; refine (hT.out _).mono ?_; rintro e w1 ⟨rfl, rfl⟩) | (go_at_call 47; refine (hE.out _).mono ?_; rintro e w2 ⟨rfl, b2⟩; have Z1 : Hid (Blk w2 w.heap.size #[.int .i64 0, .int .i64 0] 28) := Z0.out.on (by rfl) b2; have d0 := Z1.out.cell 0; have d1 := Z1.out.cell 1; simp at d0 d1; have f0 := Z1.out.frozen 0; have f1 := Z1.out.frozen 1))
    have Z2 := (Z1.out.set 0 (.int .i64 P)).set 1 (.int .i64 Q)
    have BB := Below.setCell (p := ⟨w.heap.size, 1, none⟩) (Below.setCell (p := ⟨w.heap.size, 0, none⟩) (b_then (b_alloc (Below.refl w.heap.size w) _) b2) (Nat.le_refl _) (.int .i64 P)) (Nat.le_refl _) (.int .i64 Q)
    generalize (w2.setCell ⟨w.heap.size, 0, none⟩ (.int .i64 P)).setCell ⟨w.heap.size, 1, none⟩ (.int .i64 Q) = W9 at *
    have Z3 : Blk W9 w.heap.size #[.int .i64 P, .int .i64 Q] 28 := Z2
    refine bodyPost_ret (ret_frc (x := P) (y := Q) Try.results11 rfl Z3) rfl ⟨rfl, BB⟩
  · have hT := Lib.hid (fun w => (by have := l05Target_any a w; rw [h] at this; exact this : Calls Try.prog 44 #[.float .f32 a] w fun e w' => e = .returned (.bool false) ∧ w = w'))
    simp only [h, if_false, Bool.false_eq_true]
    clear h ha
    have d0 := Z0.out.cell 0
    have d1 := Z0.out.cell 1
    simp at d0 d1
    go_enter Try.func11, Try.ntmps11
    go_wp2_with (go_at_call 44; refine (hT.out _).mono ?_; rintro e w1 ⟨rfl, rfl⟩)
    exact bodyPost_ret (ret_frc (x := 0) (y := 0) Try.results11 rfl Z0.out) rfl ⟨rfl, b_alloc (Below.refl _ _) _⟩
end Go.Proofs.Ytjkgiknklkfipaa
