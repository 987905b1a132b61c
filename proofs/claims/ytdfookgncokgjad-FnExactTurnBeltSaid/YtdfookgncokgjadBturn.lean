/-
  A belt that is turned.
-/
import Derived.Test.YtdfookgncokgjadBto
import Derived.Test.YtdfookgncokgjadBapart
namespace Go.Proofs.Ytdfookgncokgjad
open Go.RowKit Go.ChangeShapes Go.WideShapes Go.Deep
attribute [local go_sem ↓] Go.wp_at_zero Go.wp_at_succ
set_option linter.unusedVariables false
set_option linter.unusedSimpArgs false
theorem At.frozen {w : World} {q : Nat} {B : Bl} (h : At w q B) (o : Nat) : w.frozen? ⟨q, o, none⟩ = false := by
  unfold At at h
  unfold World.frozen?
  rw [h]
  simp
theorem At.set0 {w : World} {q : Nat} {B : Bl} (h : At w q B) (x : Nat) : At (w.setCell ⟨q, 0, none⟩ (.float .f32 x)) q { B with a := x } := by
  unfold At at *
  show (w.heap.modify q _)[q]? = _
  rw [Array.getElem?_modify, if_pos rfl, h]
  rfl
theorem At.set1 {w : World} {q : Nat} {B : Bl} (h : At w q B) (x : Nat) : At (w.setCell ⟨q, 1, none⟩ (.float .f32 x)) q { B with b := x } := by
  unfold At at *
  show (w.heap.modify q _)[q]? = _
  rw [Array.getElem?_modify, if_pos rfl, h]
  rfl
theorem At.set2 {w : World} {q : Nat} {B : Bl} (h : At w q B) (x : Nat) : At (w.setCell ⟨q, 2, none⟩ (.float .f32 x)) q { B with ap := x } := by
  unfold At at *
  show (w.heap.modify q _)[q]? = _
  rw [Array.getElem?_modify, if_pos rfl, h]
  rfl
theorem At.set3 {w : World} {q : Nat} {B : Bl} (h : At w q B) (x : Nat) : At (w.setCell ⟨q, 3, none⟩ (.float .f32 x)) q { B with g := x } := by
  unfold At at *
  show (w.heap.modify q _)[q]? = _
  rw [Array.getElem?_modify, if_pos rfl, h]
  rfl
theorem At.set4 {w : World} {q : Nat} {B : Bl} (h : At w q B) (x : Bool) : At (w.setCell ⟨q, 4, none⟩ (.bool x)) q { B with x := x } := by
  unfold At at *
  show (w.heap.modify q _)[q]? = _
  rw [Array.getElem?_modify, if_pos rfl, h]
  rfl
theorem At.setO {w : World} {q r : Nat} {B : Bl} (h : At w q B) (hr : r ≠ q) (o : Nat) (v : Value) : At (w.setCell ⟨r, o, none⟩ v) q B := (Below.heap_setCell w ⟨r, o, none⟩ v q (Ne.symm hr)).trans h
theorem ret_belt {fn : Func} {tmps : Array Value} {WF : World} {q : Nat} {C : Bl} {k : Int} (hr : fn.results = #[.cell 2 27, .tmp 3]) (h2 : tmps.getD 2 undef = .pointer (some ⟨q, 0, none⟩)) (h3 : tmps.getD 3 undef = .int .i64 k) (Z : At WF q C) :
    (results fn tmps).run Try.prog WF = .ok (.tuple #[.agg #[.float .f32 C.a, .float .f32 C.b, .float .f32 C.ap, .float .f32 C.g, .bool C.x], .int .i64 k]) WF := by
  obtain ⟨e0, e1, e2, e3, e4⟩ := Z.cells
  rw [Array.getD_eq_getD_getElem?] at h2 h3
  simp [results, hr, h2, h3, go_sem, e0, e1, e2, e3, e4]
def bZero : Bl := ⟨0, 0, 0, 0, false⟩
def bTurn (B : Bl) : Bl := if okB B then ⟨B.b, B.a, B.ap, B.g, B.x⟩ else bZero
def bV (B : Bl) : Value := .agg #[.float .f32 B.a, .float .f32 B.b, .float .f32 B.ap, .float .f32 B.g, .bool B.x]
set_option maxHeartbeats 1000000 in
theorem implTurn_1 {B : Bl} (hk : okB B = true) (w : World) : Calls Try.prog 42 #[.agg #[.float .f32 B.a, .float .f32 B.b, .float .f32 B.ap, .float .f32 B.g, .bool B.x]] w (RV (.tuple #[.agg #[.float .f32 B.b, .float .f32 B.a, .float .f32 B.ap, .float .f32 B.g, .bool B.x], .int .i64 0]) w) := by
  have h0 := At.new w B
  have h1 : At ((w.alloc (.cells #[.float .f32 B.a, .float .f32 B.b, .float .f32 B.ap, .float .f32 B.g, .bool B.x] 27)).alloc (.cells #[.float .f32 0, .float .f32 0, .float .f32 0, .float .f32 0, .bool false] 27)) (w.heap.size + 1) bZero := by
    have e : (w.alloc (.cells #[.float .f32 B.a, .float .f32 B.b, .float .f32 B.ap, .float .f32 B.g, .bool B.x] 27)).heap.size = w.heap.size + 1 := by simp
    rw [← e]
    exact At.new _ bZero
  have H0 := Lib.hid h0; have H1 := Lib.hid h1
  have Hk := Lib.hid hk
  clear h0 h1 hk
  go_enter Try.func42, Try.ntmps42
  go_wp2_with fail
  refine (validBelt_any B _).mono ?_
  rintro e w1 ⟨rfl, b1⟩
  have A0 := At.on (At.below H0.out (b_alloc (Below.refl _ _) (.cells #[.float .f32 0, .float .f32 0, .float .f32 0, .float .f32 0, .bool false] 27))) (by rfl) b1
  have A1 := At.on H1.out (by rfl) b1
  obtain ⟨c0, c1, c2, c3, c4⟩ := A0.cells
  obtain ⟨d0, d1, d2, d3, d4⟩ := A1.cells
  have z0 := A1.frozen 0
  have z1 := A1.frozen 1
  have z2 := A1.frozen 2
  have z3 := A1.frozen 3
  have z4 := A1.frozen 4
  have hlt := A1.lt
  have hk := Hk.out
  have A1 := Lib.hid A1
  clear A0
  go_wp2
  have Z0 : At _ (w.heap.size + 1) (⟨0, 0, 0, 0, false⟩ : Bl) := A1.out
  have Z1 : At _ (w.heap.size + 1) (⟨B.b, 0, 0, 0, false⟩ : Bl) := Z0.set0 B.b
  have Z2 : At _ (w.heap.size + 1) (⟨B.b, B.a, 0, 0, false⟩ : Bl) := Z1.set1 B.a
  have Z3 : At _ (w.heap.size + 1) (⟨B.b, B.a, B.ap, 0, false⟩ : Bl) := Z2.set2 B.ap
  have Z4 : At _ (w.heap.size + 1) (⟨B.b, B.a, B.ap, B.g, false⟩ : Bl) := Z3.set3 B.g
  have Z5 : At _ (w.heap.size + 1) (⟨B.b, B.a, B.ap, B.g, B.x⟩ : Bl) := Z4.set4 B.x
  refine bodyPost_ret (ret_belt Try.results42 rfl rfl Z5) rfl ⟨rfl, ?_⟩
  have bw : Below w.heap.size w w1 := b_then (b_alloc (b_alloc (Below.refl _ _) _) _) b1
  repeat (first | exact bw | refine b_set ?_ (by omega) _)
set_option maxHeartbeats 1000000 in
theorem implTurn_0 {B : Bl} (hk : okB B = false) (w : World) : Calls Try.prog 42 #[.agg #[.float .f32 B.a, .float .f32 B.b, .float .f32 B.ap, .float .f32 B.g, .bool B.x]] w (RV (.tuple #[.agg #[.float .f32 0, .float .f32 0, .float .f32 0, .float .f32 0, .bool false], .int .i64 1]) w) := by
  have h0 := At.new w B
  have h1 : At ((w.alloc (.cells #[.float .f32 B.a, .float .f32 B.b, .float .f32 B.ap, .float .f32 B.g, .bool B.x] 27)).alloc (.cells #[.float .f32 0, .float .f32 0, .float .f32 0, .float .f32 0, .bool false] 27)) (w.heap.size + 1) bZero := by
    have e : (w.alloc (.cells #[.float .f32 B.a, .float .f32 B.b, .float .f32 B.ap, .float .f32 B.g, .bool B.x] 27)).heap.size = w.heap.size + 1 := by simp
    rw [← e]
    exact At.new _ bZero
  have H0 := Lib.hid h0; have H1 := Lib.hid h1
  have Hk := Lib.hid hk
  clear h0 h1 hk
  go_enter Try.func42, Try.ntmps42
  go_wp2_with fail
  refine (validBelt_any B _).mono ?_
  rintro e w1 ⟨rfl, b1⟩
  have A0 := At.on (At.below H0.out (b_alloc (Below.refl _ _) (.cells #[.float .f32 0, .float .f32 0, .float .f32 0, .float .f32 0, .bool false] 27))) (by rfl) b1
  have A1 := At.on H1.out (by rfl) b1
  obtain ⟨c0, c1, c2, c3, c4⟩ := A0.cells
  obtain ⟨d0, d1, d2, d3, d4⟩ := A1.cells
  have z0 := A1.frozen 0
  have z1 := A1.frozen 1
  have z2 := A1.frozen 2
  have z3 := A1.frozen 3
  have z4 := A1.frozen 4
  have hlt := A1.lt
  have hk := Hk.out
  have A1 := Lib.hid A1
  clear A0
  go_wp2
  have Z0 : At _ (w.heap.size + 1) (⟨0, 0, 0, 0, false⟩ : Bl) := A1.out
  have Z1 : At _ (w.heap.size + 1) (⟨0, 0, 0, 0, false⟩ : Bl) := Z0.set0 0
  have Z2 : At _ (w.heap.size + 1) (⟨0, 0, 0, 0, false⟩ : Bl) := Z1.set1 0
  have Z3 : At _ (w.heap.size + 1) (⟨0, 0, 0, 0, false⟩ : Bl) := Z2.set2 0
  have Z4 : At _ (w.heap.size + 1) (⟨0, 0, 0, 0, false⟩ : Bl) := Z3.set3 0
  have Z5 : At _ (w.heap.size + 1) (⟨0, 0, 0, 0, false⟩ : Bl) := Z4.set4 false
  refine bodyPost_ret (ret_belt Try.results42 rfl rfl Z5) rfl ⟨rfl, ?_⟩
  have bw : Below w.heap.size w w1 := b_then (b_alloc (b_alloc (Below.refl _ _) _) _) b1
  repeat (first | exact bw | refine b_set ?_ (by omega) _)
theorem implTurn_any (B : Bl) (w : World) : Calls Try.prog 42 #[.agg #[.float .f32 B.a, .float .f32 B.b, .float .f32 B.ap, .float .f32 B.g, .bool B.x]] w (RV (.tuple #[.agg #[.float .f32 (bTurn B).a, .float .f32 (bTurn B).b, .float .f32 (bTurn B).ap, .float .f32 (bTurn B).g, .bool (bTurn B).x], .int .i64 (codeB B)]) w) := by
  unfold bTurn codeB
  rcases Bool.eq_false_or_eq_true (okB B) with hk | hk
  · simp only [hk, if_true]
    exact implTurn_1 hk w
  · simp only [hk, if_false, Bool.false_eq_true]
    exact implTurn_0 hk w
set_option maxHeartbeats 2000000 in
theorem specTurn_1 {B : Bl} (hk : okB B = true) (w : World) : Calls Try.prog 41 #[.agg #[.float .f32 B.a, .float .f32 B.b, .float .f32 B.ap, .float .f32 B.g, .bool B.x]] w (RV (.tuple #[.agg #[.float .f32 B.b, .float .f32 B.a, .float .f32 B.ap, .float .f32 B.g, .bool B.x], .int .i64 0]) w) := by
  have h0 := At.new w B
  have h1 : At ((w.alloc (.cells #[.float .f32 B.a, .float .f32 B.b, .float .f32 B.ap, .float .f32 B.g, .bool B.x] 27)).alloc (.cells #[.float .f32 0, .float .f32 0, .float .f32 0, .float .f32 0, .bool false] 27)) (w.heap.size + 1) bZero := by
    have e : (w.alloc (.cells #[.float .f32 B.a, .float .f32 B.b, .float .f32 B.ap, .float .f32 B.g, .bool B.x] 27)).heap.size = w.heap.size + 1 := by simp
    rw [← e]
    exact At.new _ bZero
  have h2 : At ((w.alloc (.cells #[.float .f32 B.a, .float .f32 B.b, .float .f32 B.ap, .float .f32 B.g, .bool B.x] 27)).alloc (.cells #[.float .f32 0, .float .f32 0, .float .f32 0, .float .f32 0, .bool false] 27)) w.heap.size B := At.below h0 (b_alloc (Below.refl _ _) _)
  have hb : Below w.heap.size w ((w.alloc (.cells #[.float .f32 B.a, .float .f32 B.b, .float .f32 B.ap, .float .f32 B.g, .bool B.x] 27)).alloc (.cells #[.float .f32 0, .float .f32 0, .float .f32 0, .float .f32 0, .bool false] 27)) := b_alloc (b_alloc (Below.refl _ _) _) _
  obtain ⟨W, hW⟩ : ∃ W, ((w.alloc (.cells #[.float .f32 B.a, .float .f32 B.b, .float .f32 B.ap, .float .f32 B.g, .bool B.x] 27)).alloc (.cells #[.float .f32 0, .float .f32 0, .float .f32 0, .float .f32 0, .bool false] 27)) = W := ⟨_, rfl⟩
  rw [hW] at h1 h2 hb
  have HW := Lib.hid hW; have H1 := Lib.hid h1; have H2 := Lib.hid h2; have HB := Lib.hid hb; have Hk := Lib.hid hk
  clear h0 h1 h2 hb hW hk
  go_enter Try.func41, Try.ntmps41
  go_wp2_with fail
  rw [HW.out]
  obtain ⟨c0, c1, c2, c3, c4⟩ := H2.out.cells
  refine (l02Ok_any B _ _ c0 c1 c2 c3).mono ?_
  rintro e w1 ⟨rfl, n1, rfl⟩
  clear c0 c1 c2 c3 c4
  have A0 : At (W.drewN n1) w.heap.size B := H2.out
  have A1 : At (W.drewN n1) (w.heap.size + 1) bZero := H1.out
  have bw : Hid (Below w.heap.size w (W.drewN n1)) := b_drewN HB.out n1
  generalize W.drewN n1 = w1 at *
  obtain ⟨c0, c1, c2, c3, c4⟩ := A0.cells
  obtain ⟨d0, d1, d2, d3, d4⟩ := A1.cells
  have y0 := A0.frozen 0
  have y1 := A0.frozen 1
  have z0 := A1.frozen 0
  have z1 := A1.frozen 1
  have z2 := A1.frozen 2
  have z3 := A1.frozen 3
  have z4 := A1.frozen 4
  have hk := Hk.out
  have A0 := Lib.hid A0
  have A1 := Lib.hid A1
  go_wp2
  have Z0 : At _ (w.heap.size + 1) (⟨0, 0, 0, 0, false⟩ : Bl) := (A1.out.setO (r := w.heap.size) (by omega) 0 (.float .f32 B.b)).setO (r := w.heap.size) (by omega) 1 (.float .f32 B.a)
  have Z1 : At _ (w.heap.size + 1) (⟨B.b, 0, 0, 0, false⟩ : Bl) := Z0.set0 B.b
  have Z2 : At _ (w.heap.size + 1) (⟨B.b, B.a, 0, 0, false⟩ : Bl) := Z1.set1 B.a
  have Z3 : At _ (w.heap.size + 1) (⟨B.b, B.a, B.ap, 0, false⟩ : Bl) := Z2.set2 B.ap
  have Z4 : At _ (w.heap.size + 1) (⟨B.b, B.a, B.ap, B.g, false⟩ : Bl) := Z3.set3 B.g
  have Z5 : At _ (w.heap.size + 1) (⟨B.b, B.a, B.ap, B.g, B.x⟩ : Bl) := Z4.set4 B.x
  refine bodyPost_ret (ret_belt Try.results41 rfl rfl Z5) rfl ⟨rfl, ?_⟩
  have q1 : w.heap.size ≤ w.heap.size + 1 := by omega
  exact b_set (b_set (b_set (b_set (b_set (b_set (b_set bw.out (Nat.le_refl _) _) (Nat.le_refl _) _) q1 _) q1 _) q1 _) q1 _) q1 _
set_option maxHeartbeats 2000000 in
theorem specTurn_0 {B : Bl} (hk : okB B = false) (w : World) : Calls Try.prog 41 #[.agg #[.float .f32 B.a, .float .f32 B.b, .float .f32 B.ap, .float .f32 B.g, .bool B.x]] w (RV (.tuple #[.agg #[.float .f32 0, .float .f32 0, .float .f32 0, .float .f32 0, .bool false], .int .i64 1]) w) := by
  have h0 := At.new w B
  have h1 : At ((w.alloc (.cells #[.float .f32 B.a, .float .f32 B.b, .float .f32 B.ap, .float .f32 B.g, .bool B.x] 27)).alloc (.cells #[.float .f32 0, .float .f32 0, .float .f32 0, .float .f32 0, .bool false] 27)) (w.heap.size + 1) bZero := by
    have e : (w.alloc (.cells #[.float .f32 B.a, .float .f32 B.b, .float .f32 B.ap, .float .f32 B.g, .bool B.x] 27)).heap.size = w.heap.size + 1 := by simp
    rw [← e]
    exact At.new _ bZero
  have h2 : At ((w.alloc (.cells #[.float .f32 B.a, .float .f32 B.b, .float .f32 B.ap, .float .f32 B.g, .bool B.x] 27)).alloc (.cells #[.float .f32 0, .float .f32 0, .float .f32 0, .float .f32 0, .bool false] 27)) w.heap.size B := At.below h0 (b_alloc (Below.refl _ _) _)
  have hb : Below w.heap.size w ((w.alloc (.cells #[.float .f32 B.a, .float .f32 B.b, .float .f32 B.ap, .float .f32 B.g, .bool B.x] 27)).alloc (.cells #[.float .f32 0, .float .f32 0, .float .f32 0, .float .f32 0, .bool false] 27)) := b_alloc (b_alloc (Below.refl _ _) _) _
  obtain ⟨W, hW⟩ : ∃ W, ((w.alloc (.cells #[.float .f32 B.a, .float .f32 B.b, .float .f32 B.ap, .float .f32 B.g, .bool B.x] 27)).alloc (.cells #[.float .f32 0, .float .f32 0, .float .f32 0, .float .f32 0, .bool false] 27)) = W := ⟨_, rfl⟩
  rw [hW] at h1 h2 hb
  have HW := Lib.hid hW; have H1 := Lib.hid h1; have H2 := Lib.hid h2; have HB := Lib.hid hb; have Hk := Lib.hid hk
  clear h0 h1 h2 hb hW hk
  go_enter Try.func41, Try.ntmps41
  go_wp2_with fail
  rw [HW.out]
  obtain ⟨c0, c1, c2, c3, c4⟩ := H2.out.cells
  refine (l02Ok_any B _ _ c0 c1 c2 c3).mono ?_
  rintro e w1 ⟨rfl, n1, rfl⟩
  clear c0 c1 c2 c3 c4
  have A0 : At (W.drewN n1) w.heap.size B := H2.out
  have A1 : At (W.drewN n1) (w.heap.size + 1) bZero := H1.out
  have bw : Hid (Below w.heap.size w (W.drewN n1)) := b_drewN HB.out n1
  generalize W.drewN n1 = w1 at *
  obtain ⟨c0, c1, c2, c3, c4⟩ := A0.cells
  obtain ⟨d0, d1, d2, d3, d4⟩ := A1.cells
  have y0 := A0.frozen 0
  have y1 := A0.frozen 1
  have z0 := A1.frozen 0
  have z1 := A1.frozen 1
  have z2 := A1.frozen 2
  have z3 := A1.frozen 3
  have z4 := A1.frozen 4
  have hk := Hk.out
  have A0 := Lib.hid A0
  have A1 := Lib.hid A1
  go_wp2
  have Z0 : At _ (w.heap.size + 1) (⟨0, 0, 0, 0, false⟩ : Bl) := A1.out
  have Z1 : At _ (w.heap.size + 1) (⟨0, 0, 0, 0, false⟩ : Bl) := Z0.set0 0
  have Z2 : At _ (w.heap.size + 1) (⟨0, 0, 0, 0, false⟩ : Bl) := Z1.set1 0
  have Z3 : At _ (w.heap.size + 1) (⟨0, 0, 0, 0, false⟩ : Bl) := Z2.set2 0
  have Z4 : At _ (w.heap.size + 1) (⟨0, 0, 0, 0, false⟩ : Bl) := Z3.set3 0
  have Z5 : At _ (w.heap.size + 1) (⟨0, 0, 0, 0, false⟩ : Bl) := Z4.set4 false
  refine bodyPost_ret (ret_belt Try.results41 rfl rfl Z5) rfl ⟨rfl, ?_⟩
  repeat (first | exact bw.out | refine b_set ?_ (by omega) _)
theorem specTurn_any (B : Bl) (w : World) : Calls Try.prog 41 #[.agg #[.float .f32 B.a, .float .f32 B.b, .float .f32 B.ap, .float .f32 B.g, .bool B.x]] w (RV (.tuple #[.agg #[.float .f32 (bTurn B).a, .float .f32 (bTurn B).b, .float .f32 (bTurn B).ap, .float .f32 (bTurn B).g, .bool (bTurn B).x], .int .i64 (codeB B)]) w) := by
  unfold bTurn codeB
  rcases Bool.eq_false_or_eq_true (okB B) with hk | hk
  · simp only [hk, if_true]
    exact specTurn_1 hk w
  · simp only [hk, if_false, Bool.false_eq_true]
    exact specTurn_0 hk w
end Go.Proofs.Ytdfookgncokgjad
