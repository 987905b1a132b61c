/-
  Numbers read from their texts: the library's ParseUint, the program's ReadNumber, the model's.
-/
import Derived.Test.YtdbcblfinflieaaDoorTxf
import Derived.Test.YtdbcblfinflieaaDoorTxg
import Derived.Lib.AtoiErrMem
namespace Go.Proofs.YtdbcblfinflieaaDoor
open Go.RowKit Go.ChangeShapes Go.WideShapes Go.Deep
attribute [local go_sem ↓] Go.wp_at_zero Go.wp_at_succ
set_option linter.unusedVariables false
set_option linter.unusedSimpArgs false
set_option maxRecDepth 100000
/-- The library's errors lie there. -/
structure TeAt (w : World) : Prop where
  es : ∃ tp p, w.cell? ⟨3, 0, none⟩ = some (.iface tp p)
  er : ∃ tp p, w.cell? ⟨4, 0, none⟩ = some (.iface tp p)
theorem TeAt.on {w W w' : World} (h : TeAt w) (hW : W.heap = w.heap) (b : Below W.heap.size W w') : TeAt w' := by
  obtain ⟨⟨t1, p1, h1⟩, t2, p2, h2⟩ := h
  exact ⟨⟨t1, p1, cell_on h1 hW b⟩, t2, p2, cell_on h2 hW b⟩
theorem TeAt.below {w w' : World} (h : TeAt w) (b : Below w.heap.size w w') : TeAt w' := h.on rfl b
theorem puI_empty (w : World) : Calls Tryd.prog 67 #[.string ⟨#[]⟩, .int .i64 16, .int .i64 32] w fun e w' => e = .returned (.tuple #[.int .u64 0, .iface 137 (.int .i64 2)]) ∧ w = w' := by
  go_enter Tryd.func67, Tryd.ntmps67
  go_wp2
  go_ret2
  exact ⟨rfl, rfl⟩
theorem puI_any (t : ByteArray) (hmax : t.size ≤ 281474976710656) (w : World) :
    Calls Tryd.prog 67 #[.string t, .int .i64 16, .int .i64 32] w (RV (puT (pu t.data.toList)) w) := by
  by_cases h0 : t.size = 0
  · obtain rfl : t = ⟨#[]⟩ := by
      apply ByteArray.ext
      exact Array.eq_empty_of_size_eq_zero h0
    refine (puI_empty w).mono ?_
    rintro e w' ⟨rfl, rfl⟩
    exact ⟨rfl, Below.refl _ _⟩
  · refine (pu_walk t h0 (by omega) w).mono ?_
    rintro e w' ⟨rfl, rfl⟩
    have hne : t.data.toList ≠ [] := fun e => h0 (by rw [Lib.size_eq, e]; rfl)
    refine ⟨?_, Lib.bytesWorld_below _ _ _⟩
    unfold pu
    rw [if_neg hne]
set_option maxHeartbeats 1000000 in
theorem pu_ok (t : ByteArray) (hmax : t.size ≤ 281474976710656) (v : Nat) (h : pu t.data.toList = .good v) (w : World) :
    Calls Tryd.prog 57 #[.string t, .int .i64 16, .int .i64 32] w (RV (.tuple #[.int .u64 v, .nilIface]) w) := by
  have L := puI_any t hmax w
  rw [h] at L
  have L : Calls Tryd.prog 67 #[.string t, .int .i64 16, .int .i64 32] w (RV (.tuple #[.int .u64 v, .nilIface]) w) := L
  have H := Lib.hid L
  clear L h
  go_enter Tryd.func57, Tryd.ntmps57
  go_wp2_with fail
  refine H.out.mono ?_
  rintro e w1 ⟨rfl, b⟩
  go_wp2
  go_ret2
  exact ⟨rfl, b⟩
set_option maxHeartbeats 1000000 in
theorem pu_no (t : ByteArray) (hmax : t.size ≤ 281474976710656) (h : ∀ v, pu t.data.toList ≠ .good v) (w : World) (hE : TeAt w) :
    Calls Tryd.prog 57 #[.string t, .int .i64 16, .int .i64 32] w fun e w' => (∃ (x : Int) (N : Nat), e = .returned (.tuple #[.int .u64 x, .iface 139 (.pointer (some ⟨N, 0, none⟩))])) ∧ Below w.heap.size w w' := by
  have L := puI_any t hmax w
  have HE := Lib.hid hE
  cases hp : pu t.data.toList with
  | good v => exact absurd hp (h v)
  | bad =>
    rw [hp] at L
    have L : Calls Tryd.prog 67 #[.string t, .int .i64 16, .int .i64 32] w (RV (.tuple #[.int .u64 0, .iface 137 (.int .i64 2)]) w) := L
    have H := Lib.hid L
    clear L h hp hE
    go_enter Tryd.func57, Tryd.ntmps57
    go_wp2_with fail
    refine H.out.mono ?_
    rintro e w1 ⟨rfl, b⟩
    obtain ⟨tp, p, hes⟩ := (HE.out.below b).es
    have L2 := Lib.hid (Tryd.strconv_toError_syntax ⟨#[80, 97, 114, 115, 101, 85, 105, 110, 116]⟩ t 16 32 _ w1 hmax hes (.inr ⟨tp, p, rfl⟩))
    have B := Lib.hid b
    clear hes b
    go_wp2_with fail
    refine L2.out.mono ?_
    rintro e w2 ⟨N, rfl, _, _, b2⟩
    have B2 := Lib.hid (b_then B.out b2)
    clear b2
    go_wp2
    go_ret2
    exact ⟨⟨_, _, rfl⟩, B2.out⟩
  | over =>
    rw [hp] at L
    have L : Calls Tryd.prog 67 #[.string t, .int .i64 16, .int .i64 32] w (RV (.tuple #[.int .u64 4294967295, .iface 137 (.int .i64 1)]) w) := L
    have H := Lib.hid L
    clear L h hp hE
    go_enter Tryd.func57, Tryd.ntmps57
    go_wp2_with fail
    refine H.out.mono ?_
    rintro e w1 ⟨rfl, b⟩
    obtain ⟨tp, p, hes⟩ := (HE.out.below b).er
    have L2 := Lib.hid (Tryd.strconv_toError_range ⟨#[80, 97, 114, 115, 101, 85, 105, 110, 116]⟩ t 16 32 _ w1 hmax hes (.inr ⟨tp, p, rfl⟩))
    have B := Lib.hid b
    clear hes b
    go_wp2_with fail
    refine L2.out.mono ?_
    rintro e w2 ⟨N, rfl, _, _, b2⟩
    have B2 := Lib.hid (b_then B.out b2)
    clear b2
    go_wp2
    go_ret2
    exact ⟨⟨_, _, rfl⟩, B2.out⟩
theorem from_call (b : Nat) (w : World) : (callFunc 46 #[.int .u32 b]).run Tryd.prog w = .ok (.value (.float .f32 b)) w := by
  rw [run_callFunc_extern (fn := Tryd.f46) (e := Extern.MathFloatBits.float32frombits) Tryd.func46 (by kernel_rfl) (by kernel_rfl) (by kernel_rfl) (by kernel_rfl)]
  rfl
end Go.Proofs.YtdbcblfinflieaaDoor
