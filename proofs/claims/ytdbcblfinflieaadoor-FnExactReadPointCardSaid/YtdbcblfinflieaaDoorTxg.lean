/-
  The text of a number: the program's and the model's.
-/
import Derived.Test.YtdbcblfinflieaaDoorTxe
import Derived.Test.YtdbcblfinflieaaDoorSm
import Derived.Test.YtdbcblfinflieaaDoorShelf
namespace Go.Proofs.YtdbcblfinflieaaDoor
open Go.RowKit Go.ChangeShapes Go.WideShapes Go.Deep
attribute [local go_sem ↓] Go.wp_at_zero Go.wp_at_succ
attribute [local go_sem] bits_callB
set_option linter.unusedVariables false
set_option linter.unusedSimpArgs false
set_option maxRecDepth 100000
def bsOf (l : List UInt8) : ByteArray := ⟨l.toArray⟩
theorem bsOf_data (l : List UInt8) : (bsOf l).data.toList = l := rfl
theorem bsOf_size (l : List UInt8) : (bsOf l).size = l.length := by rw [Lib.size_eq, bsOf_data]
theorem bsOf_of (s : ByteArray) : bsOf s.data.toList = s := Lib.mk_data s
theorem bsOf_toList (l : List UInt8) : (bsOf l).toList = l := by rw [Lib.toList_data]; rfl
theorem bsOf_append (l m : List UInt8) : bsOf l ++ bsOf m = bsOf (l ++ m) := by
  apply ByteArray.ext
  rw [ByteArray.data_append]
  simp [bsOf]
theorem fuI_any (u : Nat) (hu : u < 4294967296) (w : World) (hT : TbAt w) : Calls Tryd.prog 85 #[.int .u64 u, .int .i64 16] w (RV (.string (bsOf (hexDigits u))) w) := by
  have L := Lib.hid (fb_any u hu w hT)
  clear hT
  go_enter Tryd.func85, Tryd.ntmps85
  go_wp2_with fail
  refine L.out.mono ?_
  rintro e w1 ⟨rfl, b⟩
  go_wp2
  go_ret
  exact ⟨rfl, b⟩
theorem fu_any (u : Nat) (hu : u < 4294967296) (w : World) (hT : TbAt w) : Calls Tryd.prog 69 #[.int .u64 u, .int .i64 16] w (RV (.string (bsOf (hexDigits u))) w) := by
  have L := Lib.hid (fuI_any u hu w hT)
  clear hT
  go_enter Tryd.func69, Tryd.ntmps69
  go_wp2_with fail
  refine L.out.mono ?_
  rintro e w1 ⟨rfl, b⟩
  go_wp2
  go_ret
  exact ⟨rfl, b⟩
theorem pad_text (u : Nat) (h : u < 4294967296) (c : Nat) (hc : c = 8 - (hexDigits u).length) : (⟨(Lib.repeatL [48] c).toArray⟩ : ByteArray) ++ bsOf (hexDigits u) = bsOf (hex8 u) := by
  rw [hc, ← (hex8_pad h).2, ← repeat_zero]
  exact bsOf_append _ _
set_option maxHeartbeats 4000000 in
theorem numText_any (a : Nat) (ha : a < 4294967296) (w : World) (hT : TbAt w) : Calls Tryd.prog 58 #[.float .f32 a] w (RV (.string (bsOf (hex8 (cn a)))) w) := by
  have hc := cn_lt ha
  have L1 := Lib.hid (bitsOf_any a w)
  have HT := Lib.hid hT
  clear hT
  obtain ⟨u, hu, hcu⟩ : ∃ u, cn a = u ∧ u < 4294967296 := ⟨_, rfl, hc⟩
  rw [hu] at L1 ⊢
  clear hc hu
  have u0 : (u : Int) ≤ 4294967295 := by omega
  go_enter Tryd.func58, Tryd.ntmps58
  go_wp2_with fail
  refine L1.out.mono ?_
  rintro e w1 ⟨rfl, n, rfl⟩
  go_wp2_with fail
  refine (fu_any u hcu _ (HT.out.below (b_drewN (Below.refl _ _) _))).mono ?_
  rintro e w2 ⟨rfl, b2⟩
  have B2 := Lib.hid (b_then (b_drewN (Below.refl _ w) n) b2)
  clear b2
  obtain ⟨D, hD⟩ : ∃ D, D = bsOf (hexDigits u) := ⟨_, rfl⟩
  have hs : D.size ≤ 8 := by rw [hD, bsOf_size]; exact (hex8_pad hcu).1
  rw [← hD]
  have e8 : (8 : Int) - (D.size : Int) = ((8 - D.size : Nat) : Int) := by omega
  have HD := Lib.hid hD
  clear hD
  go_wp2_with fail
  refine (Tryd.strings_Repeat _ _ _ (by omega) (by show 1 * (8 - D.size) ≤ _; omega)).mono ?_
  rintro e w3 ⟨rfl, b3⟩
  have B3 := Lib.hid (b_then B2.out b3)
  clear b3
  have e1 := pad_text u hcu (8 - D.size) (by rw [HD.out, bsOf_size])
  rw [← HD.out] at e1
  have hz : (⟨(Lib.repeatL [48] (8 - D.size)).toArray⟩ : ByteArray).size ≤ 8 := by
    rw [Lib.size_eq]
    show (Lib.repeatL [48] (8 - D.size)).length ≤ 8
    rw [repeat_zero, List.length_replicate]
    omega
  generalize (⟨(Lib.repeatL [48] (8 - D.size)).toArray⟩ : ByteArray) = Z at *
  have E1 := Lib.hid e1
  clear e1
  go_wp2
  go_ret
  exact ⟨congrArg (fun x => Ending.returned (Value.string x)) E1.out, B3.out⟩
theorem l01Bits_any (a : Nat) (w : World) : Calls Tryd.prog 47 #[.float .f32 a] w fun e w' => e = .returned (.int .u32 (cn a)) ∧ w = w' := by
  cases ha : nan32 a
  · have a2 := order_self (k := .f32) ha
    have e := Lib.hid (cn_of_not ha)
    clear ha
    go_enter Tryd.func47, Tryd.ntmps47
    go_wp2
    go_ret
    exact ⟨by rw [e.out]; rfl, rfl⟩
  · have a2 := order_nan_left (k := .f32) a ha
    have e := Lib.hid (cn_of_nan ha)
    clear ha
    go_enter Tryd.func47, Tryd.ntmps47
    go_wp2
    go_ret
    exact ⟨by rw [e.out]; rfl, rfl⟩
end Go.Proofs.YtdbcblfinflieaaDoor
