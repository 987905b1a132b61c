/-
  The text of a number: the program's and the model's.
-/
import Derived.Test.YtkkcihgnpephiaaDoorTxe
import Derived.Test.YtkkcihgnpephiaaDoorSm
import Derived.Test.YtkkcihgnpephiaaDoorShelf
namespace Go.Proofs.YtkkcihgnpephiaaDoor
open Go.RowKit Go.ChangeShapes Go.WideShapes Go.Deep
attribute [local go_sem ↓] Go.wp_at_zero Go.wp_at_succ
attribute [local go_sem] bits_callB
set_option linter.unusedVariables false
set_option linter.unusedSimpArgs false
set_option maxRecDepth 100000
def bsOf (l : List UInt8) : ByteArray := ⟨l.toArray⟩
theorem bsOf_data (l : List UInt8) : (bsOf l).data.toList = l := rfl
theorem bsOf_size (l : List UInt8) : (bsOf l).size = l.length := by rw [Lib.size_eq, bsOf_data]
theorem bsOf_of (s : ByteArray) : bsOf s.data.toList = s := Lib.mk_data s
theorem bsOf_toList (l : List UInt8) : (bsOf l).toList = l := by rw [Lib.toList_data]; rfl
theorem bsOf_append (l m : List UInt8) : bsOf l ++ bsOf m = bsOf (l ++ m) := by
  apply ByteArray.ext
  rw [ByteArray.data_append]
  simp [bsOf]
theorem fuI_any (u : Nat) (hu : u < 4294967296) (w : World) (hT : TbAt w) : Calls Tryd.prog 92 #[.int .u64 u, .int .i64 16] w (RV (.string (bsOf (hexDigits u))) w) := by
  have L := Lib.hid (fb_any u hu w hT)
  clear hT
  go_enter Tryd.func92, Tryd.ntmps92
  go_wp2_with fail
  refine L.out.mono ?_
  rintro e w1 ⟨rfl, b⟩
  go_wp2
  go_ret
  exact ⟨rfl, b⟩
theorem fu_any (u : Nat) (hu : u < 4294967296) (w : World) (hT : TbAt w) : Calls Tryd.prog 56 #[.int .u64 u, .int .i64 16] w (RV (.string (bsOf (hexDigits u))) w) := by
  have L := Lib.hid (fuI_any u hu w hT)
  clear hT
  go_enter Tryd.func56, Tryd.ntmps56
  go_wp2_with fail
  refine L.out.mono ?_
  rintro e w1 ⟨rfl, b⟩
  go_wp2
  go_ret
  exact ⟨rfl, b⟩
theorem pad_text (u : Nat) (h : u < 4294967296) (c : Nat) (hc : c = 8 - (hexDigits u).length) : (⟨(Lib.repeatL [48] c).toArray⟩ : ByteArray) ++ bsOf (hexDigits u) = bsOf (hex8 u) := by
  rw [hc, ← (hex8_pad h).2, ← repeat_zero]
  exact bsOf_append _ _
set_option maxHeartbeats 4000000 in
theorem numText_any (a : Nat) (ha : a < 4294967296) (w : World) (hT : TbAt w) : Calls Tryd.prog 16 #[.float .f32 a] w (RV (.string (bsOf (hex8 (cn a)))) w) := by
  have hc := cn_lt ha
  have L1 := Lib.hid (bitsOf_any a w)
  have HT := Lib.hid hT
  clear hT
  obtain ⟨u, hu, hcu⟩ : ∃ u, cn a = u ∧ u < 4294967296 := ⟨_, rfl, hc⟩
  rw [hu] at L1 ⊢
  clear hc hu
  have u0 : (u : Int) ≤ 4294967295 := by omega
  go_enter Tryd.func16, Tryd.ntmps16
  go_wp2_with fail
  refine L1.out.mono ?_
  rintro e w1 ⟨rfl, n, rfl⟩
  go_wp2_with fail
  refine (fu_any u hcu _ (HT.out.below (b_drewN (Below.refl _ _) _))).mono ?_
  rintro e w2 ⟨rfl, b2⟩
  have B2 := Lib.hid (b_then (b_drewN (Below.refl _ w) n) b2)
  clear b2
  obtain ⟨D, hD⟩ : ∃ D, D = bsOf (hexDigits u) := ⟨_, rfl⟩
  have hs : D.size ≤ 8 := by rw [hD, bsOf_size]; exact (hex8_pad hcu).1
  rw [← hD]
  have e8 : (8 : Int) - (D.size : Int) = ((8 - D.size : Nat) : Int) := by omega
  have HD := Lib.hid hD
  clear hD
  go_wp2_with fail
  refine (Tryd.strings_Repeat _ _ _ (by omega) (by show 1 * (8 - D.size) ≤ _; omega)).mono ?_
  rintro e w3 ⟨rfl, b3⟩
  have B3 := Lib.hid (b_then B2.out b3)
  clear b3
  have e1 := pad_text u hcu (8 - D.size) (by rw [HD.out, bsOf_size])
  rw [← HD.out] at e1
  have hz : (⟨(Lib.repeatL [48] (8 - D.size)).toArray⟩ : ByteArray).size ≤ 8 := by
    rw [Lib.size_eq]
    show (Lib.repeatL [48] (8 - D.size)).length ≤ 8
    rw [repeat_zero, List.length_replicate]
    omega
  generalize (⟨(Lib.repeatL [48] (8 - D.size)).toArray⟩ : ByteArray) = Z at *
  have E1 := Lib.hid e1
  clear e1
  go_wp2
  go_ret
  exact ⟨congrArg (fun x => Ending.returned (Value.string x)) E1.out, B3.out⟩
theorem l01Bits_any (a : Nat) (w : World) : Calls Tryd.prog 91 #[.float .f32 a] w fun e w' => e = .returned (.int .u32 (cn a)) ∧ w = w' := by
  cases ha : nan32 a
  · have a2 := order_self (k := .f32) ha
    have e := Lib.hid (cn_of_not ha)
    clear ha
    go_enter Tryd.func91, Tryd.ntmps91
    go_wp2
    go_ret
    exact ⟨by rw [e.out]; rfl, rfl⟩
  · have a2 := order_nan_left (k := .f32) a ha
    have e := Lib.hid (cn_of_nan ha)
    clear ha
    go_enter Tryd.func91, Tryd.ntmps91
    go_wp2
    go_ret
    exact ⟨by rw [e.out]; rfl, rfl⟩
def digs16 : ByteArray := ⟨#[48, 49, 50, 51, 52, 53, 54, 55, 56, 57, 97, 98, 99, 100, 101, 102]⟩
theorem digs16_at : ∀ d : Fin 16, (if hi : 0 ≤ (d.1 : Int) ∧ (d.1 : Int) < digs16.size then (digs16[(d.1 : Int).toNat]'(by omega)).toNat else 0) = (hexd d.1).toNat := by decide +kernel
theorem run_digs16 (t : TypeId) (ht : Tryd.prog.underlying t = some .string) (d : Nat) (hd : d < 16) (W : World) : (Instr.index t (.string ⟨#[48, 49, 50, 51, 52, 53, 54, 55, 56, 57, 97, 98, 99, 100, 101, 102]⟩) (.int .u32 d)).run Tryd.prog W = .ok (.int .u8 (hexd d).toNat) W := by
  have h := run_index_string (P := Tryd.prog) W t digs16 .u32 d ht
  have hs : digs16.size = 16 := by decide
  have hq : 0 ≤ (d : Int) ∧ (d : Int) < digs16.size := by rw [hs]; omega
  rw [dif_pos hq] at h
  have hd2 := digs16_at ⟨d, hd⟩
  simp only at hd2
  rw [dif_pos hq] at hd2
  rw [hd2] at h
  exact h
theorem u8_info : (Tryd.prog.info? 5).map (fun i => (i.zero, i.size, i.bytes)) = some (some (.int .u8 0), 1, 1) := by kernel_rfl
theorem run_make8 (wx : World) : (Instr.makeSlice 123 (.int .i64 8) (.int .i64 8)).run Tryd.prog wx = .ok (.slice (some ⟨wx.heap.size, 0, none⟩) 8 8) (wx.alloc (.cells (madeCells #[.int .u8 0] 8) 5)) := by
  obtain ⟨i0, hi, h⟩ := Option.map_eq_some_iff.1 u8_info
  injection h with h1 h2
  injection h2 with h2 h3
  have := run_make (P := Tryd.prog) wx 123 5 i0 _ Tryd.underlying123 hi h1 .i64 .i64 8 8 (by omega) (Int.le_refl _) (by rw [h3]; omega) (by omega)
  simpa [h2, Value.cells] using this
/-- The digits that the model has written so far. -/
structure HxI (u v j : Nat) (ds : List UInt8) (q : Nat) (w0 wr : World) : Prop where
  hd : hexN 8 u = hexN j v ++ ds
  hj : j + ds.length = 8
  hv : v ≤ u
  hb : Below w0.heap.size w0 wr
  hc : ∃ cs, Blk wr q cs 5 ∧ cs.size = 8 ∧ ∀ n (h : n < ds.length), cs[j + n]? = some (.int .u8 (ds[n]).toNat)
theorem HxI.step {u v m : Nat} {ds : List UInt8} {q : Nat} {w0 wr : World} (h : HxI u v (m + 1) ds q w0 wr) (hq : w0.heap.size ≤ q) : HxI u (v / 16) m (hexd (v % 16) :: ds) q w0 (wr.setCell ⟨q, m, none⟩ (.int .u8 (hexd (v % 16)).toNat)) := by
  obtain ⟨h1, h2, h3, h5, cs, h6, h7, h8⟩ := h
  refine ⟨?_, by rw [List.length_cons]; omega, by omega, h5.setCell (p := ⟨q, m, none⟩) hq _, cs.setIfInBounds m (.int .u8 (hexd (v % 16)).toNat), h6.set m _, by simp [h7], ?_⟩
  · rw [h1, hexN, List.append_assoc]; rfl
  · intro n hn
    cases n with
    | zero => rw [Nat.add_zero, Array.getElem?_setIfInBounds_self_of_lt (by rw [h7]; omega)]; rfl
    | succ n =>
      simp only [List.length_cons] at hn
      have h10 := h8 n (by omega)
      rw [Array.getElem?_setIfInBounds_ne (by omega), show m + (n + 1) = m + 1 + n by omega, h10]
      rfl
theorem HxI.text {u v : Nat} {ds : List UInt8} {q : Nat} {w0 wr : World} (h : HxI u v 0 ds q w0 wr) :
    (convert 123 9 (.slice (some ⟨q, 0, none⟩) 8 8)).run Tryd.prog wr = .ok (.string (bsOf (hex8 u))) wr := by
  obtain ⟨h1, h2, h3, h5, cs, h6, h7, h8⟩ := h
  have e1 : hex8 u = ds := by rw [hex8, h1]; rfl
  have e2 : 8 = ds.length := by omega
  rw [e1]
  conv => lhs; rw [show (Value.slice (some ⟨q, 0, none⟩) 8 8) = Value.slice (some ⟨q, 0, none⟩) ds.length 8 by rw [← e2]]
  refine run_convert_bytes_back _ _ _ 5 ⟨q, 0, none⟩ _ ds Tryd.underlying123 Tryd.underlying5 Tryd.underlying9 fun j hj => ?_
  have ea : (⟨q, 0, none⟩ : Addr).add j = ⟨q, 0 + j, none⟩ := by unfold Addr.add; split <;> simp_all
  rw [ea, h6.cell]
  exact h8 j hj
set_option maxHeartbeats 4000000 in
theorem l01Hex_any (a : Nat) (ha : a < 4294967296) (w : World) : Calls Tryd.prog 55 #[.float .f32 a] w (RV (.string (bsOf (hex8 (cn a)))) w) := by
  have hc := cn_lt ha
  have L1 := Lib.hid (l01Bits_any a w)
  obtain ⟨u, hu, hcu⟩ : ∃ u, cn a = u ∧ u < 4294967296 := ⟨_, rfl, hc⟩
  rw [hu] at L1 ⊢
  clear hc hu ha
  have hmk := run_make8
  have hi0 : HxI u u 8 [] w.heap.size w (w.alloc (.cells (madeCells #[.int .u8 0] 8) 5)) := ⟨by simp, rfl, Nat.le_refl _, b_alloc (Below.refl _ _) _, _, Blk.new _ _ _, size_madeCells _ _, fun n h => by simp at h⟩
  have HI0 := Lib.hid hi0
  clear hi0
  go_enter Tryd.func55, Tryd.ntmps55
  go_wp2_with fail
  refine L1.out.mono ?_
  rintro e w1 ⟨rfl, rfl⟩
  go_wp2_with fail
  clear hmk
  generalize (w.alloc (.cells (madeCells #[.int .u8 0] 8) 5)) = W at *
  go_loopw [3, 5] (fun vb vk wr => ∃ (v j : Nat) (a : Int) (ds : List UInt8), vb = .int .u32 v ∧ vk = .int .i64 a ∧ Hid (a = (j : Int) - 1 ∧ HxI u v j ds w.heap.size w wr)) (fun _ vk _ => (intOf vk + 1).toNat)
  case atStart => exact ⟨u, 8, 7, [], rfl, rfl, rfl, HI0.out⟩
  case round =>
    obtain ⟨v, j, a, ds, rfl, rfl, hh⟩ := hrel
    obtain ⟨ha, hi⟩ := hh.out
    clear hh
    cases j with
    | zero =>
      obtain rfl : a = -1 := by omega
      have hcv := hi.text
      have HB := Lib.hid hi.hb
      clear hi ha
      go_wp2
      go_ret
      exact ⟨rfl, HB.out⟩
    | succ m =>
      obtain rfl : a = (m : Int) := by omega
      have hst := hi.step (Nat.le_refl _)
      have hj := hi.hj
      have hm : m ≤ 7 := by omega
      have hv32 : v ≤ 4294967295 := by have := hi.hv; omega
      obtain ⟨cs, hB, hs, _⟩ := hi.hc
      have c0 := hB.cell m
      have f0 := hB.frozenT m
      obtain ⟨x, hx⟩ : ∃ x, cs[m]? = some x := ⟨cs[m]'(by omega), Array.getElem?_eq_getElem (by omega)⟩
      rw [hx] at c0
      clear hB hx hj hs hi ha
      obtain ⟨d, hd, hd16⟩ : ∃ d : Nat, v % 16 = d ∧ d < 16 := ⟨v % 16, rfl, by omega⟩
      rw [hd] at hst
      have Hst := Lib.hid hst
      have hmod : (v : Int) % 16 = (d : Int) := by omega
      have hdg := run_digs16 9 Tryd.underlying9 d hd16
      have i2 : (v : Int) ≤ 4294967295 := by omega
      clear hd hst
      go_wp2_with (simp only [hmod])
      exact ⟨⟨v / 16, m, (m : Int) - 1, hexd d :: ds, by first | rfl | (congr 1), rfl, ⟨rfl, Hst.out⟩⟩, by simp [intOf]⟩
end Go.Proofs.YtkkcihgnpephiaaDoor
