/-
  Numerals of base sixteen, as the library writes them: internal/strconv.formatBits, FormatUint.
-/
import Derived.Test.YtdbcblfinflieaaDoorTxd
namespace Go.Proofs.YtdbcblfinflieaaDoor
open Go.RowKit Go.ChangeShapes Go.WideShapes Go.Deep
attribute [local go_sem ↓] Go.wp_at_zero Go.wp_at_succ
set_option linter.unusedVariables false
set_option linter.unusedSimpArgs false
set_option maxRecDepth 100000
def digs : ByteArray := ⟨#[48, 49, 50, 51, 52, 53, 54, 55, 56, 57, 97, 98, 99, 100, 101, 102, 103, 104, 105, 106, 107, 108, 109, 110, 111, 112, 113, 114, 115, 116, 117, 118, 119, 120, 121, 122]⟩
theorem digs_at : ∀ d : Fin 16, (if hi : 0 ≤ (d.1 : Int) ∧ (d.1 : Int) < digs.size then (digs[(d.1 : Int).toNat]'(by omega)).toNat else 0) = (hexd d.1).toNat := by decide +kernel
theorem run_digs (t : TypeId) (ht : Tryd.prog.underlying t = some .string) (d : Nat) (hd : d < 16) (W : World) : (Instr.index t (.string ⟨#[48, 49, 50, 51, 52, 53, 54, 55, 56, 57, 97, 98, 99, 100, 101, 102, 103, 104, 105, 106, 107, 108, 109, 110, 111, 112, 113, 114, 115, 116, 117, 118, 119, 120, 121, 122]⟩) (.int .u64 d)).run Tryd.prog W = .ok (.int .u8 (hexd d).toNat) W := by
  have h := run_index_string (P := Tryd.prog) W t digs .u64 d ht
  have hs : digs.size = 36 := by decide
  have hq : 0 ≤ (d : Int) ∧ (d : Int) < digs.size := by rw [hs]; omega
  rw [dif_pos hq] at h
  have hd2 := digs_at ⟨d, hd⟩
  simp only at hd2
  rw [dif_pos hq] at hd2
  rw [hd2] at h
  exact h
theorem and15 (v : Nat) (hv : v < 4294967296) : bits BinOp.and IntKind.u64 (v : Int) 15 = ((v % 16 : Nat) : Int) := by
  have hx : v &&& 15 < 2 ^ 64 := Nat.lt_of_le_of_lt Nat.and_le_left (by omega)
  have h1 : (BitVec.ofInt 64 (v : Int)).toNat = v := by
    rw [BitVec.ofInt_natCast, BitVec.toNat_ofNat]; exact Nat.mod_eq_of_lt (by omega)
  have h2 : (BitVec.ofInt 64 (15 : Int)).toNat = 15 := by decide
  show IntKind.u64.wrap ((BitVec.ofInt 64 (v : Int) &&& BitVec.ofInt 64 (15 : Int)).toNat : Int) = _
  rw [BitVec.toNat_and, h1, h2, show (15 : Nat) = 2 ^ 4 - 1 by decide, Nat.and_two_pow_sub_one_eq_mod]
  rw [IntKind.wrap_u64]
  omega
def zc65 : Array Value := #[.int .u8 0, .int .u8 0, .int .u8 0, .int .u8 0, .int .u8 0, .int .u8 0, .int .u8 0, .int .u8 0, .int .u8 0, .int .u8 0, .int .u8 0, .int .u8 0, .int .u8 0, .int .u8 0, .int .u8 0, .int .u8 0, .int .u8 0, .int .u8 0, .int .u8 0, .int .u8 0, .int .u8 0, .int .u8 0, .int .u8 0, .int .u8 0, .int .u8 0, .int .u8 0, .int .u8 0, .int .u8 0, .int .u8 0, .int .u8 0, .int .u8 0, .int .u8 0, .int .u8 0, .int .u8 0, .int .u8 0, .int .u8 0, .int .u8 0, .int .u8 0, .int .u8 0, .int .u8 0, .int .u8 0, .int .u8 0, .int .u8 0, .int .u8 0, .int .u8 0, .int .u8 0, .int .u8 0, .int .u8 0, .int .u8 0, .int .u8 0, .int .u8 0, .int .u8 0, .int .u8 0, .int .u8 0, .int .u8 0, .int .u8 0, .int .u8 0, .int .u8 0, .int .u8 0, .int .u8 0, .int .u8 0, .int .u8 0, .int .u8 0, .int .u8 0, .int .u8 0]
theorem zc_size : zc65.size = 65 := by kernel_rfl
theorem zv65 (w : World) : (zeroValue 180).run Tryd.prog w = .ok (.agg zc65) w := by first | rfl | kernel_rfl
/-- The digits that are written so far. -/
structure FbI (u v j : Nat) (ds : List UInt8) (q : Nat) (w0 wr : World) : Prop where
  hd : hexDigits u = hexDigits v ++ ds
  hj : j + ds.length = 65
  hv : v < 16 ^ (8 - ds.length)
  hl : ds.length ≤ 7
  hb : Below w0.heap.size w0 wr
  hc : ∃ cs, Blk wr q cs 180 ∧ cs.size = 65 ∧ ∀ n (h : n < ds.length), cs[j + n]? = some (.int .u8 (ds[n]).toNat)
theorem FbI.step {u v m : Nat} {ds : List UInt8} {q : Nat} {w0 wr : World} (h : FbI u v (m + 1) ds q w0 wr) (hv : 16 ≤ v) (hq : w0.heap.size ≤ q) : FbI u (v / 16) m (hexd (v % 16) :: ds) q w0 (wr.setCell ⟨q, m, none⟩ (.int .u8 (hexd (v % 16)).toNat)) := by
  obtain ⟨h1, h2, h3, h4, h5, cs, h6, h7, h8⟩ := h
  have h9 : ds.length ≤ 6 := by
    rcases (by omega : ds.length ≤ 6 ∨ ds.length = 7) with h | h
    · exact h
    · rw [h] at h3; omega
  obtain ⟨k, hk⟩ : ∃ k, 8 - ds.length = k + 1 := ⟨7 - ds.length, by omega⟩
  have hk2 : 8 - (hexd (v % 16) :: ds).length = k := by rw [List.length_cons]; omega
  rw [hk, Nat.pow_succ] at h3
  have hln : (hexd (v % 16) :: ds).length = ds.length + 1 := rfl
  refine ⟨?_, by rw [hln]; omega, ?_, by rw [hln]; omega, h5.setCell (p := ⟨q, m, none⟩) hq _, cs.setIfInBounds m (.int .u8 (hexd (v % 16)).toNat), h6.set m _, by simp [h7], ?_⟩
  · rw [h1, hexDigits, dif_neg (by omega), List.append_assoc]; rfl
  · rw [hk2]; omega
  · intro n hn
    cases n with
    | zero => rw [Nat.add_zero, Array.getElem?_setIfInBounds_self_of_lt (by rw [h7]; omega)]; rfl
    | succ n =>
      simp only [List.length_cons] at hn
      have h10 := h8 n (by omega)
      rw [Array.getElem?_setIfInBounds_ne (by omega)]
      rw [show m + (n + 1) = m + 1 + n by omega, h10]
      rfl
theorem FbI.text {u v m : Nat} {ds : List UInt8} {q : Nat} {w0 wr : World} (h : FbI u v (m + 1) ds q w0 wr) (hv : v < 16) (hq : w0.heap.size ≤ q) :
    (convert 28 9 (.slice (some ⟨q, m, none⟩) (65 - m) (65 - m))).run Tryd.prog (wr.setCell ⟨q, m, none⟩ (.int .u8 (hexd v).toNat)) = .ok (.string ⟨(hexDigits u).toArray⟩) (wr.setCell ⟨q, m, none⟩ (.int .u8 (hexd v).toNat)) ∧ Below w0.heap.size w0 (wr.setCell ⟨q, m, none⟩ (.int .u8 (hexd v).toNat)) := by
  obtain ⟨h1, h2, h3, h4, h5, cs, h6, h7, h8⟩ := h
  refine ⟨?_, h5.setCell (p := ⟨q, m, none⟩) hq _⟩
  have hB := h6.set m (.int .u8 (hexd v).toNat)
  have e1 : hexDigits u = hexd v :: ds := by rw [h1, hexDigits, dif_pos hv]; rfl
  have e2 : 65 - m = (hexd v :: ds).length := by rw [List.length_cons]; omega
  rw [e1, e2]
  refine run_convert_bytes_back _ _ _ 5 ⟨q, m, none⟩ _ (hexd v :: ds) Tryd.underlying28 Tryd.underlying5 Tryd.underlying9 fun j hj => ?_
  have ea : (⟨q, m, none⟩ : Addr).add j = ⟨q, m + j, none⟩ := by unfold Addr.add; split <;> simp_all
  rw [ea, hB.cell]
  cases j with
  | zero => rw [Nat.add_zero, Array.getElem?_setIfInBounds_self_of_lt (by rw [h7]; omega)]; rfl
  | succ n =>
    simp only [List.length_cons] at hj
    have h10 := h8 n (by omega)
    rw [Array.getElem?_setIfInBounds_ne (by omega), show m + (n + 1) = m + 1 + n by omega, h10]
    rfl
set_option maxHeartbeats 4000000 in
theorem fb_any (u : Nat) (hu : u < 4294967296) (w : World) (hT : TbAt w) :
    Calls Tryd.prog 104 #[.slice none 0 0, .int .u64 u, .int .i64 16, .bool false, .bool false] w fun e w' => e = .returned (.tuple #[.slice none 0 0, .string ⟨(hexDigits u).toArray⟩]) ∧ Below w.heap.size w w' := by
  have hT2 := hT.below (b_alloc (Below.refl _ w) (.cells zc65 180))
  have HT2 := Lib.hid hT2
  have ha : FbI u u 65 [] w.heap.size w (w.alloc (.cells zc65 180)) := by
    refine ⟨by simp, rfl, by simpa using hu, by simp, b_alloc (Below.refl _ _) _, _, Blk.new _ _ _, zc_size, fun n h => by simp at h⟩
  have HA := Lib.hid ha
  have hz65 := zv65
  clear hT hT2 ha
  go_enter Tryd.func104, Tryd.ntmps104
  go_wp2_with fail
  refine (two_sixteen _).mono ?_
  rintro e w1 ⟨rfl, rfl⟩
  go_wp2_with fail
  refine (tz_sixteen _ HT2.out).mono ?_
  rintro e w1 ⟨rfl, rfl⟩
  generalize (w.alloc (.cells zc65 180)) = W at *
  go_wp2_with fail
  go_loopw [1, 13] (fun vu vi wr => ∃ (v j : Nat) (ds : List UInt8), vu = .int .u64 v ∧ vi = .int .i64 j ∧ Hid (FbI u v j ds w.heap.size w wr)) (fun vu _ _ => (intOf vu).toNat)
  case atStart => exact ⟨u, 65, [], rfl, rfl, HA⟩
  case round =>
    obtain ⟨v, j, ds, rfl, rfl, hi⟩ := hrel
    have hl := hi.out.hl
    have hj := hi.out.hj
    obtain ⟨m, rfl⟩ : ∃ m, j = m + 1 := ⟨j - 1, by omega⟩
    have hv32 : v < 4294967296 := Nat.lt_of_lt_of_le hi.out.hv (Nat.le_trans (Nat.pow_le_pow_right (by decide) (by omega : 8 - ds.length ≤ 8)) (by decide))
    have hm : m ≤ 64 := by omega
    obtain ⟨cs, hB, hs, _⟩ := hi.out.hc
    have c0 := hB.cell m
    have f0 := hB.frozenT m
    obtain ⟨x, hx⟩ : ∃ x, cs[m]? = some x := ⟨cs[m]'(by omega), Array.getElem?_eq_getElem (by omega)⟩
    rw [hx] at c0
    clear hB hx hj hl
    by_cases hlt : 16 ≤ v
    · have hst := Lib.hid (hi.out.step hlt (Nat.le_refl _))
      obtain ⟨d, hd, hd16⟩ : ∃ d : Nat, v % 16 = d ∧ d < 16 := ⟨v % 16, rfl, by omega⟩
      have hand : bits BinOp.and IntKind.u64 (v : Int) 15 = (d : Int) := by rw [← hd]; exact and15 v hv32
      rw [hd] at hst
      have hdg := run_digs 9 Tryd.underlying9 d hd16
      have Hd := Lib.hid hd
      clear hd
      have i1 : 16 ≤ (v : Int) := by omega
      have i2 : (v : Int) < 4294967296 := by omega
      clear hi hs
      go_wp2_with (simp only [hand])
      exact ⟨⟨v / 16, m, hexd d :: ds, by first | rfl | (congr 1), rfl, hst⟩, by simp [intOf]; omega⟩
    · have hdg := run_digs 9 Tryd.underlying9 v (by omega)
      have i1 : (v : Int) < 16 := by omega
      have hal : Tryd.prog.arrayLen 180 = 65 := by simp [Program.arrayLen, Tryd.underlying180]
      have hsl : ∀ W, (Instr.sliceAt 180 (.pointer (some ⟨w.heap.size, 0, none⟩)) (some (.int .i64 m)) none none).run Tryd.prog W = .ok (.slice (some ⟨w.heap.size, m, none⟩) (65 - m) (65 - m)) W := fun W => by
        rw [run_sliceAt_array_l W 180 ⟨w.heap.size, 0, none⟩ (by simp [Program.arrayLen, Program.elem, Tryd.underlying180]) .i64 m (by omega) (by rw [hal]; omega)]
        rw [hal]
        go_simp
        omega
      obtain ⟨hcv, hbw⟩ := hi.out.text (by omega) (Nat.le_refl _)
      have HB := Lib.hid hbw
      clear hi hs hal hbw
      go_wp2
      go_ret2
      exact ⟨rfl, HB.out⟩
end Go.Proofs.YtdbcblfinflieaaDoor
