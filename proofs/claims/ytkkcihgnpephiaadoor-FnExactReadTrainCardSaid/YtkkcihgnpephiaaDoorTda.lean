/-
  Decimal numerals: the program's writers and readers, the model's.
-/
import Derived.Test.YtkkcihgnpephiaaDoorTxm
import Derived.Test.YtkkcihgnpephiaaDoorTxj
import Derived.Deep.RegionHeld3
import Derived.Deep.RegionLaw
namespace Go.Proofs.YtkkcihgnpephiaaDoor
open Go.RowKit Go.ChangeShapes Go.WideShapes Go.Deep
attribute [local go_sem ↓] Go.wp_at_zero Go.wp_at_succ
set_option linter.unusedVariables false
set_option linter.unusedSimpArgs false
set_option maxRecDepth 100000
theorem grow_b (w : World) (k : Nat) (os : Array Obj) : Below w.heap.size w (Go.Sort.grow (w.drewN k) os) := by
  refine b_then (b_drewN (Below.refl _ _) k) ⟨rfl, rfl, rfl, by simp, fun i hi => ?_⟩
  show ((w.drewN k).heap ++ os)[i]? = _
  rw [Array.getElem?_append_left hi]
theorem itoa_nat (n : Nat) : Lib.itoa (n : Int) = Lib.decDigits n := by
  unfold Lib.itoa
  rw [if_neg (by omega)]
  simp
theorem itoa_any (n : Nat) (hn : n ≤ 9223372036854775807) (w : World) (hT : TbAt w) : Calls Tryd.prog 84 #[.int .i64 n] w (RV (.string (bsOf (Lib.decDigits n))) w) := by
  refine (Tryd.strconv_Itoa n (by omega) (by omega) w hT.pw).mono ?_
  rintro e w' ⟨rfl, k, os, rfl⟩
  rw [itoa_nat]
  exact ⟨rfl, grow_b _ _ _⟩
theorem run_byte (c : UInt8) (x : Int) (hx : x = (c.toNat : Int)) (W : World) (q : Nat) (h : W.cell? ⟨q, 0, none⟩ = some (.int .u8 x)) : (convert 123 9 (.slice (some ⟨q, 0, none⟩) 1 1)).run Tryd.prog W = .ok (.string (bsOf [c])) W := by
  refine run_convert_bytes_back _ _ _ 5 ⟨q, 0, none⟩ 1 [c] Tryd.underlying123 Tryd.underlying5 Tryd.underlying9 fun j hj => ?_
  obtain rfl : j = 0 := by simpa using hj
  rw [show (⟨q, 0, none⟩ : Addr).add 0 = ⟨q, 0, none⟩ from rfl, h, hx]
  rfl
theorem cell_new1 {W X w' : World} {v : Value} (t : TypeId) (b : Below X.heap.size X w') (hX : X.heap = (W.alloc (.cells #[v] t)).heap) : w'.cell? ⟨W.heap.size, 0, none⟩ = some v := by
  refine cell_on (w := W.alloc (.cells #[v] t)) (cell_of_row _ _ 0 _ _ _ (heap_alloc_new W _)) hX b
theorem dec_lt20 (n : Nat) (hn : n ≤ 9223372036854775807) : (Lib.decDigits n).length ≤ 20 := dec_len 19 n (by show n < 10 ^ 20; omega)
set_option maxHeartbeats 4000000 in
theorem decimal_any (n : Nat) (hn : n ≤ 9223372036854775807) (w : World) : Calls Tryd.prog 105 #[.int .i64 n] w (RV (.string (bsOf (Lib.decDigits n))) w) := by
  obtain ⟨d, hd, hd9⟩ : ∃ d, n % 10 = d ∧ d ≤ 9 := ⟨n % 10, rfl, by omega⟩
  have hmod : (n : Int) % 10 = (d : Int) := by omega
  have hdiv : (n : Int) / 10 = ((n / 10 : Nat) : Int) := by omega
  have hu : (48 + (d : Int)) = ((UInt8.ofNat (48 + d)).toNat : Int) := by rw [decd_nat (by omega)]; omega
  have RB := run_byte (UInt8.ofNat (48 + d)) (48 + (d : Int)) hu
  have i1 : (n : Int) ≤ 9223372036854775807 := by omega
  have hcs : (bsOf [UInt8.ofNat (48 + d)]).size = 1 := rfl
  by_cases hs : n < 10
  · have e0 := Lib.hid (dec_small hs)
    obtain rfl : n = d := by omega
    generalize hC : bsOf [UInt8.ofNat (48 + n)] = C at *
    clear hd hdiv hu hcs
    go_enter Tryd.func105, Tryd.ntmps105
    go_wp2
    go_ret
    refine ⟨?_, b_alloc (Below.refl _ _) _⟩
    rw [e0.out, hC]
    rfl
  · have e0 := Lib.hid (dec_big hs)
    have L := Lib.hid (fun W => decimal_any (n / 10) (by omega) W)
    have hq : ((n / 10 : Nat) : Int) ≤ 9223372036854775807 := by omega
    have hds : (bsOf (Lib.decDigits (n / 10))).size ≤ 20 := by rw [bsOf_size]; exact dec_lt20 _ (by omega)
    have ha := Lib.hid (bsOf_append (Lib.decDigits (n / 10)) [UInt8.ofNat (48 + d)])
    rw [hd] at e0
    rw [← e0.out] at ha
    generalize bsOf (Lib.decDigits n) = T at *
    generalize bsOf (Lib.decDigits (n / 10)) = D at *
    generalize bsOf [UInt8.ofNat (48 + d)] = C at *
    generalize n / 10 = m at *
    clear hd hu e0
    go_enter Tryd.func105, Tryd.ntmps105
    have htm : (n : Int).tmod 10 = (d : Int) := by rw [Int.tmod_eq_emod_of_nonneg (by omega)]; exact hmod
    have w1 : IntKind.i64.wrap (m : Int) = m := IntWalk.i64_in _ (by omega)
    have w2 : IntKind.i64.wrap (d : Int) = d := IntWalk.i64_in _ (by omega)
    have w3 : IntKind.i64.wrap (48 + (d : Int)) = 48 + (d : Int) := IntWalk.i64_in _ (by omega)
    have w4 : IntKind.u8.wrap (48 + (d : Int)) = 48 + (d : Int) := IntWalk.u8_in _ (by omega)
    go_wp2
    go_region_with (go_at_call 105; refine (L.out _).mono ?_; rintro e w' ⟨rfl, b⟩; (first | (have k0 : w'.cell? ⟨w.heap.size, 0, none⟩ = some (.int .u8 (48 + (d : Int))) := cell_new1 5 b rfl; have r0 := RB _ _ k0; have C2 := Lib.hid b; clear b) | (have C2 := Lib.hid b; clear b)))
    all_goals
      have T2 := Lib.hid ha.out
      go_wp2
      go_ret
      exact ⟨by rw [← ha.out]; rfl, b_then (b_drew (Below.refl _ w)) (by first | exact C2.out | exact b_alloc C2.out _ | exact b_then (b_alloc (Below.refl _ _) _) C2.out)⟩
termination_by n
decreasing_by omega
end Go.Proofs.YtkkcihgnpephiaaDoor
