/-
  The source that draws numbers out of bytes.
-/
import Derived.Test.YtjkgiknklkfipaaBy
import Derived.BigQuiet
import Derived.Laws.BitsAllLaws
namespace Go.Proofs.Ytjkgiknklkfipaa
open Go.RowKit Go.ChangeShapes Go.WideShapes Go.Deep
attribute [local go_sem ↓] Go.wp_at_zero Go.wp_at_succ
set_option linter.unusedVariables false
set_option linter.unusedSimpArgs false
set_option maxRecDepth 100000
/-- All blocks but q keep; nothing is written out. -/
def Kp (q : Nat) (w w' : World) : Prop := Below 0 w w' ∧ w.heap.size ≤ w'.heap.size ∧ ∀ k, k < w.heap.size → k ≠ q → w'.heap[k]? = w.heap[k]?
theorem Kp.refl (q : Nat) (w : World) : Kp q w w := ⟨Below.refl _ _, Nat.le_refl _, fun _ _ _ => rfl⟩
theorem Kp.trans {q : Nat} {a b c : World} (h : Kp q a b) (k : Kp q b c) : Kp q a c :=
  ⟨h.1.trans (k.1.mono (Nat.zero_le _)), Nat.le_trans h.2.1 k.2.1, fun i hi hq => (k.2.2 i (Nat.lt_of_lt_of_le hi h.2.1) hq).trans (h.2.2 i hi hq)⟩
theorem Kp.of {q : Nat} {w w' : World} (h : Below w.heap.size w w') : Kp q w w' := ⟨h.mono (Nat.zero_le _), h.size, fun k hk _ => h.block k hk⟩
theorem Kp.below {q B : Nat} {w w' : World} (h : Kp q w w') (hq : B ≤ q) (hB : B ≤ w.heap.size) : Below B w w' := ⟨h.1.os, h.1.tape, h.1.output, h.2.1, fun k hk => h.2.2 k (Nat.lt_of_lt_of_le hk hB) (by omega)⟩
theorem Kp.drewN {q : Nat} {a w : World} (h : Kp q a w) (n : Nat) : Kp q a (w.drewN n) := h.trans (Kp.of (b_drewN (Below.refl _ _) n))
theorem Kp.drew {q : Nat} {a w : World} (h : Kp q a w) : Kp q a w.drew := h.trans (Kp.of (b_drew (Below.refl _ _)))
theorem Kp.set {q : Nat} {a w : World} (h : Kp q a w) (i : Nat) (v : Value) : Kp q a (w.setCell ⟨q, i, none⟩ v) :=
  h.trans ⟨b_set (Below.refl _ _) (Nat.zero_le _) _ _, by simp, fun k hk hq => Below.heap_setCell w ⟨q, i, none⟩ v k hq⟩
/-- How the source lies. -/
def Src (w : World) (q B : Nat) (A : Option Addr) (n c p : Nat) (zs : List Int) : Prop :=
  ∃ sd : Int, Blk w q #[.slice A n c, .int .i64 (p : Int), .int .u64 sd] 108 ∧ By w B A zs ∧ zs.length = n ∧ B ≤ q ∧ n ≤ c ∧ c ≤ maxLen ∧ (∀ z ∈ zs, U8 z)
theorem bk_frozen {w : World} {q : Nat} {cs : Array Value} {t : TypeId} (h : Blk w q cs t) (i : Nat) : w.frozen? ⟨q, i, none⟩ = false := by
  unfold World.frozen?
  rw [h]
  simp
theorem low_byte (s : Int) (h : 0 ≤ s) (h' : s < 18446744073709551616) : 0 ≤ wrap64 (bits .and .u64 s 255) ∧ wrap64 (bits .and .u64 s 255) < 256 := by
  rw [u64_and s 255 h h' (by omega) (by omega)]
  have h1 : (s.toNat &&& (255 : Int).toNat) ≤ 255 := Nat.and_le_right
  rw [IntWalk.wrap64_in _ (by omega)]
  omega
theorem u64_sh (s : Int) : 0 ≤ IntKind.u64.wrap s / 1099511627776 ∧ IntKind.u64.wrap s / 1099511627776 < 18446744073709551616 := by
  have h : IntKind.u64.wrap s = s % 18446744073709551616 := by simp [IntKind.wrap, IntKind.bits, IntKind.signed]
  rw [h]
  omega
theorem byte_i64 {z : Int} (h : U8 z) : IntKind.i64.wrap z = z := IntWalk.i64_in _ (by have := h.1; have := h.2; omega)
theorem next_any {w : World} {q B : Nat} {A : Option Addr} {n c p : Nat} {zs : List Int} (h : Src w q B A n c p zs) (hp : p ≤ 1000000) :
    Calls Try.prog 104 #[.pointer (some ⟨q, 0, none⟩)] w fun e w' => ∃ x : Int, 0 ≤ x ∧ x < 256 ∧ e = .returned (.int .i64 x) ∧ Src w' q B A n c (p + 1) zs ∧ Kp q w w' := by
  obtain ⟨sd, k, hb, hl, hB, hn, hc, hz⟩ := h
  have K := Lib.hid k
  have HB := Lib.hid hb
  have HZ := Lib.hid hz
  have HL := Lib.hid hl
  have HQ := Lib.hid hB
  have HC := Lib.hid hc
  have c0 := k.cell 0; have c1 := k.cell 1; have c2 := k.cell 2
  simp at c0 c1 c2
  have z0 := bk_frozen k 0; have z1 := bk_frozen k 1; have z2 := bk_frozen k 2
  have g0 : IntKind.i64.wrap ((p : Int) + 1) = (p : Int) + 1 := IntWalk.i64_in _ (by omega)
  clear hz hl hB hc hb k
  go_enter Try.func104, Try.ntmps104
  by_cases hpn : p < n
  · obtain ⟨b, off, rfl, hbs, hcs⟩ := HB.out (by have := HL.out; omega)
    obtain ⟨z, hz⟩ : ∃ z, zs[p]? = some z := ⟨_, List.getElem?_eq_getElem (by have := HL.out; omega)⟩
    have d0 : w.cell? ⟨b, off + p, none⟩ = some (.int .u8 z) := hcs p z hz
    have hu := HZ.out z (List.mem_of_getElem? hz)
    have HU := Lib.hid hu
    have w0 := byte_i64 hu
    have y0 : (0 : Int) ≤ (p : Int) := by omega
    have y1 : (p : Int) < (n : Int) := by omega
    have y2 : (p : Int) + 1 ≤ (n : Int) := by omega
    clear hz hcs hu hbs
    go_wp2
    go_quiet (fail)
    go_wp2
    go_quiet (fail)
    go_wp2
    go_quiet (fail)
    go_wp2
    go_ret
    have := HU.out.1; have := HU.out.2
    exact ⟨z, by omega, by omega, rfl, ⟨_, Blk.draws ((Blk.set (Blk.set (Blk.draws K.out _) 1 _) 2 _)) _, HB.out.below (b_drewN (b_set (b_set (b_drewN (Below.refl _ _) _) HQ.out _ _) HQ.out _ _) _) (Nat.le_refl _), HL.out, HQ.out, hn, HC.out, HZ.out⟩, by (repeat (first | exact Kp.refl _ _ | refine Kp.drewN ?_ _ | refine Kp.drew ?_ | refine Kp.set ?_ _ _ | assumption))⟩
  · have y1 : ¬ (p : Int) < (n : Int) := by omega
    have y2 : ¬ (p : Int) + 1 ≤ (n : Int) := by omega
    go_wp2
    go_quiet (fail)
    go_wp2
    go_quiet (fail)
    go_wp2
    go_ret
    obtain ⟨u1, u2⟩ := low_byte _ (u64_sh _).1 (u64_sh _).2
    exact ⟨_, u1, u2, rfl, ⟨_, Blk.draws ((Blk.set (Blk.set (Blk.draws K.out _) 1 _) 2 _)) _, HB.out.below (b_drewN (b_set (b_set (b_drewN (Below.refl _ _) _) HQ.out _ _) HQ.out _ _) _) (Nat.le_refl _), HL.out, HQ.out, hn, HC.out, HZ.out⟩, by (repeat (first | exact Kp.refl _ _ | refine Kp.drewN ?_ _ | refine Kp.drew ?_ | refine Kp.set ?_ _ _ | assumption))⟩
end Go.Proofs.Ytjkgiknklkfipaa
