/-
  The laws' marks on trains, and what they find of them.
-/
import Derived.Test.YtkkcihgnpephiaaDoorPairS
namespace Go.Proofs.YtkkcihgnpephiaaDoor
open Go.RowKit Go.ChangeShapes Go.WideShapes Go.Deep
set_option linter.unusedVariables false
set_option linter.unusedSimpArgs false
theorem thereT {w : World} {b n k : Nat} (h : w.there b 0 (n * 3)) (hk : k < n) : w.there b (k * 3) 3 := fun j hj => by
  have := h (k * 3 + j) (by omega)
  rwa [Nat.zero_add] at this
/-- What the mark leaves on a train of n pairs. -/
def MkT (w : World) (A : Option Addr) (n : Nat) : Prop := 0 < n → ∃ b, A = some ⟨b, 0, none⟩ ∧ b < w.heap.size ∧ ∀ i : Nat, i < n → w.rangeAt b (i * 3) [.int .i16 (1 + 3 * i), .int .i16 (1 + 3 * i + 1), .float .f32 (floatOfInt .f32 (1 + 3 * i + 1 + 1))]
theorem MkT.keep {w w' : World} {A : Option Addr} {n : Nat} (h : MkT w A n) (hb : Below w.heap.size w w') : MkT w' A n := fun h0 => by
  obtain ⟨b, e, hlt, hc⟩ := h h0
  exact ⟨b, e, Nat.lt_of_lt_of_le hlt hb.size, fun i hi => rangeAt_of_block (hc i hi) (hb.block b hlt)⟩
theorem setCells3 (w : World) (b o : Nat) (x y z : Value) : ((w.setCells b o [x]).setCells b (o + 1) [y]).setCells b (o + 2) [z] = w.setCells b o [x, y, z] := rfl
set_option maxRecDepth 100000 in
theorem markTrR_any (A : Option Addr) (n c : Nat) (w : World) (hn : n ≤ 8) (hth : 0 < n → ∃ b, A = some ⟨b, 0, none⟩ ∧ b < w.heap.size ∧ w.there b 0 (n * 3)) :
    Calls Tryd.prog 27 #[.slice A n c, .int .i64 1] w fun e w' => e = .returned (.int .i64 (1 + 3 * n)) ∧ MB A w w' ∧ MkT w' A n := by
  have Hth := Lib.hid hth; clear hth
  go_enter Tryd.func27, Tryd.ntmps27
  go_wp2
  go_loopw [1, 5] (fun q i wr => ∃ k : Nat, k ≤ n ∧ q = .int .i64 (1 + 3 * k) ∧ i = .int .i64 k ∧ MB A w wr ∧ (0 < n → ∃ b, A = some ⟨b, 0, none⟩ ∧ wr.there b 0 (n * 3)) ∧ MkT wr A k) (fun _ i _ => n - (intOf i).toNat)
  case atStart =>
    refine ⟨0, Nat.zero_le _, by simp, rfl, MB.refl _ _, fun h0 => ?_, fun h => absurd h (by omega)⟩
    obtain ⟨b, e, _, h⟩ := Hth.out h0
    exact ⟨b, e, h⟩
  case round =>
    obtain ⟨k, hkn, rfl, rfl, hm, hth2, hmk⟩ := hrel
    have Hm := Lib.hid hm; clear hm
    have Ht := Lib.hid hth2; clear hth2
    have Hk := Lib.hid hmk; clear hmk
    by_cases hlt : k < n
    · obtain ⟨b, rfl, ht⟩ := Ht.out (by omega)
      obtain ⟨b', e', hbl, _⟩ := Hth.out (by omega)
      cases e'
      obtain ⟨e0, z0⟩ := ht (k * 3) (by omega)
      obtain ⟨e1, z1⟩ := ht (k * 3 + 1) (by omega)
      obtain ⟨e2, z2⟩ := ht (k * 3 + 2) (by omega)
      rw [Nat.zero_add] at e0 z0 e1 z1 e2 z2
      obtain ⟨v0, c0⟩ := Option.isSome_iff_exists.1 e0
      obtain ⟨v1, c1⟩ := Option.isSome_iff_exists.1 e1
      obtain ⟨v2, c2⟩ := Option.isSome_iff_exists.1 e2
      clear e0 e1 e2
      have HT := Lib.hid ht; clear ht
      have w0 := i16_small (1 + 3 * (k : Int)) (by omega) (by omega)
      have w1 := i16_small (1 + 3 * (k : Int) + 1) (by omega) (by omega)
      go_wp2
      clear c0 c1 c2 z0 z1 z2
      go_roundw
      case rel => 
        refine ⟨k + 1, by omega, by go_num, by go_num, ((Hm.out.set (k * 3) [_]).set (k * 3 + 1) [_]).set (k * 3 + 2) [_], fun _ => ⟨b, rfl, World.there_setCells (World.there_setCells (World.there_setCells HT.out b (k * 3) [_]) b (k * 3 + 1) [_]) b (k * 3 + 2) [_]⟩, fun _ => ⟨b, rfl, ?_, fun i hi => ?_⟩⟩
        · have h1 := Hm.out.1
          simpa [World.setCell, World.setCells, h1] using hbl
        · rcases (by omega : i < k ∨ i = k) with h | rfl
          · obtain ⟨b2, e2, _, h2⟩ := Hk.out (by omega)
            cases e2
            exact World.rangeAt_setCells_apart (h2 i h) b (k * 3) [_, _, _] (Or.inr (Or.inl (by simp; omega)))
          · exact World.rangeAt_setCells_same _ b (i * 3) [_, _, _] (thereT HT.out hlt)
      case measure => simp [intOf]; omega
    · have hkn' : k = n := by omega
      subst hkn'
      go_wp2
      go_ret
      exact ⟨rfl, Hm.out, Hk.out⟩
set_option maxRecDepth 100000 in
theorem heldTrR_any (A : Option Addr) (n c : Nat) (w : World) (hn : n ≤ 8) (hmk : MkT w A n) :
    Calls Tryd.prog 28 #[.slice A n c, .int .i64 1] w fun e w' => e = .returned (.int .i64 (1 + 3 * n)) ∧ Below w.heap.size w w' := by
  have Hk := Lib.hid hmk; clear hmk
  go_enter Tryd.func28, Tryd.ntmps28
  go_wp2
  go_loopw [1, 5] (fun q i wr => ∃ k : Nat, k ≤ n ∧ q = .int .i64 (1 + 3 * k) ∧ i = .int .i64 k ∧ Below w.heap.size w wr) (fun _ i _ => n - (intOf i).toNat)
  case atStart => exact ⟨0, Nat.zero_le _, by simp, rfl, Below.refl _ _⟩
  case round =>
    obtain ⟨k, hkn, rfl, rfl, hb⟩ := hrel
    have Hb := Lib.hid hb; clear hb
    by_cases hlt : k < n
    · obtain ⟨b, rfl, hbl, hcs⟩ := Hk.out (by omega)
      have hr := rangeAt_of_block (hcs k hlt) (Hb.out.block b hbl)
      have c0 : wr.cell? ⟨b, k * 3, none⟩ = some (.int .i16 (1 + 3 * (k : Int))) := hr 0 _ rfl
      have c1 : wr.cell? ⟨b, k * 3 + 1, none⟩ = some (.int .i16 (1 + 3 * (k : Int) + 1)) := hr 1 _ rfl
      have c2 : wr.cell? ⟨b, k * 3 + 2, none⟩ = some (.float .f32 (floatOfInt .f32 (1 + 3 * (k : Int) + 1 + 1))) := hr 2 _ rfl
      clear hcs hr
      have w0 := i16_small (1 + 3 * (k : Int)) (by omega) (by omega)
      have w1 := i16_small (1 + 3 * (k : Int) + 1) (by omega) (by omega)
      have ho : FloatKind.f32.format.order (floatOfInt .f32 (1 + 3 * (k : Int) + 1 + 1)) (floatOfInt .f32 (1 + 3 * (k : Int) + 1 + 1)) = some .eq := ord_fint _
      go_wp2
      go_roundw
      case rel => exact ⟨k + 1, by omega, by go_num, by go_num, Hb.out⟩
      case measure => simp [intOf]; omega
    · have hkn' : k = n := by omega
      subst hkn'
      go_wp2
      go_ret
      exact ⟨rfl, Hb.out⟩
end Go.Proofs.YtkkcihgnpephiaaDoor
