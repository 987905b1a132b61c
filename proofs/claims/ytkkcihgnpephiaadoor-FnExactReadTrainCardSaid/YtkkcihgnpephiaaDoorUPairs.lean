/-
  Pairs of wheels: how a slice of them lies in memory, and the walks of the functions of the laws that copy and compare them.
-/
import Derived.Test.YtkkcihgnpephiaaDoorBase
import Derived.Test.YtkkcihgnpephiaaDoorFs2
import Derived.Test.YtkkcihgnpephiaaDoorFlIn2
import Derived.Test.YtkkcihgnpephiaaDoorPairS
import Derived.Test.YtkkcihgnpephiaaDoorRows
import Derived.Test.YtkkcihgnpephiaaDoorNum
import Derived.WalkKit
import Derived.WalkLawsBesides
import Derived.OwnWalk
import Derived.Below
import Derived.Deep.Slices
import Derived.Deep.Fields
import Derived.Deep.MidRow
import Derived.Deep.Draws
import Derived.ChangeSame
import Derived.Laws.Cover2
import Derived.Laws.MakeOwn
import Derived.StillTailTactics
import Derived.Lib.Hide
import Derived.Outline
namespace Go.Proofs.YtkkcihgnpephiaaDoor
open Go.RowKit Go.ChangeShapes Go.WideShapes Go.Deep
set_option linter.unusedVariables false
theorem cells3 {w : World} {b o : Nat} {p : Px} (h : w.rangeAt b o p.cells) :
    w.cell? ⟨b, o, none⟩ = some (.int .i16 p.a) ∧ w.cell? ⟨b, o + 1, none⟩ = some (.int .i16 p.b) ∧ w.cell? ⟨b, o + 2, none⟩ = some (.float .f32 p.l) :=
  ⟨h 0 _ rfl, h 1 _ rfl, h 2 _ rfl⟩
theorem szTrain_any (A : Option Addr) (n c : Nat) (w : World) (hn : n ≤ maxLen) :
    Calls Tryd.prog 20 #[.slice A n c, .int .i64 1048576] w fun e w' => e = .returned (.int .i64 (if 1048576 < n then -1 else 1048576 - n)) ∧ w = w' := by
  unfold maxLen at hn
  by_cases h : 1048576 < n
  · rw [if_pos h]
    go_enter Tryd.func20, Tryd.ntmps20
    go_wp2
    go_ret
    exact ⟨rfl, rfl⟩
  · rw [if_neg h]
    go_enter Tryd.func20, Tryd.ntmps20
    go_wp2
    go_ret
    exact ⟨rfl, rfl⟩
theorem toPair_any (p : Px) (w : World) :
    Calls Tryd.prog 64 #[.agg #[.int .i16 p.a, .int .i16 p.b, .float .f32 p.l]] w fun e w' => e = .returned (.agg #[.int .i16 p.a, .int .i16 p.b, .float .f32 p.l]) ∧ Below w.heap.size w w' := by
  go_enter Tryd.func64, Tryd.ntmps64
  go_wp2
  refine bodyPost_ret (v := .agg #[.int .i16 p.a, .int .i16 p.b, .float .f32 p.l]) (by simp [results, Tryd.results64, go_sem]) rfl ⟨rfl, ?_⟩
  exact (((Below.refl _ _).alloc (Nat.le_refl _) _).alloc (by simp) _).alloc (by simp; omega) _
/-- A new slice that holds the pairs: it is the call's own, and may be written. -/
def Made (w w' : World) (n : Nat) (ps : List Px) : Prop :=
  w'.there w.heap.size 0 (n * 3) ∧ (∀ i p, ps[i]? = some p → w'.rangeAt w.heap.size (i * 3) p.cells) ∧ w.heap.size < w'.heap.size ∧ Below w.heap.size w w'
theorem one3 (p : Px) : (#[.int .i16 p.a, .int .i16 p.b, .float .f32 p.l] : Array Value).all (·.oneCell') = true := by simp [Value.oneCell']
theorem there3 {w : World} {b n k : Nat} (h : w.there b 0 (n * 3)) (hk : k < n) : w.there b (k * 3) 3 := fun j hj => by
  have := h (k * 3 + j) (by omega)
  rwa [Nat.zero_add] at this
theorem infoPair : (Tryd.prog.info? 93).map (fun i => (i.zero, i.size, i.bytes)) = some (some (.agg #[.int .i16 0, .int .i16 0, .float .f32 0]), 3, 8) := by kernel_rfl
set_option maxRecDepth 100000 in
theorem toTrain_any (A : Option Addr) (n c : Nat) (ps : List Px) (w : World) (hl : ps.length = n) (hn : n ≤ 1048576) (hT : Px.L w w.heap.size A ps) :
    Calls Tryd.prog 22 #[.slice A n c] w fun e w' => e = .returned (.slice (some ⟨w.heap.size, 0, none⟩) n n) ∧ Made w w' n ps := by
  obtain ⟨i0, hi, hz0, hz1, hz2⟩ := info_parts infoPair
  have hmk : ∀ wx, (Instr.makeSlice 34 (.int .i64 (n : Int)) (.int .i64 (n : Int))).run Tryd.prog wx = .ok (.slice (some ⟨wx.heap.size, 0, none⟩) n n) (wx.alloc (.cells (madeCells #[.int .i16 0, .int .i16 0, .float .f32 0] (n * 3)) 93)) := fun wx => by
    have := run_make (P := Tryd.prog) wx 34 93 i0 _ Tryd.underlying34 hi hz0 .i64 .i64 n n (by omega) (Int.le_refl _) (by rw [hz2]; omega) (by omega)
    simpa [hz1, Value.cells] using this
  have hsz : (madeCells #[.int .i16 0, .int .i16 0, .float .f32 0] (n * 3)).size = n * 3 := size_madeCells _ _
  have hth := there_new w (madeCells #[.int .i16 0, .int .i16 0, .float .f32 0] (n * 3)) 93
  rw [hsz] at hth
  generalize madeCells #[.int .i16 0, .int .i16 0, .float .f32 0] (n * 3) = row at *
  clear hsz hi hz0 hz1 hz2
  have Hth := Lib.hid hth; clear hth
  have Hl := Lib.hid hl; clear hl
  have HT := Lib.hid hT; clear hT
  go_enter Tryd.func22, Tryd.ntmps22
  go_wp2
  clear hmk
  go_loopw [4] (fun i wr => ∃ k : Nat, k ≤ n ∧ i = .int .i64 k ∧ wr.there w.heap.size 0 (n * 3) ∧ (∀ i p, i < k → ps[i]? = some p → wr.rangeAt w.heap.size (i * 3) p.cells) ∧ Below w.heap.size w wr ∧ w.heap.size < wr.heap.size) (fun i _ => n - (intOf i).toNat)
  case atStart => exact ⟨0, Nat.zero_le _, rfl, Hth.out, fun i p h => absurd h (by omega), (Below.refl _ _).alloc (Nat.le_refl _) _, by simp⟩
  case round =>
    obtain ⟨k, hk, rfl, hth, hr, hb, hs⟩ := hrel
    have Hr := Lib.hid hr; clear hr
    have Hh := Lib.hid hth; clear hth
    have Hb := Lib.hid hb; clear hb
    by_cases hlt : k < n
    · have hkl : k < ps.length := by have := Hl.out; omega
      obtain ⟨b, off, rfl, hbs, hc⟩ := HT.out (by omega)
      obtain ⟨p, hp⟩ : ∃ p, ps[k]? = some p := ⟨_, List.getElem?_eq_getElem hkl⟩
      have hrg := rangeAt_of_block (hc k p hp) (Hb.out.block b hbs)
      obtain ⟨c0, c1, c2⟩ := cells3 hrg
      clear hc hkl hrg
      have Hp := Lib.hid hp; clear hp
      go_wp2_with (first | (go_at_call 64; refine (toPair_any p _).mono ?_; rintro e w' ⟨rfl, hb2⟩; have hth2 := Lib.hid (there3 (there_of_block Hh.out (hb2.block w.heap.size hs)) hlt)) | (refine wpList_store_mid rfl 93 (.tmp 21) (.tmp 20) rfl w.heap.size (k * 3) #[.int .i16 p.a, .int .i16 p.b, .float .f32 p.l] rfl rfl hth2.out (by kernel_rfl) (one3 p) ?_))
      clear c0 c1 c2
      have Hth3 : Hid (w'.there w.heap.size 0 (n * 3)) := there_of_block Hh.out (hb2.block w.heap.size hs)
      have Hr3 : Hid (∀ (i : Nat) (p : Px), i < k → ps[i]? = some p → w'.rangeAt w.heap.size (i * 3) p.cells) := fun i p hi hp => rangeAt_of_block (Hr.out i p hi hp) (hb2.block w.heap.size hs)
      have hs3 : w.heap.size < w'.heap.size := Nat.lt_of_lt_of_le hs hb2.size
      have Hb3 : Hid (Below w.heap.size w w') := Hb.out.trans (hb2.mono (Nat.le_of_lt hs))
      go_roundw
      case rel =>
        refine ⟨k + 1, by omega, by go_num, World.there_setCells Hth3.out _ _ _, fun i q hi hq => ?_, below_setCells Hb3.out (Nat.le_refl _) _ _, by rw [size_setCells]; exact hs3⟩
        rcases (by omega : i < k ∨ i = k) with h | rfl
        · exact World.rangeAt_setCells_apart (Hr3.out i q h hq) _ _ _ (Or.inr (Or.inl (by simp [Px.cells]; omega)))
        · have hpq := Hp.out
          rw [hq] at hpq
          cases hpq
          exact World.rangeAt_setCells_same _ _ _ _ hth2.out
      case measure => simp [intOf]; omega
    · have hkn : k = n := by omega
      subst hkn
      clear HT
      go_wp2
      go_ret
      exact ⟨rfl, Hh.out, fun i p hp => Hr.out i p (by have := (List.getElem?_eq_some_iff.1 hp).1; have := Hl.out; omega) hp, hs, Hb.out⟩
end Go.Proofs.YtkkcihgnpephiaaDoor
