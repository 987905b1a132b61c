/-
  A slice of the laws' pairs that came in, opened: its pairs.
-/
import Derived.Test.YtkkcihgnpephiaaDoorUPairs
import Derived.ChangeArms
import Derived.Deep.Slices
namespace Go.Proofs.YtkkcihgnpephiaaDoor
open Go.RowKit Go.ChangeShapes Go.WideShapes Go.Deep
set_option linter.unusedVariables false
section
variable {H : Type} {enc : TypeId × Value → H} {w : World} {base : Nat} {spare : Nat → Bool} {held : Bool}
theorem trod_float32 {P : Program} {t : TypeId} {fuel : Nat} {cs : List Value} {x : DataW H × List MemPlace} (ht : P.underlying t = some (.float .f32)) (h : DataW.trod enc P w base spare held fuel t cs = some x) :
    ∃ b, cs = [.float .f32 b] ∧ (Lit.float .f32 b).wf = true := by
  cases fuel with
  | zero => simp [DataW.trod] at h
  | succ n =>
    unfold DataW.trod at h
    rw [ht] at h
    split at h <;> simp_all
theorem three_of {α : Type} {l : List α} (h : l.length = 3) : ∃ a b c, l = [a, b, c] := by
  match l, h with
  | [a, b, c], _ => exact ⟨a, b, c, rfl⟩
theorem lt_of_wf32 {b : Nat} (h : (Lit.float .f32 b).wf = true) : b < 4294967296 := by simpa [Lit.wf] using h
theorem i16_of_wf {n : Int} (h : (Lit.int .i16 n).wf = true) : -32768 ≤ n ∧ n ≤ 32767 := by
  simpa [Lit.wf, IntKind.min, IntKind.max, IntKind.signed, IntKind.bits] using h
instance : Inhabited Px := ⟨⟨0, 0, 0⟩⟩
theorem pair_cells {fuel : Nat} {cs : List Value} {x : DataW H × List MemPlace} (h : DataW.trod enc Tryd.prog w base spare held fuel 95 cs = some x) : ∃ p : Px, cs = p.cells ∧ p.wf := by
  obtain ⟨xs, n, _, _, hlen, hxl, hf⟩ := DataW.trod_struct Tryd.underlying95 h
  have hC : Tryd.prog.cellsOf 95 = 3 := by kernel_rfl
  have c1 : Tryd.prog.cellsOf 91 = 1 := by kernel_rfl
  have c2 : Tryd.prog.cellsOf 22 = 1 := by kernel_rfl
  rw [hC] at hlen
  obtain ⟨v0, v1, v2, rfl⟩ := three_of hlen
  obtain ⟨y0, y1, y2, rfl⟩ := three_of (show xs.length = 3 from hxl)
  have f0 : DataW.trod enc Tryd.prog w base spare held n 91 (([v0, v1, v2].drop 0).take (Tryd.prog.cellsOf 91)) = some y0 := hf 0 _ rfl
  have f1 : DataW.trod enc Tryd.prog w base spare held n 91 (([v0, v1, v2].drop 1).take (Tryd.prog.cellsOf 91)) = some y1 := hf 1 _ rfl
  have f2 : DataW.trod enc Tryd.prog w base spare held n 22 (([v0, v1, v2].drop 2).take (Tryd.prog.cellsOf 22)) = some y2 := hf 2 _ rfl
  rw [c1] at f0 f1
  rw [c2] at f2
  obtain ⟨a, e0, _, wa⟩ := DataW.trod_int Tryd.underlying91 f0
  obtain ⟨b, e1, _, wb⟩ := DataW.trod_int Tryd.underlying91 f1
  obtain ⟨l, e2, wl⟩ := trod_float32 Tryd.underlying22 f2
  obtain rfl : v0 = .int .i16 a := List.head_eq_of_cons_eq e0
  obtain rfl : v1 = .int .i16 b := List.head_eq_of_cons_eq e1
  obtain rfl : v2 = .float .f32 l := List.head_eq_of_cons_eq e2
  exact ⟨⟨a, b, l⟩, rfl, i16_of_wf wa, i16_of_wf wb, lt_of_wf32 wl⟩
theorem pairs_in {A : Option Addr} {n c : Nat} {d : DataW H} {p : List MemPlace} (lt : ∀ x ∈ p, x.block < w.heap.size) (h : DataW.Trod enc Tryd.prog w 0 (fun _ => true) true 30 (.slice A n c) d p) : ∃ ps, Px.In w A n c ps := by
  obtain ⟨fuel, hf⟩ := h
  rcases open_slice Tryd.underlying30 hf with ⟨hcs, _⟩ | ⟨a, len, cap, m, k, D, Pl, hcs, _, hl, hm, hmm, hx, hi⟩
  · simp [Value.cells] at hcs
    obtain ⟨rfl, rfl, rfl⟩ := hcs
    exact ⟨[], rfl, Nat.le_refl _, Nat.zero_le _, fun h => absurd h (by simp), fun p hp => by cases hp⟩
  · simp [Value.cells] at hcs
    obtain ⟨rfl, rfl, rfl⟩ := hcs
    have hC : Tryd.prog.cellsOf 95 = 3 := by kernel_rfl
    rw [hC] at hi hx
    have hmn : n ≤ m := by rw [hmm]; simpa using hl
    obtain ⟨V, hV⟩ := choose_lt (α := Px) (n := n) (p := fun i p => p.wf ∧ ∀ j v, p.cells[j]? = some v → w.cell? ((a.add (i * 3)).add j) = some v) (fun i hin => by
      obtain ⟨cs', h1, h2⟩ := hi i (by omega)
      obtain ⟨q, rfl, hq⟩ := pair_cells h2
      obtain ⟨_, h3, h4⟩ := World.cells?_some h1
      refine ⟨q, hq, fun j v hv => ?_⟩
      have hj : j < 3 := by
        have := (List.getElem?_eq_some_iff.1 hv).1
        simpa [Px.cells] using this
      rw [h4 j hj]
      exact hv)
    refine ⟨(List.range n).map V, by simp, hl, hm, ?_, ?_⟩
    · intro h0
      have hn : 0 < n := by simpa using h0
      obtain ⟨b, off, spot⟩ := a
      have hc0 := (hV 0 hn).2 0 _ rfl
      have hc0' : w.cell? ⟨b, off, spot⟩ = some (.int .i16 (V 0).a) := by simpa [Addr.add] using hc0
      have hspot : spot = none := by simpa using World.cell?_spot hc0'
      subst hspot
      refine ⟨b, off, rfl, ?_, ?_⟩
      · have := block_lt_of_cell hc0'
        exact this
      · intro i q hq j v hv
        obtain ⟨hil, e⟩ := List.getElem?_eq_some_iff.1 hq
        simp at hil e
        subst e
        have := (hV i hil).2 j v hv
        rwa [Addr.add_mid, Addr.add_mid] at this
    · intro q hq
      simp at hq
      obtain ⟨i, hin, rfl⟩ := hq
      exact (hV i hin).1
end
end Go.Proofs.YtkkcihgnpephiaaDoor
