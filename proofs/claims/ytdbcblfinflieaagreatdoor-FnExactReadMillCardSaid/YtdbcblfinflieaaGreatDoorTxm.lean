/-
  The program's cut of a text; several numbers read at once.
-/
import Derived.Test.YtdbcblfinflieaaGreatDoorTxl
import Derived.Laws.MakeOwn
namespace Go.Proofs.YtdbcblfinflieaaGreatDoor
open Go.RowKit Go.ChangeShapes Go.WideShapes Go.Deep
attribute [local go_sem ↓] Go.wp_at_zero Go.wp_at_succ
set_option linter.unusedVariables false
set_option linter.unusedSimpArgs false
set_option maxRecDepth 100000
/-- The library's bound for its quick search is some integer. -/
def TmAt (w : World) : Prop := ∃ m : Int, w.cell? ⟨8, 0, none⟩ = some (.int .i64 m)
theorem TmAt.below {w w' : World} (h : TmAt w) (b : Below w.heap.size w w') : TmAt w' := by
  obtain ⟨m, hm⟩ := h
  exact ⟨m, cell_on hm rfl b⟩
theorem splitN_any (t : ByteArray) (b : UInt8) (n : Nat) (hn : 1 ≤ n) (hn2 : n ≤ 100) (hs : t.size ≤ 1048576) (w : World) (hM : TmAt w) : Calls Tryz.prog 18 #[.string t, .string ⟨#[b]⟩, .int .i64 n] w (RS (Lib.splitN t.data.toList [b] n) w) := by
  obtain ⟨m, hm⟩ := hM
  refine (Tryz.strings_SplitN t ⟨#[b]⟩ n m w (by omega) hm (by show 1 ≤ 1; omega) hn (by omega)).mono ?_
  rintro e w' ⟨rfl, rfl⟩
  have hd := Lib.splitB_data ⟨#[b]⟩ 0 (min n (t.size + 1) - 1) t
  have hl := Lib.splitB_length_le ⟨#[b]⟩ 0 (min n (t.size + 1) - 1) t
  have e1 : Lib.splitN t.data.toList [b] n = (Lib.splitB ⟨#[b]⟩ 0 (min n (t.size + 1) - 1) t).map (·.data.toList) := by
    rw [hd, Lib.splitN, ← Lib.size_eq]
  generalize Lib.splitB ⟨#[b]⟩ 0 (min n (t.size + 1) - 1) t = ps at *
  obtain ⟨N, hN⟩ : ∃ N, N = min n (t.size + 1) := ⟨_, rfl⟩
  rw [← hN] at hl ⊢
  have hN1 : 1 ≤ N := by omega
  have hN2 : N ≤ 100 := by omega
  refine ⟨_, rfl, ⟨w.heap.size, 0, N, by rw [e1, List.length_map], by simp, by rw [e1, List.length_map]; omega, by unfold maxLen; omega, fun j x hx => ?_⟩, b_alloc (Below.refl _ _) _⟩
  rw [Nat.zero_add, cell_of_row _ _ j _ _ _ (heap_alloc_new w _)]
  rw [e1, List.getElem?_map] at hx
  obtain ⟨y, hy, rfl⟩ := Option.map_eq_some_iff.1 hx
  have hj : j < ps.length := (List.getElem?_eq_some_iff.1 hy).1
  unfold Lib.cellsOf strV
  rw [bsOf_of]
  simp [List.getElem?_append, hj]
  exact (List.getElem?_eq_some_iff.1 hy).2
/-- All texts are texts of numbers. -/
def okAll (l : List (List UInt8)) : Bool := l.all fun x => (rdN x).isSome
def rdV (l : List (List UInt8)) : List Nat := l.map fun x => rnV (rdN x)
theorem okAll_take_succ {l : List (List UInt8)} {k : Nat} {x : List UInt8} (h : okAll (l.take k) = true) (hx : l[k]? = some x) (hr : (rdN x).isSome = true) : okAll (l.take (k + 1)) = true := by
  unfold okAll at *
  rw [List.take_add_one, hx, List.all_append, h]
  simp [hr]
theorem okAll_bad {l : List (List UInt8)} {k : Nat} {x : List UInt8} (hx : l[k]? = some x) (hr : rdN x = none) : okAll l = false := by
  unfold okAll
  rw [List.all_eq_false]
  exact ⟨x, List.mem_of_getElem? hx, by rw [hr]; decide⟩
theorem rdV_take_succ {l : List (List UInt8)} {k : Nat} {x : List UInt8} (hx : l[k]? = some x) : rdV (l.take (k + 1)) = rdV (l.take k) ++ [rnV (rdN x)] := by
  unfold rdV
  rw [List.take_add_one, hx, List.map_append]
  rfl
end Go.Proofs.YtdbcblfinflieaaGreatDoor
