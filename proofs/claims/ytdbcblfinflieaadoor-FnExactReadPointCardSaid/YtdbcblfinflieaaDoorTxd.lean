/-
  The tables that texts read; numerals of base sixteen as the library writes them.
-/
import Derived.Test.YtdbcblfinflieaaDoorTxc
import Derived.Test.YtdbcblfinflieaaDoorSm
import Derived.Lib.LaidTab
import Derived.Lib.SmallJoins
import Derived.Laws.BytesArg
import Derived.Laws.IdiomStrings
import Derived.Laws.Closers25b
import Derived.Lib.Itoa
namespace Go.Proofs.YtdbcblfinflieaaDoor
open Go.RowKit Go.ChangeShapes Go.WideShapes Go.Deep
attribute [local go_sem ↓] Go.wp_at_zero Go.wp_at_succ
set_option linter.unusedVariables false
set_option linter.unusedSimpArgs false
set_option maxRecDepth 100000
theorem Blk.frozenT {w : World} {q : Nat} {cs : Array Value} {t : TypeId} (h : Blk w q cs t) (i : Nat) : w.frozen? ⟨q, i, none⟩ = false := by
  unfold World.frozen?
  rw [h]
  simp
theorem Blk.setOT {w : World} {q q' : Nat} {cs : Array Value} {t : TypeId} (h : Blk w q cs t) (hne : q ≠ q') (i : Nat) (v : Value) : Blk (w.setCell ⟨q', i, none⟩ v) q cs t := (Below.heap_setCell w ⟨q', i, none⟩ v q hne).trans h
theorem cell_lt {w : World} {g o : Nat} {v : Value} (h : w.cell? ⟨g, o, none⟩ = some v) : g < w.heap.size := by
  rcases Nat.lt_or_ge g w.heap.size with h1 | h1
  · exact h1
  · unfold World.cell? at h
    rw [Array.getElem?_eq_none h1] at h
    cases h
theorem cell_on {w W w' : World} {g o : Nat} {v : Value} (h : w.cell? ⟨g, o, none⟩ = some v) (hW : W.heap = w.heap) (b : Below W.heap.size W w') : w'.cell? ⟨g, o, none⟩ = some v := by
  have hl := cell_lt h
  rw [b.cell (p := ⟨g, o, none⟩) (by rw [hW]; exact hl)]
  unfold World.cell? at h ⊢
  rw [hW]
  exact h
/-- The tables that writing a text reads. -/
structure TbAt (w : World) : Prop where
  db : w.cell? ⟨9, 15, none⟩ = some (.int .u8 4)
  pw : Lib.TabIs Tryd.prog w "internal/strconv.uint64pow10" .u64 Lib.pow10Tab
theorem pw_named : Tryd.prog.globalNamed "internal/strconv.uint64pow10" = some 7 := by kernel_rfl
theorem TbAt.on {w W w' : World} (h : TbAt w) (hW : W.heap = w.heap) (b : Below W.heap.size W w') : TbAt w' := by
  refine ⟨cell_on h.db hW b, ?_⟩
  have hp := h.pw
  have hl := cell_lt (hp.cell pw_named 0 (by decide))
  unfold Lib.TabIs World.var? at hp ⊢
  rw [pw_named] at hp ⊢
  simp only [Option.bind_some] at hp ⊢
  rw [b.block _ (by rw [hW]; exact hl), hW]
  exact hp
theorem TbAt.below {w w' : World} (h : TbAt w) (b : Below w.heap.size w w') : TbAt w' := h.on rfl b
set_option maxHeartbeats 1000000 in
theorem tz_sixteen (w : World) (hT : TbAt w) : Calls Tryd.prog 117 #[.int .u64 16] w fun e w' => e = .returned (.int .i64 4) ∧ w = w' := by
  have hc := hT.db
  have key : IntKind.u64.wrap (bits BinOp.and IntKind.u64 16 (IntKind.u64.wrap (-16)) * 285870213051353865) / 288230376151711744 = 15 := by decide +kernel
  clear hT
  go_enter Tryd.func117, Tryd.ntmps117
  go_wp2_with (first | (simp only [key]) | go_in)
  go_ret
  exact ⟨rfl, rfl⟩
theorem two_sixteen (w : World) : Calls Tryd.prog 116 #[.int .i64 16] w fun e w' => e = .returned (.bool true) ∧ w = w' := by
  have key : bits BinOp.and IntKind.i64 16 15 = 0 := by decide +kernel
  go_enter Tryd.func116, Tryd.ntmps116
  go_wp2_with (simp only [key])
  go_ret
  exact ⟨rfl, rfl⟩
end Go.Proofs.YtdbcblfinflieaaDoor
