/-
  Words for slices in memory, whatever they hold: blocks that stand, rows of one's own, the laws' marks, what came in.
-/
import Derived.Test.YtjkgiknklkfipaaOps
import Derived.ChangeArms
import Derived.ChangeSame
import Derived.Deep.Slices
import Derived.Deep.AppendLies
import Derived.Deep.MidRow
import Derived.Deep.RegionLaw
import Derived.Deep.RegionLawGrows
import Derived.Laws.OwnMore
import Derived.Laws.MakeOwn
import Derived.ArgAppend
import Derived.Lib.SmallJoins
namespace Go.Proofs.Ytjkgiknklkfipaa
open Go.RowKit Go.ChangeShapes Go.WideShapes Go.Deep Go.Joins
set_option linter.unusedVariables false
set_option linter.unusedSimpArgs false
theorem rangeAt_of_block {w w' : World} {b o : Nat} {cs : List Value} (h : w.rangeAt b o cs) (hb : w'.heap[b]? = w.heap[b]?) : w'.rangeAt b o cs :=
  fun j v hv => (World.cell?_of_block (a := ⟨b, o + j, none⟩) hb).trans (h j v hv)
theorem there_of_block {w w' : World} {b o n : Nat} (h : w.there b o n) (hb : w'.heap[b]? = w.heap[b]?) : w'.there b o n := fun j hj => by
  obtain ⟨h1, h2⟩ := h j hj
  refine ⟨by rw [World.cell?_of_block (a := ⟨b, o + j, none⟩) hb]; exact h1, ?_⟩
  unfold World.frozen? at h2 ⊢
  rw [hb]
  exact h2
theorem there_new (w : World) (cs : Array Value) (t : TypeId) : (w.alloc (.cells cs t)).there w.heap.size 0 cs.size := fun j hj => by
  have hb : (w.alloc (.cells cs t)).heap[w.heap.size]? = some (.cells cs t (0, 0)) := heap_alloc_new w _
  rw [Nat.zero_add]
  refine ⟨?_, ?_⟩
  · rw [cell_of_row _ _ j _ _ _ hb]
    simp [hj]
  · unfold World.frozen?
    rw [hb]
    simp
theorem below_setCells {B : Nat} {a w : World} (h : Below B a w) {b : Nat} (hp : B ≤ b) (vs : List Value) : ∀ o, Below B a (w.setCells b o vs) := by
  induction vs generalizing w with
  | nil => intro o; exact h
  | cons v vs ih => intro o; exact ih (h.setCell (p := ⟨b, o, none⟩) hp v) (o + 1)
theorem size_setCells (b : Nat) (vs : List Value) : ∀ (w : World) (o : Nat), (w.setCells b o vs).heap.size = w.heap.size := by
  induction vs with
  | nil => intro w o; rfl
  | cons v vs ih => intro w o; rw [World.setCells, ih]; simp [World.setCell]
theorem block_setCells (b k : Nat) (h : b ≠ k) (vs : List Value) : ∀ (w : World) (o : Nat), (w.setCells b o vs).heap[k]? = w.heap[k]? := by
  induction vs with
  | nil => intro w o; rfl
  | cons v vs ih => intro w o; rw [World.setCells, ih]; exact Below.heap_setCell _ _ _ _ (Ne.symm h)
/-- Nothing has turned but the block that A names. -/
def MB (A : Option Addr) (w w' : World) : Prop := w'.heap.size = w.heap.size ∧ (∀ k, (∀ a, A = some a → a.block ≠ k) → w'.heap[k]? = w.heap[k]?) ∧ ∀ B, (∀ a, A = some a → B ≤ a.block) → Below B w w'
theorem MB.refl (A : Option Addr) (w : World) : MB A w w := ⟨rfl, fun _ _ => rfl, fun _ _ => Below.refl _ _⟩
theorem MB.set {b : Nat} {w w' : World} (h : MB (some ⟨b, 0, none⟩) w w') (o : Nat) (vs : List Value) : MB (some ⟨b, 0, none⟩) w (w'.setCells b o vs) :=
  ⟨(size_setCells b vs w' o).trans h.1, fun k hk => (block_setCells b k (hk _ rfl) vs w' o).trans (h.2.1 k hk), fun B hB => below_setCells (h.2.2 B hB) (hB _ rfl) vs o⟩
theorem MB.cell {b : Nat} {w w' : World} (h : MB (some ⟨b, 0, none⟩) w w') (o : Nat) (v : Value) : MB (some ⟨b, 0, none⟩) w (w'.setCell ⟨b, o, none⟩ v) := h.set o [v]
theorem there_cell {w : World} {b' o' n : Nat} (h : w.there b' o' n) (b o : Nat) (v : Value) : (w.setCell ⟨b, o, none⟩ v).there b' o' n := World.there_setCells h b o [v]
theorem own_base {w : World} {base : Nat} {e : TypeId} {size : Nat} {v : Value} {n : Nat} {xs : List Value} (h : w.ownsRow base e size v n xs) : ∀ k, v.ownBlock = some k → base ≤ k ∧ k < w.heap.size := fun k hk => by
  rcases h.2 with ⟨rfl, _⟩ | ⟨g, cap, cur, rfl, hb, hg, _⟩
  · cases hk
  · cases hk
    refine ⟨hb, ?_⟩
    rcases Nat.lt_or_ge g w.heap.size with hlt | hge
    · exact hlt
    · rw [Array.getElem?_eq_none hge] at hg; cases hg
theorem own_heap {w w' : World} {base : Nat} {e : TypeId} {size : Nat} {v : Value} {n : Nat} {xs : List Value} (hh : w'.heap = w.heap) (h : w.ownsRow base e size v n xs) : w'.ownsRow base e size v n xs := by
  unfold World.ownsRow at *
  rw [hh]
  exact h
theorem own_empty (w : World) (base : Nat) (e : TypeId) (size : Nat) (hb : base ≤ w.heap.size) : (w.alloc (.cells #[] e)).ownsRow base e size (.slice (some ⟨w.heap.size, 0, none⟩) 0 0) 0 [] :=
  ⟨by simp, .inr ⟨w.heap.size, 0, #[], rfl, hb, heap_alloc_new w _, Nat.le_refl _, Nat.zero_le _, by simp, by simp⟩⟩
theorem own_emptyS {W : World} {s base : Nat} (h : W.heap.size = s) (e : TypeId) (size : Nat) (hb : base ≤ s) : (W.alloc (.cells #[] e)).ownsRow base e size (.slice (some ⟨s, 0, none⟩) 0 0) 0 [] := by
  subst h
  exact own_empty W base e size hb
theorem own_below {w w' : World} {base : Nat} {e : TypeId} {size : Nat} {v : Value} {n : Nat} {xs : List Value} (h : w.ownsRow base e size v n xs) (hb : Below w.heap.size w w') : w'.ownsRow base e size v n xs := by
  have hlt := own_base h
  rcases h with ⟨h1, h2 | ⟨g, cap, cur, rfl, h3, h4, rest⟩⟩
  · exact ⟨h1, .inl h2⟩
  · exact ⟨h1, .inr ⟨g, cap, cur, rfl, h3, (hb.block g (hlt g rfl).2).trans h4, rest⟩⟩
theorem own_more {w : World} {base base' : Nat} {e : TypeId} {size : Nat} {v : Value} {n : Nat} {xs : List Value} (h : w.ownsRow base e size v n xs) (hb : base' ≤ base) : w.ownsRow base' e size v n xs := by
  rcases h with ⟨h1, h2 | ⟨g, cap, cur, rfl, h3, rest⟩⟩
  · exact ⟨h1, .inl h2⟩
  · exact ⟨h1, .inr ⟨g, cap, cur, rfl, Nat.le_trans hb h3, rest⟩⟩
theorem row_form {w : World} {base : Nat} {e : TypeId} {size : Nat} {v : Value} {n : Nat} {xs : List Value} (h : w.ownsRow base e size v n xs) (hn : 0 < n) : ∃ g cap, v = .slice (some ⟨g, 0, none⟩) n cap ∧ base ≤ g := by
  rcases h.2 with ⟨_, h0⟩ | ⟨g, cap, cur, rfl, hb, _⟩
  · omega
  · exact ⟨g, cap, rfl, hb⟩
theorem ord_fint (z : Int) : FloatKind.f32.format.order (floatOfInt .f32 z) (floatOfInt .f32 z) = some .eq := order_self (notNan_nearest Ieee.single _ _ _)
theorem i16_small (k : Int) (h0 : 0 ≤ k) (h1 : k ≤ 1000) : IntKind.i16.wrap k = k := by
  unfold IntKind.wrap
  simp [IntKind.signed, IntKind.bits]
  omega
section
variable {H : Type} {enc : TypeId × Value → H} {w : World} {base : Nat} {spare : Nat → Bool} {held : Bool}
theorem trod_f32x {P : Program} {t : TypeId} {fuel : Nat} {cs : List Value} {x : DataW H × List MemPlace} (ht : P.underlying t = some (.float .f32)) (h : DataW.trod enc P w base spare held fuel t cs = some x) :
    ∃ b, cs = [.float .f32 b] ∧ (Lit.float .f32 b).wf = true := by
  cases fuel with
  | zero => simp [DataW.trod] at h
  | succ n =>
    unfold DataW.trod at h
    rw [ht] at h
    split at h <;> simp_all
theorem trod_boolx {P : Program} {t : TypeId} {fuel : Nat} {cs : List Value} {x : DataW H × List MemPlace} (ht : P.underlying t = some .bool) (h : DataW.trod enc P w base spare held fuel t cs = some x) :
    ∃ b, cs = [.bool b] := by
  cases fuel with
  | zero => simp [DataW.trod] at h
  | succ n =>
    unfold DataW.trod at h
    rw [ht] at h
    split at h <;> simp_all
end
/-- Two words that are one number compare as the same, converted wherever. -/
theorem conv2 {x y : Nat} (h : cn x = cn y) : ∃ z1 z2 : World → Nat, ∃ d1 d2 : Nat, (∀ w, (convert 24 35 (.float .f32 x)).run Try.prog w = .ok (.float .f64 (z1 w)) (w.drewN d1)) ∧ (∀ w, (convert 24 35 (.float .f32 y)).run Try.prog w = .ok (.float .f64 (z2 w)) (w.drewN d2)) ∧
    ∀ (w W w2 : World), Calls Try.prog 28 #[.float .f64 (z1 w), .float .f64 (z2 w2)] W fun e w' => e = .returned (.bool true) ∧ W = w' := by
  rcases cnx h with ⟨hx, hy⟩ | ⟨hx, rfl⟩
  · refine ⟨fun w => nanTo w x, fun w => nanTo w y, 1, 1, fun w => ?_, fun w => ?_, fun w W w2 => sf_nan _ _ _ (nanTo_nan _ _) (nanTo_nan _ _)⟩
    · exact run_nan_wide (P := Try.prog) w 24 35 x (by rw [Try.underlying24]; rfl) Try.underlying35 hx
    · exact run_nan_wide (P := Try.prog) w 24 35 y (by rw [Try.underlying24]; rfl) Try.underlying35 hy
  · refine ⟨fun _ => wide x, fun _ => wide x, 0, 0, fun w => ?_, fun w => ?_, fun w W w2 => sf_eq _ _ (wide_some hx).2⟩
    · exact run_wide (P := Try.prog) w 24 35 x (by rw [Try.underlying24]; rfl) Try.underlying35 hx
    · exact run_wide (P := Try.prog) w 24 35 x (by rw [Try.underlying24]; rfl) Try.underlying35 hx
end Go.Proofs.Ytjkgiknklkfipaa
