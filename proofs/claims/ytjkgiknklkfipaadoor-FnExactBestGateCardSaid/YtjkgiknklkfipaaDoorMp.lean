/-
  The map of torques of a governed mill: its keys are structs of words.
-/
import Derived.Test.YtjkgiknklkfipaaDoorGd
namespace Go.Proofs.YtjkgiknklkfipaaDoor
open Go.RowKit Go.ChangeShapes Go.WideShapes Go.Deep
attribute [local go_sem ↓] Go.wp_at_zero Go.wp_at_succ
set_option linter.unusedVariables false
set_option linter.unusedSimpArgs false
set_option maxRecDepth 100000
/-- The key of a state of a mill. -/
def keyV (M : Ml) (f s : Nat) : Value := .agg #[.int .i16 M.b, .int .u32 (cn M.h), .int .u32 (cn M.r), .int .u32 (cn f), .int .u32 (cn s)]
theorem checkKey_any (e : Bool) (b h r f s : Int) (w : World) : (Instr.checkKey e 10000 155 (.agg #[.int .i16 b, .int .u32 h, .int .u32 r, .int .u32 f, .int .u32 s])).run Tryd.prog w = .ok () w := by kernel_rfl
theorem eqKey (M : Ml) (f s f' s' : Nat) (w : World) : (Op.equal 155 (keyV M f s) (keyV M f' s')).run Tryd.prog w = .ok (sB f f' && sB s s') w := by
  have e1 := sB_beq f f'; have e2 := sB_beq s s'
  unfold keyV Op.equal
  rcases Bool.eq_false_or_eq_true (sB f f') with h1 | h1 <;> rcases Bool.eq_false_or_eq_true (sB s s') with h2 | h2
  all_goals
    rw [h1] at e1; rw [h2] at e2
    simp only [h1, h2, Bool.true_and, Bool.false_and, Bool.and_self, Bool.and_true, Bool.and_false]
    clear h1 h2
    have hd : Op.maxDepth = 10000 := rfl
    rw [hd]
    go_simp
/-- What the map holds: torques of states. -/
def Inv (M : Ml) (es : List MapEntry) : Prop := ∀ e ∈ es, ∃ f s, nan32 f = false ∧ nan32 s = false ∧ e.key = keyV M f s ∧ e.val = .float .f32 (torqN M f s)
theorem Inv.nil (M : Ml) : Inv M [] := fun e h => by cases h
theorem Inv.push {M : Ml} {es : Array MapEntry} (h : Inv M es.toList) {f s : Nat} (hf : nan32 f = false) (hs : nan32 s = false) (b : Nat) : Inv M (es.push { key := keyV M f s, val := .float .f32 (torqN M f s), born := b }).toList := by
  intro e he
  simp only [Array.toList_push, List.mem_append, List.mem_singleton] at he
  rcases he with he | rfl
  · exact h e he
  · exact ⟨f, s, hf, hs, rfl, rfl⟩
theorem cn_inj {a b : Nat} (ha : nan32 a = false) (hb : nan32 b = false) (h : sB a b = true) : a = b := by
  unfold sB at h
  have := of_decide_eq_true h
  rwa [cn_of_not ha, cn_of_not hb] at this
theorem findAsking_any (M : Ml) {f s : Nat} (hf : nan32 f = false) (hs : nan32 s = false) : ∀ (es : List MapEntry), Inv M es → ∀ i, ∃ r : Option (Nat × Value), (∀ w, (Instr.findAsking 155 (keyV M f s) es i).run Tryd.prog w = .ok r w) ∧ ∀ j v, r = some (j, v) → v = .float .f32 (torqN M f s)
  | [], _, i => ⟨none, fun _ => rfl, fun _ _ h => by cases h⟩
  | e :: es, h, i => by
    obtain ⟨f', s', hf', hs', hk, hv⟩ := h e (List.mem_cons_self ..)
    have he := eqKey M f s f' s'
    rcases Bool.eq_false_or_eq_true (sB f f' && sB s s') with hb | hb
    · refine ⟨some (i, e.val), ?_, ?_⟩
      · intro w
        unfold Instr.findAsking
        rw [hk, Sem.run_bind, he, hb]
        rfl
      · intro j v hr
        cases hr
        rw [Bool.and_eq_true] at hb
        rw [hv, cn_inj hf hf' hb.1, cn_inj hs hs' hb.2]
    · obtain ⟨r, hr, hq⟩ := findAsking_any M hf hs es (fun x hx => h x (List.mem_cons_of_mem _ hx)) (i + 1)
      refine ⟨r, fun w => ?_, hq⟩
      unfold Instr.findAsking
      rw [hk, Sem.run_bind, he, hb]
      exact hr w
theorem findKey_any (M : Ml) {f s : Nat} (hf : nan32 f = false) (hs : nan32 s = false) (es : List MapEntry) (h : Inv M es) : ∃ r : Option (Nat × Value), (∀ w, (Instr.findKey 155 (keyV M f s) es).run Tryd.prog w = .ok r w) ∧ ∀ j v, r = some (j, v) → v = .float .f32 (torqN M f s) := by
  obtain ⟨r, hr, hq⟩ := findAsking_any M hf hs es h 0
  cases es with
  | nil =>
    refine ⟨none, fun w => ?_, fun _ _ h => by cases h⟩
    unfold Instr.findKey
    rw [Sem.run_bind, run_underlying Tryd.underlying155]
    rfl
  | cons e es =>
    refine ⟨r, fun w => ?_, hq⟩
    obtain ⟨f', s', _, _, hk, _⟩ := h e (List.mem_cons_self ..)
    unfold Instr.findKey
    rw [Sem.run_bind, run_underlying Tryd.underlying155]
    simp only [Result.andThen_ok, Instr.findNow, Instr.sameNow]
    exact hr w
theorem lookup_any (M : Ml) {f s : Nat} (hf : nan32 f = false) (hs : nan32 s = false) (w : World) (p : Nat) (es : Array MapEntry) (c : Nat) (hp : w.heap[p]? = some (.map es c)) (h : Inv M es.toList) :
    ∃ (v : Nat) (b : Bool), (Instr.lookup 96 (.map (some p)) (keyV M f s) true).run Tryd.prog w = .ok (.tuple #[.float .f32 v, .bool b]) w ∧ (b = true → v = torqN M f s) ∧ (b = false → ∀ W, (Instr.findKey 155 (keyV M f s) es.toList).run Tryd.prog W = .ok none W) := by
  obtain ⟨r, hr0, hq⟩ := findKey_any M hf hs es.toList h
  have hr := hr0 w
  have hz : (zeroValue 24).run Tryd.prog w = .ok (.float .f32 0) w := by kernel_rfl
  have hc := checkKey_any es.isEmpty M.b (cn M.h) (cn M.r) (cn f) (cn s) w
  cases r with
  | none =>
    refine ⟨0, false, ?_, fun h => (by cases h), fun _ => hr0⟩
    unfold Instr.lookup
    simp only [Sem.run_bind, run_underlying Tryd.underlying96, Result.andThen_ok, MapKept.run_getObj_map hp, Sem.run_pure]
    unfold keyV at hr ⊢
    simp only [hc, hr, hz, Result.andThen_ok, Sem.run_pure, Sem.run_bind, if_true]
  | some jv =>
    obtain ⟨j, v⟩ := jv
    obtain rfl := hq j v rfl
    refine ⟨torqN M f s, true, ?_, fun _ => rfl, fun h => (by cases h)⟩
    unfold Instr.lookup
    simp only [Sem.run_bind, run_underlying Tryd.underlying96, Result.andThen_ok, MapKept.run_getObj_map hp, Sem.run_pure]
    unfold keyV at hr ⊢
    simp only [hc, hr, hz, Result.andThen_ok, Sem.run_pure, Sem.run_bind, if_true]
def putMap (w : World) (p : Nat) (es : Array MapEntry) (c : Nat) : World := { w with heap := w.heap.setIfInBounds p (.map es c) }
theorem update_any (M : Ml) {f s : Nat} (v : Value) (w : World) (p : Nat) (es : Array MapEntry) (c : Nat) (hp : w.heap[p]? = some (.map es c)) (hn : (Instr.findKey 155 (keyV M f s) es.toList).run Tryd.prog w = .ok none w) :
    (Instr.mapUpdate 96 (.map (some p)) (keyV M f s) v).run Tryd.prog w = .ok () (putMap w p (es.push { key := keyV M f s, val := v, born := c }) (c + 1)) := by
  have hc := checkKey_any false M.b (cn M.h) (cn M.r) (cn f) (cn s) w
  unfold Instr.mapUpdate
  simp only [Sem.run_bind, run_underlying Tryd.underlying96, Result.andThen_ok, MapKept.run_getObj_map hp, Sem.run_pure]
  unfold keyV at hn ⊢
  simp only [hc, hn, Result.andThen_ok, Sem.run_pure, Sem.run_bind, MapKept.run_setObj_map _ hp]
  rfl
/-- Nothing has turned but the map in block p, and what is new. -/
def Save (p : Nat) (w w' : World) : Prop := Below 0 w w' ∧ w.heap.size ≤ w'.heap.size ∧ ∀ k, k < w.heap.size → k ≠ p → w'.heap[k]? = w.heap[k]?
theorem Save.refl (p : Nat) (w : World) : Save p w w := ⟨Below.refl _ _, Nat.le_refl _, fun _ _ _ => rfl⟩
theorem Save.trans {p : Nat} {a b c : World} (h : Save p a b) (k : Save p b c) : Save p a c :=
  ⟨h.1.trans k.1, Nat.le_trans h.2.1 k.2.1, fun i hi hp => (k.2.2 i (Nat.lt_of_lt_of_le hi h.2.1) hp).trans (h.2.2 i hi hp)⟩
theorem Save.of {p : Nat} {w w' : World} (h : Below w.heap.size w w') : Save p w w' := ⟨h.mono (Nat.zero_le _), h.size, fun k hk _ => h.block k hk⟩
theorem Save.below {p B : Nat} {w w' : World} (h : Save p w w') (hp : B ≤ p) (hB : B ≤ w.heap.size) : Below B w w' := ⟨h.1.os, h.1.tape, h.1.output, h.2.1, fun k hk => h.2.2 k (Nat.lt_of_lt_of_le hk hB) (by omega)⟩
theorem Save.put (p : Nat) (w : World) (es : Array MapEntry) (c : Nat) : Save p w (putMap w p es c) := by
  refine ⟨⟨rfl, rfl, rfl, by unfold putMap; simp, fun k hk => absurd hk (Nat.not_lt_zero _)⟩, by unfold putMap; simp, fun k hk hp => ?_⟩
  unfold putMap
  simp only
  rw [Array.getElem?_setIfInBounds_ne (Ne.symm hp)]
theorem putMap_get {w : World} {p : Nat} (hp : p < w.heap.size) (es : Array MapEntry) (c : Nat) : (putMap w p es c).heap[p]? = some (.map es c) := by
  unfold putMap
  simp [hp]
end Go.Proofs.YtjkgiknklkfipaaDoor
