/-
  A map of choices that are near; the product of two numbers the other way round.
-/
import Derived.Test.YtaodpopghacmaaaChl
import Derived.Test.YtaodpopghacmaaaChf
namespace Go.Proofs.Ytaodpopghacmaaa
open Go.RowKit Go.ChangeShapes Go.WideShapes Go.Deep
attribute [local go_sem ↓] Go.wp_at_zero Go.wp_at_succ
set_option linter.unusedVariables false
set_option linter.unusedSimpArgs false
set_option maxRecDepth 100000
theorem mul_turn (x y : Nat) : floatBits .mul .f32 x y = floatBits .mul .f32 y x := by
  show Ieee.Format.mul _ x y = Ieee.Format.mul _ y x
  unfold Ieee.Format.mul
  have h : ∀ a b : Ieee.Datum, Ieee.Datum.product a b = Ieee.Datum.product b a := by
    intro a b
    cases a <;> cases b <;> simp [Ieee.Datum.product, Nat.mul_comm, Int.add_comm, Bool.xor_comm]
  rw [h]
theorem f2_turn (x y : Nat) : f2 .mul (cn x) (cn y) = f2 .mul (cn y) (cn x) := by
  unfold f2
  rw [mul_turn]
/-- Both pairs of a choice exchanged. -/
def trn (x : (Nat × Nat) × (Nat × Nat)) : (Nat × Nat) × (Nat × Nat) := (x.2, x.1)
theorem fac_trn (zs : List Int) (x : (Nat × Nat) × (Nat × Nat)) : facC zs (trn x) = facC zs x := f2_turn _ _
theorem off_trn (zs : List Int) (t : Nat) (x : (Nat × Nat) × (Nat × Nat)) : offX zs t (trn x) = offX zs t x := by unfold offX; rw [fac_trn]
theorem checkKeyC (e : Bool) (a b c d : Int) (w : World) : (Instr.checkKey e 10000 49 (.agg #[.int .i16 a, .int .i16 b, .int .i16 c, .int .i16 d])).run Try.prog w = .ok () w := by kernel_rfl
theorem eqKeyI (a b c d a' b' c' d' : Int) (w : World) : (Op.equal 49 (.agg #[.int .i16 a, .int .i16 b, .int .i16 c, .int .i16 d]) (.agg #[.int .i16 a', .int .i16 b', .int .i16 c', .int .i16 d'])).run Try.prog w = .ok (a == a' && (b == b' && (c == c' && d == d'))) w := by
  unfold Op.equal
  rcases Bool.eq_false_or_eq_true (a == a') with h1 | h1 <;> rcases Bool.eq_false_or_eq_true (b == b') with h2 | h2 <;> rcases Bool.eq_false_or_eq_true (c == c') with h3 | h3 <;> rcases Bool.eq_false_or_eq_true (d == d') with h4 | h4
  all_goals
    simp only [h1, h2, h3, h4, Bool.true_and, Bool.false_and, Bool.and_self, Bool.and_true, Bool.and_false]
    have hd : Op.maxDepth = 10000 := rfl
    rw [hd]
    go_simp
theorem eqKeyC (x y : (Nat × Nat) × (Nat × Nat)) (w : World) : (Op.equal 49 (chV x) (chV y)).run Try.prog w = .ok (decide (x = y)) w := by
  obtain ⟨⟨a, b⟩, c, d⟩ := x
  obtain ⟨⟨a', b'⟩, c', d'⟩ := y
  unfold chV
  rw [eqKeyI]
  congr 1
  rw [Bool.eq_iff_iff]
  simp
  omega
/-- What the map holds. -/
def InvK (Ks : List ((Nat × Nat) × (Nat × Nat))) (es : List MapEntry) : Prop := es.map (fun e => (e.key, e.val)) = Ks.map (fun x => (chV x, Value.bool true))
def insK (Ks : List ((Nat × Nat) × (Nat × Nat))) (x : (Nat × Nat) × (Nat × Nat)) : List ((Nat × Nat) × (Nat × Nat)) := if x ∈ Ks then Ks else Ks ++ [x]
theorem askK_any (x : (Nat × Nat) × (Nat × Nat)) : ∀ (es : List MapEntry) (Ks : List ((Nat × Nat) × (Nat × Nat))), InvK Ks es → ∀ i, (x ∈ Ks → ∃ j, (∀ w, (Instr.findAsking 49 (chV x) es i).run Try.prog w = .ok (some (i + j, .bool true)) w) ∧ Ks[j]? = some x) ∧ (¬ x ∈ Ks → ∀ w, (Instr.findAsking 49 (chV x) es i).run Try.prog w = .ok none w)
  | [], Ks, h, i => by
    have hk : Ks = [] := by unfold InvK at h; simpa using h.symm
    subst hk
    exact ⟨fun h => by simp at h, fun _ _ => rfl⟩
  | e :: es, Ks, h, i => by
    cases Ks with
    | nil => unfold InvK at h; simp at h
    | cons y Ks =>
      unfold InvK at h
      simp only [List.map_cons, List.cons.injEq, Prod.mk.injEq] at h
      obtain ⟨⟨hk, hv⟩, h⟩ := h
      have he := eqKeyC x y
      by_cases hxy : x = y
      · rw [decide_eq_true hxy] at he
        refine ⟨fun _ => ⟨0, fun w => ?_, by simp [hxy]⟩, fun hn => absurd (by simp [hxy]) hn⟩
        unfold Instr.findAsking
        rw [hk, Sem.run_bind, he, hv]
        rfl
      · rw [decide_eq_false hxy] at he
        obtain ⟨h1, h2⟩ := askK_any x es Ks h (i + 1)
        refine ⟨fun hm => ?_, fun hm w => ?_⟩
        · obtain ⟨j, hj, hg⟩ := h1 (by simpa [hxy] using hm)
          refine ⟨j + 1, fun w => ?_, by simpa using hg⟩
          unfold Instr.findAsking
          rw [hk, Sem.run_bind, he]
          have := hj w
          rw [show i + 1 + j = i + (j + 1) by omega] at this
          exact this
        · unfold Instr.findAsking
          rw [hk, Sem.run_bind, he]
          exact h2 (fun hm2 => hm (List.mem_cons_of_mem _ hm2)) w
theorem findK (x : (Nat × Nat) × (Nat × Nat)) (es : List MapEntry) (Ks : List ((Nat × Nat) × (Nat × Nat))) (h : InvK Ks es) : (x ∈ Ks → ∃ j, (∀ w, (Instr.findKey 49 (chV x) es).run Try.prog w = .ok (some (j, .bool true)) w) ∧ Ks[j]? = some x) ∧ (¬ x ∈ Ks → ∀ w, (Instr.findKey 49 (chV x) es).run Try.prog w = .ok none w) := by
  have hfk : ∀ w, (Instr.findKey 49 (chV x) es).run Try.prog w = (Instr.findAsking 49 (chV x) es 0).run Try.prog w := fun w => by
    cases es with
    | nil =>
      unfold Instr.findKey
      rw [Sem.run_bind, run_underlying Try.underlying49]
      rfl
    | cons e es =>
      cases Ks with
      | nil => unfold InvK at h; simp at h
      | cons y Ks =>
        unfold InvK at h
        simp only [List.map_cons, List.cons.injEq, Prod.mk.injEq] at h
        unfold Instr.findKey
        rw [Sem.run_bind, run_underlying Try.underlying49]
        simp only [Result.andThen_ok, Instr.findNow, Instr.sameNow]
  obtain ⟨h1, h2⟩ := askK_any x es Ks h 0
  refine ⟨fun hm => ?_, fun hm w => (hfk w).trans (h2 hm w)⟩
  obtain ⟨j, hj, hg⟩ := h1 hm
  exact ⟨j, fun w => (hfk w).trans (by have := hj w; rwa [Nat.zero_add] at this), hg⟩
theorem lookK (x : (Nat × Nat) × (Nat × Nat)) (w : World) (p : Nat) (es : Array MapEntry) (c : Nat) (Ks : List ((Nat × Nat) × (Nat × Nat))) (hp : w.heap[p]? = some (.map es c)) (h : InvK Ks es.toList) :
    (Instr.lookup 96 (.map (some p)) (chV x) false).run Try.prog w = .ok (.bool (decide (x ∈ Ks))) w := by
  have hz : (zeroValue 4).run Try.prog w = .ok (.bool false) w := by kernel_rfl
  have hc := checkKeyC es.isEmpty (x.1.1 : Int) (x.1.2 : Int) (x.2.1 : Int) (x.2.2 : Int) w
  obtain ⟨h1, h2⟩ := findK x es.toList Ks h
  by_cases hm : x ∈ Ks
  · obtain ⟨j, hj, _⟩ := h1 hm
    have hr := hj w
    rw [decide_eq_true hm]
    unfold Instr.lookup
    simp only [Sem.run_bind, run_underlying Try.underlying96, Result.andThen_ok, MapKept.run_getObj_map hp, Sem.run_pure]
    unfold chV at hr ⊢
    simp [hc, hr, hz, Result.andThen_ok, Sem.run_pure, Sem.run_bind]
  · have hr := h2 hm w
    rw [decide_eq_false hm]
    unfold Instr.lookup
    simp only [Sem.run_bind, run_underlying Try.underlying96, Result.andThen_ok, MapKept.run_getObj_map hp, Sem.run_pure]
    unfold chV at hr ⊢
    simp [hc, hr, hz, Result.andThen_ok, Sem.run_pure, Sem.run_bind]
def putMapC (w : World) (p : Nat) (es : Array MapEntry) (c : Nat) : World := { w with heap := w.heap.setIfInBounds p (.map es c) }
theorem same_key (x : (Nat × Nat) × (Nat × Nat)) : Instr.sameBits 10000 (chV x) (chV x) = true := by
  show Instr.sameBits (9999 + 1) (chV x) (chV x) = true
  simp [Instr.sameBits, chV]
theorem updK (x : (Nat × Nat) × (Nat × Nat)) (w : World) (p : Nat) (es : Array MapEntry) (c : Nat) (Ks : List ((Nat × Nat) × (Nat × Nat))) (hp : w.heap[p]? = some (.map es c)) (h : InvK Ks es.toList) :
    ∃ es' c', (Instr.mapUpdate 96 (.map (some p)) (chV x) (.bool true)).run Try.prog w = .ok () (putMapC w p es' c') ∧ InvK (insK Ks x) es'.toList := by
  have hc := checkKeyC false (x.1.1 : Int) (x.1.2 : Int) (x.2.1 : Int) (x.2.2 : Int) w
  obtain ⟨h1, h2⟩ := findK x es.toList Ks h
  by_cases hm : x ∈ Ks
  · obtain ⟨j, hj, hg⟩ := h1 hm
    have hr := hj w
    have hj2 : ∃ e0, es[j]? = some e0 ∧ e0.key = chV x ∧ e0.val = .bool true := by
      unfold InvK at h
      have e := congrArg (fun l => l[j]?) h
      simp only [List.getElem?_map, hg, Option.map_some] at e
      rw [Array.getElem?_toList] at e
      cases h0 : es[j]? with
      | none => rw [h0] at e; simp at e
      | some e0 =>
        rw [h0] at e
        simp at e
        exact ⟨e0, rfl, e.1, e.2⟩
    obtain ⟨e0, h0, hk0, hv0⟩ := hj2
    refine ⟨es.modify j fun e => { e with key := chV x, val := .bool true }, c, ?_, ?_⟩
    · unfold Instr.mapUpdate
      simp only [Sem.run_bind, run_underlying Try.underlying96, Result.andThen_ok, MapKept.run_getObj_map hp, Sem.run_pure]
      have hst : (Instr.keyThatStays (((es[j]?).map (·.key)).getD (chV x)) (chV x)).run Try.prog w = .ok (chV x) w := by
        rw [h0]
        show (Instr.keyThatStays e0.key (chV x)).run Try.prog w = _
        rw [hk0]
        unfold Instr.keyThatStays
        rw [same_key]
        rfl
      generalize hq : chV x = q at *
      unfold chV at hq
      subst hq
      simp only [hc, hr, hst, Result.andThen_ok, Sem.run_pure, Sem.run_bind, MapKept.run_setObj_map _ hp]
      rfl
    · unfold InvK insK at *
      rw [if_pos hm, ← h, Array.toList_modify]
      refine List.ext_getElem? fun k => ?_
      rw [List.getElem?_map, List.getElem?_map, List.getElem?_modify]
      by_cases hjk : j = k
      · subst hjk
        rw [Array.getElem?_toList, h0]
        simp [hk0, hv0]
      · simp [hjk]
  · have hr := h2 hm w
    refine ⟨es.push { key := chV x, val := .bool true, born := c }, c + 1, ?_, ?_⟩
    · unfold Instr.mapUpdate
      simp only [Sem.run_bind, run_underlying Try.underlying96, Result.andThen_ok, MapKept.run_getObj_map hp, Sem.run_pure]
      unfold chV at hr ⊢
      simp only [hc, hr, Result.andThen_ok, Sem.run_pure, Sem.run_bind, MapKept.run_setObj_map _ hp]
      rfl
    · unfold InvK insK at *
      rw [if_neg hm, Array.toList_push, List.map_append, List.map_append, h]
      rfl
/-- The near ones, each once. -/
def nearK (nr : (Nat × Nat) × (Nat × Nat) → Bool) (l : List ((Nat × Nat) × (Nat × Nat))) : List ((Nat × Nat) × (Nat × Nat)) := l.foldl (fun K x => if nr x then insK K x else K) []
theorem nearK_snoc (nr : (Nat × Nat) × (Nat × Nat) → Bool) (l : List ((Nat × Nat) × (Nat × Nat))) (x : (Nat × Nat) × (Nat × Nat)) : nearK nr (l ++ [x]) = if nr x then insK (nearK nr l) x else nearK nr l := by unfold nearK; rw [List.foldl_append]; rfl
theorem nearK_near {nr : (Nat × Nat) × (Nat × Nat) → Bool} : ∀ (l K : List ((Nat × Nat) × (Nat × Nat))), (∀ x ∈ K, nr x = true) → ∀ x ∈ l.foldl (fun K x => if nr x then insK K x else K) K, nr x = true
  | [], K, h, x, hx => h x hx
  | y :: l, K, h, x, hx => by
    refine nearK_near l _ ?_ x hx
    intro z hz
    dsimp only at hz
    split at hz
    next hy =>
      unfold insK at hz
      split at hz
      · exact h z hz
      · rcases List.mem_append.1 hz with hz | hz
        · exact h z hz
        · rw [List.mem_singleton] at hz; subst hz; exact hy
    next => exact h z hz
theorem nearK_filter {nr : (Nat × Nat) × (Nat × Nat) → Bool} : ∀ (l K : List ((Nat × Nat) × (Nat × Nat))), l.Nodup → (∀ x ∈ l, ¬ x ∈ K) → l.foldl (fun K x => if nr x then insK K x else K) K = K ++ l.filter nr
  | [], K, _, _ => by simp
  | y :: l, K, hd, hk => by
    obtain ⟨h1, h2⟩ := List.nodup_cons.1 hd
    show l.foldl _ (if nr y then insK K y else K) = _
    cases hy : nr y
    · rw [if_neg (by decide), nearK_filter l K h2 (fun x hx => hk x (List.mem_cons_of_mem _ hx)), List.filter_cons_of_neg (by simp [hy])]
    · rw [if_pos rfl]
      have hi : insK K y = K ++ [y] := if_neg (hk y (by simp))
      rw [hi, nearK_filter l (K ++ [y]) h2 ?_, List.filter_cons_of_pos hy, List.append_assoc]
      · rfl
      · intro x hx hm
        rcases List.mem_append.1 hm with hm | hm
        · exact hk x (List.mem_cons_of_mem _ hx) hm
        · rw [List.mem_singleton] at hm
          subst hm
          exact h1 hx
end Go.Proofs.Ytaodpopghacmaaa
