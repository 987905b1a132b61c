/-
  A range over a function whose iterator, too, ranges over functions, or turns what is told (a map): the laws of a loop over it, outside and within a round.
-/
import Derived.RangeFuncNested
import Derived.RangeFuncBound
import Derived.RangeFuncCalls
import Derived.RangeFuncLeaves
import Derived.RangeFuncFrom
import Derived.RangeFuncBox
namespace Go.Proofs.YtjkgiknklkfipaaDoor
open Go Go.RowKit
set_option linter.unusedVariables false
set_option linter.unusedSimpArgs false
/-- I abides new blocks, and the turn of whatever is no cells in the blocks of X and from B on. -/
def OwnX {β : Type} (X : Nat → Prop) (B : Nat) (I : β → World → Prop) : Prop :=
  ∀ s W W' row, I s W → W.grownBy W' row → (∀ r, row = some r → (X r ∨ B ≤ r) ∧ ∃ o : Obj, W.heap[r]? = some o ∧ o.isCells = false) → I s W'
section
variable {β : Type} {X : Nat → Prop} {B : Nat} {I I' : β → World → Prop}
theorem OwnX.turn (h : OwnX X B I) {s : β} {W : World} {l : Nat} {o : Obj} (o' : Obj) (hs : I s W) (hB : B ≤ l) (hl : W.heap[l]? = some o) (ho : o.isCells = false) : I s (W.putObj l o') :=
  h s W _ (some l) hs (grownBy_putObj' W l o') (fun r e => by cases e; exact ⟨.inr hB, o, hl, ho⟩)
theorem OwnX.new (h : OwnX X B I) {s : β} {W : World} (o : Obj) (hs : I s W) : I s (W.alloc o) :=
  h s W _ none hs (World.grownBy_alloc W o none) (fun r e => by cases e)
theorem OwnX.and (h : OwnX X B I) (h' : OwnX X B I') : OwnX X B (fun s W => I s W ∧ I' s W) := fun s W W' row hs hg hr => ⟨h s W W' row hs.1 hg hr, h' s W W' row hs.2 hg hr⟩
theorem OwnX.up {B' : Nat} (h : OwnX X B I) (hB : B ≤ B') : OwnX X B' I := fun s W W' row hs hg hr => h s W W' row hs hg (fun r e => ⟨(hr r e).1.imp id (fun h => Nat.le_trans hB h), (hr r e).2⟩)
theorem Own.toX (h : Own I) (X : Nat → Prop) (B : Nat) : OwnX X B I := fun s W W' row hs hg hr => h s W W' row hs hg (fun r e => (hr r e).2)
theorem OwnX.from (h : OwnX X B I) : OwnFrom B I := fun s W W' row hs hg hr => h s W W' row hs hg (fun r e => ⟨.inr (hr r e).1, (hr r e).2⟩)
theorem OwnFrom.toX (h : OwnFrom B I) : OwnX (fun _ => False) B I := fun s W W' row hs hg hr => h s W W' row hs hg (fun r e => ⟨(hr r e).1.elim False.elim id, (hr r e).2⟩)
theorem ownX_pure (p : β → Prop) : OwnX X B (fun s (_ : World) => p s) := fun _ _ _ _ hs _ _ => hs
end
/-- The iterator's contract, the caller's invariants abiding what OwnX says. -/
def SeqX {α : Type} (F : Fence) (n : Nat) (P : Program) (g : Nat) (lb : Array Value) (encs : α → Array Value) (Kp : World → World → Prop) (X : Nat → Prop) (S Sp : List α → Prop) (N : Nat) (w : World) : Prop :=
  ∀ (l : Nat) (J Jx : List α → World → Prop) (W : World), Below w.heap.size w W → l < W.heap.size → OwnX X W.heap.size J → OwnX X W.heap.size Jx →
    (∀ pre x W1, J pre W1 → pre.length < N → YieldAt F (n - 1) P l (encs x) W1 fun e W' =>
      (e = .returned (.bool true) ∧ J (pre ++ [x]) W' ∧ Kp W1 W' ∧ KeepsFrom (l + 1) W1 W') ∨ (e = .returned (.bool false) ∧ Jx (pre ++ [x]) W' ∧ KeepsFrom (l + 1) W1 W')) →
    J [] W →
    CallsIn F n P g (#[.func (.yield l) #[] #[]] ++ lb) W fun e W' => (∃ v, e = .returned v) ∧ ((∃ xs, S xs ∧ J xs W') ∨ (∃ pre, Sp pre ∧ Jx pre W'))
theorem SeqStopsK.toX {α : Type} {F : Fence} {n : Nat} {P : Program} {g : Nat} {lb : Array Value} {encs : α → Array Value} {Kp : World → World → Prop} {S Sp : List α → Prop} {N : Nat} {w : World}
    (h : SeqStopsK F n P g lb encs Kp S Sp N w) (X : Nat → Prop) : SeqX F n P g lb encs Kp X S Sp N w := fun l J Jx W hW hll hJ hJx hY h0 =>
  h l J Jx W hW (fun s W W' row hs hg hr => hJ s W W' row hs hg (fun r e => by obtain ⟨a, o, b, c⟩ := hr r e; exact ⟨.inr a, o, b, Obj.not_cells_of_walk c⟩))
    (fun s W W' row hs hg hr => hJx s W W' row hs hg (fun r e => by obtain ⟨a, o, b, c⟩ := hr r e; exact ⟨.inr a, o, b, Obj.not_cells_of_walk c⟩)) (fun pre x W1 h1 h2 => by
      obtain ⟨fn, tmps, assign, body, e1, e2⟩ := hY pre x W1 h1 h2
      refine ⟨fn, tmps, assign, body, e1, e2.mono ?_⟩
      rintro e W' (⟨g1, g2, g3, _⟩ | ⟨g1, g2, _⟩)
      · exact .inl ⟨g1, g2, g3⟩
      · exact .inr ⟨g1, g2⟩) h0
theorem kf_up {B B' : Nat} {W W' : World} (h : KeepsFrom B W W') (hB : B ≤ B') : KeepsFrom B' W W' := ⟨h.size, fun k o hk => h.same k o (Nat.le_trans hB hk)⟩
theorem kf_put {L : Nat} (W : World) (o : Obj) : KeepsFrom (L + 1) W (W.putObj L o) := ⟨by simp, fun k o' hk h _ => (World.putObj_heap_other (by omega)).trans h⟩
theorem kf_same {B : Nat} {W W' : World} (h : W'.heap = W.heap) : KeepsFrom B W W' := ⟨by rw [h]; exact Nat.le_refl _, fun k o _ h1 _ => by rw [h]; exact h1⟩
theorem RoundIn.other {F : Fence} {l₀ m : Nat} {P : Program} {l : Nat} {f : FuncId} {tmps : Array Value} {assign body : Code} {w : World} {R : Ending → World → Prop}
    (h : RoundIn F m P l f tmps assign body w R) : RoundIn (F.inRound l₀) m P l f tmps assign body w R := ⟨h.1, h.2⟩
theorem RoundIn.deep {F : Fence} (hd : F.depth = none) {m : Nat} (m' : Nat) {P : Program} {l : Nat} {f : FuncId} {tmps : Array Value} {assign body : Code} {w : World} {R : Ending → World → Prop}
    (h : RoundIn F m P l f tmps assign body w R) : RoundIn F m' P l f tmps assign body w R := ⟨h.1, fun c cs _ => h.2 c cs (fun d hh => by rw [hd] at hh; cases hh)⟩
/-- A loop's record. -/
def loopOf (fn : FuncId) (tmps : Array Value) (ps : Array Tmp) (assign body : Code) (D : Nat) (st : LoopState) (pe : Option Code) : Loop := { state := st, pending := pe, fn, tmps, params := ps, assign, body, defers := D }
section
variable {α : Type} {F : Fence} {n : Nat} {P : Program} {fn : FuncId} {tmps : Array Value} {ps : Array Tmp} {assign body : Code} {D L B : Nat} {encs : α → Array Value} {Kp : World → World → Prop} {X : Nat → Prop} {I : List α → World → Prop} {Ix : Code → List α → World → Prop} {N : Nat}
/-- One round of a loop. -/
theorem one_round (hfn : F.fn fn) (hps : ∀ x, (encs x).size = ps.size) (hKt : ∀ {A B C : World}, Kp A B → Kp B C → Kp A C) (hBL : B ≤ L)
    (hKb : ∀ (W : World) (l : Nat) (o o' : Obj), B ≤ l → W.heap[l]? = some o → o.isCells = false → o.isWalk = false → Kp W (W.putObj l o'))
    (hI : OwnX X B I) (hIx : ∀ c, OwnX X B (Ix c)) (Ax : α → Act → World → Prop) (hAx : ∀ x a', OwnX X B (fun (_ : Unit) W => Ax x a' W))
    (Z : World → Prop) (hZ : ∀ W W', KeepsFrom B W W' → Z W → Z W') (hZL : ∀ W o, Z W → Z (W.putObj L o)) {pre : List α} {x : α} {W : World}
    (hassign : ∀ (K : Act → World → Prop), (∀ a' W', KeepsFrom B W W' → Kp W W' → I pre W' → Ax x a' W' → K a' W') →
      assign.wpIn (F.inRound L) n P (Exit.then K (fun _ _ _ => False)) { tmps := (ps.zip (encs x)).foldl (fun t (p, v) => t.setIfInBounds p v) tmps, defers := [] } W)
    (hbody : ∀ (a' : Act) (W : World), (∃ r, W.heap[L]? = some (.loop r)) → I pre W → Ax x a' W → body.wpIn (F.inRound L) n P (ownPostG B Kp I Ix (pre ++ [x]) W) a' W)
    (hl : W.heap[L]? = some (.loop (loopOf fn tmps ps assign body D .ready none))) (hz : Z W) :
    YieldAt F n P L (encs x) W fun e W' =>
      (e = .returned (.bool true) ∧ (I (pre ++ [x]) W' ∧ W'.heap[L]? = some (.loop (loopOf fn tmps ps assign body D .ready none)) ∧ Z W') ∧ Kp W W' ∧ KeepsFrom (L + 1) W W') ∨
      (e = .returned (.bool false) ∧ (∃ c, Ix c (pre ++ [x]) W' ∧ W'.heap[L]? = some (.loop (loopOf fn tmps ps assign body D .done (some c))) ∧ Z W') ∧ KeepsFrom (L + 1) W W') := by
  refine ⟨fn, _, assign, body, run_yield (P := P) (args := encs x) hl (hps x), roundIn_of_wpIn hfn (hassign _ ?_)⟩
  intro a' V kV pV iV aV
  have lV := kV.same _ _ hBL hl rfl
  have zV := hZ _ _ kV hz
  refine ⟨_, run_beginRound lV rfl, ?_⟩
  generalize hU : V.putObj L (.loop { loopOf fn tmps ps assign body D .ready none with state := .busy }) = U
  have lU : U.heap[L]? = some (.loop (loopOf fn tmps ps assign body D .busy none)) := by
    rw [← hU]; exact World.putObj_heap_same (Array.getElem?_eq_some_iff.1 lV).1
  have fU : KeepsFrom (L + 1) W U := by rw [← hU]; exact (kf_up kV (Nat.le_succ_of_le hBL)).trans (kf_put _ _)
  have pU : Kp V U := by rw [← hU]; exact hKb _ _ _ _ hBL lV rfl rfl
  have zU : Z U := by rw [← hU]; exact hZL _ _ zV
  have iU : I pre U := by rw [← hU]; exact hI.turn _ iV hBL lV rfl
  have aU : Ax x a' U := by rw [← hU]; exact (hAx x a').turn (s := ()) _ aV hBL lV rfl
  refine wpIn_mono (hbody a' U ⟨_, lU⟩ iU aU) ?_
  have leave : ∀ (c : Code) (T : World), KeepsFrom B U T → Ix c (pre ++ [x]) T → ∃ v W', (Instr.endRound L (some c)).run P T = .ok v W' ∧ v = .bool false ∧ Ix c (pre ++ [x]) W' ∧ W'.heap[L]? = some (.loop (loopOf fn tmps ps assign body D .done (some c))) ∧ Z W' ∧ KeepsFrom (L + 1) W W' := fun c T kT iT => by
    have lT := kT.same _ _ hBL lU rfl
    exact ⟨_, _, run_endRound (some c) lT, rfl, (hIx c).turn _ iT hBL lT rfl, World.putObj_heap_same (Array.getElem?_eq_some_iff.1 lT).1, hZL _ _ (hZ _ _ kT zU), (fU.trans (kf_up kT (Nat.le_succ_of_le hBL))).trans (kf_put _ _)⟩
  intro e a3 T hp
  cases e with
  | normal =>
    obtain ⟨kT, pT, iT⟩ := hp
    have lT := kT.same _ _ hBL lU rfl
    exact ⟨_, _, run_endRound none lT, .inl ⟨rfl, ⟨hI.turn _ iT hBL lT rfl, World.putObj_heap_same (Array.getElem?_eq_some_iff.1 lT).1, hZL _ _ (hZ _ _ kT zU)⟩, hKt pV (hKt (hKt pU pT) (hKb _ _ _ _ hBL lT rfl rfl)), (fU.trans (kf_up kT (Nat.le_succ_of_le hBL))).trans (kf_put _ _)⟩⟩
  | ret =>
    obtain ⟨v, W', r, e1, g1, g2, g3, g4⟩ := leave _ T hp.1 hp.2
    exact ⟨v, W', r, .inr ⟨by rw [e1], ⟨_, g1, g2, g3⟩, g4⟩⟩
  | exit id =>
    obtain ⟨v, W', r, e1, g1, g2, g3, g4⟩ := leave _ T hp.1 hp.2
    exact ⟨v, W', r, .inr ⟨by rw [e1], ⟨_, g1, g2, g3⟩, g4⟩⟩
  | goto t =>
    obtain ⟨v, W', r, e1, g1, g2, g3, g4⟩ := leave _ T hp.1 hp.2
    exact ⟨v, W', r, .inr ⟨by rw [e1], ⟨_, g1, g2, g3⟩, g4⟩⟩
  | panic ch => exact hp.elim
  | outgrown => exact hp.elim
end
section
variable {α : Type} {F : Fence} {n : Nat} {P : Program} {g : Operand} {ps : Array Tmp} {assign body : Code} {Q : Exit → Act → World → Prop} {a : Act} {w : World} {gf : Nat} {lb : Array Value} {encs : α → Array Value} {Kp : World → World → Prop} {X : Nat → Prop} {S Sp : List α → Prop} {N : Nat} {w0 : World}
/-- A loop outside of every round. -/
theorem range_at (hro : F.round = none) (h1 : 1 ≤ n) (hg : a.eval g = .func (.func gf) #[] lb) (hFg : F.fn gf) (eg : ∀ args w, (callFunc gf args).run P w = .ok (.enter gf args) w)
    (hseq : SeqX F (n - 1) P gf lb encs Kp X S Sp N w0) (hX : ∀ r, X r → r < w.heap.size)
    (hKt : ∀ {A B C : World}, Kp A B → Kp B C → Kp A C) (hKb : ∀ (W : World) (l : Nat) (o o' : Obj), w.heap.size ≤ l → W.heap[l]? = some o → o.isCells = false → o.isWalk = false → Kp W (W.putObj l o'))
    (hb0 : Below w0.heap.size w0 w) (hps : ∀ x, (encs x).size = ps.size)
    (I : List α → World → Prop) (Ix : Code → List α → World → Prop) (hI : OwnX X w.heap.size I) (hIx : ∀ c, OwnX X w.heap.size (Ix c)) (h0 : I [] w) (Ax : α → Act → World → Prop) (hAx : ∀ x a', OwnX X w.heap.size (fun (_ : Unit) W => Ax x a' W))
    (hassign : ∀ (l : Nat) (pre : List α) (x : α) (W : World) (K : Act → World → Prop), I pre W → (∀ a' W', KeepsFrom w.heap.size W W' → Kp W W' → I pre W' → Ax x a' W' → K a' W') →
      assign.wpIn (F.inRound l) (n - 1 - 1) P (Exit.then K (fun _ _ _ => False)) { tmps := (ps.zip (encs x)).foldl (fun t (p, v) => t.setIfInBounds p v) a.tmps, defers := [] } W)
    (hbody : ∀ (l : Nat) (pre : List α) (x : α) (a' : Act) (W : World), w.heap.size ≤ l → (∃ r, W.heap[l]? = some (.loop r)) → I pre W → Ax x a' W → pre.length < N → body.wpIn (F.inRound l) (n - 1 - 1) P (ownPostG w.heap.size Kp I Ix (pre ++ [x]) W) a' W)
    (hdone : ∀ (D : Nat) (xs : List α) (W : World), w.heap.size ≤ D → S xs → I xs W → W.heap[D]? = some (.deferred (some [])) → Q .normal { a with defers := { target := .collected D, args := #[] } :: a.defers } W)
    (hstop : ∀ (D : Nat) (c : Code) (pre : List α) (W : World), w.heap.size ≤ D → Sp pre → Ix c pre W → W.heap[D]? = some (.deferred (some [])) → c.wpIn F n P Q { a with defers := { target := .collected D, args := #[] } :: a.defers } W) :
    (Code.rangeFunc g ps assign body).wpIn F n P Q a w := by
  refine wpIn_rangeFunc fun fn hfn => ?_
  rw [hro]
  have R0 := run_enterLoop_outer (P := P) (w := w) fn a.tmps ps assign body
  generalize hU : (w.alloc (.deferred (some []))).alloc (.loop { state := .ready, pending := none, fn, tmps := a.tmps, params := ps, assign, body, defers := w.heap.size }) = U at R0
  have bU : Below w.heap.size w U := by rw [← hU]; exact ((Below.refl _ w).alloc (Nat.le_refl _) _).alloc (by simp) _
  have sU : U.heap.size = w.heap.size + 1 + 1 := by rw [← hU]; simp
  have lU : U.heap[w.heap.size + 1]? = some (.loop (loopOf fn a.tmps ps assign body w.heap.size .ready none)) := by
    rw [← hU]
    have := World.alloc_heap_new (w.alloc (.deferred (some []))) (.loop { state := .ready, pending := none, fn, tmps := a.tmps, params := ps, assign, body, defers := w.heap.size })
    rwa [World.size_alloc] at this
  have dU : U.heap[w.heap.size]? = some (.deferred (some [])) := by
    rw [← hU]; exact (Below.heap_alloc _ _ _ (by simp)).trans (World.alloc_heap_new w _)
  have iU : I [] U := by rw [← hU]; exact hI.new _ (hI.new _ h0)
  have hn1 : w.heap.size ≤ w.heap.size + 1 := Nat.le_succ _
  clear hU
  have far : ∀ {A C : World} {row : Option Nat} {k : Nat} {o : Obj}, A.grownBy C row → (∀ r, row = some r → (X r ∨ U.heap.size ≤ r) ∧ ∃ o : Obj, A.heap[r]? = some o ∧ o.isCells = false) → w.heap.size ≤ k → k < U.heap.size → A.heap[k]? = some o → C.heap[k]? = some o := fun hg' hr h3 h4 hk =>
    (hg'.block _ (Array.getElem?_eq_some_iff.1 hk).1 (fun e => by
      rcases (hr _ e.symm).1 with h | h
      · have := hX _ h; omega
      · omega)).trans hk
  have own : ∀ {β : Type} {J : β → World → Prop}, OwnX X w.heap.size J → OwnX X U.heap.size J := fun h => h.up (by omega)
  refine ⟨w.heap.size + 1, _, U, { target := .fn (.func gf) lb, args := #[.func (.yield (w.heap.size + 1)) #[] #[]] }, U, gf, #[.func (.yield (w.heap.size + 1)) #[] #[]] ++ lb, U, R0, ?_, ?_, ?_, fun _ => h1, ?_⟩
  · simp only [resolve, hg]
    simp [go_sem]
  · intro f' hf'; simp [Target.leads] at hf'; subst hf'; exact hFg
  · simp [invoke, go_sem, eg]
  · refine (hseq (w.heap.size + 1)
      (fun pre W => I pre W ∧ W.heap[w.heap.size + 1]? = some (.loop (loopOf fn a.tmps ps assign body w.heap.size .ready none)) ∧ W.heap[w.heap.size]? = some (.deferred (some [])))
      (fun pre W => ∃ c, Ix c pre W ∧ W.heap[w.heap.size + 1]? = some (.loop (loopOf fn a.tmps ps assign body w.heap.size .done (some c))) ∧ W.heap[w.heap.size]? = some (.deferred (some [])))
      U (hb0.trans (bU.mono hb0.size)) (by omega)
      (fun s A C row hs hg' hr => ⟨own hI s A C row hs.1 hg' hr, far hg' hr hn1 (by omega) hs.2.1, far hg' hr (Nat.le_refl _) (by omega) hs.2.2⟩)
      (fun s A C row hs hg' hr => by
        obtain ⟨c, hc, hl, hk⟩ := hs
        exact ⟨c, own (hIx c) s A C row hc hg' hr, far hg' hr hn1 (by omega) hl, far hg' hr (Nat.le_refl _) (by omega) hk⟩)
      (fun pre x W hs hlen => one_round (Kp := Kp) (X := X) (B := w.heap.size) (n := n - 1 - 1) (P := P) (pre := pre) (x := x) (W := W) hfn hps hKt hn1 hKb hI hIx Ax hAx (fun W => W.heap[w.heap.size]? = some (.deferred (some []))) (fun _ _ k h => k.same _ _ (Nat.le_refl _) h rfl)
        (fun W o h => (World.putObj_heap_other (by omega)).trans h) (fun K hK => hassign _ pre x W K hs.1 hK) (fun a' W' hr hi ha => hbody _ pre x a' W' hn1 hr hi ha hlen) hs.2.1 hs.2.2) ⟨iU, lU, dU⟩).mono ?_
    rintro e T ⟨⟨v, rfl⟩, (⟨xs, hS, hi, hl, hk⟩ | ⟨pre, hSp, c, hi, hl, hk⟩)⟩
    · exact ⟨none, _, run_endLoop hl (by simp [loopOf]), hdone _ xs _ (Nat.le_refl _) hS (hI.turn _ hi hn1 hl rfl) ((World.putObj_heap_other (by omega)).trans hk)⟩
    · exact ⟨some c, _, run_endLoop hl (by simp [loopOf]), hstop _ c pre _ (Nat.le_refl _) hSp ((hIx c).turn _ hi hn1 hl rfl) ((World.putObj_heap_other (by omega)).trans hk)⟩
/-- A loop within a round. -/
theorem range_in {l₀ : Nat} {r₀ : Loop} (hro : F.round = some l₀) (hl₀ : w.heap[l₀]? = some (.loop r₀)) (h1 : 1 ≤ n) (hg : a.eval g = .func (.func gf) #[] lb) (hFg : F.fn gf) (eg : ∀ args w, (callFunc gf args).run P w = .ok (.enter gf args) w)
    (hseq : SeqX F (n - 1) P gf lb encs Kp X S Sp N w0) (hX : ∀ r, X r → r < w.heap.size)
    (hKt : ∀ {A B C : World}, Kp A B → Kp B C → Kp A C) (hKb : ∀ (W : World) (l : Nat) (o o' : Obj), w.heap.size ≤ l → W.heap[l]? = some o → o.isCells = false → o.isWalk = false → Kp W (W.putObj l o'))
    (hb0 : Below w0.heap.size w0 w) (hps : ∀ x, (encs x).size = ps.size)
    (I : List α → World → Prop) (Ix : Code → List α → World → Prop) (hI : OwnX X w.heap.size I) (hIx : ∀ c, OwnX X w.heap.size (Ix c)) (h0 : I [] w) (Ax : α → Act → World → Prop) (hAx : ∀ x a', OwnX X w.heap.size (fun (_ : Unit) W => Ax x a' W))
    (hassign : ∀ (l : Nat) (pre : List α) (x : α) (W : World) (K : Act → World → Prop), I pre W → (∀ a' W', KeepsFrom w.heap.size W W' → Kp W W' → I pre W' → Ax x a' W' → K a' W') →
      assign.wpIn (F.inRound l) (n - 1 - 1) P (Exit.then K (fun _ _ _ => False)) { tmps := (ps.zip (encs x)).foldl (fun t (p, v) => t.setIfInBounds p v) a.tmps, defers := [] } W)
    (hbody : ∀ (l : Nat) (pre : List α) (x : α) (a' : Act) (W : World), w.heap.size ≤ l → (∃ r, W.heap[l]? = some (.loop r)) → I pre W → Ax x a' W → pre.length < N → body.wpIn (F.inRound l) (n - 1 - 1) P (ownPostG w.heap.size Kp I Ix (pre ++ [x]) W) a' W)
    (hdone : ∀ (xs : List α) (W : World), S xs → I xs W → Q .normal a W)
    (hstop : ∀ (c : Code) (pre : List α) (W : World), Sp pre → Ix c pre W → c.wpIn F n P Q a W) :
    (Code.rangeFunc g ps assign body).wpIn F n P Q a w := by
  refine wpIn_rangeFunc fun fn hfn => ?_
  rw [hro]
  have R0 := run_enterLoop_inner (P := P) hl₀ fn a.tmps ps assign body
  generalize hU : w.alloc (.loop { state := .ready, pending := none, fn, tmps := a.tmps, params := ps, assign, body, defers := r₀.defers }) = U at R0
  have bU : Below w.heap.size w U := by rw [← hU]; exact (Below.refl _ w).alloc (Nat.le_refl _) _
  have sU : U.heap.size = w.heap.size + 1 := by rw [← hU]; simp
  have lU : U.heap[w.heap.size]? = some (.loop (loopOf fn a.tmps ps assign body r₀.defers .ready none)) := by rw [← hU]; exact World.alloc_heap_new w _
  have iU : I [] U := by rw [← hU]; exact hI.new _ h0
  clear hU
  have far : ∀ {A C : World} {row : Option Nat} {o : Obj}, A.grownBy C row → (∀ r, row = some r → (X r ∨ U.heap.size ≤ r) ∧ ∃ o : Obj, A.heap[r]? = some o ∧ o.isCells = false) → A.heap[w.heap.size]? = some o → C.heap[w.heap.size]? = some o := fun hg' hr hk =>
    (hg'.block _ (Array.getElem?_eq_some_iff.1 hk).1 (fun e => by
      rcases (hr _ e.symm).1 with h | h
      · have := hX _ h; omega
      · omega)).trans hk
  have own : ∀ {β : Type} {J : β → World → Prop}, OwnX X w.heap.size J → OwnX X U.heap.size J := fun h => h.up (by omega)
  refine ⟨w.heap.size, _, U, { target := .fn (.func gf) lb, args := #[.func (.yield w.heap.size) #[] #[]] }, U, gf, #[.func (.yield w.heap.size) #[] #[]] ++ lb, U, R0, ?_, ?_, ?_, fun _ => h1, ?_⟩
  · simp only [resolve, hg]
    simp [go_sem]
  · intro f' hf'; simp [Target.leads] at hf'; subst hf'; exact hFg
  · simp [invoke, go_sem, eg]
  · refine (hseq w.heap.size
      (fun pre W => I pre W ∧ W.heap[w.heap.size]? = some (.loop (loopOf fn a.tmps ps assign body r₀.defers .ready none)) ∧ True)
      (fun pre W => ∃ c, Ix c pre W ∧ W.heap[w.heap.size]? = some (.loop (loopOf fn a.tmps ps assign body r₀.defers .done (some c))) ∧ True)
      U (hb0.trans (bU.mono hb0.size)) (by omega)
      (fun s A C row hs hg' hr => ⟨own hI s A C row hs.1 hg' hr, far hg' hr hs.2.1, trivial⟩)
      (fun s A C row hs hg' hr => by
        obtain ⟨c, hc, hl, hk⟩ := hs
        exact ⟨c, own (hIx c) s A C row hc hg' hr, far hg' hr hl, trivial⟩)
      (fun pre x W hs hlen => one_round (Kp := Kp) (X := X) (B := w.heap.size) (n := n - 1 - 1) (P := P) (pre := pre) (x := x) (W := W) hfn hps hKt (Nat.le_refl _) hKb hI hIx Ax hAx (fun _ => True) (fun _ _ _ _ => trivial)
        (fun _ _ _ => trivial) (fun K hK => hassign _ pre x W K hs.1 hK) (fun a' W' hr hi ha => hbody _ pre x a' W' (Nat.le_refl _) hr hi ha hlen) hs.2.1 trivial) ⟨iU, lU, trivial⟩).mono ?_
    rintro e T ⟨⟨v, rfl⟩, (⟨xs, hS, hi, hl, _⟩ | ⟨pre, hSp, c, hi, hl, _⟩)⟩
    · exact ⟨none, _, run_endLoop hl (by simp [loopOf]), hdone xs _ hS (hI.turn _ hi (Nat.le_refl _) hl rfl)⟩
    · exact ⟨some c, _, run_endLoop hl (by simp [loopOf]), hstop c pre _ hSp ((hIx c).turn _ hi (Nat.le_refl _) hl rfl)⟩
end
end Go.Proofs.YtjkgiknklkfipaaDoor
