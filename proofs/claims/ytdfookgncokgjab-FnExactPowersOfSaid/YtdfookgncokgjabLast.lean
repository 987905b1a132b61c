/-
  What the last axle carries.
-/
import Derived.Test.YtdfookgncokgjabAxles
namespace Go.Proofs.Ytdfookgncokgjab
open Go.RowKit Go.ChangeShapes Go.WideShapes Go.Deep Go.Shelf
attribute [local go_sem] Oper.semAt_some
set_option linter.unusedVariables false
set_option linter.unusedSimpArgs false
def lastC (g : Pr → Nat → Nat) (x : Nat) : List Pr → Nat
  | [] => x
  | p :: ps => lastC g (g p x) ps
theorem axC_ne (g : Pr → Nat → Nat) (x : Nat) : ∀ ps, ∃ l, axC g x ps = x :: l
  | [] => ⟨[], rfl⟩
  | _ :: _ => ⟨_, rfl⟩
theorem axC_last (g : Pr → Nat → Nat) : ∀ (ps : List Pr) (x d : Nat), (axC g x ps).getLastD d = lastC g x ps
  | [], x, d => rfl
  | p :: ps, x, d => by
    rw [axC, lastC, ← axC_last g ps (g p x) x]
    obtain ⟨l, hl⟩ := axC_ne g (g p x) ps
    rw [hl]
    simp [List.getLastD]
theorem axles_in (n : Nat) (A : Option Addr) (k c : Nat) (x0 pf : Nat) (w : World) :
    CallsIn Fence.wide n Try.prog 81 #[.slice A k c, .float .f32 x0, .func (.func pf) #[] #[]] w fun e w' =>
      e = .returned (.func (.func 91) #[] #[.pointer (some ⟨w.heap.size + 1, 0, none⟩), .pointer (some ⟨w.heap.size, 0, none⟩), .pointer (some ⟨w.heap.size + 1 + 1, 0, none⟩)]) ∧
      ((w.alloc (.cells #[.slice A k c] 27)).alloc (.cells #[.float .f32 x0] 31)).alloc (.cells #[.func (.func pf) #[] #[]] 67) = w' := by
  refine callsIn_wide.2 ?_
  go_enter Try.func81, Try.ntmps81
  go_wp2
  go_ret
  exact ⟨rfl, rfl⟩
set_option maxRecDepth 100000 in
set_option maxHeartbeats 2000000 in
theorem lastAxle_any (pf : Nat) (g : Pr → Nat → Nat)
    (hpf : ∀ (p : Pr) (y : Nat) (w : World), Calls Try.prog pf #[.agg #[.int .i16 p.a, .int .i16 p.b, .float .f32 p.l], .float .f32 y] w (FB (g p (cn y)) w))
    (hen : ∀ args w, (callFunc pf args).run Try.prog w = .ok (.enter pf args) w)
    (A : Option Addr) (k c : Nat) (ps : List Pr) (x0 : Nat) (w : World) (hl : ps.length = k) (hn : k ≤ 1048576) (hT : Tr w w.heap.size A ps) :
    Calls Try.prog 60 #[.slice A k c, .float .f32 x0, .func (.func pf) #[] #[]] w (FB (lastC g (cn x0) ps) w) := by
  refine (callsIn_wide (n := 9)).1 ?_
  refine callsIn_of_wp_marks Try.func60 rfl trivial ?_ rfl
  simp only [Try.ntmps60, List.size_toArray, List.length_cons, List.length_nil, Nat.reduceAdd, Nat.reduceSub, Array.replicate_succ, Array.replicate_zero, List.push_toArray, List.append_toArray, List.nil_append, List.cons_append]
  gi_wp2
  refine ⟨trivial, ?_⟩
  refine (axles_in 8 A k c x0 pf _).mono ?_
  rintro e w' ⟨rfl, rfl⟩
  gi_wp2
  obtain ⟨W0, hW0⟩ : ∃ W0, (((w.alloc (.cells #[.float .f32 x0] 31)).alloc (.cells #[.slice A k c] 27)).alloc (.cells #[.float .f32 x0] 31)).alloc (.cells #[.func (.func pf) #[] #[]] 67) = W0 := ⟨_, rfl⟩
  have hsz : W0.heap.size = w.heap.size + 4 := by rw [← hW0]; simp
  have hB0 : Below w.heap.size w W0 := by
    rw [← hW0]
    exact ((((Below.refl _ _).alloc (Nat.le_refl _) _).alloc (by simp) _).alloc (by simp only [World.size_alloc]; omega) _).alloc (by simp only [World.size_alloc]; omega) _
  have k0 : W0.heap[w.heap.size]? = some (.cells #[.float .f32 x0] 31 (0, 0)) := by
    rw [← hW0]
    rw [Below.heap_alloc _ _ _ (by simp only [World.size_alloc]; omega), Below.heap_alloc _ _ _ (by simp only [World.size_alloc]; omega), Below.heap_alloc _ _ _ (by simp)]
    exact heap_alloc_new _ _
  have k1 : W0.heap[w.heap.size + 1]? = some (.cells #[.slice A k c] 27 (0, 0)) := by
    rw [← hW0]
    rw [Below.heap_alloc _ _ _ (by simp only [World.size_alloc]; omega), Below.heap_alloc _ _ _ (by simp)]
    have := heap_alloc_new (w.alloc (.cells #[.float .f32 x0] 31)) (.cells #[.slice A k c] 27)
    simpa using this
  have k2 : W0.heap[w.heap.size + 2]? = some (.cells #[.float .f32 x0] 31 (0, 0)) := by
    rw [← hW0]
    rw [Below.heap_alloc _ _ _ (by simp)]
    have := heap_alloc_new ((w.alloc (.cells #[.float .f32 x0] 31)).alloc (.cells #[.slice A k c] 27)) (.cells #[.float .f32 x0] 31)
    simpa using this
  have k3 : W0.heap[w.heap.size + 3]? = some (.cells #[.func (.func pf) #[] #[]] 67 (0, 0)) := by
    rw [← hW0]
    have := heap_alloc_new (((w.alloc (.cells #[.float .f32 x0] 31)).alloc (.cells #[.slice A k c] 27)).alloc (.cells #[.float .f32 x0] 31)) (.cells #[.func (.func pf) #[] #[]] 67)
    simpa using this
  have c0 : W0.cell? ⟨w.heap.size, 0, none⟩ = some (.float .f32 x0) := cell_of_row _ _ 0 _ _ _ k0
  have f0 : W0.frozen? ⟨w.heap.size, 0, none⟩ = false := by
    unfold World.frozen?
    rw [k0]
    simp
  have hT' : 0 < ps.length → ∃ b off, A = some ⟨b, off, none⟩ ∧ b < w.heap.size + 4 ∧ ¬ (b = w.heap.size) ∧ ∀ i p, ps[i]? = some p → W0.rangeAt b (off + i * 3) p.cells := fun h0 => by
    obtain ⟨b, off, e, hlt, hc⟩ := hT h0
    exact ⟨b, off, e, by omega, by omega, fun i p hp => rangeAt_of_block (hc i p hp) (hB0.block b hlt)⟩
  simp only [hW0]
  clear hW0
  have hseq := axles_stops 8 pf g hpf hen (w.heap.size + 4) (fun k => k = w.heap.size) W0 hsz (w.heap.size + 2) x0 A k c ps k2 k1 k3 (by show ¬ _ = _; omega) (by show ¬ _ = _; omega) (by show ¬ _ = _; omega) (by omega) hl hn hT'
  clear k0 k1 k2 k3 hT' hT
  refine wpIn_rangeFunc_ownF rfl (by omega) (gf := 91) (lb := #[.pointer (some ⟨w.heap.size + 2, 0, none⟩), .pointer (some ⟨w.heap.size + 2 - 1, 0, none⟩), .pointer (some ⟨w.heap.size + 2 + 1, 0, none⟩)]) rfl trivial (enters_of Try.func91 (by kernel_rfl) rfl)
    hseq Keep.trans (fun W l o o' hle ho hc hwk => keep_b W o o' (by omega) ho) (Below.refl _ _) (fun _ => rfl)
    (fun pre W => (∃ v, W.cell? ⟨w.heap.size, 0, none⟩ = some (.float .f32 v) ∧ W.frozen? ⟨w.heap.size, 0, none⟩ = false ∧ cn v = (pre.map cn).getLastD (cn x0)) ∧ Below w.heap.size w W)
    (fun _ _ _ => False)
    (OwnFrom.and (Own.from (fun s A B row hs hg hr => by
      obtain ⟨v, h1, h2, h3⟩ := hs
      exact ⟨v, cell_kept h1 hg hr, (frozen_kept h1 hg hr).trans h2, h3⟩) _) (ownFrom_below (Nat.le_refl _) (by omega)))
    (fun _ _ _ _ _ hs _ _ => hs)
    ⟨⟨x0, c0, f0, rfl⟩, hB0⟩
    (fun y => { tmps := #[.slice A k c, .float .f32 x0, .func (.func pf) #[] #[], undef, undef, undef, .float .f32 0, .pointer (some ⟨w.heap.size, 0, none⟩), .float .f32 y, .float .f32 x0, .slice A k c, .float .f32 x0, .func (.func pf) #[] #[], .func (.func 91) #[] #[.pointer (some ⟨w.heap.size + 1 + 1, 0, none⟩), .pointer (some ⟨w.heap.size + 1, 0, none⟩), .pointer (some ⟨w.heap.size + 1 + 1 + 1, 0, none⟩)], .float .f32 y, undef, undef], defers := [] }) ?assign ?body ?done ?stop
  case assign =>
    intro l y W K hK
    gi_wp2
    exact hK
  case body =>
    rintro l pre y W ⟨⟨v, hc, hf, hv⟩, hB⟩ _
    have Hv := Lib.hid hv; clear hv
    gi_wp2
    refine ⟨KeepsOthers.setCell _ _ _, ⟨by simp [World.setCell], fun i _ hne => Below.heap_setCell _ _ _ _ hne⟩, ⟨y, World.cell?_setCell_same' _ _ _ (by rw [hc]; rfl), by rw [World.frozen?_setCell]; exact hf, ?_⟩, hB.setCell (p := ⟨w.heap.size, 0, none⟩) (Nat.le_refl _) _⟩
    simp
  case done =>
    rintro D ys W hD hS ⟨⟨v, hc, hf, hv⟩, hB⟩ hK
    have Hv := Lib.hid hv; have HS := Lib.hid hS; clear hv hS
    gi_wp2
    refine ⟨by simp, .inl ⟨_, _, rfl, run_takeDeferred hK, ?_⟩⟩
    refine ⟨_, results_tmp rfl _ _ _, v, rfl, ?_, hB.trans (belowK_b (w := w) (Nat.le_refl _) W D _ _ (by omega) hK rfl rfl)⟩
    rw [Hv.out, HS.out, axC_last]
  case stop =>
    rintro D c pre W _ _ h _
    exact h.elim
end Go.Proofs.Ytdfookgncokgjab
