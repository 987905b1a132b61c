/-
  What all axles carry.
-/
import Derived.Test.YtdfookgncokgjabLast
import Derived.Test.YtdfookgncokgjabDist
import Derived.Maps.AppendAt
import Derived.RangeFuncBox
namespace Go.Proofs.Ytdfookgncokgjab
open Go.RowKit Go.ChangeShapes Go.WideShapes Go.Deep Go.Shelf
attribute [local go_sem] Oper.semAt_some
set_option linter.unusedVariables false
set_option linter.unusedSimpArgs false
/-- The call returns a slice of numbers, known up to which NaN they are; it is the call's own. -/
def FRow (cs : List Nat) (w : World) (e : Ending) (w' : World) : Prop :=
  ∃ (v : Value) (fs : List Nat), e = .returned v ∧ w'.ownsRow w.heap.size 31 1 v fs.length (fs.map (Value.float .f32)) ∧ fs.map cn = cs ∧ Below w.heap.size w w'
set_option maxRecDepth 100000 in
set_option maxHeartbeats 2000000 in
theorem allAxles_any (pf : Nat) (g : Pr → Nat → Nat)
    (hpf : ∀ (p : Pr) (y : Nat) (w : World), Calls Try.prog pf #[.agg #[.int .i16 p.a, .int .i16 p.b, .float .f32 p.l], .float .f32 y] w (FB (g p (cn y)) w))
    (hen : ∀ args w, (callFunc pf args).run Try.prog w = .ok (.enter pf args) w)
    (A : Option Addr) (k c : Nat) (ps : List Pr) (x0 : Nat) (w : World) (hl : ps.length = k) (hn : k ≤ 1048576) (hT : Tr w w.heap.size A ps) :
    Calls Try.prog 55 #[.slice A k c, .float .f32 x0, .func (.func pf) #[] #[]] w (FRow (axC g (cn x0) ps) w) := by
  obtain ⟨i0, hi, hz0, hz1, hz2⟩ := info_parts infoF32
  have Hi := Lib.hid hi; clear hi
  refine (callsIn_wide (n := 9)).1 ?_
  refine callsIn_of_wp_marks Try.func55 rfl trivial ?_ rfl
  simp only [Try.ntmps55, List.size_toArray, List.length_cons, List.length_nil, Nat.reduceAdd, Nat.reduceSub, Array.replicate_succ, Array.replicate_zero, List.push_toArray, List.append_toArray, List.nil_append, List.cons_append]
  gi_wp2_with (gi_at_make; refine wpListIn_make_own _ rfl _ _ 32 rfl w.heap.size 31 i0 _ 1 Try.underlying32 Hi.out hz0 hz1 _ _ _ (k + 1) rfl rfl (by omega) (by rw [hz2]; omega) (by unfold maxLen; omega) (Nat.le_refl _) ?_)
  intro w2 hown hgrow
  have B2 : Hid (Below w.heap.size w w2) := (Below.refl _ _).grown hgrow (Nat.le_refl _) (fun k h => by cases h)
  have s2 : Hid (w.heap.size < w2.heap.size) := (own_base hown _ rfl).2
  have Ho := Lib.hid hown
  clear hown hgrow
  gi_wp2
  refine ⟨trivial, ?_⟩
  refine (axles_in 8 A k c x0 pf _).mono ?_
  rintro e w' ⟨rfl, rfl⟩
  gi_wp2
  obtain ⟨S, hS⟩ : ∃ S, w2.heap.size = S := ⟨_, rfl⟩
  have hwS : w.heap.size < S := by have := s2.out; omega
  obtain ⟨W0, hW0⟩ : ∃ W0, (((w2.alloc (.cells #[.slice (some ⟨w.heap.size, 0, none⟩) 0 (k + 1)] 32)).alloc (.cells #[.slice A k c] 27)).alloc (.cells #[.float .f32 x0] 31)).alloc (.cells #[.func (.func pf) #[] #[]] 67) = W0 := ⟨_, rfl⟩
  have hsz : W0.heap.size = S + 4 := by rw [← hW0, ← hS]; simp
  have hB0 : Below S w2 W0 := by
    rw [← hW0]
    exact ((((Below.refl _ _).alloc (by omega) _).alloc (by simp only [World.size_alloc]; omega) _).alloc (by simp only [World.size_alloc]; omega) _).alloc (by simp only [World.size_alloc]; omega) _
  have k0 : Boxed W0 S 32 (.slice (some ⟨w.heap.size, 0, none⟩) 0 (k + 1)) := by
    rw [← hW0, ← hS]
    exact (((Boxed.new w2 _ _).alloc _).alloc _).alloc _
  have k1 : W0.heap[S + 1]? = some (.cells #[.slice A k c] 27 (0, 0)) := by
    rw [← hW0, ← hS]
    rw [Below.heap_alloc _ _ _ (by simp only [World.size_alloc]; omega), Below.heap_alloc _ _ _ (by simp)]
    have := heap_alloc_new (w2.alloc (.cells #[.slice (some ⟨w.heap.size, 0, none⟩) 0 (k + 1)] 32)) (.cells #[.slice A k c] 27)
    simpa using this
  have k2 : W0.heap[S + 2]? = some (.cells #[.float .f32 x0] 31 (0, 0)) := by
    rw [← hW0, ← hS]
    rw [Below.heap_alloc _ _ _ (by simp)]
    have := heap_alloc_new ((w2.alloc (.cells #[.slice (some ⟨w.heap.size, 0, none⟩) 0 (k + 1)] 32)).alloc (.cells #[.slice A k c] 27)) (.cells #[.float .f32 x0] 31)
    simpa using this
  have k3 : W0.heap[S + 3]? = some (.cells #[.func (.func pf) #[] #[]] 67 (0, 0)) := by
    rw [← hW0, ← hS]
    have := heap_alloc_new (((w2.alloc (.cells #[.slice (some ⟨w.heap.size, 0, none⟩) 0 (k + 1)] 32)).alloc (.cells #[.slice A k c] 27)).alloc (.cells #[.float .f32 x0] 31)) (.cells #[.func (.func pf) #[] #[]] 67)
    simpa using this
  have o0 : W0.ownsRow w.heap.size 31 1 (.slice (some ⟨w.heap.size, 0, none⟩) 0 (k + 1)) 0 [] := by
    rw [← hW0]
    exact (((Ho.out.alloc _).alloc _).alloc _).alloc _
  have b0 : Below w.heap.size w W0 := B2.out.trans (hB0.mono (Nat.le_of_lt hwS))
  have hT' : 0 < ps.length → ∃ b off, A = some ⟨b, off, none⟩ ∧ b < S + 4 ∧ ¬ (b = w.heap.size ∨ b = S) ∧ ∀ i p, ps[i]? = some p → W0.rangeAt b (off + i * 3) p.cells := fun h0 => by
    obtain ⟨b, off, e, hlt, hc⟩ := hT h0
    exact ⟨b, off, e, by omega, by omega, fun i p hp => rangeAt_of_block (hc i p hp) (b0.block b hlt)⟩
  simp only [hS, hW0]
  clear hW0
  have hseq := axles_stops 8 pf g hpf hen (S + 4) (fun j => j = w.heap.size ∨ j = S) W0 hsz (S + 2) x0 A k c ps k2 k1 k3 (by show ¬ (_ ∨ _); omega) (by show ¬ (_ ∨ _); omega) (by show ¬ (_ ∨ _); omega) (by omega) hl hn hT'
  clear k1 k2 k3 hT' hT
  refine wpIn_rangeFunc_ownF rfl (by omega) (gf := 91) (lb := #[.pointer (some ⟨S + 2, 0, none⟩), .pointer (some ⟨S + 2 - 1, 0, none⟩), .pointer (some ⟨S + 2 + 1, 0, none⟩)]) rfl trivial (enters_of Try.func91 (by kernel_rfl) rfl)
    hseq Keep.trans (fun W l o o' hle ho hc hwk => keep_b W o o' (by omega) ho) (Below.refl _ _) (fun _ => rfl)
    (fun (pre : List Nat) W => (∃ v, Boxed W S 32 v ∧ W.ownsRow w.heap.size 31 1 v pre.length (pre.map (Value.float .f32)) ∧ v = .slice (some ⟨w.heap.size, 0, none⟩) pre.length (k + 1)) ∧ Below w.heap.size W0 W)
    (fun _ _ _ => False)
    (OwnFrom.and (Own.from (holdsRow_own w.heap.size S 32 31 1 (fun pre : List Nat => pre.length) (fun pre : List Nat => pre.map (Value.float .f32)) (fun (pre : List Nat) v => v = .slice (some ⟨w.heap.size, 0, none⟩) pre.length (k + 1))) _) (ownFrom_below (by omega) (by omega)))
    (fun _ _ _ _ _ hs _ _ => hs)
    ⟨⟨_, k0, o0, rfl⟩, Below.refl _ _⟩
    (fun y => { tmps := #[.slice A k c, .float .f32 x0, .func (.func pf) #[] #[], undef, undef, undef, .slice none 0 0, .pointer (some ⟨S, 0, none⟩), .float .f32 y, .slice A k c, .int .i64 k, .int .i64 (k + 1), .slice (some ⟨w.heap.size, 0, none⟩) 0 (k + 1), .slice A k c, .float .f32 x0, .func (.func pf) #[] #[], .func (.func 91) #[] #[.pointer (some ⟨S + 1 + 1, 0, none⟩), .pointer (some ⟨S + 1, 0, none⟩), .pointer (some ⟨S + 1 + 1 + 1, 0, none⟩)], .float .f32 y, undef, undef, undef, undef, undef], defers := [] }) ?assign ?body ?done ?stop
  case assign =>
    intro l y W K hK
    gi_wp2
    exact hK
  case body =>
    rintro l pre y W ⟨⟨v, hbx, hrow, rfl⟩, hB⟩ hlen
    have hc := hbx.cell
    have Hbx := Lib.hid hbx; have Hrow := Lib.hid hrow; have HB := Lib.hid hB
    clear hbx hrow hB
    have hlt : pre.length < k + 1 := hlen
    gi_wp2_with (gi_at_builtin; refine wpListIn_append_fits _ rfl _ _ 32 rfl w.heap.size 31 i0 1 Try.underlying32 Hi.out hz1 w.heap.size pre.length (k + 1) _ rfl (Hrow.out.alloc _) ⟨W.heap.size, 0, none⟩ 1 1 [.float .f32 y] rfl rfl (cell_one_new _ _ _) (by simp [Value.oneCell']) (by omega) ?_; intro w1 hown' hgrow; obtain ⟨hv1, hv2, hr2, hk2, hb2⟩ := Hbx.out.appended (by decide) Hrow.out (by have := HB.out.size; omega) (Nat.le_of_lt hwS) hown' hgrow; have hc1 := hv1.cell; have hf1 := hv1.frozen)
    have hszW : S + 4 ≤ W.heap.size := by have := HB.out.size; omega
    refine ⟨hk2, ⟨hb2.size, fun j hj hx => ?_⟩, ⟨_, hv2, by simpa using hr2, by simp⟩, HB.out.trans hb2⟩
    have hx' : ¬ (j = w.heap.size ∨ j = S) := hx
    refine (Below.heap_setCell _ _ _ _ (fun e => hx' (Or.inr e))).trans ((hgrow.block j (by simp; omega) (fun e => by cases e; exact hx' (Or.inl rfl))).trans (Below.heap_alloc _ _ _ (by omega)))
  case done =>
    rintro D ys W hD hS ⟨⟨v, hbx, hrow, rfl⟩, hB⟩ hK
    have hc := hbx.cell
    have Hrow := Lib.hid hrow; have HS := Lib.hid hS; clear hrow hS
    gi_wp2
    refine ⟨by simp, .inl ⟨_, _, rfl, run_takeDeferred hK, ?_⟩⟩
    refine ⟨_, results_tmp rfl _ _ _, _, ys, rfl, ownsRow_putObj Hrow.out _ hK rfl, HS.out, ?_⟩
    exact b0.trans (hB.trans (belowK_b (w := w) (Nat.le_refl _) W D _ _ (by omega) hK rfl rfl))
  case stop =>
    rintro D c pre W _ _ h _
    exact h.elim
end Go.Proofs.Ytdfookgncokgjab
