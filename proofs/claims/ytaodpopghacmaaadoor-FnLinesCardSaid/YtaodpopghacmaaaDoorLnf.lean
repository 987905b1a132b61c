/-
  'AnswerOf' of both sides.
-/
import Derived.Test.YtaodpopghacmaaaDoorLne
import Derived.Test.YtaodpopghacmaaaDoorLnc
namespace Go.Proofs.YtaodpopghacmaaaDoor
open Go.RowKit Go.ChangeShapes Go.WideShapes Go.Deep
attribute [local go_sem ↓] Go.wp_at_zero Go.wp_at_succ
set_option linter.unusedVariables false
set_option linter.unusedSimpArgs false
set_option maxRecDepth 100000
/-- Two slices of numbers, the call's own and apart, and a code. -/
def FLC2 (cs ds : List Nat) (k : Int) (w : World) (e : Ending) (w' : World) : Prop :=
  ∃ A n c fs A' n' c' gs, e = .returned (.tuple #[.slice A n c, .slice A' n' c', .int .i64 k]) ∧
    fs.length = n ∧ fs.map cn = cs ∧ Fl w' w.heap.size w'.heap.size A fs ∧ (0 < n → ∃ b, A = some ⟨b, 0, none⟩ ∧ w'.there b 0 n) ∧ (∀ a, A = some a → w.heap.size ≤ a.block ∧ a.block < w'.heap.size) ∧
    gs.length = n' ∧ gs.map cn = ds ∧ Fl w' w.heap.size w'.heap.size A' gs ∧ (0 < n' → ∃ b, A' = some ⟨b, 0, none⟩ ∧ w'.there b 0 n') ∧ (∀ a, A' = some a → w.heap.size ≤ a.block ∧ a.block < w'.heap.size) ∧
    (∀ a a', A = some a → A' = some a' → a.block ≠ a'.block) ∧ Below w.heap.size w w'
theorem flc2_of_rows {w w' : World} {v u : Value} {n m : Nat} {fs gs : List Nat} {k : Int} (h : w'.ownsRow w.heap.size 26 1 v n (fs.map (Value.float .f32))) (h' : w'.ownsRow w.heap.size 26 1 u m (gs.map (Value.float .f32))) (ha : Apart2 v u) (hb : Below w.heap.size w w') :
    FLC2 (fs.map cn) (gs.map cn) k w (.returned (.tuple #[v, u, .int .i64 k])) w' := by
  obtain ⟨A, n1, c1, f1, e1, a1, a2, a3, a4, a5, _⟩ := flc_of_row (k := k) h hb
  obtain ⟨A', n2, c2, f2, e2, b1, b2, b3, b4, b5, _⟩ := flc_of_row (k := k) h' hb
  have hv : v = .slice A n1 c1 := by simpa using e1
  have hu : u = .slice A' n2 c2 := by simpa using e2
  subst hv hu
  refine ⟨A, n1, c1, f1, A', n2, c2, f2, rfl, a1, a2, a3, a4, a5, b1, b2, b3, b4, b5, fun x y hx hy hxy => ?_, hb⟩
  subst hx hy
  have hown : ∀ (z : Addr) (p c : Nat) (q : List Value) {W : World} {B : Nat} {e : TypeId}, W.ownsRow B e 1 (.slice (some z) p c) p q ∨ True → True := fun _ _ _ _ => fun _ => trivial
  rcases h.2 with ⟨h1, _⟩ | ⟨g, cap, cur, h1, _⟩
  · cases h1
  · rcases h'.2 with ⟨h2, _⟩ | ⟨g', cap', cur', h2, _⟩
    · cases h2
    · cases h1
      cases h2
      exact ha g rfl (by rw [show g = g' from hxy]; rfl)
def listA (ds : List Dc) (q : Nat) (K : Int) (F : List Dc → Nat → Nat → Nat) : List Nat := if K = 0 then (List.range ds.length).map (F ds q) else []
theorem codeL_cases {ds : List Dc} {q : Nat} {K : Int} (h : codeL ds q = K) : K = 0 ∨ K = 1 ∨ K = 2 := by
  subst h
  unfold codeL
  split
  · split <;> simp
  · simp
theorem codeL_ok {ds : List Dc} {q : Nat} (h : codeL ds q = 0) : okLine ds = true ∧ psB q = true := by
  unfold codeL at h
  cases h1 : okLine ds <;> cases h2 : psB q <;> simp_all
theorem codeL_range {ds : List Dc} {q : Nat} (h : codeL ds q = 2) : okLine ds = true ∧ psB q = false := by
  unfold codeL at h
  cases h1 : okLine ds <;> cases h2 : psB q <;> simp_all
theorem codeL_bad {ds : List Dc} {q : Nat} (h : codeL ds q = 1) : okLine ds = false := by
  unfold codeL at h
  cases h1 : okLine ds <;> cases h2 : psB q <;> simp_all
theorem okLine_len {ds : List Dc} (h : okLine ds = true) : 2 ≤ ds.length ∧ ds.length ≤ 10 := by
  unfold okLine fewD at h
  simp at h
  exact h.1
theorem listA_le (ds : List Dc) (q : Nat) (F : List Dc → Nat → Nat → Nat) : (listA ds q (codeL ds q) F).length ≤ 10 := by
  unfold listA
  by_cases h : codeL ds q = 0
  · rw [if_pos h]
    have := okLine_len (codeL_ok h).1
    simpa using this.2
  · rw [if_neg h]
    simp
set_option maxHeartbeats 2000000 in
theorem specAnswerOf_any (A : Option Addr) (n c : Nat) (ds : List Dc) (q : Nat) (w : World) (hl : ds.length = n) (hn : n ≤ 1048576) (hT : Dc.L w w.heap.size A ds) :
    Calls Tryd.prog 8 #[.slice A n c, .float .f32 q] w (FLC2 (listA ds q (codeL ds q) swC) (listA ds q (codeL ds q) twC) (codeL ds q) w) := by
  have hv := Lib.hid (l07Asked_any A n c ds q w hl hn hT)
  obtain ⟨K, hK⟩ : ∃ K, codeL ds q = K := ⟨_, rfl⟩
  rw [hK] at hv
  have HK := Lib.hid hK
  have hc := codeL_cases hK
  rw [hK]
  have Hl := Lib.hid hl; have HT := Lib.hid hT
  clear hK hl hT
  by_cases h0 : K = 0
  · subst h0
    clear hc
    unfold listA
    rw [if_pos rfl, if_pos rfl, Hl.out]
    have h2 : 1 ≤ n := by have := okLine_len (codeL_ok HK.out).1; have := Hl.out; omega
    go_enter Tryd.func8, Tryd.ntmps8
    go_wp2_with fail
    refine hv.out.mono ?_
    rintro e w1 ⟨rfl, b1⟩
    have B1 := Lib.hid b1
    have hT1 := Lib.hid (HT.out.keep b1)
    clear b1
    go_wp2_with fail
    refine (specAnswer_any A n c ds q _ Hl.out h2 hn hT1.out).mono ?_
    rintro e w2 ⟨v, u, ss, ts, rfl, o1, o2, ap, hs, ht, b2⟩
    have O1 := Lib.hid (own_more o1 B1.out.size); have O2 := Lib.hid (own_more o2 B1.out.size); have AP := Lib.hid ap; have HS := Lib.hid hs; have HTt := Lib.hid ht
    have B2 : Hid (Below w.heap.size w w2) := b_then B1.out b2
    clear o1 o2 ap hs ht b2
    go_wp2
    go_ret3
    rw [← HS.out, ← HTt.out]
    exact flc2_of_rows O1.out O2.out AP.out B2.out
  · unfold listA
    rw [if_neg h0, if_neg h0]
    go_enter Tryd.func8, Tryd.ntmps8
    go_wp2_with fail
    refine hv.out.mono ?_
    rintro e w1 ⟨rfl, b1⟩
    have B1 := Lib.hid b1
    clear b1
    go_wp2
    go_ret3
    have hz1 : (w1.alloc (.cells #[] 26)).heap.size = w1.heap.size + 1 := by simp
    refine flc2_of_rows (fs := []) (gs := []) ((own_empty w1 w.heap.size 26 1 B1.out.size).alloc _) (own_emptyS (by simp) 26 1 (by have := B1.out.size; omega)) (fun k hk hk' => ?_) (b_alloc (b_alloc B1.out _) _)
    cases hk
    simp [Value.ownBlock] at hk'
theorem shaft_any (A : Option Addr) (n c : Nat) (ds : List Dc) (r : Bool) (w : World) (hl : ds.length = n) (hn : n ≤ 1048576) (hT : Dc.L w w.heap.size A ds) :
    Calls Tryd.prog 18 #[.slice A n c, .bool r] w (RV (shaftV (codeSh ds r) A n c) w) := by
  unfold codeSh
  cases ht : okLine ds
  · exact shaft_no A n c ds r ht w hl hn hT
  · cases r
    · exact shaft_far A n c ds ht w hl hn hT
    · exact shaft_ok A n c ds ht w hl hn hT
set_option maxHeartbeats 2000000 in
theorem implAnswerOf_any (A : Option Addr) (n c : Nat) (ds : List Dc) (q : Nat) (w : World) (hE : EtAt w) (hl : ds.length = n) (hn : n ≤ 1048576) (hT : Dc.L w w.heap.size A ds) :
    Calls Tryd.prog 7 #[.slice A n c, .float .f32 q] w (FLC2 (listA ds q (codeL ds q) swC) (listA ds q (codeL ds q) twC) (codeL ds q) w) := by
  have hv := shaft_any A n c ds (psB q) w hl hn hT
  rw [show codeSh ds (psB q) = codeL ds q from rfl] at hv
  obtain ⟨K, hK⟩ : ∃ K, codeL ds q = K := ⟨_, rfl⟩
  rw [hK] at hv
  have HK := Lib.hid hK
  have hc := codeL_cases hK
  rw [hK]
  have Hl := Lib.hid hl; have HT := Lib.hid hT; have HE := Lib.hid hE
  have hp := Lib.hid (fun w => isPlainSize_any q w)
  obtain ⟨t, ht⟩ : ∃ t, psB q = t := ⟨_, rfl⟩
  rw [ht] at hv hp
  clear hK hl hT hE ht
  by_cases h0 : K = 0
  · subst h0
    clear hc
    unfold listA
    rw [if_pos rfl, if_pos rfl, Hl.out]
    have hv2 := Lib.hid (show Calls Tryd.prog 18 #[.slice A n c, .bool t] w (RV (.tuple #[.slice A n c, .nilIface]) w) from hv)
    clear hv
    have n1 : ∀ w, (binOp .neq 43 .nilIface .nilIface).run Tryd.prog w = .ok (.bool false) w := fun w => by kernel_rfl
    go_enter Tryd.func7, Tryd.ntmps7
    go_wp2_with fail
    refine (hp.out _).mono ?_
    rintro e w0 ⟨rfl, rfl⟩
    go_wp2_with fail
    refine hv2.out.mono ?_
    rintro e w1 ⟨rfl, b1⟩
    have B1 := Lib.hid b1
    have hT1 := Lib.hid (HT.out.keep b1)
    clear b1
    go_wp2_with fail
    refine (answer_any A n c ds q _ Hl.out hn hT1.out).mono ?_
    rintro e w2 ⟨v, u, ss, ts, rfl, o1, o2, ap, hs, ht, b2⟩
    have O1 := Lib.hid (own_more o1 B1.out.size); have O2 := Lib.hid (own_more o2 B1.out.size); have AP := Lib.hid ap; have HS := Lib.hid hs; have HTt := Lib.hid ht
    have B2 : Hid (Below w.heap.size w w2) := b_then B1.out b2
    clear o1 o2 ap hs ht b2
    go_wp2
    go_ret3
    rw [← HS.out, ← HTt.out]
    exact flc2_of_rows O1.out O2.out AP.out B2.out
  · unfold listA
    rw [if_neg h0, if_neg h0]
    have hv2 := Lib.hid (show Calls Tryd.prog 18 #[.slice A n c, .bool t] w (RV (.tuple #[.slice none 0 0, .iface 67 (.int .i64 K)]) w) by unfold shaftV at hv; rw [if_neg h0] at hv; exact hv)
    clear hv hc
    have n1 := run_neq_iface_nil (P := Tryd.prog)
    have n2 := is_error
    go_enter Tryd.func7, Tryd.ntmps7
    go_wp2_with fail
    refine (hp.out _).mono ?_
    rintro e w0 ⟨rfl, rfl⟩
    go_wp2_with fail
    refine hv2.out.mono ?_
    rintro e w1 ⟨rfl, b1⟩
    have B1 := Lib.hid b1
    have E1 := Lib.hid (EtAt.on HE.out (by rfl) b1)
    clear b1
    go_wp2_with fail
    refine (refusedCode_ok K _ E1.out).mono ?_
    rintro e w2 ⟨rfl, b2⟩
    have B2 : Hid (Below w.heap.size w w2) := b_then B1.out b2
    clear b2
    go_wp2
    go_ret3
    exact flc2_of_rows (fs := []) (gs := []) (World.ownsRow_nil _ _ _ _) (World.ownsRow_nil _ _ _ _) (fun k hk => by cases hk) B2.out
end Go.Proofs.YtaodpopghacmaaaDoor
