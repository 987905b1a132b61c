/-
  The specification's lists of speeds, torques and powers.
-/
import Derived.Test.YtdfookgncokgjabDrive
import Derived.Test.YtdfookgncokgjabEff
namespace Go.Proofs.Ytdfookgncokgjab
open Go.RowKit Go.ChangeShapes Go.WideShapes Go.Deep
set_option linter.unusedVariables false
set_option linter.unusedSimpArgs false
theorem own_cell {w : World} {base : Nat} {e : TypeId} {g n cap : Nat} {xs : List Value} (h : w.ownsRow base e 1 (.slice (some ⟨g, 0, none⟩) n cap) n xs) {i : Nat} {u : Value} (hu : xs[i]? = some u) : w.cell? ⟨g, i, none⟩ = some u := by
  obtain ⟨h1, h2⟩ := h
  rcases h2 with ⟨h, _⟩ | ⟨g', cap', cur, he, hb, hh, hnc, hcap, hcs, ht⟩
  · cases h
  · simp only [Value.slice.injEq, Option.some.injEq, Addr.mk.injEq] at he
    obtain ⟨⟨rfl, _⟩, _, _⟩ := he
    rw [cell_of_row _ _ i _ _ _ hh]
    have hi : i < n := by have := (List.getElem?_eq_some_iff.1 hu).1; omega
    have e1 := congrArg (fun l => l[i]?) ht
    simp only [List.getElem?_take, hu] at e1
    rw [if_pos (by omega)] at e1
    simpa using e1
theorem own_one (w : World) (base : Nat) (x : Nat) (hb : base ≤ w.heap.size) : (w.alloc (.cells #[.float .f32 x] 31)).ownsRow base 31 1 (.slice (some ⟨w.heap.size, 0, none⟩) 1 1) 1 [.float .f32 x] :=
  ⟨by simp, .inr ⟨w.heap.size, 1, #[.float .f32 x], rfl, hb, heap_alloc_new w _, Nat.le_refl _, by decide, by simp, by simp⟩⟩
set_option maxRecDepth 100000 in
set_option maxHeartbeats 4000000 in
theorem l01Torques_any (A : Option Addr) (n c : Nat) (ps : List Pr) (x0 : Nat) (w : World) (hl : ps.length = n) (hn : n ≤ 1048576) (hT : Tr w w.heap.size A ps) (hw : ∀ p ∈ ps, p.wf) (hok : okTr ps = true) :
    Calls Try.prog 57 #[.slice A n c, .float .f32 x0] w (FRow (axC gTorque (cn x0) ps) w) := by
  obtain ⟨i0, hi, hz0, hz1, hz2⟩ := info_parts infoF32
  have Hl := Lib.hid hl; clear hl
  have HT := Lib.hid hT; clear hT
  have Hw := Lib.hid hw; clear hw
  have Hi := Lib.hid hi; clear hi
  have Hok := Lib.hid hok; clear hok
  go_enter Try.func57, Try.ntmps57
  go_wp2
  have Ho := Lib.hid (own_one w w.heap.size x0 (Nat.le_refl _))
  have B2 : Hid (Below w.heap.size w (w.alloc (.cells #[.float .f32 x0] 31))) := (Below.refl _ _).alloc (Nat.le_refl _) _
  have T2 : Hid (Tr (w.alloc (.cells #[.float .f32 x0] 31)) w.heap.size A ps) := HT.out.below B2.out (Nat.le_refl _)
  go_loopw [5, 6] (fun v i wr => ∃ (k : Nat) (pre : List Nat) (y : Nat), k ≤ n ∧ i = .int .i64 k ∧ pre.length = k ∧ wr.ownsRow w.heap.size 31 1 v (k + 1) ((pre ++ [y]).map (Value.float .f32)) ∧ (∀ rest, axC gTorque (cn y) (ps.drop k) = cn y :: rest → pre.map cn ++ cn y :: rest = axC gTorque (cn x0) ps) ∧ Below w.heap.size w wr ∧ Tr wr w.heap.size A ps) (fun _ i _ => n - (intOf i).toNat)
  case atStart => exact ⟨0, [], x0, Nat.zero_le _, rfl, rfl, Ho.out, fun rest h => by rw [List.drop_zero] at h; rw [h]; rfl, B2.out, T2.out⟩
  case round =>
    obtain ⟨k, pre, y, hk, rfl, hpl, hown, hax, hb, hT⟩ := hrel
    have Hpl := Lib.hid hpl; have Hax := Lib.hid hax; have Hb := Lib.hid hb; have HTr := Lib.hid hT
    clear hpl hax hb hT
    obtain ⟨g, cap, rfl, hg, hglt⟩ := hown.form (by omega)
    have Hown := Lib.hid hown; clear hown
    by_cases hlt : k < n
    · have hkl : k < ps.length := by have := Hl.out; omega
      obtain ⟨b, off, rfl, hbs, hc⟩ := HTr.out (by omega)
      obtain ⟨p, hp⟩ : ∃ p, ps[k]? = some p := ⟨_, List.getElem?_eq_getElem hkl⟩
      obtain ⟨c0, c1, c2⟩ := cells3 (hc k p hp)
      have cy : wr.cell? ⟨g, k, none⟩ = some (.float .f32 y) := own_cell Hown.out (by rw [List.map_append, List.getElem?_append_right (by rw [List.length_map, Hpl.out]; exact Nat.le_refl _), List.length_map, Hpl.out]; simp)
      obtain ⟨⟨a1, a2⟩, ⟨b1, b2⟩, _⟩ := teeth_bounds Hok.out (List.mem_of_getElem? hp)
      have hcall := fun w => l01Quotient_any w b1 b2 a1 a2
      have Hcall := Lib.hid hcall; have HQ := Lib.hid (cn_quoT b1 b2 a1 a2)
      clear hcall a1 a2 b1 b2
      have Hp := Lib.hid hp
      have Hbs := Lib.hid (own_base Hown.out)
      clear hc hkl hp
      have hbz : b < wr.heap.size := Nat.lt_of_lt_of_le hbs Hb.out.size
      have Hg := Lib.hid hg; clear hg
      have z3 : (k : Int) < (k : Int) + 1 := by omega
      go_wp2_with fail
      go_still_tail 15, (by kernel_rfl)
      still_call (Hcall.out _)
      refine wpStill_nil ?_
      change wpList _ _ _ _ _ wr.drew
      go_wp2_with (first | (refine wpList_f32 rfl _ _ _ _ _ _ _ rfl rfl rfl rfl ?_; intro r nd hr; have Hr := Lib.hid hr; clear hr) | (at_builtin; refine wpList_append_lies _ rfl _ _ _ rfl w.heap.size 31 i0 _ 1 4 Try.underlying32 Hi.out hz0 hz1 hz2 rfl (by omega) _ (k + 1) _ rfl ((own_heap (w := wr) (by rfl) Hown.out).alloc _) _ 1 _ [_] rfl rfl (World.news_of_block (cs := #[_]) (heap_alloc_new _ _)) (by intro u hu; simp at hu; subst hu; rfl) (by omega) (by unfold maxLen; omega) (by omega) (by have := Hb.out.size; simp; omega) _ rfl ?_; intro g9 cap9 w9 hown9 hgrow9 hat9 hlt9))
      rename_i r1 n1 H1 r2 n2 H2
      have hb9 : Below w.heap.size wr w9 := by
        refine Below.grown ?_ hgrow9 (by have := Hb.out.size; simp; omega) (fun k h => (Hbs.out k h).1)
        repeat (first | exact Below.refl _ _ | refine below_drewN ?_ _ | refine Below.drew ?_ | refine Below.alloc ?_ (by simpa using Hb.out.size) _)
      have T9 : Hid (Tr w9 w.heap.size (some ⟨b, off, none⟩) ps) := HTr.out.below hb9 (Nat.le_refl _)
      have B9 : Hid (Below w.heap.size w w9) := Hb.out.trans hb9
      have hv : cn (Op.negFloat .f32 r) = gTorque p (cn y) := by
        rw [cn_neg, Hr.out, H2.out, H1.out, HQ.out]
        rfl
      have Hinv : Hid (∀ rest, axC gTorque (cn (Op.negFloat .f32 r)) (ps.drop (k + 1)) = cn (Op.negFloat .f32 r) :: rest → (pre ++ [y]).map cn ++ cn (Op.negFloat .f32 r) :: rest = axC gTorque (cn x0) ps) := fun rest hrest => by
        have e1 : ps.drop k = p :: ps.drop (k + 1) := by
          obtain ⟨h1, h2⟩ := List.getElem?_eq_some_iff.1 Hp.out
          rw [List.drop_eq_getElem_cons h1, h2]
        have e2 := Hax.out (cn (Op.negFloat .f32 r) :: rest) (by rw [e1, axC, ← hv, hrest])
        rw [List.map_append, List.append_assoc]
        exact e2
      have O9 : Hid (w9.ownsRow w.heap.size 31 1 (.slice (some ⟨g9, 0, none⟩) (k + 1 + 1) cap9) (k + 1 + 1) (((pre ++ [y]) ++ [Op.negFloat .f32 r]).map (Value.float .f32))) := by
        rw [List.map_append]
        exact hown9
      have Hlen : Hid ((pre ++ [y]).length = k + 1) := by show _ = _; simp [Hpl.out]
      refine ⟨⟨k + 1, pre ++ [y], Op.negFloat .f32 r, by omega, by go_num, Hlen.out, O9.out, Hinv.out, B9.out, T9.out⟩, ?_⟩
      simp [intOf]; omega
    · have hkn : k = n := by omega
      subst hkn
      have hz := Hax.out [] (by rw [List.drop_eq_nil_of_le (by have := Hl.out; omega)]; rfl)
      have Hz := Lib.hid hz
      clear hz
      go_wp2
      go_ret
      refine ⟨_, pre ++ [y], rfl, ?_, by rw [List.map_append]; exact Hz.out, Hb.out⟩
      have := Hown.out
      rwa [show (pre ++ [y]).length = k + 1 by simp [Hpl.out]]
end Go.Proofs.Ytdfookgncokgjab
