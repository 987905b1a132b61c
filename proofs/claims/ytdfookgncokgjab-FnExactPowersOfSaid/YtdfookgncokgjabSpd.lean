/-
  The specification's list of speeds.
-/
import Derived.Test.YtdfookgncokgjabTorq
namespace Go.Proofs.Ytdfookgncokgjab
open Go.RowKit Go.ChangeShapes Go.WideShapes Go.Deep
set_option linter.unusedVariables false
set_option linter.unusedSimpArgs false
set_option maxRecDepth 100000 in
set_option maxHeartbeats 4000000 in
theorem l01Speeds_any (A : Option Addr) (n c : Nat) (ps : List Pr) (x0 : Nat) (w : World) (hl : ps.length = n) (hn : n ≤ 1048576) (hT : Tr w w.heap.size A ps) (hw : ∀ p ∈ ps, p.wf) (hok : okTr ps = true) :
    Calls Try.prog 53 #[.slice A n c, .float .f32 x0] w (FRow (axC gSpeed (cn x0) ps) w) := by
  obtain ⟨i0, hi, hz0, hz1, hz2⟩ := info_parts infoF32
  have Hl := Lib.hid hl; clear hl
  have HT := Lib.hid hT; clear hT
  have Hw := Lib.hid hw; clear hw
  have Hi := Lib.hid hi; clear hi
  have Hok := Lib.hid hok; clear hok
  go_enter Try.func53, Try.ntmps53
  go_wp2
  have Ho := Lib.hid (own_one w w.heap.size x0 (Nat.le_refl _))
  have B2 : Hid (Below w.heap.size w (w.alloc (.cells #[.float .f32 x0] 31))) := (Below.refl _ _).alloc (Nat.le_refl _) _
  have T2 : Hid (Tr (w.alloc (.cells #[.float .f32 x0] 31)) w.heap.size A ps) := HT.out.below B2.out (Nat.le_refl _)
  go_loopw [5, 6] (fun v i wr => ∃ (k : Nat) (pre : List Nat) (y : Nat), k ≤ n ∧ i = .int .i64 k ∧ pre.length = k ∧ wr.ownsRow w.heap.size 31 1 v (k + 1) ((pre ++ [y]).map (Value.float .f32)) ∧ (∀ rest, axC gSpeed (cn y) (ps.drop k) = cn y :: rest → pre.map cn ++ cn y :: rest = axC gSpeed (cn x0) ps) ∧ Below w.heap.size w wr ∧ Tr wr w.heap.size A ps) (fun _ i _ => n - (intOf i).toNat)
  case atStart => exact ⟨0, [], x0, Nat.zero_le _, rfl, rfl, Ho.out, fun rest h => by rw [List.drop_zero] at h; rw [h]; rfl, B2.out, T2.out⟩
  case round =>
    obtain ⟨k, pre, y, hk, rfl, hpl, hown, hax, hb, hT⟩ := hrel
    have Hpl := Lib.hid hpl; have Hax := Lib.hid hax; have Hb := Lib.hid hb; have HTr := Lib.hid hT
    clear hpl hax hb hT
    obtain ⟨g, cap, rfl, hg, hglt⟩ := hown.form (by omega)
    have Hown := Lib.hid hown; clear hown
    by_cases hlt : k < n
    · have hkl : k < ps.length := by have := Hl.out; omega
      obtain ⟨b, off, rfl, hbs, hc⟩ := HTr.out (by omega)
      obtain ⟨p, hp⟩ : ∃ p, ps[k]? = some p := ⟨_, List.getElem?_eq_getElem hkl⟩
      obtain ⟨c0, c1, c2⟩ := cells3 (hc k p hp)
      have cy : wr.cell? ⟨g, k, none⟩ = some (.float .f32 y) := own_cell Hown.out (by rw [List.map_append, List.getElem?_append_right (by rw [List.length_map, Hpl.out]; exact Nat.le_refl _), List.length_map, Hpl.out]; simp)
      obtain ⟨⟨a1, a2⟩, ⟨b1, b2⟩, _⟩ := teeth_bounds Hok.out (List.mem_of_getElem? hp)
      have hcall := fun w => l01Quotient_any w a1 a2 b1 b2
      have Hcall := Lib.hid hcall; have HQ := Lib.hid (cn_quoT a1 a2 b1 b2)
      clear hcall a1 a2 b1 b2
      have Hp := Lib.hid hp
      have Hbs := Lib.hid (own_base Hown.out)
      clear hc hkl hp
      have hbz : b < wr.heap.size := Nat.lt_of_lt_of_le hbs Hb.out.size
      have Hg := Lib.hid hg; clear hg
      have z3 : (k : Int) < (k : Int) + 1 := by omega
      have z1 : (0 : Int) ≤ (k : Int) := by omega
      have z2 : (k : Int) < (n : Int) := by omega
      obtain ⟨R, N, hR, hcR⟩ := f32_fun Try.prog .mul 31 rfl
      have HcR := Lib.hid hcR; clear hcR
      go_wp2_with fail
      go_region_law (first | (refine step_append_lies _ (by rfl) _ _ _ (by rfl) w.heap.size 31 i0 _ 1 4 Try.underlying32 Hi.out hz0 hz1 hz2 (by rfl) (by omega) _ (k + 1) _ (by rfl) ((own_heap (w := wr) (by rfl) Hown.out).alloc _) _ 1 _ [_] (by rfl) (by rfl) (World.news_of_block (cs := #[_]) (heap_alloc_new _ _)) (by intro u hu; simp at hu; subst hu; rfl) (by omega) (by unfold maxLen; omega) (by omega) (by have := Hb.out.size; simp; omega) _ (by rfl) ?_; intro g9 cap9 w9 hown9 hgrow9 hat9 hlt9) | (go_simp; go_at_call 79; refine (Hcall.out _).mono ?_; rintro e w1 ⟨rfl, rfl⟩; dsimp only))
      all_goals
        have hb9 : Below w.heap.size wr w9 := by
          refine Below.grown ?_ hgrow9 (by have := Hb.out.size; simp; omega) (fun k h => (Hbs.out k h).1)
          repeat (first | exact Below.refl _ _ | refine below_drewN ?_ _ | refine Below.drew ?_ | refine Below.alloc ?_ (by simpa using Hb.out.size) _)
        have T9 : Hid (Tr w9 w.heap.size (some ⟨b, off, none⟩) ps) := HTr.out.below hb9 (Nat.le_refl _)
        have B9 : Hid (Below w.heap.size w w9) := Hb.out.trans hb9
        have hv : cn (Op.negFloat .f32 (R y (quoT p.a p.b) wr.drew)) = gSpeed p (cn y) := by
          rw [cn_neg, HcR.out, HQ.out]
          rfl
        have Hinv : Hid (∀ rest, axC gSpeed (cn (Op.negFloat .f32 (R y (quoT p.a p.b) wr.drew))) (ps.drop (k + 1)) = cn (Op.negFloat .f32 (R y (quoT p.a p.b) wr.drew)) :: rest → (pre ++ [y]).map cn ++ cn (Op.negFloat .f32 (R y (quoT p.a p.b) wr.drew)) :: rest = axC gSpeed (cn x0) ps) := fun rest hrest => by
          have e1 : ps.drop k = p :: ps.drop (k + 1) := by
            obtain ⟨h1, h2⟩ := List.getElem?_eq_some_iff.1 Hp.out
            rw [List.drop_eq_getElem_cons h1, h2]
          have e2 := Hax.out (cn (Op.negFloat .f32 (R y (quoT p.a p.b) wr.drew)) :: rest) (by rw [e1, axC, ← hv, hrest])
          rw [List.map_append, List.append_assoc]
          exact e2
        have O9 : Hid (w9.ownsRow w.heap.size 31 1 (.slice (some ⟨g9, 0, none⟩) (k + 1 + 1) cap9) (k + 1 + 1) (((pre ++ [y]) ++ [Op.negFloat .f32 (R y (quoT p.a p.b) wr.drew)]).map (Value.float .f32))) := by
          rw [List.map_append]
          exact hown9
        have Hlen : Hid ((pre ++ [y]).length = k + 1) := by show _ = _; simp [Hpl.out]
        clear hb9 hv hown9 hgrow9 hat9 hlt9
        go_wp2
        go_roundw
        case rel => exact ⟨k + 1, pre ++ [y], Op.negFloat .f32 (R y (quoT p.a p.b) wr.drew), by omega, by go_num, Hlen.out, O9.out, Hinv.out, B9.out, T9.out⟩
        case measure => simp [intOf]; omega
    · have hkn : k = n := by omega
      subst hkn
      have hz := Hax.out [] (by rw [List.drop_eq_nil_of_le (by have := Hl.out; omega)]; rfl)
      have Hz := Lib.hid hz
      clear hz
      go_wp2
      go_ret
      refine ⟨_, pre ++ [y], rfl, ?_, by rw [List.map_append]; exact Hz.out, Hb.out⟩
      have := Hown.out
      rwa [show (pre ++ [y]).length = k + 1 by simp [Hpl.out]]
end Go.Proofs.Ytdfookgncokgjab
