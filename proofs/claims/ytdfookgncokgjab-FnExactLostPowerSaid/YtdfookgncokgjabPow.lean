/-
  The powers of all axles: the specification's list.
-/
import Derived.Test.YtdfookgncokgjabSpd
namespace Go.Proofs.Ytdfookgncokgjab
open Go.RowKit Go.ChangeShapes Go.WideShapes Go.Deep
attribute [local go_sem ↓] Go.wp_at_zero Go.wp_at_succ
set_option linter.unusedVariables false
set_option linter.unusedSimpArgs false
def powL (xs ys : List Nat) : List Nat := List.zipWith (f2 .mul) xs ys
def powC (ps : List Pr) (x y : Nat) : List Nat := powL (axC gSpeed (cn x) ps) (axC gTorque (cn y) ps)
theorem powC_len (ps : List Pr) (x y : Nat) : (powC ps x y).length = ps.length + 1 := by
  unfold powC powL
  rw [List.length_zipWith, axC_len, axC_len, Nat.min_self]
theorem powC_at {ps : List Pr} {x y k f g : Nat} {fs gs : List Nat} (hf : fs.map cn = axC gSpeed (cn x) ps) (hg : gs.map cn = axC gTorque (cn y) ps) (h1 : fs[k]? = some f) (h2 : gs[k]? = some g) : (powC ps x y)[k]? = some (f2 .mul (cn f) (cn g)) := by
  unfold powC powL
  rw [← hf, ← hg, List.getElem?_zipWith]
  simp [h1, h2]
/-- The row of block g is known: its numbers, where it lies. -/
def RowAt (w : World) (g : Nat) (fs : List Nat) : Prop := g < w.heap.size ∧ ∀ i f, fs[i]? = some f → w.cell? ⟨g, i, none⟩ = some (.float .f32 f)
theorem RowAt.below {w w' : World} {g : Nat} {fs : List Nat} (h : RowAt w g fs) (hb : Below w.heap.size w w') : RowAt w' g fs :=
  ⟨Nat.lt_of_lt_of_le h.1 hb.size, fun i f hf => (World.cell?_of_block (a := ⟨g, i, none⟩) (hb.block g h.1)).trans (h.2 i f hf)⟩
theorem rowAt_of {w : World} {base : Nat} {g n cap : Nat} {fs : List Nat} (h : w.ownsRow base 31 1 (.slice (some ⟨g, 0, none⟩) n cap) n (fs.map (Value.float .f32))) (hg : g < w.heap.size) : RowAt w g fs :=
  ⟨hg, fun i f hf => own_cell h (by rw [List.getElem?_map, hf]; rfl)⟩
set_option maxRecDepth 100000 in
set_option maxHeartbeats 4000000 in
theorem l01Powers_any (A : Option Addr) (n c : Nat) (ps : List Pr) (x0 y0 : Nat) (w : World) (hl : ps.length = n) (hn : n ≤ 1048576) (hT : Tr w w.heap.size A ps) (hw : ∀ p ∈ ps, p.wf) (hok : okTr ps = true) :
    Calls Try.prog 59 #[.slice A n c, .float .f32 x0, .float .f32 y0] w (FRow (powC ps x0 y0) w) := by
  obtain ⟨i0, hi, hz0, hz1, hz2⟩ := info_parts infoF32
  have Hl := Lib.hid hl; clear hl
  have HT := Lib.hid hT; clear hT
  have Hw := Lib.hid hw; clear hw
  have Hi := Lib.hid hi; clear hi
  have Hok := Lib.hid hok; clear hok
  go_enter Try.func59, Try.ntmps59
  go_wp2_with fail
  refine (l01Speeds_any _ _ _ ps _ _ Hl.out hn HT.out Hw.out Hok.out).mono ?_
  rintro e w1 ⟨v1, fs, rfl, r1, hc1, b1⟩
  have B1 := Lib.hid b1
  have T1 := Lib.hid (HT.out.keep b1)
  have hfl : fs.length = n + 1 := by have := congrArg List.length hc1; rw [List.length_map, axC_len] at this; have := Hl.out; omega
  rw [hfl] at r1
  obtain ⟨g1, cap1, rfl, hg1, hg1lt⟩ := r1.form (by omega)
  have R1 := Lib.hid (rowAt_of r1 hg1lt)
  have C1 := Lib.hid hc1; have F1 := Lib.hid hfl
  clear r1 hc1 hfl b1 hg1 hg1lt
  go_wp2_with fail
  refine (l01Torques_any _ _ _ ps _ _ Hl.out hn T1.out Hw.out Hok.out).mono ?_
  rintro e w2 ⟨v2, gs, rfl, r2, hc2, b2⟩
  have B2 := Lib.hid (bthen B1.out b2)
  have R1' := Lib.hid (R1.out.below b2)
  have hgl : gs.length = n + 1 := by have := congrArg List.length hc2; rw [List.length_map, axC_len] at this; have := Hl.out; omega
  rw [hgl] at r2
  obtain ⟨g2, cap2, rfl, hg2, hg2lt⟩ := r2.form (by omega)
  have R2 := Lib.hid (rowAt_of r2 hg2lt)
  have C2 := Lib.hid hc2; have F2 := Lib.hid hgl
  clear r2 hc2 hgl b2 hg2 hg2lt
  go_wp2
  have Ho : Hid ((w2.alloc (.cells #[] 31)).ownsRow w2.heap.size 31 1 (.slice (some ⟨w2.heap.size, 0, none⟩) 0 0) 0 []) := own_empty w2 w2.heap.size 31 1 (Nat.le_refl _)
  have B3 : Hid (Below w2.heap.size w2 (w2.alloc (.cells #[] 31))) := (Below.refl _ _).alloc (Nat.le_refl _) _
  go_loopw [9, 10] (fun v i wr => ∃ (k : Nat) (hs : List Nat), k ≤ n + 1 ∧ i = .int .i64 k ∧ wr.ownsRow w2.heap.size 31 1 v k (hs.map (Value.float .f32)) ∧ hs.map cn = (powC ps x0 y0).take k ∧ Below w2.heap.size w2 wr) (fun _ i _ => n + 1 - (intOf i).toNat)
  case atStart => exact ⟨0, [], Nat.zero_le _, rfl, Ho.out, rfl, B3.out⟩
  case round =>
    obtain ⟨k, hs, hk, rfl, hown, hcs, hb⟩ := hrel
    have Hown := Lib.hid hown; have Hcs := Lib.hid hcs; have Hb := Lib.hid hb
    clear hown hcs hb
    by_cases hlt : k < n + 1
    · obtain ⟨f, hf⟩ : ∃ f, fs[k]? = some f := ⟨_, List.getElem?_eq_getElem (by have := F1.out; omega)⟩
      obtain ⟨g, hg⟩ : ∃ g, gs[k]? = some g := ⟨_, List.getElem?_eq_getElem (by have := F2.out; omega)⟩
      have cf := (R1'.out.below Hb.out).2 k f hf
      have cg := (R2.out.below Hb.out).2 k g hg
      have hpc := Lib.hid (powC_at C1.out C2.out hf hg)
      have Hbs := Lib.hid (own_base Hown.out)
      clear hf hg
      have z1 : (0 : Int) ≤ (k : Int) := by omega
      have z2 : (k : Int) < (n : Int) + 1 := by omega
      obtain ⟨R, N, hR, hcR⟩ := f32_fun Try.prog .mul 31 rfl
      have HcR := Lib.hid hcR; clear hcR
      go_wp2_with fail
      go_region_law (refine step_append_lies _ (by rfl) _ _ _ (by rfl) w2.heap.size 31 i0 _ 1 4 Try.underlying32 Hi.out hz0 hz1 hz2 (by rfl) (by omega) _ k _ (by rfl) ((own_heap (w := wr) (by rfl) Hown.out).alloc _) _ 1 _ [_] (by rfl) (by rfl) (World.news_of_block (cs := #[_]) (heap_alloc_new _ _)) (by intro u hu; simp at hu; subst hu; rfl) (by omega) (by unfold maxLen; omega) (by omega) (by have := Hb.out.size; simp; omega) _ (by rfl) ?_; intro g9 cap9 w9 hown9 hgrow9 hat9 hlt9)
      all_goals
        have hb9 : Below w2.heap.size wr w9 := by
          refine Below.grown ?_ hgrow9 (by have := Hb.out.size; simp; omega) (fun k h => (Hbs.out k h).1)
          repeat (first | exact Below.refl _ _ | refine below_drewN ?_ _ | refine Below.drew ?_ | refine Below.alloc ?_ (by simpa using Hb.out.size) _)
        have B9 : Hid (Below w2.heap.size w2 w9) := Hb.out.trans hb9
        have O9 : Hid (w9.ownsRow w2.heap.size 31 1 (.slice (some ⟨g9, 0, none⟩) (k + 1) cap9) (k + 1) ((hs ++ [R f g wr.drew]).map (Value.float .f32))) := by
          rw [List.map_append]
          exact hown9
        have e9 : Hid ((hs ++ [R f g wr.drew]).map cn = (powC ps x0 y0).take (k + 1)) := by
          show _ = _
          rw [List.take_add_one, hpc.out, List.map_append, Hcs.out]
          simp only [List.map_cons, List.map_nil, HcR.out, Option.toList]
        clear hb9 hown9 hgrow9 hat9 hlt9 cf cg
        go_wp2
        go_roundw
        case rel => exact ⟨k + 1, hs ++ [R f g wr.drew], by omega, by go_num, O9.out, e9.out, B9.out⟩
        case measure => simp [intOf]; omega
    · have hkn : k = n + 1 := by omega
      subst hkn
      have hz : hs.map cn = powC ps x0 y0 := by
        have := Hcs.out
        rwa [List.take_of_length_le (by rw [powC_len, Hl.out]; exact Nat.le_refl _)] at this
      have Hz := Lib.hid hz
      clear hz
      go_wp2
      go_ret
      refine ⟨_, hs, rfl, ?_, Hz.out, bthen B2.out Hb.out⟩
      have h9 := Hown.out
      have hlen : hs.length = n + 1 := by have := h9.1; simpa using this
      rw [hlen]
      refine ⟨h9.1, ?_⟩
      rcases h9.2 with h | ⟨g, cap, cur, e, hg, rest⟩
      · exact .inl h
      · exact .inr ⟨g, cap, cur, e, Nat.le_trans B2.out.size hg, rest⟩
end Go.Proofs.Ytdfookgncokgjab
