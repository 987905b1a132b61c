/-
  Trains that are driven with plain numbers: the codes.
-/
import Derived.Test.YtdfookgncokgjabAll
namespace Go.Proofs.Ytdfookgncokgjab
open Go.RowKit Go.ChangeShapes Go.WideShapes Go.Deep
set_option linter.unusedVariables false
set_option linter.unusedSimpArgs false
def plainB (x : Nat) : Bool := (FloatKind.f32.format.order x 3380609024 == some .gt || FloatKind.f32.format.order x 3380609024 == some .eq) && (FloatKind.f32.format.order x 1233125376 == some .lt || FloatKind.f32.format.order x 1233125376 == some .eq)
theorem plain_zero : plainB 0 = true := by decide +kernel
def codeDrive (ps : List Pr) (xs : List Nat) : Int := if okTr ps then (if xs.all plainB then 0 else 2) else 1
theorem isPlain_any (m : Nat) (w : World) : Calls Try.prog 80 #[.float .f32 m] w fun e w' => e = .returned (.bool (plainB m)) ∧ w = w' := by
  unfold plainB
  go_enter Try.func80, Try.ntmps80
  go_wp2
  · go_ret
    exact ⟨rfl, rfl⟩
  · rename_i h
    go_ret
    refine ⟨?_, rfl⟩
    simp at h
    simp [h]
theorem l01Plain_any (m : Nat) (w : World) : Calls Try.prog 90 #[.float .f32 m] w fun e w' => e = .returned (.bool (plainB m)) ∧ w = w' := by
  unfold plainB
  go_enter Try.func90, Try.ntmps90
  go_wp2
  · go_ret
    exact ⟨rfl, rfl⟩
  · rename_i h
    go_ret
    refine ⟨?_, rfl⟩
    simp at h
    simp [h]
theorem l01Speed_any (m : Nat) (w : World) : Calls Try.prog 78 #[.float .f32 m] w fun e w' => e = .returned (.bool (plainB m)) ∧ w = w' := by
  go_enter Try.func78, Try.ntmps78
  go_wp2_with (go_at_call 90; refine (l01Plain_any _ _).mono ?_; rintro e w1 ⟨rfl, rfl⟩)
  go_ret
  exact ⟨rfl, rfl⟩
theorem l01Asked_any (A : Option Addr) (n c : Nat) (ps : List Pr) (x y : Nat) (w : World) (hl : ps.length = n) (hn : n ≤ 1048576) (hT : Tr w w.heap.size A ps) (hw : ∀ p ∈ ps, p.wf) :
    Calls Try.prog 52 #[.slice A n c, .float .f32 x, .float .f32 y] w fun e w' => e = .returned (.int .i64 (codeDrive ps [x, y])) ∧ w = w' := by
  have Hl := Lib.hid hl; clear hl
  have HT := Lib.hid hT; clear hT
  have Hw := Lib.hid hw; clear hw
  unfold codeDrive
  simp only [List.all_cons, List.all_nil, Bool.and_true]
  rcases Bool.eq_false_or_eq_true (okTr ps) with h1 | h1 <;> rcases Bool.eq_false_or_eq_true (plainB x) with h2 | h2 <;> rcases Bool.eq_false_or_eq_true (plainB y) with h3 | h3
  all_goals
    simp only [h1, h2, h3, Bool.and_self, Bool.and_false, Bool.false_and, Bool.true_and, Bool.and_true, Bool.false_eq_true, if_true, if_false]
    go_enter Try.func52, Try.ntmps52
    go_wp2_with (first | (go_at_call 48; refine (l01Ok_any _ _ _ ps _ Hl.out hn HT.out Hw.out).mono ?_; rintro e w1 ⟨rfl, rfl⟩) | (go_at_call 78; refine (l01Speed_any _ _).mono ?_; rintro e w1 ⟨rfl, rfl⟩))
    go_ret
    exact ⟨rfl, rfl⟩
set_option maxRecDepth 100000 in
theorem driveError_any (A : Option Addr) (n c : Nat) (ps : List Pr) (A' : Option Addr) (m c' : Nat) (xs : List Nat) (w : World) (hl : ps.length = n) (hn : n ≤ 1048576) (hT : Tr w w.heap.size A ps) (hw : ∀ p ∈ ps, p.wf) (hl' : xs.length = m) (hm : m ≤ 1048576) (hF : Fl w 0 w.heap.size A' xs) :
    Calls Try.prog 54 #[.slice A n c, .slice A' m c'] w fun e w' => e = .returned (.int .i64 (codeDrive ps xs)) ∧ Below w.heap.size w w' := by
  have Hl := Lib.hid hl; clear hl
  have HT := Lib.hid hT; clear hT
  have Hw := Lib.hid hw; clear hw
  have Hl' := Lib.hid hl'; clear hl'
  have HF := Lib.hid hF; clear hF
  rcases Bool.eq_false_or_eq_true (okTr ps) with h1 | h1
  · have hcode : codeDrive ps xs = if xs.all plainB then 0 else 2 := by unfold codeDrive; rw [h1]; rfl
    generalize codeDrive ps xs = code at *
    have Hcode := Lib.hid hcode
    clear hcode
    go_enter Try.func54, Try.ntmps54
    go_wp2_with fail
    refine (validTrain_any _ _ _ ps _ Hl.out hn HT.out Hw.out).mono ?_
    rintro e w1 ⟨rfl, b1⟩
    have B1 := Lib.hid b1; clear b1
    have F1 := Lib.hid (HF.out.below B1.out (Nat.le_refl _))
    go_wp2
    go_loopw [12] (fun i wr => ∃ k : Nat, k ≤ m ∧ i = .int .i64 k ∧ w1 = wr ∧ (xs.take k).all plainB = true) (fun i _ => m - (intOf i).toNat)
    case atStart => exact ⟨0, Nat.zero_le _, rfl, rfl, rfl⟩
    case round =>
      obtain ⟨k, hk, rfl, rfl, hall⟩ := hrel
      have Hall := Lib.hid hall; clear hall
      by_cases hlt : k < m
      · have hkl : k < xs.length := by have := Hl'.out; omega
        obtain ⟨b, rfl, hb0, hbs, hc⟩ := F1.out (by omega)
        obtain ⟨x, hx⟩ : ∃ x, xs[k]? = some x := ⟨_, List.getElem?_eq_getElem hkl⟩
        have c0 := hc k x hx
        have Hx := Lib.hid hx
        have htk : xs.take (k + 1) = xs.take k ++ [x] := by rw [List.take_add_one, hx]; rfl
        have Htk := Lib.hid htk
        clear hc hkl hx htk
        rcases Bool.eq_false_or_eq_true (plainB x) with h3 | h3
        · have H3 := Lib.hid h3
          go_wp2_with (go_at_call 80; refine (isPlain_any _ _).mono ?_; rintro e w2 ⟨rfl, rfl⟩)
          go_roundw
          case rel => exact ⟨k + 1, by omega, by go_num, by trivial, by rw [Htk.out, List.all_append, Hall.out]; simp [H3.out]⟩
          case measure => simp [intOf]; omega
        · have hc2 : code = 2 := by
            rw [Hcode.out, if_neg]
            intro h
            have := List.all_eq_true.1 h x (List.mem_of_getElem? Hx.out)
            rw [h3] at this
            cases this
          subst hc2
          go_wp2_with (go_at_call 80; refine (isPlain_any _ _).mono ?_; rintro e w2 ⟨rfl, rfl⟩)
          go_ret
          exact ⟨rfl, B1.out⟩
      · have hkm : k = m := by omega
        subst hkm
        have hc0 : code = 0 := by
          have := Hall.out
          rw [List.take_of_length_le (by have := Hl'.out; omega)] at this
          rw [Hcode.out, if_pos this]
        subst hc0
        go_wp2
        go_ret
        exact ⟨rfl, B1.out⟩
  · have hcode : codeDrive ps xs = 1 := by unfold codeDrive; rw [h1]; rfl
    rw [hcode]
    clear hcode
    go_enter Try.func54, Try.ntmps54
    go_wp2_with fail
    refine (validTrain_any _ _ _ ps _ Hl.out hn HT.out Hw.out).mono ?_
    rintro e w1 ⟨rfl, b1⟩
    have B1 := Lib.hid b1; clear b1
    go_wp2
    go_ret
    exact ⟨rfl, B1.out⟩
def axlesC (g : Pr → Nat → Nat) (ps : List Pr) (xs : List Nat) (x : Nat) : List Nat := if okTr ps then (if xs.all plainB then axC g (cn x) ps else []) else []
theorem axC_len (g : Pr → Nat → Nat) : ∀ (ps : List Pr) (x : Nat), (axC g x ps).length = ps.length + 1
  | [], x => rfl
  | p :: ps, x => by rw [axC, List.length_cons, axC_len g ps]; rfl
theorem axlesC_len (g : Pr → Nat → Nat) (ps : List Pr) (xs : List Nat) (x : Nat) : (axlesC g ps xs x).length ≤ 9 := by
  unfold axlesC
  split
  · rename_i h
    have := size_bounds h
    split
    · rw [axC_len]; omega
    · simp
  · simp
theorem one_fl (w : World) (x : Nat) : Fl (w.alloc (.cells #[.float .f32 x] 31)) 0 (w.alloc (.cells #[.float .f32 x] 31)).heap.size (some ⟨w.heap.size, 0, none⟩) [x] := fun _ =>
  ⟨w.heap.size, rfl, Nat.zero_le _, by simp, fun i f hf => by
    have hb : (w.alloc (.cells #[.float .f32 x] 31)).heap[w.heap.size]? = some (.cells #[.float .f32 x] 31 (0, 0)) := heap_alloc_new w _
    rw [cell_of_row _ _ i _ _ _ hb]
    cases i with
    | zero => (simp at hf; subst hf; rfl)
    | succ i => simp at hf⟩
theorem frow_flc {cs : List Nat} {w w1 : World} {e : Ending} {w' : World} {v : Value} {fs : List Nat} (hb : Below w.heap.size w w1) (hr : w'.ownsRow w1.heap.size 31 1 v fs.length (fs.map (Value.float .f32))) (hc : fs.map cn = cs) (hb2 : Below w1.heap.size w1 w') : FLC cs 0 w (.returned (.tuple #[v, .int .i64 0])) w' := by
  subst hc
  refine flc_of_row (n := fs.length) ?_ (bthen hb hb2)
  refine ⟨hr.1, ?_⟩
  rcases hr.2 with h | ⟨g, cap, cur, e, hg, rest⟩
  · exact .inl h
  · exact .inr ⟨g, cap, cur, e, Nat.le_trans hb.size hg, rest⟩
set_option maxRecDepth 100000 in
theorem implTorquesOf_any (A : Option Addr) (n c : Nat) (ps : List Pr) (x : Nat) (w : World) (hl : ps.length = n) (hn : n ≤ 1048576) (hT : Tr w w.heap.size A ps) (hw : ∀ p ∈ ps, p.wf) :
    Calls Try.prog 27 #[.slice A n c, .float .f32 x] w (FLC (axlesC gTorque ps [x] x) (codeDrive ps [x]) w) := by
  have hb0 : Below w.heap.size w (w.alloc (.cells #[.float .f32 x] 31)) := (Below.refl _ _).alloc (Nat.le_refl _) _
  have HB0 := Lib.hid hb0
  have HT0 := Lib.hid (hT.keep hb0)
  clear hb0
  have Hl := Lib.hid hl; clear hl
  have HT := Lib.hid hT; clear hT
  have Hw := Lib.hid hw; clear hw
  by_cases h0 : codeDrive ps [x] = 0
  · have hax : axlesC gTorque ps [x] x = axC gTorque (cn x) ps := by
      unfold codeDrive at h0
      unfold axlesC
      split at h0
      · rename_i h1
        rw [if_pos h1]
        split at h0
        · rename_i h2
          rw [if_pos h2]
        · cases h0
      · cases h0
    rw [hax]
    clear hax
    have hde := driveError_any A n c ps (some ⟨w.heap.size, 0, none⟩) 1 1 [x] _ Hl.out hn HT0.out Hw.out rfl (by omega) (one_fl w x)
    rw [h0] at hde ⊢
    have Hde := Lib.hid hde; clear hde h0
    go_enter Try.func27, Try.ntmps27
    go_wp2_with fail
    refine Hde.out.mono ?_
    rintro e w1 ⟨rfl, b1⟩
    have B1 := Lib.hid (bthen HB0.out b1); clear b1
    have T1 := Lib.hid (HT.out.keep B1.out)
    go_wp2_with fail
    refine (allAxles_any 58 gTorque passTorque_any (enters_of Try.func58 (by kernel_rfl) rfl) _ _ _ ps _ _ Hl.out hn T1.out).mono ?_
    rintro e w2 ⟨v, fs, rfl, hr, hc, b2⟩
    have Fin := Lib.hid (frow_flc (e := .returned v) B1.out hr hc b2)
    clear hr hc b2
    go_wp2
    go_ret2
    exact Fin.out
  · have hax : axlesC gTorque ps [x] x = [] := by
      unfold codeDrive at h0
      unfold axlesC
      split
      · rename_i h1
        rw [if_pos h1] at h0
        split
        · rename_i h2
          rw [if_pos h2] at h0
          exact absurd rfl h0
        · rfl
      · rfl
    have hde := driveError_any A n c ps (some ⟨w.heap.size, 0, none⟩) 1 1 [x] _ Hl.out hn HT0.out Hw.out rfl (by omega) (one_fl w x)
    rw [hax]
    clear hax
    generalize codeDrive ps [x] = code at *
    have Hde := Lib.hid hde; clear hde
    go_enter Try.func27, Try.ntmps27
    go_wp2_with fail
    refine Hde.out.mono ?_
    rintro e w1 ⟨rfl, b1⟩
    have B1 := Lib.hid (bthen HB0.out b1); clear b1
    go_wp2
    go_ret2
    exact flc_of_row (fs := []) (World.ownsRow_nil _ _ _ _) B1.out
set_option maxRecDepth 100000 in
theorem implSpeedsOf_any (A : Option Addr) (n c : Nat) (ps : List Pr) (x : Nat) (w : World) (hl : ps.length = n) (hn : n ≤ 1048576) (hT : Tr w w.heap.size A ps) (hw : ∀ p ∈ ps, p.wf) :
    Calls Try.prog 21 #[.slice A n c, .float .f32 x] w (FLC (axlesC gSpeed ps [x] x) (codeDrive ps [x]) w) := by
  have hb0 : Below w.heap.size w (w.alloc (.cells #[.float .f32 x] 31)) := (Below.refl _ _).alloc (Nat.le_refl _) _
  have HB0 := Lib.hid hb0
  have HT0 := Lib.hid (hT.keep hb0)
  clear hb0
  have Hl := Lib.hid hl; clear hl
  have HT := Lib.hid hT; clear hT
  have Hw := Lib.hid hw; clear hw
  by_cases h0 : codeDrive ps [x] = 0
  · have hax : axlesC gSpeed ps [x] x = axC gSpeed (cn x) ps := by
      unfold codeDrive at h0
      unfold axlesC
      split at h0
      · rename_i h1
        rw [if_pos h1]
        split at h0
        · rename_i h2
          rw [if_pos h2]
        · cases h0
      · cases h0
    rw [hax]
    clear hax
    have hde := driveError_any A n c ps (some ⟨w.heap.size, 0, none⟩) 1 1 [x] _ Hl.out hn HT0.out Hw.out rfl (by omega) (one_fl w x)
    rw [h0] at hde ⊢
    have Hde := Lib.hid hde; clear hde h0
    go_enter Try.func21, Try.ntmps21
    go_wp2_with fail
    refine Hde.out.mono ?_
    rintro e w1 ⟨rfl, b1⟩
    have B1 := Lib.hid (bthen HB0.out b1); clear b1
    have T1 := Lib.hid (HT.out.keep B1.out)
    go_wp2_with fail
    refine (allAxles_any 56 gSpeed passSpeed_any (enters_of Try.func56 (by kernel_rfl) rfl) _ _ _ ps _ _ Hl.out hn T1.out).mono ?_
    rintro e w2 ⟨v, fs, rfl, hr, hc, b2⟩
    have Fin := Lib.hid (frow_flc (e := .returned v) B1.out hr hc b2)
    clear hr hc b2
    go_wp2
    go_ret2
    exact Fin.out
  · have hax : axlesC gSpeed ps [x] x = [] := by
      unfold codeDrive at h0
      unfold axlesC
      split
      · rename_i h1
        rw [if_pos h1] at h0
        split
        · rename_i h2
          rw [if_pos h2] at h0
          exact absurd rfl h0
        · rfl
      · rfl
    have hde := driveError_any A n c ps (some ⟨w.heap.size, 0, none⟩) 1 1 [x] _ Hl.out hn HT0.out Hw.out rfl (by omega) (one_fl w x)
    rw [hax]
    clear hax
    generalize codeDrive ps [x] = code at *
    have Hde := Lib.hid hde; clear hde
    go_enter Try.func21, Try.ntmps21
    go_wp2_with fail
    refine Hde.out.mono ?_
    rintro e w1 ⟨rfl, b1⟩
    have B1 := Lib.hid (bthen HB0.out b1); clear b1
    go_wp2
    go_ret2
    exact flc_of_row (fs := []) (World.ownsRow_nil _ _ _ _) B1.out
end Go.Proofs.Ytdfookgncokgjab
