/-
  GrindDay: both sides.
-/
import Derived.Test.YtchilhapomfbeaaHd
import Derived.Test.YtchilhapomfbeaaLe
import Derived.Test.YtchilhapomfbeaaDa
import Derived.Deep.DeepCutAuto
namespace Go.Proofs.Ytchilhapomfbeaa
open Go.RowKit Go.ChangeShapes Go.WideShapes Go.Deep
attribute [local go_sem ↓] Go.wp_at_zero Go.wp_at_succ
set_option linter.unusedVariables false
set_option linter.unusedSimpArgs false
set_option maxRecDepth 100000
/-- A stone, a list of one's own and a code. -/
def RDyC (C : Sn) (cs : List Nat) (k : Int) (w : World) (e : Ending) (w' : World) : Prop :=
  ∃ (T : Sn) (A : Option Addr) (n c : Nat) (fs : List Nat), e = .returned (.tuple #[.agg #[.float .f32 T.d, .float .f32 T.r, .float .f32 T.b, .float .f32 T.g], .slice A n c, .int .i64 k]) ∧ SnIs T C ∧ fs.length = n ∧ fs.map cn = cs ∧ Fl w' w.heap.size w'.heap.size A fs ∧ (0 < n → ∃ b, A = some ⟨b, 0, none⟩ ∧ w'.there b 0 n) ∧ (∀ a, A = some a → w.heap.size ≤ a.block ∧ a.block < w'.heap.size) ∧ Below w.heap.size w w'
theorem dyc_of_row {C T : Sn} {k : Int} {w w' : World} {v : Value} {n : Nat} {fs : List Nat} (hT : SnIs T C) (h : w'.ownsRow w.heap.size 38 1 v n (fs.map (Value.float .f32))) (hb : Below w.heap.size w w') : RDyC C (fs.map cn) k w (.returned (.tuple #[.agg #[.float .f32 T.d, .float .f32 T.r, .float .f32 T.b, .float .f32 T.g], v, .int .i64 k])) w' := by
  obtain ⟨A, n', c, fs', he, h1, h2, h3, h4, h5, h6⟩ := flc_of_row (k := k) h hb
  simp only [Ending.returned.injEq, Value.tuple.injEq, Array.mk.injEq, List.cons.injEq, and_true] at he
  obtain rfl := he
  exact ⟨T, A, n', c, fs', rfl, hT, h1, h2, h3, h4, h5, h6⟩
theorem own_setN {w : World} {base : Nat} {e : TypeId} {size : Nat} {v : Value} {n : Nat} {xs : List Value} (h : w.ownsRow base e size v n xs) {q : Nat} (hq : ∀ k, v.ownBlock = some k → k ≠ q) (i : Nat) (u : Value) : (w.setCell ⟨q, i, none⟩ u).ownsRow base e size v n xs := by
  rcases h with ⟨h1, h2 | ⟨g, cap, cur, rfl, h3, h4, rest⟩⟩
  · exact ⟨h1, .inl h2⟩
  · exact ⟨h1, .inr ⟨g, cap, cur, rfl, h3, (Below.heap_setCell w ⟨q, i, none⟩ u g (hq g rfl)).trans h4, rest⟩⟩
def dyS (K : Int) (S : Sn) (ts : List Nat) (f n : Nat) : Sn := if K = 0 then dayK S ts f n else sn0
def dyL (K : Int) (S : Sn) (ts : List Nat) (f : Nat) : List Nat := if K = 0 then dayL S ts f else []
theorem codeDay_cases {S : Sn} {ts : List Nat} {n : Nat} {b : Bool} {K : Int} (h : codeDay S ts n b = K) : K = 0 ∨ K = 1 ∨ K = 2 ∨ K = 3 := by
  subst h
  unfold codeDay
  split
  · split
    · split <;> simp
    · simp
  · simp
theorem codeDay_zero {S : Sn} {ts : List Nat} {n : Nat} {b : Bool} (h : codeDay S ts n b = 0) : okS S = true ∧ b = true := by
  unfold codeDay at h
  cases h1 : okS S <;> cases b <;> simp_all
theorem codeL_day (S : Sn) (ts : List Nat) (n : Nat) (b : Bool) : codeL (okS S) b n = codeDay S ts n b := by
  unfold codeL codeDay codeR
  cases okS S <;> cases b <;> simp
theorem dayL_len (S : Sn) (ts : List Nat) (f : Nat) : (dayL S ts f).length = ts.length := by unfold dayL; simp
set_option maxHeartbeats 8000000 in
theorem implDay_any (S : Sn) (A : Option Addr) (n c : Nat) (ts : List Nat) (f : Nat) (w : World) (hl : ts.length = n) (hn : n ≤ 1048576) (hT : Fo w w.heap.size A ts) :
    Calls Try.prog 27 #[.agg #[.float .f32 S.d, .float .f32 S.r, .float .f32 S.b, .float .f32 S.g], .slice A n c, .float .f32 f] w (RDyC (dyS (codeDay S ts n (ts.all psB && rtB f)) S ts f n) (dyL (codeDay S ts n (ts.all psB && rtB f)) S ts f) (codeDay S ts n (ts.all psB && rtB f)) w) := by
  obtain ⟨tp, hp⟩ : ∃ tp, ts.all psB = tp := ⟨_, rfl⟩
  obtain ⟨ta, ht⟩ : ∃ ta, rtB f = ta := ⟨_, rfl⟩
  have hb2 : Below w.heap.size w ((w.alloc (.cells #[.float .f32 S.d, .float .f32 S.r, .float .f32 S.b, .float .f32 S.g] 42)).alloc (.cells #[.float .f32 0, .float .f32 0, .float .f32 0, .float .f32 0] 42)) := b_alloc (b_alloc (Below.refl _ _) _) _
  have hP := allSize_is (c := c) hp hl (by unfold maxLen; omega) (hT.keep hb2)
  have hQ := fun w => isRate_any f w
  rw [ht] at hQ
  rw [hp, ht]
  obtain ⟨K, hK⟩ : ∃ K, codeDay S ts n (tp && ta) = K := ⟨_, rfl⟩
  have hE := fun w => listError_any S (tp && ta) n w hn
  rw [codeL_day S ts, hK] at hE
  rw [hK]
  obtain ⟨CS, hCS⟩ : ∃ C, dyS K S ts f n = C := ⟨_, rfl⟩
  obtain ⟨CL, hCL⟩ : ∃ C, dyL K S ts f = C := ⟨_, rfl⟩
  rw [hCS, hCL]
  have S0 := Lib.hid (fun h : K = 0 => show CS = dayK S ts f n ∧ CL = dayL S ts f by rw [← hCS, ← hCL, h]; exact ⟨rfl, rfl⟩)
  have S1 := Lib.hid (fun h : K ≠ 0 => show CS = sn0 ∧ CL = [] by rw [← hCS, ← hCL]; unfold dyS dyL; rw [if_neg h, if_neg h]; exact ⟨rfl, rfl⟩)
  have HP := Lib.hid hP; have HQ := Lib.hid hQ; have HE := Lib.hid hE
  have HK := Lib.hid (codeDay_cases hK)
  have HO : Hid (K = 0 → ptN (cn S.g) ∧ rtN (cn f)) := fun h => by
    subst h
    obtain ⟨o1, o2⟩ := codeDay_zero hK
    simp only [Bool.and_eq_true] at o2
    exact ⟨ok_n o1, rt_n (by rw [ht]; exact o2.2)⟩
  have Hl := Lib.hid hl; have HT := Lib.hid hT
  clear hP hQ hE hK hp ht hCS hCL hl hT hb2
  obtain ⟨k0, k1, bw⟩ := box_two w S; have hs0 : w.heap.size < ((w.alloc (.cells #[.float .f32 S.d, .float .f32 S.r, .float .f32 S.b, .float .f32 S.g] 42)).alloc (.cells #[.float .f32 0, .float .f32 0, .float .f32 0, .float .f32 0] 42)).heap.size := k0.lt; have hs1 : w.heap.size + 1 < ((w.alloc (.cells #[.float .f32 S.d, .float .f32 S.r, .float .f32 S.b, .float .f32 S.g] 42)).alloc (.cells #[.float .f32 0, .float .f32 0, .float .f32 0, .float .f32 0] 42)).heap.size := k1.lt; have K0 := Lib.hid k0; have K1 := Lib.hid k1; have Bw := Lib.hid bw; clear bw
  go_enter Try.func27, Try.ntmps27
  go_upto_region 1 with fail
  generalize ((w.alloc (.cells #[.float .f32 S.d, .float .f32 S.r, .float .f32 S.b, .float .f32 S.g] 42)).alloc (.cells #[.float .f32 0, .float .f32 0, .float .f32 0, .float .f32 0] 42)) = W at *
  have c0 := k0.cell 0; have c1 := k0.cell 1; have c2 := k0.cell 2; have c3 := k0.cell 3; simp at c0 c1 c2 c3; have z0 := k0.frozen 3; have d0 := k1.cell 0; have d1 := k1.cell 1; have d2 := k1.cell 2; have d3 := k1.cell 3; simp at d0 d1 d2 d3; have y0 := k1.frozen 0; have y1 := k1.frozen 1; have y2 := k1.frozen 2; have y3 := k1.frozen 3
  clear k0 k1
  have q1 : w.heap.size ≤ w.heap.size + 1 := by omega
  have BB : Hid (∀ w1, Below W.heap.size W w1 → Below w.heap.size w w1) := fun w1 h => b_then Bw.out h
  have hcall : Hid (tp = true ∨ tp = false) := by cases tp; exact Or.inr rfl; exact Or.inl rfl
  rcases hcall.out with rfl | rfl
  all_goals
    simp only [Bool.true_and, Bool.false_and] at HE
    go_wp2_with (first | (go_at_call 66; refine HP.out.mono ?_; rintro e w1 ⟨rfl, rfl⟩) | (go_at_call 68; refine (HQ.out _).mono ?_; rintro e w1 ⟨rfl, rfl⟩))
    refine (HE.out _).mono ?_
    rintro e w2 ⟨rfl, b2⟩
    have M0a := Lib.hid (Blk.on K0.out (by rfl) b2)
    have k1 := Blk.on K1.out (by rfl) b2
    clear c0 c1 c2 c3 z0 d0 d1 d2 d3 y0 y1 y2 y3
    have d0 := k1.cell 0; have d1 := k1.cell 1; have d2 := k1.cell 2; have d3 := k1.cell 3
    simp at d0 d1 d2 d3
    have y0 := k1.frozen 0; have y1 := k1.frozen 1; have y2 := k1.frozen 2; have y3 := k1.frozen 3
    have M1a := Lib.hid k1; have hsa := k1.lt
    clear k1
    have BC := Lib.hid (BB.out _ b2)
    clear b2
    rcases HK.out with rfl | rfl | rfl | rfl
    · obtain ⟨hg, hf⟩ := HO.out (by trivial)
      obtain ⟨es, el⟩ := S0.out (by trivial)
      have HG := Lib.hid hg; have HF := Lib.hid hf; have ES := Lib.hid es; have EL := Lib.hid el
      clear hg hf es el S0 S1 HO
      have k0 := M0a.out
      have c0 := k0.cell 0; have c1 := k0.cell 1; have c2 := k0.cell 2; have c3 := k0.cell 3
      simp at c0 c1 c2 c3
      have hl0 : w.heap.size < w2.heap.size := k0.lt
      clear k0
      have HT2 := Lib.hid (HT.out.keep BC.out)
      go_upto_region 5 with fail
      go_cut [11, 12] (fun s11 s12 wx => ∃ (q11 : Nat) (T : Sn) (m : Nat) (fs : List Nat), s11 = .pointer (some ⟨q11, 0, none⟩) ∧ SnIs T (dayK S ts f n) ∧ wx.ownsRow w2.heap.size 38 1 s12 m (fs.map (Value.float .f32)) ∧ fs.map cn = dayL S ts f ∧ Blk wx q11 #[.float .f32 T.d, .float .f32 T.r, .float .f32 T.b, .float .f32 T.g] 42 ∧ Below w2.heap.size w2 wx)
      case first =>
        go_region_law (first | (go_simp; go_at_call 70; refine (grinding_c f _).mono ?_; rintro e w3 ⟨qf, rfl, of, lf, b1⟩; have OF := Lib.hid of; have HT3 := Lib.hid (HT2.out.keep (show Below w2.heap.size w2 w3 by (repeat (first | exact Below.refl _ _ | refine b_drewN ?_ _ | refine b_drew ?_ | refine b_alloc ?_ _ | refine b_then ?_ (by assumption))))); have k0 : Blk w3 w.heap.size #[.float .f32 S.d, .float .f32 S.r, .float .f32 S.b, .float .f32 S.g] 42 := (by first | exact Blk.on M0a.out (by rfl) b1 | exact Blk.on (M0a.out.push _) (by rfl) b1); have c0 := k0.cell 0; have c1 := k0.cell 1; have c2 := k0.cell 2; have c3 := k0.cell 3; simp at c0 c1 c2 c3; have ls := k0.lt; clear k0 of; (try (have x1 : Blk w3 w2.heap.size #[.float .f32 0, .float .f32 0, .float .f32 0, .float .f32 0] 42 := Blk.on (Blk.new _ _ _) (by rfl) b1; have X1 := Lib.hid x1; clear x1)); dsimp only) | (go_simp; go_at_call 71; refine (day_any S f HG.out HF.out _ n _ ts _ _ Hl.out hn (HT3.out.keep (by (repeat (first | exact Below.refl _ _ | refine b_drewN ?_ _ | refine b_drew ?_ | refine b_alloc ?_ _ | refine b_then ?_ (by assumption))))) (by first | exact OF.out | exact One.push OF.out _)).mono ?_; rintro e w4 ⟨T, v, m, fs, rfl, hT, hrow, hfl, hfs, b2⟩; (first | (have y1 : Blk w4 w2.heap.size #[.float .f32 0, .float .f32 0, .float .f32 0, .float .f32 0] 42 := Blk.on X1.out (by rfl) b2; have hne : Hid (∀ k, v.ownBlock = some k → k ≠ w2.heap.size) := (fun k h => by have h1 := (own_base hrow k h).1; have h2 := b1.size; simp at h1 h2; omega)) | (have y1 : Blk w4 w3.heap.size #[.float .f32 0, .float .f32 0, .float .f32 0, .float .f32 0] 42 := Blk.on (Blk.new w3 _ _) (by rfl) b2; have hne : Hid (∀ k, v.ownBlock = some k → k ≠ w3.heap.size) := (fun k h => by have h1 := (own_base hrow k h).1; simp at h1; omega)) | skip); (try (have d0 := y1.cell 0; have d1 := y1.cell 1; have d2 := y1.cell 2; have d3 := y1.cell 3; simp at d0 d1 d2 d3; have y0 := y1.frozen 0; have y1' := y1.frozen 1; have y2 := y1.frozen 2; have y3 := y1.frozen 3; have Y1 := Lib.hid y1; have ly := y1.lt; clear y1)); have OW : Hid (w4.ownsRow w2.heap.size 38 1 v m (fs.map (Value.float .f32))) := own_more hrow (Below.size (show Below w2.heap.size w2 _ by (repeat (first | exact Below.refl _ _ | refine b_drewN ?_ _ | refine b_drew ?_ | refine b_alloc ?_ _ | refine b_then ?_ (by assumption))))); clear hrow; dsimp only))
        all_goals
          go_wp2_with fail
          go_meet
          have hw1 : w2.heap.size ≤ w3.heap.size := by
            have := b1.size
            simp at this
            omega
          have hbw : Below w2.heap.size w2 w4 := by
            repeat (first | with_reducible exact Below.refl w2.heap.size w2 | refine b_then ?_ (by assumption) | refine b_drew ?_ | refine b_alloc ?_ _ | refine b_drewN ?_ _)
          clear b1 b2
          first
            | exact ⟨_, T, m, fs, rfl, hT, own_setN (own_setN (own_setN (own_setN OW.out hne.out 0 _) hne.out 1 _) hne.out 2 _) hne.out 3 _, hfs, ((((Y1.out.set 0 _).set 1 _).set 2 _).set 3 _), b_set (b_set (b_set (b_set hbw (by first | exact Nat.le_refl _ | assumption) _ _) (by first | exact Nat.le_refl _ | assumption) _ _) (by first | exact Nat.le_refl _ | assumption) _ _) (by first | exact Nat.le_refl _ | assumption) _ _⟩
            | exact ⟨_, T, m, fs, rfl, hT, OW.out.alloc _, hfs, Blk.new _ _ _, b_alloc hbw _⟩
      case rest =>
        obtain ⟨q11, T, m, fs, rfl, hT, hrow, hfs, hB, hbd⟩ := hcut
        clear c0 c1 c2 c3 d0 d1 d2 d3 y0 y1 y2 y3
        have c0 := hB.cell 0; have c1 := hB.cell 1; have c2 := hB.cell 2; have c3 := hB.cell 3
        simp at c0 c1 c2 c3
        have BD := Lib.hid (b_then BC.out hbd)
        have lb := hB.lt
        have k1 := Blk.on M1a.out (by rfl) hbd; have d0 := k1.cell 0; have d1 := k1.cell 1; have d2 := k1.cell 2; have d3 := k1.cell 3; simp at d0 d1 d2 d3; have y0 := k1.frozen 0; have y1 := k1.frozen 1; have y2 := k1.frozen 2; have y3 := k1.frozen 3; have M1d := Lib.hid k1; have hsd := k1.lt; clear k1
        have OR := Lib.hid hrow; have HT4 := Lib.hid hT; have HFS := Lib.hid hfs
        clear hB hbd hrow hT hfs
        have q3 : w.heap.size + 1 < w2.heap.size := hsa
        go_wp2
        refine bodyPost_ret (ret_snfc (T := T) Try.results27 rfl ((((M1d.out.set 0 _).set 1 _).set 2 _).set 3 _)) rfl ?_
        have e2 := ES.out
        rw [e2, EL.out, ← HFS.out]
        exact dyc_of_row HT4.out (own_more (own_setO (own_setO (own_setO (own_setO OR.out q3 0 _) q3 1 _) q3 2 _) q3 3 _) (by omega)) (b_set (b_set (b_set (b_set BD.out q1 _ _) q1 _ _) q1 _ _) q1 _ _)
    all_goals
      obtain ⟨es, el⟩ := S1.out (by first | trivial | decide)
      have ES := Lib.hid es; have EL := Lib.hid el
      clear es el S0 S1 HO
      go_wp2
      refine bodyPost_ret (ret_snfc (T := ⟨0, 0, 0, 0⟩) Try.results27 rfl ((((M1a.out.set 0 _).set 1 _).set 2 _).set 3 _)) rfl ?_
      rw [ES.out, EL.out]
      exact dyc_of_row (fs := []) is_sn0 (World.ownsRow_nil _ _ _ _) (b_set (b_set (b_set (b_set BC.out q1 _ _) q1 _ _) q1 _ _) q1 _ _)
end Go.Proofs.Ytchilhapomfbeaa
