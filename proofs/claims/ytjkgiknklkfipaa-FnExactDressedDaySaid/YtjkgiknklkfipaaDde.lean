/-
  DressedDay: the program's side.
-/
import Derived.Test.YtjkgiknklkfipaaDd
import Derived.Test.YtjkgiknklkfipaaHda
import Derived.Deep.DeepCutAuto
namespace Go.Proofs.Ytjkgiknklkfipaa
open Go.RowKit Go.ChangeShapes Go.WideShapes Go.Deep
attribute [local go_sem ↓] Go.wp_at_zero Go.wp_at_succ
set_option linter.unusedVariables false
set_option linter.unusedSimpArgs false
set_option maxRecDepth 100000

/-- A stone, a list of one's own, a number and a code. -/
def RDdC (C : Sn) (cs : List Nat) (m k : Int) (w : World) (e : Ending) (w' : World) : Prop :=
  ∃ (T : Sn) (A : Option Addr) (n c : Nat) (fs : List Nat), e = .returned (.tuple #[.agg #[.float .f32 T.d, .float .f32 T.r, .float .f32 T.b, .float .f32 T.g], .slice A n c, .int .i64 m, .int .i64 k]) ∧ SnIs T C ∧ fs.length = n ∧ fs.map cn = cs ∧ Fl w' w.heap.size w'.heap.size A fs ∧ (0 < n → ∃ b, A = some ⟨b, 0, none⟩ ∧ w'.there b 0 n) ∧ (∀ a, A = some a → w.heap.size ≤ a.block ∧ a.block < w'.heap.size) ∧ Below w.heap.size w w'
theorem ddc_of_row {C T : Sn} {m k : Int} {w w' : World} {v : Value} {n : Nat} {fs : List Nat} (hT : SnIs T C) (h : w'.ownsRow w.heap.size 24 1 v n (fs.map (Value.float .f32))) (hb : Below w.heap.size w w') : RDdC C (fs.map cn) m k w (.returned (.tuple #[.agg #[.float .f32 T.d, .float .f32 T.r, .float .f32 T.b, .float .f32 T.g], v, .int .i64 m, .int .i64 k])) w' := by
  obtain ⟨A, n', c, fs', he, h1, h2, h3, h4, h5, h6⟩ := flc_of_row (k := k) h hb
  simp only [Ending.returned.injEq, Value.tuple.injEq, Array.mk.injEq, List.cons.injEq, and_true] at he
  obtain rfl := he
  exact ⟨T, A, n', c, fs', rfl, hT, h1, h2, h3, h4, h5, h6⟩
theorem ret_sn4 {fn : Func} {tmps : Array Value} {W : World} {q s t u x : Nat} {T : Sn} (hr : fn.results = #[.cell s 42, .tmp t, .tmp u, .tmp x]) (h2 : tmps.getD s undef = .pointer (some ⟨q, 0, none⟩)) (Z : Blk W q #[.float .f32 T.d, .float .f32 T.r, .float .f32 T.b, .float .f32 T.g] 42) :
    (results fn tmps).run Try.prog W = .ok (.tuple #[.agg #[.float .f32 T.d, .float .f32 T.r, .float .f32 T.b, .float .f32 T.g], tmps.getD t undef, tmps.getD u undef, tmps.getD x undef]) W := by
  have e0 := Z.cell 0
  have e1 := Z.cell 1
  have e2 := Z.cell 2
  have e3 := Z.cell 3
  simp at e0 e1 e2 e3
  rw [Array.getD_eq_getD_getElem?] at h2
  simp [results, hr, h2, go_sem, e0, e1, e2, e3]
theorem blk_drew {w : World} {q : Nat} {cs : Array Value} {t : TypeId} (h : Blk w q cs t) : Blk w.drew q cs t := h
def ddyS (K : Int) (S : Sn) (ts : List Nat) (f l n : Nat) : Sn := if K = 0 then ddK S ts f l n else sn0
def ddyL (K : Int) (S : Sn) (ts : List Nat) (f l : Nat) : List Nat := if K = 0 then ddL S ts f l else []
def ddyC (K : Int) (S : Sn) (ts : List Nat) (f l n : Nat) : Int := if K = 0 then (ddC S ts f l n : Int) else 0
theorem box_three (w : World) (S : Sn) (l : Nat) : Blk (((w.alloc (.cells #[.float .f32 S.d, .float .f32 S.r, .float .f32 S.b, .float .f32 S.g] 42)).alloc (.cells #[.float .f32 l] 24)).alloc (.cells #[.float .f32 0, .float .f32 0, .float .f32 0, .float .f32 0] 42)) w.heap.size #[.float .f32 S.d, .float .f32 S.r, .float .f32 S.b, .float .f32 S.g] 42 ∧ One (((w.alloc (.cells #[.float .f32 S.d, .float .f32 S.r, .float .f32 S.b, .float .f32 S.g] 42)).alloc (.cells #[.float .f32 l] 24)).alloc (.cells #[.float .f32 0, .float .f32 0, .float .f32 0, .float .f32 0] 42)) (w.heap.size + 1) (.float .f32 l) 24 ∧ Blk (((w.alloc (.cells #[.float .f32 S.d, .float .f32 S.r, .float .f32 S.b, .float .f32 S.g] 42)).alloc (.cells #[.float .f32 l] 24)).alloc (.cells #[.float .f32 0, .float .f32 0, .float .f32 0, .float .f32 0] 42)) (w.heap.size + 1 + 1) #[.float .f32 0, .float .f32 0, .float .f32 0, .float .f32 0] 42 ∧ Below w.heap.size w (((w.alloc (.cells #[.float .f32 S.d, .float .f32 S.r, .float .f32 S.b, .float .f32 S.g] 42)).alloc (.cells #[.float .f32 l] 24)).alloc (.cells #[.float .f32 0, .float .f32 0, .float .f32 0, .float .f32 0] 42)) := by
  refine ⟨((Blk.new _ _ _).push _).push _, One.push (new_at (by simp) _) _, new_at (by simp) _, b_alloc (b_alloc (b_alloc (Below.refl _ _) _) _) _⟩
set_option maxHeartbeats 8000000 in
theorem implDressedDay_any (S : Sn) (A : Option Addr) (n c : Nat) (ts : List Nat) (f l : Nat) (w : World) (hl : ts.length = n) (hn : n ≤ 1048576) (hT : Fo w w.heap.size A ts) :
    Calls Try.prog 21 #[.agg #[.float .f32 S.d, .float .f32 S.r, .float .f32 S.b, .float .f32 S.g], .slice A n c, .float .f32 f, .float .f32 l] w (RDdC (ddyS (codeDay S ts n ((ts.all psB && rtB f) && partB l)) S ts f l n) (ddyL (codeDay S ts n ((ts.all psB && rtB f) && partB l)) S ts f l) (ddyC (codeDay S ts n ((ts.all psB && rtB f) && partB l)) S ts f l n) (codeDay S ts n ((ts.all psB && rtB f) && partB l)) w) := by
  obtain ⟨tp, hp⟩ : ∃ tp, ts.all psB = tp := ⟨_, rfl⟩
  obtain ⟨ta, ht⟩ : ∃ ta, rtB f = ta := ⟨_, rfl⟩
  obtain ⟨tl, hll⟩ : ∃ tl, partB l = tl := ⟨_, rfl⟩
  have hb2 : Below w.heap.size w (((w.alloc (.cells #[.float .f32 S.d, .float .f32 S.r, .float .f32 S.b, .float .f32 S.g] 42)).alloc (.cells #[.float .f32 l] 24)).alloc (.cells #[.float .f32 0, .float .f32 0, .float .f32 0, .float .f32 0] 42)) := b_alloc (b_alloc (b_alloc (Below.refl _ _) _) _) _
  have hP := allSize_is (c := c) hp hl (by unfold maxLen; omega) (hT.keep hb2)
  have hQ := fun w => isRate_any f w
  have hR := fun w => isPart_any l w
  rw [ht] at hQ
  rw [hll] at hR
  rw [hp, ht, hll]
  obtain ⟨K, hK⟩ : ∃ K, codeDay S ts n ((tp && ta) && tl) = K := ⟨_, rfl⟩
  have hE := fun w => listError_any S ((tp && ta) && tl) n w hn
  rw [codeL_day S ts, hK] at hE
  rw [hK]
  obtain ⟨CS, hCS⟩ : ∃ C, ddyS K S ts f l n = C := ⟨_, rfl⟩
  obtain ⟨CL, hCL⟩ : ∃ C, ddyL K S ts f l = C := ⟨_, rfl⟩
  obtain ⟨CC, hCC⟩ : ∃ C, ddyC K S ts f l n = C := ⟨_, rfl⟩
  rw [hCS, hCL, hCC]
  have S0 := Lib.hid (fun h : K = 0 => show CS = ddK S ts f l n ∧ CL = ddL S ts f l ∧ CC = (ddC S ts f l n : Int) by rw [← hCS, ← hCL, ← hCC, h]; exact ⟨rfl, rfl, rfl⟩)
  have S1 := Lib.hid (fun h : K ≠ 0 => show CS = sn0 ∧ CL = [] ∧ CC = 0 by rw [← hCS, ← hCL, ← hCC]; unfold ddyS ddyL ddyC; rw [if_neg h, if_neg h, if_neg h]; exact ⟨rfl, rfl, rfl⟩)
  have HP := Lib.hid hP; have HQ := Lib.hid hQ; have HE := Lib.hid hE; have HR := Lib.hid hR
  have HK := Lib.hid (codeDay_cases hK)
  have HO : Hid (K = 0 → ptN (cn S.g) ∧ rtN (cn f)) := fun h => by
    subst h
    obtain ⟨o1, o2⟩ := codeDay_zero hK
    simp only [Bool.and_eq_true] at o2
    exact ⟨ok_n o1, rt_n (by rw [ht]; exact o2.1.2)⟩
  have Hl := Lib.hid hl; have HT := Lib.hid hT
  have HAB := Lib.hid (show ∀ a, A = some a → 0 < n → a.block < w.heap.size from fun a ha h0 => by
    obtain ⟨b, off, e, hb, _⟩ := hT (by omega)
    rw [e] at ha
    cases ha
    exact hb)
  clear hP hQ hE hR hK hp ht hll hCS hCL hCC hl hT hb2
  obtain ⟨k0, ko, k1, bw⟩ := box_three w S l
  have K0 := Lib.hid k0; have KO := Lib.hid ko; have K1 := Lib.hid k1; have Bw := Lib.hid bw
  clear bw
  have q1 : w.heap.size ≤ w.heap.size + 1 + 1 := by omega
  go_enter Try.func21, Try.ntmps21
  go_upto_region 1 with fail
  have hWs : w.heap.size + 3 = (((w.alloc (.cells #[.float .f32 S.d, .float .f32 S.r, .float .f32 S.b, .float .f32 S.g] 42)).alloc (.cells #[.float .f32 l] 24)).alloc (.cells #[.float .f32 0, .float .f32 0, .float .f32 0, .float .f32 0] 42)).heap.size := by simp
  have HWs := Lib.hid hWs; clear hWs
  generalize (((w.alloc (.cells #[.float .f32 S.d, .float .f32 S.r, .float .f32 S.b, .float .f32 S.g] 42)).alloc (.cells #[.float .f32 l] 24)).alloc (.cells #[.float .f32 0, .float .f32 0, .float .f32 0, .float .f32 0] 42)) = W at *
  have co := ko.cell
  have c0 := k0.cell 0; have c1 := k0.cell 1; have c2 := k0.cell 2; have c3 := k0.cell 3; simp at c0 c1 c2 c3; have z0 := k0.frozen 3; have d0 := k1.cell 0; have d1 := k1.cell 1; have d2 := k1.cell 2; have d3 := k1.cell 3; simp at d0 d1 d2 d3; have y0 := k1.frozen 0; have y1 := k1.frozen 1; have y2 := k1.frozen 2; have y3 := k1.frozen 3
  clear k0 k1 ko
  have BB : Hid (∀ w1, Below W.heap.size W w1 → Below w.heap.size w w1) := fun w1 h => b_then Bw.out h
  cases tp <;> cases ta <;> cases tl
  all_goals
    simp only [Bool.true_and, Bool.false_and, Bool.and_true, Bool.and_false] at HE
    go_wp2_with (first | (go_at_call 57; refine HP.out.mono ?_; rintro e w1 ⟨rfl, rfl⟩) | (go_at_call 59; refine (HQ.out _).mono ?_; rintro e w1 ⟨rfl, rfl⟩) | (go_at_call 60; refine (HR.out _).mono ?_; rintro e w1 ⟨rfl, rfl⟩))
    refine (HE.out _).mono ?_
    rintro e w2 ⟨rfl, b2⟩
    have M0a := Lib.hid (Blk.on K0.out (by rfl) b2)
    have MO := Lib.hid (One.on KO.out (by rfl) b2)
    have k1 := Blk.on K1.out (by rfl) b2
    clear c0 c1 c2 c3 z0 d0 d1 d2 d3 y0 y1 y2 y3 co
    have d0 := k1.cell 0; have d1 := k1.cell 1; have d2 := k1.cell 2; have d3 := k1.cell 3
    simp at d0 d1 d2 d3
    have y0 := k1.frozen 0; have y1 := k1.frozen 1; have y2 := k1.frozen 2; have y3 := k1.frozen 3
    have M1a := Lib.hid k1; have hsa := k1.lt
    clear k1
    have BC := Lib.hid (BB.out _ b2)
    have h23 : Hid (W.heap.size ≤ w2.heap.size) := Lib.hid b2.size
    clear b2
    rcases HK.out with rfl | rfl | rfl | rfl
    · obtain ⟨hg, hf⟩ := HO.out (by trivial)
      obtain ⟨es, el, ec⟩ := S0.out (by trivial)
      have HG := Lib.hid hg; have HF := Lib.hid hf; have ES := Lib.hid es; have EL := Lib.hid el; have EC := Lib.hid ec
      clear hg hf es el ec S0 S1 HO
      go_wp2_with fail
      refine (grinding_c f _).mono ?_
      rintro e w3 ⟨qf, rfl, of, lf, b3⟩
      have OF := Lib.hid of
      have N0 := Lib.hid (Blk.on M0a.out (by rfl) b3)
      have NO := Lib.hid (One.on MO.out (by rfl) b3)
      have N1 := Lib.hid (Blk.on M1a.out (by rfl) b3)
      have B3 := Lib.hid (b_then BC.out b3)
      have h34 : Hid (w.heap.size + 3 ≤ w3.heap.size) := Lib.hid (by have := b3.size; have := h23.out; have := HWs.out; omega)
      have hqf := of.lt
      have LF := Lib.hid hqf; have LF2 := Lib.hid lf
      have k0 := N0.out
      clear d0 d1 d2 d3 y0 y1 y2 y3 of lf b3 hqf
      have c0 := k0.cell 0; have c1 := k0.cell 1; have c2 := k0.cell 2; have c3 := k0.cell 3
      simp at c0 c1 c2 c3
      have l0 := k0.lt
      clear k0
      go_wp2_with fail
      refine (dayD_any S f l HG.out HF.out _ n _ ts (w.heap.size + 1) w3.heap.size (w3.heap.size + 1) qf _ Hl.out hn ?hFo ?hNe ?hEnv).mono ?_
      case hFo => exact HT.out.keep (b_alloc (b_alloc B3.out _) _)
      case hNe =>
        intro h0 a ha
        have := HAB.out a ha h0
        have := h34.out
        omega
      case hEnv =>
        have := h34.out; have := LF.out
        exact ⟨(NO.out.push _).push _, One.push (One.new _ _ _) _, new_at (by simp) _, (OF.out.push _).push _, by omega, by omega, by omega⟩
      rintro e w4 ⟨T, v, m, fs, rfl, hT, hrow, hfl, hfs, hD, hk⟩
      have P4 := h34.out
      have BD : Hid (Below w.heap.size w w4) := Lib.hid ((b_alloc (b_alloc B3.out _) _).trans (hk.below (by omega) (by simp; omega)))
      have k1 : Blk w4 (w.heap.size + 1 + 1) #[.float .f32 0, .float .f32 0, .float .f32 0, .float .f32 0] 42 := Blk.kp ((N1.out.push _).push _) hk (by omega)
      have o1 := hD.2.1
      have RW := Lib.hid (own_more (base' := w.heap.size + 3) hrow (by simp; omega))
      have HT4 := Lib.hid hT; have HFS := Lib.hid hfs; have HM := Lib.hid hfl
      have hs4 : w.heap.size + 3 ≤ w4.heap.size := by have := hk.size; simp at this; omega
      have ho4 := o1.lt
      have KX := Lib.hid (k1.push (.cells #[.float .f32 T.d, .float .f32 T.r, .float .f32 T.b, .float .f32 T.g] 42)); have OX := Lib.hid (One.push o1 (.cells #[.float .f32 T.d, .float .f32 T.r, .float .f32 T.b, .float .f32 T.g] 42)); have RX := Lib.hid (RW.out.alloc (.cells #[.float .f32 T.d, .float .f32 T.r, .float .f32 T.b, .float .f32 T.g] 42)); have BX := Lib.hid (b_alloc BD.out (.cells #[.float .f32 T.d, .float .f32 T.r, .float .f32 T.b, .float .f32 T.g] 42)); have NX := Lib.hid (Blk.new w4 #[.float .f32 T.d, .float .f32 T.r, .float .f32 T.b, .float .f32 T.g] 42)
      clear hT hrow hfl hfs hD hk k1 o1 c0 c1 c2 c3 P4
      go_upto_region 8 with fail
      obtain ⟨cc, hcc⟩ : ∃ cc : Int, (ddC S ts f l n : Int) = cc := ⟨_, rfl⟩
      rw [hcc] at OX EC
      clear hcc
      generalize w4.alloc (.cells #[.float .f32 T.d, .float .f32 T.r, .float .f32 T.b, .float .f32 T.g] 42) = W5 at *
      have n0 := NX.out; have k1 := KX.out; have o1 := OX.out
      have c0 := n0.cell 0; have c1 := n0.cell 1; have c2 := n0.cell 2; have c3 := n0.cell 3
      simp at c0 c1 c2 c3
      have e1 := o1.cell
      have d0 := k1.cell 0; have d1 := k1.cell 1; have d2 := k1.cell 2; have d3 := k1.cell 3
      simp at d0 d1 d2 d3
      have y0 := k1.frozen 0; have y1 := k1.frozen 1; have y2 := k1.frozen 2; have y3 := k1.frozen 3
      have g1 : ¬ w.heap.size + 1 + 1 = w4.heap.size := by omega
      have g2 : ¬ w4.heap.size = w.heap.size + 1 + 1 := by omega
      have g3 : ¬ w3.heap.size = w.heap.size + 1 + 1 := by have := h34.out; omega
      have g4 : ¬ w.heap.size + 1 + 1 = w3.heap.size := by have := h34.out; omega
      clear n0 k1 o1 hs4 ho4
      have q3 : w.heap.size + 1 + 1 < w.heap.size + 3 := by omega
      obtain ⟨W6, hW6⟩ : ∃ W6, (((W5.setCell ⟨w.heap.size + 1 + 1, 0, none⟩ (.float .f32 T.d)).setCell ⟨w.heap.size + 1 + 1, 1, none⟩ (.float .f32 T.r)).setCell ⟨w.heap.size + 1 + 1, 2, none⟩ (.float .f32 T.b)).setCell ⟨w.heap.size + 1 + 1, 3, none⟩ (.float .f32 T.g) = W6 := ⟨_, rfl⟩
      have KY : Hid (Blk W6 (w.heap.size + 1 + 1) #[.float .f32 T.d, .float .f32 T.r, .float .f32 T.b, .float .f32 T.g] 42) := by rw [← hW6]; exact (((KX.out.set 0 _).set 1 _).set 2 _).set 3 _
      have RY : Hid (W6.ownsRow (w.heap.size + 3) 24 1 v m (fs.map (Value.float .f32))) := by rw [← hW6]; exact own_setO (own_setO (own_setO (own_setO RX.out q3 0 _) q3 1 _) q3 2 _) q3 3 _
      have BY : Hid (Below w.heap.size w W6) := by rw [← hW6]; exact b_set (b_set (b_set (b_set BX.out q1 _ _) q1 _ _) q1 _ _) q1 _ _
      have HW6 := Lib.hid hW6; clear hW6
      go_cut [9, 10, 11] (fun s9 s10 s11 wx => s9 = v ∧ s10 = .int .i64 cc ∧ s11 = .int .i64 0 ∧ Blk wx (w.heap.size + 1 + 1) #[.float .f32 T.d, .float .f32 T.r, .float .f32 T.b, .float .f32 T.g] 42 ∧ wx.ownsRow (w.heap.size + 3) 24 1 v m (fs.map (Value.float .f32)) ∧ Below w.heap.size w wx)
      case first =>
        go_region_law (fail)
        all_goals
          go_wp2_with fail
          go_meet
          rw [HW6.out]
          exact ⟨rfl, rfl, rfl, blk_drew KY.out, own_heap rfl RY.out, b_drew BY.out⟩
      case rest =>
        obtain ⟨rfl, rfl, rfl, kB, rB, bB⟩ := hcut
        have KB := Lib.hid kB; have RB := Lib.hid rB; have BB2 := Lib.hid bB
        clear kB rB bB
        go_wp2
        refine bodyPost_ret (ret_sn4 (T := T) Try.results21 rfl KB.out) rfl ?_
        rw [ES.out, EL.out, EC.out, ← HFS.out]
        exact ddc_of_row HT4.out (own_more RB.out (by omega)) BB2.out
    all_goals
      obtain ⟨es, el, ec⟩ := S1.out (by first | trivial | decide)
      have ES := Lib.hid es; have EL := Lib.hid el; have EC := Lib.hid ec
      clear es el ec S0 S1 HO
      go_wp2
      refine bodyPost_ret (ret_sn4 (T := ⟨0, 0, 0, 0⟩) Try.results21 rfl ((((M1a.out.set 0 _).set 1 _).set 2 _).set 3 _)) rfl ?_
      rw [ES.out, EL.out, EC.out]
      exact ddc_of_row (fs := []) is_sn0 (World.ownsRow_nil _ _ _ _) (b_set (b_set (b_set (b_set BC.out q1 _ _) q1 _ _) q1 _ _) q1 _ _)
end Go.Proofs.Ytjkgiknklkfipaa
