/-
  BestGate, LeastGate: the codes, and the model's side.
-/
import Derived.Test.YtjkgiknklkfipaaDoorGt
import Derived.Deep.RegionHeld3
import Derived.Deep.DeepCutAuto
namespace Go.Proofs.YtjkgiknklkfipaaDoor
open Go.RowKit Go.ChangeShapes Go.WideShapes Go.Deep
attribute [local go_sem ↓] Go.wp_at_zero Go.wp_at_succ
set_option linter.unusedVariables false
set_option linter.unusedSimpArgs false
set_option maxRecDepth 100000
/-- The best gate of 0 .. k. -/
def bgB (off : Nat → Nat) : Nat → Nat
  | 0 => 0
  | k + 1 => if oLt (off (k + 1)) (off (bgB off k)) then k + 1 else bgB off k
theorem bgB_le (off : Nat → Nat) (k : Nat) : bgB off k ≤ k := by
  induction k with
  | zero => exact Nat.le_refl _
  | succ k ih => unfold bgB; split <;> omega
def gtK (G : Gv) (s l : Nat) : Int := if okG G then (if spB s && psB l then 0 else 2) else 1
def bgR (G : Gv) (s l : Nat) : Int := if gtK G s l = 0 then (bgB (offG G s l) 16 : Int) else 0
/-- The least gate with torque enough, and the code. -/
def lgO (G : Gv) (s l : Nat) : Int × Int := match (List.range 17).find? (fun k : Nat => oGe (torqG G (k : Int) s) l) with | some k => ((k : Int), 0) | none => (0, 6)
def lgR (G : Gv) (s l : Nat) : Int × Int := if gtK G s l = 0 then lgO G s l else (0, gtK G s l)
theorem find_at {p : Nat → Bool} {k n : Nat} (h : ∀ i, i < k → p i = false) (hk : k < n) (hp : p k = true) : (List.range n).find? p = some k := by
  obtain ⟨m, rfl⟩ : ∃ m, n = k + (m + 1) := ⟨n - k - 1, by omega⟩
  rw [List.range_add, List.find?_append]
  have h1 : (List.range k).find? p = none := by
    rw [List.find?_eq_none]
    intro i hi
    rw [h i (List.mem_range.1 hi)]
    simp
  rw [h1, List.range_succ_eq_map]
  simp [hp]
theorem find_no {p : Nat → Bool} {n : Nat} (h : ∀ i, i < n → p i = false) : (List.range n).find? p = none := by
  rw [List.find?_eq_none]
  intro i hi
  rw [h i (List.mem_range.1 hi)]
  simp
theorem gtK_cases (G : Gv) (s l : Nat) : gtK G s l = 0 ∨ gtK G s l = 1 ∨ gtK G s l = 2 := by
  unfold gtK
  split
  · split <;> simp
  · simp
theorem gtK_zero {G : Gv} {s l : Nat} (h : gtK G s l = 0) : okG G = true ∧ spB s = true ∧ psB l = true := by
  unfold gtK at h
  rcases Bool.eq_false_or_eq_true (okG G) with h1 | h1 <;> rcases Bool.eq_false_or_eq_true (spB s) with h2 | h2 <;> rcases Bool.eq_false_or_eq_true (psB l) with h3 | h3 <;> simp_all
theorem tf_ltG {x y : Nat} {t : Bool} (h : oLt x y = t) : (t = true → FloatKind.f32.format.order x y = some .lt) ∧ (t = false → (FloatKind.f32.format.order x y == some .lt) = false ∧ ¬ FloatKind.f32.format.order x y = some .lt) := by
  unfold oLt at h
  subst h
  exact ⟨fun h => by simpa using h, fun h => ⟨h, by simpa using h⟩⟩
theorem tf_geG {x y : Nat} {t : Bool} (h : oGe x y = t) : (t = true → (FloatKind.f32.format.order x y == some .gt || FloatKind.f32.format.order x y == some .eq) = true ∧ ((FloatKind.f32.format.order x y == some .gt) = true ∨ (FloatKind.f32.format.order x y == some .eq) = true) ∧ (FloatKind.f32.format.order x y = some .gt ∨ FloatKind.f32.format.order x y = some .eq)) ∧
    (t = false → (FloatKind.f32.format.order x y == some .gt) = false ∧ (FloatKind.f32.format.order x y == some .eq) = false ∧ ¬ FloatKind.f32.format.order x y = some .gt ∧ ¬ FloatKind.f32.format.order x y = some .eq) := by
  unfold oGe at h
  subst h
  refine ⟨fun h => ⟨h, by simpa using h, by simpa using h⟩, fun h => ?_⟩
  simp only [Bool.or_eq_false_iff] at h
  exact ⟨h.1, h.2, by simpa using h.1, by simpa using h.2⟩
theorem cell_onG {W w' : World} {g o : Nat} {v : Value} (h : W.cell? ⟨g, o, none⟩ = some v) (b : Below W.heap.size W w') : w'.cell? ⟨g, o, none⟩ = some v := by
  have hlt : g < W.heap.size := by
    rcases Nat.lt_or_ge g W.heap.size with hlt | hge
    · exact hlt
    · simp [World.cell?, Array.getElem?_eq_none hge] at h
  exact (World.cell?_of_block (a := ⟨g, o, none⟩) (b.block g hlt)).trans h
theorem gv_step {G : Gv} {q : Nat} {r W w' : World} (h : W.cell? ⟨q, 0, none⟩ = some (.int .i16 G.mb) ∧ W.cell? ⟨q, 1, none⟩ = some (.float .f32 G.mh) ∧ W.cell? ⟨q, 2, none⟩ = some (.float .f32 G.mr) ∧ W.cell? ⟨q, 3, none⟩ = some (.float .f32 G.ar) ∧ W.cell? ⟨q, 4, none⟩ = some (.float .f32 G.he) ∧ W.cell? ⟨q, 5, none⟩ = some (.float .f32 G.lo) ∧ W.cell? ⟨q, 6, none⟩ = some (.float .f32 G.hi) ∧ W.cell? ⟨q, 7, none⟩ = some (.float .f32 G.ine) ∧ Hid (Below r.heap.size r W)) (b : Below W.heap.size W w') : w'.cell? ⟨q, 0, none⟩ = some (.int .i16 G.mb) ∧ w'.cell? ⟨q, 1, none⟩ = some (.float .f32 G.mh) ∧ w'.cell? ⟨q, 2, none⟩ = some (.float .f32 G.mr) ∧ w'.cell? ⟨q, 3, none⟩ = some (.float .f32 G.ar) ∧ w'.cell? ⟨q, 4, none⟩ = some (.float .f32 G.he) ∧ w'.cell? ⟨q, 5, none⟩ = some (.float .f32 G.lo) ∧ w'.cell? ⟨q, 6, none⟩ = some (.float .f32 G.hi) ∧ w'.cell? ⟨q, 7, none⟩ = some (.float .f32 G.ine) ∧ Hid (Below r.heap.size r w') :=
  ⟨cell_onG h.1 b, cell_onG h.2.1 b, cell_onG h.2.2.1 b, cell_onG h.2.2.2.1 b, cell_onG h.2.2.2.2.1 b, cell_onG h.2.2.2.2.2.1 b, cell_onG h.2.2.2.2.2.2.1 b, cell_onG h.2.2.2.2.2.2.2.1 b, b_then h.2.2.2.2.2.2.2.2.out b⟩
theorem l03Gated_any (G : Gv) (wG : (Lit.int .i16 G.mb).wf = true) (s l : Nat) (w : World) : Calls Tryd.prog 50 #[.agg #[.int .i16 G.mb, .float .f32 G.mh, .float .f32 G.mr, .float .f32 G.ar, .float .f32 G.he, .float .f32 G.lo, .float .f32 G.hi, .float .f32 G.ine], .float .f32 s, .float .f32 l] w (RV (.int .i64 (gtK G s l)) w) := by
  have bw : Below w.heap.size w (w.alloc (.cells #[.int .i16 G.mb, .float .f32 G.mh, .float .f32 G.mr, .float .f32 G.ar, .float .f32 G.he, .float .f32 G.lo, .float .f32 G.hi, .float .f32 G.ine] 58)) := b_alloc (Below.refl _ _) _
  have hS := fun w => l03Speed_any s w
  have hP := fun w => l03Amount_any l w
  unfold gtK
  rcases Bool.eq_false_or_eq_true (okG G) with hk | hk <;> rcases Bool.eq_false_or_eq_true (spB s) with hs | hs <;> rcases Bool.eq_false_or_eq_true (psB l) with hl | hl
  all_goals
    rw [hs] at hS
    rw [hl] at hP
    simp only [hk, hs, hl, if_true, if_false, Bool.false_eq_true, Bool.and_true, Bool.and_false, Bool.and_self, Bool.false_and]
    have Hk := Lib.hid hk; have HS := Lib.hid hS; have HP := Lib.hid hP; have BW := Lib.hid bw
    clear hk hs hl hS hP bw
    go_enter Tryd.func50, Tryd.ntmps50
    go_wp2_with (first | (go_at_call 74; refine (l03Ok_is Hk.out wG _).mono ?_; rintro e w1 ⟨rfl, b1⟩; have B1 : Hid (Below w.heap.size w w1) := b_then BW.out b1) | (go_at_call 75; refine (HS.out _).mono ?_; rintro e w2 ⟨rfl, rfl⟩) | (go_at_call 76; refine (HP.out _).mono ?_; rintro e w3 ⟨rfl, rfl⟩))
    go_ret
    exact ⟨rfl, B1.out⟩
def gateV (Z : Sens) (G : Gv) (s l : Nat) : Value := if okG G then (if spB s && psB l then .nilIface else .iface 174 (.pointer (some Z.a1))) else .iface 174 (.pointer (some Z.a0))
theorem gateError_any (Z : Sens) (G : Gv) (s l : Nat) (w : World) (hZ : SenAt w Z) : Calls Tryd.prog 54 #[.agg #[.int .i16 G.mb, .float .f32 G.mh, .float .f32 G.mr, .float .f32 G.ar, .float .f32 G.he, .float .f32 G.lo, .float .f32 G.hi, .float .f32 G.ine], .float .f32 s, .float .f32 l] w (RV (gateV Z G s l) w) := by
  have bw : Below w.heap.size w (w.alloc (.cells #[.int .i16 G.mb, .float .f32 G.mh, .float .f32 G.mr, .float .f32 G.ar, .float .f32 G.he, .float .f32 G.lo, .float .f32 G.hi, .float .f32 G.ine] 58)) := b_alloc (Below.refl _ _) _
  have hS := fun w => isSpeed_any s w
  have hP := fun w => isPlainSize_any l w
  have HZ := Lib.hid hZ
  clear hZ
  unfold gateV
  rcases Bool.eq_false_or_eq_true (okG G) with hk | hk <;> rcases Bool.eq_false_or_eq_true (spB s) with hs | hs <;> rcases Bool.eq_false_or_eq_true (psB l) with hl | hl
  all_goals
    rw [hs] at hS
    rw [hl] at hP
    simp only [hk, hs, hl, if_true, if_false, Bool.false_eq_true, Bool.and_true, Bool.and_false, Bool.and_self, Bool.false_and]
    have Hk := Lib.hid hk; have HS := Lib.hid hS; have HP := Lib.hid hP; have BW := Lib.hid bw
    clear hk hs hl hS hP bw
    go_enter Tryd.func54, Tryd.ntmps54
    go_wp2_with (first | (go_at_call 79; refine (validGov_is Hk.out _).mono ?_; rintro e w1 ⟨rfl, b1⟩; have B1 : Hid (Below w.heap.size w w1) := b_then BW.out b1; have z1 := SenAt.on HZ.out (by rfl) B1.out; have g0 := z1.1.1.cell; have g1 := z1.1.2.1.cell; clear z1) | (go_at_call 80; refine (HS.out _).mono ?_; rintro e w2 ⟨rfl, rfl⟩) | (go_at_call 81; refine (HP.out _).mono ?_; rintro e w3 ⟨rfl, rfl⟩))
    go_ret
    exact ⟨rfl, B1.out⟩
set_option maxHeartbeats 4000000 in
theorem specBestGate_any (G : Gv) (wG : (Lit.int .i16 G.mb).wf = true) (wh : G.mh < 4294967296) (s l : Nat) (w : World) : Calls Tryd.prog 29 #[.agg #[.int .i16 G.mb, .float .f32 G.mh, .float .f32 G.mr, .float .f32 G.ar, .float .f32 G.he, .float .f32 G.lo, .float .f32 G.hi, .float .f32 G.ine], .float .f32 s, .float .f32 l] w (RV (.tuple #[.int .i64 (bgR G s l), .int .i64 (gtK G s l)]) w) := by
  have hA := fun w => l03Gated_any G wG s l w
  obtain ⟨K, hK⟩ : ∃ K, gtK G s l = K := ⟨_, rfl⟩
  have hc := gtK_cases G s l
  rw [hK] at hA hc ⊢
  unfold bgR
  rw [hK]
  have k0 := AtGv.new w G
  have bw : Below w.heap.size w (w.alloc (.cells #[.int .i16 G.mb, .float .f32 G.mh, .float .f32 G.mr, .float .f32 G.ar, .float .f32 G.he, .float .f32 G.lo, .float .f32 G.hi, .float .f32 G.ine] 58)) := b_alloc (Below.refl _ _) _
  have K0 := Lib.hid k0; have Bw := Lib.hid bw; have HA := Lib.hid hA
  clear k0 bw hA
  rcases hc with rfl | rfl | rfl
  · obtain ⟨o1, o2, o3⟩ := gtK_zero hK
    have HG : Hid (GoodG G) := Lib.hid ⟨o1, wG, wh⟩
    have HSp := Lib.hid o2
    have HO := Lib.hid (fun (k : Nat) (hk : k ≤ 16) => off_some HG.out o2 o3 hk)
    have HD := Lib.hid (show ∀ k : Nat, sizN (subN (torqG G (k : Int) s) l) = offG G s l k from fun _ => rfl)
    rw [if_pos rfl]
    clear hK o1 o2 o3
    generalize offG G s l = off at *
    go_enter Tryd.func29, Tryd.ntmps29
    go_wp2_with (go_at_call 50; refine (HA.out _).mono ?_; rintro e w1 ⟨rfl, b1⟩; have B1 : Hid (Below w.heap.size w w1) := b_then Bw.out b1; have K1 := Lib.hid (K0.out.on (by rfl) b1); clear b1)
    go_loopw [9, 10] (fun v9 v10 wr => ∃ k : Nat, k ≤ 16 ∧ v9 = .int .i64 (bgB off k) ∧ v10 = .int .i64 ((k : Int) + 1) ∧ Hid (AtGv wr w.heap.size G) ∧ Hid (Below w.heap.size w wr)) (fun _ v10 _ => 17 - (intOf v10).toNat)
    case atStart => exact ⟨0, by omega, rfl, rfl, K1, B1⟩
    case round =>
      obtain ⟨k, hk, rfl, rfl, KK, BB⟩ := hrel
      by_cases hlt : k < 16
      · have hb := bgB_le off k
        have HS := Lib.hid (show bgB off (k + 1) = if oLt (off (k + 1)) (off (bgB off k)) then k + 1 else bgB off k from rfl)
        generalize bgB off k = b at *
        obtain ⟨e1, e2, _⟩ := HO.out (k + 1) (by omega)
        obtain ⟨f1, f2, _⟩ := HO.out b (by omega)
        have ra1 := fun w => run_float_arith (P := Tryd.prog) w .sub 24 .f32 _ _ _ e1
        have ra2 := fun w => run_float_arith (P := Tryd.prog) w .sub 24 .f32 _ _ _ f1
        have d1 := HD.out (k + 1)
        have d2 := HD.out b
        have A1 := Lib.hid (fun w => l03At_any G HG.out s HSp.out ((k + 1 : Nat) : Int) (by omega) (by omega) w)
        have A2 := Lib.hid (fun w => l03At_any G HG.out s HSp.out (b : Int) (by omega) (by omega) w)
        have A1 := Lib.hid (show ∀ w, Calls Tryd.prog 52 #[.agg #[.int .i16 G.mb, .float .f32 G.mh, .float .f32 G.mr, .float .f32 G.ar, .float .f32 G.he, .float .f32 G.lo, .float .f32 G.hi, .float .f32 G.ine], .float .f32 s, .int .i64 ((k : Int) + 1)] w (RV (.float .f32 (torqG G ((k : Int) + 1) s)) w) from A1.out)
        have ra1 : ∀ w, (binOp .sub 24 (.float .f32 (torqG G ((k : Int) + 1) s)) (.float .f32 l)).run Tryd.prog w = .ok (.float .f32 (subN (torqG G ((k : Int) + 1) s) l)) w := ra1
        have d1 : sizN (subN (torqG G ((k : Int) + 1) s) l) = off (k + 1) := d1
        have Z1 := Lib.hid (fun w => specSizeW_any (subN (torqG G ((k : Int) + 1) s) l) w)
        have Z2 := Lib.hid (fun w => specSizeW_any (subN (torqG G (b : Int) s) l) w)
        rw [d1] at Z1
        rw [d2] at Z2
        clear d1 d2 e1 e2 f1 f2
        generalize torqG G ((k : Int) + 1) s = t1 at *
        generalize torqG G (b : Int) s = t2 at *
        generalize subN t1 l = u1 at *
        generalize subN t2 l = u2 at *
        generalize off (k + 1) = v1 at *
        generalize off b = v2 at *
        have C0 : wr.cell? ⟨w.heap.size, 0, none⟩ = some (.int .i16 G.mb) ∧ wr.cell? ⟨w.heap.size, 1, none⟩ = some (.float .f32 G.mh) ∧ wr.cell? ⟨w.heap.size, 2, none⟩ = some (.float .f32 G.mr) ∧ wr.cell? ⟨w.heap.size, 3, none⟩ = some (.float .f32 G.ar) ∧ wr.cell? ⟨w.heap.size, 4, none⟩ = some (.float .f32 G.he) ∧ wr.cell? ⟨w.heap.size, 5, none⟩ = some (.float .f32 G.lo) ∧ wr.cell? ⟨w.heap.size, 6, none⟩ = some (.float .f32 G.hi) ∧ wr.cell? ⟨w.heap.size, 7, none⟩ = some (.float .f32 G.ine) ∧ Hid (Below wr.heap.size wr wr) := by
          obtain ⟨c0, c1, c2, c3, c4, c5, c6, c7⟩ := KK.out.cells
          exact ⟨c0, c1, c2, c3, c4, c5, c6, c7, Lib.hid (Below.refl _ _)⟩
        have C1 := gv_step C0 (b_drew (Below.refl wr.heap.size wr))
        have kl : w.heap.size < wr.heap.size := KK.out.lt
        have j0 : (0 : Int) ≤ (k : Int) + 1 := by omega
        have j1 : (k : Int) + 1 ≤ 16 := by omega
        have j2 : (0 : Int) ≤ (b : Int) := by omega
        have j3 : (b : Int) ≤ 16 := by omega
        clear HO HD hb
        have k2 : IntKind.i64.wrap ((k : Int) + 1 + 1) = (k : Int) + 1 + 1 := IntWalk.i64_in _ (by omega)
        obtain ⟨tb, htb⟩ : ∃ t, oLt v1 v2 = t := ⟨_, rfl⟩
        cases tb
        · obtain ⟨t1, t2⟩ := (tf_ltG htb).2 rfl
          have HS2 : Hid (bgB off (k + 1) = b) := Lib.hid (by rw [HS.out, htb]; rfl)
          clear htb HS
          go_upto_region 8 with fail
          go_region_held3 (fun w' => w'.cell? ⟨w.heap.size, 0, none⟩ = some (.int .i16 G.mb) ∧ w'.cell? ⟨w.heap.size, 1, none⟩ = some (.float .f32 G.mh) ∧ w'.cell? ⟨w.heap.size, 2, none⟩ = some (.float .f32 G.mr) ∧ w'.cell? ⟨w.heap.size, 3, none⟩ = some (.float .f32 G.ar) ∧ w'.cell? ⟨w.heap.size, 4, none⟩ = some (.float .f32 G.he) ∧ w'.cell? ⟨w.heap.size, 5, none⟩ = some (.float .f32 G.lo) ∧ w'.cell? ⟨w.heap.size, 6, none⟩ = some (.float .f32 G.hi) ∧ w'.cell? ⟨w.heap.size, 7, none⟩ = some (.float .f32 G.ine) ∧ Hid (Below wr.heap.size wr w'))
            (first
              | exact C1
              | exact C0
              | assumption)
            (first
              | (go_at_call 52; (first | with_reducible refine (A1.out _).mono ?_ | with_reducible refine (A2.out _).mono ?_); rintro e w' ⟨rfl, q⟩; have C := gv_step (by assumption) q; clear q)
              | (go_at_call 51; (first | with_reducible refine (Z1.out _).mono ?_ | with_reducible refine (Z2.out _).mono ?_); rintro e w' ⟨rfl, rfl⟩))
          have HB3 := Lib.hid (b_then BB.out C.2.2.2.2.2.2.2.2.out)
          have K3 := Lib.hid (KK.out.on (by rfl) C.2.2.2.2.2.2.2.2.out)
          clear C C0 C1 A1 A2 Z1 Z2 ra1 ra2
          go_wp2
          go_roundw
          case rel => exact ⟨k + 1, by omega, by rw [HS2.out], by go_num, K3, HB3⟩
          case measure => simp [intOf]; omega
        · have t1 := (tf_ltG htb).1 rfl
          have HS2 : Hid (bgB off (k + 1) = k + 1) := Lib.hid (by rw [HS.out, htb]; rfl)
          clear htb HS
          go_upto_region 8 with fail
          go_region_held3 (fun w' => w'.cell? ⟨w.heap.size, 0, none⟩ = some (.int .i16 G.mb) ∧ w'.cell? ⟨w.heap.size, 1, none⟩ = some (.float .f32 G.mh) ∧ w'.cell? ⟨w.heap.size, 2, none⟩ = some (.float .f32 G.mr) ∧ w'.cell? ⟨w.heap.size, 3, none⟩ = some (.float .f32 G.ar) ∧ w'.cell? ⟨w.heap.size, 4, none⟩ = some (.float .f32 G.he) ∧ w'.cell? ⟨w.heap.size, 5, none⟩ = some (.float .f32 G.lo) ∧ w'.cell? ⟨w.heap.size, 6, none⟩ = some (.float .f32 G.hi) ∧ w'.cell? ⟨w.heap.size, 7, none⟩ = some (.float .f32 G.ine) ∧ Hid (Below wr.heap.size wr w'))
            (first
              | exact C1
              | exact C0
              | assumption)
            (first
              | (go_at_call 52; (first | with_reducible refine (A1.out _).mono ?_ | with_reducible refine (A2.out _).mono ?_); rintro e w' ⟨rfl, q⟩; have C := gv_step (by assumption) q; clear q)
              | (go_at_call 51; (first | with_reducible refine (Z1.out _).mono ?_ | with_reducible refine (Z2.out _).mono ?_); rintro e w' ⟨rfl, rfl⟩))
          have HB3 := Lib.hid (b_then BB.out C.2.2.2.2.2.2.2.2.out)
          have K3 := Lib.hid (KK.out.on (by rfl) C.2.2.2.2.2.2.2.2.out)
          clear C C0 C1 A1 A2 Z1 Z2 ra1 ra2
          go_wp2
          go_roundw
          case rel => exact ⟨k + 1, by omega, by rw [HS2.out]; go_num, by go_num, K3, HB3⟩
          case measure => simp [intOf]; omega
      · obtain rfl : k = 16 := by omega
        go_wp2
        go_ret2
        exact ⟨rfl, BB.out⟩
  all_goals
    rw [if_neg (by decide)]
    go_enter Tryd.func29, Tryd.ntmps29
    go_wp2_with (go_at_call 50; refine (HA.out _).mono ?_; rintro e w1 ⟨rfl, b1⟩; have B1 : Hid (Below w.heap.size w w1) := b_then Bw.out b1)
    go_ret2
    exact ⟨rfl, B1.out⟩
set_option maxHeartbeats 4000000 in
theorem specLeastGate_any (G : Gv) (wG : (Lit.int .i16 G.mb).wf = true) (wh : G.mh < 4294967296) (s l : Nat) (w : World) : Calls Tryd.prog 32 #[.agg #[.int .i16 G.mb, .float .f32 G.mh, .float .f32 G.mr, .float .f32 G.ar, .float .f32 G.he, .float .f32 G.lo, .float .f32 G.hi, .float .f32 G.ine], .float .f32 s, .float .f32 l] w (RV (.tuple #[.int .i64 (lgR G s l).1, .int .i64 (lgR G s l).2]) w) := by
  have hA := fun w => l03Gated_any G wG s l w
  obtain ⟨K, hK⟩ : ∃ K, gtK G s l = K := ⟨_, rfl⟩
  have hc := gtK_cases G s l
  rw [hK] at hA hc
  unfold lgR
  rw [hK]
  have k0 := AtGv.new w G
  have bw : Below w.heap.size w (w.alloc (.cells #[.int .i16 G.mb, .float .f32 G.mh, .float .f32 G.mr, .float .f32 G.ar, .float .f32 G.he, .float .f32 G.lo, .float .f32 G.hi, .float .f32 G.ine] 58)) := b_alloc (Below.refl _ _) _
  have K0 := Lib.hid k0; have Bw := Lib.hid bw; have HA := Lib.hid hA
  clear k0 bw hA
  rcases hc with rfl | rfl | rfl
  · obtain ⟨o1, o2, o3⟩ := gtK_zero hK
    have HG : Hid (GoodG G) := Lib.hid ⟨o1, wG, wh⟩
    have HSp := Lib.hid o2
    rw [if_pos rfl]
    have HL := Lib.hid (show ∀ k : Nat, k ≤ 16 → (∀ i, i < k → oGe (torqG G ((i : Nat) : Int) s) l = false) → oGe (torqG G (k : Int) s) l = true → lgO G s l = ((k : Int), 0) from fun k hk h1 h2 => by unfold lgO; rw [find_at h1 (by omega) h2])
    have HN := Lib.hid (show (∀ i, i < 17 → oGe (torqG G ((i : Nat) : Int) s) l = false) → lgO G s l = (0, 6) from fun h1 => by unfold lgO; rw [find_no h1])
    clear hK o1 o2 o3
    generalize lgO G s l = R at *
    go_enter Tryd.func32, Tryd.ntmps32
    go_wp2_with (go_at_call 50; refine (HA.out _).mono ?_; rintro e w1 ⟨rfl, b1⟩; have B1 : Hid (Below w.heap.size w w1) := b_then Bw.out b1; have K1 := Lib.hid (K0.out.on (by rfl) b1); clear b1)
    go_loopw [9] (fun v9 wr => ∃ k : Nat, k ≤ 17 ∧ v9 = .int .i64 k ∧ Hid (∀ i, i < k → oGe (torqG G ((i : Nat) : Int) s) l = false) ∧ Hid (AtGv wr w.heap.size G) ∧ Hid (Below w.heap.size w wr)) (fun v9 _ => 17 - (intOf v9).toNat)
    case atStart => exact ⟨0, by omega, rfl, Lib.hid (fun i hi => by omega), K1, B1⟩
    case round =>
      obtain ⟨k, hk, rfl, HI, KK, BB⟩ := hrel
      by_cases hlt : k < 17
      · obtain ⟨c0, c1, c2, c3, c4, c5, c6, c7⟩ := KK.out.cells
        have A1 := Lib.hid (fun w => l03At_any G HG.out s HSp.out (k : Int) (by omega) (by omega) w)
        have HLk := Lib.hid (HL.out k (by omega) HI.out)
        have HIk := Lib.hid (show oGe (torqG G (k : Int) s) l = false → ∀ i, i < k + 1 → oGe (torqG G ((i : Nat) : Int) s) l = false from fun h i hi => by
          by_cases hik : i < k
          · exact HI.out i hik
          · obtain rfl : i = k := by omega
            exact h)
        have KL := Lib.hid KK.out.lt
        obtain ⟨tb, htb⟩ : ∃ t, oGe (torqG G (k : Int) s) l = t := ⟨_, rfl⟩
        have HT := Lib.hid htb
        have TG := Lib.hid (tf_geG htb)
        clear htb
        generalize torqG G (k : Int) s = t1 at *
        cases tb
        · obtain ⟨g1, g2, g3, g4⟩ := TG.out.2 rfl
          clear TG
          go_wp2_with (go_at_call 52; refine (A1.out _).mono ?_; rintro e w2 ⟨rfl, b2⟩; have B2 : Hid (Below w.heap.size w w2) := b_then BB.out b2; have K2 := Lib.hid (KK.out.on (by rfl) b2); clear b2 c0 c1 c2 c3 c4 c5 c6 c7)
          go_roundw
          case rel => exact ⟨k + 1, by omega, by go_num, Lib.hid (HIk.out HT.out), K2, B2⟩
          case measure => simp [intOf]; omega
        · obtain ⟨g1, g2, g3⟩ := TG.out.1 rfl
          clear TG
          go_wp2_with (go_at_call 52; refine (A1.out _).mono ?_; rintro e w2 ⟨rfl, b2⟩; have B2 : Hid (Below w.heap.size w w2) := b_then BB.out b2; have K2 := Lib.hid (KK.out.on (by rfl) b2); clear b2 c0 c1 c2 c3 c4 c5 c6 c7)
          go_ret2
          rw [HLk.out HT.out]
          exact ⟨rfl, B2.out⟩
      · obtain rfl : k = 17 := by omega
        go_wp2
        go_ret2
        rw [HN.out HI.out]
        exact ⟨rfl, BB.out⟩
  all_goals
    rw [if_neg (by decide)]
    go_enter Tryd.func32, Tryd.ntmps32
    go_wp2_with (go_at_call 50; refine (HA.out _).mono ?_; rintro e w1 ⟨rfl, b1⟩; have B1 : Hid (Below w.heap.size w w1) := b_then Bw.out b1)
    go_ret2
    exact ⟨rfl, B1.out⟩
end Go.Proofs.YtjkgiknklkfipaaDoor
