/-
  'CrossingsOf', the program's, and its law.
-/
import Derived.Test.YtaodpopghacmaaaDoorLni
namespace Go.Proofs.YtaodpopghacmaaaDoor
open Go.RowKit Go.ChangeShapes Go.WideShapes Go.Deep
attribute [local go_sem ↓] Go.wp_at_zero Go.wp_at_succ
set_option linter.unusedVariables false
set_option linter.unusedSimpArgs false
set_option maxRecDepth 100000
theorem fo_of_fl {w : World} {B0 B : Nat} {A : Option Addr} {fs : List Nat} (h : Fl w B0 B A fs) : Fo w B A fs := fun h0 => by
  obtain ⟨b, e, _, h2, hc⟩ := h h0
  exact ⟨b, 0, e, h2, fun i f hf => by rw [Nat.zero_add]; exact hc i f hf⟩
theorem fo_of_own {w : World} {base : Nat} {v : Value} {n : Nat} {fs : List Nat} (h : w.ownsRow base 26 1 v n (fs.map (Value.float .f32))) (hn : fs.length = n) : ∃ A c, v = .slice A n c ∧ Fo w w.heap.size A fs ∧ (∀ a, A = some a → base ≤ a.block) := by
  have hb := own_base h
  have hc := fun i (hi : i < n) => h.2
  rcases h.2 with ⟨rfl, h0⟩ | ⟨g, cap, cur, rfl, h1, h2, h3, h4, h5, h6⟩
  · subst h0
    exact ⟨none, 0, rfl, fun h => absurd h (by omega), fun a h => by cases h⟩
  · refine ⟨some ⟨g, 0, none⟩, cap, rfl, fun _ => ⟨g, 0, rfl, (hb g rfl).2, fun i f hf => ?_⟩, fun a h => by cases h; exact h1⟩
    rw [Nat.zero_add, cell_of_row _ _ i _ _ _ h2]
    have hi : i < n := by rw [← hn]; exact (List.getElem?_eq_some_iff.1 hf).1
    have e1 := congrArg (fun l => l[i]?) h6
    simp only [List.getElem?_take, List.getElem?_map, hf, Option.map_some] at e1
    rw [if_pos (by omega)] at e1
    simpa using e1
set_option maxHeartbeats 2000000 in
theorem implAnswer_rows (A : Option Addr) (n c : Nat) (ds : List Dc) (q : Nat) (w : World) (hl : ds.length = n) (hn : n ≤ 1048576) (hT : Dc.L w w.heap.size A ds) (h0 : codeL ds q = 0) :
    Calls Tryd.prog 7 #[.slice A n c, .float .f32 q] w fun e w' => ∃ (v u : Value) (ss : List Nat), e = .returned (.tuple #[v, u, .int .i64 0]) ∧ w'.ownsRow w.heap.size 26 1 v ss.length (ss.map (Value.float .f32)) ∧ ss.map cn = (List.range n).map (swC ds q) ∧ Below w.heap.size w w' := by
  obtain ⟨h1, h2⟩ := codeL_ok h0
  have hv2 := Lib.hid (shaft_ok A n c ds h1 w hl hn hT)
  have Hl := Lib.hid hl; have HT := Lib.hid hT
  have hp := isPlainSize_any q
  rw [h2] at hp
  have hp := Lib.hid hp
  clear hl hT h0 h1 h2
  have n1 : ∀ w, (binOp .neq 43 .nilIface .nilIface).run Tryd.prog w = .ok (.bool false) w := fun w => by kernel_rfl
  go_enter Tryd.func7, Tryd.ntmps7
  go_wp2_with fail
  refine (hp.out _).mono ?_
  rintro e w0 ⟨rfl, rfl⟩
  go_wp2_with fail
  refine hv2.out.mono ?_
  rintro e w1 ⟨rfl, b1⟩
  have B1 := Lib.hid b1
  have hT1 := Lib.hid (HT.out.keep b1)
  clear b1
  go_wp2_with fail
  refine (answer_any A n c ds q _ Hl.out hn hT1.out).mono ?_
  rintro e w2 ⟨v, u, ss, ts, rfl, o1, o2, ap, hs, ht, b2⟩
  have O1 := Lib.hid (own_more o1 B1.out.size); have O2 := Lib.hid (own_more o2 B1.out.size); have AP := Lib.hid ap; have HS := Lib.hid hs; have HTt := Lib.hid ht
  have B2 : Hid (Below w.heap.size w w2) := b_then B1.out b2
  clear o1 o2 ap hs ht b2
  go_wp2
  go_ret3
  exact ⟨v, u, ss, rfl, O1.out, HS.out, B2.out⟩
set_option maxHeartbeats 4000000 in
theorem implCross_any (A : Option Addr) (n c : Nat) (ds : List Dc) (q : Nat) (w : World) (hE : EtAt w) (hl : ds.length = n) (hn : n ≤ 1048576) (hT : Dc.L w w.heap.size A ds) :
    Calls Tryd.prog 9 #[.slice A n c, .float .f32 q] w (RV (.tuple #[.int .i64 (cntX ds q), .int .i64 (codeX ds q)]) w) := by
  have hv := Lib.hid (implAnswerOf_any A n c ds q w hE hl hn hT)
  obtain ⟨K, hK⟩ : ∃ K, codeL ds q = K := ⟨_, rfl⟩
  rw [hK] at hv
  have HK := Lib.hid hK
  unfold cntX codeX
  rw [hK]
  have Hl := Lib.hid hl
  have HT := Lib.hid hT
  clear hK hl hT hE
  by_cases h0 : K = 0
  · subst h0
    rw [if_pos rfl, Hl.out]
    have h2 : 2 ≤ n := by have := okLine_len (codeL_ok HK.out).1; have := Hl.out; omega
    obtain ⟨C, hC⟩ : ∃ C : Int, (if (if plAll (swC ds q) n = true then (0 : Int) else 4) = 0 then (crossN (swC ds q) (n - 1) : Int) else 0) = C := ⟨_, rfl⟩
    obtain ⟨L, hL⟩ : ∃ L : Int, (if plAll (swC ds q) n = true then (0 : Int) else 4) = L := ⟨_, rfl⟩
    rw [hL] at hC
    rw [hL, hC]
    have F1 := Lib.hid (fun h : plAll (swC ds q) n = true => show C = crossN (swC ds q) (n - 1) ∧ L = 0 by rw [← hC, ← hL, if_pos h, if_pos rfl]; exact ⟨rfl, rfl⟩)
    have F2 := Lib.hid (fun h : plAll (swC ds q) n = false => show C = 0 ∧ L = 4 by rw [← hC, ← hL, h]; exact ⟨rfl, rfl⟩)
    clear hC hL
    have hr := Lib.hid (implAnswer_rows A n c ds q w Hl.out hn HT.out HK.out)
    go_enter Tryd.func9, Tryd.ntmps9
    go_wp2_with fail
    refine hr.out.mono ?_
    rintro e w2 ⟨v, u, ss, rfl, o1, hs, b2⟩
    have hsl : ss.length = n := by have := congrArg List.length hs; simpa using this
    rw [hsl] at o1
    obtain ⟨As, cs, rfl, hF, _⟩ := fo_of_own o1 hsl
    obtain ⟨g, cp, hgv, hg⟩ := row_form o1 (by omega)
    obtain ⟨rfl, rfl⟩ : As = some ⟨g, 0, none⟩ ∧ cs = cp := by cases hgv; exact ⟨rfl, rfl⟩
    have hcap : n ≤ cs := by
      rcases o1.2 with ⟨h, _⟩ | ⟨g', cap, cur, h, _, _, hnc, _⟩
      · cases h
      · cases h; exact hnc
    have hcs1 : ¬ cs = 1 := by omega
    have O1 := Lib.hid o1; have B2 := Lib.hid b2; have Hsl := Lib.hid hsl; have HS := Lib.hid hs; have HF := Lib.hid hF
    clear o1 hs b2 hsl hF hgv hg
    obtain ⟨t, ht⟩ : ∃ t, plAll (swC ds q) n = t := ⟨_, rfl⟩
    have hall := allPlain_is (t := t) (A := some ⟨g, 0, none⟩) (n := n) (c := cs) (fs := ss) (w := w2) (B0 := w2.heap.size) ((all_of_map HS.out).trans ht) Hsl.out (by unfold maxLen; omega) HF.out
    have HA := Lib.hid hall
    have Ht := Lib.hid ht
    clear hall ht
    cases t
    · obtain ⟨e1, e2⟩ := F2.out Ht.out
      have E1 := Lib.hid e1; have E2 := Lib.hid e2
      clear e1 e2
      go_wp2_with (go_at_call 24; refine HA.out.mono ?_; rintro e w3 ⟨rfl, rfl⟩)
      go_ret2
      exact ⟨by rw [E1.out, E2.out]; rfl, B2.out⟩
    · obtain ⟨e1, e2⟩ := F1.out Ht.out
      have E1 := Lib.hid e1; have E2 := Lib.hid e2
      clear e1 e2
      go_wp2_with (go_at_call 24; refine HA.out.mono ?_; rintro e w3 ⟨rfl, rfl⟩)
      go_loopw [9, 10, 11, 30] (fun c9 s10 s11 i wr => ∃ k : Nat, k ≤ n - 1 ∧ i = .int .i64 k ∧ c9 = .int .i64 (crossN (swC ds q) k) ∧ Hid (Below w2.heap.size w2 wr)) (fun _ _ _ i _ => n - (intOf i).toNat)
      case atStart => exact ⟨0, Nat.zero_le _, rfl, rfl, Below.refl _ _⟩
      case round =>
        obtain ⟨k, hk, rfl, rfl, hb⟩ := hrel
        have Bw : Hid (Below w.heap.size w wr) := b_then B2.out hb.out
        have hO := Lib.hid (own_below O1.out hb.out)
        by_cases hlt : k < n - 1
        · obtain ⟨x, hx⟩ : ∃ x, ss[k + 1]? = some x := ⟨_, List.getElem?_eq_getElem (by have := Hsl.out; omega)⟩
          obtain ⟨y, hy⟩ : ∃ y, ss[k]? = some y := ⟨_, List.getElem?_eq_getElem (by have := Hsl.out; omega)⟩
          have c0 : wr.cell? ⟨g, 1 + k, none⟩ = some (.float .f32 x) := (hO.out.cellAt (1 + k) (by omega)).trans (by rw [List.getElem?_map, show 1 + k = k + 1 by omega, hx]; rfl)
          have d0 : wr.cell? ⟨g, k, none⟩ = some (.float .f32 y) := (hO.out.cellAt k (by omega)).trans (by rw [List.getElem?_map, hy]; rfl)
          have hap : apB y x = apB (swC ds q k) (swC ds q (k + 1)) := by rw [← map_at HS.out hx, ← map_at HS.out hy]; exact (apB_cn (cn_cn y) (cn_cn x)).symm
          obtain ⟨t, ht⟩ : ∃ t, apB y x = t := ⟨_, rfl⟩
          have hv3 := Lib.hid (fun w => opposed_any y x w)
          rw [ht] at hv3
          have hcr : crossN (swC ds q) (k + 1) = crossN (swC ds q) k + if t then 1 else 0 := by rw [crossN, ← hap, ht]
          have HCR := Lib.hid hcr
          have hle := crossN_le (swC ds q) k
          have u1 : (k : Int) < ((n - 1 : Nat) : Int) := by omega
          have u2 : (k : Int) < (n : Int) := by omega
          generalize hcn : crossN (swC ds q) k = N at *
          clear hx hy ht hap hcr hcn
          cases t
          · go_wp2_with (go_at_call 26; refine (hv3.out _).mono ?_; rintro e w3 ⟨rfl, rfl⟩)
            go_roundw
            case rel => exact ⟨k + 1, by omega, by go_num, by rw [HCR.out]; rfl, hb⟩
            case measure => simp [intOf]; omega
          · go_wp2_with (go_at_call 26; refine (hv3.out _).mono ?_; rintro e w3 ⟨rfl, rfl⟩)
            go_roundw
            case rel => exact ⟨k + 1, by omega, by go_num, by rw [HCR.out]; go_num, hb⟩
            case measure => simp [intOf]; omega
        · obtain rfl : k = n - 1 := by omega
          go_wp2
          go_ret2
          exact ⟨by rw [E1.out, E2.out]; rfl, Bw.out⟩
  · rw [if_neg h0, if_neg h0]
    go_enter Tryd.func9, Tryd.ntmps9
    go_wp2_with fail
    refine hv.out.mono ?_
    rintro e w2 ⟨As, ns, cs, ss, At, nt, ct, ts, rfl, hl1, hs, hf, ho, ha, _, _, _, _, _, _, b2⟩
    have B2 := Lib.hid b2
    clear hl1 hs hf ho ha b2
    go_wp2
    go_ret2
    exact ⟨rfl, B2.out⟩
end Go.Proofs.YtaodpopghacmaaaDoor
