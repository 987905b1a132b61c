/-
  A mill read from its text: the model's; the law.
-/
import Derived.Test.YtdbcblfinflieaaGreatDoorRmb
namespace Go.Proofs.YtdbcblfinflieaaGreatDoor
open Go.RowKit Go.ChangeShapes Go.WideShapes Go.Deep
attribute [local go_sem ↓] Go.wp_at_zero Go.wp_at_succ
set_option linter.unusedVariables false
set_option linter.unusedSimpArgs false
set_option maxRecDepth 100000
theorem rdm_none {w w' : World} {r : Option Ml} (h : r = none) (b : Below w.heap.size w w') : RdM r w (.returned (.tuple #[.agg #[.int .i16 0, .float .f32 0, .float .f32 0], .int .i64 5])) w' := by subst h; exact ⟨rfl, b⟩
theorem rdm_some {w w' : World} {r : Option Ml} {T : Ml} (h : r = some T) (b : Below w.heap.size w w') : RdM r w (.returned (.tuple #[.agg #[.int .i16 T.b, .float .f32 T.h, .float .f32 T.r], .int .i64 0])) w' := by subst h; exact ⟨rfl, b⟩
theorem wf_48 : ∀ n : Fin 49, (Lit.int .i16 ((n.1 : Nat) : Int)).wf = true := by decide
set_option maxHeartbeats 4000000 in
theorem specReadMill_any (t : ByteArray) (hs : t.size ≤ 1048576) (w : World) : Calls Tryz.prog 4 #[.string t] w (RdM (rmS t.data.toList) w) := by
  have b0 := b_alloc (Below.refl _ w) (.cells #[.int .i16 0, .float .f32 0, .float .f32 0] 25)
  have HS := Lib.hid (l01Split_any t 58 hs (w.alloc (.cells #[.int .i16 0, .float .f32 0, .float .f32 0] 25)))
  have K0 := Lib.hid (Blk.new w #[.int .i16 0, .float .f32 0, .float .f32 0] 25)
  have B0 := Lib.hid b0
  have HW := Lib.hid (show rmW (spl 58 t.data.toList) = rmS t.data.toList from rfl)
  clear b0
  generalize rmS t.data.toList = R at *
  have hln : (spl 58 t.data.toList).length ≤ 1048577 := Nat.le_trans (spl_le 58 t.data.toList) (by rw [← Lib.size_eq]; omega)
  generalize spl 58 t.data.toList = ws at *
  go_enter Tryz.func4, Tryz.ntmps4
  go_wp2_with fail
  refine HS.out.mono ?_
  rintro e w1 ⟨v1, rfl, hst, b1⟩
  have K1 := Lib.hid (K0.out.on rfl b1)
  have B1 := Lib.hid (b_then B0.out b1)
  obtain ⟨b, o, c, rfl, hb, hlc, hcm, hcell⟩ := hst
  have K2 := K1
  have B2 := B1
  (have k0 := K2.out.cell 0; have k1 := K2.out.cell 1; have k2 := K2.out.cell 2; simp at k0 k1 k2; have f0 := K2.out.frozenT 0; have f1 := K2.out.frozenT 1; have f2 := K2.out.frozenT 2)
  clear HS B0 K0 b1
  by_cases h5 : ws.length = 3
  · have h5i : ((ws.length : Int) != 3) = false := by rw [h5]; rfl
    have h54 : 2 < ws.length := by omega
    obtain ⟨y0, y1, y2, hy⟩ := l3w h5
    subst hy
    have q0 : w1.cell? ⟨b, o, none⟩ = some (strV y0) := hcell 0 y0 rfl
    have q1 : w1.cell? ⟨b, o + 1, none⟩ = some (strV y1) := hcell 1 y1 rfl
    have q2 : w1.cell? ⟨b, o + 2, none⟩ = some (strV y2) := hcell 2 y2 rfl
    unfold strV at q0 q1 q2
    have HR0 := Lib.hid (show R = if okAll [y1, y2] then (match nmb y0 with | some n => if n ≤ 48 ∧ okM (mkM (rdV [y1, y2]) (n : Int)) = true then some (mkM (rdV [y1, y2]) (n : Int)) else none | none => none) else none by rw [← HW.out, rmW3]; rfl)
    have hok : okAll [y1, y2] = ((rdN y1).isSome && ((rdN y2).isSome && true)) := rfl
    have hmk : ∀ n : Int, mkM (rdV [y1, y2]) n = ⟨n, rnV (rdN y1), rnV (rdN y2)⟩ := fun n => rfl
    rw [hok] at HR0
    simp only [hmk] at HR0
    have NA := Lib.hid (number_any (bsOf y0) w1)
    have N1 := Lib.hid (l01Read_any (bsOf y1) w1)
    have N2 := Lib.hid (l01Read_any (bsOf y2) w1)
    rw [bsOf_data] at NA N1 N2
    clear h5 hcell hok hmk HW
    generalize nmb y0 = VA at *
    generalize rdN y1 = V1 at *
    generalize rdN y2 = V2 at *
    go_wp2_with fail
    refine NA.out.mono ?_
    rintro e w2 ⟨rfl, rfl⟩
    go_wp2_with fail
    refine N1.out.mono ?_
    rintro e w2 ⟨⟨f1', rfl, hf1⟩, rfl⟩
    go_wp2_with fail
    refine N2.out.mono ?_
    rintro e w2 ⟨⟨f2', rfl, hf2⟩, rfl⟩
    cases VA with
    | none =>
      have HR : Hid (R = none) := Lib.hid (by rw [HR0.out]; split <;> rfl)
      (go_wp2; refine bodyPost_ret (ret3m Tryz.results4 rfl (((K2.out.set 0 _).set 1 _).set 2 _)) rfl (rdm_none HR.out ?_); (refine Below.setCell (p := ⟨w.heap.size, 2, none⟩) ?_ (Nat.le_refl _) _; refine Below.setCell (p := ⟨w.heap.size, 1, none⟩) ?_ (Nat.le_refl _) _; refine Below.setCell (p := ⟨w.heap.size, 0, none⟩) ?_ (Nat.le_refl _) _); exact B2.out)
    | some n =>
      have em : nmV (some n) = n := rfl
      rw [em]
      cases V1 with
      | none =>
        have HR : Hid (R = none) := Lib.hid (by rw [HR0.out]; rfl)
        (go_wp2; refine bodyPost_ret (ret3m Tryz.results4 rfl (((K2.out.set 0 _).set 1 _).set 2 _)) rfl (rdm_none HR.out ?_); (refine Below.setCell (p := ⟨w.heap.size, 2, none⟩) ?_ (Nat.le_refl _) _; refine Below.setCell (p := ⟨w.heap.size, 1, none⟩) ?_ (Nat.le_refl _) _; refine Below.setCell (p := ⟨w.heap.size, 0, none⟩) ?_ (Nat.le_refl _) _); exact B2.out)
      | some a1 =>
        obtain rfl := hf1 a1 rfl
        cases V2 with
        | none =>
          have HR : Hid (R = none) := Lib.hid (by rw [HR0.out]; rfl)
          (go_wp2; refine bodyPost_ret (ret3m Tryz.results4 rfl (((K2.out.set 0 _).set 1 _).set 2 _)) rfl (rdm_none HR.out ?_); (refine Below.setCell (p := ⟨w.heap.size, 2, none⟩) ?_ (Nat.le_refl _) _; refine Below.setCell (p := ⟨w.heap.size, 1, none⟩) ?_ (Nat.le_refl _) _; refine Below.setCell (p := ⟨w.heap.size, 0, none⟩) ?_ (Nat.le_refl _) _); exact B2.out)
        | some a2 =>
          obtain rfl := hf2 a2 rfl
          have hR : R = if n ≤ 48 ∧ okM ⟨(n : Int), f1', f2'⟩ = true then some ⟨(n : Int), f1', f2'⟩ else none := HR0.out
          have HR1 := Lib.hid hR
          clear HR0 hR NA N1 N2 hf1 hf2 em
          by_cases h1 : n ≤ 48
          · have wn : IntKind.i16.wrap (n : Int) = n := IntWalk.i16_in _ (by omega)
            have h1i : (n : Int) ≤ 48 := by omega
            have LO := Lib.hid (fun W => l03Mill_any ⟨n, f1', f2'⟩ (wf_48 ⟨n, by omega⟩) W)
            have H1 := Lib.hid h1
            clear k0 k1 k2 f0 f1 f2
            go_wp2_with fail
            refine (LO.out _).mono ?_
            rintro e w4 ⟨rfl, b4⟩
            have b34 : Below w1.heap.size w1 w4 := b_then (b_alloc (Below.refl _ _) _) b4
            have N3 := Lib.hid (Blk.on (Blk.new w1 #[.int .i16 n, .float .f32 f1', .float .f32 f2'] 25) rfl b4)
            have K4 := Lib.hid (K2.out.on rfl b34)
            have B4 := Lib.hid (b_then B2.out b34)
            clear b4 b34 K2 B2 q0 q1 q2 K1 B1
            have K2 := K4
            have B2 := B4
            clear K4 B4
            (have k0 := K2.out.cell 0; have k1 := K2.out.cell 1; have k2 := K2.out.cell 2; simp at k0 k1 k2; have f0 := K2.out.frozenT 0; have f1 := K2.out.frozenT 1; have f2 := K2.out.frozenT 2)
            have n0 := N3.out.cell 0; have n1 := N3.out.cell 1; have n2 := N3.out.cell 2
            simp at n0 n1 n2
            have hR := HR1.out
            cases hv : okM ⟨n, f1', f2'⟩
            · have HR : Hid (R = none) := Lib.hid (by rw [hR, hv]; simp)
              clear hv hR HR1
              (go_wp2; refine bodyPost_ret (ret3m Tryz.results4 rfl (((K2.out.set 0 _).set 1 _).set 2 _)) rfl (rdm_none HR.out ?_); (refine Below.setCell (p := ⟨w.heap.size, 2, none⟩) ?_ (Nat.le_refl _) _; refine Below.setCell (p := ⟨w.heap.size, 1, none⟩) ?_ (Nat.le_refl _) _; refine Below.setCell (p := ⟨w.heap.size, 0, none⟩) ?_ (Nat.le_refl _) _); exact B2.out)
            · have HR : Hid (R = some ⟨n, f1', f2'⟩) := Lib.hid (by rw [hR, hv, if_pos ⟨H1.out, rfl⟩])
              clear hv hR HR1
              go_wp2
              refine bodyPost_ret (ret3m Tryz.results4 rfl (((K2.out.set 0 _).set 1 _).set 2 _)) rfl (rdm_some (T := ⟨n, f1', f2'⟩) HR.out ?_)
              (refine Below.setCell (p := ⟨w.heap.size, 2, none⟩) ?_ (Nat.le_refl _) _; refine Below.setCell (p := ⟨w.heap.size, 1, none⟩) ?_ (Nat.le_refl _) _; refine Below.setCell (p := ⟨w.heap.size, 0, none⟩) ?_ (Nat.le_refl _) _)
              exact B2.out
          · have HR : Hid (R = none) := Lib.hid (by rw [HR1.out, if_neg (fun h => h1 h.1)])
            have h1i : 48 < (n : Int) := by omega
            clear HR1 h1
            (go_wp2; refine bodyPost_ret (ret3m Tryz.results4 rfl (((K2.out.set 0 _).set 1 _).set 2 _)) rfl (rdm_none HR.out ?_); (refine Below.setCell (p := ⟨w.heap.size, 2, none⟩) ?_ (Nat.le_refl _) _; refine Below.setCell (p := ⟨w.heap.size, 1, none⟩) ?_ (Nat.le_refl _) _; refine Below.setCell (p := ⟨w.heap.size, 0, none⟩) ?_ (Nat.le_refl _) _); exact B2.out)
  · have h5i : ((ws.length : Int) != 3) = true := by
      have : ¬ ((ws.length : Int) = 3) := by omega
      simpa using this
    have hR : R = none := by rw [← HW.out]; unfold rmW; rw [if_neg h5]
    have HR := Lib.hid hR
    clear hR h5 K1 B1
    (go_wp2; refine bodyPost_ret (ret3m Tryz.results4 rfl (((K2.out.set 0 _).set 1 _).set 2 _)) rfl (rdm_none HR.out ?_); (refine Below.setCell (p := ⟨w.heap.size, 2, none⟩) ?_ (Nat.le_refl _) _; refine Below.setCell (p := ⟨w.heap.size, 1, none⟩) ?_ (Nat.le_refl _) _; refine Below.setCell (p := ⟨w.heap.size, 0, none⟩) ?_ (Nat.le_refl _) _); exact B2.out)
theorem conv_oneM (x : Nat) : ∃ z : World → Nat, ∃ d : Nat, (∀ w, (convert 23 43 (.float .f32 x)).run Tryz.prog w = .ok (.float .f64 (z w)) (w.drewN d)) ∧ ∀ (w W w2 : World), Calls Tryz.prog 13 #[.float .f64 (z w), .float .f64 (z w2)] W fun e w' => e = .returned (.bool true) ∧ W = w' := by
  cases h : nan32 x
  · refine ⟨fun _ => wide x, 0, fun w => ?_, fun w W w2 => sf_eq _ _ (wide_some h).2⟩
    exact run_wide (P := Tryz.prog) w 23 43 x (by rw [Tryz.underlying23]; rfl) Tryz.underlying43 h
  · refine ⟨fun w => nanTo w x, 1, fun w => ?_, fun w W w2 => sf_nan _ _ _ (nanTo_nan _ _) (nanTo_nan _ _)⟩
    exact run_nan_wide (P := Tryz.prog) w 23 43 x (by rw [Tryz.underlying23]; rfl) Tryz.underlying43 h
set_option maxHeartbeats 2000000 in
theorem eqMl_same (X : Ml) (w : World) : Calls Tryz.prog 6 #[.agg #[.int .i16 X.b, .float .f32 X.h, .float .f32 X.r], .agg #[.int .i16 X.b, .float .f32 X.h, .float .f32 X.r]] w (RV (.bool true) w) := by
  obtain ⟨za, da, ra, ha⟩ := conv_oneM X.h
  obtain ⟨zb, db, rb, hb⟩ := conv_oneM X.r
  have Ha := Lib.hid ha; have Hb := Lib.hid hb
  clear ha hb
  go_enter Tryz.func6, Tryz.ntmps6
  go_wp2_with fail
  refine (Ha.out _ _ _).mono ?_
  rintro e w1 ⟨rfl, rfl⟩
  go_wp2_with fail
  refine (Hb.out _ _ _).mono ?_
  rintro e w1 ⟨rfl, rfl⟩
  go_wp2
  all_goals
    go_ret
    refine ⟨rfl, ?_⟩
    (repeat (first | exact Below.refl _ _ | refine b_drewN ?_ _ | refine b_drew ?_ | refine b_alloc ?_ _ | refine b_then ?_ (by assumption)))
set_option maxHeartbeats 4000000 in
theorem walk_FnExactReadMill (t : ByteArray) (wt : t.size ≤ maxLen) (w : World) (Z : Sens) (hS : SenAt w Z) (hT : TbAt w) (hE : TeAt w) (hM : TmAt w) :
    Calls Tryz.prog 3 #[.string t] w fun e w' => e = .returned (.bool true) ∧ Below w.heap.size w w' := by
  have HT := Lib.hid hT; have HE := Lib.hid hE; have HM := Lib.hid hM; have HZ := Lib.hid hS
  clear hT hE hM hS
  unfold maxLen at wt
  by_cases hz : 1048576 < (t.size : Int)
  · go_enter Tryz.func3, Tryz.ntmps3
    go_wp2
    go_ret
    exact ⟨rfl, Below.refl _ _⟩
  · have hs : t.size ≤ 1048576 := by omega
    have L1 := Lib.hid (specReadMill_any t hs w)
    have L2 := Lib.hid (fun W h1 h2 h3 h4 => implReadMill_any t hs Z W h1 h2 h3 h4)
    unfold RdM at L1 L2
    generalize mlD (rmS t.data.toList) = T at *
    generalize mlK (rmS t.data.toList) = K at *
    have LQ := Lib.hid (fun W => eqMl_same T W)
    clear hs
    go_enter Tryz.func3, Tryz.ntmps3
    go_wp2_with fail
    refine L1.out.mono ?_
    rintro e w1 ⟨rfl, b1⟩
    have B1 := Lib.hid b1
    clear b1
    go_wp2_with fail
    have B2 := Lib.hid (b_alloc B1.out (.cells #[.int .i16 T.b, .float .f32 T.h, .float .f32 T.r] 25))
    have A1 := Lib.hid (Blk.new w1 #[.int .i16 T.b, .float .f32 T.h, .float .f32 T.r] 25)
    refine (L2.out _ (HT.out.below B2.out) (HE.out.below B2.out) (HM.out.below B2.out) (HZ.out.on rfl B2.out)).mono ?_
    rintro e w3 ⟨rfl, b3⟩
    have B3 := Lib.hid (b_then B2.out b3)
    have A3 := Lib.hid (A1.out.on rfl b3)
    clear b3
    have hlt := A3.out.lt
    have k0 := A3.out.cell 0; have k1 := A3.out.cell 1; have k2 := A3.out.cell 2
    simp at k0 k1 k2
    go_wp2_with fail
    clear k0 k1 k2
    refine (LQ.out _).mono ?_
    rintro e w5 ⟨rfl, b5⟩
    have B5 := Lib.hid (b_then (b_alloc B3.out _) b5)
    clear b5
    go_wp2
    go_ret
    exact ⟨rfl, B5.out⟩
end Go.Proofs.YtdbcblfinflieaaGreatDoor
