/-
  Swings, the program's SwingsOf.
-/
import Derived.Test.YtdpgfbmelnmkdabDoorSwf
import Derived.Deep.DeepCutAuto
namespace Go.Proofs.YtdpgfbmelnmkdabDoor
open Go.RowKit Go.ChangeShapes Go.WideShapes Go.Deep
attribute [local go_sem ↓] Go.wp_at_zero Go.wp_at_succ
set_option linter.unusedVariables false
set_option linter.unusedSimpArgs false
set_option maxRecDepth 100000

set_option maxHeartbeats 8000000 in
theorem implSw_any (F : Nat → Nat) (w : World) (hE : EtAt w) : Calls Tryd.prog 10 #[.agg #[.float .f32 (F 0), .float .f32 (F 1), .float .f32 (F 2), .float .f32 (F 3), .float .f32 (F 4), .float .f32 (F 5), .float .f32 (F 6), .float .f32 (F 7)]] w (RS8 F w) := by
  have k0 : Blk (((w.alloc (.cells #[.float .f32 (F 0), .float .f32 (F 1), .float .f32 (F 2), .float .f32 (F 3), .float .f32 (F 4), .float .f32 (F 5), .float .f32 (F 6), .float .f32 (F 7)] 23)).alloc (.cells #[.complex .f32 0 0, .complex .f32 0 0, .complex .f32 0 0, .complex .f32 0 0, .complex .f32 0 0, .complex .f32 0 0, .complex .f32 0 0, .complex .f32 0 0] 25)).alloc (.cells #[.complex .f32 0 0, .complex .f32 0 0, .complex .f32 0 0, .complex .f32 0 0, .complex .f32 0 0, .complex .f32 0 0, .complex .f32 0 0, .complex .f32 0 0] 25)) w.heap.size #[.float .f32 (F 0), .float .f32 (F 1), .float .f32 (F 2), .float .f32 (F 3), .float .f32 (F 4), .float .f32 (F 5), .float .f32 (F 6), .float .f32 (F 7)] 23 := (Below.heap_alloc _ _ _ (by simp; omega)).trans ((Below.heap_alloc _ _ _ (by simp)).trans (Blk.new _ _ _))
  have e1 : (w.alloc (.cells #[.float .f32 (F 0), .float .f32 (F 1), .float .f32 (F 2), .float .f32 (F 3), .float .f32 (F 4), .float .f32 (F 5), .float .f32 (F 6), .float .f32 (F 7)] 23)).heap.size = w.heap.size + 1 := by simp
  have e2 : ((w.alloc (.cells #[.float .f32 (F 0), .float .f32 (F 1), .float .f32 (F 2), .float .f32 (F 3), .float .f32 (F 4), .float .f32 (F 5), .float .f32 (F 6), .float .f32 (F 7)] 23)).alloc (.cells #[.complex .f32 0 0, .complex .f32 0 0, .complex .f32 0 0, .complex .f32 0 0, .complex .f32 0 0, .complex .f32 0 0, .complex .f32 0 0, .complex .f32 0 0] 25)).heap.size = w.heap.size + 1 + 1 := by simp
  have k1 : Blk (((w.alloc (.cells #[.float .f32 (F 0), .float .f32 (F 1), .float .f32 (F 2), .float .f32 (F 3), .float .f32 (F 4), .float .f32 (F 5), .float .f32 (F 6), .float .f32 (F 7)] 23)).alloc (.cells #[.complex .f32 0 0, .complex .f32 0 0, .complex .f32 0 0, .complex .f32 0 0, .complex .f32 0 0, .complex .f32 0 0, .complex .f32 0 0, .complex .f32 0 0] 25)).alloc (.cells #[.complex .f32 0 0, .complex .f32 0 0, .complex .f32 0 0, .complex .f32 0 0, .complex .f32 0 0, .complex .f32 0 0, .complex .f32 0 0, .complex .f32 0 0] 25)) (w.heap.size + 1) #[.complex .f32 0 0, .complex .f32 0 0, .complex .f32 0 0, .complex .f32 0 0, .complex .f32 0 0, .complex .f32 0 0, .complex .f32 0 0, .complex .f32 0 0] 25 := by rw [← e1]; exact (Below.heap_alloc _ _ _ (by simp)).trans (Blk.new _ _ _)
  have k2 : Blk (((w.alloc (.cells #[.float .f32 (F 0), .float .f32 (F 1), .float .f32 (F 2), .float .f32 (F 3), .float .f32 (F 4), .float .f32 (F 5), .float .f32 (F 6), .float .f32 (F 7)] 23)).alloc (.cells #[.complex .f32 0 0, .complex .f32 0 0, .complex .f32 0 0, .complex .f32 0 0, .complex .f32 0 0, .complex .f32 0 0, .complex .f32 0 0, .complex .f32 0 0] 25)).alloc (.cells #[.complex .f32 0 0, .complex .f32 0 0, .complex .f32 0 0, .complex .f32 0 0, .complex .f32 0 0, .complex .f32 0 0, .complex .f32 0 0, .complex .f32 0 0] 25)) (w.heap.size + 1 + 1) #[.complex .f32 0 0, .complex .f32 0 0, .complex .f32 0 0, .complex .f32 0 0, .complex .f32 0 0, .complex .f32 0 0, .complex .f32 0 0, .complex .f32 0 0] 25 := by rw [← e2]; exact Blk.new _ _ _
  have bw : Below w.heap.size w (((w.alloc (.cells #[.float .f32 (F 0), .float .f32 (F 1), .float .f32 (F 2), .float .f32 (F 3), .float .f32 (F 4), .float .f32 (F 5), .float .f32 (F 6), .float .f32 (F 7)] 23)).alloc (.cells #[.complex .f32 0 0, .complex .f32 0 0, .complex .f32 0 0, .complex .f32 0 0, .complex .f32 0 0, .complex .f32 0 0, .complex .f32 0 0, .complex .f32 0 0] 25)).alloc (.cells #[.complex .f32 0 0, .complex .f32 0 0, .complex .f32 0 0, .complex .f32 0 0, .complex .f32 0 0, .complex .f32 0 0, .complex .f32 0 0, .complex .f32 0 0] 25)) := b_alloc (b_alloc (b_alloc (Below.refl _ _) _) _) _
  have K0 := Lib.hid k0; have K1 := Lib.hid k1; have K2 := Lib.hid k2; have Bw := Lib.hid bw; have HE := Lib.hid hE
  clear k0 k1 k2 bw e1 e2 hE
  obtain ⟨ev, hev⟩ : ∃ ev : Value, (if plA8 F then .nilIface else .iface 89 (.int .i64 2)) = ev := ⟨_, rfl⟩
  have hrc : ∀ W, EtAt W → Calls Tryd.prog 32 #[ev] W (RV (.int .i64 (codeSw F)) W) := fun W h => by
    rw [← hev]
    unfold codeSw
    cases plA8 F
    · exact refusedCode_ok 2 W h
    · exact refusedCode_nil W
  obtain ⟨kc, hkc⟩ : ∃ kc, codeSw F = kc := ⟨_, rfl⟩
  rw [hkc] at hrc
  have HRC := Lib.hid hrc; have HKC := Lib.hid hkc; have HEV := Lib.hid hev
  clear hrc hkc hev
  go_enter Tryd.func10, Tryd.ntmps10
  have c0 : ((((w.alloc (.cells #[.float .f32 (F 0), .float .f32 (F 1), .float .f32 (F 2), .float .f32 (F 3), .float .f32 (F 4), .float .f32 (F 5), .float .f32 (F 6), .float .f32 (F 7)] 23)).alloc (.cells #[.complex .f32 0 0, .complex .f32 0 0, .complex .f32 0 0, .complex .f32 0 0, .complex .f32 0 0, .complex .f32 0 0, .complex .f32 0 0, .complex .f32 0 0] 25)).alloc (.cells #[.complex .f32 0 0, .complex .f32 0 0, .complex .f32 0 0, .complex .f32 0 0, .complex .f32 0 0, .complex .f32 0 0, .complex .f32 0 0, .complex .f32 0 0] 25))).cell? ⟨w.heap.size, 0, none⟩ = some (.float .f32 (F 0)) := K0.out.cell 0; have c1 : ((((w.alloc (.cells #[.float .f32 (F 0), .float .f32 (F 1), .float .f32 (F 2), .float .f32 (F 3), .float .f32 (F 4), .float .f32 (F 5), .float .f32 (F 6), .float .f32 (F 7)] 23)).alloc (.cells #[.complex .f32 0 0, .complex .f32 0 0, .complex .f32 0 0, .complex .f32 0 0, .complex .f32 0 0, .complex .f32 0 0, .complex .f32 0 0, .complex .f32 0 0] 25)).alloc (.cells #[.complex .f32 0 0, .complex .f32 0 0, .complex .f32 0 0, .complex .f32 0 0, .complex .f32 0 0, .complex .f32 0 0, .complex .f32 0 0, .complex .f32 0 0] 25))).cell? ⟨w.heap.size, 1, none⟩ = some (.float .f32 (F 1)) := K0.out.cell 1; have c2 : ((((w.alloc (.cells #[.float .f32 (F 0), .float .f32 (F 1), .float .f32 (F 2), .float .f32 (F 3), .float .f32 (F 4), .float .f32 (F 5), .float .f32 (F 6), .float .f32 (F 7)] 23)).alloc (.cells #[.complex .f32 0 0, .complex .f32 0 0, .complex .f32 0 0, .complex .f32 0 0, .complex .f32 0 0, .complex .f32 0 0, .complex .f32 0 0, .complex .f32 0 0] 25)).alloc (.cells #[.complex .f32 0 0, .complex .f32 0 0, .complex .f32 0 0, .complex .f32 0 0, .complex .f32 0 0, .complex .f32 0 0, .complex .f32 0 0, .complex .f32 0 0] 25))).cell? ⟨w.heap.size, 2, none⟩ = some (.float .f32 (F 2)) := K0.out.cell 2; have c3 : ((((w.alloc (.cells #[.float .f32 (F 0), .float .f32 (F 1), .float .f32 (F 2), .float .f32 (F 3), .float .f32 (F 4), .float .f32 (F 5), .float .f32 (F 6), .float .f32 (F 7)] 23)).alloc (.cells #[.complex .f32 0 0, .complex .f32 0 0, .complex .f32 0 0, .complex .f32 0 0, .complex .f32 0 0, .complex .f32 0 0, .complex .f32 0 0, .complex .f32 0 0] 25)).alloc (.cells #[.complex .f32 0 0, .complex .f32 0 0, .complex .f32 0 0, .complex .f32 0 0, .complex .f32 0 0, .complex .f32 0 0, .complex .f32 0 0, .complex .f32 0 0] 25))).cell? ⟨w.heap.size, 3, none⟩ = some (.float .f32 (F 3)) := K0.out.cell 3; have c4 : ((((w.alloc (.cells #[.float .f32 (F 0), .float .f32 (F 1), .float .f32 (F 2), .float .f32 (F 3), .float .f32 (F 4), .float .f32 (F 5), .float .f32 (F 6), .float .f32 (F 7)] 23)).alloc (.cells #[.complex .f32 0 0, .complex .f32 0 0, .complex .f32 0 0, .complex .f32 0 0, .complex .f32 0 0, .complex .f32 0 0, .complex .f32 0 0, .complex .f32 0 0] 25)).alloc (.cells #[.complex .f32 0 0, .complex .f32 0 0, .complex .f32 0 0, .complex .f32 0 0, .complex .f32 0 0, .complex .f32 0 0, .complex .f32 0 0, .complex .f32 0 0] 25))).cell? ⟨w.heap.size, 4, none⟩ = some (.float .f32 (F 4)) := K0.out.cell 4; have c5 : ((((w.alloc (.cells #[.float .f32 (F 0), .float .f32 (F 1), .float .f32 (F 2), .float .f32 (F 3), .float .f32 (F 4), .float .f32 (F 5), .float .f32 (F 6), .float .f32 (F 7)] 23)).alloc (.cells #[.complex .f32 0 0, .complex .f32 0 0, .complex .f32 0 0, .complex .f32 0 0, .complex .f32 0 0, .complex .f32 0 0, .complex .f32 0 0, .complex .f32 0 0] 25)).alloc (.cells #[.complex .f32 0 0, .complex .f32 0 0, .complex .f32 0 0, .complex .f32 0 0, .complex .f32 0 0, .complex .f32 0 0, .complex .f32 0 0, .complex .f32 0 0] 25))).cell? ⟨w.heap.size, 5, none⟩ = some (.float .f32 (F 5)) := K0.out.cell 5; have c6 : ((((w.alloc (.cells #[.float .f32 (F 0), .float .f32 (F 1), .float .f32 (F 2), .float .f32 (F 3), .float .f32 (F 4), .float .f32 (F 5), .float .f32 (F 6), .float .f32 (F 7)] 23)).alloc (.cells #[.complex .f32 0 0, .complex .f32 0 0, .complex .f32 0 0, .complex .f32 0 0, .complex .f32 0 0, .complex .f32 0 0, .complex .f32 0 0, .complex .f32 0 0] 25)).alloc (.cells #[.complex .f32 0 0, .complex .f32 0 0, .complex .f32 0 0, .complex .f32 0 0, .complex .f32 0 0, .complex .f32 0 0, .complex .f32 0 0, .complex .f32 0 0] 25))).cell? ⟨w.heap.size, 6, none⟩ = some (.float .f32 (F 6)) := K0.out.cell 6; have c7 : ((((w.alloc (.cells #[.float .f32 (F 0), .float .f32 (F 1), .float .f32 (F 2), .float .f32 (F 3), .float .f32 (F 4), .float .f32 (F 5), .float .f32 (F 6), .float .f32 (F 7)] 23)).alloc (.cells #[.complex .f32 0 0, .complex .f32 0 0, .complex .f32 0 0, .complex .f32 0 0, .complex .f32 0 0, .complex .f32 0 0, .complex .f32 0 0, .complex .f32 0 0] 25)).alloc (.cells #[.complex .f32 0 0, .complex .f32 0 0, .complex .f32 0 0, .complex .f32 0 0, .complex .f32 0 0, .complex .f32 0 0, .complex .f32 0 0, .complex .f32 0 0] 25))).cell? ⟨w.heap.size, 7, none⟩ = some (.float .f32 (F 7)) := K0.out.cell 7
  go_wp2_with fail
  clear c0 c1 c2 c3 c4 c5 c6 c7
  generalize (((w.alloc (.cells #[.float .f32 (F 0), .float .f32 (F 1), .float .f32 (F 2), .float .f32 (F 3), .float .f32 (F 4), .float .f32 (F 5), .float .f32 (F 6), .float .f32 (F 7)] 23)).alloc (.cells #[.complex .f32 0 0, .complex .f32 0 0, .complex .f32 0 0, .complex .f32 0 0, .complex .f32 0 0, .complex .f32 0 0, .complex .f32 0 0, .complex .f32 0 0] 25)).alloc (.cells #[.complex .f32 0 0, .complex .f32 0 0, .complex .f32 0 0, .complex .f32 0 0, .complex .f32 0 0, .complex .f32 0 0, .complex .f32 0 0, .complex .f32 0 0] 25)) = W at *
  have n0 : w.heap.size ≠ w.heap.size + 1 + 1 := by omega
  have n1 : w.heap.size + 1 ≠ w.heap.size + 1 + 1 := by omega
  have q1 : w.heap.size ≤ w.heap.size + 1 := by omega
  have q2 : w.heap.size ≤ w.heap.size + 1 + 1 := by omega
  have hall : Calls Tryd.prog 30 #[.agg #[.float .f32 (F 0), .float .f32 (F 1), .float .f32 (F 2), .float .f32 (F 3), .float .f32 (F 4), .float .f32 (F 5), .float .f32 (F 6), .float .f32 (F 7)]] W (RSP F W) := by
    cases hp : plA8 F
    · exact allSw_no F hp W
    · exact allSw_ok F hp W
  refine hall.mono ?_
  rintro e w1 ⟨X0, Y0, rfl, hXY, b1⟩
  rw [HEV.out]
  have M1 := Lib.hid (Blk.on K1.out (by rfl) b1)
  have M2 := Lib.hid (Blk.on K2.out (by rfl) b1)
  have B1 : Hid (Below w.heap.size w w1) := b_then Bw.out b1
  have HXY := Lib.hid hXY
  clear K0 K1 K2 Bw b1 hXY hall
  have hlt1 := M1.out.lt; have hlt2 := M2.out.lt
  have P1 : Hid (Blk (w1.alloc (.cells #[.float .f32 (X0 0), .float .f32 (Y0 0), .float .f32 (X0 1), .float .f32 (Y0 1), .float .f32 (X0 2), .float .f32 (Y0 2), .float .f32 (X0 3), .float .f32 (Y0 3), .float .f32 (X0 4), .float .f32 (Y0 4), .float .f32 (X0 5), .float .f32 (Y0 5), .float .f32 (X0 6), .float .f32 (Y0 6), .float .f32 (X0 7), .float .f32 (Y0 7)] 57)) (w.heap.size + 1) #[.complex .f32 0 0, .complex .f32 0 0, .complex .f32 0 0, .complex .f32 0 0, .complex .f32 0 0, .complex .f32 0 0, .complex .f32 0 0, .complex .f32 0 0] 25) := (Below.heap_alloc w1 _ (w.heap.size + 1) hlt1).trans M1.out
  have P2 : Hid (Blk (w1.alloc (.cells #[.float .f32 (X0 0), .float .f32 (Y0 0), .float .f32 (X0 1), .float .f32 (Y0 1), .float .f32 (X0 2), .float .f32 (Y0 2), .float .f32 (X0 3), .float .f32 (Y0 3), .float .f32 (X0 4), .float .f32 (Y0 4), .float .f32 (X0 5), .float .f32 (Y0 5), .float .f32 (X0 6), .float .f32 (Y0 6), .float .f32 (X0 7), .float .f32 (Y0 7)] 57)) (w.heap.size + 1 + 1) #[.complex .f32 0 0, .complex .f32 0 0, .complex .f32 0 0, .complex .f32 0 0, .complex .f32 0 0, .complex .f32 0 0, .complex .f32 0 0, .complex .f32 0 0] 25) := (Below.heap_alloc w1 _ (w.heap.size + 1 + 1) hlt2).trans M2.out
  have PB : Hid (Below w.heap.size w (w1.alloc (.cells #[.float .f32 (X0 0), .float .f32 (Y0 0), .float .f32 (X0 1), .float .f32 (Y0 1), .float .f32 (X0 2), .float .f32 (Y0 2), .float .f32 (X0 3), .float .f32 (Y0 3), .float .f32 (X0 4), .float .f32 (Y0 4), .float .f32 (X0 5), .float .f32 (Y0 5), .float .f32 (X0 6), .float .f32 (Y0 6), .float .f32 (X0 7), .float .f32 (Y0 7)] 57))) := b_alloc B1.out _
  clear M1 M2 B1 hlt1 hlt2
  go_wp2_with fail
  generalize (w1.alloc (.cells #[.float .f32 (X0 0), .float .f32 (Y0 0), .float .f32 (X0 1), .float .f32 (Y0 1), .float .f32 (X0 2), .float .f32 (Y0 2), .float .f32 (X0 3), .float .f32 (Y0 3), .float .f32 (X0 4), .float .f32 (Y0 4), .float .f32 (X0 5), .float .f32 (Y0 5), .float .f32 (X0 6), .float .f32 (Y0 6), .float .f32 (X0 7), .float .f32 (Y0 7)] 57)) = W4 at *
  go_loopw [7, 8, 15] (fun _ _ i wr => ∃ (k : Nat) (X Y : Nat → Nat), k ≤ 8 ∧ i = .int .i64 k ∧ Hid (Blk wr (w.heap.size + 1) #[.complex .f32 0 0, .complex .f32 0 0, .complex .f32 0 0, .complex .f32 0 0, .complex .f32 0 0, .complex .f32 0 0, .complex .f32 0 0, .complex .f32 0 0] 25) ∧ Hid (Blk wr (w.heap.size + 1 + 1) #[.complex .f32 (X 0) (Y 0), .complex .f32 (X 1) (Y 1), .complex .f32 (X 2) (Y 2), .complex .f32 (X 3) (Y 3), .complex .f32 (X 4) (Y 4), .complex .f32 (X 5) (Y 5), .complex .f32 (X 6) (Y 6), .complex .f32 (X 7) (Y 7)] 25) ∧ Hid (∀ i, i < k → X i = X0 i ∧ Y i = Y0 i) ∧ Hid (Below w.heap.size w wr)) (fun _ _ i _ => 8 - (intOf i).toNat)
  case atStart => exact ⟨0, fun _ => 0, fun _ => 0, by omega, rfl, P1, P2, fun i hi => absurd hi (by omega), PB⟩
  case round =>
    obtain ⟨k, X, Y, hk, rfl, h1, h2, hxy, hb⟩ := hrel
    by_cases hlt : k < 8
    · have ix := index_p8 X0 Y0 k hlt
      go_wp2_with fail
      refine (number_any _ _ _).mono ?_
      rintro e w2 ⟨rfl, b2⟩
      have B2 : Hid (Below w.heap.size w w2) := b_then (b_alloc hb.out _) b2
      have g1 := Lib.hid (Blk.on ((Below.heap_alloc wr _ _ h1.out.lt).trans h1.out) (by rfl) b2)
      have g2 := Lib.hid (Blk.on ((Below.heap_alloc wr _ _ h2.out.lt).trans h2.out) (by rfl) b2)
      have d0 := bC_get g2.out k hlt
      have f0 := g2.out.frozen k
      clear b2 h1 h2 hb ix
      go_wp2
      go_roundw
      case rel =>
        refine ⟨k + 1, upd X k (X0 k), upd Y k (Y0 k), by omega, by go_num, g1.out.setO n1 _ _, bC_set k hlt _ _ g2.out, ?_, Below.setCell (p := ⟨w.heap.size + 1 + 1, k, none⟩) B2.out q2 _⟩
        intro i hi
        by_cases hik : i = k
        · subst hik
          rw [upd_same, upd_same]
          exact ⟨rfl, rfl⟩
        · rw [upd_other _ _ _ _ hik, upd_other _ _ _ _ hik]
          exact hxy.out i (by omega)
      case measure => simp [intOf]; omega
    · obtain rfl : k = 8 := by omega
      have hbo := hb.out
      have h_ := h1.out; have x0 := h_.cell 0; have y0 := h_.frozen 0; have x1 := h_.cell 1; have y1 := h_.frozen 1; have x2 := h_.cell 2; have y2 := h_.frozen 2; have x3 := h_.cell 3; have y3 := h_.frozen 3; have x4 := h_.cell 4; have y4 := h_.frozen 4; have x5 := h_.cell 5; have y5 := h_.frozen 5; have x6 := h_.cell 6; have y6 := h_.frozen 6; have x7 := h_.cell 7; have y7 := h_.frozen 7; simp at x0 x1 x2 x3 x4 x5 x6 x7; clear h_
      have h_ := h2.out; have c0 := h_.cell 0; have f0 := h_.frozen 0; have c1 := h_.cell 1; have f1 := h_.frozen 1; have c2 := h_.cell 2; have f2 := h_.frozen 2; have c3 := h_.cell 3; have f3 := h_.frozen 3; have c4 := h_.cell 4; have f4 := h_.frozen 4; have c5 := h_.cell 5; have f5 := h_.frozen 5; have c6 := h_.cell 6; have f6 := h_.frozen 6; have c7 := h_.cell 7; have f7 := h_.frozen 7; simp at c0 c1 c2 c3 c4 c5 c6 c7; clear h_
      go_upto_region 8 with fail
      go_region_law (go_simp; go_at_call 32; refine (HRC.out _ (HE.out.on (W := w) rfl (by (repeat (first | assumption | refine b_drewN ?_ _ | refine b_drew ?_ | refine Below.setCell (p := ⟨_, _, none⟩) ?_ (by dsimp only; omega) _))))).mono ?_; rintro e w3 ⟨rfl, b3⟩; have B3 : Hid (Below w.heap.size w w3) := b_then (by (repeat (first | assumption | refine b_drewN ?_ _ | refine b_drew ?_ | refine Below.setCell (p := ⟨_, _, none⟩) ?_ (by dsimp only; omega) _))) b3; (first | (have ZA := Lib.hid (Blk.on h1.out (by rfl) b3); have ZC := Lib.hid (Blk.on h2.out (by rfl) b3); have h_ := ZA.out; have xa0 := h_.cell 0; have ya0 := h_.frozen 0; have xa1 := h_.cell 1; have ya1 := h_.frozen 1; have xa2 := h_.cell 2; have ya2 := h_.frozen 2; have xa3 := h_.cell 3; have ya3 := h_.frozen 3; have xa4 := h_.cell 4; have ya4 := h_.frozen 4; have xa5 := h_.cell 5; have ya5 := h_.frozen 5; have xa6 := h_.cell 6; have ya6 := h_.frozen 6; have xa7 := h_.cell 7; have ya7 := h_.frozen 7; simp at xa0 xa1 xa2 xa3 xa4 xa5 xa6 xa7; clear h_; have h_ := ZC.out; have ca0 := h_.cell 0; have fa0 := h_.frozen 0; have ca1 := h_.cell 1; have fa1 := h_.frozen 1; have ca2 := h_.cell 2; have fa2 := h_.frozen 2; have ca3 := h_.cell 3; have fa3 := h_.frozen 3; have ca4 := h_.cell 4; have fa4 := h_.frozen 4; have ca5 := h_.cell 5; have fa5 := h_.frozen 5; have ca6 := h_.cell 6; have fa6 := h_.frozen 6; have ca7 := h_.cell 7; have fa7 := h_.frozen 7; simp at ca0 ca1 ca2 ca3 ca4 ca5 ca6 ca7; clear h_) | (have ZB := Lib.hid (Blk.on (bC_whole (X0 := fun _ => 0) (Y0 := fun _ => 0) X Y h1.out) (by rfl) b3); skip)); clear b3; dsimp only)
      all_goals
        go_wp2_with fail
        first
        | (have hz : Blk ((((((((w3.setCell ⟨w.heap.size + 1, 0, none⟩ (.complex .f32 (X 0) (Y 0))).setCell ⟨w.heap.size + 1, 1, none⟩ (.complex .f32 (X 1) (Y 1))).setCell ⟨w.heap.size + 1, 2, none⟩ (.complex .f32 (X 2) (Y 2))).setCell ⟨w.heap.size + 1, 3, none⟩ (.complex .f32 (X 3) (Y 3))).setCell ⟨w.heap.size + 1, 4, none⟩ (.complex .f32 (X 4) (Y 4))).setCell ⟨w.heap.size + 1, 5, none⟩ (.complex .f32 (X 5) (Y 5))).setCell ⟨w.heap.size + 1, 6, none⟩ (.complex .f32 (X 6) (Y 6))).setCell ⟨w.heap.size + 1, 7, none⟩ (.complex .f32 (X 7) (Y 7))) (w.heap.size + 1) #[.complex .f32 (X 0) (Y 0), .complex .f32 (X 1) (Y 1), .complex .f32 (X 2) (Y 2), .complex .f32 (X 3) (Y 3), .complex .f32 (X 4) (Y 4), .complex .f32 (X 5) (Y 5), .complex .f32 (X 6) (Y 6), .complex .f32 (X 7) (Y 7)] 25 := bC_whole (X0 := fun _ => 0) (Y0 := fun _ => 0) X Y ZA.out
           have hbz : Below w.heap.size w ((((((((w3.setCell ⟨w.heap.size + 1, 0, none⟩ (.complex .f32 (X 0) (Y 0))).setCell ⟨w.heap.size + 1, 1, none⟩ (.complex .f32 (X 1) (Y 1))).setCell ⟨w.heap.size + 1, 2, none⟩ (.complex .f32 (X 2) (Y 2))).setCell ⟨w.heap.size + 1, 3, none⟩ (.complex .f32 (X 3) (Y 3))).setCell ⟨w.heap.size + 1, 4, none⟩ (.complex .f32 (X 4) (Y 4))).setCell ⟨w.heap.size + 1, 5, none⟩ (.complex .f32 (X 5) (Y 5))).setCell ⟨w.heap.size + 1, 6, none⟩ (.complex .f32 (X 6) (Y 6))).setCell ⟨w.heap.size + 1, 7, none⟩ (.complex .f32 (X 7) (Y 7))) := bC_below X Y B3.out q1
           generalize ((((((((w3.setCell ⟨w.heap.size + 1, 0, none⟩ (.complex .f32 (X 0) (Y 0))).setCell ⟨w.heap.size + 1, 1, none⟩ (.complex .f32 (X 1) (Y 1))).setCell ⟨w.heap.size + 1, 2, none⟩ (.complex .f32 (X 2) (Y 2))).setCell ⟨w.heap.size + 1, 3, none⟩ (.complex .f32 (X 3) (Y 3))).setCell ⟨w.heap.size + 1, 4, none⟩ (.complex .f32 (X 4) (Y 4))).setCell ⟨w.heap.size + 1, 5, none⟩ (.complex .f32 (X 5) (Y 5))).setCell ⟨w.heap.size + 1, 6, none⟩ (.complex .f32 (X 6) (Y 6))).setCell ⟨w.heap.size + 1, 7, none⟩ (.complex .f32 (X 7) (Y 7))) = W5 at *
           refine bodyPost_ret (v := .tuple #[.agg #[.complex .f32 (X 0) (Y 0), .complex .f32 (X 1) (Y 1), .complex .f32 (X 2) (Y 2), .complex .f32 (X 3) (Y 3), .complex .f32 (X 4) (Y 4), .complex .f32 (X 5) (Y 5), .complex .f32 (X 6) (Y 6), .complex .f32 (X 7) (Y 7)], .int .i64 kc]) (ret_c8 X Y Tryd.results10 rfl rfl hz) rfl ⟨X, Y, ?_, ?_, hbz⟩)
        | refine bodyPost_ret (v := .tuple #[.agg #[.complex .f32 (X 0) (Y 0), .complex .f32 (X 1) (Y 1), .complex .f32 (X 2) (Y 2), .complex .f32 (X 3) (Y 3), .complex .f32 (X 4) (Y 4), .complex .f32 (X 5) (Y 5), .complex .f32 (X 6) (Y 6), .complex .f32 (X 7) (Y 7)], .int .i64 kc]) (ret_c8 X Y Tryd.results10 rfl rfl ZB.out) rfl ⟨X, Y, ?_, ?_, B3.out⟩
        · rw [HKC.out]
        · intro i hi
          rw [(hxy.out i hi).1, (hxy.out i hi).2]
          exact HXY.out i hi
end Go.Proofs.YtdpgfbmelnmkdabDoor
