/-
  The card of 'FnExactBestGate': for every argument of its parameters' types the call returns true, and each argument reads afterwards as it read before; the program's five errors hold what the program's own text lays. No other condition.
-/
import Derived.Test.YtjkgiknklkfipaaDoorRows
import Derived.Test.YtjkgiknklkfipaaDoorCards
import Derived.Test.YtjkgiknklkfipaaDoorTie
import Derived.Test.YtjkgiknklkfipaaDoorGw
import Derived.ProofKit
import Derived.OpenShut
import Derived.ShutString
import Derived.ChangeOld
import Derived.Below
import Derived.Laws.Cover2
import Derived.LaidMore
import Derived.OpenVars
import Derived.LaidHandle
import Derived.Stop.Joined
import Derived.SevenTiedAt
namespace Go.Proofs.YtjkgiknklkfipaaDoor.fnExactBestGate
open Go.ChangeShapes Go.WideShapes Go.ChangeAt Go.RowKit
open Go.ChangeMaps (open_string shut_string)
set_option linter.unusedVariables false
set_option maxRecDepth 100000
theorem own : ownKnob Tryd.prog.godebug = none := by kernel_rfl
theorem laidOut : laidOutB Tryd.prog = true := by kernel_rfl
theorem door_met (os : Os) (args : Array Value) : laidMetH Tryd.prog Rows.fnExactBestGateRow.laid ((World.doorLaid Tryd.prog 109 os).forCall (fun _ _ => 0) ⟨#[], args, []⟩).memory :=
  laidMetH_of_parts3 (fuel := 8) (laidMet_of_run' 8 (by kernel_rfl) (by kernel_rfl)) (by kernel_rfl) (by kernel_rfl)
theorem gn0 : Tryd.prog.globalNamed "loop.example/g01344/impl.errInvalid" = some 2 := by kernel_rfl
theorem gt0 : (Tryd.prog.globals[2]?).map (·.type) = some 91 := by kernel_rfl
theorem gn1 : Tryd.prog.globalNamed "loop.example/g01344/impl.errRange" = some 3 := by kernel_rfl
theorem gt1 : (Tryd.prog.globals[3]?).map (·.type) = some 91 := by kernel_rfl
theorem gn2 : Tryd.prog.globalNamed "loop.example/g01344/impl.errLimit" = some 4 := by kernel_rfl
theorem gt2 : (Tryd.prog.globals[4]?).map (·.type) = some 91 := by kernel_rfl
theorem gn3 : Tryd.prog.globalNamed "loop.example/g01344/impl.errSyntax" = some 5 := by kernel_rfl
theorem gt3 : (Tryd.prog.globals[5]?).map (·.type) = some 91 := by kernel_rfl
theorem gn4 : Tryd.prog.globalNamed "loop.example/g01344/impl.errNotFound" = some 0 := by kernel_rfl
theorem gt4 : (Tryd.prog.globals[0]?).map (·.type) = some 91 := by kernel_rfl
theorem sens {W : World} (h : laidMetH Tryd.prog Rows.fnExactBestGateRow.laid W) : ∃ Z : Sens, SenAt W Z := by
  have e : (Rows.fnExactBestGateRow.laid.filter fun x => x.2.handleName?.isSome) = [] := by kernel_rfl
  unfold laidMetH at h
  rw [e] at h
  have hL : laidMet Tryd.prog [("loop.example/g01344/impl.errInvalid", Rows.laid_loop_example_g01344_impl_errInvalid), ("loop.example/g01344/impl.errRange", Rows.laid_loop_example_g01344_impl_errRange), ("loop.example/g01344/impl.errLimit", Rows.laid_loop_example_g01344_impl_errLimit), ("loop.example/g01344/impl.errSyntax", Rows.laid_loop_example_g01344_impl_errSyntax), ("loop.example/g01344/impl.errNotFound", Rows.laid_loop_example_g01344_impl_errNotFound)] W := h
  obtain ⟨a0, a1, a2, a3, a4, v0, v1, v2, v3, v4, n0_1, n0_2, n0_3, n0_4, n1_2, n1_3, n1_4, n2_3, n2_4, n3_4, b0, b1, b2, b3, b4⟩ := laid_five hL gn0 gt0 gn1 gt1 gn2 gt2 gn3 gt3 gn4 gt4 Tryd.underlying91 errRow Tryd.underlying174 Tryd.underlying200 rfl rfl Tryd.underlying9 (by kernel_rfl) (by kernel_rfl)
  exact ⟨⟨a0, a1, a2, a3, a4⟩, ⟨sen_of gn0 v0 b0, sen_of gn1 v1 b1, sen_of gn2 v2 b2, sen_of gn3 v3 b3, sen_of gn4 v4 b4⟩, n0_1, n0_2, n0_3, n0_4, n1_2, n1_3, n1_4, n2_3, n2_4, n3_4⟩
theorem lifted (os : Os) (started : os.Started) (H : Type) (enc : TypeId × Value → H) :
    ReturnsInHanded {} Tryd.checked os 6 .any (fun w args => (Rows.fnExactBestGateSpec.pre enc Tryd.prog Tryd.f6 [] false w args ∧ laidMetH Tryd.prog Rows.fnExactBestGateRow.laid w) ∧ sizedMet enc Tryd.prog Tryd.f6 (OpenSpec.ofChange Rows.fnExactBestGateSpec) false w args) (Rows.fnExactBestGateSpec.post enc Tryd.prog Tryd.f6 false true false false) := by
  refine returnsInHanded_of_change_and (C := Tryd.checked) (X := fun w _ => laidMetH Tryd.prog Rows.fnExactBestGateRow.laid w) (fun _ _ _ hh h => h.of_heap hh) own started (by kernel_rfl) Tryd.func6
    (ChangeSpec.witness_shaped (enc := enc) (C := Tryd.checked) (os := os) (X := fun w _ => laidMetH Tryd.prog Rows.fnExactBestGateRow.laid w) false (World.doorLaid Tryd.prog 109 os) #[.agg #[.int .i16 0, .float .f32 0, .float .f32 0, .float .f32 0, .float .f32 0, .float .f32 0, .float .f32 0, .float .f32 0], .float .f32 0, .float .f32 0] 8 rfl (World.shaped_of_RefB (by kernel_rfl) (by kernel_rfl)) (by kernel_rfl) (by kernel_rfl) (by kernel_rfl) (door_met os _)) ?_
  intro W base args ds gs before hval0 hW _ _ hL _
  have hval : ∀ (j : Nat) t v, Tryd.f6.params[j]? = some t → args[j]? = some v → Value.okWide Tryd.prog W .any base t v := hval0
  have hW' := hW
  obtain ⟨p, q, hA0, hV, rfl, hfz, hnd⟩ := hW
  have hA : DataW.TrodAll enc Tryd.prog W 0 (fun _ => true) true Tryd.f6.params.toList args.toList ds p := hA0
  rw [Tryd.params6] at hA hval
  obtain ⟨v0, vs0, d0, ds0, p0, q0, hargs, rfl, rfl, h0, r0⟩ := trodAll_cons hA
  obtain ⟨v1, vs1, d1, ds1, p1, q1, rfl, rfl, rfl, h1, r1⟩ := trodAll_cons r0
  obtain ⟨v2, vs2, d2, ds2, p2, q2, rfl, rfl, rfl, h2, r2⟩ := trodAll_cons r1
  obtain ⟨rfl, rfl, rfl⟩ := trodAll_nil r2
  obtain rfl : args = #[v0, v1, v2] := by cases args; simp_all
  obtain ⟨g0, g1, g2, g3, g4, rfl⟩ := l5_of (show gs.length = 5 from trodVars_len hV)
  obtain ⟨a0, rfl, w0⟩ := gov_in (hval 0 54 v0 rfl rfl) h0
  have k0 := h0
  have lt0 : ∀ x ∈ p0, x.block < W.heap.size := by obtain ⟨m, hm⟩ := k0; exact DataW.trod_lt m _ _ _ hm
  obtain ⟨a1, rfl, rfl, rfl, w1⟩ := open_float Tryd.underlying24 (hval 1 24 v1 rfl rfl) h1
  obtain ⟨a2, rfl, rfl, rfl, w2⟩ := open_float Tryd.underlying24 (hval 2 24 v2 rfl rfl) h2
  obtain ⟨Z, hZ⟩ := sens hL
  clear hA0 hval0
  refine (walk_FnExactBestGate a0 w0 a1 w1 a2 w2 W Z hZ).mono fun e W' ⟨he, bel⟩ => ?_
  subst he
  exact ⟨_, rfl, _, _, _, [], _, _, hW', trodAll_mk1 (shut_bool Tryd.underlying4 _), (trodAll_cons_mk (Below.trod laidOut (by kernel_rfl) (of_decide_eq_true (by kernel_rfl)) k0 bel lt0) (trodAll_cons_mk (shut_float Tryd.underlying24 w1) (trodAll_cons_mk (shut_float Tryd.underlying24 w2) trodAll_mk0))), Below.trodVars laidOut bel (by kernel_rfl) hV, bel.frame _, fun h => by cases h⟩
theorem over : Rows.FnExactBestGateSaid :=
  OpenClaim.holds_of_wide 6 Tryd.f6 rfl rfl rfl rfl rfl rfl rfl ⟨rfl, rfl, rfl, rfl, rfl⟩ rfl rfl rfl rfl rfl (by kernel_rfl) Tryd.func6 (by kernel_rfl)
    (of_decide_eq_true (by kernel_rfl)) (by unfold Func.isWrapper; first | (rw [if_pos (by decide +kernel)]; kernel_rfl) | (rw [if_neg (by decide +kernel)]; exact ⟨rfl, rfl⟩))
    (fun os started H enc _ => lifted os started H enc)
theorem proved : Rows.FnExactBestGateCardSaid :=
  Claim7.holds_tied_plain_at .later [] [.sentinel, .sentinel, .sentinel, .sentinel, .sentinel] true (true, "1b6487e443befdccb680218ee72d03e5c5c9e5f6b01ea3bde247873e6957911c") true
    over (fun _ h => by cases h) (by kernel_rfl) (fun _ h => by cases h) fnExactBestGate_row_tie rfl ⟨rfl, rfl⟩ (by kernel_rfl) rfl
    (fun f fn hf hfn => by
      obtain rfl : f = 6 := Option.some.inj ((show Tryd.prog.funcNamed "loop.example/g01344/laws.FnExactBestGate" = some 6 by kernel_rfl).symm.trans hf) |>.symm
      obtain rfl : fn = Tryd.f6 := (Option.some.inj (Tryd.func6.symm.trans hfn)).symm
      exact ⟨by kernel_rfl, fun j t ht => by
        rw [Tryd.params6] at ht
        have hm : t ∈ [54, 24, 24] := by simpa using Array.mem_of_getElem? ht
        have hall : ([54, 24, 24].all fun u => !Tryd.prog.wantsStandIn u) = true := by kernel_rfl
        exact (show Tryd.prog.wantsStandIn t = false by simpa using List.all_eq_true.1 hall t hm)⟩)
    (by kernel_rfl)
end Go.Proofs.YtjkgiknklkfipaaDoor.fnExactBestGate
