/-
  The card of 'FnExactReadMill': for every argument of its parameters' types the call returns true, and each argument reads afterwards as it read before; the library's tables and errors hold what their own texts lay. No other condition.
-/
import Derived.Test.YtdbcblfinflieaaGreatDoorRows
import Derived.Test.YtdbcblfinflieaaGreatDoorCards
import Derived.Test.YtdbcblfinflieaaGreatDoorTie
import Derived.Test.YtdbcblfinflieaaGreatDoorRmc
import Derived.Test.YtdbcblfinflieaaGreatDoorTxn
import Derived.Lay
import Derived.LaidOnce
import Derived.LaidSub
import Derived.ProofKit
import Derived.OpenShut
import Derived.ShutString
import Derived.ChangeOld
import Derived.Below
import Derived.Laws.Cover2
import Derived.LaidMore
import Derived.OpenVars
import Derived.LaidHandle
import Derived.Stop.Joined
import Derived.SevenTiedAt
namespace Go.Proofs.YtdbcblfinflieaaGreatDoor.fnExactReadMill
open Go.ChangeShapes Go.WideShapes Go.ChangeAt Go.RowKit
open Go.ChangeMaps (open_string shut_string)
set_option linter.unusedVariables false
set_option maxRecDepth 100000
theorem own : ownKnob Tryz.prog.godebug = none := by kernel_rfl
theorem laidOut : laidOutB Tryz.prog = true := by kernel_rfl
theorem five_of {α : Type} {l : List α} (h : l.length = 5) : ∃ a b c d e, l = [a, b, c, d, e] := by
  match l, h with
  | [a, b, c, d, e], _ => exact ⟨a, b, c, d, e, rfl⟩
theorem gn0 : Tryz.prog.globalNamed "loop.example/g01344/impl.errInvalid" = some 1 := by kernel_rfl
theorem gt0 : (Tryz.prog.globals[1]?).map (·.type) = some 38 := by kernel_rfl
theorem gn1 : Tryz.prog.globalNamed "loop.example/g01344/impl.errRange" = some 2 := by kernel_rfl
theorem gt1 : (Tryz.prog.globals[2]?).map (·.type) = some 38 := by kernel_rfl
theorem gn2 : Tryz.prog.globalNamed "loop.example/g01344/impl.errLimit" = some 3 := by kernel_rfl
theorem gt2 : (Tryz.prog.globals[3]?).map (·.type) = some 38 := by kernel_rfl
theorem gn3 : Tryz.prog.globalNamed "loop.example/g01344/impl.errSyntax" = some 0 := by kernel_rfl
theorem gt3 : (Tryz.prog.globals[0]?).map (·.type) = some 38 := by kernel_rfl
theorem gn4 : Tryz.prog.globalNamed "loop.example/g01344/impl.errNotFound" = some 4 := by kernel_rfl
theorem gt4 : (Tryz.prog.globals[4]?).map (·.type) = some 38 := by kernel_rfl
theorem facts {W : World} (h : laidMetH Tryz.prog Rows.fnExactReadMillRow.laid W) : TbAt W ∧ TeAt W ∧ ∃ Z : Sens, SenAt W Z := by
  have e : (Rows.fnExactReadMillRow.laid.filter fun x => x.2.handleName?.isSome) = [] := by kernel_rfl
  unfold laidMetH at h
  rw [e] at h
  have hL : laidMet Tryz.prog [("math/bits.deBruijn32tab", Rows.laid_math_bits_deBruijn32tab), ("math/bits.deBruijn64tab", Rows.laid_math_bits_deBruijn64tab), ("internal/strconv.uint64pow10", Rows.laid_internal_strconv_uint64pow10), ("unicode/utf8.acceptRanges", Rows.laid_unicode_utf8_acceptRanges), ("strconv.ErrRange", Rows.laid_strconv_ErrRange), ("strconv.ErrSyntax", Rows.laid_strconv_ErrSyntax), ("loop.example/g01344/impl.errInvalid", Rows.laid_loop_example_g01344_impl_errInvalid), ("loop.example/g01344/impl.errRange", Rows.laid_loop_example_g01344_impl_errRange), ("loop.example/g01344/impl.errLimit", Rows.laid_loop_example_g01344_impl_errLimit), ("loop.example/g01344/impl.errSyntax", Rows.laid_loop_example_g01344_impl_errSyntax), ("loop.example/g01344/impl.errNotFound", Rows.laid_loop_example_g01344_impl_errNotFound), ("unicode/utf8.first", Rows.laid_unicode_utf8_first)] W := h
  obtain ⟨h1, h2⟩ := tb_of hL
  have h5 := h2.tail.tail.tail
  have h6 := h5.filter (fun x => x.1 != "unicode/utf8.first")
  have e6 : ([("loop.example/g01344/impl.errInvalid", Rows.laid_loop_example_g01344_impl_errInvalid), ("loop.example/g01344/impl.errRange", Rows.laid_loop_example_g01344_impl_errRange), ("loop.example/g01344/impl.errLimit", Rows.laid_loop_example_g01344_impl_errLimit), ("loop.example/g01344/impl.errSyntax", Rows.laid_loop_example_g01344_impl_errSyntax), ("loop.example/g01344/impl.errNotFound", Rows.laid_loop_example_g01344_impl_errNotFound), ("unicode/utf8.first", Rows.laid_unicode_utf8_first)].filter fun x : String × DataW Unit => x.1 != "unicode/utf8.first") = [("loop.example/g01344/impl.errInvalid", Rows.laid_loop_example_g01344_impl_errInvalid), ("loop.example/g01344/impl.errRange", Rows.laid_loop_example_g01344_impl_errRange), ("loop.example/g01344/impl.errLimit", Rows.laid_loop_example_g01344_impl_errLimit), ("loop.example/g01344/impl.errSyntax", Rows.laid_loop_example_g01344_impl_errSyntax), ("loop.example/g01344/impl.errNotFound", Rows.laid_loop_example_g01344_impl_errNotFound)] := by kernel_rfl
  rw [e6] at h6
  clear h5
  have h5 := h6
  obtain ⟨a0, a1, a2, a3, a4, v0, v1, v2, v3, v4, n0_1, n0_2, n0_3, n0_4, n1_2, n1_3, n1_4, n2_3, n2_4, n3_4, b0, b1, b2, b3, b4⟩ := laid_five h5 gn0 gt0 gn1 gt1 gn2 gt2 gn3 gt3 gn4 gt4 Tryz.underlying38 errRow Tryz.underlying114 Tryz.underlying116 rfl rfl Tryz.underlying9 (by kernel_rfl) (by kernel_rfl)
  exact ⟨h1, te_of h2.tail, ⟨a0, a1, a2, a3, a4⟩, ⟨sen_of gn0 v0 b0, sen_of gn1 v1 b1, sen_of gn2 v2 b2, sen_of gn3 v3 b3, sen_of gn4 v4 b4⟩, n0_1, n0_2, n0_3, n0_4, n1_2, n1_3, n1_4, n2_3, n2_4, n3_4⟩
theorem lifted (os : Os) (started : os.Started) (H : Type) (enc : TypeId × Value → H) :
    ReturnsInHanded {} Tryz.checked os 3 .any (fun w args => (Rows.fnExactReadMillSpec.pre enc Tryz.prog Tryz.f3 [] false w args ∧ laidMetH Tryz.prog Rows.fnExactReadMillRow.laid w) ∧ sizedMet enc Tryz.prog Tryz.f3 (OpenSpec.ofChange Rows.fnExactReadMillSpec) false w args) (Rows.fnExactReadMillSpec.post enc Tryz.prog Tryz.f3 false true false false) := by
  refine handed_both (C := Tryz.checked) (X := fun w _ => laidMetH Tryz.prog Rows.fnExactReadMillRow.laid w) (fun _ _ _ hh h => h.of_heap hh) own started (by kernel_rfl) Tryz.func3
    (ChangeSpec.witness_shaped (enc := enc) (C := Tryz.checked) (os := os) (X := fun w _ => laidMetH Tryz.prog Rows.fnExactReadMillRow.laid w) false (World.laidAll Tryz.prog os Rows.fnExactReadMillRow.laid) #[.string ⟨#[]⟩] 8 (World.laidAll_os _ _ _) (World.shaped_of_ZipB (by kernel_rfl) (by kernel_rfl)) (by kernel_rfl) (by kernel_rfl) (by kernel_rfl)
      (by rw [MakeChecks.laidMetH_plain _ _ _ (by kernel_rfl)]; exact laidMet_laidAll _ (by kernel_rfl) (by kernel_rfl))) ?_
  intro W base args ds gs before hval0 hW hL hSh
  have hval : ∀ (j : Nat) t v, Tryz.f3.params[j]? = some t → args[j]? = some v → Value.okWide Tryz.prog W .any base t v := hval0
  have hW' := hW
  obtain ⟨p, q, hA0, hV, rfl, hfz, hnd⟩ := hW
  have hA : DataW.TrodAll enc Tryz.prog W 0 (fun _ => true) true Tryz.f3.params.toList args.toList ds p := hA0
  rw [Tryz.params3] at hA hval
  obtain ⟨v0, vs0, d0, ds0, p0, q0, hargs, rfl, rfl, h0, r0⟩ := trodAll_cons hA
  obtain ⟨rfl, rfl, rfl⟩ := trodAll_nil r0
  obtain rfl : args = #[v0] := by cases args; simp_all
  obtain ⟨g0, g1, g2, g3, g4, rfl⟩ := five_of (show gs.length = 5 from trodVars_len hV)
  obtain ⟨a0, rfl, rfl, rfl, w0⟩ := open_string Tryz.underlying9 (hval 0 9 v0 rfl rfl) h0
  obtain ⟨hF1, hF2, Z, hZ⟩ := facts hL
  have hF := And.intro hF1 hF2
  clear hA0 hval0
  refine (walk_FnExactReadMill a0 w0 W Z hZ hF.1 hF.2 (tm_of hSh)).mono fun e W' ⟨he, bel⟩ => ?_
  subst he
  exact ⟨_, rfl, _, _, _, [], _, _, hW', trodAll_mk1 (shut_bool Tryz.underlying4 _), (trodAll_cons_mk (shut_string Tryz.underlying9 w0) trodAll_mk0), Below.trodVars laidOut bel (by kernel_rfl) hV, bel.frame _, fun h => by cases h⟩
theorem over : Rows.FnExactReadMillSaid :=
  OpenClaim.holds_of_wide 3 Tryz.f3 rfl rfl rfl rfl rfl rfl rfl ⟨rfl, rfl, rfl, rfl, rfl⟩ rfl rfl rfl rfl rfl (by kernel_rfl) Tryz.func3 (by kernel_rfl)
    (of_decide_eq_true (by kernel_rfl)) (by unfold Func.isWrapper; first | (rw [if_pos (by decide +kernel)]; kernel_rfl) | (rw [if_neg (by decide +kernel)]; exact ⟨rfl, rfl⟩))
    (fun os started H enc _ => lifted os started H enc)
theorem proved : Rows.FnExactReadMillCardSaid :=
  Claim7.holds_tied_plain_at .later [] [.data, .data, .data, .data, .sentinel, .sentinel, .sentinel, .sentinel, .sentinel, .sentinel, .sentinel, .pinned] true (true, "ebf4937b419fcef06558a8c20b3bba3199077ffd6c40bb34f9f20c1fb4aad246") true
    over (fun _ h => by cases h) (by kernel_rfl) (fun _ h => by cases h) fnExactReadMill_row_tie rfl ⟨rfl, rfl⟩ (by kernel_rfl) rfl
    (fun f fn hf hfn => by
      obtain rfl : f = 3 := Option.some.inj ((show Tryz.prog.funcNamed "loop.example/g01344/laws.FnExactReadMill" = some 3 by kernel_rfl).symm.trans hf) |>.symm
      obtain rfl : fn = Tryz.f3 := (Option.some.inj (Tryz.func3.symm.trans hfn)).symm
      exact ⟨by kernel_rfl, fun j t ht => by
        rw [Tryz.params3] at ht
        have hm : t ∈ [9] := by simpa using Array.mem_of_getElem? ht
        have hall : ([9].all fun u => !Tryz.prog.wantsStandIn u) = true := by kernel_rfl
        exact (show Tryz.prog.wantsStandIn t = false by simpa using List.all_eq_true.1 hall t hm)⟩)
    (by kernel_rfl)
end Go.Proofs.YtdbcblfinflieaaGreatDoor.fnExactReadMill
