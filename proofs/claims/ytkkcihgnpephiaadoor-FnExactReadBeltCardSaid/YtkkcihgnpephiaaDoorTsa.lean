/-
  The text of a stone: the program's and the model's.
-/
import Derived.Test.YtkkcihgnpephiaaDoorTxm
import Derived.Test.YtkkcihgnpephiaaDoorTxj
import Derived.Test.YtkkcihgnpephiaaDoorSv
import Derived.Deep.RegionHeld3
import Derived.Deep.RegionLaw
namespace Go.Proofs.YtkkcihgnpephiaaDoor
open Go.RowKit Go.ChangeShapes Go.WideShapes Go.Deep
attribute [local go_sem ↓] Go.wp_at_zero Go.wp_at_succ
set_option linter.unusedVariables false
set_option linter.unusedSimpArgs false
set_option maxRecDepth 100000
theorem join_any (v : Value) (l : List (List UInt8)) (b : UInt8) (w : World) (h : StIn w v l) (hn : l.length ≤ 1000) (hlen : (Lib.join l [b]).length ≤ 140737488355328) : Calls Tryd.prog 67 #[v, .string ⟨#[b]⟩] w (RV (.string (bsOf (Lib.join l [b]))) w) := by
  obtain ⟨g, o, c, rfl, h1, h2, h3, h4⟩ := h
  have e1 : (l.map bsOf).map (·.data.toList) = l := by
    rw [List.map_map]
    conv => rhs; rw [← List.map_id l]
    rfl
  have L := Tryd.strings_Join g o c (l.map bsOf) ⟨#[b]⟩ w (fun j x hx => by
    rw [List.getElem?_map] at hx
    obtain ⟨y, hy, rfl⟩ := Option.map_eq_some_iff.1 hx
    exact h4 j y hy) h1 (by rw [List.length_map]; omega) (by rw [List.length_map]; exact h2) (by rw [e1]; exact hlen)
  rw [e1, List.length_map] at L
  exact L
theorem StIn.new (w : World) (l : List (List UInt8)) (hl : l.length ≤ maxLen) : StIn (w.alloc (.cells (l.map strV).toArray 9)) (.slice (some ⟨w.heap.size, 0, none⟩) l.length l.length) l := by
  refine ⟨w.heap.size, 0, l.length, rfl, by simp, Nat.le_refl _, hl, fun j x hx => ?_⟩
  rw [Nat.zero_add, cell_of_row _ _ j _ _ _ (heap_alloc_new w _)]
  simp [hx]
def txS (S : Sn) : List (List UInt8) := [hex8 (cn S.d), hex8 (cn S.r), hex8 (cn S.b), hex8 (cn S.g)]
def textS (S : Sn) : List UInt8 := if okS S then Lib.join (txS S) [47] else []
def wfS (S : Sn) : Prop := S.d < 4294967296 ∧ S.r < 4294967296 ∧ S.b < 4294967296 ∧ S.g < 4294967296
theorem txS_join (S : Sn) : (Lib.join (txS S) [47]).length = 35 := by
  unfold txS
  rw [join_two, join_two, join_two, Lib.join_one]
  simp [hex8_length]
theorem rgS_step {S : Sn} {q : Nat} {w W w' : World} (h : W.cell? ⟨q, 0, none⟩ = some (.float .f32 S.d) ∧ W.cell? ⟨q, 1, none⟩ = some (.float .f32 S.r) ∧ W.cell? ⟨q, 2, none⟩ = some (.float .f32 S.b) ∧ W.cell? ⟨q, 3, none⟩ = some (.float .f32 S.g) ∧ Hid (TbAt W) ∧ Hid (Below w.heap.size w W)) (b : Below W.heap.size W w') : w'.cell? ⟨q, 0, none⟩ = some (.float .f32 S.d) ∧ w'.cell? ⟨q, 1, none⟩ = some (.float .f32 S.r) ∧ w'.cell? ⟨q, 2, none⟩ = some (.float .f32 S.b) ∧ w'.cell? ⟨q, 3, none⟩ = some (.float .f32 S.g) ∧ Hid (TbAt w') ∧ Hid (Below w.heap.size w w') :=
  ⟨cell_on h.1 rfl b, cell_on h.2.1 rfl b, cell_on h.2.2.1 rfl b, cell_on h.2.2.2.1 rfl b, Lib.hid (h.2.2.2.2.1.out.below b), Lib.hid (b_then h.2.2.2.2.2.out b)⟩
theorem rgS_tb {S : Sn} {q : Nat} {w W : World} (h : W.cell? ⟨q, 0, none⟩ = some (.float .f32 S.d) ∧ W.cell? ⟨q, 1, none⟩ = some (.float .f32 S.r) ∧ W.cell? ⟨q, 2, none⟩ = some (.float .f32 S.b) ∧ W.cell? ⟨q, 3, none⟩ = some (.float .f32 S.g) ∧ Hid (TbAt W) ∧ Hid (Below w.heap.size w W)) : TbAt W := h.2.2.2.2.1.out
theorem rgS_b {S : Sn} {q : Nat} {w W : World} (h : W.cell? ⟨q, 0, none⟩ = some (.float .f32 S.d) ∧ W.cell? ⟨q, 1, none⟩ = some (.float .f32 S.r) ∧ W.cell? ⟨q, 2, none⟩ = some (.float .f32 S.b) ∧ W.cell? ⟨q, 3, none⟩ = some (.float .f32 S.g) ∧ Hid (TbAt W) ∧ Hid (Below w.heap.size w W)) : Below w.heap.size w W := h.2.2.2.2.2.out
theorem rgQ_step {S : Sn} {q : Nat} {w W w' : World} (h : W.cell? ⟨q, 0, none⟩ = some (.float .f32 S.d) ∧ W.cell? ⟨q, 1, none⟩ = some (.float .f32 S.r) ∧ W.cell? ⟨q, 2, none⟩ = some (.float .f32 S.b) ∧ W.cell? ⟨q, 3, none⟩ = some (.float .f32 S.g) ∧ Hid (Below w.heap.size w W)) (b : Below W.heap.size W w') : w'.cell? ⟨q, 0, none⟩ = some (.float .f32 S.d) ∧ w'.cell? ⟨q, 1, none⟩ = some (.float .f32 S.r) ∧ w'.cell? ⟨q, 2, none⟩ = some (.float .f32 S.b) ∧ w'.cell? ⟨q, 3, none⟩ = some (.float .f32 S.g) ∧ Hid (Below w.heap.size w w') :=
  ⟨cell_on h.1 rfl b, cell_on h.2.1 rfl b, cell_on h.2.2.1 rfl b, cell_on h.2.2.2.1 rfl b, Lib.hid (b_then h.2.2.2.2.out b)⟩
theorem rgQ_b {S : Sn} {q : Nat} {w W : World} (h : W.cell? ⟨q, 0, none⟩ = some (.float .f32 S.d) ∧ W.cell? ⟨q, 1, none⟩ = some (.float .f32 S.r) ∧ W.cell? ⟨q, 2, none⟩ = some (.float .f32 S.b) ∧ W.cell? ⟨q, 3, none⟩ = some (.float .f32 S.g) ∧ Hid (Below w.heap.size w W)) : Below w.heap.size w W := h.2.2.2.2.out
set_option maxHeartbeats 4000000 in
theorem implStoneText_any (S : Sn) (hS : wfS S) (w : World) (hT : TbAt w) : Calls Tryd.prog 37 #[.agg #[.float .f32 S.d, .float .f32 S.r, .float .f32 S.b, .float .f32 S.g]] w (RV (.string (bsOf (textS S))) w) := by
  obtain ⟨g1, g2, g3, g4⟩ := hS
  have L1 := Lib.hid (fun W h => numText_any S.d g1 W h)
  have L2 := Lib.hid (fun W h => numText_any S.r g2 W h)
  have L3 := Lib.hid (fun W h => numText_any S.b g3 W h)
  have L4 := Lib.hid (fun W h => numText_any S.g g4 W h)
  have HT := Lib.hid hT
  have KA := Lib.hid (AtSn.new w S)
  clear hT g1 g2 g3 g4
  cases hk : okS S
  · have e : textS S = [] := by unfold textS; rw [hk]; rfl
    have L := Lib.hid (validStone_any S (w.alloc (.cells #[.float .f32 S.d, .float .f32 S.r, .float .f32 S.b, .float .f32 S.g] 53)))
    rw [hk] at L
    rw [e]
    clear hk e
    go_enter Tryd.func37, Tryd.ntmps37
    go_wp2_with fail
    refine L.out.mono ?_
    rintro e w1 ⟨rfl, b1⟩
    have B1 := Lib.hid (b_then (b_alloc (Below.refl _ w) _) b1)
    clear b1
    go_wp2
    go_ret
    exact ⟨rfl, B1.out⟩
  · have e : textS S = Lib.join (txS S) [47] := by unfold textS; rw [hk]; rfl
    have L := Lib.hid (validStone_any S (w.alloc (.cells #[.float .f32 S.d, .float .f32 S.r, .float .f32 S.b, .float .f32 S.g] 53)))
    rw [hk] at L
    rw [e]
    clear hk e
    go_enter Tryd.func37, Tryd.ntmps37
    go_wp2_with fail
    refine L.out.mono ?_
    rintro e w1 ⟨rfl, b1⟩
    have k1 := KA.out.on rfl b1
    obtain ⟨c0, c1, c2, c3⟩ := k1.cells
    have B1 := Lib.hid (b_then (b_alloc (Below.refl _ w) _) b1)
    have T1 := Lib.hid (HT.out.below B1.out)
    have J := Lib.hid (show ∀ W : World, Calls Tryd.prog 67 #[.slice (some ⟨W.heap.size, 0, none⟩) 4 4, .string ⟨#[47]⟩] (W.alloc (.cells #[.string (bsOf (hex8 (cn S.d))), .string (bsOf (hex8 (cn S.r))), .string (bsOf (hex8 (cn S.b))), .string (bsOf (hex8 (cn S.g)))] 9)) (RV (.string (bsOf (Lib.join (txS S) [47]))) (W.alloc (.cells #[.string (bsOf (hex8 (cn S.d))), .string (bsOf (hex8 (cn S.r))), .string (bsOf (hex8 (cn S.b))), .string (bsOf (hex8 (cn S.g)))] 9))) from fun W => join_any _ (txS S) 47 _ (StIn.new W (txS S) (by show 4 ≤ maxLen; unfold maxLen; omega)) (by show 4 ≤ 1000; omega) (by rw [txS_join]; omega))
    clear b1 k1 KA HT L
    go_wp2
    go_region_held3 (fun w' => w'.cell? ⟨w.heap.size, 0, none⟩ = some (.float .f32 S.d) ∧ w'.cell? ⟨w.heap.size, 1, none⟩ = some (.float .f32 S.r) ∧ w'.cell? ⟨w.heap.size, 2, none⟩ = some (.float .f32 S.b) ∧ w'.cell? ⟨w.heap.size, 3, none⟩ = some (.float .f32 S.g) ∧ Hid (TbAt w') ∧ Hid (Below w.heap.size w w'))
      (first
        | exact ⟨c0, c1, c2, c3, Lib.hid (T1.out.on rfl (b_drew (Below.refl _ _))), Lib.hid (b_drew B1.out)⟩
        | assumption
        | exact rgS_step (by assumption) (b_alloc (Below.refl _ _) _)
        | (trace_state; fail))
      (first
        | (go_at_call 16; (first | with_reducible refine (L1.out _ ?_).mono ?_ | with_reducible refine (L2.out _ ?_).mono ?_ | with_reducible refine (L3.out _ ?_).mono ?_ | with_reducible refine (L4.out _ ?_).mono ?_); (· exact rgS_tb (by assumption)); rintro e w' ⟨rfl, b⟩; have C := rgS_step (by assumption) b; clear b)
        | (go_at_call 67; refine (J.out _).mono ?_; rintro e w' ⟨rfl, b⟩; have C := rgS_step (by assumption) b; clear b))
    go_wp2
    go_ret
    exact ⟨rfl, rgS_b (by assumption)⟩
theorem join4 (a b c d : List UInt8) (x : UInt8) : bsOf (Lib.join [a, b, c, d] [x]) = bsOf a ++ ⟨#[x]⟩ ++ bsOf b ++ ⟨#[x]⟩ ++ bsOf c ++ ⟨#[x]⟩ ++ bsOf d := by
  have e : (⟨#[x]⟩ : ByteArray) = bsOf [x] := rfl
  rw [e, bsOf_append, bsOf_append, bsOf_append, bsOf_append, bsOf_append, bsOf_append, join_two, join_two, join_two, Lib.join_one]
  simp
theorem h8_size (x : Nat) : (bsOf (hex8 x)).size = 8 := by rw [bsOf_size, hex8_length]
set_option maxHeartbeats 4000000 in
theorem l04Text_any (S : Sn) (hS : wfS S) (w : World) : Calls Tryd.prog 79 #[.agg #[.float .f32 S.d, .float .f32 S.r, .float .f32 S.b, .float .f32 S.g]] w (RV (.string (bsOf (Lib.join (txS S) [47]))) w) := by
  obtain ⟨g1, g2, g3, g4⟩ := hS
  have J := Lib.hid (join4 (hex8 (cn S.d)) (hex8 (cn S.r)) (hex8 (cn S.b)) (hex8 (cn S.g)) 47)
  have L1 := Lib.hid (fun W => l01Hex_any S.d g1 W)
  have L2 := Lib.hid (fun W => l01Hex_any S.r g2 W)
  have L3 := Lib.hid (fun W => l01Hex_any S.b g3 W)
  have L4 := Lib.hid (fun W => l01Hex_any S.g g4 W)
  have z1 := h8_size (cn S.d); have z2 := h8_size (cn S.r); have z3 := h8_size (cn S.b); have z4 := h8_size (cn S.g)
  have KA := Lib.hid (AtSn.new w S)
  have ej : bsOf (Lib.join (txS S) [47]) = bsOf (Lib.join [hex8 (cn S.d), hex8 (cn S.r), hex8 (cn S.b), hex8 (cn S.g)] [47]) := rfl
  rw [ej, J.out]
  clear g1 g2 g3 g4 ej J
  generalize bsOf (hex8 (cn S.d)) = t1 at *
  generalize bsOf (hex8 (cn S.r)) = t2 at *
  generalize bsOf (hex8 (cn S.b)) = t3 at *
  generalize bsOf (hex8 (cn S.g)) = t4 at *
  have s0 : (⟨#[47]⟩ : ByteArray).size = 1 := rfl
  have y1 : (t1 ++ ⟨#[47]⟩).size = 9 := by rw [ByteArray.size_append, z1, s0]
  have y2 : (t1 ++ ⟨#[47]⟩ ++ t2).size = 17 := by rw [ByteArray.size_append, y1, z2]
  have y3 : (t1 ++ ⟨#[47]⟩ ++ t2 ++ ⟨#[47]⟩).size = 18 := by rw [ByteArray.size_append, y2, s0]
  have y4 : (t1 ++ ⟨#[47]⟩ ++ t2 ++ ⟨#[47]⟩ ++ t3).size = 26 := by rw [ByteArray.size_append, y3, z3]
  have y5 : (t1 ++ ⟨#[47]⟩ ++ t2 ++ ⟨#[47]⟩ ++ t3 ++ ⟨#[47]⟩).size = 27 := by rw [ByteArray.size_append, y4, s0]
  obtain ⟨c0, c1, c2, c3⟩ := KA.out.cells
  go_enter Tryd.func79, Tryd.ntmps79
  go_wp2
  go_region_held3 (fun w' => w'.cell? ⟨w.heap.size, 0, none⟩ = some (.float .f32 S.d) ∧ w'.cell? ⟨w.heap.size, 1, none⟩ = some (.float .f32 S.r) ∧ w'.cell? ⟨w.heap.size, 2, none⟩ = some (.float .f32 S.b) ∧ w'.cell? ⟨w.heap.size, 3, none⟩ = some (.float .f32 S.g) ∧ Hid (Below w.heap.size w w'))
    (first
      | exact ⟨c0, c1, c2, c3, Lib.hid (b_drew (b_alloc (Below.refl _ w) _))⟩
      | assumption)
    (first
      | (go_at_call 55; (first | with_reducible refine (L1.out _).mono ?_ | with_reducible refine (L2.out _).mono ?_ | with_reducible refine (L3.out _).mono ?_ | with_reducible refine (L4.out _).mono ?_); rintro e w' ⟨rfl, b⟩; have C := rgQ_step (by assumption) b; clear b))
  go_wp2
  go_ret
  exact ⟨rfl, rgQ_b (by assumption)⟩
theorem specStoneText_any (S : Sn) (hS : wfS S) (w : World) : Calls Tryd.prog 35 #[.agg #[.float .f32 S.d, .float .f32 S.r, .float .f32 S.b, .float .f32 S.g]] w (RV (.string (bsOf (textS S))) w) := by
  have LT := Lib.hid (fun W => l04Text_any S hS W)
  have e0 : okS S = false → textS S = [] := fun h => by unfold textS; rw [h]; rfl
  have e1 : okS S = true → textS S = Lib.join (txS S) [47] := fun h => by unfold textS; rw [h]; rfl
  have LO := Lib.hid (fun W => l04Ok_any S W)
  have E0 := Lib.hid e0; have E1 := Lib.hid e1
  have KA := Lib.hid (AtSn.new w S)
  clear e0 e1
  go_enter Tryd.func35, Tryd.ntmps35
  go_wp2_with fail
  refine (LO.out _).mono ?_
  rintro e w1 ⟨rfl, b1⟩
  cases hk : okS S
  · have e := E0.out hk
    have E := Lib.hid e
    have B1 : Hid (Below w.heap.size w w1) := by first | exact Lib.hid b1 | exact Lib.hid (b_then (b_alloc (Below.refl _ w) _) b1)
    clear hk e b1
    go_wp2
    go_ret
    exact ⟨by rw [E.out]; rfl, B1.out⟩
  · have e := E1.out hk
    have E := Lib.hid e
    have B1 : Hid (Below w.heap.size w w1) := Lib.hid (b_then (b_alloc (Below.refl _ w) _) b1)
    obtain ⟨c0, c1, c2, c3⟩ := (KA.out.on rfl b1).cells
    clear hk e b1
    go_wp2_with fail
    refine (LT.out _).mono ?_
    rintro e w2 ⟨rfl, b2⟩
    have B2 := Lib.hid (b_then B1.out b2)
    clear b2
    go_wp2
    go_ret
    exact ⟨by rw [E.out]; rfl, B2.out⟩
theorem walk_FnExactStoneText (S : Sn) (wS : (Lit.float .f32 S.d).wf = true ∧ (Lit.float .f32 S.r).wf = true ∧ (Lit.float .f32 S.b).wf = true ∧ (Lit.float .f32 S.g).wf = true) (w : World) (hT : TbAt w) :
    Calls Tryd.prog 9 #[.agg #[.float .f32 S.d, .float .f32 S.r, .float .f32 S.b, .float .f32 S.g]] w fun e w' => e = .returned (.bool true) ∧ Below w.heap.size w w' := by
  have hS : wfS S := ⟨f32_lt wS.1, f32_lt wS.2.1, f32_lt wS.2.2.1, f32_lt wS.2.2.2⟩
  have L1 := Lib.hid (fun W => specStoneText_any S hS W)
  have L2 := Lib.hid (fun W h => implStoneText_any S hS W h)
  have HT := Lib.hid hT
  have LC := Lib.hid (fun W => toSn_any S W)
  have KA := Lib.hid (AtLSn.new w S)
  clear hT wS hS
  generalize bsOf (textS S) = T at *
  go_enter Tryd.func9, Tryd.ntmps9
  go_wp2_with fail
  refine (LC.out _).mono ?_
  rintro e w1 ⟨rfl, b1⟩
  have B1 : Hid (Below w.heap.size w w1) := Lib.hid (b_then (b_alloc (Below.refl _ w) _) b1)
  have K1 := Lib.hid (KA.out.on rfl b1)
  clear b1
  go_wp2_with fail
  refine (L1.out _).mono ?_
  rintro e w2 ⟨rfl, b2⟩
  have B2 := Lib.hid (b_then B1.out b2)
  obtain ⟨c0, c1, c2, c3⟩ := (K1.out.on rfl b2).cells
  clear b2
  go_wp2_with fail
  clear c0 c1 c2 c3
  refine (LC.out _).mono ?_
  rintro e w3 ⟨rfl, b3⟩
  have B3 := Lib.hid (b_then B2.out b3)
  clear b3
  go_wp2_with fail
  refine (L2.out _ (HT.out.below B3.out)).mono ?_
  rintro e w4 ⟨rfl, b4⟩
  have B4 := Lib.hid (b_then B3.out b4)
  clear b4
  go_wp2
  go_ret
  exact ⟨rfl, B4.out⟩
end Go.Proofs.YtkkcihgnpephiaaDoor
