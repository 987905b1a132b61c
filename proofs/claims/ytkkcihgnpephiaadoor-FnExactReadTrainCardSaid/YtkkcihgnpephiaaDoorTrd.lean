/-
  A pair of wheels read from its word: the program's.
-/
import Derived.Test.YtkkcihgnpephiaaDoorTrc
namespace Go.Proofs.YtkkcihgnpephiaaDoor
open Go.RowKit Go.ChangeShapes Go.WideShapes Go.Deep
attribute [local go_sem ↓] Go.wp_at_zero Go.wp_at_succ
set_option linter.unusedVariables false
set_option linter.unusedSimpArgs false
set_option maxRecDepth 100000
def I16' (z : Int) : Prop := -32768 ≤ z ∧ z ≤ 32767
theorem itoaI_any (n : Int) (h : I16' n) (w : World) (hT : TbAt w) : Calls Tryd.prog 84 #[.int .i64 n] w (RV (.string (bsOf (Lib.itoa n))) w) := by
  obtain ⟨h0, h1⟩ := h
  refine (Tryd.strconv_Itoa n (by omega) (by omega) w hT.pw).mono ?_
  rintro e w' ⟨rfl, k, os, rfl⟩
  exact ⟨rfl, grow_b _ _ _⟩
theorem itoa_len (n : Int) (h : I16' n) : (Lib.itoa n).length ≤ 6 := by
  obtain ⟨h0, h1⟩ := h
  unfold Lib.itoa
  split
  · have := dec_len 4 n.natAbs (by show n.natAbs < 10 ^ 5; omega)
    simp; omega
  · have := dec_len 4 n.toNat (by show n.toNat < 10 ^ 5; omega)
    omega
theorem txI_cat (p : Px) : bsOf (Lib.itoa p.a) ++ ⟨#[47]⟩ ++ bsOf (Lib.itoa p.b) ++ ⟨#[58]⟩ ++ bsOf (hex8 (cn p.l)) = bsOf (txI p) := by
  have e : (⟨#[47]⟩ : ByteArray) = bsOf [47] := rfl
  have e2 : (⟨#[58]⟩ : ByteArray) = bsOf [58] := rfl
  unfold txI
  rw [e, e2, bsOf_append, bsOf_append, bsOf_append, bsOf_append]
  simp
theorem rgI_step {x y : Int} {l : Nat} {b o : Nat} {w W w' : World} (h : W.cell? ⟨b, o, none⟩ = some (.int .i16 x) ∧ W.cell? ⟨b, o + 1, none⟩ = some (.int .i16 y) ∧ W.cell? ⟨b, o + 2, none⟩ = some (.float .f32 l) ∧ Hid (TbAt W) ∧ Hid (Below w.heap.size w W)) (b' : Below W.heap.size W w') : w'.cell? ⟨b, o, none⟩ = some (.int .i16 x) ∧ w'.cell? ⟨b, o + 1, none⟩ = some (.int .i16 y) ∧ w'.cell? ⟨b, o + 2, none⟩ = some (.float .f32 l) ∧ Hid (TbAt w') ∧ Hid (Below w.heap.size w w') :=
  ⟨cell_on h.1 rfl b', cell_on h.2.1 rfl b', cell_on h.2.2.1 rfl b', Lib.hid (h.2.2.2.1.out.below b'), Lib.hid (b_then h.2.2.2.2.out b')⟩
theorem rgI_tb {x y : Int} {l : Nat} {b o : Nat} {w W : World} (h : W.cell? ⟨b, o, none⟩ = some (.int .i16 x) ∧ W.cell? ⟨b, o + 1, none⟩ = some (.int .i16 y) ∧ W.cell? ⟨b, o + 2, none⟩ = some (.float .f32 l) ∧ Hid (TbAt W) ∧ Hid (Below w.heap.size w W)) : TbAt W := h.2.2.2.1.out
set_option maxHeartbeats 4000000 in
theorem pairTextI_any (p : Px) (hp : p.wf) (w : World) (hB : TbAt w) : Calls Tryd.prog 66 #[.agg #[.int .i16 p.a, .int .i16 p.b, .float .f32 p.l]] w (RV (.string (bsOf (txI p))) w) := by
  have J := Lib.hid (txI_cat p)
  rw [← J.out]
  obtain ⟨x, y, l⟩ := p
  obtain ⟨hx, hy, hl⟩ := hp
  dsimp only at *
  have La := Lib.hid (fun W h => itoaI_any x hx W h)
  have Lb := Lib.hid (fun W h => itoaI_any y hy W h)
  have Lh := Lib.hid (fun W h => numText_any l hl W h)
  have wx : IntKind.i64.wrap x = x := IntWalk.i64_in _ (by omega)
  have wy : IntKind.i64.wrap y = y := IntWalk.i64_in _ (by omega)
  have z1 : (bsOf (Lib.itoa x)).size ≤ 6 := by rw [bsOf_size]; exact itoa_len x hx
  have z2 : (bsOf (Lib.itoa y)).size ≤ 6 := by rw [bsOf_size]; exact itoa_len y hy
  have z3 := h8_size (cn l)
  have K0 := heap_alloc_new w (.cells #[.int .i16 x, .int .i16 y, .float .f32 l] 93)
  have C0 : (w.alloc (.cells #[.int .i16 x, .int .i16 y, .float .f32 l] 93)).cell? ⟨w.heap.size, 0, none⟩ = some (.int .i16 x) := cell_of_row _ _ 0 _ _ _ K0
  have C1 : (w.alloc (.cells #[.int .i16 x, .int .i16 y, .float .f32 l] 93)).cell? ⟨w.heap.size, 1, none⟩ = some (.int .i16 y) := cell_of_row _ _ 1 _ _ _ K0
  have C2 : (w.alloc (.cells #[.int .i16 x, .int .i16 y, .float .f32 l] 93)).cell? ⟨w.heap.size, 2, none⟩ = some (.float .f32 l) := cell_of_row _ _ 2 _ _ _ K0
  have HB := Lib.hid hB
  clear hx hy hl J hB K0
  generalize bsOf (Lib.itoa x) = t1 at *
  generalize bsOf (Lib.itoa y) = t2 at *
  generalize bsOf (hex8 (cn l)) = t3 at *
  have s0 : (⟨#[47]⟩ : ByteArray).size = 1 := rfl
  have s1 : (⟨#[58]⟩ : ByteArray).size = 1 := rfl
  have y1 : ¬ 9223372036854775807 < t1.size + 1 := by omega
  have y2 : ¬ 9223372036854775807 < t1.size + 1 + t2.size := by omega
  have y3 : ¬ 9223372036854775807 < t1.size + 1 + t2.size + 1 := by omega
  have y4 : ¬ 9223372036854775807 < t1.size + 1 + t2.size + 1 + 8 := by omega
  clear z1 z2
  go_enter Tryd.func66, Tryd.ntmps66
  go_wp2_with fail
  go_region_held3 (fun w' => w'.cell? ⟨w.heap.size, 0, none⟩ = some (.int .i16 x) ∧ w'.cell? ⟨w.heap.size, 1, none⟩ = some (.int .i16 y) ∧ w'.cell? ⟨w.heap.size, 2, none⟩ = some (.float .f32 l) ∧ Hid (TbAt w') ∧ Hid (Below w.heap.size w w'))
    (first
      | exact ⟨C0, C1, C2, Lib.hid (HB.out.below (b_drew (b_alloc (Below.refl _ w) _))), Lib.hid (b_drew (b_alloc (Below.refl _ w) _))⟩
      | assumption)
    (first
      | (go_at_call 84; (first | with_reducible refine (La.out _ ?_).mono ?_ | with_reducible refine (Lb.out _ ?_).mono ?_); (· exact rgI_tb (o := 0) (by assumption)); rintro e w' ⟨rfl, b⟩; have C := rgI_step (o := 0) (by assumption) b; clear b)
      | (go_at_call 16; refine (Lh.out _ ?_).mono ?_; (· exact rgI_tb (o := 0) (by assumption)); rintro e w' ⟨rfl, b⟩; have C := rgI_step (o := 0) (by assumption) b; clear b))
  have HF := Lib.hid (show Below w.heap.size w _ from C.2.2.2.2.out)
  clear C C0 C1 C2
  go_wp2
  go_ret
  exact ⟨rfl, HF.out⟩
/-- The library's Cut at a byte. -/
theorem cut_any (t : ByteArray) (b : UInt8) (hs : t.size ≤ 1048576) (w : World) (hM : TmAt w) : Calls Tryd.prog 108 #[.string t, .string ⟨#[b]⟩] w fun e w' => e = .returned (.tuple #[.string (bsOf (Lib.cut t.data.toList [b]).1), .string (bsOf (Lib.cut t.data.toList [b]).2.1), .bool (Lib.cut t.data.toList [b]).2.2]) ∧ ∃ n, w' = w.drewN n := by
  obtain ⟨m, hm⟩ := hM
  exact Tryd.strings_Cut t ⟨#[b]⟩ m w (by omega) hm
end Go.Proofs.YtkkcihgnpephiaaDoor
