/-
  What the cards' lists of variables give: the tables and the errors of the library's.
-/
import Derived.Test.YtdbcblfinflieaaGreatDoorRows
import Derived.Test.YtdbcblfinflieaaGreatDoorTxh
import Derived.Stop.LaidErr
namespace Go.Proofs.YtdbcblfinflieaaGreatDoor
open Go Go.RowKit
set_option maxRecDepth 100000
def deb64 : List Int := [0, 1, 56, 2, 57, 49, 28, 3, 61, 58, 42, 50, 38, 29, 17, 4, 62, 47, 59, 36, 45, 43, 51, 22, 53, 39, 33, 30, 24, 18, 12, 5, 63, 55, 48, 27, 60, 41, 37, 16, 46, 35, 44, 21, 52, 32, 23, 11, 54, 26, 40, 15, 34, 20, 31, 10, 25, 14, 19, 9, 13, 8, 7, 6]
theorem g_db : Tryz.prog.globalNamed "math/bits.deBruijn64tab" = some 13 := by kernel_rfl
theorem gt_db : (Tryz.prog.globals[13]?).map (·.type) = some 141 := by kernel_rfl
theorem gt_pw : (Tryz.prog.globals[11]?).map (·.type) = some 135 := by kernel_rfl
theorem tb_of {rest : List (String × DataW Unit)} {W : World} (h : laidMet Tryz.prog (("math/bits.deBruijn32tab", Rows.laid_math_bits_deBruijn32tab) :: ("math/bits.deBruijn64tab", Rows.laid_math_bits_deBruijn64tab) :: ("internal/strconv.uint64pow10", Rows.laid_internal_strconv_uint64pow10) :: rest) W) : TbAt W ∧ laidMet Tryz.prog rest W := by
  have h1 := h.tail
  have h2 := h1.tail
  have k1 : Lib.TabIs Tryz.prog W "math/bits.deBruijn64tab" .u8 deb64 := Lib.tabIs_of_head g_db gt_db Tryz.underlying141 Tryz.underlying5 (show Tryz.prog.cellsOf 5 = 1 by kernel_rfl) (show Tryz.prog.cellsOf 141 = 64 by kernel_rfl) h1
  have k2 : Lib.TabIs Tryz.prog W "internal/strconv.uint64pow10" .u64 Lib.pow10Tab := Lib.tabIs_of_head pw_named gt_pw Tryz.underlying135 Tryz.underlying58 (show Tryz.prog.cellsOf 58 = 1 by kernel_rfl) (show Tryz.prog.cellsOf 135 = 20 by kernel_rfl) h2
  exact ⟨⟨k1.cell g_db 15 (by decide), k2⟩, h2.tail⟩
theorem errRowS : ∀ u, Tryz.prog.typeName? 3 u = some "*errors.errorString" → u = 114 := by
  intro u h
  exact typeName_ptr_named (nm := "errors.errorString") (by kernel_rfl) (by kernel_rfl) (by decide) u h
theorem g_es : Tryz.prog.globalNamed "strconv.ErrSyntax" = some 6 := by kernel_rfl
theorem gt_es : (Tryz.prog.globals[6]?).map (·.type) = some 38 := by kernel_rfl
theorem g_er : Tryz.prog.globalNamed "strconv.ErrRange" = some 7 := by kernel_rfl
theorem gt_er : (Tryz.prog.globals[7]?).map (·.type) = some 38 := by kernel_rfl
theorem te_of {rest : List (String × DataW Unit)} {W : World} (h : laidMet Tryz.prog (("strconv.ErrRange", Rows.laid_strconv_ErrRange) :: ("strconv.ErrSyntax", Rows.laid_strconv_ErrSyntax) :: rest) W) : TeAt W := by
  obtain ⟨a1, s1, h1, _⟩ := laid_sentinel h g_er gt_er Tryz.underlying38 errRowS Tryz.underlying114 Tryz.underlying116 rfl rfl Tryz.underlying9 (by kernel_rfl) (by kernel_rfl)
  obtain ⟨a2, s2, h2, _⟩ := laid_sentinel h.tail g_es gt_es Tryz.underlying38 errRowS Tryz.underlying114 Tryz.underlying116 rfl rfl Tryz.underlying9 (by kernel_rfl) (by kernel_rfl)
  exact ⟨⟨_, _, by have := World.var?_cell g_es h2 0; simpa using this⟩, _, _, by have := World.var?_cell g_er h1 0; simpa using this⟩
end Go.Proofs.YtdbcblfinflieaaGreatDoor
