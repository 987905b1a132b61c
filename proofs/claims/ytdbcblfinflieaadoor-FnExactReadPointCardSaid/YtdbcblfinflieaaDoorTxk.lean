/-
  What the cards' lists of variables give: the tables and the errors of the library's.
-/
import Derived.Test.YtdbcblfinflieaaDoorRows
import Derived.Test.YtdbcblfinflieaaDoorTxh
import Derived.Stop.LaidErr
namespace Go.Proofs.YtdbcblfinflieaaDoor
open Go Go.RowKit
set_option maxRecDepth 100000
def deb64 : List Int := [0, 1, 56, 2, 57, 49, 28, 3, 61, 58, 42, 50, 38, 29, 17, 4, 62, 47, 59, 36, 45, 43, 51, 22, 53, 39, 33, 30, 24, 18, 12, 5, 63, 55, 48, 27, 60, 41, 37, 16, 46, 35, 44, 21, 52, 32, 23, 11, 54, 26, 40, 15, 34, 20, 31, 10, 25, 14, 19, 9, 13, 8, 7, 6]
theorem g_db : Tryd.prog.globalNamed "math/bits.deBruijn64tab" = some 9 := by kernel_rfl
theorem gt_db : (Tryd.prog.globals[9]?).map (·.type) = some 188 := by kernel_rfl
theorem gt_pw : (Tryd.prog.globals[7]?).map (·.type) = some 179 := by kernel_rfl
theorem tb_of {rest : List (String × DataW Unit)} {W : World} (h : laidMet Tryd.prog (("math/bits.deBruijn32tab", Rows.laid_math_bits_deBruijn32tab) :: ("math/bits.deBruijn64tab", Rows.laid_math_bits_deBruijn64tab) :: ("internal/strconv.uint64pow10", Rows.laid_internal_strconv_uint64pow10) :: rest) W) : TbAt W ∧ laidMet Tryd.prog rest W := by
  have h1 := h.tail
  have h2 := h1.tail
  have k1 : Lib.TabIs Tryd.prog W "math/bits.deBruijn64tab" .u8 deb64 := Lib.tabIs_of_head g_db gt_db Tryd.underlying188 Tryd.underlying5 (show Tryd.prog.cellsOf 5 = 1 by kernel_rfl) (show Tryd.prog.cellsOf 188 = 64 by kernel_rfl) h1
  have k2 : Lib.TabIs Tryd.prog W "internal/strconv.uint64pow10" .u64 Lib.pow10Tab := Lib.tabIs_of_head pw_named gt_pw Tryd.underlying179 Tryd.underlying84 (show Tryd.prog.cellsOf 84 = 1 by kernel_rfl) (show Tryd.prog.cellsOf 179 = 20 by kernel_rfl) h2
  exact ⟨⟨k1.cell g_db 15 (by decide), k2⟩, h2.tail⟩
theorem errRowS : ∀ u, Tryd.prog.typeName? 3 u = some "*errors.errorString" → u = 175 := by
  intro u h
  exact typeName_ptr_named (nm := "errors.errorString") (by kernel_rfl) (by kernel_rfl) (by decide) u h
theorem g_es : Tryd.prog.globalNamed "strconv.ErrSyntax" = some 3 := by kernel_rfl
theorem gt_es : (Tryd.prog.globals[3]?).map (·.type) = some 61 := by kernel_rfl
theorem g_er : Tryd.prog.globalNamed "strconv.ErrRange" = some 4 := by kernel_rfl
theorem gt_er : (Tryd.prog.globals[4]?).map (·.type) = some 61 := by kernel_rfl
theorem te_of {rest : List (String × DataW Unit)} {W : World} (h : laidMet Tryd.prog (("strconv.ErrRange", Rows.laid_strconv_ErrRange) :: ("strconv.ErrSyntax", Rows.laid_strconv_ErrSyntax) :: rest) W) : TeAt W := by
  obtain ⟨a1, s1, h1, _⟩ := laid_sentinel h g_er gt_er Tryd.underlying61 errRowS Tryd.underlying175 Tryd.underlying177 rfl rfl Tryd.underlying9 (by kernel_rfl) (by kernel_rfl)
  obtain ⟨a2, s2, h2, _⟩ := laid_sentinel h.tail g_es gt_es Tryd.underlying61 errRowS Tryd.underlying175 Tryd.underlying177 rfl rfl Tryd.underlying9 (by kernel_rfl) (by kernel_rfl)
  exact ⟨⟨_, _, by have := World.var?_cell g_es h2 0; simpa using this⟩, _, _, by have := World.var?_cell g_er h1 0; simpa using this⟩
end Go.Proofs.YtdbcblfinflieaaDoor
