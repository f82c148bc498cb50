/- What the listed variables of the library hold when a call of a law of layer 24 begins. -/
import Derived.Test.YtmefdgmbpihdfaaDoorRows
import Derived.Test.YtmefdgmbpihdfaaDoorTextNumCode
import Derived.Stop.LaidErr
import Derived.LaidMore
import Derived.LaidHandle
set_option linter.unusedSimpArgs false
set_option linter.unusedVariables false
namespace Go.Proofs.YtmefdgmbpihdfaaDoor.Txt
open Go.RowKit
def Listed : List (String × DataW Unit) := Rows.orderLinesRow.laid
theorem pow_list : (Rows.laid_internal_strconv_uint64pow10 : DataW Unit) = Lib.tabData .u64 Lib.pow10Tab := by kernel_rfl
theorem pow_type : (Tryd.prog.globals[0]?).map (·.type) = some 113 := by kernel_rfl
theorem err_global : Tryd.prog.globalNamed "strconv.ErrRange" = some 5 := by kernel_rfl
theorem err_type : (Tryd.prog.globals[5]?).map (·.type) = some 91 := by kernel_rfl
theorem star_name : "*" ++ "errors.errorString" = "*errors.errorString" := by decide
theorem error_row (u : TypeId) (h : Tryd.prog.typeName? 3 u = some "*errors.errorString") : u = 135 :=
  typeName_ptr_named (nm := "errors.errorString") (by rw [star_name]; kernel_rfl) (by kernel_rfl) (by decide) u (by rw [star_name]; exact h)
theorem of_laid {W : World} (h0 : laidMetH Tryd.prog Listed W) : Laid W := by
  rw [MakeChecks.laidMetH_plain _ _ _ (by kernel_rfl)] at h0
  have h2 : laidMet Tryd.prog (("internal/strconv.uint64pow10", Lib.tabData .u64 Lib.pow10Tab) :: [("strconv.ErrRange", Rows.laid_strconv_ErrRange), ("strconv.ErrSyntax", Rows.laid_strconv_ErrSyntax)]) W := by
    have h1 : laidMet Tryd.prog [("math/bits.deBruijn32tab", Rows.laid_math_bits_deBruijn32tab), ("math/bits.deBruijn64tab", Rows.laid_math_bits_deBruijn64tab), ("internal/strconv.uint64pow10", Rows.laid_internal_strconv_uint64pow10), ("strconv.ErrRange", Rows.laid_strconv_ErrRange), ("strconv.ErrSyntax", Rows.laid_strconv_ErrSyntax)] W := h0
    rw [pow_list] at h1
    exact h1.tail.tail
  refine ⟨Lib.tabIs_of_head (n := 20) pow_global pow_type Tryd.underlying113 Tryd.underlying79 (by kernel_rfl) (by kernel_rfl) h2, ?_⟩
  obtain ⟨a0, s0, hv0, _⟩ := laid_sentinel (nm := "*errors.errorString") h2.tail err_global err_type Tryd.underlying91 (tp := 135) error_row Tryd.underlying135 Tryd.underlying137 rfl rfl Tryd.underlying9 (by kernel_rfl) (by kernel_rfl)
  refine ⟨135, .pointer (some a0), ?_⟩
  have h := World.var?_cell err_global hv0 0
  simpa using h
theorem door_met (os : Os) (args : Array Value) : laidMetH Tryd.prog Listed ((World.doorLaid Tryd.prog 62 os).forCall (fun _ _ => 0) ⟨#[], args, []⟩).memory :=
  laidMetH_of_parts3 (fuel := 8) (laidMet_of_run' 8 (by kernel_rfl) (by kernel_rfl)) (by kernel_rfl) (by kernel_rfl)
/-! ### The same where no number is read -/
def Few : List (String × DataW Unit) := Rows.orderNobodyRow.laid
theorem pows_laid {W : World} (h0 : laidMetH Tryd.prog Few W) : Pows W := by
  rw [MakeChecks.laidMetH_plain _ _ _ (by kernel_rfl)] at h0
  have h2 : laidMet Tryd.prog (("internal/strconv.uint64pow10", Lib.tabData .u64 Lib.pow10Tab) :: []) W := by
    have h1 : laidMet Tryd.prog [("math/bits.deBruijn32tab", Rows.laid_math_bits_deBruijn32tab), ("math/bits.deBruijn64tab", Rows.laid_math_bits_deBruijn64tab), ("internal/strconv.uint64pow10", Rows.laid_internal_strconv_uint64pow10)] W := h0
    rw [pow_list] at h1
    exact h1.tail.tail
  exact Lib.tabIs_of_head (n := 20) pow_global pow_type Tryd.underlying113 Tryd.underlying79 (by kernel_rfl) (by kernel_rfl) h2
theorem pows_met (os : Os) (args : Array Value) : laidMetH Tryd.prog Few ((World.doorLaid Tryd.prog 62 os).forCall (fun _ _ => 0) ⟨#[], args, []⟩).memory :=
  laidMetH_of_parts3 (fuel := 8) (laidMet_of_run' 8 (by kernel_rfl) (by kernel_rfl)) (by kernel_rfl) (by kernel_rfl)
end Go.Proofs.YtmefdgmbpihdfaaDoor.Txt
