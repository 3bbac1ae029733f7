/-
  Layer 8: how the three listed tables read; a world for the witnesses.
-/
import Derived.Test.YtfejdengpnikeaaGreatDoorShoC
import Derived.Test.YtfejdengpnikeaaGreatDoorAstJ
import Derived.Deep.DeepHandedRow
import Derived.Lay
import Derived.LaidSub
namespace Go.Proofs.YtfejdengpnikeaaGreatDoor
open Go.ChangeShapes Go.WideShapes Go.ChangeAt Go.RowKit

theorem sortk : SortK := ⟨Ast.sort_ok, Ast.sort_none⟩
theorem own8 : ownKnob Tryz.prog.godebug = none := by kernel_rfl
/-- What the statements list. -/
abbrev laid3 : List (String × DataW Unit) := [("math/bits.deBruijn32tab", Rows.laid_math_bits_deBruijn32tab), ("math/bits.deBruijn64tab", Rows.laid_math_bits_deBruijn64tab), ("internal/strconv.uint64pow10", Rows.laid_internal_strconv_uint64pow10)]
/-- A world for the witnesses: all listed variables hold what the program's text lays. -/
noncomputable def laidWorld3 (os : Os) : World := World.laidAll Tryz.prog os laid3
theorem tp_of {w : World} (h : laidMetH Tryz.prog laid3 w) : TP w := ⟨tab_of8 (h.filter (fun x => x.1 == "math/bits.deBruijn64tab")), pow_of8 (h.filter (fun x => x.1 == "internal/strconv.uint64pow10"))⟩
end Go.Proofs.YtfejdengpnikeaaGreatDoor
