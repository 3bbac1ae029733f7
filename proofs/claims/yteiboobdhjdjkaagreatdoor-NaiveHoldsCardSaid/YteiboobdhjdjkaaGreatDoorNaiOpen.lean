import Derived.Test.YteiboobdhjdjkaaGreatDoorNaiFix
import Derived.Test.YteiboobdhjdjkaaGreatDoorParO
import Derived.Test.YteiboobdhjdjkaaGreatDoorCapShelf
namespace Go.Proofs.YteiboobdhjdjkaaGreatDoor.Nai
open Go.ChangeShapes Go.WideShapes Go.ChangeAt Go.RowKit
theorem gPowT : (Tryz.prog.globals[3]?).map (·.type) = some 290 := by kernel_rfl
theorem cellsU64 : Tryz.prog.cellsOf 64 = 1 := by kernel_rfl
theorem cellsPow : Tryz.prog.cellsOf 290 = 20 := by kernel_rfl
theorem pow_of {w : World} (h : laidMetH Tryz.prog laid6 w) : Cap.PowOk w := by
 have h1 : laidMetH Tryz.prog [("internal/strconv.uint64pow10", (Rows.laid_internal_strconv_uint64pow10 : DataW Unit))] w := h.filter (fun x => x.1 == "internal/strconv.uint64pow10")
 exact Lib.tabIs_of_head (rest := []) Cap.gPow gPowT Tryz.underlying290 Tryz.underlying64 cellsU64 cellsPow h1
theorem fixed_laid {W : World} (hL : laidMetH Tryz.prog laid6 W) (u : World) (hb : Below W.heap.size W u) : Calls Tryz.prog 14 #[] u fun e w' => e = .returned (.bool true) ∧ Below u.heap.size u w' :=
 fixed_any pkit Cap.lib_ok u ((tab_of hL).call hb) ((pow_of hL).call hb)
theorem i64_bd {n : Int} (h : (Lit.int .i64 n).wf = true) : n ≤ 9223372036854775807 ∧ -9223372036854775808 ≤ n := by
 simp [Lit.wf, IntKind.min, IntKind.max, IntKind.signed, IntKind.bits] at h
 omega
end Go.Proofs.YteiboobdhjdjkaaGreatDoor.Nai
