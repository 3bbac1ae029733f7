/-
  Layer 10: how the listed tables read, how arguments read behind the call; a world for the witnesses.
-/
import Derived.Test.YtnapbmdbeihngaaDoorCapOpenA
import Derived.Test.YtnapbmdbeihngaaDoorCapShelf
import Derived.Deep.DeepHandedRow
import Derived.Lay
import Derived.LaidSub
import Derived.Lib.LaidTab
namespace Go.Proofs.YtnapbmdbeihngaaDoor
open Go.ChangeShapes Go.WideShapes Go.ChangeAt Go.RowKit

theorem own10 : ownKnob Tryd.prog.godebug = none := by kernel_rfl
theorem gPowT : (Tryd.prog.globals[1]?).map (·.type) = some 89 := by kernel_rfl
theorem cellsU64 : Tryd.prog.cellsOf 82 = 1 := by kernel_rfl
theorem cellsPow : Tryd.prog.cellsOf 89 = 20 := by kernel_rfl
/-- What the statements list. -/
abbrev laid3 : List (String × DataW Unit) := [("math/bits.deBruijn32tab", Rows.laid_math_bits_deBruijn32tab), ("math/bits.deBruijn64tab", Rows.laid_math_bits_deBruijn64tab), ("internal/strconv.uint64pow10", Rows.laid_internal_strconv_uint64pow10)]
/-- A world for the witnesses: all listed variables hold what the program's text lays. -/
noncomputable def laidWorld3 (os : Os) : World := World.laidAll Tryd.prog os laid3
theorem pow_of10 {w : World} (h1 : laidMetH Tryd.prog [("internal/strconv.uint64pow10", (Rows.laid_internal_strconv_uint64pow10 : DataW Unit))] w) : PowOk w :=
  Lib.tabIs_of_head (rest := []) gPow gPowT Tryd.underlying89 Tryd.underlying82 cellsU64 cellsPow h1
theorem pow_of {w : World} (h : laidMetH Tryd.prog laid3 w) : PowOk w := pow_of10 (h.filter (fun x => x.1 == "internal/strconv.uint64pow10"))
section
variable {H : Type} {enc : TypeId × Value → H} {W W' : World} {v : Value} {d : DataW H} {ps : List MemPlace}
theorem againCaps (h : DataW.Trod enc Tryd.prog W 0 (fun _ => true) true 26 v d ps) (hb : Below W.heap.size W W') (hlt : ∀ x ∈ ps, x.block < W.heap.size) : DataW.Trod enc Tryd.prog W' 0 (fun b => decide (b < W.heap.size)) true 26 v d ps := Below.trod (by kernel_rfl) (by kernel_rfl) (of_decide_eq_true (by kernel_rfl)) h hb hlt
theorem againFour (h : DataW.Trod enc Tryd.prog W 0 (fun _ => true) true 27 v d ps) (hb : Below W.heap.size W W') (hlt : ∀ x ∈ ps, x.block < W.heap.size) : DataW.Trod enc Tryd.prog W' 0 (fun b => decide (b < W.heap.size)) true 27 v d ps := Below.trod (by kernel_rfl) (by kernel_rfl) (of_decide_eq_true (by kernel_rfl)) h hb hlt
theorem againThree (h : DataW.Trod enc Tryd.prog W 0 (fun _ => true) true 49 v d ps) (hb : Below W.heap.size W W') (hlt : ∀ x ∈ ps, x.block < W.heap.size) : DataW.Trod enc Tryd.prog W' 0 (fun b => decide (b < W.heap.size)) true 49 v d ps := Below.trod (by kernel_rfl) (by kernel_rfl) (of_decide_eq_true (by kernel_rfl)) h hb hlt
theorem againSix (h : DataW.Trod enc Tryd.prog W 0 (fun _ => true) true 52 v d ps) (hb : Below W.heap.size W W') (hlt : ∀ x ∈ ps, x.block < W.heap.size) : DataW.Trod enc Tryd.prog W' 0 (fun b => decide (b < W.heap.size)) true 52 v d ps := Below.trod (by kernel_rfl) (by kernel_rfl) (of_decide_eq_true (by kernel_rfl)) h hb hlt
theorem againRows (h : DataW.Trod enc Tryd.prog W 0 (fun _ => true) true 48 v d ps) (hb : Below W.heap.size W W') (hlt : ∀ x ∈ ps, x.block < W.heap.size) : DataW.Trod enc Tryd.prog W' 0 (fun b => decide (b < W.heap.size)) true 48 v d ps := Below.trod (by kernel_rfl) (by kernel_rfl) (of_decide_eq_true (by kernel_rfl)) h hb hlt
end
theorem byte_bd {n : Int} (h : (Lit.int .u8 n).wf = true) : ∃ k : Nat, n = k ∧ k < 256 := u8_wf h
end Go.Proofs.YtnapbmdbeihngaaDoor
