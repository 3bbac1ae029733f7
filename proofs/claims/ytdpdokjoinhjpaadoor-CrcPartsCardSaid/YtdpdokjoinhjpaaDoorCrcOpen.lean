/-
  How the table of package crc reads as the rows list it; bounds of the arguments; a world for the witnesses.
-/
import Derived.Test.YtdpdokjoinhjpaaDoorCrcFixed
import Derived.Test.YtdpdokjoinhjpaaDoorCrcShelf
import Derived.Test.YtdpdokjoinhjpaaDoorRows
import Derived.ProofKit
import Derived.OpenShut
import Derived.Deep.DeepHandedRow
import Derived.Lib.LaidTab
namespace Go.Proofs.YtdpdokjoinhjpaaDoor
open Go.ChangeShapes Go.WideShapes Go.ChangeAt Go.RowKit

theorem byte_bd {n : Int} (h : (Lit.int .u8 n).wf = true) : ∃ k : Nat, n = k ∧ k < 256 := by
  simp [Lit.wf, IntKind.min, IntKind.max, IntKind.signed, IntKind.bits] at h
  exact ⟨n.toNat, by omega, by omega⟩
theorem u32_bd {n : Int} (h : (Lit.int .u32 n).wf = true) : ∃ k : Nat, n = k ∧ k < 4294967296 := by
  simp [Lit.wf, IntKind.min, IntKind.max, IntKind.signed, IntKind.bits] at h
  exact ⟨n.toNat, by omega, by omega⟩

theorem own : ownKnob Tryd.prog.godebug = none := by kernel_rfl
theorem cellsU32 : Tryd.prog.cellsOf 22 = 1 := by kernel_rfl
theorem gTab : Tryd.prog.globalNamed "clew/crc.halves" = some 0 := by kernel_rfl
theorem gTabType : (Tryd.prog.globals[0]?).map (·.type) = some 38 := by kernel_rfl
theorem cellsTab : Tryd.prog.cellsOf 38 = 16 := by kernel_rfl

/-- The table's numbers. -/
def tabZ : List Int := [0, 8801531, 9098509, 825846, 9692897, 1419802, 1651692, 10452759, 10584377, 2608578, 2839604, 11344079, 3303384, 11807523, 12104405, 4128302]

theorem tab_of {w : World} (h : laidMetH Tryd.prog [("clew/crc.halves", Rows.laid_clew_crc_halves)] w) : TabC w := by
  have ht : Lib.TabIs Tryd.prog w "clew/crc.halves" .u32 tabZ := Lib.tabIs_of_head (rest := []) gTab gTabType Tryd.underlying38 Tryd.underlying22 cellsU32 cellsTab h
  refine ⟨clone_ok, fun j hj => ?_⟩
  have e : tabZ.getD j 0 = ((tabN.getD j 0 : Nat) : Int) := (show ∀ j, j < 16 → tabZ.getD j 0 = ((tabN.getD j 0 : Nat) : Int) by decide +kernel) j hj
  have hc := ht.cell gTab j hj
  rw [hc, ← e]

/-- A world for the witness: the settled one, the table holding what its initialiser lays. -/
noncomputable def laidWorld (os : Os) : World :=
  { World.holding Tryd.prog os ⟨#[], #[], []⟩ with heap := (World.holding Tryd.prog os ⟨#[], #[], []⟩).heap.modify 0 fun
      | .cells _ t frozen => .cells (tabZ.map (Value.int .u32)).toArray t frozen
      | o => o }
end Go.Proofs.YtdpdokjoinhjpaaDoor
