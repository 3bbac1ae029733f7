import Derived.Test.YteggpecbeagohaaGreatDoorFrmSt
import Derived.Laws.ResultCell
import Derived.LaidEqlPtr
namespace Go.Proofs.YteggpecbeagohaaGreatDoor.Frm
open Go.RowKit
open Go.Maps (Keyed IsMap Tidy)
theorem resFB {fn : Func} {p q : Tmp} {b : Bool} {f : Fr} {w : World} (h : fn.results = #[.cell p 90, .tmp q]) (tmps : Array Value) {g : Nat} (hp : tmps.getD p undef = ptr g) (hq : tmps.getD q undef = .bool b) (hg : BoxV 90 w g (frC f)) :
  (results fn tmps).run Tryz.prog w = .ok (.tuple #[.agg (frC f), .bool b]) w := by
 rw [results_cell_tmp h, hp, hq]
 have hl := run_loadVar_row (P := Tryz.prog) w g 90 90 (frC f) (0, 0) _ hg Tryz.underlying90 rfl sizeFr
 simp [asAddr, hl, Result.andThen]
end Go.Proofs.YteggpecbeagohaaGreatDoor.Frm
