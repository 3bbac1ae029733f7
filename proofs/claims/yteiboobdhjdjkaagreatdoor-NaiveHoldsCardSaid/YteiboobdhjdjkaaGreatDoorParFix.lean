import Derived.Test.YteiboobdhjdjkaaGreatDoorParBuiltM
import Derived.Test.YteiboobdhjdjkaaGreatDoorAstI
import Derived.Test.YteiboobdhjdjkaaGreatDoorClassMM
namespace Go.Proofs.YteiboobdhjdjkaaGreatDoor
open Go.RowKit
open Ast (Nd ndV joinL wrapL deepZ rightZ Nodes)
theorem parse_at (K : PKit) (p : ByteArray) (n : Nat) (z : Int) (L : Nat → Nd) (h : parseZ p = ((n, L), z)) (w : World) (hw : Tabs w) : Calls Tryz.prog 34 #[.string p] w fun e w' => ∃ B cap, e = .returned (.tuple #[.agg (trC B n cap), .int .i64 z]) ∧ TreeAt w w' B cap (n, L) ∧ Below w.heap.size w w' := by
 have hc := parse_any K p w hw
 unfold GotTree at hc
 rw [h] at hc
 exact hc
end Go.Proofs.YteiboobdhjdjkaaGreatDoor
