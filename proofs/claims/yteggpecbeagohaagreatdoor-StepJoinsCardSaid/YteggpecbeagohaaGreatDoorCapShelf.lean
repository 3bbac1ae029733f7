import Derived.Test.YteggpecbeagohaaGreatDoorCapWithM
import Derived.Shelf.Strings.OnBuilder
import Derived.Shelf.Strings.Prefix
import Derived.Shelf.Strconv.Itoa3
import Derived.Shelf.Strconv.Clone
namespace Go.Proofs.YteggpecbeagohaaGreatDoor.Cap
open Go.RowKit
def renP : Shelf.Ren := ⟨fun n => if n = 99 then 71 else 99,
 fun n => if n = 3 then 3 else if n = 4 then 4 else 9,
 fun n => n⟩
theorem prefix_lays : Lays.n99 Tryz.prog renP where
 mixed := by kernel_rfl
 f99 := by kernel_rfl
 f206 := by kernel_rfl
 t3 := by kernel_rfl
 a3 := fun _ => by kernel_rfl
 z3 := fun _ => by kernel_rfl
 v3 := fun _ => by kernel_rfl
 t4 := by kernel_rfl
 a4 := fun _ => by kernel_rfl
 z4 := fun _ => by kernel_rfl
 v4 := fun _ => by kernel_rfl
 t9 := by kernel_rfl
 a9 := fun _ => by kernel_rfl
 z9 := fun _ => by kernel_rfl
 v9 := fun _ => by kernel_rfl
def renC : Shelf.Ren := ⟨fun _ => 40,
 fun n => if n = 0 then 0 else if n = 3 then 3 else if n = 4 then 4 else if n = 5 then 5 else if n = 9 then 9 else if n = 37 then 40 else 134,
 fun n => n⟩
theorem clone_lays : LaysM.n316 Tryz.prog renC where
 mixed := by kernel_rfl
 f316 := by kernel_rfl
 t0 := by kernel_rfl
 a0 := fun _ => by kernel_rfl
 z0 := fun _ => by kernel_rfl
 v0 := fun _ => by kernel_rfl
 t3 := by kernel_rfl
 a3 := fun _ => by kernel_rfl
 z3 := fun _ => by kernel_rfl
 v3 := fun _ => by kernel_rfl
 t4 := by kernel_rfl
 a4 := fun _ => by kernel_rfl
 z4 := fun _ => by kernel_rfl
 v4 := fun _ => by kernel_rfl
 t9 := by kernel_rfl
 a9 := fun _ => by kernel_rfl
 z9 := fun _ => by kernel_rfl
 v9 := fun _ => by kernel_rfl
 t37 := by kernel_rfl
 a37 := fun _ => by kernel_rfl
 z37 := fun _ => by kernel_rfl
 v37 := fun _ => by kernel_rfl
 t127 := by kernel_rfl
 a127 := fun _ => by kernel_rfl
 z127 := fun _ => by kernel_rfl
 v127 := fun _ => by kernel_rfl
 t5 := by kernel_rfl
 a5 := fun _ => by kernel_rfl
 z5 := fun _ => by kernel_rfl
 v5 := fun _ => by kernel_rfl
 i0 := by kernel_rfl
 i3 := by kernel_rfl
 i4 := by kernel_rfl
 i5 := by kernel_rfl
 i9 := by kernel_rfl
 i37 := by kernel_rfl
 i127 := by kernel_rfl
theorem clone_ok : CloneOk := by
 intro s w hlim
 go_enter Tryz.func24, Tryz.ntmps24
 go_wp2_with fail
 refine (Any.stringslite_Clone clone_lays s _ hlim).mono ?_
 rintro e w1 ⟨rfl, hb⟩
 have HB := Lib.hid hb
 clear hb
 go_wp2
 go_ret
 exact ⟨rfl, HB.out⟩
theorem prefix_ok : PrefixOk := by
 intro s p w
 exact Any.strings_HasPrefix prefix_lays s p w
theorem lib_a : LibA := ⟨clone_ok, prefix_ok⟩
end Go.Proofs.YteggpecbeagohaaGreatDoor.Cap
