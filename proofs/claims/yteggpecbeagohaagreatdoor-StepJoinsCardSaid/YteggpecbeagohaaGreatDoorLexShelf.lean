import Derived.Test.YteggpecbeagohaaGreatDoorLexRuneM
import Derived.Shelf.Strconv.Clone
import Derived.RegionTactic
import Derived.Deep.RegionWith
namespace Go.Proofs.YteggpecbeagohaaGreatDoor
open Go.RowKit
def ren : Shelf.Ren := ⟨fun _ => 40, fun n => if n = 0 then 0 else if n = 3 then 3 else if n = 4 then 4 else if n = 5 then 5 else if n = 9 then 9 else if n = 37 then 40 else 134, fun n => n⟩
theorem clone_lays : LaysM.n316 Tryz.prog ren where
 mixed := by kernel_rfl
 f316 := by kernel_rfl
 t0 := by kernel_rfl
 a0 := fun _ => by kernel_rfl
 z0 := fun _ => by kernel_rfl
 v0 := fun _ => by kernel_rfl
 t3 := by kernel_rfl
 a3 := fun _ => by kernel_rfl
 z3 := fun _ => by kernel_rfl
 v3 := fun _ => by kernel_rfl
 t4 := by kernel_rfl
 a4 := fun _ => by kernel_rfl
 z4 := fun _ => by kernel_rfl
 v4 := fun _ => by kernel_rfl
 t9 := by kernel_rfl
 a9 := fun _ => by kernel_rfl
 z9 := fun _ => by kernel_rfl
 v9 := fun _ => by kernel_rfl
 t37 := by kernel_rfl
 a37 := fun _ => by kernel_rfl
 z37 := fun _ => by kernel_rfl
 v37 := fun _ => by kernel_rfl
 t127 := by kernel_rfl
 a127 := fun _ => by kernel_rfl
 z127 := fun _ => by kernel_rfl
 v127 := fun _ => by kernel_rfl
 t5 := by kernel_rfl
 a5 := fun _ => by kernel_rfl
 z5 := fun _ => by kernel_rfl
 v5 := fun _ => by kernel_rfl
 i0 := by kernel_rfl
 i3 := by kernel_rfl
 i4 := by kernel_rfl
 i5 := by kernel_rfl
 i9 := by kernel_rfl
 i37 := by kernel_rfl
 i127 := by kernel_rfl
theorem clone_ok : CloneOk := by
 intro s w hlim
 go_enter Tryz.func24, Tryz.ntmps24
 go_wp2_with fail
 refine (Any.stringslite_Clone clone_lays s _ hlim).mono ?_
 rintro e w1 ⟨rfl, hb⟩
 have HB := Lib.hid hb
 clear hb
 go_wp2
 go_ret
 exact ⟨rfl, HB.out⟩
theorem slclone (s : ByteArray) (w : World) (hlim : s.size ≤ 281474976710656) : Calls Tryz.prog 40 #[.string s] w fun e w' => e = .returned (.string s) ∧ Below w.heap.size w w' := Any.stringslite_Clone clone_lays s w hlim
set_option maxRecDepth 100000 in
set_option maxHeartbeats 4000000 in
theorem syntaxError_any (fn s : ByteArray) (w : World) (hlim : s.size ≤ 281474976710656) (hw : ErrW w) : Calls Tryz.prog 169 #[.string fn, .string s] w fun e w' => (∃ N, e = .returned (.pointer (some ⟨N, 0, none⟩))) ∧ Below w.heap.size w w' := by
 have hlt := hw.lt
 obtain ⟨te, pe, hv⟩ := hw
 have HS := Lib.hid (fun w => slclone s w hlim)
 go_enter Tryz.func169, Tryz.ntmps169
 go_wp2_with fail
 have hvd : w.drew.cell? ⟨3, 0, none⟩ = some (.iface te pe) := hv
 go_region_with (refine (HS.out _).mono ?_; rintro e w2 ⟨rfl, hb⟩; have hv2 : w2.cell? ⟨3, 0, none⟩ = some (.iface te pe) := (hb.cell (p := ⟨3, 0, none⟩) hlt).trans hv; have HB := Lib.hid hb; clear hb)
 all_goals
  go_wp2_with fail
  go_ret
  exact ⟨⟨_, rfl⟩, ((Below.refl _ w).drew.trans (HB.out.mono (Nat.le_refl _))).alloc HB.out.size _⟩
theorem errs_ok : ErrsOk := by
 intro fn s w hlim hw
 have HS := Lib.hid (fun w h => syntaxError_any fn s w hlim h)
 have HW := Lib.hid hw
 have heq : ∀ W, (binOp .eql 200 (.iface 229 (.int .i64 2)) (.iface 229 (.int .i64 2))).run Tryz.prog W = .ok (.bool true) W := fun W => by kernel_rfl
 clear hw
 go_enter Tryz.func156, Tryz.ntmps156
 go_wp2_with fail
 refine (HS.out _ HW.out).mono ?_
 rintro e w2 ⟨⟨N, rfl⟩, hb⟩
 have HB := Lib.hid hb
 clear hb
 go_wp2_with fail
 go_ret
 exact ⟨⟨N, rfl⟩, HB.out⟩
end Go.Proofs.YteggpecbeagohaaGreatDoor
