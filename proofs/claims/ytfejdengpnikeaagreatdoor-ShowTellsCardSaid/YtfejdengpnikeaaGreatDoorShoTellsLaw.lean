/-
  Layer 8: the walk of the statement ShowTells.
-/
import Derived.Test.YtfejdengpnikeaaGreatDoorShoRefF
namespace Go.Proofs.YtfejdengpnikeaaGreatDoor
open Go.RowKit
open Ast (Nd ndV Nodes TreeBox rightZ)

section
variable {ops : Array Oper} {R : World → Prop} {a : Act} {o : Oper} {x y : Operand}
theorem loadT8_y (g : Nat) (A : Option Addr) (n cap : Nat) (hR : ∀ u, R u → TreeBox u g A n cap) (ho : o.op = .load 24 x) (hx : a.eval x = .pointer (some ⟨g, 0, none⟩)) (hw : Region.wanted o (yielded ops a.tmps) = true) : YieldsIf Tryz.prog ops R o (.agg #[.slice A n cap]) a := by
  refine Or.inl ⟨hw, fun u h => ?_⟩
  have hc := (hR u h).cell
  unfold execOp
  simp only [ho, hx]
  simp [go_sem, hc]
theorem loadS8_y {g : Nat} (S : BitVec 256) (hR : ∀ u, R u → Box u g S) (ho : o.op = .load 28 x) (hx : a.eval x = .pointer (some ⟨g, 0, none⟩)) (hw : Region.wanted o (yielded ops a.tmps) = true) : YieldsIf Tryz.prog ops R o (setV S) a := by
  refine Or.inl ⟨hw, fun u h => ?_⟩
  obtain ⟨z0, z1, z2, z3⟩ := (hR u h).cells
  unfold execOp
  simp only [ho, hx]
  simp [go_sem, z0, z1, z2, z3]
theorem loadW8_y {g : Nat} (S : BitVec 256) (hR : ∀ u, R u → Box u g S) (ho : o.op = .load 26 x) (hx : a.eval x = .pointer (some ⟨g, 0, none⟩)) (hw : Region.wanted o (yielded ops a.tmps) = true) : YieldsIf Tryz.prog ops R o (setV S) a := by
  refine Or.inl ⟨hw, fun u h => ?_⟩
  obtain ⟨z0, z1, z2, z3⟩ := (hR u h).cells
  unfold execOp
  simp only [ho, hx]
  simp [go_sem, z0, z1, z2, z3]
theorem eqS8_y (s : ByteArray) (ho : o.op = .binOp .eql 9 x y 9) (hx : a.eval x = .string s) (hy : a.eval y = .string s) (hw : Region.wanted o (yielded ops a.tmps) = true) : YieldsIf Tryz.prog ops R o (.bool true) a := by
  refine Or.inl ⟨hw, fun w _ => ?_⟩
  unfold execOp
  simp only [ho, hx, hy]
  simp [go_sem]
end
set_option maxRecDepth 100000 in
set_option maxHeartbeats 16000000 in
theorem showTells_any (K : SortK) (A : Option Addr) (n0 cap : Nat) (l : Nat → Nd) (S : BitVec 256) (w : World) (hc : n0 ≤ cap) (hcap : cap ≤ 9223372036854775807) (h0 : A = none → n0 = 0 ∧ cap = 0) (hl : Nodes w A n0 l) (hW : ∀ i, i < n0 → Wds (l i)) (hw : TP w) :
    Calls Tryz.prog 3 #[.agg #[.slice A n0 cap], setV S] w fun e w' => e = .returned (.bool true) ∧ Below w.heap.size w w' := by
  have HCut := Lib.hid (fun w => Ast.cut_any A n0 cap 60 w hc hcap h0 (by decide))
  have HF := Lib.hid (fun w h => fixed_any K w h)
  obtain ⟨n, hn⟩ : ∃ n, n = min n0 60 := ⟨_, rfl⟩
  rw [← hn] at HCut
  have hn60 : n ≤ 60 := by omega
  have HN0 : Nodes w A n l := fun i hi => hl i (by omega)
  have hL : LitOkS l n := fun i hi _ => words_of (hW i (by omega))
  have HT := Lib.hid hw
  have HN := Lib.hid HN0
  have HSh := Lib.hid (fun w h (t : TP w) => show_any K.1 K.2 A n cap l w (by omega) h hL like_backs t.1 t.2)
  have HRf := Lib.hid (fun w h => Ast.ref_any A n cap l w (by omega) h)
  have HTr := Lib.hid (fun A' cap' w h => tree8_any A' n cap' l w (by omega) hL h)
  have HS := Lib.hid (fun w (t : TP w) => set_any S w t.1)
  have HR := Lib.hid (fun w => rset8_any S w)
  generalize (if rightZ l n = 0 then showT l n else ByteArray.empty) = s at HSh HTr
  generalize setP S = z at HS HR
  have HY0 := Box.new (w.alloc (.cells #[.slice A n0 cap] 24)) S
  rw [World.size_alloc] at HY0
  have HX0 : TreeBox ((w.alloc (.cells #[.slice A n0 cap] 24)).alloc (.cells #[.int .u64 (W S 0 : Int), .int .u64 (W S 1 : Int), .int .u64 (W S 2 : Int), .int .u64 (W S 3 : Int)] 28)) w.heap.size A n0 cap := TreeBox.to (TreeBox.new w A n0 cap) ((Below.refl _ _).alloc (Nat.le_refl _) _) (by simp)
  have HB0 : Below w.heap.size w ((w.alloc (.cells #[.slice A n0 cap] 24)).alloc (.cells #[.int .u64 (W S 0 : Int), .int .u64 (W S 1 : Int), .int .u64 (W S 2 : Int), .int .u64 (W S 3 : Int)] 28)) := by go_grown
  have HY := Lib.hid HY0
  have HX := Lib.hid HX0
  have HB := Lib.hid HB0
  clear hw hc hcap h0 hl hW HN0 hn hL HY0 HX0 HB0
  go_enter Tryz.func3, Tryz.ntmps3
  go_wp2_with fail
  refine (HCut.out _).mono ?_
  rintro e w1 ⟨rfl, hb⟩
  replace HX := Lib.hid (TreeBox.to HX.out hb HX.out.lt)
  replace HY := Lib.hid (HY.out.call hb)
  replace HB := Lib.hid (thenB HB.out hb HB.out.size)
  clear hb
  go_wp2_with (refine putTree rfl _ _ rfl w.heap.size _ A n cap rfl rfl HX.out ?_; intro w2 hx hbl ho; refine StopS.out ?_)
  refine ⟨?_⟩
  replace HB := Lib.hid (HB.out.trans (hbl.out _ (Nat.le_refl _)))
  replace HX := Lib.hid hx.out
  have HY2 : Box w2 (w.heap.size + 1) S := (ho.out _ (by omega)).trans HY.out
  have HYl : w.heap.size + 1 < w2.heap.size := by
    obtain ⟨z0, -⟩ := HY2.cells
    exact block_lt_of_cell z0
  replace HY := Lib.hid HY2
  clear hx hbl ho HY2
  have hXl := HX.out.lt
  go_wp2_with fail
  refine wp_region_held_drew (S := fun u => Below w2.heap.size w2 u) (by kernel_rfl) (show _ from (Below.refl _ w2).drew) (fun hS => ?_)
  generalize World.drew w2 = u0 at hS ⊢
  refine takeAt 0 7 (.agg #[.slice A n cap]) rfl rfl (by kernel_rfl) (by kernel_rfl) (by kernel_rfl) (fun _ _ _ h => h) (loadT8_y w.heap.size A n cap (fun u h => TreeBox.to HX.out h hXl) rfl rfl (by rfl)) hS ?_
  simp only [Act.put, List.setIfInBounds_toArray, List.set_cons_zero, List.set_cons_succ]
  refine takeAt 2 9 (.agg #[.slice A n cap]) rfl rfl (by kernel_rfl) (by kernel_rfl) (by kernel_rfl) (fun _ _ _ h => h) (loadT8_y w.heap.size A n cap (fun u h => TreeBox.to HX.out h hXl) rfl rfl (by rfl)) hS ?_
  simp only [Act.put, List.setIfInBounds_toArray, List.set_cons_zero, List.set_cons_succ]
  refine callAt 1 8 rfl rfl (by kernel_rfl) (by rfl) (by kernel_rfl) (HSh.out _ (HN.out.below (HB.out.trans (hS.mono HB.out.size)) (Nat.le_refl _)) (HT.out.call (HB.out.trans (hS.mono HB.out.size)))) ?_
  rintro e v1 ⟨rfl, hb⟩
  have hS := thenB hS hb hS.size
  refine ⟨_, rfl, hS, ?_⟩
  simp only [Act.put, List.setIfInBounds_toArray, List.set_cons_zero, List.set_cons_succ]
  clear hb
  refine callAt 3 10 rfl rfl (by kernel_rfl) (by rfl) (by kernel_rfl) (HRf.out _ (HN.out.below (HB.out.trans (hS.mono HB.out.size)) (Nat.le_refl _))) ?_
  rintro e v2 ⟨A2, cap2, rfl, hN2, hb⟩
  have hS := thenB hS hb hS.size
  refine ⟨_, rfl, hS, ?_⟩
  simp only [Act.put, List.setIfInBounds_toArray, List.set_cons_zero, List.set_cons_succ]
  clear hb
  refine callAt 4 11 rfl rfl (by kernel_rfl) (by rfl) (by kernel_rfl) (HTr.out A2 cap2 _ hN2) ?_
  rintro e v3 ⟨rfl, hb⟩
  have hS := thenB hS hb hS.size
  refine ⟨_, rfl, hS, ?_⟩
  simp only [Act.put, List.setIfInBounds_toArray, List.set_cons_zero, List.set_cons_succ]
  clear hb
  refine takeAt 5 12 (.bool true) rfl rfl (by kernel_rfl) (by kernel_rfl) (by kernel_rfl) (fun _ _ _ h => h) (eqS8_y s rfl rfl rfl (by rfl)) hS ?_
  simp only [Act.put, List.setIfInBounds_toArray, List.set_cons_zero, List.set_cons_succ]
  refine takeAt 6 13 (.bool true) rfl rfl (by kernel_rfl) (by kernel_rfl) (by kernel_rfl) (fun _ _ _ h => h) (yields (by rfl) (fun w => by kernel_rfl)) hS ?_
  simp only [Act.put, List.setIfInBounds_toArray, List.set_cons_zero, List.set_cons_succ]
  refine takeAt 7 14 (setV S) rfl rfl (by kernel_rfl) (by kernel_rfl) (by kernel_rfl) (fun _ _ _ h => h) (loadS8_y S (fun u h => (h.block _ HYl).trans HY.out) rfl rfl (by rfl)) hS ?_
  simp only [Act.put, List.setIfInBounds_toArray, List.set_cons_zero, List.set_cons_succ]
  refine takeAt 9 16 (.pointer (some ⟨w.heap.size + 1, 0, none⟩)) rfl rfl (by kernel_rfl) (by kernel_rfl) (by kernel_rfl) (fun _ _ _ h => h) (yields (by rfl) (fun w => by kernel_rfl)) hS ?_
  simp only [Act.put, List.setIfInBounds_toArray, List.set_cons_zero, List.set_cons_succ]
  refine takeAt 10 17 (setV S) rfl rfl (by kernel_rfl) (by kernel_rfl) (by kernel_rfl) (fun _ _ _ h => h) (loadW8_y S (fun u h => (h.block _ HYl).trans HY.out) rfl rfl (by rfl)) hS ?_
  simp only [Act.put, List.setIfInBounds_toArray, List.set_cons_zero, List.set_cons_succ]
  refine callAt 8 15 rfl rfl (by kernel_rfl) (by rfl) (by kernel_rfl) (HS.out _ (HT.out.call (HB.out.trans (hS.mono HB.out.size)))) ?_
  rintro e v4 ⟨rfl, hb⟩
  have hS := thenB hS hb hS.size
  refine ⟨_, rfl, hS, ?_⟩
  simp only [Act.put, List.setIfInBounds_toArray, List.set_cons_zero, List.set_cons_succ]
  clear hb
  refine callAt 11 18 rfl rfl (by kernel_rfl) (by rfl) (by kernel_rfl) (HR.out _) ?_
  rintro e v5 ⟨rfl, hb⟩
  have hS := thenB hS hb hS.size
  refine ⟨_, rfl, hS, ?_⟩
  simp only [Act.put, List.setIfInBounds_toArray, List.set_cons_zero, List.set_cons_succ]
  clear hb
  refine takeAt 12 19 (.bool true) rfl rfl (by kernel_rfl) (by kernel_rfl) (by kernel_rfl) (fun _ _ _ h => h) (eqS8_y z rfl rfl rfl (by rfl)) hS ?_
  simp only [Act.put, List.setIfInBounds_toArray, List.set_cons_zero, List.set_cons_succ]
  refine takeAt 13 20 (.bool true) rfl rfl (by kernel_rfl) (by kernel_rfl) (by kernel_rfl) (fun _ _ _ h => h) (yields (by rfl) (fun w => by kernel_rfl)) hS ?_
  simp only [Act.put, List.setIfInBounds_toArray, List.set_cons_zero, List.set_cons_succ]
  refine takeAt 14 21 (.bool true) rfl rfl (by kernel_rfl) (by kernel_rfl) (by kernel_rfl) (fun _ _ _ h => h) (yields (by rfl) (fun w => by kernel_rfl)) hS ?_
  simp only [Act.put, List.setIfInBounds_toArray, List.set_cons_zero, List.set_cons_succ]
  refine callAt 15 22 rfl rfl (by kernel_rfl) (by rfl) (by kernel_rfl) (HF.out _ (HT.out.call (HB.out.trans (hS.mono HB.out.size)))) ?_
  rintro e v6 ⟨rfl, hb⟩
  have hS := thenB hS hb hS.size
  refine ⟨_, rfl, hS, ?_⟩
  simp only [Act.put, List.setIfInBounds_toArray, List.set_cons_zero, List.set_cons_succ]
  clear hb
  refine takeAt 16 23 (.bool true) rfl rfl (by kernel_rfl) (by kernel_rfl) (by kernel_rfl) (fun _ _ _ h => h) (yields (by rfl) (fun w => by kernel_rfl)) hS ?_
  simp only [Act.put, List.setIfInBounds_toArray, List.set_cons_zero, List.set_cons_succ]
  refine takeAt 17 4 (.bool true) rfl rfl (by kernel_rfl) (by kernel_rfl) (by kernel_rfl) (fun _ _ _ h => h) (yields (by rfl) (fun w => by kernel_rfl)) hS ?_
  simp only [Act.put, List.setIfInBounds_toArray, List.set_cons_zero, List.set_cons_succ]
  refine wpAnyH_done (by kernel_rfl) ?_ _
  go_wp2_with fail
  go_ret
  exact ⟨rfl, HB.out.trans (hS.mono HB.out.size)⟩
end Go.Proofs.YtfejdengpnikeaaGreatDoor
