/-
  FacFixA, FacOut, FacFix
-/
import Derived.Test.YtkpijnodhlonfaaGreatDoorFacB
import Derived.Test.YtkpijnodhlonfaaGreatDoorParFix
import Derived.Test.YtkpijnodhlonfaaGreatDoorFacA
import Derived.Test.YtkpijnodhlonfaaGreatDoorLexKitM
import Derived.Test.YtkpijnodhlonfaaGreatDoorClassM
import Derived.Test.YtkpijnodhlonfaaGreatDoorLexEval
namespace Go.Proofs.YtkpijnodhlonfaaGreatDoor
open Go.RowKit
open Ast (Nd Nodes rightZ)

theorem resFc {fn : Func} {p : Tmp} (h : fn.results = #[.cell p 31]) (tmps : Array Value) {w : World} {g : Nat} {k : FK} (hp : tmps.getD p undef = .pointer (some ⟨g, 0, none⟩)) (hg : BoxF w g k) :
    (results fn tmps).run Tryz.prog w = .ok (.agg (facC k)) w := results_cell_row h tmps w g _ _ _ _ hp hg Tryz.underlying31 rfl sizeFc
set_option maxRecDepth 20000 in
set_option maxHeartbeats 8000000 in
theorem ofp_any (K : PKit) (p : ByteArray) (n : Nat) (L : Nat → Nd) (k : FK) (hp : parseZ p = ((n, L), 0)) (hn : n ≤ 1000) (hr : rightZ L n = 0) (hk : facC (factZ L n) = facC k) (hL : LitOk9 L n) (w : World) (hw : Tabs w) :
    Calls Tryz.prog 30 #[.string p] w fun e w' => e = .returned (.agg (facC k)) ∧ Below w.heap.size w w' := by
  have HP := Lib.hid (fun u h => parse_at K p n 0 L hp u h)
  have HO := Lib.hid (fun B cap u h t => of9_any K.sort K.none B n cap L u (by omega) h hL t)
  have e1 : ofV L n = .tuple #[.agg (facC k), .int .i64 0] := by
    unfold ofV
    rw [hr, if_pos rfl, hk]
  rw [e1] at HO
  have HT := Lib.hid hw
  have HX := Lib.hid (show BoxF (w.alloc (.cells (facC zrK) 31)) w.heap.size zrK from BoxV.new _ _)
  rw [zrF] at HX
  clear hw hp hr hk hL e1
  go_enter Tryz.func30, Tryz.ntmps30
  go_wp2_with fail
  refine (HP.out _ (HT.out.call (by go_grown))).mono ?_
  rintro e w1 ⟨B, cap, rfl, hT, hb⟩
  have HX1 := Lib.hid (HX.out.below hb HX.out.lt)
  have HB1 := Lib.hid (show Below w.heap.size w w1 from (show Below w.heap.size w _ by go_grown).trans (hb.mono (by simp)))
  have HN := Lib.hid hT.nodes
  clear hb hT HX
  go_wp2_with fail
  refine (HO.out _ _ _ (HN.out.alloc _) (HT.out.call (HB1.out.trans ((Below.refl _ w1).alloc HB1.out.size _))).tab).mono ?_
  rintro e w2 ⟨rfl, hb⟩
  have hbx : Below w1.heap.size w1 (w1.alloc (.cells (trC B n cap) 24)) := (Below.refl _ w1).alloc (Nat.le_refl _) _
  have HX2 := Lib.hid ((HX1.out.below hbx HX1.out.lt).below hb (HX1.out.below hbx HX1.out.lt).lt)
  have HB2 := Lib.hid ((HB1.out.trans (hbx.mono HB1.out.size)).trans (hb.mono (Nat.le_trans HB1.out.size hbx.size)))
  clear hb hbx HX1 HB1
  go_wp2_with (refine storeFc rfl _ _ rfl w.heap.size k _ rfl rfl (by rfl) (HX2.out.alloc _) ?_; intro u9 hx9 hB9 _; refine StopS.out ?_)
  refine ⟨?_⟩
  go_wp2
  refine bodyPost_ret (resFc (p := 2) rfl _ (g := w.heap.size) rfl hx9.out) rfl ⟨rfl, ?_⟩
  exact (HB2.out.alloc HB2.out.size _).trans (hB9.out _ (Nat.le_refl _))
end Go.Proofs.YtkpijnodhlonfaaGreatDoor

namespace Go.Proofs.YtkpijnodhlonfaaGreatDoor
open Go.RowKit

/-- Is there no match at a place, as far as is known? -/
def outZ (k : FK) (s : ByteArray) (at_ : Int) : Bool :=
  decide (0 ≤ at_ ∧ at_ ≤ (s.size : Int)) && (!k.op && !mem k.F (bt s at_.toNat) || (k.fa && decide (0 < at_) || !startB s at_.toNat k.pr))
theorem rest_list (s : ByteArray) (a : Nat) : (s.extract a s.size).data.toList = s.data.toList.drop a := by
  have h : s.data.toList.length = s.size := by cases s; rfl
  rw [ByteArray.data_extract, Array.toList_extract, List.extract_eq_take_drop, List.take_of_length_le (by rw [List.length_drop]; omega)]
theorem rest_size (s : ByteArray) (a : Nat) (_h : a ≤ s.size) : (s.extract a s.size).size = s.size - a := by rw [ByteArray.size_extract]; omega
theorem rest_start {s : ByteArray} {a : Nat} (h : a ≤ s.size) (p : ByteArray) : startB (s.extract a s.size) 0 p = startB s a p := by
  rw [start_head _ _ _ (Nat.zero_le _), start_head _ _ _ h, head_list, head_list, rest_list, List.drop_zero]
theorem rest_bt {s : ByteArray} {a : Nat} (h : a < s.size) : bt (s.extract a s.size) 0 = bt s a := by
  have h1 := bt_list (s.extract a s.size) 0
  have h2 := bt_list s a
  have hz : 0 < (s.extract a s.size).size := by rw [rest_size s a (by omega)]; omega
  rw [dif_pos hz, rest_list, List.getElem?_drop, Nat.add_zero, h2, dif_pos h] at h1
  rw [bt_at hz, bt_at h]
  exact (congrArg UInt8.toNat (Option.some.inj h1)).symm
theorem mem_no (S : BitVec 256) : mem S 256 = false := by unfold mem; simp
section
variable {ops : Array Oper} {R : World → Prop} {a : Act} {o : Oper} {x y : Operand}
theorem eqE9_y (s : ByteArray) (b : Bool) (hb : decide (s.size = 0) = b) (ho : o.op = .binOp .eql 9 x (.const (.string ⟨#[]⟩)) 9) (hx : a.eval x = .string s) (hw : Region.wanted o (yielded ops a.tmps) = true) : YieldsIf Tryz.prog ops R o (.bool b) a := by
  subst hb
  refine Or.inl ⟨hw, fun u _ => ?_⟩
  have q : s.toList.isEmpty = decide (s.size = 0) := by
    by_cases h : s.size = 0
    · rw [(toList_size s).2 h, h]; rfl
    · rw [decide_eq_false h]
      cases h2 : s.toList with
      | nil => exact absurd ((toList_size s).1 h2) h
      | cons _ _ => rfl
  generalize decide (s.size = 0) = d at q ⊢
  unfold execOp
  simp only [ho, hx]
  simp [go_sem, q]
theorem idxE9_y (s : ByteArray) (h : 0 < s.size) (ho : o.op = .index 9 x (.const (.int .i64 0))) (hx : a.eval x = .string s) (hw : Region.wanted o (yielded ops a.tmps) = true) : YieldsIf Tryz.prog ops R o (.int .u8 (bt s 0 : Nat)) a := by
  refine Or.inl ⟨hw, fun u _ => ?_⟩
  have e := bt_at h
  unfold execOp
  simp only [ho, hx]
  rw [e]
  simp [go_sem, h]
theorem loadSF_y (g : Nat) (k : FK) (hR : ∀ u, R u → BoxF u g k) (ho : o.op = .load 29 x) (hx : a.eval x = .pointer (some ⟨g, 0, none⟩)) (hw : Region.wanted o (yielded ops a.tmps) = true) : YieldsIf Tryz.prog ops R o (setV k.F) a := by
  refine Or.inl ⟨hw, fun u h => ?_⟩
  have c0 : u.cell? ⟨g, 0, none⟩ = some (.int .u64 (W k.F 0 : Nat)) := BoxV.get (hR u h) 0 rfl
  have c1 : u.cell? ⟨g, 1, none⟩ = some (.int .u64 (W k.F 1 : Nat)) := BoxV.get (hR u h) 1 rfl
  have c2 : u.cell? ⟨g, 2, none⟩ = some (.int .u64 (W k.F 2 : Nat)) := BoxV.get (hR u h) 2 rfl
  have c3 : u.cell? ⟨g, 3, none⟩ = some (.int .u64 (W k.F 3 : Nat)) := BoxV.get (hR u h) 3 rfl
  unfold execOp
  simp only [ho, hx]
  simp [go_sem, c0, c1, c2, c3]
end
theorem BoxF.c5 {w : World} {g : Nat} {k : FK} (h : BoxF w g k) : w.cell? ⟨g, 5, none⟩ = some (.bool k.fa) := BoxV.get h 5 rfl
theorem BoxF.c6 {w : World} {g : Nat} {k : FK} (h : BoxF w g k) : w.cell? ⟨g, 6, none⟩ = some (.string k.pr) := BoxV.get h 6 rfl
theorem prefix9_any (s h : ByteArray) (w : World) : Calls Tryz.prog 33 #[.string s, .string h] w fun e w' => e = .returned (.bool (startB s 0 h)) ∧ w = w' := by
  go_enter Tryz.func33, Tryz.ntmps33
  go_wp2_with fail
  refine (slHasPrefix_any s h _).mono ?_
  rintro e w1 ⟨rfl, rfl⟩
  go_wp2_with fail
  go_ret
  exact ⟨rfl, rfl⟩
set_option maxRecDepth 20000 in
set_option maxHeartbeats 8000000 in
theorem out_low (F : BitVec 256) (op fa : Bool) (pr s : ByteArray) (z : Int) (hz : z < 0) (w : World) (_hs : s.size ≤ 1000000) :
    Calls Tryz.prog 15 #[.agg (facC ⟨F, op, fa, pr, false⟩), .string s, .int .i64 z] w fun e w' => e = .returned (.bool (false)) ∧ Below w.heap.size w w' := by
  go_enter Tryz.func15, Tryz.ntmps15
  go_wp2
  go_ret
  exact ⟨rfl, by go_grown⟩
set_option maxRecDepth 20000 in
set_option maxHeartbeats 8000000 in
theorem out_high (F : BitVec 256) (op fa : Bool) (pr s : ByteArray) (z : Int) (hz : ¬ z < 0) (hz2 : (s.size : Int) < z) (w : World) (_hs : s.size ≤ 1000000) :
    Calls Tryz.prog 15 #[.agg (facC ⟨F, op, fa, pr, false⟩), .string s, .int .i64 z] w fun e w' => e = .returned (.bool (false)) ∧ Below w.heap.size w w' := by
  go_enter Tryz.func15, Tryz.ntmps15
  go_wp2
  go_ret
  exact ⟨rfl, by go_grown⟩
set_option maxRecDepth 20000 in
set_option maxHeartbeats 8000000 in
theorem out_end (F : BitVec 256) (fa : Bool) (pr s : ByteArray) (a : Nat) (ha : a ≤ s.size) (h1 : a = s.size) (w : World) (_hs : s.size ≤ 1000000) :
    Calls Tryz.prog 15 #[.agg (facC ⟨F, false, fa, pr, false⟩), .string s, .int .i64 (a : Int)] w fun e w' => e = .returned (.bool (true)) ∧ Below w.heap.size w w' := by
  have HX := Lib.hid (show BoxF (w.alloc (.cells (facC ⟨F, false, fa, pr, false⟩) 31)) w.heap.size ⟨F, false, fa, pr, false⟩ from BoxV.new _ _)
  have HB := Lib.hid (show Below w.heap.size w (w.alloc (.cells (facC ⟨F, false, fa, pr, false⟩) 31)) by go_grown)
  have z0 : ¬ (a : Int) < 0 := by omega
  have z1 : ¬ (s.size : Int) < (a : Int) := by omega
  have z2 : (0 : Int) ≤ (a : Int) := by omega
  have z3 : (a : Int) ≤ (s.size : Int) := by omega
  have hE : s.extract (a : Int).toNat s.size = s.extract a s.size := by rw [Int.toNat_natCast]
  obtain ⟨r, hr⟩ : ∃ r, r = s.extract a s.size := ⟨_, rfl⟩
  have hrs : r.size = s.size - a := by rw [hr]; exact rest_size s a ha
  have HE := Lib.hid hr
  have hrz : decide (r.size = 0) = true := decide_eq_true (by omega)
  clear hr hrs ha h1
  go_enter Tryz.func15, Tryz.ntmps15
  go_wp2_with fail
  try rw [hE]
  rw [← HE.out]
  refine wp_region_held_drew (S := fun u => Below w.heap.size w u ∧ BoxF u w.heap.size ⟨F, false, fa, pr, false⟩) (by kernel_rfl) (show _ from ⟨HB.out.trans ((Below.refl _ _).drew.mono HB.out.size), HX.out.drew⟩) (fun hS => ?_)
  clear HX HB
  generalize World.drew _ = v0 at hS ⊢
  refine takeAt 0 25 (.pointer (some ⟨w.heap.size, 4, none⟩)) rfl rfl (by kernel_rfl) (by kernel_rfl) (by kernel_rfl) (fun _ _ _ h => h) (yields (by rfl) (fun w => by kernel_rfl)) hS ?_
  simp only [Act.put, List.setIfInBounds_toArray, List.set_cons_zero, List.set_cons_succ]
  refine takeAt 1 26 (.bool false) rfl rfl (by kernel_rfl) (by kernel_rfl) (by kernel_rfl) (fun _ _ _ h => h) (loadB9_y w.heap.size 4 false (fun _ h => h.2.get 4 rfl) rfl rfl (by rfl)) hS ?_
  simp only [Act.put, List.setIfInBounds_toArray, List.set_cons_zero, List.set_cons_succ]
  refine takeAt 2 27 (.bool true) rfl rfl (by kernel_rfl) (by kernel_rfl) (by kernel_rfl) (fun _ _ _ h => h) (yields (by rfl) (fun w => by kernel_rfl)) hS ?_
  simp only [Act.put, List.setIfInBounds_toArray, List.set_cons_zero, List.set_cons_succ]
  refine takeAt 3 28 (.bool true) rfl rfl (by kernel_rfl) (by kernel_rfl) (by kernel_rfl) (fun _ _ _ h => h) (yields (by rfl) (fun w => by kernel_rfl)) hS ?_
  simp only [Act.put, List.setIfInBounds_toArray, List.set_cons_zero, List.set_cons_succ]
  refine takeAt 4 29 (.string r) rfl rfl (by kernel_rfl) (by kernel_rfl) (by kernel_rfl) (fun _ _ _ h => h) (yields (by rfl) (fun w => by kernel_rfl)) hS ?_
  simp only [Act.put, List.setIfInBounds_toArray, List.set_cons_zero, List.set_cons_succ]
  refine takeAt 5 30 (.bool true) rfl rfl (by kernel_rfl) (by kernel_rfl) (by kernel_rfl) (fun _ _ _ h => h) (eqE9_y r true (by rw [hrz]) rfl rfl (by rfl)) hS ?_
  simp only [Act.put, List.setIfInBounds_toArray, List.set_cons_zero, List.set_cons_succ]
  refine takeAt 6 31 (.bool true) rfl rfl (by kernel_rfl) (by kernel_rfl) (by kernel_rfl) (fun _ _ _ h => h) (yields (by rfl) (fun w => by kernel_rfl)) hS ?_
  simp only [Act.put, List.setIfInBounds_toArray, List.set_cons_zero, List.set_cons_succ]
  refine takeAt 7 32 (undef) rfl rfl (by kernel_rfl) (by kernel_rfl) (by kernel_rfl) (fun _ _ _ h => h) (skipped (by rfl)) hS ?_
  simp only [Act.put, List.setIfInBounds_toArray, List.set_cons_zero, List.set_cons_succ]
  refine takeAt 8 33 (undef) rfl rfl (by kernel_rfl) (by kernel_rfl) (by kernel_rfl) (fun _ _ _ h => h) (skipped (by rfl)) hS ?_
  simp only [Act.put, List.setIfInBounds_toArray, List.set_cons_zero, List.set_cons_succ]
  refine takeAt 9 34 (undef) rfl rfl (by kernel_rfl) (by kernel_rfl) (by kernel_rfl) (fun _ _ _ h => h) (skipped (by rfl)) hS ?_
  simp only [Act.put, List.setIfInBounds_toArray, List.set_cons_zero, List.set_cons_succ]
  refine takeAt 10 35 (undef) rfl rfl (by kernel_rfl) (by kernel_rfl) (by kernel_rfl) (fun _ _ _ h => h) (skipped (by rfl)) hS ?_
  simp only [Act.put, List.setIfInBounds_toArray, List.set_cons_zero, List.set_cons_succ]
  refine takeAt 11 36 (undef) rfl rfl (by kernel_rfl) (by kernel_rfl) (by kernel_rfl) (fun _ _ _ h => h) (skipped (by rfl)) hS ?_
  simp only [Act.put, List.setIfInBounds_toArray, List.set_cons_zero, List.set_cons_succ]
  refine takeAt 12 37 (undef) rfl rfl (by kernel_rfl) (by kernel_rfl) (by kernel_rfl) (fun _ _ _ h => h) (skipped (by rfl)) hS ?_
  simp only [Act.put, List.setIfInBounds_toArray, List.set_cons_zero, List.set_cons_succ]
  refine takeAt 13 38 (.bool true) rfl rfl (by kernel_rfl) (by kernel_rfl) (by kernel_rfl) (fun _ _ _ h => h) (yields (by rfl) (fun w => by kernel_rfl)) hS ?_
  simp only [Act.put, List.setIfInBounds_toArray, List.set_cons_zero, List.set_cons_succ]
  refine takeAt 14 39 (.bool true) rfl rfl (by kernel_rfl) (by kernel_rfl) (by kernel_rfl) (fun _ _ _ h => h) (yields (by rfl) (fun w => by kernel_rfl)) hS ?_
  simp only [Act.put, List.setIfInBounds_toArray, List.set_cons_zero, List.set_cons_succ]
  refine takeAt 15 24 (.bool true) rfl rfl (by kernel_rfl) (by kernel_rfl) (by kernel_rfl) (fun _ _ _ h => h) (yields (by rfl) (fun w => by kernel_rfl)) hS ?_
  simp only [Act.put, List.setIfInBounds_toArray, List.set_cons_zero, List.set_cons_succ]
  refine wpAnyH_done (by kernel_rfl) ?_ _
  have HB := Lib.hid hS.1
  have HX := Lib.hid hS.2
  clear hS
  go_wp2
  go_ret
  exact ⟨rfl, HB.out⟩
set_option maxRecDepth 20000 in
set_option maxHeartbeats 8000000 in
theorem out_not (F : BitVec 256) (fa : Bool) (pr s : ByteArray) (a : Nat) (ha : a ≤ s.size) (h1 : a < s.size) (h2 : mem F (bt s a) = false) (w : World) (_hs : s.size ≤ 1000000) :
    Calls Tryz.prog 15 #[.agg (facC ⟨F, false, fa, pr, false⟩), .string s, .int .i64 (a : Int)] w fun e w' => e = .returned (.bool (true)) ∧ Below w.heap.size w w' := by
  have HX := Lib.hid (show BoxF (w.alloc (.cells (facC ⟨F, false, fa, pr, false⟩) 31)) w.heap.size ⟨F, false, fa, pr, false⟩ from BoxV.new _ _)
  have HB := Lib.hid (show Below w.heap.size w (w.alloc (.cells (facC ⟨F, false, fa, pr, false⟩) 31)) by go_grown)
  have z0 : ¬ (a : Int) < 0 := by omega
  have z1 : ¬ (s.size : Int) < (a : Int) := by omega
  have z2 : (0 : Int) ≤ (a : Int) := by omega
  have z3 : (a : Int) ≤ (s.size : Int) := by omega
  have hE : s.extract (a : Int).toNat s.size = s.extract a s.size := by rw [Int.toNat_natCast]
  obtain ⟨r, hr⟩ : ∃ r, r = s.extract a s.size := ⟨_, rfl⟩
  have hrs : r.size = s.size - a := by rw [hr]; exact rest_size s a ha
  have HE := Lib.hid hr
  have hrz : decide (r.size = 0) = false := decide_eq_false (by omega)
  have hr0 : 0 < r.size := by omega
  have hbr : bt r 0 = bt s a := by rw [hr]; exact rest_bt h1
  have hbl : bt r 0 < 256 := bt_lt hr0
  have HH := Lib.hid (fun w => has_any F ((bt r 0 : Nat) : Int) w (by omega) (by omega))
  rw [Int.toNat_natCast, hbr, h2, ← hbr] at HH
  clear hr hrs ha h1 h2 hbr
  go_enter Tryz.func15, Tryz.ntmps15
  go_wp2_with fail
  try rw [hE]
  rw [← HE.out]
  refine wp_region_held_drew (S := fun u => Below w.heap.size w u ∧ BoxF u w.heap.size ⟨F, false, fa, pr, false⟩) (by kernel_rfl) (show _ from ⟨HB.out.trans ((Below.refl _ _).drew.mono HB.out.size), HX.out.drew⟩) (fun hS => ?_)
  clear HX HB
  generalize World.drew _ = v0 at hS ⊢
  refine takeAt 0 25 (.pointer (some ⟨w.heap.size, 4, none⟩)) rfl rfl (by kernel_rfl) (by kernel_rfl) (by kernel_rfl) (fun _ _ _ h => h) (yields (by rfl) (fun w => by kernel_rfl)) hS ?_
  simp only [Act.put, List.setIfInBounds_toArray, List.set_cons_zero, List.set_cons_succ]
  refine takeAt 1 26 (.bool false) rfl rfl (by kernel_rfl) (by kernel_rfl) (by kernel_rfl) (fun _ _ _ h => h) (loadB9_y w.heap.size 4 false (fun _ h => h.2.get 4 rfl) rfl rfl (by rfl)) hS ?_
  simp only [Act.put, List.setIfInBounds_toArray, List.set_cons_zero, List.set_cons_succ]
  refine takeAt 2 27 (.bool true) rfl rfl (by kernel_rfl) (by kernel_rfl) (by kernel_rfl) (fun _ _ _ h => h) (yields (by rfl) (fun w => by kernel_rfl)) hS ?_
  simp only [Act.put, List.setIfInBounds_toArray, List.set_cons_zero, List.set_cons_succ]
  refine takeAt 3 28 (.bool true) rfl rfl (by kernel_rfl) (by kernel_rfl) (by kernel_rfl) (fun _ _ _ h => h) (yields (by rfl) (fun w => by kernel_rfl)) hS ?_
  simp only [Act.put, List.setIfInBounds_toArray, List.set_cons_zero, List.set_cons_succ]
  refine takeAt 4 29 (.string r) rfl rfl (by kernel_rfl) (by kernel_rfl) (by kernel_rfl) (fun _ _ _ h => h) (yields (by rfl) (fun w => by kernel_rfl)) hS ?_
  simp only [Act.put, List.setIfInBounds_toArray, List.set_cons_zero, List.set_cons_succ]
  refine takeAt 5 30 (.bool false) rfl rfl (by kernel_rfl) (by kernel_rfl) (by kernel_rfl) (fun _ _ _ h => h) (eqE9_y r false (by rw [hrz]) rfl rfl (by rfl)) hS ?_
  simp only [Act.put, List.setIfInBounds_toArray, List.set_cons_zero, List.set_cons_succ]
  refine takeAt 6 31 (.bool false) rfl rfl (by kernel_rfl) (by kernel_rfl) (by kernel_rfl) (fun _ _ _ h => h) (yields (by rfl) (fun w => by kernel_rfl)) hS ?_
  simp only [Act.put, List.setIfInBounds_toArray, List.set_cons_zero, List.set_cons_succ]
  refine takeAt 7 32 (.pointer (some ⟨w.heap.size, 0, none⟩)) rfl rfl (by kernel_rfl) (by kernel_rfl) (by kernel_rfl) (fun _ _ _ h => h) (yields (by rfl) (fun w => by kernel_rfl)) hS ?_
  simp only [Act.put, List.setIfInBounds_toArray, List.set_cons_zero, List.set_cons_succ]
  refine takeAt 8 33 (setV F) rfl rfl (by kernel_rfl) (by kernel_rfl) (by kernel_rfl) (fun _ _ _ h => h) (loadSF_y w.heap.size ⟨F, false, fa, pr, false⟩ (fun _ h => h.2) rfl rfl (by rfl)) hS ?_
  simp only [Act.put, List.setIfInBounds_toArray, List.set_cons_zero, List.set_cons_succ]
  refine takeAt 9 34 (.string r) rfl rfl (by kernel_rfl) (by kernel_rfl) (by kernel_rfl) (fun _ _ _ h => h) (yields (by rfl) (fun w => by kernel_rfl)) hS ?_
  simp only [Act.put, List.setIfInBounds_toArray, List.set_cons_zero, List.set_cons_succ]
  refine takeAt 10 35 (.int .u8 (bt r 0 : Nat)) rfl rfl (by kernel_rfl) (by kernel_rfl) (by kernel_rfl) (fun _ _ _ h => h) (idxE9_y r hr0 rfl rfl (by rfl)) hS ?_
  simp only [Act.put, List.setIfInBounds_toArray, List.set_cons_zero, List.set_cons_succ]
  refine callAt 11 36 rfl rfl (by kernel_rfl) (by rfl) (by kernel_rfl) (HH.out _) ?_
  rintro e v1 ⟨rfl, hb⟩
  have hS := And.intro (thenB hS.1 hb hS.1.size) (hS.2.below hb hS.2.lt)
  clear hb
  refine ⟨_, rfl, hS, ?_⟩
  simp only [Act.put, List.setIfInBounds_toArray, List.set_cons_zero, List.set_cons_succ]
  refine takeAt 12 37 (.bool true) rfl rfl (by kernel_rfl) (by kernel_rfl) (by kernel_rfl) (fun _ _ _ h => h) (yields (by rfl) (fun w => by kernel_rfl)) hS ?_
  simp only [Act.put, List.setIfInBounds_toArray, List.set_cons_zero, List.set_cons_succ]
  refine takeAt 13 38 (.bool true) rfl rfl (by kernel_rfl) (by kernel_rfl) (by kernel_rfl) (fun _ _ _ h => h) (yields (by rfl) (fun w => by kernel_rfl)) hS ?_
  simp only [Act.put, List.setIfInBounds_toArray, List.set_cons_zero, List.set_cons_succ]
  refine takeAt 14 39 (.bool true) rfl rfl (by kernel_rfl) (by kernel_rfl) (by kernel_rfl) (fun _ _ _ h => h) (yields (by rfl) (fun w => by kernel_rfl)) hS ?_
  simp only [Act.put, List.setIfInBounds_toArray, List.set_cons_zero, List.set_cons_succ]
  refine takeAt 15 24 (.bool true) rfl rfl (by kernel_rfl) (by kernel_rfl) (by kernel_rfl) (fun _ _ _ h => h) (yields (by rfl) (fun w => by kernel_rfl)) hS ?_
  simp only [Act.put, List.setIfInBounds_toArray, List.set_cons_zero, List.set_cons_succ]
  refine wpAnyH_done (by kernel_rfl) ?_ _
  have HB := Lib.hid hS.1
  have HX := Lib.hid hS.2
  clear hS
  go_wp2
  go_ret
  exact ⟨rfl, HB.out⟩
set_option maxRecDepth 20000 in
set_option maxHeartbeats 8000000 in
theorem out_o1 (F : BitVec 256) (pr s : ByteArray) (a : Nat) (ha : a ≤ s.size) (h3 : 0 < a) (w : World) (_hs : s.size ≤ 1000000) :
    Calls Tryz.prog 15 #[.agg (facC ⟨F, true, true, pr, false⟩), .string s, .int .i64 (a : Int)] w fun e w' => e = .returned (.bool (true)) ∧ Below w.heap.size w w' := by
  have HX := Lib.hid (show BoxF (w.alloc (.cells (facC ⟨F, true, true, pr, false⟩) 31)) w.heap.size ⟨F, true, true, pr, false⟩ from BoxV.new _ _)
  have HB := Lib.hid (show Below w.heap.size w (w.alloc (.cells (facC ⟨F, true, true, pr, false⟩) 31)) by go_grown)
  have z0 : ¬ (a : Int) < 0 := by omega
  have z1 : ¬ (s.size : Int) < (a : Int) := by omega
  have z2 : (0 : Int) ≤ (a : Int) := by omega
  have z3 : (a : Int) ≤ (s.size : Int) := by omega
  have hE : s.extract (a : Int).toNat s.size = s.extract a s.size := by rw [Int.toNat_natCast]
  obtain ⟨r, hr⟩ : ∃ r, r = s.extract a s.size := ⟨_, rfl⟩
  have hrs : r.size = s.size - a := by rw [hr]; exact rest_size s a ha
  have HE := Lib.hid hr
  clear hr hrs ha
  go_enter Tryz.func15, Tryz.ntmps15
  go_wp2_with fail
  try rw [hE]
  rw [← HE.out]
  refine wp_region_held_drew (S := fun u => Below w.heap.size w u ∧ BoxF u w.heap.size ⟨F, true, true, pr, false⟩) (by kernel_rfl) (show _ from ⟨HB.out.trans ((Below.refl _ _).drew.mono HB.out.size), HX.out.drew⟩) (fun hS => ?_)
  clear HX HB
  generalize World.drew _ = v0 at hS ⊢
  refine takeAt 0 25 (.pointer (some ⟨w.heap.size, 4, none⟩)) rfl rfl (by kernel_rfl) (by kernel_rfl) (by kernel_rfl) (fun _ _ _ h => h) (yields (by rfl) (fun w => by kernel_rfl)) hS ?_
  simp only [Act.put, List.setIfInBounds_toArray, List.set_cons_zero, List.set_cons_succ]
  refine takeAt 1 26 (.bool true) rfl rfl (by kernel_rfl) (by kernel_rfl) (by kernel_rfl) (fun _ _ _ h => h) (loadB9_y w.heap.size 4 true (fun _ h => h.2.get 4 rfl) rfl rfl (by rfl)) hS ?_
  simp only [Act.put, List.setIfInBounds_toArray, List.set_cons_zero, List.set_cons_succ]
  refine takeAt 2 27 (.bool false) rfl rfl (by kernel_rfl) (by kernel_rfl) (by kernel_rfl) (fun _ _ _ h => h) (yields (by rfl) (fun w => by kernel_rfl)) hS ?_
  simp only [Act.put, List.setIfInBounds_toArray, List.set_cons_zero, List.set_cons_succ]
  refine takeAt 3 28 (.bool false) rfl rfl (by kernel_rfl) (by kernel_rfl) (by kernel_rfl) (fun _ _ _ h => h) (yields (by rfl) (fun w => by kernel_rfl)) hS ?_
  simp only [Act.put, List.setIfInBounds_toArray, List.set_cons_zero, List.set_cons_succ]
  refine takeAt 4 29 (undef) rfl rfl (by kernel_rfl) (by kernel_rfl) (by kernel_rfl) (fun _ _ _ h => h) (skipped (by rfl)) hS ?_
  simp only [Act.put, List.setIfInBounds_toArray, List.set_cons_zero, List.set_cons_succ]
  refine takeAt 5 30 (undef) rfl rfl (by kernel_rfl) (by kernel_rfl) (by kernel_rfl) (fun _ _ _ h => h) (skipped (by rfl)) hS ?_
  simp only [Act.put, List.setIfInBounds_toArray, List.set_cons_zero, List.set_cons_succ]
  refine takeAt 6 31 (undef) rfl rfl (by kernel_rfl) (by kernel_rfl) (by kernel_rfl) (fun _ _ _ h => h) (skipped (by rfl)) hS ?_
  simp only [Act.put, List.setIfInBounds_toArray, List.set_cons_zero, List.set_cons_succ]
  refine takeAt 7 32 (undef) rfl rfl (by kernel_rfl) (by kernel_rfl) (by kernel_rfl) (fun _ _ _ h => h) (skipped (by rfl)) hS ?_
  simp only [Act.put, List.setIfInBounds_toArray, List.set_cons_zero, List.set_cons_succ]
  refine takeAt 8 33 (undef) rfl rfl (by kernel_rfl) (by kernel_rfl) (by kernel_rfl) (fun _ _ _ h => h) (skipped (by rfl)) hS ?_
  simp only [Act.put, List.setIfInBounds_toArray, List.set_cons_zero, List.set_cons_succ]
  refine takeAt 9 34 (undef) rfl rfl (by kernel_rfl) (by kernel_rfl) (by kernel_rfl) (fun _ _ _ h => h) (skipped (by rfl)) hS ?_
  simp only [Act.put, List.setIfInBounds_toArray, List.set_cons_zero, List.set_cons_succ]
  refine takeAt 10 35 (undef) rfl rfl (by kernel_rfl) (by kernel_rfl) (by kernel_rfl) (fun _ _ _ h => h) (skipped (by rfl)) hS ?_
  simp only [Act.put, List.setIfInBounds_toArray, List.set_cons_zero, List.set_cons_succ]
  refine takeAt 11 36 (undef) rfl rfl (by kernel_rfl) (by kernel_rfl) (by kernel_rfl) (fun _ _ _ h => h) (skipped (by rfl)) hS ?_
  simp only [Act.put, List.setIfInBounds_toArray, List.set_cons_zero, List.set_cons_succ]
  refine takeAt 12 37 (undef) rfl rfl (by kernel_rfl) (by kernel_rfl) (by kernel_rfl) (fun _ _ _ h => h) (skipped (by rfl)) hS ?_
  simp only [Act.put, List.setIfInBounds_toArray, List.set_cons_zero, List.set_cons_succ]
  refine takeAt 13 38 (undef) rfl rfl (by kernel_rfl) (by kernel_rfl) (by kernel_rfl) (fun _ _ _ h => h) (skipped (by rfl)) hS ?_
  simp only [Act.put, List.setIfInBounds_toArray, List.set_cons_zero, List.set_cons_succ]
  refine takeAt 14 39 (.bool false) rfl rfl (by kernel_rfl) (by kernel_rfl) (by kernel_rfl) (fun _ _ _ h => h) (yields (by rfl) (fun w => by kernel_rfl)) hS ?_
  simp only [Act.put, List.setIfInBounds_toArray, List.set_cons_zero, List.set_cons_succ]
  refine takeAt 15 24 (.bool false) rfl rfl (by kernel_rfl) (by kernel_rfl) (by kernel_rfl) (fun _ _ _ h => h) (yields (by rfl) (fun w => by kernel_rfl)) hS ?_
  simp only [Act.put, List.setIfInBounds_toArray, List.set_cons_zero, List.set_cons_succ]
  refine wpAnyH_done (by kernel_rfl) ?_ _
  have HB := Lib.hid hS.1
  have HX := Lib.hid hS.2
  clear hS
  have zp : (0 : Int) < (a : Int) := by omega
  have f5 := BoxF.c5 HX.out
  dsimp only at f5
  go_wp2
  go_ret
  exact ⟨rfl, HB.out⟩
set_option maxRecDepth 20000 in
set_option maxHeartbeats 8000000 in
theorem out_o2 (F : BitVec 256) (pr s : ByteArray) (a : Nat) (ha : a ≤ s.size) (h3 : ¬ 0 < a) (w : World) (_hs : s.size ≤ 1000000) :
    Calls Tryz.prog 15 #[.agg (facC ⟨F, true, true, pr, false⟩), .string s, .int .i64 (a : Int)] w fun e w' => e = .returned (.bool (!startB s a pr)) ∧ Below w.heap.size w w' := by
  have HX := Lib.hid (show BoxF (w.alloc (.cells (facC ⟨F, true, true, pr, false⟩) 31)) w.heap.size ⟨F, true, true, pr, false⟩ from BoxV.new _ _)
  have HB := Lib.hid (show Below w.heap.size w (w.alloc (.cells (facC ⟨F, true, true, pr, false⟩) 31)) by go_grown)
  have z0 : ¬ (a : Int) < 0 := by omega
  have z1 : ¬ (s.size : Int) < (a : Int) := by omega
  have z2 : (0 : Int) ≤ (a : Int) := by omega
  have z3 : (a : Int) ≤ (s.size : Int) := by omega
  have hE : s.extract (a : Int).toNat s.size = s.extract a s.size := by rw [Int.toNat_natCast]
  obtain ⟨r, hr⟩ : ∃ r, r = s.extract a s.size := ⟨_, rfl⟩
  have hrs : r.size = s.size - a := by rw [hr]; exact rest_size s a ha
  have HE := Lib.hid hr
  have HQ := Lib.hid (fun w => prefix9_any r pr w)
  rw [show startB r 0 pr = startB s a pr by rw [hr]; exact rest_start ha pr] at HQ
  clear hr hrs ha
  go_enter Tryz.func15, Tryz.ntmps15
  go_wp2_with fail
  try rw [hE]
  rw [← HE.out]
  refine wp_region_held_drew (S := fun u => Below w.heap.size w u ∧ BoxF u w.heap.size ⟨F, true, true, pr, false⟩) (by kernel_rfl) (show _ from ⟨HB.out.trans ((Below.refl _ _).drew.mono HB.out.size), HX.out.drew⟩) (fun hS => ?_)
  clear HX HB
  generalize World.drew _ = v0 at hS ⊢
  refine takeAt 0 25 (.pointer (some ⟨w.heap.size, 4, none⟩)) rfl rfl (by kernel_rfl) (by kernel_rfl) (by kernel_rfl) (fun _ _ _ h => h) (yields (by rfl) (fun w => by kernel_rfl)) hS ?_
  simp only [Act.put, List.setIfInBounds_toArray, List.set_cons_zero, List.set_cons_succ]
  refine takeAt 1 26 (.bool true) rfl rfl (by kernel_rfl) (by kernel_rfl) (by kernel_rfl) (fun _ _ _ h => h) (loadB9_y w.heap.size 4 true (fun _ h => h.2.get 4 rfl) rfl rfl (by rfl)) hS ?_
  simp only [Act.put, List.setIfInBounds_toArray, List.set_cons_zero, List.set_cons_succ]
  refine takeAt 2 27 (.bool false) rfl rfl (by kernel_rfl) (by kernel_rfl) (by kernel_rfl) (fun _ _ _ h => h) (yields (by rfl) (fun w => by kernel_rfl)) hS ?_
  simp only [Act.put, List.setIfInBounds_toArray, List.set_cons_zero, List.set_cons_succ]
  refine takeAt 3 28 (.bool false) rfl rfl (by kernel_rfl) (by kernel_rfl) (by kernel_rfl) (fun _ _ _ h => h) (yields (by rfl) (fun w => by kernel_rfl)) hS ?_
  simp only [Act.put, List.setIfInBounds_toArray, List.set_cons_zero, List.set_cons_succ]
  refine takeAt 4 29 (undef) rfl rfl (by kernel_rfl) (by kernel_rfl) (by kernel_rfl) (fun _ _ _ h => h) (skipped (by rfl)) hS ?_
  simp only [Act.put, List.setIfInBounds_toArray, List.set_cons_zero, List.set_cons_succ]
  refine takeAt 5 30 (undef) rfl rfl (by kernel_rfl) (by kernel_rfl) (by kernel_rfl) (fun _ _ _ h => h) (skipped (by rfl)) hS ?_
  simp only [Act.put, List.setIfInBounds_toArray, List.set_cons_zero, List.set_cons_succ]
  refine takeAt 6 31 (undef) rfl rfl (by kernel_rfl) (by kernel_rfl) (by kernel_rfl) (fun _ _ _ h => h) (skipped (by rfl)) hS ?_
  simp only [Act.put, List.setIfInBounds_toArray, List.set_cons_zero, List.set_cons_succ]
  refine takeAt 7 32 (undef) rfl rfl (by kernel_rfl) (by kernel_rfl) (by kernel_rfl) (fun _ _ _ h => h) (skipped (by rfl)) hS ?_
  simp only [Act.put, List.setIfInBounds_toArray, List.set_cons_zero, List.set_cons_succ]
  refine takeAt 8 33 (undef) rfl rfl (by kernel_rfl) (by kernel_rfl) (by kernel_rfl) (fun _ _ _ h => h) (skipped (by rfl)) hS ?_
  simp only [Act.put, List.setIfInBounds_toArray, List.set_cons_zero, List.set_cons_succ]
  refine takeAt 9 34 (undef) rfl rfl (by kernel_rfl) (by kernel_rfl) (by kernel_rfl) (fun _ _ _ h => h) (skipped (by rfl)) hS ?_
  simp only [Act.put, List.setIfInBounds_toArray, List.set_cons_zero, List.set_cons_succ]
  refine takeAt 10 35 (undef) rfl rfl (by kernel_rfl) (by kernel_rfl) (by kernel_rfl) (fun _ _ _ h => h) (skipped (by rfl)) hS ?_
  simp only [Act.put, List.setIfInBounds_toArray, List.set_cons_zero, List.set_cons_succ]
  refine takeAt 11 36 (undef) rfl rfl (by kernel_rfl) (by kernel_rfl) (by kernel_rfl) (fun _ _ _ h => h) (skipped (by rfl)) hS ?_
  simp only [Act.put, List.setIfInBounds_toArray, List.set_cons_zero, List.set_cons_succ]
  refine takeAt 12 37 (undef) rfl rfl (by kernel_rfl) (by kernel_rfl) (by kernel_rfl) (fun _ _ _ h => h) (skipped (by rfl)) hS ?_
  simp only [Act.put, List.setIfInBounds_toArray, List.set_cons_zero, List.set_cons_succ]
  refine takeAt 13 38 (undef) rfl rfl (by kernel_rfl) (by kernel_rfl) (by kernel_rfl) (fun _ _ _ h => h) (skipped (by rfl)) hS ?_
  simp only [Act.put, List.setIfInBounds_toArray, List.set_cons_zero, List.set_cons_succ]
  refine takeAt 14 39 (.bool false) rfl rfl (by kernel_rfl) (by kernel_rfl) (by kernel_rfl) (fun _ _ _ h => h) (yields (by rfl) (fun w => by kernel_rfl)) hS ?_
  simp only [Act.put, List.setIfInBounds_toArray, List.set_cons_zero, List.set_cons_succ]
  refine takeAt 15 24 (.bool false) rfl rfl (by kernel_rfl) (by kernel_rfl) (by kernel_rfl) (fun _ _ _ h => h) (yields (by rfl) (fun w => by kernel_rfl)) hS ?_
  simp only [Act.put, List.setIfInBounds_toArray, List.set_cons_zero, List.set_cons_succ]
  refine wpAnyH_done (by kernel_rfl) ?_ _
  have HB := Lib.hid hS.1
  have HX := Lib.hid hS.2
  clear hS
  have zp : ¬ (0 : Int) < (a : Int) := by omega
  have f5 := BoxF.c5 HX.out
  have f6 := BoxF.c6 HX.out
  dsimp only at f5 f6
  go_wp2_with fail
  refine (HQ.out _).mono ?_
  rintro e v2 ⟨rfl, rfl⟩
  go_wp2
  go_ret
  exact ⟨rfl, HB.out⟩
set_option maxRecDepth 20000 in
set_option maxHeartbeats 8000000 in
theorem out_o3 (F : BitVec 256) (pr s : ByteArray) (a : Nat) (ha : a ≤ s.size) (w : World) (_hs : s.size ≤ 1000000) :
    Calls Tryz.prog 15 #[.agg (facC ⟨F, true, false, pr, false⟩), .string s, .int .i64 (a : Int)] w fun e w' => e = .returned (.bool (!startB s a pr)) ∧ Below w.heap.size w w' := by
  have HX := Lib.hid (show BoxF (w.alloc (.cells (facC ⟨F, true, false, pr, false⟩) 31)) w.heap.size ⟨F, true, false, pr, false⟩ from BoxV.new _ _)
  have HB := Lib.hid (show Below w.heap.size w (w.alloc (.cells (facC ⟨F, true, false, pr, false⟩) 31)) by go_grown)
  have z0 : ¬ (a : Int) < 0 := by omega
  have z1 : ¬ (s.size : Int) < (a : Int) := by omega
  have z2 : (0 : Int) ≤ (a : Int) := by omega
  have z3 : (a : Int) ≤ (s.size : Int) := by omega
  have hE : s.extract (a : Int).toNat s.size = s.extract a s.size := by rw [Int.toNat_natCast]
  obtain ⟨r, hr⟩ : ∃ r, r = s.extract a s.size := ⟨_, rfl⟩
  have hrs : r.size = s.size - a := by rw [hr]; exact rest_size s a ha
  have HE := Lib.hid hr
  have HQ := Lib.hid (fun w => prefix9_any r pr w)
  rw [show startB r 0 pr = startB s a pr by rw [hr]; exact rest_start ha pr] at HQ
  clear hr hrs ha
  go_enter Tryz.func15, Tryz.ntmps15
  go_wp2_with fail
  try rw [hE]
  rw [← HE.out]
  refine wp_region_held_drew (S := fun u => Below w.heap.size w u ∧ BoxF u w.heap.size ⟨F, true, false, pr, false⟩) (by kernel_rfl) (show _ from ⟨HB.out.trans ((Below.refl _ _).drew.mono HB.out.size), HX.out.drew⟩) (fun hS => ?_)
  clear HX HB
  generalize World.drew _ = v0 at hS ⊢
  refine takeAt 0 25 (.pointer (some ⟨w.heap.size, 4, none⟩)) rfl rfl (by kernel_rfl) (by kernel_rfl) (by kernel_rfl) (fun _ _ _ h => h) (yields (by rfl) (fun w => by kernel_rfl)) hS ?_
  simp only [Act.put, List.setIfInBounds_toArray, List.set_cons_zero, List.set_cons_succ]
  refine takeAt 1 26 (.bool true) rfl rfl (by kernel_rfl) (by kernel_rfl) (by kernel_rfl) (fun _ _ _ h => h) (loadB9_y w.heap.size 4 true (fun _ h => h.2.get 4 rfl) rfl rfl (by rfl)) hS ?_
  simp only [Act.put, List.setIfInBounds_toArray, List.set_cons_zero, List.set_cons_succ]
  refine takeAt 2 27 (.bool false) rfl rfl (by kernel_rfl) (by kernel_rfl) (by kernel_rfl) (fun _ _ _ h => h) (yields (by rfl) (fun w => by kernel_rfl)) hS ?_
  simp only [Act.put, List.setIfInBounds_toArray, List.set_cons_zero, List.set_cons_succ]
  refine takeAt 3 28 (.bool false) rfl rfl (by kernel_rfl) (by kernel_rfl) (by kernel_rfl) (fun _ _ _ h => h) (yields (by rfl) (fun w => by kernel_rfl)) hS ?_
  simp only [Act.put, List.setIfInBounds_toArray, List.set_cons_zero, List.set_cons_succ]
  refine takeAt 4 29 (undef) rfl rfl (by kernel_rfl) (by kernel_rfl) (by kernel_rfl) (fun _ _ _ h => h) (skipped (by rfl)) hS ?_
  simp only [Act.put, List.setIfInBounds_toArray, List.set_cons_zero, List.set_cons_succ]
  refine takeAt 5 30 (undef) rfl rfl (by kernel_rfl) (by kernel_rfl) (by kernel_rfl) (fun _ _ _ h => h) (skipped (by rfl)) hS ?_
  simp only [Act.put, List.setIfInBounds_toArray, List.set_cons_zero, List.set_cons_succ]
  refine takeAt 6 31 (undef) rfl rfl (by kernel_rfl) (by kernel_rfl) (by kernel_rfl) (fun _ _ _ h => h) (skipped (by rfl)) hS ?_
  simp only [Act.put, List.setIfInBounds_toArray, List.set_cons_zero, List.set_cons_succ]
  refine takeAt 7 32 (undef) rfl rfl (by kernel_rfl) (by kernel_rfl) (by kernel_rfl) (fun _ _ _ h => h) (skipped (by rfl)) hS ?_
  simp only [Act.put, List.setIfInBounds_toArray, List.set_cons_zero, List.set_cons_succ]
  refine takeAt 8 33 (undef) rfl rfl (by kernel_rfl) (by kernel_rfl) (by kernel_rfl) (fun _ _ _ h => h) (skipped (by rfl)) hS ?_
  simp only [Act.put, List.setIfInBounds_toArray, List.set_cons_zero, List.set_cons_succ]
  refine takeAt 9 34 (undef) rfl rfl (by kernel_rfl) (by kernel_rfl) (by kernel_rfl) (fun _ _ _ h => h) (skipped (by rfl)) hS ?_
  simp only [Act.put, List.setIfInBounds_toArray, List.set_cons_zero, List.set_cons_succ]
  refine takeAt 10 35 (undef) rfl rfl (by kernel_rfl) (by kernel_rfl) (by kernel_rfl) (fun _ _ _ h => h) (skipped (by rfl)) hS ?_
  simp only [Act.put, List.setIfInBounds_toArray, List.set_cons_zero, List.set_cons_succ]
  refine takeAt 11 36 (undef) rfl rfl (by kernel_rfl) (by kernel_rfl) (by kernel_rfl) (fun _ _ _ h => h) (skipped (by rfl)) hS ?_
  simp only [Act.put, List.setIfInBounds_toArray, List.set_cons_zero, List.set_cons_succ]
  refine takeAt 12 37 (undef) rfl rfl (by kernel_rfl) (by kernel_rfl) (by kernel_rfl) (fun _ _ _ h => h) (skipped (by rfl)) hS ?_
  simp only [Act.put, List.setIfInBounds_toArray, List.set_cons_zero, List.set_cons_succ]
  refine takeAt 13 38 (undef) rfl rfl (by kernel_rfl) (by kernel_rfl) (by kernel_rfl) (fun _ _ _ h => h) (skipped (by rfl)) hS ?_
  simp only [Act.put, List.setIfInBounds_toArray, List.set_cons_zero, List.set_cons_succ]
  refine takeAt 14 39 (.bool false) rfl rfl (by kernel_rfl) (by kernel_rfl) (by kernel_rfl) (fun _ _ _ h => h) (yields (by rfl) (fun w => by kernel_rfl)) hS ?_
  simp only [Act.put, List.setIfInBounds_toArray, List.set_cons_zero, List.set_cons_succ]
  refine takeAt 15 24 (.bool false) rfl rfl (by kernel_rfl) (by kernel_rfl) (by kernel_rfl) (fun _ _ _ h => h) (yields (by rfl) (fun w => by kernel_rfl)) hS ?_
  simp only [Act.put, List.setIfInBounds_toArray, List.set_cons_zero, List.set_cons_succ]
  refine wpAnyH_done (by kernel_rfl) ?_ _
  have HB := Lib.hid hS.1
  have HX := Lib.hid hS.2
  clear hS
  have f5 := BoxF.c5 HX.out
  have f6 := BoxF.c6 HX.out
  dsimp only at f5 f6
  go_wp2_with fail
  refine (HQ.out _).mono ?_
  rintro e v2 ⟨rfl, rfl⟩
  go_wp2
  go_ret
  exact ⟨rfl, HB.out⟩
set_option maxRecDepth 20000 in
set_option maxHeartbeats 8000000 in
theorem out_h1 (F : BitVec 256) (pr s : ByteArray) (a : Nat) (ha : a ≤ s.size) (h1 : a < s.size) (h2 : mem F (bt s a) = true) (h3 : 0 < a) (w : World) (_hs : s.size ≤ 1000000) :
    Calls Tryz.prog 15 #[.agg (facC ⟨F, false, true, pr, false⟩), .string s, .int .i64 (a : Int)] w fun e w' => e = .returned (.bool (true)) ∧ Below w.heap.size w w' := by
  have HX := Lib.hid (show BoxF (w.alloc (.cells (facC ⟨F, false, true, pr, false⟩) 31)) w.heap.size ⟨F, false, true, pr, false⟩ from BoxV.new _ _)
  have HB := Lib.hid (show Below w.heap.size w (w.alloc (.cells (facC ⟨F, false, true, pr, false⟩) 31)) by go_grown)
  have z0 : ¬ (a : Int) < 0 := by omega
  have z1 : ¬ (s.size : Int) < (a : Int) := by omega
  have z2 : (0 : Int) ≤ (a : Int) := by omega
  have z3 : (a : Int) ≤ (s.size : Int) := by omega
  have hE : s.extract (a : Int).toNat s.size = s.extract a s.size := by rw [Int.toNat_natCast]
  obtain ⟨r, hr⟩ : ∃ r, r = s.extract a s.size := ⟨_, rfl⟩
  have hrs : r.size = s.size - a := by rw [hr]; exact rest_size s a ha
  have HE := Lib.hid hr
  have hrz : decide (r.size = 0) = false := decide_eq_false (by omega)
  have hr0 : 0 < r.size := by omega
  have hbr : bt r 0 = bt s a := by rw [hr]; exact rest_bt h1
  have hbl : bt r 0 < 256 := bt_lt hr0
  have HH := Lib.hid (fun w => has_any F ((bt r 0 : Nat) : Int) w (by omega) (by omega))
  rw [Int.toNat_natCast, hbr, h2, ← hbr] at HH
  clear hr hrs ha h1 h2 hbr
  go_enter Tryz.func15, Tryz.ntmps15
  go_wp2_with fail
  try rw [hE]
  rw [← HE.out]
  refine wp_region_held_drew (S := fun u => Below w.heap.size w u ∧ BoxF u w.heap.size ⟨F, false, true, pr, false⟩) (by kernel_rfl) (show _ from ⟨HB.out.trans ((Below.refl _ _).drew.mono HB.out.size), HX.out.drew⟩) (fun hS => ?_)
  clear HX HB
  generalize World.drew _ = v0 at hS ⊢
  refine takeAt 0 25 (.pointer (some ⟨w.heap.size, 4, none⟩)) rfl rfl (by kernel_rfl) (by kernel_rfl) (by kernel_rfl) (fun _ _ _ h => h) (yields (by rfl) (fun w => by kernel_rfl)) hS ?_
  simp only [Act.put, List.setIfInBounds_toArray, List.set_cons_zero, List.set_cons_succ]
  refine takeAt 1 26 (.bool false) rfl rfl (by kernel_rfl) (by kernel_rfl) (by kernel_rfl) (fun _ _ _ h => h) (loadB9_y w.heap.size 4 false (fun _ h => h.2.get 4 rfl) rfl rfl (by rfl)) hS ?_
  simp only [Act.put, List.setIfInBounds_toArray, List.set_cons_zero, List.set_cons_succ]
  refine takeAt 2 27 (.bool true) rfl rfl (by kernel_rfl) (by kernel_rfl) (by kernel_rfl) (fun _ _ _ h => h) (yields (by rfl) (fun w => by kernel_rfl)) hS ?_
  simp only [Act.put, List.setIfInBounds_toArray, List.set_cons_zero, List.set_cons_succ]
  refine takeAt 3 28 (.bool true) rfl rfl (by kernel_rfl) (by kernel_rfl) (by kernel_rfl) (fun _ _ _ h => h) (yields (by rfl) (fun w => by kernel_rfl)) hS ?_
  simp only [Act.put, List.setIfInBounds_toArray, List.set_cons_zero, List.set_cons_succ]
  refine takeAt 4 29 (.string r) rfl rfl (by kernel_rfl) (by kernel_rfl) (by kernel_rfl) (fun _ _ _ h => h) (yields (by rfl) (fun w => by kernel_rfl)) hS ?_
  simp only [Act.put, List.setIfInBounds_toArray, List.set_cons_zero, List.set_cons_succ]
  refine takeAt 5 30 (.bool false) rfl rfl (by kernel_rfl) (by kernel_rfl) (by kernel_rfl) (fun _ _ _ h => h) (eqE9_y r false (by rw [hrz]) rfl rfl (by rfl)) hS ?_
  simp only [Act.put, List.setIfInBounds_toArray, List.set_cons_zero, List.set_cons_succ]
  refine takeAt 6 31 (.bool false) rfl rfl (by kernel_rfl) (by kernel_rfl) (by kernel_rfl) (fun _ _ _ h => h) (yields (by rfl) (fun w => by kernel_rfl)) hS ?_
  simp only [Act.put, List.setIfInBounds_toArray, List.set_cons_zero, List.set_cons_succ]
  refine takeAt 7 32 (.pointer (some ⟨w.heap.size, 0, none⟩)) rfl rfl (by kernel_rfl) (by kernel_rfl) (by kernel_rfl) (fun _ _ _ h => h) (yields (by rfl) (fun w => by kernel_rfl)) hS ?_
  simp only [Act.put, List.setIfInBounds_toArray, List.set_cons_zero, List.set_cons_succ]
  refine takeAt 8 33 (setV F) rfl rfl (by kernel_rfl) (by kernel_rfl) (by kernel_rfl) (fun _ _ _ h => h) (loadSF_y w.heap.size ⟨F, false, true, pr, false⟩ (fun _ h => h.2) rfl rfl (by rfl)) hS ?_
  simp only [Act.put, List.setIfInBounds_toArray, List.set_cons_zero, List.set_cons_succ]
  refine takeAt 9 34 (.string r) rfl rfl (by kernel_rfl) (by kernel_rfl) (by kernel_rfl) (fun _ _ _ h => h) (yields (by rfl) (fun w => by kernel_rfl)) hS ?_
  simp only [Act.put, List.setIfInBounds_toArray, List.set_cons_zero, List.set_cons_succ]
  refine takeAt 10 35 (.int .u8 (bt r 0 : Nat)) rfl rfl (by kernel_rfl) (by kernel_rfl) (by kernel_rfl) (fun _ _ _ h => h) (idxE9_y r hr0 rfl rfl (by rfl)) hS ?_
  simp only [Act.put, List.setIfInBounds_toArray, List.set_cons_zero, List.set_cons_succ]
  refine callAt 11 36 rfl rfl (by kernel_rfl) (by rfl) (by kernel_rfl) (HH.out _) ?_
  rintro e v1 ⟨rfl, hb⟩
  have hS := And.intro (thenB hS.1 hb hS.1.size) (hS.2.below hb hS.2.lt)
  clear hb
  refine ⟨_, rfl, hS, ?_⟩
  simp only [Act.put, List.setIfInBounds_toArray, List.set_cons_zero, List.set_cons_succ]
  refine takeAt 12 37 (.bool false) rfl rfl (by kernel_rfl) (by kernel_rfl) (by kernel_rfl) (fun _ _ _ h => h) (yields (by rfl) (fun w => by kernel_rfl)) hS ?_
  simp only [Act.put, List.setIfInBounds_toArray, List.set_cons_zero, List.set_cons_succ]
  refine takeAt 13 38 (.bool false) rfl rfl (by kernel_rfl) (by kernel_rfl) (by kernel_rfl) (fun _ _ _ h => h) (yields (by rfl) (fun w => by kernel_rfl)) hS ?_
  simp only [Act.put, List.setIfInBounds_toArray, List.set_cons_zero, List.set_cons_succ]
  refine takeAt 14 39 (.bool false) rfl rfl (by kernel_rfl) (by kernel_rfl) (by kernel_rfl) (fun _ _ _ h => h) (yields (by rfl) (fun w => by kernel_rfl)) hS ?_
  simp only [Act.put, List.setIfInBounds_toArray, List.set_cons_zero, List.set_cons_succ]
  refine takeAt 15 24 (.bool false) rfl rfl (by kernel_rfl) (by kernel_rfl) (by kernel_rfl) (fun _ _ _ h => h) (yields (by rfl) (fun w => by kernel_rfl)) hS ?_
  simp only [Act.put, List.setIfInBounds_toArray, List.set_cons_zero, List.set_cons_succ]
  refine wpAnyH_done (by kernel_rfl) ?_ _
  have HB := Lib.hid hS.1
  have HX := Lib.hid hS.2
  clear hS
  have zp : (0 : Int) < (a : Int) := by omega
  have f5 := BoxF.c5 HX.out
  dsimp only at f5
  go_wp2
  go_ret
  exact ⟨rfl, HB.out⟩
set_option maxRecDepth 20000 in
set_option maxHeartbeats 8000000 in
theorem out_h2 (F : BitVec 256) (pr s : ByteArray) (a : Nat) (ha : a ≤ s.size) (h1 : a < s.size) (h2 : mem F (bt s a) = true) (h3 : ¬ 0 < a) (w : World) (_hs : s.size ≤ 1000000) :
    Calls Tryz.prog 15 #[.agg (facC ⟨F, false, true, pr, false⟩), .string s, .int .i64 (a : Int)] w fun e w' => e = .returned (.bool (!startB s a pr)) ∧ Below w.heap.size w w' := by
  have HX := Lib.hid (show BoxF (w.alloc (.cells (facC ⟨F, false, true, pr, false⟩) 31)) w.heap.size ⟨F, false, true, pr, false⟩ from BoxV.new _ _)
  have HB := Lib.hid (show Below w.heap.size w (w.alloc (.cells (facC ⟨F, false, true, pr, false⟩) 31)) by go_grown)
  have z0 : ¬ (a : Int) < 0 := by omega
  have z1 : ¬ (s.size : Int) < (a : Int) := by omega
  have z2 : (0 : Int) ≤ (a : Int) := by omega
  have z3 : (a : Int) ≤ (s.size : Int) := by omega
  have hE : s.extract (a : Int).toNat s.size = s.extract a s.size := by rw [Int.toNat_natCast]
  obtain ⟨r, hr⟩ : ∃ r, r = s.extract a s.size := ⟨_, rfl⟩
  have hrs : r.size = s.size - a := by rw [hr]; exact rest_size s a ha
  have HE := Lib.hid hr
  have hrz : decide (r.size = 0) = false := decide_eq_false (by omega)
  have hr0 : 0 < r.size := by omega
  have hbr : bt r 0 = bt s a := by rw [hr]; exact rest_bt h1
  have hbl : bt r 0 < 256 := bt_lt hr0
  have HH := Lib.hid (fun w => has_any F ((bt r 0 : Nat) : Int) w (by omega) (by omega))
  rw [Int.toNat_natCast, hbr, h2, ← hbr] at HH
  have HQ := Lib.hid (fun w => prefix9_any r pr w)
  rw [show startB r 0 pr = startB s a pr by rw [hr]; exact rest_start ha pr] at HQ
  clear hr hrs ha h1 h2 hbr
  go_enter Tryz.func15, Tryz.ntmps15
  go_wp2_with fail
  try rw [hE]
  rw [← HE.out]
  refine wp_region_held_drew (S := fun u => Below w.heap.size w u ∧ BoxF u w.heap.size ⟨F, false, true, pr, false⟩) (by kernel_rfl) (show _ from ⟨HB.out.trans ((Below.refl _ _).drew.mono HB.out.size), HX.out.drew⟩) (fun hS => ?_)
  clear HX HB
  generalize World.drew _ = v0 at hS ⊢
  refine takeAt 0 25 (.pointer (some ⟨w.heap.size, 4, none⟩)) rfl rfl (by kernel_rfl) (by kernel_rfl) (by kernel_rfl) (fun _ _ _ h => h) (yields (by rfl) (fun w => by kernel_rfl)) hS ?_
  simp only [Act.put, List.setIfInBounds_toArray, List.set_cons_zero, List.set_cons_succ]
  refine takeAt 1 26 (.bool false) rfl rfl (by kernel_rfl) (by kernel_rfl) (by kernel_rfl) (fun _ _ _ h => h) (loadB9_y w.heap.size 4 false (fun _ h => h.2.get 4 rfl) rfl rfl (by rfl)) hS ?_
  simp only [Act.put, List.setIfInBounds_toArray, List.set_cons_zero, List.set_cons_succ]
  refine takeAt 2 27 (.bool true) rfl rfl (by kernel_rfl) (by kernel_rfl) (by kernel_rfl) (fun _ _ _ h => h) (yields (by rfl) (fun w => by kernel_rfl)) hS ?_
  simp only [Act.put, List.setIfInBounds_toArray, List.set_cons_zero, List.set_cons_succ]
  refine takeAt 3 28 (.bool true) rfl rfl (by kernel_rfl) (by kernel_rfl) (by kernel_rfl) (fun _ _ _ h => h) (yields (by rfl) (fun w => by kernel_rfl)) hS ?_
  simp only [Act.put, List.setIfInBounds_toArray, List.set_cons_zero, List.set_cons_succ]
  refine takeAt 4 29 (.string r) rfl rfl (by kernel_rfl) (by kernel_rfl) (by kernel_rfl) (fun _ _ _ h => h) (yields (by rfl) (fun w => by kernel_rfl)) hS ?_
  simp only [Act.put, List.setIfInBounds_toArray, List.set_cons_zero, List.set_cons_succ]
  refine takeAt 5 30 (.bool false) rfl rfl (by kernel_rfl) (by kernel_rfl) (by kernel_rfl) (fun _ _ _ h => h) (eqE9_y r false (by rw [hrz]) rfl rfl (by rfl)) hS ?_
  simp only [Act.put, List.setIfInBounds_toArray, List.set_cons_zero, List.set_cons_succ]
  refine takeAt 6 31 (.bool false) rfl rfl (by kernel_rfl) (by kernel_rfl) (by kernel_rfl) (fun _ _ _ h => h) (yields (by rfl) (fun w => by kernel_rfl)) hS ?_
  simp only [Act.put, List.setIfInBounds_toArray, List.set_cons_zero, List.set_cons_succ]
  refine takeAt 7 32 (.pointer (some ⟨w.heap.size, 0, none⟩)) rfl rfl (by kernel_rfl) (by kernel_rfl) (by kernel_rfl) (fun _ _ _ h => h) (yields (by rfl) (fun w => by kernel_rfl)) hS ?_
  simp only [Act.put, List.setIfInBounds_toArray, List.set_cons_zero, List.set_cons_succ]
  refine takeAt 8 33 (setV F) rfl rfl (by kernel_rfl) (by kernel_rfl) (by kernel_rfl) (fun _ _ _ h => h) (loadSF_y w.heap.size ⟨F, false, true, pr, false⟩ (fun _ h => h.2) rfl rfl (by rfl)) hS ?_
  simp only [Act.put, List.setIfInBounds_toArray, List.set_cons_zero, List.set_cons_succ]
  refine takeAt 9 34 (.string r) rfl rfl (by kernel_rfl) (by kernel_rfl) (by kernel_rfl) (fun _ _ _ h => h) (yields (by rfl) (fun w => by kernel_rfl)) hS ?_
  simp only [Act.put, List.setIfInBounds_toArray, List.set_cons_zero, List.set_cons_succ]
  refine takeAt 10 35 (.int .u8 (bt r 0 : Nat)) rfl rfl (by kernel_rfl) (by kernel_rfl) (by kernel_rfl) (fun _ _ _ h => h) (idxE9_y r hr0 rfl rfl (by rfl)) hS ?_
  simp only [Act.put, List.setIfInBounds_toArray, List.set_cons_zero, List.set_cons_succ]
  refine callAt 11 36 rfl rfl (by kernel_rfl) (by rfl) (by kernel_rfl) (HH.out _) ?_
  rintro e v1 ⟨rfl, hb⟩
  have hS := And.intro (thenB hS.1 hb hS.1.size) (hS.2.below hb hS.2.lt)
  clear hb
  refine ⟨_, rfl, hS, ?_⟩
  simp only [Act.put, List.setIfInBounds_toArray, List.set_cons_zero, List.set_cons_succ]
  refine takeAt 12 37 (.bool false) rfl rfl (by kernel_rfl) (by kernel_rfl) (by kernel_rfl) (fun _ _ _ h => h) (yields (by rfl) (fun w => by kernel_rfl)) hS ?_
  simp only [Act.put, List.setIfInBounds_toArray, List.set_cons_zero, List.set_cons_succ]
  refine takeAt 13 38 (.bool false) rfl rfl (by kernel_rfl) (by kernel_rfl) (by kernel_rfl) (fun _ _ _ h => h) (yields (by rfl) (fun w => by kernel_rfl)) hS ?_
  simp only [Act.put, List.setIfInBounds_toArray, List.set_cons_zero, List.set_cons_succ]
  refine takeAt 14 39 (.bool false) rfl rfl (by kernel_rfl) (by kernel_rfl) (by kernel_rfl) (fun _ _ _ h => h) (yields (by rfl) (fun w => by kernel_rfl)) hS ?_
  simp only [Act.put, List.setIfInBounds_toArray, List.set_cons_zero, List.set_cons_succ]
  refine takeAt 15 24 (.bool false) rfl rfl (by kernel_rfl) (by kernel_rfl) (by kernel_rfl) (fun _ _ _ h => h) (yields (by rfl) (fun w => by kernel_rfl)) hS ?_
  simp only [Act.put, List.setIfInBounds_toArray, List.set_cons_zero, List.set_cons_succ]
  refine wpAnyH_done (by kernel_rfl) ?_ _
  have HB := Lib.hid hS.1
  have HX := Lib.hid hS.2
  clear hS
  have zp : ¬ (0 : Int) < (a : Int) := by omega
  have f5 := BoxF.c5 HX.out
  have f6 := BoxF.c6 HX.out
  dsimp only at f5 f6
  go_wp2_with fail
  refine (HQ.out _).mono ?_
  rintro e v2 ⟨rfl, rfl⟩
  go_wp2
  go_ret
  exact ⟨rfl, HB.out⟩
set_option maxRecDepth 20000 in
set_option maxHeartbeats 8000000 in
theorem out_h3 (F : BitVec 256) (pr s : ByteArray) (a : Nat) (ha : a ≤ s.size) (h1 : a < s.size) (h2 : mem F (bt s a) = true) (w : World) (_hs : s.size ≤ 1000000) :
    Calls Tryz.prog 15 #[.agg (facC ⟨F, false, false, pr, false⟩), .string s, .int .i64 (a : Int)] w fun e w' => e = .returned (.bool (!startB s a pr)) ∧ Below w.heap.size w w' := by
  have HX := Lib.hid (show BoxF (w.alloc (.cells (facC ⟨F, false, false, pr, false⟩) 31)) w.heap.size ⟨F, false, false, pr, false⟩ from BoxV.new _ _)
  have HB := Lib.hid (show Below w.heap.size w (w.alloc (.cells (facC ⟨F, false, false, pr, false⟩) 31)) by go_grown)
  have z0 : ¬ (a : Int) < 0 := by omega
  have z1 : ¬ (s.size : Int) < (a : Int) := by omega
  have z2 : (0 : Int) ≤ (a : Int) := by omega
  have z3 : (a : Int) ≤ (s.size : Int) := by omega
  have hE : s.extract (a : Int).toNat s.size = s.extract a s.size := by rw [Int.toNat_natCast]
  obtain ⟨r, hr⟩ : ∃ r, r = s.extract a s.size := ⟨_, rfl⟩
  have hrs : r.size = s.size - a := by rw [hr]; exact rest_size s a ha
  have HE := Lib.hid hr
  have hrz : decide (r.size = 0) = false := decide_eq_false (by omega)
  have hr0 : 0 < r.size := by omega
  have hbr : bt r 0 = bt s a := by rw [hr]; exact rest_bt h1
  have hbl : bt r 0 < 256 := bt_lt hr0
  have HH := Lib.hid (fun w => has_any F ((bt r 0 : Nat) : Int) w (by omega) (by omega))
  rw [Int.toNat_natCast, hbr, h2, ← hbr] at HH
  have HQ := Lib.hid (fun w => prefix9_any r pr w)
  rw [show startB r 0 pr = startB s a pr by rw [hr]; exact rest_start ha pr] at HQ
  clear hr hrs ha h1 h2 hbr
  go_enter Tryz.func15, Tryz.ntmps15
  go_wp2_with fail
  try rw [hE]
  rw [← HE.out]
  refine wp_region_held_drew (S := fun u => Below w.heap.size w u ∧ BoxF u w.heap.size ⟨F, false, false, pr, false⟩) (by kernel_rfl) (show _ from ⟨HB.out.trans ((Below.refl _ _).drew.mono HB.out.size), HX.out.drew⟩) (fun hS => ?_)
  clear HX HB
  generalize World.drew _ = v0 at hS ⊢
  refine takeAt 0 25 (.pointer (some ⟨w.heap.size, 4, none⟩)) rfl rfl (by kernel_rfl) (by kernel_rfl) (by kernel_rfl) (fun _ _ _ h => h) (yields (by rfl) (fun w => by kernel_rfl)) hS ?_
  simp only [Act.put, List.setIfInBounds_toArray, List.set_cons_zero, List.set_cons_succ]
  refine takeAt 1 26 (.bool false) rfl rfl (by kernel_rfl) (by kernel_rfl) (by kernel_rfl) (fun _ _ _ h => h) (loadB9_y w.heap.size 4 false (fun _ h => h.2.get 4 rfl) rfl rfl (by rfl)) hS ?_
  simp only [Act.put, List.setIfInBounds_toArray, List.set_cons_zero, List.set_cons_succ]
  refine takeAt 2 27 (.bool true) rfl rfl (by kernel_rfl) (by kernel_rfl) (by kernel_rfl) (fun _ _ _ h => h) (yields (by rfl) (fun w => by kernel_rfl)) hS ?_
  simp only [Act.put, List.setIfInBounds_toArray, List.set_cons_zero, List.set_cons_succ]
  refine takeAt 3 28 (.bool true) rfl rfl (by kernel_rfl) (by kernel_rfl) (by kernel_rfl) (fun _ _ _ h => h) (yields (by rfl) (fun w => by kernel_rfl)) hS ?_
  simp only [Act.put, List.setIfInBounds_toArray, List.set_cons_zero, List.set_cons_succ]
  refine takeAt 4 29 (.string r) rfl rfl (by kernel_rfl) (by kernel_rfl) (by kernel_rfl) (fun _ _ _ h => h) (yields (by rfl) (fun w => by kernel_rfl)) hS ?_
  simp only [Act.put, List.setIfInBounds_toArray, List.set_cons_zero, List.set_cons_succ]
  refine takeAt 5 30 (.bool false) rfl rfl (by kernel_rfl) (by kernel_rfl) (by kernel_rfl) (fun _ _ _ h => h) (eqE9_y r false (by rw [hrz]) rfl rfl (by rfl)) hS ?_
  simp only [Act.put, List.setIfInBounds_toArray, List.set_cons_zero, List.set_cons_succ]
  refine takeAt 6 31 (.bool false) rfl rfl (by kernel_rfl) (by kernel_rfl) (by kernel_rfl) (fun _ _ _ h => h) (yields (by rfl) (fun w => by kernel_rfl)) hS ?_
  simp only [Act.put, List.setIfInBounds_toArray, List.set_cons_zero, List.set_cons_succ]
  refine takeAt 7 32 (.pointer (some ⟨w.heap.size, 0, none⟩)) rfl rfl (by kernel_rfl) (by kernel_rfl) (by kernel_rfl) (fun _ _ _ h => h) (yields (by rfl) (fun w => by kernel_rfl)) hS ?_
  simp only [Act.put, List.setIfInBounds_toArray, List.set_cons_zero, List.set_cons_succ]
  refine takeAt 8 33 (setV F) rfl rfl (by kernel_rfl) (by kernel_rfl) (by kernel_rfl) (fun _ _ _ h => h) (loadSF_y w.heap.size ⟨F, false, false, pr, false⟩ (fun _ h => h.2) rfl rfl (by rfl)) hS ?_
  simp only [Act.put, List.setIfInBounds_toArray, List.set_cons_zero, List.set_cons_succ]
  refine takeAt 9 34 (.string r) rfl rfl (by kernel_rfl) (by kernel_rfl) (by kernel_rfl) (fun _ _ _ h => h) (yields (by rfl) (fun w => by kernel_rfl)) hS ?_
  simp only [Act.put, List.setIfInBounds_toArray, List.set_cons_zero, List.set_cons_succ]
  refine takeAt 10 35 (.int .u8 (bt r 0 : Nat)) rfl rfl (by kernel_rfl) (by kernel_rfl) (by kernel_rfl) (fun _ _ _ h => h) (idxE9_y r hr0 rfl rfl (by rfl)) hS ?_
  simp only [Act.put, List.setIfInBounds_toArray, List.set_cons_zero, List.set_cons_succ]
  refine callAt 11 36 rfl rfl (by kernel_rfl) (by rfl) (by kernel_rfl) (HH.out _) ?_
  rintro e v1 ⟨rfl, hb⟩
  have hS := And.intro (thenB hS.1 hb hS.1.size) (hS.2.below hb hS.2.lt)
  clear hb
  refine ⟨_, rfl, hS, ?_⟩
  simp only [Act.put, List.setIfInBounds_toArray, List.set_cons_zero, List.set_cons_succ]
  refine takeAt 12 37 (.bool false) rfl rfl (by kernel_rfl) (by kernel_rfl) (by kernel_rfl) (fun _ _ _ h => h) (yields (by rfl) (fun w => by kernel_rfl)) hS ?_
  simp only [Act.put, List.setIfInBounds_toArray, List.set_cons_zero, List.set_cons_succ]
  refine takeAt 13 38 (.bool false) rfl rfl (by kernel_rfl) (by kernel_rfl) (by kernel_rfl) (fun _ _ _ h => h) (yields (by rfl) (fun w => by kernel_rfl)) hS ?_
  simp only [Act.put, List.setIfInBounds_toArray, List.set_cons_zero, List.set_cons_succ]
  refine takeAt 14 39 (.bool false) rfl rfl (by kernel_rfl) (by kernel_rfl) (by kernel_rfl) (fun _ _ _ h => h) (yields (by rfl) (fun w => by kernel_rfl)) hS ?_
  simp only [Act.put, List.setIfInBounds_toArray, List.set_cons_zero, List.set_cons_succ]
  refine takeAt 15 24 (.bool false) rfl rfl (by kernel_rfl) (by kernel_rfl) (by kernel_rfl) (fun _ _ _ h => h) (yields (by rfl) (fun w => by kernel_rfl)) hS ?_
  simp only [Act.put, List.setIfInBounds_toArray, List.set_cons_zero, List.set_cons_succ]
  refine wpAnyH_done (by kernel_rfl) ?_ _
  have HB := Lib.hid hS.1
  have HX := Lib.hid hS.2
  clear hS
  have f5 := BoxF.c5 HX.out
  have f6 := BoxF.c6 HX.out
  dsimp only at f5 f6
  go_wp2_with fail
  refine (HQ.out _).mono ?_
  rintro e v2 ⟨rfl, rfl⟩
  go_wp2
  go_ret
  exact ⟨rfl, HB.out⟩
theorem out_any9 (k : FK) (s : ByteArray) (z : Int) (w : World) (hs : s.size ≤ 1000000) :
    Calls Tryz.prog 15 #[.agg (facC k), .string s, .int .i64 z] w fun e w' => e = .returned (.bool (outZ k s z)) ∧ Below w.heap.size w w' := by
  obtain ⟨F, op, fa, pr, wh⟩ := k
  by_cases h0 : z < 0
  · rw [show outZ ⟨F, op, fa, pr, wh⟩ s z = false by unfold outZ; rw [decide_eq_false (by omega), Bool.false_and]]
    exact out_low F op fa pr s z h0 w hs
  · by_cases h1 : (s.size : Int) < z
    · rw [show outZ ⟨F, op, fa, pr, wh⟩ s z = false by unfold outZ; rw [decide_eq_false (by omega), Bool.false_and]]
      exact out_high F op fa pr s z h0 h1 w hs
    · obtain ⟨a, rfl⟩ : ∃ a : Nat, z = (a : Int) := ⟨z.toNat, by omega⟩
      have ha : a ≤ s.size := by omega
      have e : outZ ⟨F, op, fa, pr, wh⟩ s (a : Int) = (!op && !mem F (bt s a) || (fa && decide (0 < a) || !startB s a pr)) := by
        unfold outZ
        rw [decide_eq_true (by omega), Bool.true_and, Int.toNat_natCast]
        simp only [Int.natCast_pos]
      rw [e]
      have key : ∀ (b : Bool), (b = true → Calls Tryz.prog 15 #[.agg (facC ⟨F, op, fa, pr, wh⟩), .string s, .int .i64 (a : Int)] w fun e w' => e = .returned (.bool true) ∧ Below w.heap.size w w') →
          (b = false → Calls Tryz.prog 15 #[.agg (facC ⟨F, op, fa, pr, wh⟩), .string s, .int .i64 (a : Int)] w fun e w' => e = .returned (.bool (fa && decide (0 < a) || !startB s a pr)) ∧ Below w.heap.size w w') →
          Calls Tryz.prog 15 #[.agg (facC ⟨F, op, fa, pr, wh⟩), .string s, .int .i64 (a : Int)] w fun e w' => e = .returned (.bool (b || (fa && decide (0 < a) || !startB s a pr))) ∧ Below w.heap.size w w' := by
        intro b h1 h2
        cases b with
        | true => rw [Bool.true_or]; exact h1 rfl
        | false => rw [Bool.false_or]; exact h2 rfl
      refine key _ (fun hb => ?_) (fun hb => ?_)
      · rw [Bool.and_eq_true, Bool.not_eq_true', Bool.not_eq_true'] at hb
        obtain ⟨rfl, hm⟩ := hb
        by_cases h : a = s.size
        · exact out_end F fa pr s a ha h w hs
        · exact out_not F fa pr s a ha (by omega) hm w hs
      · cases op with
        | true =>
          cases fa with
          | true =>
            by_cases h3 : 0 < a
            · rw [decide_eq_true h3]; exact out_o1 F pr s a ha h3 w hs
            · rw [decide_eq_false h3]; exact out_o2 F pr s a ha h3 w hs
          | false => exact out_o3 F pr s a ha w hs
        | false =>
          have hm : mem F (bt s a) = true := by simpa using hb
          have hlt : a < s.size := by
            by_cases h : a < s.size
            · exact h
            · rw [bt_no (by omega), mem_no] at hm; cases hm
          cases fa with
          | true =>
            by_cases h3 : 0 < a
            · rw [decide_eq_true h3]; exact out_h1 F pr s a ha hlt hm h3 w hs
            · rw [decide_eq_false h3]; exact out_h2 F pr s a ha hlt hm h3 w hs
          | false => exact out_h3 F pr s a ha hlt hm w hs
end Go.Proofs.YtkpijnodhlonfaaGreatDoor

namespace Go.Proofs.YtkpijnodhlonfaaGreatDoor
open Go.RowKit
open Ast (Nd Nodes rightZ)

abbrev q9_0 : ByteArray := ⟨#[97, 98, 124, 97, 99]⟩
theorem q9z_0 : parseZ q9_0 = (((parseZ q9_0).1.1, (parseZ q9_0).1.2), 0) := by
  have h2 : (parseZ q9_0).2 = 0 := by kernel_rfl
  rw [← h2]
theorem q9n_0 : (parseZ q9_0).1.1 ≤ 1000 := of_decide_eq_true (by kernel_rfl)
theorem q9r_0 : rightZ (parseZ q9_0).1.2 (parseZ q9_0).1.1 = 0 := by kernel_rfl
theorem q9k_0 : facC (factZ (parseZ q9_0).1.2 (parseZ q9_0).1.1) = facC ⟨(addB 0#256 97), false, false, ⟨#[]⟩, false⟩ := by kernel_rfl
theorem q9l_0 : LitOk9 (parseZ q9_0).1.2 (parseZ q9_0).1.1 := by
  unfold LitOk9
  exact of_decide_eq_true (by kernel_rfl)
theorem q9_any0 (K : PKit) (w : World) (hw : Tabs w) : Calls Tryz.prog 30 #[.string q9_0] w fun e w' => e = .returned (.agg (facC ⟨(addB 0#256 97), false, false, ⟨#[]⟩, false⟩)) ∧ Below w.heap.size w w' :=
  ofp_any K q9_0 _ _ _ q9z_0 q9n_0 q9r_0 q9k_0 q9l_0 w hw
abbrev q9_1 : ByteArray := ⟨#[94, 97, 98]⟩
theorem q9z_1 : parseZ q9_1 = (((parseZ q9_1).1.1, (parseZ q9_1).1.2), 0) := by
  have h2 : (parseZ q9_1).2 = 0 := by kernel_rfl
  rw [← h2]
theorem q9n_1 : (parseZ q9_1).1.1 ≤ 1000 := of_decide_eq_true (by kernel_rfl)
theorem q9r_1 : rightZ (parseZ q9_1).1.2 (parseZ q9_1).1.1 = 0 := by kernel_rfl
theorem q9k_1 : facC (factZ (parseZ q9_1).1.2 (parseZ q9_1).1.1) = facC ⟨(addB 0#256 97), false, true, ⟨#[97, 98]⟩, false⟩ := by kernel_rfl
theorem q9l_1 : LitOk9 (parseZ q9_1).1.2 (parseZ q9_1).1.1 := by
  unfold LitOk9
  exact of_decide_eq_true (by kernel_rfl)
theorem q9_any1 (K : PKit) (w : World) (hw : Tabs w) : Calls Tryz.prog 30 #[.string q9_1] w fun e w' => e = .returned (.agg (facC ⟨(addB 0#256 97), false, true, ⟨#[97, 98]⟩, false⟩)) ∧ Below w.heap.size w w' :=
  ofp_any K q9_1 _ _ _ q9z_1 q9n_1 q9r_1 q9k_1 q9l_1 w hw
abbrev q9_2 : ByteArray := ⟨#[97, 63, 98]⟩
theorem q9z_2 : parseZ q9_2 = (((parseZ q9_2).1.1, (parseZ q9_2).1.2), 0) := by
  have h2 : (parseZ q9_2).2 = 0 := by kernel_rfl
  rw [← h2]
theorem q9n_2 : (parseZ q9_2).1.1 ≤ 1000 := of_decide_eq_true (by kernel_rfl)
theorem q9r_2 : rightZ (parseZ q9_2).1.2 (parseZ q9_2).1.1 = 0 := by kernel_rfl
theorem q9k_2 : facC (factZ (parseZ q9_2).1.2 (parseZ q9_2).1.1) = facC ⟨(ofBytes [97, 98]), false, false, ⟨#[]⟩, false⟩ := by kernel_rfl
theorem q9l_2 : LitOk9 (parseZ q9_2).1.2 (parseZ q9_2).1.1 := by
  unfold LitOk9
  exact of_decide_eq_true (by kernel_rfl)
theorem q9_any2 (K : PKit) (w : World) (hw : Tabs w) : Calls Tryz.prog 30 #[.string q9_2] w fun e w' => e = .returned (.agg (facC ⟨(ofBytes [97, 98]), false, false, ⟨#[]⟩, false⟩)) ∧ Below w.heap.size w w' :=
  ofp_any K q9_2 _ _ _ q9z_2 q9n_2 q9r_2 q9k_2 q9l_2 w hw
abbrev q9_3 : ByteArray := ⟨#[40, 63, 61, 97, 41, 98, 42]⟩
theorem q9z_3 : parseZ q9_3 = (((parseZ q9_3).1.1, (parseZ q9_3).1.2), 0) := by
  have h2 : (parseZ q9_3).2 = 0 := by kernel_rfl
  rw [← h2]
theorem q9n_3 : (parseZ q9_3).1.1 ≤ 1000 := of_decide_eq_true (by kernel_rfl)
theorem q9r_3 : rightZ (parseZ q9_3).1.2 (parseZ q9_3).1.1 = 0 := by kernel_rfl
theorem q9k_3 : facC (factZ (parseZ q9_3).1.2 (parseZ q9_3).1.1) = facC ⟨(addB 0#256 98), true, false, ⟨#[]⟩, false⟩ := by kernel_rfl
theorem q9l_3 : LitOk9 (parseZ q9_3).1.2 (parseZ q9_3).1.1 := by
  unfold LitOk9
  exact of_decide_eq_true (by kernel_rfl)
theorem q9_any3 (K : PKit) (w : World) (hw : Tabs w) : Calls Tryz.prog 30 #[.string q9_3] w fun e w' => e = .returned (.agg (facC ⟨(addB 0#256 98), true, false, ⟨#[]⟩, false⟩)) ∧ Below w.heap.size w w' :=
  ofp_any K q9_3 _ _ _ q9z_3 q9n_3 q9r_3 q9k_3 q9l_3 w hw
abbrev q9_4 : ByteArray := ⟨#[40, 63, 58, 97, 98, 41, 123, 50, 125]⟩
theorem q9z_4 : parseZ q9_4 = (((parseZ q9_4).1.1, (parseZ q9_4).1.2), 0) := by
  have h2 : (parseZ q9_4).2 = 0 := by kernel_rfl
  rw [← h2]
theorem q9n_4 : (parseZ q9_4).1.1 ≤ 1000 := of_decide_eq_true (by kernel_rfl)
theorem q9r_4 : rightZ (parseZ q9_4).1.2 (parseZ q9_4).1.1 = 0 := by kernel_rfl
theorem q9k_4 : facC (factZ (parseZ q9_4).1.2 (parseZ q9_4).1.1) = facC ⟨(addB 0#256 97), false, false, ⟨#[97, 98]⟩, false⟩ := by kernel_rfl
theorem q9l_4 : LitOk9 (parseZ q9_4).1.2 (parseZ q9_4).1.1 := by
  unfold LitOk9
  exact of_decide_eq_true (by kernel_rfl)
theorem q9_any4 (K : PKit) (w : World) (hw : Tabs w) : Calls Tryz.prog 30 #[.string q9_4] w fun e w' => e = .returned (.agg (facC ⟨(addB 0#256 97), false, false, ⟨#[97, 98]⟩, false⟩)) ∧ Below w.heap.size w w' :=
  ofp_any K q9_4 _ _ _ q9z_4 q9n_4 q9r_4 q9k_4 q9l_4 w hw
theorem o9_0 : outZ ⟨(addB 0#256 97), false, false, ⟨#[]⟩, false⟩ ⟨#[120, 97]⟩ 0 = true := by kernel_rfl
theorem o9_1 : outZ ⟨(addB 0#256 97), false, false, ⟨#[]⟩, false⟩ ⟨#[120, 97]⟩ 1 = false := by kernel_rfl
theorem o9_2 : outZ ⟨(addB 0#256 97), false, false, ⟨#[]⟩, false⟩ ⟨#[120, 97]⟩ 2 = true := by kernel_rfl
theorem o9_3 : outZ ⟨(addB 0#256 97), false, false, ⟨#[]⟩, false⟩ ⟨#[120, 97]⟩ 3 = false := by kernel_rfl
theorem o9_4 : outZ ⟨(addB 0#256 97), false, true, ⟨#[97, 98]⟩, false⟩ ⟨#[97, 98, 97, 98]⟩ 2 = true := by kernel_rfl
theorem o9_5 : outZ ⟨(addB 0#256 97), false, true, ⟨#[97, 98]⟩, false⟩ ⟨#[97, 98, 97, 98]⟩ 0 = false := by kernel_rfl
theorem o9_6 : outZ ⟨(addB 0#256 97), false, true, ⟨#[97, 98]⟩, false⟩ ⟨#[97, 97, 98]⟩ 0 = true := by kernel_rfl
section
variable {ops : Array Oper} {R : World → Prop} {a : Act} {o : Oper} {x y : Operand}
theorem eqFc_y (k : FK) (ho : o.op = .binOp .eql 31 x y 31) (hx : a.eval x = .agg (facC k)) (hy : a.eval y = .agg (facC k)) (hw : Region.wanted o (yielded ops a.tmps) = true) : YieldsIf Tryz.prog ops R o (.bool true) a := by
  refine Or.inl ⟨hw, fun u _ => ?_⟩
  unfold execOp
  simp only [ho, hx, hy]
  go_simp
theorem eqStr_y (s : ByteArray) (ho : o.op = .binOp .eql 9 x (.const (.string s)) 9) (hx : a.eval x = .string s) (hw : Region.wanted o (yielded ops a.tmps) = true) : YieldsIf Tryz.prog ops R o (.bool true) a := by
  refine Or.inl ⟨hw, fun u _ => ?_⟩
  unfold execOp
  simp only [ho, hx]
  go_simp
end
/-- The boxes of fixed. -/
structure FBx (SA SB : BitVec 256) (w0 w : World) : Prop where
  below : Below w0.heap.size w0 w
  tabs : Tabs w
  b1 : BoxF w w0.heap.size ⟨SA, false, false, ⟨#[]⟩, false⟩
  b2 : BoxF w (w0.heap.size + 1) ⟨SA, false, true, ⟨#[97, 98]⟩, false⟩
  b3 : BoxF w (w0.heap.size + 1 + 1) ⟨SB, false, false, ⟨#[]⟩, false⟩
theorem FBx.call {SA SB : BitVec 256} {w0 w w' : World} (h : FBx SA SB w0 w) (hb : Below w.heap.size w w') : FBx SA SB w0 w' :=
  ⟨thenB h.below hb h.below.size, h.tabs.call hb, h.b1.below hb h.b1.lt, h.b2.below hb h.b2.lt, h.b3.below hb h.b3.lt⟩
theorem none_right (l : Nat → Nd) : rightZ l 0 = 3 := by
  have h : Ast.goodB l 0 = false := by unfold Ast.goodB; simp
  unfold rightZ Ast.shapeZ Ast.formZ
  simp [h]
set_option maxRecDepth 100000 in
set_option maxHeartbeats 32000000 in
theorem fixed9_any (K : PKit) (w : World) (hw : Tabs w) : Calls Tryz.prog 14 #[] w fun e w' => e = .returned (.bool true) ∧ Below w.heap.size w w' := by
  have P0 := Lib.hid (fun w h => q9_any0 K w h)
  have P1 := Lib.hid (fun w h => q9_any1 K w h)
  have P2 := Lib.hid (fun w h => q9_any2 K w h)
  have P3 := Lib.hid (fun w h => q9_any3 K w h)
  have P4 := Lib.hid (fun w h => q9_any4 K w h)
  have O0 := Lib.hid (fun w => out_any9 ⟨(addB 0#256 97), false, false, ⟨#[]⟩, false⟩ ⟨#[120, 97]⟩ 0 w (by decide))
  rw [o9_0] at O0
  have O1 := Lib.hid (fun w => out_any9 ⟨(addB 0#256 97), false, false, ⟨#[]⟩, false⟩ ⟨#[120, 97]⟩ 1 w (by decide))
  rw [o9_1] at O1
  have O2 := Lib.hid (fun w => out_any9 ⟨(addB 0#256 97), false, false, ⟨#[]⟩, false⟩ ⟨#[120, 97]⟩ 2 w (by decide))
  rw [o9_2] at O2
  have O3 := Lib.hid (fun w => out_any9 ⟨(addB 0#256 97), false, false, ⟨#[]⟩, false⟩ ⟨#[120, 97]⟩ 3 w (by decide))
  rw [o9_3] at O3
  have O4 := Lib.hid (fun w => out_any9 ⟨(addB 0#256 97), false, true, ⟨#[97, 98]⟩, false⟩ ⟨#[97, 98, 97, 98]⟩ 2 w (by decide))
  rw [o9_4] at O4
  have O5 := Lib.hid (fun w => out_any9 ⟨(addB 0#256 97), false, true, ⟨#[97, 98]⟩, false⟩ ⟨#[97, 98, 97, 98]⟩ 0 w (by decide))
  rw [o9_5] at O5
  have O6 := Lib.hid (fun w => out_any9 ⟨(addB 0#256 97), false, true, ⟨#[97, 98]⟩, false⟩ ⟨#[97, 97, 98]⟩ 0 w (by decide))
  rw [o9_6] at O6
  have H1 := Lib.hid (fun w => one_at 97 97 w rfl (by decide))
  have H2 := Lib.hid (fun w => of_any ⟨#[97, 98]⟩ w (by show 2 ≤ 9223372036854775807; decide))
  rw [show (⟨#[97, 98]⟩ : ByteArray).data.toList = [97, 98] from rfl] at H2
  have HE := Lib.hid (fun w h => of9_any K.sort K.none none 0 0 (fun _ => ⟨0, 0, 0, 0, 0, 0, 0, 0, 0, 0, 0, false⟩) w (by omega) (fun i hi => absurd hi (Nat.not_lt_zero _)) (fun i hi => absurd hi (Nat.not_lt_zero _)) h)
  rw [show ofV (fun _ => (⟨0, 0, 0, 0, 0, 0, 0, 0, 0, 0, 0, false⟩ : Nd)) 0 = .tuple #[.agg (facC zrK), .int .i64 3] by unfold ofV; rw [none_right]; rfl, zrF] at HE
  generalize addB 0#256 97 = SA at P0 P1 P4 O0 O1 O2 O3 O4 O5 O6 H1
  generalize ofBytes [97, 98] = SB at P2 H2
  generalize addB 0#256 98 = SC at P3
  have HT := Lib.hid hw
  have HB := Lib.hid (Below.refl w.heap.size w)
  clear hw K
  go_enter Tryz.func14, Tryz.ntmps14
  go_wp2_with fail
  with_reducible refine (P0.out _ (HT.out.call HB.out)).mono ?_
  rintro e u0 ⟨rfl, hb⟩
  replace HB := Lib.hid (thenB HB.out hb HB.out.size)
  clear hb
  go_wp2_with fail
  with_reducible refine (P1.out _ (HT.out.call HB.out)).mono ?_
  rintro e u1 ⟨rfl, hb⟩
  replace HB := Lib.hid (thenB HB.out hb HB.out.size)
  clear hb
  go_wp2_with fail
  with_reducible refine (P2.out _ (HT.out.call HB.out)).mono ?_
  rintro e u2 ⟨rfl, hb⟩
  replace HB := Lib.hid (thenB HB.out hb HB.out.size)
  clear hb
  have hT2 := HT.out.call HB.out
  have HF := Lib.hid (show FBx SA SB u2 (((u2.alloc (.cells (facC ⟨SA, false, false, ⟨#[]⟩, false⟩) 31)).alloc (.cells (facC ⟨SA, false, true, ⟨#[97, 98]⟩, false⟩) 31)).alloc (.cells (facC ⟨SB, false, false, ⟨#[]⟩, false⟩) 31)) from ⟨by go_grown, ((hT2.alloc _).alloc _).alloc _, ((BoxV.new _ _).alloc _).alloc _, (BoxV.new2 _ _ _).alloc _, BoxV.new3 _ _ _ _⟩)
  clear hT2
  go_wp2_with fail
  refine (HE.out _ HF.out.tabs.tab).mono ?_
  rintro e u3 ⟨rfl, hb⟩
  replace HF := Lib.hid (HF.out.call hb)
  clear hb
  go_wp2_with fail
  refine wp_region_held_drew (S := fun u => FBx SA SB u2 u) (by kernel_rfl) (show _ from (HF.out.call ((Below.refl _ _).alloc (Nat.le_refl _) _)).call (Below.refl _ _).drew) (fun hS => ?_)
  clear HF
  generalize World.drew _ = v0 at hS ⊢
  refine takeAt 0 14 (.agg (facC ⟨SA, false, false, ⟨#[]⟩, false⟩)) rfl rfl (by kernel_rfl) (by kernel_rfl) (by kernel_rfl) (fun _ _ _ h => h) (loadF_y u2.heap.size ⟨SA, false, false, ⟨#[]⟩, false⟩ (fun _ h => h.b1) rfl rfl (by rfl)) hS ?_
  simp only [Act.put, List.setIfInBounds_toArray, List.set_cons_zero, List.set_cons_succ]
  refine callAt 1 15 rfl rfl (by kernel_rfl) (by rfl) (by kernel_rfl) (H1.out _) ?_
  rintro e v1 ⟨rfl, hb⟩
  have hS := hS.call hb
  clear hb
  refine ⟨_, rfl, hS, ?_⟩
  simp only [Act.put, List.setIfInBounds_toArray, List.set_cons_zero, List.set_cons_succ]
  refine takeAt 2 16 (.agg (facC ⟨SA, false, false, ⟨#[]⟩, false⟩)) rfl rfl (by kernel_rfl) (by kernel_rfl) (by kernel_rfl) (fun _ _ _ h => h) (yields (by rfl) (fun w => by kernel_rfl)) hS ?_
  simp only [Act.put, List.setIfInBounds_toArray, List.set_cons_zero, List.set_cons_succ]
  refine takeAt 3 17 (.bool true) rfl rfl (by kernel_rfl) (by kernel_rfl) (by kernel_rfl) (fun _ _ _ h => h) (eqFc_y ⟨SA, false, false, ⟨#[]⟩, false⟩ rfl rfl rfl (by rfl)) hS ?_
  simp only [Act.put, List.setIfInBounds_toArray, List.set_cons_zero, List.set_cons_succ]
  refine takeAt 4 18 (.bool true) rfl rfl (by kernel_rfl) (by kernel_rfl) (by kernel_rfl) (fun _ _ _ h => h) (yields (by rfl) (fun w => by kernel_rfl)) hS ?_
  simp only [Act.put, List.setIfInBounds_toArray, List.set_cons_zero, List.set_cons_succ]
  refine takeAt 5 19 (.agg (facC ⟨SA, false, true, ⟨#[97, 98]⟩, false⟩)) rfl rfl (by kernel_rfl) (by kernel_rfl) (by kernel_rfl) (fun _ _ _ h => h) (loadF_y (u2.heap.size + 1) ⟨SA, false, true, ⟨#[97, 98]⟩, false⟩ (fun _ h => h.b2) rfl rfl (by rfl)) hS ?_
  simp only [Act.put, List.setIfInBounds_toArray, List.set_cons_zero, List.set_cons_succ]
  refine callAt 6 20 rfl rfl (by kernel_rfl) (by rfl) (by kernel_rfl) (H1.out _) ?_
  rintro e v1 ⟨rfl, hb⟩
  have hS := hS.call hb
  clear hb
  refine ⟨_, rfl, hS, ?_⟩
  simp only [Act.put, List.setIfInBounds_toArray, List.set_cons_zero, List.set_cons_succ]
  refine takeAt 7 21 (.agg (facC ⟨SA, false, true, ⟨#[97, 98]⟩, false⟩)) rfl rfl (by kernel_rfl) (by kernel_rfl) (by kernel_rfl) (fun _ _ _ h => h) (yields (by rfl) (fun w => by kernel_rfl)) hS ?_
  simp only [Act.put, List.setIfInBounds_toArray, List.set_cons_zero, List.set_cons_succ]
  refine takeAt 8 22 (.bool true) rfl rfl (by kernel_rfl) (by kernel_rfl) (by kernel_rfl) (fun _ _ _ h => h) (eqFc_y ⟨SA, false, true, ⟨#[97, 98]⟩, false⟩ rfl rfl rfl (by rfl)) hS ?_
  simp only [Act.put, List.setIfInBounds_toArray, List.set_cons_zero, List.set_cons_succ]
  refine takeAt 9 23 (.bool true) rfl rfl (by kernel_rfl) (by kernel_rfl) (by kernel_rfl) (fun _ _ _ h => h) (yields (by rfl) (fun w => by kernel_rfl)) hS ?_
  simp only [Act.put, List.setIfInBounds_toArray, List.set_cons_zero, List.set_cons_succ]
  refine takeAt 10 24 (.bool true) rfl rfl (by kernel_rfl) (by kernel_rfl) (by kernel_rfl) (fun _ _ _ h => h) (yields (by rfl) (fun w => by kernel_rfl)) hS ?_
  simp only [Act.put, List.setIfInBounds_toArray, List.set_cons_zero, List.set_cons_succ]
  refine takeAt 11 25 (.agg (facC ⟨SB, false, false, ⟨#[]⟩, false⟩)) rfl rfl (by kernel_rfl) (by kernel_rfl) (by kernel_rfl) (fun _ _ _ h => h) (loadF_y (u2.heap.size + 1 + 1) ⟨SB, false, false, ⟨#[]⟩, false⟩ (fun _ h => h.b3) rfl rfl (by rfl)) hS ?_
  simp only [Act.put, List.setIfInBounds_toArray, List.set_cons_zero, List.set_cons_succ]
  refine callAt 12 26 rfl rfl (by kernel_rfl) (by rfl) (by kernel_rfl) (H2.out _) ?_
  rintro e v1 ⟨rfl, hb⟩
  have hS := hS.call hb
  clear hb
  refine ⟨_, rfl, hS, ?_⟩
  simp only [Act.put, List.setIfInBounds_toArray, List.set_cons_zero, List.set_cons_succ]
  refine takeAt 13 27 (.agg (facC ⟨SB, false, false, ⟨#[]⟩, false⟩)) rfl rfl (by kernel_rfl) (by kernel_rfl) (by kernel_rfl) (fun _ _ _ h => h) (yields (by rfl) (fun w => by kernel_rfl)) hS ?_
  simp only [Act.put, List.setIfInBounds_toArray, List.set_cons_zero, List.set_cons_succ]
  refine takeAt 14 28 (.bool true) rfl rfl (by kernel_rfl) (by kernel_rfl) (by kernel_rfl) (fun _ _ _ h => h) (eqFc_y ⟨SB, false, false, ⟨#[]⟩, false⟩ rfl rfl rfl (by rfl)) hS ?_
  simp only [Act.put, List.setIfInBounds_toArray, List.set_cons_zero, List.set_cons_succ]
  refine takeAt 15 29 (.bool true) rfl rfl (by kernel_rfl) (by kernel_rfl) (by kernel_rfl) (fun _ _ _ h => h) (yields (by rfl) (fun w => by kernel_rfl)) hS ?_
  simp only [Act.put, List.setIfInBounds_toArray, List.set_cons_zero, List.set_cons_succ]
  refine takeAt 16 30 (.bool true) rfl rfl (by kernel_rfl) (by kernel_rfl) (by kernel_rfl) (fun _ _ _ h => h) (yields (by rfl) (fun w => by kernel_rfl)) hS ?_
  simp only [Act.put, List.setIfInBounds_toArray, List.set_cons_zero, List.set_cons_succ]
  as_aux_lemma =>
    refine takeAt 17 31 (.int .i64 3) rfl rfl (by kernel_rfl) (by kernel_rfl) (by kernel_rfl) (fun _ _ _ h => h) (yields (by rfl) (fun w => by kernel_rfl)) hS ?_
    simp only [Act.put, List.setIfInBounds_toArray, List.set_cons_zero, List.set_cons_succ]
    refine takeAt 18 32 (.bool true) rfl rfl (by kernel_rfl) (by kernel_rfl) (by kernel_rfl) (fun _ _ _ h => h) (yields (by rfl) (fun w => by kernel_rfl)) hS ?_
    simp only [Act.put, List.setIfInBounds_toArray, List.set_cons_zero, List.set_cons_succ]
    refine takeAt 19 33 (.bool true) rfl rfl (by kernel_rfl) (by kernel_rfl) (by kernel_rfl) (fun _ _ _ h => h) (yields (by rfl) (fun w => by kernel_rfl)) hS ?_
    simp only [Act.put, List.setIfInBounds_toArray, List.set_cons_zero, List.set_cons_succ]
    refine takeAt 20 34 (.bool true) rfl rfl (by kernel_rfl) (by kernel_rfl) (by kernel_rfl) (fun _ _ _ h => h) (yields (by rfl) (fun w => by kernel_rfl)) hS ?_
    simp only [Act.put, List.setIfInBounds_toArray, List.set_cons_zero, List.set_cons_succ]
    refine takeAt 21 35 (.agg (facC ⟨SA, false, false, ⟨#[]⟩, false⟩)) rfl rfl (by kernel_rfl) (by kernel_rfl) (by kernel_rfl) (fun _ _ _ h => h) (loadF_y u2.heap.size ⟨SA, false, false, ⟨#[]⟩, false⟩ (fun _ h => h.b1) rfl rfl (by rfl)) hS ?_
    simp only [Act.put, List.setIfInBounds_toArray, List.set_cons_zero, List.set_cons_succ]
    refine callAt 22 36 rfl rfl (by kernel_rfl) (by rfl) (by kernel_rfl) (O0.out _) ?_
    rintro e v1 ⟨rfl, hb⟩
    have hS := hS.call hb
    clear hb
    refine ⟨_, rfl, hS, ?_⟩
    simp only [Act.put, List.setIfInBounds_toArray, List.set_cons_zero, List.set_cons_succ]
    refine takeAt 23 37 (.bool true) rfl rfl (by kernel_rfl) (by kernel_rfl) (by kernel_rfl) (fun _ _ _ h => h) (yields (by rfl) (fun w => by kernel_rfl)) hS ?_
    simp only [Act.put, List.setIfInBounds_toArray, List.set_cons_zero, List.set_cons_succ]
    refine takeAt 24 38 (.bool true) rfl rfl (by kernel_rfl) (by kernel_rfl) (by kernel_rfl) (fun _ _ _ h => h) (yields (by rfl) (fun w => by kernel_rfl)) hS ?_
    simp only [Act.put, List.setIfInBounds_toArray, List.set_cons_zero, List.set_cons_succ]
    refine takeAt 25 39 (.agg (facC ⟨SA, false, false, ⟨#[]⟩, false⟩)) rfl rfl (by kernel_rfl) (by kernel_rfl) (by kernel_rfl) (fun _ _ _ h => h) (loadF_y u2.heap.size ⟨SA, false, false, ⟨#[]⟩, false⟩ (fun _ h => h.b1) rfl rfl (by rfl)) hS ?_
    simp only [Act.put, List.setIfInBounds_toArray, List.set_cons_zero, List.set_cons_succ]
    refine callAt 26 40 rfl rfl (by kernel_rfl) (by rfl) (by kernel_rfl) (O1.out _) ?_
    rintro e v1 ⟨rfl, hb⟩
    have hS := hS.call hb
    clear hb
    refine ⟨_, rfl, hS, ?_⟩
    simp only [Act.put, List.setIfInBounds_toArray, List.set_cons_zero, List.set_cons_succ]
    refine takeAt 27 41 (.bool true) rfl rfl (by kernel_rfl) (by kernel_rfl) (by kernel_rfl) (fun _ _ _ h => h) (yields (by rfl) (fun w => by kernel_rfl)) hS ?_
    simp only [Act.put, List.setIfInBounds_toArray, List.set_cons_zero, List.set_cons_succ]
    refine takeAt 28 42 (.bool true) rfl rfl (by kernel_rfl) (by kernel_rfl) (by kernel_rfl) (fun _ _ _ h => h) (yields (by rfl) (fun w => by kernel_rfl)) hS ?_
    simp only [Act.put, List.setIfInBounds_toArray, List.set_cons_zero, List.set_cons_succ]
    refine takeAt 29 43 (.bool true) rfl rfl (by kernel_rfl) (by kernel_rfl) (by kernel_rfl) (fun _ _ _ h => h) (yields (by rfl) (fun w => by kernel_rfl)) hS ?_
    simp only [Act.put, List.setIfInBounds_toArray, List.set_cons_zero, List.set_cons_succ]
    refine takeAt 30 44 (.agg (facC ⟨SA, false, false, ⟨#[]⟩, false⟩)) rfl rfl (by kernel_rfl) (by kernel_rfl) (by kernel_rfl) (fun _ _ _ h => h) (loadF_y u2.heap.size ⟨SA, false, false, ⟨#[]⟩, false⟩ (fun _ h => h.b1) rfl rfl (by rfl)) hS ?_
    simp only [Act.put, List.setIfInBounds_toArray, List.set_cons_zero, List.set_cons_succ]
    refine callAt 31 45 rfl rfl (by kernel_rfl) (by rfl) (by kernel_rfl) (O2.out _) ?_
    rintro e v1 ⟨rfl, hb⟩
    have hS := hS.call hb
    clear hb
    refine ⟨_, rfl, hS, ?_⟩
    simp only [Act.put, List.setIfInBounds_toArray, List.set_cons_zero, List.set_cons_succ]
    refine takeAt 32 46 (.bool true) rfl rfl (by kernel_rfl) (by kernel_rfl) (by kernel_rfl) (fun _ _ _ h => h) (yields (by rfl) (fun w => by kernel_rfl)) hS ?_
    simp only [Act.put, List.setIfInBounds_toArray, List.set_cons_zero, List.set_cons_succ]
    refine takeAt 33 47 (.bool true) rfl rfl (by kernel_rfl) (by kernel_rfl) (by kernel_rfl) (fun _ _ _ h => h) (yields (by rfl) (fun w => by kernel_rfl)) hS ?_
    simp only [Act.put, List.setIfInBounds_toArray, List.set_cons_zero, List.set_cons_succ]
    as_aux_lemma =>
      refine takeAt 34 48 (.agg (facC ⟨SA, false, false, ⟨#[]⟩, false⟩)) rfl rfl (by kernel_rfl) (by kernel_rfl) (by kernel_rfl) (fun _ _ _ h => h) (loadF_y u2.heap.size ⟨SA, false, false, ⟨#[]⟩, false⟩ (fun _ h => h.b1) rfl rfl (by rfl)) hS ?_
      simp only [Act.put, List.setIfInBounds_toArray, List.set_cons_zero, List.set_cons_succ]
      refine callAt 35 49 rfl rfl (by kernel_rfl) (by rfl) (by kernel_rfl) (O3.out _) ?_
      rintro e v1 ⟨rfl, hb⟩
      have hS := hS.call hb
      clear hb
      refine ⟨_, rfl, hS, ?_⟩
      simp only [Act.put, List.setIfInBounds_toArray, List.set_cons_zero, List.set_cons_succ]
      refine takeAt 36 50 (.bool true) rfl rfl (by kernel_rfl) (by kernel_rfl) (by kernel_rfl) (fun _ _ _ h => h) (yields (by rfl) (fun w => by kernel_rfl)) hS ?_
      simp only [Act.put, List.setIfInBounds_toArray, List.set_cons_zero, List.set_cons_succ]
      refine takeAt 37 51 (.bool true) rfl rfl (by kernel_rfl) (by kernel_rfl) (by kernel_rfl) (fun _ _ _ h => h) (yields (by rfl) (fun w => by kernel_rfl)) hS ?_
      simp only [Act.put, List.setIfInBounds_toArray, List.set_cons_zero, List.set_cons_succ]
      refine takeAt 38 52 (.bool true) rfl rfl (by kernel_rfl) (by kernel_rfl) (by kernel_rfl) (fun _ _ _ h => h) (yields (by rfl) (fun w => by kernel_rfl)) hS ?_
      simp only [Act.put, List.setIfInBounds_toArray, List.set_cons_zero, List.set_cons_succ]
      refine takeAt 39 53 (.agg (facC ⟨SA, false, true, ⟨#[97, 98]⟩, false⟩)) rfl rfl (by kernel_rfl) (by kernel_rfl) (by kernel_rfl) (fun _ _ _ h => h) (loadF_y (u2.heap.size + 1) ⟨SA, false, true, ⟨#[97, 98]⟩, false⟩ (fun _ h => h.b2) rfl rfl (by rfl)) hS ?_
      simp only [Act.put, List.setIfInBounds_toArray, List.set_cons_zero, List.set_cons_succ]
      refine callAt 40 54 rfl rfl (by kernel_rfl) (by rfl) (by kernel_rfl) (O4.out _) ?_
      rintro e v1 ⟨rfl, hb⟩
      have hS := hS.call hb
      clear hb
      refine ⟨_, rfl, hS, ?_⟩
      simp only [Act.put, List.setIfInBounds_toArray, List.set_cons_zero, List.set_cons_succ]
      refine takeAt 41 55 (.bool true) rfl rfl (by kernel_rfl) (by kernel_rfl) (by kernel_rfl) (fun _ _ _ h => h) (yields (by rfl) (fun w => by kernel_rfl)) hS ?_
      simp only [Act.put, List.setIfInBounds_toArray, List.set_cons_zero, List.set_cons_succ]
      refine takeAt 42 56 (.bool true) rfl rfl (by kernel_rfl) (by kernel_rfl) (by kernel_rfl) (fun _ _ _ h => h) (yields (by rfl) (fun w => by kernel_rfl)) hS ?_
      simp only [Act.put, List.setIfInBounds_toArray, List.set_cons_zero, List.set_cons_succ]
      refine takeAt 43 57 (.agg (facC ⟨SA, false, true, ⟨#[97, 98]⟩, false⟩)) rfl rfl (by kernel_rfl) (by kernel_rfl) (by kernel_rfl) (fun _ _ _ h => h) (loadF_y (u2.heap.size + 1) ⟨SA, false, true, ⟨#[97, 98]⟩, false⟩ (fun _ h => h.b2) rfl rfl (by rfl)) hS ?_
      simp only [Act.put, List.setIfInBounds_toArray, List.set_cons_zero, List.set_cons_succ]
      refine callAt 44 58 rfl rfl (by kernel_rfl) (by rfl) (by kernel_rfl) (O5.out _) ?_
      rintro e v1 ⟨rfl, hb⟩
      have hS := hS.call hb
      clear hb
      refine ⟨_, rfl, hS, ?_⟩
      simp only [Act.put, List.setIfInBounds_toArray, List.set_cons_zero, List.set_cons_succ]
      refine takeAt 45 59 (.bool true) rfl rfl (by kernel_rfl) (by kernel_rfl) (by kernel_rfl) (fun _ _ _ h => h) (yields (by rfl) (fun w => by kernel_rfl)) hS ?_
      simp only [Act.put, List.setIfInBounds_toArray, List.set_cons_zero, List.set_cons_succ]
      refine takeAt 46 60 (.bool true) rfl rfl (by kernel_rfl) (by kernel_rfl) (by kernel_rfl) (fun _ _ _ h => h) (yields (by rfl) (fun w => by kernel_rfl)) hS ?_
      simp only [Act.put, List.setIfInBounds_toArray, List.set_cons_zero, List.set_cons_succ]
      refine takeAt 47 61 (.bool true) rfl rfl (by kernel_rfl) (by kernel_rfl) (by kernel_rfl) (fun _ _ _ h => h) (yields (by rfl) (fun w => by kernel_rfl)) hS ?_
      simp only [Act.put, List.setIfInBounds_toArray, List.set_cons_zero, List.set_cons_succ]
      refine takeAt 48 62 (.agg (facC ⟨SA, false, true, ⟨#[97, 98]⟩, false⟩)) rfl rfl (by kernel_rfl) (by kernel_rfl) (by kernel_rfl) (fun _ _ _ h => h) (loadF_y (u2.heap.size + 1) ⟨SA, false, true, ⟨#[97, 98]⟩, false⟩ (fun _ h => h.b2) rfl rfl (by rfl)) hS ?_
      simp only [Act.put, List.setIfInBounds_toArray, List.set_cons_zero, List.set_cons_succ]
      refine callAt 49 63 rfl rfl (by kernel_rfl) (by rfl) (by kernel_rfl) (O6.out _) ?_
      rintro e v1 ⟨rfl, hb⟩
      have hS := hS.call hb
      clear hb
      refine ⟨_, rfl, hS, ?_⟩
      simp only [Act.put, List.setIfInBounds_toArray, List.set_cons_zero, List.set_cons_succ]
      refine takeAt 50 64 (.bool true) rfl rfl (by kernel_rfl) (by kernel_rfl) (by kernel_rfl) (fun _ _ _ h => h) (yields (by rfl) (fun w => by kernel_rfl)) hS ?_
      simp only [Act.put, List.setIfInBounds_toArray, List.set_cons_zero, List.set_cons_succ]
      refine takeAt 51 65 (.bool true) rfl rfl (by kernel_rfl) (by kernel_rfl) (by kernel_rfl) (fun _ _ _ h => h) (yields (by rfl) (fun w => by kernel_rfl)) hS ?_
      simp only [Act.put, List.setIfInBounds_toArray, List.set_cons_zero, List.set_cons_succ]
      as_aux_lemma =>
        refine callAt 52 66 rfl rfl (by kernel_rfl) (by rfl) (by kernel_rfl) (P3.out _ hS.tabs) ?_
        rintro e v1 ⟨rfl, hb⟩
        have hS := hS.call hb
        clear hb
        refine ⟨_, rfl, hS, ?_⟩
        simp only [Act.put, List.setIfInBounds_toArray, List.set_cons_zero, List.set_cons_succ]
        refine takeAt 53 67 (.bool true) rfl rfl (by kernel_rfl) (by kernel_rfl) (by kernel_rfl) (fun _ _ _ h => h) (yields (by rfl) (fun w => by kernel_rfl)) hS ?_
        simp only [Act.put, List.setIfInBounds_toArray, List.set_cons_zero, List.set_cons_succ]
        refine takeAt 54 68 (.bool true) rfl rfl (by kernel_rfl) (by kernel_rfl) (by kernel_rfl) (fun _ _ _ h => h) (yields (by rfl) (fun w => by kernel_rfl)) hS ?_
        simp only [Act.put, List.setIfInBounds_toArray, List.set_cons_zero, List.set_cons_succ]
        refine takeAt 55 69 (.bool true) rfl rfl (by kernel_rfl) (by kernel_rfl) (by kernel_rfl) (fun _ _ _ h => h) (yields (by rfl) (fun w => by kernel_rfl)) hS ?_
        simp only [Act.put, List.setIfInBounds_toArray, List.set_cons_zero, List.set_cons_succ]
        refine callAt 56 70 rfl rfl (by kernel_rfl) (by rfl) (by kernel_rfl) (P4.out _ hS.tabs) ?_
        rintro e v1 ⟨rfl, hb⟩
        have hS := hS.call hb
        clear hb
        refine ⟨_, rfl, hS, ?_⟩
        simp only [Act.put, List.setIfInBounds_toArray, List.set_cons_zero, List.set_cons_succ]
        refine takeAt 57 71 (.string ⟨#[97, 98]⟩) rfl rfl (by kernel_rfl) (by kernel_rfl) (by kernel_rfl) (fun _ _ _ h => h) (yields (by rfl) (fun w => by kernel_rfl)) hS ?_
        simp only [Act.put, List.setIfInBounds_toArray, List.set_cons_zero, List.set_cons_succ]
        refine takeAt 58 72 (.bool true) rfl rfl (by kernel_rfl) (by kernel_rfl) (by kernel_rfl) (fun _ _ _ h => h) (eqStr_y ⟨#[97, 98]⟩ rfl rfl (by rfl)) hS ?_
        simp only [Act.put, List.setIfInBounds_toArray, List.set_cons_zero, List.set_cons_succ]
        refine takeAt 59 73 (.bool true) rfl rfl (by kernel_rfl) (by kernel_rfl) (by kernel_rfl) (fun _ _ _ h => h) (yields (by rfl) (fun w => by kernel_rfl)) hS ?_
        simp only [Act.put, List.setIfInBounds_toArray, List.set_cons_zero, List.set_cons_succ]
        refine takeAt 60 0 (.bool true) rfl rfl (by kernel_rfl) (by kernel_rfl) (by kernel_rfl) (fun _ _ _ h => h) (yields (by rfl) (fun w => by kernel_rfl)) hS ?_
        simp only [Act.put, List.setIfInBounds_toArray, List.set_cons_zero]
        refine wpAnyH_done (by kernel_rfl) ?_ _
        have HF := Lib.hid hS
        clear hS
        go_wp2
        go_ret
        exact ⟨rfl, HB.out.trans (HF.out.below.mono HB.out.size)⟩
end Go.Proofs.YtkpijnodhlonfaaGreatDoor
