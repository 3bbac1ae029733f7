/-
  Layer 9: the walk of the statement FactsOut.
-/
import Derived.Test.YtkpijnodhlonfaaGreatDoorFacRefO
import Derived.Test.YtkpijnodhlonfaaGreatDoorFacE
namespace Go.Proofs.YtkpijnodhlonfaaGreatDoor
open Go.RowKit

set_option maxRecDepth 100000 in
set_option maxHeartbeats 16000000 in
theorem factsOut_any (K : PKit) (k : FK) (s : ByteArray) (z : Int) (w : World) (hw : Tabs w) :
    Calls Tryz.prog 4 #[.agg (facC k), .string s, .int .i64 z] w fun e w' => e = .returned (.bool true) ∧ Below w.heap.size w w' := by
  obtain ⟨F, op, fa, pr, wh⟩ := k
  obtain ⟨t, ht⟩ : ∃ t, t = s.extract 0 (min s.size 200) := ⟨_, rfl⟩
  obtain ⟨p, hp⟩ : ∃ p, p = pr.extract 0 (min pr.size 200) := ⟨_, rfl⟩
  have hts : t.size ≤ 200 := by rw [ht, ByteArray.size_extract]; omega
  have O1 := Lib.hid (fun w => out_any9 ⟨F, op, fa, p, false⟩ t z w (by omega))
  have O2 := Lib.hid (fun w => rout_any9 ⟨F, op, fa, p, false⟩ t z w (by omega))
  have RR := Lib.hid (fun w => rref_any ⟨F, op, fa, p, false⟩ w)
  generalize outZ ⟨F, op, fa, p, false⟩ t z = X at O1 O2
  have HFix := Lib.hid (fun w h => fixed9_any K w h)
  have HT := Lib.hid hw
  have Ht := Lib.hid ht
  have Hp := Lib.hid hp
  have HS := Lib.hid (show (fun u => Below w.heap.size w u ∧ BoxF u w.heap.size ⟨F, op, fa, p, false⟩) (w.alloc (.cells (facC ⟨F, op, fa, p, false⟩) 31)) from ⟨by go_grown, BoxV.new _ _⟩)
  clear hw K ht hp hts
  go_enter Tryz.func4, Tryz.ntmps4
  go_wp2_with (refine lineY (S := fun _ => True) (.int .i64 ((min s.size 200 : Nat) : Int)) (min9_y s.size 200 rfl rfl (by rfl)) trivial ?_; refine StopS.out ?_)
  refine ⟨?_⟩
  refine lineY (S := fun _ => True) (.string t) (by rw [Ht.out]; exact sliceTo9_y s (min s.size 200) (by omega) rfl rfl rfl (by rfl)) trivial ?_
  try simp only [Act.put, List.setIfInBounds_toArray, List.set_cons_zero, List.set_cons_succ]
  go_wp2_with (refine lineY (S := fun _ => True) (.int .i64 ((min pr.size 200 : Nat) : Int)) (min9_y pr.size 200 rfl rfl (by rfl)) trivial ?_; refine StopS.out ?_)
  refine ⟨?_⟩
  refine lineY (S := fun _ => True) (.string p) (by rw [Hp.out]; exact sliceTo9_y pr (min pr.size 200) (by omega) rfl rfl rfl (by rfl)) trivial ?_
  try simp only [Act.put, List.setIfInBounds_toArray, List.set_cons_zero, List.set_cons_succ]
  go_wp2_with fail
  refine wp_region_held_drew (S := fun u => Below w.heap.size w u ∧ BoxF u w.heap.size ⟨F, op, fa, p, false⟩) (by kernel_rfl) (show _ from ⟨HS.out.1.trans ((Below.refl _ _).drew.mono HS.out.1.size), HS.out.2.drew⟩) (fun hS => ?_)
  clear HS
  generalize World.drew _ = v0 at hS ⊢
  refine takeAt 0 20 (.agg (facC ⟨F, op, fa, p, false⟩)) rfl rfl (by kernel_rfl) (by kernel_rfl) (by kernel_rfl) (fun _ _ _ h => h) (loadF_y w.heap.size ⟨F, op, fa, p, false⟩ (fun _ h => h.2) rfl rfl (by rfl)) hS ?_
  simp only [Act.put, List.setIfInBounds_toArray, List.set_cons_zero, List.set_cons_succ]
  refine takeAt 1 21 (.string t) rfl rfl (by kernel_rfl) (by kernel_rfl) (by kernel_rfl) (fun _ _ _ h => h) (yields (by rfl) (fun w => by kernel_rfl)) hS ?_
  simp only [Act.put, List.setIfInBounds_toArray, List.set_cons_zero, List.set_cons_succ]
  refine takeAt 2 22 (.int .i64 z) rfl rfl (by kernel_rfl) (by kernel_rfl) (by kernel_rfl) (fun _ _ _ h => h) (yields (by rfl) (fun w => by kernel_rfl)) hS ?_
  simp only [Act.put, List.setIfInBounds_toArray, List.set_cons_zero, List.set_cons_succ]
  refine takeAt 4 24 (.agg (facC ⟨F, op, fa, p, false⟩)) rfl rfl (by kernel_rfl) (by kernel_rfl) (by kernel_rfl) (fun _ _ _ h => h) (loadF_y w.heap.size ⟨F, op, fa, p, false⟩ (fun _ h => h.2) rfl rfl (by rfl)) hS ?_
  simp only [Act.put, List.setIfInBounds_toArray, List.set_cons_zero, List.set_cons_succ]
  refine takeAt 6 26 (.string t) rfl rfl (by kernel_rfl) (by kernel_rfl) (by kernel_rfl) (fun _ _ _ h => h) (yields (by rfl) (fun w => by kernel_rfl)) hS ?_
  simp only [Act.put, List.setIfInBounds_toArray, List.set_cons_zero, List.set_cons_succ]
  refine takeAt 7 27 (.int .i64 z) rfl rfl (by kernel_rfl) (by kernel_rfl) (by kernel_rfl) (fun _ _ _ h => h) (yields (by rfl) (fun w => by kernel_rfl)) hS ?_
  simp only [Act.put, List.setIfInBounds_toArray, List.set_cons_zero, List.set_cons_succ]
  refine callAt 3 23 rfl rfl (by kernel_rfl) (by rfl) (by kernel_rfl) (O1.out _) ?_
  rintro e v1 ⟨rfl, hb⟩
  have hS := And.intro (thenB hS.1 hb hS.1.size) (hS.2.below hb hS.2.lt)
  clear hb
  refine ⟨_, rfl, hS, ?_⟩
  simp only [Act.put, List.setIfInBounds_toArray, List.set_cons_zero, List.set_cons_succ]
  refine callAt 5 25 rfl rfl (by kernel_rfl) (by rfl) (by kernel_rfl) (RR.out _) ?_
  rintro e v1 ⟨rfl, hb⟩
  have hS := And.intro (thenB hS.1 hb hS.1.size) (hS.2.below hb hS.2.lt)
  clear hb
  refine ⟨_, rfl, hS, ?_⟩
  simp only [Act.put, List.setIfInBounds_toArray, List.set_cons_zero, List.set_cons_succ]
  refine callAt 8 28 rfl rfl (by kernel_rfl) (by rfl) (by kernel_rfl) (O2.out _) ?_
  rintro e v1 ⟨rfl, hb⟩
  have hS := And.intro (thenB hS.1 hb hS.1.size) (hS.2.below hb hS.2.lt)
  clear hb
  refine ⟨_, rfl, hS, ?_⟩
  simp only [Act.put, List.setIfInBounds_toArray, List.set_cons_zero, List.set_cons_succ]
  refine takeAt 9 29 (.bool true) rfl rfl (by kernel_rfl) (by kernel_rfl) (by kernel_rfl) (fun _ _ _ h => h) (eqB9_y X rfl rfl rfl (by rfl)) hS ?_
  simp only [Act.put, List.setIfInBounds_toArray, List.set_cons_zero, List.set_cons_succ]
  refine takeAt 10 30 (.bool true) rfl rfl (by kernel_rfl) (by kernel_rfl) (by kernel_rfl) (fun _ _ _ h => h) (yields (by rfl) (fun w => by kernel_rfl)) hS ?_
  simp only [Act.put, List.setIfInBounds_toArray, List.set_cons_zero, List.set_cons_succ]
  refine callAt 11 31 rfl rfl (by kernel_rfl) (by rfl) (by kernel_rfl) (HFix.out _ (HT.out.call hS.1)) ?_
  rintro e v1 ⟨rfl, hb⟩
  have hS := And.intro (thenB hS.1 hb hS.1.size) (hS.2.below hb hS.2.lt)
  clear hb
  refine ⟨_, rfl, hS, ?_⟩
  simp only [Act.put, List.setIfInBounds_toArray, List.set_cons_zero, List.set_cons_succ]
  refine takeAt 12 32 (.bool true) rfl rfl (by kernel_rfl) (by kernel_rfl) (by kernel_rfl) (fun _ _ _ h => h) (yields (by rfl) (fun w => by kernel_rfl)) hS ?_
  simp only [Act.put, List.setIfInBounds_toArray, List.set_cons_zero, List.set_cons_succ]
  refine takeAt 13 6 (.bool true) rfl rfl (by kernel_rfl) (by kernel_rfl) (by kernel_rfl) (fun _ _ _ h => h) (yields (by rfl) (fun w => by kernel_rfl)) hS ?_
  simp only [Act.put, List.setIfInBounds_toArray, List.set_cons_zero, List.set_cons_succ]
  refine wpAnyH_done (by kernel_rfl) ?_ _
  have HS := Lib.hid hS
  clear hS
  go_wp2
  go_ret
  exact ⟨rfl, HS.out.1⟩
end Go.Proofs.YtkpijnodhlonfaaGreatDoor
