/-
  Layer 9: the walk of the statement FactsRest.
-/
import Derived.Test.YtkpijnodhlonfaaGreatDoorFacE
import Derived.Test.YtkpijnodhlonfaaGreatDoorFacStrK
namespace Go.Proofs.YtkpijnodhlonfaaGreatDoor
open Go.RowKit

theorem out_rest {F : BitVec 256} {op : Bool} {pr t : ByteArray} {k : Nat} (hk : k ≤ t.size) : outZ ⟨F, op, false, pr, false⟩ (t.extract k t.size) 0 = outZ ⟨F, op, false, pr, false⟩ t k := by
  have hs := rest_size t k hk
  have hb : bt (t.extract k t.size) 0 = bt t k := by
    by_cases h : k < t.size
    · exact rest_bt h
    · rw [bt_no (by omega), bt_no (by omega)]
  unfold outZ
  rw [decide_eq_true (show (0 : Int) ≤ 0 ∧ (0 : Int) ≤ ((t.extract k t.size).size : Int) by omega), decide_eq_true (show (0 : Int) ≤ (k : Int) ∧ (k : Int) ≤ (t.size : Int) by omega)]
  rw [show (0 : Int).toNat = 0 from rfl, Int.toNat_natCast, hb, rest_start hk]
  simp
theorem out_fast {F : BitVec 256} {op : Bool} {pr t : ByteArray} {k : Nat} (hk : k ≤ t.size) : outZ ⟨F, op, true, pr, false⟩ t k = (outZ ⟨F, op, false, pr, false⟩ t k || decide ((0 : Int) < (k : Int))) := by
  unfold outZ
  rw [decide_eq_true (show (0 : Int) ≤ (k : Int) ∧ (k : Int) ≤ (t.size : Int) by omega)]
  simp only [Bool.true_and, Bool.false_and, Bool.false_or]
  generalize (!op && !mem F (bt t (k : Int).toNat)) = A
  generalize decide ((0 : Int) < (k : Int)) = d
  generalize (!startB t (k : Int).toNat pr) = N
  cases A <;> cases d <;> cases N <;> rfl
theorem out_beyond {k : FK} {t : ByteArray} {z : Int} (h : ¬ (0 ≤ z ∧ z ≤ (t.size : Int))) : outZ k t z = false := by
  unfold outZ
  rw [decide_eq_false h, Bool.false_and]
/-- The boxes of both facts. -/
structure RBx (F : BitVec 256) (op : Bool) (p : ByteArray) (w0 w : World) : Prop where
  below : Below w0.heap.size w0 w
  b1 : BoxF w w0.heap.size ⟨F, op, false, p, false⟩
  b2 : BoxF w (w0.heap.size + 1) ⟨F, op, true, p, false⟩
theorem RBx.call {F : BitVec 256} {op : Bool} {p : ByteArray} {w0 w w' : World} (h : RBx F op p w0 w) (hb : Below w.heap.size w w') : RBx F op p w0 w' :=
  ⟨thenB h.below hb h.below.size, h.b1.below hb h.b1.lt, h.b2.below hb h.b2.lt⟩
set_option maxRecDepth 100000 in
set_option maxHeartbeats 16000000 in
theorem factsRest_any (K : PKit) (k : FK) (s : ByteArray) (b : Nat) (w : World) (hb8 : b < 256) (hw : Tabs w) :
    Calls Tryz.prog 7 #[.agg (facC k), .string s, .int .u8 (b : Int)] w fun e w' => e = .returned (.bool true) ∧ Below w.heap.size w w' := by
  obtain ⟨F, op, fa, pr, wh⟩ := k
  obtain ⟨t, ht⟩ : ∃ t, t = s.extract 0 (min s.size 200) := ⟨_, rfl⟩
  obtain ⟨p, hp⟩ : ∃ p, p = pr.extract 0 (min pr.size 200) := ⟨_, rfl⟩
  have hts : t.size ≤ 200 := by rw [ht, ByteArray.size_extract]; omega
  obtain ⟨kk, hkk⟩ : ∃ kk, kk = b % (t.size + 1) := ⟨_, rfl⟩
  have hk : kk ≤ t.size := by have := Nat.mod_lt b (show 0 < t.size + 1 by omega); omega
  have O1 := Lib.hid (fun w => out_any9 ⟨F, op, false, p, false⟩ t (kk : Int) w (by omega))
  have O2 := Lib.hid (fun w => out_any9 ⟨F, op, false, p, false⟩ (t.extract kk t.size) 0 w (by rw [rest_size t kk hk]; omega))
  have O3 := Lib.hid (fun w => out_any9 ⟨F, op, true, p, false⟩ t (kk : Int) w (by omega))
  have O4 := Lib.hid (fun w => out_any9 ⟨F, op, false, p, false⟩ t ((t.size : Int) + 1) w (by omega))
  have O5 := Lib.hid (fun w => out_any9 ⟨F, op, false, p, false⟩ t (-1) w (by omega))
  rw [out_rest hk] at O2
  rw [out_fast hk] at O3
  rw [out_beyond (by omega)] at O4 O5
  generalize outZ ⟨F, op, false, p, false⟩ t (kk : Int) = X at O1 O2 O3
  obtain ⟨dk, hdk⟩ : ∃ d, decide ((0 : Int) < (kk : Int)) = d := ⟨_, rfl⟩
  rw [hdk] at O3
  have HFix := Lib.hid (fun w h => fixed9_any K w h)
  have HT := Lib.hid hw
  have h8 := Lib.hid (show ((b : Int)).tmod ((t.size : Int) + 1) = (kk : Int) from by rw [Int.tmod_eq_emod_of_nonneg (by omega), hkk]; simp)
  have HK := Lib.hid hk
  have Ht := Lib.hid ht
  have Hp := Lib.hid hp
  clear hw K hkk hk ht hp
  go_enter Tryz.func7, Tryz.ntmps7
  go_wp2_with (refine lineY (S := fun _ => True) (.int .i64 ((min s.size 200 : Nat) : Int)) (min9_y s.size 200 rfl rfl (by rfl)) trivial ?_; refine StopS.out ?_)
  refine ⟨?_⟩
  refine lineY (S := fun _ => True) (.string t) (by rw [Ht.out]; exact sliceTo9_y s (min s.size 200) (by omega) rfl rfl rfl (by rfl)) trivial ?_
  try simp only [Act.put, List.setIfInBounds_toArray, List.set_cons_zero, List.set_cons_succ]
  go_wp2_with (refine lineY (S := fun _ => True) (.int .i64 ((min pr.size 200 : Nat) : Int)) (min9_y pr.size 200 rfl rfl (by rfl)) trivial ?_; refine StopS.out ?_)
  refine ⟨?_⟩
  refine lineY (S := fun _ => True) (.string p) (by rw [Hp.out]; exact sliceTo9_y pr (min pr.size 200) (by omega) rfl rfl rfl (by rfl)) trivial ?_
  try simp only [Act.put, List.setIfInBounds_toArray, List.set_cons_zero, List.set_cons_succ]
  have z1 : (t.size : Int) ≤ 200 := by omega
  have z0 : (0 : Int) ≤ (t.size : Int) := by omega
  go_wp2_with (refine lineY (S := fun _ => True) (.int .i64 (kk : Int)) (rem9_y (b : Int) ((t.size : Int) + 1) (kk : Int) (by omega) h8.out rfl rfl rfl (by rfl)) trivial ?_; refine StopS.out ?_)
  refine ⟨?_⟩
  try simp only [Act.put, List.setIfInBounds_toArray, List.set_cons_zero, List.set_cons_succ]
  go_wp2_with fail
  refine (O1.out _).mono ?_
  rintro e u1 ⟨rfl, hb⟩
  have HS := Lib.hid (show RBx F op p w u1 from RBx.call ⟨by go_grown, BoxV.alloc (BoxV.new _ _) _, BoxV.new2 _ _ _⟩ hb)
  clear hb
  go_wp2_with fail
  refine wp_region_held_drew (S := fun u => RBx F op p w u) (by kernel_rfl) (show _ from HS.out.call (Below.refl _ _).drew) (fun hS => ?_)
  clear HS
  generalize World.drew _ = v0 at hS ⊢
  refine takeAt 0 36 (.bool X) rfl rfl (by kernel_rfl) (by kernel_rfl) (by kernel_rfl) (fun _ _ _ h => h) (yields (by rfl) (fun w => by kernel_rfl)) hS ?_
  simp only [Act.put, List.setIfInBounds_toArray, List.set_cons_zero, List.set_cons_succ]
  refine takeAt 1 37 (.agg (facC ⟨F, op, false, p, false⟩)) rfl rfl (by kernel_rfl) (by kernel_rfl) (by kernel_rfl) (fun _ _ _ h => h) (loadF_y w.heap.size ⟨F, op, false, p, false⟩ (fun _ h => h.b1) rfl rfl (by rfl)) hS ?_
  simp only [Act.put, List.setIfInBounds_toArray, List.set_cons_zero, List.set_cons_succ]
  refine takeAt 2 38 (.string t) rfl rfl (by kernel_rfl) (by kernel_rfl) (by kernel_rfl) (fun _ _ _ h => h) (yields (by rfl) (fun w => by kernel_rfl)) hS ?_
  simp only [Act.put, List.setIfInBounds_toArray, List.set_cons_zero, List.set_cons_succ]
  refine takeAt 3 39 (.int .i64 (kk : Int)) rfl rfl (by kernel_rfl) (by kernel_rfl) (by kernel_rfl) (fun _ _ _ h => h) (yields (by rfl) (fun w => by kernel_rfl)) hS ?_
  simp only [Act.put, List.setIfInBounds_toArray, List.set_cons_zero, List.set_cons_succ]
  refine takeAt 4 40 (.string (t.extract kk t.size)) rfl rfl (by kernel_rfl) (by kernel_rfl) (by kernel_rfl) (fun _ _ _ h => h) (sliceFrom9_y t kk HK.out rfl rfl rfl (by rfl)) hS ?_
  simp only [Act.put, List.setIfInBounds_toArray, List.set_cons_zero, List.set_cons_succ]
  refine callAt 5 41 rfl rfl (by kernel_rfl) (by rfl) (by kernel_rfl) (O2.out _) ?_
  rintro e v1 ⟨rfl, hb⟩
  have hS := hS.call hb
  clear hb
  refine ⟨_, rfl, hS, ?_⟩
  simp only [Act.put, List.setIfInBounds_toArray, List.set_cons_zero, List.set_cons_succ]
  refine takeAt 6 42 (.bool true) rfl rfl (by kernel_rfl) (by kernel_rfl) (by kernel_rfl) (fun _ _ _ h => h) (eqB9_y X rfl rfl rfl (by rfl)) hS ?_
  simp only [Act.put, List.setIfInBounds_toArray, List.set_cons_zero, List.set_cons_succ]
  refine takeAt 7 43 (.bool true) rfl rfl (by kernel_rfl) (by kernel_rfl) (by kernel_rfl) (fun _ _ _ h => h) (yields (by rfl) (fun w => by kernel_rfl)) hS ?_
  simp only [Act.put, List.setIfInBounds_toArray, List.set_cons_zero, List.set_cons_succ]
  refine takeAt 8 44 (.agg (facC ⟨F, op, true, p, false⟩)) rfl rfl (by kernel_rfl) (by kernel_rfl) (by kernel_rfl) (fun _ _ _ h => h) (loadF_y (w.heap.size + 1) ⟨F, op, true, p, false⟩ (fun _ h => h.b2) rfl rfl (by rfl)) hS ?_
  simp only [Act.put, List.setIfInBounds_toArray, List.set_cons_zero, List.set_cons_succ]
  refine takeAt 9 45 (.string t) rfl rfl (by kernel_rfl) (by kernel_rfl) (by kernel_rfl) (fun _ _ _ h => h) (yields (by rfl) (fun w => by kernel_rfl)) hS ?_
  simp only [Act.put, List.setIfInBounds_toArray, List.set_cons_zero, List.set_cons_succ]
  refine takeAt 10 46 (.int .i64 (kk : Int)) rfl rfl (by kernel_rfl) (by kernel_rfl) (by kernel_rfl) (fun _ _ _ h => h) (yields (by rfl) (fun w => by kernel_rfl)) hS ?_
  simp only [Act.put, List.setIfInBounds_toArray, List.set_cons_zero, List.set_cons_succ]
  refine takeAt 12 48 (.bool X) rfl rfl (by kernel_rfl) (by kernel_rfl) (by kernel_rfl) (fun _ _ _ h => h) (yields (by rfl) (fun w => by kernel_rfl)) hS ?_
  simp only [Act.put, List.setIfInBounds_toArray, List.set_cons_zero, List.set_cons_succ]
  refine callAt 11 47 rfl rfl (by kernel_rfl) (by rfl) (by kernel_rfl) (O3.out _) ?_
  rintro e v1 ⟨rfl, hb⟩
  have hS := hS.call hb
  clear hb
  refine ⟨_, rfl, hS, ?_⟩
  simp only [Act.put, List.setIfInBounds_toArray, List.set_cons_zero, List.set_cons_succ]
  refine takeAt 13 49 (.bool X) rfl rfl (by kernel_rfl) (by kernel_rfl) (by kernel_rfl) (fun _ _ _ h => h) (yields (by rfl) (fun w => by kernel_rfl)) hS ?_
  simp only [Act.put, List.setIfInBounds_toArray, List.set_cons_zero, List.set_cons_succ]
  refine takeAt 14 50 ((cond X undef (.int .i64 (kk : Int)))) rfl rfl (by kernel_rfl) (by kernel_rfl) (by kernel_rfl) (fun _ _ _ h => h) (by cases X <;> first | exact yields (by rfl) (fun w => by kernel_rfl) | exact skipped (by rfl)) hS ?_
  simp only [Act.put, List.setIfInBounds_toArray, List.set_cons_zero, List.set_cons_succ]
  refine takeAt 15 51 ((cond X undef (.bool dk))) rfl rfl (by kernel_rfl) (by kernel_rfl) (by kernel_rfl) (fun _ _ _ h => h) (by cases X <;> first | exact gtr9_y (kk : Int) 0 dk hdk rfl rfl rfl (by rfl) | exact skipped (by rfl)) hS ?_
  simp only [Act.put, List.setIfInBounds_toArray, List.set_cons_zero, List.set_cons_succ]
  refine takeAt 16 52 (.bool (X || dk)) rfl rfl (by kernel_rfl) (by kernel_rfl) (by kernel_rfl) (fun _ _ _ h => h) (by cases X <;> first | exact yields (by rfl) (fun w => by kernel_rfl) | exact skipped (by rfl)) hS ?_
  simp only [Act.put, List.setIfInBounds_toArray, List.set_cons_zero, List.set_cons_succ]
  refine takeAt 17 53 (.bool true) rfl rfl (by kernel_rfl) (by kernel_rfl) (by kernel_rfl) (fun _ _ _ h => h) (eqB9_y (X || dk) rfl rfl rfl (by rfl)) hS ?_
  simp only [Act.put, List.setIfInBounds_toArray, List.set_cons_zero, List.set_cons_succ]
  refine takeAt 18 54 (.bool true) rfl rfl (by kernel_rfl) (by kernel_rfl) (by kernel_rfl) (fun _ _ _ h => h) (yields (by rfl) (fun w => by kernel_rfl)) hS ?_
  simp only [Act.put, List.setIfInBounds_toArray, List.set_cons_zero, List.set_cons_succ]
  refine takeAt 19 55 (.bool true) rfl rfl (by kernel_rfl) (by kernel_rfl) (by kernel_rfl) (fun _ _ _ h => h) (yields (by rfl) (fun w => by kernel_rfl)) hS ?_
  simp only [Act.put, List.setIfInBounds_toArray, List.set_cons_zero, List.set_cons_succ]
  refine takeAt 20 56 (.agg (facC ⟨F, op, false, p, false⟩)) rfl rfl (by kernel_rfl) (by kernel_rfl) (by kernel_rfl) (fun _ _ _ h => h) (loadF_y w.heap.size ⟨F, op, false, p, false⟩ (fun _ h => h.b1) rfl rfl (by rfl)) hS ?_
  simp only [Act.put, List.setIfInBounds_toArray, List.set_cons_zero, List.set_cons_succ]
  refine takeAt 21 57 (.string t) rfl rfl (by kernel_rfl) (by kernel_rfl) (by kernel_rfl) (fun _ _ _ h => h) (yields (by rfl) (fun w => by kernel_rfl)) hS ?_
  simp only [Act.put, List.setIfInBounds_toArray, List.set_cons_zero, List.set_cons_succ]
  refine takeAt 22 58 (.string t) rfl rfl (by kernel_rfl) (by kernel_rfl) (by kernel_rfl) (fun _ _ _ h => h) (yields (by rfl) (fun w => by kernel_rfl)) hS ?_
  simp only [Act.put, List.setIfInBounds_toArray, List.set_cons_zero, List.set_cons_succ]
  refine takeAt 23 59 (.int .i64 (t.size : Int)) rfl rfl (by kernel_rfl) (by kernel_rfl) (by kernel_rfl) (fun _ _ _ h => h) (len9_y t rfl rfl (by rfl)) hS ?_
  simp only [Act.put, List.setIfInBounds_toArray, List.set_cons_zero, List.set_cons_succ]
  refine takeAt 24 60 (.int .i64 ((t.size : Int) + 1)) rfl rfl (by kernel_rfl) (by kernel_rfl) (by kernel_rfl) (fun _ _ _ h => h) (add9_y (t.size : Int) 1 (by omega) (by omega) rfl rfl rfl (by rfl)) hS ?_
  simp only [Act.put, List.setIfInBounds_toArray, List.set_cons_zero, List.set_cons_succ]
  refine callAt 25 61 rfl rfl (by kernel_rfl) (by rfl) (by kernel_rfl) (O4.out _) ?_
  rintro e v1 ⟨rfl, hb⟩
  have hS := hS.call hb
  clear hb
  refine ⟨_, rfl, hS, ?_⟩
  simp only [Act.put, List.setIfInBounds_toArray, List.set_cons_zero, List.set_cons_succ]
  refine takeAt 26 62 (.bool true) rfl rfl (by kernel_rfl) (by kernel_rfl) (by kernel_rfl) (fun _ _ _ h => h) (yields (by rfl) (fun w => by kernel_rfl)) hS ?_
  simp only [Act.put, List.setIfInBounds_toArray, List.set_cons_zero, List.set_cons_succ]
  refine takeAt 27 63 (.bool true) rfl rfl (by kernel_rfl) (by kernel_rfl) (by kernel_rfl) (fun _ _ _ h => h) (yields (by rfl) (fun w => by kernel_rfl)) hS ?_
  simp only [Act.put, List.setIfInBounds_toArray, List.set_cons_zero, List.set_cons_succ]
  refine takeAt 28 64 (.bool true) rfl rfl (by kernel_rfl) (by kernel_rfl) (by kernel_rfl) (fun _ _ _ h => h) (yields (by rfl) (fun w => by kernel_rfl)) hS ?_
  simp only [Act.put, List.setIfInBounds_toArray, List.set_cons_zero, List.set_cons_succ]
  refine takeAt 29 65 (.agg (facC ⟨F, op, false, p, false⟩)) rfl rfl (by kernel_rfl) (by kernel_rfl) (by kernel_rfl) (fun _ _ _ h => h) (loadF_y w.heap.size ⟨F, op, false, p, false⟩ (fun _ h => h.b1) rfl rfl (by rfl)) hS ?_
  simp only [Act.put, List.setIfInBounds_toArray, List.set_cons_zero, List.set_cons_succ]
  refine takeAt 30 66 (.string t) rfl rfl (by kernel_rfl) (by kernel_rfl) (by kernel_rfl) (fun _ _ _ h => h) (yields (by rfl) (fun w => by kernel_rfl)) hS ?_
  simp only [Act.put, List.setIfInBounds_toArray, List.set_cons_zero, List.set_cons_succ]
  refine callAt 31 67 rfl rfl (by kernel_rfl) (by rfl) (by kernel_rfl) (O5.out _) ?_
  rintro e v1 ⟨rfl, hb⟩
  have hS := hS.call hb
  clear hb
  refine ⟨_, rfl, hS, ?_⟩
  simp only [Act.put, List.setIfInBounds_toArray, List.set_cons_zero, List.set_cons_succ]
  refine takeAt 32 68 (.bool true) rfl rfl (by kernel_rfl) (by kernel_rfl) (by kernel_rfl) (fun _ _ _ h => h) (yields (by rfl) (fun w => by kernel_rfl)) hS ?_
  simp only [Act.put, List.setIfInBounds_toArray, List.set_cons_zero, List.set_cons_succ]
  refine takeAt 33 69 (.bool true) rfl rfl (by kernel_rfl) (by kernel_rfl) (by kernel_rfl) (fun _ _ _ h => h) (yields (by rfl) (fun w => by kernel_rfl)) hS ?_
  simp only [Act.put, List.setIfInBounds_toArray, List.set_cons_zero, List.set_cons_succ]
  refine takeAt 34 70 (.bool true) rfl rfl (by kernel_rfl) (by kernel_rfl) (by kernel_rfl) (fun _ _ _ h => h) (yields (by rfl) (fun w => by kernel_rfl)) hS ?_
  simp only [Act.put, List.setIfInBounds_toArray, List.set_cons_zero, List.set_cons_succ]
  refine callAt 35 71 rfl rfl (by kernel_rfl) (by rfl) (by kernel_rfl) (HFix.out _ (HT.out.call hS.below)) ?_
  rintro e v1 ⟨rfl, hb⟩
  have hS := hS.call hb
  clear hb
  refine ⟨_, rfl, hS, ?_⟩
  simp only [Act.put, List.setIfInBounds_toArray, List.set_cons_zero, List.set_cons_succ]
  refine takeAt 36 72 (.bool true) rfl rfl (by kernel_rfl) (by kernel_rfl) (by kernel_rfl) (fun _ _ _ h => h) (yields (by rfl) (fun w => by kernel_rfl)) hS ?_
  simp only [Act.put, List.setIfInBounds_toArray, List.set_cons_zero, List.set_cons_succ]
  refine takeAt 37 6 (.bool true) rfl rfl (by kernel_rfl) (by kernel_rfl) (by kernel_rfl) (fun _ _ _ h => h) (yields (by rfl) (fun w => by kernel_rfl)) hS ?_
  simp only [Act.put, List.setIfInBounds_toArray, List.set_cons_zero, List.set_cons_succ]
  refine wpAnyH_done (by kernel_rfl) ?_ _
  have HS := Lib.hid hS
  clear hS
  go_wp2
  go_ret
  exact ⟨rfl, HS.out.below⟩
end Go.Proofs.YtkpijnodhlonfaaGreatDoor
