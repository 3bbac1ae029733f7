/-
  The statement ClassHas: what its walk comes to.
-/
import Derived.Test.YtobhhhopkkcdiaaDoorRegionB
import Derived.Test.YtobhhhopkkcdiaaDoorLawsLaw
namespace Go.Proofs.YtobhhhopkkcdiaaDoor
open Go.RowKit

set_option maxHeartbeats 8000000 in
set_option maxRecDepth 100000 in
theorem classHas_Ztrue (hfix : FixedOk) (S : BitVec 256) (c : Nat) (w : World) (ht : TabOk w) (hc : c < 256) (q0 : S = 0#256) (hB : mem S c = true) (hnB : mem (notS S) c = false) (q1 : mem (orS S (oneS c)) c = true) (q2 : mem (andS S (notS (oneS c))) c = false) (q3 : decide ((0 : Int) < (lenS S : Int)) = false) :
    Calls Tryd.prog 7 #[setV S, .int .u8 (c : Int)] w fun e w' => e = .returned (.bool true) ∧ Below w.heap.size w w' := by
  have HF := Lib.hid hfix
  have HT := Lib.hid ht
  have H_q0 := Lib.hid q0
  have H_hB := Lib.hid hB
  have H_hnB := Lib.hid hnB
  have H_q1 := Lib.hid q1
  have H_q2 := Lib.hid q2
  have H_q3 := Lib.hid q3
  clear hfix ht q0 hB hnB q1 q2 q3
  go_enter Tryd.func7, Tryd.ntmps7
  go_wp2_with fail
  refine (min_no S _ H_q0.out).mono ?_
  rintro e w1 ⟨rfl, hb⟩
  have HS := Lib.hid (((Held.start HT.out).new S).call hb).drew
  clear hb
  go_wp2_with fail
  have hS := HS.out
  have q0 := H_q0.out
  have hB := H_hB.out
  have hnB := H_hnB.out
  have q1 := H_q1.out
  have q2 := H_q2.out
  have q3 := H_q3.out
  clear HS
  refine wp_region_held_drew (S := Held w [(w.heap.size, S)]) (by kernel_rfl) hS (fun _ => ?_)
  refine takeAt 0 12 (setV S) rfl rfl (by kernel_rfl) (by kernel_rfl) (by kernel_rfl) (fun _ _ _ h => h) (load_yields rfl rfl List.mem_cons_self (by rfl)) hS ?_
  simp only [Act.put, List.setIfInBounds_toArray, List.set_cons_zero, List.set_cons_succ]
  refine takeAt 1 13 (.int .u8 (c : Int)) rfl rfl (by kernel_rfl) (by kernel_rfl) (by kernel_rfl) (fun _ _ _ h => h) (yields (by rfl) (fun w => by kernel_rfl)) hS ?_
  simp only [Act.put, List.setIfInBounds_toArray, List.set_cons_zero, List.set_cons_succ]
  refine takeAt 4 16 (.int .u8 (c : Int)) rfl rfl (by kernel_rfl) (by kernel_rfl) (by kernel_rfl) (fun _ _ _ h => h) (yields (by rfl) (fun w => by kernel_rfl)) hS ?_
  simp only [Act.put, List.setIfInBounds_toArray, List.set_cons_zero, List.set_cons_succ]
  refine callAt 2 14 rfl rfl (by kernel_rfl) (by rfl) (by kernel_rfl) (oneAt_k _ c _ rfl (by omega)) ?_
  rintro e w' ⟨rfl, hb⟩
  refine ⟨_, rfl, hS.call hb, ?_⟩
  have hT1 := hS.call hb
  clear hS hb
  simp only [Act.put, List.setIfInBounds_toArray, List.set_cons_zero, List.set_cons_succ]
  refine callAt 3 15 rfl rfl (by kernel_rfl) (by rfl) (by kernel_rfl) (or_k S (oneS c) _) ?_
  rintro e w' ⟨rfl, hb⟩
  refine ⟨_, rfl, hT1.call hb, ?_⟩
  have hT2 := hT1.call hb
  clear hT1 hb
  simp only [Act.put, List.setIfInBounds_toArray, List.set_cons_zero, List.set_cons_succ]
  refine callAt 5 17 rfl rfl (by kernel_rfl) (by rfl) (by kernel_rfl) (has_k (orS S (oneS c)) _ c true _ rfl (by omega) q1) ?_
  rintro e w' ⟨rfl, hb⟩
  refine ⟨_, rfl, hT2.call hb, ?_⟩
  have hT3 := hT2.call hb
  clear hT2 hb
  simp only [Act.put, List.setIfInBounds_toArray, List.set_cons_zero, List.set_cons_succ]
  refine takeAt 6 18 (.bool false) rfl rfl (by kernel_rfl) (by kernel_rfl) (by kernel_rfl) (fun _ _ _ h => h) (yields (by rfl) (fun w => by kernel_rfl)) hT3 ?_
  simp only [Act.put, List.setIfInBounds_toArray, List.set_cons_zero, List.set_cons_succ]
  refine takeAt 7 19 (.bool false) rfl rfl (by kernel_rfl) (by kernel_rfl) (by kernel_rfl) (fun _ _ _ h => h) (yields (by rfl) (fun w => by kernel_rfl)) hT3 ?_
  simp only [Act.put, List.setIfInBounds_toArray, List.set_cons_zero, List.set_cons_succ]
  refine takeAt 8 20 (setV S) rfl rfl (by kernel_rfl) (by kernel_rfl) (by kernel_rfl) (fun _ _ _ h => h) (load_yields rfl rfl List.mem_cons_self (by rfl)) hT3 ?_
  simp only [Act.put, List.setIfInBounds_toArray, List.set_cons_zero, List.set_cons_succ]
  refine takeAt 9 21 (.int .u8 (c : Int)) rfl rfl (by kernel_rfl) (by kernel_rfl) (by kernel_rfl) (fun _ _ _ h => h) (yields (by rfl) (fun w => by kernel_rfl)) hT3 ?_
  simp only [Act.put, List.setIfInBounds_toArray, List.set_cons_zero, List.set_cons_succ]
  refine takeAt 13 25 (.int .u8 (c : Int)) rfl rfl (by kernel_rfl) (by kernel_rfl) (by kernel_rfl) (fun _ _ _ h => h) (yields (by rfl) (fun w => by kernel_rfl)) hT3 ?_
  simp only [Act.put, List.setIfInBounds_toArray, List.set_cons_zero, List.set_cons_succ]
  refine callAt 10 22 rfl rfl (by kernel_rfl) (by rfl) (by kernel_rfl) (oneAt_k _ c _ rfl (by omega)) ?_
  rintro e w' ⟨rfl, hb⟩
  refine ⟨_, rfl, hT3.call hb, ?_⟩
  have hT4 := hT3.call hb
  clear hT3 hb
  simp only [Act.put, List.setIfInBounds_toArray, List.set_cons_zero, List.set_cons_succ]
  refine callAt 11 23 rfl rfl (by kernel_rfl) (by rfl) (by kernel_rfl) (not_k (oneS c) _) ?_
  rintro e w' ⟨rfl, hb⟩
  refine ⟨_, rfl, hT4.call hb, ?_⟩
  have hT5 := hT4.call hb
  clear hT4 hb
  simp only [Act.put, List.setIfInBounds_toArray, List.set_cons_zero, List.set_cons_succ]
  refine callAt 12 24 rfl rfl (by kernel_rfl) (by rfl) (by kernel_rfl) (and_k S (notS (oneS c)) _) ?_
  rintro e w' ⟨rfl, hb⟩
  refine ⟨_, rfl, hT5.call hb, ?_⟩
  have hT6 := hT5.call hb
  clear hT5 hb
  simp only [Act.put, List.setIfInBounds_toArray, List.set_cons_zero, List.set_cons_succ]
  refine callAt 14 26 rfl rfl (by kernel_rfl) (by rfl) (by kernel_rfl) (has_k (andS S (notS (oneS c))) _ c false _ rfl (by omega) q2) ?_
  rintro e w' ⟨rfl, hb⟩
  refine ⟨_, rfl, hT6.call hb, ?_⟩
  have hT7 := hT6.call hb
  clear hT6 hb
  simp only [Act.put, List.setIfInBounds_toArray, List.set_cons_zero, List.set_cons_succ]
  refine takeAt 15 27 (.bool false) rfl rfl (by kernel_rfl) (by kernel_rfl) (by kernel_rfl) (fun _ _ _ h => h) (yields (by rfl) (fun w => by kernel_rfl)) hT7 ?_
  simp only [Act.put, List.setIfInBounds_toArray, List.set_cons_zero, List.set_cons_succ]
  refine takeAt 16 28 (.bool false) rfl rfl (by kernel_rfl) (by kernel_rfl) (by kernel_rfl) (fun _ _ _ h => h) (yields (by rfl) (fun w => by kernel_rfl)) hT7 ?_
  simp only [Act.put, List.setIfInBounds_toArray, List.set_cons_zero, List.set_cons_succ]
  refine takeAt 17 29 (.bool false) rfl rfl (by kernel_rfl) (by kernel_rfl) (by kernel_rfl) (fun _ _ _ h => h) (yields (by rfl) (fun w => by kernel_rfl)) hT7 ?_
  simp only [Act.put, List.setIfInBounds_toArray, List.set_cons_zero, List.set_cons_succ]
  refine takeAt 18 30 (setV S) rfl rfl (by kernel_rfl) (by kernel_rfl) (by kernel_rfl) (fun _ _ _ h => h) (load_yields rfl rfl List.mem_cons_self (by rfl)) hT7 ?_
  simp only [Act.put, List.setIfInBounds_toArray, List.set_cons_zero, List.set_cons_succ]
  refine callAt 19 31 rfl rfl (by kernel_rfl) (by rfl) (by kernel_rfl) (len_any S _) ?_
  rintro e w' ⟨rfl, hb⟩
  refine ⟨_, rfl, hT7.call hb, ?_⟩
  have hT8 := hT7.call hb
  clear hT7 hb
  simp only [Act.put, List.setIfInBounds_toArray, List.set_cons_zero, List.set_cons_succ]
  refine takeAt 20 32 (.bool false) rfl rfl (by kernel_rfl) (by kernel_rfl) (by kernel_rfl) (fun _ _ _ h => h) (gtr64_y false rfl rfl rfl q3 (by rfl)) hT8 ?_
  simp only [Act.put, List.setIfInBounds_toArray, List.set_cons_zero, List.set_cons_succ]
  refine takeAt 21 33 (.bool false) rfl rfl (by kernel_rfl) (by kernel_rfl) (by kernel_rfl) (fun _ _ _ h => h) (yields (by rfl) (fun w => by kernel_rfl)) hT8 ?_
  simp only [Act.put, List.setIfInBounds_toArray, List.set_cons_zero, List.set_cons_succ]
  refine takeAt 22 34 (.bool false) rfl rfl (by kernel_rfl) (by kernel_rfl) (by kernel_rfl) (fun _ _ _ h => h) (yields (by rfl) (fun w => by kernel_rfl)) hT8 ?_
  simp only [Act.put, List.setIfInBounds_toArray, List.set_cons_zero, List.set_cons_succ]
  refine wpAnyH_done (by kernel_rfl) ?_ _
  clear q0 hB hnB q1 q2 q3
  have HR := Lib.hid (Held.drew hT8)
  clear hT8
  go_wp2_with fail
  have hR := HR.out
  have q0 := H_q0.out
  have hB := H_hB.out
  have hnB := H_hnB.out
  have q1 := H_q1.out
  have q2 := H_q2.out
  have q3 := H_q3.out
  clear HR
  refine wp_region_held_drew (S := Held w [(w.heap.size, S)]) (by kernel_rfl) hR (fun _ => ?_)
  refine takeAt 0 35 (.bool false) rfl rfl (by kernel_rfl) (by kernel_rfl) (by kernel_rfl) (fun _ _ _ h => h) (yields (by rfl) (fun w => by kernel_rfl)) hR ?_
  simp only [Act.put, List.setIfInBounds_toArray, List.set_cons_zero, List.set_cons_succ]
  refine takeAt 1 36 (.bool true) rfl rfl (by kernel_rfl) (by kernel_rfl) (by kernel_rfl) (fun _ _ _ h => h) (yields (by rfl) (fun w => by kernel_rfl)) hR ?_
  simp only [Act.put, List.setIfInBounds_toArray, List.set_cons_zero, List.set_cons_succ]
  refine takeAt 2 37 (.bool true) rfl rfl (by kernel_rfl) (by kernel_rfl) (by kernel_rfl) (fun _ _ _ h => h) (yields (by rfl) (fun w => by kernel_rfl)) hR ?_
  simp only [Act.put, List.setIfInBounds_toArray, List.set_cons_zero, List.set_cons_succ]
  refine takeAt 3 38 (undef) rfl rfl (by kernel_rfl) (by kernel_rfl) (by kernel_rfl) (fun _ _ _ h => h) (skipped (by rfl)) hR ?_
  simp only [Act.put, List.setIfInBounds_toArray, List.set_cons_zero, List.set_cons_succ]
  refine takeAt 4 39 (undef) rfl rfl (by kernel_rfl) (by kernel_rfl) (by kernel_rfl) (fun _ _ _ h => h) (skipped (by rfl)) hR ?_
  simp only [Act.put, List.setIfInBounds_toArray, List.set_cons_zero, List.set_cons_succ]
  refine takeAt 5 40 (undef) rfl rfl (by kernel_rfl) (by kernel_rfl) (by kernel_rfl) (fun _ _ _ h => h) (skipped (by rfl)) hR ?_
  simp only [Act.put, List.setIfInBounds_toArray, List.set_cons_zero, List.set_cons_succ]
  refine takeAt 6 41 (undef) rfl rfl (by kernel_rfl) (by kernel_rfl) (by kernel_rfl) (fun _ _ _ h => h) (skipped (by rfl)) hR ?_
  simp only [Act.put, List.setIfInBounds_toArray, List.set_cons_zero, List.set_cons_succ]
  refine takeAt 7 42 (undef) rfl rfl (by kernel_rfl) (by kernel_rfl) (by kernel_rfl) (fun _ _ _ h => h) (skipped (by rfl)) hR ?_
  simp only [Act.put, List.setIfInBounds_toArray, List.set_cons_zero, List.set_cons_succ]
  refine takeAt 8 43 (undef) rfl rfl (by kernel_rfl) (by kernel_rfl) (by kernel_rfl) (fun _ _ _ h => h) (skipped (by rfl)) hR ?_
  simp only [Act.put, List.setIfInBounds_toArray, List.set_cons_zero, List.set_cons_succ]
  refine takeAt 9 44 (undef) rfl rfl (by kernel_rfl) (by kernel_rfl) (by kernel_rfl) (fun _ _ _ h => h) (skipped (by rfl)) hR ?_
  simp only [Act.put, List.setIfInBounds_toArray, List.set_cons_zero, List.set_cons_succ]
  refine takeAt 10 45 (undef) rfl rfl (by kernel_rfl) (by kernel_rfl) (by kernel_rfl) (fun _ _ _ h => h) (skipped (by rfl)) hR ?_
  simp only [Act.put, List.setIfInBounds_toArray, List.set_cons_zero, List.set_cons_succ]
  refine takeAt 11 46 (undef) rfl rfl (by kernel_rfl) (by kernel_rfl) (by kernel_rfl) (fun _ _ _ h => h) (skipped (by rfl)) hR ?_
  simp only [Act.put, List.setIfInBounds_toArray, List.set_cons_zero, List.set_cons_succ]
  refine takeAt 12 47 (undef) rfl rfl (by kernel_rfl) (by kernel_rfl) (by kernel_rfl) (fun _ _ _ h => h) (skipped (by rfl)) hR ?_
  simp only [Act.put, List.setIfInBounds_toArray, List.set_cons_zero, List.set_cons_succ]
  refine takeAt 15 50 (undef) rfl rfl (by kernel_rfl) (by kernel_rfl) (by kernel_rfl) (fun _ _ _ h => h) (skipped (by rfl)) hR ?_
  simp only [Act.put, List.setIfInBounds_toArray, List.set_cons_zero, List.set_cons_succ]
  refine takeAt 13 48 (undef) rfl rfl (by kernel_rfl) (by kernel_rfl) (by kernel_rfl) (fun _ _ _ h => h) (skipped (by rfl)) hR ?_
  simp only [Act.put, List.setIfInBounds_toArray, List.set_cons_zero, List.set_cons_succ]
  refine takeAt 14 49 (undef) rfl rfl (by kernel_rfl) (by kernel_rfl) (by kernel_rfl) (fun _ _ _ h => h) (skipped (by rfl)) hR ?_
  simp only [Act.put, List.setIfInBounds_toArray, List.set_cons_zero, List.set_cons_succ]
  refine takeAt 16 51 (undef) rfl rfl (by kernel_rfl) (by kernel_rfl) (by kernel_rfl) (fun _ _ _ h => h) (skipped (by rfl)) hR ?_
  simp only [Act.put, List.setIfInBounds_toArray, List.set_cons_zero, List.set_cons_succ]
  refine takeAt 17 52 (undef) rfl rfl (by kernel_rfl) (by kernel_rfl) (by kernel_rfl) (fun _ _ _ h => h) (skipped (by rfl)) hR ?_
  simp only [Act.put, List.setIfInBounds_toArray, List.set_cons_zero, List.set_cons_succ]
  refine takeAt 18 53 (undef) rfl rfl (by kernel_rfl) (by kernel_rfl) (by kernel_rfl) (fun _ _ _ h => h) (skipped (by rfl)) hR ?_
  simp only [Act.put, List.setIfInBounds_toArray, List.set_cons_zero, List.set_cons_succ]
  refine takeAt 19 54 (.bool true) rfl rfl (by kernel_rfl) (by kernel_rfl) (by kernel_rfl) (fun _ _ _ h => h) (yields (by rfl) (fun w => by kernel_rfl)) hR ?_
  simp only [Act.put, List.setIfInBounds_toArray, List.set_cons_zero, List.set_cons_succ]
  refine takeAt 20 55 (.bool true) rfl rfl (by kernel_rfl) (by kernel_rfl) (by kernel_rfl) (fun _ _ _ h => h) (yields (by rfl) (fun w => by kernel_rfl)) hR ?_
  simp only [Act.put, List.setIfInBounds_toArray, List.set_cons_zero, List.set_cons_succ]
  refine takeAt 21 56 (setV S) rfl rfl (by kernel_rfl) (by kernel_rfl) (by kernel_rfl) (fun _ _ _ h => h) (load_yields rfl rfl List.mem_cons_self (by rfl)) hR ?_
  simp only [Act.put, List.setIfInBounds_toArray, List.set_cons_zero, List.set_cons_succ]
  refine takeAt 22 57 (.int .u8 (c : Int)) rfl rfl (by kernel_rfl) (by kernel_rfl) (by kernel_rfl) (fun _ _ _ h => h) (yields (by rfl) (fun w => by kernel_rfl)) hR ?_
  simp only [Act.put, List.setIfInBounds_toArray, List.set_cons_zero, List.set_cons_succ]
  refine takeAt 24 59 (setV S) rfl rfl (by kernel_rfl) (by kernel_rfl) (by kernel_rfl) (fun _ _ _ h => h) (load_yields rfl rfl List.mem_cons_self (by rfl)) hR ?_
  simp only [Act.put, List.setIfInBounds_toArray, List.set_cons_zero, List.set_cons_succ]
  refine takeAt 26 61 (.int .u8 (c : Int)) rfl rfl (by kernel_rfl) (by kernel_rfl) (by kernel_rfl) (fun _ _ _ h => h) (yields (by rfl) (fun w => by kernel_rfl)) hR ?_
  simp only [Act.put, List.setIfInBounds_toArray, List.set_cons_zero, List.set_cons_succ]
  refine callAt 23 58 rfl rfl (by kernel_rfl) (by rfl) (by kernel_rfl) (has_k S _ c true _ rfl (by omega) hB) ?_
  rintro e w' ⟨rfl, hb⟩
  refine ⟨_, rfl, hR.call hb, ?_⟩
  have hT1 := hR.call hb
  clear hR hb
  simp only [Act.put, List.setIfInBounds_toArray, List.set_cons_zero, List.set_cons_succ]
  refine callAt 25 60 rfl rfl (by kernel_rfl) (by rfl) (by kernel_rfl) (not_k S _) ?_
  rintro e w' ⟨rfl, hb⟩
  refine ⟨_, rfl, hT1.call hb, ?_⟩
  have hT2 := hT1.call hb
  clear hT1 hb
  simp only [Act.put, List.setIfInBounds_toArray, List.set_cons_zero, List.set_cons_succ]
  refine callAt 27 62 rfl rfl (by kernel_rfl) (by rfl) (by kernel_rfl) (has_k (notS S) _ c false _ rfl (by omega) hnB) ?_
  rintro e w' ⟨rfl, hb⟩
  refine ⟨_, rfl, hT2.call hb, ?_⟩
  have hT3 := hT2.call hb
  clear hT2 hb
  simp only [Act.put, List.setIfInBounds_toArray, List.set_cons_zero, List.set_cons_succ]
  refine takeAt 28 63 (.bool true) rfl rfl (by kernel_rfl) (by kernel_rfl) (by kernel_rfl) (fun _ _ _ h => h) (yields (by rfl) (fun w => by kernel_rfl)) hT3 ?_
  simp only [Act.put, List.setIfInBounds_toArray, List.set_cons_zero, List.set_cons_succ]
  refine takeAt 29 64 (.bool true) rfl rfl (by kernel_rfl) (by kernel_rfl) (by kernel_rfl) (fun _ _ _ h => h) (yields (by rfl) (fun w => by kernel_rfl)) hT3 ?_
  simp only [Act.put, List.setIfInBounds_toArray, List.set_cons_zero, List.set_cons_succ]
  refine takeAt 30 65 (.bool true) rfl rfl (by kernel_rfl) (by kernel_rfl) (by kernel_rfl) (fun _ _ _ h => h) (yields (by rfl) (fun w => by kernel_rfl)) hT3 ?_
  simp only [Act.put, List.setIfInBounds_toArray, List.set_cons_zero, List.set_cons_succ]
  refine callAt 31 66 rfl rfl (by kernel_rfl) (by rfl) (by kernel_rfl) (hT3.fix HF.out) ?_
  rintro e w' ⟨rfl, hb⟩
  refine ⟨_, rfl, hT3.call hb, ?_⟩
  have hT4 := hT3.call hb
  clear hT3 hb
  simp only [Act.put, List.setIfInBounds_toArray, List.set_cons_zero, List.set_cons_succ]
  refine takeAt 32 67 (.bool true) rfl rfl (by kernel_rfl) (by kernel_rfl) (by kernel_rfl) (fun _ _ _ h => h) (yields (by rfl) (fun w => by kernel_rfl)) hT4 ?_
  simp only [Act.put, List.setIfInBounds_toArray, List.set_cons_zero, List.set_cons_succ]
  refine takeAt 33 4 (.bool true) rfl rfl (by kernel_rfl) (by kernel_rfl) (by kernel_rfl) (fun _ _ _ h => h) (yields (by rfl) (fun w => by kernel_rfl)) hT4 ?_
  simp only [Act.put, List.setIfInBounds_toArray, List.set_cons_zero, List.set_cons_succ]
  refine wpAnyH_done (by kernel_rfl) ?_ _
  go_wp2
  go_ret
  exact ⟨rfl, hT4.2.1⟩

set_option maxHeartbeats 8000000 in
set_option maxRecDepth 100000 in
theorem classHas_Zfalse (hfix : FixedOk) (S : BitVec 256) (c : Nat) (w : World) (ht : TabOk w) (hc : c < 256) (q0 : S = 0#256) (hB : mem S c = false) (hnB : mem (notS S) c = true) (q1 : mem (orS S (oneS c)) c = true) (q2 : mem (andS S (notS (oneS c))) c = false) (q3 : decide ((0 : Int) < (lenS S : Int)) = false) :
    Calls Tryd.prog 7 #[setV S, .int .u8 (c : Int)] w fun e w' => e = .returned (.bool true) ∧ Below w.heap.size w w' := by
  have HF := Lib.hid hfix
  have HT := Lib.hid ht
  have H_q0 := Lib.hid q0
  have H_hB := Lib.hid hB
  have H_hnB := Lib.hid hnB
  have H_q1 := Lib.hid q1
  have H_q2 := Lib.hid q2
  have H_q3 := Lib.hid q3
  clear hfix ht q0 hB hnB q1 q2 q3
  go_enter Tryd.func7, Tryd.ntmps7
  go_wp2_with fail
  refine (min_no S _ H_q0.out).mono ?_
  rintro e w1 ⟨rfl, hb⟩
  have HS := Lib.hid (((Held.start HT.out).new S).call hb).drew
  clear hb
  go_wp2_with fail
  have hS := HS.out
  have q0 := H_q0.out
  have hB := H_hB.out
  have hnB := H_hnB.out
  have q1 := H_q1.out
  have q2 := H_q2.out
  have q3 := H_q3.out
  clear HS
  refine wp_region_held_drew (S := Held w [(w.heap.size, S)]) (by kernel_rfl) hS (fun _ => ?_)
  refine takeAt 0 12 (setV S) rfl rfl (by kernel_rfl) (by kernel_rfl) (by kernel_rfl) (fun _ _ _ h => h) (load_yields rfl rfl List.mem_cons_self (by rfl)) hS ?_
  simp only [Act.put, List.setIfInBounds_toArray, List.set_cons_zero, List.set_cons_succ]
  refine takeAt 1 13 (.int .u8 (c : Int)) rfl rfl (by kernel_rfl) (by kernel_rfl) (by kernel_rfl) (fun _ _ _ h => h) (yields (by rfl) (fun w => by kernel_rfl)) hS ?_
  simp only [Act.put, List.setIfInBounds_toArray, List.set_cons_zero, List.set_cons_succ]
  refine takeAt 4 16 (.int .u8 (c : Int)) rfl rfl (by kernel_rfl) (by kernel_rfl) (by kernel_rfl) (fun _ _ _ h => h) (yields (by rfl) (fun w => by kernel_rfl)) hS ?_
  simp only [Act.put, List.setIfInBounds_toArray, List.set_cons_zero, List.set_cons_succ]
  refine callAt 2 14 rfl rfl (by kernel_rfl) (by rfl) (by kernel_rfl) (oneAt_k _ c _ rfl (by omega)) ?_
  rintro e w' ⟨rfl, hb⟩
  refine ⟨_, rfl, hS.call hb, ?_⟩
  have hT1 := hS.call hb
  clear hS hb
  simp only [Act.put, List.setIfInBounds_toArray, List.set_cons_zero, List.set_cons_succ]
  refine callAt 3 15 rfl rfl (by kernel_rfl) (by rfl) (by kernel_rfl) (or_k S (oneS c) _) ?_
  rintro e w' ⟨rfl, hb⟩
  refine ⟨_, rfl, hT1.call hb, ?_⟩
  have hT2 := hT1.call hb
  clear hT1 hb
  simp only [Act.put, List.setIfInBounds_toArray, List.set_cons_zero, List.set_cons_succ]
  refine callAt 5 17 rfl rfl (by kernel_rfl) (by rfl) (by kernel_rfl) (has_k (orS S (oneS c)) _ c true _ rfl (by omega) q1) ?_
  rintro e w' ⟨rfl, hb⟩
  refine ⟨_, rfl, hT2.call hb, ?_⟩
  have hT3 := hT2.call hb
  clear hT2 hb
  simp only [Act.put, List.setIfInBounds_toArray, List.set_cons_zero, List.set_cons_succ]
  refine takeAt 6 18 (.bool false) rfl rfl (by kernel_rfl) (by kernel_rfl) (by kernel_rfl) (fun _ _ _ h => h) (yields (by rfl) (fun w => by kernel_rfl)) hT3 ?_
  simp only [Act.put, List.setIfInBounds_toArray, List.set_cons_zero, List.set_cons_succ]
  refine takeAt 7 19 (.bool false) rfl rfl (by kernel_rfl) (by kernel_rfl) (by kernel_rfl) (fun _ _ _ h => h) (yields (by rfl) (fun w => by kernel_rfl)) hT3 ?_
  simp only [Act.put, List.setIfInBounds_toArray, List.set_cons_zero, List.set_cons_succ]
  refine takeAt 8 20 (setV S) rfl rfl (by kernel_rfl) (by kernel_rfl) (by kernel_rfl) (fun _ _ _ h => h) (load_yields rfl rfl List.mem_cons_self (by rfl)) hT3 ?_
  simp only [Act.put, List.setIfInBounds_toArray, List.set_cons_zero, List.set_cons_succ]
  refine takeAt 9 21 (.int .u8 (c : Int)) rfl rfl (by kernel_rfl) (by kernel_rfl) (by kernel_rfl) (fun _ _ _ h => h) (yields (by rfl) (fun w => by kernel_rfl)) hT3 ?_
  simp only [Act.put, List.setIfInBounds_toArray, List.set_cons_zero, List.set_cons_succ]
  refine takeAt 13 25 (.int .u8 (c : Int)) rfl rfl (by kernel_rfl) (by kernel_rfl) (by kernel_rfl) (fun _ _ _ h => h) (yields (by rfl) (fun w => by kernel_rfl)) hT3 ?_
  simp only [Act.put, List.setIfInBounds_toArray, List.set_cons_zero, List.set_cons_succ]
  refine callAt 10 22 rfl rfl (by kernel_rfl) (by rfl) (by kernel_rfl) (oneAt_k _ c _ rfl (by omega)) ?_
  rintro e w' ⟨rfl, hb⟩
  refine ⟨_, rfl, hT3.call hb, ?_⟩
  have hT4 := hT3.call hb
  clear hT3 hb
  simp only [Act.put, List.setIfInBounds_toArray, List.set_cons_zero, List.set_cons_succ]
  refine callAt 11 23 rfl rfl (by kernel_rfl) (by rfl) (by kernel_rfl) (not_k (oneS c) _) ?_
  rintro e w' ⟨rfl, hb⟩
  refine ⟨_, rfl, hT4.call hb, ?_⟩
  have hT5 := hT4.call hb
  clear hT4 hb
  simp only [Act.put, List.setIfInBounds_toArray, List.set_cons_zero, List.set_cons_succ]
  refine callAt 12 24 rfl rfl (by kernel_rfl) (by rfl) (by kernel_rfl) (and_k S (notS (oneS c)) _) ?_
  rintro e w' ⟨rfl, hb⟩
  refine ⟨_, rfl, hT5.call hb, ?_⟩
  have hT6 := hT5.call hb
  clear hT5 hb
  simp only [Act.put, List.setIfInBounds_toArray, List.set_cons_zero, List.set_cons_succ]
  refine callAt 14 26 rfl rfl (by kernel_rfl) (by rfl) (by kernel_rfl) (has_k (andS S (notS (oneS c))) _ c false _ rfl (by omega) q2) ?_
  rintro e w' ⟨rfl, hb⟩
  refine ⟨_, rfl, hT6.call hb, ?_⟩
  have hT7 := hT6.call hb
  clear hT6 hb
  simp only [Act.put, List.setIfInBounds_toArray, List.set_cons_zero, List.set_cons_succ]
  refine takeAt 15 27 (.bool false) rfl rfl (by kernel_rfl) (by kernel_rfl) (by kernel_rfl) (fun _ _ _ h => h) (yields (by rfl) (fun w => by kernel_rfl)) hT7 ?_
  simp only [Act.put, List.setIfInBounds_toArray, List.set_cons_zero, List.set_cons_succ]
  refine takeAt 16 28 (.bool false) rfl rfl (by kernel_rfl) (by kernel_rfl) (by kernel_rfl) (fun _ _ _ h => h) (yields (by rfl) (fun w => by kernel_rfl)) hT7 ?_
  simp only [Act.put, List.setIfInBounds_toArray, List.set_cons_zero, List.set_cons_succ]
  refine takeAt 17 29 (.bool false) rfl rfl (by kernel_rfl) (by kernel_rfl) (by kernel_rfl) (fun _ _ _ h => h) (yields (by rfl) (fun w => by kernel_rfl)) hT7 ?_
  simp only [Act.put, List.setIfInBounds_toArray, List.set_cons_zero, List.set_cons_succ]
  refine takeAt 18 30 (setV S) rfl rfl (by kernel_rfl) (by kernel_rfl) (by kernel_rfl) (fun _ _ _ h => h) (load_yields rfl rfl List.mem_cons_self (by rfl)) hT7 ?_
  simp only [Act.put, List.setIfInBounds_toArray, List.set_cons_zero, List.set_cons_succ]
  refine callAt 19 31 rfl rfl (by kernel_rfl) (by rfl) (by kernel_rfl) (len_any S _) ?_
  rintro e w' ⟨rfl, hb⟩
  refine ⟨_, rfl, hT7.call hb, ?_⟩
  have hT8 := hT7.call hb
  clear hT7 hb
  simp only [Act.put, List.setIfInBounds_toArray, List.set_cons_zero, List.set_cons_succ]
  refine takeAt 20 32 (.bool false) rfl rfl (by kernel_rfl) (by kernel_rfl) (by kernel_rfl) (fun _ _ _ h => h) (gtr64_y false rfl rfl rfl q3 (by rfl)) hT8 ?_
  simp only [Act.put, List.setIfInBounds_toArray, List.set_cons_zero, List.set_cons_succ]
  refine takeAt 21 33 (.bool false) rfl rfl (by kernel_rfl) (by kernel_rfl) (by kernel_rfl) (fun _ _ _ h => h) (yields (by rfl) (fun w => by kernel_rfl)) hT8 ?_
  simp only [Act.put, List.setIfInBounds_toArray, List.set_cons_zero, List.set_cons_succ]
  refine takeAt 22 34 (.bool false) rfl rfl (by kernel_rfl) (by kernel_rfl) (by kernel_rfl) (fun _ _ _ h => h) (yields (by rfl) (fun w => by kernel_rfl)) hT8 ?_
  simp only [Act.put, List.setIfInBounds_toArray, List.set_cons_zero, List.set_cons_succ]
  refine wpAnyH_done (by kernel_rfl) ?_ _
  clear q0 hB hnB q1 q2 q3
  have HR := Lib.hid (Held.drew hT8)
  clear hT8
  go_wp2_with fail
  have hR := HR.out
  have q0 := H_q0.out
  have hB := H_hB.out
  have hnB := H_hnB.out
  have q1 := H_q1.out
  have q2 := H_q2.out
  have q3 := H_q3.out
  clear HR
  refine wp_region_held_drew (S := Held w [(w.heap.size, S)]) (by kernel_rfl) hR (fun _ => ?_)
  refine takeAt 0 35 (.bool false) rfl rfl (by kernel_rfl) (by kernel_rfl) (by kernel_rfl) (fun _ _ _ h => h) (yields (by rfl) (fun w => by kernel_rfl)) hR ?_
  simp only [Act.put, List.setIfInBounds_toArray, List.set_cons_zero, List.set_cons_succ]
  refine takeAt 1 36 (.bool true) rfl rfl (by kernel_rfl) (by kernel_rfl) (by kernel_rfl) (fun _ _ _ h => h) (yields (by rfl) (fun w => by kernel_rfl)) hR ?_
  simp only [Act.put, List.setIfInBounds_toArray, List.set_cons_zero, List.set_cons_succ]
  refine takeAt 2 37 (.bool true) rfl rfl (by kernel_rfl) (by kernel_rfl) (by kernel_rfl) (fun _ _ _ h => h) (yields (by rfl) (fun w => by kernel_rfl)) hR ?_
  simp only [Act.put, List.setIfInBounds_toArray, List.set_cons_zero, List.set_cons_succ]
  refine takeAt 3 38 (undef) rfl rfl (by kernel_rfl) (by kernel_rfl) (by kernel_rfl) (fun _ _ _ h => h) (skipped (by rfl)) hR ?_
  simp only [Act.put, List.setIfInBounds_toArray, List.set_cons_zero, List.set_cons_succ]
  refine takeAt 4 39 (undef) rfl rfl (by kernel_rfl) (by kernel_rfl) (by kernel_rfl) (fun _ _ _ h => h) (skipped (by rfl)) hR ?_
  simp only [Act.put, List.setIfInBounds_toArray, List.set_cons_zero, List.set_cons_succ]
  refine takeAt 5 40 (undef) rfl rfl (by kernel_rfl) (by kernel_rfl) (by kernel_rfl) (fun _ _ _ h => h) (skipped (by rfl)) hR ?_
  simp only [Act.put, List.setIfInBounds_toArray, List.set_cons_zero, List.set_cons_succ]
  refine takeAt 6 41 (undef) rfl rfl (by kernel_rfl) (by kernel_rfl) (by kernel_rfl) (fun _ _ _ h => h) (skipped (by rfl)) hR ?_
  simp only [Act.put, List.setIfInBounds_toArray, List.set_cons_zero, List.set_cons_succ]
  refine takeAt 7 42 (undef) rfl rfl (by kernel_rfl) (by kernel_rfl) (by kernel_rfl) (fun _ _ _ h => h) (skipped (by rfl)) hR ?_
  simp only [Act.put, List.setIfInBounds_toArray, List.set_cons_zero, List.set_cons_succ]
  refine takeAt 8 43 (undef) rfl rfl (by kernel_rfl) (by kernel_rfl) (by kernel_rfl) (fun _ _ _ h => h) (skipped (by rfl)) hR ?_
  simp only [Act.put, List.setIfInBounds_toArray, List.set_cons_zero, List.set_cons_succ]
  refine takeAt 9 44 (undef) rfl rfl (by kernel_rfl) (by kernel_rfl) (by kernel_rfl) (fun _ _ _ h => h) (skipped (by rfl)) hR ?_
  simp only [Act.put, List.setIfInBounds_toArray, List.set_cons_zero, List.set_cons_succ]
  refine takeAt 10 45 (undef) rfl rfl (by kernel_rfl) (by kernel_rfl) (by kernel_rfl) (fun _ _ _ h => h) (skipped (by rfl)) hR ?_
  simp only [Act.put, List.setIfInBounds_toArray, List.set_cons_zero, List.set_cons_succ]
  refine takeAt 11 46 (undef) rfl rfl (by kernel_rfl) (by kernel_rfl) (by kernel_rfl) (fun _ _ _ h => h) (skipped (by rfl)) hR ?_
  simp only [Act.put, List.setIfInBounds_toArray, List.set_cons_zero, List.set_cons_succ]
  refine takeAt 12 47 (undef) rfl rfl (by kernel_rfl) (by kernel_rfl) (by kernel_rfl) (fun _ _ _ h => h) (skipped (by rfl)) hR ?_
  simp only [Act.put, List.setIfInBounds_toArray, List.set_cons_zero, List.set_cons_succ]
  refine takeAt 15 50 (undef) rfl rfl (by kernel_rfl) (by kernel_rfl) (by kernel_rfl) (fun _ _ _ h => h) (skipped (by rfl)) hR ?_
  simp only [Act.put, List.setIfInBounds_toArray, List.set_cons_zero, List.set_cons_succ]
  refine takeAt 13 48 (undef) rfl rfl (by kernel_rfl) (by kernel_rfl) (by kernel_rfl) (fun _ _ _ h => h) (skipped (by rfl)) hR ?_
  simp only [Act.put, List.setIfInBounds_toArray, List.set_cons_zero, List.set_cons_succ]
  refine takeAt 14 49 (undef) rfl rfl (by kernel_rfl) (by kernel_rfl) (by kernel_rfl) (fun _ _ _ h => h) (skipped (by rfl)) hR ?_
  simp only [Act.put, List.setIfInBounds_toArray, List.set_cons_zero, List.set_cons_succ]
  refine takeAt 16 51 (undef) rfl rfl (by kernel_rfl) (by kernel_rfl) (by kernel_rfl) (fun _ _ _ h => h) (skipped (by rfl)) hR ?_
  simp only [Act.put, List.setIfInBounds_toArray, List.set_cons_zero, List.set_cons_succ]
  refine takeAt 17 52 (undef) rfl rfl (by kernel_rfl) (by kernel_rfl) (by kernel_rfl) (fun _ _ _ h => h) (skipped (by rfl)) hR ?_
  simp only [Act.put, List.setIfInBounds_toArray, List.set_cons_zero, List.set_cons_succ]
  refine takeAt 18 53 (undef) rfl rfl (by kernel_rfl) (by kernel_rfl) (by kernel_rfl) (fun _ _ _ h => h) (skipped (by rfl)) hR ?_
  simp only [Act.put, List.setIfInBounds_toArray, List.set_cons_zero, List.set_cons_succ]
  refine takeAt 19 54 (.bool true) rfl rfl (by kernel_rfl) (by kernel_rfl) (by kernel_rfl) (fun _ _ _ h => h) (yields (by rfl) (fun w => by kernel_rfl)) hR ?_
  simp only [Act.put, List.setIfInBounds_toArray, List.set_cons_zero, List.set_cons_succ]
  refine takeAt 20 55 (.bool true) rfl rfl (by kernel_rfl) (by kernel_rfl) (by kernel_rfl) (fun _ _ _ h => h) (yields (by rfl) (fun w => by kernel_rfl)) hR ?_
  simp only [Act.put, List.setIfInBounds_toArray, List.set_cons_zero, List.set_cons_succ]
  refine takeAt 21 56 (setV S) rfl rfl (by kernel_rfl) (by kernel_rfl) (by kernel_rfl) (fun _ _ _ h => h) (load_yields rfl rfl List.mem_cons_self (by rfl)) hR ?_
  simp only [Act.put, List.setIfInBounds_toArray, List.set_cons_zero, List.set_cons_succ]
  refine takeAt 22 57 (.int .u8 (c : Int)) rfl rfl (by kernel_rfl) (by kernel_rfl) (by kernel_rfl) (fun _ _ _ h => h) (yields (by rfl) (fun w => by kernel_rfl)) hR ?_
  simp only [Act.put, List.setIfInBounds_toArray, List.set_cons_zero, List.set_cons_succ]
  refine takeAt 24 59 (setV S) rfl rfl (by kernel_rfl) (by kernel_rfl) (by kernel_rfl) (fun _ _ _ h => h) (load_yields rfl rfl List.mem_cons_self (by rfl)) hR ?_
  simp only [Act.put, List.setIfInBounds_toArray, List.set_cons_zero, List.set_cons_succ]
  refine takeAt 26 61 (.int .u8 (c : Int)) rfl rfl (by kernel_rfl) (by kernel_rfl) (by kernel_rfl) (fun _ _ _ h => h) (yields (by rfl) (fun w => by kernel_rfl)) hR ?_
  simp only [Act.put, List.setIfInBounds_toArray, List.set_cons_zero, List.set_cons_succ]
  refine callAt 23 58 rfl rfl (by kernel_rfl) (by rfl) (by kernel_rfl) (has_k S _ c false _ rfl (by omega) hB) ?_
  rintro e w' ⟨rfl, hb⟩
  refine ⟨_, rfl, hR.call hb, ?_⟩
  have hT1 := hR.call hb
  clear hR hb
  simp only [Act.put, List.setIfInBounds_toArray, List.set_cons_zero, List.set_cons_succ]
  refine callAt 25 60 rfl rfl (by kernel_rfl) (by rfl) (by kernel_rfl) (not_k S _) ?_
  rintro e w' ⟨rfl, hb⟩
  refine ⟨_, rfl, hT1.call hb, ?_⟩
  have hT2 := hT1.call hb
  clear hT1 hb
  simp only [Act.put, List.setIfInBounds_toArray, List.set_cons_zero, List.set_cons_succ]
  refine callAt 27 62 rfl rfl (by kernel_rfl) (by rfl) (by kernel_rfl) (has_k (notS S) _ c true _ rfl (by omega) hnB) ?_
  rintro e w' ⟨rfl, hb⟩
  refine ⟨_, rfl, hT2.call hb, ?_⟩
  have hT3 := hT2.call hb
  clear hT2 hb
  simp only [Act.put, List.setIfInBounds_toArray, List.set_cons_zero, List.set_cons_succ]
  refine takeAt 28 63 (.bool true) rfl rfl (by kernel_rfl) (by kernel_rfl) (by kernel_rfl) (fun _ _ _ h => h) (yields (by rfl) (fun w => by kernel_rfl)) hT3 ?_
  simp only [Act.put, List.setIfInBounds_toArray, List.set_cons_zero, List.set_cons_succ]
  refine takeAt 29 64 (.bool true) rfl rfl (by kernel_rfl) (by kernel_rfl) (by kernel_rfl) (fun _ _ _ h => h) (yields (by rfl) (fun w => by kernel_rfl)) hT3 ?_
  simp only [Act.put, List.setIfInBounds_toArray, List.set_cons_zero, List.set_cons_succ]
  refine takeAt 30 65 (.bool true) rfl rfl (by kernel_rfl) (by kernel_rfl) (by kernel_rfl) (fun _ _ _ h => h) (yields (by rfl) (fun w => by kernel_rfl)) hT3 ?_
  simp only [Act.put, List.setIfInBounds_toArray, List.set_cons_zero, List.set_cons_succ]
  refine callAt 31 66 rfl rfl (by kernel_rfl) (by rfl) (by kernel_rfl) (hT3.fix HF.out) ?_
  rintro e w' ⟨rfl, hb⟩
  refine ⟨_, rfl, hT3.call hb, ?_⟩
  have hT4 := hT3.call hb
  clear hT3 hb
  simp only [Act.put, List.setIfInBounds_toArray, List.set_cons_zero, List.set_cons_succ]
  refine takeAt 32 67 (.bool true) rfl rfl (by kernel_rfl) (by kernel_rfl) (by kernel_rfl) (fun _ _ _ h => h) (yields (by rfl) (fun w => by kernel_rfl)) hT4 ?_
  simp only [Act.put, List.setIfInBounds_toArray, List.set_cons_zero, List.set_cons_succ]
  refine takeAt 33 4 (.bool true) rfl rfl (by kernel_rfl) (by kernel_rfl) (by kernel_rfl) (fun _ _ _ h => h) (yields (by rfl) (fun w => by kernel_rfl)) hT4 ?_
  simp only [Act.put, List.setIfInBounds_toArray, List.set_cons_zero, List.set_cons_succ]
  refine wpAnyH_done (by kernel_rfl) ?_ _
  go_wp2
  go_ret
  exact ⟨rfl, hT4.2.1⟩

set_option maxHeartbeats 8000000 in
set_option maxRecDepth 100000 in
theorem classHas_Otrue (hfix : FixedOk) (S : BitVec 256) (c : Nat) (w : World) (ht : TabOk w) (hc : c < 256) (q0 : S ≠ 0#256) (q7 : minS S = 0) (q4 : mem S 0 = true) (q5 : ((0 : Int) == (0 : Int)) = true) (hB : mem S c = true) (hnB : mem (notS S) c = false) (q1 : mem (orS S (oneS c)) c = true) (q2 : mem (andS S (notS (oneS c))) c = false) (q3 : decide ((0 : Int) < (lenS S : Int)) = true) :
    Calls Tryd.prog 7 #[setV S, .int .u8 (c : Int)] w fun e w' => e = .returned (.bool true) ∧ Below w.heap.size w w' := by
  have HF := Lib.hid hfix
  have HT := Lib.hid ht
  have H_q0 := Lib.hid q0
  have H_q7 := Lib.hid q7
  have H_q4 := Lib.hid q4
  have H_q5 := Lib.hid q5
  have H_hB := Lib.hid hB
  have H_hnB := Lib.hid hnB
  have H_q1 := Lib.hid q1
  have H_q2 := Lib.hid q2
  have H_q3 := Lib.hid q3
  clear hfix ht q0 q7 q4 q5 hB hnB q1 q2 q3
  go_enter Tryd.func7, Tryd.ntmps7
  go_wp2_with fail
  refine (min_yes S _ H_q0.out (HT.out.alloc _)).mono ?_
  rintro e w1 ⟨rfl, hb⟩
  rw [H_q7.out]
  have HS := Lib.hid (((Held.start HT.out).new S).call hb).drew
  clear hb
  go_wp2_with fail
  have hS := HS.out
  have q0 := H_q0.out
  have q7 := H_q7.out
  have q4 := H_q4.out
  have q5 := H_q5.out
  have hB := H_hB.out
  have hnB := H_hnB.out
  have q1 := H_q1.out
  have q2 := H_q2.out
  have q3 := H_q3.out
  clear HS
  refine wp_region_held_drew (S := Held w [(w.heap.size, S)]) (by kernel_rfl) hS (fun _ => ?_)
  refine takeAt 0 12 (setV S) rfl rfl (by kernel_rfl) (by kernel_rfl) (by kernel_rfl) (fun _ _ _ h => h) (load_yields rfl rfl List.mem_cons_self (by rfl)) hS ?_
  simp only [Act.put, List.setIfInBounds_toArray, List.set_cons_zero, List.set_cons_succ]
  refine takeAt 1 13 (.int .u8 (c : Int)) rfl rfl (by kernel_rfl) (by kernel_rfl) (by kernel_rfl) (fun _ _ _ h => h) (yields (by rfl) (fun w => by kernel_rfl)) hS ?_
  simp only [Act.put, List.setIfInBounds_toArray, List.set_cons_zero, List.set_cons_succ]
  refine takeAt 4 16 (.int .u8 (c : Int)) rfl rfl (by kernel_rfl) (by kernel_rfl) (by kernel_rfl) (fun _ _ _ h => h) (yields (by rfl) (fun w => by kernel_rfl)) hS ?_
  simp only [Act.put, List.setIfInBounds_toArray, List.set_cons_zero, List.set_cons_succ]
  refine callAt 2 14 rfl rfl (by kernel_rfl) (by rfl) (by kernel_rfl) (oneAt_k _ c _ rfl (by omega)) ?_
  rintro e w' ⟨rfl, hb⟩
  refine ⟨_, rfl, hS.call hb, ?_⟩
  have hT1 := hS.call hb
  clear hS hb
  simp only [Act.put, List.setIfInBounds_toArray, List.set_cons_zero, List.set_cons_succ]
  refine callAt 3 15 rfl rfl (by kernel_rfl) (by rfl) (by kernel_rfl) (or_k S (oneS c) _) ?_
  rintro e w' ⟨rfl, hb⟩
  refine ⟨_, rfl, hT1.call hb, ?_⟩
  have hT2 := hT1.call hb
  clear hT1 hb
  simp only [Act.put, List.setIfInBounds_toArray, List.set_cons_zero, List.set_cons_succ]
  refine callAt 5 17 rfl rfl (by kernel_rfl) (by rfl) (by kernel_rfl) (has_k (orS S (oneS c)) _ c true _ rfl (by omega) q1) ?_
  rintro e w' ⟨rfl, hb⟩
  refine ⟨_, rfl, hT2.call hb, ?_⟩
  have hT3 := hT2.call hb
  clear hT2 hb
  simp only [Act.put, List.setIfInBounds_toArray, List.set_cons_zero, List.set_cons_succ]
  refine takeAt 6 18 (.bool false) rfl rfl (by kernel_rfl) (by kernel_rfl) (by kernel_rfl) (fun _ _ _ h => h) (yields (by rfl) (fun w => by kernel_rfl)) hT3 ?_
  simp only [Act.put, List.setIfInBounds_toArray, List.set_cons_zero, List.set_cons_succ]
  refine takeAt 7 19 (.bool false) rfl rfl (by kernel_rfl) (by kernel_rfl) (by kernel_rfl) (fun _ _ _ h => h) (yields (by rfl) (fun w => by kernel_rfl)) hT3 ?_
  simp only [Act.put, List.setIfInBounds_toArray, List.set_cons_zero, List.set_cons_succ]
  refine takeAt 8 20 (setV S) rfl rfl (by kernel_rfl) (by kernel_rfl) (by kernel_rfl) (fun _ _ _ h => h) (load_yields rfl rfl List.mem_cons_self (by rfl)) hT3 ?_
  simp only [Act.put, List.setIfInBounds_toArray, List.set_cons_zero, List.set_cons_succ]
  refine takeAt 9 21 (.int .u8 (c : Int)) rfl rfl (by kernel_rfl) (by kernel_rfl) (by kernel_rfl) (fun _ _ _ h => h) (yields (by rfl) (fun w => by kernel_rfl)) hT3 ?_
  simp only [Act.put, List.setIfInBounds_toArray, List.set_cons_zero, List.set_cons_succ]
  refine takeAt 13 25 (.int .u8 (c : Int)) rfl rfl (by kernel_rfl) (by kernel_rfl) (by kernel_rfl) (fun _ _ _ h => h) (yields (by rfl) (fun w => by kernel_rfl)) hT3 ?_
  simp only [Act.put, List.setIfInBounds_toArray, List.set_cons_zero, List.set_cons_succ]
  refine callAt 10 22 rfl rfl (by kernel_rfl) (by rfl) (by kernel_rfl) (oneAt_k _ c _ rfl (by omega)) ?_
  rintro e w' ⟨rfl, hb⟩
  refine ⟨_, rfl, hT3.call hb, ?_⟩
  have hT4 := hT3.call hb
  clear hT3 hb
  simp only [Act.put, List.setIfInBounds_toArray, List.set_cons_zero, List.set_cons_succ]
  refine callAt 11 23 rfl rfl (by kernel_rfl) (by rfl) (by kernel_rfl) (not_k (oneS c) _) ?_
  rintro e w' ⟨rfl, hb⟩
  refine ⟨_, rfl, hT4.call hb, ?_⟩
  have hT5 := hT4.call hb
  clear hT4 hb
  simp only [Act.put, List.setIfInBounds_toArray, List.set_cons_zero, List.set_cons_succ]
  refine callAt 12 24 rfl rfl (by kernel_rfl) (by rfl) (by kernel_rfl) (and_k S (notS (oneS c)) _) ?_
  rintro e w' ⟨rfl, hb⟩
  refine ⟨_, rfl, hT5.call hb, ?_⟩
  have hT6 := hT5.call hb
  clear hT5 hb
  simp only [Act.put, List.setIfInBounds_toArray, List.set_cons_zero, List.set_cons_succ]
  refine callAt 14 26 rfl rfl (by kernel_rfl) (by rfl) (by kernel_rfl) (has_k (andS S (notS (oneS c))) _ c false _ rfl (by omega) q2) ?_
  rintro e w' ⟨rfl, hb⟩
  refine ⟨_, rfl, hT6.call hb, ?_⟩
  have hT7 := hT6.call hb
  clear hT6 hb
  simp only [Act.put, List.setIfInBounds_toArray, List.set_cons_zero, List.set_cons_succ]
  refine takeAt 15 27 (.bool false) rfl rfl (by kernel_rfl) (by kernel_rfl) (by kernel_rfl) (fun _ _ _ h => h) (yields (by rfl) (fun w => by kernel_rfl)) hT7 ?_
  simp only [Act.put, List.setIfInBounds_toArray, List.set_cons_zero, List.set_cons_succ]
  refine takeAt 16 28 (.bool false) rfl rfl (by kernel_rfl) (by kernel_rfl) (by kernel_rfl) (fun _ _ _ h => h) (yields (by rfl) (fun w => by kernel_rfl)) hT7 ?_
  simp only [Act.put, List.setIfInBounds_toArray, List.set_cons_zero, List.set_cons_succ]
  refine takeAt 17 29 (.bool true) rfl rfl (by kernel_rfl) (by kernel_rfl) (by kernel_rfl) (fun _ _ _ h => h) (yields (by rfl) (fun w => by kernel_rfl)) hT7 ?_
  simp only [Act.put, List.setIfInBounds_toArray, List.set_cons_zero, List.set_cons_succ]
  refine takeAt 18 30 (setV S) rfl rfl (by kernel_rfl) (by kernel_rfl) (by kernel_rfl) (fun _ _ _ h => h) (load_yields rfl rfl List.mem_cons_self (by rfl)) hT7 ?_
  simp only [Act.put, List.setIfInBounds_toArray, List.set_cons_zero, List.set_cons_succ]
  refine callAt 19 31 rfl rfl (by kernel_rfl) (by rfl) (by kernel_rfl) (len_any S _) ?_
  rintro e w' ⟨rfl, hb⟩
  refine ⟨_, rfl, hT7.call hb, ?_⟩
  have hT8 := hT7.call hb
  clear hT7 hb
  simp only [Act.put, List.setIfInBounds_toArray, List.set_cons_zero, List.set_cons_succ]
  refine takeAt 20 32 (.bool true) rfl rfl (by kernel_rfl) (by kernel_rfl) (by kernel_rfl) (fun _ _ _ h => h) (gtr64_y true rfl rfl rfl q3 (by rfl)) hT8 ?_
  simp only [Act.put, List.setIfInBounds_toArray, List.set_cons_zero, List.set_cons_succ]
  refine takeAt 21 33 (.bool false) rfl rfl (by kernel_rfl) (by kernel_rfl) (by kernel_rfl) (fun _ _ _ h => h) (yields (by rfl) (fun w => by kernel_rfl)) hT8 ?_
  simp only [Act.put, List.setIfInBounds_toArray, List.set_cons_zero, List.set_cons_succ]
  refine takeAt 22 34 (.bool false) rfl rfl (by kernel_rfl) (by kernel_rfl) (by kernel_rfl) (fun _ _ _ h => h) (yields (by rfl) (fun w => by kernel_rfl)) hT8 ?_
  simp only [Act.put, List.setIfInBounds_toArray, List.set_cons_zero, List.set_cons_succ]
  refine wpAnyH_done (by kernel_rfl) ?_ _
  clear q0 q7 q4 q5 hB hnB q1 q2 q3
  have HR := Lib.hid (Held.drew hT8)
  clear hT8
  go_wp2_with fail
  have hR := HR.out
  have q0 := H_q0.out
  have q7 := H_q7.out
  have q4 := H_q4.out
  have q5 := H_q5.out
  have hB := H_hB.out
  have hnB := H_hnB.out
  have q1 := H_q1.out
  have q2 := H_q2.out
  have q3 := H_q3.out
  clear HR
  refine wp_region_held_drew (S := Held w [(w.heap.size, S)]) (by kernel_rfl) hR (fun _ => ?_)
  refine takeAt 0 35 (.bool true) rfl rfl (by kernel_rfl) (by kernel_rfl) (by kernel_rfl) (fun _ _ _ h => h) (yields (by rfl) (fun w => by kernel_rfl)) hR ?_
  simp only [Act.put, List.setIfInBounds_toArray, List.set_cons_zero, List.set_cons_succ]
  refine takeAt 1 36 (.bool false) rfl rfl (by kernel_rfl) (by kernel_rfl) (by kernel_rfl) (fun _ _ _ h => h) (yields (by rfl) (fun w => by kernel_rfl)) hR ?_
  simp only [Act.put, List.setIfInBounds_toArray, List.set_cons_zero, List.set_cons_succ]
  refine takeAt 2 37 (.bool false) rfl rfl (by kernel_rfl) (by kernel_rfl) (by kernel_rfl) (fun _ _ _ h => h) (yields (by rfl) (fun w => by kernel_rfl)) hR ?_
  simp only [Act.put, List.setIfInBounds_toArray, List.set_cons_zero, List.set_cons_succ]
  refine takeAt 3 38 (setV S) rfl rfl (by kernel_rfl) (by kernel_rfl) (by kernel_rfl) (fun _ _ _ h => h) (load_yields rfl rfl List.mem_cons_self (by rfl)) hR ?_
  simp only [Act.put, List.setIfInBounds_toArray, List.set_cons_zero, List.set_cons_succ]
  refine takeAt 4 39 (.int .u8 0) rfl rfl (by kernel_rfl) (by kernel_rfl) (by kernel_rfl) (fun _ _ _ h => h) (yields (by rfl) (fun w => by kernel_rfl)) hR ?_
  simp only [Act.put, List.setIfInBounds_toArray, List.set_cons_zero, List.set_cons_succ]
  refine callAt 5 40 rfl rfl (by kernel_rfl) (by rfl) (by kernel_rfl) (has_k S _ 0 true _ rfl (by omega) q4) ?_
  rintro e w' ⟨rfl, hb⟩
  refine ⟨_, rfl, hR.call hb, ?_⟩
  have hT1 := hR.call hb
  clear hR hb
  simp only [Act.put, List.setIfInBounds_toArray, List.set_cons_zero, List.set_cons_succ]
  refine takeAt 6 41 (.bool true) rfl rfl (by kernel_rfl) (by kernel_rfl) (by kernel_rfl) (fun _ _ _ h => h) (yields (by rfl) (fun w => by kernel_rfl)) hT1 ?_
  simp only [Act.put, List.setIfInBounds_toArray, List.set_cons_zero, List.set_cons_succ]
  refine takeAt 7 42 (.int .u8 0) rfl rfl (by kernel_rfl) (by kernel_rfl) (by kernel_rfl) (fun _ _ _ h => h) (yields (by rfl) (fun w => by kernel_rfl)) hT1 ?_
  simp only [Act.put, List.setIfInBounds_toArray, List.set_cons_zero, List.set_cons_succ]
  refine takeAt 8 43 (.bool true) rfl rfl (by kernel_rfl) (by kernel_rfl) (by kernel_rfl) (fun _ _ _ h => h) (eql8_y true rfl rfl rfl q5 (by rfl)) hT1 ?_
  simp only [Act.put, List.setIfInBounds_toArray, List.set_cons_zero, List.set_cons_succ]
  refine takeAt 9 44 (.bool true) rfl rfl (by kernel_rfl) (by kernel_rfl) (by kernel_rfl) (fun _ _ _ h => h) (yields (by rfl) (fun w => by kernel_rfl)) hT1 ?_
  simp only [Act.put, List.setIfInBounds_toArray, List.set_cons_zero, List.set_cons_succ]
  refine takeAt 10 45 (undef) rfl rfl (by kernel_rfl) (by kernel_rfl) (by kernel_rfl) (fun _ _ _ h => h) (skipped (by rfl)) hT1 ?_
  simp only [Act.put, List.setIfInBounds_toArray, List.set_cons_zero, List.set_cons_succ]
  refine takeAt 11 46 (undef) rfl rfl (by kernel_rfl) (by kernel_rfl) (by kernel_rfl) (fun _ _ _ h => h) (skipped (by rfl)) hT1 ?_
  simp only [Act.put, List.setIfInBounds_toArray, List.set_cons_zero, List.set_cons_succ]
  refine takeAt 12 47 (undef) rfl rfl (by kernel_rfl) (by kernel_rfl) (by kernel_rfl) (fun _ _ _ h => h) (skipped (by rfl)) hT1 ?_
  simp only [Act.put, List.setIfInBounds_toArray, List.set_cons_zero, List.set_cons_succ]
  refine takeAt 15 50 (undef) rfl rfl (by kernel_rfl) (by kernel_rfl) (by kernel_rfl) (fun _ _ _ h => h) (skipped (by rfl)) hT1 ?_
  simp only [Act.put, List.setIfInBounds_toArray, List.set_cons_zero, List.set_cons_succ]
  refine takeAt 13 48 (undef) rfl rfl (by kernel_rfl) (by kernel_rfl) (by kernel_rfl) (fun _ _ _ h => h) (skipped (by rfl)) hT1 ?_
  simp only [Act.put, List.setIfInBounds_toArray, List.set_cons_zero, List.set_cons_succ]
  refine takeAt 14 49 (undef) rfl rfl (by kernel_rfl) (by kernel_rfl) (by kernel_rfl) (fun _ _ _ h => h) (skipped (by rfl)) hT1 ?_
  simp only [Act.put, List.setIfInBounds_toArray, List.set_cons_zero, List.set_cons_succ]
  refine takeAt 16 51 (undef) rfl rfl (by kernel_rfl) (by kernel_rfl) (by kernel_rfl) (fun _ _ _ h => h) (skipped (by rfl)) hT1 ?_
  simp only [Act.put, List.setIfInBounds_toArray, List.set_cons_zero, List.set_cons_succ]
  refine takeAt 17 52 (.bool true) rfl rfl (by kernel_rfl) (by kernel_rfl) (by kernel_rfl) (fun _ _ _ h => h) (yields (by rfl) (fun w => by kernel_rfl)) hT1 ?_
  simp only [Act.put, List.setIfInBounds_toArray, List.set_cons_zero, List.set_cons_succ]
  refine takeAt 18 53 (.bool true) rfl rfl (by kernel_rfl) (by kernel_rfl) (by kernel_rfl) (fun _ _ _ h => h) (yields (by rfl) (fun w => by kernel_rfl)) hT1 ?_
  simp only [Act.put, List.setIfInBounds_toArray, List.set_cons_zero, List.set_cons_succ]
  refine takeAt 19 54 (.bool true) rfl rfl (by kernel_rfl) (by kernel_rfl) (by kernel_rfl) (fun _ _ _ h => h) (yields (by rfl) (fun w => by kernel_rfl)) hT1 ?_
  simp only [Act.put, List.setIfInBounds_toArray, List.set_cons_zero, List.set_cons_succ]
  refine takeAt 20 55 (.bool true) rfl rfl (by kernel_rfl) (by kernel_rfl) (by kernel_rfl) (fun _ _ _ h => h) (yields (by rfl) (fun w => by kernel_rfl)) hT1 ?_
  simp only [Act.put, List.setIfInBounds_toArray, List.set_cons_zero, List.set_cons_succ]
  refine takeAt 21 56 (setV S) rfl rfl (by kernel_rfl) (by kernel_rfl) (by kernel_rfl) (fun _ _ _ h => h) (load_yields rfl rfl List.mem_cons_self (by rfl)) hT1 ?_
  simp only [Act.put, List.setIfInBounds_toArray, List.set_cons_zero, List.set_cons_succ]
  refine takeAt 22 57 (.int .u8 (c : Int)) rfl rfl (by kernel_rfl) (by kernel_rfl) (by kernel_rfl) (fun _ _ _ h => h) (yields (by rfl) (fun w => by kernel_rfl)) hT1 ?_
  simp only [Act.put, List.setIfInBounds_toArray, List.set_cons_zero, List.set_cons_succ]
  refine takeAt 24 59 (setV S) rfl rfl (by kernel_rfl) (by kernel_rfl) (by kernel_rfl) (fun _ _ _ h => h) (load_yields rfl rfl List.mem_cons_self (by rfl)) hT1 ?_
  simp only [Act.put, List.setIfInBounds_toArray, List.set_cons_zero, List.set_cons_succ]
  refine takeAt 26 61 (.int .u8 (c : Int)) rfl rfl (by kernel_rfl) (by kernel_rfl) (by kernel_rfl) (fun _ _ _ h => h) (yields (by rfl) (fun w => by kernel_rfl)) hT1 ?_
  simp only [Act.put, List.setIfInBounds_toArray, List.set_cons_zero, List.set_cons_succ]
  refine callAt 23 58 rfl rfl (by kernel_rfl) (by rfl) (by kernel_rfl) (has_k S _ c true _ rfl (by omega) hB) ?_
  rintro e w' ⟨rfl, hb⟩
  refine ⟨_, rfl, hT1.call hb, ?_⟩
  have hT2 := hT1.call hb
  clear hT1 hb
  simp only [Act.put, List.setIfInBounds_toArray, List.set_cons_zero, List.set_cons_succ]
  refine callAt 25 60 rfl rfl (by kernel_rfl) (by rfl) (by kernel_rfl) (not_k S _) ?_
  rintro e w' ⟨rfl, hb⟩
  refine ⟨_, rfl, hT2.call hb, ?_⟩
  have hT3 := hT2.call hb
  clear hT2 hb
  simp only [Act.put, List.setIfInBounds_toArray, List.set_cons_zero, List.set_cons_succ]
  refine callAt 27 62 rfl rfl (by kernel_rfl) (by rfl) (by kernel_rfl) (has_k (notS S) _ c false _ rfl (by omega) hnB) ?_
  rintro e w' ⟨rfl, hb⟩
  refine ⟨_, rfl, hT3.call hb, ?_⟩
  have hT4 := hT3.call hb
  clear hT3 hb
  simp only [Act.put, List.setIfInBounds_toArray, List.set_cons_zero, List.set_cons_succ]
  refine takeAt 28 63 (.bool true) rfl rfl (by kernel_rfl) (by kernel_rfl) (by kernel_rfl) (fun _ _ _ h => h) (yields (by rfl) (fun w => by kernel_rfl)) hT4 ?_
  simp only [Act.put, List.setIfInBounds_toArray, List.set_cons_zero, List.set_cons_succ]
  refine takeAt 29 64 (.bool true) rfl rfl (by kernel_rfl) (by kernel_rfl) (by kernel_rfl) (fun _ _ _ h => h) (yields (by rfl) (fun w => by kernel_rfl)) hT4 ?_
  simp only [Act.put, List.setIfInBounds_toArray, List.set_cons_zero, List.set_cons_succ]
  refine takeAt 30 65 (.bool true) rfl rfl (by kernel_rfl) (by kernel_rfl) (by kernel_rfl) (fun _ _ _ h => h) (yields (by rfl) (fun w => by kernel_rfl)) hT4 ?_
  simp only [Act.put, List.setIfInBounds_toArray, List.set_cons_zero, List.set_cons_succ]
  refine callAt 31 66 rfl rfl (by kernel_rfl) (by rfl) (by kernel_rfl) (hT4.fix HF.out) ?_
  rintro e w' ⟨rfl, hb⟩
  refine ⟨_, rfl, hT4.call hb, ?_⟩
  have hT5 := hT4.call hb
  clear hT4 hb
  simp only [Act.put, List.setIfInBounds_toArray, List.set_cons_zero, List.set_cons_succ]
  refine takeAt 32 67 (.bool true) rfl rfl (by kernel_rfl) (by kernel_rfl) (by kernel_rfl) (fun _ _ _ h => h) (yields (by rfl) (fun w => by kernel_rfl)) hT5 ?_
  simp only [Act.put, List.setIfInBounds_toArray, List.set_cons_zero, List.set_cons_succ]
  refine takeAt 33 4 (.bool true) rfl rfl (by kernel_rfl) (by kernel_rfl) (by kernel_rfl) (fun _ _ _ h => h) (yields (by rfl) (fun w => by kernel_rfl)) hT5 ?_
  simp only [Act.put, List.setIfInBounds_toArray, List.set_cons_zero, List.set_cons_succ]
  refine wpAnyH_done (by kernel_rfl) ?_ _
  go_wp2
  go_ret
  exact ⟨rfl, hT5.2.1⟩

set_option maxHeartbeats 8000000 in
set_option maxRecDepth 100000 in
theorem classHas_Ofalse (hfix : FixedOk) (S : BitVec 256) (c : Nat) (w : World) (ht : TabOk w) (hc : c < 256) (q0 : S ≠ 0#256) (q7 : minS S = 0) (q4 : mem S 0 = true) (q5 : ((0 : Int) == (0 : Int)) = true) (hB : mem S c = false) (hnB : mem (notS S) c = true) (q1 : mem (orS S (oneS c)) c = true) (q2 : mem (andS S (notS (oneS c))) c = false) (q3 : decide ((0 : Int) < (lenS S : Int)) = true) :
    Calls Tryd.prog 7 #[setV S, .int .u8 (c : Int)] w fun e w' => e = .returned (.bool true) ∧ Below w.heap.size w w' := by
  have HF := Lib.hid hfix
  have HT := Lib.hid ht
  have H_q0 := Lib.hid q0
  have H_q7 := Lib.hid q7
  have H_q4 := Lib.hid q4
  have H_q5 := Lib.hid q5
  have H_hB := Lib.hid hB
  have H_hnB := Lib.hid hnB
  have H_q1 := Lib.hid q1
  have H_q2 := Lib.hid q2
  have H_q3 := Lib.hid q3
  clear hfix ht q0 q7 q4 q5 hB hnB q1 q2 q3
  go_enter Tryd.func7, Tryd.ntmps7
  go_wp2_with fail
  refine (min_yes S _ H_q0.out (HT.out.alloc _)).mono ?_
  rintro e w1 ⟨rfl, hb⟩
  rw [H_q7.out]
  have HS := Lib.hid (((Held.start HT.out).new S).call hb).drew
  clear hb
  go_wp2_with fail
  have hS := HS.out
  have q0 := H_q0.out
  have q7 := H_q7.out
  have q4 := H_q4.out
  have q5 := H_q5.out
  have hB := H_hB.out
  have hnB := H_hnB.out
  have q1 := H_q1.out
  have q2 := H_q2.out
  have q3 := H_q3.out
  clear HS
  refine wp_region_held_drew (S := Held w [(w.heap.size, S)]) (by kernel_rfl) hS (fun _ => ?_)
  refine takeAt 0 12 (setV S) rfl rfl (by kernel_rfl) (by kernel_rfl) (by kernel_rfl) (fun _ _ _ h => h) (load_yields rfl rfl List.mem_cons_self (by rfl)) hS ?_
  simp only [Act.put, List.setIfInBounds_toArray, List.set_cons_zero, List.set_cons_succ]
  refine takeAt 1 13 (.int .u8 (c : Int)) rfl rfl (by kernel_rfl) (by kernel_rfl) (by kernel_rfl) (fun _ _ _ h => h) (yields (by rfl) (fun w => by kernel_rfl)) hS ?_
  simp only [Act.put, List.setIfInBounds_toArray, List.set_cons_zero, List.set_cons_succ]
  refine takeAt 4 16 (.int .u8 (c : Int)) rfl rfl (by kernel_rfl) (by kernel_rfl) (by kernel_rfl) (fun _ _ _ h => h) (yields (by rfl) (fun w => by kernel_rfl)) hS ?_
  simp only [Act.put, List.setIfInBounds_toArray, List.set_cons_zero, List.set_cons_succ]
  refine callAt 2 14 rfl rfl (by kernel_rfl) (by rfl) (by kernel_rfl) (oneAt_k _ c _ rfl (by omega)) ?_
  rintro e w' ⟨rfl, hb⟩
  refine ⟨_, rfl, hS.call hb, ?_⟩
  have hT1 := hS.call hb
  clear hS hb
  simp only [Act.put, List.setIfInBounds_toArray, List.set_cons_zero, List.set_cons_succ]
  refine callAt 3 15 rfl rfl (by kernel_rfl) (by rfl) (by kernel_rfl) (or_k S (oneS c) _) ?_
  rintro e w' ⟨rfl, hb⟩
  refine ⟨_, rfl, hT1.call hb, ?_⟩
  have hT2 := hT1.call hb
  clear hT1 hb
  simp only [Act.put, List.setIfInBounds_toArray, List.set_cons_zero, List.set_cons_succ]
  refine callAt 5 17 rfl rfl (by kernel_rfl) (by rfl) (by kernel_rfl) (has_k (orS S (oneS c)) _ c true _ rfl (by omega) q1) ?_
  rintro e w' ⟨rfl, hb⟩
  refine ⟨_, rfl, hT2.call hb, ?_⟩
  have hT3 := hT2.call hb
  clear hT2 hb
  simp only [Act.put, List.setIfInBounds_toArray, List.set_cons_zero, List.set_cons_succ]
  refine takeAt 6 18 (.bool false) rfl rfl (by kernel_rfl) (by kernel_rfl) (by kernel_rfl) (fun _ _ _ h => h) (yields (by rfl) (fun w => by kernel_rfl)) hT3 ?_
  simp only [Act.put, List.setIfInBounds_toArray, List.set_cons_zero, List.set_cons_succ]
  refine takeAt 7 19 (.bool false) rfl rfl (by kernel_rfl) (by kernel_rfl) (by kernel_rfl) (fun _ _ _ h => h) (yields (by rfl) (fun w => by kernel_rfl)) hT3 ?_
  simp only [Act.put, List.setIfInBounds_toArray, List.set_cons_zero, List.set_cons_succ]
  refine takeAt 8 20 (setV S) rfl rfl (by kernel_rfl) (by kernel_rfl) (by kernel_rfl) (fun _ _ _ h => h) (load_yields rfl rfl List.mem_cons_self (by rfl)) hT3 ?_
  simp only [Act.put, List.setIfInBounds_toArray, List.set_cons_zero, List.set_cons_succ]
  refine takeAt 9 21 (.int .u8 (c : Int)) rfl rfl (by kernel_rfl) (by kernel_rfl) (by kernel_rfl) (fun _ _ _ h => h) (yields (by rfl) (fun w => by kernel_rfl)) hT3 ?_
  simp only [Act.put, List.setIfInBounds_toArray, List.set_cons_zero, List.set_cons_succ]
  refine takeAt 13 25 (.int .u8 (c : Int)) rfl rfl (by kernel_rfl) (by kernel_rfl) (by kernel_rfl) (fun _ _ _ h => h) (yields (by rfl) (fun w => by kernel_rfl)) hT3 ?_
  simp only [Act.put, List.setIfInBounds_toArray, List.set_cons_zero, List.set_cons_succ]
  refine callAt 10 22 rfl rfl (by kernel_rfl) (by rfl) (by kernel_rfl) (oneAt_k _ c _ rfl (by omega)) ?_
  rintro e w' ⟨rfl, hb⟩
  refine ⟨_, rfl, hT3.call hb, ?_⟩
  have hT4 := hT3.call hb
  clear hT3 hb
  simp only [Act.put, List.setIfInBounds_toArray, List.set_cons_zero, List.set_cons_succ]
  refine callAt 11 23 rfl rfl (by kernel_rfl) (by rfl) (by kernel_rfl) (not_k (oneS c) _) ?_
  rintro e w' ⟨rfl, hb⟩
  refine ⟨_, rfl, hT4.call hb, ?_⟩
  have hT5 := hT4.call hb
  clear hT4 hb
  simp only [Act.put, List.setIfInBounds_toArray, List.set_cons_zero, List.set_cons_succ]
  refine callAt 12 24 rfl rfl (by kernel_rfl) (by rfl) (by kernel_rfl) (and_k S (notS (oneS c)) _) ?_
  rintro e w' ⟨rfl, hb⟩
  refine ⟨_, rfl, hT5.call hb, ?_⟩
  have hT6 := hT5.call hb
  clear hT5 hb
  simp only [Act.put, List.setIfInBounds_toArray, List.set_cons_zero, List.set_cons_succ]
  refine callAt 14 26 rfl rfl (by kernel_rfl) (by rfl) (by kernel_rfl) (has_k (andS S (notS (oneS c))) _ c false _ rfl (by omega) q2) ?_
  rintro e w' ⟨rfl, hb⟩
  refine ⟨_, rfl, hT6.call hb, ?_⟩
  have hT7 := hT6.call hb
  clear hT6 hb
  simp only [Act.put, List.setIfInBounds_toArray, List.set_cons_zero, List.set_cons_succ]
  refine takeAt 15 27 (.bool false) rfl rfl (by kernel_rfl) (by kernel_rfl) (by kernel_rfl) (fun _ _ _ h => h) (yields (by rfl) (fun w => by kernel_rfl)) hT7 ?_
  simp only [Act.put, List.setIfInBounds_toArray, List.set_cons_zero, List.set_cons_succ]
  refine takeAt 16 28 (.bool false) rfl rfl (by kernel_rfl) (by kernel_rfl) (by kernel_rfl) (fun _ _ _ h => h) (yields (by rfl) (fun w => by kernel_rfl)) hT7 ?_
  simp only [Act.put, List.setIfInBounds_toArray, List.set_cons_zero, List.set_cons_succ]
  refine takeAt 17 29 (.bool true) rfl rfl (by kernel_rfl) (by kernel_rfl) (by kernel_rfl) (fun _ _ _ h => h) (yields (by rfl) (fun w => by kernel_rfl)) hT7 ?_
  simp only [Act.put, List.setIfInBounds_toArray, List.set_cons_zero, List.set_cons_succ]
  refine takeAt 18 30 (setV S) rfl rfl (by kernel_rfl) (by kernel_rfl) (by kernel_rfl) (fun _ _ _ h => h) (load_yields rfl rfl List.mem_cons_self (by rfl)) hT7 ?_
  simp only [Act.put, List.setIfInBounds_toArray, List.set_cons_zero, List.set_cons_succ]
  refine callAt 19 31 rfl rfl (by kernel_rfl) (by rfl) (by kernel_rfl) (len_any S _) ?_
  rintro e w' ⟨rfl, hb⟩
  refine ⟨_, rfl, hT7.call hb, ?_⟩
  have hT8 := hT7.call hb
  clear hT7 hb
  simp only [Act.put, List.setIfInBounds_toArray, List.set_cons_zero, List.set_cons_succ]
  refine takeAt 20 32 (.bool true) rfl rfl (by kernel_rfl) (by kernel_rfl) (by kernel_rfl) (fun _ _ _ h => h) (gtr64_y true rfl rfl rfl q3 (by rfl)) hT8 ?_
  simp only [Act.put, List.setIfInBounds_toArray, List.set_cons_zero, List.set_cons_succ]
  refine takeAt 21 33 (.bool false) rfl rfl (by kernel_rfl) (by kernel_rfl) (by kernel_rfl) (fun _ _ _ h => h) (yields (by rfl) (fun w => by kernel_rfl)) hT8 ?_
  simp only [Act.put, List.setIfInBounds_toArray, List.set_cons_zero, List.set_cons_succ]
  refine takeAt 22 34 (.bool false) rfl rfl (by kernel_rfl) (by kernel_rfl) (by kernel_rfl) (fun _ _ _ h => h) (yields (by rfl) (fun w => by kernel_rfl)) hT8 ?_
  simp only [Act.put, List.setIfInBounds_toArray, List.set_cons_zero, List.set_cons_succ]
  refine wpAnyH_done (by kernel_rfl) ?_ _
  clear q0 q7 q4 q5 hB hnB q1 q2 q3
  have HR := Lib.hid (Held.drew hT8)
  clear hT8
  go_wp2_with fail
  have hR := HR.out
  have q0 := H_q0.out
  have q7 := H_q7.out
  have q4 := H_q4.out
  have q5 := H_q5.out
  have hB := H_hB.out
  have hnB := H_hnB.out
  have q1 := H_q1.out
  have q2 := H_q2.out
  have q3 := H_q3.out
  clear HR
  refine wp_region_held_drew (S := Held w [(w.heap.size, S)]) (by kernel_rfl) hR (fun _ => ?_)
  refine takeAt 0 35 (.bool true) rfl rfl (by kernel_rfl) (by kernel_rfl) (by kernel_rfl) (fun _ _ _ h => h) (yields (by rfl) (fun w => by kernel_rfl)) hR ?_
  simp only [Act.put, List.setIfInBounds_toArray, List.set_cons_zero, List.set_cons_succ]
  refine takeAt 1 36 (.bool false) rfl rfl (by kernel_rfl) (by kernel_rfl) (by kernel_rfl) (fun _ _ _ h => h) (yields (by rfl) (fun w => by kernel_rfl)) hR ?_
  simp only [Act.put, List.setIfInBounds_toArray, List.set_cons_zero, List.set_cons_succ]
  refine takeAt 2 37 (.bool false) rfl rfl (by kernel_rfl) (by kernel_rfl) (by kernel_rfl) (fun _ _ _ h => h) (yields (by rfl) (fun w => by kernel_rfl)) hR ?_
  simp only [Act.put, List.setIfInBounds_toArray, List.set_cons_zero, List.set_cons_succ]
  refine takeAt 3 38 (setV S) rfl rfl (by kernel_rfl) (by kernel_rfl) (by kernel_rfl) (fun _ _ _ h => h) (load_yields rfl rfl List.mem_cons_self (by rfl)) hR ?_
  simp only [Act.put, List.setIfInBounds_toArray, List.set_cons_zero, List.set_cons_succ]
  refine takeAt 4 39 (.int .u8 0) rfl rfl (by kernel_rfl) (by kernel_rfl) (by kernel_rfl) (fun _ _ _ h => h) (yields (by rfl) (fun w => by kernel_rfl)) hR ?_
  simp only [Act.put, List.setIfInBounds_toArray, List.set_cons_zero, List.set_cons_succ]
  refine callAt 5 40 rfl rfl (by kernel_rfl) (by rfl) (by kernel_rfl) (has_k S _ 0 true _ rfl (by omega) q4) ?_
  rintro e w' ⟨rfl, hb⟩
  refine ⟨_, rfl, hR.call hb, ?_⟩
  have hT1 := hR.call hb
  clear hR hb
  simp only [Act.put, List.setIfInBounds_toArray, List.set_cons_zero, List.set_cons_succ]
  refine takeAt 6 41 (.bool true) rfl rfl (by kernel_rfl) (by kernel_rfl) (by kernel_rfl) (fun _ _ _ h => h) (yields (by rfl) (fun w => by kernel_rfl)) hT1 ?_
  simp only [Act.put, List.setIfInBounds_toArray, List.set_cons_zero, List.set_cons_succ]
  refine takeAt 7 42 (.int .u8 0) rfl rfl (by kernel_rfl) (by kernel_rfl) (by kernel_rfl) (fun _ _ _ h => h) (yields (by rfl) (fun w => by kernel_rfl)) hT1 ?_
  simp only [Act.put, List.setIfInBounds_toArray, List.set_cons_zero, List.set_cons_succ]
  refine takeAt 8 43 (.bool true) rfl rfl (by kernel_rfl) (by kernel_rfl) (by kernel_rfl) (fun _ _ _ h => h) (eql8_y true rfl rfl rfl q5 (by rfl)) hT1 ?_
  simp only [Act.put, List.setIfInBounds_toArray, List.set_cons_zero, List.set_cons_succ]
  refine takeAt 9 44 (.bool true) rfl rfl (by kernel_rfl) (by kernel_rfl) (by kernel_rfl) (fun _ _ _ h => h) (yields (by rfl) (fun w => by kernel_rfl)) hT1 ?_
  simp only [Act.put, List.setIfInBounds_toArray, List.set_cons_zero, List.set_cons_succ]
  refine takeAt 10 45 (undef) rfl rfl (by kernel_rfl) (by kernel_rfl) (by kernel_rfl) (fun _ _ _ h => h) (skipped (by rfl)) hT1 ?_
  simp only [Act.put, List.setIfInBounds_toArray, List.set_cons_zero, List.set_cons_succ]
  refine takeAt 11 46 (undef) rfl rfl (by kernel_rfl) (by kernel_rfl) (by kernel_rfl) (fun _ _ _ h => h) (skipped (by rfl)) hT1 ?_
  simp only [Act.put, List.setIfInBounds_toArray, List.set_cons_zero, List.set_cons_succ]
  refine takeAt 12 47 (undef) rfl rfl (by kernel_rfl) (by kernel_rfl) (by kernel_rfl) (fun _ _ _ h => h) (skipped (by rfl)) hT1 ?_
  simp only [Act.put, List.setIfInBounds_toArray, List.set_cons_zero, List.set_cons_succ]
  refine takeAt 15 50 (undef) rfl rfl (by kernel_rfl) (by kernel_rfl) (by kernel_rfl) (fun _ _ _ h => h) (skipped (by rfl)) hT1 ?_
  simp only [Act.put, List.setIfInBounds_toArray, List.set_cons_zero, List.set_cons_succ]
  refine takeAt 13 48 (undef) rfl rfl (by kernel_rfl) (by kernel_rfl) (by kernel_rfl) (fun _ _ _ h => h) (skipped (by rfl)) hT1 ?_
  simp only [Act.put, List.setIfInBounds_toArray, List.set_cons_zero, List.set_cons_succ]
  refine takeAt 14 49 (undef) rfl rfl (by kernel_rfl) (by kernel_rfl) (by kernel_rfl) (fun _ _ _ h => h) (skipped (by rfl)) hT1 ?_
  simp only [Act.put, List.setIfInBounds_toArray, List.set_cons_zero, List.set_cons_succ]
  refine takeAt 16 51 (undef) rfl rfl (by kernel_rfl) (by kernel_rfl) (by kernel_rfl) (fun _ _ _ h => h) (skipped (by rfl)) hT1 ?_
  simp only [Act.put, List.setIfInBounds_toArray, List.set_cons_zero, List.set_cons_succ]
  refine takeAt 17 52 (.bool true) rfl rfl (by kernel_rfl) (by kernel_rfl) (by kernel_rfl) (fun _ _ _ h => h) (yields (by rfl) (fun w => by kernel_rfl)) hT1 ?_
  simp only [Act.put, List.setIfInBounds_toArray, List.set_cons_zero, List.set_cons_succ]
  refine takeAt 18 53 (.bool true) rfl rfl (by kernel_rfl) (by kernel_rfl) (by kernel_rfl) (fun _ _ _ h => h) (yields (by rfl) (fun w => by kernel_rfl)) hT1 ?_
  simp only [Act.put, List.setIfInBounds_toArray, List.set_cons_zero, List.set_cons_succ]
  refine takeAt 19 54 (.bool true) rfl rfl (by kernel_rfl) (by kernel_rfl) (by kernel_rfl) (fun _ _ _ h => h) (yields (by rfl) (fun w => by kernel_rfl)) hT1 ?_
  simp only [Act.put, List.setIfInBounds_toArray, List.set_cons_zero, List.set_cons_succ]
  refine takeAt 20 55 (.bool true) rfl rfl (by kernel_rfl) (by kernel_rfl) (by kernel_rfl) (fun _ _ _ h => h) (yields (by rfl) (fun w => by kernel_rfl)) hT1 ?_
  simp only [Act.put, List.setIfInBounds_toArray, List.set_cons_zero, List.set_cons_succ]
  refine takeAt 21 56 (setV S) rfl rfl (by kernel_rfl) (by kernel_rfl) (by kernel_rfl) (fun _ _ _ h => h) (load_yields rfl rfl List.mem_cons_self (by rfl)) hT1 ?_
  simp only [Act.put, List.setIfInBounds_toArray, List.set_cons_zero, List.set_cons_succ]
  refine takeAt 22 57 (.int .u8 (c : Int)) rfl rfl (by kernel_rfl) (by kernel_rfl) (by kernel_rfl) (fun _ _ _ h => h) (yields (by rfl) (fun w => by kernel_rfl)) hT1 ?_
  simp only [Act.put, List.setIfInBounds_toArray, List.set_cons_zero, List.set_cons_succ]
  refine takeAt 24 59 (setV S) rfl rfl (by kernel_rfl) (by kernel_rfl) (by kernel_rfl) (fun _ _ _ h => h) (load_yields rfl rfl List.mem_cons_self (by rfl)) hT1 ?_
  simp only [Act.put, List.setIfInBounds_toArray, List.set_cons_zero, List.set_cons_succ]
  refine takeAt 26 61 (.int .u8 (c : Int)) rfl rfl (by kernel_rfl) (by kernel_rfl) (by kernel_rfl) (fun _ _ _ h => h) (yields (by rfl) (fun w => by kernel_rfl)) hT1 ?_
  simp only [Act.put, List.setIfInBounds_toArray, List.set_cons_zero, List.set_cons_succ]
  refine callAt 23 58 rfl rfl (by kernel_rfl) (by rfl) (by kernel_rfl) (has_k S _ c false _ rfl (by omega) hB) ?_
  rintro e w' ⟨rfl, hb⟩
  refine ⟨_, rfl, hT1.call hb, ?_⟩
  have hT2 := hT1.call hb
  clear hT1 hb
  simp only [Act.put, List.setIfInBounds_toArray, List.set_cons_zero, List.set_cons_succ]
  refine callAt 25 60 rfl rfl (by kernel_rfl) (by rfl) (by kernel_rfl) (not_k S _) ?_
  rintro e w' ⟨rfl, hb⟩
  refine ⟨_, rfl, hT2.call hb, ?_⟩
  have hT3 := hT2.call hb
  clear hT2 hb
  simp only [Act.put, List.setIfInBounds_toArray, List.set_cons_zero, List.set_cons_succ]
  refine callAt 27 62 rfl rfl (by kernel_rfl) (by rfl) (by kernel_rfl) (has_k (notS S) _ c true _ rfl (by omega) hnB) ?_
  rintro e w' ⟨rfl, hb⟩
  refine ⟨_, rfl, hT3.call hb, ?_⟩
  have hT4 := hT3.call hb
  clear hT3 hb
  simp only [Act.put, List.setIfInBounds_toArray, List.set_cons_zero, List.set_cons_succ]
  refine takeAt 28 63 (.bool true) rfl rfl (by kernel_rfl) (by kernel_rfl) (by kernel_rfl) (fun _ _ _ h => h) (yields (by rfl) (fun w => by kernel_rfl)) hT4 ?_
  simp only [Act.put, List.setIfInBounds_toArray, List.set_cons_zero, List.set_cons_succ]
  refine takeAt 29 64 (.bool true) rfl rfl (by kernel_rfl) (by kernel_rfl) (by kernel_rfl) (fun _ _ _ h => h) (yields (by rfl) (fun w => by kernel_rfl)) hT4 ?_
  simp only [Act.put, List.setIfInBounds_toArray, List.set_cons_zero, List.set_cons_succ]
  refine takeAt 30 65 (.bool true) rfl rfl (by kernel_rfl) (by kernel_rfl) (by kernel_rfl) (fun _ _ _ h => h) (yields (by rfl) (fun w => by kernel_rfl)) hT4 ?_
  simp only [Act.put, List.setIfInBounds_toArray, List.set_cons_zero, List.set_cons_succ]
  refine callAt 31 66 rfl rfl (by kernel_rfl) (by rfl) (by kernel_rfl) (hT4.fix HF.out) ?_
  rintro e w' ⟨rfl, hb⟩
  refine ⟨_, rfl, hT4.call hb, ?_⟩
  have hT5 := hT4.call hb
  clear hT4 hb
  simp only [Act.put, List.setIfInBounds_toArray, List.set_cons_zero, List.set_cons_succ]
  refine takeAt 32 67 (.bool true) rfl rfl (by kernel_rfl) (by kernel_rfl) (by kernel_rfl) (fun _ _ _ h => h) (yields (by rfl) (fun w => by kernel_rfl)) hT5 ?_
  simp only [Act.put, List.setIfInBounds_toArray, List.set_cons_zero, List.set_cons_succ]
  refine takeAt 33 4 (.bool true) rfl rfl (by kernel_rfl) (by kernel_rfl) (by kernel_rfl) (fun _ _ _ h => h) (yields (by rfl) (fun w => by kernel_rfl)) hT5 ?_
  simp only [Act.put, List.setIfInBounds_toArray, List.set_cons_zero, List.set_cons_succ]
  refine wpAnyH_done (by kernel_rfl) ?_ _
  go_wp2
  go_ret
  exact ⟨rfl, hT5.2.1⟩

set_option maxHeartbeats 8000000 in
set_option maxRecDepth 100000 in
theorem classHas_Ptrue (hfix : FixedOk) (S : BitVec 256) (c m : Nat) (w : World) (ht : TabOk w) (hc : c < 256) (hm : 0 < m) (hm2 : m < 256) (q0 : S ≠ 0#256) (q7 : minS S = m) (q4 : mem S m = true) (q5 : ((m : Int) == (0 : Int)) = false) (q6 : eqS (andS S (span 0 (m - 1 + 1))) zeroS = true) (hB : mem S c = true) (hnB : mem (notS S) c = false) (q1 : mem (orS S (oneS c)) c = true) (q2 : mem (andS S (notS (oneS c))) c = false) (q3 : decide ((0 : Int) < (lenS S : Int)) = true) :
    Calls Tryd.prog 7 #[setV S, .int .u8 (c : Int)] w fun e w' => e = .returned (.bool true) ∧ Below w.heap.size w w' := by
  have HF := Lib.hid hfix
  have HT := Lib.hid ht
  have H_q0 := Lib.hid q0
  have H_q7 := Lib.hid q7
  have H_q4 := Lib.hid q4
  have H_q5 := Lib.hid q5
  have H_q6 := Lib.hid q6
  have H_hB := Lib.hid hB
  have H_hnB := Lib.hid hnB
  have H_q1 := Lib.hid q1
  have H_q2 := Lib.hid q2
  have H_q3 := Lib.hid q3
  clear hfix ht q0 q7 q4 q5 q6 hB hnB q1 q2 q3
  go_enter Tryd.func7, Tryd.ntmps7
  go_wp2_with fail
  refine (min_yes S _ H_q0.out (HT.out.alloc _)).mono ?_
  rintro e w1 ⟨rfl, hb⟩
  rw [H_q7.out]
  have HS := Lib.hid (((Held.start HT.out).new S).call hb).drew
  clear hb
  go_wp2_with fail
  have hS := HS.out
  have q0 := H_q0.out
  have q7 := H_q7.out
  have q4 := H_q4.out
  have q5 := H_q5.out
  have q6 := H_q6.out
  have hB := H_hB.out
  have hnB := H_hnB.out
  have q1 := H_q1.out
  have q2 := H_q2.out
  have q3 := H_q3.out
  clear HS
  refine wp_region_held_drew (S := Held w [(w.heap.size, S)]) (by kernel_rfl) hS (fun _ => ?_)
  refine takeAt 0 12 (setV S) rfl rfl (by kernel_rfl) (by kernel_rfl) (by kernel_rfl) (fun _ _ _ h => h) (load_yields rfl rfl List.mem_cons_self (by rfl)) hS ?_
  simp only [Act.put, List.setIfInBounds_toArray, List.set_cons_zero, List.set_cons_succ]
  refine takeAt 1 13 (.int .u8 (c : Int)) rfl rfl (by kernel_rfl) (by kernel_rfl) (by kernel_rfl) (fun _ _ _ h => h) (yields (by rfl) (fun w => by kernel_rfl)) hS ?_
  simp only [Act.put, List.setIfInBounds_toArray, List.set_cons_zero, List.set_cons_succ]
  refine takeAt 4 16 (.int .u8 (c : Int)) rfl rfl (by kernel_rfl) (by kernel_rfl) (by kernel_rfl) (fun _ _ _ h => h) (yields (by rfl) (fun w => by kernel_rfl)) hS ?_
  simp only [Act.put, List.setIfInBounds_toArray, List.set_cons_zero, List.set_cons_succ]
  refine callAt 2 14 rfl rfl (by kernel_rfl) (by rfl) (by kernel_rfl) (oneAt_k _ c _ rfl (by omega)) ?_
  rintro e w' ⟨rfl, hb⟩
  refine ⟨_, rfl, hS.call hb, ?_⟩
  have hT1 := hS.call hb
  clear hS hb
  simp only [Act.put, List.setIfInBounds_toArray, List.set_cons_zero, List.set_cons_succ]
  refine callAt 3 15 rfl rfl (by kernel_rfl) (by rfl) (by kernel_rfl) (or_k S (oneS c) _) ?_
  rintro e w' ⟨rfl, hb⟩
  refine ⟨_, rfl, hT1.call hb, ?_⟩
  have hT2 := hT1.call hb
  clear hT1 hb
  simp only [Act.put, List.setIfInBounds_toArray, List.set_cons_zero, List.set_cons_succ]
  refine callAt 5 17 rfl rfl (by kernel_rfl) (by rfl) (by kernel_rfl) (has_k (orS S (oneS c)) _ c true _ rfl (by omega) q1) ?_
  rintro e w' ⟨rfl, hb⟩
  refine ⟨_, rfl, hT2.call hb, ?_⟩
  have hT3 := hT2.call hb
  clear hT2 hb
  simp only [Act.put, List.setIfInBounds_toArray, List.set_cons_zero, List.set_cons_succ]
  refine takeAt 6 18 (.bool false) rfl rfl (by kernel_rfl) (by kernel_rfl) (by kernel_rfl) (fun _ _ _ h => h) (yields (by rfl) (fun w => by kernel_rfl)) hT3 ?_
  simp only [Act.put, List.setIfInBounds_toArray, List.set_cons_zero, List.set_cons_succ]
  refine takeAt 7 19 (.bool false) rfl rfl (by kernel_rfl) (by kernel_rfl) (by kernel_rfl) (fun _ _ _ h => h) (yields (by rfl) (fun w => by kernel_rfl)) hT3 ?_
  simp only [Act.put, List.setIfInBounds_toArray, List.set_cons_zero, List.set_cons_succ]
  refine takeAt 8 20 (setV S) rfl rfl (by kernel_rfl) (by kernel_rfl) (by kernel_rfl) (fun _ _ _ h => h) (load_yields rfl rfl List.mem_cons_self (by rfl)) hT3 ?_
  simp only [Act.put, List.setIfInBounds_toArray, List.set_cons_zero, List.set_cons_succ]
  refine takeAt 9 21 (.int .u8 (c : Int)) rfl rfl (by kernel_rfl) (by kernel_rfl) (by kernel_rfl) (fun _ _ _ h => h) (yields (by rfl) (fun w => by kernel_rfl)) hT3 ?_
  simp only [Act.put, List.setIfInBounds_toArray, List.set_cons_zero, List.set_cons_succ]
  refine takeAt 13 25 (.int .u8 (c : Int)) rfl rfl (by kernel_rfl) (by kernel_rfl) (by kernel_rfl) (fun _ _ _ h => h) (yields (by rfl) (fun w => by kernel_rfl)) hT3 ?_
  simp only [Act.put, List.setIfInBounds_toArray, List.set_cons_zero, List.set_cons_succ]
  refine callAt 10 22 rfl rfl (by kernel_rfl) (by rfl) (by kernel_rfl) (oneAt_k _ c _ rfl (by omega)) ?_
  rintro e w' ⟨rfl, hb⟩
  refine ⟨_, rfl, hT3.call hb, ?_⟩
  have hT4 := hT3.call hb
  clear hT3 hb
  simp only [Act.put, List.setIfInBounds_toArray, List.set_cons_zero, List.set_cons_succ]
  refine callAt 11 23 rfl rfl (by kernel_rfl) (by rfl) (by kernel_rfl) (not_k (oneS c) _) ?_
  rintro e w' ⟨rfl, hb⟩
  refine ⟨_, rfl, hT4.call hb, ?_⟩
  have hT5 := hT4.call hb
  clear hT4 hb
  simp only [Act.put, List.setIfInBounds_toArray, List.set_cons_zero, List.set_cons_succ]
  refine callAt 12 24 rfl rfl (by kernel_rfl) (by rfl) (by kernel_rfl) (and_k S (notS (oneS c)) _) ?_
  rintro e w' ⟨rfl, hb⟩
  refine ⟨_, rfl, hT5.call hb, ?_⟩
  have hT6 := hT5.call hb
  clear hT5 hb
  simp only [Act.put, List.setIfInBounds_toArray, List.set_cons_zero, List.set_cons_succ]
  refine callAt 14 26 rfl rfl (by kernel_rfl) (by rfl) (by kernel_rfl) (has_k (andS S (notS (oneS c))) _ c false _ rfl (by omega) q2) ?_
  rintro e w' ⟨rfl, hb⟩
  refine ⟨_, rfl, hT6.call hb, ?_⟩
  have hT7 := hT6.call hb
  clear hT6 hb
  simp only [Act.put, List.setIfInBounds_toArray, List.set_cons_zero, List.set_cons_succ]
  refine takeAt 15 27 (.bool false) rfl rfl (by kernel_rfl) (by kernel_rfl) (by kernel_rfl) (fun _ _ _ h => h) (yields (by rfl) (fun w => by kernel_rfl)) hT7 ?_
  simp only [Act.put, List.setIfInBounds_toArray, List.set_cons_zero, List.set_cons_succ]
  refine takeAt 16 28 (.bool false) rfl rfl (by kernel_rfl) (by kernel_rfl) (by kernel_rfl) (fun _ _ _ h => h) (yields (by rfl) (fun w => by kernel_rfl)) hT7 ?_
  simp only [Act.put, List.setIfInBounds_toArray, List.set_cons_zero, List.set_cons_succ]
  refine takeAt 17 29 (.bool true) rfl rfl (by kernel_rfl) (by kernel_rfl) (by kernel_rfl) (fun _ _ _ h => h) (yields (by rfl) (fun w => by kernel_rfl)) hT7 ?_
  simp only [Act.put, List.setIfInBounds_toArray, List.set_cons_zero, List.set_cons_succ]
  refine takeAt 18 30 (setV S) rfl rfl (by kernel_rfl) (by kernel_rfl) (by kernel_rfl) (fun _ _ _ h => h) (load_yields rfl rfl List.mem_cons_self (by rfl)) hT7 ?_
  simp only [Act.put, List.setIfInBounds_toArray, List.set_cons_zero, List.set_cons_succ]
  refine callAt 19 31 rfl rfl (by kernel_rfl) (by rfl) (by kernel_rfl) (len_any S _) ?_
  rintro e w' ⟨rfl, hb⟩
  refine ⟨_, rfl, hT7.call hb, ?_⟩
  have hT8 := hT7.call hb
  clear hT7 hb
  simp only [Act.put, List.setIfInBounds_toArray, List.set_cons_zero, List.set_cons_succ]
  refine takeAt 20 32 (.bool true) rfl rfl (by kernel_rfl) (by kernel_rfl) (by kernel_rfl) (fun _ _ _ h => h) (gtr64_y true rfl rfl rfl q3 (by rfl)) hT8 ?_
  simp only [Act.put, List.setIfInBounds_toArray, List.set_cons_zero, List.set_cons_succ]
  refine takeAt 21 33 (.bool false) rfl rfl (by kernel_rfl) (by kernel_rfl) (by kernel_rfl) (fun _ _ _ h => h) (yields (by rfl) (fun w => by kernel_rfl)) hT8 ?_
  simp only [Act.put, List.setIfInBounds_toArray, List.set_cons_zero, List.set_cons_succ]
  refine takeAt 22 34 (.bool false) rfl rfl (by kernel_rfl) (by kernel_rfl) (by kernel_rfl) (fun _ _ _ h => h) (yields (by rfl) (fun w => by kernel_rfl)) hT8 ?_
  simp only [Act.put, List.setIfInBounds_toArray, List.set_cons_zero, List.set_cons_succ]
  refine wpAnyH_done (by kernel_rfl) ?_ _
  clear q0 q7 q4 q5 q6 hB hnB q1 q2 q3
  have HR := Lib.hid (Held.drew hT8)
  clear hT8
  go_wp2_with fail
  have hR := HR.out
  have q0 := H_q0.out
  have q7 := H_q7.out
  have q4 := H_q4.out
  have q5 := H_q5.out
  have q6 := H_q6.out
  have hB := H_hB.out
  have hnB := H_hnB.out
  have q1 := H_q1.out
  have q2 := H_q2.out
  have q3 := H_q3.out
  clear HR
  refine wp_region_held_drew (S := Held w [(w.heap.size, S)]) (by kernel_rfl) hR (fun _ => ?_)
  refine takeAt 0 35 (.bool true) rfl rfl (by kernel_rfl) (by kernel_rfl) (by kernel_rfl) (fun _ _ _ h => h) (yields (by rfl) (fun w => by kernel_rfl)) hR ?_
  simp only [Act.put, List.setIfInBounds_toArray, List.set_cons_zero, List.set_cons_succ]
  refine takeAt 1 36 (.bool false) rfl rfl (by kernel_rfl) (by kernel_rfl) (by kernel_rfl) (fun _ _ _ h => h) (yields (by rfl) (fun w => by kernel_rfl)) hR ?_
  simp only [Act.put, List.setIfInBounds_toArray, List.set_cons_zero, List.set_cons_succ]
  refine takeAt 2 37 (.bool false) rfl rfl (by kernel_rfl) (by kernel_rfl) (by kernel_rfl) (fun _ _ _ h => h) (yields (by rfl) (fun w => by kernel_rfl)) hR ?_
  simp only [Act.put, List.setIfInBounds_toArray, List.set_cons_zero, List.set_cons_succ]
  refine takeAt 3 38 (setV S) rfl rfl (by kernel_rfl) (by kernel_rfl) (by kernel_rfl) (fun _ _ _ h => h) (load_yields rfl rfl List.mem_cons_self (by rfl)) hR ?_
  simp only [Act.put, List.setIfInBounds_toArray, List.set_cons_zero, List.set_cons_succ]
  refine takeAt 4 39 (.int .u8 (m : Int)) rfl rfl (by kernel_rfl) (by kernel_rfl) (by kernel_rfl) (fun _ _ _ h => h) (yields (by rfl) (fun w => by kernel_rfl)) hR ?_
  simp only [Act.put, List.setIfInBounds_toArray, List.set_cons_zero, List.set_cons_succ]
  refine callAt 5 40 rfl rfl (by kernel_rfl) (by rfl) (by kernel_rfl) (has_k S _ m true _ rfl (by omega) q4) ?_
  rintro e w' ⟨rfl, hb⟩
  refine ⟨_, rfl, hR.call hb, ?_⟩
  have hT1 := hR.call hb
  clear hR hb
  simp only [Act.put, List.setIfInBounds_toArray, List.set_cons_zero, List.set_cons_succ]
  refine takeAt 6 41 (.bool true) rfl rfl (by kernel_rfl) (by kernel_rfl) (by kernel_rfl) (fun _ _ _ h => h) (yields (by rfl) (fun w => by kernel_rfl)) hT1 ?_
  simp only [Act.put, List.setIfInBounds_toArray, List.set_cons_zero, List.set_cons_succ]
  refine takeAt 7 42 (.int .u8 (m : Int)) rfl rfl (by kernel_rfl) (by kernel_rfl) (by kernel_rfl) (fun _ _ _ h => h) (yields (by rfl) (fun w => by kernel_rfl)) hT1 ?_
  simp only [Act.put, List.setIfInBounds_toArray, List.set_cons_zero, List.set_cons_succ]
  refine takeAt 8 43 (.bool false) rfl rfl (by kernel_rfl) (by kernel_rfl) (by kernel_rfl) (fun _ _ _ h => h) (eql8_y false rfl rfl rfl q5 (by rfl)) hT1 ?_
  simp only [Act.put, List.setIfInBounds_toArray, List.set_cons_zero, List.set_cons_succ]
  refine takeAt 9 44 (.bool false) rfl rfl (by kernel_rfl) (by kernel_rfl) (by kernel_rfl) (fun _ _ _ h => h) (yields (by rfl) (fun w => by kernel_rfl)) hT1 ?_
  simp only [Act.put, List.setIfInBounds_toArray, List.set_cons_zero, List.set_cons_succ]
  refine takeAt 10 45 (setV S) rfl rfl (by kernel_rfl) (by kernel_rfl) (by kernel_rfl) (fun _ _ _ h => h) (load_yields rfl rfl List.mem_cons_self (by rfl)) hT1 ?_
  simp only [Act.put, List.setIfInBounds_toArray, List.set_cons_zero, List.set_cons_succ]
  refine takeAt 11 46 (.int .u8 (m : Int)) rfl rfl (by kernel_rfl) (by kernel_rfl) (by kernel_rfl) (fun _ _ _ h => h) (yields (by rfl) (fun w => by kernel_rfl)) hT1 ?_
  simp only [Act.put, List.setIfInBounds_toArray, List.set_cons_zero, List.set_cons_succ]
  refine takeAt 12 47 (.int .u8 ((m : Int) - 1)) rfl rfl (by kernel_rfl) (by kernel_rfl) (by kernel_rfl) (fun _ _ _ h => h) (sub8_y _ rfl rfl rfl rfl (by omega) (by omega) (by omega) (by rfl)) hT1 ?_
  simp only [Act.put, List.setIfInBounds_toArray, List.set_cons_zero, List.set_cons_succ]
  refine takeAt 15 50 (.agg #[.int .u64 0, .int .u64 0, .int .u64 0, .int .u64 0]) rfl rfl (by kernel_rfl) (by kernel_rfl) (by kernel_rfl) (fun _ _ _ h => h) (yields (by rfl) (fun w => by kernel_rfl)) hT1 ?_
  simp only [Act.put, List.setIfInBounds_toArray, List.set_cons_zero, List.set_cons_succ]
  refine callAt 13 48 rfl rfl (by kernel_rfl) (by rfl) (by kernel_rfl) (range_k 0 ((m : Int) - 1) 0 (m - 1) _ rfl (by omega) (by omega) (by omega)) ?_
  rintro e w' ⟨rfl, hb⟩
  refine ⟨_, rfl, hT1.call hb, ?_⟩
  have hT2 := hT1.call hb
  clear hT1 hb
  simp only [Act.put, List.setIfInBounds_toArray, List.set_cons_zero, List.set_cons_succ]
  refine callAt 14 49 rfl rfl (by kernel_rfl) (by rfl) (by kernel_rfl) (and_k S (span 0 (m - 1 + 1)) _) ?_
  rintro e w' ⟨rfl, hb⟩
  refine ⟨_, rfl, hT2.call hb, ?_⟩
  have hT3 := hT2.call hb
  clear hT2 hb
  simp only [Act.put, List.setIfInBounds_toArray, List.set_cons_zero, List.set_cons_succ]
  refine takeAt 16 51 (.bool true) rfl rfl (by kernel_rfl) (by kernel_rfl) (by kernel_rfl) (fun _ _ _ h => h) (eq_yields true rfl rfl (show _ = setV zeroS by kernel_rfl) q6 (by rfl)) hT3 ?_
  simp only [Act.put, List.setIfInBounds_toArray, List.set_cons_zero, List.set_cons_succ]
  refine takeAt 17 52 (.bool true) rfl rfl (by kernel_rfl) (by kernel_rfl) (by kernel_rfl) (fun _ _ _ h => h) (yields (by rfl) (fun w => by kernel_rfl)) hT3 ?_
  simp only [Act.put, List.setIfInBounds_toArray, List.set_cons_zero, List.set_cons_succ]
  refine takeAt 18 53 (.bool true) rfl rfl (by kernel_rfl) (by kernel_rfl) (by kernel_rfl) (fun _ _ _ h => h) (yields (by rfl) (fun w => by kernel_rfl)) hT3 ?_
  simp only [Act.put, List.setIfInBounds_toArray, List.set_cons_zero, List.set_cons_succ]
  refine takeAt 19 54 (.bool true) rfl rfl (by kernel_rfl) (by kernel_rfl) (by kernel_rfl) (fun _ _ _ h => h) (yields (by rfl) (fun w => by kernel_rfl)) hT3 ?_
  simp only [Act.put, List.setIfInBounds_toArray, List.set_cons_zero, List.set_cons_succ]
  refine takeAt 20 55 (.bool true) rfl rfl (by kernel_rfl) (by kernel_rfl) (by kernel_rfl) (fun _ _ _ h => h) (yields (by rfl) (fun w => by kernel_rfl)) hT3 ?_
  simp only [Act.put, List.setIfInBounds_toArray, List.set_cons_zero, List.set_cons_succ]
  refine takeAt 21 56 (setV S) rfl rfl (by kernel_rfl) (by kernel_rfl) (by kernel_rfl) (fun _ _ _ h => h) (load_yields rfl rfl List.mem_cons_self (by rfl)) hT3 ?_
  simp only [Act.put, List.setIfInBounds_toArray, List.set_cons_zero, List.set_cons_succ]
  refine takeAt 22 57 (.int .u8 (c : Int)) rfl rfl (by kernel_rfl) (by kernel_rfl) (by kernel_rfl) (fun _ _ _ h => h) (yields (by rfl) (fun w => by kernel_rfl)) hT3 ?_
  simp only [Act.put, List.setIfInBounds_toArray, List.set_cons_zero, List.set_cons_succ]
  refine takeAt 24 59 (setV S) rfl rfl (by kernel_rfl) (by kernel_rfl) (by kernel_rfl) (fun _ _ _ h => h) (load_yields rfl rfl List.mem_cons_self (by rfl)) hT3 ?_
  simp only [Act.put, List.setIfInBounds_toArray, List.set_cons_zero, List.set_cons_succ]
  refine takeAt 26 61 (.int .u8 (c : Int)) rfl rfl (by kernel_rfl) (by kernel_rfl) (by kernel_rfl) (fun _ _ _ h => h) (yields (by rfl) (fun w => by kernel_rfl)) hT3 ?_
  simp only [Act.put, List.setIfInBounds_toArray, List.set_cons_zero, List.set_cons_succ]
  refine callAt 23 58 rfl rfl (by kernel_rfl) (by rfl) (by kernel_rfl) (has_k S _ c true _ rfl (by omega) hB) ?_
  rintro e w' ⟨rfl, hb⟩
  refine ⟨_, rfl, hT3.call hb, ?_⟩
  have hT4 := hT3.call hb
  clear hT3 hb
  simp only [Act.put, List.setIfInBounds_toArray, List.set_cons_zero, List.set_cons_succ]
  refine callAt 25 60 rfl rfl (by kernel_rfl) (by rfl) (by kernel_rfl) (not_k S _) ?_
  rintro e w' ⟨rfl, hb⟩
  refine ⟨_, rfl, hT4.call hb, ?_⟩
  have hT5 := hT4.call hb
  clear hT4 hb
  simp only [Act.put, List.setIfInBounds_toArray, List.set_cons_zero, List.set_cons_succ]
  refine callAt 27 62 rfl rfl (by kernel_rfl) (by rfl) (by kernel_rfl) (has_k (notS S) _ c false _ rfl (by omega) hnB) ?_
  rintro e w' ⟨rfl, hb⟩
  refine ⟨_, rfl, hT5.call hb, ?_⟩
  have hT6 := hT5.call hb
  clear hT5 hb
  simp only [Act.put, List.setIfInBounds_toArray, List.set_cons_zero, List.set_cons_succ]
  refine takeAt 28 63 (.bool true) rfl rfl (by kernel_rfl) (by kernel_rfl) (by kernel_rfl) (fun _ _ _ h => h) (yields (by rfl) (fun w => by kernel_rfl)) hT6 ?_
  simp only [Act.put, List.setIfInBounds_toArray, List.set_cons_zero, List.set_cons_succ]
  refine takeAt 29 64 (.bool true) rfl rfl (by kernel_rfl) (by kernel_rfl) (by kernel_rfl) (fun _ _ _ h => h) (yields (by rfl) (fun w => by kernel_rfl)) hT6 ?_
  simp only [Act.put, List.setIfInBounds_toArray, List.set_cons_zero, List.set_cons_succ]
  refine takeAt 30 65 (.bool true) rfl rfl (by kernel_rfl) (by kernel_rfl) (by kernel_rfl) (fun _ _ _ h => h) (yields (by rfl) (fun w => by kernel_rfl)) hT6 ?_
  simp only [Act.put, List.setIfInBounds_toArray, List.set_cons_zero, List.set_cons_succ]
  refine callAt 31 66 rfl rfl (by kernel_rfl) (by rfl) (by kernel_rfl) (hT6.fix HF.out) ?_
  rintro e w' ⟨rfl, hb⟩
  refine ⟨_, rfl, hT6.call hb, ?_⟩
  have hT7 := hT6.call hb
  clear hT6 hb
  simp only [Act.put, List.setIfInBounds_toArray, List.set_cons_zero, List.set_cons_succ]
  refine takeAt 32 67 (.bool true) rfl rfl (by kernel_rfl) (by kernel_rfl) (by kernel_rfl) (fun _ _ _ h => h) (yields (by rfl) (fun w => by kernel_rfl)) hT7 ?_
  simp only [Act.put, List.setIfInBounds_toArray, List.set_cons_zero, List.set_cons_succ]
  refine takeAt 33 4 (.bool true) rfl rfl (by kernel_rfl) (by kernel_rfl) (by kernel_rfl) (fun _ _ _ h => h) (yields (by rfl) (fun w => by kernel_rfl)) hT7 ?_
  simp only [Act.put, List.setIfInBounds_toArray, List.set_cons_zero, List.set_cons_succ]
  refine wpAnyH_done (by kernel_rfl) ?_ _
  go_wp2
  go_ret
  exact ⟨rfl, hT7.2.1⟩

set_option maxHeartbeats 8000000 in
set_option maxRecDepth 100000 in
theorem classHas_Pfalse (hfix : FixedOk) (S : BitVec 256) (c m : Nat) (w : World) (ht : TabOk w) (hc : c < 256) (hm : 0 < m) (hm2 : m < 256) (q0 : S ≠ 0#256) (q7 : minS S = m) (q4 : mem S m = true) (q5 : ((m : Int) == (0 : Int)) = false) (q6 : eqS (andS S (span 0 (m - 1 + 1))) zeroS = true) (hB : mem S c = false) (hnB : mem (notS S) c = true) (q1 : mem (orS S (oneS c)) c = true) (q2 : mem (andS S (notS (oneS c))) c = false) (q3 : decide ((0 : Int) < (lenS S : Int)) = true) :
    Calls Tryd.prog 7 #[setV S, .int .u8 (c : Int)] w fun e w' => e = .returned (.bool true) ∧ Below w.heap.size w w' := by
  have HF := Lib.hid hfix
  have HT := Lib.hid ht
  have H_q0 := Lib.hid q0
  have H_q7 := Lib.hid q7
  have H_q4 := Lib.hid q4
  have H_q5 := Lib.hid q5
  have H_q6 := Lib.hid q6
  have H_hB := Lib.hid hB
  have H_hnB := Lib.hid hnB
  have H_q1 := Lib.hid q1
  have H_q2 := Lib.hid q2
  have H_q3 := Lib.hid q3
  clear hfix ht q0 q7 q4 q5 q6 hB hnB q1 q2 q3
  go_enter Tryd.func7, Tryd.ntmps7
  go_wp2_with fail
  refine (min_yes S _ H_q0.out (HT.out.alloc _)).mono ?_
  rintro e w1 ⟨rfl, hb⟩
  rw [H_q7.out]
  have HS := Lib.hid (((Held.start HT.out).new S).call hb).drew
  clear hb
  go_wp2_with fail
  have hS := HS.out
  have q0 := H_q0.out
  have q7 := H_q7.out
  have q4 := H_q4.out
  have q5 := H_q5.out
  have q6 := H_q6.out
  have hB := H_hB.out
  have hnB := H_hnB.out
  have q1 := H_q1.out
  have q2 := H_q2.out
  have q3 := H_q3.out
  clear HS
  refine wp_region_held_drew (S := Held w [(w.heap.size, S)]) (by kernel_rfl) hS (fun _ => ?_)
  refine takeAt 0 12 (setV S) rfl rfl (by kernel_rfl) (by kernel_rfl) (by kernel_rfl) (fun _ _ _ h => h) (load_yields rfl rfl List.mem_cons_self (by rfl)) hS ?_
  simp only [Act.put, List.setIfInBounds_toArray, List.set_cons_zero, List.set_cons_succ]
  refine takeAt 1 13 (.int .u8 (c : Int)) rfl rfl (by kernel_rfl) (by kernel_rfl) (by kernel_rfl) (fun _ _ _ h => h) (yields (by rfl) (fun w => by kernel_rfl)) hS ?_
  simp only [Act.put, List.setIfInBounds_toArray, List.set_cons_zero, List.set_cons_succ]
  refine takeAt 4 16 (.int .u8 (c : Int)) rfl rfl (by kernel_rfl) (by kernel_rfl) (by kernel_rfl) (fun _ _ _ h => h) (yields (by rfl) (fun w => by kernel_rfl)) hS ?_
  simp only [Act.put, List.setIfInBounds_toArray, List.set_cons_zero, List.set_cons_succ]
  refine callAt 2 14 rfl rfl (by kernel_rfl) (by rfl) (by kernel_rfl) (oneAt_k _ c _ rfl (by omega)) ?_
  rintro e w' ⟨rfl, hb⟩
  refine ⟨_, rfl, hS.call hb, ?_⟩
  have hT1 := hS.call hb
  clear hS hb
  simp only [Act.put, List.setIfInBounds_toArray, List.set_cons_zero, List.set_cons_succ]
  refine callAt 3 15 rfl rfl (by kernel_rfl) (by rfl) (by kernel_rfl) (or_k S (oneS c) _) ?_
  rintro e w' ⟨rfl, hb⟩
  refine ⟨_, rfl, hT1.call hb, ?_⟩
  have hT2 := hT1.call hb
  clear hT1 hb
  simp only [Act.put, List.setIfInBounds_toArray, List.set_cons_zero, List.set_cons_succ]
  refine callAt 5 17 rfl rfl (by kernel_rfl) (by rfl) (by kernel_rfl) (has_k (orS S (oneS c)) _ c true _ rfl (by omega) q1) ?_
  rintro e w' ⟨rfl, hb⟩
  refine ⟨_, rfl, hT2.call hb, ?_⟩
  have hT3 := hT2.call hb
  clear hT2 hb
  simp only [Act.put, List.setIfInBounds_toArray, List.set_cons_zero, List.set_cons_succ]
  refine takeAt 6 18 (.bool false) rfl rfl (by kernel_rfl) (by kernel_rfl) (by kernel_rfl) (fun _ _ _ h => h) (yields (by rfl) (fun w => by kernel_rfl)) hT3 ?_
  simp only [Act.put, List.setIfInBounds_toArray, List.set_cons_zero, List.set_cons_succ]
  refine takeAt 7 19 (.bool false) rfl rfl (by kernel_rfl) (by kernel_rfl) (by kernel_rfl) (fun _ _ _ h => h) (yields (by rfl) (fun w => by kernel_rfl)) hT3 ?_
  simp only [Act.put, List.setIfInBounds_toArray, List.set_cons_zero, List.set_cons_succ]
  refine takeAt 8 20 (setV S) rfl rfl (by kernel_rfl) (by kernel_rfl) (by kernel_rfl) (fun _ _ _ h => h) (load_yields rfl rfl List.mem_cons_self (by rfl)) hT3 ?_
  simp only [Act.put, List.setIfInBounds_toArray, List.set_cons_zero, List.set_cons_succ]
  refine takeAt 9 21 (.int .u8 (c : Int)) rfl rfl (by kernel_rfl) (by kernel_rfl) (by kernel_rfl) (fun _ _ _ h => h) (yields (by rfl) (fun w => by kernel_rfl)) hT3 ?_
  simp only [Act.put, List.setIfInBounds_toArray, List.set_cons_zero, List.set_cons_succ]
  refine takeAt 13 25 (.int .u8 (c : Int)) rfl rfl (by kernel_rfl) (by kernel_rfl) (by kernel_rfl) (fun _ _ _ h => h) (yields (by rfl) (fun w => by kernel_rfl)) hT3 ?_
  simp only [Act.put, List.setIfInBounds_toArray, List.set_cons_zero, List.set_cons_succ]
  refine callAt 10 22 rfl rfl (by kernel_rfl) (by rfl) (by kernel_rfl) (oneAt_k _ c _ rfl (by omega)) ?_
  rintro e w' ⟨rfl, hb⟩
  refine ⟨_, rfl, hT3.call hb, ?_⟩
  have hT4 := hT3.call hb
  clear hT3 hb
  simp only [Act.put, List.setIfInBounds_toArray, List.set_cons_zero, List.set_cons_succ]
  refine callAt 11 23 rfl rfl (by kernel_rfl) (by rfl) (by kernel_rfl) (not_k (oneS c) _) ?_
  rintro e w' ⟨rfl, hb⟩
  refine ⟨_, rfl, hT4.call hb, ?_⟩
  have hT5 := hT4.call hb
  clear hT4 hb
  simp only [Act.put, List.setIfInBounds_toArray, List.set_cons_zero, List.set_cons_succ]
  refine callAt 12 24 rfl rfl (by kernel_rfl) (by rfl) (by kernel_rfl) (and_k S (notS (oneS c)) _) ?_
  rintro e w' ⟨rfl, hb⟩
  refine ⟨_, rfl, hT5.call hb, ?_⟩
  have hT6 := hT5.call hb
  clear hT5 hb
  simp only [Act.put, List.setIfInBounds_toArray, List.set_cons_zero, List.set_cons_succ]
  refine callAt 14 26 rfl rfl (by kernel_rfl) (by rfl) (by kernel_rfl) (has_k (andS S (notS (oneS c))) _ c false _ rfl (by omega) q2) ?_
  rintro e w' ⟨rfl, hb⟩
  refine ⟨_, rfl, hT6.call hb, ?_⟩
  have hT7 := hT6.call hb
  clear hT6 hb
  simp only [Act.put, List.setIfInBounds_toArray, List.set_cons_zero, List.set_cons_succ]
  refine takeAt 15 27 (.bool false) rfl rfl (by kernel_rfl) (by kernel_rfl) (by kernel_rfl) (fun _ _ _ h => h) (yields (by rfl) (fun w => by kernel_rfl)) hT7 ?_
  simp only [Act.put, List.setIfInBounds_toArray, List.set_cons_zero, List.set_cons_succ]
  refine takeAt 16 28 (.bool false) rfl rfl (by kernel_rfl) (by kernel_rfl) (by kernel_rfl) (fun _ _ _ h => h) (yields (by rfl) (fun w => by kernel_rfl)) hT7 ?_
  simp only [Act.put, List.setIfInBounds_toArray, List.set_cons_zero, List.set_cons_succ]
  refine takeAt 17 29 (.bool true) rfl rfl (by kernel_rfl) (by kernel_rfl) (by kernel_rfl) (fun _ _ _ h => h) (yields (by rfl) (fun w => by kernel_rfl)) hT7 ?_
  simp only [Act.put, List.setIfInBounds_toArray, List.set_cons_zero, List.set_cons_succ]
  refine takeAt 18 30 (setV S) rfl rfl (by kernel_rfl) (by kernel_rfl) (by kernel_rfl) (fun _ _ _ h => h) (load_yields rfl rfl List.mem_cons_self (by rfl)) hT7 ?_
  simp only [Act.put, List.setIfInBounds_toArray, List.set_cons_zero, List.set_cons_succ]
  refine callAt 19 31 rfl rfl (by kernel_rfl) (by rfl) (by kernel_rfl) (len_any S _) ?_
  rintro e w' ⟨rfl, hb⟩
  refine ⟨_, rfl, hT7.call hb, ?_⟩
  have hT8 := hT7.call hb
  clear hT7 hb
  simp only [Act.put, List.setIfInBounds_toArray, List.set_cons_zero, List.set_cons_succ]
  refine takeAt 20 32 (.bool true) rfl rfl (by kernel_rfl) (by kernel_rfl) (by kernel_rfl) (fun _ _ _ h => h) (gtr64_y true rfl rfl rfl q3 (by rfl)) hT8 ?_
  simp only [Act.put, List.setIfInBounds_toArray, List.set_cons_zero, List.set_cons_succ]
  refine takeAt 21 33 (.bool false) rfl rfl (by kernel_rfl) (by kernel_rfl) (by kernel_rfl) (fun _ _ _ h => h) (yields (by rfl) (fun w => by kernel_rfl)) hT8 ?_
  simp only [Act.put, List.setIfInBounds_toArray, List.set_cons_zero, List.set_cons_succ]
  refine takeAt 22 34 (.bool false) rfl rfl (by kernel_rfl) (by kernel_rfl) (by kernel_rfl) (fun _ _ _ h => h) (yields (by rfl) (fun w => by kernel_rfl)) hT8 ?_
  simp only [Act.put, List.setIfInBounds_toArray, List.set_cons_zero, List.set_cons_succ]
  refine wpAnyH_done (by kernel_rfl) ?_ _
  clear q0 q7 q4 q5 q6 hB hnB q1 q2 q3
  have HR := Lib.hid (Held.drew hT8)
  clear hT8
  go_wp2_with fail
  have hR := HR.out
  have q0 := H_q0.out
  have q7 := H_q7.out
  have q4 := H_q4.out
  have q5 := H_q5.out
  have q6 := H_q6.out
  have hB := H_hB.out
  have hnB := H_hnB.out
  have q1 := H_q1.out
  have q2 := H_q2.out
  have q3 := H_q3.out
  clear HR
  refine wp_region_held_drew (S := Held w [(w.heap.size, S)]) (by kernel_rfl) hR (fun _ => ?_)
  refine takeAt 0 35 (.bool true) rfl rfl (by kernel_rfl) (by kernel_rfl) (by kernel_rfl) (fun _ _ _ h => h) (yields (by rfl) (fun w => by kernel_rfl)) hR ?_
  simp only [Act.put, List.setIfInBounds_toArray, List.set_cons_zero, List.set_cons_succ]
  refine takeAt 1 36 (.bool false) rfl rfl (by kernel_rfl) (by kernel_rfl) (by kernel_rfl) (fun _ _ _ h => h) (yields (by rfl) (fun w => by kernel_rfl)) hR ?_
  simp only [Act.put, List.setIfInBounds_toArray, List.set_cons_zero, List.set_cons_succ]
  refine takeAt 2 37 (.bool false) rfl rfl (by kernel_rfl) (by kernel_rfl) (by kernel_rfl) (fun _ _ _ h => h) (yields (by rfl) (fun w => by kernel_rfl)) hR ?_
  simp only [Act.put, List.setIfInBounds_toArray, List.set_cons_zero, List.set_cons_succ]
  refine takeAt 3 38 (setV S) rfl rfl (by kernel_rfl) (by kernel_rfl) (by kernel_rfl) (fun _ _ _ h => h) (load_yields rfl rfl List.mem_cons_self (by rfl)) hR ?_
  simp only [Act.put, List.setIfInBounds_toArray, List.set_cons_zero, List.set_cons_succ]
  refine takeAt 4 39 (.int .u8 (m : Int)) rfl rfl (by kernel_rfl) (by kernel_rfl) (by kernel_rfl) (fun _ _ _ h => h) (yields (by rfl) (fun w => by kernel_rfl)) hR ?_
  simp only [Act.put, List.setIfInBounds_toArray, List.set_cons_zero, List.set_cons_succ]
  refine callAt 5 40 rfl rfl (by kernel_rfl) (by rfl) (by kernel_rfl) (has_k S _ m true _ rfl (by omega) q4) ?_
  rintro e w' ⟨rfl, hb⟩
  refine ⟨_, rfl, hR.call hb, ?_⟩
  have hT1 := hR.call hb
  clear hR hb
  simp only [Act.put, List.setIfInBounds_toArray, List.set_cons_zero, List.set_cons_succ]
  refine takeAt 6 41 (.bool true) rfl rfl (by kernel_rfl) (by kernel_rfl) (by kernel_rfl) (fun _ _ _ h => h) (yields (by rfl) (fun w => by kernel_rfl)) hT1 ?_
  simp only [Act.put, List.setIfInBounds_toArray, List.set_cons_zero, List.set_cons_succ]
  refine takeAt 7 42 (.int .u8 (m : Int)) rfl rfl (by kernel_rfl) (by kernel_rfl) (by kernel_rfl) (fun _ _ _ h => h) (yields (by rfl) (fun w => by kernel_rfl)) hT1 ?_
  simp only [Act.put, List.setIfInBounds_toArray, List.set_cons_zero, List.set_cons_succ]
  refine takeAt 8 43 (.bool false) rfl rfl (by kernel_rfl) (by kernel_rfl) (by kernel_rfl) (fun _ _ _ h => h) (eql8_y false rfl rfl rfl q5 (by rfl)) hT1 ?_
  simp only [Act.put, List.setIfInBounds_toArray, List.set_cons_zero, List.set_cons_succ]
  refine takeAt 9 44 (.bool false) rfl rfl (by kernel_rfl) (by kernel_rfl) (by kernel_rfl) (fun _ _ _ h => h) (yields (by rfl) (fun w => by kernel_rfl)) hT1 ?_
  simp only [Act.put, List.setIfInBounds_toArray, List.set_cons_zero, List.set_cons_succ]
  refine takeAt 10 45 (setV S) rfl rfl (by kernel_rfl) (by kernel_rfl) (by kernel_rfl) (fun _ _ _ h => h) (load_yields rfl rfl List.mem_cons_self (by rfl)) hT1 ?_
  simp only [Act.put, List.setIfInBounds_toArray, List.set_cons_zero, List.set_cons_succ]
  refine takeAt 11 46 (.int .u8 (m : Int)) rfl rfl (by kernel_rfl) (by kernel_rfl) (by kernel_rfl) (fun _ _ _ h => h) (yields (by rfl) (fun w => by kernel_rfl)) hT1 ?_
  simp only [Act.put, List.setIfInBounds_toArray, List.set_cons_zero, List.set_cons_succ]
  refine takeAt 12 47 (.int .u8 ((m : Int) - 1)) rfl rfl (by kernel_rfl) (by kernel_rfl) (by kernel_rfl) (fun _ _ _ h => h) (sub8_y _ rfl rfl rfl rfl (by omega) (by omega) (by omega) (by rfl)) hT1 ?_
  simp only [Act.put, List.setIfInBounds_toArray, List.set_cons_zero, List.set_cons_succ]
  refine takeAt 15 50 (.agg #[.int .u64 0, .int .u64 0, .int .u64 0, .int .u64 0]) rfl rfl (by kernel_rfl) (by kernel_rfl) (by kernel_rfl) (fun _ _ _ h => h) (yields (by rfl) (fun w => by kernel_rfl)) hT1 ?_
  simp only [Act.put, List.setIfInBounds_toArray, List.set_cons_zero, List.set_cons_succ]
  refine callAt 13 48 rfl rfl (by kernel_rfl) (by rfl) (by kernel_rfl) (range_k 0 ((m : Int) - 1) 0 (m - 1) _ rfl (by omega) (by omega) (by omega)) ?_
  rintro e w' ⟨rfl, hb⟩
  refine ⟨_, rfl, hT1.call hb, ?_⟩
  have hT2 := hT1.call hb
  clear hT1 hb
  simp only [Act.put, List.setIfInBounds_toArray, List.set_cons_zero, List.set_cons_succ]
  refine callAt 14 49 rfl rfl (by kernel_rfl) (by rfl) (by kernel_rfl) (and_k S (span 0 (m - 1 + 1)) _) ?_
  rintro e w' ⟨rfl, hb⟩
  refine ⟨_, rfl, hT2.call hb, ?_⟩
  have hT3 := hT2.call hb
  clear hT2 hb
  simp only [Act.put, List.setIfInBounds_toArray, List.set_cons_zero, List.set_cons_succ]
  refine takeAt 16 51 (.bool true) rfl rfl (by kernel_rfl) (by kernel_rfl) (by kernel_rfl) (fun _ _ _ h => h) (eq_yields true rfl rfl (show _ = setV zeroS by kernel_rfl) q6 (by rfl)) hT3 ?_
  simp only [Act.put, List.setIfInBounds_toArray, List.set_cons_zero, List.set_cons_succ]
  refine takeAt 17 52 (.bool true) rfl rfl (by kernel_rfl) (by kernel_rfl) (by kernel_rfl) (fun _ _ _ h => h) (yields (by rfl) (fun w => by kernel_rfl)) hT3 ?_
  simp only [Act.put, List.setIfInBounds_toArray, List.set_cons_zero, List.set_cons_succ]
  refine takeAt 18 53 (.bool true) rfl rfl (by kernel_rfl) (by kernel_rfl) (by kernel_rfl) (fun _ _ _ h => h) (yields (by rfl) (fun w => by kernel_rfl)) hT3 ?_
  simp only [Act.put, List.setIfInBounds_toArray, List.set_cons_zero, List.set_cons_succ]
  refine takeAt 19 54 (.bool true) rfl rfl (by kernel_rfl) (by kernel_rfl) (by kernel_rfl) (fun _ _ _ h => h) (yields (by rfl) (fun w => by kernel_rfl)) hT3 ?_
  simp only [Act.put, List.setIfInBounds_toArray, List.set_cons_zero, List.set_cons_succ]
  refine takeAt 20 55 (.bool true) rfl rfl (by kernel_rfl) (by kernel_rfl) (by kernel_rfl) (fun _ _ _ h => h) (yields (by rfl) (fun w => by kernel_rfl)) hT3 ?_
  simp only [Act.put, List.setIfInBounds_toArray, List.set_cons_zero, List.set_cons_succ]
  refine takeAt 21 56 (setV S) rfl rfl (by kernel_rfl) (by kernel_rfl) (by kernel_rfl) (fun _ _ _ h => h) (load_yields rfl rfl List.mem_cons_self (by rfl)) hT3 ?_
  simp only [Act.put, List.setIfInBounds_toArray, List.set_cons_zero, List.set_cons_succ]
  refine takeAt 22 57 (.int .u8 (c : Int)) rfl rfl (by kernel_rfl) (by kernel_rfl) (by kernel_rfl) (fun _ _ _ h => h) (yields (by rfl) (fun w => by kernel_rfl)) hT3 ?_
  simp only [Act.put, List.setIfInBounds_toArray, List.set_cons_zero, List.set_cons_succ]
  refine takeAt 24 59 (setV S) rfl rfl (by kernel_rfl) (by kernel_rfl) (by kernel_rfl) (fun _ _ _ h => h) (load_yields rfl rfl List.mem_cons_self (by rfl)) hT3 ?_
  simp only [Act.put, List.setIfInBounds_toArray, List.set_cons_zero, List.set_cons_succ]
  refine takeAt 26 61 (.int .u8 (c : Int)) rfl rfl (by kernel_rfl) (by kernel_rfl) (by kernel_rfl) (fun _ _ _ h => h) (yields (by rfl) (fun w => by kernel_rfl)) hT3 ?_
  simp only [Act.put, List.setIfInBounds_toArray, List.set_cons_zero, List.set_cons_succ]
  refine callAt 23 58 rfl rfl (by kernel_rfl) (by rfl) (by kernel_rfl) (has_k S _ c false _ rfl (by omega) hB) ?_
  rintro e w' ⟨rfl, hb⟩
  refine ⟨_, rfl, hT3.call hb, ?_⟩
  have hT4 := hT3.call hb
  clear hT3 hb
  simp only [Act.put, List.setIfInBounds_toArray, List.set_cons_zero, List.set_cons_succ]
  refine callAt 25 60 rfl rfl (by kernel_rfl) (by rfl) (by kernel_rfl) (not_k S _) ?_
  rintro e w' ⟨rfl, hb⟩
  refine ⟨_, rfl, hT4.call hb, ?_⟩
  have hT5 := hT4.call hb
  clear hT4 hb
  simp only [Act.put, List.setIfInBounds_toArray, List.set_cons_zero, List.set_cons_succ]
  refine callAt 27 62 rfl rfl (by kernel_rfl) (by rfl) (by kernel_rfl) (has_k (notS S) _ c true _ rfl (by omega) hnB) ?_
  rintro e w' ⟨rfl, hb⟩
  refine ⟨_, rfl, hT5.call hb, ?_⟩
  have hT6 := hT5.call hb
  clear hT5 hb
  simp only [Act.put, List.setIfInBounds_toArray, List.set_cons_zero, List.set_cons_succ]
  refine takeAt 28 63 (.bool true) rfl rfl (by kernel_rfl) (by kernel_rfl) (by kernel_rfl) (fun _ _ _ h => h) (yields (by rfl) (fun w => by kernel_rfl)) hT6 ?_
  simp only [Act.put, List.setIfInBounds_toArray, List.set_cons_zero, List.set_cons_succ]
  refine takeAt 29 64 (.bool true) rfl rfl (by kernel_rfl) (by kernel_rfl) (by kernel_rfl) (fun _ _ _ h => h) (yields (by rfl) (fun w => by kernel_rfl)) hT6 ?_
  simp only [Act.put, List.setIfInBounds_toArray, List.set_cons_zero, List.set_cons_succ]
  refine takeAt 30 65 (.bool true) rfl rfl (by kernel_rfl) (by kernel_rfl) (by kernel_rfl) (fun _ _ _ h => h) (yields (by rfl) (fun w => by kernel_rfl)) hT6 ?_
  simp only [Act.put, List.setIfInBounds_toArray, List.set_cons_zero, List.set_cons_succ]
  refine callAt 31 66 rfl rfl (by kernel_rfl) (by rfl) (by kernel_rfl) (hT6.fix HF.out) ?_
  rintro e w' ⟨rfl, hb⟩
  refine ⟨_, rfl, hT6.call hb, ?_⟩
  have hT7 := hT6.call hb
  clear hT6 hb
  simp only [Act.put, List.setIfInBounds_toArray, List.set_cons_zero, List.set_cons_succ]
  refine takeAt 32 67 (.bool true) rfl rfl (by kernel_rfl) (by kernel_rfl) (by kernel_rfl) (fun _ _ _ h => h) (yields (by rfl) (fun w => by kernel_rfl)) hT7 ?_
  simp only [Act.put, List.setIfInBounds_toArray, List.set_cons_zero, List.set_cons_succ]
  refine takeAt 33 4 (.bool true) rfl rfl (by kernel_rfl) (by kernel_rfl) (by kernel_rfl) (fun _ _ _ h => h) (yields (by rfl) (fun w => by kernel_rfl)) hT7 ?_
  simp only [Act.put, List.setIfInBounds_toArray, List.set_cons_zero, List.set_cons_succ]
  refine wpAnyH_done (by kernel_rfl) ?_ _
  go_wp2
  go_ret
  exact ⟨rfl, hT7.2.1⟩

theorem lenS_pos (S : BitVec 256) : (0 < lenS S) ↔ S ≠ 0#256 := by
  constructor
  · rintro h rfl
    revert h
    decide +kernel
  · intro h
    apply Nat.pos_of_ne_zero
    intro h0
    apply h
    have key : ∀ n, cntTo S.getLsbD n = 0 → ∀ k, k < n → S.getLsbD k = false := by
      intro n
      induction n with
      | zero => intro _ k hk; omega
      | succ n ih =>
        intro hz k hk
        simp only [cntTo] at hz
        by_cases e : k = n
        · subst e
          cases hS : S.getLsbD k
          · rfl
          · rw [hS] at hz; simp at hz
        · exact ih (by omega) k (by omega)
    apply ext_bit
    intro k hk
    rw [key 256 h0 k hk]
    simp
theorem minS_spec (S : BitVec 256) (h : S ≠ 0#256) : minS S < 256 ∧ S.getLsbD (minS S) = true ∧ ∀ k, k < minS S → S.getLsbD k = false := by
  have hx : ∃ n, n < 256 ∧ S.getLsbD n = true := by
    apply Classical.byContradiction
    intro hn
    apply h
    apply ext_bit
    intro k hk
    cases hS : S.getLsbD k
    · simp
    · exact absurd ⟨k, hk, hS⟩ hn
  obtain ⟨n, hn, hb⟩ := hx
  have key : ∀ m, m ≤ 256 → (∀ k, k < m → S.getLsbD k = false) ∨ ∃ j, j < m ∧ S.getLsbD j = true ∧ ∀ k, k < j → S.getLsbD k = false := by
    intro m
    induction m with
    | zero => intro _; left; intro k hk; omega
    | succ m ih =>
      intro hm
      rcases ih (by omega) with h1 | ⟨j, h1, h2, h3⟩
      · cases hS : S.getLsbD m
        · left
          intro k hk
          by_cases e : k = m
          · rw [e]; exact hS
          · exact h1 k (by omega)
        · right; exact ⟨m, by omega, hS, h1⟩
      · right; exact ⟨j, by omega, h2, h3⟩
  rcases key 256 (Nat.le_refl _) with h1 | ⟨j, h1, h2, h3⟩
  · rw [h1 n hn] at hb; exact absurd hb (by simp)
  · rw [minS_eq S j h1 h2 h3]; exact ⟨h1, h2, h3⟩

theorem classHas_walk (hfix : FixedOk) (S : BitVec 256) (c : Nat) (w : World) (ht : TabOk w) (hc : c < 256) :
    Calls Tryd.prog 7 #[setV S, .int .u8 (c : Int)] w fun e w' => e = .returned (.bool true) ∧ Below w.heap.size w w' := by
  have q1 : mem (orS S (oneS c)) c = true := by unfold mem orS oneS; rw [BitVec.getLsbD_or, addB_bit _ _ _ hc]; simp
  have q2 : mem (andS S (notS (oneS c))) c = false := by unfold mem andS notS oneS; rw [BitVec.getLsbD_and, BitVec.getLsbD_not, addB_bit _ _ _ hc]; simp
  have hn : mem (notS S) c = !mem S c := by unfold mem notS; simp [hc]
  by_cases h0 : S = 0#256
  · have q3 : decide ((0 : Int) < (lenS S : Int)) = false := by
      have := mt (lenS_pos S).1 (by simp [h0])
      simp only [decide_eq_false_iff_not]; omega
    cases hB : mem S c
    · exact classHas_Zfalse hfix S c w ht hc h0 hB (by rw [hn, hB]; rfl) q1 q2 q3
    · exact classHas_Ztrue hfix S c w ht hc h0 hB (by rw [hn, hB]; rfl) q1 q2 q3
  · have q3 : decide ((0 : Int) < (lenS S : Int)) = true := by
      have := (lenS_pos S).2 h0
      simp only [decide_eq_true_eq]; omega
    obtain ⟨m1, m2, m3⟩ := minS_spec S h0
    by_cases hm : minS S = 0
    · rw [hm] at m2
      cases hB : mem S c
      · exact classHas_Ofalse hfix S c w ht hc h0 hm m2 rfl hB (by rw [hn, hB]; rfl) q1 q2 q3
      · exact classHas_Otrue hfix S c w ht hc h0 hm m2 rfl hB (by rw [hn, hB]; rfl) q1 q2 q3
    · have q5 : ((minS S : Int) == (0 : Int)) = false := by simp; omega
      have q6 : eqS (andS S (span 0 (minS S - 1 + 1))) zeroS = true := by
        apply eqS_true
        unfold andS zeroS
        apply ext_bit
        intro k hk
        rw [BitVec.getLsbD_and, span_bit]
        by_cases hlt : k < minS S
        · rw [m3 k hlt]; simp
        · have : ¬ k < minS S - 1 + 1 := by omega
          simp [this]
      cases hB : mem S c
      · exact classHas_Pfalse hfix S c (minS S) w ht hc (by omega) m1 h0 rfl m2 q5 q6 hB (by rw [hn, hB]; rfl) q1 q2 q3
      · exact classHas_Ptrue hfix S c (minS S) w ht hc (by omega) m1 h0 rfl m2 q5 q6 hB (by rw [hn, hB]; rfl) q1 q2 q3
end Go.Proofs.YtobhhhopkkcdiaaDoor
