/-
  The statement ClassFolds: what its walk comes to.
-/
import Derived.Test.YtobhhhopkkcdiaaDoorRegion
namespace Go.Proofs.YtobhhhopkkcdiaaDoor
open Go.RowKit

theorem fold_mem (S : BitVec 256) (n o : Nat) (h : swap n = o) (x y : Bool) (hx : mem S n = x) (hy : mem S o = y) : mem (foldS S) n = (x || y) := by
  subst h hx hy
  exact foldS_bit S n
theorem swap_swap (n : Nat) : swap (swap n) = n := by
  by_cases h1 : 97 ≤ n ∧ n < 123
  · have e : swap n = n - 32 := if_pos h1
    rw [e]
    unfold swap
    rw [if_neg (by omega), if_pos (by omega)]; omega
  · by_cases h2 : 65 ≤ n ∧ n < 91
    · have e : swap n = n + 32 := by unfold swap; rw [if_neg h1, if_pos h2]
      rw [e]
      unfold swap
      rw [if_pos (by omega)]; omega
    · have e : swap n = n := by unfold swap; rw [if_neg h1, if_neg h2]
      rw [e, e]

set_option maxHeartbeats 4000000 in
set_option maxRecDepth 100000 in
theorem classFolds_lowT (hfix : FixedOk) (S : BitVec 256) (c o : Nat) (w : World) (ht : TabOk w) (hc : c < 256) (ho : o < 256) (k1 : 97 ≤ c) (k2 : c ≤ 122) (k3 : c = o + 32) (b : Bool) (hx : mem S c = true) (hy : mem S o = b) (f1 : mem (foldS S) c = true) (f2 : mem (foldS S) o = true) :
    Calls Tryd.prog 9 #[setV S, .int .u8 c] w fun e w' => e = .returned (.bool true) ∧ Below w.heap.size w w' := by
  have HF := Lib.hid hfix
  have HT := Lib.hid ht
  have K3 := Lib.hid k3
  have HX := Lib.hid hx
  have HY := Lib.hid hy
  have H1 := Lib.hid f1
  have H2 := Lib.hid f2
  clear hfix ht k3 hx hy f1 f2
  go_enter Tryd.func9, Tryd.ntmps9
  go_wp2_with fail
  refine (fold_any S _).mono ?_
  rintro e w1 ⟨rfl, hb⟩
  have hS := ((((Held.start HT.out).new S).call hb).new (foldS S)).drew
  clear hb
  have HS := Lib.hid hS
  clear hS
  go_wp2_with fail
  rw [show ((c : Int) - 32) = ((o : Nat) : Int) by have := K3.out; omega]
  have hS := HS.out
  have hx := HX.out
  have hy := HY.out
  have f1 := H1.out
  have f2 := H2.out
  clear HS HX HY H1 H2
  refine wp_region_held_drew (S := Held w [(w1.heap.size, foldS S), (w.heap.size, S)]) (by kernel_rfl) hS (fun _ => ?_)
  refine takeAt 0 26 (setV (foldS S)) rfl rfl (by kernel_rfl) (by kernel_rfl) (by kernel_rfl) (fun _ _ _ h => h) (load_yields rfl rfl List.mem_cons_self (by rfl)) hS ?_
  simp only [Act.put, List.setIfInBounds_toArray, List.set_cons_zero, List.set_cons_succ]
  refine takeAt 1 27 (.int .u8 c) rfl rfl (by kernel_rfl) (by kernel_rfl) (by kernel_rfl) (fun _ _ _ h => h) (yields (by rfl) (fun w => by kernel_rfl)) hS ?_
  simp only [Act.put, List.setIfInBounds_toArray, List.set_cons_zero, List.set_cons_succ]
  refine takeAt 3 29 (setV S) rfl rfl (by kernel_rfl) (by kernel_rfl) (by kernel_rfl) (fun _ _ _ h => h) (load_yields rfl rfl (List.mem_cons_of_mem _ List.mem_cons_self) (by rfl)) hS ?_
  simp only [Act.put, List.setIfInBounds_toArray, List.set_cons_zero, List.set_cons_succ]
  refine takeAt 4 30 (.int .u8 c) rfl rfl (by kernel_rfl) (by kernel_rfl) (by kernel_rfl) (fun _ _ _ h => h) (yields (by rfl) (fun w => by kernel_rfl)) hS ?_
  simp only [Act.put, List.setIfInBounds_toArray, List.set_cons_zero, List.set_cons_succ]
  refine callAt 2 28 rfl rfl (by kernel_rfl) (by rfl) (by kernel_rfl) (has_k (foldS S) _ c true _ rfl (by omega) f1) ?_
  rintro e w' ⟨rfl, hb⟩
  refine ⟨_, rfl, hS.call hb, ?_⟩
  have hT1 := hS.call hb
  clear hS hb
  simp only [Act.put, List.setIfInBounds_toArray, List.set_cons_zero, List.set_cons_succ]
  refine callAt 5 31 rfl rfl (by kernel_rfl) (by rfl) (by kernel_rfl) (has_k S _ c true _ rfl (by omega) hx) ?_
  rintro e w' ⟨rfl, hb⟩
  refine ⟨_, rfl, hT1.call hb, ?_⟩
  have hT2 := hT1.call hb
  clear hT1 hb
  simp only [Act.put, List.setIfInBounds_toArray, List.set_cons_zero, List.set_cons_succ]
  refine takeAt 6 32 (.bool true) rfl rfl (by kernel_rfl) (by kernel_rfl) (by kernel_rfl) (fun _ _ _ h => h) (yields (by rfl) (fun w => by kernel_rfl)) hT2 ?_
  simp only [Act.put, List.setIfInBounds_toArray, List.set_cons_zero, List.set_cons_succ]
  refine takeAt 7 33 (undef) rfl rfl (by kernel_rfl) (by kernel_rfl) (by kernel_rfl) (fun _ _ _ h => h) (skipped (by rfl)) hT2 ?_
  simp only [Act.put, List.setIfInBounds_toArray, List.set_cons_zero, List.set_cons_succ]
  refine takeAt 8 34 (undef) rfl rfl (by kernel_rfl) (by kernel_rfl) (by kernel_rfl) (fun _ _ _ h => h) (skipped (by rfl)) hT2 ?_
  simp only [Act.put, List.setIfInBounds_toArray, List.set_cons_zero, List.set_cons_succ]
  refine takeAt 9 35 (undef) rfl rfl (by kernel_rfl) (by kernel_rfl) (by kernel_rfl) (fun _ _ _ h => h) (skipped (by rfl)) hT2 ?_
  simp only [Act.put, List.setIfInBounds_toArray, List.set_cons_zero, List.set_cons_succ]
  refine takeAt 10 36 (.bool true) rfl rfl (by kernel_rfl) (by kernel_rfl) (by kernel_rfl) (fun _ _ _ h => h) (yields (by rfl) (fun w => by kernel_rfl)) hT2 ?_
  simp only [Act.put, List.setIfInBounds_toArray, List.set_cons_zero, List.set_cons_succ]
  refine takeAt 11 37 (.bool true) rfl rfl (by kernel_rfl) (by kernel_rfl) (by kernel_rfl) (fun _ _ _ h => h) (yields (by rfl) (fun w => by kernel_rfl)) hT2 ?_
  simp only [Act.put, List.setIfInBounds_toArray, List.set_cons_zero, List.set_cons_succ]
  refine takeAt 12 38 (.bool true) rfl rfl (by kernel_rfl) (by kernel_rfl) (by kernel_rfl) (fun _ _ _ h => h) (yields (by rfl) (fun w => by kernel_rfl)) hT2 ?_
  simp only [Act.put, List.setIfInBounds_toArray, List.set_cons_zero, List.set_cons_succ]
  refine takeAt 13 39 (setV (foldS S)) rfl rfl (by kernel_rfl) (by kernel_rfl) (by kernel_rfl) (fun _ _ _ h => h) (load_yields rfl rfl List.mem_cons_self (by rfl)) hT2 ?_
  simp only [Act.put, List.setIfInBounds_toArray, List.set_cons_zero, List.set_cons_succ]
  refine takeAt 14 40 (.int .u8 o) rfl rfl (by kernel_rfl) (by kernel_rfl) (by kernel_rfl) (fun _ _ _ h => h) (yields (by rfl) (fun w => by kernel_rfl)) hT2 ?_
  simp only [Act.put, List.setIfInBounds_toArray, List.set_cons_zero, List.set_cons_succ]
  refine takeAt 16 42 (setV (foldS S)) rfl rfl (by kernel_rfl) (by kernel_rfl) (by kernel_rfl) (fun _ _ _ h => h) (load_yields rfl rfl List.mem_cons_self (by rfl)) hT2 ?_
  simp only [Act.put, List.setIfInBounds_toArray, List.set_cons_zero, List.set_cons_succ]
  refine takeAt 17 43 (.int .u8 c) rfl rfl (by kernel_rfl) (by kernel_rfl) (by kernel_rfl) (fun _ _ _ h => h) (yields (by rfl) (fun w => by kernel_rfl)) hT2 ?_
  simp only [Act.put, List.setIfInBounds_toArray, List.set_cons_zero, List.set_cons_succ]
  refine callAt 15 41 rfl rfl (by kernel_rfl) (by rfl) (by kernel_rfl) (has_k (foldS S) _ o true _ rfl (by omega) f2) ?_
  rintro e w' ⟨rfl, hb⟩
  refine ⟨_, rfl, hT2.call hb, ?_⟩
  have hT3 := hT2.call hb
  clear hT2 hb
  simp only [Act.put, List.setIfInBounds_toArray, List.set_cons_zero, List.set_cons_succ]
  refine callAt 18 44 rfl rfl (by kernel_rfl) (by rfl) (by kernel_rfl) (has_k (foldS S) _ c true _ rfl (by omega) f1) ?_
  rintro e w' ⟨rfl, hb⟩
  refine ⟨_, rfl, hT3.call hb, ?_⟩
  have hT4 := hT3.call hb
  clear hT3 hb
  simp only [Act.put, List.setIfInBounds_toArray, List.set_cons_zero, List.set_cons_succ]
  refine takeAt 19 45 (.bool true) rfl rfl (by kernel_rfl) (by kernel_rfl) (by kernel_rfl) (fun _ _ _ h => h) (yields (by rfl) (fun w => by kernel_rfl)) hT4 ?_
  simp only [Act.put, List.setIfInBounds_toArray, List.set_cons_zero, List.set_cons_succ]
  refine takeAt 20 46 (.bool true) rfl rfl (by kernel_rfl) (by kernel_rfl) (by kernel_rfl) (fun _ _ _ h => h) (yields (by rfl) (fun w => by kernel_rfl)) hT4 ?_
  simp only [Act.put, List.setIfInBounds_toArray, List.set_cons_zero, List.set_cons_succ]
  refine takeAt 21 47 (.bool true) rfl rfl (by kernel_rfl) (by kernel_rfl) (by kernel_rfl) (fun _ _ _ h => h) (yields (by rfl) (fun w => by kernel_rfl)) hT4 ?_
  simp only [Act.put, List.setIfInBounds_toArray, List.set_cons_zero, List.set_cons_succ]
  refine callAt 22 48 rfl rfl (by kernel_rfl) (by rfl) (by kernel_rfl) (hT4.fix HF.out) ?_
  rintro e w' ⟨rfl, hb⟩
  refine ⟨_, rfl, hT4.call hb, ?_⟩
  have hT5 := hT4.call hb
  clear hT4 hb
  simp only [Act.put, List.setIfInBounds_toArray, List.set_cons_zero, List.set_cons_succ]
  refine takeAt 23 49 (.bool true) rfl rfl (by kernel_rfl) (by kernel_rfl) (by kernel_rfl) (fun _ _ _ h => h) (yields (by rfl) (fun w => by kernel_rfl)) hT5 ?_
  simp only [Act.put, List.setIfInBounds_toArray, List.set_cons_zero, List.set_cons_succ]
  refine takeAt 24 4 (.bool true) rfl rfl (by kernel_rfl) (by kernel_rfl) (by kernel_rfl) (fun _ _ _ h => h) (yields (by rfl) (fun w => by kernel_rfl)) hT5 ?_
  simp only [Act.put, List.setIfInBounds_toArray, List.set_cons_zero, List.set_cons_succ]
  refine wpAnyH_done (by kernel_rfl) ?_ _
  go_wp2
  go_ret
  exact ⟨rfl, hT5.2.1⟩

set_option maxHeartbeats 4000000 in
set_option maxRecDepth 100000 in
theorem classFolds_lowFT (hfix : FixedOk) (S : BitVec 256) (c o : Nat) (w : World) (ht : TabOk w) (hc : c < 256) (ho : o < 256) (k1 : 97 ≤ c) (k2 : c ≤ 122) (k3 : c = o + 32) (hx : mem S c = false) (hy : mem S o = true) (f1 : mem (foldS S) c = true) (f2 : mem (foldS S) o = true) :
    Calls Tryd.prog 9 #[setV S, .int .u8 c] w fun e w' => e = .returned (.bool true) ∧ Below w.heap.size w w' := by
  have HF := Lib.hid hfix
  have HT := Lib.hid ht
  have K3 := Lib.hid k3
  have HX := Lib.hid hx
  have HY := Lib.hid hy
  have H1 := Lib.hid f1
  have H2 := Lib.hid f2
  clear hfix ht k3 hx hy f1 f2
  go_enter Tryd.func9, Tryd.ntmps9
  go_wp2_with fail
  refine (fold_any S _).mono ?_
  rintro e w1 ⟨rfl, hb⟩
  have hS := ((((Held.start HT.out).new S).call hb).new (foldS S)).drew
  clear hb
  have HS := Lib.hid hS
  clear hS
  go_wp2_with fail
  rw [show ((c : Int) - 32) = ((o : Nat) : Int) by have := K3.out; omega]
  have hS := HS.out
  have hx := HX.out
  have hy := HY.out
  have f1 := H1.out
  have f2 := H2.out
  clear HS HX HY H1 H2
  refine wp_region_held_drew (S := Held w [(w1.heap.size, foldS S), (w.heap.size, S)]) (by kernel_rfl) hS (fun _ => ?_)
  refine takeAt 0 26 (setV (foldS S)) rfl rfl (by kernel_rfl) (by kernel_rfl) (by kernel_rfl) (fun _ _ _ h => h) (load_yields rfl rfl List.mem_cons_self (by rfl)) hS ?_
  simp only [Act.put, List.setIfInBounds_toArray, List.set_cons_zero, List.set_cons_succ]
  refine takeAt 1 27 (.int .u8 c) rfl rfl (by kernel_rfl) (by kernel_rfl) (by kernel_rfl) (fun _ _ _ h => h) (yields (by rfl) (fun w => by kernel_rfl)) hS ?_
  simp only [Act.put, List.setIfInBounds_toArray, List.set_cons_zero, List.set_cons_succ]
  refine takeAt 3 29 (setV S) rfl rfl (by kernel_rfl) (by kernel_rfl) (by kernel_rfl) (fun _ _ _ h => h) (load_yields rfl rfl (List.mem_cons_of_mem _ List.mem_cons_self) (by rfl)) hS ?_
  simp only [Act.put, List.setIfInBounds_toArray, List.set_cons_zero, List.set_cons_succ]
  refine takeAt 4 30 (.int .u8 c) rfl rfl (by kernel_rfl) (by kernel_rfl) (by kernel_rfl) (fun _ _ _ h => h) (yields (by rfl) (fun w => by kernel_rfl)) hS ?_
  simp only [Act.put, List.setIfInBounds_toArray, List.set_cons_zero, List.set_cons_succ]
  refine callAt 2 28 rfl rfl (by kernel_rfl) (by rfl) (by kernel_rfl) (has_k (foldS S) _ c true _ rfl (by omega) f1) ?_
  rintro e w' ⟨rfl, hb⟩
  refine ⟨_, rfl, hS.call hb, ?_⟩
  have hT1 := hS.call hb
  clear hS hb
  simp only [Act.put, List.setIfInBounds_toArray, List.set_cons_zero, List.set_cons_succ]
  refine callAt 5 31 rfl rfl (by kernel_rfl) (by rfl) (by kernel_rfl) (has_k S _ c false _ rfl (by omega) hx) ?_
  rintro e w' ⟨rfl, hb⟩
  refine ⟨_, rfl, hT1.call hb, ?_⟩
  have hT2 := hT1.call hb
  clear hT1 hb
  simp only [Act.put, List.setIfInBounds_toArray, List.set_cons_zero, List.set_cons_succ]
  refine takeAt 6 32 (.bool false) rfl rfl (by kernel_rfl) (by kernel_rfl) (by kernel_rfl) (fun _ _ _ h => h) (yields (by rfl) (fun w => by kernel_rfl)) hT2 ?_
  simp only [Act.put, List.setIfInBounds_toArray, List.set_cons_zero, List.set_cons_succ]
  refine takeAt 7 33 (setV S) rfl rfl (by kernel_rfl) (by kernel_rfl) (by kernel_rfl) (fun _ _ _ h => h) (load_yields rfl rfl (List.mem_cons_of_mem _ List.mem_cons_self) (by rfl)) hT2 ?_
  simp only [Act.put, List.setIfInBounds_toArray, List.set_cons_zero, List.set_cons_succ]
  refine takeAt 8 34 (.int .u8 o) rfl rfl (by kernel_rfl) (by kernel_rfl) (by kernel_rfl) (fun _ _ _ h => h) (yields (by rfl) (fun w => by kernel_rfl)) hT2 ?_
  simp only [Act.put, List.setIfInBounds_toArray, List.set_cons_zero, List.set_cons_succ]
  refine callAt 9 35 rfl rfl (by kernel_rfl) (by rfl) (by kernel_rfl) (has_k S _ o true _ rfl (by omega) hy) ?_
  rintro e w' ⟨rfl, hb⟩
  refine ⟨_, rfl, hT2.call hb, ?_⟩
  have hT3 := hT2.call hb
  clear hT2 hb
  simp only [Act.put, List.setIfInBounds_toArray, List.set_cons_zero, List.set_cons_succ]
  refine takeAt 10 36 (.bool true) rfl rfl (by kernel_rfl) (by kernel_rfl) (by kernel_rfl) (fun _ _ _ h => h) (yields (by rfl) (fun w => by kernel_rfl)) hT3 ?_
  simp only [Act.put, List.setIfInBounds_toArray, List.set_cons_zero, List.set_cons_succ]
  refine takeAt 11 37 (.bool true) rfl rfl (by kernel_rfl) (by kernel_rfl) (by kernel_rfl) (fun _ _ _ h => h) (yields (by rfl) (fun w => by kernel_rfl)) hT3 ?_
  simp only [Act.put, List.setIfInBounds_toArray, List.set_cons_zero, List.set_cons_succ]
  refine takeAt 12 38 (.bool true) rfl rfl (by kernel_rfl) (by kernel_rfl) (by kernel_rfl) (fun _ _ _ h => h) (yields (by rfl) (fun w => by kernel_rfl)) hT3 ?_
  simp only [Act.put, List.setIfInBounds_toArray, List.set_cons_zero, List.set_cons_succ]
  refine takeAt 13 39 (setV (foldS S)) rfl rfl (by kernel_rfl) (by kernel_rfl) (by kernel_rfl) (fun _ _ _ h => h) (load_yields rfl rfl List.mem_cons_self (by rfl)) hT3 ?_
  simp only [Act.put, List.setIfInBounds_toArray, List.set_cons_zero, List.set_cons_succ]
  refine takeAt 14 40 (.int .u8 o) rfl rfl (by kernel_rfl) (by kernel_rfl) (by kernel_rfl) (fun _ _ _ h => h) (yields (by rfl) (fun w => by kernel_rfl)) hT3 ?_
  simp only [Act.put, List.setIfInBounds_toArray, List.set_cons_zero, List.set_cons_succ]
  refine takeAt 16 42 (setV (foldS S)) rfl rfl (by kernel_rfl) (by kernel_rfl) (by kernel_rfl) (fun _ _ _ h => h) (load_yields rfl rfl List.mem_cons_self (by rfl)) hT3 ?_
  simp only [Act.put, List.setIfInBounds_toArray, List.set_cons_zero, List.set_cons_succ]
  refine takeAt 17 43 (.int .u8 c) rfl rfl (by kernel_rfl) (by kernel_rfl) (by kernel_rfl) (fun _ _ _ h => h) (yields (by rfl) (fun w => by kernel_rfl)) hT3 ?_
  simp only [Act.put, List.setIfInBounds_toArray, List.set_cons_zero, List.set_cons_succ]
  refine callAt 15 41 rfl rfl (by kernel_rfl) (by rfl) (by kernel_rfl) (has_k (foldS S) _ o true _ rfl (by omega) f2) ?_
  rintro e w' ⟨rfl, hb⟩
  refine ⟨_, rfl, hT3.call hb, ?_⟩
  have hT4 := hT3.call hb
  clear hT3 hb
  simp only [Act.put, List.setIfInBounds_toArray, List.set_cons_zero, List.set_cons_succ]
  refine callAt 18 44 rfl rfl (by kernel_rfl) (by rfl) (by kernel_rfl) (has_k (foldS S) _ c true _ rfl (by omega) f1) ?_
  rintro e w' ⟨rfl, hb⟩
  refine ⟨_, rfl, hT4.call hb, ?_⟩
  have hT5 := hT4.call hb
  clear hT4 hb
  simp only [Act.put, List.setIfInBounds_toArray, List.set_cons_zero, List.set_cons_succ]
  refine takeAt 19 45 (.bool true) rfl rfl (by kernel_rfl) (by kernel_rfl) (by kernel_rfl) (fun _ _ _ h => h) (yields (by rfl) (fun w => by kernel_rfl)) hT5 ?_
  simp only [Act.put, List.setIfInBounds_toArray, List.set_cons_zero, List.set_cons_succ]
  refine takeAt 20 46 (.bool true) rfl rfl (by kernel_rfl) (by kernel_rfl) (by kernel_rfl) (fun _ _ _ h => h) (yields (by rfl) (fun w => by kernel_rfl)) hT5 ?_
  simp only [Act.put, List.setIfInBounds_toArray, List.set_cons_zero, List.set_cons_succ]
  refine takeAt 21 47 (.bool true) rfl rfl (by kernel_rfl) (by kernel_rfl) (by kernel_rfl) (fun _ _ _ h => h) (yields (by rfl) (fun w => by kernel_rfl)) hT5 ?_
  simp only [Act.put, List.setIfInBounds_toArray, List.set_cons_zero, List.set_cons_succ]
  refine callAt 22 48 rfl rfl (by kernel_rfl) (by rfl) (by kernel_rfl) (hT5.fix HF.out) ?_
  rintro e w' ⟨rfl, hb⟩
  refine ⟨_, rfl, hT5.call hb, ?_⟩
  have hT6 := hT5.call hb
  clear hT5 hb
  simp only [Act.put, List.setIfInBounds_toArray, List.set_cons_zero, List.set_cons_succ]
  refine takeAt 23 49 (.bool true) rfl rfl (by kernel_rfl) (by kernel_rfl) (by kernel_rfl) (fun _ _ _ h => h) (yields (by rfl) (fun w => by kernel_rfl)) hT6 ?_
  simp only [Act.put, List.setIfInBounds_toArray, List.set_cons_zero, List.set_cons_succ]
  refine takeAt 24 4 (.bool true) rfl rfl (by kernel_rfl) (by kernel_rfl) (by kernel_rfl) (fun _ _ _ h => h) (yields (by rfl) (fun w => by kernel_rfl)) hT6 ?_
  simp only [Act.put, List.setIfInBounds_toArray, List.set_cons_zero, List.set_cons_succ]
  refine wpAnyH_done (by kernel_rfl) ?_ _
  go_wp2
  go_ret
  exact ⟨rfl, hT6.2.1⟩

set_option maxHeartbeats 4000000 in
set_option maxRecDepth 100000 in
theorem classFolds_lowFF (hfix : FixedOk) (S : BitVec 256) (c o : Nat) (w : World) (ht : TabOk w) (hc : c < 256) (ho : o < 256) (k1 : 97 ≤ c) (k2 : c ≤ 122) (k3 : c = o + 32) (hx : mem S c = false) (hy : mem S o = false) (f1 : mem (foldS S) c = false) (f2 : mem (foldS S) o = false) :
    Calls Tryd.prog 9 #[setV S, .int .u8 c] w fun e w' => e = .returned (.bool true) ∧ Below w.heap.size w w' := by
  have HF := Lib.hid hfix
  have HT := Lib.hid ht
  have K3 := Lib.hid k3
  have HX := Lib.hid hx
  have HY := Lib.hid hy
  have H1 := Lib.hid f1
  have H2 := Lib.hid f2
  clear hfix ht k3 hx hy f1 f2
  go_enter Tryd.func9, Tryd.ntmps9
  go_wp2_with fail
  refine (fold_any S _).mono ?_
  rintro e w1 ⟨rfl, hb⟩
  have hS := ((((Held.start HT.out).new S).call hb).new (foldS S)).drew
  clear hb
  have HS := Lib.hid hS
  clear hS
  go_wp2_with fail
  rw [show ((c : Int) - 32) = ((o : Nat) : Int) by have := K3.out; omega]
  have hS := HS.out
  have hx := HX.out
  have hy := HY.out
  have f1 := H1.out
  have f2 := H2.out
  clear HS HX HY H1 H2
  refine wp_region_held_drew (S := Held w [(w1.heap.size, foldS S), (w.heap.size, S)]) (by kernel_rfl) hS (fun _ => ?_)
  refine takeAt 0 26 (setV (foldS S)) rfl rfl (by kernel_rfl) (by kernel_rfl) (by kernel_rfl) (fun _ _ _ h => h) (load_yields rfl rfl List.mem_cons_self (by rfl)) hS ?_
  simp only [Act.put, List.setIfInBounds_toArray, List.set_cons_zero, List.set_cons_succ]
  refine takeAt 1 27 (.int .u8 c) rfl rfl (by kernel_rfl) (by kernel_rfl) (by kernel_rfl) (fun _ _ _ h => h) (yields (by rfl) (fun w => by kernel_rfl)) hS ?_
  simp only [Act.put, List.setIfInBounds_toArray, List.set_cons_zero, List.set_cons_succ]
  refine takeAt 3 29 (setV S) rfl rfl (by kernel_rfl) (by kernel_rfl) (by kernel_rfl) (fun _ _ _ h => h) (load_yields rfl rfl (List.mem_cons_of_mem _ List.mem_cons_self) (by rfl)) hS ?_
  simp only [Act.put, List.setIfInBounds_toArray, List.set_cons_zero, List.set_cons_succ]
  refine takeAt 4 30 (.int .u8 c) rfl rfl (by kernel_rfl) (by kernel_rfl) (by kernel_rfl) (fun _ _ _ h => h) (yields (by rfl) (fun w => by kernel_rfl)) hS ?_
  simp only [Act.put, List.setIfInBounds_toArray, List.set_cons_zero, List.set_cons_succ]
  refine callAt 2 28 rfl rfl (by kernel_rfl) (by rfl) (by kernel_rfl) (has_k (foldS S) _ c false _ rfl (by omega) f1) ?_
  rintro e w' ⟨rfl, hb⟩
  refine ⟨_, rfl, hS.call hb, ?_⟩
  have hT1 := hS.call hb
  clear hS hb
  simp only [Act.put, List.setIfInBounds_toArray, List.set_cons_zero, List.set_cons_succ]
  refine callAt 5 31 rfl rfl (by kernel_rfl) (by rfl) (by kernel_rfl) (has_k S _ c false _ rfl (by omega) hx) ?_
  rintro e w' ⟨rfl, hb⟩
  refine ⟨_, rfl, hT1.call hb, ?_⟩
  have hT2 := hT1.call hb
  clear hT1 hb
  simp only [Act.put, List.setIfInBounds_toArray, List.set_cons_zero, List.set_cons_succ]
  refine takeAt 6 32 (.bool false) rfl rfl (by kernel_rfl) (by kernel_rfl) (by kernel_rfl) (fun _ _ _ h => h) (yields (by rfl) (fun w => by kernel_rfl)) hT2 ?_
  simp only [Act.put, List.setIfInBounds_toArray, List.set_cons_zero, List.set_cons_succ]
  refine takeAt 7 33 (setV S) rfl rfl (by kernel_rfl) (by kernel_rfl) (by kernel_rfl) (fun _ _ _ h => h) (load_yields rfl rfl (List.mem_cons_of_mem _ List.mem_cons_self) (by rfl)) hT2 ?_
  simp only [Act.put, List.setIfInBounds_toArray, List.set_cons_zero, List.set_cons_succ]
  refine takeAt 8 34 (.int .u8 o) rfl rfl (by kernel_rfl) (by kernel_rfl) (by kernel_rfl) (fun _ _ _ h => h) (yields (by rfl) (fun w => by kernel_rfl)) hT2 ?_
  simp only [Act.put, List.setIfInBounds_toArray, List.set_cons_zero, List.set_cons_succ]
  refine callAt 9 35 rfl rfl (by kernel_rfl) (by rfl) (by kernel_rfl) (has_k S _ o false _ rfl (by omega) hy) ?_
  rintro e w' ⟨rfl, hb⟩
  refine ⟨_, rfl, hT2.call hb, ?_⟩
  have hT3 := hT2.call hb
  clear hT2 hb
  simp only [Act.put, List.setIfInBounds_toArray, List.set_cons_zero, List.set_cons_succ]
  refine takeAt 10 36 (.bool false) rfl rfl (by kernel_rfl) (by kernel_rfl) (by kernel_rfl) (fun _ _ _ h => h) (yields (by rfl) (fun w => by kernel_rfl)) hT3 ?_
  simp only [Act.put, List.setIfInBounds_toArray, List.set_cons_zero, List.set_cons_succ]
  refine takeAt 11 37 (.bool true) rfl rfl (by kernel_rfl) (by kernel_rfl) (by kernel_rfl) (fun _ _ _ h => h) (yields (by rfl) (fun w => by kernel_rfl)) hT3 ?_
  simp only [Act.put, List.setIfInBounds_toArray, List.set_cons_zero, List.set_cons_succ]
  refine takeAt 12 38 (.bool true) rfl rfl (by kernel_rfl) (by kernel_rfl) (by kernel_rfl) (fun _ _ _ h => h) (yields (by rfl) (fun w => by kernel_rfl)) hT3 ?_
  simp only [Act.put, List.setIfInBounds_toArray, List.set_cons_zero, List.set_cons_succ]
  refine takeAt 13 39 (setV (foldS S)) rfl rfl (by kernel_rfl) (by kernel_rfl) (by kernel_rfl) (fun _ _ _ h => h) (load_yields rfl rfl List.mem_cons_self (by rfl)) hT3 ?_
  simp only [Act.put, List.setIfInBounds_toArray, List.set_cons_zero, List.set_cons_succ]
  refine takeAt 14 40 (.int .u8 o) rfl rfl (by kernel_rfl) (by kernel_rfl) (by kernel_rfl) (fun _ _ _ h => h) (yields (by rfl) (fun w => by kernel_rfl)) hT3 ?_
  simp only [Act.put, List.setIfInBounds_toArray, List.set_cons_zero, List.set_cons_succ]
  refine takeAt 16 42 (setV (foldS S)) rfl rfl (by kernel_rfl) (by kernel_rfl) (by kernel_rfl) (fun _ _ _ h => h) (load_yields rfl rfl List.mem_cons_self (by rfl)) hT3 ?_
  simp only [Act.put, List.setIfInBounds_toArray, List.set_cons_zero, List.set_cons_succ]
  refine takeAt 17 43 (.int .u8 c) rfl rfl (by kernel_rfl) (by kernel_rfl) (by kernel_rfl) (fun _ _ _ h => h) (yields (by rfl) (fun w => by kernel_rfl)) hT3 ?_
  simp only [Act.put, List.setIfInBounds_toArray, List.set_cons_zero, List.set_cons_succ]
  refine callAt 15 41 rfl rfl (by kernel_rfl) (by rfl) (by kernel_rfl) (has_k (foldS S) _ o false _ rfl (by omega) f2) ?_
  rintro e w' ⟨rfl, hb⟩
  refine ⟨_, rfl, hT3.call hb, ?_⟩
  have hT4 := hT3.call hb
  clear hT3 hb
  simp only [Act.put, List.setIfInBounds_toArray, List.set_cons_zero, List.set_cons_succ]
  refine callAt 18 44 rfl rfl (by kernel_rfl) (by rfl) (by kernel_rfl) (has_k (foldS S) _ c false _ rfl (by omega) f1) ?_
  rintro e w' ⟨rfl, hb⟩
  refine ⟨_, rfl, hT4.call hb, ?_⟩
  have hT5 := hT4.call hb
  clear hT4 hb
  simp only [Act.put, List.setIfInBounds_toArray, List.set_cons_zero, List.set_cons_succ]
  refine takeAt 19 45 (.bool true) rfl rfl (by kernel_rfl) (by kernel_rfl) (by kernel_rfl) (fun _ _ _ h => h) (yields (by rfl) (fun w => by kernel_rfl)) hT5 ?_
  simp only [Act.put, List.setIfInBounds_toArray, List.set_cons_zero, List.set_cons_succ]
  refine takeAt 20 46 (.bool true) rfl rfl (by kernel_rfl) (by kernel_rfl) (by kernel_rfl) (fun _ _ _ h => h) (yields (by rfl) (fun w => by kernel_rfl)) hT5 ?_
  simp only [Act.put, List.setIfInBounds_toArray, List.set_cons_zero, List.set_cons_succ]
  refine takeAt 21 47 (.bool true) rfl rfl (by kernel_rfl) (by kernel_rfl) (by kernel_rfl) (fun _ _ _ h => h) (yields (by rfl) (fun w => by kernel_rfl)) hT5 ?_
  simp only [Act.put, List.setIfInBounds_toArray, List.set_cons_zero, List.set_cons_succ]
  refine callAt 22 48 rfl rfl (by kernel_rfl) (by rfl) (by kernel_rfl) (hT5.fix HF.out) ?_
  rintro e w' ⟨rfl, hb⟩
  refine ⟨_, rfl, hT5.call hb, ?_⟩
  have hT6 := hT5.call hb
  clear hT5 hb
  simp only [Act.put, List.setIfInBounds_toArray, List.set_cons_zero, List.set_cons_succ]
  refine takeAt 23 49 (.bool true) rfl rfl (by kernel_rfl) (by kernel_rfl) (by kernel_rfl) (fun _ _ _ h => h) (yields (by rfl) (fun w => by kernel_rfl)) hT6 ?_
  simp only [Act.put, List.setIfInBounds_toArray, List.set_cons_zero, List.set_cons_succ]
  refine takeAt 24 4 (.bool true) rfl rfl (by kernel_rfl) (by kernel_rfl) (by kernel_rfl) (fun _ _ _ h => h) (yields (by rfl) (fun w => by kernel_rfl)) hT6 ?_
  simp only [Act.put, List.setIfInBounds_toArray, List.set_cons_zero, List.set_cons_succ]
  refine wpAnyH_done (by kernel_rfl) ?_ _
  go_wp2
  go_ret
  exact ⟨rfl, hT6.2.1⟩

set_option maxHeartbeats 4000000 in
set_option maxRecDepth 100000 in
theorem classFolds_upT (hfix : FixedOk) (S : BitVec 256) (c o : Nat) (w : World) (ht : TabOk w) (hc : c < 256) (ho : o < 256) (k1 : 65 ≤ c) (k2 : c ≤ 90) (k3 : o = c + 32) (b : Bool) (hx : mem S c = true) (hy : mem S o = b) (f1 : mem (foldS S) c = true) (f2 : mem (foldS S) o = true) :
    Calls Tryd.prog 9 #[setV S, .int .u8 c] w fun e w' => e = .returned (.bool true) ∧ Below w.heap.size w w' := by
  have HF := Lib.hid hfix
  have HT := Lib.hid ht
  have K3 := Lib.hid k3
  have HX := Lib.hid hx
  have HY := Lib.hid hy
  have H1 := Lib.hid f1
  have H2 := Lib.hid f2
  clear hfix ht k3 hx hy f1 f2
  go_enter Tryd.func9, Tryd.ntmps9
  go_wp2_with fail
  refine (fold_any S _).mono ?_
  rintro e w1 ⟨rfl, hb⟩
  have hS := ((((Held.start HT.out).new S).call hb).new (foldS S)).drew
  clear hb
  have HS := Lib.hid hS
  clear hS
  go_wp2_with fail
  rw [show ((c : Int) + 32) = ((o : Nat) : Int) by have := K3.out; omega]
  have hS := HS.out
  have hx := HX.out
  have hy := HY.out
  have f1 := H1.out
  have f2 := H2.out
  clear HS HX HY H1 H2
  refine wp_region_held_drew (S := Held w [(w1.heap.size, foldS S), (w.heap.size, S)]) (by kernel_rfl) hS (fun _ => ?_)
  refine takeAt 0 26 (setV (foldS S)) rfl rfl (by kernel_rfl) (by kernel_rfl) (by kernel_rfl) (fun _ _ _ h => h) (load_yields rfl rfl List.mem_cons_self (by rfl)) hS ?_
  simp only [Act.put, List.setIfInBounds_toArray, List.set_cons_zero, List.set_cons_succ]
  refine takeAt 1 27 (.int .u8 c) rfl rfl (by kernel_rfl) (by kernel_rfl) (by kernel_rfl) (fun _ _ _ h => h) (yields (by rfl) (fun w => by kernel_rfl)) hS ?_
  simp only [Act.put, List.setIfInBounds_toArray, List.set_cons_zero, List.set_cons_succ]
  refine takeAt 3 29 (setV S) rfl rfl (by kernel_rfl) (by kernel_rfl) (by kernel_rfl) (fun _ _ _ h => h) (load_yields rfl rfl (List.mem_cons_of_mem _ List.mem_cons_self) (by rfl)) hS ?_
  simp only [Act.put, List.setIfInBounds_toArray, List.set_cons_zero, List.set_cons_succ]
  refine takeAt 4 30 (.int .u8 c) rfl rfl (by kernel_rfl) (by kernel_rfl) (by kernel_rfl) (fun _ _ _ h => h) (yields (by rfl) (fun w => by kernel_rfl)) hS ?_
  simp only [Act.put, List.setIfInBounds_toArray, List.set_cons_zero, List.set_cons_succ]
  refine callAt 2 28 rfl rfl (by kernel_rfl) (by rfl) (by kernel_rfl) (has_k (foldS S) _ c true _ rfl (by omega) f1) ?_
  rintro e w' ⟨rfl, hb⟩
  refine ⟨_, rfl, hS.call hb, ?_⟩
  have hT1 := hS.call hb
  clear hS hb
  simp only [Act.put, List.setIfInBounds_toArray, List.set_cons_zero, List.set_cons_succ]
  refine callAt 5 31 rfl rfl (by kernel_rfl) (by rfl) (by kernel_rfl) (has_k S _ c true _ rfl (by omega) hx) ?_
  rintro e w' ⟨rfl, hb⟩
  refine ⟨_, rfl, hT1.call hb, ?_⟩
  have hT2 := hT1.call hb
  clear hT1 hb
  simp only [Act.put, List.setIfInBounds_toArray, List.set_cons_zero, List.set_cons_succ]
  refine takeAt 6 32 (.bool true) rfl rfl (by kernel_rfl) (by kernel_rfl) (by kernel_rfl) (fun _ _ _ h => h) (yields (by rfl) (fun w => by kernel_rfl)) hT2 ?_
  simp only [Act.put, List.setIfInBounds_toArray, List.set_cons_zero, List.set_cons_succ]
  refine takeAt 7 33 (undef) rfl rfl (by kernel_rfl) (by kernel_rfl) (by kernel_rfl) (fun _ _ _ h => h) (skipped (by rfl)) hT2 ?_
  simp only [Act.put, List.setIfInBounds_toArray, List.set_cons_zero, List.set_cons_succ]
  refine takeAt 8 34 (undef) rfl rfl (by kernel_rfl) (by kernel_rfl) (by kernel_rfl) (fun _ _ _ h => h) (skipped (by rfl)) hT2 ?_
  simp only [Act.put, List.setIfInBounds_toArray, List.set_cons_zero, List.set_cons_succ]
  refine takeAt 9 35 (undef) rfl rfl (by kernel_rfl) (by kernel_rfl) (by kernel_rfl) (fun _ _ _ h => h) (skipped (by rfl)) hT2 ?_
  simp only [Act.put, List.setIfInBounds_toArray, List.set_cons_zero, List.set_cons_succ]
  refine takeAt 10 36 (.bool true) rfl rfl (by kernel_rfl) (by kernel_rfl) (by kernel_rfl) (fun _ _ _ h => h) (yields (by rfl) (fun w => by kernel_rfl)) hT2 ?_
  simp only [Act.put, List.setIfInBounds_toArray, List.set_cons_zero, List.set_cons_succ]
  refine takeAt 11 37 (.bool true) rfl rfl (by kernel_rfl) (by kernel_rfl) (by kernel_rfl) (fun _ _ _ h => h) (yields (by rfl) (fun w => by kernel_rfl)) hT2 ?_
  simp only [Act.put, List.setIfInBounds_toArray, List.set_cons_zero, List.set_cons_succ]
  refine takeAt 12 38 (.bool true) rfl rfl (by kernel_rfl) (by kernel_rfl) (by kernel_rfl) (fun _ _ _ h => h) (yields (by rfl) (fun w => by kernel_rfl)) hT2 ?_
  simp only [Act.put, List.setIfInBounds_toArray, List.set_cons_zero, List.set_cons_succ]
  refine takeAt 13 39 (setV (foldS S)) rfl rfl (by kernel_rfl) (by kernel_rfl) (by kernel_rfl) (fun _ _ _ h => h) (load_yields rfl rfl List.mem_cons_self (by rfl)) hT2 ?_
  simp only [Act.put, List.setIfInBounds_toArray, List.set_cons_zero, List.set_cons_succ]
  refine takeAt 14 40 (.int .u8 o) rfl rfl (by kernel_rfl) (by kernel_rfl) (by kernel_rfl) (fun _ _ _ h => h) (yields (by rfl) (fun w => by kernel_rfl)) hT2 ?_
  simp only [Act.put, List.setIfInBounds_toArray, List.set_cons_zero, List.set_cons_succ]
  refine takeAt 16 42 (setV (foldS S)) rfl rfl (by kernel_rfl) (by kernel_rfl) (by kernel_rfl) (fun _ _ _ h => h) (load_yields rfl rfl List.mem_cons_self (by rfl)) hT2 ?_
  simp only [Act.put, List.setIfInBounds_toArray, List.set_cons_zero, List.set_cons_succ]
  refine takeAt 17 43 (.int .u8 c) rfl rfl (by kernel_rfl) (by kernel_rfl) (by kernel_rfl) (fun _ _ _ h => h) (yields (by rfl) (fun w => by kernel_rfl)) hT2 ?_
  simp only [Act.put, List.setIfInBounds_toArray, List.set_cons_zero, List.set_cons_succ]
  refine callAt 15 41 rfl rfl (by kernel_rfl) (by rfl) (by kernel_rfl) (has_k (foldS S) _ o true _ rfl (by omega) f2) ?_
  rintro e w' ⟨rfl, hb⟩
  refine ⟨_, rfl, hT2.call hb, ?_⟩
  have hT3 := hT2.call hb
  clear hT2 hb
  simp only [Act.put, List.setIfInBounds_toArray, List.set_cons_zero, List.set_cons_succ]
  refine callAt 18 44 rfl rfl (by kernel_rfl) (by rfl) (by kernel_rfl) (has_k (foldS S) _ c true _ rfl (by omega) f1) ?_
  rintro e w' ⟨rfl, hb⟩
  refine ⟨_, rfl, hT3.call hb, ?_⟩
  have hT4 := hT3.call hb
  clear hT3 hb
  simp only [Act.put, List.setIfInBounds_toArray, List.set_cons_zero, List.set_cons_succ]
  refine takeAt 19 45 (.bool true) rfl rfl (by kernel_rfl) (by kernel_rfl) (by kernel_rfl) (fun _ _ _ h => h) (yields (by rfl) (fun w => by kernel_rfl)) hT4 ?_
  simp only [Act.put, List.setIfInBounds_toArray, List.set_cons_zero, List.set_cons_succ]
  refine takeAt 20 46 (.bool true) rfl rfl (by kernel_rfl) (by kernel_rfl) (by kernel_rfl) (fun _ _ _ h => h) (yields (by rfl) (fun w => by kernel_rfl)) hT4 ?_
  simp only [Act.put, List.setIfInBounds_toArray, List.set_cons_zero, List.set_cons_succ]
  refine takeAt 21 47 (.bool true) rfl rfl (by kernel_rfl) (by kernel_rfl) (by kernel_rfl) (fun _ _ _ h => h) (yields (by rfl) (fun w => by kernel_rfl)) hT4 ?_
  simp only [Act.put, List.setIfInBounds_toArray, List.set_cons_zero, List.set_cons_succ]
  refine callAt 22 48 rfl rfl (by kernel_rfl) (by rfl) (by kernel_rfl) (hT4.fix HF.out) ?_
  rintro e w' ⟨rfl, hb⟩
  refine ⟨_, rfl, hT4.call hb, ?_⟩
  have hT5 := hT4.call hb
  clear hT4 hb
  simp only [Act.put, List.setIfInBounds_toArray, List.set_cons_zero, List.set_cons_succ]
  refine takeAt 23 49 (.bool true) rfl rfl (by kernel_rfl) (by kernel_rfl) (by kernel_rfl) (fun _ _ _ h => h) (yields (by rfl) (fun w => by kernel_rfl)) hT5 ?_
  simp only [Act.put, List.setIfInBounds_toArray, List.set_cons_zero, List.set_cons_succ]
  refine takeAt 24 4 (.bool true) rfl rfl (by kernel_rfl) (by kernel_rfl) (by kernel_rfl) (fun _ _ _ h => h) (yields (by rfl) (fun w => by kernel_rfl)) hT5 ?_
  simp only [Act.put, List.setIfInBounds_toArray, List.set_cons_zero, List.set_cons_succ]
  refine wpAnyH_done (by kernel_rfl) ?_ _
  go_wp2
  go_ret
  exact ⟨rfl, hT5.2.1⟩

set_option maxHeartbeats 4000000 in
set_option maxRecDepth 100000 in
theorem classFolds_upFT (hfix : FixedOk) (S : BitVec 256) (c o : Nat) (w : World) (ht : TabOk w) (hc : c < 256) (ho : o < 256) (k1 : 65 ≤ c) (k2 : c ≤ 90) (k3 : o = c + 32) (hx : mem S c = false) (hy : mem S o = true) (f1 : mem (foldS S) c = true) (f2 : mem (foldS S) o = true) :
    Calls Tryd.prog 9 #[setV S, .int .u8 c] w fun e w' => e = .returned (.bool true) ∧ Below w.heap.size w w' := by
  have HF := Lib.hid hfix
  have HT := Lib.hid ht
  have K3 := Lib.hid k3
  have HX := Lib.hid hx
  have HY := Lib.hid hy
  have H1 := Lib.hid f1
  have H2 := Lib.hid f2
  clear hfix ht k3 hx hy f1 f2
  go_enter Tryd.func9, Tryd.ntmps9
  go_wp2_with fail
  refine (fold_any S _).mono ?_
  rintro e w1 ⟨rfl, hb⟩
  have hS := ((((Held.start HT.out).new S).call hb).new (foldS S)).drew
  clear hb
  have HS := Lib.hid hS
  clear hS
  go_wp2_with fail
  rw [show ((c : Int) + 32) = ((o : Nat) : Int) by have := K3.out; omega]
  have hS := HS.out
  have hx := HX.out
  have hy := HY.out
  have f1 := H1.out
  have f2 := H2.out
  clear HS HX HY H1 H2
  refine wp_region_held_drew (S := Held w [(w1.heap.size, foldS S), (w.heap.size, S)]) (by kernel_rfl) hS (fun _ => ?_)
  refine takeAt 0 26 (setV (foldS S)) rfl rfl (by kernel_rfl) (by kernel_rfl) (by kernel_rfl) (fun _ _ _ h => h) (load_yields rfl rfl List.mem_cons_self (by rfl)) hS ?_
  simp only [Act.put, List.setIfInBounds_toArray, List.set_cons_zero, List.set_cons_succ]
  refine takeAt 1 27 (.int .u8 c) rfl rfl (by kernel_rfl) (by kernel_rfl) (by kernel_rfl) (fun _ _ _ h => h) (yields (by rfl) (fun w => by kernel_rfl)) hS ?_
  simp only [Act.put, List.setIfInBounds_toArray, List.set_cons_zero, List.set_cons_succ]
  refine takeAt 3 29 (setV S) rfl rfl (by kernel_rfl) (by kernel_rfl) (by kernel_rfl) (fun _ _ _ h => h) (load_yields rfl rfl (List.mem_cons_of_mem _ List.mem_cons_self) (by rfl)) hS ?_
  simp only [Act.put, List.setIfInBounds_toArray, List.set_cons_zero, List.set_cons_succ]
  refine takeAt 4 30 (.int .u8 c) rfl rfl (by kernel_rfl) (by kernel_rfl) (by kernel_rfl) (fun _ _ _ h => h) (yields (by rfl) (fun w => by kernel_rfl)) hS ?_
  simp only [Act.put, List.setIfInBounds_toArray, List.set_cons_zero, List.set_cons_succ]
  refine callAt 2 28 rfl rfl (by kernel_rfl) (by rfl) (by kernel_rfl) (has_k (foldS S) _ c true _ rfl (by omega) f1) ?_
  rintro e w' ⟨rfl, hb⟩
  refine ⟨_, rfl, hS.call hb, ?_⟩
  have hT1 := hS.call hb
  clear hS hb
  simp only [Act.put, List.setIfInBounds_toArray, List.set_cons_zero, List.set_cons_succ]
  refine callAt 5 31 rfl rfl (by kernel_rfl) (by rfl) (by kernel_rfl) (has_k S _ c false _ rfl (by omega) hx) ?_
  rintro e w' ⟨rfl, hb⟩
  refine ⟨_, rfl, hT1.call hb, ?_⟩
  have hT2 := hT1.call hb
  clear hT1 hb
  simp only [Act.put, List.setIfInBounds_toArray, List.set_cons_zero, List.set_cons_succ]
  refine takeAt 6 32 (.bool false) rfl rfl (by kernel_rfl) (by kernel_rfl) (by kernel_rfl) (fun _ _ _ h => h) (yields (by rfl) (fun w => by kernel_rfl)) hT2 ?_
  simp only [Act.put, List.setIfInBounds_toArray, List.set_cons_zero, List.set_cons_succ]
  refine takeAt 7 33 (setV S) rfl rfl (by kernel_rfl) (by kernel_rfl) (by kernel_rfl) (fun _ _ _ h => h) (load_yields rfl rfl (List.mem_cons_of_mem _ List.mem_cons_self) (by rfl)) hT2 ?_
  simp only [Act.put, List.setIfInBounds_toArray, List.set_cons_zero, List.set_cons_succ]
  refine takeAt 8 34 (.int .u8 o) rfl rfl (by kernel_rfl) (by kernel_rfl) (by kernel_rfl) (fun _ _ _ h => h) (yields (by rfl) (fun w => by kernel_rfl)) hT2 ?_
  simp only [Act.put, List.setIfInBounds_toArray, List.set_cons_zero, List.set_cons_succ]
  refine callAt 9 35 rfl rfl (by kernel_rfl) (by rfl) (by kernel_rfl) (has_k S _ o true _ rfl (by omega) hy) ?_
  rintro e w' ⟨rfl, hb⟩
  refine ⟨_, rfl, hT2.call hb, ?_⟩
  have hT3 := hT2.call hb
  clear hT2 hb
  simp only [Act.put, List.setIfInBounds_toArray, List.set_cons_zero, List.set_cons_succ]
  refine takeAt 10 36 (.bool true) rfl rfl (by kernel_rfl) (by kernel_rfl) (by kernel_rfl) (fun _ _ _ h => h) (yields (by rfl) (fun w => by kernel_rfl)) hT3 ?_
  simp only [Act.put, List.setIfInBounds_toArray, List.set_cons_zero, List.set_cons_succ]
  refine takeAt 11 37 (.bool true) rfl rfl (by kernel_rfl) (by kernel_rfl) (by kernel_rfl) (fun _ _ _ h => h) (yields (by rfl) (fun w => by kernel_rfl)) hT3 ?_
  simp only [Act.put, List.setIfInBounds_toArray, List.set_cons_zero, List.set_cons_succ]
  refine takeAt 12 38 (.bool true) rfl rfl (by kernel_rfl) (by kernel_rfl) (by kernel_rfl) (fun _ _ _ h => h) (yields (by rfl) (fun w => by kernel_rfl)) hT3 ?_
  simp only [Act.put, List.setIfInBounds_toArray, List.set_cons_zero, List.set_cons_succ]
  refine takeAt 13 39 (setV (foldS S)) rfl rfl (by kernel_rfl) (by kernel_rfl) (by kernel_rfl) (fun _ _ _ h => h) (load_yields rfl rfl List.mem_cons_self (by rfl)) hT3 ?_
  simp only [Act.put, List.setIfInBounds_toArray, List.set_cons_zero, List.set_cons_succ]
  refine takeAt 14 40 (.int .u8 o) rfl rfl (by kernel_rfl) (by kernel_rfl) (by kernel_rfl) (fun _ _ _ h => h) (yields (by rfl) (fun w => by kernel_rfl)) hT3 ?_
  simp only [Act.put, List.setIfInBounds_toArray, List.set_cons_zero, List.set_cons_succ]
  refine takeAt 16 42 (setV (foldS S)) rfl rfl (by kernel_rfl) (by kernel_rfl) (by kernel_rfl) (fun _ _ _ h => h) (load_yields rfl rfl List.mem_cons_self (by rfl)) hT3 ?_
  simp only [Act.put, List.setIfInBounds_toArray, List.set_cons_zero, List.set_cons_succ]
  refine takeAt 17 43 (.int .u8 c) rfl rfl (by kernel_rfl) (by kernel_rfl) (by kernel_rfl) (fun _ _ _ h => h) (yields (by rfl) (fun w => by kernel_rfl)) hT3 ?_
  simp only [Act.put, List.setIfInBounds_toArray, List.set_cons_zero, List.set_cons_succ]
  refine callAt 15 41 rfl rfl (by kernel_rfl) (by rfl) (by kernel_rfl) (has_k (foldS S) _ o true _ rfl (by omega) f2) ?_
  rintro e w' ⟨rfl, hb⟩
  refine ⟨_, rfl, hT3.call hb, ?_⟩
  have hT4 := hT3.call hb
  clear hT3 hb
  simp only [Act.put, List.setIfInBounds_toArray, List.set_cons_zero, List.set_cons_succ]
  refine callAt 18 44 rfl rfl (by kernel_rfl) (by rfl) (by kernel_rfl) (has_k (foldS S) _ c true _ rfl (by omega) f1) ?_
  rintro e w' ⟨rfl, hb⟩
  refine ⟨_, rfl, hT4.call hb, ?_⟩
  have hT5 := hT4.call hb
  clear hT4 hb
  simp only [Act.put, List.setIfInBounds_toArray, List.set_cons_zero, List.set_cons_succ]
  refine takeAt 19 45 (.bool true) rfl rfl (by kernel_rfl) (by kernel_rfl) (by kernel_rfl) (fun _ _ _ h => h) (yields (by rfl) (fun w => by kernel_rfl)) hT5 ?_
  simp only [Act.put, List.setIfInBounds_toArray, List.set_cons_zero, List.set_cons_succ]
  refine takeAt 20 46 (.bool true) rfl rfl (by kernel_rfl) (by kernel_rfl) (by kernel_rfl) (fun _ _ _ h => h) (yields (by rfl) (fun w => by kernel_rfl)) hT5 ?_
  simp only [Act.put, List.setIfInBounds_toArray, List.set_cons_zero, List.set_cons_succ]
  refine takeAt 21 47 (.bool true) rfl rfl (by kernel_rfl) (by kernel_rfl) (by kernel_rfl) (fun _ _ _ h => h) (yields (by rfl) (fun w => by kernel_rfl)) hT5 ?_
  simp only [Act.put, List.setIfInBounds_toArray, List.set_cons_zero, List.set_cons_succ]
  refine callAt 22 48 rfl rfl (by kernel_rfl) (by rfl) (by kernel_rfl) (hT5.fix HF.out) ?_
  rintro e w' ⟨rfl, hb⟩
  refine ⟨_, rfl, hT5.call hb, ?_⟩
  have hT6 := hT5.call hb
  clear hT5 hb
  simp only [Act.put, List.setIfInBounds_toArray, List.set_cons_zero, List.set_cons_succ]
  refine takeAt 23 49 (.bool true) rfl rfl (by kernel_rfl) (by kernel_rfl) (by kernel_rfl) (fun _ _ _ h => h) (yields (by rfl) (fun w => by kernel_rfl)) hT6 ?_
  simp only [Act.put, List.setIfInBounds_toArray, List.set_cons_zero, List.set_cons_succ]
  refine takeAt 24 4 (.bool true) rfl rfl (by kernel_rfl) (by kernel_rfl) (by kernel_rfl) (fun _ _ _ h => h) (yields (by rfl) (fun w => by kernel_rfl)) hT6 ?_
  simp only [Act.put, List.setIfInBounds_toArray, List.set_cons_zero, List.set_cons_succ]
  refine wpAnyH_done (by kernel_rfl) ?_ _
  go_wp2
  go_ret
  exact ⟨rfl, hT6.2.1⟩

set_option maxHeartbeats 4000000 in
set_option maxRecDepth 100000 in
theorem classFolds_upFF (hfix : FixedOk) (S : BitVec 256) (c o : Nat) (w : World) (ht : TabOk w) (hc : c < 256) (ho : o < 256) (k1 : 65 ≤ c) (k2 : c ≤ 90) (k3 : o = c + 32) (hx : mem S c = false) (hy : mem S o = false) (f1 : mem (foldS S) c = false) (f2 : mem (foldS S) o = false) :
    Calls Tryd.prog 9 #[setV S, .int .u8 c] w fun e w' => e = .returned (.bool true) ∧ Below w.heap.size w w' := by
  have HF := Lib.hid hfix
  have HT := Lib.hid ht
  have K3 := Lib.hid k3
  have HX := Lib.hid hx
  have HY := Lib.hid hy
  have H1 := Lib.hid f1
  have H2 := Lib.hid f2
  clear hfix ht k3 hx hy f1 f2
  go_enter Tryd.func9, Tryd.ntmps9
  go_wp2_with fail
  refine (fold_any S _).mono ?_
  rintro e w1 ⟨rfl, hb⟩
  have hS := ((((Held.start HT.out).new S).call hb).new (foldS S)).drew
  clear hb
  have HS := Lib.hid hS
  clear hS
  go_wp2_with fail
  rw [show ((c : Int) + 32) = ((o : Nat) : Int) by have := K3.out; omega]
  have hS := HS.out
  have hx := HX.out
  have hy := HY.out
  have f1 := H1.out
  have f2 := H2.out
  clear HS HX HY H1 H2
  refine wp_region_held_drew (S := Held w [(w1.heap.size, foldS S), (w.heap.size, S)]) (by kernel_rfl) hS (fun _ => ?_)
  refine takeAt 0 26 (setV (foldS S)) rfl rfl (by kernel_rfl) (by kernel_rfl) (by kernel_rfl) (fun _ _ _ h => h) (load_yields rfl rfl List.mem_cons_self (by rfl)) hS ?_
  simp only [Act.put, List.setIfInBounds_toArray, List.set_cons_zero, List.set_cons_succ]
  refine takeAt 1 27 (.int .u8 c) rfl rfl (by kernel_rfl) (by kernel_rfl) (by kernel_rfl) (fun _ _ _ h => h) (yields (by rfl) (fun w => by kernel_rfl)) hS ?_
  simp only [Act.put, List.setIfInBounds_toArray, List.set_cons_zero, List.set_cons_succ]
  refine takeAt 3 29 (setV S) rfl rfl (by kernel_rfl) (by kernel_rfl) (by kernel_rfl) (fun _ _ _ h => h) (load_yields rfl rfl (List.mem_cons_of_mem _ List.mem_cons_self) (by rfl)) hS ?_
  simp only [Act.put, List.setIfInBounds_toArray, List.set_cons_zero, List.set_cons_succ]
  refine takeAt 4 30 (.int .u8 c) rfl rfl (by kernel_rfl) (by kernel_rfl) (by kernel_rfl) (fun _ _ _ h => h) (yields (by rfl) (fun w => by kernel_rfl)) hS ?_
  simp only [Act.put, List.setIfInBounds_toArray, List.set_cons_zero, List.set_cons_succ]
  refine callAt 2 28 rfl rfl (by kernel_rfl) (by rfl) (by kernel_rfl) (has_k (foldS S) _ c false _ rfl (by omega) f1) ?_
  rintro e w' ⟨rfl, hb⟩
  refine ⟨_, rfl, hS.call hb, ?_⟩
  have hT1 := hS.call hb
  clear hS hb
  simp only [Act.put, List.setIfInBounds_toArray, List.set_cons_zero, List.set_cons_succ]
  refine callAt 5 31 rfl rfl (by kernel_rfl) (by rfl) (by kernel_rfl) (has_k S _ c false _ rfl (by omega) hx) ?_
  rintro e w' ⟨rfl, hb⟩
  refine ⟨_, rfl, hT1.call hb, ?_⟩
  have hT2 := hT1.call hb
  clear hT1 hb
  simp only [Act.put, List.setIfInBounds_toArray, List.set_cons_zero, List.set_cons_succ]
  refine takeAt 6 32 (.bool false) rfl rfl (by kernel_rfl) (by kernel_rfl) (by kernel_rfl) (fun _ _ _ h => h) (yields (by rfl) (fun w => by kernel_rfl)) hT2 ?_
  simp only [Act.put, List.setIfInBounds_toArray, List.set_cons_zero, List.set_cons_succ]
  refine takeAt 7 33 (setV S) rfl rfl (by kernel_rfl) (by kernel_rfl) (by kernel_rfl) (fun _ _ _ h => h) (load_yields rfl rfl (List.mem_cons_of_mem _ List.mem_cons_self) (by rfl)) hT2 ?_
  simp only [Act.put, List.setIfInBounds_toArray, List.set_cons_zero, List.set_cons_succ]
  refine takeAt 8 34 (.int .u8 o) rfl rfl (by kernel_rfl) (by kernel_rfl) (by kernel_rfl) (fun _ _ _ h => h) (yields (by rfl) (fun w => by kernel_rfl)) hT2 ?_
  simp only [Act.put, List.setIfInBounds_toArray, List.set_cons_zero, List.set_cons_succ]
  refine callAt 9 35 rfl rfl (by kernel_rfl) (by rfl) (by kernel_rfl) (has_k S _ o false _ rfl (by omega) hy) ?_
  rintro e w' ⟨rfl, hb⟩
  refine ⟨_, rfl, hT2.call hb, ?_⟩
  have hT3 := hT2.call hb
  clear hT2 hb
  simp only [Act.put, List.setIfInBounds_toArray, List.set_cons_zero, List.set_cons_succ]
  refine takeAt 10 36 (.bool false) rfl rfl (by kernel_rfl) (by kernel_rfl) (by kernel_rfl) (fun _ _ _ h => h) (yields (by rfl) (fun w => by kernel_rfl)) hT3 ?_
  simp only [Act.put, List.setIfInBounds_toArray, List.set_cons_zero, List.set_cons_succ]
  refine takeAt 11 37 (.bool true) rfl rfl (by kernel_rfl) (by kernel_rfl) (by kernel_rfl) (fun _ _ _ h => h) (yields (by rfl) (fun w => by kernel_rfl)) hT3 ?_
  simp only [Act.put, List.setIfInBounds_toArray, List.set_cons_zero, List.set_cons_succ]
  refine takeAt 12 38 (.bool true) rfl rfl (by kernel_rfl) (by kernel_rfl) (by kernel_rfl) (fun _ _ _ h => h) (yields (by rfl) (fun w => by kernel_rfl)) hT3 ?_
  simp only [Act.put, List.setIfInBounds_toArray, List.set_cons_zero, List.set_cons_succ]
  refine takeAt 13 39 (setV (foldS S)) rfl rfl (by kernel_rfl) (by kernel_rfl) (by kernel_rfl) (fun _ _ _ h => h) (load_yields rfl rfl List.mem_cons_self (by rfl)) hT3 ?_
  simp only [Act.put, List.setIfInBounds_toArray, List.set_cons_zero, List.set_cons_succ]
  refine takeAt 14 40 (.int .u8 o) rfl rfl (by kernel_rfl) (by kernel_rfl) (by kernel_rfl) (fun _ _ _ h => h) (yields (by rfl) (fun w => by kernel_rfl)) hT3 ?_
  simp only [Act.put, List.setIfInBounds_toArray, List.set_cons_zero, List.set_cons_succ]
  refine takeAt 16 42 (setV (foldS S)) rfl rfl (by kernel_rfl) (by kernel_rfl) (by kernel_rfl) (fun _ _ _ h => h) (load_yields rfl rfl List.mem_cons_self (by rfl)) hT3 ?_
  simp only [Act.put, List.setIfInBounds_toArray, List.set_cons_zero, List.set_cons_succ]
  refine takeAt 17 43 (.int .u8 c) rfl rfl (by kernel_rfl) (by kernel_rfl) (by kernel_rfl) (fun _ _ _ h => h) (yields (by rfl) (fun w => by kernel_rfl)) hT3 ?_
  simp only [Act.put, List.setIfInBounds_toArray, List.set_cons_zero, List.set_cons_succ]
  refine callAt 15 41 rfl rfl (by kernel_rfl) (by rfl) (by kernel_rfl) (has_k (foldS S) _ o false _ rfl (by omega) f2) ?_
  rintro e w' ⟨rfl, hb⟩
  refine ⟨_, rfl, hT3.call hb, ?_⟩
  have hT4 := hT3.call hb
  clear hT3 hb
  simp only [Act.put, List.setIfInBounds_toArray, List.set_cons_zero, List.set_cons_succ]
  refine callAt 18 44 rfl rfl (by kernel_rfl) (by rfl) (by kernel_rfl) (has_k (foldS S) _ c false _ rfl (by omega) f1) ?_
  rintro e w' ⟨rfl, hb⟩
  refine ⟨_, rfl, hT4.call hb, ?_⟩
  have hT5 := hT4.call hb
  clear hT4 hb
  simp only [Act.put, List.setIfInBounds_toArray, List.set_cons_zero, List.set_cons_succ]
  refine takeAt 19 45 (.bool true) rfl rfl (by kernel_rfl) (by kernel_rfl) (by kernel_rfl) (fun _ _ _ h => h) (yields (by rfl) (fun w => by kernel_rfl)) hT5 ?_
  simp only [Act.put, List.setIfInBounds_toArray, List.set_cons_zero, List.set_cons_succ]
  refine takeAt 20 46 (.bool true) rfl rfl (by kernel_rfl) (by kernel_rfl) (by kernel_rfl) (fun _ _ _ h => h) (yields (by rfl) (fun w => by kernel_rfl)) hT5 ?_
  simp only [Act.put, List.setIfInBounds_toArray, List.set_cons_zero, List.set_cons_succ]
  refine takeAt 21 47 (.bool true) rfl rfl (by kernel_rfl) (by kernel_rfl) (by kernel_rfl) (fun _ _ _ h => h) (yields (by rfl) (fun w => by kernel_rfl)) hT5 ?_
  simp only [Act.put, List.setIfInBounds_toArray, List.set_cons_zero, List.set_cons_succ]
  refine callAt 22 48 rfl rfl (by kernel_rfl) (by rfl) (by kernel_rfl) (hT5.fix HF.out) ?_
  rintro e w' ⟨rfl, hb⟩
  refine ⟨_, rfl, hT5.call hb, ?_⟩
  have hT6 := hT5.call hb
  clear hT5 hb
  simp only [Act.put, List.setIfInBounds_toArray, List.set_cons_zero, List.set_cons_succ]
  refine takeAt 23 49 (.bool true) rfl rfl (by kernel_rfl) (by kernel_rfl) (by kernel_rfl) (fun _ _ _ h => h) (yields (by rfl) (fun w => by kernel_rfl)) hT6 ?_
  simp only [Act.put, List.setIfInBounds_toArray, List.set_cons_zero, List.set_cons_succ]
  refine takeAt 24 4 (.bool true) rfl rfl (by kernel_rfl) (by kernel_rfl) (by kernel_rfl) (fun _ _ _ h => h) (yields (by rfl) (fun w => by kernel_rfl)) hT6 ?_
  simp only [Act.put, List.setIfInBounds_toArray, List.set_cons_zero, List.set_cons_succ]
  refine wpAnyH_done (by kernel_rfl) ?_ _
  go_wp2
  go_ret
  exact ⟨rfl, hT6.2.1⟩

set_option maxHeartbeats 4000000 in
set_option maxRecDepth 100000 in
theorem classFolds_noAT (hfix : FixedOk) (S : BitVec 256) (c : Nat) (w : World) (ht : TabOk w) (hc : c < 256) (k1 : c < 65) (hx : mem S c = true) (f1 : mem (foldS S) c = true) :
    Calls Tryd.prog 9 #[setV S, .int .u8 c] w fun e w' => e = .returned (.bool true) ∧ Below w.heap.size w w' := by
  have HF := Lib.hid hfix
  have HT := Lib.hid ht
  have HX := Lib.hid hx
  have H1 := Lib.hid f1
  clear hfix ht hx f1
  go_enter Tryd.func9, Tryd.ntmps9
  go_wp2_with fail
  refine (fold_any S _).mono ?_
  rintro e w1 ⟨rfl, hb⟩
  have hS := ((((Held.start HT.out).new S).call hb).new (foldS S)).drew
  clear hb
  have HS := Lib.hid hS
  clear hS
  go_wp2_with fail
  have hS := HS.out
  have hx := HX.out
  have f1 := H1.out
  clear HS HX H1
  refine wp_region_held_drew (S := Held w [(w1.heap.size, foldS S), (w.heap.size, S)]) (by kernel_rfl) hS (fun _ => ?_)
  refine takeAt 0 26 (setV (foldS S)) rfl rfl (by kernel_rfl) (by kernel_rfl) (by kernel_rfl) (fun _ _ _ h => h) (load_yields rfl rfl List.mem_cons_self (by rfl)) hS ?_
  simp only [Act.put, List.setIfInBounds_toArray, List.set_cons_zero, List.set_cons_succ]
  refine takeAt 1 27 (.int .u8 c) rfl rfl (by kernel_rfl) (by kernel_rfl) (by kernel_rfl) (fun _ _ _ h => h) (yields (by rfl) (fun w => by kernel_rfl)) hS ?_
  simp only [Act.put, List.setIfInBounds_toArray, List.set_cons_zero, List.set_cons_succ]
  refine takeAt 3 29 (setV S) rfl rfl (by kernel_rfl) (by kernel_rfl) (by kernel_rfl) (fun _ _ _ h => h) (load_yields rfl rfl (List.mem_cons_of_mem _ List.mem_cons_self) (by rfl)) hS ?_
  simp only [Act.put, List.setIfInBounds_toArray, List.set_cons_zero, List.set_cons_succ]
  refine takeAt 4 30 (.int .u8 c) rfl rfl (by kernel_rfl) (by kernel_rfl) (by kernel_rfl) (fun _ _ _ h => h) (yields (by rfl) (fun w => by kernel_rfl)) hS ?_
  simp only [Act.put, List.setIfInBounds_toArray, List.set_cons_zero, List.set_cons_succ]
  refine callAt 2 28 rfl rfl (by kernel_rfl) (by rfl) (by kernel_rfl) (has_k (foldS S) _ c true _ rfl (by omega) f1) ?_
  rintro e w' ⟨rfl, hb⟩
  refine ⟨_, rfl, hS.call hb, ?_⟩
  have hT1 := hS.call hb
  clear hS hb
  simp only [Act.put, List.setIfInBounds_toArray, List.set_cons_zero, List.set_cons_succ]
  refine callAt 5 31 rfl rfl (by kernel_rfl) (by rfl) (by kernel_rfl) (has_k S _ c true _ rfl (by omega) hx) ?_
  rintro e w' ⟨rfl, hb⟩
  refine ⟨_, rfl, hT1.call hb, ?_⟩
  have hT2 := hT1.call hb
  clear hT1 hb
  simp only [Act.put, List.setIfInBounds_toArray, List.set_cons_zero, List.set_cons_succ]
  refine takeAt 6 32 (.bool true) rfl rfl (by kernel_rfl) (by kernel_rfl) (by kernel_rfl) (fun _ _ _ h => h) (yields (by rfl) (fun w => by kernel_rfl)) hT2 ?_
  simp only [Act.put, List.setIfInBounds_toArray, List.set_cons_zero, List.set_cons_succ]
  refine takeAt 7 33 (undef) rfl rfl (by kernel_rfl) (by kernel_rfl) (by kernel_rfl) (fun _ _ _ h => h) (skipped (by rfl)) hT2 ?_
  simp only [Act.put, List.setIfInBounds_toArray, List.set_cons_zero, List.set_cons_succ]
  refine takeAt 8 34 (undef) rfl rfl (by kernel_rfl) (by kernel_rfl) (by kernel_rfl) (fun _ _ _ h => h) (skipped (by rfl)) hT2 ?_
  simp only [Act.put, List.setIfInBounds_toArray, List.set_cons_zero, List.set_cons_succ]
  refine takeAt 9 35 (undef) rfl rfl (by kernel_rfl) (by kernel_rfl) (by kernel_rfl) (fun _ _ _ h => h) (skipped (by rfl)) hT2 ?_
  simp only [Act.put, List.setIfInBounds_toArray, List.set_cons_zero, List.set_cons_succ]
  refine takeAt 10 36 (.bool true) rfl rfl (by kernel_rfl) (by kernel_rfl) (by kernel_rfl) (fun _ _ _ h => h) (yields (by rfl) (fun w => by kernel_rfl)) hT2 ?_
  simp only [Act.put, List.setIfInBounds_toArray, List.set_cons_zero, List.set_cons_succ]
  refine takeAt 11 37 (.bool true) rfl rfl (by kernel_rfl) (by kernel_rfl) (by kernel_rfl) (fun _ _ _ h => h) (yields (by rfl) (fun w => by kernel_rfl)) hT2 ?_
  simp only [Act.put, List.setIfInBounds_toArray, List.set_cons_zero, List.set_cons_succ]
  refine takeAt 12 38 (.bool true) rfl rfl (by kernel_rfl) (by kernel_rfl) (by kernel_rfl) (fun _ _ _ h => h) (yields (by rfl) (fun w => by kernel_rfl)) hT2 ?_
  simp only [Act.put, List.setIfInBounds_toArray, List.set_cons_zero, List.set_cons_succ]
  refine takeAt 13 39 (setV (foldS S)) rfl rfl (by kernel_rfl) (by kernel_rfl) (by kernel_rfl) (fun _ _ _ h => h) (load_yields rfl rfl List.mem_cons_self (by rfl)) hT2 ?_
  simp only [Act.put, List.setIfInBounds_toArray, List.set_cons_zero, List.set_cons_succ]
  refine takeAt 14 40 (.int .u8 c) rfl rfl (by kernel_rfl) (by kernel_rfl) (by kernel_rfl) (fun _ _ _ h => h) (yields (by rfl) (fun w => by kernel_rfl)) hT2 ?_
  simp only [Act.put, List.setIfInBounds_toArray, List.set_cons_zero, List.set_cons_succ]
  refine takeAt 16 42 (setV (foldS S)) rfl rfl (by kernel_rfl) (by kernel_rfl) (by kernel_rfl) (fun _ _ _ h => h) (load_yields rfl rfl List.mem_cons_self (by rfl)) hT2 ?_
  simp only [Act.put, List.setIfInBounds_toArray, List.set_cons_zero, List.set_cons_succ]
  refine takeAt 17 43 (.int .u8 c) rfl rfl (by kernel_rfl) (by kernel_rfl) (by kernel_rfl) (fun _ _ _ h => h) (yields (by rfl) (fun w => by kernel_rfl)) hT2 ?_
  simp only [Act.put, List.setIfInBounds_toArray, List.set_cons_zero, List.set_cons_succ]
  refine callAt 15 41 rfl rfl (by kernel_rfl) (by rfl) (by kernel_rfl) (has_k (foldS S) _ c true _ rfl (by omega) f1) ?_
  rintro e w' ⟨rfl, hb⟩
  refine ⟨_, rfl, hT2.call hb, ?_⟩
  have hT3 := hT2.call hb
  clear hT2 hb
  simp only [Act.put, List.setIfInBounds_toArray, List.set_cons_zero, List.set_cons_succ]
  refine callAt 18 44 rfl rfl (by kernel_rfl) (by rfl) (by kernel_rfl) (has_k (foldS S) _ c true _ rfl (by omega) f1) ?_
  rintro e w' ⟨rfl, hb⟩
  refine ⟨_, rfl, hT3.call hb, ?_⟩
  have hT4 := hT3.call hb
  clear hT3 hb
  simp only [Act.put, List.setIfInBounds_toArray, List.set_cons_zero, List.set_cons_succ]
  refine takeAt 19 45 (.bool true) rfl rfl (by kernel_rfl) (by kernel_rfl) (by kernel_rfl) (fun _ _ _ h => h) (yields (by rfl) (fun w => by kernel_rfl)) hT4 ?_
  simp only [Act.put, List.setIfInBounds_toArray, List.set_cons_zero, List.set_cons_succ]
  refine takeAt 20 46 (.bool true) rfl rfl (by kernel_rfl) (by kernel_rfl) (by kernel_rfl) (fun _ _ _ h => h) (yields (by rfl) (fun w => by kernel_rfl)) hT4 ?_
  simp only [Act.put, List.setIfInBounds_toArray, List.set_cons_zero, List.set_cons_succ]
  refine takeAt 21 47 (.bool true) rfl rfl (by kernel_rfl) (by kernel_rfl) (by kernel_rfl) (fun _ _ _ h => h) (yields (by rfl) (fun w => by kernel_rfl)) hT4 ?_
  simp only [Act.put, List.setIfInBounds_toArray, List.set_cons_zero, List.set_cons_succ]
  refine callAt 22 48 rfl rfl (by kernel_rfl) (by rfl) (by kernel_rfl) (hT4.fix HF.out) ?_
  rintro e w' ⟨rfl, hb⟩
  refine ⟨_, rfl, hT4.call hb, ?_⟩
  have hT5 := hT4.call hb
  clear hT4 hb
  simp only [Act.put, List.setIfInBounds_toArray, List.set_cons_zero, List.set_cons_succ]
  refine takeAt 23 49 (.bool true) rfl rfl (by kernel_rfl) (by kernel_rfl) (by kernel_rfl) (fun _ _ _ h => h) (yields (by rfl) (fun w => by kernel_rfl)) hT5 ?_
  simp only [Act.put, List.setIfInBounds_toArray, List.set_cons_zero, List.set_cons_succ]
  refine takeAt 24 4 (.bool true) rfl rfl (by kernel_rfl) (by kernel_rfl) (by kernel_rfl) (fun _ _ _ h => h) (yields (by rfl) (fun w => by kernel_rfl)) hT5 ?_
  simp only [Act.put, List.setIfInBounds_toArray, List.set_cons_zero, List.set_cons_succ]
  refine wpAnyH_done (by kernel_rfl) ?_ _
  go_wp2
  go_ret
  exact ⟨rfl, hT5.2.1⟩

set_option maxHeartbeats 4000000 in
set_option maxRecDepth 100000 in
theorem classFolds_noAFF (hfix : FixedOk) (S : BitVec 256) (c : Nat) (w : World) (ht : TabOk w) (hc : c < 256) (k1 : c < 65) (hx : mem S c = false) (f1 : mem (foldS S) c = false) :
    Calls Tryd.prog 9 #[setV S, .int .u8 c] w fun e w' => e = .returned (.bool true) ∧ Below w.heap.size w w' := by
  have HF := Lib.hid hfix
  have HT := Lib.hid ht
  have HX := Lib.hid hx
  have H1 := Lib.hid f1
  clear hfix ht hx f1
  go_enter Tryd.func9, Tryd.ntmps9
  go_wp2_with fail
  refine (fold_any S _).mono ?_
  rintro e w1 ⟨rfl, hb⟩
  have hS := ((((Held.start HT.out).new S).call hb).new (foldS S)).drew
  clear hb
  have HS := Lib.hid hS
  clear hS
  go_wp2_with fail
  have hS := HS.out
  have hx := HX.out
  have f1 := H1.out
  clear HS HX H1
  refine wp_region_held_drew (S := Held w [(w1.heap.size, foldS S), (w.heap.size, S)]) (by kernel_rfl) hS (fun _ => ?_)
  refine takeAt 0 26 (setV (foldS S)) rfl rfl (by kernel_rfl) (by kernel_rfl) (by kernel_rfl) (fun _ _ _ h => h) (load_yields rfl rfl List.mem_cons_self (by rfl)) hS ?_
  simp only [Act.put, List.setIfInBounds_toArray, List.set_cons_zero, List.set_cons_succ]
  refine takeAt 1 27 (.int .u8 c) rfl rfl (by kernel_rfl) (by kernel_rfl) (by kernel_rfl) (fun _ _ _ h => h) (yields (by rfl) (fun w => by kernel_rfl)) hS ?_
  simp only [Act.put, List.setIfInBounds_toArray, List.set_cons_zero, List.set_cons_succ]
  refine takeAt 3 29 (setV S) rfl rfl (by kernel_rfl) (by kernel_rfl) (by kernel_rfl) (fun _ _ _ h => h) (load_yields rfl rfl (List.mem_cons_of_mem _ List.mem_cons_self) (by rfl)) hS ?_
  simp only [Act.put, List.setIfInBounds_toArray, List.set_cons_zero, List.set_cons_succ]
  refine takeAt 4 30 (.int .u8 c) rfl rfl (by kernel_rfl) (by kernel_rfl) (by kernel_rfl) (fun _ _ _ h => h) (yields (by rfl) (fun w => by kernel_rfl)) hS ?_
  simp only [Act.put, List.setIfInBounds_toArray, List.set_cons_zero, List.set_cons_succ]
  refine callAt 2 28 rfl rfl (by kernel_rfl) (by rfl) (by kernel_rfl) (has_k (foldS S) _ c false _ rfl (by omega) f1) ?_
  rintro e w' ⟨rfl, hb⟩
  refine ⟨_, rfl, hS.call hb, ?_⟩
  have hT1 := hS.call hb
  clear hS hb
  simp only [Act.put, List.setIfInBounds_toArray, List.set_cons_zero, List.set_cons_succ]
  refine callAt 5 31 rfl rfl (by kernel_rfl) (by rfl) (by kernel_rfl) (has_k S _ c false _ rfl (by omega) hx) ?_
  rintro e w' ⟨rfl, hb⟩
  refine ⟨_, rfl, hT1.call hb, ?_⟩
  have hT2 := hT1.call hb
  clear hT1 hb
  simp only [Act.put, List.setIfInBounds_toArray, List.set_cons_zero, List.set_cons_succ]
  refine takeAt 6 32 (.bool false) rfl rfl (by kernel_rfl) (by kernel_rfl) (by kernel_rfl) (fun _ _ _ h => h) (yields (by rfl) (fun w => by kernel_rfl)) hT2 ?_
  simp only [Act.put, List.setIfInBounds_toArray, List.set_cons_zero, List.set_cons_succ]
  refine takeAt 7 33 (setV S) rfl rfl (by kernel_rfl) (by kernel_rfl) (by kernel_rfl) (fun _ _ _ h => h) (load_yields rfl rfl (List.mem_cons_of_mem _ List.mem_cons_self) (by rfl)) hT2 ?_
  simp only [Act.put, List.setIfInBounds_toArray, List.set_cons_zero, List.set_cons_succ]
  refine takeAt 8 34 (.int .u8 c) rfl rfl (by kernel_rfl) (by kernel_rfl) (by kernel_rfl) (fun _ _ _ h => h) (yields (by rfl) (fun w => by kernel_rfl)) hT2 ?_
  simp only [Act.put, List.setIfInBounds_toArray, List.set_cons_zero, List.set_cons_succ]
  refine callAt 9 35 rfl rfl (by kernel_rfl) (by rfl) (by kernel_rfl) (has_k S _ c false _ rfl (by omega) hx) ?_
  rintro e w' ⟨rfl, hb⟩
  refine ⟨_, rfl, hT2.call hb, ?_⟩
  have hT3 := hT2.call hb
  clear hT2 hb
  simp only [Act.put, List.setIfInBounds_toArray, List.set_cons_zero, List.set_cons_succ]
  refine takeAt 10 36 (.bool false) rfl rfl (by kernel_rfl) (by kernel_rfl) (by kernel_rfl) (fun _ _ _ h => h) (yields (by rfl) (fun w => by kernel_rfl)) hT3 ?_
  simp only [Act.put, List.setIfInBounds_toArray, List.set_cons_zero, List.set_cons_succ]
  refine takeAt 11 37 (.bool true) rfl rfl (by kernel_rfl) (by kernel_rfl) (by kernel_rfl) (fun _ _ _ h => h) (yields (by rfl) (fun w => by kernel_rfl)) hT3 ?_
  simp only [Act.put, List.setIfInBounds_toArray, List.set_cons_zero, List.set_cons_succ]
  refine takeAt 12 38 (.bool true) rfl rfl (by kernel_rfl) (by kernel_rfl) (by kernel_rfl) (fun _ _ _ h => h) (yields (by rfl) (fun w => by kernel_rfl)) hT3 ?_
  simp only [Act.put, List.setIfInBounds_toArray, List.set_cons_zero, List.set_cons_succ]
  refine takeAt 13 39 (setV (foldS S)) rfl rfl (by kernel_rfl) (by kernel_rfl) (by kernel_rfl) (fun _ _ _ h => h) (load_yields rfl rfl List.mem_cons_self (by rfl)) hT3 ?_
  simp only [Act.put, List.setIfInBounds_toArray, List.set_cons_zero, List.set_cons_succ]
  refine takeAt 14 40 (.int .u8 c) rfl rfl (by kernel_rfl) (by kernel_rfl) (by kernel_rfl) (fun _ _ _ h => h) (yields (by rfl) (fun w => by kernel_rfl)) hT3 ?_
  simp only [Act.put, List.setIfInBounds_toArray, List.set_cons_zero, List.set_cons_succ]
  refine takeAt 16 42 (setV (foldS S)) rfl rfl (by kernel_rfl) (by kernel_rfl) (by kernel_rfl) (fun _ _ _ h => h) (load_yields rfl rfl List.mem_cons_self (by rfl)) hT3 ?_
  simp only [Act.put, List.setIfInBounds_toArray, List.set_cons_zero, List.set_cons_succ]
  refine takeAt 17 43 (.int .u8 c) rfl rfl (by kernel_rfl) (by kernel_rfl) (by kernel_rfl) (fun _ _ _ h => h) (yields (by rfl) (fun w => by kernel_rfl)) hT3 ?_
  simp only [Act.put, List.setIfInBounds_toArray, List.set_cons_zero, List.set_cons_succ]
  refine callAt 15 41 rfl rfl (by kernel_rfl) (by rfl) (by kernel_rfl) (has_k (foldS S) _ c false _ rfl (by omega) f1) ?_
  rintro e w' ⟨rfl, hb⟩
  refine ⟨_, rfl, hT3.call hb, ?_⟩
  have hT4 := hT3.call hb
  clear hT3 hb
  simp only [Act.put, List.setIfInBounds_toArray, List.set_cons_zero, List.set_cons_succ]
  refine callAt 18 44 rfl rfl (by kernel_rfl) (by rfl) (by kernel_rfl) (has_k (foldS S) _ c false _ rfl (by omega) f1) ?_
  rintro e w' ⟨rfl, hb⟩
  refine ⟨_, rfl, hT4.call hb, ?_⟩
  have hT5 := hT4.call hb
  clear hT4 hb
  simp only [Act.put, List.setIfInBounds_toArray, List.set_cons_zero, List.set_cons_succ]
  refine takeAt 19 45 (.bool true) rfl rfl (by kernel_rfl) (by kernel_rfl) (by kernel_rfl) (fun _ _ _ h => h) (yields (by rfl) (fun w => by kernel_rfl)) hT5 ?_
  simp only [Act.put, List.setIfInBounds_toArray, List.set_cons_zero, List.set_cons_succ]
  refine takeAt 20 46 (.bool true) rfl rfl (by kernel_rfl) (by kernel_rfl) (by kernel_rfl) (fun _ _ _ h => h) (yields (by rfl) (fun w => by kernel_rfl)) hT5 ?_
  simp only [Act.put, List.setIfInBounds_toArray, List.set_cons_zero, List.set_cons_succ]
  refine takeAt 21 47 (.bool true) rfl rfl (by kernel_rfl) (by kernel_rfl) (by kernel_rfl) (fun _ _ _ h => h) (yields (by rfl) (fun w => by kernel_rfl)) hT5 ?_
  simp only [Act.put, List.setIfInBounds_toArray, List.set_cons_zero, List.set_cons_succ]
  refine callAt 22 48 rfl rfl (by kernel_rfl) (by rfl) (by kernel_rfl) (hT5.fix HF.out) ?_
  rintro e w' ⟨rfl, hb⟩
  refine ⟨_, rfl, hT5.call hb, ?_⟩
  have hT6 := hT5.call hb
  clear hT5 hb
  simp only [Act.put, List.setIfInBounds_toArray, List.set_cons_zero, List.set_cons_succ]
  refine takeAt 23 49 (.bool true) rfl rfl (by kernel_rfl) (by kernel_rfl) (by kernel_rfl) (fun _ _ _ h => h) (yields (by rfl) (fun w => by kernel_rfl)) hT6 ?_
  simp only [Act.put, List.setIfInBounds_toArray, List.set_cons_zero, List.set_cons_succ]
  refine takeAt 24 4 (.bool true) rfl rfl (by kernel_rfl) (by kernel_rfl) (by kernel_rfl) (fun _ _ _ h => h) (yields (by rfl) (fun w => by kernel_rfl)) hT6 ?_
  simp only [Act.put, List.setIfInBounds_toArray, List.set_cons_zero, List.set_cons_succ]
  refine wpAnyH_done (by kernel_rfl) ?_ _
  go_wp2
  go_ret
  exact ⟨rfl, hT6.2.1⟩

set_option maxHeartbeats 4000000 in
set_option maxRecDepth 100000 in
theorem classFolds_noBT (hfix : FixedOk) (S : BitVec 256) (c : Nat) (w : World) (ht : TabOk w) (hc : c < 256) (k1 : 90 < c) (k2 : c < 97) (hx : mem S c = true) (f1 : mem (foldS S) c = true) :
    Calls Tryd.prog 9 #[setV S, .int .u8 c] w fun e w' => e = .returned (.bool true) ∧ Below w.heap.size w w' := by
  have HF := Lib.hid hfix
  have HT := Lib.hid ht
  have HX := Lib.hid hx
  have H1 := Lib.hid f1
  clear hfix ht hx f1
  go_enter Tryd.func9, Tryd.ntmps9
  go_wp2_with fail
  refine (fold_any S _).mono ?_
  rintro e w1 ⟨rfl, hb⟩
  have hS := ((((Held.start HT.out).new S).call hb).new (foldS S)).drew
  clear hb
  have HS := Lib.hid hS
  clear hS
  go_wp2_with fail
  have hS := HS.out
  have hx := HX.out
  have f1 := H1.out
  clear HS HX H1
  refine wp_region_held_drew (S := Held w [(w1.heap.size, foldS S), (w.heap.size, S)]) (by kernel_rfl) hS (fun _ => ?_)
  refine takeAt 0 26 (setV (foldS S)) rfl rfl (by kernel_rfl) (by kernel_rfl) (by kernel_rfl) (fun _ _ _ h => h) (load_yields rfl rfl List.mem_cons_self (by rfl)) hS ?_
  simp only [Act.put, List.setIfInBounds_toArray, List.set_cons_zero, List.set_cons_succ]
  refine takeAt 1 27 (.int .u8 c) rfl rfl (by kernel_rfl) (by kernel_rfl) (by kernel_rfl) (fun _ _ _ h => h) (yields (by rfl) (fun w => by kernel_rfl)) hS ?_
  simp only [Act.put, List.setIfInBounds_toArray, List.set_cons_zero, List.set_cons_succ]
  refine takeAt 3 29 (setV S) rfl rfl (by kernel_rfl) (by kernel_rfl) (by kernel_rfl) (fun _ _ _ h => h) (load_yields rfl rfl (List.mem_cons_of_mem _ List.mem_cons_self) (by rfl)) hS ?_
  simp only [Act.put, List.setIfInBounds_toArray, List.set_cons_zero, List.set_cons_succ]
  refine takeAt 4 30 (.int .u8 c) rfl rfl (by kernel_rfl) (by kernel_rfl) (by kernel_rfl) (fun _ _ _ h => h) (yields (by rfl) (fun w => by kernel_rfl)) hS ?_
  simp only [Act.put, List.setIfInBounds_toArray, List.set_cons_zero, List.set_cons_succ]
  refine callAt 2 28 rfl rfl (by kernel_rfl) (by rfl) (by kernel_rfl) (has_k (foldS S) _ c true _ rfl (by omega) f1) ?_
  rintro e w' ⟨rfl, hb⟩
  refine ⟨_, rfl, hS.call hb, ?_⟩
  have hT1 := hS.call hb
  clear hS hb
  simp only [Act.put, List.setIfInBounds_toArray, List.set_cons_zero, List.set_cons_succ]
  refine callAt 5 31 rfl rfl (by kernel_rfl) (by rfl) (by kernel_rfl) (has_k S _ c true _ rfl (by omega) hx) ?_
  rintro e w' ⟨rfl, hb⟩
  refine ⟨_, rfl, hT1.call hb, ?_⟩
  have hT2 := hT1.call hb
  clear hT1 hb
  simp only [Act.put, List.setIfInBounds_toArray, List.set_cons_zero, List.set_cons_succ]
  refine takeAt 6 32 (.bool true) rfl rfl (by kernel_rfl) (by kernel_rfl) (by kernel_rfl) (fun _ _ _ h => h) (yields (by rfl) (fun w => by kernel_rfl)) hT2 ?_
  simp only [Act.put, List.setIfInBounds_toArray, List.set_cons_zero, List.set_cons_succ]
  refine takeAt 7 33 (undef) rfl rfl (by kernel_rfl) (by kernel_rfl) (by kernel_rfl) (fun _ _ _ h => h) (skipped (by rfl)) hT2 ?_
  simp only [Act.put, List.setIfInBounds_toArray, List.set_cons_zero, List.set_cons_succ]
  refine takeAt 8 34 (undef) rfl rfl (by kernel_rfl) (by kernel_rfl) (by kernel_rfl) (fun _ _ _ h => h) (skipped (by rfl)) hT2 ?_
  simp only [Act.put, List.setIfInBounds_toArray, List.set_cons_zero, List.set_cons_succ]
  refine takeAt 9 35 (undef) rfl rfl (by kernel_rfl) (by kernel_rfl) (by kernel_rfl) (fun _ _ _ h => h) (skipped (by rfl)) hT2 ?_
  simp only [Act.put, List.setIfInBounds_toArray, List.set_cons_zero, List.set_cons_succ]
  refine takeAt 10 36 (.bool true) rfl rfl (by kernel_rfl) (by kernel_rfl) (by kernel_rfl) (fun _ _ _ h => h) (yields (by rfl) (fun w => by kernel_rfl)) hT2 ?_
  simp only [Act.put, List.setIfInBounds_toArray, List.set_cons_zero, List.set_cons_succ]
  refine takeAt 11 37 (.bool true) rfl rfl (by kernel_rfl) (by kernel_rfl) (by kernel_rfl) (fun _ _ _ h => h) (yields (by rfl) (fun w => by kernel_rfl)) hT2 ?_
  simp only [Act.put, List.setIfInBounds_toArray, List.set_cons_zero, List.set_cons_succ]
  refine takeAt 12 38 (.bool true) rfl rfl (by kernel_rfl) (by kernel_rfl) (by kernel_rfl) (fun _ _ _ h => h) (yields (by rfl) (fun w => by kernel_rfl)) hT2 ?_
  simp only [Act.put, List.setIfInBounds_toArray, List.set_cons_zero, List.set_cons_succ]
  refine takeAt 13 39 (setV (foldS S)) rfl rfl (by kernel_rfl) (by kernel_rfl) (by kernel_rfl) (fun _ _ _ h => h) (load_yields rfl rfl List.mem_cons_self (by rfl)) hT2 ?_
  simp only [Act.put, List.setIfInBounds_toArray, List.set_cons_zero, List.set_cons_succ]
  refine takeAt 14 40 (.int .u8 c) rfl rfl (by kernel_rfl) (by kernel_rfl) (by kernel_rfl) (fun _ _ _ h => h) (yields (by rfl) (fun w => by kernel_rfl)) hT2 ?_
  simp only [Act.put, List.setIfInBounds_toArray, List.set_cons_zero, List.set_cons_succ]
  refine takeAt 16 42 (setV (foldS S)) rfl rfl (by kernel_rfl) (by kernel_rfl) (by kernel_rfl) (fun _ _ _ h => h) (load_yields rfl rfl List.mem_cons_self (by rfl)) hT2 ?_
  simp only [Act.put, List.setIfInBounds_toArray, List.set_cons_zero, List.set_cons_succ]
  refine takeAt 17 43 (.int .u8 c) rfl rfl (by kernel_rfl) (by kernel_rfl) (by kernel_rfl) (fun _ _ _ h => h) (yields (by rfl) (fun w => by kernel_rfl)) hT2 ?_
  simp only [Act.put, List.setIfInBounds_toArray, List.set_cons_zero, List.set_cons_succ]
  refine callAt 15 41 rfl rfl (by kernel_rfl) (by rfl) (by kernel_rfl) (has_k (foldS S) _ c true _ rfl (by omega) f1) ?_
  rintro e w' ⟨rfl, hb⟩
  refine ⟨_, rfl, hT2.call hb, ?_⟩
  have hT3 := hT2.call hb
  clear hT2 hb
  simp only [Act.put, List.setIfInBounds_toArray, List.set_cons_zero, List.set_cons_succ]
  refine callAt 18 44 rfl rfl (by kernel_rfl) (by rfl) (by kernel_rfl) (has_k (foldS S) _ c true _ rfl (by omega) f1) ?_
  rintro e w' ⟨rfl, hb⟩
  refine ⟨_, rfl, hT3.call hb, ?_⟩
  have hT4 := hT3.call hb
  clear hT3 hb
  simp only [Act.put, List.setIfInBounds_toArray, List.set_cons_zero, List.set_cons_succ]
  refine takeAt 19 45 (.bool true) rfl rfl (by kernel_rfl) (by kernel_rfl) (by kernel_rfl) (fun _ _ _ h => h) (yields (by rfl) (fun w => by kernel_rfl)) hT4 ?_
  simp only [Act.put, List.setIfInBounds_toArray, List.set_cons_zero, List.set_cons_succ]
  refine takeAt 20 46 (.bool true) rfl rfl (by kernel_rfl) (by kernel_rfl) (by kernel_rfl) (fun _ _ _ h => h) (yields (by rfl) (fun w => by kernel_rfl)) hT4 ?_
  simp only [Act.put, List.setIfInBounds_toArray, List.set_cons_zero, List.set_cons_succ]
  refine takeAt 21 47 (.bool true) rfl rfl (by kernel_rfl) (by kernel_rfl) (by kernel_rfl) (fun _ _ _ h => h) (yields (by rfl) (fun w => by kernel_rfl)) hT4 ?_
  simp only [Act.put, List.setIfInBounds_toArray, List.set_cons_zero, List.set_cons_succ]
  refine callAt 22 48 rfl rfl (by kernel_rfl) (by rfl) (by kernel_rfl) (hT4.fix HF.out) ?_
  rintro e w' ⟨rfl, hb⟩
  refine ⟨_, rfl, hT4.call hb, ?_⟩
  have hT5 := hT4.call hb
  clear hT4 hb
  simp only [Act.put, List.setIfInBounds_toArray, List.set_cons_zero, List.set_cons_succ]
  refine takeAt 23 49 (.bool true) rfl rfl (by kernel_rfl) (by kernel_rfl) (by kernel_rfl) (fun _ _ _ h => h) (yields (by rfl) (fun w => by kernel_rfl)) hT5 ?_
  simp only [Act.put, List.setIfInBounds_toArray, List.set_cons_zero, List.set_cons_succ]
  refine takeAt 24 4 (.bool true) rfl rfl (by kernel_rfl) (by kernel_rfl) (by kernel_rfl) (fun _ _ _ h => h) (yields (by rfl) (fun w => by kernel_rfl)) hT5 ?_
  simp only [Act.put, List.setIfInBounds_toArray, List.set_cons_zero, List.set_cons_succ]
  refine wpAnyH_done (by kernel_rfl) ?_ _
  go_wp2
  go_ret
  exact ⟨rfl, hT5.2.1⟩

set_option maxHeartbeats 4000000 in
set_option maxRecDepth 100000 in
theorem classFolds_noBFF (hfix : FixedOk) (S : BitVec 256) (c : Nat) (w : World) (ht : TabOk w) (hc : c < 256) (k1 : 90 < c) (k2 : c < 97) (hx : mem S c = false) (f1 : mem (foldS S) c = false) :
    Calls Tryd.prog 9 #[setV S, .int .u8 c] w fun e w' => e = .returned (.bool true) ∧ Below w.heap.size w w' := by
  have HF := Lib.hid hfix
  have HT := Lib.hid ht
  have HX := Lib.hid hx
  have H1 := Lib.hid f1
  clear hfix ht hx f1
  go_enter Tryd.func9, Tryd.ntmps9
  go_wp2_with fail
  refine (fold_any S _).mono ?_
  rintro e w1 ⟨rfl, hb⟩
  have hS := ((((Held.start HT.out).new S).call hb).new (foldS S)).drew
  clear hb
  have HS := Lib.hid hS
  clear hS
  go_wp2_with fail
  have hS := HS.out
  have hx := HX.out
  have f1 := H1.out
  clear HS HX H1
  refine wp_region_held_drew (S := Held w [(w1.heap.size, foldS S), (w.heap.size, S)]) (by kernel_rfl) hS (fun _ => ?_)
  refine takeAt 0 26 (setV (foldS S)) rfl rfl (by kernel_rfl) (by kernel_rfl) (by kernel_rfl) (fun _ _ _ h => h) (load_yields rfl rfl List.mem_cons_self (by rfl)) hS ?_
  simp only [Act.put, List.setIfInBounds_toArray, List.set_cons_zero, List.set_cons_succ]
  refine takeAt 1 27 (.int .u8 c) rfl rfl (by kernel_rfl) (by kernel_rfl) (by kernel_rfl) (fun _ _ _ h => h) (yields (by rfl) (fun w => by kernel_rfl)) hS ?_
  simp only [Act.put, List.setIfInBounds_toArray, List.set_cons_zero, List.set_cons_succ]
  refine takeAt 3 29 (setV S) rfl rfl (by kernel_rfl) (by kernel_rfl) (by kernel_rfl) (fun _ _ _ h => h) (load_yields rfl rfl (List.mem_cons_of_mem _ List.mem_cons_self) (by rfl)) hS ?_
  simp only [Act.put, List.setIfInBounds_toArray, List.set_cons_zero, List.set_cons_succ]
  refine takeAt 4 30 (.int .u8 c) rfl rfl (by kernel_rfl) (by kernel_rfl) (by kernel_rfl) (fun _ _ _ h => h) (yields (by rfl) (fun w => by kernel_rfl)) hS ?_
  simp only [Act.put, List.setIfInBounds_toArray, List.set_cons_zero, List.set_cons_succ]
  refine callAt 2 28 rfl rfl (by kernel_rfl) (by rfl) (by kernel_rfl) (has_k (foldS S) _ c false _ rfl (by omega) f1) ?_
  rintro e w' ⟨rfl, hb⟩
  refine ⟨_, rfl, hS.call hb, ?_⟩
  have hT1 := hS.call hb
  clear hS hb
  simp only [Act.put, List.setIfInBounds_toArray, List.set_cons_zero, List.set_cons_succ]
  refine callAt 5 31 rfl rfl (by kernel_rfl) (by rfl) (by kernel_rfl) (has_k S _ c false _ rfl (by omega) hx) ?_
  rintro e w' ⟨rfl, hb⟩
  refine ⟨_, rfl, hT1.call hb, ?_⟩
  have hT2 := hT1.call hb
  clear hT1 hb
  simp only [Act.put, List.setIfInBounds_toArray, List.set_cons_zero, List.set_cons_succ]
  refine takeAt 6 32 (.bool false) rfl rfl (by kernel_rfl) (by kernel_rfl) (by kernel_rfl) (fun _ _ _ h => h) (yields (by rfl) (fun w => by kernel_rfl)) hT2 ?_
  simp only [Act.put, List.setIfInBounds_toArray, List.set_cons_zero, List.set_cons_succ]
  refine takeAt 7 33 (setV S) rfl rfl (by kernel_rfl) (by kernel_rfl) (by kernel_rfl) (fun _ _ _ h => h) (load_yields rfl rfl (List.mem_cons_of_mem _ List.mem_cons_self) (by rfl)) hT2 ?_
  simp only [Act.put, List.setIfInBounds_toArray, List.set_cons_zero, List.set_cons_succ]
  refine takeAt 8 34 (.int .u8 c) rfl rfl (by kernel_rfl) (by kernel_rfl) (by kernel_rfl) (fun _ _ _ h => h) (yields (by rfl) (fun w => by kernel_rfl)) hT2 ?_
  simp only [Act.put, List.setIfInBounds_toArray, List.set_cons_zero, List.set_cons_succ]
  refine callAt 9 35 rfl rfl (by kernel_rfl) (by rfl) (by kernel_rfl) (has_k S _ c false _ rfl (by omega) hx) ?_
  rintro e w' ⟨rfl, hb⟩
  refine ⟨_, rfl, hT2.call hb, ?_⟩
  have hT3 := hT2.call hb
  clear hT2 hb
  simp only [Act.put, List.setIfInBounds_toArray, List.set_cons_zero, List.set_cons_succ]
  refine takeAt 10 36 (.bool false) rfl rfl (by kernel_rfl) (by kernel_rfl) (by kernel_rfl) (fun _ _ _ h => h) (yields (by rfl) (fun w => by kernel_rfl)) hT3 ?_
  simp only [Act.put, List.setIfInBounds_toArray, List.set_cons_zero, List.set_cons_succ]
  refine takeAt 11 37 (.bool true) rfl rfl (by kernel_rfl) (by kernel_rfl) (by kernel_rfl) (fun _ _ _ h => h) (yields (by rfl) (fun w => by kernel_rfl)) hT3 ?_
  simp only [Act.put, List.setIfInBounds_toArray, List.set_cons_zero, List.set_cons_succ]
  refine takeAt 12 38 (.bool true) rfl rfl (by kernel_rfl) (by kernel_rfl) (by kernel_rfl) (fun _ _ _ h => h) (yields (by rfl) (fun w => by kernel_rfl)) hT3 ?_
  simp only [Act.put, List.setIfInBounds_toArray, List.set_cons_zero, List.set_cons_succ]
  refine takeAt 13 39 (setV (foldS S)) rfl rfl (by kernel_rfl) (by kernel_rfl) (by kernel_rfl) (fun _ _ _ h => h) (load_yields rfl rfl List.mem_cons_self (by rfl)) hT3 ?_
  simp only [Act.put, List.setIfInBounds_toArray, List.set_cons_zero, List.set_cons_succ]
  refine takeAt 14 40 (.int .u8 c) rfl rfl (by kernel_rfl) (by kernel_rfl) (by kernel_rfl) (fun _ _ _ h => h) (yields (by rfl) (fun w => by kernel_rfl)) hT3 ?_
  simp only [Act.put, List.setIfInBounds_toArray, List.set_cons_zero, List.set_cons_succ]
  refine takeAt 16 42 (setV (foldS S)) rfl rfl (by kernel_rfl) (by kernel_rfl) (by kernel_rfl) (fun _ _ _ h => h) (load_yields rfl rfl List.mem_cons_self (by rfl)) hT3 ?_
  simp only [Act.put, List.setIfInBounds_toArray, List.set_cons_zero, List.set_cons_succ]
  refine takeAt 17 43 (.int .u8 c) rfl rfl (by kernel_rfl) (by kernel_rfl) (by kernel_rfl) (fun _ _ _ h => h) (yields (by rfl) (fun w => by kernel_rfl)) hT3 ?_
  simp only [Act.put, List.setIfInBounds_toArray, List.set_cons_zero, List.set_cons_succ]
  refine callAt 15 41 rfl rfl (by kernel_rfl) (by rfl) (by kernel_rfl) (has_k (foldS S) _ c false _ rfl (by omega) f1) ?_
  rintro e w' ⟨rfl, hb⟩
  refine ⟨_, rfl, hT3.call hb, ?_⟩
  have hT4 := hT3.call hb
  clear hT3 hb
  simp only [Act.put, List.setIfInBounds_toArray, List.set_cons_zero, List.set_cons_succ]
  refine callAt 18 44 rfl rfl (by kernel_rfl) (by rfl) (by kernel_rfl) (has_k (foldS S) _ c false _ rfl (by omega) f1) ?_
  rintro e w' ⟨rfl, hb⟩
  refine ⟨_, rfl, hT4.call hb, ?_⟩
  have hT5 := hT4.call hb
  clear hT4 hb
  simp only [Act.put, List.setIfInBounds_toArray, List.set_cons_zero, List.set_cons_succ]
  refine takeAt 19 45 (.bool true) rfl rfl (by kernel_rfl) (by kernel_rfl) (by kernel_rfl) (fun _ _ _ h => h) (yields (by rfl) (fun w => by kernel_rfl)) hT5 ?_
  simp only [Act.put, List.setIfInBounds_toArray, List.set_cons_zero, List.set_cons_succ]
  refine takeAt 20 46 (.bool true) rfl rfl (by kernel_rfl) (by kernel_rfl) (by kernel_rfl) (fun _ _ _ h => h) (yields (by rfl) (fun w => by kernel_rfl)) hT5 ?_
  simp only [Act.put, List.setIfInBounds_toArray, List.set_cons_zero, List.set_cons_succ]
  refine takeAt 21 47 (.bool true) rfl rfl (by kernel_rfl) (by kernel_rfl) (by kernel_rfl) (fun _ _ _ h => h) (yields (by rfl) (fun w => by kernel_rfl)) hT5 ?_
  simp only [Act.put, List.setIfInBounds_toArray, List.set_cons_zero, List.set_cons_succ]
  refine callAt 22 48 rfl rfl (by kernel_rfl) (by rfl) (by kernel_rfl) (hT5.fix HF.out) ?_
  rintro e w' ⟨rfl, hb⟩
  refine ⟨_, rfl, hT5.call hb, ?_⟩
  have hT6 := hT5.call hb
  clear hT5 hb
  simp only [Act.put, List.setIfInBounds_toArray, List.set_cons_zero, List.set_cons_succ]
  refine takeAt 23 49 (.bool true) rfl rfl (by kernel_rfl) (by kernel_rfl) (by kernel_rfl) (fun _ _ _ h => h) (yields (by rfl) (fun w => by kernel_rfl)) hT6 ?_
  simp only [Act.put, List.setIfInBounds_toArray, List.set_cons_zero, List.set_cons_succ]
  refine takeAt 24 4 (.bool true) rfl rfl (by kernel_rfl) (by kernel_rfl) (by kernel_rfl) (fun _ _ _ h => h) (yields (by rfl) (fun w => by kernel_rfl)) hT6 ?_
  simp only [Act.put, List.setIfInBounds_toArray, List.set_cons_zero, List.set_cons_succ]
  refine wpAnyH_done (by kernel_rfl) ?_ _
  go_wp2
  go_ret
  exact ⟨rfl, hT6.2.1⟩

set_option maxHeartbeats 4000000 in
set_option maxRecDepth 100000 in
theorem classFolds_noCT (hfix : FixedOk) (S : BitVec 256) (c : Nat) (w : World) (ht : TabOk w) (hc : c < 256) (k1 : 122 < c) (hx : mem S c = true) (f1 : mem (foldS S) c = true) :
    Calls Tryd.prog 9 #[setV S, .int .u8 c] w fun e w' => e = .returned (.bool true) ∧ Below w.heap.size w w' := by
  have HF := Lib.hid hfix
  have HT := Lib.hid ht
  have HX := Lib.hid hx
  have H1 := Lib.hid f1
  clear hfix ht hx f1
  go_enter Tryd.func9, Tryd.ntmps9
  go_wp2_with fail
  refine (fold_any S _).mono ?_
  rintro e w1 ⟨rfl, hb⟩
  have hS := ((((Held.start HT.out).new S).call hb).new (foldS S)).drew
  clear hb
  have HS := Lib.hid hS
  clear hS
  go_wp2_with fail
  have hS := HS.out
  have hx := HX.out
  have f1 := H1.out
  clear HS HX H1
  refine wp_region_held_drew (S := Held w [(w1.heap.size, foldS S), (w.heap.size, S)]) (by kernel_rfl) hS (fun _ => ?_)
  refine takeAt 0 26 (setV (foldS S)) rfl rfl (by kernel_rfl) (by kernel_rfl) (by kernel_rfl) (fun _ _ _ h => h) (load_yields rfl rfl List.mem_cons_self (by rfl)) hS ?_
  simp only [Act.put, List.setIfInBounds_toArray, List.set_cons_zero, List.set_cons_succ]
  refine takeAt 1 27 (.int .u8 c) rfl rfl (by kernel_rfl) (by kernel_rfl) (by kernel_rfl) (fun _ _ _ h => h) (yields (by rfl) (fun w => by kernel_rfl)) hS ?_
  simp only [Act.put, List.setIfInBounds_toArray, List.set_cons_zero, List.set_cons_succ]
  refine takeAt 3 29 (setV S) rfl rfl (by kernel_rfl) (by kernel_rfl) (by kernel_rfl) (fun _ _ _ h => h) (load_yields rfl rfl (List.mem_cons_of_mem _ List.mem_cons_self) (by rfl)) hS ?_
  simp only [Act.put, List.setIfInBounds_toArray, List.set_cons_zero, List.set_cons_succ]
  refine takeAt 4 30 (.int .u8 c) rfl rfl (by kernel_rfl) (by kernel_rfl) (by kernel_rfl) (fun _ _ _ h => h) (yields (by rfl) (fun w => by kernel_rfl)) hS ?_
  simp only [Act.put, List.setIfInBounds_toArray, List.set_cons_zero, List.set_cons_succ]
  refine callAt 2 28 rfl rfl (by kernel_rfl) (by rfl) (by kernel_rfl) (has_k (foldS S) _ c true _ rfl (by omega) f1) ?_
  rintro e w' ⟨rfl, hb⟩
  refine ⟨_, rfl, hS.call hb, ?_⟩
  have hT1 := hS.call hb
  clear hS hb
  simp only [Act.put, List.setIfInBounds_toArray, List.set_cons_zero, List.set_cons_succ]
  refine callAt 5 31 rfl rfl (by kernel_rfl) (by rfl) (by kernel_rfl) (has_k S _ c true _ rfl (by omega) hx) ?_
  rintro e w' ⟨rfl, hb⟩
  refine ⟨_, rfl, hT1.call hb, ?_⟩
  have hT2 := hT1.call hb
  clear hT1 hb
  simp only [Act.put, List.setIfInBounds_toArray, List.set_cons_zero, List.set_cons_succ]
  refine takeAt 6 32 (.bool true) rfl rfl (by kernel_rfl) (by kernel_rfl) (by kernel_rfl) (fun _ _ _ h => h) (yields (by rfl) (fun w => by kernel_rfl)) hT2 ?_
  simp only [Act.put, List.setIfInBounds_toArray, List.set_cons_zero, List.set_cons_succ]
  refine takeAt 7 33 (undef) rfl rfl (by kernel_rfl) (by kernel_rfl) (by kernel_rfl) (fun _ _ _ h => h) (skipped (by rfl)) hT2 ?_
  simp only [Act.put, List.setIfInBounds_toArray, List.set_cons_zero, List.set_cons_succ]
  refine takeAt 8 34 (undef) rfl rfl (by kernel_rfl) (by kernel_rfl) (by kernel_rfl) (fun _ _ _ h => h) (skipped (by rfl)) hT2 ?_
  simp only [Act.put, List.setIfInBounds_toArray, List.set_cons_zero, List.set_cons_succ]
  refine takeAt 9 35 (undef) rfl rfl (by kernel_rfl) (by kernel_rfl) (by kernel_rfl) (fun _ _ _ h => h) (skipped (by rfl)) hT2 ?_
  simp only [Act.put, List.setIfInBounds_toArray, List.set_cons_zero, List.set_cons_succ]
  refine takeAt 10 36 (.bool true) rfl rfl (by kernel_rfl) (by kernel_rfl) (by kernel_rfl) (fun _ _ _ h => h) (yields (by rfl) (fun w => by kernel_rfl)) hT2 ?_
  simp only [Act.put, List.setIfInBounds_toArray, List.set_cons_zero, List.set_cons_succ]
  refine takeAt 11 37 (.bool true) rfl rfl (by kernel_rfl) (by kernel_rfl) (by kernel_rfl) (fun _ _ _ h => h) (yields (by rfl) (fun w => by kernel_rfl)) hT2 ?_
  simp only [Act.put, List.setIfInBounds_toArray, List.set_cons_zero, List.set_cons_succ]
  refine takeAt 12 38 (.bool true) rfl rfl (by kernel_rfl) (by kernel_rfl) (by kernel_rfl) (fun _ _ _ h => h) (yields (by rfl) (fun w => by kernel_rfl)) hT2 ?_
  simp only [Act.put, List.setIfInBounds_toArray, List.set_cons_zero, List.set_cons_succ]
  refine takeAt 13 39 (setV (foldS S)) rfl rfl (by kernel_rfl) (by kernel_rfl) (by kernel_rfl) (fun _ _ _ h => h) (load_yields rfl rfl List.mem_cons_self (by rfl)) hT2 ?_
  simp only [Act.put, List.setIfInBounds_toArray, List.set_cons_zero, List.set_cons_succ]
  refine takeAt 14 40 (.int .u8 c) rfl rfl (by kernel_rfl) (by kernel_rfl) (by kernel_rfl) (fun _ _ _ h => h) (yields (by rfl) (fun w => by kernel_rfl)) hT2 ?_
  simp only [Act.put, List.setIfInBounds_toArray, List.set_cons_zero, List.set_cons_succ]
  refine takeAt 16 42 (setV (foldS S)) rfl rfl (by kernel_rfl) (by kernel_rfl) (by kernel_rfl) (fun _ _ _ h => h) (load_yields rfl rfl List.mem_cons_self (by rfl)) hT2 ?_
  simp only [Act.put, List.setIfInBounds_toArray, List.set_cons_zero, List.set_cons_succ]
  refine takeAt 17 43 (.int .u8 c) rfl rfl (by kernel_rfl) (by kernel_rfl) (by kernel_rfl) (fun _ _ _ h => h) (yields (by rfl) (fun w => by kernel_rfl)) hT2 ?_
  simp only [Act.put, List.setIfInBounds_toArray, List.set_cons_zero, List.set_cons_succ]
  refine callAt 15 41 rfl rfl (by kernel_rfl) (by rfl) (by kernel_rfl) (has_k (foldS S) _ c true _ rfl (by omega) f1) ?_
  rintro e w' ⟨rfl, hb⟩
  refine ⟨_, rfl, hT2.call hb, ?_⟩
  have hT3 := hT2.call hb
  clear hT2 hb
  simp only [Act.put, List.setIfInBounds_toArray, List.set_cons_zero, List.set_cons_succ]
  refine callAt 18 44 rfl rfl (by kernel_rfl) (by rfl) (by kernel_rfl) (has_k (foldS S) _ c true _ rfl (by omega) f1) ?_
  rintro e w' ⟨rfl, hb⟩
  refine ⟨_, rfl, hT3.call hb, ?_⟩
  have hT4 := hT3.call hb
  clear hT3 hb
  simp only [Act.put, List.setIfInBounds_toArray, List.set_cons_zero, List.set_cons_succ]
  refine takeAt 19 45 (.bool true) rfl rfl (by kernel_rfl) (by kernel_rfl) (by kernel_rfl) (fun _ _ _ h => h) (yields (by rfl) (fun w => by kernel_rfl)) hT4 ?_
  simp only [Act.put, List.setIfInBounds_toArray, List.set_cons_zero, List.set_cons_succ]
  refine takeAt 20 46 (.bool true) rfl rfl (by kernel_rfl) (by kernel_rfl) (by kernel_rfl) (fun _ _ _ h => h) (yields (by rfl) (fun w => by kernel_rfl)) hT4 ?_
  simp only [Act.put, List.setIfInBounds_toArray, List.set_cons_zero, List.set_cons_succ]
  refine takeAt 21 47 (.bool true) rfl rfl (by kernel_rfl) (by kernel_rfl) (by kernel_rfl) (fun _ _ _ h => h) (yields (by rfl) (fun w => by kernel_rfl)) hT4 ?_
  simp only [Act.put, List.setIfInBounds_toArray, List.set_cons_zero, List.set_cons_succ]
  refine callAt 22 48 rfl rfl (by kernel_rfl) (by rfl) (by kernel_rfl) (hT4.fix HF.out) ?_
  rintro e w' ⟨rfl, hb⟩
  refine ⟨_, rfl, hT4.call hb, ?_⟩
  have hT5 := hT4.call hb
  clear hT4 hb
  simp only [Act.put, List.setIfInBounds_toArray, List.set_cons_zero, List.set_cons_succ]
  refine takeAt 23 49 (.bool true) rfl rfl (by kernel_rfl) (by kernel_rfl) (by kernel_rfl) (fun _ _ _ h => h) (yields (by rfl) (fun w => by kernel_rfl)) hT5 ?_
  simp only [Act.put, List.setIfInBounds_toArray, List.set_cons_zero, List.set_cons_succ]
  refine takeAt 24 4 (.bool true) rfl rfl (by kernel_rfl) (by kernel_rfl) (by kernel_rfl) (fun _ _ _ h => h) (yields (by rfl) (fun w => by kernel_rfl)) hT5 ?_
  simp only [Act.put, List.setIfInBounds_toArray, List.set_cons_zero, List.set_cons_succ]
  refine wpAnyH_done (by kernel_rfl) ?_ _
  go_wp2
  go_ret
  exact ⟨rfl, hT5.2.1⟩

set_option maxHeartbeats 4000000 in
set_option maxRecDepth 100000 in
theorem classFolds_noCFF (hfix : FixedOk) (S : BitVec 256) (c : Nat) (w : World) (ht : TabOk w) (hc : c < 256) (k1 : 122 < c) (hx : mem S c = false) (f1 : mem (foldS S) c = false) :
    Calls Tryd.prog 9 #[setV S, .int .u8 c] w fun e w' => e = .returned (.bool true) ∧ Below w.heap.size w w' := by
  have HF := Lib.hid hfix
  have HT := Lib.hid ht
  have HX := Lib.hid hx
  have H1 := Lib.hid f1
  clear hfix ht hx f1
  go_enter Tryd.func9, Tryd.ntmps9
  go_wp2_with fail
  refine (fold_any S _).mono ?_
  rintro e w1 ⟨rfl, hb⟩
  have hS := ((((Held.start HT.out).new S).call hb).new (foldS S)).drew
  clear hb
  have HS := Lib.hid hS
  clear hS
  go_wp2_with fail
  have hS := HS.out
  have hx := HX.out
  have f1 := H1.out
  clear HS HX H1
  refine wp_region_held_drew (S := Held w [(w1.heap.size, foldS S), (w.heap.size, S)]) (by kernel_rfl) hS (fun _ => ?_)
  refine takeAt 0 26 (setV (foldS S)) rfl rfl (by kernel_rfl) (by kernel_rfl) (by kernel_rfl) (fun _ _ _ h => h) (load_yields rfl rfl List.mem_cons_self (by rfl)) hS ?_
  simp only [Act.put, List.setIfInBounds_toArray, List.set_cons_zero, List.set_cons_succ]
  refine takeAt 1 27 (.int .u8 c) rfl rfl (by kernel_rfl) (by kernel_rfl) (by kernel_rfl) (fun _ _ _ h => h) (yields (by rfl) (fun w => by kernel_rfl)) hS ?_
  simp only [Act.put, List.setIfInBounds_toArray, List.set_cons_zero, List.set_cons_succ]
  refine takeAt 3 29 (setV S) rfl rfl (by kernel_rfl) (by kernel_rfl) (by kernel_rfl) (fun _ _ _ h => h) (load_yields rfl rfl (List.mem_cons_of_mem _ List.mem_cons_self) (by rfl)) hS ?_
  simp only [Act.put, List.setIfInBounds_toArray, List.set_cons_zero, List.set_cons_succ]
  refine takeAt 4 30 (.int .u8 c) rfl rfl (by kernel_rfl) (by kernel_rfl) (by kernel_rfl) (fun _ _ _ h => h) (yields (by rfl) (fun w => by kernel_rfl)) hS ?_
  simp only [Act.put, List.setIfInBounds_toArray, List.set_cons_zero, List.set_cons_succ]
  refine callAt 2 28 rfl rfl (by kernel_rfl) (by rfl) (by kernel_rfl) (has_k (foldS S) _ c false _ rfl (by omega) f1) ?_
  rintro e w' ⟨rfl, hb⟩
  refine ⟨_, rfl, hS.call hb, ?_⟩
  have hT1 := hS.call hb
  clear hS hb
  simp only [Act.put, List.setIfInBounds_toArray, List.set_cons_zero, List.set_cons_succ]
  refine callAt 5 31 rfl rfl (by kernel_rfl) (by rfl) (by kernel_rfl) (has_k S _ c false _ rfl (by omega) hx) ?_
  rintro e w' ⟨rfl, hb⟩
  refine ⟨_, rfl, hT1.call hb, ?_⟩
  have hT2 := hT1.call hb
  clear hT1 hb
  simp only [Act.put, List.setIfInBounds_toArray, List.set_cons_zero, List.set_cons_succ]
  refine takeAt 6 32 (.bool false) rfl rfl (by kernel_rfl) (by kernel_rfl) (by kernel_rfl) (fun _ _ _ h => h) (yields (by rfl) (fun w => by kernel_rfl)) hT2 ?_
  simp only [Act.put, List.setIfInBounds_toArray, List.set_cons_zero, List.set_cons_succ]
  refine takeAt 7 33 (setV S) rfl rfl (by kernel_rfl) (by kernel_rfl) (by kernel_rfl) (fun _ _ _ h => h) (load_yields rfl rfl (List.mem_cons_of_mem _ List.mem_cons_self) (by rfl)) hT2 ?_
  simp only [Act.put, List.setIfInBounds_toArray, List.set_cons_zero, List.set_cons_succ]
  refine takeAt 8 34 (.int .u8 c) rfl rfl (by kernel_rfl) (by kernel_rfl) (by kernel_rfl) (fun _ _ _ h => h) (yields (by rfl) (fun w => by kernel_rfl)) hT2 ?_
  simp only [Act.put, List.setIfInBounds_toArray, List.set_cons_zero, List.set_cons_succ]
  refine callAt 9 35 rfl rfl (by kernel_rfl) (by rfl) (by kernel_rfl) (has_k S _ c false _ rfl (by omega) hx) ?_
  rintro e w' ⟨rfl, hb⟩
  refine ⟨_, rfl, hT2.call hb, ?_⟩
  have hT3 := hT2.call hb
  clear hT2 hb
  simp only [Act.put, List.setIfInBounds_toArray, List.set_cons_zero, List.set_cons_succ]
  refine takeAt 10 36 (.bool false) rfl rfl (by kernel_rfl) (by kernel_rfl) (by kernel_rfl) (fun _ _ _ h => h) (yields (by rfl) (fun w => by kernel_rfl)) hT3 ?_
  simp only [Act.put, List.setIfInBounds_toArray, List.set_cons_zero, List.set_cons_succ]
  refine takeAt 11 37 (.bool true) rfl rfl (by kernel_rfl) (by kernel_rfl) (by kernel_rfl) (fun _ _ _ h => h) (yields (by rfl) (fun w => by kernel_rfl)) hT3 ?_
  simp only [Act.put, List.setIfInBounds_toArray, List.set_cons_zero, List.set_cons_succ]
  refine takeAt 12 38 (.bool true) rfl rfl (by kernel_rfl) (by kernel_rfl) (by kernel_rfl) (fun _ _ _ h => h) (yields (by rfl) (fun w => by kernel_rfl)) hT3 ?_
  simp only [Act.put, List.setIfInBounds_toArray, List.set_cons_zero, List.set_cons_succ]
  refine takeAt 13 39 (setV (foldS S)) rfl rfl (by kernel_rfl) (by kernel_rfl) (by kernel_rfl) (fun _ _ _ h => h) (load_yields rfl rfl List.mem_cons_self (by rfl)) hT3 ?_
  simp only [Act.put, List.setIfInBounds_toArray, List.set_cons_zero, List.set_cons_succ]
  refine takeAt 14 40 (.int .u8 c) rfl rfl (by kernel_rfl) (by kernel_rfl) (by kernel_rfl) (fun _ _ _ h => h) (yields (by rfl) (fun w => by kernel_rfl)) hT3 ?_
  simp only [Act.put, List.setIfInBounds_toArray, List.set_cons_zero, List.set_cons_succ]
  refine takeAt 16 42 (setV (foldS S)) rfl rfl (by kernel_rfl) (by kernel_rfl) (by kernel_rfl) (fun _ _ _ h => h) (load_yields rfl rfl List.mem_cons_self (by rfl)) hT3 ?_
  simp only [Act.put, List.setIfInBounds_toArray, List.set_cons_zero, List.set_cons_succ]
  refine takeAt 17 43 (.int .u8 c) rfl rfl (by kernel_rfl) (by kernel_rfl) (by kernel_rfl) (fun _ _ _ h => h) (yields (by rfl) (fun w => by kernel_rfl)) hT3 ?_
  simp only [Act.put, List.setIfInBounds_toArray, List.set_cons_zero, List.set_cons_succ]
  refine callAt 15 41 rfl rfl (by kernel_rfl) (by rfl) (by kernel_rfl) (has_k (foldS S) _ c false _ rfl (by omega) f1) ?_
  rintro e w' ⟨rfl, hb⟩
  refine ⟨_, rfl, hT3.call hb, ?_⟩
  have hT4 := hT3.call hb
  clear hT3 hb
  simp only [Act.put, List.setIfInBounds_toArray, List.set_cons_zero, List.set_cons_succ]
  refine callAt 18 44 rfl rfl (by kernel_rfl) (by rfl) (by kernel_rfl) (has_k (foldS S) _ c false _ rfl (by omega) f1) ?_
  rintro e w' ⟨rfl, hb⟩
  refine ⟨_, rfl, hT4.call hb, ?_⟩
  have hT5 := hT4.call hb
  clear hT4 hb
  simp only [Act.put, List.setIfInBounds_toArray, List.set_cons_zero, List.set_cons_succ]
  refine takeAt 19 45 (.bool true) rfl rfl (by kernel_rfl) (by kernel_rfl) (by kernel_rfl) (fun _ _ _ h => h) (yields (by rfl) (fun w => by kernel_rfl)) hT5 ?_
  simp only [Act.put, List.setIfInBounds_toArray, List.set_cons_zero, List.set_cons_succ]
  refine takeAt 20 46 (.bool true) rfl rfl (by kernel_rfl) (by kernel_rfl) (by kernel_rfl) (fun _ _ _ h => h) (yields (by rfl) (fun w => by kernel_rfl)) hT5 ?_
  simp only [Act.put, List.setIfInBounds_toArray, List.set_cons_zero, List.set_cons_succ]
  refine takeAt 21 47 (.bool true) rfl rfl (by kernel_rfl) (by kernel_rfl) (by kernel_rfl) (fun _ _ _ h => h) (yields (by rfl) (fun w => by kernel_rfl)) hT5 ?_
  simp only [Act.put, List.setIfInBounds_toArray, List.set_cons_zero, List.set_cons_succ]
  refine callAt 22 48 rfl rfl (by kernel_rfl) (by rfl) (by kernel_rfl) (hT5.fix HF.out) ?_
  rintro e w' ⟨rfl, hb⟩
  refine ⟨_, rfl, hT5.call hb, ?_⟩
  have hT6 := hT5.call hb
  clear hT5 hb
  simp only [Act.put, List.setIfInBounds_toArray, List.set_cons_zero, List.set_cons_succ]
  refine takeAt 23 49 (.bool true) rfl rfl (by kernel_rfl) (by kernel_rfl) (by kernel_rfl) (fun _ _ _ h => h) (yields (by rfl) (fun w => by kernel_rfl)) hT6 ?_
  simp only [Act.put, List.setIfInBounds_toArray, List.set_cons_zero, List.set_cons_succ]
  refine takeAt 24 4 (.bool true) rfl rfl (by kernel_rfl) (by kernel_rfl) (by kernel_rfl) (fun _ _ _ h => h) (yields (by rfl) (fun w => by kernel_rfl)) hT6 ?_
  simp only [Act.put, List.setIfInBounds_toArray, List.set_cons_zero, List.set_cons_succ]
  refine wpAnyH_done (by kernel_rfl) ?_ _
  go_wp2
  go_ret
  exact ⟨rfl, hT6.2.1⟩

theorem classFolds_walk (hfix : FixedOk) (S : BitVec 256) (c : Nat) (w : World) (ht : TabOk w) (hc : c < 256) :
    Calls Tryd.prog 9 #[setV S, .int .u8 c] w fun e w' => e = .returned (.bool true) ∧ Below w.heap.size w w' := by
  have key : (97 ≤ c ∧ c ≤ 122 ∧ c = swap c + 32) ∨ (65 ≤ c ∧ c ≤ 90 ∧ swap c = c + 32) ∨ ((c < 65 ∨ (90 < c ∧ c < 97) ∨ 122 < c) ∧ swap c = c) := by
    by_cases h1 : 97 ≤ c ∧ c < 123
    · have e : swap c = c - 32 := if_pos h1
      left; omega
    · by_cases h2 : 65 ≤ c ∧ c < 91
      · have e : swap c = c + 32 := by unfold swap; rw [if_neg h1, if_pos h2]
        right; left; omega
      · have e : swap c = c := by unfold swap; rw [if_neg h1, if_neg h2]
        right; right; omega
  have HM := fold_mem S c (swap c) rfl
  have HN := fold_mem S (swap c) c (swap_swap c)
  rcases key with ⟨k1, k2, k3⟩ | ⟨k1, k2, k3⟩ | ⟨k1, k3⟩
  · cases hx : mem S c
    · cases hy : mem S (swap c)
      · exact classFolds_lowFF hfix S c (swap c) w ht hc (by omega) k1 k2 k3 hx hy (HM _ _ hx hy) (HN _ _ hy hx)
      · exact classFolds_lowFT hfix S c (swap c) w ht hc (by omega) k1 k2 k3 hx hy (HM _ _ hx hy) (HN _ _ hy hx)
    · exact classFolds_lowT hfix S c (swap c) w ht hc (by omega) k1 k2 k3 _ hx rfl (HM _ _ hx rfl) (by rw [HN _ _ rfl hx]; simp)
  · cases hx : mem S c
    · cases hy : mem S (swap c)
      · exact classFolds_upFF hfix S c (swap c) w ht hc (by omega) k1 k2 k3 hx hy (HM _ _ hx hy) (HN _ _ hy hx)
      · exact classFolds_upFT hfix S c (swap c) w ht hc (by omega) k1 k2 k3 hx hy (HM _ _ hx hy) (HN _ _ hy hx)
    · exact classFolds_upT hfix S c (swap c) w ht hc (by omega) k1 k2 k3 _ hx rfl (HM _ _ hx rfl) (by rw [HN _ _ rfl hx]; simp)
  · rw [k3] at HM
    cases hx : mem S c
    · rcases k1 with k1 | ⟨k1, k2⟩ | k1
      · exact classFolds_noAFF hfix S c w ht hc k1 hx (HM _ _ hx hx)
      · exact classFolds_noBFF hfix S c w ht hc k1 k2 hx (HM _ _ hx hx)
      · exact classFolds_noCFF hfix S c w ht hc k1 hx (HM _ _ hx hx)
    · rcases k1 with k1 | ⟨k1, k2⟩ | k1
      · exact classFolds_noAT hfix S c w ht hc k1 hx (HM _ _ hx hx)
      · exact classFolds_noBT hfix S c w ht hc k1 k2 hx (HM _ _ hx hx)
      · exact classFolds_noCT hfix S c w ht hc k1 hx (HM _ _ hx hx)
end Go.Proofs.YtobhhhopkkcdiaaDoor
