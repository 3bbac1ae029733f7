/-
  The calls whose answers the document fixes: all come out as it says.
-/
import Derived.Test.YtobhhhopkkcdiaaDoorRegion
namespace Go.Proofs.YtobhhhopkkcdiaaDoor
open Go.RowKit

/-- The set of b, c, d, x. -/
def S0 : BitVec 256 := ofBytes [98, 99, 100, 120]

theorem S0_ne : S0 ≠ 0#256 := by decide +kernel
theorem fx_min (w : World) (ht : TabOk w) : Calls Tryd.prog 11 #[setV S0] w fun e w' => e = .returned (.tuple #[.int .u8 98, .bool true]) ∧ Below w.heap.size w w' := by
  have h := min_yes S0 w S0_ne ht
  rwa [show minS S0 = 98 by decide +kernel] at h
theorem fx_min0 (w : World) : Calls Tryd.prog 11 #[.agg #[.int .u64 0, .int .u64 0, .int .u64 0, .int .u64 0]] w fun e w' => e = .returned (.tuple #[.int .u8 0, .bool false]) ∧ Below w.heap.size w w' := by
  have h := min_no 0#256 w rfl
  rwa [zeroV] at h
theorem Reads.lit (w : World) (a b c d : Nat) : Reads (w.alloc (.cells #[.int .u8 a, .int .u8 b, .int .u8 c, .int .u8 d] 53)) (.slice (some ⟨w.heap.size, 0, none⟩) 2 2) [(a, b), (c, d)] := by
  refine ⟨_, 2, rfl, Or.inr ⟨w.heap.size, by simp, rfl, fun i p hp => ?_⟩⟩
  match i, hp with
  | 0, hp => simp at hp; subst hp; simp
  | 1, hp => simp at hp; subst hp; simp
theorem Reads.lit0 (w : World) (g : Nat) (hg : w.heap.size = g) : Reads (w.alloc (.cells #[.int .u8 98, .int .u8 100, .int .u8 120, .int .u8 120] 53)) (.slice (some ⟨g, 0, none⟩) 2 2) [(98, 100), (120, 120)] := by
  subst hg
  exact Reads.lit w 98 100 120 120
theorem Reads.drew {w : World} {v : Value} {l : List (Nat × Nat)} (h : Reads w v l) : Reads w.drew v l := h
theorem fx_runs (w : World) (u v : Value) (hu : Reads w u (runs S0)) (hv : Reads w v [(98, 100), (120, 120)]) : Calls Tryd.prog 16 #[u, v] w fun e w' => e = .returned (.bool true) ∧ Below w.heap.size w w' := by
  have e : runs S0 = [(98, 100), (120, 120)] := by decide +kernel
  have h2 := runs_any w u v (runs S0) [(98, 100), (120, 120)] hu hv (by rw [e]; decide)
  rw [e] at h2
  simpa using h2

set_option maxHeartbeats 8000000 in
set_option maxRecDepth 100000 in
theorem fixed_any : FixedOk := by
  intro w ht
  have HT := Lib.hid ht
  clear ht
  go_enter Tryd.func28, Tryd.ntmps28
  go_wp2_with fail
  refine (of_k [98, 99, 100, 120] (by decide) _).mono ?_
  rintro e w1 ⟨rfl, hb⟩
  rw [show ofBytes [98, 99, 100, 120] = S0 from rfl]
  have H1 := Lib.hid (((Held.start HT.out).call hb).new S0)
  clear hb HT
  go_wp2_with fail
  refine (fx_min _ H1.out.2.2).mono ?_
  rintro e w2 ⟨rfl, hb⟩
  have H2 := Lib.hid (H1.out.call hb)
  clear hb H1
  go_wp2_with fail
  refine (fx_min0 _).mono ?_
  rintro e w3 ⟨rfl, hb⟩
  have H3 := Lib.hid (H2.out.call hb).drew
  clear hb H2
  go_wp2_with fail
  simp only [List.append_eq, List.cons_append, List.nil_append]
  have hS := H3.out
  clear H3
  refine wp_region_held_drew (S := Held w [(w1.heap.size, S0)]) (by kernel_rfl) hS (fun _ => ?_)
  refine takeAt 0 17 (setV S0) rfl rfl (by kernel_rfl) (by kernel_rfl) (by kernel_rfl) (fun _ _ _ h => h) (load_yields rfl rfl List.mem_cons_self (by rfl)) hS ?_
  simp only [Act.put, List.setIfInBounds_toArray, List.set_cons_zero, List.set_cons_succ]
  refine takeAt 2 19 (.agg #[.int .u8 98, .int .u8 100]) rfl rfl (by kernel_rfl) (by kernel_rfl) (by kernel_rfl) (fun _ _ _ h => h) (yields (by rfl) (fun w => by kernel_rfl)) hS ?_
  simp only [Act.put, List.setIfInBounds_toArray, List.set_cons_zero, List.set_cons_succ]
  refine takeAt 3 20 (.agg #[.int .u8 120, .int .u8 120]) rfl rfl (by kernel_rfl) (by kernel_rfl) (by kernel_rfl) (fun _ _ _ h => h) (yields (by rfl) (fun w => by kernel_rfl)) hS ?_
  simp only [Act.put, List.setIfInBounds_toArray, List.set_cons_zero, List.set_cons_succ]
  refine wpAnyH_ready (rs := [1, 4]) (by kernel_rfl) (by simp) (AllReadyH.cons rfl (callStep 1 18 rfl (by rfl) (by kernel_rfl) (ranges_any S0 _) ?_) (AllReadyH.cons rfl (valStep 4 21 (.slice (some ⟨w3.heap.size, 0, none⟩) 2 2) (w3.drew.alloc (.cells #[.int .u8 98, .int .u8 100, .int .u8 120, .int .u8 120] 53)) rfl (by rfl) (by kernel_rfl) (hS.alloc _) ?_) AllReadyH.nil))
  · rintro e w4 ⟨v, rfl, HR0, hb⟩
    refine ⟨_, rfl, hS.call hb, ?_⟩
    have hA := hS.call hb
    clear hb hS
    simp only [Act.put, List.setIfInBounds_toArray, List.set_cons_zero, List.set_cons_succ]
    refine wpAnyH_ready (rs := [4]) (by kernel_rfl) (by simp) (AllReadyH.cons rfl (valStep 4 21 (.slice (some ⟨w4.heap.size, 0, none⟩) 2 2) (w4.alloc (.cells #[.int .u8 98, .int .u8 100, .int .u8 120, .int .u8 120] 53)) rfl (by rfl) (by kernel_rfl) (hA.alloc _) ?_) AllReadyH.nil)
    have HR := HR0.alloc (.cells #[.int .u8 98, .int .u8 100, .int .u8 120, .int .u8 120] 53)
    have HL := Reads.lit0 w4 _ rfl
    have hB := hA.alloc (.cells #[.int .u8 98, .int .u8 100, .int .u8 120, .int .u8 120] 53)
    clear hA HR0
    simp only [Act.put, List.setIfInBounds_toArray, List.set_cons_zero, List.set_cons_succ]
    as_aux_lemma =>
      refine callAt 5 22 rfl rfl (by kernel_rfl) (by rfl) (by kernel_rfl) (fx_runs _ _ _ HR HL) ?_
      rintro e w' ⟨rfl, hb⟩
      refine ⟨_, rfl, hB.call hb, ?_⟩
      have hT1 := hB.call hb
      clear hB hb
      simp only [Act.put, List.setIfInBounds_toArray, List.set_cons_zero, List.set_cons_succ]
      refine takeAt 6 23 (.bool true) rfl rfl (by kernel_rfl) (by kernel_rfl) (by kernel_rfl) (fun _ _ _ h => h) (yields (by rfl) (fun w => by kernel_rfl)) hT1 ?_
      simp only [Act.put, List.setIfInBounds_toArray, List.set_cons_zero, List.set_cons_succ]
      refine takeAt 7 24 (setV S0) rfl rfl (by kernel_rfl) (by kernel_rfl) (by kernel_rfl) (fun _ _ _ h => h) (load_yields rfl rfl List.mem_cons_self (by rfl)) hT1 ?_
      simp only [Act.put, List.setIfInBounds_toArray, List.set_cons_zero, List.set_cons_succ]
      refine callAt 8 25 rfl rfl (by kernel_rfl) (by rfl) (by kernel_rfl) (lenZ_k S0 4 _ (by decide +kernel)) ?_
      rintro e w' ⟨rfl, hb⟩
      refine ⟨_, rfl, hT1.call hb, ?_⟩
      have hT2 := hT1.call hb
      clear hT1 hb
      simp only [Act.put, List.setIfInBounds_toArray, List.set_cons_zero, List.set_cons_succ]
      refine takeAt 9 26 (.bool true) rfl rfl (by kernel_rfl) (by kernel_rfl) (by kernel_rfl) (fun _ _ _ h => h) (yields (by rfl) (fun w => by kernel_rfl)) hT2 ?_
      simp only [Act.put, List.setIfInBounds_toArray, List.set_cons_zero, List.set_cons_succ]
      refine takeAt 10 27 (.bool true) rfl rfl (by kernel_rfl) (by kernel_rfl) (by kernel_rfl) (fun _ _ _ h => h) (yields (by rfl) (fun w => by kernel_rfl)) hT2 ?_
      simp only [Act.put, List.setIfInBounds_toArray, List.set_cons_zero, List.set_cons_succ]
      refine takeAt 11 28 (.bool true) rfl rfl (by kernel_rfl) (by kernel_rfl) (by kernel_rfl) (fun _ _ _ h => h) (yields (by rfl) (fun w => by kernel_rfl)) hT2 ?_
      simp only [Act.put, List.setIfInBounds_toArray, List.set_cons_zero, List.set_cons_succ]
      refine takeAt 12 29 (.int .u8 98) rfl rfl (by kernel_rfl) (by kernel_rfl) (by kernel_rfl) (fun _ _ _ h => h) (yields (by rfl) (fun w => by kernel_rfl)) hT2 ?_
      simp only [Act.put, List.setIfInBounds_toArray, List.set_cons_zero, List.set_cons_succ]
      refine takeAt 13 30 (.bool true) rfl rfl (by kernel_rfl) (by kernel_rfl) (by kernel_rfl) (fun _ _ _ h => h) (yields (by rfl) (fun w => by kernel_rfl)) hT2 ?_
      simp only [Act.put, List.setIfInBounds_toArray, List.set_cons_zero, List.set_cons_succ]
      refine takeAt 14 31 (.bool true) rfl rfl (by kernel_rfl) (by kernel_rfl) (by kernel_rfl) (fun _ _ _ h => h) (yields (by rfl) (fun w => by kernel_rfl)) hT2 ?_
      simp only [Act.put, List.setIfInBounds_toArray, List.set_cons_zero, List.set_cons_succ]
      refine takeAt 15 32 (.bool true) rfl rfl (by kernel_rfl) (by kernel_rfl) (by kernel_rfl) (fun _ _ _ h => h) (yields (by rfl) (fun w => by kernel_rfl)) hT2 ?_
      simp only [Act.put, List.setIfInBounds_toArray, List.set_cons_zero, List.set_cons_succ]
      refine takeAt 16 33 (.bool true) rfl rfl (by kernel_rfl) (by kernel_rfl) (by kernel_rfl) (fun _ _ _ h => h) (yields (by rfl) (fun w => by kernel_rfl)) hT2 ?_
      simp only [Act.put, List.setIfInBounds_toArray, List.set_cons_zero, List.set_cons_succ]
      as_aux_lemma =>
        refine takeAt 17 34 (.bool true) rfl rfl (by kernel_rfl) (by kernel_rfl) (by kernel_rfl) (fun _ _ _ h => h) (yields (by rfl) (fun w => by kernel_rfl)) hT2 ?_
        simp only [Act.put, List.setIfInBounds_toArray, List.set_cons_zero, List.set_cons_succ]
        refine takeAt 18 35 (.bool true) rfl rfl (by kernel_rfl) (by kernel_rfl) (by kernel_rfl) (fun _ _ _ h => h) (yields (by rfl) (fun w => by kernel_rfl)) hT2 ?_
        simp only [Act.put, List.setIfInBounds_toArray, List.set_cons_zero, List.set_cons_succ]
        refine takeAt 19 36 (.bool false) rfl rfl (by kernel_rfl) (by kernel_rfl) (by kernel_rfl) (fun _ _ _ h => h) (yields (by rfl) (fun w => by kernel_rfl)) hT2 ?_
        simp only [Act.put, List.setIfInBounds_toArray, List.set_cons_zero, List.set_cons_succ]
        refine takeAt 20 37 (.bool true) rfl rfl (by kernel_rfl) (by kernel_rfl) (by kernel_rfl) (fun _ _ _ h => h) (yields (by rfl) (fun w => by kernel_rfl)) hT2 ?_
        simp only [Act.put, List.setIfInBounds_toArray, List.set_cons_zero, List.set_cons_succ]
        refine takeAt 21 38 (.bool true) rfl rfl (by kernel_rfl) (by kernel_rfl) (by kernel_rfl) (fun _ _ _ h => h) (yields (by rfl) (fun w => by kernel_rfl)) hT2 ?_
        simp only [Act.put, List.setIfInBounds_toArray, List.set_cons_zero, List.set_cons_succ]
        refine takeAt 22 39 (.bool true) rfl rfl (by kernel_rfl) (by kernel_rfl) (by kernel_rfl) (fun _ _ _ h => h) (yields (by rfl) (fun w => by kernel_rfl)) hT2 ?_
        simp only [Act.put, List.setIfInBounds_toArray, List.set_cons_zero, List.set_cons_succ]
        refine takeAt 23 40 (setV S0) rfl rfl (by kernel_rfl) (by kernel_rfl) (by kernel_rfl) (fun _ _ _ h => h) (load_yields rfl rfl List.mem_cons_self (by rfl)) hT2 ?_
        simp only [Act.put, List.setIfInBounds_toArray, List.set_cons_zero, List.set_cons_succ]
        refine callAt 24 41 rfl rfl (by kernel_rfl) (by rfl) (by kernel_rfl) (has_k S0 _ 100 true _ rfl (by decide) (by decide +kernel)) ?_
        rintro e w' ⟨rfl, hb⟩
        refine ⟨_, rfl, hT2.call hb, ?_⟩
        have hT3 := hT2.call hb
        clear hT2 hb
        simp only [Act.put, List.setIfInBounds_toArray, List.set_cons_zero, List.set_cons_succ]
        refine takeAt 25 42 (.bool true) rfl rfl (by kernel_rfl) (by kernel_rfl) (by kernel_rfl) (fun _ _ _ h => h) (yields (by rfl) (fun w => by kernel_rfl)) hT3 ?_
        simp only [Act.put, List.setIfInBounds_toArray, List.set_cons_zero, List.set_cons_succ]
        refine takeAt 26 43 (.bool true) rfl rfl (by kernel_rfl) (by kernel_rfl) (by kernel_rfl) (fun _ _ _ h => h) (yields (by rfl) (fun w => by kernel_rfl)) hT3 ?_
        simp only [Act.put, List.setIfInBounds_toArray, List.set_cons_zero, List.set_cons_succ]
        refine takeAt 27 44 (setV S0) rfl rfl (by kernel_rfl) (by kernel_rfl) (by kernel_rfl) (fun _ _ _ h => h) (load_yields rfl rfl List.mem_cons_self (by rfl)) hT3 ?_
        simp only [Act.put, List.setIfInBounds_toArray, List.set_cons_zero, List.set_cons_succ]
        refine callAt 28 45 rfl rfl (by kernel_rfl) (by rfl) (by kernel_rfl) (has_k S0 _ 97 false _ rfl (by decide) (by decide +kernel)) ?_
        rintro e w' ⟨rfl, hb⟩
        refine ⟨_, rfl, hT3.call hb, ?_⟩
        have hT4 := hT3.call hb
        clear hT3 hb
        simp only [Act.put, List.setIfInBounds_toArray, List.set_cons_zero, List.set_cons_succ]
        as_aux_lemma =>
          refine takeAt 29 46 (.bool true) rfl rfl (by kernel_rfl) (by kernel_rfl) (by kernel_rfl) (fun _ _ _ h => h) (yields (by rfl) (fun w => by kernel_rfl)) hT4 ?_
          simp only [Act.put, List.setIfInBounds_toArray, List.set_cons_zero, List.set_cons_succ]
          refine takeAt 30 47 (.bool true) rfl rfl (by kernel_rfl) (by kernel_rfl) (by kernel_rfl) (fun _ _ _ h => h) (yields (by rfl) (fun w => by kernel_rfl)) hT4 ?_
          simp only [Act.put, List.setIfInBounds_toArray, List.set_cons_zero, List.set_cons_succ]
          refine takeAt 31 48 (.bool true) rfl rfl (by kernel_rfl) (by kernel_rfl) (by kernel_rfl) (fun _ _ _ h => h) (yields (by rfl) (fun w => by kernel_rfl)) hT4 ?_
          simp only [Act.put, List.setIfInBounds_toArray, List.set_cons_zero, List.set_cons_succ]
          refine callAt 32 49 rfl rfl (by kernel_rfl) (by rfl) (by kernel_rfl) (all_k _) ?_
          rintro e w' ⟨rfl, hb⟩
          refine ⟨_, rfl, hT4.call hb, ?_⟩
          have hT5 := hT4.call hb
          clear hT4 hb
          simp only [Act.put, List.setIfInBounds_toArray, List.set_cons_zero, List.set_cons_succ]
          refine callAt 33 50 rfl rfl (by kernel_rfl) (by rfl) (by kernel_rfl) (lenZ_k allS 256 _ (by decide +kernel)) ?_
          rintro e w' ⟨rfl, hb⟩
          refine ⟨_, rfl, hT5.call hb, ?_⟩
          have hT6 := hT5.call hb
          clear hT5 hb
          simp only [Act.put, List.setIfInBounds_toArray, List.set_cons_zero, List.set_cons_succ]
          refine takeAt 34 51 (.bool true) rfl rfl (by kernel_rfl) (by kernel_rfl) (by kernel_rfl) (fun _ _ _ h => h) (yields (by rfl) (fun w => by kernel_rfl)) hT6 ?_
          simp only [Act.put, List.setIfInBounds_toArray, List.set_cons_zero, List.set_cons_succ]
          refine takeAt 35 52 (.bool true) rfl rfl (by kernel_rfl) (by kernel_rfl) (by kernel_rfl) (fun _ _ _ h => h) (yields (by rfl) (fun w => by kernel_rfl)) hT6 ?_
          simp only [Act.put, List.setIfInBounds_toArray, List.set_cons_zero, List.set_cons_succ]
          refine takeAt 36 53 (.bool true) rfl rfl (by kernel_rfl) (by kernel_rfl) (by kernel_rfl) (fun _ _ _ h => h) (yields (by rfl) (fun w => by kernel_rfl)) hT6 ?_
          simp only [Act.put, List.setIfInBounds_toArray, List.set_cons_zero, List.set_cons_succ]
          refine callAt 37 54 rfl rfl (by kernel_rfl) (by rfl) (by kernel_rfl) (range_k _ _ 97 99 _ rfl rfl (by decide) (by decide)) ?_
          rintro e w' ⟨rfl, hb⟩
          refine ⟨_, rfl, hT6.call hb, ?_⟩
          have hT7 := hT6.call hb
          clear hT6 hb
          simp only [Act.put, List.setIfInBounds_toArray, List.set_cons_zero, List.set_cons_succ]
          refine callAt 38 55 rfl rfl (by kernel_rfl) (by rfl) (by kernel_rfl) (of_k [97, 98, 99] (by decide) _) ?_
          rintro e w' ⟨rfl, hb⟩
          refine ⟨_, rfl, hT7.call hb, ?_⟩
          have hT8 := hT7.call hb
          clear hT7 hb
          simp only [Act.put, List.setIfInBounds_toArray, List.set_cons_zero, List.set_cons_succ]
          refine takeAt 39 56 (.bool true) rfl rfl (by kernel_rfl) (by kernel_rfl) (by kernel_rfl) (fun _ _ _ h => h) (eq_yields true rfl rfl rfl (show eqS (span 97 100) (ofBytes [97, 98, 99]) = true by decide +kernel) (by rfl)) hT8 ?_
          simp only [Act.put, List.setIfInBounds_toArray, List.set_cons_zero, List.set_cons_succ]
          refine takeAt 40 57 (.bool true) rfl rfl (by kernel_rfl) (by kernel_rfl) (by kernel_rfl) (fun _ _ _ h => h) (yields (by rfl) (fun w => by kernel_rfl)) hT8 ?_
          simp only [Act.put, List.setIfInBounds_toArray, List.set_cons_zero, List.set_cons_succ]
          as_aux_lemma =>
            refine takeAt 41 58 (.bool true) rfl rfl (by kernel_rfl) (by kernel_rfl) (by kernel_rfl) (fun _ _ _ h => h) (yields (by rfl) (fun w => by kernel_rfl)) hT8 ?_
            simp only [Act.put, List.setIfInBounds_toArray, List.set_cons_zero, List.set_cons_succ]
            refine takeAt 43 60 (.agg #[.int .u64 0, .int .u64 0, .int .u64 0, .int .u64 0]) rfl rfl (by kernel_rfl) (by kernel_rfl) (by kernel_rfl) (fun _ _ _ h => h) (yields (by rfl) (fun w => by kernel_rfl)) hT8 ?_
            simp only [Act.put, List.setIfInBounds_toArray, List.set_cons_zero, List.set_cons_succ]
            refine callAt 42 59 rfl rfl (by kernel_rfl) (by rfl) (by kernel_rfl) (range_k _ _ 99 97 _ rfl rfl (by decide) (by decide)) ?_
            rintro e w' ⟨rfl, hb⟩
            refine ⟨_, rfl, hT8.call hb, ?_⟩
            have hT9 := hT8.call hb
            clear hT8 hb
            simp only [Act.put, List.setIfInBounds_toArray, List.set_cons_zero, List.set_cons_succ]
            refine takeAt 44 61 (.bool true) rfl rfl (by kernel_rfl) (by kernel_rfl) (by kernel_rfl) (fun _ _ _ h => h) (eq_yields true rfl rfl (show _ = setV zeroS by kernel_rfl) (show eqS (span 99 98) zeroS = true by decide +kernel) (by rfl)) hT9 ?_
            simp only [Act.put, List.setIfInBounds_toArray, List.set_cons_zero, List.set_cons_succ]
            refine takeAt 45 62 (.bool true) rfl rfl (by kernel_rfl) (by kernel_rfl) (by kernel_rfl) (fun _ _ _ h => h) (yields (by rfl) (fun w => by kernel_rfl)) hT9 ?_
            simp only [Act.put, List.setIfInBounds_toArray, List.set_cons_zero, List.set_cons_succ]
            refine takeAt 46 63 (.bool true) rfl rfl (by kernel_rfl) (by kernel_rfl) (by kernel_rfl) (fun _ _ _ h => h) (yields (by rfl) (fun w => by kernel_rfl)) hT9 ?_
            simp only [Act.put, List.setIfInBounds_toArray, List.set_cons_zero, List.set_cons_succ]
            refine callAt 47 64 rfl rfl (by kernel_rfl) (by rfl) (by kernel_rfl) (oneAt_k _ 120 _ rfl (by decide)) ?_
            rintro e w' ⟨rfl, hb⟩
            refine ⟨_, rfl, hT9.call hb, ?_⟩
            have hT10 := hT9.call hb
            clear hT9 hb
            simp only [Act.put, List.setIfInBounds_toArray, List.set_cons_zero, List.set_cons_succ]
            refine callAt 48 65 rfl rfl (by kernel_rfl) (by rfl) (by kernel_rfl) (of_k [120, 120] (by decide) _) ?_
            rintro e w' ⟨rfl, hb⟩
            refine ⟨_, rfl, hT10.call hb, ?_⟩
            have hT11 := hT10.call hb
            clear hT10 hb
            simp only [Act.put, List.setIfInBounds_toArray, List.set_cons_zero, List.set_cons_succ]
            refine takeAt 49 66 (.bool true) rfl rfl (by kernel_rfl) (by kernel_rfl) (by kernel_rfl) (fun _ _ _ h => h) (eq_yields true rfl rfl rfl (show eqS (oneS 120) (ofBytes [120, 120]) = true by decide +kernel) (by rfl)) hT11 ?_
            simp only [Act.put, List.setIfInBounds_toArray, List.set_cons_zero, List.set_cons_succ]
            refine takeAt 50 67 (.bool true) rfl rfl (by kernel_rfl) (by kernel_rfl) (by kernel_rfl) (fun _ _ _ h => h) (yields (by rfl) (fun w => by kernel_rfl)) hT11 ?_
            simp only [Act.put, List.setIfInBounds_toArray, List.set_cons_zero, List.set_cons_succ]
            refine takeAt 51 68 (.bool true) rfl rfl (by kernel_rfl) (by kernel_rfl) (by kernel_rfl) (fun _ _ _ h => h) (yields (by rfl) (fun w => by kernel_rfl)) hT11 ?_
            simp only [Act.put, List.setIfInBounds_toArray, List.set_cons_zero, List.set_cons_succ]
            refine takeAt 52 69 (setV S0) rfl rfl (by kernel_rfl) (by kernel_rfl) (by kernel_rfl) (fun _ _ _ h => h) (load_yields rfl rfl List.mem_cons_self (by rfl)) hT11 ?_
            simp only [Act.put, List.setIfInBounds_toArray, List.set_cons_zero, List.set_cons_succ]
            as_aux_lemma =>
              refine callAt 53 70 rfl rfl (by kernel_rfl) (by rfl) (by kernel_rfl) (not_k S0 _) ?_
              rintro e w' ⟨rfl, hb⟩
              refine ⟨_, rfl, hT11.call hb, ?_⟩
              have hT12 := hT11.call hb
              clear hT11 hb
              simp only [Act.put, List.setIfInBounds_toArray, List.set_cons_zero, List.set_cons_succ]
              refine callAt 54 71 rfl rfl (by kernel_rfl) (by rfl) (by kernel_rfl) (lenZ_k (notS S0) 252 _ (by decide +kernel)) ?_
              rintro e w' ⟨rfl, hb⟩
              refine ⟨_, rfl, hT12.call hb, ?_⟩
              have hT13 := hT12.call hb
              clear hT12 hb
              simp only [Act.put, List.setIfInBounds_toArray, List.set_cons_zero, List.set_cons_succ]
              refine takeAt 55 72 (.bool true) rfl rfl (by kernel_rfl) (by kernel_rfl) (by kernel_rfl) (fun _ _ _ h => h) (yields (by rfl) (fun w => by kernel_rfl)) hT13 ?_
              simp only [Act.put, List.setIfInBounds_toArray, List.set_cons_zero, List.set_cons_succ]
              refine takeAt 56 73 (.bool true) rfl rfl (by kernel_rfl) (by kernel_rfl) (by kernel_rfl) (fun _ _ _ h => h) (yields (by rfl) (fun w => by kernel_rfl)) hT13 ?_
              simp only [Act.put, List.setIfInBounds_toArray, List.set_cons_zero, List.set_cons_succ]
              refine takeAt 57 74 (.bool true) rfl rfl (by kernel_rfl) (by kernel_rfl) (by kernel_rfl) (fun _ _ _ h => h) (yields (by rfl) (fun w => by kernel_rfl)) hT13 ?_
              simp only [Act.put, List.setIfInBounds_toArray, List.set_cons_zero, List.set_cons_succ]
              refine takeAt 58 75 (setV S0) rfl rfl (by kernel_rfl) (by kernel_rfl) (by kernel_rfl) (fun _ _ _ h => h) (load_yields rfl rfl List.mem_cons_self (by rfl)) hT13 ?_
              simp only [Act.put, List.setIfInBounds_toArray, List.set_cons_zero, List.set_cons_succ]
              refine callAt 59 76 rfl rfl (by kernel_rfl) (by rfl) (by kernel_rfl) (fold_any S0 _) ?_
              rintro e w' ⟨rfl, hb⟩
              refine ⟨_, rfl, hT13.call hb, ?_⟩
              have hT14 := hT13.call hb
              clear hT13 hb
              simp only [Act.put, List.setIfInBounds_toArray, List.set_cons_zero, List.set_cons_succ]
              refine callAt 60 77 rfl rfl (by kernel_rfl) (by rfl) (by kernel_rfl) (lenZ_k (foldS S0) 8 _ (by decide +kernel)) ?_
              rintro e w' ⟨rfl, hb⟩
              refine ⟨_, rfl, hT14.call hb, ?_⟩
              have hT15 := hT14.call hb
              clear hT14 hb
              simp only [Act.put, List.setIfInBounds_toArray, List.set_cons_zero, List.set_cons_succ]
              refine takeAt 61 78 (.bool true) rfl rfl (by kernel_rfl) (by kernel_rfl) (by kernel_rfl) (fun _ _ _ h => h) (yields (by rfl) (fun w => by kernel_rfl)) hT15 ?_
              simp only [Act.put, List.setIfInBounds_toArray, List.set_cons_zero, List.set_cons_succ]
              refine takeAt 62 79 (.bool true) rfl rfl (by kernel_rfl) (by kernel_rfl) (by kernel_rfl) (fun _ _ _ h => h) (yields (by rfl) (fun w => by kernel_rfl)) hT15 ?_
              simp only [Act.put, List.setIfInBounds_toArray, List.set_cons_zero, List.set_cons_succ]
              refine takeAt 63 80 (.bool true) rfl rfl (by kernel_rfl) (by kernel_rfl) (by kernel_rfl) (fun _ _ _ h => h) (yields (by rfl) (fun w => by kernel_rfl)) hT15 ?_
              simp only [Act.put, List.setIfInBounds_toArray, List.set_cons_zero, List.set_cons_succ]
              refine takeAt 64 81 (setV S0) rfl rfl (by kernel_rfl) (by kernel_rfl) (by kernel_rfl) (fun _ _ _ h => h) (load_yields rfl rfl List.mem_cons_self (by rfl)) hT15 ?_
              simp only [Act.put, List.setIfInBounds_toArray, List.set_cons_zero, List.set_cons_succ]
              as_aux_lemma =>
                refine callAt 65 82 rfl rfl (by kernel_rfl) (by rfl) (by kernel_rfl) (fold_any S0 _) ?_
                rintro e w' ⟨rfl, hb⟩
                refine ⟨_, rfl, hT15.call hb, ?_⟩
                have hT16 := hT15.call hb
                clear hT15 hb
                simp only [Act.put, List.setIfInBounds_toArray, List.set_cons_zero, List.set_cons_succ]
                refine callAt 66 83 rfl rfl (by kernel_rfl) (by rfl) (by kernel_rfl) (has_k (foldS S0) _ 88 true _ rfl (by decide) (by decide +kernel)) ?_
                rintro e w' ⟨rfl, hb⟩
                refine ⟨_, rfl, hT16.call hb, ?_⟩
                have hT17 := hT16.call hb
                clear hT16 hb
                simp only [Act.put, List.setIfInBounds_toArray, List.set_cons_zero, List.set_cons_succ]
                refine takeAt 67 84 (.bool true) rfl rfl (by kernel_rfl) (by kernel_rfl) (by kernel_rfl) (fun _ _ _ h => h) (yields (by rfl) (fun w => by kernel_rfl)) hT17 ?_
                simp only [Act.put, List.setIfInBounds_toArray, List.set_cons_zero, List.set_cons_succ]
                refine takeAt 68 85 (.bool true) rfl rfl (by kernel_rfl) (by kernel_rfl) (by kernel_rfl) (fun _ _ _ h => h) (yields (by rfl) (fun w => by kernel_rfl)) hT17 ?_
                simp only [Act.put, List.setIfInBounds_toArray, List.set_cons_zero, List.set_cons_succ]
                refine takeAt 69 86 (setV S0) rfl rfl (by kernel_rfl) (by kernel_rfl) (by kernel_rfl) (fun _ _ _ h => h) (load_yields rfl rfl List.mem_cons_self (by rfl)) hT17 ?_
                simp only [Act.put, List.setIfInBounds_toArray, List.set_cons_zero, List.set_cons_succ]
                refine callAt 70 87 rfl rfl (by kernel_rfl) (by rfl) (by kernel_rfl) (oneAt_k _ 97 _ rfl (by decide)) ?_
                rintro e w' ⟨rfl, hb⟩
                refine ⟨_, rfl, hT17.call hb, ?_⟩
                have hT18 := hT17.call hb
                clear hT17 hb
                simp only [Act.put, List.setIfInBounds_toArray, List.set_cons_zero, List.set_cons_succ]
                refine callAt 71 88 rfl rfl (by kernel_rfl) (by rfl) (by kernel_rfl) (or_k S0 (oneS 97) _) ?_
                rintro e w' ⟨rfl, hb⟩
                refine ⟨_, rfl, hT18.call hb, ?_⟩
                have hT19 := hT18.call hb
                clear hT18 hb
                simp only [Act.put, List.setIfInBounds_toArray, List.set_cons_zero, List.set_cons_succ]
                refine callAt 72 89 rfl rfl (by kernel_rfl) (by rfl) (by kernel_rfl) (lenZ_k (orS S0 (oneS 97)) 5 _ (by decide +kernel)) ?_
                rintro e w' ⟨rfl, hb⟩
                refine ⟨_, rfl, hT19.call hb, ?_⟩
                have hT20 := hT19.call hb
                clear hT19 hb
                simp only [Act.put, List.setIfInBounds_toArray, List.set_cons_zero, List.set_cons_succ]
                refine takeAt 73 90 (.bool true) rfl rfl (by kernel_rfl) (by kernel_rfl) (by kernel_rfl) (fun _ _ _ h => h) (yields (by rfl) (fun w => by kernel_rfl)) hT20 ?_
                simp only [Act.put, List.setIfInBounds_toArray, List.set_cons_zero, List.set_cons_succ]
                refine takeAt 74 91 (.bool true) rfl rfl (by kernel_rfl) (by kernel_rfl) (by kernel_rfl) (fun _ _ _ h => h) (yields (by rfl) (fun w => by kernel_rfl)) hT20 ?_
                simp only [Act.put, List.setIfInBounds_toArray, List.set_cons_zero, List.set_cons_succ]
                refine takeAt 75 92 (.bool true) rfl rfl (by kernel_rfl) (by kernel_rfl) (by kernel_rfl) (fun _ _ _ h => h) (yields (by rfl) (fun w => by kernel_rfl)) hT20 ?_
                simp only [Act.put, List.setIfInBounds_toArray, List.set_cons_zero, List.set_cons_succ]
                refine takeAt 76 93 (setV S0) rfl rfl (by kernel_rfl) (by kernel_rfl) (by kernel_rfl) (fun _ _ _ h => h) (load_yields rfl rfl List.mem_cons_self (by rfl)) hT20 ?_
                simp only [Act.put, List.setIfInBounds_toArray, List.set_cons_zero, List.set_cons_succ]
                as_aux_lemma =>
                  refine callAt 77 94 rfl rfl (by kernel_rfl) (by rfl) (by kernel_rfl) (of_k [120, 121, 122] (by decide) _) ?_
                  rintro e w' ⟨rfl, hb⟩
                  refine ⟨_, rfl, hT20.call hb, ?_⟩
                  have hT21 := hT20.call hb
                  clear hT20 hb
                  simp only [Act.put, List.setIfInBounds_toArray, List.set_cons_zero, List.set_cons_succ]
                  refine callAt 78 95 rfl rfl (by kernel_rfl) (by rfl) (by kernel_rfl) (and_k S0 (ofBytes [120, 121, 122]) _) ?_
                  rintro e w' ⟨rfl, hb⟩
                  refine ⟨_, rfl, hT21.call hb, ?_⟩
                  have hT22 := hT21.call hb
                  clear hT21 hb
                  simp only [Act.put, List.setIfInBounds_toArray, List.set_cons_zero, List.set_cons_succ]
                  refine callAt 79 96 rfl rfl (by kernel_rfl) (by rfl) (by kernel_rfl) (oneAt_k _ 120 _ rfl (by decide)) ?_
                  rintro e w' ⟨rfl, hb⟩
                  refine ⟨_, rfl, hT22.call hb, ?_⟩
                  have hT23 := hT22.call hb
                  clear hT22 hb
                  simp only [Act.put, List.setIfInBounds_toArray, List.set_cons_zero, List.set_cons_succ]
                  refine takeAt 80 97 (.bool true) rfl rfl (by kernel_rfl) (by kernel_rfl) (by kernel_rfl) (fun _ _ _ h => h) (eq_yields true rfl rfl rfl (show eqS (andS S0 (ofBytes [120, 121, 122])) (oneS 120) = true by decide +kernel) (by rfl)) hT23 ?_
                  simp only [Act.put, List.setIfInBounds_toArray, List.set_cons_zero, List.set_cons_succ]
                  refine takeAt 81 98 (.bool true) rfl rfl (by kernel_rfl) (by kernel_rfl) (by kernel_rfl) (fun _ _ _ h => h) (yields (by rfl) (fun w => by kernel_rfl)) hT23 ?_
                  simp only [Act.put, List.setIfInBounds_toArray, List.set_cons_zero, List.set_cons_succ]
                  refine takeAt 82 0 (.bool true) rfl rfl (by kernel_rfl) (by kernel_rfl) (by kernel_rfl) (fun _ _ _ h => h) (yields (by rfl) (fun w => by kernel_rfl)) hT23 ?_
                  simp only [Act.put, List.setIfInBounds_toArray, List.set_cons_zero]
                  refine wpAnyH_done (by kernel_rfl) ?_ _
                  go_wp2
                  go_ret
                  exact ⟨rfl, hT23.2.1⟩
  · simp only [Act.put, List.setIfInBounds_toArray, List.set_cons_zero, List.set_cons_succ]
    have hA := hS.alloc (.cells #[.int .u8 98, .int .u8 100, .int .u8 120, .int .u8 120] 53)
    have HL0 := Reads.lit0 w3.drew _ rfl
    clear hS
    refine callAt 1 18 rfl rfl (by kernel_rfl) (by rfl) (by kernel_rfl) (ranges_any S0 _) ?_
    rintro e w4 ⟨v, rfl, HR, hb⟩
    refine ⟨_, rfl, hA.call hb, ?_⟩
    have hB := hA.call hb
    have HL := HL0.call hb
    clear hb hA HL0
    simp only [Act.put, List.setIfInBounds_toArray, List.set_cons_zero, List.set_cons_succ]
    as_aux_lemma =>
      refine callAt 5 22 rfl rfl (by kernel_rfl) (by rfl) (by kernel_rfl) (fx_runs _ _ _ HR HL) ?_
      rintro e w' ⟨rfl, hb⟩
      refine ⟨_, rfl, hB.call hb, ?_⟩
      have hT1 := hB.call hb
      clear hB hb
      simp only [Act.put, List.setIfInBounds_toArray, List.set_cons_zero, List.set_cons_succ]
      refine takeAt 6 23 (.bool true) rfl rfl (by kernel_rfl) (by kernel_rfl) (by kernel_rfl) (fun _ _ _ h => h) (yields (by rfl) (fun w => by kernel_rfl)) hT1 ?_
      simp only [Act.put, List.setIfInBounds_toArray, List.set_cons_zero, List.set_cons_succ]
      refine takeAt 7 24 (setV S0) rfl rfl (by kernel_rfl) (by kernel_rfl) (by kernel_rfl) (fun _ _ _ h => h) (load_yields rfl rfl List.mem_cons_self (by rfl)) hT1 ?_
      simp only [Act.put, List.setIfInBounds_toArray, List.set_cons_zero, List.set_cons_succ]
      refine callAt 8 25 rfl rfl (by kernel_rfl) (by rfl) (by kernel_rfl) (lenZ_k S0 4 _ (by decide +kernel)) ?_
      rintro e w' ⟨rfl, hb⟩
      refine ⟨_, rfl, hT1.call hb, ?_⟩
      have hT2 := hT1.call hb
      clear hT1 hb
      simp only [Act.put, List.setIfInBounds_toArray, List.set_cons_zero, List.set_cons_succ]
      refine takeAt 9 26 (.bool true) rfl rfl (by kernel_rfl) (by kernel_rfl) (by kernel_rfl) (fun _ _ _ h => h) (yields (by rfl) (fun w => by kernel_rfl)) hT2 ?_
      simp only [Act.put, List.setIfInBounds_toArray, List.set_cons_zero, List.set_cons_succ]
      refine takeAt 10 27 (.bool true) rfl rfl (by kernel_rfl) (by kernel_rfl) (by kernel_rfl) (fun _ _ _ h => h) (yields (by rfl) (fun w => by kernel_rfl)) hT2 ?_
      simp only [Act.put, List.setIfInBounds_toArray, List.set_cons_zero, List.set_cons_succ]
      refine takeAt 11 28 (.bool true) rfl rfl (by kernel_rfl) (by kernel_rfl) (by kernel_rfl) (fun _ _ _ h => h) (yields (by rfl) (fun w => by kernel_rfl)) hT2 ?_
      simp only [Act.put, List.setIfInBounds_toArray, List.set_cons_zero, List.set_cons_succ]
      refine takeAt 12 29 (.int .u8 98) rfl rfl (by kernel_rfl) (by kernel_rfl) (by kernel_rfl) (fun _ _ _ h => h) (yields (by rfl) (fun w => by kernel_rfl)) hT2 ?_
      simp only [Act.put, List.setIfInBounds_toArray, List.set_cons_zero, List.set_cons_succ]
      refine takeAt 13 30 (.bool true) rfl rfl (by kernel_rfl) (by kernel_rfl) (by kernel_rfl) (fun _ _ _ h => h) (yields (by rfl) (fun w => by kernel_rfl)) hT2 ?_
      simp only [Act.put, List.setIfInBounds_toArray, List.set_cons_zero, List.set_cons_succ]
      refine takeAt 14 31 (.bool true) rfl rfl (by kernel_rfl) (by kernel_rfl) (by kernel_rfl) (fun _ _ _ h => h) (yields (by rfl) (fun w => by kernel_rfl)) hT2 ?_
      simp only [Act.put, List.setIfInBounds_toArray, List.set_cons_zero, List.set_cons_succ]
      refine takeAt 15 32 (.bool true) rfl rfl (by kernel_rfl) (by kernel_rfl) (by kernel_rfl) (fun _ _ _ h => h) (yields (by rfl) (fun w => by kernel_rfl)) hT2 ?_
      simp only [Act.put, List.setIfInBounds_toArray, List.set_cons_zero, List.set_cons_succ]
      refine takeAt 16 33 (.bool true) rfl rfl (by kernel_rfl) (by kernel_rfl) (by kernel_rfl) (fun _ _ _ h => h) (yields (by rfl) (fun w => by kernel_rfl)) hT2 ?_
      simp only [Act.put, List.setIfInBounds_toArray, List.set_cons_zero, List.set_cons_succ]
      as_aux_lemma =>
        refine takeAt 17 34 (.bool true) rfl rfl (by kernel_rfl) (by kernel_rfl) (by kernel_rfl) (fun _ _ _ h => h) (yields (by rfl) (fun w => by kernel_rfl)) hT2 ?_
        simp only [Act.put, List.setIfInBounds_toArray, List.set_cons_zero, List.set_cons_succ]
        refine takeAt 18 35 (.bool true) rfl rfl (by kernel_rfl) (by kernel_rfl) (by kernel_rfl) (fun _ _ _ h => h) (yields (by rfl) (fun w => by kernel_rfl)) hT2 ?_
        simp only [Act.put, List.setIfInBounds_toArray, List.set_cons_zero, List.set_cons_succ]
        refine takeAt 19 36 (.bool false) rfl rfl (by kernel_rfl) (by kernel_rfl) (by kernel_rfl) (fun _ _ _ h => h) (yields (by rfl) (fun w => by kernel_rfl)) hT2 ?_
        simp only [Act.put, List.setIfInBounds_toArray, List.set_cons_zero, List.set_cons_succ]
        refine takeAt 20 37 (.bool true) rfl rfl (by kernel_rfl) (by kernel_rfl) (by kernel_rfl) (fun _ _ _ h => h) (yields (by rfl) (fun w => by kernel_rfl)) hT2 ?_
        simp only [Act.put, List.setIfInBounds_toArray, List.set_cons_zero, List.set_cons_succ]
        refine takeAt 21 38 (.bool true) rfl rfl (by kernel_rfl) (by kernel_rfl) (by kernel_rfl) (fun _ _ _ h => h) (yields (by rfl) (fun w => by kernel_rfl)) hT2 ?_
        simp only [Act.put, List.setIfInBounds_toArray, List.set_cons_zero, List.set_cons_succ]
        refine takeAt 22 39 (.bool true) rfl rfl (by kernel_rfl) (by kernel_rfl) (by kernel_rfl) (fun _ _ _ h => h) (yields (by rfl) (fun w => by kernel_rfl)) hT2 ?_
        simp only [Act.put, List.setIfInBounds_toArray, List.set_cons_zero, List.set_cons_succ]
        refine takeAt 23 40 (setV S0) rfl rfl (by kernel_rfl) (by kernel_rfl) (by kernel_rfl) (fun _ _ _ h => h) (load_yields rfl rfl List.mem_cons_self (by rfl)) hT2 ?_
        simp only [Act.put, List.setIfInBounds_toArray, List.set_cons_zero, List.set_cons_succ]
        refine callAt 24 41 rfl rfl (by kernel_rfl) (by rfl) (by kernel_rfl) (has_k S0 _ 100 true _ rfl (by decide) (by decide +kernel)) ?_
        rintro e w' ⟨rfl, hb⟩
        refine ⟨_, rfl, hT2.call hb, ?_⟩
        have hT3 := hT2.call hb
        clear hT2 hb
        simp only [Act.put, List.setIfInBounds_toArray, List.set_cons_zero, List.set_cons_succ]
        refine takeAt 25 42 (.bool true) rfl rfl (by kernel_rfl) (by kernel_rfl) (by kernel_rfl) (fun _ _ _ h => h) (yields (by rfl) (fun w => by kernel_rfl)) hT3 ?_
        simp only [Act.put, List.setIfInBounds_toArray, List.set_cons_zero, List.set_cons_succ]
        refine takeAt 26 43 (.bool true) rfl rfl (by kernel_rfl) (by kernel_rfl) (by kernel_rfl) (fun _ _ _ h => h) (yields (by rfl) (fun w => by kernel_rfl)) hT3 ?_
        simp only [Act.put, List.setIfInBounds_toArray, List.set_cons_zero, List.set_cons_succ]
        refine takeAt 27 44 (setV S0) rfl rfl (by kernel_rfl) (by kernel_rfl) (by kernel_rfl) (fun _ _ _ h => h) (load_yields rfl rfl List.mem_cons_self (by rfl)) hT3 ?_
        simp only [Act.put, List.setIfInBounds_toArray, List.set_cons_zero, List.set_cons_succ]
        refine callAt 28 45 rfl rfl (by kernel_rfl) (by rfl) (by kernel_rfl) (has_k S0 _ 97 false _ rfl (by decide) (by decide +kernel)) ?_
        rintro e w' ⟨rfl, hb⟩
        refine ⟨_, rfl, hT3.call hb, ?_⟩
        have hT4 := hT3.call hb
        clear hT3 hb
        simp only [Act.put, List.setIfInBounds_toArray, List.set_cons_zero, List.set_cons_succ]
        as_aux_lemma =>
          refine takeAt 29 46 (.bool true) rfl rfl (by kernel_rfl) (by kernel_rfl) (by kernel_rfl) (fun _ _ _ h => h) (yields (by rfl) (fun w => by kernel_rfl)) hT4 ?_
          simp only [Act.put, List.setIfInBounds_toArray, List.set_cons_zero, List.set_cons_succ]
          refine takeAt 30 47 (.bool true) rfl rfl (by kernel_rfl) (by kernel_rfl) (by kernel_rfl) (fun _ _ _ h => h) (yields (by rfl) (fun w => by kernel_rfl)) hT4 ?_
          simp only [Act.put, List.setIfInBounds_toArray, List.set_cons_zero, List.set_cons_succ]
          refine takeAt 31 48 (.bool true) rfl rfl (by kernel_rfl) (by kernel_rfl) (by kernel_rfl) (fun _ _ _ h => h) (yields (by rfl) (fun w => by kernel_rfl)) hT4 ?_
          simp only [Act.put, List.setIfInBounds_toArray, List.set_cons_zero, List.set_cons_succ]
          refine callAt 32 49 rfl rfl (by kernel_rfl) (by rfl) (by kernel_rfl) (all_k _) ?_
          rintro e w' ⟨rfl, hb⟩
          refine ⟨_, rfl, hT4.call hb, ?_⟩
          have hT5 := hT4.call hb
          clear hT4 hb
          simp only [Act.put, List.setIfInBounds_toArray, List.set_cons_zero, List.set_cons_succ]
          refine callAt 33 50 rfl rfl (by kernel_rfl) (by rfl) (by kernel_rfl) (lenZ_k allS 256 _ (by decide +kernel)) ?_
          rintro e w' ⟨rfl, hb⟩
          refine ⟨_, rfl, hT5.call hb, ?_⟩
          have hT6 := hT5.call hb
          clear hT5 hb
          simp only [Act.put, List.setIfInBounds_toArray, List.set_cons_zero, List.set_cons_succ]
          refine takeAt 34 51 (.bool true) rfl rfl (by kernel_rfl) (by kernel_rfl) (by kernel_rfl) (fun _ _ _ h => h) (yields (by rfl) (fun w => by kernel_rfl)) hT6 ?_
          simp only [Act.put, List.setIfInBounds_toArray, List.set_cons_zero, List.set_cons_succ]
          refine takeAt 35 52 (.bool true) rfl rfl (by kernel_rfl) (by kernel_rfl) (by kernel_rfl) (fun _ _ _ h => h) (yields (by rfl) (fun w => by kernel_rfl)) hT6 ?_
          simp only [Act.put, List.setIfInBounds_toArray, List.set_cons_zero, List.set_cons_succ]
          refine takeAt 36 53 (.bool true) rfl rfl (by kernel_rfl) (by kernel_rfl) (by kernel_rfl) (fun _ _ _ h => h) (yields (by rfl) (fun w => by kernel_rfl)) hT6 ?_
          simp only [Act.put, List.setIfInBounds_toArray, List.set_cons_zero, List.set_cons_succ]
          refine callAt 37 54 rfl rfl (by kernel_rfl) (by rfl) (by kernel_rfl) (range_k _ _ 97 99 _ rfl rfl (by decide) (by decide)) ?_
          rintro e w' ⟨rfl, hb⟩
          refine ⟨_, rfl, hT6.call hb, ?_⟩
          have hT7 := hT6.call hb
          clear hT6 hb
          simp only [Act.put, List.setIfInBounds_toArray, List.set_cons_zero, List.set_cons_succ]
          refine callAt 38 55 rfl rfl (by kernel_rfl) (by rfl) (by kernel_rfl) (of_k [97, 98, 99] (by decide) _) ?_
          rintro e w' ⟨rfl, hb⟩
          refine ⟨_, rfl, hT7.call hb, ?_⟩
          have hT8 := hT7.call hb
          clear hT7 hb
          simp only [Act.put, List.setIfInBounds_toArray, List.set_cons_zero, List.set_cons_succ]
          refine takeAt 39 56 (.bool true) rfl rfl (by kernel_rfl) (by kernel_rfl) (by kernel_rfl) (fun _ _ _ h => h) (eq_yields true rfl rfl rfl (show eqS (span 97 100) (ofBytes [97, 98, 99]) = true by decide +kernel) (by rfl)) hT8 ?_
          simp only [Act.put, List.setIfInBounds_toArray, List.set_cons_zero, List.set_cons_succ]
          refine takeAt 40 57 (.bool true) rfl rfl (by kernel_rfl) (by kernel_rfl) (by kernel_rfl) (fun _ _ _ h => h) (yields (by rfl) (fun w => by kernel_rfl)) hT8 ?_
          simp only [Act.put, List.setIfInBounds_toArray, List.set_cons_zero, List.set_cons_succ]
          as_aux_lemma =>
            refine takeAt 41 58 (.bool true) rfl rfl (by kernel_rfl) (by kernel_rfl) (by kernel_rfl) (fun _ _ _ h => h) (yields (by rfl) (fun w => by kernel_rfl)) hT8 ?_
            simp only [Act.put, List.setIfInBounds_toArray, List.set_cons_zero, List.set_cons_succ]
            refine takeAt 43 60 (.agg #[.int .u64 0, .int .u64 0, .int .u64 0, .int .u64 0]) rfl rfl (by kernel_rfl) (by kernel_rfl) (by kernel_rfl) (fun _ _ _ h => h) (yields (by rfl) (fun w => by kernel_rfl)) hT8 ?_
            simp only [Act.put, List.setIfInBounds_toArray, List.set_cons_zero, List.set_cons_succ]
            refine callAt 42 59 rfl rfl (by kernel_rfl) (by rfl) (by kernel_rfl) (range_k _ _ 99 97 _ rfl rfl (by decide) (by decide)) ?_
            rintro e w' ⟨rfl, hb⟩
            refine ⟨_, rfl, hT8.call hb, ?_⟩
            have hT9 := hT8.call hb
            clear hT8 hb
            simp only [Act.put, List.setIfInBounds_toArray, List.set_cons_zero, List.set_cons_succ]
            refine takeAt 44 61 (.bool true) rfl rfl (by kernel_rfl) (by kernel_rfl) (by kernel_rfl) (fun _ _ _ h => h) (eq_yields true rfl rfl (show _ = setV zeroS by kernel_rfl) (show eqS (span 99 98) zeroS = true by decide +kernel) (by rfl)) hT9 ?_
            simp only [Act.put, List.setIfInBounds_toArray, List.set_cons_zero, List.set_cons_succ]
            refine takeAt 45 62 (.bool true) rfl rfl (by kernel_rfl) (by kernel_rfl) (by kernel_rfl) (fun _ _ _ h => h) (yields (by rfl) (fun w => by kernel_rfl)) hT9 ?_
            simp only [Act.put, List.setIfInBounds_toArray, List.set_cons_zero, List.set_cons_succ]
            refine takeAt 46 63 (.bool true) rfl rfl (by kernel_rfl) (by kernel_rfl) (by kernel_rfl) (fun _ _ _ h => h) (yields (by rfl) (fun w => by kernel_rfl)) hT9 ?_
            simp only [Act.put, List.setIfInBounds_toArray, List.set_cons_zero, List.set_cons_succ]
            refine callAt 47 64 rfl rfl (by kernel_rfl) (by rfl) (by kernel_rfl) (oneAt_k _ 120 _ rfl (by decide)) ?_
            rintro e w' ⟨rfl, hb⟩
            refine ⟨_, rfl, hT9.call hb, ?_⟩
            have hT10 := hT9.call hb
            clear hT9 hb
            simp only [Act.put, List.setIfInBounds_toArray, List.set_cons_zero, List.set_cons_succ]
            refine callAt 48 65 rfl rfl (by kernel_rfl) (by rfl) (by kernel_rfl) (of_k [120, 120] (by decide) _) ?_
            rintro e w' ⟨rfl, hb⟩
            refine ⟨_, rfl, hT10.call hb, ?_⟩
            have hT11 := hT10.call hb
            clear hT10 hb
            simp only [Act.put, List.setIfInBounds_toArray, List.set_cons_zero, List.set_cons_succ]
            refine takeAt 49 66 (.bool true) rfl rfl (by kernel_rfl) (by kernel_rfl) (by kernel_rfl) (fun _ _ _ h => h) (eq_yields true rfl rfl rfl (show eqS (oneS 120) (ofBytes [120, 120]) = true by decide +kernel) (by rfl)) hT11 ?_
            simp only [Act.put, List.setIfInBounds_toArray, List.set_cons_zero, List.set_cons_succ]
            refine takeAt 50 67 (.bool true) rfl rfl (by kernel_rfl) (by kernel_rfl) (by kernel_rfl) (fun _ _ _ h => h) (yields (by rfl) (fun w => by kernel_rfl)) hT11 ?_
            simp only [Act.put, List.setIfInBounds_toArray, List.set_cons_zero, List.set_cons_succ]
            refine takeAt 51 68 (.bool true) rfl rfl (by kernel_rfl) (by kernel_rfl) (by kernel_rfl) (fun _ _ _ h => h) (yields (by rfl) (fun w => by kernel_rfl)) hT11 ?_
            simp only [Act.put, List.setIfInBounds_toArray, List.set_cons_zero, List.set_cons_succ]
            refine takeAt 52 69 (setV S0) rfl rfl (by kernel_rfl) (by kernel_rfl) (by kernel_rfl) (fun _ _ _ h => h) (load_yields rfl rfl List.mem_cons_self (by rfl)) hT11 ?_
            simp only [Act.put, List.setIfInBounds_toArray, List.set_cons_zero, List.set_cons_succ]
            as_aux_lemma =>
              refine callAt 53 70 rfl rfl (by kernel_rfl) (by rfl) (by kernel_rfl) (not_k S0 _) ?_
              rintro e w' ⟨rfl, hb⟩
              refine ⟨_, rfl, hT11.call hb, ?_⟩
              have hT12 := hT11.call hb
              clear hT11 hb
              simp only [Act.put, List.setIfInBounds_toArray, List.set_cons_zero, List.set_cons_succ]
              refine callAt 54 71 rfl rfl (by kernel_rfl) (by rfl) (by kernel_rfl) (lenZ_k (notS S0) 252 _ (by decide +kernel)) ?_
              rintro e w' ⟨rfl, hb⟩
              refine ⟨_, rfl, hT12.call hb, ?_⟩
              have hT13 := hT12.call hb
              clear hT12 hb
              simp only [Act.put, List.setIfInBounds_toArray, List.set_cons_zero, List.set_cons_succ]
              refine takeAt 55 72 (.bool true) rfl rfl (by kernel_rfl) (by kernel_rfl) (by kernel_rfl) (fun _ _ _ h => h) (yields (by rfl) (fun w => by kernel_rfl)) hT13 ?_
              simp only [Act.put, List.setIfInBounds_toArray, List.set_cons_zero, List.set_cons_succ]
              refine takeAt 56 73 (.bool true) rfl rfl (by kernel_rfl) (by kernel_rfl) (by kernel_rfl) (fun _ _ _ h => h) (yields (by rfl) (fun w => by kernel_rfl)) hT13 ?_
              simp only [Act.put, List.setIfInBounds_toArray, List.set_cons_zero, List.set_cons_succ]
              refine takeAt 57 74 (.bool true) rfl rfl (by kernel_rfl) (by kernel_rfl) (by kernel_rfl) (fun _ _ _ h => h) (yields (by rfl) (fun w => by kernel_rfl)) hT13 ?_
              simp only [Act.put, List.setIfInBounds_toArray, List.set_cons_zero, List.set_cons_succ]
              refine takeAt 58 75 (setV S0) rfl rfl (by kernel_rfl) (by kernel_rfl) (by kernel_rfl) (fun _ _ _ h => h) (load_yields rfl rfl List.mem_cons_self (by rfl)) hT13 ?_
              simp only [Act.put, List.setIfInBounds_toArray, List.set_cons_zero, List.set_cons_succ]
              refine callAt 59 76 rfl rfl (by kernel_rfl) (by rfl) (by kernel_rfl) (fold_any S0 _) ?_
              rintro e w' ⟨rfl, hb⟩
              refine ⟨_, rfl, hT13.call hb, ?_⟩
              have hT14 := hT13.call hb
              clear hT13 hb
              simp only [Act.put, List.setIfInBounds_toArray, List.set_cons_zero, List.set_cons_succ]
              refine callAt 60 77 rfl rfl (by kernel_rfl) (by rfl) (by kernel_rfl) (lenZ_k (foldS S0) 8 _ (by decide +kernel)) ?_
              rintro e w' ⟨rfl, hb⟩
              refine ⟨_, rfl, hT14.call hb, ?_⟩
              have hT15 := hT14.call hb
              clear hT14 hb
              simp only [Act.put, List.setIfInBounds_toArray, List.set_cons_zero, List.set_cons_succ]
              refine takeAt 61 78 (.bool true) rfl rfl (by kernel_rfl) (by kernel_rfl) (by kernel_rfl) (fun _ _ _ h => h) (yields (by rfl) (fun w => by kernel_rfl)) hT15 ?_
              simp only [Act.put, List.setIfInBounds_toArray, List.set_cons_zero, List.set_cons_succ]
              refine takeAt 62 79 (.bool true) rfl rfl (by kernel_rfl) (by kernel_rfl) (by kernel_rfl) (fun _ _ _ h => h) (yields (by rfl) (fun w => by kernel_rfl)) hT15 ?_
              simp only [Act.put, List.setIfInBounds_toArray, List.set_cons_zero, List.set_cons_succ]
              refine takeAt 63 80 (.bool true) rfl rfl (by kernel_rfl) (by kernel_rfl) (by kernel_rfl) (fun _ _ _ h => h) (yields (by rfl) (fun w => by kernel_rfl)) hT15 ?_
              simp only [Act.put, List.setIfInBounds_toArray, List.set_cons_zero, List.set_cons_succ]
              refine takeAt 64 81 (setV S0) rfl rfl (by kernel_rfl) (by kernel_rfl) (by kernel_rfl) (fun _ _ _ h => h) (load_yields rfl rfl List.mem_cons_self (by rfl)) hT15 ?_
              simp only [Act.put, List.setIfInBounds_toArray, List.set_cons_zero, List.set_cons_succ]
              as_aux_lemma =>
                refine callAt 65 82 rfl rfl (by kernel_rfl) (by rfl) (by kernel_rfl) (fold_any S0 _) ?_
                rintro e w' ⟨rfl, hb⟩
                refine ⟨_, rfl, hT15.call hb, ?_⟩
                have hT16 := hT15.call hb
                clear hT15 hb
                simp only [Act.put, List.setIfInBounds_toArray, List.set_cons_zero, List.set_cons_succ]
                refine callAt 66 83 rfl rfl (by kernel_rfl) (by rfl) (by kernel_rfl) (has_k (foldS S0) _ 88 true _ rfl (by decide) (by decide +kernel)) ?_
                rintro e w' ⟨rfl, hb⟩
                refine ⟨_, rfl, hT16.call hb, ?_⟩
                have hT17 := hT16.call hb
                clear hT16 hb
                simp only [Act.put, List.setIfInBounds_toArray, List.set_cons_zero, List.set_cons_succ]
                refine takeAt 67 84 (.bool true) rfl rfl (by kernel_rfl) (by kernel_rfl) (by kernel_rfl) (fun _ _ _ h => h) (yields (by rfl) (fun w => by kernel_rfl)) hT17 ?_
                simp only [Act.put, List.setIfInBounds_toArray, List.set_cons_zero, List.set_cons_succ]
                refine takeAt 68 85 (.bool true) rfl rfl (by kernel_rfl) (by kernel_rfl) (by kernel_rfl) (fun _ _ _ h => h) (yields (by rfl) (fun w => by kernel_rfl)) hT17 ?_
                simp only [Act.put, List.setIfInBounds_toArray, List.set_cons_zero, List.set_cons_succ]
                refine takeAt 69 86 (setV S0) rfl rfl (by kernel_rfl) (by kernel_rfl) (by kernel_rfl) (fun _ _ _ h => h) (load_yields rfl rfl List.mem_cons_self (by rfl)) hT17 ?_
                simp only [Act.put, List.setIfInBounds_toArray, List.set_cons_zero, List.set_cons_succ]
                refine callAt 70 87 rfl rfl (by kernel_rfl) (by rfl) (by kernel_rfl) (oneAt_k _ 97 _ rfl (by decide)) ?_
                rintro e w' ⟨rfl, hb⟩
                refine ⟨_, rfl, hT17.call hb, ?_⟩
                have hT18 := hT17.call hb
                clear hT17 hb
                simp only [Act.put, List.setIfInBounds_toArray, List.set_cons_zero, List.set_cons_succ]
                refine callAt 71 88 rfl rfl (by kernel_rfl) (by rfl) (by kernel_rfl) (or_k S0 (oneS 97) _) ?_
                rintro e w' ⟨rfl, hb⟩
                refine ⟨_, rfl, hT18.call hb, ?_⟩
                have hT19 := hT18.call hb
                clear hT18 hb
                simp only [Act.put, List.setIfInBounds_toArray, List.set_cons_zero, List.set_cons_succ]
                refine callAt 72 89 rfl rfl (by kernel_rfl) (by rfl) (by kernel_rfl) (lenZ_k (orS S0 (oneS 97)) 5 _ (by decide +kernel)) ?_
                rintro e w' ⟨rfl, hb⟩
                refine ⟨_, rfl, hT19.call hb, ?_⟩
                have hT20 := hT19.call hb
                clear hT19 hb
                simp only [Act.put, List.setIfInBounds_toArray, List.set_cons_zero, List.set_cons_succ]
                refine takeAt 73 90 (.bool true) rfl rfl (by kernel_rfl) (by kernel_rfl) (by kernel_rfl) (fun _ _ _ h => h) (yields (by rfl) (fun w => by kernel_rfl)) hT20 ?_
                simp only [Act.put, List.setIfInBounds_toArray, List.set_cons_zero, List.set_cons_succ]
                refine takeAt 74 91 (.bool true) rfl rfl (by kernel_rfl) (by kernel_rfl) (by kernel_rfl) (fun _ _ _ h => h) (yields (by rfl) (fun w => by kernel_rfl)) hT20 ?_
                simp only [Act.put, List.setIfInBounds_toArray, List.set_cons_zero, List.set_cons_succ]
                refine takeAt 75 92 (.bool true) rfl rfl (by kernel_rfl) (by kernel_rfl) (by kernel_rfl) (fun _ _ _ h => h) (yields (by rfl) (fun w => by kernel_rfl)) hT20 ?_
                simp only [Act.put, List.setIfInBounds_toArray, List.set_cons_zero, List.set_cons_succ]
                refine takeAt 76 93 (setV S0) rfl rfl (by kernel_rfl) (by kernel_rfl) (by kernel_rfl) (fun _ _ _ h => h) (load_yields rfl rfl List.mem_cons_self (by rfl)) hT20 ?_
                simp only [Act.put, List.setIfInBounds_toArray, List.set_cons_zero, List.set_cons_succ]
                as_aux_lemma =>
                  refine callAt 77 94 rfl rfl (by kernel_rfl) (by rfl) (by kernel_rfl) (of_k [120, 121, 122] (by decide) _) ?_
                  rintro e w' ⟨rfl, hb⟩
                  refine ⟨_, rfl, hT20.call hb, ?_⟩
                  have hT21 := hT20.call hb
                  clear hT20 hb
                  simp only [Act.put, List.setIfInBounds_toArray, List.set_cons_zero, List.set_cons_succ]
                  refine callAt 78 95 rfl rfl (by kernel_rfl) (by rfl) (by kernel_rfl) (and_k S0 (ofBytes [120, 121, 122]) _) ?_
                  rintro e w' ⟨rfl, hb⟩
                  refine ⟨_, rfl, hT21.call hb, ?_⟩
                  have hT22 := hT21.call hb
                  clear hT21 hb
                  simp only [Act.put, List.setIfInBounds_toArray, List.set_cons_zero, List.set_cons_succ]
                  refine callAt 79 96 rfl rfl (by kernel_rfl) (by rfl) (by kernel_rfl) (oneAt_k _ 120 _ rfl (by decide)) ?_
                  rintro e w' ⟨rfl, hb⟩
                  refine ⟨_, rfl, hT22.call hb, ?_⟩
                  have hT23 := hT22.call hb
                  clear hT22 hb
                  simp only [Act.put, List.setIfInBounds_toArray, List.set_cons_zero, List.set_cons_succ]
                  refine takeAt 80 97 (.bool true) rfl rfl (by kernel_rfl) (by kernel_rfl) (by kernel_rfl) (fun _ _ _ h => h) (eq_yields true rfl rfl rfl (show eqS (andS S0 (ofBytes [120, 121, 122])) (oneS 120) = true by decide +kernel) (by rfl)) hT23 ?_
                  simp only [Act.put, List.setIfInBounds_toArray, List.set_cons_zero, List.set_cons_succ]
                  refine takeAt 81 98 (.bool true) rfl rfl (by kernel_rfl) (by kernel_rfl) (by kernel_rfl) (fun _ _ _ h => h) (yields (by rfl) (fun w => by kernel_rfl)) hT23 ?_
                  simp only [Act.put, List.setIfInBounds_toArray, List.set_cons_zero, List.set_cons_succ]
                  refine takeAt 82 0 (.bool true) rfl rfl (by kernel_rfl) (by kernel_rfl) (by kernel_rfl) (fun _ _ _ h => h) (yields (by rfl) (fun w => by kernel_rfl)) hT23 ?_
                  simp only [Act.put, List.setIfInBounds_toArray, List.set_cons_zero]
                  refine wpAnyH_done (by kernel_rfl) ?_ _
                  go_wp2
                  go_ret
                  exact ⟨rfl, hT23.2.1⟩
end Go.Proofs.YtobhhhopkkcdiaaDoor
