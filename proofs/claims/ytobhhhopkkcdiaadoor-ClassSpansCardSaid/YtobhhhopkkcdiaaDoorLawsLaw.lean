/-
  The statement ClassLaws: what its walk comes to.
-/
import Derived.Test.YtobhhhopkkcdiaaDoorRegionB
import Derived.Test.YtobhhhopkkcdiaaDoorFoldsLaw
namespace Go.Proofs.YtobhhhopkkcdiaaDoor
open Go.RowKit

theorem cntTo_or_and (f g : Nat → Bool) : ∀ n, cntTo (fun k => f k || g k) n + cntTo (fun k => f k && g k) n = cntTo f n + cntTo g n
  | 0 => rfl
  | n + 1 => by
    have ih := cntTo_or_and f g n
    simp only [cntTo]
    cases f n <;> cases g n <;> simp <;> omega
theorem lenS_or_and (S T : BitVec 256) : lenS (orS S T) + lenS (andS S T) = lenS S + lenS T := by
  unfold lenS
  have h1 : cntTo (orS S T).getLsbD 256 = cntTo (fun k => S.getLsbD k || T.getLsbD k) 256 := cntTo_congr 256 fun k _ => by simp [orS]
  have h2 : cntTo (andS S T).getLsbD 256 = cntTo (fun k => S.getLsbD k && T.getLsbD k) 256 := cntTo_congr 256 fun k _ => by simp [andS]
  rw [h1, h2]
  exact cntTo_or_and _ _ 256
theorem lenS_le (S : BitVec 256) : (lenS S : Int) ≤ 256 := by have := cntTo_le S.getLsbD 256; unfold lenS; omega

set_option maxHeartbeats 8000000 in
set_option maxRecDepth 100000 in
theorem classLaws_walk (hfix : FixedOk) (S T : BitVec 256) (w : World) (ht : TabOk w) :
    Calls Tryd.prog 6 #[setV S, setV T] w fun e w' => e = .returned (.bool true) ∧ Below w.heap.size w w' := by
  have HF := Lib.hid hfix
  have HT := Lib.hid ht
  clear hfix ht
  go_enter Tryd.func6, Tryd.ntmps6
  go_wp2_with fail
  refine (fold_any S _).mono ?_
  rintro e w1 ⟨rfl, hb⟩
  have hS := (((((Held.start HT.out).new S).new T).call hb).new (foldS S)).drew
  rw [World.size_alloc] at hS
  clear hb
  have HS := Lib.hid hS
  clear hS
  go_wp2_with fail
  simp only [List.append_eq, List.cons_append, List.nil_append]
  have hS := HS.out
  clear HS
  have e12 : eqS (notS (notS S)) S = true := eqS_true (by simp [notS])
  have e23 : eqS (orS S T) (notS (andS (notS S) (notS T))) = true := eqS_true (by apply ext_bit; intro k hk; simp [orS, notS, andS, hk])
  have e46 : eqS (foldS (foldS S)) (foldS S) = true := eqS_true (by apply ext_bit; intro k _; rw [foldS_bit, foldS_bit, foldS_bit, swap_swap]; cases S.getLsbD k <;> cases S.getLsbD (swap k) <;> rfl)
  have e53 : eqS (andS S (foldS S)) S = true := eqS_true (by apply ext_bit; intro k _; rw [andS, BitVec.getLsbD_and, foldS_bit]; cases S.getLsbD k <;> simp)
  have e62 : eqS (orS S T) (orS T S) = true := eqS_true (by unfold orS; exact BitVec.or_comm S T)
  have e70 : eqS (andS S (notS S)) zeroS = true := eqS_true (by unfold andS notS zeroS; apply ext_bit; intro k hk; simp [hk])
  have e81 : eqS (foldS (orS S T)) (orS (foldS S) (foldS T)) = true := eqS_true (by apply ext_bit; intro k _; simp only [orS, foldS_bit, BitVec.getLsbD_or]; cases S.getLsbD k <;> cases S.getLsbD (swap k) <;> cases T.getLsbD k <;> cases T.getLsbD (swap k) <;> rfl)
  have b1 := lenS_le (orS S T)
  have b2 := lenS_le (andS S T)
  have b3 := lenS_le S
  have b4 := lenS_le T
  have e40 : (((lenS (orS S T) : Int) + (lenS (andS S T) : Int)) == ((lenS S : Int) + (lenS T : Int))) = true := by have := lenS_or_and S T; simp; omega
  refine wp_region_held_drew (S := Held w [(w1.heap.size, foldS S), (w.heap.size + 1, T), (w.heap.size, S)]) (by kernel_rfl) hS (fun _ => ?_)
  refine takeAt 0 8 (setV S) rfl rfl (by kernel_rfl) (by kernel_rfl) (by kernel_rfl) (fun _ _ _ h => h) (load_yields rfl rfl (List.mem_cons_of_mem _ (List.mem_cons_of_mem _ List.mem_cons_self)) (by rfl)) hS ?_
  simp only [Act.put, List.setIfInBounds_toArray, List.set_cons_zero, List.set_cons_succ]
  refine takeAt 3 11 (setV S) rfl rfl (by kernel_rfl) (by kernel_rfl) (by kernel_rfl) (fun _ _ _ h => h) (load_yields rfl rfl (List.mem_cons_of_mem _ (List.mem_cons_of_mem _ List.mem_cons_self)) (by rfl)) hS ?_
  simp only [Act.put, List.setIfInBounds_toArray, List.set_cons_zero, List.set_cons_succ]
  refine callAt 1 9 rfl rfl (by kernel_rfl) (by rfl) (by kernel_rfl) (not_k S _) ?_
  rintro e w' ⟨rfl, hb⟩
  refine ⟨_, rfl, hS.call hb, ?_⟩
  have hT1 := hS.call hb
  clear hS hb
  simp only [Act.put, List.setIfInBounds_toArray, List.set_cons_zero, List.set_cons_succ]
  refine callAt 2 10 rfl rfl (by kernel_rfl) (by rfl) (by kernel_rfl) (not_k (notS S) _) ?_
  rintro e w' ⟨rfl, hb⟩
  refine ⟨_, rfl, hT1.call hb, ?_⟩
  have hT2 := hT1.call hb
  clear hT1 hb
  simp only [Act.put, List.setIfInBounds_toArray, List.set_cons_zero, List.set_cons_succ]
  refine takeAt 4 12 (.bool true) rfl rfl (by kernel_rfl) (by kernel_rfl) (by kernel_rfl) (fun _ _ _ h => h) (eq_yields true rfl rfl rfl (e12) (by rfl)) hT2 ?_
  simp only [Act.put, List.setIfInBounds_toArray, List.set_cons_zero, List.set_cons_succ]
  refine takeAt 5 13 (.bool true) rfl rfl (by kernel_rfl) (by kernel_rfl) (by kernel_rfl) (fun _ _ _ h => h) (yields (by rfl) (fun w => by kernel_rfl)) hT2 ?_
  simp only [Act.put, List.setIfInBounds_toArray, List.set_cons_zero, List.set_cons_succ]
  refine takeAt 6 14 (setV S) rfl rfl (by kernel_rfl) (by kernel_rfl) (by kernel_rfl) (fun _ _ _ h => h) (load_yields rfl rfl (List.mem_cons_of_mem _ (List.mem_cons_of_mem _ List.mem_cons_self)) (by rfl)) hT2 ?_
  simp only [Act.put, List.setIfInBounds_toArray, List.set_cons_zero, List.set_cons_succ]
  refine takeAt 7 15 (setV T) rfl rfl (by kernel_rfl) (by kernel_rfl) (by kernel_rfl) (fun _ _ _ h => h) (load_yields rfl rfl (List.mem_cons_of_mem _ List.mem_cons_self) (by rfl)) hT2 ?_
  simp only [Act.put, List.setIfInBounds_toArray, List.set_cons_zero, List.set_cons_succ]
  refine takeAt 9 17 (setV S) rfl rfl (by kernel_rfl) (by kernel_rfl) (by kernel_rfl) (fun _ _ _ h => h) (load_yields rfl rfl (List.mem_cons_of_mem _ (List.mem_cons_of_mem _ List.mem_cons_self)) (by rfl)) hT2 ?_
  simp only [Act.put, List.setIfInBounds_toArray, List.set_cons_zero, List.set_cons_succ]
  refine takeAt 11 19 (setV T) rfl rfl (by kernel_rfl) (by kernel_rfl) (by kernel_rfl) (fun _ _ _ h => h) (load_yields rfl rfl (List.mem_cons_of_mem _ List.mem_cons_self) (by rfl)) hT2 ?_
  simp only [Act.put, List.setIfInBounds_toArray, List.set_cons_zero, List.set_cons_succ]
  refine callAt 8 16 rfl rfl (by kernel_rfl) (by rfl) (by kernel_rfl) (or_k S T _) ?_
  rintro e w' ⟨rfl, hb⟩
  refine ⟨_, rfl, hT2.call hb, ?_⟩
  have hT3 := hT2.call hb
  clear hT2 hb
  simp only [Act.put, List.setIfInBounds_toArray, List.set_cons_zero, List.set_cons_succ]
  refine callAt 10 18 rfl rfl (by kernel_rfl) (by rfl) (by kernel_rfl) (not_k S _) ?_
  rintro e w' ⟨rfl, hb⟩
  refine ⟨_, rfl, hT3.call hb, ?_⟩
  have hT4 := hT3.call hb
  clear hT3 hb
  simp only [Act.put, List.setIfInBounds_toArray, List.set_cons_zero, List.set_cons_succ]
  refine callAt 12 20 rfl rfl (by kernel_rfl) (by rfl) (by kernel_rfl) (not_k T _) ?_
  rintro e w' ⟨rfl, hb⟩
  refine ⟨_, rfl, hT4.call hb, ?_⟩
  have hT5 := hT4.call hb
  clear hT4 hb
  simp only [Act.put, List.setIfInBounds_toArray, List.set_cons_zero, List.set_cons_succ]
  refine callAt 13 21 rfl rfl (by kernel_rfl) (by rfl) (by kernel_rfl) (and_k (notS S) (notS T) _) ?_
  rintro e w' ⟨rfl, hb⟩
  refine ⟨_, rfl, hT5.call hb, ?_⟩
  have hT6 := hT5.call hb
  clear hT5 hb
  simp only [Act.put, List.setIfInBounds_toArray, List.set_cons_zero, List.set_cons_succ]
  as_aux_lemma =>
    refine callAt 14 22 rfl rfl (by kernel_rfl) (by rfl) (by kernel_rfl) (not_k (andS (notS S) (notS T)) _) ?_
    rintro e w' ⟨rfl, hb⟩
    refine ⟨_, rfl, hT6.call hb, ?_⟩
    have hT7 := hT6.call hb
    clear hT6 hb
    simp only [Act.put, List.setIfInBounds_toArray, List.set_cons_zero, List.set_cons_succ]
    refine takeAt 15 23 (.bool true) rfl rfl (by kernel_rfl) (by kernel_rfl) (by kernel_rfl) (fun _ _ _ h => h) (eq_yields true rfl rfl rfl (e23) (by rfl)) hT7 ?_
    simp only [Act.put, List.setIfInBounds_toArray, List.set_cons_zero, List.set_cons_succ]
    refine takeAt 16 24 (.bool true) rfl rfl (by kernel_rfl) (by kernel_rfl) (by kernel_rfl) (fun _ _ _ h => h) (yields (by rfl) (fun w => by kernel_rfl)) hT7 ?_
    simp only [Act.put, List.setIfInBounds_toArray, List.set_cons_zero, List.set_cons_succ]
    refine takeAt 17 25 (.bool true) rfl rfl (by kernel_rfl) (by kernel_rfl) (by kernel_rfl) (fun _ _ _ h => h) (yields (by rfl) (fun w => by kernel_rfl)) hT7 ?_
    simp only [Act.put, List.setIfInBounds_toArray, List.set_cons_zero, List.set_cons_succ]
    refine takeAt 18 26 (setV S) rfl rfl (by kernel_rfl) (by kernel_rfl) (by kernel_rfl) (fun _ _ _ h => h) (load_yields rfl rfl (List.mem_cons_of_mem _ (List.mem_cons_of_mem _ List.mem_cons_self)) (by rfl)) hT7 ?_
    simp only [Act.put, List.setIfInBounds_toArray, List.set_cons_zero, List.set_cons_succ]
    refine takeAt 19 27 (setV T) rfl rfl (by kernel_rfl) (by kernel_rfl) (by kernel_rfl) (fun _ _ _ h => h) (load_yields rfl rfl (List.mem_cons_of_mem _ List.mem_cons_self) (by rfl)) hT7 ?_
    simp only [Act.put, List.setIfInBounds_toArray, List.set_cons_zero, List.set_cons_succ]
    refine takeAt 22 30 (setV S) rfl rfl (by kernel_rfl) (by kernel_rfl) (by kernel_rfl) (fun _ _ _ h => h) (load_yields rfl rfl (List.mem_cons_of_mem _ (List.mem_cons_of_mem _ List.mem_cons_self)) (by rfl)) hT7 ?_
    simp only [Act.put, List.setIfInBounds_toArray, List.set_cons_zero, List.set_cons_succ]
    refine takeAt 23 31 (setV T) rfl rfl (by kernel_rfl) (by kernel_rfl) (by kernel_rfl) (fun _ _ _ h => h) (load_yields rfl rfl (List.mem_cons_of_mem _ List.mem_cons_self) (by rfl)) hT7 ?_
    simp only [Act.put, List.setIfInBounds_toArray, List.set_cons_zero, List.set_cons_succ]
    refine takeAt 27 35 (setV S) rfl rfl (by kernel_rfl) (by kernel_rfl) (by kernel_rfl) (fun _ _ _ h => h) (load_yields rfl rfl (List.mem_cons_of_mem _ (List.mem_cons_of_mem _ List.mem_cons_self)) (by rfl)) hT7 ?_
    simp only [Act.put, List.setIfInBounds_toArray, List.set_cons_zero, List.set_cons_succ]
    refine takeAt 29 37 (setV T) rfl rfl (by kernel_rfl) (by kernel_rfl) (by kernel_rfl) (fun _ _ _ h => h) (load_yields rfl rfl (List.mem_cons_of_mem _ List.mem_cons_self) (by rfl)) hT7 ?_
    simp only [Act.put, List.setIfInBounds_toArray, List.set_cons_zero, List.set_cons_succ]
    refine callAt 20 28 rfl rfl (by kernel_rfl) (by rfl) (by kernel_rfl) (or_k S T _) ?_
    rintro e w' ⟨rfl, hb⟩
    refine ⟨_, rfl, hT7.call hb, ?_⟩
    have hT8 := hT7.call hb
    clear hT7 hb
    simp only [Act.put, List.setIfInBounds_toArray, List.set_cons_zero, List.set_cons_succ]
    refine callAt 21 29 rfl rfl (by kernel_rfl) (by rfl) (by kernel_rfl) (len_any (orS S T) _) ?_
    rintro e w' ⟨rfl, hb⟩
    refine ⟨_, rfl, hT8.call hb, ?_⟩
    have hT9 := hT8.call hb
    clear hT8 hb
    simp only [Act.put, List.setIfInBounds_toArray, List.set_cons_zero, List.set_cons_succ]
    refine callAt 24 32 rfl rfl (by kernel_rfl) (by rfl) (by kernel_rfl) (and_k S T _) ?_
    rintro e w' ⟨rfl, hb⟩
    refine ⟨_, rfl, hT9.call hb, ?_⟩
    have hT10 := hT9.call hb
    clear hT9 hb
    simp only [Act.put, List.setIfInBounds_toArray, List.set_cons_zero, List.set_cons_succ]
    refine callAt 25 33 rfl rfl (by kernel_rfl) (by rfl) (by kernel_rfl) (len_any (andS S T) _) ?_
    rintro e w' ⟨rfl, hb⟩
    refine ⟨_, rfl, hT10.call hb, ?_⟩
    have hT11 := hT10.call hb
    clear hT10 hb
    simp only [Act.put, List.setIfInBounds_toArray, List.set_cons_zero, List.set_cons_succ]
    as_aux_lemma =>
      refine takeAt 26 34 (.int .i64 ((lenS (orS S T) : Int) + (lenS (andS S T) : Int))) rfl rfl (by kernel_rfl) (by kernel_rfl) (by kernel_rfl) (fun _ _ _ h => h) (add64_y ((lenS (orS S T) : Int) + (lenS (andS S T) : Int)) rfl rfl rfl rfl (by omega) (by omega) (by omega) (by omega) (by rfl)) hT11 ?_
      simp only [Act.put, List.setIfInBounds_toArray, List.set_cons_zero, List.set_cons_succ]
      refine callAt 28 36 rfl rfl (by kernel_rfl) (by rfl) (by kernel_rfl) (len_any S _) ?_
      rintro e w' ⟨rfl, hb⟩
      refine ⟨_, rfl, hT11.call hb, ?_⟩
      have hT12 := hT11.call hb
      clear hT11 hb
      simp only [Act.put, List.setIfInBounds_toArray, List.set_cons_zero, List.set_cons_succ]
      refine callAt 30 38 rfl rfl (by kernel_rfl) (by rfl) (by kernel_rfl) (len_any T _) ?_
      rintro e w' ⟨rfl, hb⟩
      refine ⟨_, rfl, hT12.call hb, ?_⟩
      have hT13 := hT12.call hb
      clear hT12 hb
      simp only [Act.put, List.setIfInBounds_toArray, List.set_cons_zero, List.set_cons_succ]
      refine takeAt 31 39 (.int .i64 ((lenS S : Int) + (lenS T : Int))) rfl rfl (by kernel_rfl) (by kernel_rfl) (by kernel_rfl) (fun _ _ _ h => h) (add64_y ((lenS S : Int) + (lenS T : Int)) rfl rfl rfl rfl (by omega) (by omega) (by omega) (by omega) (by rfl)) hT13 ?_
      simp only [Act.put, List.setIfInBounds_toArray, List.set_cons_zero, List.set_cons_succ]
      refine takeAt 32 40 (.bool true) rfl rfl (by kernel_rfl) (by kernel_rfl) (by kernel_rfl) (fun _ _ _ h => h) (eql64_y true rfl rfl rfl e40 (by rfl)) hT13 ?_
      simp only [Act.put, List.setIfInBounds_toArray, List.set_cons_zero, List.set_cons_succ]
      refine takeAt 33 41 (.bool true) rfl rfl (by kernel_rfl) (by kernel_rfl) (by kernel_rfl) (fun _ _ _ h => h) (yields (by rfl) (fun w => by kernel_rfl)) hT13 ?_
      simp only [Act.put, List.setIfInBounds_toArray, List.set_cons_zero, List.set_cons_succ]
      refine takeAt 34 42 (.bool true) rfl rfl (by kernel_rfl) (by kernel_rfl) (by kernel_rfl) (fun _ _ _ h => h) (yields (by rfl) (fun w => by kernel_rfl)) hT13 ?_
      simp only [Act.put, List.setIfInBounds_toArray, List.set_cons_zero, List.set_cons_succ]
      refine takeAt 35 43 (setV (foldS S)) rfl rfl (by kernel_rfl) (by kernel_rfl) (by kernel_rfl) (fun _ _ _ h => h) (load_yields rfl rfl List.mem_cons_self (by rfl)) hT13 ?_
      simp only [Act.put, List.setIfInBounds_toArray, List.set_cons_zero, List.set_cons_succ]
      refine takeAt 37 45 (setV (foldS S)) rfl rfl (by kernel_rfl) (by kernel_rfl) (by kernel_rfl) (fun _ _ _ h => h) (load_yields rfl rfl List.mem_cons_self (by rfl)) hT13 ?_
      simp only [Act.put, List.setIfInBounds_toArray, List.set_cons_zero, List.set_cons_succ]
      refine callAt 36 44 rfl rfl (by kernel_rfl) (by rfl) (by kernel_rfl) (fold_any (foldS S) _) ?_
      rintro e w' ⟨rfl, hb⟩
      refine ⟨_, rfl, hT13.call hb, ?_⟩
      have hT14 := hT13.call hb
      clear hT13 hb
      simp only [Act.put, List.setIfInBounds_toArray, List.set_cons_zero, List.set_cons_succ]
      refine takeAt 38 46 (.bool true) rfl rfl (by kernel_rfl) (by kernel_rfl) (by kernel_rfl) (fun _ _ _ h => h) (eq_yields true rfl rfl rfl (e46) (by rfl)) hT14 ?_
      simp only [Act.put, List.setIfInBounds_toArray, List.set_cons_zero, List.set_cons_succ]
      refine takeAt 39 47 (.bool true) rfl rfl (by kernel_rfl) (by kernel_rfl) (by kernel_rfl) (fun _ _ _ h => h) (yields (by rfl) (fun w => by kernel_rfl)) hT14 ?_
      simp only [Act.put, List.setIfInBounds_toArray, List.set_cons_zero, List.set_cons_succ]
      refine takeAt 40 48 (.bool true) rfl rfl (by kernel_rfl) (by kernel_rfl) (by kernel_rfl) (fun _ _ _ h => h) (yields (by rfl) (fun w => by kernel_rfl)) hT14 ?_
      simp only [Act.put, List.setIfInBounds_toArray, List.set_cons_zero, List.set_cons_succ]
      refine takeAt 41 49 (setV S) rfl rfl (by kernel_rfl) (by kernel_rfl) (by kernel_rfl) (fun _ _ _ h => h) (load_yields rfl rfl (List.mem_cons_of_mem _ (List.mem_cons_of_mem _ List.mem_cons_self)) (by rfl)) hT14 ?_
      simp only [Act.put, List.setIfInBounds_toArray, List.set_cons_zero, List.set_cons_succ]
      as_aux_lemma =>
        refine takeAt 42 50 (setV (foldS S)) rfl rfl (by kernel_rfl) (by kernel_rfl) (by kernel_rfl) (fun _ _ _ h => h) (load_yields rfl rfl List.mem_cons_self (by rfl)) hT14 ?_
        simp only [Act.put, List.setIfInBounds_toArray, List.set_cons_zero, List.set_cons_succ]
        refine takeAt 44 52 (setV S) rfl rfl (by kernel_rfl) (by kernel_rfl) (by kernel_rfl) (fun _ _ _ h => h) (load_yields rfl rfl (List.mem_cons_of_mem _ (List.mem_cons_of_mem _ List.mem_cons_self)) (by rfl)) hT14 ?_
        simp only [Act.put, List.setIfInBounds_toArray, List.set_cons_zero, List.set_cons_succ]
        refine callAt 43 51 rfl rfl (by kernel_rfl) (by rfl) (by kernel_rfl) (and_k S (foldS S) _) ?_
        rintro e w' ⟨rfl, hb⟩
        refine ⟨_, rfl, hT14.call hb, ?_⟩
        have hT15 := hT14.call hb
        clear hT14 hb
        simp only [Act.put, List.setIfInBounds_toArray, List.set_cons_zero, List.set_cons_succ]
        refine takeAt 45 53 (.bool true) rfl rfl (by kernel_rfl) (by kernel_rfl) (by kernel_rfl) (fun _ _ _ h => h) (eq_yields true rfl rfl rfl (e53) (by rfl)) hT15 ?_
        simp only [Act.put, List.setIfInBounds_toArray, List.set_cons_zero, List.set_cons_succ]
        refine takeAt 46 54 (.bool true) rfl rfl (by kernel_rfl) (by kernel_rfl) (by kernel_rfl) (fun _ _ _ h => h) (yields (by rfl) (fun w => by kernel_rfl)) hT15 ?_
        simp only [Act.put, List.setIfInBounds_toArray, List.set_cons_zero, List.set_cons_succ]
        refine takeAt 47 55 (.bool true) rfl rfl (by kernel_rfl) (by kernel_rfl) (by kernel_rfl) (fun _ _ _ h => h) (yields (by rfl) (fun w => by kernel_rfl)) hT15 ?_
        simp only [Act.put, List.setIfInBounds_toArray, List.set_cons_zero, List.set_cons_succ]
        refine takeAt 48 56 (setV S) rfl rfl (by kernel_rfl) (by kernel_rfl) (by kernel_rfl) (fun _ _ _ h => h) (load_yields rfl rfl (List.mem_cons_of_mem _ (List.mem_cons_of_mem _ List.mem_cons_self)) (by rfl)) hT15 ?_
        simp only [Act.put, List.setIfInBounds_toArray, List.set_cons_zero, List.set_cons_succ]
        refine takeAt 49 57 (setV T) rfl rfl (by kernel_rfl) (by kernel_rfl) (by kernel_rfl) (fun _ _ _ h => h) (load_yields rfl rfl (List.mem_cons_of_mem _ List.mem_cons_self) (by rfl)) hT15 ?_
        simp only [Act.put, List.setIfInBounds_toArray, List.set_cons_zero, List.set_cons_succ]
        refine takeAt 51 59 (setV T) rfl rfl (by kernel_rfl) (by kernel_rfl) (by kernel_rfl) (fun _ _ _ h => h) (load_yields rfl rfl (List.mem_cons_of_mem _ List.mem_cons_self) (by rfl)) hT15 ?_
        simp only [Act.put, List.setIfInBounds_toArray, List.set_cons_zero, List.set_cons_succ]
        refine takeAt 52 60 (setV S) rfl rfl (by kernel_rfl) (by kernel_rfl) (by kernel_rfl) (fun _ _ _ h => h) (load_yields rfl rfl (List.mem_cons_of_mem _ (List.mem_cons_of_mem _ List.mem_cons_self)) (by rfl)) hT15 ?_
        simp only [Act.put, List.setIfInBounds_toArray, List.set_cons_zero, List.set_cons_succ]
        refine callAt 50 58 rfl rfl (by kernel_rfl) (by rfl) (by kernel_rfl) (or_k S T _) ?_
        rintro e w' ⟨rfl, hb⟩
        refine ⟨_, rfl, hT15.call hb, ?_⟩
        have hT16 := hT15.call hb
        clear hT15 hb
        simp only [Act.put, List.setIfInBounds_toArray, List.set_cons_zero, List.set_cons_succ]
        refine callAt 53 61 rfl rfl (by kernel_rfl) (by rfl) (by kernel_rfl) (or_k T S _) ?_
        rintro e w' ⟨rfl, hb⟩
        refine ⟨_, rfl, hT16.call hb, ?_⟩
        have hT17 := hT16.call hb
        clear hT16 hb
        simp only [Act.put, List.setIfInBounds_toArray, List.set_cons_zero, List.set_cons_succ]
        refine takeAt 54 62 (.bool true) rfl rfl (by kernel_rfl) (by kernel_rfl) (by kernel_rfl) (fun _ _ _ h => h) (eq_yields true rfl rfl rfl (e62) (by rfl)) hT17 ?_
        simp only [Act.put, List.setIfInBounds_toArray, List.set_cons_zero, List.set_cons_succ]
        refine takeAt 55 63 (.bool true) rfl rfl (by kernel_rfl) (by kernel_rfl) (by kernel_rfl) (fun _ _ _ h => h) (yields (by rfl) (fun w => by kernel_rfl)) hT17 ?_
        simp only [Act.put, List.setIfInBounds_toArray, List.set_cons_zero, List.set_cons_succ]
        as_aux_lemma =>
          refine takeAt 56 64 (.bool true) rfl rfl (by kernel_rfl) (by kernel_rfl) (by kernel_rfl) (fun _ _ _ h => h) (yields (by rfl) (fun w => by kernel_rfl)) hT17 ?_
          simp only [Act.put, List.setIfInBounds_toArray, List.set_cons_zero, List.set_cons_succ]
          refine takeAt 57 65 (setV S) rfl rfl (by kernel_rfl) (by kernel_rfl) (by kernel_rfl) (fun _ _ _ h => h) (load_yields rfl rfl (List.mem_cons_of_mem _ (List.mem_cons_of_mem _ List.mem_cons_self)) (by rfl)) hT17 ?_
          simp only [Act.put, List.setIfInBounds_toArray, List.set_cons_zero, List.set_cons_succ]
          refine takeAt 58 66 (setV S) rfl rfl (by kernel_rfl) (by kernel_rfl) (by kernel_rfl) (fun _ _ _ h => h) (load_yields rfl rfl (List.mem_cons_of_mem _ (List.mem_cons_of_mem _ List.mem_cons_self)) (by rfl)) hT17 ?_
          simp only [Act.put, List.setIfInBounds_toArray, List.set_cons_zero, List.set_cons_succ]
          refine takeAt 61 69 (.agg #[.int .u64 0, .int .u64 0, .int .u64 0, .int .u64 0]) rfl rfl (by kernel_rfl) (by kernel_rfl) (by kernel_rfl) (fun _ _ _ h => h) (yields (by rfl) (fun w => by kernel_rfl)) hT17 ?_
          simp only [Act.put, List.setIfInBounds_toArray, List.set_cons_zero, List.set_cons_succ]
          refine callAt 59 67 rfl rfl (by kernel_rfl) (by rfl) (by kernel_rfl) (not_k S _) ?_
          rintro e w' ⟨rfl, hb⟩
          refine ⟨_, rfl, hT17.call hb, ?_⟩
          have hT18 := hT17.call hb
          clear hT17 hb
          simp only [Act.put, List.setIfInBounds_toArray, List.set_cons_zero, List.set_cons_succ]
          refine callAt 60 68 rfl rfl (by kernel_rfl) (by rfl) (by kernel_rfl) (and_k S (notS S) _) ?_
          rintro e w' ⟨rfl, hb⟩
          refine ⟨_, rfl, hT18.call hb, ?_⟩
          have hT19 := hT18.call hb
          clear hT18 hb
          simp only [Act.put, List.setIfInBounds_toArray, List.set_cons_zero, List.set_cons_succ]
          refine takeAt 62 70 (.bool true) rfl rfl (by kernel_rfl) (by kernel_rfl) (by kernel_rfl) (fun _ _ _ h => h) (eq_yields true rfl rfl (show _ = setV zeroS by kernel_rfl) (e70) (by rfl)) hT19 ?_
          simp only [Act.put, List.setIfInBounds_toArray, List.set_cons_zero, List.set_cons_succ]
          refine takeAt 63 71 (.bool true) rfl rfl (by kernel_rfl) (by kernel_rfl) (by kernel_rfl) (fun _ _ _ h => h) (yields (by rfl) (fun w => by kernel_rfl)) hT19 ?_
          simp only [Act.put, List.setIfInBounds_toArray, List.set_cons_zero, List.set_cons_succ]
          refine takeAt 64 72 (.bool true) rfl rfl (by kernel_rfl) (by kernel_rfl) (by kernel_rfl) (fun _ _ _ h => h) (yields (by rfl) (fun w => by kernel_rfl)) hT19 ?_
          simp only [Act.put, List.setIfInBounds_toArray, List.set_cons_zero, List.set_cons_succ]
          refine takeAt 65 73 (setV S) rfl rfl (by kernel_rfl) (by kernel_rfl) (by kernel_rfl) (fun _ _ _ h => h) (load_yields rfl rfl (List.mem_cons_of_mem _ (List.mem_cons_of_mem _ List.mem_cons_self)) (by rfl)) hT19 ?_
          simp only [Act.put, List.setIfInBounds_toArray, List.set_cons_zero, List.set_cons_succ]
          refine takeAt 66 74 (setV T) rfl rfl (by kernel_rfl) (by kernel_rfl) (by kernel_rfl) (fun _ _ _ h => h) (load_yields rfl rfl (List.mem_cons_of_mem _ List.mem_cons_self) (by rfl)) hT19 ?_
          simp only [Act.put, List.setIfInBounds_toArray, List.set_cons_zero, List.set_cons_succ]
          refine takeAt 69 77 (setV (foldS S)) rfl rfl (by kernel_rfl) (by kernel_rfl) (by kernel_rfl) (fun _ _ _ h => h) (load_yields rfl rfl List.mem_cons_self (by rfl)) hT19 ?_
          simp only [Act.put, List.setIfInBounds_toArray, List.set_cons_zero, List.set_cons_succ]
          refine takeAt 70 78 (setV T) rfl rfl (by kernel_rfl) (by kernel_rfl) (by kernel_rfl) (fun _ _ _ h => h) (load_yields rfl rfl (List.mem_cons_of_mem _ List.mem_cons_self) (by rfl)) hT19 ?_
          simp only [Act.put, List.setIfInBounds_toArray, List.set_cons_zero, List.set_cons_succ]
          refine callAt 67 75 rfl rfl (by kernel_rfl) (by rfl) (by kernel_rfl) (or_k S T _) ?_
          rintro e w' ⟨rfl, hb⟩
          refine ⟨_, rfl, hT19.call hb, ?_⟩
          have hT20 := hT19.call hb
          clear hT19 hb
          simp only [Act.put, List.setIfInBounds_toArray, List.set_cons_zero, List.set_cons_succ]
          as_aux_lemma =>
            refine callAt 68 76 rfl rfl (by kernel_rfl) (by rfl) (by kernel_rfl) (fold_any (orS S T) _) ?_
            rintro e w' ⟨rfl, hb⟩
            refine ⟨_, rfl, hT20.call hb, ?_⟩
            have hT21 := hT20.call hb
            clear hT20 hb
            simp only [Act.put, List.setIfInBounds_toArray, List.set_cons_zero, List.set_cons_succ]
            refine callAt 71 79 rfl rfl (by kernel_rfl) (by rfl) (by kernel_rfl) (fold_any T _) ?_
            rintro e w' ⟨rfl, hb⟩
            refine ⟨_, rfl, hT21.call hb, ?_⟩
            have hT22 := hT21.call hb
            clear hT21 hb
            simp only [Act.put, List.setIfInBounds_toArray, List.set_cons_zero, List.set_cons_succ]
            refine callAt 72 80 rfl rfl (by kernel_rfl) (by rfl) (by kernel_rfl) (or_k (foldS S) (foldS T) _) ?_
            rintro e w' ⟨rfl, hb⟩
            refine ⟨_, rfl, hT22.call hb, ?_⟩
            have hT23 := hT22.call hb
            clear hT22 hb
            simp only [Act.put, List.setIfInBounds_toArray, List.set_cons_zero, List.set_cons_succ]
            refine takeAt 73 81 (.bool true) rfl rfl (by kernel_rfl) (by kernel_rfl) (by kernel_rfl) (fun _ _ _ h => h) (eq_yields true rfl rfl rfl (e81) (by rfl)) hT23 ?_
            simp only [Act.put, List.setIfInBounds_toArray, List.set_cons_zero, List.set_cons_succ]
            refine takeAt 74 82 (.bool true) rfl rfl (by kernel_rfl) (by kernel_rfl) (by kernel_rfl) (fun _ _ _ h => h) (yields (by rfl) (fun w => by kernel_rfl)) hT23 ?_
            simp only [Act.put, List.setIfInBounds_toArray, List.set_cons_zero, List.set_cons_succ]
            refine takeAt 75 83 (.bool true) rfl rfl (by kernel_rfl) (by kernel_rfl) (by kernel_rfl) (fun _ _ _ h => h) (yields (by rfl) (fun w => by kernel_rfl)) hT23 ?_
            simp only [Act.put, List.setIfInBounds_toArray, List.set_cons_zero, List.set_cons_succ]
            refine callAt 76 84 rfl rfl (by kernel_rfl) (by rfl) (by kernel_rfl) (hT23.fix HF.out) ?_
            rintro e w' ⟨rfl, hb⟩
            refine ⟨_, rfl, hT23.call hb, ?_⟩
            have hT24 := hT23.call hb
            clear hT23 hb
            simp only [Act.put, List.setIfInBounds_toArray, List.set_cons_zero, List.set_cons_succ]
            refine takeAt 77 85 (.bool true) rfl rfl (by kernel_rfl) (by kernel_rfl) (by kernel_rfl) (fun _ _ _ h => h) (yields (by rfl) (fun w => by kernel_rfl)) hT24 ?_
            simp only [Act.put, List.setIfInBounds_toArray, List.set_cons_zero, List.set_cons_succ]
            refine takeAt 78 4 (.bool true) rfl rfl (by kernel_rfl) (by kernel_rfl) (by kernel_rfl) (fun _ _ _ h => h) (yields (by rfl) (fun w => by kernel_rfl)) hT24 ?_
            simp only [Act.put, List.setIfInBounds_toArray, List.set_cons_zero, List.set_cons_succ]
            refine wpAnyH_done (by kernel_rfl) ?_ _
            go_wp2
            go_ret
            exact ⟨rfl, hT24.2.1⟩
end Go.Proofs.YtobhhhopkkcdiaaDoor
