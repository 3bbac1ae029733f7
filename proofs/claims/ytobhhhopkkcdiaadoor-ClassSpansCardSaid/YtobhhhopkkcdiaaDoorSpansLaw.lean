/-
  The statement ClassSpans: what its walk comes to.
-/
import Derived.Test.YtobhhhopkkcdiaaDoorRegionB
import Derived.Test.YtobhhhopkkcdiaaDoorLawsLaw
namespace Go.Proofs.YtobhhhopkkcdiaaDoor
open Go.RowKit

theorem cntTo_not (f : Nat → Bool) : ∀ n, cntTo (fun k => !f k) n + cntTo f n = n
  | 0 => rfl
  | n + 1 => by have ih := cntTo_not f n; simp only [cntTo]; cases f n <;> simp <;> omega
theorem lenS_not (S : BitVec 256) : lenS (notS S) + lenS S = 256 := by
  unfold lenS
  have h1 : cntTo (notS S).getLsbD 256 = cntTo (fun k => !S.getLsbD k) 256 := cntTo_congr 256 fun k hk => by simp [notS, hk]
  rw [h1]
  exact cntTo_not _ 256
theorem cntTo_span (a k : Nat) : ∀ n, cntTo (fun m => decide (a ≤ m) && decide (m < k)) n = min n k - min n a
  | 0 => by simp [cntTo]
  | n + 1 => by
    have ih := cntTo_span a k n
    simp only [cntTo, ih]
    by_cases h1 : a ≤ n <;> by_cases h2 : n < k <;> simp [h1, h2] <;> omega
theorem lenS_span (x y : Nat) (hx : x < 256) (hy : y < 256) : lenS (span x (y + 1)) = (y + 1) - x := by
  unfold lenS
  have h1 : cntTo (span x (y + 1)).getLsbD 256 = cntTo (fun m => decide (x ≤ m) && decide (m < y + 1)) 256 := cntTo_congr 256 fun k hk => by rw [span_bit]; simp [hk]
  rw [h1, cntTo_span]
  omega
theorem runs_span (x y : Nat) (hxy : x ≤ y) (hy : y < 256) : (runs (span x (y + 1))).length = 1 := by
  have bit : ∀ n, n < 256 → (span x (y + 1)).getLsbD n = (decide (x ≤ n) && decide (n < y + 1)) := fun n hn => by rw [span_bit]; simp [hn]
  have h0 : ∀ k, k ≤ x → runsTo (span x (y + 1)) k = [] := by
    intro k
    induction k with
    | zero => intro _; rfl
    | succ k ih =>
      intro hk
      have e : (span x (y + 1)).getLsbD k = false := by
        rw [bit k (by omega)]
        have : ¬ x ≤ k := by omega
        simp [this]
      rw [runsTo_no _ _ e, ih (by omega)]
  have h1 : runsTo (span x (y + 1)) (y + 1) = [(x, y)] := by
    rw [runsTo_yes _ x y ?_ ?_ hxy (by omega) ?_ ?_, h0 x (Nat.le_refl _), List.nil_append]
    · by_cases e : x = 0
      · exact Or.inl e
      · right
        rw [bit _ (by omega)]
        have : ¬ x ≤ x - 1 := by omega
        simp [this]
    · rw [bit _ (by omega)]
      have : x < y + 1 := by omega
      simp [this]
    · intro m h1 h2
      rw [bit _ (by omega)]
      have a1 : x ≤ m := by omega
      have a2 : m < y + 1 := by omega
      simp [a1, a2]
    · intro h
      rw [bit _ (by omega)]
      simp
  have h2 : ∀ d, y + 1 + d ≤ 256 → runsTo (span x (y + 1)) (y + 1 + d) = [(x, y)] := by
    intro d
    induction d with
    | zero => intro _; exact h1
    | succ d ih =>
      intro hd
      have e : (span x (y + 1)).getLsbD (y + 1 + d) = false := by
        rw [bit _ (by omega)]
        have : ¬ (y + 1 + d < y + 1) := by omega
        simp [this]
      rw [show y + 1 + (d + 1) = (y + 1 + d) + 1 by omega, runsTo_no _ _ e, ih (by omega)]
  unfold runs
  have := h2 (255 - y) (by omega)
  rw [show y + 1 + (255 - y) = 256 by omega] at this
  rw [this]
  rfl

set_option maxHeartbeats 8000000 in
set_option maxRecDepth 100000 in
theorem classSpans_in (hfix : FixedOk) (x y z : Nat) (w : World) (ht : TabOk w) (hx : x < 256) (hy : y < 256) (hz : z < 256) (hac : decide ((x : Int) ≤ (z : Int)) = true) (hcb : decide ((z : Int) ≤ (y : Int)) = true) (hgt : decide ((y : Int) < (x : Int)) = false)
    (hm : mem (span x (y + 1)) z = true) (hl : (lenS (span x (y + 1)) : Int) = ((y : Int) - (x : Int) + 1)) (hnl : (lenS (notS (span x (y + 1))) : Int) = 256 - ((y : Int) - (x : Int) + 1)) (hmax : (if (0 : Int) < (y : Int) - (x : Int) + 1 then (y : Int) - (x : Int) + 1 else 0) = ((y : Int) - (x : Int) + 1)) (hn1 : (runs (span x (y + 1))).length = 1) :
    Calls Tryd.prog 8 #[.int .u8 (x : Int), .int .u8 (y : Int), .int .u8 (z : Int)] w fun e w' => e = .returned (.bool true) ∧ Below w.heap.size w w' := by
  have HF := Lib.hid hfix
  have HT := Lib.hid ht
  have H1 := Lib.hid hac
  have H2 := Lib.hid hcb
  have H3 := Lib.hid hgt
  have H4 := Lib.hid hm
  have H5 := Lib.hid hl
  have H6 := Lib.hid hnl
  have H7 := Lib.hid hmax
  have H8 := Lib.hid hn1
  clear hfix ht hac hcb hgt hm hl hnl hmax hn1
  go_enter Tryd.func8, Tryd.ntmps8
  go_wp2_with fail
  refine (range_k _ _ x y _ rfl rfl hx hy).mono ?_
  rintro e w1 ⟨rfl, hb⟩
  have HS := Lib.hid (((Held.start HT.out).call hb).new (span x (y + 1))).drew
  clear hb
  go_wp2_with fail
  have hS := HS.out
  have hac := H1.out
  have hcb := H2.out
  have hgt := H3.out
  have hm := H4.out
  have hl := H5.out
  have hnl := H6.out
  have hmax := H7.out
  have hn1 := H8.out
  clear H8
  clear HS H1 H2 H3 H4 H5 H6 H7
  have b0 : 0 ≤ ((y : Int) - (x : Int) + 1) ∧ ((y : Int) - (x : Int) + 1) ≤ 256 := by have h5 := hl; have := lenS_le (span x (y + 1)); omega
  refine wp_region_held_drew (S := Held w [(w1.heap.size, span x (y + 1))]) (by kernel_rfl) hS (fun _ => ?_)
  refine takeAt 0 11 (setV (span x (y + 1))) rfl rfl (by kernel_rfl) (by kernel_rfl) (by kernel_rfl) (fun _ _ _ h => h) (load_yields rfl rfl List.mem_cons_self (by rfl)) hS ?_
  simp only [Act.put, List.setIfInBounds_toArray, List.set_cons_zero, List.set_cons_succ]
  refine takeAt 1 12 (.int .u8 (z : Int)) rfl rfl (by kernel_rfl) (by kernel_rfl) (by kernel_rfl) (fun _ _ _ h => h) (yields (by rfl) (fun w => by kernel_rfl)) hS ?_
  simp only [Act.put, List.setIfInBounds_toArray, List.set_cons_zero, List.set_cons_succ]
  refine takeAt 3 14 (.int .u8 (x : Int)) rfl rfl (by kernel_rfl) (by kernel_rfl) (by kernel_rfl) (fun _ _ _ h => h) (yields (by rfl) (fun w => by kernel_rfl)) hS ?_
  simp only [Act.put, List.setIfInBounds_toArray, List.set_cons_zero, List.set_cons_succ]
  refine takeAt 4 15 (.int .u8 (z : Int)) rfl rfl (by kernel_rfl) (by kernel_rfl) (by kernel_rfl) (fun _ _ _ h => h) (yields (by rfl) (fun w => by kernel_rfl)) hS ?_
  simp only [Act.put, List.setIfInBounds_toArray, List.set_cons_zero, List.set_cons_succ]
  refine takeAt 5 16 (.bool true) rfl rfl (by kernel_rfl) (by kernel_rfl) (by kernel_rfl) (fun _ _ _ h => h) (leq8_y true rfl rfl rfl hac (by rfl)) hS ?_
  simp only [Act.put, List.setIfInBounds_toArray, List.set_cons_zero, List.set_cons_succ]
  refine callAt 2 13 rfl rfl (by kernel_rfl) (by rfl) (by kernel_rfl) (has_k (span x (y + 1)) _ z true _ rfl (by omega) hm) ?_
  rintro e w' ⟨rfl, hb⟩
  refine ⟨_, rfl, hS.call hb, ?_⟩
  have hT1 := hS.call hb
  clear hS hb
  simp only [Act.put, List.setIfInBounds_toArray, List.set_cons_zero, List.set_cons_succ]
  refine takeAt 6 17 (.bool true) rfl rfl (by kernel_rfl) (by kernel_rfl) (by kernel_rfl) (fun _ _ _ h => h) (yields (by rfl) (fun w => by kernel_rfl)) hT1 ?_
  simp only [Act.put, List.setIfInBounds_toArray, List.set_cons_zero, List.set_cons_succ]
  refine takeAt 7 18 (.int .u8 (z : Int)) rfl rfl (by kernel_rfl) (by kernel_rfl) (by kernel_rfl) (fun _ _ _ h => h) (yields (by rfl) (fun w => by kernel_rfl)) hT1 ?_
  simp only [Act.put, List.setIfInBounds_toArray, List.set_cons_zero, List.set_cons_succ]
  refine takeAt 8 19 (.int .u8 (y : Int)) rfl rfl (by kernel_rfl) (by kernel_rfl) (by kernel_rfl) (fun _ _ _ h => h) (yields (by rfl) (fun w => by kernel_rfl)) hT1 ?_
  simp only [Act.put, List.setIfInBounds_toArray, List.set_cons_zero, List.set_cons_succ]
  refine takeAt 9 20 (.bool true) rfl rfl (by kernel_rfl) (by kernel_rfl) (by kernel_rfl) (fun _ _ _ h => h) (leq8_y true rfl rfl rfl hcb (by rfl)) hT1 ?_
  simp only [Act.put, List.setIfInBounds_toArray, List.set_cons_zero, List.set_cons_succ]
  refine takeAt 10 21 (.bool true) rfl rfl (by kernel_rfl) (by kernel_rfl) (by kernel_rfl) (fun _ _ _ h => h) (yields (by rfl) (fun w => by kernel_rfl)) hT1 ?_
  simp only [Act.put, List.setIfInBounds_toArray, List.set_cons_zero, List.set_cons_succ]
  refine takeAt 11 22 (.bool true) rfl rfl (by kernel_rfl) (by kernel_rfl) (by kernel_rfl) (fun _ _ _ h => h) (yields (by rfl) (fun w => by kernel_rfl)) hT1 ?_
  simp only [Act.put, List.setIfInBounds_toArray, List.set_cons_zero, List.set_cons_succ]
  refine takeAt 12 23 (.bool true) rfl rfl (by kernel_rfl) (by kernel_rfl) (by kernel_rfl) (fun _ _ _ h => h) (yields (by rfl) (fun w => by kernel_rfl)) hT1 ?_
  simp only [Act.put, List.setIfInBounds_toArray, List.set_cons_zero, List.set_cons_succ]
  refine takeAt 13 24 (setV (span x (y + 1))) rfl rfl (by kernel_rfl) (by kernel_rfl) (by kernel_rfl) (fun _ _ _ h => h) (load_yields rfl rfl List.mem_cons_self (by rfl)) hT1 ?_
  simp only [Act.put, List.setIfInBounds_toArray, List.set_cons_zero, List.set_cons_succ]
  refine takeAt 15 26 (.int .u8 (y : Int)) rfl rfl (by kernel_rfl) (by kernel_rfl) (by kernel_rfl) (fun _ _ _ h => h) (yields (by rfl) (fun w => by kernel_rfl)) hT1 ?_
  simp only [Act.put, List.setIfInBounds_toArray, List.set_cons_zero, List.set_cons_succ]
  refine takeAt 16 27 (.int .i64 (y : Int)) rfl rfl (by kernel_rfl) (by kernel_rfl) (by kernel_rfl) (fun _ _ _ h => h) (conv8_y rfl rfl (by omega) (by omega) (by rfl)) hT1 ?_
  simp only [Act.put, List.setIfInBounds_toArray, List.set_cons_zero, List.set_cons_succ]
  refine takeAt 17 28 (.int .u8 (x : Int)) rfl rfl (by kernel_rfl) (by kernel_rfl) (by kernel_rfl) (fun _ _ _ h => h) (yields (by rfl) (fun w => by kernel_rfl)) hT1 ?_
  simp only [Act.put, List.setIfInBounds_toArray, List.set_cons_zero, List.set_cons_succ]
  refine takeAt 18 29 (.int .i64 (x : Int)) rfl rfl (by kernel_rfl) (by kernel_rfl) (by kernel_rfl) (fun _ _ _ h => h) (conv8_y rfl rfl (by omega) (by omega) (by rfl)) hT1 ?_
  simp only [Act.put, List.setIfInBounds_toArray, List.set_cons_zero, List.set_cons_succ]
  refine takeAt 19 30 (.int .i64 ((y : Int) - (x : Int))) rfl rfl (by kernel_rfl) (by kernel_rfl) (by kernel_rfl) (fun _ _ _ h => h) (sub64_y _ rfl rfl rfl rfl (by omega) (by omega) (by omega) (by omega) (by rfl)) hT1 ?_
  simp only [Act.put, List.setIfInBounds_toArray, List.set_cons_zero, List.set_cons_succ]
  refine takeAt 20 31 (.int .i64 ((y : Int) - (x : Int) + 1)) rfl rfl (by kernel_rfl) (by kernel_rfl) (by kernel_rfl) (fun _ _ _ h => h) (add64_y _ rfl rfl rfl rfl (by omega) (by omega) (by omega) (by omega) (by rfl)) hT1 ?_
  simp only [Act.put, List.setIfInBounds_toArray, List.set_cons_zero, List.set_cons_succ]
  as_aux_lemma =>
    refine takeAt 21 32 (.int .i64 ((y : Int) - (x : Int) + 1)) rfl rfl (by kernel_rfl) (by kernel_rfl) (by kernel_rfl) (fun _ _ _ h => h) (max0_y ((y : Int) - (x : Int) + 1) rfl rfl rfl hmax (by rfl)) hT1 ?_
    simp only [Act.put, List.setIfInBounds_toArray, List.set_cons_zero, List.set_cons_succ]
    refine callAt 14 25 rfl rfl (by kernel_rfl) (by rfl) (by kernel_rfl) (lenZ_k (span x (y + 1)) ((y : Int) - (x : Int) + 1) _ hl) ?_
    rintro e w' ⟨rfl, hb⟩
    refine ⟨_, rfl, hT1.call hb, ?_⟩
    have hT2 := hT1.call hb
    clear hT1 hb
    simp only [Act.put, List.setIfInBounds_toArray, List.set_cons_zero, List.set_cons_succ]
    refine takeAt 22 33 (.bool true) rfl rfl (by kernel_rfl) (by kernel_rfl) (by kernel_rfl) (fun _ _ _ h => h) (eql64_y true rfl rfl rfl (by simp) (by rfl)) hT2 ?_
    simp only [Act.put, List.setIfInBounds_toArray, List.set_cons_zero, List.set_cons_succ]
    refine takeAt 23 34 (.bool true) rfl rfl (by kernel_rfl) (by kernel_rfl) (by kernel_rfl) (fun _ _ _ h => h) (yields (by rfl) (fun w => by kernel_rfl)) hT2 ?_
    simp only [Act.put, List.setIfInBounds_toArray, List.set_cons_zero, List.set_cons_succ]
    refine takeAt 24 35 (.bool true) rfl rfl (by kernel_rfl) (by kernel_rfl) (by kernel_rfl) (fun _ _ _ h => h) (yields (by rfl) (fun w => by kernel_rfl)) hT2 ?_
    simp only [Act.put, List.setIfInBounds_toArray, List.set_cons_zero, List.set_cons_succ]
    refine takeAt 25 36 (.int .u8 (x : Int)) rfl rfl (by kernel_rfl) (by kernel_rfl) (by kernel_rfl) (fun _ _ _ h => h) (yields (by rfl) (fun w => by kernel_rfl)) hT2 ?_
    simp only [Act.put, List.setIfInBounds_toArray, List.set_cons_zero, List.set_cons_succ]
    refine takeAt 26 37 (.int .u8 (y : Int)) rfl rfl (by kernel_rfl) (by kernel_rfl) (by kernel_rfl) (fun _ _ _ h => h) (yields (by rfl) (fun w => by kernel_rfl)) hT2 ?_
    simp only [Act.put, List.setIfInBounds_toArray, List.set_cons_zero, List.set_cons_succ]
    refine takeAt 27 38 (.bool false) rfl rfl (by kernel_rfl) (by kernel_rfl) (by kernel_rfl) (fun _ _ _ h => h) (gtr8_y false rfl rfl rfl hgt (by rfl)) hT2 ?_
    simp only [Act.put, List.setIfInBounds_toArray, List.set_cons_zero, List.set_cons_succ]
    refine takeAt 28 39 (.bool false) rfl rfl (by kernel_rfl) (by kernel_rfl) (by kernel_rfl) (fun _ _ _ h => h) (yields (by rfl) (fun w => by kernel_rfl)) hT2 ?_
    simp only [Act.put, List.setIfInBounds_toArray, List.set_cons_zero, List.set_cons_succ]
    refine takeAt 29 40 (setV (span x (y + 1))) rfl rfl (by kernel_rfl) (by kernel_rfl) (by kernel_rfl) (fun _ _ _ h => h) (load_yields rfl rfl List.mem_cons_self (by rfl)) hT2 ?_
    simp only [Act.put, List.setIfInBounds_toArray, List.set_cons_zero, List.set_cons_succ]
    refine callAt 30 41 rfl rfl (by kernel_rfl) (by rfl) (by kernel_rfl) (ranges_any (span x (y + 1)) _) ?_
    rintro e w' ⟨v, rfl, hr, hb⟩
    obtain ⟨ao, cap, rfl, _⟩ := hr
    rw [hn1]
    refine ⟨_, rfl, hT2.call hb, ?_⟩
    have hT3 := hT2.call hb
    clear hT2 hb
    simp only [Act.put, List.setIfInBounds_toArray, List.set_cons_zero, List.set_cons_succ]
    refine takeAt 31 42 (.int .i64 1) rfl rfl (by kernel_rfl) (by kernel_rfl) (by kernel_rfl) (fun _ _ _ h => h) (len_y ao 1 cap rfl rfl (by rfl)) hT3 ?_
    simp only [Act.put, List.setIfInBounds_toArray, List.set_cons_zero, List.set_cons_succ]
    refine takeAt 32 43 (.bool true) rfl rfl (by kernel_rfl) (by kernel_rfl) (by kernel_rfl) (fun _ _ _ h => h) (eql64_y true rfl rfl rfl rfl (by rfl)) hT3 ?_
    simp only [Act.put, List.setIfInBounds_toArray, List.set_cons_zero, List.set_cons_succ]
    refine takeAt 33 44 (.bool true) rfl rfl (by kernel_rfl) (by kernel_rfl) (by kernel_rfl) (fun _ _ _ h => h) (yields (by rfl) (fun w => by kernel_rfl)) hT3 ?_
    simp only [Act.put, List.setIfInBounds_toArray, List.set_cons_zero, List.set_cons_succ]
    refine takeAt 34 45 (.bool true) rfl rfl (by kernel_rfl) (by kernel_rfl) (by kernel_rfl) (fun _ _ _ h => h) (yields (by rfl) (fun w => by kernel_rfl)) hT3 ?_
    simp only [Act.put, List.setIfInBounds_toArray, List.set_cons_zero, List.set_cons_succ]
    refine takeAt 35 46 (.bool true) rfl rfl (by kernel_rfl) (by kernel_rfl) (by kernel_rfl) (fun _ _ _ h => h) (yields (by rfl) (fun w => by kernel_rfl)) hT3 ?_
    simp only [Act.put, List.setIfInBounds_toArray, List.set_cons_zero, List.set_cons_succ]
    refine takeAt 36 47 (setV (span x (y + 1))) rfl rfl (by kernel_rfl) (by kernel_rfl) (by kernel_rfl) (fun _ _ _ h => h) (load_yields rfl rfl List.mem_cons_self (by rfl)) hT3 ?_
    simp only [Act.put, List.setIfInBounds_toArray, List.set_cons_zero, List.set_cons_succ]
    refine takeAt 39 50 (setV (span x (y + 1))) rfl rfl (by kernel_rfl) (by kernel_rfl) (by kernel_rfl) (fun _ _ _ h => h) (load_yields rfl rfl List.mem_cons_self (by rfl)) hT3 ?_
    simp only [Act.put, List.setIfInBounds_toArray, List.set_cons_zero, List.set_cons_succ]
    refine callAt 37 48 rfl rfl (by kernel_rfl) (by rfl) (by kernel_rfl) (not_k (span x (y + 1)) _) ?_
    rintro e w' ⟨rfl, hb⟩
    refine ⟨_, rfl, hT3.call hb, ?_⟩
    have hT4 := hT3.call hb
    clear hT3 hb
    simp only [Act.put, List.setIfInBounds_toArray, List.set_cons_zero, List.set_cons_succ]
    refine callAt 38 49 rfl rfl (by kernel_rfl) (by rfl) (by kernel_rfl) (lenZ_k (notS (span x (y + 1))) (256 - ((y : Int) - (x : Int) + 1)) _ hnl) ?_
    rintro e w' ⟨rfl, hb⟩
    refine ⟨_, rfl, hT4.call hb, ?_⟩
    have hT5 := hT4.call hb
    clear hT4 hb
    simp only [Act.put, List.setIfInBounds_toArray, List.set_cons_zero, List.set_cons_succ]
    as_aux_lemma =>
      refine callAt 40 51 rfl rfl (by kernel_rfl) (by rfl) (by kernel_rfl) (lenZ_k (span x (y + 1)) ((y : Int) - (x : Int) + 1) _ hl) ?_
      rintro e w' ⟨rfl, hb⟩
      refine ⟨_, rfl, hT5.call hb, ?_⟩
      have hT6 := hT5.call hb
      clear hT5 hb
      simp only [Act.put, List.setIfInBounds_toArray, List.set_cons_zero, List.set_cons_succ]
      refine takeAt 41 52 (.int .i64 (256 - ((y : Int) - (x : Int) + 1))) rfl rfl (by kernel_rfl) (by kernel_rfl) (by kernel_rfl) (fun _ _ _ h => h) (sub64_y _ rfl rfl rfl rfl (by omega) (by omega) (by omega) (by omega) (by rfl)) hT6 ?_
      simp only [Act.put, List.setIfInBounds_toArray, List.set_cons_zero, List.set_cons_succ]
      refine takeAt 42 53 (.bool true) rfl rfl (by kernel_rfl) (by kernel_rfl) (by kernel_rfl) (fun _ _ _ h => h) (eql64_y true rfl rfl rfl (by simp) (by rfl)) hT6 ?_
      simp only [Act.put, List.setIfInBounds_toArray, List.set_cons_zero, List.set_cons_succ]
      refine takeAt 43 54 (.bool true) rfl rfl (by kernel_rfl) (by kernel_rfl) (by kernel_rfl) (fun _ _ _ h => h) (yields (by rfl) (fun w => by kernel_rfl)) hT6 ?_
      simp only [Act.put, List.setIfInBounds_toArray, List.set_cons_zero, List.set_cons_succ]
      refine takeAt 44 55 (.bool true) rfl rfl (by kernel_rfl) (by kernel_rfl) (by kernel_rfl) (fun _ _ _ h => h) (yields (by rfl) (fun w => by kernel_rfl)) hT6 ?_
      simp only [Act.put, List.setIfInBounds_toArray, List.set_cons_zero, List.set_cons_succ]
      refine callAt 45 56 rfl rfl (by kernel_rfl) (by rfl) (by kernel_rfl) (hT6.fix HF.out) ?_
      rintro e w' ⟨rfl, hb⟩
      refine ⟨_, rfl, hT6.call hb, ?_⟩
      have hT7 := hT6.call hb
      clear hT6 hb
      simp only [Act.put, List.setIfInBounds_toArray, List.set_cons_zero, List.set_cons_succ]
      refine takeAt 46 57 (.bool true) rfl rfl (by kernel_rfl) (by kernel_rfl) (by kernel_rfl) (fun _ _ _ h => h) (yields (by rfl) (fun w => by kernel_rfl)) hT7 ?_
      simp only [Act.put, List.setIfInBounds_toArray, List.set_cons_zero, List.set_cons_succ]
      refine takeAt 47 6 (.bool true) rfl rfl (by kernel_rfl) (by kernel_rfl) (by kernel_rfl) (fun _ _ _ h => h) (yields (by rfl) (fun w => by kernel_rfl)) hT7 ?_
      simp only [Act.put, List.setIfInBounds_toArray, List.set_cons_zero, List.set_cons_succ]
      refine wpAnyH_done (by kernel_rfl) ?_ _
      go_wp2
      go_ret
      exact ⟨rfl, hT7.2.1⟩

set_option maxHeartbeats 8000000 in
set_option maxRecDepth 100000 in
theorem classSpans_lo (hfix : FixedOk) (x y z : Nat) (w : World) (ht : TabOk w) (hx : x < 256) (hy : y < 256) (hz : z < 256) (hac : decide ((x : Int) ≤ (z : Int)) = false) (hcb : decide ((z : Int) ≤ (y : Int)) = true) (hgt : decide ((y : Int) < (x : Int)) = false)
    (hm : mem (span x (y + 1)) z = false) (hl : (lenS (span x (y + 1)) : Int) = ((y : Int) - (x : Int) + 1)) (hnl : (lenS (notS (span x (y + 1))) : Int) = 256 - ((y : Int) - (x : Int) + 1)) (hmax : (if (0 : Int) < (y : Int) - (x : Int) + 1 then (y : Int) - (x : Int) + 1 else 0) = ((y : Int) - (x : Int) + 1)) (hn1 : (runs (span x (y + 1))).length = 1) :
    Calls Tryd.prog 8 #[.int .u8 (x : Int), .int .u8 (y : Int), .int .u8 (z : Int)] w fun e w' => e = .returned (.bool true) ∧ Below w.heap.size w w' := by
  have HF := Lib.hid hfix
  have HT := Lib.hid ht
  have H1 := Lib.hid hac
  have H2 := Lib.hid hcb
  have H3 := Lib.hid hgt
  have H4 := Lib.hid hm
  have H5 := Lib.hid hl
  have H6 := Lib.hid hnl
  have H7 := Lib.hid hmax
  have H8 := Lib.hid hn1
  clear hfix ht hac hcb hgt hm hl hnl hmax hn1
  go_enter Tryd.func8, Tryd.ntmps8
  go_wp2_with fail
  refine (range_k _ _ x y _ rfl rfl hx hy).mono ?_
  rintro e w1 ⟨rfl, hb⟩
  have HS := Lib.hid (((Held.start HT.out).call hb).new (span x (y + 1))).drew
  clear hb
  go_wp2_with fail
  have hS := HS.out
  have hac := H1.out
  have hcb := H2.out
  have hgt := H3.out
  have hm := H4.out
  have hl := H5.out
  have hnl := H6.out
  have hmax := H7.out
  have hn1 := H8.out
  clear H8
  clear HS H1 H2 H3 H4 H5 H6 H7
  have b0 : 0 ≤ ((y : Int) - (x : Int) + 1) ∧ ((y : Int) - (x : Int) + 1) ≤ 256 := by have h5 := hl; have := lenS_le (span x (y + 1)); omega
  refine wp_region_held_drew (S := Held w [(w1.heap.size, span x (y + 1))]) (by kernel_rfl) hS (fun _ => ?_)
  refine takeAt 0 11 (setV (span x (y + 1))) rfl rfl (by kernel_rfl) (by kernel_rfl) (by kernel_rfl) (fun _ _ _ h => h) (load_yields rfl rfl List.mem_cons_self (by rfl)) hS ?_
  simp only [Act.put, List.setIfInBounds_toArray, List.set_cons_zero, List.set_cons_succ]
  refine takeAt 1 12 (.int .u8 (z : Int)) rfl rfl (by kernel_rfl) (by kernel_rfl) (by kernel_rfl) (fun _ _ _ h => h) (yields (by rfl) (fun w => by kernel_rfl)) hS ?_
  simp only [Act.put, List.setIfInBounds_toArray, List.set_cons_zero, List.set_cons_succ]
  refine takeAt 3 14 (.int .u8 (x : Int)) rfl rfl (by kernel_rfl) (by kernel_rfl) (by kernel_rfl) (fun _ _ _ h => h) (yields (by rfl) (fun w => by kernel_rfl)) hS ?_
  simp only [Act.put, List.setIfInBounds_toArray, List.set_cons_zero, List.set_cons_succ]
  refine takeAt 4 15 (.int .u8 (z : Int)) rfl rfl (by kernel_rfl) (by kernel_rfl) (by kernel_rfl) (fun _ _ _ h => h) (yields (by rfl) (fun w => by kernel_rfl)) hS ?_
  simp only [Act.put, List.setIfInBounds_toArray, List.set_cons_zero, List.set_cons_succ]
  refine takeAt 5 16 (.bool false) rfl rfl (by kernel_rfl) (by kernel_rfl) (by kernel_rfl) (fun _ _ _ h => h) (leq8_y false rfl rfl rfl hac (by rfl)) hS ?_
  simp only [Act.put, List.setIfInBounds_toArray, List.set_cons_zero, List.set_cons_succ]
  refine callAt 2 13 rfl rfl (by kernel_rfl) (by rfl) (by kernel_rfl) (has_k (span x (y + 1)) _ z false _ rfl (by omega) hm) ?_
  rintro e w' ⟨rfl, hb⟩
  refine ⟨_, rfl, hS.call hb, ?_⟩
  have hT1 := hS.call hb
  clear hS hb
  simp only [Act.put, List.setIfInBounds_toArray, List.set_cons_zero, List.set_cons_succ]
  refine takeAt 6 17 (.bool false) rfl rfl (by kernel_rfl) (by kernel_rfl) (by kernel_rfl) (fun _ _ _ h => h) (yields (by rfl) (fun w => by kernel_rfl)) hT1 ?_
  simp only [Act.put, List.setIfInBounds_toArray, List.set_cons_zero, List.set_cons_succ]
  refine takeAt 7 18 (undef) rfl rfl (by kernel_rfl) (by kernel_rfl) (by kernel_rfl) (fun _ _ _ h => h) (skipped (by rfl)) hT1 ?_
  simp only [Act.put, List.setIfInBounds_toArray, List.set_cons_zero, List.set_cons_succ]
  refine takeAt 8 19 (undef) rfl rfl (by kernel_rfl) (by kernel_rfl) (by kernel_rfl) (fun _ _ _ h => h) (skipped (by rfl)) hT1 ?_
  simp only [Act.put, List.setIfInBounds_toArray, List.set_cons_zero, List.set_cons_succ]
  refine takeAt 9 20 (undef) rfl rfl (by kernel_rfl) (by kernel_rfl) (by kernel_rfl) (fun _ _ _ h => h) (skipped (by rfl)) hT1 ?_
  simp only [Act.put, List.setIfInBounds_toArray, List.set_cons_zero, List.set_cons_succ]
  refine takeAt 10 21 (.bool false) rfl rfl (by kernel_rfl) (by kernel_rfl) (by kernel_rfl) (fun _ _ _ h => h) (yields (by rfl) (fun w => by kernel_rfl)) hT1 ?_
  simp only [Act.put, List.setIfInBounds_toArray, List.set_cons_zero, List.set_cons_succ]
  refine takeAt 11 22 (.bool true) rfl rfl (by kernel_rfl) (by kernel_rfl) (by kernel_rfl) (fun _ _ _ h => h) (yields (by rfl) (fun w => by kernel_rfl)) hT1 ?_
  simp only [Act.put, List.setIfInBounds_toArray, List.set_cons_zero, List.set_cons_succ]
  refine takeAt 12 23 (.bool true) rfl rfl (by kernel_rfl) (by kernel_rfl) (by kernel_rfl) (fun _ _ _ h => h) (yields (by rfl) (fun w => by kernel_rfl)) hT1 ?_
  simp only [Act.put, List.setIfInBounds_toArray, List.set_cons_zero, List.set_cons_succ]
  refine takeAt 13 24 (setV (span x (y + 1))) rfl rfl (by kernel_rfl) (by kernel_rfl) (by kernel_rfl) (fun _ _ _ h => h) (load_yields rfl rfl List.mem_cons_self (by rfl)) hT1 ?_
  simp only [Act.put, List.setIfInBounds_toArray, List.set_cons_zero, List.set_cons_succ]
  refine takeAt 15 26 (.int .u8 (y : Int)) rfl rfl (by kernel_rfl) (by kernel_rfl) (by kernel_rfl) (fun _ _ _ h => h) (yields (by rfl) (fun w => by kernel_rfl)) hT1 ?_
  simp only [Act.put, List.setIfInBounds_toArray, List.set_cons_zero, List.set_cons_succ]
  refine takeAt 16 27 (.int .i64 (y : Int)) rfl rfl (by kernel_rfl) (by kernel_rfl) (by kernel_rfl) (fun _ _ _ h => h) (conv8_y rfl rfl (by omega) (by omega) (by rfl)) hT1 ?_
  simp only [Act.put, List.setIfInBounds_toArray, List.set_cons_zero, List.set_cons_succ]
  refine takeAt 17 28 (.int .u8 (x : Int)) rfl rfl (by kernel_rfl) (by kernel_rfl) (by kernel_rfl) (fun _ _ _ h => h) (yields (by rfl) (fun w => by kernel_rfl)) hT1 ?_
  simp only [Act.put, List.setIfInBounds_toArray, List.set_cons_zero, List.set_cons_succ]
  refine takeAt 18 29 (.int .i64 (x : Int)) rfl rfl (by kernel_rfl) (by kernel_rfl) (by kernel_rfl) (fun _ _ _ h => h) (conv8_y rfl rfl (by omega) (by omega) (by rfl)) hT1 ?_
  simp only [Act.put, List.setIfInBounds_toArray, List.set_cons_zero, List.set_cons_succ]
  refine takeAt 19 30 (.int .i64 ((y : Int) - (x : Int))) rfl rfl (by kernel_rfl) (by kernel_rfl) (by kernel_rfl) (fun _ _ _ h => h) (sub64_y _ rfl rfl rfl rfl (by omega) (by omega) (by omega) (by omega) (by rfl)) hT1 ?_
  simp only [Act.put, List.setIfInBounds_toArray, List.set_cons_zero, List.set_cons_succ]
  refine takeAt 20 31 (.int .i64 ((y : Int) - (x : Int) + 1)) rfl rfl (by kernel_rfl) (by kernel_rfl) (by kernel_rfl) (fun _ _ _ h => h) (add64_y _ rfl rfl rfl rfl (by omega) (by omega) (by omega) (by omega) (by rfl)) hT1 ?_
  simp only [Act.put, List.setIfInBounds_toArray, List.set_cons_zero, List.set_cons_succ]
  as_aux_lemma =>
    refine takeAt 21 32 (.int .i64 ((y : Int) - (x : Int) + 1)) rfl rfl (by kernel_rfl) (by kernel_rfl) (by kernel_rfl) (fun _ _ _ h => h) (max0_y ((y : Int) - (x : Int) + 1) rfl rfl rfl hmax (by rfl)) hT1 ?_
    simp only [Act.put, List.setIfInBounds_toArray, List.set_cons_zero, List.set_cons_succ]
    refine callAt 14 25 rfl rfl (by kernel_rfl) (by rfl) (by kernel_rfl) (lenZ_k (span x (y + 1)) ((y : Int) - (x : Int) + 1) _ hl) ?_
    rintro e w' ⟨rfl, hb⟩
    refine ⟨_, rfl, hT1.call hb, ?_⟩
    have hT2 := hT1.call hb
    clear hT1 hb
    simp only [Act.put, List.setIfInBounds_toArray, List.set_cons_zero, List.set_cons_succ]
    refine takeAt 22 33 (.bool true) rfl rfl (by kernel_rfl) (by kernel_rfl) (by kernel_rfl) (fun _ _ _ h => h) (eql64_y true rfl rfl rfl (by simp) (by rfl)) hT2 ?_
    simp only [Act.put, List.setIfInBounds_toArray, List.set_cons_zero, List.set_cons_succ]
    refine takeAt 23 34 (.bool true) rfl rfl (by kernel_rfl) (by kernel_rfl) (by kernel_rfl) (fun _ _ _ h => h) (yields (by rfl) (fun w => by kernel_rfl)) hT2 ?_
    simp only [Act.put, List.setIfInBounds_toArray, List.set_cons_zero, List.set_cons_succ]
    refine takeAt 24 35 (.bool true) rfl rfl (by kernel_rfl) (by kernel_rfl) (by kernel_rfl) (fun _ _ _ h => h) (yields (by rfl) (fun w => by kernel_rfl)) hT2 ?_
    simp only [Act.put, List.setIfInBounds_toArray, List.set_cons_zero, List.set_cons_succ]
    refine takeAt 25 36 (.int .u8 (x : Int)) rfl rfl (by kernel_rfl) (by kernel_rfl) (by kernel_rfl) (fun _ _ _ h => h) (yields (by rfl) (fun w => by kernel_rfl)) hT2 ?_
    simp only [Act.put, List.setIfInBounds_toArray, List.set_cons_zero, List.set_cons_succ]
    refine takeAt 26 37 (.int .u8 (y : Int)) rfl rfl (by kernel_rfl) (by kernel_rfl) (by kernel_rfl) (fun _ _ _ h => h) (yields (by rfl) (fun w => by kernel_rfl)) hT2 ?_
    simp only [Act.put, List.setIfInBounds_toArray, List.set_cons_zero, List.set_cons_succ]
    refine takeAt 27 38 (.bool false) rfl rfl (by kernel_rfl) (by kernel_rfl) (by kernel_rfl) (fun _ _ _ h => h) (gtr8_y false rfl rfl rfl hgt (by rfl)) hT2 ?_
    simp only [Act.put, List.setIfInBounds_toArray, List.set_cons_zero, List.set_cons_succ]
    refine takeAt 28 39 (.bool false) rfl rfl (by kernel_rfl) (by kernel_rfl) (by kernel_rfl) (fun _ _ _ h => h) (yields (by rfl) (fun w => by kernel_rfl)) hT2 ?_
    simp only [Act.put, List.setIfInBounds_toArray, List.set_cons_zero, List.set_cons_succ]
    refine takeAt 29 40 (setV (span x (y + 1))) rfl rfl (by kernel_rfl) (by kernel_rfl) (by kernel_rfl) (fun _ _ _ h => h) (load_yields rfl rfl List.mem_cons_self (by rfl)) hT2 ?_
    simp only [Act.put, List.setIfInBounds_toArray, List.set_cons_zero, List.set_cons_succ]
    refine callAt 30 41 rfl rfl (by kernel_rfl) (by rfl) (by kernel_rfl) (ranges_any (span x (y + 1)) _) ?_
    rintro e w' ⟨v, rfl, hr, hb⟩
    obtain ⟨ao, cap, rfl, _⟩ := hr
    rw [hn1]
    refine ⟨_, rfl, hT2.call hb, ?_⟩
    have hT3 := hT2.call hb
    clear hT2 hb
    simp only [Act.put, List.setIfInBounds_toArray, List.set_cons_zero, List.set_cons_succ]
    refine takeAt 31 42 (.int .i64 1) rfl rfl (by kernel_rfl) (by kernel_rfl) (by kernel_rfl) (fun _ _ _ h => h) (len_y ao 1 cap rfl rfl (by rfl)) hT3 ?_
    simp only [Act.put, List.setIfInBounds_toArray, List.set_cons_zero, List.set_cons_succ]
    refine takeAt 32 43 (.bool true) rfl rfl (by kernel_rfl) (by kernel_rfl) (by kernel_rfl) (fun _ _ _ h => h) (eql64_y true rfl rfl rfl rfl (by rfl)) hT3 ?_
    simp only [Act.put, List.setIfInBounds_toArray, List.set_cons_zero, List.set_cons_succ]
    refine takeAt 33 44 (.bool true) rfl rfl (by kernel_rfl) (by kernel_rfl) (by kernel_rfl) (fun _ _ _ h => h) (yields (by rfl) (fun w => by kernel_rfl)) hT3 ?_
    simp only [Act.put, List.setIfInBounds_toArray, List.set_cons_zero, List.set_cons_succ]
    refine takeAt 34 45 (.bool true) rfl rfl (by kernel_rfl) (by kernel_rfl) (by kernel_rfl) (fun _ _ _ h => h) (yields (by rfl) (fun w => by kernel_rfl)) hT3 ?_
    simp only [Act.put, List.setIfInBounds_toArray, List.set_cons_zero, List.set_cons_succ]
    refine takeAt 35 46 (.bool true) rfl rfl (by kernel_rfl) (by kernel_rfl) (by kernel_rfl) (fun _ _ _ h => h) (yields (by rfl) (fun w => by kernel_rfl)) hT3 ?_
    simp only [Act.put, List.setIfInBounds_toArray, List.set_cons_zero, List.set_cons_succ]
    refine takeAt 36 47 (setV (span x (y + 1))) rfl rfl (by kernel_rfl) (by kernel_rfl) (by kernel_rfl) (fun _ _ _ h => h) (load_yields rfl rfl List.mem_cons_self (by rfl)) hT3 ?_
    simp only [Act.put, List.setIfInBounds_toArray, List.set_cons_zero, List.set_cons_succ]
    refine takeAt 39 50 (setV (span x (y + 1))) rfl rfl (by kernel_rfl) (by kernel_rfl) (by kernel_rfl) (fun _ _ _ h => h) (load_yields rfl rfl List.mem_cons_self (by rfl)) hT3 ?_
    simp only [Act.put, List.setIfInBounds_toArray, List.set_cons_zero, List.set_cons_succ]
    refine callAt 37 48 rfl rfl (by kernel_rfl) (by rfl) (by kernel_rfl) (not_k (span x (y + 1)) _) ?_
    rintro e w' ⟨rfl, hb⟩
    refine ⟨_, rfl, hT3.call hb, ?_⟩
    have hT4 := hT3.call hb
    clear hT3 hb
    simp only [Act.put, List.setIfInBounds_toArray, List.set_cons_zero, List.set_cons_succ]
    refine callAt 38 49 rfl rfl (by kernel_rfl) (by rfl) (by kernel_rfl) (lenZ_k (notS (span x (y + 1))) (256 - ((y : Int) - (x : Int) + 1)) _ hnl) ?_
    rintro e w' ⟨rfl, hb⟩
    refine ⟨_, rfl, hT4.call hb, ?_⟩
    have hT5 := hT4.call hb
    clear hT4 hb
    simp only [Act.put, List.setIfInBounds_toArray, List.set_cons_zero, List.set_cons_succ]
    as_aux_lemma =>
      refine callAt 40 51 rfl rfl (by kernel_rfl) (by rfl) (by kernel_rfl) (lenZ_k (span x (y + 1)) ((y : Int) - (x : Int) + 1) _ hl) ?_
      rintro e w' ⟨rfl, hb⟩
      refine ⟨_, rfl, hT5.call hb, ?_⟩
      have hT6 := hT5.call hb
      clear hT5 hb
      simp only [Act.put, List.setIfInBounds_toArray, List.set_cons_zero, List.set_cons_succ]
      refine takeAt 41 52 (.int .i64 (256 - ((y : Int) - (x : Int) + 1))) rfl rfl (by kernel_rfl) (by kernel_rfl) (by kernel_rfl) (fun _ _ _ h => h) (sub64_y _ rfl rfl rfl rfl (by omega) (by omega) (by omega) (by omega) (by rfl)) hT6 ?_
      simp only [Act.put, List.setIfInBounds_toArray, List.set_cons_zero, List.set_cons_succ]
      refine takeAt 42 53 (.bool true) rfl rfl (by kernel_rfl) (by kernel_rfl) (by kernel_rfl) (fun _ _ _ h => h) (eql64_y true rfl rfl rfl (by simp) (by rfl)) hT6 ?_
      simp only [Act.put, List.setIfInBounds_toArray, List.set_cons_zero, List.set_cons_succ]
      refine takeAt 43 54 (.bool true) rfl rfl (by kernel_rfl) (by kernel_rfl) (by kernel_rfl) (fun _ _ _ h => h) (yields (by rfl) (fun w => by kernel_rfl)) hT6 ?_
      simp only [Act.put, List.setIfInBounds_toArray, List.set_cons_zero, List.set_cons_succ]
      refine takeAt 44 55 (.bool true) rfl rfl (by kernel_rfl) (by kernel_rfl) (by kernel_rfl) (fun _ _ _ h => h) (yields (by rfl) (fun w => by kernel_rfl)) hT6 ?_
      simp only [Act.put, List.setIfInBounds_toArray, List.set_cons_zero, List.set_cons_succ]
      refine callAt 45 56 rfl rfl (by kernel_rfl) (by rfl) (by kernel_rfl) (hT6.fix HF.out) ?_
      rintro e w' ⟨rfl, hb⟩
      refine ⟨_, rfl, hT6.call hb, ?_⟩
      have hT7 := hT6.call hb
      clear hT6 hb
      simp only [Act.put, List.setIfInBounds_toArray, List.set_cons_zero, List.set_cons_succ]
      refine takeAt 46 57 (.bool true) rfl rfl (by kernel_rfl) (by kernel_rfl) (by kernel_rfl) (fun _ _ _ h => h) (yields (by rfl) (fun w => by kernel_rfl)) hT7 ?_
      simp only [Act.put, List.setIfInBounds_toArray, List.set_cons_zero, List.set_cons_succ]
      refine takeAt 47 6 (.bool true) rfl rfl (by kernel_rfl) (by kernel_rfl) (by kernel_rfl) (fun _ _ _ h => h) (yields (by rfl) (fun w => by kernel_rfl)) hT7 ?_
      simp only [Act.put, List.setIfInBounds_toArray, List.set_cons_zero, List.set_cons_succ]
      refine wpAnyH_done (by kernel_rfl) ?_ _
      go_wp2
      go_ret
      exact ⟨rfl, hT7.2.1⟩

set_option maxHeartbeats 8000000 in
set_option maxRecDepth 100000 in
theorem classSpans_hi (hfix : FixedOk) (x y z : Nat) (w : World) (ht : TabOk w) (hx : x < 256) (hy : y < 256) (hz : z < 256) (hac : decide ((x : Int) ≤ (z : Int)) = true) (hcb : decide ((z : Int) ≤ (y : Int)) = false) (hgt : decide ((y : Int) < (x : Int)) = false)
    (hm : mem (span x (y + 1)) z = false) (hl : (lenS (span x (y + 1)) : Int) = ((y : Int) - (x : Int) + 1)) (hnl : (lenS (notS (span x (y + 1))) : Int) = 256 - ((y : Int) - (x : Int) + 1)) (hmax : (if (0 : Int) < (y : Int) - (x : Int) + 1 then (y : Int) - (x : Int) + 1 else 0) = ((y : Int) - (x : Int) + 1)) (hn1 : (runs (span x (y + 1))).length = 1) :
    Calls Tryd.prog 8 #[.int .u8 (x : Int), .int .u8 (y : Int), .int .u8 (z : Int)] w fun e w' => e = .returned (.bool true) ∧ Below w.heap.size w w' := by
  have HF := Lib.hid hfix
  have HT := Lib.hid ht
  have H1 := Lib.hid hac
  have H2 := Lib.hid hcb
  have H3 := Lib.hid hgt
  have H4 := Lib.hid hm
  have H5 := Lib.hid hl
  have H6 := Lib.hid hnl
  have H7 := Lib.hid hmax
  have H8 := Lib.hid hn1
  clear hfix ht hac hcb hgt hm hl hnl hmax hn1
  go_enter Tryd.func8, Tryd.ntmps8
  go_wp2_with fail
  refine (range_k _ _ x y _ rfl rfl hx hy).mono ?_
  rintro e w1 ⟨rfl, hb⟩
  have HS := Lib.hid (((Held.start HT.out).call hb).new (span x (y + 1))).drew
  clear hb
  go_wp2_with fail
  have hS := HS.out
  have hac := H1.out
  have hcb := H2.out
  have hgt := H3.out
  have hm := H4.out
  have hl := H5.out
  have hnl := H6.out
  have hmax := H7.out
  have hn1 := H8.out
  clear H8
  clear HS H1 H2 H3 H4 H5 H6 H7
  have b0 : 0 ≤ ((y : Int) - (x : Int) + 1) ∧ ((y : Int) - (x : Int) + 1) ≤ 256 := by have h5 := hl; have := lenS_le (span x (y + 1)); omega
  refine wp_region_held_drew (S := Held w [(w1.heap.size, span x (y + 1))]) (by kernel_rfl) hS (fun _ => ?_)
  refine takeAt 0 11 (setV (span x (y + 1))) rfl rfl (by kernel_rfl) (by kernel_rfl) (by kernel_rfl) (fun _ _ _ h => h) (load_yields rfl rfl List.mem_cons_self (by rfl)) hS ?_
  simp only [Act.put, List.setIfInBounds_toArray, List.set_cons_zero, List.set_cons_succ]
  refine takeAt 1 12 (.int .u8 (z : Int)) rfl rfl (by kernel_rfl) (by kernel_rfl) (by kernel_rfl) (fun _ _ _ h => h) (yields (by rfl) (fun w => by kernel_rfl)) hS ?_
  simp only [Act.put, List.setIfInBounds_toArray, List.set_cons_zero, List.set_cons_succ]
  refine takeAt 3 14 (.int .u8 (x : Int)) rfl rfl (by kernel_rfl) (by kernel_rfl) (by kernel_rfl) (fun _ _ _ h => h) (yields (by rfl) (fun w => by kernel_rfl)) hS ?_
  simp only [Act.put, List.setIfInBounds_toArray, List.set_cons_zero, List.set_cons_succ]
  refine takeAt 4 15 (.int .u8 (z : Int)) rfl rfl (by kernel_rfl) (by kernel_rfl) (by kernel_rfl) (fun _ _ _ h => h) (yields (by rfl) (fun w => by kernel_rfl)) hS ?_
  simp only [Act.put, List.setIfInBounds_toArray, List.set_cons_zero, List.set_cons_succ]
  refine takeAt 5 16 (.bool true) rfl rfl (by kernel_rfl) (by kernel_rfl) (by kernel_rfl) (fun _ _ _ h => h) (leq8_y true rfl rfl rfl hac (by rfl)) hS ?_
  simp only [Act.put, List.setIfInBounds_toArray, List.set_cons_zero, List.set_cons_succ]
  refine callAt 2 13 rfl rfl (by kernel_rfl) (by rfl) (by kernel_rfl) (has_k (span x (y + 1)) _ z false _ rfl (by omega) hm) ?_
  rintro e w' ⟨rfl, hb⟩
  refine ⟨_, rfl, hS.call hb, ?_⟩
  have hT1 := hS.call hb
  clear hS hb
  simp only [Act.put, List.setIfInBounds_toArray, List.set_cons_zero, List.set_cons_succ]
  refine takeAt 6 17 (.bool true) rfl rfl (by kernel_rfl) (by kernel_rfl) (by kernel_rfl) (fun _ _ _ h => h) (yields (by rfl) (fun w => by kernel_rfl)) hT1 ?_
  simp only [Act.put, List.setIfInBounds_toArray, List.set_cons_zero, List.set_cons_succ]
  refine takeAt 7 18 (.int .u8 (z : Int)) rfl rfl (by kernel_rfl) (by kernel_rfl) (by kernel_rfl) (fun _ _ _ h => h) (yields (by rfl) (fun w => by kernel_rfl)) hT1 ?_
  simp only [Act.put, List.setIfInBounds_toArray, List.set_cons_zero, List.set_cons_succ]
  refine takeAt 8 19 (.int .u8 (y : Int)) rfl rfl (by kernel_rfl) (by kernel_rfl) (by kernel_rfl) (fun _ _ _ h => h) (yields (by rfl) (fun w => by kernel_rfl)) hT1 ?_
  simp only [Act.put, List.setIfInBounds_toArray, List.set_cons_zero, List.set_cons_succ]
  refine takeAt 9 20 (.bool false) rfl rfl (by kernel_rfl) (by kernel_rfl) (by kernel_rfl) (fun _ _ _ h => h) (leq8_y false rfl rfl rfl hcb (by rfl)) hT1 ?_
  simp only [Act.put, List.setIfInBounds_toArray, List.set_cons_zero, List.set_cons_succ]
  refine takeAt 10 21 (.bool false) rfl rfl (by kernel_rfl) (by kernel_rfl) (by kernel_rfl) (fun _ _ _ h => h) (yields (by rfl) (fun w => by kernel_rfl)) hT1 ?_
  simp only [Act.put, List.setIfInBounds_toArray, List.set_cons_zero, List.set_cons_succ]
  refine takeAt 11 22 (.bool true) rfl rfl (by kernel_rfl) (by kernel_rfl) (by kernel_rfl) (fun _ _ _ h => h) (yields (by rfl) (fun w => by kernel_rfl)) hT1 ?_
  simp only [Act.put, List.setIfInBounds_toArray, List.set_cons_zero, List.set_cons_succ]
  refine takeAt 12 23 (.bool true) rfl rfl (by kernel_rfl) (by kernel_rfl) (by kernel_rfl) (fun _ _ _ h => h) (yields (by rfl) (fun w => by kernel_rfl)) hT1 ?_
  simp only [Act.put, List.setIfInBounds_toArray, List.set_cons_zero, List.set_cons_succ]
  refine takeAt 13 24 (setV (span x (y + 1))) rfl rfl (by kernel_rfl) (by kernel_rfl) (by kernel_rfl) (fun _ _ _ h => h) (load_yields rfl rfl List.mem_cons_self (by rfl)) hT1 ?_
  simp only [Act.put, List.setIfInBounds_toArray, List.set_cons_zero, List.set_cons_succ]
  refine takeAt 15 26 (.int .u8 (y : Int)) rfl rfl (by kernel_rfl) (by kernel_rfl) (by kernel_rfl) (fun _ _ _ h => h) (yields (by rfl) (fun w => by kernel_rfl)) hT1 ?_
  simp only [Act.put, List.setIfInBounds_toArray, List.set_cons_zero, List.set_cons_succ]
  refine takeAt 16 27 (.int .i64 (y : Int)) rfl rfl (by kernel_rfl) (by kernel_rfl) (by kernel_rfl) (fun _ _ _ h => h) (conv8_y rfl rfl (by omega) (by omega) (by rfl)) hT1 ?_
  simp only [Act.put, List.setIfInBounds_toArray, List.set_cons_zero, List.set_cons_succ]
  refine takeAt 17 28 (.int .u8 (x : Int)) rfl rfl (by kernel_rfl) (by kernel_rfl) (by kernel_rfl) (fun _ _ _ h => h) (yields (by rfl) (fun w => by kernel_rfl)) hT1 ?_
  simp only [Act.put, List.setIfInBounds_toArray, List.set_cons_zero, List.set_cons_succ]
  refine takeAt 18 29 (.int .i64 (x : Int)) rfl rfl (by kernel_rfl) (by kernel_rfl) (by kernel_rfl) (fun _ _ _ h => h) (conv8_y rfl rfl (by omega) (by omega) (by rfl)) hT1 ?_
  simp only [Act.put, List.setIfInBounds_toArray, List.set_cons_zero, List.set_cons_succ]
  refine takeAt 19 30 (.int .i64 ((y : Int) - (x : Int))) rfl rfl (by kernel_rfl) (by kernel_rfl) (by kernel_rfl) (fun _ _ _ h => h) (sub64_y _ rfl rfl rfl rfl (by omega) (by omega) (by omega) (by omega) (by rfl)) hT1 ?_
  simp only [Act.put, List.setIfInBounds_toArray, List.set_cons_zero, List.set_cons_succ]
  refine takeAt 20 31 (.int .i64 ((y : Int) - (x : Int) + 1)) rfl rfl (by kernel_rfl) (by kernel_rfl) (by kernel_rfl) (fun _ _ _ h => h) (add64_y _ rfl rfl rfl rfl (by omega) (by omega) (by omega) (by omega) (by rfl)) hT1 ?_
  simp only [Act.put, List.setIfInBounds_toArray, List.set_cons_zero, List.set_cons_succ]
  as_aux_lemma =>
    refine takeAt 21 32 (.int .i64 ((y : Int) - (x : Int) + 1)) rfl rfl (by kernel_rfl) (by kernel_rfl) (by kernel_rfl) (fun _ _ _ h => h) (max0_y ((y : Int) - (x : Int) + 1) rfl rfl rfl hmax (by rfl)) hT1 ?_
    simp only [Act.put, List.setIfInBounds_toArray, List.set_cons_zero, List.set_cons_succ]
    refine callAt 14 25 rfl rfl (by kernel_rfl) (by rfl) (by kernel_rfl) (lenZ_k (span x (y + 1)) ((y : Int) - (x : Int) + 1) _ hl) ?_
    rintro e w' ⟨rfl, hb⟩
    refine ⟨_, rfl, hT1.call hb, ?_⟩
    have hT2 := hT1.call hb
    clear hT1 hb
    simp only [Act.put, List.setIfInBounds_toArray, List.set_cons_zero, List.set_cons_succ]
    refine takeAt 22 33 (.bool true) rfl rfl (by kernel_rfl) (by kernel_rfl) (by kernel_rfl) (fun _ _ _ h => h) (eql64_y true rfl rfl rfl (by simp) (by rfl)) hT2 ?_
    simp only [Act.put, List.setIfInBounds_toArray, List.set_cons_zero, List.set_cons_succ]
    refine takeAt 23 34 (.bool true) rfl rfl (by kernel_rfl) (by kernel_rfl) (by kernel_rfl) (fun _ _ _ h => h) (yields (by rfl) (fun w => by kernel_rfl)) hT2 ?_
    simp only [Act.put, List.setIfInBounds_toArray, List.set_cons_zero, List.set_cons_succ]
    refine takeAt 24 35 (.bool true) rfl rfl (by kernel_rfl) (by kernel_rfl) (by kernel_rfl) (fun _ _ _ h => h) (yields (by rfl) (fun w => by kernel_rfl)) hT2 ?_
    simp only [Act.put, List.setIfInBounds_toArray, List.set_cons_zero, List.set_cons_succ]
    refine takeAt 25 36 (.int .u8 (x : Int)) rfl rfl (by kernel_rfl) (by kernel_rfl) (by kernel_rfl) (fun _ _ _ h => h) (yields (by rfl) (fun w => by kernel_rfl)) hT2 ?_
    simp only [Act.put, List.setIfInBounds_toArray, List.set_cons_zero, List.set_cons_succ]
    refine takeAt 26 37 (.int .u8 (y : Int)) rfl rfl (by kernel_rfl) (by kernel_rfl) (by kernel_rfl) (fun _ _ _ h => h) (yields (by rfl) (fun w => by kernel_rfl)) hT2 ?_
    simp only [Act.put, List.setIfInBounds_toArray, List.set_cons_zero, List.set_cons_succ]
    refine takeAt 27 38 (.bool false) rfl rfl (by kernel_rfl) (by kernel_rfl) (by kernel_rfl) (fun _ _ _ h => h) (gtr8_y false rfl rfl rfl hgt (by rfl)) hT2 ?_
    simp only [Act.put, List.setIfInBounds_toArray, List.set_cons_zero, List.set_cons_succ]
    refine takeAt 28 39 (.bool false) rfl rfl (by kernel_rfl) (by kernel_rfl) (by kernel_rfl) (fun _ _ _ h => h) (yields (by rfl) (fun w => by kernel_rfl)) hT2 ?_
    simp only [Act.put, List.setIfInBounds_toArray, List.set_cons_zero, List.set_cons_succ]
    refine takeAt 29 40 (setV (span x (y + 1))) rfl rfl (by kernel_rfl) (by kernel_rfl) (by kernel_rfl) (fun _ _ _ h => h) (load_yields rfl rfl List.mem_cons_self (by rfl)) hT2 ?_
    simp only [Act.put, List.setIfInBounds_toArray, List.set_cons_zero, List.set_cons_succ]
    refine callAt 30 41 rfl rfl (by kernel_rfl) (by rfl) (by kernel_rfl) (ranges_any (span x (y + 1)) _) ?_
    rintro e w' ⟨v, rfl, hr, hb⟩
    obtain ⟨ao, cap, rfl, _⟩ := hr
    rw [hn1]
    refine ⟨_, rfl, hT2.call hb, ?_⟩
    have hT3 := hT2.call hb
    clear hT2 hb
    simp only [Act.put, List.setIfInBounds_toArray, List.set_cons_zero, List.set_cons_succ]
    refine takeAt 31 42 (.int .i64 1) rfl rfl (by kernel_rfl) (by kernel_rfl) (by kernel_rfl) (fun _ _ _ h => h) (len_y ao 1 cap rfl rfl (by rfl)) hT3 ?_
    simp only [Act.put, List.setIfInBounds_toArray, List.set_cons_zero, List.set_cons_succ]
    refine takeAt 32 43 (.bool true) rfl rfl (by kernel_rfl) (by kernel_rfl) (by kernel_rfl) (fun _ _ _ h => h) (eql64_y true rfl rfl rfl rfl (by rfl)) hT3 ?_
    simp only [Act.put, List.setIfInBounds_toArray, List.set_cons_zero, List.set_cons_succ]
    refine takeAt 33 44 (.bool true) rfl rfl (by kernel_rfl) (by kernel_rfl) (by kernel_rfl) (fun _ _ _ h => h) (yields (by rfl) (fun w => by kernel_rfl)) hT3 ?_
    simp only [Act.put, List.setIfInBounds_toArray, List.set_cons_zero, List.set_cons_succ]
    refine takeAt 34 45 (.bool true) rfl rfl (by kernel_rfl) (by kernel_rfl) (by kernel_rfl) (fun _ _ _ h => h) (yields (by rfl) (fun w => by kernel_rfl)) hT3 ?_
    simp only [Act.put, List.setIfInBounds_toArray, List.set_cons_zero, List.set_cons_succ]
    refine takeAt 35 46 (.bool true) rfl rfl (by kernel_rfl) (by kernel_rfl) (by kernel_rfl) (fun _ _ _ h => h) (yields (by rfl) (fun w => by kernel_rfl)) hT3 ?_
    simp only [Act.put, List.setIfInBounds_toArray, List.set_cons_zero, List.set_cons_succ]
    refine takeAt 36 47 (setV (span x (y + 1))) rfl rfl (by kernel_rfl) (by kernel_rfl) (by kernel_rfl) (fun _ _ _ h => h) (load_yields rfl rfl List.mem_cons_self (by rfl)) hT3 ?_
    simp only [Act.put, List.setIfInBounds_toArray, List.set_cons_zero, List.set_cons_succ]
    refine takeAt 39 50 (setV (span x (y + 1))) rfl rfl (by kernel_rfl) (by kernel_rfl) (by kernel_rfl) (fun _ _ _ h => h) (load_yields rfl rfl List.mem_cons_self (by rfl)) hT3 ?_
    simp only [Act.put, List.setIfInBounds_toArray, List.set_cons_zero, List.set_cons_succ]
    refine callAt 37 48 rfl rfl (by kernel_rfl) (by rfl) (by kernel_rfl) (not_k (span x (y + 1)) _) ?_
    rintro e w' ⟨rfl, hb⟩
    refine ⟨_, rfl, hT3.call hb, ?_⟩
    have hT4 := hT3.call hb
    clear hT3 hb
    simp only [Act.put, List.setIfInBounds_toArray, List.set_cons_zero, List.set_cons_succ]
    refine callAt 38 49 rfl rfl (by kernel_rfl) (by rfl) (by kernel_rfl) (lenZ_k (notS (span x (y + 1))) (256 - ((y : Int) - (x : Int) + 1)) _ hnl) ?_
    rintro e w' ⟨rfl, hb⟩
    refine ⟨_, rfl, hT4.call hb, ?_⟩
    have hT5 := hT4.call hb
    clear hT4 hb
    simp only [Act.put, List.setIfInBounds_toArray, List.set_cons_zero, List.set_cons_succ]
    as_aux_lemma =>
      refine callAt 40 51 rfl rfl (by kernel_rfl) (by rfl) (by kernel_rfl) (lenZ_k (span x (y + 1)) ((y : Int) - (x : Int) + 1) _ hl) ?_
      rintro e w' ⟨rfl, hb⟩
      refine ⟨_, rfl, hT5.call hb, ?_⟩
      have hT6 := hT5.call hb
      clear hT5 hb
      simp only [Act.put, List.setIfInBounds_toArray, List.set_cons_zero, List.set_cons_succ]
      refine takeAt 41 52 (.int .i64 (256 - ((y : Int) - (x : Int) + 1))) rfl rfl (by kernel_rfl) (by kernel_rfl) (by kernel_rfl) (fun _ _ _ h => h) (sub64_y _ rfl rfl rfl rfl (by omega) (by omega) (by omega) (by omega) (by rfl)) hT6 ?_
      simp only [Act.put, List.setIfInBounds_toArray, List.set_cons_zero, List.set_cons_succ]
      refine takeAt 42 53 (.bool true) rfl rfl (by kernel_rfl) (by kernel_rfl) (by kernel_rfl) (fun _ _ _ h => h) (eql64_y true rfl rfl rfl (by simp) (by rfl)) hT6 ?_
      simp only [Act.put, List.setIfInBounds_toArray, List.set_cons_zero, List.set_cons_succ]
      refine takeAt 43 54 (.bool true) rfl rfl (by kernel_rfl) (by kernel_rfl) (by kernel_rfl) (fun _ _ _ h => h) (yields (by rfl) (fun w => by kernel_rfl)) hT6 ?_
      simp only [Act.put, List.setIfInBounds_toArray, List.set_cons_zero, List.set_cons_succ]
      refine takeAt 44 55 (.bool true) rfl rfl (by kernel_rfl) (by kernel_rfl) (by kernel_rfl) (fun _ _ _ h => h) (yields (by rfl) (fun w => by kernel_rfl)) hT6 ?_
      simp only [Act.put, List.setIfInBounds_toArray, List.set_cons_zero, List.set_cons_succ]
      refine callAt 45 56 rfl rfl (by kernel_rfl) (by rfl) (by kernel_rfl) (hT6.fix HF.out) ?_
      rintro e w' ⟨rfl, hb⟩
      refine ⟨_, rfl, hT6.call hb, ?_⟩
      have hT7 := hT6.call hb
      clear hT6 hb
      simp only [Act.put, List.setIfInBounds_toArray, List.set_cons_zero, List.set_cons_succ]
      refine takeAt 46 57 (.bool true) rfl rfl (by kernel_rfl) (by kernel_rfl) (by kernel_rfl) (fun _ _ _ h => h) (yields (by rfl) (fun w => by kernel_rfl)) hT7 ?_
      simp only [Act.put, List.setIfInBounds_toArray, List.set_cons_zero, List.set_cons_succ]
      refine takeAt 47 6 (.bool true) rfl rfl (by kernel_rfl) (by kernel_rfl) (by kernel_rfl) (fun _ _ _ h => h) (yields (by rfl) (fun w => by kernel_rfl)) hT7 ?_
      simp only [Act.put, List.setIfInBounds_toArray, List.set_cons_zero, List.set_cons_succ]
      refine wpAnyH_done (by kernel_rfl) ?_ _
      go_wp2
      go_ret
      exact ⟨rfl, hT7.2.1⟩

set_option maxHeartbeats 8000000 in
set_option maxRecDepth 100000 in
theorem classSpans_gA (hfix : FixedOk) (x y z : Nat) (w : World) (ht : TabOk w) (hx : x < 256) (hy : y < 256) (hz : z < 256) (hac : decide ((x : Int) ≤ (z : Int)) = true) (hcb : decide ((z : Int) ≤ (y : Int)) = false) (hgt : decide ((y : Int) < (x : Int)) = true)
    (hm : mem (span x (y + 1)) z = false) (hl : (lenS (span x (y + 1)) : Int) = 0) (hnl : (lenS (notS (span x (y + 1))) : Int) = 256 - 0) (hmax : (if (0 : Int) < (y : Int) - (x : Int) + 1 then (y : Int) - (x : Int) + 1 else 0) = 0) :
    Calls Tryd.prog 8 #[.int .u8 (x : Int), .int .u8 (y : Int), .int .u8 (z : Int)] w fun e w' => e = .returned (.bool true) ∧ Below w.heap.size w w' := by
  have HF := Lib.hid hfix
  have HT := Lib.hid ht
  have H1 := Lib.hid hac
  have H2 := Lib.hid hcb
  have H3 := Lib.hid hgt
  have H4 := Lib.hid hm
  have H5 := Lib.hid hl
  have H6 := Lib.hid hnl
  have H7 := Lib.hid hmax
  clear hfix ht hac hcb hgt hm hl hnl hmax
  go_enter Tryd.func8, Tryd.ntmps8
  go_wp2_with fail
  refine (range_k _ _ x y _ rfl rfl hx hy).mono ?_
  rintro e w1 ⟨rfl, hb⟩
  have HS := Lib.hid (((Held.start HT.out).call hb).new (span x (y + 1))).drew
  clear hb
  go_wp2_with fail
  have hS := HS.out
  have hac := H1.out
  have hcb := H2.out
  have hgt := H3.out
  have hm := H4.out
  have hl := H5.out
  have hnl := H6.out
  have hmax := H7.out
  clear HS H1 H2 H3 H4 H5 H6 H7
  have b0 : 0 ≤ 0 ∧ 0 ≤ 256 := by have h5 := hl; have := lenS_le (span x (y + 1)); omega
  refine wp_region_held_drew (S := Held w [(w1.heap.size, span x (y + 1))]) (by kernel_rfl) hS (fun _ => ?_)
  refine takeAt 0 11 (setV (span x (y + 1))) rfl rfl (by kernel_rfl) (by kernel_rfl) (by kernel_rfl) (fun _ _ _ h => h) (load_yields rfl rfl List.mem_cons_self (by rfl)) hS ?_
  simp only [Act.put, List.setIfInBounds_toArray, List.set_cons_zero, List.set_cons_succ]
  refine takeAt 1 12 (.int .u8 (z : Int)) rfl rfl (by kernel_rfl) (by kernel_rfl) (by kernel_rfl) (fun _ _ _ h => h) (yields (by rfl) (fun w => by kernel_rfl)) hS ?_
  simp only [Act.put, List.setIfInBounds_toArray, List.set_cons_zero, List.set_cons_succ]
  refine takeAt 3 14 (.int .u8 (x : Int)) rfl rfl (by kernel_rfl) (by kernel_rfl) (by kernel_rfl) (fun _ _ _ h => h) (yields (by rfl) (fun w => by kernel_rfl)) hS ?_
  simp only [Act.put, List.setIfInBounds_toArray, List.set_cons_zero, List.set_cons_succ]
  refine takeAt 4 15 (.int .u8 (z : Int)) rfl rfl (by kernel_rfl) (by kernel_rfl) (by kernel_rfl) (fun _ _ _ h => h) (yields (by rfl) (fun w => by kernel_rfl)) hS ?_
  simp only [Act.put, List.setIfInBounds_toArray, List.set_cons_zero, List.set_cons_succ]
  refine takeAt 5 16 (.bool true) rfl rfl (by kernel_rfl) (by kernel_rfl) (by kernel_rfl) (fun _ _ _ h => h) (leq8_y true rfl rfl rfl hac (by rfl)) hS ?_
  simp only [Act.put, List.setIfInBounds_toArray, List.set_cons_zero, List.set_cons_succ]
  refine callAt 2 13 rfl rfl (by kernel_rfl) (by rfl) (by kernel_rfl) (has_k (span x (y + 1)) _ z false _ rfl (by omega) hm) ?_
  rintro e w' ⟨rfl, hb⟩
  refine ⟨_, rfl, hS.call hb, ?_⟩
  have hT1 := hS.call hb
  clear hS hb
  simp only [Act.put, List.setIfInBounds_toArray, List.set_cons_zero, List.set_cons_succ]
  refine takeAt 6 17 (.bool true) rfl rfl (by kernel_rfl) (by kernel_rfl) (by kernel_rfl) (fun _ _ _ h => h) (yields (by rfl) (fun w => by kernel_rfl)) hT1 ?_
  simp only [Act.put, List.setIfInBounds_toArray, List.set_cons_zero, List.set_cons_succ]
  refine takeAt 7 18 (.int .u8 (z : Int)) rfl rfl (by kernel_rfl) (by kernel_rfl) (by kernel_rfl) (fun _ _ _ h => h) (yields (by rfl) (fun w => by kernel_rfl)) hT1 ?_
  simp only [Act.put, List.setIfInBounds_toArray, List.set_cons_zero, List.set_cons_succ]
  refine takeAt 8 19 (.int .u8 (y : Int)) rfl rfl (by kernel_rfl) (by kernel_rfl) (by kernel_rfl) (fun _ _ _ h => h) (yields (by rfl) (fun w => by kernel_rfl)) hT1 ?_
  simp only [Act.put, List.setIfInBounds_toArray, List.set_cons_zero, List.set_cons_succ]
  refine takeAt 9 20 (.bool false) rfl rfl (by kernel_rfl) (by kernel_rfl) (by kernel_rfl) (fun _ _ _ h => h) (leq8_y false rfl rfl rfl hcb (by rfl)) hT1 ?_
  simp only [Act.put, List.setIfInBounds_toArray, List.set_cons_zero, List.set_cons_succ]
  refine takeAt 10 21 (.bool false) rfl rfl (by kernel_rfl) (by kernel_rfl) (by kernel_rfl) (fun _ _ _ h => h) (yields (by rfl) (fun w => by kernel_rfl)) hT1 ?_
  simp only [Act.put, List.setIfInBounds_toArray, List.set_cons_zero, List.set_cons_succ]
  refine takeAt 11 22 (.bool true) rfl rfl (by kernel_rfl) (by kernel_rfl) (by kernel_rfl) (fun _ _ _ h => h) (yields (by rfl) (fun w => by kernel_rfl)) hT1 ?_
  simp only [Act.put, List.setIfInBounds_toArray, List.set_cons_zero, List.set_cons_succ]
  refine takeAt 12 23 (.bool true) rfl rfl (by kernel_rfl) (by kernel_rfl) (by kernel_rfl) (fun _ _ _ h => h) (yields (by rfl) (fun w => by kernel_rfl)) hT1 ?_
  simp only [Act.put, List.setIfInBounds_toArray, List.set_cons_zero, List.set_cons_succ]
  refine takeAt 13 24 (setV (span x (y + 1))) rfl rfl (by kernel_rfl) (by kernel_rfl) (by kernel_rfl) (fun _ _ _ h => h) (load_yields rfl rfl List.mem_cons_self (by rfl)) hT1 ?_
  simp only [Act.put, List.setIfInBounds_toArray, List.set_cons_zero, List.set_cons_succ]
  refine takeAt 15 26 (.int .u8 (y : Int)) rfl rfl (by kernel_rfl) (by kernel_rfl) (by kernel_rfl) (fun _ _ _ h => h) (yields (by rfl) (fun w => by kernel_rfl)) hT1 ?_
  simp only [Act.put, List.setIfInBounds_toArray, List.set_cons_zero, List.set_cons_succ]
  refine takeAt 16 27 (.int .i64 (y : Int)) rfl rfl (by kernel_rfl) (by kernel_rfl) (by kernel_rfl) (fun _ _ _ h => h) (conv8_y rfl rfl (by omega) (by omega) (by rfl)) hT1 ?_
  simp only [Act.put, List.setIfInBounds_toArray, List.set_cons_zero, List.set_cons_succ]
  refine takeAt 17 28 (.int .u8 (x : Int)) rfl rfl (by kernel_rfl) (by kernel_rfl) (by kernel_rfl) (fun _ _ _ h => h) (yields (by rfl) (fun w => by kernel_rfl)) hT1 ?_
  simp only [Act.put, List.setIfInBounds_toArray, List.set_cons_zero, List.set_cons_succ]
  refine takeAt 18 29 (.int .i64 (x : Int)) rfl rfl (by kernel_rfl) (by kernel_rfl) (by kernel_rfl) (fun _ _ _ h => h) (conv8_y rfl rfl (by omega) (by omega) (by rfl)) hT1 ?_
  simp only [Act.put, List.setIfInBounds_toArray, List.set_cons_zero, List.set_cons_succ]
  refine takeAt 19 30 (.int .i64 ((y : Int) - (x : Int))) rfl rfl (by kernel_rfl) (by kernel_rfl) (by kernel_rfl) (fun _ _ _ h => h) (sub64_y _ rfl rfl rfl rfl (by omega) (by omega) (by omega) (by omega) (by rfl)) hT1 ?_
  simp only [Act.put, List.setIfInBounds_toArray, List.set_cons_zero, List.set_cons_succ]
  refine takeAt 20 31 (.int .i64 ((y : Int) - (x : Int) + 1)) rfl rfl (by kernel_rfl) (by kernel_rfl) (by kernel_rfl) (fun _ _ _ h => h) (add64_y _ rfl rfl rfl rfl (by omega) (by omega) (by omega) (by omega) (by rfl)) hT1 ?_
  simp only [Act.put, List.setIfInBounds_toArray, List.set_cons_zero, List.set_cons_succ]
  as_aux_lemma =>
    refine takeAt 21 32 (.int .i64 0) rfl rfl (by kernel_rfl) (by kernel_rfl) (by kernel_rfl) (fun _ _ _ h => h) (max0_y 0 rfl rfl rfl hmax (by rfl)) hT1 ?_
    simp only [Act.put, List.setIfInBounds_toArray, List.set_cons_zero, List.set_cons_succ]
    refine callAt 14 25 rfl rfl (by kernel_rfl) (by rfl) (by kernel_rfl) (lenZ_k (span x (y + 1)) 0 _ hl) ?_
    rintro e w' ⟨rfl, hb⟩
    refine ⟨_, rfl, hT1.call hb, ?_⟩
    have hT2 := hT1.call hb
    clear hT1 hb
    simp only [Act.put, List.setIfInBounds_toArray, List.set_cons_zero, List.set_cons_succ]
    refine takeAt 22 33 (.bool true) rfl rfl (by kernel_rfl) (by kernel_rfl) (by kernel_rfl) (fun _ _ _ h => h) (eql64_y true rfl rfl rfl (by simp) (by rfl)) hT2 ?_
    simp only [Act.put, List.setIfInBounds_toArray, List.set_cons_zero, List.set_cons_succ]
    refine takeAt 23 34 (.bool true) rfl rfl (by kernel_rfl) (by kernel_rfl) (by kernel_rfl) (fun _ _ _ h => h) (yields (by rfl) (fun w => by kernel_rfl)) hT2 ?_
    simp only [Act.put, List.setIfInBounds_toArray, List.set_cons_zero, List.set_cons_succ]
    refine takeAt 24 35 (.bool true) rfl rfl (by kernel_rfl) (by kernel_rfl) (by kernel_rfl) (fun _ _ _ h => h) (yields (by rfl) (fun w => by kernel_rfl)) hT2 ?_
    simp only [Act.put, List.setIfInBounds_toArray, List.set_cons_zero, List.set_cons_succ]
    refine takeAt 25 36 (.int .u8 (x : Int)) rfl rfl (by kernel_rfl) (by kernel_rfl) (by kernel_rfl) (fun _ _ _ h => h) (yields (by rfl) (fun w => by kernel_rfl)) hT2 ?_
    simp only [Act.put, List.setIfInBounds_toArray, List.set_cons_zero, List.set_cons_succ]
    refine takeAt 26 37 (.int .u8 (y : Int)) rfl rfl (by kernel_rfl) (by kernel_rfl) (by kernel_rfl) (fun _ _ _ h => h) (yields (by rfl) (fun w => by kernel_rfl)) hT2 ?_
    simp only [Act.put, List.setIfInBounds_toArray, List.set_cons_zero, List.set_cons_succ]
    refine takeAt 27 38 (.bool true) rfl rfl (by kernel_rfl) (by kernel_rfl) (by kernel_rfl) (fun _ _ _ h => h) (gtr8_y true rfl rfl rfl hgt (by rfl)) hT2 ?_
    simp only [Act.put, List.setIfInBounds_toArray, List.set_cons_zero, List.set_cons_succ]
    refine takeAt 28 39 (.bool true) rfl rfl (by kernel_rfl) (by kernel_rfl) (by kernel_rfl) (fun _ _ _ h => h) (yields (by rfl) (fun w => by kernel_rfl)) hT2 ?_
    simp only [Act.put, List.setIfInBounds_toArray, List.set_cons_zero, List.set_cons_succ]
    refine takeAt 29 40 (undef) rfl rfl (by kernel_rfl) (by kernel_rfl) (by kernel_rfl) (fun _ _ _ h => h) (skipped (by rfl)) hT2 ?_
    simp only [Act.put, List.setIfInBounds_toArray, List.set_cons_zero, List.set_cons_succ]
    refine takeAt 30 41 (undef) rfl rfl (by kernel_rfl) (by kernel_rfl) (by kernel_rfl) (fun _ _ _ h => h) (skipped (by rfl)) hT2 ?_
    simp only [Act.put, List.setIfInBounds_toArray, List.set_cons_zero, List.set_cons_succ]
    refine takeAt 31 42 (undef) rfl rfl (by kernel_rfl) (by kernel_rfl) (by kernel_rfl) (fun _ _ _ h => h) (skipped (by rfl)) hT2 ?_
    simp only [Act.put, List.setIfInBounds_toArray, List.set_cons_zero, List.set_cons_succ]
    refine takeAt 32 43 (undef) rfl rfl (by kernel_rfl) (by kernel_rfl) (by kernel_rfl) (fun _ _ _ h => h) (skipped (by rfl)) hT2 ?_
    simp only [Act.put, List.setIfInBounds_toArray, List.set_cons_zero, List.set_cons_succ]
    refine takeAt 33 44 (.bool true) rfl rfl (by kernel_rfl) (by kernel_rfl) (by kernel_rfl) (fun _ _ _ h => h) (yields (by rfl) (fun w => by kernel_rfl)) hT2 ?_
    simp only [Act.put, List.setIfInBounds_toArray, List.set_cons_zero, List.set_cons_succ]
    refine takeAt 34 45 (.bool true) rfl rfl (by kernel_rfl) (by kernel_rfl) (by kernel_rfl) (fun _ _ _ h => h) (yields (by rfl) (fun w => by kernel_rfl)) hT2 ?_
    simp only [Act.put, List.setIfInBounds_toArray, List.set_cons_zero, List.set_cons_succ]
    refine takeAt 35 46 (.bool true) rfl rfl (by kernel_rfl) (by kernel_rfl) (by kernel_rfl) (fun _ _ _ h => h) (yields (by rfl) (fun w => by kernel_rfl)) hT2 ?_
    simp only [Act.put, List.setIfInBounds_toArray, List.set_cons_zero, List.set_cons_succ]
    refine takeAt 36 47 (setV (span x (y + 1))) rfl rfl (by kernel_rfl) (by kernel_rfl) (by kernel_rfl) (fun _ _ _ h => h) (load_yields rfl rfl List.mem_cons_self (by rfl)) hT2 ?_
    simp only [Act.put, List.setIfInBounds_toArray, List.set_cons_zero, List.set_cons_succ]
    refine takeAt 39 50 (setV (span x (y + 1))) rfl rfl (by kernel_rfl) (by kernel_rfl) (by kernel_rfl) (fun _ _ _ h => h) (load_yields rfl rfl List.mem_cons_self (by rfl)) hT2 ?_
    simp only [Act.put, List.setIfInBounds_toArray, List.set_cons_zero, List.set_cons_succ]
    refine callAt 37 48 rfl rfl (by kernel_rfl) (by rfl) (by kernel_rfl) (not_k (span x (y + 1)) _) ?_
    rintro e w' ⟨rfl, hb⟩
    refine ⟨_, rfl, hT2.call hb, ?_⟩
    have hT3 := hT2.call hb
    clear hT2 hb
    simp only [Act.put, List.setIfInBounds_toArray, List.set_cons_zero, List.set_cons_succ]
    refine callAt 38 49 rfl rfl (by kernel_rfl) (by rfl) (by kernel_rfl) (lenZ_k (notS (span x (y + 1))) (256 - 0) _ hnl) ?_
    rintro e w' ⟨rfl, hb⟩
    refine ⟨_, rfl, hT3.call hb, ?_⟩
    have hT4 := hT3.call hb
    clear hT3 hb
    simp only [Act.put, List.setIfInBounds_toArray, List.set_cons_zero, List.set_cons_succ]
    as_aux_lemma =>
      refine callAt 40 51 rfl rfl (by kernel_rfl) (by rfl) (by kernel_rfl) (lenZ_k (span x (y + 1)) 0 _ hl) ?_
      rintro e w' ⟨rfl, hb⟩
      refine ⟨_, rfl, hT4.call hb, ?_⟩
      have hT5 := hT4.call hb
      clear hT4 hb
      simp only [Act.put, List.setIfInBounds_toArray, List.set_cons_zero, List.set_cons_succ]
      refine takeAt 41 52 (.int .i64 (256 - 0)) rfl rfl (by kernel_rfl) (by kernel_rfl) (by kernel_rfl) (fun _ _ _ h => h) (sub64_y _ rfl rfl rfl rfl (by omega) (by omega) (by omega) (by omega) (by rfl)) hT5 ?_
      simp only [Act.put, List.setIfInBounds_toArray, List.set_cons_zero, List.set_cons_succ]
      refine takeAt 42 53 (.bool true) rfl rfl (by kernel_rfl) (by kernel_rfl) (by kernel_rfl) (fun _ _ _ h => h) (eql64_y true rfl rfl rfl (by simp) (by rfl)) hT5 ?_
      simp only [Act.put, List.setIfInBounds_toArray, List.set_cons_zero, List.set_cons_succ]
      refine takeAt 43 54 (.bool true) rfl rfl (by kernel_rfl) (by kernel_rfl) (by kernel_rfl) (fun _ _ _ h => h) (yields (by rfl) (fun w => by kernel_rfl)) hT5 ?_
      simp only [Act.put, List.setIfInBounds_toArray, List.set_cons_zero, List.set_cons_succ]
      refine takeAt 44 55 (.bool true) rfl rfl (by kernel_rfl) (by kernel_rfl) (by kernel_rfl) (fun _ _ _ h => h) (yields (by rfl) (fun w => by kernel_rfl)) hT5 ?_
      simp only [Act.put, List.setIfInBounds_toArray, List.set_cons_zero, List.set_cons_succ]
      refine callAt 45 56 rfl rfl (by kernel_rfl) (by rfl) (by kernel_rfl) (hT5.fix HF.out) ?_
      rintro e w' ⟨rfl, hb⟩
      refine ⟨_, rfl, hT5.call hb, ?_⟩
      have hT6 := hT5.call hb
      clear hT5 hb
      simp only [Act.put, List.setIfInBounds_toArray, List.set_cons_zero, List.set_cons_succ]
      refine takeAt 46 57 (.bool true) rfl rfl (by kernel_rfl) (by kernel_rfl) (by kernel_rfl) (fun _ _ _ h => h) (yields (by rfl) (fun w => by kernel_rfl)) hT6 ?_
      simp only [Act.put, List.setIfInBounds_toArray, List.set_cons_zero, List.set_cons_succ]
      refine takeAt 47 6 (.bool true) rfl rfl (by kernel_rfl) (by kernel_rfl) (by kernel_rfl) (fun _ _ _ h => h) (yields (by rfl) (fun w => by kernel_rfl)) hT6 ?_
      simp only [Act.put, List.setIfInBounds_toArray, List.set_cons_zero, List.set_cons_succ]
      refine wpAnyH_done (by kernel_rfl) ?_ _
      go_wp2
      go_ret
      exact ⟨rfl, hT6.2.1⟩

set_option maxHeartbeats 8000000 in
set_option maxRecDepth 100000 in
theorem classSpans_gB (hfix : FixedOk) (x y z : Nat) (w : World) (ht : TabOk w) (hx : x < 256) (hy : y < 256) (hz : z < 256) (hac : decide ((x : Int) ≤ (z : Int)) = false) (hcb : decide ((z : Int) ≤ (y : Int)) = true) (hgt : decide ((y : Int) < (x : Int)) = true)
    (hm : mem (span x (y + 1)) z = false) (hl : (lenS (span x (y + 1)) : Int) = 0) (hnl : (lenS (notS (span x (y + 1))) : Int) = 256 - 0) (hmax : (if (0 : Int) < (y : Int) - (x : Int) + 1 then (y : Int) - (x : Int) + 1 else 0) = 0) :
    Calls Tryd.prog 8 #[.int .u8 (x : Int), .int .u8 (y : Int), .int .u8 (z : Int)] w fun e w' => e = .returned (.bool true) ∧ Below w.heap.size w w' := by
  have HF := Lib.hid hfix
  have HT := Lib.hid ht
  have H1 := Lib.hid hac
  have H2 := Lib.hid hcb
  have H3 := Lib.hid hgt
  have H4 := Lib.hid hm
  have H5 := Lib.hid hl
  have H6 := Lib.hid hnl
  have H7 := Lib.hid hmax
  clear hfix ht hac hcb hgt hm hl hnl hmax
  go_enter Tryd.func8, Tryd.ntmps8
  go_wp2_with fail
  refine (range_k _ _ x y _ rfl rfl hx hy).mono ?_
  rintro e w1 ⟨rfl, hb⟩
  have HS := Lib.hid (((Held.start HT.out).call hb).new (span x (y + 1))).drew
  clear hb
  go_wp2_with fail
  have hS := HS.out
  have hac := H1.out
  have hcb := H2.out
  have hgt := H3.out
  have hm := H4.out
  have hl := H5.out
  have hnl := H6.out
  have hmax := H7.out
  clear HS H1 H2 H3 H4 H5 H6 H7
  have b0 : 0 ≤ 0 ∧ 0 ≤ 256 := by have h5 := hl; have := lenS_le (span x (y + 1)); omega
  refine wp_region_held_drew (S := Held w [(w1.heap.size, span x (y + 1))]) (by kernel_rfl) hS (fun _ => ?_)
  refine takeAt 0 11 (setV (span x (y + 1))) rfl rfl (by kernel_rfl) (by kernel_rfl) (by kernel_rfl) (fun _ _ _ h => h) (load_yields rfl rfl List.mem_cons_self (by rfl)) hS ?_
  simp only [Act.put, List.setIfInBounds_toArray, List.set_cons_zero, List.set_cons_succ]
  refine takeAt 1 12 (.int .u8 (z : Int)) rfl rfl (by kernel_rfl) (by kernel_rfl) (by kernel_rfl) (fun _ _ _ h => h) (yields (by rfl) (fun w => by kernel_rfl)) hS ?_
  simp only [Act.put, List.setIfInBounds_toArray, List.set_cons_zero, List.set_cons_succ]
  refine takeAt 3 14 (.int .u8 (x : Int)) rfl rfl (by kernel_rfl) (by kernel_rfl) (by kernel_rfl) (fun _ _ _ h => h) (yields (by rfl) (fun w => by kernel_rfl)) hS ?_
  simp only [Act.put, List.setIfInBounds_toArray, List.set_cons_zero, List.set_cons_succ]
  refine takeAt 4 15 (.int .u8 (z : Int)) rfl rfl (by kernel_rfl) (by kernel_rfl) (by kernel_rfl) (fun _ _ _ h => h) (yields (by rfl) (fun w => by kernel_rfl)) hS ?_
  simp only [Act.put, List.setIfInBounds_toArray, List.set_cons_zero, List.set_cons_succ]
  refine takeAt 5 16 (.bool false) rfl rfl (by kernel_rfl) (by kernel_rfl) (by kernel_rfl) (fun _ _ _ h => h) (leq8_y false rfl rfl rfl hac (by rfl)) hS ?_
  simp only [Act.put, List.setIfInBounds_toArray, List.set_cons_zero, List.set_cons_succ]
  refine callAt 2 13 rfl rfl (by kernel_rfl) (by rfl) (by kernel_rfl) (has_k (span x (y + 1)) _ z false _ rfl (by omega) hm) ?_
  rintro e w' ⟨rfl, hb⟩
  refine ⟨_, rfl, hS.call hb, ?_⟩
  have hT1 := hS.call hb
  clear hS hb
  simp only [Act.put, List.setIfInBounds_toArray, List.set_cons_zero, List.set_cons_succ]
  refine takeAt 6 17 (.bool false) rfl rfl (by kernel_rfl) (by kernel_rfl) (by kernel_rfl) (fun _ _ _ h => h) (yields (by rfl) (fun w => by kernel_rfl)) hT1 ?_
  simp only [Act.put, List.setIfInBounds_toArray, List.set_cons_zero, List.set_cons_succ]
  refine takeAt 7 18 (undef) rfl rfl (by kernel_rfl) (by kernel_rfl) (by kernel_rfl) (fun _ _ _ h => h) (skipped (by rfl)) hT1 ?_
  simp only [Act.put, List.setIfInBounds_toArray, List.set_cons_zero, List.set_cons_succ]
  refine takeAt 8 19 (undef) rfl rfl (by kernel_rfl) (by kernel_rfl) (by kernel_rfl) (fun _ _ _ h => h) (skipped (by rfl)) hT1 ?_
  simp only [Act.put, List.setIfInBounds_toArray, List.set_cons_zero, List.set_cons_succ]
  refine takeAt 9 20 (undef) rfl rfl (by kernel_rfl) (by kernel_rfl) (by kernel_rfl) (fun _ _ _ h => h) (skipped (by rfl)) hT1 ?_
  simp only [Act.put, List.setIfInBounds_toArray, List.set_cons_zero, List.set_cons_succ]
  refine takeAt 10 21 (.bool false) rfl rfl (by kernel_rfl) (by kernel_rfl) (by kernel_rfl) (fun _ _ _ h => h) (yields (by rfl) (fun w => by kernel_rfl)) hT1 ?_
  simp only [Act.put, List.setIfInBounds_toArray, List.set_cons_zero, List.set_cons_succ]
  refine takeAt 11 22 (.bool true) rfl rfl (by kernel_rfl) (by kernel_rfl) (by kernel_rfl) (fun _ _ _ h => h) (yields (by rfl) (fun w => by kernel_rfl)) hT1 ?_
  simp only [Act.put, List.setIfInBounds_toArray, List.set_cons_zero, List.set_cons_succ]
  refine takeAt 12 23 (.bool true) rfl rfl (by kernel_rfl) (by kernel_rfl) (by kernel_rfl) (fun _ _ _ h => h) (yields (by rfl) (fun w => by kernel_rfl)) hT1 ?_
  simp only [Act.put, List.setIfInBounds_toArray, List.set_cons_zero, List.set_cons_succ]
  refine takeAt 13 24 (setV (span x (y + 1))) rfl rfl (by kernel_rfl) (by kernel_rfl) (by kernel_rfl) (fun _ _ _ h => h) (load_yields rfl rfl List.mem_cons_self (by rfl)) hT1 ?_
  simp only [Act.put, List.setIfInBounds_toArray, List.set_cons_zero, List.set_cons_succ]
  refine takeAt 15 26 (.int .u8 (y : Int)) rfl rfl (by kernel_rfl) (by kernel_rfl) (by kernel_rfl) (fun _ _ _ h => h) (yields (by rfl) (fun w => by kernel_rfl)) hT1 ?_
  simp only [Act.put, List.setIfInBounds_toArray, List.set_cons_zero, List.set_cons_succ]
  refine takeAt 16 27 (.int .i64 (y : Int)) rfl rfl (by kernel_rfl) (by kernel_rfl) (by kernel_rfl) (fun _ _ _ h => h) (conv8_y rfl rfl (by omega) (by omega) (by rfl)) hT1 ?_
  simp only [Act.put, List.setIfInBounds_toArray, List.set_cons_zero, List.set_cons_succ]
  refine takeAt 17 28 (.int .u8 (x : Int)) rfl rfl (by kernel_rfl) (by kernel_rfl) (by kernel_rfl) (fun _ _ _ h => h) (yields (by rfl) (fun w => by kernel_rfl)) hT1 ?_
  simp only [Act.put, List.setIfInBounds_toArray, List.set_cons_zero, List.set_cons_succ]
  refine takeAt 18 29 (.int .i64 (x : Int)) rfl rfl (by kernel_rfl) (by kernel_rfl) (by kernel_rfl) (fun _ _ _ h => h) (conv8_y rfl rfl (by omega) (by omega) (by rfl)) hT1 ?_
  simp only [Act.put, List.setIfInBounds_toArray, List.set_cons_zero, List.set_cons_succ]
  refine takeAt 19 30 (.int .i64 ((y : Int) - (x : Int))) rfl rfl (by kernel_rfl) (by kernel_rfl) (by kernel_rfl) (fun _ _ _ h => h) (sub64_y _ rfl rfl rfl rfl (by omega) (by omega) (by omega) (by omega) (by rfl)) hT1 ?_
  simp only [Act.put, List.setIfInBounds_toArray, List.set_cons_zero, List.set_cons_succ]
  refine takeAt 20 31 (.int .i64 ((y : Int) - (x : Int) + 1)) rfl rfl (by kernel_rfl) (by kernel_rfl) (by kernel_rfl) (fun _ _ _ h => h) (add64_y _ rfl rfl rfl rfl (by omega) (by omega) (by omega) (by omega) (by rfl)) hT1 ?_
  simp only [Act.put, List.setIfInBounds_toArray, List.set_cons_zero, List.set_cons_succ]
  as_aux_lemma =>
    refine takeAt 21 32 (.int .i64 0) rfl rfl (by kernel_rfl) (by kernel_rfl) (by kernel_rfl) (fun _ _ _ h => h) (max0_y 0 rfl rfl rfl hmax (by rfl)) hT1 ?_
    simp only [Act.put, List.setIfInBounds_toArray, List.set_cons_zero, List.set_cons_succ]
    refine callAt 14 25 rfl rfl (by kernel_rfl) (by rfl) (by kernel_rfl) (lenZ_k (span x (y + 1)) 0 _ hl) ?_
    rintro e w' ⟨rfl, hb⟩
    refine ⟨_, rfl, hT1.call hb, ?_⟩
    have hT2 := hT1.call hb
    clear hT1 hb
    simp only [Act.put, List.setIfInBounds_toArray, List.set_cons_zero, List.set_cons_succ]
    refine takeAt 22 33 (.bool true) rfl rfl (by kernel_rfl) (by kernel_rfl) (by kernel_rfl) (fun _ _ _ h => h) (eql64_y true rfl rfl rfl (by simp) (by rfl)) hT2 ?_
    simp only [Act.put, List.setIfInBounds_toArray, List.set_cons_zero, List.set_cons_succ]
    refine takeAt 23 34 (.bool true) rfl rfl (by kernel_rfl) (by kernel_rfl) (by kernel_rfl) (fun _ _ _ h => h) (yields (by rfl) (fun w => by kernel_rfl)) hT2 ?_
    simp only [Act.put, List.setIfInBounds_toArray, List.set_cons_zero, List.set_cons_succ]
    refine takeAt 24 35 (.bool true) rfl rfl (by kernel_rfl) (by kernel_rfl) (by kernel_rfl) (fun _ _ _ h => h) (yields (by rfl) (fun w => by kernel_rfl)) hT2 ?_
    simp only [Act.put, List.setIfInBounds_toArray, List.set_cons_zero, List.set_cons_succ]
    refine takeAt 25 36 (.int .u8 (x : Int)) rfl rfl (by kernel_rfl) (by kernel_rfl) (by kernel_rfl) (fun _ _ _ h => h) (yields (by rfl) (fun w => by kernel_rfl)) hT2 ?_
    simp only [Act.put, List.setIfInBounds_toArray, List.set_cons_zero, List.set_cons_succ]
    refine takeAt 26 37 (.int .u8 (y : Int)) rfl rfl (by kernel_rfl) (by kernel_rfl) (by kernel_rfl) (fun _ _ _ h => h) (yields (by rfl) (fun w => by kernel_rfl)) hT2 ?_
    simp only [Act.put, List.setIfInBounds_toArray, List.set_cons_zero, List.set_cons_succ]
    refine takeAt 27 38 (.bool true) rfl rfl (by kernel_rfl) (by kernel_rfl) (by kernel_rfl) (fun _ _ _ h => h) (gtr8_y true rfl rfl rfl hgt (by rfl)) hT2 ?_
    simp only [Act.put, List.setIfInBounds_toArray, List.set_cons_zero, List.set_cons_succ]
    refine takeAt 28 39 (.bool true) rfl rfl (by kernel_rfl) (by kernel_rfl) (by kernel_rfl) (fun _ _ _ h => h) (yields (by rfl) (fun w => by kernel_rfl)) hT2 ?_
    simp only [Act.put, List.setIfInBounds_toArray, List.set_cons_zero, List.set_cons_succ]
    refine takeAt 29 40 (undef) rfl rfl (by kernel_rfl) (by kernel_rfl) (by kernel_rfl) (fun _ _ _ h => h) (skipped (by rfl)) hT2 ?_
    simp only [Act.put, List.setIfInBounds_toArray, List.set_cons_zero, List.set_cons_succ]
    refine takeAt 30 41 (undef) rfl rfl (by kernel_rfl) (by kernel_rfl) (by kernel_rfl) (fun _ _ _ h => h) (skipped (by rfl)) hT2 ?_
    simp only [Act.put, List.setIfInBounds_toArray, List.set_cons_zero, List.set_cons_succ]
    refine takeAt 31 42 (undef) rfl rfl (by kernel_rfl) (by kernel_rfl) (by kernel_rfl) (fun _ _ _ h => h) (skipped (by rfl)) hT2 ?_
    simp only [Act.put, List.setIfInBounds_toArray, List.set_cons_zero, List.set_cons_succ]
    refine takeAt 32 43 (undef) rfl rfl (by kernel_rfl) (by kernel_rfl) (by kernel_rfl) (fun _ _ _ h => h) (skipped (by rfl)) hT2 ?_
    simp only [Act.put, List.setIfInBounds_toArray, List.set_cons_zero, List.set_cons_succ]
    refine takeAt 33 44 (.bool true) rfl rfl (by kernel_rfl) (by kernel_rfl) (by kernel_rfl) (fun _ _ _ h => h) (yields (by rfl) (fun w => by kernel_rfl)) hT2 ?_
    simp only [Act.put, List.setIfInBounds_toArray, List.set_cons_zero, List.set_cons_succ]
    refine takeAt 34 45 (.bool true) rfl rfl (by kernel_rfl) (by kernel_rfl) (by kernel_rfl) (fun _ _ _ h => h) (yields (by rfl) (fun w => by kernel_rfl)) hT2 ?_
    simp only [Act.put, List.setIfInBounds_toArray, List.set_cons_zero, List.set_cons_succ]
    refine takeAt 35 46 (.bool true) rfl rfl (by kernel_rfl) (by kernel_rfl) (by kernel_rfl) (fun _ _ _ h => h) (yields (by rfl) (fun w => by kernel_rfl)) hT2 ?_
    simp only [Act.put, List.setIfInBounds_toArray, List.set_cons_zero, List.set_cons_succ]
    refine takeAt 36 47 (setV (span x (y + 1))) rfl rfl (by kernel_rfl) (by kernel_rfl) (by kernel_rfl) (fun _ _ _ h => h) (load_yields rfl rfl List.mem_cons_self (by rfl)) hT2 ?_
    simp only [Act.put, List.setIfInBounds_toArray, List.set_cons_zero, List.set_cons_succ]
    refine takeAt 39 50 (setV (span x (y + 1))) rfl rfl (by kernel_rfl) (by kernel_rfl) (by kernel_rfl) (fun _ _ _ h => h) (load_yields rfl rfl List.mem_cons_self (by rfl)) hT2 ?_
    simp only [Act.put, List.setIfInBounds_toArray, List.set_cons_zero, List.set_cons_succ]
    refine callAt 37 48 rfl rfl (by kernel_rfl) (by rfl) (by kernel_rfl) (not_k (span x (y + 1)) _) ?_
    rintro e w' ⟨rfl, hb⟩
    refine ⟨_, rfl, hT2.call hb, ?_⟩
    have hT3 := hT2.call hb
    clear hT2 hb
    simp only [Act.put, List.setIfInBounds_toArray, List.set_cons_zero, List.set_cons_succ]
    refine callAt 38 49 rfl rfl (by kernel_rfl) (by rfl) (by kernel_rfl) (lenZ_k (notS (span x (y + 1))) (256 - 0) _ hnl) ?_
    rintro e w' ⟨rfl, hb⟩
    refine ⟨_, rfl, hT3.call hb, ?_⟩
    have hT4 := hT3.call hb
    clear hT3 hb
    simp only [Act.put, List.setIfInBounds_toArray, List.set_cons_zero, List.set_cons_succ]
    as_aux_lemma =>
      refine callAt 40 51 rfl rfl (by kernel_rfl) (by rfl) (by kernel_rfl) (lenZ_k (span x (y + 1)) 0 _ hl) ?_
      rintro e w' ⟨rfl, hb⟩
      refine ⟨_, rfl, hT4.call hb, ?_⟩
      have hT5 := hT4.call hb
      clear hT4 hb
      simp only [Act.put, List.setIfInBounds_toArray, List.set_cons_zero, List.set_cons_succ]
      refine takeAt 41 52 (.int .i64 (256 - 0)) rfl rfl (by kernel_rfl) (by kernel_rfl) (by kernel_rfl) (fun _ _ _ h => h) (sub64_y _ rfl rfl rfl rfl (by omega) (by omega) (by omega) (by omega) (by rfl)) hT5 ?_
      simp only [Act.put, List.setIfInBounds_toArray, List.set_cons_zero, List.set_cons_succ]
      refine takeAt 42 53 (.bool true) rfl rfl (by kernel_rfl) (by kernel_rfl) (by kernel_rfl) (fun _ _ _ h => h) (eql64_y true rfl rfl rfl (by simp) (by rfl)) hT5 ?_
      simp only [Act.put, List.setIfInBounds_toArray, List.set_cons_zero, List.set_cons_succ]
      refine takeAt 43 54 (.bool true) rfl rfl (by kernel_rfl) (by kernel_rfl) (by kernel_rfl) (fun _ _ _ h => h) (yields (by rfl) (fun w => by kernel_rfl)) hT5 ?_
      simp only [Act.put, List.setIfInBounds_toArray, List.set_cons_zero, List.set_cons_succ]
      refine takeAt 44 55 (.bool true) rfl rfl (by kernel_rfl) (by kernel_rfl) (by kernel_rfl) (fun _ _ _ h => h) (yields (by rfl) (fun w => by kernel_rfl)) hT5 ?_
      simp only [Act.put, List.setIfInBounds_toArray, List.set_cons_zero, List.set_cons_succ]
      refine callAt 45 56 rfl rfl (by kernel_rfl) (by rfl) (by kernel_rfl) (hT5.fix HF.out) ?_
      rintro e w' ⟨rfl, hb⟩
      refine ⟨_, rfl, hT5.call hb, ?_⟩
      have hT6 := hT5.call hb
      clear hT5 hb
      simp only [Act.put, List.setIfInBounds_toArray, List.set_cons_zero, List.set_cons_succ]
      refine takeAt 46 57 (.bool true) rfl rfl (by kernel_rfl) (by kernel_rfl) (by kernel_rfl) (fun _ _ _ h => h) (yields (by rfl) (fun w => by kernel_rfl)) hT6 ?_
      simp only [Act.put, List.setIfInBounds_toArray, List.set_cons_zero, List.set_cons_succ]
      refine takeAt 47 6 (.bool true) rfl rfl (by kernel_rfl) (by kernel_rfl) (by kernel_rfl) (fun _ _ _ h => h) (yields (by rfl) (fun w => by kernel_rfl)) hT6 ?_
      simp only [Act.put, List.setIfInBounds_toArray, List.set_cons_zero, List.set_cons_succ]
      refine wpAnyH_done (by kernel_rfl) ?_ _
      go_wp2
      go_ret
      exact ⟨rfl, hT6.2.1⟩

set_option maxHeartbeats 8000000 in
set_option maxRecDepth 100000 in
theorem classSpans_gC (hfix : FixedOk) (x y z : Nat) (w : World) (ht : TabOk w) (hx : x < 256) (hy : y < 256) (hz : z < 256) (hac : decide ((x : Int) ≤ (z : Int)) = false) (hcb : decide ((z : Int) ≤ (y : Int)) = false) (hgt : decide ((y : Int) < (x : Int)) = true)
    (hm : mem (span x (y + 1)) z = false) (hl : (lenS (span x (y + 1)) : Int) = 0) (hnl : (lenS (notS (span x (y + 1))) : Int) = 256 - 0) (hmax : (if (0 : Int) < (y : Int) - (x : Int) + 1 then (y : Int) - (x : Int) + 1 else 0) = 0) :
    Calls Tryd.prog 8 #[.int .u8 (x : Int), .int .u8 (y : Int), .int .u8 (z : Int)] w fun e w' => e = .returned (.bool true) ∧ Below w.heap.size w w' := by
  have HF := Lib.hid hfix
  have HT := Lib.hid ht
  have H1 := Lib.hid hac
  have H2 := Lib.hid hcb
  have H3 := Lib.hid hgt
  have H4 := Lib.hid hm
  have H5 := Lib.hid hl
  have H6 := Lib.hid hnl
  have H7 := Lib.hid hmax
  clear hfix ht hac hcb hgt hm hl hnl hmax
  go_enter Tryd.func8, Tryd.ntmps8
  go_wp2_with fail
  refine (range_k _ _ x y _ rfl rfl hx hy).mono ?_
  rintro e w1 ⟨rfl, hb⟩
  have HS := Lib.hid (((Held.start HT.out).call hb).new (span x (y + 1))).drew
  clear hb
  go_wp2_with fail
  have hS := HS.out
  have hac := H1.out
  have hcb := H2.out
  have hgt := H3.out
  have hm := H4.out
  have hl := H5.out
  have hnl := H6.out
  have hmax := H7.out
  clear HS H1 H2 H3 H4 H5 H6 H7
  have b0 : 0 ≤ 0 ∧ 0 ≤ 256 := by have h5 := hl; have := lenS_le (span x (y + 1)); omega
  refine wp_region_held_drew (S := Held w [(w1.heap.size, span x (y + 1))]) (by kernel_rfl) hS (fun _ => ?_)
  refine takeAt 0 11 (setV (span x (y + 1))) rfl rfl (by kernel_rfl) (by kernel_rfl) (by kernel_rfl) (fun _ _ _ h => h) (load_yields rfl rfl List.mem_cons_self (by rfl)) hS ?_
  simp only [Act.put, List.setIfInBounds_toArray, List.set_cons_zero, List.set_cons_succ]
  refine takeAt 1 12 (.int .u8 (z : Int)) rfl rfl (by kernel_rfl) (by kernel_rfl) (by kernel_rfl) (fun _ _ _ h => h) (yields (by rfl) (fun w => by kernel_rfl)) hS ?_
  simp only [Act.put, List.setIfInBounds_toArray, List.set_cons_zero, List.set_cons_succ]
  refine takeAt 3 14 (.int .u8 (x : Int)) rfl rfl (by kernel_rfl) (by kernel_rfl) (by kernel_rfl) (fun _ _ _ h => h) (yields (by rfl) (fun w => by kernel_rfl)) hS ?_
  simp only [Act.put, List.setIfInBounds_toArray, List.set_cons_zero, List.set_cons_succ]
  refine takeAt 4 15 (.int .u8 (z : Int)) rfl rfl (by kernel_rfl) (by kernel_rfl) (by kernel_rfl) (fun _ _ _ h => h) (yields (by rfl) (fun w => by kernel_rfl)) hS ?_
  simp only [Act.put, List.setIfInBounds_toArray, List.set_cons_zero, List.set_cons_succ]
  refine takeAt 5 16 (.bool false) rfl rfl (by kernel_rfl) (by kernel_rfl) (by kernel_rfl) (fun _ _ _ h => h) (leq8_y false rfl rfl rfl hac (by rfl)) hS ?_
  simp only [Act.put, List.setIfInBounds_toArray, List.set_cons_zero, List.set_cons_succ]
  refine callAt 2 13 rfl rfl (by kernel_rfl) (by rfl) (by kernel_rfl) (has_k (span x (y + 1)) _ z false _ rfl (by omega) hm) ?_
  rintro e w' ⟨rfl, hb⟩
  refine ⟨_, rfl, hS.call hb, ?_⟩
  have hT1 := hS.call hb
  clear hS hb
  simp only [Act.put, List.setIfInBounds_toArray, List.set_cons_zero, List.set_cons_succ]
  refine takeAt 6 17 (.bool false) rfl rfl (by kernel_rfl) (by kernel_rfl) (by kernel_rfl) (fun _ _ _ h => h) (yields (by rfl) (fun w => by kernel_rfl)) hT1 ?_
  simp only [Act.put, List.setIfInBounds_toArray, List.set_cons_zero, List.set_cons_succ]
  refine takeAt 7 18 (undef) rfl rfl (by kernel_rfl) (by kernel_rfl) (by kernel_rfl) (fun _ _ _ h => h) (skipped (by rfl)) hT1 ?_
  simp only [Act.put, List.setIfInBounds_toArray, List.set_cons_zero, List.set_cons_succ]
  refine takeAt 8 19 (undef) rfl rfl (by kernel_rfl) (by kernel_rfl) (by kernel_rfl) (fun _ _ _ h => h) (skipped (by rfl)) hT1 ?_
  simp only [Act.put, List.setIfInBounds_toArray, List.set_cons_zero, List.set_cons_succ]
  refine takeAt 9 20 (undef) rfl rfl (by kernel_rfl) (by kernel_rfl) (by kernel_rfl) (fun _ _ _ h => h) (skipped (by rfl)) hT1 ?_
  simp only [Act.put, List.setIfInBounds_toArray, List.set_cons_zero, List.set_cons_succ]
  refine takeAt 10 21 (.bool false) rfl rfl (by kernel_rfl) (by kernel_rfl) (by kernel_rfl) (fun _ _ _ h => h) (yields (by rfl) (fun w => by kernel_rfl)) hT1 ?_
  simp only [Act.put, List.setIfInBounds_toArray, List.set_cons_zero, List.set_cons_succ]
  refine takeAt 11 22 (.bool true) rfl rfl (by kernel_rfl) (by kernel_rfl) (by kernel_rfl) (fun _ _ _ h => h) (yields (by rfl) (fun w => by kernel_rfl)) hT1 ?_
  simp only [Act.put, List.setIfInBounds_toArray, List.set_cons_zero, List.set_cons_succ]
  refine takeAt 12 23 (.bool true) rfl rfl (by kernel_rfl) (by kernel_rfl) (by kernel_rfl) (fun _ _ _ h => h) (yields (by rfl) (fun w => by kernel_rfl)) hT1 ?_
  simp only [Act.put, List.setIfInBounds_toArray, List.set_cons_zero, List.set_cons_succ]
  refine takeAt 13 24 (setV (span x (y + 1))) rfl rfl (by kernel_rfl) (by kernel_rfl) (by kernel_rfl) (fun _ _ _ h => h) (load_yields rfl rfl List.mem_cons_self (by rfl)) hT1 ?_
  simp only [Act.put, List.setIfInBounds_toArray, List.set_cons_zero, List.set_cons_succ]
  refine takeAt 15 26 (.int .u8 (y : Int)) rfl rfl (by kernel_rfl) (by kernel_rfl) (by kernel_rfl) (fun _ _ _ h => h) (yields (by rfl) (fun w => by kernel_rfl)) hT1 ?_
  simp only [Act.put, List.setIfInBounds_toArray, List.set_cons_zero, List.set_cons_succ]
  refine takeAt 16 27 (.int .i64 (y : Int)) rfl rfl (by kernel_rfl) (by kernel_rfl) (by kernel_rfl) (fun _ _ _ h => h) (conv8_y rfl rfl (by omega) (by omega) (by rfl)) hT1 ?_
  simp only [Act.put, List.setIfInBounds_toArray, List.set_cons_zero, List.set_cons_succ]
  refine takeAt 17 28 (.int .u8 (x : Int)) rfl rfl (by kernel_rfl) (by kernel_rfl) (by kernel_rfl) (fun _ _ _ h => h) (yields (by rfl) (fun w => by kernel_rfl)) hT1 ?_
  simp only [Act.put, List.setIfInBounds_toArray, List.set_cons_zero, List.set_cons_succ]
  refine takeAt 18 29 (.int .i64 (x : Int)) rfl rfl (by kernel_rfl) (by kernel_rfl) (by kernel_rfl) (fun _ _ _ h => h) (conv8_y rfl rfl (by omega) (by omega) (by rfl)) hT1 ?_
  simp only [Act.put, List.setIfInBounds_toArray, List.set_cons_zero, List.set_cons_succ]
  refine takeAt 19 30 (.int .i64 ((y : Int) - (x : Int))) rfl rfl (by kernel_rfl) (by kernel_rfl) (by kernel_rfl) (fun _ _ _ h => h) (sub64_y _ rfl rfl rfl rfl (by omega) (by omega) (by omega) (by omega) (by rfl)) hT1 ?_
  simp only [Act.put, List.setIfInBounds_toArray, List.set_cons_zero, List.set_cons_succ]
  refine takeAt 20 31 (.int .i64 ((y : Int) - (x : Int) + 1)) rfl rfl (by kernel_rfl) (by kernel_rfl) (by kernel_rfl) (fun _ _ _ h => h) (add64_y _ rfl rfl rfl rfl (by omega) (by omega) (by omega) (by omega) (by rfl)) hT1 ?_
  simp only [Act.put, List.setIfInBounds_toArray, List.set_cons_zero, List.set_cons_succ]
  as_aux_lemma =>
    refine takeAt 21 32 (.int .i64 0) rfl rfl (by kernel_rfl) (by kernel_rfl) (by kernel_rfl) (fun _ _ _ h => h) (max0_y 0 rfl rfl rfl hmax (by rfl)) hT1 ?_
    simp only [Act.put, List.setIfInBounds_toArray, List.set_cons_zero, List.set_cons_succ]
    refine callAt 14 25 rfl rfl (by kernel_rfl) (by rfl) (by kernel_rfl) (lenZ_k (span x (y + 1)) 0 _ hl) ?_
    rintro e w' ⟨rfl, hb⟩
    refine ⟨_, rfl, hT1.call hb, ?_⟩
    have hT2 := hT1.call hb
    clear hT1 hb
    simp only [Act.put, List.setIfInBounds_toArray, List.set_cons_zero, List.set_cons_succ]
    refine takeAt 22 33 (.bool true) rfl rfl (by kernel_rfl) (by kernel_rfl) (by kernel_rfl) (fun _ _ _ h => h) (eql64_y true rfl rfl rfl (by simp) (by rfl)) hT2 ?_
    simp only [Act.put, List.setIfInBounds_toArray, List.set_cons_zero, List.set_cons_succ]
    refine takeAt 23 34 (.bool true) rfl rfl (by kernel_rfl) (by kernel_rfl) (by kernel_rfl) (fun _ _ _ h => h) (yields (by rfl) (fun w => by kernel_rfl)) hT2 ?_
    simp only [Act.put, List.setIfInBounds_toArray, List.set_cons_zero, List.set_cons_succ]
    refine takeAt 24 35 (.bool true) rfl rfl (by kernel_rfl) (by kernel_rfl) (by kernel_rfl) (fun _ _ _ h => h) (yields (by rfl) (fun w => by kernel_rfl)) hT2 ?_
    simp only [Act.put, List.setIfInBounds_toArray, List.set_cons_zero, List.set_cons_succ]
    refine takeAt 25 36 (.int .u8 (x : Int)) rfl rfl (by kernel_rfl) (by kernel_rfl) (by kernel_rfl) (fun _ _ _ h => h) (yields (by rfl) (fun w => by kernel_rfl)) hT2 ?_
    simp only [Act.put, List.setIfInBounds_toArray, List.set_cons_zero, List.set_cons_succ]
    refine takeAt 26 37 (.int .u8 (y : Int)) rfl rfl (by kernel_rfl) (by kernel_rfl) (by kernel_rfl) (fun _ _ _ h => h) (yields (by rfl) (fun w => by kernel_rfl)) hT2 ?_
    simp only [Act.put, List.setIfInBounds_toArray, List.set_cons_zero, List.set_cons_succ]
    refine takeAt 27 38 (.bool true) rfl rfl (by kernel_rfl) (by kernel_rfl) (by kernel_rfl) (fun _ _ _ h => h) (gtr8_y true rfl rfl rfl hgt (by rfl)) hT2 ?_
    simp only [Act.put, List.setIfInBounds_toArray, List.set_cons_zero, List.set_cons_succ]
    refine takeAt 28 39 (.bool true) rfl rfl (by kernel_rfl) (by kernel_rfl) (by kernel_rfl) (fun _ _ _ h => h) (yields (by rfl) (fun w => by kernel_rfl)) hT2 ?_
    simp only [Act.put, List.setIfInBounds_toArray, List.set_cons_zero, List.set_cons_succ]
    refine takeAt 29 40 (undef) rfl rfl (by kernel_rfl) (by kernel_rfl) (by kernel_rfl) (fun _ _ _ h => h) (skipped (by rfl)) hT2 ?_
    simp only [Act.put, List.setIfInBounds_toArray, List.set_cons_zero, List.set_cons_succ]
    refine takeAt 30 41 (undef) rfl rfl (by kernel_rfl) (by kernel_rfl) (by kernel_rfl) (fun _ _ _ h => h) (skipped (by rfl)) hT2 ?_
    simp only [Act.put, List.setIfInBounds_toArray, List.set_cons_zero, List.set_cons_succ]
    refine takeAt 31 42 (undef) rfl rfl (by kernel_rfl) (by kernel_rfl) (by kernel_rfl) (fun _ _ _ h => h) (skipped (by rfl)) hT2 ?_
    simp only [Act.put, List.setIfInBounds_toArray, List.set_cons_zero, List.set_cons_succ]
    refine takeAt 32 43 (undef) rfl rfl (by kernel_rfl) (by kernel_rfl) (by kernel_rfl) (fun _ _ _ h => h) (skipped (by rfl)) hT2 ?_
    simp only [Act.put, List.setIfInBounds_toArray, List.set_cons_zero, List.set_cons_succ]
    refine takeAt 33 44 (.bool true) rfl rfl (by kernel_rfl) (by kernel_rfl) (by kernel_rfl) (fun _ _ _ h => h) (yields (by rfl) (fun w => by kernel_rfl)) hT2 ?_
    simp only [Act.put, List.setIfInBounds_toArray, List.set_cons_zero, List.set_cons_succ]
    refine takeAt 34 45 (.bool true) rfl rfl (by kernel_rfl) (by kernel_rfl) (by kernel_rfl) (fun _ _ _ h => h) (yields (by rfl) (fun w => by kernel_rfl)) hT2 ?_
    simp only [Act.put, List.setIfInBounds_toArray, List.set_cons_zero, List.set_cons_succ]
    refine takeAt 35 46 (.bool true) rfl rfl (by kernel_rfl) (by kernel_rfl) (by kernel_rfl) (fun _ _ _ h => h) (yields (by rfl) (fun w => by kernel_rfl)) hT2 ?_
    simp only [Act.put, List.setIfInBounds_toArray, List.set_cons_zero, List.set_cons_succ]
    refine takeAt 36 47 (setV (span x (y + 1))) rfl rfl (by kernel_rfl) (by kernel_rfl) (by kernel_rfl) (fun _ _ _ h => h) (load_yields rfl rfl List.mem_cons_self (by rfl)) hT2 ?_
    simp only [Act.put, List.setIfInBounds_toArray, List.set_cons_zero, List.set_cons_succ]
    refine takeAt 39 50 (setV (span x (y + 1))) rfl rfl (by kernel_rfl) (by kernel_rfl) (by kernel_rfl) (fun _ _ _ h => h) (load_yields rfl rfl List.mem_cons_self (by rfl)) hT2 ?_
    simp only [Act.put, List.setIfInBounds_toArray, List.set_cons_zero, List.set_cons_succ]
    refine callAt 37 48 rfl rfl (by kernel_rfl) (by rfl) (by kernel_rfl) (not_k (span x (y + 1)) _) ?_
    rintro e w' ⟨rfl, hb⟩
    refine ⟨_, rfl, hT2.call hb, ?_⟩
    have hT3 := hT2.call hb
    clear hT2 hb
    simp only [Act.put, List.setIfInBounds_toArray, List.set_cons_zero, List.set_cons_succ]
    refine callAt 38 49 rfl rfl (by kernel_rfl) (by rfl) (by kernel_rfl) (lenZ_k (notS (span x (y + 1))) (256 - 0) _ hnl) ?_
    rintro e w' ⟨rfl, hb⟩
    refine ⟨_, rfl, hT3.call hb, ?_⟩
    have hT4 := hT3.call hb
    clear hT3 hb
    simp only [Act.put, List.setIfInBounds_toArray, List.set_cons_zero, List.set_cons_succ]
    as_aux_lemma =>
      refine callAt 40 51 rfl rfl (by kernel_rfl) (by rfl) (by kernel_rfl) (lenZ_k (span x (y + 1)) 0 _ hl) ?_
      rintro e w' ⟨rfl, hb⟩
      refine ⟨_, rfl, hT4.call hb, ?_⟩
      have hT5 := hT4.call hb
      clear hT4 hb
      simp only [Act.put, List.setIfInBounds_toArray, List.set_cons_zero, List.set_cons_succ]
      refine takeAt 41 52 (.int .i64 (256 - 0)) rfl rfl (by kernel_rfl) (by kernel_rfl) (by kernel_rfl) (fun _ _ _ h => h) (sub64_y _ rfl rfl rfl rfl (by omega) (by omega) (by omega) (by omega) (by rfl)) hT5 ?_
      simp only [Act.put, List.setIfInBounds_toArray, List.set_cons_zero, List.set_cons_succ]
      refine takeAt 42 53 (.bool true) rfl rfl (by kernel_rfl) (by kernel_rfl) (by kernel_rfl) (fun _ _ _ h => h) (eql64_y true rfl rfl rfl (by simp) (by rfl)) hT5 ?_
      simp only [Act.put, List.setIfInBounds_toArray, List.set_cons_zero, List.set_cons_succ]
      refine takeAt 43 54 (.bool true) rfl rfl (by kernel_rfl) (by kernel_rfl) (by kernel_rfl) (fun _ _ _ h => h) (yields (by rfl) (fun w => by kernel_rfl)) hT5 ?_
      simp only [Act.put, List.setIfInBounds_toArray, List.set_cons_zero, List.set_cons_succ]
      refine takeAt 44 55 (.bool true) rfl rfl (by kernel_rfl) (by kernel_rfl) (by kernel_rfl) (fun _ _ _ h => h) (yields (by rfl) (fun w => by kernel_rfl)) hT5 ?_
      simp only [Act.put, List.setIfInBounds_toArray, List.set_cons_zero, List.set_cons_succ]
      refine callAt 45 56 rfl rfl (by kernel_rfl) (by rfl) (by kernel_rfl) (hT5.fix HF.out) ?_
      rintro e w' ⟨rfl, hb⟩
      refine ⟨_, rfl, hT5.call hb, ?_⟩
      have hT6 := hT5.call hb
      clear hT5 hb
      simp only [Act.put, List.setIfInBounds_toArray, List.set_cons_zero, List.set_cons_succ]
      refine takeAt 46 57 (.bool true) rfl rfl (by kernel_rfl) (by kernel_rfl) (by kernel_rfl) (fun _ _ _ h => h) (yields (by rfl) (fun w => by kernel_rfl)) hT6 ?_
      simp only [Act.put, List.setIfInBounds_toArray, List.set_cons_zero, List.set_cons_succ]
      refine takeAt 47 6 (.bool true) rfl rfl (by kernel_rfl) (by kernel_rfl) (by kernel_rfl) (fun _ _ _ h => h) (yields (by rfl) (fun w => by kernel_rfl)) hT6 ?_
      simp only [Act.put, List.setIfInBounds_toArray, List.set_cons_zero, List.set_cons_succ]
      refine wpAnyH_done (by kernel_rfl) ?_ _
      go_wp2
      go_ret
      exact ⟨rfl, hT6.2.1⟩

theorem classSpans_walk (hfix : FixedOk) (x y z : Nat) (w : World) (ht : TabOk w) (hx : x < 256) (hy : y < 256) (hz : z < 256) :
    Calls Tryd.prog 8 #[.int .u8 (x : Int), .int .u8 (y : Int), .int .u8 (z : Int)] w fun e w' => e = .returned (.bool true) ∧ Below w.heap.size w w' := by
  have hm : mem (span x (y + 1)) z = (decide (x ≤ z) && decide (z < y + 1)) := by unfold mem; rw [span_bit]; simp [hz]
  have hl := lenS_span x y hx hy
  have hn := lenS_not (span x (y + 1))
  by_cases hgt : y < x
  · have hmax : (if (0 : Int) < (y : Int) - (x : Int) + 1 then (y : Int) - (x : Int) + 1 else 0) = 0 := by rw [if_neg (by omega)]
    by_cases hac : x ≤ z
    · exact classSpans_gA hfix x y z w ht hx hy hz (by simp; omega) (by simp; omega) (by simp; omega) (by rw [hm]; simp; omega) (by omega) (by omega) hmax
    · by_cases hcb : z ≤ y
      · exact classSpans_gB hfix x y z w ht hx hy hz (by simp; omega) (by simp; omega) (by simp; omega) (by rw [hm]; simp; omega) (by omega) (by omega) hmax
      · exact classSpans_gC hfix x y z w ht hx hy hz (by simp; omega) (by simp; omega) (by simp; omega) (by rw [hm]; simp; omega) (by omega) (by omega) hmax
  · have hmax : (if (0 : Int) < (y : Int) - (x : Int) + 1 then (y : Int) - (x : Int) + 1 else 0) = (y : Int) - (x : Int) + 1 := by rw [if_pos (by omega)]
    have hn1 := runs_span x y (by omega) hy
    by_cases hac : x ≤ z
    · by_cases hcb : z ≤ y
      · exact classSpans_in hfix x y z w ht hx hy hz (by simp; omega) (by simp; omega) (by simp; omega) (by rw [hm]; simp; omega) (by omega) (by omega) hmax hn1
      · exact classSpans_hi hfix x y z w ht hx hy hz (by simp; omega) (by simp; omega) (by simp; omega) (by rw [hm]; simp; omega) (by omega) (by omega) hmax hn1
    · exact classSpans_lo hfix x y z w ht hx hy hz (by simp; omega) (by simp; omega) (by simp; omega) (by rw [hm]; simp; omega) (by omega) (by omega) hmax hn1
end Go.Proofs.YtobhhhopkkcdiaaDoor
