/-
  Layer 6: strings.ContainsRune at an ASCII rune; and at any other one, for the text of the flags.
-/
import Derived.Test.YtkpijnodhlonfaaGreatDoorLexKitM
import Derived.Lib.Hide
import Derived.WalkMore
namespace Go.Proofs.YtkpijnodhlonfaaGreatDoor
open Go.RowKit

theorem first_nonneg (s : ByteArray) (c : UInt8) : decide (0 ≤ firstIdx s c) = decide (∃ j, j < s.size ∧ bt s j = c.toNat) := by
  rcases first_cases s c with ⟨h, hn⟩ | ⟨i, h, hi, hb, -⟩
  · rw [h, decide_eq_false (by decide), decide_eq_false (fun ⟨j, _, hj⟩ => hn j hj)]
  · rw [h, decide_eq_true (by omega), decide_eq_true ⟨i, hi, hb⟩]
set_option maxRecDepth 100000 in
theorem indexRune_low (s : ByteArray) (c : Nat) (w : World) (hc : c < 128) : Calls Tryz.prog 140 #[.string s, .int .i32 (c : Int)] w fun e w' => e = .returned (.int .i64 (firstIdx s c.toUInt8)) ∧ w = w' := by
  have q1 : (0 : Int) ≤ (c : Int) := by omega
  have q2 : (c : Int) < 128 := by omega
  go_enter Tryz.func140, Tryz.ntmps140
  go_wp2_with fail
  refine (indexByte_any s _ _).mono ?_
  rintro e w1 ⟨rfl, rfl⟩
  go_wp2_with fail
  go_ret
  exact ⟨rfl, rfl⟩
theorem contains_low (s : ByteArray) (c : Nat) (w : World) (hc : c < 128) : Calls Tryz.prog 120 #[.string s, .int .i32 (c : Int)] w fun e w' => e = .returned (.bool (decide (∃ j, j < s.size ∧ bt s j = c))) ∧ w = w' := by
  have HI := Lib.hid (fun w => indexRune_low s c w hc)
  have HF := Lib.hid (first_nonneg s c.toUInt8)
  have hcc : c.toUInt8.toNat = c := by simp; omega
  rw [hcc] at HF
  clear hcc
  revert HF HI
  generalize firstIdx s c.toUInt8 = r
  generalize decide (∃ j, j < s.size ∧ bt s j = c) = b
  intro HI HF
  go_enter Tryz.func120, Tryz.ntmps120
  go_wp2_with fail
  refine (HI.out _).mono ?_
  rintro e w1 ⟨rfl, rfl⟩
  go_wp2_with fail
  go_ret
  exact ⟨ret_b HF.out, rfl⟩
theorem validRune_any (r : Int) (w : World) : Calls Tryz.prog 147 #[.int .i32 r] w fun e w' => e = .returned (.bool (validRune r)) ∧ w = w' := by
  by_cases a : 0 ≤ r
  · by_cases b : r < 55296
    · rw [show validRune r = true by unfold validRune; exact decide_eq_true (by omega)]
      go_enter Tryz.func147, Tryz.ntmps147
      go_wp2_with fail
      go_ret
      exact ⟨rfl, rfl⟩
    · by_cases c : 57343 < r
      · by_cases d : r ≤ 1114111
        · rw [show validRune r = true by unfold validRune; exact decide_eq_true (by omega)]
          go_enter Tryz.func147, Tryz.ntmps147
          go_wp2_with fail
          go_ret
          exact ⟨rfl, rfl⟩
        · rw [show validRune r = false by unfold validRune; exact decide_eq_false (by omega)]
          go_enter Tryz.func147, Tryz.ntmps147
          go_wp2_with fail
          go_ret
          exact ⟨rfl, rfl⟩
      · rw [show validRune r = false by unfold validRune; exact decide_eq_false (by omega)]
        go_enter Tryz.func147, Tryz.ntmps147
        go_wp2_with fail
        go_ret
        exact ⟨rfl, rfl⟩
  · have c : ¬ 57343 < r := by omega
    rw [show validRune r = false by unfold validRune; exact decide_eq_false (by omega)]
    go_enter Tryz.func147, Tryz.ntmps147
    go_wp2_with fail
    go_ret
    exact ⟨rfl, rfl⟩
/-- The text of the flags. -/
abbrev imsT : ByteArray := ⟨#[105, 109, 115]⟩
set_option maxRecDepth 100000 in
set_option maxHeartbeats 4000000 in
theorem indexRune_high (r : Int) (w : World) (hr : 128 ≤ r) : Calls Tryz.prog 140 #[.string imsT, .int .i32 r] w fun e w' => e = .returned (.int .i64 (-1)) ∧ Below w.heap.size w w' := by
  have q1 : (0 : Int) ≤ r := by omega
  have q2 : ¬ r < 128 := by omega
  have HV := Lib.hid (fun w => validRune_any r w)
  by_cases hE : r = 65533
  · subst hE
    clear HV q1 q2 hr
    have n0 : ∀ ty, (Instr.next (.pointer (some ⟨w.heap.size, 0, none⟩)) true ty).run Tryz.prog (w.iter imsT 0) = .ok (.tuple #[.bool true, .int .i64 0, .int .i32 105]) (w.iter imsT 1) := fun ty => run_next_ascii w imsT 0 ty (by decide) (by decide)
    have n1 : ∀ ty, (Instr.next (.pointer (some ⟨w.heap.size, 0, none⟩)) true ty).run Tryz.prog (w.iter imsT 1) = .ok (.tuple #[.bool true, .int .i64 1, .int .i32 109]) (w.iter imsT 2) := fun ty => run_next_ascii w imsT 1 ty (by decide) (by decide)
    have n2 : ∀ ty, (Instr.next (.pointer (some ⟨w.heap.size, 0, none⟩)) true ty).run Tryz.prog (w.iter imsT 2) = .ok (.tuple #[.bool true, .int .i64 2, .int .i32 115]) (w.iter imsT 3) := fun ty => run_next_ascii w imsT 2 ty (by decide) (by decide)
    have n3 : ∀ ty, (Instr.next (.pointer (some ⟨w.heap.size, 0, none⟩)) true ty).run Tryz.prog (w.iter imsT 3) = _ := fun ty => run_next_end w imsT 3 ty (by decide)
    go_enter Tryz.func140, Tryz.ntmps140
    go_wp2_with fail
    refine wp_loop_rounds 4 ?_
    rw [rounds_succ]; go_wp2_with fail
    rw [rounds_succ]; go_wp2_with fail
    rw [rounds_succ]; go_wp2_with fail
    rw [rounds_succ]; go_wp2_with fail
    go_ret
    exact ⟨rfl, below_iter w _ _⟩
  · by_cases hv : validRune r = true
    · have he := encode_facts r (by rw [validRune_eq]; exact hv) hr
      rw [hv] at HV
      have hsz : (Utf8.encode r).size = 2 ∨ (Utf8.encode r).size = 3 ∨ (Utf8.encode r).size = 4 := by omega
      obtain ⟨-, -, he⟩ := he
      clear hv
      rcases hsz with hsz | hsz | hsz
      · have hcv : ∀ w, (convert 21 9 (.int .i32 r)).run Tryz.prog w = .ok (.string (Utf8.encode r)) w := fun w => run_convert_int_string w 21 9 .i32 r (by kernel_rfl) (by kernel_rfl)
        revert he hsz hcv
        generalize Utf8.encode r = E
        intro he hsz hcv
        have h1 : 1 < E.size := by omega
        have hz : (E.size : Int) = 2 := by omega
        have h128 : 128 ≤ (E[1]'h1).toNat := by
          have := he (by omega)
          simpa [hsz] using this
        have h256 : (E[1]'h1).toNat < 256 := (E[1]'h1).toNat_lt
        have HF := Lib.hid (first_no (s := ⟨#[115]⟩) (c := E[1]'h1) (fun j => by
          by_cases h : j = 0
          · subst h; show 115 ≠ _; omega
          · rw [bt_no (show 1 ≤ j by omega)]; omega))
        have hne : ¬ ((imsT[1]'(by decide)).toNat : Int) = ((E[1]'h1).toNat : Int) := by
          show ¬ (109 : Int) = _
          omega
        have hem : imsT.extract 2 3 = ⟨#[115]⟩ := by rfl
        clear he hsz h128 h256
        go_enter Tryz.func140, Tryz.ntmps140
        go_wp2_with fail
        refine (HV.out _).mono ?_
        rintro e w1 ⟨rfl, rfl⟩
        go_wp2_with fail
        go_step3
        go_wp2_with fail
        refine wp_loop_rounds 2 ?_
        rw [rounds_succ]; go_wp2_with fail
        go_step3
        go_wp2_with fail
        go_region
        go_wp2_with fail
        go_region_with (go_at_call 142; refine (indexByte_any _ _ _).mono ?_; rintro e w2 ⟨rfl, rfl⟩)
        all_goals
          rw [HF.out]
          go_wp2_with fail
          rw [Exit.noGoto_ret]
          go_wp2_with fail
          rw [Exit.noGoto_ret]
          go_ret
          exact ⟨rfl, ((Below.refl _ _).drew).drew⟩
      · have hcv : ∀ w, (convert 21 9 (.int .i32 r)).run Tryz.prog w = .ok (.string (Utf8.encode r)) w := fun w => run_convert_int_string w 21 9 .i32 r (by kernel_rfl) (by kernel_rfl)
        revert he hsz hcv
        generalize Utf8.encode r = E
        intro he hsz hcv
        have h1 : 2 < E.size := by omega
        have hz : (E.size : Int) = 3 := by omega
        have h128 : 128 ≤ (E[2]'h1).toNat := by
          have := he (by omega)
          simpa [hsz] using this
        have h256 : (E[2]'h1).toNat < 256 := (E[2]'h1).toNat_lt
        have HF := Lib.hid (first_no (s := ByteArray.empty) (c := E[2]'h1) (fun j => by
          rw [bt_no (show 0 ≤ j by omega)]; omega))
        have hne : ¬ ((imsT[2]'(by decide)).toNat : Int) = ((E[2]'h1).toNat : Int) := by
          show ¬ (115 : Int) = _
          omega
        have hem : imsT.extract 3 3 = ByteArray.empty := by rfl
        clear he hsz h128 h256
        go_enter Tryz.func140, Tryz.ntmps140
        go_wp2_with fail
        refine (HV.out _).mono ?_
        rintro e w1 ⟨rfl, rfl⟩
        go_wp2_with fail
        go_step3
        go_wp2_with fail
        refine wp_loop_rounds 2 ?_
        rw [rounds_succ]; go_wp2_with fail
        go_step3
        go_wp2_with fail
        go_region
        go_wp2_with fail
        go_region_with (go_at_call 142; refine (indexByte_any _ _ _).mono ?_; rintro e w2 ⟨rfl, rfl⟩)
        all_goals
          rw [HF.out]
          go_wp2_with fail
          rw [Exit.noGoto_ret]
          go_wp2_with fail
          rw [Exit.noGoto_ret]
          go_ret
          exact ⟨rfl, ((Below.refl _ _).drew).drew⟩
      · have hcv : ∀ w, (convert 21 9 (.int .i32 r)).run Tryz.prog w = .ok (.string (Utf8.encode r)) w := fun w => run_convert_int_string w 21 9 .i32 r (by kernel_rfl) (by kernel_rfl)
        revert he hsz hcv
        generalize Utf8.encode r = E
        intro he hsz hcv
        have h1 : 3 < E.size := by omega
        have hz : (E.size : Int) = 4 := by omega
        clear he hsz
        go_enter Tryz.func140, Tryz.ntmps140
        go_wp2_with fail
        refine (HV.out _).mono ?_
        rintro e w1 ⟨rfl, rfl⟩
        go_wp2_with fail
        go_step3
        go_wp2_with fail
        refine wp_loop_rounds 2 ?_
        rw [rounds_succ]; go_wp2_with fail
        rw [Exit.noGoto_ret]
        go_ret
        exact ⟨rfl, Below.refl _ _⟩
    · rw [Bool.not_eq_true] at hv
      rw [hv] at HV
      clear hv
      go_enter Tryz.func140, Tryz.ntmps140
      go_wp2_with fail
      refine (HV.out _).mono ?_
      rintro e w1 ⟨rfl, rfl⟩
      go_wp2_with fail
      go_ret
      exact ⟨rfl, Below.refl _ _⟩
theorem contains_high (r : Int) (w : World) (hr : 128 ≤ r) : Calls Tryz.prog 120 #[.string imsT, .int .i32 r] w fun e w' => e = .returned (.bool false) ∧ Below w.heap.size w w' := by
  go_enter Tryz.func120, Tryz.ntmps120
  go_wp2_with fail
  refine (indexRune_high r _ hr).mono ?_
  rintro e w1 ⟨rfl, hb⟩
  have HB := Lib.hid hb
  clear hb
  go_wp2_with fail
  go_ret
  exact ⟨rfl, HB.out⟩
end Go.Proofs.YtkpijnodhlonfaaGreatDoor
