import Derived.Test.YteggpecbeagohaaGreatDoorLexKitMM
import Derived.Lib.Hide
import Derived.WalkMore
import Derived.Lib.ConvBytes
import Derived.Test.YteggpecbeagohaaGreatDoorClassMM
import Derived.Deep.RegionWith
namespace Go.Proofs.YteggpecbeagohaaGreatDoor
open Go.RowKit
theorem first_nonneg (s : ByteArray) (c : UInt8) : decide (0 ≤ firstIdx s c) = decide (∃ j, j < s.size ∧ bt s j = c.toNat) := by
 rcases first_cases s c with ⟨h, hn⟩ | ⟨i, h, hi, hb, -⟩
 ·rw [h, decide_eq_false (by decide), decide_eq_false (fun ⟨j, _, hj⟩ => hn j hj)]
 ·rw [h, decide_eq_true (by omega), decide_eq_true ⟨i, hi, hb⟩]
set_option maxRecDepth 100000 in
theorem indexRune_low (s : ByteArray) (c : Nat) (w : World) (hc : c < 128) : Calls Tryz.prog 126 #[.string s, .int .i32 (c : Int)] w fun e w' => e = .returned (.int .i64 (firstIdx s c.toUInt8)) ∧ w = w' := by
 have q1 : (0 : Int) ≤ (c : Int) := by omega
 have q2 : (c : Int) < 128 := by omega
 go_enter Tryz.func126, Tryz.ntmps126
 go_wp2_with fail
 refine (indexByte_any s _ _).mono ?_
 rintro e w1 ⟨rfl, rfl⟩
 go_wp2_with fail
 go_ret
 exact ⟨rfl, rfl⟩
theorem contains_low (s : ByteArray) (c : Nat) (w : World) (hc : c < 128) : Calls Tryz.prog 100 #[.string s, .int .i32 (c : Int)] w fun e w' => e = .returned (.bool (decide (∃ j, j < s.size ∧ bt s j = c))) ∧ w = w' := by
 have HI := Lib.hid (fun w => indexRune_low s c w hc)
 have HF := Lib.hid (first_nonneg s c.toUInt8)
 have hcc : c.toUInt8.toNat = c := by simp; omega
 rw [hcc] at HF
 clear hcc
 revert HF HI
 generalize firstIdx s c.toUInt8 = r
 generalize decide (∃ j, j < s.size ∧ bt s j = c) = b
 intro HI HF
 go_enter Tryz.func100, Tryz.ntmps100
 go_wp2_with fail
 refine (HI.out _).mono ?_
 rintro e w1 ⟨rfl, rfl⟩
 go_wp2_with fail
 go_ret
 exact ⟨ret_b HF.out, rfl⟩
theorem validRune_any (r : Int) (w : World) : Calls Tryz.prog 150 #[.int .i32 r] w fun e w' => e = .returned (.bool (validRune r)) ∧ w = w' := by
 by_cases a : 0 ≤ r
 ·by_cases b : r < 55296
  ·rw [show validRune r = true by unfold validRune; exact decide_eq_true (by omega)]
   go_enter Tryz.func150, Tryz.ntmps150
   go_wp2_with fail
   go_ret
   exact ⟨rfl, rfl⟩
  ·by_cases c : 57343 < r
   ·by_cases d : r ≤ 1114111
    ·rw [show validRune r = true by unfold validRune; exact decide_eq_true (by omega)]
     go_enter Tryz.func150, Tryz.ntmps150
     go_wp2_with fail
     go_ret
     exact ⟨rfl, rfl⟩
    ·rw [show validRune r = false by unfold validRune; exact decide_eq_false (by omega)]
     go_enter Tryz.func150, Tryz.ntmps150
     go_wp2_with fail
     go_ret
     exact ⟨rfl, rfl⟩
   ·rw [show validRune r = false by unfold validRune; exact decide_eq_false (by omega)]
    go_enter Tryz.func150, Tryz.ntmps150
    go_wp2_with fail
    go_ret
    exact ⟨rfl, rfl⟩
 ·have c : ¬ 57343 < r := by omega
  rw [show validRune r = false by unfold validRune; exact decide_eq_false (by omega)]
  go_enter Tryz.func150, Tryz.ntmps150
  go_wp2_with fail
  go_ret
  exact ⟨rfl, rfl⟩
abbrev imsT : ByteArray := ⟨#[105, 109, 115]⟩
set_option maxRecDepth 100000 in
set_option maxHeartbeats 4000000 in
theorem indexRune_high (r : Int) (w : World) (hr : 128 ≤ r) : Calls Tryz.prog 126 #[.string imsT, .int .i32 r] w fun e w' => e = .returned (.int .i64 (-1)) ∧ Below w.heap.size w w' := by
 have q1 : (0 : Int) ≤ r := by omega
 have q2 : ¬ r < 128 := by omega
 have HV := Lib.hid (fun w => validRune_any r w)
 by_cases hE : r = 65533
 ·subst hE
  clear HV q1 q2 hr
  have n0 : ∀ ty, (Instr.next (.pointer (some ⟨w.heap.size, 0, none⟩)) true ty).run Tryz.prog (w.iter imsT 0) = .ok (.tuple #[.bool true, .int .i64 0, .int .i32 105]) (w.iter imsT 1) := fun ty => run_next_ascii w imsT 0 ty (by decide) (by decide)
  have n1 : ∀ ty, (Instr.next (.pointer (some ⟨w.heap.size, 0, none⟩)) true ty).run Tryz.prog (w.iter imsT 1) = .ok (.tuple #[.bool true, .int .i64 1, .int .i32 109]) (w.iter imsT 2) := fun ty => run_next_ascii w imsT 1 ty (by decide) (by decide)
  have n2 : ∀ ty, (Instr.next (.pointer (some ⟨w.heap.size, 0, none⟩)) true ty).run Tryz.prog (w.iter imsT 2) = .ok (.tuple #[.bool true, .int .i64 2, .int .i32 115]) (w.iter imsT 3) := fun ty => run_next_ascii w imsT 2 ty (by decide) (by decide)
  have n3 : ∀ ty, (Instr.next (.pointer (some ⟨w.heap.size, 0, none⟩)) true ty).run Tryz.prog (w.iter imsT 3) = _ := fun ty => run_next_end w imsT 3 ty (by decide)
  go_enter Tryz.func126, Tryz.ntmps126
  go_wp2_with fail
  refine wp_loop_rounds 4 ?_
  rw [rounds_succ]; go_wp2_with fail
  rw [rounds_succ]; go_wp2_with fail
  rw [rounds_succ]; go_wp2_with fail
  rw [rounds_succ]; go_wp2_with fail
  go_ret
  exact ⟨rfl, below_iter w _ _⟩
 ·by_cases hv : validRune r = true
  ·have he := encode_facts r (by rw [validRune_eq]; exact hv) hr
   rw [hv] at HV
   have hsz : (Utf8.encode r).size = 2 ∨ (Utf8.encode r).size = 3 ∨ (Utf8.encode r).size = 4 := by omega
   obtain ⟨-, -, he⟩ := he
   clear hv
   rcases hsz with hsz | hsz | hsz
   ·have hcv : ∀ w, (convert 21 9 (.int .i32 r)).run Tryz.prog w = .ok (.string (Utf8.encode r)) w := fun w => run_convert_int_string w 21 9 .i32 r (by kernel_rfl) (by kernel_rfl)
    revert he hsz hcv
    generalize Utf8.encode r = E
    intro he hsz hcv
    have h1 : 1 < E.size := by omega
    have hz : (E.size : Int) = 2 := by omega
    have h128 : 128 ≤ (E[1]'h1).toNat := by
     have := he (by omega)
     simpa [hsz] using this
    have h256 : (E[1]'h1).toNat < 256 := (E[1]'h1).toNat_lt
    have HF := Lib.hid (first_no (s := ⟨#[115]⟩) (c := E[1]'h1) (fun j => by
     by_cases h : j = 0
     ·subst h; show 115 ≠ _; omega
     ·rw [bt_no (show 1 ≤ j by omega)]; omega))
    have hne : ¬ ((imsT[1]'(by decide)).toNat : Int) = ((E[1]'h1).toNat : Int) := by
     show ¬ (109 : Int) = _
     omega
    have hem : imsT.extract 2 3 = ⟨#[115]⟩ := by rfl
    clear he hsz h128 h256
    go_enter Tryz.func126, Tryz.ntmps126
    go_wp2_with fail
    refine (HV.out _).mono ?_
    rintro e w1 ⟨rfl, rfl⟩
    go_wp2_with fail
    go_step3
    go_wp2_with fail
    refine wp_loop_rounds 2 ?_
    rw [rounds_succ]; go_wp2_with fail
    go_step3
    go_wp2_with fail
    go_region
    go_wp2_with fail
    go_region_with (go_at_call 128; refine (indexByte_any _ _ _).mono ?_; rintro e w2 ⟨rfl, rfl⟩)
    all_goals
     rw [HF.out]
     go_wp2_with fail
     rw [Exit.noGoto_ret]
     go_wp2_with fail
     rw [Exit.noGoto_ret]
     go_ret
     exact ⟨rfl, ((Below.refl _ _).drew).drew⟩
   ·have hcv : ∀ w, (convert 21 9 (.int .i32 r)).run Tryz.prog w = .ok (.string (Utf8.encode r)) w := fun w => run_convert_int_string w 21 9 .i32 r (by kernel_rfl) (by kernel_rfl)
    revert he hsz hcv
    generalize Utf8.encode r = E
    intro he hsz hcv
    have h1 : 2 < E.size := by omega
    have hz : (E.size : Int) = 3 := by omega
    have h128 : 128 ≤ (E[2]'h1).toNat := by
     have := he (by omega)
     simpa [hsz] using this
    have h256 : (E[2]'h1).toNat < 256 := (E[2]'h1).toNat_lt
    have HF := Lib.hid (first_no (s := ByteArray.empty) (c := E[2]'h1) (fun j => by
     rw [bt_no (show 0 ≤ j by omega)]; omega))
    have hne : ¬ ((imsT[2]'(by decide)).toNat : Int) = ((E[2]'h1).toNat : Int) := by
     show ¬ (115 : Int) = _
     omega
    have hem : imsT.extract 3 3 = ByteArray.empty := by rfl
    clear he hsz h128 h256
    go_enter Tryz.func126, Tryz.ntmps126
    go_wp2_with fail
    refine (HV.out _).mono ?_
    rintro e w1 ⟨rfl, rfl⟩
    go_wp2_with fail
    go_step3
    go_wp2_with fail
    refine wp_loop_rounds 2 ?_
    rw [rounds_succ]; go_wp2_with fail
    go_step3
    go_wp2_with fail
    go_region
    go_wp2_with fail
    go_region_with (go_at_call 128; refine (indexByte_any _ _ _).mono ?_; rintro e w2 ⟨rfl, rfl⟩)
    all_goals
     rw [HF.out]
     go_wp2_with fail
     rw [Exit.noGoto_ret]
     go_wp2_with fail
     rw [Exit.noGoto_ret]
     go_ret
     exact ⟨rfl, ((Below.refl _ _).drew).drew⟩
   ·have hcv : ∀ w, (convert 21 9 (.int .i32 r)).run Tryz.prog w = .ok (.string (Utf8.encode r)) w := fun w => run_convert_int_string w 21 9 .i32 r (by kernel_rfl) (by kernel_rfl)
    revert he hsz hcv
    generalize Utf8.encode r = E
    intro he hsz hcv
    have h1 : 3 < E.size := by omega
    have hz : (E.size : Int) = 4 := by omega
    clear he hsz
    go_enter Tryz.func126, Tryz.ntmps126
    go_wp2_with fail
    refine (HV.out _).mono ?_
    rintro e w1 ⟨rfl, rfl⟩
    go_wp2_with fail
    go_step3
    go_wp2_with fail
    refine wp_loop_rounds 2 ?_
    rw [rounds_succ]; go_wp2_with fail
    rw [Exit.noGoto_ret]
    go_ret
    exact ⟨rfl, Below.refl _ _⟩
  ·rw [Bool.not_eq_true] at hv
   rw [hv] at HV
   clear hv
   go_enter Tryz.func126, Tryz.ntmps126
   go_wp2_with fail
   refine (HV.out _).mono ?_
   rintro e w1 ⟨rfl, rfl⟩
   go_wp2_with fail
   go_ret
   exact ⟨rfl, Below.refl _ _⟩
theorem contains_high (r : Int) (w : World) (hr : 128 ≤ r) : Calls Tryz.prog 100 #[.string imsT, .int .i32 r] w fun e w' => e = .returned (.bool false) ∧ Below w.heap.size w w' := by
 go_enter Tryz.func100, Tryz.ntmps100
 go_wp2_with fail
 refine (indexRune_high r _ hr).mono ?_
 rintro e w1 ⟨rfl, hb⟩
 have HB := Lib.hid hb
 clear hb
 go_wp2_with fail
 go_ret
 exact ⟨rfl, HB.out⟩
end Go.Proofs.YteggpecbeagohaaGreatDoor
namespace Go.Proofs.YteggpecbeagohaaGreatDoor
open Go.RowKit
def CloneOk : Prop := ∀ (s : ByteArray) (w : World), s.size ≤ 281474976710656 → Calls Tryz.prog 24 #[.string s] w fun e w' => e = .returned (.string s) ∧ Below w.heap.size w w'
theorem ims_is (c : Nat) : decide (∃ j, j < imsT.size ∧ bt imsT j = c) = isF c := by
 have e : imsT.size = 3 := rfl
 unfold isF
 by_cases a : c = 105
 ·subst a; rw [decide_eq_true ⟨0, by decide, rfl⟩]; rfl
 ·by_cases b : c = 109
  ·subst b; rw [decide_eq_true ⟨1, by decide, rfl⟩]; rfl
  ·by_cases d : c = 115
   ·subst d; rw [decide_eq_true ⟨2, by decide, rfl⟩]; rfl
   ·rw [decide_eq_false]
    ·simp [a, b, d]
    ·rintro ⟨j, hj, h⟩
     rw [e] at hj
     rcases (show j = 0 ∨ j = 1 ∨ j = 2 by omega) with rfl | rfl | rfl
     ·exact a h.symm
     ·exact b h.symm
     ·exact d h.symm
def LeadI (p : ByteArray) (a : Nat) (s : ByteArray) (k : Nat) : Prop := flagsF p (p.size + 1) a [] = flagsF p (p.size + 1 - k) (a + k) (s.extract 0 k).data.toList
theorem lead_0 (p : ByteArray) (a : Nat) (s : ByteArray) : LeadI p a s 0 := by
 unfold LeadI
 rw [show s.extract 0 0 = ByteArray.empty by apply str_empty; simp]
 rfl
theorem lead_fuel {p s : ByteArray} {a k : Nat} (hs : s = p.extract a p.size) (hk : k < s.size) (ha : a ≤ p.size) : ∃ f, p.size + 1 - k = f + 1 ∧ a + k < p.size := by
 have : s.size = p.size - a := by rw [hs]; exact ext_size (Nat.le_refl _)
 exact ⟨p.size - k, by omega, by omega⟩
theorem lead_get {p s : ByteArray} {a k : Nat} (hs : s = p.extract a p.size) (hk : k < s.size) (hlt : a + k < p.size) : p[a + k]'hlt = s[k] := by
 subst hs
 rw [ByteArray.getElem_extract]
section
variable {p s : ByteArray} {a k : Nat} (hs : s = p.extract a p.size) (ha : a ≤ p.size) (hk : k < s.size) (hI : LeadI p a s k)
include hs ha hk hI
theorem lead_bad (hb : isF (bt s k) = false) (hc : bt s k ≠ 58) : leadT (flagsF p (p.size + 1) a []) = (ByteArray.empty, false) := by
 obtain ⟨f, hf, hlt⟩ := lead_fuel hs hk ha
 unfold LeadI at hI
 rw [hI, hf, flags_bad (by rw [← bt_ext _ ha, ← hs]; exact hb) (by rw [← bt_ext _ ha, ← hs]; exact hc)]
 rfl
theorem lead_twice (hc : bt s k ≠ 58) (hm : decide (∃ j, j < (s.extract 0 k).size ∧ bt (s.extract 0 k) j = bt s k) = true) : leadT (flagsF p (p.size + 1) a []) = (ByteArray.empty, false) := by
 obtain ⟨f, hf, hlt⟩ := lead_fuel hs hk ha
 have hg := lead_get hs hk hlt
 unfold LeadI at hI
 obtain ⟨j, hj, he⟩ := of_decide_eq_true hm
 rw [ext_size (by omega)] at hj
 rw [bt_ext2 (by omega) (by omega), Nat.zero_add] at he
 rw [hI, hf, flags_twice hlt (by rw [← bt_ext _ ha, ← hs]; exact hc) (by rw [hg, mem_pre (by omega)]; exact ⟨j, by omega, by rw [he, bt_at hk]⟩)]
 rfl
theorem lead_next (hb : isF (bt s k) = true) (hm : decide (∃ j, j < (s.extract 0 k).size ∧ bt (s.extract 0 k) j = bt s k) = false) : LeadI p a s (k + 1) := by
 obtain ⟨f, hf, hlt⟩ := lead_fuel hs hk ha
 have hg := lead_get hs hk hlt
 unfold LeadI at hI ⊢
 have hm' := of_decide_eq_false hm
 rw [hI, hf, flags_next hlt (by rw [← bt_ext _ ha, ← hs]; exact hb) (by
  rw [hg, mem_pre (by omega)]
  rintro ⟨j, hj, he⟩
  exact hm' ⟨j, by rw [ext_size (by omega)]; omega, by rw [bt_ext2 (by omega) (by omega), Nat.zero_add, he, bt_at hk]⟩), hg, pre_snoc hk, show p.size + 1 - (k + 1) = f by omega]
 rfl
theorem lead_colon (hc : bt s k = 58) (h0 : k ≠ 0) : leadT (flagsF p (p.size + 1) a []) = (s.extract 0 k, true) := by
 obtain ⟨f, hf, hlt⟩ := lead_fuel hs hk ha
 unfold LeadI at hI
 rw [hI, hf, flags_colon hlt (by rw [← bt_ext _ ha, ← hs]; exact hc) (by
  intro h
  have h2 : (s.extract 0 k).data.toList.length = k := by simp; omega
  rw [h] at h2
  exact h0 h2.symm)]
 unfold leadT
 rw [if_pos rfl]
end
theorem lead_end {p s : ByteArray} {a : Nat} (hs : s = p.extract a p.size) (ha : a ≤ p.size) (hI : LeadI p a s s.size) : leadT (flagsF p (p.size + 1) a []) = (ByteArray.empty, false) := by
 have : s.size = p.size - a := by rw [hs]; exact ext_size (Nat.le_refl _)
 unfold LeadI at hI
 rw [hI, flags_end (by omega)]
 rfl
set_option maxHeartbeats 4000000 in
theorem lead_any (hC : CloneOk) (p s : ByteArray) (a : Nat) (w : World) (hs : s = p.extract a p.size) (hp : p.size ≤ 1000000) (ha : a ≤ p.size) (h58 : bt s 0 ≠ 58) :
  Calls Tryz.prog 72 #[.string s] w fun e w' => e = .returned (.tuple #[.string (leadT (flagsF p (p.size + 1) a [])).1, .bool (leadT (flagsF p (p.size + 1) a [])).2]) ∧ Below w.heap.size w w' := by
 have hsz : s.size ≤ 1000000 := by
  have : s.size = p.size - a := by rw [hs]; exact ext_size (Nat.le_refl _)
  omega
 have HL0 := Lib.hid (lead_0 p a s)
 have H58 := Lib.hid h58
 have HS := Lib.hid hs
 have HA := Lib.hid ha
 have HC := Lib.hid hC
 obtain ⟨R, hR⟩ : ∃ R, R = leadT (flagsF p (p.size + 1) a []) := ⟨_, rfl⟩
 rw [← hR]
 have HR := Lib.hid hR
 clear hR h58 hs ha hC
 go_enter Tryz.func72, Tryz.ntmps72
 go_wp2_with fail
 go_loopw [4] (fun a' wr => ∃ k : Nat, k ≤ s.size ∧ LeadI p a s k ∧ wr = w.iter s k) (fun _ wr => s.size - wr.iterPos w.heap.size)
 case atStart => exact ⟨0, by omega, HL0.out, rfl⟩
 case round =>
  obtain ⟨k, hk, hI, rfl⟩ := hrel
  have HI := Lib.hid hI
  clear hI
  by_cases hp : k < s.size
  ·obtain ⟨c, hc⟩ : ∃ c, c = (s[k]'hp).toNat := ⟨_, rfl⟩
   have HB := Lib.hid (show bt s k = c by rw [hc]; exact bt_at hp)
   by_cases h128 : c < 128
   ·have hnx : ∀ ty, (Instr.next (.pointer (some ⟨w.heap.size, 0, none⟩)) true ty).run Tryz.prog (w.iter s k) = .ok (.tuple #[.bool true, .int .i64 k, .int .i32 (c : Nat)]) (w.iter s (k + 1)) := fun ty => by rw [hc]; exact run_next_ascii w s k ty hp (by rw [← hc]; exact h128)
    clear hc
    have kk : (k : Int) ≤ (s.size : Int) := by omega
    have hx2 : s.extract 0 k = s.extract 0 k := rfl
    have HX := Lib.hid (show ∀ w, Calls Tryz.prog 100 #[.string imsT, .int .i32 (c : Int)] w (fun e w' => e = .returned (.bool (isF c)) ∧ w = w') from fun w => by rw [← ims_is c]; exact contains_low imsT c w h128)
    have HY := Lib.hid (fun w => contains_low (s.extract 0 k) c w h128)
    by_cases e58 : c = 58
    ·have q1 : (c : Int) = 58 := by omega
     have HF := Lib.hid (lead_colon HS.out HA.out hp HI.out (by rw [HB.out]; exact e58) (by rintro rfl; exact H58.out (by rw [HB.out]; exact e58)))
     clear e58 hx2 HX HY
     go_wp2_with fail
     refine (HC.out _ _ (by rw [ext_size (by omega)]; omega)).mono ?_
     rintro e w1 ⟨rfl, hb1⟩
     have HB1 := Lib.hid ((below_iter w s (k + 1)).trans (hb1.mono (by simp [World.iter])))
     clear hb1
     go_wp2_with fail
     go_ret2
     exact ⟨by rw [HR.out, HF.out]; rfl, HB1.out⟩
    ·have q1 : ¬ (c : Int) = 58 := by omega
     have HZ := Lib.hid (fun h => lead_bad HS.out HA.out hp HI.out (h) (by rw [HB.out]; exact e58))
     have HT := Lib.hid (fun h => lead_twice HS.out HA.out hp HI.out (by rw [HB.out]; exact e58) h)
     have HN := Lib.hid (fun h => lead_next HS.out HA.out hp HI.out h)
     clear e58 hx2
     rw [HB.out] at HZ HT HN
     revert HX HY HZ HT HN
     generalize isF c = b1
     generalize decide (∃ j, j < (s.extract 0 k).size ∧ bt (s.extract 0 k) j = c) = b2
     intro HX HY HZ HT HN
     cases b1 with
     | false =>
       have HQ := Lib.hid (HZ.out rfl)
       clear HY HZ HT HN
       go_wp2_with fail
       refine (HX.out _).mono ?_
       rintro e w1 ⟨rfl, rfl⟩
       go_wp2_with fail
       go_ret2
       exact ⟨by rw [HR.out, HQ.out]; rfl, below_iter w s _⟩
     | true =>
       cases b2 with
       | true =>
         have HQ := Lib.hid (HT.out rfl)
         clear HZ HT HN
         go_wp2_with fail
         refine (HX.out _).mono ?_
         rintro e w1 ⟨rfl, rfl⟩
         go_wp2_with fail
         refine (HY.out _).mono ?_
         rintro e w1 ⟨rfl, rfl⟩
         go_wp2_with fail
         go_ret2
         exact ⟨by rw [HR.out, HQ.out]; rfl, below_iter w s _⟩
       | false =>
         have HQ := Lib.hid (HN.out rfl rfl)
         clear HZ HT HN
         go_wp2_with fail
         refine (HX.out _).mono ?_
         rintro e w1 ⟨rfl, rfl⟩
         go_wp2_with fail
         refine (HY.out _).mono ?_
         rintro e w1 ⟨rfl, rfl⟩
         go_wp2_with fail
         go_roundw
         case rel => exact ⟨k + 1, by omega, HQ.out, rfl⟩
         case measure => rw [iterPos_at, iterPos_at]; omega
   ·have hnx : ∀ ty, (Instr.next (.pointer (some ⟨w.heap.size, 0, none⟩)) true ty).run Tryz.prog (w.iter s k) = _ := fun ty => run_next_any w s k ty hp
    have hr := (decode_high s k hp (by omega)).1
    have HQ := Lib.hid (lead_bad HS.out HA.out hp HI.out (by rw [HB.out]; unfold isF; simp; omega) (by rw [HB.out]; omega))
    clear hc
    revert hnx hr
    generalize (Utf8.decode s k).1 = r
    generalize (Utf8.decode s k).2 = z
    intro hnx hr
    have HX := Lib.hid (fun w => contains_high (r : Int) w (by omega))
    have q1 : ¬ (r : Int) = 58 := by omega
    have HW := Lib.hid (below_iter w s (k + z))
    clear hr
    go_wp2_with fail
    refine (HX.out _).mono ?_
    rintro e w1 ⟨rfl, hb1⟩
    have HB1 := Lib.hid (HW.out.trans (hb1.mono HW.out.size))
    clear hb1
    go_wp2_with fail
    go_ret2
    exact ⟨by rw [HR.out, HQ.out]; rfl, HB1.out⟩
  ·obtain rfl : k = s.size := by omega
   have hnx : ∀ ty, (Instr.next (.pointer (some ⟨w.heap.size, 0, none⟩)) true ty).run Tryz.prog (w.iter s s.size) = _ := fun ty => run_next_end w s s.size ty hp
   have HQ := Lib.hid (lead_end HS.out HA.out HI.out)
   go_wp2_with fail
   go_ret2
   exact ⟨by rw [HR.out, HQ.out]; rfl, below_iter w s _⟩
end Go.Proofs.YteggpecbeagohaaGreatDoor
namespace Go.Proofs.YteggpecbeagohaaGreatDoor
open Go.RowKit
theorem or_u8 (c : Nat) (hc : c < 256) : bits BinOp.or IntKind.u8 (c : Int) 32 = ((c ||| 32 : Nat) : Int) := by
 have h : ∀ c : Fin 256, bits BinOp.or IntKind.u8 ((c.val : Nat) : Int) 32 = ((c.val ||| 32 : Nat) : Int) := by decide +kernel
 exact h ⟨c, hc⟩
theorem lower_any (c : Nat) (w : World) (hc : c < 256) : Calls Tryz.prog 167 #[.int .u8 (c : Int)] w fun e w' => e = .returned (.int .u8 ((c ||| 32 : Nat) : Int)) ∧ w = w' := by
 have H := Lib.hid (or_u8 c hc)
 go_enter Tryz.func167, Tryz.ntmps167
 go_wp2_with fail
 go_ret
 exact ⟨by rw [← H.out]; rfl, rfl⟩
inductive Kd (a L : Nat) : Int → Prop
 | dig : 48 ≤ a → a ≤ 57 → Kd a L ((a : Int) - 48)
 | low : 57 < a → 97 ≤ L → L ≤ 102 → a ≠ 95 → Kd a L ((L : Int) - 87)
 | high : 57 < a → 103 ≤ L → L ≤ 122 → a ≠ 95 → Kd a L (-1)
 | un1 : a < 48 → L < 97 → Kd a L (-1)
 | un2 : 57 < a → L < 97 → a ≠ 95 → Kd a L (-1)
 | over : 57 < a → 122 < L → a ≠ 95 → Kd a L (-1)
 | line : a = 95 → L = 127 → Kd a L (-1)
theorem hex_low (a : Nat) (h : a < 256) : (57 < a → 97 ≤ a ||| 32 → a ||| 32 ≤ 102 → hexZ a = ((a ||| 32 : Nat) : Int) - 87 ∧ a ≠ 95) ∧ ((a < 48 ∨ 57 < a) → (a ||| 32 < 97 ∨ 102 < a ||| 32) → hexZ a = -1) ∧ (a ||| 32 ≤ 122 → a ≠ 95) ∧ (a < 48 → a ||| 32 < 97) := by
 have H : ∀ a : Fin 256, (57 < a.val → 97 ≤ a.val ||| 32 → a.val ||| 32 ≤ 102 → hexZ a.val = ((a.val ||| 32 : Nat) : Int) - 87 ∧ a.val ≠ 95) ∧ ((a.val < 48 ∨ 57 < a.val) → (a.val ||| 32 < 97 ∨ 102 < a.val ||| 32) → hexZ a.val = -1) ∧ (a.val ||| 32 ≤ 122 → a.val ≠ 95) ∧ (a.val < 48 → a.val ||| 32 < 97) := by decide +kernel
 exact H ⟨a, h⟩
theorem kd_of (a : Nat) (h : a < 256) : Kd a (a ||| 32) (hexZ a) := by
 obtain ⟨h1, h2, h3, h4⟩ := hex_low a h
 by_cases hd : 48 ≤ a ∧ a ≤ 57
 ·rw [show hexZ a = (a : Int) - 48 by unfold hexZ; rw [if_pos hd]]
  exact .dig hd.1 hd.2
 ·by_cases h48 : a < 48
  ·rw [h2 (.inl h48) (.inl (h4 h48))]; exact .un1 h48 (h4 h48)
  ·have h57 : 57 < a := by omega
   by_cases hl : a ||| 32 < 97
   ·rw [h2 (.inr h57) (.inl hl)]; exact .un2 h57 hl (h3 (by omega))
   ·by_cases hm : a ||| 32 ≤ 102
    ·rw [(h1 h57 (by omega) hm).1]; exact .low h57 (by omega) hm (h3 (by omega))
    ·rw [h2 (.inr h57) (.inr (by omega))]
     by_cases hu : a = 95
     ·exact .line hu (by subst hu; rfl)
     ·by_cases hk : a ||| 32 ≤ 122
      ·exact .high h57 (by omega) hk hu
      ·exact .over h57 (by omega) hu
theorem parse_open (s : ByteArray) (a b : Nat) (w : World) (hs : s.size = 2) (ha : bt s 0 = a) (hb : bt s 1 = b) :
  ∃ cap W, (convert 9 40 (.string s)).run Tryz.prog w = .ok (.slice (some ⟨w.heap.size, 0, none⟩) 2 cap) W ∧ W.cell? ⟨w.heap.size, 0, none⟩ = some (.int .u8 (a : Int)) ∧ W.cell? ⟨w.heap.size, 1, none⟩ = some (.int .u8 (b : Int)) ∧ Below w.heap.size w W := by
 have hg : ∀ j, j < s.size → (s.data.toList.getD j 0).toNat = bt s j := fun j hj => by
  rw [bt_at hj, List.getD_eq_getElem?_getD, Array.getElem?_toList]
  rw [Array.getElem?_eq_getElem (show j < s.data.size from hj)]
  rfl
 refine ⟨grownCap w s.size 0 5, Lib.bytesWorld w 5 s, ?_, ?_, ?_, ?_⟩
 ·rw [Lib.run_convert_string_bytes w 9 40 5 s Tryz.underlying9 Tryz.underlying40 Tryz.underlying5, hs]
 ·rw [Lib.bytesWorld_cell w _ s 0 (by omega), hg 0 (by omega), ha]
 ·rw [Lib.bytesWorld_cell w _ s 1 (by omega), hg 1 (by omega), hb]
 ·unfold Lib.bytesWorld
  have h1 := ((Below.refl w.heap.size w).drew).alloc (Nat.le_refl _) (.cells (Lib.bytesCells w 5 s) 5)
  refine h1.trans ?_
  unfold World.freeze
  split
  ·exact Below.refl _ _
  ·exact ⟨rfl, rfl, rfl, by simp, fun k hk => by
    simp only [Array.getElem?_modify]
    rw [if_neg (by omega)]⟩
def ParsR (x y : Int) : Value := if 0 ≤ x ∧ 0 ≤ y then .tuple #[.int .u64 (16 * x + y), .nilIface] else .tuple #[.int .u64 0, .iface 229 (.int .i64 2)]
theorem pars_bad {x y : Int} (h : ¬ (0 ≤ x ∧ 0 ≤ y)) : ParsR x y = .tuple #[.int .u64 0, .iface 229 (.int .i64 2)] := if_neg h
theorem pars_ok {x y : Int} (h : 0 ≤ x ∧ 0 ≤ y) : ParsR x y = .tuple #[.int .u64 (16 * x + y), .nilIface] := if_pos h
theorem ret_pn {a b : Int} (h : a = b) : Ending.returned (.tuple #[.int .u64 a, .nilIface]) = .returned (.tuple #[.int .u64 b, .nilIface]) := by rw [h]
set_option maxRecDepth 100000 in
set_option maxHeartbeats 8000000 in
theorem iparse_dig (s : ByteArray) (a b L M : Nat) (w : World) (hs : s.size = 2) (ha : bt s 0 = a) (hb : bt s 1 = b) (ha2 : a < 256) (hb2 : b < 256) (hL2 : L < 256) (hM2 : M < 256) (y : Int)
  (HLa : ∀ w, Calls Tryz.prog 167 #[.int .u8 (a : Int)] w fun e w' => e = .returned (.int .u8 (L : Int)) ∧ w = w') (HMb : ∀ w, Calls Tryz.prog 167 #[.int .u8 (b : Int)] w fun e w' => e = .returned (.int .u8 (M : Int)) ∧ w = w')
  (f0 : (48 : Int) ≤ (a : Int))
  (f1 : (a : Int) ≤ 57)
  (f2 : ¬ (a : Int) = 95)
  (hk : Kd b M y)
  : Calls Tryz.prog 155 #[.string s, .int .i64 16, .int .i64 8] w fun e w' => e = .returned (ParsR ((a : Int) - 48) y) ∧ Below w.heap.size w w' := by
 have hu : a < 256 ∧ b < 256 ∧ L < 256 ∧ M < 256 := ⟨ha2, hb2, hL2, hM2⟩
 clear hu
 have h0 : 0 < s.size := by omega
 have h1 : 1 < s.size := by omega
 have hz : (s.size : Int) = 2 := by omega
 have hne := str_ne (s := s) (by omega)
 obtain ⟨cap, W, hcv, c0, c1, hbw⟩ := parse_open s a b w hs ha hb
 have HB := Lib.hid hbw
 have HL := Lib.hid HLa
 have HM := Lib.hid HMb
 clear hbw ha hb HLa HMb hs
 cases hk with
 | dig g0 g1 =>
   have k0 : (48 : Int) ≤ (b : Int) := by omega
   have k1 : (b : Int) ≤ 57 := by omega
   have k2 : ¬ (b : Int) = 95 := by omega
   clear g0 g1
   rw [pars_ok (by omega)]
   go_enter Tryz.func155, Tryz.ntmps155
   go_wp2_with fail
   refine wp_loop_rounds 3 ?_
   rw [rounds_succ]; go_wp2_with fail
   rw [rounds_succ]; go_wp2_with fail
   rw [rounds_succ]; go_wp2_with fail
   go_ret2
   exact ⟨ret_pn (by omega), HB.out⟩
 | low g0 g1 g2 g3 =>
   have k0 : (48 : Int) ≤ (b : Int) := by omega
   have k1 : ¬ (b : Int) ≤ 57 := by omega
   have k2 : ¬ (b : Int) = 95 := by omega
   have k3 : (97 : Int) ≤ (M : Int) := by omega
   have k4 : (M : Int) ≤ 122 := by omega
   have k5 : (M : Int) ≤ 102 := by omega
   clear g0 g1 g2 g3
   rw [pars_ok (by omega)]
   go_enter Tryz.func155, Tryz.ntmps155
   go_wp2_with fail
   refine wp_loop_rounds 3 ?_
   rw [rounds_succ]; go_wp2_with fail
   rw [rounds_succ]; go_wp2_with fail
   refine (HM.out _).mono ?_
   rintro e w1 ⟨rfl, rfl⟩
   go_wp2_with fail
   refine (HM.out _).mono ?_
   rintro e w1 ⟨rfl, rfl⟩
   go_wp2_with fail
   refine (HM.out _).mono ?_
   rintro e w1 ⟨rfl, rfl⟩
   go_wp2_with fail
   rw [rounds_succ]; go_wp2_with fail
   go_ret2
   exact ⟨ret_pn (by omega), HB.out⟩
 | high g0 g1 g2 g3 =>
   have k0 : (48 : Int) ≤ (b : Int) := by omega
   have k1 : ¬ (b : Int) ≤ 57 := by omega
   have k2 : ¬ (b : Int) = 95 := by omega
   have k3 : (97 : Int) ≤ (M : Int) := by omega
   have k4 : (M : Int) ≤ 122 := by omega
   have k5 : (103 : Int) ≤ (M : Int) := by omega
   clear g0 g1 g2 g3
   rw [pars_bad (by omega)]
   go_enter Tryz.func155, Tryz.ntmps155
   go_wp2_with fail
   refine wp_loop_rounds 3 ?_
   rw [rounds_succ]; go_wp2_with fail
   rw [rounds_succ]; go_wp2_with fail
   refine (HM.out _).mono ?_
   rintro e w1 ⟨rfl, rfl⟩
   go_wp2_with fail
   refine (HM.out _).mono ?_
   rintro e w1 ⟨rfl, rfl⟩
   go_wp2_with fail
   refine (HM.out _).mono ?_
   rintro e w1 ⟨rfl, rfl⟩
   go_wp2_with fail
   go_ret2
   exact ⟨rfl, HB.out⟩
 | un1 g0 g1 =>
   have k0 : ¬ (48 : Int) ≤ (b : Int) := by omega
   have k1 : ¬ (b : Int) = 95 := by omega
   have k2 : ¬ (97 : Int) ≤ (M : Int) := by omega
   clear g0 g1
   rw [pars_bad (by omega)]
   go_enter Tryz.func155, Tryz.ntmps155
   go_wp2_with fail
   refine wp_loop_rounds 3 ?_
   rw [rounds_succ]; go_wp2_with fail
   rw [rounds_succ]; go_wp2_with fail
   refine (HM.out _).mono ?_
   rintro e w1 ⟨rfl, rfl⟩
   go_wp2_with fail
   go_ret2
   exact ⟨rfl, HB.out⟩
 | un2 g0 g1 g2 =>
   have k0 : (48 : Int) ≤ (b : Int) := by omega
   have k1 : ¬ (b : Int) ≤ 57 := by omega
   have k2 : ¬ (b : Int) = 95 := by omega
   have k3 : ¬ (97 : Int) ≤ (M : Int) := by omega
   clear g0 g1 g2
   rw [pars_bad (by omega)]
   go_enter Tryz.func155, Tryz.ntmps155
   go_wp2_with fail
   refine wp_loop_rounds 3 ?_
   rw [rounds_succ]; go_wp2_with fail
   rw [rounds_succ]; go_wp2_with fail
   refine (HM.out _).mono ?_
   rintro e w1 ⟨rfl, rfl⟩
   go_wp2_with fail
   go_ret2
   exact ⟨rfl, HB.out⟩
 | over g0 g1 g2 =>
   have k0 : (48 : Int) ≤ (b : Int) := by omega
   have k1 : ¬ (b : Int) ≤ 57 := by omega
   have k2 : ¬ (b : Int) = 95 := by omega
   have k3 : (97 : Int) ≤ (M : Int) := by omega
   have k4 : ¬ (M : Int) ≤ 122 := by omega
   clear g0 g1 g2
   rw [pars_bad (by omega)]
   go_enter Tryz.func155, Tryz.ntmps155
   go_wp2_with fail
   refine wp_loop_rounds 3 ?_
   rw [rounds_succ]; go_wp2_with fail
   rw [rounds_succ]; go_wp2_with fail
   refine (HM.out _).mono ?_
   rintro e w1 ⟨rfl, rfl⟩
   go_wp2_with fail
   refine (HM.out _).mono ?_
   rintro e w1 ⟨rfl, rfl⟩
   go_wp2_with fail
   go_ret2
   exact ⟨rfl, HB.out⟩
 | line g0 g1 =>
   subst g0 g1
   have HM : Hid (∀ w, Calls Tryz.prog 167 #[.int .u8 95] w fun e w' => e = .returned (.int .u8 127) ∧ w = w') := HM
   clear hb2 hM2
   rw [pars_bad (by omega)]
   go_enter Tryz.func155, Tryz.ntmps155
   go_wp2_with fail
   refine wp_loop_rounds 3 ?_
   rw [rounds_succ]; go_wp2_with fail
   rw [rounds_succ]; go_wp2_with fail
   refine (HM.out _).mono ?_
   rintro e w1 ⟨rfl, rfl⟩
   go_wp2_with fail
   refine (HM.out _).mono ?_
   rintro e w1 ⟨rfl, rfl⟩
   go_wp2_with fail
   go_ret2
   exact ⟨rfl, HB.out⟩
set_option maxRecDepth 100000 in
set_option maxHeartbeats 8000000 in
theorem iparse_low (s : ByteArray) (a b L M : Nat) (w : World) (hs : s.size = 2) (ha : bt s 0 = a) (hb : bt s 1 = b) (ha2 : a < 256) (hb2 : b < 256) (hL2 : L < 256) (hM2 : M < 256) (y : Int)
  (HLa : ∀ w, Calls Tryz.prog 167 #[.int .u8 (a : Int)] w fun e w' => e = .returned (.int .u8 (L : Int)) ∧ w = w') (HMb : ∀ w, Calls Tryz.prog 167 #[.int .u8 (b : Int)] w fun e w' => e = .returned (.int .u8 (M : Int)) ∧ w = w')
  (f0 : (48 : Int) ≤ (a : Int))
  (f1 : ¬ (a : Int) ≤ 57)
  (f2 : ¬ (a : Int) = 95)
  (f3 : (97 : Int) ≤ (L : Int))
  (f4 : (L : Int) ≤ 122)
  (f5 : (L : Int) ≤ 102)
  (hk : Kd b M y)
  : Calls Tryz.prog 155 #[.string s, .int .i64 16, .int .i64 8] w fun e w' => e = .returned (ParsR ((L : Int) - 87) y) ∧ Below w.heap.size w w' := by
 have hu : a < 256 ∧ b < 256 ∧ L < 256 ∧ M < 256 := ⟨ha2, hb2, hL2, hM2⟩
 clear hu
 have h0 : 0 < s.size := by omega
 have h1 : 1 < s.size := by omega
 have hz : (s.size : Int) = 2 := by omega
 have hne := str_ne (s := s) (by omega)
 obtain ⟨cap, W, hcv, c0, c1, hbw⟩ := parse_open s a b w hs ha hb
 have HB := Lib.hid hbw
 have HL := Lib.hid HLa
 have HM := Lib.hid HMb
 clear hbw ha hb HLa HMb hs
 cases hk with
 | dig g0 g1 =>
   have k0 : (48 : Int) ≤ (b : Int) := by omega
   have k1 : (b : Int) ≤ 57 := by omega
   have k2 : ¬ (b : Int) = 95 := by omega
   clear g0 g1
   rw [pars_ok (by omega)]
   go_enter Tryz.func155, Tryz.ntmps155
   go_wp2_with fail
   refine wp_loop_rounds 3 ?_
   rw [rounds_succ]; go_wp2_with fail
   refine (HL.out _).mono ?_
   rintro e w1 ⟨rfl, rfl⟩
   go_wp2_with fail
   refine (HL.out _).mono ?_
   rintro e w1 ⟨rfl, rfl⟩
   go_wp2_with fail
   refine (HL.out _).mono ?_
   rintro e w1 ⟨rfl, rfl⟩
   go_wp2_with fail
   rw [rounds_succ]; go_wp2_with fail
   rw [rounds_succ]; go_wp2_with fail
   go_ret2
   exact ⟨ret_pn (by omega), HB.out⟩
 | low g0 g1 g2 g3 =>
   have k0 : (48 : Int) ≤ (b : Int) := by omega
   have k1 : ¬ (b : Int) ≤ 57 := by omega
   have k2 : ¬ (b : Int) = 95 := by omega
   have k3 : (97 : Int) ≤ (M : Int) := by omega
   have k4 : (M : Int) ≤ 122 := by omega
   have k5 : (M : Int) ≤ 102 := by omega
   clear g0 g1 g2 g3
   rw [pars_ok (by omega)]
   go_enter Tryz.func155, Tryz.ntmps155
   go_wp2_with fail
   refine wp_loop_rounds 3 ?_
   rw [rounds_succ]; go_wp2_with fail
   refine (HL.out _).mono ?_
   rintro e w1 ⟨rfl, rfl⟩
   go_wp2_with fail
   refine (HL.out _).mono ?_
   rintro e w1 ⟨rfl, rfl⟩
   go_wp2_with fail
   refine (HL.out _).mono ?_
   rintro e w1 ⟨rfl, rfl⟩
   go_wp2_with fail
   rw [rounds_succ]; go_wp2_with fail
   refine (HM.out _).mono ?_
   rintro e w1 ⟨rfl, rfl⟩
   go_wp2_with fail
   refine (HM.out _).mono ?_
   rintro e w1 ⟨rfl, rfl⟩
   go_wp2_with fail
   refine (HM.out _).mono ?_
   rintro e w1 ⟨rfl, rfl⟩
   go_wp2_with fail
   rw [rounds_succ]; go_wp2_with fail
   go_ret2
   exact ⟨ret_pn (by omega), HB.out⟩
 | high g0 g1 g2 g3 =>
   have k0 : (48 : Int) ≤ (b : Int) := by omega
   have k1 : ¬ (b : Int) ≤ 57 := by omega
   have k2 : ¬ (b : Int) = 95 := by omega
   have k3 : (97 : Int) ≤ (M : Int) := by omega
   have k4 : (M : Int) ≤ 122 := by omega
   have k5 : (103 : Int) ≤ (M : Int) := by omega
   clear g0 g1 g2 g3
   rw [pars_bad (by omega)]
   go_enter Tryz.func155, Tryz.ntmps155
   go_wp2_with fail
   refine wp_loop_rounds 3 ?_
   rw [rounds_succ]; go_wp2_with fail
   refine (HL.out _).mono ?_
   rintro e w1 ⟨rfl, rfl⟩
   go_wp2_with fail
   refine (HL.out _).mono ?_
   rintro e w1 ⟨rfl, rfl⟩
   go_wp2_with fail
   refine (HL.out _).mono ?_
   rintro e w1 ⟨rfl, rfl⟩
   go_wp2_with fail
   rw [rounds_succ]; go_wp2_with fail
   refine (HM.out _).mono ?_
   rintro e w1 ⟨rfl, rfl⟩
   go_wp2_with fail
   refine (HM.out _).mono ?_
   rintro e w1 ⟨rfl, rfl⟩
   go_wp2_with fail
   refine (HM.out _).mono ?_
   rintro e w1 ⟨rfl, rfl⟩
   go_wp2_with fail
   go_ret2
   exact ⟨rfl, HB.out⟩
 | un1 g0 g1 =>
   have k0 : ¬ (48 : Int) ≤ (b : Int) := by omega
   have k1 : ¬ (b : Int) = 95 := by omega
   have k2 : ¬ (97 : Int) ≤ (M : Int) := by omega
   clear g0 g1
   rw [pars_bad (by omega)]
   go_enter Tryz.func155, Tryz.ntmps155
   go_wp2_with fail
   refine wp_loop_rounds 3 ?_
   rw [rounds_succ]; go_wp2_with fail
   refine (HL.out _).mono ?_
   rintro e w1 ⟨rfl, rfl⟩
   go_wp2_with fail
   refine (HL.out _).mono ?_
   rintro e w1 ⟨rfl, rfl⟩
   go_wp2_with fail
   refine (HL.out _).mono ?_
   rintro e w1 ⟨rfl, rfl⟩
   go_wp2_with fail
   rw [rounds_succ]; go_wp2_with fail
   refine (HM.out _).mono ?_
   rintro e w1 ⟨rfl, rfl⟩
   go_wp2_with fail
   go_ret2
   exact ⟨rfl, HB.out⟩
 | un2 g0 g1 g2 =>
   have k0 : (48 : Int) ≤ (b : Int) := by omega
   have k1 : ¬ (b : Int) ≤ 57 := by omega
   have k2 : ¬ (b : Int) = 95 := by omega
   have k3 : ¬ (97 : Int) ≤ (M : Int) := by omega
   clear g0 g1 g2
   rw [pars_bad (by omega)]
   go_enter Tryz.func155, Tryz.ntmps155
   go_wp2_with fail
   refine wp_loop_rounds 3 ?_
   rw [rounds_succ]; go_wp2_with fail
   refine (HL.out _).mono ?_
   rintro e w1 ⟨rfl, rfl⟩
   go_wp2_with fail
   refine (HL.out _).mono ?_
   rintro e w1 ⟨rfl, rfl⟩
   go_wp2_with fail
   refine (HL.out _).mono ?_
   rintro e w1 ⟨rfl, rfl⟩
   go_wp2_with fail
   rw [rounds_succ]; go_wp2_with fail
   refine (HM.out _).mono ?_
   rintro e w1 ⟨rfl, rfl⟩
   go_wp2_with fail
   go_ret2
   exact ⟨rfl, HB.out⟩
 | over g0 g1 g2 =>
   have k0 : (48 : Int) ≤ (b : Int) := by omega
   have k1 : ¬ (b : Int) ≤ 57 := by omega
   have k2 : ¬ (b : Int) = 95 := by omega
   have k3 : (97 : Int) ≤ (M : Int) := by omega
   have k4 : ¬ (M : Int) ≤ 122 := by omega
   clear g0 g1 g2
   rw [pars_bad (by omega)]
   go_enter Tryz.func155, Tryz.ntmps155
   go_wp2_with fail
   refine wp_loop_rounds 3 ?_
   rw [rounds_succ]; go_wp2_with fail
   refine (HL.out _).mono ?_
   rintro e w1 ⟨rfl, rfl⟩
   go_wp2_with fail
   refine (HL.out _).mono ?_
   rintro e w1 ⟨rfl, rfl⟩
   go_wp2_with fail
   refine (HL.out _).mono ?_
   rintro e w1 ⟨rfl, rfl⟩
   go_wp2_with fail
   rw [rounds_succ]; go_wp2_with fail
   refine (HM.out _).mono ?_
   rintro e w1 ⟨rfl, rfl⟩
   go_wp2_with fail
   refine (HM.out _).mono ?_
   rintro e w1 ⟨rfl, rfl⟩
   go_wp2_with fail
   go_ret2
   exact ⟨rfl, HB.out⟩
 | line g0 g1 =>
   subst g0 g1
   have HM : Hid (∀ w, Calls Tryz.prog 167 #[.int .u8 95] w fun e w' => e = .returned (.int .u8 127) ∧ w = w') := HM
   clear hb2 hM2
   rw [pars_bad (by omega)]
   go_enter Tryz.func155, Tryz.ntmps155
   go_wp2_with fail
   refine wp_loop_rounds 3 ?_
   rw [rounds_succ]; go_wp2_with fail
   refine (HL.out _).mono ?_
   rintro e w1 ⟨rfl, rfl⟩
   go_wp2_with fail
   refine (HL.out _).mono ?_
   rintro e w1 ⟨rfl, rfl⟩
   go_wp2_with fail
   refine (HL.out _).mono ?_
   rintro e w1 ⟨rfl, rfl⟩
   go_wp2_with fail
   rw [rounds_succ]; go_wp2_with fail
   refine (HM.out _).mono ?_
   rintro e w1 ⟨rfl, rfl⟩
   go_wp2_with fail
   refine (HM.out _).mono ?_
   rintro e w1 ⟨rfl, rfl⟩
   go_wp2_with fail
   go_ret2
   exact ⟨rfl, HB.out⟩
set_option maxRecDepth 100000 in
set_option maxHeartbeats 8000000 in
theorem iparse_high (s : ByteArray) (a b L M : Nat) (w : World) (hs : s.size = 2) (ha : bt s 0 = a) (hb : bt s 1 = b) (ha2 : a < 256) (hb2 : b < 256) (hL2 : L < 256) (hM2 : M < 256) (y : Int)
  (HLa : ∀ w, Calls Tryz.prog 167 #[.int .u8 (a : Int)] w fun e w' => e = .returned (.int .u8 (L : Int)) ∧ w = w') (HMb : ∀ w, Calls Tryz.prog 167 #[.int .u8 (b : Int)] w fun e w' => e = .returned (.int .u8 (M : Int)) ∧ w = w')
  (f0 : (48 : Int) ≤ (a : Int))
  (f1 : ¬ (a : Int) ≤ 57)
  (f2 : ¬ (a : Int) = 95)
  (f3 : (97 : Int) ≤ (L : Int))
  (f4 : (L : Int) ≤ 122)
  (f5 : (103 : Int) ≤ (L : Int))
  : Calls Tryz.prog 155 #[.string s, .int .i64 16, .int .i64 8] w fun e w' => e = .returned (ParsR (-1) y) ∧ Below w.heap.size w w' := by
 have hu : a < 256 ∧ b < 256 ∧ L < 256 ∧ M < 256 := ⟨ha2, hb2, hL2, hM2⟩
 clear hu
 have h0 : 0 < s.size := by omega
 have h1 : 1 < s.size := by omega
 have hz : (s.size : Int) = 2 := by omega
 have hne := str_ne (s := s) (by omega)
 obtain ⟨cap, W, hcv, c0, c1, hbw⟩ := parse_open s a b w hs ha hb
 have HB := Lib.hid hbw
 have HL := Lib.hid HLa
 have HM := Lib.hid HMb
 clear hbw ha hb HLa HMb hs
 rw [pars_bad (by omega)]
 go_enter Tryz.func155, Tryz.ntmps155
 go_wp2_with fail
 refine wp_loop_rounds 3 ?_
 rw [rounds_succ]; go_wp2_with fail
 refine (HL.out _).mono ?_
 rintro e w1 ⟨rfl, rfl⟩
 go_wp2_with fail
 refine (HL.out _).mono ?_
 rintro e w1 ⟨rfl, rfl⟩
 go_wp2_with fail
 refine (HL.out _).mono ?_
 rintro e w1 ⟨rfl, rfl⟩
 go_wp2_with fail
 go_ret2
 exact ⟨rfl, HB.out⟩
set_option maxRecDepth 100000 in
set_option maxHeartbeats 8000000 in
theorem iparse_un1 (s : ByteArray) (a b L M : Nat) (w : World) (hs : s.size = 2) (ha : bt s 0 = a) (hb : bt s 1 = b) (ha2 : a < 256) (hb2 : b < 256) (hL2 : L < 256) (hM2 : M < 256) (y : Int)
  (HLa : ∀ w, Calls Tryz.prog 167 #[.int .u8 (a : Int)] w fun e w' => e = .returned (.int .u8 (L : Int)) ∧ w = w') (HMb : ∀ w, Calls Tryz.prog 167 #[.int .u8 (b : Int)] w fun e w' => e = .returned (.int .u8 (M : Int)) ∧ w = w')
  (f0 : ¬ (48 : Int) ≤ (a : Int))
  (f1 : ¬ (a : Int) = 95)
  (f2 : ¬ (97 : Int) ≤ (L : Int))
  : Calls Tryz.prog 155 #[.string s, .int .i64 16, .int .i64 8] w fun e w' => e = .returned (ParsR (-1) y) ∧ Below w.heap.size w w' := by
 have hu : a < 256 ∧ b < 256 ∧ L < 256 ∧ M < 256 := ⟨ha2, hb2, hL2, hM2⟩
 clear hu
 have h0 : 0 < s.size := by omega
 have h1 : 1 < s.size := by omega
 have hz : (s.size : Int) = 2 := by omega
 have hne := str_ne (s := s) (by omega)
 obtain ⟨cap, W, hcv, c0, c1, hbw⟩ := parse_open s a b w hs ha hb
 have HB := Lib.hid hbw
 have HL := Lib.hid HLa
 have HM := Lib.hid HMb
 clear hbw ha hb HLa HMb hs
 rw [pars_bad (by omega)]
 go_enter Tryz.func155, Tryz.ntmps155
 go_wp2_with fail
 refine wp_loop_rounds 3 ?_
 rw [rounds_succ]; go_wp2_with fail
 refine (HL.out _).mono ?_
 rintro e w1 ⟨rfl, rfl⟩
 go_wp2_with fail
 go_ret2
 exact ⟨rfl, HB.out⟩
set_option maxRecDepth 100000 in
set_option maxHeartbeats 8000000 in
theorem iparse_un2 (s : ByteArray) (a b L M : Nat) (w : World) (hs : s.size = 2) (ha : bt s 0 = a) (hb : bt s 1 = b) (ha2 : a < 256) (hb2 : b < 256) (hL2 : L < 256) (hM2 : M < 256) (y : Int)
  (HLa : ∀ w, Calls Tryz.prog 167 #[.int .u8 (a : Int)] w fun e w' => e = .returned (.int .u8 (L : Int)) ∧ w = w') (HMb : ∀ w, Calls Tryz.prog 167 #[.int .u8 (b : Int)] w fun e w' => e = .returned (.int .u8 (M : Int)) ∧ w = w')
  (f0 : (48 : Int) ≤ (a : Int))
  (f1 : ¬ (a : Int) ≤ 57)
  (f2 : ¬ (a : Int) = 95)
  (f3 : ¬ (97 : Int) ≤ (L : Int))
  : Calls Tryz.prog 155 #[.string s, .int .i64 16, .int .i64 8] w fun e w' => e = .returned (ParsR (-1) y) ∧ Below w.heap.size w w' := by
 have hu : a < 256 ∧ b < 256 ∧ L < 256 ∧ M < 256 := ⟨ha2, hb2, hL2, hM2⟩
 clear hu
 have h0 : 0 < s.size := by omega
 have h1 : 1 < s.size := by omega
 have hz : (s.size : Int) = 2 := by omega
 have hne := str_ne (s := s) (by omega)
 obtain ⟨cap, W, hcv, c0, c1, hbw⟩ := parse_open s a b w hs ha hb
 have HB := Lib.hid hbw
 have HL := Lib.hid HLa
 have HM := Lib.hid HMb
 clear hbw ha hb HLa HMb hs
 rw [pars_bad (by omega)]
 go_enter Tryz.func155, Tryz.ntmps155
 go_wp2_with fail
 refine wp_loop_rounds 3 ?_
 rw [rounds_succ]; go_wp2_with fail
 refine (HL.out _).mono ?_
 rintro e w1 ⟨rfl, rfl⟩
 go_wp2_with fail
 go_ret2
 exact ⟨rfl, HB.out⟩
set_option maxRecDepth 100000 in
set_option maxHeartbeats 8000000 in
theorem iparse_over (s : ByteArray) (a b L M : Nat) (w : World) (hs : s.size = 2) (ha : bt s 0 = a) (hb : bt s 1 = b) (ha2 : a < 256) (hb2 : b < 256) (hL2 : L < 256) (hM2 : M < 256) (y : Int)
  (HLa : ∀ w, Calls Tryz.prog 167 #[.int .u8 (a : Int)] w fun e w' => e = .returned (.int .u8 (L : Int)) ∧ w = w') (HMb : ∀ w, Calls Tryz.prog 167 #[.int .u8 (b : Int)] w fun e w' => e = .returned (.int .u8 (M : Int)) ∧ w = w')
  (f0 : (48 : Int) ≤ (a : Int))
  (f1 : ¬ (a : Int) ≤ 57)
  (f2 : ¬ (a : Int) = 95)
  (f3 : (97 : Int) ≤ (L : Int))
  (f4 : ¬ (L : Int) ≤ 122)
  : Calls Tryz.prog 155 #[.string s, .int .i64 16, .int .i64 8] w fun e w' => e = .returned (ParsR (-1) y) ∧ Below w.heap.size w w' := by
 have hu : a < 256 ∧ b < 256 ∧ L < 256 ∧ M < 256 := ⟨ha2, hb2, hL2, hM2⟩
 clear hu
 have h0 : 0 < s.size := by omega
 have h1 : 1 < s.size := by omega
 have hz : (s.size : Int) = 2 := by omega
 have hne := str_ne (s := s) (by omega)
 obtain ⟨cap, W, hcv, c0, c1, hbw⟩ := parse_open s a b w hs ha hb
 have HB := Lib.hid hbw
 have HL := Lib.hid HLa
 have HM := Lib.hid HMb
 clear hbw ha hb HLa HMb hs
 rw [pars_bad (by omega)]
 go_enter Tryz.func155, Tryz.ntmps155
 go_wp2_with fail
 refine wp_loop_rounds 3 ?_
 rw [rounds_succ]; go_wp2_with fail
 refine (HL.out _).mono ?_
 rintro e w1 ⟨rfl, rfl⟩
 go_wp2_with fail
 refine (HL.out _).mono ?_
 rintro e w1 ⟨rfl, rfl⟩
 go_wp2_with fail
 go_ret2
 exact ⟨rfl, HB.out⟩
set_option maxRecDepth 100000 in
set_option maxHeartbeats 8000000 in
theorem iparse_line (s : ByteArray) (b : Nat) (w : World) (hs : s.size = 2) (ha : bt s 0 = 95) (hb : bt s 1 = b) (y : Int)
  (HLa : ∀ w, Calls Tryz.prog 167 #[.int .u8 95] w fun e w' => e = .returned (.int .u8 127) ∧ w = w')
  : Calls Tryz.prog 155 #[.string s, .int .i64 16, .int .i64 8] w fun e w' => e = .returned (ParsR (-1) y) ∧ Below w.heap.size w w' := by
 have h0 : 0 < s.size := by omega
 have h1 : 1 < s.size := by omega
 have hz : (s.size : Int) = 2 := by omega
 have hne := str_ne (s := s) (by omega)
 obtain ⟨cap, W, hcv, c0, -, hbw⟩ := parse_open s 95 b w hs ha hb
 have HB := Lib.hid hbw
 have HL := Lib.hid HLa
 clear hbw ha hb HLa hs
 rw [pars_bad (by omega)]
 go_enter Tryz.func155, Tryz.ntmps155
 go_wp2_with fail
 refine wp_loop_rounds 3 ?_
 rw [rounds_succ]; go_wp2_with fail
 refine (HL.out _).mono ?_
 rintro e w1 ⟨rfl, rfl⟩
 go_wp2_with fail
 refine (HL.out _).mono ?_
 rintro e w1 ⟨rfl, rfl⟩
 go_wp2_with fail
 go_ret2
 exact ⟨rfl, HB.out⟩
theorem iparse_any (s : ByteArray) (a b : Nat) (w : World) (hs : s.size = 2) (ha : bt s 0 = a) (hb : bt s 1 = b) (ha2 : a < 256) (hb2 : b < 256) : Calls Tryz.prog 155 #[.string s, .int .i64 16, .int .i64 8] w fun e w' => e = .returned (ParsR (hexZ a) (hexZ b)) ∧ Below w.heap.size w w' := by
 have hk := kd_of b hb2
 have hL : a ||| 32 < 256 := Nat.or_lt_two_pow (n := 8) ha2 (by decide)
 have hM : b ||| 32 < 256 := Nat.or_lt_two_pow (n := 8) hb2 (by decide)
 have HL := fun w => lower_any a w ha2
 have HM := fun w => lower_any b w hb2
 have ha' := kd_of a ha2
 revert hL HL ha'
 generalize a ||| 32 = L
 generalize hexZ a = x
 intro hL HL ha'
 cases ha' with
 | dig g0 g1 => exact iparse_dig s a b L _ w hs ha hb ha2 hb2 hL hM _ HL HM (by omega) (by omega) (by omega) hk
 | low g0 g1 g2 g3 => exact iparse_low s a b L _ w hs ha hb ha2 hb2 hL hM _ HL HM (by omega) (by omega) (by omega) (by omega) (by omega) (by omega) hk
 | high g0 g1 g2 g3 => exact iparse_high s a b L _ w hs ha hb ha2 hb2 hL hM _ HL HM (by omega) (by omega) (by omega) (by omega) (by omega) (by omega)
 | un1 g0 g1 => exact iparse_un1 s a b L _ w hs ha hb ha2 hb2 hL hM _ HL HM (by omega) (by omega) (by omega)
 | un2 g0 g1 g2 => exact iparse_un2 s a b L _ w hs ha hb ha2 hb2 hL hM _ HL HM (by omega) (by omega) (by omega) (by omega)
 | over g0 g1 g2 => exact iparse_over s a b L _ w hs ha hb ha2 hb2 hL hM _ HL HM (by omega) (by omega) (by omega) (by omega) (by omega)
 | line g0 g1 => subst g0 g1; exact iparse_line s b w hs ha hb _ HL
end Go.Proofs.YteggpecbeagohaaGreatDoor
namespace Go.Proofs.YteggpecbeagohaaGreatDoor
open Go.RowKit
def ErrW (w : World) : Prop := ∃ te pe, w.cell? ⟨3, 0, none⟩ = some (.iface te pe)
theorem ErrW.lt {w : World} (h : ErrW w) : 3 < w.heap.size := by obtain ⟨te, pe, h⟩ := h; exact block_lt_of_cell h
theorem ErrW.call {w w' : World} (h : ErrW w) (hb : Below w.heap.size w w') : ErrW w' := by
 have hl := h.lt
 obtain ⟨te, pe, h⟩ := h
 exact ⟨te, pe, (hb.cell (p := ⟨3, 0, none⟩) hl).trans h⟩
theorem ErrW.alloc {w : World} (h : ErrW w) (o : Obj) : ErrW (w.alloc o) := by
 have hl := h.lt
 obtain ⟨te, pe, h⟩ := h
 exact ⟨te, pe, (World.cell?_alloc_past (w := w) o _ 0 hl).trans h⟩
def ErrsOk : Prop := ∀ (fn s : ByteArray) (w : World), s.size ≤ 281474976710656 → ErrW w → Calls Tryz.prog 156 #[.string fn, .string s, .int .i64 16, .int .i64 8, .iface 229 (.int .i64 2)] w fun e w' => (∃ N, e = .returned (.iface 231 (.pointer (some ⟨N, 0, none⟩)))) ∧ Below w.heap.size w w'
def SParsR (x y : Int) (e : Ending) : Prop := (0 ≤ x ∧ 0 ≤ y → e = .returned (.tuple #[.int .u64 (16 * x + y), .nilIface])) ∧ (¬ (0 ≤ x ∧ 0 ≤ y) → ∃ N, e = .returned (.tuple #[.int .u64 0, .iface 231 (.pointer (some ⟨N, 0, none⟩))]))
theorem sparse_any (hE : ErrsOk) (s : ByteArray) (a b : Nat) (w : World) (hw : ErrW w) (hs : s.size = 2) (ha : bt s 0 = a) (hb : bt s 1 = b) (ha2 : a < 256) (hb2 : b < 256) : Calls Tryz.prog 132 #[.string s, .int .i64 16, .int .i64 8] w fun e w' => SParsR (hexZ a) (hexZ b) e ∧ Below w.heap.size w w' := by
 have HI := Lib.hid (iparse_any s a b w hs ha hb ha2 hb2)
 have HE := Lib.hid (fun (fn : ByteArray) (w : World) (h : ErrW w) => hE fn s w (by omega) h)
 have HW := Lib.hid hw
 clear ha hb ha2 hb2 hs hE hw
 revert HI
 generalize hexZ a = x
 generalize hexZ b = y
 intro HI
 by_cases h : 0 ≤ x ∧ 0 ≤ y
 ·rw [pars_ok h] at HI
  have HG := Lib.hid h
  clear h
  go_enter Tryz.func132, Tryz.ntmps132
  go_wp2_with fail
  refine HI.out.mono ?_
  rintro e w1 ⟨rfl, hb1⟩
  have HB1 := Lib.hid hb1
  clear hb1
  go_wp2_with fail
  go_ret2
  exact ⟨⟨fun _ => rfl, fun h => absurd HG.out h⟩, HB1.out⟩
 ·rw [pars_bad h] at HI
  have HG := Lib.hid h
  clear h
  go_enter Tryz.func132, Tryz.ntmps132
  go_wp2_with fail
  refine HI.out.mono ?_
  rintro e w1 ⟨rfl, hb1⟩
  have HB1 := Lib.hid hb1
  clear hb1
  go_wp2_with fail
  refine (HE.out _ _ (HW.out.call HB1.out)).mono ?_
  rintro e w2 ⟨⟨N, rfl⟩, hb2⟩
  have HB2 := Lib.hid (thenB HB1.out hb2 HB1.out.size)
  clear hb2
  go_wp2_with fail
  go_ret2
  exact ⟨⟨fun h => absurd h HG.out, fun _ => ⟨N, rfl⟩⟩, HB2.out⟩
end Go.Proofs.YteggpecbeagohaaGreatDoor
namespace Go.Proofs.YteggpecbeagohaaGreatDoor
open Go.RowKit
theorem one_eq {n : Nat} (_h : n < 256) : addB 0#256 n = oneS n := by
 apply BitVec.eq_of_getLsbD_eq
 intro i hi
 unfold addB oneS span
 rw [ofPred_bit, BitVec.getLsbD_or, BitVec.getLsbD_twoPow]
 by_cases e : n = i
 ·subst e; simp [hi]
 ·have h2 : (decide (n ≤ i) && decide (i < n + 1)) = false := by simp; omega
  simp [e, h2]
def twoB (s : ByteArray) : Bool := decide (2 ≤ s.size ∧ 0 ≤ hexZ (bt s 0) ∧ 0 ≤ hexZ (bt s 1))
set_option maxRecDepth 20000 in
set_option maxHeartbeats 4000000 in
theorem two_any (hE : ErrsOk) (s : ByteArray) (w : World) (hs : s.size ≤ 1000000) (hw : ErrW w) : Calls Tryz.prog 108 #[.string s] w fun e w' => (∃ S, e = .returned (.tuple #[setV S, .bool (twoB s)]) ∧ (twoB s = true → S = oneS (16 * hexZ (bt s 0) + hexZ (bt s 1)).toNat)) ∧ Below w.heap.size w w' := by
 by_cases h2 : s.size < 2
 ·have hb : twoB s = false := decide_eq_false (by omega)
  rw [hb]
  have q : (s.size : Int) < 2 := by omega
  clear hb hw hE h2
  go_enter Tryz.func108, Tryz.ntmps108
  go_wp2_with fail
  have hZ : Box (World.alloc w (.cells #[.int .u64 0, .int .u64 0, .int .u64 0, .int .u64 0] 74)) w.heap.size 0#256 := Box.zero (heap_alloc_new _ _)
  exact bodyPost_ret (resS2 (p := 2) (u := 3) (S := 0#256) (v := .bool false) rfl _ (g := w.heap.size) rfl rfl hZ) rfl ⟨⟨0#256, rfl, fun h => by cases h⟩, (Below.refl _ w).alloc (Nat.le_refl _) _⟩
 ·have q : ¬ (s.size : Int) < 2 := by omega
  have q2 : (2 : Int) ≤ (s.size : Int) := by omega
  have h0 : bt (s.extract 0 2) 0 = bt s 0 := bt_ext2 (by omega) (by omega)
  have h1 : bt (s.extract 0 2) 1 = bt s 1 := bt_ext2 (by omega) (by omega)
  have HS := Lib.hid (fun (w : World) (h : ErrW w) => sparse_any hE (s.extract 0 2) (bt s 0) (bt s 1) w h (by rw [ext_size (by omega)]) h0 h1 (bt_lt (by omega)) (bt_lt (by omega)))
  have hx := hexZ_lt (bt s 0)
  have hy := hexZ_lt (bt s 1)
  have hb : twoB s = decide (0 ≤ hexZ (bt s 0) ∧ 0 ≤ hexZ (bt s 1)) := by unfold twoB; congr 1; apply propext; omega
  rw [hb]
  have HW := Lib.hid hw
  clear hb h0 h1 h2 hE hw
  revert HS hx hy
  generalize hexZ (bt s 0) = x
  generalize hexZ (bt s 1) = y
  intro HS hx hy
  by_cases hg : 0 ≤ x ∧ 0 ≤ y
  ·rw [decide_eq_true hg]
   have r1 : (0 : Int) ≤ 16 * x + y := by omega
   have r2 : 16 * x + y < 256 := by omega
   have HG := Lib.hid hg
   have hwr : IntKind.u8.wrap (16 * x + y) = 16 * x + y := by rw [IntKind.wrap_u8]; omega
   have HO : Hid (∀ w, Calls Tryz.prog 79 #[.int .u8 (IntKind.u8.wrap (16 * x + y))] w fun e w' => e = .returned (setV (addB 0#256 (16 * x + y).toNat)) ∧ Below w.heap.size w w') := Lib.hid (fun w => by rw [hwr]; exact one_any (16 * x + y) w r1 r2)
   have HQ := Lib.hid (one_eq (n := (16 * x + y).toNat) (by omega))
   clear hg hwr
   go_enter Tryz.func108, Tryz.ntmps108
   go_wp2_with fail
   refine (HS.out _ (HW.out.alloc _)).mono ?_
   rintro e w1 ⟨he, hb1⟩
   obtain rfl := he.1 HG.out
   clear he
   obtain ⟨hc, hf⟩ := bcell hb1
   have HB1 := Lib.hid hb1
   have HZ := Lib.hid (Box.call (Box.zero (heap_alloc_new _ _)) hb1)
   clear hb1
   go_wp2_with fail
   go_region_with (refine (HO.out _).mono ?_; rintro e w2 ⟨rfl, hb2⟩; have HZ2 := Lib.hid (Box.call (w := World.drew _) HZ.out hb2); obtain ⟨z0, z1, z2, z3⟩ := HZ2.out.cells; have zf := HZ2.out.free; have HB2 := Lib.hid (thenB (HB1.out.drew) hb2 HB1.out.size); clear hb2)
   all_goals
    go_wp2_with fail
    refine bodyPost_ret (resS2 (p := 2) (u := 3) (S := addB 0#256 (16 * x + y).toNat) (v := .bool true) rfl _ (g := w.heap.size) rfl rfl (HZ2.out.set _)) rfl ⟨⟨_, rfl, fun _ => HQ.out⟩, ?_⟩
    exact below_setW (((Below.refl _ w).alloc (Nat.le_refl _) _).trans (HB2.out.mono (by simp))) (Nat.le_refl _) _
  ·rw [decide_eq_false hg]
   have HG := Lib.hid hg
   have HO := Lib.hid (fun w => one_any 0 w (by decide) (by decide))
   clear hg
   go_enter Tryz.func108, Tryz.ntmps108
   go_wp2_with fail
   refine (HS.out _ (HW.out.alloc _)).mono ?_
   rintro e w1 ⟨he, hb1⟩
   obtain ⟨N, rfl⟩ := he.2 HG.out
   clear he
   obtain ⟨hc, hf⟩ := bcell hb1
   have HB1 := Lib.hid hb1
   have HZ := Lib.hid (Box.call (Box.zero (heap_alloc_new _ _)) hb1)
   clear hb1
   go_wp2_with fail
   go_region_with (refine (HO.out _).mono ?_; rintro e w2 ⟨rfl, hb2⟩; have HZ2 := Lib.hid (Box.call (w := World.drew _) HZ.out hb2); obtain ⟨z0, z1, z2, z3⟩ := HZ2.out.cells; have zf := HZ2.out.free; have HB2 := Lib.hid (thenB (HB1.out.drew) hb2 HB1.out.size); clear hb2)
   all_goals
    go_wp2_with fail
    refine bodyPost_ret (resS2 (p := 2) (u := 3) (S := addB 0#256 (0 : Int).toNat) (v := .bool false) rfl _ (g := w.heap.size) rfl rfl (HZ2.out.set _)) rfl ⟨⟨_, rfl, fun h => by cases h⟩, ?_⟩
    exact below_setW (((Below.refl _ w).alloc (Nat.le_refl _) _).trans (HB2.out.mono (by simp))) (Nat.le_refl _) _
end Go.Proofs.YteggpecbeagohaaGreatDoor
