/-
  Layer 6, the landed code: leadingFlags.
-/
import Derived.Test.YtkpijnodhlonfaaGreatDoorLexQuant
import Derived.Test.YtkpijnodhlonfaaGreatDoorLexRune
namespace Go.Proofs.YtkpijnodhlonfaaGreatDoor
open Go.RowKit

/-- What the library's Clone does: the same bytes. -/
def CloneOk : Prop := ∀ (s : ByteArray) (w : World), s.size ≤ 281474976710656 → Calls Tryz.prog 119 #[.string s] w fun e w' => e = .returned (.string s) ∧ Below w.heap.size w w'
theorem ims_is (c : Nat) : decide (∃ j, j < imsT.size ∧ bt imsT j = c) = isF c := by
  have e : imsT.size = 3 := rfl
  unfold isF
  by_cases a : c = 105
  · subst a; rw [decide_eq_true ⟨0, by decide, rfl⟩]; rfl
  · by_cases b : c = 109
    · subst b; rw [decide_eq_true ⟨1, by decide, rfl⟩]; rfl
    · by_cases d : c = 115
      · subst d; rw [decide_eq_true ⟨2, by decide, rfl⟩]; rfl
      · rw [decide_eq_false]
        · simp [a, b, d]
        · rintro ⟨j, hj, h⟩
          rw [e] at hj
          rcases (show j = 0 ∨ j = 1 ∨ j = 2 by omega) with rfl | rfl | rfl
          · exact a h.symm
          · exact b h.symm
          · exact d h.symm
/-- How far the flags have been gone through. -/
def LeadI (p : ByteArray) (a : Nat) (s : ByteArray) (k : Nat) : Prop := flagsF p (p.size + 1) a [] = flagsF p (p.size + 1 - k) (a + k) (s.extract 0 k).data.toList
theorem lead_0 (p : ByteArray) (a : Nat) (s : ByteArray) : LeadI p a s 0 := by
  unfold LeadI
  rw [show s.extract 0 0 = ByteArray.empty by apply str_empty; simp]
  rfl
theorem lead_fuel {p s : ByteArray} {a k : Nat} (hs : s = p.extract a p.size) (hk : k < s.size) (ha : a ≤ p.size) : ∃ f, p.size + 1 - k = f + 1 ∧ a + k < p.size := by
  have : s.size = p.size - a := by rw [hs]; exact ext_size (Nat.le_refl _)
  exact ⟨p.size - k, by omega, by omega⟩
theorem lead_get {p s : ByteArray} {a k : Nat} (hs : s = p.extract a p.size) (hk : k < s.size) (hlt : a + k < p.size) : p[a + k]'hlt = s[k] := by
  subst hs
  rw [ByteArray.getElem_extract]
section
variable {p s : ByteArray} {a k : Nat} (hs : s = p.extract a p.size) (ha : a ≤ p.size) (hk : k < s.size) (hI : LeadI p a s k)
include hs ha hk hI
theorem lead_bad (hb : isF (bt s k) = false) (hc : bt s k ≠ 58) : leadT (flagsF p (p.size + 1) a []) = (ByteArray.empty, false) := by
  obtain ⟨f, hf, hlt⟩ := lead_fuel hs hk ha
  unfold LeadI at hI
  rw [hI, hf, flags_bad (by rw [← bt_ext _ ha, ← hs]; exact hb) (by rw [← bt_ext _ ha, ← hs]; exact hc)]
  rfl
theorem lead_twice (hc : bt s k ≠ 58) (hm : decide (∃ j, j < (s.extract 0 k).size ∧ bt (s.extract 0 k) j = bt s k) = true) : leadT (flagsF p (p.size + 1) a []) = (ByteArray.empty, false) := by
  obtain ⟨f, hf, hlt⟩ := lead_fuel hs hk ha
  have hg := lead_get hs hk hlt
  unfold LeadI at hI
  obtain ⟨j, hj, he⟩ := of_decide_eq_true hm
  rw [ext_size (by omega)] at hj
  rw [bt_ext2 (by omega) (by omega), Nat.zero_add] at he
  rw [hI, hf, flags_twice hlt (by rw [← bt_ext _ ha, ← hs]; exact hc) (by rw [hg, mem_pre (by omega)]; exact ⟨j, by omega, by rw [he, bt_at hk]⟩)]
  rfl
theorem lead_next (hb : isF (bt s k) = true) (hm : decide (∃ j, j < (s.extract 0 k).size ∧ bt (s.extract 0 k) j = bt s k) = false) : LeadI p a s (k + 1) := by
  obtain ⟨f, hf, hlt⟩ := lead_fuel hs hk ha
  have hg := lead_get hs hk hlt
  unfold LeadI at hI ⊢
  have hm' := of_decide_eq_false hm
  rw [hI, hf, flags_next hlt (by rw [← bt_ext _ ha, ← hs]; exact hb) (by
    rw [hg, mem_pre (by omega)]
    rintro ⟨j, hj, he⟩
    exact hm' ⟨j, by rw [ext_size (by omega)]; omega, by rw [bt_ext2 (by omega) (by omega), Nat.zero_add, he, bt_at hk]⟩), hg, pre_snoc hk, show p.size + 1 - (k + 1) = f by omega]
  rfl
theorem lead_colon (hc : bt s k = 58) (h0 : k ≠ 0) : leadT (flagsF p (p.size + 1) a []) = (s.extract 0 k, true) := by
  obtain ⟨f, hf, hlt⟩ := lead_fuel hs hk ha
  unfold LeadI at hI
  rw [hI, hf, flags_colon hlt (by rw [← bt_ext _ ha, ← hs]; exact hc) (by
    intro h
    have h2 : (s.extract 0 k).data.toList.length = k := by simp; omega
    rw [h] at h2
    exact h0 h2.symm)]
  unfold leadT
  rw [if_pos rfl]
end
theorem lead_end {p s : ByteArray} {a : Nat} (hs : s = p.extract a p.size) (ha : a ≤ p.size) (hI : LeadI p a s s.size) : leadT (flagsF p (p.size + 1) a []) = (ByteArray.empty, false) := by
  have : s.size = p.size - a := by rw [hs]; exact ext_size (Nat.le_refl _)
  unfold LeadI at hI
  rw [hI, flags_end (by omega)]
  rfl
theorem ret_sb {s t : ByteArray} {a b : Bool} (h : s = t) (h2 : a = b) : Ending.returned (.tuple #[.string s, .bool a]) = .returned (.tuple #[.string t, .bool b]) := by rw [h, h2]

set_option maxHeartbeats 4000000 in
theorem lead_any (hC : CloneOk) (p s : ByteArray) (a : Nat) (w : World) (hs : s = p.extract a p.size) (hp : p.size ≤ 1000000) (ha : a ≤ p.size) (h58 : bt s 0 ≠ 58) :
    Calls Tryz.prog 100 #[.string s] w fun e w' => e = .returned (.tuple #[.string (leadT (flagsF p (p.size + 1) a [])).1, .bool (leadT (flagsF p (p.size + 1) a [])).2]) ∧ Below w.heap.size w w' := by
  have hsz : s.size ≤ 1000000 := by
    have : s.size = p.size - a := by rw [hs]; exact ext_size (Nat.le_refl _)
    omega
  have HL0 := Lib.hid (lead_0 p a s)
  have H58 := Lib.hid h58
  have HS := Lib.hid hs
  have HA := Lib.hid ha
  have HC := Lib.hid hC
  obtain ⟨R, hR⟩ : ∃ R, R = leadT (flagsF p (p.size + 1) a []) := ⟨_, rfl⟩
  rw [← hR]
  have HR := Lib.hid hR
  clear hR h58 hs ha hC
  go_enter Tryz.func100, Tryz.ntmps100
  go_wp2_with fail
  go_loopw [4] (fun a' wr => ∃ k : Nat, k ≤ s.size ∧ LeadI p a s k ∧ wr = w.iter s k) (fun _ wr => s.size - wr.iterPos w.heap.size)
  case atStart => exact ⟨0, by omega, HL0.out, rfl⟩
  case round =>
    obtain ⟨k, hk, hI, rfl⟩ := hrel
    have HI := Lib.hid hI
    clear hI
    by_cases hp : k < s.size
    · obtain ⟨c, hc⟩ : ∃ c, c = (s[k]'hp).toNat := ⟨_, rfl⟩
      have HB := Lib.hid (show bt s k = c by rw [hc]; exact bt_at hp)
      by_cases h128 : c < 128
      · have hnx : ∀ ty, (Instr.next (.pointer (some ⟨w.heap.size, 0, none⟩)) true ty).run Tryz.prog (w.iter s k) = .ok (.tuple #[.bool true, .int .i64 k, .int .i32 (c : Nat)]) (w.iter s (k + 1)) := fun ty => by rw [hc]; exact run_next_ascii w s k ty hp (by rw [← hc]; exact h128)
        clear hc
        have kk : (k : Int) ≤ (s.size : Int) := by omega
        have hx2 : s.extract 0 k = s.extract 0 k := rfl
        have HX := Lib.hid (show ∀ w, Calls Tryz.prog 120 #[.string imsT, .int .i32 (c : Int)] w (fun e w' => e = .returned (.bool (isF c)) ∧ w = w') from fun w => by rw [← ims_is c]; exact contains_low imsT c w h128)
        have HY := Lib.hid (fun w => contains_low (s.extract 0 k) c w h128)
        by_cases e58 : c = 58
        · have q1 : (c : Int) = 58 := by omega
          have HF := Lib.hid (lead_colon HS.out HA.out hp HI.out (by rw [HB.out]; exact e58) (by rintro rfl; exact H58.out (by rw [HB.out]; exact e58)))
          clear e58 hx2 HX HY
          go_wp2_with fail
          refine (HC.out _ _ (by rw [ext_size (by omega)]; omega)).mono ?_
          rintro e w1 ⟨rfl, hb1⟩
          have HB1 := Lib.hid ((below_iter w s (k + 1)).trans (hb1.mono (by simp [World.iter])))
          clear hb1
          go_wp2_with fail
          go_ret2
          exact ⟨by rw [HR.out, HF.out]; rfl, HB1.out⟩
        · have q1 : ¬ (c : Int) = 58 := by omega
          have HZ := Lib.hid (fun h => lead_bad HS.out HA.out hp HI.out (h) (by rw [HB.out]; exact e58))
          have HT := Lib.hid (fun h => lead_twice HS.out HA.out hp HI.out (by rw [HB.out]; exact e58) h)
          have HN := Lib.hid (fun h => lead_next HS.out HA.out hp HI.out h)
          clear e58 hx2
          rw [HB.out] at HZ HT HN
          revert HX HY HZ HT HN
          generalize isF c = b1
          generalize decide (∃ j, j < (s.extract 0 k).size ∧ bt (s.extract 0 k) j = c) = b2
          intro HX HY HZ HT HN
          cases b1 with
          | false =>
            have HQ := Lib.hid (HZ.out rfl)
            clear HY HZ HT HN
            go_wp2_with fail
            refine (HX.out _).mono ?_
            rintro e w1 ⟨rfl, rfl⟩
            go_wp2_with fail
            go_ret2
            exact ⟨by rw [HR.out, HQ.out]; rfl, below_iter w s _⟩
          | true =>
            cases b2 with
            | true =>
              have HQ := Lib.hid (HT.out rfl)
              clear HZ HT HN
              go_wp2_with fail
              refine (HX.out _).mono ?_
              rintro e w1 ⟨rfl, rfl⟩
              go_wp2_with fail
              refine (HY.out _).mono ?_
              rintro e w1 ⟨rfl, rfl⟩
              go_wp2_with fail
              go_ret2
              exact ⟨by rw [HR.out, HQ.out]; rfl, below_iter w s _⟩
            | false =>
              have HQ := Lib.hid (HN.out rfl rfl)
              clear HZ HT HN
              go_wp2_with fail
              refine (HX.out _).mono ?_
              rintro e w1 ⟨rfl, rfl⟩
              go_wp2_with fail
              refine (HY.out _).mono ?_
              rintro e w1 ⟨rfl, rfl⟩
              go_wp2_with fail
              go_roundw
              case rel => exact ⟨k + 1, by omega, HQ.out, rfl⟩
              case measure => rw [iterPos_at, iterPos_at]; omega
      · have hnx : ∀ ty, (Instr.next (.pointer (some ⟨w.heap.size, 0, none⟩)) true ty).run Tryz.prog (w.iter s k) = _ := fun ty => run_next_any w s k ty hp
        have hr := (decode_high s k hp (by omega)).1
        have HQ := Lib.hid (lead_bad HS.out HA.out hp HI.out (by rw [HB.out]; unfold isF; simp; omega) (by rw [HB.out]; omega))
        clear hc
        revert hnx hr
        generalize (Utf8.decode s k).1 = r
        generalize (Utf8.decode s k).2 = z
        intro hnx hr
        have HX := Lib.hid (fun w => contains_high (r : Int) w (by omega))
        have q1 : ¬ (r : Int) = 58 := by omega
        have HW := Lib.hid (below_iter w s (k + z))
        clear hr
        go_wp2_with fail
        refine (HX.out _).mono ?_
        rintro e w1 ⟨rfl, hb1⟩
        have HB1 := Lib.hid (HW.out.trans (hb1.mono HW.out.size))
        clear hb1
        go_wp2_with fail
        go_ret2
        exact ⟨by rw [HR.out, HQ.out]; rfl, HB1.out⟩
    · obtain rfl : k = s.size := by omega
      have hnx : ∀ ty, (Instr.next (.pointer (some ⟨w.heap.size, 0, none⟩)) true ty).run Tryz.prog (w.iter s s.size) = _ := fun ty => run_next_end w s s.size ty hp
      have HQ := Lib.hid (lead_end HS.out HA.out HI.out)
      go_wp2_with fail
      go_ret2
      exact ⟨by rw [HR.out, HQ.out]; rfl, below_iter w s _⟩
end Go.Proofs.YtkpijnodhlonfaaGreatDoor
