/-
  Layer 7, the landed code: areAlternative.
-/
import Derived.Test.YtkpijnodhlonfaaGreatDoorParD
namespace Go.Proofs.YtkpijnodhlonfaaGreatDoor
open Go.RowKit

section
variable {t : Tok} {l : List Tok} {o : Nat} {b : Bool}
theorem scan_no1 (h : t.k = 16) : scanF (t :: l) o false = false := by rw [scanF, if_pos (.inl ⟨h, rfl⟩)]
theorem scan_no2 (h : t.k = 15) : scanF (t :: l) 0 b = false := by rw [scanF, if_pos (.inr ⟨h, rfl⟩)]
theorem scan_16 (h : t.k = 16) : scanF (t :: l) o true = scanF l o false := by simp [scanF, h, opens]
theorem scan_15 (h : t.k = 15) (ho : o ≠ 0) : scanF (t :: l) o b = scanF l (o - 1) true := by simp [scanF, h, opens, ho]
theorem scan_op (h : opens t.k = true) : scanF (t :: l) o b = scanF l (o + 1) false := by
  have h2 := of_decide_eq_true h
  have h16 : ¬ t.k = 16 := by omega
  have h15 : ¬ t.k = 15 := by omega
  simp [scanF, h, h15, h16]
theorem scan_6 (h : t.k = 6) : scanF (t :: l) o b = scanF l o false := by simp [scanF, h, opens]
theorem scan_el (h : opens t.k = false) (h6 : t.k ≠ 6) (h15 : t.k ≠ 15) (h16 : t.k ≠ 16) : scanF (t :: l) o b = scanF l o true := by simp [scanF, h, h6, h15, h16]
end
set_option maxRecDepth 100000 in
set_option maxHeartbeats 8000000 in
theorem scan_any (A : Option Addr) (cap : Nat) (l : List Tok) (w : World) (hl : l.length ≤ 2000) (htk : Toks w A l) : Calls Tryz.prog 75 #[.slice A l.length cap] w fun e w' => e = .returned (.bool (scanF l 0 false)) ∧ Below w.heap.size w w' := by
  have HT := Lib.hid htk
  clear htk
  obtain ⟨R, hR⟩ : ∃ R, R = scanF l 0 false := ⟨_, rfl⟩
  rw [← hR]
  have HR := Lib.hid hR
  clear hR
  have hll : (l.length : Int) ≤ 2000 := by omega
  go_enter Tryz.func75, Tryz.ntmps75
  go_wp2_with fail
  go_loopw [3, 4, 9] (fun s3 s4 s9 wr => ∃ (k o : Nat) (b : Bool), s3 = .int .i64 o ∧ s4 = .bool b ∧ s9 = .int .i64 k ∧ k ≤ l.length ∧ o ≤ k ∧ R = scanF (l.drop k) o b ∧ Below w.heap.size w wr) (fun _ _ s9 _ => l.length - (intOf s9).toNat)
  case atStart => exact ⟨0, 0, false, rfl, rfl, rfl, Nat.zero_le _, Nat.le_refl _, HR.out, Below.refl _ _⟩
  case round =>
    obtain ⟨k, o, b, rfl, rfl, rfl, hk, hok, hr, hb⟩ := hrel
    have HRk := Lib.hid hr
    have HB := Lib.hid hb
    clear hr hb
    by_cases hlt : k < l.length
    · have r1 : (k : Int) < (l.length : Int) := by omega
      obtain ⟨t, ht⟩ : ∃ t, l[k]? = some t := ⟨_, List.getElem?_eq_getElem hlt⟩
      have hd : l.drop k = t :: l.drop (k + 1) := by
        rw [List.drop_eq_getElem_cons hlt]
        congr 1
        rw [List.getElem?_eq_getElem hlt] at ht
        exact Option.some.inj ht
      rw [hd] at HRk
      obtain ⟨bb, oo, rfl, hbw, hx⟩ := (HT.out.below HB.out (Nat.le_refl _)) k t ht
      obtain ⟨c0, c1, c2, c3, c4, c5, c6, c7, c8, c9⟩ := hx
      clear ht hd hbw
      go_wp2_with (refine storeNewB rfl _ _ rfl wr wr.heap.size rfl t rfl _ rfl rfl _ tok10 rfl ?_; intro w2 hx hN; clear c0 c1 c2 c3 c4 c5 c6 c7 c8 c9; refine stopP ?_)
      unfold StopP
      have c0 : w2.cell? ⟨wr.heap.size, 0, none⟩ = some (.int .i64 t.k) := (hx.out.cl 0).trans rfl
      have HB2 := Lib.hid (thenB HB.out hN.out HB.out.size)
      clear hx hN
      have hoi : (o : Int) ≤ 2000 := by omega
      by_cases hk16 : t.k = 16
      · cases b with
        | false =>
          have HE := Lib.hid (HRk.out.trans (scan_no1 hk16))
          rw [hk16] at c0
          go_wp2_with fail
          go_ret
          exact ⟨by rw [HE.out]; rfl, HB2.out⟩
        | true =>
          have HE := Lib.hid (HRk.out.trans (scan_16 hk16))
          rw [hk16] at c0
          clear hk16
          go_wp2_with fail
          with_reducible refine (opens_any _ _).mono ?_
          rw [show opens 16 = false from rfl]
          rintro e wa ⟨rfl, rfl⟩
          go_wp2_with fail
          go_roundw
          case rel => exact ⟨k + 1, o, false, by go_num, rfl, by go_num, by omega, by omega, HE.out, HB2.out⟩
          case measure => simp [intOf]; omega
      by_cases hk15 : t.k = 15
      · by_cases h0 : o = 0
        · subst h0
          have HE := Lib.hid (HRk.out.trans (scan_no2 hk15))
          rw [hk15] at c0
          go_wp2_with fail
          go_ret
          exact ⟨by rw [HE.out]; rfl, HB2.out⟩
        · have HE := Lib.hid (HRk.out.trans (scan_15 hk15 h0))
          have q : ((o : Int) == 0) = false := by simp; omega
          have hoz : (0 : Int) < (o : Int) := by omega
          rw [hk15] at c0
          clear hk15 hk16
          go_wp2_with fail
          with_reducible refine (opens_any _ _).mono ?_
          rw [show opens 15 = false from rfl]
          rintro e wa ⟨rfl, rfl⟩
          go_wp2_with fail
          go_roundw
          case rel => exact ⟨k + 1, o - 1, true, (by rw [show ((o - 1 : Nat) : Int) = (o : Int) - 1 by omega]), rfl, by go_num, by omega, by omega, HE.out, HB2.out⟩
          case measure => simp [intOf]; omega
      have q16 : (t.k == 16) = false := by simpa using hk16
      have q15 : (t.k == 15) = false := by simpa using hk15
      have p16 : (t.k != 16) = true := by simpa using hk16
      cases hop : opens t.k with
      | true =>
        have hk6 : t.k ≠ 6 := by have := of_decide_eq_true hop; omega
        have p6 : (t.k != 6) = true := by simpa using hk6
        have HE := Lib.hid (HRk.out.trans (scan_op hop))
        clear hk16 hk15 hk6
        go_wp2_with fail
        with_reducible refine (opens_any _ _).mono ?_
        rw [hop]
        rintro e wa ⟨rfl, rfl⟩
        go_wp2_with fail
        go_roundw
        case rel => exact ⟨k + 1, o + 1, false, by go_num, rfl, by go_num, by omega, by omega, HE.out, HB2.out⟩
        case measure => simp [intOf]; omega
      | false =>
        by_cases hk6 : t.k = 6
        · have HE := Lib.hid (HRk.out.trans (scan_6 hk6))
          have p6 : (t.k != 6) = false := by simp [hk6]
          clear hk16 hk15 hk6
          go_wp2_with fail
          with_reducible refine (opens_any _ _).mono ?_
          rw [hop]
          rintro e wa ⟨rfl, rfl⟩
          go_wp2_with fail
          go_roundw
          case rel => exact ⟨k + 1, o, false, by go_num, rfl, by go_num, by omega, by omega, HE.out, HB2.out⟩
          case measure => simp [intOf]; omega
        · have HE := Lib.hid (HRk.out.trans (scan_el hop hk6 hk15 hk16))
          have p6 : (t.k != 6) = true := by simpa using hk6
          clear hk16 hk15 hk6
          go_wp2_with fail
          with_reducible refine (opens_any _ _).mono ?_
          rw [hop]
          rintro e wa ⟨rfl, rfl⟩
          go_wp2_with fail
          go_roundw
          case rel => exact ⟨k + 1, o, true, by go_num, rfl, by go_num, by omega, by omega, HE.out, HB2.out⟩
          case measure => simp [intOf]; omega
    · obtain rfl : k = l.length := by omega
      rw [List.drop_length] at HRk
      have HE := Lib.hid (show R = (o == 0) from HRk.out)
      by_cases h0 : o = 0
      · subst h0
        have HE2 := Lib.hid (show R = true from HE.out)
        go_wp2_with fail
        go_ret
        exact ⟨by rw [HE2.out]; rfl, HB.out⟩
      · have HE2 := Lib.hid (show R = false by rw [HE.out]; simpa using h0)
        have q : ((o : Int) == 0) = false := by simp; omega
        have q2 : ¬ (o : Int) = 0 := by omega
        go_wp2_with fail
        go_ret
        exact ⟨by rw [HE2.out]; rfl, HB.out⟩
end Go.Proofs.YtkpijnodhlonfaaGreatDoor
