/-
  Layer 8: the walk of the statement ShowPlain.
-/
import Derived.Test.YtfejdengpnikeaaDoorShoPlainM
namespace Go.Proofs.YtfejdengpnikeaaDoor
open Go.RowKit
open Ast (Nd ndV Nodes TreeBox rightZ)

set_option maxRecDepth 100000 in
set_option maxHeartbeats 32000000 in
theorem showPlain_any (K : SortK) (A : Option Addr) (n0 cap : Nat) (l : Nat → Nd) (w : World) (hc : n0 ≤ cap) (hcap : cap ≤ 9223372036854775807) (h0 : A = none → n0 = 0 ∧ cap = 0) (hl : Nodes w A n0 l) (hW : ∀ i, i < n0 → Wds (l i)) (hw : TP w) :
    Calls Tryd.prog 4 #[.agg #[.slice A n0 cap]] w fun e w' => e = .returned (.bool true) ∧ Below w.heap.size w w' := by
  have HCut := Lib.hid (fun w => Ast.cut_any A n0 cap 60 w hc hcap h0 (by decide))
  have HF := Lib.hid (fun w h => fixed_any K w h)
  obtain ⟨n, hn⟩ : ∃ n, n = min n0 60 := ⟨_, rfl⟩
  rw [← hn] at HCut
  have hn60 : n ≤ 60 := by omega
  have HN0 : Nodes w A n l := fun i hi => hl i (by omega)
  have hL : LitOkS l n := fun i hi _ => words_of (hW i (by omega))
  have HT := Lib.hid hw
  have HN := Lib.hid HN0
  have HSh := Lib.hid (fun w h (t : TP w) => show_any K.1 K.2 A n cap l w (by omega) h hL like_backs t.1 t.2)
  have HRi := Lib.hid (fun w h => Ast.right_any K.1 K.2 A n cap l w (by omega) h)
  obtain ⟨s, z, hs, hz, hsz, hok, hq⟩ := plain_cases l n hn60
  rw [← hs] at HSh
  rw [← hz] at HRi
  have HB := Lib.hid ((Below.refl w.heap.size w).alloc (Nat.le_refl _) (.cells #[.slice A n0 cap] 24))
  have HX : Hid (TreeBox (w.alloc (.cells #[.slice A n0 cap] 24)) w.heap.size A n0 cap) := Lib.hid (TreeBox.new _ _ _ _)
  have HO := Lib.hid hok
  have HQ := Lib.hid hq
  clear hw hc hcap h0 hl hW HN0 hn hL hs hz hok hq
  go_enter Tryd.func4, Tryd.ntmps4
  go_wp2_with fail
  refine (HCut.out _).mono ?_
  rintro e w1 ⟨rfl, hb⟩
  replace HX := Lib.hid (TreeBox.to HX.out hb HX.out.lt)
  replace HB := Lib.hid (thenB HB.out hb HB.out.size)
  clear hb
  go_wp2_with (refine putTree rfl _ _ rfl w.heap.size _ A n cap rfl rfl HX.out ?_; intro w2 hx hbl ho; refine StopS.out ?_)
  refine ⟨?_⟩
  replace HB := Lib.hid (HB.out.trans (hbl.out _ (Nat.le_refl _)))
  replace HX := Lib.hid hx.out
  clear hx hbl ho
  have cHX := HX.out.cell
  go_wp2_with fail
  refine (HSh.out _ (HN.out.below HB.out (Nat.le_refl _)) (HT.out.call HB.out)).mono ?_
  rintro e w3 ⟨rfl, hb⟩
  replace HX := Lib.hid (TreeBox.to HX.out hb HX.out.lt)
  replace HB := Lib.hid (thenB HB.out hb HB.out.size)
  clear hb
  clear cHX
  go_wp2_with fail
  go_loopw [4] (fun s4 wr => ∃ k : Nat, s4 = .int .i64 k ∧ k ≤ s.size ∧ Below w.heap.size w wr ∧ TreeBox wr w.heap.size A n cap) (fun s4 _ => s.size - (intOf s4).toNat)
  case atStart => exact ⟨0, rfl, Nat.zero_le _, HB.out, HX.out⟩
  case round =>
    clear HB HX
    obtain ⟨k, rfl, hk, hb, hx⟩ := hrel
    have HB := Lib.hid hb
    have HX := Lib.hid hx
    clear hb hx
    by_cases hlt : k < s.size
    · have e1 : (k : Int) < (s.size : Int) := by omega
      have HC := Lib.hid (HO.out k hlt)
      have hc1 : s[k].toNat < 256 := s[k].toNat_lt
      go_wp2_with fail
      obtain ⟨c, hc⟩ : ∃ c : Nat, c = s[k].toNat := ⟨_, rfl⟩
      rw [← hc] at HC hc1 ⊢
      clear hc
      obtain ⟨G, hG⟩ : ∃ G : ByteArray, G = ⟨#[40, 41, 91, 93, 123, 125, 63, 58, 124, 42, 43, 94, 36, 44, 45, 61, 33, 60, 62, 95, 32, 92]⟩ := ⟨_, rfl⟩
      have hGs : G.size = 22 := by rw [hG]; rfl
      have HG := Lib.hid (show G = sgnB from hG)
      rw [← hG]
      clear hG
      go_loopw [6, 8] (fun s6 s8 wx => ∃ (j : Nat) (d : Bool), j ≤ 22 ∧ s6 = .bool d ∧ d = sgnTo G c j ∧ s8 = .int .i64 j ∧ Below w.heap.size w wx ∧ TreeBox wx w.heap.size A n cap) (fun _ s8 _ => 22 - (intOf s8).toNat)
      case atStart => exact ⟨0, false, by omega, rfl, rfl, rfl, HB.out, HX.out⟩
      case round =>
        clear HB HX
        obtain ⟨j, d, hj, rfl, hd, rfl, hb, hx⟩ := hrel
        have HD := Lib.hid hd
        have HB := Lib.hid hb
        have HX := Lib.hid hx
        clear hd hb hx
        by_cases hj2 : j < 22
        · have hj3 : j < G.size := by omega
          have e2 : (j : Int) < (G.size : Int) := by omega
          have HE := Lib.hid (bAt_at hj3)
          cases d with
          | true =>
            have HD2 := Lib.hid (show true = sgnTo G c (j + 1) by rw [sgnTo, ← HD.out]; rfl)
            go_wp2_with fail
            go_roundw
            case rel => exact ⟨j + 1, true, by omega, rfl, HD2.out, by go_num, HB.out, HX.out⟩
            case measure => simp [intOf]; omega
          | false =>
            by_cases he : bAt G j = c
            · have e3 : ((G[j].toNat : Int) == (c : Int)) = true := by have := HE.out; simp; omega
              have HD2 := Lib.hid (show true = sgnTo G c (j + 1) by rw [sgnTo, ← HD.out, decide_eq_true he]; rfl)
              clear he
              go_wp2_with fail
              go_roundw
              case rel => exact ⟨j + 1, true, by omega, rfl, HD2.out, by go_num, HB.out, HX.out⟩
              case measure => simp [intOf]; omega
            · have e3 : ((G[j].toNat : Int) == (c : Int)) = false := by have := HE.out; simp; omega
              have HD2 := Lib.hid (show false = sgnTo G c (j + 1) by rw [sgnTo, ← HD.out, decide_eq_false he]; rfl)
              clear he
              go_wp2_with fail
              go_roundw
              case rel => exact ⟨j + 1, false, by omega, rfl, HD2.out, by go_num, HB.out, HX.out⟩
              case measure => simp [intOf]; omega
        · obtain rfl : j = 22 := by omega
          have e2 : ¬ (22 : Int) < (G.size : Int) := by omega
          cases d with
          | true =>
            go_wp2_with fail
            go_roundw
            case rel => exact ⟨k + 1, by go_num, by omega, HB.out, HX.out⟩
            case measure => simp [intOf]; omega
          | false =>
            rcases ok_byte HC.out (by rw [← HG.out]; exact HD.out.symm) with ⟨c1, c2⟩ | ⟨c1, c2⟩ | ⟨c1, c2⟩
            · have q1 : (97 : Int) ≤ (c : Int) := by omega
              have q2 : (c : Int) ≤ 122 := by omega
              go_wp2_with fail
              go_roundw
              case rel => exact ⟨k + 1, by go_num, by omega, HB.out, HX.out⟩
              case measure => simp [intOf]; omega
            · have q1 : ¬ (97 : Int) ≤ (c : Int) := by omega
              have q2 : (65 : Int) ≤ (c : Int) := by omega
              have q3 : (c : Int) ≤ 90 := by omega
              go_wp2_with fail
              go_roundw
              case rel => exact ⟨k + 1, by go_num, by omega, HB.out, HX.out⟩
              case measure => simp [intOf]; omega
            · have q1 : ¬ (97 : Int) ≤ (c : Int) := by omega
              have q2 : ¬ (65 : Int) ≤ (c : Int) := by omega
              have q3 : (48 : Int) ≤ (c : Int) := by omega
              have q4 : (c : Int) ≤ 57 := by omega
              go_wp2_with fail
              go_roundw
              case rel => exact ⟨k + 1, by go_num, by omega, HB.out, HX.out⟩
              case measure => simp [intOf]; omega
    · obtain rfl : k = s.size := by omega
      have cHX := HX.out.cell
      rcases HQ.out with ⟨h1, rfl⟩ | ⟨rfl, h1⟩
      · have hne := str_ne8 h1
        clear h1
        go_wp2_with fail
        refine (HRi.out _ (HN.out.below HB.out (Nat.le_refl _))).mono ?_
        rintro e w4 ⟨rfl, hb⟩
        replace HB := Lib.hid (thenB HB.out hb HB.out.size)
        clear hb cHX
        go_wp2_with fail
        refine (HF.out _ (HT.out.call HB.out)).mono ?_
        rintro e w5 ⟨rfl, hb⟩
        replace HB := Lib.hid (thenB HB.out hb HB.out.size)
        clear hb
        go_wp2_with fail
        go_ret
        exact ⟨rfl, HB.out⟩
      · have hne : (z == 0) = false := beq_eq_false_iff_ne.2 h1
        have hne2 : (z != 0) = true := by rw [bne, hne]; rfl
        go_wp2_with fail
        refine (HRi.out _ (HN.out.below HB.out (Nat.le_refl _))).mono ?_
        rintro e w4 ⟨rfl, hb⟩
        replace HB := Lib.hid (thenB HB.out hb HB.out.size)
        clear hb cHX
        go_wp2_with fail
        refine (HF.out _ (HT.out.call HB.out)).mono ?_
        rintro e w5 ⟨rfl, hb⟩
        replace HB := Lib.hid (thenB HB.out hb HB.out.size)
        clear hb
        go_wp2_with fail
        go_ret
        exact ⟨rfl, HB.out⟩
end Go.Proofs.YtfejdengpnikeaaDoor
