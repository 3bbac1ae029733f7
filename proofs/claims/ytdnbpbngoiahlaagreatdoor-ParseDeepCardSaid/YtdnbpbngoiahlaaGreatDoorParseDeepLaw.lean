/-
  Layer 7: the walk of the statement ParseDeep.
-/
import Derived.Test.YtdnbpbngoiahlaaGreatDoorParTakes
import Derived.Test.YtdnbpbngoiahlaaGreatDoorParDeepM
namespace Go.Proofs.YtdnbpbngoiahlaaGreatDoor
open Go.RowKit
open Ast (Nd ndV joinL wrapL deepZ rightZ cntG Nodes)

theorem deep_no_at {j k : Nat} (hj : j < 3) (hk : 40 ≤ k) (hk2 : k < 60) : ∃ L, parseZ (patD (opD j) k) = ((0, L), 4) := by
  obtain ⟨h1, h2⟩ := deep_no hj hk hk2
  exact ⟨(parseZ (patD (opD j) k)).1.2, by rw [← h1, ← h2]⟩
theorem deep_plain_at {k : Nat} (hk : k < 60) : ∃ L, parseZ (patD pre7 k) = ((1, L), 0) := by
  obtain ⟨h1, h2⟩ := deep_plain k hk
  exact ⟨(parseZ (patD pre7 k)).1.2, by rw [← h1, ← h2]⟩
set_option maxRecDepth 100000 in
set_option maxHeartbeats 32000000 in
theorem parseDeep_0 (K : PKit) (a b : Nat) (ha0 : a < 256) (hb0 : b < 256) (w : World) (hw : Tabs w) (k : Nat) (hk : k < 60) (e1 : (a : Int) % 60 = (k : Int)) (e2 : (b : Int) % 4 = 0) : Calls Tryz.prog 8 #[.int .u8 (a : Int), .int .u8 (b : Int)] w fun e w' => e = .returned (.bool true) ∧ Below w.heap.size w w' := by
  have HF := Lib.hid (fun w (h : Tabs w) => fixed_any K w h)
  have HP0 := Lib.hid (fun p w (h : Tabs w) => parse_g K p w h)
  have HK := Lib.hid K
  have HT := Lib.hid hw
  clear hw K
  have HS := Lib.hid (show ∀ i, (patD (opD 0) i).size ≤ 1 + 4 * i from patD_size (opD 0) (by decide))
  have HW := Lib.hid e1
  clear e1
  go_enter Tryz.func8, Tryz.ntmps8
  go_wp2_with fail
  rw [HW.out]
  go_loopw [7, 8] (fun s7 s8 wr => ∃ i : Nat, i ≤ k ∧ s8 = .int .i64 i ∧ s7 = .string (patD (opD 0) i) ∧ Below w.heap.size w wr) (fun _ s8 _ => k - (intOf s8).toNat)
  case atStart => exact ⟨0, Nat.zero_le _, rfl, rfl, by go_grown⟩
  case round =>
    obtain ⟨i, hi, rfl, rfl, hb⟩ := hrel
    have HB := Lib.hid hb
    have hsz := HS.out i
    have hne := fun (h : i = k) => h
    clear hb
    have HP := Lib.hid (show patD (opD 0) (i + 1) = ({ data := #[40, 63, 62] } : ByteArray) ++ patD (opD 0) i ++ ({ data := #[41] } : ByteArray) from rfl)
    obtain ⟨P, hP⟩ : ∃ P, P = patD (opD 0) i := ⟨_, rfl⟩
    rw [← hP] at HP hsz ⊢
    by_cases hlt : i < k
    · have r1 : (i : Int) < (k : Int) := by omega
      have z1 : ¬ 3 + P.size > 9223372036854775807 := by omega
      have z2 : ¬ 3 + P.size + 1 > 9223372036854775807 := by omega
      have HI := Lib.hid hlt
      clear hP hne hlt hi hsz
      go_wp2_with fail
      go_roundw
      case rel => exact ⟨i + 1, HI.out, by go_num, by rw [HP.out], HB.out⟩
      case measure => have := HI.out; simp [intOf]; omega
    · obtain rfl : k = i := by omega
      replace hP := hP.symm
      clear hne HP hlt hi hsz HW
      by_cases hk4 : k < 40
      · obtain ⟨L, hL, hD⟩ := deep_yes (j := 0) (by decide) hk4
        rw [hP] at hL
        clear hP
        obtain ⟨n, hn⟩ : ∃ n, n = k + 1 := ⟨_, rfl⟩
        rw [← hn] at hL hD
        have hn2 : (k : Int) + 1 = (n : Int) := by omega
        have hn3 : n ≤ 1000 := by omega
        have hk5 : ¬ (40 : Int) ≤ (k : Int) := by omega
        clear hn hk4
        go_wp2_with fail
        with_reducible refine (parse_at HK.out _ n 0 L hL _ (HT.out.call HB.out)).mono ?_
        rintro e w1 ⟨B, cap, rfl, ht, hb⟩
        have HNn := Lib.hid ht.nodes
        have HBn := Lib.hid (thenB HB.out hb HB.out.size)
  
        clear ht hb
        simp only [] at HNn ⊢
        go_wp2_with (refine storeNewTr rfl _ _ rfl w1 B n cap rfl rfl rfl ?_; intro v1 hx hN; refine stopP ?_)
        unfold StopP
        have HX1 := Lib.hid hx.out
        have HB1 := Lib.hid (thenB HBn.out hN.out HBn.out.size)
        have HN1 := Lib.hid (HNn.out.below hN.out (Nat.le_refl _))
  
        have hc1 := tree_cell HX1.out
        clear hx hN HBn HNn
        go_wp2_with fail
        refine (Ast.deep_any B n cap L _ (by omega) HN1.out).mono ?_
        rintro e w3 ⟨rfl, hb⟩
        rw [hD]
        have HBn := Lib.hid (thenB HB1.out hb HB1.out.size)
        have HX2 := Lib.hid (HX1.out.below hb HX1.out.lt)
        clear HB1 hb
        have hc2 := tree_cell HX2.out
        go_wp2_with fail
        with_reducible refine (HF.out _ (HT.out.call HBn.out)).mono ?_
        rintro e wf4 ⟨rfl, hb⟩
        have HZ := Lib.hid (thenB HBn.out hb HBn.out.size)
        clear hb
        go_wp2_with fail
        go_ret
        exact ⟨rfl, HZ.out⟩
      · obtain ⟨L, hL⟩ := deep_no_at (j := 0) (by decide) (show 40 ≤ k by omega) hk
        rw [hP] at hL
        clear hP
        have hk5 : (40 : Int) ≤ (k : Int) := by omega
        go_wp2_with fail
        with_reducible refine (parse_at HK.out _ 0 4 L hL _ (HT.out.call HB.out)).mono ?_
        rintro e w1 ⟨B, cap, rfl, ht, hb⟩
        have HNn := Lib.hid ht.nodes
        have HBn := Lib.hid (thenB HB.out hb HB.out.size)
  
        clear ht hb
        simp only [] at HNn ⊢
        go_wp2_with (refine storeNewTr rfl _ _ rfl w1 B 0 cap rfl rfl rfl ?_; intro v1 hx hN; refine stopP ?_)
        unfold StopP
        have HX1 := Lib.hid hx.out
        have HB1 := Lib.hid (thenB HBn.out hN.out HBn.out.size)
        have HN1 := Lib.hid (HNn.out.below hN.out (Nat.le_refl _))
  
        have hc1 := tree_cell HX1.out
        clear hx hN HBn HNn
        go_wp2_with fail
        with_reducible refine (HF.out _ (HT.out.call HB1.out)).mono ?_
        rintro e wf3 ⟨rfl, hb⟩
        have HZ := Lib.hid (thenB HB1.out hb HB1.out.size)
        clear hb
        go_wp2_with fail
        go_ret
        exact ⟨rfl, HZ.out⟩
set_option maxRecDepth 100000 in
set_option maxHeartbeats 32000000 in
theorem parseDeep_1 (K : PKit) (a b : Nat) (ha0 : a < 256) (hb0 : b < 256) (w : World) (hw : Tabs w) (k : Nat) (hk : k < 60) (e1 : (a : Int) % 60 = (k : Int)) (e2 : (b : Int) % 4 = 1) : Calls Tryz.prog 8 #[.int .u8 (a : Int), .int .u8 (b : Int)] w fun e w' => e = .returned (.bool true) ∧ Below w.heap.size w w' := by
  have HF := Lib.hid (fun w (h : Tabs w) => fixed_any K w h)
  have HP0 := Lib.hid (fun p w (h : Tabs w) => parse_g K p w h)
  have HK := Lib.hid K
  have HT := Lib.hid hw
  clear hw K
  have HS := Lib.hid (show ∀ i, (patD (opD 1) i).size ≤ 1 + 4 * i from patD_size (opD 1) (by decide))
  have HW := Lib.hid e1
  clear e1
  go_enter Tryz.func8, Tryz.ntmps8
  go_wp2_with fail
  rw [HW.out]
  go_loopw [7, 8] (fun s7 s8 wr => ∃ i : Nat, i ≤ k ∧ s8 = .int .i64 i ∧ s7 = .string (patD (opD 1) i) ∧ Below w.heap.size w wr) (fun _ s8 _ => k - (intOf s8).toNat)
  case atStart => exact ⟨0, Nat.zero_le _, rfl, rfl, by go_grown⟩
  case round =>
    obtain ⟨i, hi, rfl, rfl, hb⟩ := hrel
    have HB := Lib.hid hb
    have hsz := HS.out i
    have hne := fun (h : i = k) => h
    clear hb
    have HP := Lib.hid (show patD (opD 1) (i + 1) = ({ data := #[40, 63, 61] } : ByteArray) ++ patD (opD 1) i ++ ({ data := #[41] } : ByteArray) from rfl)
    obtain ⟨P, hP⟩ : ∃ P, P = patD (opD 1) i := ⟨_, rfl⟩
    rw [← hP] at HP hsz ⊢
    by_cases hlt : i < k
    · have r1 : (i : Int) < (k : Int) := by omega
      have z1 : ¬ 3 + P.size > 9223372036854775807 := by omega
      have z2 : ¬ 3 + P.size + 1 > 9223372036854775807 := by omega
      have HI := Lib.hid hlt
      clear hP hne hlt hi hsz
      go_wp2_with fail
      go_roundw
      case rel => exact ⟨i + 1, HI.out, by go_num, by rw [HP.out], HB.out⟩
      case measure => have := HI.out; simp [intOf]; omega
    · obtain rfl : k = i := by omega
      replace hP := hP.symm
      clear hne HP hlt hi hsz HW
      by_cases hk4 : k < 40
      · obtain ⟨L, hL, hD⟩ := deep_yes (j := 1) (by decide) hk4
        rw [hP] at hL
        clear hP
        obtain ⟨n, hn⟩ : ∃ n, n = k + 1 := ⟨_, rfl⟩
        rw [← hn] at hL hD
        have hn2 : (k : Int) + 1 = (n : Int) := by omega
        have hn3 : n ≤ 1000 := by omega
        have hk5 : ¬ (40 : Int) ≤ (k : Int) := by omega
        clear hn hk4
        go_wp2_with fail
        with_reducible refine (parse_at HK.out _ n 0 L hL _ (HT.out.call HB.out)).mono ?_
        rintro e w1 ⟨B, cap, rfl, ht, hb⟩
        have HNn := Lib.hid ht.nodes
        have HBn := Lib.hid (thenB HB.out hb HB.out.size)
  
        clear ht hb
        simp only [] at HNn ⊢
        go_wp2_with (refine storeNewTr rfl _ _ rfl w1 B n cap rfl rfl rfl ?_; intro v1 hx hN; refine stopP ?_)
        unfold StopP
        have HX1 := Lib.hid hx.out
        have HB1 := Lib.hid (thenB HBn.out hN.out HBn.out.size)
        have HN1 := Lib.hid (HNn.out.below hN.out (Nat.le_refl _))
  
        have hc1 := tree_cell HX1.out
        clear hx hN HBn HNn
        go_wp2_with fail
        refine (Ast.deep_any B n cap L _ (by omega) HN1.out).mono ?_
        rintro e w3 ⟨rfl, hb⟩
        rw [hD]
        have HBn := Lib.hid (thenB HB1.out hb HB1.out.size)
        have HX2 := Lib.hid (HX1.out.below hb HX1.out.lt)
        clear HB1 hb
        have hc2 := tree_cell HX2.out
        go_wp2_with fail
        with_reducible refine (HF.out _ (HT.out.call HBn.out)).mono ?_
        rintro e wf4 ⟨rfl, hb⟩
        have HZ := Lib.hid (thenB HBn.out hb HBn.out.size)
        clear hb
        go_wp2_with fail
        go_ret
        exact ⟨rfl, HZ.out⟩
      · obtain ⟨L, hL⟩ := deep_no_at (j := 1) (by decide) (show 40 ≤ k by omega) hk
        rw [hP] at hL
        clear hP
        have hk5 : (40 : Int) ≤ (k : Int) := by omega
        go_wp2_with fail
        with_reducible refine (parse_at HK.out _ 0 4 L hL _ (HT.out.call HB.out)).mono ?_
        rintro e w1 ⟨B, cap, rfl, ht, hb⟩
        have HNn := Lib.hid ht.nodes
        have HBn := Lib.hid (thenB HB.out hb HB.out.size)
  
        clear ht hb
        simp only [] at HNn ⊢
        go_wp2_with (refine storeNewTr rfl _ _ rfl w1 B 0 cap rfl rfl rfl ?_; intro v1 hx hN; refine stopP ?_)
        unfold StopP
        have HX1 := Lib.hid hx.out
        have HB1 := Lib.hid (thenB HBn.out hN.out HBn.out.size)
        have HN1 := Lib.hid (HNn.out.below hN.out (Nat.le_refl _))
  
        have hc1 := tree_cell HX1.out
        clear hx hN HBn HNn
        go_wp2_with fail
        with_reducible refine (HF.out _ (HT.out.call HB1.out)).mono ?_
        rintro e wf3 ⟨rfl, hb⟩
        have HZ := Lib.hid (thenB HB1.out hb HB1.out.size)
        clear hb
        go_wp2_with fail
        go_ret
        exact ⟨rfl, HZ.out⟩
set_option maxRecDepth 100000 in
set_option maxHeartbeats 32000000 in
theorem parseDeep_2 (K : PKit) (a b : Nat) (ha0 : a < 256) (hb0 : b < 256) (w : World) (hw : Tabs w) (k : Nat) (hk : k < 60) (e1 : (a : Int) % 60 = (k : Int)) (e2 : (b : Int) % 4 = 2) : Calls Tryz.prog 8 #[.int .u8 (a : Int), .int .u8 (b : Int)] w fun e w' => e = .returned (.bool true) ∧ Below w.heap.size w w' := by
  have HF := Lib.hid (fun w (h : Tabs w) => fixed_any K w h)
  have HP0 := Lib.hid (fun p w (h : Tabs w) => parse_g K p w h)
  have HK := Lib.hid K
  have HT := Lib.hid hw
  clear hw K
  have HS := Lib.hid (show ∀ i, (patD (opD 2) i).size ≤ 1 + 4 * i from patD_size (opD 2) (by decide))
  have HW := Lib.hid e1
  clear e1
  go_enter Tryz.func8, Tryz.ntmps8
  go_wp2_with fail
  rw [HW.out]
  go_loopw [7, 8] (fun s7 s8 wr => ∃ i : Nat, i ≤ k ∧ s8 = .int .i64 i ∧ s7 = .string (patD (opD 2) i) ∧ Below w.heap.size w wr) (fun _ s8 _ => k - (intOf s8).toNat)
  case atStart => exact ⟨0, Nat.zero_le _, rfl, rfl, by go_grown⟩
  case round =>
    obtain ⟨i, hi, rfl, rfl, hb⟩ := hrel
    have HB := Lib.hid hb
    have hsz := HS.out i
    have hne := fun (h : i = k) => h
    clear hb
    have HP := Lib.hid (show patD (opD 2) (i + 1) = ({ data := #[40, 63, 33] } : ByteArray) ++ patD (opD 2) i ++ ({ data := #[41] } : ByteArray) from rfl)
    obtain ⟨P, hP⟩ : ∃ P, P = patD (opD 2) i := ⟨_, rfl⟩
    rw [← hP] at HP hsz ⊢
    by_cases hlt : i < k
    · have r1 : (i : Int) < (k : Int) := by omega
      have z1 : ¬ 3 + P.size > 9223372036854775807 := by omega
      have z2 : ¬ 3 + P.size + 1 > 9223372036854775807 := by omega
      have HI := Lib.hid hlt
      clear hP hne hlt hi hsz
      go_wp2_with fail
      go_roundw
      case rel => exact ⟨i + 1, HI.out, by go_num, by rw [HP.out], HB.out⟩
      case measure => have := HI.out; simp [intOf]; omega
    · obtain rfl : k = i := by omega
      replace hP := hP.symm
      clear hne HP hlt hi hsz HW
      by_cases hk4 : k < 40
      · obtain ⟨L, hL, hD⟩ := deep_yes (j := 2) (by decide) hk4
        rw [hP] at hL
        clear hP
        obtain ⟨n, hn⟩ : ∃ n, n = k + 1 := ⟨_, rfl⟩
        rw [← hn] at hL hD
        have hn2 : (k : Int) + 1 = (n : Int) := by omega
        have hn3 : n ≤ 1000 := by omega
        have hk5 : ¬ (40 : Int) ≤ (k : Int) := by omega
        clear hn hk4
        go_wp2_with fail
        with_reducible refine (parse_at HK.out _ n 0 L hL _ (HT.out.call HB.out)).mono ?_
        rintro e w1 ⟨B, cap, rfl, ht, hb⟩
        have HNn := Lib.hid ht.nodes
        have HBn := Lib.hid (thenB HB.out hb HB.out.size)
  
        clear ht hb
        simp only [] at HNn ⊢
        go_wp2_with (refine storeNewTr rfl _ _ rfl w1 B n cap rfl rfl rfl ?_; intro v1 hx hN; refine stopP ?_)
        unfold StopP
        have HX1 := Lib.hid hx.out
        have HB1 := Lib.hid (thenB HBn.out hN.out HBn.out.size)
        have HN1 := Lib.hid (HNn.out.below hN.out (Nat.le_refl _))
  
        have hc1 := tree_cell HX1.out
        clear hx hN HBn HNn
        go_wp2_with fail
        refine (Ast.deep_any B n cap L _ (by omega) HN1.out).mono ?_
        rintro e w3 ⟨rfl, hb⟩
        rw [hD]
        have HBn := Lib.hid (thenB HB1.out hb HB1.out.size)
        have HX2 := Lib.hid (HX1.out.below hb HX1.out.lt)
        clear HB1 hb
        have hc2 := tree_cell HX2.out
        go_wp2_with fail
        with_reducible refine (HF.out _ (HT.out.call HBn.out)).mono ?_
        rintro e wf4 ⟨rfl, hb⟩
        have HZ := Lib.hid (thenB HBn.out hb HBn.out.size)
        clear hb
        go_wp2_with fail
        go_ret
        exact ⟨rfl, HZ.out⟩
      · obtain ⟨L, hL⟩ := deep_no_at (j := 2) (by decide) (show 40 ≤ k by omega) hk
        rw [hP] at hL
        clear hP
        have hk5 : (40 : Int) ≤ (k : Int) := by omega
        go_wp2_with fail
        with_reducible refine (parse_at HK.out _ 0 4 L hL _ (HT.out.call HB.out)).mono ?_
        rintro e w1 ⟨B, cap, rfl, ht, hb⟩
        have HNn := Lib.hid ht.nodes
        have HBn := Lib.hid (thenB HB.out hb HB.out.size)
  
        clear ht hb
        simp only [] at HNn ⊢
        go_wp2_with (refine storeNewTr rfl _ _ rfl w1 B 0 cap rfl rfl rfl ?_; intro v1 hx hN; refine stopP ?_)
        unfold StopP
        have HX1 := Lib.hid hx.out
        have HB1 := Lib.hid (thenB HBn.out hN.out HBn.out.size)
        have HN1 := Lib.hid (HNn.out.below hN.out (Nat.le_refl _))
  
        have hc1 := tree_cell HX1.out
        clear hx hN HBn HNn
        go_wp2_with fail
        with_reducible refine (HF.out _ (HT.out.call HB1.out)).mono ?_
        rintro e wf3 ⟨rfl, hb⟩
        have HZ := Lib.hid (thenB HB1.out hb HB1.out.size)
        clear hb
        go_wp2_with fail
        go_ret
        exact ⟨rfl, HZ.out⟩
set_option maxRecDepth 100000 in
set_option maxHeartbeats 32000000 in
theorem parseDeep_3 (K : PKit) (a b : Nat) (ha0 : a < 256) (hb0 : b < 256) (w : World) (hw : Tabs w) (k : Nat) (hk : k < 60) (e1 : (a : Int) % 60 = (k : Int)) (e2 : (b : Int) % 4 = 3) : Calls Tryz.prog 8 #[.int .u8 (a : Int), .int .u8 (b : Int)] w fun e w' => e = .returned (.bool true) ∧ Below w.heap.size w w' := by
  have HF := Lib.hid (fun w (h : Tabs w) => fixed_any K w h)
  have HP0 := Lib.hid (fun p w (h : Tabs w) => parse_g K p w h)
  have HK := Lib.hid K
  have HT := Lib.hid hw
  clear hw K
  have HS := Lib.hid (show ∀ i, (patD pre7 i).size ≤ 1 + 4 * i from patD_size pre7 (by decide))
  have HW := Lib.hid e1
  clear e1
  go_enter Tryz.func8, Tryz.ntmps8
  go_wp2_with fail
  rw [HW.out]
  go_loopw [7, 8] (fun s7 s8 wr => ∃ i : Nat, i ≤ k ∧ s8 = .int .i64 i ∧ s7 = .string (patD pre7 i) ∧ Below w.heap.size w wr) (fun _ s8 _ => k - (intOf s8).toNat)
  case atStart => exact ⟨0, Nat.zero_le _, rfl, rfl, by go_grown⟩
  case round =>
    obtain ⟨i, hi, rfl, rfl, hb⟩ := hrel
    have HB := Lib.hid hb
    have hsz := HS.out i
    have hne := fun (h : i = k) => h
    clear hb
    have HP := Lib.hid (show patD pre7 (i + 1) = ({ data := #[40, 63, 58] } : ByteArray) ++ patD pre7 i ++ ({ data := #[41] } : ByteArray) from rfl)
    obtain ⟨P, hP⟩ : ∃ P, P = patD pre7 i := ⟨_, rfl⟩
    rw [← hP] at HP hsz ⊢
    by_cases hlt : i < k
    · have r1 : (i : Int) < (k : Int) := by omega
      have z1 : ¬ 3 + P.size > 9223372036854775807 := by omega
      have z2 : ¬ 3 + P.size + 1 > 9223372036854775807 := by omega
      have HI := Lib.hid hlt
      clear hP hne hlt hi hsz
      go_wp2_with fail
      go_roundw
      case rel => exact ⟨i + 1, HI.out, by go_num, by rw [HP.out], HB.out⟩
      case measure => have := HI.out; simp [intOf]; omega
    · obtain rfl : k = i := by omega
      replace hP := hP.symm
      clear hne HP hlt hi hsz HW
      obtain ⟨L, hL⟩ := deep_plain_at hk
      rw [hP] at hL
      clear hP
      go_wp2_with fail
      with_reducible refine (parse_at HK.out _ 1 0 L hL _ (HT.out.call HB.out)).mono ?_
      rintro e w1 ⟨B, cap, rfl, ht, hb⟩
      have HNn := Lib.hid ht.nodes
      have HBn := Lib.hid (thenB HB.out hb HB.out.size)

      clear ht hb
      simp only [] at HNn ⊢
      go_wp2_with (refine storeNewTr rfl _ _ rfl w1 B 1 cap rfl rfl rfl ?_; intro v1 hx hN; refine stopP ?_)
      unfold StopP
      have HX1 := Lib.hid hx.out
      have HB1 := Lib.hid (thenB HBn.out hN.out HBn.out.size)
      have HN1 := Lib.hid (HNn.out.below hN.out (Nat.le_refl _))

      have hc1 := tree_cell HX1.out
      clear hx hN HBn HNn
      go_wp2_with fail
      with_reducible refine (HF.out _ (HT.out.call HB1.out)).mono ?_
      rintro e wf3 ⟨rfl, hb⟩
      have HZ := Lib.hid (thenB HB1.out hb HB1.out.size)
      clear hb
      go_wp2_with fail
      go_ret
      exact ⟨rfl, HZ.out⟩

theorem parseDeep_any (K : PKit) (a b : Nat) (w : World) (hw : Tabs w) (ha0 : a < 256) (hb0 : b < 256) : Calls Tryz.prog 8 #[.int .u8 (a : Int), .int .u8 (b : Int)] w fun e w' => e = .returned (.bool true) ∧ Below w.heap.size w w' := by
  have e1 : (a : Int) % 60 = ((a % 60 : Nat) : Int) := by omega
  rcases (show (b : Int) % 4 = 0 ∨ (b : Int) % 4 = 1 ∨ (b : Int) % 4 = 2 ∨ (b : Int) % 4 = 3 by omega) with e2 | e2 | e2 | e2
  · exact parseDeep_0 K a b ha0 hb0 w hw _ (by omega) e1 e2
  · exact parseDeep_1 K a b ha0 hb0 w hw _ (by omega) e1 e2
  · exact parseDeep_2 K a b ha0 hb0 w hw _ (by omega) e1 e2
  · exact parseDeep_3 K a b ha0 hb0 w hw _ (by omega) e1 e2
end Go.Proofs.YtdnbpbngoiahlaaGreatDoor
