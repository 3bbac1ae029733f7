/-
  Layer 10: the document's Show.
-/
import Derived.Test.YtnapbmdbeihngaaDoorCapShows
namespace Go.Proofs.YtnapbmdbeihngaaDoor
open Go.RowKit

theorem showS_succ (c : Cp) (k : Nat) : showS c (k + 1) = (if k = 0 then showS c k else showS c k ++ ⟨#[44]⟩) ++ partS c k := rfl
/-- The box of the document's Show. -/
def RBx (c : Cp) (w0 w : World) : Prop := Below w0.heap.size w0 w ∧ BoxV 28 w w0.heap.size (cpC c)
theorem RBx.call {c : Cp} {w0 w w' : World} (h : RBx c w0 w) (hb : Below w.heap.size w w') : RBx c w0 w' := ⟨thenB h.1 hb h.1.size, h.2.below hb h.2.lt⟩
set_option maxRecDepth 20000 in
set_option maxHeartbeats 4000000 in
theorem rshow_any (c : Cp) (hc : c.fits) (z : Int) (m : Nat) (hm9 : m ≤ 9) (hz : z < 1 ∧ m ≤ 0 ∨ z = (m : Int) ∧ 1 ≤ m ∨ 9 < z ∧ 9 ≤ m) (w : World) : Calls Tryd.prog 16 #[.agg (cpC c), .int .i64 z] w fun e w' => e = .returned (.string (showS c m)) ∧ Below w.heap.size w w' := by
  have HX := Lib.hid (show RBx c w (w.alloc (.cells (cpC c) 28)) from ⟨(Below.refl w.heap.size w).alloc (Nat.le_refl _) _, BoxV.new w (cpC c)⟩)
  have HSZ := Lib.hid (showS_size c hc)
  have HC := Lib.hid hc
  clear hc
  rcases hz with ⟨hz, h0⟩ | ⟨rfl, h0⟩ | ⟨hz, h0⟩
  all_goals
    go_enter Tryd.func16, Tryd.ntmps16
    go_wp2_with fail
    go_loopw [5, 6] (fun v i wr => ∃ k : Nat, k ≤ m ∧ i = .int .i64 ((k : Int) + 1) ∧ v = .string (showS c k) ∧ Hid (RBx c w wr)) (fun _ i _ => 11 - (intOf i).toNat)
    case atStart => exact ⟨0, Nat.zero_le _, rfl, rfl, HX⟩
    case round =>
      obtain ⟨k, hk, rfl, rfl, HB⟩ := hrel
      by_cases hlt : k < m
      · first
        | (exfalso; omega)
        | (have hk9 : k < 9 := by omega
           have HSS := HSZ.out k (by omega)
           have HNX := Lib.hid (showS_succ c k)
           have hgt : (k : Int) + 1 ≤ 9 := by omega
           have hci := HB.out.2.get k (cpC_is c k hk9)
           by_cases hk0 : k = 0
           · have hk1 : decide (1 < (k : Int) + 1) = false := decide_eq_false (by omega)
             rw [if_pos hk0] at HNX
             clear hk0
             generalize showS c k = X at HSS HNX ⊢
             cases hi : c.is k with
             | false =>
               rw [hi] at hci
               have HP := Lib.hid (show partS c k = ⟨#[63]⟩ by unfold partS; rw [hi]; rfl)
               have s2 : ¬ X.size + 1 > 9223372036854775807 := by omega
               clear hi HSS
               go_wp2_with fail
               go_roundw
               case rel => exact ⟨k + 1, by omega, by go_num, by rw [HNX.out, HP.out], HB⟩
               case measure => simp [intOf]; omega
             | true =>
               rw [hi] at hci
               obtain ⟨f1, f2⟩ := HC.out k hk9
               have HP := Lib.hid (show partS c k = itS (c.fr k) ++ ⟨#[45]⟩ ++ itS (c.to k) by unfold partS; rw [hi]; rfl)
               have HI := Lib.hid (number_one (c.fr k) f1)
               have HJ := Lib.hid (number_one (c.to k) f2)
               have z1 := itS_size _ f1
               have z2 := itS_size _ f2
               have HFR := Lib.hid (fun u (hu : RBx c w u) => (by have h := hu.2.get _ (cpC_fr c k hk9); rwa [Nat.mul_comm] at h : u.cell? ⟨w.heap.size, 9 + k * 2, none⟩ = some (.int .i64 (c.fr k))))
               have HTO := Lib.hid (fun u (hu : RBx c w u) => (by have h := hu.2.get _ (cpC_to c k hk9); rwa [Nat.mul_comm] at h : u.cell? ⟨w.heap.size, 9 + k * 2 + 1, none⟩ = some (.int .i64 (c.to k))))
               generalize c.fr k = p at HP HI HFR z1
               generalize c.to k = q at HP HJ HTO z2
               generalize itS p = Y at HP HI z1
               generalize itS q = Z at HP HJ z2
               clear hi f1 f2
               go_wp2_with fail
               refine wp_region_held_drew (S := fun u => RBx c w u) (by kernel_rfl) (show _ from HB.out.call (Below.refl _ _).drew) (fun hS => ?_)
               generalize World.drew _ = v0 at hS ⊢
               refine takeAt 0 25 (.string (X)) rfl rfl (by kernel_rfl) (by kernel_rfl) (by kernel_rfl) (fun _ _ _ h => h) (yields (by rfl) (fun w => by kernel_rfl)) hS ?_
               simp only [Act.put, List.setIfInBounds_toArray, List.set_cons_zero, List.set_cons_succ]
               refine takeAt 1 26 (.int .i64 ((k : Int) + 1)) rfl rfl (by kernel_rfl) (by kernel_rfl) (by kernel_rfl) (fun _ _ _ h => h) (yields (by rfl) (fun w => by kernel_rfl)) hS ?_
               simp only [Act.put, List.setIfInBounds_toArray, List.set_cons_zero, List.set_cons_succ]
               refine takeAt 2 27 (.int .i64 (k : Int)) rfl rfl (by kernel_rfl) (by kernel_rfl) (by kernel_rfl) (fun _ _ _ h => h) (dec_y k hk9 rfl rfl rfl (by rfl)) hS ?_
               simp only [Act.put, List.setIfInBounds_toArray, List.set_cons_zero, List.set_cons_succ]
               refine takeAt 3 28 (.pointer (some ⟨w.heap.size, 9, none⟩)) rfl rfl (by kernel_rfl) (by kernel_rfl) (by kernel_rfl) (fun _ _ _ h => h) (yields (by rfl) (fun w => by kernel_rfl)) hS ?_
               simp only [Act.put, List.setIfInBounds_toArray, List.set_cons_zero, List.set_cons_succ]
               refine takeAt 4 29 (.pointer (some ⟨w.heap.size, 9 + k * 2, none⟩)) rfl rfl (by kernel_rfl) (by kernel_rfl) (by kernel_rfl) (fun _ _ _ h => h) (idxAt_y w.heap.size 9 k hk9 rfl rfl rfl (by rfl)) hS ?_
               simp only [Act.put, List.setIfInBounds_toArray, List.set_cons_zero, List.set_cons_succ]
               refine takeAt 5 30 (.pointer (some ⟨w.heap.size, 9 + k * 2, none⟩)) rfl rfl (by kernel_rfl) (by kernel_rfl) (by kernel_rfl) (fun _ _ _ h => h) (yields (by rfl) (fun w => by kernel_rfl)) hS ?_
               simp only [Act.put, List.setIfInBounds_toArray, List.set_cons_zero, List.set_cons_succ]
               refine takeAt 6 31 (.int .i64 p) rfl rfl (by kernel_rfl) (by kernel_rfl) (by kernel_rfl) (fun _ _ _ h => h) (loadInt_y w.heap.size (9 + k * 2) p (fun u hu => HFR.out u hu) rfl rfl (by rfl)) hS ?_
               simp only [Act.put, List.setIfInBounds_toArray, List.set_cons_zero, List.set_cons_succ]
               refine takeAt 9 34 (.int .i64 ((k : Int) + 1)) rfl rfl (by kernel_rfl) (by kernel_rfl) (by kernel_rfl) (fun _ _ _ h => h) (yields (by rfl) (fun w => by kernel_rfl)) hS ?_
               simp only [Act.put, List.setIfInBounds_toArray, List.set_cons_zero, List.set_cons_succ]
               refine takeAt 10 35 (.int .i64 (k : Int)) rfl rfl (by kernel_rfl) (by kernel_rfl) (by kernel_rfl) (fun _ _ _ h => h) (dec_y k hk9 rfl rfl rfl (by rfl)) hS ?_
               simp only [Act.put, List.setIfInBounds_toArray, List.set_cons_zero, List.set_cons_succ]
               refine takeAt 11 36 (.pointer (some ⟨w.heap.size, 9, none⟩)) rfl rfl (by kernel_rfl) (by kernel_rfl) (by kernel_rfl) (fun _ _ _ h => h) (yields (by rfl) (fun w => by kernel_rfl)) hS ?_
               simp only [Act.put, List.setIfInBounds_toArray, List.set_cons_zero, List.set_cons_succ]
               refine takeAt 12 37 (.pointer (some ⟨w.heap.size, 9 + k * 2, none⟩)) rfl rfl (by kernel_rfl) (by kernel_rfl) (by kernel_rfl) (fun _ _ _ h => h) (idxAt_y w.heap.size 9 k hk9 rfl rfl rfl (by rfl)) hS ?_
               simp only [Act.put, List.setIfInBounds_toArray, List.set_cons_zero, List.set_cons_succ]
               refine takeAt 13 38 (.pointer (some ⟨w.heap.size, 9 + k * 2 + 1, none⟩)) rfl rfl (by kernel_rfl) (by kernel_rfl) (by kernel_rfl) (fun _ _ _ h => h) (yields (by rfl) (fun w => by kernel_rfl)) hS ?_
               simp only [Act.put, List.setIfInBounds_toArray, List.set_cons_zero, List.set_cons_succ]
               refine takeAt 14 39 (.int .i64 q) rfl rfl (by kernel_rfl) (by kernel_rfl) (by kernel_rfl) (fun _ _ _ h => h) (loadInt_y w.heap.size (9 + k * 2 + 1) q (fun u hu => HTO.out u hu) rfl rfl (by rfl)) hS ?_
               simp only [Act.put, List.setIfInBounds_toArray, List.set_cons_zero, List.set_cons_succ]
               refine callAt 7 32 rfl rfl (by kernel_rfl) (by rfl) (by kernel_rfl) (HI.out _) ?_
               rintro e v1 ⟨rfl, hb⟩
               have hS := hS.call hb
               clear hb
               refine ⟨_, rfl, hS, ?_⟩
               simp only [Act.put, List.setIfInBounds_toArray, List.set_cons_zero, List.set_cons_succ]
               refine takeAt 8 33 (.string (Y ++ ⟨#[45]⟩)) rfl rfl (by kernel_rfl) (by kernel_rfl) (by kernel_rfl) (fun _ _ _ h => h) (addS_y Y ⟨#[45]⟩ (by rw [show (⟨#[45]⟩ : ByteArray).size = 1 from rfl]; omega) rfl rfl rfl (by rfl)) hS ?_
               simp only [Act.put, List.setIfInBounds_toArray, List.set_cons_zero, List.set_cons_succ]
               refine callAt 15 40 rfl rfl (by kernel_rfl) (by rfl) (by kernel_rfl) (HJ.out _) ?_
               rintro e v2 ⟨rfl, hb⟩
               have hS := hS.call hb
               clear hb
               refine ⟨_, rfl, hS, ?_⟩
               simp only [Act.put, List.setIfInBounds_toArray, List.set_cons_zero, List.set_cons_succ]
               refine takeAt 16 41 (.string (Y ++ ⟨#[45]⟩ ++ Z)) rfl rfl (by kernel_rfl) (by kernel_rfl) (by kernel_rfl) (fun _ _ _ h => h) (addS_y (Y ++ ⟨#[45]⟩) Z (by rw [ByteArray.size_append, show (⟨#[45]⟩ : ByteArray).size = 1 from rfl]; omega) rfl rfl rfl (by rfl)) hS ?_
               simp only [Act.put, List.setIfInBounds_toArray, List.set_cons_zero, List.set_cons_succ]
               refine takeAt 17 42 (.string (X ++ (Y ++ ⟨#[45]⟩ ++ Z))) rfl rfl (by kernel_rfl) (by kernel_rfl) (by kernel_rfl) (fun _ _ _ h => h) (addS_y (X) (Y ++ ⟨#[45]⟩ ++ Z) (by simp only [ByteArray.size_append, show (⟨#[45]⟩ : ByteArray).size = 1 from rfl]; omega) rfl rfl rfl (by rfl)) hS ?_
               simp only [Act.put, List.setIfInBounds_toArray, List.set_cons_zero, List.set_cons_succ]
               refine takeAt 18 5 (.string (X ++ (Y ++ ⟨#[45]⟩ ++ Z))) rfl rfl (by kernel_rfl) (by kernel_rfl) (by kernel_rfl) (fun _ _ _ h => h) (yields (by rfl) (fun w => by kernel_rfl)) hS ?_
               simp only [Act.put, List.setIfInBounds_toArray, List.set_cons_zero, List.set_cons_succ]
               refine wpAnyH_done (by kernel_rfl) ?_ _
               have HS2 := Lib.hid hS
               clear hS
               go_wp2_with fail
               go_roundw
               case rel => exact ⟨k + 1, by omega, by go_num, by rw [HNX.out, HP.out], HS2⟩
               case measure => simp [intOf]; omega
           · have hk1 : 1 < (k : Int) + 1 := by omega
             rw [if_neg hk0] at HNX
             clear hk0
             generalize showS c k = X at HSS HNX ⊢
             have s1 : ¬ X.size + 1 > 9223372036854775807 := by omega
             cases hi : c.is k with
             | false =>
               rw [hi] at hci
               have HP := Lib.hid (show partS c k = ⟨#[63]⟩ by unfold partS; rw [hi]; rfl)
               have s2 : ¬ X.size + 1 + 1 > 9223372036854775807 := by omega
               clear hi HSS
               go_wp2_with fail
               go_roundw
               case rel => exact ⟨k + 1, by omega, by go_num, by rw [HNX.out, HP.out], HB⟩
               case measure => simp [intOf]; omega
             | true =>
               rw [hi] at hci
               obtain ⟨f1, f2⟩ := HC.out k hk9
               have HP := Lib.hid (show partS c k = itS (c.fr k) ++ ⟨#[45]⟩ ++ itS (c.to k) by unfold partS; rw [hi]; rfl)
               have HI := Lib.hid (number_one (c.fr k) f1)
               have HJ := Lib.hid (number_one (c.to k) f2)
               have z1 := itS_size _ f1
               have z2 := itS_size _ f2
               have HFR := Lib.hid (fun u (hu : RBx c w u) => (by have h := hu.2.get _ (cpC_fr c k hk9); rwa [Nat.mul_comm] at h : u.cell? ⟨w.heap.size, 9 + k * 2, none⟩ = some (.int .i64 (c.fr k))))
               have HTO := Lib.hid (fun u (hu : RBx c w u) => (by have h := hu.2.get _ (cpC_to c k hk9); rwa [Nat.mul_comm] at h : u.cell? ⟨w.heap.size, 9 + k * 2 + 1, none⟩ = some (.int .i64 (c.to k))))
               generalize c.fr k = p at HP HI HFR z1
               generalize c.to k = q at HP HJ HTO z2
               generalize itS p = Y at HP HI z1
               generalize itS q = Z at HP HJ z2
               clear hi f1 f2
               go_wp2_with fail
               refine wp_region_held_drew (S := fun u => RBx c w u) (by kernel_rfl) (show _ from HB.out.call (Below.refl _ _).drew) (fun hS => ?_)
               generalize World.drew _ = v0 at hS ⊢
               refine takeAt 0 25 (.string (X ++ ⟨#[44]⟩)) rfl rfl (by kernel_rfl) (by kernel_rfl) (by kernel_rfl) (fun _ _ _ h => h) (yields (by rfl) (fun w => by kernel_rfl)) hS ?_
               simp only [Act.put, List.setIfInBounds_toArray, List.set_cons_zero, List.set_cons_succ]
               refine takeAt 1 26 (.int .i64 ((k : Int) + 1)) rfl rfl (by kernel_rfl) (by kernel_rfl) (by kernel_rfl) (fun _ _ _ h => h) (yields (by rfl) (fun w => by kernel_rfl)) hS ?_
               simp only [Act.put, List.setIfInBounds_toArray, List.set_cons_zero, List.set_cons_succ]
               refine takeAt 2 27 (.int .i64 (k : Int)) rfl rfl (by kernel_rfl) (by kernel_rfl) (by kernel_rfl) (fun _ _ _ h => h) (dec_y k hk9 rfl rfl rfl (by rfl)) hS ?_
               simp only [Act.put, List.setIfInBounds_toArray, List.set_cons_zero, List.set_cons_succ]
               refine takeAt 3 28 (.pointer (some ⟨w.heap.size, 9, none⟩)) rfl rfl (by kernel_rfl) (by kernel_rfl) (by kernel_rfl) (fun _ _ _ h => h) (yields (by rfl) (fun w => by kernel_rfl)) hS ?_
               simp only [Act.put, List.setIfInBounds_toArray, List.set_cons_zero, List.set_cons_succ]
               refine takeAt 4 29 (.pointer (some ⟨w.heap.size, 9 + k * 2, none⟩)) rfl rfl (by kernel_rfl) (by kernel_rfl) (by kernel_rfl) (fun _ _ _ h => h) (idxAt_y w.heap.size 9 k hk9 rfl rfl rfl (by rfl)) hS ?_
               simp only [Act.put, List.setIfInBounds_toArray, List.set_cons_zero, List.set_cons_succ]
               refine takeAt 5 30 (.pointer (some ⟨w.heap.size, 9 + k * 2, none⟩)) rfl rfl (by kernel_rfl) (by kernel_rfl) (by kernel_rfl) (fun _ _ _ h => h) (yields (by rfl) (fun w => by kernel_rfl)) hS ?_
               simp only [Act.put, List.setIfInBounds_toArray, List.set_cons_zero, List.set_cons_succ]
               refine takeAt 6 31 (.int .i64 p) rfl rfl (by kernel_rfl) (by kernel_rfl) (by kernel_rfl) (fun _ _ _ h => h) (loadInt_y w.heap.size (9 + k * 2) p (fun u hu => HFR.out u hu) rfl rfl (by rfl)) hS ?_
               simp only [Act.put, List.setIfInBounds_toArray, List.set_cons_zero, List.set_cons_succ]
               refine takeAt 9 34 (.int .i64 ((k : Int) + 1)) rfl rfl (by kernel_rfl) (by kernel_rfl) (by kernel_rfl) (fun _ _ _ h => h) (yields (by rfl) (fun w => by kernel_rfl)) hS ?_
               simp only [Act.put, List.setIfInBounds_toArray, List.set_cons_zero, List.set_cons_succ]
               refine takeAt 10 35 (.int .i64 (k : Int)) rfl rfl (by kernel_rfl) (by kernel_rfl) (by kernel_rfl) (fun _ _ _ h => h) (dec_y k hk9 rfl rfl rfl (by rfl)) hS ?_
               simp only [Act.put, List.setIfInBounds_toArray, List.set_cons_zero, List.set_cons_succ]
               refine takeAt 11 36 (.pointer (some ⟨w.heap.size, 9, none⟩)) rfl rfl (by kernel_rfl) (by kernel_rfl) (by kernel_rfl) (fun _ _ _ h => h) (yields (by rfl) (fun w => by kernel_rfl)) hS ?_
               simp only [Act.put, List.setIfInBounds_toArray, List.set_cons_zero, List.set_cons_succ]
               refine takeAt 12 37 (.pointer (some ⟨w.heap.size, 9 + k * 2, none⟩)) rfl rfl (by kernel_rfl) (by kernel_rfl) (by kernel_rfl) (fun _ _ _ h => h) (idxAt_y w.heap.size 9 k hk9 rfl rfl rfl (by rfl)) hS ?_
               simp only [Act.put, List.setIfInBounds_toArray, List.set_cons_zero, List.set_cons_succ]
               refine takeAt 13 38 (.pointer (some ⟨w.heap.size, 9 + k * 2 + 1, none⟩)) rfl rfl (by kernel_rfl) (by kernel_rfl) (by kernel_rfl) (fun _ _ _ h => h) (yields (by rfl) (fun w => by kernel_rfl)) hS ?_
               simp only [Act.put, List.setIfInBounds_toArray, List.set_cons_zero, List.set_cons_succ]
               refine takeAt 14 39 (.int .i64 q) rfl rfl (by kernel_rfl) (by kernel_rfl) (by kernel_rfl) (fun _ _ _ h => h) (loadInt_y w.heap.size (9 + k * 2 + 1) q (fun u hu => HTO.out u hu) rfl rfl (by rfl)) hS ?_
               simp only [Act.put, List.setIfInBounds_toArray, List.set_cons_zero, List.set_cons_succ]
               refine callAt 7 32 rfl rfl (by kernel_rfl) (by rfl) (by kernel_rfl) (HI.out _) ?_
               rintro e v1 ⟨rfl, hb⟩
               have hS := hS.call hb
               clear hb
               refine ⟨_, rfl, hS, ?_⟩
               simp only [Act.put, List.setIfInBounds_toArray, List.set_cons_zero, List.set_cons_succ]
               refine takeAt 8 33 (.string (Y ++ ⟨#[45]⟩)) rfl rfl (by kernel_rfl) (by kernel_rfl) (by kernel_rfl) (fun _ _ _ h => h) (addS_y Y ⟨#[45]⟩ (by rw [show (⟨#[45]⟩ : ByteArray).size = 1 from rfl]; omega) rfl rfl rfl (by rfl)) hS ?_
               simp only [Act.put, List.setIfInBounds_toArray, List.set_cons_zero, List.set_cons_succ]
               refine callAt 15 40 rfl rfl (by kernel_rfl) (by rfl) (by kernel_rfl) (HJ.out _) ?_
               rintro e v2 ⟨rfl, hb⟩
               have hS := hS.call hb
               clear hb
               refine ⟨_, rfl, hS, ?_⟩
               simp only [Act.put, List.setIfInBounds_toArray, List.set_cons_zero, List.set_cons_succ]
               refine takeAt 16 41 (.string (Y ++ ⟨#[45]⟩ ++ Z)) rfl rfl (by kernel_rfl) (by kernel_rfl) (by kernel_rfl) (fun _ _ _ h => h) (addS_y (Y ++ ⟨#[45]⟩) Z (by rw [ByteArray.size_append, show (⟨#[45]⟩ : ByteArray).size = 1 from rfl]; omega) rfl rfl rfl (by rfl)) hS ?_
               simp only [Act.put, List.setIfInBounds_toArray, List.set_cons_zero, List.set_cons_succ]
               refine takeAt 17 42 (.string (X ++ ⟨#[44]⟩ ++ (Y ++ ⟨#[45]⟩ ++ Z))) rfl rfl (by kernel_rfl) (by kernel_rfl) (by kernel_rfl) (fun _ _ _ h => h) (addS_y (X ++ ⟨#[44]⟩) (Y ++ ⟨#[45]⟩ ++ Z) (by simp only [ByteArray.size_append, show (⟨#[44]⟩ : ByteArray).size = 1 from rfl, show (⟨#[45]⟩ : ByteArray).size = 1 from rfl]; omega) rfl rfl rfl (by rfl)) hS ?_
               simp only [Act.put, List.setIfInBounds_toArray, List.set_cons_zero, List.set_cons_succ]
               refine takeAt 18 5 (.string (X ++ ⟨#[44]⟩ ++ (Y ++ ⟨#[45]⟩ ++ Z))) rfl rfl (by kernel_rfl) (by kernel_rfl) (by kernel_rfl) (fun _ _ _ h => h) (yields (by rfl) (fun w => by kernel_rfl)) hS ?_
               simp only [Act.put, List.setIfInBounds_toArray, List.set_cons_zero, List.set_cons_succ]
               refine wpAnyH_done (by kernel_rfl) ?_ _
               have HS2 := Lib.hid hS
               clear hS
               go_wp2_with fail
               go_roundw
               case rel => exact ⟨k + 1, by omega, by go_num, by rw [HNX.out, HP.out], HS2⟩
               case measure => simp [intOf]; omega)
      · have hke : k = m := by omega
        subst hke
        go_wp2_with fail
        go_ret
        exact ⟨rfl, HB.out.1⟩
end Go.Proofs.YtnapbmdbeihngaaDoor
