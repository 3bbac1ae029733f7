/-
  What the statement's own Ranges does: the runs of 256 bools.
-/
import Derived.Test.YtfejdengpnikeaaGreatDoorRefM
namespace Go.Proofs.YtfejdengpnikeaaGreatDoor
open Go.RowKit

theorem starts_true (S : BitVec 256) (k : Nat) (h0 : mem S k = true) (hk : k = 0 ∨ mem S (k - 1) = false) : starts S k = true := by
  unfold starts
  have h1 : S.getLsbD k = true := h0
  rcases hk with rfl | hk
  · rw [h1]; rfl
  · have h2 : S.getLsbD (k - 1) = false := hk
    rw [h1, h2]; simp
theorem runsTo_start (S : BitVec 256) (k j : Nat) (hs : starts S k = true) (he : endOf S k = j) : runsTo S (k + 1) = runsTo S k ++ [(k, j)] := by simp [runsTo, hs, he]
theorem runsTo_skip (S : BitVec 256) (k : Nat) (hs : starts S k = false) : runsTo S (k + 1) = runsTo S k := by simp [runsTo, hs]
theorem BoxA.grown {w w' : World} {g base n : Nat} {S : BitVec 256} {v : Value} {xs : List Value} (h : BoxA w g S) (hown : w.ownsRow base 76 2 v n xs) (hg : w.grownBy w' v.ownBlock) : BoxA w' g S := (hg.block g h.lt (own_ne hown h (by decide))).trans h

set_option maxHeartbeats 4000000 in
set_option maxRecDepth 100000 in
theorem rranges_any (S : BitVec 256) (w : World) : Calls Tryz.prog 30 #[.agg (bitsA S)] w (GotRuns w S) := by
  obtain ⟨i0, hi, hz0, hz1, hz2⟩ := info_parts infoPair
  go_enter Tryz.func30, Tryz.ntmps30
  go_wp2
  go_loopw [3, 4] (fun v u wr => ∃ k : Nat, u = .int .i64 k ∧ k ≤ 256 ∧ wr.ownsRow (w.heap.size + 1) 76 2 v (runsTo S k).length (runCells (runsTo S k)) ∧ BoxA wr w.heap.size S ∧ Below w.heap.size w wr) (fun _ u _ => 256 - (intOf u).toNat)
  case atStart =>
    refine ⟨0, rfl, by omega, ⟨rfl, Or.inr ⟨w.heap.size + 1, 0, #[], rfl, Nat.le_refl _, heap_alloc2_new _ _ _, Nat.le_refl _, Nat.zero_le _, rfl, rfl⟩⟩, (BoxA.new w S).alloc _, by go_grown⟩
  case round =>
    obtain ⟨k, rfl, hk, hown, hs, hbel⟩ := hrel
    obtain ⟨ao, n', c', rfl⟩ := own_slice hown
    have HO := Lib.hid hown
    have HS := Lib.hid hs
    have HB := Lib.hid hbel
    by_cases hlt : k < 256
    · have k0 : (0 : Int) ≤ k := by omega
      have b1 : decide ((k : Int) < 256) = true := by simp; omega
      have hc := hs.cell k hlt
      cases h0 : mem S k
      · rw [h0] at hc
        have HN := Lib.hid (runsTo_skip S k (by unfold starts; rw [show S.getLsbD k = false from h0]; rfl))
        clear hown hs hbel h0
        go_wp2
        go_roundw
        case rel => exact ⟨k + 1, by go_num, by omega, by rw [HN.out]; exact HO.out, HS.out, HB.out⟩
        case measure => simp [intOf]; omega
      · rw [h0] at hc
        by_cases hst : k = 0 ∨ mem S (k - 1) = false
        · have HST := Lib.hid (starts_true S k h0 hst)
          have hdec : ((k : Int) == 0) = true ∨ (((k : Int) == 0) = false ∧ ((k : Int) - 1).toNat = k - 1 ∧ (0 : Int) ≤ (k : Int) - 1 ∧ wr.cell? ⟨w.heap.size, k - 1, none⟩ = some (.bool false)) := by
            by_cases hz : k = 0
            · left; simp; omega
            · right
              refine ⟨by simp; omega, by omega, by omega, ?_⟩
              have := hs.cell (k - 1) (by omega)
              rcases hst with h | h
              · omega
              · rw [h] at this; exact this
          clear hown hs hbel h0 hst
          rcases hdec with hd | ⟨hd, t1, t2, hc2⟩
          all_goals
            go_wp2_with fail
            obtain ⟨wo, rfl⟩ : ∃ wo : World, wo = wr := ⟨_, rfl⟩
            go_loop [5] (fun v => ∃ j : Nat, v = .int .i64 j ∧ k ≤ j ∧ j ≤ 255 ∧ ∀ m, k < m → m ≤ j → S.getLsbD m = true) (fun v => 256 - (intOf v).toNat)
            case atStart => exact ⟨k, rfl, Nat.le_refl _, by omega, fun m a b => by omega⟩
            case round =>
              obtain ⟨j, rfl, hkj, hj, hall⟩ := hrel
              have HA := Lib.hid hall
              clear hall
              have j0 : (0 : Int) ≤ j := by omega
              by_cases hj2 : j < 255
              · have b2 : decide ((j : Int) < 255) = true := by simp; omega
                have hcj := HS.out.cell (j + 1) (by omega)
                have tj : ((j : Int) + 1).toNat = j + 1 := by omega
                cases hm : mem S (j + 1)
                · rw [hm] at hcj
                  have HE := Lib.hid (runsTo_start S k j HST.out (endOf_eq S k j hkj hj HA.out (fun _ => hm)))
                  clear hm
                  go_wp2_with (at_builtin; refine wpList_append_own _ rfl _ _ 74 rfl (w.heap.size + 1) 76 i0 (.agg #[.int .u8 0, .int .u8 0]) 2 2 Tryz.underlying74 hi hz0 hz1 hz2 rfl (by decide) _ _ _ rfl (HO.out.alloc _) ⟨wo.heap.size, 0, none⟩ 1 1 [.int .u8 k, .int .u8 j] rfl rfl ?_ ?_ ?_ ?_ ?_ ?_)
                  · exact ⟨rfl, rfl⟩
                  · have := runsTo_length S k; unfold maxLen; omega
                  · have := runsTo_length S k; omega
                  · exact HB.out.size
                  · intro v' w1 hown' hgrow _
                    obtain ⟨ao2, n2, c2, rfl⟩ := own_slice hown'
                    have HO1 := Lib.hid hown'
                    have HS1 := Lib.hid ((HS.out.alloc (.cells #[.int .u8 k, .int .u8 j] 76)).grown (HO.out.alloc _) hgrow)
                    have HB1 := Lib.hid ((HB.out.alloc HB.out.size (.cells #[.int .u8 k, .int .u8 j] 76)).grown hgrow (by have := HB.out.size; simp; omega) (fun r hr => by have := (own_base HO.out r hr).1; omega))
                    clear hown' hgrow
                    go_wp2
                    go_roundw
                    case rel => exact ⟨k + 1, by go_num, by omega, by rw [HE.out, runCells_snoc, List.length_append]; exact HO1.out, HS1.out, HB1.out⟩
                    case measure => simp [intOf]; omega
                · rw [hm] at hcj
                  have HM := Lib.hid hm
                  clear hm
                  go_wp2
                  go_round
                  case rel => exact ⟨j + 1, by go_num, by omega, by omega, fun m a b => (by by_cases e : m = j + 1; rw [e]; exact HM.out; exact HA.out m a (by omega))⟩
                  case measure => simp [intOf]; omega
              · obtain rfl : j = 255 := by omega
                have HE := Lib.hid (runsTo_start S k 255 HST.out (endOf_eq S k 255 hkj hj HA.out (fun h => by omega)))
                go_wp2_with (at_builtin; refine wpList_append_own _ rfl _ _ 74 rfl (w.heap.size + 1) 76 i0 (.agg #[.int .u8 0, .int .u8 0]) 2 2 Tryz.underlying74 hi hz0 hz1 hz2 rfl (by decide) _ _ _ rfl (HO.out.alloc _) ⟨wo.heap.size, 0, none⟩ 1 1 [.int .u8 k, .int .u8 255] rfl rfl ?_ ?_ ?_ ?_ ?_ ?_)
                · exact ⟨rfl, rfl⟩
                · have := runsTo_length S k; unfold maxLen; omega
                · have := runsTo_length S k; omega
                · exact HB.out.size
                · intro v' w1 hown' hgrow _
                  obtain ⟨ao2, n2, c2, rfl⟩ := own_slice hown'
                  have HO1 := Lib.hid hown'
                  have HS1 := Lib.hid ((HS.out.alloc (.cells #[.int .u8 k, .int .u8 255] 76)).grown (HO.out.alloc _) hgrow)
                  have HB1 := Lib.hid ((HB.out.alloc HB.out.size (.cells #[.int .u8 k, .int .u8 255] 76)).grown hgrow (by have := HB.out.size; simp; omega) (fun r hr => by have := (own_base HO.out r hr).1; omega))
                  clear hown' hgrow
                  go_wp2
                  go_roundw
                  case rel => exact ⟨k + 1, by go_num, by omega, by rw [HE.out, runCells_snoc, List.length_append]; exact HO1.out, HS1.out, HB1.out⟩
                  case measure => simp [intOf]; omega
        · have HN := Lib.hid (runsTo_skip S k (by
            unfold starts
            have h1 : ¬ k = 0 := fun e => hst (Or.inl e)
            have h2 : S.getLsbD (k - 1) = true := by
              cases h : S.getLsbD (k - 1)
              · exact absurd (Or.inr h) hst
              · rfl
            rw [decide_eq_false h1, h2]; simp))
          have hz : ¬ k = 0 := fun e => hst (Or.inl e)
          have hd : ((k : Int) == 0) = false := by simp; omega
          have t1 : ((k : Int) - 1).toNat = k - 1 := by omega
          have t2 : (0 : Int) ≤ (k : Int) - 1 := by omega
          have hc2 := hs.cell (k - 1) (by omega)
          have hm1 : mem S (k - 1) = true := by
            cases h : mem S (k - 1)
            · exact absurd (Or.inr h) hst
            · rfl
          rw [hm1] at hc2
          clear hown hs hbel h0 hst hm1 hz
          go_wp2
          go_roundw
          case rel => exact ⟨k + 1, by go_num, by omega, by rw [HN.out]; exact HO.out, HS.out, HB.out⟩
          case measure => simp [intOf]; omega
    · obtain rfl : k = 256 := by omega
      clear hown hs hbel
      go_wp2
      go_ret
      exact ⟨_, rfl, Reads.of_own HO.out, HB.out⟩
end Go.Proofs.YtfejdengpnikeaaGreatDoor
