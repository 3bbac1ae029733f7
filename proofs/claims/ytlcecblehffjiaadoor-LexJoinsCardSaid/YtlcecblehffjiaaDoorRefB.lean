/-
  What the statements' own calls on sets of 256 bools do: Range, Text, Len, Min.
-/
import Derived.Test.YtlcecblehffjiaaDoorRefA
import Derived.Test.YtlcecblehffjiaaDoorClassE
namespace Go.Proofs.YtlcecblehffjiaaDoor
open Go.RowKit

@[go_sem high] theorem build256 (w : World) : (Instr.build 68 #[]).run Tryd.prog w = .ok (.agg (bitsA 0#256)) w := by kernel_rfl

set_option maxHeartbeats 1000000 in
set_option maxRecDepth 100000 in
theorem rrange_any (x y : Nat) (w : World) (hx : x < 256) (hy : y < 256) :
    Calls Tryd.prog 35 #[.int .u8 (x : Int), .int .u8 (y : Int)] w fun e w' => e = .returned (.agg (bitsA (span x (y + 1)))) ∧ Below w.heap.size w w' := by
  have hq : span x (y + 1) = ofPred (fun n => decide (x ≤ n) && decide (n < y + 1)) := rfl
  rw [hq]
  generalize hp : (fun n => decide (x ≤ n) && decide (n < y + 1)) = p
  have HP := Lib.hid hp
  clear hp hq
  go_enter Tryd.func35, Tryd.ntmps35
  go_wp2_with (refine storeA rfl _ _ rfl (w.heap.size + 1) _ _ rfl rfl (heap_alloc2_new _ _ _) ?_)
  have h1 : BoxA (((w.alloc (.cells (bitsA 0#256) 68)).alloc (.cells (bitsA 0#256) 68)).setRow (w.heap.size + 1) (bitsA 0#256)) (w.heap.size + 1) 0#256 := BoxA.rowSame (S := 0#256) (heap_alloc2_new _ _ _) _
  have h2 : BoxA (((w.alloc (.cells (bitsA 0#256) 68)).alloc (.cells (bitsA 0#256) 68)).setRow (w.heap.size + 1) (bitsA 0#256)) w.heap.size 0#256 := BoxA.row (heap_alloc2_old _ _ _) _ (by omega)
  have h3 : Below w.heap.size w (((w.alloc (.cells (bitsA 0#256) 68)).alloc (.cells (bitsA 0#256) 68)).setRow (w.heap.size + 1) (bitsA 0#256)) := below_row (by go_grown) (by omega) _
  have H1 := Lib.hid h1
  have H2 := Lib.hid h2
  have H3 := Lib.hid h3
  clear h1 h2 h3
  go_loopw [6] (fun v wr => ∃ k : Nat, v = .int .i64 k ∧ k ≤ 256 ∧ BoxA wr (w.heap.size + 1) (mixTo p 0#256 k) ∧ BoxA wr w.heap.size 0#256 ∧ Below w.heap.size w wr) (fun v _ => 256 - (intOf v).toNat)
  case atStart => exact ⟨0, rfl, by omega, by rw [mixTo_zero]; exact H1.out, H2.out, H3.out⟩
  case round =>
    obtain ⟨k, rfl, hk, hs, hz, hbel⟩ := hrel
    have HS := Lib.hid hs
    have HZ := Lib.hid hz
    have HB := Lib.hid hbel
    by_cases hlt : k < 256
    · have hc := hs.cell k hlt
      have hf := hs.free k
      have b1 : decide ((k : Int) < 256) = true := by simp; omega
      have k0 : (0 : Int) ≤ k := by omega
      clear hs hz hbel
      have HK := Lib.hid (show p k = (decide (x ≤ k) && decide (k < y + 1)) from (congrFun HP.out k).symm)
      by_cases h1 : x ≤ k
      · by_cases h2 : k ≤ y
        · have d1 : decide ((x : Int) ≤ (k : Int)) = true := by simp; omega
          have d2 : decide ((k : Int) ≤ (y : Int)) = true := by simp; omega
          go_wp2
          go_roundw
          case rel => exact ⟨k + 1, by go_num, by omega, by rw [← mixTo_step, HK.out, show (decide (x ≤ k) && decide (k < y + 1)) = true by simp; omega]; exact HS.out.set k _ hlt, HZ.out.other _ (by simp), HB.out.setCell (by simp) _⟩
          case measure => simp [intOf]; omega
        · have d1 : decide ((x : Int) ≤ (k : Int)) = true := by simp; omega
          have d2 : decide ((k : Int) ≤ (y : Int)) = false := by simp; omega
          go_wp2
          go_roundw
          case rel => exact ⟨k + 1, by go_num, by omega, by rw [← mixTo_step, HK.out, show (decide (x ≤ k) && decide (k < y + 1)) = false by simp; omega]; exact HS.out.set k _ hlt, HZ.out.other _ (by simp), HB.out.setCell (by simp) _⟩
          case measure => simp [intOf]; omega
      · have d1 : decide ((x : Int) ≤ (k : Int)) = false := by simp; omega
        go_wp2
        go_roundw
        case rel => exact ⟨k + 1, by go_num, by omega, by rw [← mixTo_step, HK.out, show (decide (x ≤ k) && decide (k < y + 1)) = false by simp [h1]]; exact HS.out.set k _ hlt, HZ.out.other _ (by simp), HB.out.setCell (by simp) _⟩
        case measure => simp [intOf]; omega
    · obtain rfl : k = 256 := by omega
      clear hs hz hbel
      go_wp2_with (first | (refine loadA rfl _ rfl (w.heap.size + 1) _ rfl HS.out ?_) | (refine storeA rfl _ _ rfl w.heap.size _ _ rfl rfl HZ.out ?_))
      refine bodyPost_ret (BoxA.results rfl _ (g := w.heap.size) rfl (HZ.out.rowSame _)) rfl ⟨?_, below_row HB.out (by omega) _⟩
      rw [mixTo_all]

theorem setB_true (S : BitVec 256) (n : Nat) (hn : n < 256) : setB S n true = addB S n := by
  apply ext_bit
  intro k hk
  rw [setB_bit _ _ _ _ hk, addB_bit _ _ _ hn]
  by_cases h : k = n
  · subst h; simp
  · rw [if_neg h]; have : ¬ n = k := fun e => h e.symm
    simp [this]

set_option maxHeartbeats 1000000 in
set_option maxRecDepth 100000 in
theorem rlen_any (S : BitVec 256) (w : World) :
    Calls Tryd.prog 34 #[.agg (bitsA S)] w fun e w' => e = .returned (.int .i64 (lenS S)) ∧ Below w.heap.size w w' := by
  go_enter Tryd.func34, Tryd.ntmps34
  go_wp2
  have HN := Lib.hid (BoxA.new w S)
  go_loop [3, 4] (fun n v => ∃ k : Nat, v = .int .i64 k ∧ k ≤ 256 ∧ n = .int .i64 (cntTo S.getLsbD k : Int)) (fun _ v => 256 - (intOf v).toNat)
  case atStart => exact ⟨0, rfl, by omega, rfl⟩
  case round =>
    obtain ⟨k, rfl, hk, rfl⟩ := hrel
    by_cases hlt : k < 256
    · have hc := HN.out.cell k hlt
      have k0 : (0 : Int) ≤ k := by omega
      have n1 : (cntTo S.getLsbD k : Int) ≤ 256 := by have := cntTo_le S.getLsbD k; omega
      have b1 : decide ((k : Int) < 256) = true := by simp; omega
      cases hm : mem S k
      all_goals
        rw [hm] at hc
        have HM := Lib.hid hm
        clear hm
        go_wp2
        go_round
        case rel => exact ⟨k + 1, by go_num, by omega, by rw [cntTo, show S.getLsbD k = _ from HM.out]; simp⟩
        case measure => simp [intOf]; omega
    · obtain rfl : k = 256 := by omega
      go_wp2
      go_ret
      exact ⟨rfl, by go_grown⟩

/-- What Min answers. -/
def minV (S : BitVec 256) : Value := if S = 0#256 then .tuple #[.int .u8 0, .bool false] else .tuple #[.int .u8 ((minS S : Nat) : Int), .bool true]

set_option maxHeartbeats 1000000 in
set_option maxRecDepth 100000 in
theorem rmin_any (S : BitVec 256) (w : World) :
    Calls Tryd.prog 33 #[.agg (bitsA S)] w fun e w' => e = .returned (minV S) ∧ Below w.heap.size w w' := by
  go_enter Tryd.func33, Tryd.ntmps33
  go_wp2
  have HN := Lib.hid (BoxA.new w S)
  go_loop [4] (fun v => ∃ k : Nat, v = .int .i64 k ∧ k ≤ 256 ∧ ∀ j, j < k → S.getLsbD j = false) (fun v => 256 - (intOf v).toNat)
  case atStart => exact ⟨0, rfl, by omega, fun j hj => by omega⟩
  case round =>
    obtain ⟨k, rfl, hk, hall⟩ := hrel
    have HA := Lib.hid hall
    clear hall
    by_cases hlt : k < 256
    · have hc := HN.out.cell k hlt
      have k0 : (0 : Int) ≤ k := by omega
      have b1 : decide ((k : Int) < 256) = true := by simp; omega
      cases hm : mem S k
      · rw [hm] at hc
        have HM := Lib.hid hm
        clear hm
        go_wp2
        go_round
        case rel => exact ⟨k + 1, by go_num, by omega, fun j hj => by by_cases e : j = k; rw [e]; exact HM.out; exact HA.out j (by omega)⟩
        case measure => simp [intOf]; omega
      · rw [hm] at hc
        have HM := Lib.hid hm
        clear hm
        go_wp2
        go_ret2
        have hne : S ≠ 0#256 := by
          rintro rfl
          have := HM.out
          simp [mem] at this
        refine ⟨?_, by go_grown⟩
        rw [minV, if_neg hne, minS_eq S k hlt HM.out HA.out]
        rfl
    · obtain rfl : k = 256 := by omega
      have hz : S = 0#256 := by
        apply ext_bit
        intro n hn
        rw [HA.out n hn]; simp
      have HZ := Lib.hid hz
      clear hz
      go_wp2
      go_ret2
      refine ⟨?_, by go_grown⟩
      rw [minV, if_pos HZ.out]
      rfl
end Go.Proofs.YtlcecblehffjiaaDoor
