/-
  What the statements' own calls on sets of 256 bools do: Fold, Of.
-/
import Derived.Test.YtobhhhopkkcdiaaDoorRefB
namespace Go.Proofs.YtobhhhopkkcdiaaDoor
open Go.RowKit

theorem foldTo_setB (S : BitVec 256) (i : Nat) (hi : i < 26) (b : Bool) (hb : (mem S (65 + i) || mem S (97 + i)) = b) : setB (setB (foldTo S i) (65 + i) b) (97 + i) b = foldTo S (i + 1) := by
  subst hb
  apply ext_bit
  intro n hn
  rw [setB_bit _ _ _ _ hn, setB_bit _ _ _ _ hn, foldTo_bit S i (by omega), foldTo_bit S (i + 1) (by omega)]
  have hs1 : swap (97 + i) = 65 + i := by unfold swap; rw [if_pos (by omega)]; omega
  have hs2 : swap (65 + i) = 97 + i := by unfold swap; rw [if_neg (by omega), if_pos (by omega)]; omega
  by_cases e1 : n = 97 + i
  · subst e1
    have d : decide (97 + i < 97 + (i + 1)) = true := by simp
    rw [if_pos rfl, hs1, d]
    simp [mem, Bool.or_comm]
  · by_cases e2 : n = 65 + i
    · subst e2
      have d : decide (65 + i < 65 + (i + 1)) = true := by simp
      rw [if_neg e1, if_pos rfl, hs2, d]
      simp [mem]
    · rw [if_neg e1, if_neg e2]
      have d1 : decide (n < 97 + (i + 1)) = decide (n < 97 + i) := decide_eq_decide.2 (by omega)
      have d2 : decide (n < 65 + (i + 1)) = decide (n < 65 + i) := decide_eq_decide.2 (by omega)
      rw [d1, d2]

set_option maxHeartbeats 1000000 in
set_option maxRecDepth 100000 in
theorem rfold_any (S : BitVec 256) (w : World) :
    Calls Tryd.prog 27 #[.agg (bitsA S)] w fun e w' => e = .returned (.agg (bitsA (foldS S))) ∧ Below w.heap.size w w' := by
  go_enter Tryd.func27, Tryd.ntmps27
  have a1 : BoxA ((w.alloc (.cells (bitsA S) 28)).alloc (.cells (bitsA 0#256) 28)) w.heap.size S := (BoxA.new w S).alloc _
  have a2 : BoxA (((w.alloc (.cells (bitsA S) 28)).alloc (.cells (bitsA 0#256) 28)).alloc (.cells (bitsA 0#256) 28)) (w.heap.size + 2) 0#256 := by
    have h := BoxA.new ((w.alloc (.cells (bitsA S) 28)).alloc (.cells (bitsA 0#256) 28)) 0#256
    simpa using h
  have A1 := Lib.hid a1
  have A2 := Lib.hid a2
  clear a1 a2
  go_wp2_with (first | (refine loadA rfl _ rfl w.heap.size S rfl A1.out ?_) | (refine storeA rfl _ _ rfl (w.heap.size + 2) _ _ rfl rfl A2.out ?_))
  have H1 := Lib.hid (A2.out.rowSame S)
  have H2 := Lib.hid (BoxA.row (k := w.heap.size + 2) (A1.out.alloc (.cells (bitsA 0#256) 28)) (bitsA S) (by omega))
  have H3 := Lib.hid (BoxA.row (k := w.heap.size + 2) (BoxA.alloc (S := 0#256) (heap_alloc2_new w (.cells (bitsA S) 28) (.cells (bitsA 0#256) 28)) (.cells (bitsA 0#256) 28)) (bitsA S) (by omega))
  have H4 : Hid (Below w.heap.size w ((((w.alloc (.cells (bitsA S) 28)).alloc (.cells (bitsA 0#256) 28)).alloc (.cells (bitsA 0#256) 28)).setRow (w.heap.size + 2) (bitsA S))) := below_row (by go_grown) (by omega) _
  clear A1 A2
  go_loopw [4] (fun v wr => ∃ k : Nat, v = .int .i64 k ∧ k ≤ 26 ∧ BoxA wr w.heap.size S ∧ BoxA wr (w.heap.size + 1) 0#256 ∧ BoxA wr (w.heap.size + 2) (foldTo S k) ∧ Below w.heap.size w wr) (fun v _ => 26 - (intOf v).toNat)
  case atStart => exact ⟨0, rfl, by omega, H2.out, H3.out, H1.out, H4.out⟩
  case round =>
    obtain ⟨k, rfl, hk, hs, hz, hf, hbel⟩ := hrel
    have HS := Lib.hid hs
    have HZ := Lib.hid hz
    have HF := Lib.hid hf
    have HB := Lib.hid hbel
    by_cases hlt : k < 26
    · have l1 : 65 + k < 256 := by omega
      have l2 : 97 + k < 256 := by omega
      have c1 := hs.cell (65 + k) l1
      have c2 := hs.cell (97 + k) l2
      have c3 := hf.cell (65 + k) l1
      have c4 := hf.cell (97 + k) l2
      have f1 := hf.free (65 + k)
      have f2 := hf.free (97 + k)
      have b1 : decide ((k : Int) < 26) = true := by simp; omega
      have k0 : (0 : Int) ≤ k := by omega
      have t1 : ((65 : Int) + k).toNat = 65 + k := by omega
      have t2 : ((97 : Int) + k).toNat = 97 + k := by omega
      clear hs hz hf hbel
      cases h1 : mem S (65 + k)
      · cases h2 : mem S (97 + k)
        all_goals
          rw [h1] at c1
          rw [h2] at c2
          have HE := Lib.hid (foldTo_setB S k hlt _ (by rw [h1, h2]))
          clear h1 h2
          go_wp2
          go_roundw
          case rel => exact ⟨k + 1, by go_num, by omega, (HS.out.other _ (by simp <;> omega)).other _ (by simp <;> omega), (HZ.out.other _ (by simp <;> omega)).other _ (by simp <;> omega), by rw [← HE.out]; exact (HF.out.set _ _ l1).set _ _ l2, (HB.out.setCell (by simp <;> omega) _).setCell (by simp <;> omega) _⟩
          case measure => simp [intOf]; omega
      · rw [h1] at c1
        have HE := Lib.hid (foldTo_setB S k hlt true (by rw [h1]; rfl))
        clear h1
        go_wp2
        go_roundw
        case rel => exact ⟨k + 1, by go_num, by omega, (HS.out.other _ (by simp <;> omega)).other _ (by simp <;> omega), (HZ.out.other _ (by simp <;> omega)).other _ (by simp <;> omega), by rw [← HE.out]; exact (HF.out.set _ _ l1).set _ _ l2, (HB.out.setCell (by simp <;> omega) _).setCell (by simp <;> omega) _⟩
        case measure => simp [intOf]; omega
    · obtain rfl : k = 26 := by omega
      clear hs hz hf hbel
      go_wp2_with (first | (refine loadA rfl _ rfl (w.heap.size + 2) _ rfl HF.out ?_) | (refine storeA rfl _ _ rfl (w.heap.size + 1) _ _ rfl rfl HZ.out ?_))
      exact bodyPost_ret (BoxA.results rfl _ (g := w.heap.size + 1) rfl (HZ.out.rowSame _)) rfl ⟨rfl, below_row HB.out (by omega) _⟩
end Go.Proofs.YtobhhhopkkcdiaaDoor
