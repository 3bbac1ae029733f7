/-
  What the statement's own Of does: the 256 bools of four words.
-/
import Derived.Test.YtobhhhopkkcdiaaDoorRefC
namespace Go.Proofs.YtobhhhopkkcdiaaDoor
open Go.RowKit

/-- Four words in a block of the array's own type. -/
def BoxW (w : World) (g : Nat) (a b c d : Nat) : Prop := w.heap[g]? = some (.cells #[.int .u64 (a : Int), .int .u64 (b : Int), .int .u64 (c : Int), .int .u64 (d : Int)] 23 (0, 0))
theorem BoxW.cells {w : World} {g a b c d : Nat} (h : BoxW w g a b c d) : w.cell? ⟨g, 0, none⟩ = some (.int .u64 (a : Int)) ∧ w.cell? ⟨g, 1, none⟩ = some (.int .u64 (b : Int)) ∧ w.cell? ⟨g, 2, none⟩ = some (.int .u64 (c : Int)) ∧ w.cell? ⟨g, 3, none⟩ = some (.int .u64 (d : Int)) := by
  unfold BoxW at h
  refine ⟨?_, ?_, ?_, ?_⟩ <;> rw [cell_of_row w g _ _ _ _ h] <;> rfl
theorem BoxW.lt {w : World} {g a b c d : Nat} (h : BoxW w g a b c d) : g < w.heap.size := lt_of_block h
theorem BoxW.free {w : World} {g a b c d : Nat} (h : BoxW w g a b c d) (j : Nat) : w.frozen? ⟨g, j, none⟩ = false := frozen_of_row w g j _ _ h
theorem BoxW.other {w : World} {g a b c d : Nat} (h : BoxW w g a b c d) {x : Addr} (v : Value) (hg : g ≠ x.block) : BoxW (w.setCell x v) g a b c d := (heap_setCell_other w x g v hg).trans h
theorem BoxW.alloc {w : World} {g a b c d : Nat} (h : BoxW w g a b c d) (o : Obj) : BoxW (w.alloc o) g a b c d := (Below.heap_alloc _ _ _ h.lt).trans h
theorem BoxW.row {w : World} {g k a b c d : Nat} (h : BoxW w g a b c d) (cs : Array Value) (hk : g ≠ k) : BoxW (w.setRow k cs) g a b c d := (setRow_other w k g cs hk).trans h

/-- A word, shifted down. -/
def shr (S : BitVec 256) (q k : Nat) : Nat := W S q / 2 ^ k
theorem shr_zero (S : BitVec 256) (q : Nat) : shr S q 0 = W S q := by simp [shr]
theorem shr_half (S : BitVec 256) (q k : Nat) : shr S q k / 2 = shr S q (k + 1) := by unfold shr; rw [Nat.div_div_eq_div_mul, ← Nat.pow_succ]
theorem shr_wrap (S : BitVec 256) (q k : Nat) : IntKind.u64.wrap ((shr S q k : Int) / 2) = (shr S q (k + 1) : Int) := by
  rw [← shr_half, IntKind.wrap_u64]
  have h : shr S q k ≤ W S q := Nat.div_le_self _ _
  have := W_lt S q
  omega
theorem odd_word (S : BitVec 256) (i q : Nat) (hq : i / 64 = q) : (((shr S q (i % 64) : Nat) : Int) % 2 == 1) = mem S i := by
  have h := bit_W S i
  rw [hq, Nat.testBit_eq_decide_div_mod_eq] at h
  unfold mem shr
  rw [← h, Bool.eq_iff_iff]
  simp only [beq_iff_eq, decide_eq_true_eq]
  omega

set_option maxHeartbeats 2000000 in
set_option maxRecDepth 100000 in
theorem rof_any (S : BitVec 256) (w : World) :
    Calls Tryd.prog 10 #[setV S] w fun e w' => e = .returned (.agg (bitsA S)) ∧ Below w.heap.size w w' := by
  go_enter Tryd.func10, Tryd.ntmps10
  have a2 : BoxA (((w.alloc (.cells #[.int .u64 (W S 0 : Int), .int .u64 (W S 1 : Int), .int .u64 (W S 2 : Int), .int .u64 (W S 3 : Int)] 23)).alloc (.cells (bitsA 0#256) 28)).alloc (.cells (bitsA 0#256) 28)) (w.heap.size + 2) 0#256 := by
    have h := BoxA.new ((w.alloc (.cells #[.int .u64 (W S 0 : Int), .int .u64 (W S 1 : Int), .int .u64 (W S 2 : Int), .int .u64 (W S 3 : Int)] 23)).alloc (.cells (bitsA 0#256) 28)) 0#256
    simpa using h
  have A2 := Lib.hid a2
  clear a2
  go_wp2_with (refine storeA rfl _ _ rfl (w.heap.size + 2) _ _ rfl rfl A2.out ?_)
  have h0 : BoxW (w.alloc (.cells #[.int .u64 (W S 0 : Int), .int .u64 (W S 1 : Int), .int .u64 (W S 2 : Int), .int .u64 (W S 3 : Int)] 23)) w.heap.size (W S 0) (W S 1) (W S 2) (W S 3) := heap_alloc_new _ _
  have H1 := Lib.hid (A2.out.rowSame 0#256)
  have H2 := Lib.hid (BoxW.row (k := w.heap.size + 2) ((h0.alloc (.cells (bitsA 0#256) 28)).alloc (.cells (bitsA 0#256) 28)) (bitsA 0#256) (by omega))
  have H3 := Lib.hid (BoxA.row (k := w.heap.size + 2) (BoxA.alloc (S := 0#256) (heap_alloc2_new w (.cells #[.int .u64 (W S 0 : Int), .int .u64 (W S 1 : Int), .int .u64 (W S 2 : Int), .int .u64 (W S 3 : Int)] 23) (.cells (bitsA 0#256) 28)) (.cells (bitsA 0#256) 28)) (bitsA 0#256) (by omega))
  have H4 : Hid (Below w.heap.size w ((((w.alloc (.cells #[.int .u64 (W S 0 : Int), .int .u64 (W S 1 : Int), .int .u64 (W S 2 : Int), .int .u64 (W S 3 : Int)] 23)).alloc (.cells (bitsA 0#256) 28)).alloc (.cells (bitsA 0#256) 28)).setRow (w.heap.size + 2) (bitsA 0#256))) := below_row (by go_grown) (by omega) _
  clear A2 h0
  go_loopw [4] (fun v wr => ∃ i : Nat, v = .int .i64 i ∧ i ≤ 256 ∧ BoxW wr w.heap.size (W S 0) (W S 1) (W S 2) (W S 3) ∧ BoxA wr (w.heap.size + 1) 0#256 ∧ BoxA wr (w.heap.size + 2) (mixTo (mem S) 0#256 i) ∧ Below w.heap.size w wr) (fun v _ => 256 - (intOf v).toNat)
  case atStart => exact ⟨0, rfl, by omega, H2.out, H3.out, by rw [mixTo_zero]; exact H1.out, H4.out⟩
  case round =>
    obtain ⟨i, rfl, hk, hs, hz, hf, hbel⟩ := hrel
    have HS := Lib.hid hs
    have HZ := Lib.hid hz
    have HF := Lib.hid hf
    have HB := Lib.hid hbel
    by_cases hlt : i < 256
    · have i0 : (0 : Int) ≤ i := by omega
      have b1 : decide ((i : Int) < 256) = true := by simp; omega
      have cf := hf.cell i hlt
      have ff := hf.free i
      have hcq : ∃ q : Nat, i / 64 = q ∧ q < 4 ∧ (i : Int) / 64 = q ∧ wr.cell? ⟨w.heap.size, q, none⟩ = some (.int .u64 (W S q : Int)) := by
        obtain ⟨c0, c1, c2, c3⟩ := hs.cells
        refine ⟨i / 64, rfl, by omega, by omega, ?_⟩
        rcases (show i / 64 = 0 ∨ i / 64 = 1 ∨ i / 64 = 2 ∨ i / 64 = 3 by omega) with h | h | h | h <;> rw [h] <;> assumption
      obtain ⟨q, hq, hq4, hqi, hcell⟩ := hcq
      have HQ := Lib.hid hq
      clear hs hz hf hbel hq
      have HW := Lib.hid (shr_zero S q)
      go_wp2_with fail
      obtain ⟨wo, rfl⟩ : ∃ wo : World, wo = wr := ⟨_, rfl⟩
      go_loop [5, 6] (fun n v => ∃ k : Nat, v = .int .i64 k ∧ k ≤ i % 64 ∧ n = .int .u64 (shr S q k : Int)) (fun _ v => 64 - (intOf v).toNat)
      case atStart => exact ⟨0, rfl, Nat.zero_le _, by rw [HW.out]⟩
      case round =>
        obtain ⟨k, rfl, hk2, rfl⟩ := hrel
        have k0 : (0 : Int) ≤ k := by omega
        have x0 : (0 : Int) ≤ (shr S q k : Int) := by omega
        by_cases hin : k < i % 64
        · have d1 : (k : Int) < (i : Int) % 64 := by omega
          have HH := Lib.hid (shr_wrap S q k)
          go_wp2
          go_round
          case rel => exact ⟨k + 1, by go_num, by omega, by rw [HH.out]⟩
          case measure => simp [intOf]; omega
        · have d1 : ¬ (k : Int) < (i : Int) % 64 := by omega
          obtain rfl : k = i % 64 := by omega
          have HO := Lib.hid (odd_word S i q HQ.out)
          go_wp2
          go_roundw
          case rel => exact ⟨i + 1, by go_num, by omega, HS.out.other _ (by simp <;> omega), HZ.out.other _ (by simp <;> omega), by rw [← mixTo_step, ← HO.out]; exact HF.out.set i _ hlt, HB.out.setCell (by simp <;> omega) _⟩
          case measure => simp [intOf]; omega
    · obtain rfl : i = 256 := by omega
      clear hs hz hf hbel
      go_wp2_with (first | (refine loadA rfl _ rfl (w.heap.size + 2) _ rfl HF.out ?_) | (refine storeA rfl _ _ rfl (w.heap.size + 1) _ _ rfl rfl HZ.out ?_))
      refine bodyPost_ret (BoxA.results rfl _ (g := w.heap.size + 1) rfl (HZ.out.rowSame _)) rfl ⟨?_, below_row HB.out (by omega) _⟩
      rw [mixTo_all]
      have e : ofPred (mem S) = S := by
        apply ext_bit
        intro n hn
        rw [ofPred_bit]; simp [hn, mem]
      rw [e]
end Go.Proofs.YtobhhhopkkcdiaaDoor
