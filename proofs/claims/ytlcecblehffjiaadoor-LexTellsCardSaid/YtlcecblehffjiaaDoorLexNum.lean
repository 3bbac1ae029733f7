/-
  Layer 6, the landed code: the number that a text is.
-/
import Derived.Test.YtlcecblehffjiaaDoorLexLib
import Derived.Test.YtlcecblehffjiaaDoorLexBase
namespace Go.Proofs.YtlcecblehffjiaaDoor
open Go.RowKit

/-- Is the text one to three digits? -/
def numB (s : ByteArray) : Bool := decide (1 ≤ s.size ∧ s.size ≤ 3 ∧ ∀ j, j < s.size → isD s j = true)
def numV (s : ByteArray) : Nat := if numB s = true then cntV s 0 s.size else 0
theorem numB_yes {s : ByteArray} (h1 : 1 ≤ s.size) (h3 : s.size ≤ 3) (h : ∀ j, j < s.size → isD s j = true) : numB s = true := decide_eq_true ⟨h1, h3, h⟩
theorem numB_no {s : ByteArray} {j : Nat} (hj : j < s.size) (h : isD s j = false) : numB s = false := decide_eq_false fun ⟨_, _, a⟩ => by have := a j hj; rw [h] at this; cases this
theorem iterPos_at (w : World) (s : ByteArray) (k : Nat) : (w.iter s k).iterPos w.heap.size = k := World.iterPos_iter w s k
theorem below_iter (w : World) (s : ByteArray) (k : Nat) : Below w.heap.size w (w.iter s k) := (Below.refl _ w).alloc (Nat.le_refl _) _

set_option maxHeartbeats 2000000 in
theorem number_any (s : ByteArray) (w : World) (hs : s.size ≤ 2000000) : Calls Tryd.prog 56 #[.string s] w fun e w' => e = .returned (.tuple #[.int .i64 (numV s : Nat), .bool (numB s)]) ∧ Below w.heap.size w w' := by
  by_cases h0 : s.size = 0
  · have hn : numB s = false := decide_eq_false (by omega)
    have hv : numV s = 0 := by unfold numV; rw [hn]; rfl
    have he : s = ByteArray.empty := by
      cases s with
      | mk d => congr 1; exact Array.eq_empty_of_size_eq_zero h0
    rw [hn, hv]
    subst he
    clear hn hv h0 hs
    go_enter Tryd.func56, Tryd.ntmps56
    go_wp2_with fail
    go_ret2
    exact ⟨rfl, Below.refl _ _⟩
  · have hne : (s.toList == []) = false := by
      rw [Bool.eq_false_iff]
      intro h
      have h1 : s.toList = [] := by simpa using h
      rw [ByteArray.toList_eq] at h1
      apply h0
      show s.data.size = 0
      rw [← Array.length_toList, h1]
      rfl
    by_cases h3 : 3 < s.size
    · have hn : numB s = false := decide_eq_false (by omega)
      have hv : numV s = 0 := by unfold numV; rw [hn]; rfl
      have h3' : (3 : Int) < (s.size : Int) := by omega
      rw [hn, hv]
      clear hn hv h0
      go_enter Tryd.func56, Tryd.ntmps56
      go_wp2_with fail
      go_ret2
      exact ⟨rfl, Below.refl _ _⟩
    · have h3' : ¬ (3 : Int) < (s.size : Int) := by omega
      go_enter Tryd.func56, Tryd.ntmps56
      go_wp2_with fail
      go_loopw [4] (fun a wr => ∃ k n : Nat, k ≤ s.size ∧ a = .int .i64 n ∧ (∀ j, j < k → isD s j = true) ∧ n = cntV s 0 k ∧ wr = w.iter s k) (fun _ wr => s.size - wr.iterPos w.heap.size)
      case atStart => exact ⟨0, 0, by omega, rfl, fun j hj => by omega, rfl, rfl⟩
      case round =>
        obtain ⟨k, n, hk, rfl, hd, hn, rfl⟩ := hrel
        have hn3 : n < 1000 := by
          rw [hn]
          exact Nat.lt_of_lt_of_le (cntV_lt k fun j hj => by rw [Nat.zero_add]; exact hd j hj) (Nat.pow_le_pow_right (n := 10) (by decide) (show k ≤ 3 by omega))
        have HD := Lib.hid hd
        have HN := Lib.hid hn
        clear hd hn
        by_cases hp : k < s.size
        · obtain ⟨c, hc⟩ : ∃ c, c = (s[k]'hp).toNat := ⟨_, rfl⟩
          have HC := Lib.hid (show bt s k = c by rw [hc]; exact bt_at hp)
          by_cases ha : c < 128
          · have hnx : ∀ ty, (Instr.next (.pointer (some ⟨w.heap.size, 0, none⟩)) true ty).run Tryd.prog (w.iter s k) = .ok (.tuple #[.bool true, .int .i64 k, .int .i32 (c : Nat)]) (w.iter s (k + 1)) := fun ty => by rw [hc]; exact run_next_ascii w s k ty hp (by rw [← hc]; exact ha)
            clear hc
            by_cases h48 : 48 ≤ c
            · by_cases h57 : c ≤ 57
              · have q1 : ¬ (c : Int) < 48 := by omega
                have q2 : ¬ (57 : Int) < (c : Int) := by omega
                have HI := Lib.hid (show isD s k = true by unfold isD; rw [HC.out]; exact decide_eq_true ⟨h48, h57⟩)
                go_wp2_with fail
                go_roundw
                case rel =>
                  refine ⟨k + 1, 10 * n + (c - 48), by omega, by go_num, fun j hj => ?_, ?_, rfl⟩
                  · by_cases e : j = k
                    · rw [e]; exact HI.out
                    · exact HD.out j (by omega)
                  · rw [cntV, Nat.zero_add, HC.out, HN.out]
                case measure => rw [iterPos_at, iterPos_at]; omega
              · have q1 : ¬ (c : Int) < 48 := by omega
                have q2 : (57 : Int) < (c : Int) := by omega
                have HI := Lib.hid (numB_no hp (show isD s k = false by unfold isD; rw [HC.out]; exact decide_eq_false (by omega)))
                go_wp2_with fail
                go_ret2
                refine ⟨?_, below_iter w s _⟩
                unfold numV; rw [HI.out]; rfl
            · have q1 : (c : Int) < 48 := by omega
              have HI := Lib.hid (numB_no hp (show isD s k = false by unfold isD; rw [HC.out]; exact decide_eq_false (by omega)))
              go_wp2_with fail
              go_ret2
              refine ⟨?_, below_iter w s _⟩
              unfold numV; rw [HI.out]; rfl
          · have hnx : ∀ ty, (Instr.next (.pointer (some ⟨w.heap.size, 0, none⟩)) true ty).run Tryd.prog (w.iter s k) = _ := fun ty => run_next_any w s k ty hp
            have hr := (decode_high s k hp (by omega)).1
            clear hc
            have q1 : ¬ ((Utf8.decode s k).1 : Int) < 48 := by omega
            have q2 : (57 : Int) < ((Utf8.decode s k).1 : Int) := by omega
            have HI := Lib.hid (numB_no hp (show isD s k = false by unfold isD; rw [HC.out]; exact decide_eq_false (by omega)))
            go_wp2_with fail
            go_ret2
            refine ⟨?_, below_iter w s _⟩
            unfold numV; rw [HI.out]; rfl
        · obtain rfl : k = s.size := by omega
          have hnx : ∀ ty, (Instr.next (.pointer (some ⟨w.heap.size, 0, none⟩)) true ty).run Tryd.prog (w.iter s s.size) = _ := fun ty => run_next_end w s s.size ty hp
          have HI := Lib.hid (numB_yes (s := s) (by omega) (by omega) HD.out)
          go_wp2_with fail
          go_ret2
          refine ⟨?_, below_iter w s _⟩
          unfold numV; rw [HI.out, if_pos rfl, ← HN.out]; rfl
end Go.Proofs.YtlcecblehffjiaaDoor
