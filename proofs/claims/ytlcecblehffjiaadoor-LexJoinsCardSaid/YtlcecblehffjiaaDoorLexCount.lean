/-
  Layer 6: what the document's answer does: count.
-/
import Derived.Test.YtlcecblehffjiaaDoorLexTok
namespace Go.Proofs.YtlcecblehffjiaaDoor
open Go.RowKit

/-- The number that the first digits make. -/
def cntV (p : ByteArray) (i : Nat) : Nat → Nat
  | 0 => 0
  | k + 1 => 10 * cntV p i k + (bt p (i + k) - 48)
theorem isD_no {p : ByteArray} {i : Nat} (h : p.size ≤ i) : isD p i = false := by unfold isD; rw [bt_no h]; rfl
theorem cntV_lt {p : ByteArray} {i : Nat} : ∀ k, (∀ j, j < k → isD p (i + j) = true) → cntV p i k < 10 ^ k
  | 0, _ => by simp [cntV]
  | k + 1, h => by
    have h1 := cntV_lt k fun j hj => h j (by omega)
    have h2 := h k (by omega)
    unfold isD at h2
    have h3 := of_decide_eq_true h2
    rw [cntV, Nat.pow_succ]
    omega
theorem count_at {p : ByteArray} {i k : Nat} (hk : k ≤ 3) (h : ∀ j, j < k → isD p (i + j) = true) (he : k = 3 ∨ isD p (i + k) = false) : countZ p i = (cntV p i k, i + k) := by
  unfold countZ
  rcases (show k = 0 ∨ k = 1 ∨ k = 2 ∨ k = 3 by omega) with rfl | rfl | rfl | rfl
  · rcases he with he | he
    · omega
    · rw [if_pos (show isD p i = false from he)]; rfl
  · have h0 : isD p i = true := h 0 (by omega)
    rcases he with he | he
    · omega
    · rw [if_neg (by rw [h0]; decide), if_pos he]; simp [cntV]
  · have h0 : isD p i = true := h 0 (by omega)
    have h1 := h 1 (by omega)
    rcases he with he | he
    · omega
    · rw [if_neg (by rw [h0]; decide), if_neg (by rw [h1]; decide), if_pos he]; simp [cntV]
  · have h0 : isD p i = true := h 0 (by omega)
    have h1 := h 1 (by omega)
    have h2 := h 2 (by omega)
    rw [if_neg (by rw [h0]; decide), if_neg (by rw [h1]; decide), if_neg (by rw [h2]; decide)]
    simp [cntV]
theorem ret_nn {a b c d : Int} (h : a = c) (h2 : b = d) : Ending.returned (.tuple #[.int .i64 a, .int .i64 b]) = .returned (.tuple #[.int .i64 c, .int .i64 d]) := by rw [h, h2]

set_option maxHeartbeats 2000000 in
theorem count_any (p : ByteArray) (i : Nat) (w : World) (hp : p.size ≤ 1000000) (hi : i ≤ 2000000) : Calls Tryd.prog 73 #[.string p, .int .i64 (i : Int)] w fun e w' => e = .returned (.tuple #[.int .i64 ((countZ p i).1 : Nat), .int .i64 ((countZ p i).2 : Nat)]) ∧ w = w' := by
  go_enter Tryd.func73, Tryd.ntmps73
  go_wp2_with fail
  go_loopw [6, 7] (fun a b wr => ∃ k n : Nat, k ≤ 3 ∧ a = .int .i64 n ∧ b = .int .i64 ((i : Int) + k) ∧ (∀ j, j < k → isD p (i + j) = true) ∧ n = cntV p i k ∧ w = wr) (fun _ b _ => i + 3 - (intOf b).toNat)
  case atStart => exact ⟨0, 0, by omega, rfl, by simp, fun j hj => by omega, rfl, rfl⟩
  case round =>
    obtain ⟨k, n, hk, rfl, rfl, hd, hn, rfl⟩ := hrel
    have hb : n < 1000 := by
      rw [hn]
      exact Nat.lt_of_lt_of_le (cntV_lt k hd) (Nat.pow_le_pow_right (by decide) hk)
    have HD := Lib.hid hd
    have HN := Lib.hid hn
    clear hd hn
    by_cases hsz : i + k < p.size
    · by_cases h3 : k = 3
      · subst h3
        have g1 : (i : Int) + 3 < (p.size : Int) := by omega
        go_wp2_with fail
        go_ret2
        have hc := count_at (p := p) (i := i) (k := 3) (by omega) HD.out (.inl rfl)
        exact ⟨ret_nn (by rw [hc, ← HN.out]) (by rw [hc]; show (i : Int) + 3 = ((i + 3 : Nat) : Int); omega), rfl⟩
      · have g1 : (i : Int) + (k : Int) < (p.size : Int) := by omega
        have g2 : (k : Int) < 3 := by omega
        have HC := Lib.hid (bt_at hsz)
        obtain ⟨c, hc⟩ : ∃ c, c = (p[i + k]'hsz).toNat := ⟨_, rfl⟩
        rw [← hc] at HC
        have hcl : c < 256 := by rw [hc]; exact (p[i + k]'hsz).toNat_lt
        have hcb : bt p (i + k) = c := by rw [hc]; exact bt_at hsz
        have HCB := Lib.hid hcb
        clear hcb
        by_cases h48 : 48 ≤ c
        · by_cases h57 : c ≤ 57
          · have q1 : (48 : Int) ≤ (c : Int) := by omega
            have q2 : (c : Int) ≤ 57 := by omega
            rw [hc] at q1 q2
            go_wp2_with fail
            go_roundw
            case rel =>
              refine ⟨k + 1, 10 * n + (c - 48), by omega, ?_, by go_num, fun j hj => ?_, ?_, trivial⟩
              · rw [hc]; go_num
              · by_cases e : j = k
                · subst e; unfold isD; rw [HCB.out]; exact decide_eq_true ⟨h48, h57⟩
                · exact HD.out j (by omega)
              · rw [cntV, HCB.out, HN.out]
            case measure => simp [intOf]; omega
          · have q1 : (48 : Int) ≤ (c : Int) := by omega
            have q2 : ¬ (c : Int) ≤ 57 := by omega
            rw [hc] at q1 q2
            go_wp2_with fail
            go_ret2
            have hc2 := count_at (p := p) (i := i) (k := k) hk HD.out (.inr (by unfold isD; rw [HCB.out]; exact decide_eq_false (by omega)))
            exact ⟨ret_nn (by rw [hc2, ← HN.out]) (by rw [hc2]; show (i : Int) + k = ((i + k : Nat) : Int); omega), rfl⟩
        · have q1 : ¬ (48 : Int) ≤ (c : Int) := by omega
          rw [hc] at q1
          go_wp2_with fail
          go_ret2
          have hc2 := count_at (p := p) (i := i) (k := k) hk HD.out (.inr (by unfold isD; rw [HCB.out]; exact decide_eq_false (by omega)))
          exact ⟨ret_nn (by rw [hc2, ← HN.out]) (by rw [hc2]; show (i : Int) + k = ((i + k : Nat) : Int); omega), rfl⟩
    · have g1 : ¬ (i : Int) + (k : Int) < (p.size : Int) := by omega
      go_wp2_with fail
      go_ret2
      have hc := count_at (p := p) (i := i) (k := k) hk HD.out (.inr (isD_no (by omega)))
      exact ⟨ret_nn (by rw [hc, ← HN.out]) (by rw [hc]; show (i : Int) + k = ((i + k : Nat) : Int); omega), rfl⟩
end Go.Proofs.YtlcecblehffjiaaDoor
