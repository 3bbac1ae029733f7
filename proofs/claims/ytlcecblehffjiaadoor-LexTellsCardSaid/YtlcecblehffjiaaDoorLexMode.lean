/-
  Layer 6, the landed code: asking, modeAt.
-/
import Derived.Test.YtlcecblehffjiaaDoorLexMem
import Derived.Test.YtlcecblehffjiaaDoorLexHeads
namespace Go.Proofs.YtlcecblehffjiaaDoor
open Go.RowKit

def mdV (c : Nat) : Int := if c = 63 then 1 else if c = 43 then 2 else 0
def mdN (c : Nat) : Nat := if c = 63 ∨ c = 43 then 1 else 0
theorem ret_i2 {a b c d : Int} (h : a = b) (h2 : c = d) : Ending.returned (.tuple #[.int .i64 a, .int .i64 c]) = .returned (.tuple #[.int .i64 b, .int .i64 d]) := by rw [h, h2]
theorem mode_eq (p : ByteArray) (t : Tok) (i : Nat) (ht : t.md = 0) : modeZ p (t, i, 0) = ({ t with md := mdV (bt p i) }, i + mdN (bt p i), 0) := by
  unfold modeZ mdV mdN
  simp only []
  by_cases a : bt p i = 63
  · simp [a]
  · by_cases b : bt p i = 43
    · simp [b]
    · simp only [a, b, if_false, or_false, Nat.add_zero]
      rw [← ht]
theorem modeAt_any (p : ByteArray) (i : Nat) (w : World) (hp : p.size ≤ 1000000) (hi : i ≤ p.size) : Calls Tryd.prog 43 #[.string p, .int .i64 (i : Int)] w fun e w' => e = .returned (.tuple #[.int .i64 (mdV (bt p i)), .int .i64 ((i + mdN (bt p i) : Nat) : Int)]) ∧ w = w' := by
  have g1 : (0 : Int) ≤ (i : Int) := by omega
  have g2 : (i : Int) ≤ (p.size : Int) := by omega
  have HP := Lib.hid (fun w => prefix_any (p.extract i p.size) ⟨#[63]⟩ [63] w rfl)
  have HQ := Lib.hid (fun w => prefix_any (p.extract i p.size) ⟨#[43]⟩ [43] w rfl)
  have e1 : headB (p.extract i p.size) 0 [63] = (bt p i == 63) := by rw [head_ext hi]; simp [headB]
  have e2 : headB (p.extract i p.size) 0 [43] = (bt p i == 43) := by rw [head_ext hi]; simp [headB]
  rw [e1] at HP
  rw [e2] at HQ
  clear e1 e2
  revert HP HQ
  generalize bt p i = c
  intro HP HQ
  by_cases a : c = 63
  · rw [beq_iff_eq.2 a] at HP
    rw [show mdV c = 1 by unfold mdV; rw [if_pos a], show mdN c = 1 by unfold mdN; rw [if_pos (.inl a)]]
    clear a HQ
    go_enter Tryd.func43, Tryd.ntmps43
    go_wp2_with fail
    refine (HP.out _).mono ?_
    rintro e w1 ⟨rfl, rfl⟩
    go_wp2_with fail
    go_ret2
    exact ⟨ret_i2 rfl (by omega), rfl⟩
  · rw [beq_eq_false_iff_ne.2 a] at HP
    by_cases b : c = 43
    · rw [beq_iff_eq.2 b] at HQ
      rw [show mdV c = 2 by unfold mdV; rw [if_neg a, if_pos b], show mdN c = 1 by unfold mdN; rw [if_pos (.inr b)]]
      clear a b
      go_enter Tryd.func43, Tryd.ntmps43
      go_wp2_with fail
      refine (HP.out _).mono ?_
      rintro e w1 ⟨rfl, rfl⟩
      go_wp2_with fail
      refine (HQ.out _).mono ?_
      rintro e w1 ⟨rfl, rfl⟩
      go_wp2_with fail
      go_ret2
      exact ⟨ret_i2 rfl (by omega), rfl⟩
    · rw [beq_eq_false_iff_ne.2 b] at HQ
      rw [show mdV c = 0 by unfold mdV; rw [if_neg a, if_neg b], show mdN c = 0 by unfold mdN; rw [if_neg (by omega)]]
      clear a b
      go_enter Tryd.func43, Tryd.ntmps43
      go_wp2_with fail
      refine (HP.out _).mono ?_
      rintro e w1 ⟨rfl, rfl⟩
      go_wp2_with fail
      refine (HQ.out _).mono ?_
      rintro e w1 ⟨rfl, rfl⟩
      go_wp2_with fail
      go_ret2
      exact ⟨ret_i2 rfl (by omega), rfl⟩

/-- What the token of an escape is that asks for something. -/
def askT (c : Nat) : Tok × Bool := if c = 98 then (tok0 4, true) else if c = 66 then (tok0 5, true) else if 49 ≤ c ∧ c ≤ 57 then ({ tok0 17 with n := (c : Int) - 48 }, true) else (tok0 0, false)
theorem ret_tb {t u : Tok} {a b : Bool} (h : t = u) (h2 : a = b) : Ending.returned (.tuple #[tokV t, .bool a]) = .returned (.tuple #[tokV u, .bool b]) := by rw [h, h2]
theorem ret_t3 {t u : Tok} {a b c d : Int} (h : t = u) (h2 : a = b) (h3 : c = d) : Ending.returned (.tuple #[tokV t, .int .i64 a, .int .i64 c]) = .returned (.tuple #[tokV u, .int .i64 b, .int .i64 d]) := by rw [h, h2, h3]
theorem newT {w : World} {cs : Array Value} {t : Tok} (h : cs = tokC t) : BoxT 46 (w.alloc (.cells cs 46)) w.heap.size t := by rw [h]; exact BoxT.new _ _

set_option maxHeartbeats 2000000 in
theorem asking_any (s : ByteArray) (w : World) (hs : s.size ≤ 1000000) : Calls Tryd.prog 25 #[.string s] w fun e w' => e = .returned (.tuple #[tokV (askT (bt s 0)).1, .bool (askT (bt s 0)).2]) ∧ Below w.heap.size w w' := by
  by_cases h0 : s.size = 0
  · have he := str_empty h0
    subst he
    clear h0 hs
    rw [show askT (bt ByteArray.empty 0) = (tok0 0, false) from rfl]
    have hE : (ByteArray.empty.toList == []) = true := by rw [ByteArray.toList_eq]; rfl
    go_enter Tryd.func25, Tryd.ntmps25
    go_wp2_with fail
    refine bodyPost_ret (resT2 (p := 2) (u := 3) (t := tok0 0) (v := .bool false) rfl _ (g := w.heap.size) rfl rfl (newT (by first | rfl | (simp [tokC, tok0, W_zero]; rfl) | simp [tokC, tok0, W_zero]))) rfl ⟨rfl, (Below.refl _ w).alloc (Nat.le_refl _) _⟩
  · have hne := str_ne h0
    have h1 : 0 < s.size := by omega
    obtain ⟨c, hc⟩ : ∃ c, c = (s[0]'h1).toNat := ⟨_, rfl⟩
    have hb : bt s 0 = c := by rw [hc]; exact bt_at h1
    rw [hb]
    have h256 : c < 256 := by rw [hc]; exact (s[0]'h1).toNat_lt
    clear hb h0
    by_cases a : c = 98
    · rw [show askT c = (tok0 4, true) by unfold askT; rw [if_pos a]]
      have q : (c : Int) = 98 := by omega
      rw [hc] at q
      clear hc a h256
      go_enter Tryd.func25, Tryd.ntmps25
      go_wp2_with fail
      refine bodyPost_ret (resT2 (p := 2) (u := 3) (t := tok0 4) (v := .bool true) rfl _ (g := w.heap.size) rfl rfl (newT (by first | rfl | (simp [tokC, tok0, W_zero]; rfl) | simp [tokC, tok0, W_zero]))) rfl ⟨rfl, (Below.refl _ w).alloc (Nat.le_refl _) _⟩
    · have q : ¬ (c : Int) = 98 := by omega
      by_cases b : c = 66
      · rw [show askT c = (tok0 5, true) by unfold askT; rw [if_neg a, if_pos b]]
        have q2 : (c : Int) = 66 := by omega
        rw [hc] at q q2
        clear hc a b h256
        go_enter Tryd.func25, Tryd.ntmps25
        go_wp2_with fail
        refine bodyPost_ret (resT2 (p := 2) (u := 3) (t := tok0 5) (v := .bool true) rfl _ (g := w.heap.size) rfl rfl (newT (by first | rfl | (simp [tokC, tok0, W_zero]; rfl) | simp [tokC, tok0, W_zero]))) rfl ⟨rfl, (Below.refl _ w).alloc (Nat.le_refl _) _⟩
      · have q2 : ¬ (c : Int) = 66 := by omega
        by_cases d : 49 ≤ c ∧ c ≤ 57
        · rw [show askT c = ({ tok0 17 with n := (c : Int) - 48 }, true) by unfold askT; rw [if_neg a, if_neg b, if_pos d]]
          have q3 : (49 : Int) ≤ (c : Int) := by omega
          have q4 : (c : Int) ≤ 57 := by omega
          rw [hc] at q q2 q3 q4
          clear a b d h256
          rw [hc]
          clear hc
          go_enter Tryd.func25, Tryd.ntmps25
          go_wp2_with fail
          refine bodyPost_ret (resT2 (p := 2) (u := 3) (t := { tok0 17 with n := ((s[0]'h1).toNat : Int) - 48 }) (v := .bool true) rfl _ (g := w.heap.size) rfl rfl (newT (by first | rfl | (simp [tokC, tok0, W_zero]; rfl) | simp [tokC, tok0, W_zero]))) rfl ⟨rfl, (Below.refl _ w).alloc (Nat.le_refl _) _⟩
        · rw [show askT c = (tok0 0, false) by unfold askT; rw [if_neg a, if_neg b, if_neg d]]
          rcases (show c < 49 ∨ 57 < c by omega) with d | d
          · have q3 : ¬ (49 : Int) ≤ (c : Int) := by omega
            rw [hc] at q q2 q3
            clear a b d h256 hc
            go_enter Tryd.func25, Tryd.ntmps25
            go_wp2_with fail
            refine bodyPost_ret (resT2 (p := 2) (u := 3) (t := tok0 0) (v := .bool false) rfl _ (g := w.heap.size) rfl rfl (newT (by first | rfl | (simp [tokC, tok0, W_zero]; rfl) | simp [tokC, tok0, W_zero]))) rfl ⟨rfl, (Below.refl _ w).alloc (Nat.le_refl _) _⟩
          · have q3 : (49 : Int) ≤ (c : Int) := by omega
            have q4 : ¬ (c : Int) ≤ 57 := by omega
            rw [hc] at q q2 q3 q4
            clear a b d h256 hc
            go_enter Tryd.func25, Tryd.ntmps25
            go_wp2_with fail
            refine bodyPost_ret (resT2 (p := 2) (u := 3) (t := tok0 0) (v := .bool false) rfl _ (g := w.heap.size) rfl rfl (newT (by first | rfl | (simp [tokC, tok0, W_zero]; rfl) | simp [tokC, tok0, W_zero]))) rfl ⟨rfl, (Below.refl _ w).alloc (Nat.le_refl _) _⟩
end Go.Proofs.YtlcecblehffjiaaDoor
