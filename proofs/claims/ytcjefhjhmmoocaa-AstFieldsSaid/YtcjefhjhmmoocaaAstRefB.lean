/-
  Layer 5: what the document's own answers do that go down a tree: deep.
-/
import Derived.Test.YtcjefhjhmmoocaaAstMath
import Derived.Test.YtcjefhjhmmoocaaAstMem
import Derived.Deep.QuietTactic
import Derived.BigQuiet
namespace Go.Proofs.Ytcjefhjhmmoocaa
open Go.RowKit

theorem dep_le (l : Nat → Nd) : ∀ j, dep l j ≤ j := by
  intro j
  induction j using Nat.strongRecOn with
  | _ j ih =>
    cases j with
    | zero => exact Nat.le_refl _
    | succ m =>
      have h1 := ih m (by omega)
      have h2 := ih (m - siz l m) (by omega)
      rw [dep_succ]
      split
      · omega
      · split
        · omega
        · have : m - siz l m ≤ m := Nat.sub_le _ _
          omega
theorem Nodes.drewN {w : World} {A : Option Addr} {n : Nat} {l : Nat → Nd} (h : Nodes w A n l) (q : Nat) : Nodes (w.drewN q) A n l := h

set_option maxHeartbeats 4000000 in
theorem rdeep_any (A : Option Addr) (n cap : Nat) (l : Nat → Nd) (hn : n ≤ 4611686018427387904) : ∀ j, j ≤ n → siz l j ≠ 0 → ∀ (z : Int), z = (j : Int) - 1 → ∀ w, Nodes w A n l →
    Calls Try.prog 37 #[.slice A n cap, .int .i64 z] w fun e w' => e = .returned (.int .i64 (dep l j : Nat)) ∧ ∃ q, w' = w.drewN q := by
  intro j
  induction j using Nat.strongRecOn with
  | _ j ih =>
  intro hj hs z hz w hl
  have HN := Lib.hid hn
  have IH := Lib.hid ih
  clear hn ih
  cases j with
  | zero => exact absurd (siz_zero l) hs
  | succ m =>
    obtain rfl : z = (m : Int) := by omega
    clear hz
    have hm : m < n := by omega
    have sm : (m : Int) ≤ 4611686018427387904 := by have := HN.out; omega
    have HL := Lib.hid hl
    obtain ⟨b, o, rfl, hN⟩ := hl.at_ (by omega)
    obtain ⟨-, hp⟩ := siz_pos hs
    obtain ⟨c0, c1, c2, -⟩ := hN.2 m hm
    have hd := dep_succ l m
    clear hl hN hj hs
    rcases hp with ⟨hk, -⟩ | ⟨hk, h0, ha, hb, -⟩ | ⟨hk, h0, h1, ha, hb, -⟩
    · rw [if_pos hk] at hd
      have HD := Lib.hid hd
      have HK := Lib.hid hk
      clear hd hk
      go_enter Try.func37, Try.ntmps37
      go_wp2_with fail
      refine (rkids_any _ _).mono ?_
      rintro e w2 ⟨rfl, rfl⟩
      rw [HK.out]
      go_wp2_with fail
      go_ret
      exact ⟨by rw [HD.out]; rfl, 0, rfl⟩
    · rw [hk, if_neg (show ¬ (1 : Int) = 0 by decide), if_pos rfl] at hd
      have HD := Lib.hid hd
      have HK := Lib.hid hk
      rw [ha] at c1
      have H0 := Lib.hid h0
      have dl : (dep l m : Int) ≤ 4611686018427387904 := by have := dep_le l m; omega
      have d0 : 0 ≤ (dep l m : Int) := by omega
      clear hd hk ha hb h0
      go_enter Try.func37, Try.ntmps37
      go_wp2_with fail
      refine (rkids_any _ _).mono ?_
      rintro e w2 ⟨rfl, rfl⟩
      rw [HK.out]
      go_wp2_with fail
      (with_reducible refine (IH.out m (by omega) (by omega) H0.out _ rfl _ HL.out).mono ?_)
      rintro e w2 ⟨rfl, q, rfl⟩
      go_wp2_with fail
      go_ret
      exact ⟨ret_i (by rw [HD.out]; omega), q, rfl⟩
    · rw [hk, if_neg (show ¬ (2 : Int) = 0 by decide), if_neg (show ¬ (2 : Int) = 1 by decide)] at hd
      have HK := Lib.hid hk
      rw [ha] at c1
      rw [hb] at c2
      obtain ⟨s, es⟩ : ∃ s, s = siz l m := ⟨_, rfl⟩
      have hle := siz_le l m
      have dl1 := dep_le l m
      have dl2 := dep_le l (m - siz l m)
      rw [← es] at h0 h1 hd c1 hle dl2
      have C1 := Lib.hid (show ∀ w q, Nodes w (some ⟨b, o, none⟩) n l → Calls Try.prog 37 #[.slice (some ⟨b, o, none⟩) n cap, .int .i64 ((m : Int) - 1)] (w.drewN q) fun e w' => e = .returned (.int .i64 (dep l m : Nat)) ∧ ∃ q', w' = (w.drewN q).drewN q' from fun w q hw => IH.out m (by omega) (by omega) (by rw [← es]; exact h0) _ rfl _ hw)
      have C2 := Lib.hid (show ∀ w q, Nodes w (some ⟨b, o, none⟩) n l → Calls Try.prog 37 #[.slice (some ⟨b, o, none⟩) n cap, .int .i64 ((m : Int) - 1 - (s : Int))] (w.drewN q) fun e w' => e = .returned (.int .i64 (dep l (m - s) : Nat)) ∧ ∃ q', w' = (w.drewN q).drewN q' from fun w q hw => IH.out (m - s) (by omega) (by omega) h1 _ (by omega) _ hw)
      obtain ⟨x, hx⟩ : ∃ x, x = dep l m := ⟨_, rfl⟩
      obtain ⟨y, hy⟩ : ∃ y, y = dep l (m - s) := ⟨_, rfl⟩
      rw [← hx] at hd dl1 C1
      rw [← hy] at hd dl2 C2
      have HD := Lib.hid hd
      have x0 : 0 ≤ (x : Int) := by omega
      have x1 : (x : Int) ≤ 4611686018427387904 := by omega
      have y0 : 0 ≤ (y : Int) := by omega
      have y1 : (y : Int) ≤ 4611686018427387904 := by omega
      clear hd hk ha hb h0 h1 es hle dl1 dl2 hx hy
      by_cases hxy : x ≤ y
      · have hxi : (x : Int) ≤ (y : Int) := by omega
        go_enter Try.func37, Try.ntmps37
        go_wp2_with fail
        refine (rkids_any _ _).mono ?_
        rintro e w2 ⟨rfl, rfl⟩
        rw [HK.out]
        go_wp2_with fail
        go_quiet ((first | (with_reducible exact Calls.quiet_of (C1.out _ _ HL.out)) | (with_reducible exact Calls.quiet_of (C2.out _ _ HL.out))))
        go_wp2_with fail
        go_ret
        exact ⟨ret_i (by rw [HD.out]; omega), _, rfl⟩
      · have hxi : (y : Int) < (x : Int) := by omega
        go_enter Try.func37, Try.ntmps37
        go_wp2_with fail
        refine (rkids_any _ _).mono ?_
        rintro e w2 ⟨rfl, rfl⟩
        rw [HK.out]
        go_wp2_with fail
        go_quiet ((first | (with_reducible exact Calls.quiet_of (C1.out _ _ HL.out)) | (with_reducible exact Calls.quiet_of (C2.out _ _ HL.out))))
        go_wp2_with fail
        go_ret
        exact ⟨ret_i (by rw [HD.out]; omega), _, rfl⟩
end Go.Proofs.Ytcjefhjhmmoocaa
