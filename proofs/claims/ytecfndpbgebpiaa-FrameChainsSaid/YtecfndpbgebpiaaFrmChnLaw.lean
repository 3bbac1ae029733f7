/-
  The statement FrameChains: its walk.
-/
import Derived.Test.YtecfndpbgebpiaaFrmKit
namespace Go.Proofs.Ytecfndpbgebpiaa
open Go.RowKit

abbrev chF (q i : Nat) : Fr := ⟨1 + (q : Int), (i : Int) % 5, 0, 0, (i : Int)⟩
def chM (q : Nat) : Nat → List Pl
  | 0 => [(zF, 0)]
  | i + 1 => chM q i ++ [(chF q i, i + 1)]
theorem chM_len (q : Nat) : ∀ i, (chM q i).length = i + 1
  | 0 => rfl
  | i + 1 => by simp [chM, chM_len q i]
theorem chM_fr (q : Nat) : ∀ i j, j < i → frI (chM q i) (j + 1) = chF q j
  | i + 1, j, h => by
    rw [chM, frI_push, chM_len]
    by_cases e : j < i
    · rw [if_pos (by omega)]; exact chM_fr q i j e
    · rw [if_neg (by omega), if_pos (by omega), show j = i by omega]
theorem chM_dp (q : Nat) : ∀ i j, j ≤ i → dpI (chM q i) j = j
  | 0, j, h => by rw [show j = 0 by omega]; rfl
  | i + 1, j, h => by
    rw [chM, dpI_push, chM_len]
    by_cases e : j < i + 1
    · rw [if_pos e]; exact chM_dp q i j (by omega)
    · rw [if_neg e, if_pos (by omega)]; dsimp only; omega
theorem chF_may (q i N : Nat) (hq : q < 3) (h : i < N) : mayF N (chF q i) = true := decide_eq_true (by dsimp only; omega)
theorem ch_put (q k : Nat) (hq : q < 3) (hk : k ≤ 60) (t j : Nat) (hj : j < k) : putF 100 (chM q (if t = 0 then j else k)) (chF q j) = (chM q (if t = 0 then j + 1 else k), j + 1, 0) := by
  by_cases ht : t = 0
  · rw [if_pos ht, if_pos ht]
    have h1 : mayF (chM q j).length (chF q j) = true := by rw [chM_len]; exact chF_may q j _ hq (by omega)
    have h2 : idF (chM q j) (chF q j) = 0 := by
      by_cases e : idF (chM q j) (chF q j) = 0
      · exact e
      · obtain ⟨k1, k2, k3, -⟩ := idF_some e
        rw [chM_len] at k2
        have := chM_fr q j (idF (chM q j) (chF q j) - 1) (by omega)
        rw [show idF (chM q j) (chF q j) - 1 + 1 = idF (chM q j) (chF q j) by omega, k3] at this
        injection this with _ _ _ _ this
        omega
    unfold putF
    rw [if_pos h1, if_neg (by rw [h2]; simp), chM_len, if_neg (by omega)]
    rw [show (chF q j).x.toNat = j from by simp, chM_dp q j j (Nat.le_refl _)]
    rfl
  · rw [if_neg ht, if_neg ht]
    have h1 : mayF (chM q k).length (chF q j) = true := by rw [chM_len]; exact chF_may q j _ hq (by omega)
    have h2 : idF (chM q k) (chF q j) = j + 1 := by
      refine idF_is (by omega) (by rw [chM_len]; omega) (chM_fr q k j hj) fun h k1 k2 e => ?_
      have := chM_fr q k (h - 1) (by omega)
      rw [show h - 1 + 1 = h by omega, e] at this
      injection this with _ _ _ _ this
      omega
    unfold putF
    rw [if_pos h1, if_pos (by rw [h2]; simp), h2]
theorem ch_deep (q i j : Nat) (h : j ≤ i) : dpF (chM q i) (j : Int) = j := by
  unfold dpF
  rw [chM_len, if_pos (by omega), Int.toNat_natCast]
  exact chM_dp q i j h
theorem chF_i64 (q i : Nat) (hq : q < 3) (h : i ≤ 60) : (chF q i).i64 := by
  unfold Fr.i64 I64
  dsimp only
  omega

/-- What is there in turn t behind j frames of k. -/
def chX (q k t j : Nat) : List Pl := chM q (if t = 0 then j else k)
theorem chX_len (q k t j : Nat) (h : j ≤ k) : (chX q k t j).length ≤ k + 1 := by
  unfold chX
  rw [chM_len]
  split <;> omega
theorem chX_put (q k : Nat) (hq : q < 3) (hk : k ≤ 60) (t j : Nat) (hj : j < k) : putF 100 (chX q k t j) (chF q j) = (chX q k t (j + 1), j + 1, 0) := ch_put q k hq hk t j hj
theorem chX_deep (q k t j : Nat) (h : j < k) : ((dpF (chX q k t (j + 1)) ((j : Int) + 1) : Nat) : Int) = (j : Int) + 1 := by
  have := ch_deep q (if t = 0 then j + 1 else k) (j + 1) (by split <;> omega)
  rw [show ((j + 1 : Nat) : Int) = (j : Int) + 1 from by omega] at this
  unfold chX
  rw [this]; omega
theorem chX_end (q k t : Nat) : chX q k t k = chM q k := by unfold chX; rw [ite_self]
theorem chX_next (q k t : Nat) : chX q k (t + 1) 0 = chM q k := by unfold chX; rw [if_neg (by omega)]

set_option maxRecDepth 100000 in
set_option maxHeartbeats 8000000 in
theorem frameChains_walk (n kd : Nat) (w : World) (hn : n < 256) (hkd : kd < 256) :
    Calls Try.prog 6 #[.int .u8 (n : Int), .int .u8 (kd : Int)] w fun e w' => e = .returned (.bool true) ∧ Below w.heap.size w w' := by
  obtain ⟨k, hk⟩ : ∃ k : Nat, (n : Int) % 61 = (k : Int) := ⟨n % 61, by omega⟩
  obtain ⟨q, hq⟩ : ∃ q : Nat, (kd : Int) % 3 = (q : Int) := ⟨kd % 3, by omega⟩
  have q3 : q < 3 := by omega
  have k60 : k ≤ 60 := by omega
  have Q3 := Lib.hid q3
  have K60 := Lib.hid k60
  have kz : (k : Int) ≤ 60 := by omega
  have qz : (q : Int) < 3 := by omega
  have q0 : (0 : Int) ≤ (q : Int) := by omega
  clear q3 k60
  go_enter Try.func6, Try.ntmps6
  go_wp2_with fail
  refine (xnew 100 w (by decide)).mono ?_
  rintro e w1 ⟨p, m, rfl, hst⟩
  have H1 := Lib.hid hst
  clear hst
  go_wp2_with fail
  rw [hk]
  clear hk
  go_loopw [8] (fun t wr => ∃ t' : Nat, t = .int .i64 (t' : Int) ∧ t' ≤ 2 ∧ SX w wr p m 100 (chX q k t' 0)) (fun t _ => 2 - (intOf t).toNat)
  case atStart => exact ⟨0, rfl, by omega, H1.out⟩
  case round =>
    obtain ⟨t, rfl, ht, hs⟩ := hrel
    have HS := Lib.hid hs
    clear hs
    have t0 : (0 : Int) ≤ t := by omega
    by_cases hlt : t < 2
    · have t2 : (t : Int) < 2 := by omega
      go_wp2_with fail
      go_loopw [9, 10] (fun last i wr => ∃ j : Nat, i = .int .i64 (j : Int) ∧ last = .int .i64 (j : Int) ∧ j ≤ k ∧ SX w wr p m 100 (chX q k t j)) (fun _ i _ => k - (intOf i).toNat)
      case atStart => exact ⟨0, rfl, rfl, Nat.zero_le _, HS.out⟩
      case round =>
        obtain ⟨j, rfl, rfl, hj, hs⟩ := hrel
        have HJ := Lib.hid hs
        clear hs
        have j0 : (0 : Int) ≤ j := by omega
        by_cases hjk : j < k
        · have jk : (j : Int) < k := by omega
          have JK := Lib.hid hjk
          have j60 : (j : Int) < 60 := by omega
          clear hjk hj
          go_wp2_with fail
          refine (xput (chF q j) HJ.out (chF_i64 q j Q3.out (by have := JK.out; have := K60.out; omega)) (by have := chX_len q k t j (by have := JK.out; omega); have := K60.out; omega)).mono ?_
          rintro e w2 ⟨rfl, hst⟩
          rw [chX_put q k Q3.out K60.out t j JK.out] at hst ⊢
          have H2 := Lib.hid hst
          clear hst HJ
          rw [show ((j + 1 : Nat) : Int) = (j : Int) + 1 from by omega]
          go_wp2_with fail
          refine (xdeep ((j : Int) + 1) H2.out).mono ?_
          rintro e w3 ⟨rfl, hst⟩
          rw [chX_deep q k t j JK.out]
          have H3 := Lib.hid hst
          clear hst H2
          go_wp2_with fail
          go_roundw
          case rel => exact ⟨j + 1, by go_num, by go_num, by have := JK.out; omega, H3.out⟩
          case measure => simp [intOf]; have := JK.out; omega
        · obtain rfl : j = k := by omega
          have HJ2 := Lib.hid (show SX w wr p m 100 (chM q j) from by have := HJ.out; rw [chX_end] at this; exact this)
          clear hjk hj HJ
          go_wp2_with fail
          refine (xlen HJ2.out).mono ?_
          rintro e w2 ⟨rfl, hst⟩
          rw [show (((chM q j).length : Nat) : Int) - 1 = (j : Int) from by rw [chM_len]; omega]
          have H2 := Lib.hid hst
          clear hst HJ2
          go_wp2_with fail
          go_roundw
          case rel => exact ⟨t + 1, by go_num, by omega, by rw [chX_next]; exact H2.out⟩
          case measure => simp [intOf]; omega
    · go_wp2_with fail
      refine (fixed_any wr).mono ?_
      rintro e w2 ⟨rfl, hB⟩
      have B2 := Lib.hid (thenB HS.out.low hB HS.out.low.size)
      clear hB
      go_wp2_with fail
      go_ret
      exact ⟨rfl, B2.out⟩
end Go.Proofs.Ytecfndpbgebpiaa
