/-
  What Set.Min does.
-/
import Derived.Test.YtlcecblehffjiaaDoorClassD
namespace Go.Proofs.YtlcecblehffjiaaDoor
open Go.RowKit

theorem min_words (S : BitVec 256) (i k m : Nat) (hi : i < 4) (hk : k < 64) (hw : W S i = 2 ^ k * (2 * m + 1)) (hz : ∀ j, j < i → W S j = 0) : minS S = 64 * i + k := by
  refine minS_eq S _ (by omega) ?_ ?_
  · rw [← bit_W, show (64 * i + k) / 64 = i by omega, show (64 * i + k) % 64 = k by omega, hw, Nat.mul_comm, Nat.testBit_mul_two_pow]
    simp
  · intro n hn
    rw [← bit_W]
    by_cases hlt : n / 64 < i
    · rw [hz _ hlt]; simp
    · have e : n / 64 = i := by omega
      rw [e, hw, Nat.mul_comm, Nat.testBit_mul_two_pow]
      have : ¬ k ≤ n % 64 := by omega
      simp [this]

theorem min_none (S : BitVec 256) (h : S = 0#256) : minS S = 0 := by
  subst h; decide +kernel

set_option maxHeartbeats 1000000 in
theorem min_no (S : BitVec 256) (w : World) (h : S = 0#256) :
    Calls Tryd.prog 51 #[setV S] w fun e w' => e = .returned (.tuple #[.int .u8 0, .bool false]) ∧ Below w.heap.size w w' := by
  have hd : decide (S = 0#256) = true := by simp [h]
  have H := Lib.hid h
  clear h
  go_enter Tryd.func51, Tryd.ntmps51
  go_wp2_with fail
  refine (none_any S _).mono ?_
  rintro e w1 ⟨rfl, hb⟩
  go_wp2
  go_ret2
  refine ⟨rfl, ?_⟩
  refine thenB ?_ hb (by simp)
  go_grown

theorem ctz_split (x : Nat) (h0 : x ≠ 0) (h : x < 18446744073709551616) : ∃ k m, k < 64 ∧ x = 2 ^ k * (2 * m + 1) := by
  obtain ⟨m, hm, hk⟩ := Lib.ctzFrom_spec 64 x (by omega) h
  exact ⟨_, m, hk, hm⟩

set_option maxHeartbeats 1000000 in
theorem min_at (S : BitVec 256) (i k : Nat) (w : World) (hi : i < 4) (hk : k < 64) (hd : decide (S = 0#256) = false) (ht : TabOk w)
    (hz : ∀ j : Nat, j < i → ((W S j : Int) == 0) = true) (hn : ((W S i : Int) == 0) = false) (hm : ∃ m, W S i = 2 ^ k * (2 * m + 1)) :
    Calls Tryd.prog 51 #[setV S] w fun e w' => e = .returned (.tuple #[.int .u8 ((64 * i + k : Nat) : Int), .bool true]) ∧ Below w.heap.size w w' := by
  have HM := Lib.hid hm
  have HT := Lib.hid ht
  have HZ := Lib.hid hz
  clear hm ht hz
  have k0 : (0 : Int) ≤ k := by omega
  have k1 : (k : Int) < 64 := by omega
  rcases (show i = 0 ∨ i = 1 ∨ i = 2 ∨ i = 3 by omega) with rfl | rfl | rfl | rfl
  · go_enter Tryd.func51, Tryd.ntmps51
    go_wp2_with fail
    refine (none_any S _).mono ?_
    rintro e w1 ⟨rfl, hb⟩
    have hbx := (Box.new w S).call hb
    obtain ⟨c0, c1, c2, c3⟩ := hbx.cells
    have HT1 := Lib.hid ((HT.out.alloc _).call hb)
    have HB := Lib.hid (thenB ((Below.refl _ _).alloc (Nat.le_refl _) _) hb (by simp))
    clear hb hbx
    go_wp2_with fail
    refine wp_loop_rounds 1 ?_
    rw [rounds_succ]; go_wp2_with fail
    obtain ⟨m, hm⟩ := HM.out
    refine (tz_any (W S 0) k m _ hm (W_lt _ _) HT1.out).mono ?_
    rintro e w2 ⟨rfl, rfl⟩
    have HM2 := Lib.hid hm
    clear hm
    go_wp2
    go_ret2
    refine ⟨by simp, HB.out⟩
  · have z0 := HZ.out 0 (by decide)
    go_enter Tryd.func51, Tryd.ntmps51
    go_wp2_with fail
    refine (none_any S _).mono ?_
    rintro e w1 ⟨rfl, hb⟩
    have hbx := (Box.new w S).call hb
    obtain ⟨c0, c1, c2, c3⟩ := hbx.cells
    have HT1 := Lib.hid ((HT.out.alloc _).call hb)
    have HB := Lib.hid (thenB ((Below.refl _ _).alloc (Nat.le_refl _) _) hb (by simp))
    clear hb hbx
    go_wp2_with fail
    refine wp_loop_rounds 2 ?_
    rw [rounds_succ]; go_wp2_with fail
    rw [rounds_succ]; go_wp2_with fail
    obtain ⟨m, hm⟩ := HM.out
    refine (tz_any (W S 1) k m _ hm (W_lt _ _) HT1.out).mono ?_
    rintro e w2 ⟨rfl, rfl⟩
    have HM2 := Lib.hid hm
    clear hm
    go_wp2
    go_ret2
    refine ⟨by simp, HB.out⟩
  · have z0 := HZ.out 0 (by decide)
    have z1 := HZ.out 1 (by decide)
    go_enter Tryd.func51, Tryd.ntmps51
    go_wp2_with fail
    refine (none_any S _).mono ?_
    rintro e w1 ⟨rfl, hb⟩
    have hbx := (Box.new w S).call hb
    obtain ⟨c0, c1, c2, c3⟩ := hbx.cells
    have HT1 := Lib.hid ((HT.out.alloc _).call hb)
    have HB := Lib.hid (thenB ((Below.refl _ _).alloc (Nat.le_refl _) _) hb (by simp))
    clear hb hbx
    go_wp2_with fail
    refine wp_loop_rounds 3 ?_
    rw [rounds_succ]; go_wp2_with fail
    rw [rounds_succ]; go_wp2_with fail
    rw [rounds_succ]; go_wp2_with fail
    obtain ⟨m, hm⟩ := HM.out
    refine (tz_any (W S 2) k m _ hm (W_lt _ _) HT1.out).mono ?_
    rintro e w2 ⟨rfl, rfl⟩
    have HM2 := Lib.hid hm
    clear hm
    go_wp2
    go_ret2
    refine ⟨by simp, HB.out⟩
  · have z0 := HZ.out 0 (by decide)
    have z1 := HZ.out 1 (by decide)
    have z2 := HZ.out 2 (by decide)
    go_enter Tryd.func51, Tryd.ntmps51
    go_wp2_with fail
    refine (none_any S _).mono ?_
    rintro e w1 ⟨rfl, hb⟩
    have hbx := (Box.new w S).call hb
    obtain ⟨c0, c1, c2, c3⟩ := hbx.cells
    have HT1 := Lib.hid ((HT.out.alloc _).call hb)
    have HB := Lib.hid (thenB ((Below.refl _ _).alloc (Nat.le_refl _) _) hb (by simp))
    clear hb hbx
    go_wp2_with fail
    refine wp_loop_rounds 4 ?_
    rw [rounds_succ]; go_wp2_with fail
    rw [rounds_succ]; go_wp2_with fail
    rw [rounds_succ]; go_wp2_with fail
    rw [rounds_succ]; go_wp2_with fail
    obtain ⟨m, hm⟩ := HM.out
    refine (tz_any (W S 3) k m _ hm (W_lt _ _) HT1.out).mono ?_
    rintro e w2 ⟨rfl, rfl⟩
    have HM2 := Lib.hid hm
    clear hm
    go_wp2
    go_ret2
    refine ⟨by simp, HB.out⟩

theorem min_yes (S : BitVec 256) (w : World) (h : S ≠ 0#256) (ht : TabOk w) :
    Calls Tryd.prog 51 #[setV S] w fun e w' => e = .returned (.tuple #[.int .u8 ((minS S : Nat) : Int), .bool true]) ∧ Below w.heap.size w w' := by
  have key : ∃ i, i < 4 ∧ W S i ≠ 0 ∧ ∀ j, j < i → W S j = 0 := by
    by_cases h0 : W S 0 = 0
    · by_cases h1 : W S 1 = 0
      · by_cases h2 : W S 2 = 0
        · by_cases h3 : W S 3 = 0
          · exact absurd (eq_of_W (by rw [h0, W_zero]) (by rw [h1, W_zero]) (by rw [h2, W_zero]) (by rw [h3, W_zero])) h
          · exact ⟨3, by decide, h3, fun j hj => by rcases (show j = 0 ∨ j = 1 ∨ j = 2 by omega) with rfl | rfl | rfl <;> assumption⟩
        · exact ⟨2, by decide, h2, fun j hj => by rcases (show j = 0 ∨ j = 1 by omega) with rfl | rfl <;> assumption⟩
      · exact ⟨1, by decide, h1, fun j hj => by rcases (show j = 0 by omega) with rfl; assumption⟩
    · exact ⟨0, by decide, h0, fun j hj => by omega⟩
  obtain ⟨i, hi, hn, hz⟩ := key
  obtain ⟨k, m, hk, hm⟩ := ctz_split (W S i) hn (W_lt _ _)
  rw [min_words S i k m hi hk hm hz]
  exact min_at S i k w hi hk (by simp [h]) ht (fun j hj => by rw [hz j hj]; rfl) (by simp; omega) ⟨m, hm⟩
end Go.Proofs.YtlcecblehffjiaaDoor
