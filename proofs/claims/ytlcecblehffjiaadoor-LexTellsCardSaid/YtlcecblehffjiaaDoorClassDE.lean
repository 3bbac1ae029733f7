/-
  ClassD, ClassE
-/
import Derived.Test.YtlcecblehffjiaaDoorClassBC
import Derived.Test.YtlcecblehffjiaaDoorPop
import Derived.Laws.Bits128
import Derived.Lib.TrailingZeros
namespace Go.Proofs.YtlcecblehffjiaaDoor
open Go.RowKit

def g1 (x : Int) : Int := IntKind.u64.wrap (bits BinOp.and IntKind.u64 (x / 2) 6148914691236517205 + bits BinOp.and IntKind.u64 x 6148914691236517205)
def g2 (x : Int) : Int := IntKind.u64.wrap (bits BinOp.and IntKind.u64 (x / 4) 3689348814741910323 + bits BinOp.and IntKind.u64 x 3689348814741910323)
def g3 (x : Int) : Int := bits BinOp.and IntKind.u64 (IntKind.u64.wrap (x / 16 + x)) 1085102592571150095
def g4 (x : Int) : Int := IntKind.u64.wrap (x + x / 256)
def g5 (x : Int) : Int := IntKind.u64.wrap (x + x / 65536)
def g6 (x : Int) : Int := IntKind.u64.wrap (x + x / 4294967296)

theorem wrap_nat (n : Nat) (h : n < 18446744073709551616) : IntKind.u64.wrap (n : Int) = (n : Int) := by rw [IntKind.wrap_u64]; omega
theorem g1_nat (x : Nat) (hx : x < 18446744073709551616) (h : pop1 x < 18446744073709551616) : g1 x = (pop1 x : Int) := by
  unfold g1
  rw [show (x : Int) / 2 = ((x / 2 : Nat) : Int) by omega, show (6148914691236517205 : Int) = ((6148914691236517205 : Nat) : Int) from rfl, u64_and_nat _ _ (by omega) (by decide), u64_and_nat _ _ hx (by decide), ← Int.natCast_add]
  exact wrap_nat _ h
theorem g2_nat (x : Nat) (hx : x < 18446744073709551616) (h : pop2 x < 18446744073709551616) : g2 x = (pop2 x : Int) := by
  unfold g2
  rw [show (x : Int) / 4 = ((x / 4 : Nat) : Int) by omega, show (3689348814741910323 : Int) = ((3689348814741910323 : Nat) : Int) from rfl, u64_and_nat _ _ (by omega) (by decide), u64_and_nat _ _ hx (by decide), ← Int.natCast_add]
  exact wrap_nat _ h
theorem g3_nat (x : Nat) (h : x / 16 + x < 18446744073709551616) : g3 x = (pop3 x : Int) := by
  unfold g3
  rw [show (x : Int) / 16 + x = ((x / 16 + x : Nat) : Int) by omega, wrap_nat _ h, show (1085102592571150095 : Int) = ((1085102592571150095 : Nat) : Int) from rfl, u64_and_nat _ _ h (by decide)]
  rfl

theorem g4_nat (x q : Nat) (hq : x / 256 = q) (h : x + q < 18446744073709551616) : g4 x = ((x + q : Nat) : Int) := by
  unfold g4
  rw [show (x : Int) / 256 = ((x / 256 : Nat) : Int) by omega, hq, ← Int.natCast_add]
  exact wrap_nat _ h
theorem g5_nat (x q : Nat) (hq : x / 65536 = q) (h : x + q < 18446744073709551616) : g5 x = ((x + q : Nat) : Int) := by
  unfold g5
  rw [show (x : Int) / 65536 = ((x / 65536 : Nat) : Int) by omega, hq, ← Int.natCast_add]
  exact wrap_nat _ h
theorem g6_nat (x q : Nat) (hq : x / 4294967296 = q) (h : x + q < 18446744073709551616) : g6 x = ((x + q : Nat) : Int) := by
  unfold g6
  rw [show (x : Int) / 4294967296 = ((x / 4294967296 : Nat) : Int) by omega, hq, ← Int.natCast_add]
  exact wrap_nat _ h

theorem stage4 (v0 v1 v2 v3 v4 v5 v6 v7 : Nat) (h0 : v0 ≤ 8) (h1 : v1 ≤ 8) (h2 : v2 ≤ 8) (h3 : v3 ≤ 8) (h4 : v4 ≤ 8) (h5 : v5 ≤ 8) (h6 : v6 ≤ 8) (h7 : v7 ≤ 8) : g4 ((v0 + 256 * (v1 + 256 * (v2 + 256 * (v3 + 256 * (v4 + 256 * (v5 + 256 * (v6 + 256 * v7)))))) : Nat) : Int) = ((v0 + v1 + 256 * (v1 + v2 + 256 * (v2 + v3 + 256 * (v3 + v4 + 256 * (v4 + v5 + 256 * (v5 + v6 + 256 * (v6 + v7 + 256 * v7)))))) : Nat) : Int) := by
  have hq : (v0 + 256 * (v1 + 256 * (v2 + 256 * (v3 + 256 * (v4 + 256 * (v5 + 256 * (v6 + 256 * v7))))))) / 256 = v1 + 256 * (v2 + 256 * (v3 + 256 * (v4 + 256 * (v5 + 256 * (v6 + 256 * v7))))) := by omega
  rw [g4_nat _ _ hq (by omega)]
  congr 1
  clear hq
  omega
theorem stage5 (a0 a1 a2 a3 a4 a5 a6 a7 : Nat) (h0 : a0 ≤ 16) (h1 : a1 ≤ 16) (h2 : a2 ≤ 16) (h3 : a3 ≤ 16) (h4 : a4 ≤ 16) (h5 : a5 ≤ 16) (h6 : a6 ≤ 16) (h7 : a7 ≤ 16) : g5 ((a0 + 256 * (a1 + 256 * (a2 + 256 * (a3 + 256 * (a4 + 256 * (a5 + 256 * (a6 + 256 * a7)))))) : Nat) : Int) = ((a0 + a2 + 256 * (a1 + a3 + 256 * (a2 + a4 + 256 * (a3 + a5 + 256 * (a4 + a6 + 256 * (a5 + a7 + 256 * (a6 + 256 * a7)))))) : Nat) : Int) := by
  have hq : (a0 + 256 * (a1 + 256 * (a2 + 256 * (a3 + 256 * (a4 + 256 * (a5 + 256 * (a6 + 256 * a7))))))) / 65536 = a2 + 256 * (a3 + 256 * (a4 + 256 * (a5 + 256 * (a6 + 256 * a7)))) := by omega
  rw [g5_nat _ _ hq (by omega)]
  congr 1
  clear hq
  omega
theorem stage6 (a0 a1 a2 a3 a4 a5 a6 a7 : Nat) (h0 : a0 ≤ 32) (h1 : a1 ≤ 32) (h2 : a2 ≤ 32) (h3 : a3 ≤ 32) (h4 : a4 ≤ 32) (h5 : a5 ≤ 32) (h6 : a6 ≤ 32) (h7 : a7 ≤ 32) : g6 ((a0 + 256 * (a1 + 256 * (a2 + 256 * (a3 + 256 * (a4 + 256 * (a5 + 256 * (a6 + 256 * a7)))))) : Nat) : Int) = ((a0 + a4 + 256 * (a1 + a5 + 256 * (a2 + a6 + 256 * (a3 + a7 + 256 * (a4 + 256 * (a5 + 256 * (a6 + 256 * a7)))))) : Nat) : Int) := by
  have hq : (a0 + 256 * (a1 + 256 * (a2 + 256 * (a3 + 256 * (a4 + 256 * (a5 + 256 * (a6 + 256 * a7))))))) / 4294967296 = a4 + 256 * (a5 + 256 * (a6 + 256 * a7)) := by omega
  rw [g6_nat _ _ hq (by omega)]
  congr 1
  clear hq
  omega
theorem stage7 (p R : Nat) (hp : p < 128) : wrap64 ((p + 256 * R : Nat) : Int) % 128 = (p : Int) := by
  unfold wrap64
  omega
theorem ones_arith (x : Nat) (hx : x < 18446744073709551616) : bits BinOp.and IntKind.i64 (wrap64 (g6 (g5 (g4 (g3 (g2 (g1 x))))))) 127 = (pop x : Int) := by
  obtain ⟨v0, v1, v2, v3, v4, v5, v6, v7, k1, k2, k3, e, b0, b1, b2, b3, b4, b5, b6, b7, hs⟩ := pop_steps x hx
  rw [g1_nat x hx k1, g2_nat _ k1 k2, g3_nat _ k3, e, i64_and127, stage4 v0 v1 v2 v3 v4 v5 v6 v7 b0 b1 b2 b3 b4 b5 b6 b7,
    stage5 (v0 + v1) (v1 + v2) (v2 + v3) (v3 + v4) (v4 + v5) (v5 + v6) (v6 + v7) v7 (by omega) (by omega) (by omega) (by omega) (by omega) (by omega) (by omega) (by omega),
    stage6 (v0 + v1 + (v2 + v3)) (v1 + v2 + (v3 + v4)) (v2 + v3 + (v4 + v5)) (v3 + v4 + (v5 + v6)) (v4 + v5 + (v6 + v7)) (v5 + v6 + v7) (v6 + v7) v7 (by omega) (by omega) (by omega) (by omega) (by omega) (by omega) (by omega) (by omega),
    stage7 _ _ (by omega)]
  rw [← hs]
  congr 1
  clear hs e k1 k2 k3 hx
  omega

theorem pop_le (x : Nat) : (pop x : Int) ≤ 64 := by have := cntTo_le x.testBit 64; unfold pop; omega

set_option maxHeartbeats 1000000 in
theorem ones_any (x : Nat) (w : World) (hx : x < 18446744073709551616) :
    Calls Tryd.prog 67 #[.int .u64 x] w fun e w' => e = .returned (.int .i64 (pop x)) ∧ w = w' := by
  have HX := Lib.hid hx
  clear hx
  go_enter Tryd.func67, Tryd.ntmps67
  go_wp2
  go_ret
  refine ⟨congrArg (fun n => Ending.returned (.int .i64 n)) (show bits BinOp.and IntKind.i64 (wrap64 (g6 (g5 (g4 (g3 (g2 (g1 x))))))) 127 = _ from ones_arith x HX.out), rfl⟩

/-- How many bytes a set has. -/
def lenS (S : BitVec 256) : Nat := cntTo S.getLsbD 256
theorem pop_W (S : BitVec 256) (i : Nat) : pop (W S i) = cntTo (fun k => S.getLsbD (64 * i + k)) 64 := by
  unfold pop
  exact cntTo_congr 64 fun k hk => by rw [W_bit]; simp [hk]
theorem lenS_words (S : BitVec 256) : lenS S = pop (W S 0) + pop (W S 1) + pop (W S 2) + pop (W S 3) := by
  unfold lenS
  rw [pop_W, pop_W, pop_W, pop_W]
  show cntTo S.getLsbD (((64 + 64) + 64) + 64) = _
  rw [cntTo_add, cntTo_add, cntTo_add]
  simp only [Nat.mul_zero, Nat.zero_add, Nat.mul_one, show 64 + 64 = 64 * 2 from rfl, show 64 * 2 + 64 = 64 * 3 from rfl]

theorem index4 (a b c d : Value) (w : World) : (Instr.index 34 (.agg #[a, b, c, d]) (.int .i64 0)).run Tryd.prog w = .ok a w ∧ (Instr.index 34 (.agg #[a, b, c, d]) (.int .i64 1)).run Tryd.prog w = .ok b w ∧
    (Instr.index 34 (.agg #[a, b, c, d]) (.int .i64 2)).run Tryd.prog w = .ok c w ∧ (Instr.index 34 (.agg #[a, b, c, d]) (.int .i64 3)).run Tryd.prog w = .ok d w := ⟨by kernel_rfl, by kernel_rfl, by kernel_rfl, by kernel_rfl⟩

set_option maxHeartbeats 1000000 in
theorem len_any (S : BitVec 256) (w : World) :
    Calls Tryd.prog 52 #[setV S] w fun e w' => e = .returned (.int .i64 (lenS S)) ∧ Below w.heap.size w w' := by
  have HL := Lib.hid (lenS_words S)
  have p0 := pop_le (W S 0)
  have p1 := pop_le (W S 1)
  have p2 := pop_le (W S 2)
  have p3 := pop_le (W S 3)
  have i4 := fun w => index4 (.int .u64 (W S 0)) (.int .u64 (W S 1)) (.int .u64 (W S 2)) (.int .u64 (W S 3)) w
  have i0 := fun w => (i4 w).1
  have i1 := fun w => (i4 w).2.1
  have i2 := fun w => (i4 w).2.2.1
  have i3 := fun w => (i4 w).2.2.2
  clear i4
  go_enter Tryd.func52, Tryd.ntmps52
  go_wp2
  refine wp_loop_rounds 5 ?_
  rw [rounds_succ]; go_wp2_with (go_at_call 67; refine (ones_any _ _ (W_lt _ _)).mono ?_; rintro e w' ⟨rfl, rfl⟩)
  rw [rounds_succ]; go_wp2_with (go_at_call 67; refine (ones_any _ _ (W_lt _ _)).mono ?_; rintro e w' ⟨rfl, rfl⟩)
  rw [rounds_succ]; go_wp2_with (go_at_call 67; refine (ones_any _ _ (W_lt _ _)).mono ?_; rintro e w' ⟨rfl, rfl⟩)
  rw [rounds_succ]; go_wp2_with (go_at_call 67; refine (ones_any _ _ (W_lt _ _)).mono ?_; rintro e w' ⟨rfl, rfl⟩)
  rw [rounds_succ]; go_wp2
  go_ret
  refine ⟨congrArg (fun n => Ending.returned (.int .i64 n)) ?_, by go_grown⟩
  rw [HL.out]
  simp

/-- The table of math/bits.TrailingZeros64 lies in the block of its variable as its initialiser lays it. -/
def TabOk (w : World) : Prop := ∀ j, j < 64 → w.cell? ⟨1, j, none⟩ = some (.int .u8 ((Lib.deBruijn64tab.getD j 0 : Nat) : Int))
theorem TabOk.lt {w : World} (h : TabOk w) : 1 < w.heap.size := block_lt_of_cell (h 0 (by decide))
theorem TabOk.call {w w' : World} (h : TabOk w) (hb : Below w.heap.size w w') : TabOk w' := fun j hj => (hb.cell (p := ⟨1, j, none⟩) h.lt).trans (h j hj)
theorem TabOk.alloc {w : World} (h : TabOk w) (o : Obj) : TabOk (w.alloc o) := fun j hj => (World.cell?_alloc_past (w := w) o _ j h.lt).trans (h j hj)

theorem low_bit (x k m : Nat) (hx : x = 2 ^ k * (2 * m + 1)) (hlt : x < 18446744073709551616) :
    IntKind.u64.wrap (bits BinOp.and IntKind.u64 (x : Int) (IntKind.u64.wrap (-(x : Int))) * 285870213051353865) / 288230376151711744 = ((2 ^ k * 285870213051353865 % 18446744073709551616 / 288230376151711744 : Nat) : Int) := by
  have hpos : 0 < x := by rw [hx]; exact Nat.mul_pos (Nat.pow_pos (by decide)) (by omega)
  have e1 : IntKind.u64.wrap (-(x : Int)) = ((18446744073709551616 - x : Nat) : Int) := by rw [IntKind.wrap_u64]; omega
  have e2 : x &&& (18446744073709551616 - x) = 2 ^ k := by
    have h := Lib.and_neg 64 k m (by rw [← hx]; exact hlt)
    rw [← hx] at h
    exact h
  rw [e1, u64_and_nat _ _ hlt (by omega), e2, IntKind.wrap_u64]
  generalize 2 ^ k = y
  omega

theorem pow_split_lt (k m : Nat) (h : 2 ^ k * (2 * m + 1) < 18446744073709551616) : k < 64 := by
  apply Nat.lt_of_not_le
  intro hk
  have h1 : 2 ^ 64 ≤ 2 ^ k := Nat.pow_le_pow_right (by decide) hk
  have h2 : 2 ^ k ≤ 2 ^ k * (2 * m + 1) := Nat.le_mul_of_pos_right _ (by omega)
  have h3 : (2 : Nat) ^ 64 = 18446744073709551616 := by decide
  omega

set_option maxHeartbeats 1000000 in
theorem tz_core (x k idx : Nat) (w : World) (hx0 : ((x : Int) == 0) = false)
    (key : IntKind.u64.wrap (bits BinOp.and IntKind.u64 (x : Int) (IntKind.u64.wrap (-(x : Int))) * 285870213051353865) / 288230376151711744 = (idx : Int))
    (hi : idx < 64) (hk : k < 64) (hcell : w.cell? ⟨1, idx, none⟩ = some (.int .u8 k)) :
    Calls Tryd.prog 66 #[.int .u64 x] w fun e w' => e = .returned (.int .i64 k) ∧ w = w' := by
  go_enter Tryd.func66, Tryd.ntmps66
  go_wp2_with (simp only [key])
  go_ret
  exact ⟨rfl, rfl⟩

theorem tz_any (x k m : Nat) (w : World) (hx : x = 2 ^ k * (2 * m + 1)) (hlt : x < 18446744073709551616) (ht : TabOk w) :
    Calls Tryd.prog 66 #[.int .u64 x] w fun e w' => e = .returned (.int .i64 k) ∧ w = w' := by
  have hk : k < 64 := pow_split_lt k m (by rw [← hx]; exact hlt)
  have hpos : 0 < x := by rw [hx]; exact Nat.mul_pos (Nat.pow_pos (by decide)) (by omega)
  obtain ⟨hj, hv⟩ := Lib.deBruijn64_at k hk
  have hc := ht _ hj
  rw [hv] at hc
  exact tz_core x k _ w (by simp; omega) (low_bit x k m hx hlt) hj hk hc

/-- The least byte of a set. -/
def minS (S : BitVec 256) : Nat := ((List.range 256).find? S.getLsbD).getD 0
theorem minS_eq (S : BitVec 256) (m : Nat) (hm : m < 256) (h : S.getLsbD m = true) (hn : ∀ k, k < m → S.getLsbD k = false) : minS S = m := by
  unfold minS
  have : (List.range 256).find? S.getLsbD = some m := by
    rw [List.find?_range_eq_some]
    exact ⟨h, by simpa using hm, by simpa using hn⟩
  rw [this]; rfl
end Go.Proofs.YtlcecblehffjiaaDoor

namespace Go.Proofs.YtlcecblehffjiaaDoor
open Go.RowKit

theorem min_words (S : BitVec 256) (i k m : Nat) (hi : i < 4) (hk : k < 64) (hw : W S i = 2 ^ k * (2 * m + 1)) (hz : ∀ j, j < i → W S j = 0) : minS S = 64 * i + k := by
  refine minS_eq S _ (by omega) ?_ ?_
  · rw [← bit_W, show (64 * i + k) / 64 = i by omega, show (64 * i + k) % 64 = k by omega, hw, Nat.mul_comm, Nat.testBit_mul_two_pow]
    simp
  · intro n hn
    rw [← bit_W]
    by_cases hlt : n / 64 < i
    · rw [hz _ hlt]; simp
    · have e : n / 64 = i := by omega
      rw [e, hw, Nat.mul_comm, Nat.testBit_mul_two_pow]
      have : ¬ k ≤ n % 64 := by omega
      simp [this]

theorem min_none (S : BitVec 256) (h : S = 0#256) : minS S = 0 := by
  subst h; decide +kernel

set_option maxHeartbeats 1000000 in
theorem min_no (S : BitVec 256) (w : World) (h : S = 0#256) :
    Calls Tryd.prog 51 #[setV S] w fun e w' => e = .returned (.tuple #[.int .u8 0, .bool false]) ∧ Below w.heap.size w w' := by
  have hd : decide (S = 0#256) = true := by simp [h]
  have H := Lib.hid h
  clear h
  go_enter Tryd.func51, Tryd.ntmps51
  go_wp2_with fail
  refine (none_any S _).mono ?_
  rintro e w1 ⟨rfl, hb⟩
  go_wp2
  go_ret2
  refine ⟨rfl, ?_⟩
  refine thenB ?_ hb (by simp)
  go_grown

theorem ctz_split (x : Nat) (h0 : x ≠ 0) (h : x < 18446744073709551616) : ∃ k m, k < 64 ∧ x = 2 ^ k * (2 * m + 1) := by
  obtain ⟨m, hm, hk⟩ := Lib.ctzFrom_spec 64 x (by omega) h
  exact ⟨_, m, hk, hm⟩

set_option maxHeartbeats 1000000 in
theorem min_at (S : BitVec 256) (i k : Nat) (w : World) (hi : i < 4) (hk : k < 64) (hd : decide (S = 0#256) = false) (ht : TabOk w)
    (hz : ∀ j : Nat, j < i → ((W S j : Int) == 0) = true) (hn : ((W S i : Int) == 0) = false) (hm : ∃ m, W S i = 2 ^ k * (2 * m + 1)) :
    Calls Tryd.prog 51 #[setV S] w fun e w' => e = .returned (.tuple #[.int .u8 ((64 * i + k : Nat) : Int), .bool true]) ∧ Below w.heap.size w w' := by
  have HM := Lib.hid hm
  have HT := Lib.hid ht
  have HZ := Lib.hid hz
  clear hm ht hz
  have k0 : (0 : Int) ≤ k := by omega
  have k1 : (k : Int) < 64 := by omega
  rcases (show i = 0 ∨ i = 1 ∨ i = 2 ∨ i = 3 by omega) with rfl | rfl | rfl | rfl
  · go_enter Tryd.func51, Tryd.ntmps51
    go_wp2_with fail
    refine (none_any S _).mono ?_
    rintro e w1 ⟨rfl, hb⟩
    have hbx := (Box.new w S).call hb
    obtain ⟨c0, c1, c2, c3⟩ := hbx.cells
    have HT1 := Lib.hid ((HT.out.alloc _).call hb)
    have HB := Lib.hid (thenB ((Below.refl _ _).alloc (Nat.le_refl _) _) hb (by simp))
    clear hb hbx
    go_wp2_with fail
    refine wp_loop_rounds 1 ?_
    rw [rounds_succ]; go_wp2_with fail
    obtain ⟨m, hm⟩ := HM.out
    refine (tz_any (W S 0) k m _ hm (W_lt _ _) HT1.out).mono ?_
    rintro e w2 ⟨rfl, rfl⟩
    have HM2 := Lib.hid hm
    clear hm
    go_wp2
    go_ret2
    refine ⟨by simp, HB.out⟩
  · have z0 := HZ.out 0 (by decide)
    go_enter Tryd.func51, Tryd.ntmps51
    go_wp2_with fail
    refine (none_any S _).mono ?_
    rintro e w1 ⟨rfl, hb⟩
    have hbx := (Box.new w S).call hb
    obtain ⟨c0, c1, c2, c3⟩ := hbx.cells
    have HT1 := Lib.hid ((HT.out.alloc _).call hb)
    have HB := Lib.hid (thenB ((Below.refl _ _).alloc (Nat.le_refl _) _) hb (by simp))
    clear hb hbx
    go_wp2_with fail
    refine wp_loop_rounds 2 ?_
    rw [rounds_succ]; go_wp2_with fail
    rw [rounds_succ]; go_wp2_with fail
    obtain ⟨m, hm⟩ := HM.out
    refine (tz_any (W S 1) k m _ hm (W_lt _ _) HT1.out).mono ?_
    rintro e w2 ⟨rfl, rfl⟩
    have HM2 := Lib.hid hm
    clear hm
    go_wp2
    go_ret2
    refine ⟨by simp, HB.out⟩
  · have z0 := HZ.out 0 (by decide)
    have z1 := HZ.out 1 (by decide)
    go_enter Tryd.func51, Tryd.ntmps51
    go_wp2_with fail
    refine (none_any S _).mono ?_
    rintro e w1 ⟨rfl, hb⟩
    have hbx := (Box.new w S).call hb
    obtain ⟨c0, c1, c2, c3⟩ := hbx.cells
    have HT1 := Lib.hid ((HT.out.alloc _).call hb)
    have HB := Lib.hid (thenB ((Below.refl _ _).alloc (Nat.le_refl _) _) hb (by simp))
    clear hb hbx
    go_wp2_with fail
    refine wp_loop_rounds 3 ?_
    rw [rounds_succ]; go_wp2_with fail
    rw [rounds_succ]; go_wp2_with fail
    rw [rounds_succ]; go_wp2_with fail
    obtain ⟨m, hm⟩ := HM.out
    refine (tz_any (W S 2) k m _ hm (W_lt _ _) HT1.out).mono ?_
    rintro e w2 ⟨rfl, rfl⟩
    have HM2 := Lib.hid hm
    clear hm
    go_wp2
    go_ret2
    refine ⟨by simp, HB.out⟩
  · have z0 := HZ.out 0 (by decide)
    have z1 := HZ.out 1 (by decide)
    have z2 := HZ.out 2 (by decide)
    go_enter Tryd.func51, Tryd.ntmps51
    go_wp2_with fail
    refine (none_any S _).mono ?_
    rintro e w1 ⟨rfl, hb⟩
    have hbx := (Box.new w S).call hb
    obtain ⟨c0, c1, c2, c3⟩ := hbx.cells
    have HT1 := Lib.hid ((HT.out.alloc _).call hb)
    have HB := Lib.hid (thenB ((Below.refl _ _).alloc (Nat.le_refl _) _) hb (by simp))
    clear hb hbx
    go_wp2_with fail
    refine wp_loop_rounds 4 ?_
    rw [rounds_succ]; go_wp2_with fail
    rw [rounds_succ]; go_wp2_with fail
    rw [rounds_succ]; go_wp2_with fail
    rw [rounds_succ]; go_wp2_with fail
    obtain ⟨m, hm⟩ := HM.out
    refine (tz_any (W S 3) k m _ hm (W_lt _ _) HT1.out).mono ?_
    rintro e w2 ⟨rfl, rfl⟩
    have HM2 := Lib.hid hm
    clear hm
    go_wp2
    go_ret2
    refine ⟨by simp, HB.out⟩

theorem min_yes (S : BitVec 256) (w : World) (h : S ≠ 0#256) (ht : TabOk w) :
    Calls Tryd.prog 51 #[setV S] w fun e w' => e = .returned (.tuple #[.int .u8 ((minS S : Nat) : Int), .bool true]) ∧ Below w.heap.size w w' := by
  have key : ∃ i, i < 4 ∧ W S i ≠ 0 ∧ ∀ j, j < i → W S j = 0 := by
    by_cases h0 : W S 0 = 0
    · by_cases h1 : W S 1 = 0
      · by_cases h2 : W S 2 = 0
        · by_cases h3 : W S 3 = 0
          · exact absurd (eq_of_W (by rw [h0, W_zero]) (by rw [h1, W_zero]) (by rw [h2, W_zero]) (by rw [h3, W_zero])) h
          · exact ⟨3, by decide, h3, fun j hj => by rcases (show j = 0 ∨ j = 1 ∨ j = 2 by omega) with rfl | rfl | rfl <;> assumption⟩
        · exact ⟨2, by decide, h2, fun j hj => by rcases (show j = 0 ∨ j = 1 by omega) with rfl | rfl <;> assumption⟩
      · exact ⟨1, by decide, h1, fun j hj => by rcases (show j = 0 by omega) with rfl; assumption⟩
    · exact ⟨0, by decide, h0, fun j hj => by omega⟩
  obtain ⟨i, hi, hn, hz⟩ := key
  obtain ⟨k, m, hk, hm⟩ := ctz_split (W S i) hn (W_lt _ _)
  rw [min_words S i k m hi hk hm hz]
  exact min_at S i k w hi hk (by simp [h]) ht (fun j hj => by rw [hz j hj]; rfl) (by simp; omega) ⟨m, hm⟩
end Go.Proofs.YtlcecblehffjiaaDoor
