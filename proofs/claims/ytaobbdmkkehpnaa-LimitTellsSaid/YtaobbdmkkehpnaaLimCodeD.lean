/-
  What the landed package limit does: New, and what is moved.
-/
import Derived.Test.YtaobbdmkkehpnaaLimCodeC
namespace Go.Proofs.Ytaobbdmkkehpnaa
open Go.RowKit

/-- A landed meter lies in block p. -/
def MetL (u : World) (p s r st h pk : Nat) : Prop := u.heap[p]? = some (.cells #[.float .f64 s, .float .f64 r, .int .i64 (st : Int), .int .i64 (h : Int), .int .i64 (pk : Int)] 71 (0, 0))
theorem MetL.lt {u : World} {p s r st h pk : Nat} (m : MetL u p s r st h pk) : p < u.heap.size := (Array.getElem?_eq_some_iff.1 m).1
theorem MetL.cells {u : World} {p s r st h pk : Nat} (m : MetL u p s r st h pk) : u.cell? ⟨p, 0, none⟩ = some (.float .f64 s) ∧ u.cell? ⟨p, 1, none⟩ = some (.float .f64 r) ∧ u.cell? ⟨p, 2, none⟩ = some (.int .i64 (st : Int)) ∧ u.cell? ⟨p, 3, none⟩ = some (.int .i64 (h : Int)) ∧ u.cell? ⟨p, 4, none⟩ = some (.int .i64 (pk : Int)) := by
  unfold MetL at m
  unfold World.cell?
  simp [m]
theorem MetL.free {u : World} {p s r st h pk : Nat} (m : MetL u p s r st h pk) (j : Nat) : u.frozen? ⟨p, j, none⟩ = false := frozen_of_row u p j _ _ m
theorem MetL.setStep {u : World} {p s r st h pk : Nat} (m : MetL u p s r st h pk) (n : Nat) : MetL (u.setCell ⟨p, 2, none⟩ (.int .i64 (n : Int))) p s r n h pk := by
  unfold MetL at m ⊢
  rw [heap_setCell_same u p 2 _ _ _ m]
  rfl
theorem MetL.setHeld {u : World} {p s r st h pk : Nat} (m : MetL u p s r st h pk) (n : Nat) : MetL (u.setCell ⟨p, 3, none⟩ (.int .i64 (n : Int))) p s r st n pk := by
  unfold MetL at m ⊢
  rw [heap_setCell_same u p 3 _ _ _ m]
  rfl
theorem MetL.setPeak {u : World} {p s r st h pk : Nat} (m : MetL u p s r st h pk) (n : Nat) : MetL (u.setCell ⟨p, 4, none⟩ (.int .i64 (n : Int))) p s r st h n := by
  unfold MetL at m ⊢
  rw [heap_setCell_same u p 4 _ _ _ m]
  rfl

theorem moved_any (a : Nat) (n : Int) (r : Nat) (w : World) (ha : a ≤ 4611686018427387904) (n0 : -9223372036854775808 ≤ n) (n1 : n < 9223372036854775808) (hr : holdN a n = r) :
    Calls Try.prog 38 #[.int .i64 (a : Int), .int .i64 n] w fun e w' => e = .returned (.int .i64 (r : Int)) ∧ w = w' := by
  obtain ⟨q, hq⟩ : ∃ q : Int, q = 4611686018427387904 - (a : Int) := ⟨_, rfl⟩
  obtain ⟨z, hz⟩ : ∃ z : Int, z = (a : Int) + n := ⟨_, rfl⟩
  have w1 : wrap64 (4611686018427387904 - (a : Int)) = q := by rw [wrap64]; omega
  have hv : (r : Int) = if q < n then 4611686018427387904 else if z < 0 then 0 else z := by
    subst hr; unfold holdN
    split <;> split <;> (try split) <;> omega
  by_cases h : q < n
  · have hb : decide (q < n) = true := by simp only [decide_eq_true_eq]; exact h
    rw [if_pos h] at hv
    obtain rfl : r = 4611686018427387904 := by omega
    clear h hv hr ha n0 n1 hq hz
    go_enter Try.func38, Try.ntmps38
    go_wp2_with fail
    go_ret
    exact ⟨rfl, rfl⟩
  · have hb : decide (q < n) = false := by simp only [decide_eq_false_iff_not]; exact h
    rw [if_neg h] at hv
    have w2 : wrap64 ((a : Int) + n) = z := by rw [wrap64]; omega
    rw [hv]
    clear h hv hr ha n0 n1 hq hz
    by_cases hz : z < 0
    · rw [if_pos hz]
      go_enter Try.func38, Try.ntmps38
      go_wp2_with fail
      go_ret
      exact ⟨rfl, rfl⟩
    · rw [if_neg hz]
      go_enter Try.func38, Try.ntmps38
      go_wp2_with fail
      go_ret
      exact ⟨rfl, rfl⟩

set_option maxHeartbeats 1000000 in
theorem new_yes (s r : Nat) (w : World) (hs : s < 18446744073709551616) (hr : r < 18446744073709551616) (ho : (okW s && okW r) = true) :
    Calls Try.prog 20 #[bud s r] w fun e w' => ∃ p, e = .returned (.tuple #[.pointer (some ⟨p, 0, none⟩), .int .i64 0]) ∧ w.heap.size ≤ p ∧ MetL w' p s r 0 0 0 ∧ Below w.heap.size w w' := by
  have R0 := Lib.hid (RowC.new w w.heap.size s r rfl)
  have B0 := Lib.hid ((Below.refl w.heap.size w).alloc (Nat.le_refl _) (.cells #[.float .f64 s, .float .f64 r] 24))
  have HO := Lib.hid ho
  clear ho
  go_enter Try.func20, Try.ntmps20
  go_wp2_with fail
  refine (right_any s r _ hs hr).mono ?_
  rintro e w1 ⟨rfl, hb⟩
  have R1 := Lib.hid (R0.out.call hb)
  have B1 := Lib.hid (thenB B0.out hb B0.out.size)
  rw [HO.out]
  obtain ⟨c0, c1⟩ := R1.out.cells
  clear hb R0 B0
  go_wp2_with fail
  go_ret2
  exact ⟨w1.heap.size, rfl, B1.out.size, heap_alloc_new _ _, B1.out.alloc B1.out.size _⟩
set_option maxHeartbeats 1000000 in
theorem new_no (s r : Nat) (w : World) (hs : s < 18446744073709551616) (hr : r < 18446744073709551616) (ho : (okW s && okW r) = false) :
    Calls Try.prog 20 #[bud s r] w fun e w' => e = .returned (.tuple #[.pointer none, .int .i64 1]) ∧ Below w.heap.size w w' := by
  have B0 := Lib.hid ((Below.refl w.heap.size w).alloc (Nat.le_refl _) (.cells #[.float .f64 s, .float .f64 r] 24))
  have HO := Lib.hid ho
  clear ho
  go_enter Try.func20, Try.ntmps20
  go_wp2_with fail
  refine (right_any s r _ hs hr).mono ?_
  rintro e w1 ⟨rfl, hb⟩
  have B1 := Lib.hid (thenB B0.out hb B0.out.size)
  rw [HO.out]
  clear hb B0
  go_wp2_with fail
  go_ret2
  exact ⟨rfl, B1.out⟩
end Go.Proofs.Ytaobbdmkkehpnaa
