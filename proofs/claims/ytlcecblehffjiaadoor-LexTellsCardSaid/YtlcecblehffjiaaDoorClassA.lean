/-
  What the calls of package class do that need no loop, or one of four rounds: Has, with, none, Or, And, Not, One, All. Each call returns what the set's digits say; of what was in memory nothing turns.
-/
import Derived.Test.YtlcecblehffjiaaDoorProg
import Derived.Test.YtlcecblehffjiaaDoorSets
import Derived.WalkSpells
import Derived.WalkLawsBesides
import Derived.Handy
import Derived.Lib.Hide
import Derived.ChangeKeysEq
namespace Go.Proofs.YtlcecblehffjiaaDoor
open Go.RowKit

/-- After a call that leaves old memory alone: old cells read as they did. -/
theorem bcell {U w1 : World} (hb : Below U.heap.size U w1) : (∀ b o, b < U.heap.size → w1.cell? ⟨b, o, none⟩ = U.cell? ⟨b, o, none⟩) ∧ (∀ b o, b < U.heap.size → w1.frozen? ⟨b, o, none⟩ = U.frozen? ⟨b, o, none⟩) :=
  ⟨fun b o h => hb.cell (p := ⟨b, o, none⟩) h, fun b o h => hb.frozen (p := ⟨b, o, none⟩) h⟩

/-- One call behind another. -/
theorem thenB {B : Nat} {w u v : World} (h : Below B w u) (hb : Below u.heap.size u v) (hB : B ≤ u.heap.size) : Below B w v := h.trans (hb.mono hB)

theorem cellsU64 : Tryd.prog.cellsOf 33 = 1 := by kernel_rfl
theorem infoU64 : ∃ i, Tryd.prog.info? 33 = some i := by
  cases h : Tryd.prog.info? 33 with
  | none => exact absurd (show (Tryd.prog.info? 33).isSome = true by kernel_rfl) (by simp [h])
  | some i => exact ⟨i, rfl⟩

/-- Two arrays of four words, compared. -/
@[go_sem] theorem eqArr (d : Nat) (a b c e a' b' c' e' : Int) (w : World) : (Op.equalIn (d + 2) 34 (.agg #[.int .u64 a, .int .u64 b, .int .u64 c, .int .u64 e]) (.agg #[.int .u64 a', .int .u64 b', .int .u64 c', .int .u64 e'])).run Tryd.prog w = .ok ((a == a') && (b == b') && (c == c') && (e == e')) w := by
  obtain ⟨i, hi⟩ := infoU64
  rw [run_equalIn_array w (d + 1) _ _ Tryd.underlying34 hi, cellsU64]
  have hr : List.range 4 = [0, 1, 2, 3] := by decide
  rw [hr]
  have hp : ∀ (xs : Array Value) (j : Nat) (k : IntKind) (n : Int), xs[j]? = some (.int k n) → (part 33 xs j).run Tryd.prog w = .ok (.int k n) w := by
    intro xs j k n h
    simp [part, isAgg, run_underlying Tryd.underlying33, h]
  have he : ∀ m n : Int, (Op.equalIn (d + 1) 33 (.int .u64 m) (.int .u64 n)).run Tryd.prog w = .ok (m == n) w := fun m n => run_equalIn_int (P := Tryd.prog) w d 33 .u64 .u64 m n Tryd.underlying33
  have p0 : ∀ a b c e : Int, (part 33 #[.int .u64 a, .int .u64 b, .int .u64 c, .int .u64 e] 0).run Tryd.prog w = .ok (.int .u64 a) w := fun a b c e => hp _ 0 .u64 a (by rfl)
  have p1 : ∀ a b c e : Int, (part 33 #[.int .u64 a, .int .u64 b, .int .u64 c, .int .u64 e] 1).run Tryd.prog w = .ok (.int .u64 b) w := fun a b c e => hp _ 1 .u64 b (by rfl)
  have p2 : ∀ a b c e : Int, (part 33 #[.int .u64 a, .int .u64 b, .int .u64 c, .int .u64 e] 2).run Tryd.prog w = .ok (.int .u64 c) w := fun a b c e => hp _ 2 .u64 c (by rfl)
  have p3 : ∀ a b c e : Int, (part 33 #[.int .u64 a, .int .u64 b, .int .u64 c, .int .u64 e] 3).run Tryd.prog w = .ok (.int .u64 e) w := fun a b c e => hp _ 3 .u64 e (by rfl)
  simp only [Op.eqItems, Nat.mul_one, Sem.run_bind, p0, Result.andThen_ok, he]
  cases ha : a == a' <;> cases hb : b == b' <;> cases hc : c == c' <;> cases hd : e == e' <;> simp [he, p1, p2, p3, hb, hc, hd]

set_option maxHeartbeats 1000000 in
theorem has_any (S : BitVec 256) (n : Int) (w : World) (h0 : 0 ≤ n) (h1 : n < 256) :
    Calls Tryd.prog 19 #[setV S, .int .u8 n] w fun e w' => e = .returned (.bool (mem S n.toNat)) ∧ Below w.heap.size w w' := by
  have hr : 0 ≤ n % 64 := by omega
  have hr2 : n % 64 < 64 := by omega
  rcases (show n / 64 = 0 ∨ n / 64 = 1 ∨ n / 64 = 2 ∨ n / 64 = 3 by omega) with hq | hq | hq | hq
  all_goals
    go_enter Tryd.func19, Tryd.ntmps19
    go_wp2
    go_ret
    refine ⟨congrArg (fun b => Ending.returned (.bool b)) (has_bit S n h0 _ hq), ?_⟩
    go_grown

set_option maxHeartbeats 1000000 in
theorem with_any (S : BitVec 256) (n : Int) (w : World) (h0 : 0 ≤ n) (h1 : n < 256) :
    Calls Tryd.prog 39 #[setV S, .int .u8 n] w fun e w' => e = .returned (setV (addB S n.toNat)) ∧ Below w.heap.size w w' := by
  have hr : 0 ≤ n % 64 := by omega
  have hr2 : n % 64 < 64 := by omega
  have other := W_addB_other S n h0 h1
  have same := W_addB S n h0 h1
  have HO := Lib.hid other
  have HS := Lib.hid same
  clear other same
  rcases (show n / 64 = 0 ∨ n / 64 = 1 ∨ n / 64 = 2 ∨ n / 64 = 3 by omega) with hq | hq | hq | hq
  · go_enter Tryd.func39, Tryd.ntmps39
    go_wp2
    go_returns
    exact ⟨by rw [setV, HS.out 0 hq, HO.out 1 (by omega), HO.out 2 (by omega), HO.out 3 (by omega)], by go_grown⟩
  · go_enter Tryd.func39, Tryd.ntmps39
    go_wp2
    go_returns
    exact ⟨by rw [setV, HS.out 1 hq, HO.out 0 (by omega), HO.out 2 (by omega), HO.out 3 (by omega)], by go_grown⟩
  · go_enter Tryd.func39, Tryd.ntmps39
    go_wp2
    go_returns
    exact ⟨by rw [setV, HS.out 2 hq, HO.out 1 (by omega), HO.out 0 (by omega), HO.out 3 (by omega)], by go_grown⟩
  · go_enter Tryd.func39, Tryd.ntmps39
    go_wp2
    go_returns
    exact ⟨by rw [setV, HS.out 3 hq, HO.out 1 (by omega), HO.out 2 (by omega), HO.out 0 (by omega)], by go_grown⟩

theorem zeroV : setV 0#256 = .agg #[.int .u64 0, .int .u64 0, .int .u64 0, .int .u64 0] := by simp [setV, W_zero]

theorem with_zero (n : Int) (w : World) (h0 : 0 ≤ n) (h1 : n < 256) :
    Calls Tryd.prog 39 #[.agg #[.int .u64 0, .int .u64 0, .int .u64 0, .int .u64 0], .int .u8 n] w fun e w' => e = .returned (setV (addB 0#256 n.toNat)) ∧ Below w.heap.size w w' := by
  have h := with_any 0#256 n w h0 h1
  rwa [zeroV] at h

set_option maxHeartbeats 1000000 in
theorem or_any (S T : BitVec 256) (w : World) :
    Calls Tryd.prog 21 #[setV S, setV T] w fun e w' => e = .returned (setV (S ||| T)) ∧ Below w.heap.size w w' := by
  go_enter Tryd.func21, Tryd.ntmps21
  go_wp2
  refine wp_loop_rounds 5 ?_
  rw [rounds_succ]; go_wp2; go_region; go_wp2
  rw [rounds_succ]; go_wp2; go_region; go_wp2
  rw [rounds_succ]; go_wp2; go_region; go_wp2
  rw [rounds_succ]; go_wp2; go_region; go_wp2
  rw [rounds_succ]; go_wp2
  go_returns
  exact ⟨by rw [W_or, W_or, W_or, W_or], by go_grown⟩

set_option maxHeartbeats 1000000 in
theorem and_any (S T : BitVec 256) (w : World) :
    Calls Tryd.prog 72 #[setV S, setV T] w fun e w' => e = .returned (setV (S &&& T)) ∧ Below w.heap.size w w' := by
  go_enter Tryd.func72, Tryd.ntmps72
  go_wp2
  refine wp_loop_rounds 5 ?_
  rw [rounds_succ]; go_wp2; go_region; go_wp2
  rw [rounds_succ]; go_wp2; go_region; go_wp2
  rw [rounds_succ]; go_wp2; go_region; go_wp2
  rw [rounds_succ]; go_wp2; go_region; go_wp2
  rw [rounds_succ]; go_wp2
  go_returns
  exact ⟨by rw [W_and, W_and, W_and, W_and], by go_grown⟩

set_option maxHeartbeats 1000000 in
theorem not_any (S : BitVec 256) (w : World) :
    Calls Tryd.prog 28 #[setV S] w fun e w' => e = .returned (setV (~~~S)) ∧ Below w.heap.size w w' := by
  go_enter Tryd.func28, Tryd.ntmps28
  go_wp2
  refine wp_loop_rounds 5 ?_
  rw [rounds_succ]; go_wp2
  rw [rounds_succ]; go_wp2
  rw [rounds_succ]; go_wp2
  rw [rounds_succ]; go_wp2
  rw [rounds_succ]; go_wp2
  go_returns
  exact ⟨by rw [W_not _ _ (by decide), W_not _ _ (by decide), W_not _ _ (by decide), W_not _ _ (by decide)], by go_grown⟩

theorem none_words (S : BitVec 256) : (((W S 0 : Int) == 0) && ((W S 1 : Int) == 0) && ((W S 2 : Int) == 0) && ((W S 3 : Int) == 0)) = decide (S = 0#256) := by
  rw [← eq_words]; simp [W_zero]

set_option maxHeartbeats 1000000 in
theorem none_any (S : BitVec 256) (w : World) :
    Calls Tryd.prog 65 #[setV S] w fun e w' => e = .returned (.bool (decide (S = 0#256))) ∧ Below w.heap.size w w' := by
  go_enter Tryd.func65, Tryd.ntmps65
  go_wp2
  go_ret
  exact ⟨congrArg (fun b => Ending.returned (.bool b)) (none_words S), by go_grown⟩

set_option maxHeartbeats 1000000 in
theorem one_any (n : Int) (w : World) (h0 : 0 ≤ n) (h1 : n < 256) :
    Calls Tryd.prog 17 #[.int .u8 n] w fun e w' => e = .returned (setV (addB 0#256 n.toNat)) ∧ Below w.heap.size w w' := by
  go_enter Tryd.func17, Tryd.ntmps17
  go_wp2_with (go_at_call 39; refine (with_zero n _ h0 h1).mono ?_; rintro e w' ⟨rfl, hb⟩; obtain ⟨hc, hf⟩ := bcell hb)
  refine bodyPost_ret (v := setV (addB 0#256 n.toNat)) (by simp [results, Tryd.results17, go_sem, hc]) rfl ⟨rfl, ?_⟩
  go_grown
  refine thenB ?_ hb (by go_size)
  go_grown

end Go.Proofs.YtlcecblehffjiaaDoor
