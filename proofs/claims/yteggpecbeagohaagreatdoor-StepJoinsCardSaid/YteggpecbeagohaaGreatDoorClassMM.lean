import Derived.Test.YteggpecbeagohaaGreatDoorProg
import Derived.Test.YteggpecbeagohaaGreatDoorSetsM
import Derived.WalkSpells
import Derived.WalkLawsBesides
import Derived.Handy
import Derived.Lib.Hide
import Derived.ChangeKeysEq
import Derived.Deep.RegionWith
import Derived.Deep.RegionHeld3
import Derived.Laws.Bits128
import Derived.Lib.TrailingZeros
import Derived.BigQuiet
import Derived.Deep.QuietTactic
import Derived.Test.YteggpecbeagohaaGreatDoorTakeG
namespace Go.Proofs.YteggpecbeagohaaGreatDoor
open Go.RowKit
theorem bcell {U w1 : World} (hb : Below U.heap.size U w1) : (∀ b o, b < U.heap.size → w1.cell? ⟨b, o, none⟩ = U.cell? ⟨b, o, none⟩) ∧ (∀ b o, b < U.heap.size → w1.frozen? ⟨b, o, none⟩ = U.frozen? ⟨b, o, none⟩) :=
 ⟨fun b o h => hb.cell (p := ⟨b, o, none⟩) h, fun b o h => hb.frozen (p := ⟨b, o, none⟩) h⟩
theorem thenB {B : Nat} {w u v : World} (h : Below B w u) (hb : Below u.heap.size u v) (hB : B ≤ u.heap.size) : Below B w v := h.trans (hb.mono hB)
theorem cellsU64 : Tryz.prog.cellsOf 71 = 1 := by kernel_rfl
theorem infoU64 : ∃ i, Tryz.prog.info? 71 = some i := by
 cases h : Tryz.prog.info? 71 with
 | none => exact absurd (show (Tryz.prog.info? 71).isSome = true by kernel_rfl) (by simp [h])
 | some i => exact ⟨i, rfl⟩
@[go_sem] theorem eqArr (d : Nat) (a b c e a' b' c' e' : Int) (w : World) : (Op.equalIn (d + 2) 72 (.agg #[.int .u64 a, .int .u64 b, .int .u64 c, .int .u64 e]) (.agg #[.int .u64 a', .int .u64 b', .int .u64 c', .int .u64 e'])).run Tryz.prog w = .ok ((a == a') && (b == b') && (c == c') && (e == e')) w := by
  obtain ⟨i, hi⟩ := infoU64
  rw [run_equalIn_array w (d + 1) _ _ Tryz.underlying72 hi, cellsU64]
  have hr : List.range 4 = [0, 1, 2, 3] := by decide
  rw [hr]
  have hp : ∀ (xs : Array Value) (j : Nat) (k : IntKind) (n : Int), xs[j]? = some (.int k n) → (part 71 xs j).run Tryz.prog w = .ok (.int k n) w := by
   intro xs j k n h
   simp [part, isAgg, run_underlying Tryz.underlying71, h]
  have he : ∀ m n : Int, (Op.equalIn (d + 1) 71 (.int .u64 m) (.int .u64 n)).run Tryz.prog w = .ok (m == n) w := fun m n => run_equalIn_int (P := Tryz.prog) w d 71 .u64 .u64 m n Tryz.underlying71
  have p0 : ∀ a b c e : Int, (part 71 #[.int .u64 a, .int .u64 b, .int .u64 c, .int .u64 e] 0).run Tryz.prog w = .ok (.int .u64 a) w := fun a b c e => hp _ 0 .u64 a (by rfl)
  have p1 : ∀ a b c e : Int, (part 71 #[.int .u64 a, .int .u64 b, .int .u64 c, .int .u64 e] 1).run Tryz.prog w = .ok (.int .u64 b) w := fun a b c e => hp _ 1 .u64 b (by rfl)
  have p2 : ∀ a b c e : Int, (part 71 #[.int .u64 a, .int .u64 b, .int .u64 c, .int .u64 e] 2).run Tryz.prog w = .ok (.int .u64 c) w := fun a b c e => hp _ 2 .u64 c (by rfl)
  have p3 : ∀ a b c e : Int, (part 71 #[.int .u64 a, .int .u64 b, .int .u64 c, .int .u64 e] 3).run Tryz.prog w = .ok (.int .u64 e) w := fun a b c e => hp _ 3 .u64 e (by rfl)
  simp only [Op.eqItems, Nat.mul_one, Sem.run_bind, p0, Result.andThen_ok, he]
  cases ha : a == a' <;> cases hb : b == b' <;> cases hc : c == c' <;> cases hd : e == e' <;> simp [he, p1, p2, p3, hb, hc, hd]
set_option maxHeartbeats 1000000 in
theorem has_any (S : BitVec 256) (n : Int) (w : World) (h0 : 0 ≤ n) (h1 : n < 256) :
  Calls Tryz.prog 95 #[setV S, .int .u8 n] w fun e w' => e = .returned (.bool (mem S n.toNat)) ∧ Below w.heap.size w w' := by
 have hr : 0 ≤ n % 64 := by omega
 have hr2 : n % 64 < 64 := by omega
 rcases (show n / 64 = 0 ∨ n / 64 = 1 ∨ n / 64 = 2 ∨ n / 64 = 3 by omega) with hq | hq | hq | hq
 all_goals
  go_enter Tryz.func95, Tryz.ntmps95
  go_wp2
  go_ret
  refine ⟨congrArg (fun b => Ending.returned (.bool b)) (has_bit S n h0 _ hq), ?_⟩
  go_grown
set_option maxHeartbeats 1000000 in
theorem with_any (S : BitVec 256) (n : Int) (w : World) (h0 : 0 ≤ n) (h1 : n < 256) :
  Calls Tryz.prog 107 #[setV S, .int .u8 n] w fun e w' => e = .returned (setV (addB S n.toNat)) ∧ Below w.heap.size w w' := by
 have hr : 0 ≤ n % 64 := by omega
 have hr2 : n % 64 < 64 := by omega
 have other := W_addB_other S n h0 h1
 have same := W_addB S n h0 h1
 have HO := Lib.hid other
 have HS := Lib.hid same
 clear other same
 rcases (show n / 64 = 0 ∨ n / 64 = 1 ∨ n / 64 = 2 ∨ n / 64 = 3 by omega) with hq | hq | hq | hq
 ·go_enter Tryz.func107, Tryz.ntmps107
  go_wp2
  go_returns
  exact ⟨by rw [setV, HS.out 0 hq, HO.out 1 (by omega), HO.out 2 (by omega), HO.out 3 (by omega)], by go_grown⟩
 ·go_enter Tryz.func107, Tryz.ntmps107
  go_wp2
  go_returns
  exact ⟨by rw [setV, HS.out 1 hq, HO.out 0 (by omega), HO.out 2 (by omega), HO.out 3 (by omega)], by go_grown⟩
 ·go_enter Tryz.func107, Tryz.ntmps107
  go_wp2
  go_returns
  exact ⟨by rw [setV, HS.out 2 hq, HO.out 1 (by omega), HO.out 0 (by omega), HO.out 3 (by omega)], by go_grown⟩
 ·go_enter Tryz.func107, Tryz.ntmps107
  go_wp2
  go_returns
  exact ⟨by rw [setV, HS.out 3 hq, HO.out 1 (by omega), HO.out 2 (by omega), HO.out 0 (by omega)], by go_grown⟩
theorem zeroV : setV 0#256 = .agg #[.int .u64 0, .int .u64 0, .int .u64 0, .int .u64 0] := by simp [setV, W_zero]
theorem with_zero (n : Int) (w : World) (h0 : 0 ≤ n) (h1 : n < 256) :
  Calls Tryz.prog 107 #[.agg #[.int .u64 0, .int .u64 0, .int .u64 0, .int .u64 0], .int .u8 n] w fun e w' => e = .returned (setV (addB 0#256 n.toNat)) ∧ Below w.heap.size w w' := by
 have h := with_any 0#256 n w h0 h1
 rwa [zeroV] at h
set_option maxHeartbeats 1000000 in
theorem or_any (S T : BitVec 256) (w : World) :
  Calls Tryz.prog 77 #[setV S, setV T] w fun e w' => e = .returned (setV (S ||| T)) ∧ Below w.heap.size w w' := by
 go_enter Tryz.func77, Tryz.ntmps77
 go_wp2
 refine wp_loop_rounds 5 ?_
 rw [rounds_succ]; go_wp2; go_region; go_wp2
 rw [rounds_succ]; go_wp2; go_region; go_wp2
 rw [rounds_succ]; go_wp2; go_region; go_wp2
 rw [rounds_succ]; go_wp2; go_region; go_wp2
 rw [rounds_succ]; go_wp2
 go_returns
 exact ⟨by rw [W_or, W_or, W_or, W_or], by go_grown⟩
set_option maxHeartbeats 1000000 in
theorem and_any (S T : BitVec 256) (w : World) :
  Calls Tryz.prog 133 #[setV S, setV T] w fun e w' => e = .returned (setV (S &&& T)) ∧ Below w.heap.size w w' := by
 go_enter Tryz.func133, Tryz.ntmps133
 go_wp2
 refine wp_loop_rounds 5 ?_
 rw [rounds_succ]; go_wp2; go_region; go_wp2
 rw [rounds_succ]; go_wp2; go_region; go_wp2
 rw [rounds_succ]; go_wp2; go_region; go_wp2
 rw [rounds_succ]; go_wp2; go_region; go_wp2
 rw [rounds_succ]; go_wp2
 go_returns
 exact ⟨by rw [W_and, W_and, W_and, W_and], by go_grown⟩
set_option maxHeartbeats 1000000 in
theorem not_any (S : BitVec 256) (w : World) :
  Calls Tryz.prog 78 #[setV S] w fun e w' => e = .returned (setV (~~~S)) ∧ Below w.heap.size w w' := by
 go_enter Tryz.func78, Tryz.ntmps78
 go_wp2
 refine wp_loop_rounds 5 ?_
 rw [rounds_succ]; go_wp2
 rw [rounds_succ]; go_wp2
 rw [rounds_succ]; go_wp2
 rw [rounds_succ]; go_wp2
 rw [rounds_succ]; go_wp2
 go_returns
 exact ⟨by rw [W_not _ _ (by decide), W_not _ _ (by decide), W_not _ _ (by decide), W_not _ _ (by decide)], by go_grown⟩
theorem none_words (S : BitVec 256) : (((W S 0 : Int) == 0) && ((W S 1 : Int) == 0) && ((W S 2 : Int) == 0) && ((W S 3 : Int) == 0)) = decide (S = 0#256) := by
 rw [← eq_words]; simp [W_zero]
set_option maxHeartbeats 1000000 in
theorem none_any (S : BitVec 256) (w : World) :
  Calls Tryz.prog 129 #[setV S] w fun e w' => e = .returned (.bool (decide (S = 0#256))) ∧ Below w.heap.size w w' := by
 go_enter Tryz.func129, Tryz.ntmps129
 go_wp2
 go_ret
 exact ⟨congrArg (fun b => Ending.returned (.bool b)) (none_words S), by go_grown⟩
set_option maxHeartbeats 1000000 in
theorem one_any (n : Int) (w : World) (h0 : 0 ≤ n) (h1 : n < 256) :
  Calls Tryz.prog 79 #[.int .u8 n] w fun e w' => e = .returned (setV (addB 0#256 n.toNat)) ∧ Below w.heap.size w w' := by
 go_enter Tryz.func79, Tryz.ntmps79
 go_wp2_with (go_at_call 107; refine (with_zero n _ h0 h1).mono ?_; rintro e w' ⟨rfl, hb⟩; obtain ⟨hc, hf⟩ := bcell hb)
 refine bodyPost_ret (v := setV (addB 0#256 n.toNat)) (by simp [results, Tryz.results79, go_sem, hc]) rfl ⟨rfl, ?_⟩
 go_grown
 refine thenB ?_ hb (by go_size)
 go_grown
set_option maxHeartbeats 1000000 in
theorem all_any (w : World) :
  Calls Tryz.prog 174 #[] w fun e w' => e = .returned (setV (~~~0#256)) ∧ Below w.heap.size w w' := by
 have hn : ∀ w, Calls Tryz.prog 78 #[.agg #[.int .u64 0, .int .u64 0, .int .u64 0, .int .u64 0]] w fun e w' => e = .returned (setV (~~~0#256)) ∧ Below w.heap.size w w' := fun w => by
  have h := not_any 0#256 w
  rwa [zeroV] at h
 have HN := Lib.hid hn
 clear hn
 go_enter Tryz.func174, Tryz.ntmps174
 go_wp2_with (go_at_call 78; refine (HN.out _).mono ?_; rintro e w' ⟨rfl, hb⟩; obtain ⟨hc, hf⟩ := bcell hb)
 refine bodyPost_ret (v := setV (~~~0#256)) (by simp [results, Tryz.results174, go_sem, hc]) rfl ⟨rfl, ?_⟩
 go_grown
 refine thenB ?_ hb (by go_size)
 go_grown
end Go.Proofs.YteggpecbeagohaaGreatDoor
namespace Go.Proofs.YteggpecbeagohaaGreatDoor
open Go.RowKit
def Box (w : World) (g : Nat) (S : BitVec 256) : Prop := w.heap[g]? = some (.cells #[.int .u64 (W S 0), .int .u64 (W S 1), .int .u64 (W S 2), .int .u64 (W S 3)] 74 (0, 0))
theorem Box.cells {w : World} {g : Nat} {S : BitVec 256} (h : Box w g S) : w.cell? ⟨g, 0, none⟩ = some (.int .u64 (W S 0)) ∧ w.cell? ⟨g, 1, none⟩ = some (.int .u64 (W S 1)) ∧ w.cell? ⟨g, 2, none⟩ = some (.int .u64 (W S 2)) ∧ w.cell? ⟨g, 3, none⟩ = some (.int .u64 (W S 3)) := by
 unfold Box at h
 refine ⟨?_, ?_, ?_, ?_⟩ <;> rw [cell_of_row w g _ _ _ _ h] <;> rfl
theorem Box.free {w : World} {g : Nat} {S : BitVec 256} (h : Box w g S) (j : Nat) : w.frozen? ⟨g, j, none⟩ = false := frozen_of_row w g j _ _ h
theorem Box.lt {w : World} {g : Nat} {S : BitVec 256} (h : Box w g S) : g < w.heap.size := by
 unfold Box at h
 exact (Array.getElem?_eq_some_iff.1 h).1
theorem Box.below {w w' : World} {g B : Nat} {S : BitVec 256} (h : Box w g S) (hb : Below B w w') (hg : g < B) : Box w' g S := (hb.block g hg).trans h
theorem Box.set {w : World} {g : Nat} {S : BitVec 256} (h : Box w g S) (T : BitVec 256) :
  Box ((((w.setCell ⟨g, 0, none⟩ (.int .u64 (W T 0))).setCell ⟨g, 1, none⟩ (.int .u64 (W T 1))).setCell ⟨g, 2, none⟩ (.int .u64 (W T 2))).setCell ⟨g, 3, none⟩ (.int .u64 (W T 3))) g T := by
 unfold Box at h ⊢
 have h0 := heap_setCell_same w g 0 _ _ (.int .u64 (W T 0)) h
 have h1 := heap_setCell_same _ g 1 _ _ (.int .u64 (W T 1)) h0
 have h2 := heap_setCell_same _ g 2 _ _ (.int .u64 (W T 2)) h1
 have h3 := heap_setCell_same _ g 3 _ _ (.int .u64 (W T 3)) h2
 rw [h3]
 rfl
theorem Box.other {w : World} {g : Nat} {S : BitVec 256} (h : Box w g S) {a : Addr} (v : Value) (hg : g ≠ a.block) : Box (w.setCell a v) g S := (heap_setCell_other w a g v hg).trans h
theorem Box.alloc {w : World} {g : Nat} {S : BitVec 256} (h : Box w g S) (o : Obj) : Box (w.alloc o) g S := (Below.heap_alloc _ _ _ h.lt).trans h
theorem Box.new (w : World) (S : BitVec 256) : Box (w.alloc (.cells #[.int .u64 (W S 0), .int .u64 (W S 1), .int .u64 (W S 2), .int .u64 (W S 3)] 74)) w.heap.size S := heap_alloc_new _ _
theorem Box.call {w w' : World} {g : Nat} {S : BitVec 256} (h : Box w g S) (hb : Below w.heap.size w w') : Box w' g S := h.below hb h.lt
theorem Box.zero {w : World} {g : Nat} (h : w.heap[g]? = some (.cells #[.int .u64 0, .int .u64 0, .int .u64 0, .int .u64 0] 74 (0, 0))) : Box w g 0#256 := by
 unfold Box; rw [h]; simp [W_zero]
abbrev setW (w : World) (g : Nat) (T : BitVec 256) : World := (((w.setCell ⟨g, 0, none⟩ (.int .u64 (W T 0))).setCell ⟨g, 1, none⟩ (.int .u64 (W T 1))).setCell ⟨g, 2, none⟩ (.int .u64 (W T 2))).setCell ⟨g, 3, none⟩ (.int .u64 (W T 3))
theorem Box.others {w : World} {g k : Nat} {S : BitVec 256} (h : Box w g S) (T : BitVec 256) (hg : g ≠ k) : Box (setW w k T) g S := (((h.other _ hg).other _ hg).other _ hg).other _ hg
theorem below_setW {B : Nat} {a w : World} (h : Below B a w) {g : Nat} (hg : B ≤ g) (T : BitVec 256) : Below B a (setW w g T) := (((h.setCell (p := ⟨g, 0, none⟩) hg _).setCell (p := ⟨g, 1, none⟩) hg _).setCell (p := ⟨g, 2, none⟩) hg _).setCell (p := ⟨g, 3, none⟩) hg _
theorem Box.results {fn : Func} {p : Tmp} (h : fn.results = #[.cell p 74]) (tmps : Array Value) {w : World} {g : Nat} {S : BitVec 256} (hp : tmps.getD p undef = .pointer (some ⟨g, 0, none⟩)) (hg : Box w g S) :
  (results fn tmps).run Tryz.prog w = .ok (setV S) w :=
 results_cell_row h tmps w g _ _ _ _ hp hg Tryz.underlying74 rfl (by kernel_rfl)
set_option maxHeartbeats 1000000 in
theorem range_any (a b : Int) (w : World) (a0 : 0 ≤ a) (a1 : a < 256) (b0 : 0 ≤ b) (b1 : b < 256) :
  Calls Tryz.prog 106 #[.int .u8 a, .int .u8 b] w fun e w' => e = .returned (setV (span a.toNat (b.toNat + 1))) ∧ Below w.heap.size w w' := by
 obtain ⟨x, rfl⟩ := Int.eq_ofNat_of_zero_le a0
 obtain ⟨y, rfl⟩ := Int.eq_ofNat_of_zero_le b0
 go_enter Tryz.func106, Tryz.ntmps106
 go_wp2
 go_loopw [6] (fun v wr => ∃ k : Nat, v = .int .i64 k ∧ x ≤ k ∧ k ≤ 256 ∧ (k ≤ x ∨ k ≤ y + 1) ∧ Box wr w.heap.size 0#256 ∧ Box wr (w.heap.size + 1) (span x k) ∧ Below w.heap.size w wr) (fun v _ => 256 - (intOf v).toNat)
 case atStart =>
  refine ⟨x, rfl, Nat.le_refl _, by omega, Or.inl (Nat.le_refl _), Box.zero (heap_alloc2_old _ _ _), ?_, by go_grown⟩
  rw [span_none _ _ (Nat.le_refl _)]
  exact Box.zero (heap_alloc2_new _ _ _)
 case round =>
  obtain ⟨k, rfl, h1, h2, h3, hz, hs, hbel⟩ := hrel
  obtain ⟨c0, c1, c2, c3⟩ := hs.cells
  by_cases hlt : k ≤ y
  ·have hk : k < 256 := by omega
   have HZ := Lib.hid hz
   have HS := Lib.hid hs
   have HB := Lib.hid hbel
   clear hz hs hbel
   go_wp2_with (go_at_call 107; refine (with_any (span x k) _ _ (by omega) (by omega)).mono ?_; rintro e w1 ⟨rfl, hb⟩; have hs1 := HS.out.below hb HS.out.lt; obtain ⟨d0, d1, d2, d3⟩ := hs1.cells; have f := hs1.free; have HS1 := Lib.hid hs1; clear hs1)
   go_roundw
   case rel => exact ⟨k + 1, by go_num, by omega, by omega, Or.inr (by omega), (HZ.out.below hb HZ.out.lt).others _ (by omega), by rw [← span_add _ _ h1 hk]; exact HS1.out.set _, below_setW (thenB HB.out hb HB.out.size) (by omega) _⟩
   case measure => simp [intOf]; omega
  ·have e : span x k = span x (y + 1) := by
    rcases h3 with h3 | h3
    ·rw [span_none _ _ h3, span_none _ _ (by omega)]
    ·rw [show k = y + 1 by omega]
   rw [e] at c0 c1 c2 c3
   obtain ⟨d0, d1, d2, d3⟩ := hz.cells
   have f := hz.free
   have HZ := Lib.hid hz
   have HB := Lib.hid hbel
   clear hz hs hbel e
   go_wp2
   refine bodyPost_ret (Box.results rfl _ (g := w.heap.size) rfl (HZ.out.set _)) rfl ⟨rfl, ?_⟩
   exact below_setW HB.out (by omega) _
theorem one_at (n : Int) (m : Nat) (w : World) (h : n = m) (hm : m < 256) :
  Calls Tryz.prog 79 #[.int .u8 n] w fun e w' => e = .returned (setV (addB 0#256 m)) ∧ Below w.heap.size w w' := by
 subst h
 have h := one_any (m : Int) w (by omega) (by omega)
 simpa using h
set_option maxHeartbeats 1000000 in
theorem fold_any (S : BitVec 256) (w : World) :
  Calls Tryz.prog 110 #[setV S] w fun e w' => e = .returned (setV (foldS S)) ∧ Below w.heap.size w w' := by
 go_enter Tryz.func110, Tryz.ntmps110
 go_wp2
 go_loopw [7] (fun v wr => ∃ k : Nat, v = .int .u8 k ∧ k ≤ 26 ∧ Box wr w.heap.size S ∧ Box wr (w.heap.size + 1) 0#256 ∧ Box wr (w.heap.size + 2) (foldTo S k) ∧ Below w.heap.size w wr) (fun v _ => 26 - (intOf v).toNat)
 case atStart =>
  refine ⟨0, rfl, by omega, ?_, ?_, ?_, by go_grown⟩
  ·exact (Below.heap_alloc _ _ _ (by simp; omega)).trans ((Below.heap_alloc _ _ _ (by simp)).trans (heap_alloc_new _ _))
  ·exact Box.zero ((Below.heap_alloc _ _ _ (by simp)).trans (heap_alloc2_new _ _ _))
  ·have h := heap_alloc_new ((w.alloc (.cells #[.int .u64 (W S 0), .int .u64 (W S 1), .int .u64 (W S 2), .int .u64 (W S 3)] 74)).alloc (.cells #[.int .u64 0, .int .u64 0, .int .u64 0, .int .u64 0] 74)) (.cells #[.int .u64 (W S 0), .int .u64 (W S 1), .int .u64 (W S 2), .int .u64 (W S 3)] 74)
   simpa [Box, foldTo] using h
 case round =>
  obtain ⟨k, rfl, hk, hs, hz, hf, hbel⟩ := hrel
  by_cases hlt : k < 26
  ·have HS := Lib.hid hs
   have HZ := Lib.hid hz
   have HF := Lib.hid hf
   have HB := Lib.hid hbel
   clear hs hz hf hbel
   go_wp2_with fail
   refine (one_at _ (97 + k) _ (by omega) (by omega)).mono ?_
   rintro e w1 ⟨rfl, hb1⟩
   go_wp2_with fail
   refine (one_at _ (65 + k) _ (by omega) (by omega)).mono ?_
   rintro e w2 ⟨rfl, hb2⟩
   go_wp2_with fail
   refine (or_any _ _ _).mono ?_
   rintro e w3 ⟨rfl, hb3⟩
   rw [show addB 0#256 (97 + k) ||| addB 0#256 (65 + k) = pair k from rfl]
   have hs3 := ((HS.out.call hb1).call hb2).call hb3
   have hz3 := ((HZ.out.call hb1).call hb2).call hb3
   have hf3 := ((HF.out.call hb1).call hb2).call hb3
   have hB3 := thenB (thenB (thenB HB.out hb1 HB.out.size) hb2 (by have := hb1.size; have := HB.out.size; omega)) hb3 (by have := hb1.size; have := hb2.size; have := HB.out.size; omega)
   have l3 : w.heap.size + 2 < w3.heap.size := hf3.lt
   have n3 : w.heap.size < w3.heap.size := by omega
   clear hb1 hb2 hb3 HS HZ HF HB
   obtain ⟨c0, c1, c2, c3⟩ := hs3.cells
   have HS := Lib.hid hs3
   have HZ := Lib.hid hz3
   have HF := Lib.hid hf3
   have HB := Lib.hid hB3
   clear hs3 hz3 hf3 hB3
   go_wp2_with fail
   refine (and_any S (pair k) _).mono ?_
   rintro e w4 ⟨rfl, hb4⟩
   have hs4 := (HS.out.alloc _).call hb4
   have hz4 := (HZ.out.alloc _).call hb4
   have hf4 := (HF.out.alloc _).call hb4
   have hp4 := (Box.new w3 (pair k)).call hb4
   have hB4 := thenB (HB.out.alloc (by omega) _) hb4 (by simp; omega)
   clear hb4 HS HZ HF HB c0 c1 c2 c3
   have HS := Lib.hid hs4
   have HZ := Lib.hid hz4
   have HF := Lib.hid hf4
   have HP := Lib.hid hp4
   have HB := Lib.hid hB4
   clear hs4 hz4 hf4 hp4 hB4
   go_wp2_with fail
   refine (none_any _ _).mono ?_
   rintro e w5 ⟨rfl, hb5⟩
   have hs5 := HS.out.call hb5
   have hz5 := HZ.out.call hb5
   have hf5 := HF.out.call hb5
   have hp5 := HP.out.call hb5
   have hB5 := thenB HB.out hb5 (by have := HS.out.lt; omega)
   clear hb5 HS HZ HF HP HB
   obtain ⟨c0, c1, c2, c3⟩ := hf5.cells
   obtain ⟨d0, d1, d2, d3⟩ := hp5.cells
   have HS := Lib.hid hs5
   have HZ := Lib.hid hz5
   have HF := Lib.hid hf5
   have HP := Lib.hid hp5
   have HB := Lib.hid hB5
   clear hs5 hz5 hf5 hp5 hB5
   by_cases hn : S &&& pair k = 0#256
   ·have hd : decide (S &&& pair k = 0#256) = true := by simp [hn]
    have HN := Lib.hid hn
    clear hn
    go_wp2_with fail
    go_roundw
    case rel => exact ⟨k + 1, by go_num, by omega, HS.out, HZ.out, by rw [foldTo, foldStep, if_pos HN.out]; exact HF.out, HB.out⟩
    case measure => simp [intOf]; omega
   ·have hd : decide (S &&& pair k = 0#256) = false := by simp [hn]
    have HN := Lib.hid hn
    clear hn
    go_wp2_with fail
    refine (or_any (foldTo S k) (pair k) _).mono ?_
    rintro e w6 ⟨rfl, hb6⟩
    have hs6 := HS.out.call hb6
    have hz6 := HZ.out.call hb6
    have hf6 := HF.out.call hb6
    have hB6 := thenB HB.out hb6 (by have := HS.out.lt; omega)
    clear hb6 HS HZ HF HB c0 c1 c2 c3 d0 d1 d2 d3
    obtain ⟨c0, c1, c2, c3⟩ := hf6.cells
    have f := hf6.free
    have HS := Lib.hid hs6
    have HZ := Lib.hid hz6
    have HF := Lib.hid hf6
    have HB := Lib.hid hB6
    clear hs6 hz6 hf6 hB6
    go_wp2_with fail
    go_roundw
    case rel => exact ⟨k + 1, by go_num, by omega, HS.out.others _ (by omega), HZ.out.others _ (by omega), by rw [foldTo, foldStep, if_neg HN.out]; exact HF.out.set _, below_setW HB.out (by omega) _⟩
    case measure => simp [intOf]; omega
  ·obtain rfl : k = 26 := by omega
   obtain ⟨c0, c1, c2, c3⟩ := hf.cells
   obtain ⟨d0, d1, d2, d3⟩ := hz.cells
   have f := hz.free
   have HZ := Lib.hid hz
   have HB := Lib.hid hbel
   clear hz hs hf hbel
   go_wp2
   refine bodyPost_ret (Box.results rfl _ (g := w.heap.size + 1) rfl (HZ.out.set _)) rfl ⟨rfl, ?_⟩
   exact below_setW HB.out (by omega) _
end Go.Proofs.YteggpecbeagohaaGreatDoor
namespace Go.Proofs.YteggpecbeagohaaGreatDoor
open Go.RowKit
end Go.Proofs.YteggpecbeagohaaGreatDoor
namespace Go.Proofs.YteggpecbeagohaaGreatDoor
open Go.RowKit
def g1 (x : Int) : Int := IntKind.u64.wrap (bits BinOp.and IntKind.u64 (x / 2) 6148914691236517205 + bits BinOp.and IntKind.u64 x 6148914691236517205)
def g2 (x : Int) : Int := IntKind.u64.wrap (bits BinOp.and IntKind.u64 (x / 4) 3689348814741910323 + bits BinOp.and IntKind.u64 x 3689348814741910323)
def g3 (x : Int) : Int := bits BinOp.and IntKind.u64 (IntKind.u64.wrap (x / 16 + x)) 1085102592571150095
def g4 (x : Int) : Int := IntKind.u64.wrap (x + x / 256)
def g5 (x : Int) : Int := IntKind.u64.wrap (x + x / 65536)
def g6 (x : Int) : Int := IntKind.u64.wrap (x + x / 4294967296)
theorem wrap_nat (n : Nat) (h : n < 18446744073709551616) : IntKind.u64.wrap (n : Int) = (n : Int) := by rw [IntKind.wrap_u64]; omega
theorem g1_nat (x : Nat) (hx : x < 18446744073709551616) (h : pop1 x < 18446744073709551616) : g1 x = (pop1 x : Int) := by
 unfold g1
 rw [show (x : Int) / 2 = ((x / 2 : Nat) : Int) by omega, show (6148914691236517205 : Int) = ((6148914691236517205 : Nat) : Int) from rfl, u64_and_nat _ _ (by omega) (by decide), u64_and_nat _ _ hx (by decide), ← Int.natCast_add]
 exact wrap_nat _ h
theorem g2_nat (x : Nat) (hx : x < 18446744073709551616) (h : pop2 x < 18446744073709551616) : g2 x = (pop2 x : Int) := by
 unfold g2
 rw [show (x : Int) / 4 = ((x / 4 : Nat) : Int) by omega, show (3689348814741910323 : Int) = ((3689348814741910323 : Nat) : Int) from rfl, u64_and_nat _ _ (by omega) (by decide), u64_and_nat _ _ hx (by decide), ← Int.natCast_add]
 exact wrap_nat _ h
theorem g3_nat (x : Nat) (h : x / 16 + x < 18446744073709551616) : g3 x = (pop3 x : Int) := by
 unfold g3
 rw [show (x : Int) / 16 + x = ((x / 16 + x : Nat) : Int) by omega, wrap_nat _ h, show (1085102592571150095 : Int) = ((1085102592571150095 : Nat) : Int) from rfl, u64_and_nat _ _ h (by decide)]
 rfl
theorem g4_nat (x q : Nat) (hq : x / 256 = q) (h : x + q < 18446744073709551616) : g4 x = ((x + q : Nat) : Int) := by
 unfold g4
 rw [show (x : Int) / 256 = ((x / 256 : Nat) : Int) by omega, hq, ← Int.natCast_add]
 exact wrap_nat _ h
theorem g5_nat (x q : Nat) (hq : x / 65536 = q) (h : x + q < 18446744073709551616) : g5 x = ((x + q : Nat) : Int) := by
 unfold g5
 rw [show (x : Int) / 65536 = ((x / 65536 : Nat) : Int) by omega, hq, ← Int.natCast_add]
 exact wrap_nat _ h
theorem g6_nat (x q : Nat) (hq : x / 4294967296 = q) (h : x + q < 18446744073709551616) : g6 x = ((x + q : Nat) : Int) := by
 unfold g6
 rw [show (x : Int) / 4294967296 = ((x / 4294967296 : Nat) : Int) by omega, hq, ← Int.natCast_add]
 exact wrap_nat _ h
theorem stage4 (v0 v1 v2 v3 v4 v5 v6 v7 : Nat) (h0 : v0 ≤ 8) (h1 : v1 ≤ 8) (h2 : v2 ≤ 8) (h3 : v3 ≤ 8) (h4 : v4 ≤ 8) (h5 : v5 ≤ 8) (h6 : v6 ≤ 8) (h7 : v7 ≤ 8) : g4 ((v0 + 256 * (v1 + 256 * (v2 + 256 * (v3 + 256 * (v4 + 256 * (v5 + 256 * (v6 + 256 * v7)))))) : Nat) : Int) = ((v0 + v1 + 256 * (v1 + v2 + 256 * (v2 + v3 + 256 * (v3 + v4 + 256 * (v4 + v5 + 256 * (v5 + v6 + 256 * (v6 + v7 + 256 * v7)))))) : Nat) : Int) := by
 have hq : (v0 + 256 * (v1 + 256 * (v2 + 256 * (v3 + 256 * (v4 + 256 * (v5 + 256 * (v6 + 256 * v7))))))) / 256 = v1 + 256 * (v2 + 256 * (v3 + 256 * (v4 + 256 * (v5 + 256 * (v6 + 256 * v7))))) := by omega
 rw [g4_nat _ _ hq (by omega)]
 congr 1
 clear hq
 omega
theorem stage5 (a0 a1 a2 a3 a4 a5 a6 a7 : Nat) (h0 : a0 ≤ 16) (h1 : a1 ≤ 16) (h2 : a2 ≤ 16) (h3 : a3 ≤ 16) (h4 : a4 ≤ 16) (h5 : a5 ≤ 16) (h6 : a6 ≤ 16) (h7 : a7 ≤ 16) : g5 ((a0 + 256 * (a1 + 256 * (a2 + 256 * (a3 + 256 * (a4 + 256 * (a5 + 256 * (a6 + 256 * a7)))))) : Nat) : Int) = ((a0 + a2 + 256 * (a1 + a3 + 256 * (a2 + a4 + 256 * (a3 + a5 + 256 * (a4 + a6 + 256 * (a5 + a7 + 256 * (a6 + 256 * a7)))))) : Nat) : Int) := by
 have hq : (a0 + 256 * (a1 + 256 * (a2 + 256 * (a3 + 256 * (a4 + 256 * (a5 + 256 * (a6 + 256 * a7))))))) / 65536 = a2 + 256 * (a3 + 256 * (a4 + 256 * (a5 + 256 * (a6 + 256 * a7)))) := by omega
 rw [g5_nat _ _ hq (by omega)]
 congr 1
 clear hq
 omega
theorem stage6 (a0 a1 a2 a3 a4 a5 a6 a7 : Nat) (h0 : a0 ≤ 32) (h1 : a1 ≤ 32) (h2 : a2 ≤ 32) (h3 : a3 ≤ 32) (h4 : a4 ≤ 32) (h5 : a5 ≤ 32) (h6 : a6 ≤ 32) (h7 : a7 ≤ 32) : g6 ((a0 + 256 * (a1 + 256 * (a2 + 256 * (a3 + 256 * (a4 + 256 * (a5 + 256 * (a6 + 256 * a7)))))) : Nat) : Int) = ((a0 + a4 + 256 * (a1 + a5 + 256 * (a2 + a6 + 256 * (a3 + a7 + 256 * (a4 + 256 * (a5 + 256 * (a6 + 256 * a7)))))) : Nat) : Int) := by
 have hq : (a0 + 256 * (a1 + 256 * (a2 + 256 * (a3 + 256 * (a4 + 256 * (a5 + 256 * (a6 + 256 * a7))))))) / 4294967296 = a4 + 256 * (a5 + 256 * (a6 + 256 * a7)) := by omega
 rw [g6_nat _ _ hq (by omega)]
 congr 1
 clear hq
 omega
theorem stage7 (p R : Nat) (hp : p < 128) : wrap64 ((p + 256 * R : Nat) : Int) % 128 = (p : Int) := by
 unfold wrap64
 omega
theorem ones_arith (x : Nat) (hx : x < 18446744073709551616) : bits BinOp.and IntKind.i64 (wrap64 (g6 (g5 (g4 (g3 (g2 (g1 x))))))) 127 = (pop x : Int) := by
 obtain ⟨v0, v1, v2, v3, v4, v5, v6, v7, k1, k2, k3, e, b0, b1, b2, b3, b4, b5, b6, b7, hs⟩ := pop_steps x hx
 rw [g1_nat x hx k1, g2_nat _ k1 k2, g3_nat _ k3, e, i64_and127, stage4 v0 v1 v2 v3 v4 v5 v6 v7 b0 b1 b2 b3 b4 b5 b6 b7,
  stage5 (v0 + v1) (v1 + v2) (v2 + v3) (v3 + v4) (v4 + v5) (v5 + v6) (v6 + v7) v7 (by omega) (by omega) (by omega) (by omega) (by omega) (by omega) (by omega) (by omega),
  stage6 (v0 + v1 + (v2 + v3)) (v1 + v2 + (v3 + v4)) (v2 + v3 + (v4 + v5)) (v3 + v4 + (v5 + v6)) (v4 + v5 + (v6 + v7)) (v5 + v6 + v7) (v6 + v7) v7 (by omega) (by omega) (by omega) (by omega) (by omega) (by omega) (by omega) (by omega),
  stage7 _ _ (by omega)]
 rw [← hs]
 congr 1
 clear hs e k1 k2 k3 hx
 omega
theorem pop_le (x : Nat) : (pop x : Int) ≤ 64 := by have := cntTo_le x.testBit 64; unfold pop; omega
set_option maxHeartbeats 1000000 in
theorem ones_any (x : Nat) (w : World) (hx : x < 18446744073709551616) :
  Calls Tryz.prog 131 #[.int .u64 x] w fun e w' => e = .returned (.int .i64 (pop x)) ∧ w = w' := by
 have HX := Lib.hid hx
 clear hx
 go_enter Tryz.func131, Tryz.ntmps131
 go_wp2
 go_ret
 refine ⟨congrArg (fun n => Ending.returned (.int .i64 n)) (show bits BinOp.and IntKind.i64 (wrap64 (g6 (g5 (g4 (g3 (g2 (g1 x))))))) 127 = _ from ones_arith x HX.out), rfl⟩
def lenS (S : BitVec 256) : Nat := cntTo S.getLsbD 256
theorem pop_W (S : BitVec 256) (i : Nat) : pop (W S i) = cntTo (fun k => S.getLsbD (64 * i + k)) 64 := by
 unfold pop
 exact cntTo_congr 64 fun k hk => by rw [W_bit]; simp [hk]
theorem lenS_words (S : BitVec 256) : lenS S = pop (W S 0) + pop (W S 1) + pop (W S 2) + pop (W S 3) := by
 unfold lenS
 rw [pop_W, pop_W, pop_W, pop_W]
 show cntTo S.getLsbD (((64 + 64) + 64) + 64) = _
 rw [cntTo_add, cntTo_add, cntTo_add]
 simp only [Nat.mul_zero, Nat.zero_add, Nat.mul_one, show 64 + 64 = 64 * 2 from rfl, show 64 * 2 + 64 = 64 * 3 from rfl]
theorem index4 (a b c d : Value) (w : World) : (Instr.index 72 (.agg #[a, b, c, d]) (.int .i64 0)).run Tryz.prog w = .ok a w ∧ (Instr.index 72 (.agg #[a, b, c, d]) (.int .i64 1)).run Tryz.prog w = .ok b w ∧
  (Instr.index 72 (.agg #[a, b, c, d]) (.int .i64 2)).run Tryz.prog w = .ok c w ∧ (Instr.index 72 (.agg #[a, b, c, d]) (.int .i64 3)).run Tryz.prog w = .ok d w := ⟨by kernel_rfl, by kernel_rfl, by kernel_rfl, by kernel_rfl⟩
set_option maxHeartbeats 1000000 in
theorem len_any (S : BitVec 256) (w : World) :
  Calls Tryz.prog 105 #[setV S] w fun e w' => e = .returned (.int .i64 (lenS S)) ∧ Below w.heap.size w w' := by
 have HL := Lib.hid (lenS_words S)
 have p0 := pop_le (W S 0)
 have p1 := pop_le (W S 1)
 have p2 := pop_le (W S 2)
 have p3 := pop_le (W S 3)
 have i4 := fun w => index4 (.int .u64 (W S 0)) (.int .u64 (W S 1)) (.int .u64 (W S 2)) (.int .u64 (W S 3)) w
 have i0 := fun w => (i4 w).1
 have i1 := fun w => (i4 w).2.1
 have i2 := fun w => (i4 w).2.2.1
 have i3 := fun w => (i4 w).2.2.2
 clear i4
 go_enter Tryz.func105, Tryz.ntmps105
 go_wp2
 refine wp_loop_rounds 5 ?_
 rw [rounds_succ]; go_wp2_with (go_at_call 131; refine (ones_any _ _ (W_lt _ _)).mono ?_; rintro e w' ⟨rfl, rfl⟩)
 rw [rounds_succ]; go_wp2_with (go_at_call 131; refine (ones_any _ _ (W_lt _ _)).mono ?_; rintro e w' ⟨rfl, rfl⟩)
 rw [rounds_succ]; go_wp2_with (go_at_call 131; refine (ones_any _ _ (W_lt _ _)).mono ?_; rintro e w' ⟨rfl, rfl⟩)
 rw [rounds_succ]; go_wp2_with (go_at_call 131; refine (ones_any _ _ (W_lt _ _)).mono ?_; rintro e w' ⟨rfl, rfl⟩)
 rw [rounds_succ]; go_wp2
 go_ret
 refine ⟨congrArg (fun n => Ending.returned (.int .i64 n)) ?_, by go_grown⟩
 rw [HL.out]
 simp
def TabOk (w : World) : Prop := ∀ j, j < 64 → w.cell? ⟨2, j, none⟩ = some (.int .u8 ((Lib.deBruijn64tab.getD j 0 : Nat) : Int))
theorem TabOk.lt {w : World} (h : TabOk w) : 2 < w.heap.size := block_lt_of_cell (h 0 (by decide))
theorem TabOk.call {w w' : World} (h : TabOk w) (hb : Below w.heap.size w w') : TabOk w' := fun j hj => (hb.cell (p := ⟨2, j, none⟩) h.lt).trans (h j hj)
theorem TabOk.alloc {w : World} (h : TabOk w) (o : Obj) : TabOk (w.alloc o) := fun j hj => (World.cell?_alloc_past (w := w) o _ j h.lt).trans (h j hj)
theorem low_bit (x k m : Nat) (hx : x = 2 ^ k * (2 * m + 1)) (hlt : x < 18446744073709551616) :
  IntKind.u64.wrap (bits BinOp.and IntKind.u64 (x : Int) (IntKind.u64.wrap (-(x : Int))) * 285870213051353865) / 288230376151711744 = ((2 ^ k * 285870213051353865 % 18446744073709551616 / 288230376151711744 : Nat) : Int) := by
 have hpos : 0 < x := by rw [hx]; exact Nat.mul_pos (Nat.pow_pos (by decide)) (by omega)
 have e1 : IntKind.u64.wrap (-(x : Int)) = ((18446744073709551616 - x : Nat) : Int) := by rw [IntKind.wrap_u64]; omega
 have e2 : x &&& (18446744073709551616 - x) = 2 ^ k := by
  have h := Lib.and_neg 64 k m (by rw [← hx]; exact hlt)
  rw [← hx] at h
  exact h
 rw [e1, u64_and_nat _ _ hlt (by omega), e2, IntKind.wrap_u64]
 generalize 2 ^ k = y
 omega
theorem pow_split_lt (k m : Nat) (h : 2 ^ k * (2 * m + 1) < 18446744073709551616) : k < 64 := by
 apply Nat.lt_of_not_le
 intro hk
 have h1 : 2 ^ 64 ≤ 2 ^ k := Nat.pow_le_pow_right (by decide) hk
 have h2 : 2 ^ k ≤ 2 ^ k * (2 * m + 1) := Nat.le_mul_of_pos_right _ (by omega)
 have h3 : (2 : Nat) ^ 64 = 18446744073709551616 := by decide
 omega
set_option maxHeartbeats 1000000 in
theorem tz_core (x k idx : Nat) (w : World) (hx0 : ((x : Int) == 0) = false)
  (key : IntKind.u64.wrap (bits BinOp.and IntKind.u64 (x : Int) (IntKind.u64.wrap (-(x : Int))) * 285870213051353865) / 288230376151711744 = (idx : Int))
  (hi : idx < 64) (hk : k < 64) (hcell : w.cell? ⟨2, idx, none⟩ = some (.int .u8 k)) :
  Calls Tryz.prog 130 #[.int .u64 x] w fun e w' => e = .returned (.int .i64 k) ∧ w = w' := by
 go_enter Tryz.func130, Tryz.ntmps130
 go_wp2_with (simp only [key])
 go_ret
 exact ⟨rfl, rfl⟩
theorem tz_any (x k m : Nat) (w : World) (hx : x = 2 ^ k * (2 * m + 1)) (hlt : x < 18446744073709551616) (ht : TabOk w) :
  Calls Tryz.prog 130 #[.int .u64 x] w fun e w' => e = .returned (.int .i64 k) ∧ w = w' := by
 have hk : k < 64 := pow_split_lt k m (by rw [← hx]; exact hlt)
 have hpos : 0 < x := by rw [hx]; exact Nat.mul_pos (Nat.pow_pos (by decide)) (by omega)
 obtain ⟨hj, hv⟩ := Lib.deBruijn64_at k hk
 have hc := ht _ hj
 rw [hv] at hc
 exact tz_core x k _ w (by simp; omega) (low_bit x k m hx hlt) hj hk hc
def minS (S : BitVec 256) : Nat := ((List.range 256).find? S.getLsbD).getD 0
theorem minS_eq (S : BitVec 256) (m : Nat) (hm : m < 256) (h : S.getLsbD m = true) (hn : ∀ k, k < m → S.getLsbD k = false) : minS S = m := by
 unfold minS
 have : (List.range 256).find? S.getLsbD = some m := by
  rw [List.find?_range_eq_some]
  exact ⟨h, by simpa using hm, by simpa using hn⟩
 rw [this]; rfl
end Go.Proofs.YteggpecbeagohaaGreatDoor
namespace Go.Proofs.YteggpecbeagohaaGreatDoor
open Go.RowKit
theorem min_words (S : BitVec 256) (i k m : Nat) (hi : i < 4) (hk : k < 64) (hw : W S i = 2 ^ k * (2 * m + 1)) (hz : ∀ j, j < i → W S j = 0) : minS S = 64 * i + k := by
 refine minS_eq S _ (by omega) ?_ ?_
 ·rw [← bit_W, show (64 * i + k) / 64 = i by omega, show (64 * i + k) % 64 = k by omega, hw, Nat.mul_comm, Nat.testBit_mul_two_pow]
  simp
 ·intro n hn
  rw [← bit_W]
  by_cases hlt : n / 64 < i
  ·rw [hz _ hlt]; simp
  ·have e : n / 64 = i := by omega
   rw [e, hw, Nat.mul_comm, Nat.testBit_mul_two_pow]
   have : ¬ k ≤ n % 64 := by omega
   simp [this]
theorem min_none (S : BitVec 256) (h : S = 0#256) : minS S = 0 := by
 subst h; decide +kernel
set_option maxHeartbeats 1000000 in
theorem min_no (S : BitVec 256) (w : World) (h : S = 0#256) :
  Calls Tryz.prog 104 #[setV S] w fun e w' => e = .returned (.tuple #[.int .u8 0, .bool false]) ∧ Below w.heap.size w w' := by
 have hd : decide (S = 0#256) = true := by simp [h]
 have H := Lib.hid h
 clear h
 go_enter Tryz.func104, Tryz.ntmps104
 go_wp2_with fail
 refine (none_any S _).mono ?_
 rintro e w1 ⟨rfl, hb⟩
 go_wp2
 go_ret2
 refine ⟨rfl, ?_⟩
 refine thenB ?_ hb (by simp)
 go_grown
theorem ctz_split (x : Nat) (h0 : x ≠ 0) (h : x < 18446744073709551616) : ∃ k m, k < 64 ∧ x = 2 ^ k * (2 * m + 1) := by
 obtain ⟨m, hm, hk⟩ := Lib.ctzFrom_spec 64 x (by omega) h
 exact ⟨_, m, hk, hm⟩
set_option maxHeartbeats 1000000 in
theorem min_at (S : BitVec 256) (i k : Nat) (w : World) (hi : i < 4) (hk : k < 64) (hd : decide (S = 0#256) = false) (ht : TabOk w)
  (hz : ∀ j : Nat, j < i → ((W S j : Int) == 0) = true) (hn : ((W S i : Int) == 0) = false) (hm : ∃ m, W S i = 2 ^ k * (2 * m + 1)) :
  Calls Tryz.prog 104 #[setV S] w fun e w' => e = .returned (.tuple #[.int .u8 ((64 * i + k : Nat) : Int), .bool true]) ∧ Below w.heap.size w w' := by
 have HM := Lib.hid hm
 have HT := Lib.hid ht
 have HZ := Lib.hid hz
 clear hm ht hz
 have k0 : (0 : Int) ≤ k := by omega
 have k1 : (k : Int) < 64 := by omega
 rcases (show i = 0 ∨ i = 1 ∨ i = 2 ∨ i = 3 by omega) with rfl | rfl | rfl | rfl
 ·go_enter Tryz.func104, Tryz.ntmps104
  go_wp2_with fail
  refine (none_any S _).mono ?_
  rintro e w1 ⟨rfl, hb⟩
  have hbx := (Box.new w S).call hb
  obtain ⟨c0, c1, c2, c3⟩ := hbx.cells
  have HT1 := Lib.hid ((HT.out.alloc _).call hb)
  have HB := Lib.hid (thenB ((Below.refl _ _).alloc (Nat.le_refl _) _) hb (by simp))
  clear hb hbx
  go_wp2_with fail
  refine wp_loop_rounds 1 ?_
  rw [rounds_succ]; go_wp2_with fail
  obtain ⟨m, hm⟩ := HM.out
  refine (tz_any (W S 0) k m _ hm (W_lt _ _) HT1.out).mono ?_
  rintro e w2 ⟨rfl, rfl⟩
  have HM2 := Lib.hid hm
  clear hm
  go_wp2
  go_ret2
  refine ⟨by simp, HB.out⟩
 ·have z0 := HZ.out 0 (by decide)
  go_enter Tryz.func104, Tryz.ntmps104
  go_wp2_with fail
  refine (none_any S _).mono ?_
  rintro e w1 ⟨rfl, hb⟩
  have hbx := (Box.new w S).call hb
  obtain ⟨c0, c1, c2, c3⟩ := hbx.cells
  have HT1 := Lib.hid ((HT.out.alloc _).call hb)
  have HB := Lib.hid (thenB ((Below.refl _ _).alloc (Nat.le_refl _) _) hb (by simp))
  clear hb hbx
  go_wp2_with fail
  refine wp_loop_rounds 2 ?_
  rw [rounds_succ]; go_wp2_with fail
  rw [rounds_succ]; go_wp2_with fail
  obtain ⟨m, hm⟩ := HM.out
  refine (tz_any (W S 1) k m _ hm (W_lt _ _) HT1.out).mono ?_
  rintro e w2 ⟨rfl, rfl⟩
  have HM2 := Lib.hid hm
  clear hm
  go_wp2
  go_ret2
  refine ⟨by simp, HB.out⟩
 ·have z0 := HZ.out 0 (by decide)
  have z1 := HZ.out 1 (by decide)
  go_enter Tryz.func104, Tryz.ntmps104
  go_wp2_with fail
  refine (none_any S _).mono ?_
  rintro e w1 ⟨rfl, hb⟩
  have hbx := (Box.new w S).call hb
  obtain ⟨c0, c1, c2, c3⟩ := hbx.cells
  have HT1 := Lib.hid ((HT.out.alloc _).call hb)
  have HB := Lib.hid (thenB ((Below.refl _ _).alloc (Nat.le_refl _) _) hb (by simp))
  clear hb hbx
  go_wp2_with fail
  refine wp_loop_rounds 3 ?_
  rw [rounds_succ]; go_wp2_with fail
  rw [rounds_succ]; go_wp2_with fail
  rw [rounds_succ]; go_wp2_with fail
  obtain ⟨m, hm⟩ := HM.out
  refine (tz_any (W S 2) k m _ hm (W_lt _ _) HT1.out).mono ?_
  rintro e w2 ⟨rfl, rfl⟩
  have HM2 := Lib.hid hm
  clear hm
  go_wp2
  go_ret2
  refine ⟨by simp, HB.out⟩
 ·have z0 := HZ.out 0 (by decide)
  have z1 := HZ.out 1 (by decide)
  have z2 := HZ.out 2 (by decide)
  go_enter Tryz.func104, Tryz.ntmps104
  go_wp2_with fail
  refine (none_any S _).mono ?_
  rintro e w1 ⟨rfl, hb⟩
  have hbx := (Box.new w S).call hb
  obtain ⟨c0, c1, c2, c3⟩ := hbx.cells
  have HT1 := Lib.hid ((HT.out.alloc _).call hb)
  have HB := Lib.hid (thenB ((Below.refl _ _).alloc (Nat.le_refl _) _) hb (by simp))
  clear hb hbx
  go_wp2_with fail
  refine wp_loop_rounds 4 ?_
  rw [rounds_succ]; go_wp2_with fail
  rw [rounds_succ]; go_wp2_with fail
  rw [rounds_succ]; go_wp2_with fail
  rw [rounds_succ]; go_wp2_with fail
  obtain ⟨m, hm⟩ := HM.out
  refine (tz_any (W S 3) k m _ hm (W_lt _ _) HT1.out).mono ?_
  rintro e w2 ⟨rfl, rfl⟩
  have HM2 := Lib.hid hm
  clear hm
  go_wp2
  go_ret2
  refine ⟨by simp, HB.out⟩
theorem min_yes (S : BitVec 256) (w : World) (h : S ≠ 0#256) (ht : TabOk w) :
  Calls Tryz.prog 104 #[setV S] w fun e w' => e = .returned (.tuple #[.int .u8 ((minS S : Nat) : Int), .bool true]) ∧ Below w.heap.size w w' := by
 have key : ∃ i, i < 4 ∧ W S i ≠ 0 ∧ ∀ j, j < i → W S j = 0 := by
  by_cases h0 : W S 0 = 0
  ·by_cases h1 : W S 1 = 0
   ·by_cases h2 : W S 2 = 0
    ·by_cases h3 : W S 3 = 0
     ·exact absurd (eq_of_W (by rw [h0, W_zero]) (by rw [h1, W_zero]) (by rw [h2, W_zero]) (by rw [h3, W_zero])) h
     ·exact ⟨3, by decide, h3, fun j hj => by rcases (show j = 0 ∨ j = 1 ∨ j = 2 by omega) with rfl | rfl | rfl <;> assumption⟩
    ·exact ⟨2, by decide, h2, fun j hj => by rcases (show j = 0 ∨ j = 1 by omega) with rfl | rfl <;> assumption⟩
   ·exact ⟨1, by decide, h1, fun j hj => by rcases (show j = 0 by omega) with rfl; assumption⟩
  ·exact ⟨0, by decide, h0, fun j hj => by omega⟩
 obtain ⟨i, hi, hn, hz⟩ := key
 obtain ⟨k, m, hk, hm⟩ := ctz_split (W S i) hn (W_lt _ _)
 rw [min_words S i k m hi hk hm hz]
 exact min_at S i k w hi hk (by simp [h]) ht (fun j hj => by rw [hz j hj]; rfl) (by simp; omega) ⟨m, hm⟩
end Go.Proofs.YteggpecbeagohaaGreatDoor
namespace Go.Proofs.YteggpecbeagohaaGreatDoor
open Go.RowKit
end Go.Proofs.YteggpecbeagohaaGreatDoor
namespace Go.Proofs.YteggpecbeagohaaGreatDoor
open Go.RowKit
end Go.Proofs.YteggpecbeagohaaGreatDoor
namespace Go.Proofs.YteggpecbeagohaaGreatDoor
open Go.RowKit
theorem cellsU8 : Tryz.prog.cellsOf 5 = 1 := by kernel_rfl
end Go.Proofs.YteggpecbeagohaaGreatDoor
namespace Go.Proofs.YteggpecbeagohaaGreatDoor
open Go.RowKit
section
variable {ops : Array Oper} {rest : List Oper} {o : Oper} {a : Act} {w : World} {Q : Exit → Act → World → Prop}
end
theorem below_row {B g : Nat} {w0 w : World} (hb : Below B w0 w) (hg : B ≤ g) (cs : Array Value) : Below B w0 (w.setRow g cs) :=
 hb.trans ⟨rfl, rfl, rfl, by simp, fun k hk => setRow_other w g k cs (by omega)⟩
end Go.Proofs.YteggpecbeagohaaGreatDoor
namespace Go.Proofs.YteggpecbeagohaaGreatDoor
open Go.RowKit
end Go.Proofs.YteggpecbeagohaaGreatDoor
namespace Go.Proofs.YteggpecbeagohaaGreatDoor
open Go.RowKit
end Go.Proofs.YteggpecbeagohaaGreatDoor
namespace Go.Proofs.YteggpecbeagohaaGreatDoor
open Go.RowKit
end Go.Proofs.YteggpecbeagohaaGreatDoor
namespace Go.Proofs.YteggpecbeagohaaGreatDoor
open Go.RowKit
def BoxZ (w : World) (g : Nat) (a b c d : Int) : Prop := w.heap[g]? = some (.cells #[.int .u64 a, .int .u64 b, .int .u64 c, .int .u64 d] 72 (0, 0))
theorem BoxZ.set0 {w : World} {g : Nat} {a b c d : Int} (h : BoxZ w g a b c d) (x : Int) : BoxZ (w.setCell ⟨g, 0, none⟩ (.int .u64 x)) g x b c d := by
 unfold BoxZ at h ⊢; rw [heap_setCell_same w g 0 _ _ _ h]; rfl
theorem BoxZ.set1 {w : World} {g : Nat} {a b c d : Int} (h : BoxZ w g a b c d) (x : Int) : BoxZ (w.setCell ⟨g, 1, none⟩ (.int .u64 x)) g a x c d := by
 unfold BoxZ at h ⊢; rw [heap_setCell_same w g 1 _ _ _ h]; rfl
theorem BoxZ.set2 {w : World} {g : Nat} {a b c d : Int} (h : BoxZ w g a b c d) (x : Int) : BoxZ (w.setCell ⟨g, 2, none⟩ (.int .u64 x)) g a b x d := by
 unfold BoxZ at h ⊢; rw [heap_setCell_same w g 2 _ _ _ h]; rfl
theorem BoxZ.set3 {w : World} {g : Nat} {a b c d : Int} (h : BoxZ w g a b c d) (x : Int) : BoxZ (w.setCell ⟨g, 3, none⟩ (.int .u64 x)) g a b c x := by
 unfold BoxZ at h ⊢; rw [heap_setCell_same w g 3 _ _ _ h]; rfl
theorem BoxZ.all {w : World} {g : Nat} {a b c d : Int} (h : BoxZ w g a b c d) (a' b' c' d' : Int) : BoxZ ((((w.setCell ⟨g, 0, none⟩ (.int .u64 a')).setCell ⟨g, 1, none⟩ (.int .u64 b')).setCell ⟨g, 2, none⟩ (.int .u64 c')).setCell ⟨g, 3, none⟩ (.int .u64 d')) g a' b' c' d' := (((h.set0 a').set1 b').set2 c').set3 d'
end Go.Proofs.YteggpecbeagohaaGreatDoor
namespace Go.Proofs.YteggpecbeagohaaGreatDoor
def bt (p : ByteArray) (i : Nat) : Nat := if h : i < p.size then (p[i]).toNat else 256
theorem bt_lt {p : ByteArray} {i : Nat} (h : i < p.size) : bt p i < 256 := by unfold bt; rw [dif_pos h]; exact (p[i]).toNat_lt
theorem bt_at {p : ByteArray} {i : Nat} (h : i < p.size) : bt p i = (p[i]).toNat := by unfold bt; rw [dif_pos h]
theorem bt_no {p : ByteArray} {i : Nat} (h : p.size ≤ i) : bt p i = 256 := by unfold bt; rw [dif_neg (by omega)]
theorem bt_in {p : ByteArray} {i : Nat} (h : bt p i ≠ 256) : i < p.size := by
 rcases Nat.lt_or_ge i p.size with h1 | h1
 ·exact h1
 ·exact absurd (bt_no h1) h
def oneS (n : Nat) : BitVec 256 := span n (n + 1)
def digS : BitVec 256 := span 48 58
def wordS : BitVec 256 := ofPred fun n => (decide (48 ≤ n ∧ n < 58) || decide (97 ≤ n ∧ n < 123)) || (decide (65 ≤ n ∧ n < 91) || decide (n = 95))
def spaceS : BitVec 256 := ofPred fun n => decide (9 ≤ n ∧ n < 14) || decide (n = 32)
def notS' (S : BitVec 256) : BitVec 256 := ofPred fun n => !mem S n
def hexZ (c : Nat) : Int := if 48 ≤ c ∧ c ≤ 57 then (c : Int) - 48 else if 97 ≤ c ∧ c ≤ 102 then (c : Int) - 87 else if 65 ≤ c ∧ c ≤ 70 then (c : Int) - 55 else -1
theorem hexZ_lt (c : Nat) : -1 ≤ hexZ c ∧ hexZ c ≤ 15 := by unfold hexZ; (repeat' split) <;> omega
def nameS (c : Nat) : Option (BitVec 256) :=
 if c = 100 then some digS else if c = 68 then some (notS' digS) else if c = 119 then some wordS else if c = 87 then some (notS' wordS)
 else if c = 115 then some spaceS else if c = 83 then some (notS' spaceS) else if c = 110 then some (oneS 10) else if c = 116 then some (oneS 9)
 else if c = 114 then some (oneS 13) else if c = 102 then some (oneS 12) else if c = 118 then some (oneS 11) else none
def escZ (p : ByteArray) (i : Nat) : BitVec 256 × Nat :=
 if p.size ≤ i + 1 then (0#256, 0)
 else match nameS (bt p (i + 1)) with
  | some S => (S, i + 2)
  | none =>
    if bt p (i + 1) = 120 ∧ i + 3 < p.size ∧ 0 ≤ hexZ (bt p (i + 2)) ∧ 0 ≤ hexZ (bt p (i + 3)) then (oneS (16 * hexZ (bt p (i + 2)) + hexZ (bt p (i + 3))).toNat, i + 4)
    else if bt p (i + 1) = 95 ∨ mem wordS (bt p (i + 1)) = false then (oneS (bt p (i + 1)), i + 2)
    else (0#256, 0)
def itemZ (p : ByteArray) (i : Nat) : BitVec 256 × Nat :=
 if p.size ≤ i ∨ bt p i = 91 ∨ bt p i = 93 ∨ bt p i = 45 then (0#256, 0) else if bt p i = 92 then escZ p i else (oneS (bt p i), i + 1)
theorem escZ_up (p : ByteArray) (i : Nat) : (escZ p i).2 = 0 ∨ i + 2 ≤ (escZ p i).2 ∧ (escZ p i).2 ≤ p.size := by
 unfold escZ
 split
 ·exact .inl rfl
 ·rename_i h
  split
  ·right; simp; omega
  ·split
   ·right; simp; omega
   ·split
    ·right; simp; omega
    ·exact .inl rfl
theorem itemZ_up (p : ByteArray) (i : Nat) : (itemZ p i).2 = 0 ∨ i + 1 ≤ (itemZ p i).2 ∧ (itemZ p i).2 ≤ p.size := by
 unfold itemZ
 split
 ·exact .inl rfl
 ·split
  ·have := escZ_up p i
   omega
  ·right; simp; omega
theorem ret_b {a b : Bool} (h : a = b) : Ending.returned (.bool a) = .returned (.bool b) := by rw [h]
end Go.Proofs.YteggpecbeagohaaGreatDoor
namespace Go.Proofs.YteggpecbeagohaaGreatDoor
open Go.RowKit
def headB (p : ByteArray) : Nat → List Nat → Bool
 | _, [] => true
 | i, c :: r => (bt p i == c) && headB p (i + 1) r
def startB (p : ByteArray) (i : Nat) (h : ByteArray) : Bool := decide (i ≤ p.size) && (decide (h.size ≤ p.size - i) && ((p.extract i (i + h.size)).toList == h.toList))
theorem bt_list (p : ByteArray) (i : Nat) : p.data.toList[i]? = if h : i < p.size then some p[i] else none := by
 split
 ·rename_i h
  have h' : i < p.data.size := h
  rw [Array.getElem?_toList]
  exact Array.getElem?_eq_getElem h'
 ·rename_i h
  have h' : ¬ i < p.data.size := h
  simp; exact Nat.le_of_not_lt h'
theorem head_list (p : ByteArray) : ∀ (l : List UInt8) (i : Nat), headB p i (l.map (·.toNat)) = l.isPrefixOf (p.data.toList.drop i)
 | [], _ => by simp [headB]
 | c :: r, i => by
   have hb := bt_list p i
   rw [List.map_cons, headB, head_list p r (i + 1)]
   by_cases h : i < p.size
   ·rw [dif_pos h] at hb
    have hd : p.data.toList.drop i = p[i] :: p.data.toList.drop (i + 1) := by
     rw [List.getElem?_eq_some_iff] at hb
     obtain ⟨h1, h2⟩ := hb
     rw [List.drop_eq_getElem_cons h1, h2]
    rw [hd, List.isPrefixOf, bt_at h]
    congr 1
    rw [Bool.eq_iff_iff]
    simp only [beq_iff_eq]
    exact ⟨fun e => (UInt8.toNat_inj.1 e).symm, fun e => by rw [e]⟩
   ·rw [dif_neg h] at hb
    have hd : p.data.toList.drop i = [] := by
     rw [List.drop_eq_nil_iff]
     simpa using hb
    rw [hd, bt_no (by omega)]
    have : (256 == c.toNat) = false := by simp; have := c.toNat_lt; omega
    rw [this]
    rfl
theorem start_head (p h : ByteArray) (i : Nat) (hi : i ≤ p.size) : startB p i h = headB p i (h.data.toList.map (·.toNat)) := by
 rw [head_list]
 unfold startB
 rw [decide_eq_true hi, Bool.true_and, ByteArray.toList_eq, ByteArray.toList_eq]
 have hl : h.data.toList.length = h.size := by simp
 have hpl : p.data.toList.length = p.size := by simp
 by_cases h2 : h.size ≤ p.size - i
 ·rw [decide_eq_true h2, Bool.true_and]
  have he : (p.extract i (i + h.size)).data.toList = (p.data.toList.drop i).take h.size := by
   rw [ByteArray.data_extract, Array.toList_extract, List.extract_eq_take_drop]
   congr 1
   omega
  rw [he, Bool.eq_iff_iff, List.isPrefixOf_iff_prefix, List.prefix_iff_eq_take, hl]
  simp only [beq_iff_eq]
  exact ⟨Eq.symm, Eq.symm⟩
 ·rw [decide_eq_false h2, Bool.false_and]
  symm
  rw [Bool.eq_false_iff]
  intro hp
  have := (List.isPrefixOf_iff_prefix.1 hp).length_le
  rw [List.length_drop] at this
  omega
end Go.Proofs.YteggpecbeagohaaGreatDoor
namespace Go.Proofs.YteggpecbeagohaaGreatDoor
structure Tok where
 k : Int
 S : BitVec 256
 mn : Int
 mx : Int
 md : Int
 n : Int
 f : ByteArray
def tok0 (k : Int) : Tok := ⟨k, 0#256, 0, 0, 0, 0, ByteArray.empty⟩
abbrev TokR := Tok × Nat × Int
def wrongT (e : Int) : TokR := (tok0 0, 0, e)
def isD (p : ByteArray) (i : Nat) : Bool := decide (48 ≤ bt p i ∧ bt p i ≤ 57)
def countZ (p : ByteArray) (i : Nat) : Nat × Nat :=
 if isD p i = false then (0, i) else if isD p (i + 1) = false then (bt p i - 48, i + 1)
 else if isD p (i + 2) = false then (10 * (bt p i - 48) + (bt p (i + 1) - 48), i + 2)
 else (10 * (10 * (bt p i - 48) + (bt p (i + 1) - 48)) + (bt p (i + 2) - 48), i + 3)
def bracesZ (p : ByteArray) (i : Nat) : TokR :=
 let a := countZ p (i + 1)
 if a.2 = i + 1 then wrongT 3
 else
  let b : Int × Nat := if bt p a.2 = 44 then (if (countZ p (a.2 + 1)).2 = a.2 + 1 then -1 else ((countZ p (a.2 + 1)).1 : Int), (countZ p (a.2 + 1)).2) else ((a.1 : Int), a.2)
  if bt p b.2 ≠ 125 then wrongT 3
  else if 100 < a.1 ∨ 100 < b.1 then wrongT 4
  else if 0 ≤ b.1 ∧ b.1 < a.1 then wrongT 3
  else ({ tok0 16 with mn := a.1, mx := b.1 }, b.2 + 1, 0)
def modeZ (p : ByteArray) (x : TokR) : TokR :=
 if bt p x.2.1 = 63 then ({ x.1 with md := 1 }, x.2.1 + 1, 0) else if bt p x.2.1 = 43 then ({ x.1 with md := 2 }, x.2.1 + 1, 0) else x
def quantZ (p : ByteArray) (i : Nat) : TokR :=
 if bt p i = 123 then (if (bracesZ p i).2.2 = 0 then modeZ p (bracesZ p i) else wrongT (bracesZ p i).2.2)
 else modeZ p ({ tok0 16 with mn := if bt p i = 43 then 1 else 0, mx := if bt p i = 63 then 1 else -1 }, i + 1, 0)
def flagsF (p : ByteArray) : Nat → Nat → List UInt8 → TokR
 | 0, _, _ => wrongT 3
 | f + 1, i, s =>
   if h : i < p.size then
    if bt p i = 58 ∧ s ≠ [] then ({ tok0 14 with f := ⟨s.toArray⟩ }, i + 1, 0)
    else if bt p i ≠ 105 ∧ bt p i ≠ 109 ∧ bt p i ≠ 115 then wrongT 3
    else if p[i] ∈ s then wrongT 3
    else flagsF p f (i + 1) (s ++ [p[i]])
   else wrongT 3
def headsL : List (List Nat × Int) := [([46], 1), ([94], 2), ([36], 3), ([92, 98], 4), ([92, 66], 5), ([124], 6), ([40, 63, 58], 8), ([40, 63, 61], 9), ([40, 63, 33], 10), ([40, 63, 60, 61], 11), ([40, 63, 60, 33], 12), ([40, 63, 62], 13), ([41], 15)]
def headF (p : ByteArray) (i : Nat) : List (List Nat × Int) → Option TokR
 | [] => none
 | x :: r => if headB p i x.1 = true then some (tok0 x.2, i + x.1.length, 0) else headF p i r
def clsF (p : ByteArray) : Nat → Nat → BitVec 256 → Bool → Option (BitVec 256 × Nat)
 | 0, _, _, _ => none
 | f + 1, i, s, first =>
   if first = false ∧ bt p i = 93 then some (s, i)
   else
    let x := itemZ p i
    if x.2 = 0 then none
    else if bt p x.2 = 45 then
     let y := itemZ p (x.2 + 1)
     if y.2 = 0 ∨ lenS x.1 ≠ 1 ∨ lenS y.1 ≠ 1 ∨ minS y.1 < minS x.1 then none
     else clsF p f y.2 (ofPred fun n => mem s n || mem (span (minS x.1) (minS y.1 + 1)) n) false
    else clsF p f x.2 (ofPred fun n => mem s n || mem x.1 n) false
def classZ (p : ByteArray) (i : Nat) : BitVec 256 × Nat × Int :=
 if p.size ≤ i ∨ bt p i ≠ 91 then (0#256, 0, 1)
 else match clsF p (p.size + 1) (if bt p (i + 1) = 94 then i + 2 else i + 1) 0#256 true with
  | none => (0#256, 0, 3)
  | some x => (if bt p (i + 1) = 94 then notS' x.1 else x.1, x.2 + 1, 0)
def tokZ (p : ByteArray) (i : Nat) : TokR :=
 match headF p i headsL with
 | some x => x
 | none =>
   if headB p i [40, 63] = true then flagsF p (p.size + 1) (i + 2) []
   else if bt p i = 40 then (tok0 7, i + 1, 0)
   else if bt p i = 42 ∨ bt p i = 43 ∨ bt p i = 63 ∨ bt p i = 123 then quantZ p i
   else if bt p i = 91 then ({ tok0 0 with S := (classZ p i).1 }, (classZ p i).2.1, (classZ p i).2.2)
   else if bt p i = 93 ∨ bt p i = 125 then wrongT 3
   else if bt p i ≠ 92 then ({ tok0 0 with S := oneS (bt p i) }, i + 1, 0)
   else if 49 ≤ bt p (i + 1) ∧ bt p (i + 1) ≤ 57 then ({ tok0 17 with n := (bt p (i + 1) : Int) - 48 }, i + 2, 0)
   else if (escZ p i).2 = 0 then wrongT 3
   else ({ tok0 0 with S := (escZ p i).1 }, (escZ p i).2, 0)
def lexF (p : ByteArray) : Nat → Nat → List Tok → List Tok × Int
 | 0, _, l => (l, 0)
 | f + 1, i, l =>
   if p.size ≤ i then (l, 0)
   else if (tokZ p i).2.2 ≠ 0 then ([], (tokZ p i).2.2)
   else lexF p f (tokZ p i).2.1 (l ++ [(tokZ p i).1])
def lexZ (p : ByteArray) : List Tok × Int := if 1000 < p.size then ([], 4) else lexF p (p.size + 1) 0 []
end Go.Proofs.YteggpecbeagohaaGreatDoor
namespace Go.Proofs.YteggpecbeagohaaGreatDoor
open Go.RowKit
def cntV (p : ByteArray) (i : Nat) : Nat → Nat
 | 0 => 0
 | k + 1 => 10 * cntV p i k + (bt p (i + k) - 48)
theorem cntV_lt {p : ByteArray} {i : Nat} : ∀ k, (∀ j, j < k → isD p (i + j) = true) → cntV p i k < 10 ^ k
 | 0, _ => by simp [cntV]
 | k + 1, h => by
   have h1 := cntV_lt k fun j hj => h j (by omega)
   have h2 := h k (by omega)
   unfold isD at h2
   have h3 := of_decide_eq_true h2
   rw [cntV, Nat.pow_succ]
   omega
theorem count_at {p : ByteArray} {i k : Nat} (hk : k ≤ 3) (h : ∀ j, j < k → isD p (i + j) = true) (he : k = 3 ∨ isD p (i + k) = false) : countZ p i = (cntV p i k, i + k) := by
 unfold countZ
 rcases (show k = 0 ∨ k = 1 ∨ k = 2 ∨ k = 3 by omega) with rfl | rfl | rfl | rfl
 ·rcases he with he | he
  ·omega
  ·rw [if_pos (show isD p i = false from he)]; rfl
 ·have h0 : isD p i = true := h 0 (by omega)
  rcases he with he | he
  ·omega
  ·rw [if_neg (by rw [h0]; decide), if_pos he]; simp [cntV]
 ·have h0 : isD p i = true := h 0 (by omega)
  have h1 := h 1 (by omega)
  rcases he with he | he
  ·omega
  ·rw [if_neg (by rw [h0]; decide), if_neg (by rw [h1]; decide), if_pos he]; simp [cntV]
 ·have h0 : isD p i = true := h 0 (by omega)
  have h1 := h 1 (by omega)
  have h2 := h 2 (by omega)
  rw [if_neg (by rw [h0]; decide), if_neg (by rw [h1]; decide), if_neg (by rw [h2]; decide)]
  simp [cntV]
end Go.Proofs.YteggpecbeagohaaGreatDoor
