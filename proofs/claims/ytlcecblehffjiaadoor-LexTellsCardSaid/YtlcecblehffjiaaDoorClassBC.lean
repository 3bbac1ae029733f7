/-
  ClassB, ClassC
-/
import Derived.Test.YtlcecblehffjiaaDoorClassA
import Derived.Test.YtlcecblehffjiaaDoorSetsB
import Derived.Deep.RegionWith
import Derived.Deep.RegionHeld3
namespace Go.Proofs.YtlcecblehffjiaaDoor
open Go.RowKit

/-- The block g holds the set S. -/
def Box (w : World) (g : Nat) (S : BitVec 256) : Prop := w.heap[g]? = some (.cells #[.int .u64 (W S 0), .int .u64 (W S 1), .int .u64 (W S 2), .int .u64 (W S 3)] 36 (0, 0))

theorem Box.cells {w : World} {g : Nat} {S : BitVec 256} (h : Box w g S) : w.cell? ⟨g, 0, none⟩ = some (.int .u64 (W S 0)) ∧ w.cell? ⟨g, 1, none⟩ = some (.int .u64 (W S 1)) ∧ w.cell? ⟨g, 2, none⟩ = some (.int .u64 (W S 2)) ∧ w.cell? ⟨g, 3, none⟩ = some (.int .u64 (W S 3)) := by
  unfold Box at h
  refine ⟨?_, ?_, ?_, ?_⟩ <;> rw [cell_of_row w g _ _ _ _ h] <;> rfl
theorem Box.free {w : World} {g : Nat} {S : BitVec 256} (h : Box w g S) (j : Nat) : w.frozen? ⟨g, j, none⟩ = false := frozen_of_row w g j _ _ h
theorem Box.lt {w : World} {g : Nat} {S : BitVec 256} (h : Box w g S) : g < w.heap.size := by
  unfold Box at h
  exact (Array.getElem?_eq_some_iff.1 h).1
theorem Box.below {w w' : World} {g B : Nat} {S : BitVec 256} (h : Box w g S) (hb : Below B w w') (hg : g < B) : Box w' g S := (hb.block g hg).trans h
theorem Box.set {w : World} {g : Nat} {S : BitVec 256} (h : Box w g S) (T : BitVec 256) :
    Box ((((w.setCell ⟨g, 0, none⟩ (.int .u64 (W T 0))).setCell ⟨g, 1, none⟩ (.int .u64 (W T 1))).setCell ⟨g, 2, none⟩ (.int .u64 (W T 2))).setCell ⟨g, 3, none⟩ (.int .u64 (W T 3))) g T := by
  unfold Box at h ⊢
  have h0 := heap_setCell_same w g 0 _ _ (.int .u64 (W T 0)) h
  have h1 := heap_setCell_same _ g 1 _ _ (.int .u64 (W T 1)) h0
  have h2 := heap_setCell_same _ g 2 _ _ (.int .u64 (W T 2)) h1
  have h3 := heap_setCell_same _ g 3 _ _ (.int .u64 (W T 3)) h2
  rw [h3]
  rfl
theorem Box.other {w : World} {g : Nat} {S : BitVec 256} (h : Box w g S) {a : Addr} (v : Value) (hg : g ≠ a.block) : Box (w.setCell a v) g S := (heap_setCell_other w a g v hg).trans h
theorem Box.alloc {w : World} {g : Nat} {S : BitVec 256} (h : Box w g S) (o : Obj) : Box (w.alloc o) g S := (Below.heap_alloc _ _ _ h.lt).trans h
theorem Box.new (w : World) (S : BitVec 256) : Box (w.alloc (.cells #[.int .u64 (W S 0), .int .u64 (W S 1), .int .u64 (W S 2), .int .u64 (W S 3)] 36)) w.heap.size S := heap_alloc_new _ _
theorem Box.call {w w' : World} {g : Nat} {S : BitVec 256} (h : Box w g S) (hb : Below w.heap.size w w') : Box w' g S := h.below hb h.lt
theorem Box.zero {w : World} {g : Nat} (h : w.heap[g]? = some (.cells #[.int .u64 0, .int .u64 0, .int .u64 0, .int .u64 0] 36 (0, 0))) : Box w g 0#256 := by
  unfold Box; rw [h]; simp [W_zero]

/-- The world with the set T stored into block g. -/
abbrev setW (w : World) (g : Nat) (T : BitVec 256) : World := (((w.setCell ⟨g, 0, none⟩ (.int .u64 (W T 0))).setCell ⟨g, 1, none⟩ (.int .u64 (W T 1))).setCell ⟨g, 2, none⟩ (.int .u64 (W T 2))).setCell ⟨g, 3, none⟩ (.int .u64 (W T 3))
theorem Box.others {w : World} {g k : Nat} {S : BitVec 256} (h : Box w g S) (T : BitVec 256) (hg : g ≠ k) : Box (setW w k T) g S := (((h.other _ hg).other _ hg).other _ hg).other _ hg
theorem below_setW {B : Nat} {a w : World} (h : Below B a w) {g : Nat} (hg : B ≤ g) (T : BitVec 256) : Below B a (setW w g T) := (((h.setCell (p := ⟨g, 0, none⟩) hg _).setCell (p := ⟨g, 1, none⟩) hg _).setCell (p := ⟨g, 2, none⟩) hg _).setCell (p := ⟨g, 3, none⟩) hg _

/-- A struct result: the block's set is what is returned. -/
theorem Box.results {fn : Func} {p : Tmp} (h : fn.results = #[.cell p 36]) (tmps : Array Value) {w : World} {g : Nat} {S : BitVec 256} (hp : tmps.getD p undef = .pointer (some ⟨g, 0, none⟩)) (hg : Box w g S) :
    (results fn tmps).run Tryd.prog w = .ok (setV S) w :=
  results_cell_row h tmps w g _ _ _ _ hp hg Tryd.underlying36 rfl (by kernel_rfl)

set_option maxHeartbeats 1000000 in
theorem range_any (a b : Int) (w : World) (a0 : 0 ≤ a) (a1 : a < 256) (b0 : 0 ≤ b) (b1 : b < 256) :
    Calls Tryd.prog 20 #[.int .u8 a, .int .u8 b] w fun e w' => e = .returned (setV (span a.toNat (b.toNat + 1))) ∧ Below w.heap.size w w' := by
  obtain ⟨x, rfl⟩ := Int.eq_ofNat_of_zero_le a0
  obtain ⟨y, rfl⟩ := Int.eq_ofNat_of_zero_le b0
  go_enter Tryd.func20, Tryd.ntmps20
  go_wp2
  go_loopw [6] (fun v wr => ∃ k : Nat, v = .int .i64 k ∧ x ≤ k ∧ k ≤ 256 ∧ (k ≤ x ∨ k ≤ y + 1) ∧ Box wr w.heap.size 0#256 ∧ Box wr (w.heap.size + 1) (span x k) ∧ Below w.heap.size w wr) (fun v _ => 256 - (intOf v).toNat)
  case atStart =>
    refine ⟨x, rfl, Nat.le_refl _, by omega, Or.inl (Nat.le_refl _), Box.zero (heap_alloc2_old _ _ _), ?_, by go_grown⟩
    rw [span_none _ _ (Nat.le_refl _)]
    exact Box.zero (heap_alloc2_new _ _ _)
  case round =>
    obtain ⟨k, rfl, h1, h2, h3, hz, hs, hbel⟩ := hrel
    obtain ⟨c0, c1, c2, c3⟩ := hs.cells
    by_cases hlt : k ≤ y
    · have hk : k < 256 := by omega
      have HZ := Lib.hid hz
      have HS := Lib.hid hs
      have HB := Lib.hid hbel
      clear hz hs hbel
      go_wp2_with (go_at_call 39; refine (with_any (span x k) _ _ (by omega) (by omega)).mono ?_; rintro e w1 ⟨rfl, hb⟩; have hs1 := HS.out.below hb HS.out.lt; obtain ⟨d0, d1, d2, d3⟩ := hs1.cells; have f := hs1.free; have HS1 := Lib.hid hs1; clear hs1)
      go_roundw
      case rel => exact ⟨k + 1, by go_num, by omega, by omega, Or.inr (by omega), (HZ.out.below hb HZ.out.lt).others _ (by omega), by rw [← span_add _ _ h1 hk]; exact HS1.out.set _, below_setW (thenB HB.out hb HB.out.size) (by omega) _⟩
      case measure => simp [intOf]; omega
    · have e : span x k = span x (y + 1) := by
        rcases h3 with h3 | h3
        · rw [span_none _ _ h3, span_none _ _ (by omega)]
        · rw [show k = y + 1 by omega]
      rw [e] at c0 c1 c2 c3
      obtain ⟨d0, d1, d2, d3⟩ := hz.cells
      have f := hz.free
      have HZ := Lib.hid hz
      have HB := Lib.hid hbel
      clear hz hs hbel e
      go_wp2
      refine bodyPost_ret (Box.results rfl _ (g := w.heap.size) rfl (HZ.out.set _)) rfl ⟨rfl, ?_⟩
      exact below_setW HB.out (by omega) _

theorem one_at (n : Int) (m : Nat) (w : World) (h : n = m) (hm : m < 256) :
    Calls Tryd.prog 17 #[.int .u8 n] w fun e w' => e = .returned (setV (addB 0#256 m)) ∧ Below w.heap.size w w' := by
  subst h
  have h := one_any (m : Int) w (by omega) (by omega)
  simpa using h

set_option maxHeartbeats 1000000 in
theorem fold_any (S : BitVec 256) (w : World) :
    Calls Tryd.prog 59 #[setV S] w fun e w' => e = .returned (setV (foldS S)) ∧ Below w.heap.size w w' := by
  go_enter Tryd.func59, Tryd.ntmps59
  go_wp2
  go_loopw [7] (fun v wr => ∃ k : Nat, v = .int .u8 k ∧ k ≤ 26 ∧ Box wr w.heap.size S ∧ Box wr (w.heap.size + 1) 0#256 ∧ Box wr (w.heap.size + 2) (foldTo S k) ∧ Below w.heap.size w wr) (fun v _ => 26 - (intOf v).toNat)
  case atStart =>
    refine ⟨0, rfl, by omega, ?_, ?_, ?_, by go_grown⟩
    · exact (Below.heap_alloc _ _ _ (by simp; omega)).trans ((Below.heap_alloc _ _ _ (by simp)).trans (heap_alloc_new _ _))
    · exact Box.zero ((Below.heap_alloc _ _ _ (by simp)).trans (heap_alloc2_new _ _ _))
    · have h := heap_alloc_new ((w.alloc (.cells #[.int .u64 (W S 0), .int .u64 (W S 1), .int .u64 (W S 2), .int .u64 (W S 3)] 36)).alloc (.cells #[.int .u64 0, .int .u64 0, .int .u64 0, .int .u64 0] 36)) (.cells #[.int .u64 (W S 0), .int .u64 (W S 1), .int .u64 (W S 2), .int .u64 (W S 3)] 36)
      simpa [Box, foldTo] using h
  case round =>
    obtain ⟨k, rfl, hk, hs, hz, hf, hbel⟩ := hrel
    by_cases hlt : k < 26
    · have HS := Lib.hid hs
      have HZ := Lib.hid hz
      have HF := Lib.hid hf
      have HB := Lib.hid hbel
      clear hs hz hf hbel
      go_wp2_with fail
      refine (one_at _ (97 + k) _ (by omega) (by omega)).mono ?_
      rintro e w1 ⟨rfl, hb1⟩
      go_wp2_with fail
      refine (one_at _ (65 + k) _ (by omega) (by omega)).mono ?_
      rintro e w2 ⟨rfl, hb2⟩
      go_wp2_with fail
      refine (or_any _ _ _).mono ?_
      rintro e w3 ⟨rfl, hb3⟩
      rw [show addB 0#256 (97 + k) ||| addB 0#256 (65 + k) = pair k from rfl]
      have hs3 := ((HS.out.call hb1).call hb2).call hb3
      have hz3 := ((HZ.out.call hb1).call hb2).call hb3
      have hf3 := ((HF.out.call hb1).call hb2).call hb3
      have hB3 := thenB (thenB (thenB HB.out hb1 HB.out.size) hb2 (by have := hb1.size; have := HB.out.size; omega)) hb3 (by have := hb1.size; have := hb2.size; have := HB.out.size; omega)
      have l3 : w.heap.size + 2 < w3.heap.size := hf3.lt
      have n3 : w.heap.size < w3.heap.size := by omega
      clear hb1 hb2 hb3 HS HZ HF HB
      obtain ⟨c0, c1, c2, c3⟩ := hs3.cells
      have HS := Lib.hid hs3
      have HZ := Lib.hid hz3
      have HF := Lib.hid hf3
      have HB := Lib.hid hB3
      clear hs3 hz3 hf3 hB3
      go_wp2_with fail
      refine (and_any S (pair k) _).mono ?_
      rintro e w4 ⟨rfl, hb4⟩
      have hs4 := (HS.out.alloc _).call hb4
      have hz4 := (HZ.out.alloc _).call hb4
      have hf4 := (HF.out.alloc _).call hb4
      have hp4 := (Box.new w3 (pair k)).call hb4
      have hB4 := thenB (HB.out.alloc (by omega) _) hb4 (by simp; omega)
      clear hb4 HS HZ HF HB c0 c1 c2 c3
      have HS := Lib.hid hs4
      have HZ := Lib.hid hz4
      have HF := Lib.hid hf4
      have HP := Lib.hid hp4
      have HB := Lib.hid hB4
      clear hs4 hz4 hf4 hp4 hB4
      go_wp2_with fail
      refine (none_any _ _).mono ?_
      rintro e w5 ⟨rfl, hb5⟩
      have hs5 := HS.out.call hb5
      have hz5 := HZ.out.call hb5
      have hf5 := HF.out.call hb5
      have hp5 := HP.out.call hb5
      have hB5 := thenB HB.out hb5 (by have := HS.out.lt; omega)
      clear hb5 HS HZ HF HP HB
      obtain ⟨c0, c1, c2, c3⟩ := hf5.cells
      obtain ⟨d0, d1, d2, d3⟩ := hp5.cells
      have HS := Lib.hid hs5
      have HZ := Lib.hid hz5
      have HF := Lib.hid hf5
      have HP := Lib.hid hp5
      have HB := Lib.hid hB5
      clear hs5 hz5 hf5 hp5 hB5
      by_cases hn : S &&& pair k = 0#256
      · have hd : decide (S &&& pair k = 0#256) = true := by simp [hn]
        have HN := Lib.hid hn
        clear hn
        go_wp2_with fail
        go_roundw
        case rel => exact ⟨k + 1, by go_num, by omega, HS.out, HZ.out, by rw [foldTo, foldStep, if_pos HN.out]; exact HF.out, HB.out⟩
        case measure => simp [intOf]; omega
      · have hd : decide (S &&& pair k = 0#256) = false := by simp [hn]
        have HN := Lib.hid hn
        clear hn
        go_wp2_with fail
        refine (or_any (foldTo S k) (pair k) _).mono ?_
        rintro e w6 ⟨rfl, hb6⟩
        have hs6 := HS.out.call hb6
        have hz6 := HZ.out.call hb6
        have hf6 := HF.out.call hb6
        have hB6 := thenB HB.out hb6 (by have := HS.out.lt; omega)
        clear hb6 HS HZ HF HB c0 c1 c2 c3 d0 d1 d2 d3
        obtain ⟨c0, c1, c2, c3⟩ := hf6.cells
        have f := hf6.free
        have HS := Lib.hid hs6
        have HZ := Lib.hid hz6
        have HF := Lib.hid hf6
        have HB := Lib.hid hB6
        clear hs6 hz6 hf6 hB6
        go_wp2_with fail
        go_roundw
        case rel => exact ⟨k + 1, by go_num, by omega, HS.out.others _ (by omega), HZ.out.others _ (by omega), by rw [foldTo, foldStep, if_neg HN.out]; exact HF.out.set _, below_setW HB.out (by omega) _⟩
        case measure => simp [intOf]; omega
    · obtain rfl : k = 26 := by omega
      obtain ⟨c0, c1, c2, c3⟩ := hf.cells
      obtain ⟨d0, d1, d2, d3⟩ := hz.cells
      have f := hz.free
      have HZ := Lib.hid hz
      have HB := Lib.hid hbel
      clear hz hs hf hbel
      go_wp2
      refine bodyPost_ret (Box.results rfl _ (g := w.heap.size + 1) rfl (HZ.out.set _)) rfl ⟨rfl, ?_⟩
      exact below_setW HB.out (by omega) _
end Go.Proofs.YtlcecblehffjiaaDoor

namespace Go.Proofs.YtlcecblehffjiaaDoor
open Go.RowKit

set_option maxHeartbeats 2000000 in
theorem of_any (s : ByteArray) (w : World) (hlen : s.size ≤ 9223372036854775807) :
    Calls Tryd.prog 18 #[.string s] w fun e w' => e = .returned (setV (ofBytes s.data.toList)) ∧ Below w.heap.size w w' := by
  go_enter Tryd.func18, Tryd.ntmps18
  go_wp2
  go_loopw [7] (fun v wr => ∃ k : Nat, v = .int .i64 k ∧ k ≤ s.size ∧ Box wr w.heap.size 0#256 ∧ Box wr (w.heap.size + 1) (ofBytes (s.data.toList.take k)) ∧ Below w.heap.size w wr) (fun v _ => s.size - (intOf v).toNat)
  case atStart => exact ⟨0, rfl, Nat.zero_le _, Box.zero (heap_alloc2_old _ _ _), Box.zero (heap_alloc2_new _ _ _), by go_grown⟩
  case round =>
    obtain ⟨k, rfl, hk, hz, hs, hbel⟩ := hrel
    by_cases hlt : k < s.size
    · obtain ⟨c0, c1, c2, c3⟩ := hs.cells
      have hc : (s[k].toNat : Int) < 256 := by have := s[k].toNat_lt; omega
      have HT := Lib.hid (take_snoc s k hlt)
      have HZ := Lib.hid hz
      have HS := Lib.hid hs
      have HB := Lib.hid hbel
      clear hz hs hbel
      have kk : (0 : Int) ≤ k := by omega
      go_wp2
      go_region_with (go_at_call 39; refine (with_any (ofBytes (s.data.toList.take k)) _ _ (by omega) (by omega)).mono ?_; rintro e w1 ⟨rfl, hb⟩; have hs1 := Box.call (w := World.drew _) HS.out hb; obtain ⟨d0, d1, d2, d3⟩ := hs1.cells; have f := hs1.free; have HS1 := Lib.hid hs1; clear hs1)
      all_goals
        go_wp2
        go_roundw
        case rel => exact ⟨k + 1, by go_num, by omega, (Box.call (w := World.drew _) HZ.out hb).others _ (by omega), by rw [HT.out, ofBytes_snoc]; exact HS1.out.set _, below_setW (thenB (u := World.drew _) HB.out.drew hb HB.out.size) (by omega) _⟩
        case measure => simp [intOf]; omega
    · obtain rfl : k = s.size := by omega
      have e : s.data.toList.take s.size = s.data.toList := List.take_of_length_le (by rw [Array.length_toList]; exact Nat.le_refl _)
      rw [e] at hs
      clear e
      obtain ⟨c0, c1, c2, c3⟩ := hs.cells
      obtain ⟨d0, d1, d2, d3⟩ := hz.cells
      have f := hz.free
      have HZ := Lib.hid hz
      have HB := Lib.hid hbel
      clear hz hs hbel
      go_wp2
      refine bodyPost_ret (Box.results rfl _ (g := w.heap.size) rfl (HZ.out.set _)) rfl ⟨rfl, ?_⟩
      exact below_setW HB.out (by omega) _
end Go.Proofs.YtlcecblehffjiaaDoor
