/-
  What Set.Ranges answers, and what the statements' own Runs says of two lists of runs.
-/
import Derived.Test.YtobhhhopkkcdiaaDoorClassF
import Derived.BigQuiet
import Derived.Deep.QuietTactic
namespace Go.Proofs.YtobhhhopkkcdiaaDoor
open Go.RowKit

/-- A slice that reads as the runs l. -/
def Reads (w : World) (v : Value) (l : List (Nat × Nat)) : Prop :=
  ∃ ao cap, v = .slice ao l.length cap ∧ (l = [] ∨ ∃ r, r < w.heap.size ∧ ao = some ⟨r, 0, none⟩ ∧ ∀ i p, l[i]? = some p → w.cell? ⟨r, i * 2, none⟩ = some (.int .u8 (p.1 : Int)) ∧ w.cell? ⟨r, i * 2 + 1, none⟩ = some (.int .u8 (p.2 : Int)))

theorem runCells_at (l : List (Nat × Nat)) : ∀ (i : Nat) (p : Nat × Nat), l[i]? = some p → (runCells l)[i * 2]? = some (.int .u8 (p.1 : Int)) ∧ (runCells l)[i * 2 + 1]? = some (.int .u8 (p.2 : Int)) := by
  induction l with
  | nil => intro i p h; simp at h
  | cons q l ih =>
    intro i p h
    match i, h with
    | 0, h => simp at h; subst h; simp [runCells]
    | i + 1, h =>
      have := ih i p (by simpa using h)
      rw [show (i + 1) * 2 = i * 2 + 2 by omega]
      simpa [runCells] using this

theorem Reads.of_own {w : World} {base : Nat} {v : Value} {l : List (Nat × Nat)} (h : w.ownsRow base 53 2 v l.length (runCells l)) : Reads w v l := by
  obtain ⟨h1, h2⟩ := h
  rcases h2 with ⟨rfl, h0⟩ | ⟨r, cap, cur, rfl, _, hr, _, _, hsz, hcur⟩
  · exact ⟨none, 0, by rw [h0], Or.inl (List.length_eq_zero_iff.1 h0)⟩
  · refine ⟨_, cap, rfl, Or.inr ⟨r, lt_of_block hr, rfl, fun i p hp => ?_⟩⟩
    have hc := runCells_at l i p hp
    have hi : i < l.length := (List.getElem?_eq_some_iff.1 hp).1
    rw [← hcur, List.getElem?_take_of_lt (by omega), List.getElem?_take_of_lt (by omega), Array.getElem?_toList, Array.getElem?_toList] at hc
    rw [cell_of_row w r _ _ _ _ hr, cell_of_row w r _ _ _ _ hr]
    exact hc

theorem Reads.call {w w' : World} {v : Value} {l : List (Nat × Nat)} (h : Reads w v l) (hb : Below w.heap.size w w') : Reads w' v l := by
  obtain ⟨ao, cap, hv, h⟩ := h
  refine ⟨ao, cap, hv, ?_⟩
  rcases h with h | ⟨r, hr, ha, h⟩
  · exact Or.inl h
  · exact Or.inr ⟨r, Nat.lt_of_lt_of_le hr hb.size, ha, fun i p hp => ⟨(hb.cell (p := ⟨r, i * 2, none⟩) hr).trans (h i p hp).1, (hb.cell (p := ⟨r, i * 2 + 1, none⟩) hr).trans (h i p hp).2⟩⟩
theorem Reads.alloc {w : World} {v : Value} {l : List (Nat × Nat)} (h : Reads w v l) (o : Obj) : Reads (w.alloc o) v l := h.call ((Below.refl _ w).alloc (Nat.le_refl _) o)

/-- What Ranges leaves. -/
def GotRuns (w : World) (S : BitVec 256) (e : Ending) (w' : World) : Prop := ∃ v, e = .returned v ∧ Reads w' v (runs S) ∧ Below w.heap.size w w'

set_option maxHeartbeats 1000000 in
theorem ranges_any (S : BitVec 256) (w : World) : Calls Tryd.prog 17 #[setV S] w (GotRuns w S) := by
  go_enter Tryd.func17, Tryd.ntmps17
  go_wp2_with fail
  refine (each_any S (w.heap.size + 1) w.heap.size _ (by simp; omega) ⟨.slice none 0 0, heap_alloc2_new _ _ _, World.ownsRow_nil _ _ _ _⟩).mono ?_
  rintro e w1 ⟨rfl, ⟨v, hg, hown⟩, hk⟩
  obtain ⟨ao, m', c', rfl⟩ := own_slice hown
  have hc := cell_of_one hg
  have HO := Lib.hid hown
  have HK := Lib.hid hk
  clear hown hg hk
  go_wp2
  go_ret
  refine ⟨_, rfl, Reads.of_own HO.out, ?_⟩
  refine Below.trans ?_ (HK.out.below (Nat.le_refl _) (by omega) (by simp; omega))
  go_grown
end Go.Proofs.YtobhhhopkkcdiaaDoor
