/-
  ClassG, ClassH
-/
import Derived.Test.YtlcecblehffjiaaDoorClassF
import Derived.BigQuiet
import Derived.Deep.QuietTactic
namespace Go.Proofs.YtlcecblehffjiaaDoor
open Go.RowKit

/-- A slice that reads as the runs l. -/
def Reads (w : World) (v : Value) (l : List (Nat × Nat)) : Prop :=
  ∃ ao cap, v = .slice ao l.length cap ∧ (l = [] ∨ ∃ r, r < w.heap.size ∧ ao = some ⟨r, 0, none⟩ ∧ ∀ i p, l[i]? = some p → w.cell? ⟨r, i * 2, none⟩ = some (.int .u8 (p.1 : Int)) ∧ w.cell? ⟨r, i * 2 + 1, none⟩ = some (.int .u8 (p.2 : Int)))

theorem runCells_at (l : List (Nat × Nat)) : ∀ (i : Nat) (p : Nat × Nat), l[i]? = some p → (runCells l)[i * 2]? = some (.int .u8 (p.1 : Int)) ∧ (runCells l)[i * 2 + 1]? = some (.int .u8 (p.2 : Int)) := by
  induction l with
  | nil => intro i p h; simp at h
  | cons q l ih =>
    intro i p h
    match i, h with
    | 0, h => simp at h; subst h; simp [runCells]
    | i + 1, h =>
      have := ih i p (by simpa using h)
      rw [show (i + 1) * 2 = i * 2 + 2 by omega]
      simpa [runCells] using this

theorem Reads.call {w w' : World} {v : Value} {l : List (Nat × Nat)} (h : Reads w v l) (hb : Below w.heap.size w w') : Reads w' v l := by
  obtain ⟨ao, cap, hv, h⟩ := h
  refine ⟨ao, cap, hv, ?_⟩
  rcases h with h | ⟨r, hr, ha, h⟩
  · exact Or.inl h
  · exact Or.inr ⟨r, Nat.lt_of_lt_of_le hr hb.size, ha, fun i p hp => ⟨(hb.cell (p := ⟨r, i * 2, none⟩) hr).trans (h i p hp).1, (hb.cell (p := ⟨r, i * 2 + 1, none⟩) hr).trans (h i p hp).2⟩⟩
theorem Reads.alloc {w : World} {v : Value} {l : List (Nat × Nat)} (h : Reads w v l) (o : Obj) : Reads (w.alloc o) v l := h.call ((Below.refl _ w).alloc (Nat.le_refl _) o)

/-- What Ranges leaves. -/
def GotRuns (w : World) (S : BitVec 256) (e : Ending) (w' : World) : Prop := ∃ v, e = .returned v ∧ Reads w' v (runs S) ∧ Below w.heap.size w w'

end Go.Proofs.YtlcecblehffjiaaDoor

namespace Go.Proofs.YtlcecblehffjiaaDoor
open Go.RowKit

theorem cellsU8 : Tryd.prog.cellsOf 5 = 1 := by kernel_rfl
theorem infoU8 : ∃ i, Tryd.prog.info? 5 = some i := by
  cases h : Tryd.prog.info? 5 with
  | none => exact absurd (show (Tryd.prog.info? 5).isSome = true by kernel_rfl) (by simp [h])
  | some i => exact ⟨i, rfl⟩

/-- From place i on, are the lists the same? -/
theorem drop_step (l m : List (Nat × Nat)) (i : Nat) (p q : Nat × Nat) (h1 : l[i]? = some p) (h2 : m[i]? = some q) : decide (l.drop i = m.drop i) = (((p.1 : Int) == (q.1 : Int) && (p.2 : Int) == (q.2 : Int)) && decide (l.drop (i + 1) = m.drop (i + 1))) := by
  obtain ⟨hl, rfl⟩ := List.getElem?_eq_some_iff.1 h1
  obtain ⟨hm, rfl⟩ := List.getElem?_eq_some_iff.1 h2
  rw [List.drop_eq_getElem_cons hl, List.drop_eq_getElem_cons hm, Bool.eq_iff_iff]
  simp only [decide_eq_true_eq, Bool.and_eq_true, beq_iff_eq, List.cons.injEq, Prod.ext_iff, Int.natCast_inj]

end Go.Proofs.YtlcecblehffjiaaDoor
