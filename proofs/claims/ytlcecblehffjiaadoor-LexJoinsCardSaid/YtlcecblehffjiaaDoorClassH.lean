/-
  What the statements' own Runs says of two lists of runs: whether they are the same.
-/
import Derived.Test.YtlcecblehffjiaaDoorClassG
namespace Go.Proofs.YtlcecblehffjiaaDoor
open Go.RowKit

theorem cellsU8 : Tryd.prog.cellsOf 5 = 1 := by kernel_rfl
theorem infoU8 : ∃ i, Tryd.prog.info? 5 = some i := by
  cases h : Tryd.prog.info? 5 with
  | none => exact absurd (show (Tryd.prog.info? 5).isSome = true by kernel_rfl) (by simp [h])
  | some i => exact ⟨i, rfl⟩

/-- From place i on, are the lists the same? -/
theorem drop_step (l m : List (Nat × Nat)) (i : Nat) (p q : Nat × Nat) (h1 : l[i]? = some p) (h2 : m[i]? = some q) : decide (l.drop i = m.drop i) = (((p.1 : Int) == (q.1 : Int) && (p.2 : Int) == (q.2 : Int)) && decide (l.drop (i + 1) = m.drop (i + 1))) := by
  obtain ⟨hl, rfl⟩ := List.getElem?_eq_some_iff.1 h1
  obtain ⟨hm, rfl⟩ := List.getElem?_eq_some_iff.1 h2
  rw [List.drop_eq_getElem_cons hl, List.drop_eq_getElem_cons hm, Bool.eq_iff_iff]
  simp only [decide_eq_true_eq, Bool.and_eq_true, beq_iff_eq, List.cons.injEq, Prod.ext_iff, Int.natCast_inj]

end Go.Proofs.YtlcecblehffjiaaDoor
