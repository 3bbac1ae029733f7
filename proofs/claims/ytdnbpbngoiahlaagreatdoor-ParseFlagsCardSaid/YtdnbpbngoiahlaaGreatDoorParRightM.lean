/-
  Layer 7, mathematics: a tree that is told may be; with an error there is none.
-/
import Derived.Test.YtdnbpbngoiahlaaGreatDoorParE
namespace Go.Proofs.YtdnbpbngoiahlaaGreatDoor
open Ast (Nd joinL wrapL deepZ rightZ shapeZ formZ)

theorem right_vals (l : Nat → Nd) (n : Nat) : rightZ l n = 0 ∨ rightZ l n = 3 ∨ rightZ l n = 4 ∨ rightZ l n = 6 ∨ rightZ l n = 7 := by
  have h : shapeZ l n = 0 ∨ shapeZ l n = 3 ∨ shapeZ l n = 4 := by
    unfold shapeZ formZ
    (repeat' split) <;> simp
  unfold rightZ
  split
  · rcases h with h | h | h <;> rw [h] <;> simp
  · (repeat' split) <;> simp
/-- What is told of any pattern that is not too long. -/
theorem parse_cases (p : ByteArray) (hp : p.size ≤ 1000) : ((parseZ p).1.1 = 0 ∧ ((parseZ p).2 = 3 ∨ (parseZ p).2 = 4 ∨ (parseZ p).2 = 6 ∨ (parseZ p).2 = 7)) ∨ ((parseZ p).2 = 0 ∧ rightZ (parseZ p).1.2 (parseZ p).1.1 = 0 ∧ 1 ≤ deepZ (parseZ p).1.2 (parseZ p).1.1 ∧ (parseZ p).1.1 ≤ 500) := by
  by_cases h : (parseZ p).2 = 0
  · obtain ⟨l, g, H⟩ := parsed h
    have := Ast.right_deep H.right
    exact .inr ⟨h, H.right, by omega, (right_whole H.right).2.2.2.2⟩
  · left
    unfold parseZ at h ⊢
    by_cases he : (lexZ p).2 ≠ 0
    · rw [if_pos he] at h ⊢
      rcases few_lex p hp with ⟨-, h4⟩ | ⟨h4, -⟩
      · exact ⟨rfl, by rcases h4 with h4 | h4 <;> simp [h4]⟩
      · exact absurd h4 he
    · rw [if_neg he] at h ⊢
      generalize (lexZ p).1 = l at h ⊢
      unfold treeZ at h ⊢
      by_cases hs : scanF l 0 false = false
      · rw [if_pos hs]
        exact ⟨rfl, .inl rfl⟩
      · rw [if_neg hs] at h ⊢
        cases ha : altF (6 * l.length + 6) ByteArray.empty 0 l with
        | out => exact ⟨rfl, .inr (.inl rfl)⟩
        | deep => exact ⟨rfl, .inr (.inl rfl)⟩
        | got t g l' =>
          rw [ha] at h
          simp only [] at h ⊢
          by_cases hr : rightZ t.2 t.1 = 0
          · rw [if_pos hr] at h
            exact absurd rfl h
          · rw [if_neg hr]
            refine ⟨rfl, ?_⟩
            rcases right_vals t.2 t.1 with e | e | e | e | e
            · exact absurd e hr
            all_goals (show rightZ t.2 t.1 = 3 ∨ rightZ t.2 t.1 = 4 ∨ rightZ t.2 t.1 = 6 ∨ rightZ t.2 t.1 = 7; omega)
end Go.Proofs.YtdnbpbngoiahlaaGreatDoor
