/-
  The statement ClassRuns: what its walk comes to.
-/
import Derived.Test.YtobhhhopkkcdiaaDoorRegionB
import Derived.Test.YtobhhhopkkcdiaaDoorClassG
import Derived.Deep.DeepCutAuto
namespace Go.Proofs.YtobhhhopkkcdiaaDoor
open Go.RowKit

theorem snoc_ind {α : Type} {P : List α → Prop} (nil : P []) (snoc : ∀ l a, P l → P (l ++ [a])) (l : List α) : P l := by
  have h : ∀ m : List α, P m.reverse := by
    intro m
    induction m with
    | nil => exact nil
    | cons a m ih => rw [List.reverse_cons]; exact snoc _ _ ih
  have := h l.reverse
  rwa [List.reverse_reverse] at this

/-- The union of the first runs. -/
def unionTo (l : List (Nat × Nat)) : BitVec 256 := l.foldl (fun U p => orS U (span p.1 (p.2 + 1))) 0#256
theorem unionTo_snoc (l : List (Nat × Nat)) (p : Nat × Nat) : unionTo (l ++ [p]) = orS (unionTo l) (span p.1 (p.2 + 1)) := by simp [unionTo]
theorem endOf_spec (S : BitVec 256) (i : Nat) (hi : i ≤ 255) : i ≤ endOf S i ∧ endOf S i ≤ 255 ∧ (∀ m, i < m → m ≤ endOf S i → S.getLsbD m = true) ∧ (endOf S i < 255 → S.getLsbD (endOf S i + 1) = false) := endF_spec S 256 i hi (by omega)

/-- What the runs that begin below i have in common with the set: all up to i; they rise, and none touches the next one. -/
theorem runsTo_facts (S : BitVec 256) : ∀ i, i ≤ 256 →
    (∀ n, n < 256 → (unionTo (runsTo S i)).getLsbD n = true → S.getLsbD n = true) ∧ (∀ n, n < i → S.getLsbD n = true → (unionTo (runsTo S i)).getLsbD n = true) ∧
    (∀ p ∈ runsTo S i, p.1 ≤ p.2 ∧ p.2 ≤ 255 ∧ p.1 < i) ∧ (∀ p ∈ runsTo S i, p.2 < 255 → S.getLsbD (p.2 + 1) = false) ∧
    (∀ k p q, (runsTo S i)[k]? = some p → (runsTo S i)[k + 1]? = some q → p.2 + 1 < q.1) ∧ (∀ p ∈ runsTo S i, ∀ n, p.1 ≤ n → n ≤ p.2 → S.getLsbD n = true)
  | 0, _ => by simp [runsTo, unionTo]
  | i + 1, h => by
    obtain ⟨h1, h2, h3, h4, h5, h6⟩ := runsTo_facts S i (by omega)
    by_cases hs : starts S i = true
    · have hb : S.getLsbD i = true := by unfold starts at hs; simp at hs; exact hs.1
      have hp : i = 0 ∨ S.getLsbD (i - 1) = false := by unfold starts at hs; simp at hs; exact hs.2
      obtain ⟨e1, e2, e3, e4⟩ := endOf_spec S i (by omega)
      have er : runsTo S (i + 1) = runsTo S i ++ [(i, endOf S i)] := by simp [runsTo, hs]
      have run : ∀ n, i ≤ n → n ≤ endOf S i → S.getLsbD n = true := by
        intro n a b
        by_cases e : n = i
        · rw [e]; exact hb
        · exact e3 n (by omega) b
      rw [er, unionTo_snoc]
      refine ⟨?_, ?_, ?_, ?_, ?_, ?_⟩
      · intro n hn hu
        unfold orS at hu
        rw [BitVec.getLsbD_or, span_bit] at hu
        rw [Bool.or_eq_true] at hu
        rcases hu with hu | hu
        · exact h1 n hn hu
        · simp [hn] at hu
          exact run n hu.1 (by omega)
      · intro n hn hS
        unfold orS
        rw [BitVec.getLsbD_or, span_bit]
        by_cases e : n = i
        · subst e
          have a2 : n < endOf S n + 1 := by omega
          have a3 : n < 256 := by omega
          simp [a2, a3]
        · rw [h2 n (by omega) hS]; rfl
      · intro p hm
        rw [List.mem_append] at hm
        rcases hm with hm | hm
        · have := h3 p hm; omega
        · simp at hm; subst hm; exact ⟨e1, e2, by simp⟩
      · intro p hm
        rw [List.mem_append] at hm
        rcases hm with hm | hm
        · exact h4 p hm
        · simp at hm; subst hm; exact e4
      · intro k p q hp1 hq1
        by_cases hk : k + 1 < (runsTo S i).length
        · rw [List.getElem?_append_left (by omega)] at hp1
          rw [List.getElem?_append_left hk] at hq1
          exact h5 k p q hp1 hq1
        · have hlen : k + 1 = (runsTo S i).length := by
            have := (List.getElem?_eq_some_iff.1 hq1).1
            simp at this; omega
          rw [List.getElem?_append_left (by omega)] at hp1
          rw [hlen, List.getElem?_append_right (Nat.le_refl _)] at hq1
          simp at hq1
          subst hq1
          have hm := List.mem_of_getElem? hp1
          have a := h3 p hm
          have b := h4 p hm
          have c := h6 p hm
          show p.2 + 1 < i
          have d1 : p.2 < i := by
            apply Nat.lt_of_not_le
            intro hle
            rcases hp with e0 | e0
            · omega
            · rw [c (i - 1) (by omega) (by omega)] at e0; exact absurd e0 (by simp)
          have d2 : p.2 + 1 ≠ i := by
            intro e
            have := b (by omega)
            rw [e, hb] at this
            exact absurd this (by simp)
          omega
      · intro p hm
        rw [List.mem_append] at hm
        rcases hm with hm | hm
        · exact h6 p hm
        · simp at hm; subst hm; exact run
    · have hs' : starts S i = false := by simpa using hs
      have er : runsTo S (i + 1) = runsTo S i := by simp [runsTo, hs']
      rw [er]
      refine ⟨h1, ?_, fun p hm => by have := h3 p hm; omega, h4, h5, h6⟩
      intro n hn hS
      by_cases e : n = i
      · subst e
        have hne : ¬ n = 0 ∧ S.getLsbD (n - 1) = true := by
          unfold starts at hs'
          rw [hS] at hs'
          simp at hs'
          exact hs'
        have hprev := h2 (n - 1) (by omega) hne.2
        -- the byte before is in a run that goes on to n
        have key : ∀ (l : List (Nat × Nat)), (∀ p ∈ l, p.1 ≤ p.2 ∧ p.2 ≤ 255 ∧ p.1 < n) → (∀ p ∈ l, p.2 < 255 → S.getLsbD (p.2 + 1) = false) → (unionTo l).getLsbD (n - 1) = true → (unionTo l).getLsbD n = true := by
          intro l
          induction l using snoc_ind with
          | nil => intro _ _ hu; simp [unionTo] at hu
          | snoc l p ih =>
            intro a b hu
            rw [unionTo_snoc] at hu ⊢
            unfold orS at hu ⊢
            rw [BitVec.getLsbD_or, span_bit] at hu ⊢
            rw [Bool.or_eq_true] at hu
            rcases hu with hu | hu
            · rw [ih (fun p hp => a p (by simp [hp])) (fun p hp => b p (by simp [hp])) hu]; rfl
            · simp at hu
              have pa := a p (by simp)
              have pb := b p (by simp)
              have hne2 : p.2 ≠ n - 1 := by
                intro e
                have := pb (by omega)
                rw [e, show n - 1 + 1 = n by omega, hS] at this
                exact absurd this (by simp)
              have q1 : p.1 ≤ n := by omega
              have q2 : n < p.2 + 1 := by omega
              have q3 : n < 256 := by omega
              simp [q1, q2, q3]
        exact key _ h3 h4 hprev
      · exact h2 n (by omega) hS

theorem union_runs (S : BitVec 256) : unionTo (runs S) = S := by
  obtain ⟨h1, h2, _⟩ := runsTo_facts S 256 (Nat.le_refl _)
  apply ext_bit
  intro n hn
  cases hS : S.getLsbD n
  · cases hu : (unionTo (runs S)).getLsbD n
    · rfl
    · rw [h1 n hn hu] at hS; exact absurd hS (by simp)
  · exact h2 n hn hS
end Go.Proofs.YtobhhhopkkcdiaaDoor
