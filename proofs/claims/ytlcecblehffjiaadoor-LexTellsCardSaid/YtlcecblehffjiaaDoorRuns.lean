/-
  Plain facts on the runs of a set. No program stands here.
-/
import Derived.Test.YtlcecblehffjiaaDoorSetsB
namespace Go.Proofs.YtlcecblehffjiaaDoor

/-- The last byte of the run that i is in, looked for in so many steps. -/
def endF (S : BitVec 256) : Nat → Nat → Nat
  | 0, i => i
  | f + 1, i => if i < 255 && S.getLsbD (i + 1) then endF S f (i + 1) else i
def endOf (S : BitVec 256) (i : Nat) : Nat := endF S 256 i

theorem endF_spec (S : BitVec 256) : ∀ (f i : Nat), i ≤ 255 → 255 ≤ i + f → i ≤ endF S f i ∧ endF S f i ≤ 255 ∧ (∀ m, i < m → m ≤ endF S f i → S.getLsbD m = true) ∧ (endF S f i < 255 → S.getLsbD (endF S f i + 1) = false)
  | 0, i, h1, h2 => by simp only [endF]; exact ⟨Nat.le_refl _, h1, fun m a b => by omega, fun h => by omega⟩
  | f + 1, i, h1, h2 => by
    unfold endF
    split
    · rename_i h
      simp only [Bool.and_eq_true, decide_eq_true_eq] at h
      obtain ⟨a, b, c, d⟩ := endF_spec S f (i + 1) (by omega) (by omega)
      refine ⟨by omega, b, fun m hm hm2 => ?_, d⟩
      by_cases e : m = i + 1
      · rw [e]; exact h.2
      · exact c m (by omega) hm2
    · rename_i h
      refine ⟨Nat.le_refl _, h1, fun m a b => by omega, fun hlt => ?_⟩
      simp only [Bool.and_eq_true, decide_eq_true_eq, not_and, Bool.not_eq_true] at h
      exact h hlt

theorem endOf_eq (S : BitVec 256) (i j : Nat) (h1 : i ≤ j) (h2 : j ≤ 255) (h3 : ∀ m, i < m → m ≤ j → S.getLsbD m = true) (h4 : j < 255 → S.getLsbD (j + 1) = false) : endOf S i = j := by
  obtain ⟨a, b, c, d⟩ := endF_spec S 256 i (by omega) (by omega)
  show endF S 256 i = j
  rcases Nat.lt_trichotomy (endF S 256 i) j with h | h | h
  · have := d (by omega)
    rw [h3 _ (by omega) (by omega)] at this
    exact absurd this (by simp)
  · exact h
  · have := h4 (by omega)
    rw [c _ (by omega) (by omega)] at this
    exact absurd this (by simp)

/-- Does a run begin at i? -/
def starts (S : BitVec 256) (i : Nat) : Bool := S.getLsbD i && (decide (i = 0) || !S.getLsbD (i - 1))
/-- The runs that begin below i. -/
def runsTo (S : BitVec 256) : Nat → List (Nat × Nat)
  | 0 => []
  | i + 1 => if starts S i then runsTo S i ++ [(i, endOf S i)] else runsTo S i
def runs (S : BitVec 256) : List (Nat × Nat) := runsTo S 256

theorem runsTo_length (S : BitVec 256) : ∀ i, (runsTo S i).length ≤ i
  | 0 => Nat.le_refl _
  | i + 1 => by
    unfold runsTo
    have := runsTo_length S i
    split
    · simp; omega
    · omega
theorem runsTo_no (S : BitVec 256) (k : Nat) (h : S.getLsbD k = false) : runsTo S (k + 1) = runsTo S k := by
  have : starts S k = false := by simp [starts, h]
  simp [runsTo, this]
theorem runsTo_in (S : BitVec 256) (i : Nat) : ∀ d, (∀ m, i < m → m ≤ i + d → S.getLsbD (m - 1) = true) → runsTo S (i + 1 + d) = runsTo S (i + 1)
  | 0, _ => rfl
  | d + 1, h => by
    have e := h (i + 1 + d) (by omega) (by omega)
    have : starts S (i + 1 + d) = false := by
      unfold starts
      have ne : ¬ (i + 1 + d = 0) := by omega
      rw [decide_eq_false ne, e]; simp
    rw [show i + 1 + (d + 1) = (i + 1 + d) + 1 by omega, runsTo, this]
    exact runsTo_in S i d (fun m a b => h m a (by omega))
theorem runsTo_yes (S : BitVec 256) (k j : Nat) (hk : k = 0 ∨ S.getLsbD (k - 1) = false) (h0 : S.getLsbD k = true) (h1 : k ≤ j) (h2 : j ≤ 255) (h3 : ∀ m, k < m → m ≤ j → S.getLsbD m = true) (h4 : j < 255 → S.getLsbD (j + 1) = false) :
    runsTo S (j + 1) = runsTo S k ++ [(k, j)] := by
  have hs : starts S k = true := by
    unfold starts
    rcases hk with rfl | hk
    · simp [h0]
    · simp [h0, hk]
  have e : runsTo S (k + 1) = runsTo S k ++ [(k, j)] := by simp [runsTo, hs, endOf_eq S k j h1 h2 h3 h4]
  rw [← e, show j + 1 = k + 1 + (j - k) by omega]
  refine runsTo_in S k (j - k) fun m a b => ?_
  by_cases em : m = k + 1
  · rw [em]; exact h0
  · exact h3 _ (by omega) (by omega)

/-- The runs as cells: two bytes each. -/
def runCells (l : List (Nat × Nat)) : List Value := l.flatMap fun p => [.int .u8 (p.1 : Int), .int .u8 (p.2 : Int)]
theorem runCells_snoc (l : List (Nat × Nat)) (a b : Nat) : runCells (l ++ [(a, b)]) = runCells l ++ [.int .u8 (a : Int), .int .u8 (b : Int)] := by simp [runCells]
theorem runCells_length (l : List (Nat × Nat)) : (runCells l).length = l.length * 2 := by
  induction l with
  | nil => rfl
  | cons p l ih => simp only [runCells, List.flatMap_cons, List.length_append, List.length_cons, List.length_nil] at ih ⊢; omega
end Go.Proofs.YtlcecblehffjiaaDoor
