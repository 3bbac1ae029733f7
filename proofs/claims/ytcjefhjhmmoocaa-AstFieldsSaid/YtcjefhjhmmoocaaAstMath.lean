/-
  Layer 5, mathematics: how many nodes a tree has, and what is told of it from its leaves up.
-/
import Derived.Test.YtcjefhjhmmoocaaAstFit
import Derived.Test.YtcjefhjhmmoocaaAstNum
namespace Go.Proofs.Ytcjefhjhmmoocaa

/-- How many nodes the tree of the node just ahead of place j has, that stand in order; 0: they do not. The first number bounds how deep is looked. -/
def sizF (l : Nat → Nd) : Nat → Nat → Nat
  | 0, _ => 0
  | _ + 1, 0 => 0
  | f + 1, j + 1 =>
    if fitsB (l j) = true then
      if kidsZ (l j).k = 0 then (if (l j).a = 0 ∧ (l j).b = 0 then 1 else 0)
      else if sizF l f j = 0 then 0
      else if kidsZ (l j).k = 1 then (if (l j).a = (j : Int) - 1 ∧ (l j).b = 0 then sizF l f j + 1 else 0)
      else if sizF l f (j - sizF l f j) = 0 then 0
      else if (l j).a = (j : Int) - 1 - (sizF l f j : Int) ∧ (l j).b = (j : Int) - 1 then sizF l f (j - sizF l f j) + sizF l f j + 1 else 0
    else 0
def siz (l : Nat → Nd) (j : Nat) : Nat := sizF l j j

theorem sizF_le (l : Nat → Nd) : ∀ f j, sizF l f j ≤ j
  | 0, _ => by simp [sizF]
  | _ + 1, 0 => by simp [sizF]
  | f + 1, j + 1 => by
    have h1 := sizF_le l f j
    have h2 := sizF_le l f (j - sizF l f j)
    unfold sizF
    (repeat' split) <;> omega
theorem sizF_more (l : Nat → Nd) : ∀ f j, j ≤ f → sizF l (f + 1) j = sizF l f j
  | 0, j, h => by obtain rfl : j = 0 := by omega
                  simp [sizF]
  | f + 1, 0, _ => by simp [sizF]
  | f + 1, j + 1, h => by
    have h1 := sizF_more l f j (by omega)
    have h2 := sizF_more l f (j - sizF l f j) (by omega)
    rw [sizF, sizF, h1, h2]
theorem sizF_fuel (l : Nat → Nd) (j : Nat) : ∀ d, sizF l (j + d) j = siz l j
  | 0 => rfl
  | d + 1 => by rw [← sizF_fuel l j d, ← Nat.add_assoc, sizF_more l (j + d) j (by omega)]
theorem siz_le (l : Nat → Nd) (j : Nat) : siz l j ≤ j := sizF_le l j j
theorem siz_zero (l : Nat → Nd) : siz l 0 = 0 := rfl
theorem siz_succ (l : Nat → Nd) (j : Nat) : siz l (j + 1) =
    if fitsB (l j) = true then
      if kidsZ (l j).k = 0 then (if (l j).a = 0 ∧ (l j).b = 0 then 1 else 0)
      else if siz l j = 0 then 0
      else if kidsZ (l j).k = 1 then (if (l j).a = (j : Int) - 1 ∧ (l j).b = 0 then siz l j + 1 else 0)
      else if siz l (j - siz l j) = 0 then 0
      else if (l j).a = (j : Int) - 1 - (siz l j : Int) ∧ (l j).b = (j : Int) - 1 then siz l (j - siz l j) + siz l j + 1 else 0
    else 0 := by
  have h := sizF_fuel l (j - siz l j) (siz l j)
  rw [show j - siz l j + siz l j = j by have := siz_le l j; omega] at h
  show sizF l (j + 1) (j + 1) = _
  rw [sizF, show sizF l j j = siz l j from rfl, h]

/-- What a tree's root comes to, if it is known what a leaf, a node around one, and one around two, come to. -/
def foldF {α : Type} (l : Nat → Nd) (z : α) (g0 : Nat → α) (g1 : Nat → α → α) (g2 : Nat → α → α → α) : Nat → Nat → α
  | 0, _ => z
  | _ + 1, 0 => z
  | f + 1, j + 1 => if kidsZ (l j).k = 0 then g0 j else if kidsZ (l j).k = 1 then g1 j (foldF l z g0 g1 g2 f j) else g2 j (foldF l z g0 g1 g2 f (j - siz l j)) (foldF l z g0 g1 g2 f j)
def foldT {α : Type} (l : Nat → Nd) (z : α) (g0 : Nat → α) (g1 : Nat → α → α) (g2 : Nat → α → α → α) (j : Nat) : α := foldF l z g0 g1 g2 j j
section
variable {α : Type} (l : Nat → Nd) (z : α) (g0 : Nat → α) (g1 : Nat → α → α) (g2 : Nat → α → α → α)
theorem foldF_more : ∀ f j, j ≤ f → foldF l z g0 g1 g2 (f + 1) j = foldF l z g0 g1 g2 f j
  | 0, j, h => by obtain rfl : j = 0 := by omega
                  simp [foldF]
  | f + 1, 0, _ => by simp [foldF]
  | f + 1, j + 1, h => by
    have h1 := foldF_more f j (by omega)
    have h2 := foldF_more f (j - siz l j) (by omega)
    rw [foldF, foldF, h1, h2]
theorem foldF_fuel (j : Nat) : ∀ d, foldF l z g0 g1 g2 (j + d) j = foldT l z g0 g1 g2 j
  | 0 => rfl
  | d + 1 => by rw [← foldF_fuel j d, ← Nat.add_assoc, foldF_more l z g0 g1 g2 (j + d) j (by omega)]
theorem foldT_succ (j : Nat) : foldT l z g0 g1 g2 (j + 1) = if kidsZ (l j).k = 0 then g0 j else if kidsZ (l j).k = 1 then g1 j (foldT l z g0 g1 g2 j) else g2 j (foldT l z g0 g1 g2 (j - siz l j)) (foldT l z g0 g1 g2 j) := by
  have h := foldF_fuel l z g0 g1 g2 (j - siz l j) (siz l j)
  rw [show j - siz l j + siz l j = j by have := siz_le l j; omega] at h
  show foldF l z g0 g1 g2 (j + 1) (j + 1) = _
  rw [foldF, show foldF l z g0 g1 g2 j j = foldT l z g0 g1 g2 j from rfl, h]
end

/-- How deep. -/
def dep (l : Nat → Nd) (j : Nat) : Nat := foldT l 0 (fun _ => 1) (fun _ x => 1 + x) (fun _ x y => 1 + max x y) j
/-- How many bytes at least, and at most. -/
def len (l : Nat → Nd) (j : Nat) : Int × Int :=
  foldT l (0, 0) (fun i => if (l i).k = 1 then (1, 1) else if (l i).k = 12 then (0, -1) else (0, 0))
    (fun i x => if (l i).k = 10 then (timesZ x.1 (l i).mn, timesZ x.2 (l i).mx) else if (l i).k = 11 ∨ (l i).k = 17 then x else (0, 0))
    (fun i x y => if (l i).k = 8 then (plusZ x.1 y.1, plusZ x.2 y.2) else (min x.1 y.1, moreZ x.2 y.2)) j
/-- The groups' places, in the order in which they begin. -/
def grp (l : Nat → Nd) (j : Nat) : List Nat :=
  foldT l [] (fun _ => []) (fun i x => if (l i).k = 11 then i :: x else x) (fun _ x y => x ++ y) j
theorem dep_succ (l : Nat → Nd) (j : Nat) : dep l (j + 1) = if kidsZ (l j).k = 0 then 1 else if kidsZ (l j).k = 1 then 1 + dep l j else 1 + max (dep l (j - siz l j)) (dep l j) := foldT_succ ..
theorem len_succ (l : Nat → Nd) (j : Nat) : len l (j + 1) =
    if kidsZ (l j).k = 0 then (if (l j).k = 1 then (1, 1) else if (l j).k = 12 then (0, -1) else (0, 0))
    else if kidsZ (l j).k = 1 then (if (l j).k = 10 then (timesZ (len l j).1 (l j).mn, timesZ (len l j).2 (l j).mx) else if (l j).k = 11 ∨ (l j).k = 17 then len l j else (0, 0))
    else (if (l j).k = 8 then (plusZ (len l (j - siz l j)).1 (len l j).1, plusZ (len l (j - siz l j)).2 (len l j).2) else (min (len l (j - siz l j)).1 (len l j).1, moreZ (len l (j - siz l j)).2 (len l j).2)) := foldT_succ ..
theorem grp_succ (l : Nat → Nd) (j : Nat) : grp l (j + 1) = if kidsZ (l j).k = 0 then [] else if kidsZ (l j).k = 1 then (if (l j).k = 11 then j :: grp l j else grp l j) else grp l (j - siz l j) ++ grp l j := foldT_succ ..

theorem kids_cases (k : Int) : kidsZ k = 0 ∨ kidsZ k = 1 ∨ kidsZ k = 2 := by unfold kidsZ; (repeat' split) <;> simp

/-- What is so of a node whose tree stands in order. -/
theorem siz_pos {l : Nat → Nd} {j : Nat} (h : siz l (j + 1) ≠ 0) : fitsB (l j) = true ∧
    (kidsZ (l j).k = 0 ∧ (l j).a = 0 ∧ (l j).b = 0 ∧ siz l (j + 1) = 1 ∨
     kidsZ (l j).k = 1 ∧ siz l j ≠ 0 ∧ (l j).a = (j : Int) - 1 ∧ (l j).b = 0 ∧ siz l (j + 1) = siz l j + 1 ∨
     kidsZ (l j).k = 2 ∧ siz l j ≠ 0 ∧ siz l (j - siz l j) ≠ 0 ∧ (l j).a = (j : Int) - 1 - (siz l j : Int) ∧ (l j).b = (j : Int) - 1 ∧ siz l (j + 1) = siz l (j - siz l j) + siz l j + 1) := by
  have hs := siz_succ l j
  rcases kids_cases (l j).k with hk | hk | hk
  · rw [hk] at hs
    simp only [if_true] at hs
    by_cases hf : fitsB (l j) = true
    · rw [if_pos hf] at hs
      by_cases ha : (l j).a = 0 ∧ (l j).b = 0
      · rw [if_pos ha] at hs
        exact ⟨hf, .inl ⟨hk, ha.1, ha.2, hs⟩⟩
      · rw [if_neg ha] at hs; exact absurd hs h
    · rw [if_neg hf] at hs; exact absurd hs h
  · rw [hk] at hs
    rw [if_neg (show ¬ (1 : Int) = 0 by decide)] at hs
    by_cases hf : fitsB (l j) = true
    · rw [if_pos hf] at hs
      by_cases h0 : siz l j = 0
      · rw [if_pos h0] at hs; exact absurd hs h
      · rw [if_neg h0, if_pos rfl] at hs
        by_cases ha : (l j).a = (j : Int) - 1 ∧ (l j).b = 0
        · rw [if_pos ha] at hs
          exact ⟨hf, .inr (.inl ⟨hk, h0, ha.1, ha.2, hs⟩)⟩
        · rw [if_neg ha] at hs; exact absurd hs h
    · rw [if_neg hf] at hs; exact absurd hs h
  · rw [hk] at hs
    rw [if_neg (show ¬ (2 : Int) = 0 by decide)] at hs
    by_cases hf : fitsB (l j) = true
    · rw [if_pos hf] at hs
      by_cases h0 : siz l j = 0
      · rw [if_pos h0] at hs; exact absurd hs h
      · rw [if_neg h0, if_neg (show ¬ (2 : Int) = 1 by decide)] at hs
        by_cases h1 : siz l (j - siz l j) = 0
        · rw [if_pos h1] at hs; exact absurd hs h
        · rw [if_neg h1] at hs
          by_cases ha : (l j).a = (j : Int) - 1 - (siz l j : Int) ∧ (l j).b = (j : Int) - 1
          · rw [if_pos ha] at hs
            exact ⟨hf, .inr (.inr ⟨hk, h0, h1, ha.1, ha.2, hs⟩)⟩
          · rw [if_neg ha] at hs; exact absurd hs h
    · rw [if_neg hf] at hs; exact absurd hs h

/-- All nodes of a tree in order have trees in order. -/
theorem siz_all (l : Nat → Nd) : ∀ m, ∀ j, m - siz l m ≤ j → j < m → siz l (j + 1) ≠ 0 := by
  intro m
  induction m using Nat.strongRecOn with
  | _ m ih =>
    intro j h1 h2
    obtain ⟨m, rfl⟩ : ∃ k, m = k + 1 := ⟨m - 1, by omega⟩
    by_cases h0 : siz l (m + 1) = 0
    · omega
    · by_cases hj : j = m
      · subst hj; exact h0
      · obtain ⟨_, h | h | h⟩ := siz_pos h0
        · obtain ⟨_, _, _, hs⟩ := h; omega
        · obtain ⟨_, _, _, _, hs⟩ := h
          exact ih m (by omega) j (by omega) (by omega)
        · obtain ⟨_, _, _, _, _, hs⟩ := h
          have hle := siz_le l m
          by_cases hc : m - siz l m ≤ j
          · exact ih m (by omega) j hc (by omega)
          · exact ih (m - siz l m) (by omega) j (by omega) (by omega)
theorem siz_of_whole {l : Nat → Nd} {n j : Nat} (h : siz l n = n) (hj : j < n) : siz l (j + 1) ≠ 0 := siz_all l n j (by omega) hj
end Go.Proofs.Ytcjefhjhmmoocaa
