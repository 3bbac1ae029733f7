/-
  Layer 5, mathematics: the groups in the order in which they begin.
-/
import Derived.Test.YtcjefhjhmmoocaaAstBegMath
import Derived.Test.YtcjefhjhmmoocaaAstRefC
namespace Go.Proofs.Ytcjefhjhmmoocaa

/-- The groups' places, in the order of the nodes. -/
def gix (l : Nat → Nd) : Nat → List Nat
  | 0 => []
  | k + 1 => gix l k ++ (if (l k).k = 11 then [k] else [])
theorem gix_perm (l : Nat → Nd) : ∀ m, siz l m ≠ 0 → (gix l m).Perm (gix l (m - siz l m) ++ grp l m) := by
  intro m
  induction m using Nat.strongRecOn with
  | _ m ih =>
    intro hs
    cases m with
    | zero => exact absurd (siz_zero l) hs
    | succ k =>
      obtain ⟨hf, hp⟩ := siz_pos hs
      have hki := fits_kind hf
      rw [grp_succ]
      show (gix l k ++ (if (l k).k = 11 then [k] else [])).Perm _
      rcases hp with ⟨hk, -, -, hz⟩ | ⟨hk, h0, -, -, hz⟩ | ⟨hk, h0, h1, -, -, hz⟩
      · obtain ⟨-, -, -, q11, -⟩ := kids0 hk hki
        rw [if_neg (by simpa using q11), if_pos hk, hz, show k + 1 - 1 = k by omega]
      · rw [hk, if_neg (show ¬ (1 : Int) = 0 by decide), if_pos rfl, hz, show k + 1 - (siz l k + 1) = k - siz l k by omega]
        have h := ih k (by omega) h0
        split
        · refine (h.append_right [k]).trans ?_
          rw [List.append_assoc]
          refine List.Perm.append_left _ ?_
          exact List.perm_append_comm
        · rw [List.append_nil]; exact h
      · have hk2 := kids2 hk
        rw [if_neg (show ¬ (l k).k = 11 by omega), hk, if_neg (show ¬ (2 : Int) = 0 by decide), if_neg (show ¬ (2 : Int) = 1 by decide), hz, List.append_nil, show k + 1 - (siz l (k - siz l k) + siz l k + 1) = k - siz l k - siz l (k - siz l k) by omega, ← List.append_assoc]
        exact (ih k (by omega) h0).trans ((ih (k - siz l k) (by omega) h1).append_right _)
/-- A tree begins within the tree that it is part of. -/
theorem beg_in (l : Nat → Nd) : ∀ m, siz l m ≠ 0 → ∀ x, m - siz l m ≤ x → x < m → m - siz l m ≤ beg l x := by
  intro m
  induction m using Nat.strongRecOn with
  | _ m ih =>
    intro hs x h1 h2
    cases m with
    | zero => exact absurd (siz_zero l) hs
    | succ k =>
      by_cases hx : x = k
      · subst hx; exact Nat.le_refl _
      · obtain ⟨-, hp⟩ := siz_pos hs
        have hle := siz_le l k
        rcases hp with ⟨hk, -, -, hz⟩ | ⟨hk, h0, -, -, hz⟩ | ⟨hk, h0, h1', -, -, hz⟩
        · omega
        · have := ih k (by omega) h0 x (by omega) (by omega)
          omega
        · have hle2 := siz_le l (k - siz l k)
          by_cases hc : k - siz l k ≤ x
          · have := ih k (by omega) h0 x hc (by omega)
            omega
          · have := ih (k - siz l k) (by omega) h1' x (by omega) (by omega)
            omega
theorem grp_mem (l : Nat → Nd) : ∀ m, siz l m ≠ 0 → ∀ x, x ∈ grp l m → m - siz l m ≤ x ∧ x < m ∧ (l x).k = 11 := by
  intro m
  induction m using Nat.strongRecOn with
  | _ m ih =>
    intro hs x hx
    cases m with
    | zero => exact absurd (siz_zero l) hs
    | succ k =>
      obtain ⟨-, hp⟩ := siz_pos hs
      rw [grp_succ] at hx
      rcases hp with ⟨hk, -, -, hz⟩ | ⟨hk, h0, -, -, hz⟩ | ⟨hk, h0, h1, -, -, hz⟩
      · rw [if_pos hk] at hx; simp at hx
      · rw [hk, if_neg (show ¬ (1 : Int) = 0 by decide), if_pos rfl] at hx
        split at hx
        · rename_i h11
          rcases List.mem_cons.1 hx with rfl | hx
          · exact ⟨by omega, by omega, h11⟩
          · have := ih k (by omega) h0 x hx
            exact ⟨by omega, by omega, this.2.2⟩
        · have := ih k (by omega) h0 x hx
          exact ⟨by omega, by omega, this.2.2⟩
      · rw [hk, if_neg (show ¬ (2 : Int) = 0 by decide), if_neg (show ¬ (2 : Int) = 1 by decide)] at hx
        rcases List.mem_append.1 hx with hx | hx
        · have := ih (k - siz l k) (by omega) h1 x hx
          exact ⟨by omega, by omega, this.2.2⟩
        · have := ih k (by omega) h0 x hx
          exact ⟨by omega, by omega, this.2.2⟩
/-- Group i begins ahead of group j. -/
def ahead (l : Nat → Nd) (i j : Nat) : Prop := beg l i < beg l j ∨ beg l i = beg l j ∧ j < i
instance (l : Nat → Nd) (i j : Nat) : Decidable (ahead l i j) := by unfold ahead; exact inferInstance
theorem ahead_total {l : Nat → Nd} {i j : Nat} (h1 : ¬ ahead l i j) (h2 : ¬ ahead l j i) : i = j := by unfold ahead at h1 h2; omega
theorem ahead_anti {l : Nat → Nd} {i j : Nat} (h1 : ahead l i j) : ¬ ahead l j i := by unfold ahead at h1 ⊢; omega
theorem grp_sorted (l : Nat → Nd) : ∀ m, siz l m ≠ 0 → (grp l m).Pairwise (ahead l) := by
  intro m
  induction m using Nat.strongRecOn with
  | _ m ih =>
    intro hs
    cases m with
    | zero => exact absurd (siz_zero l) hs
    | succ k =>
      obtain ⟨-, hp⟩ := siz_pos hs
      rw [grp_succ]
      rcases hp with ⟨hk, -, -, hz⟩ | ⟨hk, h0, -, -, hz⟩ | ⟨hk, h0, h1, -, -, hz⟩
      · rw [if_pos hk]; exact List.Pairwise.nil
      · rw [hk, if_neg (show ¬ (1 : Int) = 0 by decide), if_pos rfl]
        have h := ih k (by omega) h0
        split
        · refine List.Pairwise.cons (fun x hx => ?_) h
          obtain ⟨m1, m2, -⟩ := grp_mem l k h0 x hx
          have hb := beg_in l k h0 x m1 m2
          have hk' : beg l k = k - siz l k := by unfold beg; rw [hz]; omega
          unfold ahead
          omega
        · exact h
      · rw [hk, if_neg (show ¬ (2 : Int) = 0 by decide), if_neg (show ¬ (2 : Int) = 1 by decide)]
        refine List.pairwise_append.2 ⟨ih (k - siz l k) (by omega) h1, ih k (by omega) h0, fun x hx y hy => ?_⟩
        obtain ⟨-, m2, -⟩ := grp_mem l (k - siz l k) h1 x hx
        obtain ⟨n1, n2, -⟩ := grp_mem l k h0 y hy
        have hb := beg_in l k h0 y n1 n2
        have hbx : beg l x ≤ x := by
          have hle := siz_le l k
          have : siz l (x + 1) ≠ 0 := by
            obtain ⟨m1, m2, -⟩ := grp_mem l (k - siz l k) h1 x hx
            exact siz_all l _ x m1 m2
          unfold beg; omega
        left
        omega
/-- What has the groups in whatever order, none ahead of an earlier one, has them as they begin. -/
theorem grp_unique {l : Nat → Nd} {n : Nat} (hs : siz l n = n) (h0 : 0 < n) {L : List Nat} (hp : L.Perm (gix l n)) (hso : L.Pairwise fun x y => ¬ ahead l y x) : L = grp l n := by
  have hs' : siz l n ≠ 0 := by omega
  have hg := gix_perm l n hs'
  rw [hs, show n - n = 0 by omega] at hg
  refine List.Perm.eq_of_pairwise (le := fun x y => ¬ ahead l y x) ?_ hso ?_ (hp.trans (by simpa [gix] using hg))
  · intro a b _ _ h1 h2
    exact ahead_total h2 h1
  · exact (grp_sorted l n hs').imp fun h => ahead_anti h
theorem gix_lt (l : Nat → Nd) (n : Nat) : ∀ x, x ∈ gix l n → x < n ∧ (l x).k = 11 := by
  induction n with
  | zero => intro x hx; simp [gix] at hx
  | succ n ih =>
    intro x hx
    rcases List.mem_append.1 (show x ∈ gix l n ++ (if (l n).k = 11 then [n] else []) from hx) with h | h
    · have := ih x h; exact ⟨by omega, this.2⟩
    · split at h
      · rename_i h11
        simp at h; subst h
        exact ⟨by omega, h11⟩
      · simp at h
theorem gix_len (l : Nat → Nd) (n : Nat) : (gix l n).length ≤ n := by
  induction n with
  | zero => simp [gix]
  | succ n ih =>
    show (gix l n ++ (if (l n).k = 11 then [n] else [])).length ≤ _
    rw [List.length_append]
    split <;> simp <;> omega
end Go.Proofs.Ytcjefhjhmmoocaa
