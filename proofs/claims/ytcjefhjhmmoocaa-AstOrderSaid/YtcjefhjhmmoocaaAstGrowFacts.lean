/-
  Layer 5, mathematics: what the calls answer of two trees that are joined.
-/
import Derived.Test.YtcjefhjhmmoocaaAstLenMath
namespace Go.Proofs.Ytcjefhjhmmoocaa

theorem deep_form {l : Nat → Nd} {m : Nat} (h : deepZ l m ≠ 0) : formZ l m = 0 ∧ dep l m = deepZ l m ∧ 0 < m ∧ siz l m = m := by
  have hf : formZ l m = 0 := by
    rcases form_or l m with h1 | h1 | h1
    · exact h1
    · exact absurd (deep_0.2 (by omega)) h
    · exact absurd (deep_0.2 (by omega)) h
  obtain ⟨_, h0, hs⟩ := form_0 hf
  refine ⟨hf, ?_, h0, hs⟩
  unfold deepZ
  rw [if_pos hf]
theorem right_bad {l : Nat → Nd} {m : Nat} (h : deepZ l m = 0) : rightZ l m ≠ 0 := by
  have h1 := deep_0.1 h
  have h2 : shapeZ l m ≠ 0 := by
    intro h3
    exact h1 (shape_0 h3).1
  unfold rightZ
  rw [if_pos h2]
  exact h2
theorem form_of {l : Nat → Nd} {m : Nat} (h : siz l m = m) (h0 : 0 < m) (hm : m ≤ 500) : deepZ l m = dep l m := by
  have hf : formZ l m = 0 := by
    unfold formZ goodB
    rw [if_neg (by omega), decide_eq_true ⟨h0, h⟩]
    rfl
  unfold deepZ
  rw [if_pos hf]
theorem grows_dep {la lb : Nat → Nd} {m k : Nat} (hm : m ≤ 60) (hk : k ≤ 60) (ha : deepZ la m ≠ 0) (hb : deepZ lb k ≠ 0) : deepZ (joinL la m lb k 8) (m + k + 1) = 1 + max (deepZ la m) (deepZ lb k) := by
  obtain ⟨_, e1, h1, s1⟩ := deep_form ha
  obtain ⟨_, e2, h2, s2⟩ := deep_form hb
  rw [form_of (join_in (.inl rfl) (by omega) (by omega) h1 h2 s1 s2).2.2 (by omega) (by omega), join_dep (.inl rfl) (by omega) (by omega) h1 h2 s1 s2, e1, e2]
theorem grows_wrap {la : Nat → Nd} {m : Nat} (hm : m ≤ 60) (ha : deepZ la m ≠ 0) : deepZ (wrapL la m ⟨17, 0, 0, 0, 0, 0, 0, 0, 0, 0, 0, false⟩) (m + 1) = 1 + deepZ la m := by
  obtain ⟨_, e1, h1, s1⟩ := deep_form ha
  rw [form_of (wrap_in (by rfl) (by decide) h1 s1).2 (by omega) (by omega), wrap_dep (by rfl) h1 s1, e1]
theorem grows_len {l : Nat → Nd} {m : Nat} (hm : m ≤ 200) (ha : deepZ l m ≠ 0) (hd : deepZ l m ≤ 40) : lenZ l m ((m : Int) - 1) = ((len l m).1, (len l m).2, 0) ∧ ((0 ≤ (len l m).1 ∧ (len l m).1 ≤ 1048576) ∧ (-1 ≤ (len l m).2 ∧ (len l m).2 ≤ 1048576)) := by
  obtain ⟨_, e1, h1, s1⟩ := deep_form ha
  exact ⟨lenZ_last (shape_of s1 h1 (by omega) (by omega)), len_bd l m (by omega)⟩
theorem grows_both {la lb : Nat → Nd} {m k : Nat} (hm : m ≤ 60) (hk : k ≤ 60) (ha : deepZ la m ≠ 0) (hb : deepZ lb k ≠ 0) (hx : deepZ la m < 40) (hy : deepZ lb k < 40) :
    lenZ (joinL la m lb k 8) (m + k + 1) ((m : Int) + k) = (plusZ (len la m).1 (len lb k).1, plusZ (len la m).2 (len lb k).2, 0) := by
  obtain ⟨_, e1, h1, s1⟩ := deep_form ha
  obtain ⟨_, e2, h2, s2⟩ := deep_form hb
  have hd := grows_dep hm hk ha hb
  have h := (grows_len (l := joinL la m lb k 8) (m := m + k + 1) (by omega) (by omega) (by omega)).1
  rw [join_len (by omega) (by omega) h1 h2 s1 s2] at h
  rw [← h]
  congr 1
  omega
end Go.Proofs.Ytcjefhjhmmoocaa
