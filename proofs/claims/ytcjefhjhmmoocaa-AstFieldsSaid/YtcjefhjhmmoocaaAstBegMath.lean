/-
  Layer 5: where a tree begins; when a node is what it is to be.
-/
import Derived.Test.YtcjefhjhmmoocaaAstMath
import Derived.Test.YtcjefhjhmmoocaaAstBare
namespace Go.Proofs.Ytcjefhjhmmoocaa

/-- Where the tree of node j begins. -/
def beg (l : Nat → Nd) (j : Nat) : Nat := j + 1 - siz l (j + 1)
/-- Do the nodes make up one tree that stands in order? -/
def goodB (l : Nat → Nd) (n : Nat) : Bool := decide (0 < n ∧ siz l n = n)
theorem goodB_no {l : Nat → Nd} {n k : Nat} (hk : k < n) (h : siz l (k + 1) = 0) : goodB l n = false := by
  unfold goodB
  simp only [decide_eq_false_iff_not]
  rintro ⟨_, h2⟩
  exact siz_of_whole h2 hk h
/-- What a node is held against. -/
def wantN (x : Nd) (a b : Int) : Nd := { bareN x with a := a, b := b }
theorem want_iff (x : Nd) (a b : Int) : (x = wantN x a b ∧ mayB x = true) ↔ (fitsB x = true ∧ x.a = a ∧ x.b = b) := by
  obtain ⟨k, xa, xb, s0, s1, s2, s3, mn, mx, md, n, f⟩ := x
  unfold wantN bareN mayB fitsB
  simp only [decide_eq_true_eq]
  by_cases h1 : k = 1
  · subst h1; simp; (try constructor) <;> (try rintro ⟨h⟩) <;> simp_all <;> omega
  · by_cases h10 : k = 10
    · subst h10; simp; constructor <;> intro h <;> simp_all <;> omega
    · by_cases h11 : k = 11
      · subst h11; simp; constructor <;> intro h <;> simp_all
      · by_cases h12 : k = 12
        · subst h12; simp; constructor <;> intro h <;> simp_all
        · simp [h1, h10, h11, h12]; constructor <;> intro h <;> simp_all <;> omega
theorem siz_iff0 {l : Nat → Nd} {k : Nat} (hk : kidsZ (l k).k = 0) : siz l (k + 1) ≠ 0 ↔ (l k = wantN (l k) 0 0 ∧ mayB (l k) = true) := by
  rw [want_iff, siz_succ, hk]
  by_cases hf : fitsB (l k) = true
  · by_cases h : (l k).a = 0 ∧ (l k).b = 0 <;> simp [hf, h]
  · simp [hf]
theorem siz_iff1 {l : Nat → Nd} {k : Nat} (hk : kidsZ (l k).k = 1) (h0 : siz l k ≠ 0) : siz l (k + 1) ≠ 0 ↔ (l k = wantN (l k) ((k : Int) - 1) 0 ∧ mayB (l k) = true) := by
  rw [want_iff, siz_succ, hk]
  by_cases hf : fitsB (l k) = true
  · by_cases h : (l k).a = (k : Int) - 1 ∧ (l k).b = 0 <;> simp [hf, h, h0]
  · simp [hf]
theorem siz_iff2 {l : Nat → Nd} {k : Nat} (hk : kidsZ (l k).k = 2) (h0 : siz l k ≠ 0) (h1 : siz l (k - siz l k) ≠ 0) : siz l (k + 1) ≠ 0 ↔ (l k = wantN (l k) ((k : Int) - 1 - (siz l k : Int)) ((k : Int) - 1) ∧ mayB (l k) = true) := by
  rw [want_iff, siz_succ, hk]
  by_cases hf : fitsB (l k) = true
  · by_cases h : (l k).a = (k : Int) - 1 - (siz l k : Int) ∧ (l k).b = (k : Int) - 1 <;> simp [hf, h, h0, h1]
  · simp [hf]
theorem siz_no1 {l : Nat → Nd} {k : Nat} (hk : kidsZ (l k).k ≠ 0) (h0 : siz l k = 0) : siz l (k + 1) = 0 := by
  rw [siz_succ, if_neg hk, if_pos h0]
  simp
theorem siz_no2 {l : Nat → Nd} {k : Nat} (hk : kidsZ (l k).k = 2) (h0 : siz l (k - siz l k) = 0) : siz l (k + 1) = 0 := by
  rw [siz_succ, hk, if_neg (show ¬ (2 : Int) = 0 by decide), if_neg (show ¬ (2 : Int) = 1 by decide), if_pos h0]
  simp
end Go.Proofs.Ytcjefhjhmmoocaa
