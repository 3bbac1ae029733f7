/-
  Plain facts on sets of bytes: the set of all bytes with a property, of a text, of a range. No program stands here.
-/
import Derived.Test.YtlcecblehffjiaaDoorSets
namespace Go.Proofs.YtlcecblehffjiaaDoor

/-- The set of the bytes below m with the property p. -/
def upTo (p : Nat → Bool) : Nat → BitVec 256
  | 0 => 0#256
  | m + 1 => if p m then addB (upTo p m) m else upTo p m
def ofPred (p : Nat → Bool) : BitVec 256 := upTo p 256

theorem upTo_bit (p : Nat → Bool) : ∀ (m : Nat), m ≤ 256 → ∀ k, (upTo p m).getLsbD k = (decide (k < m) && p k)
  | 0, _, k => by simp [upTo]
  | m + 1, h, k => by
    have ih := upTo_bit p m (by omega) k
    unfold upTo
    by_cases hk : m = k
    · subst hk
      by_cases hp : p m = true
      · rw [if_pos hp, addB_bit _ _ _ (by omega)]; simp [hp]
      · rw [if_neg hp, ih]; simp at hp; simp [hp]
    · have e : decide (k < m + 1) = decide (k < m) := by apply decide_eq_decide.2; omega
      rw [e]
      by_cases hp : p m = true
      · rw [if_pos hp, addB_bit _ _ _ (by omega), ih]; simp [hk]
      · rw [if_neg hp, ih]

theorem ofPred_bit (p : Nat → Bool) (k : Nat) : (ofPred p).getLsbD k = (decide (k < 256) && p k) := upTo_bit p 256 (Nat.le_refl _) k

theorem ext_bit {S T : BitVec 256} (h : ∀ k, k < 256 → S.getLsbD k = T.getLsbD k) : S = T := BitVec.eq_of_getLsbD_eq h

/-- The bytes from a to the one below k. -/
def span (a k : Nat) : BitVec 256 := ofPred fun n => decide (a ≤ n) && decide (n < k)
theorem span_bit (a k n : Nat) : (span a k).getLsbD n = (decide (n < 256) && (decide (a ≤ n) && decide (n < k))) := ofPred_bit _ _
theorem span_none (a k : Nat) (h : k ≤ a) : span a k = 0#256 := by
  apply ext_bit
  intro n _
  rw [span_bit]
  by_cases h1 : a ≤ n
  · have : ¬ n < k := by omega
    simp [this]
  · simp [h1]
theorem span_add (a k : Nat) (h : a ≤ k) (hk : k < 256) : addB (span a k) k = span a (k + 1) := by
  apply ext_bit
  intro n hn
  rw [addB_bit _ _ _ hk, span_bit, span_bit]
  by_cases e : k = n
  · subst e; simp [h, hn]
  · have : decide (n < k + 1) = decide (n < k) := by apply decide_eq_decide.2; omega
    simp [this, e]

/-- The bytes of a text. -/
def ofBytes (l : List UInt8) : BitVec 256 := l.foldl (fun S c => addB S c.toNat) 0#256
theorem ofBytes_snoc (l : List UInt8) (c : UInt8) : ofBytes (l ++ [c]) = addB (ofBytes l) c.toNat := by simp [ofBytes]
theorem take_snoc (s : ByteArray) (k : Nat) (h : k < s.size) : s.data.toList.take (k + 1) = s.data.toList.take k ++ [s[k]] := by
  rw [List.take_succ_eq_append_getElem (by simpa using h)]; rfl
theorem ofBytes_bit (l : List UInt8) (n : Nat) : (ofBytes l).getLsbD n = l.any (fun c => c.toNat == n) := by
  unfold ofBytes
  suffices h : ∀ (l : List UInt8) (S : BitVec 256), (l.foldl (fun S c => addB S c.toNat) S).getLsbD n = (S.getLsbD n || l.any (fun c => c.toNat == n)) by
    rw [h]; simp
  intro l
  induction l with
  | nil => intro S; simp
  | cons c l ih =>
    intro S
    rw [List.foldl_cons, ih, addB_bit _ _ _ c.toNat_lt, List.any_cons, Bool.or_assoc]
    rfl

/-- The letters' pair number i: a + i and A + i. -/
def pair (i : Nat) : BitVec 256 := addB 0#256 (97 + i) ||| addB 0#256 (65 + i)
/-- One pair more, if the set has one of the two. -/
def foldStep (S : BitVec 256) (F : BitVec 256) (i : Nat) : BitVec 256 := if S &&& pair i = 0#256 then F else F ||| pair i
def foldTo (S : BitVec 256) : Nat → BitVec 256
  | 0 => S
  | i + 1 => foldStep S (foldTo S i) i
def foldS (S : BitVec 256) : BitVec 256 := foldTo S 26

theorem pair_bit (i n : Nat) (hi : i < 26) : (pair i).getLsbD n = (decide (n = 97 + i) || decide (n = 65 + i)) := by
  unfold pair
  rw [BitVec.getLsbD_or, addB_bit _ _ _ (by omega), addB_bit _ _ _ (by omega)]
  have e1 : decide (97 + i = n) = decide (n = 97 + i) := decide_eq_decide.2 (by omega)
  have e2 : decide (65 + i = n) = decide (n = 65 + i) := decide_eq_decide.2 (by omega)
  simp [e1, e2]

theorem and_pair (S : BitVec 256) (i : Nat) (hi : i < 26) : (S &&& pair i = 0#256) ↔ (S.getLsbD (97 + i) = false ∧ S.getLsbD (65 + i) = false) := by
  constructor
  · intro h
    have b : ∀ n, (S &&& pair i).getLsbD n = false := by intro n; rw [h]; simp
    have b1 := b (97 + i)
    have b2 := b (65 + i)
    rw [BitVec.getLsbD_and, pair_bit _ _ hi] at b1 b2
    simp at b1 b2
    exact ⟨b1, b2⟩
  · rintro ⟨h1, h2⟩
    apply ext_bit
    intro n _
    rw [BitVec.getLsbD_and, pair_bit _ _ hi]
    by_cases e1 : n = 97 + i
    · subst e1; simp [h1]
    · by_cases e2 : n = 65 + i
      · subst e2; simp [h2]
      · simp [e1, e2]

/-- The other case of a letter. -/
def swap (n : Nat) : Nat := if 97 ≤ n ∧ n < 123 then n - 32 else if 65 ≤ n ∧ n < 91 then n + 32 else n

theorem foldTo_bit (S : BitVec 256) : ∀ (i : Nat), i ≤ 26 → ∀ n, (foldTo S i).getLsbD n =
    (S.getLsbD n || (((decide (97 ≤ n) && decide (n < 97 + i)) || (decide (65 ≤ n) && decide (n < 65 + i))) && S.getLsbD (swap n)))
  | 0, _, n => by
    have e1 : (decide (97 ≤ n) && decide (n < 97 + 0)) = false := by simp
    have e2 : (decide (65 ≤ n) && decide (n < 65 + 0)) = false := by simp
    simp [foldTo, e1, e2]
  | i + 1, h, n => by
    have ih := foldTo_bit S i (by omega) n
    have hs1 : swap (97 + i) = 65 + i := by unfold swap; rw [if_pos (by omega)]; omega
    have hs2 : swap (65 + i) = 97 + i := by unfold swap; rw [if_neg (by omega), if_pos (by omega)]; omega
    unfold foldTo foldStep
    by_cases e1 : n = 97 + i
    · subst e1
      have d1 : decide (97 + i < 97 + i) = false := by simp
      have d2 : (decide (65 ≤ 97 + i) && decide (97 + i < 65 + i)) = false := by
        have : ¬ (97 + i < 65 + i) := by omega
        simp
      rw [d1, d2] at ih
      simp only [Bool.and_false, Bool.false_and, Bool.or_false] at ih
      split
      · rename_i hz
        have hp := (and_pair S i (by omega)).1 hz
        rw [ih, hs1, hp.1, hp.2]; simp
      · rename_i hz
        have hp := fun x y => hz ((and_pair S i (by omega)).2 ⟨x, y⟩)
        rw [BitVec.getLsbD_or, ih, pair_bit _ _ (by omega), hs1]
        cases hx : S.getLsbD (97 + i) <;> cases hy : S.getLsbD (65 + i)
        · exact absurd hy (by simpa [hx] using hp)
        all_goals simp
    · by_cases e2 : n = 65 + i
      · subst e2
        have d1 : (decide (97 ≤ 65 + i) && decide (65 + i < 97 + i)) = false := by
          have : ¬ 97 ≤ 65 + i := by omega
          simp [this]
        have d1' : (decide (97 ≤ 65 + i) && decide (65 + i < 97 + (i + 1))) = false := by
          have : ¬ 97 ≤ 65 + i := by omega
          simp [this]
        have d2 : decide (65 + i < 65 + i) = false := by simp
        rw [d1, d2] at ih
        rw [d1']
        simp only [Bool.and_false, Bool.false_and, Bool.or_false] at ih
        split
        · rename_i hz
          have hp := (and_pair S i (by omega)).1 hz
          rw [ih, hs2, hp.1, hp.2]; simp
        · rename_i hz
          have hp := fun x y => hz ((and_pair S i (by omega)).2 ⟨x, y⟩)
          rw [BitVec.getLsbD_or, ih, pair_bit _ _ (by omega), hs2]
          cases hx : S.getLsbD (97 + i) <;> cases hy : S.getLsbD (65 + i)
          · exact absurd hy (by simpa [hx] using hp)
          all_goals simp
      · have d1 : decide (n < 97 + (i + 1)) = decide (n < 97 + i) := decide_eq_decide.2 (by omega)
        have d2 : decide (n < 65 + (i + 1)) = decide (n < 65 + i) := decide_eq_decide.2 (by omega)
        rw [d1, d2, ← ih]
        split
        · rfl
        · rw [BitVec.getLsbD_or, pair_bit _ _ (by omega)]; simp [e1, e2]

/-- What a folded set has. -/
theorem foldS_bit (S : BitVec 256) (n : Nat) : (foldS S).getLsbD n = (S.getLsbD n || S.getLsbD (swap n)) := by
  unfold foldS
  rw [foldTo_bit S 26 (by omega)]
  by_cases h1 : 97 ≤ n ∧ n < 123
  · simp [h1.1, h1.2]
  · by_cases h2 : 65 ≤ n ∧ n < 91
    · simp [h2.1, h2.2]
    · have e : swap n = n := by unfold swap; rw [if_neg h1, if_neg h2]
      rw [e]; cases S.getLsbD n <;> simp
end Go.Proofs.YtlcecblehffjiaaDoor
