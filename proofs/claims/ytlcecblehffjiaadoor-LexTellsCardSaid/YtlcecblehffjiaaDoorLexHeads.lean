/-
  Layer 6, mathematics: which token begins at a place, by the bytes there.
-/
import Derived.Test.YtlcecblehffjiaaDoorLexLib
import Derived.Test.YtlcecblehffjiaaDoorLexBase
namespace Go.Proofs.YtlcecblehffjiaaDoor

section
variable {p : ByteArray} {i : Nat}
theorem tok_46 (h : bt p i = 46) : tokZ p i = (tok0 1, i + 1, 0) := by simp [tokZ, headsL, headF, headB, h]
theorem tok_94 (h : bt p i = 94) : tokZ p i = (tok0 2, i + 1, 0) := by simp [tokZ, headsL, headF, headB, h]
theorem tok_36 (h : bt p i = 36) : tokZ p i = (tok0 3, i + 1, 0) := by simp [tokZ, headsL, headF, headB, h]
theorem tok_124 (h : bt p i = 124) : tokZ p i = (tok0 6, i + 1, 0) := by simp [tokZ, headsL, headF, headB, h]
theorem tok_41 (h : bt p i = 41) : tokZ p i = (tok0 15, i + 1, 0) := by simp [tokZ, headsL, headF, headB, h]
theorem tok_93 (h : bt p i = 93) : tokZ p i = wrongT 3 := by simp [tokZ, headsL, headF, headB, h]
theorem tok_125 (h : bt p i = 125) : tokZ p i = wrongT 3 := by simp [tokZ, headsL, headF, headB, h]
theorem tok_91 (h : bt p i = 91) : tokZ p i = ({ tok0 0 with S := (classZ p i).1 }, (classZ p i).2.1, (classZ p i).2.2) := by simp [tokZ, headsL, headF, headB, h]
theorem tok_quant (h : bt p i = 42 ∨ bt p i = 43 ∨ bt p i = 63 ∨ bt p i = 123) : tokZ p i = quantZ p i := by
  rcases h with h | h | h | h <;> simp [tokZ, headsL, headF, headB, h]
theorem tok_open (h : bt p i = 40) (h2 : bt p (i + 1) ≠ 63) : tokZ p i = (tok0 7, i + 1, 0) := by simp [tokZ, headsL, headF, headB, h, h2]
theorem tok_open2 (h : bt p i = 40) (h2 : bt p (i + 1) = 63) : tokZ p i =
    if bt p (i + 2) = 58 then (tok0 8, i + 3, 0) else if bt p (i + 2) = 61 then (tok0 9, i + 3, 0) else if bt p (i + 2) = 33 then (tok0 10, i + 3, 0)
    else if bt p (i + 2) = 60 ∧ bt p (i + 3) = 61 then (tok0 11, i + 4, 0) else if bt p (i + 2) = 60 ∧ bt p (i + 3) = 33 then (tok0 12, i + 4, 0)
    else if bt p (i + 2) = 62 then (tok0 13, i + 3, 0) else flagsF p (p.size + 1) (i + 2) [] := by
  simp only [tokZ, headsL, headF, headB, h, h2, Nat.add_assoc, Nat.reduceAdd]
  by_cases a : bt p (i + 2) = 58
  · simp [a]
  · by_cases b : bt p (i + 2) = 61
    · simp [b]
    · by_cases c : bt p (i + 2) = 33
      · simp [c]
      · by_cases d : bt p (i + 2) = 60
        · by_cases e : bt p (i + 3) = 61
          · simp [d, e]
          · by_cases f : bt p (i + 3) = 33
            · simp [d, f]
            · simp [d, e, f]
        · by_cases e : bt p (i + 2) = 62
          · simp [e]
          · simp [a, b, c, d, e]
theorem tok_esc (h : bt p i = 92) : tokZ p i =
    if bt p (i + 1) = 98 then (tok0 4, i + 2, 0) else if bt p (i + 1) = 66 then (tok0 5, i + 2, 0)
    else if 49 ≤ bt p (i + 1) ∧ bt p (i + 1) ≤ 57 then ({ tok0 17 with n := (bt p (i + 1) : Int) - 48 }, i + 2, 0)
    else if (escZ p i).2 = 0 then wrongT 3 else ({ tok0 0 with S := (escZ p i).1 }, (escZ p i).2, 0) := by
  by_cases a : bt p (i + 1) = 98
  · simp [tokZ, headsL, headF, headB, h, a]
  · by_cases b : bt p (i + 1) = 66
    · simp [tokZ, headsL, headF, headB, h, b]
    · simp [tokZ, headsL, headF, headB, h, a, b]
theorem tok_byte (h : ∀ c ∈ [46, 94, 36, 124, 41, 40, 42, 43, 63, 123, 91, 93, 125, 92], bt p i ≠ c) : tokZ p i = ({ tok0 0 with S := oneS (bt p i) }, i + 1, 0) := by
  simp only [List.mem_cons, List.mem_nil_iff, or_false, forall_eq_or_imp, forall_eq] at h
  simp [tokZ, headsL, headF, headB, h]
end

/-! The flags. -/
def isF (c : Nat) : Bool := c == 105 || c == 109 || c == 115
theorem flags_colon {p : ByteArray} {f i : Nat} {l : List UInt8} (hi : i < p.size) (hb : bt p i = 58) (hl : l ≠ []) : flagsF p (f + 1) i l = ({ tok0 14 with f := ⟨l.toArray⟩ }, i + 1, 0) := by
  rw [flagsF, dif_pos hi, if_pos ⟨hb, hl⟩]
theorem flags_bad {p : ByteArray} {f i : Nat} {l : List UInt8} (hb : isF (bt p i) = false) (hc : bt p i ≠ 58) : flagsF p (f + 1) i l = wrongT 3 := by
  rw [flagsF]
  split
  · rw [if_neg (by omega)]
    simp only [isF, Bool.or_eq_false_iff, beq_eq_false_iff_ne] at hb
    rw [if_pos ⟨hb.1.1, hb.1.2, hb.2⟩]
  · rfl
theorem flags_twice {p : ByteArray} {f i : Nat} {l : List UInt8} (hi : i < p.size) (hc : bt p i ≠ 58) (hm : p[i] ∈ l) : flagsF p (f + 1) i l = wrongT 3 := by
  rw [flagsF, dif_pos hi, if_neg (by omega), if_pos hm]
  split <;> rfl
theorem flags_next {p : ByteArray} {f i : Nat} {l : List UInt8} (hi : i < p.size) (hb : isF (bt p i) = true) (hm : ¬ p[i] ∈ l) : flagsF p (f + 1) i l = flagsF p f (i + 1) (l ++ [p[i]]) := by
  have h1 : bt p i = 105 ∨ bt p i = 109 ∨ bt p i = 115 := by
    simp only [isF, Bool.or_eq_true, beq_iff_eq] at hb
    omega
  rw [flagsF, dif_pos hi, if_neg (by omega), if_neg (by omega), if_neg hm]
theorem flags_end {p : ByteArray} {f i : Nat} {l : List UInt8} (hi : p.size ≤ i) : flagsF p f i l = wrongT 3 := by
  cases f with
  | zero => rfl
  | succ f => rw [flagsF, dif_neg (by omega)]
theorem flags_colon0 {p : ByteArray} {f i : Nat} (hb : bt p i = 58) : flagsF p (f + 1) i [] = wrongT 3 := by
  rw [flagsF]
  split
  · rw [if_neg (by simp), if_pos (by omega)]
  · rfl
/-- The bytes of a piece, and whether a byte is among them. -/
theorem mem_pre {s : ByteArray} {k : Nat} {c : UInt8} (hk : k ≤ s.size) : c ∈ (s.extract 0 k).data.toList ↔ ∃ j, j < k ∧ bt s j = c.toNat := by
  rw [List.mem_iff_getElem]
  constructor
  · rintro ⟨j, hj, he⟩
    have hj' : j < k := by simp at hj; omega
    refine ⟨j, hj', ?_⟩
    rw [bt_at (by omega), ← he]
    simp
    rfl
  · rintro ⟨j, hj, he⟩
    refine ⟨j, by simp; omega, ?_⟩
    rw [bt_at (by omega)] at he
    have := UInt8.toNat_inj.1 he
    rw [← this]
    simp
    rfl
theorem pre_snoc {s : ByteArray} {k : Nat} (hk : k < s.size) : (s.extract 0 (k + 1)).data.toList = (s.extract 0 k).data.toList ++ [s[k]] := by
  apply List.ext_getElem
  · simp; omega
  · intro j h1 h2
    have hj : j < k + 1 := by simp at h1; omega
    rw [List.getElem_append]
    split
    · simp
    · rename_i h3
      have : j = k := by simp at h3; omega
      subst this
      simp
      rfl
/-- What the flags of a piece come to. -/
def leadT (x : TokR) : ByteArray × Bool := if x.2.2 = 0 then (x.1.f, true) else (ByteArray.empty, false)
end Go.Proofs.YtlcecblehffjiaaDoor
