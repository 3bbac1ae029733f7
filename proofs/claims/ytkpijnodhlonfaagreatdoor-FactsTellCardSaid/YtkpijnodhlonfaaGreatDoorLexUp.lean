/-
  Layer 6, mathematics: a token that is one ends behind its beginning, and not behind the pattern's end.
-/
import Derived.Test.YtkpijnodhlonfaaGreatDoorLexOpening
import Derived.Test.YtkpijnodhlonfaaGreatDoorLexItemM
namespace Go.Proofs.YtkpijnodhlonfaaGreatDoor

theorem mdN_up (p : ByteArray) (j : Nat) (hj : j ≤ p.size) : j + mdN (bt p j) ≤ p.size := by
  unfold mdN
  split
  · rename_i h
    have := bt_in (p := p) (i := j) (by omega)
    omega
  · omega
theorem cls_up (p : ByteArray) : ∀ (f a : Nat) (s : BitVec 256) (b : Bool) (x : BitVec 256 × Nat), a ≤ p.size → clsF p f a s b = some x → a ≤ x.2 ∧ x.2 < p.size
  | 0, a, s, b, x, _, h => by cases h
  | f + 1, a, s, b, x, ha, h => by
    by_cases hb : b = false ∧ bt p a = 93
    · rw [clsF, if_pos hb] at h
      cases h
      exact ⟨Nat.le_refl _, bt_in (p := p) (i := a) (by rw [hb.2]; decide)⟩
    · rw [cls_step _ _ _ _ _ hb] at h
      by_cases hs : (spanZ p a).2.2 ≠ 0
      · rw [if_pos hs] at h; cases h
      · rw [if_neg hs] at h
        have hu := (span_up p a).resolve_left (fun h2 => by rw [h2] at hs; simp at hs)
        have := cls_up p f _ _ _ x hu.2.2 h
        omega
theorem brace_up (p : ByteArray) (i : Nat) (hi : i < p.size) (hb : bt p i = 123) (h : (quantZ p i).2.2 = 0) : i + 1 ≤ (quantZ p i).2.1 ∧ (quantZ p i).2.1 ≤ p.size := by
  have hes : (p.extract (i + 1) p.size).size = p.size - (i + 1) := ext_size (Nat.le_refl _)
  rcases first_cases (p.extract (i + 1) p.size) 125 with ⟨-, hn⟩ | ⟨k, -, hk, hbk, hn⟩
  · have hz : quantZ p i = wrongT 3 := by
      unfold quantZ
      rw [if_pos hb, braces_no (fun j hj => by have := hn (j - (i + 1)); rw [bt_ext _ (by omega), show i + 1 + (j - (i + 1)) = j by omega] at this; exact this)]
      rfl
    rw [hz] at h
    exact absurd (show (3 : Int) = 0 from h) (by decide)
  · rw [hes] at hk
    have hbk' : bt p (i + 1 + k) = 125 := by rw [← bt_ext _ (by omega)]; exact hbk
    have he := braces_eq (p := p) (i := i) (e := i + 1 + k) (by omega) (by omega) hbk' (fun j h1 h2 => by have := hn (j - (i + 1)) (by omega); rw [bt_ext _ (by omega), show i + 1 + (j - (i + 1)) = j by omega] at this; exact this)
    have hz := quant_brace hb he
    rw [hz] at h ⊢
    clear hz he
    generalize cntsZ (p.extract (i + 1) (i + 1 + k)) = C at h ⊢
    by_cases h0 : C.2.2 = 0
    · rw [if_pos h0]
      have := mdN_up p (i + 1 + k + 1) (by omega)
      exact ⟨by simp only []; omega, by simp only []; omega⟩
    · rw [if_neg h0] at h
      exact absurd h h0
theorem up1 {p : ByteArray} {i : Nat} {t : Tok} {e : Int} (hi : i < p.size) : i + 1 ≤ ((t, i + 1, e) : TokR).2.1 ∧ ((t, i + 1, e) : TokR).2.1 ≤ p.size := ⟨Nat.le_refl _, hi⟩
theorem tok_up (p : ByteArray) (i : Nat) (hi : i < p.size) (h : (tokZ p i).2.2 = 0) : i + 1 ≤ (tokZ p i).2.1 ∧ (tokZ p i).2.1 ≤ p.size := by
  by_cases h46 : bt p i = 46
  · rw [tok_46 h46]; exact up1 hi
  by_cases h94 : bt p i = 94
  · rw [tok_94 h94]; exact up1 hi
  by_cases h36 : bt p i = 36
  · rw [tok_36 h36]; exact up1 hi
  by_cases h124 : bt p i = 124
  · rw [tok_124 h124]; exact up1 hi
  by_cases h41 : bt p i = 41
  · rw [tok_41 h41]; exact up1 hi
  by_cases h93 : bt p i = 93
  · rw [tok_93 h93] at h; exact absurd (show (3 : Int) = 0 from h) (by decide)
  by_cases h125 : bt p i = 125
  · rw [tok_125 h125] at h; exact absurd (show (3 : Int) = 0 from h) (by decide)
  by_cases h91 : bt p i = 91
  · rw [tok_91 h91] at h ⊢
    have hc := class_eq hi h91
    have h' : (classZ p i).2.2 = 0 := h
    show i + 1 ≤ (classZ p i).2.1 ∧ (classZ p i).2.1 ≤ p.size
    rw [hc] at h' ⊢
    have ha : (if bt p (i + 1) = 94 then i + 2 else i + 1) ≤ p.size ∧ i + 1 ≤ (if bt p (i + 1) = 94 then i + 2 else i + 1) := by
      split
      · rename_i h2
        have := bt_in (p := p) (i := i + 1) (by omega)
        omega
      · omega
    have hu := fun x => cls_up p (p.size + 1) (if bt p (i + 1) = 94 then i + 2 else i + 1) 0#256 true x ha.1
    revert h' hu
    generalize clsF p (p.size + 1) (if bt p (i + 1) = 94 then i + 2 else i + 1) 0#256 true = C
    intro h' hu
    cases C with
    | none => exact absurd (show (3 : Int) = 0 from h') (by decide)
    | some x =>
      have := hu x rfl
      show i + 1 ≤ x.2 + 1 ∧ x.2 + 1 ≤ p.size
      omega
  by_cases h40 : bt p i = 40
  · by_cases h63 : bt p (i + 1) = 63
    · rw [tok_open2 h40 h63] at h ⊢
      have h1 := bt_in (p := p) (i := i + 1) (by omega)
      have h2 : bt p (i + 2) ≠ 256 → i + 2 < p.size := bt_in
      have h3 : bt p (i + 3) ≠ 256 → i + 3 < p.size := bt_in
      split
      · exact ⟨by simp only []; omega, by simp only []; omega⟩
      · split
        · exact ⟨by simp only []; omega, by simp only []; omega⟩
        · split
          · exact ⟨by simp only []; omega, by simp only []; omega⟩
          · split
            · exact ⟨by simp only []; omega, by simp only []; omega⟩
            · split
              · exact ⟨by simp only []; omega, by simp only []; omega⟩
              · split
                · exact ⟨by simp only []; omega, by simp only []; omega⟩
                · rename_i a b c d e f
                  rw [if_neg a, if_neg b, if_neg c, if_neg d, if_neg e, if_neg f] at h
                  rcases flags_form p (p.size + 1) (i + 2) [] with hf | ⟨L, hf, hL, hL2⟩
                  · rw [hf] at h; exact absurd (show (3 : Int) = 0 from h) (by decide)
                  · rw [hf]
                    simp only [List.length_nil, Nat.sub_zero] at hL2 ⊢
                    omega
    · rw [tok_open h40 h63]; exact up1 hi
  by_cases hq : bt p i = 42 ∨ bt p i = 43 ∨ bt p i = 63 ∨ bt p i = 123
  · rw [tok_quant hq] at h ⊢
    have hm := mdN_up p (i + 1) (by omega)
    rcases hq with hq | hq | hq | hq
    · rw [quant_42 hq]; exact ⟨by simp only []; omega, by simp only []; omega⟩
    · rw [quant_43 hq]; exact ⟨by simp only []; omega, by simp only []; omega⟩
    · rw [quant_63 hq]; exact ⟨by simp only []; omega, by simp only []; omega⟩
    · exact brace_up p i hi hq h
  by_cases h92 : bt p i = 92
  · rw [tok_esc h92] at h ⊢
    have h1 : bt p (i + 1) ≠ 256 → i + 1 < p.size := bt_in
    have hu := escZ_up p i
    split
    · exact ⟨by simp only []; omega, by simp only []; omega⟩
    · split
      · exact ⟨by simp only []; omega, by simp only []; omega⟩
      · split
        · exact ⟨by simp only []; omega, by simp only []; omega⟩
        · rename_i a b c
          rw [if_neg a, if_neg b, if_neg c] at h
          split
          · rename_i d
            rw [if_pos d] at h
            exact absurd (show (3 : Int) = 0 from h) (by decide)
          · exact ⟨by simp only []; omega, by simp only []; omega⟩
  · rw [tok_byte (by simp only [List.mem_cons, List.mem_nil_iff, or_false, forall_eq_or_imp, forall_eq]; omega)]
    exact up1 hi
end Go.Proofs.YtkpijnodhlonfaaGreatDoor
