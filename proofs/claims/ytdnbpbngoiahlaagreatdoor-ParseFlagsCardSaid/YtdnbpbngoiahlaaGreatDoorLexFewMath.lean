/-
  Layer 6, mathematics: what every token is like, and how many there are.
-/
import Derived.Test.YtdnbpbngoiahlaaGreatDoorLexUp
namespace Go.Proofs.YtdnbpbngoiahlaaGreatDoor

/-- What a token is like. -/
def TokOk (t : Tok) : Prop := 0 ≤ t.k ∧ t.k < 18 ∧ (t.k = 16 → (0 ≤ t.mx → t.mn ≤ t.mx) ∧ 0 ≤ t.mn ∧ t.mn ≤ 100 ∧ t.mx ≤ 100 ∧ 0 ≤ t.md ∧ t.md ≤ 2) ∧ (t.k = 17 → 1 ≤ t.n ∧ t.n ≤ 9)
/-- An error is 3 or 4; else the token is so. -/
def ResOk (r : TokR) : Prop := r.2.2 = 3 ∨ r.2.2 = 4 ∨ r.2.2 = 0 ∧ TokOk r.1
theorem ok_plain {t : Tok} (h0 : 0 ≤ t.k) (h1 : t.k < 16) : TokOk t := ⟨h0, by omega, fun h => by omega, fun h => by omega⟩
theorem ok_tok {t : Tok} {i : Nat} (h : TokOk t) : ResOk (t, i, 0) := .inr (.inr ⟨rfl, h⟩)
theorem ok_3 : ResOk (wrongT 3) := .inl rfl
theorem ok_4 : ResOk (wrongT 4) := .inr (.inl rfl)
theorem ok_flags (p : ByteArray) : ∀ (f i : Nat) (l : List UInt8), ResOk (flagsF p f i l)
  | 0, _, _ => ok_3
  | f + 1, i, l => by
    rw [flagsF]
    split
    · split
      · exact ok_tok (ok_plain (show (0 : Int) ≤ 14 by decide) (show (14 : Int) < 16 by decide))
      · split
        · exact ok_3
        · split
          · exact ok_3
          · exact ok_flags p f _ _
    · exact ok_3
theorem ok_head (p : ByteArray) (i : Nat) : ∀ (l : List (List Nat × Int)), (∀ x ∈ l, 0 ≤ x.2 ∧ x.2 < 16) → ∀ r, headF p i l = some r → ResOk r
  | [], _, r, h => by cases h
  | x :: l, hl, r, h => by
    rw [headF] at h
    split at h
    · obtain rfl := Option.some.inj h
      have := hl x (by simp)
      exact ok_tok (ok_plain this.1 this.2)
    · exact ok_head p i l (fun y hy => hl y (by simp [hy])) r h
/-- A repeat, before how it goes is told. -/
def QuantOk (t : Tok) : Prop := t.k = 16 ∧ (0 ≤ t.mx → t.mn ≤ t.mx) ∧ 0 ≤ t.mn ∧ t.mn ≤ 100 ∧ t.mx ≤ 100 ∧ t.md = 0
theorem ok_mode (p : ByteArray) {x : TokR} (h : x.2.2 = 0) (hq : QuantOk x.1) : ResOk (modeZ p x) := by
  obtain ⟨h1, h2, h3, h4, h5, h6⟩ := hq
  have hk (m : Int) (hm : 0 ≤ m ∧ m ≤ 2) : TokOk { x.1 with md := m } := ⟨by show 0 ≤ x.1.k; omega, by show x.1.k < 18; omega, fun _ => ⟨h2, h3, h4, h5, hm.1, hm.2⟩, fun hc => by
    have : x.1.k = 17 := hc
    omega⟩
  unfold modeZ
  split
  · exact ok_tok (hk 1 (by decide))
  · split
    · exact ok_tok (hk 2 (by decide))
    · refine .inr (.inr ⟨h, ?_⟩)
      have := hk 0 (by decide)
      rw [← h6] at this
      exact this
theorem braces_ok (p : ByteArray) (i : Nat) : (bracesZ p i).2.2 = 3 ∨ (bracesZ p i).2.2 = 4 ∨ (bracesZ p i).2.2 = 0 ∧ QuantOk (bracesZ p i).1 := by
  unfold bracesZ
  simp only []
  generalize countZ p (i + 1) = A
  split
  · exact .inl rfl
  · generalize hB : (if bt p A.2 = 44 then (if (countZ p (A.2 + 1)).2 = A.2 + 1 then -1 else ((countZ p (A.2 + 1)).1 : Int), (countZ p (A.2 + 1)).2) else ((A.1 : Int), A.2)) = B
    split
    · exact .inl rfl
    · split
      · exact .inr (.inl rfl)
      · split
        · exact .inl rfl
        · rename_i h1 h2
          refine .inr (.inr ⟨rfl, rfl, fun h => ?_, ?_, ?_, ?_, rfl⟩)
          · have : (0 : Int) ≤ B.1 := h
            show (A.1 : Int) ≤ B.1
            omega
          · show (0 : Int) ≤ (A.1 : Int)
            omega
          · show (A.1 : Int) ≤ 100
            omega
          · show B.1 ≤ 100
            omega
theorem ok_quant (p : ByteArray) (i : Nat) : ResOk (quantZ p i) := by
  unfold quantZ
  have hb := braces_ok p i
  split
  · split
    · rename_i h
      rcases hb with hb | hb | hb
      · rw [h] at hb; exact absurd hb (by decide)
      · rw [h] at hb; exact absurd hb (by decide)
      · exact ok_mode p h hb.2
    · rename_i h
      rcases hb with hb | hb | hb
      · rw [hb]; exact ok_3
      · rw [hb]; exact ok_4
      · exact absurd hb.1 h
  · refine ok_mode p rfl ⟨rfl, ?_, ?_, ?_, ?_, rfl⟩
    · show (0 : Int) ≤ (if bt p i = 63 then 1 else -1) → (if bt p i = 43 then (1 : Int) else 0) ≤ (if bt p i = 63 then 1 else -1)
      (repeat' split) <;> omega
    · show (0 : Int) ≤ (if bt p i = 43 then 1 else 0)
      split <;> omega
    · show (if bt p i = 43 then (1 : Int) else 0) ≤ 100
      split <;> omega
    · show (if bt p i = 63 then (1 : Int) else -1) ≤ 100
      split <;> omega
theorem class_res {p : ByteArray} {i : Nat} (hi : i < p.size) (hb : bt p i = 91) : (classZ p i).2.2 = 3 ∨ (classZ p i).2.2 = 0 := by
  unfold classZ
  rw [if_neg (by omega)]
  split
  · exact .inl rfl
  · exact .inr rfl
theorem heads_low : ∀ x ∈ headsL, (0 : Int) ≤ x.2 ∧ x.2 < 16 := by decide
theorem ok_lit {t : Tok} {i : Nat} (h : t.k = 0) : ResOk (t, i, 0) := ok_tok (ok_plain (by omega) (by omega))
theorem tok_res (p : ByteArray) (i : Nat) (hi : i < p.size) : ResOk (tokZ p i) := by
  unfold tokZ
  split
  · rename_i x h
    exact ok_head p i headsL heads_low x h
  · split
    · exact ok_flags p _ _ _
    · split
      · exact ok_tok (ok_plain (show (0 : Int) ≤ 7 by decide) (show (7 : Int) < 16 by decide))
      · split
        · exact ok_quant p i
        · split
          · rename_i h
            rcases class_res hi h with hc | hc
            · exact .inl hc
            · exact .inr (.inr ⟨hc, ok_plain (show (0 : Int) ≤ 0 by decide) (show (0 : Int) < 16 by decide)⟩)
          · split
            · exact ok_3
            · split
              · exact ok_lit rfl
              · split
                · rename_i h
                  refine ok_tok ⟨show (0 : Int) ≤ 17 by decide, show (17 : Int) < 18 by decide, fun hc => absurd (show (17 : Int) = 16 from hc) (by decide), fun _ => ?_⟩
                  show (1 : Int) ≤ (bt p (i + 1) : Int) - 48 ∧ (bt p (i + 1) : Int) - 48 ≤ 9
                  omega
                · split
                  · exact ok_3
                  · exact ok_lit rfl
/-- What the tokens of a pattern are like. -/
theorem few_F (p : ByteArray) : ∀ (f i : Nat) (l : List Tok), (∀ t ∈ l, TokOk t) → l.length ≤ i → i ≤ p.size →
    ((lexF p f i l).1 = [] ∧ ((lexF p f i l).2 = 3 ∨ (lexF p f i l).2 = 4)) ∨ ((lexF p f i l).2 = 0 ∧ (∀ t ∈ (lexF p f i l).1, TokOk t) ∧ l.length ≤ (lexF p f i l).1.length ∧ (lexF p f i l).1.length ≤ p.size)
  | 0, i, l, hl, h1, h2 => .inr ⟨rfl, hl, Nat.le_refl _, Nat.le_trans h1 h2⟩
  | f + 1, i, l, hl, h1, h2 => by
    rw [lexF]
    split
    · exact .inr ⟨rfl, hl, Nat.le_refl _, Nat.le_trans h1 h2⟩
    · rename_i hi
      have hr := tok_res p i (by omega)
      split
      · rename_i he
        refine .inl ⟨rfl, ?_⟩
        rcases hr with hr | hr | hr
        · exact .inl hr
        · exact .inr hr
        · exact absurd hr.1 he
      · rename_i he
        have he0 : (tokZ p i).2.2 = 0 := by omega
        have hu := tok_up p i (by omega) he0
        have ht : TokOk (tokZ p i).1 := by
          rcases hr with hr | hr | hr
          · omega
          · omega
          · exact hr.2
        rcases few_F p f (tokZ p i).2.1 (l ++ [(tokZ p i).1]) (fun t h => by
          rw [List.mem_append, List.mem_singleton] at h
          rcases h with h | rfl
          · exact hl t h
          · exact ht) (by simp; omega) (by omega) with h | ⟨a, b, c, d⟩
        · exact .inl h
        · exact .inr ⟨a, b, by simp at c; omega, d⟩
theorem few_lex (p : ByteArray) (hp : p.size ≤ 1000) :
    ((lexZ p).1 = [] ∧ ((lexZ p).2 = 3 ∨ (lexZ p).2 = 4)) ∨ ((lexZ p).2 = 0 ∧ (∀ t ∈ (lexZ p).1, TokOk t) ∧ (lexZ p).1.length ≤ p.size ∧ (0 < (lexZ p).1.length ↔ 0 < p.size)) := by
  unfold lexZ
  rw [if_neg (by omega)]
  rcases few_F p (p.size + 1) 0 [] (by simp) (by simp) (by omega) with h | ⟨a, b, -, d⟩
  · exact .inl h
  · refine .inr ⟨a, b, d, ?_, ?_⟩
    · intro; omega
    · intro h0
      rw [lexF] at a ⊢
      rw [if_neg (by omega)] at a ⊢
      have hr := tok_res p 0 (by omega)
      split
      · rename_i he
        rw [if_pos he] at a
        exact absurd a he
      · rename_i he
        have he0 : (tokZ p 0).2.2 = 0 := by omega
        have hu := tok_up p 0 (by omega) he0
        have ht : TokOk (tokZ p 0).1 := by
          rcases hr with hr | hr | hr
          · omega
          · omega
          · exact hr.2
        rw [if_neg he] at a
        rcases few_F p p.size (tokZ p 0).2.1 ([] ++ [(tokZ p 0).1]) (by simpa using ht) (by simp; omega) (by omega) with h | ⟨-, -, c, -⟩
        · exfalso
          rcases h.2 with h | h <;> rw [h] at a <;> exact absurd a (by decide)
        · simp only [List.nil_append, List.length_cons, List.length_nil] at c ⊢
          omega
end Go.Proofs.YtdnbpbngoiahlaaGreatDoor
