/-
  LexFewMath, LexJoinM, ParMore, ParPlainM, ParRightM
-/
import Derived.Test.YtfejdengpnikeaaGreatDoorLexUp
import Derived.Test.YtfejdengpnikeaaGreatDoorLexToks
import Derived.Test.YtfejdengpnikeaaGreatDoorParA
import Derived.Test.YtfejdengpnikeaaGreatDoorAstI
namespace Go.Proofs.YtfejdengpnikeaaGreatDoor

/-- What a token is like. -/
def TokOk (t : Tok) : Prop := 0 ≤ t.k ∧ t.k < 18 ∧ (t.k = 16 → (0 ≤ t.mx → t.mn ≤ t.mx) ∧ 0 ≤ t.mn ∧ t.mn ≤ 100 ∧ t.mx ≤ 100 ∧ 0 ≤ t.md ∧ t.md ≤ 2) ∧ (t.k = 17 → 1 ≤ t.n ∧ t.n ≤ 9)
/-- An error is 3 or 4; else the token is so. -/
def ResOk (r : TokR) : Prop := r.2.2 = 3 ∨ r.2.2 = 4 ∨ r.2.2 = 0 ∧ TokOk r.1
theorem ok_plain {t : Tok} (h0 : 0 ≤ t.k) (h1 : t.k < 16) : TokOk t := ⟨h0, by omega, fun h => by omega, fun h => by omega⟩
theorem ok_tok {t : Tok} {i : Nat} (h : TokOk t) : ResOk (t, i, 0) := .inr (.inr ⟨rfl, h⟩)
theorem ok_3 : ResOk (wrongT 3) := .inl rfl
theorem ok_4 : ResOk (wrongT 4) := .inr (.inl rfl)
theorem ok_flags (p : ByteArray) : ∀ (f i : Nat) (l : List UInt8), ResOk (flagsF p f i l)
  | 0, _, _ => ok_3
  | f + 1, i, l => by
    rw [flagsF]
    split
    · split
      · exact ok_tok (ok_plain (show (0 : Int) ≤ 14 by decide) (show (14 : Int) < 16 by decide))
      · split
        · exact ok_3
        · split
          · exact ok_3
          · exact ok_flags p f _ _
    · exact ok_3
theorem ok_head (p : ByteArray) (i : Nat) : ∀ (l : List (List Nat × Int)), (∀ x ∈ l, 0 ≤ x.2 ∧ x.2 < 16) → ∀ r, headF p i l = some r → ResOk r
  | [], _, r, h => by cases h
  | x :: l, hl, r, h => by
    rw [headF] at h
    split at h
    · obtain rfl := Option.some.inj h
      have := hl x (by simp)
      exact ok_tok (ok_plain this.1 this.2)
    · exact ok_head p i l (fun y hy => hl y (by simp [hy])) r h
/-- A repeat, before how it goes is told. -/
def QuantOk (t : Tok) : Prop := t.k = 16 ∧ (0 ≤ t.mx → t.mn ≤ t.mx) ∧ 0 ≤ t.mn ∧ t.mn ≤ 100 ∧ t.mx ≤ 100 ∧ t.md = 0
theorem ok_mode (p : ByteArray) {x : TokR} (h : x.2.2 = 0) (hq : QuantOk x.1) : ResOk (modeZ p x) := by
  obtain ⟨h1, h2, h3, h4, h5, h6⟩ := hq
  have hk (m : Int) (hm : 0 ≤ m ∧ m ≤ 2) : TokOk { x.1 with md := m } := ⟨by show 0 ≤ x.1.k; omega, by show x.1.k < 18; omega, fun _ => ⟨h2, h3, h4, h5, hm.1, hm.2⟩, fun hc => by
    have : x.1.k = 17 := hc
    omega⟩
  unfold modeZ
  split
  · exact ok_tok (hk 1 (by decide))
  · split
    · exact ok_tok (hk 2 (by decide))
    · refine .inr (.inr ⟨h, ?_⟩)
      have := hk 0 (by decide)
      rw [← h6] at this
      exact this
theorem braces_ok (p : ByteArray) (i : Nat) : (bracesZ p i).2.2 = 3 ∨ (bracesZ p i).2.2 = 4 ∨ (bracesZ p i).2.2 = 0 ∧ QuantOk (bracesZ p i).1 := by
  unfold bracesZ
  simp only []
  generalize countZ p (i + 1) = A
  split
  · exact .inl rfl
  · generalize hB : (if bt p A.2 = 44 then (if (countZ p (A.2 + 1)).2 = A.2 + 1 then -1 else ((countZ p (A.2 + 1)).1 : Int), (countZ p (A.2 + 1)).2) else ((A.1 : Int), A.2)) = B
    split
    · exact .inl rfl
    · split
      · exact .inr (.inl rfl)
      · split
        · exact .inl rfl
        · rename_i h1 h2
          refine .inr (.inr ⟨rfl, rfl, fun h => ?_, ?_, ?_, ?_, rfl⟩)
          · have : (0 : Int) ≤ B.1 := h
            show (A.1 : Int) ≤ B.1
            omega
          · show (0 : Int) ≤ (A.1 : Int)
            omega
          · show (A.1 : Int) ≤ 100
            omega
          · show B.1 ≤ 100
            omega
theorem ok_quant (p : ByteArray) (i : Nat) : ResOk (quantZ p i) := by
  unfold quantZ
  have hb := braces_ok p i
  split
  · split
    · rename_i h
      rcases hb with hb | hb | hb
      · rw [h] at hb; exact absurd hb (by decide)
      · rw [h] at hb; exact absurd hb (by decide)
      · exact ok_mode p h hb.2
    · rename_i h
      rcases hb with hb | hb | hb
      · rw [hb]; exact ok_3
      · rw [hb]; exact ok_4
      · exact absurd hb.1 h
  · refine ok_mode p rfl ⟨rfl, ?_, ?_, ?_, ?_, rfl⟩
    · show (0 : Int) ≤ (if bt p i = 63 then 1 else -1) → (if bt p i = 43 then (1 : Int) else 0) ≤ (if bt p i = 63 then 1 else -1)
      (repeat' split) <;> omega
    · show (0 : Int) ≤ (if bt p i = 43 then 1 else 0)
      split <;> omega
    · show (if bt p i = 43 then (1 : Int) else 0) ≤ 100
      split <;> omega
    · show (if bt p i = 63 then (1 : Int) else -1) ≤ 100
      split <;> omega
theorem class_res {p : ByteArray} {i : Nat} (hi : i < p.size) (hb : bt p i = 91) : (classZ p i).2.2 = 3 ∨ (classZ p i).2.2 = 0 := by
  unfold classZ
  rw [if_neg (by omega)]
  split
  · exact .inl rfl
  · exact .inr rfl
theorem heads_low : ∀ x ∈ headsL, (0 : Int) ≤ x.2 ∧ x.2 < 16 := by decide
theorem ok_lit {t : Tok} {i : Nat} (h : t.k = 0) : ResOk (t, i, 0) := ok_tok (ok_plain (by omega) (by omega))
theorem tok_res (p : ByteArray) (i : Nat) (hi : i < p.size) : ResOk (tokZ p i) := by
  unfold tokZ
  split
  · rename_i x h
    exact ok_head p i headsL heads_low x h
  · split
    · exact ok_flags p _ _ _
    · split
      · exact ok_tok (ok_plain (show (0 : Int) ≤ 7 by decide) (show (7 : Int) < 16 by decide))
      · split
        · exact ok_quant p i
        · split
          · rename_i h
            rcases class_res hi h with hc | hc
            · exact .inl hc
            · exact .inr (.inr ⟨hc, ok_plain (show (0 : Int) ≤ 0 by decide) (show (0 : Int) < 16 by decide)⟩)
          · split
            · exact ok_3
            · split
              · exact ok_lit rfl
              · split
                · rename_i h
                  refine ok_tok ⟨show (0 : Int) ≤ 17 by decide, show (17 : Int) < 18 by decide, fun hc => absurd (show (17 : Int) = 16 from hc) (by decide), fun _ => ?_⟩
                  show (1 : Int) ≤ (bt p (i + 1) : Int) - 48 ∧ (bt p (i + 1) : Int) - 48 ≤ 9
                  omega
                · split
                  · exact ok_3
                  · exact ok_lit rfl
/-- What the tokens of a pattern are like. -/
theorem few_F (p : ByteArray) : ∀ (f i : Nat) (l : List Tok), (∀ t ∈ l, TokOk t) → l.length ≤ i → i ≤ p.size →
    ((lexF p f i l).1 = [] ∧ ((lexF p f i l).2 = 3 ∨ (lexF p f i l).2 = 4)) ∨ ((lexF p f i l).2 = 0 ∧ (∀ t ∈ (lexF p f i l).1, TokOk t) ∧ l.length ≤ (lexF p f i l).1.length ∧ (lexF p f i l).1.length ≤ p.size)
  | 0, i, l, hl, h1, h2 => .inr ⟨rfl, hl, Nat.le_refl _, Nat.le_trans h1 h2⟩
  | f + 1, i, l, hl, h1, h2 => by
    rw [lexF]
    split
    · exact .inr ⟨rfl, hl, Nat.le_refl _, Nat.le_trans h1 h2⟩
    · rename_i hi
      have hr := tok_res p i (by omega)
      split
      · rename_i he
        refine .inl ⟨rfl, ?_⟩
        rcases hr with hr | hr | hr
        · exact .inl hr
        · exact .inr hr
        · exact absurd hr.1 he
      · rename_i he
        have he0 : (tokZ p i).2.2 = 0 := by omega
        have hu := tok_up p i (by omega) he0
        have ht : TokOk (tokZ p i).1 := by
          rcases hr with hr | hr | hr
          · omega
          · omega
          · exact hr.2
        rcases few_F p f (tokZ p i).2.1 (l ++ [(tokZ p i).1]) (fun t h => by
          rw [List.mem_append, List.mem_singleton] at h
          rcases h with h | rfl
          · exact hl t h
          · exact ht) (by simp; omega) (by omega) with h | ⟨a, b, c, d⟩
        · exact .inl h
        · exact .inr ⟨a, b, by simp at c; omega, d⟩
theorem few_lex (p : ByteArray) (hp : p.size ≤ 1000) :
    ((lexZ p).1 = [] ∧ ((lexZ p).2 = 3 ∨ (lexZ p).2 = 4)) ∨ ((lexZ p).2 = 0 ∧ (∀ t ∈ (lexZ p).1, TokOk t) ∧ (lexZ p).1.length ≤ p.size ∧ (0 < (lexZ p).1.length ↔ 0 < p.size)) := by
  unfold lexZ
  rw [if_neg (by omega)]
  rcases few_F p (p.size + 1) 0 [] (by simp) (by simp) (by omega) with h | ⟨a, b, -, d⟩
  · exact .inl h
  · refine .inr ⟨a, b, d, ?_, ?_⟩
    · intro; omega
    · intro h0
      rw [lexF] at a ⊢
      rw [if_neg (by omega)] at a ⊢
      have hr := tok_res p 0 (by omega)
      split
      · rename_i he
        rw [if_pos he] at a
        exact absurd a he
      · rename_i he
        have he0 : (tokZ p 0).2.2 = 0 := by omega
        have hu := tok_up p 0 (by omega) he0
        have ht : TokOk (tokZ p 0).1 := by
          rcases hr with hr | hr | hr
          · omega
          · omega
          · exact hr.2
        rw [if_neg he] at a
        rcases few_F p p.size (tokZ p 0).2.1 ([] ++ [(tokZ p 0).1]) (by simpa using ht) (by simp; omega) (by omega) with h | ⟨-, -, c, -⟩
        · exfalso
          rcases h.2 with h | h <;> rw [h] at a <;> exact absurd a (by decide)
        · simp only [List.nil_append, List.length_cons, List.length_nil] at c ⊢
          omega
end Go.Proofs.YtfejdengpnikeaaGreatDoor

namespace Go.Proofs.YtfejdengpnikeaaGreatDoor

/-- The pattern p lies in r from n on, and no ? or + follows it. -/
structure Lies (p r : ByteArray) (n : Nat) : Prop where
  at_ : ∀ j, j < p.size → bt r (n + j) = bt p j
  m1 : bt r (n + p.size) ≠ 63
  m2 : bt r (n + p.size) ≠ 43
  sz : n + p.size ≤ r.size
variable {p r : ByteArray} {n : Nat}
theorem Lies.eq (h : Lies p r n) {j c : Nat} (hc : bt p j = c) (hn : c < 256) : bt r (n + j) = c := by
  rw [h.at_ j (bt_in (by omega)), hc]
theorem Lies.isD (h : Lies p r n) {j : Nat} (hj : j < p.size) : isD r (n + j) = Go.Proofs.YtfejdengpnikeaaGreatDoor.isD p j := by
  unfold Go.Proofs.YtfejdengpnikeaaGreatDoor.isD
  rw [h.at_ j hj]
theorem esc_loc (h : Lies p r n) {i : Nat} (he : (escZ p i).2 ≠ 0) : escZ r (n + i) = ((escZ p i).1, n + (escZ p i).2) := by
  by_cases h1 : p.size ≤ i + 1
  · exact absurd (show (escZ p i).2 = 0 by unfold escZ; rw [if_pos h1]) he
  · have h1r : ¬ r.size ≤ n + i + 1 := by have := h.sz; omega
    have b1 : bt r (n + i + 1) = bt p (i + 1) := h.at_ (i + 1) (by omega)
    unfold escZ at he ⊢
    rw [if_neg h1] at he ⊢
    rw [if_neg h1r, b1]
    cases hn : nameS (bt p (i + 1)) with
    | some S => rfl
    | none =>
      rw [hn] at he
      simp only [] at he ⊢
      by_cases hx : bt p (i + 1) = 120 ∧ i + 3 < p.size ∧ 0 ≤ hexZ (bt p (i + 2)) ∧ 0 ≤ hexZ (bt p (i + 3))
      · have b2 : bt r (n + i + 2) = bt p (i + 2) := h.at_ (i + 2) (by omega)
        have b3 : bt r (n + i + 3) = bt p (i + 3) := h.at_ (i + 3) (by omega)
        rw [if_pos hx, if_pos ⟨hx.1, by have := h.sz; omega, by rw [b2]; exact hx.2.2.1, by rw [b3]; exact hx.2.2.2⟩, b2, b3]
        rfl
      · rw [if_neg hx] at he ⊢
        by_cases hw : bt p (i + 1) = 95 ∨ mem wordS (bt p (i + 1)) = false
        · have h120 : bt p (i + 1) ≠ 120 := by
            intro e
            rw [e] at hw
            rcases hw with hw | hw
            · exact absurd hw (by decide)
            · exact absurd hw (by decide +kernel)
          rw [if_neg (fun hc => h120 hc.1)]
          simp only [if_pos hw, Nat.add_assoc]
        · rw [if_neg hw] at he
          exact absurd rfl he
theorem item_loc (h : Lies p r n) {i : Nat} (he : (itemZ p i).2 ≠ 0) : itemZ r (n + i) = ((itemZ p i).1, n + (itemZ p i).2) := by
  by_cases h1 : p.size ≤ i ∨ bt p i = 91 ∨ bt p i = 93 ∨ bt p i = 45
  · exact absurd (show (itemZ p i).2 = 0 by unfold itemZ; rw [if_pos h1]) he
  · have hi : i < p.size := by omega
    have b0 : bt r (n + i) = bt p i := h.at_ i hi
    have h2 : ¬ (r.size ≤ n + i ∨ bt r (n + i) = 91 ∨ bt r (n + i) = 93 ∨ bt r (n + i) = 45) := by rw [b0]; have := h.sz; omega
    unfold itemZ at he ⊢
    rw [if_neg h1] at he ⊢
    rw [if_neg h2, b0]
    by_cases h92 : bt p i = 92
    · rw [if_pos h92] at he ⊢
      rw [if_pos h92]
      exact esc_loc h he
    · rw [if_neg h92, if_neg h92]
      rfl
theorem cls_loc (h : Lies p r n) : ∀ (f a : Nat) (s : BitVec 256) (b : Bool) (x : BitVec 256 × Nat), a ≤ p.size → clsF p f a s b = some x → ∀ f', f ≤ f' → clsF r f' (n + a) s b = some (x.1, n + x.2)
  | 0, a, s, b, x, _, hc, _, _ => by cases hc
  | f + 1, a, s, b, x, ha, hc, f', hf => by
    obtain ⟨f', rfl⟩ : ∃ g, f' = g + 1 := ⟨f' - 1, by omega⟩
    have hup := cls_up p (f + 1) a s b x ha hc
    have ba : bt r (n + a) = bt p a := h.at_ a (by omega)
    rw [clsF] at hc ⊢
    rw [ba]
    by_cases h1 : b = false ∧ bt p a = 93
    · rw [if_pos h1] at hc ⊢
      obtain rfl := Option.some.inj hc
      rfl
    · rw [if_neg h1] at hc ⊢
      simp only [] at hc ⊢
      by_cases h2 : (itemZ p a).2 = 0
      · rw [if_pos h2] at hc; cases hc
      · rw [if_neg h2] at hc
        have hi := item_loc h h2
        have hu := (itemZ_up p a).resolve_left h2
        rw [hi]
        simp only []
        rw [if_neg (by omega)]
        by_cases h3 : bt p (itemZ p a).2 = 45
        · have b3 : bt r (n + (itemZ p a).2) = 45 := h.eq h3 (by decide)
          rw [if_pos h3] at hc
          rw [if_pos b3]
          by_cases h4 : (itemZ p ((itemZ p a).2 + 1)).2 = 0 ∨ lenS (itemZ p a).1 ≠ 1 ∨ lenS (itemZ p ((itemZ p a).2 + 1)).1 ≠ 1 ∨ minS (itemZ p ((itemZ p a).2 + 1)).1 < minS (itemZ p a).1
          · rw [if_pos h4] at hc; cases hc
          · rw [if_neg h4] at hc
            have h5 : (itemZ p ((itemZ p a).2 + 1)).2 ≠ 0 := fun e => h4 (.inl e)
            have hj := item_loc h h5
            have hv := (itemZ_up p ((itemZ p a).2 + 1)).resolve_left h5
            rw [show n + (itemZ p a).2 + 1 = n + ((itemZ p a).2 + 1) by omega, hj]
            simp only []
            rw [if_neg (by rintro (e | e); · omega
                           · exact h4 (.inr e))]
            exact cls_loc h f _ _ _ _ (by omega) hc f' (by omega)
        · rw [if_neg h3] at hc
          have hn := cls_up p f _ _ _ _ (by omega) hc
          rw [if_neg (by rw [h.at_ _ (by omega)]; exact h3)]
          exact cls_loc h f _ _ _ _ (by omega) hc f' (by omega)
theorem class_loc (h : Lies p r n) {i : Nat} (hi : i < p.size) (hb : bt p i = 91) (he : (classZ p i).2.2 = 0) : classZ r (n + i) = ((classZ p i).1, n + (classZ p i).2.1, 0) := by
  have b0 : bt r (n + i) = 91 := h.eq hb (by decide)
  have hs := h.sz
  rw [class_eq hi hb] at he ⊢
  rw [class_eq (p := r) (i := n + i) (by omega) b0]
  obtain ⟨a, ha⟩ : ∃ a, a = (if bt p (i + 1) = 94 then i + 2 else i + 1) := ⟨_, rfl⟩
  have hap : a ≤ p.size := by
    rw [ha]
    split
    · rename_i h2
      have := bt_in (p := p) (i := i + 1) (by omega)
      omega
    · omega
  rw [← ha] at he ⊢
  cases hc : clsF p (p.size + 1) a 0#256 true with
  | none => rw [hc] at he; exact absurd (show (3 : Int) = 0 from he) (by decide)
  | some x =>
    have hu := cls_up p _ _ _ _ _ hap hc
    have hi1 : i + 1 < p.size := by
      have : i + 1 ≤ a := by rw [ha]; split <;> omega
      omega
    have b1 : bt r (n + i + 1) = bt p (i + 1) := h.at_ (i + 1) hi1
    have har : (if bt r (n + i + 1) = 94 then n + i + 2 else n + i + 1) = n + a := by
      rw [b1, ha]
      split <;> omega
    rw [har, cls_loc h _ _ _ _ _ hap hc (r.size + 1) (by omega), b1]
    rfl
theorem count_loc (h : Lies p r n) {a : Nat} (hc : (countZ p a).2 < p.size) : countZ r (n + a) = ((countZ p a).1, n + (countZ p a).2) := by
  unfold countZ at hc ⊢
  by_cases h0 : isD p a = false
  · rw [if_pos h0] at hc ⊢
    rw [if_pos (by rw [h.isD hc]; exact h0)]
  · rw [if_neg h0] at hc ⊢
    have ha : a < p.size := by
      by_cases hl : a < p.size
      · exact hl
      · exact absurd (isD_no (by omega)) h0
    rw [if_neg (by rw [h.isD ha]; exact h0), h.at_ a ha]
    by_cases h1 : isD p (a + 1) = false
    · rw [if_pos h1] at hc ⊢
      rw [if_pos (by rw [show n + a + 1 = n + (a + 1) by omega, h.isD hc]; exact h1)]
      rfl
    · rw [if_neg h1] at hc ⊢
      have ha1 : a + 1 < p.size := by
        by_cases hl : a + 1 < p.size
        · exact hl
        · exact absurd (isD_no (by omega)) h1
      rw [if_neg (by rw [show n + a + 1 = n + (a + 1) by omega, h.isD ha1]; exact h1), show n + a + 1 = n + (a + 1) by omega, h.at_ _ ha1]
      by_cases h2 : isD p (a + 2) = false
      · rw [if_pos h2] at hc ⊢
        rw [if_pos (by rw [show n + a + 2 = n + (a + 2) by omega, h.isD hc]; exact h2)]
        rfl
      · rw [if_neg h2] at hc ⊢
        have ha2 : a + 2 < p.size := by
          by_cases hl : a + 2 < p.size
          · exact hl
          · exact absurd (isD_no (by omega)) h2
        rw [if_neg (by rw [show n + a + 2 = n + (a + 2) by omega, h.isD ha2]; exact h2), show n + a + 2 = n + (a + 2) by omega, h.at_ _ ha2]
        rfl
theorem Lies.md (h : Lies p r n) {j : Nat} (hj : j ≤ p.size) : mdV (bt r (n + j)) = mdV (bt p j) ∧ mdN (bt r (n + j)) = mdN (bt p j) := by
  by_cases hl : j < p.size
  · rw [h.at_ j hl]
    exact ⟨rfl, rfl⟩
  · obtain rfl : j = p.size := by omega
    have m1 := h.m1
    have m2 := h.m2
    rw [bt_no (p := p) (Nat.le_refl _)]
    unfold mdV mdN
    refine ⟨?_, ?_⟩
    · rw [if_neg m1, if_neg m2]; rfl
    · rw [if_neg (by omega)]; rfl
theorem braces_loc (h : Lies p r n) {i : Nat} (he : (bracesZ p i).2.2 = 0) : bracesZ r (n + i) = ((bracesZ p i).1, n + (bracesZ p i).2.1, 0) ∧ (bracesZ p i).2.1 ≤ p.size ∧ (bracesZ p i).1.md = 0 := by
  have hcs := count_spec p (i + 1)
  unfold bracesZ at he ⊢
  simp only [] at he ⊢
  by_cases h0 : (countZ p (i + 1)).2 = i + 1
  · rw [if_pos h0] at he
    exact absurd (show (3 : Int) = 0 from he) (by decide)
  · rw [if_neg h0] at he
    simp only [if_neg h0]
    obtain ⟨A, hA⟩ : ∃ A, A = countZ p (i + 1) := ⟨_, rfl⟩
    rw [← hA] at he h0 hcs ⊢
    by_cases h44 : bt p A.2 = 44
    · have hA2 : A.2 < p.size := bt_in (by omega)
      have cA : countZ r (n + i + 1) = (A.1, n + A.2) := by rw [show n + i + 1 = n + (i + 1) by omega, count_loc h (by rw [← hA]; exact hA2), ← hA]
      have bA : bt r (n + A.2) = 44 := h.eq h44 (by decide)
      rw [cA]
      simp only [if_pos h44] at he ⊢
      simp only [bA, if_true]
      obtain ⟨B, hB⟩ : ∃ B, B = countZ p (A.2 + 1) := ⟨_, rfl⟩
      rw [← hB] at he ⊢
      by_cases h125 : bt p B.2 ≠ 125
      · rw [if_pos h125] at he
        exact absurd (show (3 : Int) = 0 from he) (by decide)
      · rw [if_neg h125] at he
        have h125' : bt p B.2 = 125 := by omega
        have hB2 : B.2 < p.size := bt_in (by omega)
        have cB : countZ r (n + A.2 + 1) = (B.1, n + B.2) := by rw [show n + A.2 + 1 = n + (A.2 + 1) by omega, count_loc h (by rw [← hB]; exact hB2), ← hB]
        have bB : bt r (n + B.2) = 125 := h.eq h125' (by decide)
        rw [cB]
        simp only []
        have hv : (if n + B.2 = n + A.2 + 1 then (-1 : Int) else (B.1 : Int)) = (if B.2 = A.2 + 1 then (-1 : Int) else (B.1 : Int)) := by
          by_cases e : B.2 = A.2 + 1
          · rw [if_pos e, if_pos (by omega)]
          · rw [if_neg e, if_neg (by omega)]
        rw [hv, bB, if_neg (show ¬ n + A.2 = n + i + 1 by omega), if_neg (show ¬ (125 : Nat) ≠ 125 by decide), if_neg h125]
        generalize (if B.2 = A.2 + 1 then (-1 : Int) else (B.1 : Int)) = b at he ⊢
        by_cases h1 : 100 < A.1 ∨ 100 < b
        · rw [if_pos h1] at he
          exact absurd (show (4 : Int) = 0 from he) (by decide)
        · rw [if_neg h1] at he
          simp only [if_neg h1]
          by_cases h2 : 0 ≤ b ∧ b < A.1
          · rw [if_pos h2] at he
            exact absurd (show (3 : Int) = 0 from he) (by decide)
          · simp only [if_neg h2]
            exact ⟨rfl, hB2, rfl⟩
    · simp only [if_neg h44] at he ⊢
      by_cases h125 : bt p A.2 ≠ 125
      · rw [if_pos h125] at he
        exact absurd (show (3 : Int) = 0 from he) (by decide)
      · rw [if_neg h125] at he
        have h125' : bt p A.2 = 125 := by omega
        have hA2 : A.2 < p.size := bt_in (by omega)
        have cA : countZ r (n + i + 1) = (A.1, n + A.2) := by rw [show n + i + 1 = n + (i + 1) by omega, count_loc h (by rw [← hA]; exact hA2), ← hA]
        have bA : bt r (n + A.2) = 125 := h.eq h125' (by decide)
        rw [cA]
        simp only []
        rw [bA, if_neg (show ¬ n + A.2 = n + i + 1 by omega)]
        simp only [show ¬ (125 : Nat) = 44 by decide, if_false]
        rw [bA, if_neg (show ¬ (125 : Nat) ≠ 125 by decide), if_neg h125]
        by_cases h1 : 100 < A.1 ∨ 100 < (A.1 : Int)
        · rw [if_pos h1] at he
          exact absurd (show (4 : Int) = 0 from he) (by decide)
        · rw [if_neg h1] at he
          simp only [if_neg h1]
          by_cases h2 : 0 ≤ (A.1 : Int) ∧ (A.1 : Int) < A.1
          · omega
          · simp only [if_neg h2]
            exact ⟨rfl, hA2, rfl⟩
theorem quant_loc (h : Lies p r n) {i : Nat} (hi : i < p.size) (hq : bt p i = 42 ∨ bt p i = 43 ∨ bt p i = 63 ∨ bt p i = 123) (he : (quantZ p i).2.2 = 0) : quantZ r (n + i) = ((quantZ p i).1, n + (quantZ p i).2.1, 0) := by
  have b0 : bt r (n + i) = bt p i := h.at_ i hi
  have hm := h.md (j := i + 1) (by omega)
  rcases hq with hq | hq | hq | hq
  · rw [quant_42 hq, quant_42 (b0.trans hq), show n + i + 1 = n + (i + 1) by omega, hm.1, hm.2]
    simp only [Nat.add_assoc]
  · rw [quant_43 hq, quant_43 (b0.trans hq), show n + i + 1 = n + (i + 1) by omega, hm.1, hm.2]
    simp only [Nat.add_assoc]
  · rw [quant_63 hq, quant_63 (b0.trans hq), show n + i + 1 = n + (i + 1) by omega, hm.1, hm.2]
    simp only [Nat.add_assoc]
  · unfold quantZ at he ⊢
    rw [if_pos hq] at he ⊢
    rw [if_pos (b0.trans hq)]
    by_cases hb : (bracesZ p i).2.2 = 0
    · obtain ⟨h1, h2, h3⟩ := braces_loc h hb
      rw [if_pos hb, h1, if_pos rfl]
      have hm2 := h.md h2
      have e : bracesZ p i = ((bracesZ p i).1, (bracesZ p i).2.1, 0) := by rw [← hb]
      rw [mode_eq _ _ _ h3, hm2.1, hm2.2, e, mode_eq _ _ _ h3]
      simp only [Nat.add_assoc]
    · rw [if_neg hb] at he
      exact absurd he hb
theorem flags_loc (h : Lies p r n) : ∀ (f i : Nat) (l : List UInt8), (flagsF p f i l).2.2 = 0 → ∀ f', f ≤ f' → flagsF r f' (n + i) l = ((flagsF p f i l).1, n + (flagsF p f i l).2.1, 0)
  | 0, i, l, he, _, _ => absurd (show (3 : Int) = 0 from he) (by decide)
  | f + 1, i, l, he, f', hf => by
    obtain ⟨f', rfl⟩ : ∃ g, f' = g + 1 := ⟨f' - 1, by omega⟩
    by_cases hi : i < p.size
    · have hir : n + i < r.size := by have := h.sz; omega
      have b0 : bt r (n + i) = bt p i := h.at_ i hi
      have hu : r[n + i]'hir = p[i]'hi := by
        rw [bt_at hi, bt_at hir] at b0
        exact UInt8.toNat_inj.1 b0
      rw [flagsF, dif_pos hi] at he
      rw [flagsF, dif_pos hir, flagsF, dif_pos hi, b0, hu]
      by_cases h1 : bt p i = 58 ∧ l ≠ []
      · simp only [if_pos h1]
        rfl
      · rw [if_neg h1] at he
        simp only [if_neg h1]
        by_cases h2 : bt p i ≠ 105 ∧ bt p i ≠ 109 ∧ bt p i ≠ 115
        · rw [if_pos h2] at he
          exact absurd (show (3 : Int) = 0 from he) (by decide)
        · rw [if_neg h2] at he
          simp only [if_neg h2]
          by_cases h3 : p[i]'hi ∈ l
          · rw [if_pos h3] at he
            exact absurd (show (3 : Int) = 0 from he) (by decide)
          · rw [if_neg h3] at he
            simp only [if_neg h3]
            exact flags_loc h f (i + 1) _ he f' (by omega)
    · rw [flagsF, dif_neg hi] at he
      exact absurd (show (3 : Int) = 0 from he) (by decide)
theorem flags_at_end (p : ByteArray) (f i : Nat) (l : List UInt8) (hb : bt p i = 256 ∨ bt p i = 60) : (flagsF p f i l).2.2 ≠ 0 := by
  cases f with
  | zero => exact fun h => absurd (show (3 : Int) = 0 from h) (by decide)
  | succ f =>
    rw [flagsF]
    split
    · rw [if_neg (by omega), if_pos (by omega)]
      exact fun h => absurd (show (3 : Int) = 0 from h) (by decide)
    · exact fun h => absurd (show (3 : Int) = 0 from h) (by decide)
theorem open_loc (h : Lies p r n) {i : Nat} (hi : i < p.size) (h40 : bt p i = 40) (he : (tokZ p i).2.2 = 0) : tokZ r (n + i) = ((tokZ p i).1, n + (tokZ p i).2.1, 0) := by
  have r40 : bt r (n + i) = 40 := h.eq h40 (by decide)
  by_cases h63 : bt p (i + 1) = 63
  · have r63 : bt r (n + i + 1) = 63 := by rw [show n + i + 1 = n + (i + 1) by omega]; exact h.eq h63 (by decide)
    rw [tok_open2 h40 h63] at he ⊢
    rw [tok_open2 r40 r63]
    by_cases hl : i + 2 < p.size
    · have b2 : bt r (n + i + 2) = bt p (i + 2) := h.at_ (i + 2) hl
      rw [b2]
      have hfl := fun he => flags_loc h (p.size + 1) (i + 2) [] he (r.size + 1) (by have := h.sz; omega)
      rw [show n + (i + 2) = n + i + 2 by omega] at hfl
      by_cases a : bt p (i + 2) = 58
      · simp only [if_pos a]; simp [Nat.add_assoc]
      simp only [if_neg a] at he ⊢
      by_cases b : bt p (i + 2) = 61
      · simp only [if_pos b]; simp [Nat.add_assoc]
      simp only [if_neg b] at he ⊢
      by_cases c : bt p (i + 2) = 33
      · simp only [if_pos c]; simp [Nat.add_assoc]
      simp only [if_neg c] at he ⊢
      by_cases d : bt p (i + 2) = 60
      · by_cases hl3 : i + 3 < p.size
        · have b3 : bt r (n + i + 3) = bt p (i + 3) := h.at_ (i + 3) hl3
          rw [b3]
          by_cases e : bt p (i + 3) = 61
          · simp only [d, e, and_self, if_true]; simp [Nat.add_assoc]
          · by_cases f : bt p (i + 3) = 33
            · simp only [d, f, and_true, if_true, and_false, if_false, show ¬ (33 : Nat) = 61 by decide]; simp [Nat.add_assoc]
            · simp only [d, e, f, and_false, if_false, show ¬ (60 : Nat) = 62 by decide] at he
              exact absurd he (flags_at_end p _ _ _ (.inr d))
        · have e3 : bt p (i + 3) = 256 := bt_no (by omega)
          simp only [d, e3, show ¬ (256 : Nat) = 61 by decide, show ¬ (256 : Nat) = 33 by decide, and_false, if_false, show ¬ (60 : Nat) = 62 by decide] at he
          exact absurd he (flags_at_end p _ _ _ (.inr d))
      · simp only [d, false_and, if_false] at he ⊢
        by_cases e : bt p (i + 2) = 62
        · simp only [if_pos e]; simp [Nat.add_assoc]
        · simp only [if_neg e] at he ⊢
          exact hfl he
    · have e2 : bt p (i + 2) = 256 := bt_no (by omega)
      simp only [e2, show ¬ (256 : Nat) = 58 by decide, show ¬ (256 : Nat) = 61 by decide, show ¬ (256 : Nat) = 33 by decide, show ¬ (256 : Nat) = 60 by decide, show ¬ (256 : Nat) = 62 by decide, false_and, if_false] at he
      exact absurd he (flags_at_end p _ _ _ (.inl e2))
  · have r63 : bt r (n + i + 1) ≠ 63 := by
      rw [show n + i + 1 = n + (i + 1) by omega]
      by_cases hl : i + 1 < p.size
      · rw [h.at_ _ hl]; exact h63
      · rw [show i + 1 = p.size by omega]; exact h.m1
    rw [tok_open h40 h63, tok_open r40 r63]
    rfl
theorem escape_loc (h : Lies p r n) {i : Nat} (h92 : bt p i = 92) (he : (tokZ p i).2.2 = 0) : tokZ r (n + i) = ((tokZ p i).1, n + (tokZ p i).2.1, 0) := by
  have r92 : bt r (n + i) = 92 := h.eq h92 (by decide)
  rw [tok_esc h92] at he ⊢
  rw [tok_esc r92]
  by_cases hl : i + 1 < p.size
  · have b1 : bt r (n + i + 1) = bt p (i + 1) := h.at_ (i + 1) hl
    rw [b1]
    by_cases a : bt p (i + 1) = 98
    · simp only [if_pos a]; simp [Nat.add_assoc]
    simp only [if_neg a] at he ⊢
    by_cases b : bt p (i + 1) = 66
    · simp only [if_pos b]; simp [Nat.add_assoc]
    simp only [if_neg b] at he ⊢
    by_cases c : 49 ≤ bt p (i + 1) ∧ bt p (i + 1) ≤ 57
    · simp only [if_pos c]; simp [Nat.add_assoc]
    simp only [if_neg c] at he ⊢
    by_cases d : (escZ p i).2 = 0
    · rw [if_pos d] at he
      exact absurd (show (3 : Int) = 0 from he) (by decide)
    · have hu := (escZ_up p i).resolve_left d
      rw [esc_loc h d]
      simp only [if_neg d]
      rw [if_neg (show ¬ n + (escZ p i).2 = 0 by omega)]
  · have e1 : bt p (i + 1) = 256 := bt_no (by omega)
    have d : (escZ p i).2 = 0 := by unfold escZ; rw [if_pos (by omega)]
    simp only [e1, d, show ¬ (256 : Nat) = 98 by decide, show ¬ (256 : Nat) = 66 by decide, show ¬ (49 ≤ 256 ∧ 256 ≤ 57) by decide, if_false, if_true] at he
    exact absurd (show (3 : Int) = 0 from he) (by decide)
theorem tok_loc (h : Lies p r n) {i : Nat} (hi : i < p.size) (he : (tokZ p i).2.2 = 0) : tokZ r (n + i) = ((tokZ p i).1, n + (tokZ p i).2.1, 0) := by
  have b0 : bt r (n + i) = bt p i := h.at_ i hi
  by_cases h46 : bt p i = 46
  · rw [tok_46 h46, tok_46 (b0.trans h46)]; rfl
  by_cases h94 : bt p i = 94
  · rw [tok_94 h94, tok_94 (b0.trans h94)]; rfl
  by_cases h36 : bt p i = 36
  · rw [tok_36 h36, tok_36 (b0.trans h36)]; rfl
  by_cases h124 : bt p i = 124
  · rw [tok_124 h124, tok_124 (b0.trans h124)]; rfl
  by_cases h41 : bt p i = 41
  · rw [tok_41 h41, tok_41 (b0.trans h41)]; rfl
  by_cases h93 : bt p i = 93
  · rw [tok_93 h93] at he; exact absurd (show (3 : Int) = 0 from he) (by decide)
  by_cases h125 : bt p i = 125
  · rw [tok_125 h125] at he; exact absurd (show (3 : Int) = 0 from he) (by decide)
  by_cases h91 : bt p i = 91
  · rw [tok_91 h91] at he ⊢
    rw [tok_91 (b0.trans h91), class_loc h hi h91 he]
  by_cases h40 : bt p i = 40
  · exact open_loc h hi h40 he
  by_cases hq : bt p i = 42 ∨ bt p i = 43 ∨ bt p i = 63 ∨ bt p i = 123
  · rw [tok_quant hq] at he ⊢
    rw [tok_quant (by rw [b0]; exact hq)]
    exact quant_loc h hi hq he
  by_cases h92 : bt p i = 92
  · exact escape_loc h h92 he
  · have hno : ∀ c ∈ [46, 94, 36, 124, 41, 40, 42, 43, 63, 123, 91, 93, 125, 92], bt p i ≠ c := by
      simp only [List.mem_cons, List.mem_nil_iff, or_false, forall_eq_or_imp, forall_eq]
      omega
    rw [tok_byte hno, tok_byte (by rw [b0]; exact hno), b0]
    rfl
/-- The tokens of p are gone through where p lies in r. -/
theorem lex_loc (h : Lies p r n) (m : List Tok) : ∀ (f i : Nat) (l b : List Tok), i ≤ p.size → p.size + 1 ≤ f + i → lexF p f i l = (b, 0) → LexI r (n + i) (m ++ l) → LexI r (n + p.size) (m ++ b)
  | 0, i, l, b, hi, hf, _, _ => by omega
  | f + 1, i, l, b, hi, hf, he, hI => by
    rw [lexF] at he
    by_cases hl : p.size ≤ i
    · rw [if_pos hl] at he
      obtain rfl : l = b := congrArg Prod.fst he
      obtain rfl : i = p.size := by omega
      exact hI
    · rw [if_neg hl] at he
      by_cases h0 : (tokZ p i).2.2 ≠ 0
      · rw [if_pos h0] at he
        exact absurd (show (tokZ p i).2.2 = 0 from congrArg Prod.snd he) h0
      · rw [if_neg h0] at he
        have h0' : (tokZ p i).2.2 = 0 := by omega
        have hu := tok_up p i (by omega) h0'
        have ht := tok_loc h (i := i) (by omega) h0'
        have hs := h.sz
        have hn := lex_next hI (by omega) (by rw [ht]) (by rw [ht]; show n + i + 1 ≤ n + _; omega)
        rw [ht, List.append_assoc] at hn
        exact lex_loc h m f _ _ b (by omega) (by omega) he hn
theorem lex_err {p : ByteArray} (h : (lexZ p).2 ≠ 0) : (lexZ p).1 = [] := by
  have H : ∀ (f i : Nat) (l : List Tok), (lexF p f i l).2 ≠ 0 → (lexF p f i l).1 = [] := by
    intro f
    induction f with
    | zero => intro i l h; exact absurd rfl h
    | succ f ih =>
      intro i l h
      rw [lexF] at h ⊢
      by_cases h1 : p.size ≤ i
      · rw [if_pos h1] at h; exact absurd rfl h
      · rw [if_neg h1] at h ⊢
        by_cases h2 : (tokZ p i).2.2 ≠ 0
        · rw [if_pos h2]
        · rw [if_neg h2] at h ⊢; exact ih _ _ h
  unfold lexZ at h ⊢
  by_cases h1 : 1000 < p.size
  · rw [if_pos h1]
  · rw [if_neg h1] at h ⊢; exact H _ _ _ h
theorem bt_left (p q : ByteArray) {j : Nat} (hj : j < p.size) : bt (p ++ q) j = bt p j := by
  have h2 : j < (p ++ q).size := by rw [ByteArray.size_append]; omega
  rw [bt_at hj, bt_at h2, ByteArray.getElem_append_left hj]
theorem bt_right (p q : ByteArray) (j : Nat) : bt (p ++ q) (p.size + j) = bt q j := by
  by_cases hj : j < q.size
  · have h2 : p.size + j < (p ++ q).size := by rw [ByteArray.size_append]; omega
    rw [bt_at hj, bt_at h2, ByteArray.getElem_append_right (by omega)]
    congr 2
    omega
  · rw [bt_no (by rw [ByteArray.size_append]; omega), bt_no (by omega)]
/-- The tokens of two patterns, one behind the other. -/
theorem lex_join (p q : ByteArray) (a b : List Tok) (hs : p.size + q.size ≤ 1000) (h1 : bt q 0 ≠ 63) (h2 : bt q 0 ≠ 43) (ha : lexZ p = (a, 0)) (hb : lexZ q = (b, 0)) : lexZ (p ++ q) = (a ++ b, 0) := by
  have hz : (p ++ q).size = p.size + q.size := ByteArray.size_append
  have hp : Lies p (p ++ q) 0 := ⟨fun j hj => by rw [Nat.zero_add]; exact bt_left p q hj, by rw [Nat.zero_add]; have := bt_right p q 0; rw [Nat.add_zero] at this; rw [this]; exact h1, by rw [Nat.zero_add]; have := bt_right p q 0; rw [Nat.add_zero] at this; rw [this]; exact h2, by omega⟩
  have he : bt (p ++ q) (p.size + q.size) = 256 := bt_no (by omega)
  have hq : Lies q (p ++ q) p.size := ⟨fun j _ => bt_right p q j, by rw [he]; decide, by rw [he]; decide, by omega⟩
  unfold lexZ at ha hb ⊢
  rw [if_neg (by omega)] at ha hb ⊢
  have s1 := lex_loc hp [] (p.size + 1) 0 [] a (Nat.zero_le _) (by omega) ha (lex_0 _)
  rw [Nat.zero_add, List.nil_append] at s1
  have s2 := lex_loc hq a (q.size + 1) 0 [] b (Nat.zero_le _) (by omega) hb (by rw [List.append_nil, Nat.add_zero]; exact s1)
  exact lex_end s2 (by omega)
end Go.Proofs.YtfejdengpnikeaaGreatDoor

namespace Go.Proofs.YtfejdengpnikeaaGreatDoor
open Ast (Nd joinL wrapL deepZ rightZ cntG)

/-- What a Quant behind a piece makes; what the end of an opening makes. -/
def endQ (t : Tr) (g : Nat) : List Tok → Rd
  | [] => .got t g []
  | x :: r => if x.k = 16 then shal (wrapT t (repN x)) g r else .got t g (x :: r)
def endW (t : Tr) (g : Nat) : List Tok → Rd
  | [] => .out
  | _ :: r => .got t g r
theorem altF_s (n : Nat) (f : ByteArray) (g : Nat) (l : List Tok) : altF (n + 1) f g l = (rowF n f g l).next fun t g l => altsF n f t g l := by rw [altF]
theorem altsF_s (n : Nat) (f : ByteArray) (t : Tr) (g : Nat) (l : List Tok) : altsF (n + 1) f t g l = if kindZ l = 6 then (rowF n f g l.tail).next fun u g l => (shal (joinT t u 9) g l).next fun t g l => altsF n f t g l else .got t g l := by rw [altsF]
theorem rowF_s (n : Nat) (f : ByteArray) (g : Nat) (l : List Tok) : rowF (n + 1) f g l = if kindZ l = 6 ∨ kindZ l = 15 then .got (leafT (nd0 0)) g l else (itemF n f g l).next fun t g l => itemsF n f t g l := by rw [rowF]
theorem itemsF_s (n : Nat) (f : ByteArray) (t : Tr) (g : Nat) (l : List Tok) : itemsF (n + 1) f t g l = if kindZ l = 6 ∨ kindZ l = 15 then .got t g l else (itemF n f g l).next fun u g l => (shal (joinT t u 8) g l).next fun t g l => itemsF n f t g l := by rw [itemsF]
theorem itemF_s (n : Nat) (f : ByteArray) (g : Nat) (l : List Tok) : itemF (n + 1) f g l = (pieceF n f g l).next endQ := by
  rw [itemF]
  congr 1
theorem withF_s (n : Nat) (f : ByteArray) (g : Nat) (l : List Tok) : withF (n + 1) f g l = (altF n f g l).next endW := by
  rw [withF]
  congr 1
theorem pieceF_0 (n : Nat) (f : ByteArray) (g : Nat) : pieceF n f g [] = .out := by cases n <;> rw [pieceF]
theorem pieceF_s (n : Nat) (f : ByteArray) (g : Nat) (t : Tok) (l : List Tok) : pieceF (n + 1) f g (t :: l) = if opens t.k = false then .got (leafT (leafN f t)) g l else if t.k = 8 ∨ t.k = 14 then withF n (f ++ t.f) g l else (withF n (f ++ t.f) (aroundG t.k g) l).next fun u g' l' => shal (wrapT u (aroundN t.k g)) g' l' := by rw [pieceF]
theorem next_more {r s : Rd} {f h : Tr → Nat → List Tok → Rd} (hr : r ≠ .out → s = r) (hf : ∀ t g l, f t g l ≠ .out → h t g l = f t g l) (ho : r.next f ≠ .out) : s.next h = r.next f := by
  cases r with
  | out => exact absurd rfl ho
  | deep => rw [hr (by intro h; cases h)]; rfl
  | got t g l => rw [hr (by intro h; cases h)]; exact hf t g l ho
theorem shal_no {t : Tr} {g : Nat} {l : List Tok} (h : 40 < deepZ t.2 t.1) (f : Tr → Nat → List Tok → Rd) : (shal t g l).next f = .deep := by unfold shal; rw [if_pos h]; rfl
theorem shal_yes {t : Tr} {g : Nat} {l : List Tok} (h : ¬ 40 < deepZ t.2 t.1) (f : Tr → Nat → List Tok → Rd) : (shal t g l).next f = f t g l := by unfold shal; rw [if_neg h]; rfl
theorem rd_more : ∀ n,
    (∀ f g l, altF n f g l ≠ .out → altF (n + 1) f g l = altF n f g l) ∧
    (∀ f t g l, altsF n f t g l ≠ .out → altsF (n + 1) f t g l = altsF n f t g l) ∧
    (∀ f g l, rowF n f g l ≠ .out → rowF (n + 1) f g l = rowF n f g l) ∧
    (∀ f t g l, itemsF n f t g l ≠ .out → itemsF (n + 1) f t g l = itemsF n f t g l) ∧
    (∀ f g l, itemF n f g l ≠ .out → itemF (n + 1) f g l = itemF n f g l) ∧
    (∀ f g l, pieceF n f g l ≠ .out → pieceF (n + 1) f g l = pieceF n f g l) ∧
    (∀ f g l, withF n f g l ≠ .out → withF (n + 1) f g l = withF n f g l) := by
  intro n
  induction n with
  | zero => exact ⟨fun f g l h => absurd (by rw [altF]) h, fun f t g l h => absurd (by rw [altsF]) h, fun f g l h => absurd (by rw [rowF]) h, fun f t g l h => absurd (by rw [itemsF]) h, fun f g l h => absurd (by rw [itemF]) h, fun f g l h => absurd (by rw [pieceF]) h, fun f g l h => absurd (by rw [withF]) h⟩
  | succ n ih =>
    obtain ⟨i1, i2, i3, i4, i5, i6, i7⟩ := ih
    refine ⟨?_, ?_, ?_, ?_, ?_, ?_, ?_⟩
    · intro f g l h
      rw [altF_s n] at h
      rw [altF_s (n + 1), altF_s n]
      exact next_more (i3 f g l) (fun t g l => i2 f t g l) h
    · intro f t g l h
      rw [altsF_s n] at h
      rw [altsF_s (n + 1), altsF_s n]
      by_cases hk : kindZ l = 6
      · rw [if_pos hk] at h
        rw [if_pos hk, if_pos hk]
        exact next_more (i3 f g l.tail) (fun u g l h2 => next_more (fun _ => rfl) (fun t g l => i2 f t g l) h2) h
      · rw [if_neg hk, if_neg hk]
    · intro f g l h
      rw [rowF_s n] at h
      rw [rowF_s (n + 1), rowF_s n]
      by_cases hk : kindZ l = 6 ∨ kindZ l = 15
      · rw [if_pos hk, if_pos hk]
      · rw [if_neg hk] at h
        rw [if_neg hk, if_neg hk]
        exact next_more (i5 f g l) (fun t g l => i4 f t g l) h
    · intro f t g l h
      rw [itemsF_s n] at h
      rw [itemsF_s (n + 1), itemsF_s n]
      by_cases hk : kindZ l = 6 ∨ kindZ l = 15
      · rw [if_pos hk, if_pos hk]
      · rw [if_neg hk] at h
        rw [if_neg hk, if_neg hk]
        exact next_more (i5 f g l) (fun u g l h2 => next_more (fun _ => rfl) (fun t g l => i4 f t g l) h2) h
    · intro f g l h
      rw [itemF_s n] at h
      rw [itemF_s (n + 1), itemF_s n]
      exact next_more (i6 f g l) (fun _ _ _ _ => rfl) h
    · intro f g l h
      cases l with
      | nil => exact absurd (pieceF_0 _ _ _) h
      | cons t l =>
        rw [pieceF_s n] at h
        rw [pieceF_s (n + 1), pieceF_s n]
        by_cases ho : opens t.k = false
        · rw [if_pos ho, if_pos ho]
        · rw [if_neg ho] at h
          rw [if_neg ho, if_neg ho]
          by_cases hk : t.k = 8 ∨ t.k = 14
          · rw [if_pos hk] at h
            rw [if_pos hk, if_pos hk]
            exact i7 _ _ _ h
          · rw [if_neg hk] at h
            rw [if_neg hk, if_neg hk]
            exact next_more (i7 _ _ _) (fun _ _ _ _ => rfl) h
    · intro f g l h
      rw [withF_s n] at h
      rw [withF_s (n + 1), withF_s n]
      exact next_more (i1 f g l) (fun _ _ _ _ => rfl) h
theorem alt_up {n : Nat} {f : ByteArray} {g : Nat} {l : List Tok} (h : altF n f g l ≠ .out) : ∀ d, altF (n + d) f g l = altF n f g l
  | 0 => rfl
  | d + 1 => by
    rw [← alt_up h d]
    exact (rd_more (n + d)).1 f g l (by rw [alt_up h d]; exact h)
theorem alt_le {n m : Nat} {f : ByteArray} {g : Nat} {l : List Tok} (h : altF n f g l ≠ .out) (hm : n ≤ m) : altF m f g l = altF n f g l := by
  have := alt_up h (m - n)
  rwa [show n + (m - n) = m by omega] at this

theorem kind_app {x : List Tok} (hx : kindZ x = 15) (l : List Tok) : kindZ (l ++ x) = kindZ l := by
  cases l with
  | nil => exact hx
  | cons t l => rfl
theorem shal_app {t u : Tr} {g c : Nat} {l k : List Tok} (x : List Tok) (h : shal t g l = .got u c k) : shal t g (l ++ x) = .got u c (k ++ x) := by
  unfold shal at h ⊢
  split at h
  · cases h
  · rename_i hd
    cases h
    rw [if_neg hd]
/-- What is read does not hang on what stands behind, if that is an end. -/
theorem rd_app {x : List Tok} (hx : kindZ x = 15) : ∀ n,
    (∀ f g l t g' l', altF n f g l = .got t g' l' → altF n f g (l ++ x) = .got t g' (l' ++ x)) ∧
    (∀ f t0 g l t g' l', altsF n f t0 g l = .got t g' l' → altsF n f t0 g (l ++ x) = .got t g' (l' ++ x)) ∧
    (∀ f g l t g' l', rowF n f g l = .got t g' l' → rowF n f g (l ++ x) = .got t g' (l' ++ x)) ∧
    (∀ f t0 g l t g' l', itemsF n f t0 g l = .got t g' l' → itemsF n f t0 g (l ++ x) = .got t g' (l' ++ x)) ∧
    (∀ f g l t g' l', itemF n f g l = .got t g' l' → itemF n f g (l ++ x) = .got t g' (l' ++ x)) ∧
    (∀ f g l t g' l', pieceF n f g l = .got t g' l' → pieceF n f g (l ++ x) = .got t g' (l' ++ x)) ∧
    (∀ f g l t g' l', withF n f g l = .got t g' l' → withF n f g (l ++ x) = .got t g' (l' ++ x)) := by
  intro n
  induction n with
  | zero => exact ⟨fun f g l t g' l' h => (by rw [altF] at h; cases h), fun f t0 g l t g' l' h => (by rw [altsF] at h; cases h), fun f g l t g' l' h => (by rw [rowF] at h; cases h), fun f t0 g l t g' l' h => (by rw [itemsF] at h; cases h), fun f g l t g' l' h => (by rw [itemF] at h; cases h), fun f g l t g' l' h => (by rw [pieceF] at h; cases h), fun f g l t g' l' h => (by rw [withF] at h; cases h)⟩
  | succ n ih =>
    obtain ⟨i1, i2, i3, i4, i5, i6, i7⟩ := ih
    refine ⟨?_, ?_, ?_, ?_, ?_, ?_, ?_⟩
    · intro f g l t g' l' h
      rw [altF_s] at h ⊢
      obtain ⟨t1, g1, l1, h1, h2⟩ := next_got h
      rw [i3 _ _ _ _ _ _ h1]
      exact i2 _ _ _ _ _ _ _ h2
    · intro f t0 g l t g' l' h
      rw [altsF_s] at h ⊢
      rw [kind_app hx]
      by_cases hk : kindZ l = 6
      · rw [if_pos hk] at h ⊢
        have ht : (l ++ x).tail = l.tail ++ x := by
          cases l with
          | nil => exact absurd hk (by decide)
          | cons y r => rfl
        obtain ⟨t1, g1, l1, h1, h2⟩ := next_got h
        obtain ⟨t2, g2, l2, h3, h4⟩ := next_got h2
        rw [ht, i3 _ _ _ _ _ _ h1]
        show (shal _ _ _).next _ = _
        rw [shal_app x h3]
        exact i2 _ _ _ _ _ _ _ h4
      · rw [if_neg hk] at h ⊢
        cases h
        rfl
    · intro f g l t g' l' h
      rw [rowF_s] at h ⊢
      rw [kind_app hx]
      by_cases hk : kindZ l = 6 ∨ kindZ l = 15
      · rw [if_pos hk] at h ⊢
        cases h
        rfl
      · rw [if_neg hk] at h ⊢
        obtain ⟨t1, g1, l1, h1, h2⟩ := next_got h
        rw [i5 _ _ _ _ _ _ h1]
        exact i4 _ _ _ _ _ _ _ h2
    · intro f t0 g l t g' l' h
      rw [itemsF_s] at h ⊢
      rw [kind_app hx]
      by_cases hk : kindZ l = 6 ∨ kindZ l = 15
      · rw [if_pos hk] at h ⊢
        cases h
        rfl
      · rw [if_neg hk] at h ⊢
        obtain ⟨t1, g1, l1, h1, h2⟩ := next_got h
        obtain ⟨t2, g2, l2, h3, h4⟩ := next_got h2
        rw [i5 _ _ _ _ _ _ h1]
        show (shal _ _ _).next _ = _
        rw [shal_app x h3]
        exact i4 _ _ _ _ _ _ _ h4
    · intro f g l t g' l' h
      rw [itemF_s] at h ⊢
      obtain ⟨t1, g1, l1, h1, h2⟩ := next_got h
      rw [i6 _ _ _ _ _ _ h1]
      show endQ t1 g1 (l1 ++ x) = _
      cases l1 with
      | nil =>
        cases h2
        cases x with
        | nil => rfl
        | cons y r =>
          have hy : y.k = 15 := hx
          show (if y.k = 16 then _ else _) = _
          rw [if_neg (by omega)]
          rfl
      | cons y r =>
        rw [endQ] at h2
        show (if y.k = 16 then _ else _) = _
        by_cases hy : y.k = 16
        · rw [if_pos hy] at h2 ⊢
          exact shal_app x h2
        · rw [if_neg hy] at h2 ⊢
          cases h2
          rfl
    · intro f g l t g' l' h
      cases l with
      | nil => rw [pieceF_0] at h; cases h
      | cons y r =>
        rw [pieceF_s] at h
        rw [List.cons_append, pieceF_s]
        by_cases ho : opens y.k = false
        · rw [if_pos ho] at h ⊢
          cases h
          rfl
        · rw [if_neg ho] at h ⊢
          by_cases hk : y.k = 8 ∨ y.k = 14
          · rw [if_pos hk] at h ⊢
            exact i7 _ _ _ _ _ _ h
          · rw [if_neg hk] at h ⊢
            obtain ⟨t1, g1, l1, h1, h2⟩ := next_got h
            rw [i7 _ _ _ _ _ _ h1]
            exact shal_app x h2
    · intro f g l t g' l' h
      rw [withF_s] at h ⊢
      obtain ⟨t1, g1, l1, h1, h2⟩ := next_got h
      rw [i1 _ _ _ _ _ _ h1]
      cases l1 with
      | nil => cases h2
      | cons y r =>
        cases h2
        rfl

/-- How many groups a tree has. -/
def cntT (t : Tr) : Nat := cntG t.2 t.1
theorem cnt_leaf (f : ByteArray) (t : Tok) : cntT (leafT (leafN f t)) = 0 := by
  have h : (leafN f t).k ≠ 11 := by
    unfold leafN
    (repeat' split) <;> simp [setN, nd0]
  show cntG (fun _ => leafN f t) 1 = 0
  simp [cntG, h]
theorem cnt_join (a b : Tr) (k : Int) (hk : k ≠ 11) : cntT (joinT a b k) = cntT a + cntT b := Ast.join_cnt a.2 b.2 a.1 b.1 k hk
theorem cnt_wrap (a : Tr) (x : Nd) : cntT (wrapT a x) = cntT a + if x.k = 11 then 1 else 0 := by
  show cntG (wrapL a.2 a.1 x) (a.1 + 1) = _
  rw [cntG, Ast.cnt_congr a.1 (l := a.2) fun i hi => by unfold wrapL; rw [if_pos hi], Ast.wrap_top]
  rfl
theorem cnt_rep (a : Tr) (x : Tok) : cntT (wrapT a (repN x)) = cntT a := by
  rw [cnt_wrap, if_neg (by simp [repN, nd0])]
  rfl
theorem cnt_around (a : Tr) (k : Int) (g : Nat) : aroundG k g + cntT a = g + cntT (wrapT a (aroundN k g)) := by
  rw [cnt_wrap]
  unfold aroundG aroundN
  by_cases h : 9 ≤ k ∧ k ≤ 13
  · rw [if_pos h, if_pos h, if_neg (show ¬ (nd0 (k + 4)).k = 11 by show ¬ k + 4 = 11; omega)]
    omega
  · rw [if_neg h, if_neg h]
    show g + 1 + cntT a = g + (cntT a + 1)
    omega
theorem shal_eq {t u : Tr} {g c : Nat} {l k : List Tok} (h : shal t g l = .got u c k) (c' : Nat) : shal t c' l = .got u c' k := by
  unfold shal at h ⊢
  split at h
  · cases h
  · rename_i hd
    cases h
    rw [if_neg hd]
/-- How many groups are read; where there are none it makes no difference how many stand ahead. -/
theorem rd_grp : ∀ n,
    (∀ f g l t g' l', altF n f g l = .got t g' l' → g' = g + cntT t ∧ (cntT t = 0 → ∀ c, altF n f c l = .got t c l')) ∧
    (∀ f t0 g l t g' l', altsF n f t0 g l = .got t g' l' → g' + cntT t0 = g + cntT t ∧ cntT t0 ≤ cntT t ∧ (cntT t = cntT t0 → ∀ c, altsF n f t0 c l = .got t c l')) ∧
    (∀ f g l t g' l', rowF n f g l = .got t g' l' → g' = g + cntT t ∧ (cntT t = 0 → ∀ c, rowF n f c l = .got t c l')) ∧
    (∀ f t0 g l t g' l', itemsF n f t0 g l = .got t g' l' → g' + cntT t0 = g + cntT t ∧ cntT t0 ≤ cntT t ∧ (cntT t = cntT t0 → ∀ c, itemsF n f t0 c l = .got t c l')) ∧
    (∀ f g l t g' l', itemF n f g l = .got t g' l' → g' = g + cntT t ∧ (cntT t = 0 → ∀ c, itemF n f c l = .got t c l')) ∧
    (∀ f g l t g' l', pieceF n f g l = .got t g' l' → g' = g + cntT t ∧ (cntT t = 0 → ∀ c, pieceF n f c l = .got t c l')) ∧
    (∀ f g l t g' l', withF n f g l = .got t g' l' → g' = g + cntT t ∧ (cntT t = 0 → ∀ c, withF n f c l = .got t c l')) := by
  intro n
  induction n with
  | zero => exact ⟨fun f g l t g' l' h => (by rw [altF] at h; cases h), fun f t0 g l t g' l' h => (by rw [altsF] at h; cases h), fun f g l t g' l' h => (by rw [rowF] at h; cases h), fun f t0 g l t g' l' h => (by rw [itemsF] at h; cases h), fun f g l t g' l' h => (by rw [itemF] at h; cases h), fun f g l t g' l' h => (by rw [pieceF] at h; cases h), fun f g l t g' l' h => (by rw [withF] at h; cases h)⟩
  | succ n ih =>
    obtain ⟨i1, i2, i3, i4, i5, i6, i7⟩ := ih
    have R := rd_part n
    refine ⟨?_, ?_, ?_, ?_, ?_, ?_, ?_⟩
    · intro f g l t g' l' h
      rw [altF_s] at h
      obtain ⟨t1, g1, l1, h1, h2⟩ := next_got h
      obtain ⟨e1, c1⟩ := i3 _ _ _ _ _ _ h1
      obtain ⟨e2, hm, c2⟩ := i2 _ _ _ _ _ _ _ h2
      refine ⟨by omega, fun h0 c => ?_⟩
      rw [altF_s, c1 (by omega) c]
      exact c2 (by omega) c
    · intro f t0 g l t g' l' h
      rw [altsF_s] at h
      by_cases hk : kindZ l = 6
      · rw [if_pos hk] at h
        obtain ⟨t1, g1, l1, h1, h2⟩ := next_got h
        obtain ⟨t2, g2, l2, h3, h4⟩ := next_got h2
        obtain ⟨e1, c1⟩ := i3 _ _ _ _ _ _ h1
        obtain ⟨e2, hm, c2⟩ := i2 _ _ _ _ _ _ _ h4
        have h5 := shal_eq h3
        obtain ⟨rfl, rfl, rfl⟩ := shal_got h3
        rw [cnt_join _ _ _ (by decide)] at e2 c2 hm
        refine ⟨by omega, by omega, fun h0 c => ?_⟩
        rw [altsF_s, if_pos hk, c1 (by omega) c]
        show (shal _ _ _).next _ = _
        rw [h5 c]
        exact c2 (by omega) c
      · rw [if_neg hk] at h
        cases h
        exact ⟨rfl, Nat.le_refl _, fun _ c => by rw [altsF_s, if_neg hk]⟩
    · intro f g l t g' l' h
      rw [rowF_s] at h
      by_cases hk : kindZ l = 6 ∨ kindZ l = 15
      · rw [if_pos hk] at h
        cases h
        exact ⟨rfl, fun _ c => by rw [rowF_s, if_pos hk]⟩
      · rw [if_neg hk] at h
        obtain ⟨t1, g1, l1, h1, h2⟩ := next_got h
        obtain ⟨e1, c1⟩ := i5 _ _ _ _ _ _ h1
        obtain ⟨e2, hm, c2⟩ := i4 _ _ _ _ _ _ _ h2
        refine ⟨by omega, fun h0 c => ?_⟩
        rw [rowF_s, if_neg hk, c1 (by omega) c]
        exact c2 (by omega) c
    · intro f t0 g l t g' l' h
      rw [itemsF_s] at h
      by_cases hk : kindZ l = 6 ∨ kindZ l = 15
      · rw [if_pos hk] at h
        cases h
        exact ⟨rfl, Nat.le_refl _, fun _ c => by rw [itemsF_s, if_pos hk]⟩
      · rw [if_neg hk] at h
        obtain ⟨t1, g1, l1, h1, h2⟩ := next_got h
        obtain ⟨t2, g2, l2, h3, h4⟩ := next_got h2
        obtain ⟨e1, c1⟩ := i5 _ _ _ _ _ _ h1
        obtain ⟨e2, hm, c2⟩ := i4 _ _ _ _ _ _ _ h4
        have h5 := shal_eq h3
        obtain ⟨rfl, rfl, rfl⟩ := shal_got h3
        rw [cnt_join _ _ _ (by decide)] at e2 c2 hm
        refine ⟨by omega, by omega, fun h0 c => ?_⟩
        rw [itemsF_s, if_neg hk, c1 (by omega) c]
        show (shal _ _ _).next _ = _
        rw [h5 c]
        exact c2 (by omega) c
    · intro f g l t g' l' h
      rw [itemF_s] at h
      obtain ⟨t1, g1, l1, h1, h2⟩ := next_got h
      obtain ⟨e1, c1⟩ := i6 _ _ _ _ _ _ h1
      cases l1 with
      | nil =>
        cases h2
        exact ⟨e1, fun h0 c => by rw [itemF_s, c1 h0 c]; rfl⟩
      | cons y r =>
        rw [endQ] at h2
        by_cases hy : y.k = 16
        · rw [if_pos hy] at h2
          have h5 := shal_eq h2
          obtain ⟨rfl, rfl, rfl⟩ := shal_got h2
          rw [cnt_rep]
          refine ⟨e1, fun h0 c => ?_⟩
          rw [itemF_s, c1 h0 c]
          show (if y.k = 16 then _ else _) = _
          rw [if_pos hy, h5 c]
        · rw [if_neg hy] at h2
          cases h2
          refine ⟨e1, fun h0 c => ?_⟩
          rw [itemF_s, c1 h0 c]
          show (if y.k = 16 then _ else _) = _
          rw [if_neg hy]
    · intro f g l t g' l' h
      cases l with
      | nil => rw [pieceF_0] at h; cases h
      | cons y r =>
        rw [pieceF_s] at h
        by_cases ho : opens y.k = false
        · rw [if_pos ho] at h
          cases h
          rw [cnt_leaf]
          exact ⟨rfl, fun _ c => by rw [pieceF_s, if_pos ho]⟩
        · rw [if_neg ho] at h
          by_cases hk : y.k = 8 ∨ y.k = 14
          · rw [if_pos hk] at h
            obtain ⟨e1, c1⟩ := i7 _ _ _ _ _ _ h
            exact ⟨e1, fun h0 c => by rw [pieceF_s, if_neg ho, if_pos hk, c1 h0 c]⟩
          · rw [if_neg hk] at h
            obtain ⟨t1, g1, l1, h1, h2⟩ := next_got h
            obtain ⟨e1, c1⟩ := i7 _ _ _ _ _ _ h1
            have h5 := shal_eq h2
            obtain ⟨rfl, rfl, rfl⟩ := shal_got h2
            have e2 := cnt_around t1 y.k g
            refine ⟨by omega, fun h0 c => ?_⟩
            have e3 := cnt_wrap t1 (aroundN y.k g)
            have h9 : 9 ≤ y.k ∧ y.k ≤ 13 := by
              by_cases h9 : 9 ≤ y.k ∧ y.k ≤ 13
              · exact h9
              · rw [show (aroundN y.k g).k = 11 by unfold aroundN; rw [if_neg h9]; rfl, if_pos rfl] at e3
                omega
            rw [pieceF_s, if_neg ho, if_neg hk, c1 (by omega) (aroundG y.k c)]
            show shal _ _ _ = _
            rw [show aroundG y.k c = c by unfold aroundG; rw [if_pos h9], show aroundN y.k c = aroundN y.k g by unfold aroundN; rw [if_pos h9, if_pos h9]]
            exact h5 c
    · intro f g l t g' l' h
      rw [withF_s] at h
      obtain ⟨t1, g1, l1, h1, h2⟩ := next_got h
      obtain ⟨e1, c1⟩ := i1 _ _ _ _ _ _ h1
      cases l1 with
      | nil => cases h2
      | cons y r =>
        cases h2
        exact ⟨e1, fun h0 c => by rw [withF_s, c1 h0 c]; rfl⟩
end Go.Proofs.YtfejdengpnikeaaGreatDoor

namespace Go.Proofs.YtfejdengpnikeaaGreatDoor
open Ast (Nd joinL wrapL deepZ rightZ cntG backB behB groupsB siz dep)

theorem lexF_pre {p : ByteArray} : ∀ (f i : Nat) (l b : List Tok), lexF p f i l = (b, 0) → ∃ r, b = l ++ r
  | 0, _, l, b, h => by cases h; exact ⟨[], (List.append_nil l).symm⟩
  | f + 1, i, l, b, h => by
    rw [lexF] at h
    split at h
    · cases h; exact ⟨[], (List.append_nil l).symm⟩
    · split at h
      · rename_i he
        exact absurd (congrArg Prod.snd h) he
      · obtain ⟨r, hr⟩ := lexF_pre f _ _ b h
        exact ⟨_ :: r, by rw [hr, List.append_assoc]; rfl⟩
theorem mode_k (p : ByteArray) (x : TokR) : (modeZ p x).1.k = x.1.k := by
  unfold modeZ
  split
  · rfl
  · split <;> rfl
theorem first_16 {p : ByteArray} {l : List Tok} (h : lexZ p = (l, 0)) (hq : bt p 0 = 63 ∨ bt p 0 = 43) : kindZ l = 16 := by
  have hs : 0 < p.size := bt_in (by omega)
  unfold lexZ at h
  split at h
  · cases h
  · rw [lexF, if_neg (by omega)] at h
    split at h
    · rename_i he
      exact absurd (congrArg Prod.snd h) he
    · obtain ⟨r, rfl⟩ := lexF_pre _ _ _ _ h
      rw [List.nil_append]
      show (tokZ p 0).1.k = 16
      rw [tok_quant (by omega)]
      unfold quantZ
      rw [if_neg (by omega), mode_k]
      rfl
/-- What a pattern that is parsed has come through. -/
structure Parsed (p : ByteArray) (t : Tr) (l : List Tok) (g : Nat) : Prop where
  lex : lexZ p = (l, 0)
  scan : scanF l 0 false = true
  alt : altF (6 * l.length + 6) ByteArray.empty 0 l = .got t g []
  right : rightZ t.2 t.1 = 0
theorem alt_end {n : Nat} {f : ByteArray} {g g' : Nat} {l l' : List Tok} {t : Tr} (hs : scanF l 0 false = true) (hn : 6 * l.length + 5 ≤ n) (h : altF n f g l = .got t g' l') : l' = [] := by
  obtain ⟨h1, h2⟩ := ((rd_good n).1 f g l 0 hs hn).2 t g' l' h
  cases l' with
  | nil => rfl
  | cons x r =>
    rw [scanF, if_pos (.inr ⟨h2, rfl⟩)] at h1
    cases h1
theorem parsed {p : ByteArray} (h : (parseZ p).2 = 0) : ∃ l g, Parsed p (parseZ p).1 l g := by
  by_cases he : (lexZ p).2 = 0
  · have hx : parseZ p = treeZ (lexZ p).1 := by unfold parseZ; rw [if_neg (by simp [he])]
    refine ⟨(lexZ p).1, ?_⟩
    rw [hx] at h ⊢
    have hl : lexZ p = ((lexZ p).1, 0) := by rw [← he]
    generalize (lexZ p).1 = l at h hl ⊢
    unfold treeZ at h ⊢
    by_cases hs : scanF l 0 false = false
    · rw [if_pos hs] at h
      cases h
    · have hs' : scanF l 0 false = true := by simpa using hs
      rw [if_neg hs] at h ⊢
      cases ha : altF (6 * l.length + 6) ByteArray.empty 0 l with
      | out => rw [ha] at h; cases h
      | deep => rw [ha] at h; cases h
      | got t g l' =>
        rw [ha] at h
        obtain rfl := alt_end hs' (by omega) ha
        simp only [] at h ⊢
        by_cases hr : rightZ t.2 t.1 = 0
        · rw [if_pos hr]
          exact ⟨g, hl, hs', ha, hr⟩
        · rw [if_neg hr] at h
          exact absurd h hr
  · unfold parseZ at h
    rw [if_pos (by simpa using he)] at h
    exact absurd h he
theorem parsed_of {p : ByteArray} {t : Tr} {l l' : List Tok} {g n : Nat} (hl : lexZ p = (l, 0)) (hs : scanF l 0 false = true) (ha : altF n ByteArray.empty 0 l = .got t g l') (hr : rightZ t.2 t.1 = 0) : parseZ p = (t, 0) := by
  have h1 := alt_in hs ByteArray.empty 0
  have e1 := alt_le h1 (Nat.le_max_left _ n)
  have e2 := alt_le (n := n) (m := max (6 * l.length + 6) n) (f := ByteArray.empty) (g := 0) (l := l) (by rw [ha]; intro h; cases h) (Nat.le_max_right _ n)
  have e3 : altF (6 * l.length + 6) ByteArray.empty 0 l = .got t g l' := by rw [← e1, e2, ha]
  unfold parseZ
  rw [hl]
  show (if (0 : Int) ≠ 0 then _ else treeZ l) = _
  rw [if_neg (by decide)]
  unfold treeZ
  rw [if_neg (by rw [hs]; decide), e3]
  show (if rightZ t.2 t.1 = 0 then _ else _) = _
  rw [if_pos hr]
theorem scan_app (x : List Tok) (d : Nat) : ∀ (l : List Tok) (o : Nat) (b : Bool), scanF l o b = true → ∃ b', scanF (l ++ x) (o + d) b = scanF x d b'
  | [], o, b, h => ⟨b, by
    obtain rfl : o = 0 := by simpa [scanF] using h
    rw [List.nil_append, Nat.zero_add]⟩
  | t :: l, o, b, h => by
    rw [scanF] at h
    split at h
    · cases h
    · rename_i hn
      rw [List.cons_append, scanF, if_neg (fun hc => hn (hc.imp id fun h => ⟨h.1, by omega⟩))]
      by_cases ho : opens t.k = true
      · rw [if_pos ho] at h ⊢
        obtain ⟨b', h'⟩ := scan_app x d l _ _ h
        exact ⟨b', by rw [← h']; congr 1; omega⟩
      · rw [if_neg ho] at h ⊢
        by_cases h15 : t.k = 15
        · rw [if_pos h15] at h ⊢
          obtain ⟨b', h'⟩ := scan_app x d l _ _ h
          have h0 : o ≠ 0 := fun h0 => hn (.inr ⟨h15, h0⟩)
          exact ⟨b', by rw [← h']; congr 1; omega⟩
        · rw [if_neg h15] at h ⊢
          exact scan_app x d l _ _ h
theorem scan_wrap {x : Tok} {l y : List Tok} (hx : opens x.k = true) (hl : scanF l 0 false = true) : scanF (x :: (l ++ tok0 15 :: y)) 0 false = scanF y 0 true := by
  rw [scanF, if_neg (by rintro (⟨h, -⟩ | ⟨h, -⟩) <;> (rw [h] at hx; exact absurd hx (by decide))), if_pos hx]
  obtain ⟨b', h⟩ := scan_app (tok0 15 :: y) 1 l 0 false hl
  rw [h, scanF, if_neg (by simp [tok0]), if_neg (by decide), if_pos (show (tok0 15).k = 15 from rfl)]

theorem alt_lift {n m : Nat} {f : ByteArray} {g g' : Nat} {l l' : List Tok} {t : Tr} (h : altF n f g l = .got t g' l') (hm : n ≤ m) : altF m f g l = .got t g' l' := by
  rw [alt_le (by rw [h]; intro h; cases h) hm, h]
theorem item_plain {n m : Nat} {f : ByteArray} {g g' : Nat} {l y : List Tok} {t : Tr} {x : Tok} (ho : opens x.k = true) (h8 : x.k = 8 ∨ x.k = 14) (h : altF n (f ++ x.f) g l = .got t g' []) (hm : n + 3 ≤ m) (hy : kindZ y ≠ 16) :
    itemF m f g (x :: (l ++ tok0 15 :: y)) = .got t g' y := by
  obtain ⟨d, rfl⟩ : ∃ d, m = d + 3 := ⟨m - 3, by omega⟩
  rw [itemF_s, pieceF_s, if_neg (by rw [ho]; decide), if_pos h8, withF_s, (rd_app (x := tok0 15 :: y) rfl d).1 _ _ _ _ _ _ (alt_lift h (by omega))]
  show endQ t g' y = _
  cases y with
  | nil => rfl
  | cons z r =>
    rw [endQ, if_neg (show ¬ z.k = 16 from hy)]
theorem row_one {n m : Nat} {f : ByteArray} {g g' : Nat} {l y : List Tok} {t : Tr} (hk : ¬ (kindZ l = 6 ∨ kindZ l = 15)) (hy : kindZ y = 6 ∨ kindZ y = 15) (h : itemF (n + 1) f g l = .got t g' y) (hm : m = n + 2) : rowF m f g l = .got t g' y := by
  subst hm
  rw [rowF_s, if_neg hk, h]
  show itemsF (n + 1) f t g' y = _
  rw [itemsF_s, if_pos hy]
theorem alt_one {n m : Nat} {f : ByteArray} {g g' : Nat} {l y : List Tok} {t : Tr} (hy : kindZ y ≠ 6) (h : rowF (n + 1) f g l = .got t g' y) (hm : m = n + 2) : altF m f g l = .got t g' y := by
  subst hm
  rw [altF_s, h]
  show altsF (n + 1) f t g' y = _
  rw [altsF_s, if_neg hy]
theorem opens_kind {x : Tok} {l : List Tok} (h : opens x.k = true) : ¬ (kindZ (x :: l) = 6 ∨ kindZ (x :: l) = 15) := by
  intro hk
  have : x.k = 6 ∨ x.k = 15 := hk
  rcases this with e | e <;> (rw [e] at h; exact absurd h (by decide))

abbrev pre7 : ByteArray := ⟨#[40, 63, 58]⟩
abbrev grp7 : ByteArray := ⟨#[40]⟩
abbrev post7 : ByteArray := ⟨#[41]⟩
abbrev midA7 : ByteArray := ⟨#[41, 124, 40, 63, 58]⟩
abbrev midC7 : ByteArray := ⟨#[41, 40, 63, 58]⟩
theorem lex_pre7 : lexZ pre7 = ([tok0 8], 0) := by kernel_rfl
theorem lex_grp7 : lexZ grp7 = ([tok0 7], 0) := by kernel_rfl
theorem lex_post7 : lexZ post7 = ([tok0 15], 0) := by kernel_rfl
theorem lex_midA7 : lexZ midA7 = ([tok0 15, tok0 6, tok0 8], 0) := by kernel_rfl
theorem lex_midC7 : lexZ midC7 = ([tok0 15, tok0 8], 0) := by kernel_rfl
theorem no_quant {p : ByteArray} {t : Tr} {l : List Tok} {g : Nat} (h : Parsed p t l g) : bt p 0 ≠ 63 ∧ bt p 0 ≠ 43 :=
  ⟨fun e => scan_head h.scan (first_16 h.lex (.inl e)), fun e => scan_head h.scan (first_16 h.lex (.inr e))⟩
theorem lex_in {a p : ByteArray} {x : List Tok} {t : Tr} {l : List Tok} {g : Nat} (ha : lexZ a = (x, 0)) (h : Parsed p t l g) (hs : a.size + p.size ≤ 1000) : lexZ (a ++ p) = (x ++ l, 0) :=
  lex_join a p x l hs (no_quant h).1 (no_quant h).2 ha h.lex
theorem lex_wrap {a p : ByteArray} {x : List Tok} {t : Tr} {l : List Tok} {g : Nat} (ha : lexZ a = (x, 0)) (h : Parsed p t l g) (hs : a.size + p.size ≤ 900) : lexZ (a ++ p ++ post7) = (x ++ l ++ [tok0 15], 0) :=
  lex_join (a ++ p) post7 (x ++ l) [tok0 15] (by rw [ByteArray.size_append]; show _ + 1 ≤ _; omega) (by decide) (by decide) (lex_in ha h (by omega)) lex_post7
theorem emp_app (f : ByteArray) : ByteArray.empty ++ f = f := ByteArray.empty_append
theorem app_emp (f : ByteArray) : f ++ ByteArray.empty = f := ByteArray.append_empty
/-- Within (?: and ) a pattern has the same tree. -/
theorem plain_z {p : ByteArray} (h : (parseZ p).2 = 0) (hs : p.size ≤ 800) : parseZ (pre7 ++ p ++ post7) = ((parseZ p).1, 0) := by
  obtain ⟨l, g, H⟩ := parsed h
  generalize (parseZ p).1 = t at H ⊢
  have hl := lex_wrap lex_pre7 H (by show 3 + _ ≤ _; omega)
  have hl2 : lexZ (pre7 ++ p ++ post7) = (tok0 8 :: (l ++ [tok0 15]), 0) := hl
  have hi := item_plain (x := tok0 8) (y := []) (f := ByteArray.empty) (m := 6 * l.length + 9) rfl (.inl rfl) (by rw [show (tok0 8).f = ByteArray.empty from rfl, emp_app]; exact H.alt) (by omega) (by decide)
  refine parsed_of hl2 ((scan_wrap rfl H.scan).trans rfl) (alt_one (by decide) (row_one (opens_kind rfl) (.inr rfl) hi rfl) rfl) H.right
theorem right_whole {l : Nat → Nd} {n : Nat} (h : rightZ l n = 0) : 0 < n ∧ siz l n = n ∧ dep l n = deepZ l n ∧ Ast.shapeZ l n = 0 ∧ n ≤ 500 := by
  obtain ⟨e0, e1, h1, z1⟩ := Ast.deep_form (Ast.right_deep h)
  refine ⟨h1, z1, e1, (Ast.right_0 h).1, ?_⟩
  unfold Ast.formZ at e0
  split at e0
  · cases e0
  · omega
abbrev grpN (n : Int) : Nd := { nd0 11 with n := n }
theorem back_more {l : Nat → Nd} {a b : Nat} (hab : a ≤ b) : ∀ n, backB l a n = true → backB l b n = true
  | 0, _ => rfl
  | n + 1, h => by
    rw [backB, Bool.and_eq_true] at h ⊢
    refine ⟨back_more hab n h.1, ?_⟩
    have h2 := h.2
    split at h2
    · rename_i hk
      rw [if_pos hk]
      simp only [decide_eq_true_eq] at h2 ⊢
      omega
    · rename_i hk
      rw [if_neg hk]
/-- A tree without groups, with the first one around. -/
theorem right_group {t : Tr} (h : rightZ t.2 t.1 = 0) (hg : cntT t = 0) (hd : deepZ t.2 t.1 < 40) (hn : t.1 < 500) : rightZ (wrapT t (grpN 1)).2 (wrapT t (grpN 1)).1 = 0 ∧ deepZ (wrapT t (grpN 1)).2 (wrapT t (grpN 1)).1 = 1 + deepZ t.2 t.1 := by
  obtain ⟨n, l⟩ := t
  obtain ⟨h1, z1, d1, -, -⟩ := right_whole h
  obtain ⟨-, g1, b1⟩ := Ast.right_0 h
  simp only [] at *
  have hk : Ast.kidsZ (grpN 1).k = 1 := by decide
  have hf : Ast.fitsB (grpN 1) = true := by decide
  obtain ⟨w1, w2⟩ := Ast.wrap_in hk hf h1 z1
  have wd := Ast.wrap_dep (x := grpN 1) hk h1 z1
  have hdz : deepZ (wrapL l n (grpN 1)) (n + 1) = 1 + deepZ l n := by rw [Ast.form_of w2 (by omega) (by omega), wd, d1]
  refine ⟨?_, hdz⟩
  have hg0 : cntG l n = 0 := hg
  have ht := Ast.wrap_top l n (grpN 1)
  have hgr : Ast.grp (wrapL l n (grpN 1)) (n + 1) = [n] := by
    have hk1 : Ast.kidsZ (wrapL l n (grpN 1) n).k = 1 := by rw [ht]; exact hk
    rw [Ast.grp_succ, if_neg (by omega), if_pos hk1, if_pos (by rw [ht]; rfl)]
    rw [Ast.grp_none (l := wrapL l n (grpN 1)) (n := n) (fun i hi => by unfold wrapL; rw [if_pos hi]; exact Ast.cnt_zero hg0 i hi) n (Nat.le_refl _)]
  have hb1 := Ast.back_shift (l := l) (l' := wrapL l n (grpN 1)) (c := 0) (mm := 1) n fun i hi => by rw [Nat.zero_add]; unfold wrapL; rw [if_pos hi]; exact ⟨rfl, rfl⟩
  have hbh := Ast.beh_shift (Ast.sh_wrap l n (grpN 1)) (fun i hi => Ast.siz_of_whole z1 hi) n (Nat.le_refl _)
  rw [Nat.zero_add] at hb1 hbh
  show rightZ (wrapL l n (grpN 1)) (n + 1) = 0
  refine Ast.right_of (Ast.shape_of w2 (by omega) (by omega) (by rw [wd, d1]; omega)) ?_ ?_
  · unfold Ast.groupsB
    rw [hgr]
    rw [Ast.groups_none hg0] at g1
    have hb2 := back_more (Nat.zero_le 1) n g1
    show (Ast.numB _ [n] 1 && backB _ 1 (n + 1) && decide (1 ≤ 9)) = true
    rw [backB, hb1, hb2, ht]
    simp [Ast.numB, backB, ht, nd0]
  · show behB (wrapL l n (grpN 1)) (n + 1) = true
    rw [behB, hbh, b1, ht]
    simp [behB, nd0]
theorem join_back' (la lb : Nat → Nd) (m k mm : Nat) (kind : Int) (h12 : kind ≠ 12) : backB (joinL la m lb k kind) mm (m + k + 1) = (backB la mm m && backB lb mm k) := by
  have h1 := Ast.back_shift (l := la) (l' := joinL la m lb k kind) (c := 0) (mm := mm) m fun i hi => by rw [Nat.zero_add, Ast.join_a la m lb k kind hi]; exact ⟨rfl, rfl⟩
  rw [Nat.zero_add] at h1
  rw [backB, Ast.back_shift (l := lb) k fun i hi => by rw [Ast.join_b la m lb k kind hi]; exact ⟨Ast.mvN_k _ _, Ast.mvN_n _ _⟩, h1, Ast.join_top]
  simp [backB, h12]
theorem join_beh' {la lb : Nat → Nd} {m k : Nat} {kind : Int} (h15 : kind ≠ 15) (h16 : kind ≠ 16) (hm : m ≤ 1000) (hk : k ≤ 1000) (ha : siz la m = m) (hb : siz lb k = k) : behB (joinL la m lb k kind) (m + k + 1) = (behB la m && behB lb k) := by
  have h1 := Ast.beh_shift (Ast.sh_join_a la lb m k kind) (fun i hi => Ast.siz_of_whole ha hi) m (Nat.le_refl _)
  rw [Nat.zero_add] at h1
  rw [behB, Ast.beh_shift (Ast.sh_join_b la lb m k kind (by omega) (by omega)) (fun i hi => Ast.siz_of_whole hb hi) k (Nat.le_refl _), h1, Ast.join_top]
  simp [behB, h15, h16]
/-- Two trees without groups, joined. -/
theorem right_join {t u : Tr} {k : Int} (hk : k = 8 ∨ k = 9) (ht : rightZ t.2 t.1 = 0) (hu : rightZ u.2 u.1 = 0) (hg : cntT t + cntT u = 0) (hd : deepZ t.2 t.1 < 40) (hd' : deepZ u.2 u.1 < 40) (hn : t.1 + u.1 < 500) :
    rightZ (joinT t u k).2 (joinT t u k).1 = 0 ∧ deepZ (joinT t u k).2 (joinT t u k).1 = 1 + max (deepZ t.2 t.1) (deepZ u.2 u.1) := by
  obtain ⟨m, la⟩ := t
  obtain ⟨n, lb⟩ := u
  obtain ⟨h1, z1, d1, -, -⟩ := right_whole ht
  obtain ⟨h2, z2, d2, -, -⟩ := right_whole hu
  obtain ⟨-, g1, b1⟩ := Ast.right_0 ht
  obtain ⟨-, g2, b2⟩ := Ast.right_0 hu
  simp only [] at *
  have hga : cntG la m = 0 := by have : cntG la m + cntG lb n = 0 := hg; omega
  have hgb : cntG lb n = 0 := by have : cntG la m + cntG lb n = 0 := hg; omega
  have j3 := (Ast.join_in hk (by omega) (by omega) h1 h2 z1 z2).2.2
  have jd := Ast.join_dep hk (by omega) (by omega) h1 h2 z1 z2
  have hdz : deepZ (joinL la m lb n k) (m + n + 1) = 1 + max (deepZ la m) (deepZ lb n) := by rw [Ast.form_of j3 (by omega) (by omega), jd, d1, d2]
  refine ⟨?_, hdz⟩
  show rightZ (joinL la m lb n k) (m + n + 1) = 0
  refine Ast.right_of (Ast.shape_of j3 (by omega) (by omega) (by rw [jd, d1, d2]; omega)) ?_ ?_
  · show groupsB (joinL la m lb n k) (m + n + 1) = true
    rw [Ast.groups_none (by rw [Ast.join_cnt _ _ _ _ _ (by omega)]; omega), join_back' _ _ _ _ _ _ (by omega)]
    rw [Ast.groups_none hga] at g1
    rw [Ast.groups_none hgb] at g2
    rw [g1, g2]
    rfl
  · show behB (joinL la m lb n k) (m + n + 1) = true
    rw [join_beh' (by omega) (by omega) (by omega) (by omega) z1 z2, b1, b2]
    rfl
/-- Within ( and ) a pattern without groups has one around. -/
theorem group_z {p : ByteArray} (h : (parseZ p).2 = 0) (hs : p.size ≤ 800) (hg : cntT (parseZ p).1 = 0) (hd : deepZ (parseZ p).1.2 (parseZ p).1.1 < 40) (hn : (parseZ p).1.1 < 500) : parseZ (grp7 ++ p ++ post7) = (wrapT (parseZ p).1 (grpN 1), 0) := by
  obtain ⟨l, g, H⟩ := parsed h
  generalize (parseZ p).1 = t at H hg hd hn ⊢
  have hl := lex_wrap lex_grp7 H (by show 1 + _ ≤ _; omega)
  have hl2 : lexZ (grp7 ++ p ++ post7) = (tok0 7 :: (l ++ [tok0 15]), 0) := hl
  obtain ⟨r1, r2⟩ := right_group H.right hg hd hn
  have ha := ((rd_grp _).1 _ _ _ _ _ _ H.alt).2 hg 1
  have hi : itemF (6 * l.length + 9) ByteArray.empty 0 (tok0 7 :: (l ++ [tok0 15])) = .got (wrapT t (grpN 1)) 1 [] := by
    rw [itemF_s, pieceF_s, if_neg (by decide), if_neg (by decide), withF_s, show ByteArray.empty ++ (tok0 7).f = ByteArray.empty from emp_app _, show aroundG (tok0 7).k 0 = 1 from rfl, (rd_app (x := [tok0 15]) rfl _).1 _ _ _ _ _ _ ha]
    show (shal (wrapT t (aroundN 7 0)) 1 []).next endQ = _
    rw [show aroundN 7 0 = grpN 1 from rfl, shal_yes (by rw [r2]; omega)]
    rfl
  exact parsed_of hl2 ((scan_wrap rfl H.scan).trans rfl) (alt_one (by decide) (row_one (opens_kind rfl) (.inr rfl) hi rfl) rfl) r1
theorem nodes_le {p : ByteArray} {t : Tr} {l : List Tok} {g : Nat} (h : Parsed p t l g) (hp : p.size ≤ 1000) : t.1 ≤ 2 * p.size + 1 := by
  have h1 := ((rd_part _).1 _ _ _ _ _ _ h.alt).len
  rcases few_lex p hp with ⟨h2, -⟩ | ⟨-, -, h4, -⟩
  · rw [h.lex] at h2
    simp only [] at h2
    subst h2
    simp at h1
    omega
  · rw [h.lex] at h4
    simp only [] at h4
    simp at h1
    omega
/-- Two patterns without groups, with | between. -/
theorem alts_z {p q : ByteArray} (h : (parseZ p).2 = 0) (h' : (parseZ q).2 = 0) (hs : p.size ≤ 100) (hs' : q.size ≤ 100) (hg : cntT (parseZ p).1 + cntT (parseZ q).1 = 0) (hd : deepZ (parseZ p).1.2 (parseZ p).1.1 < 40) (hd' : deepZ (parseZ q).1.2 (parseZ q).1.1 < 40) :
    parseZ (pre7 ++ p ++ midA7 ++ q ++ post7) = (joinT (parseZ p).1 (parseZ q).1 9, 0) := by
  obtain ⟨l, g, H⟩ := parsed h
  obtain ⟨m, g', H'⟩ := parsed h'
  generalize (parseZ p).1 = t at H hg hd ⊢
  generalize (parseZ q).1 = u at H' hg hd' ⊢
  have hn := nodes_le H (by omega)
  have hn' := nodes_le H' (by omega)
  obtain ⟨r1, r2⟩ := right_join (k := 9) (.inr rfl) H.right H'.right hg hd hd' (by omega)
  have e1 : lexZ (pre7 ++ p ++ midA7) = ([tok0 8] ++ l ++ [tok0 15, tok0 6, tok0 8], 0) := lex_join _ _ _ _ (by rw [ByteArray.size_append]; show 3 + _ + 5 ≤ _; omega) (by decide) (by decide) (lex_in lex_pre7 H (by show 3 + _ ≤ _; omega)) lex_midA7
  have e2 := lex_wrap e1 H' (by rw [ByteArray.size_append, ByteArray.size_append]; show 3 + _ + 5 + _ ≤ _; omega)
  have e3 : lexZ (pre7 ++ p ++ midA7 ++ q ++ post7) = (tok0 8 :: (l ++ tok0 15 :: tok0 6 :: tok0 8 :: (m ++ [tok0 15])), 0) := by rw [e2]; simp
  obtain ⟨N, hN⟩ : ∃ N, N = 6 * l.length + 6 * m.length + 20 := ⟨_, rfl⟩
  have ga : g = 0 := by have := ((rd_grp _).1 _ _ _ _ _ _ H.alt).1; omega
  subst ga
  have i1 := item_plain (x := tok0 8) (y := tok0 6 :: tok0 8 :: (m ++ [tok0 15])) (f := ByteArray.empty) (m := N + 2) rfl (.inl rfl) (by rw [show (tok0 8).f = ByteArray.empty from rfl, emp_app]; exact H.alt) (by omega) (show (6 : Int) ≠ 16 by decide)
  have i2 := item_plain (x := tok0 8) (y := []) (f := ByteArray.empty) (m := N + 1) rfl (.inl rfl) (by rw [show (tok0 8).f = ByteArray.empty from rfl, emp_app]; exact H'.alt) (by omega) (by decide)
  have w1 := row_one (m := N + 3) (opens_kind (x := tok0 8) rfl) (.inl rfl) i1 rfl
  have w2 := row_one (m := N + 2) (opens_kind (x := tok0 8) rfl) (.inr rfl) i2 rfl
  refine parsed_of (g := g') (l' := []) (n := N + 4) e3 ?_ ?_ r1
  · rw [scan_wrap rfl H.scan, scanF, if_neg (by simp [tok0]), if_neg (by decide), if_neg (by decide), scan_b (l := tok0 8 :: (m ++ [tok0 15])) (show (8 : Int) ≠ 16 by decide), scan_wrap rfl H'.scan]
    rfl
  · rw [altF_s, w1]
    show altsF (N + 3) _ _ _ _ = _
    rw [altsF_s, if_pos (show kindZ (tok0 6 :: tok0 8 :: (m ++ [tok0 15])) = 6 from rfl)]
    show (rowF (N + 2) ByteArray.empty 0 (tok0 8 :: (m ++ [tok0 15]))).next _ = _
    rw [w2]
    show (shal (joinT t u 9) g' []).next _ = _
    rw [shal_yes (by rw [r2]; omega), altsF_s, if_neg (by decide)]
/-- Two patterns without groups, one behind the other. -/
theorem cats_z {p q : ByteArray} (h : (parseZ p).2 = 0) (h' : (parseZ q).2 = 0) (hs : p.size ≤ 100) (hs' : q.size ≤ 100) (hg : cntT (parseZ p).1 + cntT (parseZ q).1 = 0) (hd : deepZ (parseZ p).1.2 (parseZ p).1.1 < 40) (hd' : deepZ (parseZ q).1.2 (parseZ q).1.1 < 40) :
    parseZ (pre7 ++ p ++ midC7 ++ q ++ post7) = (joinT (parseZ p).1 (parseZ q).1 8, 0) := by
  obtain ⟨l, g, H⟩ := parsed h
  obtain ⟨m, g', H'⟩ := parsed h'
  generalize (parseZ p).1 = t at H hg hd ⊢
  generalize (parseZ q).1 = u at H' hg hd' ⊢
  have hn := nodes_le H (by omega)
  have hn' := nodes_le H' (by omega)
  obtain ⟨r1, r2⟩ := right_join (k := 8) (.inl rfl) H.right H'.right hg hd hd' (by omega)
  have e1 : lexZ (pre7 ++ p ++ midC7) = ([tok0 8] ++ l ++ [tok0 15, tok0 8], 0) := lex_join _ _ _ _ (by rw [ByteArray.size_append]; show 3 + _ + 4 ≤ _; omega) (by decide) (by decide) (lex_in lex_pre7 H (by show 3 + _ ≤ _; omega)) lex_midC7
  have e2 := lex_wrap e1 H' (by rw [ByteArray.size_append, ByteArray.size_append]; show 3 + _ + 4 + _ ≤ _; omega)
  have e3 : lexZ (pre7 ++ p ++ midC7 ++ q ++ post7) = (tok0 8 :: (l ++ tok0 15 :: tok0 8 :: (m ++ [tok0 15])), 0) := by rw [e2]; simp
  obtain ⟨N, hN⟩ : ∃ N, N = 6 * l.length + 6 * m.length + 20 := ⟨_, rfl⟩
  have ga : g = 0 := by have := ((rd_grp _).1 _ _ _ _ _ _ H.alt).1; omega
  subst ga
  have i1 := item_plain (x := tok0 8) (y := tok0 8 :: (m ++ [tok0 15])) (f := ByteArray.empty) (m := N + 2) rfl (.inl rfl) (by rw [show (tok0 8).f = ByteArray.empty from rfl, emp_app]; exact H.alt) (by omega) (show (8 : Int) ≠ 16 by decide)
  have i2 := item_plain (x := tok0 8) (y := []) (f := ByteArray.empty) (m := N + 1) rfl (.inl rfl) (by rw [show (tok0 8).f = ByteArray.empty from rfl, emp_app]; exact H'.alt) (by omega) (by decide)
  have w1 : rowF (N + 3) ByteArray.empty 0 (tok0 8 :: (l ++ tok0 15 :: tok0 8 :: (m ++ [tok0 15]))) = .got (joinT t u 8) g' [] := by
    rw [rowF_s, if_neg (opens_kind (x := tok0 8) rfl), i1]
    show itemsF (N + 2) _ _ _ _ = _
    rw [itemsF_s, if_neg (opens_kind (x := tok0 8) rfl), i2]
    show (shal (joinT t u 8) g' []).next _ = _
    rw [shal_yes (by rw [r2]; omega), itemsF_s, if_pos (.inr rfl)]
  refine parsed_of (g := g') (l' := []) (n := N + 4) e3 ?_ (alt_one (by decide) w1 rfl) r1
  rw [scan_wrap rfl H.scan, scan_b (l := tok0 8 :: (m ++ [tok0 15])) (show (8 : Int) ≠ 16 by decide), scan_wrap rfl H'.scan]
  rfl
end Go.Proofs.YtfejdengpnikeaaGreatDoor

namespace Go.Proofs.YtfejdengpnikeaaGreatDoor
open Ast (Nd joinL wrapL deepZ rightZ shapeZ formZ)

theorem right_vals (l : Nat → Nd) (n : Nat) : rightZ l n = 0 ∨ rightZ l n = 3 ∨ rightZ l n = 4 ∨ rightZ l n = 6 ∨ rightZ l n = 7 := by
  have h : shapeZ l n = 0 ∨ shapeZ l n = 3 ∨ shapeZ l n = 4 := by
    unfold shapeZ formZ
    (repeat' split) <;> simp
  unfold rightZ
  split
  · rcases h with h | h | h <;> rw [h] <;> simp
  · (repeat' split) <;> simp
/-- What is told of any pattern that is not too long. -/
theorem parse_cases (p : ByteArray) (hp : p.size ≤ 1000) : ((parseZ p).1.1 = 0 ∧ ((parseZ p).2 = 3 ∨ (parseZ p).2 = 4 ∨ (parseZ p).2 = 6 ∨ (parseZ p).2 = 7)) ∨ ((parseZ p).2 = 0 ∧ rightZ (parseZ p).1.2 (parseZ p).1.1 = 0 ∧ 1 ≤ deepZ (parseZ p).1.2 (parseZ p).1.1 ∧ (parseZ p).1.1 ≤ 500) := by
  by_cases h : (parseZ p).2 = 0
  · obtain ⟨l, g, H⟩ := parsed h
    have := Ast.right_deep H.right
    exact .inr ⟨h, H.right, by omega, (right_whole H.right).2.2.2.2⟩
  · left
    unfold parseZ at h ⊢
    by_cases he : (lexZ p).2 ≠ 0
    · rw [if_pos he] at h ⊢
      rcases few_lex p hp with ⟨-, h4⟩ | ⟨h4, -⟩
      · exact ⟨rfl, by rcases h4 with h4 | h4 <;> simp [h4]⟩
      · exact absurd h4 he
    · rw [if_neg he] at h ⊢
      generalize (lexZ p).1 = l at h ⊢
      unfold treeZ at h ⊢
      by_cases hs : scanF l 0 false = false
      · rw [if_pos hs]
        exact ⟨rfl, .inl rfl⟩
      · rw [if_neg hs] at h ⊢
        cases ha : altF (6 * l.length + 6) ByteArray.empty 0 l with
        | out => exact ⟨rfl, .inr (.inl rfl)⟩
        | deep => exact ⟨rfl, .inr (.inl rfl)⟩
        | got t g l' =>
          rw [ha] at h
          simp only [] at h ⊢
          by_cases hr : rightZ t.2 t.1 = 0
          · rw [if_pos hr] at h
            exact absurd rfl h
          · rw [if_neg hr]
            refine ⟨rfl, ?_⟩
            rcases right_vals t.2 t.1 with e | e | e | e | e
            · exact absurd e hr
            all_goals (show rightZ t.2 t.1 = 3 ∨ rightZ t.2 t.1 = 4 ∨ rightZ t.2 t.1 = 6 ∨ rightZ t.2 t.1 = 7; omega)
end Go.Proofs.YtfejdengpnikeaaGreatDoor
