/-
  Layer 6, mathematics: the tokens of a pattern that stands within another one; of two patterns, one behind the other.
-/
import Derived.Test.YtdnbpbngoiahlaaGreatDoorLexToks
namespace Go.Proofs.YtdnbpbngoiahlaaGreatDoor

/-- The pattern p lies in r from n on, and no ? or + follows it. -/
structure Lies (p r : ByteArray) (n : Nat) : Prop where
  at_ : ∀ j, j < p.size → bt r (n + j) = bt p j
  m1 : bt r (n + p.size) ≠ 63
  m2 : bt r (n + p.size) ≠ 43
  sz : n + p.size ≤ r.size
variable {p r : ByteArray} {n : Nat}
theorem Lies.eq (h : Lies p r n) {j c : Nat} (hc : bt p j = c) (hn : c < 256) : bt r (n + j) = c := by
  rw [h.at_ j (bt_in (by omega)), hc]
theorem Lies.isD (h : Lies p r n) {j : Nat} (hj : j < p.size) : isD r (n + j) = Go.Proofs.YtdnbpbngoiahlaaGreatDoor.isD p j := by
  unfold Go.Proofs.YtdnbpbngoiahlaaGreatDoor.isD
  rw [h.at_ j hj]
theorem esc_loc (h : Lies p r n) {i : Nat} (he : (escZ p i).2 ≠ 0) : escZ r (n + i) = ((escZ p i).1, n + (escZ p i).2) := by
  by_cases h1 : p.size ≤ i + 1
  · exact absurd (show (escZ p i).2 = 0 by unfold escZ; rw [if_pos h1]) he
  · have h1r : ¬ r.size ≤ n + i + 1 := by have := h.sz; omega
    have b1 : bt r (n + i + 1) = bt p (i + 1) := h.at_ (i + 1) (by omega)
    unfold escZ at he ⊢
    rw [if_neg h1] at he ⊢
    rw [if_neg h1r, b1]
    cases hn : nameS (bt p (i + 1)) with
    | some S => rfl
    | none =>
      rw [hn] at he
      simp only [] at he ⊢
      by_cases hx : bt p (i + 1) = 120 ∧ i + 3 < p.size ∧ 0 ≤ hexZ (bt p (i + 2)) ∧ 0 ≤ hexZ (bt p (i + 3))
      · have b2 : bt r (n + i + 2) = bt p (i + 2) := h.at_ (i + 2) (by omega)
        have b3 : bt r (n + i + 3) = bt p (i + 3) := h.at_ (i + 3) (by omega)
        rw [if_pos hx, if_pos ⟨hx.1, by have := h.sz; omega, by rw [b2]; exact hx.2.2.1, by rw [b3]; exact hx.2.2.2⟩, b2, b3]
        rfl
      · rw [if_neg hx] at he ⊢
        by_cases hw : bt p (i + 1) = 95 ∨ mem wordS (bt p (i + 1)) = false
        · have h120 : bt p (i + 1) ≠ 120 := by
            intro e
            rw [e] at hw
            rcases hw with hw | hw
            · exact absurd hw (by decide)
            · exact absurd hw (by decide +kernel)
          rw [if_neg (fun hc => h120 hc.1)]
          simp only [if_pos hw, Nat.add_assoc]
        · rw [if_neg hw] at he
          exact absurd rfl he
theorem item_loc (h : Lies p r n) {i : Nat} (he : (itemZ p i).2 ≠ 0) : itemZ r (n + i) = ((itemZ p i).1, n + (itemZ p i).2) := by
  by_cases h1 : p.size ≤ i ∨ bt p i = 91 ∨ bt p i = 93 ∨ bt p i = 45
  · exact absurd (show (itemZ p i).2 = 0 by unfold itemZ; rw [if_pos h1]) he
  · have hi : i < p.size := by omega
    have b0 : bt r (n + i) = bt p i := h.at_ i hi
    have h2 : ¬ (r.size ≤ n + i ∨ bt r (n + i) = 91 ∨ bt r (n + i) = 93 ∨ bt r (n + i) = 45) := by rw [b0]; have := h.sz; omega
    unfold itemZ at he ⊢
    rw [if_neg h1] at he ⊢
    rw [if_neg h2, b0]
    by_cases h92 : bt p i = 92
    · rw [if_pos h92] at he ⊢
      rw [if_pos h92]
      exact esc_loc h he
    · rw [if_neg h92, if_neg h92]
      rfl
theorem cls_loc (h : Lies p r n) : ∀ (f a : Nat) (s : BitVec 256) (b : Bool) (x : BitVec 256 × Nat), a ≤ p.size → clsF p f a s b = some x → ∀ f', f ≤ f' → clsF r f' (n + a) s b = some (x.1, n + x.2)
  | 0, a, s, b, x, _, hc, _, _ => by cases hc
  | f + 1, a, s, b, x, ha, hc, f', hf => by
    obtain ⟨f', rfl⟩ : ∃ g, f' = g + 1 := ⟨f' - 1, by omega⟩
    have hup := cls_up p (f + 1) a s b x ha hc
    have ba : bt r (n + a) = bt p a := h.at_ a (by omega)
    rw [clsF] at hc ⊢
    rw [ba]
    by_cases h1 : b = false ∧ bt p a = 93
    · rw [if_pos h1] at hc ⊢
      obtain rfl := Option.some.inj hc
      rfl
    · rw [if_neg h1] at hc ⊢
      simp only [] at hc ⊢
      by_cases h2 : (itemZ p a).2 = 0
      · rw [if_pos h2] at hc; cases hc
      · rw [if_neg h2] at hc
        have hi := item_loc h h2
        have hu := (itemZ_up p a).resolve_left h2
        rw [hi]
        simp only []
        rw [if_neg (by omega)]
        by_cases h3 : bt p (itemZ p a).2 = 45
        · have b3 : bt r (n + (itemZ p a).2) = 45 := h.eq h3 (by decide)
          rw [if_pos h3] at hc
          rw [if_pos b3]
          by_cases h4 : (itemZ p ((itemZ p a).2 + 1)).2 = 0 ∨ lenS (itemZ p a).1 ≠ 1 ∨ lenS (itemZ p ((itemZ p a).2 + 1)).1 ≠ 1 ∨ minS (itemZ p ((itemZ p a).2 + 1)).1 < minS (itemZ p a).1
          · rw [if_pos h4] at hc; cases hc
          · rw [if_neg h4] at hc
            have h5 : (itemZ p ((itemZ p a).2 + 1)).2 ≠ 0 := fun e => h4 (.inl e)
            have hj := item_loc h h5
            have hv := (itemZ_up p ((itemZ p a).2 + 1)).resolve_left h5
            rw [show n + (itemZ p a).2 + 1 = n + ((itemZ p a).2 + 1) by omega, hj]
            simp only []
            rw [if_neg (by rintro (e | e); · omega
                           · exact h4 (.inr e))]
            exact cls_loc h f _ _ _ _ (by omega) hc f' (by omega)
        · rw [if_neg h3] at hc
          have hn := cls_up p f _ _ _ _ (by omega) hc
          rw [if_neg (by rw [h.at_ _ (by omega)]; exact h3)]
          exact cls_loc h f _ _ _ _ (by omega) hc f' (by omega)
theorem class_loc (h : Lies p r n) {i : Nat} (hi : i < p.size) (hb : bt p i = 91) (he : (classZ p i).2.2 = 0) : classZ r (n + i) = ((classZ p i).1, n + (classZ p i).2.1, 0) := by
  have b0 : bt r (n + i) = 91 := h.eq hb (by decide)
  have hs := h.sz
  rw [class_eq hi hb] at he ⊢
  rw [class_eq (p := r) (i := n + i) (by omega) b0]
  obtain ⟨a, ha⟩ : ∃ a, a = (if bt p (i + 1) = 94 then i + 2 else i + 1) := ⟨_, rfl⟩
  have hap : a ≤ p.size := by
    rw [ha]
    split
    · rename_i h2
      have := bt_in (p := p) (i := i + 1) (by omega)
      omega
    · omega
  rw [← ha] at he ⊢
  cases hc : clsF p (p.size + 1) a 0#256 true with
  | none => rw [hc] at he; exact absurd (show (3 : Int) = 0 from he) (by decide)
  | some x =>
    have hu := cls_up p _ _ _ _ _ hap hc
    have hi1 : i + 1 < p.size := by
      have : i + 1 ≤ a := by rw [ha]; split <;> omega
      omega
    have b1 : bt r (n + i + 1) = bt p (i + 1) := h.at_ (i + 1) hi1
    have har : (if bt r (n + i + 1) = 94 then n + i + 2 else n + i + 1) = n + a := by
      rw [b1, ha]
      split <;> omega
    rw [har, cls_loc h _ _ _ _ _ hap hc (r.size + 1) (by omega), b1]
    rfl
theorem count_loc (h : Lies p r n) {a : Nat} (hc : (countZ p a).2 < p.size) : countZ r (n + a) = ((countZ p a).1, n + (countZ p a).2) := by
  unfold countZ at hc ⊢
  by_cases h0 : isD p a = false
  · rw [if_pos h0] at hc ⊢
    rw [if_pos (by rw [h.isD hc]; exact h0)]
  · rw [if_neg h0] at hc ⊢
    have ha : a < p.size := by
      by_cases hl : a < p.size
      · exact hl
      · exact absurd (isD_no (by omega)) h0
    rw [if_neg (by rw [h.isD ha]; exact h0), h.at_ a ha]
    by_cases h1 : isD p (a + 1) = false
    · rw [if_pos h1] at hc ⊢
      rw [if_pos (by rw [show n + a + 1 = n + (a + 1) by omega, h.isD hc]; exact h1)]
      rfl
    · rw [if_neg h1] at hc ⊢
      have ha1 : a + 1 < p.size := by
        by_cases hl : a + 1 < p.size
        · exact hl
        · exact absurd (isD_no (by omega)) h1
      rw [if_neg (by rw [show n + a + 1 = n + (a + 1) by omega, h.isD ha1]; exact h1), show n + a + 1 = n + (a + 1) by omega, h.at_ _ ha1]
      by_cases h2 : isD p (a + 2) = false
      · rw [if_pos h2] at hc ⊢
        rw [if_pos (by rw [show n + a + 2 = n + (a + 2) by omega, h.isD hc]; exact h2)]
        rfl
      · rw [if_neg h2] at hc ⊢
        have ha2 : a + 2 < p.size := by
          by_cases hl : a + 2 < p.size
          · exact hl
          · exact absurd (isD_no (by omega)) h2
        rw [if_neg (by rw [show n + a + 2 = n + (a + 2) by omega, h.isD ha2]; exact h2), show n + a + 2 = n + (a + 2) by omega, h.at_ _ ha2]
        rfl
theorem Lies.md (h : Lies p r n) {j : Nat} (hj : j ≤ p.size) : mdV (bt r (n + j)) = mdV (bt p j) ∧ mdN (bt r (n + j)) = mdN (bt p j) := by
  by_cases hl : j < p.size
  · rw [h.at_ j hl]
    exact ⟨rfl, rfl⟩
  · obtain rfl : j = p.size := by omega
    have m1 := h.m1
    have m2 := h.m2
    rw [bt_no (p := p) (Nat.le_refl _)]
    unfold mdV mdN
    refine ⟨?_, ?_⟩
    · rw [if_neg m1, if_neg m2]; rfl
    · rw [if_neg (by omega)]; rfl
theorem braces_loc (h : Lies p r n) {i : Nat} (he : (bracesZ p i).2.2 = 0) : bracesZ r (n + i) = ((bracesZ p i).1, n + (bracesZ p i).2.1, 0) ∧ (bracesZ p i).2.1 ≤ p.size ∧ (bracesZ p i).1.md = 0 := by
  have hcs := count_spec p (i + 1)
  unfold bracesZ at he ⊢
  simp only [] at he ⊢
  by_cases h0 : (countZ p (i + 1)).2 = i + 1
  · rw [if_pos h0] at he
    exact absurd (show (3 : Int) = 0 from he) (by decide)
  · rw [if_neg h0] at he
    simp only [if_neg h0]
    obtain ⟨A, hA⟩ : ∃ A, A = countZ p (i + 1) := ⟨_, rfl⟩
    rw [← hA] at he h0 hcs ⊢
    by_cases h44 : bt p A.2 = 44
    · have hA2 : A.2 < p.size := bt_in (by omega)
      have cA : countZ r (n + i + 1) = (A.1, n + A.2) := by rw [show n + i + 1 = n + (i + 1) by omega, count_loc h (by rw [← hA]; exact hA2), ← hA]
      have bA : bt r (n + A.2) = 44 := h.eq h44 (by decide)
      rw [cA]
      simp only [if_pos h44] at he ⊢
      simp only [bA, if_true]
      obtain ⟨B, hB⟩ : ∃ B, B = countZ p (A.2 + 1) := ⟨_, rfl⟩
      rw [← hB] at he ⊢
      by_cases h125 : bt p B.2 ≠ 125
      · rw [if_pos h125] at he
        exact absurd (show (3 : Int) = 0 from he) (by decide)
      · rw [if_neg h125] at he
        have h125' : bt p B.2 = 125 := by omega
        have hB2 : B.2 < p.size := bt_in (by omega)
        have cB : countZ r (n + A.2 + 1) = (B.1, n + B.2) := by rw [show n + A.2 + 1 = n + (A.2 + 1) by omega, count_loc h (by rw [← hB]; exact hB2), ← hB]
        have bB : bt r (n + B.2) = 125 := h.eq h125' (by decide)
        rw [cB]
        simp only []
        have hv : (if n + B.2 = n + A.2 + 1 then (-1 : Int) else (B.1 : Int)) = (if B.2 = A.2 + 1 then (-1 : Int) else (B.1 : Int)) := by
          by_cases e : B.2 = A.2 + 1
          · rw [if_pos e, if_pos (by omega)]
          · rw [if_neg e, if_neg (by omega)]
        rw [hv, bB, if_neg (show ¬ n + A.2 = n + i + 1 by omega), if_neg (show ¬ (125 : Nat) ≠ 125 by decide), if_neg h125]
        generalize (if B.2 = A.2 + 1 then (-1 : Int) else (B.1 : Int)) = b at he ⊢
        by_cases h1 : 100 < A.1 ∨ 100 < b
        · rw [if_pos h1] at he
          exact absurd (show (4 : Int) = 0 from he) (by decide)
        · rw [if_neg h1] at he
          simp only [if_neg h1]
          by_cases h2 : 0 ≤ b ∧ b < A.1
          · rw [if_pos h2] at he
            exact absurd (show (3 : Int) = 0 from he) (by decide)
          · simp only [if_neg h2]
            exact ⟨rfl, hB2, rfl⟩
    · simp only [if_neg h44] at he ⊢
      by_cases h125 : bt p A.2 ≠ 125
      · rw [if_pos h125] at he
        exact absurd (show (3 : Int) = 0 from he) (by decide)
      · rw [if_neg h125] at he
        have h125' : bt p A.2 = 125 := by omega
        have hA2 : A.2 < p.size := bt_in (by omega)
        have cA : countZ r (n + i + 1) = (A.1, n + A.2) := by rw [show n + i + 1 = n + (i + 1) by omega, count_loc h (by rw [← hA]; exact hA2), ← hA]
        have bA : bt r (n + A.2) = 125 := h.eq h125' (by decide)
        rw [cA]
        simp only []
        rw [bA, if_neg (show ¬ n + A.2 = n + i + 1 by omega)]
        simp only [show ¬ (125 : Nat) = 44 by decide, if_false]
        rw [bA, if_neg (show ¬ (125 : Nat) ≠ 125 by decide), if_neg h125]
        by_cases h1 : 100 < A.1 ∨ 100 < (A.1 : Int)
        · rw [if_pos h1] at he
          exact absurd (show (4 : Int) = 0 from he) (by decide)
        · rw [if_neg h1] at he
          simp only [if_neg h1]
          by_cases h2 : 0 ≤ (A.1 : Int) ∧ (A.1 : Int) < A.1
          · omega
          · simp only [if_neg h2]
            exact ⟨rfl, hA2, rfl⟩
theorem quant_loc (h : Lies p r n) {i : Nat} (hi : i < p.size) (hq : bt p i = 42 ∨ bt p i = 43 ∨ bt p i = 63 ∨ bt p i = 123) (he : (quantZ p i).2.2 = 0) : quantZ r (n + i) = ((quantZ p i).1, n + (quantZ p i).2.1, 0) := by
  have b0 : bt r (n + i) = bt p i := h.at_ i hi
  have hm := h.md (j := i + 1) (by omega)
  rcases hq with hq | hq | hq | hq
  · rw [quant_42 hq, quant_42 (b0.trans hq), show n + i + 1 = n + (i + 1) by omega, hm.1, hm.2]
    simp only [Nat.add_assoc]
  · rw [quant_43 hq, quant_43 (b0.trans hq), show n + i + 1 = n + (i + 1) by omega, hm.1, hm.2]
    simp only [Nat.add_assoc]
  · rw [quant_63 hq, quant_63 (b0.trans hq), show n + i + 1 = n + (i + 1) by omega, hm.1, hm.2]
    simp only [Nat.add_assoc]
  · unfold quantZ at he ⊢
    rw [if_pos hq] at he ⊢
    rw [if_pos (b0.trans hq)]
    by_cases hb : (bracesZ p i).2.2 = 0
    · obtain ⟨h1, h2, h3⟩ := braces_loc h hb
      rw [if_pos hb, h1, if_pos rfl]
      have hm2 := h.md h2
      have e : bracesZ p i = ((bracesZ p i).1, (bracesZ p i).2.1, 0) := by rw [← hb]
      rw [mode_eq _ _ _ h3, hm2.1, hm2.2, e, mode_eq _ _ _ h3]
      simp only [Nat.add_assoc]
    · rw [if_neg hb] at he
      exact absurd he hb
theorem flags_loc (h : Lies p r n) : ∀ (f i : Nat) (l : List UInt8), (flagsF p f i l).2.2 = 0 → ∀ f', f ≤ f' → flagsF r f' (n + i) l = ((flagsF p f i l).1, n + (flagsF p f i l).2.1, 0)
  | 0, i, l, he, _, _ => absurd (show (3 : Int) = 0 from he) (by decide)
  | f + 1, i, l, he, f', hf => by
    obtain ⟨f', rfl⟩ : ∃ g, f' = g + 1 := ⟨f' - 1, by omega⟩
    by_cases hi : i < p.size
    · have hir : n + i < r.size := by have := h.sz; omega
      have b0 : bt r (n + i) = bt p i := h.at_ i hi
      have hu : r[n + i]'hir = p[i]'hi := by
        rw [bt_at hi, bt_at hir] at b0
        exact UInt8.toNat_inj.1 b0
      rw [flagsF, dif_pos hi] at he
      rw [flagsF, dif_pos hir, flagsF, dif_pos hi, b0, hu]
      by_cases h1 : bt p i = 58 ∧ l ≠ []
      · simp only [if_pos h1]
        rfl
      · rw [if_neg h1] at he
        simp only [if_neg h1]
        by_cases h2 : bt p i ≠ 105 ∧ bt p i ≠ 109 ∧ bt p i ≠ 115
        · rw [if_pos h2] at he
          exact absurd (show (3 : Int) = 0 from he) (by decide)
        · rw [if_neg h2] at he
          simp only [if_neg h2]
          by_cases h3 : p[i]'hi ∈ l
          · rw [if_pos h3] at he
            exact absurd (show (3 : Int) = 0 from he) (by decide)
          · rw [if_neg h3] at he
            simp only [if_neg h3]
            exact flags_loc h f (i + 1) _ he f' (by omega)
    · rw [flagsF, dif_neg hi] at he
      exact absurd (show (3 : Int) = 0 from he) (by decide)
theorem flags_at_end (p : ByteArray) (f i : Nat) (l : List UInt8) (hb : bt p i = 256 ∨ bt p i = 60) : (flagsF p f i l).2.2 ≠ 0 := by
  cases f with
  | zero => exact fun h => absurd (show (3 : Int) = 0 from h) (by decide)
  | succ f =>
    rw [flagsF]
    split
    · rw [if_neg (by omega), if_pos (by omega)]
      exact fun h => absurd (show (3 : Int) = 0 from h) (by decide)
    · exact fun h => absurd (show (3 : Int) = 0 from h) (by decide)
theorem open_loc (h : Lies p r n) {i : Nat} (hi : i < p.size) (h40 : bt p i = 40) (he : (tokZ p i).2.2 = 0) : tokZ r (n + i) = ((tokZ p i).1, n + (tokZ p i).2.1, 0) := by
  have r40 : bt r (n + i) = 40 := h.eq h40 (by decide)
  by_cases h63 : bt p (i + 1) = 63
  · have r63 : bt r (n + i + 1) = 63 := by rw [show n + i + 1 = n + (i + 1) by omega]; exact h.eq h63 (by decide)
    rw [tok_open2 h40 h63] at he ⊢
    rw [tok_open2 r40 r63]
    by_cases hl : i + 2 < p.size
    · have b2 : bt r (n + i + 2) = bt p (i + 2) := h.at_ (i + 2) hl
      rw [b2]
      have hfl := fun he => flags_loc h (p.size + 1) (i + 2) [] he (r.size + 1) (by have := h.sz; omega)
      rw [show n + (i + 2) = n + i + 2 by omega] at hfl
      by_cases a : bt p (i + 2) = 58
      · simp only [if_pos a]; simp [Nat.add_assoc]
      simp only [if_neg a] at he ⊢
      by_cases b : bt p (i + 2) = 61
      · simp only [if_pos b]; simp [Nat.add_assoc]
      simp only [if_neg b] at he ⊢
      by_cases c : bt p (i + 2) = 33
      · simp only [if_pos c]; simp [Nat.add_assoc]
      simp only [if_neg c] at he ⊢
      by_cases d : bt p (i + 2) = 60
      · by_cases hl3 : i + 3 < p.size
        · have b3 : bt r (n + i + 3) = bt p (i + 3) := h.at_ (i + 3) hl3
          rw [b3]
          by_cases e : bt p (i + 3) = 61
          · simp only [d, e, and_self, if_true]; simp [Nat.add_assoc]
          · by_cases f : bt p (i + 3) = 33
            · simp only [d, f, and_true, if_true, and_false, if_false, show ¬ (33 : Nat) = 61 by decide]; simp [Nat.add_assoc]
            · simp only [d, e, f, and_false, if_false, show ¬ (60 : Nat) = 62 by decide] at he
              exact absurd he (flags_at_end p _ _ _ (.inr d))
        · have e3 : bt p (i + 3) = 256 := bt_no (by omega)
          simp only [d, e3, show ¬ (256 : Nat) = 61 by decide, show ¬ (256 : Nat) = 33 by decide, and_false, if_false, show ¬ (60 : Nat) = 62 by decide] at he
          exact absurd he (flags_at_end p _ _ _ (.inr d))
      · simp only [d, false_and, if_false] at he ⊢
        by_cases e : bt p (i + 2) = 62
        · simp only [if_pos e]; simp [Nat.add_assoc]
        · simp only [if_neg e] at he ⊢
          exact hfl he
    · have e2 : bt p (i + 2) = 256 := bt_no (by omega)
      simp only [e2, show ¬ (256 : Nat) = 58 by decide, show ¬ (256 : Nat) = 61 by decide, show ¬ (256 : Nat) = 33 by decide, show ¬ (256 : Nat) = 60 by decide, show ¬ (256 : Nat) = 62 by decide, false_and, if_false] at he
      exact absurd he (flags_at_end p _ _ _ (.inl e2))
  · have r63 : bt r (n + i + 1) ≠ 63 := by
      rw [show n + i + 1 = n + (i + 1) by omega]
      by_cases hl : i + 1 < p.size
      · rw [h.at_ _ hl]; exact h63
      · rw [show i + 1 = p.size by omega]; exact h.m1
    rw [tok_open h40 h63, tok_open r40 r63]
    rfl
theorem escape_loc (h : Lies p r n) {i : Nat} (h92 : bt p i = 92) (he : (tokZ p i).2.2 = 0) : tokZ r (n + i) = ((tokZ p i).1, n + (tokZ p i).2.1, 0) := by
  have r92 : bt r (n + i) = 92 := h.eq h92 (by decide)
  rw [tok_esc h92] at he ⊢
  rw [tok_esc r92]
  by_cases hl : i + 1 < p.size
  · have b1 : bt r (n + i + 1) = bt p (i + 1) := h.at_ (i + 1) hl
    rw [b1]
    by_cases a : bt p (i + 1) = 98
    · simp only [if_pos a]; simp [Nat.add_assoc]
    simp only [if_neg a] at he ⊢
    by_cases b : bt p (i + 1) = 66
    · simp only [if_pos b]; simp [Nat.add_assoc]
    simp only [if_neg b] at he ⊢
    by_cases c : 49 ≤ bt p (i + 1) ∧ bt p (i + 1) ≤ 57
    · simp only [if_pos c]; simp [Nat.add_assoc]
    simp only [if_neg c] at he ⊢
    by_cases d : (escZ p i).2 = 0
    · rw [if_pos d] at he
      exact absurd (show (3 : Int) = 0 from he) (by decide)
    · have hu := (escZ_up p i).resolve_left d
      rw [esc_loc h d]
      simp only [if_neg d]
      rw [if_neg (show ¬ n + (escZ p i).2 = 0 by omega)]
  · have e1 : bt p (i + 1) = 256 := bt_no (by omega)
    have d : (escZ p i).2 = 0 := by unfold escZ; rw [if_pos (by omega)]
    simp only [e1, d, show ¬ (256 : Nat) = 98 by decide, show ¬ (256 : Nat) = 66 by decide, show ¬ (49 ≤ 256 ∧ 256 ≤ 57) by decide, if_false, if_true] at he
    exact absurd (show (3 : Int) = 0 from he) (by decide)
theorem tok_loc (h : Lies p r n) {i : Nat} (hi : i < p.size) (he : (tokZ p i).2.2 = 0) : tokZ r (n + i) = ((tokZ p i).1, n + (tokZ p i).2.1, 0) := by
  have b0 : bt r (n + i) = bt p i := h.at_ i hi
  by_cases h46 : bt p i = 46
  · rw [tok_46 h46, tok_46 (b0.trans h46)]; rfl
  by_cases h94 : bt p i = 94
  · rw [tok_94 h94, tok_94 (b0.trans h94)]; rfl
  by_cases h36 : bt p i = 36
  · rw [tok_36 h36, tok_36 (b0.trans h36)]; rfl
  by_cases h124 : bt p i = 124
  · rw [tok_124 h124, tok_124 (b0.trans h124)]; rfl
  by_cases h41 : bt p i = 41
  · rw [tok_41 h41, tok_41 (b0.trans h41)]; rfl
  by_cases h93 : bt p i = 93
  · rw [tok_93 h93] at he; exact absurd (show (3 : Int) = 0 from he) (by decide)
  by_cases h125 : bt p i = 125
  · rw [tok_125 h125] at he; exact absurd (show (3 : Int) = 0 from he) (by decide)
  by_cases h91 : bt p i = 91
  · rw [tok_91 h91] at he ⊢
    rw [tok_91 (b0.trans h91), class_loc h hi h91 he]
  by_cases h40 : bt p i = 40
  · exact open_loc h hi h40 he
  by_cases hq : bt p i = 42 ∨ bt p i = 43 ∨ bt p i = 63 ∨ bt p i = 123
  · rw [tok_quant hq] at he ⊢
    rw [tok_quant (by rw [b0]; exact hq)]
    exact quant_loc h hi hq he
  by_cases h92 : bt p i = 92
  · exact escape_loc h h92 he
  · have hno : ∀ c ∈ [46, 94, 36, 124, 41, 40, 42, 43, 63, 123, 91, 93, 125, 92], bt p i ≠ c := by
      simp only [List.mem_cons, List.mem_nil_iff, or_false, forall_eq_or_imp, forall_eq]
      omega
    rw [tok_byte hno, tok_byte (by rw [b0]; exact hno), b0]
    rfl
/-- The tokens of p are gone through where p lies in r. -/
theorem lex_loc (h : Lies p r n) (m : List Tok) : ∀ (f i : Nat) (l b : List Tok), i ≤ p.size → p.size + 1 ≤ f + i → lexF p f i l = (b, 0) → LexI r (n + i) (m ++ l) → LexI r (n + p.size) (m ++ b)
  | 0, i, l, b, hi, hf, _, _ => by omega
  | f + 1, i, l, b, hi, hf, he, hI => by
    rw [lexF] at he
    by_cases hl : p.size ≤ i
    · rw [if_pos hl] at he
      obtain rfl : l = b := congrArg Prod.fst he
      obtain rfl : i = p.size := by omega
      exact hI
    · rw [if_neg hl] at he
      by_cases h0 : (tokZ p i).2.2 ≠ 0
      · rw [if_pos h0] at he
        exact absurd (show (tokZ p i).2.2 = 0 from congrArg Prod.snd he) h0
      · rw [if_neg h0] at he
        have h0' : (tokZ p i).2.2 = 0 := by omega
        have hu := tok_up p i (by omega) h0'
        have ht := tok_loc h (i := i) (by omega) h0'
        have hs := h.sz
        have hn := lex_next hI (by omega) (by rw [ht]) (by rw [ht]; show n + i + 1 ≤ n + _; omega)
        rw [ht, List.append_assoc] at hn
        exact lex_loc h m f _ _ b (by omega) (by omega) he hn
theorem lex_err {p : ByteArray} (h : (lexZ p).2 ≠ 0) : (lexZ p).1 = [] := by
  have H : ∀ (f i : Nat) (l : List Tok), (lexF p f i l).2 ≠ 0 → (lexF p f i l).1 = [] := by
    intro f
    induction f with
    | zero => intro i l h; exact absurd rfl h
    | succ f ih =>
      intro i l h
      rw [lexF] at h ⊢
      by_cases h1 : p.size ≤ i
      · rw [if_pos h1] at h; exact absurd rfl h
      · rw [if_neg h1] at h ⊢
        by_cases h2 : (tokZ p i).2.2 ≠ 0
        · rw [if_pos h2]
        · rw [if_neg h2] at h ⊢; exact ih _ _ h
  unfold lexZ at h ⊢
  by_cases h1 : 1000 < p.size
  · rw [if_pos h1]
  · rw [if_neg h1] at h ⊢; exact H _ _ _ h
theorem bt_left (p q : ByteArray) {j : Nat} (hj : j < p.size) : bt (p ++ q) j = bt p j := by
  have h2 : j < (p ++ q).size := by rw [ByteArray.size_append]; omega
  rw [bt_at hj, bt_at h2, ByteArray.getElem_append_left hj]
theorem bt_right (p q : ByteArray) (j : Nat) : bt (p ++ q) (p.size + j) = bt q j := by
  by_cases hj : j < q.size
  · have h2 : p.size + j < (p ++ q).size := by rw [ByteArray.size_append]; omega
    rw [bt_at hj, bt_at h2, ByteArray.getElem_append_right (by omega)]
    congr 2
    omega
  · rw [bt_no (by rw [ByteArray.size_append]; omega), bt_no (by omega)]
/-- The tokens of two patterns, one behind the other. -/
theorem lex_join (p q : ByteArray) (a b : List Tok) (hs : p.size + q.size ≤ 1000) (h1 : bt q 0 ≠ 63) (h2 : bt q 0 ≠ 43) (ha : lexZ p = (a, 0)) (hb : lexZ q = (b, 0)) : lexZ (p ++ q) = (a ++ b, 0) := by
  have hz : (p ++ q).size = p.size + q.size := ByteArray.size_append
  have hp : Lies p (p ++ q) 0 := ⟨fun j hj => by rw [Nat.zero_add]; exact bt_left p q hj, by rw [Nat.zero_add]; have := bt_right p q 0; rw [Nat.add_zero] at this; rw [this]; exact h1, by rw [Nat.zero_add]; have := bt_right p q 0; rw [Nat.add_zero] at this; rw [this]; exact h2, by omega⟩
  have he : bt (p ++ q) (p.size + q.size) = 256 := bt_no (by omega)
  have hq : Lies q (p ++ q) p.size := ⟨fun j _ => bt_right p q j, by rw [he]; decide, by rw [he]; decide, by omega⟩
  unfold lexZ at ha hb ⊢
  rw [if_neg (by omega)] at ha hb ⊢
  have s1 := lex_loc hp [] (p.size + 1) 0 [] a (Nat.zero_le _) (by omega) ha (lex_0 _)
  rw [Nat.zero_add, List.nil_append] at s1
  have s2 := lex_loc hq a (q.size + 1) 0 [] b (Nat.zero_le _) (by omega) hb (by rw [List.append_nil, Nat.add_zero]; exact s1)
  exact lex_end s2 (by omega)
end Go.Proofs.YtdnbpbngoiahlaaGreatDoor
