import Derived.Test.YtdnbpbngoiahlaaGreatDoorLexUp
import Derived.Test.YtdnbpbngoiahlaaGreatDoorLexToks
import Derived.Test.YtdnbpbngoiahlaaGreatDoorParA
import Derived.Test.YtdnbpbngoiahlaaGreatDoorAstI
namespace Go.Proofs.YtdnbpbngoiahlaaGreatDoor
def TokOk (t : Tok) : Prop := 0 ≤ t.k ∧ t.k < 18 ∧ (t.k = 16 → (0 ≤ t.mx → t.mn ≤ t.mx) ∧ 0 ≤ t.mn ∧ t.mn ≤ 100 ∧ t.mx ≤ 100 ∧ 0 ≤ t.md ∧ t.md ≤ 2) ∧ (t.k = 17 → 1 ≤ t.n ∧ t.n ≤ 9)
def ResOk (r : TokR) : Prop := r.2.2 = 3 ∨ r.2.2 = 4 ∨ r.2.2 = 0 ∧ TokOk r.1
theorem ok_plain {t : Tok} (h0 : 0 ≤ t.k) (h1 : t.k < 16) : TokOk t := ⟨h0, by omega, fun h => by omega, fun h => by omega⟩
theorem ok_tok {t : Tok} {i : Nat} (h : TokOk t) : ResOk (t, i, 0) := .inr (.inr ⟨rfl, h⟩)
theorem ok_3 : ResOk (wrongT 3) := .inl rfl
theorem ok_4 : ResOk (wrongT 4) := .inr (.inl rfl)
theorem ok_flags (p : ByteArray) : ∀ (f i : Nat) (l : List UInt8), ResOk (flagsF p f i l)
 | 0, _, _ => ok_3
 | f + 1, i, l => by
   rw [flagsF]
   split
   ·split
    ·exact ok_tok (ok_plain (show (0 : Int) ≤ 14 by decide) (show (14 : Int) < 16 by decide))
    ·split
     ·exact ok_3
     ·split
      ·exact ok_3
      ·exact ok_flags p f _ _
   ·exact ok_3
theorem ok_head (p : ByteArray) (i : Nat) : ∀ (l : List (List Nat × Int)), (∀ x ∈ l, 0 ≤ x.2 ∧ x.2 < 16) → ∀ r, headF p i l = some r → ResOk r
 | [], _, r, h => by cases h
 | x :: l, hl, r, h => by
   rw [headF] at h
   split at h
   ·obtain rfl := Option.some.inj h
    have := hl x (by simp)
    exact ok_tok (ok_plain this.1 this.2)
   ·exact ok_head p i l (fun y hy => hl y (by simp [hy])) r h
def QuantOk (t : Tok) : Prop := t.k = 16 ∧ (0 ≤ t.mx → t.mn ≤ t.mx) ∧ 0 ≤ t.mn ∧ t.mn ≤ 100 ∧ t.mx ≤ 100 ∧ t.md = 0
theorem ok_mode (p : ByteArray) {x : TokR} (h : x.2.2 = 0) (hq : QuantOk x.1) : ResOk (modeZ p x) := by
 obtain ⟨h1, h2, h3, h4, h5, h6⟩ := hq
 have hk (m : Int) (hm : 0 ≤ m ∧ m ≤ 2) : TokOk { x.1 with md := m } := ⟨by show 0 ≤ x.1.k; omega, by show x.1.k < 18; omega, fun _ => ⟨h2, h3, h4, h5, hm.1, hm.2⟩, fun hc => by
  have : x.1.k = 17 := hc
  omega⟩
 unfold modeZ
 split
 ·exact ok_tok (hk 1 (by decide))
 ·split
  ·exact ok_tok (hk 2 (by decide))
  ·refine .inr (.inr ⟨h, ?_⟩)
   have := hk 0 (by decide)
   rw [← h6] at this
   exact this
theorem braces_ok (p : ByteArray) (i : Nat) : (bracesZ p i).2.2 = 3 ∨ (bracesZ p i).2.2 = 4 ∨ (bracesZ p i).2.2 = 0 ∧ QuantOk (bracesZ p i).1 := by
 unfold bracesZ
 simp only []
 generalize countZ p (i + 1) = A
 split
 ·exact .inl rfl
 ·generalize hB : (if bt p A.2 = 44 then (if (countZ p (A.2 + 1)).2 = A.2 + 1 then -1 else ((countZ p (A.2 + 1)).1 : Int), (countZ p (A.2 + 1)).2) else ((A.1 : Int), A.2)) = B
  split
  ·exact .inl rfl
  ·split
   ·exact .inr (.inl rfl)
   ·split
    ·exact .inl rfl
    ·rename_i h1 h2
     refine .inr (.inr ⟨rfl, rfl, fun h => ?_, ?_, ?_, ?_, rfl⟩)
     ·have : (0 : Int) ≤ B.1 := h
      show (A.1 : Int) ≤ B.1
      omega
     ·show (0 : Int) ≤ (A.1 : Int)
      omega
     ·show (A.1 : Int) ≤ 100
      omega
     ·show B.1 ≤ 100
      omega
theorem ok_quant (p : ByteArray) (i : Nat) : ResOk (quantZ p i) := by
 unfold quantZ
 have hb := braces_ok p i
 split
 ·split
  ·rename_i h
   rcases hb with hb | hb | hb
   ·rw [h] at hb; exact absurd hb (by decide)
   ·rw [h] at hb; exact absurd hb (by decide)
   ·exact ok_mode p h hb.2
  ·rename_i h
   rcases hb with hb | hb | hb
   ·rw [hb]; exact ok_3
   ·rw [hb]; exact ok_4
   ·exact absurd hb.1 h
 ·refine ok_mode p rfl ⟨rfl, ?_, ?_, ?_, ?_, rfl⟩
  ·show (0 : Int) ≤ (if bt p i = 63 then 1 else -1) → (if bt p i = 43 then (1 : Int) else 0) ≤ (if bt p i = 63 then 1 else -1)
   (repeat' split) <;> omega
  ·show (0 : Int) ≤ (if bt p i = 43 then 1 else 0)
   split <;> omega
  ·show (if bt p i = 43 then (1 : Int) else 0) ≤ 100
   split <;> omega
  ·show (if bt p i = 63 then (1 : Int) else -1) ≤ 100
   split <;> omega
theorem class_res {p : ByteArray} {i : Nat} (hi : i < p.size) (hb : bt p i = 91) : (classZ p i).2.2 = 3 ∨ (classZ p i).2.2 = 0 := by
 unfold classZ
 rw [if_neg (by omega)]
 split
 ·exact .inl rfl
 ·exact .inr rfl
theorem heads_low : ∀ x ∈ headsL, (0 : Int) ≤ x.2 ∧ x.2 < 16 := by decide
theorem ok_lit {t : Tok} {i : Nat} (h : t.k = 0) : ResOk (t, i, 0) := ok_tok (ok_plain (by omega) (by omega))
theorem tok_res (p : ByteArray) (i : Nat) (hi : i < p.size) : ResOk (tokZ p i) := by
 unfold tokZ
 split
 ·rename_i x h
  exact ok_head p i headsL heads_low x h
 ·split
  ·exact ok_flags p _ _ _
  ·split
   ·exact ok_tok (ok_plain (show (0 : Int) ≤ 7 by decide) (show (7 : Int) < 16 by decide))
   ·split
    ·exact ok_quant p i
    ·split
     ·rename_i h
      rcases class_res hi h with hc | hc
      ·exact .inl hc
      ·exact .inr (.inr ⟨hc, ok_plain (show (0 : Int) ≤ 0 by decide) (show (0 : Int) < 16 by decide)⟩)
     ·split
      ·exact ok_3
      ·split
       ·exact ok_lit rfl
       ·split
        ·rename_i h
         refine ok_tok ⟨show (0 : Int) ≤ 17 by decide, show (17 : Int) < 18 by decide, fun hc => absurd (show (17 : Int) = 16 from hc) (by decide), fun _ => ?_⟩
         show (1 : Int) ≤ (bt p (i + 1) : Int) - 48 ∧ (bt p (i + 1) : Int) - 48 ≤ 9
         omega
        ·split
         ·exact ok_3
         ·exact ok_lit rfl
theorem few_F (p : ByteArray) : ∀ (f i : Nat) (l : List Tok), (∀ t ∈ l, TokOk t) → l.length ≤ i → i ≤ p.size →
  ((lexF p f i l).1 = [] ∧ ((lexF p f i l).2 = 3 ∨ (lexF p f i l).2 = 4)) ∨ ((lexF p f i l).2 = 0 ∧ (∀ t ∈ (lexF p f i l).1, TokOk t) ∧ l.length ≤ (lexF p f i l).1.length ∧ (lexF p f i l).1.length ≤ p.size)
 | 0, i, l, hl, h1, h2 => .inr ⟨rfl, hl, Nat.le_refl _, Nat.le_trans h1 h2⟩
 | f + 1, i, l, hl, h1, h2 => by
   rw [lexF]
   split
   ·exact .inr ⟨rfl, hl, Nat.le_refl _, Nat.le_trans h1 h2⟩
   ·rename_i hi
    have hr := tok_res p i (by omega)
    split
    ·rename_i he
     refine .inl ⟨rfl, ?_⟩
     rcases hr with hr | hr | hr
     ·exact .inl hr
     ·exact .inr hr
     ·exact absurd hr.1 he
    ·rename_i he
     have he0 : (tokZ p i).2.2 = 0 := by omega
     have hu := tok_up p i (by omega) he0
     have ht : TokOk (tokZ p i).1 := by
      rcases hr with hr | hr | hr
      ·omega
      ·omega
      ·exact hr.2
     rcases few_F p f (tokZ p i).2.1 (l ++ [(tokZ p i).1]) (fun t h => by
      rw [List.mem_append, List.mem_singleton] at h
      rcases h with h | rfl
      ·exact hl t h
      ·exact ht) (by simp; omega) (by omega) with h | ⟨a, b, c, d⟩
     ·exact .inl h
     ·exact .inr ⟨a, b, by simp at c; omega, d⟩
theorem few_lex (p : ByteArray) (hp : p.size ≤ 1000) :
  ((lexZ p).1 = [] ∧ ((lexZ p).2 = 3 ∨ (lexZ p).2 = 4)) ∨ ((lexZ p).2 = 0 ∧ (∀ t ∈ (lexZ p).1, TokOk t) ∧ (lexZ p).1.length ≤ p.size ∧ (0 < (lexZ p).1.length ↔ 0 < p.size)) := by
 unfold lexZ
 rw [if_neg (by omega)]
 rcases few_F p (p.size + 1) 0 [] (by simp) (by simp) (by omega) with h | ⟨a, b, -, d⟩
 ·exact .inl h
 ·refine .inr ⟨a, b, d, ?_, ?_⟩
  ·intro; omega
  ·intro h0
   rw [lexF] at a ⊢
   rw [if_neg (by omega)] at a ⊢
   have hr := tok_res p 0 (by omega)
   split
   ·rename_i he
    rw [if_pos he] at a
    exact absurd a he
   ·rename_i he
    have he0 : (tokZ p 0).2.2 = 0 := by omega
    have hu := tok_up p 0 (by omega) he0
    have ht : TokOk (tokZ p 0).1 := by
     rcases hr with hr | hr | hr
     ·omega
     ·omega
     ·exact hr.2
    rw [if_neg he] at a
    rcases few_F p p.size (tokZ p 0).2.1 ([] ++ [(tokZ p 0).1]) (by simpa using ht) (by simp; omega) (by omega) with h | ⟨-, -, c, -⟩
    ·exfalso
     rcases h.2 with h | h <;> rw [h] at a <;> exact absurd a (by decide)
    ·simp only [List.nil_append, List.length_cons, List.length_nil] at c ⊢
     omega
end Go.Proofs.YtdnbpbngoiahlaaGreatDoor
namespace Go.Proofs.YtdnbpbngoiahlaaGreatDoor
structure Lies (p r : ByteArray) (n : Nat) : Prop where
 at_ : ∀ j, j < p.size → bt r (n + j) = bt p j
 m1 : bt r (n + p.size) ≠ 63
 m2 : bt r (n + p.size) ≠ 43
 sz : n + p.size ≤ r.size
variable {p r : ByteArray} {n : Nat}
theorem Lies.isD (h : Lies p r n) {j : Nat} (hj : j < p.size) : isD r (n + j) = Go.Proofs.YtdnbpbngoiahlaaGreatDoor.isD p j := by
 unfold Go.Proofs.YtdnbpbngoiahlaaGreatDoor.isD
 rw [h.at_ j hj]
theorem Lies.md (h : Lies p r n) {j : Nat} (hj : j ≤ p.size) : mdV (bt r (n + j)) = mdV (bt p j) ∧ mdN (bt r (n + j)) = mdN (bt p j) := by
 by_cases hl : j < p.size
 ·rw [h.at_ j hl]
  exact ⟨rfl, rfl⟩
 ·obtain rfl : j = p.size := by omega
  have m1 := h.m1
  have m2 := h.m2
  rw [bt_no (p := p) (Nat.le_refl _)]
  unfold mdV mdN
  refine ⟨?_, ?_⟩
  ·rw [if_neg m1, if_neg m2]; rfl
  ·rw [if_neg (by omega)]; rfl
end Go.Proofs.YtdnbpbngoiahlaaGreatDoor
namespace Go.Proofs.YtdnbpbngoiahlaaGreatDoor
open Ast (Nd joinL wrapL deepZ rightZ cntG)
def endQ (t : Tr) (g : Nat) : List Tok → Rd
 | [] => .got t g []
 | x :: r => if x.k = 16 then shal (wrapT t (repN x)) g r else .got t g (x :: r)
def endW (t : Tr) (g : Nat) : List Tok → Rd
 | [] => .out
 | _ :: r => .got t g r
theorem altF_s (n : Nat) (f : ByteArray) (g : Nat) (l : List Tok) : altF (n + 1) f g l = (rowF n f g l).next fun t g l => altsF n f t g l := by rw [altF]
theorem altsF_s (n : Nat) (f : ByteArray) (t : Tr) (g : Nat) (l : List Tok) : altsF (n + 1) f t g l = if kindZ l = 6 then (rowF n f g l.tail).next fun u g l => (shal (joinT t u 9) g l).next fun t g l => altsF n f t g l else .got t g l := by rw [altsF]
theorem rowF_s (n : Nat) (f : ByteArray) (g : Nat) (l : List Tok) : rowF (n + 1) f g l = if kindZ l = 6 ∨ kindZ l = 15 then .got (leafT (nd0 0)) g l else (itemF n f g l).next fun t g l => itemsF n f t g l := by rw [rowF]
theorem itemsF_s (n : Nat) (f : ByteArray) (t : Tr) (g : Nat) (l : List Tok) : itemsF (n + 1) f t g l = if kindZ l = 6 ∨ kindZ l = 15 then .got t g l else (itemF n f g l).next fun u g l => (shal (joinT t u 8) g l).next fun t g l => itemsF n f t g l := by rw [itemsF]
theorem itemF_s (n : Nat) (f : ByteArray) (g : Nat) (l : List Tok) : itemF (n + 1) f g l = (pieceF n f g l).next endQ := by
 rw [itemF]
 congr 1
theorem withF_s (n : Nat) (f : ByteArray) (g : Nat) (l : List Tok) : withF (n + 1) f g l = (altF n f g l).next endW := by
 rw [withF]
 congr 1
theorem pieceF_s (n : Nat) (f : ByteArray) (g : Nat) (t : Tok) (l : List Tok) : pieceF (n + 1) f g (t :: l) = if opens t.k = false then .got (leafT (leafN f t)) g l else if t.k = 8 ∨ t.k = 14 then withF n (f ++ t.f) g l else (withF n (f ++ t.f) (aroundG t.k g) l).next fun u g' l' => shal (wrapT u (aroundN t.k g)) g' l' := by rw [pieceF]
theorem shal_no {t : Tr} {g : Nat} {l : List Tok} (h : 40 < deepZ t.2 t.1) (f : Tr → Nat → List Tok → Rd) : (shal t g l).next f = .deep := by unfold shal; rw [if_pos h]; rfl
theorem shal_yes {t : Tr} {g : Nat} {l : List Tok} (h : ¬ 40 < deepZ t.2 t.1) (f : Tr → Nat → List Tok → Rd) : (shal t g l).next f = f t g l := by unfold shal; rw [if_neg h]; rfl
end Go.Proofs.YtdnbpbngoiahlaaGreatDoor
namespace Go.Proofs.YtdnbpbngoiahlaaGreatDoor
open Ast (Nd joinL wrapL deepZ rightZ cntG backB behB groupsB siz dep)
structure Parsed (p : ByteArray) (t : Tr) (l : List Tok) (g : Nat) : Prop where
 lex : lexZ p = (l, 0)
 scan : scanF l 0 false = true
 alt : altF (6 * l.length + 6) ByteArray.empty 0 l = .got t g []
 right : rightZ t.2 t.1 = 0
theorem alt_end {n : Nat} {f : ByteArray} {g g' : Nat} {l l' : List Tok} {t : Tr} (hs : scanF l 0 false = true) (hn : 6 * l.length + 5 ≤ n) (h : altF n f g l = .got t g' l') : l' = [] := by
 obtain ⟨h1, h2⟩ := ((rd_good n).1 f g l 0 hs hn).2 t g' l' h
 cases l' with
 | nil => rfl
 | cons x r =>
   rw [scanF, if_pos (.inr ⟨h2, rfl⟩)] at h1
   cases h1
theorem parsed {p : ByteArray} (h : (parseZ p).2 = 0) : ∃ l g, Parsed p (parseZ p).1 l g := by
 by_cases he : (lexZ p).2 = 0
 ·have hx : parseZ p = treeZ (lexZ p).1 := by unfold parseZ; rw [if_neg (by simp [he])]
  refine ⟨(lexZ p).1, ?_⟩
  rw [hx] at h ⊢
  have hl : lexZ p = ((lexZ p).1, 0) := by rw [← he]
  generalize (lexZ p).1 = l at h hl ⊢
  unfold treeZ at h ⊢
  by_cases hs : scanF l 0 false = false
  ·rw [if_pos hs] at h
   cases h
  ·have hs' : scanF l 0 false = true := by simpa using hs
   rw [if_neg hs] at h ⊢
   cases ha : altF (6 * l.length + 6) ByteArray.empty 0 l with
   | out => rw [ha] at h; cases h
   | deep => rw [ha] at h; cases h
   | got t g l' =>
     rw [ha] at h
     obtain rfl := alt_end hs' (by omega) ha
     simp only [] at h ⊢
     by_cases hr : rightZ t.2 t.1 = 0
     ·rw [if_pos hr]
      exact ⟨g, hl, hs', ha, hr⟩
     ·rw [if_neg hr] at h
      exact absurd h hr
 ·unfold parseZ at h
  rw [if_pos (by simpa using he)] at h
  exact absurd h he
theorem right_whole {l : Nat → Nd} {n : Nat} (h : rightZ l n = 0) : 0 < n ∧ siz l n = n ∧ dep l n = deepZ l n ∧ Ast.shapeZ l n = 0 ∧ n ≤ 500 := by
 obtain ⟨e0, e1, h1, z1⟩ := Ast.deep_form (Ast.right_deep h)
 refine ⟨h1, z1, e1, (Ast.right_0 h).1, ?_⟩
 unfold Ast.formZ at e0
 split at e0
 ·cases e0
 ·omega
abbrev grpN (n : Int) : Nd := { nd0 11 with n := n }
end Go.Proofs.YtdnbpbngoiahlaaGreatDoor
namespace Go.Proofs.YtdnbpbngoiahlaaGreatDoor
open Ast (Nd joinL wrapL deepZ rightZ shapeZ formZ)
theorem right_vals (l : Nat → Nd) (n : Nat) : rightZ l n = 0 ∨ rightZ l n = 3 ∨ rightZ l n = 4 ∨ rightZ l n = 6 ∨ rightZ l n = 7 := by
 have h : shapeZ l n = 0 ∨ shapeZ l n = 3 ∨ shapeZ l n = 4 := by
  unfold shapeZ formZ
  (repeat' split) <;> simp
 unfold rightZ
 split
 ·rcases h with h | h | h <;> rw [h] <;> simp
 ·(repeat' split) <;> simp
theorem parse_cases (p : ByteArray) (hp : p.size ≤ 1000) : ((parseZ p).1.1 = 0 ∧ ((parseZ p).2 = 3 ∨ (parseZ p).2 = 4 ∨ (parseZ p).2 = 6 ∨ (parseZ p).2 = 7)) ∨ ((parseZ p).2 = 0 ∧ rightZ (parseZ p).1.2 (parseZ p).1.1 = 0 ∧ 1 ≤ deepZ (parseZ p).1.2 (parseZ p).1.1 ∧ (parseZ p).1.1 ≤ 500) := by
 by_cases h : (parseZ p).2 = 0
 ·obtain ⟨l, g, H⟩ := parsed h
  have := Ast.right_deep H.right
  exact .inr ⟨h, H.right, by omega, (right_whole H.right).2.2.2.2⟩
 ·left
  unfold parseZ at h ⊢
  by_cases he : (lexZ p).2 ≠ 0
  ·rw [if_pos he] at h ⊢
   rcases few_lex p hp with ⟨-, h4⟩ | ⟨h4, -⟩
   ·exact ⟨rfl, by rcases h4 with h4 | h4 <;> simp [h4]⟩
   ·exact absurd h4 he
  ·rw [if_neg he] at h ⊢
   generalize (lexZ p).1 = l at h ⊢
   unfold treeZ at h ⊢
   by_cases hs : scanF l 0 false = false
   ·rw [if_pos hs]
    exact ⟨rfl, .inl rfl⟩
   ·rw [if_neg hs] at h ⊢
    cases ha : altF (6 * l.length + 6) ByteArray.empty 0 l with
    | out => exact ⟨rfl, .inr (.inl rfl)⟩
    | deep => exact ⟨rfl, .inr (.inl rfl)⟩
    | got t g l' =>
      rw [ha] at h
      simp only [] at h ⊢
      by_cases hr : rightZ t.2 t.1 = 0
      ·rw [if_pos hr] at h
       exact absurd rfl h
      ·rw [if_neg hr]
       refine ⟨rfl, ?_⟩
       rcases right_vals t.2 t.1 with e | e | e | e | e
       ·exact absurd e hr
       all_goals (show rightZ t.2 t.1 = 3 ∨ rightZ t.2 t.1 = 4 ∨ rightZ t.2 t.1 = 6 ∨ rightZ t.2 t.1 = 7; omega)
end Go.Proofs.YtdnbpbngoiahlaaGreatDoor
