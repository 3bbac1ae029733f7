import Derived.Test.YteggpecbeagohaaGreatDoorLexUpM
import Derived.Test.YteggpecbeagohaaGreatDoorAstG
import Derived.Test.YteggpecbeagohaaGreatDoorAstH
import Derived.Test.YteggpecbeagohaaGreatDoorClassMM
import Derived.Test.YteggpecbeagohaaGreatDoorMz
namespace Go.Proofs.YteggpecbeagohaaGreatDoor
open Ast (Nd joinL wrapL deepZ rightZ)
abbrev Tr := Nat × (Nat → Nd)
def nd0 (k : Int) : Nd := ⟨k, 0, 0, 0, 0, 0, 0, 0, 0, 0, 0, false⟩
def setN (S : BitVec 256) : Nd := ⟨1, 0, 0, W S 0, W S 1, W S 2, W S 3, 0, 0, 0, 0, false⟩
def leafT (x : Nd) : Tr := (1, fun _ => x)
def joinT (a b : Tr) (k : Int) : Tr := (a.1 + b.1 + 1, joinL a.2 a.1 b.2 b.1 k)
def wrapT (a : Tr) (x : Nd) : Tr := (a.1 + 1, wrapL a.2 a.1 x)
def hasF (f : ByteArray) (c : Nat) : Bool := f.data.toList.any fun b => b.toNat == c
def leafN (f : ByteArray) (t : Tok) : Nd :=
 if t.k = 1 then setN (if hasF f 115 = true then ~~~0#256 else ~~~addB 0#256 10)
 else if t.k = 2 then nd0 (if hasF f 109 = true then 4 else 2)
 else if t.k = 3 then nd0 (if hasF f 109 = true then 5 else 3)
 else if t.k = 4 then nd0 6
 else if t.k = 5 then nd0 7
 else if t.k = 17 then { nd0 12 with n := t.n, f := hasF f 105 }
 else setN (if hasF f 105 = true then foldS t.S else t.S)
def opens (k : Int) : Bool := decide (7 ≤ k ∧ k ≤ 14)
def repN (t : Tok) : Nd := { nd0 10 with mn := t.mn, mx := t.mx, md := t.md }
def aroundN (k : Int) (g : Nat) : Nd := if 9 ≤ k ∧ k ≤ 13 then nd0 (k + 4) else { nd0 11 with n := (g : Int) + 1 }
def aroundG (k : Int) (g : Nat) : Nat := if 9 ≤ k ∧ k ≤ 13 then g else g + 1
inductive Rd where
 | out
 | deep
 | got (t : Tr) (g : Nat) (l : List Tok)
def shal (t : Tr) (g : Nat) (l : List Tok) : Rd := if 40 < deepZ t.2 t.1 then .deep else .got t g l
def Rd.next (r : Rd) (f : Tr → Nat → List Tok → Rd) : Rd :=
 match r with
 | .out => .out
 | .deep => .deep
 | .got t g l => f t g l
def kindZ : List Tok → Int
 | [] => 15
 | x :: _ => x.k
mutual
def altF : Nat → ByteArray → Nat → List Tok → Rd
 | 0, _, _, _ => .out
 | n + 1, f, g, l => (rowF n f g l).next fun t g l => altsF n f t g l
def altsF : Nat → ByteArray → Tr → Nat → List Tok → Rd
 | 0, _, _, _, _ => .out
 | n + 1, f, t, g, l =>
   if kindZ l = 6 then (rowF n f g l.tail).next fun u g l => (shal (joinT t u 9) g l).next fun t g l => altsF n f t g l
   else .got t g l
def rowF : Nat → ByteArray → Nat → List Tok → Rd
 | 0, _, _, _ => .out
 | n + 1, f, g, l => if kindZ l = 6 ∨ kindZ l = 15 then .got (leafT (nd0 0)) g l else (itemF n f g l).next fun t g l => itemsF n f t g l
def itemsF : Nat → ByteArray → Tr → Nat → List Tok → Rd
 | 0, _, _, _, _ => .out
 | n + 1, f, t, g, l =>
   if kindZ l = 6 ∨ kindZ l = 15 then .got t g l
   else (itemF n f g l).next fun u g l => (shal (joinT t u 8) g l).next fun t g l => itemsF n f t g l
def itemF : Nat → ByteArray → Nat → List Tok → Rd
 | 0, _, _, _ => .out
 | n + 1, f, g, l => (pieceF n f g l).next fun t g l =>
   match l with
   | [] => .got t g []
   | x :: r => if x.k = 16 then shal (wrapT t (repN x)) g r else .got t g (x :: r)
def pieceF : Nat → ByteArray → Nat → List Tok → Rd
 | 0, _, _, _ => .out
 | _ + 1, _, _, [] => .out
 | n + 1, f, g, t :: l =>
   if opens t.k = false then .got (leafT (leafN f t)) g l
   else if t.k = 8 ∨ t.k = 14 then withF n (f ++ t.f) g l
   else (withF n (f ++ t.f) (aroundG t.k g) l).next fun u g' l' => shal (wrapT u (aroundN t.k g)) g' l'
def withF : Nat → ByteArray → Nat → List Tok → Rd
 | 0, _, _, _ => .out
 | n + 1, f, g, l => (altF n f g l).next fun t g l =>
   match l with
   | [] => .out
   | _ :: r => .got t g r
end
def scanF : List Tok → Nat → Bool → Bool
 | [], o, _ => o == 0
 | t :: l, o, b =>
   if (t.k = 16 ∧ b = false) ∨ (t.k = 15 ∧ o = 0) then false
   else if opens t.k = true then scanF l (o + 1) false
   else if t.k = 15 then scanF l (o - 1) true
   else scanF l o (decide (t.k ≠ 16 ∧ t.k ≠ 6))
def treeZ (l : List Tok) : Tr × Int :=
 if scanF l 0 false = false then ((0, fun _ => nd0 0), 3)
 else match altF (6 * l.length + 6) ByteArray.empty 0 l with
  | .out => ((0, fun _ => nd0 0), 4)
  | .deep => ((0, fun _ => nd0 0), 4)
  | .got t _ _ => if rightZ t.2 t.1 = 0 then (t, 0) else ((0, fun _ => nd0 0), rightZ t.2 t.1)
def parseZ (p : ByteArray) : Tr × Int := if (lexZ p).2 ≠ 0 then ((0, fun _ => nd0 0), (lexZ p).2) else treeZ (lexZ p).1
theorem next_got {r : Rd} {f : Tr → Nat → List Tok → Rd} {t : Tr} {g : Nat} {l : List Tok} (h : r.next f = .got t g l) : ∃ t1 g1 l1, r = .got t1 g1 l1 ∧ f t1 g1 l1 = .got t g l := by
 cases r with
 | out => cases h
 | deep => cases h
 | got t1 g1 l1 => exact ⟨t1, g1, l1, rfl, h⟩
theorem shal_got {t u : Tr} {g c : Nat} {l k : List Tok} (h : shal t g l = .got u c k) : u = t ∧ c = g ∧ k = l := by
 unfold shal at h
 split at h
 ·cases h
 ·cases h
  exact ⟨rfl, rfl, rfl⟩
structure Part (t : Tr) (g g' : Nat) (l l' : List Tok) (k : Nat) : Prop where
 one : 1 ≤ t.1
 len : t.1 + 2 * l'.length + k ≤ 2 * l.length + 1
 grp : g' + l'.length ≤ g + l.length
 suf : l' <:+ l
theorem Part.lenle {t : Tr} {g g' k : Nat} {l l' : List Tok} (h : Part t g g' l l' k) : l'.length ≤ l.length := h.suf.length_le
structure Parts (t0 t : Tr) (g g' : Nat) (l l' : List Tok) : Prop where
 one : 1 ≤ t.1
 len : t.1 + 2 * l'.length ≤ t0.1 + 2 * l.length
 grp : g' + l'.length ≤ g + l.length
 suf : l' <:+ l
theorem around_le (k : Int) (g : Nat) : aroundG k g ≤ g + 1 := by unfold aroundG; split <;> omega
theorem rd_part : ∀ n,
  (∀ f g l t g' l', altF n f g l = .got t g' l' → Part t g g' l l' 0) ∧
  (∀ f t0 g l t g' l', 1 ≤ t0.1 → altsF n f t0 g l = .got t g' l' → Parts t0 t g g' l l') ∧
  (∀ f g l t g' l', rowF n f g l = .got t g' l' → Part t g g' l l' 0) ∧
  (∀ f t0 g l t g' l', 1 ≤ t0.1 → itemsF n f t0 g l = .got t g' l' → Parts t0 t g g' l l') ∧
  (∀ f g l t g' l', itemF n f g l = .got t g' l' → Part t g g' l l' 2) ∧
  (∀ f g l t g' l', pieceF n f g l = .got t g' l' → Part t g g' l l' 2) ∧
  (∀ f g l t g' l', withF n f g l = .got t g' l' → Part t g g' l l' 2) := by
 intro n
 induction n with
 | zero => refine ⟨?_, ?_, ?_, ?_, ?_, ?_, ?_⟩ <;> (intros; rename_i h; first | (simp only [altF] at h; cases h) | (simp only [altsF] at h; cases h) | (simp only [rowF] at h; cases h) | (simp only [itemsF] at h; cases h) | (simp only [itemF] at h; cases h) | (simp only [pieceF] at h; cases h) | (simp only [withF] at h; cases h))
 | succ n ih =>
   obtain ⟨i1, i2, i3, i4, i5, i6, i7⟩ := ih
   refine ⟨?_, ?_, ?_, ?_, ?_, ?_, ?_⟩
   ·intro f g l t g' l' h
    rw [altF] at h
    obtain ⟨t1, g1, l1, h1, h2⟩ := next_got h
    have a := i3 _ _ _ _ _ _ h1
    have b := i2 _ _ _ _ _ _ _ a.one h2
    exact ⟨b.one, by have := a.len; have := b.len; omega, by have := a.grp; have := b.grp; omega, b.suf.trans a.suf⟩
   ·intro f t0 g l t g' l' h0 h
    rw [altsF] at h
    split at h
    ·obtain ⟨t1, g1, l1, h1, h2⟩ := next_got h
     obtain ⟨t2, g2, l2, h3, h4⟩ := next_got h2
     obtain ⟨rfl, rfl, rfl⟩ := shal_got h3
     have a := i3 _ _ _ _ _ _ h1
     have b := i2 _ _ _ _ _ _ _ (by show 1 ≤ t0.1 + t1.1 + 1; omega) h4
     rename_i hk
     have hl : l.tail.length + 1 = l.length := by
      cases l with
      | nil => exact absurd hk (by decide)
      | cons x r => rfl
     exact ⟨b.one, by have := a.len; have := b.len; simp only [joinT] at this; omega, by have := a.grp; have := b.grp; omega, (b.suf.trans a.suf).trans (List.tail_suffix l)⟩
    ·cases h
     exact ⟨h0, by omega, by omega, List.suffix_refl _⟩
   ·intro f g l t g' l' h
    rw [rowF] at h
    split at h
    ·cases h
     exact ⟨Nat.le_refl _, by simp only [leafT]; omega, by omega, List.suffix_refl _⟩
    ·obtain ⟨t1, g1, l1, h1, h2⟩ := next_got h
     have a := i5 _ _ _ _ _ _ h1
     have b := i4 _ _ _ _ _ _ _ a.one h2
     exact ⟨b.one, by have := a.len; have := b.len; omega, by have := a.grp; have := b.grp; omega, b.suf.trans a.suf⟩
   ·intro f t0 g l t g' l' h0 h
    rw [itemsF] at h
    split at h
    ·cases h
     exact ⟨h0, by omega, by omega, List.suffix_refl _⟩
    ·obtain ⟨t1, g1, l1, h1, h2⟩ := next_got h
     obtain ⟨t2, g2, l2, h3, h4⟩ := next_got h2
     obtain ⟨rfl, rfl, rfl⟩ := shal_got h3
     have a := i5 _ _ _ _ _ _ h1
     have b := i4 _ _ _ _ _ _ _ (by show 1 ≤ t0.1 + t1.1 + 1; omega) h4
     exact ⟨b.one, by have := a.len; have := b.len; simp only [joinT] at this; omega, by have := a.grp; have := b.grp; omega, b.suf.trans a.suf⟩
   ·intro f g l t g' l' h
    rw [itemF] at h
    obtain ⟨t1, g1, l1, h1, h2⟩ := next_got h
    have a := i6 _ _ _ _ _ _ h1
    cases l1 with
    | nil =>
      cases h2
      exact a
    | cons x r =>
      simp only [] at h2
      split at h2
      ·obtain ⟨rfl, rfl, rfl⟩ := shal_got h2
       have e1 := a.len
       have e2 := a.grp
       rw [List.length_cons] at e1 e2
       exact ⟨by show 1 ≤ t1.1 + 1; omega, by simp only [wrapT]; omega, by omega, (List.suffix_cons x l').trans a.suf⟩
      ·cases h2
       exact a
   ·intro f g l t g' l' h
    cases l with
    | nil => rw [pieceF] at h; cases h
    | cons x r =>
      rw [pieceF] at h
      split at h
      ·cases h
       exact ⟨Nat.le_refl _, by simp only [leafT, List.length_cons]; omega, by rw [List.length_cons]; omega, List.suffix_cons x l'⟩
      ·split at h
       ·have a := i7 _ _ _ _ _ _ h
        have e1 := a.len
        have e2 := a.grp
        exact ⟨a.one, by rw [List.length_cons]; omega, by rw [List.length_cons]; omega, a.suf.trans (List.suffix_cons x r)⟩
       ·obtain ⟨t1, g1, l1, h1, h2⟩ := next_got h
        obtain ⟨rfl, rfl, rfl⟩ := shal_got h2
        have a := i7 _ _ _ _ _ _ h1
        have e1 := a.len
        have e2 := a.grp
        have e3 := around_le x.k g
        exact ⟨by show 1 ≤ t1.1 + 1; omega, by simp only [wrapT, List.length_cons]; omega, by rw [List.length_cons]; omega, a.suf.trans (List.suffix_cons x r)⟩
   ·intro f g l t g' l' h
    rw [withF] at h
    obtain ⟨t1, g1, l1, h1, h2⟩ := next_got h
    have a := i1 _ _ _ _ _ _ h1
    cases l1 with
    | nil => cases h2
    | cons x r =>
      cases h2
      have e1 := a.len
      have e2 := a.grp
      rw [List.length_cons] at e1 e2
      exact ⟨a.one, by omega, by omega, (List.suffix_cons x l').trans a.suf⟩
end Go.Proofs.YteggpecbeagohaaGreatDoor
namespace Go.Proofs.YteggpecbeagohaaGreatDoor
theorem scan_head {l : List Tok} {o : Nat} (h : scanF l o false = true) : kindZ l ≠ 16 := by
 cases l with
 | nil => decide
 | cons t l =>
   intro hk
   rw [scanF, if_pos (.inl ⟨hk, rfl⟩)] at h
   cases h
theorem scan_b {l : List Tok} {o : Nat} (h : kindZ l ≠ 16) (b : Bool) : scanF l o b = scanF l o false := by
 cases l with
 | nil => rfl
 | cons t l =>
   have h16 : ¬ t.k = 16 := h
   have e : (t.k = 16 ∧ b = false ∨ t.k = 15 ∧ o = 0) ↔ (t.k = 16 ∧ false = false ∨ t.k = 15 ∧ o = 0) := by
    constructor
    ·rintro (h | h)
     ·exact absurd h.1 h16
     ·exact .inr h
    ·rintro (h | h)
     ·exact absurd h.1 h16
     ·exact .inr h
   rw [scanF, scanF]
   by_cases hc : t.k = 16 ∧ b = false ∨ t.k = 15 ∧ o = 0
   ·rw [if_pos hc, if_pos (e.1 hc)]
   ·rw [if_neg hc, if_neg (fun h => hc (e.2 h))]
theorem scan_leaf {t : Tok} {l : List Tok} {o : Nat} (h : scanF (t :: l) o false = true) (h1 : opens t.k = false) (h2 : t.k ≠ 6) (h3 : t.k ≠ 15) : scanF l o true = true := by
 have h16 : t.k ≠ 16 := scan_head h
 rw [scanF] at h
 split at h
 ·cases h
 ·simpa [h1, h2, h3, h16] using h
theorem scan_open {t : Tok} {l : List Tok} {o : Nat} (h : scanF (t :: l) o false = true) (h1 : opens t.k = true) : scanF l (o + 1) false = true := by
 rw [scanF] at h
 split at h
 ·cases h
 ·simpa [h1] using h
theorem scan_close {t : Tok} {l : List Tok} {o : Nat} (h : scanF (t :: l) (o + 1) false = true) (hk : t.k = 15) : scanF l o true = true := by
 rw [scanF] at h
 split at h
 ·cases h
 ·simpa [hk, opens] using h
theorem scan_bar {t : Tok} {l : List Tok} {o : Nat} (h : scanF (t :: l) o false = true) (hk : t.k = 6) : scanF l o false = true := by
 rw [scanF] at h
 split at h
 ·cases h
 ·rw [if_neg (by rw [hk]; decide), if_neg (by rw [hk]; decide), decide_eq_false (by rw [hk]; decide)] at h
  exact h
theorem scan_quant {t : Tok} {l : List Tok} {o : Nat} (h : scanF (t :: l) o true = true) (hk : t.k = 16) : scanF l o false = true := by
 rw [scanF] at h
 split at h
 ·cases h
 ·rw [if_neg (by rw [hk]; decide), if_neg (by rw [hk]; decide), decide_eq_false (by rw [hk]; decide)] at h
  exact h
theorem shal_out {t : Tr} {g : Nat} {l : List Tok} : shal t g l ≠ .out := by
 unfold shal
 split <;> (intro h; cases h)
def Good (r : Rd) (_o : Nat) (p : List Tok → Prop) : Prop := r ≠ .out ∧ ∀ t g l, r = .got t g l → p l
theorem Good.next {r : Rd} {f : Tr → Nat → List Tok → Rd} {p q : List Tok → Prop} {o : Nat} (h : Good r o p) (hf : ∀ t g l, r = .got t g l → p l → Good (f t g l) o q) : Good (r.next f) o q := by
 cases r with
 | out => exact absurd rfl h.1
 | deep => exact ⟨(by intro h; cases h), fun t g l h => by cases h⟩
 | got t g l => exact hf t g l rfl (h.2 t g l rfl)
theorem Good.shal {t : Tr} {g : Nat} {l : List Tok} {p : List Tok → Prop} {o : Nat} (h : p l) : Good (Go.Proofs.YteggpecbeagohaaGreatDoor.shal t g l) o p :=
 ⟨shal_out, fun t' g' l' he => by obtain ⟨rfl, rfl, rfl⟩ := shal_got he; exact h⟩
theorem rd_good : ∀ n,
  (∀ f g l o, scanF l o false = true → 6 * l.length + 5 ≤ n → Good (altF n f g l) o fun l' => scanF l' o false = true ∧ kindZ l' = 15) ∧
  (∀ f t g l o, 1 ≤ t.1 → scanF l o false = true → (kindZ l = 6 ∨ kindZ l = 15) → 6 * l.length + 4 ≤ n → Good (altsF n f t g l) o fun l' => scanF l' o false = true ∧ kindZ l' = 15) ∧
  (∀ f g l o, scanF l o false = true → 6 * l.length + 4 ≤ n → Good (rowF n f g l) o fun l' => scanF l' o false = true ∧ (kindZ l' = 6 ∨ kindZ l' = 15)) ∧
  (∀ f t g l o, 1 ≤ t.1 → scanF l o false = true → 6 * l.length + 3 ≤ n → Good (itemsF n f t g l) o fun l' => scanF l' o false = true ∧ (kindZ l' = 6 ∨ kindZ l' = 15)) ∧
  (∀ f g l o, scanF l o false = true → ¬ (kindZ l = 6 ∨ kindZ l = 15) → 6 * l.length + 2 ≤ n → Good (itemF n f g l) o fun l' => scanF l' o false = true) ∧
  (∀ f g l o, scanF l o false = true → ¬ (kindZ l = 6 ∨ kindZ l = 15) → 6 * l.length + 1 ≤ n → Good (pieceF n f g l) o fun l' => scanF l' o true = true) ∧
  (∀ f g l o, scanF l (o + 1) false = true → 6 * l.length + 6 ≤ n → Good (withF n f g l) o fun l' => scanF l' o true = true) := by
 intro n
 induction n with
 | zero => exact ⟨fun _ _ _ _ _ h => by omega, fun _ _ _ _ _ _ _ _ h => by omega, fun _ _ _ _ _ h => by omega, fun _ _ _ _ _ _ _ h => by omega, fun _ _ _ _ _ _ h => by omega, fun _ _ _ _ _ _ h => by omega, fun _ _ _ _ _ h => by omega⟩
 | succ n ih =>
   obtain ⟨i1, i2, i3, i4, i5, i6, i7⟩ := ih
   have P := rd_part n
   refine ⟨?_, ?_, ?_, ?_, ?_, ?_, ?_⟩
   ·intro f g l o h hn
    rw [altF]
    exact (i3 f g l o h (by omega)).next fun t g1 l1 he hp => by
     have hl := (P.2.2.1 _ _ _ _ _ _ he)
     exact i2 f t g1 l1 o hl.one hp.1 hp.2 (by have := hl.lenle; omega)
   ·intro f t g l o h0 h hk hn
    rw [altsF]
    split
    ·rename_i h6
     cases l with
     | nil => exact absurd h6 (by decide)
     | cons x r =>
       have hs := scan_bar h h6
       rw [List.length_cons] at hn
       exact (i3 f g r o hs (by omega)).next fun t1 g1 l1 he hp => by
        have hl := (P.2.2.1 _ _ _ _ _ _ he)
        exact (Good.shal (o := o) (p := fun l' => scanF l' o false = true ∧ (kindZ l' = 6 ∨ kindZ l' = 15)) hp).next fun t2 g2 l2 he2 hp2 => by
         obtain ⟨rfl, rfl, rfl⟩ := shal_got he2
         exact i2 f _ g2 l2 o (by show 1 ≤ t.1 + t1.1 + 1; omega) hp2.1 hp2.2 (by have := hl.lenle; omega)
    ·rename_i h6
     exact ⟨by intro h; (cases h), fun t' g' l' he => by cases he; exact ⟨h, hk.resolve_left h6⟩⟩
   ·intro f g l o h hn
    rw [rowF]
    split
    ·rename_i hk
     exact ⟨by intro h; (cases h), fun t' g' l' he => by cases he; exact ⟨h, hk⟩⟩
    ·rename_i hk
     exact (i5 f g l o h hk (by omega)).next fun t g1 l1 he hp => by
      have hl := (P.2.2.2.2.1 _ _ _ _ _ _ he)
      exact i4 f t g1 l1 o hl.one hp (by have := hl.lenle; omega)
   ·intro f t g l o h0 h hn
    rw [itemsF]
    split
    ·rename_i hk
     exact ⟨by intro h; (cases h), fun t' g' l' he => by cases he; exact ⟨h, hk⟩⟩
    ·rename_i hk
     exact (i5 f g l o h hk (by omega)).next fun t1 g1 l1 he hp => by
      have hl := (P.2.2.2.2.1 _ _ _ _ _ _ he)
      exact (Good.shal (o := o) (p := fun l' => scanF l' o false = true) hp).next fun t2 g2 l2 he2 hp2 => by
       obtain ⟨rfl, rfl, rfl⟩ := shal_got he2
       exact i4 f _ g2 l2 o (by show 1 ≤ t.1 + t1.1 + 1; omega) hp2 (by have := hl.len; have := hl.one; omega)
   ·intro f g l o h hk hn
    rw [itemF]
    exact (i6 f g l o h hk (by omega)).next fun t g1 l1 he hp => by
     cases l1 with
     | nil => exact ⟨by intro h; (cases h), fun t' g' l' he => by cases he; exact hp⟩
     | cons x r =>
       simp only []
       split
       ·rename_i h16
        exact Good.shal (scan_quant hp h16)
       ·rename_i h16
        exact ⟨by intro h; (cases h), fun t' g' l' he => by cases he; rw [← scan_b (show kindZ (x :: r) ≠ 16 from h16) true]; exact hp⟩
   ·intro f g l o h hk hn
    cases l with
    | nil => exact absurd (.inr rfl) hk
    | cons x r =>
      rw [List.length_cons] at hn
      rw [pieceF]
      split
      ·rename_i hop
       exact ⟨by intro h; (cases h), fun t' g' l' he => by cases he; exact scan_leaf h hop (fun h6 => hk (.inl h6)) (fun h15 => hk (.inr h15))⟩
      ·rename_i hop
       have hop' : opens x.k = true := by simpa using hop
       have hs := scan_open h hop'
       split
       ·exact i7 _ _ r o hs (by omega)
       ·exact (i7 _ _ r o hs (by omega)).next fun t1 g1 l1 _ hp => Good.shal hp
   ·intro f g l o h hn
    rw [withF]
    exact (i1 f g l (o + 1) h (by omega) : Good _ (o + 1) _) |> fun hg => by
     have hg' : Good (altF n f g l) o fun l' => scanF l' (o + 1) false = true ∧ kindZ l' = 15 := hg
     exact hg'.next fun t g1 l1 _ hp => by
      cases l1 with
      | nil => exact absurd hp.1 (by simp [scanF])
      | cons x r => exact ⟨by intro h; (cases h), fun t' g' l' he => by cases he; exact scan_close hp.1 hp.2⟩
theorem alt_in {l : List Tok} (h : scanF l 0 false = true) (f : ByteArray) (g : Nat) : altF (6 * l.length + 6) f g l ≠ .out := ((rd_good _).1 f g l 0 h (by omega)).1
end Go.Proofs.YteggpecbeagohaaGreatDoor
namespace Go.Proofs.YteggpecbeagohaaGreatDoor
open Go.RowKit
open Ast (Nd joinL wrapL deepZ rightZ Nodes)
structure ButR (g B : Nat) (w w' : World) : Prop where
 os : w'.os = w.os
 tape : w'.tape = w.tape
 output : w'.output = w.output
 size : w.heap.size ≤ w'.heap.size
 block : ∀ k, k < B → k ≠ g → w'.heap[k]? = w.heap[k]?
theorem ButR.of {g B : Nat} {w w' : World} (h : Below B w w') : ButR g B w w' := ⟨h.os, h.tape, h.output, h.size, fun k hk _ => h.block k hk⟩
theorem ButR.refl (g B : Nat) (w : World) : ButR g B w w := .of (Below.refl B w)
theorem ButR.trans {g B : Nat} {a b c : World} (h : ButR g B a b) (k : ButR g B b c) : ButR g B a c :=
 ⟨k.os.trans h.os, k.tape.trans h.tape, k.output.trans h.output, Nat.le_trans h.size k.size, fun i hi hg => (k.block i hi hg).trans (h.block i hi hg)⟩
theorem ButR.mono {g B B' : Nat} {w w' : World} (h : ButR g B w w') (hB : B' ≤ B) : ButR g B' w w' := ⟨h.os, h.tape, h.output, h.size, fun k hk hg => h.block k (Nat.lt_of_lt_of_le hk hB) hg⟩
theorem ButR.then {g B : Nat} {w u v : World} (h : ButR g B w u) (k : ButR g u.heap.size u v) (hB : B ≤ u.heap.size) : ButR g B w v := h.trans (k.mono hB)
theorem ButR.below {g B : Nat} {w w' : World} (h : ButR g B w w') {C : Nat} (hC : C ≤ B) (hg : C ≤ g) : Below C w w' := ⟨h.os, h.tape, h.output, h.size, fun k hk => h.block k (by omega) (by omega)⟩
theorem ButR.setCell {g B : Nat} {a w : World} (h : ButR g B a w) (j : Nat) (u : Value) : ButR g B a (w.setCell ⟨g, j, none⟩ u) :=
 h.trans ⟨rfl, rfl, rfl, by simp [World.setCell], fun k _ hk => Below.heap_setCell _ _ _ _ hk⟩
abbrev rdC (A : Option Addr) (n cap : Nat) (f : ByteArray) (c : Nat) : Array Value := #[.slice A n cap, .string f, .int .i64 (c : Int)]
structure RSt (w0 : World) (g : Nat) (w : World) (f : ByteArray) (c : Nat) (l : List Tok) : Prop where
 base : w0.heap.size ≤ g
 cells : ∃ A cap, w.heap[g]? = some (.cells (rdC A l.length cap f c) 126 (0, 0)) ∧ Toks w0 A l ∧ l.length ≤ cap
 below : Below w0.heap.size w0 w
theorem RSt.lt {w0 w : World} {g c : Nat} {f : ByteArray} {l : List Tok} (h : RSt w0 g w f c l) : g < w.heap.size := by
 obtain ⟨A, cap, h1, -, -⟩ := h.cells
 exact lt_of_block h1
theorem RSt.call {w0 w w' : World} {g c : Nat} {f : ByteArray} {l : List Tok} (h : RSt w0 g w f c l) (hb : Below w.heap.size w w') : RSt w0 g w' f c l := by
 obtain ⟨A, cap, h1, h2, h3⟩ := h.cells
 exact ⟨h.base, ⟨A, cap, (hb.block g h.lt).trans h1, h2, h3⟩, thenB h.below hb h.below.size⟩
theorem opens_any (k : Int) (w : World) : Calls Tryz.prog 52 #[.int .i64 k] w fun e w' => e = .returned (.bool (opens k)) ∧ w = w' := by
 by_cases h1 : 7 ≤ k
 ·have g1 : decide (7 ≤ k) = true := decide_eq_true h1
  by_cases h2 : k ≤ 14
  ·have g2 : decide (k ≤ 14) = true := decide_eq_true h2
   have HO := Lib.hid (show opens k = true from decide_eq_true ⟨h1, h2⟩)
   go_enter Tryz.func52, Tryz.ntmps52
   go_wp2_with fail
   go_ret
   exact ⟨by rw [HO.out]; rfl, rfl⟩
  ·have g2 : decide (k ≤ 14) = false := decide_eq_false h2
   have HO := Lib.hid (show opens k = false from decide_eq_false (fun h => h2 h.2))
   go_enter Tryz.func52, Tryz.ntmps52
   go_wp2_with fail
   go_ret
   exact ⟨by rw [HO.out]; rfl, rfl⟩
 ·have g1 : decide (7 ≤ k) = false := decide_eq_false h1
  have HO := Lib.hid (show opens k = false from decide_eq_false (fun h => h1 h.1))
  go_enter Tryz.func52, Tryz.ntmps52
  go_wp2_with fail
  go_ret
  exact ⟨by rw [HO.out]; rfl, rfl⟩
theorem next_any {w0 w : World} {g c : Nat} {f : ByteArray} {l : List Tok} (h : RSt w0 g w f c l) (hl : l.length ≤ 2000) : Calls Tryz.prog 116 #[.pointer (some ⟨g, 0, none⟩)] w fun e w' => e = .returned (.int .i64 (kindZ l)) ∧ w = w' := by
 obtain ⟨A, cap, h1, h2, -⟩ := h.cells
 have hc := (cell_of_row w g 0 _ _ _ h1)
 simp only [rdC] at hc
 have hc0 : w.cell? ⟨g, 0, none⟩ = some (.slice A l.length cap) := by rw [hc]; rfl
 clear hc h1
 cases l with
 | nil =>
   clear h2
   go_enter Tryz.func116, Tryz.ntmps116
   go_wp2_with fail
   go_ret
   exact ⟨rfl, rfl⟩
 | cons t l =>
   obtain ⟨b, o, rfl, hb, hx⟩ := (h2.below h.below (Nat.le_refl _)) 0 t rfl
   obtain ⟨c0, -⟩ := hx
   rw [Nat.zero_mul, Nat.add_zero] at c0
   have HK := Lib.hid (show kindZ (t :: l) = t.k from rfl)
   obtain ⟨n, hn⟩ : ∃ n, n = (t :: l).length := ⟨_, rfl⟩
   have hn0 : n ≠ 0 := by rw [hn]; simp
   rw [← hn] at hc0 hl
   clear hn h2 h
   have q1 : ((n : Int) == 0) = false := by simp; omega
   have q2 : ¬ (n : Int) = 0 := by omega
   have q3 : (0 : Int) < (n : Int) := by omega
   go_enter Tryz.func116, Tryz.ntmps116
   go_wp2_with fail
   go_ret
   exact ⟨by rw [HK.out]; rfl, rfl⟩
theorem anotherItem_any {w0 w : World} {g c : Nat} {f : ByteArray} {l : List Tok} (h : RSt w0 g w f c l) (hl : l.length ≤ 2000) : Calls Tryz.prog 113 #[.pointer (some ⟨g, 0, none⟩)] w fun e w' => e = .returned (.bool (!decide (kindZ l = 6 ∨ kindZ l = 15))) ∧ w = w' := by
 have HN := Lib.hid (next_any h hl)
 clear h
 obtain ⟨k, hk⟩ : ∃ k, k = kindZ l := ⟨_, rfl⟩
 rw [← hk] at HN ⊢
 clear hk hl
 by_cases h6 : k = 6
 ·have HO := Lib.hid (show (!decide (k = 6 ∨ k = 15)) = false by rw [decide_eq_true (.inl h6)]; rfl)
  have q : (k != 6) = false := by simp [h6]
  clear h6
  go_enter Tryz.func113, Tryz.ntmps113
  go_wp2_with fail
  with_reducible refine HN.out.mono ?_
  rintro e w1 ⟨rfl, rfl⟩
  go_wp2_with fail
  go_ret
  exact ⟨by rw [HO.out]; rfl, rfl⟩
 ·have q : (k != 6) = true := by simpa using h6
  by_cases h15 : k = 15
  ·have HO := Lib.hid (show (!decide (k = 6 ∨ k = 15)) = false by rw [decide_eq_true (.inr h15)]; rfl)
   have q2 : (k != 15) = false := by simp [h15]
   clear h6 h15
   go_enter Tryz.func113, Tryz.ntmps113
   go_wp2_with fail
   with_reducible refine HN.out.mono ?_
   rintro e w1 ⟨rfl, rfl⟩
   go_wp2_with fail
   go_ret
   exact ⟨by rw [HO.out]; rfl, rfl⟩
  ·have HO := Lib.hid (show (!decide (k = 6 ∨ k = 15)) = true by rw [decide_eq_false (by omega)]; rfl)
   have q2 : (k != 15) = true := by simpa using h15
   clear h6 h15
   go_enter Tryz.func113, Tryz.ntmps113
   go_wp2_with fail
   with_reducible refine HN.out.mono ?_
   rintro e w1 ⟨rfl, rfl⟩
   go_wp2_with fail
   go_ret
   exact ⟨by rw [HO.out]; rfl, rfl⟩
def StopP (p : Prop) : Prop := p
theorem stopP {p : Prop} (h : StopP p) : p := h
section
variable {ops : Array Oper} {rest : List Oper} {o : Oper} {a : Act} {w : World} {Q : Exit → Act → World → Prop}
theorem storeNewB (hgd : o.guard = none) (x y : Operand) (ho : o.op = .store 115 x y) (wr : World) (N : Nat) (hN : wr.heap.size = N) (t : Tok) (hx : a.eval x = .pointer (some ⟨N, 0, none⟩)) (cs : Array Value) (hy : a.eval y = .agg cs) (hcs : cs = tokC t) (zs : Array Value) (hz : zs = tokC (tok0 0)) (hw : w = wr.alloc (.cells zs 115))
  (h : ∀ u : World, Hid (BoxT 115 u N t) → Hid (Below N wr u) → wpList Tryz.prog ops Q rest (a.put o.dst undef) u) : wpList Tryz.prog ops Q (o :: rest) a w := by
 subst hw hN hz
 have hg : BoxT 115 (wr.alloc (.cells (tokC (tok0 0)) 115)) wr.heap.size (tok0 0) := BoxT.new _ _
 refine storeT hgd x y ho wr.heap.size (tok0 0) t hx cs hy hcs hg ?_
 exact h _ (Lib.hid (hg.rowSame t)) (Lib.hid (below_row ((Below.refl _ wr).alloc (Nat.le_refl _) _) (Nat.le_refl _) _))
theorem storeRd (hgd : o.guard = none) (x y : Operand) (ho : o.op = .store 99 x y) (g : Nat) (A0 A : Option Addr) (n0 cap0 n cap c : Nat) (f : ByteArray) (hx : a.eval x = .pointer (some ⟨g, 0, none⟩)) (hy : a.eval y = .slice A n cap) (hg : w.heap[g]? = some (.cells (rdC A0 n0 cap0 f c) 126 (0, 0)))
  (h : ∀ v : World, Hid (v.heap[g]? = some (.cells (rdC A n cap f c) 126 (0, 0))) → Hid (ButR g w.heap.size w v) → wpList Tryz.prog ops Q rest (a.put o.dst undef) v) : wpList Tryz.prog ops Q (o :: rest) a w := by
 have hc : w.cell? ⟨g, 0, none⟩ = some (.slice A0 n0 cap0) := (cell_of_row w g 0 _ _ _ hg).trans rfl
 have hf := frozen_of_row w g 0 _ _ hg
 have hv := h (w.setCell ⟨g, 0, none⟩ (.slice A n cap)) (Lib.hid (heap_setCell_same _ g 0 _ _ (.slice A n cap) hg)) (Lib.hid ((ButR.refl g _ w).setCell 0 _))
 refine wpList_plain hgd fun K hK => ?_
 unfold Oper.wp execOp
 simp only [ho, hx, hy]
 simp [go_sem, hc, hf]
 exact hK _ _ hv
end
theorem tok10 : #[.int .i64 0, .int .u64 0, .int .u64 0, .int .u64 0, .int .u64 0, .int .i64 0, .int .i64 0, .int .i64 0, .int .i64 0, .string ⟨#[]⟩] = tokC (tok0 0) := by simp [tokC, tok0, W_zero]; rfl
theorem resT1 {fn : Func} {p : Tmp} (h : fn.results = #[.cell p 115]) (tmps : Array Value) {w : World} {g : Nat} {t : Tok} (hp : tmps.getD p undef = .pointer (some ⟨g, 0, none⟩)) (hg : BoxT 115 w g t) :
  (results fn tmps).run Tryz.prog w = .ok (tokV t) w := results_cell_row h tmps w g _ _ _ _ hp hg Tryz.underlying115 rfl (by rw [tokC_size]; exact sizeTok)
theorem BoxT.but {T : TypeId} {w w' : World} {g k B : Nat} {t : Tok} (h : BoxT T w k t) (hb : ButR g B w w') (hk : k < B) (hg : k ≠ g) : BoxT T w' k t := (hb.block k hk hg).trans h
theorem Toks.tail {w : World} {b o : Nat} {t : Tok} {l : List Tok} (h : Toks w (some ⟨b, o, none⟩) (t :: l)) : Toks w (some ⟨b, o + 10, none⟩) l := fun i u hi => by
 obtain ⟨b', o', h1, h2, h3⟩ := h (i + 1) u hi
 cases h1
 exact ⟨b, o + 10, rfl, h2, by rw [show o + 10 + i * 10 = o + (i + 1) * 10 by omega]; exact h3⟩
set_option maxHeartbeats 2000000 in
theorem take_any {w0 w : World} {g c : Nat} {f : ByteArray} {t : Tok} {l : List Tok} (h : RSt w0 g w f c (t :: l)) (hl : l.length ≤ 2000) : Calls Tryz.prog 117 #[.pointer (some ⟨g, 0, none⟩)] w fun e w' => e = .returned (tokV t) ∧ RSt w0 g w' f c l ∧ ButR g w.heap.size w w' := by
 obtain ⟨A, cap, h1, h2, h3⟩ := h.cells
 have hc0 : w.cell? ⟨g, 0, none⟩ = some (.slice A (t :: l).length cap) := (cell_of_row w g 0 _ _ _ h1).trans rfl
 have hlt := h.lt
 obtain ⟨b, o, rfl, hb, hx⟩ := (h2.below h.below (Nat.le_refl _)) 0 t rfl
 have HT := Lib.hid h2
 have H0 := Lib.hid h
 have HH := Lib.hid h1
 have HC := Lib.hid h3
 clear h1 h2 h3 h
 rw [List.length_cons] at hc0
 obtain ⟨n, hn⟩ : ∃ n, n = l.length := ⟨_, rfl⟩
 rw [← hn] at hc0 hl
 have HN := Lib.hid hn
 clear hn
 simp only [Nat.zero_mul, Nat.add_zero] at hx
 obtain ⟨c0, c1, c2, c3, c4, c5, c6, c7, c8, c9⟩ := hx
 have q : (0 : Int) < ((n + 1 : Nat) : Int) := by omega
 go_enter Tryz.func117, Tryz.ntmps117
 go_wp2_with (refine storeNewB rfl _ _ rfl (w.alloc (.cells (tokC (tok0 0)) 115)) (w.heap.size + 1) (by simp) t rfl _ rfl rfl _ tok10 (by rw [← tok10]) ?_; intro u hx hN; refine stopP ?_)
 unfold StopP
 clear c0 c1 c2 c3 c4 c5 c6 c7 c8 c9 hb q
 have hw1 : (w.alloc (.cells (tokC (tok0 0)) 115)).heap.size = w.heap.size + 1 := by simp
 have hg : u.heap[g]? = some (.cells (rdC (some ⟨b, o, none⟩) (t :: l).length cap f c) 126 (0, 0)) := (hN.out.block g (by omega)).trans ((Below.heap_alloc _ _ _ hlt).trans HH.out)
 have hcu : u.cell? ⟨g, 0, none⟩ = some (.slice (some ⟨b, o, none⟩) (n + 1) cap) := by rw [cell_of_row u g 0 _ _ _ hg, HN.out]; rfl
 have HG := Lib.hid hg
 have HU := Lib.hid hN
 clear hc0 hg hN hw1
 by_cases hc1 : cap = 1
 ·subst hc1
  have hn0 : n = 0 := by have h1 := HC.out; rw [List.length_cons, ← HN.out] at h1; omega
  have hl0 : l = [] := List.eq_nil_of_length_eq_zero (by rw [← HN.out]; exact hn0)
  have HTL : Toks w0 (some ⟨b, o, none⟩) l := fun i t hi => by rw [hl0] at hi; cases hi
  have HN0 := Lib.hid hn0
  clear hn0 hl0
  go_wp2_with (refine storeRd rfl _ _ rfl g _ (some ⟨b, o, none⟩) _ _ n 0 c f rfl rfl HG.out ?_; intro v hv hbv; refine stopP ?_)
  unfold StopP
  clear hcu
  have hz : BoxT 115 u w.heap.size (tok0 0) := BoxT.below (w := w.alloc (.cells (tokC (tok0 0)) 115)) (BoxT.new _ _) HU.out (by omega)
  have HX := Lib.hid (hx.out.but hbv.out hx.out.lt (by omega))
  have HZ := Lib.hid (hz.but hbv.out hz.lt (by omega))
  have HB := Lib.hid (((ButR.of (g := g) ((Below.refl w.heap.size w).alloc (Nat.le_refl _) (.cells (tokC (tok0 0)) 115))).trans (ButR.of (HU.out.mono (by omega)))).trans (hbv.out.mono (by have := HU.out.size; simp at this; omega)))
  clear hz hx
  go_wp2_with (first | (refine loadT rfl _ rfl (w.heap.size + 1) t rfl HX.out ?_) | (refine storeT rfl _ _ rfl w.heap.size (tok0 0) t rfl _ rfl rfl HZ.out ?_))
  refine bodyPost_ret (resT1 (p := 2) (t := t) rfl _ (g := w.heap.size) rfl (HZ.out.rowSame t)) rfl ?_
  have hB : ButR g w.heap.size w (v.setRow w.heap.size (tokC t)) := HB.out.trans (ButR.of (below_row (Below.refl _ v) (Nat.le_refl _) _))
  refine ⟨rfl, ⟨H0.out.base, ⟨some ⟨b, o, none⟩, 0, ?_, HTL, ?_⟩, H0.out.below.trans (hB.below H0.out.below.size H0.out.base)⟩, hB⟩
  ·rw [← HN.out]
   exact (setRow_other v w.heap.size g (tokC t) (by omega)).trans hv.out
  ·rw [← HN.out, HN0.out]; exact Nat.le_refl 0
 ·have hc2 : ¬ cap - 1 = 0 := by have h1 := HC.out; rw [List.length_cons] at h1; omega
  have HTL := HT.out.tail
  go_wp2_with (refine storeRd rfl _ _ rfl g _ (some ⟨b, o + 10, none⟩) _ _ n (cap - 1) c f rfl rfl HG.out ?_; intro v hv hbv; refine stopP ?_)
  unfold StopP
  clear hcu
  have hz : BoxT 115 u w.heap.size (tok0 0) := BoxT.below (w := w.alloc (.cells (tokC (tok0 0)) 115)) (BoxT.new _ _) HU.out (by omega)
  have HX := Lib.hid (hx.out.but hbv.out hx.out.lt (by omega))
  have HZ := Lib.hid (hz.but hbv.out hz.lt (by omega))
  have HB := Lib.hid (((ButR.of (g := g) ((Below.refl w.heap.size w).alloc (Nat.le_refl _) (.cells (tokC (tok0 0)) 115))).trans (ButR.of (HU.out.mono (by omega)))).trans (hbv.out.mono (by have := HU.out.size; simp at this; omega)))
  clear hz hx
  go_wp2_with (first | (refine loadT rfl _ rfl (w.heap.size + 1) t rfl HX.out ?_) | (refine storeT rfl _ _ rfl w.heap.size (tok0 0) t rfl _ rfl rfl HZ.out ?_))
  refine bodyPost_ret (resT1 (p := 2) (t := t) rfl _ (g := w.heap.size) rfl (HZ.out.rowSame t)) rfl ?_
  have hB : ButR g w.heap.size w (v.setRow w.heap.size (tokC t)) := HB.out.trans (ButR.of (below_row (Below.refl _ v) (Nat.le_refl _) _))
  refine ⟨rfl, ⟨H0.out.base, ⟨some ⟨b, o + 10, none⟩, cap - 1, ?_, HTL, ?_⟩, H0.out.below.trans (hB.below H0.out.below.size H0.out.base)⟩, hB⟩
  ·rw [← HN.out]
   exact (setRow_other v w.heap.size g (tokC t) (by omega)).trans hv.out
  ·have := HC.out
   rw [List.length_cons] at this
   omega
end Go.Proofs.YteggpecbeagohaaGreatDoor
namespace Go.Proofs.YteggpecbeagohaaGreatDoor
open Go.RowKit
open Ast (Nd ndV joinL wrapL deepZ rightZ Nodes)
def HasOk : Prop := ∀ (f : ByteArray) (c : UInt8) (w : World), Calls Tryz.prog 179 #[.string f, .string ⟨#[c]⟩] w fun e w' => e = .returned (.bool (hasF f c.toNat)) ∧ w' = w
theorem holds_any (hH : HasOk) {w0 w : World} {g c : Nat} {f : ByteArray} {l : List Tok} (h : RSt w0 g w f c l) (b : UInt8) : Calls Tryz.prog 173 #[.pointer (some ⟨g, 0, none⟩), .string ⟨#[b]⟩] w fun e w' => e = .returned (.bool (hasF f b.toNat)) ∧ w = w' := by
 obtain ⟨A, cap, h1, -, -⟩ := h.cells
 have hc1 : w.cell? ⟨g, 1, none⟩ = some (.string f) := (cell_of_row w g 1 _ _ _ h1).trans rfl
 have HH := Lib.hid (fun w => hH f b w)
 clear hH h1 h
 go_enter Tryz.func173, Tryz.ntmps173
 go_wp2_with fail
 with_reducible refine (HH.out _).mono ?_
 rintro e w1 ⟨rfl, rfl⟩
 go_wp2_with fail
 go_ret
 exact ⟨rfl, rfl⟩
theorem either_any (hH : HasOk) {w0 w : World} {g c : Nat} {f : ByteArray} {l : List Tok} (h : RSt w0 g w f c l) (x y : Int) : Calls Tryz.prog 175 #[.pointer (some ⟨g, 0, none⟩), .int .i64 x, .int .i64 y] w fun e w' => e = .returned (.int .i64 (if hasF f 109 = true then x else y)) ∧ w = w' := by
 have HO := Lib.hid (holds_any hH h 109)
 clear h hH
 rw [show (109 : UInt8).toNat = 109 from rfl] at HO
 revert HO
 cases hasF f 109 with
 | true =>
   intro HO
   go_enter Tryz.func175, Tryz.ntmps175
   go_wp2_with fail
   with_reducible refine HO.out.mono ?_
   rintro e w1 ⟨rfl, rfl⟩
   go_wp2_with fail
   go_ret
   exact ⟨rfl, rfl⟩
 | false =>
   intro HO
   go_enter Tryz.func175, Tryz.ntmps175
   go_wp2_with fail
   with_reducible refine HO.out.mono ?_
   rintro e w1 ⟨rfl, rfl⟩
   go_wp2_with fail
   go_ret
   exact ⟨rfl, rfl⟩
def BoxV (T : TypeId) (w : World) (g : Nat) (cs : Array Value) : Prop := w.heap[g]? = some (.cells cs T (0, 0))
section
variable {T : TypeId} {w w' : World} {g : Nat} {cs : Array Value}
theorem BoxV.lt (h : BoxV T w g cs) : g < w.heap.size := lt_of_block h
theorem BoxV.below {B : Nat} (h : BoxV T w g cs) (hb : Below B w w') (hg : g < B) : BoxV T w' g cs := (hb.block g hg).trans h
theorem BoxV.but {B k : Nat} (h : BoxV T w g cs) (hb : ButR k B w w') (hg : g < B) (hk : g ≠ k) : BoxV T w' g cs := (hb.block g hg hk).trans h
theorem BoxV.alloc (h : BoxV T w g cs) (o : Obj) : BoxV T (w.alloc o) g cs := (Below.heap_alloc _ _ _ h.lt).trans h
theorem BoxV.row (h : BoxV T w g cs) {k : Nat} (ds : Array Value) (hk : g ≠ k) : BoxV T (w.setRow k ds) g cs := (setRow_other w k g ds hk).trans h
theorem BoxV.rowSame (h : BoxV T w g cs) (ds : Array Value) : BoxV T (w.setRow g ds) g ds := setRow_heap w g _ _ _ _ h
theorem BoxV.new (w : World) (cs : Array Value) : BoxV T (w.alloc (.cells cs T)) w.heap.size cs := heap_alloc_new _ _
theorem BoxV.drew (h : BoxV T w g cs) : BoxV T w.drew g cs := h
end
abbrev ndC (x : Nd) : Array Value := #[.int .i64 x.k, .int .i64 x.a, .int .i64 x.b, .int .u64 x.s0, .int .u64 x.s1, .int .u64 x.s2, .int .u64 x.s3, .int .i64 x.mn, .int .i64 x.mx, .int .i64 x.md, .int .i64 x.n, .bool x.f]
abbrev trC (A : Option Addr) (n cap : Nat) : Array Value := #[.slice A n cap]
theorem sizeNd : (Tryz.prog.info? 76).map (·.size) = some 12 := by kernel_rfl
theorem sizeTr : (Tryz.prog.info? 43).map (·.size) = some 1 := by kernel_rfl
section
variable {ops : Array Oper} {rest : List Oper} {o : Oper} {a : Act} {w : World} {Q : Exit → Act → World → Prop}
theorem storeNd (hgd : o.guard = none) (x y : Operand) (ho : o.op = .store 76 x y) (g : Nat) (u v : Nd) (hx : a.eval x = .pointer (some ⟨g, 0, none⟩)) (cs : Array Value) (hy : a.eval y = .agg cs) (hcs : cs = ndC v) (hg : BoxV 76 w g (ndC u))
  (h : wpList Tryz.prog ops Q rest (a.put o.dst undef) (w.setRow g (ndC v))) : wpList Tryz.prog ops Q (o :: rest) a w := by
 subst hcs
 exact wpList_store_row hgd 76 x y ho g _ hx hy _ _ hg sizeNd rfl (by simp [Value.oneCell']) h
theorem loadTr (hgd : o.guard = none) (x : Operand) (ho : o.op = .load 43 x) (g : Nat) (A : Option Addr) (n cap : Nat) (hx : a.eval x = .pointer (some ⟨g, 0, none⟩)) (hg : BoxV 43 w g (trC A n cap))
  (h : wpList Tryz.prog ops Q rest (a.put o.dst (.agg (trC A n cap))) w) : wpList Tryz.prog ops Q (o :: rest) a w :=
 wpList_load_row hgd 43 x ho g hx _ _ _ _ hg Tryz.underlying43 rfl sizeTr h
theorem storeTr (hgd : o.guard = none) (x y : Operand) (ho : o.op = .store 43 x y) (g : Nat) (cs : Array Value) (A : Option Addr) (n cap : Nat) (hx : a.eval x = .pointer (some ⟨g, 0, none⟩)) (hy : a.eval y = .agg (trC A n cap)) (hs : cs.size = 1) (hg : BoxV 43 w g cs)
  (h : wpList Tryz.prog ops Q rest (a.put o.dst undef) (w.setRow g (trC A n cap))) : wpList Tryz.prog ops Q (o :: rest) a w :=
 wpList_store_row hgd 43 x y ho g _ hx hy _ _ hg sizeTr (by rw [hs]; rfl) (by simp [Value.oneCell']) h
end
theorem resNd {fn : Func} {p : Tmp} (h : fn.results = #[.cell p 76]) (tmps : Array Value) {w : World} {g : Nat} {v : Nd} (hp : tmps.getD p undef = .pointer (some ⟨g, 0, none⟩)) (hg : BoxV 76 w g (ndC v)) :
  (results fn tmps).run Tryz.prog w = .ok (ndV v) w := results_cell_row h tmps w g _ _ _ _ hp hg Tryz.underlying76 rfl sizeNd
theorem resTr {fn : Func} {p : Tmp} (h : fn.results = #[.cell p 43]) (tmps : Array Value) {w : World} {g : Nat} {A : Option Addr} {n cap : Nat} (hp : tmps.getD p undef = .pointer (some ⟨g, 0, none⟩)) (hg : BoxV 43 w g (trC A n cap)) :
  (results fn tmps).run Tryz.prog w = .ok (.agg (trC A n cap)) w := results_cell_row h tmps w g _ _ _ _ hp hg Tryz.underlying43 rfl sizeTr
theorem Ast.Nodes.alloc {w : World} {A : Option Addr} {n : Nat} {l : Nat → Nd} (h : Nodes w A n l) (o : Obj) : Nodes (w.alloc o) A n l := h.below ((Below.refl _ w).alloc (Nat.le_refl _) o) (Nat.le_refl _)
abbrev deepP : Ending := .panicked [{ v := .iface 123 (.agg #[]), recovered := false }]
theorem shallow_any (A : Option Addr) (n cap : Nat) (l : Nat → Nd) (w : World) (hn : n ≤ 1000000) (hl : Nodes w A n l) : Calls Tryz.prog 111 #[.agg (trC A n cap)] w fun e w' => e = (if 40 < deepZ l n then deepP else .returned (.agg (trC A n cap))) ∧ Below w.heap.size w w' := by
 have HD := Lib.hid (fun w hl => Ast.deep_any A n cap l w hn hl)
 have HL := Lib.hid hl
 clear hl
 have h1 : BoxV 43 ((w.alloc (.cells (trC A n cap) 43)).alloc (.cells (trC none 0 0) 43)) w.heap.size (trC A n cap) := (BoxV.new _ _).alloc _
 have h2 : BoxV 43 ((w.alloc (.cells (trC A n cap) 43)).alloc (.cells (trC none 0 0) 43)) (w.heap.size + 1) (trC none 0 0) := by
  have h := BoxV.new (T := 43) (w.alloc (.cells (trC A n cap) 43)) (trC none 0 0)
  simpa using h
 have H12 := Lib.hid (And.intro h1 h2)
 clear h1 h2
 by_cases h : 40 < deepZ l n
 ·rw [if_pos h]
  have q : (40 : Int) < ((deepZ l n : Nat) : Int) := by omega
  clear h
  go_enter Tryz.func111, Tryz.ntmps111
  go_wp2_with fail
  with_reducible refine (HD.out _ ((HL.out.alloc _).alloc _)).mono ?_
  rintro e w1 ⟨rfl, hb⟩
  have HB := Lib.hid ((((Below.refl _ w).alloc (Nat.le_refl _) _).alloc (by simp) _).trans (hb.mono (by simp; omega)))
  clear hb
  go_wp2_with fail
  exact ⟨rfl, rfl, HB.out⟩
 ·rw [if_neg h]
  have q : ¬ (40 : Int) < ((deepZ l n : Nat) : Int) := by omega
  clear h
  go_enter Tryz.func111, Tryz.ntmps111
  go_wp2_with fail
  with_reducible refine (HD.out _ ((HL.out.alloc _).alloc _)).mono ?_
  rintro e w1 ⟨rfl, hb⟩
  have HB := Lib.hid ((((Below.refl _ w).alloc (Nat.le_refl _) _).alloc (by simp) _).trans (hb.mono (by simp; omega)))
  have HX := Lib.hid (H12.out.1.below hb H12.out.1.lt)
  have HZ := Lib.hid (H12.out.2.below hb H12.out.2.lt)
  clear hb
  go_wp2_with (first | (refine loadTr rfl _ rfl w.heap.size A n cap rfl HX.out ?_) | (refine storeTr rfl _ _ rfl (w.heap.size + 1) _ A n cap rfl rfl rfl HZ.out ?_))
  refine bodyPost_ret (resTr (p := 2) (A := A) (n := n) (cap := cap) rfl _ (g := w.heap.size + 1) rfl (HZ.out.rowSame _)) rfl ?_
  exact ⟨rfl, below_row HB.out (by omega) _⟩
end Go.Proofs.YteggpecbeagohaaGreatDoor
namespace Go.Proofs.YteggpecbeagohaaGreatDoor
open Go.RowKit
open Ast (Nd ndV joinL wrapL deepZ rightZ Nodes)
theorem RSt.row {w0 w : World} {g c k : Nat} {f : ByteArray} {l : List Tok} (h : RSt w0 g w f c l) (hk : g ≠ k) (hk2 : w0.heap.size ≤ k) (cs : Array Value) : RSt w0 g (w.setRow k cs) f c l := by
 obtain ⟨A, cap, h1, h2, h3⟩ := h.cells
 exact ⟨h.base, ⟨A, cap, (setRow_other w k g cs hk).trans h1, h2, h3⟩, below_row h.below hk2 cs⟩
abbrev leafW (w : World) (t : Tok) : World := (w.alloc (.cells (tokC t) 115)).alloc (.cells (ndC (nd0 0)) 76)
structure LfW (w : World) (t : Tok) (u : World) : Prop where
 t : BoxT 115 u w.heap.size t
 n : BoxV 76 u (w.heap.size + 1) (ndC (nd0 0))
 b : Below w.heap.size w u
theorem LfW.new (w : World) (t : Tok) : LfW w t (leafW w t) := by
 refine ⟨(BoxT.new w t).alloc _, ?_, ((Below.refl _ w).alloc (Nat.le_refl _) _).alloc (by simp) _⟩
 have h := BoxV.new (T := 76) (w.alloc (.cells (tokC t) 115)) (ndC (nd0 0))
 simpa using h
theorem LfW.call {w u v : World} {t : Tok} (h : LfW w t u) (hb : Below u.heap.size u v) : LfW w t v := ⟨h.t.below hb h.t.lt, h.n.below hb h.n.lt, thenB h.b hb h.b.size⟩
theorem LfW.cell {w u : World} {t : Tok} (h : LfW w t u) (j : Nat) : u.cell? ⟨w.heap.size, j, none⟩ = (tokC t)[j]? := cell_of_row u w.heap.size j _ _ _ h.t
theorem BoxV.cell {T : TypeId} {w : World} {g k : Nat} {cs : Array Value} (h : BoxV T w g cs) (j : Nat) (v : Value) (hk : g ≠ k) : BoxV T (w.setCell ⟨k, j, none⟩ v) g cs := (heap_setCell_other w ⟨k, j, none⟩ g v hk).trans h
section
variable {f : ByteArray} {t : Tok}
theorem leaf_1 (h : t.k = 1) : leafN f t = setN (if hasF f 115 = true then ~~~0#256 else ~~~addB 0#256 10) := by unfold leafN; rw [if_pos h]
theorem leaf_2 (h : t.k = 2) : leafN f t = nd0 (if hasF f 109 = true then 4 else 2) := by unfold leafN; rw [if_neg (by omega), if_pos h]
theorem leaf_3 (h : t.k = 3) : leafN f t = nd0 (if hasF f 109 = true then 5 else 3) := by unfold leafN; rw [if_neg (by omega), if_neg (by omega), if_pos h]
theorem leaf_4 (h : t.k = 4) : leafN f t = nd0 6 := by unfold leafN; rw [if_neg (by omega), if_neg (by omega), if_neg (by omega), if_pos h]
theorem leaf_5 (h : t.k = 5) : leafN f t = nd0 7 := by unfold leafN; rw [if_neg (by omega), if_neg (by omega), if_neg (by omega), if_neg (by omega), if_pos h]
theorem leaf_17 (h : t.k = 17) : leafN f t = { nd0 12 with n := t.n, f := hasF f 105 } := by unfold leafN; rw [if_neg (by omega), if_neg (by omega), if_neg (by omega), if_neg (by omega), if_neg (by omega), if_pos h]
theorem leaf_0 (h : t.k ≠ 1 ∧ t.k ≠ 2 ∧ t.k ≠ 3 ∧ t.k ≠ 4 ∧ t.k ≠ 5 ∧ t.k ≠ 17) : leafN f t = setN (if hasF f 105 = true then foldS t.S else t.S) := by
 unfold leafN
 rw [if_neg h.1, if_neg h.2.1, if_neg h.2.2.1, if_neg h.2.2.2.1, if_neg h.2.2.2.2.1, if_neg h.2.2.2.2.2]
end
set_option maxRecDepth 100000 in
set_option maxHeartbeats 8000000 in
theorem leafk_1 (hH : HasOk) {w0 w : World} {g c : Nat} {f : ByteArray} {l : List Tok} (h : RSt w0 g w f c l) (t : Tok) (hk : t.k = 1) : Calls Tryz.prog 157 #[.pointer (some ⟨g, 0, none⟩), tokV t] w fun e w' => e = .returned (ndV (leafN f t)) ∧ Below w.heap.size w w' := by
 have hlt := h.lt
 have hw0 := h.below.size
 have HL := Lib.hid (LfW.new w t)
 have HR := Lib.hid (h.call (((Below.refl _ w).alloc (Nat.le_refl _) (.cells (tokC t) 115)).alloc (by simp) (.cells (ndC (nd0 0)) 76)))
 clear h
 have HE := Lib.hid (leaf_1 (f := f) hk)
 obtain ⟨k, S, mn, mx, md, n, ff⟩ := t
 have hk' : k = 1 := hk
 subst hk'
 clear hk
 simp only [tokV, tokC, ndC, nd0] at HR ⊢
 go_enter Tryz.func157, Tryz.ntmps157
 go_wp2_with fail
 with_reducible refine (holds_any hH HR.out 115).mono ?_
 rw [show (115 : UInt8).toNat = 115 from rfl]
 rintro e w1 ⟨rfl, rfl⟩
 cases hb : hasF f 115 with
 | true =>
   rw [if_pos hb] at HE
   clear hb
   go_wp2_with fail
   with_reducible refine (all_any _).mono ?_
   rintro e w1 ⟨rfl, hb⟩
   have HL1 := Lib.hid (HL.out.call hb)
   clear hb
   go_wp2_with (refine storeNd rfl _ _ rfl (w.heap.size + 1) (nd0 0) (setN (~~~0#256)) rfl _ rfl rfl HL1.out.n ?_)
   refine bodyPost_ret (resNd (p := 4) (v := setN (~~~0#256)) rfl _ (g := w.heap.size + 1) rfl (HL1.out.n.rowSame _)) rfl ?_
   exact ⟨by rw [HE.out], below_row HL1.out.b (by omega) _⟩
 | false =>
   rw [if_neg (by rw [hb]; decide)] at HE
   clear hb
   go_wp2_with fail
   with_reducible refine (one_any 10 _ (by decide) (by decide)).mono ?_
   rintro e w1 ⟨rfl, hb⟩
   have HL1 := Lib.hid (HL.out.call hb)
   clear hb
   go_wp2_with fail
   with_reducible refine (not_any _ _).mono ?_
   rintro e w2 ⟨rfl, hb⟩
   have HL2 := Lib.hid (HL1.out.call hb)
   clear hb
   go_wp2_with (refine storeNd rfl _ _ rfl (w.heap.size + 1) (nd0 0) (setN (~~~addB 0#256 10)) rfl _ rfl rfl HL2.out.n ?_)
   refine bodyPost_ret (resNd (p := 4) (v := setN (~~~addB 0#256 10)) rfl _ (g := w.heap.size + 1) rfl (HL2.out.n.rowSame _)) rfl ?_
   exact ⟨by rw [HE.out], below_row HL2.out.b (by omega) _⟩
set_option maxRecDepth 100000 in
set_option maxHeartbeats 8000000 in
theorem leafk_2 (hH : HasOk) {w0 w : World} {g c : Nat} {f : ByteArray} {l : List Tok} (h : RSt w0 g w f c l) (t : Tok) (hk : t.k = 2) : Calls Tryz.prog 157 #[.pointer (some ⟨g, 0, none⟩), tokV t] w fun e w' => e = .returned (ndV (leafN f t)) ∧ Below w.heap.size w w' := by
 have hlt := h.lt
 have hw0 := h.below.size
 have HL := Lib.hid (LfW.new w t)
 have HR := Lib.hid (h.call (((Below.refl _ w).alloc (Nat.le_refl _) (.cells (tokC t) 115)).alloc (by simp) (.cells (ndC (nd0 0)) 76)))
 clear h
 have HE := Lib.hid (leaf_2 (f := f) hk)
 obtain ⟨k, S, mn, mx, md, n, ff⟩ := t
 have hk' : k = 2 := hk
 subst hk'
 clear hk
 simp only [tokV, tokC, ndC, nd0] at HR ⊢
 go_enter Tryz.func157, Tryz.ntmps157
 go_wp2_with fail
 with_reducible refine (either_any hH HR.out 4 2).mono ?_
 rintro e w1 ⟨rfl, rfl⟩
 generalize (if hasF f 109 = true then (4 : Int) else 2) = z at HE ⊢
 go_wp2_with (refine storeNd rfl _ _ rfl (w.heap.size + 1) (nd0 0) (nd0 z) rfl _ rfl rfl HL.out.n ?_)
 refine bodyPost_ret (resNd (p := 4) (v := nd0 z) rfl _ (g := w.heap.size + 1) rfl (HL.out.n.rowSame _)) rfl ?_
 exact ⟨by rw [HE.out], below_row HL.out.b (by omega) _⟩
set_option maxRecDepth 100000 in
set_option maxHeartbeats 8000000 in
theorem leafk_3 (hH : HasOk) {w0 w : World} {g c : Nat} {f : ByteArray} {l : List Tok} (h : RSt w0 g w f c l) (t : Tok) (hk : t.k = 3) : Calls Tryz.prog 157 #[.pointer (some ⟨g, 0, none⟩), tokV t] w fun e w' => e = .returned (ndV (leafN f t)) ∧ Below w.heap.size w w' := by
 have hlt := h.lt
 have hw0 := h.below.size
 have HL := Lib.hid (LfW.new w t)
 have HR := Lib.hid (h.call (((Below.refl _ w).alloc (Nat.le_refl _) (.cells (tokC t) 115)).alloc (by simp) (.cells (ndC (nd0 0)) 76)))
 clear h
 have HE := Lib.hid (leaf_3 (f := f) hk)
 obtain ⟨k, S, mn, mx, md, n, ff⟩ := t
 have hk' : k = 3 := hk
 subst hk'
 clear hk
 simp only [tokV, tokC, ndC, nd0] at HR ⊢
 go_enter Tryz.func157, Tryz.ntmps157
 go_wp2_with fail
 with_reducible refine (either_any hH HR.out 5 3).mono ?_
 rintro e w1 ⟨rfl, rfl⟩
 generalize (if hasF f 109 = true then (5 : Int) else 3) = z at HE ⊢
 go_wp2_with (refine storeNd rfl _ _ rfl (w.heap.size + 1) (nd0 0) (nd0 z) rfl _ rfl rfl HL.out.n ?_)
 refine bodyPost_ret (resNd (p := 4) (v := nd0 z) rfl _ (g := w.heap.size + 1) rfl (HL.out.n.rowSame _)) rfl ?_
 exact ⟨by rw [HE.out], below_row HL.out.b (by omega) _⟩
set_option maxRecDepth 100000 in
set_option maxHeartbeats 8000000 in
theorem leafk_4 {w0 w : World} {g c : Nat} {f : ByteArray} {l : List Tok} (h : RSt w0 g w f c l) (t : Tok) (hk : t.k = 4) : Calls Tryz.prog 157 #[.pointer (some ⟨g, 0, none⟩), tokV t] w fun e w' => e = .returned (ndV (leafN f t)) ∧ Below w.heap.size w w' := by
 have hlt := h.lt
 have hw0 := h.below.size
 have HL := Lib.hid (LfW.new w t)
 have HR := Lib.hid (h.call (((Below.refl _ w).alloc (Nat.le_refl _) (.cells (tokC t) 115)).alloc (by simp) (.cells (ndC (nd0 0)) 76)))
 clear h
 have HE := Lib.hid (leaf_4 (f := f) hk)
 obtain ⟨k, S, mn, mx, md, n, ff⟩ := t
 have hk' : k = 4 := hk
 subst hk'
 clear hk
 simp only [tokV, tokC, ndC, nd0] at HR ⊢
 go_enter Tryz.func157, Tryz.ntmps157
 go_wp2_with (refine storeNd rfl _ _ rfl (w.heap.size + 1) (nd0 0) (nd0 6) rfl _ rfl rfl HL.out.n ?_)
 refine bodyPost_ret (resNd (p := 4) (v := nd0 6) rfl _ (g := w.heap.size + 1) rfl (HL.out.n.rowSame _)) rfl ?_
 exact ⟨by rw [HE.out], below_row HL.out.b (by omega) _⟩
set_option maxRecDepth 100000 in
set_option maxHeartbeats 8000000 in
theorem leafk_5 {w0 w : World} {g c : Nat} {f : ByteArray} {l : List Tok} (h : RSt w0 g w f c l) (t : Tok) (hk : t.k = 5) : Calls Tryz.prog 157 #[.pointer (some ⟨g, 0, none⟩), tokV t] w fun e w' => e = .returned (ndV (leafN f t)) ∧ Below w.heap.size w w' := by
 have hlt := h.lt
 have hw0 := h.below.size
 have HL := Lib.hid (LfW.new w t)
 have HR := Lib.hid (h.call (((Below.refl _ w).alloc (Nat.le_refl _) (.cells (tokC t) 115)).alloc (by simp) (.cells (ndC (nd0 0)) 76)))
 clear h
 have HE := Lib.hid (leaf_5 (f := f) hk)
 obtain ⟨k, S, mn, mx, md, n, ff⟩ := t
 have hk' : k = 5 := hk
 subst hk'
 clear hk
 simp only [tokV, tokC, ndC, nd0] at HR ⊢
 go_enter Tryz.func157, Tryz.ntmps157
 go_wp2_with (refine storeNd rfl _ _ rfl (w.heap.size + 1) (nd0 0) (nd0 7) rfl _ rfl rfl HL.out.n ?_)
 refine bodyPost_ret (resNd (p := 4) (v := nd0 7) rfl _ (g := w.heap.size + 1) rfl (HL.out.n.rowSame _)) rfl ?_
 exact ⟨by rw [HE.out], below_row HL.out.b (by omega) _⟩
theorem loadI7 {ops : Array Oper} {o : Oper} {a : Act} {x : Operand} {R : World → Prop} (g k : Nat) (n : Int) (hR : ∀ u, R u → u.cell? ⟨g, k, none⟩ = some (.int .i64 n)) (ho : o.op = .load 3 x) (hx : a.eval x = .pointer (some ⟨g, k, none⟩)) (hw : Region.wanted o (yielded ops a.tmps) = true) : YieldsIf Tryz.prog ops R o (.int .i64 n) a := by
 refine Or.inl ⟨hw, fun w h => ?_⟩
 have h2 := hR w h
 unfold execOp
 simp only [ho, hx]
 go_simp
set_option maxRecDepth 100000 in
set_option maxHeartbeats 8000000 in
theorem leafk_17 (hH : HasOk) {w0 w : World} {g c : Nat} {f : ByteArray} {l : List Tok} (h : RSt w0 g w f c l) (t : Tok) (hk : t.k = 17) : Calls Tryz.prog 157 #[.pointer (some ⟨g, 0, none⟩), tokV t] w fun e w' => e = .returned (ndV (leafN f t)) ∧ Below w.heap.size w w' := by
 have hlt := h.lt
 have hw0 := h.below.size
 have HL := Lib.hid (LfW.new w t)
 have HR := Lib.hid (h.call (((Below.refl _ w).alloc (Nat.le_refl _) (.cells (tokC t) 115)).alloc (by simp) (.cells (ndC (nd0 0)) 76)))
 clear h
 have HE := Lib.hid (leaf_17 (f := f) hk)
 obtain ⟨k, S, mn, mx, md, n, ff⟩ := t
 have hk' : k = 17 := hk
 subst hk'
 clear hk
 simp only [tokV, tokC, ndC, nd0] at HR ⊢
 go_enter Tryz.func157, Tryz.ntmps157
 go_wp2_with fail
 obtain ⟨b, hb⟩ : ∃ b, b = hasF f 105 := ⟨_, rfl⟩
 rw [← hb] at HE
 have HHo := Lib.hid (fun (u : World) (h : RSt w0 g u f c l) => holds_any hH h 105)
 rw [show (105 : UInt8).toNat = 105 from rfl, ← hb] at HHo
 clear hb
 refine wp_region_held_drew (S := fun u => RSt w0 g u f c l ∧ BoxT 115 u w.heap.size ⟨17, S, mn, mx, md, n, ff⟩ ∧ (∃ x, BoxV 76 u (w.heap.size + 1) (ndC x)) ∧ Below w.heap.size w u) (by kernel_rfl) (show _ from ⟨HR.out.call (Below.refl _ _).drew, HL.out.t, ⟨_, HL.out.n⟩, HL.out.b.drew⟩) (fun hS => ?_)
 generalize World.drew _ = u0 at hS ⊢
 refine takeAt 0 34 (.pointer (some ⟨w.heap.size, 8, none⟩)) rfl rfl (by kernel_rfl) (by kernel_rfl) (by kernel_rfl) i_ (yields (by rfl) (fun w => by kernel_rfl)) hS ?_
 simp only [Act.put, sA_, s0_, sS_]
 refine takeAt 1 35 (.int .i64 n) rfl rfl (by kernel_rfl) (by kernel_rfl) (by kernel_rfl) i_ (loadI7 w.heap.size 8 n (fun u h => (cell_of_row u w.heap.size 8 _ _ _ h.2.1).trans rfl) rfl rfl (by rfl)) hS ?_
 simp only [Act.put, sA_, s0_, sS_]
 refine takeAt 2 36 (.pointer (some ⟨g, 0, none⟩)) rfl rfl (by kernel_rfl) (by kernel_rfl) (by kernel_rfl) i_ (yields (by rfl) (fun w => by kernel_rfl)) hS ?_
 simp only [Act.put, sA_, s0_, sS_]
 refine callAt 3 37 rfl rfl (by kernel_rfl) (by rfl) (by kernel_rfl) (HHo.out _ hS.1) ?_
 rintro e u1 ⟨rfl, rfl⟩
 refine ⟨_, rfl, hS, ?_⟩
 simp only [Act.put, sA_, s0_, sS_]
 refine takeAt 4 38 (.agg (ndC { nd0 12 with n := n, f := b })) rfl rfl (by kernel_rfl) (by kernel_rfl) (by kernel_rfl) i_ (yields (by rfl) (fun w => by kernel_rfl)) hS ?_
 simp only [Act.put, sA_, s0_, sS_]
 obtain ⟨hs1, hs2, ⟨x, hs3⟩, hs4⟩ := hS
 have hx := hs3.rowSame (ndC { nd0 12 with n := n, f := b })
 have hB := below_row hs4 (show w.heap.size ≤ w.heap.size + 1 by omega) (ndC { nd0 12 with n := n, f := b })
 refine rowAt 5 76 (w.heap.size + 1) (ndC x) (ndC { nd0 12 with n := n, f := b }) rfl rfl rfl (by kernel_rfl) (by rfl) rfl rfl hs3 sizeNd rfl (by simp [Value.oneCell']) ⟨hs1.row (by omega) (by omega) _, (hs2.row _ (by omega)), ⟨_, hx⟩, hB⟩ ?_
 refine wpAnyH_done (by kernel_rfl) ?_ _
 go_wp2_with fail
 refine bodyPost_ret (resNd (p := 4) (v := { nd0 12 with n := n, f := b }) rfl _ (g := w.heap.size + 1) rfl hx) rfl ?_
 exact ⟨by rw [HE.out], hB⟩
set_option maxRecDepth 100000 in
set_option maxHeartbeats 8000000 in
theorem leafk_0 (hH : HasOk) {w0 w : World} {g c : Nat} {f : ByteArray} {l : List Tok} (h : RSt w0 g w f c l) (t : Tok) (hk : t.k ≠ 1 ∧ t.k ≠ 2 ∧ t.k ≠ 3 ∧ t.k ≠ 4 ∧ t.k ≠ 5 ∧ t.k ≠ 17) : Calls Tryz.prog 157 #[.pointer (some ⟨g, 0, none⟩), tokV t] w fun e w' => e = .returned (ndV (leafN f t)) ∧ Below w.heap.size w w' := by
 have hlt := h.lt
 have hw0 := h.below.size
 have HL := Lib.hid (LfW.new w t)
 have HR := Lib.hid (h.call (((Below.refl _ w).alloc (Nat.le_refl _) (.cells (tokC t) 115)).alloc (by simp) (.cells (ndC (nd0 0)) 76)))
 clear h
 have HE := Lib.hid (leaf_0 (f := f) hk)
 obtain ⟨k, S, mn, mx, md, n, ff⟩ := t
 obtain ⟨h1, h2, h3, h4, h5, h17⟩ := hk
 have q1 : (k == 1) = false := by simpa using h1
 have q2 : (k == 2) = false := by simpa using h2
 have q3 : (k == 3) = false := by simpa using h3
 have q4 : (k == 4) = false := by simpa using h4
 have q5 : (k == 5) = false := by simpa using h5
 have q17 : (k == 17) = false := by simpa using h17
 clear h1 h2 h3 h4 h5 h17
 simp only [tokV, tokC, ndC, nd0] at HR ⊢
 go_enter Tryz.func157, Tryz.ntmps157
 go_wp2_with fail
 with_reducible refine (holds_any hH HR.out 105).mono ?_
 rw [show (105 : UInt8).toNat = 105 from rfl]
 rintro e w1 ⟨rfl, rfl⟩
 cases hb : hasF f 105 with
 | true =>
   rw [if_pos hb] at HE
   clear hb
   go_wp2_with fail
   with_reducible refine (fold_any S _).mono ?_
   rintro e w1 ⟨rfl, hb⟩
   have HL1 := Lib.hid (HL.out.call hb)
   clear hb
   obtain ⟨T, hT⟩ : ∃ T, T = foldS S := ⟨_, rfl⟩
   rw [← hT] at HE ⊢
   clear hT
   have f1 := frozen_of_row w1 w.heap.size 1 _ _ HL1.out.t
   have f2 := frozen_of_row w1 w.heap.size 2 _ _ HL1.out.t
   have f3 := frozen_of_row w1 w.heap.size 3 _ _ HL1.out.t
   have f4 := frozen_of_row w1 w.heap.size 4 _ _ HL1.out.t
   have c1 := (HL1.out.cell 1).trans (show _ = some (.int .u64 (W S 0)) from rfl)
   have c2 := (HL1.out.cell 2).trans (show _ = some (.int .u64 (W S 1)) from rfl)
   have c3 := (HL1.out.cell 3).trans (show _ = some (.int .u64 (W S 2)) from rfl)
   have c4 := (HL1.out.cell 4).trans (show _ = some (.int .u64 (W S 3)) from rfl)
   have hN := (((HL1.out.n.cell (k := w.heap.size) 1 (.int .u64 (W T 0)) (by omega)).cell (k := w.heap.size) 2 (.int .u64 (W T 1)) (by omega)).cell (k := w.heap.size) 3 (.int .u64 (W T 2)) (by omega)).cell (k := w.heap.size) 4 (.int .u64 (W T 3)) (by omega)
   have HB4 := Lib.hid (below_four HL1.out.b (Nat.le_refl _) (.int .u64 (W T 0)) (.int .u64 (W T 1)) (.int .u64 (W T 2)) (.int .u64 (W T 3)))
   have HN4 := Lib.hid hN
   clear hN
   go_wp2_with (refine storeNd rfl _ _ rfl (w.heap.size + 1) (nd0 0) (setN T) rfl _ rfl rfl HN4.out ?_)
   refine bodyPost_ret (resNd (p := 4) (v := setN T) rfl _ (g := w.heap.size + 1) rfl (HN4.out.rowSame _)) rfl ?_
   exact ⟨by rw [HE.out], below_row HB4.out (by omega) _⟩
 | false =>
   rw [if_neg (by rw [hb]; decide)] at HE
   clear hb
   go_wp2_with (refine storeNd rfl _ _ rfl (w.heap.size + 1) (nd0 0) (setN S) rfl _ rfl rfl HL.out.n ?_)
   refine bodyPost_ret (resNd (p := 4) (v := setN S) rfl _ (g := w.heap.size + 1) rfl (HL.out.n.rowSame _)) rfl ?_
   exact ⟨by rw [HE.out], below_row HL.out.b (by omega) _⟩
end Go.Proofs.YteggpecbeagohaaGreatDoor
namespace Go.Proofs.YteggpecbeagohaaGreatDoor
open Go.RowKit
open Ast (Nd ndV joinL wrapL deepZ rightZ Nodes)
theorem pleaf_any (hH : HasOk) {w0 w : World} {g c : Nat} {f : ByteArray} {l : List Tok} (h : RSt w0 g w f c l) (t : Tok) : Calls Tryz.prog 157 #[.pointer (some ⟨g, 0, none⟩), tokV t] w fun e w' => e = .returned (ndV (leafN f t)) ∧ Below w.heap.size w w' := by
 by_cases h1 : t.k = 1
 ·exact leafk_1 hH h t h1
 by_cases h2 : t.k = 2
 ·exact leafk_2 hH h t h2
 by_cases h3 : t.k = 3
 ·exact leafk_3 hH h t h3
 by_cases h4 : t.k = 4
 ·exact leafk_4 h t h4
 by_cases h5 : t.k = 5
 ·exact leafk_5 h t h5
 by_cases h17 : t.k = 17
 ·exact leafk_17 hH h t h17
 ·exact leafk_0 hH h t ⟨h1, h2, h3, h4, h5, h17⟩
section
variable {ops : Array Oper} {rest : List Oper} {o : Oper} {a : Act} {w : World} {Q : Exit → Act → World → Prop}
theorem storeRg (hgd : o.guard = none) (x y : Operand) (ho : o.op = .store 3 x y) (g : Nat) {A : Option Addr} {n cap c : Nat} {f : ByteArray} (c2 : Nat) (hx : a.eval x = .pointer (some ⟨g, 2, none⟩)) (hy : a.eval y = .int .i64 (c2 : Int)) (hg : w.heap[g]? = some (.cells (rdC A n cap f c) 126 (0, 0)))
  (h : ∀ v : World, Hid (v.heap[g]? = some (.cells (rdC A n cap f c2) 126 (0, 0))) → Hid (ButR g w.heap.size w v) → wpList Tryz.prog ops Q rest (a.put o.dst undef) v) : wpList Tryz.prog ops Q (o :: rest) a w := by
 have hc : w.cell? ⟨g, 2, none⟩ = some (.int .i64 (c : Int)) := (cell_of_row w g 2 _ _ _ hg).trans rfl
 have hf := frozen_of_row w g 2 _ _ hg
 have hv := h (w.setCell ⟨g, 2, none⟩ (.int .i64 (c2 : Int))) (Lib.hid (heap_setCell_same _ g 2 _ _ (.int .i64 (c2 : Int)) hg)) (Lib.hid ((ButR.refl g _ w).setCell 2 _))
 refine wpList_plain hgd fun K hK => ?_
 unfold Oper.wp execOp
 simp only [ho, hx, hy]
 simp [go_sem, hc, hf]
 exact hK _ _ hv
theorem storeRf (hgd : o.guard = none) (x y : Operand) (ho : o.op = .store 9 x y) (g : Nat) {A : Option Addr} {n cap c : Nat} {f : ByteArray} (f2 : ByteArray) (hx : a.eval x = .pointer (some ⟨g, 1, none⟩)) (hy : a.eval y = .string f2) (hg : w.heap[g]? = some (.cells (rdC A n cap f c) 126 (0, 0)))
  (h : ∀ v : World, Hid (v.heap[g]? = some (.cells (rdC A n cap f2 c) 126 (0, 0))) → Hid (ButR g w.heap.size w v) → wpList Tryz.prog ops Q rest (a.put o.dst undef) v) : wpList Tryz.prog ops Q (o :: rest) a w := by
 have hc : w.cell? ⟨g, 1, none⟩ = some (.string f) := (cell_of_row w g 1 _ _ _ hg).trans rfl
 have hf := frozen_of_row w g 1 _ _ hg
 have hv := h (w.setCell ⟨g, 1, none⟩ (.string f2)) (Lib.hid (heap_setCell_same _ g 1 _ _ (.string f2) hg)) (Lib.hid ((ButR.refl g _ w).setCell 1 _))
 refine wpList_plain hgd fun K hK => ?_
 unfold Oper.wp execOp
 simp only [ho, hx, hy]
 simp [go_sem, hc, hf]
 exact hK _ _ hv
end
set_option maxRecDepth 100000 in
set_option maxHeartbeats 8000000 in
theorem around_9 {w0 w : World} {g c : Nat} {f : ByteArray} {l : List Tok} (h : RSt w0 g w f c l)  : Calls Tryz.prog 159 #[.pointer (some ⟨g, 0, none⟩), .int .i64 9] w fun e w' => e = .returned (ndV (aroundN 9 c)) ∧ RSt w0 g w' f (aroundG 9 c) l ∧ ButR g w.heap.size w w' := by
 have hn : BoxV 76 (w.alloc (.cells (ndC (nd0 0)) 76)) w.heap.size (ndC (nd0 0)) := BoxV.new _ _
 have HN := Lib.hid hn
 have hlt := h.lt
 have hw0 := h.below.size
 have HR := Lib.hid (h.call ((Below.refl _ w).alloc (Nat.le_refl _) (.cells (ndC (nd0 0)) 76)))
 have HE := Lib.hid (show aroundN 9 c = nd0 13 from if_pos (by decide))
 have HG := Lib.hid (show aroundG 9 c = c from if_pos (by decide))
 clear h hn
 go_enter Tryz.func159, Tryz.ntmps159
 go_wp2_with (refine storeNd rfl _ _ rfl w.heap.size (nd0 0) (nd0 13) rfl _ rfl rfl HN.out ?_)
 refine bodyPost_ret (resNd (p := 4) (v := nd0 13) rfl _ (g := w.heap.size) rfl (HN.out.rowSame _)) rfl ?_
 refine ⟨by rw [HE.out], ?_, ?_⟩
 ·rw [HG.out]
  exact HR.out.row (by omega) (by omega) _
 ·exact ButR.of (below_row ((Below.refl _ w).alloc (Nat.le_refl _) _) (Nat.le_refl _) _)
set_option maxRecDepth 100000 in
set_option maxHeartbeats 8000000 in
theorem around_10 {w0 w : World} {g c : Nat} {f : ByteArray} {l : List Tok} (h : RSt w0 g w f c l)  : Calls Tryz.prog 159 #[.pointer (some ⟨g, 0, none⟩), .int .i64 10] w fun e w' => e = .returned (ndV (aroundN 10 c)) ∧ RSt w0 g w' f (aroundG 10 c) l ∧ ButR g w.heap.size w w' := by
 have hn : BoxV 76 (w.alloc (.cells (ndC (nd0 0)) 76)) w.heap.size (ndC (nd0 0)) := BoxV.new _ _
 have HN := Lib.hid hn
 have hlt := h.lt
 have hw0 := h.below.size
 have HR := Lib.hid (h.call ((Below.refl _ w).alloc (Nat.le_refl _) (.cells (ndC (nd0 0)) 76)))
 have HE := Lib.hid (show aroundN 10 c = nd0 14 from if_pos (by decide))
 have HG := Lib.hid (show aroundG 10 c = c from if_pos (by decide))
 clear h hn
 go_enter Tryz.func159, Tryz.ntmps159
 go_wp2_with (refine storeNd rfl _ _ rfl w.heap.size (nd0 0) (nd0 14) rfl _ rfl rfl HN.out ?_)
 refine bodyPost_ret (resNd (p := 4) (v := nd0 14) rfl _ (g := w.heap.size) rfl (HN.out.rowSame _)) rfl ?_
 refine ⟨by rw [HE.out], ?_, ?_⟩
 ·rw [HG.out]
  exact HR.out.row (by omega) (by omega) _
 ·exact ButR.of (below_row ((Below.refl _ w).alloc (Nat.le_refl _) _) (Nat.le_refl _) _)
set_option maxRecDepth 100000 in
set_option maxHeartbeats 8000000 in
theorem around_11 {w0 w : World} {g c : Nat} {f : ByteArray} {l : List Tok} (h : RSt w0 g w f c l)  : Calls Tryz.prog 159 #[.pointer (some ⟨g, 0, none⟩), .int .i64 11] w fun e w' => e = .returned (ndV (aroundN 11 c)) ∧ RSt w0 g w' f (aroundG 11 c) l ∧ ButR g w.heap.size w w' := by
 have hn : BoxV 76 (w.alloc (.cells (ndC (nd0 0)) 76)) w.heap.size (ndC (nd0 0)) := BoxV.new _ _
 have HN := Lib.hid hn
 have hlt := h.lt
 have hw0 := h.below.size
 have HR := Lib.hid (h.call ((Below.refl _ w).alloc (Nat.le_refl _) (.cells (ndC (nd0 0)) 76)))
 have HE := Lib.hid (show aroundN 11 c = nd0 15 from if_pos (by decide))
 have HG := Lib.hid (show aroundG 11 c = c from if_pos (by decide))
 clear h hn
 go_enter Tryz.func159, Tryz.ntmps159
 go_wp2_with (refine storeNd rfl _ _ rfl w.heap.size (nd0 0) (nd0 15) rfl _ rfl rfl HN.out ?_)
 refine bodyPost_ret (resNd (p := 4) (v := nd0 15) rfl _ (g := w.heap.size) rfl (HN.out.rowSame _)) rfl ?_
 refine ⟨by rw [HE.out], ?_, ?_⟩
 ·rw [HG.out]
  exact HR.out.row (by omega) (by omega) _
 ·exact ButR.of (below_row ((Below.refl _ w).alloc (Nat.le_refl _) _) (Nat.le_refl _) _)
set_option maxRecDepth 100000 in
set_option maxHeartbeats 8000000 in
theorem around_12 {w0 w : World} {g c : Nat} {f : ByteArray} {l : List Tok} (h : RSt w0 g w f c l)  : Calls Tryz.prog 159 #[.pointer (some ⟨g, 0, none⟩), .int .i64 12] w fun e w' => e = .returned (ndV (aroundN 12 c)) ∧ RSt w0 g w' f (aroundG 12 c) l ∧ ButR g w.heap.size w w' := by
 have hn : BoxV 76 (w.alloc (.cells (ndC (nd0 0)) 76)) w.heap.size (ndC (nd0 0)) := BoxV.new _ _
 have HN := Lib.hid hn
 have hlt := h.lt
 have hw0 := h.below.size
 have HR := Lib.hid (h.call ((Below.refl _ w).alloc (Nat.le_refl _) (.cells (ndC (nd0 0)) 76)))
 have HE := Lib.hid (show aroundN 12 c = nd0 16 from if_pos (by decide))
 have HG := Lib.hid (show aroundG 12 c = c from if_pos (by decide))
 clear h hn
 go_enter Tryz.func159, Tryz.ntmps159
 go_wp2_with (refine storeNd rfl _ _ rfl w.heap.size (nd0 0) (nd0 16) rfl _ rfl rfl HN.out ?_)
 refine bodyPost_ret (resNd (p := 4) (v := nd0 16) rfl _ (g := w.heap.size) rfl (HN.out.rowSame _)) rfl ?_
 refine ⟨by rw [HE.out], ?_, ?_⟩
 ·rw [HG.out]
  exact HR.out.row (by omega) (by omega) _
 ·exact ButR.of (below_row ((Below.refl _ w).alloc (Nat.le_refl _) _) (Nat.le_refl _) _)
set_option maxRecDepth 100000 in
set_option maxHeartbeats 8000000 in
theorem around_13 {w0 w : World} {g c : Nat} {f : ByteArray} {l : List Tok} (h : RSt w0 g w f c l)  : Calls Tryz.prog 159 #[.pointer (some ⟨g, 0, none⟩), .int .i64 13] w fun e w' => e = .returned (ndV (aroundN 13 c)) ∧ RSt w0 g w' f (aroundG 13 c) l ∧ ButR g w.heap.size w w' := by
 have hn : BoxV 76 (w.alloc (.cells (ndC (nd0 0)) 76)) w.heap.size (ndC (nd0 0)) := BoxV.new _ _
 have HN := Lib.hid hn
 have hlt := h.lt
 have hw0 := h.below.size
 have HR := Lib.hid (h.call ((Below.refl _ w).alloc (Nat.le_refl _) (.cells (ndC (nd0 0)) 76)))
 have HE := Lib.hid (show aroundN 13 c = nd0 17 from if_pos (by decide))
 have HG := Lib.hid (show aroundG 13 c = c from if_pos (by decide))
 clear h hn
 go_enter Tryz.func159, Tryz.ntmps159
 go_wp2_with (refine storeNd rfl _ _ rfl w.heap.size (nd0 0) (nd0 17) rfl _ rfl rfl HN.out ?_)
 refine bodyPost_ret (resNd (p := 4) (v := nd0 17) rfl _ (g := w.heap.size) rfl (HN.out.rowSame _)) rfl ?_
 refine ⟨by rw [HE.out], ?_, ?_⟩
 ·rw [HG.out]
  exact HR.out.row (by omega) (by omega) _
 ·exact ButR.of (below_row ((Below.refl _ w).alloc (Nat.le_refl _) _) (Nat.le_refl _) _)
set_option maxRecDepth 100000 in
set_option maxHeartbeats 8000000 in
theorem around_0 {w0 w : World} {g c : Nat} {f : ByteArray} {l : List Tok} (h : RSt w0 g w f c l) (hc : c ≤ 5000) (k : Int) (hk : ¬ (9 ≤ k ∧ k ≤ 13)) : Calls Tryz.prog 159 #[.pointer (some ⟨g, 0, none⟩), .int .i64 k] w fun e w' => e = .returned (ndV (aroundN k c)) ∧ RSt w0 g w' f (aroundG k c) l ∧ ButR g w.heap.size w w' := by
 have hn : BoxV 76 (w.alloc (.cells (ndC (nd0 0)) 76)) w.heap.size (ndC (nd0 0)) := BoxV.new _ _
 have HN := Lib.hid hn
 have hlt := h.lt
 have hw0 := h.below.size
 have HR := Lib.hid (h.call ((Below.refl _ w).alloc (Nat.le_refl _) (.cells (ndC (nd0 0)) 76)))
 have HE := Lib.hid (show aroundN k c = { nd0 11 with n := (c : Int) + 1 } from if_neg hk)
 have HG := Lib.hid (show aroundG k c = c + 1 from if_neg hk)
 have q9 : (k == 9) = false := by simp; omega
 have q10 : (k == 10) = false := by simp; omega
 have q11 : (k == 11) = false := by simp; omega
 have q12 : (k == 12) = false := by simp; omega
 have q13 : (k == 13) = false := by simp; omega
 obtain ⟨A, cap, h1, h2, h3⟩ := HR.out.cells
 have hci : (c : Int) ≤ 5000 := by omega
 have hc2 : (w.alloc (.cells (ndC (nd0 0)) 76)).cell? ⟨g, 2, none⟩ = some (.int .i64 (c : Int)) := (cell_of_row _ g 2 _ _ _ h1).trans rfl
 have H1 := Lib.hid h1
 have H2 := Lib.hid h2
 have H3 := Lib.hid h3
 have HBel := Lib.hid h.below
 clear h hn hk h1 h2 h3
 simp only [ndC, nd0] at hc2
 go_enter Tryz.func159, Tryz.ntmps159
 go_wp2_with (refine storeRg rfl _ _ rfl g (c + 1) rfl rfl H1.out ?_; intro v hv hbv; refine stopP ?_)
 unfold StopP
 clear hc2
 have HNv := Lib.hid (HN.out.but hbv.out HN.out.lt (by omega))
 have HB := Lib.hid ((ButR.of (g := g) ((Below.refl w.heap.size w).alloc (Nat.le_refl _) (.cells (ndC (nd0 0)) 76))).trans (hbv.out.mono (by simp)))
 have hc3 : v.cell? ⟨g, 2, none⟩ = some (.int .i64 ((c : Int) + 1)) := (cell_of_row _ g 2 _ _ _ hv.out).trans rfl
 go_wp2_with (refine storeNd rfl _ _ rfl w.heap.size (nd0 0) { nd0 11 with n := (c : Int) + 1 } rfl _ rfl rfl HNv.out ?_)
 refine bodyPost_ret (resNd (p := 4) (v := { nd0 11 with n := (c : Int) + 1 }) rfl _ (g := w.heap.size) rfl (HNv.out.rowSame _)) rfl ?_
 have hB := HB.out.trans (ButR.of (below_row (Below.refl _ v) (Nat.le_refl _) (ndC { nd0 11 with n := (c : Int) + 1 })))
 refine ⟨by rw [HE.out], ?_, hB⟩
 rw [HG.out]
 exact ⟨HR.out.base, ⟨A, cap, (setRow_other v w.heap.size g _ (by omega)).trans hv.out, H2.out, H3.out⟩, HBel.out.trans (hB.below hw0 HR.out.base)⟩
theorem around_any {w0 w : World} {g c : Nat} {f : ByteArray} {l : List Tok} (h : RSt w0 g w f c l) (hc : c ≤ 5000) (k : Int) : Calls Tryz.prog 159 #[.pointer (some ⟨g, 0, none⟩), .int .i64 k] w fun e w' => e = .returned (ndV (aroundN k c)) ∧ RSt w0 g w' f (aroundG k c) l ∧ ButR g w.heap.size w w' := by
 by_cases hk : 9 ≤ k ∧ k ≤ 13
 ·have h5 : k = 9 ∨ k = 10 ∨ k = 11 ∨ k = 12 ∨ k = 13 := by omega
  rcases h5 with rfl | rfl | rfl | rfl | rfl
  ·exact around_9 h
  ·exact around_10 h
  ·exact around_11 h
  ·exact around_12 h
  ·exact around_13 h
 ·exact around_0 h hc k hk
end Go.Proofs.YteggpecbeagohaaGreatDoor
