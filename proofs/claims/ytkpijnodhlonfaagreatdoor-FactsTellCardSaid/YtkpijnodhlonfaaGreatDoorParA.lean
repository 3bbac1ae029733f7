/-
  ParMath, ParFuel
-/
import Derived.Test.YtkpijnodhlonfaaGreatDoorLexToks
import Derived.Test.YtkpijnodhlonfaaGreatDoorAstG
import Derived.Test.YtkpijnodhlonfaaGreatDoorAstH
namespace Go.Proofs.YtkpijnodhlonfaaGreatDoor
open Ast (Nd joinL wrapL deepZ rightZ)

/-- A tree: how many nodes, and which. -/
abbrev Tr := Nat × (Nat → Nd)
def nd0 (k : Int) : Nd := ⟨k, 0, 0, 0, 0, 0, 0, 0, 0, 0, 0, false⟩
def setN (S : BitVec 256) : Nd := ⟨1, 0, 0, W S 0, W S 1, W S 2, W S 3, 0, 0, 0, 0, false⟩
def leafT (x : Nd) : Tr := (1, fun _ => x)
def joinT (a b : Tr) (k : Int) : Tr := (a.1 + b.1 + 1, joinL a.2 a.1 b.2 b.1 k)
def wrapT (a : Tr) (x : Nd) : Tr := (a.1 + 1, wrapL a.2 a.1 x)
/-- Does a text have a letter? -/
def hasF (f : ByteArray) (c : Nat) : Bool := f.data.toList.any fun b => b.toNat == c
/-- The node of a piece of one token. -/
def leafN (f : ByteArray) (t : Tok) : Nd :=
  if t.k = 1 then setN (if hasF f 115 = true then ~~~0#256 else ~~~addB 0#256 10)
  else if t.k = 2 then nd0 (if hasF f 109 = true then 4 else 2)
  else if t.k = 3 then nd0 (if hasF f 109 = true then 5 else 3)
  else if t.k = 4 then nd0 6
  else if t.k = 5 then nd0 7
  else if t.k = 17 then { nd0 12 with n := t.n, f := hasF f 105 }
  else setN (if hasF f 105 = true then foldS t.S else t.S)
def opens (k : Int) : Bool := decide (7 ≤ k ∧ k ≤ 14)
def repN (t : Tok) : Nd := { nd0 10 with mn := t.mn, mx := t.mx, md := t.md }
/-- What stands around what an opening opens, and the groups so far. -/
def aroundN (k : Int) (g : Nat) : Nd := if 9 ≤ k ∧ k ≤ 13 then nd0 (k + 4) else { nd0 11 with n := (g : Int) + 1 }
def aroundG (k : Int) (g : Nat) : Nat := if 9 ≤ k ∧ k ≤ 13 then g else g + 1
/-- What is read: nothing (there is no end), too deep a tree, or a tree, the groups so far and the tokens that are left. -/
inductive Rd where
  | out
  | deep
  | got (t : Tr) (g : Nat) (l : List Tok)
def shal (t : Tr) (g : Nat) (l : List Tok) : Rd := if 40 < deepZ t.2 t.1 then .deep else .got t g l
def Rd.next (r : Rd) (f : Tr → Nat → List Tok → Rd) : Rd :=
  match r with
  | .out => .out
  | .deep => .deep
  | .got t g l => f t g l
/-- The kind of the next token; behind the last one that of a Close. -/
def kindZ : List Tok → Int
  | [] => 15
  | x :: _ => x.k
mutual
def altF : Nat → ByteArray → Nat → List Tok → Rd
  | 0, _, _, _ => .out
  | n + 1, f, g, l => (rowF n f g l).next fun t g l => altsF n f t g l
def altsF : Nat → ByteArray → Tr → Nat → List Tok → Rd
  | 0, _, _, _, _ => .out
  | n + 1, f, t, g, l =>
    if kindZ l = 6 then (rowF n f g l.tail).next fun u g l => (shal (joinT t u 9) g l).next fun t g l => altsF n f t g l
    else .got t g l
def rowF : Nat → ByteArray → Nat → List Tok → Rd
  | 0, _, _, _ => .out
  | n + 1, f, g, l => if kindZ l = 6 ∨ kindZ l = 15 then .got (leafT (nd0 0)) g l else (itemF n f g l).next fun t g l => itemsF n f t g l
def itemsF : Nat → ByteArray → Tr → Nat → List Tok → Rd
  | 0, _, _, _, _ => .out
  | n + 1, f, t, g, l =>
    if kindZ l = 6 ∨ kindZ l = 15 then .got t g l
    else (itemF n f g l).next fun u g l => (shal (joinT t u 8) g l).next fun t g l => itemsF n f t g l
def itemF : Nat → ByteArray → Nat → List Tok → Rd
  | 0, _, _, _ => .out
  | n + 1, f, g, l => (pieceF n f g l).next fun t g l =>
    match l with
    | [] => .got t g []
    | x :: r => if x.k = 16 then shal (wrapT t (repN x)) g r else .got t g (x :: r)
def pieceF : Nat → ByteArray → Nat → List Tok → Rd
  | 0, _, _, _ => .out
  | _ + 1, _, _, [] => .out
  | n + 1, f, g, t :: l =>
    if opens t.k = false then .got (leafT (leafN f t)) g l
    else if t.k = 8 ∨ t.k = 14 then withF n (f ++ t.f) g l
    else (withF n (f ++ t.f) (aroundG t.k g) l).next fun u g' l' => shal (wrapT u (aroundN t.k g)) g' l'
def withF : Nat → ByteArray → Nat → List Tok → Rd
  | 0, _, _, _ => .out
  | n + 1, f, g, l => (altF n f g l).next fun t g l =>
    match l with
    | [] => .out
    | _ :: r => .got t g r
end
/-- Have all openings their ends, and all Quants a piece ahead? -/
def scanF : List Tok → Nat → Bool → Bool
  | [], o, _ => o == 0
  | t :: l, o, b =>
    if (t.k = 16 ∧ b = false) ∨ (t.k = 15 ∧ o = 0) then false
    else if opens t.k = true then scanF l (o + 1) false
    else if t.k = 15 then scanF l (o - 1) true
    else scanF l o (decide (t.k ≠ 16 ∧ t.k ≠ 6))
/-- The tree of tokens, or what is wrong. -/
def treeZ (l : List Tok) : Tr × Int :=
  if scanF l 0 false = false then ((0, fun _ => nd0 0), 3)
  else match altF (6 * l.length + 6) ByteArray.empty 0 l with
    | .out => ((0, fun _ => nd0 0), 4)
    | .deep => ((0, fun _ => nd0 0), 4)
    | .got t _ _ => if rightZ t.2 t.1 = 0 then (t, 0) else ((0, fun _ => nd0 0), rightZ t.2 t.1)
/-- The tree of a pattern, or what is wrong. -/
def parseZ (p : ByteArray) : Tr × Int := if (lexZ p).2 ≠ 0 then ((0, fun _ => nd0 0), (lexZ p).2) else treeZ (lexZ p).1
theorem next_got {r : Rd} {f : Tr → Nat → List Tok → Rd} {t : Tr} {g : Nat} {l : List Tok} (h : r.next f = .got t g l) : ∃ t1 g1 l1, r = .got t1 g1 l1 ∧ f t1 g1 l1 = .got t g l := by
  cases r with
  | out => cases h
  | deep => cases h
  | got t1 g1 l1 => exact ⟨t1, g1, l1, rfl, h⟩
theorem shal_got {t u : Tr} {g c : Nat} {l k : List Tok} (h : shal t g l = .got u c k) : u = t ∧ c = g ∧ k = l := by
  unfold shal at h
  split at h
  · cases h
  · cases h
    exact ⟨rfl, rfl, rfl⟩
/-- What is read of l is a part of it; how many nodes that makes, at most, and how many groups. -/
structure Part (t : Tr) (g g' : Nat) (l l' : List Tok) (k : Nat) : Prop where
  one : 1 ≤ t.1
  len : t.1 + 2 * l'.length + k ≤ 2 * l.length + 1
  grp : g' + l'.length ≤ g + l.length
  suf : l' <:+ l
theorem Part.lenle {t : Tr} {g g' k : Nat} {l l' : List Tok} (h : Part t g g' l l' k) : l'.length ≤ l.length := h.suf.length_le
structure Parts (t0 t : Tr) (g g' : Nat) (l l' : List Tok) : Prop where
  one : 1 ≤ t.1
  len : t.1 + 2 * l'.length ≤ t0.1 + 2 * l.length
  grp : g' + l'.length ≤ g + l.length
  suf : l' <:+ l
theorem around_le (k : Int) (g : Nat) : aroundG k g ≤ g + 1 := by unfold aroundG; split <;> omega
theorem rd_part : ∀ n,
    (∀ f g l t g' l', altF n f g l = .got t g' l' → Part t g g' l l' 0) ∧
    (∀ f t0 g l t g' l', 1 ≤ t0.1 → altsF n f t0 g l = .got t g' l' → Parts t0 t g g' l l') ∧
    (∀ f g l t g' l', rowF n f g l = .got t g' l' → Part t g g' l l' 0) ∧
    (∀ f t0 g l t g' l', 1 ≤ t0.1 → itemsF n f t0 g l = .got t g' l' → Parts t0 t g g' l l') ∧
    (∀ f g l t g' l', itemF n f g l = .got t g' l' → Part t g g' l l' 2) ∧
    (∀ f g l t g' l', pieceF n f g l = .got t g' l' → Part t g g' l l' 2) ∧
    (∀ f g l t g' l', withF n f g l = .got t g' l' → Part t g g' l l' 2) := by
  intro n
  induction n with
  | zero => refine ⟨?_, ?_, ?_, ?_, ?_, ?_, ?_⟩ <;> (intros; rename_i h; first | (simp only [altF] at h; cases h) | (simp only [altsF] at h; cases h) | (simp only [rowF] at h; cases h) | (simp only [itemsF] at h; cases h) | (simp only [itemF] at h; cases h) | (simp only [pieceF] at h; cases h) | (simp only [withF] at h; cases h))
  | succ n ih =>
    obtain ⟨i1, i2, i3, i4, i5, i6, i7⟩ := ih
    refine ⟨?_, ?_, ?_, ?_, ?_, ?_, ?_⟩
    · intro f g l t g' l' h
      rw [altF] at h
      obtain ⟨t1, g1, l1, h1, h2⟩ := next_got h
      have a := i3 _ _ _ _ _ _ h1
      have b := i2 _ _ _ _ _ _ _ a.one h2
      exact ⟨b.one, by have := a.len; have := b.len; omega, by have := a.grp; have := b.grp; omega, b.suf.trans a.suf⟩
    · intro f t0 g l t g' l' h0 h
      rw [altsF] at h
      split at h
      · obtain ⟨t1, g1, l1, h1, h2⟩ := next_got h
        obtain ⟨t2, g2, l2, h3, h4⟩ := next_got h2
        obtain ⟨rfl, rfl, rfl⟩ := shal_got h3
        have a := i3 _ _ _ _ _ _ h1
        have b := i2 _ _ _ _ _ _ _ (by show 1 ≤ t0.1 + t1.1 + 1; omega) h4
        rename_i hk
        have hl : l.tail.length + 1 = l.length := by
          cases l with
          | nil => exact absurd hk (by decide)
          | cons x r => rfl
        exact ⟨b.one, by have := a.len; have := b.len; simp only [joinT] at this; omega, by have := a.grp; have := b.grp; omega, (b.suf.trans a.suf).trans (List.tail_suffix l)⟩
      · cases h
        exact ⟨h0, by omega, by omega, List.suffix_refl _⟩
    · intro f g l t g' l' h
      rw [rowF] at h
      split at h
      · cases h
        exact ⟨Nat.le_refl _, by simp only [leafT]; omega, by omega, List.suffix_refl _⟩
      · obtain ⟨t1, g1, l1, h1, h2⟩ := next_got h
        have a := i5 _ _ _ _ _ _ h1
        have b := i4 _ _ _ _ _ _ _ a.one h2
        exact ⟨b.one, by have := a.len; have := b.len; omega, by have := a.grp; have := b.grp; omega, b.suf.trans a.suf⟩
    · intro f t0 g l t g' l' h0 h
      rw [itemsF] at h
      split at h
      · cases h
        exact ⟨h0, by omega, by omega, List.suffix_refl _⟩
      · obtain ⟨t1, g1, l1, h1, h2⟩ := next_got h
        obtain ⟨t2, g2, l2, h3, h4⟩ := next_got h2
        obtain ⟨rfl, rfl, rfl⟩ := shal_got h3
        have a := i5 _ _ _ _ _ _ h1
        have b := i4 _ _ _ _ _ _ _ (by show 1 ≤ t0.1 + t1.1 + 1; omega) h4
        exact ⟨b.one, by have := a.len; have := b.len; simp only [joinT] at this; omega, by have := a.grp; have := b.grp; omega, b.suf.trans a.suf⟩
    · intro f g l t g' l' h
      rw [itemF] at h
      obtain ⟨t1, g1, l1, h1, h2⟩ := next_got h
      have a := i6 _ _ _ _ _ _ h1
      cases l1 with
      | nil =>
        cases h2
        exact a
      | cons x r =>
        simp only [] at h2
        split at h2
        · obtain ⟨rfl, rfl, rfl⟩ := shal_got h2
          have e1 := a.len
          have e2 := a.grp
          rw [List.length_cons] at e1 e2
          exact ⟨by show 1 ≤ t1.1 + 1; omega, by simp only [wrapT]; omega, by omega, (List.suffix_cons x l').trans a.suf⟩
        · cases h2
          exact a
    · intro f g l t g' l' h
      cases l with
      | nil => rw [pieceF] at h; cases h
      | cons x r =>
        rw [pieceF] at h
        split at h
        · cases h
          exact ⟨Nat.le_refl _, by simp only [leafT, List.length_cons]; omega, by rw [List.length_cons]; omega, List.suffix_cons x l'⟩
        · split at h
          · have a := i7 _ _ _ _ _ _ h
            have e1 := a.len
            have e2 := a.grp
            exact ⟨a.one, by rw [List.length_cons]; omega, by rw [List.length_cons]; omega, a.suf.trans (List.suffix_cons x r)⟩
          · obtain ⟨t1, g1, l1, h1, h2⟩ := next_got h
            obtain ⟨rfl, rfl, rfl⟩ := shal_got h2
            have a := i7 _ _ _ _ _ _ h1
            have e1 := a.len
            have e2 := a.grp
            have e3 := around_le x.k g
            exact ⟨by show 1 ≤ t1.1 + 1; omega, by simp only [wrapT, List.length_cons]; omega, by rw [List.length_cons]; omega, a.suf.trans (List.suffix_cons x r)⟩
    · intro f g l t g' l' h
      rw [withF] at h
      obtain ⟨t1, g1, l1, h1, h2⟩ := next_got h
      have a := i1 _ _ _ _ _ _ h1
      cases l1 with
      | nil => cases h2
      | cons x r =>
        cases h2
        have e1 := a.len
        have e2 := a.grp
        rw [List.length_cons] at e1 e2
        exact ⟨a.one, by omega, by omega, (List.suffix_cons x l').trans a.suf⟩
end Go.Proofs.YtkpijnodhlonfaaGreatDoor

namespace Go.Proofs.YtkpijnodhlonfaaGreatDoor

theorem scan_head {l : List Tok} {o : Nat} (h : scanF l o false = true) : kindZ l ≠ 16 := by
  cases l with
  | nil => decide
  | cons t l =>
    intro hk
    rw [scanF, if_pos (.inl ⟨hk, rfl⟩)] at h
    cases h
theorem scan_b {l : List Tok} {o : Nat} (h : kindZ l ≠ 16) (b : Bool) : scanF l o b = scanF l o false := by
  cases l with
  | nil => rfl
  | cons t l =>
    have h16 : ¬ t.k = 16 := h
    have e : (t.k = 16 ∧ b = false ∨ t.k = 15 ∧ o = 0) ↔ (t.k = 16 ∧ false = false ∨ t.k = 15 ∧ o = 0) := by
      constructor
      · rintro (h | h)
        · exact absurd h.1 h16
        · exact .inr h
      · rintro (h | h)
        · exact absurd h.1 h16
        · exact .inr h
    rw [scanF, scanF]
    by_cases hc : t.k = 16 ∧ b = false ∨ t.k = 15 ∧ o = 0
    · rw [if_pos hc, if_pos (e.1 hc)]
    · rw [if_neg hc, if_neg (fun h => hc (e.2 h))]
theorem scan_leaf {t : Tok} {l : List Tok} {o : Nat} (h : scanF (t :: l) o false = true) (h1 : opens t.k = false) (h2 : t.k ≠ 6) (h3 : t.k ≠ 15) : scanF l o true = true := by
  have h16 : t.k ≠ 16 := scan_head h
  rw [scanF] at h
  split at h
  · cases h
  · simpa [h1, h2, h3, h16] using h
theorem scan_open {t : Tok} {l : List Tok} {o : Nat} (h : scanF (t :: l) o false = true) (h1 : opens t.k = true) : scanF l (o + 1) false = true := by
  rw [scanF] at h
  split at h
  · cases h
  · simpa [h1] using h
theorem scan_close {t : Tok} {l : List Tok} {o : Nat} (h : scanF (t :: l) (o + 1) false = true) (hk : t.k = 15) : scanF l o true = true := by
  rw [scanF] at h
  split at h
  · cases h
  · simpa [hk, opens] using h
theorem scan_bar {t : Tok} {l : List Tok} {o : Nat} (h : scanF (t :: l) o false = true) (hk : t.k = 6) : scanF l o false = true := by
  rw [scanF] at h
  split at h
  · cases h
  · rw [if_neg (by rw [hk]; decide), if_neg (by rw [hk]; decide), decide_eq_false (by rw [hk]; decide)] at h
    exact h
theorem scan_quant {t : Tok} {l : List Tok} {o : Nat} (h : scanF (t :: l) o true = true) (hk : t.k = 16) : scanF l o false = true := by
  rw [scanF] at h
  split at h
  · cases h
  · rw [if_neg (by rw [hk]; decide), if_neg (by rw [hk]; decide), decide_eq_false (by rw [hk]; decide)] at h
    exact h
theorem next_out {r : Rd} {f : Tr → Nat → List Tok → Rd} (h : r.next f = .out) : r = .out ∨ ∃ t g l, r = .got t g l ∧ f t g l = .out := by
  cases r with
  | out => exact .inl rfl
  | deep => cases h
  | got t g l => exact .inr ⟨t, g, l, rfl, h⟩
theorem shal_out {t : Tr} {g : Nat} {l : List Tok} : shal t g l ≠ .out := by
  unfold shal
  split <;> (intro h; cases h)
/-- What is wanted of what is read: it comes to an end, and what is left is in order. -/
def Good (r : Rd) (_o : Nat) (p : List Tok → Prop) : Prop := r ≠ .out ∧ ∀ t g l, r = .got t g l → p l
theorem Good.next {r : Rd} {f : Tr → Nat → List Tok → Rd} {p q : List Tok → Prop} {o : Nat} (h : Good r o p) (hf : ∀ t g l, r = .got t g l → p l → Good (f t g l) o q) : Good (r.next f) o q := by
  cases r with
  | out => exact absurd rfl h.1
  | deep => exact ⟨(by intro h; cases h), fun t g l h => by cases h⟩
  | got t g l => exact hf t g l rfl (h.2 t g l rfl)
theorem Good.shal {t : Tr} {g : Nat} {l : List Tok} {p : List Tok → Prop} {o : Nat} (h : p l) : Good (Go.Proofs.YtkpijnodhlonfaaGreatDoor.shal t g l) o p :=
  ⟨shal_out, fun t' g' l' he => by obtain ⟨rfl, rfl, rfl⟩ := shal_got he; exact h⟩
theorem rd_good : ∀ n,
    (∀ f g l o, scanF l o false = true → 6 * l.length + 5 ≤ n → Good (altF n f g l) o fun l' => scanF l' o false = true ∧ kindZ l' = 15) ∧
    (∀ f t g l o, 1 ≤ t.1 → scanF l o false = true → (kindZ l = 6 ∨ kindZ l = 15) → 6 * l.length + 4 ≤ n → Good (altsF n f t g l) o fun l' => scanF l' o false = true ∧ kindZ l' = 15) ∧
    (∀ f g l o, scanF l o false = true → 6 * l.length + 4 ≤ n → Good (rowF n f g l) o fun l' => scanF l' o false = true ∧ (kindZ l' = 6 ∨ kindZ l' = 15)) ∧
    (∀ f t g l o, 1 ≤ t.1 → scanF l o false = true → 6 * l.length + 3 ≤ n → Good (itemsF n f t g l) o fun l' => scanF l' o false = true ∧ (kindZ l' = 6 ∨ kindZ l' = 15)) ∧
    (∀ f g l o, scanF l o false = true → ¬ (kindZ l = 6 ∨ kindZ l = 15) → 6 * l.length + 2 ≤ n → Good (itemF n f g l) o fun l' => scanF l' o false = true) ∧
    (∀ f g l o, scanF l o false = true → ¬ (kindZ l = 6 ∨ kindZ l = 15) → 6 * l.length + 1 ≤ n → Good (pieceF n f g l) o fun l' => scanF l' o true = true) ∧
    (∀ f g l o, scanF l (o + 1) false = true → 6 * l.length + 6 ≤ n → Good (withF n f g l) o fun l' => scanF l' o true = true) := by
  intro n
  induction n with
  | zero => exact ⟨fun _ _ _ _ _ h => by omega, fun _ _ _ _ _ _ _ _ h => by omega, fun _ _ _ _ _ h => by omega, fun _ _ _ _ _ _ _ h => by omega, fun _ _ _ _ _ _ h => by omega, fun _ _ _ _ _ _ h => by omega, fun _ _ _ _ _ h => by omega⟩
  | succ n ih =>
    obtain ⟨i1, i2, i3, i4, i5, i6, i7⟩ := ih
    have P := rd_part n
    refine ⟨?_, ?_, ?_, ?_, ?_, ?_, ?_⟩
    · intro f g l o h hn
      rw [altF]
      exact (i3 f g l o h (by omega)).next fun t g1 l1 he hp => by
        have hl := (P.2.2.1 _ _ _ _ _ _ he)
        exact i2 f t g1 l1 o hl.one hp.1 hp.2 (by have := hl.lenle; omega)
    · intro f t g l o h0 h hk hn
      rw [altsF]
      split
      · rename_i h6
        cases l with
        | nil => exact absurd h6 (by decide)
        | cons x r =>
          have hs := scan_bar h h6
          rw [List.length_cons] at hn
          exact (i3 f g r o hs (by omega)).next fun t1 g1 l1 he hp => by
            have hl := (P.2.2.1 _ _ _ _ _ _ he)
            exact (Good.shal (o := o) (p := fun l' => scanF l' o false = true ∧ (kindZ l' = 6 ∨ kindZ l' = 15)) hp).next fun t2 g2 l2 he2 hp2 => by
              obtain ⟨rfl, rfl, rfl⟩ := shal_got he2
              exact i2 f _ g2 l2 o (by show 1 ≤ t.1 + t1.1 + 1; omega) hp2.1 hp2.2 (by have := hl.lenle; omega)
      · rename_i h6
        exact ⟨by intro h; (cases h), fun t' g' l' he => by cases he; exact ⟨h, hk.resolve_left h6⟩⟩
    · intro f g l o h hn
      rw [rowF]
      split
      · rename_i hk
        exact ⟨by intro h; (cases h), fun t' g' l' he => by cases he; exact ⟨h, hk⟩⟩
      · rename_i hk
        exact (i5 f g l o h hk (by omega)).next fun t g1 l1 he hp => by
          have hl := (P.2.2.2.2.1 _ _ _ _ _ _ he)
          exact i4 f t g1 l1 o hl.one hp (by have := hl.lenle; omega)
    · intro f t g l o h0 h hn
      rw [itemsF]
      split
      · rename_i hk
        exact ⟨by intro h; (cases h), fun t' g' l' he => by cases he; exact ⟨h, hk⟩⟩
      · rename_i hk
        exact (i5 f g l o h hk (by omega)).next fun t1 g1 l1 he hp => by
          have hl := (P.2.2.2.2.1 _ _ _ _ _ _ he)
          exact (Good.shal (o := o) (p := fun l' => scanF l' o false = true) hp).next fun t2 g2 l2 he2 hp2 => by
            obtain ⟨rfl, rfl, rfl⟩ := shal_got he2
            exact i4 f _ g2 l2 o (by show 1 ≤ t.1 + t1.1 + 1; omega) hp2 (by have := hl.len; have := hl.one; omega)
    · intro f g l o h hk hn
      rw [itemF]
      exact (i6 f g l o h hk (by omega)).next fun t g1 l1 he hp => by
        cases l1 with
        | nil => exact ⟨by intro h; (cases h), fun t' g' l' he => by cases he; exact hp⟩
        | cons x r =>
          simp only []
          split
          · rename_i h16
            exact Good.shal (scan_quant hp h16)
          · rename_i h16
            exact ⟨by intro h; (cases h), fun t' g' l' he => by cases he; rw [← scan_b (show kindZ (x :: r) ≠ 16 from h16) true]; exact hp⟩
    · intro f g l o h hk hn
      cases l with
      | nil => exact absurd (.inr rfl) hk
      | cons x r =>
        rw [List.length_cons] at hn
        rw [pieceF]
        split
        · rename_i hop
          exact ⟨by intro h; (cases h), fun t' g' l' he => by cases he; exact scan_leaf h hop (fun h6 => hk (.inl h6)) (fun h15 => hk (.inr h15))⟩
        · rename_i hop
          have hop' : opens x.k = true := by simpa using hop
          have hs := scan_open h hop'
          split
          · exact i7 _ _ r o hs (by omega)
          · exact (i7 _ _ r o hs (by omega)).next fun t1 g1 l1 _ hp => Good.shal hp
    · intro f g l o h hn
      rw [withF]
      exact (i1 f g l (o + 1) h (by omega) : Good _ (o + 1) _) |> fun hg => by
        have hg' : Good (altF n f g l) o fun l' => scanF l' (o + 1) false = true ∧ kindZ l' = 15 := hg
        exact hg'.next fun t g1 l1 _ hp => by
          cases l1 with
          | nil => exact absurd hp.1 (by simp [scanF])
          | cons x r => exact ⟨by intro h; (cases h), fun t' g' l' he => by cases he; exact scan_close hp.1 hp.2⟩
theorem alt_in {l : List Tok} (h : scanF l 0 false = true) (f : ByteArray) (g : Nat) : altF (6 * l.length + 6) f g l ≠ .out := ((rd_good _).1 f g l 0 h (by omega)).1
end Go.Proofs.YtkpijnodhlonfaaGreatDoor
