import Derived.Test.YtdnbpbngoiahlaaGreatDoorParE
import Derived.Test.YtdnbpbngoiahlaaGreatDoorAstG
import Derived.Test.YtdnbpbngoiahlaaGreatDoorParTakes
import Derived.Test.YtdnbpbngoiahlaaGreatDoorAstI
namespace Go.Proofs.YtdnbpbngoiahlaaGreatDoor
open Ast (Nd joinL wrapL deepZ rightZ siz dep fitsB kidsZ)
structure US where
 g : Nat
 l : List Tok
 bad : Bool
def kindU (s : US) : Int := if s.bad = true then -1 else match s.l with | [] => -1 | x :: _ => x.k
abbrev RU := Option (Tr × US)
def leaf0 : Tr := leafT (nd0 0)
mutual
def altU : Nat → ByteArray → US → RU
 | 0, _, _ => none
 | n + 1, f, s => (rowU n f s).bind fun r => altsU n f r.1 r.2
def altsU : Nat → ByteArray → Tr → US → RU
 | 0, _, _, _ => none
 | n + 1, f, t, s =>
   if kindU s = 6 then (rowU n f ⟨s.g, s.l.tail, s.bad⟩).bind fun r => altsU n f (joinT t r.1 9) r.2
   else some (t, s)
def rowU : Nat → ByteArray → US → RU
 | 0, _, _ => none
 | n + 1, f, s => if kindU s < 0 ∨ kindU s = 6 ∨ kindU s = 15 then some (leaf0, s) else (itemU n f s).bind fun r => itemsU n f r.1 r.2
def itemsU : Nat → ByteArray → Tr → US → RU
 | 0, _, _, _ => none
 | n + 1, f, t, s => if kindU s < 0 ∨ kindU s = 6 ∨ kindU s = 15 then some (t, s) else (itemU n f s).bind fun r => itemsU n f (joinT t r.1 8) r.2
def itemU : Nat → ByteArray → US → RU
 | 0, _, _ => none
 | n + 1, f, s => (pieceU n f s).bind fun r =>
   if kindU r.2 = 16 then some (wrapT r.1 (repN (r.2.l.headD (tok0 0))), ⟨r.2.g, r.2.l.tail, r.2.bad⟩) else some r
def pieceU : Nat → ByteArray → US → RU
 | 0, _, _ => none
 | _ + 1, _, ⟨_, [], _⟩ => none
 | n + 1, f, ⟨g, t :: l, b⟩ =>
   if t.k = 16 then some (leaf0, ⟨g, l, true⟩)
   else if t.k ≤ 5 ∨ t.k = 17 then some (leafT (leafN f t), ⟨g, l, b⟩)
   else withinU n f t ⟨g, l, b⟩
def withinU : Nat → ByteArray → Tok → US → RU
 | 0, _, _, _ => none
 | n + 1, f, t, s => (altU n (f ++ t.f) ⟨if t.k = 7 then s.g + 1 else s.g, s.l, s.bad⟩).bind fun r =>
   if kindU r.2 ≠ 15 then some (leaf0, ⟨r.2.g, r.2.l, true⟩)
   else if t.k = 7 then some (wrapT r.1 (grpN ((s.g : Int) + 1)), ⟨r.2.g, r.2.l.tail, r.2.bad⟩)
   else if 9 ≤ t.k ∧ t.k ≤ 13 then some (wrapT r.1 (nd0 (t.k + 4)), ⟨r.2.g, r.2.l.tail, r.2.bad⟩)
   else some (r.1, ⟨r.2.g, r.2.l.tail, r.2.bad⟩)
end
def Whole (t : Tr) : Prop := 0 < t.1 ∧ siz t.2 t.1 = t.1
theorem whole_leaf {x : Nd} (hf : fitsB x = true) (hk : kidsZ x.k = 0) (ha : x.a = 0) (hb : x.b = 0) : Whole (leafT x) := by
 refine ⟨Nat.one_pos, ?_⟩
 show siz (fun _ => x) 1 = 1
 rw [Ast.siz_succ, if_pos hf, if_pos hk, if_pos ⟨ha, hb⟩]
theorem Whole.join {t u : Tr} (h : Whole t) (h' : Whole u) {k : Int} (hk : k = 8 ∨ k = 9) (hn : t.1 ≤ 1000) (hm : u.1 ≤ 1000) : Whole (joinT t u k) ∧ dep (joinT t u k).2 (joinT t u k).1 = 1 + max (dep t.2 t.1) (dep u.2 u.1) :=
 ⟨⟨by show 0 < t.1 + u.1 + 1; omega, (Ast.join_in hk hn hm h.1 h'.1 h.2 h'.2).2.2⟩, Ast.join_dep hk hn hm h.1 h'.1 h.2 h'.2⟩
theorem Whole.wrap {t : Tr} (h : Whole t) {x : Nd} (hk : kidsZ x.k = 1) (hf : fitsB x = true) : Whole (wrapT t x) ∧ dep (wrapT t x).2 (wrapT t x).1 = 1 + dep t.2 t.1 :=
 ⟨⟨by show 0 < t.1 + 1; omega, (Ast.wrap_in hk hf h.1 h.2).2⟩, Ast.wrap_dep hk h.1 h.2⟩
structure TokG (t : Tok) : Prop where
 k : 0 ≤ t.k ∧ t.k ≤ 17
 q : t.k = 16 → fitsB (repN t) = true
def Toks7 (l : List Tok) : Prop := ∀ t ∈ l, TokG t
theorem Toks7.suf {l l' : List Tok} (h : Toks7 l) (hs : l' <:+ l) : Toks7 l' := fun t ht => h t (hs.subset ht)
theorem whole_leafN (f : ByteArray) (t : Tok) : Whole (leafT (leafN f t)) := by
 unfold leafN
 by_cases h1 : t.k = 1
 ·rw [if_pos h1]; exact whole_leaf (by simp [fitsB, setN]) rfl rfl rfl
 rw [if_neg h1]
 by_cases h2 : t.k = 2
 ·rw [if_pos h2]; split <;> exact whole_leaf (by decide) (by decide) rfl rfl
 rw [if_neg h2]
 by_cases h3 : t.k = 3
 ·rw [if_pos h3]; split <;> exact whole_leaf (by decide) (by decide) rfl rfl
 rw [if_neg h3]
 by_cases h4 : t.k = 4
 ·rw [if_pos h4]; exact whole_leaf (by decide) (by decide) rfl rfl
 rw [if_neg h4]
 by_cases h5 : t.k = 5
 ·rw [if_pos h5]; exact whole_leaf (by decide) (by decide) rfl rfl
 rw [if_neg h5]
 by_cases h17 : t.k = 17
 ·rw [if_pos h17]; exact whole_leaf (by simp [fitsB, nd0]) rfl rfl rfl
 rw [if_neg h17]; exact whole_leaf (by simp [fitsB, setN]) rfl rfl rfl
theorem whole_0 : Whole leaf0 := whole_leaf (by decide) (by decide) rfl rfl
structure PU (t : Tr) (s s' : US) (k : Nat) : Prop where
 whole : s'.bad = false → Whole t
 one : 1 ≤ t.1
 len : t.1 + 2 * s'.l.length + k ≤ 2 * s.l.length + 1
 grp : s'.g + s'.l.length ≤ s.g + s.l.length
 suf : s'.l <:+ s.l
 bad : s.bad = true → s'.bad = true
structure PUs (t0 t : Tr) (s s' : US) : Prop where
 whole : s'.bad = false → Whole t0 → Whole t
 one : 1 ≤ t.1
 len : t.1 + 2 * s'.l.length ≤ t0.1 + 2 * s.l.length
 grp : s'.g + s'.l.length ≤ s.g + s.l.length
 suf : s'.l <:+ s.l
 bad : s.bad = true → s'.bad = true
 dep : s'.bad = false → Whole t0 → dep t0.2 t0.1 ≤ dep t.2 t.1
theorem bind_some {r : RU} {f : Tr × US → RU} {x : Tr × US} (h : r.bind f = some x) : ∃ y, r = some y ∧ f y = some x := by
 cases r with
 | none => cases h
 | some y => exact ⟨y, rfl, h⟩
theorem altU_s (n : Nat) (f : ByteArray) (s : US) : altU (n + 1) f s = (rowU n f s).bind fun r => altsU n f r.1 r.2 := by rw [altU]
theorem altsU_s (n : Nat) (f : ByteArray) (t : Tr) (s : US) : altsU (n + 1) f t s = if kindU s = 6 then (rowU n f ⟨s.g, s.l.tail, s.bad⟩).bind fun r => altsU n f (joinT t r.1 9) r.2 else some (t, s) := by rw [altsU]
theorem rowU_s (n : Nat) (f : ByteArray) (s : US) : rowU (n + 1) f s = if kindU s < 0 ∨ kindU s = 6 ∨ kindU s = 15 then some (leaf0, s) else (itemU n f s).bind fun r => itemsU n f r.1 r.2 := by rw [rowU]
theorem itemsU_s (n : Nat) (f : ByteArray) (t : Tr) (s : US) : itemsU (n + 1) f t s = if kindU s < 0 ∨ kindU s = 6 ∨ kindU s = 15 then some (t, s) else (itemU n f s).bind fun r => itemsU n f (joinT t r.1 8) r.2 := by rw [itemsU]
theorem itemU_s (n : Nat) (f : ByteArray) (s : US) : itemU (n + 1) f s = (pieceU n f s).bind fun r => if kindU r.2 = 16 then some (wrapT r.1 (repN (r.2.l.headD (tok0 0))), ⟨r.2.g, r.2.l.tail, r.2.bad⟩) else some r := by rw [itemU]
theorem pieceU_s (n : Nat) (f : ByteArray) (g : Nat) (t : Tok) (l : List Tok) (b : Bool) : pieceU (n + 1) f ⟨g, t :: l, b⟩ = if t.k = 16 then some (leaf0, ⟨g, l, true⟩) else if t.k ≤ 5 ∨ t.k = 17 then some (leafT (leafN f t), ⟨g, l, b⟩) else withinU n f t ⟨g, l, b⟩ := by rw [pieceU]
theorem pieceU_0 (n : Nat) (f : ByteArray) (g : Nat) (b : Bool) : pieceU n f ⟨g, [], b⟩ = none := by cases n <;> rw [pieceU]
theorem withinU_s (n : Nat) (f : ByteArray) (t : Tok) (s : US) : withinU (n + 1) f t s = (altU n (f ++ t.f) ⟨if t.k = 7 then s.g + 1 else s.g, s.l, s.bad⟩).bind fun r => if kindU r.2 ≠ 15 then some (leaf0, ⟨r.2.g, r.2.l, true⟩) else if t.k = 7 then some (wrapT r.1 (grpN ((s.g : Int) + 1)), ⟨r.2.g, r.2.l.tail, r.2.bad⟩) else if 9 ≤ t.k ∧ t.k ≤ 13 then some (wrapT r.1 (nd0 (t.k + 4)), ⟨r.2.g, r.2.l.tail, r.2.bad⟩) else some (r.1, ⟨r.2.g, r.2.l.tail, r.2.bad⟩) := by rw [withinU]
theorem kindU_pos {s : US} (h : ¬ kindU s < 0) : s.bad = false ∧ ∃ x r, s.l = x :: r ∧ kindU s = x.k := by
 unfold kindU at h ⊢
 by_cases hb : s.bad = true
 ·rw [if_pos hb] at h
  exact absurd (by decide) h
 ·rw [if_neg hb] at h ⊢
  refine ⟨by simpa using hb, ?_⟩
  cases hl : s.l with
  | nil => rw [hl] at h; exact absurd (by decide) h
  | cons x r => exact ⟨x, r, rfl, rfl⟩
theorem kindU_eq {s : US} {k : Int} (h : kindU s = k) (hk : 0 ≤ k) : s.bad = false ∧ ∃ x r, s.l = x :: r ∧ x.k = k := by
 obtain ⟨hb, x, r, hl, hx⟩ := kindU_pos (s := s) (by omega)
 exact ⟨hb, x, r, hl, by rw [← hx, h]⟩
theorem fits_grp (n : Int) : fitsB (grpN n) = true := by simp [fitsB, nd0]
theorem fits_nd {k : Int} (h0 : 0 ≤ k) (h1 : k ≤ 17) (h2 : k ≠ 10) : fitsB (nd0 k) = true := by simp [fitsB, nd0, h0, h1, h2]
theorem kids_nd {k : Int} (h0 : 13 ≤ k) (h1 : k ≤ 17) : kidsZ (nd0 k).k = 1 := by
 show kidsZ k = 1
 unfold kidsZ
 rw [if_neg (by omega), if_pos (by omega)]
theorem tail_lt {x : Tok} {l r : List Tok} (h : l = x :: r) : l.tail = r ∧ l.length = r.length + 1 := by subst h; exact ⟨rfl, rfl⟩
theorem pu_all : ∀ n,
  (∀ f s t s', altU n f s = some (t, s') → Toks7 s.l → s.l.length ≤ 400 → PU t s s' 0) ∧
  (∀ f t0 s t s', altsU n f t0 s = some (t, s') → Toks7 s.l → t0.1 + 2 * s.l.length ≤ 801 → 1 ≤ t0.1 → PUs t0 t s s') ∧
  (∀ f s t s', rowU n f s = some (t, s') → Toks7 s.l → s.l.length ≤ 400 → PU t s s' 0) ∧
  (∀ f t0 s t s', itemsU n f t0 s = some (t, s') → Toks7 s.l → t0.1 + 2 * s.l.length ≤ 801 → 1 ≤ t0.1 → PUs t0 t s s') ∧
  (∀ f s t s', itemU n f s = some (t, s') → Toks7 s.l → s.l.length ≤ 400 → ¬ (kindU s < 0 ∨ kindU s = 6 ∨ kindU s = 15) → PU t s s' 2) ∧
  (∀ f s t s', pieceU n f s = some (t, s') → Toks7 s.l → s.l.length ≤ 400 → PU t s s' 2) ∧
  (∀ f x s t s', withinU n f x s = some (t, s') → TokG x → Toks7 s.l → s.l.length ≤ 400 → PU t s s' 0 ∨ (x.k = 7 ∧ PU t ⟨s.g + 1, s.l, s.bad⟩ s' 0)) := by
 intro n
 induction n with
 | zero => exact ⟨fun f s t s' h => (by rw [altU] at h; cases h), fun f t0 s t s' h => (by rw [altsU] at h; cases h), fun f s t s' h => (by rw [rowU] at h; cases h), fun f t0 s t s' h => (by rw [itemsU] at h; cases h), fun f s t s' h => (by rw [itemU] at h; cases h), fun f s t s' h => (by rw [pieceU] at h; cases h), fun f x s t s' h => (by rw [withinU] at h; cases h)⟩
 | succ n ih =>
   obtain ⟨i1, i2, i3, i4, i5, i6, i7⟩ := ih
   refine ⟨?_, ?_, ?_, ?_, ?_, ?_, ?_⟩
   ·intro f s t s' h hT hL
    rw [altU_s] at h
    obtain ⟨⟨t1, s1⟩, h1, h2⟩ := bind_some h
    have a := i3 _ _ _ _ h1 hT hL
    have b := i2 _ _ _ _ _ h2 (hT.suf a.suf) (by have := a.len; simp only [] at this ⊢; omega) a.one
    exact ⟨fun hb => b.whole hb (a.whole (by cases hs : s1.bad with | false => rfl | true => rw [b.bad hs] at hb; cases hb)), b.one, by have := a.len; have := b.len; simp only [] at *; omega, by have := a.grp; have := b.grp; simp only [] at *; omega, b.suf.trans a.suf, fun hb => b.bad (a.bad hb)⟩
   ·intro f t0 s t s' h hT hL h0
    rw [altsU_s] at h
    by_cases hk : kindU s = 6
    ·rw [if_pos hk] at h
     obtain ⟨-, x, r, hl, -⟩ := kindU_eq hk (by decide)
     obtain ⟨e1, e2⟩ := tail_lt hl
     obtain ⟨⟨t1, s1⟩, h1, h2⟩ := bind_some h
     have hT' : Toks7 s.l.tail := hT.suf (List.tail_suffix _)
     have a := i3 _ _ _ _ h1 hT' (by show s.l.tail.length ≤ 400; rw [e1]; omega)
     have al := a.len
     have ag := a.grp
     have sf := a.suf
     simp only [e1] at al ag sf
     have a1 := a.one
     have b := i2 _ _ _ _ _ h2 (hT'.suf a.suf) (by show t0.1 + t1.1 + 1 + 2 * s1.l.length ≤ 801; omega) (by show 1 ≤ t0.1 + t1.1 + 1; omega)
     have bl := b.len
     have bg := b.grp
     simp only [] at bl bg
     have hbb : s'.bad = false → s1.bad = false := fun hb => by cases hs : s1.bad with | false => rfl | true => rw [b.bad hs] at hb; cases hb
     refine ⟨fun hb hw => b.whole hb ((hw.join (a.whole (hbb hb)) (.inr rfl) (by omega) (by omega)).1), b.one, ?_, by omega, ?_, fun hb => b.bad (a.bad hb), fun hb hw => ?_⟩
     ·have : (joinT t0 t1 9).1 = t0.1 + t1.1 + 1 := rfl
      omega
     ·exact b.suf.trans (sf.trans (by rw [hl]; exact List.suffix_cons x r))
     ·have hj := hw.join (a.whole (hbb hb)) (k := 9) (.inr rfl) (by omega) (by omega)
      have hd := b.dep hb hj.1
      rw [hj.2] at hd
      omega
    ·rw [if_neg hk] at h
     cases h
     exact ⟨fun _ hw => hw, h0, Nat.le_refl _, Nat.le_refl _, List.suffix_refl _, fun h => h, fun _ _ => Nat.le_refl _⟩
   ·intro f s t s' h hT hL
    rw [rowU_s] at h
    by_cases hk : kindU s < 0 ∨ kindU s = 6 ∨ kindU s = 15
    ·rw [if_pos hk] at h
     cases h
     exact ⟨fun _ => whole_0, by decide, by show 1 + _ + 0 ≤ _; omega, Nat.le_refl _, List.suffix_refl _, fun h => h⟩
    ·rw [if_neg hk] at h
     obtain ⟨⟨t1, s1⟩, h1, h2⟩ := bind_some h
     have a := i5 _ _ _ _ h1 hT hL hk
     have al := a.len
     have ag := a.grp
     have b := i4 _ _ _ _ _ h2 (hT.suf a.suf) (by simp only [] at al ⊢; omega) a.one
     have bl := b.len
     have bg := b.grp
     simp only [] at bl bg
     exact ⟨fun hb => b.whole hb (a.whole (by cases hs : s1.bad with | false => rfl | true => rw [b.bad hs] at hb; cases hb)), b.one, by simp only [] at *; omega, by simp only [] at *; omega, b.suf.trans a.suf, fun hb => b.bad (a.bad hb)⟩
   ·intro f t0 s t s' h hT hL h0
    rw [itemsU_s] at h
    by_cases hk : kindU s < 0 ∨ kindU s = 6 ∨ kindU s = 15
    ·rw [if_pos hk] at h
     cases h
     exact ⟨fun _ hw => hw, h0, Nat.le_refl _, Nat.le_refl _, List.suffix_refl _, fun h => h, fun _ _ => Nat.le_refl _⟩
    ·rw [if_neg hk] at h
     obtain ⟨⟨t1, s1⟩, h1, h2⟩ := bind_some h
     have a := i5 _ _ _ _ h1 hT (by omega) hk
     have al := a.len
     have ag := a.grp
     have a1 := a.one
     have b := i4 _ _ _ _ _ h2 (hT.suf a.suf) (by show t0.1 + t1.1 + 1 + 2 * s1.l.length ≤ 801; omega) (by show 1 ≤ t0.1 + t1.1 + 1; omega)
     have bl := b.len
     have bg := b.grp
     simp only [] at bl bg
     have hbb : s'.bad = false → s1.bad = false := fun hb => by cases hs : s1.bad with | false => rfl | true => rw [b.bad hs] at hb; cases hb
     refine ⟨fun hb hw => b.whole hb ((hw.join (a.whole (hbb hb)) (.inl rfl) (by omega) (by omega)).1), b.one, ?_, by omega, b.suf.trans a.suf, fun hb => b.bad (a.bad hb), fun hb hw => ?_⟩
     ·have : (joinT t0 t1 8).1 = t0.1 + t1.1 + 1 := rfl
      omega
     ·have hj := hw.join (a.whole (hbb hb)) (k := 8) (.inl rfl) (by omega) (by omega)
      have hd := b.dep hb hj.1
      rw [hj.2] at hd
      omega
   ·intro f s t s' h hT hL hk
    rw [itemU_s] at h
    obtain ⟨⟨t1, s1⟩, h1, h2⟩ := bind_some h
    have a := i6 _ _ _ _ h1 hT hL
    have al := a.len
    have ag := a.grp
    simp only [] at h2
    by_cases h16 : kindU s1 = 16
    ·rw [if_pos h16] at h2
     obtain ⟨-, x, r, hl, hx⟩ := kindU_eq h16 (by decide)
     obtain ⟨e1, e2⟩ := tail_lt hl
     cases h2
     simp only [hl, List.headD_cons, List.tail_cons]
     have hxm : x ∈ s.l := a.suf.subset (by rw [hl]; exact List.mem_cons_self ..)
     have hq := (hT x hxm).q hx
     refine ⟨fun hb => ((a.whole hb).wrap rfl hq).1, ?_, ?_, ?_, ?_, fun hb => a.bad hb⟩
     ·show 1 ≤ t1.1 + 1; omega
     ·show t1.1 + 1 + 2 * r.length + 2 ≤ _; omega
     ·show s1.g + r.length ≤ _; omega
     ·have sf := a.suf
      rw [hl] at sf
      exact (List.suffix_cons x r).trans sf
    ·rw [if_neg h16] at h2
     cases h2
     exact a
   ·intro f s t s' h hT hL
    obtain ⟨g, l, b⟩ := s
    cases l with
    | nil => rw [pieceU_0] at h; cases h
    | cons x r =>
      rw [pieceU_s] at h
      have hx := hT x (List.mem_cons_self ..)
      have hr : Toks7 r := fun t ht => hT t (List.mem_cons_of_mem _ ht)
      simp only [List.length_cons] at hL
      by_cases h16 : x.k = 16
      ·rw [if_pos h16] at h
       cases h
       exact ⟨fun hb => (by cases hb), by decide, by show 1 + 2 * r.length + 2 ≤ 2 * (r.length + 1) + 1; omega, by show g + r.length ≤ g + (r.length + 1); omega, List.suffix_cons x r, fun _ => rfl⟩
      ·rw [if_neg h16] at h
       by_cases h5 : x.k ≤ 5 ∨ x.k = 17
       ·rw [if_pos h5] at h
        cases h
        exact ⟨fun _ => whole_leafN f x, Nat.le_refl _, by show 1 + 2 * r.length + 2 ≤ 2 * (r.length + 1) + 1; omega, by show g + r.length ≤ g + (r.length + 1); omega, List.suffix_cons x r, fun h => h⟩
       ·rw [if_neg h5] at h
        rcases i7 _ _ _ _ _ h hx hr (by show r.length ≤ 400; omega) with a | ⟨-, a⟩
        ·have al := a.len
         have ag := a.grp
         simp only [] at al ag
         exact ⟨a.whole, a.one, by show _ ≤ 2 * (r.length + 1) + 1; omega, by show _ ≤ g + (r.length + 1); omega, a.suf.trans (List.suffix_cons x r), a.bad⟩
        ·have al := a.len
         have ag := a.grp
         simp only [] at al ag
         exact ⟨a.whole, a.one, by show _ ≤ 2 * (r.length + 1) + 1; omega, by show _ ≤ g + (r.length + 1); omega, a.suf.trans (List.suffix_cons x r), a.bad⟩
   ·intro f x s t s' h hx hT hL
    rw [withinU_s] at h
    obtain ⟨⟨t1, s1⟩, h1, h2⟩ := bind_some h
    have a := i1 _ _ _ _ h1 hT hL
    have a1 := a.one
    have al := a.len
    have sf := a.suf
    have ag := a.grp
    simp only [] at h2 al sf ag
    by_cases h15 : kindU s1 = 15
    ·rw [if_neg (by simp [h15])] at h2
     obtain ⟨hb1, y, r, hl, hy⟩ := kindU_eq h15 (by decide)
     obtain ⟨e1, e2⟩ := tail_lt hl
     have hsr : r <:+ s.l := by rw [hl] at sf; exact (List.suffix_cons y r).trans sf
     by_cases h7 : x.k = 7
     ·rw [if_pos h7] at h2
      rw [if_pos h7] at ag
      cases h2
      right
      simp only [e1]
      exact ⟨h7, fun hb => ((a.whole hb1).wrap rfl (fits_grp _)).1, by show 1 ≤ t1.1 + 1; omega, by show t1.1 + 1 + 2 * r.length + 0 ≤ _; simp only []; omega, by simp only []; omega, hsr, fun hb => a.bad hb⟩
     ·rw [if_neg h7] at h2 ag
      by_cases h9 : 9 ≤ x.k ∧ x.k ≤ 13
      ·rw [if_pos h9] at h2
       cases h2
       left
       simp only [e1]
       exact ⟨fun hb => ((a.whole hb1).wrap (kids_nd (by omega) (by omega)) (fits_nd (by omega) (by omega) (by omega))).1, by show 1 ≤ t1.1 + 1; omega, by show t1.1 + 1 + 2 * r.length + 0 ≤ _; omega, by show s1.g + r.length ≤ _; omega, hsr, fun hb => a.bad hb⟩
      ·rw [if_neg h9] at h2
       cases h2
       left
       simp only [e1]
       exact ⟨fun hb => a.whole hb1, a.one, by simp only []; omega, by simp only []; omega, hsr, fun hb => a.bad hb⟩
    ·rw [if_pos h15] at h2
     cases h2
     by_cases h7 : x.k = 7
     ·rw [if_pos h7] at ag
      exact .inr ⟨h7, fun hb => (by cases hb), by decide, by show 1 + 2 * s1.l.length + 0 ≤ _; simp only []; omega, ag, sf, fun _ => rfl⟩
     ·rw [if_neg h7] at ag
      exact .inl ⟨fun hb => (by cases hb), by decide, by show 1 + 2 * s1.l.length + 0 ≤ _; omega, ag, sf, fun _ => rfl⟩
end Go.Proofs.YtdnbpbngoiahlaaGreatDoor
namespace Go.Proofs.YtdnbpbngoiahlaaGreatDoor
open Ast (Nd joinL wrapL deepZ rightZ siz dep fitsB kidsZ shapeZ formZ goodB)
theorem tu_all : ∀ n,
  (∀ f s, Toks7 s.l → s.l.length ≤ 400 → 6 * s.l.length + 5 ≤ n → ∃ r, altU n f s = some r) ∧
  (∀ f t0 s, Toks7 s.l → t0.1 + 2 * s.l.length ≤ 801 → 1 ≤ t0.1 → 6 * s.l.length + 4 ≤ n → ∃ r, altsU n f t0 s = some r) ∧
  (∀ f s, Toks7 s.l → s.l.length ≤ 400 → 6 * s.l.length + 4 ≤ n → ∃ r, rowU n f s = some r) ∧
  (∀ f t0 s, Toks7 s.l → t0.1 + 2 * s.l.length ≤ 801 → 1 ≤ t0.1 → 6 * s.l.length + 3 ≤ n → ∃ r, itemsU n f t0 s = some r) ∧
  (∀ f s, Toks7 s.l → s.l.length ≤ 400 → ¬ (kindU s < 0 ∨ kindU s = 6 ∨ kindU s = 15) → 6 * s.l.length + 2 ≤ n → ∃ r, itemU n f s = some r) ∧
  (∀ f s, Toks7 s.l → s.l.length ≤ 400 → s.l ≠ [] → 6 * s.l.length + 1 ≤ n → ∃ r, pieceU n f s = some r) ∧
  (∀ f x s, Toks7 s.l → s.l.length ≤ 400 → 6 * s.l.length + 6 ≤ n → ∃ r, withinU n f x s = some r) := by
 intro n
 induction n with
 | zero => exact ⟨fun _ _ _ _ h => by omega, fun _ _ _ _ _ _ h => by omega, fun _ _ _ _ h => by omega, fun _ _ _ _ _ _ h => by omega, fun _ _ _ _ _ h => by omega, fun _ _ _ _ _ h => by omega, fun _ _ _ _ _ h => by omega⟩
 | succ n ih =>
   obtain ⟨i1, i2, i3, i4, i5, i6, i7⟩ := ih
   obtain ⟨p1, p2, p3, p4, p5, p6, p7⟩ := pu_all n
   refine ⟨?_, ?_, ?_, ?_, ?_, ?_, ?_⟩
   ·intro f s hT hL hn
    obtain ⟨⟨t1, s1⟩, h1⟩ := i3 f s hT hL (by omega)
    have a := p3 _ _ _ _ h1 hT hL
    have al := a.len
    have := a.suf.length_le
    obtain ⟨r, h2⟩ := i2 f t1 s1 (hT.suf a.suf) (by omega) a.one (by omega)
    exact ⟨r, by rw [altU_s, h1]; exact h2⟩
   ·intro f t0 s hT hL h0 hn
    by_cases hk : kindU s = 6
    ·obtain ⟨-, x, r, hl, -⟩ := kindU_eq hk (by decide)
     obtain ⟨e1, e2⟩ := tail_lt hl
     have hT' : Toks7 s.l.tail := hT.suf (List.tail_suffix _)
     have hL' : s.l.tail.length ≤ 400 := by rw [e1]; omega
     obtain ⟨⟨t1, s1⟩, h1⟩ := i3 f ⟨s.g, s.l.tail, s.bad⟩ hT' hL' (by show 6 * s.l.tail.length + 4 ≤ n; rw [e1]; omega)
     have a := p3 _ _ _ _ h1 hT' hL'
     have al := a.len
     have a1 := a.one
     have := a.suf.length_le
     simp only [e1] at al this
     obtain ⟨r, h2⟩ := i2 f (joinT t0 t1 9) s1 (hT'.suf a.suf) (by show t0.1 + t1.1 + 1 + 2 * s1.l.length ≤ 801; omega) (by show 1 ≤ t0.1 + t1.1 + 1; omega) (by omega)
     exact ⟨r, by rw [altsU_s, if_pos hk, h1]; exact h2⟩
    ·exact ⟨(t0, s), by rw [altsU_s, if_neg hk]⟩
   ·intro f s hT hL hn
    by_cases hk : kindU s < 0 ∨ kindU s = 6 ∨ kindU s = 15
    ·exact ⟨(leaf0, s), by rw [rowU_s, if_pos hk]⟩
    ·obtain ⟨⟨t1, s1⟩, h1⟩ := i5 f s hT hL hk (by omega)
     have a := p5 _ _ _ _ h1 hT hL hk
     have al := a.len
     have := a.suf.length_le
     have a1 := a.one
     obtain ⟨r, h2⟩ := i4 f t1 s1 (hT.suf a.suf) (by omega) a.one (by omega)
     exact ⟨r, by rw [rowU_s, if_neg hk, h1]; exact h2⟩
   ·intro f t0 s hT hL h0 hn
    by_cases hk : kindU s < 0 ∨ kindU s = 6 ∨ kindU s = 15
    ·exact ⟨(t0, s), by rw [itemsU_s, if_pos hk]⟩
    ·obtain ⟨⟨t1, s1⟩, h1⟩ := i5 f s hT (by omega) hk (by omega)
     have a := p5 _ _ _ _ h1 hT (by omega) hk
     have al := a.len
     have := a.suf.length_le
     have a1 := a.one
     obtain ⟨r, h2⟩ := i4 f (joinT t0 t1 8) s1 (hT.suf a.suf) (by show t0.1 + t1.1 + 1 + 2 * s1.l.length ≤ 801; omega) (by show 1 ≤ t0.1 + t1.1 + 1; omega) (by omega)
     exact ⟨r, by rw [itemsU_s, if_neg hk, h1]; exact h2⟩
   ·intro f s hT hL hk hn
    obtain ⟨-, x, r, hl, -⟩ := kindU_pos (s := s) (fun h => hk (.inl h))
    obtain ⟨⟨t1, s1⟩, h1⟩ := i6 f s hT hL (by rw [hl]; simp) (by omega)
    by_cases h16 : kindU s1 = 16
    ·exact ⟨_, by rw [itemU_s, h1]; show (if kindU s1 = 16 then _ else _) = _; rw [if_pos h16]⟩
    ·exact ⟨_, by rw [itemU_s, h1]; show (if kindU s1 = 16 then _ else _) = _; rw [if_neg h16]⟩
   ·intro f s hT hL hne hn
    obtain ⟨g, l, b⟩ := s
    cases l with
    | nil => exact absurd rfl hne
    | cons x r =>
      simp only [List.length_cons] at hn hL
      rw [pieceU_s]
      by_cases h16 : x.k = 16
      ·rw [if_pos h16]; exact ⟨_, rfl⟩
      ·rw [if_neg h16]
       by_cases h5 : x.k ≤ 5 ∨ x.k = 17
       ·rw [if_pos h5]; exact ⟨_, rfl⟩
       ·rw [if_neg h5]
        exact i7 f x ⟨g, r, b⟩ (fun t ht => hT t (List.mem_cons_of_mem _ ht)) (by show r.length ≤ 400; omega) (by show 6 * r.length + 6 ≤ n; omega)
   ·intro f x s hT hL hn
    obtain ⟨⟨t1, s1⟩, h1⟩ := i1 (f ++ x.f) ⟨if x.k = 7 then s.g + 1 else s.g, s.l, s.bad⟩ hT hL (by show 6 * s.l.length + 5 ≤ n; omega)
    rw [withinU_s, h1]
    show ∃ r, (if kindU s1 ≠ 15 then _ else _) = some r
    by_cases h15 : kindU s1 ≠ 15
    ·rw [if_pos h15]; exact ⟨_, rfl⟩
    ·rw [if_neg h15]
     by_cases h7 : x.k = 7
     ·rw [if_pos h7]; exact ⟨_, rfl⟩
     ·rw [if_neg h7]
      by_cases h9 : 9 ≤ x.k ∧ x.k ≤ 13
      ·rw [if_pos h9]; exact ⟨_, rfl⟩
      ·rw [if_neg h9]; exact ⟨_, rfl⟩
theorem kU_stop {g : Nat} {l : List Tok} (hT : Toks7 l) : (kindU ⟨g, l, false⟩ < 0 ∨ kindU ⟨g, l, false⟩ = 6 ∨ kindU ⟨g, l, false⟩ = 15) ↔ (kindZ l = 6 ∨ kindZ l = 15) := by
 cases l with
 | nil => exact ⟨fun _ => .inr rfl, fun _ => .inl (show (-1 : Int) < 0 by decide)⟩
 | cons x r =>
   have hx := (hT x (List.mem_cons_self ..)).k
   show (x.k < 0 ∨ x.k = 6 ∨ x.k = 15) ↔ (x.k = 6 ∨ x.k = 15)
   omega
theorem kU_is {g : Nat} {l : List Tok} {k : Int} (h0 : 0 ≤ k) (h15 : k ≠ 15) : kindU ⟨g, l, false⟩ = k ↔ kindZ l = k := by
 cases l with
 | nil =>
   show (-1 : Int) = k ↔ (15 : Int) = k
   omega
 | cons x r => exact Iff.rfl
def FR (r : Rd) (t : Tr) (s : US) : Prop := r = .got t s.g s.l ∨ (r = .deep ∧ 40 < dep t.2 t.1)
theorem FR.next {r : Rd} {t1 t : Tr} {s1 s' : US} {G : Tr → Nat → List Tok → Rd} (h : FR r t1 s1) (h2 : FR (G t1 s1.g s1.l) t s') (hd : dep t1.2 t1.1 ≤ dep t.2 t.1) : FR (r.next G) t s' := by
 rcases h with rfl | ⟨rfl, h⟩
 ·exact h2
 ·exact .inr ⟨rfl, by omega⟩
theorem deep_dep {t : Tr} (h : 40 < deepZ t.2 t.1) : 40 < dep t.2 t.1 := by
 unfold deepZ at h
 split at h
 ·exact h
 ·omega
theorem FR.shal {j t : Tr} {g : Nat} {l : List Tok} {s' : US} {G : Tr → Nat → List Tok → Rd} (h : FR (G j g l) t s') (hd : dep j.2 j.1 ≤ dep t.2 t.1) : FR ((Go.Proofs.YtdnbpbngoiahlaaGreatDoor.shal j g l).next G) t s' := by
 by_cases hs : 40 < deepZ j.2 j.1
 ·rw [shal_no hs]
  exact .inr ⟨rfl, by have := deep_dep hs; omega⟩
 ·rw [shal_yes hs]
  exact h
theorem FR.last {j : Tr} {g : Nat} {l : List Tok} {b : Bool} : FR (Go.Proofs.YtdnbpbngoiahlaaGreatDoor.shal j g l) j ⟨g, l, b⟩ := by
 unfold Go.Proofs.YtdnbpbngoiahlaaGreatDoor.shal
 by_cases hs : 40 < deepZ j.2 j.1
 ·rw [if_pos hs]
  exact .inr ⟨rfl, deep_dep hs⟩
 ·rw [if_neg hs]
  exact .inl rfl
def wF (n : Nat) (f : ByteArray) (x : Tok) (g : Nat) (l : List Tok) : Rd :=
 if x.k = 8 ∨ x.k = 14 then withF n (f ++ x.f) g l else (withF n (f ++ x.f) (aroundG x.k g) l).next fun u g' l' => shal (wrapT u (aroundN x.k g)) g' l'
structure NB (s' : US) (o : Nat) (b : Bool) : Prop where
 bad : s'.bad = false
 scan : scanF s'.l o b = true
theorem us_eta {s : US} (h : s.bad = false) : s = ⟨s.g, s.l, false⟩ := by
 obtain ⟨g, l, b⟩ := s
 simp only [] at h
 subst h
 rfl
theorem nb_all : ∀ n,
  (∀ f g l o t s', altU n f ⟨g, l, false⟩ = some (t, s') → Toks7 l → l.length ≤ 400 → scanF l o false = true → NB s' o false ∧ kindZ s'.l = 15 ∧ FR (altF n f g l) t s') ∧
  (∀ f t0 g l o t s', altsU n f t0 ⟨g, l, false⟩ = some (t, s') → Toks7 l → t0.1 + 2 * l.length ≤ 801 → 1 ≤ t0.1 → Whole t0 → (kindZ l = 6 ∨ kindZ l = 15) → scanF l o false = true → NB s' o false ∧ kindZ s'.l = 15 ∧ FR (altsF n f t0 g l) t s') ∧
  (∀ f g l o t s', rowU n f ⟨g, l, false⟩ = some (t, s') → Toks7 l → l.length ≤ 400 → scanF l o false = true → NB s' o false ∧ (kindZ s'.l = 6 ∨ kindZ s'.l = 15) ∧ FR (rowF n f g l) t s') ∧
  (∀ f t0 g l o t s', itemsU n f t0 ⟨g, l, false⟩ = some (t, s') → Toks7 l → t0.1 + 2 * l.length ≤ 801 → 1 ≤ t0.1 → Whole t0 → scanF l o false = true → NB s' o false ∧ (kindZ s'.l = 6 ∨ kindZ s'.l = 15) ∧ FR (itemsF n f t0 g l) t s') ∧
  (∀ f g l o t s', itemU n f ⟨g, l, false⟩ = some (t, s') → Toks7 l → l.length ≤ 400 → ¬ (kindZ l = 6 ∨ kindZ l = 15) → scanF l o false = true → NB s' o false ∧ FR (itemF n f g l) t s') ∧
  (∀ f g l o t s', pieceU n f ⟨g, l, false⟩ = some (t, s') → Toks7 l → l.length ≤ 400 → ¬ (kindZ l = 6 ∨ kindZ l = 15) → scanF l o false = true → NB s' o true ∧ FR (pieceF n f g l) t s') ∧
  (∀ f x g l o t s', withinU n f x ⟨g, l, false⟩ = some (t, s') → opens x.k = true → Toks7 l → l.length ≤ 400 → scanF l (o + 1) false = true → NB s' o true ∧ FR (wF n f x g l) t s') := by
 intro n
 induction n with
 | zero => exact ⟨fun f g l o t s' h => (by rw [altU] at h; cases h), fun f t0 g l o t s' h => (by rw [altsU] at h; cases h), fun f g l o t s' h => (by rw [rowU] at h; cases h), fun f t0 g l o t s' h => (by rw [itemsU] at h; cases h), fun f g l o t s' h => (by rw [itemU] at h; cases h), fun f g l o t s' h => (by rw [pieceU] at h; cases h), fun f x g l o t s' h => (by rw [withinU] at h; cases h)⟩
 | succ n ih =>
   obtain ⟨i1, i2, i3, i4, i5, i6, i7⟩ := ih
   obtain ⟨p1, p2, p3, p4, p5, p6, p7⟩ := pu_all n
   refine ⟨?_, ?_, ?_, ?_, ?_, ?_, ?_⟩
   ·intro f g l o t s' h hT hL hs
    rw [altU_s] at h
    obtain ⟨⟨t1, s1⟩, h1, h2⟩ := bind_some h
    have a := p3 _ _ _ _ h1 hT hL
    have al := a.len
    obtain ⟨n1, k1, r1⟩ := i3 _ _ _ _ _ _ h1 hT hL hs
    simp only [] at h2 al
    have hw1 := a.whole n1.bad
    have b := p2 _ _ _ _ _ h2 (hT.suf a.suf) (by omega) a.one
    rw [us_eta n1.bad] at h2
    obtain ⟨n2, k2, r2⟩ := i2 _ _ _ _ _ _ _ h2 (hT.suf a.suf) (by omega) a.one hw1 k1 n1.scan
    refine ⟨n2, k2, ?_⟩
    rw [altF_s]
    exact r1.next r2 (b.dep n2.bad hw1)
   ·intro f t0 g l o t s' h hT hL h0 hw hk hs
    rw [altsU_s] at h
    rw [altsF_s]
    by_cases h6 : kindZ l = 6
    ·rw [if_pos ((kU_is (by decide) (by decide)).2 h6)] at h
     rw [if_pos h6]
     cases l with
     | nil => exact absurd h6 (by decide)
     | cons x r =>
       rw [List.length_cons] at hL
       obtain ⟨⟨t1, s1⟩, h1, h2⟩ := bind_some h
       have hT' : Toks7 r := fun t ht => hT t (List.mem_cons_of_mem _ ht)
       have a := p3 _ _ _ _ h1 hT' (by show r.length ≤ 400; omega)
       have al := a.len
       have a1 := a.one
       simp only [List.tail_cons] at al h1 h2
       obtain ⟨n1, k1, r1⟩ := i3 _ _ _ _ _ _ h1 hT' (by omega) (scan_bar hs h6)
       have hj := hw.join (a.whole n1.bad) (k := 9) (.inr rfl) (by omega) (by omega)
       have hlen : (joinT t0 t1 9).1 + 2 * s1.l.length ≤ 801 := by show t0.1 + t1.1 + 1 + 2 * s1.l.length ≤ 801; omega
       have hone : 1 ≤ (joinT t0 t1 9).1 := by show 1 ≤ t0.1 + t1.1 + 1; omega
       have b := p2 _ _ _ _ _ h2 (hT'.suf a.suf) hlen hone
       rw [us_eta n1.bad] at h2
       obtain ⟨n2, k2, r2⟩ := i2 _ _ _ _ _ _ _ h2 (hT'.suf a.suf) hlen hone hj.1 k1 n1.scan
       have hd := b.dep n2.bad hj.1
       refine ⟨n2, k2, ?_⟩
       exact r1.next (G := fun u g l => (shal (joinT t0 u 9) g l).next fun t g l => altsF n f t g l) (FR.shal (G := fun t g l => altsF n f t g l) r2 hd) (by rw [hj.2] at hd; omega)
    ·rw [if_neg (fun hc => h6 ((kU_is (by decide) (by decide)).1 hc))] at h
     rw [if_neg h6]
     cases h
     exact ⟨⟨rfl, hs⟩, hk.resolve_left h6, .inl rfl⟩
   ·intro f g l o t s' h hT hL hs
    rw [rowU_s] at h
    rw [rowF_s]
    by_cases hk : kindZ l = 6 ∨ kindZ l = 15
    ·rw [if_pos ((kU_stop hT).2 hk)] at h
     rw [if_pos hk]
     cases h
     exact ⟨⟨rfl, hs⟩, hk, .inl rfl⟩
    ·have hk' := fun hc => hk ((kU_stop (g := g) hT).1 hc)
     rw [if_neg hk'] at h
     rw [if_neg hk]
     obtain ⟨⟨t1, s1⟩, h1, h2⟩ := bind_some h
     have a := p5 _ _ _ _ h1 hT hL hk'
     have al := a.len
     simp only [] at h2 al
     obtain ⟨n1, r1⟩ := i5 _ _ _ _ _ _ h1 hT hL hk hs
     have hw1 := a.whole n1.bad
     have b := p4 _ _ _ _ _ h2 (hT.suf a.suf) (by omega) a.one
     rw [us_eta n1.bad] at h2
     obtain ⟨n2, k2, r2⟩ := i4 _ _ _ _ _ _ _ h2 (hT.suf a.suf) (by omega) a.one hw1 n1.scan
     exact ⟨n2, k2, r1.next r2 (b.dep n2.bad hw1)⟩
   ·intro f t0 g l o t s' h hT hL h0 hw hs
    rw [itemsU_s] at h
    rw [itemsF_s]
    by_cases hk : kindZ l = 6 ∨ kindZ l = 15
    ·rw [if_pos ((kU_stop hT).2 hk)] at h
     rw [if_pos hk]
     cases h
     exact ⟨⟨rfl, hs⟩, hk, .inl rfl⟩
    ·have hk' := fun hc => hk ((kU_stop (g := g) hT).1 hc)
     rw [if_neg hk'] at h
     rw [if_neg hk]
     obtain ⟨⟨t1, s1⟩, h1, h2⟩ := bind_some h
     have a := p5 _ _ _ _ h1 hT (by show l.length ≤ 400; omega) hk'
     have al := a.len
     have a1 := a.one
     simp only [] at h2 al
     obtain ⟨n1, r1⟩ := i5 _ _ _ _ _ _ h1 hT (by omega) hk hs
     have hj := hw.join (a.whole n1.bad) (k := 8) (.inl rfl) (by omega) (by omega)
     have hlen : (joinT t0 t1 8).1 + 2 * s1.l.length ≤ 801 := by show t0.1 + t1.1 + 1 + 2 * s1.l.length ≤ 801; omega
     have hone : 1 ≤ (joinT t0 t1 8).1 := by show 1 ≤ t0.1 + t1.1 + 1; omega
     have b := p4 _ _ _ _ _ h2 (hT.suf a.suf) hlen hone
     rw [us_eta n1.bad] at h2
     obtain ⟨n2, k2, r2⟩ := i4 _ _ _ _ _ _ _ h2 (hT.suf a.suf) hlen hone hj.1 n1.scan
     have hd := b.dep n2.bad hj.1
     exact ⟨n2, k2, r1.next (G := fun u g l => (shal (joinT t0 u 8) g l).next fun t g l => itemsF n f t g l) (FR.shal (G := fun t g l => itemsF n f t g l) r2 hd) (by rw [hj.2] at hd; omega)⟩
   ·intro f g l o t s' h hT hL hk hs
    rw [itemU_s] at h
    rw [itemF_s]
    obtain ⟨⟨t1, s1⟩, h1, h2⟩ := bind_some h
    have a := p6 _ _ _ _ h1 hT hL
    obtain ⟨n1, r1⟩ := i6 _ _ _ _ _ _ h1 hT hL hk hs
    obtain ⟨nb, ns⟩ := n1
    obtain ⟨g1, l1, b1⟩ := s1
    simp only [] at nb ns h2 a r1
    subst nb
    by_cases h16 : kindZ l1 = 16
    ·rw [if_pos ((kU_is (by decide) (by decide)).2 h16)] at h2
     cases l1 with
     | nil => exact absurd h16 (by decide)
     | cons y r =>
       have hy : y.k = 16 := h16
       cases h2
       refine ⟨⟨rfl, scan_quant ns hy⟩, ?_⟩
       have hsuf : (y :: r) <:+ l := a.suf
       have hq := (hT y (hsuf.subset (List.mem_cons_self ..))).q hy
       have hw := ((a.whole rfl).wrap (x := repN y) rfl hq).2
       refine r1.next ?_ (by show _ ≤ dep (wrapT t1 (repN y)).2 (wrapT t1 (repN y)).1; rw [hw]; omega)
       show FR (if y.k = 16 then shal (wrapT t1 (repN y)) g1 r else _) _ _
       rw [if_pos hy]
       exact FR.last
    ·rw [if_neg (fun hc => h16 ((kU_is (by decide) (by decide)).1 hc))] at h2
     cases h2
     refine ⟨⟨rfl, by rw [← scan_b h16 true]; exact ns⟩, r1.next ?_ (Nat.le_refl _)⟩
     show FR (endQ t g1 l1) t ⟨g1, l1, false⟩
     cases l1 with
     | nil => exact .inl rfl
     | cons y r =>
       rw [endQ, if_neg (show ¬ y.k = 16 from h16)]
       exact .inl rfl
   ·intro f g l o t s' h hT hL hk hs
    cases l with
    | nil => exact absurd (.inr rfl) hk
    | cons x r =>
      rw [pieceU_s] at h
      rw [pieceF_s]
      have hx := (hT x (List.mem_cons_self ..)).k
      have hr : Toks7 r := fun t ht => hT t (List.mem_cons_of_mem _ ht)
      rw [List.length_cons] at hL
      have h16 : x.k ≠ 16 := scan_head hs
      have h6 : x.k ≠ 6 := fun e => hk (.inl e)
      have h15 : x.k ≠ 15 := fun e => hk (.inr e)
      rw [if_neg h16] at h
      by_cases h5 : x.k ≤ 5 ∨ x.k = 17
      ·rw [if_pos h5] at h
       have ho : opens x.k = false := by unfold opens; exact decide_eq_false (by omega)
       rw [if_pos ho]
       cases h
       exact ⟨⟨rfl, scan_leaf hs ho h6 h15⟩, .inl rfl⟩
      ·rw [if_neg h5] at h
       have ho : opens x.k = true := by unfold opens; exact decide_eq_true (by omega)
       rw [if_neg (by rw [ho]; decide)]
       exact i7 _ _ _ _ _ _ _ h ho hr (by omega) (scan_open hs ho)
   ·intro f x g l o t s' h ho hT hL hs
    rw [withinU_s] at h
    obtain ⟨⟨t1, s1⟩, h1, h2⟩ := bind_some h
    have a := p1 _ _ _ _ h1 hT hL
    simp only [] at h1 h2
    have hxk : 7 ≤ x.k ∧ x.k ≤ 14 := by unfold opens at ho; exact of_decide_eq_true ho
    have hg : (if x.k = 7 then g + 1 else g) = (if x.k = 8 ∨ x.k = 14 then g else aroundG x.k g) := by
     unfold aroundG
     by_cases h7 : x.k = 7
     ·rw [if_pos h7, if_neg (by omega), if_neg (by omega)]
     ·rw [if_neg h7]
      split
      ·rfl
      ·rw [if_pos (by omega)]
    obtain ⟨n1, k1, r1⟩ := i1 _ _ _ (o + 1) _ _ h1 hT hL hs
    obtain ⟨nb, ns⟩ := n1
    obtain ⟨g1, l1, b1⟩ := s1
    simp only [] at nb ns h2 a r1 k1
    subst nb
    cases l1 with
    | nil => exact absurd ns (by simp [scanF])
    | cons y r =>
      have hy : y.k = 15 := k1
      have hsc := scan_close ns hy
      rw [if_neg (show ¬ kindU ⟨g1, y :: r, false⟩ ≠ 15 from fun hc => hc hy)] at h2
      have hww : ∀ G, FR (G t1 g1 r) t ⟨g1, r, false⟩ → dep t1.2 t1.1 ≤ dep t.2 t.1 → FR ((withF (n + 1) (f ++ x.f) (if x.k = 7 then g + 1 else g) l).next G) t ⟨g1, r, false⟩ := fun G hG hd => by
       rw [withF_s]
       rcases r1 with e | ⟨e, h40⟩
       ·rw [e]
        exact hG
       ·rw [e]
        exact .inr ⟨rfl, by omega⟩
      unfold wF
      by_cases h8 : x.k = 8 ∨ x.k = 14
      ·rw [if_neg (by omega), if_neg (by omega)] at h2
       cases h2
       refine ⟨⟨rfl, hsc⟩, ?_⟩
       have := hww (fun t g l => .got t g l) (.inl rfl) (Nat.le_refl _)
       rw [if_pos h8]
       rw [hg, if_pos h8] at this
       have e : ∀ r : Rd, (r.next fun t g l => .got t g l) = r := fun r => by cases r <;> rfl
       rwa [e] at this
      ·rw [if_neg h8]
       rw [hg, if_neg h8] at hww
       by_cases h7 : x.k = 7
       ·rw [if_pos h7] at h2
        cases h2
        have e7 : aroundN x.k g = grpN ((g : Int) + 1) := by unfold aroundN; rw [if_neg (by omega)]
        rw [e7]
        exact ⟨⟨rfl, hsc⟩, hww _ FR.last (by rw [((a.whole rfl).wrap (x := grpN ((g : Int) + 1)) rfl (fits_grp _)).2]; omega)⟩
       ·rw [if_neg h7, if_pos (by omega)] at h2
        cases h2
        have e9 : aroundN x.k g = nd0 (x.k + 4) := by unfold aroundN; rw [if_pos (by omega)]
        rw [e9]
        exact ⟨⟨rfl, hsc⟩, hww _ FR.last (by rw [((a.whole rfl).wrap (x := nd0 (x.k + 4)) (kids_nd (by omega) (by omega)) (fits_nd (by omega) (by omega) (by omega))).2]; omega)⟩
end Go.Proofs.YtdnbpbngoiahlaaGreatDoor
namespace Go.Proofs.YtdnbpbngoiahlaaGreatDoor
open Ast (Nd joinL wrapL deepZ rightZ siz dep fitsB kidsZ shapeZ formZ goodB)
theorem kU_Z {s : US} (hb : s.bad = false) (h16 : kindU s ≠ 16) : kindZ s.l ≠ 16 := by
 obtain ⟨g, l, b⟩ := s
 simp only [] at hb
 subst hb
 exact fun hc => h16 ((kU_is (by decide) (by decide)).2 hc)
theorem su_all : ∀ n,
  (∀ f s t s', altU n f s = some (t, s') → Toks7 s.l → s.l.length ≤ 400 → s'.bad = false → (∀ o, scanF s.l o false = scanF s'.l o false) ∧ (kindU s' < 0 ∨ kindU s' = 15)) ∧
  (∀ f t0 s t s', altsU n f t0 s = some (t, s') → Toks7 s.l → t0.1 + 2 * s.l.length ≤ 801 → 1 ≤ t0.1 → (kindU s < 0 ∨ kindU s = 6 ∨ kindU s = 15) → s'.bad = false → (∀ o, scanF s.l o false = scanF s'.l o false) ∧ (kindU s' < 0 ∨ kindU s' = 15)) ∧
  (∀ f s t s', rowU n f s = some (t, s') → Toks7 s.l → s.l.length ≤ 400 → s'.bad = false → (∀ o, scanF s.l o false = scanF s'.l o false) ∧ (kindU s' < 0 ∨ kindU s' = 6 ∨ kindU s' = 15)) ∧
  (∀ f t0 s t s', itemsU n f t0 s = some (t, s') → Toks7 s.l → t0.1 + 2 * s.l.length ≤ 801 → 1 ≤ t0.1 → s'.bad = false → (∀ o, scanF s.l o false = scanF s'.l o false) ∧ (kindU s' < 0 ∨ kindU s' = 6 ∨ kindU s' = 15)) ∧
  (∀ f s t s', itemU n f s = some (t, s') → Toks7 s.l → s.l.length ≤ 400 → ¬ (kindU s < 0 ∨ kindU s = 6 ∨ kindU s = 15) → s'.bad = false → ∀ o, scanF s.l o false = scanF s'.l o false) ∧
  (∀ f s t s', pieceU n f s = some (t, s') → Toks7 s.l → s.l.length ≤ 400 → ¬ (kindU s < 0 ∨ kindU s = 6 ∨ kindU s = 15) → s'.bad = false → ∀ o, scanF s.l o false = scanF s'.l o true) ∧
  (∀ f x s t s', withinU n f x s = some (t, s') → Toks7 s.l → s.l.length ≤ 400 → s'.bad = false → ∀ o, scanF s.l (o + 1) false = scanF s'.l o true) := by
 intro n
 induction n with
 | zero => exact ⟨fun f s t s' h => (by rw [altU] at h; cases h), fun f t0 s t s' h => (by rw [altsU] at h; cases h), fun f s t s' h => (by rw [rowU] at h; cases h), fun f t0 s t s' h => (by rw [itemsU] at h; cases h), fun f s t s' h => (by rw [itemU] at h; cases h), fun f s t s' h => (by rw [pieceU] at h; cases h), fun f x s t s' h => (by rw [withinU] at h; cases h)⟩
 | succ n ih =>
   obtain ⟨i1, i2, i3, i4, i5, i6, i7⟩ := ih
   obtain ⟨p1, p2, p3, p4, p5, p6, p7⟩ := pu_all n
   refine ⟨?_, ?_, ?_, ?_, ?_, ?_, ?_⟩
   ·intro f s t s' h hT hL hb
    rw [altU_s] at h
    obtain ⟨⟨t1, s1⟩, h1, h2⟩ := bind_some h
    have a := p3 _ _ _ _ h1 hT hL
    have al := a.len
    simp only [] at h2
    have hl2 : t1.1 + 2 * s1.l.length ≤ 801 := by omega
    have b := p2 _ _ _ _ _ h2 (hT.suf a.suf) hl2 a.one
    have hb1 : s1.bad = false := by cases hs : s1.bad with | false => rfl | true => rw [b.bad hs] at hb; cases hb
    obtain ⟨e1, k1⟩ := i3 _ _ _ _ h1 hT hL hb1
    obtain ⟨e2, k2⟩ := i2 _ _ _ _ _ h2 (hT.suf a.suf) hl2 a.one k1 hb
    exact ⟨fun o => (e1 o).trans (e2 o), k2⟩
   ·intro f t0 s t s' h hT hL h0 hk hb
    rw [altsU_s] at h
    by_cases h6 : kindU s = 6
    ·rw [if_pos h6] at h
     obtain ⟨-, x, r, hl, hx⟩ := kindU_eq h6 (by decide)
     obtain ⟨e1, e2⟩ := tail_lt hl
     obtain ⟨⟨t1, s1⟩, h1, h2⟩ := bind_some h
     have hT' : Toks7 s.l.tail := hT.suf (List.tail_suffix _)
     have hL' : s.l.tail.length ≤ 400 := by rw [e1]; omega
     have a := p3 _ _ _ _ h1 hT' hL'
     have al := a.len
     have a1 := a.one
     simp only [e1] at al
     simp only [] at h2
     have hlen : (joinT t0 t1 9).1 + 2 * s1.l.length ≤ 801 := by show t0.1 + t1.1 + 1 + 2 * s1.l.length ≤ 801; omega
     have hone : 1 ≤ (joinT t0 t1 9).1 := by show 1 ≤ t0.1 + t1.1 + 1; omega
     have b := p2 _ _ _ _ _ h2 (hT'.suf a.suf) hlen hone
     have hb1 : s1.bad = false := by cases hs : s1.bad with | false => rfl | true => rw [b.bad hs] at hb; cases hb
     obtain ⟨q1, k1⟩ := i3 _ _ _ _ h1 hT' hL' hb1
     obtain ⟨q2, k2⟩ := i2 _ _ _ _ _ h2 (hT'.suf a.suf) hlen hone k1 hb
     refine ⟨fun o => ?_, k2⟩
     have q := (q1 o).trans (q2 o)
     rw [← q, hl]
     show scanF (x :: r) o false = scanF r o false
     rw [scanF, if_neg (by rintro (⟨e, -⟩ | ⟨e, -⟩) <;> omega), if_neg (by rw [hx]; decide), if_neg (by omega), decide_eq_false (by omega)]
    ·rw [if_neg h6] at h
     cases h
     exact ⟨fun o => rfl, hk.imp id fun h => h.resolve_left h6⟩
   ·intro f s t s' h hT hL hb
    rw [rowU_s] at h
    by_cases hk : kindU s < 0 ∨ kindU s = 6 ∨ kindU s = 15
    ·rw [if_pos hk] at h
     cases h
     exact ⟨fun o => rfl, hk⟩
    ·rw [if_neg hk] at h
     obtain ⟨⟨t1, s1⟩, h1, h2⟩ := bind_some h
     have a := p5 _ _ _ _ h1 hT hL hk
     have al := a.len
     simp only [] at h2
     have hl2 : t1.1 + 2 * s1.l.length ≤ 801 := by omega
     have b := p4 _ _ _ _ _ h2 (hT.suf a.suf) hl2 a.one
     have hb1 : s1.bad = false := by cases hs : s1.bad with | false => rfl | true => rw [b.bad hs] at hb; cases hb
     have e1 := i5 _ _ _ _ h1 hT hL hk hb1
     obtain ⟨e2, k2⟩ := i4 _ _ _ _ _ h2 (hT.suf a.suf) hl2 a.one hb
     exact ⟨fun o => (e1 o).trans (e2 o), k2⟩
   ·intro f t0 s t s' h hT hL h0 hb
    rw [itemsU_s] at h
    by_cases hk : kindU s < 0 ∨ kindU s = 6 ∨ kindU s = 15
    ·rw [if_pos hk] at h
     cases h
     exact ⟨fun o => rfl, hk⟩
    ·rw [if_neg hk] at h
     obtain ⟨⟨t1, s1⟩, h1, h2⟩ := bind_some h
     have a := p5 _ _ _ _ h1 hT (by omega) hk
     have al := a.len
     have a1 := a.one
     simp only [] at h2
     have hlen : (joinT t0 t1 8).1 + 2 * s1.l.length ≤ 801 := by show t0.1 + t1.1 + 1 + 2 * s1.l.length ≤ 801; omega
     have hone : 1 ≤ (joinT t0 t1 8).1 := by show 1 ≤ t0.1 + t1.1 + 1; omega
     have b := p4 _ _ _ _ _ h2 (hT.suf a.suf) hlen hone
     have hb1 : s1.bad = false := by cases hs : s1.bad with | false => rfl | true => rw [b.bad hs] at hb; cases hb
     have e1 := i5 _ _ _ _ h1 hT (by omega) hk hb1
     obtain ⟨e2, k2⟩ := i4 _ _ _ _ _ h2 (hT.suf a.suf) hlen hone hb
     exact ⟨fun o => (e1 o).trans (e2 o), k2⟩
   ·intro f s t s' h hT hL hk hb o
    rw [itemU_s] at h
    obtain ⟨⟨t1, s1⟩, h1, h2⟩ := bind_some h
    simp only [] at h2
    by_cases h16 : kindU s1 = 16
    ·rw [if_pos h16] at h2
     obtain ⟨hb1, x, r, hl, hx⟩ := kindU_eq h16 (by decide)
     cases h2
     have e1 := i6 _ _ _ _ h1 hT hL hk hb1 o
     rw [e1, hl]
     show scanF (x :: r) o true = scanF r o false
     rw [scanF, if_neg (by rintro (⟨-, e⟩ | ⟨e, -⟩); cases e; omega), if_neg (by rw [hx]; decide), if_neg (by omega), decide_eq_false (by omega)]
    ·rw [if_neg h16] at h2
     cases h2
     rw [i6 _ _ _ _ h1 hT hL hk hb o]
     exact scan_b (kU_Z hb h16) true
   ·intro f s t s' h hT hL hk hb o
    obtain ⟨-, x, r, hl, hkx⟩ := kindU_pos (s := s) (fun h => hk (.inl h))
    obtain ⟨g, l, b⟩ := s
    simp only [] at hl hT hL
    subst hl
    rw [hkx] at hk
    rw [pieceU_s] at h
    have hx := (hT x (List.mem_cons_self ..)).k
    have hr : Toks7 r := fun t ht => hT t (List.mem_cons_of_mem _ ht)
    rw [List.length_cons] at hL
    show scanF (x :: r) o false = _
    by_cases h16 : x.k = 16
    ·rw [if_pos h16] at h
     cases h
     cases hb
    ·rw [if_neg h16] at h
     by_cases h5 : x.k ≤ 5 ∨ x.k = 17
     ·rw [if_pos h5] at h
      have ho : opens x.k = false := by unfold opens; exact decide_eq_false (by omega)
      cases h
      rw [scanF, if_neg (by rintro (⟨e, -⟩ | ⟨e, -⟩) <;> omega), if_neg (by rw [ho]; decide), if_neg (by omega), decide_eq_true (by omega)]
     ·rw [if_neg h5] at h
      have ho : opens x.k = true := by unfold opens; exact decide_eq_true (by omega)
      rw [scanF, if_neg (by rintro (⟨e, -⟩ | ⟨e, -⟩) <;> omega), if_pos ho]
      exact i7 _ _ _ _ _ h hr (by show r.length ≤ 400; omega) hb o
   ·intro f x s t s' h hT hL hb o
    rw [withinU_s] at h
    obtain ⟨⟨t1, s1⟩, h1, h2⟩ := bind_some h
    simp only [] at h2
    by_cases h15 : kindU s1 = 15
    ·rw [if_neg (by simp [h15])] at h2
     obtain ⟨hb1, y, r, hl, hy⟩ := kindU_eq h15 (by decide)
     obtain ⟨e1, e2⟩ := tail_lt hl
     obtain ⟨q1, -⟩ := i1 _ _ _ _ h1 hT hL hb1
     have hl' : s'.l = r := by
      by_cases h7 : x.k = 7
      ·rw [if_pos h7] at h2; cases h2; exact e1
      ·rw [if_neg h7] at h2
       by_cases h9 : 9 ≤ x.k ∧ x.k ≤ 13
       ·rw [if_pos h9] at h2; cases h2; exact e1
       ·rw [if_neg h9] at h2; cases h2; exact e1
     have q := q1 (o + 1)
     simp only [] at q
     rw [q, hl, hl']
     rw [scanF, if_neg (by rintro (⟨e, -⟩ | ⟨-, e⟩) <;> omega), if_neg (by rw [hy]; decide), if_pos hy]
     rfl
    ·rw [if_pos h15] at h2
     cases h2
     cases hb
theorem flags_mx (p : ByteArray) : ∀ (f i : Nat) (s : List UInt8), -1 ≤ (flagsF p f i s).1.mx := by
 intro f
 induction f with
 | zero => intro i s; exact (by decide : (-1 : Int) ≤ 0)
 | succ f ih =>
   intro i s
   unfold flagsF
   split
   ·split
    ·exact (by decide : (-1 : Int) ≤ 0)
    ·split
     ·exact (by decide : (-1 : Int) ≤ 0)
     ·split
      ·exact (by decide : (-1 : Int) ≤ 0)
      ·exact ih (i + 1) _
   ·exact (by decide : (-1 : Int) ≤ 0)
theorem head_mx (p : ByteArray) (i : Nat) : ∀ (l : List (List Nat × Int)) x, headF p i l = some x → x.1.mx = 0
 | [], x, h => by cases h
 | y :: l, x, h => by
   rw [headF] at h
   split at h
   ·cases h
    rfl
   ·exact head_mx p i l x h
theorem mode_mx (p : ByteArray) (x : TokR) : (modeZ p x).1.mx = x.1.mx := by
 unfold modeZ
 split
 ·rfl
 ·split <;> rfl
theorem brace_mx (p : ByteArray) (i : Nat) : -1 ≤ (bracesZ p i).1.mx := by
 unfold bracesZ
 simp only []
 split
 ·exact (by decide : (-1 : Int) ≤ 0)
 ·have hb : -1 ≤ (if bt p (countZ p (i + 1)).2 = 44 then (if (countZ p ((countZ p (i + 1)).2 + 1)).2 = (countZ p (i + 1)).2 + 1 then -1 else ((countZ p ((countZ p (i + 1)).2 + 1)).1 : Int), (countZ p ((countZ p (i + 1)).2 + 1)).2) else (((countZ p (i + 1)).1 : Int), (countZ p (i + 1)).2) : Int × Nat).1 := by
   split
   ·simp only []
    split <;> omega
   ·simp only []
    omega
  revert hb
  generalize (ite (bt p (countZ p (i + 1)).2 = 44) _ _ : Int × Nat) = b
  intro hb
  split
  ·exact (by decide : (-1 : Int) ≤ 0)
  ·split
   ·exact (by decide : (-1 : Int) ≤ 0)
   ·split
    ·exact (by decide : (-1 : Int) ≤ 0)
    ·exact hb
theorem quant_mx (p : ByteArray) (i : Nat) : -1 ≤ (quantZ p i).1.mx := by
 unfold quantZ
 split
 ·split
  ·rw [mode_mx]; exact brace_mx p i
  ·exact (by decide : (-1 : Int) ≤ 0)
 ·rw [mode_mx]
  show -1 ≤ (if bt p i = 63 then (1 : Int) else -1)
  split <;> decide
theorem tok_mx (p : ByteArray) (i : Nat) : -1 ≤ (tokZ p i).1.mx := by
 have h0 : (-1 : Int) ≤ 0 := by decide
 unfold tokZ
 split
 ·rename_i x hx
  rw [head_mx p i _ x hx]
  exact h0
 ·split
  ·exact flags_mx p _ (i + 2) []
  ·split
   ·exact h0
   ·split
    ·exact quant_mx p i
    ·split
     ·exact h0
     ·split
      ·exact h0
      ·split
       ·exact h0
       ·split
        ·exact h0
        ·split <;> exact h0
theorem toks_mx (p : ByteArray) : ∀ t ∈ (lexZ p).1, -1 ≤ t.mx := by
 unfold lexZ
 split
 ·intro t ht; cases ht
 ·have H : ∀ (f i : Nat) (l : List Tok), (∀ t ∈ l, -1 ≤ t.mx) → ∀ t ∈ (lexF p f i l).1, -1 ≤ t.mx := by
   intro f
   induction f with
   | zero => intro i l h; exact h
   | succ f ih =>
     intro i l h
     rw [lexF]
     split
     ·exact h
     ·split
      ·intro t ht; cases ht
      ·refine ih _ _ fun t ht => ?_
       rcases List.mem_append.1 ht with h1 | h1
       ·exact h t h1
       ·obtain rfl : t = (tokZ p i).1 := by simpa using h1
        exact tok_mx p i
  exact H _ _ _ (fun t ht => by cases ht)
theorem toks7 (p : ByteArray) (hp : p.size ≤ 1000) : Toks7 (lexZ p).1 := by
 intro t ht
 have hmx := toks_mx p t ht
 rcases few_lex p hp with ⟨h, -⟩ | ⟨-, h, -, -⟩
 ·rw [h] at ht; cases ht
 ·obtain ⟨q0, q1, q16, q17⟩ := h t ht
  refine ⟨⟨by omega, by omega⟩, fun hk => ?_⟩
  obtain ⟨a1, a2, a3, a4, a5, a6⟩ := q16 hk
  unfold fitsB repN
  simp [nd0]
  omega
theorem right_deep4 {t : Tr} (h : Whole t) (hd : 40 < dep t.2 t.1) : rightZ t.2 t.1 = 4 := by
 have hs : shapeZ t.2 t.1 = 4 := by
  unfold shapeZ
  by_cases hf : formZ t.2 t.1 = 0
  ·rw [if_pos ⟨hf, hd⟩]
  ·rw [if_neg (fun hc => hf hc.1)]
   unfold formZ goodB at hf ⊢
   by_cases h5 : 500 < t.1
   ·rw [if_pos h5]
   ·rw [if_neg h5, decide_eq_true (show 0 < t.1 ∧ siz t.2 t.1 = t.1 from h)] at hf
    exact absurd (by rfl) hf
 unfold rightZ
 rw [hs]
 rfl
structure Told (p : ByteArray) (l : List Tok) (t : Tr) (s : US) : Prop where
 few : t.1 ≤ 801
 one : 1 ≤ t.1
 wrong : s.bad = true ∨ s.l ≠ [] → (parseZ p).2 = 3 ∧ (parseZ p).1.1 = 0
 none : s.bad = false → s.l = [] → rightZ t.2 t.1 ≠ 0 → (parseZ p).2 = rightZ t.2 t.1 ∧ (parseZ p).1.1 = 0
 tree : s.bad = false → s.l = [] → rightZ t.2 t.1 = 0 → parseZ p = (t, 0)
theorem told (p : ByteArray) (hp : p.size ≤ 300) (he : (lexZ p).2 = 0) : ∃ t s, altU (6 * (lexZ p).1.length + 6) ByteArray.empty ⟨0, (lexZ p).1, false⟩ = some (t, s) ∧ Told p (lexZ p).1 t s := by
 have hT := toks7 p (by omega)
 have hL : (lexZ p).1.length ≤ 400 := by
  rcases few_lex p (by omega) with ⟨h, -⟩ | ⟨-, -, h, -⟩
  ·rw [h]; decide
  ·omega
 have hx : parseZ p = treeZ (lexZ p).1 := by unfold parseZ; rw [if_neg (by simp [he])]
 generalize (lexZ p).1 = l at hT hL hx ⊢
 obtain ⟨⟨t, s⟩, h⟩ := (tu_all (6 * l.length + 6)).1 ByteArray.empty ⟨0, l, false⟩ hT hL (by show 6 * l.length + 5 ≤ _; omega)
 have a := (pu_all _).1 _ _ _ _ h hT hL
 have al := a.len
 simp only [] at al
 refine ⟨t, s, h, ?_⟩
 by_cases hs : scanF l 0 false = true
 ·obtain ⟨nb, k15, fr⟩ := (nb_all _).1 _ _ _ _ _ _ h hT hL hs
  have hnil : s.l = [] := by
   cases hl : s.l with
   | nil => rfl
   | cons x r =>
     have hsc := nb.scan
     rw [hl] at hsc k15
     rw [scanF, if_pos (.inr ⟨k15, rfl⟩)] at hsc
     cases hsc
  have hw := a.whole nb.bad
  refine ⟨by omega, a.one, fun hc => ?_, fun _ _ hr => ?_, fun _ _ hr => ?_⟩
  ·rcases hc with hc | hc
   ·rw [nb.bad] at hc; cases hc
   ·exact absurd hnil hc
  ·rw [hx]
   unfold treeZ
   rw [if_neg (by rw [hs]; decide)]
   rcases fr with e | ⟨e, hd⟩
   ·rw [e]
    simp only []
    rw [if_neg hr]
    exact ⟨rfl, rfl⟩
   ·rw [e, right_deep4 hw hd]
    exact ⟨rfl, rfl⟩
  ·rw [hx]
   unfold treeZ
   rw [if_neg (by rw [hs]; decide)]
   rcases fr with e | ⟨e, hd⟩
   ·rw [e]
    simp only []
    rw [if_pos hr]
   ·rw [right_deep4 hw hd] at hr
    cases hr
 ·have hs' : scanF l 0 false = false := by simpa using hs
  have hbad : ¬ (s.bad = false ∧ s.l = []) := by
   rintro ⟨hb, hnil⟩
   obtain ⟨q, -⟩ := (su_all _).1 _ _ _ _ h hT hL hb
   have := q 0
   rw [hnil] at this
   rw [show scanF l 0 false = true from this] at hs'
   cases hs'
  refine ⟨by omega, a.one, fun _ => ?_, fun h1 h2 => absurd ⟨h1, h2⟩ hbad, fun h1 h2 => absurd ⟨h1, h2⟩ hbad⟩
  rw [hx, treeZ, if_pos hs']
  exact ⟨rfl, rfl⟩
end Go.Proofs.YtdnbpbngoiahlaaGreatDoor
namespace Go.Proofs.YtdnbpbngoiahlaaGreatDoor.Ast
open Go.RowKit
theorem nums_get (l : Nat → Nd) (n k : Nat) (hk : k < (grp l n).length) : (nums l n)[k]? = some (.int .i64 (l ((grp l n).getD k 0)).n) := by
 unfold nums
 rw [List.getElem?_map, List.getElem?_eq_getElem hk]
 simp [List.getD, hk]
set_option maxRecDepth 100000 in
set_option maxHeartbeats 4000000 in
theorem rright_any (A : Option Addr) (n cap : Nat) (l : Nat → Nd) (w : World) (hn : n ≤ 1000000) (hl : Nodes w A n l) :
  Calls Tryz.prog 27 #[.slice A n cap] w fun e w' => e = .returned (.int .i64 (rightZ l n)) ∧ Below w.heap.size w w' := by
 have HL := Lib.hid hl
 clear hl
 go_enter Tryz.func27, Tryz.ntmps27
 go_wp2_with fail
 refine (formed_any A n cap l _ hn HL.out).mono ?_
 rintro e w1 ⟨rfl, hb⟩
 have B1 := Lib.hid hb
 clear hb
 by_cases h0 : shapeZ l n = 0
 ·obtain ⟨h5, hpos, hs⟩ := form_0 (shape_0 h0).1
  have HV := Lib.hid (show rightZ l n = if groupsB l n = false then 6 else if behB l n = false then 7 else 0 by unfold rightZ; rw [if_neg (by omega)])
  have HS := Lib.hid hs
  have HSN := Lib.hid (show siz l n ≠ 0 by omega)
  have n1 : (1 : Int) ≤ (n : Int) := by omega
  rw [h0]
  clear h0 hs
  go_wp2_with fail
  (with_reducible refine (numbers_any A n cap l hn n (Nat.le_refl _) HSN.out ((n : Int) - 1) rfl _ (HL.out.call B1.out)).mono ?_)
  rintro e w2 ⟨v, rfl, hi, hb⟩
  have B2 := Lib.hid (thenB B1.out hb B1.out.size)
  obtain ⟨g, gc, rfl, hown⟩ := hi
  have HCL := Lib.hid (show ∀ k, k < (grp l n).length → w2.cell? ⟨g, k, none⟩ = some (.int .i64 (l ((grp l n).getD k 0)).n) from fun k hk => by
   rw [hown.cellAt k (by unfold nums; rw [List.length_map]; omega), nums_get l n k hk])
  have HLE := Lib.hid (show (grp l n).length ≤ n by have := grp_len l n HSN.out; have := siz_le l n; omega)
  have HNO1 := Lib.hid (show ∀ k, numB l (grp l n) k = false → k ≤ (grp l n).length → rightZ l n = 6 from fun k h1 h2 => by rw [HV.out, if_pos (groups_no1 h1 h2)])
  have HNO2 := Lib.hid (show ∀ k, backB l (grp l n).length k = false → k ≤ n → rightZ l n = 6 from fun k h1 h2 => by rw [HV.out, if_pos (groups_no2 h1 h2)])
  have HNO3 := Lib.hid (show 9 < (grp l n).length → rightZ l n = 6 from fun h => by
   rw [HV.out, if_pos (by unfold groupsB; rw [show decide ((grp l n).length ≤ 9) = false by simp; omega]; simp)])
  have HYES := Lib.hid (show (grp l n).length ≤ 9 → numB l (grp l n) (grp l n).length = true → backB l (grp l n).length n = true → rightZ l n = if behB l n = false then 7 else 0 from fun h1 h2 h3 => by
   rw [HV.out, if_neg (by unfold groupsB; rw [h2, h3]; simp; omega)])
  rw [show (nums l n).length = (grp l n).length from List.length_map _]
  clear hb hown HV
  generalize hrz : rightZ l n = rz at HNO1 HNO2 HNO3 HYES
  generalize grp l n = L at HCL HLE HNO1 HNO2 HNO3 HYES
  obtain ⟨m, hm⟩ : ∃ m, m = L.length := ⟨_, rfl⟩
  rw [← hm] at HLE HCL HNO1 HNO2 HNO3 HYES
  rw [← hm]
  have HRZ := Lib.hid hrz
  clear hm hrz
  have mle : m ≤ 1000000 := by have := HLE.out; omega
  by_cases h9 : 9 < m
  ·have HZ := Lib.hid (HNO3.out h9)
   have hz9 : (9 : Int) < (m : Int) := by omega
   clear h9
   go_wp2_with fail
   go_ret
   exact ⟨by rw [HRZ.out, HZ.out]; rfl, B2.out⟩
  ·have hz9 : ¬ (9 : Int) < (m : Int) := by omega
   have H9 := Lib.hid (show m ≤ 9 by omega)
   clear h9
   go_wp2_with fail
   go_loop [5] (fun i => ∃ k : Nat, k ≤ m ∧ i = .int .i64 k ∧ numB l L k = true) (fun i => m - (intOf i).toNat)
   case atStart => exact ⟨0, Nat.zero_le _, rfl, rfl⟩
   case round =>
    obtain ⟨k, hk, rfl, hnum⟩ := hrel
    have HU := Lib.hid hnum
    clear hnum
    by_cases hlt : k < m
    ·have hgc := HCL.out k hlt
     obtain ⟨i, hi⟩ : ∃ i, i = L.getD k 0 := ⟨_, rfl⟩
     rw [← hi] at hgc
     have HX := Lib.hid (show numB l L (k + 1) = decide ((l i).n = (k : Int) + 1) by
      show (numB l L k && decide ((l (L.getD k 0)).n = (k : Int) + 1)) = _
      rw [HU.out, ← hi]; rfl)
     clear hi
     by_cases he : (l i).n = (k : Int) + 1
     ·have HZ := Lib.hid (show numB l L (k + 1) = true by rw [HX.out]; simpa using he)
      rw [he] at hgc
      clear he
      go_wp2_with fail
      go_round
      case rel => exact ⟨k + 1, by omega, by go_num, HZ.out⟩
      case measure => simp [intOf]; omega
     ·have HZ := Lib.hid (HNO1.out (k + 1) (by rw [HX.out]; simpa using he) (by omega))
      have q1 : ((l i).n != (k : Int) + 1) = true := by simpa using he
      have q2 : ((l i).n == (k : Int) + 1) = false := by simpa using he
      have q3 : decide ((l i).n = (k : Int) + 1) = false := by simpa using he
      go_wp2_with fail
      go_ret
      exact ⟨by rw [HRZ.out, HZ.out]; rfl, B2.out⟩
    ·obtain rfl : m = k := by omega
     have HUN := Lib.hid HU.out
     clear HU
     go_wp2_with fail
     go_loop [6] (fun i => ∃ k : Nat, k ≤ n ∧ i = .int .i64 k ∧ backB l m k = true) (fun i => n - (intOf i).toNat)
     case atStart => exact ⟨0, Nat.zero_le _, rfl, rfl⟩
     case round =>
      obtain ⟨k, hk, rfl, hbk⟩ := hrel
      have HU := Lib.hid hbk
      clear hbk
      by_cases hlt2 : k < n
      ·obtain ⟨b, o, rfl, hx⟩ := (HL.out.below B2.out (Nat.le_refl _)).at_ (by omega)
       obtain ⟨c0, -, -, -, -, -, -, -, -, -, c10, -⟩ := hx.2 k hlt2
       have HX := Lib.hid (show backB l m (k + 1) = (if (l k).k = 12 then decide (1 ≤ (l k).n ∧ (l k).n ≤ (m : Int)) else true) by
        show (backB l m k && _) = _
        rw [HU.out]; rfl)
       clear hx
       by_cases h12 : (l k).k = 12
       ·rw [if_pos h12] at HX
        rw [h12] at c0
        clear h12
        by_cases hlo : (l k).n < 1
        ·have HZ := Lib.hid (HNO2.out (k + 1) (by rw [HX.out]; simp; omega) (by omega))
         go_wp2_with fail
         go_ret
         exact ⟨by rw [HRZ.out, HZ.out]; rfl, B2.out⟩
        ·by_cases hhi : (m : Int) < (l k).n
         ·have HZ := Lib.hid (HNO2.out (k + 1) (by rw [HX.out]; simp; omega) (by omega))
          go_wp2_with fail
          go_ret
          exact ⟨by rw [HRZ.out, HZ.out]; rfl, B2.out⟩
         ·have HZ := Lib.hid (show backB l m (k + 1) = true by rw [HX.out]; simp; omega)
          go_wp2_with fail
          go_round
          case rel => exact ⟨k + 1, by omega, by go_num, HZ.out⟩
          case measure => simp [intOf]; omega
       ·have HZ := Lib.hid (show backB l m (k + 1) = true by rw [HX.out, if_neg h12])
        have q : ((l k).k == 12) = false := by simpa using h12
        clear h12
        go_wp2_with fail
        go_round
        case rel => exact ⟨k + 1, by omega, by go_num, HZ.out⟩
        case measure => simp [intOf]; omega
      ·obtain rfl : n = k := by omega
       have HVB := Lib.hid (HYES.out H9.out HUN.out HU.out)
       clear HU HUN HYES HNO1 HNO2 HNO3 HCL
       go_wp2_with fail
       go_loopw [7] (fun i wr => ∃ k : Nat, k ≤ n ∧ i = .int .i64 k ∧ behB l k = true ∧ Below w.heap.size w wr) (fun i _ => n - (intOf i).toNat)
       case atStart => exact ⟨0, Nat.zero_le _, rfl, rfl, B2.out⟩
       case round =>
        obtain ⟨k, hk, rfl, hbeh, hb⟩ := hrel
        have HB := Lib.hid hb
        have HH := Lib.hid hbeh
        clear hb hbeh
        by_cases hlt3 : k < n
        ·obtain ⟨b, o, rfl, hx⟩ := (HL.out.below HB.out (Nat.le_refl _)).at_ (by omega)
         obtain ⟨c0, c1, -⟩ := hx.2 k hlt3
         have hsz := siz_of_whole HS.out hlt3
         obtain ⟨-, hp⟩ := siz_pos hsz
         have HX := Lib.hid (show behB l (k + 1) = (behB l k && (if (l k).k = 15 ∨ (l k).k = 16 then decide ((len l k).1 = (len l k).2 ∧ (len l k).2 ≤ 255) else true)) from rfl)
         clear hx hsz
         by_cases hkk : (l k).k = 15 ∨ (l k).k = 16
         ·have hk1 : kidsZ (l k).k = 1 := by unfold kidsZ; rw [if_neg (by omega), if_pos (by omega)]
          obtain ⟨h1, ha⟩ : siz l k ≠ 0 ∧ (l k).a = (k : Int) - 1 := by
           rcases hp with ⟨h, -⟩ | ⟨-, h1, ha, -⟩ | ⟨h, -⟩
           ·omega
           ·exact ⟨h1, ha⟩
           ·omega
          rw [ha] at c1
          have HX' := Lib.hid (show behB l (k + 1) = decide ((len l k).1 = (len l k).2 ∧ (len l k).2 ≤ 255) by rw [HX.out, HH.out, if_pos hkk]; simp)
          have C := Lib.hid (rlens_any (some ⟨b, o, none⟩) n cap l (by omega) k (by omega) h1 ((k : Int) - 1) rfl wr (HL.out.below HB.out (Nat.le_refl _)))
          clear hp hk1 h1 ha
          generalize (len l k).1 = x at C HX'
          generalize (len l k).2 = y at C HX'
          by_cases exy : x = y
          ·subst exy
           by_cases e5 : x ≤ 255
           ·have HZ := Lib.hid (show behB l (k + 1) = true by rw [HX'.out]; simp; exact e5)
            have e6 : ¬ 255 < x := by omega
            rcases hkk with e | e
            all_goals
             rw [e] at c0
             clear e
             go_wp2_with fail
             (with_reducible refine C.out.mono ?_)
             rintro e w3 ⟨rfl, hb⟩
             have B3 := Lib.hid (thenB HB.out hb HB.out.size)
             clear hb c0 c1
             go_wp2_with fail
             go_roundw
             case rel => exact ⟨k + 1, by omega, by go_num, HZ.out, B3.out⟩
             case measure => simp [intOf]; omega
           ·have HZ := Lib.hid (show rz = 7 by rw [HVB.out, if_pos (beh_none (k := k + 1) (by rw [HX'.out]; simp; omega) (by omega))])
            have e6 : 255 < x := by omega
            clear e5
            rcases hkk with e | e
            all_goals
             rw [e] at c0
             clear e
             go_wp2_with fail
             (with_reducible refine C.out.mono ?_)
             rintro e w3 ⟨rfl, hb⟩
             have B3 := Lib.hid (thenB HB.out hb HB.out.size)
             clear hb c0 c1
             go_wp2_with fail
             go_ret
             exact ⟨by rw [HRZ.out, HZ.out]; rfl, B3.out⟩
          ·have HZ := Lib.hid (show rz = 7 by rw [HVB.out, if_pos (beh_none (k := k + 1) (by rw [HX'.out]; simp [exy]) (by omega))])
           have e6 : (x != y) = true := by simpa using exy
           have e7 : (x == y) = false := by simpa using exy
           have e8 : decide (x = y) = false := by simpa using exy
           rcases hkk with e | e
           all_goals
            rw [e] at c0
            clear e
            go_wp2_with fail
            (with_reducible refine C.out.mono ?_)
            rintro e w3 ⟨rfl, hb⟩
            have B3 := Lib.hid (thenB HB.out hb HB.out.size)
            clear hb c0 c1
            go_wp2_with fail
            go_ret
            exact ⟨by rw [HRZ.out, HZ.out]; rfl, B3.out⟩
         ·have HZ := Lib.hid (show behB l (k + 1) = true by rw [HX.out, HH.out, if_neg hkk]; rfl)
          have n15 : ¬ (l k).k = 15 := by omega
          have n16 : ¬ (l k).k = 16 := by omega
          have q3 : ((l k).k == 15) = false := by simpa using n15
          have q4 : ((l k).k == 16) = false := by simpa using n16
          clear hkk hp
          go_wp2_with fail
          go_roundw
          case rel => exact ⟨k + 1, by omega, by go_num, HZ.out, HB.out⟩
          case measure => simp [intOf]; omega
        ·obtain rfl : n = k := by omega
         have HZ := Lib.hid (show rz = 0 by rw [HVB.out, if_neg (by rw [HH.out]; decide)])
         go_wp2_with fail
         go_ret
         exact ⟨by rw [HRZ.out, HZ.out]; rfl, HB.out⟩
 ·have HV := Lib.hid (show rightZ l n = shapeZ l n by unfold rightZ; rw [if_pos h0])
  have q1 : (shapeZ l n != 0) = true := by simpa using h0
  have q : (shapeZ l n == 0) = false := by simpa using h0
  clear h0
  go_wp2_with fail
  go_ret
  exact ⟨by rw [HV.out]; rfl, B1.out⟩
end Go.Proofs.YtdnbpbngoiahlaaGreatDoor.Ast
namespace Go.Proofs.YtdnbpbngoiahlaaGreatDoor.Ast
open Go.RowKit
theorem own_low {w : World} {base n k : Nat} {T : TypeId} {v : Value} {xs : List Value} (h : w.ownsRow base T 12 v n xs) (hk : k < base) : some k ≠ v.ownBlock := fun e => by
 have := (h.lt k e.symm).1
 omega
theorem size53 : (Tryz.prog.info? 65).map (·.size) = some 12 := by kernel_rfl
section
variable {ops : Array Oper} {rest : List Oper} {o : Oper} {a : Act} {w : World} {Q : Exit → Act → World → Prop}
theorem storeNew53 (hgd : o.guard = none) (x y : Operand) (ho : o.op = .store 65 x y) (wr : World) (v : Nd) (hx : a.eval x = .pointer (some ⟨wr.heap.size, 0, none⟩)) (cs : Array Value) (hy : a.eval y = .agg cs) (hcs : cs = Go.Proofs.YtdnbpbngoiahlaaGreatDoor.ndC v) (hw : w = wr.alloc (.cells (Go.Proofs.YtdnbpbngoiahlaaGreatDoor.ndC (nd0 0)) 65))
  (h : ∀ u : World, Hid (BoxV 65 u wr.heap.size (Go.Proofs.YtdnbpbngoiahlaaGreatDoor.ndC v)) → Hid (Below wr.heap.size wr u) → wpList Tryz.prog ops Q rest (a.put o.dst undef) u) : wpList Tryz.prog ops Q (o :: rest) a w := by
 subst hw hcs
 have hg : BoxV 65 (wr.alloc (.cells (Go.Proofs.YtdnbpbngoiahlaaGreatDoor.ndC (nd0 0)) 65)) wr.heap.size (Go.Proofs.YtdnbpbngoiahlaaGreatDoor.ndC (nd0 0)) := BoxV.new _ _
 refine wpList_store_row hgd 65 x y ho wr.heap.size _ hx hy _ _ hg size53 rfl (by simp [Value.oneCell']) ?_
 exact h _ (Lib.hid (hg.rowSame _)) (Lib.hid (below_row ((Below.refl _ wr).alloc (Nat.le_refl _) _) (Nat.le_refl _) _))
end
theorem own_but {w u : World} {base n g : Nat} {T : TypeId} {v : Value} {xs : List Value} (h : w.ownsRow base T 12 v n xs) (hb : ButR g w.heap.size w u) (hk : some g ≠ v.ownBlock) : u.ownsRow base T 12 v n xs := by
 refine ⟨h.1, ?_⟩
 rcases h.2 with h2 | ⟨r, cap, cur, rfl, hr, hh, rest⟩
 ·exact .inl h2
 ·exact .inr ⟨r, cap, cur, rfl, hr, (hb.block r (Array.getElem?_eq_some_iff.1 hh).1 (fun e => hk (by simp [Value.ownBlock]; exact e.symm))).trans hh, rest⟩
section
variable {ops : Array Oper} {rest : List Oper} {o : Oper} {a : Act} {w : World} {Q : Exit → Act → World → Prop}
theorem storeI53 (hgd : o.guard = none) (x y : Operand) (ho : o.op = .store 3 x y) (g j : Nat) (v v' : Nd) (z n : Int) (hx : a.eval x = .pointer (some ⟨g, j, none⟩)) (hy : a.eval y = .int .i64 n) (hg : BoxV 65 w g (Go.Proofs.YtdnbpbngoiahlaaGreatDoor.ndC v)) (hz : (Go.Proofs.YtdnbpbngoiahlaaGreatDoor.ndC v)[j]? = some (.int .i64 z)) (he : (Go.Proofs.YtdnbpbngoiahlaaGreatDoor.ndC v).set! j (.int .i64 n) = Go.Proofs.YtdnbpbngoiahlaaGreatDoor.ndC v')
  (h : ∀ u : World, Hid (BoxV 65 u g (Go.Proofs.YtdnbpbngoiahlaaGreatDoor.ndC v')) → Hid (ButR g w.heap.size w u) → wpList Tryz.prog ops Q rest (a.put o.dst undef) u) : wpList Tryz.prog ops Q (o :: rest) a w := by
 have hf := frozen_of_row w g j _ _ hg
 have c := (cell_of_row w g j _ _ _ hg).trans hz
 have e1 := heap_setCell_same w g j _ _ (.int .i64 n) hg
 have e2 : BoxV 65 (w.setCell ⟨g, j, none⟩ (.int .i64 n)) g (Go.Proofs.YtdnbpbngoiahlaaGreatDoor.ndC v') := by rw [← he]; exact e1
 have hu := h _ (Lib.hid e2) (Lib.hid ((ButR.refl g w.heap.size w).setCell j (.int .i64 n)))
 refine wpList_plain hgd fun K hK => ?_
 unfold Oper.wp execOp
 simp only [ho, hx, hy]
 simp [go_sem, c, hf]
 exact hK _ _ hu
theorem load53 (hgd : o.guard = none) (x : Operand) (ho : o.op = .load 65 x) (g : Nat) (v : Nd) (hx : a.eval x = .pointer (some ⟨g, 0, none⟩)) (hg : BoxV 65 w g (Go.Proofs.YtdnbpbngoiahlaaGreatDoor.ndC v))
  (h : wpList Tryz.prog ops Q rest (a.put o.dst (.agg (Go.Proofs.YtdnbpbngoiahlaaGreatDoor.ndC v))) w) : wpList Tryz.prog ops Q (o :: rest) a w :=
 wpList_load_row hgd 65 x ho g hx _ _ _ _ hg Tryz.underlying65 rfl size53 h
end
def Made (l : Nat → Nd) (n : Nat) (w : World) (e : Ending) (w' : World) : Prop := ∃ b c, e = .returned (.slice (some ⟨b, 0, none⟩) n c) ∧ NodesAt w' b 0 n l ∧ w.heap.size ≤ b ∧ Below w.heap.size w w'
theorem made_of {w w' : World} {base n : Nat} {v : Value} {l : Nat → Nd} (h : w'.ownsRow base 65 12 v n (cellsL l n)) (hb : w.heap.size ≤ base) (h0 : 0 < n) (hB : Below w.heap.size w w') : Made l n w (.returned v) w' := by
 obtain ⟨A, c, rfl, -, hN, hA⟩ := own_nodes h
 obtain ⟨b, o, rfl, hN'⟩ := hN.at_ h0
 rcases h.2 with ⟨-, h2⟩ | ⟨g, cap, cur, e, hg, -⟩
 ·omega
 ·cases e
  exact ⟨b, c, rfl, hN', Nat.le_trans hb hg, hB⟩
set_option maxRecDepth 100000 in
set_option maxHeartbeats 4000000 in
theorem rwrap_any (b o n cap : Nat) (l : Nat → Nd) (x : Nd) (w : World) (hn : n ≤ 1000) (hl : NodesAt w b o n l) : Calls Tryz.prog 125 #[.slice (some ⟨b, o, none⟩) n cap, ndV x] w (Made (wrapL l n x) (n + 1) w) := by
 obtain ⟨i0, hi, hz0, hz1, hz2⟩ := info_parts info53
 have HI := Lib.hid (And.intro hi (And.intro hz0 (And.intro hz1 hz2)))
 have HW := Lib.hid (wrap_cells l n x)
 obtain ⟨k, xa, xb, s0, s1, s2, s3, mn, mx, md, nn, f⟩ := x
 dsimp only at HW
 have HL := Lib.hid hl
 clear hi hz0 hz1 hz2 hl
 have HB0 := Lib.hid (show Below w.heap.size w (World.alloc w (.cells #[.int .i64 k, .int .i64 xa, .int .i64 xb, .int .u64 s0, .int .u64 s1, .int .u64 s2, .int .u64 s3, .int .i64 mn, .int .i64 mx, .int .i64 md, .int .i64 nn, .bool f] 65)) from (Below.refl _ w).alloc (Nat.le_refl _) _)
 have HX0 := Lib.hid (show ((World.alloc w (.cells #[.int .i64 k, .int .i64 xa, .int .i64 xb, .int .u64 s0, .int .u64 s1, .int .u64 s2, .int .u64 s3, .int .i64 mn, .int .i64 mx, .int .i64 md, .int .i64 nn, .bool f] 65))).heap[w.heap.size]? = some (.cells #[.int .i64 k, .int .i64 xa, .int .i64 xb, .int .u64 s0, .int .u64 s1, .int .u64 s2, .int .u64 s3, .int .i64 mn, .int .i64 mx, .int .i64 md, .int .i64 nn, .bool f] 65 (0, 0)) from heap_alloc_new _ _)
 have HC := Lib.hid (show ∀ j u, (cellsL l n)[j]? = some u → (World.alloc (World.alloc w (.cells #[.int .i64 k, .int .i64 xa, .int .i64 xb, .int .u64 s0, .int .u64 s1, .int .u64 s2, .int .u64 s3, .int .i64 mn, .int .i64 mx, .int .i64 md, .int .i64 nn, .bool f] 65)) (.cells #[] 65)).cell? (Addr.add ⟨b, o, none⟩ j) = some u from nodes_cells (HL.out.below (HB0.out.alloc (by simp) _) (Nat.le_refl _)))
 have HE := Lib.hid (show (World.alloc (World.alloc w (.cells #[.int .i64 k, .int .i64 xa, .int .i64 xb, .int .u64 s0, .int .u64 s1, .int .u64 s2, .int .u64 s3, .int .i64 mn, .int .i64 mx, .int .i64 md, .int .i64 nn, .bool f] 65)) (.cells #[] 65)).ownsRow (w.heap.size + 1) 65 12 (.slice (some ⟨w.heap.size + 1, 0, none⟩) 0 0) 0 [] by
  have h := own_empty (World.alloc w (.cells #[.int .i64 k, .int .i64 xa, .int .i64 xb, .int .u64 s0, .int .u64 s1, .int .u64 s2, .int .u64 s3, .int .i64 mn, .int .i64 mx, .int .i64 md, .int .i64 nn, .bool f] 65)) 65 12 (w.heap.size + 1) (by simp)
  rwa [show ((World.alloc w (.cells #[.int .i64 k, .int .i64 xa, .int .i64 xb, .int .u64 s0, .int .u64 s1, .int .u64 s2, .int .u64 s3, .int .i64 mn, .int .i64 mx, .int .i64 md, .int .i64 nn, .bool f] 65))).heap.size = w.heap.size + 1 by simp] at h)
 have hn1 : (n : Int) ≤ 1000 := by omega
 simp only [ndV]
 go_enter Tryz.func125, Tryz.ntmps125
 go_wp2_with (at_builtin; refine wpList_append_own _ rfl _ _ 28 rfl (w.heap.size + 1) 65 i0 _ 12 96 Tryz.underlying28 HI.out.1 HI.out.2.1 HI.out.2.2.1 HI.out.2.2.2 rfl (by decide) _ _ _ rfl HE.out ⟨b, o, none⟩ n cap (cellsL l n) rfl (cellsL_length l n) HC.out (cellsL_one l n) (by unfold maxLen; omega) (by omega) (by simp) ?_)
 intro v2 w2 hown2 hgrow2 _
 have HO := Lib.hid (show w2.ownsRow (w.heap.size + 1) 65 12 v2 n (cellsL l n) by simpa using hown2)
 have HB := Lib.hid ((HB0.out.alloc (by simp) _).grown hgrow2 (by simp; omega) (fun g hg => by simp [Value.ownBlock] at hg; omega))
 have HX := Lib.hid (show BoxV 65 w2 w.heap.size (Go.Proofs.YtdnbpbngoiahlaaGreatDoor.ndC ⟨k, xa, xb, s0, s1, s2, s3, mn, mx, md, nn, f⟩) from (hgrow2.block w.heap.size (by simp; omega) (fun e => by simp [Value.ownBlock] at e)).trans ((Below.heap_alloc _ _ _ (by simp)).trans HX0.out))
 have HS := Lib.hid (show w.heap.size < w2.heap.size from HX.out.lt)
 clear hown2 hgrow2
 go_wp2_with (first | (refine storeI53 rfl _ _ rfl w.heap.size 1 ⟨k, xa, xb, s0, s1, s2, s3, mn, mx, md, nn, f⟩ ⟨k, (n : Int) - 1, xb, s0, s1, s2, s3, mn, mx, md, nn, f⟩ xa ((n : Int) - 1) rfl rfl HX.out rfl rfl ?_; intro w3 hx3 hN3; refine stopP ?_))
 unfold StopP
 have HO3 := Lib.hid (own_but HO.out hN3.out (own_low HO.out (by omega)))
 have HB3 := Lib.hid (HB.out.trans (hN3.out.below (by have := HS.out; omega) (Nat.le_refl _)))
 have HX3 := Lib.hid hx3.out
 clear hx3 hN3 HO HB HX HS
 go_wp2_with (first | (refine storeI53 rfl _ _ rfl w.heap.size 2 ⟨k, (n : Int) - 1, xb, s0, s1, s2, s3, mn, mx, md, nn, f⟩ ⟨k, (n : Int) - 1, 0, s0, s1, s2, s3, mn, mx, md, nn, f⟩ xb 0 rfl rfl HX3.out rfl rfl ?_; intro w4 hx4 hN4; refine stopP ?_))
 unfold StopP
 have HO4 := Lib.hid (own_but HO3.out hN4.out (own_low HO3.out (by omega)))
 have HB4 := Lib.hid (HB3.out.trans (hN4.out.below (by have := HX3.out.lt; omega) (Nat.le_refl _)))
 have HX4 := Lib.hid hx4.out
 clear hx4 hN4 HO3 HB3 HX3
 have hs4 : w.heap.size < w4.heap.size := HX4.out.lt
 go_wp2_with (first | (refine load53 rfl _ rfl w.heap.size ⟨k, (n : Int) - 1, 0, s0, s1, s2, s3, mn, mx, md, nn, f⟩ rfl HX4.out ?_) | (at_builtin; refine wpList_append_own _ rfl _ _ 28 rfl (w.heap.size + 1) 65 i0 _ 12 96 Tryz.underlying28 HI.out.1 HI.out.2.1 HI.out.2.2.1 HI.out.2.2.2 rfl (by decide) _ _ _ rfl (HO4.out.alloc _) ⟨w4.heap.size, 0, none⟩ 1 1 (ndC ⟨k, (n : Int) - 1, 0, s0, s1, s2, s3, mn, mx, md, nn, f⟩) rfl rfl (new_cells w4 _ ⟨k, (n : Int) - 1, 0, s0, s1, s2, s3, mn, mx, md, nn, f⟩) (ndC_one _) (by unfold maxLen; omega) (by omega) (by simp; omega) ?_))
 intro v5 w5 hown5 hgrow5 _
 rw [← HW.out] at hown5
 have hown : ∀ g, v2.ownBlock = some g → w.heap.size + 1 ≤ g := fun g hg => (HO4.out.lt g hg).1
 have HB5 := Lib.hid ((HB4.out.alloc (by omega) _).grown hgrow5 (by simp; omega) (fun g hg => by have := hown g hg; omega))
 have HO5 := Lib.hid hown5
 clear hown5 hgrow5 hown
 go_wp2_with fail
 go_ret
 exact made_of HO5.out (by omega) (by omega) HB5.out
theorem own_lt {w : World} {base n : Nat} {T : TypeId} {v : Value} {xs : List Value} (h : w.ownsRow base T 12 v n xs) (g : Nat) (hg : v.ownBlock = some g) : g < w.heap.size := (h.lt g hg).2
set_option maxRecDepth 100000 in
set_option maxHeartbeats 8000000 in
theorem rjoin_any (b o n cap : Nat) (la : Nat → Nd) (b' o' m cap' : Nat) (lb : Nat → Nd) (kind : Int) (w : World) (hn : n ≤ 1000) (hm : m ≤ 1000) (h1 : 0 < m) (hl : NodesAt w b o n la) (hl2 : NodesAt w b' o' m lb) : Calls Tryz.prog 55 #[.slice (some ⟨b, o, none⟩) n cap, .slice (some ⟨b', o', none⟩) m cap', .int .i64 kind] w (Made (joinL la n lb m kind) (n + m + 1) w) := by
 obtain ⟨i0, hi, hz0, hz1, hz2⟩ := info_parts info53
 have HI := Lib.hid (And.intro hi (And.intro hz0 (And.intro hz1 hz2)))
 have HL := Lib.hid hl
 have HL2 := Lib.hid hl2
 clear hi hz0 hz1 hz2 hl hl2
 have HC := Lib.hid (show ∀ j u, (cellsL la n)[j]? = some u → (World.alloc w (.cells #[] 65)).cell? (Addr.add ⟨b, o, none⟩ j) = some u from nodes_cells (HL.out.below ((Below.refl _ w).alloc (Nat.le_refl _) _) (Nat.le_refl _)))
 have HE := Lib.hid (own_empty w 65 12 w.heap.size (Nat.le_refl _))
 have HM := Lib.hid (show ∀ k, k < m → cellsL (joinL la n lb m kind) (n + k + 1) = cellsL (joinL la n lb m kind) (n + k) ++ ndC (mvN (lb k) n) from fun k hk => by rw [cellsL_succ, join_b la n lb m kind hk])
 have HTop := Lib.hid (show cellsL (joinL la n lb m kind) (n + m + 1) = cellsL (joinL la n lb m kind) (n + m) ++ ndC ⟨kind, (n : Int) - 1, (n : Int) + m - 1, 0, 0, 0, 0, 0, 0, 0, 0, false⟩ by rw [cellsL_succ, join_top, if_neg (by omega)])
 have HFst := Lib.hid (show cellsL la n = cellsL (joinL la n lb m kind) n from cellsL_congr (fun i hi => (join_a la n lb m kind hi).symm))
 have hn1 : (n : Int) ≤ 1000 := by omega
 have hm1 : (m : Int) ≤ 1000 := by omega
 go_enter Tryz.func55, Tryz.ntmps55
 go_wp2_with (at_builtin; refine wpList_append_own _ rfl _ _ 28 rfl w.heap.size 65 i0 _ 12 96 Tryz.underlying28 HI.out.1 HI.out.2.1 HI.out.2.2.1 HI.out.2.2.2 rfl (by decide) _ _ _ rfl HE.out ⟨b, o, none⟩ n cap (cellsL la n) rfl (cellsL_length la n) HC.out (cellsL_one la n) (by unfold maxLen; omega) (by omega) (by simp) ?_)
 intro v2 w2 hown2 hgrow2 _
 have HO := Lib.hid (show w2.ownsRow w.heap.size 65 12 v2 n (cellsL la n) by simpa using hown2)
 have HB := Lib.hid (((Below.refl _ w).alloc (Nat.le_refl _) (.cells #[] 65)).grown hgrow2 (by simp) (fun g hg => by simp [Value.ownBlock] at hg; omega))
 clear hown2 hgrow2
 go_wp2_with fail
 go_loopw [7, 8] (fun v i wr => ∃ k : Nat, k ≤ m ∧ i = .int .i64 k ∧ wr.ownsRow w.heap.size 65 12 v (n + k) (cellsL (joinL la n lb m kind) (n + k)) ∧ Below w.heap.size w wr) (fun _ i _ => m - (intOf i).toNat)
 case atStart => exact ⟨0, Nat.zero_le _, rfl, by have h := HO.out; rw [HFst.out] at h; exact h, HB.out⟩
 case round =>
  obtain ⟨k, hk, rfl, hown, hb⟩ := hrel
  obtain ⟨v, hv⟩ : ∃ v, v = u7 := ⟨_, rfl⟩
  rw [← hv] at hown ⊢
  clear hv
  have HBr := Lib.hid hb
  have HOr := Lib.hid hown
  have HBs := Lib.hid (show w.heap.size ≤ wr.heap.size from hb.size)
  by_cases hlt : k < m
  ·have hx := (HL2.out.below hb (Nat.le_refl _)).2 k hlt
   have hbw : b' < wr.heap.size := (HL2.out.below hb (Nat.le_refl _)).1
   have HN := Lib.hid (HM.out k hlt)
   obtain ⟨x, hx0⟩ : ∃ x, x = lb k := ⟨_, rfl⟩
   rw [← hx0] at hx HN
   clear hx0
   obtain ⟨xk, xa, xb, s0, s1, s2, s3, mn, mx, md, nn, f⟩ := x
   obtain ⟨c0, c1, c2, c3, c4, c5, c6, c7, c8, c9, c10, c11⟩ := hx
   have HLT := Lib.hid hlt
   have r1 : (k : Int) < (m : Int) := by omega
   clear hown hb
   go_wp2_with (refine storeNew53 rfl _ _ rfl wr ⟨xk, xa, xb, s0, s1, s2, s3, mn, mx, md, nn, f⟩ rfl _ rfl rfl rfl ?_; intro w1 hx1 hN1; clear c0 c1 c2 c3 c4 c5 c6 c7 c8 c9 c10 c11; refine stopP ?_)
   unfold StopP
   have HO1 := Lib.hid (own_call HOr.out hN1.out)
   have HO10 := HOr
   have HB1 := Lib.hid (thenB HBr.out hN1.out HBr.out.size)
   have HX1 := Lib.hid hx1.out
   clear hx1 hN1 HBr HOr hbw
   rcases (show kidsZ xk = 0 ∨ kidsZ xk = 1 ∨ kidsZ xk = 2 from kids_cases xk) with hk0 | hk1 | hk2
   ·have e : mvN ⟨xk, xa, xb, s0, s1, s2, s3, mn, mx, md, nn, f⟩ (n : Int) = ⟨xk, xa, xb, s0, s1, s2, s3, mn, mx, md, nn, f⟩ := by unfold mvN; rw [if_neg (by show ¬ kidsZ xk = 2; omega), if_neg (by show ¬ kidsZ xk = 1; omega)]
    rw [e] at HN
    clear e
    have d0 : w1.cell? ⟨wr.heap.size, 0, none⟩ = some (.int .i64 xk) := (cell_of_row w1 _ 0 _ _ _ HX1.out).trans rfl
    have d1 := (cell_of_row w1 _ 1 _ _ _ HX1.out)
    have d2 := (cell_of_row w1 _ 2 _ _ _ HX1.out)
    go_wp2_with fail
    refine (rkids_any xk _).mono ?_
    rintro e wk1 ⟨rfl, rfl⟩
    rw [hk0]
    clear d1 d2
    go_wp2_with fail
    refine (rkids_any xk _).mono ?_
    rintro e wk2 ⟨rfl, rfl⟩
    rw [hk0]
    clear d0
    have hs := HX1.out.lt
    have hsb := HBs.out
    go_wp2_with (first | (refine load53 rfl _ rfl wr.heap.size ⟨xk, xa, xb, s0, s1, s2, s3, mn, mx, md, nn, f⟩ rfl HX1.out ?_) | (at_builtin; refine wpList_append_own _ rfl _ _ 28 rfl w.heap.size 65 i0 _ 12 96 Tryz.underlying28 HI.out.1 HI.out.2.1 HI.out.2.2.1 HI.out.2.2.2 rfl (by decide) _ _ _ rfl (HO1.out.alloc _) ⟨w1.heap.size, 0, none⟩ 1 1 (ndC ⟨xk, xa, xb, s0, s1, s2, s3, mn, mx, md, nn, f⟩) rfl rfl (new_cells w1 _ ⟨xk, xa, xb, s0, s1, s2, s3, mn, mx, md, nn, f⟩) (ndC_one _) (by unfold maxLen; omega) (by omega) (by simp; omega) ?_))
    intro v9 w9 hown9 hgrow9 _
    rw [← HN.out] at hown9
    have hown : ∀ g, v.ownBlock = some g → w.heap.size ≤ g := fun g hg => (HO1.out.lt g hg).1
    have HB9 := Lib.hid ((HB1.out.alloc (by omega) _).grown hgrow9 (by simp; omega) (fun g hg => by have := hown g hg; omega))
    have HO9 := Lib.hid hown9
    have HK := Lib.hid hlt
    clear hown9 hgrow9 hown hs hsb
    go_wp2_with fail
    go_roundw
    case rel => exact ⟨k + 1, HK.out, by have := HK.out; go_num, HO9.out, HB9.out⟩
    case measure => have := HK.out; simp [intOf]; omega
   ·have e : mvN ⟨xk, xa, xb, s0, s1, s2, s3, mn, mx, md, nn, f⟩ (n : Int) = ⟨xk, wrap64 (xa + (n : Int)), xb, s0, s1, s2, s3, mn, mx, md, nn, f⟩ := by unfold mvN; rw [if_neg (by show ¬ kidsZ xk = 2; omega), if_pos (by show kidsZ xk = 1; omega)]
    rw [e] at HN
    clear e
    have d0 : w1.cell? ⟨wr.heap.size, 0, none⟩ = some (.int .i64 xk) := (cell_of_row w1 _ 0 _ _ _ HX1.out).trans rfl
    have d1 := (cell_of_row w1 _ 1 _ _ _ HX1.out)
    have d2 := (cell_of_row w1 _ 2 _ _ _ HX1.out)
    go_wp2_with fail
    refine (rkids_any xk _).mono ?_
    rintro e wk1 ⟨rfl, rfl⟩
    rw [hk1]
    replace d1 : w1.cell? ⟨wr.heap.size, 1, none⟩ = some (.int .i64 xa) := d1.trans rfl
    clear d2
    go_wp2_with (first | (refine storeI53 rfl _ _ rfl wr.heap.size 1 ⟨xk, xa, xb, s0, s1, s2, s3, mn, mx, md, nn, f⟩ ⟨xk, wrap64 (xa + (n : Int)), xb, s0, s1, s2, s3, mn, mx, md, nn, f⟩ xa (wrap64 (xa + (n : Int))) rfl rfl HX1.out rfl rfl ?_; intro w2 hx2 hN2; refine stopP ?_))
    unfold StopP
    have HO2 := Lib.hid (own_but HO1.out hN2.out (fun e => by have := own_lt HO10.out _ e.symm; omega))
    have HO20 := HO10
    have HB2 := Lib.hid (HB1.out.trans (hN2.out.below (by have := HX1.out.lt; have := HBs.out; omega) HBs.out))
    have HX2 := Lib.hid hx2.out
    clear hx2 hN2 HO1 HB1 HX1 HO10
    clear d0 d1
    have d0 : w2.cell? ⟨wr.heap.size, 0, none⟩ = some (.int .i64 xk) := (cell_of_row w2 _ 0 _ _ _ HX2.out).trans rfl
    have d1 := (cell_of_row w2 _ 1 _ _ _ HX2.out)
    have d2 := (cell_of_row w2 _ 2 _ _ _ HX2.out)
    go_wp2_with fail
    refine (rkids_any xk _).mono ?_
    rintro e wk2 ⟨rfl, rfl⟩
    rw [hk1]
    clear d0 d1 d2
    have hs := HX2.out.lt
    have hsb := HBs.out
    go_wp2_with (first | (refine load53 rfl _ rfl wr.heap.size ⟨xk, wrap64 (xa + (n : Int)), xb, s0, s1, s2, s3, mn, mx, md, nn, f⟩ rfl HX2.out ?_) | (at_builtin; refine wpList_append_own _ rfl _ _ 28 rfl w.heap.size 65 i0 _ 12 96 Tryz.underlying28 HI.out.1 HI.out.2.1 HI.out.2.2.1 HI.out.2.2.2 rfl (by decide) _ _ _ rfl (HO2.out.alloc _) ⟨w2.heap.size, 0, none⟩ 1 1 (ndC ⟨xk, wrap64 (xa + (n : Int)), xb, s0, s1, s2, s3, mn, mx, md, nn, f⟩) rfl rfl (new_cells w2 _ ⟨xk, wrap64 (xa + (n : Int)), xb, s0, s1, s2, s3, mn, mx, md, nn, f⟩) (ndC_one _) (by unfold maxLen; omega) (by omega) (by simp; omega) ?_))
    intro v9 w9 hown9 hgrow9 _
    rw [← HN.out] at hown9
    have hown : ∀ g, v.ownBlock = some g → w.heap.size ≤ g := fun g hg => (HO2.out.lt g hg).1
    have HB9 := Lib.hid ((HB2.out.alloc (by omega) _).grown hgrow9 (by simp; omega) (fun g hg => by have := hown g hg; omega))
    have HO9 := Lib.hid hown9
    have HK := Lib.hid hlt
    clear hown9 hgrow9 hown hs hsb
    go_wp2_with fail
    go_roundw
    case rel => exact ⟨k + 1, HK.out, by have := HK.out; go_num, HO9.out, HB9.out⟩
    case measure => have := HK.out; simp [intOf]; omega
   ·have e : mvN ⟨xk, xa, xb, s0, s1, s2, s3, mn, mx, md, nn, f⟩ (n : Int) = ⟨xk, wrap64 (xa + (n : Int)), wrap64 (xb + (n : Int)), s0, s1, s2, s3, mn, mx, md, nn, f⟩ := by unfold mvN; rw [if_pos (by show kidsZ xk = 2; omega)]
    rw [e] at HN
    clear e
    have d0 : w1.cell? ⟨wr.heap.size, 0, none⟩ = some (.int .i64 xk) := (cell_of_row w1 _ 0 _ _ _ HX1.out).trans rfl
    have d1 := (cell_of_row w1 _ 1 _ _ _ HX1.out)
    have d2 := (cell_of_row w1 _ 2 _ _ _ HX1.out)
    go_wp2_with fail
    refine (rkids_any xk _).mono ?_
    rintro e wk1 ⟨rfl, rfl⟩
    rw [hk2]
    replace d1 : w1.cell? ⟨wr.heap.size, 1, none⟩ = some (.int .i64 xa) := d1.trans rfl
    clear d2
    go_wp2_with (first | (refine storeI53 rfl _ _ rfl wr.heap.size 1 ⟨xk, xa, xb, s0, s1, s2, s3, mn, mx, md, nn, f⟩ ⟨xk, wrap64 (xa + (n : Int)), xb, s0, s1, s2, s3, mn, mx, md, nn, f⟩ xa (wrap64 (xa + (n : Int))) rfl rfl HX1.out rfl rfl ?_; intro w2 hx2 hN2; refine stopP ?_))
    unfold StopP
    have HO2 := Lib.hid (own_but HO1.out hN2.out (fun e => by have := own_lt HO10.out _ e.symm; omega))
    have HO20 := HO10
    have HB2 := Lib.hid (HB1.out.trans (hN2.out.below (by have := HX1.out.lt; have := HBs.out; omega) HBs.out))
    have HX2 := Lib.hid hx2.out
    clear hx2 hN2 HO1 HB1 HX1 HO10
    clear d0 d1
    have d0 : w2.cell? ⟨wr.heap.size, 0, none⟩ = some (.int .i64 xk) := (cell_of_row w2 _ 0 _ _ _ HX2.out).trans rfl
    have d1 := (cell_of_row w2 _ 1 _ _ _ HX2.out)
    have d2 := (cell_of_row w2 _ 2 _ _ _ HX2.out)
    go_wp2_with fail
    refine (rkids_any xk _).mono ?_
    rintro e wk2 ⟨rfl, rfl⟩
    rw [hk2]
    replace d2 : w2.cell? ⟨wr.heap.size, 2, none⟩ = some (.int .i64 xb) := d2.trans rfl
    clear d1
    go_wp2_with (first | (refine storeI53 rfl _ _ rfl wr.heap.size 2 ⟨xk, wrap64 (xa + (n : Int)), xb, s0, s1, s2, s3, mn, mx, md, nn, f⟩ ⟨xk, wrap64 (xa + (n : Int)), wrap64 (xb + (n : Int)), s0, s1, s2, s3, mn, mx, md, nn, f⟩ xb (wrap64 (xb + (n : Int))) rfl rfl HX2.out rfl rfl ?_; intro w3 hx3 hN3; refine stopP ?_))
    unfold StopP
    have HO3 := Lib.hid (own_but HO2.out hN3.out (fun e => by have := own_lt HO20.out _ e.symm; omega))
    have HO30 := HO20
    have HB3 := Lib.hid (HB2.out.trans (hN3.out.below (by have := HX2.out.lt; have := HBs.out; omega) HBs.out))
    have HX3 := Lib.hid hx3.out
    clear hx3 hN3 HO2 HB2 HX2 HO20
    clear d0 d2
    have hs := HX3.out.lt
    have hsb := HBs.out
    go_wp2_with (first | (refine load53 rfl _ rfl wr.heap.size ⟨xk, wrap64 (xa + (n : Int)), wrap64 (xb + (n : Int)), s0, s1, s2, s3, mn, mx, md, nn, f⟩ rfl HX3.out ?_) | (at_builtin; refine wpList_append_own _ rfl _ _ 28 rfl w.heap.size 65 i0 _ 12 96 Tryz.underlying28 HI.out.1 HI.out.2.1 HI.out.2.2.1 HI.out.2.2.2 rfl (by decide) _ _ _ rfl (HO3.out.alloc _) ⟨w3.heap.size, 0, none⟩ 1 1 (ndC ⟨xk, wrap64 (xa + (n : Int)), wrap64 (xb + (n : Int)), s0, s1, s2, s3, mn, mx, md, nn, f⟩) rfl rfl (new_cells w3 _ ⟨xk, wrap64 (xa + (n : Int)), wrap64 (xb + (n : Int)), s0, s1, s2, s3, mn, mx, md, nn, f⟩) (ndC_one _) (by unfold maxLen; omega) (by omega) (by simp; omega) ?_))
    intro v9 w9 hown9 hgrow9 _
    rw [← HN.out] at hown9
    have hown : ∀ g, v.ownBlock = some g → w.heap.size ≤ g := fun g hg => (HO3.out.lt g hg).1
    have HB9 := Lib.hid ((HB3.out.alloc (by omega) _).grown hgrow9 (by simp; omega) (fun g hg => by have := hown g hg; omega))
    have HO9 := Lib.hid hown9
    have HK := Lib.hid hlt
    clear hown9 hgrow9 hown hs hsb
    go_wp2_with fail
    go_roundw
    case rel => exact ⟨k + 1, HK.out, by have := HK.out; go_num, HO9.out, HB9.out⟩
    case measure => have := HK.out; simp [intOf]; omega
  ·obtain rfl : m = k := by omega
   have hsb := HBs.out
   clear hown hb
   go_wp2_with (at_builtin; refine wpList_append_own _ rfl _ _ 28 rfl w.heap.size 65 i0 _ 12 96 Tryz.underlying28 HI.out.1 HI.out.2.1 HI.out.2.2.1 HI.out.2.2.2 rfl (by decide) _ _ _ rfl (HOr.out.alloc _) ⟨wr.heap.size, 0, none⟩ 1 1 (ndC ⟨kind, (n : Int) - 1, (n : Int) + m - 1, 0, 0, 0, 0, 0, 0, 0, 0, false⟩) rfl rfl (new_cells wr _ ⟨kind, (n : Int) - 1, (n : Int) + m - 1, 0, 0, 0, 0, 0, 0, 0, 0, false⟩) (ndC_one _) (by unfold maxLen; omega) (by omega) (by simp; omega) ?_)
   intro v9 w9 hown9 hgrow9 _
   rw [← HTop.out] at hown9
   have hown : ∀ g, v.ownBlock = some g → w.heap.size ≤ g := fun g hg => (HOr.out.lt g hg).1
   have HB9 := Lib.hid ((HBr.out.alloc (by omega) _).grown hgrow9 (by simp; omega) (fun g hg => by have := hown g hg; omega))
   have HO9 := Lib.hid hown9
   clear hown9 hgrow9 hown
   go_wp2_with fail
   go_ret
   exact made_of HO9.out (Nat.le_refl _) (by omega) HB9.out
set_option maxHeartbeats 2000000 in
theorem rleaf_any (k : Int) (w : World) : Calls Tryz.prog 82 #[.int .i64 k] w (Made (fun _ => nd0 k) 1 w) := by
 go_enter Tryz.func82, Tryz.ntmps82
 go_wp2_with fail
 go_ret
 have h := World.ownsRow_lit (base := w.heap.size) (e := 65) (size := 12) w (Go.Proofs.YtdnbpbngoiahlaaGreatDoor.ndC (nd0 k)) 1 (Nat.le_refl _) (by unfold maxLen; omega) rfl
 exact made_of (l := fun _ => nd0 k) (by simpa [cellsL_succ, cellsL_zero, ndC, nd0] using h) (Nat.le_refl _) (by decide) ((Below.refl _ w).alloc (Nat.le_refl _) _)
end Go.Proofs.YtdnbpbngoiahlaaGreatDoor.Ast
