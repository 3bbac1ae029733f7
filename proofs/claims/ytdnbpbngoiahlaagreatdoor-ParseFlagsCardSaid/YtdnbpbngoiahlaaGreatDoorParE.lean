/-
  ParMore, ParPlainM
-/
import Derived.Test.YtdnbpbngoiahlaaGreatDoorParA
import Derived.Test.YtdnbpbngoiahlaaGreatDoorAstI
import Derived.Test.YtdnbpbngoiahlaaGreatDoorLexJoinM
import Derived.Test.YtdnbpbngoiahlaaGreatDoorLexFewMath
namespace Go.Proofs.YtdnbpbngoiahlaaGreatDoor
open Ast (Nd joinL wrapL deepZ rightZ cntG)

/-- What a Quant behind a piece makes; what the end of an opening makes. -/
def endQ (t : Tr) (g : Nat) : List Tok → Rd
  | [] => .got t g []
  | x :: r => if x.k = 16 then shal (wrapT t (repN x)) g r else .got t g (x :: r)
def endW (t : Tr) (g : Nat) : List Tok → Rd
  | [] => .out
  | _ :: r => .got t g r
theorem altF_s (n : Nat) (f : ByteArray) (g : Nat) (l : List Tok) : altF (n + 1) f g l = (rowF n f g l).next fun t g l => altsF n f t g l := by rw [altF]
theorem altsF_s (n : Nat) (f : ByteArray) (t : Tr) (g : Nat) (l : List Tok) : altsF (n + 1) f t g l = if kindZ l = 6 then (rowF n f g l.tail).next fun u g l => (shal (joinT t u 9) g l).next fun t g l => altsF n f t g l else .got t g l := by rw [altsF]
theorem rowF_s (n : Nat) (f : ByteArray) (g : Nat) (l : List Tok) : rowF (n + 1) f g l = if kindZ l = 6 ∨ kindZ l = 15 then .got (leafT (nd0 0)) g l else (itemF n f g l).next fun t g l => itemsF n f t g l := by rw [rowF]
theorem itemsF_s (n : Nat) (f : ByteArray) (t : Tr) (g : Nat) (l : List Tok) : itemsF (n + 1) f t g l = if kindZ l = 6 ∨ kindZ l = 15 then .got t g l else (itemF n f g l).next fun u g l => (shal (joinT t u 8) g l).next fun t g l => itemsF n f t g l := by rw [itemsF]
theorem itemF_s (n : Nat) (f : ByteArray) (g : Nat) (l : List Tok) : itemF (n + 1) f g l = (pieceF n f g l).next endQ := by
  rw [itemF]
  congr 1
theorem withF_s (n : Nat) (f : ByteArray) (g : Nat) (l : List Tok) : withF (n + 1) f g l = (altF n f g l).next endW := by
  rw [withF]
  congr 1
theorem pieceF_0 (n : Nat) (f : ByteArray) (g : Nat) : pieceF n f g [] = .out := by cases n <;> rw [pieceF]
theorem pieceF_s (n : Nat) (f : ByteArray) (g : Nat) (t : Tok) (l : List Tok) : pieceF (n + 1) f g (t :: l) = if opens t.k = false then .got (leafT (leafN f t)) g l else if t.k = 8 ∨ t.k = 14 then withF n (f ++ t.f) g l else (withF n (f ++ t.f) (aroundG t.k g) l).next fun u g' l' => shal (wrapT u (aroundN t.k g)) g' l' := by rw [pieceF]
theorem next_more {r s : Rd} {f h : Tr → Nat → List Tok → Rd} (hr : r ≠ .out → s = r) (hf : ∀ t g l, f t g l ≠ .out → h t g l = f t g l) (ho : r.next f ≠ .out) : s.next h = r.next f := by
  cases r with
  | out => exact absurd rfl ho
  | deep => rw [hr (by intro h; cases h)]; rfl
  | got t g l => rw [hr (by intro h; cases h)]; exact hf t g l ho
theorem shal_no {t : Tr} {g : Nat} {l : List Tok} (h : 40 < deepZ t.2 t.1) (f : Tr → Nat → List Tok → Rd) : (shal t g l).next f = .deep := by unfold shal; rw [if_pos h]; rfl
theorem shal_yes {t : Tr} {g : Nat} {l : List Tok} (h : ¬ 40 < deepZ t.2 t.1) (f : Tr → Nat → List Tok → Rd) : (shal t g l).next f = f t g l := by unfold shal; rw [if_neg h]; rfl
theorem rd_more : ∀ n,
    (∀ f g l, altF n f g l ≠ .out → altF (n + 1) f g l = altF n f g l) ∧
    (∀ f t g l, altsF n f t g l ≠ .out → altsF (n + 1) f t g l = altsF n f t g l) ∧
    (∀ f g l, rowF n f g l ≠ .out → rowF (n + 1) f g l = rowF n f g l) ∧
    (∀ f t g l, itemsF n f t g l ≠ .out → itemsF (n + 1) f t g l = itemsF n f t g l) ∧
    (∀ f g l, itemF n f g l ≠ .out → itemF (n + 1) f g l = itemF n f g l) ∧
    (∀ f g l, pieceF n f g l ≠ .out → pieceF (n + 1) f g l = pieceF n f g l) ∧
    (∀ f g l, withF n f g l ≠ .out → withF (n + 1) f g l = withF n f g l) := by
  intro n
  induction n with
  | zero => exact ⟨fun f g l h => absurd (by rw [altF]) h, fun f t g l h => absurd (by rw [altsF]) h, fun f g l h => absurd (by rw [rowF]) h, fun f t g l h => absurd (by rw [itemsF]) h, fun f g l h => absurd (by rw [itemF]) h, fun f g l h => absurd (by rw [pieceF]) h, fun f g l h => absurd (by rw [withF]) h⟩
  | succ n ih =>
    obtain ⟨i1, i2, i3, i4, i5, i6, i7⟩ := ih
    refine ⟨?_, ?_, ?_, ?_, ?_, ?_, ?_⟩
    · intro f g l h
      rw [altF_s n] at h
      rw [altF_s (n + 1), altF_s n]
      exact next_more (i3 f g l) (fun t g l => i2 f t g l) h
    · intro f t g l h
      rw [altsF_s n] at h
      rw [altsF_s (n + 1), altsF_s n]
      by_cases hk : kindZ l = 6
      · rw [if_pos hk] at h
        rw [if_pos hk, if_pos hk]
        exact next_more (i3 f g l.tail) (fun u g l h2 => next_more (fun _ => rfl) (fun t g l => i2 f t g l) h2) h
      · rw [if_neg hk, if_neg hk]
    · intro f g l h
      rw [rowF_s n] at h
      rw [rowF_s (n + 1), rowF_s n]
      by_cases hk : kindZ l = 6 ∨ kindZ l = 15
      · rw [if_pos hk, if_pos hk]
      · rw [if_neg hk] at h
        rw [if_neg hk, if_neg hk]
        exact next_more (i5 f g l) (fun t g l => i4 f t g l) h
    · intro f t g l h
      rw [itemsF_s n] at h
      rw [itemsF_s (n + 1), itemsF_s n]
      by_cases hk : kindZ l = 6 ∨ kindZ l = 15
      · rw [if_pos hk, if_pos hk]
      · rw [if_neg hk] at h
        rw [if_neg hk, if_neg hk]
        exact next_more (i5 f g l) (fun u g l h2 => next_more (fun _ => rfl) (fun t g l => i4 f t g l) h2) h
    · intro f g l h
      rw [itemF_s n] at h
      rw [itemF_s (n + 1), itemF_s n]
      exact next_more (i6 f g l) (fun _ _ _ _ => rfl) h
    · intro f g l h
      cases l with
      | nil => exact absurd (pieceF_0 _ _ _) h
      | cons t l =>
        rw [pieceF_s n] at h
        rw [pieceF_s (n + 1), pieceF_s n]
        by_cases ho : opens t.k = false
        · rw [if_pos ho, if_pos ho]
        · rw [if_neg ho] at h
          rw [if_neg ho, if_neg ho]
          by_cases hk : t.k = 8 ∨ t.k = 14
          · rw [if_pos hk] at h
            rw [if_pos hk, if_pos hk]
            exact i7 _ _ _ h
          · rw [if_neg hk] at h
            rw [if_neg hk, if_neg hk]
            exact next_more (i7 _ _ _) (fun _ _ _ _ => rfl) h
    · intro f g l h
      rw [withF_s n] at h
      rw [withF_s (n + 1), withF_s n]
      exact next_more (i1 f g l) (fun _ _ _ _ => rfl) h
theorem alt_up {n : Nat} {f : ByteArray} {g : Nat} {l : List Tok} (h : altF n f g l ≠ .out) : ∀ d, altF (n + d) f g l = altF n f g l
  | 0 => rfl
  | d + 1 => by
    rw [← alt_up h d]
    exact (rd_more (n + d)).1 f g l (by rw [alt_up h d]; exact h)
theorem alt_le {n m : Nat} {f : ByteArray} {g : Nat} {l : List Tok} (h : altF n f g l ≠ .out) (hm : n ≤ m) : altF m f g l = altF n f g l := by
  have := alt_up h (m - n)
  rwa [show n + (m - n) = m by omega] at this

theorem kind_app {x : List Tok} (hx : kindZ x = 15) (l : List Tok) : kindZ (l ++ x) = kindZ l := by
  cases l with
  | nil => exact hx
  | cons t l => rfl
theorem shal_app {t u : Tr} {g c : Nat} {l k : List Tok} (x : List Tok) (h : shal t g l = .got u c k) : shal t g (l ++ x) = .got u c (k ++ x) := by
  unfold shal at h ⊢
  split at h
  · cases h
  · rename_i hd
    cases h
    rw [if_neg hd]
/-- What is read does not hang on what stands behind, if that is an end. -/
theorem rd_app {x : List Tok} (hx : kindZ x = 15) : ∀ n,
    (∀ f g l t g' l', altF n f g l = .got t g' l' → altF n f g (l ++ x) = .got t g' (l' ++ x)) ∧
    (∀ f t0 g l t g' l', altsF n f t0 g l = .got t g' l' → altsF n f t0 g (l ++ x) = .got t g' (l' ++ x)) ∧
    (∀ f g l t g' l', rowF n f g l = .got t g' l' → rowF n f g (l ++ x) = .got t g' (l' ++ x)) ∧
    (∀ f t0 g l t g' l', itemsF n f t0 g l = .got t g' l' → itemsF n f t0 g (l ++ x) = .got t g' (l' ++ x)) ∧
    (∀ f g l t g' l', itemF n f g l = .got t g' l' → itemF n f g (l ++ x) = .got t g' (l' ++ x)) ∧
    (∀ f g l t g' l', pieceF n f g l = .got t g' l' → pieceF n f g (l ++ x) = .got t g' (l' ++ x)) ∧
    (∀ f g l t g' l', withF n f g l = .got t g' l' → withF n f g (l ++ x) = .got t g' (l' ++ x)) := by
  intro n
  induction n with
  | zero => exact ⟨fun f g l t g' l' h => (by rw [altF] at h; cases h), fun f t0 g l t g' l' h => (by rw [altsF] at h; cases h), fun f g l t g' l' h => (by rw [rowF] at h; cases h), fun f t0 g l t g' l' h => (by rw [itemsF] at h; cases h), fun f g l t g' l' h => (by rw [itemF] at h; cases h), fun f g l t g' l' h => (by rw [pieceF] at h; cases h), fun f g l t g' l' h => (by rw [withF] at h; cases h)⟩
  | succ n ih =>
    obtain ⟨i1, i2, i3, i4, i5, i6, i7⟩ := ih
    refine ⟨?_, ?_, ?_, ?_, ?_, ?_, ?_⟩
    · intro f g l t g' l' h
      rw [altF_s] at h ⊢
      obtain ⟨t1, g1, l1, h1, h2⟩ := next_got h
      rw [i3 _ _ _ _ _ _ h1]
      exact i2 _ _ _ _ _ _ _ h2
    · intro f t0 g l t g' l' h
      rw [altsF_s] at h ⊢
      rw [kind_app hx]
      by_cases hk : kindZ l = 6
      · rw [if_pos hk] at h ⊢
        have ht : (l ++ x).tail = l.tail ++ x := by
          cases l with
          | nil => exact absurd hk (by decide)
          | cons y r => rfl
        obtain ⟨t1, g1, l1, h1, h2⟩ := next_got h
        obtain ⟨t2, g2, l2, h3, h4⟩ := next_got h2
        rw [ht, i3 _ _ _ _ _ _ h1]
        show (shal _ _ _).next _ = _
        rw [shal_app x h3]
        exact i2 _ _ _ _ _ _ _ h4
      · rw [if_neg hk] at h ⊢
        cases h
        rfl
    · intro f g l t g' l' h
      rw [rowF_s] at h ⊢
      rw [kind_app hx]
      by_cases hk : kindZ l = 6 ∨ kindZ l = 15
      · rw [if_pos hk] at h ⊢
        cases h
        rfl
      · rw [if_neg hk] at h ⊢
        obtain ⟨t1, g1, l1, h1, h2⟩ := next_got h
        rw [i5 _ _ _ _ _ _ h1]
        exact i4 _ _ _ _ _ _ _ h2
    · intro f t0 g l t g' l' h
      rw [itemsF_s] at h ⊢
      rw [kind_app hx]
      by_cases hk : kindZ l = 6 ∨ kindZ l = 15
      · rw [if_pos hk] at h ⊢
        cases h
        rfl
      · rw [if_neg hk] at h ⊢
        obtain ⟨t1, g1, l1, h1, h2⟩ := next_got h
        obtain ⟨t2, g2, l2, h3, h4⟩ := next_got h2
        rw [i5 _ _ _ _ _ _ h1]
        show (shal _ _ _).next _ = _
        rw [shal_app x h3]
        exact i4 _ _ _ _ _ _ _ h4
    · intro f g l t g' l' h
      rw [itemF_s] at h ⊢
      obtain ⟨t1, g1, l1, h1, h2⟩ := next_got h
      rw [i6 _ _ _ _ _ _ h1]
      show endQ t1 g1 (l1 ++ x) = _
      cases l1 with
      | nil =>
        cases h2
        cases x with
        | nil => rfl
        | cons y r =>
          have hy : y.k = 15 := hx
          show (if y.k = 16 then _ else _) = _
          rw [if_neg (by omega)]
          rfl
      | cons y r =>
        rw [endQ] at h2
        show (if y.k = 16 then _ else _) = _
        by_cases hy : y.k = 16
        · rw [if_pos hy] at h2 ⊢
          exact shal_app x h2
        · rw [if_neg hy] at h2 ⊢
          cases h2
          rfl
    · intro f g l t g' l' h
      cases l with
      | nil => rw [pieceF_0] at h; cases h
      | cons y r =>
        rw [pieceF_s] at h
        rw [List.cons_append, pieceF_s]
        by_cases ho : opens y.k = false
        · rw [if_pos ho] at h ⊢
          cases h
          rfl
        · rw [if_neg ho] at h ⊢
          by_cases hk : y.k = 8 ∨ y.k = 14
          · rw [if_pos hk] at h ⊢
            exact i7 _ _ _ _ _ _ h
          · rw [if_neg hk] at h ⊢
            obtain ⟨t1, g1, l1, h1, h2⟩ := next_got h
            rw [i7 _ _ _ _ _ _ h1]
            exact shal_app x h2
    · intro f g l t g' l' h
      rw [withF_s] at h ⊢
      obtain ⟨t1, g1, l1, h1, h2⟩ := next_got h
      rw [i1 _ _ _ _ _ _ h1]
      cases l1 with
      | nil => cases h2
      | cons y r =>
        cases h2
        rfl

/-- How many groups a tree has. -/
def cntT (t : Tr) : Nat := cntG t.2 t.1
theorem cnt_leaf (f : ByteArray) (t : Tok) : cntT (leafT (leafN f t)) = 0 := by
  have h : (leafN f t).k ≠ 11 := by
    unfold leafN
    (repeat' split) <;> simp [setN, nd0]
  show cntG (fun _ => leafN f t) 1 = 0
  simp [cntG, h]
theorem cnt_join (a b : Tr) (k : Int) (hk : k ≠ 11) : cntT (joinT a b k) = cntT a + cntT b := Ast.join_cnt a.2 b.2 a.1 b.1 k hk
theorem cnt_wrap (a : Tr) (x : Nd) : cntT (wrapT a x) = cntT a + if x.k = 11 then 1 else 0 := by
  show cntG (wrapL a.2 a.1 x) (a.1 + 1) = _
  rw [cntG, Ast.cnt_congr a.1 (l := a.2) fun i hi => by unfold wrapL; rw [if_pos hi], Ast.wrap_top]
  rfl
theorem cnt_rep (a : Tr) (x : Tok) : cntT (wrapT a (repN x)) = cntT a := by
  rw [cnt_wrap, if_neg (by simp [repN, nd0])]
  rfl
theorem cnt_around (a : Tr) (k : Int) (g : Nat) : aroundG k g + cntT a = g + cntT (wrapT a (aroundN k g)) := by
  rw [cnt_wrap]
  unfold aroundG aroundN
  by_cases h : 9 ≤ k ∧ k ≤ 13
  · rw [if_pos h, if_pos h, if_neg (show ¬ (nd0 (k + 4)).k = 11 by show ¬ k + 4 = 11; omega)]
    omega
  · rw [if_neg h, if_neg h]
    show g + 1 + cntT a = g + (cntT a + 1)
    omega
theorem shal_eq {t u : Tr} {g c : Nat} {l k : List Tok} (h : shal t g l = .got u c k) (c' : Nat) : shal t c' l = .got u c' k := by
  unfold shal at h ⊢
  split at h
  · cases h
  · rename_i hd
    cases h
    rw [if_neg hd]
/-- How many groups are read; where there are none it makes no difference how many stand ahead. -/
theorem rd_grp : ∀ n,
    (∀ f g l t g' l', altF n f g l = .got t g' l' → g' = g + cntT t ∧ (cntT t = 0 → ∀ c, altF n f c l = .got t c l')) ∧
    (∀ f t0 g l t g' l', altsF n f t0 g l = .got t g' l' → g' + cntT t0 = g + cntT t ∧ cntT t0 ≤ cntT t ∧ (cntT t = cntT t0 → ∀ c, altsF n f t0 c l = .got t c l')) ∧
    (∀ f g l t g' l', rowF n f g l = .got t g' l' → g' = g + cntT t ∧ (cntT t = 0 → ∀ c, rowF n f c l = .got t c l')) ∧
    (∀ f t0 g l t g' l', itemsF n f t0 g l = .got t g' l' → g' + cntT t0 = g + cntT t ∧ cntT t0 ≤ cntT t ∧ (cntT t = cntT t0 → ∀ c, itemsF n f t0 c l = .got t c l')) ∧
    (∀ f g l t g' l', itemF n f g l = .got t g' l' → g' = g + cntT t ∧ (cntT t = 0 → ∀ c, itemF n f c l = .got t c l')) ∧
    (∀ f g l t g' l', pieceF n f g l = .got t g' l' → g' = g + cntT t ∧ (cntT t = 0 → ∀ c, pieceF n f c l = .got t c l')) ∧
    (∀ f g l t g' l', withF n f g l = .got t g' l' → g' = g + cntT t ∧ (cntT t = 0 → ∀ c, withF n f c l = .got t c l')) := by
  intro n
  induction n with
  | zero => exact ⟨fun f g l t g' l' h => (by rw [altF] at h; cases h), fun f t0 g l t g' l' h => (by rw [altsF] at h; cases h), fun f g l t g' l' h => (by rw [rowF] at h; cases h), fun f t0 g l t g' l' h => (by rw [itemsF] at h; cases h), fun f g l t g' l' h => (by rw [itemF] at h; cases h), fun f g l t g' l' h => (by rw [pieceF] at h; cases h), fun f g l t g' l' h => (by rw [withF] at h; cases h)⟩
  | succ n ih =>
    obtain ⟨i1, i2, i3, i4, i5, i6, i7⟩ := ih
    have R := rd_part n
    refine ⟨?_, ?_, ?_, ?_, ?_, ?_, ?_⟩
    · intro f g l t g' l' h
      rw [altF_s] at h
      obtain ⟨t1, g1, l1, h1, h2⟩ := next_got h
      obtain ⟨e1, c1⟩ := i3 _ _ _ _ _ _ h1
      obtain ⟨e2, hm, c2⟩ := i2 _ _ _ _ _ _ _ h2
      refine ⟨by omega, fun h0 c => ?_⟩
      rw [altF_s, c1 (by omega) c]
      exact c2 (by omega) c
    · intro f t0 g l t g' l' h
      rw [altsF_s] at h
      by_cases hk : kindZ l = 6
      · rw [if_pos hk] at h
        obtain ⟨t1, g1, l1, h1, h2⟩ := next_got h
        obtain ⟨t2, g2, l2, h3, h4⟩ := next_got h2
        obtain ⟨e1, c1⟩ := i3 _ _ _ _ _ _ h1
        obtain ⟨e2, hm, c2⟩ := i2 _ _ _ _ _ _ _ h4
        have h5 := shal_eq h3
        obtain ⟨rfl, rfl, rfl⟩ := shal_got h3
        rw [cnt_join _ _ _ (by decide)] at e2 c2 hm
        refine ⟨by omega, by omega, fun h0 c => ?_⟩
        rw [altsF_s, if_pos hk, c1 (by omega) c]
        show (shal _ _ _).next _ = _
        rw [h5 c]
        exact c2 (by omega) c
      · rw [if_neg hk] at h
        cases h
        exact ⟨rfl, Nat.le_refl _, fun _ c => by rw [altsF_s, if_neg hk]⟩
    · intro f g l t g' l' h
      rw [rowF_s] at h
      by_cases hk : kindZ l = 6 ∨ kindZ l = 15
      · rw [if_pos hk] at h
        cases h
        exact ⟨rfl, fun _ c => by rw [rowF_s, if_pos hk]⟩
      · rw [if_neg hk] at h
        obtain ⟨t1, g1, l1, h1, h2⟩ := next_got h
        obtain ⟨e1, c1⟩ := i5 _ _ _ _ _ _ h1
        obtain ⟨e2, hm, c2⟩ := i4 _ _ _ _ _ _ _ h2
        refine ⟨by omega, fun h0 c => ?_⟩
        rw [rowF_s, if_neg hk, c1 (by omega) c]
        exact c2 (by omega) c
    · intro f t0 g l t g' l' h
      rw [itemsF_s] at h
      by_cases hk : kindZ l = 6 ∨ kindZ l = 15
      · rw [if_pos hk] at h
        cases h
        exact ⟨rfl, Nat.le_refl _, fun _ c => by rw [itemsF_s, if_pos hk]⟩
      · rw [if_neg hk] at h
        obtain ⟨t1, g1, l1, h1, h2⟩ := next_got h
        obtain ⟨t2, g2, l2, h3, h4⟩ := next_got h2
        obtain ⟨e1, c1⟩ := i5 _ _ _ _ _ _ h1
        obtain ⟨e2, hm, c2⟩ := i4 _ _ _ _ _ _ _ h4
        have h5 := shal_eq h3
        obtain ⟨rfl, rfl, rfl⟩ := shal_got h3
        rw [cnt_join _ _ _ (by decide)] at e2 c2 hm
        refine ⟨by omega, by omega, fun h0 c => ?_⟩
        rw [itemsF_s, if_neg hk, c1 (by omega) c]
        show (shal _ _ _).next _ = _
        rw [h5 c]
        exact c2 (by omega) c
    · intro f g l t g' l' h
      rw [itemF_s] at h
      obtain ⟨t1, g1, l1, h1, h2⟩ := next_got h
      obtain ⟨e1, c1⟩ := i6 _ _ _ _ _ _ h1
      cases l1 with
      | nil =>
        cases h2
        exact ⟨e1, fun h0 c => by rw [itemF_s, c1 h0 c]; rfl⟩
      | cons y r =>
        rw [endQ] at h2
        by_cases hy : y.k = 16
        · rw [if_pos hy] at h2
          have h5 := shal_eq h2
          obtain ⟨rfl, rfl, rfl⟩ := shal_got h2
          rw [cnt_rep]
          refine ⟨e1, fun h0 c => ?_⟩
          rw [itemF_s, c1 h0 c]
          show (if y.k = 16 then _ else _) = _
          rw [if_pos hy, h5 c]
        · rw [if_neg hy] at h2
          cases h2
          refine ⟨e1, fun h0 c => ?_⟩
          rw [itemF_s, c1 h0 c]
          show (if y.k = 16 then _ else _) = _
          rw [if_neg hy]
    · intro f g l t g' l' h
      cases l with
      | nil => rw [pieceF_0] at h; cases h
      | cons y r =>
        rw [pieceF_s] at h
        by_cases ho : opens y.k = false
        · rw [if_pos ho] at h
          cases h
          rw [cnt_leaf]
          exact ⟨rfl, fun _ c => by rw [pieceF_s, if_pos ho]⟩
        · rw [if_neg ho] at h
          by_cases hk : y.k = 8 ∨ y.k = 14
          · rw [if_pos hk] at h
            obtain ⟨e1, c1⟩ := i7 _ _ _ _ _ _ h
            exact ⟨e1, fun h0 c => by rw [pieceF_s, if_neg ho, if_pos hk, c1 h0 c]⟩
          · rw [if_neg hk] at h
            obtain ⟨t1, g1, l1, h1, h2⟩ := next_got h
            obtain ⟨e1, c1⟩ := i7 _ _ _ _ _ _ h1
            have h5 := shal_eq h2
            obtain ⟨rfl, rfl, rfl⟩ := shal_got h2
            have e2 := cnt_around t1 y.k g
            refine ⟨by omega, fun h0 c => ?_⟩
            have e3 := cnt_wrap t1 (aroundN y.k g)
            have h9 : 9 ≤ y.k ∧ y.k ≤ 13 := by
              by_cases h9 : 9 ≤ y.k ∧ y.k ≤ 13
              · exact h9
              · rw [show (aroundN y.k g).k = 11 by unfold aroundN; rw [if_neg h9]; rfl, if_pos rfl] at e3
                omega
            rw [pieceF_s, if_neg ho, if_neg hk, c1 (by omega) (aroundG y.k c)]
            show shal _ _ _ = _
            rw [show aroundG y.k c = c by unfold aroundG; rw [if_pos h9], show aroundN y.k c = aroundN y.k g by unfold aroundN; rw [if_pos h9, if_pos h9]]
            exact h5 c
    · intro f g l t g' l' h
      rw [withF_s] at h
      obtain ⟨t1, g1, l1, h1, h2⟩ := next_got h
      obtain ⟨e1, c1⟩ := i1 _ _ _ _ _ _ h1
      cases l1 with
      | nil => cases h2
      | cons y r =>
        cases h2
        exact ⟨e1, fun h0 c => by rw [withF_s, c1 h0 c]; rfl⟩
end Go.Proofs.YtdnbpbngoiahlaaGreatDoor

namespace Go.Proofs.YtdnbpbngoiahlaaGreatDoor
open Ast (Nd joinL wrapL deepZ rightZ cntG backB behB groupsB siz dep)

theorem lexF_pre {p : ByteArray} : ∀ (f i : Nat) (l b : List Tok), lexF p f i l = (b, 0) → ∃ r, b = l ++ r
  | 0, _, l, b, h => by cases h; exact ⟨[], (List.append_nil l).symm⟩
  | f + 1, i, l, b, h => by
    rw [lexF] at h
    split at h
    · cases h; exact ⟨[], (List.append_nil l).symm⟩
    · split at h
      · rename_i he
        exact absurd (congrArg Prod.snd h) he
      · obtain ⟨r, hr⟩ := lexF_pre f _ _ b h
        exact ⟨_ :: r, by rw [hr, List.append_assoc]; rfl⟩
theorem mode_k (p : ByteArray) (x : TokR) : (modeZ p x).1.k = x.1.k := by
  unfold modeZ
  split
  · rfl
  · split <;> rfl
theorem first_16 {p : ByteArray} {l : List Tok} (h : lexZ p = (l, 0)) (hq : bt p 0 = 63 ∨ bt p 0 = 43) : kindZ l = 16 := by
  have hs : 0 < p.size := bt_in (by omega)
  unfold lexZ at h
  split at h
  · cases h
  · rw [lexF, if_neg (by omega)] at h
    split at h
    · rename_i he
      exact absurd (congrArg Prod.snd h) he
    · obtain ⟨r, rfl⟩ := lexF_pre _ _ _ _ h
      rw [List.nil_append]
      show (tokZ p 0).1.k = 16
      rw [tok_quant (by omega)]
      unfold quantZ
      rw [if_neg (by omega), mode_k]
      rfl
/-- What a pattern that is parsed has come through. -/
structure Parsed (p : ByteArray) (t : Tr) (l : List Tok) (g : Nat) : Prop where
  lex : lexZ p = (l, 0)
  scan : scanF l 0 false = true
  alt : altF (6 * l.length + 6) ByteArray.empty 0 l = .got t g []
  right : rightZ t.2 t.1 = 0
theorem alt_end {n : Nat} {f : ByteArray} {g g' : Nat} {l l' : List Tok} {t : Tr} (hs : scanF l 0 false = true) (hn : 6 * l.length + 5 ≤ n) (h : altF n f g l = .got t g' l') : l' = [] := by
  obtain ⟨h1, h2⟩ := ((rd_good n).1 f g l 0 hs hn).2 t g' l' h
  cases l' with
  | nil => rfl
  | cons x r =>
    rw [scanF, if_pos (.inr ⟨h2, rfl⟩)] at h1
    cases h1
theorem parsed {p : ByteArray} (h : (parseZ p).2 = 0) : ∃ l g, Parsed p (parseZ p).1 l g := by
  by_cases he : (lexZ p).2 = 0
  · have hx : parseZ p = treeZ (lexZ p).1 := by unfold parseZ; rw [if_neg (by simp [he])]
    refine ⟨(lexZ p).1, ?_⟩
    rw [hx] at h ⊢
    have hl : lexZ p = ((lexZ p).1, 0) := by rw [← he]
    generalize (lexZ p).1 = l at h hl ⊢
    unfold treeZ at h ⊢
    by_cases hs : scanF l 0 false = false
    · rw [if_pos hs] at h
      cases h
    · have hs' : scanF l 0 false = true := by simpa using hs
      rw [if_neg hs] at h ⊢
      cases ha : altF (6 * l.length + 6) ByteArray.empty 0 l with
      | out => rw [ha] at h; cases h
      | deep => rw [ha] at h; cases h
      | got t g l' =>
        rw [ha] at h
        obtain rfl := alt_end hs' (by omega) ha
        simp only [] at h ⊢
        by_cases hr : rightZ t.2 t.1 = 0
        · rw [if_pos hr]
          exact ⟨g, hl, hs', ha, hr⟩
        · rw [if_neg hr] at h
          exact absurd h hr
  · unfold parseZ at h
    rw [if_pos (by simpa using he)] at h
    exact absurd h he
theorem parsed_of {p : ByteArray} {t : Tr} {l l' : List Tok} {g n : Nat} (hl : lexZ p = (l, 0)) (hs : scanF l 0 false = true) (ha : altF n ByteArray.empty 0 l = .got t g l') (hr : rightZ t.2 t.1 = 0) : parseZ p = (t, 0) := by
  have h1 := alt_in hs ByteArray.empty 0
  have e1 := alt_le h1 (Nat.le_max_left _ n)
  have e2 := alt_le (n := n) (m := max (6 * l.length + 6) n) (f := ByteArray.empty) (g := 0) (l := l) (by rw [ha]; intro h; cases h) (Nat.le_max_right _ n)
  have e3 : altF (6 * l.length + 6) ByteArray.empty 0 l = .got t g l' := by rw [← e1, e2, ha]
  unfold parseZ
  rw [hl]
  show (if (0 : Int) ≠ 0 then _ else treeZ l) = _
  rw [if_neg (by decide)]
  unfold treeZ
  rw [if_neg (by rw [hs]; decide), e3]
  show (if rightZ t.2 t.1 = 0 then _ else _) = _
  rw [if_pos hr]
theorem scan_app (x : List Tok) (d : Nat) : ∀ (l : List Tok) (o : Nat) (b : Bool), scanF l o b = true → ∃ b', scanF (l ++ x) (o + d) b = scanF x d b'
  | [], o, b, h => ⟨b, by
    obtain rfl : o = 0 := by simpa [scanF] using h
    rw [List.nil_append, Nat.zero_add]⟩
  | t :: l, o, b, h => by
    rw [scanF] at h
    split at h
    · cases h
    · rename_i hn
      rw [List.cons_append, scanF, if_neg (fun hc => hn (hc.imp id fun h => ⟨h.1, by omega⟩))]
      by_cases ho : opens t.k = true
      · rw [if_pos ho] at h ⊢
        obtain ⟨b', h'⟩ := scan_app x d l _ _ h
        exact ⟨b', by rw [← h']; congr 1; omega⟩
      · rw [if_neg ho] at h ⊢
        by_cases h15 : t.k = 15
        · rw [if_pos h15] at h ⊢
          obtain ⟨b', h'⟩ := scan_app x d l _ _ h
          have h0 : o ≠ 0 := fun h0 => hn (.inr ⟨h15, h0⟩)
          exact ⟨b', by rw [← h']; congr 1; omega⟩
        · rw [if_neg h15] at h ⊢
          exact scan_app x d l _ _ h
theorem scan_wrap {x : Tok} {l y : List Tok} (hx : opens x.k = true) (hl : scanF l 0 false = true) : scanF (x :: (l ++ tok0 15 :: y)) 0 false = scanF y 0 true := by
  rw [scanF, if_neg (by rintro (⟨h, -⟩ | ⟨h, -⟩) <;> (rw [h] at hx; exact absurd hx (by decide))), if_pos hx]
  obtain ⟨b', h⟩ := scan_app (tok0 15 :: y) 1 l 0 false hl
  rw [h, scanF, if_neg (by simp [tok0]), if_neg (by decide), if_pos (show (tok0 15).k = 15 from rfl)]

theorem alt_lift {n m : Nat} {f : ByteArray} {g g' : Nat} {l l' : List Tok} {t : Tr} (h : altF n f g l = .got t g' l') (hm : n ≤ m) : altF m f g l = .got t g' l' := by
  rw [alt_le (by rw [h]; intro h; cases h) hm, h]
theorem item_plain {n m : Nat} {f : ByteArray} {g g' : Nat} {l y : List Tok} {t : Tr} {x : Tok} (ho : opens x.k = true) (h8 : x.k = 8 ∨ x.k = 14) (h : altF n (f ++ x.f) g l = .got t g' []) (hm : n + 3 ≤ m) (hy : kindZ y ≠ 16) :
    itemF m f g (x :: (l ++ tok0 15 :: y)) = .got t g' y := by
  obtain ⟨d, rfl⟩ : ∃ d, m = d + 3 := ⟨m - 3, by omega⟩
  rw [itemF_s, pieceF_s, if_neg (by rw [ho]; decide), if_pos h8, withF_s, (rd_app (x := tok0 15 :: y) rfl d).1 _ _ _ _ _ _ (alt_lift h (by omega))]
  show endQ t g' y = _
  cases y with
  | nil => rfl
  | cons z r =>
    rw [endQ, if_neg (show ¬ z.k = 16 from hy)]
theorem row_one {n m : Nat} {f : ByteArray} {g g' : Nat} {l y : List Tok} {t : Tr} (hk : ¬ (kindZ l = 6 ∨ kindZ l = 15)) (hy : kindZ y = 6 ∨ kindZ y = 15) (h : itemF (n + 1) f g l = .got t g' y) (hm : m = n + 2) : rowF m f g l = .got t g' y := by
  subst hm
  rw [rowF_s, if_neg hk, h]
  show itemsF (n + 1) f t g' y = _
  rw [itemsF_s, if_pos hy]
theorem alt_one {n m : Nat} {f : ByteArray} {g g' : Nat} {l y : List Tok} {t : Tr} (hy : kindZ y ≠ 6) (h : rowF (n + 1) f g l = .got t g' y) (hm : m = n + 2) : altF m f g l = .got t g' y := by
  subst hm
  rw [altF_s, h]
  show altsF (n + 1) f t g' y = _
  rw [altsF_s, if_neg hy]
theorem opens_kind {x : Tok} {l : List Tok} (h : opens x.k = true) : ¬ (kindZ (x :: l) = 6 ∨ kindZ (x :: l) = 15) := by
  intro hk
  have : x.k = 6 ∨ x.k = 15 := hk
  rcases this with e | e <;> (rw [e] at h; exact absurd h (by decide))

abbrev pre7 : ByteArray := ⟨#[40, 63, 58]⟩
abbrev grp7 : ByteArray := ⟨#[40]⟩
abbrev post7 : ByteArray := ⟨#[41]⟩
abbrev midA7 : ByteArray := ⟨#[41, 124, 40, 63, 58]⟩
abbrev midC7 : ByteArray := ⟨#[41, 40, 63, 58]⟩
theorem lex_pre7 : lexZ pre7 = ([tok0 8], 0) := by kernel_rfl
theorem lex_grp7 : lexZ grp7 = ([tok0 7], 0) := by kernel_rfl
theorem lex_post7 : lexZ post7 = ([tok0 15], 0) := by kernel_rfl
theorem lex_midA7 : lexZ midA7 = ([tok0 15, tok0 6, tok0 8], 0) := by kernel_rfl
theorem lex_midC7 : lexZ midC7 = ([tok0 15, tok0 8], 0) := by kernel_rfl
theorem no_quant {p : ByteArray} {t : Tr} {l : List Tok} {g : Nat} (h : Parsed p t l g) : bt p 0 ≠ 63 ∧ bt p 0 ≠ 43 :=
  ⟨fun e => scan_head h.scan (first_16 h.lex (.inl e)), fun e => scan_head h.scan (first_16 h.lex (.inr e))⟩
theorem lex_in {a p : ByteArray} {x : List Tok} {t : Tr} {l : List Tok} {g : Nat} (ha : lexZ a = (x, 0)) (h : Parsed p t l g) (hs : a.size + p.size ≤ 1000) : lexZ (a ++ p) = (x ++ l, 0) :=
  lex_join a p x l hs (no_quant h).1 (no_quant h).2 ha h.lex
theorem lex_wrap {a p : ByteArray} {x : List Tok} {t : Tr} {l : List Tok} {g : Nat} (ha : lexZ a = (x, 0)) (h : Parsed p t l g) (hs : a.size + p.size ≤ 900) : lexZ (a ++ p ++ post7) = (x ++ l ++ [tok0 15], 0) :=
  lex_join (a ++ p) post7 (x ++ l) [tok0 15] (by rw [ByteArray.size_append]; show _ + 1 ≤ _; omega) (by decide) (by decide) (lex_in ha h (by omega)) lex_post7
theorem emp_app (f : ByteArray) : ByteArray.empty ++ f = f := ByteArray.empty_append
theorem app_emp (f : ByteArray) : f ++ ByteArray.empty = f := ByteArray.append_empty
/-- Within (?: and ) a pattern has the same tree. -/
theorem plain_z {p : ByteArray} (h : (parseZ p).2 = 0) (hs : p.size ≤ 800) : parseZ (pre7 ++ p ++ post7) = ((parseZ p).1, 0) := by
  obtain ⟨l, g, H⟩ := parsed h
  generalize (parseZ p).1 = t at H ⊢
  have hl := lex_wrap lex_pre7 H (by show 3 + _ ≤ _; omega)
  have hl2 : lexZ (pre7 ++ p ++ post7) = (tok0 8 :: (l ++ [tok0 15]), 0) := hl
  have hi := item_plain (x := tok0 8) (y := []) (f := ByteArray.empty) (m := 6 * l.length + 9) rfl (.inl rfl) (by rw [show (tok0 8).f = ByteArray.empty from rfl, emp_app]; exact H.alt) (by omega) (by decide)
  refine parsed_of hl2 ((scan_wrap rfl H.scan).trans rfl) (alt_one (by decide) (row_one (opens_kind rfl) (.inr rfl) hi rfl) rfl) H.right
theorem right_whole {l : Nat → Nd} {n : Nat} (h : rightZ l n = 0) : 0 < n ∧ siz l n = n ∧ dep l n = deepZ l n ∧ Ast.shapeZ l n = 0 ∧ n ≤ 500 := by
  obtain ⟨e0, e1, h1, z1⟩ := Ast.deep_form (Ast.right_deep h)
  refine ⟨h1, z1, e1, (Ast.right_0 h).1, ?_⟩
  unfold Ast.formZ at e0
  split at e0
  · cases e0
  · omega
abbrev grpN (n : Int) : Nd := { nd0 11 with n := n }
theorem back_more {l : Nat → Nd} {a b : Nat} (hab : a ≤ b) : ∀ n, backB l a n = true → backB l b n = true
  | 0, _ => rfl
  | n + 1, h => by
    rw [backB, Bool.and_eq_true] at h ⊢
    refine ⟨back_more hab n h.1, ?_⟩
    have h2 := h.2
    split at h2
    · rename_i hk
      rw [if_pos hk]
      simp only [decide_eq_true_eq] at h2 ⊢
      omega
    · rename_i hk
      rw [if_neg hk]
/-- A tree without groups, with the first one around. -/
theorem right_group {t : Tr} (h : rightZ t.2 t.1 = 0) (hg : cntT t = 0) (hd : deepZ t.2 t.1 < 40) (hn : t.1 < 500) : rightZ (wrapT t (grpN 1)).2 (wrapT t (grpN 1)).1 = 0 ∧ deepZ (wrapT t (grpN 1)).2 (wrapT t (grpN 1)).1 = 1 + deepZ t.2 t.1 := by
  obtain ⟨n, l⟩ := t
  obtain ⟨h1, z1, d1, -, -⟩ := right_whole h
  obtain ⟨-, g1, b1⟩ := Ast.right_0 h
  simp only [] at *
  have hk : Ast.kidsZ (grpN 1).k = 1 := by decide
  have hf : Ast.fitsB (grpN 1) = true := by decide
  obtain ⟨w1, w2⟩ := Ast.wrap_in hk hf h1 z1
  have wd := Ast.wrap_dep (x := grpN 1) hk h1 z1
  have hdz : deepZ (wrapL l n (grpN 1)) (n + 1) = 1 + deepZ l n := by rw [Ast.form_of w2 (by omega) (by omega), wd, d1]
  refine ⟨?_, hdz⟩
  have hg0 : cntG l n = 0 := hg
  have ht := Ast.wrap_top l n (grpN 1)
  have hgr : Ast.grp (wrapL l n (grpN 1)) (n + 1) = [n] := by
    have hk1 : Ast.kidsZ (wrapL l n (grpN 1) n).k = 1 := by rw [ht]; exact hk
    rw [Ast.grp_succ, if_neg (by omega), if_pos hk1, if_pos (by rw [ht]; rfl)]
    rw [Ast.grp_none (l := wrapL l n (grpN 1)) (n := n) (fun i hi => by unfold wrapL; rw [if_pos hi]; exact Ast.cnt_zero hg0 i hi) n (Nat.le_refl _)]
  have hb1 := Ast.back_shift (l := l) (l' := wrapL l n (grpN 1)) (c := 0) (mm := 1) n fun i hi => by rw [Nat.zero_add]; unfold wrapL; rw [if_pos hi]; exact ⟨rfl, rfl⟩
  have hbh := Ast.beh_shift (Ast.sh_wrap l n (grpN 1)) (fun i hi => Ast.siz_of_whole z1 hi) n (Nat.le_refl _)
  rw [Nat.zero_add] at hb1 hbh
  show rightZ (wrapL l n (grpN 1)) (n + 1) = 0
  refine Ast.right_of (Ast.shape_of w2 (by omega) (by omega) (by rw [wd, d1]; omega)) ?_ ?_
  · unfold Ast.groupsB
    rw [hgr]
    rw [Ast.groups_none hg0] at g1
    have hb2 := back_more (Nat.zero_le 1) n g1
    show (Ast.numB _ [n] 1 && backB _ 1 (n + 1) && decide (1 ≤ 9)) = true
    rw [backB, hb1, hb2, ht]
    simp [Ast.numB, backB, ht, nd0]
  · show behB (wrapL l n (grpN 1)) (n + 1) = true
    rw [behB, hbh, b1, ht]
    simp [behB, nd0]
theorem join_back' (la lb : Nat → Nd) (m k mm : Nat) (kind : Int) (h12 : kind ≠ 12) : backB (joinL la m lb k kind) mm (m + k + 1) = (backB la mm m && backB lb mm k) := by
  have h1 := Ast.back_shift (l := la) (l' := joinL la m lb k kind) (c := 0) (mm := mm) m fun i hi => by rw [Nat.zero_add, Ast.join_a la m lb k kind hi]; exact ⟨rfl, rfl⟩
  rw [Nat.zero_add] at h1
  rw [backB, Ast.back_shift (l := lb) k fun i hi => by rw [Ast.join_b la m lb k kind hi]; exact ⟨Ast.mvN_k _ _, Ast.mvN_n _ _⟩, h1, Ast.join_top]
  simp [backB, h12]
theorem join_beh' {la lb : Nat → Nd} {m k : Nat} {kind : Int} (h15 : kind ≠ 15) (h16 : kind ≠ 16) (hm : m ≤ 1000) (hk : k ≤ 1000) (ha : siz la m = m) (hb : siz lb k = k) : behB (joinL la m lb k kind) (m + k + 1) = (behB la m && behB lb k) := by
  have h1 := Ast.beh_shift (Ast.sh_join_a la lb m k kind) (fun i hi => Ast.siz_of_whole ha hi) m (Nat.le_refl _)
  rw [Nat.zero_add] at h1
  rw [behB, Ast.beh_shift (Ast.sh_join_b la lb m k kind (by omega) (by omega)) (fun i hi => Ast.siz_of_whole hb hi) k (Nat.le_refl _), h1, Ast.join_top]
  simp [behB, h15, h16]
/-- Two trees without groups, joined. -/
theorem right_join {t u : Tr} {k : Int} (hk : k = 8 ∨ k = 9) (ht : rightZ t.2 t.1 = 0) (hu : rightZ u.2 u.1 = 0) (hg : cntT t + cntT u = 0) (hd : deepZ t.2 t.1 < 40) (hd' : deepZ u.2 u.1 < 40) (hn : t.1 + u.1 < 500) :
    rightZ (joinT t u k).2 (joinT t u k).1 = 0 ∧ deepZ (joinT t u k).2 (joinT t u k).1 = 1 + max (deepZ t.2 t.1) (deepZ u.2 u.1) := by
  obtain ⟨m, la⟩ := t
  obtain ⟨n, lb⟩ := u
  obtain ⟨h1, z1, d1, -, -⟩ := right_whole ht
  obtain ⟨h2, z2, d2, -, -⟩ := right_whole hu
  obtain ⟨-, g1, b1⟩ := Ast.right_0 ht
  obtain ⟨-, g2, b2⟩ := Ast.right_0 hu
  simp only [] at *
  have hga : cntG la m = 0 := by have : cntG la m + cntG lb n = 0 := hg; omega
  have hgb : cntG lb n = 0 := by have : cntG la m + cntG lb n = 0 := hg; omega
  have j3 := (Ast.join_in hk (by omega) (by omega) h1 h2 z1 z2).2.2
  have jd := Ast.join_dep hk (by omega) (by omega) h1 h2 z1 z2
  have hdz : deepZ (joinL la m lb n k) (m + n + 1) = 1 + max (deepZ la m) (deepZ lb n) := by rw [Ast.form_of j3 (by omega) (by omega), jd, d1, d2]
  refine ⟨?_, hdz⟩
  show rightZ (joinL la m lb n k) (m + n + 1) = 0
  refine Ast.right_of (Ast.shape_of j3 (by omega) (by omega) (by rw [jd, d1, d2]; omega)) ?_ ?_
  · show groupsB (joinL la m lb n k) (m + n + 1) = true
    rw [Ast.groups_none (by rw [Ast.join_cnt _ _ _ _ _ (by omega)]; omega), join_back' _ _ _ _ _ _ (by omega)]
    rw [Ast.groups_none hga] at g1
    rw [Ast.groups_none hgb] at g2
    rw [g1, g2]
    rfl
  · show behB (joinL la m lb n k) (m + n + 1) = true
    rw [join_beh' (by omega) (by omega) (by omega) (by omega) z1 z2, b1, b2]
    rfl
/-- Within ( and ) a pattern without groups has one around. -/
theorem group_z {p : ByteArray} (h : (parseZ p).2 = 0) (hs : p.size ≤ 800) (hg : cntT (parseZ p).1 = 0) (hd : deepZ (parseZ p).1.2 (parseZ p).1.1 < 40) (hn : (parseZ p).1.1 < 500) : parseZ (grp7 ++ p ++ post7) = (wrapT (parseZ p).1 (grpN 1), 0) := by
  obtain ⟨l, g, H⟩ := parsed h
  generalize (parseZ p).1 = t at H hg hd hn ⊢
  have hl := lex_wrap lex_grp7 H (by show 1 + _ ≤ _; omega)
  have hl2 : lexZ (grp7 ++ p ++ post7) = (tok0 7 :: (l ++ [tok0 15]), 0) := hl
  obtain ⟨r1, r2⟩ := right_group H.right hg hd hn
  have ha := ((rd_grp _).1 _ _ _ _ _ _ H.alt).2 hg 1
  have hi : itemF (6 * l.length + 9) ByteArray.empty 0 (tok0 7 :: (l ++ [tok0 15])) = .got (wrapT t (grpN 1)) 1 [] := by
    rw [itemF_s, pieceF_s, if_neg (by decide), if_neg (by decide), withF_s, show ByteArray.empty ++ (tok0 7).f = ByteArray.empty from emp_app _, show aroundG (tok0 7).k 0 = 1 from rfl, (rd_app (x := [tok0 15]) rfl _).1 _ _ _ _ _ _ ha]
    show (shal (wrapT t (aroundN 7 0)) 1 []).next endQ = _
    rw [show aroundN 7 0 = grpN 1 from rfl, shal_yes (by rw [r2]; omega)]
    rfl
  exact parsed_of hl2 ((scan_wrap rfl H.scan).trans rfl) (alt_one (by decide) (row_one (opens_kind rfl) (.inr rfl) hi rfl) rfl) r1
theorem nodes_le {p : ByteArray} {t : Tr} {l : List Tok} {g : Nat} (h : Parsed p t l g) (hp : p.size ≤ 1000) : t.1 ≤ 2 * p.size + 1 := by
  have h1 := ((rd_part _).1 _ _ _ _ _ _ h.alt).len
  rcases few_lex p hp with ⟨h2, -⟩ | ⟨-, -, h4, -⟩
  · rw [h.lex] at h2
    simp only [] at h2
    subst h2
    simp at h1
    omega
  · rw [h.lex] at h4
    simp only [] at h4
    simp at h1
    omega
/-- Two patterns without groups, with | between. -/
theorem alts_z {p q : ByteArray} (h : (parseZ p).2 = 0) (h' : (parseZ q).2 = 0) (hs : p.size ≤ 100) (hs' : q.size ≤ 100) (hg : cntT (parseZ p).1 + cntT (parseZ q).1 = 0) (hd : deepZ (parseZ p).1.2 (parseZ p).1.1 < 40) (hd' : deepZ (parseZ q).1.2 (parseZ q).1.1 < 40) :
    parseZ (pre7 ++ p ++ midA7 ++ q ++ post7) = (joinT (parseZ p).1 (parseZ q).1 9, 0) := by
  obtain ⟨l, g, H⟩ := parsed h
  obtain ⟨m, g', H'⟩ := parsed h'
  generalize (parseZ p).1 = t at H hg hd ⊢
  generalize (parseZ q).1 = u at H' hg hd' ⊢
  have hn := nodes_le H (by omega)
  have hn' := nodes_le H' (by omega)
  obtain ⟨r1, r2⟩ := right_join (k := 9) (.inr rfl) H.right H'.right hg hd hd' (by omega)
  have e1 : lexZ (pre7 ++ p ++ midA7) = ([tok0 8] ++ l ++ [tok0 15, tok0 6, tok0 8], 0) := lex_join _ _ _ _ (by rw [ByteArray.size_append]; show 3 + _ + 5 ≤ _; omega) (by decide) (by decide) (lex_in lex_pre7 H (by show 3 + _ ≤ _; omega)) lex_midA7
  have e2 := lex_wrap e1 H' (by rw [ByteArray.size_append, ByteArray.size_append]; show 3 + _ + 5 + _ ≤ _; omega)
  have e3 : lexZ (pre7 ++ p ++ midA7 ++ q ++ post7) = (tok0 8 :: (l ++ tok0 15 :: tok0 6 :: tok0 8 :: (m ++ [tok0 15])), 0) := by rw [e2]; simp
  obtain ⟨N, hN⟩ : ∃ N, N = 6 * l.length + 6 * m.length + 20 := ⟨_, rfl⟩
  have ga : g = 0 := by have := ((rd_grp _).1 _ _ _ _ _ _ H.alt).1; omega
  subst ga
  have i1 := item_plain (x := tok0 8) (y := tok0 6 :: tok0 8 :: (m ++ [tok0 15])) (f := ByteArray.empty) (m := N + 2) rfl (.inl rfl) (by rw [show (tok0 8).f = ByteArray.empty from rfl, emp_app]; exact H.alt) (by omega) (show (6 : Int) ≠ 16 by decide)
  have i2 := item_plain (x := tok0 8) (y := []) (f := ByteArray.empty) (m := N + 1) rfl (.inl rfl) (by rw [show (tok0 8).f = ByteArray.empty from rfl, emp_app]; exact H'.alt) (by omega) (by decide)
  have w1 := row_one (m := N + 3) (opens_kind (x := tok0 8) rfl) (.inl rfl) i1 rfl
  have w2 := row_one (m := N + 2) (opens_kind (x := tok0 8) rfl) (.inr rfl) i2 rfl
  refine parsed_of (g := g') (l' := []) (n := N + 4) e3 ?_ ?_ r1
  · rw [scan_wrap rfl H.scan, scanF, if_neg (by simp [tok0]), if_neg (by decide), if_neg (by decide), scan_b (l := tok0 8 :: (m ++ [tok0 15])) (show (8 : Int) ≠ 16 by decide), scan_wrap rfl H'.scan]
    rfl
  · rw [altF_s, w1]
    show altsF (N + 3) _ _ _ _ = _
    rw [altsF_s, if_pos (show kindZ (tok0 6 :: tok0 8 :: (m ++ [tok0 15])) = 6 from rfl)]
    show (rowF (N + 2) ByteArray.empty 0 (tok0 8 :: (m ++ [tok0 15]))).next _ = _
    rw [w2]
    show (shal (joinT t u 9) g' []).next _ = _
    rw [shal_yes (by rw [r2]; omega), altsF_s, if_neg (by decide)]
/-- Two patterns without groups, one behind the other. -/
theorem cats_z {p q : ByteArray} (h : (parseZ p).2 = 0) (h' : (parseZ q).2 = 0) (hs : p.size ≤ 100) (hs' : q.size ≤ 100) (hg : cntT (parseZ p).1 + cntT (parseZ q).1 = 0) (hd : deepZ (parseZ p).1.2 (parseZ p).1.1 < 40) (hd' : deepZ (parseZ q).1.2 (parseZ q).1.1 < 40) :
    parseZ (pre7 ++ p ++ midC7 ++ q ++ post7) = (joinT (parseZ p).1 (parseZ q).1 8, 0) := by
  obtain ⟨l, g, H⟩ := parsed h
  obtain ⟨m, g', H'⟩ := parsed h'
  generalize (parseZ p).1 = t at H hg hd ⊢
  generalize (parseZ q).1 = u at H' hg hd' ⊢
  have hn := nodes_le H (by omega)
  have hn' := nodes_le H' (by omega)
  obtain ⟨r1, r2⟩ := right_join (k := 8) (.inl rfl) H.right H'.right hg hd hd' (by omega)
  have e1 : lexZ (pre7 ++ p ++ midC7) = ([tok0 8] ++ l ++ [tok0 15, tok0 8], 0) := lex_join _ _ _ _ (by rw [ByteArray.size_append]; show 3 + _ + 4 ≤ _; omega) (by decide) (by decide) (lex_in lex_pre7 H (by show 3 + _ ≤ _; omega)) lex_midC7
  have e2 := lex_wrap e1 H' (by rw [ByteArray.size_append, ByteArray.size_append]; show 3 + _ + 4 + _ ≤ _; omega)
  have e3 : lexZ (pre7 ++ p ++ midC7 ++ q ++ post7) = (tok0 8 :: (l ++ tok0 15 :: tok0 8 :: (m ++ [tok0 15])), 0) := by rw [e2]; simp
  obtain ⟨N, hN⟩ : ∃ N, N = 6 * l.length + 6 * m.length + 20 := ⟨_, rfl⟩
  have ga : g = 0 := by have := ((rd_grp _).1 _ _ _ _ _ _ H.alt).1; omega
  subst ga
  have i1 := item_plain (x := tok0 8) (y := tok0 8 :: (m ++ [tok0 15])) (f := ByteArray.empty) (m := N + 2) rfl (.inl rfl) (by rw [show (tok0 8).f = ByteArray.empty from rfl, emp_app]; exact H.alt) (by omega) (show (8 : Int) ≠ 16 by decide)
  have i2 := item_plain (x := tok0 8) (y := []) (f := ByteArray.empty) (m := N + 1) rfl (.inl rfl) (by rw [show (tok0 8).f = ByteArray.empty from rfl, emp_app]; exact H'.alt) (by omega) (by decide)
  have w1 : rowF (N + 3) ByteArray.empty 0 (tok0 8 :: (l ++ tok0 15 :: tok0 8 :: (m ++ [tok0 15]))) = .got (joinT t u 8) g' [] := by
    rw [rowF_s, if_neg (opens_kind (x := tok0 8) rfl), i1]
    show itemsF (N + 2) _ _ _ _ = _
    rw [itemsF_s, if_neg (opens_kind (x := tok0 8) rfl), i2]
    show (shal (joinT t u 8) g' []).next _ = _
    rw [shal_yes (by rw [r2]; omega), itemsF_s, if_pos (.inr rfl)]
  refine parsed_of (g := g') (l' := []) (n := N + 4) e3 ?_ (alt_one (by decide) w1 rfl) r1
  rw [scan_wrap rfl H.scan, scan_b (l := tok0 8 :: (m ++ [tok0 15])) (show (8 : Int) ≠ 16 by decide), scan_wrap rfl H'.scan]
  rfl
end Go.Proofs.YtdnbpbngoiahlaaGreatDoor
