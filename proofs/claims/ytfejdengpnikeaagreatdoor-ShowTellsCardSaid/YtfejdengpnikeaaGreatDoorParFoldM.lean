/-
  Layer 7, mathematics: what is read where case makes no difference.
-/
import Derived.Test.YtfejdengpnikeaaGreatDoorParE
namespace Go.Proofs.YtfejdengpnikeaaGreatDoor
open Ast (Nd joinL wrapL deepZ rightZ cntG backB behB groupsB siz dep fitsB kidsZ len grp shapeZ formZ goodB)

theorem W_zero_all {S : BitVec 256} (h : ∀ i, i < 4 → W S i = 0) : S = 0#256 := by
  apply ext_bit
  intro k hk
  have hb := W_bit S (k / 64) (k % 64)
  rw [h (k / 64) (by omega), Nat.zero_testBit, decide_eq_true (by omega), Bool.true_and, show 64 * (k / 64) + k % 64 = k by omega] at hb
  simpa using hb.symm
theorem fold_zero : foldS 0#256 = 0#256 := by
  apply ext_bit
  intro k hk
  rw [foldS_bit]
  simp
theorem fold_none {S : BitVec 256} (h : foldS S = 0#256) : S = 0#256 := by
  apply ext_bit
  intro k hk
  have h1 : (foldS S).getLsbD k = (0#256).getLsbD k := by rw [h]
  rw [foldS_bit] at h1
  simp at h1
  simp [h1.1]
theorem swap_twice (n : Nat) : swap (swap n) = n := by
  by_cases h1 : 97 ≤ n ∧ n < 123
  · have e : swap n = n - 32 := if_pos h1
    rw [e]
    unfold swap
    (repeat' split) <;> omega
  · unfold swap
    (repeat' split) <;> omega
theorem fold_fold (S : BitVec 256) : foldS (foldS S) = foldS S := by
  apply ext_bit
  intro k hk
  rw [foldS_bit, foldS_bit, foldS_bit, swap_twice]
  cases S.getLsbD k <;> cases S.getLsbD (swap k) <;> rfl
/-- A node, and the same without regard to case. -/
structure FNd (x y : Nd) : Prop where
  one : ∃ S, (x.s0 = W S 0 ∧ x.s1 = W S 1 ∧ x.s2 = W S 2 ∧ x.s3 = W S 3) ∧ y = { x with s0 := W (foldS S) 0, s1 := W (foldS S) 1, s2 := W (foldS S) 2, s3 := W (foldS S) 3, f := if x.k = 12 then true else x.f }
structure FT (t u : Tr) : Prop where
  len : u.1 = t.1
  node : ∀ i, i < t.1 → FNd (t.2 i) (u.2 i)
theorem FNd.zero {x : Nd} (h : x.s0 = 0 ∧ x.s1 = 0 ∧ x.s2 = 0 ∧ x.s3 = 0) (hk : x.k ≠ 12) : FNd x x := by
  refine ⟨0#256, ?_, ?_⟩
  · simpa [W_zero] using h
  · obtain ⟨k, a, b, s0, s1, s2, s3, mn, mx, md, n, f⟩ := x
    obtain ⟨h0, h1, h2, h3⟩ := h
    simp only [] at h0 h1 h2 h3 hk
    subst h0 h1 h2 h3
    simp [fold_zero, W_zero, hk]
/-- Nodes that are alike in all that makes a tree's form. -/
structure Like (x y : Nd) : Prop where
  k : y.k = x.k
  a : y.a = x.a
  b : y.b = x.b
  mn : y.mn = x.mn
  mx : y.mx = x.mx
  n : y.n = x.n
  fits : fitsB y = fitsB x
theorem FNd.like {x y : Nd} (h : FNd x y) : Like x y := by
  obtain ⟨S, ⟨h0, h1, h2, h3⟩, rfl⟩ := h.one
  refine ⟨rfl, rfl, rfl, rfl, rfl, rfl, ?_⟩
  unfold fitsB
  have hz : ((W (foldS S) 0 : Int) = 0 ∧ (W (foldS S) 1 : Int) = 0 ∧ (W (foldS S) 2 : Int) = 0 ∧ (W (foldS S) 3 : Int) = 0) ↔ (x.s0 = 0 ∧ x.s1 = 0 ∧ x.s2 = 0 ∧ x.s3 = 0) := by
    rw [h0, h1, h2, h3]
    constructor
    · rintro ⟨a, b, c, d⟩
      have hS : foldS S = 0#256 := W_zero_all (fun i hi => by
        match i, hi with
        | 0, _ => exact Int.ofNat_eq_zero.1 a
        | 1, _ => exact Int.ofNat_eq_zero.1 b
        | 2, _ => exact Int.ofNat_eq_zero.1 c
        | 3, _ => exact Int.ofNat_eq_zero.1 d)
      rw [fold_none hS]
      simp [W_zero]
    · rintro ⟨a, b, c, d⟩
      have hS : S = 0#256 := W_zero_all (fun i hi => by
        match i, hi with
        | 0, _ => exact Int.ofNat_eq_zero.1 a
        | 1, _ => exact Int.ofNat_eq_zero.1 b
        | 2, _ => exact Int.ofNat_eq_zero.1 c
        | 3, _ => exact Int.ofNat_eq_zero.1 d)
      rw [hS, fold_zero]
      simp [W_zero]
  have hf : (x.k = 12 ∨ (if x.k = 12 then true else x.f) = false) ↔ (x.k = 12 ∨ x.f = false) := by
    by_cases hk : x.k = 12
    · simp [hk]
    · simp [hk]
  simp only [hz, hf]
section
variable {l l' : Nat → Nd} {n : Nat} (h : ∀ i, i < n → Like (l i) (l' i))
include h
theorem like_siz : ∀ j, j ≤ n → siz l' j = siz l j := by
  intro j
  induction j using Nat.strongRecOn with
  | _ j ih =>
    intro hj
    cases j with
    | zero => rfl
    | succ i =>
      have hi := h i (by omega)
      have e1 := ih i (by omega) (by omega)
      have e2 := ih (i - siz l i) (by omega) (by omega)
      rw [Ast.siz_succ, Ast.siz_succ, e1, e2, hi.k, hi.a, hi.b, hi.fits]
theorem like_dep : ∀ j, j ≤ n → dep l' j = dep l j := by
  intro j
  induction j using Nat.strongRecOn with
  | _ j ih =>
    intro hj
    cases j with
    | zero => rfl
    | succ i =>
      have hi := h i (by omega)
      have e1 := ih i (by omega) (by omega)
      have e2 := ih (i - siz l i) (by omega) (by omega)
      rw [Ast.dep_succ, Ast.dep_succ, like_siz h i (by omega), e1, e2, hi.k]
theorem like_grp : ∀ j, j ≤ n → grp l' j = grp l j := by
  intro j
  induction j using Nat.strongRecOn with
  | _ j ih =>
    intro hj
    cases j with
    | zero => rfl
    | succ i =>
      have hi := h i (by omega)
      have e1 := ih i (by omega) (by omega)
      have e2 := ih (i - siz l i) (by omega) (by omega)
      rw [Ast.grp_succ, Ast.grp_succ, like_siz h i (by omega), e1, e2, hi.k]
theorem like_len : ∀ j, j ≤ n → len l' j = len l j := by
  intro j
  induction j using Nat.strongRecOn with
  | _ j ih =>
    intro hj
    cases j with
    | zero => rfl
    | succ i =>
      have hi := h i (by omega)
      have e1 := ih i (by omega) (by omega)
      have e2 := ih (i - siz l i) (by omega) (by omega)
      rw [Ast.len_succ, Ast.len_succ, like_siz h i (by omega), e1, e2, hi.k, hi.mn, hi.mx]
theorem like_form : formZ l' n = formZ l n := by
  unfold formZ goodB
  rw [like_siz h n (Nat.le_refl _)]
theorem like_deep : deepZ l' n = deepZ l n := by
  unfold deepZ
  rw [like_form h, like_dep h n (Nat.le_refl _)]
theorem like_shape : shapeZ l' n = shapeZ l n := by
  unfold shapeZ
  rw [like_form h, like_dep h n (Nat.le_refl _)]
theorem like_back (m : Nat) : ∀ j, j ≤ n → backB l' m j = backB l m j
  | 0, _ => rfl
  | j + 1, hj => by rw [backB, backB, like_back m j (by omega), (h j (by omega)).k, (h j (by omega)).n]
theorem like_beh : ∀ j, j ≤ n → behB l' j = behB l j
  | 0, _ => rfl
  | j + 1, hj => by rw [behB, behB, like_beh j (by omega), (h j (by omega)).k, like_len h j (by omega)]
theorem like_num (L : List Nat) (hL : ∀ i ∈ L, i < n) : ∀ k, k ≤ L.length → Ast.numB l' L k = Ast.numB l L k
  | 0, _ => rfl
  | k + 1, hk => by
    have hm : L.getD k 0 < n := by
      rw [List.getD_eq_getElem?_getD, List.getElem?_eq_getElem (by omega)]
      exact hL _ (List.getElem_mem _)
    rw [Ast.numB, Ast.numB, like_num L hL k (by omega), (h _ hm).n]
end
theorem grp_lt (l : Nat → Nd) : ∀ j, ∀ i ∈ grp l j, i < j := by
  intro j
  induction j using Nat.strongRecOn with
  | _ j ih =>
    cases j with
    | zero => intro i hi; cases hi
    | succ m =>
      intro i hi
      rw [Ast.grp_succ] at hi
      split at hi
      · cases hi
      · split at hi
        · split at hi
          · rcases List.mem_cons.1 hi with rfl | hi
            · omega
            · have := ih m (by omega) i hi; omega
          · have := ih m (by omega) i hi; omega
        · rcases List.mem_append.1 hi with hi | hi
          · have := ih (m - siz l m) (by omega) i hi; omega
          · have := ih m (by omega) i hi; omega
theorem like_right {l l' : Nat → Nd} {n : Nat} (h : ∀ i, i < n → Like (l i) (l' i)) : rightZ l' n = rightZ l n := by
  unfold rightZ groupsB
  rw [like_shape h, like_grp h n (Nat.le_refl _), like_beh h n (Nat.le_refl _), like_back h _ n (Nat.le_refl _), like_num h _ (grp_lt l n) _ (Nat.le_refl _)]
theorem FT.like {t u : Tr} (h : FT t u) : ∀ i, i < t.1 → Like (t.2 i) (u.2 i) := fun i hi => (h.node i hi).like
theorem FT.deep {t u : Tr} (h : FT t u) : deepZ u.2 u.1 = deepZ t.2 t.1 := by rw [h.len, like_deep h.like]
theorem FT.right {t u : Tr} (h : FT t u) : rightZ u.2 u.1 = rightZ t.2 t.1 := by rw [h.len, like_right h.like]
theorem mvN_fold {x y : Nd} (n : Int) (h : FNd x y) : FNd (Ast.mvN x n) (Ast.mvN y n) := by
  obtain ⟨S, ⟨h0, h1, h2, h3⟩, rfl⟩ := h.one
  unfold Ast.mvN
  simp only []
  split
  · exact ⟨S, ⟨h0, h1, h2, h3⟩, rfl⟩
  · split
    · exact ⟨S, ⟨h0, h1, h2, h3⟩, rfl⟩
    · exact ⟨S, ⟨h0, h1, h2, h3⟩, rfl⟩
theorem FT.join {t t' u u' : Tr} (h : FT t t') (h' : FT u u') (k : Int) (hk : k ≠ 12) : FT (joinT t u k) (joinT t' u' k) := by
  refine ⟨by show t'.1 + u'.1 + 1 = t.1 + u.1 + 1; rw [h.len, h'.len], fun i hi => ?_⟩
  show FNd (joinL t.2 t.1 u.2 u.1 k i) (joinL t'.2 t'.1 u'.2 u'.1 k i)
  rw [h.len, h'.len]
  unfold joinL
  by_cases h1 : i < t.1
  · rw [if_pos h1, if_pos h1]
    exact h.node i h1
  · rw [if_neg h1, if_neg h1]
    by_cases h2 : i < t.1 + u.1
    · rw [if_pos h2, if_pos h2]
      exact mvN_fold _ (h'.node _ (by omega))
    · rw [if_neg h2, if_neg h2]
      exact FNd.zero ⟨rfl, rfl, rfl, rfl⟩ hk
theorem FT.wrap {t t' : Tr} (h : FT t t') (x : Nd) (hx : x.s0 = 0 ∧ x.s1 = 0 ∧ x.s2 = 0 ∧ x.s3 = 0) (hk : x.k ≠ 12) : FT (wrapT t x) (wrapT t' x) := by
  refine ⟨by show t'.1 + 1 = t.1 + 1; rw [h.len], fun i hi => ?_⟩
  show FNd (wrapL t.2 t.1 x i) (wrapL t'.2 t'.1 x i)
  rw [h.len]
  unfold wrapL
  by_cases h1 : i < t.1
  · rw [if_pos h1, if_pos h1]
    exact h.node i h1
  · rw [if_neg h1, if_neg h1]
    exact FNd.zero hx hk
theorem around_zero (k : Int) (g : Nat) : ((aroundN k g).s0 = 0 ∧ (aroundN k g).s1 = 0 ∧ (aroundN k g).s2 = 0 ∧ (aroundN k g).s3 = 0) ∧ (aroundN k g).k ≠ 12 := by
  unfold aroundN
  split
  · exact ⟨⟨rfl, rfl, rfl, rfl⟩, by show k + 4 ≠ 12; omega⟩
  · exact ⟨⟨rfl, rfl, rfl, rfl⟩, show (11 : Int) ≠ 12 by decide⟩
/-- The same flags, and i. -/
structure FF (f f2 : ByteArray) : Prop where
  i : hasF f2 105 = true
  m : hasF f2 109 = hasF f 109
  s : hasF f2 115 = hasF f 115
theorem has_app (f x : ByteArray) (c : Nat) : hasF (f ++ x) c = (hasF f c || hasF x c) := by
  unfold hasF
  rw [ByteArray.data_append, Array.toList_append, List.any_append]
theorem FF.app {f f2 : ByteArray} (h : FF f f2) (x : ByteArray) : FF (f ++ x) (f2 ++ x) :=
  ⟨by rw [has_app, h.i]; rfl, by rw [has_app, has_app, h.m], by rw [has_app, has_app, h.s]⟩
theorem setN_fold (S : BitVec 256) : FNd (setN S) (setN (foldS S)) := ⟨S, ⟨rfl, rfl, rfl, rfl⟩, rfl⟩
theorem fold_all : foldS (~~~0#256) = ~~~0#256 := by decide +kernel
theorem fold_dot : foldS (~~~addB 0#256 10) = ~~~addB 0#256 10 := by decide +kernel
theorem leaf_fold {f f2 : ByteArray} (h : FF f f2) (t : Tok) : FNd (leafN f t) (leafN f2 t) := by
  unfold leafN
  rw [h.i, h.m, h.s]
  by_cases h1 : t.k = 1
  · rw [if_pos h1, if_pos h1]
    split
    · have := setN_fold (~~~0#256); rwa [fold_all] at this
    · have := setN_fold (~~~addB 0#256 10); rwa [fold_dot] at this
  · rw [if_neg h1, if_neg h1]
    by_cases h2 : t.k = 2
    · rw [if_pos h2, if_pos h2]
      exact FNd.zero ⟨rfl, rfl, rfl, rfl⟩ (by show (if _ then _ else _) ≠ _; split <;> decide)
    · rw [if_neg h2, if_neg h2]
      by_cases h3 : t.k = 3
      · rw [if_pos h3, if_pos h3]
        exact FNd.zero ⟨rfl, rfl, rfl, rfl⟩ (by show (if _ then _ else _) ≠ _; split <;> decide)
      · rw [if_neg h3, if_neg h3]
        by_cases h4 : t.k = 4
        · rw [if_pos h4, if_pos h4]
          exact FNd.zero ⟨rfl, rfl, rfl, rfl⟩ (by decide)
        · rw [if_neg h4, if_neg h4]
          by_cases h5 : t.k = 5
          · rw [if_pos h5, if_pos h5]
            exact FNd.zero ⟨rfl, rfl, rfl, rfl⟩ (by decide)
          · rw [if_neg h5, if_neg h5]
            by_cases h17 : t.k = 17
            · rw [if_pos h17, if_pos h17]
              exact ⟨0#256, by simp [nd0, W_zero], by simp [nd0, fold_zero, W_zero]⟩
            · rw [if_neg h17, if_neg h17, if_pos rfl]
              split
              · have := setN_fold (foldS t.S); rwa [fold_fold] at this
              · exact setN_fold t.S
theorem shal_fold {t t' u : Tr} {g c : Nat} {l k : List Tok} (h : shal t g l = .got u c k) (hf : FT t t') : shal t' g l = .got t' c k := by
  unfold shal at h ⊢
  rw [hf.deep]
  split at h
  · cases h
  · rename_i hd
    cases h
    rw [if_neg hd]
theorem rd_fold : ∀ n,
    (∀ f f2 g l t g' l', FF f f2 → altF n f g l = .got t g' l' → ∃ t', altF n f2 g l = .got t' g' l' ∧ FT t t') ∧
    (∀ f f2 t0 t0' g l t g' l', FF f f2 → FT t0 t0' → altsF n f t0 g l = .got t g' l' → ∃ t', altsF n f2 t0' g l = .got t' g' l' ∧ FT t t') ∧
    (∀ f f2 g l t g' l', FF f f2 → rowF n f g l = .got t g' l' → ∃ t', rowF n f2 g l = .got t' g' l' ∧ FT t t') ∧
    (∀ f f2 t0 t0' g l t g' l', FF f f2 → FT t0 t0' → itemsF n f t0 g l = .got t g' l' → ∃ t', itemsF n f2 t0' g l = .got t' g' l' ∧ FT t t') ∧
    (∀ f f2 g l t g' l', FF f f2 → itemF n f g l = .got t g' l' → ∃ t', itemF n f2 g l = .got t' g' l' ∧ FT t t') ∧
    (∀ f f2 g l t g' l', FF f f2 → pieceF n f g l = .got t g' l' → ∃ t', pieceF n f2 g l = .got t' g' l' ∧ FT t t') ∧
    (∀ f f2 g l t g' l', FF f f2 → withF n f g l = .got t g' l' → ∃ t', withF n f2 g l = .got t' g' l' ∧ FT t t') := by
  intro n
  induction n with
  | zero => exact ⟨fun f f2 g l t g' l' _ h => (by rw [altF] at h; cases h), fun f f2 t0 t0' g l t g' l' _ _ h => (by rw [altsF] at h; cases h), fun f f2 g l t g' l' _ h => (by rw [rowF] at h; cases h), fun f f2 t0 t0' g l t g' l' _ _ h => (by rw [itemsF] at h; cases h), fun f f2 g l t g' l' _ h => (by rw [itemF] at h; cases h), fun f f2 g l t g' l' _ h => (by rw [pieceF] at h; cases h), fun f f2 g l t g' l' _ h => (by rw [withF] at h; cases h)⟩
  | succ n ih =>
    obtain ⟨i1, i2, i3, i4, i5, i6, i7⟩ := ih
    refine ⟨?_, ?_, ?_, ?_, ?_, ?_, ?_⟩
    · intro f f2 g l t g' l' hF h
      rw [altF_s] at h ⊢
      obtain ⟨t1, g1, l1, h1, h2⟩ := next_got h
      obtain ⟨t1', h1', k1⟩ := i3 _ _ _ _ _ _ _ hF h1
      rw [h1']
      exact i2 _ _ _ _ _ _ _ _ _ hF k1 h2
    · intro f f2 t0 t0' g l t g' l' hF h0 h
      rw [altsF_s] at h ⊢
      by_cases hk : kindZ l = 6
      · rw [if_pos hk] at h ⊢
        obtain ⟨t1, g1, l1, h1, h2⟩ := next_got h
        obtain ⟨t2, g2, l2, h3, h4⟩ := next_got h2
        obtain ⟨t1', h1', k1⟩ := i3 _ _ _ _ _ _ _ hF h1
        have kj := h0.join k1 9 (by decide)
        rw [h1']
        show ∃ t', (shal (joinT t0' t1' 9) g1 l1).next _ = _ ∧ _
        rw [shal_fold h3 kj]
        obtain ⟨rfl, -, -⟩ := shal_got h3
        exact i2 _ _ _ _ _ _ _ _ _ hF kj h4
      · rw [if_neg hk] at h ⊢
        cases h
        exact ⟨t0', rfl, h0⟩
    · intro f f2 g l t g' l' hF h
      rw [rowF_s] at h ⊢
      by_cases hk : kindZ l = 6 ∨ kindZ l = 15
      · rw [if_pos hk] at h ⊢
        cases h
        exact ⟨_, rfl, rfl, fun i hi => FNd.zero ⟨rfl, rfl, rfl, rfl⟩ (show (0 : Int) ≠ 12 by decide)⟩
      · rw [if_neg hk] at h ⊢
        obtain ⟨t1, g1, l1, h1, h2⟩ := next_got h
        obtain ⟨t1', h1', k1⟩ := i5 _ _ _ _ _ _ _ hF h1
        rw [h1']
        exact i4 _ _ _ _ _ _ _ _ _ hF k1 h2
    · intro f f2 t0 t0' g l t g' l' hF h0 h
      rw [itemsF_s] at h ⊢
      by_cases hk : kindZ l = 6 ∨ kindZ l = 15
      · rw [if_pos hk] at h ⊢
        cases h
        exact ⟨t0', rfl, h0⟩
      · rw [if_neg hk] at h ⊢
        obtain ⟨t1, g1, l1, h1, h2⟩ := next_got h
        obtain ⟨t2, g2, l2, h3, h4⟩ := next_got h2
        obtain ⟨t1', h1', k1⟩ := i5 _ _ _ _ _ _ _ hF h1
        have kj := h0.join k1 8 (by decide)
        rw [h1']
        show ∃ t', (shal (joinT t0' t1' 8) g1 l1).next _ = _ ∧ _
        rw [shal_fold h3 kj]
        obtain ⟨rfl, -, -⟩ := shal_got h3
        exact i4 _ _ _ _ _ _ _ _ _ hF kj h4
    · intro f f2 g l t g' l' hF h
      rw [itemF_s] at h ⊢
      obtain ⟨t1, g1, l1, h1, h2⟩ := next_got h
      obtain ⟨t1', h1', k1⟩ := i6 _ _ _ _ _ _ _ hF h1
      rw [h1']
      show ∃ t', endQ t1' g1 l1 = _ ∧ _
      cases l1 with
      | nil =>
        cases h2
        exact ⟨t1', rfl, k1⟩
      | cons y r =>
        rw [endQ] at h2 ⊢
        by_cases hy : y.k = 16
        · rw [if_pos hy] at h2 ⊢
          have kw := k1.wrap (repN y) ⟨rfl, rfl, rfl, rfl⟩ (by show (10 : Int) ≠ 12; decide)
          rw [shal_fold h2 kw]
          obtain ⟨rfl, -, -⟩ := shal_got h2
          exact ⟨_, rfl, kw⟩
        · rw [if_neg hy] at h2 ⊢
          cases h2
          exact ⟨t1', rfl, k1⟩
    · intro f f2 g l t g' l' hF h
      cases l with
      | nil => rw [pieceF_0] at h; cases h
      | cons y r =>
        rw [pieceF_s] at h ⊢
        by_cases ho : opens y.k = false
        · rw [if_pos ho] at h ⊢
          cases h
          exact ⟨_, rfl, rfl, fun i hi => leaf_fold hF y⟩
        · rw [if_neg ho] at h ⊢
          by_cases hk : y.k = 8 ∨ y.k = 14
          · rw [if_pos hk] at h ⊢
            exact i7 _ _ _ _ _ _ _ (hF.app y.f) h
          · rw [if_neg hk] at h ⊢
            obtain ⟨t1, g1, l1, h1, h2⟩ := next_got h
            obtain ⟨t1', h1', k1⟩ := i7 _ _ _ _ _ _ _ (hF.app y.f) h1
            rw [h1']
            show ∃ t', shal (wrapT t1' (aroundN y.k g)) g1 l1 = _ ∧ _
            have kw := k1.wrap (aroundN y.k g) (around_zero y.k g).1 (around_zero y.k g).2
            rw [shal_fold h2 kw]
            obtain ⟨rfl, -, -⟩ := shal_got h2
            exact ⟨_, rfl, kw⟩
    · intro f f2 g l t g' l' hF h
      rw [withF_s] at h ⊢
      obtain ⟨t1, g1, l1, h1, h2⟩ := next_got h
      obtain ⟨t1', h1', k1⟩ := i1 _ _ _ _ _ _ _ hF h1
      rw [h1']
      show ∃ t', endW t1' g1 l1 = _ ∧ _
      cases l1 with
      | nil => cases h2
      | cons y r =>
        cases h2
        exact ⟨t1', rfl, k1⟩
abbrev flg7 : ByteArray := ⟨#[40, 63, 105, 58]⟩
abbrev tokI : Tok := { tok0 14 with f := ⟨#[105]⟩ }
theorem lex_flg7 : lexZ flg7 = ([tokI], 0) := by kernel_rfl
/-- Within (?i: and ) a pattern has the same tree without regard to case. -/
theorem flags_z {p : ByteArray} (h : (parseZ p).2 = 0) (hs : p.size ≤ 800) : ∃ t, parseZ (flg7 ++ p ++ post7) = (t, 0) ∧ FT (parseZ p).1 t := by
  obtain ⟨l, g, H⟩ := parsed h
  generalize (parseZ p).1 = t at H ⊢
  have hl := lex_wrap lex_flg7 H (by show 4 + _ ≤ _; omega)
  have hl2 : lexZ (flg7 ++ p ++ post7) = (tokI :: (l ++ [tok0 15]), 0) := hl
  have hF : FF ByteArray.empty (ByteArray.empty ++ tokI.f) := ⟨rfl, rfl, rfl⟩
  obtain ⟨t', h1, h2⟩ := (rd_fold _).1 _ _ _ _ _ _ _ hF H.alt
  have hi := item_plain (x := tokI) (y := []) (f := ByteArray.empty) (m := 6 * l.length + 9) rfl (.inr rfl) h1 (by omega) (by decide)
  exact ⟨t', parsed_of hl2 ((scan_wrap rfl H.scan).trans rfl) (alt_one (by decide) (row_one (opens_kind rfl) (.inr rfl) hi rfl) rfl) (by rw [h2.right]; exact H.right), h2⟩
end Go.Proofs.YtfejdengpnikeaaGreatDoor
