/-
  Layer 7, mathematics: trees within one another.
-/
import Derived.Test.YtdnbpbngoiahlaaGreatDoorParE
namespace Go.Proofs.YtdnbpbngoiahlaaGreatDoor
open Ast (Nd joinL wrapL deepZ rightZ cntG backB behB groupsB siz dep)

theorem next_deep {r : Rd} {f : Tr → Nat → List Tok → Rd} (h : r.next f = .deep) : r = .deep ∨ ∃ t g l, r = .got t g l ∧ f t g l = .deep := by
  cases r with
  | out => cases h
  | deep => exact .inl rfl
  | got t g l => exact .inr ⟨t, g, l, rfl, h⟩
theorem shal_deepx {t : Tr} {g g' : Nat} {l l' : List Tok} (h : shal t g l = .deep) : shal t g' l' = .deep := by
  unfold shal at h ⊢
  split at h
  · rename_i hd
    rw [if_pos hd]
  · cases h
theorem rd_deep {x : List Tok} (hx : kindZ x = 15) : ∀ n,
    (∀ f g l, altF n f g l = .deep → altF n f g (l ++ x) = .deep) ∧
    (∀ f t0 g l, altsF n f t0 g l = .deep → altsF n f t0 g (l ++ x) = .deep) ∧
    (∀ f g l, rowF n f g l = .deep → rowF n f g (l ++ x) = .deep) ∧
    (∀ f t0 g l, itemsF n f t0 g l = .deep → itemsF n f t0 g (l ++ x) = .deep) ∧
    (∀ f g l, itemF n f g l = .deep → itemF n f g (l ++ x) = .deep) ∧
    (∀ f g l, pieceF n f g l = .deep → pieceF n f g (l ++ x) = .deep) ∧
    (∀ f g l, withF n f g l = .deep → withF n f g (l ++ x) = .deep) := by
  intro n
  induction n with
  | zero => exact ⟨fun f g l h => (by rw [altF] at h; cases h), fun f t0 g l h => (by rw [altsF] at h; cases h), fun f g l h => (by rw [rowF] at h; cases h), fun f t0 g l h => (by rw [itemsF] at h; cases h), fun f g l h => (by rw [itemF] at h; cases h), fun f g l h => (by rw [pieceF] at h; cases h), fun f g l h => (by rw [withF] at h; cases h)⟩
  | succ n ih =>
    obtain ⟨i1, i2, i3, i4, i5, i6, i7⟩ := ih
    obtain ⟨a1, a2, a3, a4, a5, a6, a7⟩ := rd_app hx n
    refine ⟨?_, ?_, ?_, ?_, ?_, ?_, ?_⟩
    · intro f g l h
      rw [altF_s] at h ⊢
      rcases next_deep h with h | ⟨t1, g1, l1, h1, h2⟩
      · rw [i3 _ _ _ h]; rfl
      · rw [a3 _ _ _ _ _ _ h1]
        exact i2 _ _ _ _ h2
    · intro f t0 g l h
      rw [altsF_s] at h ⊢
      rw [kind_app hx]
      by_cases hk : kindZ l = 6
      · rw [if_pos hk] at h ⊢
        have ht : (l ++ x).tail = l.tail ++ x := by
          cases l with
          | nil => exact absurd hk (by decide)
          | cons y r => rfl
        rw [ht]
        rcases next_deep h with h | ⟨t1, g1, l1, h1, h2⟩
        · rw [i3 _ _ _ h]; rfl
        · rw [a3 _ _ _ _ _ _ h1]
          show (shal _ _ _).next _ = _
          rcases next_deep h2 with h | ⟨t2, g2, l2, h3, h4⟩
          · rw [shal_deepx h]; rfl
          · rw [shal_app x h3]
            exact i2 _ _ _ _ h4
      · rw [if_neg hk] at h
        cases h
    · intro f g l h
      rw [rowF_s] at h ⊢
      rw [kind_app hx]
      by_cases hk : kindZ l = 6 ∨ kindZ l = 15
      · rw [if_pos hk] at h
        cases h
      · rw [if_neg hk] at h ⊢
        rcases next_deep h with h | ⟨t1, g1, l1, h1, h2⟩
        · rw [i5 _ _ _ h]; rfl
        · rw [a5 _ _ _ _ _ _ h1]
          exact i4 _ _ _ _ h2
    · intro f t0 g l h
      rw [itemsF_s] at h ⊢
      rw [kind_app hx]
      by_cases hk : kindZ l = 6 ∨ kindZ l = 15
      · rw [if_pos hk] at h
        cases h
      · rw [if_neg hk] at h ⊢
        rcases next_deep h with h | ⟨t1, g1, l1, h1, h2⟩
        · rw [i5 _ _ _ h]; rfl
        · rw [a5 _ _ _ _ _ _ h1]
          show (shal _ _ _).next _ = _
          rcases next_deep h2 with h | ⟨t2, g2, l2, h3, h4⟩
          · rw [shal_deepx h]; rfl
          · rw [shal_app x h3]
            exact i4 _ _ _ _ h4
    · intro f g l h
      rw [itemF_s] at h ⊢
      rcases next_deep h with h | ⟨t1, g1, l1, h1, h2⟩
      · rw [i6 _ _ _ h]; rfl
      · rw [a6 _ _ _ _ _ _ h1]
        show endQ t1 g1 (l1 ++ x) = _
        cases l1 with
        | nil => cases h2
        | cons y r =>
          rw [endQ] at h2
          show (if y.k = 16 then _ else _) = _
          by_cases hy : y.k = 16
          · rw [if_pos hy] at h2 ⊢
            exact shal_deepx h2
          · rw [if_neg hy] at h2
            cases h2
    · intro f g l h
      cases l with
      | nil => rw [pieceF_0] at h; cases h
      | cons y r =>
        rw [pieceF_s] at h
        rw [List.cons_append, pieceF_s]
        by_cases ho : opens y.k = false
        · rw [if_pos ho] at h
          cases h
        · rw [if_neg ho] at h ⊢
          by_cases hk : y.k = 8 ∨ y.k = 14
          · rw [if_pos hk] at h ⊢
            exact i7 _ _ _ h
          · rw [if_neg hk] at h ⊢
            rcases next_deep h with h | ⟨t1, g1, l1, h1, h2⟩
            · rw [i7 _ _ _ h]; rfl
            · rw [a7 _ _ _ _ _ _ h1]
              exact shal_deepx h2
    · intro f g l h
      rw [withF_s] at h ⊢
      rcases next_deep h with h | ⟨t1, g1, l1, h1, h2⟩
      · rw [i1 _ _ _ h]; rfl
      · cases l1 with
        | nil => cases h2
        | cons y r => cases h2
theorem parsed_deep {p : ByteArray} {l : List Tok} {n : Nat} (hl : lexZ p = (l, 0)) (hs : scanF l 0 false = true) (ha : altF n ByteArray.empty 0 l = .deep) : (parseZ p).2 = 4 ∧ (parseZ p).1.1 = 0 := by
  have h1 := alt_in hs ByteArray.empty 0
  have e1 := alt_le h1 (Nat.le_max_left _ n)
  have e2 := alt_le (n := n) (m := max (6 * l.length + 6) n) (f := ByteArray.empty) (g := 0) (l := l) (by rw [ha]; intro h; cases h) (Nat.le_max_right _ n)
  have e3 : altF (6 * l.length + 6) ByteArray.empty 0 l = .deep := by rw [← e1, e2, ha]
  have e4 : parseZ p = ((0, fun _ => nd0 0), 4) := by
    unfold parseZ
    rw [hl]
    show (if (0 : Int) ≠ 0 then _ else treeZ l) = _
    rw [if_neg (by decide)]
    unfold treeZ
    rw [if_neg (by rw [hs]; decide), e3]
  rw [e4]
  exact ⟨rfl, rfl⟩

/-- An opening again and again around a, and its tokens. -/
def patD (o : ByteArray) : Nat → ByteArray
  | 0 => ⟨#[97]⟩
  | k + 1 => o ++ patD o k ++ post7
abbrev tokA : Tok := { tok0 0 with S := oneS 97 }
def nest (o : Tok) : Nat → List Tok
  | 0 => [tokA]
  | k + 1 => o :: (nest o k ++ [tok0 15])
def chain (q : Nd) : Nat → Tr
  | 0 => leafT (leafN ByteArray.empty tokA)
  | k + 1 => wrapT (chain q k) q
theorem lex_a7 : lexZ ⟨#[97]⟩ = ([tokA], 0) := by kernel_rfl
theorem patD_size (o : ByteArray) (ho : o.size ≤ 3) : ∀ k, (patD o k).size ≤ 1 + 4 * k
  | 0 => Nat.le_refl _
  | k + 1 => by
    have := patD_size o ho k
    rw [patD, ByteArray.size_append, ByteArray.size_append]
    show _ + _ + 1 ≤ _
    omega
theorem patD_first {o : ByteArray} (ho : bt o 0 = 40) : ∀ k, bt (patD o k) 0 = 97 ∨ bt (patD o k) 0 = 40
  | 0 => .inl (show bt ⟨#[97]⟩ 0 = 97 by decide)
  | k + 1 => .inr (by
    have hs : 0 < o.size := bt_in (by omega)
    rw [patD, bt_left _ _ (by rw [ByteArray.size_append]; omega), bt_left _ _ hs, ho])
theorem lex_nest {o : ByteArray} {x : Tok} (ho : bt o 0 = 40) (hs : o.size ≤ 3) (hx : lexZ o = ([x], 0)) : ∀ k, k ≤ 60 → lexZ (patD o k) = (nest x k, 0)
  | 0, _ => lex_a7
  | k + 1, hk => by
    have h := lex_nest ho hs hx k (by omega)
    have hsz := patD_size o hs k
    have hf := patD_first ho k
    have h1 : lexZ (o ++ patD o k) = ([x] ++ nest x k, 0) := lex_join _ _ _ _ (by omega) (by omega) (by omega) hx h
    exact lex_join (o ++ patD o k) post7 _ _ (by rw [ByteArray.size_append]; show _ + 1 ≤ _; omega) (by decide) (by decide) h1 lex_post7
theorem scan_nest {x : Tok} (hx : opens x.k = true) : ∀ k, scanF (nest x k) 0 false = true
  | 0 => rfl
  | k + 1 => (scan_wrap hx (scan_nest hx k)).trans rfl
theorem right_around {t : Tr} {k : Int} (hk : k = 13 ∨ k = 14 ∨ k = 17) (h : rightZ t.2 t.1 = 0) (hg : cntT t = 0) (hd : deepZ t.2 t.1 < 40) (hn : t.1 < 500) : rightZ (wrapT t (nd0 k)).2 (wrapT t (nd0 k)).1 = 0 := by
  obtain ⟨n, l⟩ := t
  obtain ⟨h1, z1, d1, -, -⟩ := right_whole h
  obtain ⟨-, g1, b1⟩ := Ast.right_0 h
  simp only [] at *
  have hk1 : Ast.kidsZ (nd0 k).k = 1 := by rcases hk with rfl | rfl | rfl <;> decide
  have hf : Ast.fitsB (nd0 k) = true := by rcases hk with rfl | rfl | rfl <;> decide
  obtain ⟨w1, w2⟩ := Ast.wrap_in hk1 hf h1 z1
  have wd := Ast.wrap_dep (x := nd0 k) hk1 h1 z1
  have hg0 : cntG l n = 0 := hg
  have ht := Ast.wrap_top l n (nd0 k)
  have hb1 := Ast.back_shift (l := l) (l' := wrapL l n (nd0 k)) (c := 0) (mm := 0) n fun i hi => by rw [Nat.zero_add]; unfold wrapL; rw [if_pos hi]; exact ⟨rfl, rfl⟩
  have hbh := Ast.beh_shift (Ast.sh_wrap l n (nd0 k)) (fun i hi => Ast.siz_of_whole z1 hi) n (Nat.le_refl _)
  rw [Nat.zero_add] at hb1 hbh
  have hc : cntT (wrapT (n, l) (nd0 k)) = 0 := by
    rw [cnt_wrap, if_neg (show ¬ (nd0 k).k = 11 by show ¬ k = 11; omega)]
    exact hg0
  have hc' : cntG (wrapL l n (nd0 k)) (n + 1) = 0 := hc
  show rightZ (wrapL l n (nd0 k)) (n + 1) = 0
  refine Ast.right_of (Ast.shape_of w2 (by omega) (by omega) (by rw [wd, d1]; omega)) ?_ ?_
  · rw [Ast.groups_none hc']
    rw [Ast.groups_none hg0] at g1
    rw [backB, hb1, g1, ht]
    have h12 : ¬ k = 12 := by omega
    simp [backB, nd0, h12]
  · show behB (wrapL l n (nd0 k)) (n + 1) = true
    rw [behB, hbh, b1, ht]
    have h15 : ¬ (k = 15 ∨ k = 16) := by omega
    simp [behB, nd0, h15]
theorem deep_around {t : Tr} {k : Int} (hk : k = 13 ∨ k = 14 ∨ k = 17) (h : rightZ t.2 t.1 = 0) (hn : t.1 < 500) : deepZ (wrapT t (nd0 k)).2 (wrapT t (nd0 k)).1 = 1 + deepZ t.2 t.1 := by
  obtain ⟨n, l⟩ := t
  obtain ⟨h1, z1, d1, -, -⟩ := right_whole h
  simp only [] at *
  have hk1 : Ast.kidsZ (nd0 k).k = 1 := by rcases hk with rfl | rfl | rfl <;> decide
  have hf : Ast.fitsB (nd0 k) = true := by rcases hk with rfl | rfl | rfl <;> decide
  obtain ⟨w1, w2⟩ := Ast.wrap_in hk1 hf h1 z1
  show deepZ (wrapL l n (nd0 k)) (n + 1) = _
  rw [Ast.form_of w2 (by omega) (by omega), Ast.wrap_dep (x := nd0 k) hk1 h1 z1, d1]
/-- What is read of an opening around what is read. -/
theorem alt_around {x : Tok} {n : Nat} {l : List Tok} {t : Tr} (hk : x.k = 9 ∨ x.k = 10 ∨ x.k = 13) (hf : x.f = ByteArray.empty) (h : altF n ByteArray.empty 0 l = .got t 0 []) : itemF (n + 3) ByteArray.empty 0 (x :: (l ++ [tok0 15])) = (shal (wrapT t (nd0 (x.k + 4))) 0 []).next endQ := by
  have ho : opens x.k = true := by rcases hk with e | e | e <;> rw [e] <;> decide
  have e9 : 9 ≤ x.k ∧ x.k ≤ 13 := by omega
  rw [itemF_s, pieceF_s, if_neg (by rw [ho]; decide), if_neg (by omega), withF_s, hf, emp_app, show aroundG x.k 0 = 0 by unfold aroundG; rw [if_pos e9], (rd_app (x := [tok0 15]) rfl _).1 _ _ _ _ _ _ h]
  show (shal (wrapT t (aroundN x.k 0)) 0 []).next endQ = _
  rw [show aroundN x.k 0 = nd0 (x.k + 4) by unfold aroundN; rw [if_pos e9]]
theorem nest_0 : altF 4 ByteArray.empty 0 [tokA] = .got (leafT (leafN ByteArray.empty tokA)) 0 [] := by
  have hi : itemF 2 ByteArray.empty 0 [tokA] = .got (leafT (leafN ByteArray.empty tokA)) 0 [] := by
    rw [itemF_s, pieceF_s, if_pos (show opens tokA.k = false from rfl)]
    rfl
  exact alt_one (n := 2) (by decide) (row_one (n := 1) (by decide) (.inr rfl) hi rfl) rfl
theorem nest_got {x : Tok} (hk : x.k = 9 ∨ x.k = 10 ∨ x.k = 13) (hf : x.f = ByteArray.empty) : ∀ k, k ≤ 39 → ∃ t : Tr, (∃ n, altF n ByteArray.empty 0 (nest x k) = .got t 0 []) ∧ rightZ t.2 t.1 = 0 ∧ cntT t = 0 ∧ deepZ t.2 t.1 = k + 1 ∧ t.1 = k + 1
  | 0, _ => ⟨leafT (leafN ByteArray.empty tokA), ⟨4, nest_0⟩, by decide +kernel, by decide +kernel, by decide +kernel, rfl⟩
  | k + 1, hk1 => by
    obtain ⟨t, ⟨n, h⟩, hr, hc, hd, hn⟩ := nest_got hk hf k (by omega)
    have ho : opens x.k = true := by rcases hk with e | e | e <;> rw [e] <;> decide
    have hk3 : x.k + 4 = 13 ∨ x.k + 4 = 14 ∨ x.k + 4 = 17 := by omega
    have hi := alt_around hk hf h
    have hd2 := deep_around hk3 hr (by omega)
    rw [shal_yes (by omega)] at hi
    have hi2 : itemF (n + 3) ByteArray.empty 0 (x :: (nest x k ++ [tok0 15])) = .got (wrapT t (nd0 (x.k + 4))) 0 [] := hi
    refine ⟨wrapT t (nd0 (x.k + 4)), ⟨n + 5, alt_one (by decide) (row_one (opens_kind ho) (.inr rfl) hi2 rfl) rfl⟩, right_around hk3 hr hc (by omega) (by omega), ?_, by omega, ?_⟩
    · rw [cnt_wrap, if_neg (show ¬ (nd0 (x.k + 4)).k = 11 by show ¬ x.k + 4 = 11; omega)]
      exact hc
    · show t.1 + 1 = _
      omega
theorem item_deep {n : Nat} {f : ByteArray} {g : Nat} {l : List Tok} (hk : ¬ (kindZ l = 6 ∨ kindZ l = 15)) (h : itemF n f g l = .deep) : altF (n + 2) f g l = .deep := by
  rw [altF_s, rowF_s, if_neg hk, h]
  rfl
theorem nest_deep {x : Tok} (hk : x.k = 9 ∨ x.k = 10 ∨ x.k = 13) (hf : x.f = ByteArray.empty) : ∀ k, ∃ n, altF n ByteArray.empty 0 (nest x (k + 40)) = .deep
  | 0 => by
    obtain ⟨t, ⟨n, h⟩, hr, hc, hd, hn⟩ := nest_got hk hf 39 (by omega)
    have ho : opens x.k = true := by rcases hk with e | e | e <;> rw [e] <;> decide
    have hk3 : x.k + 4 = 13 ∨ x.k + 4 = 14 ∨ x.k + 4 = 17 := by omega
    have hi := alt_around hk hf h
    have hd2 := deep_around hk3 hr (by omega)
    rw [shal_no (by omega)] at hi
    exact ⟨n + 5, item_deep (opens_kind ho) hi⟩
  | k + 1 => by
    obtain ⟨n, h⟩ := nest_deep hk hf k
    have ho : opens x.k = true := by rcases hk with e | e | e <;> rw [e] <;> decide
    have e9 : 9 ≤ x.k ∧ x.k ≤ 13 := by omega
    have hi : itemF (n + 3) ByteArray.empty 0 (x :: (nest x (k + 40) ++ [tok0 15])) = .deep := by
      rw [itemF_s, pieceF_s, if_neg (by rw [ho]; decide), if_neg (by omega), withF_s, hf, emp_app, show aroundG x.k 0 = 0 by unfold aroundG; rw [if_pos e9], (rd_deep (x := [tok0 15]) rfl _).1 _ _ _ h]
      rfl
    rw [show k + 1 + 40 = (k + 40) + 1 by omega]
    exact ⟨n + 5, item_deep (opens_kind ho) hi⟩
abbrev opD (j : Nat) : ByteArray := if j = 0 then ⟨#[40, 63, 62]⟩ else if j = 1 then ⟨#[40, 63, 61]⟩ else ⟨#[40, 63, 33]⟩
theorem lex_opD : ∀ j, j < 3 → ∃ x : Tok, lexZ (opD j) = ([x], 0) ∧ (x.k = 9 ∨ x.k = 10 ∨ x.k = 13) ∧ x.f = ByteArray.empty ∧ bt (opD j) 0 = 40 ∧ (opD j).size ≤ 3
  | 0, _ => ⟨tok0 13, by kernel_rfl, .inr (.inr rfl), rfl, by decide, by decide⟩
  | 1, _ => ⟨tok0 9, by kernel_rfl, .inl rfl, rfl, by decide, by decide⟩
  | 2, _ => ⟨tok0 10, by kernel_rfl, .inr (.inl rfl), rfl, by decide, by decide⟩
/-- Within openings that make nodes: as deep as they are many, up to 40. -/
theorem deep_yes {j k : Nat} (hj : j < 3) (hk : k < 40) : ∃ L, parseZ (patD (opD j) k) = ((k + 1, L), 0) ∧ deepZ L (k + 1) = k + 1 := by
  obtain ⟨x, h1, h2, h3, h4, h5⟩ := lex_opD j hj
  obtain ⟨t, ⟨n, h⟩, hr, hc, hd, hn⟩ := nest_got h2 h3 k (by omega)
  have ho : opens x.k = true := by rcases h2 with e | e | e <;> rw [e] <;> decide
  refine ⟨t.2, ?_, by rw [← hn, hd, hn]⟩
  rw [parsed_of (lex_nest h4 h5 h1 k (by omega)) (scan_nest ho k) h hr, ← hn]
theorem deep_no {j k : Nat} (hj : j < 3) (hk : 40 ≤ k) (hk2 : k < 60) : (parseZ (patD (opD j) k)).2 = 4 ∧ (parseZ (patD (opD j) k)).1.1 = 0 := by
  obtain ⟨x, h1, h2, h3, h4, h5⟩ := lex_opD j hj
  obtain ⟨n, h⟩ := nest_deep h2 h3 (k - 40)
  rw [show k - 40 + 40 = k by omega] at h
  have ho : opens x.k = true := by rcases h2 with e | e | e <;> rw [e] <;> decide
  exact parsed_deep (lex_nest h4 h5 h1 k (by omega)) (scan_nest ho k) h
/-- Within (?: and ): one leaf. -/
theorem deep_plain : ∀ k, k < 60 → (parseZ (patD pre7 k)).2 = 0 ∧ (parseZ (patD pre7 k)).1.1 = 1
  | 0, _ => ⟨by kernel_rfl, by kernel_rfl⟩
  | k + 1, hk => by
    obtain ⟨h1, h2⟩ := deep_plain k (by omega)
    have hs := patD_size pre7 (by decide) k
    rw [patD, plain_z h1 (by omega)]
    exact ⟨rfl, h2⟩
end Go.Proofs.YtdnbpbngoiahlaaGreatDoor
