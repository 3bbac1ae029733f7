/-
  Layer 5, mathematics: what a tree comes to that is made of other trees.
-/
import Derived.Test.YtcjefhjhmmoocaaAstJoin
import Derived.Test.YtcjefhjhmmoocaaAstSame
import Derived.Test.YtcjefhjhmmoocaaAstRight
namespace Go.Proofs.Ytcjefhjhmmoocaa
open Go.RowKit

/-- The nodes of l, from place c on. -/
def Sh (l' : Nat → Nd) (c : Nat) (l : Nat → Nd) (m : Nat) : Prop := ∀ i, i < m → siz l (i + 1) ≠ 0 →
  l' (c + i) = { l i with a := if kidsZ (l i).k = 0 then (l i).a else (l i).a + (c : Int), b := if kidsZ (l i).k = 2 then (l i).b + (c : Int) else (l i).b }

theorem sh_join_a (la lb : Nat → Nd) (n m : Nat) (kind : Int) : Sh (joinL la n lb m kind) 0 la n := by
  intro i hi _
  rw [Nat.zero_add, join_a la n lb m kind hi]
  obtain ⟨k, a, b, s0, s1, s2, s3, mn, mx, md, nn, f⟩ := la i
  simp
theorem sh_wrap (l : Nat → Nd) (n : Nat) (x : Nd) : Sh (wrapL l n x) 0 l n := by
  intro i hi _
  rw [Nat.zero_add, wrapL, if_pos hi]
  obtain ⟨k, a, b, s0, s1, s2, s3, mn, mx, md, nn, f⟩ := l i
  simp
theorem wr_id {x : Int} (h : -4611686018427387904 ≤ x) (h' : x ≤ 4611686018427387903) : wrap64 x = x := by rw [wrap64]; omega
theorem sh_join_b (la lb : Nat → Nd) (n m : Nat) (kind : Int) (hn : n ≤ 1000000) (hm : m ≤ 1000000) : Sh (joinL la n lb m kind) n lb m := by
  intro i hi hs
  rw [join_b la n lb m kind hi]
  have hle := siz_le lb i
  obtain ⟨_, ⟨hk, ha, hb, _⟩ | ⟨hk, _, ha, hb, _⟩ | ⟨hk, _, _, ha, hb, _⟩⟩ := siz_pos hs
  · unfold mvN
    rw [if_neg (by omega), if_neg (by omega), if_pos hk, if_neg (by omega)]
  · unfold mvN
    rw [if_neg (by omega), if_pos hk, if_neg (by omega), if_neg (by omega), wr_id (x := (lb i).a + (n : Int)) (by omega) (by omega)]
  · unfold mvN
    rw [if_pos hk, if_neg (by omega), if_pos hk, wr_id (x := (lb i).a + (n : Int)) (by omega) (by omega), wr_id (x := (lb i).b + (n : Int)) (by omega) (by omega)]

theorem fits_ab (x : Nd) (a b : Int) : fitsB { x with a := a, b := b } = fitsB x := rfl

theorem sh_siz {l' l : Nat → Nd} {c m : Nat} (h : Sh l' c l m) : ∀ j, j ≤ m → siz l j ≠ 0 → siz l' (c + j) = siz l j := by
  intro j
  induction j using Nat.strongRecOn with
  | _ j ih =>
    intro hj hs
    cases j with
    | zero => exact absurd (siz_zero l) hs
    | succ k =>
      have hx := h k (by omega) hs
      have hle := siz_le l k
      obtain ⟨hf, ⟨hk, ha, hb, he⟩ | ⟨hk, h0, ha, hb, he⟩ | ⟨hk, h0, h1, ha, hb, he⟩⟩ := siz_pos hs
      · rw [hk, if_pos rfl, if_neg (by decide)] at hx
        have hf' : fitsB (l' (c + k)) = true := by rw [hx]; exact hf
        have hk' : kidsZ (l' (c + k)).k = 0 := by rw [hx]; exact hk
        have ha' : (l' (c + k)).a = 0 := by rw [hx]; exact ha
        have hb' : (l' (c + k)).b = 0 := by rw [hx]; exact hb
        rw [show c + (k + 1) = c + k + 1 by omega, siz_succ, if_pos hf', if_pos hk', if_pos ⟨ha', hb'⟩, he]
      · rw [hk, if_neg (by decide), if_neg (by decide)] at hx
        have hf' : fitsB (l' (c + k)) = true := by rw [hx]; exact hf
        have hk' : kidsZ (l' (c + k)).k = 1 := by rw [hx]; exact hk
        have ha' : (l' (c + k)).a = (l k).a + c := by rw [hx]
        have hb' : (l' (c + k)).b = 0 := by rw [hx]; exact hb
        have h2 := ih k (by omega) (by omega) h0
        rw [show c + (k + 1) = c + k + 1 by omega, siz_succ, if_pos hf', if_neg (by omega), h2, if_neg h0, if_pos hk', if_pos ⟨by omega, hb'⟩, he]
      · rw [hk, if_neg (by decide), if_pos rfl] at hx
        have hf' : fitsB (l' (c + k)) = true := by rw [hx]; exact hf
        have hk' : kidsZ (l' (c + k)).k = 2 := by rw [hx]; exact hk
        have ha' : (l' (c + k)).a = (l k).a + c := by rw [hx]
        have hb' : (l' (c + k)).b = (l k).b + c := by rw [hx]
        have h2 := ih k (by omega) (by omega) h0
        have h3 := ih (k - siz l k) (by omega) (by omega) h1
        rw [show c + (k + 1) = c + k + 1 by omega, siz_succ, if_pos hf', if_neg (by omega), h2, if_neg h0, if_neg (by omega), show c + k - siz l k = c + (k - siz l k) by omega, h3, if_neg h1, if_pos ⟨by omega, by omega⟩, he]

/-- A fold of the moved nodes. -/
theorem sh_fold {α : Type} {l' l : Nat → Nd} {c m : Nat} (h : Sh l' c l m) (z : α) (g0 g0' : Nat → α) (g1 g1' : Nat → α → α) (g2 g2' : Nat → α → α → α)
    (e0 : ∀ i, i < m → siz l (i + 1) ≠ 0 → g0' (c + i) = g0 i) (e1 : ∀ i x, i < m → siz l (i + 1) ≠ 0 → g1' (c + i) x = g1 i x) (e2 : ∀ i x y, i < m → siz l (i + 1) ≠ 0 → g2' (c + i) x y = g2 i x y) :
    ∀ j, j ≤ m → siz l j ≠ 0 → foldT l' z g0' g1' g2' (c + j) = foldT l z g0 g1 g2 j := by
  intro j
  induction j using Nat.strongRecOn with
  | _ j ih =>
    intro hj hs
    cases j with
    | zero => exact absurd (siz_zero l) hs
    | succ k =>
      have hx := h k (by omega) hs
      have hk' : (l' (c + k)).k = (l k).k := by rw [hx]
      rw [show c + (k + 1) = c + k + 1 by omega, foldT_succ, foldT_succ, hk']
      obtain ⟨hf, ⟨hk, ha, hb, he⟩ | ⟨hk, h0, ha, hb, he⟩ | ⟨hk, h0, h1, ha, hb, he⟩⟩ := siz_pos hs
      · rw [hk, if_pos rfl, if_pos rfl, e0 k (by omega) hs]
      · rw [hk]
        simp only [show ¬ (1 : Int) = 0 by decide, if_false, if_true]
        rw [ih k (by omega) (by omega) h0, e1 k _ (by omega) hs]
      · have hle := siz_le l k
        rw [hk]
        simp only [show ¬ (2 : Int) = 0 by decide, show ¬ (2 : Int) = 1 by decide, if_false]
        rw [sh_siz h k (by omega) h0, show c + k - siz l k = c + (k - siz l k) by omega, ih k (by omega) (by omega) h0, ih (k - siz l k) (by omega) (by omega) h1, e2 k _ _ (by omega) hs]

theorem sh_dep {l' l : Nat → Nd} {c m : Nat} (h : Sh l' c l m) (j : Nat) (hj : j ≤ m) (hs : siz l j ≠ 0) : dep l' (c + j) = dep l j :=
  sh_fold h 0 _ _ _ _ _ _ (fun _ _ _ => rfl) (fun _ _ _ _ => rfl) (fun _ _ _ _ _ => rfl) j hj hs
theorem sh_len {l' l : Nat → Nd} {c m : Nat} (h : Sh l' c l m) (j : Nat) (hj : j ≤ m) (hs : siz l j ≠ 0) : len l' (c + j) = len l j :=
  sh_fold h (0, 0) _ _ _ _ _ _ (fun i hi hs => by rw [h i hi hs]) (fun i x hi hs => by rw [h i hi hs]) (fun i x y hi hs => by rw [h i hi hs]) j hj hs

/-- Two in order, and one around both. -/
theorem join_in {la lb : Nat → Nd} {n m : Nat} {kind : Int} (hk : kind = 8 ∨ kind = 9) (hn : n ≤ 1000) (hm : m ≤ 1000) (h0 : 0 < n) (h1 : 0 < m) (ha : siz la n = n) (hb : siz lb m = m) :
    siz (joinL la n lb m kind) (n + m) = m ∧ siz (joinL la n lb m kind) n = n ∧ siz (joinL la n lb m kind) (n + m + 1) = n + m + 1 := by
  have e1 := sh_siz (sh_join_b la lb n m kind (by omega) (by omega)) m (Nat.le_refl _) (by omega)
  have e2 := sh_siz (sh_join_a la lb n m kind) n (Nat.le_refl _) (by omega)
  rw [Nat.zero_add] at e2
  rw [hb] at e1
  rw [ha] at e2
  refine ⟨e1, e2, ?_⟩
  have ht := join_top la n lb m kind
  rw [if_neg (by omega)] at ht
  have hf : fitsB (joinL la n lb m kind (n + m)) = true := by
    rw [ht]; unfold fitsB; rcases hk with rfl | rfl <;> simp
  have hk2 : kidsZ (joinL la n lb m kind (n + m)).k = 2 := by
    rw [ht]; unfold kidsZ; rcases hk with rfl | rfl <;> simp
  have hA : (joinL la n lb m kind (n + m)).a = (n : Int) - 1 := by rw [ht]
  have hB : (joinL la n lb m kind (n + m)).b = (n : Int) + m - 1 := by rw [ht]
  rw [siz_succ, if_pos hf, if_neg (by omega), e1, if_neg (by omega), if_neg (by omega), show n + m - m = n by omega, e2, if_neg (by omega), if_pos ⟨by omega, by omega⟩]
theorem join_dep {la lb : Nat → Nd} {n m : Nat} {kind : Int} (hk : kind = 8 ∨ kind = 9) (hn : n ≤ 1000) (hm : m ≤ 1000) (h0 : 0 < n) (h1 : 0 < m) (ha : siz la n = n) (hb : siz lb m = m) :
    dep (joinL la n lb m kind) (n + m + 1) = 1 + max (dep la n) (dep lb m) := by
  obtain ⟨e1, e2, -⟩ := join_in hk hn hm h0 h1 ha hb
  have ht := join_top la n lb m kind
  have d1 := sh_dep (sh_join_b la lb n m kind (by omega) (by omega)) m (Nat.le_refl _) (by omega)
  have d2 := sh_dep (sh_join_a la lb n m kind) n (Nat.le_refl _) (by omega)
  rw [Nat.zero_add] at d2
  have hk2 : kidsZ (joinL la n lb m kind (n + m)).k = 2 := by
    rw [ht]; unfold kidsZ; rcases hk with rfl | rfl <;> simp
  rw [dep_succ, hk2, if_neg (by decide), if_neg (by decide), e1, show n + m - m = n by omega, d1, d2]
theorem join_len {la lb : Nat → Nd} {n m : Nat} (hn : n ≤ 1000) (hm : m ≤ 1000) (h0 : 0 < n) (h1 : 0 < m) (ha : siz la n = n) (hb : siz lb m = m) :
    len (joinL la n lb m 8) (n + m + 1) = (plusZ (len la n).1 (len lb m).1, plusZ (len la n).2 (len lb m).2) := by
  obtain ⟨e1, e2, -⟩ := join_in (kind := 8) (.inl rfl) hn hm h0 h1 ha hb
  have ht := join_top la n lb m 8
  have d1 := sh_len (sh_join_b la lb n m 8 (by omega) (by omega)) m (Nat.le_refl _) (by omega)
  have d2 := sh_len (sh_join_a la lb n m 8) n (Nat.le_refl _) (by omega)
  rw [Nat.zero_add] at d2
  have hk8 : (joinL la n lb m 8 (n + m)).k = 8 := by rw [ht]
  rw [len_succ, hk8, if_neg (by decide), if_neg (by decide), if_pos rfl, e1, show n + m - m = n by omega, d1, d2]

/-- One in order, and one around it. -/
theorem wrap_top (l : Nat → Nd) (n : Nat) (x : Nd) : wrapL l n x n = { x with a := (n : Int) - 1, b := 0 } := if_neg (Nat.lt_irrefl n)
theorem wrap_in {l : Nat → Nd} {n : Nat} {x : Nd} (hk : kidsZ x.k = 1) (hf : fitsB x = true) (h0 : 0 < n) (h : siz l n = n) :
    siz (wrapL l n x) n = n ∧ siz (wrapL l n x) (n + 1) = n + 1 := by
  have e2 := sh_siz (sh_wrap l n x) n (Nat.le_refl _) (by omega)
  rw [Nat.zero_add, h] at e2
  refine ⟨e2, ?_⟩
  have ht := wrap_top l n x
  have hf' : fitsB (wrapL l n x n) = true := by rw [ht]; exact hf
  have hk2 : kidsZ (wrapL l n x n).k = 1 := by rw [ht]; exact hk
  have hA : (wrapL l n x n).a = (n : Int) - 1 := by rw [ht]
  have hB : (wrapL l n x n).b = 0 := by rw [ht]
  rw [siz_succ, if_pos hf', if_neg (by omega), e2, if_neg (by omega), if_pos hk2, if_pos ⟨by omega, hB⟩]
theorem wrap_dep {l : Nat → Nd} {n : Nat} {x : Nd} (hk : kidsZ x.k = 1) (h0 : 0 < n) (h : siz l n = n) : dep (wrapL l n x) (n + 1) = 1 + dep l n := by
  have d2 := sh_dep (sh_wrap l n x) n (Nat.le_refl _) (by omega)
  rw [Nat.zero_add] at d2
  have hk2 : kidsZ (wrapL l n x n).k = 1 := by rw [wrap_top]; exact hk
  rw [dep_succ, hk2, if_neg (by decide), if_pos rfl, d2]
theorem wrap_len10 {l : Nat → Nd} {n : Nat} {x : Nd} (hk : x.k = 10) (h0 : 0 < n) (h : siz l n = n) : len (wrapL l n x) (n + 1) = (timesZ (len l n).1 x.mn, timesZ (len l n).2 x.mx) := by
  have d2 := sh_len (sh_wrap l n x) n (Nat.le_refl _) (by omega)
  rw [Nat.zero_add] at d2
  have ht := wrap_top l n x
  have hk2 : (wrapL l n x n).k = 10 := by rw [ht]; exact hk
  rw [len_succ, hk2, if_neg (by decide), if_pos (by decide), if_pos rfl, d2, ht]
theorem wrap_len17 {l : Nat → Nd} {n : Nat} {x : Nd} (hk : x.k = 17) (h0 : 0 < n) (h : siz l n = n) : len (wrapL l n x) (n + 1) = len l n := by
  have d2 := sh_len (sh_wrap l n x) n (Nat.le_refl _) (by omega)
  rw [Nat.zero_add] at d2
  have hk2 : (wrapL l n x n).k = 17 := by rw [wrap_top]; exact hk
  rw [len_succ, hk2, if_neg (by decide), if_pos (by decide), if_neg (by decide), if_pos (by decide), d2]

/-- How many groups. -/
theorem cnt_congr {l l' : Nat → Nd} : ∀ j, (∀ i, i < j → (l' i).k = (l i).k) → cntG l' j = cntG l j
  | 0, _ => rfl
  | j + 1, h => by unfold cntG; rw [h j (by omega), cnt_congr j fun i hi => h i (by omega)]
theorem mvN_k (x : Nd) (n : Int) : (mvN x n).k = x.k := by unfold mvN; (repeat' split) <;> rfl
theorem cnt_shift {l l' : Nat → Nd} {c : Nat} : ∀ j, (∀ i, i < j → (l' (c + i)).k = (l i).k) → cntG l' (c + j) = cntG l' c + cntG l j
  | 0, _ => rfl
  | j + 1, h => by
    rw [show c + (j + 1) = c + j + 1 by omega, cntG, cntG, h j (by omega), cnt_shift j fun i hi => h i (by omega)]
    omega
theorem join_cnt (la lb : Nat → Nd) (n m : Nat) (kind : Int) (hk : kind ≠ 11) : cntG (joinL la n lb m kind) (n + m + 1) = cntG la n + cntG lb m := by
  rw [cntG, cnt_shift (l := lb) m fun i hi => by rw [join_b la n lb m kind hi, mvN_k], cnt_congr (l := la) n fun i hi => by rw [join_a la n lb m kind hi], join_top]
  rw [if_neg hk]
  omega
end Go.Proofs.Ytcjefhjhmmoocaa
