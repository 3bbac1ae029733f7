/-
  AstSame, AstGrow, AstLenMath, AstGrowFacts, AstOrderFacts
-/
import Derived.Test.YtkpijnodhlonfaaGreatDoorAstD
import Derived.Test.YtkpijnodhlonfaaGreatDoorAstH
import Derived.Test.YtkpijnodhlonfaaGreatDoorAstG
namespace Go.Proofs.YtkpijnodhlonfaaGreatDoor.Ast
open Go.RowKit

theorem eqNode53 (x y : Nd) (w : World) : (Op.equalIn 10000 70 (ndV x) (ndV y)).run Tryz.prog w = .ok (decide (x = y)) w := by
  have hs : decide (x = y) = decide (x.k = y.k ∧ x.a = y.a ∧ x.b = y.b ∧ (x.s0 = y.s0 ∧ x.s1 = y.s1 ∧ x.s2 = y.s2 ∧ x.s3 = y.s3) ∧ x.mn = y.mn ∧ x.mx = y.mx ∧ x.md = y.md ∧ x.n = y.n ∧ x.f = y.f) := by simp only [Nd.ext_iff' x y]
  rw [hs]
  simp [go_sem]
  rcases Decidable.em (x.k = y.k) with h1 | h1
  · rcases Decidable.em (x.a = y.a) with h2 | h2
    · rcases Decidable.em (x.b = y.b) with h3 | h3
      · rcases Decidable.em (x.s0 = y.s0 ∧ x.s1 = y.s1 ∧ x.s2 = y.s2 ∧ x.s3 = y.s3) with h4 | h4
        · simp [h1, h2, h3, h4]
          by_cases h5 : x.mn = y.mn <;> by_cases h6 : x.mx = y.mx <;> by_cases h7 : x.md = y.md <;> by_cases h8 : x.n = y.n <;> by_cases h9 : x.f = y.f <;> simp [h5, h6, h7, h8, h9]
        · have h5 : decide (x.s0 = y.s0 ∧ x.s1 = y.s1 ∧ x.s2 = y.s2 ∧ x.s3 = y.s3) = false := decide_eq_false h4
          have h6 : x.s0 = y.s0 → x.s1 = y.s1 → x.s2 = y.s2 → ¬x.s3 = y.s3 := fun a b c d => h4 ⟨a, b, c, d⟩
          rw [if_pos h1, if_pos h2, if_pos h3, if_pos h6]
          simp only [Bool.decide_and] at h5
          rw [h5]
          simp
      · simp [h1, h2, h3]
    · simp [h1, h2]
  · simp [h1]
@[go_sem 10000] theorem neqNode53 (k a b s0 s1 s2 s3 mn mx md n k' a' b' s0' s1' s2' s3' mn' mx' md' n' : Int) (f f' : Bool) (w : World) :
    (binOp .neq 70 (.agg #[.int .i64 k, .int .i64 a, .int .i64 b, .int .u64 s0, .int .u64 s1, .int .u64 s2, .int .u64 s3, .int .i64 mn, .int .i64 mx, .int .i64 md, .int .i64 n, .bool f]) (.agg #[.int .i64 k', .int .i64 a', .int .i64 b', .int .u64 s0', .int .u64 s1', .int .u64 s2', .int .u64 s3', .int .i64 mn', .int .i64 mx', .int .i64 md', .int .i64 n', .bool f'])).run Tryz.prog w =
      .ok (.bool (!eqN ⟨k, a, b, s0, s1, s2, s3, mn, mx, md, n, f⟩ ⟨k', a', b', s0', s1', s2', s3', mn', mx', md', n', f'⟩)) w := by
  rw [run_neq_struct]
  have h := eqNode53 ⟨k, a, b, s0, s1, s2, s3, mn, mx, md, n, f⟩ ⟨k', a', b', s0', s1', s2', s3', mn', mx', md', n', f'⟩ w
  rw [h]
  rfl

/-- Are the first nodes the same? -/
def sameB (l l' : Nat → Nd) : Nat → Bool
  | 0 => true
  | k + 1 => sameB l l' k && eqN (l k) (l' k)
def sameZ (l : Nat → Nd) (n : Nat) (l' : Nat → Nd) (n' : Nat) : Bool := decide (n = n') && sameB l l' n
theorem sameB_iff (l l' : Nat → Nd) (n : Nat) : sameB l l' n = true ↔ ∀ i, i < n → l i = l' i := by
  induction n with
  | zero => exact ⟨fun _ i _h => by omega, fun _ => rfl⟩
  | succ n ih =>
    unfold sameB eqN
    rw [Bool.and_eq_true, ih, decide_eq_true_eq]
    constructor
    · rintro ⟨h1, h2⟩ i hi
      by_cases e : i = n
      · subst e; exact h2
      · exact h1 i (by omega)
    · intro h
      exact ⟨fun i hi => h i (by omega), h n (by omega)⟩
theorem sameZ_iff (l : Nat → Nd) (n : Nat) (l' : Nat → Nd) (n' : Nat) : sameZ l n l' n' = true ↔ n = n' ∧ ∀ i, i < n → l i = l' i := by
  unfold sameZ
  rw [Bool.and_eq_true, decide_eq_true_eq, sameB_iff]
theorem same_no {l l' : Nat → Nd} {k n : Nat} (_h : sameB l l' k = true) (hk : k < n) (he : eqN (l k) (l' k) = false) : sameB l l' n = false := by
  cases hh : sameB l l' n with
  | false => rfl
  | true =>
    have := (sameB_iff l l' n).1 hh k hk
    unfold eqN at he
    simp [this] at he

end Go.Proofs.YtkpijnodhlonfaaGreatDoor.Ast

namespace Go.Proofs.YtkpijnodhlonfaaGreatDoor.Ast
open Go.RowKit

/-- The nodes of l, from place c on. -/
def Sh (l' : Nat → Nd) (c : Nat) (l : Nat → Nd) (m : Nat) : Prop := ∀ i, i < m → siz l (i + 1) ≠ 0 →
  l' (c + i) = { l i with a := if kidsZ (l i).k = 0 then (l i).a else (l i).a + (c : Int), b := if kidsZ (l i).k = 2 then (l i).b + (c : Int) else (l i).b }

theorem sh_join_a (la lb : Nat → Nd) (n m : Nat) (kind : Int) : Sh (joinL la n lb m kind) 0 la n := by
  intro i hi _
  rw [Nat.zero_add, join_a la n lb m kind hi]
  obtain ⟨k, a, b, s0, s1, s2, s3, mn, mx, md, nn, f⟩ := la i
  simp
theorem sh_wrap (l : Nat → Nd) (n : Nat) (x : Nd) : Sh (wrapL l n x) 0 l n := by
  intro i hi _
  rw [Nat.zero_add, wrapL, if_pos hi]
  obtain ⟨k, a, b, s0, s1, s2, s3, mn, mx, md, nn, f⟩ := l i
  simp
theorem wr_id {x : Int} (h : -4611686018427387904 ≤ x) (h' : x ≤ 4611686018427387903) : wrap64 x = x := by rw [wrap64]; omega
theorem sh_join_b (la lb : Nat → Nd) (n m : Nat) (kind : Int) (hn : n ≤ 1000000) (hm : m ≤ 1000000) : Sh (joinL la n lb m kind) n lb m := by
  intro i hi hs
  rw [join_b la n lb m kind hi]
  have hle := siz_le lb i
  obtain ⟨_, ⟨hk, ha, hb, _⟩ | ⟨hk, _, ha, hb, _⟩ | ⟨hk, _, _, ha, hb, _⟩⟩ := siz_pos hs
  · unfold mvN
    rw [if_neg (by omega), if_neg (by omega), if_pos hk, if_neg (by omega)]
  · unfold mvN
    rw [if_neg (by omega), if_pos hk, if_neg (by omega), if_neg (by omega), wr_id (x := (lb i).a + (n : Int)) (by omega) (by omega)]
  · unfold mvN
    rw [if_pos hk, if_neg (by omega), if_pos hk, wr_id (x := (lb i).a + (n : Int)) (by omega) (by omega), wr_id (x := (lb i).b + (n : Int)) (by omega) (by omega)]

theorem fits_ab (x : Nd) (a b : Int) : fitsB { x with a := a, b := b } = fitsB x := rfl

theorem sh_siz {l' l : Nat → Nd} {c m : Nat} (h : Sh l' c l m) : ∀ j, j ≤ m → siz l j ≠ 0 → siz l' (c + j) = siz l j := by
  intro j
  induction j using Nat.strongRecOn with
  | _ j ih =>
    intro hj hs
    cases j with
    | zero => exact absurd (siz_zero l) hs
    | succ k =>
      have hx := h k (by omega) hs
      have hle := siz_le l k
      obtain ⟨hf, ⟨hk, ha, hb, he⟩ | ⟨hk, h0, ha, hb, he⟩ | ⟨hk, h0, h1, ha, hb, he⟩⟩ := siz_pos hs
      · rw [hk, if_pos rfl, if_neg (by decide)] at hx
        have hf' : fitsB (l' (c + k)) = true := by rw [hx]; exact hf
        have hk' : kidsZ (l' (c + k)).k = 0 := by rw [hx]; exact hk
        have ha' : (l' (c + k)).a = 0 := by rw [hx]; exact ha
        have hb' : (l' (c + k)).b = 0 := by rw [hx]; exact hb
        rw [show c + (k + 1) = c + k + 1 by omega, siz_succ, if_pos hf', if_pos hk', if_pos ⟨ha', hb'⟩, he]
      · rw [hk, if_neg (by decide), if_neg (by decide)] at hx
        have hf' : fitsB (l' (c + k)) = true := by rw [hx]; exact hf
        have hk' : kidsZ (l' (c + k)).k = 1 := by rw [hx]; exact hk
        have ha' : (l' (c + k)).a = (l k).a + c := by rw [hx]
        have hb' : (l' (c + k)).b = 0 := by rw [hx]; exact hb
        have h2 := ih k (by omega) (by omega) h0
        rw [show c + (k + 1) = c + k + 1 by omega, siz_succ, if_pos hf', if_neg (by omega), h2, if_neg h0, if_pos hk', if_pos ⟨by omega, hb'⟩, he]
      · rw [hk, if_neg (by decide), if_pos rfl] at hx
        have hf' : fitsB (l' (c + k)) = true := by rw [hx]; exact hf
        have hk' : kidsZ (l' (c + k)).k = 2 := by rw [hx]; exact hk
        have ha' : (l' (c + k)).a = (l k).a + c := by rw [hx]
        have hb' : (l' (c + k)).b = (l k).b + c := by rw [hx]
        have h2 := ih k (by omega) (by omega) h0
        have h3 := ih (k - siz l k) (by omega) (by omega) h1
        rw [show c + (k + 1) = c + k + 1 by omega, siz_succ, if_pos hf', if_neg (by omega), h2, if_neg h0, if_neg (by omega), show c + k - siz l k = c + (k - siz l k) by omega, h3, if_neg h1, if_pos ⟨by omega, by omega⟩, he]

/-- A fold of the moved nodes. -/
theorem sh_fold {α : Type} {l' l : Nat → Nd} {c m : Nat} (h : Sh l' c l m) (z : α) (g0 g0' : Nat → α) (g1 g1' : Nat → α → α) (g2 g2' : Nat → α → α → α)
    (e0 : ∀ i, i < m → siz l (i + 1) ≠ 0 → g0' (c + i) = g0 i) (e1 : ∀ i x, i < m → siz l (i + 1) ≠ 0 → g1' (c + i) x = g1 i x) (e2 : ∀ i x y, i < m → siz l (i + 1) ≠ 0 → g2' (c + i) x y = g2 i x y) :
    ∀ j, j ≤ m → siz l j ≠ 0 → foldT l' z g0' g1' g2' (c + j) = foldT l z g0 g1 g2 j := by
  intro j
  induction j using Nat.strongRecOn with
  | _ j ih =>
    intro hj hs
    cases j with
    | zero => exact absurd (siz_zero l) hs
    | succ k =>
      have hx := h k (by omega) hs
      have hk' : (l' (c + k)).k = (l k).k := by rw [hx]
      rw [show c + (k + 1) = c + k + 1 by omega, foldT_succ, foldT_succ, hk']
      obtain ⟨hf, ⟨hk, ha, hb, he⟩ | ⟨hk, h0, ha, hb, he⟩ | ⟨hk, h0, h1, ha, hb, he⟩⟩ := siz_pos hs
      · rw [hk, if_pos rfl, if_pos rfl, e0 k (by omega) hs]
      · rw [hk]
        simp only [show ¬ (1 : Int) = 0 by decide, if_false, if_true]
        rw [ih k (by omega) (by omega) h0, e1 k _ (by omega) hs]
      · have hle := siz_le l k
        rw [hk]
        simp only [show ¬ (2 : Int) = 0 by decide, show ¬ (2 : Int) = 1 by decide, if_false]
        rw [sh_siz h k (by omega) h0, show c + k - siz l k = c + (k - siz l k) by omega, ih k (by omega) (by omega) h0, ih (k - siz l k) (by omega) (by omega) h1, e2 k _ _ (by omega) hs]

theorem sh_dep {l' l : Nat → Nd} {c m : Nat} (h : Sh l' c l m) (j : Nat) (hj : j ≤ m) (hs : siz l j ≠ 0) : dep l' (c + j) = dep l j :=
  sh_fold h 0 _ _ _ _ _ _ (fun _ _ _ => rfl) (fun _ _ _ _ => rfl) (fun _ _ _ _ _ => rfl) j hj hs
theorem sh_len {l' l : Nat → Nd} {c m : Nat} (h : Sh l' c l m) (j : Nat) (hj : j ≤ m) (hs : siz l j ≠ 0) : len l' (c + j) = len l j :=
  sh_fold h (0, 0) _ _ _ _ _ _ (fun i hi hs => by rw [h i hi hs]) (fun i x hi hs => by rw [h i hi hs]) (fun i x y hi hs => by rw [h i hi hs]) j hj hs

/-- Two in order, and one around both. -/
theorem join_in {la lb : Nat → Nd} {n m : Nat} {kind : Int} (hk : kind = 8 ∨ kind = 9) (hn : n ≤ 1000) (hm : m ≤ 1000) (h0 : 0 < n) (h1 : 0 < m) (ha : siz la n = n) (hb : siz lb m = m) :
    siz (joinL la n lb m kind) (n + m) = m ∧ siz (joinL la n lb m kind) n = n ∧ siz (joinL la n lb m kind) (n + m + 1) = n + m + 1 := by
  have e1 := sh_siz (sh_join_b la lb n m kind (by omega) (by omega)) m (Nat.le_refl _) (by omega)
  have e2 := sh_siz (sh_join_a la lb n m kind) n (Nat.le_refl _) (by omega)
  rw [Nat.zero_add] at e2
  rw [hb] at e1
  rw [ha] at e2
  refine ⟨e1, e2, ?_⟩
  have ht := join_top la n lb m kind
  rw [if_neg (by omega)] at ht
  have hf : fitsB (joinL la n lb m kind (n + m)) = true := by
    rw [ht]; unfold fitsB; rcases hk with rfl | rfl <;> simp
  have hk2 : kidsZ (joinL la n lb m kind (n + m)).k = 2 := by
    rw [ht]; unfold kidsZ; rcases hk with rfl | rfl <;> simp
  have hA : (joinL la n lb m kind (n + m)).a = (n : Int) - 1 := by rw [ht]
  have hB : (joinL la n lb m kind (n + m)).b = (n : Int) + m - 1 := by rw [ht]
  rw [siz_succ, if_pos hf, if_neg (by omega), e1, if_neg (by omega), if_neg (by omega), show n + m - m = n by omega, e2, if_neg (by omega), if_pos ⟨by omega, by omega⟩]
theorem join_dep {la lb : Nat → Nd} {n m : Nat} {kind : Int} (hk : kind = 8 ∨ kind = 9) (hn : n ≤ 1000) (hm : m ≤ 1000) (h0 : 0 < n) (h1 : 0 < m) (ha : siz la n = n) (hb : siz lb m = m) :
    dep (joinL la n lb m kind) (n + m + 1) = 1 + max (dep la n) (dep lb m) := by
  obtain ⟨e1, e2, -⟩ := join_in hk hn hm h0 h1 ha hb
  have ht := join_top la n lb m kind
  have d1 := sh_dep (sh_join_b la lb n m kind (by omega) (by omega)) m (Nat.le_refl _) (by omega)
  have d2 := sh_dep (sh_join_a la lb n m kind) n (Nat.le_refl _) (by omega)
  rw [Nat.zero_add] at d2
  have hk2 : kidsZ (joinL la n lb m kind (n + m)).k = 2 := by
    rw [ht]; unfold kidsZ; rcases hk with rfl | rfl <;> simp
  rw [dep_succ, hk2, if_neg (by decide), if_neg (by decide), e1, show n + m - m = n by omega, d1, d2]
theorem join_len {la lb : Nat → Nd} {n m : Nat} (hn : n ≤ 1000) (hm : m ≤ 1000) (h0 : 0 < n) (h1 : 0 < m) (ha : siz la n = n) (hb : siz lb m = m) :
    len (joinL la n lb m 8) (n + m + 1) = (plusZ (len la n).1 (len lb m).1, plusZ (len la n).2 (len lb m).2) := by
  obtain ⟨e1, e2, -⟩ := join_in (kind := 8) (.inl rfl) hn hm h0 h1 ha hb
  have ht := join_top la n lb m 8
  have d1 := sh_len (sh_join_b la lb n m 8 (by omega) (by omega)) m (Nat.le_refl _) (by omega)
  have d2 := sh_len (sh_join_a la lb n m 8) n (Nat.le_refl _) (by omega)
  rw [Nat.zero_add] at d2
  have hk8 : (joinL la n lb m 8 (n + m)).k = 8 := by rw [ht]
  rw [len_succ, hk8, if_neg (by decide), if_neg (by decide), if_pos rfl, e1, show n + m - m = n by omega, d1, d2]

/-- One in order, and one around it. -/
theorem wrap_top (l : Nat → Nd) (n : Nat) (x : Nd) : wrapL l n x n = { x with a := (n : Int) - 1, b := 0 } := if_neg (Nat.lt_irrefl n)
theorem wrap_in {l : Nat → Nd} {n : Nat} {x : Nd} (hk : kidsZ x.k = 1) (hf : fitsB x = true) (h0 : 0 < n) (h : siz l n = n) :
    siz (wrapL l n x) n = n ∧ siz (wrapL l n x) (n + 1) = n + 1 := by
  have e2 := sh_siz (sh_wrap l n x) n (Nat.le_refl _) (by omega)
  rw [Nat.zero_add, h] at e2
  refine ⟨e2, ?_⟩
  have ht := wrap_top l n x
  have hf' : fitsB (wrapL l n x n) = true := by rw [ht]; exact hf
  have hk2 : kidsZ (wrapL l n x n).k = 1 := by rw [ht]; exact hk
  have hA : (wrapL l n x n).a = (n : Int) - 1 := by rw [ht]
  have hB : (wrapL l n x n).b = 0 := by rw [ht]
  rw [siz_succ, if_pos hf', if_neg (by omega), e2, if_neg (by omega), if_pos hk2, if_pos ⟨by omega, hB⟩]
theorem wrap_dep {l : Nat → Nd} {n : Nat} {x : Nd} (hk : kidsZ x.k = 1) (h0 : 0 < n) (h : siz l n = n) : dep (wrapL l n x) (n + 1) = 1 + dep l n := by
  have d2 := sh_dep (sh_wrap l n x) n (Nat.le_refl _) (by omega)
  rw [Nat.zero_add] at d2
  have hk2 : kidsZ (wrapL l n x n).k = 1 := by rw [wrap_top]; exact hk
  rw [dep_succ, hk2, if_neg (by decide), if_pos rfl, d2]
theorem wrap_len10 {l : Nat → Nd} {n : Nat} {x : Nd} (hk : x.k = 10) (h0 : 0 < n) (h : siz l n = n) : len (wrapL l n x) (n + 1) = (timesZ (len l n).1 x.mn, timesZ (len l n).2 x.mx) := by
  have d2 := sh_len (sh_wrap l n x) n (Nat.le_refl _) (by omega)
  rw [Nat.zero_add] at d2
  have ht := wrap_top l n x
  have hk2 : (wrapL l n x n).k = 10 := by rw [ht]; exact hk
  rw [len_succ, hk2, if_neg (by decide), if_pos (by decide), if_pos rfl, d2, ht]
theorem wrap_len17 {l : Nat → Nd} {n : Nat} {x : Nd} (hk : x.k = 17) (h0 : 0 < n) (h : siz l n = n) : len (wrapL l n x) (n + 1) = len l n := by
  have d2 := sh_len (sh_wrap l n x) n (Nat.le_refl _) (by omega)
  rw [Nat.zero_add] at d2
  have hk2 : (wrapL l n x n).k = 17 := by rw [wrap_top]; exact hk
  rw [len_succ, hk2, if_neg (by decide), if_pos (by decide), if_neg (by decide), if_pos (by decide), d2]

/-- How many groups. -/
theorem cnt_congr {l l' : Nat → Nd} : ∀ j, (∀ i, i < j → (l' i).k = (l i).k) → cntG l' j = cntG l j
  | 0, _ => rfl
  | j + 1, h => by unfold cntG; rw [h j (by omega), cnt_congr j fun i hi => h i (by omega)]
theorem mvN_k (x : Nd) (n : Int) : (mvN x n).k = x.k := by unfold mvN; (repeat' split) <;> rfl
theorem cnt_shift {l l' : Nat → Nd} {c : Nat} : ∀ j, (∀ i, i < j → (l' (c + i)).k = (l i).k) → cntG l' (c + j) = cntG l' c + cntG l j
  | 0, _ => rfl
  | j + 1, h => by
    rw [show c + (j + 1) = c + j + 1 by omega, cntG, cntG, h j (by omega), cnt_shift j fun i hi => h i (by omega)]
    omega
theorem join_cnt (la lb : Nat → Nd) (n m : Nat) (kind : Int) (hk : kind ≠ 11) : cntG (joinL la n lb m kind) (n + m + 1) = cntG la n + cntG lb m := by
  rw [cntG, cnt_shift (l := lb) m fun i hi => by rw [join_b la n lb m kind hi, mvN_k], cnt_congr (l := la) n fun i hi => by rw [join_a la n lb m kind hi], join_top]
  rw [if_neg hk]
  omega
end Go.Proofs.YtkpijnodhlonfaaGreatDoor.Ast

namespace Go.Proofs.YtkpijnodhlonfaaGreatDoor.Ast

theorem lenZ_bad {l : Nat → Nd} {m : Nat} (h : shapeZ l m ≠ 0) (i : Int) : lenZ l m i = (0, 0, shapeZ l m) := by unfold lenZ; rw [if_pos h]
theorem lenZ_last {l : Nat → Nd} {m : Nat} (h : shapeZ l m = 0) : lenZ l m ((m : Int) - 1) = ((len l m).1, (len l m).2, 0) := by
  obtain ⟨_, h0, _⟩ := form_0 (shape_0 h).1
  unfold lenZ
  rw [if_neg (by omega), if_neg (by omega), show ((m : Int) - 1).toNat + 1 = m by omega]
theorem deep_shape {l : Nat → Nd} {m : Nat} (h : shapeZ l m = 0) : deepZ l m = dep l m := by
  unfold deepZ
  rw [if_pos (shape_0 h).1]

theorem shape_of {l : Nat → Nd} {m : Nat} (h : siz l m = m) (h0 : 0 < m) (hm : m ≤ 500) (hd : dep l m ≤ 40) : shapeZ l m = 0 := by
  have hf : formZ l m = 0 := by
    unfold formZ goodB
    rw [if_neg (by omega), decide_eq_true ⟨h0, h⟩]
    rfl
  unfold shapeZ
  rw [if_neg (by omega)]
  exact hf
theorem wrap_shape {l : Nat → Nd} {m : Nat} {x : Nd} (hk : kidsZ x.k = 1) (hf : fitsB x = true) (h : shapeZ l m = 0) (hm : m ≤ 400) (hd : dep l m ≤ 39) : shapeZ (wrapL l m x) (m + 1) = 0 := by
  obtain ⟨h1, h2⟩ := shape_0 h
  obtain ⟨_, h0, hs⟩ := form_0 h1
  refine shape_of (wrap_in hk hf h0 hs).2 (by omega) (by omega) ?_
  rw [wrap_dep hk h0 hs]
  omega
theorem times_mono {a b : Int} {k k' : Int} (ha : 0 ≤ a) (hab : a ≤ b) (hk : 0 ≤ k) (hkk : k ≤ k') : timesZ a k ≤ timesZ b k' := by
  have h : a * k ≤ b * k' := Int.mul_le_mul hab hkk hk (by omega)
  have h0 : 0 ≤ b * k' := Int.mul_nonneg (by omega) (by omega)
  unfold timesZ
  split
  · split
    · omega
    · rw [if_neg (by omega)]; omega
  · rename_i h1
    rw [if_neg (by omega), if_neg (by omega), if_neg (by omega)]
    omega
theorem len_ord (l : Nat → Nd) : ∀ j, siz l j ≠ 0 → (len l j).2 = -1 ∨ (len l j).1 ≤ (len l j).2 := by
  intro j
  induction j using Nat.strongRecOn with
  | _ j ih =>
    intro hs
    cases j with
    | zero => exact absurd (siz_zero l) hs
    | succ i =>
      have hle := siz_le l i
      rw [len_succ]
      obtain ⟨hf, ⟨hk, ha, hb, he⟩ | ⟨hk, h0, ha, hb, he⟩ | ⟨hk, h0, h1, ha, hb, he⟩⟩ := siz_pos hs
      · rw [hk]
        simp only [if_true]
        split
        · right; exact Int.le_refl _
        · split
          · left; rfl
          · right; exact Int.le_refl _
      · rw [hk]
        simp only [show ¬ (1 : Int) = 0 by decide, if_false, if_true]
        have h2 := ih i (by omega) h0
        obtain ⟨⟨b1, b2⟩, b3, b4⟩ := len_bd l i h0
        split
        · rename_i h10
          have hf' : 0 ≤ (l i).mn ∧ (l i).mn ≤ 100 ∧ (l i).mx ≤ 100 ∧ ((l i).mx = -1 ∨ (l i).mn ≤ (l i).mx) := by
            unfold fitsB at hf
            have := of_decide_eq_true hf
            omega
          obtain ⟨m1, m2, m3, m4⟩ := hf'
          show timesZ (len l i).2 (l i).mx = -1 ∨ timesZ (len l i).1 (l i).mn ≤ timesZ (len l i).2 (l i).mx
          generalize (len l i).1 = p at *
          generalize (len l i).2 = q at *
          by_cases hq : q = 0
          · have hp : p = 0 := by omega
            subst hq hp
            right
            simp [timesZ]
          · by_cases hx : (l i).mx = 0
            · have hn : (l i).mn = 0 := by omega
              rw [hx, hn]
              right
              simp [timesZ]
            · by_cases hneg : q < 0 ∨ (l i).mx < 0
              · left
                unfold timesZ
                rw [if_neg (by omega), if_pos hneg]
              · right
                exact times_mono b1 (by omega) m1 (by omega)
        · split
          · exact h2
          · right; exact Int.le_refl _
      · rw [hk]
        simp only [show ¬ (2 : Int) = 0 by decide, show ¬ (2 : Int) = 1 by decide, if_false]
        have h2 := ih i (by omega) h0
        have h3 := ih (i - siz l i) (by omega) h1
        obtain ⟨⟨b1, b2⟩, b3, b4⟩ := len_bd l i h0
        obtain ⟨⟨d1, d2⟩, d3, d4⟩ := len_bd l (i - siz l i) h1
        split
        · show plusZ _ _ = -1 ∨ plusZ _ _ ≤ plusZ _ _
          unfold plusZ
          (repeat' split) <;> omega
        · show moreZ _ _ = -1 ∨ min _ _ ≤ moreZ _ _
          unfold moreZ
          (repeat' split) <;> omega
theorem times_inf (b : Int) : timesZ b (-1) = if b = 0 then 0 else -1 := by
  unfold timesZ
  by_cases h : b = 0
  · rw [if_pos (.inl h), if_pos h]
  · rw [if_neg (by omega), if_pos (.inr (by decide)), if_neg h]
end Go.Proofs.YtkpijnodhlonfaaGreatDoor.Ast

namespace Go.Proofs.YtkpijnodhlonfaaGreatDoor.Ast

theorem deep_form {l : Nat → Nd} {m : Nat} (h : deepZ l m ≠ 0) : formZ l m = 0 ∧ dep l m = deepZ l m ∧ 0 < m ∧ siz l m = m := by
  have hf : formZ l m = 0 := by
    rcases form_or l m with h1 | h1 | h1
    · exact h1
    · exact absurd (deep_0.2 (by omega)) h
    · exact absurd (deep_0.2 (by omega)) h
  obtain ⟨_, h0, hs⟩ := form_0 hf
  refine ⟨hf, ?_, h0, hs⟩
  unfold deepZ
  rw [if_pos hf]
theorem right_bad {l : Nat → Nd} {m : Nat} (h : deepZ l m = 0) : rightZ l m ≠ 0 := by
  have h1 := deep_0.1 h
  have h2 : shapeZ l m ≠ 0 := by
    intro h3
    exact h1 (shape_0 h3).1
  unfold rightZ
  rw [if_pos h2]
  exact h2
theorem form_of {l : Nat → Nd} {m : Nat} (h : siz l m = m) (h0 : 0 < m) (hm : m ≤ 500) : deepZ l m = dep l m := by
  have hf : formZ l m = 0 := by
    unfold formZ goodB
    rw [if_neg (by omega), decide_eq_true ⟨h0, h⟩]
    rfl
  unfold deepZ
  rw [if_pos hf]
theorem grows_dep {la lb : Nat → Nd} {m k : Nat} (hm : m ≤ 60) (hk : k ≤ 60) (ha : deepZ la m ≠ 0) (hb : deepZ lb k ≠ 0) : deepZ (joinL la m lb k 8) (m + k + 1) = 1 + max (deepZ la m) (deepZ lb k) := by
  obtain ⟨_, e1, h1, s1⟩ := deep_form ha
  obtain ⟨_, e2, h2, s2⟩ := deep_form hb
  rw [form_of (join_in (.inl rfl) (by omega) (by omega) h1 h2 s1 s2).2.2 (by omega) (by omega), join_dep (.inl rfl) (by omega) (by omega) h1 h2 s1 s2, e1, e2]
theorem grows_wrap {la : Nat → Nd} {m : Nat} (hm : m ≤ 60) (ha : deepZ la m ≠ 0) : deepZ (wrapL la m ⟨17, 0, 0, 0, 0, 0, 0, 0, 0, 0, 0, false⟩) (m + 1) = 1 + deepZ la m := by
  obtain ⟨_, e1, h1, s1⟩ := deep_form ha
  rw [form_of (wrap_in (by rfl) (by decide) h1 s1).2 (by omega) (by omega), wrap_dep (by rfl) h1 s1, e1]
theorem grows_len {l : Nat → Nd} {m : Nat} (hm : m ≤ 200) (ha : deepZ l m ≠ 0) (hd : deepZ l m ≤ 40) : lenZ l m ((m : Int) - 1) = ((len l m).1, (len l m).2, 0) ∧ ((0 ≤ (len l m).1 ∧ (len l m).1 ≤ 1048576) ∧ (-1 ≤ (len l m).2 ∧ (len l m).2 ≤ 1048576)) := by
  obtain ⟨_, e1, h1, s1⟩ := deep_form ha
  exact ⟨lenZ_last (shape_of s1 h1 (by omega) (by omega)), len_bd l m (by omega)⟩
theorem grows_both {la lb : Nat → Nd} {m k : Nat} (hm : m ≤ 60) (hk : k ≤ 60) (ha : deepZ la m ≠ 0) (hb : deepZ lb k ≠ 0) (hx : deepZ la m < 40) (hy : deepZ lb k < 40) :
    lenZ (joinL la m lb k 8) (m + k + 1) ((m : Int) + k) = (plusZ (len la m).1 (len lb k).1, plusZ (len la m).2 (len lb k).2, 0) := by
  obtain ⟨_, e1, h1, s1⟩ := deep_form ha
  obtain ⟨_, e2, h2, s2⟩ := deep_form hb
  have hd := grows_dep hm hk ha hb
  have h := (grows_len (l := joinL la m lb k 8) (m := m + k + 1) (by omega) (by omega) (by omega)).1
  rw [join_len (by omega) (by omega) h1 h2 s1 s2] at h
  rw [← h]
  congr 1
  omega
end Go.Proofs.YtkpijnodhlonfaaGreatDoor.Ast

namespace Go.Proofs.YtkpijnodhlonfaaGreatDoor.Ast

theorem cnt_zero {l : Nat → Nd} : ∀ {n : Nat}, cntG l n = 0 → ∀ i, i < n → (l i).k ≠ 11
  | 0, _, i, hi => by omega
  | n + 1, h, i, hi => by
    unfold cntG at h
    by_cases e : i = n
    · subst e
      intro h1
      rw [if_pos h1] at h
      omega
    · exact cnt_zero (n := n) (by omega) i (by omega)
theorem grp_none {l : Nat → Nd} {n : Nat} (h : ∀ i, i < n → (l i).k ≠ 11) : ∀ j, j ≤ n → grp l j = [] := by
  intro j
  induction j using Nat.strongRecOn with
  | _ j ih =>
    intro hj
    cases j with
    | zero => rfl
    | succ i =>
      rw [grp_succ, ih i (by omega) (by omega), ih (i - siz l i) (by omega) (by omega), if_neg (h i (by omega))]
      (repeat' split) <;> rfl
theorem groups_none {l : Nat → Nd} {n : Nat} (h : cntG l n = 0) : groupsB l n = backB l 0 n := by
  unfold groupsB
  rw [grp_none (cnt_zero h) n (Nat.le_refl _)]
  simp [numB]
theorem back_shift {l l' : Nat → Nd} {c mm : Nat} : ∀ j, (∀ i, i < j → (l' (c + i)).k = (l i).k ∧ (l' (c + i)).n = (l i).n) → backB l' mm (c + j) = (backB l' mm c && backB l mm j)
  | 0, _ => by simp [backB]
  | j + 1, h => by
    rw [show c + (j + 1) = c + j + 1 by omega, backB, backB, (h j (by omega)).1, (h j (by omega)).2, back_shift j fun i hi => h i (by omega), Bool.and_assoc]
theorem mvN_n (x : Nd) (n : Int) : (mvN x n).n = x.n := by unfold mvN; (repeat' split) <;> rfl
theorem join_back (la lb : Nat → Nd) (m k mm : Nat) : backB (joinL la m lb k 8) mm (m + k + 1) = (backB la mm m && backB lb mm k) := by
  have h1 := back_shift (l := la) (l' := joinL la m lb k 8) (c := 0) (mm := mm) m fun i hi => by rw [Nat.zero_add, join_a la m lb k 8 hi]; exact ⟨rfl, rfl⟩
  rw [Nat.zero_add] at h1
  rw [backB, back_shift (l := lb) k fun i hi => by rw [join_b la m lb k 8 hi]; exact ⟨mvN_k _ _, mvN_n _ _⟩, h1, join_top]
  simp [backB]
theorem beh_shift {l l' : Nat → Nd} {c m : Nat} (h : Sh l' c l m) (hs : ∀ i, i < m → siz l (i + 1) ≠ 0) : ∀ j, j ≤ m → behB l' (c + j) = (behB l' c && behB l j)
  | 0, _ => by simp [behB]
  | j + 1, hj => by
    have hx := h j (by omega) (hs j (by omega))
    have hk : (l' (c + j)).k = (l j).k := by rw [hx]
    rw [show c + (j + 1) = c + j + 1 by omega, behB, behB, hk, beh_shift h hs j (by omega), Bool.and_assoc]
    by_cases hb : (l j).k = 15 ∨ (l j).k = 16
    · have hk1 : kidsZ (l j).k = 1 := by rcases hb with e | e <;> rw [e] <;> rfl
      obtain ⟨_, ⟨hk0, _⟩ | ⟨_, h0, _⟩ | ⟨hk2, _⟩⟩ := siz_pos (hs j (by omega))
      · omega
      · rw [sh_len h j (by omega) h0]
      · omega
    · rw [if_neg hb, if_neg hb]
theorem join_beh {la lb : Nat → Nd} {m k : Nat} (hm : m ≤ 1000) (hk : k ≤ 1000) (ha : siz la m = m) (hb : siz lb k = k) : behB (joinL la m lb k 8) (m + k + 1) = (behB la m && behB lb k) := by
  have h1 := beh_shift (sh_join_a la lb m k 8) (fun i hi => siz_of_whole ha hi) m (Nat.le_refl _)
  rw [Nat.zero_add] at h1
  rw [behB, beh_shift (sh_join_b la lb m k 8 (by omega) (by omega)) (fun i hi => siz_of_whole hb hi) k (Nat.le_refl _), h1, join_top]
  simp [behB]
theorem right_0 {l : Nat → Nd} {n : Nat} (h : rightZ l n = 0) : shapeZ l n = 0 ∧ groupsB l n = true ∧ behB l n = true := by
  unfold rightZ at h
  split at h
  · omega
  · rename_i h1
    split at h
    · omega
    · rename_i h2
      split at h
      · omega
      · rename_i h3
        exact ⟨by omega, by simpa using h2, by simpa using h3⟩
theorem right_of {l : Nat → Nd} {n : Nat} (h1 : shapeZ l n = 0) (h2 : groupsB l n = true) (h3 : behB l n = true) : rightZ l n = 0 := by
  unfold rightZ
  rw [if_neg (by omega), h2, h3]
  simp
theorem right_deep {l : Nat → Nd} {n : Nat} (h : rightZ l n = 0) : deepZ l n ≠ 0 := by
  intro h0
  exact right_bad h0 h
theorem order_right {la lb : Nat → Nd} {m k : Nat} (hm : m ≤ 60) (hk : k ≤ 60) (ha : rightZ la m = 0) (hb : rightZ lb k = 0) (hg : cntG la m + cntG lb k = 0) (hx : deepZ la m < 40) (hy : deepZ lb k < 40) : rightZ (joinL la m lb k 8) (m + k + 1) = 0 := by
  obtain ⟨s1, g1, b1⟩ := right_0 ha
  obtain ⟨s2, g2, b2⟩ := right_0 hb
  obtain ⟨_, e1, h1, z1⟩ := deep_form (right_deep ha)
  obtain ⟨_, e2, h2, z2⟩ := deep_form (right_deep hb)
  have hd := grows_dep hm hk (right_deep ha) (right_deep hb)
  obtain ⟨_, e3, h3, z3⟩ := deep_form (l := joinL la m lb k 8) (m := m + k + 1) (by omega)
  refine right_of (shape_of z3 h3 (by omega) (by omega)) ?_ ?_
  · rw [groups_none (by rw [join_cnt _ _ _ _ _ (by decide)]; exact hg), join_back]
    rw [groups_none (by omega)] at g1 g2
    rw [g1, g2]
    rfl
  · rw [join_beh (by omega) (by omega) z1 z2, b1, b2]
    rfl
theorem plus_comm (a b : Int) : plusZ a b = plusZ b a := by unfold plusZ; (repeat' split) <;> omega
theorem order_same {la lb : Nat → Nd} {m k : Nat} (h0 : 0 < m) (h1 : 0 < k) : sameZ (joinL la m lb k 8) (m + k + 1) (joinL lb k la m 8) (k + m + 1) = sameZ la m lb k := by
  rw [Bool.eq_iff_iff, sameZ_iff, sameZ_iff]
  constructor
  · rintro ⟨_, h⟩
    have ht := h (m + k) (by omega)
    rw [join_top, show m + k = k + m by omega, join_top] at ht
    have ha := congrArg Nd.a ht
    have hmk : m = k := by
      have : (m : Int) - 1 = (k : Int) - 1 := ha
      omega
    refine ⟨hmk, fun i hi => ?_⟩
    have := h i (by omega)
    rwa [join_a la m lb k 8 hi, join_a lb k la m 8 (by omega)] at this
  · rintro ⟨rfl, h⟩
    refine ⟨rfl, fun i hi => ?_⟩
    by_cases h2 : i < m
    · rw [join_a la m lb m 8 h2, join_a lb m la m 8 h2]
      exact h i h2
    · by_cases h3 : i < m + m
      · obtain ⟨j, rfl⟩ : ∃ j, i = m + j := ⟨i - m, by omega⟩
        rw [join_b la m lb m 8 (by omega), join_b lb m la m 8 (by omega), h j (by omega)]
      · obtain rfl : i = m + m := by omega
        rw [join_top, join_top]
end Go.Proofs.YtkpijnodhlonfaaGreatDoor.Ast
