/-
  Layer 8, mathematics: what is shown has nothing but letters, digits, blanks, and signs.
-/
import Derived.Test.YtfejdengpnikeaaDoorShoC
namespace Go.Proofs.YtfejdengpnikeaaDoor
open Ast (Nd siz kidsZ siz_pos rightZ)

/-- The byte at a place; 256: there is none. -/
def bAt (p : ByteArray) (i : Nat) : Nat := if h : i < p.size then (p[i]).toNat else 256
theorem bAt_at {p : ByteArray} {i : Nat} (h : i < p.size) : bAt p i = (p[i]).toNat := by unfold bAt; rw [dif_pos h]
def sgnB : ByteArray := ⟨#[40, 41, 91, 93, 123, 125, 63, 58, 124, 42, 43, 94, 36, 44, 45, 61, 33, 60, 62, 95, 32, 92]⟩
/-- One of the first signs. -/
def sgnTo (G : ByteArray) (c : Nat) : Nat → Bool
  | 0 => false
  | k + 1 => sgnTo G c k || decide (bAt G k = c)
def okN (c : Nat) : Bool := sgnTo sgnB c 22 || decide (97 ≤ c ∧ c ≤ 122 ∨ 65 ≤ c ∧ c ≤ 90 ∨ 48 ≤ c ∧ c ≤ 57)
/-- All bytes are plain. -/
def allB (x : ByteArray) : Bool := x.data.toList.all fun b => okN b.toNat
theorem all_app {x y : ByteArray} (hx : allB x = true) (hy : allB y = true) : allB (x ++ y) = true := by
  unfold allB at hx hy ⊢
  rw [ByteArray.data_append, Array.toList_append, List.all_append, hx, hy]
  rfl
theorem all_at {x : ByteArray} (h : allB x = true) {i : Nat} (hi : i < x.size) : okN (x[i]).toNat = true := by
  unfold allB at h
  rw [List.all_eq_true] at h
  exact h x[i] (Array.mem_toList_iff.2 (Array.getElem_mem (xs := x.data) hi))
theorem all_empty : allB ByteArray.empty = true := rfl
theorem all_text {c : Nat} (h : c < 256) : allB (textB c) = true := by
  have H : ∀ c : Fin 256, allB (textB c.val) = true := by decide +kernel
  exact H ⟨c, h⟩
theorem all_num {n : Nat} (h : n < 1000) : allB (numT n) = true := by
  have H : ∀ c : Fin 1000, allB (numT c.val) = true := by decide +kernel
  exact H ⟨n, h⟩
theorem all_run {r : Nat × Nat} (h1 : r.1 < 256) (h2 : r.2 < 256) : allB (runB r) = true := by
  unfold runB
  split
  · exact all_text h1
  · exact all_app (all_app (all_text h1) (by decide +kernel)) (all_text h2)
theorem all_runs : ∀ l : List (Nat × Nat), (∀ x ∈ l, x.1 < 256 ∧ x.2 < 256) → allB (runsB l) = true
  | [], _ => rfl
  | r :: l, h => all_app (all_run (h r (by simp)).1 (h r (by simp)).2) (all_runs l fun x hx => h x (by simp [hx]))
theorem min_lt8 (S : BitVec 256) : minS S < 256 := by
  unfold minS
  cases h : (List.range 256).find? S.getLsbD with
  | none => exact (by decide : (0 : Nat) < 256)
  | some m =>
    have := List.mem_of_find?_eq_some h
    simpa using this
theorem all_set (S : BitVec 256) : allB (setP S) = true := by
  unfold setP
  split
  · decide +kernel
  · split
    · exact all_text (min_lt8 S)
    · refine all_app (all_app (by decide +kernel) (all_runs _ fun x hx => ?_)) (by decide +kernel)
      have := runs_lt S 256 x hx
      omega
theorem all_often {mn mx : Int} (h0 : 0 ≤ mn ∧ mn ≤ 100 ∧ mx ≤ 100) : allB (oftenB mn mx) = true := by
  have n1 := all_num (n := mn.toNat) (by omega)
  have n2 := all_num (n := mx.toNat) (by omega)
  unfold oftenB
  repeat' split
  · decide +kernel
  · decide +kernel
  · decide +kernel
  · exact all_app (all_app (by decide +kernel) n1) (by decide +kernel)
  · exact all_app (all_app (by decide +kernel) n1) (by decide +kernel)
  · exact all_app (all_app (all_app (all_app (by decide +kernel) n1) (by decide +kernel)) n2) (by decide +kernel)
theorem all_manner (md : Int) : allB (mannerB md) = true := by
  unfold mannerB
  repeat' split
  all_goals decide +kernel
theorem all_open (k : Int) : allB (openB k) = true := by
  unfold openB
  repeat' split
  all_goals decide +kernel
theorem all_in (b : Bool) {x : ByteArray} (h : allB x = true) : allB (inB b x) = true := by
  unfold inB
  split
  · exact all_app (all_app (by decide +kernel) h) (by decide +kernel)
  · exact h
theorem all_leaf (x : Nd) (hf : Ast.fitsB x = true) (hk : kidsZ x.k = 0) (hb : x.k = 12 → 1 ≤ x.n ∧ x.n ≤ 9) : allB (leafB x) = true := by
  unfold leafB
  by_cases c : x.k = 0 ∨ x.k = 1 ∨ x.k = 2 ∨ x.k = 3 ∨ x.k = 4 ∨ x.k = 5 ∨ x.k = 6 ∨ x.k = 7
  · repeat' split
    all_goals first
      | exact all_set _
      | decide +kernel
      | (exfalso; omega)
  · have h12 : x.k = 12 := by
      have h2 := kind_le hf
      have h3 := hk
      unfold kidsZ at h3
      by_cases e : x.k = 12
      · exact e
      · exfalso
        revert h3
        repeat' split
        all_goals first | (intro h; exact absurd h (by decide)) | (intro _; omega)
    have hn := hb h12
    have ht : allB (backT x) = true := all_app (by decide +kernel) (all_num (by omega))
    repeat' split
    all_goals first
      | (exfalso; omega)
      | exact all_app (all_app (by decide +kernel) ht) (by decide +kernel)
      | exact ht
variable {l : Nat → Nd}
theorem show_plain : ∀ (m j : Nat), j ≤ m → (∀ i, i < j → (l i).k = 12 → 1 ≤ (l i).n ∧ (l i).n ≤ 9) → siz l j ≠ 0 → allB (showT l j) = true := by
  intro m
  induction m with
  | zero => intro j hj _ h; obtain rfl : j = 0 := by omega
            exact absurd (by simp [siz, Ast.sizF]) h
  | succ m ih =>
    intro j hj hb h
    cases j with
    | zero => exact absurd (by simp [siz, Ast.sizF]) h
    | succ j =>
      obtain ⟨hf, ⟨hk, -, -, hs⟩ | ⟨hk, h0, -, -, hs⟩ | ⟨hk, h0, h1, -, -, hs⟩⟩ := siz_pos h
      · rw [show_k0 hk]
        exact all_leaf _ hf hk (hb j (by omega))
      · have i0 := ih j (by omega) (fun i hi => hb i (by omega)) h0
        rw [show_k1 hk]
        split
        · rename_i h10
          have hx : 0 ≤ (l j).mn ∧ (l j).mn ≤ 100 ∧ (l j).mx ≤ 100 := by
            unfold Ast.fitsB at hf
            simp only [decide_eq_true_eq] at hf
            have := hf.2.2.2.2.2.2.resolve_left (fun h => h h10)
            omega
          exact all_app (all_app (all_in _ i0) (all_often hx)) (all_manner _)
        · exact all_app (all_app (all_open _) i0) (by decide +kernel)
      · have i0 := ih j (by omega) (fun i hi => hb i (by omega)) h0
        have i1 := ih (j - siz l j) (by omega) (fun i hi => hb i (by omega)) h1
        rw [show_k2 hk]
        split
        · exact all_app (all_in _ i1) (all_in _ i0)
        · exact all_app (all_app i1 (by decide +kernel)) (all_in _ i0)
theorem whole8 {n : Nat} (hr : rightZ l n = 0) : 0 < n ∧ siz l n = n ∧ n ≤ 500 := by
  have h1 : Ast.shapeZ l n = 0 := by
    unfold rightZ at hr
    by_cases h : Ast.shapeZ l n ≠ 0
    · rw [if_pos h] at hr; exact hr
    · omega
  have h2 : Ast.formZ l n = 0 := by unfold Ast.shapeZ at h1; split at h1 <;> omega
  have h3 := Ast.form_0 h2
  exact ⟨h3.2.1, h3.2.2, h3.1⟩
theorem pos_l {x y : ByteArray} (h : 0 < x.size) : 0 < (x ++ y).size := by rw [ByteArray.size_append]; omega
theorem pos_r {x y : ByteArray} (h : 0 < y.size) : 0 < (x ++ y).size := by rw [ByteArray.size_append]; omega
theorem pos_text (c : Nat) : 0 < (textB c).size := by unfold textB; split <;> exact Nat.succ_pos _
theorem pos_set (S : BitVec 256) : 0 < (setP S).size := by
  unfold setP
  split
  · decide
  · split
    · exact pos_text _
    · exact pos_r (by decide)
theorem pos_often (mn mx : Int) : 0 < (oftenB mn mx).size := by
  unfold oftenB
  repeat' split
  all_goals first
    | decide
    | exact pos_r (by decide)
theorem pos_leaf (x : Nd) : 0 < (leafB x).size := by
  unfold leafB
  repeat' split
  all_goals first
    | exact pos_set _
    | exact pos_r (by decide)
    | exact pos_l (by decide)
    | decide
theorem pos_in (b : Bool) {x : ByteArray} (h : 0 < x.size) : 0 < (inB b x).size := by
  unfold inB
  split
  · exact pos_r (by decide)
  · exact h
theorem show_pos : ∀ (m j : Nat), j ≤ m → siz l j ≠ 0 → 0 < (showT l j).size := by
  intro m
  induction m with
  | zero => intro j hj h; obtain rfl : j = 0 := by omega
            exact absurd (by simp [siz, Ast.sizF]) h
  | succ m ih =>
    intro j hj h
    cases j with
    | zero => exact absurd (by simp [siz, Ast.sizF]) h
    | succ j =>
      obtain ⟨hf, ⟨hk, -, -, hs⟩ | ⟨hk, h0, -, -, hs⟩ | ⟨hk, h0, h1, -, -, hs⟩⟩ := siz_pos h
      · rw [show_k0 hk]; exact pos_leaf _
      · rw [show_k1 hk]
        split
        · exact pos_l (pos_r (pos_often _ _))
        · exact pos_r (by decide)
      · rw [show_k2 hk]
        split
        · exact pos_l (pos_in _ (ih (j - siz l j) (by omega) h1))
        · exact pos_l (pos_r (by decide))
/-- What the loop meets of what is shown. -/
theorem plain_cases (l : Nat → Nd) (n : Nat) (hn : n ≤ 60) : ∃ s z, s = (if rightZ l n = 0 then showT l n else ByteArray.empty) ∧ z = rightZ l n ∧ s.size ≤ 180000 ∧ (∀ i (h : i < s.size), okN (s[i]).toNat = true) ∧ (s.size ≠ 0 ∧ z = 0 ∨ s = ByteArray.empty ∧ z ≠ 0) := by
  refine ⟨_, _, rfl, rfl, ?_⟩
  by_cases h : rightZ l n = 0
  · obtain ⟨h0, hs, -⟩ := whole8 h
    rw [if_pos h]
    have h1 := show_size (l := l) n n (Nat.le_refl _) (by omega)
    have h2 := show_pos (l := l) n n (Nat.le_refl _) (by omega)
    refine ⟨by omega, fun i hi => all_at (show_plain n n (Nat.le_refl _) (like_backs h) (by omega)) hi, .inl ⟨by omega, h⟩⟩
  · rw [if_neg h]
    exact ⟨Nat.zero_le _, fun i hi => absurd hi (Nat.not_lt_zero _), .inr ⟨rfl, h⟩⟩
/-- Of what a plain byte that is no sign is. -/
theorem ok_byte {c : Nat} (h : okN c = true) (hs : sgnTo sgnB c 22 = false) : 97 ≤ c ∧ c ≤ 122 ∨ 65 ≤ c ∧ c ≤ 90 ∨ 48 ≤ c ∧ c ≤ 57 := by
  unfold okN at h
  rw [hs, Bool.false_or] at h
  exact of_decide_eq_true h
theorem str_ne8 {s : ByteArray} (h : s.size ≠ 0) : (s.toList == []) = false := by
  rw [Bool.eq_false_iff]
  intro h2
  have h1 : s.toList = [] := by simpa using h2
  rw [ByteArray.toList_eq] at h1
  apply h
  show s.data.size = 0
  rw [← Array.length_toList, h1]
  rfl
end Go.Proofs.YtfejdengpnikeaaDoor
