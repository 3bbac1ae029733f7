import Derived.Test.YteggpecbeagohaaGreatDoorAstAM
import Derived.OwnWalk
import Derived.Laws.OwnMore
import Derived.Deep.QuietTactic
import Derived.BigQuiet
namespace Go.Proofs.YteggpecbeagohaaGreatDoor.Ast
def sizF (l : Nat → Nd) : Nat → Nat → Nat
 | 0, _ => 0
 | _ + 1, 0 => 0
 | f + 1, j + 1 =>
   if fitsB (l j) = true then
    if kidsZ (l j).k = 0 then (if (l j).a = 0 ∧ (l j).b = 0 then 1 else 0)
    else if sizF l f j = 0 then 0
    else if kidsZ (l j).k = 1 then (if (l j).a = (j : Int) - 1 ∧ (l j).b = 0 then sizF l f j + 1 else 0)
    else if sizF l f (j - sizF l f j) = 0 then 0
    else if (l j).a = (j : Int) - 1 - (sizF l f j : Int) ∧ (l j).b = (j : Int) - 1 then sizF l f (j - sizF l f j) + sizF l f j + 1 else 0
   else 0
def siz (l : Nat → Nd) (j : Nat) : Nat := sizF l j j
theorem sizF_le (l : Nat → Nd) : ∀ f j, sizF l f j ≤ j
 | 0, _ => by simp [sizF]
 | _ + 1, 0 => by simp [sizF]
 | f + 1, j + 1 => by
   have h1 := sizF_le l f j
   have h2 := sizF_le l f (j - sizF l f j)
   unfold sizF
   (repeat' split) <;> omega
theorem sizF_more (l : Nat → Nd) : ∀ f j, j ≤ f → sizF l (f + 1) j = sizF l f j
 | 0, j, h => by obtain rfl : j = 0 := by omega
                 simp [sizF]
 | f + 1, 0, _ => by simp [sizF]
 | f + 1, j + 1, h => by
   have h1 := sizF_more l f j (by omega)
   have h2 := sizF_more l f (j - sizF l f j) (by omega)
   rw [sizF, sizF, h1, h2]
theorem sizF_fuel (l : Nat → Nd) (j : Nat) : ∀ d, sizF l (j + d) j = siz l j
 | 0 => rfl
 | d + 1 => by rw [← sizF_fuel l j d, ← Nat.add_assoc, sizF_more l (j + d) j (by omega)]
theorem siz_le (l : Nat → Nd) (j : Nat) : siz l j ≤ j := sizF_le l j j
theorem siz_zero (l : Nat → Nd) : siz l 0 = 0 := rfl
theorem siz_succ (l : Nat → Nd) (j : Nat) : siz l (j + 1) =
  if fitsB (l j) = true then
   if kidsZ (l j).k = 0 then (if (l j).a = 0 ∧ (l j).b = 0 then 1 else 0)
   else if siz l j = 0 then 0
   else if kidsZ (l j).k = 1 then (if (l j).a = (j : Int) - 1 ∧ (l j).b = 0 then siz l j + 1 else 0)
   else if siz l (j - siz l j) = 0 then 0
   else if (l j).a = (j : Int) - 1 - (siz l j : Int) ∧ (l j).b = (j : Int) - 1 then siz l (j - siz l j) + siz l j + 1 else 0
  else 0 := by
 have h := sizF_fuel l (j - siz l j) (siz l j)
 rw [show j - siz l j + siz l j = j by have := siz_le l j; omega] at h
 show sizF l (j + 1) (j + 1) = _
 rw [sizF, show sizF l j j = siz l j from rfl, h]
def foldF {α : Type} (l : Nat → Nd) (z : α) (g0 : Nat → α) (g1 : Nat → α → α) (g2 : Nat → α → α → α) : Nat → Nat → α
 | 0, _ => z
 | _ + 1, 0 => z
 | f + 1, j + 1 => if kidsZ (l j).k = 0 then g0 j else if kidsZ (l j).k = 1 then g1 j (foldF l z g0 g1 g2 f j) else g2 j (foldF l z g0 g1 g2 f (j - siz l j)) (foldF l z g0 g1 g2 f j)
def foldT {α : Type} (l : Nat → Nd) (z : α) (g0 : Nat → α) (g1 : Nat → α → α) (g2 : Nat → α → α → α) (j : Nat) : α := foldF l z g0 g1 g2 j j
section
variable {α : Type} (l : Nat → Nd) (z : α) (g0 : Nat → α) (g1 : Nat → α → α) (g2 : Nat → α → α → α)
theorem foldF_more : ∀ f j, j ≤ f → foldF l z g0 g1 g2 (f + 1) j = foldF l z g0 g1 g2 f j
 | 0, j, h => by obtain rfl : j = 0 := by omega
                 simp [foldF]
 | f + 1, 0, _ => by simp [foldF]
 | f + 1, j + 1, h => by
   have h1 := foldF_more f j (by omega)
   have h2 := foldF_more f (j - siz l j) (by omega)
   rw [foldF, foldF, h1, h2]
theorem foldF_fuel (j : Nat) : ∀ d, foldF l z g0 g1 g2 (j + d) j = foldT l z g0 g1 g2 j
 | 0 => rfl
 | d + 1 => by rw [← foldF_fuel j d, ← Nat.add_assoc, foldF_more l z g0 g1 g2 (j + d) j (by omega)]
theorem foldT_succ (j : Nat) : foldT l z g0 g1 g2 (j + 1) = if kidsZ (l j).k = 0 then g0 j else if kidsZ (l j).k = 1 then g1 j (foldT l z g0 g1 g2 j) else g2 j (foldT l z g0 g1 g2 (j - siz l j)) (foldT l z g0 g1 g2 j) := by
 have h := foldF_fuel l z g0 g1 g2 (j - siz l j) (siz l j)
 rw [show j - siz l j + siz l j = j by have := siz_le l j; omega] at h
 show foldF l z g0 g1 g2 (j + 1) (j + 1) = _
 rw [foldF, show foldF l z g0 g1 g2 j j = foldT l z g0 g1 g2 j from rfl, h]
end
def dep (l : Nat → Nd) (j : Nat) : Nat := foldT l 0 (fun _ => 1) (fun _ x => 1 + x) (fun _ x y => 1 + max x y) j
def len (l : Nat → Nd) (j : Nat) : Int × Int :=
 foldT l (0, 0) (fun i => if (l i).k = 1 then (1, 1) else if (l i).k = 12 then (0, -1) else (0, 0))
  (fun i x => if (l i).k = 10 then (timesZ x.1 (l i).mn, timesZ x.2 (l i).mx) else if (l i).k = 11 ∨ (l i).k = 17 then x else (0, 0))
  (fun i x y => if (l i).k = 8 then (plusZ x.1 y.1, plusZ x.2 y.2) else (min x.1 y.1, moreZ x.2 y.2)) j
def grp (l : Nat → Nd) (j : Nat) : List Nat :=
 foldT l [] (fun _ => []) (fun i x => if (l i).k = 11 then i :: x else x) (fun _ x y => x ++ y) j
theorem dep_succ (l : Nat → Nd) (j : Nat) : dep l (j + 1) = if kidsZ (l j).k = 0 then 1 else if kidsZ (l j).k = 1 then 1 + dep l j else 1 + max (dep l (j - siz l j)) (dep l j) := foldT_succ ..
theorem len_succ (l : Nat → Nd) (j : Nat) : len l (j + 1) =
  if kidsZ (l j).k = 0 then (if (l j).k = 1 then (1, 1) else if (l j).k = 12 then (0, -1) else (0, 0))
  else if kidsZ (l j).k = 1 then (if (l j).k = 10 then (timesZ (len l j).1 (l j).mn, timesZ (len l j).2 (l j).mx) else if (l j).k = 11 ∨ (l j).k = 17 then len l j else (0, 0))
  else (if (l j).k = 8 then (plusZ (len l (j - siz l j)).1 (len l j).1, plusZ (len l (j - siz l j)).2 (len l j).2) else (min (len l (j - siz l j)).1 (len l j).1, moreZ (len l (j - siz l j)).2 (len l j).2)) := foldT_succ ..
theorem grp_succ (l : Nat → Nd) (j : Nat) : grp l (j + 1) = if kidsZ (l j).k = 0 then [] else if kidsZ (l j).k = 1 then (if (l j).k = 11 then j :: grp l j else grp l j) else grp l (j - siz l j) ++ grp l j := foldT_succ ..
theorem kids_cases (k : Int) : kidsZ k = 0 ∨ kidsZ k = 1 ∨ kidsZ k = 2 := by unfold kidsZ; (repeat' split) <;> simp
theorem siz_pos {l : Nat → Nd} {j : Nat} (h : siz l (j + 1) ≠ 0) : fitsB (l j) = true ∧
  (kidsZ (l j).k = 0 ∧ (l j).a = 0 ∧ (l j).b = 0 ∧ siz l (j + 1) = 1 ∨
   kidsZ (l j).k = 1 ∧ siz l j ≠ 0 ∧ (l j).a = (j : Int) - 1 ∧ (l j).b = 0 ∧ siz l (j + 1) = siz l j + 1 ∨
   kidsZ (l j).k = 2 ∧ siz l j ≠ 0 ∧ siz l (j - siz l j) ≠ 0 ∧ (l j).a = (j : Int) - 1 - (siz l j : Int) ∧ (l j).b = (j : Int) - 1 ∧ siz l (j + 1) = siz l (j - siz l j) + siz l j + 1) := by
 have hs := siz_succ l j
 rcases kids_cases (l j).k with hk | hk | hk
 ·rw [hk] at hs
  simp only [if_true] at hs
  by_cases hf : fitsB (l j) = true
  ·rw [if_pos hf] at hs
   by_cases ha : (l j).a = 0 ∧ (l j).b = 0
   ·rw [if_pos ha] at hs
    exact ⟨hf, .inl ⟨hk, ha.1, ha.2, hs⟩⟩
   ·rw [if_neg ha] at hs; exact absurd hs h
  ·rw [if_neg hf] at hs; exact absurd hs h
 ·rw [hk] at hs
  rw [if_neg (show ¬ (1 : Int) = 0 by decide)] at hs
  by_cases hf : fitsB (l j) = true
  ·rw [if_pos hf] at hs
   by_cases h0 : siz l j = 0
   ·rw [if_pos h0] at hs; exact absurd hs h
   ·rw [if_neg h0, if_pos rfl] at hs
    by_cases ha : (l j).a = (j : Int) - 1 ∧ (l j).b = 0
    ·rw [if_pos ha] at hs
     exact ⟨hf, .inr (.inl ⟨hk, h0, ha.1, ha.2, hs⟩)⟩
    ·rw [if_neg ha] at hs; exact absurd hs h
  ·rw [if_neg hf] at hs; exact absurd hs h
 ·rw [hk] at hs
  rw [if_neg (show ¬ (2 : Int) = 0 by decide)] at hs
  by_cases hf : fitsB (l j) = true
  ·rw [if_pos hf] at hs
   by_cases h0 : siz l j = 0
   ·rw [if_pos h0] at hs; exact absurd hs h
   ·rw [if_neg h0, if_neg (show ¬ (2 : Int) = 1 by decide)] at hs
    by_cases h1 : siz l (j - siz l j) = 0
    ·rw [if_pos h1] at hs; exact absurd hs h
    ·rw [if_neg h1] at hs
     by_cases ha : (l j).a = (j : Int) - 1 - (siz l j : Int) ∧ (l j).b = (j : Int) - 1
     ·rw [if_pos ha] at hs
      exact ⟨hf, .inr (.inr ⟨hk, h0, h1, ha.1, ha.2, hs⟩)⟩
     ·rw [if_neg ha] at hs; exact absurd hs h
  ·rw [if_neg hf] at hs; exact absurd hs h
theorem siz_all (l : Nat → Nd) : ∀ m, ∀ j, m - siz l m ≤ j → j < m → siz l (j + 1) ≠ 0 := by
 intro m
 induction m using Nat.strongRecOn with
 | _ m ih =>
   intro j h1 h2
   obtain ⟨m, rfl⟩ : ∃ k, m = k + 1 := ⟨m - 1, by omega⟩
   by_cases h0 : siz l (m + 1) = 0
   ·omega
   ·by_cases hj : j = m
    ·subst hj; exact h0
    ·obtain ⟨_, h | h | h⟩ := siz_pos h0
     ·obtain ⟨_, _, _, hs⟩ := h; omega
     ·obtain ⟨_, _, _, _, hs⟩ := h
      exact ih m (by omega) j (by omega) (by omega)
     ·obtain ⟨_, _, _, _, _, hs⟩ := h
      have hle := siz_le l m
      by_cases hc : m - siz l m ≤ j
      ·exact ih m (by omega) j hc (by omega)
      ·exact ih (m - siz l m) (by omega) j (by omega) (by omega)
theorem siz_of_whole {l : Nat → Nd} {n j : Nat} (h : siz l n = n) (hj : j < n) : siz l (j + 1) ≠ 0 := siz_all l n j (by omega) hj
end Go.Proofs.YteggpecbeagohaaGreatDoor.Ast
namespace Go.Proofs.YteggpecbeagohaaGreatDoor.Ast
def beg (l : Nat → Nd) (j : Nat) : Nat := j + 1 - siz l (j + 1)
def goodB (l : Nat → Nd) (n : Nat) : Bool := decide (0 < n ∧ siz l n = n)
theorem goodB_no {l : Nat → Nd} {n k : Nat} (hk : k < n) (h : siz l (k + 1) = 0) : goodB l n = false := by
 unfold goodB
 simp only [decide_eq_false_iff_not]
 rintro ⟨_, h2⟩
 exact siz_of_whole h2 hk h
def wantN (x : Nd) (a b : Int) : Nd := { bareN x with a := a, b := b }
theorem want_iff (x : Nd) (a b : Int) : (x = wantN x a b ∧ mayB x = true) ↔ (fitsB x = true ∧ x.a = a ∧ x.b = b) := by
 obtain ⟨k, xa, xb, s0, s1, s2, s3, mn, mx, md, n, f⟩ := x
 unfold wantN bareN mayB fitsB
 simp only [decide_eq_true_eq]
 by_cases h1 : k = 1
 ·subst h1; simp; (try constructor) <;> (try rintro ⟨h⟩) <;> simp_all <;> omega
 ·by_cases h10 : k = 10
  ·subst h10; simp; constructor <;> intro h <;> simp_all <;> omega
  ·by_cases h11 : k = 11
   ·subst h11; simp; constructor <;> intro h <;> simp_all
   ·by_cases h12 : k = 12
    ·subst h12; simp; constructor <;> intro h <;> simp_all
    ·simp [h1, h10, h11, h12]; constructor <;> intro h <;> simp_all <;> omega
theorem siz_iff0 {l : Nat → Nd} {k : Nat} (hk : kidsZ (l k).k = 0) : siz l (k + 1) ≠ 0 ↔ (l k = wantN (l k) 0 0 ∧ mayB (l k) = true) := by
 rw [want_iff, siz_succ, hk]
 by_cases hf : fitsB (l k) = true
 ·by_cases h : (l k).a = 0 ∧ (l k).b = 0 <;> simp [hf, h]
 ·simp [hf]
theorem siz_iff1 {l : Nat → Nd} {k : Nat} (hk : kidsZ (l k).k = 1) (h0 : siz l k ≠ 0) : siz l (k + 1) ≠ 0 ↔ (l k = wantN (l k) ((k : Int) - 1) 0 ∧ mayB (l k) = true) := by
 rw [want_iff, siz_succ, hk]
 by_cases hf : fitsB (l k) = true
 ·by_cases h : (l k).a = (k : Int) - 1 ∧ (l k).b = 0 <;> simp [hf, h, h0]
 ·simp [hf]
theorem siz_iff2 {l : Nat → Nd} {k : Nat} (hk : kidsZ (l k).k = 2) (h0 : siz l k ≠ 0) (h1 : siz l (k - siz l k) ≠ 0) : siz l (k + 1) ≠ 0 ↔ (l k = wantN (l k) ((k : Int) - 1 - (siz l k : Int)) ((k : Int) - 1) ∧ mayB (l k) = true) := by
 rw [want_iff, siz_succ, hk]
 by_cases hf : fitsB (l k) = true
 ·by_cases h : (l k).a = (k : Int) - 1 - (siz l k : Int) ∧ (l k).b = (k : Int) - 1 <;> simp [hf, h, h0, h1]
 ·simp [hf]
theorem siz_no1 {l : Nat → Nd} {k : Nat} (hk : kidsZ (l k).k ≠ 0) (h0 : siz l k = 0) : siz l (k + 1) = 0 := by
 rw [siz_succ, if_neg hk, if_pos h0]
 simp
theorem siz_no2 {l : Nat → Nd} {k : Nat} (hk : kidsZ (l k).k = 2) (h0 : siz l (k - siz l k) = 0) : siz l (k + 1) = 0 := by
 rw [siz_succ, hk, if_neg (show ¬ (2 : Int) = 0 by decide), if_neg (show ¬ (2 : Int) = 1 by decide), if_pos h0]
 simp
end Go.Proofs.YteggpecbeagohaaGreatDoor.Ast
namespace Go.Proofs.YteggpecbeagohaaGreatDoor.Ast
open Go.RowKit
def ndC (x : Nd) : List Value := [.int .i64 x.k, .int .i64 x.a, .int .i64 x.b, .int .u64 x.s0, .int .u64 x.s1, .int .u64 x.s2, .int .u64 x.s3, .int .i64 x.mn, .int .i64 x.mx, .int .i64 x.md, .int .i64 x.n, .bool x.f]
def cellsL (l : Nat → Nd) (n : Nat) : List Value := (List.range n).flatMap fun i => ndC (l i)
theorem cellsL_zero (l : Nat → Nd) : cellsL l 0 = [] := rfl
theorem cellsL_succ (l : Nat → Nd) (n : Nat) : cellsL l (n + 1) = cellsL l n ++ ndC (l n) := by
 unfold cellsL
 rw [List.range_succ, List.flatMap_append]
 simp
theorem cellsL_length (l : Nat → Nd) (n : Nat) : (cellsL l n).length = n * 12 := by
 induction n with
 | zero => rfl
 | succ n ih => rw [cellsL_succ, List.length_append, ih]; show n * 12 + 12 = _; omega
theorem cellsL_get (l : Nat → Nd) (n i j : Nat) (hi : i < n) (hj : j < 12) : (cellsL l n)[i * 12 + j]? = (ndC (l i))[j]? := by
 induction n with
 | zero => omega
 | succ n ih =>
   rw [cellsL_succ]
   by_cases h : i < n
   ·rw [List.getElem?_append_left (by rw [cellsL_length]; omega)]
    exact ih h
   ·obtain rfl : i = n := by omega
    rw [List.getElem?_append_right (by rw [cellsL_length]; omega), cellsL_length]
    congr 1
    omega
theorem cellsL_congr {l l' : Nat → Nd} {n : Nat} (h : ∀ i, i < n → l i = l' i) : cellsL l n = cellsL l' n := by
 induction n with
 | zero => rfl
 | succ n ih => rw [cellsL_succ, cellsL_succ, ih (fun i hi => h i (by omega)), h n (by omega)]
theorem at12_of {w : World} {b o : Nat} {x : Nd} (h : ∀ j, j < 12 → w.cell? ⟨b, o + j, none⟩ = (ndC x)[j]?) : At12 w b o x :=
 ⟨h 0 (by decide), h 1 (by decide), h 2 (by decide), h 3 (by decide), h 4 (by decide), h 5 (by decide), h 6 (by decide), h 7 (by decide), h 8 (by decide), h 9 (by decide), h 10 (by decide), h 11 (by decide)⟩
theorem At12.get {w : World} {b o : Nat} {x : Nd} (h : At12 w b o x) (j : Nat) (hj : j < 12) : w.cell? ⟨b, o + j, none⟩ = (ndC x)[j]? := by
 obtain ⟨h0, h1, h2, h3, h4, h5, h6, h7, h8, h9, h10, h11⟩ := h
 match j, hj with
 | 0, _ => exact h0
 | 1, _ => exact h1
 | 2, _ => exact h2
 | 3, _ => exact h3
 | 4, _ => exact h4
 | 5, _ => exact h5
 | 6, _ => exact h6
 | 7, _ => exact h7
 | 8, _ => exact h8
 | 9, _ => exact h9
 | 10, _ => exact h10
 | 11, _ => exact h11
theorem own_nodes {w : World} {base : Nat} {T : TypeId} {v : Value} {n : Nat} {l : Nat → Nd} (h : w.ownsRow base T 12 v n (cellsL l n)) : ∃ A cap, v = .slice A n cap ∧ n ≤ cap ∧ Nodes w A n l ∧ (∀ a, A = some a → base ≤ a.block) := by
 rcases h.2 with ⟨rfl, rfl⟩ | ⟨g, cap, cur, rfl, hb, hg, hn, -, hsz, hcur⟩
 ·exact ⟨none, 0, rfl, Nat.le_refl _, fun i hi => by omega, fun a ha => by cases ha⟩
 ·refine ⟨some ⟨g, 0, none⟩, cap, rfl, hn, fun i hi => ⟨g, 0, rfl, (Array.getElem?_eq_some_iff.1 hg).1, at12_of fun j hj => ?_⟩, fun a ha => by cases ha; exact hb⟩
  rw [← cellsL_get l n i j hi hj, ← hcur, List.getElem?_take, if_pos (by omega)]
  show w.cell? ⟨g, 0 + i * 12 + j, none⟩ = _
  unfold World.cell?
  simp [hg]
theorem own_call {w w' : World} {base : Nat} {T : TypeId} {size : Nat} {v : Value} {n : Nat} {xs : List Value} (h : w.ownsRow base T size v n xs) (hb : Below w.heap.size w w') : w'.ownsRow base T size v n xs := by
 refine ⟨h.1, ?_⟩
 rcases h.2 with h2 | ⟨r, cap, cur, hv, hr, hh, rest⟩
 ·exact .inl h2
 ·exact .inr ⟨r, cap, cur, hv, hr, (hb.block r (Array.getElem?_eq_some_iff.1 hh).1).trans hh, rest⟩
theorem own_empty (w : World) (T : TypeId) (size base : Nat) (hb : base ≤ w.heap.size) : (w.alloc (.cells #[] T)).ownsRow base T size (.slice (some ⟨w.heap.size, 0, none⟩) 0 0) 0 [] :=
 ⟨by simp, .inr ⟨w.heap.size, 0, #[], rfl, hb, heap_alloc_new w _, Nat.le_refl _, by unfold maxLen; omega, by simp, by simp⟩⟩
theorem ndC_one (x : Nd) : ∀ u ∈ ndC x, u.oneCell' = true := by
 intro u hu
 simp only [ndC, List.mem_cons, List.not_mem_nil, or_false] at hu
 rcases hu with rfl | rfl | rfl | rfl | rfl | rfl | rfl | rfl | rfl | rfl | rfl | rfl <;> rfl
theorem info45 : (Tryz.prog.info? 76).map (fun i => (i.zero, i.size, i.bytes)) = some (some (.agg #[.int .i64 0, .int .i64 0, .int .i64 0, .int .u64 0, .int .u64 0, .int .u64 0, .int .u64 0, .int .i64 0, .int .i64 0, .int .i64 0, .int .i64 0, .bool false]), 12, 96) := by kernel_rfl
theorem new_cells (w : World) (T : TypeId) (x : Nd) : ∀ j u, (ndC x)[j]? = some u → (w.alloc (.cells #[.int .i64 x.k, .int .i64 x.a, .int .i64 x.b, .int .u64 x.s0, .int .u64 x.s1, .int .u64 x.s2, .int .u64 x.s3, .int .i64 x.mn, .int .i64 x.mx, .int .i64 x.md, .int .i64 x.n, .bool x.f] T)).cell? (Addr.add ⟨w.heap.size, 0, none⟩ j) = some u := by
 intro j u hu
 rw [Addr.add_lit, ← hu]
 unfold World.cell?
 rw [heap_alloc_new]
 simp [ndC]
end Go.Proofs.YteggpecbeagohaaGreatDoor.Ast
namespace Go.Proofs.YteggpecbeagohaaGreatDoor.Ast
open Go.RowKit
end Go.Proofs.YteggpecbeagohaaGreatDoor.Ast
namespace Go.Proofs.YteggpecbeagohaaGreatDoor.Ast
open Go.RowKit
theorem dep_le (l : Nat → Nd) : ∀ j, dep l j ≤ j := by
 intro j
 induction j using Nat.strongRecOn with
 | _ j ih =>
   cases j with
   | zero => exact Nat.le_refl _
   | succ m =>
     have h1 := ih m (by omega)
     have h2 := ih (m - siz l m) (by omega)
     rw [dep_succ]
     split
     ·omega
     ·split
      ·omega
      ·have : m - siz l m ≤ m := Nat.sub_le _ _
       omega
theorem Nodes.drewN {w : World} {A : Option Addr} {n : Nat} {l : Nat → Nd} (h : Nodes w A n l) (q : Nat) : Nodes (w.drewN q) A n l := h
end Go.Proofs.YteggpecbeagohaaGreatDoor.Ast
namespace Go.Proofs.YteggpecbeagohaaGreatDoor.Ast
open Go.RowKit
theorem fits_rep_of {x : Nd} (h : fitsB x = true) (hk : x.k = 10) : 0 ≤ x.mn ∧ x.mn ≤ 100 ∧ -1 ≤ x.mx ∧ x.mx ≤ 100 := by
 simp only [fitsB, decide_eq_true_eq] at h
 omega
theorem fits_kind {x : Nd} (h : fitsB x = true) : 0 ≤ x.k ∧ x.k ≤ 17 := by
 simp only [fitsB, decide_eq_true_eq] at h
 exact ⟨h.1, h.2.1⟩
theorem times_bd (a k : Int) (ha : -1 ≤ a ∧ a ≤ 1048576) : -1 ≤ timesZ a k ∧ timesZ a k ≤ 1048576 := by
 unfold timesZ
 split
 ·omega
 ·split
  ·omega
  ·have : 0 ≤ a * k := Int.mul_nonneg (by omega) (by omega)
   omega
theorem times_bd0 (a k : Int) (ha : 0 ≤ a ∧ a ≤ 1048576) (hk : 0 ≤ k) : 0 ≤ timesZ a k ∧ timesZ a k ≤ 1048576 := by
 unfold timesZ
 split
 ·omega
 ·split
  ·omega
  ·have : 0 ≤ a * k := Int.mul_nonneg (by omega) (by omega)
   omega
theorem len_bd (l : Nat → Nd) : ∀ j, siz l j ≠ 0 → (0 ≤ (len l j).1 ∧ (len l j).1 ≤ 1048576) ∧ (-1 ≤ (len l j).2 ∧ (len l j).2 ≤ 1048576) := by
 intro j
 induction j using Nat.strongRecOn with
 | _ j ih =>
   intro hs
   cases j with
   | zero => exact absurd (siz_zero l) hs
   | succ m =>
     obtain ⟨hf, hp⟩ := siz_pos hs
     rw [len_succ]
     rcases hp with ⟨hk, -⟩ | ⟨hk, h0, -⟩ | ⟨hk, h0, h1, -⟩
     ·rw [if_pos hk]
      split
      ·simp
      ·split <;> simp
     ·rw [hk, if_neg (show ¬ (1 : Int) = 0 by decide), if_pos rfl]
      have h := ih m (by omega) h0
      split
      ·rename_i h10
       have hr := fits_rep_of hf h10
       exact ⟨times_bd0 _ _ h.1 hr.1, times_bd _ _ h.2⟩
      ·split
       ·exact h
       ·simp
     ·rw [hk, if_neg (show ¬ (2 : Int) = 0 by decide), if_neg (show ¬ (2 : Int) = 1 by decide)]
      have h := ih m (by omega) h0
      have h' := ih (m - siz l m) (by omega) h1
      generalize len l m = x at h ⊢
      generalize len l (m - siz l m) = y at h' ⊢
      split
      ·refine ⟨?_, ?_⟩
       ·show 0 ≤ plusZ y.1 x.1 ∧ plusZ y.1 x.1 ≤ 1048576
        unfold plusZ; split <;> omega
       ·show -1 ≤ plusZ y.2 x.2 ∧ plusZ y.2 x.2 ≤ 1048576
        unfold plusZ; split <;> omega
      ·refine ⟨?_, ?_⟩
       ·show 0 ≤ min y.1 x.1 ∧ min y.1 x.1 ≤ 1048576
        omega
       ·show -1 ≤ moreZ y.2 x.2 ∧ moreZ y.2 x.2 ≤ 1048576
        unfold moreZ; split <;> omega
theorem kids0 {k : Int} (h : kidsZ k = 0) (_h0 : 0 ≤ k ∧ k ≤ 17) : (k == 8) = false ∧ (k == 9) = false ∧ (k == 10) = false ∧ (k == 11) = false ∧ (k == 17) = false := by
 unfold kidsZ at h
 simp
 (repeat' split at h) <;> omega
theorem kids1 {k : Int} (h : kidsZ k = 1) : (k == 1) = false ∧ (k == 12) = false ∧ (k == 8) = false ∧ (k == 9) = false := by
 unfold kidsZ at h
 simp
 (repeat' split at h) <;> omega
theorem kids2 {k : Int} (h : kidsZ k = 2) : k = 8 ∨ k = 9 := by
 unfold kidsZ at h
 (repeat' split at h) <;> omega
end Go.Proofs.YteggpecbeagohaaGreatDoor.Ast
