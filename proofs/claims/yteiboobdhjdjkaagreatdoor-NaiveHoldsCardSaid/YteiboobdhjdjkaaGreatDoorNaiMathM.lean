import Derived.Test.YteiboobdhjdjkaaGreatDoorCapAgain
import Derived.Test.YteiboobdhjdjkaaGreatDoorAstAM
import Derived.Test.YteiboobdhjdjkaaGreatDoorClassMM
import Derived.IntWalk
namespace Go.Proofs.YteiboobdhjdjkaaGreatDoor.Nai
open Ast (Nd)
open Cap (Cp withZ agB agN pcS pcB begB begB_iff)
def setN (x : Nd) : BitVec 256 := BitVec.ofNat 256 (x.s0.toNat + 2 ^ 64 * x.s1.toNat + 2 ^ 128 * x.s2.toNat + 2 ^ 192 * x.s3.toNat)
def hasN (x : Nd) (c : Nat) : Bool := mem (setN x) c
theorem ag_le (c : Cp) (s : ByteArray) (g : Int) (z : Nat) (fold : Bool) (h : agB c s g z fold = true) : z + agN c s g z fold ≤ s.size ∧ 0 ≤ agN c s g z fold := by
 unfold agN
 rw [if_pos h]
 unfold agB at h
 simp only [Bool.and_eq_true, decide_eq_true_eq] at h
 obtain ⟨_, h1, h2, h3⟩ := h
 have h4 := ((begB_iff _ _ _).1 h3).1
 rw [ByteArray.size_extract] at h4
 omega
abbrev Sp := Nat × Cp
abbrev Ev := List (Option Sp)
def evB (e : Ev) (f : Sp → Ev) : Ev := e.flatMap fun o => match o with
 | none => [none]
 | some y => f y
def outs (e : Ev) : List Sp := e.filterMap id
theorem evB_nil (f : Sp → Ev) : evB [] f = [] := rfl
theorem evB_none (e : Ev) (f : Sp → Ev) : evB (none :: e) f = none :: evB e f := rfl
theorem evB_some (y : Sp) (e : Ev) (f : Sp → Ev) : evB (some y :: e) f = f y ++ evB e f := rfl
theorem evB_app (d e : Ev) (f : Sp → Ev) : evB (d ++ e) f = evB d f ++ evB e f := by simp [evB, List.flatMap_append]
theorem evB_one (e : Ev) : evB e (fun y => [some y]) = e := by
 induction e with
 | nil => rfl
 | cons o e ih => cases o with
   | none => rw [evB_none, ih]
   | some y => rw [evB_some, ih]; rfl
theorem evB_assoc (e : Ev) (f g : Sp → Ev) : evB (evB e f) g = evB e (fun y => evB (f y) g) := by
 induction e with
 | nil => rfl
 | cons o e ih => cases o with
   | none => rw [evB_none, evB_none, evB_none, ih]
   | some y => rw [evB_some, evB_app, evB_some, ih]
theorem outs_nil : outs [] = [] := rfl
theorem outs_none (e : Ev) : outs (none :: e) = outs e := rfl
theorem outs_app (d e : Ev) : outs (d ++ e) = outs d ++ outs e := by simp [outs]
theorem mem_outs {e : Ev} {y : Sp} : y ∈ outs e ↔ some y ∈ e := by simp [outs]
def turnF (A : Sp → Ev) (mn mx : Int) (lz : Bool) : Nat → Nat → Sp → Ev
 | 0, _, _ => []
 | f + 1, k, y =>
   if (k : Int) < mn then none :: evB (A y) (fun z => turnF A mn mx lz f (k + 1) z)
   else if (k : Int) = mx then [some y]
   else if lz = true then none :: some y :: none :: evB (A y) (fun z => if y.1 < z.1 then turnF A mn mx lz f (k + 1) z else [])
   else none :: (evB (A y) (fun z => if y.1 < z.1 then turnF A mn mx lz f (k + 1) z else []) ++ [none, some y])
def turnM (n : Nat) (mn : Int) (k : Nat) (y : Sp) : Nat := (mn - k).toNat + (n - y.1) + 1
def Fwd (n : Nat) (A : Sp → Ev) : Prop := ∀ y, y.1 ≤ n → ∀ z, some z ∈ A y → y.1 ≤ z.1 ∧ z.1 ≤ n
theorem evB_congr {e : Ev} {f g : Sp → Ev} (h : ∀ y, some y ∈ e → f y = g y) : evB e f = evB e g := by
 induction e with
 | nil => rfl
 | cons o e ih => cases o with
   | none => rw [evB_none, evB_none, ih fun y hy => h y (List.mem_cons_of_mem _ hy)]
   | some y => rw [evB_some, evB_some, h y (List.mem_cons_self ..), ih fun y hy => h y (List.mem_cons_of_mem _ hy)]
theorem turn_fuel {n : Nat} {A : Sp → Ev} (hA : Fwd n A) (mn mx : Int) (lz : Bool) : ∀ (f g k : Nat) (y : Sp), y.1 ≤ n → turnM n mn k y ≤ f → turnM n mn k y ≤ g →
  turnF A mn mx lz f k y = turnF A mn mx lz g k y := by
 intro f
 induction f with
 | zero => intro g k y _ h1; unfold turnM at h1; omega
 | succ f ih =>
   intro g k y hy h1 h2
   cases g with
   | zero => unfold turnM at h2; omega
   | succ g =>
     unfold turnM at h1 h2
     unfold turnF
     by_cases hk : (k : Int) < mn
     ·rw [if_pos hk, if_pos hk]
      congr 1
      refine evB_congr fun z hz => ?_
      obtain ⟨a, b⟩ := hA y hy z hz
      exact ih g (k + 1) z b (by unfold turnM; omega) (by unfold turnM; omega)
     ·rw [if_neg hk, if_neg hk]
      have e : evB (A y) (fun z => if y.1 < z.1 then turnF A mn mx lz f (k + 1) z else []) = evB (A y) (fun z => if y.1 < z.1 then turnF A mn mx lz g (k + 1) z else []) := by
       refine evB_congr fun z hz => ?_
       obtain ⟨a, b⟩ := hA y hy z hz
       by_cases hc : y.1 < z.1
       ·rw [if_pos hc, if_pos hc]
        exact ih g (k + 1) z b (by unfold turnM; omega) (by unfold turnM; omega)
       ·rw [if_neg hc, if_neg hc]
      rw [e]
def turnE (n : Nat) (A : Sp → Ev) (mn mx : Int) (lz : Bool) (k : Nat) (y : Sp) : Ev := turnF A mn mx lz (turnM n mn k y) k y
def onE (n : Nat) (A : Sp → Ev) (mn mx : Int) (lz : Bool) (k : Nat) (p : Nat) (z : Sp) : Ev := if (k : Int) < mn ∨ p < z.1 then turnE n A mn mx lz (k + 1) z else []
theorem turn_step {n : Nat} {A : Sp → Ev} (hA : Fwd n A) (mn mx : Int) (lz : Bool) (k : Nat) (y : Sp) (hy : y.1 ≤ n) :
  turnE n A mn mx lz k y = if (k : Int) < mn then none :: evB (A y) (onE n A mn mx lz k y.1)
   else if (k : Int) = mx then [some y]
   else if lz = true then none :: some y :: none :: evB (A y) (onE n A mn mx lz k y.1)
   else none :: (evB (A y) (onE n A mn mx lz k y.1) ++ [none, some y]) := by
 have h1 : turnE n A mn mx lz k y = turnF A mn mx lz ((mn - k).toNat + (n - y.1) + 1) k y := rfl
 rw [h1, turnF]
 by_cases hk : (k : Int) < mn
 ·rw [if_pos hk, if_pos hk]
  congr 1
  refine evB_congr fun z hz => ?_
  obtain ⟨a, b⟩ := hA y hy z hz
  unfold onE
  rw [if_pos (.inl hk)]
  exact turn_fuel hA mn mx lz _ _ _ z b (by unfold turnM; omega) (Nat.le_refl _)
 ·rw [if_neg hk, if_neg hk]
  have e : evB (A y) (fun z => if y.1 < z.1 then turnF A mn mx lz ((mn - k).toNat + (n - y.1)) (k + 1) z else []) = evB (A y) (onE n A mn mx lz k y.1) := by
   refine evB_congr fun z hz => ?_
   obtain ⟨a, b⟩ := hA y hy z hz
   unfold onE
   by_cases hc : y.1 < z.1
   ·rw [if_pos hc, if_pos (.inr hc)]
    exact turn_fuel hA mn mx lz _ _ _ z b (by unfold turnM; omega) (Nat.le_refl _)
   ·rw [if_neg hc, if_neg (by omega)]
  rw [e]
theorem evB_mem {e : Ev} {f : Sp → Ev} {o : Sp} (h : some o ∈ evB e f) : ∃ y, some y ∈ e ∧ some o ∈ f y := by
 unfold evB at h
 obtain ⟨x, hx, ho⟩ := List.mem_flatMap.1 h
 cases x with
 | none => simp at ho
 | some y => exact ⟨y, hx, ho⟩
theorem turn_fwd {n : Nat} {A : Sp → Ev} (hA : Fwd n A) (mn mx : Int) (lz : Bool) : ∀ (f k : Nat), Fwd n (turnF A mn mx lz f k) := by
 intro f
 induction f with
 | zero => intro k y _ z h; simp [turnF] at h
 | succ f ih =>
   intro k y hy z h
   have go : some z ∈ evB (A y) (fun z => if y.1 < z.1 then turnF A mn mx lz f (k + 1) z else []) → y.1 ≤ z.1 ∧ z.1 ≤ n := by
    intro h
    obtain ⟨x, hx, hz⟩ := evB_mem h
    obtain ⟨a, b⟩ := hA y hy x hx
    split at hz
    ·obtain ⟨c, d⟩ := ih (k + 1) x b z hz
     exact ⟨by omega, d⟩
    ·simp at hz
   unfold turnF at h
   split at h
   ·simp only [List.mem_cons, reduceCtorEq, false_or] at h
    obtain ⟨x, hx, hz⟩ := evB_mem h
    obtain ⟨a, b⟩ := hA y hy x hx
    obtain ⟨c, d⟩ := ih (k + 1) x b z hz
    exact ⟨by omega, d⟩
   ·split at h
    ·simp at h; subst h; exact ⟨Nat.le_refl _, hy⟩
    ·split at h
     ·simp only [List.mem_cons, reduceCtorEq, false_or, Option.some.injEq] at h
      rcases h with rfl | h
      ·exact ⟨Nat.le_refl _, hy⟩
      ·exact go h
     ·simp only [List.mem_cons, List.mem_append, reduceCtorEq, false_or, Option.some.injEq, List.not_mem_nil, or_false] at h
      rcases h with h | rfl
      ·exact go h
      ·exact ⟨Nat.le_refl _, hy⟩
theorem turnE_fwd {n : Nat} {A : Sp → Ev} (hA : Fwd n A) (mn mx : Int) (lz : Bool) (k : Nat) : Fwd n (turnE n A mn mx lz k) := fun y hy z h => turn_fwd hA mn mx lz _ k y hy z h
def no (e : Ev) : Nat := (outs e).length
def nt (e : Ev) : Nat := (e.filter Option.isNone).length
theorem no_none (e : Ev) : no (none :: e) = no e := rfl
theorem no_some (y : Sp) (e : Ev) : no (some y :: e) = no e + 1 := rfl
theorem nt_none (e : Ev) : nt (none :: e) = nt e + 1 := rfl
theorem nt_some (y : Sp) (e : Ev) : nt (some y :: e) = nt e := rfl
theorem no_app (d e : Ev) : no (d ++ e) = no d + no e := by simp [no, outs_app]
theorem nt_app (d e : Ev) : nt (d ++ e) = nt d + nt e := by simp [nt]
theorem no_nt (e : Ev) : e.length = no e + nt e := by
 induction e with
 | nil => rfl
 | cons o e ih => cases o with
   | none => rw [no_none, nt_none, List.length_cons, ih]; omega
   | some y => rw [no_some, nt_some, List.length_cons, ih]; omega
theorem no_evB {e : Ev} {f : Sp → Ev} {m : Nat} (h : ∀ y, some y ∈ e → no (f y) ≤ m) : no (evB e f) ≤ no e * m := by
 induction e with
 | nil => simp [evB_nil, no, outs]
 | cons o e ih =>
   have i := ih fun y hy => h y (List.mem_cons_of_mem _ hy)
   cases o with
   | none => rw [evB_none, no_none, no_none]; exact i
   | some y =>
     have := h y (List.mem_cons_self ..)
     rw [evB_some, no_app, no_some, Nat.succ_mul]; omega
theorem nt_evB {e : Ev} {f : Sp → Ev} {m : Nat} (h : ∀ y, some y ∈ e → nt (f y) ≤ m) : nt (evB e f) ≤ nt e + no e * m := by
 induction e with
 | nil => simp [evB_nil, nt]
 | cons o e ih =>
   have i := ih fun y hy => h y (List.mem_cons_of_mem _ hy)
   cases o with
   | none => rw [evB_none, no_none, nt_none, nt_none]; omega
   | some y =>
     have := h y (List.mem_cons_self ..)
     rw [evB_some, nt_app, no_some, nt_some, Nat.succ_mul]; omega
def pows (o : Nat) : Nat → Nat
 | 0 => 0
 | j + 1 => 1 + o * pows o j
theorem pows_mono (o : Nat) : ∀ a b, a ≤ b → pows o a ≤ pows o b
 | 0, b, _ => Nat.zero_le _
 | a + 1, b + 1, h => by
   have := Nat.mul_le_mul_left o (pows_mono o a b (by omega))
   simp only [pows]; omega
theorem pows_pos (o j : Nat) : 1 ≤ pows o (j + 1) := by simp only [pows]; omega
def RepOk (mn mx : Int) : Prop := mx < 0 ∨ mn ≤ mx
theorem turn_no {n o : Nat} {A : Sp → Ev} (hA : Fwd n A) (mn mx : Int) (lz : Bool) (hr : RepOk mn mx) (ho : ∀ y, y.1 ≤ n → no (A y) ≤ o) : ∀ (f R k : Nat) (y : Sp), y.1 ≤ n → (0 ≤ mx → (k : Int) ≤ mx) →
  (mn - k).toNat + (n - y.1) ≤ R ∨ 0 ≤ mx ∧ (mx - k).toNat ≤ R → no (turnF A mn mx lz f k y) ≤ pows o (R + 1) := by
 intro f
 induction f with
 | zero => intro R k y _ _ _; simp [turnF, no, outs]
 | succ f ih =>
   intro R k y hy hk hR
   have hoy := ho y hy
   unfold RepOk at hr
   rw [turnF]
   by_cases h1 : (k : Int) < mn
   ·rw [if_pos h1, no_none]
    cases R with
    | zero => omega
    | succ R =>
      have := no_evB (e := A y) (f := fun z => turnF A mn mx lz f (k + 1) z) (m := pows o (R + 1)) fun z hz => by
       obtain ⟨a, b⟩ := hA y hy z hz
       exact ih R (k + 1) z b (by omega) (by omega)
      have := Nat.mul_le_mul_right (pows o (R + 1)) hoy
      rw [show pows o (R + 1 + 1) = 1 + o * pows o (R + 1) from rfl]
      omega
   ·rw [if_neg h1]
    by_cases h2 : (k : Int) = mx
    ·rw [if_pos h2]; exact pows_pos _ _
    ·rw [if_neg h2]
     have go : no (evB (A y) (fun z => if y.1 < z.1 then turnF A mn mx lz f (k + 1) z else [])) + 1 ≤ pows o (R + 1) := by
      cases R with
      | zero =>
        have := no_evB (e := A y) (f := fun z => if y.1 < z.1 then turnF A mn mx lz f (k + 1) z else []) (m := 0) fun z hz => by
         obtain ⟨a, b⟩ := hA y hy z hz
         rw [if_neg (by omega)]; exact Nat.le_refl _
        simp only [pows]; omega
      | succ R =>
        have := no_evB (e := A y) (f := fun z => if y.1 < z.1 then turnF A mn mx lz f (k + 1) z else []) (m := pows o (R + 1)) fun z hz => by
         obtain ⟨a, b⟩ := hA y hy z hz
         by_cases hc : y.1 < z.1
         ·rw [if_pos hc]; exact ih R (k + 1) z b (by omega) (by omega)
         ·rw [if_neg hc]; exact Nat.zero_le _
        have := Nat.mul_le_mul_right (pows o (R + 1)) hoy
        rw [show pows o (R + 1 + 1) = 1 + o * pows o (R + 1) from rfl]
        omega
     split
     ·rw [no_none, no_some, no_none]; exact go
     ·rw [no_none, no_app]; exact go
theorem turn_nt {n o t : Nat} {A : Sp → Ev} (hA : Fwd n A) (mn mx : Int) (lz : Bool) (hr : RepOk mn mx) (ho : ∀ y, y.1 ≤ n → no (A y) ≤ o) (ht : ∀ y, y.1 ≤ n → nt (A y) ≤ t) : ∀ (f U k : Nat) (y : Sp), y.1 ≤ n → (0 ≤ mx → (k : Int) ≤ mx) →
  (mn - k).toNat + (n - y.1) + 1 ≤ U ∨ 0 ≤ mx ∧ (mx - k).toNat ≤ U → nt (turnF A mn mx lz f k y) ≤ (t + 2) * pows o U := by
 intro f
 induction f with
 | zero => intro U k y _ _ _; simp [turnF, nt]
 | succ f ih =>
   intro U k y hy hk hU
   have hoy := ho y hy
   have hty := ht y hy
   unfold RepOk at hr
   rw [turnF]
   have big : ∀ U, (t + 2) * pows o (U + 1) = (t + 2) + o * ((t + 2) * pows o U) := fun U => by
    rw [show pows o (U + 1) = 1 + o * pows o U from rfl, Nat.mul_add, Nat.mul_one, Nat.mul_left_comm]
   by_cases h1 : (k : Int) < mn
   ·rw [if_pos h1, nt_none]
    cases U with
    | zero => omega
    | succ U =>
      have := nt_evB (e := A y) (f := fun z => turnF A mn mx lz f (k + 1) z) (m := (t + 2) * pows o U) fun z hz => by
       obtain ⟨a, b⟩ := hA y hy z hz
       exact ih U (k + 1) z b (by omega) (by omega)
      have := Nat.mul_le_mul_right ((t + 2) * pows o U) hoy
      rw [big]; omega
   ·rw [if_neg h1]
    by_cases h2 : (k : Int) = mx
    ·rw [if_pos h2]; exact Nat.zero_le _
    ·rw [if_neg h2]
     have go : nt (evB (A y) (fun z => if y.1 < z.1 then turnF A mn mx lz f (k + 1) z else [])) + 2 ≤ (t + 2) * pows o U := by
      cases U with
      | zero => omega
      | succ U =>
        have := nt_evB (e := A y) (f := fun z => if y.1 < z.1 then turnF A mn mx lz f (k + 1) z else []) (m := (t + 2) * pows o U) fun z hz => by
         obtain ⟨a, b⟩ := hA y hy z hz
         by_cases hc : y.1 < z.1
         ·rw [if_pos hc]; exact ih U (k + 1) z b (by omega) (by omega)
         ·rw [if_neg hc]; exact Nat.zero_le _
        have := Nat.mul_le_mul_right ((t + 2) * pows o U) hoy
        rw [big]; omega
     split
     ·rw [nt_none, nt_some, nt_none]; exact go
     ·rw [nt_none, nt_app, nt_none, nt_some]; exact Nat.le_trans (by simp [nt]) go
inductive Re where
 | leaf (x : Nd)
 | one (x : Nd) (bk : Nat) (a : Re)
 | two (x : Nd) (a b : Re)
def wordB (c : Nat) : Bool := (decide (97 ≤ c) && decide (c ≤ 122)) || ((decide (65 ≤ c) && decide (c ≤ 90)) || ((decide (48 ≤ c) && decide (c ≤ 57)) || decide (c = 95)))
abbrev byteN (s : ByteArray) (i : Nat) : Nat := Cap.byB s i
def edgeB (s : ByteArray) (p : Nat) : Bool := (decide (0 < p) && wordB (byteN s (p - 1))) != (decide (p < s.size) && wordB (byteN s p))
def holdB (s : ByteArray) (k : Int) (p : Nat) : Bool :=
 if k = 2 then decide (p = 0)
 else if k = 3 then decide (p = s.size)
 else if k = 4 then decide (p = 0) || decide (byteN s (p - 1) = 10)
 else if k = 5 then decide (p = s.size) || decide (byteN s p = 10)
 else if k = 6 then edgeB s p
 else if k = 7 then !edgeB s p
 else false
def leafE (s : ByteArray) (x : Nd) (y : Sp) : Option Sp :=
 if x.k = 0 then some y
 else if x.k = 1 then (if y.1 < s.size ∧ hasN x (byteN s y.1) = true then some (y.1 + 1, y.2) else none)
 else if x.k = 12 then (if agB y.2 s x.n y.1 x.f = true then some (y.1 + (agN y.2 s x.n y.1 x.f).toNat, y.2) else none)
 else if holdB s x.k y.1 = true then some y else none
def oneE : Option Sp → Ev
 | some y => [some y]
 | none => []
def lookE (A : Sp → Ev) (bk : Nat) (y : Sp) : Option Sp := if y.1 < bk then none else (outs (A (y.1 - bk, y.2))).head?
def notE : Option Sp → Sp → Option Sp
 | some _, _ => none
 | none, y => some y
def onlyE (n : Nat) (A : Sp → Ev) (x : Nd) (bk : Nat) (y : Sp) : Option Sp :=
 if x.k = 10 then (outs (turnE n A x.mn x.mx false 0 y)).head?
 else if x.k = 17 then (outs (A y)).head?
 else if x.k = 13 ∨ x.k = 15 then (lookE A bk y).map fun z => (y.1, z.2)
 else notE (lookE A bk y) y
def outsE (s : ByteArray) : Re → Sp → Ev
 | .leaf x, y => oneE (leafE s x y)
 | .two x a b, y => if x.k = 8 then evB (outsE s a y) (outsE s b) else outsE s a y ++ none :: outsE s b y
 | .one x bk a, y =>
   if x.k = 11 then evB (outsE s a y) (fun z => [some (z.1, (withZ z.2 x.n y.1 z.1).1)])
   else if x.k = 10 ∧ x.md ≠ 2 then turnE s.size (outsE s a) x.mn x.mx (decide (x.md = 1)) 0 y
   else oneE (onlyE s.size (outsE s a) x bk y)
theorem oneE_mem {r : Option Sp} {y : Sp} (h : some y ∈ oneE r) : r = some y := by
 cases r with
 | none => simp [oneE] at h
 | some z => simp [oneE] at h; rw [h]
theorem head_mem {l : List Sp} {y : Sp} (h : l.head? = some y) : y ∈ l := List.mem_of_mem_head? (by rw [h]; exact rfl)
theorem only_fwd {n : Nat} {A : Sp → Ev} (hA : Fwd n A) (x : Nd) (bk : Nat) (y z : Sp) (hy : y.1 ≤ n) (h : onlyE n A x bk y = some z) : y.1 ≤ z.1 ∧ z.1 ≤ n := by
 unfold onlyE at h
 split at h
 ·exact turnE_fwd hA _ _ _ _ y hy z (mem_outs.1 (head_mem h))
 ·split at h
  ·exact hA y hy z (mem_outs.1 (head_mem h))
  ·split at h
   ·cases hl : lookE A bk y with
    | none => rw [hl] at h; cases h
    | some w => rw [hl] at h; injection h with h; subst h; exact ⟨Nat.le_refl _, hy⟩
   ·cases hl : lookE A bk y with
    | none => rw [hl] at h; injection h with h; subst h; exact ⟨Nat.le_refl _, hy⟩
    | some w => rw [hl] at h; cases h
theorem leaf_fwd {s : ByteArray} {x : Nd} {y z : Sp} (hy : y.1 ≤ s.size) (h : leafE s x y = some z) : y.1 ≤ z.1 ∧ z.1 ≤ s.size := by
 unfold leafE at h
 split at h
 ·injection h with h; subst h; exact ⟨Nat.le_refl _, hy⟩
 ·split at h
  ·split at h
   ·rename_i hc; injection h with h; subst h; exact ⟨by simp, by have := hc.1; simp; omega⟩
   ·cases h
  ·split at h
   ·split at h
    ·rename_i hc; injection h with h; subst h
     obtain ⟨h1, h2⟩ := ag_le _ _ _ _ _ hc
     exact ⟨by simp, by simp; omega⟩
    ·cases h
   ·split at h
    ·injection h with h; subst h; exact ⟨Nat.le_refl _, hy⟩
    ·cases h
theorem outsE_fwd (s : ByteArray) : ∀ r, Fwd s.size (outsE s r)
 | .leaf x => fun y hy z h => leaf_fwd hy (oneE_mem h)
 | .two x a b => fun y hy z h => by
   unfold outsE at h
   split at h
   ·obtain ⟨u, hu, hz⟩ := evB_mem h
    obtain ⟨h1, h2⟩ := outsE_fwd s a y hy u hu
    obtain ⟨h3, h4⟩ := outsE_fwd s b u h2 z hz
    exact ⟨by omega, h4⟩
   ·rcases List.mem_append.1 h with h | h
    ·exact outsE_fwd s a y hy z h
    ·simp only [List.mem_cons, reduceCtorEq, false_or] at h
     exact outsE_fwd s b y hy z h
 | .one x bk a => fun y hy z h => by
   unfold outsE at h
   split at h
   ·obtain ⟨u, hu, hz⟩ := evB_mem h
    simp at hz; subst hz
    exact outsE_fwd s a y hy u hu
   ·split at h
    ·exact turnE_fwd (outsE_fwd s a) _ _ _ _ y hy z h
    ·exact only_fwd (outsE_fwd s a) x bk y z hy (oneE_mem h)
def tries (n : Nat) (mn mx : Int) : Nat := if 0 ≤ mx then min (mn.toNat + n + 1) mx.toNat else mn.toNat + n + 1
def most (n : Nat) (mn mx : Int) : Nat := if 0 ≤ mx then min (mn.toNat + n) mx.toNat else mn.toNat + n
def work (n : Nat) : Re → Nat × Nat
 | .leaf _ => (1, 1)
 | .two x a b => if x.k = 8 then (1 + ((work n a).1 + (work n a).2 * (work n b).1), (work n a).2 * (work n b).2) else (1 + ((work n a).1 + (work n b).1), (work n a).2 + (work n b).2)
 | .one x _ a =>
   if x.k = 10 then (1 + ((work n a).1 + 1) * pows (work n a).2 (tries n x.mn x.mx), if x.md = 2 then 1 else pows (work n a).2 (most n x.mn x.mx + 1))
   else if x.k = 11 then (1 + (work n a).1, (work n a).2) else (1 + (work n a).1, 1)
theorem work_one (n : Nat) (x : Nd) (bk : Nat) (a : Re) : work n (.one x bk a) =
  if x.k = 10 then (1 + ((work n a).1 + 1) * pows (work n a).2 (tries n x.mn x.mx), if x.md = 2 then 1 else pows (work n a).2 (most n x.mn x.mx + 1))
  else if x.k = 11 then (1 + (work n a).1, (work n a).2) else (1 + (work n a).1, 1) := rfl
def Re.reps : Re → Prop
 | .leaf _ => True
 | .two _ a b => a.reps ∧ b.reps
 | .one x _ a => (x.k = 10 → RepOk x.mn x.mx) ∧ a.reps
theorem no_one (r : Option Sp) : no (oneE r) ≤ 1 ∧ nt (oneE r) = 0 := by cases r <;> simp [oneE, no, nt, outs]
theorem work_pos (n : Nat) : ∀ r, 1 ≤ (work n r).1
 | .leaf _ => Nat.le_refl _
 | .two x a b => by unfold work; split <;> simp
 | .one x bk a => by unfold work; split <;> (try split) <;> simp
theorem work_no (s : ByteArray) : ∀ r : Re, r.reps → ∀ y, y.1 ≤ s.size → no (outsE s r y) ≤ (work s.size r).2
 | .leaf x, _, y, _ => (no_one _).1
 | .two x a b, hr, y, hy => by
   have h1 := work_no s a hr.1 y hy
   unfold outsE work
   split
   ·have h2 := no_evB (e := outsE s a y) (f := outsE s b) (m := (work s.size b).2) fun z hz => work_no s b hr.2 z (outsE_fwd s a y hy z hz).2
    exact Nat.le_trans h2 (Nat.mul_le_mul_right _ h1)
   ·rw [no_app, no_none]
    have h2 := work_no s b hr.2 y hy
    simp only []; omega
 | .one x bk a, hr, y, hy => by
   have h1 := work_no s a hr.2
   have e1 : (work s.size (.one x bk a)).2 = if x.k = 10 then (if x.md = 2 then 1 else pows (work s.size a).2 (most s.size x.mn x.mx + 1)) else if x.k = 11 then (work s.size a).2 else 1 := by
    rw [work_one]; split
    ·rfl
    ·split <;> rfl
   rw [e1]
   unfold outsE
   by_cases c1 : x.k = 11
   ·rw [if_pos c1, if_neg (by omega), if_pos c1]
    have := no_evB (e := outsE s a y) (f := fun z => [some (z.1, (withZ z.2 x.n y.1 z.1).1)]) (m := 1) fun z hz => by simp [no, outs]
    have := h1 y hy; omega
   ·rw [if_neg c1]
    by_cases c2 : x.k = 10 ∧ x.md ≠ 2
    ·rw [if_pos c2, if_pos c2.1, if_neg c2.2]
     refine turn_no (outsE_fwd s a) x.mn x.mx _ (hr.1 c2.1) h1 _ _ 0 y hy (by omega) ?_
     unfold most
     by_cases c3 : 0 ≤ x.mx
     ·rw [if_pos c3]; omega
     ·rw [if_neg c3]; omega
    ·rw [if_neg c2]
     have h0 := (no_one (onlyE s.size (outsE s a) x bk y)).1
     by_cases c3 : x.k = 10
     ·rw [if_pos c3, if_pos (Decidable.byContradiction fun h => c2 ⟨c3, h⟩)]; exact h0
     ·rw [if_neg c3, if_neg c1]; exact h0
theorem work_nt (s : ByteArray) : ∀ r : Re, r.reps → ∀ y, y.1 ≤ s.size → nt (outsE s r y) + 2 ≤ 2 * (work s.size r).1
 | .leaf x, _, y, _ => by rw [show outsE s (.leaf x) y = oneE (leafE s x y) from rfl, (no_one _).2]; exact Nat.le_refl _
 | .two x a b, hr, y, hy => by
   have h1 := work_nt s a hr.1 y hy
   have h3 := work_no s a hr.1 y hy
   have p1 := work_pos s.size b
   unfold outsE work
   split
   ·have h2 := nt_evB (e := outsE s a y) (f := outsE s b) (m := 2 * (work s.size b).1) fun z hz => by
     have := work_nt s b hr.2 z (outsE_fwd s a y hy z hz).2; omega
    have := Nat.mul_le_mul_right (2 * (work s.size b).1) h3
    rw [Nat.mul_left_comm (work s.size a).2] at this
    simp only []; omega
   ·rw [nt_app, nt_none]
    have h2 := work_nt s b hr.2 y hy
    simp only []; omega
 | .one x bk a, hr, y, hy => by
   have h1 := work_nt s a hr.2
   have h0 := work_no s a hr.2
   have p1 := work_pos s.size a
   have e1 : (work s.size (.one x bk a)).1 = if x.k = 10 then 1 + ((work s.size a).1 + 1) * pows (work s.size a).2 (tries s.size x.mn x.mx) else 1 + (work s.size a).1 := by
    rw [work_one]; split
    ·rfl
    ·split <;> rfl
   rw [e1]
   unfold outsE
   by_cases c1 : x.k = 11
   ·rw [if_pos c1, if_neg (by omega)]
    have := nt_evB (e := outsE s a y) (f := fun z => [some (z.1, (withZ z.2 x.n y.1 z.1).1)]) (m := 0) fun z hz => by simp [nt]
    have := h1 y hy; omega
   ·rw [if_neg c1]
    by_cases c2 : x.k = 10 ∧ x.md ≠ 2
    ·rw [if_pos c2, if_pos c2.1]
     have h3 := turn_nt (t := 2 * (work s.size a).1 - 2) (outsE_fwd s a) x.mn x.mx (decide (x.md = 1)) (hr.1 c2.1) h0 (fun z hz => by have := h1 z hz; omega) (turnM s.size x.mn 0 y) (tries s.size x.mn x.mx) 0 y hy (by omega) (by
      unfold tries
      by_cases c3 : 0 ≤ x.mx
      ·rw [if_pos c3]; omega
      ·rw [if_neg c3]; omega)
     have h4 : nt (turnE s.size (outsE s a) x.mn x.mx (decide (x.md = 1)) 0 y) = nt (turnF (outsE s a) x.mn x.mx (decide (x.md = 1)) (turnM s.size x.mn 0 y) 0 y) := rfl
     rw [h4]
     rw [show 2 * (work s.size a).1 - 2 + 2 = 2 * (work s.size a).1 by omega, Nat.mul_assoc] at h3
     rw [Nat.add_mul]
     omega
    ·rw [if_neg c2, (no_one _).2]
     split <;> omega
theorem work_len (s : ByteArray) (r : Re) (hr : r.reps) (y : Sp) (hy : y.1 ≤ s.size) : (outsE s r y).length ≤ (work s.size r).2 + 2 * (work s.size r).1 := by
 have := work_no s r hr y hy; have := work_nt s r hr y hy; have := no_nt (outsE s r y); omega
end Go.Proofs.YteiboobdhjdjkaaGreatDoor.Nai
namespace Go.Proofs.YteiboobdhjdjkaaGreatDoor.Nai
open Go.RowKit
open Cap (ret_b byB byB_eq)
theorem word_any (c : Nat) (hc : c < 256) (w : World) : Calls Tryz.prog 68 #[.int .u8 (c : Int)] w fun e w' => e = .returned (.bool (wordB c)) ∧ w = w' := by
 go_enter Tryz.func68, Tryz.ntmps68
 go_wp2
 all_goals
  go_ret
  exact ⟨ret_b (by unfold wordB; rw [Bool.eq_iff_iff]; simp; omega), rfl⟩
set_option maxRecDepth 20000 in
theorem edge_any (s : ByteArray) (p : Nat) (hp : p ≤ s.size) (hs : s.size ≤ 1000000000) (w : World) : Calls Tryz.prog 44 #[.string s, .int .i64 (p : Int)] w fun e w' => e = .returned (.bool (edgeB s p)) ∧ w = w' := by
 unfold edgeB byteN
 by_cases h0 : 0 < p
 ·by_cases h1 : p < s.size
  ·have c0 : decide ((0 : Int) < (p : Int)) = true := decide_eq_true (by omega)
   have c1 : decide ((p : Int) < (s.size : Int)) = true := decide_eq_true (by omega)
   rw [decide_eq_true h0, decide_eq_true h1]
   have k0 : p - 1 < s.size := by omega
   have e0 := byB_eq k0
   obtain ⟨j, rfl⟩ : ∃ j, p = j + 1 := ⟨p - 1, by omega⟩
   simp only [Nat.add_sub_cancel] at k0 e0 ⊢
   have W0 := Lib.hid (fun w => word_any (byB s j) (by rw [e0]; exact s[j].toNat_lt) w)
   rw [e0] at W0 ⊢
   have i0 : (j : Int) < (s.size : Int) := by omega
   have k1 := h1
   have e1 := byB_eq h1
   have W1 := Lib.hid (fun w => word_any (byB s (j + 1)) (by rw [e1]; exact s[(j + 1)].toNat_lt) w)
   rw [e1] at W1 ⊢
   have i1 : ((j : Int) + 1) < (s.size : Int) := by omega
   have hz : (s.size : Int) ≤ 1000000000 := by omega
   clear hs hp
   go_enter Tryz.func44, Tryz.ntmps44
   go_wp2_with fail
   refine (W0.out _).mono ?_
   rintro e w' ⟨rfl, rfl⟩
   go_wp2_with fail
   refine (W1.out _).mono ?_
   rintro e w' ⟨rfl, rfl⟩
   go_wp2_with fail
   go_ret
   exact ⟨ret_b (by cases wordB s[j].toNat <;> cases wordB s[j + 1].toNat <;> rfl), rfl⟩
  ·have c0 : decide ((0 : Int) < (p : Int)) = true := decide_eq_true (by omega)
   have c1 : decide ((p : Int) < (s.size : Int)) = false := decide_eq_false (by omega)
   rw [decide_eq_true h0, decide_eq_false h1]
   have k0 : p - 1 < s.size := by omega
   have e0 := byB_eq k0
   obtain ⟨j, rfl⟩ : ∃ j, p = j + 1 := ⟨p - 1, by omega⟩
   simp only [Nat.add_sub_cancel] at k0 e0 ⊢
   have W0 := Lib.hid (fun w => word_any (byB s j) (by rw [e0]; exact s[j].toNat_lt) w)
   rw [e0] at W0 ⊢
   have i0 : (j : Int) < (s.size : Int) := by omega
   have hz : (s.size : Int) ≤ 1000000000 := by omega
   clear hs hp
   go_enter Tryz.func44, Tryz.ntmps44
   go_wp2_with fail
   refine (W0.out _).mono ?_
   rintro e w' ⟨rfl, rfl⟩
   go_wp2_with fail
   go_ret
   exact ⟨ret_b (by simp), rfl⟩
 ·by_cases h1 : p < s.size
  ·have c0 : decide ((0 : Int) < (p : Int)) = false := decide_eq_false (by omega)
   have c1 : decide ((p : Int) < (s.size : Int)) = true := decide_eq_true (by omega)
   rw [decide_eq_false h0, decide_eq_true h1]
   have k1 := h1
   have e1 := byB_eq h1
   have W1 := Lib.hid (fun w => word_any (byB s p) (by rw [e1]; exact s[p].toNat_lt) w)
   rw [e1] at W1 ⊢
   have i1 : (p : Int) < (s.size : Int) := by omega
   have hz : (s.size : Int) ≤ 1000000000 := by omega
   clear hs hp
   go_enter Tryz.func44, Tryz.ntmps44
   go_wp2_with fail
   refine (W1.out _).mono ?_
   rintro e w' ⟨rfl, rfl⟩
   go_wp2_with fail
   go_ret
   exact ⟨ret_b (by simp), rfl⟩
  ·have c0 : decide ((0 : Int) < (p : Int)) = false := decide_eq_false (by omega)
   have c1 : decide ((p : Int) < (s.size : Int)) = false := decide_eq_false (by omega)
   rw [decide_eq_false h0, decide_eq_false h1]
   have hz : (s.size : Int) ≤ 1000000000 := by omega
   clear hs hp
   go_enter Tryz.func44, Tryz.ntmps44
   go_wp2_with fail
   go_ret
   exact ⟨ret_b (by simp), rfl⟩
theorem hold_out (k : Int) (s : ByteArray) (z : Int) (hz : z < 0 ∨ (s.size : Int) < z) (_hs : s.size ≤ 1000000000) (w : World) : Calls Tryz.prog 23 #[.int .i64 k, .string s, .int .i64 z] w fun e w' => e = .returned (.bool false) ∧ w = w' := by
 by_cases h0 : z < 0
 ·have c0 : decide (z < 0) = true := decide_eq_true h0
  clear hz
  go_enter Tryz.func23, Tryz.ntmps23
  go_wp2_with fail
  go_ret
  exact ⟨rfl, rfl⟩
 ·have c0 : decide (z < 0) = false := decide_eq_false h0
  have c1 : decide ((s.size : Int) < z) = true := decide_eq_true (by omega)
  have h1 : (s.size : Int) < z := by omega
  clear hz
  go_enter Tryz.func23, Tryz.ntmps23
  go_wp2_with fail
  go_ret
  exact ⟨rfl, rfl⟩
set_option maxRecDepth 20000 in
theorem hold_2 (s : ByteArray) (p : Nat) (hp : p ≤ s.size) (hs : s.size ≤ 1000000000) (w : World) : Calls Tryz.prog 23 #[.int .i64 2, .string s, .int .i64 (p : Int)] w fun e w' => e = .returned (.bool (holdB s 2 p)) ∧ w = w' := by
 have i0 : (0 : Int) ≤ (p : Int) := by omega
 have i1 : (p : Int) ≤ (s.size : Int) := by omega
 have hz : (s.size : Int) ≤ 1000000000 := by omega
 unfold holdB byteN
 by_cases h0 : p = 0
 ·subst h0
  go_enter Tryz.func23, Tryz.ntmps23
  go_wp2_with fail
  go_ret
  exact ⟨ret_b (by simp), rfl⟩
 ·have q : ((p : Int) == 0) = false := beq_eq_false_iff_ne.2 (by omega)
  clear hp hs
  go_enter Tryz.func23, Tryz.ntmps23
  go_wp2_with fail
  go_ret
  exact ⟨ret_b (by simp), rfl⟩
set_option maxRecDepth 20000 in
theorem hold_3 (s : ByteArray) (p : Nat) (hp : p ≤ s.size) (hs : s.size ≤ 1000000000) (w : World) : Calls Tryz.prog 23 #[.int .i64 3, .string s, .int .i64 (p : Int)] w fun e w' => e = .returned (.bool (holdB s 3 p)) ∧ w = w' := by
 have i0 : (0 : Int) ≤ (p : Int) := by omega
 have i1 : (p : Int) ≤ (s.size : Int) := by omega
 have hz : (s.size : Int) ≤ 1000000000 := by omega
 unfold holdB byteN
 by_cases h0 : p = s.size
 ·subst h0
  clear hp hs
  go_enter Tryz.func23, Tryz.ntmps23
  go_wp2_with fail
  go_ret
  exact ⟨ret_b (by simp), rfl⟩
 ·have q : ((p : Int) == (s.size : Int)) = false := beq_eq_false_iff_ne.2 (by omega)
  have H0 := Lib.hid h0
  clear hp hs h0
  go_enter Tryz.func23, Tryz.ntmps23
  go_wp2_with fail
  go_ret
  exact ⟨ret_b (by simp [H0.out]), rfl⟩
set_option maxRecDepth 20000 in
theorem hold_4 (s : ByteArray) (p : Nat) (hp : p ≤ s.size) (hs : s.size ≤ 1000000000) (w : World) : Calls Tryz.prog 23 #[.int .i64 4, .string s, .int .i64 (p : Int)] w fun e w' => e = .returned (.bool (holdB s 4 p)) ∧ w = w' := by
 have i0 : (0 : Int) ≤ (p : Int) := by omega
 have i1 : (p : Int) ≤ (s.size : Int) := by omega
 have hz : (s.size : Int) ≤ 1000000000 := by omega
 unfold holdB byteN
 by_cases h0 : p = 0
 ·subst h0
  go_enter Tryz.func23, Tryz.ntmps23
  go_wp2_with fail
  go_ret
  exact ⟨ret_b (by simp), rfl⟩
 ·obtain ⟨j, rfl⟩ : ∃ j, p = j + 1 := ⟨p - 1, by omega⟩
  have k0 : j < s.size := by omega
  have j1 : (j : Int) < (s.size : Int) := by omega
  have e0 := byB_eq k0
  rw [show j + 1 - 1 = j by omega, e0]
  have q : (((j + 1 : Nat) : Int) == 0) = false := beq_eq_false_iff_ne.2 (by omega)
  have q2 : ((j : Int) + 1 == 0) = false := beq_eq_false_iff_ne.2 (by omega)
  clear hp hs e0 h0
  go_enter Tryz.func23, Tryz.ntmps23
  go_wp2_with fail
  go_ret
  exact ⟨ret_b (by rw [Bool.eq_iff_iff]; simp; omega), rfl⟩
set_option maxRecDepth 20000 in
theorem hold_5 (s : ByteArray) (p : Nat) (hp : p ≤ s.size) (hs : s.size ≤ 1000000000) (w : World) : Calls Tryz.prog 23 #[.int .i64 5, .string s, .int .i64 (p : Int)] w fun e w' => e = .returned (.bool (holdB s 5 p)) ∧ w = w' := by
 have i0 : (0 : Int) ≤ (p : Int) := by omega
 have i1 : (p : Int) ≤ (s.size : Int) := by omega
 have hz : (s.size : Int) ≤ 1000000000 := by omega
 unfold holdB byteN
 by_cases h0 : p = s.size
 ·subst h0
  clear hp hs
  go_enter Tryz.func23, Tryz.ntmps23
  go_wp2_with fail
  go_ret
  exact ⟨ret_b (by simp), rfl⟩
 ·have k0 : p < s.size := by omega
  have j1 : (p : Int) < (s.size : Int) := by omega
  have e0 := byB_eq k0
  rw [e0]
  have q : ((p : Int) == (s.size : Int)) = false := beq_eq_false_iff_ne.2 (by omega)
  have H0 := Lib.hid h0
  clear hp hs e0 h0
  go_enter Tryz.func23, Tryz.ntmps23
  go_wp2_with fail
  go_ret
  exact ⟨ret_b (by have := H0.out; rw [Bool.eq_iff_iff]; simp [H0.out]; omega), rfl⟩
set_option maxRecDepth 20000 in
theorem hold_6 (s : ByteArray) (p : Nat) (hp : p ≤ s.size) (hs : s.size ≤ 1000000000) (w : World) : Calls Tryz.prog 23 #[.int .i64 6, .string s, .int .i64 (p : Int)] w fun e w' => e = .returned (.bool (holdB s 6 p)) ∧ w = w' := by
 have i0 : (0 : Int) ≤ (p : Int) := by omega
 have i1 : (p : Int) ≤ (s.size : Int) := by omega
 have hz : (s.size : Int) ≤ 1000000000 := by omega
 unfold holdB byteN
 have HE := Lib.hid (fun w => edge_any s p hp hs w)
 simp only [show ((6 : Int) = 2) = False from by decide, show ((6 : Int) = 3) = False from by decide, show ((6 : Int) = 4) = False from by decide, show ((6 : Int) = 5) = False from by decide, if_false, if_true]
 generalize edgeB s p = z at HE ⊢
 clear hp hs
 go_enter Tryz.func23, Tryz.ntmps23
 go_wp2_with fail
 refine (HE.out _).mono ?_
 rintro e w' ⟨rfl, rfl⟩
 go_wp2_with fail
 go_ret
 exact ⟨ret_b (by simp), rfl⟩
set_option maxRecDepth 20000 in
theorem hold_7 (s : ByteArray) (p : Nat) (hp : p ≤ s.size) (hs : s.size ≤ 1000000000) (w : World) : Calls Tryz.prog 23 #[.int .i64 7, .string s, .int .i64 (p : Int)] w fun e w' => e = .returned (.bool (holdB s 7 p)) ∧ w = w' := by
 have i0 : (0 : Int) ≤ (p : Int) := by omega
 have i1 : (p : Int) ≤ (s.size : Int) := by omega
 have hz : (s.size : Int) ≤ 1000000000 := by omega
 unfold holdB byteN
 have HE := Lib.hid (fun w => edge_any s p hp hs w)
 simp only [show ((7 : Int) = 2) = False from by decide, show ((7 : Int) = 3) = False from by decide, show ((7 : Int) = 4) = False from by decide, show ((7 : Int) = 5) = False from by decide, show ((7 : Int) = 6) = False from by decide, if_false, if_true]
 generalize edgeB s p = z at HE ⊢
 clear hp hs
 go_enter Tryz.func23, Tryz.ntmps23
 go_wp2_with fail
 refine (HE.out _).mono ?_
 rintro e w' ⟨rfl, rfl⟩
 go_wp2_with fail
 go_ret
 exact ⟨ret_b (by simp), rfl⟩
theorem hold_no (k : Int) (h2 : k ≠ 2) (h3 : k ≠ 3) (h4 : k ≠ 4) (h5 : k ≠ 5) (h6 : k ≠ 6) (h7 : k ≠ 7) (s : ByteArray) (p : Nat) (hp : p ≤ s.size) (_hs : s.size ≤ 1000000000) (w : World) : Calls Tryz.prog 23 #[.int .i64 k, .string s, .int .i64 (p : Int)] w fun e w' => e = .returned (.bool (holdB s k p)) ∧ w = w' := by
 have i0 : (0 : Int) ≤ (p : Int) := by omega
 have i1 : (p : Int) ≤ (s.size : Int) := by omega
 have q2 : (k == 2) = false := beq_eq_false_iff_ne.2 h2
 have q3 : (k == 3) = false := beq_eq_false_iff_ne.2 h3
 have q4 : (k == 4) = false := beq_eq_false_iff_ne.2 h4
 have q5 : (k == 5) = false := beq_eq_false_iff_ne.2 h5
 have q6 : (k == 6) = false := beq_eq_false_iff_ne.2 h6
 have q7 : (k == 7) = false := beq_eq_false_iff_ne.2 h7
 have e : holdB s k p = false := by unfold holdB; simp [h2, h3, h4, h5, h6, h7]
 rw [e]
 clear h2 h3 h4 h5 h6 h7 e hp _hs
 go_enter Tryz.func23, Tryz.ntmps23
 go_wp2_with fail
 go_ret
 exact ⟨rfl, rfl⟩
theorem hold_any (k : Int) (s : ByteArray) (p : Nat) (hp : p ≤ s.size) (hs : s.size ≤ 1000000000) (w : World) : Calls Tryz.prog 23 #[.int .i64 k, .string s, .int .i64 (p : Int)] w fun e w' => e = .returned (.bool (holdB s k p)) ∧ w = w' := by
 by_cases h2 : k = 2
 ·subst h2; exact hold_2 s p hp hs w
 ·by_cases h3 : k = 3
  ·subst h3; exact hold_3 s p hp hs w
  ·by_cases h4 : k = 4
   ·subst h4; exact hold_4 s p hp hs w
   ·by_cases h5 : k = 5
    ·subst h5; exact hold_5 s p hp hs w
    ·by_cases h6 : k = 6
     ·subst h6; exact hold_6 s p hp hs w
     ·by_cases h7 : k = 7
      ·subst h7; exact hold_7 s p hp hs w
      ·exact hold_no k h2 h3 h4 h5 h6 h7 s p hp hs w
end Go.Proofs.YteiboobdhjdjkaaGreatDoor.Nai
namespace Go.Proofs.YteiboobdhjdjkaaGreatDoor.Nai
open Go.RowKit
open Cap (ret_b byB byB_eq)
def wdB (s : ByteArray) (z : Int) : Bool := decide (0 ≤ z ∧ z < s.size) && wordB (byteN s z.toNat)
theorem rword_any (s : ByteArray) (z : Int) (_hs : s.size ≤ 1000000000) (w : World) : Calls Tryz.prog 45 #[.string s, .int .i64 z] w fun e w' => e = .returned (.bool (wdB s z)) ∧ w = w' := by
 unfold wdB
 by_cases h : 0 ≤ z ∧ z < s.size
 ·rw [decide_eq_true h, Bool.true_and]
  obtain ⟨p, rfl⟩ : ∃ p : Nat, z = p := ⟨z.toNat, by omega⟩
  have h1 : p < s.size := by omega
  have e1 := byB_eq h1
  unfold byteN
  rw [Int.toNat_natCast, e1]
  have i0 : (0 : Int) ≤ (p : Int) := by omega
  have i1 : (p : Int) < (s.size : Int) := h.2
  have k1 := h1
  have c8 := s[p].toNat_lt
  clear h e1
  go_enter Tryz.func45, Tryz.ntmps45
  go_wp2
  all_goals
   go_ret
   exact ⟨ret_b (by unfold wordB; rw [Bool.eq_iff_iff]; simp; omega), rfl⟩
 ·rw [decide_eq_false h, Bool.false_and]
  by_cases h0 : z < 0
  ·clear h
   go_enter Tryz.func45, Tryz.ntmps45
   go_wp2_with fail
   go_ret
   exact ⟨rfl, rfl⟩
  ·have h1 : (s.size : Int) ≤ z := by omega
   have h2 : 0 ≤ z := by omega
   clear h h0
   go_enter Tryz.func45, Tryz.ntmps45
   go_wp2_with fail
   go_ret
   exact ⟨rfl, rfl⟩
theorem wdB_ahead (s : ByteArray) (p : Nat) (hp : p ≤ s.size) : wdB s ((p : Int) - 1) = (decide (0 < p) && wordB (byteN s (p - 1))) := by
 unfold wdB
 rw [show decide ((0 : Int) ≤ (p : Int) - 1 ∧ (p : Int) - 1 < (s.size : Int)) = decide (0 < p) from decide_eq_decide.2 (by omega)]
 congr 3
 omega
theorem wdB_at (s : ByteArray) (p : Nat) : wdB s (p : Int) = (decide (p < s.size) && wordB (byteN s p)) := by
 unfold wdB
 rw [show decide ((0 : Int) ≤ (p : Int) ∧ (p : Int) < (s.size : Int)) = decide (p < s.size) from decide_eq_decide.2 (by omega), Int.toNat_natCast]
def holdZ (s : ByteArray) (k z : Int) : Bool := decide (0 ≤ z ∧ z ≤ s.size) && holdB s k z.toNat
theorem rhold_any (k : Int) (s : ByteArray) (z : Int) (hs : s.size ≤ 1000000) (hz : z ≤ 9223372036854775807 ∧ -9223372036854775808 ≤ z) (w : World) : Calls Tryz.prog 24 #[.int .i64 k, .string s, .int .i64 z] w fun e w' => e = .returned (.bool (holdZ s k z)) ∧ w = w' := by
 unfold holdZ
 by_cases h : 0 ≤ z ∧ z ≤ s.size
 ·rw [decide_eq_true h, Bool.true_and]
  obtain ⟨p, rfl⟩ : ∃ p : Nat, z = p := ⟨z.toNat, by omega⟩
  have hp : p ≤ s.size := by omega
  rw [Int.toNat_natCast]
  have i0 : (0 : Int) ≤ (p : Int) := by omega
  have i1 : (p : Int) ≤ (s.size : Int) := h.2
  have sz : (s.size : Int) ≤ 1000000 := by omega
  have W0 := Lib.hid (fun w => rword_any s ((p : Int) - 1) (by omega) w)
  have W1 := Lib.hid (fun w => rword_any s (p : Int) (by omega) w)
  rw [wdB_ahead s p hp] at W0
  rw [wdB_at] at W1
  by_cases k2 : k = 2
  ·subst k2
   have e : holdB s 2 p = decide ((p : Int) = 0) := by unfold holdB; rw [if_pos rfl]; exact decide_eq_decide.2 (by omega)
   rw [e]
   clear h hs W0 W1 e hz
   go_enter Tryz.func24, Tryz.ntmps24
   go_wp2_with fail
   go_ret
   exact ⟨ret_b (by first | rfl | (simp; done) | (simp; rfl) | (cases b1 <;> cases b2 <;> rfl)), rfl⟩
  by_cases k3 : k = 3
  ·subst k3
   have e : holdB s 3 p = decide ((p : Int) = (s.size : Int)) := by unfold holdB; rw [if_neg (by decide), if_pos rfl]; exact decide_eq_decide.2 (by omega)
   rw [e]
   clear h hs W0 W1 e hz k2
   go_enter Tryz.func24, Tryz.ntmps24
   go_wp2_with fail
   go_ret
   exact ⟨ret_b (by first | rfl | (simp; done) | (simp; rfl) | (cases b1 <;> cases b2 <;> rfl)), rfl⟩
  by_cases k4 : k = 4
  ·subst k4
   by_cases p0 : p = 0
   ·subst p0
    have e : holdB s 4 0 = true := by unfold holdB; simp
    rw [e]
    clear h hs W0 W1 e hz k2 k3
    go_enter Tryz.func24, Tryz.ntmps24
    go_wp2_with fail
    go_ret
    exact ⟨ret_b (by first | rfl | (simp; done) | (simp; rfl) | (cases b1 <;> cases b2 <;> rfl)), rfl⟩
   ·obtain ⟨j, rfl⟩ : ∃ j, p = j + 1 := ⟨p - 1, by omega⟩
    have k0 : j < s.size := by omega
    have e0 := byB_eq k0
    have e : holdB s 4 (j + 1) = decide (s[j].toNat = 10) := by unfold holdB byteN; simp [e0]
    rw [e]
    have j1 : (j : Int) < (s.size : Int) := by omega
    have c8 := s[j].toNat_lt
    clear h hs W0 W1 e hz k2 k3 e0 p0
    go_enter Tryz.func24, Tryz.ntmps24
    go_wp2_with fail
    go_ret
    exact ⟨ret_b (by rw [Bool.eq_iff_iff]; simp <;> omega), rfl⟩
  by_cases k5 : k = 5
  ·subst k5
   by_cases p0 : p = s.size
   ·have e : holdB s 5 p = true := by unfold holdB; simp [p0]
    rw [e]
    have q0 : ((p : Int) == (s.size : Int)) = true := by simp [p0]
    clear h hs W0 W1 e hz k2 k3 k4 p0
    go_enter Tryz.func24, Tryz.ntmps24
    go_wp2_with fail
    go_ret
    exact ⟨ret_b (by first | rfl | (simp; done) | (simp; rfl) | (cases b1 <;> cases b2 <;> rfl)), rfl⟩
   ·have k0 : p < s.size := by omega
    have e0 := byB_eq k0
    have e : holdB s 5 p = decide (s[p].toNat = 10) := by unfold holdB byteN; simp [e0, p0]
    rw [e]
    have q0 : ((p : Int) == (s.size : Int)) = false := by simp; omega
    have j1 : (p : Int) < (s.size : Int) := by omega
    have c8 := s[p].toNat_lt
    clear h hs W0 W1 e hz k2 k3 k4 e0 p0
    go_enter Tryz.func24, Tryz.ntmps24
    go_wp2_with fail
    go_ret
    exact ⟨ret_b (by rw [Bool.eq_iff_iff]; simp <;> omega), rfl⟩
  by_cases k6 : k = 6
  ·subst k6
   have e : holdB s 6 p = edgeB s p := by unfold holdB; simp
   rw [e]
   unfold edgeB
   generalize (decide (0 < p) && wordB (byteN s (p - 1))) = b1 at W0 ⊢
   generalize (decide (p < s.size) && wordB (byteN s p)) = b2 at W1 ⊢
   clear h hs e hz k2 k3 k4 k5
   go_enter Tryz.func24, Tryz.ntmps24
   go_wp2_with fail
   refine (W0.out _).mono ?_
   rintro e w' ⟨rfl, rfl⟩
   go_wp2_with fail
   refine (W1.out _).mono ?_
   rintro e w' ⟨rfl, rfl⟩
   go_wp2_with fail
   go_ret
   exact ⟨ret_b (by first | rfl | (simp; done) | (simp; rfl) | (cases b1 <;> cases b2 <;> rfl)), rfl⟩
  by_cases k7 : k = 7
  ·subst k7
   have e : holdB s 7 p = !edgeB s p := by unfold holdB; simp
   rw [e]
   unfold edgeB
   generalize (decide (0 < p) && wordB (byteN s (p - 1))) = b1 at W0 ⊢
   generalize (decide (p < s.size) && wordB (byteN s p)) = b2 at W1 ⊢
   clear h hs e hz k2 k3 k4 k5 k6
   go_enter Tryz.func24, Tryz.ntmps24
   go_wp2_with fail
   refine (W0.out _).mono ?_
   rintro e w' ⟨rfl, rfl⟩
   go_wp2_with fail
   refine (W1.out _).mono ?_
   rintro e w' ⟨rfl, rfl⟩
   go_wp2_with fail
   go_ret
   exact ⟨ret_b (by cases b1 <;> cases b2 <;> rfl), rfl⟩
  have e : holdB s k p = false := by unfold holdB; simp [k2, k3, k4, k5, k6, k7]
  rw [e]
  have q2 : (k == 2) = false := beq_eq_false_iff_ne.2 k2
  have q3 : (k == 3) = false := beq_eq_false_iff_ne.2 k3
  have q4 : (k == 4) = false := beq_eq_false_iff_ne.2 k4
  have q5 : (k == 5) = false := beq_eq_false_iff_ne.2 k5
  have q6 : (k == 6) = false := beq_eq_false_iff_ne.2 k6
  have q7 : (k == 7) = false := beq_eq_false_iff_ne.2 k7
  clear h hs e hz k2 k3 k4 k5 k6 k7 W0 W1
  go_enter Tryz.func24, Tryz.ntmps24
  go_wp2_with fail
  go_ret
  exact ⟨rfl, rfl⟩
 ·rw [decide_eq_false h, Bool.false_and]
  by_cases h0 : z < 0
  ·clear h hs hz
   go_enter Tryz.func24, Tryz.ntmps24
   go_wp2_with fail
   go_ret
   exact ⟨rfl, rfl⟩
  ·have h1 : (s.size : Int) < z := by omega
   have h2 : 0 ≤ z := by omega
   clear h h0 hs hz
   go_enter Tryz.func24, Tryz.ntmps24
   go_wp2_with fail
   go_ret
   exact ⟨rfl, rfl⟩
end Go.Proofs.YteiboobdhjdjkaaGreatDoor.Nai
namespace Go.Proofs.YteiboobdhjdjkaaGreatDoor.Nai
open Go.RowKit
open Cap (ret_b byB byB_eq)
theorem nhold_any (k : Int) (s : ByteArray) (z : Int) (hs : s.size ≤ 1000000) (w : World) : Calls Tryz.prog 23 #[.int .i64 k, .string s, .int .i64 z] w fun e w' => e = .returned (.bool (holdZ s k z)) ∧ w = w' := by
 unfold holdZ
 by_cases h : 0 ≤ z ∧ z ≤ s.size
 ·obtain ⟨p, rfl⟩ : ∃ p : Nat, z = p := ⟨z.toNat, by omega⟩
  rw [decide_eq_true h, Bool.true_and, Int.toNat_natCast]
  exact hold_any k s p (by omega) (by omega) w
 ·rw [decide_eq_false h, Bool.false_and]
  exact hold_out k s z (by omega) (by omega) w
theorem both_is (s : ByteArray) (z : Int) : (holdZ s 6 z == holdZ s 7 z) = (decide (z < 0) || decide ((s.size : Int) < z)) := by
 unfold holdZ
 by_cases h : 0 ≤ z ∧ z ≤ s.size
 ·rw [decide_eq_true h, Bool.true_and, Bool.true_and, decide_eq_false (show ¬ z < 0 by omega), decide_eq_false (show ¬ (s.size : Int) < z by omega)]
  have h6 : holdB s 6 z.toNat = edgeB s z.toNat := by unfold holdB; simp
  have h7 : holdB s 7 z.toNat = !edgeB s z.toNat := by unfold holdB; simp
  rw [h6, h7]
  cases edgeB s z.toNat <;> rfl
 ·rw [decide_eq_false h, Bool.false_and, Bool.false_and]
  rw [show (decide (z < 0) || decide ((s.size : Int) < z)) = true from by simp; omega]
  rfl
set_option maxRecDepth 100000 in
set_option maxHeartbeats 8000000 in
theorem naiveHolds_cut (k : Int) (s : ByteArray) (z : Int) (w : World) (hs : s.size ≤ 9223372036854775807) (hz : z ≤ 9223372036854775807 ∧ -9223372036854775808 ≤ z)
  (HF : ∀ u, Below w.heap.size w u → Calls Tryz.prog 14 #[] u fun e w' => e = .returned (.bool true) ∧ Below u.heap.size u w') :
  Calls Tryz.prog 5 #[.int .i64 k, .string s, .int .i64 z] w fun e w' => e = .returned (.bool true) ∧ Below w.heap.size w w' := by
 have HFX := Lib.hid (HF w (Below.refl _ w))
 have HZ := Lib.hid hz
 clear HF hz
 have HS := Lib.hid hs
 by_cases h100 : s.size ≤ 100
 ·go_enter Tryz.func5, Tryz.ntmps5
  go_wp2_with fail
  have HX := Lib.hid h100
  obtain ⟨X, rfl⟩ : ∃ X, X = s := ⟨_, rfl⟩
  clear h100 hs HS
  go_wp2_with fail
  refine (nhold_any k X z (by have := HX.out; omega) w).mono ?_
  rintro e w' ⟨rfl, rfl⟩
  go_wp2_with fail
  refine (rhold_any k X z (by have := HX.out; omega) HZ.out w).mono ?_
  rintro e w' ⟨rfl, rfl⟩
  have nb : (holdZ X k z != holdZ X k z) = false := by simp
  go_wp2_with fail
  clear nb
  refine (nhold_any 6 X z (by have := HX.out; omega) w).mono ?_
  rintro e w' ⟨rfl, rfl⟩
  go_wp2_with fail
  refine (nhold_any 7 X z (by have := HX.out; omega) w).mono ?_
  rintro e w' ⟨rfl, rfl⟩
  have hb := both_is X z
  obtain ⟨y6, h6⟩ : ∃ y, holdZ X 6 z = y := ⟨_, rfl⟩
  obtain ⟨y7, h7⟩ : ∃ y, holdZ X 7 z = y := ⟨_, rfl⟩
  rw [h6, h7] at hb ⊢
  clear h6 h7
  have HXx := HX.out
  have hxs : (X.size : Int) ≤ 100 := by omega
  by_cases hn : z < 0
  ·rw [decide_eq_true hn, Bool.true_or] at hb
   have hb1 : (y6 == y7) = true := hb
   clear hb
   go_wp2_with fail
   refine HFX.out.mono ?_
   rintro e w' ⟨rfl, hB⟩
   have BB := Lib.hid hB
   clear hB
   go_wp2_with fail
   go_ret
   exact ⟨rfl, BB.out⟩
  ·rw [decide_eq_false hn, Bool.false_or] at hb
   obtain ⟨g, hg⟩ : ∃ g, decide ((X.size : Int) < z) = g := ⟨_, rfl⟩
   rw [hg] at hb
   have hn' : decide (z < 0) = false := decide_eq_false hn
   subst hb
   go_wp2_with fail
   refine HFX.out.mono ?_
   rintro e w' ⟨rfl, hB⟩
   have BB := Lib.hid hB
   clear hB
   go_wp2_with fail
   go_ret
   exact ⟨rfl, BB.out⟩
 ·go_enter Tryz.func5, Tryz.ntmps5
  go_wp2_with fail
  have hXs0 : (s.extract 0 100).size = 100 := by rw [ByteArray.size_extract]; omega
  generalize s.extract 0 100 = X at hXs0 ⊢
  have HX := Lib.hid (show X.size ≤ 100 by omega)
  clear hXs0 h100 hs HS
  go_wp2_with fail
  refine (nhold_any k X z (by have := HX.out; omega) w).mono ?_
  rintro e w' ⟨rfl, rfl⟩
  go_wp2_with fail
  refine (rhold_any k X z (by have := HX.out; omega) HZ.out w).mono ?_
  rintro e w' ⟨rfl, rfl⟩
  have nb : (holdZ X k z != holdZ X k z) = false := by simp
  go_wp2_with fail
  clear nb
  refine (nhold_any 6 X z (by have := HX.out; omega) w).mono ?_
  rintro e w' ⟨rfl, rfl⟩
  go_wp2_with fail
  refine (nhold_any 7 X z (by have := HX.out; omega) w).mono ?_
  rintro e w' ⟨rfl, rfl⟩
  have hb := both_is X z
  obtain ⟨y6, h6⟩ : ∃ y, holdZ X 6 z = y := ⟨_, rfl⟩
  obtain ⟨y7, h7⟩ : ∃ y, holdZ X 7 z = y := ⟨_, rfl⟩
  rw [h6, h7] at hb ⊢
  clear h6 h7
  have HXx := HX.out
  have hxs : (X.size : Int) ≤ 100 := by omega
  by_cases hn : z < 0
  ·rw [decide_eq_true hn, Bool.true_or] at hb
   have hb1 : (y6 == y7) = true := hb
   clear hb
   go_wp2_with fail
   refine HFX.out.mono ?_
   rintro e w' ⟨rfl, hB⟩
   have BB := Lib.hid hB
   clear hB
   go_wp2_with fail
   go_ret
   exact ⟨rfl, BB.out⟩
  ·rw [decide_eq_false hn, Bool.false_or] at hb
   obtain ⟨g, hg⟩ : ∃ g, decide ((X.size : Int) < z) = g := ⟨_, rfl⟩
   rw [hg] at hb
   have hn' : decide (z < 0) = false := decide_eq_false hn
   subst hb
   go_wp2_with fail
   refine HFX.out.mono ?_
   rintro e w' ⟨rfl, hB⟩
   have BB := Lib.hid hB
   clear hB
   go_wp2_with fail
   go_ret
   exact ⟨rfl, BB.out⟩
end Go.Proofs.YteiboobdhjdjkaaGreatDoor.Nai
