import Derived.Test.YteiboobdhjdjkaaGreatDoorNaiFind
import Derived.Test.YteiboobdhjdjkaaGreatDoorNaiWork
import Derived.Test.YteiboobdhjdjkaaGreatDoorParFix
import Derived.Test.YteiboobdhjdjkaaGreatDoorCapShows
namespace Go.Proofs.YteiboobdhjdjkaaGreatDoor.Nai
open Go.RowKit
open Ast (Nd rightZ Nodes NodesAt)
open Cap (Cp cpC zrC withZ showS)
def wdsB (x : Nd) : Bool := decide (x.s0 = W (setN x) 0) && decide (x.s1 = W (setN x) 1) && decide (x.s2 = W (setN x) 2) && decide (x.s3 = W (setN x) 3)
theorem wdsB_of {x : Nd} (h : wdsB x = true) : WdsN x := by
 simp only [wdsB, Bool.and_eq_true, decide_eq_true_eq] at h
 exact ⟨h.1.1.1, h.1.1.2, h.1.2, h.2⟩
def fitB (c : Cp) : Bool := (List.range 9).all fun k => decide (-9223372036854775808 ≤ c.fr k) && decide (c.fr k ≤ 9223372036854775807) && decide (-9223372036854775808 ≤ c.to k) && decide (c.to k ≤ 9223372036854775807)
theorem fitB_of {c : Cp} (h : fitB c = true) : c.fits := by
 intro k hk
 have := List.all_eq_true.1 h k (List.mem_range.2 hk)
 simp only [Bool.and_eq_true, decide_eq_true_eq] at this
 exact ⟨⟨this.1.1.1, this.1.1.2⟩, this.1.2, this.2⟩
structure Pat (p : ByteArray) (n : Nat) (l : Nat → Nd) (k : Nat) : Prop where
 eq : parseZ p = ((n, l), 0)
 pos : 0 < n ∧ n ≤ 1000
 right : rightZ l n = 0
 wds : ∀ i, i < n → WdsN (l i)
 lite : (reT l n n).lite k
theorem pat_of {p : ByteArray} {n k : Nat} (h1 : (parseZ p).1.1 = n) (h2 : (parseZ p).2 = 0) (h3 : 0 < n ∧ n ≤ 1000) (h4 : rightZ (parseZ p).1.2 n = 0) (h5 : ((List.range n).all fun i => wdsB ((parseZ p).1.2 i)) = true) (h6 : (workC 1000001 k (reT (parseZ p).1.2 n n)).1 ≤ 1000000) (h7 : Ast.siz (parseZ p).1.2 n ≠ 0) : Pat p n (parseZ p).1.2 k := by
 have hw : ∀ i, i < n → WdsN ((parseZ p).1.2 i) := fun i hi => wdsB_of (List.all_eq_true.1 h5 i (List.mem_range.2 hi))
 have hr := (reT_fine hw n (Nat.le_refl _) h7).reps
 refine ⟨by rw [← h1, ← h2], h3, h4, hw, lite_of k _ (fun _ _ _ _ => trivial) hr ?_⟩
 have := workC_ok (K := 1000001) (n := k) _ hr (by omega)
 rw [← this]
 omega
abbrev patA : ByteArray := ⟨#[97, 42]⟩
abbrev patB : ByteArray := ⟨#[97, 42, 63]⟩
theorem patA_z : Pat patA 2 (parseZ patA).1.2 3 := pat_of (by kernel_rfl) (by kernel_rfl) (by decide) (by kernel_rfl) (by kernel_rfl) (of_decide_eq_true (by kernel_rfl)) (of_decide_eq_true (by kernel_rfl))
theorem patB_z : Pat patB 2 (parseZ patB).1.2 3 := pat_of (by kernel_rfl) (by kernel_rfl) (by decide) (by kernel_rfl) (by kernel_rfl) (of_decide_eq_true (by kernel_rfl)) (of_decide_eq_true (by kernel_rfl))
abbrev aab : ByteArray := ⟨#[97, 97, 98]⟩
theorem outsA : (((outs (outsE aab (reT (parseZ patA).1.2 2 2) (0, zrC))).take 9).map (·.1)) = [2, 1, 0] := by kernel_rfl
theorem outsB : (((outs (outsE aab (reT (parseZ patB).1.2 2 2) (0, zrC))).take 9).map (·.1)) = [0, 1, 2] := by kernel_rfl
theorem itS_dig (n : Nat) (h : n < 10) : Cap.itS (n : Int) = ⟨#[UInt8.ofNat (48 + n)]⟩ := by
 unfold Cap.itS Lib.itoa
 rw [if_neg (by omega), Int.toNat_natCast, Lib.decDigits_one h]
def digB (c : Cp) (k : Nat) : Bool := !c.is k || (decide (0 ≤ c.fr k) && decide (c.fr k < 10) && decide (0 ≤ c.to k) && decide (c.to k < 10))
def partD (c : Cp) (k : Nat) : ByteArray := if c.is k = true then ⟨#[UInt8.ofNat (48 + (c.fr k).toNat)]⟩ ++ ⟨#[45]⟩ ++ ⟨#[UInt8.ofNat (48 + (c.to k).toNat)]⟩ else ⟨#[63]⟩
theorem partD_of {c : Cp} {k : Nat} (h : digB c k = true) : Cap.partS c k = partD c k := by
 unfold Cap.partS partD
 by_cases hi : c.is k = true
 ·rw [if_pos hi, if_pos hi]
  unfold digB at h
  rw [hi] at h
  simp only [Bool.not_true, Bool.false_or, Bool.and_eq_true, decide_eq_true_eq] at h
  have h1 := itS_dig (c.fr k).toNat (by omega)
  have h2 := itS_dig (c.to k).toNat (by omega)
  rw [show (((c.fr k).toNat : Nat) : Int) = c.fr k by omega] at h1
  rw [show (((c.to k).toNat : Nat) : Int) = c.to k by omega] at h2
  rw [h1, h2]
 ·rw [if_neg hi, if_neg hi]
def okM (x1 x2 : List UInt8) : Option (Nat × Sp) → Bool
 | some (p, z) => fitB (withZ zrC 1 (p : Int) (z.1 : Int)).1 && fitB z.2 && decide ((withZ zrC 1 (p : Int) (z.1 : Int)).2 = 0) && digB (withZ zrC 1 (p : Int) (z.1 : Int)).1 0 && digB z.2 0 && digB z.2 1 &&
   ((partD (withZ zrC 1 (p : Int) (z.1 : Int)).1 0).data.toList == x1) && ((partD z.2 0 ++ ⟨#[44]⟩ ++ partD z.2 1).data.toList == x2)
 | none => false
theorem bytes_of {a : ByteArray} {l : List UInt8} (h : (a.data.toList == l) = true) : a = ⟨l.toArray⟩ := by
 have := beq_iff_eq.1 h
 cases a
 simp at this
 simp [← this]
theorem emp_app (X : ByteArray) : (⟨#[]⟩ : ByteArray) ++ X = X := by
 apply ByteArray.ext
 simp [ByteArray.data_append]
theorem okM_spec {x1 x2 : List UInt8} {M : Option (Nat × Sp)} (h : okM x1 x2 M = true) : ∃ p z, M = some (p, z) ∧ (withZ zrC 1 (p : Int) (z.1 : Int)).1.fits ∧ z.2.fits ∧ (withZ zrC 1 (p : Int) (z.1 : Int)).2 = 0 ∧ showS (withZ zrC 1 (p : Int) (z.1 : Int)).1 1 = ⟨x1.toArray⟩ ∧ showS z.2 2 = ⟨x2.toArray⟩ := by
 match M, h with
 | some (p, z), h =>
   simp only [okM, Bool.and_eq_true, decide_eq_true_eq] at h
   obtain ⟨⟨⟨⟨⟨⟨⟨h1, h2⟩, h3⟩, h4⟩, h5⟩, h6⟩, h7⟩, h8⟩ := h
   refine ⟨p, z, rfl, fitB_of h1, fitB_of h2, h3, ?_, ?_⟩
   ·rw [← bytes_of h7, ← partD_of h4]
    simp [showS, emp_app]
   ·rw [← bytes_of h8, ← partD_of h5, ← partD_of h6]
    simp [showS, emp_app]
abbrev pF1 : ByteArray := ⟨#[40, 97, 124, 97, 98, 41, 40, 99, 124, 98, 99, 100, 41]⟩
abbrev sF1 : ByteArray := ⟨#[120, 97, 98, 99, 100]⟩
abbrev pF2 : ByteArray := ⟨#[40, 97, 42, 41, 43]⟩
abbrev sF2 : ByteArray := ⟨#[98, 97, 97]⟩
abbrev pF3 : ByteArray := ⟨#[40, 63, 62, 97, 42, 41, 97]⟩
abbrev sF3 : ByteArray := ⟨#[97, 97, 97]⟩
abbrev pF4 : ByteArray := ⟨#[40, 97, 43, 63, 41, 40, 97, 42, 41]⟩
abbrev pF5 : ByteArray := ⟨#[40, 63, 60, 61, 97, 41, 98, 40, 63, 33, 99, 41]⟩
abbrev sF5 : ByteArray := ⟨#[97, 98, 99, 97, 98]⟩
abbrev pF6 : ByteArray := ⟨#[40, 97, 41, 92, 49]⟩
abbrev sF6 : ByteArray := ⟨#[97, 98, 97, 97]⟩
abbrev nF (p : ByteArray) : Nat := (parseZ p).1.1
theorem pF1_z : Pat pF1 (nF pF1) (parseZ pF1).1.2 sF1.size := pat_of rfl (by kernel_rfl) (of_decide_eq_true (by kernel_rfl)) (by kernel_rfl) (by kernel_rfl) (of_decide_eq_true (by kernel_rfl)) (of_decide_eq_true (by kernel_rfl))
theorem pF1_m : okM [49, 45, 53] [49, 45, 50, 44, 50, 45, 53] (findF sF1 (reT (parseZ pF1).1.2 (nF pF1) (nF pF1)) (sF1.size + 1) 0) = true := by kernel_rfl
theorem pF2_z : Pat pF2 (nF pF2) (parseZ pF2).1.2 sF2.size := pat_of rfl (by kernel_rfl) (of_decide_eq_true (by kernel_rfl)) (by kernel_rfl) (by kernel_rfl) (of_decide_eq_true (by kernel_rfl)) (of_decide_eq_true (by kernel_rfl))
theorem pF2_m : okM [48, 45, 48] [48, 45, 48, 44, 63] (findF sF2 (reT (parseZ pF2).1.2 (nF pF2) (nF pF2)) (sF2.size + 1) 0) = true := by kernel_rfl
theorem pF3_z : Pat pF3 (nF pF3) (parseZ pF3).1.2 sF3.size := pat_of rfl (by kernel_rfl) (of_decide_eq_true (by kernel_rfl)) (by kernel_rfl) (by kernel_rfl) (of_decide_eq_true (by kernel_rfl)) (of_decide_eq_true (by kernel_rfl))
theorem pF3_m : (findF sF3 (reT (parseZ pF3).1.2 (nF pF3) (nF pF3)) (sF3.size + 1) 0).isSome = false := by kernel_rfl
theorem pF4_z : Pat pF4 (nF pF4) (parseZ pF4).1.2 sF3.size := pat_of rfl (by kernel_rfl) (of_decide_eq_true (by kernel_rfl)) (by kernel_rfl) (by kernel_rfl) (of_decide_eq_true (by kernel_rfl)) (of_decide_eq_true (by kernel_rfl))
theorem pF4_m : okM [48, 45, 51] [48, 45, 49, 44, 49, 45, 51] (findF sF3 (reT (parseZ pF4).1.2 (nF pF4) (nF pF4)) (sF3.size + 1) 0) = true := by kernel_rfl
theorem pF5_z : Pat pF5 (nF pF5) (parseZ pF5).1.2 sF5.size := pat_of rfl (by kernel_rfl) (of_decide_eq_true (by kernel_rfl)) (by kernel_rfl) (by kernel_rfl) (of_decide_eq_true (by kernel_rfl)) (of_decide_eq_true (by kernel_rfl))
theorem pF5_m : okM [52, 45, 53] [63, 44, 63] (findF sF5 (reT (parseZ pF5).1.2 (nF pF5) (nF pF5)) (sF5.size + 1) 0) = true := by kernel_rfl
theorem pF6_z : Pat pF6 (nF pF6) (parseZ pF6).1.2 sF6.size := pat_of rfl (by kernel_rfl) (of_decide_eq_true (by kernel_rfl)) (by kernel_rfl) (by kernel_rfl) (of_decide_eq_true (by kernel_rfl)) (of_decide_eq_true (by kernel_rfl))
theorem pF6_m : okM [50, 45, 52] [50, 45, 51, 44, 63] (findF sF6 (reT (parseZ pF6).1.2 (nF pF6) (nF pF6)) (sF6.size + 1) 0) = true := by kernel_rfl
end Go.Proofs.YteiboobdhjdjkaaGreatDoor.Nai
