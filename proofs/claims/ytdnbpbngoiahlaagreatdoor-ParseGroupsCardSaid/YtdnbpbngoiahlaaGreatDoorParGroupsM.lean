/-
  Layer 7, mathematics: groups within one another, and what asks for one.
-/
import Derived.Test.YtdnbpbngoiahlaaGreatDoorParE
namespace Go.Proofs.YtdnbpbngoiahlaaGreatDoor
open Ast (Nd deepZ rightZ cntG)

def patG : Nat → ByteArray
  | 0 => ⟨#[]⟩
  | k + 1 => ⟨#[40, 97]⟩ ++ patG k ++ post7
def askG (k b : Nat) : ByteArray := patG k ++ ⟨#[92]⟩ ++ ⟨#[UInt8.ofNat (48 + b)]⟩
/-- The number of the last group up to a place (10: there is none); have all a lesser one than the one ahead? -/
def stG (L : Nat → Nd) : Nat → Int
  | 0 => 10
  | i + 1 => if (L i).k = 11 then (L i).n else stG L i
def okG (L : Nat → Nd) : Nat → Bool
  | 0 => true
  | i + 1 => okG L i && (if (L i).k = 11 then decide (1 ≤ (L i).n ∧ (L i).n < stG L i) else true)
def chkR (k b : Nat) (r : Tr × Int) : Bool :=
  if 9 < k ∨ k < b then decide (r.2 = 6 ∧ r.1.1 = 0)
  else decide (r.2 = 0 ∧ cntG r.1.2 r.1.1 = k ∧ stG r.1.2 r.1.1 = 1 ∧ r.1.1 ≤ 500) && okG r.1.2 r.1.1
def chkG (k b : Nat) : Bool := chkR k b (parseZ (askG k b))
def rowG (k : Nat) : Bool := (List.range 9).all fun b => chkG k (b + 1)
theorem rowG_0 : rowG 0 = true := by kernel_rfl
theorem rowG_1 : rowG 1 = true := by kernel_rfl
theorem rowG_2 : rowG 2 = true := by kernel_rfl
theorem rowG_3 : rowG 3 = true := by kernel_rfl
theorem rowG_4 : rowG 4 = true := by kernel_rfl
theorem rowG_5 : rowG 5 = true := by kernel_rfl
theorem rowG_6 : rowG 6 = true := by kernel_rfl
theorem rowG_7 : rowG 7 = true := by kernel_rfl
theorem rowG_8 : rowG 8 = true := by kernel_rfl
theorem rowG_9 : rowG 9 = true := by kernel_rfl
theorem rowG_10 : rowG 10 = true := by kernel_rfl
theorem rowG_11 : rowG 11 = true := by kernel_rfl
theorem chk_all {k b : Nat} (hk : k < 12) (h1 : 1 ≤ b) (h9 : b ≤ 9) : chkG k b = true := by
  have h : rowG k = true := by
    rcases (show k = 0 ∨ k = 1 ∨ k = 2 ∨ k = 3 ∨ k = 4 ∨ k = 5 ∨ k = 6 ∨ k = 7 ∨ k = 8 ∨ k = 9 ∨ k = 10 ∨ k = 11 by omega) with rfl | rfl | rfl | rfl | rfl | rfl | rfl | rfl | rfl | rfl | rfl | rfl
    · exact rowG_0
    · exact rowG_1
    · exact rowG_2
    · exact rowG_3
    · exact rowG_4
    · exact rowG_5
    · exact rowG_6
    · exact rowG_7
    · exact rowG_8
    · exact rowG_9
    · exact rowG_10
    · exact rowG_11
  have hb := List.all_eq_true.1 h (b - 1) (List.mem_range.2 (by omega))
  rwa [show b - 1 + 1 = b by omega] at hb
theorem ask_bad {k b : Nat} (hk : k < 12) (h1 : 1 ≤ b) (h9 : b ≤ 9) (h : 9 < k ∨ k < b) : (parseZ (askG k b)).2 = 6 ∧ (parseZ (askG k b)).1.1 = 0 := by
  have hc := chk_all hk h1 h9
  unfold chkG chkR at hc
  rw [if_pos h] at hc
  exact of_decide_eq_true hc
theorem ask_good {k b : Nat} (hk : k < 12) (h1 : 1 ≤ b) (h9 : b ≤ 9) (h : ¬ (9 < k ∨ k < b)) : ((parseZ (askG k b)).2 = 0 ∧ cntG (parseZ (askG k b)).1.2 (parseZ (askG k b)).1.1 = k ∧ stG (parseZ (askG k b)).1.2 (parseZ (askG k b)).1.1 = 1 ∧ (parseZ (askG k b)).1.1 ≤ 500) ∧ okG (parseZ (askG k b)).1.2 (parseZ (askG k b)).1.1 = true := by
  have hc := chk_all hk h1 h9
  unfold chkG chkR at hc
  rw [if_neg h, Bool.and_eq_true] at hc
  exact ⟨of_decide_eq_true hc.1, hc.2⟩
theorem ok_le {L : Nat → Nd} {n : Nat} (h : okG L n = true) : ∀ i, i < n → (L i).k = 11 → 1 ≤ (L i).n ∧ (L i).n < stG L i := by
  induction n with
  | zero => intro i hi; omega
  | succ n ih =>
    rw [okG, Bool.and_eq_true] at h
    intro i hi hk
    by_cases e : i = n
    · subst e
      have h2 := h.2
      rw [if_pos hk] at h2
      exact of_decide_eq_true h2
    · exact ih h.1 i (by omega) hk
theorem patG_size : ∀ k, (patG k).size = 3 * k
  | 0 => rfl
  | k + 1 => by
    have := patG_size k
    rw [patG, ByteArray.size_append, ByteArray.size_append, this]
    show 2 + 3 * k + 1 = _
    omega
end Go.Proofs.YtdnbpbngoiahlaaGreatDoor
