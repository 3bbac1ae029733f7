/-
  Layer 6, mathematics: flags in every order.
-/
import Derived.Test.YtlcecblehffjiaaDoorLexTok
namespace Go.Proofs.YtlcecblehffjiaaDoor
open Go.RowKit

/-- The letter of a flag. -/
def flB (r : Nat) : UInt8 := if r = 0 then 105 else if r = 1 then 109 else 115
/-- Is one of the first i the i-th one? -/
def dupI (r : Nat → Nat) (i : Nat) : Nat → Bool
  | 0 => false
  | j + 1 => dupI r i j || decide (r i = r j)
/-- Is one of the first i there twice? -/
def dupA (r : Nat → Nat) : Nat → Bool
  | 0 => false
  | i + 1 => dupA r i || dupI r i i
/-- The first i letters. -/
def flL (r : Nat → Nat) : Nat → List UInt8
  | 0 => []
  | i + 1 => flL r i ++ [flB (r i)]
def flT (l : List UInt8) : Tok := ⟨14, 0#256, 0, 0, 0, 0, ⟨l.toArray⟩⟩
def flA (l : List UInt8) : ByteArray := ⟨([40, 63] ++ l ++ [58]).toArray⟩
def flX (l : List UInt8) : ByteArray := ⟨([40, 63] ++ l ++ [120, 58]).toArray⟩
def flC (l : List UInt8) : ByteArray := ⟨([40, 63] ++ l ++ [41]).toArray⟩
def rOf (a b c : Nat) (i : Nat) : Nat := if i = 0 then a else if i = 1 then b else c
def FlgOk (a b c k : Nat) : Prop := lexZ (flA (flL (rOf a b c) k)) = (if dupA (rOf a b c) k = true then ([], 3) else ([flT (flL (rOf a b c) k)], 0)) ∧ (lexZ (flX (flL (rOf a b c) k))).2 = 3 ∧ (lexZ (flC (flL (rOf a b c) k))).2 = 3
theorem flg_1 {a b c : Nat} (ha : a < 3) : FlgOk a b c 1 := by
  rcases (show a = 0 ∨ a = 1 ∨ a = 2 by omega) with rfl | rfl | rfl <;> exact ⟨by kernel_rfl, by kernel_rfl, by kernel_rfl⟩
theorem flg_2 {a b c : Nat} (ha : a < 3) (hb : b < 3) : FlgOk a b c 2 := by
  rcases (show a = 0 ∨ a = 1 ∨ a = 2 by omega) with rfl | rfl | rfl <;> rcases (show b = 0 ∨ b = 1 ∨ b = 2 by omega) with rfl | rfl | rfl <;> exact ⟨by kernel_rfl, by kernel_rfl, by kernel_rfl⟩
theorem flg_3 {a b c : Nat} (ha : a < 3) (hb : b < 3) (hc : c < 3) : FlgOk a b c 3 := by
  rcases (show a = 0 ∨ a = 1 ∨ a = 2 by omega) with rfl | rfl | rfl <;> rcases (show b = 0 ∨ b = 1 ∨ b = 2 by omega) with rfl | rfl | rfl <;> rcases (show c = 0 ∨ c = 1 ∨ c = 2 by omega) with rfl | rfl | rfl <;> exact ⟨by kernel_rfl, by kernel_rfl, by kernel_rfl⟩
end Go.Proofs.YtlcecblehffjiaaDoor
