/-
  What strings.Contains does at a text of one byte, by the library's own contract; all that parse.Parse asks of the library.
-/
import Derived.Test.YtdnbpbngoiahlaaGreatDoorParFix
import Derived.Test.YtdnbpbngoiahlaaGreatDoorLexShelf
import Derived.Test.YtdnbpbngoiahlaaGreatDoorAstJ
import Derived.Shelf.Strings.Search3
namespace Go.Proofs.YtdnbpbngoiahlaaGreatDoor
open Go.RowKit

/-- The library's numbers, in this program. -/
def ren7 : Shelf.Ren := ⟨fun n => if n = 143 then 186 else if n = 144 then 184 else if n = 217 then 158 else if n = 219 then 133 else if n = 224 then 156 else if n = 225 then 157 else if n = 266 then 170 else if n = 267 then 159 else 171,
  fun n => if n = 3 then 3 else if n = 4 then 4 else if n = 5 then 5 else if n = 9 then 9 else if n = 46 then 164 else if n = 51 then 185 else 199, fun _ => 1⟩

theorem contains_lays : Lays.n144 Tryz.prog ren7 where
  mixed := by kernel_rfl
  f143 := by kernel_rfl
  f144 := by kernel_rfl
  f217 := by kernel_rfl
  f219 := by kernel_rfl
  f224 := by kernel_rfl
  f225 := by kernel_rfl
  f266 := by kernel_rfl
  f267 := by kernel_rfl
  f314 := by kernel_rfl
  t3 := by kernel_rfl
  a3 := fun _ => by kernel_rfl
  z3 := fun _ => by kernel_rfl
  v3 := fun _ => by kernel_rfl
  t4 := by kernel_rfl
  a4 := fun _ => by kernel_rfl
  z4 := fun _ => by kernel_rfl
  v4 := fun _ => by kernel_rfl
  t5 := by kernel_rfl
  a5 := fun _ => by kernel_rfl
  z5 := fun _ => by kernel_rfl
  v5 := fun _ => by kernel_rfl
  t9 := by kernel_rfl
  a9 := fun _ => by kernel_rfl
  z9 := fun _ => by kernel_rfl
  v9 := fun _ => by kernel_rfl
  t46 := by kernel_rfl
  a46 := fun _ => by kernel_rfl
  z46 := fun _ => by kernel_rfl
  v46 := fun _ => by kernel_rfl
  t51 := by kernel_rfl
  a51 := fun _ => by kernel_rfl
  z51 := fun _ => by kernel_rfl
  v51 := fun _ => by kernel_rfl
  t146 := by kernel_rfl
  a146 := fun _ => by kernel_rfl
  z146 := fun _ => by kernel_rfl
  v146 := fun _ => by kernel_rfl
  g1 := by kernel_rfl
theorem index_any : ∀ (l : List UInt8) (c : UInt8), decide (0 ≤ Lib.indexByte l c) = l.any fun b => b.toNat == c.toNat
  | [], c => rfl
  | b :: l, c => by
    have ih := index_any l c
    have h1 := Lib.indexByte_ge l c
    have hb : (b == c) = (b.toNat == c.toNat) := by
      by_cases h : b = c
      · subst h; simp
      · have h2 : b.toNat ≠ c.toNat := fun e => h (UInt8.toNat_inj.1 e)
        rw [beq_eq_false_iff_ne.2 h, beq_eq_false_iff_ne.2 h2]
    rw [List.any_cons, ← ih, Lib.indexByte, hb]
    by_cases h : (b.toNat == c.toNat) = true
    · rw [if_pos h, h]; rfl
    · rw [if_neg h]
      have hf : (b.toNat == c.toNat) = false := by simpa using h
      rw [hf, Bool.false_or]
      by_cases h3 : (Lib.indexByte l c == -1) = true
      · have h4 : Lib.indexByte l c = -1 := by simpa using h3
        rw [if_pos h3, h4]
      · rw [if_neg h3]
        have h4 : Lib.indexByte l c ≠ -1 := by simpa using h3
        exact decide_eq_decide.2 (by omega)
theorem has_ok : HasOk := by
  intro f c w
  refine (Any.strings_Contains_one contains_lays f c w).mono ?_
  rintro e w' ⟨rfl, rfl⟩
  exact ⟨by unfold hasF; rw [index_any], rfl⟩
theorem pkit : PKit := ⟨errs_ok, clone_ok, has_ok, Ast.sort_ok, Ast.sort_none⟩
end Go.Proofs.YtdnbpbngoiahlaaGreatDoor
