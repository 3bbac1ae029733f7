/-
  Layer 6: what the library's calls do that the landed code makes: strings.HasPrefix, IndexByte, Cut by one byte.
-/
import Derived.Test.YtlcecblehffjiaaDoorLexBase
import Derived.Laws.RangeAny
import Derived.Laws.Runes
import Derived.RegionTactic
namespace Go.Proofs.YtlcecblehffjiaaDoor
open Go.RowKit

theorem bt_ext {p : ByteArray} {a : Nat} (i : Nat) (ha : a ≤ p.size) : bt (p.extract a p.size) i = bt p (a + i) := by
  unfold bt
  have hs : (p.extract a p.size).size = p.size - a := by simp
  by_cases h : i < p.size - a
  · rw [dif_pos (by omega), dif_pos (by omega), ByteArray.getElem_extract]
  · rw [dif_neg (by omega), dif_neg (by omega)]
theorem bt_ext2 {p : ByteArray} {a b i : Nat} (hb : b ≤ p.size) (hi : a + i < b) : bt (p.extract a b) i = bt p (a + i) := by
  unfold bt
  have hs : (p.extract a b).size = b - a := by simp; omega
  rw [dif_pos (by omega), dif_pos (by omega), ByteArray.getElem_extract]
theorem head_ext {p : ByteArray} {a : Nat} (ha : a ≤ p.size) : ∀ (l : List Nat) (i : Nat), headB (p.extract a p.size) i l = headB p (a + i) l
  | [], _ => rfl
  | c :: r, i => by rw [headB, headB, bt_ext i ha, head_ext ha r (i + 1), Nat.add_assoc]

/-- Where a byte stands first. -/
theorem first_cases (s : ByteArray) (c : UInt8) : (firstIdx s c = -1 ∧ ∀ j, bt s j ≠ c.toNat) ∨ ∃ i : Nat, firstIdx s c = (i : Int) ∧ i < s.size ∧ bt s i = c.toNat ∧ ∀ j, j < i → bt s j ≠ c.toNat := by
  have he : ∀ j, j < s.size → ((s[j]! == c) = true ↔ bt s j = c.toNat) := fun j hj => by
    rw [bt_at hj, getElem!_pos s j hj, beq_iff_eq]
    exact UInt8.toNat_inj.symm
  unfold firstIdx
  cases hf : (List.range s.size).find? (fun i => s[i]! == c) with
  | none =>
    refine .inl ⟨rfl, fun j => ?_⟩
    rw [List.find?_eq_none] at hf
    by_cases hj : j < s.size
    · exact fun h => hf j (List.mem_range.2 hj) ((he j hj).2 h)
    · rw [bt_no (by omega)]
      have := c.toNat_lt
      omega
  | some i =>
    have h1 := List.find?_some hf
    have h2 := List.mem_range.1 (List.mem_of_find?_eq_some hf)
    refine .inr ⟨i, rfl, h2, (he i h2).1 h1, fun j hj => ?_⟩
    have h3 := List.find?_range_eq_some.1 hf
    have := h3.2.2 j hj
    intro hb
    have h4 := (he j (by omega)).2 hb
    simp [h4] at this
theorem first_at {s : ByteArray} {c : UInt8} {i : Nat} (hb : bt s i = c.toNat) (hn : ∀ j, j < i → bt s j ≠ c.toNat) : firstIdx s c = (i : Int) := by
  rcases first_cases s c with ⟨-, h⟩ | ⟨k, h1, -, h3, h4⟩
  · exact absurd hb (h i)
  · rcases Nat.lt_trichotomy k i with h | h | h
    · exact absurd h3 (hn k h)
    · rw [h1, h]
    · exact absurd hb (h4 i h)
theorem first_no {s : ByteArray} {c : UInt8} (hn : ∀ j, bt s j ≠ c.toNat) : firstIdx s c = -1 := by
  rcases first_cases s c with ⟨h, -⟩ | ⟨k, -, -, h3, -⟩
  · exact h
  · exact absurd h3 (hn k)

theorem slHasPrefix_any (s h : ByteArray) (w : World) : Calls Tryd.prog 49 #[.string s, .string h] w fun e w' => e = .returned (.bool (startB s 0 h)) ∧ w = w' := by
  by_cases h2 : h.size ≤ s.size
  · have h3 : (h.size : Int) ≤ (s.size : Int) := by omega
    go_enter Tryd.func49, Tryd.ntmps49
    go_wp2_with fail
    go_ret
    exact ⟨ret_b (by unfold startB; rw [decide_eq_true (Nat.zero_le _), decide_eq_true (show h.size ≤ s.size - 0 by omega), Nat.zero_add]; rfl), rfl⟩
  · have h3 : ¬ (h.size : Int) ≤ (s.size : Int) := by omega
    go_enter Tryd.func49, Tryd.ntmps49
    go_wp2_with fail
    go_ret
    exact ⟨ret_b (by unfold startB; rw [decide_eq_false (show ¬ h.size ≤ s.size - 0 by omega)]; simp), rfl⟩
theorem prefix_any (s h : ByteArray) (l : List Nat) (w : World) (hl : h.data.toList.map (·.toNat) = l) : Calls Tryd.prog 29 #[.string s, .string h] w fun e w' => e = .returned (.bool (headB s 0 l)) ∧ w = w' := by
  have HS := Lib.hid (start_head s h 0 (Nat.zero_le _))
  subst hl
  go_enter Tryd.func29, Tryd.ntmps29
  go_wp2_with fail
  refine (slHasPrefix_any s h _).mono ?_
  rintro e w1 ⟨rfl, rfl⟩
  go_wp2_with fail
  go_ret
  exact ⟨ret_b HS.out, rfl⟩

set_option maxRecDepth 100000 in
theorem slIndexByte_any (s : ByteArray) (c : Int) (w : World) : Calls Tryd.prog 74 #[.string s, .int .u8 c] w fun e w' => e = .returned (.int .i64 (firstIdx s c.toNat.toUInt8)) ∧ w = w' := by
  go_enter Tryd.func74, Tryd.ntmps74
  go_wp2_with fail
  rw [run_callFunc_extern Tryd.func81 (by kernel_rfl) (by kernel_rfl) (by kernel_rfl) (e := Extern.BytealgIndexByte.indexByte) (by kernel_rfl), run_indexByte_string]
  simp only [Result.andThen]
  rw [Oper.upon_value]
  go_wp2_with fail
  go_ret
  exact ⟨rfl, rfl⟩
set_option maxRecDepth 100000 in
theorem indexByte_any (s : ByteArray) (c : Int) (w : World) : Calls Tryd.prog 64 #[.string s, .int .u8 c] w fun e w' => e = .returned (.int .i64 (firstIdx s c.toNat.toUInt8)) ∧ w = w' := by
  go_enter Tryd.func64, Tryd.ntmps64
  go_wp2_with fail
  refine (slIndexByte_any s c _).mono ?_
  rintro e w1 ⟨rfl, rfl⟩
  go_wp2_with fail
  go_ret
  exact ⟨rfl, rfl⟩

theorem bt_one (s : ByteArray) (c : UInt8) (h : ([c] == s.toList) = true) : s.size = 1 ∧ bt s 0 = c.toNat := by
  have h1 : s.toList = [c] := (beq_iff_eq.1 h).symm
  have h2 : s.data.toList = [c] := by rw [← ByteArray.toList_eq, h1]
  have h3 : s = ⟨#[c]⟩ := by
    cases s with
    | mk d => congr 1; cases d; simpa using h2
  subst h3
  exact ⟨rfl, rfl⟩
set_option maxRecDepth 100000 in
theorem slIndex_any (s : ByteArray) (c : UInt8) (w : World) : Calls Tryd.prog 70 #[.string s, .string ⟨#[c]⟩] w fun e w' => e = .returned (.int .i64 (firstIdx s c)) ∧ w = w' := by
  go_enter Tryd.func70, Tryd.ntmps70
  go_wp2_with (go_at_call 74; refine (slIndexByte_any _ _ _).mono ?_; rintro e w' ⟨rfl, rfl⟩)
  · have h : ([c] == s.toList) = true := by assumption
    go_ret
    have h1 := bt_one s c h
    exact ⟨by rw [first_at (i := 0) h1.2 (fun j hj => by omega)]; rfl, rfl⟩
  · go_ret
    exact ⟨rfl, rfl⟩
theorem slCut_at (s : ByteArray) (c : UInt8) (i : Nat) (w : World) (hs : s.size ≤ 2000000) (hi : i < s.size) (hb : bt s i = c.toNat) (hn : ∀ j, j < i → bt s j ≠ c.toNat) : Calls Tryd.prog 55 #[.string s, .string ⟨#[c]⟩] w fun e w' => e = .returned (.tuple #[.string (s.extract 0 i), .string (s.extract (i + 1) s.size), .bool true]) ∧ Below w.heap.size w w' := by
  have HF := Lib.hid (first_at hb hn)
  have hsz : (ByteArray.mk #[c]).size = 1 := rfl
  have c1 : (0 : Int) ≤ ↑i := by omega
  have c2 : (↑i : Int) ≤ ↑s.size := by omega
  have c3 : (0 : Int) ≤ ↑i + 1 := by omega
  have c4 : (↑i + 1 : Int) ≤ ↑s.size := by omega
  clear hb hn
  go_enter Tryd.func55, Tryd.ntmps55
  go_wp2_with fail
  refine (slIndex_any s c _).mono ?_
  rintro e w1 ⟨rfl, rfl⟩
  rw [HF.out]
  go_wp2_with fail
  go_region
  go_wp2
  go_ret3
  exact ⟨rfl, (Below.refl _ _).drew⟩
theorem slCut_no (s : ByteArray) (c : UInt8) (w : World) (hn : ∀ j, bt s j ≠ c.toNat) : Calls Tryd.prog 55 #[.string s, .string ⟨#[c]⟩] w fun e w' => e = .returned (.tuple #[.string s, .string ByteArray.empty, .bool false]) ∧ Below w.heap.size w w' := by
  have HF := Lib.hid (first_no hn)
  clear hn
  go_enter Tryd.func55, Tryd.ntmps55
  go_wp2_with fail
  refine (slIndex_any s c _).mono ?_
  rintro e w1 ⟨rfl, rfl⟩
  rw [HF.out]
  go_wp2_with fail
  go_ret3
  exact ⟨rfl, Below.refl _ _⟩
theorem cut_at (s : ByteArray) (c : UInt8) (i : Nat) (w : World) (hs : s.size ≤ 2000000) (hi : i < s.size) (hb : bt s i = c.toNat) (hn : ∀ j, j < i → bt s j ≠ c.toNat) : Calls Tryd.prog 41 #[.string s, .string ⟨#[c]⟩] w fun e w' => e = .returned (.tuple #[.string (s.extract 0 i), .string (s.extract (i + 1) s.size), .bool true]) ∧ Below w.heap.size w w' := by
  have HC := Lib.hid (slCut_at s c i w hs hi hb hn)
  clear hb hn
  go_enter Tryd.func41, Tryd.ntmps41
  go_wp2_with fail
  refine HC.out.mono ?_
  rintro e w1 ⟨rfl, hb⟩
  have HB := Lib.hid hb
  clear hb
  go_wp2_with fail
  go_ret3
  exact ⟨rfl, HB.out⟩
theorem cut_no (s : ByteArray) (c : UInt8) (w : World) (hn : ∀ j, bt s j ≠ c.toNat) : Calls Tryd.prog 41 #[.string s, .string ⟨#[c]⟩] w fun e w' => e = .returned (.tuple #[.string s, .string ByteArray.empty, .bool false]) ∧ Below w.heap.size w w' := by
  have HC := Lib.hid (slCut_no s c w hn)
  clear hn
  go_enter Tryd.func41, Tryd.ntmps41
  go_wp2_with fail
  refine HC.out.mono ?_
  rintro e w1 ⟨rfl, hb⟩
  have HB := Lib.hid hb
  clear hb
  go_wp2_with fail
  go_ret3
  exact ⟨rfl, HB.out⟩
end Go.Proofs.YtlcecblehffjiaaDoor
