/-
  What the document's own answers for layer 3 do: On, Of, Seal, Open.
-/
import Derived.Test.YtdpdokjoinhjpaaDoorProg
import Derived.Test.YtdpdokjoinhjpaaDoorCrcMath
import Derived.WalkSpells
import Derived.WalkLawsBesides
import Derived.Handy
import Derived.Lib.Hide
import Derived.Laws.BitsAllLaws
import Derived.Laws.IdiomStrings
namespace Go.Proofs.YtdpdokjoinhjpaaDoor
open Go.RowKit

theorem thenB {B : Nat} {w u v : World} (h : Below B w u) (hb : Below u.heap.size u v) (hB : B ≤ u.heap.size) : Below B w v := h.trans (hb.mono hB)

/-- The sum, doubled so often. -/
def stK (n : Nat) : Nat → Nat
  | 0 => n
  | k + 1 => st1 (stK n k)
theorem stK_lt (n : Nat) (h : n < 16777216) : ∀ k, stK n k < 16777216
  | 0 => h
  | k + 1 => st1_lt _ (stK_lt n h k)
theorem stK_8 (n : Nat) : stK n 8 = st8 n := by simp only [stK, st8]
theorem take_succ' (s : ByteArray) (k : Nat) (h : k < s.size) : s.data.toList.take (k + 1) = s.data.toList.take k ++ [s[k]] := by
  rw [List.take_succ_eq_append_getElem (by simpa using h)]; rfl
theorem onL_snoc (n : Nat) (l : List UInt8) (b : UInt8) : onL n (l ++ [b]) = stB (onL n l) b.toNat := by rw [onL_append, onL_cons, onL_nil]

set_option maxHeartbeats 2000000 in
theorem ron_any (n : Nat) (s : ByteArray) (w : World) (hn : n < 4294967296) (hlen : s.size ≤ 9223372036854775807) :
    Calls Tryd.prog 14 #[.int .u32 (n : Int), .string s] w fun e w' => e = .returned (.int .u32 ((onL (n % 16777216) s.data.toList : Nat) : Int)) ∧ w = w' := by
  go_enter Tryd.func14, Tryd.ntmps14
  go_wp2
  go_loop [5, 6] (fun a i => ∃ k : Nat, i = .int .i64 k ∧ k ≤ s.size ∧ a = .int .u32 ((onL (n % 16777216) (s.data.toList.take k) : Nat) : Int)) (fun _ i => s.size - (intOf i).toNat)
  case atStart => exact ⟨0, rfl, Nat.zero_le _, by simp [onL_nil]⟩
  case round =>
    obtain ⟨k, rfl, hk, rfl⟩ := hrel
    by_cases hlt : k < s.size
    · have hc : (s[k].toNat : Int) < 256 := by have := s[k].toNat_lt; omega
      have HT := Lib.hid (take_succ' s k hlt)
      have kk : (0 : Int) ≤ k := by omega
      have HN := Lib.hid (onL_lt (s.data.toList.take k) (n % 16777216) (by omega))
      obtain ⟨m, hm⟩ : ∃ m, m = onL (n % 16777216) (s.data.toList.take k) := ⟨_, rfl⟩
      rw [← hm] at HN ⊢
      have HM := Lib.hid hm
      clear hm
      have hx : bits BinOp.xor IntKind.u32 (m : Int) ((s[k].toNat : Int) * 65536) = ((m ^^^ (s[k].toNat * 65536) : Nat) : Int) := by
        have := u32_xor_nat m (s[k].toNat * 65536) (by have := HN.out; omega) (by omega)
        rwa [Int.natCast_mul] at this
      have HL := Lib.hid (lay_lt m s[k].toNat HN.out s[k].toNat_lt)
      go_wp2
      obtain ⟨q, hq⟩ : ∃ q, q = m ^^^ s[k].toNat * 65536 := ⟨_, rfl⟩
      rw [← hq] at HL ⊢
      have HQ := Lib.hid hq
      clear hq hx hc
      go_loop [5, 7] (fun a i => ∃ j : Nat, i = .int .i64 j ∧ j ≤ 8 ∧ a = .int .u32 ((stK q j : Nat) : Int)) (fun _ i => 8 - (intOf i).toNat)
      case atStart => exact ⟨0, rfl, by omega, rfl⟩
      case round =>
        obtain ⟨j, rfl, hj, rfl⟩ := hrel
        by_cases hlj : j < 8
        · have hp := stK_lt q HL.out j
          have HP := Lib.hid (show stK q (j + 1) = st1 (stK q j) from rfl)
          obtain ⟨p, hpe⟩ : ∃ p, p = stK q j := ⟨_, rfl⟩
          rw [← hpe] at hp HP ⊢
          clear hpe
          have jj : (0 : Int) ≤ j := by omega
          have p0 : (0 : Int) ≤ p := by omega
          have p1 : (p : Int) < 16777216 := by omega
          by_cases hs : p < 8388608
          · have HS := Lib.hid (show st1 p = p * 2 by unfold st1; rw [if_pos hs])
            have pw : IntKind.u32.wrap ((p : Int) * 2) = (p : Int) * 2 := by rw [IntKind.wrap_u32']; omega
            have p2 : decide ((16777216 : Int) ≤ (p : Int) * 2) = false := by simp; omega
            clear hs hp p0 p1
            go_wp2
            go_round
            case rel => exact ⟨j + 1, by go_num, by omega, by rw [HP.out, HS.out]; simp⟩
            case measure => simp [intOf]; omega
          · have HS := Lib.hid (show st1 p = (p * 2) ^^^ 25578747 by unfold st1; rw [if_neg hs])
            have pw : IntKind.u32.wrap ((p : Int) * 2) = (p : Int) * 2 := by rw [IntKind.wrap_u32']; omega
            have p2 : decide ((16777216 : Int) ≤ (p : Int) * 2) = true := by simp; omega
            have hx2 : bits BinOp.xor IntKind.u32 ((p : Int) * 2) 25578747 = ((p * 2 ^^^ 25578747 : Nat) : Int) := by
              have := u32_xor_nat (p * 2) 25578747 (by omega) (by decide)
              rwa [Int.natCast_mul] at this
            clear hs hp p0 p1
            go_wp2
            go_round
            case rel => exact ⟨j + 1, by go_num, by omega, by rw [HP.out, HS.out]⟩
            case measure => simp [intOf]; omega
        · obtain rfl : j = 8 := by omega
          go_wp2
          go_round
          case rel => exact ⟨k + 1, by go_num, by omega, by rw [HT.out, onL_snoc, ← HM.out, stK_8, HQ.out]; rfl⟩
          case measure => simp [intOf]; omega
    · obtain rfl : k = s.size := by omega
      have e : s.data.toList.take s.size = s.data.toList := List.take_of_length_le (by rw [Array.length_toList]; exact Nat.le_refl _)
      rw [e]
      clear e
      go_wp2
      go_ret
      exact ⟨rfl, rfl⟩
/-- The sum of a text; the text sealed; what it opens to, and the error's number. -/
def ofB (s : ByteArray) : Nat := onL 11994318 s.data.toList
theorem ofB_lt (s : ByteArray) : ofB s < 16777216 := onL_lt _ _ (by decide)
def sealB (s : ByteArray) : ByteArray := s ++ ⟨(tail3 (ofB s)).toArray⟩
def openB (s : ByteArray) : ByteArray := if s.size < 3 then ⟨#[]⟩ else if sealB (s.extract 0 (s.size - 3)) = s then s.extract 0 (s.size - 3) else ⟨#[]⟩
def openE (s : ByteArray) : Int := if s.size < 3 then 2 else if sealB (s.extract 0 (s.size - 3)) = s then 0 else 8

theorem rof_any (s : ByteArray) (w : World) (hlen : s.size ≤ 9223372036854775807) :
    Calls Tryd.prog 12 #[.string s] w fun e w' => e = .returned (.int .u32 (ofB s : Int)) ∧ w = w' := by
  go_enter Tryd.func12, Tryd.ntmps12
  go_wp2_with fail
  refine (ron_any 11994318 s _ (by decide) hlen).mono ?_
  rintro e w1 ⟨rfl, rfl⟩
  go_wp2
  go_ret
  exact ⟨rfl, rfl⟩

/-- The three bytes of a sum, laid into a new block, as a text. -/
theorem conv_tail (q : Nat) (w : World) (a b c : Int) (ha : a = ((by2 q).toNat : Int)) (hb : b = ((by1 q).toNat : Int)) (hc : c = ((by0 q).toNat : Int)) :
    (convert 32 9 (.slice (some ⟨w.heap.size, 0, none⟩) 3 3)).run Tryd.prog (w.alloc (.cells #[.int .u8 a, .int .u8 b, .int .u8 c] 5)) = .ok (.string ⟨(tail3 q).toArray⟩) (w.alloc (.cells #[.int .u8 a, .int .u8 b, .int .u8 c] 5)) := by
  subst ha hb hc
  refine run_convert_bytes_back _ _ _ _ ⟨w.heap.size, 0, none⟩ 3 (tail3 q) Tryd.underlying32 Tryd.underlying5 Tryd.underlying9 ?_
  intro j hj
  have hj3 : j < 3 := hj
  rcases (show j = 0 ∨ j = 1 ∨ j = 2 by omega) with rfl | rfl | rfl <;> simp [Addr.add, tail3]
theorem by2_int (q : Nat) : (q : Int) / 65536 % 256 = ((by2 q).toNat : Int) := by unfold by2; rw [UInt8.toNat_ofNat']; omega
theorem by1_int (q : Nat) : (q : Int) / 256 % 256 = ((by1 q).toNat : Int) := by unfold by1; rw [UInt8.toNat_ofNat']; omega
theorem by0_int (q : Nat) : (q : Int) % 256 = ((by0 q).toNat : Int) := by unfold by0; rw [UInt8.toNat_ofNat']; omega

set_option maxHeartbeats 1000000 in
theorem rseal_any (s : ByteArray) (w : World) (hlen : s.size ≤ 9223372036854775000) :
    Calls Tryd.prog 16 #[.string s] w fun e w' => e = .returned (.string (sealB s)) ∧ Below w.heap.size w w' := by
  go_enter Tryd.func16, Tryd.ntmps16
  go_wp2_with fail
  refine (rof_any s _ (by omega)).mono ?_
  rintro e w1 ⟨rfl, rfl⟩
  have HL := Lib.hid (ofB_lt s)
  obtain ⟨q, hq⟩ : ∃ q, q = ofB s := ⟨_, rfl⟩
  rw [← hq] at HL ⊢
  have HQ := Lib.hid hq
  clear hq
  have hno : ¬ 9223372036854775807 < s.size + (tail3 q).length := by have : (tail3 q).length = 3 := rfl; omega
  have c3 := fun w => conv_tail q w _ _ _ (by2_int q) (by1_int q) (by0_int q)
  go_wp2
  go_ret
  refine ⟨?_, by go_grown⟩
  rw [sealB, ← HQ.out]
  rfl

/-- Two texts, compared. -/
theorem str_ne {a b : ByteArray} (h : a ≠ b) : (a.toList == b.toList) = false := by
  rw [ByteArray.toList_eq, ByteArray.toList_eq]
  simp only [beq_eq_false_iff_ne, ne_eq]
  intro h2
  apply h
  rw [ByteArray.ext_iff]
  exact Array.ext' h2
theorem str_eq {a b : ByteArray} (h : a = b) : (a.toList == b.toList) = true := by subst h; simp
theorem openB_short {s : ByteArray} (h : s.size < 3) : openB s = ⟨#[]⟩ ∧ openE s = 2 := by unfold openB openE; rw [if_pos h, if_pos h]; exact ⟨rfl, rfl⟩
theorem openB_yes {s : ByteArray} (h : ¬ s.size < 3) (h2 : sealB (s.extract 0 (s.size - 3)) = s) : openB s = s.extract 0 (s.size - 3) ∧ openE s = 0 := by unfold openB openE; rw [if_neg h, if_neg h, if_pos h2, if_pos h2]; exact ⟨rfl, rfl⟩
theorem openB_no {s : ByteArray} (h : ¬ s.size < 3) (h2 : sealB (s.extract 0 (s.size - 3)) ≠ s) : openB s = ⟨#[]⟩ ∧ openE s = 8 := by unfold openB openE; rw [if_neg h, if_neg h, if_neg h2, if_neg h2]; exact ⟨rfl, rfl⟩

set_option maxHeartbeats 1000000 in
theorem ropen_any (s : ByteArray) (w : World) (hlen : s.size ≤ 9223372036854775000) :
    Calls Tryd.prog 10 #[.string s] w fun e w' => e = .returned (.tuple #[.string (openB s), .int .i64 (openE s)]) ∧ Below w.heap.size w w' := by
  by_cases h3 : s.size < 3
  · obtain ⟨e1, e2⟩ := openB_short h3
    rw [e1, e2]
    clear e1 e2
    go_enter Tryd.func10, Tryd.ntmps10
    go_wp2
    go_ret2
    exact ⟨rfl, by go_grown⟩
  · by_cases hs : sealB (s.extract 0 (s.size - 3)) = s
    · obtain ⟨e1, e2⟩ := openB_yes h3 hs
      rw [e1, e2]
      clear e1 e2
      have HS := Lib.hid hs
      clear hs
      go_enter Tryd.func10, Tryd.ntmps10
      go_wp2_with fail
      refine (rseal_any _ _ (by rw [ByteArray.size_extract]; omega)).mono ?_
      rintro e w1 ⟨rfl, hb⟩
      rw [HS.out]
      have HB := Lib.hid hb
      clear hb
      go_wp2
      go_ret2
      exact ⟨rfl, HB.out⟩
    · obtain ⟨e1, e2⟩ := openB_no h3 hs
      rw [e1, e2]
      clear e1 e2
      have HS := Lib.hid hs
      clear hs
      go_enter Tryd.func10, Tryd.ntmps10
      go_wp2_with fail
      refine (rseal_any _ _ (by rw [ByteArray.size_extract]; omega)).mono ?_
      rintro e w1 ⟨rfl, hb⟩
      have hz := str_ne HS.out
      generalize sealB (s.extract 0 (s.size - 3)) = Z at hz ⊢
      have HB := Lib.hid hb
      clear hb
      go_wp2
      go_ret2
      exact ⟨rfl, HB.out⟩
end Go.Proofs.YtdpdokjoinhjpaaDoor
