/-
  LexCounts, LexBraces
-/
import Derived.Test.YtlcecblehffjiaaDoorLexNum
namespace Go.Proofs.YtlcecblehffjiaaDoor
open Go.RowKit

/-- Where a byte stands first; how many bytes there are, if nowhere. -/
def fstI (s : ByteArray) (c : Nat) : Nat := ((List.range s.size).find? fun i => bt s i == c).getD s.size
theorem fstI_cases (s : ByteArray) (c : Nat) (hc : c < 256) : (fstI s c = s.size ∧ ∀ j, bt s j ≠ c) ∨ (fstI s c < s.size ∧ bt s (fstI s c) = c ∧ ∀ j, j < fstI s c → bt s j ≠ c) := by
  unfold fstI
  cases hf : (List.range s.size).find? (fun i => bt s i == c) with
  | none =>
    refine .inl ⟨rfl, fun j => ?_⟩
    rw [List.find?_eq_none] at hf
    by_cases hj : j < s.size
    · exact fun h => hf j (List.mem_range.2 hj) (by simpa using h)
    · rw [bt_no (by omega)]
      omega
  | some i =>
    have h1 := List.find?_some hf
    have h2 := List.mem_range.1 (List.mem_of_find?_eq_some hf)
    have h3 := List.find?_range_eq_some.1 hf
    refine .inr ⟨h2, by simpa using h1, fun j hj => ?_⟩
    have := h3.2.2 j hj
    simpa using this
theorem fstI_at {s : ByteArray} {c i : Nat} (hc : c < 256) (hb : bt s i = c) (hn : ∀ j, j < i → bt s j ≠ c) : fstI s c = i := by
  rcases fstI_cases s c hc with ⟨-, h⟩ | ⟨-, h3, h4⟩
  · exact absurd hb (h i)
  · rcases Nat.lt_trichotomy (fstI s c) i with h | h | h
    · exact absurd h3 (hn _ h)
    · exact h
    · exact absurd hb (h4 i h)
theorem fstI_no {s : ByteArray} {c : Nat} (hc : c < 256) (hn : ∀ j, bt s j ≠ c) : fstI s c = s.size := by
  rcases fstI_cases s c hc with ⟨h, -⟩ | ⟨-, h3, -⟩
  · exact h
  · exact absurd h3 (hn _)
theorem ext_all (s : ByteArray) : s.extract 0 s.size = s := by simp
theorem ext_size {s : ByteArray} {a b : Nat} (hb : b ≤ s.size) : (s.extract a b).size = b - a := by simp; omega

/-- What counts answers: at least, at most, what is wrong; a and b are what stands ahead of the comma and behind it. -/
def cntsV (a : Nat) (most : Int) (ok : Bool) : Int × Int × Int :=
  if ok = false then (0, 0, 3) else if 100 < a ∨ 100 < most then (0, 0, 4) else if most ≠ -1 ∧ most < a then (0, 0, 3) else (a, most, 0)
def mostZ (s : ByteArray) : Int := if fstI s 44 < s.size then (if s.size = fstI s 44 + 1 then -1 else (numV (s.extract (fstI s 44 + 1) s.size) : Int)) else (numV (s.extract 0 (fstI s 44)) : Int)
def okZ (s : ByteArray) : Bool := numB (s.extract 0 (fstI s 44)) && (!decide (fstI s 44 + 1 < s.size) || numB (s.extract (fstI s 44 + 1) s.size))
def cntsZ (s : ByteArray) : Int × Int × Int := cntsV (numV (s.extract 0 (fstI s 44))) (mostZ s) (okZ s)
theorem ret_3 {a b c x y z : Int} (h1 : a = x) (h2 : b = y) (h3 : c = z) : Ending.returned (.tuple #[.int .i64 a, .int .i64 b, .int .i64 c]) = .returned (.tuple #[.int .i64 x, .int .i64 y, .int .i64 z]) := by rw [h1, h2, h3]
theorem cntV_le (s : ByteArray) (h : numB s = true) : numV s < 1000 := by
  have h1 := of_decide_eq_true h
  unfold numV; rw [h, if_pos rfl]
  exact Nat.lt_of_lt_of_le (cntV_lt s.size fun j hj => by rw [Nat.zero_add]; exact h1.2.2 j hj) (Nat.pow_le_pow_right (n := 10) (by decide) h1.2.1)
theorem numV_le (s : ByteArray) : numV s < 1000 := by
  cases h : numB s with
  | true => exact cntV_le s h
  | false => unfold numV; rw [h]; simp
theorem str_ne {s : ByteArray} (h : s.size ≠ 0) : (s.toList == []) = false := by
  rw [Bool.eq_false_iff]
  intro h2
  have h1 : s.toList = [] := by simpa using h2
  rw [ByteArray.toList_eq] at h1
  apply h
  show s.data.size = 0
  rw [← Array.length_toList, h1]
  rfl
theorem str_empty {s : ByteArray} (h : s.size = 0) : s = ByteArray.empty := by
  cases s with
  | mk d => congr 1; exact Array.eq_empty_of_size_eq_zero h

set_option maxHeartbeats 8000000 in
theorem counts_any (s : ByteArray) (w : World) (hs : s.size ≤ 1000000) : Calls Tryd.prog 42 #[.string s] w fun e w' => e = .returned (.tuple #[.int .i64 (cntsZ s).1, .int .i64 (cntsZ s).2.1, .int .i64 (cntsZ s).2.2]) ∧ Below w.heap.size w w' := by
  rcases fstI_cases s 44 (by omega) with ⟨hf, hn⟩ | ⟨hlt, hb, hn⟩
  · have h1 : cntsZ s = cntsV (numV s) (numV s : Int) (numB s) := by
      unfold cntsZ mostZ okZ
      rw [hf, ext_all, if_neg (by omega), decide_eq_false (by omega)]
      simp
    rw [h1]
    have HC := Lib.hid (cut_no s 44 w hn)
    have HN1 := Lib.hid (fun w => number_any s w (by omega))
    have hx := numV_le s
    clear h1 hn hf
    revert hx HN1
    generalize numV s = x
    generalize numB s = f
    intro HN1 hx
    cases f with
    | false =>
      rw [show cntsV x (x : Int) false = (0, 0, 3) from rfl]
      go_enter Tryd.func42, Tryd.ntmps42
      go_wp2_with fail
      refine HC.out.mono ?_
      rintro e w1 ⟨rfl, hb1⟩
      have HB1 := Lib.hid hb1
      clear hb1
      go_wp2_with fail
      refine (HN1.out _).mono ?_
      rintro e w2 ⟨rfl, hb2⟩
      have HB2 := Lib.hid (thenB HB1.out hb2 HB1.out.size)
      clear hb2
      go_wp2_with fail
      go_ret3
      exact ⟨rfl, HB2.out⟩
    | true =>
      by_cases h100 : 100 < x
      · have q : (100 : Int) < (x : Int) := by omega
        rw [show cntsV x (x : Int) true = (0, 0, 4) by unfold cntsV; rw [if_neg (by decide), if_pos (.inl h100)]]
        go_enter Tryd.func42, Tryd.ntmps42
        go_wp2_with fail
        refine HC.out.mono ?_
        rintro e w1 ⟨rfl, hb1⟩
        have HB1 := Lib.hid hb1
        clear hb1
        go_wp2_with fail
        refine (HN1.out _).mono ?_
        rintro e w2 ⟨rfl, hb2⟩
        have HB2 := Lib.hid (thenB HB1.out hb2 HB1.out.size)
        clear hb2
        go_wp2_with fail
        go_ret3
        exact ⟨rfl, HB2.out⟩
      · have q : ¬ (100 : Int) < (x : Int) := by omega
        have q2 : ¬ (x : Int) = -1 := by omega
        have q3 : ¬ (x : Int) < (x : Int) := by omega
        rw [show cntsV x (x : Int) true = ((x : Int), (x : Int), (0 : Int)) by unfold cntsV; rw [if_neg (by decide), if_neg (by omega), if_neg (by omega)]]
        go_enter Tryd.func42, Tryd.ntmps42
        go_wp2_with fail
        refine HC.out.mono ?_
        rintro e w1 ⟨rfl, hb1⟩
        have HB1 := Lib.hid hb1
        clear hb1
        go_wp2_with fail
        refine (HN1.out _).mono ?_
        rintro e w2 ⟨rfl, hb2⟩
        have HB2 := Lib.hid (thenB HB1.out hb2 HB1.out.size)
        clear hb2
        go_wp2_with fail
        go_ret3
        exact ⟨rfl, HB2.out⟩
  · have h1s : (s.extract 0 (fstI s 44)).size ≤ 1000000 := by rw [ext_size (by omega)]; omega
    have HC := Lib.hid (cut_at s 44 (fstI s 44) w (by omega) hlt hb hn)
    have HN1 := Lib.hid (fun w => number_any (s.extract 0 (fstI s 44)) w (by omega))
    have hx := numV_le (s.extract 0 (fstI s 44))
    have hbs : (s.extract (fstI s 44 + 1) s.size).size = s.size - (fstI s 44 + 1) := ext_size (Nat.le_refl _)
    by_cases hem : s.size = fstI s 44 + 1
    · have h1 : cntsZ s = cntsV (numV (s.extract 0 (fstI s 44))) (-1) (numB (s.extract 0 (fstI s 44))) := by
        unfold cntsZ mostZ okZ
        rw [if_pos hlt, if_pos hem, decide_eq_false (by omega)]
        simp
      rw [h1]
      have hbe : s.extract (fstI s 44 + 1) s.size = ByteArray.empty := str_empty (by omega)
      rw [hbe] at HC
      clear h1 hn hb hlt hbe hbs hem
      revert h1s HC HN1 hx
      generalize s.extract 0 (fstI s 44) = a
      generalize numV a = x
      generalize numB a = f
      intro h1s HC HN1 hx
      cases f with
      | false =>
        rw [show cntsV x (-1) false = (0, 0, 3) from rfl]
        go_enter Tryd.func42, Tryd.ntmps42
        go_wp2_with fail
        refine HC.out.mono ?_
        rintro e w1 ⟨rfl, hb1⟩
        have HB1 := Lib.hid hb1
        clear hb1
        go_wp2_with fail
        refine (HN1.out _).mono ?_
        rintro e w2 ⟨rfl, hb2⟩
        have HB2 := Lib.hid (thenB HB1.out hb2 HB1.out.size)
        clear hb2
        go_wp2_with fail
        go_ret3
        exact ⟨rfl, HB2.out⟩
      | true =>
        by_cases h100 : 100 < x
        · have q : (100 : Int) < (x : Int) := by omega
          rw [show cntsV x (-1) true = (0, 0, 4) by unfold cntsV; rw [if_neg (by decide), if_pos (.inl h100)]]
          go_enter Tryd.func42, Tryd.ntmps42
          go_wp2_with fail
          refine HC.out.mono ?_
          rintro e w1 ⟨rfl, hb1⟩
          have HB1 := Lib.hid hb1
          clear hb1
          go_wp2_with fail
          refine (HN1.out _).mono ?_
          rintro e w2 ⟨rfl, hb2⟩
          have HB2 := Lib.hid (thenB HB1.out hb2 HB1.out.size)
          clear hb2
          go_wp2_with fail
          go_ret3
          exact ⟨rfl, HB2.out⟩
        · have q : ¬ (100 : Int) < (x : Int) := by omega
          rw [show cntsV x (-1) true = ((x : Int), (-1 : Int), (0 : Int)) by unfold cntsV; rw [if_neg (by decide), if_neg (by omega), if_neg (by omega)]]
          go_enter Tryd.func42, Tryd.ntmps42
          go_wp2_with fail
          refine HC.out.mono ?_
          rintro e w1 ⟨rfl, hb1⟩
          have HB1 := Lib.hid hb1
          clear hb1
          go_wp2_with fail
          refine (HN1.out _).mono ?_
          rintro e w2 ⟨rfl, hb2⟩
          have HB2 := Lib.hid (thenB HB1.out hb2 HB1.out.size)
          clear hb2
          go_wp2_with fail
          go_ret3
          exact ⟨rfl, HB2.out⟩
    · have h2s : (s.extract (fstI s 44 + 1) s.size).size ≤ 1000000 := by omega
      have hne := str_ne (s := s.extract (fstI s 44 + 1) s.size) (by omega)
      have h1 : cntsZ s = cntsV (numV (s.extract 0 (fstI s 44))) (numV (s.extract (fstI s 44 + 1) s.size) : Int) (numB (s.extract 0 (fstI s 44)) && numB (s.extract (fstI s 44 + 1) s.size)) := by
        unfold cntsZ mostZ okZ
        rw [if_pos hlt, if_neg hem, decide_eq_true (by omega)]
        simp
      rw [h1]
      have hy := numV_le (s.extract (fstI s 44 + 1) s.size)
      have HN2 := Lib.hid (fun w => number_any (s.extract (fstI s 44 + 1) s.size) w (by omega))
      clear h1 hn hb hlt hbs hem
      revert h1s HC HN1 hx h2s hne hy HN2
      generalize s.extract 0 (fstI s 44) = a
      generalize s.extract (fstI s 44 + 1) s.size = b
      generalize numV a = x
      generalize numB a = f
      generalize numV b = y
      generalize numB b = g
      intro h1s HC HN1 hx h2s hne hy HN2
      cases f with
      | false =>
        rw [show cntsV x (y : Int) (false && g) = (0, 0, 3) from rfl]
        go_enter Tryd.func42, Tryd.ntmps42
        go_wp2_with fail
        refine HC.out.mono ?_
        rintro e w1 ⟨rfl, hb1⟩
        have HB1 := Lib.hid hb1
        clear hb1
        go_wp2_with fail
        refine (HN1.out _).mono ?_
        rintro e w2 ⟨rfl, hb2⟩
        have HB2 := Lib.hid (thenB HB1.out hb2 HB1.out.size)
        clear hb2
        go_wp2_with fail
        refine (HN2.out _).mono ?_
        rintro e w3 ⟨rfl, hb3⟩
        have HB3 := Lib.hid (thenB HB2.out hb3 HB2.out.size)
        clear hb3
        go_wp2_with fail
        go_ret3
        exact ⟨rfl, HB3.out⟩
      | true =>
        cases g with
        | false =>
          rw [show cntsV x (y : Int) (true && false) = (0, 0, 3) from rfl]
          go_enter Tryd.func42, Tryd.ntmps42
          go_wp2_with fail
          refine HC.out.mono ?_
          rintro e w1 ⟨rfl, hb1⟩
          have HB1 := Lib.hid hb1
          clear hb1
          go_wp2_with fail
          refine (HN1.out _).mono ?_
          rintro e w2 ⟨rfl, hb2⟩
          have HB2 := Lib.hid (thenB HB1.out hb2 HB1.out.size)
          clear hb2
          go_wp2_with fail
          refine (HN2.out _).mono ?_
          rintro e w3 ⟨rfl, hb3⟩
          have HB3 := Lib.hid (thenB HB2.out hb3 HB2.out.size)
          clear hb3
          go_wp2_with fail
          go_ret3
          exact ⟨rfl, HB3.out⟩
        | true =>
          by_cases h100 : 100 < x
          · have q : (100 : Int) < (x : Int) := by omega
            rw [show cntsV x (y : Int) (true && true) = (0, 0, 4) by unfold cntsV; rw [if_neg (by decide), if_pos (.inl h100)]]
            go_enter Tryd.func42, Tryd.ntmps42
            go_wp2_with fail
            refine HC.out.mono ?_
            rintro e w1 ⟨rfl, hb1⟩
            have HB1 := Lib.hid hb1
            clear hb1
            go_wp2_with fail
            refine (HN1.out _).mono ?_
            rintro e w2 ⟨rfl, hb2⟩
            have HB2 := Lib.hid (thenB HB1.out hb2 HB1.out.size)
            clear hb2
            go_wp2_with fail
            refine (HN2.out _).mono ?_
            rintro e w3 ⟨rfl, hb3⟩
            have HB3 := Lib.hid (thenB HB2.out hb3 HB2.out.size)
            clear hb3
            go_wp2_with fail
            go_ret3
            exact ⟨rfl, HB3.out⟩
          · have q : ¬ (100 : Int) < (x : Int) := by omega
            by_cases y100 : 100 < y
            · have q2 : (100 : Int) < (y : Int) := by omega
              rw [show cntsV x (y : Int) (true && true) = (0, 0, 4) by unfold cntsV; rw [if_neg (by decide), if_pos (.inr (by omega))]]
              go_enter Tryd.func42, Tryd.ntmps42
              go_wp2_with fail
              refine HC.out.mono ?_
              rintro e w1 ⟨rfl, hb1⟩
              have HB1 := Lib.hid hb1
              clear hb1
              go_wp2_with fail
              refine (HN1.out _).mono ?_
              rintro e w2 ⟨rfl, hb2⟩
              have HB2 := Lib.hid (thenB HB1.out hb2 HB1.out.size)
              clear hb2
              go_wp2_with fail
              refine (HN2.out _).mono ?_
              rintro e w3 ⟨rfl, hb3⟩
              have HB3 := Lib.hid (thenB HB2.out hb3 HB2.out.size)
              clear hb3
              go_wp2_with fail
              go_ret3
              exact ⟨rfl, HB3.out⟩
            · have q2 : ¬ (100 : Int) < (y : Int) := by omega
              have q3 : ¬ (y : Int) = -1 := by omega
              by_cases hyx : y < x
              · have q4 : (y : Int) < (x : Int) := by omega
                rw [show cntsV x (y : Int) (true && true) = (0, 0, 3) by unfold cntsV; rw [if_neg (by decide), if_neg (by omega), if_pos (by omega)]]
                go_enter Tryd.func42, Tryd.ntmps42
                go_wp2_with fail
                refine HC.out.mono ?_
                rintro e w1 ⟨rfl, hb1⟩
                have HB1 := Lib.hid hb1
                clear hb1
                go_wp2_with fail
                refine (HN1.out _).mono ?_
                rintro e w2 ⟨rfl, hb2⟩
                have HB2 := Lib.hid (thenB HB1.out hb2 HB1.out.size)
                clear hb2
                go_wp2_with fail
                refine (HN2.out _).mono ?_
                rintro e w3 ⟨rfl, hb3⟩
                have HB3 := Lib.hid (thenB HB2.out hb3 HB2.out.size)
                clear hb3
                go_wp2_with fail
                go_ret3
                exact ⟨rfl, HB3.out⟩
              · have q4 : ¬ (y : Int) < (x : Int) := by omega
                rw [show cntsV x (y : Int) (true && true) = ((x : Int), (y : Int), (0 : Int)) by unfold cntsV; rw [if_neg (by decide), if_neg (by omega), if_neg (by omega)]]
                go_enter Tryd.func42, Tryd.ntmps42
                go_wp2_with fail
                refine HC.out.mono ?_
                rintro e w1 ⟨rfl, hb1⟩
                have HB1 := Lib.hid hb1
                clear hb1
                go_wp2_with fail
                refine (HN1.out _).mono ?_
                rintro e w2 ⟨rfl, hb2⟩
                have HB2 := Lib.hid (thenB HB1.out hb2 HB1.out.size)
                clear hb2
                go_wp2_with fail
                refine (HN2.out _).mono ?_
                rintro e w3 ⟨rfl, hb3⟩
                have HB3 := Lib.hid (thenB HB2.out hb3 HB2.out.size)
                clear hb3
                go_wp2_with fail
                go_ret3
                exact ⟨rfl, HB3.out⟩
end Go.Proofs.YtlcecblehffjiaaDoor

namespace Go.Proofs.YtlcecblehffjiaaDoor

/-- A text is a piece of another one. -/
structure Win (t p : ByteArray) (a n : Nat) : Prop where
  size : t.size = n
  bt : ∀ j, j < n → bt t j = bt p (a + j)
theorem Win.of (p : ByteArray) {a b : Nat} (hb : b ≤ p.size) : Win (p.extract a b) p a (b - a) := ⟨ext_size hb, fun _ hj => bt_ext2 hb (by omega)⟩
theorem Win.sub {s p : ByteArray} {a n : Nat} (h : Win s p a n) {x y : Nat} (hy : y ≤ n) : Win (s.extract x y) p (a + x) (y - x) := by
  refine ⟨ext_size (by rw [h.size]; exact hy), fun j hj => ?_⟩
  rw [bt_ext2 (by rw [h.size]; exact hy) (by omega), h.bt _ (by omega), Nat.add_assoc]
theorem Win.dig {t p : ByteArray} {a n : Nat} (h : Win t p a n) {j : Nat} (hj : j < n) : isD t j = isD p (a + j) := by unfold isD; rw [h.bt j hj]
theorem Win.cnt {t p : ByteArray} {a n : Nat} (h : Win t p a n) : ∀ k, k ≤ n → cntV t 0 k = cntV p a k
  | 0, _ => rfl
  | k + 1, hk => by rw [cntV, cntV, h.cnt k (by omega), Nat.zero_add, h.bt k (by omega)]
theorem Win.yes {t p : ByteArray} {a n : Nat} (h : Win t p a n) (hn : numB t = true) (he : isD p (a + n) = false) : 1 ≤ n ∧ countZ p a = (numV t, a + n) := by
  have h1 := of_decide_eq_true hn
  rw [h.size] at h1
  refine ⟨h1.1, ?_⟩
  unfold numV
  rw [hn, if_pos rfl, h.size, h.cnt n (Nat.le_refl _)]
  exact count_at h1.2.1 (fun j hj => by rw [← h.dig hj]; exact h1.2.2 j hj) (.inr he)
/-- What the count reads. -/
theorem count_spec (p : ByteArray) (a : Nat) : ∃ k, k ≤ 3 ∧ (countZ p a).2 = a + k ∧ ∀ j, j < k → isD p (a + j) = true := by
  unfold countZ
  split
  · exact ⟨0, by omega, rfl, fun j hj => by omega⟩
  · rename_i h0
    split
    · refine ⟨1, by omega, rfl, fun j hj => ?_⟩
      obtain rfl : j = 0 := by omega
      simpa using h0
    · rename_i h1
      split
      · refine ⟨2, by omega, rfl, fun j hj => ?_⟩
        rcases (show j = 0 ∨ j = 1 by omega) with rfl | rfl
        · simpa using h0
        · simpa using h1
      · rename_i h2
        refine ⟨3, by omega, rfl, fun j hj => ?_⟩
        rcases (show j = 0 ∨ j = 1 ∨ j = 2 by omega) with rfl | rfl | rfl
        · simpa using h0
        · simpa using h1
        · simpa using h2
/-- Where the text is no number, the count ends ahead of the text's end, or has not begun. -/
theorem Win.no {t p : ByteArray} {a n : Nat} (h : Win t p a n) (hn : numB t = false) (he : isD p (a + n) = false) : (countZ p a).2 = a ∨ (a < (countZ p a).2 ∧ (countZ p a).2 < a + n) := by
  obtain ⟨k, hk, h2, hd⟩ := count_spec p a
  rw [h2]
  by_cases h0 : k = 0
  · exact .inl (by omega)
  · refine .inr ⟨by omega, ?_⟩
    rcases Nat.lt_trichotomy k n with hlt | rfl | hgt
    · omega
    · have := numB_yes (s := t) (by rw [h.size]; omega) (by rw [h.size]; exact hk) (fun j hj => by rw [h.size] at hj; rw [h.dig hj]; exact hd j hj)
      rw [hn] at this
      cases this
    · have := hd n hgt
      rw [he] at this
      cases this
theorem isD_of {p : ByteArray} {i c : Nat} (h : bt p i = c) (hc : c < 48 ∨ 57 < c) : isD p i = false := by unfold isD; rw [h]; exact decide_eq_false (by omega)
/-- The braces' token, of what was counted. -/
def braceT (c : Int × Int × Int) (e : Nat) : TokR := if c.2.2 ≠ 0 then wrongT c.2.2 else ({ tok0 16 with mn := c.1, mx := c.2.1 }, e + 1, 0)
theorem braceT_bad (a : Nat) (m : Int) (e : Nat) : braceT (cntsV a m false) e = wrongT 3 := rfl
theorem braceT_ok (a : Nat) (m : Int) (e : Nat) : braceT (cntsV a m true) e = (if 100 < a ∨ 100 < m then wrongT 4 else if m ≠ -1 ∧ m < a then wrongT 3 else ({ tok0 16 with mn := a, mx := m }, e + 1, 0)) := by
  unfold cntsV
  rw [if_neg (by decide)]
  split
  · rfl
  · split
    · rfl
    · rfl
theorem braces_no {p : ByteArray} {i : Nat} (hn : ∀ j, i + 1 ≤ j → bt p j ≠ 125) : bracesZ p i = wrongT 3 := by
  obtain ⟨k, hk, h2, -⟩ := count_spec p (i + 1)
  unfold bracesZ
  simp only []
  split
  · rfl
  · have hb : bt p (if bt p (countZ p (i + 1)).2 = 44 then (if (countZ p ((countZ p (i + 1)).2 + 1)).2 = (countZ p (i + 1)).2 + 1 then (-1 : Int) else ((countZ p ((countZ p (i + 1)).2 + 1)).1 : Int), (countZ p ((countZ p (i + 1)).2 + 1)).2) else (((countZ p (i + 1)).1 : Int), (countZ p (i + 1)).2)).2 ≠ 125 := by
      split
      · obtain ⟨k', -, h3, -⟩ := count_spec p ((countZ p (i + 1)).2 + 1)
        exact hn _ (by simp only []; omega)
      · exact hn _ (by simp only []; omega)
    rw [if_pos hb]
theorem braces_eq {p : ByteArray} {i e : Nat} (hie : i + 1 ≤ e) (hep : e < p.size) (he : bt p e = 125) (hn : ∀ j, i + 1 ≤ j → j < e → bt p j ≠ 125) : bracesZ p i = braceT (cntsZ (p.extract (i + 1) e)) e := by
  have hw := Win.of p (a := i + 1) (b := e) (by omega)
  have hde := isD_of he (by omega)
  have hee : i + 1 + (e - (i + 1)) = e := by omega
  generalize hs : p.extract (i + 1) e = s at hw ⊢
  rcases fstI_cases s 44 (by omega) with ⟨hf, hnc⟩ | ⟨hlt, hb, hnc⟩
  · have h1 : cntsZ s = cntsV (numV s) (numV s : Int) (numB s) := by
      unfold cntsZ mostZ okZ
      rw [hf, ext_all, if_neg (by omega), decide_eq_false (by omega)]
      simp
    rw [h1]
    have hcom : ∀ j, i + 1 ≤ j → j < e → bt p j ≠ 44 := fun j h2 h3 => by
      have := hnc (j - (i + 1))
      rw [hw.bt _ (by omega), show i + 1 + (j - (i + 1)) = j by omega] at this
      exact this
    cases hB : numB s with
    | true =>
      obtain ⟨h2, h3⟩ := hw.yes hB (by rw [hee]; exact hde)
      rw [hee] at h3
      rw [braceT_ok]
      unfold bracesZ
      simp only [h3]
      rw [if_neg (by omega)]
      simp only [he]
      rw [if_neg (show ¬ (125 : Nat) = 44 by decide)]
      simp only [he, ne_eq, not_true_eq_false, if_false]
      split
      · rfl
      · rw [if_neg (by omega), if_neg (by omega)]
    | false =>
      rw [braceT_bad]
      unfold bracesZ
      simp only []
      rcases hw.no hB (by rw [hee]; exact hde) with h2 | ⟨h2, h3⟩
      · rw [if_pos h2]
      · rw [hee] at h3
        rw [if_neg (by omega), if_neg (hcom _ (by omega) h3)]
        simp only []
        rw [if_pos (hn _ (by omega) h3)]
  · have hsz := hw.size
    have hm : bt p (i + 1 + fstI s 44) = 44 := by rw [← hw.bt _ (by omega)]; exact hb
    have hwa := hw.sub (x := 0) (y := fstI s 44) (by omega)
    have hwb := hw.sub (x := fstI s 44 + 1) (y := s.size) (by omega)
    have hcom : ∀ j, i + 1 ≤ j → j < i + 1 + fstI s 44 → bt p j ≠ 44 := fun j h2 h3 => by
      have := hnc (j - (i + 1)) (by omega)
      rw [hw.bt _ (by omega), show i + 1 + (j - (i + 1)) = j by omega] at this
      exact this
    have hz : cntsZ s = cntsV (numV (s.extract 0 (fstI s 44))) (mostZ s) (okZ s) := rfl
    have hok : okZ s = (numB (s.extract 0 (fstI s 44)) && (!decide (fstI s 44 + 1 < s.size) || numB (s.extract (fstI s 44 + 1) s.size))) := rfl
    have hmo : mostZ s = if fstI s 44 < s.size then (if s.size = fstI s 44 + 1 then -1 else (numV (s.extract (fstI s 44 + 1) s.size) : Int)) else (numV (s.extract 0 (fstI s 44)) : Int) := rfl
    rw [if_pos hlt] at hmo
    rw [hz]
    generalize okZ s = ok at hok ⊢
    generalize mostZ s = mo at hmo ⊢
    generalize hm0 : fstI s 44 = m at *
    generalize s.extract 0 m = ta at *
    generalize s.extract (m + 1) s.size = tb at *
    rw [Nat.add_zero, Nat.sub_zero] at hwa
    rw [show i + 1 + (m + 1) = i + 1 + m + 1 by omega, show s.size - (m + 1) = e - (i + 1 + m + 1) by omega] at hwb
    have hdm := isD_of hm (by omega)
    cases hA : numB ta with
    | false =>
      rw [hA, Bool.false_and] at hok
      subst hok
      rw [braceT_bad]
      unfold bracesZ
      simp only []
      rcases hwa.no hA hdm with h2 | ⟨h2, h3⟩
      · rw [if_pos h2]
      · rw [if_neg (by omega), if_neg (hcom _ (by omega) h3)]
        simp only []
        rw [if_pos (hn _ (by omega) (by omega))]
    | true =>
      obtain ⟨h2, h3⟩ := hwa.yes hA hdm
      rw [hA, Bool.true_and] at hok
      by_cases hem : s.size = m + 1
      · rw [decide_eq_false (by omega)] at hok
        rw [if_pos hem] at hmo
        simp at hok
        subst hok hmo
        have hc2 : countZ p (i + 1 + m + 1) = (0, i + 1 + m + 1) := by
          unfold countZ
          rw [if_pos (by rw [show i + 1 + m + 1 = e by omega]; exact hde)]
        rw [braceT_ok]
        unfold bracesZ
        simp only [h3, hm, if_true, hc2]
        rw [if_neg (by omega)]
        have he' : bt p (i + 1 + m + 1) = 125 := by rw [show i + 1 + m + 1 = e by omega]; exact he
        simp only [he', ne_eq, not_true_eq_false, if_false, false_and]
        split
        · rfl
        · rw [if_neg (by omega), show i + 1 + m + 1 = e by omega]
      · rw [decide_eq_true (by omega), Bool.not_true, Bool.false_or] at hok
        rw [if_neg hem] at hmo
        have heb : i + 1 + m + 1 + (e - (i + 1 + m + 1)) = e := by omega
        subst hok hmo
        cases hB : numB tb with
        | true =>
          obtain ⟨h4, h5⟩ := hwb.yes hB (by rw [heb]; exact hde)
          rw [heb] at h5
          rw [braceT_ok]
          unfold bracesZ
          simp only [h3, hm, if_true, h5]
          rw [if_neg (by omega), if_neg (show ¬ e = i + 1 + m + 1 by omega)]
          simp only [he, ne_eq, not_true_eq_false, if_false]
          split
          · rfl
          · by_cases h6 : (numV tb : Int) < (numV ta : Int)
            · rw [if_pos (by omega), if_pos (by omega)]
            · rw [if_neg (by omega), if_neg (by omega)]
        | false =>
          rw [braceT_bad]
          unfold bracesZ
          simp only [h3, hm, if_true]
          rw [if_neg (by omega)]
          rcases hwb.no hB (by rw [heb]; exact hde) with h4 | ⟨h4, h5⟩
          · rw [h4, if_pos (hn _ (by omega) (by omega))]
          · rw [heb] at h5
            rw [if_pos (hn _ (by omega) h5)]
end Go.Proofs.YtlcecblehffjiaaDoor
