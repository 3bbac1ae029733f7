/-
  Layer 6, the landed code: how often a repeat is, of what stands within its braces; its mode.
-/
import Derived.Test.YtlcecblehffjiaaDoorLexNum
namespace Go.Proofs.YtlcecblehffjiaaDoor
open Go.RowKit

/-- Where a byte stands first; how many bytes there are, if nowhere. -/
def fstI (s : ByteArray) (c : Nat) : Nat := ((List.range s.size).find? fun i => bt s i == c).getD s.size
theorem fstI_cases (s : ByteArray) (c : Nat) (hc : c < 256) : (fstI s c = s.size ∧ ∀ j, bt s j ≠ c) ∨ (fstI s c < s.size ∧ bt s (fstI s c) = c ∧ ∀ j, j < fstI s c → bt s j ≠ c) := by
  unfold fstI
  cases hf : (List.range s.size).find? (fun i => bt s i == c) with
  | none =>
    refine .inl ⟨rfl, fun j => ?_⟩
    rw [List.find?_eq_none] at hf
    by_cases hj : j < s.size
    · exact fun h => hf j (List.mem_range.2 hj) (by simpa using h)
    · rw [bt_no (by omega)]
      omega
  | some i =>
    have h1 := List.find?_some hf
    have h2 := List.mem_range.1 (List.mem_of_find?_eq_some hf)
    have h3 := List.find?_range_eq_some.1 hf
    refine .inr ⟨h2, by simpa using h1, fun j hj => ?_⟩
    have := h3.2.2 j hj
    simpa using this
theorem fstI_at {s : ByteArray} {c i : Nat} (hc : c < 256) (hb : bt s i = c) (hn : ∀ j, j < i → bt s j ≠ c) : fstI s c = i := by
  rcases fstI_cases s c hc with ⟨-, h⟩ | ⟨-, h3, h4⟩
  · exact absurd hb (h i)
  · rcases Nat.lt_trichotomy (fstI s c) i with h | h | h
    · exact absurd h3 (hn _ h)
    · exact h
    · exact absurd hb (h4 i h)
theorem fstI_no {s : ByteArray} {c : Nat} (hc : c < 256) (hn : ∀ j, bt s j ≠ c) : fstI s c = s.size := by
  rcases fstI_cases s c hc with ⟨h, -⟩ | ⟨-, h3, -⟩
  · exact h
  · exact absurd h3 (hn _)
theorem ext_all (s : ByteArray) : s.extract 0 s.size = s := by simp
theorem ext_size {s : ByteArray} {a b : Nat} (hb : b ≤ s.size) : (s.extract a b).size = b - a := by simp; omega

/-- What counts answers: at least, at most, what is wrong; a and b are what stands ahead of the comma and behind it. -/
def cntsV (a : Nat) (most : Int) (ok : Bool) : Int × Int × Int :=
  if ok = false then (0, 0, 3) else if 100 < a ∨ 100 < most then (0, 0, 4) else if most ≠ -1 ∧ most < a then (0, 0, 3) else (a, most, 0)
def mostZ (s : ByteArray) : Int := if fstI s 44 < s.size then (if s.size = fstI s 44 + 1 then -1 else (numV (s.extract (fstI s 44 + 1) s.size) : Int)) else (numV (s.extract 0 (fstI s 44)) : Int)
def okZ (s : ByteArray) : Bool := numB (s.extract 0 (fstI s 44)) && (!decide (fstI s 44 + 1 < s.size) || numB (s.extract (fstI s 44 + 1) s.size))
def cntsZ (s : ByteArray) : Int × Int × Int := cntsV (numV (s.extract 0 (fstI s 44))) (mostZ s) (okZ s)
theorem ret_3 {a b c x y z : Int} (h1 : a = x) (h2 : b = y) (h3 : c = z) : Ending.returned (.tuple #[.int .i64 a, .int .i64 b, .int .i64 c]) = .returned (.tuple #[.int .i64 x, .int .i64 y, .int .i64 z]) := by rw [h1, h2, h3]
theorem cntV_le (s : ByteArray) (h : numB s = true) : numV s < 1000 := by
  have h1 := of_decide_eq_true h
  unfold numV; rw [h, if_pos rfl]
  exact Nat.lt_of_lt_of_le (cntV_lt s.size fun j hj => by rw [Nat.zero_add]; exact h1.2.2 j hj) (Nat.pow_le_pow_right (n := 10) (by decide) h1.2.1)
theorem numV_le (s : ByteArray) : numV s < 1000 := by
  cases h : numB s with
  | true => exact cntV_le s h
  | false => unfold numV; rw [h]; simp
theorem str_ne {s : ByteArray} (h : s.size ≠ 0) : (s.toList == []) = false := by
  rw [Bool.eq_false_iff]
  intro h2
  have h1 : s.toList = [] := by simpa using h2
  rw [ByteArray.toList_eq] at h1
  apply h
  show s.data.size = 0
  rw [← Array.length_toList, h1]
  rfl
theorem str_empty {s : ByteArray} (h : s.size = 0) : s = ByteArray.empty := by
  cases s with
  | mk d => congr 1; exact Array.eq_empty_of_size_eq_zero h

set_option maxHeartbeats 8000000 in
theorem counts_any (s : ByteArray) (w : World) (hs : s.size ≤ 1000000) : Calls Tryd.prog 42 #[.string s] w fun e w' => e = .returned (.tuple #[.int .i64 (cntsZ s).1, .int .i64 (cntsZ s).2.1, .int .i64 (cntsZ s).2.2]) ∧ Below w.heap.size w w' := by
  rcases fstI_cases s 44 (by omega) with ⟨hf, hn⟩ | ⟨hlt, hb, hn⟩
  · have h1 : cntsZ s = cntsV (numV s) (numV s : Int) (numB s) := by
      unfold cntsZ mostZ okZ
      rw [hf, ext_all, if_neg (by omega), decide_eq_false (by omega)]
      simp
    rw [h1]
    have HC := Lib.hid (cut_no s 44 w hn)
    have HN1 := Lib.hid (fun w => number_any s w (by omega))
    have hx := numV_le s
    clear h1 hn hf
    revert hx HN1
    generalize numV s = x
    generalize numB s = f
    intro HN1 hx
    cases f with
    | false =>
      rw [show cntsV x (x : Int) false = (0, 0, 3) from rfl]
      go_enter Tryd.func42, Tryd.ntmps42
      go_wp2_with fail
      refine HC.out.mono ?_
      rintro e w1 ⟨rfl, hb1⟩
      have HB1 := Lib.hid hb1
      clear hb1
      go_wp2_with fail
      refine (HN1.out _).mono ?_
      rintro e w2 ⟨rfl, hb2⟩
      have HB2 := Lib.hid (thenB HB1.out hb2 HB1.out.size)
      clear hb2
      go_wp2_with fail
      go_ret3
      exact ⟨rfl, HB2.out⟩
    | true =>
      by_cases h100 : 100 < x
      · have q : (100 : Int) < (x : Int) := by omega
        rw [show cntsV x (x : Int) true = (0, 0, 4) by unfold cntsV; rw [if_neg (by decide), if_pos (.inl h100)]]
        go_enter Tryd.func42, Tryd.ntmps42
        go_wp2_with fail
        refine HC.out.mono ?_
        rintro e w1 ⟨rfl, hb1⟩
        have HB1 := Lib.hid hb1
        clear hb1
        go_wp2_with fail
        refine (HN1.out _).mono ?_
        rintro e w2 ⟨rfl, hb2⟩
        have HB2 := Lib.hid (thenB HB1.out hb2 HB1.out.size)
        clear hb2
        go_wp2_with fail
        go_ret3
        exact ⟨rfl, HB2.out⟩
      · have q : ¬ (100 : Int) < (x : Int) := by omega
        have q2 : ¬ (x : Int) = -1 := by omega
        have q3 : ¬ (x : Int) < (x : Int) := by omega
        rw [show cntsV x (x : Int) true = ((x : Int), (x : Int), (0 : Int)) by unfold cntsV; rw [if_neg (by decide), if_neg (by omega), if_neg (by omega)]]
        go_enter Tryd.func42, Tryd.ntmps42
        go_wp2_with fail
        refine HC.out.mono ?_
        rintro e w1 ⟨rfl, hb1⟩
        have HB1 := Lib.hid hb1
        clear hb1
        go_wp2_with fail
        refine (HN1.out _).mono ?_
        rintro e w2 ⟨rfl, hb2⟩
        have HB2 := Lib.hid (thenB HB1.out hb2 HB1.out.size)
        clear hb2
        go_wp2_with fail
        go_ret3
        exact ⟨rfl, HB2.out⟩
  · have h1s : (s.extract 0 (fstI s 44)).size ≤ 1000000 := by rw [ext_size (by omega)]; omega
    have HC := Lib.hid (cut_at s 44 (fstI s 44) w (by omega) hlt hb hn)
    have HN1 := Lib.hid (fun w => number_any (s.extract 0 (fstI s 44)) w (by omega))
    have hx := numV_le (s.extract 0 (fstI s 44))
    have hbs : (s.extract (fstI s 44 + 1) s.size).size = s.size - (fstI s 44 + 1) := ext_size (Nat.le_refl _)
    by_cases hem : s.size = fstI s 44 + 1
    · have h1 : cntsZ s = cntsV (numV (s.extract 0 (fstI s 44))) (-1) (numB (s.extract 0 (fstI s 44))) := by
        unfold cntsZ mostZ okZ
        rw [if_pos hlt, if_pos hem, decide_eq_false (by omega)]
        simp
      rw [h1]
      have hbe : s.extract (fstI s 44 + 1) s.size = ByteArray.empty := str_empty (by omega)
      rw [hbe] at HC
      clear h1 hn hb hlt hbe hbs hem
      revert h1s HC HN1 hx
      generalize s.extract 0 (fstI s 44) = a
      generalize numV a = x
      generalize numB a = f
      intro h1s HC HN1 hx
      cases f with
      | false =>
        rw [show cntsV x (-1) false = (0, 0, 3) from rfl]
        go_enter Tryd.func42, Tryd.ntmps42
        go_wp2_with fail
        refine HC.out.mono ?_
        rintro e w1 ⟨rfl, hb1⟩
        have HB1 := Lib.hid hb1
        clear hb1
        go_wp2_with fail
        refine (HN1.out _).mono ?_
        rintro e w2 ⟨rfl, hb2⟩
        have HB2 := Lib.hid (thenB HB1.out hb2 HB1.out.size)
        clear hb2
        go_wp2_with fail
        go_ret3
        exact ⟨rfl, HB2.out⟩
      | true =>
        by_cases h100 : 100 < x
        · have q : (100 : Int) < (x : Int) := by omega
          rw [show cntsV x (-1) true = (0, 0, 4) by unfold cntsV; rw [if_neg (by decide), if_pos (.inl h100)]]
          go_enter Tryd.func42, Tryd.ntmps42
          go_wp2_with fail
          refine HC.out.mono ?_
          rintro e w1 ⟨rfl, hb1⟩
          have HB1 := Lib.hid hb1
          clear hb1
          go_wp2_with fail
          refine (HN1.out _).mono ?_
          rintro e w2 ⟨rfl, hb2⟩
          have HB2 := Lib.hid (thenB HB1.out hb2 HB1.out.size)
          clear hb2
          go_wp2_with fail
          go_ret3
          exact ⟨rfl, HB2.out⟩
        · have q : ¬ (100 : Int) < (x : Int) := by omega
          rw [show cntsV x (-1) true = ((x : Int), (-1 : Int), (0 : Int)) by unfold cntsV; rw [if_neg (by decide), if_neg (by omega), if_neg (by omega)]]
          go_enter Tryd.func42, Tryd.ntmps42
          go_wp2_with fail
          refine HC.out.mono ?_
          rintro e w1 ⟨rfl, hb1⟩
          have HB1 := Lib.hid hb1
          clear hb1
          go_wp2_with fail
          refine (HN1.out _).mono ?_
          rintro e w2 ⟨rfl, hb2⟩
          have HB2 := Lib.hid (thenB HB1.out hb2 HB1.out.size)
          clear hb2
          go_wp2_with fail
          go_ret3
          exact ⟨rfl, HB2.out⟩
    · have h2s : (s.extract (fstI s 44 + 1) s.size).size ≤ 1000000 := by omega
      have hne := str_ne (s := s.extract (fstI s 44 + 1) s.size) (by omega)
      have h1 : cntsZ s = cntsV (numV (s.extract 0 (fstI s 44))) (numV (s.extract (fstI s 44 + 1) s.size) : Int) (numB (s.extract 0 (fstI s 44)) && numB (s.extract (fstI s 44 + 1) s.size)) := by
        unfold cntsZ mostZ okZ
        rw [if_pos hlt, if_neg hem, decide_eq_true (by omega)]
        simp
      rw [h1]
      have hy := numV_le (s.extract (fstI s 44 + 1) s.size)
      have HN2 := Lib.hid (fun w => number_any (s.extract (fstI s 44 + 1) s.size) w (by omega))
      clear h1 hn hb hlt hbs hem
      revert h1s HC HN1 hx h2s hne hy HN2
      generalize s.extract 0 (fstI s 44) = a
      generalize s.extract (fstI s 44 + 1) s.size = b
      generalize numV a = x
      generalize numB a = f
      generalize numV b = y
      generalize numB b = g
      intro h1s HC HN1 hx h2s hne hy HN2
      cases f with
      | false =>
        rw [show cntsV x (y : Int) (false && g) = (0, 0, 3) from rfl]
        go_enter Tryd.func42, Tryd.ntmps42
        go_wp2_with fail
        refine HC.out.mono ?_
        rintro e w1 ⟨rfl, hb1⟩
        have HB1 := Lib.hid hb1
        clear hb1
        go_wp2_with fail
        refine (HN1.out _).mono ?_
        rintro e w2 ⟨rfl, hb2⟩
        have HB2 := Lib.hid (thenB HB1.out hb2 HB1.out.size)
        clear hb2
        go_wp2_with fail
        refine (HN2.out _).mono ?_
        rintro e w3 ⟨rfl, hb3⟩
        have HB3 := Lib.hid (thenB HB2.out hb3 HB2.out.size)
        clear hb3
        go_wp2_with fail
        go_ret3
        exact ⟨rfl, HB3.out⟩
      | true =>
        cases g with
        | false =>
          rw [show cntsV x (y : Int) (true && false) = (0, 0, 3) from rfl]
          go_enter Tryd.func42, Tryd.ntmps42
          go_wp2_with fail
          refine HC.out.mono ?_
          rintro e w1 ⟨rfl, hb1⟩
          have HB1 := Lib.hid hb1
          clear hb1
          go_wp2_with fail
          refine (HN1.out _).mono ?_
          rintro e w2 ⟨rfl, hb2⟩
          have HB2 := Lib.hid (thenB HB1.out hb2 HB1.out.size)
          clear hb2
          go_wp2_with fail
          refine (HN2.out _).mono ?_
          rintro e w3 ⟨rfl, hb3⟩
          have HB3 := Lib.hid (thenB HB2.out hb3 HB2.out.size)
          clear hb3
          go_wp2_with fail
          go_ret3
          exact ⟨rfl, HB3.out⟩
        | true =>
          by_cases h100 : 100 < x
          · have q : (100 : Int) < (x : Int) := by omega
            rw [show cntsV x (y : Int) (true && true) = (0, 0, 4) by unfold cntsV; rw [if_neg (by decide), if_pos (.inl h100)]]
            go_enter Tryd.func42, Tryd.ntmps42
            go_wp2_with fail
            refine HC.out.mono ?_
            rintro e w1 ⟨rfl, hb1⟩
            have HB1 := Lib.hid hb1
            clear hb1
            go_wp2_with fail
            refine (HN1.out _).mono ?_
            rintro e w2 ⟨rfl, hb2⟩
            have HB2 := Lib.hid (thenB HB1.out hb2 HB1.out.size)
            clear hb2
            go_wp2_with fail
            refine (HN2.out _).mono ?_
            rintro e w3 ⟨rfl, hb3⟩
            have HB3 := Lib.hid (thenB HB2.out hb3 HB2.out.size)
            clear hb3
            go_wp2_with fail
            go_ret3
            exact ⟨rfl, HB3.out⟩
          · have q : ¬ (100 : Int) < (x : Int) := by omega
            by_cases y100 : 100 < y
            · have q2 : (100 : Int) < (y : Int) := by omega
              rw [show cntsV x (y : Int) (true && true) = (0, 0, 4) by unfold cntsV; rw [if_neg (by decide), if_pos (.inr (by omega))]]
              go_enter Tryd.func42, Tryd.ntmps42
              go_wp2_with fail
              refine HC.out.mono ?_
              rintro e w1 ⟨rfl, hb1⟩
              have HB1 := Lib.hid hb1
              clear hb1
              go_wp2_with fail
              refine (HN1.out _).mono ?_
              rintro e w2 ⟨rfl, hb2⟩
              have HB2 := Lib.hid (thenB HB1.out hb2 HB1.out.size)
              clear hb2
              go_wp2_with fail
              refine (HN2.out _).mono ?_
              rintro e w3 ⟨rfl, hb3⟩
              have HB3 := Lib.hid (thenB HB2.out hb3 HB2.out.size)
              clear hb3
              go_wp2_with fail
              go_ret3
              exact ⟨rfl, HB3.out⟩
            · have q2 : ¬ (100 : Int) < (y : Int) := by omega
              have q3 : ¬ (y : Int) = -1 := by omega
              by_cases hyx : y < x
              · have q4 : (y : Int) < (x : Int) := by omega
                rw [show cntsV x (y : Int) (true && true) = (0, 0, 3) by unfold cntsV; rw [if_neg (by decide), if_neg (by omega), if_pos (by omega)]]
                go_enter Tryd.func42, Tryd.ntmps42
                go_wp2_with fail
                refine HC.out.mono ?_
                rintro e w1 ⟨rfl, hb1⟩
                have HB1 := Lib.hid hb1
                clear hb1
                go_wp2_with fail
                refine (HN1.out _).mono ?_
                rintro e w2 ⟨rfl, hb2⟩
                have HB2 := Lib.hid (thenB HB1.out hb2 HB1.out.size)
                clear hb2
                go_wp2_with fail
                refine (HN2.out _).mono ?_
                rintro e w3 ⟨rfl, hb3⟩
                have HB3 := Lib.hid (thenB HB2.out hb3 HB2.out.size)
                clear hb3
                go_wp2_with fail
                go_ret3
                exact ⟨rfl, HB3.out⟩
              · have q4 : ¬ (y : Int) < (x : Int) := by omega
                rw [show cntsV x (y : Int) (true && true) = ((x : Int), (y : Int), (0 : Int)) by unfold cntsV; rw [if_neg (by decide), if_neg (by omega), if_neg (by omega)]]
                go_enter Tryd.func42, Tryd.ntmps42
                go_wp2_with fail
                refine HC.out.mono ?_
                rintro e w1 ⟨rfl, hb1⟩
                have HB1 := Lib.hid hb1
                clear hb1
                go_wp2_with fail
                refine (HN1.out _).mono ?_
                rintro e w2 ⟨rfl, hb2⟩
                have HB2 := Lib.hid (thenB HB1.out hb2 HB1.out.size)
                clear hb2
                go_wp2_with fail
                refine (HN2.out _).mono ?_
                rintro e w3 ⟨rfl, hb3⟩
                have HB3 := Lib.hid (thenB HB2.out hb3 HB2.out.size)
                clear hb3
                go_wp2_with fail
                go_ret3
                exact ⟨rfl, HB3.out⟩
end Go.Proofs.YtlcecblehffjiaaDoor
