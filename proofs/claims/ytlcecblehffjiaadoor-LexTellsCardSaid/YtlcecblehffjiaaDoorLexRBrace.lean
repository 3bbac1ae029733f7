/-
  Layer 6: what the document's answer does: braces.
-/
import Derived.Test.YtlcecblehffjiaaDoorLexRMem
namespace Go.Proofs.YtlcecblehffjiaaDoor
open Go.RowKit

theorem zero10 : #[.int .i64 0, .int .u64 0, .int .u64 0, .int .u64 0, .int .u64 0, .int .i64 0, .int .i64 0, .int .i64 0, .int .i64 0, .string ⟨#[]⟩] = tokC (tok0 0) := by simp [tokC, tok0, W_zero]; rfl
theorem ret_t {s t : Tok} {a b : Nat} {e f : Int} (h : s = t) (h2 : a = b) (h3 : e = f) : Ending.returned (.tuple #[tokV s, .int .i64 (a : Int), .int .i64 e]) = .returned (.tuple #[tokV t, .int .i64 (b : Int), .int .i64 f]) := by rw [h, h2, h3]
theorem count_up (p : ByteArray) (a : Nat) : (countZ p a).1 < 1000 ∧ a ≤ (countZ p a).2 ∧ (countZ p a).2 ≤ a + 3 ∧ (a ≤ p.size → (countZ p a).2 ≤ p.size) := by
  have hs : ∀ j, isD p j = true → j < p.size ∧ 48 ≤ bt p j ∧ bt p j ≤ 57 := fun j h => by
    have h2 := of_decide_eq_true h
    exact ⟨bt_in (by omega), h2⟩
  unfold countZ
  split
  · exact ⟨Nat.zero_lt_succ _, Nat.le_refl _, Nat.le_add_right _ _, fun h => h⟩
  · rename_i h0
    have h0 := hs a (by simpa using h0)
    split
    · refine ⟨?_, ?_, ?_, fun _ => ?_⟩ <;> simp only [] <;> omega
    · rename_i h1
      have h1 := hs (a + 1) (by simpa using h1)
      split
      · refine ⟨?_, ?_, ?_, fun _ => ?_⟩ <;> simp only [] <;> omega
      · rename_i h2
        have h2 := hs (a + 2) (by simpa using h2)
        refine ⟨?_, ?_, ?_, fun _ => ?_⟩ <;> simp only [] <;> omega
theorem count_z (p : ByteArray) (i : Nat) (z : Int) (w : World) (hp : p.size ≤ 1000000) (hz : z = i) (hi : i ≤ 2000000) : Calls Tryd.prog 73 #[.string p, .int .i64 z] w fun e w' => e = .returned (.tuple #[.int .i64 ((countZ p i).1 : Nat), .int .i64 ((countZ p i).2 : Nat)]) ∧ w = w' := by
  subst hz
  exact count_any p i w hp hi
theorem starts_b (p : ByteArray) (k : Nat) (z : Int) (c : UInt8) (w : World) (hp : p.size ≤ 1000000) (hz : z = k) (hk : k ≤ p.size) : Calls Tryd.prog 31 #[.string p, .int .i64 z, .string ⟨#[c]⟩] w fun e w' => e = .returned (.bool (bt p k == c.toNat)) ∧ w = w' := by
  subst hz
  exact starts1_any p k c w hp hk
/-- A repeat in braces, from what was read on. -/
def braceE (p : ByteArray) (a : Nat) (b : Int) (e : Nat) : TokR :=
  if bt p e ≠ 125 then wrongT 3 else if 100 < a ∨ 100 < b then wrongT 4 else if 0 ≤ b ∧ b < a then wrongT 3 else ({ tok0 16 with mn := a, mx := b }, e + 1, 0)
theorem brace_1 {p : ByteArray} {i : Nat} (h : (countZ p (i + 1)).2 = i + 1) : bracesZ p i = wrongT 3 := by
  unfold bracesZ
  simp only []
  rw [if_pos h]
theorem brace_2 {p : ByteArray} {i : Nat} (h : (countZ p (i + 1)).2 ≠ i + 1) (h2 : bt p (countZ p (i + 1)).2 ≠ 44) : bracesZ p i = braceE p (countZ p (i + 1)).1 (countZ p (i + 1)).1 (countZ p (i + 1)).2 := by
  unfold bracesZ
  simp only []
  rw [if_neg h, if_neg h2]
  rfl
theorem brace_3 {p : ByteArray} {i : Nat} (h : (countZ p (i + 1)).2 ≠ i + 1) (h2 : bt p (countZ p (i + 1)).2 = 44) : bracesZ p i = braceE p (countZ p (i + 1)).1 (if (countZ p ((countZ p (i + 1)).2 + 1)).2 = (countZ p (i + 1)).2 + 1 then -1 else ((countZ p ((countZ p (i + 1)).2 + 1)).1 : Int)) (countZ p ((countZ p (i + 1)).2 + 1)).2 := by
  unfold bracesZ
  simp only []
  rw [if_neg h, if_pos h2]
  rfl
theorem brE_1 {p : ByteArray} (a : Nat) (b : Int) {e : Nat} (h : bt p e ≠ 125) : braceE p a b e = wrongT 3 := by unfold braceE; rw [if_pos h]
theorem brE_2 {p : ByteArray} {a : Nat} {b : Int} {e : Nat} (h : bt p e = 125) (h2 : 100 < a ∨ 100 < b) : braceE p a b e = wrongT 4 := by unfold braceE; rw [if_neg (by omega), if_pos h2]
theorem brE_3 {p : ByteArray} {a : Nat} {b : Int} {e : Nat} (h : bt p e = 125) (h2 : ¬ (100 < a ∨ 100 < b)) (h3 : 0 ≤ b ∧ b < a) : braceE p a b e = wrongT 3 := by unfold braceE; rw [if_neg (by omega), if_neg h2, if_pos h3]
theorem brE_4 {p : ByteArray} {a : Nat} {b : Int} {e : Nat} (h : bt p e = 125) (h2 : ¬ (100 < a ∨ 100 < b)) (h3 : ¬ (0 ≤ b ∧ b < a)) : braceE p a b e = ({ tok0 16 with mn := a, mx := b }, e + 1, 0) := by unfold braceE; rw [if_neg (by omega), if_neg h2, if_neg h3]

set_option maxRecDepth 100000 in
set_option maxHeartbeats 16000000 in
theorem rbraces_any (p : ByteArray) (i : Nat) (w : World) (hp : p.size ≤ 1000000) (hi : i < p.size) : Calls Tryd.prog 60 #[.string p, .int .i64 (i : Int)] w fun e w' => e = .returned (.tuple #[tokV (bracesZ p i).1, .int .i64 ((bracesZ p i).2.1 : Nat), .int .i64 (bracesZ p i).2.2]) ∧ Below w.heap.size w w' := by
  have HCt := Lib.hid (fun (k : Nat) (z : Int) w (hz : z = k) (h : k ≤ 2000000) => count_z p k z w hp hz h)
  have HSt := Lib.hid (fun (k : Nat) (z : Int) (c : UInt8) w (hz : z = k) (h : k ≤ p.size) => starts_b p k z c w hp hz h)
  have H0 := Lib.hid (newR (w := w) (cs := #[.int .i64 0, .int .u64 0, .int .u64 0, .int .u64 0, .int .u64 0, .int .i64 0, .int .i64 0, .int .i64 0, .int .i64 0, .string ⟨#[]⟩]) (t := tok0 0) zero10)
  have HB := Lib.hid ((Below.refl _ w).alloc (Nat.le_refl _) (.cells #[.int .i64 0, .int .u64 0, .int .u64 0, .int .u64 0, .int .u64 0, .int .i64 0, .int .i64 0, .int .i64 0, .int .i64 0, .string ⟨#[]⟩] 61))
  have h1 := @brace_1 p i
  have h2 := @brace_2 p i
  have h3 := @brace_3 p i
  have hu := count_up p (i + 1)
  obtain ⟨A, hA⟩ : ∃ A, A = countZ p (i + 1) := ⟨_, rfl⟩
  have HA := Lib.hid hA
  rw [← hA] at h1 h2 h3 hu
  clear hA
  obtain ⟨a, e⟩ := A
  simp only [] at h1 h2 h3 hu
  have he := hu.2.2.2 (by omega)
  have hei := hu.2.1
  have ha := hu.1
  go_enter Tryd.func60, Tryd.ntmps60
  go_wp2_with fail
  with_reducible refine (HCt.out (i + 1) _ _ (by omega) (by omega)).mono ?_
  rw [← HA.out]
  rintro x wa ⟨rfl, rfl⟩
  simp only []
  by_cases c1 : e = i + 1
  · have q1 : ((e : Int) == (i : Int) + 1) = true := by simp; omega
    have HE2 := Lib.hid (h1 c1)
    clear h1 h2 h3 hu
    go_wp2_with (refine storeR rfl _ _ rfl w.heap.size (tok0 0) (tok0 0) rfl _ rfl (by simp [tokC, tok0, W_zero]; rfl) H0.out ?_)
    refine bodyPost_ret (resR3 (p := 4) (u := 5) (u2 := 6) (t := (tok0 0)) (v := .int .i64 0) (v2 := .int .i64 3) rfl _ (g := w.heap.size) rfl rfl rfl (H0.out.rowSame _)) rfl ?_
    refine ⟨?_, below_row HB.out (Nat.le_refl _) _⟩
    rw [HE2.out]
    rfl
  · have q1 : ((e : Int) == (i : Int) + 1) = false := by simp; omega
    go_wp2_with fail
    with_reducible refine (HSt.out e _ 44 _ rfl he).mono ?_
    rintro x wb ⟨rfl, rfl⟩
    cases hc : (bt p e == (44 : UInt8).toNat) with
    | false =>
      have hc' : bt p e ≠ 44 := by simpa using hc
      have HE := Lib.hid (h2 c1 hc')
      clear h1 h2 h3 hu
      go_wp2_with fail
      with_reducible refine (HSt.out e _ 125 _ rfl he).mono ?_
      rintro x wc ⟨rfl, rfl⟩
      cases hd : (bt p e == (125 : UInt8).toNat) with
      | false =>
        have hd' : bt p e ≠ 125 := by simpa using hd
        have HE2 := Lib.hid (HE.out.trans (brE_1 _ _ hd'))
        go_wp2_with (refine storeR rfl _ _ rfl w.heap.size (tok0 0) (tok0 0) rfl _ rfl (by simp [tokC, tok0, W_zero]; rfl) H0.out ?_)
        refine bodyPost_ret (resR3 (p := 4) (u := 5) (u2 := 6) (t := (tok0 0)) (v := .int .i64 0) (v2 := .int .i64 3) rfl _ (g := w.heap.size) rfl rfl rfl (H0.out.rowSame _)) rfl ?_
        refine ⟨?_, below_row HB.out (Nat.le_refl _) _⟩
        rw [HE2.out]
        rfl
      | true =>
        have hd' : bt p e = 125 := by simpa using hd
        by_cases g1 : 100 < a
        · have q1 : (a : Int) > 100 := by omega
          have HE2 := Lib.hid (HE.out.trans (brE_2 hd' (.inl g1)))
          go_wp2_with (refine storeR rfl _ _ rfl w.heap.size (tok0 0) (tok0 0) rfl _ rfl (by simp [tokC, tok0, W_zero]; rfl) H0.out ?_)
          refine bodyPost_ret (resR3 (p := 4) (u := 5) (u2 := 6) (t := (tok0 0)) (v := .int .i64 0) (v2 := .int .i64 4) rfl _ (g := w.heap.size) rfl rfl rfl (H0.out.rowSame _)) rfl ?_
          refine ⟨?_, below_row HB.out (Nat.le_refl _) _⟩
          rw [HE2.out]
          rfl
        · have q1 : ¬ (a : Int) > 100 := by omega
          have HE2 := Lib.hid (HE.out.trans (brE_4 hd' (by omega) (by omega)))
          have q2 : (a : Int) ≥ 0 := by omega
          have q3 : ¬ (a : Int) < (a : Int) := by omega
          go_wp2_with (refine storeR rfl _ _ rfl w.heap.size (tok0 0) { tok0 16 with mn := a, mx := a } rfl _ rfl (by simp [tokC, tok0, W_zero]; rfl) H0.out ?_)
          refine bodyPost_ret (resR3 (p := 4) (u := 5) (u2 := 6) (t := { tok0 16 with mn := a, mx := a }) (v := .int .i64 ((e : Int) + 1)) (v2 := .int .i64 0) rfl _ (g := w.heap.size) rfl rfl rfl (H0.out.rowSame _)) rfl ?_
          refine ⟨?_, below_row HB.out (Nat.le_refl _) _⟩
          rw [HE2.out]
          rfl
    | true =>
      have hc' : bt p e = 44 := by simpa using hc
      have h3 := h3 c1 hc'
      have hep : e < p.size := bt_in (by omega)
      have hv := count_up p (e + 1)
      obtain ⟨B, hB⟩ : ∃ B, B = countZ p (e + 1) := ⟨_, rfl⟩
      have HBB := Lib.hid hB
      rw [← hB] at h3 hv
      clear hB h1 h2 hu
      obtain ⟨n, e2⟩ := B
      simp only [] at h3 hv
      have he2 := hv.2.2.2 (by omega)
      have hei2 := hv.2.1
      have hn := hv.1
      clear hv
      go_wp2_with fail
      with_reducible refine (HCt.out (e + 1) _ _ (by omega) (by omega)).mono ?_
      rw [← HBB.out]
      rintro x wd ⟨rfl, rfl⟩
      simp only []
      by_cases c2 : e2 = e + 1
      · have q2 : ((e2 : Int) == (e : Int) + 1) = true := by simp; omega
        rw [if_pos c2] at h3
        have HE := Lib.hid h3
        clear h3
        go_wp2_with fail
        with_reducible refine (HSt.out e2 _ 125 _ (by omega) he2).mono ?_
        rintro x wc ⟨rfl, rfl⟩
        cases hd : (bt p e2 == (125 : UInt8).toNat) with
        | false =>
          have hd' : bt p e2 ≠ 125 := by simpa using hd
          have HE2 := Lib.hid (HE.out.trans (brE_1 _ _ hd'))
          go_wp2_with (refine storeR rfl _ _ rfl w.heap.size (tok0 0) (tok0 0) rfl _ rfl (by simp [tokC, tok0, W_zero]; rfl) H0.out ?_)
          refine bodyPost_ret (resR3 (p := 4) (u := 5) (u2 := 6) (t := (tok0 0)) (v := .int .i64 0) (v2 := .int .i64 3) rfl _ (g := w.heap.size) rfl rfl rfl (H0.out.rowSame _)) rfl ?_
          refine ⟨?_, below_row HB.out (Nat.le_refl _) _⟩
          rw [HE2.out]; subst c2
          rfl
        | true =>
          have hd' : bt p e2 = 125 := by simpa using hd
          by_cases g1 : 100 < a
          · have q1 : (a : Int) > 100 := by omega
            have HE2 := Lib.hid (HE.out.trans (brE_2 hd' (.inl g1)))
            go_wp2_with (refine storeR rfl _ _ rfl w.heap.size (tok0 0) (tok0 0) rfl _ rfl (by simp [tokC, tok0, W_zero]; rfl) H0.out ?_)
            refine bodyPost_ret (resR3 (p := 4) (u := 5) (u2 := 6) (t := (tok0 0)) (v := .int .i64 0) (v2 := .int .i64 4) rfl _ (g := w.heap.size) rfl rfl rfl (H0.out.rowSame _)) rfl ?_
            refine ⟨?_, below_row HB.out (Nat.le_refl _) _⟩
            rw [HE2.out]; subst c2
            rfl
          · have q1 : ¬ (a : Int) > 100 := by omega
            have HE2 := Lib.hid (HE.out.trans (brE_4 hd' (by omega) (by omega)))
            go_wp2_with (refine storeR rfl _ _ rfl w.heap.size (tok0 0) { tok0 16 with mn := a, mx := -1 } rfl _ rfl (by simp [tokC, tok0, W_zero]; rfl) H0.out ?_)
            refine bodyPost_ret (resR3 (p := 4) (u := 5) (u2 := 6) (t := { tok0 16 with mn := a, mx := -1 }) (v := .int .i64 ((e : Int) + 1 + 1)) (v2 := .int .i64 0) rfl _ (g := w.heap.size) rfl rfl rfl (H0.out.rowSame _)) rfl ?_
            refine ⟨?_, below_row HB.out (Nat.le_refl _) _⟩
            rw [HE2.out]; subst c2
            rfl
      · have q2 : ((e2 : Int) == (e : Int) + 1) = false := by simp; omega
        rw [if_neg c2] at h3
        have HE := Lib.hid h3
        clear h3
        go_wp2_with fail
        with_reducible refine (HSt.out e2 _ 125 _ rfl he2).mono ?_
        rintro x wc ⟨rfl, rfl⟩
        cases hd : (bt p e2 == (125 : UInt8).toNat) with
        | false =>
          have hd' : bt p e2 ≠ 125 := by simpa using hd
          have HE2 := Lib.hid (HE.out.trans (brE_1 _ _ hd'))
          go_wp2_with (refine storeR rfl _ _ rfl w.heap.size (tok0 0) (tok0 0) rfl _ rfl (by simp [tokC, tok0, W_zero]; rfl) H0.out ?_)
          refine bodyPost_ret (resR3 (p := 4) (u := 5) (u2 := 6) (t := (tok0 0)) (v := .int .i64 0) (v2 := .int .i64 3) rfl _ (g := w.heap.size) rfl rfl rfl (H0.out.rowSame _)) rfl ?_
          refine ⟨?_, below_row HB.out (Nat.le_refl _) _⟩
          rw [HE2.out]
          rfl
        | true =>
          have hd' : bt p e2 = 125 := by simpa using hd
          by_cases g1 : 100 < a
          · have q1 : (a : Int) > 100 := by omega
            have HE2 := Lib.hid (HE.out.trans (brE_2 hd' (.inl g1)))
            go_wp2_with (refine storeR rfl _ _ rfl w.heap.size (tok0 0) (tok0 0) rfl _ rfl (by simp [tokC, tok0, W_zero]; rfl) H0.out ?_)
            refine bodyPost_ret (resR3 (p := 4) (u := 5) (u2 := 6) (t := (tok0 0)) (v := .int .i64 0) (v2 := .int .i64 4) rfl _ (g := w.heap.size) rfl rfl rfl (H0.out.rowSame _)) rfl ?_
            refine ⟨?_, below_row HB.out (Nat.le_refl _) _⟩
            rw [HE2.out]
            rfl
          · have q1 : ¬ (a : Int) > 100 := by omega
            by_cases g2 : 100 < n
            · have q2 : (n : Int) > 100 := by omega
              have HE2 := Lib.hid (HE.out.trans (brE_2 hd' (.inr (by omega))))
              go_wp2_with (refine storeR rfl _ _ rfl w.heap.size (tok0 0) (tok0 0) rfl _ rfl (by simp [tokC, tok0, W_zero]; rfl) H0.out ?_)
              refine bodyPost_ret (resR3 (p := 4) (u := 5) (u2 := 6) (t := (tok0 0)) (v := .int .i64 0) (v2 := .int .i64 4) rfl _ (g := w.heap.size) rfl rfl rfl (H0.out.rowSame _)) rfl ?_
              refine ⟨?_, below_row HB.out (Nat.le_refl _) _⟩
              rw [HE2.out]
              rfl
            · have q2 : ¬ (n : Int) > 100 := by omega
              have q4 : (n : Int) ≥ 0 := by omega
              by_cases g3 : n < a
              · have q3 : (n : Int) < (a : Int) := by omega
                have HE2 := Lib.hid (HE.out.trans (brE_3 hd' (by omega) ⟨by omega, by omega⟩))
                go_wp2_with (refine storeR rfl _ _ rfl w.heap.size (tok0 0) (tok0 0) rfl _ rfl (by simp [tokC, tok0, W_zero]; rfl) H0.out ?_)
                refine bodyPost_ret (resR3 (p := 4) (u := 5) (u2 := 6) (t := (tok0 0)) (v := .int .i64 0) (v2 := .int .i64 3) rfl _ (g := w.heap.size) rfl rfl rfl (H0.out.rowSame _)) rfl ?_
                refine ⟨?_, below_row HB.out (Nat.le_refl _) _⟩
                rw [HE2.out]
                rfl
              · have q3 : ¬ (n : Int) < (a : Int) := by omega
                have HE2 := Lib.hid (HE.out.trans (brE_4 hd' (by omega) (by omega)))
                go_wp2_with (refine storeR rfl _ _ rfl w.heap.size (tok0 0) { tok0 16 with mn := a, mx := n } rfl _ rfl (by simp [tokC, tok0, W_zero]; rfl) H0.out ?_)
                refine bodyPost_ret (resR3 (p := 4) (u := 5) (u2 := 6) (t := { tok0 16 with mn := a, mx := n }) (v := .int .i64 ((e2 : Int) + 1)) (v2 := .int .i64 0) rfl _ (g := w.heap.size) rfl rfl rfl (H0.out.rowSame _)) rfl ?_
                refine ⟨?_, below_row HB.out (Nat.le_refl _) _⟩
                rw [HE2.out]
                rfl
end Go.Proofs.YtlcecblehffjiaaDoor
