/-
  Layer 10: the document's number is the library's.
-/
import Derived.Test.YtnapbmdbeihngaaDoorCapNumW
namespace Go.Proofs.YtnapbmdbeihngaaDoor
open Go.RowKit

theorem itS_size (n : Int) (h : I64 n) : (itS n).size ≤ 30 := by
  have hd : ∀ u : Nat, u < 18446744073709551616 → (Lib.decDigits u).length ≤ 20 := fun u hu => by
    rw [Lib.decDigits_length]
    by_cases h1 : 1 ≤ u
    · obtain ⟨e1, e2⟩ := Lib.numDigits_eq u h1 hu
      rw [← e1]
      split <;> omega
    · rw [show u = 0 by omega, Lib.nDigits_small (by decide)]; decide
  obtain ⟨h1, h2⟩ := h
  unfold itS Lib.itoa
  show (List.toArray _).size ≤ 30
  rw [List.size_toArray]
  split
  · have := hd n.natAbs (by omega)
    rw [List.length_cons]; omega
  · have := hd n.toNat (by omega)
    omega
theorem number_any : ∀ (m : Nat) (n : Int), n.natAbs < m → I64 n → NumC n (itS n)
  | 0, n, h, _ => absurd h (by omega)
  | m + 1, n, h, hn => by
    have ih := number_any m
    have hQ : (n.tdiv 10).natAbs = n.natAbs / 10 := by rw [Int.natAbs_tdiv]; rfl
    have hQ2 : I64 (n.tdiv 10) := by
      obtain ⟨h1, h2⟩ := hn
      unfold I64
      omega
    have hw : wrap64 (n.tdiv 10) = n.tdiv 10 := IntWalk.wrap64_in _ ⟨hQ2.1, hQ2.2⟩
    have hY : DgOk (dgN n) (dgS n) := ⟨rfl, strDg (dgN n) (dgN_lt n)⟩
    have ht := tmod_dg n
    by_cases h0 : n < 0
    · rw [if_pos h0] at ht
      by_cases hq : n.tdiv 10 = 0
      · have hd1 : 1 ≤ dgN n := by
          unfold dgN
          have : n.natAbs < 10 := by rw [hq] at hQ; simp at hQ; omega
          omega
        rw [itS_neg n hq h0]
        exact number_b n _ (dgN n) (dgS n) (dgN_lt n) hd1 hY (decide_eq_true h0) ht rfl hw (by rw [hq]; rfl)
      · have hX := itS_size _ hQ2
        have hC := Lib.hid (ih (n.tdiv 10) (by omega) hQ2)
        rw [itS_more n hq]
        by_cases hd1 : 1 ≤ dgN n
        · exact number_d n _ (dgN n) (dgS n) (dgN_lt n) hd1 hY _ (by omega) hC ht rfl hw (by simpa using hq)
        · refine number_c n _ (dgN n) (dgS n) (dgN_lt n) hY _ (by omega) hC ?_ rfl hw (by simpa using hq)
          rw [ht, show dgN n = 0 by omega]; rfl
    · rw [if_neg h0] at ht
      by_cases hq : n.tdiv 10 = 0
      · rw [itS_last n hq h0]
        exact number_a n _ (dgN n) (dgS n) (dgN_lt n) hY (decide_eq_false h0) ht rfl hw (by rw [hq]; rfl)
      · have hX := itS_size _ hQ2
        have hC := Lib.hid (ih (n.tdiv 10) (by omega) hQ2)
        rw [itS_more n hq]
        exact number_c n _ (dgN n) (dgS n) (dgN_lt n) hY _ (by omega) hC ht rfl hw (by simpa using hq)
theorem number_one (n : Int) (h : I64 n) : NumC n (itS n) := number_any (n.natAbs + 1) n (by omega) h
end Go.Proofs.YtnapbmdbeihngaaDoor
