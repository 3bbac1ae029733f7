/-
  Layer 6: what the document's answer does: flags.
-/
import Derived.Test.YtlcecblehffjiaaDoorLexRBrace
namespace Go.Proofs.YtlcecblehffjiaaDoor
open Go.RowKit

theorem strF (w : World) (b : UInt8) : (convert 43 9 (.slice (some ⟨w.heap.size, 0, none⟩) 1 1)).run Tryd.prog (w.alloc (.cells #[.int .u8 (b.toNat : Int)] 5)) = .ok (.string ⟨#[b]⟩) (w.alloc (.cells #[.int .u8 (b.toNat : Int)] 5)) := by
  have h := run_convert_bytes_back (P := Tryd.prog) (w.alloc (.cells #[.int .u8 (b.toNat : Int)] 5)) 43 9 5 ⟨w.heap.size, 0, none⟩ 1 [b] Tryd.underlying43 Tryd.underlying5 Tryd.underlying9 (fun j hj => by
    obtain rfl : j = 0 := by simpa using hj
    rw [Addr.add_lit]
    unfold World.cell?
    rw [heap_alloc_new]
    simp)
  exact h
theorem flg_app (A : List UInt8) (b : UInt8) : (⟨A.toArray⟩ : ByteArray) ++ ⟨#[b]⟩ = ⟨(A ++ [b]).toArray⟩ := by
  apply ByteArray.ext
  simp
/-- The flags so far. -/
structure FlgI (p S : ByteArray) (i k : Nat) : Prop where
  sz : S.size ≤ k
  z : ∃ f, p.size < f + k ∧ flagsF p (p.size + 1) (i + 2) [] = flagsF p f k S.data.toList
theorem flg_0 (p : ByteArray) (i : Nat) : FlgI p ⟨#[]⟩ i (i + 2) := ⟨Nat.zero_le _, p.size + 1, by omega, rfl⟩
section
variable {p S : ByteArray} {i k : Nat}
theorem flg_end (h : FlgI p S i k) (hk : ¬ k < p.size) : flagsF p (p.size + 1) (i + 2) [] = wrongT 3 := by
  obtain ⟨f, hf, he⟩ := h.z
  rw [he]
  cases f with
  | zero => rfl
  | succ f =>
    unfold flagsF
    rw [dif_neg hk]
theorem flg_colon (h : FlgI p S i k) (hk : k < p.size) (hc : ((p[k]'hk).toNat : Int) = 58) (hs : S.size ≠ 0) : flagsF p (p.size + 1) (i + 2) [] = ({ tok0 14 with f := S }, k + 1, 0) := by
  obtain ⟨f, hf, he⟩ := h.z
  rw [he]
  cases f with
  | zero => omega
  | succ f =>
    unfold flagsF
    rw [dif_pos hk, if_pos ⟨by rw [bt_at hk]; omega, fun h0 => hs (by show S.data.size = 0; rw [← Array.length_toList, h0]; rfl)⟩]
theorem flg_bad (h : FlgI p S i k) (hk : k < p.size) (hc : ((p[k]'hk).toNat : Int) ≠ 58 ∨ S.size = 0) (h5 : ((p[k]'hk).toNat : Int) ≠ 105) (h9 : ((p[k]'hk).toNat : Int) ≠ 109) (hf5 : ((p[k]'hk).toNat : Int) ≠ 115) : flagsF p (p.size + 1) (i + 2) [] = wrongT 3 := by
  obtain ⟨f, hf, he⟩ := h.z
  rw [he]
  cases f with
  | zero => omega
  | succ f =>
    unfold flagsF
    rw [dif_pos hk, if_neg (fun hh => by
      rcases hc with hc | hc
      · exact hc (by have := hh.1; rw [bt_at hk] at this; omega)
      · exact hh.2 (by apply List.eq_nil_of_length_eq_zero; rw [Array.length_toList]; exact hc)), if_pos (by rw [bt_at hk]; omega)]
theorem flg_twice (h : FlgI p S i k) (hk : k < p.size) (h5 : ((p[k]'hk).toNat : Int) = 105 ∨ ((p[k]'hk).toNat : Int) = 109 ∨ ((p[k]'hk).toNat : Int) = 115) {j : Nat} (hj : j < S.size) (he : ((S[j]'hj).toNat : Int) = ((p[k]'hk).toNat : Int)) : flagsF p (p.size + 1) (i + 2) [] = wrongT 3 := by
  obtain ⟨f, hf, hz⟩ := h.z
  rw [hz]
  cases f with
  | zero => omega
  | succ f =>
    unfold flagsF
    rw [dif_pos hk, if_neg (fun hh => by have := hh.1; rw [bt_at hk] at this; omega), if_neg (by rw [bt_at hk]; omega), if_pos (by
      have hb : S[j]'hj = p[k]'hk := UInt8.toNat_inj.1 (by omega)
      rw [← hb]
      exact Array.mem_toList_iff.2 (Array.getElem_mem hj))]
theorem flg_next (h : FlgI p S i k) (hk : k < p.size) (h5 : ((p[k]'hk).toNat : Int) = 105 ∨ ((p[k]'hk).toNat : Int) = 109 ∨ ((p[k]'hk).toNat : Int) = 115) (hn : ∀ j (hj : j < S.size), ¬ ((S[j]'hj).toNat : Int) = ((p[k]'hk).toNat : Int)) : FlgI p (S ++ ⟨#[p[k]'hk]⟩) i (k + 1) := by
  obtain ⟨f, hf, hz⟩ := h.z
  refine ⟨by rw [ByteArray.size_append]; have := h.sz; show S.size + 1 ≤ k + 1; omega, ?_⟩
  cases f with
  | zero => omega
  | succ f =>
    refine ⟨f, by omega, ?_⟩
    rw [hz]
    conv => lhs; unfold flagsF
    rw [dif_pos hk, if_neg (fun hh => by have := hh.1; rw [bt_at hk] at this; omega), if_neg (by rw [bt_at hk]; omega), if_neg (by
      intro hm
      obtain ⟨j, hj, he⟩ := Array.mem_iff_getElem.1 (Array.mem_toList_iff.1 hm)
      exact hn j hj (by have : S[j]'hj = p[k]'hk := he; rw [this]))]
    congr 1
end
/-- The boxes of the call. -/
structure FlgW (w wr : World) : Prop where
  r : BoxT 61 wr w.heap.size (tok0 0)
  b : Below w.heap.size w wr
theorem FlgW.call {w wr u : World} (h : FlgW w wr) (hb : Below wr.heap.size wr u) : FlgW w u := ⟨h.r.below hb h.r.lt, thenB h.b hb h.b.size⟩

set_option maxRecDepth 100000 in
set_option maxHeartbeats 16000000 in
theorem rflags_any (p : ByteArray) (i : Nat) (w : World) (hp : p.size ≤ 1000000) (hi : i + 2 ≤ p.size) : Calls Tryd.prog 45 #[.string p, .int .i64 (i : Int)] w fun e w' => e = .returned (.tuple #[tokV (flagsF p (p.size + 1) (i + 2) []).1, .int .i64 ((flagsF p (p.size + 1) (i + 2) []).2.1 : Nat), .int .i64 (flagsF p (p.size + 1) (i + 2) []).2.2]) ∧ Below w.heap.size w w' := by
  have H0 : Hid (FlgW w (w.alloc (.cells #[.int .i64 0, .int .u64 0, .int .u64 0, .int .u64 0, .int .u64 0, .int .i64 0, .int .i64 0, .int .i64 0, .int .i64 0, .string ⟨#[]⟩] 61))) := Lib.hid ⟨newR zero10, (Below.refl _ w).alloc (Nat.le_refl _) _⟩
  have HF0 := Lib.hid (flg_0 p i)
  obtain ⟨R, hR⟩ : ∃ R, R = flagsF p (p.size + 1) (i + 2) [] := ⟨_, rfl⟩
  rw [← hR]
  have HR := Lib.hid hR
  clear hR
  obtain ⟨a, ha⟩ : ∃ a, a = i + 2 := ⟨_, rfl⟩
  rw [← ha] at HF0 hi
  have haz : (i : Int) + 2 = (a : Int) := by omega
  clear ha
  go_enter Tryd.func45, Tryd.ntmps45
  go_wp2_with fail
  clear haz
  generalize w.alloc _ = W0 at H0 ⊢
  go_loopw [7, 8] (fun s7 s8 wr => ∃ (k : Nat) (S : ByteArray), s7 = .string S ∧ s8 = .int .i64 k ∧ k ≤ p.size ∧ FlgI p S i k ∧ FlgW w wr) (fun _ s8 _ => p.size - (intOf s8).toNat)
  case atStart => exact ⟨a, ⟨#[]⟩, rfl, rfl, hi, HF0.out, H0.out⟩
  case round =>
    obtain ⟨k, S, rfl, rfl, hkp, hI, hW⟩ := hrel
    have HI := Lib.hid hI
    have HW := Lib.hid hW
    have hS : S.size ≤ k := hI.sz
    clear hI hW H0 HF0
    by_cases hk : k < p.size
    · have kk : (k : Int) < (p.size : Int) := by omega
      have HE := Lib.hid (@flg_colon p S i k HI.out hk)
      have HB := Lib.hid (@flg_bad p S i k HI.out hk)
      have HT := Lib.hid (@flg_twice p S i k HI.out hk)
      have HN := Lib.hid (@flg_next p S i k HI.out hk)
      obtain ⟨C, hC⟩ : ∃ C : ByteArray, C = ⟨#[p[k]'hk]⟩ := ⟨_, rfl⟩
      rw [← hC] at HN
      have hC1 : C.size = 1 := by rw [hC]; rfl
      have HS1 := Lib.hid (fun w => strF w (p[k]'hk))
      rw [← hC] at HS1
      clear hC
      by_cases h58 : ((p[k]'hk).toNat : Int) = 58
      · have q1 : (((p[k]'hk).toNat : Int) == 58) = true := by simp [h58]
        by_cases hs0 : S.size = 0
        · have q2 : S.toList.isEmpty = true := by
            have : S = ⟨#[]⟩ := ByteArray.ext (Array.eq_empty_of_size_eq_zero hs0)
            rw [ByteArray.toList_eq, this]; rfl
          have HB2 := Lib.hid (HB.out (.inr hs0) (by omega) (by omega) (by omega))
          have q3 : (((p[k]'hk).toNat : Int) != 105) = true := by simp; omega
          have q4 : (((p[k]'hk).toNat : Int) != 109) = true := by simp; omega
          have q5 : (((p[k]'hk).toNat : Int) != 115) = true := by simp; omega
          clear h58 hs0 hC1
          go_wp2_with (refine storeR rfl _ _ rfl w.heap.size (tok0 0) (tok0 0) rfl _ rfl zero10 HW.out.r ?_)
          refine bodyPost_ret (resR3 (p := 4) (u := 5) (u2 := 6) (t := tok0 0) (v := .int .i64 0) (v2 := .int .i64 3) rfl _ (g := w.heap.size) rfl rfl rfl (HW.out.r.rowSame _)) rfl ?_
          refine ⟨?_, below_row HW.out.b (Nat.le_refl _) _⟩
          rw [HR.out, HB2.out]
          rfl
        · have q2 : S.toList.isEmpty = false := by
            rw [ByteArray.toList_eq, List.isEmpty_eq_false_iff]
            intro h2
            exact hs0 (by show S.data.size = 0; rw [← Array.length_toList, h2]; rfl)
          have HE2 := Lib.hid (HE.out h58 hs0)
          clear h58 hs0 hC1
          go_wp2_with (refine storeR rfl _ _ rfl w.heap.size (tok0 0) { tok0 14 with f := S } rfl _ rfl (by simp [tokC, tok0, W_zero]) HW.out.r ?_)
          refine bodyPost_ret (resR3 (p := 4) (u := 5) (u2 := 6) (t := { tok0 14 with f := S }) (v := .int .i64 ((k : Int) + 1)) (v2 := .int .i64 0) rfl _ (g := w.heap.size) rfl rfl rfl (HW.out.r.rowSame _)) rfl ?_
          refine ⟨?_, below_row HW.out.b (Nat.le_refl _) _⟩
          rw [HR.out, HE2.out]
          rfl
      · have q1 : (((p[k]'hk).toNat : Int) == 58) = false := by simp; omega
        by_cases hf : ((p[k]'hk).toNat : Int) = 105 ∨ ((p[k]'hk).toNat : Int) = 109 ∨ ((p[k]'hk).toNat : Int) = 115
        · have HT2 := Lib.hid (fun j hj he => HT.out hf (j := j) hj he)
          have HN2 := Lib.hid (HN.out hf)
          have hsum : ¬ S.size + C.size > 9223372036854775807 := by omega
          have hkp2 : (k : Int) + 1 ≤ 1000001 := by omega
          clear HT HN HB HE h58 hC1
          rcases hf with h105 | h109 | h115
          · have q3 : (((p[k]'hk).toNat : Int) != 105) = false := by simp [h105]
            clear h105
            go_wp2_with fail
            go_loopw [10] (fun s10 wr => ∃ j : Nat, s10 = .int .i64 j ∧ j ≤ S.size ∧ (∀ m (hm : m < S.size), m < j → ¬ ((S[m]'hm).toNat : Int) = ((p[k]'hk).toNat : Int)) ∧ FlgW w wr) (fun s10 _ => S.size - (intOf s10).toNat)
            case atStart => exact ⟨0, rfl, Nat.zero_le _, fun m _ h => absurd h (Nat.not_lt_zero m), HW.out⟩
            case round =>
              obtain ⟨j, rfl, hjs, hmm, hW2⟩ := hrel
              have HMM := Lib.hid hmm
              have HW2 := Lib.hid hW2
              clear hmm hW2 HW
              have HW := HW2
              clear HW2
              by_cases hj : j < S.size
              · have jj : (j : Int) < (S.size : Int) := by omega
                by_cases hx : ((S[j]'hj).toNat : Int) = ((p[k]'hk).toNat : Int)
                · have HT3 := Lib.hid (HT2.out j hj hx)
                  go_wp2_with (refine storeR rfl _ _ rfl w.heap.size (tok0 0) (tok0 0) rfl _ rfl zero10 HW.out.r ?_)
                  refine bodyPost_ret (resR3 (p := 4) (u := 5) (u2 := 6) (t := tok0 0) (v := .int .i64 0) (v2 := .int .i64 3) rfl _ (g := w.heap.size) rfl rfl rfl (HW.out.r.rowSame _)) rfl ?_
                  refine ⟨?_, below_row HW.out.b (Nat.le_refl _) _⟩
                  rw [HR.out, HT3.out]
                  rfl
                · have HXX := Lib.hid hx
                  have q6 : (((S[j]'hj).toNat : Int) == ((p[k]'hk).toNat : Int)) = false := by simpa using hx
                  clear hx
                  go_wp2_with fail
                  have hx := HXX.out
                  have hmm2 : ∀ m (hm : m < S.size), m < j + 1 → ¬ ((S[m]'hm).toNat : Int) = ((p[k]'hk).toNat : Int) := fun m hm h => by
                    by_cases h2 : m = j
                    · subst h2; exact hx
                    · exact HMM.out m hm (by omega)
                  go_roundw
                  case rel => exact ⟨j + 1, by go_num, by omega, hmm2, HW.out⟩
                  case measure => simp [intOf]; omega
              · have jj : ¬ (j : Int) < (S.size : Int) := by omega
                have HN3 := Lib.hid (HN2.out (fun m hm => HMM.out m hm (by omega)))
                have hs1 := HS1.out wr
                have HW3 := Lib.hid (HW.out.call ((Below.refl _ wr).alloc (Nat.le_refl _) (.cells #[.int .u8 ((p[k]'hk).toNat : Int)] 5)))
                go_wp2_with fail
                go_roundw
                case rel => exact ⟨k + 1, S ++ C, rfl, by go_num, by omega, HN3.out, HW3.out⟩
                case measure => simp [intOf]; omega
          · have q3 : (((p[k]'hk).toNat : Int) != 105) = true := by simp [h109]
            have q4 : (((p[k]'hk).toNat : Int) != 109) = false := by simp [h109]
            clear h109
            go_wp2_with fail
            go_loopw [10] (fun s10 wr => ∃ j : Nat, s10 = .int .i64 j ∧ j ≤ S.size ∧ (∀ m (hm : m < S.size), m < j → ¬ ((S[m]'hm).toNat : Int) = ((p[k]'hk).toNat : Int)) ∧ FlgW w wr) (fun s10 _ => S.size - (intOf s10).toNat)
            case atStart => exact ⟨0, rfl, Nat.zero_le _, fun m _ h => absurd h (Nat.not_lt_zero m), HW.out⟩
            case round =>
              obtain ⟨j, rfl, hjs, hmm, hW2⟩ := hrel
              have HMM := Lib.hid hmm
              have HW2 := Lib.hid hW2
              clear hmm hW2 HW
              have HW := HW2
              clear HW2
              by_cases hj : j < S.size
              · have jj : (j : Int) < (S.size : Int) := by omega
                by_cases hx : ((S[j]'hj).toNat : Int) = ((p[k]'hk).toNat : Int)
                · have HT3 := Lib.hid (HT2.out j hj hx)
                  go_wp2_with (refine storeR rfl _ _ rfl w.heap.size (tok0 0) (tok0 0) rfl _ rfl zero10 HW.out.r ?_)
                  refine bodyPost_ret (resR3 (p := 4) (u := 5) (u2 := 6) (t := tok0 0) (v := .int .i64 0) (v2 := .int .i64 3) rfl _ (g := w.heap.size) rfl rfl rfl (HW.out.r.rowSame _)) rfl ?_
                  refine ⟨?_, below_row HW.out.b (Nat.le_refl _) _⟩
                  rw [HR.out, HT3.out]
                  rfl
                · have HXX := Lib.hid hx
                  have q6 : (((S[j]'hj).toNat : Int) == ((p[k]'hk).toNat : Int)) = false := by simpa using hx
                  clear hx
                  go_wp2_with fail
                  have hx := HXX.out
                  have hmm2 : ∀ m (hm : m < S.size), m < j + 1 → ¬ ((S[m]'hm).toNat : Int) = ((p[k]'hk).toNat : Int) := fun m hm h => by
                    by_cases h2 : m = j
                    · subst h2; exact hx
                    · exact HMM.out m hm (by omega)
                  go_roundw
                  case rel => exact ⟨j + 1, by go_num, by omega, hmm2, HW.out⟩
                  case measure => simp [intOf]; omega
              · have jj : ¬ (j : Int) < (S.size : Int) := by omega
                have HN3 := Lib.hid (HN2.out (fun m hm => HMM.out m hm (by omega)))
                have hs1 := HS1.out wr
                have HW3 := Lib.hid (HW.out.call ((Below.refl _ wr).alloc (Nat.le_refl _) (.cells #[.int .u8 ((p[k]'hk).toNat : Int)] 5)))
                go_wp2_with fail
                go_roundw
                case rel => exact ⟨k + 1, S ++ C, rfl, by go_num, by omega, HN3.out, HW3.out⟩
                case measure => simp [intOf]; omega
          · have q3 : (((p[k]'hk).toNat : Int) != 105) = true := by simp [h115]
            have q4 : (((p[k]'hk).toNat : Int) != 109) = true := by simp [h115]
            have q5 : (((p[k]'hk).toNat : Int) != 115) = false := by simp [h115]
            clear h115
            go_wp2_with fail
            go_loopw [10] (fun s10 wr => ∃ j : Nat, s10 = .int .i64 j ∧ j ≤ S.size ∧ (∀ m (hm : m < S.size), m < j → ¬ ((S[m]'hm).toNat : Int) = ((p[k]'hk).toNat : Int)) ∧ FlgW w wr) (fun s10 _ => S.size - (intOf s10).toNat)
            case atStart => exact ⟨0, rfl, Nat.zero_le _, fun m _ h => absurd h (Nat.not_lt_zero m), HW.out⟩
            case round =>
              obtain ⟨j, rfl, hjs, hmm, hW2⟩ := hrel
              have HMM := Lib.hid hmm
              have HW2 := Lib.hid hW2
              clear hmm hW2 HW
              have HW := HW2
              clear HW2
              by_cases hj : j < S.size
              · have jj : (j : Int) < (S.size : Int) := by omega
                by_cases hx : ((S[j]'hj).toNat : Int) = ((p[k]'hk).toNat : Int)
                · have HT3 := Lib.hid (HT2.out j hj hx)
                  go_wp2_with (refine storeR rfl _ _ rfl w.heap.size (tok0 0) (tok0 0) rfl _ rfl zero10 HW.out.r ?_)
                  refine bodyPost_ret (resR3 (p := 4) (u := 5) (u2 := 6) (t := tok0 0) (v := .int .i64 0) (v2 := .int .i64 3) rfl _ (g := w.heap.size) rfl rfl rfl (HW.out.r.rowSame _)) rfl ?_
                  refine ⟨?_, below_row HW.out.b (Nat.le_refl _) _⟩
                  rw [HR.out, HT3.out]
                  rfl
                · have HXX := Lib.hid hx
                  have q6 : (((S[j]'hj).toNat : Int) == ((p[k]'hk).toNat : Int)) = false := by simpa using hx
                  clear hx
                  go_wp2_with fail
                  have hx := HXX.out
                  have hmm2 : ∀ m (hm : m < S.size), m < j + 1 → ¬ ((S[m]'hm).toNat : Int) = ((p[k]'hk).toNat : Int) := fun m hm h => by
                    by_cases h2 : m = j
                    · subst h2; exact hx
                    · exact HMM.out m hm (by omega)
                  go_roundw
                  case rel => exact ⟨j + 1, by go_num, by omega, hmm2, HW.out⟩
                  case measure => simp [intOf]; omega
              · have jj : ¬ (j : Int) < (S.size : Int) := by omega
                have HN3 := Lib.hid (HN2.out (fun m hm => HMM.out m hm (by omega)))
                have hs1 := HS1.out wr
                have HW3 := Lib.hid (HW.out.call ((Below.refl _ wr).alloc (Nat.le_refl _) (.cells #[.int .u8 ((p[k]'hk).toNat : Int)] 5)))
                go_wp2_with fail
                go_roundw
                case rel => exact ⟨k + 1, S ++ C, rfl, by go_num, by omega, HN3.out, HW3.out⟩
                case measure => simp [intOf]; omega
        · have q3 : (((p[k]'hk).toNat : Int) != 105) = true := by simp; omega
          have q4 : (((p[k]'hk).toNat : Int) != 109) = true := by simp; omega
          have q5 : (((p[k]'hk).toNat : Int) != 115) = true := by simp; omega
          have HB2 := Lib.hid (HB.out (.inl h58) (by omega) (by omega) (by omega))
          clear h58 hf hC1
          go_wp2_with (refine storeR rfl _ _ rfl w.heap.size (tok0 0) (tok0 0) rfl _ rfl zero10 HW.out.r ?_)
          refine bodyPost_ret (resR3 (p := 4) (u := 5) (u2 := 6) (t := tok0 0) (v := .int .i64 0) (v2 := .int .i64 3) rfl _ (g := w.heap.size) rfl rfl rfl (HW.out.r.rowSame _)) rfl ?_
          refine ⟨?_, below_row HW.out.b (Nat.le_refl _) _⟩
          rw [HR.out, HB2.out]
          rfl
    · have kk : ¬ (k : Int) < (p.size : Int) := by omega
      have HE := Lib.hid (flg_end HI.out hk)
      go_wp2_with (refine storeR rfl _ _ rfl w.heap.size (tok0 0) (tok0 0) rfl _ rfl zero10 HW.out.r ?_)
      refine bodyPost_ret (resR3 (p := 4) (u := 5) (u2 := 6) (t := tok0 0) (v := .int .i64 0) (v2 := .int .i64 3) rfl _ (g := w.heap.size) rfl rfl rfl (HW.out.r.rowSame _)) rfl ?_
      refine ⟨?_, below_row HW.out.b (Nat.le_refl _) _⟩
      rw [HR.out, HE.out]
      rfl
end Go.Proofs.YtlcecblehffjiaaDoor
