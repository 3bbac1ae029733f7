/-
  Layer 6, a repeat that is written in braces: mathematics, and the statement's own digits.
-/
import Derived.Test.YtlcecblehffjiaaDoorLexToks
namespace Go.Proofs.YtlcecblehffjiaaDoor
open Go.RowKit

theorem bt_of_list (l : List UInt8) (i : Nat) : bt ⟨l.toArray⟩ i = (l[i]?.map (·.toNat)).getD 256 := by
  have hz : (ByteArray.mk l.toArray).size = l.length := List.size_toArray
  unfold bt
  by_cases h : i < l.length
  · rw [dif_pos (by rw [hz]; exact h), List.getElem?_eq_getElem h]
    rfl
  · rw [dif_neg (by rw [hz]; exact h), List.getElem?_eq_none (by omega)]
    rfl
theorem bt_app (A B : List UInt8) (j : Nat) : bt ⟨(A ++ B).toArray⟩ (A.length + j) = bt ⟨B.toArray⟩ j := by
  rw [bt_of_list, bt_of_list, List.getElem?_append_right (by omega), Nat.add_sub_cancel_left]
theorem isD_app (A B : List UInt8) (j : Nat) : isD ⟨(A ++ B).toArray⟩ (A.length + j) = isD ⟨B.toArray⟩ j := by
  unfold isD
  rw [bt_app]
theorem count_app (A B : List UInt8) : countZ ⟨(A ++ B).toArray⟩ A.length = ((countZ ⟨B.toArray⟩ 0).1, A.length + (countZ ⟨B.toArray⟩ 0).2) := by
  have h0 : isD ⟨(A ++ B).toArray⟩ A.length = isD ⟨B.toArray⟩ 0 := isD_app A B 0
  have b0 : bt ⟨(A ++ B).toArray⟩ A.length = bt ⟨B.toArray⟩ 0 := bt_app A B 0
  unfold countZ
  rw [h0, isD_app, isD_app, b0, bt_app, bt_app]
  (repeat' split) <;> first | rfl | (exfalso; simp_all; done)
/-- A number below 1000 as text. -/
def dgL (n : Nat) : List UInt8 := if n < 10 then [(48 + n).toUInt8] else if n < 100 then [(48 + n / 10).toUInt8, (48 + n % 10).toUInt8] else [(48 + n / 100).toUInt8, (48 + n / 10 % 10).toUInt8, (48 + n % 10).toUInt8]
theorem dg_byte {d : Nat} (h : d < 10) : ((48 + d).toUInt8).toNat = 48 + d := by simp; omega
theorem count_dg {n : Nat} (hn : n < 1000) {r : List UInt8} (hr : isD ⟨r.toArray⟩ 0 = false) : countZ ⟨(dgL n ++ r).toArray⟩ 0 = (n, (dgL n).length) := by
  have hr' (A : List UInt8) : isD ⟨(A ++ r).toArray⟩ A.length = false := (isD_app A r 0).trans hr
  have yes {l : List UInt8} {i d : Nat} (h : l[i]? = some (48 + d).toUInt8) (hd : d < 10) : isD ⟨l.toArray⟩ i = true ∧ bt ⟨l.toArray⟩ i = 48 + d := by
    have hb : bt ⟨l.toArray⟩ i = 48 + d := by
      rw [bt_of_list, h]
      exact dg_byte hd
    refine ⟨?_, hb⟩
    unfold isD
    rw [hb]
    exact decide_eq_true (by omega)
  unfold dgL
  split
  · rename_i h
    have y0 := yes (l := [(48 + n).toUInt8] ++ r) (i := 0) (d := n) rfl h
    have n1 := hr' [(48 + n).toUInt8]
    unfold countZ
    rw [if_neg (by rw [y0.1]; decide), if_pos (show isD _ (0 + 1) = false from n1), y0.2]
    simp
  · split
    · have y0 := yes (l := [(48 + n / 10).toUInt8, (48 + n % 10).toUInt8] ++ r) (i := 0) (d := n / 10) rfl (by omega)
      have y1 := yes (l := [(48 + n / 10).toUInt8, (48 + n % 10).toUInt8] ++ r) (i := 1) (d := n % 10) rfl (by omega)
      have n1 := hr' [(48 + n / 10).toUInt8, (48 + n % 10).toUInt8]
      unfold countZ
      rw [if_neg (by rw [y0.1]; decide), if_neg (by rw [y1.1]; decide), if_pos (show isD _ (0 + 2) = false from n1), y0.2, y1.2]
      simp
      omega
    · have y0 := yes (l := [(48 + n / 100).toUInt8, (48 + n / 10 % 10).toUInt8, (48 + n % 10).toUInt8] ++ r) (i := 0) (d := n / 100) rfl (by omega)
      have y1 := yes (l := [(48 + n / 100).toUInt8, (48 + n / 10 % 10).toUInt8, (48 + n % 10).toUInt8] ++ r) (i := 1) (d := n / 10 % 10) rfl (by omega)
      have y2 := yes (l := [(48 + n / 100).toUInt8, (48 + n / 10 % 10).toUInt8, (48 + n % 10).toUInt8] ++ r) (i := 2) (d := n % 10) rfl (by omega)
      unfold countZ
      rw [if_neg (by rw [y0.1]; decide), if_neg (by rw [y1.1]; decide), if_neg (by rw [y2.1]; decide), y0.2, y1.2, y2.2]
      simp
      omega
theorem dg_len (n : Nat) : 1 ≤ (dgL n).length ∧ (dgL n).length ≤ 3 := by unfold dgL; (repeat' split) <;> simp
/-- How a repeat goes, as text. -/
def mdL (k : Nat) : List UInt8 := if k = 0 then [] else if k = 1 then [63] else [43]
/-- The pattern. -/
def cntL (n m k : Nat) : List UInt8 := [120, 123] ++ (dgL n ++ ([44] ++ (dgL m ++ ([125] ++ mdL k))))
def cntP (n m k : Nat) : ByteArray := ⟨(cntL n m k).toArray⟩
def cntT (n m k : Nat) : Tok := ⟨16, 0#256, n, m, k, 0, ByteArray.empty⟩
theorem cnt_braces (n m k : Nat) (hn : n < 1000) (hm : m < 1000) : bracesZ (cntP n m k) 1 = if 100 < n ∨ 100 < m then wrongT 4 else if m < n then wrongT 3 else ({ tok0 16 with mn := n, mx := m }, 4 + (dgL n).length + (dgL m).length, 0) := by
  have c1 : countZ (cntP n m k) (1 + 1) = (n, 2 + (dgL n).length) := by
    have := count_app [120, 123] (dgL n ++ ([44] ++ (dgL m ++ ([125] ++ mdL k))))
    rw [count_dg hn (by unfold isD; rw [bt_of_list]; rfl)] at this
    exact this
  have hl : (([120, 123] : List UInt8) ++ dgL n).length = 2 + (dgL n).length := by simp; omega
  have hl2 : (([120, 123] : List UInt8) ++ dgL n ++ [44]).length = 2 + (dgL n).length + 1 := by simp; omega
  have hl3 : (([120, 123] : List UInt8) ++ dgL n ++ [44] ++ dgL m).length = 2 + (dgL n).length + 1 + (dgL m).length := by simp; omega
  have b1 : bt (cntP n m k) (2 + (dgL n).length) = 44 := by
    have := bt_app ([120, 123] ++ dgL n) ([44] ++ (dgL m ++ ([125] ++ mdL k))) 0
    rw [hl, List.append_assoc] at this
    refine this.trans ?_
    rw [bt_of_list]
    rfl
  have c2 : countZ (cntP n m k) (2 + (dgL n).length + 1) = (m, 2 + (dgL n).length + 1 + (dgL m).length) := by
    have := count_app ([120, 123] ++ dgL n ++ [44]) (dgL m ++ ([125] ++ mdL k))
    rw [hl2, count_dg hm (by unfold isD; rw [bt_of_list]; rfl)] at this
    simp only [List.append_assoc] at this
    exact this
  have b2 : bt (cntP n m k) (2 + (dgL n).length + 1 + (dgL m).length) = 125 := by
    have := bt_app ([120, 123] ++ dgL n ++ [44] ++ dgL m) ([125] ++ mdL k) 0
    rw [hl3] at this
    simp only [List.append_assoc] at this
    refine this.trans ?_
    rw [bt_of_list]
    rfl
  have h1 := dg_len n
  have h2 := dg_len m
  unfold bracesZ
  simp only [c1, b1, c2, if_true]
  rw [if_neg (by omega), if_neg (show ¬ 2 + (dgL n).length + 1 + (dgL m).length = 2 + (dgL n).length + 1 by omega), b2, if_neg (by simp)]
  by_cases h3 : 100 < n ∨ 100 < m
  · rw [if_pos h3, if_pos (by omega)]
  · rw [if_neg h3, if_neg (by omega)]
    by_cases h4 : m < n
    · rw [if_pos h4, if_pos (by omega)]
    · rw [if_neg h4, if_neg (by omega)]
      congr 2
      omega
theorem cnt_mode (n m k : Nat) (hk : k < 3) : bt (cntP n m k) (4 + (dgL n).length + (dgL m).length) = (if k = 0 then 256 else if k = 1 then 63 else 43) ∧ (cntP n m k).size = 4 + (dgL n).length + (dgL m).length + (if k = 0 then 0 else 1) := by
  have hl : (([120, 123] : List UInt8) ++ dgL n ++ [44] ++ dgL m ++ [125]).length = 4 + (dgL n).length + (dgL m).length := by simp; omega
  have hb : bt (cntP n m k) (4 + (dgL n).length + (dgL m).length) = bt ⟨(mdL k).toArray⟩ 0 := by
    have := bt_app ([120, 123] ++ dgL n ++ [44] ++ dgL m ++ [125]) (mdL k) 0
    rw [hl] at this
    simp only [List.append_assoc] at this
    exact this
  have hs : (cntP n m k).size = 4 + (dgL n).length + (dgL m).length + (mdL k).length := by
    show (cntL n m k).toArray.size = _
    unfold cntL
    simp
    omega
  rw [hb, hs, bt_of_list]
  rcases (show k = 0 ∨ k = 1 ∨ k = 2 by omega) with rfl | rfl | rfl <;> exact ⟨rfl, rfl⟩
theorem lex_cnt (n m k : Nat) (hn : n < 1000) (hm : m < 1000) (hk : k < 3) : lexZ (cntP n m k) = if 100 < n ∨ 100 < m then ([], 4) else if m < n then ([], 3) else ([⟨0, oneS 120, 0, 0, 0, 0, ByteArray.empty⟩, cntT n m k], 0) := by
  have h0 : bt (cntP n m k) 0 = 120 := (bt_of_list _ _).trans rfl
  have h1 : bt (cntP n m k) 1 = 123 := (bt_of_list _ _).trans rfl
  have hm' := cnt_mode n m k hk
  have hb := cnt_braces n m k hn hm
  have d1 := dg_len n
  have d2 := dg_len m
  have hs1 : (cntP n m k).size ≤ 11 := by rw [hm'.2]; split <;> omega
  have hs2 : 6 ≤ (cntP n m k).size := by rw [hm'.2]; split <;> omega
  have t0 : tokZ (cntP n m k) 0 = (⟨0, oneS 120, 0, 0, 0, 0, ByteArray.empty⟩, 1, 0) := by
    rw [tok_byte (by rw [h0]; decide), h0]
    rfl
  have t1 : tokZ (cntP n m k) 1 = if 100 < n ∨ 100 < m then wrongT 4 else if m < n then wrongT 3 else (cntT n m k, (cntP n m k).size, 0) := by
    rw [tok_quant (by omega)]
    unfold quantZ
    rw [if_pos h1, hb]
    by_cases h3 : 100 < n ∨ 100 < m
    · rw [if_pos h3, if_pos h3]
      rfl
    · rw [if_neg h3, if_neg h3]
      by_cases h4 : m < n
      · rw [if_pos h4, if_pos h4]
        rfl
      · rw [if_neg h4, if_neg h4, if_pos rfl, mode_eq _ _ _ rfl, hm'.1, hm'.2]
        rcases (show k = 0 ∨ k = 1 ∨ k = 2 by omega) with rfl | rfl | rfl <;> rfl
  obtain ⟨f, hf⟩ : ∃ f, (cntP n m k).size = f + 2 := ⟨(cntP n m k).size - 2, by omega⟩
  unfold lexZ
  rw [if_neg (by omega), hf, lexF, if_neg (by omega), t0, if_neg (show ¬ (0 : Int) ≠ 0 by decide), lexF, if_neg (show ¬ (cntP n m k).size ≤ 1 by omega), show (((⟨0, oneS 120, 0, 0, 0, 0, ByteArray.empty⟩, 1, 0) : TokR)).2.1 = 1 from rfl, t1]
  by_cases h3 : 100 < n ∨ 100 < m
  · rw [if_pos h3, if_pos h3]
    rfl
  · rw [if_neg h3, if_neg h3]
    by_cases h4 : m < n
    · rw [if_pos h4, if_pos h4]
      rfl
    · rw [if_neg h4, if_neg h4, if_neg (show ¬ (0 : Int) ≠ 0 by decide), lexF, if_pos (Nat.le_refl _)]
      rfl
theorem str1 (w : World) (c : Nat) (hc : c < 256) : (convert 43 9 (.slice (some ⟨w.heap.size, 0, none⟩) 1 1)).run Tryd.prog (w.alloc (.cells #[.int .u8 (c : Int)] 5)) = .ok (.string ⟨#[c.toUInt8]⟩) (w.alloc (.cells #[.int .u8 (c : Int)] 5)) := by
  have h := run_convert_bytes_back (P := Tryd.prog) (w.alloc (.cells #[.int .u8 (c : Int)] 5)) 43 9 5 ⟨w.heap.size, 0, none⟩ 1 [c.toUInt8] Tryd.underlying43 Tryd.underlying5 Tryd.underlying9 (fun j hj => by
    obtain rfl : j = 0 := by simpa using hj
    rw [Addr.add_lit]
    unfold World.cell?
    rw [heap_alloc_new]
    simp
    omega)
  exact h
theorem dg_step (n : Nat) (hn : n < 1000) : dgL n = (if n < 10 then [] else dgL (n / 10)) ++ [(48 + n % 10).toUInt8] := by
  unfold dgL
  by_cases h1 : n < 10
  · rw [if_pos h1, if_pos h1, Nat.mod_eq_of_lt h1]
    rfl
  · rw [if_neg h1, if_neg h1]
    by_cases h2 : n < 100
    · rw [if_pos h2, if_pos (show n / 10 < 10 by omega)]
      rfl
    · rw [if_neg h2, if_neg (show ¬ n / 10 < 10 by omega), if_pos (show n / 10 < 100 by omega), show n / 10 / 10 = n / 100 by omega]
      rfl
theorem bytes_append (A B : List UInt8) : (⟨A.toArray⟩ : ByteArray) ++ ⟨B.toArray⟩ = ⟨(A ++ B).toArray⟩ := by
  apply ByteArray.ext
  simp
theorem ret_str {a b : ByteArray} (h : a = b) : Ending.returned (.string a) = .returned (.string b) := by rw [h]
set_option maxRecDepth 100000 in
set_option maxHeartbeats 2000000 in
theorem digits_step (n : Nat) (w : World) (hn : n < 1000) (hr : 10 ≤ n → ∀ w : World, Calls Tryd.prog 22 #[.int .i64 ((n / 10 : Nat) : Int)] w fun e w' => e = .returned (.string ⟨(dgL (n / 10)).toArray⟩) ∧ Below w.heap.size w w') :
    Calls Tryd.prog 22 #[.int .i64 (n : Int)] w fun e w' => e = .returned (.string ⟨(dgL n).toArray⟩) ∧ Below w.heap.size w w' := by
  obtain ⟨c, hc⟩ : ∃ c, c = 48 + n % 10 := ⟨_, rfl⟩
  have hcl : c < 256 := by omega
  have hs1 := str1 w c hcl
  obtain ⟨C, hC⟩ : ∃ C : ByteArray, C = ⟨#[c.toUInt8]⟩ := ⟨_, rfl⟩
  have hC1 : C.size = 1 := by rw [hC]; rfl
  rw [← hC] at hs1
  have HC := Lib.hid hC
  clear hC
  rw [show (c : Int) = 48 + (n : Int) % 10 by omega] at hs1
  have HD := Lib.hid (dg_step n hn)
  rw [← hc] at HD
  by_cases h10 : n < 10
  · have g : ¬ (n : Int) ≥ 10 := by omega
    rw [if_pos h10] at HD
    clear hr hc
    go_enter Tryd.func22, Tryd.ntmps22
    go_wp2_with fail
    go_ret
    exact ⟨ret_str (by rw [HD.out, HC.out]; rfl), (Below.refl _ w).alloc (Nat.le_refl _) _⟩
  · have g : (n : Int) ≥ 10 := by omega
    have hR := hr (by omega)
    rw [show ((n / 10 : Nat) : Int) = (n : Int) / 10 by omega] at hR
    obtain ⟨D, hD⟩ : ∃ D : ByteArray, D = ⟨(dgL (n / 10)).toArray⟩ := ⟨_, rfl⟩
    have hD1 : D.size ≤ 3 := by rw [hD]; show (dgL (n / 10)).toArray.size ≤ 3; simp; exact (dg_len _).2
    rw [← hD] at hR
    have HDD := Lib.hid hD
    have HR := Lib.hid hR
    have hsum : ¬ D.size + C.size > 9223372036854775807 := by omega
    clear hR hD hC1 hD1
    rw [if_neg h10] at HD
    clear hr hc
    go_enter Tryd.func22, Tryd.ntmps22
    go_wp2_with fail
    refine (HR.out _).mono ?_
    rintro e w2 ⟨rfl, hb⟩
    have HB := Lib.hid (((Below.refl _ w).alloc (Nat.le_refl _) _).trans (hb.mono (show w.heap.size ≤ _ by simp)))
    clear hb
    go_wp2_with fail
    go_ret
    exact ⟨ret_str (by rw [HD.out, HC.out, HDD.out]; exact bytes_append _ _), HB.out⟩
theorem digits_any (n : Nat) (w : World) (hn : n < 1000) : Calls Tryd.prog 22 #[.int .i64 (n : Int)] w fun e w' => e = .returned (.string ⟨(dgL n).toArray⟩) ∧ Below w.heap.size w w' := by
  refine digits_step n w hn fun h w => digits_step (n / 10) w (by omega) fun h w => digits_step (n / 10 / 10) w (by omega) fun h w => ?_
  omega
end Go.Proofs.YtlcecblehffjiaaDoor
