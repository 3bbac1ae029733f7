/-
  Layer 6: what the document's answer does: quant.
-/
import Derived.Test.YtlcecblehffjiaaDoorLexRBrace
namespace Go.Proofs.YtlcecblehffjiaaDoor
open Go.RowKit

/-- A goal that the walk leaves alone. -/
def StopQ (p : Prop) : Prop := p
theorem stopQ {p : Prop} (h : StopQ p) : p := h
/-- The boxes of a call that makes a token: what it answers, and the token. -/
structure Q2 (w wr : World) (t : Tok) : Prop where
  r : BoxT 61 wr w.heap.size (tok0 0)
  t : BoxT 61 wr (w.heap.size + 1) t
  b : Below w.heap.size w wr
theorem Q2.call {w wr u : World} {t : Tok} (h : Q2 w wr t) (hb : Below wr.heap.size wr u) : Q2 w u t := ⟨h.r.below hb h.r.lt, h.t.below hb h.t.lt, thenB h.b hb h.b.size⟩
theorem Q2.row {w wr : World} {s : Tok} (h : Q2 w wr s) (t : Tok) : Q2 w (wr.setRow (w.heap.size + 1) (tokC t)) t := ⟨h.r.row _ (by omega), h.t.rowSame t, below_row h.b (by omega) _⟩
abbrev zeroR (w : World) : World := w.alloc (.cells #[.int .i64 0, .int .u64 0, .int .u64 0, .int .u64 0, .int .u64 0, .int .i64 0, .int .i64 0, .int .i64 0, .int .i64 0, .string ⟨#[]⟩] 61)
theorem Q2.new {w u : World} {t : Tok} (hx : BoxT 61 u (w.heap.size + 1) t) (hb : Below (w.heap.size + 1) (zeroR w) u) : Q2 w u t :=
  ⟨(newR zero10 : BoxT 61 (zeroR w) w.heap.size (tok0 0)).below hb (by omega), hx, ((Below.refl _ w).alloc (Nat.le_refl _) _).trans (hb.mono (by omega))⟩
section
variable {ops : Array Oper} {rest : List Oper} {o : Oper} {a : Act} {w : World} {Q : Exit → Act → World → Prop}
/-- A token is stored in a new block. -/
theorem storeNewR (hgd : o.guard = none) (x y : Operand) (ho : o.op = .store 61 x y) (wr : World) (N : Nat) (hN : wr.heap.size = N) (t : Tok) (hx : a.eval x = .pointer (some ⟨N, 0, none⟩)) (cs : Array Value) (hy : a.eval y = .agg cs) (hcs : cs = tokC t) (hw : w = zeroR wr)
    (h : ∀ u : World, Hid (BoxT 61 u N t) → Hid (Below N wr u) → wpList Tryd.prog ops Q rest (a.put o.dst undef) u) : wpList Tryd.prog ops Q (o :: rest) a w := by
  subst hw hN
  have hg : BoxT 61 (zeroR wr) wr.heap.size (tok0 0) := newR zero10
  refine storeR hgd x y ho wr.heap.size (tok0 0) t hx cs hy hcs hg ?_
  exact h _ (Lib.hid (hg.rowSame t)) (Lib.hid (below_row ((Below.refl _ wr).alloc (Nat.le_refl _) _) (Nat.le_refl _) _))
/-- A field of the token is stored. -/
theorem storeF (hgd : o.guard = none) (x y : Operand) (ho : o.op = .store 3 x y) (w0 : World) (k : Nat) (t u : Tok) (n : Int) (hx : a.eval x = .pointer (some ⟨w0.heap.size + 1, k, none⟩)) (hy : a.eval y = .int .i64 n) (hk : k < 10) (hu : (tokC t).setIfInBounds k (.int .i64 n) = tokC u) (hq : Q2 w0 w t)
    (h : ∀ v : World, Hid (Q2 w0 v u) → wpList Tryd.prog ops Q rest (a.put o.dst undef) v) : wpList Tryd.prog ops Q (o :: rest) a w := by
  have hc : ∃ v0, w.cell? ⟨w0.heap.size + 1, k, none⟩ = some v0 := ⟨_, (cell_of_row w (w0.heap.size + 1) k _ _ _ hq.t).trans (Array.getElem?_eq_getElem (by rw [tokC_size]; exact hk))⟩
  obtain ⟨v0, hc⟩ := hc
  have hf := frozen_of_row w (w0.heap.size + 1) k _ _ hq.t
  have hv := h (w.setCell ⟨w0.heap.size + 1, k, none⟩ (.int .i64 n)) (Lib.hid ⟨hq.r.cell (k := w0.heap.size + 1) (.int .i64 n) (by omega) k, by unfold BoxT; rw [← hu]; exact heap_setCell_same _ _ _ _ _ _ hq.t, hq.b.setCell (p := ⟨w0.heap.size + 1, k, none⟩) (by show w0.heap.size ≤ w0.heap.size + 1; omega) _⟩)
  refine wpList_plain hgd fun K hK => ?_
  unfold Oper.wp execOp
  simp only [ho, hx, hy]
  simp [go_sem, hc, hf]
  exact hK _ _ hv
end
theorem mode_1 {p : ByteArray} {t : Tok} {k : Nat} (h : bt p k = 63) : modeZ p (t, k, 0) = ({ t with md := 1 }, k + 1, 0) := by unfold modeZ; rw [if_pos h]
theorem mode_2 {p : ByteArray} {t : Tok} {k : Nat} (h : bt p k = 43) : modeZ p (t, k, 0) = ({ t with md := 2 }, k + 1, 0) := by unfold modeZ; rw [if_neg (by show ¬ bt p k = 63; omega), if_pos h]
theorem mode_0 {p : ByteArray} {t : Tok} {k : Nat} (h : bt p k ≠ 63) (h2 : bt p k ≠ 43) : modeZ p (t, k, 0) = (t, k, 0) := by unfold modeZ; rw [if_neg h, if_neg h2]
theorem brE_le (p : ByteArray) (a : Nat) (b : Int) (e : Nat) : (braceE p a b e).2.1 ≤ p.size := by
  unfold braceE
  split
  · exact Nat.zero_le _
  · rename_i h
    split
    · exact Nat.zero_le _
    · split
      · exact Nat.zero_le _
      · exact bt_in (by intro h2; rw [h2] at h; exact h (by decide))
theorem brace_le {p : ByteArray} {i : Nat} : (bracesZ p i).2.1 ≤ p.size := by
  by_cases h : (countZ p (i + 1)).2 = i + 1
  · rw [brace_1 h]; exact Nat.zero_le _
  · by_cases h2 : bt p (countZ p (i + 1)).2 = 44
    · rw [brace_3 h h2]; exact brE_le _ _ _ _
    · rw [brace_2 h h2]; exact brE_le _ _ _ _
theorem qz_42 {p : ByteArray} {i : Nat} (h : bt p i = 42) : quantZ p i = modeZ p ({ tok0 16 with mx := -1 }, i + 1, 0) := by
  unfold quantZ
  rw [if_neg (by omega), if_neg (by omega), if_neg (by omega)]
  rfl
theorem qz_43 {p : ByteArray} {i : Nat} (h : bt p i = 43) : quantZ p i = modeZ p ({ tok0 16 with mn := 1, mx := -1 }, i + 1, 0) := by
  unfold quantZ
  rw [if_neg (by omega), if_pos h, if_neg (by omega)]
theorem qz_63 {p : ByteArray} {i : Nat} (h : bt p i = 63) : quantZ p i = modeZ p ({ tok0 16 with mx := 1 }, i + 1, 0) := by
  unfold quantZ
  rw [if_neg (by omega), if_neg (by omega), if_pos h]
  rfl
theorem qz_b0 {p : ByteArray} {i : Nat} {t : Tok} {k : Nat} (h : bt p i = 123) (hb : bracesZ p i = (t, k, 0)) : quantZ p i = modeZ p (t, k, 0) := by
  unfold quantZ
  rw [if_pos h, hb, if_pos rfl]
theorem qz_b1 {p : ByteArray} {i : Nat} {t : Tok} {k : Nat} {e : Int} (h : bt p i = 123) (hb : bracesZ p i = (t, k, e)) (he : e ≠ 0) : quantZ p i = wrongT e := by
  unfold quantZ
  rw [if_pos h, hb, if_neg he]
theorem tok16 : #[.int .i64 16, .int .u64 0, .int .u64 0, .int .u64 0, .int .u64 0, .int .i64 0, .int .i64 (-1), .int .i64 0, .int .i64 0, .string ⟨#[]⟩] = tokC { tok0 16 with mx := -1 } := by simp [tokC, tok0, W_zero]; rfl

set_option maxRecDepth 100000 in
set_option maxHeartbeats 16000000 in
theorem rquant_42 (p : ByteArray) (i : Nat) (w : World) (hp : p.size ≤ 1000000) (hi : i < p.size) (h : bt p i = 42) : Calls Tryd.prog 46 #[.string p, .int .i64 (i : Int)] w fun e w' => e = .returned (.tuple #[tokV (quantZ p i).1, .int .i64 ((quantZ p i).2.1 : Nat), .int .i64 (quantZ p i).2.2]) ∧ Below w.heap.size w w' := by
  have HSt := Lib.hid (fun (k : Nat) (z : Int) (c : UInt8) w (hz : z = k) (h : k ≤ p.size) => starts_b p k z c w hp hz h)
  have hii : (i : Int) < (p.size : Int) := by omega
  have hkz : i + 1 ≤ p.size := hi
  have q : ((p[i]'hi).toNat : Int) = 42 := by rw [← bt_at hi, h]; rfl
  have HZ := Lib.hid (qz_42 h)
  clear h
  go_enter Tryd.func46, Tryd.ntmps46
  go_wp2_with (refine storeNewR rfl _ _ rfl (zeroR w) (w.heap.size + 1) (by simp) { tok0 16 with mx := -1 } rfl _ rfl tok16 rfl ?_; intro w1 hx1 hb1; refine stopQ ?_)
  unfold StopQ
  have HQ := Lib.hid (Q2.new hx1.out hb1.out)
  clear hx1 hb1
  go_wp2_with fail
  with_reducible refine (HSt.out (i + 1) _ 63 _ (by omega) hkz).mono ?_
  rintro x wa ⟨rfl, rfl⟩
  cases hc : (bt p (i + 1) == (63 : UInt8).toNat) with
  | true =>
    have hc' : bt p (i + 1) = 63 := by simpa using hc
    have HE := Lib.hid (mode_1 (t := { tok0 16 with mx := -1 }) hc')
    clear hc'
    go_wp2_with (refine storeF rfl _ _ rfl w 7 ({ tok0 16 with mx := -1 }) { ({ tok0 16 with mx := -1 } : Tok) with md := 1 } 1 rfl rfl (by decide) rfl HQ.out ?_; intro w5 hq5; refine stopQ ?_)
    unfold StopQ
    go_wp2_with (first | refine loadR rfl _ rfl (w.heap.size + 1) ({ ({ tok0 16 with mx := -1 } : Tok) with md := 1 }) rfl hq5.out.t ?_ | refine storeR rfl _ _ rfl w.heap.size (tok0 0) ({ ({ tok0 16 with mx := -1 } : Tok) with md := 1 }) rfl _ rfl rfl hq5.out.r ?_)
    refine bodyPost_ret (resR3 (p := 4) (u := 5) (u2 := 6) (t := { ({ tok0 16 with mx := -1 } : Tok) with md := 1 }) (v := .int .i64 (((i + 1 : Nat) : Int) + 1)) (v2 := .int .i64 0) rfl _ (g := w.heap.size) rfl rfl rfl (hq5.out.r.rowSame _)) rfl ?_
    refine ⟨?_, below_row hq5.out.b (Nat.le_refl _) _⟩
    rw [(HZ.out).trans (HE.out)]
    rfl
  | false =>
    have hc' : bt p (i + 1) ≠ 63 := by simpa using hc
    go_wp2_with fail
    with_reducible refine (HSt.out (i + 1) _ 43 _ (by omega) hkz).mono ?_
    rintro x wa ⟨rfl, rfl⟩
    cases hd : (bt p (i + 1) == (43 : UInt8).toNat) with
    | true =>
      have hd' : bt p (i + 1) = 43 := by simpa using hd
      have HE := Lib.hid (mode_2 (t := { tok0 16 with mx := -1 }) hd')
      clear hc' hd'
      go_wp2_with (refine storeF rfl _ _ rfl w 7 ({ tok0 16 with mx := -1 }) { ({ tok0 16 with mx := -1 } : Tok) with md := 2 } 2 rfl rfl (by decide) rfl HQ.out ?_; intro w5 hq5; refine stopQ ?_)
      unfold StopQ
      go_wp2_with (first | refine loadR rfl _ rfl (w.heap.size + 1) ({ ({ tok0 16 with mx := -1 } : Tok) with md := 2 }) rfl hq5.out.t ?_ | refine storeR rfl _ _ rfl w.heap.size (tok0 0) ({ ({ tok0 16 with mx := -1 } : Tok) with md := 2 }) rfl _ rfl rfl hq5.out.r ?_)
      refine bodyPost_ret (resR3 (p := 4) (u := 5) (u2 := 6) (t := { ({ tok0 16 with mx := -1 } : Tok) with md := 2 }) (v := .int .i64 (((i + 1 : Nat) : Int) + 1)) (v2 := .int .i64 0) rfl _ (g := w.heap.size) rfl rfl rfl (hq5.out.r.rowSame _)) rfl ?_
      refine ⟨?_, below_row hq5.out.b (Nat.le_refl _) _⟩
      rw [(HZ.out).trans (HE.out)]
      rfl
    | false =>
      have hd' : bt p (i + 1) ≠ 43 := by simpa using hd
      have HE := Lib.hid (mode_0 (t := { tok0 16 with mx := -1 }) hc' hd')
      clear hc' hd'
      go_wp2_with (first | refine loadR rfl _ rfl (w.heap.size + 1) ({ tok0 16 with mx := -1 }) rfl HQ.out.t ?_ | refine storeR rfl _ _ rfl w.heap.size (tok0 0) ({ tok0 16 with mx := -1 }) rfl _ rfl rfl HQ.out.r ?_)
      refine bodyPost_ret (resR3 (p := 4) (u := 5) (u2 := 6) (t := { tok0 16 with mx := -1 }) (v := .int .i64 ((i + 1 : Nat) : Int)) (v2 := .int .i64 0) rfl _ (g := w.heap.size) rfl rfl rfl (HQ.out.r.rowSame _)) rfl ?_
      refine ⟨?_, below_row HQ.out.b (Nat.le_refl _) _⟩
      rw [(HZ.out).trans (HE.out)]
set_option maxRecDepth 100000 in
set_option maxHeartbeats 16000000 in
theorem rquant_43 (p : ByteArray) (i : Nat) (w : World) (hp : p.size ≤ 1000000) (hi : i < p.size) (h : bt p i = 43) : Calls Tryd.prog 46 #[.string p, .int .i64 (i : Int)] w fun e w' => e = .returned (.tuple #[tokV (quantZ p i).1, .int .i64 ((quantZ p i).2.1 : Nat), .int .i64 (quantZ p i).2.2]) ∧ Below w.heap.size w w' := by
  have HSt := Lib.hid (fun (k : Nat) (z : Int) (c : UInt8) w (hz : z = k) (h : k ≤ p.size) => starts_b p k z c w hp hz h)
  have hii : (i : Int) < (p.size : Int) := by omega
  have hkz : i + 1 ≤ p.size := hi
  have q : ((p[i]'hi).toNat : Int) = 43 := by rw [← bt_at hi, h]; rfl
  have HZ := Lib.hid (qz_43 h)
  clear h
  go_enter Tryd.func46, Tryd.ntmps46
  go_wp2_with (refine storeNewR rfl _ _ rfl (zeroR w) (w.heap.size + 1) (by simp) { tok0 16 with mx := -1 } rfl _ rfl tok16 rfl ?_; intro w1 hx1 hb1; refine stopQ ?_)
  unfold StopQ
  have HQ := Lib.hid (Q2.new hx1.out hb1.out)
  clear hx1 hb1
  go_wp2_with (refine storeF rfl _ _ rfl w 5 { tok0 16 with mx := -1 } { tok0 16 with mn := 1, mx := -1 } 1 rfl rfl (by decide) rfl HQ.out ?_; intro w2 hq2; refine stopQ ?_)
  unfold StopQ
  go_wp2_with fail
  with_reducible refine (HSt.out (i + 1) _ 63 _ (by omega) hkz).mono ?_
  rintro x wa ⟨rfl, rfl⟩
  cases hc : (bt p (i + 1) == (63 : UInt8).toNat) with
  | true =>
    have hc' : bt p (i + 1) = 63 := by simpa using hc
    have HE := Lib.hid (mode_1 (t := { tok0 16 with mn := 1, mx := -1 }) hc')
    clear hc'
    go_wp2_with (refine storeF rfl _ _ rfl w 7 ({ tok0 16 with mn := 1, mx := -1 }) { ({ tok0 16 with mn := 1, mx := -1 } : Tok) with md := 1 } 1 rfl rfl (by decide) rfl hq2.out ?_; intro w5 hq5; refine stopQ ?_)
    unfold StopQ
    go_wp2_with (first | refine loadR rfl _ rfl (w.heap.size + 1) ({ ({ tok0 16 with mn := 1, mx := -1 } : Tok) with md := 1 }) rfl hq5.out.t ?_ | refine storeR rfl _ _ rfl w.heap.size (tok0 0) ({ ({ tok0 16 with mn := 1, mx := -1 } : Tok) with md := 1 }) rfl _ rfl rfl hq5.out.r ?_)
    refine bodyPost_ret (resR3 (p := 4) (u := 5) (u2 := 6) (t := { ({ tok0 16 with mn := 1, mx := -1 } : Tok) with md := 1 }) (v := .int .i64 (((i + 1 : Nat) : Int) + 1)) (v2 := .int .i64 0) rfl _ (g := w.heap.size) rfl rfl rfl (hq5.out.r.rowSame _)) rfl ?_
    refine ⟨?_, below_row hq5.out.b (Nat.le_refl _) _⟩
    rw [(HZ.out).trans (HE.out)]
    rfl
  | false =>
    have hc' : bt p (i + 1) ≠ 63 := by simpa using hc
    go_wp2_with fail
    with_reducible refine (HSt.out (i + 1) _ 43 _ (by omega) hkz).mono ?_
    rintro x wa ⟨rfl, rfl⟩
    cases hd : (bt p (i + 1) == (43 : UInt8).toNat) with
    | true =>
      have hd' : bt p (i + 1) = 43 := by simpa using hd
      have HE := Lib.hid (mode_2 (t := { tok0 16 with mn := 1, mx := -1 }) hd')
      clear hc' hd'
      go_wp2_with (refine storeF rfl _ _ rfl w 7 ({ tok0 16 with mn := 1, mx := -1 }) { ({ tok0 16 with mn := 1, mx := -1 } : Tok) with md := 2 } 2 rfl rfl (by decide) rfl hq2.out ?_; intro w5 hq5; refine stopQ ?_)
      unfold StopQ
      go_wp2_with (first | refine loadR rfl _ rfl (w.heap.size + 1) ({ ({ tok0 16 with mn := 1, mx := -1 } : Tok) with md := 2 }) rfl hq5.out.t ?_ | refine storeR rfl _ _ rfl w.heap.size (tok0 0) ({ ({ tok0 16 with mn := 1, mx := -1 } : Tok) with md := 2 }) rfl _ rfl rfl hq5.out.r ?_)
      refine bodyPost_ret (resR3 (p := 4) (u := 5) (u2 := 6) (t := { ({ tok0 16 with mn := 1, mx := -1 } : Tok) with md := 2 }) (v := .int .i64 (((i + 1 : Nat) : Int) + 1)) (v2 := .int .i64 0) rfl _ (g := w.heap.size) rfl rfl rfl (hq5.out.r.rowSame _)) rfl ?_
      refine ⟨?_, below_row hq5.out.b (Nat.le_refl _) _⟩
      rw [(HZ.out).trans (HE.out)]
      rfl
    | false =>
      have hd' : bt p (i + 1) ≠ 43 := by simpa using hd
      have HE := Lib.hid (mode_0 (t := { tok0 16 with mn := 1, mx := -1 }) hc' hd')
      clear hc' hd'
      go_wp2_with (first | refine loadR rfl _ rfl (w.heap.size + 1) ({ tok0 16 with mn := 1, mx := -1 }) rfl hq2.out.t ?_ | refine storeR rfl _ _ rfl w.heap.size (tok0 0) ({ tok0 16 with mn := 1, mx := -1 }) rfl _ rfl rfl hq2.out.r ?_)
      refine bodyPost_ret (resR3 (p := 4) (u := 5) (u2 := 6) (t := { tok0 16 with mn := 1, mx := -1 }) (v := .int .i64 ((i + 1 : Nat) : Int)) (v2 := .int .i64 0) rfl _ (g := w.heap.size) rfl rfl rfl (hq2.out.r.rowSame _)) rfl ?_
      refine ⟨?_, below_row hq2.out.b (Nat.le_refl _) _⟩
      rw [(HZ.out).trans (HE.out)]
set_option maxRecDepth 100000 in
set_option maxHeartbeats 16000000 in
theorem rquant_63 (p : ByteArray) (i : Nat) (w : World) (hp : p.size ≤ 1000000) (hi : i < p.size) (h : bt p i = 63) : Calls Tryd.prog 46 #[.string p, .int .i64 (i : Int)] w fun e w' => e = .returned (.tuple #[tokV (quantZ p i).1, .int .i64 ((quantZ p i).2.1 : Nat), .int .i64 (quantZ p i).2.2]) ∧ Below w.heap.size w w' := by
  have HSt := Lib.hid (fun (k : Nat) (z : Int) (c : UInt8) w (hz : z = k) (h : k ≤ p.size) => starts_b p k z c w hp hz h)
  have hii : (i : Int) < (p.size : Int) := by omega
  have hkz : i + 1 ≤ p.size := hi
  have q : ((p[i]'hi).toNat : Int) = 63 := by rw [← bt_at hi, h]; rfl
  have HZ := Lib.hid (qz_63 h)
  clear h
  go_enter Tryd.func46, Tryd.ntmps46
  go_wp2_with (refine storeNewR rfl _ _ rfl (zeroR w) (w.heap.size + 1) (by simp) { tok0 16 with mx := -1 } rfl _ rfl tok16 rfl ?_; intro w1 hx1 hb1; refine stopQ ?_)
  unfold StopQ
  have HQ := Lib.hid (Q2.new hx1.out hb1.out)
  clear hx1 hb1
  go_wp2_with (refine storeF rfl _ _ rfl w 6 { tok0 16 with mx := -1 } { tok0 16 with mx := 1 } 1 rfl rfl (by decide) rfl HQ.out ?_; intro w2 hq2; refine stopQ ?_)
  unfold StopQ
  go_wp2_with fail
  with_reducible refine (HSt.out (i + 1) _ 63 _ (by omega) hkz).mono ?_
  rintro x wa ⟨rfl, rfl⟩
  cases hc : (bt p (i + 1) == (63 : UInt8).toNat) with
  | true =>
    have hc' : bt p (i + 1) = 63 := by simpa using hc
    have HE := Lib.hid (mode_1 (t := { tok0 16 with mx := 1 }) hc')
    clear hc'
    go_wp2_with (refine storeF rfl _ _ rfl w 7 ({ tok0 16 with mx := 1 }) { ({ tok0 16 with mx := 1 } : Tok) with md := 1 } 1 rfl rfl (by decide) rfl hq2.out ?_; intro w5 hq5; refine stopQ ?_)
    unfold StopQ
    go_wp2_with (first | refine loadR rfl _ rfl (w.heap.size + 1) ({ ({ tok0 16 with mx := 1 } : Tok) with md := 1 }) rfl hq5.out.t ?_ | refine storeR rfl _ _ rfl w.heap.size (tok0 0) ({ ({ tok0 16 with mx := 1 } : Tok) with md := 1 }) rfl _ rfl rfl hq5.out.r ?_)
    refine bodyPost_ret (resR3 (p := 4) (u := 5) (u2 := 6) (t := { ({ tok0 16 with mx := 1 } : Tok) with md := 1 }) (v := .int .i64 (((i + 1 : Nat) : Int) + 1)) (v2 := .int .i64 0) rfl _ (g := w.heap.size) rfl rfl rfl (hq5.out.r.rowSame _)) rfl ?_
    refine ⟨?_, below_row hq5.out.b (Nat.le_refl _) _⟩
    rw [(HZ.out).trans (HE.out)]
    rfl
  | false =>
    have hc' : bt p (i + 1) ≠ 63 := by simpa using hc
    go_wp2_with fail
    with_reducible refine (HSt.out (i + 1) _ 43 _ (by omega) hkz).mono ?_
    rintro x wa ⟨rfl, rfl⟩
    cases hd : (bt p (i + 1) == (43 : UInt8).toNat) with
    | true =>
      have hd' : bt p (i + 1) = 43 := by simpa using hd
      have HE := Lib.hid (mode_2 (t := { tok0 16 with mx := 1 }) hd')
      clear hc' hd'
      go_wp2_with (refine storeF rfl _ _ rfl w 7 ({ tok0 16 with mx := 1 }) { ({ tok0 16 with mx := 1 } : Tok) with md := 2 } 2 rfl rfl (by decide) rfl hq2.out ?_; intro w5 hq5; refine stopQ ?_)
      unfold StopQ
      go_wp2_with (first | refine loadR rfl _ rfl (w.heap.size + 1) ({ ({ tok0 16 with mx := 1 } : Tok) with md := 2 }) rfl hq5.out.t ?_ | refine storeR rfl _ _ rfl w.heap.size (tok0 0) ({ ({ tok0 16 with mx := 1 } : Tok) with md := 2 }) rfl _ rfl rfl hq5.out.r ?_)
      refine bodyPost_ret (resR3 (p := 4) (u := 5) (u2 := 6) (t := { ({ tok0 16 with mx := 1 } : Tok) with md := 2 }) (v := .int .i64 (((i + 1 : Nat) : Int) + 1)) (v2 := .int .i64 0) rfl _ (g := w.heap.size) rfl rfl rfl (hq5.out.r.rowSame _)) rfl ?_
      refine ⟨?_, below_row hq5.out.b (Nat.le_refl _) _⟩
      rw [(HZ.out).trans (HE.out)]
      rfl
    | false =>
      have hd' : bt p (i + 1) ≠ 43 := by simpa using hd
      have HE := Lib.hid (mode_0 (t := { tok0 16 with mx := 1 }) hc' hd')
      clear hc' hd'
      go_wp2_with (first | refine loadR rfl _ rfl (w.heap.size + 1) ({ tok0 16 with mx := 1 }) rfl hq2.out.t ?_ | refine storeR rfl _ _ rfl w.heap.size (tok0 0) ({ tok0 16 with mx := 1 }) rfl _ rfl rfl hq2.out.r ?_)
      refine bodyPost_ret (resR3 (p := 4) (u := 5) (u2 := 6) (t := { tok0 16 with mx := 1 }) (v := .int .i64 ((i + 1 : Nat) : Int)) (v2 := .int .i64 0) rfl _ (g := w.heap.size) rfl rfl rfl (hq2.out.r.rowSame _)) rfl ?_
      refine ⟨?_, below_row hq2.out.b (Nat.le_refl _) _⟩
      rw [(HZ.out).trans (HE.out)]
set_option maxRecDepth 100000 in
set_option maxHeartbeats 16000000 in
theorem rquant_123 (p : ByteArray) (i : Nat) (w : World) (hp : p.size ≤ 1000000) (hi : i < p.size) (h : bt p i = 123) : Calls Tryd.prog 46 #[.string p, .int .i64 (i : Int)] w fun e w' => e = .returned (.tuple #[tokV (quantZ p i).1, .int .i64 ((quantZ p i).2.1 : Nat), .int .i64 (quantZ p i).2.2]) ∧ Below w.heap.size w w' := by
  have HSt := Lib.hid (fun (k : Nat) (z : Int) (c : UInt8) w (hz : z = k) (h : k ≤ p.size) => starts_b p k z c w hp hz h)
  have hii : (i : Int) < (p.size : Int) := by omega
  have hkz : i + 1 ≤ p.size := hi
  have q : ((p[i]'hi).toNat : Int) = 123 := by rw [← bt_at hi, h]; rfl
  have HBr := Lib.hid (fun w => rbraces_any p i w hp hi)
  have hz0 := @qz_b0 p i
  have hz1 := @qz_b1 p i
  have hle := @brace_le p i
  obtain ⟨B, hB⟩ : ∃ B, B = bracesZ p i := ⟨_, rfl⟩
  have HB := Lib.hid hB
  rw [← hB] at hz0 hz1 hle
  clear hB
  obtain ⟨t, k, e⟩ := B
  simp only [] at hle
  have HH := Lib.hid h
  clear h
  go_enter Tryd.func46, Tryd.ntmps46
  go_wp2_with (refine storeNewR rfl _ _ rfl (zeroR w) (w.heap.size + 1) (by simp) { tok0 16 with mx := -1 } rfl _ rfl tok16 rfl ?_; intro w1 hx1 hb1; refine stopQ ?_)
  unfold StopQ
  have HQ := Lib.hid (Q2.new hx1.out hb1.out)
  clear hx1 hb1
  go_wp2_with fail
  with_reducible refine (HBr.out _).mono ?_
  rw [← HB.out]
  rintro x w2 ⟨rfl, hb⟩
  have HQ2 := Lib.hid (HQ.out.call hb)
  clear hb
  simp only []
  go_wp2_with (refine storeNewR rfl _ _ rfl w2 w2.heap.size rfl t rfl _ rfl rfl rfl ?_; intro w3 hx3 hb3; refine stopQ ?_)
  unfold StopQ
  have HQ3 := Lib.hid (HQ2.out.call hb3.out)
  have hlt : w.heap.size + 1 < w2.heap.size := HQ2.out.t.lt
  by_cases he : e = 0
  · subst he
    have hkz := hle
    have HZ := Lib.hid (hz0 HH.out rfl)
    have HX := Lib.hid hx3.out
    clear hz0 hz1 hle hlt
    go_wp2_with (first | refine loadR rfl _ rfl w2.heap.size t rfl HX.out ?_ | (refine storeR rfl _ _ rfl (w.heap.size + 1) { tok0 16 with mx := -1 } t rfl _ rfl rfl HQ3.out.t ?_; refine stopQ ?_))
    unfold StopQ
    have HQ4 := Lib.hid (HQ3.out.row t)
    obtain ⟨w4, hw4⟩ : ∃ w4, w4 = w3.setRow (w.heap.size + 1) (tokC t) := ⟨_, rfl⟩
    rw [← hw4] at HQ4 ⊢
    clear hw4
    go_wp2_with fail
    with_reducible refine (HSt.out (k) _ 63 _ (by omega) hkz).mono ?_
    rintro x wa ⟨rfl, rfl⟩
    cases hc : (bt p (k) == (63 : UInt8).toNat) with
    | true =>
      have hc' : bt p (k) = 63 := by simpa using hc
      have HE := Lib.hid (mode_1 (t := t) hc')
      clear hc'
      go_wp2_with (refine storeF rfl _ _ rfl w 7 (t) { (t : Tok) with md := 1 } 1 rfl rfl (by decide) rfl HQ4.out ?_; intro w5 hq5; refine stopQ ?_)
      unfold StopQ
      go_wp2_with (first | refine loadR rfl _ rfl (w.heap.size + 1) ({ (t : Tok) with md := 1 }) rfl hq5.out.t ?_ | refine storeR rfl _ _ rfl w.heap.size (tok0 0) ({ (t : Tok) with md := 1 }) rfl _ rfl rfl hq5.out.r ?_)
      refine bodyPost_ret (resR3 (p := 4) (u := 5) (u2 := 6) (t := { (t : Tok) with md := 1 }) (v := .int .i64 (((k : Nat) : Int) + 1)) (v2 := .int .i64 0) rfl _ (g := w.heap.size) rfl rfl rfl (hq5.out.r.rowSame _)) rfl ?_
      refine ⟨?_, below_row hq5.out.b (Nat.le_refl _) _⟩
      rw [(HZ.out).trans (HE.out)]
      rfl
    | false =>
      have hc' : bt p (k) ≠ 63 := by simpa using hc
      go_wp2_with fail
      with_reducible refine (HSt.out (k) _ 43 _ (by omega) hkz).mono ?_
      rintro x wa ⟨rfl, rfl⟩
      cases hd : (bt p (k) == (43 : UInt8).toNat) with
      | true =>
        have hd' : bt p (k) = 43 := by simpa using hd
        have HE := Lib.hid (mode_2 (t := t) hd')
        clear hc' hd'
        go_wp2_with (refine storeF rfl _ _ rfl w 7 (t) { (t : Tok) with md := 2 } 2 rfl rfl (by decide) rfl HQ4.out ?_; intro w5 hq5; refine stopQ ?_)
        unfold StopQ
        go_wp2_with (first | refine loadR rfl _ rfl (w.heap.size + 1) ({ (t : Tok) with md := 2 }) rfl hq5.out.t ?_ | refine storeR rfl _ _ rfl w.heap.size (tok0 0) ({ (t : Tok) with md := 2 }) rfl _ rfl rfl hq5.out.r ?_)
        refine bodyPost_ret (resR3 (p := 4) (u := 5) (u2 := 6) (t := { (t : Tok) with md := 2 }) (v := .int .i64 (((k : Nat) : Int) + 1)) (v2 := .int .i64 0) rfl _ (g := w.heap.size) rfl rfl rfl (hq5.out.r.rowSame _)) rfl ?_
        refine ⟨?_, below_row hq5.out.b (Nat.le_refl _) _⟩
        rw [(HZ.out).trans (HE.out)]
        rfl
      | false =>
        have hd' : bt p (k) ≠ 43 := by simpa using hd
        have HE := Lib.hid (mode_0 (t := t) hc' hd')
        clear hc' hd'
        go_wp2_with (first | refine loadR rfl _ rfl (w.heap.size + 1) (t) rfl HQ4.out.t ?_ | refine storeR rfl _ _ rfl w.heap.size (tok0 0) (t) rfl _ rfl rfl HQ4.out.r ?_)
        refine bodyPost_ret (resR3 (p := 4) (u := 5) (u2 := 6) (t := t) (v := .int .i64 ((k : Nat) : Int)) (v2 := .int .i64 0) rfl _ (g := w.heap.size) rfl rfl rfl (HQ4.out.r.rowSame _)) rfl ?_
        refine ⟨?_, below_row HQ4.out.b (Nat.le_refl _) _⟩
        rw [(HZ.out).trans (HE.out)]
  · have HZ := Lib.hid (hz1 HH.out rfl he)
    clear hz0 hz1 hle hlt
    go_wp2_with (refine storeR rfl _ _ rfl w.heap.size (tok0 0) (tok0 0) rfl _ rfl zero10 HQ3.out.r ?_)
    refine bodyPost_ret (resR3 (p := 4) (u := 5) (u2 := 6) (t := tok0 0) (v := .int .i64 0) (v2 := .int .i64 e) rfl _ (g := w.heap.size) rfl rfl rfl (HQ3.out.r.rowSame _)) rfl ?_
    refine ⟨?_, below_row HQ3.out.b (Nat.le_refl _) _⟩
    rw [HZ.out]
    rfl
theorem rquant_any (p : ByteArray) (i : Nat) (w : World) (hp : p.size ≤ 1000000) (hi : i < p.size) (h : bt p i = 42 ∨ bt p i = 43 ∨ bt p i = 63 ∨ bt p i = 123) : Calls Tryd.prog 46 #[.string p, .int .i64 (i : Int)] w fun e w' => e = .returned (.tuple #[tokV (quantZ p i).1, .int .i64 ((quantZ p i).2.1 : Nat), .int .i64 (quantZ p i).2.2]) ∧ Below w.heap.size w w' := by
  rcases h with h | h | h | h
  · exact rquant_42 p i w hp hi h
  · exact rquant_43 p i w hp hi h
  · exact rquant_63 p i w hp hi h
  · exact rquant_123 p i w hp hi h
end Go.Proofs.YtlcecblehffjiaaDoor
