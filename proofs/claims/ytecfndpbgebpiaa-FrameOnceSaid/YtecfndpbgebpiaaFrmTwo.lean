/-
  Layer 12: a store and the document's store, side by side.
-/
import Derived.Test.YtecfndpbgebpiaaFrmKit
namespace Go.Proofs.Ytecfndpbgebpiaa
open Go.RowKit

structure DX (w0 w : World) (p m q : Nat) (most : Int) (M R : List Pl) : Prop where
  st : ∃ b c, St w p b m most M ∧ Rf w q c most R ∧ w0.heap.size ≤ b ∧ w0.heap.size ≤ c ∧ b ≠ c ∧ b ≠ q ∧ c ≠ p ∧ c ≠ m
  low : Below w0.heap.size w0 w
  le : w0.heap.size ≤ p ∧ w0.heap.size ≤ m ∧ w0.heap.size ≤ q
  ne : p ≠ q ∧ m ≠ q
section
variable {w0 w w' : World} {p m q : Nat} {most : Int} {M R : List Pl}
theorem DX.call (h : DX w0 w p m q most M R) (hb : Below w.heap.size w w') : DX w0 w' p m q most M R := by
  obtain ⟨b, c, h1, h2, h3⟩ := h.st
  exact ⟨⟨b, c, h1.below hb (Nat.le_refl _), h2.below hb (Nat.le_refl _), h3⟩, thenB h.low hb h.low.size, h.le, h.ne⟩
theorem DX.room {f : Fr} (h : (M.length : Int) - 1 ≤ most) : (((putF most M f).1.length : Nat) : Int) - 1 ≤ most := by
  unfold putF
  split
  · split
    · exact h
    · split
      · exact h
      · rename_i h3
        simp
        omega
  · exact h
theorem dnew (h : SX w0 w p m most [(zF, 0)]) (hm : 0 ≤ most ∧ most ≤ 1048576) : Calls Try.prog 9 #[.int .i64 most] w fun e w' => ∃ q, e = .returned (.tuple #[ptr q, .int .i64 0]) ∧ DX w0 w' p m q most [(zF, 0)] [(zF, 0)] := by
  refine (rnew_any most w).mono ?_
  rintro e w' ⟨hB, ⟨-, -, q, c, rfl, hq, hc, hst⟩ | ⟨h2, -⟩⟩
  · obtain ⟨b, h1, h3⟩ := h.st
    have ap := h1.apart
    have hs := h.low.size
    exact ⟨q, rfl, ⟨b, c, h1.below hB (Nat.le_refl _), hst, h3, by omega, by omega, by omega, by omega, by omega⟩, thenB h.low hB hs, ⟨h.le.1, h.le.2, by omega⟩, by omega, by omega⟩
  · exact absurd hm h2
theorem dput (f : Fr) (h : DX w0 w p m q most M R) (hf : f.i64) (hlen : M.length < 1000000) : Calls Try.prog 10 #[ptr p, .agg (frC f)] w fun e w' => e = .returned (.tuple #[.int .i64 ((putF most M f).2.1 : Int), .int .i64 (putF most M f).2.2]) ∧ DX w0 w' p m q most (putF most M f).1 R := by
  obtain ⟨b, c, h1, h2, h3, h4, h5, h6, h7, h8⟩ := h.st
  refine (put_any p b m most M f w h1 hf hlen).mono ?_
  rintro e w' ⟨rfl, b', k1, k2, k3⟩
  have hs := h.low.size
  have ap := h2.apart
  have ap1 := h1.apart
  have hne := h.ne
  refine ⟨rfl, ⟨b', c, k1, h2.keep fun j hj => ?_, ?_, h4, ?_, ?_, h7, h8⟩, k3.below h.low hs h.le.1 h3 h.le.2.1, h.le, h.ne⟩
  · rcases hj with rfl | rfl
    · exact k3.keep _ ap.1 (Ne.symm hne.1) (Ne.symm h6) (Ne.symm hne.2)
    · exact k3.keep _ ap.2.1 h7 (Ne.symm h5) h8
  · rcases k2 with e | e <;> omega
  · rcases k2 with e | e <;> omega
  · rcases k2 with e | e <;> omega
theorem drput (f : Fr) (h : DX w0 w p m q most M R) (hf : f.i64) (hroom : (R.length : Int) - 1 ≤ most) (hlen : R.length < 1000000) : Calls Try.prog 11 #[ptr q, .agg (frC f)] w fun e w' => e = .returned (.tuple #[.int .i64 ((putF most R f).2.1 : Int), .int .i64 (putF most R f).2.2]) ∧ DX w0 w' p m q most M (putF most R f).1 := by
  obtain ⟨b, c, h1, h2, h3, h4, h5, h6, h7, h8⟩ := h.st
  refine (rput_any q c most R f w h2 hf hroom hlen).mono ?_
  rintro e w' ⟨rfl, c', k1, k2, k3, k4⟩
  have hs := h.low.size
  have ap := h2.apart
  have ap1 := h1.apart
  have hne := h.ne
  refine ⟨rfl, ⟨b, c', h1.keep fun j hj => ?_, k1, h3, ?_, ?_, h6, ?_, ?_⟩, h.low.trans ⟨k3.os, k3.tape, k3.output, k3.size, fun j hj => k4 j (by omega) (by have := h.le.2.2; omega) (by omega)⟩, h.le, h.ne⟩
  · rcases hj with rfl | rfl | rfl
    · exact k4 _ ap1.1 hne.1 (Ne.symm h7)
    · exact k4 _ ap1.2.1 h6 h5
    · exact k4 _ ap1.2.2.1 hne.2 (Ne.symm h8)
  · rcases k2 with e | e <;> omega
  · rcases k2 with e | e <;> omega
  · rcases k2 with e | e <;> omega
  · rcases k2 with e | e <;> omega
theorem dget (z : Int) (h : DX w0 w p m q most M R) : Calls Try.prog 13 #[ptr p, .int .i64 z] w fun e w' => e = .returned (.tuple #[.agg (frC (getF M z)), .bool (decide (0 ≤ z ∧ z < M.length))]) ∧ DX w0 w' p m q most M R := by
  obtain ⟨b, c, h1, h2, -⟩ := h.st
  exact (get_any p b m most M z w h1).mono fun e w' k => ⟨k.1, h.call k.2⟩
theorem drget (z : Int) (h : DX w0 w p m q most M R) : Calls Try.prog 14 #[ptr q, .int .i64 z] w fun e w' => e = .returned (.tuple #[.agg (frC (getF R z)), .bool (decide (0 ≤ z ∧ z < R.length))]) ∧ Below w.heap.size w w' ∧ DX w0 w' p m q most M R := by
  obtain ⟨b, c, h1, h2, -⟩ := h.st
  exact (rget_any q c most R z w h2).mono fun e w' k => ⟨k.1, k.2, h.call k.2⟩
end
section
variable {ops : Array Oper} {R : World → Prop} {a : Act} {o : Oper} {x y : Operand} {w : World}
theorem neqI_y (z : Int) (ho : o.op = .binOp .neq 3 x y 3) (hx : a.eval x = .int .i64 z) (hy : a.eval y = .int .i64 z) (hw : Region.wanted o (yielded ops a.tmps) = true) : YieldsIf Try.prog ops R o (.bool false) a := by
  refine Or.inl ⟨hw, fun u _ => ?_⟩
  unfold execOp
  simp only [ho, hx, hy]
  go_simp
theorem neqE_y (z : Int) (ho : o.op = .binOp .neq 24 x y 24) (hx : a.eval x = .int .i64 z) (hy : a.eval y = .int .i64 z) (hw : Region.wanted o (yielded ops a.tmps) = true) : YieldsIf Try.prog ops R o (.bool false) a := by
  refine Or.inl ⟨hw, fun u _ => ?_⟩
  unfold execOp
  simp only [ho, hx, hy]
  go_simp
theorem neqB_y (z : Bool) (ho : o.op = .binOp .neq 4 x y 4) (hx : a.eval x = .bool z) (hy : a.eval y = .bool z) (hw : Region.wanted o (yielded ops a.tmps) = true) : YieldsIf Try.prog ops R o (.bool false) a := by
  refine Or.inl ⟨hw, fun u _ => ?_⟩
  unfold execOp
  simp only [ho, hx, hy]
  go_simp
theorem eqB_y (z : Bool) (ho : o.op = .binOp .eql 4 x y 4) (hx : a.eval x = .bool z) (hy : a.eval y = .bool z) (hw : Region.wanted o (yielded ops a.tmps) = true) : YieldsIf Try.prog ops R o (.bool true) a := by
  refine Or.inl ⟨hw, fun u _ => ?_⟩
  unfold execOp
  simp only [ho, hx, hy]
  go_simp
theorem eqI_y (z : Int) (ho : o.op = .binOp .eql 3 x y 3) (hx : a.eval x = .int .i64 z) (hy : a.eval y = .int .i64 z) (hw : Region.wanted o (yielded ops a.tmps) = true) : YieldsIf Try.prog ops R o (.bool true) a := by
  refine Or.inl ⟨hw, fun u _ => ?_⟩
  unfold execOp
  simp only [ho, hx, hy]
  go_simp
theorem neqRr_y (f : Fr) (ho : o.op = .binOp .neq 35 x y 35) (hx : a.eval x = .agg (frC f)) (hy : a.eval y = .agg (frC f)) (hw : Region.wanted o (yielded ops a.tmps) = true) : YieldsIf Try.prog ops R o (.bool false) a := by
  refine Or.inl ⟨hw, fun u _ => ?_⟩
  unfold execOp
  simp only [ho, hx, hy]
  simp [go_sem]
theorem ldFm_y (g k : Nat) (f : Fr) (hR : ∀ u, R u → u.rangeAt g k (frL f)) (ho : o.op = .load 33 x) (hx : a.eval x = .pointer (some ⟨g, k, none⟩)) (hw : Region.wanted o (yielded ops a.tmps) = true) : YieldsIf Try.prog ops R o (.agg (frC f)) a :=
  yieldsIf_load_mid hw 33 x ho g k hx (frL f) _ hR Try.underlying33 rfl sizeFr
end
end Go.Proofs.Ytecfndpbgebpiaa
