/-
  Layer 5: what the landed package ast does: spans.
-/
import Derived.Test.YtcjefhjhmmoocaaAstBeg
import Derived.Test.YtcjefhjhmmoocaaAstRefC
import Derived.Test.YtcjefhjhmmoocaaTakeG
import Derived.OwnWalk
namespace Go.Proofs.Ytcjefhjhmmoocaa
open Go.RowKit

section
variable {ops : Array Oper} {a : Act} {o : Oper} {x y : Operand} {R : World → Prop}
theorem idxS_y (g n m : Nat) {z : Int} (hm : m < n ∧ z = (m : Int)) (ho : o.op = .indexAddr 57 x y) (hx : a.eval x = .slice (some ⟨g, 0, none⟩) n n) (hy : a.eval y = .int .i64 z) (hw : Region.wanted o (yielded ops a.tmps) = true) : YieldsIf Try.prog ops R o (.pointer (some ⟨g, m * 2, none⟩)) a := by
  obtain ⟨hm, rfl⟩ := hm
  refine Or.inl ⟨hw, fun w _ => ?_⟩
  have k0 : (0 : Int) ≤ m := by omega
  have k1 : (m : Int) < n := by omega
  unfold execOp
  simp only [ho, hx, hy]
  go_simp
theorem loadI_y (g k : Nat) (n : Int) (hR : ∀ u, R u → u.cell? ⟨g, k, none⟩ = some (.int .i64 n)) (ho : o.op = .load 3 x) (hx : a.eval x = .pointer (some ⟨g, k, none⟩)) (hw : Region.wanted o (yielded ops a.tmps) = true) : YieldsIf Try.prog ops R o (.int .i64 n) a := by
  refine Or.inl ⟨hw, fun u h => ?_⟩
  have hc := hR u h
  unfold execOp
  simp only [ho, hx]
  go_simp
end
section
variable {P : Program} {ops : Array Oper} {Q : Exit → Act → World → Prop} {md : Region.Mode} {S : World → Prop} {fuel : Nat} {listed : Array Bool} {a : Act} {w : World}
/-- Operation number i stores two numbers side by side, and nothing else can come up. -/
theorem pairAt (i : Nat) {oi : Oper} {x y : Operand} (g k : Nat) (v0 v1 : Int) {o0 o1 : Value} (h0 : w.cell? ⟨g, k, none⟩ = some o0) (h1 : w.cell? ⟨g, k + 1, none⟩ = some o1) (f0 : w.frozen? ⟨g, k, none⟩ = false) (f1 : w.frozen? ⟨g, k + 1, none⟩ = false)
    (hi : ops[i]? = some oi) (hd : oi.dst = none) (ho : oi.op = .store 56 x y) (hr : Region.ready md ops listed = [i]) (hw : Region.wanted oi (yielded ops a.tmps) = true)
    (hx : a.eval x = .pointer (some ⟨g, k, none⟩)) (hy : a.eval y = .agg #[.int .i64 v0, .int .i64 v1])
    (hS : S ((w.setCell ⟨g, k, none⟩ (.int .i64 v0)).setCell ⟨g, k + 1, none⟩ (.int .i64 v1)))
    (hgo : wpAnyH Try.prog md ops Q S fuel (listed.setIfInBounds i true) a ((w.setCell ⟨g, k, none⟩ (.int .i64 v0)).setCell ⟨g, k + 1, none⟩ (.int .i64 v1))) : wpAnyH Try.prog md ops Q S (fuel + 1) listed a w := by
  refine wpAnyH_ready (rs := [i]) hr (by simp) (AllReadyH.cons hi (fun K hK => ?_) AllReadyH.nil)
  rw [if_pos hw]
  have hK2 := Lib.hid (hK.out _ _ hS (fun _ => hgo))
  clear hS hgo hK
  unfold Oper.wp
  have hrun : (execOp a.eval oi).run Try.prog w = .ok .skip ((w.setCell ⟨g, k, none⟩ (.int .i64 v0)).setCell ⟨g, k + 1, none⟩ (.int .i64 v1)) := by
    unfold execOp
    simp only [ho, hx, hy]
    go_simp
  rw [hrun]
  unfold Oper.upon
  rw [hd]
  exact hK2.out
end
/-- All cells but those of block g from place k on are as they were. -/
def Off (g k : Nat) (W u : World) : Prop := ∀ b o, (b ≠ g ∨ o < k * 2) → u.cell? ⟨b, o, none⟩ = W.cell? ⟨b, o, none⟩
theorem Off.drew (g k : Nat) (W : World) : Off g k W W.drew := fun _ _ _ => rfl
theorem Off.store {g k : Nat} {W u : World} (h : Off g k W u) (v v' : Value) : Off g k W ((u.setCell ⟨g, k * 2, none⟩ v).setCell ⟨g, k * 2 + 1, none⟩ v') := fun b o hbo => by
  rw [World.cell?_setCell_other _ _ _ _ (by rintro e; simp at e; omega), World.cell?_setCell_other _ _ _ _ (by rintro e; simp at e; omega)]
  exact h b o hbo
/-- The row of spans, as far as it is told. -/
def spV (l : Nat → Nd) (k : Nat) (j : Nat) : Value := .int .i64 (if j / 2 < k then (if j % 2 = 0 then (len l (j / 2 + 1)).1 else (len l (j / 2 + 1)).2) else 0)
theorem sp_at (l : Nat → Nd) (k j : Nat) (h : j < k) : spV l k (j * 2) = .int .i64 (len l (j + 1)).1 ∧ spV l k (j * 2 + 1) = .int .i64 (len l (j + 1)).2 := by
  unfold spV
  rw [show j * 2 / 2 = j by omega, show (j * 2 + 1) / 2 = j by omega, if_pos h, if_pos h, if_pos (by omega), if_neg (by omega)]
  exact ⟨rfl, rfl⟩
theorem sp_next {l : Nat → Nd} {k n : Nat} {F : Nat → Value} (hF : ∀ i, i ≠ k * 2 → i ≠ k * 2 + 1 → F i = spV l k i) (h0 : F (k * 2) = .int .i64 (len l (k + 1)).1) (h1 : F (k * 2 + 1) = .int .i64 (len l (k + 1)).2) : ∀ i, i < n → F i = spV l (k + 1) i := by
  intro i hi
  obtain ⟨a0, a1⟩ := sp_at l (k + 1) k (by omega)
  by_cases e : i = k * 2
  · subst e; rw [h0, a0]
  · by_cases e1 : i = k * 2 + 1
    · subst e1; rw [h1, a1]
    · rw [hF i e e1]
      unfold spV
      by_cases h : i / 2 < k
      · rw [if_pos h, if_pos (show i / 2 < k + 1 by omega)]
      · rw [if_neg h, if_neg (show ¬ i / 2 < k + 1 by omega)]
theorem sp_none {l : Nat → Nd} {k n : Nat} (h : len l (k + 1) = (0, 0)) : ∀ i, i < n → spV l k i = spV l (k + 1) i := by
  refine sp_next (fun _ _ _ => rfl) ?_ ?_
  · unfold spV; rw [if_neg (by omega), h]
  · unfold spV; rw [if_neg (by omega), h]
theorem infoS : (Try.prog.info? 56).map (fun i => (i.zero, i.size, i.bytes)) = some (some (.agg #[.int .i64 0, .int .i64 0]), 2, 16) := by kernel_rfl
theorem make_spans (n : Nat) (hn : n ≤ 1000000) (w : World) : (Instr.makeSlice 57 (.int .i64 (n : Int)) (.int .i64 (n : Int))).run Try.prog w = .ok (.slice (some ⟨w.heap.size, 0, none⟩) n n) (w.alloc (.cells (madeCells #[.int .i64 0, .int .i64 0] (n * 2)) 56)) := by
  obtain ⟨i, hi, hz, hs, hb⟩ := info_parts infoS
  have hr := run_make (P := Try.prog) w 57 56 i _ Try.underlying57 hi hz .i64 .i64 n n (by omega) (Int.le_refl _) (by rw [hb]; omega) (by omega)
  simp only [Int.toNat_natCast, hs] at hr
  exact hr
theorem spans_made (w : World) (n : Nat) (l : Nat → Nd) : (w.alloc (.cells (madeCells #[.int .i64 0, .int .i64 0] (n * 2)) 56)).rowIs w.heap.size 56 (n * 2) (spV l 0) := by
  refine ⟨_, Go.Deep.blk_alloc_new _ _, size_madeCells _ _, fun i hi => ?_⟩
  have h2 : i % 2 < 2 := Nat.mod_lt _ (by omega)
  rcases (by omega : i % 2 = 0 ∨ i % 2 = 1) with h | h <;> simp [madeCells, hi, h, spV]
end Go.Proofs.Ytcjefhjhmmoocaa
