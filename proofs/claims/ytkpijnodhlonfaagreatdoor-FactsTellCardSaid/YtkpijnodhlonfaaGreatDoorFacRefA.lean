/-
  Layer 9, the document's answer: what is known, as cells.
-/
import Derived.Test.YtkpijnodhlonfaaGreatDoorFacA
import Derived.Test.YtkpijnodhlonfaaGreatDoorRefM
import Derived.Deep.MidRow
namespace Go.Proofs.YtkpijnodhlonfaaGreatDoor
open Go.RowKit

/-- The cells of the document's facts. -/
def rfC (k : FK) : Array Value := bitsA k.F ++ #[.bool k.op, .bool k.fa, .string k.pr]
theorem rfC_size (k : FK) : (rfC k).size = 259 := by unfold rfC; rw [Array.size_append, bitsA_size]; rfl
theorem rfC_bit (k : FK) (i : Nat) (h : i < 256) : (rfC k)[i]? = some (.bool (mem k.F i)) := by
  unfold rfC
  rw [Array.getElem?_append_left (by rw [bitsA_size]; exact h), bitsA_get _ _ h]
theorem rfC_op (k : FK) : (rfC k)[256]? = some (.bool k.op) := by unfold rfC; rw [Array.getElem?_append_right (by rw [bitsA_size]; omega), bitsA_size]; rfl
theorem rfC_fa (k : FK) : (rfC k)[257]? = some (.bool k.fa) := by unfold rfC; rw [Array.getElem?_append_right (by rw [bitsA_size]; omega), bitsA_size]; rfl
theorem rfC_pr (k : FK) : (rfC k)[258]? = some (.string k.pr) := by unfold rfC; rw [Array.getElem?_append_right (by rw [bitsA_size]; omega), bitsA_size]; rfl
theorem rfC_one (k : FK) : (rfC k).all (·.oneCell') = true := by
  unfold rfC
  rw [Array.all_append, bitsA_one]
  simp [Value.oneCell']
theorem sizeRf : (Tryz.prog.info? 39).map (·.size) = some 259 := by kernel_rfl
set_option maxRecDepth 100000 in
@[go_sem] theorem zero259 (w : World) : (zeroValue 39).run Tryz.prog w = .ok (.agg (rfC zrK)) w := by kernel_rfl
set_option maxRecDepth 100000 in
@[go_sem] theorem zeroRf : Tryz.zeroCells39 = rfC zrK := by kernel_rfl
set_option maxRecDepth 100000 in
@[go_sem high] theorem build259 (w : World) : (Instr.build 39 #[]).run Tryz.prog w = .ok (.agg (rfC zrK)) w := by kernel_rfl
set_option maxRecDepth 100000 in
@[go_sem high] theorem buildRf (S : BitVec 256) (a b : Bool) (s : ByteArray) (w : World) : (Instr.build 39 #[(0, .agg (bitsA S)), (1, .bool a), (2, .bool b), (3, .string s)]).run Tryz.prog w = .ok (.agg (rfC ⟨S, a, b, s, false⟩)) w := by kernel_rfl
abbrev BoxR (w : World) (g : Nat) (k : FK) : Prop := BoxV 39 w g (rfC k)
theorem BoxR.bits {w : World} {g : Nat} {k : FK} (h : BoxR w g k) : w.rangeAt g 0 (bitsA k.F).toList := fun j v hv => by
  have hj : j < 256 := by
    rcases Nat.lt_or_ge j 256 with h | h
    · exact h
    · rw [List.getElem?_eq_none (by simp [bitsA_size]; exact h)] at hv
      cases hv
  rw [Array.getElem?_toList, bitsA_get _ _ hj] at hv
  rw [Nat.zero_add, cell_of_row w g j _ _ _ h, rfC_bit k j hj]
  exact hv
theorem BoxR.op {w : World} {g : Nat} {k : FK} (h : BoxR w g k) : w.cell? ⟨g, 256, none⟩ = some (.bool k.op) := (cell_of_row w g 256 _ _ _ h).trans (rfC_op k)
theorem BoxR.fa {w : World} {g : Nat} {k : FK} (h : BoxR w g k) : w.cell? ⟨g, 257, none⟩ = some (.bool k.fa) := (cell_of_row w g 257 _ _ _ h).trans (rfC_fa k)
theorem BoxR.pr {w : World} {g : Nat} {k : FK} (h : BoxR w g k) : w.cell? ⟨g, 258, none⟩ = some (.string k.pr) := (cell_of_row w g 258 _ _ _ h).trans (rfC_pr k)
section
variable {ops : Array Oper} {rest : List Oper} {o : Oper} {a : Act} {w : World} {Q : Exit → Act → World → Prop}
theorem loadRf9 (hgd : o.guard = none) (x : Operand) (ho : o.op = .load 39 x) (g : Nat) (k : FK) (hx : a.eval x = .pointer (some ⟨g, 0, none⟩)) (hg : BoxR w g k)
    (h : wpList Tryz.prog ops Q rest (a.put o.dst (.agg (rfC k))) w) : wpList Tryz.prog ops Q (o :: rest) a w :=
  wpList_load_row hgd 39 x ho g hx _ _ _ _ hg Tryz.underlying39 rfl (by rw [rfC_size]; exact sizeRf) h
theorem loadRs9 (hgd : o.guard = none) (x : Operand) (ho : o.op = .load 37 x) (g : Nat) (k : FK) (S : BitVec 256) (hF : k.F = S) (hx : a.eval x = .pointer (some ⟨g, 0, none⟩)) (hg : BoxR w g k)
    (h : wpList Tryz.prog ops Q rest (a.put o.dst (.agg (bitsA S))) w) : wpList Tryz.prog ops Q (o :: rest) a w := by
  subst hF
  exact wpList_load_mid hgd 37 x ho g 0 hx (bitsA k.F).toList _ (BoxR.bits hg) Tryz.underlying37 rfl (by rw [Array.length_toList, bitsA_size]; exact sizeRef) (by simpa using h)
theorem storeRf9 (hgd : o.guard = none) (x y : Operand) (ho : o.op = .store 39 x y) (g : Nat) (k k' : FK) (hx : a.eval x = .pointer (some ⟨g, 0, none⟩)) (hy : a.eval y = .agg (rfC k)) (hg : BoxR w g k')
    (h : ∀ u : World, Hid (BoxR u g k) → Hid (∀ B, B ≤ g → Below B w u) → Hid (∀ j, j ≠ g → u.heap[j]? = w.heap[j]?) → wpList Tryz.prog ops Q rest (a.put o.dst undef) u) : wpList Tryz.prog ops Q (o :: rest) a w := by
  refine wpList_store_row hgd 39 x y ho g _ hx hy _ _ hg (by rw [rfC_size]; exact sizeRf) (by rw [rfC_size, rfC_size]) (rfC_one k) ?_
  exact h _ (Lib.hid (setRow_heap w g _ _ _ _ hg)) (Lib.hid fun B hB => (Below.refl _ w).trans ⟨rfl, rfl, rfl, by simp, fun k hk => setRow_other w g k _ (by omega)⟩) (Lib.hid fun k hk => setRow_other w g k _ hk)
theorem storeRn9 (hgd : o.guard = none) (x y : Operand) (ho : o.op = .store 39 x y) (wr : World) (k : FK) (hx : a.eval x = .pointer (some ⟨wr.heap.size, 0, none⟩)) (hy : a.eval y = .agg (rfC k)) (hw : w = wr.alloc (.cells (rfC zrK) 39))
    (h : ∀ u : World, Hid (BoxR u wr.heap.size k) → Hid (Below wr.heap.size wr u) → wpList Tryz.prog ops Q rest (a.put o.dst undef) u) : wpList Tryz.prog ops Q (o :: rest) a w := by
  subst hw
  refine storeRf9 hgd x y ho wr.heap.size k zrK hx hy (BoxV.new _ _) fun u h1 h2 _ => ?_
  exact h u h1 (Lib.hid (((Below.refl _ wr).alloc (Nat.le_refl _) _).trans (h2.out _ (Nat.le_refl _))))
end
theorem resRb9 {fn : Func} {p q : Tmp} {k : FK} {v : Value} (h : fn.results = #[.cell p 39, .tmp q]) (tmps : Array Value) {w : World} {g : Nat} (hp : tmps.getD p undef = .pointer (some ⟨g, 0, none⟩)) (hq : tmps.getD q undef = v) (hg : BoxR w g k) :
    (results fn tmps).run Tryz.prog w = .ok (.tuple #[.agg (rfC k), v]) w := by
  have hp' : tmps[p]?.getD undef = .pointer (some ⟨g, 0, none⟩) := by simpa using hp
  have hq' : tmps[q]?.getD undef = v := by simpa using hq
  have hl := run_loadVar_row w g 39 39 (rfC k) (0, 0) _ hg Tryz.underlying39 rfl (by rw [rfC_size]; exact sizeRf)
  simp [results, h, hp', hq', asAddr, hl]
/-- The document's cut. -/
theorem rcut9_any (s : ByteArray) (b : Bool) (w : World) (hs : s.size ≤ 1000000) : Calls Tryz.prog 73 #[.string s, .bool b] w fun e w' => e = .returned (.tuple #[.string (if 100 < s.size then s.extract 0 100 else s), .bool (if 100 < s.size then false else b)]) ∧ w = w' := by
  by_cases h : 100 < s.size
  · rw [if_pos h, if_pos h]
    go_enter Tryz.func73, Tryz.ntmps73
    go_wp2
    go_ret2
    exact ⟨rfl, rfl⟩
  · rw [if_neg h, if_neg h]
    go_enter Tryz.func73, Tryz.ntmps73
    go_wp2
    go_ret2
    exact ⟨rfl, rfl⟩
end Go.Proofs.YtkpijnodhlonfaaGreatDoor
