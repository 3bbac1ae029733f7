import Derived.Test.YteggpecbeagohaaGreatDoorTakeG
namespace Go.Proofs.YteggpecbeagohaaGreatDoor.Cap
open Go.RowKit
structure Cp where
 is : Nat → Bool
 fr : Nat → Int
 to : Nat → Int
abbrev cpC (c : Cp) : Array Value := #[.bool (c.is 0), .bool (c.is 1), .bool (c.is 2), .bool (c.is 3), .bool (c.is 4), .bool (c.is 5), .bool (c.is 6), .bool (c.is 7), .bool (c.is 8),
 .int .i64 (c.fr 0), .int .i64 (c.to 0), .int .i64 (c.fr 1), .int .i64 (c.to 1), .int .i64 (c.fr 2), .int .i64 (c.to 2), .int .i64 (c.fr 3), .int .i64 (c.to 3), .int .i64 (c.fr 4), .int .i64 (c.to 4), .int .i64 (c.fr 5), .int .i64 (c.to 5), .int .i64 (c.fr 6), .int .i64 (c.to 6), .int .i64 (c.fr 7), .int .i64 (c.to 7), .int .i64 (c.fr 8), .int .i64 (c.to 8)]
def zrC : Cp := ⟨fun _ => false, fun _ => 0, fun _ => 0⟩
def Cp.set (c : Cp) (k : Nat) (x y : Int) : Cp := ⟨fun j => if j = k then true else c.is j, fun j => if j = k then x else c.fr j, fun j => if j = k then y else c.to j⟩
theorem lt9 {k : Nat} (h : k < 9) : k = 0 ∨ k = 1 ∨ k = 2 ∨ k = 3 ∨ k = 4 ∨ k = 5 ∨ k = 6 ∨ k = 7 ∨ k = 8 := by omega
theorem cpC_is (c : Cp) (k : Nat) (h : k < 9) : (cpC c)[k]? = some (.bool (c.is k)) := by
 rcases lt9 h with rfl | rfl | rfl | rfl | rfl | rfl | rfl | rfl | rfl <;> rfl
theorem cpC_fr (c : Cp) (k : Nat) (h : k < 9) : (cpC c)[9 + 2 * k]? = some (.int .i64 (c.fr k)) := by
 rcases lt9 h with rfl | rfl | rfl | rfl | rfl | rfl | rfl | rfl | rfl <;> rfl
theorem cpC_to (c : Cp) (k : Nat) (h : k < 9) : (cpC c)[9 + 2 * k + 1]? = some (.int .i64 (c.to k)) := by
 rcases lt9 h with rfl | rfl | rfl | rfl | rfl | rfl | rfl | rfl | rfl <;> rfl
theorem cpC_set (c : Cp) (k : Nat) (h : k < 9) (x y : Int) : (((cpC c).setIfInBounds k (.bool true)).setIfInBounds (9 + 2 * k) (.int .i64 x)).setIfInBounds (9 + 2 * k + 1) (.int .i64 y) = cpC (c.set k x y) := by
 rcases lt9 h with rfl | rfl | rfl | rfl | rfl | rfl | rfl | rfl | rfl <;> rfl
def I64 (n : Int) : Prop := -9223372036854775808 ≤ n ∧ n ≤ 9223372036854775807
def mayP (x y : Int) : Prop := 0 ≤ x ∧ x ≤ y ∧ y ≤ 10000
instance (x y : Int) : Decidable (mayP x y) := inferInstanceAs (Decidable (_ ∧ _ ∧ _))
def grpP (g : Int) : Prop := 1 ≤ g ∧ g ≤ 9
instance (g : Int) : Decidable (grpP g) := inferInstanceAs (Decidable (_ ∧ _))
def getZ (c : Cp) (g : Int) : Option (Int × Int) := if grpP g ∧ c.is (g - 1).toNat = true then some (c.fr (g - 1).toNat, c.to (g - 1).toNat) else none
theorem getZ_some {c : Cp} {g x y : Int} (h : getZ c g = some (x, y)) : ∃ k : Nat, k < 9 ∧ g = (k : Int) + 1 ∧ c.is k = true ∧ c.fr k = x ∧ c.to k = y := by
 unfold getZ at h
 split at h
 ·rename_i hc
  obtain ⟨⟨h1, h2⟩, h3⟩ := hc
  injection h with h; injection h with e1 e2
  exact ⟨(g - 1).toNat, by omega, by omega, h3, e1, e2⟩
 ·cases h
theorem getZ_none {c : Cp} {g : Int} (h : getZ c g = none) : ¬ grpP g ∨ ∃ k : Nat, k < 9 ∧ g = (k : Int) + 1 ∧ c.is k = false := by
 unfold getZ at h
 split at h
 ·cases h
 ·rename_i hc
  by_cases hg : grpP g
  ·refine .inr ⟨(g - 1).toNat, by have := hg.1; have := hg.2; omega, by have := hg.1; omega, ?_⟩
   cases hi : c.is (g - 1).toNat with
   | true => exact absurd ⟨hg, hi⟩ hc
   | false => rfl
  ·exact .inl hg
def withZ (c : Cp) (g x y : Int) : Cp × Int := if grpP g ∧ mayP x y then (c.set (g - 1).toNat x y, 0) else (zrC, 1)
def pieceZ (c : Cp) (n : Nat) (g : Int) : Option (Nat × Nat) :=
 match getZ c g with
 | some (x, y) => if mayP x y ∧ y ≤ n then some (x.toNat, y.toNat) else none
 | none => none
theorem pieceZ_some {c : Cp} {n a b : Nat} {g : Int} (h : pieceZ c n g = some (a, b)) : getZ c g = some ((a : Int), (b : Int)) ∧ a ≤ b ∧ b ≤ 10000 ∧ b ≤ n := by
 unfold pieceZ at h
 cases hg : getZ c g with
 | none => rw [hg] at h; cases h
 | some p =>
   obtain ⟨x, y⟩ := p
   rw [hg] at h
   simp only at h
   split at h
   ·rename_i hc
    obtain ⟨⟨h1, h2, h3⟩, h4⟩ := hc
    injection h with h; injection h with e1 e2
    have : (a : Int) = x := by omega
    have : (b : Int) = y := by omega
    subst_vars
    refine ⟨?_, by omega, by omega, by omega⟩
    congr 2 <;> omega
   ·cases h
theorem pieceZ_none {c : Cp} {n : Nat} {g : Int} (h : pieceZ c n g = none) : getZ c g = none ∨ ∃ x y, getZ c g = some (x, y) ∧ ¬ (mayP x y ∧ y ≤ n) := by
 unfold pieceZ at h
 cases hg : getZ c g with
 | none => exact .inl rfl
 | some p =>
   obtain ⟨x, y⟩ := p
   rw [hg] at h
   simp only at h
   split at h
   ·cases h
   ·exact .inr ⟨x, y, rfl, by assumption⟩
def BoxV (T : TypeId) (w : World) (g : Nat) (cs : Array Value) : Prop := w.heap[g]? = some (.cells cs T (0, 0))
section
variable {T : TypeId} {w w' : World} {g : Nat} {cs : Array Value}
theorem BoxV.lt (h : BoxV T w g cs) : g < w.heap.size := lt_of_block h
theorem BoxV.below {B : Nat} (h : BoxV T w g cs) (hb : Below B w w') (hg : g < B) : BoxV T w' g cs := (hb.block g hg).trans h
theorem BoxV.alloc (h : BoxV T w g cs) (o : Obj) : BoxV T (w.alloc o) g cs := (Below.heap_alloc _ _ _ h.lt).trans h
theorem BoxV.new (w : World) (cs : Array Value) : BoxV T (w.alloc (.cells cs T)) w.heap.size cs := heap_alloc_new _ _
theorem BoxV.get (h : BoxV T w g cs) (i : Nat) {v : Value} (hv : cs[i]? = some v) : w.cell? ⟨g, i, none⟩ = some v := by rw [cell_of_row w g _ _ _ _ h, hv]
theorem BoxV.free (h : BoxV T w g cs) (i : Nat) : w.frozen? ⟨g, i, none⟩ = false := frozen_of_row w g i _ _ h
theorem BoxV.put (h : BoxV T w g cs) (i : Nat) (v : Value) : BoxV T (w.setCell ⟨g, i, none⟩ v) g (cs.setIfInBounds i v) := heap_setCell_same w g i _ _ _ h
end
theorem thenB {B : Nat} {w u v : World} (h : Below B w u) (hb : Below u.heap.size u v) (hB : B ≤ u.heap.size) : Below B w v := h.trans (hb.mono hB)
theorem ret_b {a b : Bool} (h : a = b) : Ending.returned (.bool a) = .returned (.bool b) := by rw [h]
theorem sizeCaps : (Tryz.prog.info? 26).map (·.size) = some 27 := by kernel_rfl
theorem sizeRef : (Tryz.prog.info? 32).map (·.size) = some 27 := by kernel_rfl
section
variable {ops : Array Oper} {rest : List Oper} {o : Oper} {a : Act} {w : World} {Q : Exit → Act → World → Prop}
theorem loadC (hgd : o.guard = none) (x : Operand) (ho : o.op = .load 26 x) (g : Nat) (c : Cp) (hx : a.eval x = .pointer (some ⟨g, 0, none⟩)) (hg : BoxV 26 w g (cpC c))
  (h : wpList Tryz.prog ops Q rest (a.put o.dst (.agg (cpC c))) w) : wpList Tryz.prog ops Q (o :: rest) a w :=
 wpList_load_row hgd 26 x ho g hx _ _ _ _ hg Tryz.underlying26 rfl sizeCaps h
theorem storeC (hgd : o.guard = none) (x y : Operand) (ho : o.op = .store 26 x y) (g : Nat) (c : Cp) (cs : Array Value) (hx : a.eval x = .pointer (some ⟨g, 0, none⟩)) (hy : a.eval y = .agg (cpC c)) (hs : cs.size = 27) (hg : BoxV 26 w g cs)
  (h : ∀ u : World, Hid (BoxV 26 u g (cpC c)) → Hid (∀ B, B ≤ g → Below B w u) → Hid (∀ j, j ≠ g → u.heap[j]? = w.heap[j]?) → wpList Tryz.prog ops Q rest (a.put o.dst undef) u) : wpList Tryz.prog ops Q (o :: rest) a w := by
 refine wpList_store_row hgd 26 x y ho g _ hx hy _ _ hg sizeCaps (by rw [hs]; rfl) (by simp [Value.oneCell']) ?_
 exact h _ (Lib.hid (setRow_heap w g _ _ _ _ hg)) (Lib.hid fun B hB => (Below.refl _ w).trans ⟨rfl, rfl, rfl, by simp, fun k hk => setRow_other w g k _ (by omega)⟩) (Lib.hid fun k hk => setRow_other w g k _ hk)
theorem storeR (hgd : o.guard = none) (x y : Operand) (ho : o.op = .store 32 x y) (g : Nat) (c : Cp) (cs : Array Value) (hx : a.eval x = .pointer (some ⟨g, 0, none⟩)) (hy : a.eval y = .agg (cpC c)) (hs : cs.size = 27) (hg : BoxV 32 w g cs)
  (h : ∀ u : World, Hid (BoxV 32 u g (cpC c)) → Hid (∀ B, B ≤ g → Below B w u) → Hid (∀ j, j ≠ g → u.heap[j]? = w.heap[j]?) → wpList Tryz.prog ops Q rest (a.put o.dst undef) u) : wpList Tryz.prog ops Q (o :: rest) a w := by
 refine wpList_store_row hgd 32 x y ho g _ hx hy _ _ hg sizeRef (by rw [hs]; rfl) (by simp [Value.oneCell']) ?_
 exact h _ (Lib.hid (setRow_heap w g _ _ _ _ hg)) (Lib.hid fun B hB => (Below.refl _ w).trans ⟨rfl, rfl, rfl, by simp, fun k hk => setRow_other w g k _ (by omega)⟩) (Lib.hid fun k hk => setRow_other w g k _ hk)
end
theorem below_drewN {B : Nat} {w u : World} (h : Below B w u) (q : Nat) : Below B w (u.drewN q) := ⟨h.os, h.tape, h.output, h.size, h.block⟩
theorem afterBox {w w1 : World} {A : Obj} (h : Below (w.alloc A).heap.size (w.alloc A) w1) : Below w.heap.size w w1 := thenB ((Below.refl _ w).alloc (Nat.le_refl _) A) h (by simp)
theorem newB {B : Nat} {w w1 : World} (h : Below B w w1) (hB : B ≤ w1.heap.size) (A : Obj) : Below B w (w1.alloc A) := h.alloc hB A
structure StopS (p : Prop) : Prop where
 out : p
end Go.Proofs.YteggpecbeagohaaGreatDoor.Cap
namespace Go.Proofs.YteggpecbeagohaaGreatDoor.Cap
open Go.RowKit
theorem cells1 : Tryz.prog.cellsOf 4 = 1 := by kernel_rfl
theorem cells2 : Tryz.prog.cellsOf 3 = 1 := by kernel_rfl
theorem cells3 : Tryz.prog.cellsOf 23 = 2 := by kernel_rfl
@[go_sem] theorem eqTwo (m : Nat) (a b a' b' : Int) (w : World) : (Op.equalIn (m + 2) 23 (.agg #[.int .i64 a, .int .i64 b]) (.agg #[.int .i64 a', .int .i64 b'])).run Tryz.prog w = .ok (a == a' && b == b') w := by
  obtain ⟨i, hi⟩ : ∃ i, Tryz.prog.info? 3 = some i := Option.isSome_iff_exists.1 (by kernel_rfl)
  rw [show m + 2 = (m + 1) + 1 from rfl, run_equalIn_array w (m + 1) _ _ Tryz.underlying23 hi, cells2]
  show (Op.eqItems (m + 1) 3 1 _ _ [0, 1]).run Tryz.prog w = _
  simp [go_sem, Op.eqItems]
  by_cases h1 : a = a' <;> by_cases h2 : b = b' <;> simp [h1, h2]
theorem ite_ok {p : Prop} [Decidable p] {x : Bool} {w : World} : (if p then Result.ok x w else Result.ok false w) = Result.ok (decide p && x) w := by
 by_cases h : p <;> simp [h]
theorem ite_no {p : Prop} [Decidable p] {x : Bool} {w : World} : (if p then Result.ok false w else Result.ok x w) = Result.ok (!decide p && x) w := by
 by_cases h : p <;> simp [h]
theorem beq_eq_decide' {α : Type} [DecidableEq α] (a b : α) : (a == b) = decide (a = b) := rfl
theorem eqIs (m : Nat) (a b : Nat → Bool) (w : World) : (Op.equalIn (m + 2) 22 (.agg #[.bool (a 0), .bool (a 1), .bool (a 2), .bool (a 3), .bool (a 4), .bool (a 5), .bool (a 6), .bool (a 7), .bool (a 8)]) (.agg #[.bool (b 0), .bool (b 1), .bool (b 2), .bool (b 3), .bool (b 4), .bool (b 5), .bool (b 6), .bool (b 7), .bool (b 8)])).run Tryz.prog w = .ok ((List.range 9).all fun j => a j == b j) w := by
 obtain ⟨i, hi⟩ : ∃ i, Tryz.prog.info? 4 = some i := Option.isSome_iff_exists.1 (by kernel_rfl)
 rw [show m + 2 = (m + 1) + 1 from rfl, run_equalIn_array w (m + 1) _ _ Tryz.underlying22 hi, cells1]
 show (Op.eqItems (m + 1) 4 1 _ _ [0, 1, 2, 3, 4, 5, 6, 7, 8]).run Tryz.prog w = .ok ([0, 1, 2, 3, 4, 5, 6, 7, 8].all _) w
 simp [go_sem, Op.eqItems]
 simp only [ite_ok]
 simp [beq_eq_decide']
theorem eqAt (m : Nat) (a b c d : Nat → Int) (w : World) : (Op.equalIn (m + 3) 24 (.agg #[.int .i64 (a 0), .int .i64 (b 0), .int .i64 (a 1), .int .i64 (b 1), .int .i64 (a 2), .int .i64 (b 2), .int .i64 (a 3), .int .i64 (b 3), .int .i64 (a 4), .int .i64 (b 4), .int .i64 (a 5), .int .i64 (b 5), .int .i64 (a 6), .int .i64 (b 6), .int .i64 (a 7), .int .i64 (b 7), .int .i64 (a 8), .int .i64 (b 8)]) (.agg #[.int .i64 (c 0), .int .i64 (d 0), .int .i64 (c 1), .int .i64 (d 1), .int .i64 (c 2), .int .i64 (d 2), .int .i64 (c 3), .int .i64 (d 3), .int .i64 (c 4), .int .i64 (d 4), .int .i64 (c 5), .int .i64 (d 5), .int .i64 (c 6), .int .i64 (d 6), .int .i64 (c 7), .int .i64 (d 7), .int .i64 (c 8), .int .i64 (d 8)])).run Tryz.prog w = .ok ((List.range 9).all fun j => a j == c j && b j == d j) w := by
 obtain ⟨i, hi⟩ : ∃ i, Tryz.prog.info? 23 = some i := Option.isSome_iff_exists.1 (by kernel_rfl)
 rw [show m + 3 = (m + 2) + 1 from rfl, run_equalIn_array w (m + 2) _ _ Tryz.underlying24 hi, cells3]
 show (Op.eqItems (m + 2) 23 2 _ _ [0, 1, 2, 3, 4, 5, 6, 7, 8]).run Tryz.prog w = .ok ([0, 1, 2, 3, 4, 5, 6, 7, 8].all _) w
 simp [go_sem, Op.eqItems]
 simp only [ite_no]
 simp [beq_eq_decide']
def eqC (c d : Cp) : Bool := ((List.range 9).all fun j => c.is j == d.is j) && ((List.range 9).all fun j => c.fr j == d.fr j && c.to j == d.to j)
theorem eqCaps (c d : Cp) (w : World) : (Op.equalIn 10000 26 (.agg (cpC c)) (.agg (cpC d))).run Tryz.prog w = .ok (eqC c d) w := by
 have h1 := eqIs 9997 c.is d.is w
 have h2 := eqAt 9996 c.fr c.to d.fr d.to w
 simp only [Nat.reduceAdd] at h1 h2
 unfold eqC
 generalize ((List.range 9).all fun j => c.is j == d.is j) = x at h1 ⊢
 generalize ((List.range 9).all fun j => c.fr j == d.fr j && c.to j == d.to j) = y at h2 ⊢
 simp [go_sem]
 simp only [h1, h2, Result.andThen_ok]
 cases x <;> cases y <;> rfl
theorem eqRef (c d : Cp) (w : World) : (Op.equalIn 10000 32 (.agg (cpC c)) (.agg (cpC d))).run Tryz.prog w = .ok (eqC c d) w := by
 have h1 := eqIs 9997 c.is d.is w
 have h2 := eqAt 9996 c.fr c.to d.fr d.to w
 simp only [Nat.reduceAdd] at h1 h2
 unfold eqC
 generalize ((List.range 9).all fun j => c.is j == d.is j) = x at h1 ⊢
 generalize ((List.range 9).all fun j => c.fr j == d.fr j && c.to j == d.to j) = y at h2 ⊢
 simp [go_sem]
 simp only [h1, h2, Result.andThen_ok]
 cases x <;> cases y <;> rfl
@[go_sem high] theorem eqlCaps (c d : Cp) (w : World) : (binOp .eql 26 (.agg (cpC c)) (.agg (cpC d))).run Tryz.prog w = .ok (.bool (eqC c d)) w := by
  rw [run_eql_struct, eqCaps]
  rfl
@[go_sem high] theorem neqCaps (c d : Cp) (w : World) : (binOp .neq 26 (.agg (cpC c)) (.agg (cpC d))).run Tryz.prog w = .ok (.bool (!eqC c d)) w := by
  rw [run_neq_struct, eqCaps]
  rfl
@[go_sem high] theorem neqRef (c d : Cp) (w : World) : (binOp .neq 32 (.agg (cpC c)) (.agg (cpC d))).run Tryz.prog w = .ok (.bool (!eqC c d)) w := by
  rw [run_neq_struct, eqRef]
  rfl
end Go.Proofs.YteggpecbeagohaaGreatDoor.Cap
