import Derived.Test.YteggpecbeagohaaGreatDoorFrmDef
import Derived.Deep.MidRow
namespace Go.Proofs.YteggpecbeagohaaGreatDoor.Frm
open Go.RowKit
open Go.Maps (Keyed IsMap Tidy)
def BoxV (T : TypeId) (w : World) (g : Nat) (cs : Array Value) : Prop := w.heap[g]? = some (.cells cs T (0, 0))
section
variable {T : TypeId} {w w' : World} {g : Nat} {cs : Array Value}
theorem BoxV.lt (h : BoxV T w g cs) : g < w.heap.size := lt_of_block h
theorem BoxV.below {B : Nat} (h : BoxV T w g cs) (hb : Below B w w') (hg : g < B) : BoxV T w' g cs := (hb.block g hg).trans h
theorem BoxV.alloc (h : BoxV T w g cs) (o : Obj) : BoxV T (w.alloc o) g cs := (Below.heap_alloc _ _ _ h.lt).trans h
theorem BoxV.new (w : World) (cs : Array Value) : BoxV T (w.alloc (.cells cs T)) w.heap.size cs := heap_alloc_new _ _
theorem BoxV.get (h : BoxV T w g cs) (i : Nat) {v : Value} (hv : cs[i]? = some v) : w.cell? ⟨g, i, none⟩ = some v := by rw [cell_of_row w g _ _ _ _ h, hv]
theorem BoxV.free (h : BoxV T w g cs) (i : Nat) : w.frozen? ⟨g, i, none⟩ = false := frozen_of_row w g i _ _ h
theorem BoxV.put (h : BoxV T w g cs) (i : Nat) (v : Value) : BoxV T (w.setCell ⟨g, i, none⟩ v) g (cs.setIfInBounds i v) := heap_setCell_same w g i _ _ _ h
end
abbrev ptr (b : Nat) : Value := .pointer (some ⟨b, 0, none⟩)
abbrev slc (b n c : Nat) : Value := .slice (some ⟨b, 0, none⟩) n c
abbrev stC (p b m n c : Nat) (most : Int) : Array Value := #[.int .i64 most, slc b n c, .map (some m), ptr p]
structure St (w : World) (p b m : Nat) (most : Int) (M : List Pl) : Prop where
 box : ∃ c, BoxV 83 w p (stC p b m M.length c most) ∧ w.ownsRow 0 112 6 (slc b M.length c) M.length (M.flatMap plL)
 map : ∃ D : DataW Unit, w.ownsMap Tryz.prog 90 (plainElem Tryz.prog 3) m M.length D ∧ MapOf D M
 wf : Wf M
 len : M.length ≤ 1000000
 most : 0 ≤ most ∧ most ≤ 1048576
theorem flat_get : ∀ (M : List Pl) (i j : Nat), i < M.length → j < 6 → (M.flatMap plL)[i * 6 + j]? = (plL (M.getD i (zF, 0)))[j]?
 | [], i, j, h, _ => by simp at h
 | y :: r, 0, j, _, hj => by
   rw [List.flatMap_cons, List.getElem?_append_left (by simp [plL]; omega)]
   simp
 | y :: r, i + 1, j, h, hj => by
   rw [List.flatMap_cons, List.getElem?_append_right (by simp [plL]; omega)]
   have := flat_get r i j (by simpa using h) hj
   rw [show (i + 1) * 6 + j - (plL y).length = i * 6 + j by simp [plL]; omega, this]
   simp
theorem addr_add (b o j : Nat) : (⟨b, o, none⟩ : Addr).add j = ⟨b, o + j, none⟩ := Addr.add_mid b o j
section
variable {w w' : World} {p b m : Nat} {most : Int} {M : List Pl}
theorem owns_block {c : Nat} {n : Nat} {xs : List Value} {T : TypeId} {s : Nat} (h : w.ownsRow 0 T s (slc b n c) n xs) : ∃ cur, w.heap[b]? = some (.cells cur T (0, 0)) := by
 rcases h.2 with ⟨e, -⟩ | ⟨g, cap, cur, e, -, h3, -⟩
 ·cases e
 ·injection e with e1 e2 e3
  injection e1 with e1; injection e1 with e1
  exact ⟨cur, e1 ▸ h3⟩
theorem owns_cell {c : Nat} (h : w.ownsRow 0 112 6 (slc b M.length c) M.length (M.flatMap plL)) {i j : Nat} (hi : i < M.length) (hj : j < 6) : w.cell? ⟨b, i * 6 + j, none⟩ = (plL (M.getD i (zF, 0)))[j]? := by
 obtain ⟨v, hv⟩ : ∃ v, (plL (M.getD i (zF, 0)))[j]? = some v := ⟨_, List.getElem?_eq_getElem (by simp [plL]; omega)⟩
 have := h.cells (g := b) rfl (i * 6 + j) v (by rw [flat_get M i j hi hj, hv])
 rw [addr_add, Nat.zero_add] at this
 rw [this, hv]
theorem St.apart (h : St w p b m most M) : p < w.heap.size ∧ b < w.heap.size ∧ m < w.heap.size ∧ p ≠ b ∧ p ≠ m ∧ b ≠ m := by
 obtain ⟨c, h1, h2⟩ := h.box
 obtain ⟨D, ⟨es, cl, h3, -⟩, -⟩ := h.map
 obtain ⟨cur, h4⟩ := owns_block h2
 refine ⟨h1.lt, lt_of_block h4, lt_of_block h3, ?_, ?_, ?_⟩
 ·rintro rfl
  rw [h1] at h4
  injection h4 with h4; injection h4 with _ h4
  exact absurd h4 (by decide)
 ·rintro rfl
  rw [h1] at h3
  injection h3 with h3; cases h3
 ·rintro rfl
  rw [h4] at h3
  injection h3 with h3; cases h3
end
theorem sizeFr : (Tryz.prog.info? 90).map (·.size) = some 5 := by kernel_rfl
def getF (M : List Pl) (z : Int) : Fr := if 0 ≤ z ∧ z < M.length then frI M z.toNat else zF
section
variable {ops : Array Oper} {rest : List Oper} {o : Oper} {a : Act} {w : World} {Q : Exit → Act → World → Prop}
theorem loadFr (hgd : o.guard = none) (x : Operand) (ho : o.op = .load 90 x) (b k : Nat) (f : Fr) (hx : a.eval x = .pointer (some ⟨b, k, none⟩)) (hg : w.rangeAt b k (frL f))
  (h : wpList Tryz.prog ops Q rest (a.put o.dst (.agg (frC f))) w) : wpList Tryz.prog ops Q (o :: rest) a w :=
 wpList_load_mid hgd 90 x ho b k hx (frL f) _ hg Tryz.underlying90 rfl sizeFr h
theorem BoxV.fr {g : Nat} {f : Fr} (h : BoxV 90 w g (frC f)) : w.rangeAt g 0 (frL f) := fun j v hv => by
 rw [Nat.zero_add]
 exact h.get j (by simpa using hv)
theorem storeFr (hgd : o.guard = none) (x y : Operand) (ho : o.op = .store 90 x y) (g : Nat) (f0 f : Fr) (hx : a.eval x = .pointer (some ⟨g, 0, none⟩)) (hy : a.eval y = .agg (frC f)) (hg : BoxV 90 w g (frC f0))
  (h : ∀ u : World, Hid (BoxV 90 u g (frC f)) → Hid (∀ B, B ≤ g → Below B w u) → wpList Tryz.prog ops Q rest (a.put o.dst undef) u) : wpList Tryz.prog ops Q (o :: rest) a w := by
 refine wpList_store_row hgd 90 x y ho g _ hx hy _ _ hg sizeFr rfl (by simp [Value.oneCell']) ?_
 exact h _ (Lib.hid (setRow_heap w g _ _ _ _ hg)) (Lib.hid fun B hB => (Below.refl _ w).trans ⟨rfl, rfl, rfl, by simp, fun k hk => setRow_other w g k _ (by omega)⟩)
end
end Go.Proofs.YteggpecbeagohaaGreatDoor.Frm
