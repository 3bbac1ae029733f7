/-
  Layer 12: what a store is in a world; the landed calls that only read.
-/
import Derived.Test.YtecfndpbgebpiaaFrmDef
import Derived.Deep.MidRow
namespace Go.Proofs.Ytecfndpbgebpiaa
open Go.RowKit
open Go.Maps (Keyed IsMap Tidy)

/-- Block g holds these cells. -/
def BoxV (T : TypeId) (w : World) (g : Nat) (cs : Array Value) : Prop := w.heap[g]? = some (.cells cs T (0, 0))
section
variable {T : TypeId} {w w' : World} {g : Nat} {cs : Array Value}
theorem BoxV.lt (h : BoxV T w g cs) : g < w.heap.size := lt_of_block h
theorem BoxV.below {B : Nat} (h : BoxV T w g cs) (hb : Below B w w') (hg : g < B) : BoxV T w' g cs := (hb.block g hg).trans h
theorem BoxV.alloc (h : BoxV T w g cs) (o : Obj) : BoxV T (w.alloc o) g cs := (Below.heap_alloc _ _ _ h.lt).trans h
theorem BoxV.new (w : World) (cs : Array Value) : BoxV T (w.alloc (.cells cs T)) w.heap.size cs := heap_alloc_new _ _
theorem BoxV.get (h : BoxV T w g cs) (i : Nat) {v : Value} (hv : cs[i]? = some v) : w.cell? ⟨g, i, none⟩ = some v := by rw [cell_of_row w g _ _ _ _ h, hv]
theorem BoxV.free (h : BoxV T w g cs) (i : Nat) : w.frozen? ⟨g, i, none⟩ = false := frozen_of_row w g i _ _ h
theorem BoxV.put (h : BoxV T w g cs) (i : Nat) (v : Value) : BoxV T (w.setCell ⟨g, i, none⟩ v) g (cs.setIfInBounds i v) := heap_setCell_same w g i _ _ _ h
end
theorem thenB {B : Nat} {w u v : World} (h : Below B w u) (hb : Below u.heap.size u v) (hB : B ≤ u.heap.size) : Below B w v := h.trans (hb.mono hB)
abbrev ptr (b : Nat) : Value := .pointer (some ⟨b, 0, none⟩)
abbrev slc (b n c : Nat) : Value := .slice (some ⟨b, 0, none⟩) n c
/-- A store's four cells. -/
abbrev stC (p b m n c : Nat) (most : Int) : Array Value := #[.int .i64 most, slc b n c, .map (some m), ptr p]
/-- Block p is a store with room for most, that has the frames M: in a row in block b, and in a map in block m. -/
structure St (w : World) (p b m : Nat) (most : Int) (M : List Pl) : Prop where
  box : ∃ c, BoxV 57 w p (stC p b m M.length c most) ∧ w.ownsRow 0 61 6 (slc b M.length c) M.length (M.flatMap plL)
  map : ∃ D : DataW Unit, w.ownsMap Try.prog 33 (plainElem Try.prog 3) m M.length D ∧ MapOf D M
  wf : Wf M
  len : M.length ≤ 1000000
  most : 0 ≤ most ∧ most ≤ 1048576
theorem flat_get : ∀ (M : List Pl) (i j : Nat), i < M.length → j < 6 → (M.flatMap plL)[i * 6 + j]? = (plL (M.getD i (zF, 0)))[j]?
  | [], i, j, h, _ => by simp at h
  | y :: r, 0, j, _, hj => by
    rw [List.flatMap_cons, List.getElem?_append_left (by simp [plL]; omega)]
    simp
  | y :: r, i + 1, j, h, hj => by
    rw [List.flatMap_cons, List.getElem?_append_right (by simp [plL]; omega)]
    have := flat_get r i j (by simpa using h) hj
    rw [show (i + 1) * 6 + j - (plL y).length = i * 6 + j by simp [plL]; omega, this]
    simp
theorem addr_add (b o j : Nat) : (⟨b, o, none⟩ : Addr).add j = ⟨b, o + j, none⟩ := Addr.add_mid b o j
section
variable {w w' : World} {p b m : Nat} {most : Int} {M : List Pl}
theorem owns_block {c : Nat} {n : Nat} {xs : List Value} {T : TypeId} {s : Nat} (h : w.ownsRow 0 T s (slc b n c) n xs) : ∃ cur, w.heap[b]? = some (.cells cur T (0, 0)) := by
  rcases h.2 with ⟨e, -⟩ | ⟨g, cap, cur, e, -, h3, -⟩
  · cases e
  · injection e with e1 e2 e3
    injection e1 with e1; injection e1 with e1
    exact ⟨cur, e1 ▸ h3⟩
/-- The cells of the frame number i. -/
theorem owns_cell {c : Nat} (h : w.ownsRow 0 61 6 (slc b M.length c) M.length (M.flatMap plL)) {i j : Nat} (hi : i < M.length) (hj : j < 6) : w.cell? ⟨b, i * 6 + j, none⟩ = (plL (M.getD i (zF, 0)))[j]? := by
  obtain ⟨v, hv⟩ : ∃ v, (plL (M.getD i (zF, 0)))[j]? = some v := ⟨_, List.getElem?_eq_getElem (by simp [plL]; omega)⟩
  have := h.cells (g := b) rfl (i * 6 + j) v (by rw [flat_get M i j hi hj, hv])
  rw [addr_add, Nat.zero_add] at this
  rw [this, hv]
theorem St.cell (h : St w p b m most M) {i j : Nat} (hi : i < M.length) (hj : j < 6) : w.cell? ⟨b, i * 6 + j, none⟩ = (plL (M.getD i (zF, 0)))[j]? := by
  obtain ⟨c, -, h2⟩ := h.box
  exact owns_cell h2 hi hj
/-- The three blocks are there, and no two are the same. -/
theorem St.apart (h : St w p b m most M) : p < w.heap.size ∧ b < w.heap.size ∧ m < w.heap.size ∧ p ≠ b ∧ p ≠ m ∧ b ≠ m := by
  obtain ⟨c, h1, h2⟩ := h.box
  obtain ⟨D, ⟨es, cl, h3, -⟩, -⟩ := h.map
  obtain ⟨cur, h4⟩ := owns_block h2
  refine ⟨h1.lt, lt_of_block h4, lt_of_block h3, ?_, ?_, ?_⟩
  · rintro rfl
    rw [h1] at h4
    injection h4 with h4; injection h4 with _ h4
    exact absurd h4 (by decide)
  · rintro rfl
    rw [h1] at h3
    injection h3 with h3; cases h3
  · rintro rfl
    rw [h4] at h3
    injection h3 with h3; cases h3
theorem St.keep (h : St w p b m most M) (hk : ∀ j, j = p ∨ j = b ∨ j = m → w'.heap[j]? = w.heap[j]?) : St w' p b m most M := by
  obtain ⟨c, h1, h2⟩ := h.box
  obtain ⟨D, ⟨es, cl, h3, h4⟩, h5⟩ := h.map
  refine ⟨⟨c, (hk p (.inl rfl)).trans h1, h2.1, ?_⟩, ⟨D, ⟨es, cl, (hk m (.inr (.inr rfl))).trans h3, h4⟩, h5⟩, h.wf, h.len, h.most⟩
  rcases h2.2 with ⟨e, -⟩ | ⟨g, cap, cur, e, h0, h6, h7⟩
  · cases e
  · have e1 : g = b := by injection e with e1; injection e1 with e1; injection e1 with e1; exact e1.symm
    exact .inr ⟨g, cap, cur, e, h0, (hk g (.inr (.inl e1))).trans h6, h7⟩
theorem St.below {B : Nat} (h : St w p b m most M) (hb : Below B w w') (hB : w.heap.size ≤ B) : St w' p b m most M :=
  h.keep fun j hj => hb.block j (by have := h.apart; rcases hj with rfl | rfl | rfl <;> omega)
end

set_option maxHeartbeats 1000000 in
theorem len_any (p b m : Nat) (most : Int) (M : List Pl) (w : World) (h : St w p b m most M) :
    Calls Try.prog 15 #[ptr p] w fun e w' => e = .returned (.int .i64 ((M.length : Int) - 1)) ∧ Below w.heap.size w w' := by
  obtain ⟨c, hb, -⟩ := h.box
  have h1 := hb.get 1 rfl
  have hl := h.len
  have hl1 := h.wf.len
  obtain ⟨n, hn⟩ : ∃ n, M.length = n := ⟨_, rfl⟩
  rw [hn] at h1 hl hl1 ⊢
  have n0 : (1 : Int) ≤ n := by omega
  have n1 : (n : Int) ≤ 1000000 := by omega
  clear h hb hn hl hl1
  go_enter Try.func15, Try.ntmps15
  go_wp2_with fail
  go_ret
  exact ⟨by first | rfl | (congr 2; go_num), by go_grown⟩

set_option maxHeartbeats 1000000 in
theorem has_any (p b m : Nat) (most : Int) (M : List Pl) (z : Int) (w : World) (h : St w p b m most M) :
    Calls Try.prog 22 #[ptr p, .int .i64 z] w fun e w' => e = .returned (.bool (decide (0 ≤ z ∧ z < M.length))) ∧ Below w.heap.size w w' := by
  obtain ⟨c, hb, -⟩ := h.box
  have h1 := hb.get 1 rfl
  have hl := h.len
  obtain ⟨n, hn⟩ : ∃ n, M.length = n := ⟨_, rfl⟩
  rw [hn] at h1 hl ⊢
  have n1 : (n : Int) ≤ 1000000 := by omega
  clear h hb hn hl
  by_cases k0 : 0 ≤ z
  · by_cases k1 : z < n
    · have e : decide (0 ≤ z ∧ z < n) = true := by simp [k0, k1]
      rw [e]
      clear e
      go_enter Try.func22, Try.ntmps22
      go_wp2_with fail
      go_ret
      exact ⟨rfl, by go_grown⟩
    · have e : decide (0 ≤ z ∧ z < n) = false := by simp [k1]
      rw [e]
      clear e
      go_enter Try.func22, Try.ntmps22
      go_wp2_with fail
      go_ret
      exact ⟨rfl, by go_grown⟩
  · have e : decide (0 ≤ z ∧ z < n) = false := by simp [k0]
    rw [e]
    clear e
    go_enter Try.func22, Try.ntmps22
    go_wp2_with fail
    go_ret
    exact ⟨rfl, by go_grown⟩

theorem sizeFr : (Try.prog.info? 33).map (·.size) = some 5 := by kernel_rfl
/-- A frame in the middle of the row. -/
theorem St.frame {w : World} {p b m : Nat} {most : Int} {M : List Pl} (h : St w p b m most M) {i : Nat} (hi : i < M.length) : w.rangeAt b (i * 6) (frL (frI M i)) := fun j v hv => by
  have hj : j < 5 := by
    rcases Nat.lt_or_ge j 5 with q | q
    · exact q
    · rw [List.getElem?_eq_none (by simpa using q)] at hv; cases hv
  rw [h.cell hi (by omega), ← hv]
  rcases (show j = 0 ∨ j = 1 ∨ j = 2 ∨ j = 3 ∨ j = 4 by omega) with rfl | rfl | rfl | rfl | rfl <;> rfl
theorem St.dp {w : World} {p b m : Nat} {most : Int} {M : List Pl} (h : St w p b m most M) {i : Nat} (hi : i < M.length) : w.cell? ⟨b, i * 6 + 5, none⟩ = some (.int .i64 (dpI M i : Int)) := by
  rw [h.cell hi (by omega)]
  rfl
/-- What Get answers. -/
def getF (M : List Pl) (z : Int) : Fr := if 0 ≤ z ∧ z < M.length then frI M z.toNat else zF
def dpF (M : List Pl) (z : Int) : Nat := if 0 ≤ z ∧ z < M.length then dpI M z.toNat else 0

set_option maxHeartbeats 1000000 in
theorem deep_any (p b m : Nat) (most : Int) (M : List Pl) (z : Int) (w : World) (h : St w p b m most M) :
    Calls Try.prog 16 #[ptr p, .int .i64 z] w fun e w' => e = .returned (.int .i64 (dpF M z : Int)) ∧ Below w.heap.size w w' := by
  have H := Lib.hid h
  obtain ⟨c, hb, -⟩ := h.box
  clear h
  by_cases k : 0 ≤ z ∧ z < M.length
  · obtain ⟨i, rfl⟩ : ∃ i : Nat, z = i := ⟨z.toNat, by omega⟩
    have hi : i < M.length := by omega
    have ev : dpF M (i : Int) = dpI M i := by unfold dpF; rw [if_pos k]; rfl
    rw [ev]
    have hc := has_any p b m most M (i : Int) w H.out
    have dk : decide (0 ≤ (i : Int) ∧ (i : Int) < M.length) = true := decide_eq_true k
    rw [dk] at hc
    have HC := Lib.hid hc
    clear hc dk ev hb k
    go_enter Try.func16, Try.ntmps16
    go_wp2_with fail
    refine HC.out.mono ?_
    rintro e w1 ⟨rfl, hB⟩
    have H1 := Lib.hid (H.out.below hB (Nat.le_refl _))
    have BB := Lib.hid hB
    obtain ⟨c1, hb1, -⟩ := H1.out.box
    have h1 := hb1.get 1 rfl
    have h2 := H1.out.dp hi
    clear hb1 hB
    have i0 : (0 : Int) ≤ i := by omega
    have i1 : (i : Int) < M.length := by omega
    go_wp2_with fail
    go_ret
    exact ⟨rfl, BB.out⟩
  · have ev : dpF M z = 0 := by unfold dpF; rw [if_neg k]
    rw [ev]
    have hc := has_any p b m most M z w H.out
    have dk : decide (0 ≤ z ∧ z < M.length) = false := decide_eq_false k
    rw [dk] at hc
    have HC := Lib.hid hc
    clear hc dk ev hb k
    go_enter Try.func16, Try.ntmps16
    go_wp2_with fail
    refine HC.out.mono ?_
    rintro e w1 ⟨rfl, hB⟩
    have BB := Lib.hid hB
    clear hB
    go_wp2_with fail
    go_ret
    exact ⟨rfl, BB.out⟩

section
variable {ops : Array Oper} {rest : List Oper} {o : Oper} {a : Act} {w : World} {Q : Exit → Act → World → Prop}
theorem loadFr (hgd : o.guard = none) (x : Operand) (ho : o.op = .load 33 x) (b k : Nat) (f : Fr) (hx : a.eval x = .pointer (some ⟨b, k, none⟩)) (hg : w.rangeAt b k (frL f))
    (h : wpList Try.prog ops Q rest (a.put o.dst (.agg (frC f))) w) : wpList Try.prog ops Q (o :: rest) a w :=
  wpList_load_mid hgd 33 x ho b k hx (frL f) _ hg Try.underlying33 rfl sizeFr h
theorem BoxV.fr {g : Nat} {f : Fr} (h : BoxV 33 w g (frC f)) : w.rangeAt g 0 (frL f) := fun j v hv => by
  rw [Nat.zero_add]
  exact h.get j (by simpa using hv)
theorem storeFr (hgd : o.guard = none) (x y : Operand) (ho : o.op = .store 33 x y) (g : Nat) (f0 f : Fr) (hx : a.eval x = .pointer (some ⟨g, 0, none⟩)) (hy : a.eval y = .agg (frC f)) (hg : BoxV 33 w g (frC f0))
    (h : ∀ u : World, Hid (BoxV 33 u g (frC f)) → Hid (∀ B, B ≤ g → Below B w u) → wpList Try.prog ops Q rest (a.put o.dst undef) u) : wpList Try.prog ops Q (o :: rest) a w := by
  refine wpList_store_row hgd 33 x y ho g _ hx hy _ _ hg sizeFr rfl (by simp [Value.oneCell']) ?_
  exact h _ (Lib.hid (setRow_heap w g _ _ _ _ hg)) (Lib.hid fun B hB => (Below.refl _ w).trans ⟨rfl, rfl, rfl, by simp, fun k hk => setRow_other w g k _ (by omega)⟩)
end
end Go.Proofs.Ytecfndpbgebpiaa
