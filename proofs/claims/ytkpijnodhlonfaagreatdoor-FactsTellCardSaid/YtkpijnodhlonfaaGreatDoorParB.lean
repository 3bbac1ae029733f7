/-
  ParMem, ParKit
-/
import Derived.Test.YtkpijnodhlonfaaGreatDoorParA
namespace Go.Proofs.YtkpijnodhlonfaaGreatDoor
open Go.RowKit
open Ast (Nd joinL wrapL deepZ rightZ Nodes)

/-- Below block number B the world w' is as w was, but for block g. -/
structure ButR (g B : Nat) (w w' : World) : Prop where
  os : w'.os = w.os
  tape : w'.tape = w.tape
  output : w'.output = w.output
  size : w.heap.size ≤ w'.heap.size
  block : ∀ k, k < B → k ≠ g → w'.heap[k]? = w.heap[k]?
theorem ButR.of {g B : Nat} {w w' : World} (h : Below B w w') : ButR g B w w' := ⟨h.os, h.tape, h.output, h.size, fun k hk _ => h.block k hk⟩
theorem ButR.refl (g B : Nat) (w : World) : ButR g B w w := .of (Below.refl B w)
theorem ButR.trans {g B : Nat} {a b c : World} (h : ButR g B a b) (k : ButR g B b c) : ButR g B a c :=
  ⟨k.os.trans h.os, k.tape.trans h.tape, k.output.trans h.output, Nat.le_trans h.size k.size, fun i hi hg => (k.block i hi hg).trans (h.block i hi hg)⟩
theorem ButR.mono {g B B' : Nat} {w w' : World} (h : ButR g B w w') (hB : B' ≤ B) : ButR g B' w w' := ⟨h.os, h.tape, h.output, h.size, fun k hk hg => h.block k (Nat.lt_of_lt_of_le hk hB) hg⟩
theorem ButR.then {g B : Nat} {w u v : World} (h : ButR g B w u) (k : ButR g u.heap.size u v) (hB : B ≤ u.heap.size) : ButR g B w v := h.trans (k.mono hB)
theorem ButR.below {g B : Nat} {w w' : World} (h : ButR g B w w') {C : Nat} (hC : C ≤ B) (hg : C ≤ g) : Below C w w' := ⟨h.os, h.tape, h.output, h.size, fun k hk => h.block k (by omega) (by omega)⟩
theorem ButR.setCell {g B : Nat} {a w : World} (h : ButR g B a w) (j : Nat) (u : Value) : ButR g B a (w.setCell ⟨g, j, none⟩ u) :=
  h.trans ⟨rfl, rfl, rfl, by simp [World.setCell], fun k _ hk => Below.heap_setCell _ _ _ _ hk⟩
/-- The reader: the tokens that are left, which flags hold, how many groups there are. -/
abbrev rdC (A : Option Addr) (n cap : Nat) (f : ByteArray) (c : Nat) : Array Value := #[.slice A n cap, .string f, .int .i64 (c : Int)]
structure RSt (w0 : World) (g : Nat) (w : World) (f : ByteArray) (c : Nat) (l : List Tok) : Prop where
  base : w0.heap.size ≤ g
  cells : ∃ A cap, w.heap[g]? = some (.cells (rdC A l.length cap f c) 138 (0, 0)) ∧ Toks w0 A l ∧ l.length ≤ cap
  below : Below w0.heap.size w0 w
theorem RSt.lt {w0 w : World} {g c : Nat} {f : ByteArray} {l : List Tok} (h : RSt w0 g w f c l) : g < w.heap.size := by
  obtain ⟨A, cap, h1, -, -⟩ := h.cells
  exact lt_of_block h1
theorem RSt.call {w0 w w' : World} {g c : Nat} {f : ByteArray} {l : List Tok} (h : RSt w0 g w f c l) (hb : Below w.heap.size w w') : RSt w0 g w' f c l := by
  obtain ⟨A, cap, h1, h2, h3⟩ := h.cells
  exact ⟨h.base, ⟨A, cap, (hb.block g h.lt).trans h1, h2, h3⟩, thenB h.below hb h.below.size⟩

theorem opens_any (k : Int) (w : World) : Calls Tryz.prog 93 #[.int .i64 k] w fun e w' => e = .returned (.bool (opens k)) ∧ w = w' := by
  by_cases h1 : 7 ≤ k
  · have g1 : decide (7 ≤ k) = true := decide_eq_true h1
    by_cases h2 : k ≤ 14
    · have g2 : decide (k ≤ 14) = true := decide_eq_true h2
      have HO := Lib.hid (show opens k = true from decide_eq_true ⟨h1, h2⟩)
      go_enter Tryz.func93, Tryz.ntmps93
      go_wp2_with fail
      go_ret
      exact ⟨by rw [HO.out]; rfl, rfl⟩
    · have g2 : decide (k ≤ 14) = false := decide_eq_false h2
      have HO := Lib.hid (show opens k = false from decide_eq_false (fun h => h2 h.2))
      go_enter Tryz.func93, Tryz.ntmps93
      go_wp2_with fail
      go_ret
      exact ⟨by rw [HO.out]; rfl, rfl⟩
  · have g1 : decide (7 ≤ k) = false := decide_eq_false h1
    have HO := Lib.hid (show opens k = false from decide_eq_false (fun h => h1 h.1))
    go_enter Tryz.func93, Tryz.ntmps93
    go_wp2_with fail
    go_ret
    exact ⟨by rw [HO.out]; rfl, rfl⟩

theorem next_any {w0 w : World} {g c : Nat} {f : ByteArray} {l : List Tok} (h : RSt w0 g w f c l) (hl : l.length ≤ 2000) : Calls Tryz.prog 132 #[.pointer (some ⟨g, 0, none⟩)] w fun e w' => e = .returned (.int .i64 (kindZ l)) ∧ w = w' := by
  obtain ⟨A, cap, h1, h2, -⟩ := h.cells
  have hc := (cell_of_row w g 0 _ _ _ h1)
  simp only [rdC] at hc
  have hc0 : w.cell? ⟨g, 0, none⟩ = some (.slice A l.length cap) := by rw [hc]; rfl
  clear hc h1
  cases l with
  | nil =>
    clear h2
    go_enter Tryz.func132, Tryz.ntmps132
    go_wp2_with fail
    go_ret
    exact ⟨rfl, rfl⟩
  | cons t l =>
    obtain ⟨b, o, rfl, hb, hx⟩ := (h2.below h.below (Nat.le_refl _)) 0 t rfl
    obtain ⟨c0, -⟩ := hx
    rw [Nat.zero_mul, Nat.add_zero] at c0
    have HK := Lib.hid (show kindZ (t :: l) = t.k from rfl)
    obtain ⟨n, hn⟩ : ∃ n, n = (t :: l).length := ⟨_, rfl⟩
    have hn0 : n ≠ 0 := by rw [hn]; simp
    rw [← hn] at hc0 hl
    clear hn h2 h
    have q1 : ((n : Int) == 0) = false := by simp; omega
    have q2 : ¬ (n : Int) = 0 := by omega
    have q3 : (0 : Int) < (n : Int) := by omega
    go_enter Tryz.func132, Tryz.ntmps132
    go_wp2_with fail
    go_ret
    exact ⟨by rw [HK.out]; rfl, rfl⟩

theorem anotherItem_any {w0 w : World} {g c : Nat} {f : ByteArray} {l : List Tok} (h : RSt w0 g w f c l) (hl : l.length ≤ 2000) : Calls Tryz.prog 129 #[.pointer (some ⟨g, 0, none⟩)] w fun e w' => e = .returned (.bool (!decide (kindZ l = 6 ∨ kindZ l = 15))) ∧ w = w' := by
  have HN := Lib.hid (next_any h hl)
  clear h
  obtain ⟨k, hk⟩ : ∃ k, k = kindZ l := ⟨_, rfl⟩
  rw [← hk] at HN ⊢
  clear hk hl
  by_cases h6 : k = 6
  · have HO := Lib.hid (show (!decide (k = 6 ∨ k = 15)) = false by rw [decide_eq_true (.inl h6)]; rfl)
    have q : (k != 6) = false := by simp [h6]
    clear h6
    go_enter Tryz.func129, Tryz.ntmps129
    go_wp2_with fail
    with_reducible refine HN.out.mono ?_
    rintro e w1 ⟨rfl, rfl⟩
    go_wp2_with fail
    go_ret
    exact ⟨by rw [HO.out]; rfl, rfl⟩
  · have q : (k != 6) = true := by simpa using h6
    by_cases h15 : k = 15
    · have HO := Lib.hid (show (!decide (k = 6 ∨ k = 15)) = false by rw [decide_eq_true (.inr h15)]; rfl)
      have q2 : (k != 15) = false := by simp [h15]
      clear h6 h15
      go_enter Tryz.func129, Tryz.ntmps129
      go_wp2_with fail
      with_reducible refine HN.out.mono ?_
      rintro e w1 ⟨rfl, rfl⟩
      go_wp2_with fail
      go_ret
      exact ⟨by rw [HO.out]; rfl, rfl⟩
    · have HO := Lib.hid (show (!decide (k = 6 ∨ k = 15)) = true by rw [decide_eq_false (by omega)]; rfl)
      have q2 : (k != 15) = true := by simpa using h15
      clear h6 h15
      go_enter Tryz.func129, Tryz.ntmps129
      go_wp2_with fail
      with_reducible refine HN.out.mono ?_
      rintro e w1 ⟨rfl, rfl⟩
      go_wp2_with fail
      go_ret
      exact ⟨by rw [HO.out]; rfl, rfl⟩

def StopP (p : Prop) : Prop := p
theorem stopP {p : Prop} (h : StopP p) : p := h
section
variable {ops : Array Oper} {rest : List Oper} {o : Oper} {a : Act} {w : World} {Q : Exit → Act → World → Prop}
abbrev zeroT (w : World) : World := w.alloc (.cells (tokC (tok0 0)) 126)
/-- A token is stored in a new block. -/
theorem storeNewB (hgd : o.guard = none) (x y : Operand) (ho : o.op = .store 126 x y) (wr : World) (N : Nat) (hN : wr.heap.size = N) (t : Tok) (hx : a.eval x = .pointer (some ⟨N, 0, none⟩)) (cs : Array Value) (hy : a.eval y = .agg cs) (hcs : cs = tokC t) (zs : Array Value) (hz : zs = tokC (tok0 0)) (hw : w = wr.alloc (.cells zs 126))
    (h : ∀ u : World, Hid (BoxT 126 u N t) → Hid (Below N wr u) → wpList Tryz.prog ops Q rest (a.put o.dst undef) u) : wpList Tryz.prog ops Q (o :: rest) a w := by
  subst hw hN hz
  have hg : BoxT 126 (wr.alloc (.cells (tokC (tok0 0)) 126)) wr.heap.size (tok0 0) := BoxT.new _ _
  refine storeT hgd x y ho wr.heap.size (tok0 0) t hx cs hy hcs hg ?_
  exact h _ (Lib.hid (hg.rowSame t)) (Lib.hid (below_row ((Below.refl _ wr).alloc (Nat.le_refl _) _) (Nat.le_refl _) _))
/-- The reader's tokens are stored. -/
theorem storeRd (hgd : o.guard = none) (x y : Operand) (ho : o.op = .store 114 x y) (g : Nat) (A0 A : Option Addr) (n0 cap0 n cap c : Nat) (f : ByteArray) (hx : a.eval x = .pointer (some ⟨g, 0, none⟩)) (hy : a.eval y = .slice A n cap) (hg : w.heap[g]? = some (.cells (rdC A0 n0 cap0 f c) 138 (0, 0)))
    (h : ∀ v : World, Hid (v.heap[g]? = some (.cells (rdC A n cap f c) 138 (0, 0))) → Hid (ButR g w.heap.size w v) → wpList Tryz.prog ops Q rest (a.put o.dst undef) v) : wpList Tryz.prog ops Q (o :: rest) a w := by
  have hc : w.cell? ⟨g, 0, none⟩ = some (.slice A0 n0 cap0) := (cell_of_row w g 0 _ _ _ hg).trans rfl
  have hf := frozen_of_row w g 0 _ _ hg
  have hv := h (w.setCell ⟨g, 0, none⟩ (.slice A n cap)) (Lib.hid (heap_setCell_same _ g 0 _ _ (.slice A n cap) hg)) (Lib.hid ((ButR.refl g _ w).setCell 0 _))
  refine wpList_plain hgd fun K hK => ?_
  unfold Oper.wp execOp
  simp only [ho, hx, hy]
  simp [go_sem, hc, hf]
  exact hK _ _ hv
end
theorem tok10 : #[.int .i64 0, .int .u64 0, .int .u64 0, .int .u64 0, .int .u64 0, .int .i64 0, .int .i64 0, .int .i64 0, .int .i64 0, .string ⟨#[]⟩] = tokC (tok0 0) := by simp [tokC, tok0, W_zero]; rfl
theorem resT1 {fn : Func} {p : Tmp} (h : fn.results = #[.cell p 126]) (tmps : Array Value) {w : World} {g : Nat} {t : Tok} (hp : tmps.getD p undef = .pointer (some ⟨g, 0, none⟩)) (hg : BoxT 126 w g t) :
    (results fn tmps).run Tryz.prog w = .ok (tokV t) w := results_cell_row h tmps w g _ _ _ _ hp hg Tryz.underlying126 rfl (by rw [tokC_size]; exact sizeTok)
theorem BoxT.but {T : TypeId} {w w' : World} {g k B : Nat} {t : Tok} (h : BoxT T w k t) (hb : ButR g B w w') (hk : k < B) (hg : k ≠ g) : BoxT T w' k t := (hb.block k hk hg).trans h
theorem Toks.tail {w : World} {b o : Nat} {t : Tok} {l : List Tok} (h : Toks w (some ⟨b, o, none⟩) (t :: l)) : Toks w (some ⟨b, o + 10, none⟩) l := fun i u hi => by
  obtain ⟨b', o', h1, h2, h3⟩ := h (i + 1) u hi
  cases h1
  exact ⟨b, o + 10, rfl, h2, by rw [show o + 10 + i * 10 = o + (i + 1) * 10 by omega]; exact h3⟩
set_option maxHeartbeats 2000000 in
theorem take_any {w0 w : World} {g c : Nat} {f : ByteArray} {t : Tok} {l : List Tok} (h : RSt w0 g w f c (t :: l)) (hl : l.length ≤ 2000) : Calls Tryz.prog 133 #[.pointer (some ⟨g, 0, none⟩)] w fun e w' => e = .returned (tokV t) ∧ RSt w0 g w' f c l ∧ ButR g w.heap.size w w' := by
  obtain ⟨A, cap, h1, h2, h3⟩ := h.cells
  have hc0 : w.cell? ⟨g, 0, none⟩ = some (.slice A (t :: l).length cap) := (cell_of_row w g 0 _ _ _ h1).trans rfl
  have hlt := h.lt
  obtain ⟨b, o, rfl, hb, hx⟩ := (h2.below h.below (Nat.le_refl _)) 0 t rfl
  have HT := Lib.hid h2
  have H0 := Lib.hid h
  have HH := Lib.hid h1
  have HC := Lib.hid h3
  clear h1 h2 h3 h
  rw [List.length_cons] at hc0
  obtain ⟨n, hn⟩ : ∃ n, n = l.length := ⟨_, rfl⟩
  rw [← hn] at hc0 hl
  have HN := Lib.hid hn
  clear hn
  simp only [Nat.zero_mul, Nat.add_zero] at hx
  obtain ⟨c0, c1, c2, c3, c4, c5, c6, c7, c8, c9⟩ := hx
  have q : (0 : Int) < ((n + 1 : Nat) : Int) := by omega
  go_enter Tryz.func133, Tryz.ntmps133
  go_wp2_with (refine storeNewB rfl _ _ rfl (w.alloc (.cells (tokC (tok0 0)) 126)) (w.heap.size + 1) (by simp) t rfl _ rfl rfl _ tok10 (by rw [← tok10]) ?_; intro u hx hN; refine stopP ?_)
  unfold StopP
  clear c0 c1 c2 c3 c4 c5 c6 c7 c8 c9 hb q
  have hw1 : (w.alloc (.cells (tokC (tok0 0)) 126)).heap.size = w.heap.size + 1 := by simp
  have hg : u.heap[g]? = some (.cells (rdC (some ⟨b, o, none⟩) (t :: l).length cap f c) 138 (0, 0)) := (hN.out.block g (by omega)).trans ((Below.heap_alloc _ _ _ hlt).trans HH.out)
  have hcu : u.cell? ⟨g, 0, none⟩ = some (.slice (some ⟨b, o, none⟩) (n + 1) cap) := by rw [cell_of_row u g 0 _ _ _ hg, HN.out]; rfl
  have HG := Lib.hid hg
  have HU := Lib.hid hN
  clear hc0 hg hN hw1
  by_cases hc1 : cap = 1
  · subst hc1
    have hn0 : n = 0 := by have h1 := HC.out; rw [List.length_cons, ← HN.out] at h1; omega
    have hl0 : l = [] := List.eq_nil_of_length_eq_zero (by rw [← HN.out]; exact hn0)
    have HTL : Toks w0 (some ⟨b, o, none⟩) l := fun i t hi => by rw [hl0] at hi; cases hi
    have HN0 := Lib.hid hn0
    clear hn0 hl0
    go_wp2_with (refine storeRd rfl _ _ rfl g _ (some ⟨b, o, none⟩) _ _ n 0 c f rfl rfl HG.out ?_; intro v hv hbv; refine stopP ?_)
    unfold StopP
    clear hcu
    have hz : BoxT 126 u w.heap.size (tok0 0) := BoxT.below (w := w.alloc (.cells (tokC (tok0 0)) 126)) (BoxT.new _ _) HU.out (by omega)
    have HX := Lib.hid (hx.out.but hbv.out hx.out.lt (by omega))
    have HZ := Lib.hid (hz.but hbv.out hz.lt (by omega))
    have HB := Lib.hid (((ButR.of (g := g) ((Below.refl w.heap.size w).alloc (Nat.le_refl _) (.cells (tokC (tok0 0)) 126))).trans (ButR.of (HU.out.mono (by omega)))).trans (hbv.out.mono (by have := HU.out.size; simp at this; omega)))
    clear hz hx
    go_wp2_with (first | (refine loadT rfl _ rfl (w.heap.size + 1) t rfl HX.out ?_) | (refine storeT rfl _ _ rfl w.heap.size (tok0 0) t rfl _ rfl rfl HZ.out ?_))
    refine bodyPost_ret (resT1 (p := 2) (t := t) rfl _ (g := w.heap.size) rfl (HZ.out.rowSame t)) rfl ?_
    have hB : ButR g w.heap.size w (v.setRow w.heap.size (tokC t)) := HB.out.trans (ButR.of (below_row (Below.refl _ v) (Nat.le_refl _) _))
    refine ⟨rfl, ⟨H0.out.base, ⟨some ⟨b, o, none⟩, 0, ?_, HTL, ?_⟩, H0.out.below.trans (hB.below H0.out.below.size H0.out.base)⟩, hB⟩
    · rw [← HN.out]
      exact (setRow_other v w.heap.size g (tokC t) (by omega)).trans hv.out
    · rw [← HN.out, HN0.out]; exact Nat.le_refl 0
  · have hc2 : ¬ cap - 1 = 0 := by have h1 := HC.out; rw [List.length_cons] at h1; omega
    have HTL := HT.out.tail
    go_wp2_with (refine storeRd rfl _ _ rfl g _ (some ⟨b, o + 10, none⟩) _ _ n (cap - 1) c f rfl rfl HG.out ?_; intro v hv hbv; refine stopP ?_)
    unfold StopP
    clear hcu
    have hz : BoxT 126 u w.heap.size (tok0 0) := BoxT.below (w := w.alloc (.cells (tokC (tok0 0)) 126)) (BoxT.new _ _) HU.out (by omega)
    have HX := Lib.hid (hx.out.but hbv.out hx.out.lt (by omega))
    have HZ := Lib.hid (hz.but hbv.out hz.lt (by omega))
    have HB := Lib.hid (((ButR.of (g := g) ((Below.refl w.heap.size w).alloc (Nat.le_refl _) (.cells (tokC (tok0 0)) 126))).trans (ButR.of (HU.out.mono (by omega)))).trans (hbv.out.mono (by have := HU.out.size; simp at this; omega)))
    clear hz hx
    go_wp2_with (first | (refine loadT rfl _ rfl (w.heap.size + 1) t rfl HX.out ?_) | (refine storeT rfl _ _ rfl w.heap.size (tok0 0) t rfl _ rfl rfl HZ.out ?_))
    refine bodyPost_ret (resT1 (p := 2) (t := t) rfl _ (g := w.heap.size) rfl (HZ.out.rowSame t)) rfl ?_
    have hB : ButR g w.heap.size w (v.setRow w.heap.size (tokC t)) := HB.out.trans (ButR.of (below_row (Below.refl _ v) (Nat.le_refl _) _))
    refine ⟨rfl, ⟨H0.out.base, ⟨some ⟨b, o + 10, none⟩, cap - 1, ?_, HTL, ?_⟩, H0.out.below.trans (hB.below H0.out.below.size H0.out.base)⟩, hB⟩
    · rw [← HN.out]
      exact (setRow_other v w.heap.size g (tokC t) (by omega)).trans hv.out
    · have := HC.out
      rw [List.length_cons] at this
      omega
end Go.Proofs.YtkpijnodhlonfaaGreatDoor

namespace Go.Proofs.YtkpijnodhlonfaaGreatDoor
open Go.RowKit
open Ast (Nd ndV joinL wrapL deepZ rightZ Nodes)

/-- What strings.Contains does at a text of one byte. -/
def HasOk : Prop := ∀ (f : ByteArray) (c : UInt8) (w : World), Calls Tryz.prog 169 #[.string f, .string ⟨#[c]⟩] w fun e w' => e = .returned (.bool (hasF f c.toNat)) ∧ w' = w
theorem holds_any (hH : HasOk) {w0 w : World} {g c : Nat} {f : ByteArray} {l : List Tok} (h : RSt w0 g w f c l) (b : UInt8) : Calls Tryz.prog 165 #[.pointer (some ⟨g, 0, none⟩), .string ⟨#[b]⟩] w fun e w' => e = .returned (.bool (hasF f b.toNat)) ∧ w = w' := by
  obtain ⟨A, cap, h1, -, -⟩ := h.cells
  have hc1 : w.cell? ⟨g, 1, none⟩ = some (.string f) := (cell_of_row w g 1 _ _ _ h1).trans rfl
  have HH := Lib.hid (fun w => hH f b w)
  clear hH h1 h
  go_enter Tryz.func165, Tryz.ntmps165
  go_wp2_with fail
  with_reducible refine (HH.out _).mono ?_
  rintro e w1 ⟨rfl, rfl⟩
  go_wp2_with fail
  go_ret
  exact ⟨rfl, rfl⟩
theorem either_any (hH : HasOk) {w0 w : World} {g c : Nat} {f : ByteArray} {l : List Tok} (h : RSt w0 g w f c l) (x y : Int) : Calls Tryz.prog 166 #[.pointer (some ⟨g, 0, none⟩), .int .i64 x, .int .i64 y] w fun e w' => e = .returned (.int .i64 (if hasF f 109 = true then x else y)) ∧ w = w' := by
  have HO := Lib.hid (holds_any hH h 109)
  clear h hH
  rw [show (109 : UInt8).toNat = 109 from rfl] at HO
  revert HO
  cases hasF f 109 with
  | true =>
    intro HO
    go_enter Tryz.func166, Tryz.ntmps166
    go_wp2_with fail
    with_reducible refine HO.out.mono ?_
    rintro e w1 ⟨rfl, rfl⟩
    go_wp2_with fail
    go_ret
    exact ⟨rfl, rfl⟩
  | false =>
    intro HO
    go_enter Tryz.func166, Tryz.ntmps166
    go_wp2_with fail
    with_reducible refine HO.out.mono ?_
    rintro e w1 ⟨rfl, rfl⟩
    go_wp2_with fail
    go_ret
    exact ⟨rfl, rfl⟩

/-- Block g holds these cells. -/
def BoxV (T : TypeId) (w : World) (g : Nat) (cs : Array Value) : Prop := w.heap[g]? = some (.cells cs T (0, 0))
section
variable {T : TypeId} {w w' : World} {g : Nat} {cs : Array Value}
theorem BoxV.lt (h : BoxV T w g cs) : g < w.heap.size := lt_of_block h
theorem BoxV.below {B : Nat} (h : BoxV T w g cs) (hb : Below B w w') (hg : g < B) : BoxV T w' g cs := (hb.block g hg).trans h
theorem BoxV.but {B k : Nat} (h : BoxV T w g cs) (hb : ButR k B w w') (hg : g < B) (hk : g ≠ k) : BoxV T w' g cs := (hb.block g hg hk).trans h
theorem BoxV.alloc (h : BoxV T w g cs) (o : Obj) : BoxV T (w.alloc o) g cs := (Below.heap_alloc _ _ _ h.lt).trans h
theorem BoxV.row (h : BoxV T w g cs) {k : Nat} (ds : Array Value) (hk : g ≠ k) : BoxV T (w.setRow k ds) g cs := (setRow_other w k g ds hk).trans h
theorem BoxV.rowSame (h : BoxV T w g cs) (ds : Array Value) : BoxV T (w.setRow g ds) g ds := setRow_heap w g _ _ _ _ h
theorem BoxV.new (w : World) (cs : Array Value) : BoxV T (w.alloc (.cells cs T)) w.heap.size cs := heap_alloc_new _ _
theorem BoxV.drew (h : BoxV T w g cs) : BoxV T w.drew g cs := h
end
/-- A node's cells, a tree's cell. -/
abbrev ndC (x : Nd) : Array Value := #[.int .i64 x.k, .int .i64 x.a, .int .i64 x.b, .int .u64 x.s0, .int .u64 x.s1, .int .u64 x.s2, .int .u64 x.s3, .int .i64 x.mn, .int .i64 x.mx, .int .i64 x.md, .int .i64 x.n, .bool x.f]
abbrev trC (A : Option Addr) (n cap : Nat) : Array Value := #[.slice A n cap]
theorem sizeNd : (Tryz.prog.info? 59).map (·.size) = some 12 := by kernel_rfl
theorem sizeTr : (Tryz.prog.info? 24).map (·.size) = some 1 := by kernel_rfl
section
variable {ops : Array Oper} {rest : List Oper} {o : Oper} {a : Act} {w : World} {Q : Exit → Act → World → Prop}
theorem loadNd (hgd : o.guard = none) (x : Operand) (ho : o.op = .load 59 x) (g : Nat) (v : Nd) (hx : a.eval x = .pointer (some ⟨g, 0, none⟩)) (hg : BoxV 59 w g (ndC v))
    (h : wpList Tryz.prog ops Q rest (a.put o.dst (ndV v)) w) : wpList Tryz.prog ops Q (o :: rest) a w :=
  wpList_load_row hgd 59 x ho g hx _ _ _ _ hg Tryz.underlying59 rfl sizeNd h
theorem storeNd (hgd : o.guard = none) (x y : Operand) (ho : o.op = .store 59 x y) (g : Nat) (u v : Nd) (hx : a.eval x = .pointer (some ⟨g, 0, none⟩)) (cs : Array Value) (hy : a.eval y = .agg cs) (hcs : cs = ndC v) (hg : BoxV 59 w g (ndC u))
    (h : wpList Tryz.prog ops Q rest (a.put o.dst undef) (w.setRow g (ndC v))) : wpList Tryz.prog ops Q (o :: rest) a w := by
  subst hcs
  exact wpList_store_row hgd 59 x y ho g _ hx hy _ _ hg sizeNd rfl (by simp [Value.oneCell']) h
theorem loadTr (hgd : o.guard = none) (x : Operand) (ho : o.op = .load 24 x) (g : Nat) (A : Option Addr) (n cap : Nat) (hx : a.eval x = .pointer (some ⟨g, 0, none⟩)) (hg : BoxV 24 w g (trC A n cap))
    (h : wpList Tryz.prog ops Q rest (a.put o.dst (.agg (trC A n cap))) w) : wpList Tryz.prog ops Q (o :: rest) a w :=
  wpList_load_row hgd 24 x ho g hx _ _ _ _ hg Tryz.underlying24 rfl sizeTr h
theorem storeTr (hgd : o.guard = none) (x y : Operand) (ho : o.op = .store 24 x y) (g : Nat) (cs : Array Value) (A : Option Addr) (n cap : Nat) (hx : a.eval x = .pointer (some ⟨g, 0, none⟩)) (hy : a.eval y = .agg (trC A n cap)) (hs : cs.size = 1) (hg : BoxV 24 w g cs)
    (h : wpList Tryz.prog ops Q rest (a.put o.dst undef) (w.setRow g (trC A n cap))) : wpList Tryz.prog ops Q (o :: rest) a w :=
  wpList_store_row hgd 24 x y ho g _ hx hy _ _ hg sizeTr (by rw [hs]; rfl) (by simp [Value.oneCell']) h
end
theorem resNd {fn : Func} {p : Tmp} (h : fn.results = #[.cell p 59]) (tmps : Array Value) {w : World} {g : Nat} {v : Nd} (hp : tmps.getD p undef = .pointer (some ⟨g, 0, none⟩)) (hg : BoxV 59 w g (ndC v)) :
    (results fn tmps).run Tryz.prog w = .ok (ndV v) w := results_cell_row h tmps w g _ _ _ _ hp hg Tryz.underlying59 rfl sizeNd
theorem resTr {fn : Func} {p : Tmp} (h : fn.results = #[.cell p 24]) (tmps : Array Value) {w : World} {g : Nat} {A : Option Addr} {n cap : Nat} (hp : tmps.getD p undef = .pointer (some ⟨g, 0, none⟩)) (hg : BoxV 24 w g (trC A n cap)) :
    (results fn tmps).run Tryz.prog w = .ok (.agg (trC A n cap)) w := results_cell_row h tmps w g _ _ _ _ hp hg Tryz.underlying24 rfl sizeTr

theorem Ast.Nodes.alloc {w : World} {A : Option Addr} {n : Nat} {l : Nat → Nd} (h : Nodes w A n l) (o : Obj) : Nodes (w.alloc o) A n l := h.below ((Below.refl _ w).alloc (Nat.le_refl _) o) (Nat.le_refl _)
/-- What the panic tells. -/
abbrev deepP : Ending := .panicked [{ v := .iface 135 (.agg #[]), recovered := false }]
theorem shallow_any (A : Option Addr) (n cap : Nat) (l : Nat → Nd) (w : World) (hn : n ≤ 1000000) (hl : Nodes w A n l) : Calls Tryz.prog 128 #[.agg (trC A n cap)] w fun e w' => e = (if 40 < deepZ l n then deepP else .returned (.agg (trC A n cap))) ∧ Below w.heap.size w w' := by
  have HD := Lib.hid (fun w hl => Ast.deep_any A n cap l w hn hl)
  have HL := Lib.hid hl
  clear hl
  have h1 : BoxV 24 ((w.alloc (.cells (trC A n cap) 24)).alloc (.cells (trC none 0 0) 24)) w.heap.size (trC A n cap) := (BoxV.new _ _).alloc _
  have h2 : BoxV 24 ((w.alloc (.cells (trC A n cap) 24)).alloc (.cells (trC none 0 0) 24)) (w.heap.size + 1) (trC none 0 0) := by
    have h := BoxV.new (T := 24) (w.alloc (.cells (trC A n cap) 24)) (trC none 0 0)
    simpa using h
  have H12 := Lib.hid (And.intro h1 h2)
  clear h1 h2
  by_cases h : 40 < deepZ l n
  · rw [if_pos h]
    have q : (40 : Int) < ((deepZ l n : Nat) : Int) := by omega
    clear h
    go_enter Tryz.func128, Tryz.ntmps128
    go_wp2_with fail
    with_reducible refine (HD.out _ ((HL.out.alloc _).alloc _)).mono ?_
    rintro e w1 ⟨rfl, hb⟩
    have HB := Lib.hid ((((Below.refl _ w).alloc (Nat.le_refl _) _).alloc (by simp) _).trans (hb.mono (by simp; omega)))
    clear hb
    go_wp2_with fail
    exact ⟨rfl, rfl, HB.out⟩
  · rw [if_neg h]
    have q : ¬ (40 : Int) < ((deepZ l n : Nat) : Int) := by omega
    clear h
    go_enter Tryz.func128, Tryz.ntmps128
    go_wp2_with fail
    with_reducible refine (HD.out _ ((HL.out.alloc _).alloc _)).mono ?_
    rintro e w1 ⟨rfl, hb⟩
    have HB := Lib.hid ((((Below.refl _ w).alloc (Nat.le_refl _) _).alloc (by simp) _).trans (hb.mono (by simp; omega)))
    have HX := Lib.hid (H12.out.1.below hb H12.out.1.lt)
    have HZ := Lib.hid (H12.out.2.below hb H12.out.2.lt)
    clear hb
    go_wp2_with (first | (refine loadTr rfl _ rfl w.heap.size A n cap rfl HX.out ?_) | (refine storeTr rfl _ _ rfl (w.heap.size + 1) _ A n cap rfl rfl rfl HZ.out ?_))
    refine bodyPost_ret (resTr (p := 2) (A := A) (n := n) (cap := cap) rfl _ (g := w.heap.size + 1) rfl (HZ.out.rowSame _)) rfl ?_
    exact ⟨rfl, below_row HB.out (by omega) _⟩
end Go.Proofs.YtkpijnodhlonfaaGreatDoor
