/-
  Layer 6: tokens in memory: a slice that reads as tokens.
-/
import Derived.Test.YtkpijnodhlonfaaGreatDoorLexFix
namespace Go.Proofs.YtkpijnodhlonfaaGreatDoor
open Go.RowKit

/-- A token's ten cells. -/
def At10 (w : World) (b o : Nat) (t : Tok) : Prop :=
  w.cell? ⟨b, o, none⟩ = some (.int .i64 t.k) ∧ w.cell? ⟨b, o + 1, none⟩ = some (.int .u64 (W t.S 0)) ∧ w.cell? ⟨b, o + 2, none⟩ = some (.int .u64 (W t.S 1)) ∧ w.cell? ⟨b, o + 3, none⟩ = some (.int .u64 (W t.S 2)) ∧ w.cell? ⟨b, o + 4, none⟩ = some (.int .u64 (W t.S 3)) ∧
  w.cell? ⟨b, o + 5, none⟩ = some (.int .i64 t.mn) ∧ w.cell? ⟨b, o + 6, none⟩ = some (.int .i64 t.mx) ∧ w.cell? ⟨b, o + 7, none⟩ = some (.int .i64 t.md) ∧ w.cell? ⟨b, o + 8, none⟩ = some (.int .i64 t.n) ∧ w.cell? ⟨b, o + 9, none⟩ = some (.string t.f)
theorem At10.keep {w u : World} {b o : Nat} {t : Tok} (h : At10 w b o t) (hk : ∀ j, u.cell? ⟨b, j, none⟩ = w.cell? ⟨b, j, none⟩) : At10 u b o t := by
  unfold At10 at h ⊢
  simp only [hk]
  exact h
/-- The tokens of l lie where A leads. -/
def Toks (w : World) (A : Option Addr) (l : List Tok) : Prop := ∀ i t, l[i]? = some t → ∃ b o, A = some ⟨b, o, none⟩ ∧ b < w.heap.size ∧ At10 w b (o + i * 10) t
theorem Toks.below {w u : World} {A : Option Addr} {l : List Tok} {B : Nat} (h : Toks w A l) (hb : Below B w u) (hB : w.heap.size ≤ B) : Toks u A l := fun i t hi => by
  obtain ⟨b, o, h1, h2, h3⟩ := h i t hi
  exact ⟨b, o, h1, Nat.lt_of_lt_of_le h2 hb.size, h3.keep fun j => hb.cell (p := ⟨b, j, none⟩) (Nat.lt_of_lt_of_le h2 hB)⟩
theorem Toks.alloc {w : World} {A : Option Addr} {l : List Tok} (h : Toks w A l) (o : Obj) : Toks (w.alloc o) A l := h.below ((Below.refl _ w).alloc (Nat.le_refl _) o) (Nat.le_refl _)
theorem toksC_get : ∀ (l : List Tok) (i j : Nat) (t : Tok), l[i]? = some t → j < 10 → (toksC l)[i * 10 + j]? = (tokC t)[j]?
  | [], i, j, t, h, _ => by cases h
  | x :: r, 0, j, t, h, hj => by
    obtain rfl : x = t := Option.some.inj h
    rw [Nat.zero_mul, Nat.zero_add, toksC, List.getElem?_append_left (by rw [Array.length_toList, tokC_size]; exact hj), Array.getElem?_toList]
  | x :: r, i + 1, j, t, h, hj => by
    rw [toksC, List.getElem?_append_right (by rw [Array.length_toList, tokC_size]; omega), Array.length_toList, tokC_size, show (i + 1) * 10 + j - 10 = i * 10 + j by omega]
    exact toksC_get r i j t h hj
theorem at10_of {w : World} {g i : Nat} {l : List Tok} {t : Tok} (h : w.rangeAt g 0 (toksC l)) (hi : l[i]? = some t) : At10 w g (0 + i * 10) t := by
  have H : ∀ j v, j < 10 → (tokC t)[j]? = some v → w.cell? ⟨g, 0 + i * 10 + j, none⟩ = some v := fun j v hj hv => by
    have := h (i * 10 + j) v (by rw [toksC_get l i j t hi hj]; exact hv)
    rw [show 0 + i * 10 + j = 0 + (i * 10 + j) by omega]
    exact this
  exact ⟨H 0 _ (by decide) rfl, H 1 _ (by decide) rfl, H 2 _ (by decide) rfl, H 3 _ (by decide) rfl, H 4 _ (by decide) rfl, H 5 _ (by decide) rfl, H 6 _ (by decide) rfl, H 7 _ (by decide) rfl, H 8 _ (by decide) rfl, H 9 _ (by decide) rfl⟩
/-- A call's own tokens. -/
theorem own_toks {w : World} {base : Nat} {v : Value} {l : List Tok} (h : w.ownsRow base 126 10 v l.length (toksC l)) : ∃ A cap, v = .slice A l.length cap ∧ Toks w A l ∧ ∀ a, A = some a → base ≤ a.block := by
  rcases h.2 with ⟨h1, h2⟩ | ⟨g, cap, cur, h1, h0, h2, -, -, -, -⟩
  · refine ⟨none, 0, by rw [h1, h2], fun i t hi => ?_, fun a ha => by cases ha⟩
    rw [List.length_eq_zero_iff.1 h2] at hi
    cases hi
  · refine ⟨some ⟨g, 0, none⟩, cap, h1, fun i t hi => ⟨g, 0, rfl, (Array.getElem?_eq_some_iff.1 h2).1, at10_of (fun j u hu => ?_) hi⟩, fun a ha => by cases ha; exact h0⟩
    have := h.cells (g := g) (by rw [h1]; rfl) j u hu
    rw [Addr.add_lit] at this
    exact this
section
variable {ops : Array Oper} {rest : List Oper} {o : Oper} {a : Act} {w : World} {Q : Exit → Act → World → Prop}
def notB : Value → Bool → Bool
  | .bool x, b => x != b
  | _, _ => true
/-- An operation whose guard is not so is passed over, whatever its slot holds. -/
theorem skipG {P : Program} (d : Option Tmp) (op : Op) (ty : TypeId) (pos : String) (aft : Array Edge) (j : Nat) (b : Bool) (v : Value) (hv : ((ops[j]?).bind (·.dst)).bind (a.tmps[·]?) = some v) (hb : notB v b = true)
    (h : wpList P ops Q rest (a.put d undef) w) : wpList P ops Q (⟨d, op, ty, pos, aft, some (j, b)⟩ :: rest) a w := by
  refine wpList_skip ?_ h
  show (yielded ops a.tmps j == some b) = false
  unfold yielded
  rw [hv]
  cases v <;> first | rfl | skip
  rename_i x
  cases x <;> cases b <;> first | rfl | cases hb
/-- A token is stored in a new block; what follows need not know how the world was made. -/
theorem storeNew (hgd : o.guard = none) (x y : Operand) (ho : o.op = .store 126 x y) (wr : World) (s t : Tok) (hx : a.eval x = .pointer (some ⟨wr.heap.size, 0, none⟩)) (cs : Array Value) (hy : a.eval y = .agg cs) (hcs : cs = tokC t) (hw : w = wr.alloc (.cells (tokC s) 126))
    (h : ∀ W : World, W.cell? ⟨wr.heap.size, 0, none⟩ = some (.int .i64 t.k) → W.cell? ⟨wr.heap.size, 5, none⟩ = some (.int .i64 t.mn) → W.cell? ⟨wr.heap.size, 6, none⟩ = some (.int .i64 t.mx) → W.cell? ⟨wr.heap.size, 7, none⟩ = some (.int .i64 t.md) → W.cell? ⟨wr.heap.size, 8, none⟩ = some (.int .i64 t.n) →
      Hid (Below wr.heap.size wr W) → wpList Tryz.prog ops Q rest (a.put o.dst undef) W) : wpList Tryz.prog ops Q (o :: rest) a w := by
  subst hw
  have hg : BoxT 126 (wr.alloc (.cells (tokC s) 126)) wr.heap.size s := BoxT.new _ _
  refine storeT hgd x y ho wr.heap.size s t hx cs hy hcs hg ?_
  have hc (j : Nat) := cell_of_row ((wr.alloc (.cells (tokC s) 126)).setRow wr.heap.size (tokC t)) wr.heap.size j _ _ _ (hg.rowSame t)
  exact h _ (hc 0) (hc 5) (hc 6) (hc 7) (hc 8) (Lib.hid (below_row ((Below.refl _ wr).alloc (Nat.le_refl _) _) (Nat.le_refl _) _))
end
theorem toks_len (p : ByteArray) (hp : p.size ≤ 1000) : (lexZ p).1.length ≤ 1000 := by
  unfold lexZ
  rw [if_neg (by omega)]
  have H : ∀ (f i : Nat) (l : List Tok), l.length ≤ i → i ≤ p.size → (lexF p f i l).1.length ≤ p.size := by
    intro f
    induction f with
    | zero => intro i l h1 h2; exact Nat.le_trans h1 h2
    | succ f ih =>
      intro i l h1 h2
      rw [lexF]
      split
      · exact Nat.le_trans h1 h2
      · rename_i hi
        split
        · exact Nat.zero_le _
        · rename_i he
          have hu := tok_up p i (by omega) (by omega)
          exact ih _ _ (by simp; omega) (by omega)
  have := H (p.size + 1) 0 [] (by simp) (by omega)
  omega
end Go.Proofs.YtkpijnodhlonfaaGreatDoor
