/-
  How the arguments of layer 4's statements read: a number, a budget.
-/
import Derived.Test.YtaobbdmkkehpnaaLimOk
import Derived.Test.YtaobbdmkkehpnaaRows
import Derived.ProofKit
import Derived.OpenShut
import Derived.Laws.Cover2
import Derived.Lib.SmallJoins
namespace Go.Proofs.Ytaobbdmkkehpnaa
open Go.ChangeShapes Go.WideShapes Go.ChangeAt Go.RowKit

theorem u32_bd {n : Int} (h : (Lit.int .u32 n).wf = true) : ∃ k : Nat, n = k ∧ k < 4294967296 := by
  simp [Lit.wf, IntKind.min, IntKind.max, IntKind.signed, IntKind.bits] at h
  exact ⟨n.toNat, by omega, by omega⟩
theorem float_bd {x : Nat} (h : (Lit.float .f64 x).wf = true) : x < 18446744073709551616 := by
  simp [Lit.wf] at h
  exact h
theorem cellsBud : Try.prog.cellsOf 24 = 2 := by kernel_rfl
theorem cellF {H : Type} {enc : TypeId × Value → H} {w : World} {base : Nat} {spare : Nat → Bool} {held : Bool} {n : Nat} {v : Value} {y : DataW H × List MemPlace}
    (h : DataW.trod enc Try.prog w base spare held n 22 [v] = some y) : ∃ x : Nat, v = .float .f64 x ∧ y = (.lit (.float .f64 x), []) ∧ (Lit.float .f64 x).wf = true := by
  cases n with
  | zero => simp [DataW.trod] at h
  | succ n =>
    simp only [DataW.trod, Try.underlying22] at h
    cases v <;> simp at h
    obtain ⟨⟨rfl, hw⟩, rfl⟩ := h
    exact ⟨_, rfl, rfl, hw⟩
theorem openBud {H : Type} {enc : TypeId × Value → H} {w : World} {base b0 : Nat} {r : Reach} {spare : Nat → Bool} {held : Bool} {v : Value} {d : DataW H} {p : List MemPlace}
    (hv : Value.okWide Try.prog w r b0 24 v) (h : DataW.Trod enc Try.prog w base spare held 24 v d p) :
    ∃ x y : Nat, v = bud x y ∧ d = .agg [.lit (.float .f64 x), .lit (.float .f64 y)] ∧ p = [] ∧ (Lit.float .f64 x).wf = true ∧ (Lit.float .f64 y).wf = true := by
  obtain ⟨v0, v1, y0, y1, n, rfl, rfl, rfl, h0, h1⟩ := Go.Joins.open_agg2 Try.underlying24 (by kernel_rfl) cellsBud hv h
  obtain ⟨x, rfl, rfl, wx⟩ := cellF h0
  obtain ⟨y, rfl, rfl, wy⟩ := cellF h1
  exact ⟨x, y, rfl, rfl, rfl, wx, wy⟩
theorem shutBud {H : Type} {enc : TypeId × Value → H} {w : World} {base : Nat} {spare : Nat → Bool} {held : Bool} {x y : Nat} (hx : (Lit.float .f64 x).wf = true) (hy : (Lit.float .f64 y).wf = true) :
    DataW.Trod enc Try.prog w base spare held 24 (bud x y) (.agg [.lit (.float .f64 x), .lit (.float .f64 y)]) [] := by
  have h := Go.Joins.shut_agg2 (enc := enc) (w := w) (base := base) (spare := spare) (held := held) (v0 := .float .f64 x) (v1 := .float .f64 y) (y0 := (.lit (.float .f64 x), [])) (y1 := (.lit (.float .f64 y), [])) Try.underlying24 (by kernel_rfl) cellsBud
    ⟨1, by simp [DataW.trod, Try.underlying22, hx]⟩ ⟨1, by simp [DataW.trod, Try.underlying22, hy]⟩
  exact h
/-- A slice of numbers, opened: what a walk wants of it. -/
theorem slice_cells {W : World} {a : Addr} {k : IntKind} {zs : List Int} {len : Nat} (hl : len ≤ zs.length) (hcell : ∀ i, i < zs.length → W.cell? (a.add i) = some (.int k (zs.getD i 0))) :
    ∀ i, i < len → ∃ b off, some a = some (⟨b, off, none⟩ : Addr) ∧ b < W.heap.size ∧ W.cell? ⟨b, off + i, none⟩ = some (.int k (zs.getD i 0)) := by
  intro i hi
  obtain ⟨b, off, rfl, hc⟩ := ints_at hcell (by omega)
  exact ⟨b, off, rfl, block_lt_of_cell (hc i (by omega)), hc i (by omega)⟩
/-- Behind a call that turns nothing it reads as it did. -/
theorem shutInts {H : Type} {enc : TypeId × Value → H} {W W' : World} {t e : TypeId} {k : IntKind} {a : Addr} {len cap : Nat} {zs : List Int} (ht : Try.prog.underlying t = some (.slice e)) (he : Try.prog.underlying e = some (.int k)) (hc : Try.prog.cellsOf e = 1)
    (hb : Below W.heap.size W W') (hl : len ≤ cap) (hm : cap ≤ maxLen) (hz : zs.length = cap) (hcell : ∀ i, i < zs.length → W.cell? (a.add i) = some (.int k (zs.getD i 0))) (hw : ∀ n ∈ zs, (Lit.int k n).wf = true) :
    DataW.Trod enc Try.prog W' 0 (fun b => decide (b < W.heap.size)) true t (.slice (some a) len cap) (.slice (lits k (zs.take len)) (lits k (zs.drop len))) (MemPlace.row a zs.length) := by
  have hlt : ∀ i, i < zs.length → a.block < W.heap.size := fun i hi => by
    have := block_lt_of_cell (hcell i hi)
    rwa [block_add] at this
  refine ⟨2, shut_ints 0 ht he hc (Nat.zero_le _) hl hm ?_ (fun i hi => (hb.cell (p := a.add i) (by rw [block_add]; exact hlt i hi)).trans (hcell i hi)) hw⟩
  by_cases h0 : cap = 0
  · have : len = 0 := by omega
    split <;> omega
  · have := hlt 0 (by omega)
    simp [this, hz]
theorem wf_getD {k : IntKind} {zs : List Int} {i : Nat} (hw : ∀ n ∈ zs, (Lit.int k n).wf = true) (hi : i < zs.length) : (Lit.int k (zs.getD i 0)).wf = true := by
  have : zs.getD i 0 = zs[i] := by simp [List.getD, hi]
  rw [this]
  exact hw _ (List.getElem_mem hi)
end Go.Proofs.Ytaobbdmkkehpnaa
