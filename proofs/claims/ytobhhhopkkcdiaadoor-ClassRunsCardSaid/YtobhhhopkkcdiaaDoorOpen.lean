/-
  How the arguments of a statement read: a set of bytes as its four words; the table of math/bits as the rows list it. And a world for the witnesses.
-/
import Derived.Test.YtobhhhopkkcdiaaDoorRegion
import Derived.Test.YtobhhhopkkcdiaaDoorRows
import Derived.ProofKit
import Derived.OpenShut
import Derived.Deep.DeepHandedRow
import Derived.Lib.LaidTab
namespace Go.Proofs.YtobhhhopkkcdiaaDoor
open Go.ChangeShapes Go.WideShapes Go.ChangeAt Go.RowKit

/-- The set as data. -/
def setD {H : Type} (S : BitVec 256) : DataW H := .agg [.agg [.lit (.int .u64 (W S 0)), .lit (.int .u64 (W S 1)), .lit (.int .u64 (W S 2)), .lit (.int .u64 (W S 3))]]

theorem cellsSet : Tryd.prog.cellsOf 25 = 4 := by kernel_rfl
theorem cellsArr : Tryd.prog.cellsOf 23 = 4 := by kernel_rfl

theorem wf_u64 (n : Nat) (h : n < 18446744073709551616) : (Lit.int .u64 (n : Int)).wf = true := by
  simp [Lit.wf, IntKind.min, IntKind.max, IntKind.signed, IntKind.bits]; omega
theorem nat_of_wf {n : Int} (h : (Lit.int .u64 n).wf = true) : ∃ k : Nat, n = k ∧ k < 18446744073709551616 := by
  simp [Lit.wf, IntKind.min, IntKind.max, IntKind.signed, IntKind.bits] at h
  exact ⟨n.toNat, by omega, by omega⟩

theorem shutSet {H : Type} {enc : TypeId × Value → H} {w : World} {base : Nat} {spare : Nat → Bool} {held : Bool} (S : BitVec 256) : DataW.Trod enc Tryd.prog w base spare held 25 (setV S) (setD S) [] := by
  have w0 := wf_u64 _ (W_lt S 0)
  have w1 := wf_u64 _ (W_lt S 1)
  have w2 := wf_u64 _ (W_lt S 2)
  have w3 := wf_u64 _ (W_lt S 3)
  refine ⟨3, ?_⟩
  have hr : List.range 4 = [0, 1, 2, 3] := by decide
  simp [DataW.trod, Tryd.underlying25, Tryd.underlying23, Tryd.underlying22, cellsSet, cellsArr, cellsU64, setD, Value.cells, hr, w0, w1, w2, w3]

theorem openSet {H : Type} {enc : TypeId × Value → H} {w : World} {base b0 : Nat} {r : Reach} {spare : Nat → Bool} {held : Bool} {v : Value} {d : DataW H} {p : List MemPlace}
    (hv : Value.okWide Tryd.prog w r b0 25 v) (h : DataW.Trod enc Tryd.prog w base spare held 25 v d p) : ∃ S : BitVec 256, v = setV S ∧ d = setD S ∧ p = [] := by
  obtain ⟨cs, rfl, hsz⟩ := okWide_struct Tryd.underlying25 hv
  rw [cellsSet] at hsz
  obtain ⟨fuel, hf⟩ := h
  obtain ⟨y0, n, hx, _, hy⟩ := trod_struct1 Tryd.underlying25 hf
  simp only [Value.cells, List.drop_zero] at hy
  rw [cellsArr, List.take_of_length_le (by simp [hsz])] at hy
  obtain ⟨xs, m, _, hx2, _, hlen, he⟩ := DataW.trod_array Tryd.underlying23 hy
  match xs, hlen, cs, hsz with
  | [x0, x1, x2, x3], _, ⟨[c0, c1, c2, c3]⟩, _ =>
    have e0 := he 0 (by decide)
    have e1 := he 1 (by decide)
    have e2 := he 2 (by decide)
    have e3 := he 3 (by decide)
    simp [cellsU64] at e0 e1 e2 e3
    obtain ⟨n0, f0, rfl, g0⟩ := DataW.trod_int Tryd.underlying22 e0
    obtain ⟨n1, f1, rfl, g1⟩ := DataW.trod_int Tryd.underlying22 e1
    obtain ⟨n2, f2, rfl, g2⟩ := DataW.trod_int Tryd.underlying22 e2
    obtain ⟨n3, f3, rfl, g3⟩ := DataW.trod_int Tryd.underlying22 e3
    simp at f0 f1 f2 f3
    subst f0 f1 f2 f3
    obtain ⟨k0, rfl, l0⟩ := nat_of_wf g0
    obtain ⟨k1, rfl, l1⟩ := nat_of_wf g1
    obtain ⟨k2, rfl, l2⟩ := nat_of_wf g2
    obtain ⟨k3, rfl, l3⟩ := nat_of_wf g3
    obtain ⟨q0, q1, q2, q3⟩ := W_ofWords l0 l1 l2 l3
    refine ⟨ofWords k0 k1 k2 k3, by rw [setV, q0, q1, q2, q3], ?_, ?_⟩
    · rw [setD, q0, q1, q2, q3]
      simp [hx2] at hx
      exact hx.1
    · simp [hx2] at hx
      exact hx.2

theorem byte_bd {n : Int} (h : (Lit.int .u8 n).wf = true) : ∃ k : Nat, n = k ∧ k < 256 := by
  simp [Lit.wf, IntKind.min, IntKind.max, IntKind.signed, IntKind.bits] at h
  exact ⟨n.toNat, by omega, by omega⟩
theorem wf_u8 (n : Nat) (h : n < 256) : (Lit.int .u8 (n : Int)).wf = true := by
  simp [Lit.wf, IntKind.min, IntKind.max, IntKind.signed, IntKind.bits]; omega

theorem own : ownKnob Tryd.prog.godebug = none := by kernel_rfl
theorem gTab : Tryd.prog.globalNamed "math/bits.deBruijn64tab" = some 0 := by kernel_rfl
theorem gTabType : (Tryd.prog.globals[0]?).map (·.type) = some 61 := by kernel_rfl
theorem cellsTab : Tryd.prog.cellsOf 61 = 64 := by kernel_rfl

/-- The table's numbers. -/
def tabZ : List Int := [0, 1, 56, 2, 57, 49, 28, 3, 61, 58, 42, 50, 38, 29, 17, 4, 62, 47, 59, 36, 45, 43, 51, 22, 53, 39, 33, 30, 24, 18, 12, 5, 63, 55, 48, 27, 60, 41, 37, 16, 46, 35, 44, 21, 52, 32, 23, 11, 54, 26, 40, 15, 34, 20, 31, 10, 25, 14, 19, 9, 13, 8, 7, 6]

theorem tab_of {w : World} (h : laidMetH Tryd.prog [("math/bits.deBruijn64tab", Rows.laid_math_bits_deBruijn64tab)] w) : TabOk w := by
  have ht : Lib.TabIs Tryd.prog w "math/bits.deBruijn64tab" .u8 tabZ := Lib.tabIs_of_head (rest := []) gTab gTabType Tryd.underlying61 Tryd.underlying5 cellsU8 cellsTab h
  intro j hj
  have e : tabZ.getD j 0 = ((Lib.deBruijn64tab.getD j 0 : Nat) : Int) := (show ∀ j, j < 64 → tabZ.getD j 0 = ((Lib.deBruijn64tab.getD j 0 : Nat) : Int) by decide +kernel) j hj
  have hc := ht.cell gTab j hj
  rw [hc, ← e]

/-- A world for the witness: the settled one, the table holding what its initialiser lays. -/
noncomputable def laidWorld (os : Os) : World :=
  { World.holding Tryd.prog os ⟨#[], #[], []⟩ with heap := (World.holding Tryd.prog os ⟨#[], #[], []⟩).heap.modify 0 fun
      | .cells _ t frozen => .cells (tabZ.map (Value.int .u8)).toArray t frozen
      | o => o }
end Go.Proofs.YtobhhhopkkcdiaaDoor
