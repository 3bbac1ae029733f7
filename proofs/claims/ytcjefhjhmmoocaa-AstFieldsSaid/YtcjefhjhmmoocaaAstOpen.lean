/-
  Layer 5: how the arguments of the statements read: a tree, a byte, a number.
-/
import Derived.Test.YtcjefhjhmmoocaaAstOwn
import Derived.Test.YtcjefhjhmmoocaaRows
import Derived.ProofKit
import Derived.OpenShut
import Derived.Carry
namespace Go.Proofs.Ytcjefhjhmmoocaa
open Go.ChangeShapes Go.WideShapes Go.ChangeAt Go.RowKit

theorem cellsNode : Try.prog.cellsOf 45 = 12 := by kernel_rfl
theorem cellsSet : Try.prog.cellsOf 43 = 4 := by kernel_rfl
theorem cellsArr : Try.prog.cellsOf 41 = 4 := by kernel_rfl
theorem cellsU64 : Try.prog.cellsOf 40 = 1 := by kernel_rfl
theorem cellsInt : Try.prog.cellsOf 3 = 1 := by kernel_rfl
theorem cellsBool : Try.prog.cellsOf 4 = 1 := by kernel_rfl
theorem cellsTree : Try.prog.cellsOf 24 = 1 := by kernel_rfl
theorem cellsSl : Try.prog.cellsOf 22 = 1 := by kernel_rfl

section
variable {H : Type} {enc : TypeId × Value → H} {w : World} {base : Nat} {spare : Nat → Bool} {held : Bool}
theorem setCells {n : Nat} {cs : List Value} {x : DataW H × List MemPlace} (h : DataW.trod enc Try.prog w base spare held n 43 cs = some x) :
    ∃ a b c d : Int, cs = [.int .u64 a, .int .u64 b, .int .u64 c, .int .u64 d] := by
  obtain ⟨ys, m, -, -, hl, hsz, hf⟩ := DataW.trod_struct Try.underlying43 h
  rw [cellsSet] at hl
  match cs, hl with
  | [c0, c1, c2, c3], _ =>
    have e : DataW.trod enc Try.prog w base spare held m 41 (List.take (Try.prog.cellsOf 41) (List.drop 0 [c0, c1, c2, c3])) = ys[0]? := hf 0 _ rfl
    rw [cellsArr] at e
    simp only [List.drop_zero, List.take_succ_cons, List.take_zero] at e
    match ys, hsz with
    | [y0], _ =>
      simp only [List.getElem?_cons_zero] at e
      obtain ⟨xs, k, -, -, -, hlen, he⟩ := DataW.trod_array Try.underlying41 e
      match xs, hlen with
      | [x0, x1, x2, x3], _ =>
        have e0 := he 0 (by decide)
        have e1 := he 1 (by decide)
        have e2 := he 2 (by decide)
        have e3 := he 3 (by decide)
        simp [cellsU64] at e0 e1 e2 e3
        obtain ⟨n0, f0, -, -⟩ := DataW.trod_int Try.underlying40 e0
        obtain ⟨n1, f1, -, -⟩ := DataW.trod_int Try.underlying40 e1
        obtain ⟨n2, f2, -, -⟩ := DataW.trod_int Try.underlying40 e2
        obtain ⟨n3, f3, -, -⟩ := DataW.trod_int Try.underlying40 e3
        simp at f0 f1 f2 f3
        subst f0 f1 f2 f3
        exact ⟨_, _, _, _, rfl⟩
theorem nodeCells {n : Nat} {cs : List Value} {x : DataW H × List MemPlace} (h : DataW.trod enc Try.prog w base spare held n 45 cs = some x) : ∃ y : Nd, cs = ndC y := by
  obtain ⟨ys, m, -, -, hl, hsz, hf⟩ := DataW.trod_struct Try.underlying45 h
  rw [cellsNode] at hl
  match cs, hl with
  | [c0, c1, c2, c3, c4, c5, c6, c7, c8, c9, c10, c11], _ =>
    match ys, hsz with
    | [y0, y1, y2, y3, y4, y5, y6, y7, y8], _ =>
      have e0 := hf 0 _ rfl
      have e1 := hf 1 _ rfl
      have e2 := hf 2 _ rfl
      have e3 := hf 3 _ rfl
      have e4 := hf 4 _ rfl
      have e5 := hf 5 _ rfl
      have e6 := hf 6 _ rfl
      have e7 := hf 7 _ rfl
      have e8 := hf 8 _ rfl
      simp [cellsInt, cellsBool, cellsSet] at e0 e1 e2 e3 e4 e5 e6 e7 e8
      obtain ⟨n0, f0, -, -⟩ := DataW.trod_int Try.underlying3 e0
      obtain ⟨n1, f1, -, -⟩ := DataW.trod_int Try.underlying3 e1
      obtain ⟨n2, f2, -, -⟩ := DataW.trod_int Try.underlying3 e2
      obtain ⟨s0, s1, s2, s3, f3⟩ := setCells e3
      obtain ⟨n4, f4, -, -⟩ := DataW.trod_int Try.underlying3 e4
      obtain ⟨n5, f5, -, -⟩ := DataW.trod_int Try.underlying3 e5
      obtain ⟨n6, f6, -, -⟩ := DataW.trod_int Try.underlying3 e6
      obtain ⟨n7, f7, -, -⟩ := DataW.trod_int Try.underlying3 e7
      obtain ⟨n8, f8, -⟩ := DataW.trod_bool Try.underlying4 e8
      simp at f0 f1 f2 f3 f4 f5 f6 f7 f8
      obtain ⟨g0, g1, g2, g3⟩ := f3
      subst f0 f1 f2 f4 f5 f6 f7 f8 g0 g1 g2 g3
      exact ⟨⟨n0, n1, n2, s0, s1, s2, s3, n4, n5, n6, n7, n8⟩, rfl⟩
end

/-- A tree that came in. -/
theorem openTree {H : Type} {enc : TypeId × Value → H} {w : World} {base b0 : Nat} {r : Reach} {spare : Nat → Bool} {held : Bool} {v : Value} {d : DataW H} {p : List MemPlace}
    (hv : Value.okWide Try.prog w r b0 24 v) (h : DataW.Trod enc Try.prog w base spare held 24 v d p) :
    ∃ (A : Option Addr) (n cap : Nat) (l : Nat → Nd), v = .agg #[.slice A n cap] ∧ n ≤ cap ∧ cap ≤ maxLen ∧ (A = none → n = 0 ∧ cap = 0) ∧ Nodes w A n l := by
  obtain ⟨cs, rfl, hsz⟩ := okWide_struct Try.underlying24 hv
  rw [cellsTree] at hsz
  obtain ⟨fuel, hf⟩ := h
  obtain ⟨ys, m, -, -, -, hys, hfl⟩ := DataW.trod_struct Try.underlying24 hf
  match cs, hsz with
  | ⟨[c0]⟩, _ =>
    match ys, hys with
    | [y0], _ =>
      have e : DataW.trod enc Try.prog w base spare held m 22 (List.take (Try.prog.cellsOf 22) (List.drop 0 [c0])) = [y0][0]? := hfl 0 _ rfl
      rw [cellsSl] at e
      simp only [List.drop_zero, List.take_succ_cons, List.take_zero, List.getElem?_cons_zero] at e
      rcases DataW.trod_slice Try.underlying22 e with ⟨h1, -⟩ | ⟨a, len, cap, elems, rest, k, -, h1, -, hb, hle, hmax, hlen, hel, -, -⟩
      · cases h1
        exact ⟨none, 0, 0, fun _ => ⟨0, 0, 0, 0, 0, 0, 0, 0, 0, 0, 0, false⟩, rfl, Nat.le_refl _, Nat.zero_le _, fun _ => ⟨rfl, rfl⟩, fun i hi => by omega⟩
      · cases h1
        rw [cellsNode] at hel
        have hnd : ∀ i, i < len → ∃ y : Nd, w.cells? base (a.add (i * 12)) 12 = some (ndC y) := fun i hi => by
          have h2 := hel i hi
          rw [List.getElem?_eq_getElem (by omega)] at h2
          obtain ⟨cs, h3, h4⟩ := Option.bind_eq_some_iff.1 h2
          obtain ⟨y, rfl⟩ := nodeCells h4
          exact ⟨y, h3⟩
        obtain ⟨l, hL⟩ : ∃ l : Nat → Nd, ∀ i, i < len → w.cells? base (a.add (i * 12)) 12 = some (ndC (l i)) :=
          ⟨fun i => if hi : i < len then Classical.choose (hnd i hi) else ⟨0, 0, 0, 0, 0, 0, 0, 0, 0, 0, 0, false⟩, fun i hi => by
            simp only [dif_pos hi]; exact Classical.choose_spec (hnd i hi)⟩
        refine ⟨some a, len, cap, l, rfl, hle, hmax, (fun h => by cases h), fun i hi => ?_⟩
        obtain ⟨-, -, hc⟩ := World.cells?_some (hL i hi)
        obtain ⟨b, off, spot⟩ := a
        have hspot : spot = none := by
          obtain ⟨-, -, hc0⟩ := World.cells?_some (hL 0 (by omega))
          have h1 : w.cell? (((⟨b, off, spot⟩ : Addr).add (0 * 12)).add 0) = some (.int .i64 (l 0).k) := hc0 0 (by decide)
          simpa [Addr.add] using World.cell?_spot h1
        subst hspot
        have hcell : ∀ j, j < 12 → w.cell? ⟨b, off + i * 12 + j, none⟩ = (ndC (l i))[j]? := fun j hj => by
          rw [← hc j hj, add_plain, add_plain]
        exact ⟨b, off, rfl, block_lt_of_cell (hcell 0 (by decide)), at12_of hcell⟩

theorem u8_bd {n : Int} (h : (Lit.int .u8 n).wf = true) : ∃ k : Nat, n = k ∧ k < 256 := by
  simp [Lit.wf, IntKind.min, IntKind.max, IntKind.signed, IntKind.bits] at h
  exact ⟨n.toNat, by omega, by omega⟩
/-- It reads behind the call as before it. -/
theorem againTree {H : Type} {enc : TypeId × Value → H} {W W' : World} {v : Value} {d : DataW H} {ps : List MemPlace} (h : DataW.Trod enc Try.prog W 0 (fun _ => true) true 24 v d ps) (hb : Below W.heap.size W W') (hlt : ∀ x ∈ ps, x.block < W.heap.size) :
    DataW.Trod enc Try.prog W' 0 (fun b => decide (b < W.heap.size)) true 24 v d ps := Below.trod (by kernel_rfl) (by kernel_rfl) (of_decide_eq_true (by kernel_rfl)) h hb hlt
end Go.Proofs.Ytcjefhjhmmoocaa
