/-
  Layer 12: how the arguments of the statements read.
-/
import Derived.Test.YtecfndpbgebpiaaFrmKit
import Derived.Carry
namespace Go.Proofs.Ytecfndpbgebpiaa
open Go.ChangeShapes Go.WideShapes Go.ChangeAt Go.RowKit

theorem u8_bd {n : Int} (h : (Lit.int .u8 n).wf = true) : ∃ k : Nat, n = k ∧ k < 256 := by
  simp [Lit.wf, IntKind.min, IntKind.max, IntKind.signed, IntKind.bits] at h
  exact ⟨n.toNat, by omega, by omega⟩
theorem cellsU8 : Try.prog.cellsOf 5 = 1 := by kernel_rfl
theorem cellsArr4 : Try.prog.cellsOf 52 = 4 := by kernel_rfl
/-- Four bytes that came in. -/
theorem openArr4 {H : Type} {enc : TypeId × Value → H} {w : World} {base b0 : Nat} {r : Reach} {spare : Nat → Bool} {held : Bool} {v : Value} {d : DataW H} {p : List MemPlace}
    (hv : Value.okWide Try.prog w r b0 52 v) (h : DataW.Trod enc Try.prog w base spare held 52 v d p) :
    ∃ a b c e : Nat, v = .agg #[.int .u8 (a : Int), .int .u8 (b : Int), .int .u8 (c : Int), .int .u8 (e : Int)] ∧ a < 256 ∧ b < 256 ∧ c < 256 ∧ e < 256 := by
  obtain ⟨cs, rfl, hsz⟩ : ∃ cs, v = .agg cs ∧ cs.size = Try.prog.cellsOf 52 := by
    simp only [Value.okWide, Try.underlying52] at hv
    obtain ⟨cs, h1, h2, _⟩ := hv
    exact ⟨cs, h1, h2⟩
  rw [cellsArr4] at hsz
  obtain ⟨fuel, hf⟩ := h
  obtain ⟨xs, k, -, -, -, hlen, he⟩ := DataW.trod_array Try.underlying52 hf
  match cs, hsz with
  | ⟨[c0, c1, c2, c3]⟩, _ =>
    match xs, hlen with
    | [x0, x1, x2, x3], _ =>
      have e0 := he 0 (by decide)
      have e1 := he 1 (by decide)
      have e2 := he 2 (by decide)
      have e3 := he 3 (by decide)
      simp [cellsU8, Value.cells] at e0 e1 e2 e3
      obtain ⟨n0, f0, -, g0⟩ := DataW.trod_int Try.underlying5 e0
      obtain ⟨n1, f1, -, g1⟩ := DataW.trod_int Try.underlying5 e1
      obtain ⟨n2, f2, -, g2⟩ := DataW.trod_int Try.underlying5 e2
      obtain ⟨n3, f3, -, g3⟩ := DataW.trod_int Try.underlying5 e3
      simp at f0 f1 f2 f3
      subst f0 f1 f2 f3
      obtain ⟨k0, rfl, j0⟩ := u8_bd g0
      obtain ⟨k1, rfl, j1⟩ := u8_bd g1
      obtain ⟨k2, rfl, j2⟩ := u8_bd g2
      obtain ⟨k3, rfl, j3⟩ := u8_bd g3
      exact ⟨k0, k1, k2, k3, rfl, j0, j1, j2, j3⟩
/-- They read behind the call as before it. -/
theorem againArr4 {H : Type} {enc : TypeId × Value → H} {W W' : World} {v : Value} {d : DataW H} {ps : List MemPlace} (h : DataW.Trod enc Try.prog W 0 (fun _ => true) true 52 v d ps) (hb : Below W.heap.size W W') (hlt : ∀ x ∈ ps, x.block < W.heap.size) :
    DataW.Trod enc Try.prog W' 0 (fun b => decide (b < W.heap.size)) true 52 v d ps := Below.trod (by kernel_rfl) (by kernel_rfl) (of_decide_eq_true (by kernel_rfl)) h hb hlt
theorem againFrames {H : Type} {enc : TypeId × Value → H} {W W' : World} {v : Value} {d : DataW H} {ps : List MemPlace} (h : DataW.Trod enc Try.prog W 0 (fun _ => true) true 22 v d ps) (hb : Below W.heap.size W W') (hlt : ∀ x ∈ ps, x.block < W.heap.size) :
    DataW.Trod enc Try.prog W' 0 (fun b => decide (b < W.heap.size)) true 22 v d ps := Below.trod (by kernel_rfl) (by kernel_rfl) (of_decide_eq_true (by kernel_rfl)) h hb hlt
end Go.Proofs.Ytecfndpbgebpiaa
