/-
  Layer 10: how the arguments of the statements read: groups, arrays, a slice of arrays.
-/
import Derived.Test.YtnapbmdbeihngaaDoorCapDef
import Derived.Test.YtnapbmdbeihngaaDoorRows
import Derived.ProofKit
import Derived.OpenShut
import Derived.Carry
namespace Go.Proofs.YtnapbmdbeihngaaDoor
open Go.ChangeShapes Go.WideShapes Go.ChangeAt Go.RowKit

theorem nCaps : Tryd.prog.cellsOf 26 = 27 := by kernel_rfl
theorem nBool : Tryd.prog.cellsOf 4 = 1 := by kernel_rfl
theorem nInt : Tryd.prog.cellsOf 3 = 1 := by kernel_rfl
theorem nU8 : Tryd.prog.cellsOf 5 = 1 := by kernel_rfl
theorem nIs : Tryd.prog.cellsOf 22 = 9 := by kernel_rfl
theorem nTwo : Tryd.prog.cellsOf 23 = 2 := by kernel_rfl
theorem nAt : Tryd.prog.cellsOf 24 = 18 := by kernel_rfl
theorem nFour : Tryd.prog.cellsOf 27 = 4 := by kernel_rfl
theorem nThree : Tryd.prog.cellsOf 49 = 3 := by kernel_rfl
theorem nSix : Tryd.prog.cellsOf 52 = 6 := by kernel_rfl
theorem okWide_array {P : Program} {r : Reach} {base : Nat} {t e : TypeId} {n : Nat} {w : World} {v : Value} (ht : P.underlying t = some (.array n e)) (h : Value.okWide P w r base t v) : ∃ cs, v = .agg cs ∧ cs.size = P.cellsOf t := by
  simp only [Value.okWide, ht] at h
  obtain ⟨cs, h1, h2, _⟩ := h
  exact ⟨cs, h1, h2⟩
theorem i64_wf {n : Int} (h : (Lit.int .i64 n).wf = true) : I64 n := by
  simp [Lit.wf, IntKind.min, IntKind.max, IntKind.signed, IntKind.bits] at h
  exact ⟨by omega, by omega⟩
theorem u8_wf {n : Int} (h : (Lit.int .u8 n).wf = true) : ∃ k : Nat, n = k ∧ k < 256 := by
  simp [Lit.wf, IntKind.min, IntKind.max, IntKind.signed, IntKind.bits] at h
  exact ⟨n.toNat, by omega, by omega⟩
section
variable {H : Type} {enc : TypeId × Value → H} {w : World} {base : Nat} {spare : Nat → Bool} {held : Bool}
theorem isCells {n : Nat} {cs : List Value} {x : DataW H × List MemPlace} (h : DataW.trod enc Tryd.prog w base spare held n 22 cs = some x) :
    ∃ f : Nat → Bool, cs = [.bool (f 0), .bool (f 1), .bool (f 2), .bool (f 3), .bool (f 4), .bool (f 5), .bool (f 6), .bool (f 7), .bool (f 8)] := by
  obtain ⟨xs, k, -, -, hl, hlen, he⟩ := DataW.trod_array Tryd.underlying22 h
  rw [nIs] at hl
  match cs, hl with
  | [c0, c1, c2, c3, c4, c5, c6, c7, c8], _ =>
    have hb : ∀ i, i < 9 → ∃ b, ([c0, c1, c2, c3, c4, c5, c6, c7, c8].drop (i * 1)).take 1 = [.bool b] := fun i hi => by
      have e := he i hi
      rw [nBool, List.getElem?_eq_getElem (by omega)] at e
      obtain ⟨b, f, -⟩ := DataW.trod_bool Tryd.underlying4 e
      exact ⟨b, f⟩
    obtain ⟨b0, e0⟩ := hb 0 (by decide)
    obtain ⟨b1, e1⟩ := hb 1 (by decide)
    obtain ⟨b2, e2⟩ := hb 2 (by decide)
    obtain ⟨b3, e3⟩ := hb 3 (by decide)
    obtain ⟨b4, e4⟩ := hb 4 (by decide)
    obtain ⟨b5, e5⟩ := hb 5 (by decide)
    obtain ⟨b6, e6⟩ := hb 6 (by decide)
    obtain ⟨b7, e7⟩ := hb 7 (by decide)
    obtain ⟨b8, e8⟩ := hb 8 (by decide)
    simp at e0 e1 e2 e3 e4 e5 e6 e7 e8
    subst e0 e1 e2 e3 e4 e5 e6 e7 e8
    exact ⟨fun i => [b0, b1, b2, b3, b4, b5, b6, b7, b8].getD i false, rfl⟩
theorem twoCells {n : Nat} {cs : List Value} {x : DataW H × List MemPlace} (h : DataW.trod enc Tryd.prog w base spare held n 23 cs = some x) : ∃ a b : Int, cs = [.int .i64 a, .int .i64 b] ∧ I64 a ∧ I64 b := by
  obtain ⟨xs, k, -, -, hl, hlen, he⟩ := DataW.trod_array Tryd.underlying23 h
  rw [nTwo] at hl
  match cs, hl, xs, hlen with
  | [c0, c1], _, [x0, x1], _ =>
    have e0 := he 0 (by decide)
    have e1 := he 1 (by decide)
    simp [nInt] at e0 e1
    obtain ⟨n0, f0, -, w0⟩ := DataW.trod_int Tryd.underlying3 e0
    obtain ⟨n1, f1, -, w1⟩ := DataW.trod_int Tryd.underlying3 e1
    simp at f0 f1
    subst f0 f1
    exact ⟨n0, n1, rfl, i64_wf w0, i64_wf w1⟩
theorem atCells {n : Nat} {cs : List Value} {x : DataW H × List MemPlace} (h : DataW.trod enc Tryd.prog w base spare held n 24 cs = some x) :
    ∃ f g : Nat → Int, cs = [.int .i64 (f 0), .int .i64 (g 0), .int .i64 (f 1), .int .i64 (g 1), .int .i64 (f 2), .int .i64 (g 2), .int .i64 (f 3), .int .i64 (g 3), .int .i64 (f 4), .int .i64 (g 4), .int .i64 (f 5), .int .i64 (g 5), .int .i64 (f 6), .int .i64 (g 6), .int .i64 (f 7), .int .i64 (g 7), .int .i64 (f 8), .int .i64 (g 8)] ∧ ∀ k, k < 9 → I64 (f k) ∧ I64 (g k) := by
  obtain ⟨xs, k, -, -, hl, hlen, he⟩ := DataW.trod_array Tryd.underlying24 h
  rw [nAt] at hl
  match cs, hl with
  | [c0, c1, c2, c3, c4, c5, c6, c7, c8, d0, d1, d2, d3, d4, d5, d6, d7, d8], _ =>
    have hb : ∀ i, i < 9 → ∃ a b, ([c0, c1, c2, c3, c4, c5, c6, c7, c8, d0, d1, d2, d3, d4, d5, d6, d7, d8].drop (i * 2)).take 2 = [.int .i64 a, .int .i64 b] ∧ I64 a ∧ I64 b := fun i hi => by
      have e := he i hi
      rw [nTwo, List.getElem?_eq_getElem (by omega)] at e
      exact twoCells e
    obtain ⟨a0, b0, e0, u0, v0⟩ := hb 0 (by decide)
    obtain ⟨a1, b1, e1, u1, v1⟩ := hb 1 (by decide)
    obtain ⟨a2, b2, e2, u2, v2⟩ := hb 2 (by decide)
    obtain ⟨a3, b3, e3, u3, v3⟩ := hb 3 (by decide)
    obtain ⟨a4, b4, e4, u4, v4⟩ := hb 4 (by decide)
    obtain ⟨a5, b5, e5, u5, v5⟩ := hb 5 (by decide)
    obtain ⟨a6, b6, e6, u6, v6⟩ := hb 6 (by decide)
    obtain ⟨a7, b7, e7, u7, v7⟩ := hb 7 (by decide)
    obtain ⟨a8, b8, e8, u8, v8⟩ := hb 8 (by decide)
    simp at e0 e1 e2 e3 e4 e5 e6 e7 e8
    obtain ⟨rfl, rfl⟩ := e0
    obtain ⟨rfl, rfl⟩ := e1
    obtain ⟨rfl, rfl⟩ := e2
    obtain ⟨rfl, rfl⟩ := e3
    obtain ⟨rfl, rfl⟩ := e4
    obtain ⟨rfl, rfl⟩ := e5
    obtain ⟨rfl, rfl⟩ := e6
    obtain ⟨rfl, rfl⟩ := e7
    obtain ⟨rfl, rfl⟩ := e8
    refine ⟨fun i => [a0, a1, a2, a3, a4, a5, a6, a7, a8].getD i 0, fun i => [b0, b1, b2, b3, b4, b5, b6, b7, b8].getD i 0, rfl, fun k hk => ?_⟩
    rcases lt9 hk with rfl | rfl | rfl | rfl | rfl | rfl | rfl | rfl | rfl
    · exact ⟨u0, v0⟩
    · exact ⟨u1, v1⟩
    · exact ⟨u2, v2⟩
    · exact ⟨u3, v3⟩
    · exact ⟨u4, v4⟩
    · exact ⟨u5, v5⟩
    · exact ⟨u6, v6⟩
    · exact ⟨u7, v7⟩
    · exact ⟨u8, v8⟩
theorem threeCells {n : Nat} {cs : List Value} {x : DataW H × List MemPlace} (h : DataW.trod enc Tryd.prog w base spare held n 49 cs = some x) : ∃ a b c : Nat, cs = [.int .u8 (a : Int), .int .u8 (b : Int), .int .u8 (c : Int)] ∧ a < 256 ∧ b < 256 ∧ c < 256 := by
  obtain ⟨xs, k, -, -, hl, hlen, he⟩ := DataW.trod_array Tryd.underlying49 h
  rw [nThree] at hl
  match cs, hl, xs, hlen with
  | [c0, c1, c2], _, [x0, x1, x2], _ =>
    have e0 := he 0 (by decide)
    have e1 := he 1 (by decide)
    have e2 := he 2 (by decide)
    simp [nU8] at e0 e1 e2
    obtain ⟨n0, f0, -, w0⟩ := DataW.trod_int Tryd.underlying5 e0
    obtain ⟨n1, f1, -, w1⟩ := DataW.trod_int Tryd.underlying5 e1
    obtain ⟨n2, f2, -, w2⟩ := DataW.trod_int Tryd.underlying5 e2
    simp at f0 f1 f2
    subst f0 f1 f2
    obtain ⟨k0, rfl, h0⟩ := u8_wf w0
    obtain ⟨k1, rfl, h1⟩ := u8_wf w1
    obtain ⟨k2, rfl, h2⟩ := u8_wf w2
    exact ⟨k0, k1, k2, rfl, h0, h1, h2⟩
end
section
variable {H : Type} {enc : TypeId × Value → H} {w : World} {base b0 : Nat} {r : Reach} {spare : Nat → Bool} {held : Bool} {v : Value} {d : DataW H} {p : List MemPlace}
/-- Groups that came in. -/
theorem openCaps (hv : Value.okWide Tryd.prog w r b0 26 v) (h : DataW.Trod enc Tryd.prog w base spare held 26 v d p) : ∃ c : Cp, v = .agg (cpC c) ∧ c.fits := by
  obtain ⟨cs, rfl, hsz⟩ := okWide_struct Tryd.underlying26 hv
  obtain ⟨fuel, hf⟩ := h
  obtain ⟨ys, m, -, -, hl, hys, hfl⟩ := DataW.trod_struct Tryd.underlying26 hf
  rw [nCaps] at hl
  match ys, hys with
  | [y0, y1], _ =>
    have e0 : DataW.trod enc Tryd.prog w base spare held m 22 (List.take (Tryd.prog.cellsOf 22) (List.drop 0 cs.toList)) = [y0, y1][0]? := hfl 0 _ rfl
    have e1 : DataW.trod enc Tryd.prog w base spare held m 24 (List.take (Tryd.prog.cellsOf 24) (List.drop 9 cs.toList)) = [y0, y1][1]? := hfl 1 _ rfl
    rw [nIs] at e0
    rw [nAt] at e1
    obtain ⟨f, hf0⟩ := isCells e0
    obtain ⟨a, b, hf1, hab⟩ := atCells e1
    refine ⟨⟨f, a, b⟩, ?_, hab⟩
    have hcs : cs.toList = List.take 9 (List.drop 0 cs.toList) ++ List.take 18 (List.drop 9 cs.toList) := by
      rw [List.drop_zero]
      conv => lhs; rw [← List.take_append_drop 9 cs.toList]
      congr 1
      have hl2 : cs.toList.length = 27 := hl
      rw [List.take_of_length_le (by rw [List.length_drop]; omega)]
    rw [hf0, hf1] at hcs
    congr 1
    apply Array.ext'
    rw [hcs]
    rfl
/-- Four numbers that came in. -/
theorem openFour (hv : Value.okWide Tryd.prog w r b0 27 v) (h : DataW.Trod enc Tryd.prog w base spare held 27 v d p) : ∃ a b c e : Int, v = .agg #[.int .i64 a, .int .i64 b, .int .i64 c, .int .i64 e] ∧ I64 a ∧ I64 b ∧ I64 c ∧ I64 e := by
  obtain ⟨cs, rfl, hsz⟩ := okWide_array Tryd.underlying27 hv
  obtain ⟨fuel, hf⟩ := h
  obtain ⟨xs, k, -, -, hl, hlen, he⟩ := DataW.trod_array Tryd.underlying27 hf
  rw [nFour] at hl
  match cs, hl, xs, hlen with
  | ⟨[c0, c1, c2, c3]⟩, _, [x0, x1, x2, x3], _ =>
    have e0 := he 0 (by decide)
    have e1 := he 1 (by decide)
    have e2 := he 2 (by decide)
    have e3 := he 3 (by decide)
    simp [nInt] at e0 e1 e2 e3
    obtain ⟨n0, f0, -, w0⟩ := DataW.trod_int Tryd.underlying3 e0
    obtain ⟨n1, f1, -, w1⟩ := DataW.trod_int Tryd.underlying3 e1
    obtain ⟨n2, f2, -, w2⟩ := DataW.trod_int Tryd.underlying3 e2
    obtain ⟨n3, f3, -, w3⟩ := DataW.trod_int Tryd.underlying3 e3
    have r0 : [c0] = [Value.int .i64 n0] := f0
    have r1 : [c1] = [Value.int .i64 n1] := f1
    have r2 : [c2] = [Value.int .i64 n2] := f2
    have r3 : [c3] = [Value.int .i64 n3] := f3
    simp at r0 r1 r2 r3
    subst r0 r1 r2 r3
    exact ⟨n0, n1, n2, n3, rfl, i64_wf w0, i64_wf w1, i64_wf w2, i64_wf w3⟩
/-- Three bytes that came in. -/
theorem openThree (hv : Value.okWide Tryd.prog w r b0 49 v) (h : DataW.Trod enc Tryd.prog w base spare held 49 v d p) : ∃ a b c : Nat, v = .agg #[.int .u8 (a : Int), .int .u8 (b : Int), .int .u8 (c : Int)] ∧ a < 256 ∧ b < 256 ∧ c < 256 := by
  obtain ⟨cs, rfl, hsz⟩ := okWide_array Tryd.underlying49 hv
  obtain ⟨fuel, hf⟩ := h
  obtain ⟨a, b, c, hc, h0, h1, h2⟩ := threeCells (cs := cs.toList) hf
  refine ⟨a, b, c, ?_, h0, h1, h2⟩
  congr 1
  exact Array.ext' hc
/-- Twice three bytes that came in. -/
theorem openSix (hv : Value.okWide Tryd.prog w r b0 52 v) (h : DataW.Trod enc Tryd.prog w base spare held 52 v d p) : ∃ a b c a' b' c' : Nat, v = .agg #[.int .u8 (a : Int), .int .u8 (b : Int), .int .u8 (c : Int), .int .u8 (a' : Int), .int .u8 (b' : Int), .int .u8 (c' : Int)] ∧ (a < 256 ∧ b < 256 ∧ c < 256) ∧ (a' < 256 ∧ b' < 256 ∧ c' < 256) := by
  obtain ⟨cs, rfl, hsz⟩ := okWide_array Tryd.underlying52 hv
  obtain ⟨fuel, hf⟩ := h
  obtain ⟨xs, k, -, -, hl, hlen, he⟩ := DataW.trod_array Tryd.underlying52 hf
  rw [nSix] at hl
  match cs, hl, xs, hlen with
  | ⟨[c0, c1, c2, c3, c4, c5]⟩, _, [x0, x1], _ =>
    have e0 := he 0 (by decide)
    have e1 := he 1 (by decide)
    rw [nThree] at e0 e1
    obtain ⟨a, b, c, f0, h0⟩ := threeCells e0
    obtain ⟨a', b', c', f1, h1⟩ := threeCells e1
    have r0 : [c0, c1, c2] = [Value.int .u8 (a : Int), .int .u8 (b : Int), .int .u8 (c : Int)] := f0
    have r1 : [c3, c4, c5] = [Value.int .u8 (a' : Int), .int .u8 (b' : Int), .int .u8 (c' : Int)] := f1
    simp at r0 r1
    obtain ⟨rfl, rfl, rfl⟩ := r0
    obtain ⟨rfl, rfl, rfl⟩ := r1
    exact ⟨a, b, c, a', b', c', rfl, h0, h1⟩
end
end Go.Proofs.YtnapbmdbeihngaaDoor
