import Derived.Test.YteggpecbeagohaaGreatDoorStpTreeM
import Derived.Test.YteggpecbeagohaaGreatDoorRows
import Derived.ProofKit
import Derived.OpenShut
import Derived.Carry
namespace Go.Proofs.YteggpecbeagohaaGreatDoor.Stp
open Go.ChangeShapes Go.WideShapes Go.ChangeAt Go.RowKit
open Cap (Cp cpC I64 lt9)
theorem nCaps : Tryz.prog.cellsOf 26 = 27 := by kernel_rfl
theorem nBool : Tryz.prog.cellsOf 4 = 1 := by kernel_rfl
theorem nInt : Tryz.prog.cellsOf 3 = 1 := by kernel_rfl
theorem nIs : Tryz.prog.cellsOf 22 = 9 := by kernel_rfl
theorem nTwo : Tryz.prog.cellsOf 23 = 2 := by kernel_rfl
theorem nAt : Tryz.prog.cellsOf 24 = 18 := by kernel_rfl
theorem nCf : Tryz.prog.cellsOf 28 = 29 := by kernel_rfl
theorem nCf2 : Tryz.prog.cellsOf 29 = 58 := by kernel_rfl
theorem okWide_array {P : Program} {r : Reach} {base : Nat} {t e : TypeId} {n : Nat} {w : World} {v : Value} (ht : P.underlying t = some (.array n e)) (h : Value.okWide P w r base t v) : ∃ cs, v = .agg cs ∧ cs.size = P.cellsOf t := by
 simp only [Value.okWide, ht] at h
 obtain ⟨cs, h1, h2, _⟩ := h
 exact ⟨cs, h1, h2⟩
theorem i64_wf {n : Int} (h : (Lit.int .i64 n).wf = true) : I64 n := by
 simp [Lit.wf, IntKind.min, IntKind.max, IntKind.signed, IntKind.bits] at h
 exact ⟨by omega, by omega⟩
def cf2A (x y : Cf) : Array Value := (cfL x ++ cfL y).toArray
section
variable {H : Type} {enc : TypeId × Value → H} {w : World} {base : Nat} {spare : Nat → Bool} {held : Bool}
set_option maxRecDepth 100000 in
theorem isCells {n : Nat} {cs : List Value} {x : DataW H × List MemPlace} (h : DataW.trod enc Tryz.prog w base spare held n 22 cs = some x) :
  ∃ f : Nat → Bool, cs = [.bool (f 0), .bool (f 1), .bool (f 2), .bool (f 3), .bool (f 4), .bool (f 5), .bool (f 6), .bool (f 7), .bool (f 8)] := by
 obtain ⟨xs, k, -, -, hl, hlen, he⟩ := DataW.trod_array Tryz.underlying22 h
 rw [nIs] at hl
 match cs, hl with
 | [c0, c1, c2, c3, c4, c5, c6, c7, c8], _ =>
   have hb : ∀ i, i < 9 → ∃ b, ([c0, c1, c2, c3, c4, c5, c6, c7, c8].drop (i * 1)).take 1 = [.bool b] := fun i hi => by
    have e := he i hi
    rw [nBool, List.getElem?_eq_getElem (by omega)] at e
    obtain ⟨b, f, -⟩ := DataW.trod_bool Tryz.underlying4 e
    exact ⟨b, f⟩
   obtain ⟨b0, e0⟩ := hb 0 (by decide)
   obtain ⟨b1, e1⟩ := hb 1 (by decide)
   obtain ⟨b2, e2⟩ := hb 2 (by decide)
   obtain ⟨b3, e3⟩ := hb 3 (by decide)
   obtain ⟨b4, e4⟩ := hb 4 (by decide)
   obtain ⟨b5, e5⟩ := hb 5 (by decide)
   obtain ⟨b6, e6⟩ := hb 6 (by decide)
   obtain ⟨b7, e7⟩ := hb 7 (by decide)
   obtain ⟨b8, e8⟩ := hb 8 (by decide)
   simp at e0 e1 e2 e3 e4 e5 e6 e7 e8
   subst e0 e1 e2 e3 e4 e5 e6 e7 e8
   exact ⟨fun i => [b0, b1, b2, b3, b4, b5, b6, b7, b8].getD i false, rfl⟩
set_option maxRecDepth 100000 in
theorem twoCells {n : Nat} {cs : List Value} {x : DataW H × List MemPlace} (h : DataW.trod enc Tryz.prog w base spare held n 23 cs = some x) : ∃ a b : Int, cs = [.int .i64 a, .int .i64 b] ∧ I64 a ∧ I64 b := by
 obtain ⟨xs, k, -, -, hl, hlen, he⟩ := DataW.trod_array Tryz.underlying23 h
 rw [nTwo] at hl
 match cs, hl, xs, hlen with
 | [c0, c1], _, [x0, x1], _ =>
   have e0 := he 0 (by decide)
   have e1 := he 1 (by decide)
   simp [nInt] at e0 e1
   obtain ⟨n0, f0, -, w0⟩ := DataW.trod_int Tryz.underlying3 e0
   obtain ⟨n1, f1, -, w1⟩ := DataW.trod_int Tryz.underlying3 e1
   simp at f0 f1
   subst f0 f1
   exact ⟨n0, n1, rfl, i64_wf w0, i64_wf w1⟩
set_option maxRecDepth 100000 in
theorem atCells {n : Nat} {cs : List Value} {x : DataW H × List MemPlace} (h : DataW.trod enc Tryz.prog w base spare held n 24 cs = some x) :
  ∃ f g : Nat → Int, cs = [.int .i64 (f 0), .int .i64 (g 0), .int .i64 (f 1), .int .i64 (g 1), .int .i64 (f 2), .int .i64 (g 2), .int .i64 (f 3), .int .i64 (g 3), .int .i64 (f 4), .int .i64 (g 4), .int .i64 (f 5), .int .i64 (g 5), .int .i64 (f 6), .int .i64 (g 6), .int .i64 (f 7), .int .i64 (g 7), .int .i64 (f 8), .int .i64 (g 8)] ∧ ∀ k, k < 9 → I64 (f k) ∧ I64 (g k) := by
 obtain ⟨xs, k, -, -, hl, hlen, he⟩ := DataW.trod_array Tryz.underlying24 h
 rw [nAt] at hl
 match cs, hl with
 | [c0, c1, c2, c3, c4, c5, c6, c7, c8, d0, d1, d2, d3, d4, d5, d6, d7, d8], _ =>
   have hb : ∀ i, i < 9 → ∃ a b, ([c0, c1, c2, c3, c4, c5, c6, c7, c8, d0, d1, d2, d3, d4, d5, d6, d7, d8].drop (i * 2)).take 2 = [.int .i64 a, .int .i64 b] ∧ I64 a ∧ I64 b := fun i hi => by
    have e := he i hi
    rw [nTwo, List.getElem?_eq_getElem (by omega)] at e
    exact twoCells e
   obtain ⟨a0, b0, e0, u0, v0⟩ := hb 0 (by decide)
   obtain ⟨a1, b1, e1, u1, v1⟩ := hb 1 (by decide)
   obtain ⟨a2, b2, e2, u2, v2⟩ := hb 2 (by decide)
   obtain ⟨a3, b3, e3, u3, v3⟩ := hb 3 (by decide)
   obtain ⟨a4, b4, e4, u4, v4⟩ := hb 4 (by decide)
   obtain ⟨a5, b5, e5, u5, v5⟩ := hb 5 (by decide)
   obtain ⟨a6, b6, e6, u6, v6⟩ := hb 6 (by decide)
   obtain ⟨a7, b7, e7, u7, v7⟩ := hb 7 (by decide)
   obtain ⟨a8, b8, e8, u8, v8⟩ := hb 8 (by decide)
   simp at e0 e1 e2 e3 e4 e5 e6 e7 e8
   obtain ⟨rfl, rfl⟩ := e0
   obtain ⟨rfl, rfl⟩ := e1
   obtain ⟨rfl, rfl⟩ := e2
   obtain ⟨rfl, rfl⟩ := e3
   obtain ⟨rfl, rfl⟩ := e4
   obtain ⟨rfl, rfl⟩ := e5
   obtain ⟨rfl, rfl⟩ := e6
   obtain ⟨rfl, rfl⟩ := e7
   obtain ⟨rfl, rfl⟩ := e8
   refine ⟨fun i => [a0, a1, a2, a3, a4, a5, a6, a7, a8].getD i 0, fun i => [b0, b1, b2, b3, b4, b5, b6, b7, b8].getD i 0, rfl, fun k hk => ?_⟩
   rcases lt9 hk with rfl | rfl | rfl | rfl | rfl | rfl | rfl | rfl | rfl
   ·exact ⟨u0, v0⟩
   ·exact ⟨u1, v1⟩
   ·exact ⟨u2, v2⟩
   ·exact ⟨u3, v3⟩
   ·exact ⟨u4, v4⟩
   ·exact ⟨u5, v5⟩
   ·exact ⟨u6, v6⟩
   ·exact ⟨u7, v7⟩
   ·exact ⟨u8, v8⟩
set_option maxRecDepth 100000 in
theorem capsCells {n : Nat} {cs : List Value} {x : DataW H × List MemPlace} (h : DataW.trod enc Tryz.prog w base spare held n 26 cs = some x) : ∃ c : Cp, cs = (cpC c).toList := by
 obtain ⟨ys, m, -, -, hl, hys, hfl⟩ := DataW.trod_struct Tryz.underlying26 h
 rw [nCaps] at hl
 match ys, hys with
 | [y0, y1], _ =>
   have e0 : DataW.trod enc Tryz.prog w base spare held m 22 (List.take (Tryz.prog.cellsOf 22) (List.drop 0 cs)) = [y0, y1][0]? := hfl 0 _ rfl
   have e1 : DataW.trod enc Tryz.prog w base spare held m 24 (List.take (Tryz.prog.cellsOf 24) (List.drop 9 cs)) = [y0, y1][1]? := hfl 1 _ rfl
   rw [nIs] at e0
   rw [nAt] at e1
   obtain ⟨f, hf0⟩ := isCells e0
   obtain ⟨a, b, hf1, -⟩ := atCells e1
   refine ⟨⟨f, a, b⟩, ?_⟩
   have hcs : cs = List.take 9 (List.drop 0 cs) ++ List.take 18 (List.drop 9 cs) := by
    rw [List.drop_zero]
    conv => lhs; rw [← List.take_append_drop 9 cs]
    congr 1
    rw [List.take_of_length_le (by rw [List.length_drop]; omega)]
   rw [hf0, hf1] at hcs
   rw [hcs]
   rfl
set_option maxRecDepth 100000 in
theorem cfCells {n : Nat} {cs : List Value} {x : DataW H × List MemPlace} (h : DataW.trod enc Tryz.prog w base spare held n 28 cs = some x) : ∃ c : Cf, cs = cfL c := by
 obtain ⟨ys, m, -, -, hl, hys, hfl⟩ := DataW.trod_struct Tryz.underlying28 h
 rw [nCf] at hl
 match ys, hys with
 | [y0, y1, y2], _ =>
   have e0 : DataW.trod enc Tryz.prog w base spare held m 3 (List.take (Tryz.prog.cellsOf 3) (List.drop 0 cs)) = [y0, y1, y2][0]? := hfl 0 _ rfl
   have e1 : DataW.trod enc Tryz.prog w base spare held m 3 (List.take (Tryz.prog.cellsOf 3) (List.drop 1 cs)) = [y0, y1, y2][1]? := hfl 1 _ rfl
   have e2 : DataW.trod enc Tryz.prog w base spare held m 26 (List.take (Tryz.prog.cellsOf 26) (List.drop 2 cs)) = [y0, y1, y2][2]? := hfl 2 _ rfl
   rw [nInt] at e0 e1
   rw [nCaps] at e2
   obtain ⟨n0, f0, -, -⟩ := DataW.trod_int Tryz.underlying3 e0
   obtain ⟨n1, f1, -, -⟩ := DataW.trod_int Tryz.underlying3 e1
   obtain ⟨c, f2⟩ := capsCells e2
   refine ⟨⟨n0, n1, c⟩, ?_⟩
   match cs, hl with
   | c0 :: c1 :: r, hl =>
     simp at f0 f1
     have hr : r.length = 27 := by simpa using hl
     have f2 : List.take 27 r = (cpC c).toList := f2
     rw [List.take_of_length_le (by omega)] at f2
     rw [f0, f1, f2]
     rfl
end
set_option maxRecDepth 100000 in
theorem openCfs {H : Type} {enc : TypeId × Value → H} {w : World} {base b0 : Nat} {r : Reach} {spare : Nat → Bool} {held : Bool} {v : Value} {d : DataW H} {p : List MemPlace}
  (hv : Value.okWide Tryz.prog w r b0 29 v) (h : DataW.Trod enc Tryz.prog w base spare held 29 v d p) : ∃ x y : Cf, v = .agg (cf2A x y) := by
 obtain ⟨cs, rfl, hsz⟩ := okWide_array Tryz.underlying29 hv
 obtain ⟨fuel, hf⟩ := h
 obtain ⟨xs, k, -, -, hl, hlen, he⟩ := DataW.trod_array Tryz.underlying29 hf
 rw [nCf2] at hl
 match xs, hlen with
 | [x0, x1], _ =>
   have e0 := he 0 (by decide)
   have e1 := he 1 (by decide)
   rw [nCf] at e0 e1
   obtain ⟨x, f0⟩ := cfCells e0
   obtain ⟨y, f1⟩ := cfCells e1
   refine ⟨x, y, ?_⟩
   have hcs : cs.toList = cfL x ++ cfL y := by
    rw [← f0, ← f1]
    rw [show 0 * 29 = 0 from rfl, show 1 * 29 = 29 from rfl, List.drop_zero]
    have hl2 : cs.toList.length = 58 := hl
    show cs.toList = List.take 29 cs.toList ++ List.take 29 (List.drop 29 cs.toList)
    rw [List.take_of_length_le (l := List.drop 29 cs.toList) (by rw [List.length_drop]; omega), List.take_append_drop]
   congr 1
   apply Array.ext'
   rw [hcs, cf2A]
set_option maxRecDepth 100000 in
theorem againCfs {H : Type} {enc : TypeId × Value → H} {W W' : World} {v : Value} {d : DataW H} {ps : List MemPlace} (h : DataW.Trod enc Tryz.prog W 0 (fun _ => true) true 29 v d ps) (hb : Below W.heap.size W W') (hlt : ∀ x ∈ ps, x.block < W.heap.size) : DataW.Trod enc Tryz.prog W' 0 (fun b => decide (b < W.heap.size)) true 29 v d ps := Below.trod (by kernel_rfl) (by kernel_rfl) (of_decide_eq_true (by kernel_rfl)) h hb hlt
end Go.Proofs.YteggpecbeagohaaGreatDoor.Stp
