/-
  Layer 6: the document's tokens in memory.
-/
import Derived.Test.YtlcecblehffjiaaDoorLexRKitM
import Derived.Test.YtlcecblehffjiaaDoorLexQuant
import Derived.Test.YtlcecblehffjiaaDoorLexBase
namespace Go.Proofs.YtlcecblehffjiaaDoor
open Go.RowKit

theorem sizeTokR : (Tryd.prog.info? 61).map (·.size) = some 10 := by kernel_rfl
theorem resR3 {fn : Func} {p u u2 : Tmp} (h : fn.results = #[.cell p 61, .tmp u, .tmp u2]) (tmps : Array Value) {w : World} {g : Nat} {t : Tok} {v v2 : Value} (hp : tmps.getD p undef = .pointer (some ⟨g, 0, none⟩)) (hv : tmps.getD u undef = v) (hv2 : tmps.getD u2 undef = v2) (hg : BoxT 61 w g t) :
    (results fn tmps).run Tryd.prog w = .ok (.tuple #[tokV t, v, v2]) w := by
  have hp' : tmps[p]?.getD undef = .pointer (some ⟨g, 0, none⟩) := by simpa using hp
  have hv' : tmps[u]?.getD undef = v := by simpa using hv
  have hv2' : tmps[u2]?.getD undef = v2 := by simpa using hv2
  have hl := run_loadVar_row w g 61 61 (tokC t) (0, 0) _ hg Tryd.underlying61 rfl (by rw [tokC_size]; exact sizeTokR)
  simp [results, h, hp', hv', hv2', asAddr, hl]
section
variable {ops : Array Oper} {rest : List Oper} {o : Oper} {a : Act} {w : World} {Q : Exit → Act → World → Prop}
theorem loadR (hgd : o.guard = none) (x : Operand) (ho : o.op = .load 61 x) (g : Nat) (t : Tok) (hx : a.eval x = .pointer (some ⟨g, 0, none⟩)) (hg : BoxT 61 w g t)
    (h : wpList Tryd.prog ops Q rest (a.put o.dst (tokV t)) w) : wpList Tryd.prog ops Q (o :: rest) a w :=
  wpList_load_row hgd 61 x ho g hx _ _ _ _ hg Tryd.underlying61 rfl sizeTokR h
theorem storeR (hgd : o.guard = none) (x y : Operand) (ho : o.op = .store 61 x y) (g : Nat) (s t : Tok) (hx : a.eval x = .pointer (some ⟨g, 0, none⟩)) (cs : Array Value) (hy : a.eval y = .agg cs) (hcs : cs = tokC t) (hg : BoxT 61 w g s)
    (h : wpList Tryd.prog ops Q rest (a.put o.dst undef) (w.setRow g (tokC t))) : wpList Tryd.prog ops Q (o :: rest) a w := by
  subst hcs
  exact wpList_store_row hgd 61 x y ho g _ hx hy _ _ hg sizeTokR rfl (tokC_one t) h
end
theorem newR {w : World} {cs : Array Value} {t : Tok} (h : cs = tokC t) : BoxT 61 (w.alloc (.cells cs 61)) w.heap.size t := by rw [h]; exact BoxT.new _ _
theorem newR2 {w : World} {cs : Array Value} {t : Tok} {o : Obj} (h : cs = tokC t) : BoxT 61 ((w.alloc (.cells cs 61)).alloc o) w.heap.size t := (newR h).alloc o
end Go.Proofs.YtlcecblehffjiaaDoor
