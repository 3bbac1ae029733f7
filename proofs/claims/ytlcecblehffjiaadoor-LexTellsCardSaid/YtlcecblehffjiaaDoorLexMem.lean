/-
  Layer 6: tokens in memory: ten cells; results that lie in a block beside others.
-/
import Derived.Test.YtlcecblehffjiaaDoorLexCntM
import Derived.Deep.MidRow
namespace Go.Proofs.YtlcecblehffjiaaDoor
open Go.RowKit

def tokC (t : Tok) : Array Value := #[.int .i64 t.k, .int .u64 (W t.S 0), .int .u64 (W t.S 1), .int .u64 (W t.S 2), .int .u64 (W t.S 3), .int .i64 t.mn, .int .i64 t.mx, .int .i64 t.md, .int .i64 t.n, .string t.f]
abbrev tokV (t : Tok) : Value := .agg (tokC t)
theorem tokC_size (t : Tok) : (tokC t).size = 10 := rfl
theorem tokC_one (t : Tok) : (tokC t).all (·.oneCell') = true := by simp [tokC, Value.oneCell']
theorem tokC_plain (k mn mx md n : Int) (f : ByteArray) : #[.int .i64 k, .int .u64 0, .int .u64 0, .int .u64 0, .int .u64 0, .int .i64 mn, .int .i64 mx, .int .i64 md, .int .i64 n, .string f] = tokC ⟨k, 0#256, mn, mx, md, n, f⟩ := by
  unfold tokC
  simp [W_zero]
/-- A token in a block of its own. -/
def BoxT (T : TypeId) (w : World) (g : Nat) (t : Tok) : Prop := w.heap[g]? = some (.cells (tokC t) T (0, 0))
section
variable {T : TypeId} {w w' : World} {g : Nat} {t : Tok}
theorem BoxT.lt (h : BoxT T w g t) : g < w.heap.size := lt_of_block h
theorem BoxT.below {B : Nat} (h : BoxT T w g t) (hb : Below B w w') (hg : g < B) : BoxT T w' g t := (hb.block g hg).trans h
theorem BoxT.alloc (h : BoxT T w g t) (o : Obj) : BoxT T (w.alloc o) g t := (Below.heap_alloc _ _ _ h.lt).trans h
theorem BoxT.row (h : BoxT T w g t) {k : Nat} (cs : Array Value) (hk : g ≠ k) : BoxT T (w.setRow k cs) g t := (setRow_other w k g cs hk).trans h
theorem BoxT.rowSame (h : BoxT T w g t) (u : Tok) : BoxT T (w.setRow g (tokC u)) g u := setRow_heap w g _ _ _ _ h
theorem BoxT.new (w : World) (t : Tok) : BoxT T (w.alloc (.cells (tokC t) T)) w.heap.size t := heap_alloc_new _ _
end
theorem sizeTok : (Tryd.prog.info? 46).map (·.size) = some 10 := by kernel_rfl
theorem sizeSet : (Tryd.prog.info? 36).map (·.size) = some 4 := by kernel_rfl

/-- Results: what a block holds, and one or two values more. -/
theorem resT2 {fn : Func} {p u : Tmp} (h : fn.results = #[.cell p 46, .tmp u]) (tmps : Array Value) {w : World} {g : Nat} {t : Tok} {v : Value} (hp : tmps.getD p undef = .pointer (some ⟨g, 0, none⟩)) (hv : tmps.getD u undef = v) (hg : BoxT 46 w g t) :
    (results fn tmps).run Tryd.prog w = .ok (.tuple #[tokV t, v]) w := by
  have hp' : tmps[p]?.getD undef = .pointer (some ⟨g, 0, none⟩) := by simpa using hp
  have hv' : tmps[u]?.getD undef = v := by simpa using hv
  have hl := run_loadVar_row w g 46 46 (tokC t) (0, 0) _ hg Tryd.underlying46 rfl (by rw [tokC_size]; exact sizeTok)
  simp [results, h, hp', hv', asAddr, hl]
theorem resT3 {fn : Func} {p u u2 : Tmp} (h : fn.results = #[.cell p 46, .tmp u, .tmp u2]) (tmps : Array Value) {w : World} {g : Nat} {t : Tok} {v v2 : Value} (hp : tmps.getD p undef = .pointer (some ⟨g, 0, none⟩)) (hv : tmps.getD u undef = v) (hv2 : tmps.getD u2 undef = v2) (hg : BoxT 46 w g t) :
    (results fn tmps).run Tryd.prog w = .ok (.tuple #[tokV t, v, v2]) w := by
  have hp' : tmps[p]?.getD undef = .pointer (some ⟨g, 0, none⟩) := by simpa using hp
  have hv' : tmps[u]?.getD undef = v := by simpa using hv
  have hv2' : tmps[u2]?.getD undef = v2 := by simpa using hv2
  have hl := run_loadVar_row w g 46 46 (tokC t) (0, 0) _ hg Tryd.underlying46 rfl (by rw [tokC_size]; exact sizeTok)
  simp [results, h, hp', hv', hv2', asAddr, hl]
theorem resS2 {fn : Func} {p u : Tmp} (h : fn.results = #[.cell p 36, .tmp u]) (tmps : Array Value) {w : World} {g : Nat} {S : BitVec 256} {v : Value} (hp : tmps.getD p undef = .pointer (some ⟨g, 0, none⟩)) (hv : tmps.getD u undef = v) (hg : Box w g S) :
    (results fn tmps).run Tryd.prog w = .ok (.tuple #[setV S, v]) w := by
  have hp' : tmps[p]?.getD undef = .pointer (some ⟨g, 0, none⟩) := by simpa using hp
  have hv' : tmps[u]?.getD undef = v := by simpa using hv
  have hl := run_loadVar_row w g 36 36 _ (0, 0) _ hg Tryd.underlying36 rfl sizeSet
  simp [results, h, hp', hv', asAddr, hl, setV]
theorem resS3 {fn : Func} {p u u2 : Tmp} (h : fn.results = #[.cell p 36, .tmp u, .tmp u2]) (tmps : Array Value) {w : World} {g : Nat} {S : BitVec 256} {v v2 : Value} (hp : tmps.getD p undef = .pointer (some ⟨g, 0, none⟩)) (hv : tmps.getD u undef = v) (hv2 : tmps.getD u2 undef = v2) (hg : Box w g S) :
    (results fn tmps).run Tryd.prog w = .ok (.tuple #[setV S, v, v2]) w := by
  have hp' : tmps[p]?.getD undef = .pointer (some ⟨g, 0, none⟩) := by simpa using hp
  have hv' : tmps[u]?.getD undef = v := by simpa using hv
  have hv2' : tmps[u2]?.getD undef = v2 := by simpa using hv2
  have hl := run_loadVar_row w g 36 36 _ (0, 0) _ hg Tryd.underlying36 rfl sizeSet
  simp [results, h, hp', hv', hv2', asAddr, hl, setV]
section
variable {ops : Array Oper} {rest : List Oper} {o : Oper} {a : Act} {w : World} {Q : Exit → Act → World → Prop}
theorem loadT (hgd : o.guard = none) (x : Operand) (ho : o.op = .load 46 x) (g : Nat) (t : Tok) (hx : a.eval x = .pointer (some ⟨g, 0, none⟩)) (hg : BoxT 46 w g t)
    (h : wpList Tryd.prog ops Q rest (a.put o.dst (tokV t)) w) : wpList Tryd.prog ops Q (o :: rest) a w :=
  wpList_load_row hgd 46 x ho g hx _ _ _ _ hg Tryd.underlying46 rfl sizeTok h
theorem storeT (hgd : o.guard = none) (x y : Operand) (ho : o.op = .store 46 x y) (g : Nat) (s t : Tok) (hx : a.eval x = .pointer (some ⟨g, 0, none⟩)) (cs : Array Value) (hy : a.eval y = .agg cs) (hcs : cs = tokC t) (hg : BoxT 46 w g s)
    (h : wpList Tryd.prog ops Q rest (a.put o.dst undef) (w.setRow g (tokC t))) : wpList Tryd.prog ops Q (o :: rest) a w := by
  subst hcs
  exact wpList_store_row hgd 46 x y ho g _ hx hy _ _ hg sizeTok rfl (tokC_one t) h
end
end Go.Proofs.YtlcecblehffjiaaDoor
