import Derived.Test.YteggpecbeagohaaGreatDoorParBuiltM
import Derived.Test.YteggpecbeagohaaGreatDoorLexShelf
import Derived.Test.YteggpecbeagohaaGreatDoorAstJ
import Derived.Shelf.Strings.Search3
import Derived.Test.YteggpecbeagohaaGreatDoorRows
import Derived.ProofKit
import Derived.OpenShut
import Derived.Deep.DeepHandedRow
import Derived.Lib.LaidTab
import Derived.Lay
import Derived.LaidSub
namespace Go.Proofs.YteggpecbeagohaaGreatDoor
open Go.RowKit
def ren7 : Shelf.Ren := ⟨fun n => if n = 143 then 181 else if n = 144 then 179 else if n = 217 then 153 else if n = 219 then 127 else if n = 224 then 151 else if n = 225 then 152 else if n = 266 then 165 else if n = 267 then 154 else 166,
 fun n => if n = 3 then 3 else if n = 4 then 4 else if n = 5 then 5 else if n = 9 then 9 else if n = 46 then 191 else if n = 51 then 214 else 227, fun _ => 1⟩
theorem contains_lays : Lays.n144 Tryz.prog ren7 where
 mixed := by kernel_rfl
 f143 := by kernel_rfl
 f144 := by kernel_rfl
 f217 := by kernel_rfl
 f219 := by kernel_rfl
 f224 := by kernel_rfl
 f225 := by kernel_rfl
 f266 := by kernel_rfl
 f267 := by kernel_rfl
 f314 := by kernel_rfl
 t3 := by kernel_rfl
 a3 := fun _ => by kernel_rfl
 z3 := fun _ => by kernel_rfl
 v3 := fun _ => by kernel_rfl
 t4 := by kernel_rfl
 a4 := fun _ => by kernel_rfl
 z4 := fun _ => by kernel_rfl
 v4 := fun _ => by kernel_rfl
 t5 := by kernel_rfl
 a5 := fun _ => by kernel_rfl
 z5 := fun _ => by kernel_rfl
 v5 := fun _ => by kernel_rfl
 t9 := by kernel_rfl
 a9 := fun _ => by kernel_rfl
 z9 := fun _ => by kernel_rfl
 v9 := fun _ => by kernel_rfl
 t46 := by kernel_rfl
 a46 := fun _ => by kernel_rfl
 z46 := fun _ => by kernel_rfl
 v46 := fun _ => by kernel_rfl
 t51 := by kernel_rfl
 a51 := fun _ => by kernel_rfl
 z51 := fun _ => by kernel_rfl
 v51 := fun _ => by kernel_rfl
 t146 := by kernel_rfl
 a146 := fun _ => by kernel_rfl
 z146 := fun _ => by kernel_rfl
 v146 := fun _ => by kernel_rfl
 g1 := by kernel_rfl
theorem index_any : ∀ (l : List UInt8) (c : UInt8), decide (0 ≤ Lib.indexByte l c) = l.any fun b => b.toNat == c.toNat
 | [], c => rfl
 | b :: l, c => by
   have ih := index_any l c
   have h1 := Lib.indexByte_ge l c
   have hb : (b == c) = (b.toNat == c.toNat) := by
    by_cases h : b = c
    ·subst h; simp
    ·have h2 : b.toNat ≠ c.toNat := fun e => h (UInt8.toNat_inj.1 e)
     rw [beq_eq_false_iff_ne.2 h, beq_eq_false_iff_ne.2 h2]
   rw [List.any_cons, ← ih, Lib.indexByte, hb]
   by_cases h : (b.toNat == c.toNat) = true
   ·rw [if_pos h, h]; rfl
   ·rw [if_neg h]
    have hf : (b.toNat == c.toNat) = false := by simpa using h
    rw [hf, Bool.false_or]
    by_cases h3 : (Lib.indexByte l c == -1) = true
    ·have h4 : Lib.indexByte l c = -1 := by simpa using h3
     rw [if_pos h3, h4]
    ·rw [if_neg h3]
     have h4 : Lib.indexByte l c ≠ -1 := by simpa using h3
     exact decide_eq_decide.2 (by omega)
theorem has_ok : HasOk := by
 intro f c w
 refine (Any.strings_Contains_one contains_lays f c w).mono ?_
 rintro e w' ⟨rfl, rfl⟩
 exact ⟨by unfold hasF; rw [index_any], rfl⟩
theorem pkit : PKit := ⟨errs_ok, clone_ok, has_ok, Ast.sort_ok, Ast.sort_none⟩
end Go.Proofs.YteggpecbeagohaaGreatDoor
namespace Go.Proofs.YteggpecbeagohaaGreatDoor
open Go.ChangeShapes Go.WideShapes Go.ChangeAt Go.RowKit
theorem own : ownKnob Tryz.prog.godebug = none := by kernel_rfl
theorem gTab : Tryz.prog.globalNamed "math/bits.deBruijn64tab" = some 2 := by kernel_rfl
theorem gTabType : (Tryz.prog.globals[2]?).map (·.type) = some 217 := by kernel_rfl
theorem cellsTab : Tryz.prog.cellsOf 217 = 64 := by kernel_rfl
def tabZ : List Int := Lib.deBruijn64tab.map fun (n : Nat) => (n : Int)
abbrev laid6 : List (String × DataW Unit) := [("math/bits.deBruijn32tab", Rows.laid_math_bits_deBruijn32tab), ("math/bits.deBruijn64tab", Rows.laid_math_bits_deBruijn64tab), ("internal/strconv.uint64pow10", Rows.laid_internal_strconv_uint64pow10), ("strconv.ErrRange", Rows.laid_strconv_ErrRange), ("strconv.ErrSyntax", Rows.laid_strconv_ErrSyntax), ("clew/lex.openings", Rows.laid_clew_lex_openings)]
theorem tab_part {w : World} (h : laidMetH Tryz.prog laid6 w) : TabOk w := by
 have h1 : laidMetH Tryz.prog [("math/bits.deBruijn64tab", Rows.laid_math_bits_deBruijn64tab)] w := h.filter (fun x => x.1 == "math/bits.deBruijn64tab")
 have ht : Lib.TabIs Tryz.prog w "math/bits.deBruijn64tab" .u8 tabZ := Lib.tabIs_of_head (rest := []) gTab gTabType Tryz.underlying217 Tryz.underlying5 cellsU8 cellsTab h1
 intro j hj
 have e : tabZ.getD j 0 = ((Lib.deBruijn64tab.getD j 0 : Nat) : Int) := (show ∀ j, j < 64 → tabZ.getD j 0 = ((Lib.deBruijn64tab.getD j 0 : Nat) : Int) by decide +kernel) j hj
 have hc := ht.cell gTab j (by exact hj)
 rw [hc, ← e]
theorem var_cell {w : World} {n : String} {g : Nat} {cs : Array Value} (hg : Tryz.prog.globalNamed n = some g) (h : w.var? Tryz.prog n = some cs) (j : Nat) : w.cell? ⟨g, j, none⟩ = cs[j]? := by
 unfold World.var? at h
 rw [hg] at h
 simp only [Option.bind_some] at h
 unfold World.cell?
 cases hh : w.heap[g]? with
 | none => rw [hh] at h; cases h
 | some o =>
   rw [hh] at h
   cases o with
   | cells c t f => simp at h; subst h; rfl
   | _ => simp at h
theorem gErr : Tryz.prog.globalNamed "strconv.ErrSyntax" = some 3 := by kernel_rfl
theorem gErrType : (Tryz.prog.globals[3]?).map (·.type) = some 200 := by kernel_rfl
set_option maxRecDepth 100000 in
theorem err_part {w : World} (h : laidMetH Tryz.prog laid6 w) : ErrW w := by
 have h1 : laidMetH Tryz.prog [("strconv.ErrSyntax", Rows.laid_strconv_ErrSyntax)] w := h.filter (fun x => x.1 == "strconv.ErrSyntax")
 obtain ⟨ps, ⟨g', t', cs, fuel, p, q, hg', ht', hvar, hd, -, -⟩, -⟩ := h1
 obtain rfl := Option.some.inj (gErr.symm.trans hg')
 obtain rfl := Option.some.inj (gErrType.symm.trans ht')
 have hc := var_cell gErr hvar 0
 cases fuel with
 | zero => simp [DataW.trod] at hd
 | succ m =>
   unfold DataW.trod at hd
   rw [Tryz.underlying200] at hd
   have hl : cs[0]? = cs.toList[0]? := by simp
   revert hd hc
   rw [hl]
   cases hcl : cs.toList with
   | nil => intro hc hd; simp at hd
   | cons v r =>
     intro hc hd
     cases v with
     | iface te pe => exact ⟨te, pe, hc⟩
     | _ => cases r <;> simp [Rows.laid_strconv_ErrSyntax] at hd
theorem gOp : Tryz.prog.globalNamed "clew/lex.openings" = some 0 := by kernel_rfl
theorem gOpType : (Tryz.prog.globals[0]?).map (·.type) = some 149 := by kernel_rfl
theorem cellsOp : Tryz.prog.cellsOf 148 = 2 := by kernel_rfl
theorem cellsOps : Tryz.prog.cellsOf 149 = 12 := by kernel_rfl
theorem cellsStr : Tryz.prog.cellsOf 9 = 1 := by kernel_rfl
theorem cellsInt : Tryz.prog.cellsOf 3 = 1 := by kernel_rfl
set_option maxRecDepth 100000 in
theorem open_pair {w : World} {fuel : Nat} {cs : List Value} {l : List UInt8} {n : Int} {p : List MemPlace} (h : DataW.trod (fun _ => ()) Tryz.prog w 0 (fun _ => true) false fuel 148 cs = some (.agg [.lit (.string l), .lit (.int .i64 n)], p)) : cs[0]? = some (.string ⟨l.toArray⟩) ∧ cs[1]? = some (.int .i64 n) := by
 obtain ⟨xs, m, -, hx, hlen, hxl, he⟩ := DataW.trod_struct Tryz.underlying148 h
 rw [cellsOp] at hlen
 have e0 := he 0 _ rfl
 have e1 := he 1 _ rfl
 match xs, hxl, cs, hlen with
 | [x0, x1], _, [c0, c1], _ =>
   have e0 : DataW.trod (fun _ => ()) Tryz.prog w 0 (fun _ => true) false m 9 ((([c0, c1] : List Value).drop 0).take (Tryz.prog.cellsOf 9)) = some x0 := e0
   have e1 : DataW.trod (fun _ => ()) Tryz.prog w 0 (fun _ => true) false m 3 ((([c0, c1] : List Value).drop 1).take (Tryz.prog.cellsOf 3)) = some x1 := e1
   rw [cellsStr] at e0
   rw [cellsInt] at e1
   obtain ⟨s, hs, rfl, -⟩ := DataW.trod_string Tryz.underlying9 e0
   obtain ⟨k, hk, rfl, -⟩ := DataW.trod_int Tryz.underlying3 e1
   have h0 : c0 = .string s := List.cons.inj hs |>.1
   have h1 : c1 = .int .i64 k := List.cons.inj hk |>.1
   subst h0 h1
   have hx' := congrArg (fun x : DataW Unit × List MemPlace => x.1) hx
   simp at hx'
   obtain ⟨h1, h2⟩ := hx'
   constructor
   ·simp
    rw [h1]
   ·simp
    exact h2.symm
theorem op_part {w : World} (h : laidMetH Tryz.prog laid6 w) : OpOk w := by
 have h1 : laidMetH Tryz.prog [("clew/lex.openings", Rows.laid_clew_lex_openings)] w := h.filter (fun x => x.1 == "clew/lex.openings")
 obtain ⟨ps, ⟨g', t', cs, fuel, p, q, hg', ht', hvar, hd, -, -⟩, -⟩ := h1
 obtain rfl := Option.some.inj (gOp.symm.trans hg')
 obtain rfl := Option.some.inj (gOpType.symm.trans ht')
 have hc := fun j => var_cell gOp hvar j
 obtain ⟨xs, m, -, hx, hlen, hxl, he⟩ := DataW.trod_array Tryz.underlying149 hd
 rw [cellsOps] at hlen
 have hm : xs.map (·.1) = [.agg [.lit (.string [40, 63, 58]), .lit (.int .i64 8)], .agg [.lit (.string [40, 63, 61]), .lit (.int .i64 9)], .agg [.lit (.string [40, 63, 33]), .lit (.int .i64 10)], .agg [.lit (.string [40, 63, 60, 61]), .lit (.int .i64 11)], .agg [.lit (.string [40, 63, 60, 33]), .lit (.int .i64 12)], .agg [.lit (.string [40, 63, 62]), .lit (.int .i64 13)]] := by
  have := congrArg (fun x : DataW Unit × List MemPlace => x.1) hx
  exact (DataW.agg.inj this).symm
 have key : ∀ j, j < 6 → ∀ l n, (xs.map (·.1))[j]? = some (.agg [.lit (.string l), .lit (.int .i64 n)]) → w.cell? ⟨0, 2 * j, none⟩ = some (.string ⟨l.toArray⟩) ∧ w.cell? ⟨0, 2 * j + 1, none⟩ = some (.int .i64 n) := fun j hj l n hjm => by
  have e := he j hj
  rw [List.getElem?_map] at hjm
  cases hxj : xs[j]? with
  | none => rw [hxj] at hjm; cases hjm
  | some x =>
    rw [hxj] at hjm e
    obtain ⟨d, pp⟩ := x
    simp at hjm
    subst hjm
    rw [cellsOp] at e
    obtain ⟨a, b⟩ := open_pair e
    have hl : cs.toList.length = 12 := hlen
    rw [hc, hc]
    rw [List.getElem?_take_of_lt (by decide), List.getElem?_drop] at a b
    rw [show j * 2 + 0 = 2 * j by omega, Array.getElem?_toList] at a
    rw [show j * 2 + 1 = 2 * j + 1 by omega, Array.getElem?_toList] at b
    exact ⟨a, b⟩
 intro j hj
 rw [hm] at key
 rcases (show j = 0 ∨ j = 1 ∨ j = 2 ∨ j = 3 ∨ j = 4 ∨ j = 5 by omega) with rfl | rfl | rfl | rfl | rfl | rfl
 ·exact key 0 hj _ _ rfl
 ·exact key 1 hj _ _ rfl
 ·exact key 2 hj _ _ rfl
 ·exact key 3 hj _ _ rfl
 ·exact key 4 hj _ _ rfl
 ·exact key 5 hj _ _ rfl
noncomputable def laidWorld (os : Os) : World := World.laidAll Tryz.prog os laid6
theorem tab_of {w : World} (h : laidMetH Tryz.prog laid6 w) : Tabs w := ⟨tab_part h, err_part h, op_part h⟩
end Go.Proofs.YteggpecbeagohaaGreatDoor
