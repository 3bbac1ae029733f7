/-
  Layer 7: the statements' own fixed().
-/
import Derived.Test.YtkpijnodhlonfaaGreatDoorParParse
import Derived.Test.YtkpijnodhlonfaaGreatDoorAstI
import Derived.Test.YtkpijnodhlonfaaGreatDoorClassM
namespace Go.Proofs.YtkpijnodhlonfaaGreatDoor
open Go.RowKit
open Ast (Nd ndV joinL wrapL deepZ rightZ Nodes)

abbrev pat1 : ByteArray := ⟨#[97, 124, 98, 99]⟩
theorem pat1_z : parseZ pat1 = ((5, (parseZ pat1).1.2), 0) := by
  have h1 : (parseZ pat1).1.1 = 5 := by kernel_rfl
  have h2 : (parseZ pat1).2 = 0 := by kernel_rfl
  rw [← h1, ← h2]
abbrev pat2 : ByteArray := ⟨#[40, 63, 105, 58, 40, 97, 41, 92, 49, 41]⟩
theorem pat2_z : parseZ pat2 = ((4, (parseZ pat2).1.2), 0) := by
  have h1 : (parseZ pat2).1.1 = 4 := by kernel_rfl
  have h2 : (parseZ pat2).2 = 0 := by kernel_rfl
  rw [← h1, ← h2]
abbrev pat3 : ByteArray := ⟨#[97, 42, 42]⟩
theorem pat3_z : parseZ pat3 = ((0, (parseZ pat3).1.2), 3) := by
  have h1 : (parseZ pat3).1.1 = 0 := by kernel_rfl
  have h2 : (parseZ pat3).2 = 3 := by kernel_rfl
  rw [← h1, ← h2]
abbrev pat4 : ByteArray := ⟨#[40, 97]⟩
theorem pat4_z : parseZ pat4 = ((0, (parseZ pat4).1.2), 3) := by
  have h1 : (parseZ pat4).1.1 = 0 := by kernel_rfl
  have h2 : (parseZ pat4).2 = 3 := by kernel_rfl
  rw [← h1, ← h2]
abbrev pat5 : ByteArray := ⟨#[92, 49]⟩
theorem pat5_z : parseZ pat5 = ((0, (parseZ pat5).1.2), 6) := by
  have h1 : (parseZ pat5).1.1 = 0 := by kernel_rfl
  have h2 : (parseZ pat5).2 = 6 := by kernel_rfl
  rw [← h1, ← h2]
abbrev pat6 : ByteArray := ⟨#[40, 63, 60, 61, 97, 42, 41]⟩
theorem pat6_z : parseZ pat6 = ((0, (parseZ pat6).1.2), 7) := by
  have h1 : (parseZ pat6).1.1 = 0 := by kernel_rfl
  have h2 : (parseZ pat6).2 = 7 := by kernel_rfl
  rw [← h1, ← h2]
abbrev pat7 : ByteArray := ⟨#[97, 123, 49, 48, 49, 125]⟩
theorem pat7_z : parseZ pat7 = ((0, (parseZ pat7).1.2), 4) := by
  have h1 : (parseZ pat7).1.1 = 0 := by kernel_rfl
  have h2 : (parseZ pat7).2 = 4 := by kernel_rfl
  rw [← h1, ← h2]
abbrev pat8 : ByteArray := ⟨#[]⟩
theorem pat8_z : parseZ pat8 = ((1, (parseZ pat8).1.2), 0) := by
  have h1 : (parseZ pat8).1.1 = 1 := by kernel_rfl
  have h2 : (parseZ pat8).2 = 0 := by kernel_rfl
  rw [← h1, ← h2]
theorem parse_at (K : PKit) (p : ByteArray) (n : Nat) (z : Int) (L : Nat → Nd) (h : parseZ p = ((n, L), z)) (w : World) (hw : Tabs w) : Calls Tryz.prog 54 #[.string p] w fun e w' => ∃ B cap, e = .returned (.tuple #[.agg (trC B n cap), .int .i64 z]) ∧ TreeAt w w' B cap (n, L) ∧ Below w.heap.size w w' := by
  have hc := parse_any K p w hw
  unfold GotTree at hc
  rw [h] at hc
  exact hc
theorem loadT7 {ops : Array Oper} {o : Oper} {a : Act} {x : Operand} {R : World → Prop} (g : Nat) (A : Option Addr) (n cap : Nat) (hR : ∀ u, R u → BoxV 24 u g (trC A n cap)) (ho : o.op = .load 24 x) (hx : a.eval x = .pointer (some ⟨g, 0, none⟩)) (hw : Region.wanted o (yielded ops a.tmps) = true) : YieldsIf Tryz.prog ops R o (.agg (trC A n cap)) a :=
  Or.inl ⟨hw, fun _ h => loadTr_run g A n cap (hR _ h) ho hx⟩
theorem storeNewTrN {ops : Array Oper} {rest : List Oper} {o : Oper} {a : Act} {w : World} {Q : Exit → Act → World → Prop} (hgd : o.guard = none) (x y : Operand) (ho : o.op = .store 24 x y) (wr : World) (N : Nat) (hN : wr.heap.size = N) (A : Option Addr) (n cap : Nat) (hx : a.eval x = .pointer (some ⟨N, 0, none⟩)) (hy : a.eval y = .agg (trC A n cap)) (hw : w = wr.alloc (.cells (trC none 0 0) 24))
    (h : ∀ u : World, Hid (BoxV 24 u N (trC A n cap)) → Hid (Below N wr u) → wpList Tryz.prog ops Q rest (a.put o.dst undef) u) : wpList Tryz.prog ops Q (o :: rest) a w := by
  subst hN
  exact storeNewTr hgd x y ho wr A n cap hx hy hw h
/-- Nodes that a call lays in a row. -/
def rowN (l : List Nd) : Array Value := (l.flatMap fun x => (ndC x).toList).toArray
def atN (l : List Nd) (i : Nat) : Nd := l.getD i (nd0 0)
theorem cells_atN : ∀ (l : List Nd), Ast.cellsL (atN l) l.length = l.flatMap fun x => (ndC x).toList := by
  intro l
  unfold Ast.cellsL
  rw [← List.flatMap_map (f := fun i => atN l i) (g := fun x => Ast.ndC x)]
  have : (List.range l.length).map (atN l) = l := by
    apply List.ext_getElem
    · simp
    · intro i h1 h2
      simp [atN, List.getD_eq_getElem?_getD, List.getElem?_eq_getElem h2]
  rw [this]
  rfl
theorem nodes_row (w : World) (l : List Nd) (hl : l.length ≤ 1000) (cs : Array Value) (hcs : cs = rowN l) (hs : cs.size = l.length * 12) : Nodes (w.alloc (.cells cs 59)) (some ⟨w.heap.size, 0, none⟩) l.length (atN l) := by
  have h := World.ownsRow_lit (base := w.heap.size) (e := 59) (size := 12) w cs l.length (Nat.le_refl _) (by unfold maxLen; omega) hs
  rw [show cs.toList = Ast.cellsL (atN l) l.length by rw [cells_atN, hcs]; rfl] at h
  obtain ⟨A, cap, he, -, hn, -⟩ := Ast.own_nodes h
  cases he
  exact hn
abbrev wantL : List Nd := [setN (addB 0#256 97), setN (addB 0#256 98), setN (addB 0#256 99), { nd0 8 with a := 1, b := 2 }, { nd0 9 with a := 0, b := 3 }]
abbrev foldL : List Nd := [setN (ofBytes [97, 65]), { nd0 11 with n := 1 }, { nd0 12 with n := 1, f := true }, { nd0 8 with a := 1, b := 2 }]
theorem same_1 : Ast.sameZ (parseZ pat1).1.2 5 (atN wantL) 5 = true := by kernel_rfl
theorem same_2 : Ast.sameZ (parseZ pat2).1.2 4 (atN foldL) 4 = true := by kernel_rfl
theorem same_8 : Ast.sameZ (parseZ pat8).1.2 1 (fun _ => nd0 0) 1 = true := by kernel_rfl
end Go.Proofs.YtkpijnodhlonfaaGreatDoor
