/-
  Layer 5: clewlaw05.fixed: a few trees that are given.
-/
import Derived.Test.YtcjefhjhmmoocaaAstGrow
import Derived.Test.YtcjefhjhmmoocaaAstOne
namespace Go.Proofs.Ytcjefhjhmmoocaa
open Go.RowKit
theorem not_none {w : World} {A : Option Addr} {n cap : Nat} {l : Nat → Nd} (h : Nodes w A n l) (h0 : 0 < n) : A = none → n = 0 ∧ cap = 0 := by
  obtain ⟨b, o, rfl, -⟩ := h 0 h0
  intro e
  cases e
def lA : Nat → Nd := fun _ => ⟨1, 0, 0, 0, 8589934592, 0, 0, 0, 0, 0, 0, false⟩
def lB : Nat → Nd := fun _ => ⟨1, 0, 0, 0, 17179869184, 0, 0, 0, 0, 0, 0, false⟩
def lC : Nat → Nd := joinL lA 1 lB 1 8
def lD : Nat → Nd := wrapL lC 3 ⟨11, 0, 0, 0, 0, 0, 0, 0, 0, 0, 1, false⟩
def lE : Nat → Nd := wrapL lD 4 ⟨10, 0, 0, 0, 0, 0, 0, 2, 5, 0, 0, false⟩
def l12 : Nd := ⟨12, 0, 0, 0, 0, 0, 0, 0, 0, 0, 1, false⟩
def lH : Nat → Nd := fun _ => l12
def lF : Nat → Nd := joinL lE 5 lH 1 9
def lG : Nat → Nd := wrapL lE 5 ⟨15, 0, 0, 0, 0, 0, 0, 0, 0, 0, 0, false⟩
def lI : Nat → Nd := fun _ => ⟨0, 0, 0, 0, 0, 0, 0, 0, 0, 0, 1, false⟩
set_option maxRecDepth 100000 in
theorem z1 : lenZ lF 7 6 = (0, -1, 0) := by decide
set_option maxRecDepth 100000 in
theorem z2 : lenZ lE 5 4 = (4, 10, 0) := by decide
set_option maxRecDepth 100000 in
theorem z3 : lenZ lC 3 3 = (0, 0, 5) := by decide
set_option maxRecDepth 100000 in
theorem z4 : rightZ lC 3 = 0 := by decide
set_option maxRecDepth 100000 in
theorem z5 : rightZ lF 7 = 0 := by decide
set_option maxRecDepth 100000 in
theorem z6 : cntG lF 7 = 1 := by decide
set_option maxRecDepth 100000 in
theorem z7 : deepZ lF 7 = 5 := by decide
set_option maxRecDepth 100000 in
theorem z8 : rightZ lG 6 = 7 := by decide
theorem z9 (l : Nat → Nd) : rightZ l 0 = 3 := by
  have h : goodB l 0 = false := by unfold goodB; simp
  unfold rightZ shapeZ formZ
  simp [h]
set_option maxRecDepth 100000 in
theorem z10 : rightZ lH 1 = 6 := by decide
set_option maxRecDepth 100000 in
theorem z11 : rightZ lI 1 = 3 := by decide
set_option maxRecDepth 100000 in
theorem z12 : sameZ lC 3 lC 3 = true := by decide
set_option maxRecDepth 100000 in
theorem z13 : sameZ lC 3 lD 4 = false := by decide

/-- The trees that are given, and where they stand. -/
def Fix (w0 : World) (A3 A4 A5 A6 : Option Addr) (n3 n4 n5 n6 g3 g4 g5 g6 : Nat) (u : World) : Prop :=
  Below w0.heap.size w0 u ∧ (Nodes u A3 3 lC ∧ Nodes u A4 4 lD ∧ Nodes u A5 5 lE ∧ Nodes u A6 7 lF) ∧ TreeBox u g3 A3 3 n3 ∧ TreeBox u g4 A4 4 n4 ∧ TreeBox u g5 A5 5 n5 ∧ TreeBox u g6 A6 7 n6
theorem Fix.call {w0 u v : World} {A3 A4 A5 A6 : Option Addr} {n3 n4 n5 n6 g3 g4 g5 g6 : Nat} (h : Fix w0 A3 A4 A5 A6 n3 n4 n5 n6 g3 g4 g5 g6 u) (hb : Below u.heap.size u v) : Fix w0 A3 A4 A5 A6 n3 n4 n5 n6 g3 g4 g5 g6 v :=
  ⟨thenB h.1 hb h.1.size, ⟨h.2.1.1.call hb, h.2.1.2.1.call hb, h.2.1.2.2.1.call hb, h.2.1.2.2.2.call hb⟩, h.2.2.1.call hb, h.2.2.2.1.call hb, h.2.2.2.2.1.call hb, h.2.2.2.2.2.call hb⟩
theorem Fix.cells {w0 u : World} {A3 A4 A5 A6 : Option Addr} {n3 n4 n5 n6 g3 g4 g5 g6 : Nat} (h : Fix w0 A3 A4 A5 A6 n3 n4 n5 n6 g3 g4 g5 g6 u) :
    u.cell? ⟨g3, 0, none⟩ = some (.slice A3 3 n3) ∧ u.cell? ⟨g4, 0, none⟩ = some (.slice A4 4 n4) ∧ u.cell? ⟨g5, 0, none⟩ = some (.slice A5 5 n5) ∧ u.cell? ⟨g6, 0, none⟩ = some (.slice A6 7 n6) :=
  ⟨h.2.2.1.cell, h.2.2.2.1.cell, h.2.2.2.2.1.cell, h.2.2.2.2.2.cell⟩

theorem below_row {B g : Nat} {w0 w : World} (hb : Below B w0 w) (hg : B ≤ g) (cs : Array Value) : Below B w0 (w.setRow g cs) :=
  hb.trans ⟨rfl, rfl, rfl, by simp, fun k hk => setRow_other w g k cs (by omega)⟩
theorem heap_lt {w : World} {g : Nat} {o : Obj} (h : w.heap[g]? = some o) : g < w.heap.size := (Array.getElem?_eq_some_iff.1 h).1
theorem Nodes.lt {w : World} {A : Option Addr} {n : Nat} {l : Nat → Nd} (h : Nodes w A n l) (h0 : 0 < n) (a : Addr) (ha : A = some a) : a.block < w.heap.size := by
  obtain ⟨b, o, e, hb, -⟩ := h 0 h0
  rw [e] at ha
  cases ha
  exact hb
theorem Nodes.row {w : World} {A : Option Addr} {n : Nat} {l : Nat → Nd} (h : Nodes w A n l) (g : Nat) (cs : Array Value) (hg : ∀ a, A = some a → a.block ≠ g) : Nodes (w.setRow g cs) A n l := fun i hi => by
  obtain ⟨b, o, e, hb, h3⟩ := h i hi
  have hne : b ≠ g := hg _ e
  have ho := setRow_other w g b cs hne
  refine ⟨b, o, e, ?_, h3.keep fun j => ?_⟩
  · have h1 : w.heap[b]? = some w.heap[b] := Array.getElem?_eq_getElem hb
    exact heap_lt (ho.trans h1)
  · unfold World.cell?
    rw [ho]
section
variable {ops : Array Oper} {R : World → Prop} {a : Act} {o : Oper} {x : Operand}
theorem loadT_y (g : Nat) (A : Option Addr) (n cap : Nat) (hR : ∀ u, R u → TreeBox u g A n cap) (ho : o.op = .load 24 x) (hx : a.eval x = .pointer (some ⟨g, 0, none⟩)) (hw : Region.wanted o (yielded ops a.tmps) = true) : YieldsIf Try.prog ops R o (.agg #[.slice A n cap]) a := by
  refine Or.inl ⟨hw, fun u h => ?_⟩
  have hl := run_loadVar_row u g 24 24 #[.slice A n cap] (0, 0) _ (hR u h) Try.underlying24 rfl infoT
  unfold execOp
  simp only [ho, hx, Instr.loadAt, Instr.sureAddr, Sem.run_bind, Sem.run_pure, Result.andThen_ok, hl]
end

set_option maxRecDepth 20000 in
set_option maxHeartbeats 4000000 in
theorem fixed_any (hS : SortOk) (hN : SortNone) (w : World) : Calls Try.prog 19 #[] w fun e w' => e = .returned (.bool true) ∧ Below w.heap.size w w' := by
  have HSN := Lib.hid (And.intro hS hN)
  clear hS hN
  go_enter Try.func19, Try.ntmps19
  go_wp2_with fail
  refine (one_97 _).mono ?_
  rintro e w1 ⟨rfl, hb⟩
  have HB1 := Lib.hid hb
  clear hb
  go_wp2_with fail
  refine (leaf_any ⟨1, 0, 0, 0, 8589934592, 0, 0, 0, 0, 0, 0, false⟩ _).mono ?_
  rintro e w2 ⟨A1, n1, rfl, ho, hb⟩
  obtain ⟨A1, cap1, e', -, hN1, -⟩ := own_nodes ho
  cases e'
  have HN1 := Lib.hid hN1
  have HB2 := Lib.hid (thenB HB1.out hb HB1.out.size)
  clear ho hb hN1
  go_wp2_with fail
  refine (one_98 _).mono ?_
  rintro e w3 ⟨rfl, hb⟩
  have HB3 := Lib.hid (thenB HB2.out hb HB2.out.size)
  have HM1 := Lib.hid (HN1.out.below hb (Nat.le_refl _))
  clear hb HN1
  go_wp2_with fail
  refine (leaf_any ⟨1, 0, 0, 0, 17179869184, 0, 0, 0, 0, 0, 0, false⟩ _).mono ?_
  rintro e w4 ⟨A2, n2, rfl, ho, hb⟩
  obtain ⟨A2, c2, e', -, hN2, -⟩ := own_nodes ho
  cases e'
  have HN1 := Lib.hid (HM1.out.below hb (Nat.le_refl _))
  have HN2 := Lib.hid hN2
  have HB4 := Lib.hid (thenB HB3.out hb HB3.out.size)
  clear ho hb hN2 HM1
  go_wp2_with fail
  have HX := Lib.hid (show Below w4.heap.size w4 (World.alloc (World.alloc w4 (.cells #[.slice A1 1 n1] 24)) (.cells #[.slice A2 1 n2] 24)) by go_grown)
  refine (join_any A1 1 n1 lA A2 1 n2 lB 8 _ (by omega) (by omega) (not_none HN1.out (by omega)) (not_none HN2.out (by omega)) (HN1.out.below HX.out (Nat.le_refl _)) (HN2.out.below HX.out (Nat.le_refl _))).mono ?_
  rintro e w5 ⟨A3, n3, rfl, ho, hb⟩
  obtain ⟨A3, c3, e', -, hN3, -⟩ := own_nodes ho
  cases e'
  have HN3 := Lib.hid (show Nodes w5 A3 3 lC from hN3)
  have HB5 := Lib.hid (thenB (thenB HB4.out HX.out HB4.out.size) hb (Nat.le_trans HB4.out.size HX.out.size))
  clear ho hb hN3 HX HN1 HN2
  go_wp2_with fail
  have HX := Lib.hid (show Below w5.heap.size w5 (World.alloc w5 (.cells #[.slice A3 3 n3] 24)) by go_grown)
  have HK3 := Lib.hid (TreeBox.new w5 A3 3 n3)
  refine (wrap_any A3 3 n3 lC ⟨11, 0, 0, 0, 0, 0, 0, 0, 0, 0, 1, false⟩ _ (by omega) (not_none HN3.out (by omega)) (HN3.out.below HX.out (Nat.le_refl _))).mono ?_
  rintro e w6 ⟨A4, n4, rfl, ho, hb⟩
  obtain ⟨A4, c4, e', -, hN4, -⟩ := own_nodes ho
  cases e'
  have HN4 := Lib.hid (show Nodes w6 A4 4 lD from hN4)
  have HM3 := Lib.hid ((HN3.out.below HX.out (Nat.le_refl _)).below hb (Nat.le_refl _))
  have HJ3 := Lib.hid (HK3.out.call hb)
  have HB6 := Lib.hid (thenB (thenB HB5.out HX.out HB5.out.size) hb (Nat.le_trans HB5.out.size HX.out.size))
  clear ho hb hN4 HX HN3 HK3
  go_wp2_with fail
  have HX := Lib.hid (show Below w6.heap.size w6 (World.alloc w6 (.cells #[.slice A4 4 n4] 24)) by go_grown)
  have HK4 := Lib.hid (TreeBox.new w6 A4 4 n4)
  refine (wrap_any A4 4 n4 lD ⟨10, 0, 0, 0, 0, 0, 0, 2, 5, 0, 0, false⟩ _ (by omega) (not_none HN4.out (by omega)) (HN4.out.below HX.out (Nat.le_refl _))).mono ?_
  rintro e w7 ⟨A5, n5, rfl, ho, hb⟩
  obtain ⟨A5, c5, e', -, hN5, -⟩ := own_nodes ho
  cases e'
  have HN5 := Lib.hid (show Nodes w7 A5 5 lE from hN5)
  have HM4 := Lib.hid ((HN4.out.below HX.out (Nat.le_refl _)).below hb (Nat.le_refl _))
  have HM3' := Lib.hid ((HM3.out.below HX.out (Nat.le_refl _)).below hb (Nat.le_refl _))
  have HJ4 := Lib.hid (HK4.out.call hb)
  have HJ3' := Lib.hid ((HJ3.out.call HX.out).call hb)
  have HB7 := Lib.hid (thenB (thenB HB6.out HX.out HB6.out.size) hb (Nat.le_trans HB6.out.size HX.out.size))
  clear ho hb hN5 HX HN4 HK4 HM3 HJ3 HB1 HB2 HB3 HB4 HB5 HB6
  go_wp2_with fail
  rename_i K hK
  obtain ⟨U, hU⟩ : ∃ U, U = World.alloc w7 (.cells #[.slice A5 5 n5] 24) := ⟨_, rfl⟩
  have HU := Lib.hid (show Below w7.heap.size w7 U by rw [hU]; go_grown)
  have HT5 := Lib.hid (show TreeBox U w7.heap.size A5 5 n5 by rw [hU]; exact TreeBox.new w7 A5 5 n5)
  rw [← hU]
  clear hU
  have HL5 := Lib.hid (HN5.out.below HU.out (Nat.le_refl _))
  have HL4 := Lib.hid (HM4.out.below HU.out (Nat.le_refl _))
  have HL3 := Lib.hid (HM3'.out.below HU.out (Nat.le_refl _))
  have HT4 := Lib.hid (HJ4.out.call HU.out)
  have HT3 := Lib.hid (HJ3'.out.call HU.out)
  have HBU := Lib.hid (thenB HB7.out HU.out HB7.out.size)
  clear HN5 HM4 HM3' HJ4 HJ3' HB7 HU
  have rest : ∀ (v : World) (g6 : Nat) (A6 : Option Addr) (n6 : Nat) (A7 : Option Addr) (n7 : Nat) (x17 x18 x19 x20 x21 x22 x23 x24 x25 x26 x27 x28 x29 x30 x31 : Value), Below U.heap.size U v → TreeBox v g6 A6 7 n6 → Nodes v A6 7 lF → K { tmps := #[.bool false, .pointer (some ⟨w4.heap.size, 0, none⟩), .pointer (some ⟨w4.heap.size + 1, 0, none⟩), .pointer (some ⟨w5.heap.size, 0, none⟩), .pointer (some ⟨w6.heap.size, 0, none⟩), .pointer (some ⟨w7.heap.size, 0, none⟩), .pointer (some ⟨g6, 0, none⟩), undef, undef, undef, undef, undef, undef, undef, undef, undef, undef, x17, x18, x19, x20, x21, x22, x23, x24, x25, x26, x27, x28, x29, x30, x31, .agg #[.slice A5 5 n5], ndV l12, .agg #[.slice A7 1 n7], .agg #[.slice A6 7 n6], undef, undef, undef, undef, undef, undef, undef, undef, undef, undef, undef, undef, undef, undef, undef, undef, undef, undef, undef, undef, undef, undef, undef, undef, undef, undef, undef, undef, undef, undef, undef, undef, undef, undef, undef, undef, undef, undef, undef, undef, undef, undef, undef, undef, undef, undef, undef, undef, undef, undef, undef, undef, undef, undef, undef, undef, undef, undef, undef, undef, undef, undef, undef, undef, undef, undef, undef, undef, undef, undef, undef, undef, undef, undef, undef, undef, undef, undef, undef, undef, undef, undef, undef, undef, undef, undef, undef, undef, undef, undef, undef, undef, undef, undef, undef, undef, undef, undef, undef, undef, undef, undef, undef, undef, undef, undef, undef, undef, undef, undef, undef, undef, undef, undef, undef, undef, undef, undef], defers := [] } v := by
    intro v g6 A6 n6 A7 n7 x17 x18 x19 x20 x21 x22 x23 x24 x25 x26 x27 x28 x29 x30 x31 hv ht hn
    have HF0 := Lib.hid (show Fix w A3 A4 A5 A6 n3 n4 n5 n6 w5.heap.size w6.heap.size w7.heap.size g6 v from ⟨thenB HBU.out hv HBU.out.size, ⟨HL3.out.call hv, HL4.out.call hv, HL5.out.call hv, hn⟩, HT3.out.call hv, HT4.out.call hv, HT5.out.call hv, ht⟩)
    clear hv ht hn HL5 HL4 HL3 HT5 HT4 HT3 HBU
    obtain ⟨c3, c4, c5, c6⟩ := HF0.out.cells
    apply hK
    clear hK
    go_wp2_with fail
    refine (lenZ_any A6 7 n6 lF 6 _ (by omega) HF0.out.2.1.2.2.2).mono ?_
    rintro e v0 ⟨rfl, hb⟩
    have HF1 := Lib.hid (HF0.out.call hb)
    clear hb HF0 c3 c4 c5 c6
    rw [z1]
    obtain ⟨c3, c4, c5, c6⟩ := HF1.out.cells
    go_wp2_with fail
    refine (lenZ_any A5 5 n5 lE 4 _ (by omega) HF1.out.2.1.2.2.1).mono ?_
    rintro e v1 ⟨rfl, hb⟩
    have HF2 := Lib.hid (HF1.out.call hb)
    clear hb HF1 c3 c4 c5 c6
    rw [z2]
    obtain ⟨c3, c4, c5, c6⟩ := HF2.out.cells
    go_wp2_with fail
    refine (lenZ_any A3 3 n3 lC 3 _ (by omega) HF2.out.2.1.1).mono ?_
    rintro e v2 ⟨rfl, hb⟩
    have HF3 := Lib.hid (HF2.out.call hb)
    clear hb HF2 c3 c4 c5 c6
    rw [z3]
    obtain ⟨c3, c4, c5, c6⟩ := HF3.out.cells
    go_wp2_with fail
    refine (wrap_any A5 5 n5 lE ⟨15, 0, 0, 0, 0, 0, 0, 0, 0, 0, 0, false⟩ _ (by omega) (not_none HF3.out.2.1.2.2.1 (by omega)) HF3.out.2.1.2.2.1).mono ?_
    rintro e v3 ⟨A8, n8, rfl, ho, hb⟩
    obtain ⟨A8, c8, e', -, hN8, -⟩ := own_nodes ho
    cases e'
    have HF4 := Lib.hid (HF3.out.call hb)
    have HG := Lib.hid (show Nodes v3 A8 6 lG from hN8)
    clear hb HF3 c3 c4 c5 c6 ho hN8
    obtain ⟨b3, o3, rfl, ha3⟩ := Nodes.at_ HF4.out.2.1.1 (by omega)
    have HX := Lib.hid (show ∀ o, Below v3.heap.size v3 (World.alloc v3 o) from fun o => by go_grown)
    have c3 : ∀ o, (World.alloc v3 o).cell? ⟨w5.heap.size, 0, none⟩ = some (.slice (some ⟨b3, o3, none⟩) 3 n3) := fun o => (HF4.out.call (HX.out o)).cells.1
    have hd : ∀ o, At12 (World.alloc v3 o) b3 (o3 + 24) ⟨8, 0, 1, 0, 0, 0, 0, 0, 0, 0, 0, false⟩ := fun o => (ha3.below (HX.out o) (Nat.le_refl _)).2 2 (by omega)
    have d0 := fun o => (hd o).1
    have d1 := fun o => (hd o).2.1
    have d2 := fun o => (hd o).2.2.1
    have d3 := fun o => (hd o).2.2.2.1
    have d4 := fun o => (hd o).2.2.2.2.1
    have d5 := fun o => (hd o).2.2.2.2.2.1
    have d6 := fun o => (hd o).2.2.2.2.2.2.1
    have d7 := fun o => (hd o).2.2.2.2.2.2.2.1
    have d8 := fun o => (hd o).2.2.2.2.2.2.2.2.1
    have d9 := fun o => (hd o).2.2.2.2.2.2.2.2.2.1
    have d10 := fun o => (hd o).2.2.2.2.2.2.2.2.2.2.1
    have d11 := fun o => (hd o).2.2.2.2.2.2.2.2.2.2.2
    clear hd ha3
    go_wp2_with fail
    obtain ⟨W, hW⟩ : ∃ W, W = World.alloc v3 (.cells #[.slice A8 6 n8] 24) := ⟨_, rfl⟩
    have hXW : Below v3.heap.size v3 W := by rw [hW]; exact HX.out _
    have HT5 := Lib.hid (show TreeBox W v3.heap.size A8 6 n8 by rw [hW]; exact TreeBox.new v3 A8 6 n8)
    rw [← hW]
    have HF5 := Lib.hid (HF4.out.call hXW)
    have HG5 := Lib.hid (HG.out.call hXW)
    clear hW HX HG HF4 c3 d0 d1 d2 d3 d4 d5 d6 d7 d8 d9 d10 d11 hXW
    refine (right_any HSN.out.1 HSN.out.2 (some ⟨b3, o3, none⟩) 3 n3 lC _ (by omega) HF5.out.2.1.1).mono ?_
    rintro e v5 ⟨rfl, hb⟩
    have HF6 := Lib.hid (HF5.out.call hb)
    have HG6 := Lib.hid (HG5.out.call hb)
    have HT6 := Lib.hid (HT5.out.call hb)
    clear hb HF5 HG5 HT5
    rw [z4]
    obtain ⟨c3, c4, c5, c6⟩ := HF6.out.cells
    have c8 := HT6.out.cell
    go_wp2_with fail
    refine (right_any HSN.out.1 HSN.out.2 A6 7 n6 lF _ (by omega) HF6.out.2.1.2.2.2).mono ?_
    rintro e v6 ⟨rfl, hb⟩
    have HF7 := Lib.hid (HF6.out.call hb)
    have HG7 := Lib.hid (HG6.out.call hb)
    have HT7 := Lib.hid (HT6.out.call hb)
    clear hb HF6 HG6 HT6 c3 c4 c5 c6 c8
    rw [z5]
    obtain ⟨c3, c4, c5, c6⟩ := HF7.out.cells
    have c8 := HT7.out.cell
    go_wp2_with fail
    refine (groups_any A6 7 n6 lF _ (by omega) HF7.out.2.1.2.2.2).mono ?_
    rintro e v7 ⟨rfl, hb⟩
    have HF8 := Lib.hid (HF7.out.call hb)
    have HG8 := Lib.hid (HG7.out.call hb)
    have HT8 := Lib.hid (HT7.out.call hb)
    clear hb HF7 HG7 HT7 c3 c4 c5 c6 c8
    rw [z6]
    obtain ⟨c3, c4, c5, c6⟩ := HF8.out.cells
    have c8 := HT8.out.cell
    go_wp2_with fail
    refine (deep_any A6 7 n6 lF _ (by omega) HF8.out.2.1.2.2.2).mono ?_
    rintro e v8 ⟨rfl, hb⟩
    have HF9 := Lib.hid (HF8.out.call hb)
    have HG9 := Lib.hid (HG8.out.call hb)
    have HT9 := Lib.hid (HT8.out.call hb)
    clear hb HF8 HG8 HT8 c3 c4 c5 c6 c8
    rw [z7]
    obtain ⟨c3, c4, c5, c6⟩ := HF9.out.cells
    have c8 := HT9.out.cell
    go_wp2_with fail
    refine (right_any HSN.out.1 HSN.out.2 A8 6 n8 lG _ (by omega) HG9.out).mono ?_
    rintro e v9 ⟨rfl, hb⟩
    have HF10 := Lib.hid (HF9.out.call hb)
    have HG10 := Lib.hid (HG9.out.call hb)
    have HT10 := Lib.hid (HT9.out.call hb)
    clear hb HF9 HG9 HT9 c3 c4 c5 c6 c8
    rw [z8]
    obtain ⟨c3, c4, c5, c6⟩ := HF10.out.cells
    have c8 := HT10.out.cell
    go_wp2_with fail
    refine (right_any HSN.out.1 HSN.out.2 none 0 0 lA _ (by omega) (fun i hi => by omega)).mono ?_
    rintro e v10 ⟨rfl, hb⟩
    have HF11 := Lib.hid (HF10.out.call hb)
    have HG11 := Lib.hid (HG10.out.call hb)
    have HT11 := Lib.hid (HT10.out.call hb)
    clear hb HF10 HG10 HT10 c3 c4 c5 c6 c8
    rw [z9]
    obtain ⟨c3, c4, c5, c6⟩ := HF11.out.cells
    have c8 := HT11.out.cell
    go_wp2_with fail
    refine (leaf_any l12 _).mono ?_
    rintro e v11 ⟨A9, c9, rfl, ho, hb⟩
    obtain ⟨A9, n9, e', -, hN9, -⟩ := own_nodes ho
    cases e'
    have HN9 := Lib.hid (show Nodes v11 A9 1 lH from hN9)
    clear ho hN9
    have HF12 := Lib.hid (HF11.out.call hb)
    have HG12 := Lib.hid (HG11.out.call hb)
    have HT12 := Lib.hid (HT11.out.call hb)
    clear hb HF11 HG11 HT11 c3 c4 c5 c6 c8
    obtain ⟨c3, c4, c5, c6⟩ := HF12.out.cells
    have c8 := HT12.out.cell
    go_wp2_with fail
    refine (right_any HSN.out.1 HSN.out.2 A9 1 c9 lH _ (by omega) HN9.out).mono ?_
    rintro e v12 ⟨rfl, hb⟩
    have HF13 := Lib.hid (HF12.out.call hb)
    have HG13 := Lib.hid (HG12.out.call hb)
    have HT13 := Lib.hid (HT12.out.call hb)
    clear HN9 hb HF12 HG12 HT12 c3 c4 c5 c6 c8
    rw [z10]
    obtain ⟨c3, c4, c5, c6⟩ := HF13.out.cells
    have c8 := HT13.out.cell
    go_wp2_with fail
    refine (leaf_any ⟨0, 0, 0, 0, 0, 0, 0, 0, 0, 0, 1, false⟩ _).mono ?_
    rintro e v13 ⟨A10, c10, rfl, ho, hb⟩
    obtain ⟨A10, n10, e', -, hN10, -⟩ := own_nodes ho
    cases e'
    have HN10 := Lib.hid (show Nodes v13 A10 1 lI from hN10)
    clear ho hN10
    have HF14 := Lib.hid (HF13.out.call hb)
    have HG14 := Lib.hid (HG13.out.call hb)
    have HT14 := Lib.hid (HT13.out.call hb)
    clear hb HF13 HG13 HT13 c3 c4 c5 c6 c8
    obtain ⟨c3, c4, c5, c6⟩ := HF14.out.cells
    have c8 := HT14.out.cell
    go_wp2_with fail
    refine (right_any HSN.out.1 HSN.out.2 A10 1 c10 lI _ (by omega) HN10.out).mono ?_
    rintro e v14 ⟨rfl, hb⟩
    have HF15 := Lib.hid (HF14.out.call hb)
    have HG15 := Lib.hid (HG14.out.call hb)
    have HT15 := Lib.hid (HT14.out.call hb)
    clear HN10 hb HF14 HG14 HT14 c3 c4 c5 c6 c8
    rw [z11]
    obtain ⟨c3, c4, c5, c6⟩ := HF15.out.cells
    have c8 := HT15.out.cell
    go_wp2_with fail
    refine (same_any (some ⟨b3, o3, none⟩) (some ⟨b3, o3, none⟩) 3 3 n3 n3 lC lC _ (by omega) (by omega) HF15.out.2.1.1 HF15.out.2.1.1).mono ?_
    rintro e v15 ⟨rfl, hb⟩
    have HF16 := Lib.hid (HF15.out.call hb)
    have HG16 := Lib.hid (HG15.out.call hb)
    have HT16 := Lib.hid (HT15.out.call hb)
    clear hb HF15 HG15 HT15 c3 c4 c5 c6 c8
    rw [z12]
    obtain ⟨c3, c4, c5, c6⟩ := HF16.out.cells
    have c8 := HT16.out.cell
    go_wp2_with fail
    refine (same_any (some ⟨b3, o3, none⟩) A4 3 4 n3 n4 lC lD _ (by omega) (by omega) HF16.out.2.1.1 HF16.out.2.1.2.1).mono ?_
    rintro e v16 ⟨rfl, hb⟩
    have HF17 := Lib.hid (HF16.out.call hb)
    have HG17 := Lib.hid (HG16.out.call hb)
    have HT17 := Lib.hid (HT16.out.call hb)
    clear hb HF16 HG16 HT16 c3 c4 c5 c6 c8
    rw [z13]
    obtain ⟨c3, c4, c5, c6⟩ := HF17.out.cells
    have c8 := HT17.out.cell
    go_wp2_with fail
    go_ret
    exact ⟨rfl, HF17.out.1⟩
  clear hK
  have hS : TreeBox U.drew w7.heap.size A5 5 n5 := HT5.out
  have hL : Nodes U.drew A5 5 lE := HL5.out
  have hB : Below U.heap.size U U.drew := by go_grown
  clear HL5 HL4 HL3 HT5 HT4 HT3 HBU
  refine wp_region_held_drew (S := fun u => TreeBox u w7.heap.size A5 5 n5) (by kernel_rfl) hS (fun _ => ?_)
  generalize U.drew = u0 at hS hL hB ⊢
  have hl5 : w7.heap.size < u0.heap.size := hS.lt
  refine takeAt 0 32 (.agg #[.slice A5 5 n5]) rfl rfl (by kernel_rfl) (by kernel_rfl) (by kernel_rfl) (fun _ _ _ h => h) (loadT_y w7.heap.size A5 5 n5 (fun _ h => h) rfl rfl (by rfl)) hS ?_
  simp only [Act.put, List.setIfInBounds_toArray, List.set_cons_zero, List.set_cons_succ]
  refine takeAt 1 33 (ndV l12) rfl rfl (by kernel_rfl) (by kernel_rfl) (by kernel_rfl) (fun _ _ _ h => h) (yields (by rfl) (fun w => by kernel_rfl)) hS ?_
  simp only [Act.put, List.setIfInBounds_toArray, List.set_cons_zero, List.set_cons_succ]
  refine wpAnyH_ready (rs := [2, 4]) (by kernel_rfl) (by simp) (AllReadyH.cons rfl (callStep 2 34 rfl (by rfl) (by kernel_rfl) (leaf_any l12 u0) ?_) (AllReadyH.cons rfl (valStep 4 6 (.pointer (some ⟨u0.heap.size, 0, none⟩)) (World.alloc u0 (.cells #[.slice none 0 0] 24)) rfl (by rfl) (by kernel_rfl) (hS.call (show Below u0.heap.size u0 (World.alloc u0 (.cells #[.slice none 0 0] 24)) by go_grown)) ?_) (AllReadyH.nil)))
  · rintro e u1 ⟨A7, c7, rfl, ho, hb⟩
    obtain ⟨A7, m7, e', -, h7, -⟩ := own_nodes ho
    cases e'
    have h7 : Nodes u1 A7 1 lH := h7
    have hS1 := hS.call hb
    have hL1 := hL.call hb
    have hB1 := thenB hB hb hB.size
    refine ⟨_, rfl, hS1, ?_⟩
    simp only [Act.put, List.setIfInBounds_toArray, List.set_cons_zero, List.set_cons_succ]
    refine wpAnyH_ready (rs := [3, 4]) (by kernel_rfl) (by simp) (AllReadyH.cons rfl (callStep 3 35 rfl (by rfl) (by kernel_rfl) (join_any A5 5 n5 lE A7 1 c7 lH 9 u1 (by omega) (by omega) (not_none hL1 (by omega)) (not_none h7 (by omega)) hL1 h7) ?_) (AllReadyH.cons rfl (valStep 4 6 (.pointer (some ⟨u1.heap.size, 0, none⟩)) (World.alloc u1 (.cells #[.slice none 0 0] 24)) rfl (by rfl) (by kernel_rfl) (hS1.call (show Below u1.heap.size u1 (World.alloc u1 (.cells #[.slice none 0 0] 24)) by go_grown)) ?_) (AllReadyH.nil)))
    · rintro e u2 ⟨A6, c6, rfl, ho, hb⟩
      obtain ⟨A6, m6, e', -, h6, h6b⟩ := own_nodes ho
      cases e'
      have h6 : Nodes u2 A6 7 lF := h6
      have hS2 := hS1.call hb
      have hB2 := thenB hB1 hb hB1.size
      refine ⟨_, rfl, hS2, ?_⟩
      simp only [Act.put, List.setIfInBounds_toArray, List.set_cons_zero, List.set_cons_succ]
      refine wpAnyH_ready (rs := [4]) (by kernel_rfl) (by simp) (AllReadyH.cons rfl (valStep 4 6 (.pointer (some ⟨u2.heap.size, 0, none⟩)) (World.alloc u2 (.cells #[.slice none 0 0] 24)) rfl (by rfl) (by kernel_rfl) (hS2.call (show Below u2.heap.size u2 (World.alloc u2 (.cells #[.slice none 0 0] 24)) by go_grown)) ?_) (AllReadyH.nil))
      have hX : Below u2.heap.size u2 (World.alloc u2 (.cells #[.slice none 0 0] 24)) := by go_grown
      simp only [Act.put, List.setIfInBounds_toArray, List.set_cons_zero, List.set_cons_succ]
      have hz : (World.alloc u2 (.cells #[.slice none 0 0] 24)).heap[u2.heap.size]? = some (.cells #[.slice none 0 0] 24 (0, 0)) := heap_alloc_new _ _
      have hne : u2.heap.size ≠ w7.heap.size := by have := hS2.lt; omega
      have hbr : Below U.heap.size U ((World.alloc u2 (.cells #[.slice none 0 0] 24)).setRow (u2.heap.size) #[.slice A6 7 c6]) := below_row (thenB hB2 hX hB2.size) (by have := hB2.size; omega) _
      refine rowAt 5 24 (u2.heap.size) #[.slice none 0 0] #[.slice A6 7 c6] rfl rfl rfl (by kernel_rfl) (by rfl) rfl rfl hz infoT rfl (by simp [Value.oneCell']) ((setRow_other (World.alloc u2 (.cells #[.slice none 0 0] 24)) (u2.heap.size) w7.heap.size _ (Ne.symm hne)).trans (hS2.call hX)) ?_
      refine wpAnyH_done (by kernel_rfl) ?_ _
      exact rest _ (u2.heap.size) A6 c6 _ _ _ _ _ _ _ _ _ _ _ _ _ _ _ _ _ hbr (setRow_heap (World.alloc u2 (.cells #[.slice none 0 0] 24)) (u2.heap.size) _ #[.slice A6 7 c6] _ _ hz) ((Nodes.row (h6.call hX) (u2.heap.size) _ (fun a ha => Nat.ne_of_lt (h6.lt (by omega) a ha))))
    · have hX : Below u1.heap.size u1 (World.alloc u1 (.cells #[.slice none 0 0] 24)) := by go_grown
      have hz1 : (World.alloc u1 (.cells #[.slice none 0 0] 24)).heap[u1.heap.size]? = some (.cells #[.slice none 0 0] 24 (0, 0)) := heap_alloc_new _ _
      have hs1 : (World.alloc u1 (.cells #[.slice none 0 0] 24)).heap.size = u1.heap.size + 1 := World.size_alloc _ _
      have hS3 := hS1.call hX
      have hL3 := hL1.call hX
      have h73 := h7.call hX
      have hB3 := thenB hB1 hX hB1.size
      simp only [Act.put, List.setIfInBounds_toArray, List.set_cons_zero, List.set_cons_succ]
      refine wpAnyH_ready (rs := [3]) (by kernel_rfl) (by simp) (AllReadyH.cons rfl (callStep 3 35 rfl (by rfl) (by kernel_rfl) (join_any A5 5 n5 lE A7 1 c7 lH 9 (World.alloc u1 (.cells #[.slice none 0 0] 24)) (by omega) (by omega) (not_none hL3 (by omega)) (not_none h73 (by omega)) hL3 h73) ?_) (AllReadyH.nil))
      rintro e u4 ⟨A6, c6, rfl, ho, hb⟩
      obtain ⟨A6, m6, e', -, h6, h6b⟩ := own_nodes ho
      cases e'
      have h6 : Nodes u4 A6 7 lF := h6
      have hS4 := hS3.call hb
      have hB4 := thenB hB3 hb hB3.size
      refine ⟨_, rfl, hS4, ?_⟩
      simp only [Act.put, List.setIfInBounds_toArray, List.set_cons_zero, List.set_cons_succ]
      have hz : u4.heap[u1.heap.size]? = some (.cells #[.slice none 0 0] 24 (0, 0)) := (hb.block _ (by omega)).trans hz1
      have hne : u1.heap.size ≠ w7.heap.size := by have := hS1.lt; omega
      have hbr : Below U.heap.size U (u4.setRow (u1.heap.size) #[.slice A6 7 c6]) := below_row hB4 (by have := hB1.size; omega) _
      refine rowAt 5 24 (u1.heap.size) #[.slice none 0 0] #[.slice A6 7 c6] rfl rfl rfl (by kernel_rfl) (by rfl) rfl rfl hz infoT rfl (by simp [Value.oneCell']) ((setRow_other u4 (u1.heap.size) w7.heap.size _ (Ne.symm hne)).trans hS4) ?_
      refine wpAnyH_done (by kernel_rfl) ?_ _
      exact rest _ (u1.heap.size) A6 c6 _ _ _ _ _ _ _ _ _ _ _ _ _ _ _ _ _ hbr (setRow_heap u4 (u1.heap.size) _ #[.slice A6 7 c6] _ _ hz) (Nodes.row h6 (u1.heap.size) _ (fun a ha => by have := h6b a ha; omega))
  · have hX : Below u0.heap.size u0 (World.alloc u0 (.cells #[.slice none 0 0] 24)) := by go_grown
    have hz1 : (World.alloc u0 (.cells #[.slice none 0 0] 24)).heap[u0.heap.size]? = some (.cells #[.slice none 0 0] 24 (0, 0)) := heap_alloc_new _ _
    have hs1 : (World.alloc u0 (.cells #[.slice none 0 0] 24)).heap.size = u0.heap.size + 1 := World.size_alloc _ _
    have hS5 := hS.call hX
    have hL5 := hL.call hX
    have hB5 := thenB hB hX hB.size
    simp only [Act.put, List.setIfInBounds_toArray, List.set_cons_zero, List.set_cons_succ]
    refine wpAnyH_ready (rs := [2]) (by kernel_rfl) (by simp) (AllReadyH.cons rfl (callStep 2 34 rfl (by rfl) (by kernel_rfl) (leaf_any l12 (World.alloc u0 (.cells #[.slice none 0 0] 24))) ?_) (AllReadyH.nil))
    rintro e u6 ⟨A7, c7, rfl, ho, hb⟩
    obtain ⟨A7, m7, e', -, h7, -⟩ := own_nodes ho
    cases e'
    have h7 : Nodes u6 A7 1 lH := h7
    have hz6 := (hb.block u0.heap.size (by omega)).trans hz1
    have hS6 := hS5.call hb
    have hL6 := hL5.call hb
    have hB6 := thenB hB5 hb hB5.size
    refine ⟨_, rfl, hS6, ?_⟩
    simp only [Act.put, List.setIfInBounds_toArray, List.set_cons_zero, List.set_cons_succ]
    refine wpAnyH_ready (rs := [3]) (by kernel_rfl) (by simp) (AllReadyH.cons rfl (callStep 3 35 rfl (by rfl) (by kernel_rfl) (join_any A5 5 n5 lE A7 1 c7 lH 9 u6 (by omega) (by omega) (not_none hL6 (by omega)) (not_none h7 (by omega)) hL6 h7) ?_) (AllReadyH.nil))
    rintro e u7 ⟨A6, c6, rfl, ho, hb⟩
    obtain ⟨A6, m6, e', -, h6, h6b⟩ := own_nodes ho
    cases e'
    have h6 : Nodes u7 A6 7 lF := h6
    have hS7 := hS6.call hb
    have hB7 := thenB hB6 hb hB6.size
    refine ⟨_, rfl, hS7, ?_⟩
    simp only [Act.put, List.setIfInBounds_toArray, List.set_cons_zero, List.set_cons_succ]
    have hz : u7.heap[u0.heap.size]? = some (.cells #[.slice none 0 0] 24 (0, 0)) := (hb.block _ (by have := heap_lt hz6; omega)).trans hz6
    have hne : u0.heap.size ≠ w7.heap.size := by omega
    have hbr : Below U.heap.size U (u7.setRow (u0.heap.size) #[.slice A6 7 c6]) := below_row hB7 (by have := hB.size; omega) _
    refine rowAt 5 24 (u0.heap.size) #[.slice none 0 0] #[.slice A6 7 c6] rfl rfl rfl (by kernel_rfl) (by rfl) rfl rfl hz infoT rfl (by simp [Value.oneCell']) ((setRow_other u7 (u0.heap.size) w7.heap.size _ (Ne.symm hne)).trans hS7) ?_
    refine wpAnyH_done (by kernel_rfl) ?_ _
    exact rest _ (u0.heap.size) A6 c6 _ _ _ _ _ _ _ _ _ _ _ _ _ _ _ _ _ hbr (setRow_heap u7 (u0.heap.size) _ #[.slice A6 7 c6] _ _ hz) (Nodes.row h6 (u0.heap.size) _ (fun a ha => by have := h6b a ha; have := heap_lt hz6; omega))
end Go.Proofs.Ytcjefhjhmmoocaa
