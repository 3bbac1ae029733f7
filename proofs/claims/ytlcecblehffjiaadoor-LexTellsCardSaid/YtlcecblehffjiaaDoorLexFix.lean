/-
  Layer 6: the calls whose answers the document fixes: the statements' own fixed() answers yes.
-/
import Derived.Test.YtlcecblehffjiaaDoorLexLex
import Derived.Test.YtlcecblehffjiaaDoorLexEval
import Derived.Test.YtlcecblehffjiaaDoorClassBC
namespace Go.Proofs.YtlcecblehffjiaaDoor
open Go.RowKit

/-- What a world holds: the table of bits, the sentinel, the openings. -/
structure Tabs (w : World) : Prop where
  tab : TabOk w
  err : ErrW w
  op : OpOk w
theorem Tabs.call {w w' : World} (h : Tabs w) (hb : Below w.heap.size w w') : Tabs w' := ⟨h.tab.call hb, h.err.call hb, h.op.call hb⟩
theorem Tabs.alloc {w : World} (h : Tabs w) (o : Obj) : Tabs (w.alloc o) := ⟨h.tab.alloc o, h.err.alloc o, h.op.alloc o⟩
set_option maxRecDepth 20000 in
set_option maxHeartbeats 4000000 in
theorem class_arg (p : ByteArray) (i : Nat) (w : World) (_hp : p.size ≤ 1000000) (hi : i < p.size) (h91 : bt p i ≠ 91) : Calls Tryd.prog 15 #[.string p, .int .i64 (i : Int)] w fun e w' => e = .returned (.tuple #[setV 0#256, .int .i64 0, .int .i64 1]) ∧ Below w.heap.size w w' := by
  have hb : bt p i = (p[i]'hi).toNat := bt_at hi
  have q1 : ¬ ((p[i]'hi).toNat : Int) = 91 := by omega
  have q2 : ¬ (i : Int) < 0 := by omega
  have q3 : ¬ (p.size : Int) ≤ (i : Int) := by omega
  clear hb h91
  go_enter Tryd.func15, Tryd.ntmps15
  go_wp2_with fail
  have hZ : Box (World.alloc w (.cells #[.int .u64 0, .int .u64 0, .int .u64 0, .int .u64 0] 36)) w.heap.size 0#256 := Box.zero (heap_alloc_new _ _)
  exact bodyPost_ret (resS3 (p := 4) (u := 5) (u2 := 6) (S := 0#256) (v := .int .i64 0) (v2 := .int .i64 1) rfl _ (g := w.heap.size) rfl rfl rfl hZ) rfl ⟨rfl, (Below.refl _ w).alloc (Nat.le_refl _) _⟩
/-- The tokens of the first pattern lie there, and the set of the class. -/
structure FixS (w0 w : World) (g g2 : Nat) (SC : BitVec 256) : Prop where
  row : w.rangeAt g 0 (toksC toksA)
  lt : g < w.heap.size
  box : Box w g2 SC
  below : Below w0.heap.size w0 w
theorem FixS.call {w0 w w' : World} {g g2 : Nat} {SC : BitVec 256} (h : FixS w0 w g g2 SC) (hb : Below w.heap.size w w') : FixS w0 w' g g2 SC :=
  ⟨fun j v hv => (hb.cell (p := ⟨g, 0 + j, none⟩) h.lt).trans (h.row j v hv), Nat.lt_of_lt_of_le h.lt hb.size, h.box.call hb, thenB h.below hb h.below.size⟩
theorem FixS.drew {w0 w : World} {g g2 : Nat} {SC : BitVec 256} (h : FixS w0 w g g2 SC) : FixS w0 w.drew g g2 SC := ⟨h.row, h.lt, h.box, h.below.drew⟩
theorem FixS.alloc {w0 w : World} {g g2 : Nat} {SC : BitVec 256} (h : FixS w0 w g g2 SC) (o : Obj) : FixS w0 (w.alloc o) g g2 SC := h.call ((Below.refl _ w).alloc (Nat.le_refl _) o)
theorem FixS.at {w0 w : World} {g g2 : Nat} {SC : BitVec 256} (h : FixS w0 w g g2 SC) (k : Nat) (t : Tok) (he : ((toksC toksA).drop (10 * k)).take 10 = (tokC t).toList) : w.rangeAt g (10 * k) (tokC t).toList := fun j v hv => by
  rw [← he] at hv
  have hj : j < 10 := by
    have := (List.getElem?_eq_some_iff.1 hv).1
    rw [List.length_take] at this
    omega
  rw [List.getElem?_take_of_lt hj, List.getElem?_drop] at hv
  have := h.row (10 * k + j) v hv
  rwa [Nat.zero_add] at this
theorem tokAt_y {ops : Array Oper} {a : Act} {o : Oper} {x : Operand} {w0 : World} {SC : BitVec 256} (g g2 k : Nat) (t : Tok) (he : ((toksC toksA).drop (10 * k)).take 10 = (tokC t).toList) (ho : o.op = .load 46 x) (hx : a.eval x = .pointer (some ⟨g, 10 * k, none⟩))
    (hw : Region.wanted o (yielded ops a.tmps) = true) : YieldsIf Tryd.prog ops (fun u => FixS w0 u g g2 SC) o (tokV t) a :=
  yieldsIf_load_mid hw 46 x ho g (10 * k) hx (tokC t).toList _ (fun _ h => h.at k t he) Tryd.underlying46 rfl (by rw [Array.length_toList, tokC_size]; exact sizeTok)
def tk (k : Nat) : Tok := toksA.getD k (tok0 0)
set_option maxRecDepth 100000 in
set_option maxHeartbeats 16000000 in
theorem fixed_any (hE : ErrsOk) (hC : CloneOk) (w : World) (hw : Tabs w) : Calls Tryd.prog 14 #[] w fun e w' => e = .returned (.bool true) ∧ Below w.heap.size w w' := by
  have HL := Lib.hid (fun p w (h : Tabs w) => lex_any hE hC p w h.err h.tab h.op)
  have HCl := Lib.hid (fun w (h : Tabs w) => class_any hE ⟨#[120, 91, 97, 45, 99, 93, 121]⟩ 1 w (by decide) (by decide) rfl h.err h.tab)
  rw [ev_s] at HCl
  have HCs : Hid (∀ w, Tabs w → Calls Tryd.prog 15 #[.string ⟨#[120, 91, 97, 45, 99, 93, 121]⟩, .int .i64 1] w fun e w' => e = .returned (.tuple #[setV (ofBytes [97, 98, 99]), .int .i64 6, .int .i64 0]) ∧ Below w.heap.size w w') := HCl
  generalize hsC : ofBytes [97, 98, 99] = SC at HCs
  have HSC := Lib.hid hsC
  clear hsC HCl
  have HCa : Hid (∀ w, Calls Tryd.prog 15 #[.string ⟨#[120, 91, 97, 45, 99, 93, 121]⟩, .int .i64 0] w fun e w' => e = .returned (.tuple #[setV 0#256, .int .i64 0, .int .i64 1]) ∧ Below w.heap.size w w') := Lib.hid (fun w => class_arg ⟨#[120, 91, 97, 45, 99, 93, 121]⟩ 0 w (by decide) (by decide) (by decide))
  have HT := Lib.hid hw
  clear hw hE hC
  go_enter Tryd.func14, Tryd.ntmps14
  go_wp2_with fail
  have HA := Lib.hid (HL.out patA _ HT.out)
  rw [ev_a] at HA
  refine HA.out.mono ?_
  rintro e w1 ⟨v1, rfl, ho1, hb⟩
  obtain ⟨g, cap, hv1, hlt, hrow⟩ : ∃ g cap, v1 = .slice (some ⟨g, 0, none⟩) 8 cap ∧ g < w1.heap.size ∧ w1.rangeAt g 0 (toksC toksA) := by
    rcases ho1.2 with ⟨-, h⟩ | ⟨g, cap, cur, h1, -, h2, -, -, -, -⟩
    · exact absurd h (by decide)
    · exact ⟨g, cap, h1, (Array.getElem?_eq_some_iff.1 h2).1, fun j v hv => by have := ho1.cells (g := g) (by rw [h1]; rfl) j v hv; rwa [Addr.add_lit] at this⟩
  subst hv1
  have HRow := Lib.hid hrow
  have HLt := Lib.hid hlt
  have HB := Lib.hid hb
  clear ho1 hb hrow hlt HA
  go_wp2_with fail
  have HA := Lib.hid (HL.out ⟨#[97, 123, 49, 48, 49, 125]⟩ _ (HT.out.call HB.out))
  rw [ev_b] at HA
  refine HA.out.mono ?_
  rintro e w2 ⟨v2, rfl, -, hb⟩
  have HRow := Lib.hid (show w2.rangeAt g 0 (toksC toksA) from fun j v hv => (hb.cell (p := ⟨g, 0 + j, none⟩) HLt.out).trans (HRow.out j v hv))
  have HLt := Lib.hid (Nat.lt_of_lt_of_le HLt.out hb.size)
  have HB := Lib.hid (thenB HB.out hb HB.out.size)
  clear hb HA
  go_wp2_with fail
  have HA := Lib.hid (HL.out ⟨#[97, 123, 51, 44, 50, 125]⟩ _ (HT.out.call HB.out))
  rw [ev_c] at HA
  refine HA.out.mono ?_
  rintro e w3 ⟨v3, rfl, -, hb⟩
  have HRow := Lib.hid (show w3.rangeAt g 0 (toksC toksA) from fun j v hv => (hb.cell (p := ⟨g, 0 + j, none⟩) HLt.out).trans (HRow.out j v hv))
  have HLt := Lib.hid (Nat.lt_of_lt_of_le HLt.out hb.size)
  have HB := Lib.hid (thenB HB.out hb HB.out.size)
  clear hb HA
  go_wp2_with fail
  have HA := Lib.hid (HL.out ⟨#[40, 63, 105, 105, 58, 97, 41]⟩ _ (HT.out.call HB.out))
  rw [ev_d] at HA
  refine HA.out.mono ?_
  rintro e w4 ⟨v4, rfl, -, hb⟩
  have HRow := Lib.hid (show w4.rangeAt g 0 (toksC toksA) from fun j v hv => (hb.cell (p := ⟨g, 0 + j, none⟩) HLt.out).trans (HRow.out j v hv))
  have HLt := Lib.hid (Nat.lt_of_lt_of_le HLt.out hb.size)
  have HB := Lib.hid (thenB HB.out hb HB.out.size)
  clear hb HA
  go_wp2_with fail
  have HA := Lib.hid (HL.out ⟨#[91, 93]⟩ _ (HT.out.call HB.out))
  rw [ev_e] at HA
  refine HA.out.mono ?_
  rintro e w5 ⟨v5, rfl, -, hb⟩
  have HRow := Lib.hid (show w5.rangeAt g 0 (toksC toksA) from fun j v hv => (hb.cell (p := ⟨g, 0 + j, none⟩) HLt.out).trans (HRow.out j v hv))
  have HLt := Lib.hid (Nat.lt_of_lt_of_le HLt.out hb.size)
  have HB := Lib.hid (thenB HB.out hb HB.out.size)
  clear hb HA
  go_wp2_with fail
  have HA := Lib.hid (HL.out ⟨#[92, 113]⟩ _ (HT.out.call HB.out))
  rw [ev_f] at HA
  refine HA.out.mono ?_
  rintro e w6 ⟨v6, rfl, -, hb⟩
  have HRow := Lib.hid (show w6.rangeAt g 0 (toksC toksA) from fun j v hv => (hb.cell (p := ⟨g, 0 + j, none⟩) HLt.out).trans (HRow.out j v hv))
  have HLt := Lib.hid (Nat.lt_of_lt_of_le HLt.out hb.size)
  have HB := Lib.hid (thenB HB.out hb HB.out.size)
  clear hb HA
  go_wp2_with fail
  with_reducible refine (HCs.out _ (HT.out.call HB.out)).mono ?_
  rintro e w7 ⟨rfl, hb⟩
  have HRow := Lib.hid (show w7.rangeAt g 0 (toksC toksA) from fun j v hv => (hb.cell (p := ⟨g, 0 + j, none⟩) HLt.out).trans (HRow.out j v hv))
  have HLt := Lib.hid (Nat.lt_of_lt_of_le HLt.out hb.size)
  have HB := Lib.hid (thenB HB.out hb HB.out.size)
  clear hb
  go_wp2_with fail
  have HF := Lib.hid (show FixS w (w7.alloc (.cells #[.int .u64 (W SC 0), .int .u64 (W SC 1), .int .u64 (W SC 2), .int .u64 (W SC 3)] 36)) g w7.heap.size SC from ⟨fun j v hv => (((Below.refl w7.heap.size w7).alloc (Nat.le_refl _) _).cell (p := ⟨g, 0 + j, none⟩) HLt.out).trans (HRow.out j v hv), by rw [World.size_alloc]; exact Nat.lt_succ_of_lt HLt.out, Box.new _ _, HB.out.alloc HB.out.size _⟩)
  clear HRow HLt HB HT HL
  with_reducible refine (HCa.out _).mono ?_
  rintro e w8 ⟨rfl, hb⟩
  have HF8 := Lib.hid (HF.out.call hb)
  clear hb HF HCa HCs
  go_wp2_with fail
  have hS0 := (HF8.out.alloc (.cells #[.int .u64 (W 0#256 0), .int .u64 (W 0#256 1), .int .u64 (W 0#256 2), .int .u64 (W 0#256 3)] 36)).drew
  obtain rfl := HSC.out
  clear HF8 HSC
  simp only [List.append_eq, List.cons_append, List.nil_append]
  refine wp_region_held_drew (S := fun u => FixS w u g w7.heap.size (ofBytes [97, 98, 99])) (by kernel_rfl) hS0 (fun _ => ?_)
  generalize World.drew (World.alloc w8 _) = u0 at hS0 ⊢
  refine takeAt 0 56 (.int .i64 0) rfl rfl (by kernel_rfl) (by kernel_rfl) (by kernel_rfl) (fun _ _ _ h => h) (yields (by rfl) (fun w => by kernel_rfl)) hS0 ?_
  simp only [Act.put, List.setIfInBounds_toArray, List.set_cons_zero, List.set_cons_succ]
  refine takeAt 1 57 (.bool true) rfl rfl (by kernel_rfl) (by kernel_rfl) (by kernel_rfl) (fun _ _ _ h => h) (yields (by rfl) (fun w => by kernel_rfl)) hS0 ?_
  simp only [Act.put, List.setIfInBounds_toArray, List.set_cons_zero, List.set_cons_succ]
  refine takeAt 2 58 (.bool true) rfl rfl (by kernel_rfl) (by kernel_rfl) (by kernel_rfl) (fun _ _ _ h => h) (yields (by rfl) (fun w => by kernel_rfl)) hS0 ?_
  simp only [Act.put, List.setIfInBounds_toArray, List.set_cons_zero, List.set_cons_succ]
  refine takeAt 3 59 (.slice (some ⟨g, 0, none⟩) 8 cap) rfl rfl (by kernel_rfl) (by kernel_rfl) (by kernel_rfl) (fun _ _ _ h => h) (yields (by rfl) (fun w => by kernel_rfl)) hS0 ?_
  simp only [Act.put, List.setIfInBounds_toArray, List.set_cons_zero, List.set_cons_succ]
  refine takeAt 4 60 (.pointer (some ⟨g, 0, none⟩)) rfl rfl (by kernel_rfl) (by kernel_rfl) (by kernel_rfl) (fun _ _ _ h => h) (yields (by rfl) (fun w => by kernel_rfl)) hS0 ?_
  simp only [Act.put, List.setIfInBounds_toArray, List.set_cons_zero, List.set_cons_succ]
  refine takeAt 5 61 (tokV (tk 0)) rfl rfl (by kernel_rfl) (by kernel_rfl) (by kernel_rfl) (fun _ _ _ h => h) (tokAt_y g w7.heap.size 0 (tk 0) (by kernel_rfl) rfl (by rfl) (by rfl)) hS0 ?_
  simp only [Act.put, List.setIfInBounds_toArray, List.set_cons_zero, List.set_cons_succ]
  refine callAt 6 62 rfl rfl (by kernel_rfl) (by rfl) (by kernel_rfl) (one_any 97 _ (by decide) (by decide)) ?_
  rintro e w' ⟨rfl, hb'⟩
  have hc1 := hS0.call hb'
  refine ⟨_, rfl, hc1, ?_⟩
  clear hS0 hb'
  simp only [Act.put, List.setIfInBounds_toArray, List.set_cons_zero, List.set_cons_succ]
  refine takeAt 7 63 (tokV (tk 0)) rfl rfl (by kernel_rfl) (by kernel_rfl) (by kernel_rfl) (fun _ _ _ h => h) (yields (by rfl) (fun w => by kernel_rfl)) hc1 ?_
  simp only [Act.put, List.setIfInBounds_toArray, List.set_cons_zero, List.set_cons_succ]
  refine takeAt 8 64 (.bool true) rfl rfl (by kernel_rfl) (by kernel_rfl) (by kernel_rfl) (fun _ _ _ h => h) (yields (by rfl) (fun w => by kernel_rfl)) hc1 ?_
  simp only [Act.put, List.setIfInBounds_toArray, List.set_cons_zero, List.set_cons_succ]
  refine takeAt 9 65 (.bool true) rfl rfl (by kernel_rfl) (by kernel_rfl) (by kernel_rfl) (fun _ _ _ h => h) (yields (by rfl) (fun w => by kernel_rfl)) hc1 ?_
  simp only [Act.put, List.setIfInBounds_toArray, List.set_cons_zero, List.set_cons_succ]
  as_aux_lemma =>
    refine takeAt 10 66 (.bool true) rfl rfl (by kernel_rfl) (by kernel_rfl) (by kernel_rfl) (fun _ _ _ h => h) (yields (by rfl) (fun w => by kernel_rfl)) hc1 ?_
    simp only [Act.put, List.setIfInBounds_toArray, List.set_cons_zero, List.set_cons_succ]
    refine takeAt 11 67 (.slice (some ⟨g, 0, none⟩) 8 cap) rfl rfl (by kernel_rfl) (by kernel_rfl) (by kernel_rfl) (fun _ _ _ h => h) (yields (by rfl) (fun w => by kernel_rfl)) hc1 ?_
    simp only [Act.put, List.setIfInBounds_toArray, List.set_cons_zero, List.set_cons_succ]
    refine takeAt 12 68 (.pointer (some ⟨g, 10, none⟩)) rfl rfl (by kernel_rfl) (by kernel_rfl) (by kernel_rfl) (fun _ _ _ h => h) (yields (by rfl) (fun w => by kernel_rfl)) hc1 ?_
    simp only [Act.put, List.setIfInBounds_toArray, List.set_cons_zero, List.set_cons_succ]
    refine takeAt 13 69 (tokV (tk 1)) rfl rfl (by kernel_rfl) (by kernel_rfl) (by kernel_rfl) (fun _ _ _ h => h) (tokAt_y g w7.heap.size 1 (tk 1) (by kernel_rfl) rfl (by rfl) (by rfl)) hc1 ?_
    simp only [Act.put, List.setIfInBounds_toArray, List.set_cons_zero, List.set_cons_succ]
    refine takeAt 14 70 (tokV (tk 1)) rfl rfl (by kernel_rfl) (by kernel_rfl) (by kernel_rfl) (fun _ _ _ h => h) (yields (by rfl) (fun w => by kernel_rfl)) hc1 ?_
    simp only [Act.put, List.setIfInBounds_toArray, List.set_cons_zero, List.set_cons_succ]
    refine takeAt 15 71 (.bool true) rfl rfl (by kernel_rfl) (by kernel_rfl) (by kernel_rfl) (fun _ _ _ h => h) (yields (by rfl) (fun w => by kernel_rfl)) hc1 ?_
    simp only [Act.put, List.setIfInBounds_toArray, List.set_cons_zero, List.set_cons_succ]
    refine takeAt 16 72 (.bool true) rfl rfl (by kernel_rfl) (by kernel_rfl) (by kernel_rfl) (fun _ _ _ h => h) (yields (by rfl) (fun w => by kernel_rfl)) hc1 ?_
    simp only [Act.put, List.setIfInBounds_toArray, List.set_cons_zero, List.set_cons_succ]
    refine takeAt 17 73 (.bool true) rfl rfl (by kernel_rfl) (by kernel_rfl) (by kernel_rfl) (fun _ _ _ h => h) (yields (by rfl) (fun w => by kernel_rfl)) hc1 ?_
    simp only [Act.put, List.setIfInBounds_toArray, List.set_cons_zero, List.set_cons_succ]
    refine takeAt 18 74 (.slice (some ⟨g, 0, none⟩) 8 cap) rfl rfl (by kernel_rfl) (by kernel_rfl) (by kernel_rfl) (fun _ _ _ h => h) (yields (by rfl) (fun w => by kernel_rfl)) hc1 ?_
    simp only [Act.put, List.setIfInBounds_toArray, List.set_cons_zero, List.set_cons_succ]
    refine takeAt 19 75 (.pointer (some ⟨g, 20, none⟩)) rfl rfl (by kernel_rfl) (by kernel_rfl) (by kernel_rfl) (fun _ _ _ h => h) (yields (by rfl) (fun w => by kernel_rfl)) hc1 ?_
    simp only [Act.put, List.setIfInBounds_toArray, List.set_cons_zero, List.set_cons_succ]
    as_aux_lemma =>
      refine takeAt 20 76 (tokV (tk 2)) rfl rfl (by kernel_rfl) (by kernel_rfl) (by kernel_rfl) (fun _ _ _ h => h) (tokAt_y g w7.heap.size 2 (tk 2) (by kernel_rfl) rfl (by rfl) (by rfl)) hc1 ?_
      simp only [Act.put, List.setIfInBounds_toArray, List.set_cons_zero, List.set_cons_succ]
      refine takeAt 21 77 (tokV (tk 2)) rfl rfl (by kernel_rfl) (by kernel_rfl) (by kernel_rfl) (fun _ _ _ h => h) (yields (by rfl) (fun w => by kernel_rfl)) hc1 ?_
      simp only [Act.put, List.setIfInBounds_toArray, List.set_cons_zero, List.set_cons_succ]
      refine takeAt 22 78 (.bool true) rfl rfl (by kernel_rfl) (by kernel_rfl) (by kernel_rfl) (fun _ _ _ h => h) (yields (by rfl) (fun w => by kernel_rfl)) hc1 ?_
      simp only [Act.put, List.setIfInBounds_toArray, List.set_cons_zero, List.set_cons_succ]
      refine takeAt 23 79 (.bool true) rfl rfl (by kernel_rfl) (by kernel_rfl) (by kernel_rfl) (fun _ _ _ h => h) (yields (by rfl) (fun w => by kernel_rfl)) hc1 ?_
      simp only [Act.put, List.setIfInBounds_toArray, List.set_cons_zero, List.set_cons_succ]
      refine takeAt 24 80 (.bool true) rfl rfl (by kernel_rfl) (by kernel_rfl) (by kernel_rfl) (fun _ _ _ h => h) (yields (by rfl) (fun w => by kernel_rfl)) hc1 ?_
      simp only [Act.put, List.setIfInBounds_toArray, List.set_cons_zero, List.set_cons_succ]
      refine takeAt 25 81 (.slice (some ⟨g, 0, none⟩) 8 cap) rfl rfl (by kernel_rfl) (by kernel_rfl) (by kernel_rfl) (fun _ _ _ h => h) (yields (by rfl) (fun w => by kernel_rfl)) hc1 ?_
      simp only [Act.put, List.setIfInBounds_toArray, List.set_cons_zero, List.set_cons_succ]
      refine takeAt 26 82 (.pointer (some ⟨g, 30, none⟩)) rfl rfl (by kernel_rfl) (by kernel_rfl) (by kernel_rfl) (fun _ _ _ h => h) (yields (by rfl) (fun w => by kernel_rfl)) hc1 ?_
      simp only [Act.put, List.setIfInBounds_toArray, List.set_cons_zero, List.set_cons_succ]
      refine takeAt 27 83 (tokV (tk 3)) rfl rfl (by kernel_rfl) (by kernel_rfl) (by kernel_rfl) (fun _ _ _ h => h) (tokAt_y g w7.heap.size 3 (tk 3) (by kernel_rfl) rfl (by rfl) (by rfl)) hc1 ?_
      simp only [Act.put, List.setIfInBounds_toArray, List.set_cons_zero, List.set_cons_succ]
      refine callAt 28 84 rfl rfl (by kernel_rfl) (by rfl) (by kernel_rfl) (of_any ⟨#[98, 99, 100, 65]⟩ _ (by decide)) ?_
      rintro e w' ⟨rfl, hb'⟩
      have hc2 := hc1.call hb'
      refine ⟨_, rfl, hc2, ?_⟩
      clear hc1 hb'
      simp only [Act.put, List.setIfInBounds_toArray, List.set_cons_zero, List.set_cons_succ]
      refine callAt 29 85 rfl rfl (by kernel_rfl) (by rfl) (by kernel_rfl) (not_any (ofBytes (ByteArray.mk #[98, 99, 100, 65]).data.toList) _) ?_
      rintro e w' ⟨rfl, hb'⟩
      have hc3 := hc2.call hb'
      refine ⟨_, rfl, hc3, ?_⟩
      clear hc2 hb'
      simp only [Act.put, List.setIfInBounds_toArray, List.set_cons_zero, List.set_cons_succ]
      as_aux_lemma =>
        refine takeAt 30 86 (tokV (tk 3)) rfl rfl (by kernel_rfl) (by kernel_rfl) (by kernel_rfl) (fun _ _ _ h => h) (yields (by rfl) (fun w => by kernel_rfl)) hc3 ?_
        simp only [Act.put, List.setIfInBounds_toArray, List.set_cons_zero, List.set_cons_succ]
        refine takeAt 31 87 (.bool true) rfl rfl (by kernel_rfl) (by kernel_rfl) (by kernel_rfl) (fun _ _ _ h => h) (yields (by rfl) (fun w => by kernel_rfl)) hc3 ?_
        simp only [Act.put, List.setIfInBounds_toArray, List.set_cons_zero, List.set_cons_succ]
        refine takeAt 32 88 (.bool true) rfl rfl (by kernel_rfl) (by kernel_rfl) (by kernel_rfl) (fun _ _ _ h => h) (yields (by rfl) (fun w => by kernel_rfl)) hc3 ?_
        simp only [Act.put, List.setIfInBounds_toArray, List.set_cons_zero, List.set_cons_succ]
        refine takeAt 33 89 (.bool true) rfl rfl (by kernel_rfl) (by kernel_rfl) (by kernel_rfl) (fun _ _ _ h => h) (yields (by rfl) (fun w => by kernel_rfl)) hc3 ?_
        simp only [Act.put, List.setIfInBounds_toArray, List.set_cons_zero, List.set_cons_succ]
        refine takeAt 34 90 (.slice (some ⟨g, 0, none⟩) 8 cap) rfl rfl (by kernel_rfl) (by kernel_rfl) (by kernel_rfl) (fun _ _ _ h => h) (yields (by rfl) (fun w => by kernel_rfl)) hc3 ?_
        simp only [Act.put, List.setIfInBounds_toArray, List.set_cons_zero, List.set_cons_succ]
        refine takeAt 35 91 (.pointer (some ⟨g, 40, none⟩)) rfl rfl (by kernel_rfl) (by kernel_rfl) (by kernel_rfl) (fun _ _ _ h => h) (yields (by rfl) (fun w => by kernel_rfl)) hc3 ?_
        simp only [Act.put, List.setIfInBounds_toArray, List.set_cons_zero, List.set_cons_succ]
        refine takeAt 36 92 (tokV (tk 4)) rfl rfl (by kernel_rfl) (by kernel_rfl) (by kernel_rfl) (fun _ _ _ h => h) (tokAt_y g w7.heap.size 4 (tk 4) (by kernel_rfl) rfl (by rfl) (by rfl)) hc3 ?_
        simp only [Act.put, List.setIfInBounds_toArray, List.set_cons_zero, List.set_cons_succ]
        refine takeAt 37 93 (tokV (tk 4)) rfl rfl (by kernel_rfl) (by kernel_rfl) (by kernel_rfl) (fun _ _ _ h => h) (yields (by rfl) (fun w => by kernel_rfl)) hc3 ?_
        simp only [Act.put, List.setIfInBounds_toArray, List.set_cons_zero, List.set_cons_succ]
        refine takeAt 38 94 (.bool true) rfl rfl (by kernel_rfl) (by kernel_rfl) (by kernel_rfl) (fun _ _ _ h => h) (yields (by rfl) (fun w => by kernel_rfl)) hc3 ?_
        simp only [Act.put, List.setIfInBounds_toArray, List.set_cons_zero, List.set_cons_succ]
        refine takeAt 39 95 (.bool true) rfl rfl (by kernel_rfl) (by kernel_rfl) (by kernel_rfl) (fun _ _ _ h => h) (yields (by rfl) (fun w => by kernel_rfl)) hc3 ?_
        simp only [Act.put, List.setIfInBounds_toArray, List.set_cons_zero, List.set_cons_succ]
        as_aux_lemma =>
          refine takeAt 40 96 (.bool true) rfl rfl (by kernel_rfl) (by kernel_rfl) (by kernel_rfl) (fun _ _ _ h => h) (yields (by rfl) (fun w => by kernel_rfl)) hc3 ?_
          simp only [Act.put, List.setIfInBounds_toArray, List.set_cons_zero, List.set_cons_succ]
          refine takeAt 41 97 (.slice (some ⟨g, 0, none⟩) 8 cap) rfl rfl (by kernel_rfl) (by kernel_rfl) (by kernel_rfl) (fun _ _ _ h => h) (yields (by rfl) (fun w => by kernel_rfl)) hc3 ?_
          simp only [Act.put, List.setIfInBounds_toArray, List.set_cons_zero, List.set_cons_succ]
          refine takeAt 42 98 (.pointer (some ⟨g, 50, none⟩)) rfl rfl (by kernel_rfl) (by kernel_rfl) (by kernel_rfl) (fun _ _ _ h => h) (yields (by rfl) (fun w => by kernel_rfl)) hc3 ?_
          simp only [Act.put, List.setIfInBounds_toArray, List.set_cons_zero, List.set_cons_succ]
          refine takeAt 43 99 (tokV (tk 5)) rfl rfl (by kernel_rfl) (by kernel_rfl) (by kernel_rfl) (fun _ _ _ h => h) (tokAt_y g w7.heap.size 5 (tk 5) (by kernel_rfl) rfl (by rfl) (by rfl)) hc3 ?_
          simp only [Act.put, List.setIfInBounds_toArray, List.set_cons_zero, List.set_cons_succ]
          refine takeAt 44 100 (tokV (tk 5)) rfl rfl (by kernel_rfl) (by kernel_rfl) (by kernel_rfl) (fun _ _ _ h => h) (yields (by rfl) (fun w => by kernel_rfl)) hc3 ?_
          simp only [Act.put, List.setIfInBounds_toArray, List.set_cons_zero, List.set_cons_succ]
          refine takeAt 45 101 (.bool true) rfl rfl (by kernel_rfl) (by kernel_rfl) (by kernel_rfl) (fun _ _ _ h => h) (yields (by rfl) (fun w => by kernel_rfl)) hc3 ?_
          simp only [Act.put, List.setIfInBounds_toArray, List.set_cons_zero, List.set_cons_succ]
          refine takeAt 46 102 (.bool true) rfl rfl (by kernel_rfl) (by kernel_rfl) (by kernel_rfl) (fun _ _ _ h => h) (yields (by rfl) (fun w => by kernel_rfl)) hc3 ?_
          simp only [Act.put, List.setIfInBounds_toArray, List.set_cons_zero, List.set_cons_succ]
          refine takeAt 47 103 (.bool true) rfl rfl (by kernel_rfl) (by kernel_rfl) (by kernel_rfl) (fun _ _ _ h => h) (yields (by rfl) (fun w => by kernel_rfl)) hc3 ?_
          simp only [Act.put, List.setIfInBounds_toArray, List.set_cons_zero, List.set_cons_succ]
          refine takeAt 48 104 (.slice (some ⟨g, 0, none⟩) 8 cap) rfl rfl (by kernel_rfl) (by kernel_rfl) (by kernel_rfl) (fun _ _ _ h => h) (yields (by rfl) (fun w => by kernel_rfl)) hc3 ?_
          simp only [Act.put, List.setIfInBounds_toArray, List.set_cons_zero, List.set_cons_succ]
          refine takeAt 49 105 (.pointer (some ⟨g, 60, none⟩)) rfl rfl (by kernel_rfl) (by kernel_rfl) (by kernel_rfl) (fun _ _ _ h => h) (yields (by rfl) (fun w => by kernel_rfl)) hc3 ?_
          simp only [Act.put, List.setIfInBounds_toArray, List.set_cons_zero, List.set_cons_succ]
          as_aux_lemma =>
            refine takeAt 50 106 (tokV (tk 6)) rfl rfl (by kernel_rfl) (by kernel_rfl) (by kernel_rfl) (fun _ _ _ h => h) (tokAt_y g w7.heap.size 6 (tk 6) (by kernel_rfl) rfl (by rfl) (by rfl)) hc3 ?_
            simp only [Act.put, List.setIfInBounds_toArray, List.set_cons_zero, List.set_cons_succ]
            refine takeAt 51 107 (tokV (tk 6)) rfl rfl (by kernel_rfl) (by kernel_rfl) (by kernel_rfl) (fun _ _ _ h => h) (yields (by rfl) (fun w => by kernel_rfl)) hc3 ?_
            simp only [Act.put, List.setIfInBounds_toArray, List.set_cons_zero, List.set_cons_succ]
            refine takeAt 52 108 (.bool true) rfl rfl (by kernel_rfl) (by kernel_rfl) (by kernel_rfl) (fun _ _ _ h => h) (yields (by rfl) (fun w => by kernel_rfl)) hc3 ?_
            simp only [Act.put, List.setIfInBounds_toArray, List.set_cons_zero, List.set_cons_succ]
            refine takeAt 53 109 (.bool true) rfl rfl (by kernel_rfl) (by kernel_rfl) (by kernel_rfl) (fun _ _ _ h => h) (yields (by rfl) (fun w => by kernel_rfl)) hc3 ?_
            simp only [Act.put, List.setIfInBounds_toArray, List.set_cons_zero, List.set_cons_succ]
            refine takeAt 54 110 (.bool true) rfl rfl (by kernel_rfl) (by kernel_rfl) (by kernel_rfl) (fun _ _ _ h => h) (yields (by rfl) (fun w => by kernel_rfl)) hc3 ?_
            simp only [Act.put, List.setIfInBounds_toArray, List.set_cons_zero, List.set_cons_succ]
            refine takeAt 55 111 (.slice (some ⟨g, 0, none⟩) 8 cap) rfl rfl (by kernel_rfl) (by kernel_rfl) (by kernel_rfl) (fun _ _ _ h => h) (yields (by rfl) (fun w => by kernel_rfl)) hc3 ?_
            simp only [Act.put, List.setIfInBounds_toArray, List.set_cons_zero, List.set_cons_succ]
            refine takeAt 56 112 (.pointer (some ⟨g, 70, none⟩)) rfl rfl (by kernel_rfl) (by kernel_rfl) (by kernel_rfl) (fun _ _ _ h => h) (yields (by rfl) (fun w => by kernel_rfl)) hc3 ?_
            simp only [Act.put, List.setIfInBounds_toArray, List.set_cons_zero, List.set_cons_succ]
            refine takeAt 57 113 (tokV (tk 7)) rfl rfl (by kernel_rfl) (by kernel_rfl) (by kernel_rfl) (fun _ _ _ h => h) (tokAt_y g w7.heap.size 7 (tk 7) (by kernel_rfl) rfl (by rfl) (by rfl)) hc3 ?_
            simp only [Act.put, List.setIfInBounds_toArray, List.set_cons_zero, List.set_cons_succ]
            refine takeAt 58 114 (tokV (tk 7)) rfl rfl (by kernel_rfl) (by kernel_rfl) (by kernel_rfl) (fun _ _ _ h => h) (yields (by rfl) (fun w => by kernel_rfl)) hc3 ?_
            simp only [Act.put, List.setIfInBounds_toArray, List.set_cons_zero, List.set_cons_succ]
            refine takeAt 59 115 (.bool true) rfl rfl (by kernel_rfl) (by kernel_rfl) (by kernel_rfl) (fun _ _ _ h => h) (yields (by rfl) (fun w => by kernel_rfl)) hc3 ?_
            simp only [Act.put, List.setIfInBounds_toArray, List.set_cons_zero, List.set_cons_succ]
            as_aux_lemma =>
              refine takeAt 60 116 (.bool true) rfl rfl (by kernel_rfl) (by kernel_rfl) (by kernel_rfl) (fun _ _ _ h => h) (yields (by rfl) (fun w => by kernel_rfl)) hc3 ?_
              simp only [Act.put, List.setIfInBounds_toArray, List.set_cons_zero, List.set_cons_succ]
              refine takeAt 61 117 (.bool true) rfl rfl (by kernel_rfl) (by kernel_rfl) (by kernel_rfl) (fun _ _ _ h => h) (yields (by rfl) (fun w => by kernel_rfl)) hc3 ?_
              simp only [Act.put, List.setIfInBounds_toArray, List.set_cons_zero, List.set_cons_succ]
              refine takeAt 62 118 (.int .i64 4) rfl rfl (by kernel_rfl) (by kernel_rfl) (by kernel_rfl) (fun _ _ _ h => h) (yields (by rfl) (fun w => by kernel_rfl)) hc3 ?_
              simp only [Act.put, List.setIfInBounds_toArray, List.set_cons_zero, List.set_cons_succ]
              refine takeAt 63 119 (.bool true) rfl rfl (by kernel_rfl) (by kernel_rfl) (by kernel_rfl) (fun _ _ _ h => h) (yields (by rfl) (fun w => by kernel_rfl)) hc3 ?_
              simp only [Act.put, List.setIfInBounds_toArray, List.set_cons_zero, List.set_cons_succ]
              refine takeAt 64 120 (.bool true) rfl rfl (by kernel_rfl) (by kernel_rfl) (by kernel_rfl) (fun _ _ _ h => h) (yields (by rfl) (fun w => by kernel_rfl)) hc3 ?_
              simp only [Act.put, List.setIfInBounds_toArray, List.set_cons_zero, List.set_cons_succ]
              refine takeAt 65 121 (.bool true) rfl rfl (by kernel_rfl) (by kernel_rfl) (by kernel_rfl) (fun _ _ _ h => h) (yields (by rfl) (fun w => by kernel_rfl)) hc3 ?_
              simp only [Act.put, List.setIfInBounds_toArray, List.set_cons_zero, List.set_cons_succ]
              refine takeAt 66 122 (.int .i64 3) rfl rfl (by kernel_rfl) (by kernel_rfl) (by kernel_rfl) (fun _ _ _ h => h) (yields (by rfl) (fun w => by kernel_rfl)) hc3 ?_
              simp only [Act.put, List.setIfInBounds_toArray, List.set_cons_zero, List.set_cons_succ]
              refine takeAt 67 123 (.bool true) rfl rfl (by kernel_rfl) (by kernel_rfl) (by kernel_rfl) (fun _ _ _ h => h) (yields (by rfl) (fun w => by kernel_rfl)) hc3 ?_
              simp only [Act.put, List.setIfInBounds_toArray, List.set_cons_zero, List.set_cons_succ]
              refine takeAt 68 124 (.bool true) rfl rfl (by kernel_rfl) (by kernel_rfl) (by kernel_rfl) (fun _ _ _ h => h) (yields (by rfl) (fun w => by kernel_rfl)) hc3 ?_
              simp only [Act.put, List.setIfInBounds_toArray, List.set_cons_zero, List.set_cons_succ]
              refine takeAt 69 125 (.bool true) rfl rfl (by kernel_rfl) (by kernel_rfl) (by kernel_rfl) (fun _ _ _ h => h) (yields (by rfl) (fun w => by kernel_rfl)) hc3 ?_
              simp only [Act.put, List.setIfInBounds_toArray, List.set_cons_zero, List.set_cons_succ]
              as_aux_lemma =>
                refine takeAt 70 126 (.int .i64 3) rfl rfl (by kernel_rfl) (by kernel_rfl) (by kernel_rfl) (fun _ _ _ h => h) (yields (by rfl) (fun w => by kernel_rfl)) hc3 ?_
                simp only [Act.put, List.setIfInBounds_toArray, List.set_cons_zero, List.set_cons_succ]
                refine takeAt 71 127 (.bool true) rfl rfl (by kernel_rfl) (by kernel_rfl) (by kernel_rfl) (fun _ _ _ h => h) (yields (by rfl) (fun w => by kernel_rfl)) hc3 ?_
                simp only [Act.put, List.setIfInBounds_toArray, List.set_cons_zero, List.set_cons_succ]
                refine takeAt 72 128 (.bool true) rfl rfl (by kernel_rfl) (by kernel_rfl) (by kernel_rfl) (fun _ _ _ h => h) (yields (by rfl) (fun w => by kernel_rfl)) hc3 ?_
                simp only [Act.put, List.setIfInBounds_toArray, List.set_cons_zero, List.set_cons_succ]
                refine takeAt 73 129 (.bool true) rfl rfl (by kernel_rfl) (by kernel_rfl) (by kernel_rfl) (fun _ _ _ h => h) (yields (by rfl) (fun w => by kernel_rfl)) hc3 ?_
                simp only [Act.put, List.setIfInBounds_toArray, List.set_cons_zero, List.set_cons_succ]
                refine takeAt 74 130 (.int .i64 3) rfl rfl (by kernel_rfl) (by kernel_rfl) (by kernel_rfl) (fun _ _ _ h => h) (yields (by rfl) (fun w => by kernel_rfl)) hc3 ?_
                simp only [Act.put, List.setIfInBounds_toArray, List.set_cons_zero, List.set_cons_succ]
                refine takeAt 75 131 (.bool true) rfl rfl (by kernel_rfl) (by kernel_rfl) (by kernel_rfl) (fun _ _ _ h => h) (yields (by rfl) (fun w => by kernel_rfl)) hc3 ?_
                simp only [Act.put, List.setIfInBounds_toArray, List.set_cons_zero, List.set_cons_succ]
                refine takeAt 76 132 (.bool true) rfl rfl (by kernel_rfl) (by kernel_rfl) (by kernel_rfl) (fun _ _ _ h => h) (yields (by rfl) (fun w => by kernel_rfl)) hc3 ?_
                simp only [Act.put, List.setIfInBounds_toArray, List.set_cons_zero, List.set_cons_succ]
                refine takeAt 77 133 (.bool true) rfl rfl (by kernel_rfl) (by kernel_rfl) (by kernel_rfl) (fun _ _ _ h => h) (yields (by rfl) (fun w => by kernel_rfl)) hc3 ?_
                simp only [Act.put, List.setIfInBounds_toArray, List.set_cons_zero, List.set_cons_succ]
                refine takeAt 78 134 (.int .i64 3) rfl rfl (by kernel_rfl) (by kernel_rfl) (by kernel_rfl) (fun _ _ _ h => h) (yields (by rfl) (fun w => by kernel_rfl)) hc3 ?_
                simp only [Act.put, List.setIfInBounds_toArray, List.set_cons_zero, List.set_cons_succ]
                refine takeAt 79 135 (.bool true) rfl rfl (by kernel_rfl) (by kernel_rfl) (by kernel_rfl) (fun _ _ _ h => h) (yields (by rfl) (fun w => by kernel_rfl)) hc3 ?_
                simp only [Act.put, List.setIfInBounds_toArray, List.set_cons_zero, List.set_cons_succ]
                as_aux_lemma =>
                  refine takeAt 80 136 (.bool true) rfl rfl (by kernel_rfl) (by kernel_rfl) (by kernel_rfl) (fun _ _ _ h => h) (yields (by rfl) (fun w => by kernel_rfl)) hc3 ?_
                  simp only [Act.put, List.setIfInBounds_toArray, List.set_cons_zero, List.set_cons_succ]
                  refine takeAt 81 137 (.bool true) rfl rfl (by kernel_rfl) (by kernel_rfl) (by kernel_rfl) (fun _ _ _ h => h) (yields (by rfl) (fun w => by kernel_rfl)) hc3 ?_
                  simp only [Act.put, List.setIfInBounds_toArray, List.set_cons_zero, List.set_cons_succ]
                  refine takeAt 82 138 (setV (ofBytes [97, 98, 99])) rfl rfl (by kernel_rfl) (by kernel_rfl) (by kernel_rfl) (fun _ _ _ h => h) (loadB_yields w7.heap.size (ofBytes [97, 98, 99]) rfl rfl (fun _ h => h.box) (by rfl)) hc3 ?_
                  simp only [Act.put, List.setIfInBounds_toArray, List.set_cons_zero, List.set_cons_succ]
                  refine callAt 83 139 rfl rfl (by kernel_rfl) (by rfl) (by kernel_rfl) (of_any ⟨#[97, 98, 99]⟩ _ (by decide)) ?_
                  rintro e w' ⟨rfl, hb'⟩
                  have hc4 := hc3.call hb'
                  refine ⟨_, rfl, hc4, ?_⟩
                  clear hc3 hb'
                  simp only [Act.put, List.setIfInBounds_toArray, List.set_cons_zero, List.set_cons_succ]
                  refine takeAt 84 140 (.bool true) rfl rfl (by kernel_rfl) (by kernel_rfl) (by kernel_rfl) (fun _ _ _ h => h) (yields (by rfl) (fun w => by kernel_rfl)) hc4 ?_
                  simp only [Act.put, List.setIfInBounds_toArray, List.set_cons_zero, List.set_cons_succ]
                  refine takeAt 85 141 (.bool true) rfl rfl (by kernel_rfl) (by kernel_rfl) (by kernel_rfl) (fun _ _ _ h => h) (yields (by rfl) (fun w => by kernel_rfl)) hc4 ?_
                  simp only [Act.put, List.setIfInBounds_toArray, List.set_cons_zero, List.set_cons_succ]
                  refine takeAt 86 142 (.bool true) rfl rfl (by kernel_rfl) (by kernel_rfl) (by kernel_rfl) (fun _ _ _ h => h) (yields (by rfl) (fun w => by kernel_rfl)) hc4 ?_
                  simp only [Act.put, List.setIfInBounds_toArray, List.set_cons_zero, List.set_cons_succ]
                  refine takeAt 87 143 (.int .i64 6) rfl rfl (by kernel_rfl) (by kernel_rfl) (by kernel_rfl) (fun _ _ _ h => h) (yields (by rfl) (fun w => by kernel_rfl)) hc4 ?_
                  simp only [Act.put, List.setIfInBounds_toArray, List.set_cons_zero, List.set_cons_succ]
                  refine takeAt 88 144 (.bool true) rfl rfl (by kernel_rfl) (by kernel_rfl) (by kernel_rfl) (fun _ _ _ h => h) (yields (by rfl) (fun w => by kernel_rfl)) hc4 ?_
                  simp only [Act.put, List.setIfInBounds_toArray, List.set_cons_zero, List.set_cons_succ]
                  refine takeAt 89 145 (.bool true) rfl rfl (by kernel_rfl) (by kernel_rfl) (by kernel_rfl) (fun _ _ _ h => h) (yields (by rfl) (fun w => by kernel_rfl)) hc4 ?_
                  simp only [Act.put, List.setIfInBounds_toArray, List.set_cons_zero, List.set_cons_succ]
                  as_aux_lemma =>
                    refine takeAt 90 146 (.bool true) rfl rfl (by kernel_rfl) (by kernel_rfl) (by kernel_rfl) (fun _ _ _ h => h) (yields (by rfl) (fun w => by kernel_rfl)) hc4 ?_
                    simp only [Act.put, List.setIfInBounds_toArray, List.set_cons_zero, List.set_cons_succ]
                    refine takeAt 91 147 (.int .i64 0) rfl rfl (by kernel_rfl) (by kernel_rfl) (by kernel_rfl) (fun _ _ _ h => h) (yields (by rfl) (fun w => by kernel_rfl)) hc4 ?_
                    simp only [Act.put, List.setIfInBounds_toArray, List.set_cons_zero, List.set_cons_succ]
                    refine takeAt 92 148 (.bool true) rfl rfl (by kernel_rfl) (by kernel_rfl) (by kernel_rfl) (fun _ _ _ h => h) (yields (by rfl) (fun w => by kernel_rfl)) hc4 ?_
                    simp only [Act.put, List.setIfInBounds_toArray, List.set_cons_zero, List.set_cons_succ]
                    refine takeAt 93 149 (.bool true) rfl rfl (by kernel_rfl) (by kernel_rfl) (by kernel_rfl) (fun _ _ _ h => h) (yields (by rfl) (fun w => by kernel_rfl)) hc4 ?_
                    simp only [Act.put, List.setIfInBounds_toArray, List.set_cons_zero, List.set_cons_succ]
                    refine takeAt 94 150 (.bool true) rfl rfl (by kernel_rfl) (by kernel_rfl) (by kernel_rfl) (fun _ _ _ h => h) (yields (by rfl) (fun w => by kernel_rfl)) hc4 ?_
                    simp only [Act.put, List.setIfInBounds_toArray, List.set_cons_zero, List.set_cons_succ]
                    refine takeAt 95 151 (.int .i64 1) rfl rfl (by kernel_rfl) (by kernel_rfl) (by kernel_rfl) (fun _ _ _ h => h) (yields (by rfl) (fun w => by kernel_rfl)) hc4 ?_
                    simp only [Act.put, List.setIfInBounds_toArray, List.set_cons_zero, List.set_cons_succ]
                    refine takeAt 96 152 (.bool true) rfl rfl (by kernel_rfl) (by kernel_rfl) (by kernel_rfl) (fun _ _ _ h => h) (yields (by rfl) (fun w => by kernel_rfl)) hc4 ?_
                    simp only [Act.put, List.setIfInBounds_toArray, List.set_cons_zero, List.set_cons_succ]
                    refine takeAt 97 153 (.bool true) rfl rfl (by kernel_rfl) (by kernel_rfl) (by kernel_rfl) (fun _ _ _ h => h) (yields (by rfl) (fun w => by kernel_rfl)) hc4 ?_
                    simp only [Act.put, List.setIfInBounds_toArray, List.set_cons_zero, List.set_cons_succ]
                    refine takeAt 98 0 (.bool true) rfl rfl (by kernel_rfl) (by kernel_rfl) (by kernel_rfl) (fun _ _ _ h => h) (yields (by rfl) (fun w => by kernel_rfl)) hc4 ?_
                    simp only [Act.put, List.setIfInBounds_toArray, List.set_cons_zero]
                    refine wpAnyH_done (by kernel_rfl) ?_ _
                    go_wp2_with fail
                    go_ret
                    exact ⟨rfl, hc4.below⟩
end Go.Proofs.YtlcecblehffjiaaDoor
