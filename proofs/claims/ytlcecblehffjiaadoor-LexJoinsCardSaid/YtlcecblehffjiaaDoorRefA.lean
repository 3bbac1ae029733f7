/-
  What the statements' own calls on sets of 256 bools do: Or, And, Not.
-/
import Derived.Test.YtlcecblehffjiaaDoorClassH
import Derived.Test.YtlcecblehffjiaaDoorRefSets
namespace Go.Proofs.YtlcecblehffjiaaDoor
open Go.RowKit

@[go_sem] theorem zero256 (w : World) : (zeroValue 68).run Tryd.prog w = .ok (.agg (bitsA 0#256)) w := by kernel_rfl
/-- The loader's own name of the zero cells (where a program is great), as a set. -/
@[go_sem] theorem zeroCells_eq : Tryd.zeroCells68 = bitsA 0#256 := by kernel_rfl

/-- The block g holds the set S, a bool a byte. -/
def BoxA (w : World) (g : Nat) (S : BitVec 256) : Prop := w.heap[g]? = some (.cells (bitsA S) 68 (0, 0))
theorem BoxA.cell {w : World} {g : Nat} {S : BitVec 256} (h : BoxA w g S) (i : Nat) (hi : i < 256) : w.cell? ⟨g, i, none⟩ = some (.bool (mem S i)) := by
  unfold BoxA at h
  rw [cell_of_row w g _ _ _ _ h, bitsA_get _ _ hi]
theorem BoxA.free {w : World} {g : Nat} {S : BitVec 256} (h : BoxA w g S) (j : Nat) : w.frozen? ⟨g, j, none⟩ = false := frozen_of_row w g j _ _ h
theorem BoxA.lt {w : World} {g : Nat} {S : BitVec 256} (h : BoxA w g S) : g < w.heap.size := lt_of_block h
theorem BoxA.below {w w' : World} {g B : Nat} {S : BitVec 256} (h : BoxA w g S) (hb : Below B w w') (hg : g < B) : BoxA w' g S := (hb.block g hg).trans h
theorem BoxA.set {w : World} {g : Nat} {S : BitVec 256} (h : BoxA w g S) (i : Nat) (b : Bool) (hi : i < 256) : BoxA (w.setCell ⟨g, i, none⟩ (.bool b)) g (setB S i b) := by
  unfold BoxA at h ⊢
  rw [heap_setCell_same w g i _ _ _ h, bitsA_set _ _ _ hi]
theorem BoxA.other {w : World} {g : Nat} {S : BitVec 256} (h : BoxA w g S) {a : Addr} (v : Value) (hg : g ≠ a.block) : BoxA (w.setCell a v) g S := (heap_setCell_other w a g v hg).trans h
theorem BoxA.alloc {w : World} {g : Nat} {S : BitVec 256} (h : BoxA w g S) (o : Obj) : BoxA (w.alloc o) g S := (Below.heap_alloc _ _ _ h.lt).trans h
theorem BoxA.new (w : World) (S : BitVec 256) : BoxA (w.alloc (.cells (bitsA S) 68)) w.heap.size S := heap_alloc_new _ _
theorem BoxA.row {w : World} {g k : Nat} {S : BitVec 256} (h : BoxA w g S) (cs : Array Value) (hk : g ≠ k) : BoxA (w.setRow k cs) g S := (setRow_other w k g cs hk).trans h
theorem BoxA.rowSame {w : World} {g : Nat} {S : BitVec 256} (h : BoxA w g S) (T : BitVec 256) : BoxA (w.setRow g (bitsA T)) g T := setRow_heap w g _ _ _ _ h
theorem sizeRef : (Tryd.prog.info? 68).map (·.size) = some 256 := by kernel_rfl
theorem BoxA.results {fn : Func} {p : Tmp} (h : fn.results = #[.cell p 68]) (tmps : Array Value) {w : World} {g : Nat} {S : BitVec 256} (hp : tmps.getD p undef = .pointer (some ⟨g, 0, none⟩)) (hg : BoxA w g S) :
    (results fn tmps).run Tryd.prog w = .ok (.agg (bitsA S)) w :=
  results_cell_row h tmps w g _ _ _ _ hp hg Tryd.underlying68 rfl (by rw [bitsA_size]; exact sizeRef)

section
variable {ops : Array Oper} {rest : List Oper} {o : Oper} {a : Act} {w : World} {Q : Exit → Act → World → Prop}
/-- The whole set is read. -/
theorem loadA (hgd : o.guard = none) (x : Operand) (ho : o.op = .load 68 x) (g : Nat) (S : BitVec 256) (hx : a.eval x = .pointer (some ⟨g, 0, none⟩)) (hg : BoxA w g S)
    (h : wpList Tryd.prog ops Q rest (a.put o.dst (.agg (bitsA S))) w) : wpList Tryd.prog ops Q (o :: rest) a w :=
  wpList_load_row hgd 68 x ho g hx _ _ _ _ hg Tryd.underlying68 rfl (by rw [bitsA_size]; exact sizeRef) h
/-- The whole set is stored. -/
theorem storeA (hgd : o.guard = none) (x y : Operand) (ho : o.op = .store 68 x y) (g : Nat) (S T : BitVec 256) (hx : a.eval x = .pointer (some ⟨g, 0, none⟩)) (hy : a.eval y = .agg (bitsA T)) (hg : BoxA w g S)
    (h : wpList Tryd.prog ops Q rest (a.put o.dst undef) (w.setRow g (bitsA T))) : wpList Tryd.prog ops Q (o :: rest) a w :=
  wpList_store_row hgd 68 x y ho g _ hx hy _ _ hg (by rw [bitsA_size]; exact sizeRef) (by rw [bitsA_size, bitsA_size]) (bitsA_one T) h
end
theorem below_row {B g : Nat} {w0 w : World} (hb : Below B w0 w) (hg : B ≤ g) (cs : Array Value) : Below B w0 (w.setRow g cs) :=
  hb.trans ⟨rfl, rfl, rfl, by simp, fun k hk => setRow_other w g k cs (by omega)⟩

set_option maxHeartbeats 1000000 in
set_option maxRecDepth 100000 in
theorem rnot_any (S : BitVec 256) (w : World) :
    Calls Tryd.prog 37 #[.agg (bitsA S)] w fun e w' => e = .returned (.agg (bitsA (ofPred fun n => !mem S n))) ∧ Below w.heap.size w w' := by
  generalize hp : (fun n => !mem S n) = p
  have HP := Lib.hid hp
  clear hp
  go_enter Tryd.func37, Tryd.ntmps37
  go_wp2
  go_loopw [3] (fun v wr => ∃ k : Nat, v = .int .i64 k ∧ k ≤ 256 ∧ BoxA wr w.heap.size (mixTo p S k) ∧ BoxA wr (w.heap.size + 1) 0#256 ∧ Below w.heap.size w wr) (fun v _ => 256 - (intOf v).toNat)
  case atStart => exact ⟨0, rfl, by omega, by rw [mixTo_zero]; exact (BoxA.new w S).alloc _, heap_alloc2_new _ _ _, by go_grown⟩
  case round =>
    obtain ⟨k, rfl, hk, hs, hz, hbel⟩ := hrel
    have HS := Lib.hid hs
    have HZ := Lib.hid hz
    have HB := Lib.hid hbel
    by_cases hlt : k < 256
    · have hc := hs.cell k hlt
      rw [mixTo_at _ _ _ hlt] at hc
      have hf := hs.free k
      have b1 : decide ((k : Int) < 256) = true := by simp; omega
      have k0 : (0 : Int) ≤ k := by omega
      clear hs hz hbel
      go_wp2
      go_roundw
      case rel => exact ⟨k + 1, by go_num, by omega, by rw [← mixTo_step, show p k = !mem S k from (congrFun HP.out k).symm]; exact HS.out.set k _ hlt, HZ.out.other _ (by simp), HB.out.setCell (by simp) _⟩
      case measure => simp [intOf]; omega
    · obtain rfl : k = 256 := by omega
      clear hs hz hbel
      go_wp2_with (first | (refine loadA rfl _ rfl w.heap.size _ rfl HS.out ?_) | (refine storeA rfl _ _ rfl (w.heap.size + 1) _ _ rfl rfl HZ.out ?_))
      refine bodyPost_ret (BoxA.results rfl _ (g := w.heap.size + 1) rfl (HZ.out.rowSame _)) rfl ⟨?_, below_row HB.out (by omega) _⟩
      rw [mixTo_all]

set_option maxHeartbeats 1000000 in
set_option maxRecDepth 100000 in
theorem ror_any (S T : BitVec 256) (w : World) :
    Calls Tryd.prog 36 #[.agg (bitsA S), .agg (bitsA T)] w fun e w' => e = .returned (.agg (bitsA (ofPred fun n => mem S n || mem T n))) ∧ Below w.heap.size w w' := by
  generalize hp : (fun n => mem S n || mem T n) = p
  have HP := Lib.hid hp
  clear hp
  go_enter Tryd.func36, Tryd.ntmps36
  go_wp2
  go_loopw [5] (fun v wr => ∃ k : Nat, v = .int .i64 k ∧ k ≤ 256 ∧ BoxA wr w.heap.size (mixTo p S k) ∧ BoxA wr (w.heap.size + 1) T ∧ BoxA wr (w.heap.size + 2) 0#256 ∧ Below w.heap.size w wr) (fun v _ => 256 - (intOf v).toNat)
  case atStart => exact ⟨0, rfl, by omega, by rw [mixTo_zero]; exact ((BoxA.new w S).alloc _).alloc _, BoxA.alloc (heap_alloc2_new _ _ _) _, by have h := BoxA.new ((w.alloc (.cells (bitsA S) 68)).alloc (.cells (bitsA T) 68)) 0#256; simpa using h, by go_grown⟩
  case round =>
    obtain ⟨k, rfl, hk, hs, ht, hz, hbel⟩ := hrel
    have HS := Lib.hid hs
    have HT := Lib.hid ht
    have HZ := Lib.hid hz
    have HB := Lib.hid hbel
    by_cases hlt : k < 256
    · have hc := hs.cell k hlt
      rw [mixTo_at _ _ _ hlt] at hc
      have hct := ht.cell k hlt
      have hf := hs.free k
      have b1 : decide ((k : Int) < 256) = true := by simp; omega
      have k0 : (0 : Int) ≤ k := by omega
      clear hs ht hz hbel
      have HK := Lib.hid (show p k = (mem S k || mem T k) from (congrFun HP.out k).symm)
      cases hm : mem S k
      all_goals
        rw [hm] at hc
        have HM := Lib.hid hm
        clear hm
        go_wp2
        go_roundw
        case rel => exact ⟨k + 1, by go_num, by omega, by rw [← mixTo_step, HK.out, HM.out]; exact HS.out.set k _ hlt, HT.out.other _ (by simp), HZ.out.other _ (by simp), HB.out.setCell (by simp) _⟩
        case measure => simp [intOf]; omega
    · obtain rfl : k = 256 := by omega
      clear hs ht hz hbel
      go_wp2_with (first | (refine loadA rfl _ rfl w.heap.size _ rfl HS.out ?_) | (refine storeA rfl _ _ rfl (w.heap.size + 2) _ _ rfl rfl HZ.out ?_))
      refine bodyPost_ret (BoxA.results rfl _ (g := w.heap.size + 2) rfl (HZ.out.rowSame _)) rfl ⟨?_, below_row HB.out (by omega) _⟩
      rw [mixTo_all]

end Go.Proofs.YtlcecblehffjiaaDoor
