/-
  RefA, RefB, RefC, RefD, RefE
-/
import Derived.Test.YtkpijnodhlonfaaGreatDoorClassM
import Derived.Test.YtkpijnodhlonfaaGreatDoorSetsM
namespace Go.Proofs.YtkpijnodhlonfaaGreatDoor
open Go.RowKit

@[go_sem] theorem zero256 (w : World) : (zeroValue 37).run Tryz.prog w = .ok (.agg (bitsA 0#256)) w := by kernel_rfl
/-- The loader's own name of the zero cells (where a program is great), as a set. -/
@[go_sem] theorem zeroCells_eq : Tryz.zeroCells37 = bitsA 0#256 := by kernel_rfl

/-- The block g holds the set S, a bool a byte. -/
def BoxA (w : World) (g : Nat) (S : BitVec 256) : Prop := w.heap[g]? = some (.cells (bitsA S) 37 (0, 0))
theorem BoxA.cell {w : World} {g : Nat} {S : BitVec 256} (h : BoxA w g S) (i : Nat) (hi : i < 256) : w.cell? ⟨g, i, none⟩ = some (.bool (mem S i)) := by
  unfold BoxA at h
  rw [cell_of_row w g _ _ _ _ h, bitsA_get _ _ hi]
theorem BoxA.free {w : World} {g : Nat} {S : BitVec 256} (h : BoxA w g S) (j : Nat) : w.frozen? ⟨g, j, none⟩ = false := frozen_of_row w g j _ _ h
theorem BoxA.lt {w : World} {g : Nat} {S : BitVec 256} (h : BoxA w g S) : g < w.heap.size := lt_of_block h
theorem BoxA.below {w w' : World} {g B : Nat} {S : BitVec 256} (h : BoxA w g S) (hb : Below B w w') (hg : g < B) : BoxA w' g S := (hb.block g hg).trans h
theorem BoxA.set {w : World} {g : Nat} {S : BitVec 256} (h : BoxA w g S) (i : Nat) (b : Bool) (hi : i < 256) : BoxA (w.setCell ⟨g, i, none⟩ (.bool b)) g (setB S i b) := by
  unfold BoxA at h ⊢
  rw [heap_setCell_same w g i _ _ _ h, bitsA_set _ _ _ hi]
theorem BoxA.other {w : World} {g : Nat} {S : BitVec 256} (h : BoxA w g S) {a : Addr} (v : Value) (hg : g ≠ a.block) : BoxA (w.setCell a v) g S := (heap_setCell_other w a g v hg).trans h
theorem BoxA.alloc {w : World} {g : Nat} {S : BitVec 256} (h : BoxA w g S) (o : Obj) : BoxA (w.alloc o) g S := (Below.heap_alloc _ _ _ h.lt).trans h
theorem BoxA.new (w : World) (S : BitVec 256) : BoxA (w.alloc (.cells (bitsA S) 37)) w.heap.size S := heap_alloc_new _ _
theorem BoxA.row {w : World} {g k : Nat} {S : BitVec 256} (h : BoxA w g S) (cs : Array Value) (hk : g ≠ k) : BoxA (w.setRow k cs) g S := (setRow_other w k g cs hk).trans h
theorem BoxA.rowSame {w : World} {g : Nat} {S : BitVec 256} (h : BoxA w g S) (T : BitVec 256) : BoxA (w.setRow g (bitsA T)) g T := setRow_heap w g _ _ _ _ h
theorem sizeRef : (Tryz.prog.info? 37).map (·.size) = some 256 := by kernel_rfl
theorem BoxA.results {fn : Func} {p : Tmp} (h : fn.results = #[.cell p 37]) (tmps : Array Value) {w : World} {g : Nat} {S : BitVec 256} (hp : tmps.getD p undef = .pointer (some ⟨g, 0, none⟩)) (hg : BoxA w g S) :
    (results fn tmps).run Tryz.prog w = .ok (.agg (bitsA S)) w :=
  results_cell_row h tmps w g _ _ _ _ hp hg Tryz.underlying37 rfl (by rw [bitsA_size]; exact sizeRef)

section
variable {ops : Array Oper} {rest : List Oper} {o : Oper} {a : Act} {w : World} {Q : Exit → Act → World → Prop}
/-- The whole set is read. -/
theorem loadA (hgd : o.guard = none) (x : Operand) (ho : o.op = .load 37 x) (g : Nat) (S : BitVec 256) (hx : a.eval x = .pointer (some ⟨g, 0, none⟩)) (hg : BoxA w g S)
    (h : wpList Tryz.prog ops Q rest (a.put o.dst (.agg (bitsA S))) w) : wpList Tryz.prog ops Q (o :: rest) a w :=
  wpList_load_row hgd 37 x ho g hx _ _ _ _ hg Tryz.underlying37 rfl (by rw [bitsA_size]; exact sizeRef) h
/-- The whole set is stored. -/
theorem storeA (hgd : o.guard = none) (x y : Operand) (ho : o.op = .store 37 x y) (g : Nat) (S T : BitVec 256) (hx : a.eval x = .pointer (some ⟨g, 0, none⟩)) (hy : a.eval y = .agg (bitsA T)) (hg : BoxA w g S)
    (h : wpList Tryz.prog ops Q rest (a.put o.dst undef) (w.setRow g (bitsA T))) : wpList Tryz.prog ops Q (o :: rest) a w :=
  wpList_store_row hgd 37 x y ho g _ hx hy _ _ hg (by rw [bitsA_size]; exact sizeRef) (by rw [bitsA_size, bitsA_size]) (bitsA_one T) h
end
theorem below_row {B g : Nat} {w0 w : World} (hb : Below B w0 w) (hg : B ≤ g) (cs : Array Value) : Below B w0 (w.setRow g cs) :=
  hb.trans ⟨rfl, rfl, rfl, by simp, fun k hk => setRow_other w g k cs (by omega)⟩

set_option maxHeartbeats 1000000 in
set_option maxRecDepth 100000 in
theorem ror_any (S T : BitVec 256) (w : World) :
    Calls Tryz.prog 72 #[.agg (bitsA S), .agg (bitsA T)] w fun e w' => e = .returned (.agg (bitsA (ofPred fun n => mem S n || mem T n))) ∧ Below w.heap.size w w' := by
  generalize hp : (fun n => mem S n || mem T n) = p
  have HP := Lib.hid hp
  clear hp
  go_enter Tryz.func72, Tryz.ntmps72
  go_wp2
  go_loopw [5] (fun v wr => ∃ k : Nat, v = .int .i64 k ∧ k ≤ 256 ∧ BoxA wr w.heap.size (mixTo p S k) ∧ BoxA wr (w.heap.size + 1) T ∧ BoxA wr (w.heap.size + 2) 0#256 ∧ Below w.heap.size w wr) (fun v _ => 256 - (intOf v).toNat)
  case atStart => exact ⟨0, rfl, by omega, by rw [mixTo_zero]; exact ((BoxA.new w S).alloc _).alloc _, BoxA.alloc (heap_alloc2_new _ _ _) _, by have h := BoxA.new ((w.alloc (.cells (bitsA S) 37)).alloc (.cells (bitsA T) 37)) 0#256; simpa using h, by go_grown⟩
  case round =>
    obtain ⟨k, rfl, hk, hs, ht, hz, hbel⟩ := hrel
    have HS := Lib.hid hs
    have HT := Lib.hid ht
    have HZ := Lib.hid hz
    have HB := Lib.hid hbel
    by_cases hlt : k < 256
    · have hc := hs.cell k hlt
      rw [mixTo_at _ _ _ hlt] at hc
      have hct := ht.cell k hlt
      have hf := hs.free k
      have b1 : decide ((k : Int) < 256) = true := by simp; omega
      have k0 : (0 : Int) ≤ k := by omega
      clear hs ht hz hbel
      have HK := Lib.hid (show p k = (mem S k || mem T k) from (congrFun HP.out k).symm)
      cases hm : mem S k
      all_goals
        rw [hm] at hc
        have HM := Lib.hid hm
        clear hm
        go_wp2
        go_roundw
        case rel => exact ⟨k + 1, by go_num, by omega, by rw [← mixTo_step, HK.out, HM.out]; exact HS.out.set k _ hlt, HT.out.other _ (by simp), HZ.out.other _ (by simp), HB.out.setCell (by simp) _⟩
        case measure => simp [intOf]; omega
    · obtain rfl : k = 256 := by omega
      clear hs ht hz hbel
      go_wp2_with (first | (refine loadA rfl _ rfl w.heap.size _ rfl HS.out ?_) | (refine storeA rfl _ _ rfl (w.heap.size + 2) _ _ rfl rfl HZ.out ?_))
      refine bodyPost_ret (BoxA.results rfl _ (g := w.heap.size + 2) rfl (HZ.out.rowSame _)) rfl ⟨?_, below_row HB.out (by omega) _⟩
      rw [mixTo_all]

end Go.Proofs.YtkpijnodhlonfaaGreatDoor

namespace Go.Proofs.YtkpijnodhlonfaaGreatDoor
open Go.RowKit

@[go_sem high] theorem build256 (w : World) : (Instr.build 37 #[]).run Tryz.prog w = .ok (.agg (bitsA 0#256)) w := by kernel_rfl

set_option maxHeartbeats 1000000 in
set_option maxRecDepth 100000 in
theorem rrange_any (x y : Nat) (w : World) (hx : x < 256) (hy : y < 256) :
    Calls Tryz.prog 52 #[.int .u8 (x : Int), .int .u8 (y : Int)] w fun e w' => e = .returned (.agg (bitsA (span x (y + 1)))) ∧ Below w.heap.size w w' := by
  have hq : span x (y + 1) = ofPred (fun n => decide (x ≤ n) && decide (n < y + 1)) := rfl
  rw [hq]
  generalize hp : (fun n => decide (x ≤ n) && decide (n < y + 1)) = p
  have HP := Lib.hid hp
  clear hp hq
  go_enter Tryz.func52, Tryz.ntmps52
  go_wp2_with (refine storeA rfl _ _ rfl (w.heap.size + 1) _ _ rfl rfl (heap_alloc2_new _ _ _) ?_)
  have h1 : BoxA (((w.alloc (.cells (bitsA 0#256) 37)).alloc (.cells (bitsA 0#256) 37)).setRow (w.heap.size + 1) (bitsA 0#256)) (w.heap.size + 1) 0#256 := BoxA.rowSame (S := 0#256) (heap_alloc2_new _ _ _) _
  have h2 : BoxA (((w.alloc (.cells (bitsA 0#256) 37)).alloc (.cells (bitsA 0#256) 37)).setRow (w.heap.size + 1) (bitsA 0#256)) w.heap.size 0#256 := BoxA.row (heap_alloc2_old _ _ _) _ (by omega)
  have h3 : Below w.heap.size w (((w.alloc (.cells (bitsA 0#256) 37)).alloc (.cells (bitsA 0#256) 37)).setRow (w.heap.size + 1) (bitsA 0#256)) := below_row (by go_grown) (by omega) _
  have H1 := Lib.hid h1
  have H2 := Lib.hid h2
  have H3 := Lib.hid h3
  clear h1 h2 h3
  go_loopw [6] (fun v wr => ∃ k : Nat, v = .int .i64 k ∧ k ≤ 256 ∧ BoxA wr (w.heap.size + 1) (mixTo p 0#256 k) ∧ BoxA wr w.heap.size 0#256 ∧ Below w.heap.size w wr) (fun v _ => 256 - (intOf v).toNat)
  case atStart => exact ⟨0, rfl, by omega, by rw [mixTo_zero]; exact H1.out, H2.out, H3.out⟩
  case round =>
    obtain ⟨k, rfl, hk, hs, hz, hbel⟩ := hrel
    have HS := Lib.hid hs
    have HZ := Lib.hid hz
    have HB := Lib.hid hbel
    by_cases hlt : k < 256
    · have hc := hs.cell k hlt
      have hf := hs.free k
      have b1 : decide ((k : Int) < 256) = true := by simp; omega
      have k0 : (0 : Int) ≤ k := by omega
      clear hs hz hbel
      have HK := Lib.hid (show p k = (decide (x ≤ k) && decide (k < y + 1)) from (congrFun HP.out k).symm)
      by_cases h1 : x ≤ k
      · by_cases h2 : k ≤ y
        · have d1 : decide ((x : Int) ≤ (k : Int)) = true := by simp; omega
          have d2 : decide ((k : Int) ≤ (y : Int)) = true := by simp; omega
          go_wp2
          go_roundw
          case rel => exact ⟨k + 1, by go_num, by omega, by rw [← mixTo_step, HK.out, show (decide (x ≤ k) && decide (k < y + 1)) = true by simp; omega]; exact HS.out.set k _ hlt, HZ.out.other _ (by simp), HB.out.setCell (by simp) _⟩
          case measure => simp [intOf]; omega
        · have d1 : decide ((x : Int) ≤ (k : Int)) = true := by simp; omega
          have d2 : decide ((k : Int) ≤ (y : Int)) = false := by simp; omega
          go_wp2
          go_roundw
          case rel => exact ⟨k + 1, by go_num, by omega, by rw [← mixTo_step, HK.out, show (decide (x ≤ k) && decide (k < y + 1)) = false by simp; omega]; exact HS.out.set k _ hlt, HZ.out.other _ (by simp), HB.out.setCell (by simp) _⟩
          case measure => simp [intOf]; omega
      · have d1 : decide ((x : Int) ≤ (k : Int)) = false := by simp; omega
        go_wp2
        go_roundw
        case rel => exact ⟨k + 1, by go_num, by omega, by rw [← mixTo_step, HK.out, show (decide (x ≤ k) && decide (k < y + 1)) = false by simp [h1]]; exact HS.out.set k _ hlt, HZ.out.other _ (by simp), HB.out.setCell (by simp) _⟩
        case measure => simp [intOf]; omega
    · obtain rfl : k = 256 := by omega
      clear hs hz hbel
      go_wp2_with (first | (refine loadA rfl _ rfl (w.heap.size + 1) _ rfl HS.out ?_) | (refine storeA rfl _ _ rfl w.heap.size _ _ rfl rfl HZ.out ?_))
      refine bodyPost_ret (BoxA.results rfl _ (g := w.heap.size) rfl (HZ.out.rowSame _)) rfl ⟨?_, below_row HB.out (by omega) _⟩
      rw [mixTo_all]

theorem setB_true (S : BitVec 256) (n : Nat) (hn : n < 256) : setB S n true = addB S n := by
  apply ext_bit
  intro k hk
  rw [setB_bit _ _ _ _ hk, addB_bit _ _ _ hn]
  by_cases h : k = n
  · subst h; simp
  · rw [if_neg h]; have : ¬ n = k := fun e => h e.symm
    simp [this]

set_option maxHeartbeats 1000000 in
set_option maxRecDepth 100000 in
theorem rlen_any (S : BitVec 256) (w : World) :
    Calls Tryz.prog 51 #[.agg (bitsA S)] w fun e w' => e = .returned (.int .i64 (lenS S)) ∧ Below w.heap.size w w' := by
  go_enter Tryz.func51, Tryz.ntmps51
  go_wp2
  have HN := Lib.hid (BoxA.new w S)
  go_loop [3, 4] (fun n v => ∃ k : Nat, v = .int .i64 k ∧ k ≤ 256 ∧ n = .int .i64 (cntTo S.getLsbD k : Int)) (fun _ v => 256 - (intOf v).toNat)
  case atStart => exact ⟨0, rfl, by omega, rfl⟩
  case round =>
    obtain ⟨k, rfl, hk, rfl⟩ := hrel
    by_cases hlt : k < 256
    · have hc := HN.out.cell k hlt
      have k0 : (0 : Int) ≤ k := by omega
      have n1 : (cntTo S.getLsbD k : Int) ≤ 256 := by have := cntTo_le S.getLsbD k; omega
      have b1 : decide ((k : Int) < 256) = true := by simp; omega
      cases hm : mem S k
      all_goals
        rw [hm] at hc
        have HM := Lib.hid hm
        clear hm
        go_wp2
        go_round
        case rel => exact ⟨k + 1, by go_num, by omega, by rw [cntTo, show S.getLsbD k = _ from HM.out]; simp⟩
        case measure => simp [intOf]; omega
    · obtain rfl : k = 256 := by omega
      go_wp2
      go_ret
      exact ⟨rfl, by go_grown⟩

/-- What Min answers. -/
def minV (S : BitVec 256) : Value := if S = 0#256 then .tuple #[.int .u8 0, .bool false] else .tuple #[.int .u8 ((minS S : Nat) : Int), .bool true]

set_option maxHeartbeats 1000000 in
set_option maxRecDepth 100000 in
theorem rmin_any (S : BitVec 256) (w : World) :
    Calls Tryz.prog 50 #[.agg (bitsA S)] w fun e w' => e = .returned (minV S) ∧ Below w.heap.size w w' := by
  go_enter Tryz.func50, Tryz.ntmps50
  go_wp2
  have HN := Lib.hid (BoxA.new w S)
  go_loop [4] (fun v => ∃ k : Nat, v = .int .i64 k ∧ k ≤ 256 ∧ ∀ j, j < k → S.getLsbD j = false) (fun v => 256 - (intOf v).toNat)
  case atStart => exact ⟨0, rfl, by omega, fun j hj => by omega⟩
  case round =>
    obtain ⟨k, rfl, hk, hall⟩ := hrel
    have HA := Lib.hid hall
    clear hall
    by_cases hlt : k < 256
    · have hc := HN.out.cell k hlt
      have k0 : (0 : Int) ≤ k := by omega
      have b1 : decide ((k : Int) < 256) = true := by simp; omega
      cases hm : mem S k
      · rw [hm] at hc
        have HM := Lib.hid hm
        clear hm
        go_wp2
        go_round
        case rel => exact ⟨k + 1, by go_num, by omega, fun j hj => by by_cases e : j = k; rw [e]; exact HM.out; exact HA.out j (by omega)⟩
        case measure => simp [intOf]; omega
      · rw [hm] at hc
        have HM := Lib.hid hm
        clear hm
        go_wp2
        go_ret2
        have hne : S ≠ 0#256 := by
          rintro rfl
          have := HM.out
          simp [mem] at this
        refine ⟨?_, by go_grown⟩
        rw [minV, if_neg hne, minS_eq S k hlt HM.out HA.out]
        rfl
    · obtain rfl : k = 256 := by omega
      have hz : S = 0#256 := by
        apply ext_bit
        intro n hn
        rw [HA.out n hn]; simp
      have HZ := Lib.hid hz
      clear hz
      go_wp2
      go_ret2
      refine ⟨?_, by go_grown⟩
      rw [minV, if_pos HZ.out]
      rfl
end Go.Proofs.YtkpijnodhlonfaaGreatDoor

namespace Go.Proofs.YtkpijnodhlonfaaGreatDoor
open Go.RowKit

theorem foldTo_setB (S : BitVec 256) (i : Nat) (hi : i < 26) (b : Bool) (hb : (mem S (65 + i) || mem S (97 + i)) = b) : setB (setB (foldTo S i) (65 + i) b) (97 + i) b = foldTo S (i + 1) := by
  subst hb
  apply ext_bit
  intro n hn
  rw [setB_bit _ _ _ _ hn, setB_bit _ _ _ _ hn, foldTo_bit S i (by omega), foldTo_bit S (i + 1) (by omega)]
  have hs1 : swap (97 + i) = 65 + i := by unfold swap; rw [if_pos (by omega)]; omega
  have hs2 : swap (65 + i) = 97 + i := by unfold swap; rw [if_neg (by omega), if_pos (by omega)]; omega
  by_cases e1 : n = 97 + i
  · subst e1
    have d : decide (97 + i < 97 + (i + 1)) = true := by simp
    rw [if_pos rfl, hs1, d]
    simp [mem, Bool.or_comm]
  · by_cases e2 : n = 65 + i
    · subst e2
      have d : decide (65 + i < 65 + (i + 1)) = true := by simp
      rw [if_neg e1, if_pos rfl, hs2, d]
      simp [mem]
    · rw [if_neg e1, if_neg e2]
      have d1 : decide (n < 97 + (i + 1)) = decide (n < 97 + i) := decide_eq_decide.2 (by omega)
      have d2 : decide (n < 65 + (i + 1)) = decide (n < 65 + i) := decide_eq_decide.2 (by omega)
      rw [d1, d2]

end Go.Proofs.YtkpijnodhlonfaaGreatDoor

namespace Go.Proofs.YtkpijnodhlonfaaGreatDoor
open Go.RowKit

/-- Four words in a block of the array's own type. -/
def BoxW (w : World) (g : Nat) (a b c d : Nat) : Prop := w.heap[g]? = some (.cells #[.int .u64 (a : Int), .int .u64 (b : Int), .int .u64 (c : Int), .int .u64 (d : Int)] 27 (0, 0))
theorem BoxW.cells {w : World} {g a b c d : Nat} (h : BoxW w g a b c d) : w.cell? ⟨g, 0, none⟩ = some (.int .u64 (a : Int)) ∧ w.cell? ⟨g, 1, none⟩ = some (.int .u64 (b : Int)) ∧ w.cell? ⟨g, 2, none⟩ = some (.int .u64 (c : Int)) ∧ w.cell? ⟨g, 3, none⟩ = some (.int .u64 (d : Int)) := by
  unfold BoxW at h
  refine ⟨?_, ?_, ?_, ?_⟩ <;> rw [cell_of_row w g _ _ _ _ h] <;> rfl
theorem BoxW.lt {w : World} {g a b c d : Nat} (h : BoxW w g a b c d) : g < w.heap.size := lt_of_block h
theorem BoxW.free {w : World} {g a b c d : Nat} (h : BoxW w g a b c d) (j : Nat) : w.frozen? ⟨g, j, none⟩ = false := frozen_of_row w g j _ _ h
theorem BoxW.other {w : World} {g a b c d : Nat} (h : BoxW w g a b c d) {x : Addr} (v : Value) (hg : g ≠ x.block) : BoxW (w.setCell x v) g a b c d := (heap_setCell_other w x g v hg).trans h
theorem BoxW.alloc {w : World} {g a b c d : Nat} (h : BoxW w g a b c d) (o : Obj) : BoxW (w.alloc o) g a b c d := (Below.heap_alloc _ _ _ h.lt).trans h
theorem BoxW.row {w : World} {g k a b c d : Nat} (h : BoxW w g a b c d) (cs : Array Value) (hk : g ≠ k) : BoxW (w.setRow k cs) g a b c d := (setRow_other w k g cs hk).trans h

/-- A word, shifted down. -/
def shr (S : BitVec 256) (q k : Nat) : Nat := W S q / 2 ^ k
theorem shr_zero (S : BitVec 256) (q : Nat) : shr S q 0 = W S q := by simp [shr]
theorem shr_half (S : BitVec 256) (q k : Nat) : shr S q k / 2 = shr S q (k + 1) := by unfold shr; rw [Nat.div_div_eq_div_mul, ← Nat.pow_succ]
theorem shr_wrap (S : BitVec 256) (q k : Nat) : IntKind.u64.wrap ((shr S q k : Int) / 2) = (shr S q (k + 1) : Int) := by
  rw [← shr_half, IntKind.wrap_u64]
  have h : shr S q k ≤ W S q := Nat.div_le_self _ _
  have := W_lt S q
  omega
theorem odd_word (S : BitVec 256) (i q : Nat) (hq : i / 64 = q) : (((shr S q (i % 64) : Nat) : Int) % 2 == 1) = mem S i := by
  have h := bit_W S i
  rw [hq, Nat.testBit_eq_decide_div_mod_eq] at h
  unfold mem shr
  rw [← h, Bool.eq_iff_iff]
  simp only [beq_iff_eq, decide_eq_true_eq]
  omega

set_option maxHeartbeats 2000000 in
set_option maxRecDepth 100000 in
theorem rof_any (S : BitVec 256) (w : World) :
    Calls Tryz.prog 29 #[setV S] w fun e w' => e = .returned (.agg (bitsA S)) ∧ Below w.heap.size w w' := by
  go_enter Tryz.func29, Tryz.ntmps29
  have a2 : BoxA (((w.alloc (.cells #[.int .u64 (W S 0 : Int), .int .u64 (W S 1 : Int), .int .u64 (W S 2 : Int), .int .u64 (W S 3 : Int)] 27)).alloc (.cells (bitsA 0#256) 37)).alloc (.cells (bitsA 0#256) 37)) (w.heap.size + 2) 0#256 := by
    have h := BoxA.new ((w.alloc (.cells #[.int .u64 (W S 0 : Int), .int .u64 (W S 1 : Int), .int .u64 (W S 2 : Int), .int .u64 (W S 3 : Int)] 27)).alloc (.cells (bitsA 0#256) 37)) 0#256
    simpa using h
  have A2 := Lib.hid a2
  clear a2
  go_wp2_with (refine storeA rfl _ _ rfl (w.heap.size + 2) _ _ rfl rfl A2.out ?_)
  have h0 : BoxW (w.alloc (.cells #[.int .u64 (W S 0 : Int), .int .u64 (W S 1 : Int), .int .u64 (W S 2 : Int), .int .u64 (W S 3 : Int)] 27)) w.heap.size (W S 0) (W S 1) (W S 2) (W S 3) := heap_alloc_new _ _
  have H1 := Lib.hid (A2.out.rowSame 0#256)
  have H2 := Lib.hid (BoxW.row (k := w.heap.size + 2) ((h0.alloc (.cells (bitsA 0#256) 37)).alloc (.cells (bitsA 0#256) 37)) (bitsA 0#256) (by omega))
  have H3 := Lib.hid (BoxA.row (k := w.heap.size + 2) (BoxA.alloc (S := 0#256) (heap_alloc2_new w (.cells #[.int .u64 (W S 0 : Int), .int .u64 (W S 1 : Int), .int .u64 (W S 2 : Int), .int .u64 (W S 3 : Int)] 27) (.cells (bitsA 0#256) 37)) (.cells (bitsA 0#256) 37)) (bitsA 0#256) (by omega))
  have H4 : Hid (Below w.heap.size w ((((w.alloc (.cells #[.int .u64 (W S 0 : Int), .int .u64 (W S 1 : Int), .int .u64 (W S 2 : Int), .int .u64 (W S 3 : Int)] 27)).alloc (.cells (bitsA 0#256) 37)).alloc (.cells (bitsA 0#256) 37)).setRow (w.heap.size + 2) (bitsA 0#256))) := below_row (by go_grown) (by omega) _
  clear A2 h0
  go_loopw [4] (fun v wr => ∃ i : Nat, v = .int .i64 i ∧ i ≤ 256 ∧ BoxW wr w.heap.size (W S 0) (W S 1) (W S 2) (W S 3) ∧ BoxA wr (w.heap.size + 1) 0#256 ∧ BoxA wr (w.heap.size + 2) (mixTo (mem S) 0#256 i) ∧ Below w.heap.size w wr) (fun v _ => 256 - (intOf v).toNat)
  case atStart => exact ⟨0, rfl, by omega, H2.out, H3.out, by rw [mixTo_zero]; exact H1.out, H4.out⟩
  case round =>
    obtain ⟨i, rfl, hk, hs, hz, hf, hbel⟩ := hrel
    have HS := Lib.hid hs
    have HZ := Lib.hid hz
    have HF := Lib.hid hf
    have HB := Lib.hid hbel
    by_cases hlt : i < 256
    · have i0 : (0 : Int) ≤ i := by omega
      have b1 : decide ((i : Int) < 256) = true := by simp; omega
      have cf := hf.cell i hlt
      have ff := hf.free i
      have hcq : ∃ q : Nat, i / 64 = q ∧ q < 4 ∧ (i : Int) / 64 = q ∧ wr.cell? ⟨w.heap.size, q, none⟩ = some (.int .u64 (W S q : Int)) := by
        obtain ⟨c0, c1, c2, c3⟩ := hs.cells
        refine ⟨i / 64, rfl, by omega, by omega, ?_⟩
        rcases (show i / 64 = 0 ∨ i / 64 = 1 ∨ i / 64 = 2 ∨ i / 64 = 3 by omega) with h | h | h | h <;> rw [h] <;> assumption
      obtain ⟨q, hq, hq4, hqi, hcell⟩ := hcq
      have HQ := Lib.hid hq
      clear hs hz hf hbel hq
      have HW := Lib.hid (shr_zero S q)
      go_wp2_with fail
      obtain ⟨wo, rfl⟩ : ∃ wo : World, wo = wr := ⟨_, rfl⟩
      go_loop [5, 6] (fun n v => ∃ k : Nat, v = .int .i64 k ∧ k ≤ i % 64 ∧ n = .int .u64 (shr S q k : Int)) (fun _ v => 64 - (intOf v).toNat)
      case atStart => exact ⟨0, rfl, Nat.zero_le _, by rw [HW.out]⟩
      case round =>
        obtain ⟨k, rfl, hk2, rfl⟩ := hrel
        have k0 : (0 : Int) ≤ k := by omega
        have x0 : (0 : Int) ≤ (shr S q k : Int) := by omega
        by_cases hin : k < i % 64
        · have d1 : (k : Int) < (i : Int) % 64 := by omega
          have HH := Lib.hid (shr_wrap S q k)
          go_wp2
          go_round
          case rel => exact ⟨k + 1, by go_num, by omega, by rw [HH.out]⟩
          case measure => simp [intOf]; omega
        · have d1 : ¬ (k : Int) < (i : Int) % 64 := by omega
          obtain rfl : k = i % 64 := by omega
          have HO := Lib.hid (odd_word S i q HQ.out)
          go_wp2
          go_roundw
          case rel => exact ⟨i + 1, by go_num, by omega, HS.out.other _ (by simp <;> omega), HZ.out.other _ (by simp <;> omega), by rw [← mixTo_step, ← HO.out]; exact HF.out.set i _ hlt, HB.out.setCell (by simp <;> omega) _⟩
          case measure => simp [intOf]; omega
    · obtain rfl : i = 256 := by omega
      clear hs hz hf hbel
      go_wp2_with (first | (refine loadA rfl _ rfl (w.heap.size + 2) _ rfl HF.out ?_) | (refine storeA rfl _ _ rfl (w.heap.size + 1) _ _ rfl rfl HZ.out ?_))
      refine bodyPost_ret (BoxA.results rfl _ (g := w.heap.size + 1) rfl (HZ.out.rowSame _)) rfl ⟨?_, below_row HB.out (by omega) _⟩
      rw [mixTo_all]
      have e : ofPred (mem S) = S := by
        apply ext_bit
        intro n hn
        rw [ofPred_bit]; simp [hn, mem]
      rw [e]
end Go.Proofs.YtkpijnodhlonfaaGreatDoor

namespace Go.Proofs.YtkpijnodhlonfaaGreatDoor
open Go.RowKit

/-- Word number j, when the bytes from m on have been gone through. -/
def wAt (S : BitVec 256) (j m : Nat) : Nat := W S j / 2 ^ (m - 64 * j)
theorem wAt_zero (S : BitVec 256) (j : Nat) : wAt S j 0 = W S j := by simp [wAt]
theorem wAt_end (S : BitVec 256) (j m : Nat) (h : 64 * (j + 1) ≤ m) : wAt S j m = 0 := by
  unfold wAt
  apply Nat.div_eq_of_lt
  have h1 := W_lt S j
  have h2 : 2 ^ 64 ≤ 2 ^ (m - 64 * j) := Nat.pow_le_pow_right (by decide) (by omega)
  have h3 : (2 : Nat) ^ 64 = 18446744073709551616 := by decide
  omega
theorem wAt_other (S : BitVec 256) (j i : Nat) (h : i / 64 ≠ j) : wAt S j (i + 1) = wAt S j i := by
  by_cases hlt : j < i / 64
  · rw [wAt_end S j (i + 1) (by omega), wAt_end S j i (by omega)]
  · unfold wAt
    rw [show i + 1 - 64 * j = 0 by omega, show i - 64 * j = 0 by omega]
theorem wAt_step (S : BitVec 256) (q i : Nat) (h : i / 64 = q) : wAt S q i = wAt S q (i + 1) * 2 + (mem S i).toNat := by
  unfold wAt
  have e : i + 1 - 64 * q = (i - 64 * q) + 1 := by omega
  rw [e, Nat.pow_succ, ← Nat.div_div_eq_div_mul]
  have hb : mem S i = decide (W S q / 2 ^ (i - 64 * q) % 2 = 1) := by
    have h2 := bit_W S i
    rw [h, Nat.testBit_eq_decide_div_mod_eq, show i % 64 = i - 64 * q by omega] at h2
    exact h2.symm
  rw [hb]
  generalize W S q / 2 ^ (i - 64 * q) = x
  rcases Nat.mod_two_eq_zero_or_one x with hx | hx <;> simp [hx] <;> omega
theorem wAt_lt (S : BitVec 256) (q i : Nat) (h : i / 64 = q) : wAt S q (i + 1) < 9223372036854775808 := by
  have h1 := wAt_step S q i h
  have h2 : wAt S q i ≤ W S q := Nat.div_le_self _ _
  have h3 := W_lt S q
  omega
theorem wAt_no (S : BitVec 256) (q i : Nat) (h : i / 64 = q) (hm : mem S i = false) : IntKind.u64.wrap ((wAt S q (i + 1) : Int) * 2) = (wAt S q i : Int) := by
  have h1 := wAt_step S q i h
  have h2 := wAt_lt S q i h
  rw [hm] at h1
  rw [IntKind.wrap_u64]
  simp at h1
  omega
theorem wAt_yes (S : BitVec 256) (q i : Nat) (h : i / 64 = q) (hm : mem S i = true) : IntKind.u64.wrap (IntKind.u64.wrap ((wAt S q (i + 1) : Int) * 2) + 1) = (wAt S q i : Int) := by
  have h1 := wAt_step S q i h
  have h2 := wAt_lt S q i h
  rw [hm] at h1
  rw [IntKind.wrap_u64, IntKind.wrap_u64]
  simp at h1
  omega

/-- Four numbers in a block of the array's own type. -/
def BoxZ (w : World) (g : Nat) (a b c d : Int) : Prop := w.heap[g]? = some (.cells #[.int .u64 a, .int .u64 b, .int .u64 c, .int .u64 d] 27 (0, 0))
theorem BoxZ.set0 {w : World} {g : Nat} {a b c d : Int} (h : BoxZ w g a b c d) (x : Int) : BoxZ (w.setCell ⟨g, 0, none⟩ (.int .u64 x)) g x b c d := by
  unfold BoxZ at h ⊢; rw [heap_setCell_same w g 0 _ _ _ h]; rfl
theorem BoxZ.set1 {w : World} {g : Nat} {a b c d : Int} (h : BoxZ w g a b c d) (x : Int) : BoxZ (w.setCell ⟨g, 1, none⟩ (.int .u64 x)) g a x c d := by
  unfold BoxZ at h ⊢; rw [heap_setCell_same w g 1 _ _ _ h]; rfl
theorem BoxZ.set2 {w : World} {g : Nat} {a b c d : Int} (h : BoxZ w g a b c d) (x : Int) : BoxZ (w.setCell ⟨g, 2, none⟩ (.int .u64 x)) g a b x d := by
  unfold BoxZ at h ⊢; rw [heap_setCell_same w g 2 _ _ _ h]; rfl
theorem BoxZ.set3 {w : World} {g : Nat} {a b c d : Int} (h : BoxZ w g a b c d) (x : Int) : BoxZ (w.setCell ⟨g, 3, none⟩ (.int .u64 x)) g a b c x := by
  unfold BoxZ at h ⊢; rw [heap_setCell_same w g 3 _ _ _ h]; rfl
theorem sizeArr : (Tryz.prog.info? 27).map (·.size) = some 4 := by kernel_rfl
theorem BoxZ.results {fn : Func} {p : Tmp} (h : fn.results = #[.cell p 27]) (tmps : Array Value) {w : World} {g : Nat} {a b c d : Int} (hp : tmps.getD p undef = .pointer (some ⟨g, 0, none⟩)) (hg : BoxZ w g a b c d) :
    (results fn tmps).run Tryz.prog w = .ok (.agg #[.int .u64 a, .int .u64 b, .int .u64 c, .int .u64 d]) w :=
  results_cell_row h tmps w g _ _ _ _ hp hg Tryz.underlying27 rfl sizeArr
theorem BoxZ.all {w : World} {g : Nat} {a b c d : Int} (h : BoxZ w g a b c d) (a' b' c' d' : Int) : BoxZ ((((w.setCell ⟨g, 0, none⟩ (.int .u64 a')).setCell ⟨g, 1, none⟩ (.int .u64 b')).setCell ⟨g, 2, none⟩ (.int .u64 c')).setCell ⟨g, 3, none⟩ (.int .u64 d')) g a' b' c' d' := (((h.set0 a').set1 b').set2 c').set3 d'

end Go.Proofs.YtkpijnodhlonfaaGreatDoor
