/-
  Layer 8, the document's answer: a node's pattern: what its arms share; four of them.
-/
import Derived.Test.YtfejdengpnikeaaGreatDoorShoRefB
import Derived.Test.YtfejdengpnikeaaGreatDoorShoRefC
import Derived.Test.YtfejdengpnikeaaGreatDoorShoB
namespace Go.Proofs.YtfejdengpnikeaaGreatDoor
open Go.RowKit
open Ast (Nd ndV ndC siz Nodes At12)

section
variable {ops : Array Oper} {R : World → Prop} {a : Act} {o : Oper} {x y : Operand}
theorem idxN8_y {b f n cap i : Nat} (hi : i < n) (ho : o.op = .indexAddr 32 x y) (hx : a.eval x = .slice (some ⟨b, f, none⟩) n cap) (hy : a.eval y = .int .i64 (i : Int)) (hw : Region.wanted o (yielded ops a.tmps) = true) : YieldsIf Tryz.prog ops R o (.pointer (some ⟨b, f + i * 12, none⟩)) a := by
  refine Or.inl ⟨hw, fun u _ => ?_⟩
  have i0 : (0 : Int) ≤ i := by omega
  have i1 : (i : Int) < n := by omega
  unfold execOp
  simp only [ho, hx, hy]
  go_simp
theorem eqlI8_y {m n : Int} (b : Bool) (h : (m == n) = b) (ho : o.op = .binOp .eql 3 x y 3) (hx : a.eval x = .int .i64 m) (hy : a.eval y = .int .i64 n) (hw : Region.wanted o (yielded ops a.tmps) = true) : YieldsIf Tryz.prog ops R o (.bool b) a := by
  refine Or.inl ⟨hw, fun w _ => ?_⟩
  unfold execOp
  simp only [ho, hx, hy]
  go_simp
theorem geqI8_y {m n : Int} (b : Bool) (h : decide (n ≤ m) = b) (ho : o.op = .binOp .geq 3 x y 3) (hx : a.eval x = .int .i64 m) (hy : a.eval y = .int .i64 n) (hw : Region.wanted o (yielded ops a.tmps) = true) : YieldsIf Tryz.prog ops R o (.bool b) a := by
  refine Or.inl ⟨hw, fun w _ => ?_⟩
  unfold execOp
  simp only [ho, hx, hy]
  go_simp
theorem leqI8_y {m n : Int} (b : Bool) (h : decide (m ≤ n) = b) (ho : o.op = .binOp .leq 3 x y 3) (hx : a.eval x = .int .i64 m) (hy : a.eval y = .int .i64 n) (hw : Region.wanted o (yielded ops a.tmps) = true) : YieldsIf Tryz.prog ops R o (.bool b) a := by
  refine Or.inl ⟨hw, fun w _ => ?_⟩
  unfold execOp
  simp only [ho, hx, hy]
  go_simp
theorem loadR8_y {b : Nat} (x' : Nd) (hR : ∀ u, R u → At12 u b 0 x') (ho : o.op = .load 64 x) (hx : a.eval x = .pointer (some ⟨b, 0, none⟩)) (hw : Region.wanted o (yielded ops a.tmps) = true) : YieldsIf Tryz.prog ops R o (ndV x') a := by
  refine Or.inl ⟨hw, fun u h => ?_⟩
  obtain ⟨c0, c1, c2, c3, c4, c5, c6, c7, c8, c9, c10, c11⟩ := hR u h
  unfold execOp
  simp only [ho, hx]
  simp [go_sem, c0, c1, c2, c3, c4, c5, c6, c7, c8, c9, c10, c11]
end
/-- What node answers at a place. -/
def Node8 (A : Option Addr) (n cap : Nat) (l : Nat → Nd) (i : Nat) (s : ByteArray) : Prop := ∀ w, Nodes w A n l → Calls Tryz.prog 20 #[.slice A n cap, .int .i64 (i : Int)] w fun e w' => e = .returned (.string s) ∧ Below w.heap.size w w'
set_option maxHeartbeats 2000000 in
theorem within8_any {A : Option Addr} {n cap : Nat} {l : Nat → Nd} {i : Nat} {s : ByteArray} (b : Bool) (hs : s.size ≤ 9000000) (H : Node8 A n cap l i s) (w : World) (hl : Nodes w A n l) : Calls Tryz.prog 59 #[.slice A n cap, .int .i64 (i : Int), .bool b] w fun e w' => e = .returned (.string (inB b s)) ∧ Below w.heap.size w w' := by
  have HN := Lib.hid (H w hl)
  have s1 : ¬ 3 + s.size > 9223372036854775807 := by omega
  have s2 : ¬ 3 + s.size + 1 > 9223372036854775807 := by omega
  clear H hl
  cases b with
  | true =>
    go_enter Tryz.func59, Tryz.ntmps59
    go_wp2_with fail
    refine HN.out.mono ?_
    rintro e w1 ⟨rfl, hb⟩
    have HB := Lib.hid hb
    clear hb
    go_wp2_with fail
    go_ret
    exact ⟨rfl, HB.out⟩
  | false =>
    go_enter Tryz.func59, Tryz.ntmps59
    go_wp2_with fail
    refine HN.out.mono ?_
    rintro e w1 ⟨rfl, hb⟩
    have HB := Lib.hid hb
    clear hb
    go_wp2_with fail
    go_ret
    exact ⟨rfl, HB.out⟩
set_option maxRecDepth 20000 in
set_option maxHeartbeats 8000000 in
theorem node8_set (A : Option Addr) (n cap : Nat) (l : Nat → Nd) (i : Nat) (hi : i < n) (hn : n ≤ 500) (hk : (l i).k = 1) (hw : (l i).s0 = W (setOf (l i)) 0 ∧ (l i).s1 = W (setOf (l i)) 1 ∧ (l i).s2 = W (setOf (l i)) 2 ∧ (l i).s3 = W (setOf (l i)) 3) : Node8 A n cap l i (setP (setOf (l i))) := by
  intro w hl
  have HS := Lib.hid (fun w => rset8_any (setOf (l i)) w)
  generalize setOf (l i) = S at HS hw
  obtain ⟨w0, w1, w2, w3⟩ := hw
  obtain ⟨b, o, rfl, hN⟩ := hl.at_ (show 0 < n by omega)
  have r1 : (i : Int) < (n : Int) := by omega
  obtain ⟨c0, c1, c2, c3, c4, c5, c6, c7, c8, c9, c10, c11⟩ := hN.2 i hi
  obtain ⟨V, hV⟩ : ∃ V, V = w.alloc (.cells (ndC (l i)).toArray 64) := ⟨_, rfl⟩
  have HX := Lib.hid (show At12 V w.heap.size 0 (l i) by rw [hV]; exact refBox w (l i))
  have HB := Lib.hid (show Below w.heap.size w V by rw [hV]; exact (Below.refl _ w).alloc (Nat.le_refl _) _)
  have HN := Lib.hid (hl.below HB.out (Nat.le_refl _))
  simp only [ndC] at hV
  rw [hk] at c0 hV
  rw [w0] at c3 hV
  rw [w1] at c4 hV
  rw [w2] at c5 hV
  rw [w3] at c6 hV
  clear hl hN
  go_enter Tryz.func20, Tryz.ntmps20
  go_wp2_with fail
  rw [← hV]
  clear c0 c1 c2 c3 c4 c5 c6 c7 c8 c9 c10 c11 hV
  clear w0 w1 w2 w3 hk
  refine (HS.out _).mono ?_
  rintro e u1 ⟨rfl, hb⟩
  replace HB := Lib.hid (thenB HB.out hb HB.out.size)
  clear hb
  go_wp2_with fail
  go_ret
  exact ⟨rfl, HB.out⟩
theorem is9_b (k : Int) : (k == 9) = is9 k := by unfold is9; by_cases h : k = 9 <;> simp [h]
set_option maxRecDepth 20000 in
set_option maxHeartbeats 8000000 in
theorem node8_cat (A : Option Addr) (n cap : Nat) (l : Nat → Nd) (i : Nat) (hi : i < n) (hn : n ≤ 500) (hk : (l i).k = 8) (ja jb : Nat) (ha : (l i).a = (ja : Int)) (hb : (l i).b = (jb : Int)) (hja : ja < i) (hjb : jb < i) (sa sb : ByteArray) (za : sa.size ≤ 3000000) (zb : sb.size ≤ 3000000) (NA : Node8 A n cap l ja sa) (NB : Node8 A n cap l jb sb) : Node8 A n cap l i (inB (is9 (l ja).k) sa ++ inB (is89 (l jb).k) sb) := by
  intro w hl
  have W1 := Lib.hid (fun c => within8_any c (by omega) NA)
  have W2 := Lib.hid (fun c => within8_any c (by omega) NB)
  have y1 := inB_size (is9 (l ja).k) sa
  have y2 := inB_size (is89 (l jb).k) sb
  clear NA NB
  obtain ⟨b, o, rfl, hN⟩ := hl.at_ (show 0 < n by omega)
  have r1 : (i : Int) < (n : Int) := by omega
  obtain ⟨c0, c1, c2, c3, c4, c5, c6, c7, c8, c9, c10, c11⟩ := hN.2 i hi
  obtain ⟨V, hV⟩ : ∃ V, V = w.alloc (.cells (ndC (l i)).toArray 64) := ⟨_, rfl⟩
  have HX := Lib.hid (show At12 V w.heap.size 0 (l i) by rw [hV]; exact refBox w (l i))
  have HB := Lib.hid (show Below w.heap.size w V by rw [hV]; exact (Below.refl _ w).alloc (Nat.le_refl _) _)
  have HN := Lib.hid (hl.below HB.out (Nat.le_refl _))
  simp only [ndC] at hV
  rw [hk] at c0 hV
  rw [ha] at c1 hV
  rw [hb] at c2 hV
  clear hl hN
  go_enter Tryz.func20, Tryz.ntmps20
  go_wp2_with fail
  rw [← hV]
  clear c0 c1 c2 c3 c4 c5 c6 c7 c8 c9 c10 c11 hV
  obtain ⟨c0, c1, c2, c3, c4, c5, c6, c7, c8, c9, c10, c11⟩ := HX.out
  have hg : w.heap.size < V.heap.size := block_lt_of_cell c0
  rw [ha] at c1
  rw [hb] at c2
  obtain ⟨b', o', he, hN'⟩ := HN.out.at_ (show 0 < n by omega)
  obtain ⟨rfl, rfl⟩ : b = b' ∧ o = o' := by cases he; exact ⟨rfl, rfl⟩
  have hbV : b < V.heap.size := hN'.1
  have K1 := Lib.hid (hN'.2 ja (by omega)).1
  have K2 := Lib.hid (hN'.2 jb (by omega)).1
  have D1 := Lib.hid c1
  have D2 := Lib.hid c2
  clear c0 c1 c2 c3 c4 c5 c6 c7 c8 c9 c10 c11 he hN' ha hb hk
  refine wp_region_held_drew (S := fun u => Below V.heap.size V u) (by kernel_rfl) (show _ from (Below.refl _ V).drew) (fun hS => ?_)
  generalize World.drew V = u0 at hS ⊢
  refine takeAt 0 20 (.slice (some ⟨b, o, none⟩) n cap) rfl rfl (by kernel_rfl) (by kernel_rfl) (by kernel_rfl) (fun _ _ _ h => h) (yields (by rfl) (fun w => by kernel_rfl)) hS ?_
  simp only [Act.put, List.setIfInBounds_toArray, List.set_cons_zero, List.set_cons_succ]
  refine takeAt 1 21 (.pointer (some ⟨w.heap.size, 1, none⟩)) rfl rfl (by kernel_rfl) (by kernel_rfl) (by kernel_rfl) (fun _ _ _ h => h) (yields (by rfl) (fun w => by kernel_rfl)) hS ?_
  simp only [Act.put, List.setIfInBounds_toArray, List.set_cons_zero, List.set_cons_succ]
  refine takeAt 2 22 (.int .i64 (ja : Int)) rfl rfl (by kernel_rfl) (by kernel_rfl) (by kernel_rfl) (fun _ _ _ h => h) (loadI_y (ja : Int) (fun u h => (h.cell (p := ⟨w.heap.size, 1, none⟩) hg).trans D1.out) rfl rfl (by rfl)) hS ?_
  simp only [Act.put, List.setIfInBounds_toArray, List.set_cons_zero, List.set_cons_succ]
  refine takeAt 3 23 (.slice (some ⟨b, o, none⟩) n cap) rfl rfl (by kernel_rfl) (by kernel_rfl) (by kernel_rfl) (fun _ _ _ h => h) (yields (by rfl) (fun w => by kernel_rfl)) hS ?_
  simp only [Act.put, List.setIfInBounds_toArray, List.set_cons_zero, List.set_cons_succ]
  refine takeAt 4 24 (.pointer (some ⟨w.heap.size, 1, none⟩)) rfl rfl (by kernel_rfl) (by kernel_rfl) (by kernel_rfl) (fun _ _ _ h => h) (yields (by rfl) (fun w => by kernel_rfl)) hS ?_
  simp only [Act.put, List.setIfInBounds_toArray, List.set_cons_zero, List.set_cons_succ]
  refine takeAt 5 25 (.int .i64 (ja : Int)) rfl rfl (by kernel_rfl) (by kernel_rfl) (by kernel_rfl) (fun _ _ _ h => h) (loadI_y (ja : Int) (fun u h => (h.cell (p := ⟨w.heap.size, 1, none⟩) hg).trans D1.out) rfl rfl (by rfl)) hS ?_
  simp only [Act.put, List.setIfInBounds_toArray, List.set_cons_zero, List.set_cons_succ]
  refine takeAt 6 26 (.pointer (some ⟨b, o + ja * 12, none⟩)) rfl rfl (by kernel_rfl) (by kernel_rfl) (by kernel_rfl) (fun _ _ _ h => h) (idxN8_y (by omega) rfl rfl rfl (by rfl)) hS ?_
  simp only [Act.put, List.setIfInBounds_toArray, List.set_cons_zero, List.set_cons_succ]
  refine takeAt 7 27 (.pointer (some ⟨b, o + ja * 12, none⟩)) rfl rfl (by kernel_rfl) (by kernel_rfl) (by kernel_rfl) (fun _ _ _ h => h) (yields (by rfl) (fun w => by kernel_rfl)) hS ?_
  simp only [Act.put, List.setIfInBounds_toArray, List.set_cons_zero, List.set_cons_succ]
  refine takeAt 8 28 (.int .i64 (l ja).k) rfl rfl (by kernel_rfl) (by kernel_rfl) (by kernel_rfl) (fun _ _ _ h => h) (loadI_y (l ja).k (fun u h => (h.cell (p := ⟨b, o + ja * 12, none⟩) hbV).trans K1.out) rfl rfl (by rfl)) hS ?_
  simp only [Act.put, List.setIfInBounds_toArray, List.set_cons_zero, List.set_cons_succ]
  refine takeAt 9 29 (.bool (is9 (l ja).k)) rfl rfl (by kernel_rfl) (by kernel_rfl) (by kernel_rfl) (fun _ _ _ h => h) (eqlI8_y _ (is9_b _) rfl rfl rfl (by rfl)) hS ?_
  simp only [Act.put, List.setIfInBounds_toArray, List.set_cons_zero, List.set_cons_succ]
  refine takeAt 11 31 (.slice (some ⟨b, o, none⟩) n cap) rfl rfl (by kernel_rfl) (by kernel_rfl) (by kernel_rfl) (fun _ _ _ h => h) (yields (by rfl) (fun w => by kernel_rfl)) hS ?_
  simp only [Act.put, List.setIfInBounds_toArray, List.set_cons_zero, List.set_cons_succ]
  refine takeAt 12 32 (.pointer (some ⟨w.heap.size, 2, none⟩)) rfl rfl (by kernel_rfl) (by kernel_rfl) (by kernel_rfl) (fun _ _ _ h => h) (yields (by rfl) (fun w => by kernel_rfl)) hS ?_
  simp only [Act.put, List.setIfInBounds_toArray, List.set_cons_zero, List.set_cons_succ]
  refine takeAt 13 33 (.int .i64 (jb : Int)) rfl rfl (by kernel_rfl) (by kernel_rfl) (by kernel_rfl) (fun _ _ _ h => h) (loadI_y (jb : Int) (fun u h => (h.cell (p := ⟨w.heap.size, 2, none⟩) hg).trans D2.out) rfl rfl (by rfl)) hS ?_
  simp only [Act.put, List.setIfInBounds_toArray, List.set_cons_zero, List.set_cons_succ]
  refine takeAt 14 34 (.slice (some ⟨b, o, none⟩) n cap) rfl rfl (by kernel_rfl) (by kernel_rfl) (by kernel_rfl) (fun _ _ _ h => h) (yields (by rfl) (fun w => by kernel_rfl)) hS ?_
  simp only [Act.put, List.setIfInBounds_toArray, List.set_cons_zero, List.set_cons_succ]
  refine takeAt 15 35 (.pointer (some ⟨w.heap.size, 2, none⟩)) rfl rfl (by kernel_rfl) (by kernel_rfl) (by kernel_rfl) (fun _ _ _ h => h) (yields (by rfl) (fun w => by kernel_rfl)) hS ?_
  simp only [Act.put, List.setIfInBounds_toArray, List.set_cons_zero, List.set_cons_succ]
  refine takeAt 16 36 (.int .i64 (jb : Int)) rfl rfl (by kernel_rfl) (by kernel_rfl) (by kernel_rfl) (fun _ _ _ h => h) (loadI_y (jb : Int) (fun u h => (h.cell (p := ⟨w.heap.size, 2, none⟩) hg).trans D2.out) rfl rfl (by rfl)) hS ?_
  simp only [Act.put, List.setIfInBounds_toArray, List.set_cons_zero, List.set_cons_succ]
  refine takeAt 17 37 (.pointer (some ⟨b, o + jb * 12, none⟩)) rfl rfl (by kernel_rfl) (by kernel_rfl) (by kernel_rfl) (fun _ _ _ h => h) (idxN8_y (by omega) rfl rfl rfl (by rfl)) hS ?_
  simp only [Act.put, List.setIfInBounds_toArray, List.set_cons_zero, List.set_cons_succ]
  refine takeAt 18 38 (.pointer (some ⟨b, o + jb * 12, none⟩)) rfl rfl (by kernel_rfl) (by kernel_rfl) (by kernel_rfl) (fun _ _ _ h => h) (yields (by rfl) (fun w => by kernel_rfl)) hS ?_
  simp only [Act.put, List.setIfInBounds_toArray, List.set_cons_zero, List.set_cons_succ]
  refine takeAt 19 39 (.int .i64 (l jb).k) rfl rfl (by kernel_rfl) (by kernel_rfl) (by kernel_rfl) (fun _ _ _ h => h) (loadI_y (l jb).k (fun u h => (h.cell (p := ⟨b, o + jb * 12, none⟩) hbV).trans K2.out) rfl rfl (by rfl)) hS ?_
  simp only [Act.put, List.setIfInBounds_toArray, List.set_cons_zero, List.set_cons_succ]
  by_cases h8 : (l jb).k = 8
  · have e8 : ((l jb).k == 8) = true := by simp [h8]
    have e89 : is89 (l jb).k = true := by unfold is89; exact decide_eq_true (.inl h8)
    rw [e89] at y2
    have E89 := Lib.hid e89
    clear e89
    refine takeAt 20 40 (.bool true) rfl rfl (by kernel_rfl) (by kernel_rfl) (by kernel_rfl) (fun _ _ _ h => h) (eqlI8_y true e8 rfl rfl rfl (by rfl)) hS ?_
    simp only [Act.put, List.setIfInBounds_toArray, List.set_cons_zero, List.set_cons_succ]
    refine callAt 10 30 rfl rfl (by kernel_rfl) (by rfl) (by kernel_rfl) (W1.out (is9 (l ja).k) _ (HN.out.below hS (Nat.le_refl _))) ?_
    rintro e v1 ⟨rfl, hb⟩
    have hS := thenB hS hb hS.size
    refine ⟨_, rfl, hS, ?_⟩
    simp only [Act.put, List.setIfInBounds_toArray, List.set_cons_zero, List.set_cons_succ]
    clear hb
    refine takeAt 21 41 (.bool true) rfl rfl (by kernel_rfl) (by kernel_rfl) (by kernel_rfl) (fun _ _ _ h => h) (yields (by rfl) (fun w => by kernel_rfl)) hS ?_
    simp only [Act.put, List.setIfInBounds_toArray, List.set_cons_zero, List.set_cons_succ]
    refine takeAt 22 42 (undef) rfl rfl (by kernel_rfl) (by kernel_rfl) (by kernel_rfl) (fun _ _ _ h => h) (skipped (by rfl)) hS ?_
    simp only [Act.put, List.setIfInBounds_toArray, List.set_cons_zero, List.set_cons_succ]
    refine takeAt 23 43 (undef) rfl rfl (by kernel_rfl) (by kernel_rfl) (by kernel_rfl) (fun _ _ _ h => h) (skipped (by rfl)) hS ?_
    simp only [Act.put, List.setIfInBounds_toArray, List.set_cons_zero, List.set_cons_succ]
    refine takeAt 24 44 (undef) rfl rfl (by kernel_rfl) (by kernel_rfl) (by kernel_rfl) (fun _ _ _ h => h) (skipped (by rfl)) hS ?_
    simp only [Act.put, List.setIfInBounds_toArray, List.set_cons_zero, List.set_cons_succ]
    refine takeAt 25 45 (undef) rfl rfl (by kernel_rfl) (by kernel_rfl) (by kernel_rfl) (fun _ _ _ h => h) (skipped (by rfl)) hS ?_
    simp only [Act.put, List.setIfInBounds_toArray, List.set_cons_zero, List.set_cons_succ]
    refine takeAt 26 46 (undef) rfl rfl (by kernel_rfl) (by kernel_rfl) (by kernel_rfl) (fun _ _ _ h => h) (skipped (by rfl)) hS ?_
    simp only [Act.put, List.setIfInBounds_toArray, List.set_cons_zero, List.set_cons_succ]
    refine takeAt 27 47 (undef) rfl rfl (by kernel_rfl) (by kernel_rfl) (by kernel_rfl) (fun _ _ _ h => h) (skipped (by rfl)) hS ?_
    simp only [Act.put, List.setIfInBounds_toArray, List.set_cons_zero, List.set_cons_succ]
    refine takeAt 28 48 (undef) rfl rfl (by kernel_rfl) (by kernel_rfl) (by kernel_rfl) (fun _ _ _ h => h) (skipped (by rfl)) hS ?_
    simp only [Act.put, List.setIfInBounds_toArray, List.set_cons_zero, List.set_cons_succ]
    refine takeAt 29 49 (.bool true) rfl rfl (by kernel_rfl) (by kernel_rfl) (by kernel_rfl) (fun _ _ _ h => h) (yields (by rfl) (fun w => by kernel_rfl)) hS ?_
    simp only [Act.put, List.setIfInBounds_toArray, List.set_cons_zero, List.set_cons_succ]
    refine callAt 30 50 rfl rfl (by kernel_rfl) (by rfl) (by kernel_rfl) (W2.out true _ (HN.out.below hS (Nat.le_refl _))) ?_
    rintro e v2 ⟨rfl, hb⟩
    have hS := thenB hS hb hS.size
    refine ⟨_, rfl, hS, ?_⟩
    simp only [Act.put, List.setIfInBounds_toArray, List.set_cons_zero, List.set_cons_succ]
    clear hb
    refine takeAt 31 51 (.string (inB (is9 (l ja).k) sa ++ inB true sb)) rfl rfl (by kernel_rfl) (by kernel_rfl) (by kernel_rfl) (fun _ _ _ h => h) (catB_y _ _ (by omega) rfl rfl rfl (by rfl)) hS ?_
    simp only [Act.put, List.setIfInBounds_toArray, List.set_cons_zero, List.set_cons_succ]
    refine takeAt 32 4 (.string (inB (is9 (l ja).k) sa ++ inB true sb)) rfl rfl (by kernel_rfl) (by kernel_rfl) (by kernel_rfl) (fun _ _ _ h => h) (yields (by rfl) (fun w => by kernel_rfl)) hS ?_
    simp only [Act.put, List.setIfInBounds_toArray, List.set_cons_zero, List.set_cons_succ]
    refine wpAnyH_done (by kernel_rfl) ?_ _
    go_wp2_with fail
    go_ret
    exact ⟨ret_str (by rw [E89.out]), HB.out.trans (hS.mono HB.out.size)⟩
  · have e8 : ((l jb).k == 8) = false := beq_eq_false_iff_ne.2 h8
    have e89 : is89 (l jb).k = is9 (l jb).k := by unfold is89 is9; simp [h8]
    rw [e89] at y2
    have E89 := Lib.hid e89
    clear e89
    refine takeAt 20 40 (.bool false) rfl rfl (by kernel_rfl) (by kernel_rfl) (by kernel_rfl) (fun _ _ _ h => h) (eqlI8_y false e8 rfl rfl rfl (by rfl)) hS ?_
    simp only [Act.put, List.setIfInBounds_toArray, List.set_cons_zero, List.set_cons_succ]
    refine callAt 10 30 rfl rfl (by kernel_rfl) (by rfl) (by kernel_rfl) (W1.out (is9 (l ja).k) _ (HN.out.below hS (Nat.le_refl _))) ?_
    rintro e v1 ⟨rfl, hb⟩
    have hS := thenB hS hb hS.size
    refine ⟨_, rfl, hS, ?_⟩
    simp only [Act.put, List.setIfInBounds_toArray, List.set_cons_zero, List.set_cons_succ]
    clear hb
    refine takeAt 21 41 (.bool false) rfl rfl (by kernel_rfl) (by kernel_rfl) (by kernel_rfl) (fun _ _ _ h => h) (yields (by rfl) (fun w => by kernel_rfl)) hS ?_
    simp only [Act.put, List.setIfInBounds_toArray, List.set_cons_zero, List.set_cons_succ]
    refine takeAt 22 42 (.slice (some ⟨b, o, none⟩) n cap) rfl rfl (by kernel_rfl) (by kernel_rfl) (by kernel_rfl) (fun _ _ _ h => h) (yields (by rfl) (fun w => by kernel_rfl)) hS ?_
    simp only [Act.put, List.setIfInBounds_toArray, List.set_cons_zero, List.set_cons_succ]
    refine takeAt 23 43 (.pointer (some ⟨w.heap.size, 2, none⟩)) rfl rfl (by kernel_rfl) (by kernel_rfl) (by kernel_rfl) (fun _ _ _ h => h) (yields (by rfl) (fun w => by kernel_rfl)) hS ?_
    simp only [Act.put, List.setIfInBounds_toArray, List.set_cons_zero, List.set_cons_succ]
    refine takeAt 24 44 (.int .i64 (jb : Int)) rfl rfl (by kernel_rfl) (by kernel_rfl) (by kernel_rfl) (fun _ _ _ h => h) (loadI_y (jb : Int) (fun u h => (h.cell (p := ⟨w.heap.size, 2, none⟩) hg).trans D2.out) rfl rfl (by rfl)) hS ?_
    simp only [Act.put, List.setIfInBounds_toArray, List.set_cons_zero, List.set_cons_succ]
    refine takeAt 25 45 (.pointer (some ⟨b, o + jb * 12, none⟩)) rfl rfl (by kernel_rfl) (by kernel_rfl) (by kernel_rfl) (fun _ _ _ h => h) (idxN8_y (by omega) rfl rfl rfl (by rfl)) hS ?_
    simp only [Act.put, List.setIfInBounds_toArray, List.set_cons_zero, List.set_cons_succ]
    refine takeAt 26 46 (.pointer (some ⟨b, o + jb * 12, none⟩)) rfl rfl (by kernel_rfl) (by kernel_rfl) (by kernel_rfl) (fun _ _ _ h => h) (yields (by rfl) (fun w => by kernel_rfl)) hS ?_
    simp only [Act.put, List.setIfInBounds_toArray, List.set_cons_zero, List.set_cons_succ]
    refine takeAt 27 47 (.int .i64 (l jb).k) rfl rfl (by kernel_rfl) (by kernel_rfl) (by kernel_rfl) (fun _ _ _ h => h) (loadI_y (l jb).k (fun u h => (h.cell (p := ⟨b, o + jb * 12, none⟩) hbV).trans K2.out) rfl rfl (by rfl)) hS ?_
    simp only [Act.put, List.setIfInBounds_toArray, List.set_cons_zero, List.set_cons_succ]
    refine takeAt 28 48 (.bool (is9 (l jb).k)) rfl rfl (by kernel_rfl) (by kernel_rfl) (by kernel_rfl) (fun _ _ _ h => h) (eqlI8_y _ (is9_b _) rfl rfl rfl (by rfl)) hS ?_
    simp only [Act.put, List.setIfInBounds_toArray, List.set_cons_zero, List.set_cons_succ]
    refine takeAt 29 49 (.bool (is9 (l jb).k)) rfl rfl (by kernel_rfl) (by kernel_rfl) (by kernel_rfl) (fun _ _ _ h => h) (yields (by rfl) (fun w => by kernel_rfl)) hS ?_
    simp only [Act.put, List.setIfInBounds_toArray, List.set_cons_zero, List.set_cons_succ]
    refine callAt 30 50 rfl rfl (by kernel_rfl) (by rfl) (by kernel_rfl) (W2.out (is9 (l jb).k) _ (HN.out.below hS (Nat.le_refl _))) ?_
    rintro e v2 ⟨rfl, hb⟩
    have hS := thenB hS hb hS.size
    refine ⟨_, rfl, hS, ?_⟩
    simp only [Act.put, List.setIfInBounds_toArray, List.set_cons_zero, List.set_cons_succ]
    clear hb
    refine takeAt 31 51 (.string (inB (is9 (l ja).k) sa ++ inB (is9 (l jb).k) sb)) rfl rfl (by kernel_rfl) (by kernel_rfl) (by kernel_rfl) (fun _ _ _ h => h) (catB_y _ _ (by omega) rfl rfl rfl (by rfl)) hS ?_
    simp only [Act.put, List.setIfInBounds_toArray, List.set_cons_zero, List.set_cons_succ]
    refine takeAt 32 4 (.string (inB (is9 (l ja).k) sa ++ inB (is9 (l jb).k) sb)) rfl rfl (by kernel_rfl) (by kernel_rfl) (by kernel_rfl) (fun _ _ _ h => h) (yields (by rfl) (fun w => by kernel_rfl)) hS ?_
    simp only [Act.put, List.setIfInBounds_toArray, List.set_cons_zero, List.set_cons_succ]
    refine wpAnyH_done (by kernel_rfl) ?_ _
    go_wp2_with fail
    go_ret
    exact ⟨ret_str (by rw [E89.out]), HB.out.trans (hS.mono HB.out.size)⟩
set_option maxRecDepth 20000 in
set_option maxHeartbeats 8000000 in
theorem node8_alt (A : Option Addr) (n cap : Nat) (l : Nat → Nd) (i : Nat) (hi : i < n) (hn : n ≤ 500) (hk : (l i).k = 9) (ja jb : Nat) (ha : (l i).a = (ja : Int)) (hb : (l i).b = (jb : Int)) (_hja : ja < i) (hjb : jb < i) (sa sb : ByteArray) (za : sa.size ≤ 3000000) (zb : sb.size ≤ 3000000) (NA : Node8 A n cap l ja sa) (NB : Node8 A n cap l jb sb) : Node8 A n cap l i ((sa ++ ⟨#[124]⟩) ++ inB (is9 (l jb).k) sb) := by
  intro w hl
  have W1 := Lib.hid NA
  have W2 := Lib.hid (fun c => within8_any c (by omega) NB)
  have y2 := inB_size (is9 (l jb).k) sb
  have y3 : (sa ++ (⟨#[124]⟩ : ByteArray)).size = sa.size + 1 := ByteArray.size_append
  clear NA NB
  obtain ⟨b, o, rfl, hN⟩ := hl.at_ (show 0 < n by omega)
  have r1 : (i : Int) < (n : Int) := by omega
  obtain ⟨c0, c1, c2, c3, c4, c5, c6, c7, c8, c9, c10, c11⟩ := hN.2 i hi
  obtain ⟨V, hV⟩ : ∃ V, V = w.alloc (.cells (ndC (l i)).toArray 64) := ⟨_, rfl⟩
  have HX := Lib.hid (show At12 V w.heap.size 0 (l i) by rw [hV]; exact refBox w (l i))
  have HB := Lib.hid (show Below w.heap.size w V by rw [hV]; exact (Below.refl _ w).alloc (Nat.le_refl _) _)
  have HN := Lib.hid (hl.below HB.out (Nat.le_refl _))
  simp only [ndC] at hV
  rw [hk] at c0 hV
  rw [ha] at c1 hV
  rw [hb] at c2 hV
  clear hl hN
  go_enter Tryz.func20, Tryz.ntmps20
  go_wp2_with fail
  rw [← hV]
  clear c0 c1 c2 c3 c4 c5 c6 c7 c8 c9 c10 c11 hV
  obtain ⟨c0, c1, c2, c3, c4, c5, c6, c7, c8, c9, c10, c11⟩ := HX.out
  have hg : w.heap.size < V.heap.size := block_lt_of_cell c0
  rw [ha] at c1
  rw [hb] at c2
  obtain ⟨b', o', he, hN'⟩ := HN.out.at_ (show 0 < n by omega)
  obtain ⟨rfl, rfl⟩ : b = b' ∧ o = o' := by cases he; exact ⟨rfl, rfl⟩
  have hbV : b < V.heap.size := hN'.1
  have K2 := Lib.hid (hN'.2 jb (by omega)).1
  have D1 := Lib.hid c1
  have D2 := Lib.hid c2
  clear c0 c1 c2 c3 c4 c5 c6 c7 c8 c9 c10 c11 he hN' ha hb hk
  refine wp_region_held_drew (S := fun u => Below V.heap.size V u) (by kernel_rfl) (show _ from (Below.refl _ V).drew) (fun hS => ?_)
  generalize World.drew V = u0 at hS ⊢
  refine takeAt 0 54 (.slice (some ⟨b, o, none⟩) n cap) rfl rfl (by kernel_rfl) (by kernel_rfl) (by kernel_rfl) (fun _ _ _ h => h) (yields (by rfl) (fun w => by kernel_rfl)) hS ?_
  simp only [Act.put, List.setIfInBounds_toArray, List.set_cons_zero, List.set_cons_succ]
  refine takeAt 1 55 (.pointer (some ⟨w.heap.size, 1, none⟩)) rfl rfl (by kernel_rfl) (by kernel_rfl) (by kernel_rfl) (fun _ _ _ h => h) (yields (by rfl) (fun w => by kernel_rfl)) hS ?_
  simp only [Act.put, List.setIfInBounds_toArray, List.set_cons_zero, List.set_cons_succ]
  refine takeAt 2 56 (.int .i64 (ja : Int)) rfl rfl (by kernel_rfl) (by kernel_rfl) (by kernel_rfl) (fun _ _ _ h => h) (loadI_y (ja : Int) (fun u h => (h.cell (p := ⟨w.heap.size, 1, none⟩) hg).trans D1.out) rfl rfl (by rfl)) hS ?_
  simp only [Act.put, List.setIfInBounds_toArray, List.set_cons_zero, List.set_cons_succ]
  refine takeAt 5 59 (.slice (some ⟨b, o, none⟩) n cap) rfl rfl (by kernel_rfl) (by kernel_rfl) (by kernel_rfl) (fun _ _ _ h => h) (yields (by rfl) (fun w => by kernel_rfl)) hS ?_
  simp only [Act.put, List.setIfInBounds_toArray, List.set_cons_zero, List.set_cons_succ]
  refine takeAt 6 60 (.pointer (some ⟨w.heap.size, 2, none⟩)) rfl rfl (by kernel_rfl) (by kernel_rfl) (by kernel_rfl) (fun _ _ _ h => h) (yields (by rfl) (fun w => by kernel_rfl)) hS ?_
  simp only [Act.put, List.setIfInBounds_toArray, List.set_cons_zero, List.set_cons_succ]
  refine takeAt 7 61 (.int .i64 (jb : Int)) rfl rfl (by kernel_rfl) (by kernel_rfl) (by kernel_rfl) (fun _ _ _ h => h) (loadI_y (jb : Int) (fun u h => (h.cell (p := ⟨w.heap.size, 2, none⟩) hg).trans D2.out) rfl rfl (by rfl)) hS ?_
  simp only [Act.put, List.setIfInBounds_toArray, List.set_cons_zero, List.set_cons_succ]
  refine takeAt 8 62 (.slice (some ⟨b, o, none⟩) n cap) rfl rfl (by kernel_rfl) (by kernel_rfl) (by kernel_rfl) (fun _ _ _ h => h) (yields (by rfl) (fun w => by kernel_rfl)) hS ?_
  simp only [Act.put, List.setIfInBounds_toArray, List.set_cons_zero, List.set_cons_succ]
  refine takeAt 9 63 (.pointer (some ⟨w.heap.size, 2, none⟩)) rfl rfl (by kernel_rfl) (by kernel_rfl) (by kernel_rfl) (fun _ _ _ h => h) (yields (by rfl) (fun w => by kernel_rfl)) hS ?_
  simp only [Act.put, List.setIfInBounds_toArray, List.set_cons_zero, List.set_cons_succ]
  refine takeAt 10 64 (.int .i64 (jb : Int)) rfl rfl (by kernel_rfl) (by kernel_rfl) (by kernel_rfl) (fun _ _ _ h => h) (loadI_y (jb : Int) (fun u h => (h.cell (p := ⟨w.heap.size, 2, none⟩) hg).trans D2.out) rfl rfl (by rfl)) hS ?_
  simp only [Act.put, List.setIfInBounds_toArray, List.set_cons_zero, List.set_cons_succ]
  refine takeAt 11 65 (.pointer (some ⟨b, o + jb * 12, none⟩)) rfl rfl (by kernel_rfl) (by kernel_rfl) (by kernel_rfl) (fun _ _ _ h => h) (idxN8_y (by omega) rfl rfl rfl (by rfl)) hS ?_
  simp only [Act.put, List.setIfInBounds_toArray, List.set_cons_zero, List.set_cons_succ]
  refine takeAt 12 66 (.pointer (some ⟨b, o + jb * 12, none⟩)) rfl rfl (by kernel_rfl) (by kernel_rfl) (by kernel_rfl) (fun _ _ _ h => h) (yields (by rfl) (fun w => by kernel_rfl)) hS ?_
  simp only [Act.put, List.setIfInBounds_toArray, List.set_cons_zero, List.set_cons_succ]
  refine takeAt 13 67 (.int .i64 (l jb).k) rfl rfl (by kernel_rfl) (by kernel_rfl) (by kernel_rfl) (fun _ _ _ h => h) (loadI_y (l jb).k (fun u h => (h.cell (p := ⟨b, o + jb * 12, none⟩) hbV).trans K2.out) rfl rfl (by rfl)) hS ?_
  simp only [Act.put, List.setIfInBounds_toArray, List.set_cons_zero, List.set_cons_succ]
  refine takeAt 14 68 (.bool (is9 (l jb).k)) rfl rfl (by kernel_rfl) (by kernel_rfl) (by kernel_rfl) (fun _ _ _ h => h) (eqlI8_y _ (is9_b _) rfl rfl rfl (by rfl)) hS ?_
  simp only [Act.put, List.setIfInBounds_toArray, List.set_cons_zero, List.set_cons_succ]
  refine callAt 3 57 rfl rfl (by kernel_rfl) (by rfl) (by kernel_rfl) (W1.out _ (HN.out.below hS (Nat.le_refl _))) ?_
  rintro e v1 ⟨rfl, hb⟩
  have hS := thenB hS hb hS.size
  refine ⟨_, rfl, hS, ?_⟩
  simp only [Act.put, List.setIfInBounds_toArray, List.set_cons_zero, List.set_cons_succ]
  clear hb
  refine takeAt 4 58 (.string (sa ++ ⟨#[124]⟩)) rfl rfl (by kernel_rfl) (by kernel_rfl) (by kernel_rfl) (fun _ _ _ h => h) (catB_y _ _ (by show sa.size + 1 ≤ 100000000; omega) rfl rfl rfl (by rfl)) hS ?_
  simp only [Act.put, List.setIfInBounds_toArray, List.set_cons_zero, List.set_cons_succ]
  refine callAt 15 69 rfl rfl (by kernel_rfl) (by rfl) (by kernel_rfl) (W2.out (is9 (l jb).k) _ (HN.out.below hS (Nat.le_refl _))) ?_
  rintro e v2 ⟨rfl, hb⟩
  have hS := thenB hS hb hS.size
  refine ⟨_, rfl, hS, ?_⟩
  simp only [Act.put, List.setIfInBounds_toArray, List.set_cons_zero, List.set_cons_succ]
  clear hb
  refine takeAt 16 70 (.string ((sa ++ ⟨#[124]⟩) ++ inB (is9 (l jb).k) sb)) rfl rfl (by kernel_rfl) (by kernel_rfl) (by kernel_rfl) (fun _ _ _ h => h) (catB_y _ _ (by omega) rfl rfl rfl (by rfl)) hS ?_
  simp only [Act.put, List.setIfInBounds_toArray, List.set_cons_zero, List.set_cons_succ]
  refine takeAt 17 4 (.string ((sa ++ ⟨#[124]⟩) ++ inB (is9 (l jb).k) sb)) rfl rfl (by kernel_rfl) (by kernel_rfl) (by kernel_rfl) (fun _ _ _ h => h) (yields (by rfl) (fun w => by kernel_rfl)) hS ?_
  simp only [Act.put, List.setIfInBounds_toArray, List.set_cons_zero, List.set_cons_succ]
  refine wpAnyH_done (by kernel_rfl) ?_ _
  go_wp2_with fail
  go_ret
  exact ⟨rfl, HB.out.trans (hS.mono HB.out.size)⟩
set_option maxRecDepth 20000 in
set_option maxHeartbeats 8000000 in
theorem node8_rep (A : Option Addr) (n cap : Nat) (l : Nat → Nd) (i : Nat) (hi : i < n) (hn : n ≤ 500) (hk : (l i).k = 10) (ja : Nat) (ha : (l i).a = (ja : Int)) (hja : ja < i) (sa : ByteArray) (za : sa.size ≤ 3000000) (NA : Node8 A n cap l ja sa) (so : ByteArray) (zo : so.size ≤ 1000) (NO : ∀ w, Calls Tryz.prog 60 #[ndV (l i)] w fun e w' => e = .returned (.string so) ∧ Below w.heap.size w w') : Node8 A n cap l i (inB (is8a (l ja).k) sa ++ so) := by
  intro w hl
  have W1 := Lib.hid (fun c => within8_any c (by omega) NA)
  have W2 := Lib.hid NO
  have y1 := inB_size (is8a (l ja).k) sa
  clear NA NO
  obtain ⟨b, o, rfl, hN⟩ := hl.at_ (show 0 < n by omega)
  have r1 : (i : Int) < (n : Int) := by omega
  obtain ⟨c0, c1, c2, c3, c4, c5, c6, c7, c8, c9, c10, c11⟩ := hN.2 i hi
  obtain ⟨V, hV⟩ : ∃ V, V = w.alloc (.cells (ndC (l i)).toArray 64) := ⟨_, rfl⟩
  have HX := Lib.hid (show At12 V w.heap.size 0 (l i) by rw [hV]; exact refBox w (l i))
  have HB := Lib.hid (show Below w.heap.size w V by rw [hV]; exact (Below.refl _ w).alloc (Nat.le_refl _) _)
  have HN := Lib.hid (hl.below HB.out (Nat.le_refl _))
  simp only [ndC] at hV
  rw [hk] at c0 hV
  rw [ha] at c1 hV
  clear hl hN
  go_enter Tryz.func20, Tryz.ntmps20
  go_wp2_with fail
  rw [← hV]
  clear c0 c1 c2 c3 c4 c5 c6 c7 c8 c9 c10 c11 hV
  obtain ⟨c0, c1, c2, c3, c4, c5, c6, c7, c8, c9, c10, c11⟩ := HX.out
  have hg : w.heap.size < V.heap.size := block_lt_of_cell c0
  rw [ha] at c1
  obtain ⟨b', o', he, hN'⟩ := HN.out.at_ (show 0 < n by omega)
  obtain ⟨rfl, rfl⟩ : b = b' ∧ o = o' := by cases he; exact ⟨rfl, rfl⟩
  have hbV : b < V.heap.size := hN'.1
  have K1 := Lib.hid (hN'.2 ja (by omega)).1
  have D1 := Lib.hid c1
  clear c0 c1 c2 c3 c4 c5 c6 c7 c8 c9 c10 c11 he hN' ha hk
  refine wp_region_held_drew (S := fun u => Below V.heap.size V u) (by kernel_rfl) (show _ from (Below.refl _ V).drew) (fun hS => ?_)
  generalize World.drew V = u0 at hS ⊢
  refine takeAt 0 73 (.slice (some ⟨b, o, none⟩) n cap) rfl rfl (by kernel_rfl) (by kernel_rfl) (by kernel_rfl) (fun _ _ _ h => h) (yields (by rfl) (fun w => by kernel_rfl)) hS ?_
  simp only [Act.put, List.setIfInBounds_toArray, List.set_cons_zero, List.set_cons_succ]
  refine takeAt 1 74 (.pointer (some ⟨w.heap.size, 1, none⟩)) rfl rfl (by kernel_rfl) (by kernel_rfl) (by kernel_rfl) (fun _ _ _ h => h) (yields (by rfl) (fun w => by kernel_rfl)) hS ?_
  simp only [Act.put, List.setIfInBounds_toArray, List.set_cons_zero, List.set_cons_succ]
  refine takeAt 2 75 (.int .i64 (ja : Int)) rfl rfl (by kernel_rfl) (by kernel_rfl) (by kernel_rfl) (fun _ _ _ h => h) (loadI_y (ja : Int) (fun u h => (h.cell (p := ⟨w.heap.size, 1, none⟩) hg).trans D1.out) rfl rfl (by rfl)) hS ?_
  simp only [Act.put, List.setIfInBounds_toArray, List.set_cons_zero, List.set_cons_succ]
  refine takeAt 3 76 (.slice (some ⟨b, o, none⟩) n cap) rfl rfl (by kernel_rfl) (by kernel_rfl) (by kernel_rfl) (fun _ _ _ h => h) (yields (by rfl) (fun w => by kernel_rfl)) hS ?_
  simp only [Act.put, List.setIfInBounds_toArray, List.set_cons_zero, List.set_cons_succ]
  refine takeAt 4 77 (.pointer (some ⟨w.heap.size, 1, none⟩)) rfl rfl (by kernel_rfl) (by kernel_rfl) (by kernel_rfl) (fun _ _ _ h => h) (yields (by rfl) (fun w => by kernel_rfl)) hS ?_
  simp only [Act.put, List.setIfInBounds_toArray, List.set_cons_zero, List.set_cons_succ]
  refine takeAt 5 78 (.int .i64 (ja : Int)) rfl rfl (by kernel_rfl) (by kernel_rfl) (by kernel_rfl) (fun _ _ _ h => h) (loadI_y (ja : Int) (fun u h => (h.cell (p := ⟨w.heap.size, 1, none⟩) hg).trans D1.out) rfl rfl (by rfl)) hS ?_
  simp only [Act.put, List.setIfInBounds_toArray, List.set_cons_zero, List.set_cons_succ]
  refine takeAt 6 79 (.pointer (some ⟨b, o + ja * 12, none⟩)) rfl rfl (by kernel_rfl) (by kernel_rfl) (by kernel_rfl) (fun _ _ _ h => h) (idxN8_y (by omega) rfl rfl rfl (by rfl)) hS ?_
  simp only [Act.put, List.setIfInBounds_toArray, List.set_cons_zero, List.set_cons_succ]
  refine takeAt 7 80 (.pointer (some ⟨b, o + ja * 12, none⟩)) rfl rfl (by kernel_rfl) (by kernel_rfl) (by kernel_rfl) (fun _ _ _ h => h) (yields (by rfl) (fun w => by kernel_rfl)) hS ?_
  simp only [Act.put, List.setIfInBounds_toArray, List.set_cons_zero, List.set_cons_succ]
  refine takeAt 8 81 (.int .i64 (l ja).k) rfl rfl (by kernel_rfl) (by kernel_rfl) (by kernel_rfl) (fun _ _ _ h => h) (loadI_y (l ja).k (fun u h => (h.cell (p := ⟨b, o + ja * 12, none⟩) hbV).trans K1.out) rfl rfl (by rfl)) hS ?_
  simp only [Act.put, List.setIfInBounds_toArray, List.set_cons_zero, List.set_cons_succ]
  refine takeAt 20 93 (ndV (l i)) rfl rfl (by kernel_rfl) (by kernel_rfl) (by kernel_rfl) (fun _ _ _ h => h) (loadR8_y (l i) (fun u h => at12_on HX.out h hg) rfl rfl (by rfl)) hS ?_
  simp only [Act.put, List.setIfInBounds_toArray, List.set_cons_zero, List.set_cons_succ]
  by_cases h8 : 8 ≤ (l ja).k
  · have E8 := Lib.hid (show is8a (l ja).k = decide ((l ja).k ≤ 10) by unfold is8a; by_cases q : (l ja).k ≤ 10 <;> simp [q] <;> omega)
    rw [E8.out] at y1
    refine takeAt 9 82 (.bool true) rfl rfl (by kernel_rfl) (by kernel_rfl) (by kernel_rfl) (fun _ _ _ h => h) (geqI8_y true (decide_eq_true h8) rfl rfl rfl (by rfl)) hS ?_
    simp only [Act.put, List.setIfInBounds_toArray, List.set_cons_zero, List.set_cons_succ]
    refine takeAt 10 83 (.bool true) rfl rfl (by kernel_rfl) (by kernel_rfl) (by kernel_rfl) (fun _ _ _ h => h) (yields (by rfl) (fun w => by kernel_rfl)) hS ?_
    simp only [Act.put, List.setIfInBounds_toArray, List.set_cons_zero, List.set_cons_succ]
    refine takeAt 11 84 (.slice (some ⟨b, o, none⟩) n cap) rfl rfl (by kernel_rfl) (by kernel_rfl) (by kernel_rfl) (fun _ _ _ h => h) (yields (by rfl) (fun w => by kernel_rfl)) hS ?_
    simp only [Act.put, List.setIfInBounds_toArray, List.set_cons_zero, List.set_cons_succ]
    refine takeAt 12 85 (.pointer (some ⟨w.heap.size, 1, none⟩)) rfl rfl (by kernel_rfl) (by kernel_rfl) (by kernel_rfl) (fun _ _ _ h => h) (yields (by rfl) (fun w => by kernel_rfl)) hS ?_
    simp only [Act.put, List.setIfInBounds_toArray, List.set_cons_zero, List.set_cons_succ]
    refine takeAt 13 86 (.int .i64 (ja : Int)) rfl rfl (by kernel_rfl) (by kernel_rfl) (by kernel_rfl) (fun _ _ _ h => h) (loadI_y (ja : Int) (fun u h => (h.cell (p := ⟨w.heap.size, 1, none⟩) hg).trans D1.out) rfl rfl (by rfl)) hS ?_
    simp only [Act.put, List.setIfInBounds_toArray, List.set_cons_zero, List.set_cons_succ]
    refine takeAt 14 87 (.pointer (some ⟨b, o + ja * 12, none⟩)) rfl rfl (by kernel_rfl) (by kernel_rfl) (by kernel_rfl) (fun _ _ _ h => h) (idxN8_y (by omega) rfl rfl rfl (by rfl)) hS ?_
    simp only [Act.put, List.setIfInBounds_toArray, List.set_cons_zero, List.set_cons_succ]
    refine takeAt 15 88 (.pointer (some ⟨b, o + ja * 12, none⟩)) rfl rfl (by kernel_rfl) (by kernel_rfl) (by kernel_rfl) (fun _ _ _ h => h) (yields (by rfl) (fun w => by kernel_rfl)) hS ?_
    simp only [Act.put, List.setIfInBounds_toArray, List.set_cons_zero, List.set_cons_succ]
    refine takeAt 16 89 (.int .i64 (l ja).k) rfl rfl (by kernel_rfl) (by kernel_rfl) (by kernel_rfl) (fun _ _ _ h => h) (loadI_y (l ja).k (fun u h => (h.cell (p := ⟨b, o + ja * 12, none⟩) hbV).trans K1.out) rfl rfl (by rfl)) hS ?_
    simp only [Act.put, List.setIfInBounds_toArray, List.set_cons_zero, List.set_cons_succ]
    refine takeAt 17 90 (.bool (decide ((l ja).k ≤ 10))) rfl rfl (by kernel_rfl) (by kernel_rfl) (by kernel_rfl) (fun _ _ _ h => h) (leqI8_y _ rfl rfl rfl rfl (by rfl)) hS ?_
    simp only [Act.put, List.setIfInBounds_toArray, List.set_cons_zero, List.set_cons_succ]
    refine takeAt 18 91 (.bool (decide ((l ja).k ≤ 10))) rfl rfl (by kernel_rfl) (by kernel_rfl) (by kernel_rfl) (fun _ _ _ h => h) (yields (by rfl) (fun w => by kernel_rfl)) hS ?_
    simp only [Act.put, List.setIfInBounds_toArray, List.set_cons_zero, List.set_cons_succ]
    refine callAt 19 92 rfl rfl (by kernel_rfl) (by rfl) (by kernel_rfl) (W1.out (decide ((l ja).k ≤ 10)) _ (HN.out.below hS (Nat.le_refl _))) ?_
    rintro e v1 ⟨rfl, hb⟩
    have hS := thenB hS hb hS.size
    refine ⟨_, rfl, hS, ?_⟩
    simp only [Act.put, List.setIfInBounds_toArray, List.set_cons_zero, List.set_cons_succ]
    clear hb
    refine callAt 21 94 rfl rfl (by kernel_rfl) (by rfl) (by kernel_rfl) (W2.out _) ?_
    rintro e v2 ⟨rfl, hb⟩
    have hS := thenB hS hb hS.size
    refine ⟨_, rfl, hS, ?_⟩
    simp only [Act.put, List.setIfInBounds_toArray, List.set_cons_zero, List.set_cons_succ]
    clear hb
    refine takeAt 22 95 (.string (inB (decide ((l ja).k ≤ 10)) sa ++ so)) rfl rfl (by kernel_rfl) (by kernel_rfl) (by kernel_rfl) (fun _ _ _ h => h) (catB_y _ _ (by omega) rfl rfl rfl (by rfl)) hS ?_
    simp only [Act.put, List.setIfInBounds_toArray, List.set_cons_zero, List.set_cons_succ]
    refine takeAt 23 4 (.string (inB (decide ((l ja).k ≤ 10)) sa ++ so)) rfl rfl (by kernel_rfl) (by kernel_rfl) (by kernel_rfl) (fun _ _ _ h => h) (yields (by rfl) (fun w => by kernel_rfl)) hS ?_
    simp only [Act.put, List.setIfInBounds_toArray, List.set_cons_zero, List.set_cons_succ]
    refine wpAnyH_done (by kernel_rfl) ?_ _
    go_wp2_with fail
    go_ret
    exact ⟨ret_str (by rw [E8.out]), HB.out.trans (hS.mono HB.out.size)⟩
  · have E8 := Lib.hid (show is8a (l ja).k = false by unfold is8a; exact decide_eq_false (by omega))
    rw [E8.out] at y1
    refine takeAt 9 82 (.bool false) rfl rfl (by kernel_rfl) (by kernel_rfl) (by kernel_rfl) (fun _ _ _ h => h) (geqI8_y false (decide_eq_false h8) rfl rfl rfl (by rfl)) hS ?_
    simp only [Act.put, List.setIfInBounds_toArray, List.set_cons_zero, List.set_cons_succ]
    refine takeAt 10 83 (.bool false) rfl rfl (by kernel_rfl) (by kernel_rfl) (by kernel_rfl) (fun _ _ _ h => h) (yields (by rfl) (fun w => by kernel_rfl)) hS ?_
    simp only [Act.put, List.setIfInBounds_toArray, List.set_cons_zero, List.set_cons_succ]
    refine takeAt 11 84 (undef) rfl rfl (by kernel_rfl) (by kernel_rfl) (by kernel_rfl) (fun _ _ _ h => h) (skipped (by rfl)) hS ?_
    simp only [Act.put, List.setIfInBounds_toArray, List.set_cons_zero, List.set_cons_succ]
    refine takeAt 12 85 (undef) rfl rfl (by kernel_rfl) (by kernel_rfl) (by kernel_rfl) (fun _ _ _ h => h) (skipped (by rfl)) hS ?_
    simp only [Act.put, List.setIfInBounds_toArray, List.set_cons_zero, List.set_cons_succ]
    refine takeAt 13 86 (undef) rfl rfl (by kernel_rfl) (by kernel_rfl) (by kernel_rfl) (fun _ _ _ h => h) (skipped (by rfl)) hS ?_
    simp only [Act.put, List.setIfInBounds_toArray, List.set_cons_zero, List.set_cons_succ]
    refine takeAt 14 87 (undef) rfl rfl (by kernel_rfl) (by kernel_rfl) (by kernel_rfl) (fun _ _ _ h => h) (skipped (by rfl)) hS ?_
    simp only [Act.put, List.setIfInBounds_toArray, List.set_cons_zero, List.set_cons_succ]
    refine takeAt 15 88 (undef) rfl rfl (by kernel_rfl) (by kernel_rfl) (by kernel_rfl) (fun _ _ _ h => h) (skipped (by rfl)) hS ?_
    simp only [Act.put, List.setIfInBounds_toArray, List.set_cons_zero, List.set_cons_succ]
    refine takeAt 16 89 (undef) rfl rfl (by kernel_rfl) (by kernel_rfl) (by kernel_rfl) (fun _ _ _ h => h) (skipped (by rfl)) hS ?_
    simp only [Act.put, List.setIfInBounds_toArray, List.set_cons_zero, List.set_cons_succ]
    refine takeAt 17 90 (undef) rfl rfl (by kernel_rfl) (by kernel_rfl) (by kernel_rfl) (fun _ _ _ h => h) (skipped (by rfl)) hS ?_
    simp only [Act.put, List.setIfInBounds_toArray, List.set_cons_zero, List.set_cons_succ]
    refine takeAt 18 91 (.bool false) rfl rfl (by kernel_rfl) (by kernel_rfl) (by kernel_rfl) (fun _ _ _ h => h) (yields (by rfl) (fun w => by kernel_rfl)) hS ?_
    simp only [Act.put, List.setIfInBounds_toArray, List.set_cons_zero, List.set_cons_succ]
    refine callAt 19 92 rfl rfl (by kernel_rfl) (by rfl) (by kernel_rfl) (W1.out false _ (HN.out.below hS (Nat.le_refl _))) ?_
    rintro e v1 ⟨rfl, hb⟩
    have hS := thenB hS hb hS.size
    refine ⟨_, rfl, hS, ?_⟩
    simp only [Act.put, List.setIfInBounds_toArray, List.set_cons_zero, List.set_cons_succ]
    clear hb
    refine callAt 21 94 rfl rfl (by kernel_rfl) (by rfl) (by kernel_rfl) (W2.out _) ?_
    rintro e v2 ⟨rfl, hb⟩
    have hS := thenB hS hb hS.size
    refine ⟨_, rfl, hS, ?_⟩
    simp only [Act.put, List.setIfInBounds_toArray, List.set_cons_zero, List.set_cons_succ]
    clear hb
    refine takeAt 22 95 (.string (inB false sa ++ so)) rfl rfl (by kernel_rfl) (by kernel_rfl) (by kernel_rfl) (fun _ _ _ h => h) (catB_y _ _ (by omega) rfl rfl rfl (by rfl)) hS ?_
    simp only [Act.put, List.setIfInBounds_toArray, List.set_cons_zero, List.set_cons_succ]
    refine takeAt 23 4 (.string (inB false sa ++ so)) rfl rfl (by kernel_rfl) (by kernel_rfl) (by kernel_rfl) (fun _ _ _ h => h) (yields (by rfl) (fun w => by kernel_rfl)) hS ?_
    simp only [Act.put, List.setIfInBounds_toArray, List.set_cons_zero, List.set_cons_succ]
    refine wpAnyH_done (by kernel_rfl) ?_ _
    go_wp2_with fail
    go_ret
    exact ⟨ret_str (by rw [E8.out]), HB.out.trans (hS.mono HB.out.size)⟩
end Go.Proofs.YtfejdengpnikeaaGreatDoor
