/-
  Layer 9, the document's answer: Out, and the facts as the document's.
-/
import Derived.Test.YtkpijnodhlonfaaGreatDoorFacRefA
import Derived.Test.YtkpijnodhlonfaaGreatDoorFacC
import Derived.Test.YtkpijnodhlonfaaGreatDoorFacStrK
import Derived.Test.YtkpijnodhlonfaaGreatDoorRefM
namespace Go.Proofs.YtkpijnodhlonfaaGreatDoor
open Go.RowKit

section
variable {ops : Array Oper} {R : World → Prop} {a : Act} {o : Oper} {x y : Operand}
theorem idxN9_y (s : ByteArray) (k : Nat) (h : k < s.size) (ho : o.op = .index 9 x y) (hx : a.eval x = .string s) (hy : a.eval y = .int .i64 (k : Int)) (hw : Region.wanted o (yielded ops a.tmps) = true) : YieldsIf Tryz.prog ops R o (.int .u8 (bt s k : Nat)) a := by
  refine Or.inl ⟨hw, fun w _ => ?_⟩
  have e := bt_at h
  have h1 : (k : Int) < (s.size : Int) := by omega
  unfold execOp
  simp only [ho, hx, hy]
  rw [e]
  simp [go_sem, h1]
theorem convB9_y (m : Nat) (ho : o.op = .convert 5 3 x) (hx : a.eval x = .int .u8 (m : Int)) (hm : m < 256) (hw : Region.wanted o (yielded ops a.tmps) = true) : YieldsIf Tryz.prog ops R o (.int .i64 (m : Int)) a := by
  refine Or.inl ⟨hw, fun w _ => ?_⟩
  unfold execOp
  simp only [ho, hx]
  simp [go_sem]
  rw [IntKind.wrap_i64]
  omega
theorem idxA9_y (g m : Nat) (hm : m < 256) (ho : o.op = .indexAddr 35 x y) (hx : a.eval x = .pointer (some ⟨g, 0, none⟩)) (hy : a.eval y = .int .i64 (m : Int)) (hw : Region.wanted o (yielded ops a.tmps) = true) : YieldsIf Tryz.prog ops R o (.pointer (some ⟨g, m, none⟩)) a := by
  refine Or.inl ⟨hw, fun w _ => ?_⟩
  have k0 : (0 : Int) ≤ m := by omega
  have k1 : (m : Int) < 256 := by omega
  unfold execOp
  simp only [ho, hx, hy]
  go_simp
theorem eqlI9_y {m n : Int} (b : Bool) (h : (m == n) = b) (ho : o.op = .binOp .eql 3 x y 3) (hx : a.eval x = .int .i64 m) (hy : a.eval y = .int .i64 n) (hw : Region.wanted o (yielded ops a.tmps) = true) : YieldsIf Tryz.prog ops R o (.bool b) a := by
  refine Or.inl ⟨hw, fun w _ => ?_⟩
  unfold execOp
  simp only [ho, hx, hy]
  go_simp
theorem lss9_y (m n : Int) (b : Bool) (h : decide (m < n) = b) (ho : o.op = .binOp .lss 3 x y 3) (hx : a.eval x = .int .i64 m) (hy : a.eval y = .int .i64 n) (hw : Region.wanted o (yielded ops a.tmps) = true) : YieldsIf Tryz.prog ops R o (.bool b) a := by
  refine Or.inl ⟨hw, fun w _ => ?_⟩
  unfold execOp
  simp only [ho, hx, hy]
  go_simp
theorem sub9_y (m n : Int) (h0 : 0 ≤ m - n) (h1 : m - n ≤ 1000000) (ho : o.op = .binOp .sub 3 x y 3) (hx : a.eval x = .int .i64 m) (hy : a.eval y = .int .i64 n) (hw : Region.wanted o (yielded ops a.tmps) = true) : YieldsIf Tryz.prog ops R o (.int .i64 (m - n)) a := by
  refine Or.inl ⟨hw, fun w _ => ?_⟩
  unfold execOp
  simp only [ho, hx, hy]
  go_simp
  rw [IntKind.wrap_i64]
  omega
theorem sliceIn9_y (s : ByteArray) (i j : Nat) {p q : Nat} (hij : i ≤ j) (hj : j ≤ s.size) {z : Int} (hz : z = (j : Int)) (ho : o.op = .slice 9 x (some (.tmp p)) (some (.tmp q)) none) (hx : a.eval x = .string s) (hp : a.tmps[p]?.getD undef = .int .i64 (i : Int)) (hq : a.tmps[q]?.getD undef = .int .i64 z) (hw : Region.wanted o (yielded ops a.tmps) = true) : YieldsIf Tryz.prog ops R o (.string (s.extract i j)) a := by
  subst hz
  refine Or.inl ⟨hw, fun w _ => ?_⟩
  have q0 : (0 : Int) ≤ (i : Int) := by omega
  have q1 : (i : Int) ≤ (j : Int) := by omega
  have q2 : (j : Int) ≤ (s.size : Int) := by omega
  have q3 : ¬ (s.size : Int) < (j : Int) := by omega
  have q4 : ¬ (j : Int) < (i : Int) := by omega
  unfold execOp
  simp only [ho, hx]
  go_simp
theorem neqS9_y (s t : ByteArray) (b : Bool) (hb : (s.toList == t.toList) = !b) (ho : o.op = .binOp .neq 9 x y 9) (hx : a.eval x = .string s) (hy : a.eval y = .string t) (hw : Region.wanted o (yielded ops a.tmps) = true) : YieldsIf Tryz.prog ops R o (.bool b) a := by
  refine Or.inl ⟨hw, fun w _ => ?_⟩
  unfold execOp
  simp only [ho, hx, hy]
  simp [go_sem, hb]
theorem buildRK_y {x0 x1 x2 x3 : Operand} (S : BitVec 256) (b c : Bool) (s : ByteArray) (d : Bool) (K : FK) (hK : (⟨S, b, c, s, d⟩ : FK) = K) (ho : o.op = .build 39 #[(0, x0), (1, x1), (2, x2), (3, x3)]) (h0 : a.eval x0 = .agg (bitsA S)) (h1 : a.eval x1 = .bool b) (h2 : a.eval x2 = .bool c) (h3 : a.eval x3 = .string s) (hw : Region.wanted o (yielded ops a.tmps) = true) : YieldsIf Tryz.prog ops R o (.agg (rfC K)) a := by
  subst hK
  refine Or.inl ⟨hw, fun u _ => ?_⟩
  have h := buildRf S b c s u
  have e : rfC ⟨S, b, c, s, d⟩ = rfC ⟨S, b, c, s, false⟩ := by unfold rfC; rfl
  rw [e]
  unfold execOp
  simp only [ho, List.map_toArray, List.map_cons, List.map_nil, h0, h1, h2, h3, Sem.run_bind, h, Result.andThen_ok, Sem.run_pure]
theorem loadW9_y (g : Nat) (k : FK) (hR : ∀ u, R u → BoxF u g k) (ho : o.op = .load 27 x) (hx : a.eval x = .pointer (some ⟨g, 0, none⟩)) (hw : Region.wanted o (yielded ops a.tmps) = true) : YieldsIf Tryz.prog ops R o (setV k.F) a := by
  refine Or.inl ⟨hw, fun u h => ?_⟩
  have c0 : u.cell? ⟨g, 0, none⟩ = some (.int .u64 (W k.F 0 : Nat)) := BoxV.get (hR u h) 0 rfl
  have c1 : u.cell? ⟨g, 1, none⟩ = some (.int .u64 (W k.F 1 : Nat)) := BoxV.get (hR u h) 1 rfl
  have c2 : u.cell? ⟨g, 2, none⟩ = some (.int .u64 (W k.F 2 : Nat)) := BoxV.get (hR u h) 2 rfl
  have c3 : u.cell? ⟨g, 3, none⟩ = some (.int .u64 (W k.F 3 : Nat)) := BoxV.get (hR u h) 3 rfl
  unfold execOp
  simp only [ho, hx]
  simp [go_sem, c0, c1, c2, c3]
theorem putRf_run {w : World} {g : Nat} {K k' : FK} (hg : BoxR w g k') (ho : o.op = .store 39 x y) (hx : a.eval x = .pointer (some ⟨g, 0, none⟩)) (hy : a.eval y = .agg (rfC K)) : (execOp a.eval o).run Tryz.prog w = .ok .skip (w.setRow g (rfC K)) := by
  unfold execOp
  simp only [ho, hx, hy, Instr.storeAt, Instr.sureAddr, Sem.run_bind, Sem.run_pure, Result.andThen_ok, run_storeVar_row w g _ 39 _ _ hg (by rw [rfC_size]; exact sizeRf) (by rw [rfC_size, rfC_size]) (rfC_one K)]
end
theorem resR1 {fn : Func} {p : Tmp} {k : FK} (h : fn.results = #[.cell p 39]) (tmps : Array Value) {w : World} {g : Nat} (hp : tmps.getD p undef = .pointer (some ⟨g, 0, none⟩)) (hg : BoxR w g k) :
    (results fn tmps).run Tryz.prog w = .ok (.agg (rfC k)) w := by
  have hp' : tmps[p]?.getD undef = .pointer (some ⟨g, 0, none⟩) := by simpa using hp
  have hl := run_loadVar_row w g 39 39 (rfC k) (0, 0) _ hg Tryz.underlying39 rfl (by rw [rfC_size]; exact sizeRf)
  simp [results, h, hp', asAddr, hl]
theorem BoxF.c4r {w : World} {g : Nat} {k : FK} (h : BoxF w g k) : w.cell? ⟨g, 4, none⟩ = some (.bool k.op) := BoxV.get h 4 rfl
set_option maxRecDepth 100000 in
set_option maxHeartbeats 8000000 in
theorem rref_any (k : FK) (w : World) : Calls Tryz.prog 13 #[.agg (facC k)] w fun e w' => e = .returned (.agg (rfC k)) ∧ Below w.heap.size w w' := by
  have HO := Lib.hid (fun w => rof_any k.F w)
  have hS : (fun u => Below w.heap.size w u ∧ BoxF u w.heap.size k ∧ ∃ z, BoxR u (w.heap.size + 1) z) ((w.alloc (.cells (facC k) 31)).alloc (.cells (rfC zrK) 39)) := ⟨by go_grown, (BoxV.new _ _).alloc _, _, BoxV.new2 _ _ _⟩
  have HS := Lib.hid hS
  clear hS
  go_enter Tryz.func13, Tryz.ntmps13
  go_wp2_with fail
  refine wp_region_held_drew (S := fun u => Below w.heap.size w u ∧ BoxF u w.heap.size k ∧ ∃ z, BoxR u (w.heap.size + 1) z) (by kernel_rfl) (show _ from ⟨HS.out.1.trans ((Below.refl _ _).drew.mono HS.out.1.size), HS.out.2.1.drew, HS.out.2.2.imp fun _ h => h.drew⟩) (fun hS => ?_)
  clear HS
  generalize World.drew _ = v0 at hS ⊢
  refine takeAt 0 3 (.pointer (some ⟨w.heap.size, 0, none⟩)) rfl rfl (by kernel_rfl) (by kernel_rfl) (by kernel_rfl) (fun _ _ _ h => h) (yields (by rfl) (fun w => by kernel_rfl)) hS ?_
  simp only [Act.put, List.setIfInBounds_toArray, List.set_cons_zero, List.set_cons_succ]
  refine takeAt 1 4 (.pointer (some ⟨w.heap.size, 0, none⟩)) rfl rfl (by kernel_rfl) (by kernel_rfl) (by kernel_rfl) (fun _ _ _ h => h) (yields (by rfl) (fun w => by kernel_rfl)) hS ?_
  simp only [Act.put, List.setIfInBounds_toArray, List.set_cons_zero, List.set_cons_succ]
  refine takeAt 2 5 (setV k.F) rfl rfl (by kernel_rfl) (by kernel_rfl) (by kernel_rfl) (fun _ _ _ h => h) (loadW9_y w.heap.size k (fun _ h => h.2.1) rfl rfl (by rfl)) hS ?_
  simp only [Act.put, List.setIfInBounds_toArray, List.set_cons_zero, List.set_cons_succ]
  refine takeAt 4 7 (.pointer (some ⟨w.heap.size, 4, none⟩)) rfl rfl (by kernel_rfl) (by kernel_rfl) (by kernel_rfl) (fun _ _ _ h => h) (yields (by rfl) (fun w => by kernel_rfl)) hS ?_
  simp only [Act.put, List.setIfInBounds_toArray, List.set_cons_zero, List.set_cons_succ]
  refine takeAt 5 8 (.bool k.op) rfl rfl (by kernel_rfl) (by kernel_rfl) (by kernel_rfl) (fun _ _ _ h => h) (loadB9_y w.heap.size 4 k.op (fun _ h => BoxF.c4r h.2.1) rfl rfl (by rfl)) hS ?_
  simp only [Act.put, List.setIfInBounds_toArray, List.set_cons_zero, List.set_cons_succ]
  refine takeAt 6 9 (.pointer (some ⟨w.heap.size, 5, none⟩)) rfl rfl (by kernel_rfl) (by kernel_rfl) (by kernel_rfl) (fun _ _ _ h => h) (yields (by rfl) (fun w => by kernel_rfl)) hS ?_
  simp only [Act.put, List.setIfInBounds_toArray, List.set_cons_zero, List.set_cons_succ]
  refine takeAt 7 10 (.bool k.fa) rfl rfl (by kernel_rfl) (by kernel_rfl) (by kernel_rfl) (fun _ _ _ h => h) (loadB9_y w.heap.size 5 k.fa (fun _ h => BoxF.c5 h.2.1) rfl rfl (by rfl)) hS ?_
  simp only [Act.put, List.setIfInBounds_toArray, List.set_cons_zero, List.set_cons_succ]
  refine takeAt 8 11 (.pointer (some ⟨w.heap.size, 6, none⟩)) rfl rfl (by kernel_rfl) (by kernel_rfl) (by kernel_rfl) (fun _ _ _ h => h) (yields (by rfl) (fun w => by kernel_rfl)) hS ?_
  simp only [Act.put, List.setIfInBounds_toArray, List.set_cons_zero, List.set_cons_succ]
  refine takeAt 9 12 (.string k.pr) rfl rfl (by kernel_rfl) (by kernel_rfl) (by kernel_rfl) (fun _ _ _ h => h) (loadP9_y w.heap.size 6 k.pr (fun _ h => BoxF.c6 h.2.1) rfl rfl (by rfl)) hS ?_
  simp only [Act.put, List.setIfInBounds_toArray, List.set_cons_zero, List.set_cons_succ]
  refine callAt 3 6 rfl rfl (by kernel_rfl) (by rfl) (by kernel_rfl) (HO.out _) ?_
  rintro e v1 ⟨rfl, hb⟩
  have hS := And.intro (thenB hS.1 hb hS.1.size) (And.intro (hS.2.1.below hb hS.2.1.lt) (hS.2.2.imp fun _ h => h.below hb h.lt))
  clear hb
  refine ⟨_, rfl, hS, ?_⟩
  simp only [Act.put, List.setIfInBounds_toArray, List.set_cons_zero, List.set_cons_succ]
  refine takeAt 10 13 (.agg (rfC k)) rfl rfl (by kernel_rfl) (by kernel_rfl) (by kernel_rfl) (fun _ _ _ h => h) (buildRK_y k.F k.op k.fa k.pr k.wh k rfl rfl rfl rfl rfl rfl (by rfl)) hS ?_
  simp only [Act.put, List.setIfInBounds_toArray, List.set_cons_zero, List.set_cons_succ]
  obtain ⟨h1, h2, zz, h3⟩ := hS
  refine skipAt 11 (v1.setRow (w.heap.size + 1) (rfC k)) rfl rfl (by kernel_rfl) (by rfl) (putRf_run h3 rfl rfl rfl) ⟨h1.trans ⟨rfl, rfl, rfl, by simp, fun j hj => setRow_other v1 (w.heap.size + 1) j _ (by omega)⟩, (setRow_other v1 (w.heap.size + 1) w.heap.size _ (by omega)).trans h2, k, setRow_heap v1 (w.heap.size + 1) _ _ _ _ h3⟩ ?_
  refine wpAnyH_done (by kernel_rfl) ?_ _
  go_wp2
  refine bodyPost_ret (resR1 (p := 2) rfl _ (g := w.heap.size + 1) rfl (setRow_heap v1 (w.heap.size + 1) _ _ _ _ h3)) rfl ⟨rfl, ?_⟩
  exact h1.trans ⟨rfl, rfl, rfl, by simp, fun j hj => setRow_other v1 (w.heap.size + 1) j _ (by omega)⟩
theorem start_fit {s p : ByteArray} {a : Nat} (h : a ≤ s.size) (h2 : p.size ≤ s.size - a) : startB s a p = ((s.extract a (a + p.size)).toList == p.toList) := by
  unfold startB
  rw [decide_eq_true h, decide_eq_true h2]
  rfl
theorem start_short {s p : ByteArray} {a : Nat} (h2 : s.size - a < p.size) : startB s a p = false := by
  unfold startB
  rw [decide_eq_false (by omega : ¬ p.size ≤ s.size - a)]
  simp
set_option maxRecDepth 100000 in
set_option maxHeartbeats 8000000 in
theorem rout_low (k : FK) (s : ByteArray) (z : Int) (hz : z < 0) (w : World) (_hs : s.size ≤ 1000000) :
    Calls Tryz.prog 16 #[.agg (rfC k), .string s, .int .i64 z] w fun e w' => e = .returned (.bool (false)) ∧ Below w.heap.size w w' := by
  go_enter Tryz.func16, Tryz.ntmps16
  go_wp2
  go_ret
  exact ⟨rfl, by go_grown⟩
set_option maxRecDepth 100000 in
set_option maxHeartbeats 8000000 in
theorem rout_high (k : FK) (s : ByteArray) (z : Int) (hz : ¬ z < 0) (hz2 : (s.size : Int) < z) (w : World) (_hs : s.size ≤ 1000000) :
    Calls Tryz.prog 16 #[.agg (rfC k), .string s, .int .i64 z] w fun e w' => e = .returned (.bool (false)) ∧ Below w.heap.size w w' := by
  go_enter Tryz.func16, Tryz.ntmps16
  go_wp2
  go_ret
  exact ⟨rfl, by go_grown⟩
set_option maxRecDepth 100000 in
set_option maxHeartbeats 8000000 in
theorem rout_end (k : FK) (s : ByteArray) (a : Nat) (ha : a ≤ s.size) (hop : k.op = false) (h1 : a = s.size) (w : World) (hs : s.size ≤ 1000000) :
    Calls Tryz.prog 16 #[.agg (rfC k), .string s, .int .i64 (a : Int)] w fun e w' => e = .returned (.bool (true)) ∧ Below w.heap.size w w' := by
  subst h1
  have _u := And.intro ha hs
  clear _u
  have hS : (fun u => Below w.heap.size w u ∧ BoxR u w.heap.size k) (w.alloc (.cells (rfC k) 39)) := ⟨by go_grown, BoxV.new _ _⟩
  have z0 : ¬ (s.size : Int) < 0 := by omega
  have z1 : ¬ (s.size : Int) < (s.size : Int) := by omega
  go_enter Tryz.func16, Tryz.ntmps16
  have c1 := (BoxR.op hS.2).trans (by rw [hop])
  have HB := Lib.hid hS.1
  clear hS
  go_wp2
  go_ret
  exact ⟨rfl, HB.out⟩
set_option maxRecDepth 100000 in
set_option maxHeartbeats 8000000 in
theorem rout_not (k : FK) (s : ByteArray) (a : Nat) (ha : a ≤ s.size) (hop : k.op = false) (h1 : a < s.size) (h2 : mem k.F (bt s a) = false) (w : World) (hs : s.size ≤ 1000000) :
    Calls Tryz.prog 16 #[.agg (rfC k), .string s, .int .i64 (a : Int)] w fun e w' => e = .returned (.bool (true)) ∧ Below w.heap.size w w' := by
  have _u := And.intro ha hs
  clear _u
  have hS : (fun u => Below w.heap.size w u ∧ BoxR u w.heap.size k) (w.alloc (.cells (rfC k) 39)) := ⟨by go_grown, BoxV.new _ _⟩
  have z0 : ¬ (a : Int) < 0 := by omega
  have z1 : ¬ (s.size : Int) < (a : Int) := by omega
  have hbl : bt s a < 256 := bt_lt h1
  go_enter Tryz.func16, Tryz.ntmps16
  go_wp2_with (refine lineY (S := fun u => Below w.heap.size w u ∧ BoxR u w.heap.size k) (.pointer (some ⟨w.heap.size, 256, none⟩)) (addr9_y 39 (.tmp 3) 1 _ rfl (fun w => by kernel_rfl) (by rfl)) hS ?_; refine StopS.out ?_)
  refine ⟨?_⟩
  try simp only [Act.put, List.setIfInBounds_toArray, List.set_cons_zero, List.set_cons_succ]
  refine lineY (S := fun u => Below w.heap.size w u ∧ BoxR u w.heap.size k) (.bool false) (loadB9_y w.heap.size 256 false (fun _ h => by rw [BoxR.op h.2, hop]) rfl rfl (by rfl)) hS ?_
  simp only [Act.put, List.setIfInBounds_toArray, List.set_cons_zero, List.set_cons_succ]
  refine lineY (S := fun u => Below w.heap.size w u ∧ BoxR u w.heap.size k) (.bool true) (yields (by rfl) (fun w => by kernel_rfl)) hS ?_
  simp only [Act.put, List.setIfInBounds_toArray, List.set_cons_zero, List.set_cons_succ]
  refine lineY (S := fun u => Below w.heap.size w u ∧ BoxR u w.heap.size k) (.bool true) (yields (by rfl) (fun w => by kernel_rfl)) hS ?_
  simp only [Act.put, List.setIfInBounds_toArray, List.set_cons_zero, List.set_cons_succ]
  refine lineY (S := fun u => Below w.heap.size w u ∧ BoxR u w.heap.size k) (.int .i64 (a : Int)) (yields (by rfl) (fun w => by kernel_rfl)) hS ?_
  simp only [Act.put, List.setIfInBounds_toArray, List.set_cons_zero, List.set_cons_succ]
  refine lineY (S := fun u => Below w.heap.size w u ∧ BoxR u w.heap.size k) (.string s) (yields (by rfl) (fun w => by kernel_rfl)) hS ?_
  simp only [Act.put, List.setIfInBounds_toArray, List.set_cons_zero, List.set_cons_succ]
  refine lineY (S := fun u => Below w.heap.size w u ∧ BoxR u w.heap.size k) (.int .i64 (s.size : Int)) (len9_y s rfl rfl (by rfl)) hS ?_
  simp only [Act.put, List.setIfInBounds_toArray, List.set_cons_zero, List.set_cons_succ]
  refine lineY (S := fun u => Below w.heap.size w u ∧ BoxR u w.heap.size k) (.bool false) (eqlI9_y false (beq_eq_false_iff_ne.2 (by omega)) rfl rfl rfl (by rfl)) hS ?_
  simp only [Act.put, List.setIfInBounds_toArray, List.set_cons_zero, List.set_cons_succ]
  refine lineY (S := fun u => Below w.heap.size w u ∧ BoxR u w.heap.size k) (.bool false) (yields (by rfl) (fun w => by kernel_rfl)) hS ?_
  simp only [Act.put, List.setIfInBounds_toArray, List.set_cons_zero, List.set_cons_succ]
  refine lineY (S := fun u => Below w.heap.size w u ∧ BoxR u w.heap.size k) (.string s) (yields (by rfl) (fun w => by kernel_rfl)) hS ?_
  simp only [Act.put, List.setIfInBounds_toArray, List.set_cons_zero, List.set_cons_succ]
  refine lineY (S := fun u => Below w.heap.size w u ∧ BoxR u w.heap.size k) (.int .i64 (a : Int)) (yields (by rfl) (fun w => by kernel_rfl)) hS ?_
  simp only [Act.put, List.setIfInBounds_toArray, List.set_cons_zero, List.set_cons_succ]
  refine lineY (S := fun u => Below w.heap.size w u ∧ BoxR u w.heap.size k) (.int .u8 (bt s a : Nat)) (idxN9_y s a h1 rfl rfl rfl (by rfl)) hS ?_
  simp only [Act.put, List.setIfInBounds_toArray, List.set_cons_zero, List.set_cons_succ]
  refine lineY (S := fun u => Below w.heap.size w u ∧ BoxR u w.heap.size k) (.int .i64 (bt s a : Nat)) (convB9_y (bt s a) rfl rfl hbl (by rfl)) hS ?_
  simp only [Act.put, List.setIfInBounds_toArray, List.set_cons_zero, List.set_cons_succ]
  refine lineY (S := fun u => Below w.heap.size w u ∧ BoxR u w.heap.size k) (.pointer (some ⟨w.heap.size, 0, none⟩)) (yields (by rfl) (fun w => by kernel_rfl)) hS ?_
  simp only [Act.put, List.setIfInBounds_toArray, List.set_cons_zero, List.set_cons_succ]
  refine lineY (S := fun u => Below w.heap.size w u ∧ BoxR u w.heap.size k) (.pointer (some ⟨w.heap.size, 0, none⟩)) (yields (by rfl) (fun w => by kernel_rfl)) hS ?_
  simp only [Act.put, List.setIfInBounds_toArray, List.set_cons_zero, List.set_cons_succ]
  refine lineY (S := fun u => Below w.heap.size w u ∧ BoxR u w.heap.size k) (.pointer (some ⟨w.heap.size, bt s a, none⟩)) (idxA9_y w.heap.size (bt s a) hbl rfl rfl rfl (by rfl)) hS ?_
  simp only [Act.put, List.setIfInBounds_toArray, List.set_cons_zero, List.set_cons_succ]
  refine lineY (S := fun u => Below w.heap.size w u ∧ BoxR u w.heap.size k) (.bool false) (loadB9_y w.heap.size (bt s a) false (fun _ h => (cell_of_row _ _ _ _ _ _ h.2).trans ((rfC_bit k _ hbl).trans (by rw [h2]))) rfl rfl (by rfl)) hS ?_
  simp only [Act.put, List.setIfInBounds_toArray, List.set_cons_zero, List.set_cons_succ]
  refine lineY (S := fun u => Below w.heap.size w u ∧ BoxR u w.heap.size k) (.bool true) (yields (by rfl) (fun w => by kernel_rfl)) hS ?_
  simp only [Act.put, List.setIfInBounds_toArray, List.set_cons_zero, List.set_cons_succ]
  refine lineY (S := fun u => Below w.heap.size w u ∧ BoxR u w.heap.size k) (.bool true) (yields (by rfl) (fun w => by kernel_rfl)) hS ?_
  simp only [Act.put, List.setIfInBounds_toArray, List.set_cons_zero, List.set_cons_succ]
  refine lineY (S := fun u => Below w.heap.size w u ∧ BoxR u w.heap.size k) (.bool true) (yields (by rfl) (fun w => by kernel_rfl)) hS ?_
  simp only [Act.put, List.setIfInBounds_toArray, List.set_cons_zero, List.set_cons_succ]
  have HB := Lib.hid hS.1
  clear hS
  go_wp2
  go_ret
  exact ⟨rfl, HB.out⟩
set_option maxRecDepth 100000 in
set_option maxHeartbeats 8000000 in
theorem rout_o1 (k : FK) (s : ByteArray) (a : Nat) (ha : a ≤ s.size) (hop : k.op = true) (hfa : k.fa = true) (h3 : 0 < a) (w : World) (hs : s.size ≤ 1000000) :
    Calls Tryz.prog 16 #[.agg (rfC k), .string s, .int .i64 (a : Int)] w fun e w' => e = .returned (.bool (true)) ∧ Below w.heap.size w w' := by
  have _u := And.intro ha hs
  clear _u
  have hS : (fun u => Below w.heap.size w u ∧ BoxR u w.heap.size k) (w.alloc (.cells (rfC k) 39)) := ⟨by go_grown, BoxV.new _ _⟩
  have z0 : ¬ (a : Int) < 0 := by omega
  have z1 : ¬ (s.size : Int) < (a : Int) := by omega
  have zp : (0 : Int) < (a : Int) := by omega
  go_enter Tryz.func16, Tryz.ntmps16
  have c1 := (BoxR.op hS.2).trans (by rw [hop])
  have c2 := (BoxR.fa hS.2).trans (by rw [hfa])
  have HB := Lib.hid hS.1
  clear hS
  go_wp2
  go_ret
  exact ⟨rfl, HB.out⟩
set_option maxRecDepth 100000 in
set_option maxHeartbeats 8000000 in
theorem rout_o2 (k : FK) (s : ByteArray) (a : Nat) (ha : a ≤ s.size) (hop : k.op = true) (hfa : k.fa = true) (h3 : a = 0) (h4 : s.size - a < k.pr.size) (w : World) (hs : s.size ≤ 1000000) :
    Calls Tryz.prog 16 #[.agg (rfC k), .string s, .int .i64 (a : Int)] w fun e w' => e = .returned (.bool (true)) ∧ Below w.heap.size w w' := by
  have _u := And.intro ha hs
  clear _u
  have hS : (fun u => Below w.heap.size w u ∧ BoxR u w.heap.size k) (w.alloc (.cells (rfC k) 39)) := ⟨by go_grown, BoxV.new _ _⟩
  have z0 : ¬ (a : Int) < 0 := by omega
  have z1 : ¬ (s.size : Int) < (a : Int) := by omega
  have zp : ¬ (0 : Int) < (a : Int) := by omega
  replace h3 := Lib.hid h3
  go_enter Tryz.func16, Tryz.ntmps16
  have c1 := (BoxR.op hS.2).trans (by rw [hop])
  have c2 := (BoxR.fa hS.2).trans (by rw [hfa])
  have HB := Lib.hid hS.1
  have HX := Lib.hid hS.2
  clear hS
  go_wp2_with fail
  refine wp_region_held_drew (S := fun u => Below w.heap.size w u ∧ BoxR u w.heap.size k) (by kernel_rfl) (show _ from ⟨HB.out.trans ((Below.refl _ _).drew.mono HB.out.size), HX.out.drew⟩) (fun hS => ?_)
  clear HX HB
  generalize World.drew _ = v0 at hS ⊢
  refine takeAt 0 41 (.string s) rfl rfl (by kernel_rfl) (by kernel_rfl) (by kernel_rfl) (fun _ _ _ h => h) (yields (by rfl) (fun w => by kernel_rfl)) hS ?_
  simp only [Act.put, List.setIfInBounds_toArray, List.set_cons_zero, List.set_cons_succ]
  refine takeAt 1 42 (.int .i64 (s.size : Int)) rfl rfl (by kernel_rfl) (by kernel_rfl) (by kernel_rfl) (fun _ _ _ h => h) (len9_y s rfl rfl (by rfl)) hS ?_
  simp only [Act.put, List.setIfInBounds_toArray, List.set_cons_zero, List.set_cons_succ]
  refine takeAt 2 43 (.int .i64 (a : Int)) rfl rfl (by kernel_rfl) (by kernel_rfl) (by kernel_rfl) (fun _ _ _ h => h) (yields (by rfl) (fun w => by kernel_rfl)) hS ?_
  simp only [Act.put, List.setIfInBounds_toArray, List.set_cons_zero, List.set_cons_succ]
  refine takeAt 3 44 (.int .i64 ((s.size : Int) - (a : Int))) rfl rfl (by kernel_rfl) (by kernel_rfl) (by kernel_rfl) (fun _ _ _ h => h) (sub9_y (s.size : Int) (a : Int) (by omega) (by omega) rfl rfl rfl (by rfl)) hS ?_
  simp only [Act.put, List.setIfInBounds_toArray, List.set_cons_zero, List.set_cons_succ]
  refine takeAt 4 45 (.pointer (some ⟨w.heap.size, 258, none⟩)) rfl rfl (by kernel_rfl) (by kernel_rfl) (by kernel_rfl) (fun _ _ _ h => h) (yields (by rfl) (fun w => by kernel_rfl)) hS ?_
  simp only [Act.put, List.setIfInBounds_toArray, List.set_cons_zero, List.set_cons_succ]
  refine takeAt 5 46 (.string k.pr) rfl rfl (by kernel_rfl) (by kernel_rfl) (by kernel_rfl) (fun _ _ _ h => h) (loadP9_y w.heap.size 258 k.pr (fun _ h => BoxR.pr h.2) rfl rfl (by rfl)) hS ?_
  simp only [Act.put, List.setIfInBounds_toArray, List.set_cons_zero, List.set_cons_succ]
  refine takeAt 6 47 (.int .i64 (k.pr.size : Int)) rfl rfl (by kernel_rfl) (by kernel_rfl) (by kernel_rfl) (fun _ _ _ h => h) (len9_y k.pr rfl rfl (by rfl)) hS ?_
  simp only [Act.put, List.setIfInBounds_toArray, List.set_cons_zero, List.set_cons_succ]
  refine takeAt 7 48 (.bool true) rfl rfl (by kernel_rfl) (by kernel_rfl) (by kernel_rfl) (fun _ _ _ h => h) (lss9_y ((s.size : Int) - (a : Int)) (k.pr.size : Int) true (decide_eq_true (by omega)) rfl rfl rfl (by rfl)) hS ?_
  simp only [Act.put, List.setIfInBounds_toArray, List.set_cons_zero, List.set_cons_succ]
  refine takeAt 8 49 (.bool true) rfl rfl (by kernel_rfl) (by kernel_rfl) (by kernel_rfl) (fun _ _ _ h => h) (yields (by rfl) (fun w => by kernel_rfl)) hS ?_
  simp only [Act.put, List.setIfInBounds_toArray, List.set_cons_zero, List.set_cons_succ]
  refine takeAt 9 50 (undef) rfl rfl (by kernel_rfl) (by kernel_rfl) (by kernel_rfl) (fun _ _ _ h => h) (skipped (by rfl)) hS ?_
  simp only [Act.put, List.setIfInBounds_toArray, List.set_cons_zero, List.set_cons_succ]
  refine takeAt 10 51 (undef) rfl rfl (by kernel_rfl) (by kernel_rfl) (by kernel_rfl) (fun _ _ _ h => h) (skipped (by rfl)) hS ?_
  simp only [Act.put, List.setIfInBounds_toArray, List.set_cons_zero, List.set_cons_succ]
  refine takeAt 11 52 (undef) rfl rfl (by kernel_rfl) (by kernel_rfl) (by kernel_rfl) (fun _ _ _ h => h) (skipped (by rfl)) hS ?_
  simp only [Act.put, List.setIfInBounds_toArray, List.set_cons_zero, List.set_cons_succ]
  refine takeAt 12 53 (undef) rfl rfl (by kernel_rfl) (by kernel_rfl) (by kernel_rfl) (fun _ _ _ h => h) (skipped (by rfl)) hS ?_
  simp only [Act.put, List.setIfInBounds_toArray, List.set_cons_zero, List.set_cons_succ]
  refine takeAt 13 54 (undef) rfl rfl (by kernel_rfl) (by kernel_rfl) (by kernel_rfl) (fun _ _ _ h => h) (skipped (by rfl)) hS ?_
  simp only [Act.put, List.setIfInBounds_toArray, List.set_cons_zero, List.set_cons_succ]
  refine takeAt 14 55 (undef) rfl rfl (by kernel_rfl) (by kernel_rfl) (by kernel_rfl) (fun _ _ _ h => h) (skipped (by rfl)) hS ?_
  simp only [Act.put, List.setIfInBounds_toArray, List.set_cons_zero, List.set_cons_succ]
  refine takeAt 15 56 (undef) rfl rfl (by kernel_rfl) (by kernel_rfl) (by kernel_rfl) (fun _ _ _ h => h) (skipped (by rfl)) hS ?_
  simp only [Act.put, List.setIfInBounds_toArray, List.set_cons_zero, List.set_cons_succ]
  refine takeAt 16 57 (undef) rfl rfl (by kernel_rfl) (by kernel_rfl) (by kernel_rfl) (fun _ _ _ h => h) (skipped (by rfl)) hS ?_
  simp only [Act.put, List.setIfInBounds_toArray, List.set_cons_zero, List.set_cons_succ]
  refine takeAt 17 58 (undef) rfl rfl (by kernel_rfl) (by kernel_rfl) (by kernel_rfl) (fun _ _ _ h => h) (skipped (by rfl)) hS ?_
  simp only [Act.put, List.setIfInBounds_toArray, List.set_cons_zero, List.set_cons_succ]
  refine takeAt 18 59 (undef) rfl rfl (by kernel_rfl) (by kernel_rfl) (by kernel_rfl) (fun _ _ _ h => h) (skipped (by rfl)) hS ?_
  simp only [Act.put, List.setIfInBounds_toArray, List.set_cons_zero, List.set_cons_succ]
  refine takeAt 19 60 (undef) rfl rfl (by kernel_rfl) (by kernel_rfl) (by kernel_rfl) (fun _ _ _ h => h) (skipped (by rfl)) hS ?_
  simp only [Act.put, List.setIfInBounds_toArray, List.set_cons_zero, List.set_cons_succ]
  refine takeAt 20 61 (.bool true) rfl rfl (by kernel_rfl) (by kernel_rfl) (by kernel_rfl) (fun _ _ _ h => h) (yields (by rfl) (fun w => by kernel_rfl)) hS ?_
  simp only [Act.put, List.setIfInBounds_toArray, List.set_cons_zero, List.set_cons_succ]
  refine takeAt 21 6 (.bool true) rfl rfl (by kernel_rfl) (by kernel_rfl) (by kernel_rfl) (fun _ _ _ h => h) (yields (by rfl) (fun w => by kernel_rfl)) hS ?_
  simp only [Act.put, List.setIfInBounds_toArray, List.set_cons_zero, List.set_cons_succ]
  refine wpAnyH_done (by kernel_rfl) ?_ _
  have HB := Lib.hid hS.1
  clear hS
  go_wp2
  go_ret
  exact ⟨rfl, HB.out⟩
set_option maxRecDepth 100000 in
set_option maxHeartbeats 8000000 in
theorem rout_o3 (k : FK) (s : ByteArray) (a : Nat) (ha : a ≤ s.size) (hop : k.op = true) (hfa : k.fa = true) (h3 : a = 0) (h4 : k.pr.size ≤ s.size - a) (w : World) (hs : s.size ≤ 1000000) :
    Calls Tryz.prog 16 #[.agg (rfC k), .string s, .int .i64 (a : Int)] w fun e w' => e = .returned (.bool (!startB s a k.pr)) ∧ Below w.heap.size w w' := by
  obtain ⟨bb, hb0⟩ : ∃ bb, bb = !startB s a k.pr := ⟨_, rfl⟩
  have hbb : ((s.extract a (a + k.pr.size)).toList == k.pr.toList) = !bb := by rw [hb0, start_fit ha h4]; simp
  have _u := And.intro ha hs
  clear _u
  have hS : (fun u => Below w.heap.size w u ∧ BoxR u w.heap.size k) (w.alloc (.cells (rfC k) 39)) := ⟨by go_grown, BoxV.new _ _⟩
  have z0 : ¬ (a : Int) < 0 := by omega
  have z1 : ¬ (s.size : Int) < (a : Int) := by omega
  rw [← hb0]
  clear hb0
  have zp : ¬ (0 : Int) < (a : Int) := by omega
  replace h3 := Lib.hid h3
  go_enter Tryz.func16, Tryz.ntmps16
  have c1 := (BoxR.op hS.2).trans (by rw [hop])
  have c2 := (BoxR.fa hS.2).trans (by rw [hfa])
  have HB := Lib.hid hS.1
  have HX := Lib.hid hS.2
  clear hS
  go_wp2_with fail
  refine wp_region_held_drew (S := fun u => Below w.heap.size w u ∧ BoxR u w.heap.size k) (by kernel_rfl) (show _ from ⟨HB.out.trans ((Below.refl _ _).drew.mono HB.out.size), HX.out.drew⟩) (fun hS => ?_)
  clear HX HB
  generalize World.drew _ = v0 at hS ⊢
  refine takeAt 0 41 (.string s) rfl rfl (by kernel_rfl) (by kernel_rfl) (by kernel_rfl) (fun _ _ _ h => h) (yields (by rfl) (fun w => by kernel_rfl)) hS ?_
  simp only [Act.put, List.setIfInBounds_toArray, List.set_cons_zero, List.set_cons_succ]
  refine takeAt 1 42 (.int .i64 (s.size : Int)) rfl rfl (by kernel_rfl) (by kernel_rfl) (by kernel_rfl) (fun _ _ _ h => h) (len9_y s rfl rfl (by rfl)) hS ?_
  simp only [Act.put, List.setIfInBounds_toArray, List.set_cons_zero, List.set_cons_succ]
  refine takeAt 2 43 (.int .i64 (a : Int)) rfl rfl (by kernel_rfl) (by kernel_rfl) (by kernel_rfl) (fun _ _ _ h => h) (yields (by rfl) (fun w => by kernel_rfl)) hS ?_
  simp only [Act.put, List.setIfInBounds_toArray, List.set_cons_zero, List.set_cons_succ]
  refine takeAt 3 44 (.int .i64 ((s.size : Int) - (a : Int))) rfl rfl (by kernel_rfl) (by kernel_rfl) (by kernel_rfl) (fun _ _ _ h => h) (sub9_y (s.size : Int) (a : Int) (by omega) (by omega) rfl rfl rfl (by rfl)) hS ?_
  simp only [Act.put, List.setIfInBounds_toArray, List.set_cons_zero, List.set_cons_succ]
  refine takeAt 4 45 (.pointer (some ⟨w.heap.size, 258, none⟩)) rfl rfl (by kernel_rfl) (by kernel_rfl) (by kernel_rfl) (fun _ _ _ h => h) (yields (by rfl) (fun w => by kernel_rfl)) hS ?_
  simp only [Act.put, List.setIfInBounds_toArray, List.set_cons_zero, List.set_cons_succ]
  refine takeAt 5 46 (.string k.pr) rfl rfl (by kernel_rfl) (by kernel_rfl) (by kernel_rfl) (fun _ _ _ h => h) (loadP9_y w.heap.size 258 k.pr (fun _ h => BoxR.pr h.2) rfl rfl (by rfl)) hS ?_
  simp only [Act.put, List.setIfInBounds_toArray, List.set_cons_zero, List.set_cons_succ]
  refine takeAt 6 47 (.int .i64 (k.pr.size : Int)) rfl rfl (by kernel_rfl) (by kernel_rfl) (by kernel_rfl) (fun _ _ _ h => h) (len9_y k.pr rfl rfl (by rfl)) hS ?_
  simp only [Act.put, List.setIfInBounds_toArray, List.set_cons_zero, List.set_cons_succ]
  refine takeAt 7 48 (.bool false) rfl rfl (by kernel_rfl) (by kernel_rfl) (by kernel_rfl) (fun _ _ _ h => h) (lss9_y ((s.size : Int) - (a : Int)) (k.pr.size : Int) false (decide_eq_false (by omega)) rfl rfl rfl (by rfl)) hS ?_
  simp only [Act.put, List.setIfInBounds_toArray, List.set_cons_zero, List.set_cons_succ]
  refine takeAt 8 49 (.bool false) rfl rfl (by kernel_rfl) (by kernel_rfl) (by kernel_rfl) (fun _ _ _ h => h) (yields (by rfl) (fun w => by kernel_rfl)) hS ?_
  simp only [Act.put, List.setIfInBounds_toArray, List.set_cons_zero, List.set_cons_succ]
  refine takeAt 9 50 (.string s) rfl rfl (by kernel_rfl) (by kernel_rfl) (by kernel_rfl) (fun _ _ _ h => h) (yields (by rfl) (fun w => by kernel_rfl)) hS ?_
  simp only [Act.put, List.setIfInBounds_toArray, List.set_cons_zero, List.set_cons_succ]
  refine takeAt 10 51 (.int .i64 (a : Int)) rfl rfl (by kernel_rfl) (by kernel_rfl) (by kernel_rfl) (fun _ _ _ h => h) (yields (by rfl) (fun w => by kernel_rfl)) hS ?_
  simp only [Act.put, List.setIfInBounds_toArray, List.set_cons_zero, List.set_cons_succ]
  refine takeAt 11 52 (.int .i64 (a : Int)) rfl rfl (by kernel_rfl) (by kernel_rfl) (by kernel_rfl) (fun _ _ _ h => h) (yields (by rfl) (fun w => by kernel_rfl)) hS ?_
  simp only [Act.put, List.setIfInBounds_toArray, List.set_cons_zero, List.set_cons_succ]
  refine takeAt 12 53 (.pointer (some ⟨w.heap.size, 258, none⟩)) rfl rfl (by kernel_rfl) (by kernel_rfl) (by kernel_rfl) (fun _ _ _ h => h) (yields (by rfl) (fun w => by kernel_rfl)) hS ?_
  simp only [Act.put, List.setIfInBounds_toArray, List.set_cons_zero, List.set_cons_succ]
  refine takeAt 13 54 (.string k.pr) rfl rfl (by kernel_rfl) (by kernel_rfl) (by kernel_rfl) (fun _ _ _ h => h) (loadP9_y w.heap.size 258 k.pr (fun _ h => BoxR.pr h.2) rfl rfl (by rfl)) hS ?_
  simp only [Act.put, List.setIfInBounds_toArray, List.set_cons_zero, List.set_cons_succ]
  refine takeAt 14 55 (.int .i64 (k.pr.size : Int)) rfl rfl (by kernel_rfl) (by kernel_rfl) (by kernel_rfl) (fun _ _ _ h => h) (len9_y k.pr rfl rfl (by rfl)) hS ?_
  simp only [Act.put, List.setIfInBounds_toArray, List.set_cons_zero, List.set_cons_succ]
  refine takeAt 15 56 (.int .i64 ((a : Int) + (k.pr.size : Int))) rfl rfl (by kernel_rfl) (by kernel_rfl) (by kernel_rfl) (fun _ _ _ h => h) (add9_y (a : Int) (k.pr.size : Int) (by omega) (by omega) rfl rfl rfl (by rfl)) hS ?_
  simp only [Act.put, List.setIfInBounds_toArray, List.set_cons_zero, List.set_cons_succ]
  refine takeAt 16 57 (.string (s.extract a (a + k.pr.size))) rfl rfl (by kernel_rfl) (by kernel_rfl) (by kernel_rfl) (fun _ _ _ h => h) (sliceIn9_y s a (a + k.pr.size) (by omega) (by omega) (by omega) rfl rfl rfl rfl (by rfl)) hS ?_
  simp only [Act.put, List.setIfInBounds_toArray, List.set_cons_zero, List.set_cons_succ]
  refine takeAt 17 58 (.pointer (some ⟨w.heap.size, 258, none⟩)) rfl rfl (by kernel_rfl) (by kernel_rfl) (by kernel_rfl) (fun _ _ _ h => h) (yields (by rfl) (fun w => by kernel_rfl)) hS ?_
  simp only [Act.put, List.setIfInBounds_toArray, List.set_cons_zero, List.set_cons_succ]
  refine takeAt 18 59 (.string k.pr) rfl rfl (by kernel_rfl) (by kernel_rfl) (by kernel_rfl) (fun _ _ _ h => h) (loadP9_y w.heap.size 258 k.pr (fun _ h => BoxR.pr h.2) rfl rfl (by rfl)) hS ?_
  simp only [Act.put, List.setIfInBounds_toArray, List.set_cons_zero, List.set_cons_succ]
  refine takeAt 19 60 (.bool bb) rfl rfl (by kernel_rfl) (by kernel_rfl) (by kernel_rfl) (fun _ _ _ h => h) (neqS9_y (s.extract a (a + k.pr.size)) k.pr bb hbb rfl rfl rfl (by rfl)) hS ?_
  simp only [Act.put, List.setIfInBounds_toArray, List.set_cons_zero, List.set_cons_succ]
  refine takeAt 20 61 (.bool bb) rfl rfl (by kernel_rfl) (by kernel_rfl) (by kernel_rfl) (fun _ _ _ h => h) (yields (by rfl) (fun w => by kernel_rfl)) hS ?_
  simp only [Act.put, List.setIfInBounds_toArray, List.set_cons_zero, List.set_cons_succ]
  refine takeAt 21 6 (.bool bb) rfl rfl (by kernel_rfl) (by kernel_rfl) (by kernel_rfl) (fun _ _ _ h => h) (yields (by rfl) (fun w => by kernel_rfl)) hS ?_
  simp only [Act.put, List.setIfInBounds_toArray, List.set_cons_zero, List.set_cons_succ]
  refine wpAnyH_done (by kernel_rfl) ?_ _
  have HB := Lib.hid hS.1
  clear hS
  go_wp2
  go_ret
  exact ⟨rfl, HB.out⟩
set_option maxRecDepth 100000 in
set_option maxHeartbeats 8000000 in
theorem rout_o4 (k : FK) (s : ByteArray) (a : Nat) (ha : a ≤ s.size) (hop : k.op = true) (hfa : k.fa = false) (h4 : s.size - a < k.pr.size) (w : World) (hs : s.size ≤ 1000000) :
    Calls Tryz.prog 16 #[.agg (rfC k), .string s, .int .i64 (a : Int)] w fun e w' => e = .returned (.bool (true)) ∧ Below w.heap.size w w' := by
  have _u := And.intro ha hs
  clear _u
  have hS : (fun u => Below w.heap.size w u ∧ BoxR u w.heap.size k) (w.alloc (.cells (rfC k) 39)) := ⟨by go_grown, BoxV.new _ _⟩
  have z0 : ¬ (a : Int) < 0 := by omega
  have z1 : ¬ (s.size : Int) < (a : Int) := by omega
  go_enter Tryz.func16, Tryz.ntmps16
  have c1 := (BoxR.op hS.2).trans (by rw [hop])
  have c2 := (BoxR.fa hS.2).trans (by rw [hfa])
  have HB := Lib.hid hS.1
  have HX := Lib.hid hS.2
  clear hS
  go_wp2_with fail
  refine wp_region_held_drew (S := fun u => Below w.heap.size w u ∧ BoxR u w.heap.size k) (by kernel_rfl) (show _ from ⟨HB.out.trans ((Below.refl _ _).drew.mono HB.out.size), HX.out.drew⟩) (fun hS => ?_)
  clear HX HB
  generalize World.drew _ = v0 at hS ⊢
  refine takeAt 0 41 (.string s) rfl rfl (by kernel_rfl) (by kernel_rfl) (by kernel_rfl) (fun _ _ _ h => h) (yields (by rfl) (fun w => by kernel_rfl)) hS ?_
  simp only [Act.put, List.setIfInBounds_toArray, List.set_cons_zero, List.set_cons_succ]
  refine takeAt 1 42 (.int .i64 (s.size : Int)) rfl rfl (by kernel_rfl) (by kernel_rfl) (by kernel_rfl) (fun _ _ _ h => h) (len9_y s rfl rfl (by rfl)) hS ?_
  simp only [Act.put, List.setIfInBounds_toArray, List.set_cons_zero, List.set_cons_succ]
  refine takeAt 2 43 (.int .i64 (a : Int)) rfl rfl (by kernel_rfl) (by kernel_rfl) (by kernel_rfl) (fun _ _ _ h => h) (yields (by rfl) (fun w => by kernel_rfl)) hS ?_
  simp only [Act.put, List.setIfInBounds_toArray, List.set_cons_zero, List.set_cons_succ]
  refine takeAt 3 44 (.int .i64 ((s.size : Int) - (a : Int))) rfl rfl (by kernel_rfl) (by kernel_rfl) (by kernel_rfl) (fun _ _ _ h => h) (sub9_y (s.size : Int) (a : Int) (by omega) (by omega) rfl rfl rfl (by rfl)) hS ?_
  simp only [Act.put, List.setIfInBounds_toArray, List.set_cons_zero, List.set_cons_succ]
  refine takeAt 4 45 (.pointer (some ⟨w.heap.size, 258, none⟩)) rfl rfl (by kernel_rfl) (by kernel_rfl) (by kernel_rfl) (fun _ _ _ h => h) (yields (by rfl) (fun w => by kernel_rfl)) hS ?_
  simp only [Act.put, List.setIfInBounds_toArray, List.set_cons_zero, List.set_cons_succ]
  refine takeAt 5 46 (.string k.pr) rfl rfl (by kernel_rfl) (by kernel_rfl) (by kernel_rfl) (fun _ _ _ h => h) (loadP9_y w.heap.size 258 k.pr (fun _ h => BoxR.pr h.2) rfl rfl (by rfl)) hS ?_
  simp only [Act.put, List.setIfInBounds_toArray, List.set_cons_zero, List.set_cons_succ]
  refine takeAt 6 47 (.int .i64 (k.pr.size : Int)) rfl rfl (by kernel_rfl) (by kernel_rfl) (by kernel_rfl) (fun _ _ _ h => h) (len9_y k.pr rfl rfl (by rfl)) hS ?_
  simp only [Act.put, List.setIfInBounds_toArray, List.set_cons_zero, List.set_cons_succ]
  refine takeAt 7 48 (.bool true) rfl rfl (by kernel_rfl) (by kernel_rfl) (by kernel_rfl) (fun _ _ _ h => h) (lss9_y ((s.size : Int) - (a : Int)) (k.pr.size : Int) true (decide_eq_true (by omega)) rfl rfl rfl (by rfl)) hS ?_
  simp only [Act.put, List.setIfInBounds_toArray, List.set_cons_zero, List.set_cons_succ]
  refine takeAt 8 49 (.bool true) rfl rfl (by kernel_rfl) (by kernel_rfl) (by kernel_rfl) (fun _ _ _ h => h) (yields (by rfl) (fun w => by kernel_rfl)) hS ?_
  simp only [Act.put, List.setIfInBounds_toArray, List.set_cons_zero, List.set_cons_succ]
  refine takeAt 9 50 (undef) rfl rfl (by kernel_rfl) (by kernel_rfl) (by kernel_rfl) (fun _ _ _ h => h) (skipped (by rfl)) hS ?_
  simp only [Act.put, List.setIfInBounds_toArray, List.set_cons_zero, List.set_cons_succ]
  refine takeAt 10 51 (undef) rfl rfl (by kernel_rfl) (by kernel_rfl) (by kernel_rfl) (fun _ _ _ h => h) (skipped (by rfl)) hS ?_
  simp only [Act.put, List.setIfInBounds_toArray, List.set_cons_zero, List.set_cons_succ]
  refine takeAt 11 52 (undef) rfl rfl (by kernel_rfl) (by kernel_rfl) (by kernel_rfl) (fun _ _ _ h => h) (skipped (by rfl)) hS ?_
  simp only [Act.put, List.setIfInBounds_toArray, List.set_cons_zero, List.set_cons_succ]
  refine takeAt 12 53 (undef) rfl rfl (by kernel_rfl) (by kernel_rfl) (by kernel_rfl) (fun _ _ _ h => h) (skipped (by rfl)) hS ?_
  simp only [Act.put, List.setIfInBounds_toArray, List.set_cons_zero, List.set_cons_succ]
  refine takeAt 13 54 (undef) rfl rfl (by kernel_rfl) (by kernel_rfl) (by kernel_rfl) (fun _ _ _ h => h) (skipped (by rfl)) hS ?_
  simp only [Act.put, List.setIfInBounds_toArray, List.set_cons_zero, List.set_cons_succ]
  refine takeAt 14 55 (undef) rfl rfl (by kernel_rfl) (by kernel_rfl) (by kernel_rfl) (fun _ _ _ h => h) (skipped (by rfl)) hS ?_
  simp only [Act.put, List.setIfInBounds_toArray, List.set_cons_zero, List.set_cons_succ]
  refine takeAt 15 56 (undef) rfl rfl (by kernel_rfl) (by kernel_rfl) (by kernel_rfl) (fun _ _ _ h => h) (skipped (by rfl)) hS ?_
  simp only [Act.put, List.setIfInBounds_toArray, List.set_cons_zero, List.set_cons_succ]
  refine takeAt 16 57 (undef) rfl rfl (by kernel_rfl) (by kernel_rfl) (by kernel_rfl) (fun _ _ _ h => h) (skipped (by rfl)) hS ?_
  simp only [Act.put, List.setIfInBounds_toArray, List.set_cons_zero, List.set_cons_succ]
  refine takeAt 17 58 (undef) rfl rfl (by kernel_rfl) (by kernel_rfl) (by kernel_rfl) (fun _ _ _ h => h) (skipped (by rfl)) hS ?_
  simp only [Act.put, List.setIfInBounds_toArray, List.set_cons_zero, List.set_cons_succ]
  refine takeAt 18 59 (undef) rfl rfl (by kernel_rfl) (by kernel_rfl) (by kernel_rfl) (fun _ _ _ h => h) (skipped (by rfl)) hS ?_
  simp only [Act.put, List.setIfInBounds_toArray, List.set_cons_zero, List.set_cons_succ]
  refine takeAt 19 60 (undef) rfl rfl (by kernel_rfl) (by kernel_rfl) (by kernel_rfl) (fun _ _ _ h => h) (skipped (by rfl)) hS ?_
  simp only [Act.put, List.setIfInBounds_toArray, List.set_cons_zero, List.set_cons_succ]
  refine takeAt 20 61 (.bool true) rfl rfl (by kernel_rfl) (by kernel_rfl) (by kernel_rfl) (fun _ _ _ h => h) (yields (by rfl) (fun w => by kernel_rfl)) hS ?_
  simp only [Act.put, List.setIfInBounds_toArray, List.set_cons_zero, List.set_cons_succ]
  refine takeAt 21 6 (.bool true) rfl rfl (by kernel_rfl) (by kernel_rfl) (by kernel_rfl) (fun _ _ _ h => h) (yields (by rfl) (fun w => by kernel_rfl)) hS ?_
  simp only [Act.put, List.setIfInBounds_toArray, List.set_cons_zero, List.set_cons_succ]
  refine wpAnyH_done (by kernel_rfl) ?_ _
  have HB := Lib.hid hS.1
  clear hS
  go_wp2
  go_ret
  exact ⟨rfl, HB.out⟩
set_option maxRecDepth 100000 in
set_option maxHeartbeats 8000000 in
theorem rout_o5 (k : FK) (s : ByteArray) (a : Nat) (ha : a ≤ s.size) (hop : k.op = true) (hfa : k.fa = false) (h4 : k.pr.size ≤ s.size - a) (w : World) (hs : s.size ≤ 1000000) :
    Calls Tryz.prog 16 #[.agg (rfC k), .string s, .int .i64 (a : Int)] w fun e w' => e = .returned (.bool (!startB s a k.pr)) ∧ Below w.heap.size w w' := by
  obtain ⟨bb, hb0⟩ : ∃ bb, bb = !startB s a k.pr := ⟨_, rfl⟩
  have hbb : ((s.extract a (a + k.pr.size)).toList == k.pr.toList) = !bb := by rw [hb0, start_fit ha h4]; simp
  have _u := And.intro ha hs
  clear _u
  have hS : (fun u => Below w.heap.size w u ∧ BoxR u w.heap.size k) (w.alloc (.cells (rfC k) 39)) := ⟨by go_grown, BoxV.new _ _⟩
  have z0 : ¬ (a : Int) < 0 := by omega
  have z1 : ¬ (s.size : Int) < (a : Int) := by omega
  rw [← hb0]
  clear hb0
  go_enter Tryz.func16, Tryz.ntmps16
  have c1 := (BoxR.op hS.2).trans (by rw [hop])
  have c2 := (BoxR.fa hS.2).trans (by rw [hfa])
  have HB := Lib.hid hS.1
  have HX := Lib.hid hS.2
  clear hS
  go_wp2_with fail
  refine wp_region_held_drew (S := fun u => Below w.heap.size w u ∧ BoxR u w.heap.size k) (by kernel_rfl) (show _ from ⟨HB.out.trans ((Below.refl _ _).drew.mono HB.out.size), HX.out.drew⟩) (fun hS => ?_)
  clear HX HB
  generalize World.drew _ = v0 at hS ⊢
  refine takeAt 0 41 (.string s) rfl rfl (by kernel_rfl) (by kernel_rfl) (by kernel_rfl) (fun _ _ _ h => h) (yields (by rfl) (fun w => by kernel_rfl)) hS ?_
  simp only [Act.put, List.setIfInBounds_toArray, List.set_cons_zero, List.set_cons_succ]
  refine takeAt 1 42 (.int .i64 (s.size : Int)) rfl rfl (by kernel_rfl) (by kernel_rfl) (by kernel_rfl) (fun _ _ _ h => h) (len9_y s rfl rfl (by rfl)) hS ?_
  simp only [Act.put, List.setIfInBounds_toArray, List.set_cons_zero, List.set_cons_succ]
  refine takeAt 2 43 (.int .i64 (a : Int)) rfl rfl (by kernel_rfl) (by kernel_rfl) (by kernel_rfl) (fun _ _ _ h => h) (yields (by rfl) (fun w => by kernel_rfl)) hS ?_
  simp only [Act.put, List.setIfInBounds_toArray, List.set_cons_zero, List.set_cons_succ]
  refine takeAt 3 44 (.int .i64 ((s.size : Int) - (a : Int))) rfl rfl (by kernel_rfl) (by kernel_rfl) (by kernel_rfl) (fun _ _ _ h => h) (sub9_y (s.size : Int) (a : Int) (by omega) (by omega) rfl rfl rfl (by rfl)) hS ?_
  simp only [Act.put, List.setIfInBounds_toArray, List.set_cons_zero, List.set_cons_succ]
  refine takeAt 4 45 (.pointer (some ⟨w.heap.size, 258, none⟩)) rfl rfl (by kernel_rfl) (by kernel_rfl) (by kernel_rfl) (fun _ _ _ h => h) (yields (by rfl) (fun w => by kernel_rfl)) hS ?_
  simp only [Act.put, List.setIfInBounds_toArray, List.set_cons_zero, List.set_cons_succ]
  refine takeAt 5 46 (.string k.pr) rfl rfl (by kernel_rfl) (by kernel_rfl) (by kernel_rfl) (fun _ _ _ h => h) (loadP9_y w.heap.size 258 k.pr (fun _ h => BoxR.pr h.2) rfl rfl (by rfl)) hS ?_
  simp only [Act.put, List.setIfInBounds_toArray, List.set_cons_zero, List.set_cons_succ]
  refine takeAt 6 47 (.int .i64 (k.pr.size : Int)) rfl rfl (by kernel_rfl) (by kernel_rfl) (by kernel_rfl) (fun _ _ _ h => h) (len9_y k.pr rfl rfl (by rfl)) hS ?_
  simp only [Act.put, List.setIfInBounds_toArray, List.set_cons_zero, List.set_cons_succ]
  refine takeAt 7 48 (.bool false) rfl rfl (by kernel_rfl) (by kernel_rfl) (by kernel_rfl) (fun _ _ _ h => h) (lss9_y ((s.size : Int) - (a : Int)) (k.pr.size : Int) false (decide_eq_false (by omega)) rfl rfl rfl (by rfl)) hS ?_
  simp only [Act.put, List.setIfInBounds_toArray, List.set_cons_zero, List.set_cons_succ]
  refine takeAt 8 49 (.bool false) rfl rfl (by kernel_rfl) (by kernel_rfl) (by kernel_rfl) (fun _ _ _ h => h) (yields (by rfl) (fun w => by kernel_rfl)) hS ?_
  simp only [Act.put, List.setIfInBounds_toArray, List.set_cons_zero, List.set_cons_succ]
  refine takeAt 9 50 (.string s) rfl rfl (by kernel_rfl) (by kernel_rfl) (by kernel_rfl) (fun _ _ _ h => h) (yields (by rfl) (fun w => by kernel_rfl)) hS ?_
  simp only [Act.put, List.setIfInBounds_toArray, List.set_cons_zero, List.set_cons_succ]
  refine takeAt 10 51 (.int .i64 (a : Int)) rfl rfl (by kernel_rfl) (by kernel_rfl) (by kernel_rfl) (fun _ _ _ h => h) (yields (by rfl) (fun w => by kernel_rfl)) hS ?_
  simp only [Act.put, List.setIfInBounds_toArray, List.set_cons_zero, List.set_cons_succ]
  refine takeAt 11 52 (.int .i64 (a : Int)) rfl rfl (by kernel_rfl) (by kernel_rfl) (by kernel_rfl) (fun _ _ _ h => h) (yields (by rfl) (fun w => by kernel_rfl)) hS ?_
  simp only [Act.put, List.setIfInBounds_toArray, List.set_cons_zero, List.set_cons_succ]
  refine takeAt 12 53 (.pointer (some ⟨w.heap.size, 258, none⟩)) rfl rfl (by kernel_rfl) (by kernel_rfl) (by kernel_rfl) (fun _ _ _ h => h) (yields (by rfl) (fun w => by kernel_rfl)) hS ?_
  simp only [Act.put, List.setIfInBounds_toArray, List.set_cons_zero, List.set_cons_succ]
  refine takeAt 13 54 (.string k.pr) rfl rfl (by kernel_rfl) (by kernel_rfl) (by kernel_rfl) (fun _ _ _ h => h) (loadP9_y w.heap.size 258 k.pr (fun _ h => BoxR.pr h.2) rfl rfl (by rfl)) hS ?_
  simp only [Act.put, List.setIfInBounds_toArray, List.set_cons_zero, List.set_cons_succ]
  refine takeAt 14 55 (.int .i64 (k.pr.size : Int)) rfl rfl (by kernel_rfl) (by kernel_rfl) (by kernel_rfl) (fun _ _ _ h => h) (len9_y k.pr rfl rfl (by rfl)) hS ?_
  simp only [Act.put, List.setIfInBounds_toArray, List.set_cons_zero, List.set_cons_succ]
  refine takeAt 15 56 (.int .i64 ((a : Int) + (k.pr.size : Int))) rfl rfl (by kernel_rfl) (by kernel_rfl) (by kernel_rfl) (fun _ _ _ h => h) (add9_y (a : Int) (k.pr.size : Int) (by omega) (by omega) rfl rfl rfl (by rfl)) hS ?_
  simp only [Act.put, List.setIfInBounds_toArray, List.set_cons_zero, List.set_cons_succ]
  refine takeAt 16 57 (.string (s.extract a (a + k.pr.size))) rfl rfl (by kernel_rfl) (by kernel_rfl) (by kernel_rfl) (fun _ _ _ h => h) (sliceIn9_y s a (a + k.pr.size) (by omega) (by omega) (by omega) rfl rfl rfl rfl (by rfl)) hS ?_
  simp only [Act.put, List.setIfInBounds_toArray, List.set_cons_zero, List.set_cons_succ]
  refine takeAt 17 58 (.pointer (some ⟨w.heap.size, 258, none⟩)) rfl rfl (by kernel_rfl) (by kernel_rfl) (by kernel_rfl) (fun _ _ _ h => h) (yields (by rfl) (fun w => by kernel_rfl)) hS ?_
  simp only [Act.put, List.setIfInBounds_toArray, List.set_cons_zero, List.set_cons_succ]
  refine takeAt 18 59 (.string k.pr) rfl rfl (by kernel_rfl) (by kernel_rfl) (by kernel_rfl) (fun _ _ _ h => h) (loadP9_y w.heap.size 258 k.pr (fun _ h => BoxR.pr h.2) rfl rfl (by rfl)) hS ?_
  simp only [Act.put, List.setIfInBounds_toArray, List.set_cons_zero, List.set_cons_succ]
  refine takeAt 19 60 (.bool bb) rfl rfl (by kernel_rfl) (by kernel_rfl) (by kernel_rfl) (fun _ _ _ h => h) (neqS9_y (s.extract a (a + k.pr.size)) k.pr bb hbb rfl rfl rfl (by rfl)) hS ?_
  simp only [Act.put, List.setIfInBounds_toArray, List.set_cons_zero, List.set_cons_succ]
  refine takeAt 20 61 (.bool bb) rfl rfl (by kernel_rfl) (by kernel_rfl) (by kernel_rfl) (fun _ _ _ h => h) (yields (by rfl) (fun w => by kernel_rfl)) hS ?_
  simp only [Act.put, List.setIfInBounds_toArray, List.set_cons_zero, List.set_cons_succ]
  refine takeAt 21 6 (.bool bb) rfl rfl (by kernel_rfl) (by kernel_rfl) (by kernel_rfl) (fun _ _ _ h => h) (yields (by rfl) (fun w => by kernel_rfl)) hS ?_
  simp only [Act.put, List.setIfInBounds_toArray, List.set_cons_zero, List.set_cons_succ]
  refine wpAnyH_done (by kernel_rfl) ?_ _
  have HB := Lib.hid hS.1
  clear hS
  go_wp2
  go_ret
  exact ⟨rfl, HB.out⟩
set_option maxRecDepth 100000 in
set_option maxHeartbeats 8000000 in
theorem rout_h1 (k : FK) (s : ByteArray) (a : Nat) (ha : a ≤ s.size) (hop : k.op = false) (h1 : a < s.size) (h2 : mem k.F (bt s a) = true) (hfa : k.fa = true) (h3 : 0 < a) (w : World) (hs : s.size ≤ 1000000) :
    Calls Tryz.prog 16 #[.agg (rfC k), .string s, .int .i64 (a : Int)] w fun e w' => e = .returned (.bool (true)) ∧ Below w.heap.size w w' := by
  have _u := And.intro ha hs
  clear _u
  have hS : (fun u => Below w.heap.size w u ∧ BoxR u w.heap.size k) (w.alloc (.cells (rfC k) 39)) := ⟨by go_grown, BoxV.new _ _⟩
  have z0 : ¬ (a : Int) < 0 := by omega
  have z1 : ¬ (s.size : Int) < (a : Int) := by omega
  have hbl : bt s a < 256 := bt_lt h1
  have zp : (0 : Int) < (a : Int) := by omega
  go_enter Tryz.func16, Tryz.ntmps16
  go_wp2_with (refine lineY (S := fun u => Below w.heap.size w u ∧ BoxR u w.heap.size k) (.pointer (some ⟨w.heap.size, 256, none⟩)) (addr9_y 39 (.tmp 3) 1 _ rfl (fun w => by kernel_rfl) (by rfl)) hS ?_; refine StopS.out ?_)
  refine ⟨?_⟩
  try simp only [Act.put, List.setIfInBounds_toArray, List.set_cons_zero, List.set_cons_succ]
  refine lineY (S := fun u => Below w.heap.size w u ∧ BoxR u w.heap.size k) (.bool false) (loadB9_y w.heap.size 256 false (fun _ h => by rw [BoxR.op h.2, hop]) rfl rfl (by rfl)) hS ?_
  simp only [Act.put, List.setIfInBounds_toArray, List.set_cons_zero, List.set_cons_succ]
  refine lineY (S := fun u => Below w.heap.size w u ∧ BoxR u w.heap.size k) (.bool true) (yields (by rfl) (fun w => by kernel_rfl)) hS ?_
  simp only [Act.put, List.setIfInBounds_toArray, List.set_cons_zero, List.set_cons_succ]
  refine lineY (S := fun u => Below w.heap.size w u ∧ BoxR u w.heap.size k) (.bool true) (yields (by rfl) (fun w => by kernel_rfl)) hS ?_
  simp only [Act.put, List.setIfInBounds_toArray, List.set_cons_zero, List.set_cons_succ]
  refine lineY (S := fun u => Below w.heap.size w u ∧ BoxR u w.heap.size k) (.int .i64 (a : Int)) (yields (by rfl) (fun w => by kernel_rfl)) hS ?_
  simp only [Act.put, List.setIfInBounds_toArray, List.set_cons_zero, List.set_cons_succ]
  refine lineY (S := fun u => Below w.heap.size w u ∧ BoxR u w.heap.size k) (.string s) (yields (by rfl) (fun w => by kernel_rfl)) hS ?_
  simp only [Act.put, List.setIfInBounds_toArray, List.set_cons_zero, List.set_cons_succ]
  refine lineY (S := fun u => Below w.heap.size w u ∧ BoxR u w.heap.size k) (.int .i64 (s.size : Int)) (len9_y s rfl rfl (by rfl)) hS ?_
  simp only [Act.put, List.setIfInBounds_toArray, List.set_cons_zero, List.set_cons_succ]
  refine lineY (S := fun u => Below w.heap.size w u ∧ BoxR u w.heap.size k) (.bool false) (eqlI9_y false (beq_eq_false_iff_ne.2 (by omega)) rfl rfl rfl (by rfl)) hS ?_
  simp only [Act.put, List.setIfInBounds_toArray, List.set_cons_zero, List.set_cons_succ]
  refine lineY (S := fun u => Below w.heap.size w u ∧ BoxR u w.heap.size k) (.bool false) (yields (by rfl) (fun w => by kernel_rfl)) hS ?_
  simp only [Act.put, List.setIfInBounds_toArray, List.set_cons_zero, List.set_cons_succ]
  refine lineY (S := fun u => Below w.heap.size w u ∧ BoxR u w.heap.size k) (.string s) (yields (by rfl) (fun w => by kernel_rfl)) hS ?_
  simp only [Act.put, List.setIfInBounds_toArray, List.set_cons_zero, List.set_cons_succ]
  refine lineY (S := fun u => Below w.heap.size w u ∧ BoxR u w.heap.size k) (.int .i64 (a : Int)) (yields (by rfl) (fun w => by kernel_rfl)) hS ?_
  simp only [Act.put, List.setIfInBounds_toArray, List.set_cons_zero, List.set_cons_succ]
  refine lineY (S := fun u => Below w.heap.size w u ∧ BoxR u w.heap.size k) (.int .u8 (bt s a : Nat)) (idxN9_y s a h1 rfl rfl rfl (by rfl)) hS ?_
  simp only [Act.put, List.setIfInBounds_toArray, List.set_cons_zero, List.set_cons_succ]
  refine lineY (S := fun u => Below w.heap.size w u ∧ BoxR u w.heap.size k) (.int .i64 (bt s a : Nat)) (convB9_y (bt s a) rfl rfl hbl (by rfl)) hS ?_
  simp only [Act.put, List.setIfInBounds_toArray, List.set_cons_zero, List.set_cons_succ]
  refine lineY (S := fun u => Below w.heap.size w u ∧ BoxR u w.heap.size k) (.pointer (some ⟨w.heap.size, 0, none⟩)) (yields (by rfl) (fun w => by kernel_rfl)) hS ?_
  simp only [Act.put, List.setIfInBounds_toArray, List.set_cons_zero, List.set_cons_succ]
  refine lineY (S := fun u => Below w.heap.size w u ∧ BoxR u w.heap.size k) (.pointer (some ⟨w.heap.size, 0, none⟩)) (yields (by rfl) (fun w => by kernel_rfl)) hS ?_
  simp only [Act.put, List.setIfInBounds_toArray, List.set_cons_zero, List.set_cons_succ]
  refine lineY (S := fun u => Below w.heap.size w u ∧ BoxR u w.heap.size k) (.pointer (some ⟨w.heap.size, bt s a, none⟩)) (idxA9_y w.heap.size (bt s a) hbl rfl rfl rfl (by rfl)) hS ?_
  simp only [Act.put, List.setIfInBounds_toArray, List.set_cons_zero, List.set_cons_succ]
  refine lineY (S := fun u => Below w.heap.size w u ∧ BoxR u w.heap.size k) (.bool true) (loadB9_y w.heap.size (bt s a) true (fun _ h => (cell_of_row _ _ _ _ _ _ h.2).trans ((rfC_bit k _ hbl).trans (by rw [h2]))) rfl rfl (by rfl)) hS ?_
  simp only [Act.put, List.setIfInBounds_toArray, List.set_cons_zero, List.set_cons_succ]
  refine lineY (S := fun u => Below w.heap.size w u ∧ BoxR u w.heap.size k) (.bool false) (yields (by rfl) (fun w => by kernel_rfl)) hS ?_
  simp only [Act.put, List.setIfInBounds_toArray, List.set_cons_zero, List.set_cons_succ]
  refine lineY (S := fun u => Below w.heap.size w u ∧ BoxR u w.heap.size k) (.bool false) (yields (by rfl) (fun w => by kernel_rfl)) hS ?_
  simp only [Act.put, List.setIfInBounds_toArray, List.set_cons_zero, List.set_cons_succ]
  refine lineY (S := fun u => Below w.heap.size w u ∧ BoxR u w.heap.size k) (.bool false) (yields (by rfl) (fun w => by kernel_rfl)) hS ?_
  simp only [Act.put, List.setIfInBounds_toArray, List.set_cons_zero, List.set_cons_succ]
  have c2 := (BoxR.fa hS.2).trans (by rw [hfa])
  have HB := Lib.hid hS.1
  clear hS
  go_wp2
  go_ret
  exact ⟨rfl, HB.out⟩
set_option maxRecDepth 100000 in
set_option maxHeartbeats 8000000 in
theorem rout_h2 (k : FK) (s : ByteArray) (a : Nat) (ha : a ≤ s.size) (hop : k.op = false) (h1 : a < s.size) (h2 : mem k.F (bt s a) = true) (hfa : k.fa = true) (h3 : a = 0) (h4 : s.size - a < k.pr.size) (w : World) (hs : s.size ≤ 1000000) :
    Calls Tryz.prog 16 #[.agg (rfC k), .string s, .int .i64 (a : Int)] w fun e w' => e = .returned (.bool (true)) ∧ Below w.heap.size w w' := by
  have _u := And.intro ha hs
  clear _u
  have hS : (fun u => Below w.heap.size w u ∧ BoxR u w.heap.size k) (w.alloc (.cells (rfC k) 39)) := ⟨by go_grown, BoxV.new _ _⟩
  have z0 : ¬ (a : Int) < 0 := by omega
  have z1 : ¬ (s.size : Int) < (a : Int) := by omega
  have hbl : bt s a < 256 := bt_lt h1
  have zp : ¬ (0 : Int) < (a : Int) := by omega
  replace h3 := Lib.hid h3
  go_enter Tryz.func16, Tryz.ntmps16
  go_wp2_with (refine lineY (S := fun u => Below w.heap.size w u ∧ BoxR u w.heap.size k) (.pointer (some ⟨w.heap.size, 256, none⟩)) (addr9_y 39 (.tmp 3) 1 _ rfl (fun w => by kernel_rfl) (by rfl)) hS ?_; refine StopS.out ?_)
  refine ⟨?_⟩
  try simp only [Act.put, List.setIfInBounds_toArray, List.set_cons_zero, List.set_cons_succ]
  refine lineY (S := fun u => Below w.heap.size w u ∧ BoxR u w.heap.size k) (.bool false) (loadB9_y w.heap.size 256 false (fun _ h => by rw [BoxR.op h.2, hop]) rfl rfl (by rfl)) hS ?_
  simp only [Act.put, List.setIfInBounds_toArray, List.set_cons_zero, List.set_cons_succ]
  refine lineY (S := fun u => Below w.heap.size w u ∧ BoxR u w.heap.size k) (.bool true) (yields (by rfl) (fun w => by kernel_rfl)) hS ?_
  simp only [Act.put, List.setIfInBounds_toArray, List.set_cons_zero, List.set_cons_succ]
  refine lineY (S := fun u => Below w.heap.size w u ∧ BoxR u w.heap.size k) (.bool true) (yields (by rfl) (fun w => by kernel_rfl)) hS ?_
  simp only [Act.put, List.setIfInBounds_toArray, List.set_cons_zero, List.set_cons_succ]
  refine lineY (S := fun u => Below w.heap.size w u ∧ BoxR u w.heap.size k) (.int .i64 (a : Int)) (yields (by rfl) (fun w => by kernel_rfl)) hS ?_
  simp only [Act.put, List.setIfInBounds_toArray, List.set_cons_zero, List.set_cons_succ]
  refine lineY (S := fun u => Below w.heap.size w u ∧ BoxR u w.heap.size k) (.string s) (yields (by rfl) (fun w => by kernel_rfl)) hS ?_
  simp only [Act.put, List.setIfInBounds_toArray, List.set_cons_zero, List.set_cons_succ]
  refine lineY (S := fun u => Below w.heap.size w u ∧ BoxR u w.heap.size k) (.int .i64 (s.size : Int)) (len9_y s rfl rfl (by rfl)) hS ?_
  simp only [Act.put, List.setIfInBounds_toArray, List.set_cons_zero, List.set_cons_succ]
  refine lineY (S := fun u => Below w.heap.size w u ∧ BoxR u w.heap.size k) (.bool false) (eqlI9_y false (beq_eq_false_iff_ne.2 (by omega)) rfl rfl rfl (by rfl)) hS ?_
  simp only [Act.put, List.setIfInBounds_toArray, List.set_cons_zero, List.set_cons_succ]
  refine lineY (S := fun u => Below w.heap.size w u ∧ BoxR u w.heap.size k) (.bool false) (yields (by rfl) (fun w => by kernel_rfl)) hS ?_
  simp only [Act.put, List.setIfInBounds_toArray, List.set_cons_zero, List.set_cons_succ]
  refine lineY (S := fun u => Below w.heap.size w u ∧ BoxR u w.heap.size k) (.string s) (yields (by rfl) (fun w => by kernel_rfl)) hS ?_
  simp only [Act.put, List.setIfInBounds_toArray, List.set_cons_zero, List.set_cons_succ]
  refine lineY (S := fun u => Below w.heap.size w u ∧ BoxR u w.heap.size k) (.int .i64 (a : Int)) (yields (by rfl) (fun w => by kernel_rfl)) hS ?_
  simp only [Act.put, List.setIfInBounds_toArray, List.set_cons_zero, List.set_cons_succ]
  refine lineY (S := fun u => Below w.heap.size w u ∧ BoxR u w.heap.size k) (.int .u8 (bt s a : Nat)) (idxN9_y s a h1 rfl rfl rfl (by rfl)) hS ?_
  simp only [Act.put, List.setIfInBounds_toArray, List.set_cons_zero, List.set_cons_succ]
  refine lineY (S := fun u => Below w.heap.size w u ∧ BoxR u w.heap.size k) (.int .i64 (bt s a : Nat)) (convB9_y (bt s a) rfl rfl hbl (by rfl)) hS ?_
  simp only [Act.put, List.setIfInBounds_toArray, List.set_cons_zero, List.set_cons_succ]
  refine lineY (S := fun u => Below w.heap.size w u ∧ BoxR u w.heap.size k) (.pointer (some ⟨w.heap.size, 0, none⟩)) (yields (by rfl) (fun w => by kernel_rfl)) hS ?_
  simp only [Act.put, List.setIfInBounds_toArray, List.set_cons_zero, List.set_cons_succ]
  refine lineY (S := fun u => Below w.heap.size w u ∧ BoxR u w.heap.size k) (.pointer (some ⟨w.heap.size, 0, none⟩)) (yields (by rfl) (fun w => by kernel_rfl)) hS ?_
  simp only [Act.put, List.setIfInBounds_toArray, List.set_cons_zero, List.set_cons_succ]
  refine lineY (S := fun u => Below w.heap.size w u ∧ BoxR u w.heap.size k) (.pointer (some ⟨w.heap.size, bt s a, none⟩)) (idxA9_y w.heap.size (bt s a) hbl rfl rfl rfl (by rfl)) hS ?_
  simp only [Act.put, List.setIfInBounds_toArray, List.set_cons_zero, List.set_cons_succ]
  refine lineY (S := fun u => Below w.heap.size w u ∧ BoxR u w.heap.size k) (.bool true) (loadB9_y w.heap.size (bt s a) true (fun _ h => (cell_of_row _ _ _ _ _ _ h.2).trans ((rfC_bit k _ hbl).trans (by rw [h2]))) rfl rfl (by rfl)) hS ?_
  simp only [Act.put, List.setIfInBounds_toArray, List.set_cons_zero, List.set_cons_succ]
  refine lineY (S := fun u => Below w.heap.size w u ∧ BoxR u w.heap.size k) (.bool false) (yields (by rfl) (fun w => by kernel_rfl)) hS ?_
  simp only [Act.put, List.setIfInBounds_toArray, List.set_cons_zero, List.set_cons_succ]
  refine lineY (S := fun u => Below w.heap.size w u ∧ BoxR u w.heap.size k) (.bool false) (yields (by rfl) (fun w => by kernel_rfl)) hS ?_
  simp only [Act.put, List.setIfInBounds_toArray, List.set_cons_zero, List.set_cons_succ]
  refine lineY (S := fun u => Below w.heap.size w u ∧ BoxR u w.heap.size k) (.bool false) (yields (by rfl) (fun w => by kernel_rfl)) hS ?_
  simp only [Act.put, List.setIfInBounds_toArray, List.set_cons_zero, List.set_cons_succ]
  have c2 := (BoxR.fa hS.2).trans (by rw [hfa])
  have HB := Lib.hid hS.1
  have HX := Lib.hid hS.2
  clear hS
  go_wp2_with fail
  refine wp_region_held_drew (S := fun u => Below w.heap.size w u ∧ BoxR u w.heap.size k) (by kernel_rfl) (show _ from ⟨HB.out.trans ((Below.refl _ _).drew.mono HB.out.size), HX.out.drew⟩) (fun hS => ?_)
  clear HX HB
  generalize World.drew _ = v0 at hS ⊢
  refine takeAt 0 41 (.string s) rfl rfl (by kernel_rfl) (by kernel_rfl) (by kernel_rfl) (fun _ _ _ h => h) (yields (by rfl) (fun w => by kernel_rfl)) hS ?_
  simp only [Act.put, List.setIfInBounds_toArray, List.set_cons_zero, List.set_cons_succ]
  refine takeAt 1 42 (.int .i64 (s.size : Int)) rfl rfl (by kernel_rfl) (by kernel_rfl) (by kernel_rfl) (fun _ _ _ h => h) (len9_y s rfl rfl (by rfl)) hS ?_
  simp only [Act.put, List.setIfInBounds_toArray, List.set_cons_zero, List.set_cons_succ]
  refine takeAt 2 43 (.int .i64 (a : Int)) rfl rfl (by kernel_rfl) (by kernel_rfl) (by kernel_rfl) (fun _ _ _ h => h) (yields (by rfl) (fun w => by kernel_rfl)) hS ?_
  simp only [Act.put, List.setIfInBounds_toArray, List.set_cons_zero, List.set_cons_succ]
  refine takeAt 3 44 (.int .i64 ((s.size : Int) - (a : Int))) rfl rfl (by kernel_rfl) (by kernel_rfl) (by kernel_rfl) (fun _ _ _ h => h) (sub9_y (s.size : Int) (a : Int) (by omega) (by omega) rfl rfl rfl (by rfl)) hS ?_
  simp only [Act.put, List.setIfInBounds_toArray, List.set_cons_zero, List.set_cons_succ]
  refine takeAt 4 45 (.pointer (some ⟨w.heap.size, 258, none⟩)) rfl rfl (by kernel_rfl) (by kernel_rfl) (by kernel_rfl) (fun _ _ _ h => h) (yields (by rfl) (fun w => by kernel_rfl)) hS ?_
  simp only [Act.put, List.setIfInBounds_toArray, List.set_cons_zero, List.set_cons_succ]
  refine takeAt 5 46 (.string k.pr) rfl rfl (by kernel_rfl) (by kernel_rfl) (by kernel_rfl) (fun _ _ _ h => h) (loadP9_y w.heap.size 258 k.pr (fun _ h => BoxR.pr h.2) rfl rfl (by rfl)) hS ?_
  simp only [Act.put, List.setIfInBounds_toArray, List.set_cons_zero, List.set_cons_succ]
  refine takeAt 6 47 (.int .i64 (k.pr.size : Int)) rfl rfl (by kernel_rfl) (by kernel_rfl) (by kernel_rfl) (fun _ _ _ h => h) (len9_y k.pr rfl rfl (by rfl)) hS ?_
  simp only [Act.put, List.setIfInBounds_toArray, List.set_cons_zero, List.set_cons_succ]
  refine takeAt 7 48 (.bool true) rfl rfl (by kernel_rfl) (by kernel_rfl) (by kernel_rfl) (fun _ _ _ h => h) (lss9_y ((s.size : Int) - (a : Int)) (k.pr.size : Int) true (decide_eq_true (by omega)) rfl rfl rfl (by rfl)) hS ?_
  simp only [Act.put, List.setIfInBounds_toArray, List.set_cons_zero, List.set_cons_succ]
  refine takeAt 8 49 (.bool true) rfl rfl (by kernel_rfl) (by kernel_rfl) (by kernel_rfl) (fun _ _ _ h => h) (yields (by rfl) (fun w => by kernel_rfl)) hS ?_
  simp only [Act.put, List.setIfInBounds_toArray, List.set_cons_zero, List.set_cons_succ]
  refine takeAt 9 50 (undef) rfl rfl (by kernel_rfl) (by kernel_rfl) (by kernel_rfl) (fun _ _ _ h => h) (skipped (by rfl)) hS ?_
  simp only [Act.put, List.setIfInBounds_toArray, List.set_cons_zero, List.set_cons_succ]
  refine takeAt 10 51 (undef) rfl rfl (by kernel_rfl) (by kernel_rfl) (by kernel_rfl) (fun _ _ _ h => h) (skipped (by rfl)) hS ?_
  simp only [Act.put, List.setIfInBounds_toArray, List.set_cons_zero, List.set_cons_succ]
  refine takeAt 11 52 (undef) rfl rfl (by kernel_rfl) (by kernel_rfl) (by kernel_rfl) (fun _ _ _ h => h) (skipped (by rfl)) hS ?_
  simp only [Act.put, List.setIfInBounds_toArray, List.set_cons_zero, List.set_cons_succ]
  refine takeAt 12 53 (undef) rfl rfl (by kernel_rfl) (by kernel_rfl) (by kernel_rfl) (fun _ _ _ h => h) (skipped (by rfl)) hS ?_
  simp only [Act.put, List.setIfInBounds_toArray, List.set_cons_zero, List.set_cons_succ]
  refine takeAt 13 54 (undef) rfl rfl (by kernel_rfl) (by kernel_rfl) (by kernel_rfl) (fun _ _ _ h => h) (skipped (by rfl)) hS ?_
  simp only [Act.put, List.setIfInBounds_toArray, List.set_cons_zero, List.set_cons_succ]
  refine takeAt 14 55 (undef) rfl rfl (by kernel_rfl) (by kernel_rfl) (by kernel_rfl) (fun _ _ _ h => h) (skipped (by rfl)) hS ?_
  simp only [Act.put, List.setIfInBounds_toArray, List.set_cons_zero, List.set_cons_succ]
  refine takeAt 15 56 (undef) rfl rfl (by kernel_rfl) (by kernel_rfl) (by kernel_rfl) (fun _ _ _ h => h) (skipped (by rfl)) hS ?_
  simp only [Act.put, List.setIfInBounds_toArray, List.set_cons_zero, List.set_cons_succ]
  refine takeAt 16 57 (undef) rfl rfl (by kernel_rfl) (by kernel_rfl) (by kernel_rfl) (fun _ _ _ h => h) (skipped (by rfl)) hS ?_
  simp only [Act.put, List.setIfInBounds_toArray, List.set_cons_zero, List.set_cons_succ]
  refine takeAt 17 58 (undef) rfl rfl (by kernel_rfl) (by kernel_rfl) (by kernel_rfl) (fun _ _ _ h => h) (skipped (by rfl)) hS ?_
  simp only [Act.put, List.setIfInBounds_toArray, List.set_cons_zero, List.set_cons_succ]
  refine takeAt 18 59 (undef) rfl rfl (by kernel_rfl) (by kernel_rfl) (by kernel_rfl) (fun _ _ _ h => h) (skipped (by rfl)) hS ?_
  simp only [Act.put, List.setIfInBounds_toArray, List.set_cons_zero, List.set_cons_succ]
  refine takeAt 19 60 (undef) rfl rfl (by kernel_rfl) (by kernel_rfl) (by kernel_rfl) (fun _ _ _ h => h) (skipped (by rfl)) hS ?_
  simp only [Act.put, List.setIfInBounds_toArray, List.set_cons_zero, List.set_cons_succ]
  refine takeAt 20 61 (.bool true) rfl rfl (by kernel_rfl) (by kernel_rfl) (by kernel_rfl) (fun _ _ _ h => h) (yields (by rfl) (fun w => by kernel_rfl)) hS ?_
  simp only [Act.put, List.setIfInBounds_toArray, List.set_cons_zero, List.set_cons_succ]
  refine takeAt 21 6 (.bool true) rfl rfl (by kernel_rfl) (by kernel_rfl) (by kernel_rfl) (fun _ _ _ h => h) (yields (by rfl) (fun w => by kernel_rfl)) hS ?_
  simp only [Act.put, List.setIfInBounds_toArray, List.set_cons_zero, List.set_cons_succ]
  refine wpAnyH_done (by kernel_rfl) ?_ _
  have HB := Lib.hid hS.1
  clear hS
  go_wp2
  go_ret
  exact ⟨rfl, HB.out⟩
set_option maxRecDepth 100000 in
set_option maxHeartbeats 8000000 in
theorem rout_h3 (k : FK) (s : ByteArray) (a : Nat) (ha : a ≤ s.size) (hop : k.op = false) (h1 : a < s.size) (h2 : mem k.F (bt s a) = true) (hfa : k.fa = true) (h3 : a = 0) (h4 : k.pr.size ≤ s.size - a) (w : World) (hs : s.size ≤ 1000000) :
    Calls Tryz.prog 16 #[.agg (rfC k), .string s, .int .i64 (a : Int)] w fun e w' => e = .returned (.bool (!startB s a k.pr)) ∧ Below w.heap.size w w' := by
  obtain ⟨bb, hb0⟩ : ∃ bb, bb = !startB s a k.pr := ⟨_, rfl⟩
  have hbb : ((s.extract a (a + k.pr.size)).toList == k.pr.toList) = !bb := by rw [hb0, start_fit ha h4]; simp
  have _u := And.intro ha hs
  clear _u
  have hS : (fun u => Below w.heap.size w u ∧ BoxR u w.heap.size k) (w.alloc (.cells (rfC k) 39)) := ⟨by go_grown, BoxV.new _ _⟩
  have z0 : ¬ (a : Int) < 0 := by omega
  have z1 : ¬ (s.size : Int) < (a : Int) := by omega
  rw [← hb0]
  clear hb0
  have hbl : bt s a < 256 := bt_lt h1
  have zp : ¬ (0 : Int) < (a : Int) := by omega
  replace h3 := Lib.hid h3
  go_enter Tryz.func16, Tryz.ntmps16
  go_wp2_with (refine lineY (S := fun u => Below w.heap.size w u ∧ BoxR u w.heap.size k) (.pointer (some ⟨w.heap.size, 256, none⟩)) (addr9_y 39 (.tmp 3) 1 _ rfl (fun w => by kernel_rfl) (by rfl)) hS ?_; refine StopS.out ?_)
  refine ⟨?_⟩
  try simp only [Act.put, List.setIfInBounds_toArray, List.set_cons_zero, List.set_cons_succ]
  refine lineY (S := fun u => Below w.heap.size w u ∧ BoxR u w.heap.size k) (.bool false) (loadB9_y w.heap.size 256 false (fun _ h => by rw [BoxR.op h.2, hop]) rfl rfl (by rfl)) hS ?_
  simp only [Act.put, List.setIfInBounds_toArray, List.set_cons_zero, List.set_cons_succ]
  refine lineY (S := fun u => Below w.heap.size w u ∧ BoxR u w.heap.size k) (.bool true) (yields (by rfl) (fun w => by kernel_rfl)) hS ?_
  simp only [Act.put, List.setIfInBounds_toArray, List.set_cons_zero, List.set_cons_succ]
  refine lineY (S := fun u => Below w.heap.size w u ∧ BoxR u w.heap.size k) (.bool true) (yields (by rfl) (fun w => by kernel_rfl)) hS ?_
  simp only [Act.put, List.setIfInBounds_toArray, List.set_cons_zero, List.set_cons_succ]
  refine lineY (S := fun u => Below w.heap.size w u ∧ BoxR u w.heap.size k) (.int .i64 (a : Int)) (yields (by rfl) (fun w => by kernel_rfl)) hS ?_
  simp only [Act.put, List.setIfInBounds_toArray, List.set_cons_zero, List.set_cons_succ]
  refine lineY (S := fun u => Below w.heap.size w u ∧ BoxR u w.heap.size k) (.string s) (yields (by rfl) (fun w => by kernel_rfl)) hS ?_
  simp only [Act.put, List.setIfInBounds_toArray, List.set_cons_zero, List.set_cons_succ]
  refine lineY (S := fun u => Below w.heap.size w u ∧ BoxR u w.heap.size k) (.int .i64 (s.size : Int)) (len9_y s rfl rfl (by rfl)) hS ?_
  simp only [Act.put, List.setIfInBounds_toArray, List.set_cons_zero, List.set_cons_succ]
  refine lineY (S := fun u => Below w.heap.size w u ∧ BoxR u w.heap.size k) (.bool false) (eqlI9_y false (beq_eq_false_iff_ne.2 (by omega)) rfl rfl rfl (by rfl)) hS ?_
  simp only [Act.put, List.setIfInBounds_toArray, List.set_cons_zero, List.set_cons_succ]
  refine lineY (S := fun u => Below w.heap.size w u ∧ BoxR u w.heap.size k) (.bool false) (yields (by rfl) (fun w => by kernel_rfl)) hS ?_
  simp only [Act.put, List.setIfInBounds_toArray, List.set_cons_zero, List.set_cons_succ]
  refine lineY (S := fun u => Below w.heap.size w u ∧ BoxR u w.heap.size k) (.string s) (yields (by rfl) (fun w => by kernel_rfl)) hS ?_
  simp only [Act.put, List.setIfInBounds_toArray, List.set_cons_zero, List.set_cons_succ]
  refine lineY (S := fun u => Below w.heap.size w u ∧ BoxR u w.heap.size k) (.int .i64 (a : Int)) (yields (by rfl) (fun w => by kernel_rfl)) hS ?_
  simp only [Act.put, List.setIfInBounds_toArray, List.set_cons_zero, List.set_cons_succ]
  refine lineY (S := fun u => Below w.heap.size w u ∧ BoxR u w.heap.size k) (.int .u8 (bt s a : Nat)) (idxN9_y s a h1 rfl rfl rfl (by rfl)) hS ?_
  simp only [Act.put, List.setIfInBounds_toArray, List.set_cons_zero, List.set_cons_succ]
  refine lineY (S := fun u => Below w.heap.size w u ∧ BoxR u w.heap.size k) (.int .i64 (bt s a : Nat)) (convB9_y (bt s a) rfl rfl hbl (by rfl)) hS ?_
  simp only [Act.put, List.setIfInBounds_toArray, List.set_cons_zero, List.set_cons_succ]
  refine lineY (S := fun u => Below w.heap.size w u ∧ BoxR u w.heap.size k) (.pointer (some ⟨w.heap.size, 0, none⟩)) (yields (by rfl) (fun w => by kernel_rfl)) hS ?_
  simp only [Act.put, List.setIfInBounds_toArray, List.set_cons_zero, List.set_cons_succ]
  refine lineY (S := fun u => Below w.heap.size w u ∧ BoxR u w.heap.size k) (.pointer (some ⟨w.heap.size, 0, none⟩)) (yields (by rfl) (fun w => by kernel_rfl)) hS ?_
  simp only [Act.put, List.setIfInBounds_toArray, List.set_cons_zero, List.set_cons_succ]
  refine lineY (S := fun u => Below w.heap.size w u ∧ BoxR u w.heap.size k) (.pointer (some ⟨w.heap.size, bt s a, none⟩)) (idxA9_y w.heap.size (bt s a) hbl rfl rfl rfl (by rfl)) hS ?_
  simp only [Act.put, List.setIfInBounds_toArray, List.set_cons_zero, List.set_cons_succ]
  refine lineY (S := fun u => Below w.heap.size w u ∧ BoxR u w.heap.size k) (.bool true) (loadB9_y w.heap.size (bt s a) true (fun _ h => (cell_of_row _ _ _ _ _ _ h.2).trans ((rfC_bit k _ hbl).trans (by rw [h2]))) rfl rfl (by rfl)) hS ?_
  simp only [Act.put, List.setIfInBounds_toArray, List.set_cons_zero, List.set_cons_succ]
  refine lineY (S := fun u => Below w.heap.size w u ∧ BoxR u w.heap.size k) (.bool false) (yields (by rfl) (fun w => by kernel_rfl)) hS ?_
  simp only [Act.put, List.setIfInBounds_toArray, List.set_cons_zero, List.set_cons_succ]
  refine lineY (S := fun u => Below w.heap.size w u ∧ BoxR u w.heap.size k) (.bool false) (yields (by rfl) (fun w => by kernel_rfl)) hS ?_
  simp only [Act.put, List.setIfInBounds_toArray, List.set_cons_zero, List.set_cons_succ]
  refine lineY (S := fun u => Below w.heap.size w u ∧ BoxR u w.heap.size k) (.bool false) (yields (by rfl) (fun w => by kernel_rfl)) hS ?_
  simp only [Act.put, List.setIfInBounds_toArray, List.set_cons_zero, List.set_cons_succ]
  have c2 := (BoxR.fa hS.2).trans (by rw [hfa])
  have HB := Lib.hid hS.1
  have HX := Lib.hid hS.2
  clear hS
  go_wp2_with fail
  refine wp_region_held_drew (S := fun u => Below w.heap.size w u ∧ BoxR u w.heap.size k) (by kernel_rfl) (show _ from ⟨HB.out.trans ((Below.refl _ _).drew.mono HB.out.size), HX.out.drew⟩) (fun hS => ?_)
  clear HX HB
  generalize World.drew _ = v0 at hS ⊢
  refine takeAt 0 41 (.string s) rfl rfl (by kernel_rfl) (by kernel_rfl) (by kernel_rfl) (fun _ _ _ h => h) (yields (by rfl) (fun w => by kernel_rfl)) hS ?_
  simp only [Act.put, List.setIfInBounds_toArray, List.set_cons_zero, List.set_cons_succ]
  refine takeAt 1 42 (.int .i64 (s.size : Int)) rfl rfl (by kernel_rfl) (by kernel_rfl) (by kernel_rfl) (fun _ _ _ h => h) (len9_y s rfl rfl (by rfl)) hS ?_
  simp only [Act.put, List.setIfInBounds_toArray, List.set_cons_zero, List.set_cons_succ]
  refine takeAt 2 43 (.int .i64 (a : Int)) rfl rfl (by kernel_rfl) (by kernel_rfl) (by kernel_rfl) (fun _ _ _ h => h) (yields (by rfl) (fun w => by kernel_rfl)) hS ?_
  simp only [Act.put, List.setIfInBounds_toArray, List.set_cons_zero, List.set_cons_succ]
  refine takeAt 3 44 (.int .i64 ((s.size : Int) - (a : Int))) rfl rfl (by kernel_rfl) (by kernel_rfl) (by kernel_rfl) (fun _ _ _ h => h) (sub9_y (s.size : Int) (a : Int) (by omega) (by omega) rfl rfl rfl (by rfl)) hS ?_
  simp only [Act.put, List.setIfInBounds_toArray, List.set_cons_zero, List.set_cons_succ]
  refine takeAt 4 45 (.pointer (some ⟨w.heap.size, 258, none⟩)) rfl rfl (by kernel_rfl) (by kernel_rfl) (by kernel_rfl) (fun _ _ _ h => h) (yields (by rfl) (fun w => by kernel_rfl)) hS ?_
  simp only [Act.put, List.setIfInBounds_toArray, List.set_cons_zero, List.set_cons_succ]
  refine takeAt 5 46 (.string k.pr) rfl rfl (by kernel_rfl) (by kernel_rfl) (by kernel_rfl) (fun _ _ _ h => h) (loadP9_y w.heap.size 258 k.pr (fun _ h => BoxR.pr h.2) rfl rfl (by rfl)) hS ?_
  simp only [Act.put, List.setIfInBounds_toArray, List.set_cons_zero, List.set_cons_succ]
  refine takeAt 6 47 (.int .i64 (k.pr.size : Int)) rfl rfl (by kernel_rfl) (by kernel_rfl) (by kernel_rfl) (fun _ _ _ h => h) (len9_y k.pr rfl rfl (by rfl)) hS ?_
  simp only [Act.put, List.setIfInBounds_toArray, List.set_cons_zero, List.set_cons_succ]
  refine takeAt 7 48 (.bool false) rfl rfl (by kernel_rfl) (by kernel_rfl) (by kernel_rfl) (fun _ _ _ h => h) (lss9_y ((s.size : Int) - (a : Int)) (k.pr.size : Int) false (decide_eq_false (by omega)) rfl rfl rfl (by rfl)) hS ?_
  simp only [Act.put, List.setIfInBounds_toArray, List.set_cons_zero, List.set_cons_succ]
  refine takeAt 8 49 (.bool false) rfl rfl (by kernel_rfl) (by kernel_rfl) (by kernel_rfl) (fun _ _ _ h => h) (yields (by rfl) (fun w => by kernel_rfl)) hS ?_
  simp only [Act.put, List.setIfInBounds_toArray, List.set_cons_zero, List.set_cons_succ]
  refine takeAt 9 50 (.string s) rfl rfl (by kernel_rfl) (by kernel_rfl) (by kernel_rfl) (fun _ _ _ h => h) (yields (by rfl) (fun w => by kernel_rfl)) hS ?_
  simp only [Act.put, List.setIfInBounds_toArray, List.set_cons_zero, List.set_cons_succ]
  refine takeAt 10 51 (.int .i64 (a : Int)) rfl rfl (by kernel_rfl) (by kernel_rfl) (by kernel_rfl) (fun _ _ _ h => h) (yields (by rfl) (fun w => by kernel_rfl)) hS ?_
  simp only [Act.put, List.setIfInBounds_toArray, List.set_cons_zero, List.set_cons_succ]
  refine takeAt 11 52 (.int .i64 (a : Int)) rfl rfl (by kernel_rfl) (by kernel_rfl) (by kernel_rfl) (fun _ _ _ h => h) (yields (by rfl) (fun w => by kernel_rfl)) hS ?_
  simp only [Act.put, List.setIfInBounds_toArray, List.set_cons_zero, List.set_cons_succ]
  refine takeAt 12 53 (.pointer (some ⟨w.heap.size, 258, none⟩)) rfl rfl (by kernel_rfl) (by kernel_rfl) (by kernel_rfl) (fun _ _ _ h => h) (yields (by rfl) (fun w => by kernel_rfl)) hS ?_
  simp only [Act.put, List.setIfInBounds_toArray, List.set_cons_zero, List.set_cons_succ]
  refine takeAt 13 54 (.string k.pr) rfl rfl (by kernel_rfl) (by kernel_rfl) (by kernel_rfl) (fun _ _ _ h => h) (loadP9_y w.heap.size 258 k.pr (fun _ h => BoxR.pr h.2) rfl rfl (by rfl)) hS ?_
  simp only [Act.put, List.setIfInBounds_toArray, List.set_cons_zero, List.set_cons_succ]
  refine takeAt 14 55 (.int .i64 (k.pr.size : Int)) rfl rfl (by kernel_rfl) (by kernel_rfl) (by kernel_rfl) (fun _ _ _ h => h) (len9_y k.pr rfl rfl (by rfl)) hS ?_
  simp only [Act.put, List.setIfInBounds_toArray, List.set_cons_zero, List.set_cons_succ]
  refine takeAt 15 56 (.int .i64 ((a : Int) + (k.pr.size : Int))) rfl rfl (by kernel_rfl) (by kernel_rfl) (by kernel_rfl) (fun _ _ _ h => h) (add9_y (a : Int) (k.pr.size : Int) (by omega) (by omega) rfl rfl rfl (by rfl)) hS ?_
  simp only [Act.put, List.setIfInBounds_toArray, List.set_cons_zero, List.set_cons_succ]
  refine takeAt 16 57 (.string (s.extract a (a + k.pr.size))) rfl rfl (by kernel_rfl) (by kernel_rfl) (by kernel_rfl) (fun _ _ _ h => h) (sliceIn9_y s a (a + k.pr.size) (by omega) (by omega) (by omega) rfl rfl rfl rfl (by rfl)) hS ?_
  simp only [Act.put, List.setIfInBounds_toArray, List.set_cons_zero, List.set_cons_succ]
  refine takeAt 17 58 (.pointer (some ⟨w.heap.size, 258, none⟩)) rfl rfl (by kernel_rfl) (by kernel_rfl) (by kernel_rfl) (fun _ _ _ h => h) (yields (by rfl) (fun w => by kernel_rfl)) hS ?_
  simp only [Act.put, List.setIfInBounds_toArray, List.set_cons_zero, List.set_cons_succ]
  refine takeAt 18 59 (.string k.pr) rfl rfl (by kernel_rfl) (by kernel_rfl) (by kernel_rfl) (fun _ _ _ h => h) (loadP9_y w.heap.size 258 k.pr (fun _ h => BoxR.pr h.2) rfl rfl (by rfl)) hS ?_
  simp only [Act.put, List.setIfInBounds_toArray, List.set_cons_zero, List.set_cons_succ]
  refine takeAt 19 60 (.bool bb) rfl rfl (by kernel_rfl) (by kernel_rfl) (by kernel_rfl) (fun _ _ _ h => h) (neqS9_y (s.extract a (a + k.pr.size)) k.pr bb hbb rfl rfl rfl (by rfl)) hS ?_
  simp only [Act.put, List.setIfInBounds_toArray, List.set_cons_zero, List.set_cons_succ]
  refine takeAt 20 61 (.bool bb) rfl rfl (by kernel_rfl) (by kernel_rfl) (by kernel_rfl) (fun _ _ _ h => h) (yields (by rfl) (fun w => by kernel_rfl)) hS ?_
  simp only [Act.put, List.setIfInBounds_toArray, List.set_cons_zero, List.set_cons_succ]
  refine takeAt 21 6 (.bool bb) rfl rfl (by kernel_rfl) (by kernel_rfl) (by kernel_rfl) (fun _ _ _ h => h) (yields (by rfl) (fun w => by kernel_rfl)) hS ?_
  simp only [Act.put, List.setIfInBounds_toArray, List.set_cons_zero, List.set_cons_succ]
  refine wpAnyH_done (by kernel_rfl) ?_ _
  have HB := Lib.hid hS.1
  clear hS
  go_wp2
  go_ret
  exact ⟨rfl, HB.out⟩
set_option maxRecDepth 100000 in
set_option maxHeartbeats 8000000 in
theorem rout_h4 (k : FK) (s : ByteArray) (a : Nat) (ha : a ≤ s.size) (hop : k.op = false) (h1 : a < s.size) (h2 : mem k.F (bt s a) = true) (hfa : k.fa = false) (h4 : s.size - a < k.pr.size) (w : World) (hs : s.size ≤ 1000000) :
    Calls Tryz.prog 16 #[.agg (rfC k), .string s, .int .i64 (a : Int)] w fun e w' => e = .returned (.bool (true)) ∧ Below w.heap.size w w' := by
  have _u := And.intro ha hs
  clear _u
  have hS : (fun u => Below w.heap.size w u ∧ BoxR u w.heap.size k) (w.alloc (.cells (rfC k) 39)) := ⟨by go_grown, BoxV.new _ _⟩
  have z0 : ¬ (a : Int) < 0 := by omega
  have z1 : ¬ (s.size : Int) < (a : Int) := by omega
  have hbl : bt s a < 256 := bt_lt h1
  go_enter Tryz.func16, Tryz.ntmps16
  go_wp2_with (refine lineY (S := fun u => Below w.heap.size w u ∧ BoxR u w.heap.size k) (.pointer (some ⟨w.heap.size, 256, none⟩)) (addr9_y 39 (.tmp 3) 1 _ rfl (fun w => by kernel_rfl) (by rfl)) hS ?_; refine StopS.out ?_)
  refine ⟨?_⟩
  try simp only [Act.put, List.setIfInBounds_toArray, List.set_cons_zero, List.set_cons_succ]
  refine lineY (S := fun u => Below w.heap.size w u ∧ BoxR u w.heap.size k) (.bool false) (loadB9_y w.heap.size 256 false (fun _ h => by rw [BoxR.op h.2, hop]) rfl rfl (by rfl)) hS ?_
  simp only [Act.put, List.setIfInBounds_toArray, List.set_cons_zero, List.set_cons_succ]
  refine lineY (S := fun u => Below w.heap.size w u ∧ BoxR u w.heap.size k) (.bool true) (yields (by rfl) (fun w => by kernel_rfl)) hS ?_
  simp only [Act.put, List.setIfInBounds_toArray, List.set_cons_zero, List.set_cons_succ]
  refine lineY (S := fun u => Below w.heap.size w u ∧ BoxR u w.heap.size k) (.bool true) (yields (by rfl) (fun w => by kernel_rfl)) hS ?_
  simp only [Act.put, List.setIfInBounds_toArray, List.set_cons_zero, List.set_cons_succ]
  refine lineY (S := fun u => Below w.heap.size w u ∧ BoxR u w.heap.size k) (.int .i64 (a : Int)) (yields (by rfl) (fun w => by kernel_rfl)) hS ?_
  simp only [Act.put, List.setIfInBounds_toArray, List.set_cons_zero, List.set_cons_succ]
  refine lineY (S := fun u => Below w.heap.size w u ∧ BoxR u w.heap.size k) (.string s) (yields (by rfl) (fun w => by kernel_rfl)) hS ?_
  simp only [Act.put, List.setIfInBounds_toArray, List.set_cons_zero, List.set_cons_succ]
  refine lineY (S := fun u => Below w.heap.size w u ∧ BoxR u w.heap.size k) (.int .i64 (s.size : Int)) (len9_y s rfl rfl (by rfl)) hS ?_
  simp only [Act.put, List.setIfInBounds_toArray, List.set_cons_zero, List.set_cons_succ]
  refine lineY (S := fun u => Below w.heap.size w u ∧ BoxR u w.heap.size k) (.bool false) (eqlI9_y false (beq_eq_false_iff_ne.2 (by omega)) rfl rfl rfl (by rfl)) hS ?_
  simp only [Act.put, List.setIfInBounds_toArray, List.set_cons_zero, List.set_cons_succ]
  refine lineY (S := fun u => Below w.heap.size w u ∧ BoxR u w.heap.size k) (.bool false) (yields (by rfl) (fun w => by kernel_rfl)) hS ?_
  simp only [Act.put, List.setIfInBounds_toArray, List.set_cons_zero, List.set_cons_succ]
  refine lineY (S := fun u => Below w.heap.size w u ∧ BoxR u w.heap.size k) (.string s) (yields (by rfl) (fun w => by kernel_rfl)) hS ?_
  simp only [Act.put, List.setIfInBounds_toArray, List.set_cons_zero, List.set_cons_succ]
  refine lineY (S := fun u => Below w.heap.size w u ∧ BoxR u w.heap.size k) (.int .i64 (a : Int)) (yields (by rfl) (fun w => by kernel_rfl)) hS ?_
  simp only [Act.put, List.setIfInBounds_toArray, List.set_cons_zero, List.set_cons_succ]
  refine lineY (S := fun u => Below w.heap.size w u ∧ BoxR u w.heap.size k) (.int .u8 (bt s a : Nat)) (idxN9_y s a h1 rfl rfl rfl (by rfl)) hS ?_
  simp only [Act.put, List.setIfInBounds_toArray, List.set_cons_zero, List.set_cons_succ]
  refine lineY (S := fun u => Below w.heap.size w u ∧ BoxR u w.heap.size k) (.int .i64 (bt s a : Nat)) (convB9_y (bt s a) rfl rfl hbl (by rfl)) hS ?_
  simp only [Act.put, List.setIfInBounds_toArray, List.set_cons_zero, List.set_cons_succ]
  refine lineY (S := fun u => Below w.heap.size w u ∧ BoxR u w.heap.size k) (.pointer (some ⟨w.heap.size, 0, none⟩)) (yields (by rfl) (fun w => by kernel_rfl)) hS ?_
  simp only [Act.put, List.setIfInBounds_toArray, List.set_cons_zero, List.set_cons_succ]
  refine lineY (S := fun u => Below w.heap.size w u ∧ BoxR u w.heap.size k) (.pointer (some ⟨w.heap.size, 0, none⟩)) (yields (by rfl) (fun w => by kernel_rfl)) hS ?_
  simp only [Act.put, List.setIfInBounds_toArray, List.set_cons_zero, List.set_cons_succ]
  refine lineY (S := fun u => Below w.heap.size w u ∧ BoxR u w.heap.size k) (.pointer (some ⟨w.heap.size, bt s a, none⟩)) (idxA9_y w.heap.size (bt s a) hbl rfl rfl rfl (by rfl)) hS ?_
  simp only [Act.put, List.setIfInBounds_toArray, List.set_cons_zero, List.set_cons_succ]
  refine lineY (S := fun u => Below w.heap.size w u ∧ BoxR u w.heap.size k) (.bool true) (loadB9_y w.heap.size (bt s a) true (fun _ h => (cell_of_row _ _ _ _ _ _ h.2).trans ((rfC_bit k _ hbl).trans (by rw [h2]))) rfl rfl (by rfl)) hS ?_
  simp only [Act.put, List.setIfInBounds_toArray, List.set_cons_zero, List.set_cons_succ]
  refine lineY (S := fun u => Below w.heap.size w u ∧ BoxR u w.heap.size k) (.bool false) (yields (by rfl) (fun w => by kernel_rfl)) hS ?_
  simp only [Act.put, List.setIfInBounds_toArray, List.set_cons_zero, List.set_cons_succ]
  refine lineY (S := fun u => Below w.heap.size w u ∧ BoxR u w.heap.size k) (.bool false) (yields (by rfl) (fun w => by kernel_rfl)) hS ?_
  simp only [Act.put, List.setIfInBounds_toArray, List.set_cons_zero, List.set_cons_succ]
  refine lineY (S := fun u => Below w.heap.size w u ∧ BoxR u w.heap.size k) (.bool false) (yields (by rfl) (fun w => by kernel_rfl)) hS ?_
  simp only [Act.put, List.setIfInBounds_toArray, List.set_cons_zero, List.set_cons_succ]
  have c2 := (BoxR.fa hS.2).trans (by rw [hfa])
  have HB := Lib.hid hS.1
  have HX := Lib.hid hS.2
  clear hS
  go_wp2_with fail
  refine wp_region_held_drew (S := fun u => Below w.heap.size w u ∧ BoxR u w.heap.size k) (by kernel_rfl) (show _ from ⟨HB.out.trans ((Below.refl _ _).drew.mono HB.out.size), HX.out.drew⟩) (fun hS => ?_)
  clear HX HB
  generalize World.drew _ = v0 at hS ⊢
  refine takeAt 0 41 (.string s) rfl rfl (by kernel_rfl) (by kernel_rfl) (by kernel_rfl) (fun _ _ _ h => h) (yields (by rfl) (fun w => by kernel_rfl)) hS ?_
  simp only [Act.put, List.setIfInBounds_toArray, List.set_cons_zero, List.set_cons_succ]
  refine takeAt 1 42 (.int .i64 (s.size : Int)) rfl rfl (by kernel_rfl) (by kernel_rfl) (by kernel_rfl) (fun _ _ _ h => h) (len9_y s rfl rfl (by rfl)) hS ?_
  simp only [Act.put, List.setIfInBounds_toArray, List.set_cons_zero, List.set_cons_succ]
  refine takeAt 2 43 (.int .i64 (a : Int)) rfl rfl (by kernel_rfl) (by kernel_rfl) (by kernel_rfl) (fun _ _ _ h => h) (yields (by rfl) (fun w => by kernel_rfl)) hS ?_
  simp only [Act.put, List.setIfInBounds_toArray, List.set_cons_zero, List.set_cons_succ]
  refine takeAt 3 44 (.int .i64 ((s.size : Int) - (a : Int))) rfl rfl (by kernel_rfl) (by kernel_rfl) (by kernel_rfl) (fun _ _ _ h => h) (sub9_y (s.size : Int) (a : Int) (by omega) (by omega) rfl rfl rfl (by rfl)) hS ?_
  simp only [Act.put, List.setIfInBounds_toArray, List.set_cons_zero, List.set_cons_succ]
  refine takeAt 4 45 (.pointer (some ⟨w.heap.size, 258, none⟩)) rfl rfl (by kernel_rfl) (by kernel_rfl) (by kernel_rfl) (fun _ _ _ h => h) (yields (by rfl) (fun w => by kernel_rfl)) hS ?_
  simp only [Act.put, List.setIfInBounds_toArray, List.set_cons_zero, List.set_cons_succ]
  refine takeAt 5 46 (.string k.pr) rfl rfl (by kernel_rfl) (by kernel_rfl) (by kernel_rfl) (fun _ _ _ h => h) (loadP9_y w.heap.size 258 k.pr (fun _ h => BoxR.pr h.2) rfl rfl (by rfl)) hS ?_
  simp only [Act.put, List.setIfInBounds_toArray, List.set_cons_zero, List.set_cons_succ]
  refine takeAt 6 47 (.int .i64 (k.pr.size : Int)) rfl rfl (by kernel_rfl) (by kernel_rfl) (by kernel_rfl) (fun _ _ _ h => h) (len9_y k.pr rfl rfl (by rfl)) hS ?_
  simp only [Act.put, List.setIfInBounds_toArray, List.set_cons_zero, List.set_cons_succ]
  refine takeAt 7 48 (.bool true) rfl rfl (by kernel_rfl) (by kernel_rfl) (by kernel_rfl) (fun _ _ _ h => h) (lss9_y ((s.size : Int) - (a : Int)) (k.pr.size : Int) true (decide_eq_true (by omega)) rfl rfl rfl (by rfl)) hS ?_
  simp only [Act.put, List.setIfInBounds_toArray, List.set_cons_zero, List.set_cons_succ]
  refine takeAt 8 49 (.bool true) rfl rfl (by kernel_rfl) (by kernel_rfl) (by kernel_rfl) (fun _ _ _ h => h) (yields (by rfl) (fun w => by kernel_rfl)) hS ?_
  simp only [Act.put, List.setIfInBounds_toArray, List.set_cons_zero, List.set_cons_succ]
  refine takeAt 9 50 (undef) rfl rfl (by kernel_rfl) (by kernel_rfl) (by kernel_rfl) (fun _ _ _ h => h) (skipped (by rfl)) hS ?_
  simp only [Act.put, List.setIfInBounds_toArray, List.set_cons_zero, List.set_cons_succ]
  refine takeAt 10 51 (undef) rfl rfl (by kernel_rfl) (by kernel_rfl) (by kernel_rfl) (fun _ _ _ h => h) (skipped (by rfl)) hS ?_
  simp only [Act.put, List.setIfInBounds_toArray, List.set_cons_zero, List.set_cons_succ]
  refine takeAt 11 52 (undef) rfl rfl (by kernel_rfl) (by kernel_rfl) (by kernel_rfl) (fun _ _ _ h => h) (skipped (by rfl)) hS ?_
  simp only [Act.put, List.setIfInBounds_toArray, List.set_cons_zero, List.set_cons_succ]
  refine takeAt 12 53 (undef) rfl rfl (by kernel_rfl) (by kernel_rfl) (by kernel_rfl) (fun _ _ _ h => h) (skipped (by rfl)) hS ?_
  simp only [Act.put, List.setIfInBounds_toArray, List.set_cons_zero, List.set_cons_succ]
  refine takeAt 13 54 (undef) rfl rfl (by kernel_rfl) (by kernel_rfl) (by kernel_rfl) (fun _ _ _ h => h) (skipped (by rfl)) hS ?_
  simp only [Act.put, List.setIfInBounds_toArray, List.set_cons_zero, List.set_cons_succ]
  refine takeAt 14 55 (undef) rfl rfl (by kernel_rfl) (by kernel_rfl) (by kernel_rfl) (fun _ _ _ h => h) (skipped (by rfl)) hS ?_
  simp only [Act.put, List.setIfInBounds_toArray, List.set_cons_zero, List.set_cons_succ]
  refine takeAt 15 56 (undef) rfl rfl (by kernel_rfl) (by kernel_rfl) (by kernel_rfl) (fun _ _ _ h => h) (skipped (by rfl)) hS ?_
  simp only [Act.put, List.setIfInBounds_toArray, List.set_cons_zero, List.set_cons_succ]
  refine takeAt 16 57 (undef) rfl rfl (by kernel_rfl) (by kernel_rfl) (by kernel_rfl) (fun _ _ _ h => h) (skipped (by rfl)) hS ?_
  simp only [Act.put, List.setIfInBounds_toArray, List.set_cons_zero, List.set_cons_succ]
  refine takeAt 17 58 (undef) rfl rfl (by kernel_rfl) (by kernel_rfl) (by kernel_rfl) (fun _ _ _ h => h) (skipped (by rfl)) hS ?_
  simp only [Act.put, List.setIfInBounds_toArray, List.set_cons_zero, List.set_cons_succ]
  refine takeAt 18 59 (undef) rfl rfl (by kernel_rfl) (by kernel_rfl) (by kernel_rfl) (fun _ _ _ h => h) (skipped (by rfl)) hS ?_
  simp only [Act.put, List.setIfInBounds_toArray, List.set_cons_zero, List.set_cons_succ]
  refine takeAt 19 60 (undef) rfl rfl (by kernel_rfl) (by kernel_rfl) (by kernel_rfl) (fun _ _ _ h => h) (skipped (by rfl)) hS ?_
  simp only [Act.put, List.setIfInBounds_toArray, List.set_cons_zero, List.set_cons_succ]
  refine takeAt 20 61 (.bool true) rfl rfl (by kernel_rfl) (by kernel_rfl) (by kernel_rfl) (fun _ _ _ h => h) (yields (by rfl) (fun w => by kernel_rfl)) hS ?_
  simp only [Act.put, List.setIfInBounds_toArray, List.set_cons_zero, List.set_cons_succ]
  refine takeAt 21 6 (.bool true) rfl rfl (by kernel_rfl) (by kernel_rfl) (by kernel_rfl) (fun _ _ _ h => h) (yields (by rfl) (fun w => by kernel_rfl)) hS ?_
  simp only [Act.put, List.setIfInBounds_toArray, List.set_cons_zero, List.set_cons_succ]
  refine wpAnyH_done (by kernel_rfl) ?_ _
  have HB := Lib.hid hS.1
  clear hS
  go_wp2
  go_ret
  exact ⟨rfl, HB.out⟩
set_option maxRecDepth 100000 in
set_option maxHeartbeats 8000000 in
theorem rout_h5 (k : FK) (s : ByteArray) (a : Nat) (ha : a ≤ s.size) (hop : k.op = false) (h1 : a < s.size) (h2 : mem k.F (bt s a) = true) (hfa : k.fa = false) (h4 : k.pr.size ≤ s.size - a) (w : World) (hs : s.size ≤ 1000000) :
    Calls Tryz.prog 16 #[.agg (rfC k), .string s, .int .i64 (a : Int)] w fun e w' => e = .returned (.bool (!startB s a k.pr)) ∧ Below w.heap.size w w' := by
  obtain ⟨bb, hb0⟩ : ∃ bb, bb = !startB s a k.pr := ⟨_, rfl⟩
  have hbb : ((s.extract a (a + k.pr.size)).toList == k.pr.toList) = !bb := by rw [hb0, start_fit ha h4]; simp
  have _u := And.intro ha hs
  clear _u
  have hS : (fun u => Below w.heap.size w u ∧ BoxR u w.heap.size k) (w.alloc (.cells (rfC k) 39)) := ⟨by go_grown, BoxV.new _ _⟩
  have z0 : ¬ (a : Int) < 0 := by omega
  have z1 : ¬ (s.size : Int) < (a : Int) := by omega
  rw [← hb0]
  clear hb0
  have hbl : bt s a < 256 := bt_lt h1
  go_enter Tryz.func16, Tryz.ntmps16
  go_wp2_with (refine lineY (S := fun u => Below w.heap.size w u ∧ BoxR u w.heap.size k) (.pointer (some ⟨w.heap.size, 256, none⟩)) (addr9_y 39 (.tmp 3) 1 _ rfl (fun w => by kernel_rfl) (by rfl)) hS ?_; refine StopS.out ?_)
  refine ⟨?_⟩
  try simp only [Act.put, List.setIfInBounds_toArray, List.set_cons_zero, List.set_cons_succ]
  refine lineY (S := fun u => Below w.heap.size w u ∧ BoxR u w.heap.size k) (.bool false) (loadB9_y w.heap.size 256 false (fun _ h => by rw [BoxR.op h.2, hop]) rfl rfl (by rfl)) hS ?_
  simp only [Act.put, List.setIfInBounds_toArray, List.set_cons_zero, List.set_cons_succ]
  refine lineY (S := fun u => Below w.heap.size w u ∧ BoxR u w.heap.size k) (.bool true) (yields (by rfl) (fun w => by kernel_rfl)) hS ?_
  simp only [Act.put, List.setIfInBounds_toArray, List.set_cons_zero, List.set_cons_succ]
  refine lineY (S := fun u => Below w.heap.size w u ∧ BoxR u w.heap.size k) (.bool true) (yields (by rfl) (fun w => by kernel_rfl)) hS ?_
  simp only [Act.put, List.setIfInBounds_toArray, List.set_cons_zero, List.set_cons_succ]
  refine lineY (S := fun u => Below w.heap.size w u ∧ BoxR u w.heap.size k) (.int .i64 (a : Int)) (yields (by rfl) (fun w => by kernel_rfl)) hS ?_
  simp only [Act.put, List.setIfInBounds_toArray, List.set_cons_zero, List.set_cons_succ]
  refine lineY (S := fun u => Below w.heap.size w u ∧ BoxR u w.heap.size k) (.string s) (yields (by rfl) (fun w => by kernel_rfl)) hS ?_
  simp only [Act.put, List.setIfInBounds_toArray, List.set_cons_zero, List.set_cons_succ]
  refine lineY (S := fun u => Below w.heap.size w u ∧ BoxR u w.heap.size k) (.int .i64 (s.size : Int)) (len9_y s rfl rfl (by rfl)) hS ?_
  simp only [Act.put, List.setIfInBounds_toArray, List.set_cons_zero, List.set_cons_succ]
  refine lineY (S := fun u => Below w.heap.size w u ∧ BoxR u w.heap.size k) (.bool false) (eqlI9_y false (beq_eq_false_iff_ne.2 (by omega)) rfl rfl rfl (by rfl)) hS ?_
  simp only [Act.put, List.setIfInBounds_toArray, List.set_cons_zero, List.set_cons_succ]
  refine lineY (S := fun u => Below w.heap.size w u ∧ BoxR u w.heap.size k) (.bool false) (yields (by rfl) (fun w => by kernel_rfl)) hS ?_
  simp only [Act.put, List.setIfInBounds_toArray, List.set_cons_zero, List.set_cons_succ]
  refine lineY (S := fun u => Below w.heap.size w u ∧ BoxR u w.heap.size k) (.string s) (yields (by rfl) (fun w => by kernel_rfl)) hS ?_
  simp only [Act.put, List.setIfInBounds_toArray, List.set_cons_zero, List.set_cons_succ]
  refine lineY (S := fun u => Below w.heap.size w u ∧ BoxR u w.heap.size k) (.int .i64 (a : Int)) (yields (by rfl) (fun w => by kernel_rfl)) hS ?_
  simp only [Act.put, List.setIfInBounds_toArray, List.set_cons_zero, List.set_cons_succ]
  refine lineY (S := fun u => Below w.heap.size w u ∧ BoxR u w.heap.size k) (.int .u8 (bt s a : Nat)) (idxN9_y s a h1 rfl rfl rfl (by rfl)) hS ?_
  simp only [Act.put, List.setIfInBounds_toArray, List.set_cons_zero, List.set_cons_succ]
  refine lineY (S := fun u => Below w.heap.size w u ∧ BoxR u w.heap.size k) (.int .i64 (bt s a : Nat)) (convB9_y (bt s a) rfl rfl hbl (by rfl)) hS ?_
  simp only [Act.put, List.setIfInBounds_toArray, List.set_cons_zero, List.set_cons_succ]
  refine lineY (S := fun u => Below w.heap.size w u ∧ BoxR u w.heap.size k) (.pointer (some ⟨w.heap.size, 0, none⟩)) (yields (by rfl) (fun w => by kernel_rfl)) hS ?_
  simp only [Act.put, List.setIfInBounds_toArray, List.set_cons_zero, List.set_cons_succ]
  refine lineY (S := fun u => Below w.heap.size w u ∧ BoxR u w.heap.size k) (.pointer (some ⟨w.heap.size, 0, none⟩)) (yields (by rfl) (fun w => by kernel_rfl)) hS ?_
  simp only [Act.put, List.setIfInBounds_toArray, List.set_cons_zero, List.set_cons_succ]
  refine lineY (S := fun u => Below w.heap.size w u ∧ BoxR u w.heap.size k) (.pointer (some ⟨w.heap.size, bt s a, none⟩)) (idxA9_y w.heap.size (bt s a) hbl rfl rfl rfl (by rfl)) hS ?_
  simp only [Act.put, List.setIfInBounds_toArray, List.set_cons_zero, List.set_cons_succ]
  refine lineY (S := fun u => Below w.heap.size w u ∧ BoxR u w.heap.size k) (.bool true) (loadB9_y w.heap.size (bt s a) true (fun _ h => (cell_of_row _ _ _ _ _ _ h.2).trans ((rfC_bit k _ hbl).trans (by rw [h2]))) rfl rfl (by rfl)) hS ?_
  simp only [Act.put, List.setIfInBounds_toArray, List.set_cons_zero, List.set_cons_succ]
  refine lineY (S := fun u => Below w.heap.size w u ∧ BoxR u w.heap.size k) (.bool false) (yields (by rfl) (fun w => by kernel_rfl)) hS ?_
  simp only [Act.put, List.setIfInBounds_toArray, List.set_cons_zero, List.set_cons_succ]
  refine lineY (S := fun u => Below w.heap.size w u ∧ BoxR u w.heap.size k) (.bool false) (yields (by rfl) (fun w => by kernel_rfl)) hS ?_
  simp only [Act.put, List.setIfInBounds_toArray, List.set_cons_zero, List.set_cons_succ]
  refine lineY (S := fun u => Below w.heap.size w u ∧ BoxR u w.heap.size k) (.bool false) (yields (by rfl) (fun w => by kernel_rfl)) hS ?_
  simp only [Act.put, List.setIfInBounds_toArray, List.set_cons_zero, List.set_cons_succ]
  have c2 := (BoxR.fa hS.2).trans (by rw [hfa])
  have HB := Lib.hid hS.1
  have HX := Lib.hid hS.2
  clear hS
  go_wp2_with fail
  refine wp_region_held_drew (S := fun u => Below w.heap.size w u ∧ BoxR u w.heap.size k) (by kernel_rfl) (show _ from ⟨HB.out.trans ((Below.refl _ _).drew.mono HB.out.size), HX.out.drew⟩) (fun hS => ?_)
  clear HX HB
  generalize World.drew _ = v0 at hS ⊢
  refine takeAt 0 41 (.string s) rfl rfl (by kernel_rfl) (by kernel_rfl) (by kernel_rfl) (fun _ _ _ h => h) (yields (by rfl) (fun w => by kernel_rfl)) hS ?_
  simp only [Act.put, List.setIfInBounds_toArray, List.set_cons_zero, List.set_cons_succ]
  refine takeAt 1 42 (.int .i64 (s.size : Int)) rfl rfl (by kernel_rfl) (by kernel_rfl) (by kernel_rfl) (fun _ _ _ h => h) (len9_y s rfl rfl (by rfl)) hS ?_
  simp only [Act.put, List.setIfInBounds_toArray, List.set_cons_zero, List.set_cons_succ]
  refine takeAt 2 43 (.int .i64 (a : Int)) rfl rfl (by kernel_rfl) (by kernel_rfl) (by kernel_rfl) (fun _ _ _ h => h) (yields (by rfl) (fun w => by kernel_rfl)) hS ?_
  simp only [Act.put, List.setIfInBounds_toArray, List.set_cons_zero, List.set_cons_succ]
  refine takeAt 3 44 (.int .i64 ((s.size : Int) - (a : Int))) rfl rfl (by kernel_rfl) (by kernel_rfl) (by kernel_rfl) (fun _ _ _ h => h) (sub9_y (s.size : Int) (a : Int) (by omega) (by omega) rfl rfl rfl (by rfl)) hS ?_
  simp only [Act.put, List.setIfInBounds_toArray, List.set_cons_zero, List.set_cons_succ]
  refine takeAt 4 45 (.pointer (some ⟨w.heap.size, 258, none⟩)) rfl rfl (by kernel_rfl) (by kernel_rfl) (by kernel_rfl) (fun _ _ _ h => h) (yields (by rfl) (fun w => by kernel_rfl)) hS ?_
  simp only [Act.put, List.setIfInBounds_toArray, List.set_cons_zero, List.set_cons_succ]
  refine takeAt 5 46 (.string k.pr) rfl rfl (by kernel_rfl) (by kernel_rfl) (by kernel_rfl) (fun _ _ _ h => h) (loadP9_y w.heap.size 258 k.pr (fun _ h => BoxR.pr h.2) rfl rfl (by rfl)) hS ?_
  simp only [Act.put, List.setIfInBounds_toArray, List.set_cons_zero, List.set_cons_succ]
  refine takeAt 6 47 (.int .i64 (k.pr.size : Int)) rfl rfl (by kernel_rfl) (by kernel_rfl) (by kernel_rfl) (fun _ _ _ h => h) (len9_y k.pr rfl rfl (by rfl)) hS ?_
  simp only [Act.put, List.setIfInBounds_toArray, List.set_cons_zero, List.set_cons_succ]
  refine takeAt 7 48 (.bool false) rfl rfl (by kernel_rfl) (by kernel_rfl) (by kernel_rfl) (fun _ _ _ h => h) (lss9_y ((s.size : Int) - (a : Int)) (k.pr.size : Int) false (decide_eq_false (by omega)) rfl rfl rfl (by rfl)) hS ?_
  simp only [Act.put, List.setIfInBounds_toArray, List.set_cons_zero, List.set_cons_succ]
  refine takeAt 8 49 (.bool false) rfl rfl (by kernel_rfl) (by kernel_rfl) (by kernel_rfl) (fun _ _ _ h => h) (yields (by rfl) (fun w => by kernel_rfl)) hS ?_
  simp only [Act.put, List.setIfInBounds_toArray, List.set_cons_zero, List.set_cons_succ]
  refine takeAt 9 50 (.string s) rfl rfl (by kernel_rfl) (by kernel_rfl) (by kernel_rfl) (fun _ _ _ h => h) (yields (by rfl) (fun w => by kernel_rfl)) hS ?_
  simp only [Act.put, List.setIfInBounds_toArray, List.set_cons_zero, List.set_cons_succ]
  refine takeAt 10 51 (.int .i64 (a : Int)) rfl rfl (by kernel_rfl) (by kernel_rfl) (by kernel_rfl) (fun _ _ _ h => h) (yields (by rfl) (fun w => by kernel_rfl)) hS ?_
  simp only [Act.put, List.setIfInBounds_toArray, List.set_cons_zero, List.set_cons_succ]
  refine takeAt 11 52 (.int .i64 (a : Int)) rfl rfl (by kernel_rfl) (by kernel_rfl) (by kernel_rfl) (fun _ _ _ h => h) (yields (by rfl) (fun w => by kernel_rfl)) hS ?_
  simp only [Act.put, List.setIfInBounds_toArray, List.set_cons_zero, List.set_cons_succ]
  refine takeAt 12 53 (.pointer (some ⟨w.heap.size, 258, none⟩)) rfl rfl (by kernel_rfl) (by kernel_rfl) (by kernel_rfl) (fun _ _ _ h => h) (yields (by rfl) (fun w => by kernel_rfl)) hS ?_
  simp only [Act.put, List.setIfInBounds_toArray, List.set_cons_zero, List.set_cons_succ]
  refine takeAt 13 54 (.string k.pr) rfl rfl (by kernel_rfl) (by kernel_rfl) (by kernel_rfl) (fun _ _ _ h => h) (loadP9_y w.heap.size 258 k.pr (fun _ h => BoxR.pr h.2) rfl rfl (by rfl)) hS ?_
  simp only [Act.put, List.setIfInBounds_toArray, List.set_cons_zero, List.set_cons_succ]
  refine takeAt 14 55 (.int .i64 (k.pr.size : Int)) rfl rfl (by kernel_rfl) (by kernel_rfl) (by kernel_rfl) (fun _ _ _ h => h) (len9_y k.pr rfl rfl (by rfl)) hS ?_
  simp only [Act.put, List.setIfInBounds_toArray, List.set_cons_zero, List.set_cons_succ]
  refine takeAt 15 56 (.int .i64 ((a : Int) + (k.pr.size : Int))) rfl rfl (by kernel_rfl) (by kernel_rfl) (by kernel_rfl) (fun _ _ _ h => h) (add9_y (a : Int) (k.pr.size : Int) (by omega) (by omega) rfl rfl rfl (by rfl)) hS ?_
  simp only [Act.put, List.setIfInBounds_toArray, List.set_cons_zero, List.set_cons_succ]
  refine takeAt 16 57 (.string (s.extract a (a + k.pr.size))) rfl rfl (by kernel_rfl) (by kernel_rfl) (by kernel_rfl) (fun _ _ _ h => h) (sliceIn9_y s a (a + k.pr.size) (by omega) (by omega) (by omega) rfl rfl rfl rfl (by rfl)) hS ?_
  simp only [Act.put, List.setIfInBounds_toArray, List.set_cons_zero, List.set_cons_succ]
  refine takeAt 17 58 (.pointer (some ⟨w.heap.size, 258, none⟩)) rfl rfl (by kernel_rfl) (by kernel_rfl) (by kernel_rfl) (fun _ _ _ h => h) (yields (by rfl) (fun w => by kernel_rfl)) hS ?_
  simp only [Act.put, List.setIfInBounds_toArray, List.set_cons_zero, List.set_cons_succ]
  refine takeAt 18 59 (.string k.pr) rfl rfl (by kernel_rfl) (by kernel_rfl) (by kernel_rfl) (fun _ _ _ h => h) (loadP9_y w.heap.size 258 k.pr (fun _ h => BoxR.pr h.2) rfl rfl (by rfl)) hS ?_
  simp only [Act.put, List.setIfInBounds_toArray, List.set_cons_zero, List.set_cons_succ]
  refine takeAt 19 60 (.bool bb) rfl rfl (by kernel_rfl) (by kernel_rfl) (by kernel_rfl) (fun _ _ _ h => h) (neqS9_y (s.extract a (a + k.pr.size)) k.pr bb hbb rfl rfl rfl (by rfl)) hS ?_
  simp only [Act.put, List.setIfInBounds_toArray, List.set_cons_zero, List.set_cons_succ]
  refine takeAt 20 61 (.bool bb) rfl rfl (by kernel_rfl) (by kernel_rfl) (by kernel_rfl) (fun _ _ _ h => h) (yields (by rfl) (fun w => by kernel_rfl)) hS ?_
  simp only [Act.put, List.setIfInBounds_toArray, List.set_cons_zero, List.set_cons_succ]
  refine takeAt 21 6 (.bool bb) rfl rfl (by kernel_rfl) (by kernel_rfl) (by kernel_rfl) (fun _ _ _ h => h) (yields (by rfl) (fun w => by kernel_rfl)) hS ?_
  simp only [Act.put, List.setIfInBounds_toArray, List.set_cons_zero, List.set_cons_succ]
  refine wpAnyH_done (by kernel_rfl) ?_ _
  have HB := Lib.hid hS.1
  clear hS
  go_wp2
  go_ret
  exact ⟨rfl, HB.out⟩
theorem rout_any9 (k : FK) (s : ByteArray) (z : Int) (w : World) (hs : s.size ≤ 1000000) :
    Calls Tryz.prog 16 #[.agg (rfC k), .string s, .int .i64 z] w fun e w' => e = .returned (.bool (outZ k s z)) ∧ Below w.heap.size w w' := by
  by_cases h0 : z < 0
  · rw [show outZ k s z = false by unfold outZ; rw [decide_eq_false (by omega), Bool.false_and]]
    exact rout_low k s z h0 w hs
  · by_cases h1 : (s.size : Int) < z
    · rw [show outZ k s z = false by unfold outZ; rw [decide_eq_false (by omega), Bool.false_and]]
      exact rout_high k s z h0 h1 w hs
    · obtain ⟨a, rfl⟩ : ∃ a : Nat, z = (a : Int) := ⟨z.toNat, by omega⟩
      have ha : a ≤ s.size := by omega
      have e : outZ k s (a : Int) = (!k.op && !mem k.F (bt s a) || (k.fa && decide (0 < a) || !startB s a k.pr)) := by
        unfold outZ
        rw [decide_eq_true (by omega), Bool.true_and, Int.toNat_natCast]
        simp only [Int.natCast_pos]
      rw [e]
      by_cases hop : k.op = true
      · rw [hop, Bool.not_true, Bool.false_and, Bool.false_or]
        by_cases hfa : k.fa = true
        · rw [hfa, Bool.true_and]
          by_cases h3 : 0 < a
          · rw [decide_eq_true h3, Bool.true_or]; exact rout_o1 k s a ha hop hfa h3 w hs
          · rw [decide_eq_false h3, Bool.false_or]
            by_cases h4 : s.size - a < k.pr.size
            · rw [start_short h4]; exact rout_o2 k s a ha hop hfa (by omega) h4 w hs
            · exact rout_o3 k s a ha hop hfa (by omega) (by omega) w hs
        · have hfa := Bool.eq_false_iff.2 hfa
          rw [hfa, Bool.false_and, Bool.false_or]
          by_cases h4 : s.size - a < k.pr.size
          · rw [start_short h4]; exact rout_o4 k s a ha hop hfa h4 w hs
          · exact rout_o5 k s a ha hop hfa (by omega) w hs
      · have hop := Bool.eq_false_iff.2 hop
        rw [hop, Bool.not_false, Bool.true_and]
        by_cases hE : a = s.size
        · rw [bt_no (by omega), mem_no, Bool.not_false, Bool.true_or]; exact rout_end k s a ha hop hE w hs
        · have hE : a < s.size := by omega
          by_cases hm : mem k.F (bt s a) = true
          · rw [hm, Bool.not_true, Bool.false_or]
            by_cases hfa : k.fa = true
            · rw [hfa, Bool.true_and]
              by_cases h3 : 0 < a
              · rw [decide_eq_true h3, Bool.true_or]; exact rout_h1 k s a ha hop hE hm hfa h3 w hs
              · rw [decide_eq_false h3, Bool.false_or]
                by_cases h4 : s.size - a < k.pr.size
                · rw [start_short h4]; exact rout_h2 k s a ha hop hE hm hfa (by omega) h4 w hs
                · exact rout_h3 k s a ha hop hE hm hfa (by omega) (by omega) w hs
            · have hfa := Bool.eq_false_iff.2 hfa
              rw [hfa, Bool.false_and, Bool.false_or]
              by_cases h4 : s.size - a < k.pr.size
              · rw [start_short h4]; exact rout_h4 k s a ha hop hE hm hfa h4 w hs
              · exact rout_h5 k s a ha hop hE hm hfa (by omega) w hs
          · have hm := Bool.eq_false_iff.2 hm
            rw [hm, Bool.not_false, Bool.true_or]; exact rout_not k s a ha hop hE hm w hs
end Go.Proofs.YtkpijnodhlonfaaGreatDoor
