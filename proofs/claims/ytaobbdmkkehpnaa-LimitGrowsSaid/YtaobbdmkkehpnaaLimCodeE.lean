/-
  What the landed package limit does: Step, Hold, Used; and the bundle.
-/
import Derived.Test.YtaobbdmkkehpnaaLimCodeD
namespace Go.Proofs.Ytaobbdmkkehpnaa
open Go.RowKit

section
variable {ops : Array Oper} {a : Act} {o : Oper} {x y : Operand} {R : World → Prop}
theorem loadI_yL (g k : Nat) (n : Int) (hR : ∀ u, R u → u.cell? ⟨g, k, none⟩ = some (.int .i64 n)) (ho : o.op = .load 3 x) (hx : a.eval x = .pointer (some ⟨g, k, none⟩)) (hw : Region.wanted o (yielded ops a.tmps) = true) : YieldsIf Try.prog ops R o (.int .i64 n) a := by
  refine Or.inl ⟨hw, fun u h => ?_⟩
  have hc := hR u h
  unfold execOp
  simp only [ho, hx]
  go_simp
theorem loadI_run (g k : Nat) (n : Int) (u : World) (hc : u.cell? ⟨g, k, none⟩ = some (.int .i64 n)) (ho : o.op = .load 3 x) (hx : a.eval x = .pointer (some ⟨g, k, none⟩)) : (execOp a.eval o).run Try.prog u = .ok (.value (.int .i64 n)) u := by
  unfold execOp
  simp only [ho, hx]
  go_simp
theorem convI_y (n : Nat) (ho : o.op = .convert 3 22 x) (hx : a.eval x = .int .i64 (n : Int)) (hw : Region.wanted o (yielded ops a.tmps) = true) : YieldsIf Try.prog ops R o (.float .f64 (fl n)) a := by
  refine Or.inl ⟨hw, fun u _ => ?_⟩
  have hc := run_convert_int_float (P := Try.prog) u 3 22 .i64 .f64 (n : Int) (by kernel_rfl) Try.underlying22
  rw [fl_of] at hc
  unfold execOp
  simp only [ho, hx]
  simp [hc]
theorem convU_y (n : Nat) (hn : n ≤ 4611686018427387904) (ho : o.op = .convert 3 49 x) (hx : a.eval x = .int .i64 (n : Int)) (hw : Region.wanted o (yielded ops a.tmps) = true) : YieldsIf Try.prog ops R o (.int .u64 (n : Int)) a := by
  refine Or.inl ⟨hw, fun u _ => ?_⟩
  have e : IntKind.u64.wrap (n : Int) = (n : Int) := by rw [IntKind.wrap_u64]; omega
  unfold execOp
  simp only [ho, hx]
  go_simp
end
section
variable {ops : Array Oper} {Q : Exit → Act → World → Prop} {md : Region.Mode} {S : World → Prop} {fuel : Nat} {listed : Array Bool} {a : Act} {w : World}
/-- Operation number i stores a number into one cell, and nothing else can come up. -/
theorem cellAt (i : Nat) {oi : Oper} {x y : Operand} (g k : Nat) (n old : Int) (hi : ops[i]? = some oi) (hd : oi.dst = none) (ho : oi.op = .store 3 x y) (hr : Region.ready md ops listed = [i]) (hw : Region.wanted oi (yielded ops a.tmps) = true)
    (hx : a.eval x = .pointer (some ⟨g, k, none⟩)) (hy : a.eval y = .int .i64 n) (hc : w.cell? ⟨g, k, none⟩ = some (.int .i64 old)) (hf : w.frozen? ⟨g, k, none⟩ = false) (hS : S (w.setCell ⟨g, k, none⟩ (.int .i64 n)))
    (hgo : wpAnyH Try.prog md ops Q S fuel (listed.setIfInBounds i true) a (w.setCell ⟨g, k, none⟩ (.int .i64 n))) : wpAnyH Try.prog md ops Q S (fuel + 1) listed a w := by
  refine wpAnyH_ready (rs := [i]) hr (by simp) (AllReadyH.cons hi (fun K hK => ?_) AllReadyH.nil)
  rw [if_pos hw]
  have hK2 := Lib.hid (hK.out _ _ hS (fun _ => hgo))
  clear hS hgo hK
  unfold Oper.wp
  have hrun : (execOp a.eval oi).run Try.prog w = .ok .skip (w.setCell ⟨g, k, none⟩ (.int .i64 n)) := by
    unfold execOp
    simp only [ho, hx, hy]
    go_simp
  rw [hrun]
  unfold Oper.upon
  rw [hd]
  exact hK2.out
end

theorem step_hold (st : Nat) (n : Int) (hs : st ≤ 4611686018427387904) : holdN st (if (0 : Int) > n then 0 else n) = stepN st n := by
  unfold holdN stepN
  split <;> split <;> (try split) <;> omega
theorem stepN_leL (st : Nat) (n : Int) (h : st ≤ 4611686018427387904) : stepN st n ≤ 4611686018427387904 := by
  unfold stepN; split <;> omega
theorem holdN_leL (h : Nat) (n : Int) (hh : h ≤ 4611686018427387904) : holdN h n ≤ 4611686018427387904 := by
  unfold holdN; split <;> omega

set_option maxHeartbeats 1000000 in
theorem step_any (p s r st h pk : Nat) (n : Int) (w : World) (m : MetL w p s r st h pk) (hst : st ≤ 4611686018427387904) (n0 : -9223372036854775808 ≤ n) (n1 : n < 9223372036854775808) :
    Calls Try.prog 22 #[.pointer (some ⟨p, 0, none⟩), .int .i64 n] w fun e w' => e = .returned (.bool (allowB (stepN st n) s)) ∧ MetL w' p s r (stepN st n) h pk ∧ But p w w' := by
  obtain ⟨c0, c1, c2, c3, c4⟩ := m.cells
  have f := m.free
  have M := Lib.hid m
  clear m
  obtain ⟨q, hq⟩ : ∃ q, q = stepN st n := ⟨_, rfl⟩
  obtain ⟨k, hk⟩ : ∃ k : Int, k = if (0 : Int) > n then 0 else n := ⟨_, rfl⟩
  have cm := Lib.hid (show ∀ w, Calls Try.prog 38 #[.int .i64 (st : Int), .int .i64 k] w fun e w' => e = .returned (.int .i64 (q : Int)) ∧ w = w' from fun w => moved_any st k q w hst (by rw [hk]; split <;> omega) (by rw [hk]; split <;> omega) (by rw [hk, step_hold st n hst, hq]))
  rw [← hq]
  have M2 := Lib.hid (M.out.setStep q)
  clear hst n0 n1 hq
  by_cases hn : n < 0
  all_goals
    first | rw [if_pos hn] at hk | rw [if_neg hn] at hk
    subst hk
    go_enter Try.func22, Try.ntmps22
    go_wp2_with fail
    refine (cm.out _).mono ?_
    rintro e w1 ⟨rfl, rfl⟩
    go_wp2_with fail
    have hS : MetL (w.setCell ⟨p, 2, none⟩ (.int .i64 (q : Int))).drew p s r q h pk := M2.out
    refine wp_region_held_drew (S := fun u => MetL u p s r q h pk) (by kernel_rfl) hS (fun _ => ?_)
    refine takeAt 0 15 (.pointer (some ⟨p, 0, none⟩)) rfl rfl (by kernel_rfl) (by kernel_rfl) (by kernel_rfl) (fun _ _ _ h => h) (yields (by rfl) (fun w => by kernel_rfl)) hS ?_
    simp only [Act.put, List.setIfInBounds_toArray, List.set_cons_zero, List.set_cons_succ]
    refine takeAt 1 16 (.pointer (some ⟨p, 0, none⟩)) rfl rfl (by kernel_rfl) (by kernel_rfl) (by kernel_rfl) (fun _ _ _ h => h) (yields (by rfl) (fun w => by kernel_rfl)) hS ?_
    simp only [Act.put, List.setIfInBounds_toArray, List.set_cons_zero, List.set_cons_succ]
    refine takeAt 2 17 (.pointer (some ⟨p, 2, none⟩)) rfl rfl (by kernel_rfl) (by kernel_rfl) (by kernel_rfl) (fun _ _ _ h => h) (yields (by rfl) (fun w => by kernel_rfl)) hS ?_
    simp only [Act.put, List.setIfInBounds_toArray, List.set_cons_zero, List.set_cons_succ]
    refine takeAt 3 18 (.int .i64 (q : Int)) rfl rfl (by kernel_rfl) (by kernel_rfl) (by kernel_rfl) (fun _ _ _ h => h) (loadI_yL p 2 _ (fun _ h => h.cells.2.2.1) rfl rfl (by rfl)) hS ?_
    simp only [Act.put, List.setIfInBounds_toArray, List.set_cons_zero, List.set_cons_succ]
    refine takeAt 4 19 (.float .f64 (fl q)) rfl rfl (by kernel_rfl) (by kernel_rfl) (by kernel_rfl) (fun _ _ _ h => h) (convI_y q rfl rfl (by rfl)) hS ?_
    simp only [Act.put, List.setIfInBounds_toArray, List.set_cons_zero, List.set_cons_succ]
    refine takeAt 5 20 (.pointer (some ⟨p, 0, none⟩)) rfl rfl (by kernel_rfl) (by kernel_rfl) (by kernel_rfl) (fun _ _ _ h => h) (yields (by rfl) (fun w => by kernel_rfl)) hS ?_
    simp only [Act.put, List.setIfInBounds_toArray, List.set_cons_zero, List.set_cons_succ]
    refine takeAt 6 21 (.pointer (some ⟨p, 0, none⟩)) rfl rfl (by kernel_rfl) (by kernel_rfl) (by kernel_rfl) (fun _ _ _ h => h) (yields (by rfl) (fun w => by kernel_rfl)) hS ?_
    simp only [Act.put, List.setIfInBounds_toArray, List.set_cons_zero, List.set_cons_succ]
    refine takeAt 7 22 (.pointer (some ⟨p, 0, none⟩)) rfl rfl (by kernel_rfl) (by kernel_rfl) (by kernel_rfl) (fun _ _ _ h => h) (yields (by rfl) (fun w => by kernel_rfl)) hS ?_
    simp only [Act.put, List.setIfInBounds_toArray, List.set_cons_zero, List.set_cons_succ]
    refine takeAt 8 23 (.pointer (some ⟨p, 0, none⟩)) rfl rfl (by kernel_rfl) (by kernel_rfl) (by kernel_rfl) (fun _ _ _ h => h) (yields (by rfl) (fun w => by kernel_rfl)) hS ?_
    simp only [Act.put, List.setIfInBounds_toArray, List.set_cons_zero, List.set_cons_succ]
    refine takeAt 9 24 (.float .f64 s) rfl rfl (by kernel_rfl) (by kernel_rfl) (by kernel_rfl) (fun _ _ _ h => h) (loadX_y p 0 _ (fun _ h => h.cells.1) rfl rfl (by rfl)) hS ?_
    simp only [Act.put, List.setIfInBounds_toArray, List.set_cons_zero, List.set_cons_succ]
    refine takeAt 10 25 (.bool (allowB q s)) rfl rfl (by kernel_rfl) (by kernel_rfl) (by kernel_rfl) (fun _ _ _ h => h) (leqF_y _ _ rfl rfl rfl (by rfl)) hS ?_
    simp only [Act.put, List.setIfInBounds_toArray, List.set_cons_zero, List.set_cons_succ]
    refine takeAt 11 4 (.bool (allowB q s)) rfl rfl (by kernel_rfl) (by kernel_rfl) (by kernel_rfl) (fun _ _ _ h => h) (yields (by rfl) (fun w => by kernel_rfl)) hS ?_
    simp only [Act.put, List.setIfInBounds_toArray, List.set_cons_zero, List.set_cons_succ]
    refine wpAnyH_done (by kernel_rfl) ?_ _
    clear hS c0 c1 c2 c3 c4
    go_wp2_with fail
    go_ret
    exact ⟨rfl, M2.out, (But.setCell p 2 w _).trans (But.drew p _)⟩

set_option maxHeartbeats 1000000 in
theorem hold_any (p s r st h pk : Nat) (n : Int) (w : World) (m : MetL w p s r st h pk) (hh : h ≤ 4611686018427387904) (n0 : -9223372036854775808 ≤ n) (n1 : n < 9223372036854775808) :
    Calls Try.prog 24 #[.pointer (some ⟨p, 0, none⟩), .int .i64 n] w fun e w' => e = .returned (.bool (allowB (holdN h n) r)) ∧ MetL w' p s r st (holdN h n) (max pk (holdN h n)) ∧ But p w w' := by
  obtain ⟨c0, c1, c2, c3, c4⟩ := m.cells
  have f := m.free
  have M := Lib.hid m
  clear m
  obtain ⟨q, hq⟩ : ∃ q, q = holdN h n := ⟨_, rfl⟩
  have cm := Lib.hid (show ∀ w, Calls Try.prog 38 #[.int .i64 (h : Int), .int .i64 n] w fun e w' => e = .returned (.int .i64 (q : Int)) ∧ w = w' from fun w => moved_any h n q w hh n0 n1 hq.symm)
  rw [← hq]
  obtain ⟨x, hx⟩ : ∃ x : Nat, x = max pk q := ⟨_, rfl⟩
  have hv : (x : Int) = if (q : Int) > (pk : Int) then (q : Int) else (pk : Int) := by
    subst hx; split <;> omega
  rw [← hx]
  have HV := Lib.hid hv
  have M2 := Lib.hid (M.out.setHeld q)
  have B2 := Lib.hid (But.setCell p 3 w (.int .i64 (q : Int)))
  clear hh n0 n1 hq hx hv
  go_enter Try.func24, Try.ntmps24
  go_wp2_with fail
  refine (cm.out _).mono ?_
  rintro e w1 ⟨rfl, rfl⟩
  go_wp2_with fail
  have hM : MetL (w.setCell ⟨p, 3, none⟩ (.int .i64 (q : Int))).drew p s r st q pk := M2.out
  have hS : ∃ k, MetL (w.setCell ⟨p, 3, none⟩ (.int .i64 (q : Int))).drew p s r st q k := ⟨_, hM⟩
  have M3 := Lib.hid (hM.setPeak x)
  refine wp_region_held_drew (S := fun u => ∃ k, MetL u p s r st q k) (by kernel_rfl) hS (fun _ => ?_)
  refine takeAt 0 14 (.pointer (some ⟨p, 0, none⟩)) rfl rfl (by kernel_rfl) (by kernel_rfl) (by kernel_rfl) (fun _ _ _ h => h) (yields (by rfl) (fun w => by kernel_rfl)) hS ?_
  simp only [Act.put, List.setIfInBounds_toArray, List.set_cons_zero, List.set_cons_succ]
  refine takeAt 1 15 (.pointer (some ⟨p, 0, none⟩)) rfl rfl (by kernel_rfl) (by kernel_rfl) (by kernel_rfl) (fun _ _ _ h => h) (yields (by rfl) (fun w => by kernel_rfl)) hS ?_
  simp only [Act.put, List.setIfInBounds_toArray, List.set_cons_zero, List.set_cons_succ]
  refine takeAt 2 16 (.pointer (some ⟨p, 0, none⟩)) rfl rfl (by kernel_rfl) (by kernel_rfl) (by kernel_rfl) (fun _ _ _ h => h) (yields (by rfl) (fun w => by kernel_rfl)) hS ?_
  simp only [Act.put, List.setIfInBounds_toArray, List.set_cons_zero, List.set_cons_succ]
  refine takeAt 3 17 (.pointer (some ⟨p, 4, none⟩)) rfl rfl (by kernel_rfl) (by kernel_rfl) (by kernel_rfl) (fun _ _ _ h => h) (yields (by rfl) (fun w => by kernel_rfl)) hS ?_
  simp only [Act.put, List.setIfInBounds_toArray, List.set_cons_zero, List.set_cons_succ]
  refine takeAt 5 19 (.pointer (some ⟨p, 0, none⟩)) rfl rfl (by kernel_rfl) (by kernel_rfl) (by kernel_rfl) (fun _ _ _ h => h) (yields (by rfl) (fun w => by kernel_rfl)) hS ?_
  simp only [Act.put, List.setIfInBounds_toArray, List.set_cons_zero, List.set_cons_succ]
  refine takeAt 6 20 (.pointer (some ⟨p, 0, none⟩)) rfl rfl (by kernel_rfl) (by kernel_rfl) (by kernel_rfl) (fun _ _ _ h => h) (yields (by rfl) (fun w => by kernel_rfl)) hS ?_
  simp only [Act.put, List.setIfInBounds_toArray, List.set_cons_zero, List.set_cons_succ]
  refine takeAt 7 21 (.pointer (some ⟨p, 3, none⟩)) rfl rfl (by kernel_rfl) (by kernel_rfl) (by kernel_rfl) (fun _ _ _ h => h) (yields (by rfl) (fun w => by kernel_rfl)) hS ?_
  simp only [Act.put, List.setIfInBounds_toArray, List.set_cons_zero, List.set_cons_succ]
  refine takeAt 8 22 (.int .i64 (q : Int)) rfl rfl (by kernel_rfl) (by kernel_rfl) (by kernel_rfl) (fun _ _ _ h => h) (loadI_yL p 3 _ (fun _ h => h.elim fun _ h => h.cells.2.2.2.1) rfl rfl (by rfl)) hS ?_
  simp only [Act.put, List.setIfInBounds_toArray, List.set_cons_zero, List.set_cons_succ]
  refine valAt 4 18 (.int .i64 (pk : Int)) _ rfl rfl (by kernel_rfl) (by rfl) (loadI_run p 4 _ _ hM.cells.2.2.2.2 rfl rfl) hS ?_
  simp only [Act.put, List.setIfInBounds_toArray, List.set_cons_zero, List.set_cons_succ]
  refine takeAt 9 23 (.int .i64 (x : Int)) rfl rfl (by kernel_rfl) (by kernel_rfl) (by kernel_rfl) (fun _ _ _ h => h) (yields (by rfl) (fun w => by rw [HV.out]; kernel_rfl)) hS ?_
  simp only [Act.put, List.setIfInBounds_toArray, List.set_cons_zero, List.set_cons_succ]
  refine takeAt 10 24 (.pointer (some ⟨p, 0, none⟩)) rfl rfl (by kernel_rfl) (by kernel_rfl) (by kernel_rfl) (fun _ _ _ h => h) (yields (by rfl) (fun w => by kernel_rfl)) hS ?_
  simp only [Act.put, List.setIfInBounds_toArray, List.set_cons_zero, List.set_cons_succ]
  refine takeAt 11 25 (.pointer (some ⟨p, 4, none⟩)) rfl rfl (by kernel_rfl) (by kernel_rfl) (by kernel_rfl) (fun _ _ _ h => h) (yields (by rfl) (fun w => by kernel_rfl)) hS ?_
  simp only [Act.put, List.setIfInBounds_toArray, List.set_cons_zero, List.set_cons_succ]
  refine cellAt 12 p 4 (x : Int) (pk : Int) rfl rfl rfl (by kernel_rfl) (by rfl) rfl rfl hM.cells.2.2.2.2 (hM.free 4) ⟨x, M3.out⟩ ?_
  refine wpAnyH_done (by kernel_rfl) ?_ _
  clear hS hM c0 c1 c2 c3 c4 f
  go_wp2_with fail
  have hS : MetL ((w.setCell ⟨p, 3, none⟩ (.int .i64 (q : Int))).drew.setCell ⟨p, 4, none⟩ (.int .i64 (x : Int))).drew p s r st q x := M3.out
  refine wp_region_held_drew (S := fun u => MetL u p s r st q x) (by kernel_rfl) hS (fun _ => ?_)
  refine takeAt 0 26 (.pointer (some ⟨p, 0, none⟩)) rfl rfl (by kernel_rfl) (by kernel_rfl) (by kernel_rfl) (fun _ _ _ h => h) (yields (by rfl) (fun w => by kernel_rfl)) hS ?_
  simp only [Act.put, List.setIfInBounds_toArray, List.set_cons_zero, List.set_cons_succ]
  refine takeAt 1 27 (.pointer (some ⟨p, 0, none⟩)) rfl rfl (by kernel_rfl) (by kernel_rfl) (by kernel_rfl) (fun _ _ _ h => h) (yields (by rfl) (fun w => by kernel_rfl)) hS ?_
  simp only [Act.put, List.setIfInBounds_toArray, List.set_cons_zero, List.set_cons_succ]
  refine takeAt 2 28 (.pointer (some ⟨p, 3, none⟩)) rfl rfl (by kernel_rfl) (by kernel_rfl) (by kernel_rfl) (fun _ _ _ h => h) (yields (by rfl) (fun w => by kernel_rfl)) hS ?_
  simp only [Act.put, List.setIfInBounds_toArray, List.set_cons_zero, List.set_cons_succ]
  refine takeAt 3 29 (.int .i64 (q : Int)) rfl rfl (by kernel_rfl) (by kernel_rfl) (by kernel_rfl) (fun _ _ _ h => h) (loadI_yL p 3 _ (fun _ h => h.cells.2.2.2.1) rfl rfl (by rfl)) hS ?_
  simp only [Act.put, List.setIfInBounds_toArray, List.set_cons_zero, List.set_cons_succ]
  refine takeAt 4 30 (.float .f64 (fl q)) rfl rfl (by kernel_rfl) (by kernel_rfl) (by kernel_rfl) (fun _ _ _ h => h) (convI_y q rfl rfl (by rfl)) hS ?_
  simp only [Act.put, List.setIfInBounds_toArray, List.set_cons_zero, List.set_cons_succ]
  refine takeAt 5 31 (.pointer (some ⟨p, 0, none⟩)) rfl rfl (by kernel_rfl) (by kernel_rfl) (by kernel_rfl) (fun _ _ _ h => h) (yields (by rfl) (fun w => by kernel_rfl)) hS ?_
  simp only [Act.put, List.setIfInBounds_toArray, List.set_cons_zero, List.set_cons_succ]
  refine takeAt 6 32 (.pointer (some ⟨p, 0, none⟩)) rfl rfl (by kernel_rfl) (by kernel_rfl) (by kernel_rfl) (fun _ _ _ h => h) (yields (by rfl) (fun w => by kernel_rfl)) hS ?_
  simp only [Act.put, List.setIfInBounds_toArray, List.set_cons_zero, List.set_cons_succ]
  refine takeAt 7 33 (.pointer (some ⟨p, 0, none⟩)) rfl rfl (by kernel_rfl) (by kernel_rfl) (by kernel_rfl) (fun _ _ _ h => h) (yields (by rfl) (fun w => by kernel_rfl)) hS ?_
  simp only [Act.put, List.setIfInBounds_toArray, List.set_cons_zero, List.set_cons_succ]
  refine takeAt 8 34 (.pointer (some ⟨p, 1, none⟩)) rfl rfl (by kernel_rfl) (by kernel_rfl) (by kernel_rfl) (fun _ _ _ h => h) (yields (by rfl) (fun w => by kernel_rfl)) hS ?_
  simp only [Act.put, List.setIfInBounds_toArray, List.set_cons_zero, List.set_cons_succ]
  refine takeAt 9 35 (.float .f64 r) rfl rfl (by kernel_rfl) (by kernel_rfl) (by kernel_rfl) (fun _ _ _ h => h) (loadX_y p 1 _ (fun _ h => h.cells.2.1) rfl rfl (by rfl)) hS ?_
  simp only [Act.put, List.setIfInBounds_toArray, List.set_cons_zero, List.set_cons_succ]
  refine takeAt 10 36 (.bool (allowB q r)) rfl rfl (by kernel_rfl) (by kernel_rfl) (by kernel_rfl) (fun _ _ _ h => h) (leqF_y _ _ rfl rfl rfl (by rfl)) hS ?_
  simp only [Act.put, List.setIfInBounds_toArray, List.set_cons_zero, List.set_cons_succ]
  refine takeAt 11 4 (.bool (allowB q r)) rfl rfl (by kernel_rfl) (by kernel_rfl) (by kernel_rfl) (fun _ _ _ h => h) (yields (by rfl) (fun w => by kernel_rfl)) hS ?_
  simp only [Act.put, List.setIfInBounds_toArray, List.set_cons_zero, List.set_cons_succ]
  refine wpAnyH_done (by kernel_rfl) ?_ _
  clear hS
  go_wp2_with fail
  go_ret
  exact ⟨rfl, M3.out, ((B2.out.trans (But.drew p _)).trans (But.setCell p 4 _ _)).trans (But.drew p _)⟩

set_option maxHeartbeats 1000000 in
theorem used_any (p s r st h pk : Nat) (w : World) (m : MetL w p s r st h pk) (hst : st ≤ 4611686018427387904) (hpk : pk ≤ 4611686018427387904) :
    Calls Try.prog 26 #[.pointer (some ⟨p, 0, none⟩)] w fun e w' => e = .returned (.tuple #[.int .u64 (st : Int), .int .u64 (pk : Int)]) ∧ Below w.heap.size w w' := by
  have M := Lib.hid m
  have HS := Lib.hid hst
  have HP := Lib.hid hpk
  clear m hst hpk
  go_enter Try.func26, Try.ntmps26
  go_wp2_with fail
  have hS : MetL w.drew p s r st h pk := M.out
  refine wp_region_held_drew (S := fun u => MetL u p s r st h pk) (by kernel_rfl) hS (fun _ => ?_)
  refine takeAt 0 4 (.pointer (some ⟨p, 0, none⟩)) rfl rfl (by kernel_rfl) (by kernel_rfl) (by kernel_rfl) (fun _ _ _ h => h) (yields (by rfl) (fun w => by kernel_rfl)) hS ?_
  simp only [Act.put, List.setIfInBounds_toArray, List.set_cons_zero, List.set_cons_succ]
  refine takeAt 1 5 (.pointer (some ⟨p, 0, none⟩)) rfl rfl (by kernel_rfl) (by kernel_rfl) (by kernel_rfl) (fun _ _ _ h => h) (yields (by rfl) (fun w => by kernel_rfl)) hS ?_
  simp only [Act.put, List.setIfInBounds_toArray, List.set_cons_zero, List.set_cons_succ]
  refine takeAt 2 6 (.pointer (some ⟨p, 2, none⟩)) rfl rfl (by kernel_rfl) (by kernel_rfl) (by kernel_rfl) (fun _ _ _ h => h) (yields (by rfl) (fun w => by kernel_rfl)) hS ?_
  simp only [Act.put, List.setIfInBounds_toArray, List.set_cons_zero, List.set_cons_succ]
  refine takeAt 3 7 (.int .i64 (st : Int)) rfl rfl (by kernel_rfl) (by kernel_rfl) (by kernel_rfl) (fun _ _ _ h => h) (loadI_yL p 2 _ (fun _ h => h.cells.2.2.1) rfl rfl (by rfl)) hS ?_
  simp only [Act.put, List.setIfInBounds_toArray, List.set_cons_zero, List.set_cons_succ]
  refine takeAt 4 8 (.int .u64 (st : Int)) rfl rfl (by kernel_rfl) (by kernel_rfl) (by kernel_rfl) (fun _ _ _ h => h) (convU_y st HS.out rfl rfl (by rfl)) hS ?_
  simp only [Act.put, List.setIfInBounds_toArray, List.set_cons_zero, List.set_cons_succ]
  refine takeAt 5 9 (.pointer (some ⟨p, 0, none⟩)) rfl rfl (by kernel_rfl) (by kernel_rfl) (by kernel_rfl) (fun _ _ _ h => h) (yields (by rfl) (fun w => by kernel_rfl)) hS ?_
  simp only [Act.put, List.setIfInBounds_toArray, List.set_cons_zero, List.set_cons_succ]
  refine takeAt 6 10 (.pointer (some ⟨p, 0, none⟩)) rfl rfl (by kernel_rfl) (by kernel_rfl) (by kernel_rfl) (fun _ _ _ h => h) (yields (by rfl) (fun w => by kernel_rfl)) hS ?_
  simp only [Act.put, List.setIfInBounds_toArray, List.set_cons_zero, List.set_cons_succ]
  refine takeAt 7 11 (.pointer (some ⟨p, 4, none⟩)) rfl rfl (by kernel_rfl) (by kernel_rfl) (by kernel_rfl) (fun _ _ _ h => h) (yields (by rfl) (fun w => by kernel_rfl)) hS ?_
  simp only [Act.put, List.setIfInBounds_toArray, List.set_cons_zero, List.set_cons_succ]
  refine takeAt 8 12 (.int .i64 (pk : Int)) rfl rfl (by kernel_rfl) (by kernel_rfl) (by kernel_rfl) (fun _ _ _ h => h) (loadI_yL p 4 _ (fun _ h => h.cells.2.2.2.2) rfl rfl (by rfl)) hS ?_
  simp only [Act.put, List.setIfInBounds_toArray, List.set_cons_zero, List.set_cons_succ]
  refine takeAt 9 13 (.int .u64 (pk : Int)) rfl rfl (by kernel_rfl) (by kernel_rfl) (by kernel_rfl) (fun _ _ _ h => h) (convU_y pk HP.out rfl rfl (by rfl)) hS ?_
  simp only [Act.put, List.setIfInBounds_toArray, List.set_cons_zero, List.set_cons_succ]
  refine takeAt 10 2 (.int .u64 (st : Int)) rfl rfl (by kernel_rfl) (by kernel_rfl) (by kernel_rfl) (fun _ _ _ h => h) (yields (by rfl) (fun w => by kernel_rfl)) hS ?_
  simp only [Act.put, List.setIfInBounds_toArray, List.set_cons_zero, List.set_cons_succ]
  refine takeAt 11 3 (.int .u64 (pk : Int)) rfl rfl (by kernel_rfl) (by kernel_rfl) (by kernel_rfl) (fun _ _ _ h => h) (yields (by rfl) (fun w => by kernel_rfl)) hS ?_
  simp only [Act.put, List.setIfInBounds_toArray, List.set_cons_zero, List.set_cons_succ]
  refine wpAnyH_done (by kernel_rfl) ?_ _
  clear hS
  go_wp2_with fail
  go_ret2
  exact ⟨rfl, by go_grown⟩

/-- The bundle, of the landed code. -/
def limOk : LimOk where
  Met u p s r st h pk := MetL u p s r st h pk ∧ st ≤ 4611686018427387904 ∧ h ≤ 4611686018427387904 ∧ pk ≤ 4611686018427387904
  lt m := m.1.lt
  of_block m hb := ⟨hb.trans m.1, m.2⟩
  kind x w hx := (kind_any x w hx).mono fun e w' h => ⟨h.1, h.2 ▸ Below.refl _ _⟩
  right := right_any
  least := least_any
  scale a b x w ha hb _ := scale_any a b x w ha hb
  new_yes s r w hs hr ho := (new_yes s r w hs hr ho).mono fun e w' ⟨p, h1, h2, h3, h4⟩ => ⟨p, h1, h2, ⟨h3, by omega, by omega, by omega⟩, h4⟩
  new_no := new_no
  step p s r st h pk n w m hst n0 n1 := (step_any p s r st h pk n w m.1 hst n0 n1).mono fun e w' ⟨h1, h2, h3⟩ => ⟨h1, ⟨h2, stepN_leL st n hst, m.2.2⟩, h3⟩
  hold p s r st h pk n w m hh n0 n1 := (hold_any p s r st h pk n w m.1 hh n0 n1).mono fun e w' ⟨h1, h2, h3⟩ => ⟨h1, ⟨h2, m.2.1, holdN_leL h n hh, Nat.max_le.2 ⟨m.2.2.2, holdN_leL h n hh⟩⟩, h3⟩
  used p s r st h pk w m := used_any p s r st h pk w m.1 m.2.1 m.2.2.2
end Go.Proofs.Ytaobbdmkkehpnaa
