/-
  The statement LimitTells: what its walk comes to, if package limit's calls do what the document says.
-/
import Derived.Test.YtaobbdmkkehpnaaLimFixed
namespace Go.Proofs.Ytaobbdmkkehpnaa
open Go.RowKit

/-- Both parts of a budget times a number. -/
def sc1 (a b x : Nat) : Nat := if scOk a b x then mulV a x else 0
def sc2 (a b x : Nat) : Nat := if scOk a b x then mulV b x else 0
theorem scV_eq (a b x : Nat) : scV a b x = bud (sc1 a b x) (sc2 a b x) := by
  unfold scV sc1 sc2
  split <;> rfl
theorem rscale_k (a b x s t : Nat) (er : Int) (w : World) (ha : a < 18446744073709551616) (hb : b < 18446744073709551616) (hs : scV a b x = bud s t) (he : scE a b x = er) :
    Calls Try.prog 10 #[bud a b, .float .f64 x] w fun e w' => e = .returned (.tuple #[bud s t, .int .i64 er]) ∧ Below w.heap.size w w' := by
  have h := rscale_any a b x w ha hb
  rw [hs, he] at h
  exact h
theorem rkind_b (x : Nat) (w : World) (hx : x < 18446744073709551616) : Calls Try.prog 13 #[.float .f64 x] w fun e w' => e = .returned (.int .i64 (kindZ x)) ∧ Below w.heap.size w w' := by
  refine (rkind_any x w hx).mono ?_
  rintro e w1 ⟨rfl, rfl⟩
  exact ⟨rfl, Below.refl _ _⟩
theorem rsame_self (a b : Nat) (w : World) : Calls Try.prog 16 #[bud a b, bud a b] w fun e w' => e = .returned (.bool true) ∧ Below w.heap.size w w' := by
  have h := rsame_any a b a b w
  have e : (sameB a a && sameB b b) = true := by simp [sameB]
  rw [e] at h
  exact h
set_option maxHeartbeats 1000000 in
theorem ref_any (a b : Nat) (w : World) : Calls Try.prog 11 #[bud a b] w fun e w' => e = .returned (bud a b) ∧ Below w.heap.size w w' := by
  go_enter Try.func11, Try.ntmps11
  go_wp2
  refine bodyPost_ret (results_cell_row rfl _ _ (w.heap.size + 1) _ _ _ _ rfl (Row.new _ _ a b (by simp)) Try.underlying28 rfl info28) rfl ⟨rfl, by go_grown⟩

/-- What is held of the budgets while the statement runs. -/
def HT (w0 : World) (g1 a b g2 c d g3 s t g4 : Nat) (u : World) : Prop := Below w0.heap.size w0 u ∧ RowL u g1 a b ∧ RowL u g2 c d ∧ RowL u g3 s t ∧ Row u g4 s t
theorem HT.call {w0 u v : World} {g1 a b g2 c d g3 s t g4 : Nat} (h : HT w0 g1 a b g2 c d g3 s t g4 u) (hb : Below u.heap.size u v) : HT w0 g1 a b g2 c d g3 s t g4 v :=
  ⟨thenB h.1 hb h.1.size, h.2.1.call hb, h.2.2.1.call hb, h.2.2.2.1.call hb, h.2.2.2.2.call hb⟩
theorem info24 : (Try.prog.info? 24).map (·.size) = some 2 := by kernel_rfl
section
variable {ops : Array Oper} {a : Act} {o : Oper} {x y : Operand} {R : World → Prop}
theorem loadL_y (g s t : Nat) (hR : ∀ u, R u → RowL u g s t) (ho : o.op = .load 24 x) (hx : a.eval x = .pointer (some ⟨g, 0, none⟩)) (hw : Region.wanted o (yielded ops a.tmps) = true) : YieldsIf Try.prog ops R o (bud s t) a := by
  refine Or.inl ⟨hw, fun w h => ?_⟩
  have hb := hR w h
  unfold execOp
  simp only [ho, hx, Instr.loadAt, Instr.sureAddr, Sem.run_bind, Sem.run_pure, Result.andThen_ok, run_loadVar_row w g _ _ _ _ _ hb Try.underlying24 rfl info24]
theorem loadR_y (g s t : Nat) (hR : ∀ u, R u → Row u g s t) (ho : o.op = .load 28 x) (hx : a.eval x = .pointer (some ⟨g, 0, none⟩)) (hw : Region.wanted o (yielded ops a.tmps) = true) : YieldsIf Try.prog ops R o (bud s t) a := by
  refine Or.inl ⟨hw, fun w h => ?_⟩
  have hb := hR w h
  unfold execOp
  simp only [ho, hx, Instr.loadAt, Instr.sureAddr, Sem.run_bind, Sem.run_pure, Result.andThen_ok, run_loadVar_row w g _ _ _ _ _ hb Try.underlying28 rfl info28]
theorem eqlI_y {m n : Int} (b : Bool) (ho : o.op = .binOp .eql 3 x y 3) (hx : a.eval x = .int .i64 m) (hy : a.eval y = .int .i64 n) (hb : (m == n) = b) (hw : Region.wanted o (yielded ops a.tmps) = true) : YieldsIf Try.prog ops R o (.bool b) a := by
  refine Or.inl ⟨hw, fun w _ => ?_⟩
  unfold execOp
  simp only [ho, hx, hy]
  go_simp
theorem eqlE_y {m n : Int} (b : Bool) (ho : o.op = .binOp .eql 25 x y 25) (hx : a.eval x = .int .i64 m) (hy : a.eval y = .int .i64 n) (hb : (m == n) = b) (hw : Region.wanted o (yielded ops a.tmps) = true) : YieldsIf Try.prog ops R o (.bool b) a := by
  refine Or.inl ⟨hw, fun w _ => ?_⟩
  unfold execOp
  simp only [ho, hx, hy]
  go_simp
theorem eqlB_y {m n : Bool} (b : Bool) (ho : o.op = .binOp .eql 4 x y 4) (hx : a.eval x = .bool m) (hy : a.eval y = .bool n) (hb : (m == n) = b) (hw : Region.wanted o (yielded ops a.tmps) = true) : YieldsIf Try.prog ops R o (.bool b) a := by
  refine Or.inl ⟨hw, fun w _ => ?_⟩
  unfold execOp
  simp only [ho, hx, hy]
  go_simp
end

set_option maxHeartbeats 4000000 in
set_option maxRecDepth 100000 in
theorem limitTells_walk (L : LimOk) (a b c d x : Nat) (w : World) (ha : a < 18446744073709551616) (hb : b < 18446744073709551616) (_hc : c < 18446744073709551616) (_hd : d < 18446744073709551616) (hx : x < 18446744073709551616) :
    Calls Try.prog 3 #[bud a b, bud c d, .float .f64 x] w fun e w' => e = .returned (.bool true) ∧ Below w.heap.size w w' := by
  obtain ⟨s, hs⟩ : ∃ s, sc1 a b x = s := ⟨_, rfl⟩
  obtain ⟨t, ht⟩ : ∃ t, sc2 a b x = t := ⟨_, rfl⟩
  obtain ⟨er, he⟩ : ∃ er, scE a b x = er := ⟨_, rfl⟩
  have hv := scV_eq a b x
  rw [hs, ht] at hv
  have HV := Lib.hid hv
  have HE := Lib.hid he
  clear hs ht hv he
  have RA := Lib.hid ((RowL.new w w.heap.size a b rfl).alloc (.cells #[.float .f64 c, .float .f64 d] 24))
  have RB := Lib.hid (RowL.new (w.alloc (.cells #[.float .f64 a, .float .f64 b] 24)) (w.heap.size + 1) c d (by simp))
  go_enter Try.func3, Try.ntmps3
  go_wp2_with fail
  refine (L.scale_k _ _ _ _ _ _ ha hb hx HV.out HE.out).mono ?_
  rintro e w1 ⟨rfl, h1⟩
  have RA1 := Lib.hid (RA.out.call h1)
  have RB1 := Lib.hid (RB.out.call h1)
  have B1 := Lib.hid (thenB (B := w.heap.size) (w := w) (by go_grown) h1 (by simp; omega))
  clear h1 RA RB
  obtain ⟨c0, c1⟩ := RA1.out.cells
  have gl := RA1.out.lt
  go_wp2_with fail
  refine (ref_any a b _).mono ?_
  rintro e w2 ⟨rfl, h1⟩
  have RA2 := Lib.hid ((RA1.out.alloc _).call h1)
  have RB2 := Lib.hid ((RB1.out.alloc _).call h1)
  have RS2 := Lib.hid ((RowL.new w1 w1.heap.size s t rfl).call h1)
  have B2 := Lib.hid (thenB (B1.out.alloc B1.out.size _) h1 (Nat.le_trans B1.out.size (by simp)))
  clear h1 RA1 RB1 B1 c0 c1 gl
  go_wp2_with fail
  refine (rscale_k a b x s t er _ ha hb HV.out HE.out).mono ?_
  rintro e w3 ⟨rfl, h1⟩
  have RA3 := Lib.hid (RA2.out.call h1)
  have RB3 := Lib.hid (RB2.out.call h1)
  have RS3 := Lib.hid (RS2.out.call h1)
  have B3 := Lib.hid (thenB B2.out h1 B2.out.size)
  clear h1 RA2 RB2 RS2 B2
  go_wp2_with fail
  obtain ⟨g3, hg3⟩ : ∃ g3, g3 = w1.heap.size := ⟨_, rfl⟩
  obtain ⟨g4, hg4⟩ : ∃ g4, g4 = w3.heap.size := ⟨_, rfl⟩
  have hS : HT w w.heap.size a b (w.heap.size + 1) c d g3 s t g4 (w3.alloc (.cells #[.float .f64 s, .float .f64 t] 28)).drew :=
    ⟨(B3.out.alloc B3.out.size _).drew, RA3.out.alloc _, RB3.out.alloc _, by rw [hg3]; exact RS3.out.alloc _, Row.new w3 g4 s t hg4⟩
  rw [← hg3, ← hg4]
  clear RA3 RB3 RS3 B3 HV HE
  refine wp_region_held_drew (S := HT w w.heap.size a b (w.heap.size + 1) c d g3 s t g4) (by kernel_rfl) hS (fun _ => ?_)
  refine takeAt 0 24 (.float .f64 x) rfl rfl (by kernel_rfl) (by kernel_rfl) (by kernel_rfl) (fun _ _ _ h => h) (yields (by rfl) (fun w => by kernel_rfl)) hS ?_
  simp only [Act.put, List.setIfInBounds_toArray, List.set_cons_zero, List.set_cons_succ]
  refine takeAt 2 26 (.float .f64 x) rfl rfl (by kernel_rfl) (by kernel_rfl) (by kernel_rfl) (fun _ _ _ h => h) (yields (by rfl) (fun w => by kernel_rfl)) hS ?_
  simp only [Act.put, List.setIfInBounds_toArray, List.set_cons_zero, List.set_cons_succ]
  refine callAt 1 25 rfl rfl (by kernel_rfl) (by rfl) (by kernel_rfl) (L.kind x _ hx) ?_
  rintro e w' ⟨rfl, hb'⟩
  refine ⟨_, rfl, hS.call hb', ?_⟩
  have hT1 := hS.call hb'
  clear hS hb'
  simp only [Act.put, List.setIfInBounds_toArray, List.set_cons_zero, List.set_cons_succ]
  refine callAt 3 27 rfl rfl (by kernel_rfl) (by rfl) (by kernel_rfl) (rkind_b x _ hx) ?_
  rintro e w' ⟨rfl, hb'⟩
  refine ⟨_, rfl, hT1.call hb', ?_⟩
  have hT2 := hT1.call hb'
  clear hT1 hb'
  simp only [Act.put, List.setIfInBounds_toArray, List.set_cons_zero, List.set_cons_succ]
  refine takeAt 4 28 (.bool true) rfl rfl (by kernel_rfl) (by kernel_rfl) (by kernel_rfl) (fun _ _ _ h => h) (eqlI_y true rfl rfl rfl (by simp) (by rfl)) hT2 ?_
  simp only [Act.put, List.setIfInBounds_toArray, List.set_cons_zero, List.set_cons_succ]
  refine takeAt 5 29 (.bool true) rfl rfl (by kernel_rfl) (by kernel_rfl) (by kernel_rfl) (fun _ _ _ h => h) (yields (by rfl) (fun w => by kernel_rfl)) hT2 ?_
  simp only [Act.put, List.setIfInBounds_toArray, List.set_cons_zero, List.set_cons_succ]
  refine takeAt 6 30 (bud a b) rfl rfl (by kernel_rfl) (by kernel_rfl) (by kernel_rfl) (fun _ _ _ h => h) (loadL_y (w.heap.size) a b (fun _ h => h.2.1) rfl rfl (by rfl)) hT2 ?_
  simp only [Act.put, List.setIfInBounds_toArray, List.set_cons_zero, List.set_cons_succ]
  refine takeAt 8 32 (bud a b) rfl rfl (by kernel_rfl) (by kernel_rfl) (by kernel_rfl) (fun _ _ _ h => h) (loadL_y (w.heap.size) a b (fun _ h => h.2.1) rfl rfl (by rfl)) hT2 ?_
  simp only [Act.put, List.setIfInBounds_toArray, List.set_cons_zero, List.set_cons_succ]
  refine callAt 7 31 rfl rfl (by kernel_rfl) (by rfl) (by kernel_rfl) (L.right a b _ ha hb) ?_
  rintro e w' ⟨rfl, hb'⟩
  refine ⟨_, rfl, hT2.call hb', ?_⟩
  have hT3 := hT2.call hb'
  clear hT2 hb'
  simp only [Act.put, List.setIfInBounds_toArray, List.set_cons_zero, List.set_cons_succ]
  refine callAt 9 33 rfl rfl (by kernel_rfl) (by rfl) (by kernel_rfl) (ref_any a b _) ?_
  rintro e w' ⟨rfl, hb'⟩
  refine ⟨_, rfl, hT3.call hb', ?_⟩
  have hT4 := hT3.call hb'
  clear hT3 hb'
  simp only [Act.put, List.setIfInBounds_toArray, List.set_cons_zero, List.set_cons_succ]
  refine callAt 10 34 rfl rfl (by kernel_rfl) (by rfl) (by kernel_rfl) (rright_any a b _ ha hb) ?_
  rintro e w' ⟨rfl, hb'⟩
  refine ⟨_, rfl, hT4.call hb', ?_⟩
  have hT5 := hT4.call hb'
  clear hT4 hb'
  simp only [Act.put, List.setIfInBounds_toArray, List.set_cons_zero, List.set_cons_succ]
  refine takeAt 11 35 (.bool true) rfl rfl (by kernel_rfl) (by kernel_rfl) (by kernel_rfl) (fun _ _ _ h => h) (eqlB_y true rfl rfl rfl (by simp) (by rfl)) hT5 ?_
  simp only [Act.put, List.setIfInBounds_toArray, List.set_cons_zero, List.set_cons_succ]
  refine takeAt 12 36 (.bool true) rfl rfl (by kernel_rfl) (by kernel_rfl) (by kernel_rfl) (fun _ _ _ h => h) (yields (by rfl) (fun w => by kernel_rfl)) hT5 ?_
  simp only [Act.put, List.setIfInBounds_toArray, List.set_cons_zero, List.set_cons_succ]
  refine takeAt 13 37 (.bool true) rfl rfl (by kernel_rfl) (by kernel_rfl) (by kernel_rfl) (fun _ _ _ h => h) (yields (by rfl) (fun w => by kernel_rfl)) hT5 ?_
  simp only [Act.put, List.setIfInBounds_toArray, List.set_cons_zero, List.set_cons_succ]
  as_aux_lemma =>
    refine takeAt 14 38 (bud a b) rfl rfl (by kernel_rfl) (by kernel_rfl) (by kernel_rfl) (fun _ _ _ h => h) (loadL_y (w.heap.size) a b (fun _ h => h.2.1) rfl rfl (by rfl)) hT5 ?_
    simp only [Act.put, List.setIfInBounds_toArray, List.set_cons_zero, List.set_cons_succ]
    refine takeAt 15 39 (bud c d) rfl rfl (by kernel_rfl) (by kernel_rfl) (by kernel_rfl) (fun _ _ _ h => h) (loadL_y (w.heap.size + 1) c d (fun _ h => h.2.2.1) rfl rfl (by rfl)) hT5 ?_
    simp only [Act.put, List.setIfInBounds_toArray, List.set_cons_zero, List.set_cons_succ]
    refine takeAt 18 42 (bud a b) rfl rfl (by kernel_rfl) (by kernel_rfl) (by kernel_rfl) (fun _ _ _ h => h) (loadL_y (w.heap.size) a b (fun _ h => h.2.1) rfl rfl (by rfl)) hT5 ?_
    simp only [Act.put, List.setIfInBounds_toArray, List.set_cons_zero, List.set_cons_succ]
    refine takeAt 20 44 (bud c d) rfl rfl (by kernel_rfl) (by kernel_rfl) (by kernel_rfl) (fun _ _ _ h => h) (loadL_y (w.heap.size + 1) c d (fun _ h => h.2.2.1) rfl rfl (by rfl)) hT5 ?_
    simp only [Act.put, List.setIfInBounds_toArray, List.set_cons_zero, List.set_cons_succ]
    refine callAt 16 40 rfl rfl (by kernel_rfl) (by rfl) (by kernel_rfl) (L.least a b c d _) ?_
    rintro e w' ⟨rfl, hb'⟩
    refine ⟨_, rfl, hT5.call hb', ?_⟩
    have hT6 := hT5.call hb'
    clear hT5 hb'
    simp only [Act.put, List.setIfInBounds_toArray, List.set_cons_zero, List.set_cons_succ]
    refine callAt 17 41 rfl rfl (by kernel_rfl) (by rfl) (by kernel_rfl) (ref_any (lessW a c) (lessW b d) _) ?_
    rintro e w' ⟨rfl, hb'⟩
    refine ⟨_, rfl, hT6.call hb', ?_⟩
    have hT7 := hT6.call hb'
    clear hT6 hb'
    simp only [Act.put, List.setIfInBounds_toArray, List.set_cons_zero, List.set_cons_succ]
    refine callAt 19 43 rfl rfl (by kernel_rfl) (by rfl) (by kernel_rfl) (ref_any a b _) ?_
    rintro e w' ⟨rfl, hb'⟩
    refine ⟨_, rfl, hT7.call hb', ?_⟩
    have hT8 := hT7.call hb'
    clear hT7 hb'
    simp only [Act.put, List.setIfInBounds_toArray, List.set_cons_zero, List.set_cons_succ]
    refine callAt 21 45 rfl rfl (by kernel_rfl) (by rfl) (by kernel_rfl) (ref_any c d _) ?_
    rintro e w' ⟨rfl, hb'⟩
    refine ⟨_, rfl, hT8.call hb', ?_⟩
    have hT9 := hT8.call hb'
    clear hT8 hb'
    simp only [Act.put, List.setIfInBounds_toArray, List.set_cons_zero, List.set_cons_succ]
    refine callAt 22 46 rfl rfl (by kernel_rfl) (by rfl) (by kernel_rfl) (rleast_any a b c d _) ?_
    rintro e w' ⟨rfl, hb'⟩
    refine ⟨_, rfl, hT9.call hb', ?_⟩
    have hT10 := hT9.call hb'
    clear hT9 hb'
    simp only [Act.put, List.setIfInBounds_toArray, List.set_cons_zero, List.set_cons_succ]
    refine callAt 23 47 rfl rfl (by kernel_rfl) (by rfl) (by kernel_rfl) (rsame_self (lessW a c) (lessW b d) _) ?_
    rintro e w' ⟨rfl, hb'⟩
    refine ⟨_, rfl, hT10.call hb', ?_⟩
    have hT11 := hT10.call hb'
    clear hT10 hb'
    simp only [Act.put, List.setIfInBounds_toArray, List.set_cons_zero, List.set_cons_succ]
    refine takeAt 24 48 (.bool true) rfl rfl (by kernel_rfl) (by kernel_rfl) (by kernel_rfl) (fun _ _ _ h => h) (yields (by rfl) (fun w => by kernel_rfl)) hT11 ?_
    simp only [Act.put, List.setIfInBounds_toArray, List.set_cons_zero, List.set_cons_succ]
    refine takeAt 25 49 (.bool true) rfl rfl (by kernel_rfl) (by kernel_rfl) (by kernel_rfl) (fun _ _ _ h => h) (yields (by rfl) (fun w => by kernel_rfl)) hT11 ?_
    simp only [Act.put, List.setIfInBounds_toArray, List.set_cons_zero, List.set_cons_succ]
    refine takeAt 26 50 (bud s t) rfl rfl (by kernel_rfl) (by kernel_rfl) (by kernel_rfl) (fun _ _ _ h => h) (loadL_y g3 s t (fun _ h => h.2.2.2.1) rfl rfl (by rfl)) hT11 ?_
    simp only [Act.put, List.setIfInBounds_toArray, List.set_cons_zero, List.set_cons_succ]
    refine takeAt 28 52 (bud s t) rfl rfl (by kernel_rfl) (by kernel_rfl) (by kernel_rfl) (fun _ _ _ h => h) (loadR_y g4 s t (fun _ h => h.2.2.2.2) rfl rfl (by rfl)) hT11 ?_
    simp only [Act.put, List.setIfInBounds_toArray, List.set_cons_zero, List.set_cons_succ]
    as_aux_lemma =>
      refine callAt 27 51 rfl rfl (by kernel_rfl) (by rfl) (by kernel_rfl) (ref_any s t _) ?_
      rintro e w' ⟨rfl, hb'⟩
      refine ⟨_, rfl, hT11.call hb', ?_⟩
      have hT12 := hT11.call hb'
      clear hT11 hb'
      simp only [Act.put, List.setIfInBounds_toArray, List.set_cons_zero, List.set_cons_succ]
      refine callAt 29 53 rfl rfl (by kernel_rfl) (by rfl) (by kernel_rfl) (rsame_self s t _) ?_
      rintro e w' ⟨rfl, hb'⟩
      refine ⟨_, rfl, hT12.call hb', ?_⟩
      have hT13 := hT12.call hb'
      clear hT12 hb'
      simp only [Act.put, List.setIfInBounds_toArray, List.set_cons_zero, List.set_cons_succ]
      refine takeAt 30 54 (.bool true) rfl rfl (by kernel_rfl) (by kernel_rfl) (by kernel_rfl) (fun _ _ _ h => h) (yields (by rfl) (fun w => by kernel_rfl)) hT13 ?_
      simp only [Act.put, List.setIfInBounds_toArray, List.set_cons_zero, List.set_cons_succ]
      refine takeAt 31 55 (.bool true) rfl rfl (by kernel_rfl) (by kernel_rfl) (by kernel_rfl) (fun _ _ _ h => h) (yields (by rfl) (fun w => by kernel_rfl)) hT13 ?_
      simp only [Act.put, List.setIfInBounds_toArray, List.set_cons_zero, List.set_cons_succ]
      refine takeAt 32 56 (.int .i64 er) rfl rfl (by kernel_rfl) (by kernel_rfl) (by kernel_rfl) (fun _ _ _ h => h) (yields (by rfl) (fun w => by kernel_rfl)) hT13 ?_
      simp only [Act.put, List.setIfInBounds_toArray, List.set_cons_zero, List.set_cons_succ]
      refine takeAt 33 57 (.int .i64 er) rfl rfl (by kernel_rfl) (by kernel_rfl) (by kernel_rfl) (fun _ _ _ h => h) (yields (by rfl) (fun w => by kernel_rfl)) hT13 ?_
      simp only [Act.put, List.setIfInBounds_toArray, List.set_cons_zero, List.set_cons_succ]
      refine takeAt 34 58 (.bool true) rfl rfl (by kernel_rfl) (by kernel_rfl) (by kernel_rfl) (fun _ _ _ h => h) (eqlE_y true rfl rfl rfl (by simp) (by rfl)) hT13 ?_
      simp only [Act.put, List.setIfInBounds_toArray, List.set_cons_zero, List.set_cons_succ]
      refine takeAt 35 59 (.bool true) rfl rfl (by kernel_rfl) (by kernel_rfl) (by kernel_rfl) (fun _ _ _ h => h) (yields (by rfl) (fun w => by kernel_rfl)) hT13 ?_
      simp only [Act.put, List.setIfInBounds_toArray, List.set_cons_zero, List.set_cons_succ]
      refine takeAt 36 60 (.bool true) rfl rfl (by kernel_rfl) (by kernel_rfl) (by kernel_rfl) (fun _ _ _ h => h) (yields (by rfl) (fun w => by kernel_rfl)) hT13 ?_
      simp only [Act.put, List.setIfInBounds_toArray, List.set_cons_zero, List.set_cons_succ]
      refine callAt 37 61 rfl rfl (by kernel_rfl) (by rfl) (by kernel_rfl) (fixed_any L _) ?_
      rintro e w' ⟨rfl, hb'⟩
      refine ⟨_, rfl, hT13.call hb', ?_⟩
      have hT14 := hT13.call hb'
      clear hT13 hb'
      simp only [Act.put, List.setIfInBounds_toArray, List.set_cons_zero, List.set_cons_succ]
      refine takeAt 38 62 (.bool true) rfl rfl (by kernel_rfl) (by kernel_rfl) (by kernel_rfl) (fun _ _ _ h => h) (yields (by rfl) (fun w => by kernel_rfl)) hT14 ?_
      simp only [Act.put, List.setIfInBounds_toArray, List.set_cons_zero, List.set_cons_succ]
      refine takeAt 39 6 (.bool true) rfl rfl (by kernel_rfl) (by kernel_rfl) (by kernel_rfl) (fun _ _ _ h => h) (yields (by rfl) (fun w => by kernel_rfl)) hT14 ?_
      simp only [Act.put, List.setIfInBounds_toArray, List.set_cons_zero, List.set_cons_succ]
      refine wpAnyH_done (by kernel_rfl) ?_ _
      go_wp2
      go_ret
      exact ⟨rfl, hT14.1⟩
end Go.Proofs.Ytaobbdmkkehpnaa
