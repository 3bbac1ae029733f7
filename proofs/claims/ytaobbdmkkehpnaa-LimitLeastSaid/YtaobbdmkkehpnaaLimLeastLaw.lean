/-
  The statement LimitLeast: what its walk comes to, if package limit's calls do what the document says.
-/
import Derived.Test.YtaobbdmkkehpnaaLimGrowsLaw
namespace Go.Proofs.Ytaobbdmkkehpnaa
open Go.RowKit

theorem RowL.other {u : World} {g x y k : Nat} (h : RowL u g x y) (cs : Array Value) (hk : g ≠ k) : RowL (u.setRow k cs) g x y := (setRow_other u k g cs hk).trans h
theorem KG.row {w0 u : World} {a1 a2 b1 b2 k : Nat} (h : KG w0 a1 a2 b1 b2 u) (cs : Array Value) (hk : w0.heap.size + 2 ≤ k) : KG w0 a1 a2 b1 b2 (u.setRow k cs) :=
  ⟨below_row h.1 (by omega) cs, h.2.1.other cs (by omega), h.2.2.other cs (by omega)⟩
theorem KG.alloc {w0 u : World} {a1 a2 b1 b2 : Nat} (h : KG w0 a1 a2 b1 b2 u) (o : Obj) : KG w0 a1 a2 b1 b2 (u.alloc o) := h.call ((Below.refl _ u).alloc (Nat.le_refl _) o)
/-- Both budgets, and what both allow, either way. -/
def KL (w0 : World) (a1 a2 b1 b2 g5 g6 x1 x2 y1 y2 : Nat) (u : World) : Prop := KG w0 a1 a2 b1 b2 u ∧ RowL u g5 x1 x2 ∧ RowL u g6 y1 y2
theorem KL.call {w0 u v : World} {a1 a2 b1 b2 g5 g6 x1 x2 y1 y2 : Nat} (h : KL w0 a1 a2 b1 b2 g5 g6 x1 x2 y1 y2 u) (hb : Below u.heap.size u v) : KL w0 a1 a2 b1 b2 g5 g6 x1 x2 y1 y2 v := ⟨h.1.call hb, h.2.1.call hb, h.2.2.call hb⟩
theorem KL.drew {w0 u : World} {a1 a2 b1 b2 g5 g6 x1 x2 y1 y2 : Nat} (h : KL w0 a1 a2 b1 b2 g5 g6 x1 x2 y1 y2 u) : KL w0 a1 a2 b1 b2 g5 g6 x1 x2 y1 y2 u.drew := ⟨h.1.drew, h.2.1, h.2.2⟩
/-- How floats stand to each other. -/
def leB (x y : Nat) : Bool := FloatKind.f64.format.order x y == some .lt || FloatKind.f64.format.order x y == some .eq
def eqB (x y : Nat) : Bool := FloatKind.f64.format.order x y == some .eq
theorem leB_sv (x y : Nat) (hx : nanW x = false) (hy : nanW y = false) (h : sv x ≤ sv y) : leB x y = true := by
  unfold leB
  have e : FloatKind.f64.format.order x y = some (compare (sv x) (sv y)) := order_sv x y hx hy
  rw [e]
  by_cases c : sv x < sv y
  · rw [Int.compare_eq_lt.2 c]; rfl
  · rw [Int.compare_eq_eq.2 (by omega)]; rfl
theorem eqB_sv (x y : Nat) (hx : nanW x = false) (hy : nanW y = false) (h : sv x = sv y) : eqB x y = true := by
  unfold eqB
  have e : FloatKind.f64.format.order x y = some (compare (sv x) (sv y)) := order_sv x y hx hy
  rw [e, Int.compare_eq_eq.2 h]; rfl
theorem less_self (a b : Nat) (ha : nanW a = false) (hb : nanW b = false) : lessW (lessW a b) a = lessW a b := by
  obtain ⟨h1, h2⟩ := less_sv a b ha hb
  have e : FloatKind.f64.format.order a (lessW a b) = some (compare (sv a) (sv (lessW a b))) := order_sv a _ ha h1
  unfold lessW at e ⊢
  rw [if_neg]
  rw [e]
  intro hc
  have := Int.compare_eq_lt.1 (Option.some.inj hc)
  have h3 : sv (lessW a b) ≤ sv a := by rw [h2]; omega
  unfold lessW at h3
  omega
section
variable {ops : Array Oper} {a : Act} {o : Oper} {x y : Operand} {R : World → Prop}
theorem leqG_y {m n : Nat} (h : leB m n = true) (ho : o.op = .binOp .leq 22 x y 22) (hx : a.eval x = .float .f64 m) (hy : a.eval y = .float .f64 n) (hw : Region.wanted o (yielded ops a.tmps) = true) : YieldsIf Try.prog ops R o (.bool true) a := by
  refine Or.inl ⟨hw, fun w _ => ?_⟩
  unfold leB at h
  unfold execOp
  simp only [ho, hx, hy]
  go_simp
theorem eqG_y {m n : Nat} (h : eqB m n = true) (ho : o.op = .binOp .eql 22 x y 22) (hx : a.eval x = .float .f64 m) (hy : a.eval y = .float .f64 n) (hw : Region.wanted o (yielded ops a.tmps) = true) : YieldsIf Try.prog ops R o (.bool true) a := by
  refine Or.inl ⟨hw, fun w _ => ?_⟩
  unfold eqB at h
  unfold execOp
  simp only [ho, hx, hy]
  go_simp
theorem eqBud_y {m n : Nat} (h : eqB m m = true) (h2 : eqB n n = true) (ho : o.op = .binOp .eql 24 x y 24) (hx : a.eval x = bud m n) (hy : a.eval y = bud m n) (hw : Region.wanted o (yielded ops a.tmps) = true) : YieldsIf Try.prog ops R o (.bool true) a := by
  refine Or.inl ⟨hw, fun w _ => ?_⟩
  unfold eqB at h h2
  unfold execOp
  simp only [ho, hx, hy]
  go_simp
end
theorem kind_low (x : Nat) (h : okW x = false) : decide (kindZ x < 3) = true := by
  unfold okW at h
  simp at h ⊢
  omega

set_option maxHeartbeats 8000000 in
set_option maxRecDepth 100000 in
theorem limitLeast_walk (L : LimOk) (a1 a2 b1 b2 : Nat) (w : World) (ha1 : a1 < 18446744073709551616) (ha2 : a2 < 18446744073709551616) (hb1 : b1 < 18446744073709551616) (hb2 : b2 < 18446744073709551616) :
    Calls Try.prog 7 #[bud a1 a2, bud b1 b2] w fun e w' => e = .returned (.bool true) ∧ Below w.heap.size w w' := by
  have K0 := KG.new w a1 a2 b1 b2
  go_enter Try.func7, Try.ntmps7
  go_wp2_with fail
  rename_i K hK
  have rest : ∀ (u : World) (g5 g6 : Nat), KL w a1 a2 b1 b2 g5 g6 (lessW a1 b1) (lessW a2 b2) (lessW b1 a1) (lessW b2 a2) u → K { tmps := #[bud a1 a2, bud b1 b2, .pointer (some ⟨w.heap.size, 0, none⟩), .pointer (some ⟨w.heap.size + 1, 0, none⟩), .bool false, .pointer (some ⟨g5, 0, none⟩), .pointer (some ⟨g6, 0, none⟩), bud a1 a2, bud b1 b2, bud (lessW a1 b1) (lessW a2 b2), bud b1 b2, bud a1 a2, bud (lessW b1 a1) (lessW b2 a2), undef, undef, undef, undef, undef, undef, undef, undef, undef, undef, undef, undef, undef, undef, undef, undef, undef, undef, undef, undef, undef, undef, undef, undef, undef, undef, undef, undef, undef, undef, undef, undef, undef, undef, undef, undef, undef, undef, undef, undef, undef, undef, undef, undef, undef, undef, undef, undef, undef, undef, undef, undef, undef, undef, undef, undef, undef, undef, undef, undef, undef, undef, undef, undef, undef, undef, undef, undef, undef, undef, undef, undef, undef, undef, undef, undef, undef, undef, undef], defers := [] } u := by
    intro u g5 g6 hF
    have HF := Lib.hid hF
    clear hF K0
    apply hK
    cases oa : (okW a1 && okW a2)
    · cases ho1 : okW a1
      · have F0 := HF
        obtain ⟨c0, c1⟩ := F0.out.1.2.1.cells
        obtain ⟨d0, d1⟩ := F0.out.1.2.2.cells
        go_wp2_with fail
        refine (L.right_k _ _ _ _ ha1 ha2 oa).mono ?_
        rintro e v1 ⟨rfl, hb⟩
        have F1 := Lib.hid (F0.out.call hb)
        clear hb F0
        clear c0 c1 d0 d1
        obtain ⟨c0, c1⟩ := F1.out.1.2.1.cells
        obtain ⟨d0, d1⟩ := F1.out.1.2.2.cells
        go_wp2_with fail
        refine (L.right_k _ _ _ _ ha1 ha2 oa).mono ?_
        rintro e v2 ⟨rfl, hb⟩
        have F2 := Lib.hid (F1.out.call hb)
        clear hb F1
        clear c0 c1 d0 d1
        obtain ⟨c0, c1⟩ := F2.out.1.2.1.cells
        obtain ⟨d0, d1⟩ := F2.out.1.2.2.cells
        go_wp2_with fail
        refine (L.kind a1 _ ha1).mono ?_
        rintro e v3 ⟨rfl, hb⟩
        have F3 := Lib.hid (F2.out.call hb)
        clear hb F2
        clear c0 c1 d0 d1
        have kl := kind_low a1 ho1
        generalize kindZ a1 = kz at kl ⊢
        go_wp2_with fail
        refine (fixed_any L _).mono ?_
        rintro e v9 ⟨rfl, hb⟩
        have BE := Lib.hid (thenB F3.out.1.1 hb F3.out.1.1.size)
        clear hb
        go_wp2_with fail
        go_ret
        exact ⟨rfl, BE.out⟩
      · have ho2 : okW a2 = false := by rw [ho1] at oa; simpa using oa
        have F0 := HF
        obtain ⟨c0, c1⟩ := F0.out.1.2.1.cells
        obtain ⟨d0, d1⟩ := F0.out.1.2.2.cells
        go_wp2_with fail
        refine (L.right_k _ _ _ _ ha1 ha2 oa).mono ?_
        rintro e v1 ⟨rfl, hb⟩
        have F1 := Lib.hid (F0.out.call hb)
        clear hb F0
        clear c0 c1 d0 d1
        obtain ⟨c0, c1⟩ := F1.out.1.2.1.cells
        obtain ⟨d0, d1⟩ := F1.out.1.2.2.cells
        go_wp2_with fail
        refine (L.right_k _ _ _ _ ha1 ha2 oa).mono ?_
        rintro e v2 ⟨rfl, hb⟩
        have F2 := Lib.hid (F1.out.call hb)
        clear hb F1
        clear c0 c1 d0 d1
        obtain ⟨c0, c1⟩ := F2.out.1.2.1.cells
        obtain ⟨d0, d1⟩ := F2.out.1.2.2.cells
        go_wp2_with fail
        refine (L.kind a1 _ ha1).mono ?_
        rintro e v3 ⟨rfl, hb⟩
        have F3 := Lib.hid (F2.out.call hb)
        clear hb F2
        clear c0 c1 d0 d1
        have kl : decide (kindZ a1 < 3) = false := by unfold okW at ho1; simp at ho1 ⊢; omega
        generalize kindZ a1 = kz at kl ⊢
        obtain ⟨c0, c1⟩ := F3.out.1.2.1.cells
        obtain ⟨d0, d1⟩ := F3.out.1.2.2.cells
        go_wp2_with fail
        refine (L.kind a2 _ ha2).mono ?_
        rintro e v4 ⟨rfl, hb⟩
        have F4 := Lib.hid (F3.out.call hb)
        clear hb F3
        clear c0 c1 d0 d1
        have kl2 := kind_low a2 ho2
        generalize kindZ a2 = kz2 at kl2 ⊢
        go_wp2_with fail
        refine (fixed_any L _).mono ?_
        rintro e v9 ⟨rfl, hb⟩
        have BE := Lib.hid (thenB F4.out.1.1 hb F4.out.1.1.size)
        clear hb
        go_wp2_with fail
        go_ret
        exact ⟨rfl, BE.out⟩
    · cases ob : (okW b1 && okW b2)
      · have F0 := HF
        obtain ⟨c0, c1⟩ := F0.out.1.2.1.cells
        obtain ⟨d0, d1⟩ := F0.out.1.2.2.cells
        go_wp2_with fail
        refine (L.right_k _ _ _ _ ha1 ha2 oa).mono ?_
        rintro e v1 ⟨rfl, hb⟩
        have F1 := Lib.hid (F0.out.call hb)
        clear hb F0
        clear c0 c1 d0 d1
        obtain ⟨c0, c1⟩ := F1.out.1.2.1.cells
        obtain ⟨d0, d1⟩ := F1.out.1.2.2.cells
        go_wp2_with fail
        refine (L.right_k _ _ _ _ hb1 hb2 ob).mono ?_
        rintro e v2 ⟨rfl, hb⟩
        have F2 := Lib.hid (F1.out.call hb)
        clear hb F1
        clear c0 c1 d0 d1
        obtain ⟨c0, c1⟩ := F2.out.1.2.1.cells
        obtain ⟨d0, d1⟩ := F2.out.1.2.2.cells
        go_wp2_with fail
        refine (L.right_k _ _ _ _ ha1 ha2 oa).mono ?_
        rintro e v3 ⟨rfl, hb⟩
        have F3 := Lib.hid (F2.out.call hb)
        clear hb F2
        clear c0 c1 d0 d1
        go_wp2_with fail
        refine (fixed_any L _).mono ?_
        rintro e v9 ⟨rfl, hb⟩
        have BE := Lib.hid (thenB F3.out.1.1 hb F3.out.1.1.size)
        clear hb
        go_wp2_with fail
        go_ret
        exact ⟨rfl, BE.out⟩
      · have F0 := HF
        obtain ⟨c0, c1⟩ := F0.out.1.2.1.cells
        obtain ⟨d0, d1⟩ := F0.out.1.2.2.cells
        go_wp2_with fail
        refine (L.right_k _ _ _ _ ha1 ha2 oa).mono ?_
        rintro e v1 ⟨rfl, hb⟩
        have F1 := Lib.hid (F0.out.call hb)
        clear hb F0
        clear c0 c1 d0 d1
        obtain ⟨c0, c1⟩ := F1.out.1.2.1.cells
        obtain ⟨d0, d1⟩ := F1.out.1.2.2.cells
        go_wp2_with fail
        refine (L.right_k _ _ _ _ hb1 hb2 ob).mono ?_
        rintro e v2 ⟨rfl, hb⟩
        have F2 := Lib.hid (F1.out.call hb)
        clear hb F1
        clear c0 c1 d0 d1
        go_wp2_with fail
        have oaa : okW a1 = true ∧ okW a2 = true := by simpa using oa
        have obb : okW b1 = true ∧ okW b2 = true := by simpa using ob
        have na1 := nan_ok oaa.1
        have na2 := nan_ok oaa.2
        have nb1 := nan_ok obb.1
        have nb2 := nan_ok obb.2
        obtain ⟨x1n, x1s⟩ := less_sv a1 b1 na1 nb1
        obtain ⟨x2n, x2s⟩ := less_sv a2 b2 na2 nb2
        obtain ⟨y1n, y1s⟩ := less_sv b1 a1 nb1 na1
        obtain ⟨y2n, y2s⟩ := less_sv b2 a2 nb2 na2
        have XB := Lib.hid (show lessW a1 b1 < 18446744073709551616 ∧ lessW a2 b2 < 18446744073709551616 from ⟨less_lt a1 b1 ha1 hb1, less_lt a2 b2 ha2 hb2⟩)
        have OX := Lib.hid (show (okW (lessW a1 b1) && okW (lessW a2 b2)) = true by rw [ok_less a1 b1 oaa.1 obb.1, ok_less a2 b2 oaa.2 obb.2]; rfl)
        have LX := Lib.hid (show lessW (lessW a1 b1) a1 = lessW a1 b1 ∧ lessW (lessW a2 b2) a2 = lessW a2 b2 from ⟨less_self a1 b1 na1 nb1, less_self a2 b2 na2 nb2⟩)
        have E1 := Lib.hid (leB_sv (lessW a1 b1) a1 x1n na1 (by omega))
        have E2 := Lib.hid (leB_sv (lessW a1 b1) b1 x1n nb1 (by omega))
        have E3 := Lib.hid (leB_sv (lessW a2 b2) a2 x2n na2 (by omega))
        have E4 := Lib.hid (leB_sv (lessW a2 b2) b2 x2n nb2 (by omega))
        have E5 := Lib.hid (eqB_sv (lessW a1 b1) (lessW b1 a1) x1n y1n (by omega))
        have E6 := Lib.hid (eqB_sv (lessW a2 b2) (lessW b2 a2) x2n y2n (by omega))
        have E7 := Lib.hid (eqB_sv (lessW a1 b1) (lessW a1 b1) x1n x1n rfl)
        have E8 := Lib.hid (eqB_sv (lessW a2 b2) (lessW a2 b2) x2n x2n rfl)
        clear oaa obb na1 na2 nb1 nb2 x1n x1s x2n x2s y1n y1s y2n y2s
        have hS := F2.out.drew
        clear F2
        refine wp_region_held_drew (S := KL w a1 a2 b1 b2 g5 g6 (lessW a1 b1) (lessW a2 b2) (lessW b1 a1) (lessW b2 a2)) (by kernel_rfl) hS (fun _ => ?_)
        refine takeAt 0 38 (bud (lessW a1 b1) (lessW a2 b2)) rfl rfl (by kernel_rfl) (by kernel_rfl) (by kernel_rfl) (fun _ _ _ h => h) (loadL_y g5 (lessW a1 b1) (lessW a2 b2) (fun _ h => h.2.1) rfl rfl (by rfl)) hS ?_
        simp only [Act.put, List.setIfInBounds_toArray, List.set_cons_zero, List.set_cons_succ]
        refine callAt 1 39 rfl rfl (by kernel_rfl) (by rfl) (by kernel_rfl) (L.right_k _ _ true _ XB.out.1 XB.out.2 OX.out) ?_
        rintro e w' ⟨rfl, hb'⟩
        refine ⟨_, rfl, hS.call hb', ?_⟩
        have hT1 := hS.call hb'
        clear hS hb'
        simp only [Act.put, List.setIfInBounds_toArray, List.set_cons_zero, List.set_cons_succ]
        refine takeAt 2 40 (.bool true) rfl rfl (by kernel_rfl) (by kernel_rfl) (by kernel_rfl) (fun _ _ _ h => h) (yields (by rfl) (fun w => by kernel_rfl)) hT1 ?_
        simp only [Act.put, List.setIfInBounds_toArray, List.set_cons_zero, List.set_cons_succ]
        refine takeAt 3 41 (.pointer (some ⟨g5, 0, none⟩)) rfl rfl (by kernel_rfl) (by kernel_rfl) (by kernel_rfl) (fun _ _ _ h => h) (yields (by rfl) (fun w => by kernel_rfl)) hT1 ?_
        simp only [Act.put, List.setIfInBounds_toArray, List.set_cons_zero, List.set_cons_succ]
        refine takeAt 4 42 (.float .f64 (lessW a1 b1)) rfl rfl (by kernel_rfl) (by kernel_rfl) (by kernel_rfl) (fun _ _ _ h => h) (loadX_y g5 0 (lessW a1 b1) (fun _ h => (h.2.1).cells.1) rfl rfl (by rfl)) hT1 ?_
        simp only [Act.put, List.setIfInBounds_toArray, List.set_cons_zero, List.set_cons_succ]
        refine takeAt 5 43 (.pointer (some ⟨w.heap.size, 0, none⟩)) rfl rfl (by kernel_rfl) (by kernel_rfl) (by kernel_rfl) (fun _ _ _ h => h) (yields (by rfl) (fun w => by kernel_rfl)) hT1 ?_
        simp only [Act.put, List.setIfInBounds_toArray, List.set_cons_zero, List.set_cons_succ]
        refine takeAt 6 44 (.float .f64 a1) rfl rfl (by kernel_rfl) (by kernel_rfl) (by kernel_rfl) (fun _ _ _ h => h) (loadX_y w.heap.size 0 a1 (fun _ h => (h.1.2.1).cells.1) rfl rfl (by rfl)) hT1 ?_
        simp only [Act.put, List.setIfInBounds_toArray, List.set_cons_zero, List.set_cons_succ]
        refine takeAt 7 45 (.bool true) rfl rfl (by kernel_rfl) (by kernel_rfl) (by kernel_rfl) (fun _ _ _ h => h) (leqG_y E1.out rfl rfl rfl (by rfl)) hT1 ?_
        simp only [Act.put, List.setIfInBounds_toArray, List.set_cons_zero, List.set_cons_succ]
        refine takeAt 8 46 (.bool true) rfl rfl (by kernel_rfl) (by kernel_rfl) (by kernel_rfl) (fun _ _ _ h => h) (yields (by rfl) (fun w => by kernel_rfl)) hT1 ?_
        simp only [Act.put, List.setIfInBounds_toArray, List.set_cons_zero, List.set_cons_succ]
        refine takeAt 9 47 (.bool true) rfl rfl (by kernel_rfl) (by kernel_rfl) (by kernel_rfl) (fun _ _ _ h => h) (yields (by rfl) (fun w => by kernel_rfl)) hT1 ?_
        simp only [Act.put, List.setIfInBounds_toArray, List.set_cons_zero, List.set_cons_succ]
        refine takeAt 10 48 (.pointer (some ⟨g5, 0, none⟩)) rfl rfl (by kernel_rfl) (by kernel_rfl) (by kernel_rfl) (fun _ _ _ h => h) (yields (by rfl) (fun w => by kernel_rfl)) hT1 ?_
        simp only [Act.put, List.setIfInBounds_toArray, List.set_cons_zero, List.set_cons_succ]
        refine takeAt 11 49 (.float .f64 (lessW a1 b1)) rfl rfl (by kernel_rfl) (by kernel_rfl) (by kernel_rfl) (fun _ _ _ h => h) (loadX_y g5 0 (lessW a1 b1) (fun _ h => (h.2.1).cells.1) rfl rfl (by rfl)) hT1 ?_
        simp only [Act.put, List.setIfInBounds_toArray, List.set_cons_zero, List.set_cons_succ]
        refine takeAt 12 50 (.pointer (some ⟨(w.heap.size + 1), 0, none⟩)) rfl rfl (by kernel_rfl) (by kernel_rfl) (by kernel_rfl) (fun _ _ _ h => h) (yields (by rfl) (fun w => by kernel_rfl)) hT1 ?_
        simp only [Act.put, List.setIfInBounds_toArray, List.set_cons_zero, List.set_cons_succ]
        refine takeAt 13 51 (.float .f64 b1) rfl rfl (by kernel_rfl) (by kernel_rfl) (by kernel_rfl) (fun _ _ _ h => h) (loadX_y (w.heap.size + 1) 0 b1 (fun _ h => (h.1.2.2).cells.1) rfl rfl (by rfl)) hT1 ?_
        simp only [Act.put, List.setIfInBounds_toArray, List.set_cons_zero, List.set_cons_succ]
        as_aux_lemma =>
          refine takeAt 14 52 (.bool true) rfl rfl (by kernel_rfl) (by kernel_rfl) (by kernel_rfl) (fun _ _ _ h => h) (leqG_y E2.out rfl rfl rfl (by rfl)) hT1 ?_
          simp only [Act.put, List.setIfInBounds_toArray, List.set_cons_zero, List.set_cons_succ]
          refine takeAt 15 53 (.bool true) rfl rfl (by kernel_rfl) (by kernel_rfl) (by kernel_rfl) (fun _ _ _ h => h) (yields (by rfl) (fun w => by kernel_rfl)) hT1 ?_
          simp only [Act.put, List.setIfInBounds_toArray, List.set_cons_zero, List.set_cons_succ]
          refine takeAt 16 54 (.bool true) rfl rfl (by kernel_rfl) (by kernel_rfl) (by kernel_rfl) (fun _ _ _ h => h) (yields (by rfl) (fun w => by kernel_rfl)) hT1 ?_
          simp only [Act.put, List.setIfInBounds_toArray, List.set_cons_zero, List.set_cons_succ]
          refine takeAt 17 55 (.pointer (some ⟨g5, 1, none⟩)) rfl rfl (by kernel_rfl) (by kernel_rfl) (by kernel_rfl) (fun _ _ _ h => h) (yields (by rfl) (fun w => by kernel_rfl)) hT1 ?_
          simp only [Act.put, List.setIfInBounds_toArray, List.set_cons_zero, List.set_cons_succ]
          refine takeAt 18 56 (.float .f64 (lessW a2 b2)) rfl rfl (by kernel_rfl) (by kernel_rfl) (by kernel_rfl) (fun _ _ _ h => h) (loadX_y g5 1 (lessW a2 b2) (fun _ h => (h.2.1).cells.2) rfl rfl (by rfl)) hT1 ?_
          simp only [Act.put, List.setIfInBounds_toArray, List.set_cons_zero, List.set_cons_succ]
          refine takeAt 19 57 (.pointer (some ⟨w.heap.size, 1, none⟩)) rfl rfl (by kernel_rfl) (by kernel_rfl) (by kernel_rfl) (fun _ _ _ h => h) (yields (by rfl) (fun w => by kernel_rfl)) hT1 ?_
          simp only [Act.put, List.setIfInBounds_toArray, List.set_cons_zero, List.set_cons_succ]
          refine takeAt 20 58 (.float .f64 a2) rfl rfl (by kernel_rfl) (by kernel_rfl) (by kernel_rfl) (fun _ _ _ h => h) (loadX_y w.heap.size 1 a2 (fun _ h => (h.1.2.1).cells.2) rfl rfl (by rfl)) hT1 ?_
          simp only [Act.put, List.setIfInBounds_toArray, List.set_cons_zero, List.set_cons_succ]
          refine takeAt 21 59 (.bool true) rfl rfl (by kernel_rfl) (by kernel_rfl) (by kernel_rfl) (fun _ _ _ h => h) (leqG_y E3.out rfl rfl rfl (by rfl)) hT1 ?_
          simp only [Act.put, List.setIfInBounds_toArray, List.set_cons_zero, List.set_cons_succ]
          refine takeAt 22 60 (.bool true) rfl rfl (by kernel_rfl) (by kernel_rfl) (by kernel_rfl) (fun _ _ _ h => h) (yields (by rfl) (fun w => by kernel_rfl)) hT1 ?_
          simp only [Act.put, List.setIfInBounds_toArray, List.set_cons_zero, List.set_cons_succ]
          refine takeAt 23 61 (.bool true) rfl rfl (by kernel_rfl) (by kernel_rfl) (by kernel_rfl) (fun _ _ _ h => h) (yields (by rfl) (fun w => by kernel_rfl)) hT1 ?_
          simp only [Act.put, List.setIfInBounds_toArray, List.set_cons_zero, List.set_cons_succ]
          refine takeAt 24 62 (.pointer (some ⟨g5, 1, none⟩)) rfl rfl (by kernel_rfl) (by kernel_rfl) (by kernel_rfl) (fun _ _ _ h => h) (yields (by rfl) (fun w => by kernel_rfl)) hT1 ?_
          simp only [Act.put, List.setIfInBounds_toArray, List.set_cons_zero, List.set_cons_succ]
          refine takeAt 25 63 (.float .f64 (lessW a2 b2)) rfl rfl (by kernel_rfl) (by kernel_rfl) (by kernel_rfl) (fun _ _ _ h => h) (loadX_y g5 1 (lessW a2 b2) (fun _ h => (h.2.1).cells.2) rfl rfl (by rfl)) hT1 ?_
          simp only [Act.put, List.setIfInBounds_toArray, List.set_cons_zero, List.set_cons_succ]
          refine takeAt 26 64 (.pointer (some ⟨(w.heap.size + 1), 1, none⟩)) rfl rfl (by kernel_rfl) (by kernel_rfl) (by kernel_rfl) (fun _ _ _ h => h) (yields (by rfl) (fun w => by kernel_rfl)) hT1 ?_
          simp only [Act.put, List.setIfInBounds_toArray, List.set_cons_zero, List.set_cons_succ]
          refine takeAt 27 65 (.float .f64 b2) rfl rfl (by kernel_rfl) (by kernel_rfl) (by kernel_rfl) (fun _ _ _ h => h) (loadX_y (w.heap.size + 1) 1 b2 (fun _ h => (h.1.2.2).cells.2) rfl rfl (by rfl)) hT1 ?_
          simp only [Act.put, List.setIfInBounds_toArray, List.set_cons_zero, List.set_cons_succ]
          as_aux_lemma =>
            refine takeAt 28 66 (.bool true) rfl rfl (by kernel_rfl) (by kernel_rfl) (by kernel_rfl) (fun _ _ _ h => h) (leqG_y E4.out rfl rfl rfl (by rfl)) hT1 ?_
            simp only [Act.put, List.setIfInBounds_toArray, List.set_cons_zero, List.set_cons_succ]
            refine takeAt 29 67 (.bool true) rfl rfl (by kernel_rfl) (by kernel_rfl) (by kernel_rfl) (fun _ _ _ h => h) (yields (by rfl) (fun w => by kernel_rfl)) hT1 ?_
            simp only [Act.put, List.setIfInBounds_toArray, List.set_cons_zero, List.set_cons_succ]
            refine takeAt 30 68 (.bool true) rfl rfl (by kernel_rfl) (by kernel_rfl) (by kernel_rfl) (fun _ _ _ h => h) (yields (by rfl) (fun w => by kernel_rfl)) hT1 ?_
            simp only [Act.put, List.setIfInBounds_toArray, List.set_cons_zero, List.set_cons_succ]
            refine takeAt 31 69 (.pointer (some ⟨g5, 0, none⟩)) rfl rfl (by kernel_rfl) (by kernel_rfl) (by kernel_rfl) (fun _ _ _ h => h) (yields (by rfl) (fun w => by kernel_rfl)) hT1 ?_
            simp only [Act.put, List.setIfInBounds_toArray, List.set_cons_zero, List.set_cons_succ]
            refine takeAt 32 70 (.float .f64 (lessW a1 b1)) rfl rfl (by kernel_rfl) (by kernel_rfl) (by kernel_rfl) (fun _ _ _ h => h) (loadX_y g5 0 (lessW a1 b1) (fun _ h => (h.2.1).cells.1) rfl rfl (by rfl)) hT1 ?_
            simp only [Act.put, List.setIfInBounds_toArray, List.set_cons_zero, List.set_cons_succ]
            refine takeAt 33 71 (.pointer (some ⟨g6, 0, none⟩)) rfl rfl (by kernel_rfl) (by kernel_rfl) (by kernel_rfl) (fun _ _ _ h => h) (yields (by rfl) (fun w => by kernel_rfl)) hT1 ?_
            simp only [Act.put, List.setIfInBounds_toArray, List.set_cons_zero, List.set_cons_succ]
            refine takeAt 34 72 (.float .f64 (lessW b1 a1)) rfl rfl (by kernel_rfl) (by kernel_rfl) (by kernel_rfl) (fun _ _ _ h => h) (loadX_y g6 0 (lessW b1 a1) (fun _ h => (h.2.2).cells.1) rfl rfl (by rfl)) hT1 ?_
            simp only [Act.put, List.setIfInBounds_toArray, List.set_cons_zero, List.set_cons_succ]
            refine takeAt 35 73 (.bool true) rfl rfl (by kernel_rfl) (by kernel_rfl) (by kernel_rfl) (fun _ _ _ h => h) (eqG_y E5.out rfl rfl rfl (by rfl)) hT1 ?_
            simp only [Act.put, List.setIfInBounds_toArray, List.set_cons_zero, List.set_cons_succ]
            refine takeAt 36 74 (.bool true) rfl rfl (by kernel_rfl) (by kernel_rfl) (by kernel_rfl) (fun _ _ _ h => h) (yields (by rfl) (fun w => by kernel_rfl)) hT1 ?_
            simp only [Act.put, List.setIfInBounds_toArray, List.set_cons_zero, List.set_cons_succ]
            refine takeAt 37 75 (.bool true) rfl rfl (by kernel_rfl) (by kernel_rfl) (by kernel_rfl) (fun _ _ _ h => h) (yields (by rfl) (fun w => by kernel_rfl)) hT1 ?_
            simp only [Act.put, List.setIfInBounds_toArray, List.set_cons_zero, List.set_cons_succ]
            refine takeAt 38 76 (.pointer (some ⟨g5, 1, none⟩)) rfl rfl (by kernel_rfl) (by kernel_rfl) (by kernel_rfl) (fun _ _ _ h => h) (yields (by rfl) (fun w => by kernel_rfl)) hT1 ?_
            simp only [Act.put, List.setIfInBounds_toArray, List.set_cons_zero, List.set_cons_succ]
            refine takeAt 39 77 (.float .f64 (lessW a2 b2)) rfl rfl (by kernel_rfl) (by kernel_rfl) (by kernel_rfl) (fun _ _ _ h => h) (loadX_y g5 1 (lessW a2 b2) (fun _ h => (h.2.1).cells.2) rfl rfl (by rfl)) hT1 ?_
            simp only [Act.put, List.setIfInBounds_toArray, List.set_cons_zero, List.set_cons_succ]
            refine takeAt 40 78 (.pointer (some ⟨g6, 1, none⟩)) rfl rfl (by kernel_rfl) (by kernel_rfl) (by kernel_rfl) (fun _ _ _ h => h) (yields (by rfl) (fun w => by kernel_rfl)) hT1 ?_
            simp only [Act.put, List.setIfInBounds_toArray, List.set_cons_zero, List.set_cons_succ]
            refine takeAt 41 79 (.float .f64 (lessW b2 a2)) rfl rfl (by kernel_rfl) (by kernel_rfl) (by kernel_rfl) (fun _ _ _ h => h) (loadX_y g6 1 (lessW b2 a2) (fun _ h => (h.2.2).cells.2) rfl rfl (by rfl)) hT1 ?_
            simp only [Act.put, List.setIfInBounds_toArray, List.set_cons_zero, List.set_cons_succ]
            as_aux_lemma =>
              refine takeAt 42 80 (.bool true) rfl rfl (by kernel_rfl) (by kernel_rfl) (by kernel_rfl) (fun _ _ _ h => h) (eqG_y E6.out rfl rfl rfl (by rfl)) hT1 ?_
              simp only [Act.put, List.setIfInBounds_toArray, List.set_cons_zero, List.set_cons_succ]
              refine takeAt 43 81 (.bool true) rfl rfl (by kernel_rfl) (by kernel_rfl) (by kernel_rfl) (fun _ _ _ h => h) (yields (by rfl) (fun w => by kernel_rfl)) hT1 ?_
              simp only [Act.put, List.setIfInBounds_toArray, List.set_cons_zero, List.set_cons_succ]
              refine takeAt 44 82 (.bool true) rfl rfl (by kernel_rfl) (by kernel_rfl) (by kernel_rfl) (fun _ _ _ h => h) (yields (by rfl) (fun w => by kernel_rfl)) hT1 ?_
              simp only [Act.put, List.setIfInBounds_toArray, List.set_cons_zero, List.set_cons_succ]
              refine takeAt 45 83 (bud (lessW a1 b1) (lessW a2 b2)) rfl rfl (by kernel_rfl) (by kernel_rfl) (by kernel_rfl) (fun _ _ _ h => h) (loadL_y g5 (lessW a1 b1) (lessW a2 b2) (fun _ h => h.2.1) rfl rfl (by rfl)) hT1 ?_
              simp only [Act.put, List.setIfInBounds_toArray, List.set_cons_zero, List.set_cons_succ]
              refine takeAt 46 84 (bud a1 a2) rfl rfl (by kernel_rfl) (by kernel_rfl) (by kernel_rfl) (fun _ _ _ h => h) (loadL_y w.heap.size a1 a2 (fun _ h => h.1.2.1) rfl rfl (by rfl)) hT1 ?_
              simp only [Act.put, List.setIfInBounds_toArray, List.set_cons_zero, List.set_cons_succ]
              refine takeAt 48 86 (bud (lessW a1 b1) (lessW a2 b2)) rfl rfl (by kernel_rfl) (by kernel_rfl) (by kernel_rfl) (fun _ _ _ h => h) (loadL_y g5 (lessW a1 b1) (lessW a2 b2) (fun _ h => h.2.1) rfl rfl (by rfl)) hT1 ?_
              simp only [Act.put, List.setIfInBounds_toArray, List.set_cons_zero, List.set_cons_succ]
              refine callAt 47 85 rfl rfl (by kernel_rfl) (by rfl) (by kernel_rfl) (L.least_k _ _ _ _ (lessW a1 b1) (lessW a2 b2) _ LX.out.1 LX.out.2) ?_
              rintro e w' ⟨rfl, hb'⟩
              refine ⟨_, rfl, hT1.call hb', ?_⟩
              have hT2 := hT1.call hb'
              clear hT1 hb'
              simp only [Act.put, List.setIfInBounds_toArray, List.set_cons_zero, List.set_cons_succ]
              refine takeAt 49 87 (.bool true) rfl rfl (by kernel_rfl) (by kernel_rfl) (by kernel_rfl) (fun _ _ _ h => h) (eqBud_y E7.out E8.out rfl rfl rfl (by rfl)) hT2 ?_
              simp only [Act.put, List.setIfInBounds_toArray, List.set_cons_zero, List.set_cons_succ]
              refine takeAt 50 88 (.bool true) rfl rfl (by kernel_rfl) (by kernel_rfl) (by kernel_rfl) (fun _ _ _ h => h) (yields (by rfl) (fun w => by kernel_rfl)) hT2 ?_
              simp only [Act.put, List.setIfInBounds_toArray, List.set_cons_zero, List.set_cons_succ]
              refine takeAt 51 89 (.bool true) rfl rfl (by kernel_rfl) (by kernel_rfl) (by kernel_rfl) (fun _ _ _ h => h) (yields (by rfl) (fun w => by kernel_rfl)) hT2 ?_
              simp only [Act.put, List.setIfInBounds_toArray, List.set_cons_zero, List.set_cons_succ]
              refine callAt 52 90 rfl rfl (by kernel_rfl) (by rfl) (by kernel_rfl) (fixed_any L _) ?_
              rintro e w' ⟨rfl, hb'⟩
              refine ⟨_, rfl, hT2.call hb', ?_⟩
              have hT3 := hT2.call hb'
              clear hT2 hb'
              simp only [Act.put, List.setIfInBounds_toArray, List.set_cons_zero, List.set_cons_succ]
              refine takeAt 53 91 (.bool true) rfl rfl (by kernel_rfl) (by kernel_rfl) (by kernel_rfl) (fun _ _ _ h => h) (yields (by rfl) (fun w => by kernel_rfl)) hT3 ?_
              simp only [Act.put, List.setIfInBounds_toArray, List.set_cons_zero, List.set_cons_succ]
              refine takeAt 54 4 (.bool true) rfl rfl (by kernel_rfl) (by kernel_rfl) (by kernel_rfl) (fun _ _ _ h => h) (yields (by rfl) (fun w => by kernel_rfl)) hT3 ?_
              simp only [Act.put, List.setIfInBounds_toArray, List.set_cons_zero, List.set_cons_succ]
              refine wpAnyH_done (by kernel_rfl) ?_ _
              go_wp2
              go_ret
              exact ⟨rfl, hT3.1.1⟩
  clear hK
  have hS : KG w a1 a2 b1 b2 _ := K0.drew
  refine wp_region_held_drew (S := KG w a1 a2 b1 b2) (by kernel_rfl) hS (fun _ => ?_)
  clear K0
  refine takeAt 0 7 (bud a1 a2) rfl rfl (by kernel_rfl) (by kernel_rfl) (by kernel_rfl) (fun _ _ _ h => h) (loadL_y w.heap.size a1 a2 (fun _ h => h.2.1) rfl rfl (by rfl)) hS ?_
  simp only [Act.put, List.setIfInBounds_toArray, List.set_cons_zero, List.set_cons_succ]
  refine takeAt 1 8 (bud b1 b2) rfl rfl (by kernel_rfl) (by kernel_rfl) (by kernel_rfl) (fun _ _ _ h => h) (loadL_y (w.heap.size + 1) b1 b2 (fun _ h => h.2.2) rfl rfl (by rfl)) hS ?_
  simp only [Act.put, List.setIfInBounds_toArray, List.set_cons_zero, List.set_cons_succ]
  refine takeAt 3 10 (bud b1 b2) rfl rfl (by kernel_rfl) (by kernel_rfl) (by kernel_rfl) (fun _ _ _ h => h) (loadL_y (w.heap.size + 1) b1 b2 (fun _ h => h.2.2) rfl rfl (by rfl)) hS ?_
  simp only [Act.put, List.setIfInBounds_toArray, List.set_cons_zero, List.set_cons_succ]
  refine takeAt 4 11 (bud a1 a2) rfl rfl (by kernel_rfl) (by kernel_rfl) (by kernel_rfl) (fun _ _ _ h => h) (loadL_y w.heap.size a1 a2 (fun _ h => h.2.1) rfl rfl (by rfl)) hS ?_
  simp only [Act.put, List.setIfInBounds_toArray, List.set_cons_zero, List.set_cons_succ]
  generalize ((w.alloc (.cells #[.float .f64 a1, .float .f64 a2] 24)).alloc (.cells #[.float .f64 b1, .float .f64 b2] 24)).drew = u0 at hS ⊢
  refine wpAnyH_ready (rs := [2, 6, 7]) (by kernel_rfl) (by simp) (AllReadyH.cons rfl (callStep 2 9 rfl (by rfl) (by kernel_rfl) (L.least a1 a2 b1 b2 _) ?_) (AllReadyH.cons rfl (valStep 6 5 (.pointer (some ⟨u0.heap.size, 0, none⟩)) (World.alloc u0 (.cells #[.float .f64 0, .float .f64 0] 24)) rfl (by rfl) (by kernel_rfl) (hS.alloc _) ?_) (AllReadyH.cons rfl (valStep 7 6 (.pointer (some ⟨u0.heap.size, 0, none⟩)) (World.alloc u0 (.cells #[.float .f64 0, .float .f64 0] 24)) rfl (by rfl) (by kernel_rfl) (hS.alloc _) ?_) (AllReadyH.nil))))
  · rintro e u1 ⟨rfl, hb1⟩
    have h1 := hS.call hb1
    refine ⟨_, rfl, h1, ?_⟩
    clear hb1
    simp only [Act.put, List.setIfInBounds_toArray, List.set_cons_zero, List.set_cons_succ]
    refine wpAnyH_ready (rs := [5, 6, 7]) (by kernel_rfl) (by simp) (AllReadyH.cons rfl (callStep 5 12 rfl (by rfl) (by kernel_rfl) (L.least b1 b2 a1 a2 _) ?_) (AllReadyH.cons rfl (valStep 6 5 (.pointer (some ⟨u1.heap.size, 0, none⟩)) (World.alloc u1 (.cells #[.float .f64 0, .float .f64 0] 24)) rfl (by rfl) (by kernel_rfl) (h1.alloc _) ?_) (AllReadyH.cons rfl (valStep 7 6 (.pointer (some ⟨u1.heap.size, 0, none⟩)) (World.alloc u1 (.cells #[.float .f64 0, .float .f64 0] 24)) rfl (by rfl) (by kernel_rfl) (h1.alloc _) ?_) (AllReadyH.nil))))
    · rintro e u2 ⟨rfl, hb2⟩
      have h2 := h1.call hb2
      refine ⟨_, rfl, h2, ?_⟩
      clear hb2
      simp only [Act.put, List.setIfInBounds_toArray, List.set_cons_zero, List.set_cons_succ]
      refine wpAnyH_ready (rs := [6, 7]) (by kernel_rfl) (by simp) (AllReadyH.cons rfl (valStep 6 5 (.pointer (some ⟨u2.heap.size, 0, none⟩)) (World.alloc u2 (.cells #[.float .f64 0, .float .f64 0] 24)) rfl (by rfl) (by kernel_rfl) (h2.alloc _) ?_) (AllReadyH.cons rfl (valStep 7 6 (.pointer (some ⟨u2.heap.size, 0, none⟩)) (World.alloc u2 (.cells #[.float .f64 0, .float .f64 0] 24)) rfl (by rfl) (by kernel_rfl) (h2.alloc _) ?_) (AllReadyH.nil)))
      · have h3 := h2.alloc (.cells #[.float .f64 0, .float .f64 0] 24)
        have G5 : w.heap.size + 2 ≤ u2.heap.size := by have := h2.2.2.lt; omega
        have q3 := RowL.new u2 (u2.heap.size) 0 0 rfl
        simp only [Act.put, List.setIfInBounds_toArray, List.set_cons_zero, List.set_cons_succ]
        refine wpAnyH_ready (rs := [7]) (by kernel_rfl) (by simp) (AllReadyH.cons rfl (valStep 7 6 (.pointer (some ⟨(World.alloc u2 (.cells #[.float .f64 0, .float .f64 0] 24)).heap.size, 0, none⟩)) (World.alloc (World.alloc u2 (.cells #[.float .f64 0, .float .f64 0] 24)) (.cells #[.float .f64 0, .float .f64 0] 24)) rfl (by rfl) (by kernel_rfl) (h3.alloc _) ?_) (AllReadyH.nil))
        · have h4 := h3.alloc (.cells #[.float .f64 0, .float .f64 0] 24)
          have G6 : w.heap.size + 2 ≤ (World.alloc u2 (.cells #[.float .f64 0, .float .f64 0] 24)).heap.size := by have := h3.2.2.lt; omega
          have s4 := RowL.new (World.alloc u2 (.cells #[.float .f64 0, .float .f64 0] 24)) ((World.alloc u2 (.cells #[.float .f64 0, .float .f64 0] 24)).heap.size) 0 0 rfl
          have N56 : (u2.heap.size) ≠ ((World.alloc u2 (.cells #[.float .f64 0, .float .f64 0] 24)).heap.size) := by have := q3.lt; omega
          have q4 := q3.alloc (.cells #[.float .f64 0, .float .f64 0] 24)
          simp only [Act.put, List.setIfInBounds_toArray, List.set_cons_zero, List.set_cons_succ]
          have ne5 := q4.lt
          have ne6 := s4.lt
          have l1 := h4.2.2.lt
          have n56 : (u2.heap.size) ≠ ((World.alloc u2 (.cells #[.float .f64 0, .float .f64 0] 24)).heap.size) := N56
          have hz5 := q4
          have hz6 := RowL.other s4 #[.float .f64 (lessW a1 b1), .float .f64 (lessW a2 b2)] (Ne.symm n56)
          have hs8 := h4.row (k := u2.heap.size) #[.float .f64 (lessW a1 b1), .float .f64 (lessW a2 b2)] G5
          have hs9 := hs8.row (k := (World.alloc u2 (.cells #[.float .f64 0, .float .f64 0] 24)).heap.size) #[.float .f64 (lessW b1 a1), .float .f64 (lessW b2 a2)] G6
          refine rowAt 8 24 (u2.heap.size) #[.float .f64 0, .float .f64 0] #[.float .f64 (lessW a1 b1), .float .f64 (lessW a2 b2)] rfl rfl rfl (by kernel_rfl) (by rfl) rfl rfl hz5 info24 rfl (by simp [Value.oneCell']) hs8 ?_
          refine rowAt 9 24 ((World.alloc u2 (.cells #[.float .f64 0, .float .f64 0] 24)).heap.size) #[.float .f64 0, .float .f64 0] #[.float .f64 (lessW b1 a1), .float .f64 (lessW b2 a2)] rfl rfl rfl (by kernel_rfl) (by rfl) rfl rfl hz6 info24 rfl (by simp [Value.oneCell']) hs9 ?_
          refine wpAnyH_done (by kernel_rfl) ?_ _
          exact rest _ (u2.heap.size) ((World.alloc u2 (.cells #[.float .f64 0, .float .f64 0] 24)).heap.size) ⟨hs9, RowL.other (setRow_heap _ (u2.heap.size) _ #[.float .f64 (lessW a1 b1), .float .f64 (lessW a2 b2)] _ _ hz5) #[.float .f64 (lessW b1 a1), .float .f64 (lessW b2 a2)] n56, setRow_heap _ ((World.alloc u2 (.cells #[.float .f64 0, .float .f64 0] 24)).heap.size) _ #[.float .f64 (lessW b1 a1), .float .f64 (lessW b2 a2)] _ _ hz6⟩
      · have h5 := h2.alloc (.cells #[.float .f64 0, .float .f64 0] 24)
        have G6 : w.heap.size + 2 ≤ u2.heap.size := by have := h2.2.2.lt; omega
        have s5 := RowL.new u2 (u2.heap.size) 0 0 rfl
        simp only [Act.put, List.setIfInBounds_toArray, List.set_cons_zero, List.set_cons_succ]
        refine wpAnyH_ready (rs := [6]) (by kernel_rfl) (by simp) (AllReadyH.cons rfl (valStep 6 5 (.pointer (some ⟨(World.alloc u2 (.cells #[.float .f64 0, .float .f64 0] 24)).heap.size, 0, none⟩)) (World.alloc (World.alloc u2 (.cells #[.float .f64 0, .float .f64 0] 24)) (.cells #[.float .f64 0, .float .f64 0] 24)) rfl (by rfl) (by kernel_rfl) (h5.alloc _) ?_) (AllReadyH.nil))
        · have h6 := h5.alloc (.cells #[.float .f64 0, .float .f64 0] 24)
          have G5 : w.heap.size + 2 ≤ (World.alloc u2 (.cells #[.float .f64 0, .float .f64 0] 24)).heap.size := by have := h5.2.2.lt; omega
          have q6 := RowL.new (World.alloc u2 (.cells #[.float .f64 0, .float .f64 0] 24)) ((World.alloc u2 (.cells #[.float .f64 0, .float .f64 0] 24)).heap.size) 0 0 rfl
          have N56 : ((World.alloc u2 (.cells #[.float .f64 0, .float .f64 0] 24)).heap.size) ≠ (u2.heap.size) := by have := s5.lt; omega
          have s6 := s5.alloc (.cells #[.float .f64 0, .float .f64 0] 24)
          simp only [Act.put, List.setIfInBounds_toArray, List.set_cons_zero, List.set_cons_succ]
          have ne5 := q6.lt
          have ne6 := s6.lt
          have l1 := h6.2.2.lt
          have n56 : ((World.alloc u2 (.cells #[.float .f64 0, .float .f64 0] 24)).heap.size) ≠ (u2.heap.size) := N56
          have hz5 := q6
          have hz6 := RowL.other s6 #[.float .f64 (lessW a1 b1), .float .f64 (lessW a2 b2)] (Ne.symm n56)
          have hs8 := h6.row (k := (World.alloc u2 (.cells #[.float .f64 0, .float .f64 0] 24)).heap.size) #[.float .f64 (lessW a1 b1), .float .f64 (lessW a2 b2)] G5
          have hs9 := hs8.row (k := u2.heap.size) #[.float .f64 (lessW b1 a1), .float .f64 (lessW b2 a2)] G6
          refine rowAt 8 24 ((World.alloc u2 (.cells #[.float .f64 0, .float .f64 0] 24)).heap.size) #[.float .f64 0, .float .f64 0] #[.float .f64 (lessW a1 b1), .float .f64 (lessW a2 b2)] rfl rfl rfl (by kernel_rfl) (by rfl) rfl rfl hz5 info24 rfl (by simp [Value.oneCell']) hs8 ?_
          refine rowAt 9 24 (u2.heap.size) #[.float .f64 0, .float .f64 0] #[.float .f64 (lessW b1 a1), .float .f64 (lessW b2 a2)] rfl rfl rfl (by kernel_rfl) (by rfl) rfl rfl hz6 info24 rfl (by simp [Value.oneCell']) hs9 ?_
          refine wpAnyH_done (by kernel_rfl) ?_ _
          exact rest _ ((World.alloc u2 (.cells #[.float .f64 0, .float .f64 0] 24)).heap.size) (u2.heap.size) ⟨hs9, RowL.other (setRow_heap _ ((World.alloc u2 (.cells #[.float .f64 0, .float .f64 0] 24)).heap.size) _ #[.float .f64 (lessW a1 b1), .float .f64 (lessW a2 b2)] _ _ hz5) #[.float .f64 (lessW b1 a1), .float .f64 (lessW b2 a2)] n56, setRow_heap _ (u2.heap.size) _ #[.float .f64 (lessW b1 a1), .float .f64 (lessW b2 a2)] _ _ hz6⟩
    · have h7 := h1.alloc (.cells #[.float .f64 0, .float .f64 0] 24)
      have G5 : w.heap.size + 2 ≤ u1.heap.size := by have := h1.2.2.lt; omega
      have q7 := RowL.new u1 (u1.heap.size) 0 0 rfl
      simp only [Act.put, List.setIfInBounds_toArray, List.set_cons_zero, List.set_cons_succ]
      refine wpAnyH_ready (rs := [5, 7]) (by kernel_rfl) (by simp) (AllReadyH.cons rfl (callStep 5 12 rfl (by rfl) (by kernel_rfl) (L.least b1 b2 a1 a2 _) ?_) (AllReadyH.cons rfl (valStep 7 6 (.pointer (some ⟨(World.alloc u1 (.cells #[.float .f64 0, .float .f64 0] 24)).heap.size, 0, none⟩)) (World.alloc (World.alloc u1 (.cells #[.float .f64 0, .float .f64 0] 24)) (.cells #[.float .f64 0, .float .f64 0] 24)) rfl (by rfl) (by kernel_rfl) (h7.alloc _) ?_) (AllReadyH.nil)))
      · rintro e u8 ⟨rfl, hb8⟩
        have h8 := h7.call hb8
        refine ⟨_, rfl, h8, ?_⟩
        have q8 := q7.call hb8
        clear hb8
        simp only [Act.put, List.setIfInBounds_toArray, List.set_cons_zero, List.set_cons_succ]
        refine wpAnyH_ready (rs := [7]) (by kernel_rfl) (by simp) (AllReadyH.cons rfl (valStep 7 6 (.pointer (some ⟨u8.heap.size, 0, none⟩)) (World.alloc u8 (.cells #[.float .f64 0, .float .f64 0] 24)) rfl (by rfl) (by kernel_rfl) (h8.alloc _) ?_) (AllReadyH.nil))
        · have h9 := h8.alloc (.cells #[.float .f64 0, .float .f64 0] 24)
          have G6 : w.heap.size + 2 ≤ u8.heap.size := by have := h8.2.2.lt; omega
          have s9 := RowL.new u8 (u8.heap.size) 0 0 rfl
          have N56 : (u1.heap.size) ≠ (u8.heap.size) := by have := q8.lt; omega
          have q9 := q8.alloc (.cells #[.float .f64 0, .float .f64 0] 24)
          simp only [Act.put, List.setIfInBounds_toArray, List.set_cons_zero, List.set_cons_succ]
          have ne5 := q9.lt
          have ne6 := s9.lt
          have l1 := h9.2.2.lt
          have n56 : (u1.heap.size) ≠ (u8.heap.size) := N56
          have hz5 := q9
          have hz6 := RowL.other s9 #[.float .f64 (lessW a1 b1), .float .f64 (lessW a2 b2)] (Ne.symm n56)
          have hs8 := h9.row (k := u1.heap.size) #[.float .f64 (lessW a1 b1), .float .f64 (lessW a2 b2)] G5
          have hs9 := hs8.row (k := u8.heap.size) #[.float .f64 (lessW b1 a1), .float .f64 (lessW b2 a2)] G6
          refine rowAt 8 24 (u1.heap.size) #[.float .f64 0, .float .f64 0] #[.float .f64 (lessW a1 b1), .float .f64 (lessW a2 b2)] rfl rfl rfl (by kernel_rfl) (by rfl) rfl rfl hz5 info24 rfl (by simp [Value.oneCell']) hs8 ?_
          refine rowAt 9 24 (u8.heap.size) #[.float .f64 0, .float .f64 0] #[.float .f64 (lessW b1 a1), .float .f64 (lessW b2 a2)] rfl rfl rfl (by kernel_rfl) (by rfl) rfl rfl hz6 info24 rfl (by simp [Value.oneCell']) hs9 ?_
          refine wpAnyH_done (by kernel_rfl) ?_ _
          exact rest _ (u1.heap.size) (u8.heap.size) ⟨hs9, RowL.other (setRow_heap _ (u1.heap.size) _ #[.float .f64 (lessW a1 b1), .float .f64 (lessW a2 b2)] _ _ hz5) #[.float .f64 (lessW b1 a1), .float .f64 (lessW b2 a2)] n56, setRow_heap _ (u8.heap.size) _ #[.float .f64 (lessW b1 a1), .float .f64 (lessW b2 a2)] _ _ hz6⟩
      · have h10 := h7.alloc (.cells #[.float .f64 0, .float .f64 0] 24)
        have G6 : w.heap.size + 2 ≤ (World.alloc u1 (.cells #[.float .f64 0, .float .f64 0] 24)).heap.size := by have := h7.2.2.lt; omega
        have s10 := RowL.new (World.alloc u1 (.cells #[.float .f64 0, .float .f64 0] 24)) ((World.alloc u1 (.cells #[.float .f64 0, .float .f64 0] 24)).heap.size) 0 0 rfl
        have N56 : (u1.heap.size) ≠ ((World.alloc u1 (.cells #[.float .f64 0, .float .f64 0] 24)).heap.size) := by have := q7.lt; omega
        have q10 := q7.alloc (.cells #[.float .f64 0, .float .f64 0] 24)
        simp only [Act.put, List.setIfInBounds_toArray, List.set_cons_zero, List.set_cons_succ]
        refine wpAnyH_ready (rs := [5]) (by kernel_rfl) (by simp) (AllReadyH.cons rfl (callStep 5 12 rfl (by rfl) (by kernel_rfl) (L.least b1 b2 a1 a2 _) ?_) (AllReadyH.nil))
        · rintro e u11 ⟨rfl, hb11⟩
          have h11 := h10.call hb11
          refine ⟨_, rfl, h11, ?_⟩
          have q11 := q10.call hb11
          have s11 := s10.call hb11
          clear hb11
          simp only [Act.put, List.setIfInBounds_toArray, List.set_cons_zero, List.set_cons_succ]
          have ne5 := q11.lt
          have ne6 := s11.lt
          have l1 := h11.2.2.lt
          have n56 : (u1.heap.size) ≠ ((World.alloc u1 (.cells #[.float .f64 0, .float .f64 0] 24)).heap.size) := N56
          have hz5 := q11
          have hz6 := RowL.other s11 #[.float .f64 (lessW a1 b1), .float .f64 (lessW a2 b2)] (Ne.symm n56)
          have hs8 := h11.row (k := u1.heap.size) #[.float .f64 (lessW a1 b1), .float .f64 (lessW a2 b2)] G5
          have hs9 := hs8.row (k := (World.alloc u1 (.cells #[.float .f64 0, .float .f64 0] 24)).heap.size) #[.float .f64 (lessW b1 a1), .float .f64 (lessW b2 a2)] G6
          refine rowAt 8 24 (u1.heap.size) #[.float .f64 0, .float .f64 0] #[.float .f64 (lessW a1 b1), .float .f64 (lessW a2 b2)] rfl rfl rfl (by kernel_rfl) (by rfl) rfl rfl hz5 info24 rfl (by simp [Value.oneCell']) hs8 ?_
          refine rowAt 9 24 ((World.alloc u1 (.cells #[.float .f64 0, .float .f64 0] 24)).heap.size) #[.float .f64 0, .float .f64 0] #[.float .f64 (lessW b1 a1), .float .f64 (lessW b2 a2)] rfl rfl rfl (by kernel_rfl) (by rfl) rfl rfl hz6 info24 rfl (by simp [Value.oneCell']) hs9 ?_
          refine wpAnyH_done (by kernel_rfl) ?_ _
          exact rest _ (u1.heap.size) ((World.alloc u1 (.cells #[.float .f64 0, .float .f64 0] 24)).heap.size) ⟨hs9, RowL.other (setRow_heap _ (u1.heap.size) _ #[.float .f64 (lessW a1 b1), .float .f64 (lessW a2 b2)] _ _ hz5) #[.float .f64 (lessW b1 a1), .float .f64 (lessW b2 a2)] n56, setRow_heap _ ((World.alloc u1 (.cells #[.float .f64 0, .float .f64 0] 24)).heap.size) _ #[.float .f64 (lessW b1 a1), .float .f64 (lessW b2 a2)] _ _ hz6⟩
    · have h12 := h1.alloc (.cells #[.float .f64 0, .float .f64 0] 24)
      have G6 : w.heap.size + 2 ≤ u1.heap.size := by have := h1.2.2.lt; omega
      have s12 := RowL.new u1 (u1.heap.size) 0 0 rfl
      simp only [Act.put, List.setIfInBounds_toArray, List.set_cons_zero, List.set_cons_succ]
      refine wpAnyH_ready (rs := [5, 6]) (by kernel_rfl) (by simp) (AllReadyH.cons rfl (callStep 5 12 rfl (by rfl) (by kernel_rfl) (L.least b1 b2 a1 a2 _) ?_) (AllReadyH.cons rfl (valStep 6 5 (.pointer (some ⟨(World.alloc u1 (.cells #[.float .f64 0, .float .f64 0] 24)).heap.size, 0, none⟩)) (World.alloc (World.alloc u1 (.cells #[.float .f64 0, .float .f64 0] 24)) (.cells #[.float .f64 0, .float .f64 0] 24)) rfl (by rfl) (by kernel_rfl) (h12.alloc _) ?_) (AllReadyH.nil)))
      · rintro e u13 ⟨rfl, hb13⟩
        have h13 := h12.call hb13
        refine ⟨_, rfl, h13, ?_⟩
        have s13 := s12.call hb13
        clear hb13
        simp only [Act.put, List.setIfInBounds_toArray, List.set_cons_zero, List.set_cons_succ]
        refine wpAnyH_ready (rs := [6]) (by kernel_rfl) (by simp) (AllReadyH.cons rfl (valStep 6 5 (.pointer (some ⟨u13.heap.size, 0, none⟩)) (World.alloc u13 (.cells #[.float .f64 0, .float .f64 0] 24)) rfl (by rfl) (by kernel_rfl) (h13.alloc _) ?_) (AllReadyH.nil))
        · have h14 := h13.alloc (.cells #[.float .f64 0, .float .f64 0] 24)
          have G5 : w.heap.size + 2 ≤ u13.heap.size := by have := h13.2.2.lt; omega
          have q14 := RowL.new u13 (u13.heap.size) 0 0 rfl
          have N56 : (u13.heap.size) ≠ (u1.heap.size) := by have := s13.lt; omega
          have s14 := s13.alloc (.cells #[.float .f64 0, .float .f64 0] 24)
          simp only [Act.put, List.setIfInBounds_toArray, List.set_cons_zero, List.set_cons_succ]
          have ne5 := q14.lt
          have ne6 := s14.lt
          have l1 := h14.2.2.lt
          have n56 : (u13.heap.size) ≠ (u1.heap.size) := N56
          have hz5 := q14
          have hz6 := RowL.other s14 #[.float .f64 (lessW a1 b1), .float .f64 (lessW a2 b2)] (Ne.symm n56)
          have hs8 := h14.row (k := u13.heap.size) #[.float .f64 (lessW a1 b1), .float .f64 (lessW a2 b2)] G5
          have hs9 := hs8.row (k := u1.heap.size) #[.float .f64 (lessW b1 a1), .float .f64 (lessW b2 a2)] G6
          refine rowAt 8 24 (u13.heap.size) #[.float .f64 0, .float .f64 0] #[.float .f64 (lessW a1 b1), .float .f64 (lessW a2 b2)] rfl rfl rfl (by kernel_rfl) (by rfl) rfl rfl hz5 info24 rfl (by simp [Value.oneCell']) hs8 ?_
          refine rowAt 9 24 (u1.heap.size) #[.float .f64 0, .float .f64 0] #[.float .f64 (lessW b1 a1), .float .f64 (lessW b2 a2)] rfl rfl rfl (by kernel_rfl) (by rfl) rfl rfl hz6 info24 rfl (by simp [Value.oneCell']) hs9 ?_
          refine wpAnyH_done (by kernel_rfl) ?_ _
          exact rest _ (u13.heap.size) (u1.heap.size) ⟨hs9, RowL.other (setRow_heap _ (u13.heap.size) _ #[.float .f64 (lessW a1 b1), .float .f64 (lessW a2 b2)] _ _ hz5) #[.float .f64 (lessW b1 a1), .float .f64 (lessW b2 a2)] n56, setRow_heap _ (u1.heap.size) _ #[.float .f64 (lessW b1 a1), .float .f64 (lessW b2 a2)] _ _ hz6⟩
      · have h15 := h12.alloc (.cells #[.float .f64 0, .float .f64 0] 24)
        have G5 : w.heap.size + 2 ≤ (World.alloc u1 (.cells #[.float .f64 0, .float .f64 0] 24)).heap.size := by have := h12.2.2.lt; omega
        have q15 := RowL.new (World.alloc u1 (.cells #[.float .f64 0, .float .f64 0] 24)) ((World.alloc u1 (.cells #[.float .f64 0, .float .f64 0] 24)).heap.size) 0 0 rfl
        have N56 : ((World.alloc u1 (.cells #[.float .f64 0, .float .f64 0] 24)).heap.size) ≠ (u1.heap.size) := by have := s12.lt; omega
        have s15 := s12.alloc (.cells #[.float .f64 0, .float .f64 0] 24)
        simp only [Act.put, List.setIfInBounds_toArray, List.set_cons_zero, List.set_cons_succ]
        refine wpAnyH_ready (rs := [5]) (by kernel_rfl) (by simp) (AllReadyH.cons rfl (callStep 5 12 rfl (by rfl) (by kernel_rfl) (L.least b1 b2 a1 a2 _) ?_) (AllReadyH.nil))
        · rintro e u16 ⟨rfl, hb16⟩
          have h16 := h15.call hb16
          refine ⟨_, rfl, h16, ?_⟩
          have q16 := q15.call hb16
          have s16 := s15.call hb16
          clear hb16
          simp only [Act.put, List.setIfInBounds_toArray, List.set_cons_zero, List.set_cons_succ]
          have ne5 := q16.lt
          have ne6 := s16.lt
          have l1 := h16.2.2.lt
          have n56 : ((World.alloc u1 (.cells #[.float .f64 0, .float .f64 0] 24)).heap.size) ≠ (u1.heap.size) := N56
          have hz5 := q16
          have hz6 := RowL.other s16 #[.float .f64 (lessW a1 b1), .float .f64 (lessW a2 b2)] (Ne.symm n56)
          have hs8 := h16.row (k := (World.alloc u1 (.cells #[.float .f64 0, .float .f64 0] 24)).heap.size) #[.float .f64 (lessW a1 b1), .float .f64 (lessW a2 b2)] G5
          have hs9 := hs8.row (k := u1.heap.size) #[.float .f64 (lessW b1 a1), .float .f64 (lessW b2 a2)] G6
          refine rowAt 8 24 ((World.alloc u1 (.cells #[.float .f64 0, .float .f64 0] 24)).heap.size) #[.float .f64 0, .float .f64 0] #[.float .f64 (lessW a1 b1), .float .f64 (lessW a2 b2)] rfl rfl rfl (by kernel_rfl) (by rfl) rfl rfl hz5 info24 rfl (by simp [Value.oneCell']) hs8 ?_
          refine rowAt 9 24 (u1.heap.size) #[.float .f64 0, .float .f64 0] #[.float .f64 (lessW b1 a1), .float .f64 (lessW b2 a2)] rfl rfl rfl (by kernel_rfl) (by rfl) rfl rfl hz6 info24 rfl (by simp [Value.oneCell']) hs9 ?_
          refine wpAnyH_done (by kernel_rfl) ?_ _
          exact rest _ ((World.alloc u1 (.cells #[.float .f64 0, .float .f64 0] 24)).heap.size) (u1.heap.size) ⟨hs9, RowL.other (setRow_heap _ ((World.alloc u1 (.cells #[.float .f64 0, .float .f64 0] 24)).heap.size) _ #[.float .f64 (lessW a1 b1), .float .f64 (lessW a2 b2)] _ _ hz5) #[.float .f64 (lessW b1 a1), .float .f64 (lessW b2 a2)] n56, setRow_heap _ (u1.heap.size) _ #[.float .f64 (lessW b1 a1), .float .f64 (lessW b2 a2)] _ _ hz6⟩
  · have h17 := hS.alloc (.cells #[.float .f64 0, .float .f64 0] 24)
    have G5 : w.heap.size + 2 ≤ u0.heap.size := by have := hS.2.2.lt; omega
    have q17 := RowL.new u0 (u0.heap.size) 0 0 rfl
    simp only [Act.put, List.setIfInBounds_toArray, List.set_cons_zero, List.set_cons_succ]
    refine wpAnyH_ready (rs := [2, 7]) (by kernel_rfl) (by simp) (AllReadyH.cons rfl (callStep 2 9 rfl (by rfl) (by kernel_rfl) (L.least a1 a2 b1 b2 _) ?_) (AllReadyH.cons rfl (valStep 7 6 (.pointer (some ⟨(World.alloc u0 (.cells #[.float .f64 0, .float .f64 0] 24)).heap.size, 0, none⟩)) (World.alloc (World.alloc u0 (.cells #[.float .f64 0, .float .f64 0] 24)) (.cells #[.float .f64 0, .float .f64 0] 24)) rfl (by rfl) (by kernel_rfl) (h17.alloc _) ?_) (AllReadyH.nil)))
    · rintro e u18 ⟨rfl, hb18⟩
      have h18 := h17.call hb18
      refine ⟨_, rfl, h18, ?_⟩
      have q18 := q17.call hb18
      clear hb18
      simp only [Act.put, List.setIfInBounds_toArray, List.set_cons_zero, List.set_cons_succ]
      refine wpAnyH_ready (rs := [5, 7]) (by kernel_rfl) (by simp) (AllReadyH.cons rfl (callStep 5 12 rfl (by rfl) (by kernel_rfl) (L.least b1 b2 a1 a2 _) ?_) (AllReadyH.cons rfl (valStep 7 6 (.pointer (some ⟨u18.heap.size, 0, none⟩)) (World.alloc u18 (.cells #[.float .f64 0, .float .f64 0] 24)) rfl (by rfl) (by kernel_rfl) (h18.alloc _) ?_) (AllReadyH.nil)))
      · rintro e u19 ⟨rfl, hb19⟩
        have h19 := h18.call hb19
        refine ⟨_, rfl, h19, ?_⟩
        have q19 := q18.call hb19
        clear hb19
        simp only [Act.put, List.setIfInBounds_toArray, List.set_cons_zero, List.set_cons_succ]
        refine wpAnyH_ready (rs := [7]) (by kernel_rfl) (by simp) (AllReadyH.cons rfl (valStep 7 6 (.pointer (some ⟨u19.heap.size, 0, none⟩)) (World.alloc u19 (.cells #[.float .f64 0, .float .f64 0] 24)) rfl (by rfl) (by kernel_rfl) (h19.alloc _) ?_) (AllReadyH.nil))
        · have h20 := h19.alloc (.cells #[.float .f64 0, .float .f64 0] 24)
          have G6 : w.heap.size + 2 ≤ u19.heap.size := by have := h19.2.2.lt; omega
          have s20 := RowL.new u19 (u19.heap.size) 0 0 rfl
          have N56 : (u0.heap.size) ≠ (u19.heap.size) := by have := q19.lt; omega
          have q20 := q19.alloc (.cells #[.float .f64 0, .float .f64 0] 24)
          simp only [Act.put, List.setIfInBounds_toArray, List.set_cons_zero, List.set_cons_succ]
          have ne5 := q20.lt
          have ne6 := s20.lt
          have l1 := h20.2.2.lt
          have n56 : (u0.heap.size) ≠ (u19.heap.size) := N56
          have hz5 := q20
          have hz6 := RowL.other s20 #[.float .f64 (lessW a1 b1), .float .f64 (lessW a2 b2)] (Ne.symm n56)
          have hs8 := h20.row (k := u0.heap.size) #[.float .f64 (lessW a1 b1), .float .f64 (lessW a2 b2)] G5
          have hs9 := hs8.row (k := u19.heap.size) #[.float .f64 (lessW b1 a1), .float .f64 (lessW b2 a2)] G6
          refine rowAt 8 24 (u0.heap.size) #[.float .f64 0, .float .f64 0] #[.float .f64 (lessW a1 b1), .float .f64 (lessW a2 b2)] rfl rfl rfl (by kernel_rfl) (by rfl) rfl rfl hz5 info24 rfl (by simp [Value.oneCell']) hs8 ?_
          refine rowAt 9 24 (u19.heap.size) #[.float .f64 0, .float .f64 0] #[.float .f64 (lessW b1 a1), .float .f64 (lessW b2 a2)] rfl rfl rfl (by kernel_rfl) (by rfl) rfl rfl hz6 info24 rfl (by simp [Value.oneCell']) hs9 ?_
          refine wpAnyH_done (by kernel_rfl) ?_ _
          exact rest _ (u0.heap.size) (u19.heap.size) ⟨hs9, RowL.other (setRow_heap _ (u0.heap.size) _ #[.float .f64 (lessW a1 b1), .float .f64 (lessW a2 b2)] _ _ hz5) #[.float .f64 (lessW b1 a1), .float .f64 (lessW b2 a2)] n56, setRow_heap _ (u19.heap.size) _ #[.float .f64 (lessW b1 a1), .float .f64 (lessW b2 a2)] _ _ hz6⟩
      · have h21 := h18.alloc (.cells #[.float .f64 0, .float .f64 0] 24)
        have G6 : w.heap.size + 2 ≤ u18.heap.size := by have := h18.2.2.lt; omega
        have s21 := RowL.new u18 (u18.heap.size) 0 0 rfl
        have N56 : (u0.heap.size) ≠ (u18.heap.size) := by have := q18.lt; omega
        have q21 := q18.alloc (.cells #[.float .f64 0, .float .f64 0] 24)
        simp only [Act.put, List.setIfInBounds_toArray, List.set_cons_zero, List.set_cons_succ]
        refine wpAnyH_ready (rs := [5]) (by kernel_rfl) (by simp) (AllReadyH.cons rfl (callStep 5 12 rfl (by rfl) (by kernel_rfl) (L.least b1 b2 a1 a2 _) ?_) (AllReadyH.nil))
        · rintro e u22 ⟨rfl, hb22⟩
          have h22 := h21.call hb22
          refine ⟨_, rfl, h22, ?_⟩
          have q22 := q21.call hb22
          have s22 := s21.call hb22
          clear hb22
          simp only [Act.put, List.setIfInBounds_toArray, List.set_cons_zero, List.set_cons_succ]
          have ne5 := q22.lt
          have ne6 := s22.lt
          have l1 := h22.2.2.lt
          have n56 : (u0.heap.size) ≠ (u18.heap.size) := N56
          have hz5 := q22
          have hz6 := RowL.other s22 #[.float .f64 (lessW a1 b1), .float .f64 (lessW a2 b2)] (Ne.symm n56)
          have hs8 := h22.row (k := u0.heap.size) #[.float .f64 (lessW a1 b1), .float .f64 (lessW a2 b2)] G5
          have hs9 := hs8.row (k := u18.heap.size) #[.float .f64 (lessW b1 a1), .float .f64 (lessW b2 a2)] G6
          refine rowAt 8 24 (u0.heap.size) #[.float .f64 0, .float .f64 0] #[.float .f64 (lessW a1 b1), .float .f64 (lessW a2 b2)] rfl rfl rfl (by kernel_rfl) (by rfl) rfl rfl hz5 info24 rfl (by simp [Value.oneCell']) hs8 ?_
          refine rowAt 9 24 (u18.heap.size) #[.float .f64 0, .float .f64 0] #[.float .f64 (lessW b1 a1), .float .f64 (lessW b2 a2)] rfl rfl rfl (by kernel_rfl) (by rfl) rfl rfl hz6 info24 rfl (by simp [Value.oneCell']) hs9 ?_
          refine wpAnyH_done (by kernel_rfl) ?_ _
          exact rest _ (u0.heap.size) (u18.heap.size) ⟨hs9, RowL.other (setRow_heap _ (u0.heap.size) _ #[.float .f64 (lessW a1 b1), .float .f64 (lessW a2 b2)] _ _ hz5) #[.float .f64 (lessW b1 a1), .float .f64 (lessW b2 a2)] n56, setRow_heap _ (u18.heap.size) _ #[.float .f64 (lessW b1 a1), .float .f64 (lessW b2 a2)] _ _ hz6⟩
    · have h23 := h17.alloc (.cells #[.float .f64 0, .float .f64 0] 24)
      have G6 : w.heap.size + 2 ≤ (World.alloc u0 (.cells #[.float .f64 0, .float .f64 0] 24)).heap.size := by have := h17.2.2.lt; omega
      have s23 := RowL.new (World.alloc u0 (.cells #[.float .f64 0, .float .f64 0] 24)) ((World.alloc u0 (.cells #[.float .f64 0, .float .f64 0] 24)).heap.size) 0 0 rfl
      have N56 : (u0.heap.size) ≠ ((World.alloc u0 (.cells #[.float .f64 0, .float .f64 0] 24)).heap.size) := by have := q17.lt; omega
      have q23 := q17.alloc (.cells #[.float .f64 0, .float .f64 0] 24)
      simp only [Act.put, List.setIfInBounds_toArray, List.set_cons_zero, List.set_cons_succ]
      refine wpAnyH_ready (rs := [2]) (by kernel_rfl) (by simp) (AllReadyH.cons rfl (callStep 2 9 rfl (by rfl) (by kernel_rfl) (L.least a1 a2 b1 b2 _) ?_) (AllReadyH.nil))
      · rintro e u24 ⟨rfl, hb24⟩
        have h24 := h23.call hb24
        refine ⟨_, rfl, h24, ?_⟩
        have q24 := q23.call hb24
        have s24 := s23.call hb24
        clear hb24
        simp only [Act.put, List.setIfInBounds_toArray, List.set_cons_zero, List.set_cons_succ]
        refine wpAnyH_ready (rs := [5]) (by kernel_rfl) (by simp) (AllReadyH.cons rfl (callStep 5 12 rfl (by rfl) (by kernel_rfl) (L.least b1 b2 a1 a2 _) ?_) (AllReadyH.nil))
        · rintro e u25 ⟨rfl, hb25⟩
          have h25 := h24.call hb25
          refine ⟨_, rfl, h25, ?_⟩
          have q25 := q24.call hb25
          have s25 := s24.call hb25
          clear hb25
          simp only [Act.put, List.setIfInBounds_toArray, List.set_cons_zero, List.set_cons_succ]
          have ne5 := q25.lt
          have ne6 := s25.lt
          have l1 := h25.2.2.lt
          have n56 : (u0.heap.size) ≠ ((World.alloc u0 (.cells #[.float .f64 0, .float .f64 0] 24)).heap.size) := N56
          have hz5 := q25
          have hz6 := RowL.other s25 #[.float .f64 (lessW a1 b1), .float .f64 (lessW a2 b2)] (Ne.symm n56)
          have hs8 := h25.row (k := u0.heap.size) #[.float .f64 (lessW a1 b1), .float .f64 (lessW a2 b2)] G5
          have hs9 := hs8.row (k := (World.alloc u0 (.cells #[.float .f64 0, .float .f64 0] 24)).heap.size) #[.float .f64 (lessW b1 a1), .float .f64 (lessW b2 a2)] G6
          refine rowAt 8 24 (u0.heap.size) #[.float .f64 0, .float .f64 0] #[.float .f64 (lessW a1 b1), .float .f64 (lessW a2 b2)] rfl rfl rfl (by kernel_rfl) (by rfl) rfl rfl hz5 info24 rfl (by simp [Value.oneCell']) hs8 ?_
          refine rowAt 9 24 ((World.alloc u0 (.cells #[.float .f64 0, .float .f64 0] 24)).heap.size) #[.float .f64 0, .float .f64 0] #[.float .f64 (lessW b1 a1), .float .f64 (lessW b2 a2)] rfl rfl rfl (by kernel_rfl) (by rfl) rfl rfl hz6 info24 rfl (by simp [Value.oneCell']) hs9 ?_
          refine wpAnyH_done (by kernel_rfl) ?_ _
          exact rest _ (u0.heap.size) ((World.alloc u0 (.cells #[.float .f64 0, .float .f64 0] 24)).heap.size) ⟨hs9, RowL.other (setRow_heap _ (u0.heap.size) _ #[.float .f64 (lessW a1 b1), .float .f64 (lessW a2 b2)] _ _ hz5) #[.float .f64 (lessW b1 a1), .float .f64 (lessW b2 a2)] n56, setRow_heap _ ((World.alloc u0 (.cells #[.float .f64 0, .float .f64 0] 24)).heap.size) _ #[.float .f64 (lessW b1 a1), .float .f64 (lessW b2 a2)] _ _ hz6⟩
  · have h26 := hS.alloc (.cells #[.float .f64 0, .float .f64 0] 24)
    have G6 : w.heap.size + 2 ≤ u0.heap.size := by have := hS.2.2.lt; omega
    have s26 := RowL.new u0 (u0.heap.size) 0 0 rfl
    simp only [Act.put, List.setIfInBounds_toArray, List.set_cons_zero, List.set_cons_succ]
    refine wpAnyH_ready (rs := [2, 6]) (by kernel_rfl) (by simp) (AllReadyH.cons rfl (callStep 2 9 rfl (by rfl) (by kernel_rfl) (L.least a1 a2 b1 b2 _) ?_) (AllReadyH.cons rfl (valStep 6 5 (.pointer (some ⟨(World.alloc u0 (.cells #[.float .f64 0, .float .f64 0] 24)).heap.size, 0, none⟩)) (World.alloc (World.alloc u0 (.cells #[.float .f64 0, .float .f64 0] 24)) (.cells #[.float .f64 0, .float .f64 0] 24)) rfl (by rfl) (by kernel_rfl) (h26.alloc _) ?_) (AllReadyH.nil)))
    · rintro e u27 ⟨rfl, hb27⟩
      have h27 := h26.call hb27
      refine ⟨_, rfl, h27, ?_⟩
      have s27 := s26.call hb27
      clear hb27
      simp only [Act.put, List.setIfInBounds_toArray, List.set_cons_zero, List.set_cons_succ]
      refine wpAnyH_ready (rs := [5, 6]) (by kernel_rfl) (by simp) (AllReadyH.cons rfl (callStep 5 12 rfl (by rfl) (by kernel_rfl) (L.least b1 b2 a1 a2 _) ?_) (AllReadyH.cons rfl (valStep 6 5 (.pointer (some ⟨u27.heap.size, 0, none⟩)) (World.alloc u27 (.cells #[.float .f64 0, .float .f64 0] 24)) rfl (by rfl) (by kernel_rfl) (h27.alloc _) ?_) (AllReadyH.nil)))
      · rintro e u28 ⟨rfl, hb28⟩
        have h28 := h27.call hb28
        refine ⟨_, rfl, h28, ?_⟩
        have s28 := s27.call hb28
        clear hb28
        simp only [Act.put, List.setIfInBounds_toArray, List.set_cons_zero, List.set_cons_succ]
        refine wpAnyH_ready (rs := [6]) (by kernel_rfl) (by simp) (AllReadyH.cons rfl (valStep 6 5 (.pointer (some ⟨u28.heap.size, 0, none⟩)) (World.alloc u28 (.cells #[.float .f64 0, .float .f64 0] 24)) rfl (by rfl) (by kernel_rfl) (h28.alloc _) ?_) (AllReadyH.nil))
        · have h29 := h28.alloc (.cells #[.float .f64 0, .float .f64 0] 24)
          have G5 : w.heap.size + 2 ≤ u28.heap.size := by have := h28.2.2.lt; omega
          have q29 := RowL.new u28 (u28.heap.size) 0 0 rfl
          have N56 : (u28.heap.size) ≠ (u0.heap.size) := by have := s28.lt; omega
          have s29 := s28.alloc (.cells #[.float .f64 0, .float .f64 0] 24)
          simp only [Act.put, List.setIfInBounds_toArray, List.set_cons_zero, List.set_cons_succ]
          have ne5 := q29.lt
          have ne6 := s29.lt
          have l1 := h29.2.2.lt
          have n56 : (u28.heap.size) ≠ (u0.heap.size) := N56
          have hz5 := q29
          have hz6 := RowL.other s29 #[.float .f64 (lessW a1 b1), .float .f64 (lessW a2 b2)] (Ne.symm n56)
          have hs8 := h29.row (k := u28.heap.size) #[.float .f64 (lessW a1 b1), .float .f64 (lessW a2 b2)] G5
          have hs9 := hs8.row (k := u0.heap.size) #[.float .f64 (lessW b1 a1), .float .f64 (lessW b2 a2)] G6
          refine rowAt 8 24 (u28.heap.size) #[.float .f64 0, .float .f64 0] #[.float .f64 (lessW a1 b1), .float .f64 (lessW a2 b2)] rfl rfl rfl (by kernel_rfl) (by rfl) rfl rfl hz5 info24 rfl (by simp [Value.oneCell']) hs8 ?_
          refine rowAt 9 24 (u0.heap.size) #[.float .f64 0, .float .f64 0] #[.float .f64 (lessW b1 a1), .float .f64 (lessW b2 a2)] rfl rfl rfl (by kernel_rfl) (by rfl) rfl rfl hz6 info24 rfl (by simp [Value.oneCell']) hs9 ?_
          refine wpAnyH_done (by kernel_rfl) ?_ _
          exact rest _ (u28.heap.size) (u0.heap.size) ⟨hs9, RowL.other (setRow_heap _ (u28.heap.size) _ #[.float .f64 (lessW a1 b1), .float .f64 (lessW a2 b2)] _ _ hz5) #[.float .f64 (lessW b1 a1), .float .f64 (lessW b2 a2)] n56, setRow_heap _ (u0.heap.size) _ #[.float .f64 (lessW b1 a1), .float .f64 (lessW b2 a2)] _ _ hz6⟩
      · have h30 := h27.alloc (.cells #[.float .f64 0, .float .f64 0] 24)
        have G5 : w.heap.size + 2 ≤ u27.heap.size := by have := h27.2.2.lt; omega
        have q30 := RowL.new u27 (u27.heap.size) 0 0 rfl
        have N56 : (u27.heap.size) ≠ (u0.heap.size) := by have := s27.lt; omega
        have s30 := s27.alloc (.cells #[.float .f64 0, .float .f64 0] 24)
        simp only [Act.put, List.setIfInBounds_toArray, List.set_cons_zero, List.set_cons_succ]
        refine wpAnyH_ready (rs := [5]) (by kernel_rfl) (by simp) (AllReadyH.cons rfl (callStep 5 12 rfl (by rfl) (by kernel_rfl) (L.least b1 b2 a1 a2 _) ?_) (AllReadyH.nil))
        · rintro e u31 ⟨rfl, hb31⟩
          have h31 := h30.call hb31
          refine ⟨_, rfl, h31, ?_⟩
          have q31 := q30.call hb31
          have s31 := s30.call hb31
          clear hb31
          simp only [Act.put, List.setIfInBounds_toArray, List.set_cons_zero, List.set_cons_succ]
          have ne5 := q31.lt
          have ne6 := s31.lt
          have l1 := h31.2.2.lt
          have n56 : (u27.heap.size) ≠ (u0.heap.size) := N56
          have hz5 := q31
          have hz6 := RowL.other s31 #[.float .f64 (lessW a1 b1), .float .f64 (lessW a2 b2)] (Ne.symm n56)
          have hs8 := h31.row (k := u27.heap.size) #[.float .f64 (lessW a1 b1), .float .f64 (lessW a2 b2)] G5
          have hs9 := hs8.row (k := u0.heap.size) #[.float .f64 (lessW b1 a1), .float .f64 (lessW b2 a2)] G6
          refine rowAt 8 24 (u27.heap.size) #[.float .f64 0, .float .f64 0] #[.float .f64 (lessW a1 b1), .float .f64 (lessW a2 b2)] rfl rfl rfl (by kernel_rfl) (by rfl) rfl rfl hz5 info24 rfl (by simp [Value.oneCell']) hs8 ?_
          refine rowAt 9 24 (u0.heap.size) #[.float .f64 0, .float .f64 0] #[.float .f64 (lessW b1 a1), .float .f64 (lessW b2 a2)] rfl rfl rfl (by kernel_rfl) (by rfl) rfl rfl hz6 info24 rfl (by simp [Value.oneCell']) hs9 ?_
          refine wpAnyH_done (by kernel_rfl) ?_ _
          exact rest _ (u27.heap.size) (u0.heap.size) ⟨hs9, RowL.other (setRow_heap _ (u27.heap.size) _ #[.float .f64 (lessW a1 b1), .float .f64 (lessW a2 b2)] _ _ hz5) #[.float .f64 (lessW b1 a1), .float .f64 (lessW b2 a2)] n56, setRow_heap _ (u0.heap.size) _ #[.float .f64 (lessW b1 a1), .float .f64 (lessW b2 a2)] _ _ hz6⟩
    · have h32 := h26.alloc (.cells #[.float .f64 0, .float .f64 0] 24)
      have G5 : w.heap.size + 2 ≤ (World.alloc u0 (.cells #[.float .f64 0, .float .f64 0] 24)).heap.size := by have := h26.2.2.lt; omega
      have q32 := RowL.new (World.alloc u0 (.cells #[.float .f64 0, .float .f64 0] 24)) ((World.alloc u0 (.cells #[.float .f64 0, .float .f64 0] 24)).heap.size) 0 0 rfl
      have N56 : ((World.alloc u0 (.cells #[.float .f64 0, .float .f64 0] 24)).heap.size) ≠ (u0.heap.size) := by have := s26.lt; omega
      have s32 := s26.alloc (.cells #[.float .f64 0, .float .f64 0] 24)
      simp only [Act.put, List.setIfInBounds_toArray, List.set_cons_zero, List.set_cons_succ]
      refine wpAnyH_ready (rs := [2]) (by kernel_rfl) (by simp) (AllReadyH.cons rfl (callStep 2 9 rfl (by rfl) (by kernel_rfl) (L.least a1 a2 b1 b2 _) ?_) (AllReadyH.nil))
      · rintro e u33 ⟨rfl, hb33⟩
        have h33 := h32.call hb33
        refine ⟨_, rfl, h33, ?_⟩
        have q33 := q32.call hb33
        have s33 := s32.call hb33
        clear hb33
        simp only [Act.put, List.setIfInBounds_toArray, List.set_cons_zero, List.set_cons_succ]
        refine wpAnyH_ready (rs := [5]) (by kernel_rfl) (by simp) (AllReadyH.cons rfl (callStep 5 12 rfl (by rfl) (by kernel_rfl) (L.least b1 b2 a1 a2 _) ?_) (AllReadyH.nil))
        · rintro e u34 ⟨rfl, hb34⟩
          have h34 := h33.call hb34
          refine ⟨_, rfl, h34, ?_⟩
          have q34 := q33.call hb34
          have s34 := s33.call hb34
          clear hb34
          simp only [Act.put, List.setIfInBounds_toArray, List.set_cons_zero, List.set_cons_succ]
          have ne5 := q34.lt
          have ne6 := s34.lt
          have l1 := h34.2.2.lt
          have n56 : ((World.alloc u0 (.cells #[.float .f64 0, .float .f64 0] 24)).heap.size) ≠ (u0.heap.size) := N56
          have hz5 := q34
          have hz6 := RowL.other s34 #[.float .f64 (lessW a1 b1), .float .f64 (lessW a2 b2)] (Ne.symm n56)
          have hs8 := h34.row (k := (World.alloc u0 (.cells #[.float .f64 0, .float .f64 0] 24)).heap.size) #[.float .f64 (lessW a1 b1), .float .f64 (lessW a2 b2)] G5
          have hs9 := hs8.row (k := u0.heap.size) #[.float .f64 (lessW b1 a1), .float .f64 (lessW b2 a2)] G6
          refine rowAt 8 24 ((World.alloc u0 (.cells #[.float .f64 0, .float .f64 0] 24)).heap.size) #[.float .f64 0, .float .f64 0] #[.float .f64 (lessW a1 b1), .float .f64 (lessW a2 b2)] rfl rfl rfl (by kernel_rfl) (by rfl) rfl rfl hz5 info24 rfl (by simp [Value.oneCell']) hs8 ?_
          refine rowAt 9 24 (u0.heap.size) #[.float .f64 0, .float .f64 0] #[.float .f64 (lessW b1 a1), .float .f64 (lessW b2 a2)] rfl rfl rfl (by kernel_rfl) (by rfl) rfl rfl hz6 info24 rfl (by simp [Value.oneCell']) hs9 ?_
          refine wpAnyH_done (by kernel_rfl) ?_ _
          exact rest _ ((World.alloc u0 (.cells #[.float .f64 0, .float .f64 0] 24)).heap.size) (u0.heap.size) ⟨hs9, RowL.other (setRow_heap _ ((World.alloc u0 (.cells #[.float .f64 0, .float .f64 0] 24)).heap.size) _ #[.float .f64 (lessW a1 b1), .float .f64 (lessW a2 b2)] _ _ hz5) #[.float .f64 (lessW b1 a1), .float .f64 (lessW b2 a2)] n56, setRow_heap _ (u0.heap.size) _ #[.float .f64 (lessW b1 a1), .float .f64 (lessW b2 a2)] _ _ hz6⟩
end Go.Proofs.Ytaobbdmkkehpnaa
