/-
  The statement FrameRoom: its walk.
-/
import Derived.Test.YtecfndpbgebpiaaFrmKit
namespace Go.Proofs.Ytecfndpbgebpiaa
open Go.RowKit

theorem put_cases (most : Int) (M : List Pl) (f : Fr) : (∃ x, mayF M.length f = false ∧ x = putF most M f ∧ x = (M, 0, 1)) ∨ (∃ x, x = putF most M f ∧ x = (M, 0, 4) ∧ (M.length : Int) - 1 = most) ∨
    (∃ x i, x = putF most M f ∧ x = (M, i, 0) ∧ 1 ≤ i ∧ i < M.length ∧ frI M i = f ∧ mayF M.length f = true) ∨ (∃ x, x = putF most M f ∧ x = (M ++ [(f, dpI M f.x.toNat + 1)], M.length, 0) ∧ (M.length : Int) - 1 ≠ most ∧ idF M f = 0 ∧ mayF M.length f = true) := by
  cases hm : mayF M.length f with
  | false => exact .inl ⟨_, rfl, rfl, put_bad hm⟩
  | true =>
    by_cases hi : idF M f = 0
    · by_cases hr : (M.length : Int) - 1 = most
      · exact .inr (.inl ⟨_, rfl, put_full hm hi hr, hr⟩)
      · exact .inr (.inr (.inr ⟨_, rfl, put_new hm hi hr, hr, hi, rfl⟩))
    · obtain ⟨k1, k2, k3, -⟩ := idF_some hi
      exact .inr (.inr (.inl ⟨_, _, rfl, put_is hm hi, k1, k2, k3, rfl⟩))
section
variable {ops : Array Oper} {R : World → Prop} {a : Act} {o : Oper} {x y : Operand} {w : World}
theorem neqFr_y (f g : Fr) (b : Bool) (hb : (!decide (f = g)) = b) (ho : o.op = .binOp .neq 33 x y 33) (hx : a.eval x = .agg (frC f)) (hy : a.eval y = .agg (frC g)) (hw : Region.wanted o (yielded ops a.tmps) = true) : YieldsIf Try.prog ops R o (.bool b) a := by
  subst hb
  refine Or.inl ⟨hw, fun u _ => ?_⟩
  obtain ⟨k, n, t, f, x1⟩ := f
  obtain ⟨k', n', t', f', x'⟩ := g
  unfold execOp
  simp only [ho, hx, hy]
  simp [go_sem]
  by_cases h1 : k = k' <;> by_cases h2 : n = n' <;> by_cases h3 : t = t' <;> by_cases h4 : f = f' <;> by_cases h5 : x1 = x' <;> simp [h1, h2, h3, h4, h5]
theorem ldFm_y (g k : Nat) (f : Fr) (hR : ∀ u, R u → u.rangeAt g k (frL f)) (ho : o.op = .load 33 x) (hx : a.eval x = .pointer (some ⟨g, k, none⟩)) (hw : Region.wanted o (yielded ops a.tmps) = true) : YieldsIf Try.prog ops R o (.agg (frC f)) a :=
  yieldsIf_load_mid hw 33 x ho g k hx (frL f) _ hR Try.underlying33 rfl sizeFr
end

set_option maxRecDepth 100000 in
set_option maxHeartbeats 16000000 in
theorem frameRoom_walk (k : Nat) (A : Option Addr) (N cap : Nat) (l : Nat → Fr) (w : World) (hk : k < 256) (hl : Frames w A N l) :
    Calls Try.prog 5 #[.int .u8 (k : Int), .slice A N cap] w fun e w' => e = .returned (.bool true) ∧ Below w.heap.size w w' := by
  obtain ⟨n, hn⟩ : ∃ n : Nat, (k : Int) % 10 = (n : Int) := ⟨k % 10, by omega⟩
  have hn9 : n ≤ 9 := by omega
  have N9 := Lib.hid hn9
  have nz : (n : Int) ≤ 9 := by omega
  have n0 : (0 : Int) ≤ (n : Int) := by omega
  have HLS := Lib.hid hl
  clear hn9 hl
  go_enter Try.func5, Try.ntmps5
  go_wp2_with fail
  rw [hn]
  clear hn
  refine (xnew (n : Int) w (by omega)).mono ?_
  rintro e w1 ⟨p, m, rfl, hst⟩
  have H1 := Lib.hid hst
  clear hst
  go_wp2_with fail
  go_loopw [8] (fun i wr => ∃ (j : Nat) (M : List Pl) (u : Nat), i = .int .i64 (j : Int) ∧ j ≤ 40 ∧ j ≤ N ∧ SX w wr p m (n : Int) M ∧ M.length = u + 1 ∧ u ≤ n) (fun i _ => 40 - (intOf i).toNat)
  case atStart => exact ⟨0, [(zF, 0)], 0, rfl, by omega, Nat.zero_le _, H1.out, rfl, Nat.zero_le _⟩
  case round =>
    obtain ⟨j, M, u, rfl, hj40, hjN, hs, hM, hu⟩ := hrel
    have HS := Lib.hid hs
    have HM := Lib.hid hM
    have j0 : (0 : Int) ≤ j := by omega
    have u0 : (0 : Int) ≤ u := by omega
    have un : (u : Int) ≤ n := by omega
    have UN := Lib.hid hu
    clear hs hM hu
    by_cases hlt : j < N
    · by_cases h40 : j < 40
      · have jN : (j : Int) < N := by omega
        have j4 : (j : Int) < 40 := by omega
        have J4 := Lib.hid h40
        have JN := Lib.hid hlt
        obtain ⟨bb, oo, rfl, hbb, hrg, hi64⟩ := HLS.out j hlt
        have HI := Lib.hid hi64
        have BBL := Lib.hid hbb
        have RG := Lib.hid hrg
        clear hrg hi64 hbb h40 hlt hj40 hjN
        go_wp2_with fail
        refine (xlen HS.out).mono ?_
        rintro e w2 ⟨rfl, hst⟩
        rw [show ((M.length : Nat) : Int) - 1 = (u : Int) from by rw [HM.out]; omega]
        have H2 := Lib.hid hst
        have R2 := Lib.hid (show w2.rangeAt bb (oo + j * 5) (frL (l j)) from fun i v hv => (hst.low.cell (p := ⟨bb, oo + j * 5 + i, none⟩) BBL.out).trans (RG.out i v hv))
        clear hst HS
        go_wp2_with (refine loadFr rfl _ rfl bb (oo + j * 5) (l j) rfl R2.out ?_)
        refine (xput (l j) H2.out HI.out (by have := HM.out; have := UN.out; have := N9.out; omega)).mono ?_
        rintro e w3 ⟨rfl, hst⟩
        have R3 := Lib.hid (show w3.rangeAt bb (oo + j * 5) (frL (l j)) from fun i v hv => (hst.low.cell (p := ⟨bb, oo + j * 5 + i, none⟩) BBL.out).trans (RG.out i v hv))
        rcases put_cases (n : Int) M (l j) with ⟨x, hbad, h1, h2⟩ | ⟨x, h1, h2, hfull⟩ | ⟨x, id, h1, h2, i1, i2, i3, -⟩ | ⟨x, h1, h2, hnf, hid, hmay⟩
        · subst h1
          rw [h2] at hst ⊢
          have GE := Lib.hid (show getF M 0 = frI M 0 from by unfold getF; rw [if_pos (by have := HM.out; omega)]; rfl)
          have DE := Lib.hid (show decide ((0 : Int) ≤ 0 ∧ (0 : Int) < (M.length : Nat)) = true from decide_eq_true (by have := HM.out; omega))
          have LE := Lib.hid (And.intro HM.out UN.out)
          have H3 := Lib.hid hst
          clear hst H2 R2
          go_wp2_with fail
          refine (xlen H3.out).mono ?_
          rintro e w4 ⟨rfl, hst⟩
          rw [show ((M.length : Nat) : Int) - 1 = (u : Int) from by rw [HM.out]; omega]
          have H4 := Lib.hid hst
          clear hst H3
          go_wp2_with fail
          refine (xget 0 H4.out).mono ?_
          rintro e w5 ⟨rfl, hst⟩
          rw [GE.out, DE.out]
          have H5 := Lib.hid (hst.alloc (.cells (frC (frI M 0)) 33))
          have R5 := Lib.hid (show (w5.alloc (.cells (frC (frI M 0)) 33)).rangeAt bb (oo + j * 5) (frL (l j)) from fun i v hv => ((hst.alloc (.cells (frC (frI M 0)) 33)).low.cell (p := ⟨bb, oo + j * 5 + i, none⟩) BBL.out).trans (RG.out i v hv))
          have X5 := Lib.hid (show BoxV 33 (w5.alloc (.cells (frC (frI M 0)) 33)) w5.heap.size (frC (frI M 0)) from BoxV.new w5 _)
          obtain ⟨g5, hg5⟩ : ∃ g, w5.heap.size = g := ⟨_, rfl⟩
          rw [hg5] at X5
          obtain ⟨w6, hw6⟩ : ∃ w6, w5.alloc (.cells (frC (frI M 0)) 33) = w6 := ⟨_, rfl⟩
          rw [hw6] at H5 R5 X5
          clear hst H4
          go_wp2_with fail
          try rw [show w5.alloc _ = w6 from hw6]
          clear hw6
          have RB : w6.drew.rangeAt bb (oo + j * 5) (frL (l j)) := R5.out
          have XB : BoxV 33 w6.drew g5 (frC (frI M 0)) := X5.out
          have hS : w6.drew = w6.drew := rfl
          refine wp_region_held_drew (S := (· = w6.drew)) (by kernel_rfl) hS (fun _ => ?_)
          refine takeAt 0 103 (.int .i64 1) rfl rfl (by kernel_rfl) (by kernel_rfl) (by kernel_rfl) (fun _ _ _ h => h) (yields (by rfl) (fun w => by kernel_rfl)) hS ?_
          simp only [Act.put, List.setIfInBounds_toArray, List.set_cons_zero, List.set_cons_succ]
          refine takeAt 1 104 (.bool false) rfl rfl (by kernel_rfl) (by kernel_rfl) (by kernel_rfl) (fun _ _ _ h => h) (yields (by rfl) (fun w => by kernel_rfl)) hS ?_
          simp only [Act.put, List.setIfInBounds_toArray, List.set_cons_zero, List.set_cons_succ]
          refine takeAt 2 105 (.bool false) rfl rfl (by kernel_rfl) (by kernel_rfl) (by kernel_rfl) (fun _ _ _ h => h) (yields (by rfl) (fun w => by kernel_rfl)) hS ?_
          simp only [Act.put, List.setIfInBounds_toArray, List.set_cons_zero, List.set_cons_succ]
          refine takeAt 3 106 (undef) rfl rfl (by kernel_rfl) (by kernel_rfl) (by kernel_rfl) (fun _ _ _ h => h) (skipped (by rfl)) hS ?_
          simp only [Act.put, List.setIfInBounds_toArray, List.set_cons_zero, List.set_cons_succ]
          refine takeAt 4 107 (undef) rfl rfl (by kernel_rfl) (by kernel_rfl) (by kernel_rfl) (fun _ _ _ h => h) (skipped (by rfl)) hS ?_
          simp only [Act.put, List.setIfInBounds_toArray, List.set_cons_zero, List.set_cons_succ]
          refine takeAt 5 108 (undef) rfl rfl (by kernel_rfl) (by kernel_rfl) (by kernel_rfl) (fun _ _ _ h => h) (skipped (by rfl)) hS ?_
          simp only [Act.put, List.setIfInBounds_toArray, List.set_cons_zero, List.set_cons_succ]
          refine takeAt 6 109 (undef) rfl rfl (by kernel_rfl) (by kernel_rfl) (by kernel_rfl) (fun _ _ _ h => h) (skipped (by rfl)) hS ?_
          simp only [Act.put, List.setIfInBounds_toArray, List.set_cons_zero, List.set_cons_succ]
          refine takeAt 7 110 (undef) rfl rfl (by kernel_rfl) (by kernel_rfl) (by kernel_rfl) (fun _ _ _ h => h) (skipped (by rfl)) hS ?_
          simp only [Act.put, List.setIfInBounds_toArray, List.set_cons_zero, List.set_cons_succ]
          refine takeAt 8 111 (undef) rfl rfl (by kernel_rfl) (by kernel_rfl) (by kernel_rfl) (fun _ _ _ h => h) (skipped (by rfl)) hS ?_
          simp only [Act.put, List.setIfInBounds_toArray, List.set_cons_zero, List.set_cons_succ]
          refine takeAt 9 112 (undef) rfl rfl (by kernel_rfl) (by kernel_rfl) (by kernel_rfl) (fun _ _ _ h => h) (skipped (by rfl)) hS ?_
          simp only [Act.put, List.setIfInBounds_toArray, List.set_cons_zero, List.set_cons_succ]
          refine takeAt 10 113 (undef) rfl rfl (by kernel_rfl) (by kernel_rfl) (by kernel_rfl) (fun _ _ _ h => h) (skipped (by rfl)) hS ?_
          simp only [Act.put, List.setIfInBounds_toArray, List.set_cons_zero, List.set_cons_succ]
          refine takeAt 11 114 (undef) rfl rfl (by kernel_rfl) (by kernel_rfl) (by kernel_rfl) (fun _ _ _ h => h) (skipped (by rfl)) hS ?_
          simp only [Act.put, List.setIfInBounds_toArray, List.set_cons_zero, List.set_cons_succ]
          refine takeAt 12 115 (undef) rfl rfl (by kernel_rfl) (by kernel_rfl) (by kernel_rfl) (fun _ _ _ h => h) (skipped (by rfl)) hS ?_
          simp only [Act.put, List.setIfInBounds_toArray, List.set_cons_zero, List.set_cons_succ]
          refine takeAt 13 116 (.bool false) rfl rfl (by kernel_rfl) (by kernel_rfl) (by kernel_rfl) (fun _ _ _ h => h) (yields (by rfl) (fun w => by kernel_rfl)) hS ?_
          simp only [Act.put, List.setIfInBounds_toArray, List.set_cons_zero, List.set_cons_succ]
          refine wpAnyH_done (by kernel_rfl) ?_ _
          clear hS RB XB
          go_wp2_with fail
          go_roundw
          case rel => exact ⟨j + 1, M, u, by go_num, by have := J4.out; omega, by have := JN.out; omega, H5.out.drew, LE.out.1, LE.out.2⟩
          case measure => simp [intOf]; have := J4.out; omega
        · subst h1
          rw [h2] at hst ⊢
          have uf : (u : Int) = n := by have := HM.out; omega
          have GE := Lib.hid (show getF M 0 = frI M 0 from by unfold getF; rw [if_pos (by have := HM.out; omega)]; rfl)
          have DE := Lib.hid (show decide ((0 : Int) ≤ 0 ∧ (0 : Int) < (M.length : Nat)) = true from decide_eq_true (by have := HM.out; omega))
          have LE := Lib.hid (And.intro HM.out UN.out)
          have H3 := Lib.hid hst
          clear hst H2 R2
          go_wp2_with fail
          refine (xlen H3.out).mono ?_
          rintro e w4 ⟨rfl, hst⟩
          rw [show ((M.length : Nat) : Int) - 1 = (u : Int) from by rw [HM.out]; omega]
          have H4 := Lib.hid hst
          clear hst H3
          go_wp2_with fail
          refine (xget 0 H4.out).mono ?_
          rintro e w5 ⟨rfl, hst⟩
          rw [GE.out, DE.out]
          have H5 := Lib.hid (hst.alloc (.cells (frC (frI M 0)) 33))
          have R5 := Lib.hid (show (w5.alloc (.cells (frC (frI M 0)) 33)).rangeAt bb (oo + j * 5) (frL (l j)) from fun i v hv => ((hst.alloc (.cells (frC (frI M 0)) 33)).low.cell (p := ⟨bb, oo + j * 5 + i, none⟩) BBL.out).trans (RG.out i v hv))
          have X5 := Lib.hid (show BoxV 33 (w5.alloc (.cells (frC (frI M 0)) 33)) w5.heap.size (frC (frI M 0)) from BoxV.new w5 _)
          obtain ⟨g5, hg5⟩ : ∃ g, w5.heap.size = g := ⟨_, rfl⟩
          rw [hg5] at X5
          obtain ⟨w6, hw6⟩ : ∃ w6, w5.alloc (.cells (frC (frI M 0)) 33) = w6 := ⟨_, rfl⟩
          rw [hw6] at H5 R5 X5
          clear hst H4
          go_wp2_with fail
          try rw [show w5.alloc _ = w6 from hw6]
          clear hw6
          have RB : w6.drew.rangeAt bb (oo + j * 5) (frL (l j)) := R5.out
          have XB : BoxV 33 w6.drew g5 (frC (frI M 0)) := X5.out
          have hS : w6.drew = w6.drew := rfl
          refine wp_region_held_drew (S := (· = w6.drew)) (by kernel_rfl) hS (fun _ => ?_)
          refine takeAt 0 103 (.int .i64 4) rfl rfl (by kernel_rfl) (by kernel_rfl) (by kernel_rfl) (fun _ _ _ h => h) (yields (by rfl) (fun w => by kernel_rfl)) hS ?_
          simp only [Act.put, List.setIfInBounds_toArray, List.set_cons_zero, List.set_cons_succ]
          refine takeAt 1 104 (.bool false) rfl rfl (by kernel_rfl) (by kernel_rfl) (by kernel_rfl) (fun _ _ _ h => h) (yields (by rfl) (fun w => by kernel_rfl)) hS ?_
          simp only [Act.put, List.setIfInBounds_toArray, List.set_cons_zero, List.set_cons_succ]
          refine takeAt 2 105 (.bool false) rfl rfl (by kernel_rfl) (by kernel_rfl) (by kernel_rfl) (fun _ _ _ h => h) (yields (by rfl) (fun w => by kernel_rfl)) hS ?_
          simp only [Act.put, List.setIfInBounds_toArray, List.set_cons_zero, List.set_cons_succ]
          refine takeAt 3 106 (undef) rfl rfl (by kernel_rfl) (by kernel_rfl) (by kernel_rfl) (fun _ _ _ h => h) (skipped (by rfl)) hS ?_
          simp only [Act.put, List.setIfInBounds_toArray, List.set_cons_zero, List.set_cons_succ]
          refine takeAt 4 107 (undef) rfl rfl (by kernel_rfl) (by kernel_rfl) (by kernel_rfl) (fun _ _ _ h => h) (skipped (by rfl)) hS ?_
          simp only [Act.put, List.setIfInBounds_toArray, List.set_cons_zero, List.set_cons_succ]
          refine takeAt 5 108 (undef) rfl rfl (by kernel_rfl) (by kernel_rfl) (by kernel_rfl) (fun _ _ _ h => h) (skipped (by rfl)) hS ?_
          simp only [Act.put, List.setIfInBounds_toArray, List.set_cons_zero, List.set_cons_succ]
          refine takeAt 6 109 (undef) rfl rfl (by kernel_rfl) (by kernel_rfl) (by kernel_rfl) (fun _ _ _ h => h) (skipped (by rfl)) hS ?_
          simp only [Act.put, List.setIfInBounds_toArray, List.set_cons_zero, List.set_cons_succ]
          refine takeAt 7 110 (undef) rfl rfl (by kernel_rfl) (by kernel_rfl) (by kernel_rfl) (fun _ _ _ h => h) (skipped (by rfl)) hS ?_
          simp only [Act.put, List.setIfInBounds_toArray, List.set_cons_zero, List.set_cons_succ]
          refine takeAt 8 111 (undef) rfl rfl (by kernel_rfl) (by kernel_rfl) (by kernel_rfl) (fun _ _ _ h => h) (skipped (by rfl)) hS ?_
          simp only [Act.put, List.setIfInBounds_toArray, List.set_cons_zero, List.set_cons_succ]
          refine takeAt 9 112 (undef) rfl rfl (by kernel_rfl) (by kernel_rfl) (by kernel_rfl) (fun _ _ _ h => h) (skipped (by rfl)) hS ?_
          simp only [Act.put, List.setIfInBounds_toArray, List.set_cons_zero, List.set_cons_succ]
          refine takeAt 10 113 (undef) rfl rfl (by kernel_rfl) (by kernel_rfl) (by kernel_rfl) (fun _ _ _ h => h) (skipped (by rfl)) hS ?_
          simp only [Act.put, List.setIfInBounds_toArray, List.set_cons_zero, List.set_cons_succ]
          refine takeAt 11 114 (undef) rfl rfl (by kernel_rfl) (by kernel_rfl) (by kernel_rfl) (fun _ _ _ h => h) (skipped (by rfl)) hS ?_
          simp only [Act.put, List.setIfInBounds_toArray, List.set_cons_zero, List.set_cons_succ]
          refine takeAt 12 115 (undef) rfl rfl (by kernel_rfl) (by kernel_rfl) (by kernel_rfl) (fun _ _ _ h => h) (skipped (by rfl)) hS ?_
          simp only [Act.put, List.setIfInBounds_toArray, List.set_cons_zero, List.set_cons_succ]
          refine takeAt 13 116 (.bool false) rfl rfl (by kernel_rfl) (by kernel_rfl) (by kernel_rfl) (fun _ _ _ h => h) (yields (by rfl) (fun w => by kernel_rfl)) hS ?_
          simp only [Act.put, List.setIfInBounds_toArray, List.set_cons_zero, List.set_cons_succ]
          refine wpAnyH_done (by kernel_rfl) ?_ _
          clear hS RB XB
          go_wp2_with fail
          go_roundw
          case rel => exact ⟨j + 1, M, u, by go_num, by have := J4.out; omega, by have := JN.out; omega, H5.out.drew, LE.out.1, LE.out.2⟩
          case measure => simp [intOf]; have := J4.out; omega
        · subst h1
          rw [h2] at hst ⊢
          have id0 : (1 : Int) ≤ id := by omega
          have GE := Lib.hid (show getF M (id : Int) = frI M id from by unfold getF; rw [if_pos (by omega)]; rfl)
          have DE := Lib.hid (show decide ((0 : Int) ≤ (id : Int) ∧ (id : Int) < (M.length : Nat)) = true from decide_eq_true (by omega))
          have FE := Lib.hid i3
          have LE := Lib.hid (And.intro HM.out UN.out)
          clear i1 i2 i3
          have H3 := Lib.hid hst
          clear hst H2 R2
          go_wp2_with fail
          refine (xlen H3.out).mono ?_
          rintro e w4 ⟨rfl, hst⟩
          rw [show ((M.length : Nat) : Int) - 1 = (u : Int) from by rw [HM.out]; omega]
          have H4 := Lib.hid hst
          clear hst H3
          go_wp2_with fail
          refine (xget (id : Int) H4.out).mono ?_
          rintro e w5 ⟨rfl, hst⟩
          rw [GE.out, DE.out]
          have H5 := Lib.hid (hst.alloc (.cells (frC (frI M id)) 33))
          have R5 := Lib.hid (show (w5.alloc (.cells (frC (frI M id)) 33)).rangeAt bb (oo + j * 5) (frL (l j)) from fun i v hv => ((hst.alloc (.cells (frC (frI M id)) 33)).low.cell (p := ⟨bb, oo + j * 5 + i, none⟩) BBL.out).trans (RG.out i v hv))
          have X5 := Lib.hid (show BoxV 33 (w5.alloc (.cells (frC (frI M id)) 33)) w5.heap.size (frC (frI M id)) from BoxV.new w5 _)
          obtain ⟨g5, hg5⟩ : ∃ g, w5.heap.size = g := ⟨_, rfl⟩
          rw [hg5] at X5
          obtain ⟨w6, hw6⟩ : ∃ w6, w5.alloc (.cells (frC (frI M id)) 33) = w6 := ⟨_, rfl⟩
          rw [hw6] at H5 R5 X5
          clear hst H4
          go_wp2_with fail
          try rw [show w5.alloc _ = w6 from hw6]
          clear hw6
          have RB : w6.drew.rangeAt bb (oo + j * 5) (frL (l j)) := R5.out
          have XB : BoxV 33 w6.drew g5 (frC (frI M id)) := X5.out
          have hS : w6.drew = w6.drew := rfl
          refine wp_region_held_drew (S := (· = w6.drew)) (by kernel_rfl) hS (fun _ => ?_)
          refine takeAt 0 103 (.int .i64 0) rfl rfl (by kernel_rfl) (by kernel_rfl) (by kernel_rfl) (fun _ _ _ h => h) (yields (by rfl) (fun w => by kernel_rfl)) hS ?_
          simp only [Act.put, List.setIfInBounds_toArray, List.set_cons_zero, List.set_cons_succ]
          refine takeAt 1 104 (.bool true) rfl rfl (by kernel_rfl) (by kernel_rfl) (by kernel_rfl) (fun _ _ _ h => h) (yields (by rfl) (fun w => by kernel_rfl)) hS ?_
          simp only [Act.put, List.setIfInBounds_toArray, List.set_cons_zero, List.set_cons_succ]
          refine takeAt 2 105 (.bool true) rfl rfl (by kernel_rfl) (by kernel_rfl) (by kernel_rfl) (fun _ _ _ h => h) (yields (by rfl) (fun w => by kernel_rfl)) hS ?_
          simp only [Act.put, List.setIfInBounds_toArray, List.set_cons_zero, List.set_cons_succ]
          refine takeAt 3 106 (.bool true) rfl rfl (by kernel_rfl) (by kernel_rfl) (by kernel_rfl) (fun _ _ _ h => h) (yields (by rfl) (fun w => by kernel_rfl)) hS ?_
          simp only [Act.put, List.setIfInBounds_toArray, List.set_cons_zero, List.set_cons_succ]
          refine takeAt 4 107 (.bool false) rfl rfl (by kernel_rfl) (by kernel_rfl) (by kernel_rfl) (fun _ _ _ h => h) (yields (by rfl) (fun w => by kernel_rfl)) hS ?_
          simp only [Act.put, List.setIfInBounds_toArray, List.set_cons_zero, List.set_cons_succ]
          refine takeAt 5 108 (.bool false) rfl rfl (by kernel_rfl) (by kernel_rfl) (by kernel_rfl) (fun _ _ _ h => h) (yields (by rfl) (fun w => by kernel_rfl)) hS ?_
          simp only [Act.put, List.setIfInBounds_toArray, List.set_cons_zero, List.set_cons_succ]
          refine takeAt 6 109 (.agg (frC (frI M id))) rfl rfl (by kernel_rfl) (by kernel_rfl) (by kernel_rfl) (fun _ _ _ h => h) (ldFm_y g5 0 (frI M id) (fun _ h => by rw [h]; exact XB.fr) rfl rfl (by rfl)) hS ?_
          simp only [Act.put, List.setIfInBounds_toArray, List.set_cons_zero, List.set_cons_succ]
          refine takeAt 7 110 (.slice (some ⟨bb, oo, none⟩) N cap) rfl rfl (by kernel_rfl) (by kernel_rfl) (by kernel_rfl) (fun _ _ _ h => h) (yields (by rfl) (fun w => by kernel_rfl)) hS ?_
          simp only [Act.put, List.setIfInBounds_toArray, List.set_cons_zero, List.set_cons_succ]
          refine takeAt 8 111 (.int .i64 (j : Int)) rfl rfl (by kernel_rfl) (by kernel_rfl) (by kernel_rfl) (fun _ _ _ h => h) (yields (by rfl) (fun w => by kernel_rfl)) hS ?_
          simp only [Act.put, List.setIfInBounds_toArray, List.set_cons_zero, List.set_cons_succ]
          refine takeAt 9 112 (.pointer (some ⟨bb, oo + j * 5, none⟩)) rfl rfl (by kernel_rfl) (by kernel_rfl) (by kernel_rfl) (fun _ _ _ h => h) (Or.inl ⟨by rfl, fun u _ => by unfold execOp; go_simp⟩) hS ?_
          simp only [Act.put, List.setIfInBounds_toArray, List.set_cons_zero, List.set_cons_succ]
          refine takeAt 10 113 (.agg (frC (l j))) rfl rfl (by kernel_rfl) (by kernel_rfl) (by kernel_rfl) (fun _ _ _ h => h) (ldFm_y bb (oo + j * 5) (l j) (fun _ h => by rw [h]; exact RB) rfl rfl (by rfl)) hS ?_
          simp only [Act.put, List.setIfInBounds_toArray, List.set_cons_zero, List.set_cons_succ]
          refine takeAt 11 114 (.bool false) rfl rfl (by kernel_rfl) (by kernel_rfl) (by kernel_rfl) (fun _ _ _ h => h) (neqFr_y (frI M id) (l j) false (by rw [FE.out]; simp) rfl rfl rfl (by rfl)) hS ?_
          simp only [Act.put, List.setIfInBounds_toArray, List.set_cons_zero, List.set_cons_succ]
          refine takeAt 12 115 (.bool false) rfl rfl (by kernel_rfl) (by kernel_rfl) (by kernel_rfl) (fun _ _ _ h => h) (yields (by rfl) (fun w => by kernel_rfl)) hS ?_
          simp only [Act.put, List.setIfInBounds_toArray, List.set_cons_zero, List.set_cons_succ]
          refine takeAt 13 116 (.bool false) rfl rfl (by kernel_rfl) (by kernel_rfl) (by kernel_rfl) (fun _ _ _ h => h) (yields (by rfl) (fun w => by kernel_rfl)) hS ?_
          simp only [Act.put, List.setIfInBounds_toArray, List.set_cons_zero, List.set_cons_succ]
          refine wpAnyH_done (by kernel_rfl) ?_ _
          clear hS RB XB
          go_wp2_with fail
          go_roundw
          case rel => exact ⟨j + 1, M, u, by go_num, by have := J4.out; omega, by have := JN.out; omega, H5.out.drew, LE.out.1, LE.out.2⟩
          case measure => simp [intOf]; have := J4.out; omega
        · subst h1
          rw [h2] at hst ⊢
          rw [show ((M.length : Nat) : Int) = (u : Int) + 1 from by rw [HM.out]; omega]
          have un1 : (u : Int) < n := by have := HM.out; omega
          have GE := Lib.hid (show getF (M ++ [(l j, dpI M (l j).x.toNat + 1)]) ((u : Int) + 1) = frI (M ++ [(l j, dpI M (l j).x.toNat + 1)]) (u + 1) from by unfold getF; rw [if_pos (by rw [List.length_append, HM.out]; simp; omega), show ((u : Int) + 1).toNat = u + 1 by omega])
          have DE := Lib.hid (show decide ((0 : Int) ≤ (u : Int) + 1 ∧ (u : Int) + 1 < ((M ++ [(l j, dpI M (l j).x.toNat + 1)]).length : Nat)) = true from decide_eq_true (by rw [List.length_append, HM.out]; simp; omega))
          have FE := Lib.hid (show frI (M ++ [(l j, dpI M (l j).x.toNat + 1)]) (u + 1) = l j from by rw [frI_push, if_neg (by rw [HM.out]; omega), if_pos HM.out.symm])
          have LE := Lib.hid (show (M ++ [(l j, dpI M (l j).x.toNat + 1)]).length = u + 1 + 1 ∧ u + 1 ≤ n from ⟨by rw [List.length_append, HM.out]; rfl, by omega⟩)
          clear hnf hid hmay
          have H3 := Lib.hid hst
          clear hst H2 R2
          go_wp2_with fail
          refine (xlen H3.out).mono ?_
          rintro e w4 ⟨rfl, hst⟩
          rw [show (((M ++ [(l j, dpI M (l j).x.toNat + 1)]).length : Nat) : Int) - 1 = ((u : Int) + 1) from by rw [List.length_append, HM.out]; simp <;> omega]
          have H4 := Lib.hid hst
          clear hst H3
          go_wp2_with fail
          refine (xget ((u : Int) + 1) H4.out).mono ?_
          rintro e w5 ⟨rfl, hst⟩
          rw [GE.out, DE.out]
          have H5 := Lib.hid (hst.alloc (.cells (frC (frI (M ++ [(l j, dpI M (l j).x.toNat + 1)]) (u + 1))) 33))
          have R5 := Lib.hid (show (w5.alloc (.cells (frC (frI (M ++ [(l j, dpI M (l j).x.toNat + 1)]) (u + 1))) 33)).rangeAt bb (oo + j * 5) (frL (l j)) from fun i v hv => ((hst.alloc (.cells (frC (frI (M ++ [(l j, dpI M (l j).x.toNat + 1)]) (u + 1))) 33)).low.cell (p := ⟨bb, oo + j * 5 + i, none⟩) BBL.out).trans (RG.out i v hv))
          have X5 := Lib.hid (show BoxV 33 (w5.alloc (.cells (frC (frI (M ++ [(l j, dpI M (l j).x.toNat + 1)]) (u + 1))) 33)) w5.heap.size (frC (frI (M ++ [(l j, dpI M (l j).x.toNat + 1)]) (u + 1))) from BoxV.new w5 _)
          obtain ⟨g5, hg5⟩ : ∃ g, w5.heap.size = g := ⟨_, rfl⟩
          rw [hg5] at X5
          obtain ⟨w6, hw6⟩ : ∃ w6, w5.alloc (.cells (frC (frI (M ++ [(l j, dpI M (l j).x.toNat + 1)]) (u + 1))) 33) = w6 := ⟨_, rfl⟩
          rw [hw6] at H5 R5 X5
          clear hst H4
          go_wp2_with fail
          try rw [show w5.alloc _ = w6 from hw6]
          clear hw6
          have RB : w6.drew.rangeAt bb (oo + j * 5) (frL (l j)) := R5.out
          have XB : BoxV 33 w6.drew g5 (frC (frI (M ++ [(l j, dpI M (l j).x.toNat + 1)]) (u + 1))) := X5.out
          have hS : w6.drew = w6.drew := rfl
          refine wp_region_held_drew (S := (· = w6.drew)) (by kernel_rfl) hS (fun _ => ?_)
          refine takeAt 0 103 (.int .i64 0) rfl rfl (by kernel_rfl) (by kernel_rfl) (by kernel_rfl) (fun _ _ _ h => h) (yields (by rfl) (fun w => by kernel_rfl)) hS ?_
          simp only [Act.put, List.setIfInBounds_toArray, List.set_cons_zero, List.set_cons_succ]
          refine takeAt 1 104 (.bool true) rfl rfl (by kernel_rfl) (by kernel_rfl) (by kernel_rfl) (fun _ _ _ h => h) (yields (by rfl) (fun w => by kernel_rfl)) hS ?_
          simp only [Act.put, List.setIfInBounds_toArray, List.set_cons_zero, List.set_cons_succ]
          refine takeAt 2 105 (.bool true) rfl rfl (by kernel_rfl) (by kernel_rfl) (by kernel_rfl) (fun _ _ _ h => h) (yields (by rfl) (fun w => by kernel_rfl)) hS ?_
          simp only [Act.put, List.setIfInBounds_toArray, List.set_cons_zero, List.set_cons_succ]
          refine takeAt 3 106 (.bool true) rfl rfl (by kernel_rfl) (by kernel_rfl) (by kernel_rfl) (fun _ _ _ h => h) (yields (by rfl) (fun w => by kernel_rfl)) hS ?_
          simp only [Act.put, List.setIfInBounds_toArray, List.set_cons_zero, List.set_cons_succ]
          refine takeAt 4 107 (.bool false) rfl rfl (by kernel_rfl) (by kernel_rfl) (by kernel_rfl) (fun _ _ _ h => h) (yields (by rfl) (fun w => by kernel_rfl)) hS ?_
          simp only [Act.put, List.setIfInBounds_toArray, List.set_cons_zero, List.set_cons_succ]
          refine takeAt 5 108 (.bool false) rfl rfl (by kernel_rfl) (by kernel_rfl) (by kernel_rfl) (fun _ _ _ h => h) (yields (by rfl) (fun w => by kernel_rfl)) hS ?_
          simp only [Act.put, List.setIfInBounds_toArray, List.set_cons_zero, List.set_cons_succ]
          refine takeAt 6 109 (.agg (frC (frI (M ++ [(l j, dpI M (l j).x.toNat + 1)]) (u + 1)))) rfl rfl (by kernel_rfl) (by kernel_rfl) (by kernel_rfl) (fun _ _ _ h => h) (ldFm_y g5 0 (frI (M ++ [(l j, dpI M (l j).x.toNat + 1)]) (u + 1)) (fun _ h => by rw [h]; exact XB.fr) rfl rfl (by rfl)) hS ?_
          simp only [Act.put, List.setIfInBounds_toArray, List.set_cons_zero, List.set_cons_succ]
          refine takeAt 7 110 (.slice (some ⟨bb, oo, none⟩) N cap) rfl rfl (by kernel_rfl) (by kernel_rfl) (by kernel_rfl) (fun _ _ _ h => h) (yields (by rfl) (fun w => by kernel_rfl)) hS ?_
          simp only [Act.put, List.setIfInBounds_toArray, List.set_cons_zero, List.set_cons_succ]
          refine takeAt 8 111 (.int .i64 (j : Int)) rfl rfl (by kernel_rfl) (by kernel_rfl) (by kernel_rfl) (fun _ _ _ h => h) (yields (by rfl) (fun w => by kernel_rfl)) hS ?_
          simp only [Act.put, List.setIfInBounds_toArray, List.set_cons_zero, List.set_cons_succ]
          refine takeAt 9 112 (.pointer (some ⟨bb, oo + j * 5, none⟩)) rfl rfl (by kernel_rfl) (by kernel_rfl) (by kernel_rfl) (fun _ _ _ h => h) (Or.inl ⟨by rfl, fun u _ => by unfold execOp; go_simp⟩) hS ?_
          simp only [Act.put, List.setIfInBounds_toArray, List.set_cons_zero, List.set_cons_succ]
          refine takeAt 10 113 (.agg (frC (l j))) rfl rfl (by kernel_rfl) (by kernel_rfl) (by kernel_rfl) (fun _ _ _ h => h) (ldFm_y bb (oo + j * 5) (l j) (fun _ h => by rw [h]; exact RB) rfl rfl (by rfl)) hS ?_
          simp only [Act.put, List.setIfInBounds_toArray, List.set_cons_zero, List.set_cons_succ]
          refine takeAt 11 114 (.bool false) rfl rfl (by kernel_rfl) (by kernel_rfl) (by kernel_rfl) (fun _ _ _ h => h) (neqFr_y (frI (M ++ [(l j, dpI M (l j).x.toNat + 1)]) (u + 1)) (l j) false (by rw [FE.out]; simp) rfl rfl rfl (by rfl)) hS ?_
          simp only [Act.put, List.setIfInBounds_toArray, List.set_cons_zero, List.set_cons_succ]
          refine takeAt 12 115 (.bool false) rfl rfl (by kernel_rfl) (by kernel_rfl) (by kernel_rfl) (fun _ _ _ h => h) (yields (by rfl) (fun w => by kernel_rfl)) hS ?_
          simp only [Act.put, List.setIfInBounds_toArray, List.set_cons_zero, List.set_cons_succ]
          refine takeAt 13 116 (.bool false) rfl rfl (by kernel_rfl) (by kernel_rfl) (by kernel_rfl) (fun _ _ _ h => h) (yields (by rfl) (fun w => by kernel_rfl)) hS ?_
          simp only [Act.put, List.setIfInBounds_toArray, List.set_cons_zero, List.set_cons_succ]
          refine wpAnyH_done (by kernel_rfl) ?_ _
          clear hS RB XB
          go_wp2_with fail
          go_roundw
          case rel => exact ⟨j + 1, (M ++ [(l j, dpI M (l j).x.toNat + 1)]), u + 1, by go_num, by have := J4.out; omega, by have := JN.out; omega, H5.out.drew, LE.out.1, LE.out.2⟩
          case measure => simp [intOf]; have := J4.out; omega
      · have h40' : j = 40 := by omega
        subst h40'
        go_wp2_with fail
        refine (fixed_any wr).mono ?_
        rintro e w2 ⟨rfl, hB⟩
        have B2 := Lib.hid (thenB HS.out.low hB HS.out.low.size)
        clear hB
        go_wp2_with fail
        go_ret
        exact ⟨rfl, B2.out⟩
    · obtain rfl : j = N := by omega
      go_wp2_with fail
      refine (fixed_any wr).mono ?_
      rintro e w2 ⟨rfl, hB⟩
      have B2 := Lib.hid (thenB HS.out.low hB HS.out.low.size)
      clear hB
      go_wp2_with fail
      go_ret
      exact ⟨rfl, B2.out⟩
end Go.Proofs.Ytecfndpbgebpiaa
