/-
  The statement FrameDoes: its walk.
-/
import Derived.Test.YtecfndpbgebpiaaFrmTwo
namespace Go.Proofs.Ytecfndpbgebpiaa
open Go.RowKit

set_option maxRecDepth 100000 in
set_option maxHeartbeats 16000000 in
theorem frameDoes_walk (most : Int) (A : Option Addr) (N cap : Nat) (l : Nat → Fr) (z : Int) (w : World) (_hmi : I64 most) (hl : Frames w A N l) (_hz : I64 z) :
    Calls Try.prog 3 #[.int .i64 most, .slice A N cap, .int .i64 z] w fun e w' => e = .returned (.bool true) ∧ Below w.heap.size w w' := by
  have HLS := Lib.hid hl
  clear hl
  by_cases hm : 0 ≤ most ∧ most ≤ 1048576
  · have HM := Lib.hid hm
    clear hm
    go_enter Try.func3, Try.ntmps3
    go_wp2_with fail
    refine (xnew most w HM.out).mono ?_
    rintro e w1 ⟨p, m, rfl, hst⟩
    have H1 := Lib.hid hst
    clear hst
    go_wp2_with fail
    refine (dnew H1.out HM.out).mono ?_
    rintro e w2 ⟨q, rfl, hst⟩
    have H2 := Lib.hid hst
    clear hst H1
    go_wp2_with fail
    go_loopw [11] (fun i wr => ∃ (j : Nat) (M : List Pl), i = .int .i64 (j : Int) ∧ j ≤ 40 ∧ j ≤ N ∧ DX w wr p m q most M M ∧ M.length ≤ j + 1 ∧ (M.length : Int) - 1 ≤ most) (fun i _ => 40 - (intOf i).toNat)
    case atStart => exact ⟨0, [(zF, 0)], rfl, by omega, Nat.zero_le _, H2.out, Nat.le_refl _, HM.out.1⟩
    case round =>
      obtain ⟨j, M, rfl, hj40, hjN, hs, hML, hMR⟩ := hrel
      have HS := Lib.hid hs
      have HL := Lib.hid hML
      have HR := Lib.hid hMR
      have j0 : (0 : Int) ≤ j := by omega
      clear hs hML hMR
      by_cases hlt : j < N
      · by_cases h40 : j < 40
        · have jN : (j : Int) < N := by omega
          have j4 : (j : Int) < 40 := by omega
          have J4 := Lib.hid h40
          have JN := Lib.hid hlt
          obtain ⟨bb, oo, rfl, hbb, hrg, hi64⟩ := HLS.out j hlt
          have HI := Lib.hid hi64
          have BBL := Lib.hid hbb
          have RG := Lib.hid hrg
          have R0 := Lib.hid (show wr.rangeAt bb (oo + j * 5) (frL (l j)) from fun i v hv => (HS.out.low.cell (p := ⟨bb, oo + j * 5 + i, none⟩) BBL.out).trans (RG.out i v hv))
          clear hrg hi64 hbb h40 hlt hj40 hjN
          go_wp2_with (refine loadFr rfl _ rfl bb (oo + j * 5) (l j) rfl R0.out ?_)
          refine (dput (l j) HS.out HI.out (by have := HL.out; have := J4.out; omega)).mono ?_
          rintro e w3 ⟨rfl, hst⟩
          obtain ⟨id, hid⟩ : ∃ id : Nat, (putF most M (l j)).2.1 = id := ⟨_, rfl⟩
          obtain ⟨er, her⟩ : ∃ er : Int, (putF most M (l j)).2.2 = er := ⟨_, rfl⟩
          obtain ⟨M', hM'⟩ : ∃ M', (putF most M (l j)).1 = M' := ⟨_, rfl⟩
          have HE := Lib.hid (And.intro hid (And.intro her hM'))
          have HL2 := Lib.hid (show M'.length ≤ j + 1 + 1 ∧ (M'.length : Int) - 1 ≤ most from by
            rw [← hM']
            exact ⟨Nat.le_trans (put_len most M (l j)).2 (by have := HL.out; omega), DX.room HR.out⟩)
          rw [hid, her]
          rw [hM'] at hst
          have H3 := Lib.hid hst
          have R3 := Lib.hid (show w3.rangeAt bb (oo + j * 5) (frL (l j)) from fun i v hv => (hst.low.cell (p := ⟨bb, oo + j * 5 + i, none⟩) BBL.out).trans (RG.out i v hv))
          clear hst hid her hM' HS R0
          go_wp2_with (refine loadFr rfl _ rfl bb (oo + j * 5) (l j) rfl R3.out ?_)
          refine (ref_any (l j) w3).mono ?_
          rintro e w4 ⟨rfl, hB⟩
          have H4 := Lib.hid (H3.out.call hB)
          clear hB H3 R3
          go_wp2_with fail
          refine (drput (l j) H4.out HI.out HR.out (by have := HL.out; have := J4.out; omega)).mono ?_
          rintro e w5 ⟨rfl, hst⟩
          rw [HE.out.1, HE.out.2.1]
          rw [HE.out.2.2] at hst
          have H5 := Lib.hid hst
          clear hst H4 HE
          go_wp2_with fail
          refine (dget (id : Int) H5.out).mono ?_
          rintro e v6 ⟨rfl, hst⟩
          obtain ⟨fr, hfr⟩ : ∃ fr, getF M' (id : Int) = fr := ⟨_, rfl⟩
          obtain ⟨isv, hisv⟩ : ∃ b, decide (0 ≤ (id : Int) ∧ (id : Int) < (M'.length : Nat)) = b := ⟨_, rfl⟩
          have HFR := Lib.hid (And.intro hfr hisv)
          rw [hfr, hisv]
          obtain ⟨gx, hgx⟩ : ∃ g, v6.heap.size = g := ⟨_, rfl⟩
          obtain ⟨w6, hw6⟩ : ∃ w6, v6.alloc (.cells (frC fr) 33) = w6 := ⟨_, rfl⟩
          have H6 := Lib.hid (show DX w w6 p m q most M' M' from hw6 ▸ hst.call ((Below.refl _ v6).alloc (Nat.le_refl _) _))
          have X6 := Lib.hid (show BoxV 33 w6 gx (frC fr) from hgx ▸ hw6 ▸ BoxV.new v6 _)
          clear hst hfr hisv H5
          go_wp2_with fail
          clear hw6
          refine (drget (id : Int) H6.out).mono ?_
          rintro e v7 ⟨rfl, hB, hst⟩
          rw [HFR.out.1, HFR.out.2]
          obtain ⟨gy, hgy⟩ : ∃ g, v7.heap.size = g := ⟨_, rfl⟩
          obtain ⟨w7, hw7⟩ : ∃ w7, v7.alloc (.cells (frC fr) 35) = w7 := ⟨_, rfl⟩
          have H7 := Lib.hid (show DX w w7 p m q most M' M' from hw7 ▸ hst.call ((Below.refl _ v7).alloc (Nat.le_refl _) _))
          have X7 := Lib.hid (show BoxV 33 w7 gx (frC fr) from hw7 ▸ (X6.out.below hB X6.out.lt).alloc _)
          have Y7 := Lib.hid (show BoxV 35 w7 gy (frC fr) from hgy ▸ hw7 ▸ BoxV.new v7 _)
          clear hst hB H6 X6
          go_wp2_with fail
          clear hw7
          obtain ⟨b, c, hSt, hRf, -⟩ := H7.out.st
          have hx7 := X7.out
          have hy7 := Y7.out
          obtain ⟨kk, hq7, -⟩ := hRf.box
          have hS : Below w7.heap.size w7 w7.drew := (Below.refl _ w7).drew
          have hn1 := hRf.wf.len
          have hn2 : M'.length ≤ 1000000 := hRf.len
          refine wp_region_held_drew (S := Below w7.heap.size w7) (by kernel_rfl) hS (fun _ => ?_)
          refine takeAt 0 93 (.int .i64 (id : Int)) rfl rfl (by kernel_rfl) (by kernel_rfl) (by kernel_rfl) (fun _ _ _ h => h) (yields (by rfl) (fun w => by kernel_rfl)) hS ?_
          simp only [Act.put, List.setIfInBounds_toArray, List.set_cons_zero, List.set_cons_succ]
          refine takeAt 1 94 (.int .i64 (id : Int)) rfl rfl (by kernel_rfl) (by kernel_rfl) (by kernel_rfl) (fun _ _ _ h => h) (yields (by rfl) (fun w => by kernel_rfl)) hS ?_
          simp only [Act.put, List.setIfInBounds_toArray, List.set_cons_zero, List.set_cons_succ]
          refine takeAt 2 95 (.bool false) rfl rfl (by kernel_rfl) (by kernel_rfl) (by kernel_rfl) (fun _ _ _ h => h) (neqI_y (id : Int) rfl rfl rfl (by rfl)) hS ?_
          simp only [Act.put, List.setIfInBounds_toArray, List.set_cons_zero, List.set_cons_succ]
          refine takeAt 3 96 (.bool false) rfl rfl (by kernel_rfl) (by kernel_rfl) (by kernel_rfl) (fun _ _ _ h => h) (yields (by rfl) (fun w => by kernel_rfl)) hS ?_
          simp only [Act.put, List.setIfInBounds_toArray, List.set_cons_zero, List.set_cons_succ]
          refine takeAt 4 97 (.int .i64 er) rfl rfl (by kernel_rfl) (by kernel_rfl) (by kernel_rfl) (fun _ _ _ h => h) (yields (by rfl) (fun w => by kernel_rfl)) hS ?_
          simp only [Act.put, List.setIfInBounds_toArray, List.set_cons_zero, List.set_cons_succ]
          refine takeAt 5 98 (.int .i64 er) rfl rfl (by kernel_rfl) (by kernel_rfl) (by kernel_rfl) (fun _ _ _ h => h) (yields (by rfl) (fun w => by kernel_rfl)) hS ?_
          simp only [Act.put, List.setIfInBounds_toArray, List.set_cons_zero, List.set_cons_succ]
          refine takeAt 6 99 (.bool false) rfl rfl (by kernel_rfl) (by kernel_rfl) (by kernel_rfl) (fun _ _ _ h => h) (neqE_y er rfl rfl rfl (by rfl)) hS ?_
          simp only [Act.put, List.setIfInBounds_toArray, List.set_cons_zero, List.set_cons_succ]
          refine takeAt 7 100 (.bool false) rfl rfl (by kernel_rfl) (by kernel_rfl) (by kernel_rfl) (fun _ _ _ h => h) (yields (by rfl) (fun w => by kernel_rfl)) hS ?_
          simp only [Act.put, List.setIfInBounds_toArray, List.set_cons_zero, List.set_cons_succ]
          refine takeAt 8 101 (.bool false) rfl rfl (by kernel_rfl) (by kernel_rfl) (by kernel_rfl) (fun _ _ _ h => h) (yields (by rfl) (fun w => by kernel_rfl)) hS ?_
          simp only [Act.put, List.setIfInBounds_toArray, List.set_cons_zero, List.set_cons_succ]
          refine takeAt 9 102 (.agg (frC fr)) rfl rfl (by kernel_rfl) (by kernel_rfl) (by kernel_rfl) (fun _ _ _ h => h) (ldFm_y gx 0 fr (fun _ h => (hx7.below h hx7.lt).fr) rfl rfl (by rfl)) hS ?_
          simp only [Act.put, List.setIfInBounds_toArray, List.set_cons_zero, List.set_cons_succ]
          refine takeAt 11 104 (.agg (frC fr)) rfl rfl (by kernel_rfl) (by kernel_rfl) (by kernel_rfl) (fun _ _ _ h => h) (ldRr_y gy 0 fr (fun _ h => (hy7.below h hy7.lt).rr) rfl rfl (by rfl)) hS ?_
          simp only [Act.put, List.setIfInBounds_toArray, List.set_cons_zero, List.set_cons_succ]
          refine callAt 10 103 rfl rfl (by kernel_rfl) (by rfl) (by kernel_rfl) (ref_any fr _) ?_
          rintro e u1 ⟨rfl, hB⟩
          have hS1 := thenB hS hB hS.size
          clear hB
          refine ⟨_, rfl, hS1, ?_⟩
          simp only [Act.put, List.setIfInBounds_toArray, List.set_cons_zero, List.set_cons_succ]
          refine takeAt 12 105 (.bool false) rfl rfl (by kernel_rfl) (by kernel_rfl) (by kernel_rfl) (fun _ _ _ h => h) (neqRr_y fr rfl rfl rfl (by rfl)) hS1 ?_
          simp only [Act.put, List.setIfInBounds_toArray, List.set_cons_zero, List.set_cons_succ]
          refine takeAt 13 106 (.bool false) rfl rfl (by kernel_rfl) (by kernel_rfl) (by kernel_rfl) (fun _ _ _ h => h) (yields (by rfl) (fun w => by kernel_rfl)) hS1 ?_
          simp only [Act.put, List.setIfInBounds_toArray, List.set_cons_zero, List.set_cons_succ]
          refine takeAt 14 107 (.bool false) rfl rfl (by kernel_rfl) (by kernel_rfl) (by kernel_rfl) (fun _ _ _ h => h) (yields (by rfl) (fun w => by kernel_rfl)) hS1 ?_
          simp only [Act.put, List.setIfInBounds_toArray, List.set_cons_zero, List.set_cons_succ]
          refine takeAt 15 108 (.bool isv) rfl rfl (by kernel_rfl) (by kernel_rfl) (by kernel_rfl) (fun _ _ _ h => h) (yields (by rfl) (fun w => by kernel_rfl)) hS1 ?_
          simp only [Act.put, List.setIfInBounds_toArray, List.set_cons_zero, List.set_cons_succ]
          refine takeAt 16 109 (.bool isv) rfl rfl (by kernel_rfl) (by kernel_rfl) (by kernel_rfl) (fun _ _ _ h => h) (yields (by rfl) (fun w => by kernel_rfl)) hS1 ?_
          simp only [Act.put, List.setIfInBounds_toArray, List.set_cons_zero, List.set_cons_succ]
          refine takeAt 17 110 (.bool false) rfl rfl (by kernel_rfl) (by kernel_rfl) (by kernel_rfl) (fun _ _ _ h => h) (neqB_y isv rfl rfl rfl (by rfl)) hS1 ?_
          simp only [Act.put, List.setIfInBounds_toArray, List.set_cons_zero, List.set_cons_succ]
          refine takeAt 18 111 (.bool false) rfl rfl (by kernel_rfl) (by kernel_rfl) (by kernel_rfl) (fun _ _ _ h => h) (yields (by rfl) (fun w => by kernel_rfl)) hS1 ?_
          simp only [Act.put, List.setIfInBounds_toArray, List.set_cons_zero, List.set_cons_succ]
          refine takeAt 19 112 (.bool false) rfl rfl (by kernel_rfl) (by kernel_rfl) (by kernel_rfl) (fun _ _ _ h => h) (yields (by rfl) (fun w => by kernel_rfl)) hS1 ?_
          simp only [Act.put, List.setIfInBounds_toArray, List.set_cons_zero, List.set_cons_succ]
          refine takeAt 20 113 (ptr p) rfl rfl (by kernel_rfl) (by kernel_rfl) (by kernel_rfl) (fun _ _ _ h => h) (yields (by rfl) (fun w => by kernel_rfl)) hS1 ?_
          simp only [Act.put, List.setIfInBounds_toArray, List.set_cons_zero, List.set_cons_succ]
          refine takeAt 22 115 (ptr q) rfl rfl (by kernel_rfl) (by kernel_rfl) (by kernel_rfl) (fun _ _ _ h => h) (yields (by rfl) (fun w => by kernel_rfl)) hS1 ?_
          simp only [Act.put, List.setIfInBounds_toArray, List.set_cons_zero, List.set_cons_succ]
          refine takeAt 23 116 (ptr q) rfl rfl (by kernel_rfl) (by kernel_rfl) (by kernel_rfl) (fun _ _ _ h => h) (yields (by rfl) (fun w => by kernel_rfl)) hS1 ?_
          simp only [Act.put, List.setIfInBounds_toArray, List.set_cons_zero, List.set_cons_succ]
          refine takeAt 24 117 (.pointer (some ⟨q, 0, none⟩)) rfl rfl (by kernel_rfl) (by kernel_rfl) (by kernel_rfl) (fun _ _ _ h => h) (yields (by rfl) (fun w => by kernel_rfl)) hS1 ?_
          simp only [Act.put, List.setIfInBounds_toArray, List.set_cons_zero, List.set_cons_succ]
          refine takeAt 25 118 (slc c M'.length kk) rfl rfl (by kernel_rfl) (by kernel_rfl) (by kernel_rfl) (fun _ _ _ h => h) (ldSr_y q 0 _ _ _ (fun _ h => (hq7.below h hq7.lt).get 0 rfl) rfl rfl (by rfl)) hS1 ?_
          simp only [Act.put, List.setIfInBounds_toArray, List.set_cons_zero, List.set_cons_succ]
          refine takeAt 26 119 (.int .i64 (M'.length : Int)) rfl rfl (by kernel_rfl) (by kernel_rfl) (by kernel_rfl) (fun _ _ _ h => h) (yields (by rfl) (fun w => by kernel_rfl)) hS1 ?_
          simp only [Act.put, List.setIfInBounds_toArray, List.set_cons_zero, List.set_cons_succ]
          refine takeAt 27 120 (.int .i64 ((M'.length : Int) - 1)) rfl rfl (by kernel_rfl) (by kernel_rfl) (by kernel_rfl) (fun _ _ _ h => h) (subI_y M'.length hn1 hn2 rfl rfl rfl (by rfl)) hS1 ?_
          simp only [Act.put, List.setIfInBounds_toArray, List.set_cons_zero, List.set_cons_succ]
          refine callAt 21 114 rfl rfl (by kernel_rfl) (by rfl) (by kernel_rfl) (len_any p b m most M' _ (hSt.below hS1 (Nat.le_refl _))) ?_
          rintro e u2 ⟨rfl, hB⟩
          have hS2 := thenB hS1 hB hS1.size
          clear hB
          refine ⟨_, rfl, hS2, ?_⟩
          simp only [Act.put, List.setIfInBounds_toArray, List.set_cons_zero, List.set_cons_succ]
          refine takeAt 28 121 (.bool false) rfl rfl (by kernel_rfl) (by kernel_rfl) (by kernel_rfl) (fun _ _ _ h => h) (neqI_y ((M'.length : Int) - 1) rfl rfl rfl (by rfl)) hS2 ?_
          simp only [Act.put, List.setIfInBounds_toArray, List.set_cons_zero, List.set_cons_succ]
          refine takeAt 29 122 (.bool false) rfl rfl (by kernel_rfl) (by kernel_rfl) (by kernel_rfl) (fun _ _ _ h => h) (yields (by rfl) (fun w => by kernel_rfl)) hS2 ?_
          simp only [Act.put, List.setIfInBounds_toArray, List.set_cons_zero, List.set_cons_succ]
          refine takeAt 30 123 (.bool false) rfl rfl (by kernel_rfl) (by kernel_rfl) (by kernel_rfl) (fun _ _ _ h => h) (yields (by rfl) (fun w => by kernel_rfl)) hS2 ?_
          simp only [Act.put, List.setIfInBounds_toArray, List.set_cons_zero, List.set_cons_succ]
          refine takeAt 31 124 (ptr p) rfl rfl (by kernel_rfl) (by kernel_rfl) (by kernel_rfl) (fun _ _ _ h => h) (yields (by rfl) (fun w => by kernel_rfl)) hS2 ?_
          simp only [Act.put, List.setIfInBounds_toArray, List.set_cons_zero, List.set_cons_succ]
          refine takeAt 32 125 (.int .i64 (id : Int)) rfl rfl (by kernel_rfl) (by kernel_rfl) (by kernel_rfl) (fun _ _ _ h => h) (yields (by rfl) (fun w => by kernel_rfl)) hS2 ?_
          simp only [Act.put, List.setIfInBounds_toArray, List.set_cons_zero, List.set_cons_succ]
          refine takeAt 34 127 (ptr q) rfl rfl (by kernel_rfl) (by kernel_rfl) (by kernel_rfl) (fun _ _ _ h => h) (yields (by rfl) (fun w => by kernel_rfl)) hS2 ?_
          simp only [Act.put, List.setIfInBounds_toArray, List.set_cons_zero, List.set_cons_succ]
          refine takeAt 35 128 (.int .i64 (id : Int)) rfl rfl (by kernel_rfl) (by kernel_rfl) (by kernel_rfl) (fun _ _ _ h => h) (yields (by rfl) (fun w => by kernel_rfl)) hS2 ?_
          simp only [Act.put, List.setIfInBounds_toArray, List.set_cons_zero, List.set_cons_succ]
          refine callAt 33 126 rfl rfl (by kernel_rfl) (by rfl) (by kernel_rfl) (deep_any p b m most M' (id : Int) _ (hSt.below hS2 (Nat.le_refl _))) ?_
          rintro e u3 ⟨rfl, hB⟩
          have hS3 := thenB hS2 hB hS2.size
          clear hB
          refine ⟨_, rfl, hS3, ?_⟩
          simp only [Act.put, List.setIfInBounds_toArray, List.set_cons_zero, List.set_cons_succ]
          refine callAt 36 129 rfl rfl (by kernel_rfl) (by rfl) (by kernel_rfl) (rdeep_any q c most M' (id : Int).toNat (id : Int) _ (Nat.le_refl _) (hRf.below hS3 (Nat.le_refl _))) ?_
          rintro e u4 ⟨rfl, hB⟩
          have hS4 := thenB hS3 hB hS3.size
          clear hB
          refine ⟨_, rfl, hS4, ?_⟩
          simp only [Act.put, List.setIfInBounds_toArray, List.set_cons_zero, List.set_cons_succ]
          refine takeAt 37 130 (.bool false) rfl rfl (by kernel_rfl) (by kernel_rfl) (by kernel_rfl) (fun _ _ _ h => h) (neqI_y (dpF M' (id : Int) : Int) rfl rfl rfl (by rfl)) hS4 ?_
          simp only [Act.put, List.setIfInBounds_toArray, List.set_cons_zero, List.set_cons_succ]
          refine takeAt 38 131 (.bool false) rfl rfl (by kernel_rfl) (by kernel_rfl) (by kernel_rfl) (fun _ _ _ h => h) (yields (by rfl) (fun w => by kernel_rfl)) hS4 ?_
          simp only [Act.put, List.setIfInBounds_toArray, List.set_cons_zero, List.set_cons_succ]
          refine wpAnyH_done (by kernel_rfl) ?_ _
          have H8 := Lib.hid (H7.out.call hS4)
          clear hS hS1 hS2 hS3 hS4 hSt hRf hq7 hx7 hy7 hn1 hn2 H7 X7 Y7
          go_wp2_with fail
          go_roundw
          case rel => exact ⟨j + 1, M', by go_num, by have := J4.out; omega, by have := JN.out; omega, H8.out, HL2.out.1, HL2.out.2⟩
          case measure => simp [intOf]; have := J4.out; omega
        · have h40' : j = 40 := by omega
          subst h40'
          go_wp2_with fail
          refine (dget z HS.out).mono ?_
          rintro e v6 ⟨rfl, hst⟩
          obtain ⟨fr, hfr⟩ : ∃ fr, getF M z = fr := ⟨_, rfl⟩
          obtain ⟨isv, hisv⟩ : ∃ b, decide (0 ≤ z ∧ z < (M.length : Nat)) = b := ⟨_, rfl⟩
          have HFR := Lib.hid (And.intro hfr hisv)
          rw [hfr, hisv]
          obtain ⟨gx, hgx⟩ : ∃ g, v6.heap.size = g := ⟨_, rfl⟩
          obtain ⟨w6, hw6⟩ : ∃ w6, v6.alloc (.cells (frC fr) 33) = w6 := ⟨_, rfl⟩
          have H6 := Lib.hid (show DX w w6 p m q most M M from hw6 ▸ hst.call ((Below.refl _ v6).alloc (Nat.le_refl _) _))
          have X6 := Lib.hid (show BoxV 33 w6 gx (frC fr) from hgx ▸ hw6 ▸ BoxV.new v6 _)
          clear hst hfr hisv HS
          go_wp2_with fail
          clear hw6
          refine (drget z H6.out).mono ?_
          rintro e v7 ⟨rfl, hB, hst⟩
          rw [HFR.out.1, HFR.out.2]
          obtain ⟨gy, hgy⟩ : ∃ g, v7.heap.size = g := ⟨_, rfl⟩
          obtain ⟨w7, hw7⟩ : ∃ w7, v7.alloc (.cells (frC fr) 35) = w7 := ⟨_, rfl⟩
          have H7 := Lib.hid (show DX w w7 p m q most M M from hw7 ▸ hst.call ((Below.refl _ v7).alloc (Nat.le_refl _) _))
          have X7 := Lib.hid (show BoxV 33 w7 gx (frC fr) from hw7 ▸ (X6.out.below hB X6.out.lt).alloc _)
          have Y7 := Lib.hid (show BoxV 35 w7 gy (frC fr) from hgy ▸ hw7 ▸ BoxV.new v7 _)
          clear hst hB H6 X6
          go_wp2_with fail
          clear hw7
          obtain ⟨b, c, hSt, hRf, -⟩ := H7.out.st
          have hx7 := X7.out
          have hy7 := Y7.out
          have hS : Below w7.heap.size w7 w7.drew := (Below.refl _ w7).drew
          refine wp_region_held_drew (S := Below w7.heap.size w7) (by kernel_rfl) hS (fun _ => ?_)
          refine takeAt 0 155 (.agg (frC fr)) rfl rfl (by kernel_rfl) (by kernel_rfl) (by kernel_rfl) (fun _ _ _ h => h) (ldFm_y gx 0 fr (fun _ h => (hx7.below h hx7.lt).fr) rfl rfl (by rfl)) hS ?_
          simp only [Act.put, List.setIfInBounds_toArray, List.set_cons_zero, List.set_cons_succ]
          refine takeAt 2 157 (.agg (frC fr)) rfl rfl (by kernel_rfl) (by kernel_rfl) (by kernel_rfl) (fun _ _ _ h => h) (ldRr_y gy 0 fr (fun _ h => (hy7.below h hy7.lt).rr) rfl rfl (by rfl)) hS ?_
          simp only [Act.put, List.setIfInBounds_toArray, List.set_cons_zero, List.set_cons_succ]
          refine callAt 1 156 rfl rfl (by kernel_rfl) (by rfl) (by kernel_rfl) (ref_any fr _) ?_
          rintro e u1 ⟨rfl, hB⟩
          have hS1 := thenB hS hB hS.size
          clear hB
          refine ⟨_, rfl, hS1, ?_⟩
          simp only [Act.put, List.setIfInBounds_toArray, List.set_cons_zero, List.set_cons_succ]
          refine takeAt 3 158 (.bool true) rfl rfl (by kernel_rfl) (by kernel_rfl) (by kernel_rfl) (fun _ _ _ h => h) (eqRr_y fr fr true (by simp) rfl rfl rfl (by rfl)) hS1 ?_
          simp only [Act.put, List.setIfInBounds_toArray, List.set_cons_zero, List.set_cons_succ]
          refine takeAt 4 159 (.bool true) rfl rfl (by kernel_rfl) (by kernel_rfl) (by kernel_rfl) (fun _ _ _ h => h) (yields (by rfl) (fun w => by kernel_rfl)) hS1 ?_
          simp only [Act.put, List.setIfInBounds_toArray, List.set_cons_zero, List.set_cons_succ]
          refine takeAt 5 160 (.bool isv) rfl rfl (by kernel_rfl) (by kernel_rfl) (by kernel_rfl) (fun _ _ _ h => h) (yields (by rfl) (fun w => by kernel_rfl)) hS1 ?_
          simp only [Act.put, List.setIfInBounds_toArray, List.set_cons_zero, List.set_cons_succ]
          refine takeAt 6 161 (.bool isv) rfl rfl (by kernel_rfl) (by kernel_rfl) (by kernel_rfl) (fun _ _ _ h => h) (yields (by rfl) (fun w => by kernel_rfl)) hS1 ?_
          simp only [Act.put, List.setIfInBounds_toArray, List.set_cons_zero, List.set_cons_succ]
          refine takeAt 7 162 (.bool true) rfl rfl (by kernel_rfl) (by kernel_rfl) (by kernel_rfl) (fun _ _ _ h => h) (eqB_y isv rfl rfl rfl (by rfl)) hS1 ?_
          simp only [Act.put, List.setIfInBounds_toArray, List.set_cons_zero, List.set_cons_succ]
          refine takeAt 8 163 (.bool true) rfl rfl (by kernel_rfl) (by kernel_rfl) (by kernel_rfl) (fun _ _ _ h => h) (yields (by rfl) (fun w => by kernel_rfl)) hS1 ?_
          simp only [Act.put, List.setIfInBounds_toArray, List.set_cons_zero, List.set_cons_succ]
          refine takeAt 9 164 (.bool true) rfl rfl (by kernel_rfl) (by kernel_rfl) (by kernel_rfl) (fun _ _ _ h => h) (yields (by rfl) (fun w => by kernel_rfl)) hS1 ?_
          simp only [Act.put, List.setIfInBounds_toArray, List.set_cons_zero, List.set_cons_succ]
          refine takeAt 10 165 (ptr p) rfl rfl (by kernel_rfl) (by kernel_rfl) (by kernel_rfl) (fun _ _ _ h => h) (yields (by rfl) (fun w => by kernel_rfl)) hS1 ?_
          simp only [Act.put, List.setIfInBounds_toArray, List.set_cons_zero, List.set_cons_succ]
          refine takeAt 11 166 (.int .i64 z) rfl rfl (by kernel_rfl) (by kernel_rfl) (by kernel_rfl) (fun _ _ _ h => h) (yields (by rfl) (fun w => by kernel_rfl)) hS1 ?_
          simp only [Act.put, List.setIfInBounds_toArray, List.set_cons_zero, List.set_cons_succ]
          refine takeAt 13 168 (ptr q) rfl rfl (by kernel_rfl) (by kernel_rfl) (by kernel_rfl) (fun _ _ _ h => h) (yields (by rfl) (fun w => by kernel_rfl)) hS1 ?_
          simp only [Act.put, List.setIfInBounds_toArray, List.set_cons_zero, List.set_cons_succ]
          refine takeAt 14 169 (.int .i64 z) rfl rfl (by kernel_rfl) (by kernel_rfl) (by kernel_rfl) (fun _ _ _ h => h) (yields (by rfl) (fun w => by kernel_rfl)) hS1 ?_
          simp only [Act.put, List.setIfInBounds_toArray, List.set_cons_zero, List.set_cons_succ]
          refine callAt 12 167 rfl rfl (by kernel_rfl) (by rfl) (by kernel_rfl) (deep_any p b m most M z _ (hSt.below hS1 (Nat.le_refl _))) ?_
          rintro e u2 ⟨rfl, hB⟩
          have hS2 := thenB hS1 hB hS1.size
          clear hB
          refine ⟨_, rfl, hS2, ?_⟩
          simp only [Act.put, List.setIfInBounds_toArray, List.set_cons_zero, List.set_cons_succ]
          refine callAt 15 170 rfl rfl (by kernel_rfl) (by rfl) (by kernel_rfl) (rdeep_any q c most M z.toNat z _ (Nat.le_refl _) (hRf.below hS2 (Nat.le_refl _))) ?_
          rintro e u3 ⟨rfl, hB⟩
          have hS3 := thenB hS2 hB hS2.size
          clear hB
          refine ⟨_, rfl, hS3, ?_⟩
          simp only [Act.put, List.setIfInBounds_toArray, List.set_cons_zero, List.set_cons_succ]
          refine takeAt 16 171 (.bool true) rfl rfl (by kernel_rfl) (by kernel_rfl) (by kernel_rfl) (fun _ _ _ h => h) (eqI_y (dpF M z : Int) rfl rfl rfl (by rfl)) hS3 ?_
          simp only [Act.put, List.setIfInBounds_toArray, List.set_cons_zero, List.set_cons_succ]
          refine takeAt 17 172 (.bool true) rfl rfl (by kernel_rfl) (by kernel_rfl) (by kernel_rfl) (fun _ _ _ h => h) (yields (by rfl) (fun w => by kernel_rfl)) hS3 ?_
          simp only [Act.put, List.setIfInBounds_toArray, List.set_cons_zero, List.set_cons_succ]
          refine takeAt 18 173 (.bool true) rfl rfl (by kernel_rfl) (by kernel_rfl) (by kernel_rfl) (fun _ _ _ h => h) (yields (by rfl) (fun w => by kernel_rfl)) hS3 ?_
          simp only [Act.put, List.setIfInBounds_toArray, List.set_cons_zero, List.set_cons_succ]
          refine callAt 19 174 rfl rfl (by kernel_rfl) (by rfl) (by kernel_rfl) (fixed_any _) ?_
          rintro e u4 ⟨rfl, hB⟩
          have hS4 := thenB hS3 hB hS3.size
          clear hB
          refine ⟨_, rfl, hS4, ?_⟩
          simp only [Act.put, List.setIfInBounds_toArray, List.set_cons_zero, List.set_cons_succ]
          refine takeAt 20 175 (.bool true) rfl rfl (by kernel_rfl) (by kernel_rfl) (by kernel_rfl) (fun _ _ _ h => h) (yields (by rfl) (fun w => by kernel_rfl)) hS4 ?_
          simp only [Act.put, List.setIfInBounds_toArray, List.set_cons_zero, List.set_cons_succ]
          refine takeAt 21 6 (.bool true) rfl rfl (by kernel_rfl) (by kernel_rfl) (by kernel_rfl) (fun _ _ _ h => h) (yields (by rfl) (fun w => by kernel_rfl)) hS4 ?_
          simp only [Act.put, List.setIfInBounds_toArray, List.set_cons_zero, List.set_cons_succ]
          refine wpAnyH_done (by kernel_rfl) ?_ _
          have B8 := Lib.hid (H7.out.call hS4).low
          clear hS hS1 hS2 hS3 hS4 hSt hRf hx7 hy7 H7 X7 Y7
          go_wp2_with fail
          go_ret
          exact ⟨rfl, B8.out⟩
      · obtain rfl : j = N := by omega
        go_wp2_with fail
        refine (dget z HS.out).mono ?_
        rintro e v6 ⟨rfl, hst⟩
        obtain ⟨fr, hfr⟩ : ∃ fr, getF M z = fr := ⟨_, rfl⟩
        obtain ⟨isv, hisv⟩ : ∃ b, decide (0 ≤ z ∧ z < (M.length : Nat)) = b := ⟨_, rfl⟩
        have HFR := Lib.hid (And.intro hfr hisv)
        rw [hfr, hisv]
        obtain ⟨gx, hgx⟩ : ∃ g, v6.heap.size = g := ⟨_, rfl⟩
        obtain ⟨w6, hw6⟩ : ∃ w6, v6.alloc (.cells (frC fr) 33) = w6 := ⟨_, rfl⟩
        have H6 := Lib.hid (show DX w w6 p m q most M M from hw6 ▸ hst.call ((Below.refl _ v6).alloc (Nat.le_refl _) _))
        have X6 := Lib.hid (show BoxV 33 w6 gx (frC fr) from hgx ▸ hw6 ▸ BoxV.new v6 _)
        clear hst hfr hisv HS
        go_wp2_with fail
        clear hw6
        refine (drget z H6.out).mono ?_
        rintro e v7 ⟨rfl, hB, hst⟩
        rw [HFR.out.1, HFR.out.2]
        obtain ⟨gy, hgy⟩ : ∃ g, v7.heap.size = g := ⟨_, rfl⟩
        obtain ⟨w7, hw7⟩ : ∃ w7, v7.alloc (.cells (frC fr) 35) = w7 := ⟨_, rfl⟩
        have H7 := Lib.hid (show DX w w7 p m q most M M from hw7 ▸ hst.call ((Below.refl _ v7).alloc (Nat.le_refl _) _))
        have X7 := Lib.hid (show BoxV 33 w7 gx (frC fr) from hw7 ▸ (X6.out.below hB X6.out.lt).alloc _)
        have Y7 := Lib.hid (show BoxV 35 w7 gy (frC fr) from hgy ▸ hw7 ▸ BoxV.new v7 _)
        clear hst hB H6 X6
        go_wp2_with fail
        clear hw7
        obtain ⟨b, c, hSt, hRf, -⟩ := H7.out.st
        have hx7 := X7.out
        have hy7 := Y7.out
        have hS : Below w7.heap.size w7 w7.drew := (Below.refl _ w7).drew
        refine wp_region_held_drew (S := Below w7.heap.size w7) (by kernel_rfl) hS (fun _ => ?_)
        refine takeAt 0 155 (.agg (frC fr)) rfl rfl (by kernel_rfl) (by kernel_rfl) (by kernel_rfl) (fun _ _ _ h => h) (ldFm_y gx 0 fr (fun _ h => (hx7.below h hx7.lt).fr) rfl rfl (by rfl)) hS ?_
        simp only [Act.put, List.setIfInBounds_toArray, List.set_cons_zero, List.set_cons_succ]
        refine takeAt 2 157 (.agg (frC fr)) rfl rfl (by kernel_rfl) (by kernel_rfl) (by kernel_rfl) (fun _ _ _ h => h) (ldRr_y gy 0 fr (fun _ h => (hy7.below h hy7.lt).rr) rfl rfl (by rfl)) hS ?_
        simp only [Act.put, List.setIfInBounds_toArray, List.set_cons_zero, List.set_cons_succ]
        refine callAt 1 156 rfl rfl (by kernel_rfl) (by rfl) (by kernel_rfl) (ref_any fr _) ?_
        rintro e u1 ⟨rfl, hB⟩
        have hS1 := thenB hS hB hS.size
        clear hB
        refine ⟨_, rfl, hS1, ?_⟩
        simp only [Act.put, List.setIfInBounds_toArray, List.set_cons_zero, List.set_cons_succ]
        refine takeAt 3 158 (.bool true) rfl rfl (by kernel_rfl) (by kernel_rfl) (by kernel_rfl) (fun _ _ _ h => h) (eqRr_y fr fr true (by simp) rfl rfl rfl (by rfl)) hS1 ?_
        simp only [Act.put, List.setIfInBounds_toArray, List.set_cons_zero, List.set_cons_succ]
        refine takeAt 4 159 (.bool true) rfl rfl (by kernel_rfl) (by kernel_rfl) (by kernel_rfl) (fun _ _ _ h => h) (yields (by rfl) (fun w => by kernel_rfl)) hS1 ?_
        simp only [Act.put, List.setIfInBounds_toArray, List.set_cons_zero, List.set_cons_succ]
        refine takeAt 5 160 (.bool isv) rfl rfl (by kernel_rfl) (by kernel_rfl) (by kernel_rfl) (fun _ _ _ h => h) (yields (by rfl) (fun w => by kernel_rfl)) hS1 ?_
        simp only [Act.put, List.setIfInBounds_toArray, List.set_cons_zero, List.set_cons_succ]
        refine takeAt 6 161 (.bool isv) rfl rfl (by kernel_rfl) (by kernel_rfl) (by kernel_rfl) (fun _ _ _ h => h) (yields (by rfl) (fun w => by kernel_rfl)) hS1 ?_
        simp only [Act.put, List.setIfInBounds_toArray, List.set_cons_zero, List.set_cons_succ]
        refine takeAt 7 162 (.bool true) rfl rfl (by kernel_rfl) (by kernel_rfl) (by kernel_rfl) (fun _ _ _ h => h) (eqB_y isv rfl rfl rfl (by rfl)) hS1 ?_
        simp only [Act.put, List.setIfInBounds_toArray, List.set_cons_zero, List.set_cons_succ]
        refine takeAt 8 163 (.bool true) rfl rfl (by kernel_rfl) (by kernel_rfl) (by kernel_rfl) (fun _ _ _ h => h) (yields (by rfl) (fun w => by kernel_rfl)) hS1 ?_
        simp only [Act.put, List.setIfInBounds_toArray, List.set_cons_zero, List.set_cons_succ]
        refine takeAt 9 164 (.bool true) rfl rfl (by kernel_rfl) (by kernel_rfl) (by kernel_rfl) (fun _ _ _ h => h) (yields (by rfl) (fun w => by kernel_rfl)) hS1 ?_
        simp only [Act.put, List.setIfInBounds_toArray, List.set_cons_zero, List.set_cons_succ]
        refine takeAt 10 165 (ptr p) rfl rfl (by kernel_rfl) (by kernel_rfl) (by kernel_rfl) (fun _ _ _ h => h) (yields (by rfl) (fun w => by kernel_rfl)) hS1 ?_
        simp only [Act.put, List.setIfInBounds_toArray, List.set_cons_zero, List.set_cons_succ]
        refine takeAt 11 166 (.int .i64 z) rfl rfl (by kernel_rfl) (by kernel_rfl) (by kernel_rfl) (fun _ _ _ h => h) (yields (by rfl) (fun w => by kernel_rfl)) hS1 ?_
        simp only [Act.put, List.setIfInBounds_toArray, List.set_cons_zero, List.set_cons_succ]
        refine takeAt 13 168 (ptr q) rfl rfl (by kernel_rfl) (by kernel_rfl) (by kernel_rfl) (fun _ _ _ h => h) (yields (by rfl) (fun w => by kernel_rfl)) hS1 ?_
        simp only [Act.put, List.setIfInBounds_toArray, List.set_cons_zero, List.set_cons_succ]
        refine takeAt 14 169 (.int .i64 z) rfl rfl (by kernel_rfl) (by kernel_rfl) (by kernel_rfl) (fun _ _ _ h => h) (yields (by rfl) (fun w => by kernel_rfl)) hS1 ?_
        simp only [Act.put, List.setIfInBounds_toArray, List.set_cons_zero, List.set_cons_succ]
        refine callAt 12 167 rfl rfl (by kernel_rfl) (by rfl) (by kernel_rfl) (deep_any p b m most M z _ (hSt.below hS1 (Nat.le_refl _))) ?_
        rintro e u2 ⟨rfl, hB⟩
        have hS2 := thenB hS1 hB hS1.size
        clear hB
        refine ⟨_, rfl, hS2, ?_⟩
        simp only [Act.put, List.setIfInBounds_toArray, List.set_cons_zero, List.set_cons_succ]
        refine callAt 15 170 rfl rfl (by kernel_rfl) (by rfl) (by kernel_rfl) (rdeep_any q c most M z.toNat z _ (Nat.le_refl _) (hRf.below hS2 (Nat.le_refl _))) ?_
        rintro e u3 ⟨rfl, hB⟩
        have hS3 := thenB hS2 hB hS2.size
        clear hB
        refine ⟨_, rfl, hS3, ?_⟩
        simp only [Act.put, List.setIfInBounds_toArray, List.set_cons_zero, List.set_cons_succ]
        refine takeAt 16 171 (.bool true) rfl rfl (by kernel_rfl) (by kernel_rfl) (by kernel_rfl) (fun _ _ _ h => h) (eqI_y (dpF M z : Int) rfl rfl rfl (by rfl)) hS3 ?_
        simp only [Act.put, List.setIfInBounds_toArray, List.set_cons_zero, List.set_cons_succ]
        refine takeAt 17 172 (.bool true) rfl rfl (by kernel_rfl) (by kernel_rfl) (by kernel_rfl) (fun _ _ _ h => h) (yields (by rfl) (fun w => by kernel_rfl)) hS3 ?_
        simp only [Act.put, List.setIfInBounds_toArray, List.set_cons_zero, List.set_cons_succ]
        refine takeAt 18 173 (.bool true) rfl rfl (by kernel_rfl) (by kernel_rfl) (by kernel_rfl) (fun _ _ _ h => h) (yields (by rfl) (fun w => by kernel_rfl)) hS3 ?_
        simp only [Act.put, List.setIfInBounds_toArray, List.set_cons_zero, List.set_cons_succ]
        refine callAt 19 174 rfl rfl (by kernel_rfl) (by rfl) (by kernel_rfl) (fixed_any _) ?_
        rintro e u4 ⟨rfl, hB⟩
        have hS4 := thenB hS3 hB hS3.size
        clear hB
        refine ⟨_, rfl, hS4, ?_⟩
        simp only [Act.put, List.setIfInBounds_toArray, List.set_cons_zero, List.set_cons_succ]
        refine takeAt 20 175 (.bool true) rfl rfl (by kernel_rfl) (by kernel_rfl) (by kernel_rfl) (fun _ _ _ h => h) (yields (by rfl) (fun w => by kernel_rfl)) hS4 ?_
        simp only [Act.put, List.setIfInBounds_toArray, List.set_cons_zero, List.set_cons_succ]
        refine takeAt 21 6 (.bool true) rfl rfl (by kernel_rfl) (by kernel_rfl) (by kernel_rfl) (fun _ _ _ h => h) (yields (by rfl) (fun w => by kernel_rfl)) hS4 ?_
        simp only [Act.put, List.setIfInBounds_toArray, List.set_cons_zero, List.set_cons_succ]
        refine wpAnyH_done (by kernel_rfl) ?_ _
        have B8 := Lib.hid (H7.out.call hS4).low
        clear hS hS1 hS2 hS3 hS4 hSt hRf hx7 hy7 H7 X7 Y7
        go_wp2_with fail
        go_ret
        exact ⟨rfl, B8.out⟩
  · have HM := Lib.hid hm
    clear hm
    go_enter Try.func3, Try.ntmps3
    go_wp2_with fail
    refine (new_any most w).mono ?_
    rintro e w1 ⟨hB, ⟨h1, h2, -⟩ | ⟨-, rfl⟩⟩
    case inl => exact absurd ⟨h1, h2⟩ HM.out
    have B1 := Lib.hid hB
    clear hB
    go_wp2_with fail
    refine (rnew_any most w1).mono ?_
    rintro e w2 ⟨hB, ⟨h1, h2, -⟩ | ⟨-, rfl⟩⟩
    case inl => exact absurd ⟨h1, h2⟩ HM.out
    have B2 := Lib.hid (thenB B1.out hB B1.out.size)
    clear hB B1
    go_wp2_with fail
    go_loopw [11] (fun i wr => i = .int .i64 0 ∧ Below w.heap.size w wr) (fun i _ => 0)
    case atStart => exact ⟨rfl, B2.out⟩
    case round =>
      obtain ⟨rfl, hb⟩ := hrel
      have BB := Lib.hid hb
      clear hb
      go_wp2_with fail
      refine (fixed_any wr).mono ?_
      rintro e w3 ⟨rfl, hB⟩
      have B3 := Lib.hid (thenB BB.out hB BB.out.size)
      clear hB
      go_wp2_with fail
      go_ret
      exact ⟨rfl, B3.out⟩
end Go.Proofs.Ytecfndpbgebpiaa
