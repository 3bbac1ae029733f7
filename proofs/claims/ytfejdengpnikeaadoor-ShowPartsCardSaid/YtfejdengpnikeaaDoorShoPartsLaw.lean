/-
  Layer 8: the walk of the statement ShowParts.
-/
import Derived.Test.YtfejdengpnikeaaDoorShoPartsM
import Derived.Test.YtfejdengpnikeaaDoorAstTakes
namespace Go.Proofs.YtfejdengpnikeaaDoor.Ast
open Go.RowKit

theorem str_size {x : ByteArray} {n : Nat} (h : x.size + n ≤ 9000000) : ¬ x.size + n > 9223372036854775807 := by omega

set_option maxRecDepth 100000 in
set_option maxHeartbeats 32000000 in
theorem showParts_any (K : SortK) (A : Option Addr) (n cap : Nat) (l : Nat → Nd) (B : Option Addr) (n' cap' : Nat) (l' : Nat → Nd) (w : World) (hc : n ≤ cap) (hcap : cap ≤ 9223372036854775807) (h0 : A = none → n = 0 ∧ cap = 0) (hl : Nodes w A n l)
    (hc' : n' ≤ cap') (hcap' : cap' ≤ 9223372036854775807) (h0' : B = none → n' = 0 ∧ cap' = 0) (hl' : Nodes w B n' l') (hWa : LitOkS l n) (hWb : LitOkS l' n') (hw : TP w) :
    Calls Tryd.prog 3 #[.agg #[.slice A n cap], .agg #[.slice B n' cap']] w fun e w' => e = .returned (.bool true) ∧ Below w.heap.size w w' := by
  have HSN := Lib.hid (And.intro K.1 K.2)
  have HK := Lib.hid K
  have HT := Lib.hid hw
  have HWa := Lib.hid hWa
  have HWb := Lib.hid hWb
  have HL := Lib.hid hl
  have HL' := Lib.hid hl'
  clear K hl hl' hWa hWb hw
  have HM := Lib.hid (show A = none → min n 60 = 0 ∧ cap = 0 from fun h => by obtain ⟨h1, h2⟩ := h0 h; omega)
  have HM' := Lib.hid (show B = none → min n' 60 = 0 ∧ cap' = 0 from fun h => by obtain ⟨h1, h2⟩ := h0' h; omega)
  go_enter Tryd.func3, Tryd.ntmps3
  go_wp2_with fail
  refine (cut_any A n cap 60 _ hc hcap h0 (by omega)).mono ?_
  rintro e w1 ⟨rfl, hb⟩
  have HX := Lib.hid (show Below w.heap.size w (World.alloc (World.alloc w (.cells #[.slice A n cap] 24)) (.cells #[.slice B n' cap'] 24)) by go_grown)
  have HX1 := Lib.hid (show Below (World.alloc w (.cells #[.slice A n cap] 24)).heap.size (World.alloc w (.cells #[.slice A n cap] 24)) (World.alloc (World.alloc w (.cells #[.slice A n cap] 24)) (.cells #[.slice B n' cap'] 24)) by go_grown)
  have HT1 := Lib.hid (((TreeBox.new w A n cap).call HX1.out).call hb)
  have HU1 := Lib.hid (show TreeBox w1 (w.heap.size + 1) B n' cap' from (show TreeBox _ (w.heap.size + 1) B n' cap' by have h := TreeBox.new (World.alloc w (.cells #[.slice A n cap] 24)) B n' cap'; rw [World.size_alloc] at h; exact h).call hb)
  have HB1 := Lib.hid (thenB HX.out hb HX.out.size)
  have hz := HT1.out
  unfold TreeBox at hz
  have c2 := HT1.out.cell
  have fz := HT1.out.free
  have c3 := fun v => (HU1.out.other (k := w.heap.size) (by omega) v).cell
  clear hb HX HX1 h0
  have hm : min n 60 ≤ 60 := by omega
  have HL0 := Lib.hid (HL.out.take (min n 60) (by omega))
  have HLa : Hid (LitOkS l (min n 60)) := Lib.hid (fun i hi => HWa.out i (by omega))
  clear HWa
  generalize min n 60 = m at hm HL0 HM HLa ⊢
  go_wp2_with fail
  refine (cut_any B n' cap' 60 _ hc' hcap' h0' (by omega)).mono ?_
  rintro e w2 ⟨rfl, hb⟩
  have HB2 := Lib.hid (thenB (below_store HB1.out (Nat.le_refl _) (.slice A m cap)) hb (below_store HB1.out (Nat.le_refl _) (.slice A m cap)).size)
  have HT2 := Lib.hid ((HT1.out.store A m cap).call hb)
  have HU2 := Lib.hid ((HU1.out.other (k := w.heap.size) (by omega) (.slice A m cap)).call hb)
  clear hb hz c2 fz c3 HB1 HT1 HU1 h0'
  have hz := HU2.out
  unfold TreeBox at hz
  have c3 := HU2.out.cell
  have fz := HU2.out.free
  have c2 := fun v => (HT2.out.other (k := w.heap.size + 1) (by omega) v).cell
  have hm' : min n' 60 ≤ 60 := by omega
  have HL1 := Lib.hid (HL'.out.take (min n' 60) (by omega))
  have HLb : Hid (LitOkS l' (min n' 60)) := Lib.hid (fun i hi => HWb.out i (by omega))
  clear HWb
  generalize min n' 60 = k at hm' HL1 HM' HLb ⊢
  go_wp2_with fail
  have HB3 := Lib.hid (below_store HB2.out (show w.heap.size ≤ w.heap.size + 1 by omega) (.slice B k cap'))
  have HF0 := Lib.hid (show Duo w A m cap w.heap.size l B k cap' (w.heap.size + 1) l' _ from ⟨HB3.out, ⟨HT2.out.other (k := w.heap.size + 1) (by omega) (.slice B k cap'), HL0.out.below HB3.out (Nat.le_refl _)⟩, HU2.out.store B k cap', HL1.out.below HB3.out (Nat.le_refl _)⟩)
  clear HL HL' HL0 HL1 HB2 HT2 HU2 hz c2 c3 fz HB3
  rename_i K hK
  obtain ⟨U, hU⟩ : ∃ U, U = w2.setCell ⟨w.heap.size + 1, 0, none⟩ (.slice B k cap') := ⟨_, rfl⟩
  rw [← hU] at HF0 ⊢
  clear hU
  have hS : Duo w A m cap w.heap.size l B k cap' (w.heap.size + 1) l' U.drew := HF0.out.call (by go_grown)
  clear HF0
  refine wp_region_held_drew (S := Duo w A m cap w.heap.size l B k cap' (w.heap.size + 1) l') (by kernel_rfl) hS (fun _ => ?_)
  generalize U.drew = u0 at hS ⊢
  by_cases hra : rightZ l m = 0
  · have E1 := Lib.hid hra
    by_cases hrb : rightZ l' k = 0
    · have E2 := Lib.hid hrb
      obtain ⟨ga, hga⟩ : ∃ q, q = cntG l m := ⟨_, rfl⟩
      obtain ⟨gb, hgb⟩ : ∃ q, q = cntG l' k := ⟨_, rfl⟩
      have hga2 : ga ≤ m := by rw [hga]; exact cntG_le l m
      have hgb2 : gb ≤ k := by rw [hgb]; exact cntG_le l' k
      have G1 := Lib.hid hga
      have G2 := Lib.hid hgb
      clear hra hrb hga hgb
      by_cases hg0 : 0 < ga + gb
      · refine takeAt 0 11 (.agg #[.slice A (m) cap]) rfl rfl (by kernel_rfl) (by kernel_rfl) (by kernel_rfl) (fun _ _ _ h => h) (loadT_y (w.heap.size) A (m) cap (fun _ h => h.2.1.1) rfl rfl (by rfl)) hS ?_
        simp only [Act.put, List.setIfInBounds_toArray, List.set_cons_zero, List.set_cons_succ]
        refine callAt 1 12 rfl rfl (by kernel_rfl) (by rfl) (by kernel_rfl) (right_any HSN.out.1 HSN.out.2 A m cap l _ (by omega) hS.2.1.2) ?_
        rintro e w' ⟨rfl, hb'⟩
        have hSc1 := hS.call hb'
        refine ⟨_, rfl, hSc1, ?_⟩
        clear hS hb'
        rw [E1.out]
        simp only [Act.put, List.setIfInBounds_toArray, List.set_cons_zero, List.set_cons_succ]
        refine takeAt 2 13 (.bool false) rfl rfl (by kernel_rfl) (by kernel_rfl) (by kernel_rfl) (fun _ _ _ h => h) (neqE_y (m := 0) (n := 0) false (by simp) rfl rfl rfl (by rfl)) hSc1 ?_
        simp only [Act.put, List.setIfInBounds_toArray, List.set_cons_zero, List.set_cons_succ]
        refine takeAt 3 14 (.bool false) rfl rfl (by kernel_rfl) (by kernel_rfl) (by kernel_rfl) (fun _ _ _ h => h) (yields (by rfl) (fun w => by kernel_rfl)) hSc1 ?_
        simp only [Act.put, List.setIfInBounds_toArray, List.set_cons_zero, List.set_cons_succ]
        refine takeAt 4 15 (.agg #[.slice B (k) cap']) rfl rfl (by kernel_rfl) (by kernel_rfl) (by kernel_rfl) (fun _ _ _ h => h) (loadT_y (w.heap.size + 1) B (k) cap' (fun _ h => h.2.2.1) rfl rfl (by rfl)) hSc1 ?_
        simp only [Act.put, List.setIfInBounds_toArray, List.set_cons_zero, List.set_cons_succ]
        refine callAt 5 16 rfl rfl (by kernel_rfl) (by rfl) (by kernel_rfl) (right_any HSN.out.1 HSN.out.2 B k cap' l' _ (by omega) hSc1.2.2.2) ?_
        rintro e w' ⟨rfl, hb'⟩
        have hSc2 := hSc1.call hb'
        refine ⟨_, rfl, hSc2, ?_⟩
        clear hSc1 hb'
        rw [E2.out]
        simp only [Act.put, List.setIfInBounds_toArray, List.set_cons_zero, List.set_cons_succ]
        refine takeAt 6 17 (.bool false) rfl rfl (by kernel_rfl) (by kernel_rfl) (by kernel_rfl) (fun _ _ _ h => h) (neqE_y (m := 0) (n := 0) false (by simp) rfl rfl rfl (by rfl)) hSc2 ?_
        simp only [Act.put, List.setIfInBounds_toArray, List.set_cons_zero, List.set_cons_succ]
        refine takeAt 7 18 (.bool false) rfl rfl (by kernel_rfl) (by kernel_rfl) (by kernel_rfl) (fun _ _ _ h => h) (yields (by rfl) (fun w => by kernel_rfl)) hSc2 ?_
        simp only [Act.put, List.setIfInBounds_toArray, List.set_cons_zero, List.set_cons_succ]
        refine takeAt 8 19 (.bool false) rfl rfl (by kernel_rfl) (by kernel_rfl) (by kernel_rfl) (fun _ _ _ h => h) (yields (by rfl) (fun w => by kernel_rfl)) hSc2 ?_
        simp only [Act.put, List.setIfInBounds_toArray, List.set_cons_zero, List.set_cons_succ]
        refine takeAt 9 20 (.agg #[.slice A (m) cap]) rfl rfl (by kernel_rfl) (by kernel_rfl) (by kernel_rfl) (fun _ _ _ h => h) (loadT_y (w.heap.size) A (m) cap (fun _ h => h.2.1.1) rfl rfl (by rfl)) hSc2 ?_
        simp only [Act.put, List.setIfInBounds_toArray, List.set_cons_zero, List.set_cons_succ]
        refine takeAt 11 22 (.agg #[.slice B (k) cap']) rfl rfl (by kernel_rfl) (by kernel_rfl) (by kernel_rfl) (fun _ _ _ h => h) (loadT_y (w.heap.size + 1) B (k) cap' (fun _ h => h.2.2.1) rfl rfl (by rfl)) hSc2 ?_
        simp only [Act.put, List.setIfInBounds_toArray, List.set_cons_zero, List.set_cons_succ]
        refine callAt 10 21 rfl rfl (by kernel_rfl) (by rfl) (by kernel_rfl) (groups_any A m cap l _ (by omega) hSc2.2.1.2) ?_
        rintro e w' ⟨rfl, hb'⟩
        have hSc3 := hSc2.call hb'
        refine ⟨_, rfl, hSc3, ?_⟩
        clear hSc2 hb'
        rw [← G1.out]
        simp only [Act.put, List.setIfInBounds_toArray, List.set_cons_zero, List.set_cons_succ]
        as_aux_lemma =>
          refine callAt 12 23 rfl rfl (by kernel_rfl) (by rfl) (by kernel_rfl) (groups_any B k cap' l' _ (by omega) hSc3.2.2.2) ?_
          rintro e w' ⟨rfl, hb'⟩
          have hSc4 := hSc3.call hb'
          refine ⟨_, rfl, hSc4, ?_⟩
          clear hSc3 hb'
          rw [← G2.out]
          simp only [Act.put, List.setIfInBounds_toArray, List.set_cons_zero, List.set_cons_succ]
          refine takeAt 13 24 (.int .i64 (ga + gb : Nat)) rfl rfl (by kernel_rfl) (by kernel_rfl) (by kernel_rfl) (fun _ _ _ h => h) (addG_y (m := (ga : Nat)) (n := (gb : Nat)) (by omega) (by omega) (by omega) rfl rfl rfl (by rfl)) hSc4 ?_
          simp only [Act.put, List.setIfInBounds_toArray, List.set_cons_zero, List.set_cons_succ]
          refine takeAt 14 25 (.bool true) rfl rfl (by kernel_rfl) (by kernel_rfl) (by kernel_rfl) (fun _ _ _ h => h) (gtrI_y (m := (ga + gb : Nat)) (n := 0) true (by simp; omega) rfl rfl rfl (by rfl)) hSc4 ?_
          simp only [Act.put, List.setIfInBounds_toArray, List.set_cons_zero, List.set_cons_succ]
          refine takeAt 15 26 (.bool true) rfl rfl (by kernel_rfl) (by kernel_rfl) (by kernel_rfl) (fun _ _ _ h => h) (yields (by rfl) (fun w => by kernel_rfl)) hSc4 ?_
          simp only [Act.put, List.setIfInBounds_toArray, List.set_cons_zero, List.set_cons_succ]
          refine takeAt 16 27 (.bool true) rfl rfl (by kernel_rfl) (by kernel_rfl) (by kernel_rfl) (fun _ _ _ h => h) (yields (by rfl) (fun w => by kernel_rfl)) hSc4 ?_
          simp only [Act.put, List.setIfInBounds_toArray, List.set_cons_zero, List.set_cons_succ]
          refine takeAt 17 28 (undef) rfl rfl (by kernel_rfl) (by kernel_rfl) (by kernel_rfl) (fun _ _ _ h => h) (skipped (by rfl)) hSc4 ?_
          simp only [Act.put, List.setIfInBounds_toArray, List.set_cons_zero, List.set_cons_succ]
          refine takeAt 18 29 (undef) rfl rfl (by kernel_rfl) (by kernel_rfl) (by kernel_rfl) (fun _ _ _ h => h) (skipped (by rfl)) hSc4 ?_
          simp only [Act.put, List.setIfInBounds_toArray, List.set_cons_zero, List.set_cons_succ]
          refine takeAt 19 30 (undef) rfl rfl (by kernel_rfl) (by kernel_rfl) (by kernel_rfl) (fun _ _ _ h => h) (skipped (by rfl)) hSc4 ?_
          simp only [Act.put, List.setIfInBounds_toArray, List.set_cons_zero, List.set_cons_succ]
          refine takeAt 20 31 (undef) rfl rfl (by kernel_rfl) (by kernel_rfl) (by kernel_rfl) (fun _ _ _ h => h) (skipped (by rfl)) hSc4 ?_
          simp only [Act.put, List.setIfInBounds_toArray, List.set_cons_zero, List.set_cons_succ]
          refine takeAt 21 32 (undef) rfl rfl (by kernel_rfl) (by kernel_rfl) (by kernel_rfl) (fun _ _ _ h => h) (skipped (by rfl)) hSc4 ?_
          simp only [Act.put, List.setIfInBounds_toArray, List.set_cons_zero, List.set_cons_succ]
          refine takeAt 22 33 (undef) rfl rfl (by kernel_rfl) (by kernel_rfl) (by kernel_rfl) (fun _ _ _ h => h) (skipped (by rfl)) hSc4 ?_
          simp only [Act.put, List.setIfInBounds_toArray, List.set_cons_zero, List.set_cons_succ]
          refine takeAt 23 34 (.bool true) rfl rfl (by kernel_rfl) (by kernel_rfl) (by kernel_rfl) (fun _ _ _ h => h) (yields (by rfl) (fun w => by kernel_rfl)) hSc4 ?_
          simp only [Act.put, List.setIfInBounds_toArray, List.set_cons_zero, List.set_cons_succ]
          refine wpAnyH_done (by kernel_rfl) ?_ _
          refine hK _ _ ?_
          clear hK
          have HQ := Lib.hid hSc4
          clear hSc4
          go_wp2_with fail
          refine (fixed_any HK.out _ (HT.out.call HQ.out.1)).mono ?_
          rintro e w9 ⟨rfl, hb⟩
          have HZ := Lib.hid (HQ.out.call hb)
          clear hb HQ
          go_wp2_with fail
          go_ret
          exact ⟨rfl, HZ.out.1⟩
      · obtain ⟨x, hx⟩ : ∃ x, x = deepZ l m := ⟨_, rfl⟩
        obtain ⟨y, hy⟩ : ∃ y, y = deepZ l' k := ⟨_, rfl⟩
        have hx0 : x ≤ m := by rw [hx]; exact deep_le l m
        have hy0 : y ≤ k := by rw [hy]; exact deep_le l' k
        have D1 := Lib.hid hx
        have D2 := Lib.hid hy
        clear hx hy
        by_cases h40 : 40 ≤ max x y
        · refine takeAt 0 11 (.agg #[.slice A (m) cap]) rfl rfl (by kernel_rfl) (by kernel_rfl) (by kernel_rfl) (fun _ _ _ h => h) (loadT_y (w.heap.size) A (m) cap (fun _ h => h.2.1.1) rfl rfl (by rfl)) hS ?_
          simp only [Act.put, List.setIfInBounds_toArray, List.set_cons_zero, List.set_cons_succ]
          refine callAt 1 12 rfl rfl (by kernel_rfl) (by rfl) (by kernel_rfl) (right_any HSN.out.1 HSN.out.2 A m cap l _ (by omega) hS.2.1.2) ?_
          rintro e w' ⟨rfl, hb'⟩
          have hSc1 := hS.call hb'
          refine ⟨_, rfl, hSc1, ?_⟩
          clear hS hb'
          rw [E1.out]
          simp only [Act.put, List.setIfInBounds_toArray, List.set_cons_zero, List.set_cons_succ]
          refine takeAt 2 13 (.bool false) rfl rfl (by kernel_rfl) (by kernel_rfl) (by kernel_rfl) (fun _ _ _ h => h) (neqE_y (m := 0) (n := 0) false (by simp) rfl rfl rfl (by rfl)) hSc1 ?_
          simp only [Act.put, List.setIfInBounds_toArray, List.set_cons_zero, List.set_cons_succ]
          refine takeAt 3 14 (.bool false) rfl rfl (by kernel_rfl) (by kernel_rfl) (by kernel_rfl) (fun _ _ _ h => h) (yields (by rfl) (fun w => by kernel_rfl)) hSc1 ?_
          simp only [Act.put, List.setIfInBounds_toArray, List.set_cons_zero, List.set_cons_succ]
          refine takeAt 4 15 (.agg #[.slice B (k) cap']) rfl rfl (by kernel_rfl) (by kernel_rfl) (by kernel_rfl) (fun _ _ _ h => h) (loadT_y (w.heap.size + 1) B (k) cap' (fun _ h => h.2.2.1) rfl rfl (by rfl)) hSc1 ?_
          simp only [Act.put, List.setIfInBounds_toArray, List.set_cons_zero, List.set_cons_succ]
          refine callAt 5 16 rfl rfl (by kernel_rfl) (by rfl) (by kernel_rfl) (right_any HSN.out.1 HSN.out.2 B k cap' l' _ (by omega) hSc1.2.2.2) ?_
          rintro e w' ⟨rfl, hb'⟩
          have hSc2 := hSc1.call hb'
          refine ⟨_, rfl, hSc2, ?_⟩
          clear hSc1 hb'
          rw [E2.out]
          simp only [Act.put, List.setIfInBounds_toArray, List.set_cons_zero, List.set_cons_succ]
          refine takeAt 6 17 (.bool false) rfl rfl (by kernel_rfl) (by kernel_rfl) (by kernel_rfl) (fun _ _ _ h => h) (neqE_y (m := 0) (n := 0) false (by simp) rfl rfl rfl (by rfl)) hSc2 ?_
          simp only [Act.put, List.setIfInBounds_toArray, List.set_cons_zero, List.set_cons_succ]
          refine takeAt 7 18 (.bool false) rfl rfl (by kernel_rfl) (by kernel_rfl) (by kernel_rfl) (fun _ _ _ h => h) (yields (by rfl) (fun w => by kernel_rfl)) hSc2 ?_
          simp only [Act.put, List.setIfInBounds_toArray, List.set_cons_zero, List.set_cons_succ]
          refine takeAt 8 19 (.bool false) rfl rfl (by kernel_rfl) (by kernel_rfl) (by kernel_rfl) (fun _ _ _ h => h) (yields (by rfl) (fun w => by kernel_rfl)) hSc2 ?_
          simp only [Act.put, List.setIfInBounds_toArray, List.set_cons_zero, List.set_cons_succ]
          refine takeAt 9 20 (.agg #[.slice A (m) cap]) rfl rfl (by kernel_rfl) (by kernel_rfl) (by kernel_rfl) (fun _ _ _ h => h) (loadT_y (w.heap.size) A (m) cap (fun _ h => h.2.1.1) rfl rfl (by rfl)) hSc2 ?_
          simp only [Act.put, List.setIfInBounds_toArray, List.set_cons_zero, List.set_cons_succ]
          refine takeAt 11 22 (.agg #[.slice B (k) cap']) rfl rfl (by kernel_rfl) (by kernel_rfl) (by kernel_rfl) (fun _ _ _ h => h) (loadT_y (w.heap.size + 1) B (k) cap' (fun _ h => h.2.2.1) rfl rfl (by rfl)) hSc2 ?_
          simp only [Act.put, List.setIfInBounds_toArray, List.set_cons_zero, List.set_cons_succ]
          refine callAt 10 21 rfl rfl (by kernel_rfl) (by rfl) (by kernel_rfl) (groups_any A m cap l _ (by omega) hSc2.2.1.2) ?_
          rintro e w' ⟨rfl, hb'⟩
          have hSc3 := hSc2.call hb'
          refine ⟨_, rfl, hSc3, ?_⟩
          clear hSc2 hb'
          rw [← G1.out]
          simp only [Act.put, List.setIfInBounds_toArray, List.set_cons_zero, List.set_cons_succ]
          as_aux_lemma =>
            refine callAt 12 23 rfl rfl (by kernel_rfl) (by rfl) (by kernel_rfl) (groups_any B k cap' l' _ (by omega) hSc3.2.2.2) ?_
            rintro e w' ⟨rfl, hb'⟩
            have hSc4 := hSc3.call hb'
            refine ⟨_, rfl, hSc4, ?_⟩
            clear hSc3 hb'
            rw [← G2.out]
            simp only [Act.put, List.setIfInBounds_toArray, List.set_cons_zero, List.set_cons_succ]
            refine takeAt 13 24 (.int .i64 (ga + gb : Nat)) rfl rfl (by kernel_rfl) (by kernel_rfl) (by kernel_rfl) (fun _ _ _ h => h) (addG_y (m := (ga : Nat)) (n := (gb : Nat)) (by omega) (by omega) (by omega) rfl rfl rfl (by rfl)) hSc4 ?_
            simp only [Act.put, List.setIfInBounds_toArray, List.set_cons_zero, List.set_cons_succ]
            refine takeAt 14 25 (.bool false) rfl rfl (by kernel_rfl) (by kernel_rfl) (by kernel_rfl) (fun _ _ _ h => h) (gtrI_y (m := (ga + gb : Nat)) (n := 0) false (by simp; omega) rfl rfl rfl (by rfl)) hSc4 ?_
            simp only [Act.put, List.setIfInBounds_toArray, List.set_cons_zero, List.set_cons_succ]
            refine takeAt 15 26 (.bool false) rfl rfl (by kernel_rfl) (by kernel_rfl) (by kernel_rfl) (fun _ _ _ h => h) (yields (by rfl) (fun w => by kernel_rfl)) hSc4 ?_
            simp only [Act.put, List.setIfInBounds_toArray, List.set_cons_zero, List.set_cons_succ]
            refine takeAt 16 27 (.bool false) rfl rfl (by kernel_rfl) (by kernel_rfl) (by kernel_rfl) (fun _ _ _ h => h) (yields (by rfl) (fun w => by kernel_rfl)) hSc4 ?_
            simp only [Act.put, List.setIfInBounds_toArray, List.set_cons_zero, List.set_cons_succ]
            refine takeAt 17 28 (.agg #[.slice A (m) cap]) rfl rfl (by kernel_rfl) (by kernel_rfl) (by kernel_rfl) (fun _ _ _ h => h) (loadT_y (w.heap.size) A (m) cap (fun _ h => h.2.1.1) rfl rfl (by rfl)) hSc4 ?_
            simp only [Act.put, List.setIfInBounds_toArray, List.set_cons_zero, List.set_cons_succ]
            refine takeAt 19 30 (.agg #[.slice B (k) cap']) rfl rfl (by kernel_rfl) (by kernel_rfl) (by kernel_rfl) (fun _ _ _ h => h) (loadT_y (w.heap.size + 1) B (k) cap' (fun _ h => h.2.2.1) rfl rfl (by rfl)) hSc4 ?_
            simp only [Act.put, List.setIfInBounds_toArray, List.set_cons_zero, List.set_cons_succ]
            refine callAt 18 29 rfl rfl (by kernel_rfl) (by rfl) (by kernel_rfl) (deep_any A m cap l _ (by omega) hSc4.2.1.2) ?_
            rintro e w' ⟨rfl, hb'⟩
            have hSc5 := hSc4.call hb'
            refine ⟨_, rfl, hSc5, ?_⟩
            clear hSc4 hb'
            rw [← D1.out]
            simp only [Act.put, List.setIfInBounds_toArray, List.set_cons_zero, List.set_cons_succ]
            refine callAt 20 31 rfl rfl (by kernel_rfl) (by rfl) (by kernel_rfl) (deep_any B k cap' l' _ (by omega) hSc5.2.2.2) ?_
            rintro e w' ⟨rfl, hb'⟩
            have hSc6 := hSc5.call hb'
            refine ⟨_, rfl, hSc6, ?_⟩
            clear hSc5 hb'
            rw [← D2.out]
            simp only [Act.put, List.setIfInBounds_toArray, List.set_cons_zero, List.set_cons_succ]
            refine takeAt 21 32 (.int .i64 ((max x y : Nat) : Int)) rfl rfl (by kernel_rfl) (by kernel_rfl) (by kernel_rfl) (fun _ _ _ h => h) (maxI_y (by omega) rfl rfl rfl (by rfl)) hSc6 ?_
            simp only [Act.put, List.setIfInBounds_toArray, List.set_cons_zero, List.set_cons_succ]
            refine takeAt 22 33 (.bool true) rfl rfl (by kernel_rfl) (by kernel_rfl) (by kernel_rfl) (fun _ _ _ h => h) (geqI_y (m := ((max x y : Nat) : Int)) (n := 40) true (by simp only [decide_eq_true_eq]; omega) rfl rfl rfl (by rfl)) hSc6 ?_
            simp only [Act.put, List.setIfInBounds_toArray, List.set_cons_zero, List.set_cons_succ]
            refine takeAt 23 34 (.bool true) rfl rfl (by kernel_rfl) (by kernel_rfl) (by kernel_rfl) (fun _ _ _ h => h) (yields (by rfl) (fun w => by kernel_rfl)) hSc6 ?_
            simp only [Act.put, List.setIfInBounds_toArray, List.set_cons_zero, List.set_cons_succ]
            refine wpAnyH_done (by kernel_rfl) ?_ _
            refine hK _ _ ?_
            clear hK
            have HQ := Lib.hid hSc6
            clear hSc6
            go_wp2_with fail
            refine (fixed_any HK.out _ (HT.out.call HQ.out.1)).mono ?_
            rintro e w9 ⟨rfl, hb⟩
            have HZ := Lib.hid (HQ.out.call hb)
            clear hb HQ
            go_wp2_with fail
            go_ret
            exact ⟨rfl, HZ.out.1⟩
        · refine takeAt 0 11 (.agg #[.slice A (m) cap]) rfl rfl (by kernel_rfl) (by kernel_rfl) (by kernel_rfl) (fun _ _ _ h => h) (loadT_y (w.heap.size) A (m) cap (fun _ h => h.2.1.1) rfl rfl (by rfl)) hS ?_
          simp only [Act.put, List.setIfInBounds_toArray, List.set_cons_zero, List.set_cons_succ]
          refine callAt 1 12 rfl rfl (by kernel_rfl) (by rfl) (by kernel_rfl) (right_any HSN.out.1 HSN.out.2 A m cap l _ (by omega) hS.2.1.2) ?_
          rintro e w' ⟨rfl, hb'⟩
          have hSc1 := hS.call hb'
          refine ⟨_, rfl, hSc1, ?_⟩
          clear hS hb'
          rw [E1.out]
          simp only [Act.put, List.setIfInBounds_toArray, List.set_cons_zero, List.set_cons_succ]
          refine takeAt 2 13 (.bool false) rfl rfl (by kernel_rfl) (by kernel_rfl) (by kernel_rfl) (fun _ _ _ h => h) (neqE_y (m := 0) (n := 0) false (by simp) rfl rfl rfl (by rfl)) hSc1 ?_
          simp only [Act.put, List.setIfInBounds_toArray, List.set_cons_zero, List.set_cons_succ]
          refine takeAt 3 14 (.bool false) rfl rfl (by kernel_rfl) (by kernel_rfl) (by kernel_rfl) (fun _ _ _ h => h) (yields (by rfl) (fun w => by kernel_rfl)) hSc1 ?_
          simp only [Act.put, List.setIfInBounds_toArray, List.set_cons_zero, List.set_cons_succ]
          refine takeAt 4 15 (.agg #[.slice B (k) cap']) rfl rfl (by kernel_rfl) (by kernel_rfl) (by kernel_rfl) (fun _ _ _ h => h) (loadT_y (w.heap.size + 1) B (k) cap' (fun _ h => h.2.2.1) rfl rfl (by rfl)) hSc1 ?_
          simp only [Act.put, List.setIfInBounds_toArray, List.set_cons_zero, List.set_cons_succ]
          refine callAt 5 16 rfl rfl (by kernel_rfl) (by rfl) (by kernel_rfl) (right_any HSN.out.1 HSN.out.2 B k cap' l' _ (by omega) hSc1.2.2.2) ?_
          rintro e w' ⟨rfl, hb'⟩
          have hSc2 := hSc1.call hb'
          refine ⟨_, rfl, hSc2, ?_⟩
          clear hSc1 hb'
          rw [E2.out]
          simp only [Act.put, List.setIfInBounds_toArray, List.set_cons_zero, List.set_cons_succ]
          refine takeAt 6 17 (.bool false) rfl rfl (by kernel_rfl) (by kernel_rfl) (by kernel_rfl) (fun _ _ _ h => h) (neqE_y (m := 0) (n := 0) false (by simp) rfl rfl rfl (by rfl)) hSc2 ?_
          simp only [Act.put, List.setIfInBounds_toArray, List.set_cons_zero, List.set_cons_succ]
          refine takeAt 7 18 (.bool false) rfl rfl (by kernel_rfl) (by kernel_rfl) (by kernel_rfl) (fun _ _ _ h => h) (yields (by rfl) (fun w => by kernel_rfl)) hSc2 ?_
          simp only [Act.put, List.setIfInBounds_toArray, List.set_cons_zero, List.set_cons_succ]
          refine takeAt 8 19 (.bool false) rfl rfl (by kernel_rfl) (by kernel_rfl) (by kernel_rfl) (fun _ _ _ h => h) (yields (by rfl) (fun w => by kernel_rfl)) hSc2 ?_
          simp only [Act.put, List.setIfInBounds_toArray, List.set_cons_zero, List.set_cons_succ]
          refine takeAt 9 20 (.agg #[.slice A (m) cap]) rfl rfl (by kernel_rfl) (by kernel_rfl) (by kernel_rfl) (fun _ _ _ h => h) (loadT_y (w.heap.size) A (m) cap (fun _ h => h.2.1.1) rfl rfl (by rfl)) hSc2 ?_
          simp only [Act.put, List.setIfInBounds_toArray, List.set_cons_zero, List.set_cons_succ]
          refine takeAt 11 22 (.agg #[.slice B (k) cap']) rfl rfl (by kernel_rfl) (by kernel_rfl) (by kernel_rfl) (fun _ _ _ h => h) (loadT_y (w.heap.size + 1) B (k) cap' (fun _ h => h.2.2.1) rfl rfl (by rfl)) hSc2 ?_
          simp only [Act.put, List.setIfInBounds_toArray, List.set_cons_zero, List.set_cons_succ]
          refine callAt 10 21 rfl rfl (by kernel_rfl) (by rfl) (by kernel_rfl) (groups_any A m cap l _ (by omega) hSc2.2.1.2) ?_
          rintro e w' ⟨rfl, hb'⟩
          have hSc3 := hSc2.call hb'
          refine ⟨_, rfl, hSc3, ?_⟩
          clear hSc2 hb'
          rw [← G1.out]
          simp only [Act.put, List.setIfInBounds_toArray, List.set_cons_zero, List.set_cons_succ]
          as_aux_lemma =>
            refine callAt 12 23 rfl rfl (by kernel_rfl) (by rfl) (by kernel_rfl) (groups_any B k cap' l' _ (by omega) hSc3.2.2.2) ?_
            rintro e w' ⟨rfl, hb'⟩
            have hSc4 := hSc3.call hb'
            refine ⟨_, rfl, hSc4, ?_⟩
            clear hSc3 hb'
            rw [← G2.out]
            simp only [Act.put, List.setIfInBounds_toArray, List.set_cons_zero, List.set_cons_succ]
            refine takeAt 13 24 (.int .i64 (ga + gb : Nat)) rfl rfl (by kernel_rfl) (by kernel_rfl) (by kernel_rfl) (fun _ _ _ h => h) (addG_y (m := (ga : Nat)) (n := (gb : Nat)) (by omega) (by omega) (by omega) rfl rfl rfl (by rfl)) hSc4 ?_
            simp only [Act.put, List.setIfInBounds_toArray, List.set_cons_zero, List.set_cons_succ]
            refine takeAt 14 25 (.bool false) rfl rfl (by kernel_rfl) (by kernel_rfl) (by kernel_rfl) (fun _ _ _ h => h) (gtrI_y (m := (ga + gb : Nat)) (n := 0) false (by simp; omega) rfl rfl rfl (by rfl)) hSc4 ?_
            simp only [Act.put, List.setIfInBounds_toArray, List.set_cons_zero, List.set_cons_succ]
            refine takeAt 15 26 (.bool false) rfl rfl (by kernel_rfl) (by kernel_rfl) (by kernel_rfl) (fun _ _ _ h => h) (yields (by rfl) (fun w => by kernel_rfl)) hSc4 ?_
            simp only [Act.put, List.setIfInBounds_toArray, List.set_cons_zero, List.set_cons_succ]
            refine takeAt 16 27 (.bool false) rfl rfl (by kernel_rfl) (by kernel_rfl) (by kernel_rfl) (fun _ _ _ h => h) (yields (by rfl) (fun w => by kernel_rfl)) hSc4 ?_
            simp only [Act.put, List.setIfInBounds_toArray, List.set_cons_zero, List.set_cons_succ]
            refine takeAt 17 28 (.agg #[.slice A (m) cap]) rfl rfl (by kernel_rfl) (by kernel_rfl) (by kernel_rfl) (fun _ _ _ h => h) (loadT_y (w.heap.size) A (m) cap (fun _ h => h.2.1.1) rfl rfl (by rfl)) hSc4 ?_
            simp only [Act.put, List.setIfInBounds_toArray, List.set_cons_zero, List.set_cons_succ]
            refine takeAt 19 30 (.agg #[.slice B (k) cap']) rfl rfl (by kernel_rfl) (by kernel_rfl) (by kernel_rfl) (fun _ _ _ h => h) (loadT_y (w.heap.size + 1) B (k) cap' (fun _ h => h.2.2.1) rfl rfl (by rfl)) hSc4 ?_
            simp only [Act.put, List.setIfInBounds_toArray, List.set_cons_zero, List.set_cons_succ]
            refine callAt 18 29 rfl rfl (by kernel_rfl) (by rfl) (by kernel_rfl) (deep_any A m cap l _ (by omega) hSc4.2.1.2) ?_
            rintro e w' ⟨rfl, hb'⟩
            have hSc5 := hSc4.call hb'
            refine ⟨_, rfl, hSc5, ?_⟩
            clear hSc4 hb'
            rw [← D1.out]
            simp only [Act.put, List.setIfInBounds_toArray, List.set_cons_zero, List.set_cons_succ]
            refine callAt 20 31 rfl rfl (by kernel_rfl) (by rfl) (by kernel_rfl) (deep_any B k cap' l' _ (by omega) hSc5.2.2.2) ?_
            rintro e w' ⟨rfl, hb'⟩
            have hSc6 := hSc5.call hb'
            refine ⟨_, rfl, hSc6, ?_⟩
            clear hSc5 hb'
            rw [← D2.out]
            simp only [Act.put, List.setIfInBounds_toArray, List.set_cons_zero, List.set_cons_succ]
            refine takeAt 21 32 (.int .i64 ((max x y : Nat) : Int)) rfl rfl (by kernel_rfl) (by kernel_rfl) (by kernel_rfl) (fun _ _ _ h => h) (maxI_y (by omega) rfl rfl rfl (by rfl)) hSc6 ?_
            simp only [Act.put, List.setIfInBounds_toArray, List.set_cons_zero, List.set_cons_succ]
            refine takeAt 22 33 (.bool false) rfl rfl (by kernel_rfl) (by kernel_rfl) (by kernel_rfl) (fun _ _ _ h => h) (geqI_y (m := ((max x y : Nat) : Int)) (n := 40) false (by simp only [decide_eq_false_iff_not]; omega) rfl rfl rfl (by rfl)) hSc6 ?_
            simp only [Act.put, List.setIfInBounds_toArray, List.set_cons_zero, List.set_cons_succ]
            refine takeAt 23 34 (.bool false) rfl rfl (by kernel_rfl) (by kernel_rfl) (by kernel_rfl) (fun _ _ _ h => h) (yields (by rfl) (fun w => by kernel_rfl)) hSc6 ?_
            simp only [Act.put, List.setIfInBounds_toArray, List.set_cons_zero, List.set_cons_succ]
            refine wpAnyH_done (by kernel_rfl) ?_ _
            refine hK _ _ ?_
            clear hK
            have HQ0 := Lib.hid hSc6
            clear hSc6
            have gx2 : deepZ l m < 40 := by rw [← D1.out]; omega
            have gy2 : deepZ l' k < 40 := by rw [← D2.out]; omega
            have gg : cntG l m + cntG l' k = 0 := by rw [← G1.out, ← G2.out]; omega
            have ga0 : cntG l m = 0 := by omega
            have RJ := right_alt E1.out E2.out gg gx2 gy2 hm hm'
            have RG := right_grouped E1.out ga0 gx2 hm
            have RN := right_ahead E1.out ga0 gx2 hm
            obtain ⟨hm0, hms, -⟩ := whole8 E1.out
            obtain ⟨hk0, hks, -⟩ := whole8 E2.out
            have SJ := show_joined (la := l) (lb := l') (by omega) (by omega) hm0 hk0 hms hks
            have SG := show_around (l := l) (x := nd8 11 1) (by decide) (by decide) hm0 hms
            have SN := show_around (l := l) (x := nd8 14 0) (by decide) (by decide) hm0 hms
            have sza := show_size (l := l) m m (Nat.le_refl _) (by omega)
            have szb := show_size (l := l') k k (Nat.le_refl _) (by omega)
            obtain ⟨a, ha⟩ : ∃ a, a = showT l m := ⟨_, rfl⟩
            obtain ⟨b, hb⟩ : ∃ b, b = showT l' k := ⟨_, rfl⟩
            rw [← ha] at SJ SG SN sza
            rw [← hb] at SJ szb
            have sa : a.size ≤ 180000 := by omega
            have sb : b.size ≤ 180000 := by omega
            have HA := Lib.hid (fun A cap w h t => show_at HK.out m l a (by omega) E1.out ha.symm HLa.out (like_backs E1.out) A cap w h t)
            have HBt := Lib.hid (fun A cap w h t => show_at HK.out k l' b (by omega) E2.out hb.symm HLb.out (like_backs E2.out) A cap w h t)
            have HJ := Lib.hid (fun A cap w h t => show_at HK.out (m + k + 1) (joinL l m l' k 9) _ (by omega) RJ SJ (lit_joined HLa.out HLb.out) (like_backs RJ) A cap w h t)
            have HG := Lib.hid (fun A cap w h t => show_at HK.out (m + 1) (wrapL l m (nd8 11 1)) _ (by omega) RG SG (lit_around HLa.out (by decide)) (like_backs RG) A cap w h t)
            have HN := Lib.hid (fun A cap w h t => show_at HK.out (m + 1) (wrapL l m (nd8 14 0)) _ (by omega) RN SN (lit_around HLa.out (by decide)) (like_backs RN) A cap w h t)
            obtain ⟨X, hX⟩ : ∃ X, X = inB (is9 (l' (k - 1)).k) b := ⟨_, rfl⟩
            rw [← hX] at HJ
            have HX := Lib.hid hX
            clear gx2 gy2 gg ga0 E1 E2 G1 G2 D1 D2 hg0 h40 hga2 hgb2 hx0 hy0 RJ RG RN SJ SG SN ha hb sza szb HLa HLb hX hms hks
            have c2 := HQ0.out.2.1.1.cell
            have c3 := HQ0.out.2.2.1.cell
            go_wp2_with fail
            rename_i K hK
            have hT : Duo w A m cap w.heap.size l B k cap' (w.heap.size + 1) l' (World.drew w') := HQ0.out.call (by go_grown)
            clear HQ0 c2 c3
            refine wp_region_held_drew (S := Duo w A m cap w.heap.size l B k cap' (w.heap.size + 1) l') (by kernel_rfl) hT (fun _ => ?_)
            generalize World.drew w' = v0 at hT ⊢
            refine takeAt 0 36 (.agg #[.slice A (m) cap]) rfl rfl (by kernel_rfl) (by kernel_rfl) (by kernel_rfl) (fun _ _ _ h => h) (loadT_y (w.heap.size) A (m) cap (fun _ h => h.2.1.1) rfl rfl (by rfl)) hT ?_
            simp only [Act.put, List.setIfInBounds_toArray, List.set_cons_zero, List.set_cons_succ]
            refine takeAt 2 38 (.agg #[.slice B (k) cap']) rfl rfl (by kernel_rfl) (by kernel_rfl) (by kernel_rfl) (fun _ _ _ h => h) (loadT_y (w.heap.size + 1) B (k) cap' (fun _ h => h.2.2.1) rfl rfl (by rfl)) hT ?_
            simp only [Act.put, List.setIfInBounds_toArray, List.set_cons_zero, List.set_cons_succ]
            refine callAt 1 37 rfl rfl (by kernel_rfl) (by rfl) (by kernel_rfl) (HA.out A cap _ hT.2.1.2 (HT.out.call hT.1)) ?_
            rintro e w' ⟨rfl, hb'⟩
            have hTc1 := hT.call hb'
            refine ⟨_, rfl, hTc1, ?_⟩
            clear hT hb'
            simp only [Act.put, List.setIfInBounds_toArray, List.set_cons_zero, List.set_cons_succ]
            refine callAt 3 39 rfl rfl (by kernel_rfl) (by rfl) (by kernel_rfl) (HBt.out B cap' _ hTc1.2.2.2 (HT.out.call hTc1.1)) ?_
            rintro e w' ⟨rfl, hb'⟩
            have hTc2 := hTc1.call hb'
            refine ⟨_, rfl, hTc2, ?_⟩
            clear hTc1 hb'
            simp only [Act.put, List.setIfInBounds_toArray, List.set_cons_zero, List.set_cons_succ]
            refine takeAt 4 5 (.string a) rfl rfl (by kernel_rfl) (by kernel_rfl) (by kernel_rfl) (fun _ _ _ h => h) (yields (by rfl) (fun w => by kernel_rfl)) hTc2 ?_
            simp only [Act.put, List.setIfInBounds_toArray, List.set_cons_zero, List.set_cons_succ]
            refine takeAt 5 6 (.string b) rfl rfl (by kernel_rfl) (by kernel_rfl) (by kernel_rfl) (fun _ _ _ h => h) (yields (by rfl) (fun w => by kernel_rfl)) hTc2 ?_
            simp only [Act.put, List.setIfInBounds_toArray, List.set_cons_zero, List.set_cons_succ]
            refine wpAnyH_done (by kernel_rfl) ?_ _
            refine hK _ _ ?_
            clear hK
            have HQ := Lib.hid hTc2
            clear hTc2
            obtain ⟨bb, oo, rfl, hbw, hx⟩ := HQ.out.2.2.2 (k - 1) (by omega)
            have cx := hx.1
            have q1 : (k : Int) - 1 = ((k - 1 : Nat) : Int) := by omega
            have c3 := HQ.out.2.2.1.cell
            clear hx hbw
            by_cases h9 : (l' (k - 1)).k = 9
            · rw [h9] at cx
              have hX : X = (⟨#[40, 63, 58]⟩ ++ b) ++ ⟨#[41]⟩ := by rw [HX.out, h9]; rfl
              have s4 : ¬ a.size + 1 + (3 + b.size + 1) > 9223372036854775807 := by omega
              subst hX
              clear h9 HX
              have c2 := HQ.out.2.1.1.cell
              have s1 : ¬ 3 + b.size > 9223372036854775807 := by omega
              have s2 : ¬ 3 + b.size + 1 > 9223372036854775807 := by omega
              have s3 : ¬ a.size + 1 > 9223372036854775807 := by omega
              have s5 : ¬ 1 + a.size > 9223372036854775807 := by omega
              have s6 : ¬ 1 + a.size + 1 > 9223372036854775807 := by omega
              have s7 : ¬ 3 + a.size > 9223372036854775807 := by omega
              have s8 : ¬ 3 + a.size + 1 > 9223372036854775807 := by omega
              go_wp2_with fail
              refine (join_any A m cap l _ k cap' l' 9 _ (by omega) (by omega) HM.out HM'.out HQ.out.2.1.2 HQ.out.2.2.2).mono ?_
              rintro e y1 hr
              obtain ⟨J1, j1, rfl, hn, -, hb⟩ := tree_made hr (by omega)
              clear hr
              replace HQ := Lib.hid (HQ.out.call hb)
              clear hb c2 c3
              have HM1 := Lib.hid hn
              clear hn
              go_wp2_with fail
              refine (HJ.out J1 j1 _ HM1.out (HT.out.call HQ.out.1)).mono ?_
              rintro e z1 ⟨rfl, hb⟩
              replace HQ := Lib.hid (HQ.out.call hb)
              clear hb HM1
              have c2 := HQ.out.2.1.1.cell
              have c3 := HQ.out.2.2.1.cell
              go_wp2_with fail
              refine (wrap_any A m cap l (nd8 11 1) _ (by omega) HM.out HQ.out.2.1.2).mono ?_
              rintro e y2 hr
              obtain ⟨J2, j2, rfl, hn, -, hb⟩ := tree_made hr (by omega)
              clear hr
              replace HQ := Lib.hid (HQ.out.call hb)
              clear hb c2 c3
              have HM2 := Lib.hid hn
              clear hn
              go_wp2_with fail
              refine (HG.out J2 j2 _ HM2.out (HT.out.call HQ.out.1)).mono ?_
              rintro e z2 ⟨rfl, hb⟩
              replace HQ := Lib.hid (HQ.out.call hb)
              clear hb HM2
              have c2 := HQ.out.2.1.1.cell
              have c3 := HQ.out.2.2.1.cell
              go_wp2_with fail
              refine (wrap_any A m cap l (nd8 14 0) _ (by omega) HM.out HQ.out.2.1.2).mono ?_
              rintro e y3 hr
              obtain ⟨J3, j3, rfl, hn, -, hb⟩ := tree_made hr (by omega)
              clear hr
              replace HQ := Lib.hid (HQ.out.call hb)
              clear hb c2 c3
              have HM3 := Lib.hid hn
              clear hn
              go_wp2_with fail
              refine (HN.out J3 j3 _ HM3.out (HT.out.call HQ.out.1)).mono ?_
              rintro e z3 ⟨rfl, hb⟩
              replace HQ := Lib.hid (HQ.out.call hb)
              clear hb HM3
              go_wp2_with fail
              refine (fixed_any HK.out _ (HT.out.call HQ.out.1)).mono ?_
              rintro e w9 ⟨rfl, hb⟩
              have HZ := Lib.hid (HQ.out.call hb)
              clear hb HQ
              go_wp2_with fail
              go_ret
              exact ⟨rfl, HZ.out.1⟩
            · have q : ((l' (k - 1)).k == 9) = false := beq_eq_false_iff_ne.2 h9
              have hX : b = X := by rw [HX.out]; unfold inB is9; rw [if_neg (by simpa using h9)]
              have s4 : ¬ a.size + 1 + b.size > 9223372036854775807 := by omega
              subst hX
              clear h9 HX
              have c2 := HQ.out.2.1.1.cell
              have s1 : ¬ 3 + b.size > 9223372036854775807 := by omega
              have s2 : ¬ 3 + b.size + 1 > 9223372036854775807 := by omega
              have s3 : ¬ a.size + 1 > 9223372036854775807 := by omega
              have s5 : ¬ 1 + a.size > 9223372036854775807 := by omega
              have s6 : ¬ 1 + a.size + 1 > 9223372036854775807 := by omega
              have s7 : ¬ 3 + a.size > 9223372036854775807 := by omega
              have s8 : ¬ 3 + a.size + 1 > 9223372036854775807 := by omega
              go_wp2_with fail
              refine (join_any A m cap l _ k cap' l' 9 _ (by omega) (by omega) HM.out HM'.out HQ.out.2.1.2 HQ.out.2.2.2).mono ?_
              rintro e y1 hr
              obtain ⟨J1, j1, rfl, hn, -, hb⟩ := tree_made hr (by omega)
              clear hr
              replace HQ := Lib.hid (HQ.out.call hb)
              clear hb c2 c3
              have HM1 := Lib.hid hn
              clear hn
              go_wp2_with fail
              refine (HJ.out J1 j1 _ HM1.out (HT.out.call HQ.out.1)).mono ?_
              rintro e z1 ⟨rfl, hb⟩
              replace HQ := Lib.hid (HQ.out.call hb)
              clear hb HM1
              have c2 := HQ.out.2.1.1.cell
              have c3 := HQ.out.2.2.1.cell
              go_wp2_with fail
              refine (wrap_any A m cap l (nd8 11 1) _ (by omega) HM.out HQ.out.2.1.2).mono ?_
              rintro e y2 hr
              obtain ⟨J2, j2, rfl, hn, -, hb⟩ := tree_made hr (by omega)
              clear hr
              replace HQ := Lib.hid (HQ.out.call hb)
              clear hb c2 c3
              have HM2 := Lib.hid hn
              clear hn
              go_wp2_with fail
              refine (HG.out J2 j2 _ HM2.out (HT.out.call HQ.out.1)).mono ?_
              rintro e z2 ⟨rfl, hb⟩
              replace HQ := Lib.hid (HQ.out.call hb)
              clear hb HM2
              have c2 := HQ.out.2.1.1.cell
              have c3 := HQ.out.2.2.1.cell
              go_wp2_with fail
              refine (wrap_any A m cap l (nd8 14 0) _ (by omega) HM.out HQ.out.2.1.2).mono ?_
              rintro e y3 hr
              obtain ⟨J3, j3, rfl, hn, -, hb⟩ := tree_made hr (by omega)
              clear hr
              replace HQ := Lib.hid (HQ.out.call hb)
              clear hb c2 c3
              have HM3 := Lib.hid hn
              clear hn
              go_wp2_with fail
              refine (HN.out J3 j3 _ HM3.out (HT.out.call HQ.out.1)).mono ?_
              rintro e z3 ⟨rfl, hb⟩
              replace HQ := Lib.hid (HQ.out.call hb)
              clear hb HM3
              go_wp2_with fail
              refine (fixed_any HK.out _ (HT.out.call HQ.out.1)).mono ?_
              rintro e w9 ⟨rfl, hb⟩
              have HZ := Lib.hid (HQ.out.call hb)
              clear hb HQ
              go_wp2_with fail
              go_ret
              exact ⟨rfl, HZ.out.1⟩
    · obtain ⟨r, hr'⟩ : ∃ r, r = rightZ l' k := ⟨_, rfl⟩
      have hr : r ≠ 0 := by rw [hr']; exact hrb
      have E2 := Lib.hid hr'.symm
      clear hra hrb hr'
      refine takeAt 0 11 (.agg #[.slice A (m) cap]) rfl rfl (by kernel_rfl) (by kernel_rfl) (by kernel_rfl) (fun _ _ _ h => h) (loadT_y (w.heap.size) A (m) cap (fun _ h => h.2.1.1) rfl rfl (by rfl)) hS ?_
      simp only [Act.put, List.setIfInBounds_toArray, List.set_cons_zero, List.set_cons_succ]
      refine callAt 1 12 rfl rfl (by kernel_rfl) (by rfl) (by kernel_rfl) (right_any HSN.out.1 HSN.out.2 A m cap l _ (by omega) hS.2.1.2) ?_
      rintro e w' ⟨rfl, hb'⟩
      have hSc1 := hS.call hb'
      refine ⟨_, rfl, hSc1, ?_⟩
      clear hS hb'
      rw [E1.out]
      simp only [Act.put, List.setIfInBounds_toArray, List.set_cons_zero, List.set_cons_succ]
      refine takeAt 2 13 (.bool false) rfl rfl (by kernel_rfl) (by kernel_rfl) (by kernel_rfl) (fun _ _ _ h => h) (neqE_y (m := 0) (n := 0) false (by simp) rfl rfl rfl (by rfl)) hSc1 ?_
      simp only [Act.put, List.setIfInBounds_toArray, List.set_cons_zero, List.set_cons_succ]
      refine takeAt 3 14 (.bool false) rfl rfl (by kernel_rfl) (by kernel_rfl) (by kernel_rfl) (fun _ _ _ h => h) (yields (by rfl) (fun w => by kernel_rfl)) hSc1 ?_
      simp only [Act.put, List.setIfInBounds_toArray, List.set_cons_zero, List.set_cons_succ]
      refine takeAt 4 15 (.agg #[.slice B (k) cap']) rfl rfl (by kernel_rfl) (by kernel_rfl) (by kernel_rfl) (fun _ _ _ h => h) (loadT_y (w.heap.size + 1) B (k) cap' (fun _ h => h.2.2.1) rfl rfl (by rfl)) hSc1 ?_
      simp only [Act.put, List.setIfInBounds_toArray, List.set_cons_zero, List.set_cons_succ]
      refine callAt 5 16 rfl rfl (by kernel_rfl) (by rfl) (by kernel_rfl) (right_any HSN.out.1 HSN.out.2 B k cap' l' _ (by omega) hSc1.2.2.2) ?_
      rintro e w' ⟨rfl, hb'⟩
      have hSc2 := hSc1.call hb'
      refine ⟨_, rfl, hSc2, ?_⟩
      clear hSc1 hb'
      rw [E2.out]
      simp only [Act.put, List.setIfInBounds_toArray, List.set_cons_zero, List.set_cons_succ]
      refine takeAt 6 17 (.bool true) rfl rfl (by kernel_rfl) (by kernel_rfl) (by kernel_rfl) (fun _ _ _ h => h) (neqE_y (m := r) (n := 0) true (by simp [hr]) rfl rfl rfl (by rfl)) hSc2 ?_
      simp only [Act.put, List.setIfInBounds_toArray, List.set_cons_zero, List.set_cons_succ]
      refine takeAt 7 18 (.bool true) rfl rfl (by kernel_rfl) (by kernel_rfl) (by kernel_rfl) (fun _ _ _ h => h) (yields (by rfl) (fun w => by kernel_rfl)) hSc2 ?_
      simp only [Act.put, List.setIfInBounds_toArray, List.set_cons_zero, List.set_cons_succ]
      refine takeAt 8 19 (.bool true) rfl rfl (by kernel_rfl) (by kernel_rfl) (by kernel_rfl) (fun _ _ _ h => h) (yields (by rfl) (fun w => by kernel_rfl)) hSc2 ?_
      simp only [Act.put, List.setIfInBounds_toArray, List.set_cons_zero, List.set_cons_succ]
      refine takeAt 9 20 (undef) rfl rfl (by kernel_rfl) (by kernel_rfl) (by kernel_rfl) (fun _ _ _ h => h) (skipped (by rfl)) hSc2 ?_
      simp only [Act.put, List.setIfInBounds_toArray, List.set_cons_zero, List.set_cons_succ]
      refine takeAt 10 21 (undef) rfl rfl (by kernel_rfl) (by kernel_rfl) (by kernel_rfl) (fun _ _ _ h => h) (skipped (by rfl)) hSc2 ?_
      simp only [Act.put, List.setIfInBounds_toArray, List.set_cons_zero, List.set_cons_succ]
      refine takeAt 11 22 (undef) rfl rfl (by kernel_rfl) (by kernel_rfl) (by kernel_rfl) (fun _ _ _ h => h) (skipped (by rfl)) hSc2 ?_
      simp only [Act.put, List.setIfInBounds_toArray, List.set_cons_zero, List.set_cons_succ]
      as_aux_lemma =>
        refine takeAt 12 23 (undef) rfl rfl (by kernel_rfl) (by kernel_rfl) (by kernel_rfl) (fun _ _ _ h => h) (skipped (by rfl)) hSc2 ?_
        simp only [Act.put, List.setIfInBounds_toArray, List.set_cons_zero, List.set_cons_succ]
        refine takeAt 13 24 (undef) rfl rfl (by kernel_rfl) (by kernel_rfl) (by kernel_rfl) (fun _ _ _ h => h) (skipped (by rfl)) hSc2 ?_
        simp only [Act.put, List.setIfInBounds_toArray, List.set_cons_zero, List.set_cons_succ]
        refine takeAt 14 25 (undef) rfl rfl (by kernel_rfl) (by kernel_rfl) (by kernel_rfl) (fun _ _ _ h => h) (skipped (by rfl)) hSc2 ?_
        simp only [Act.put, List.setIfInBounds_toArray, List.set_cons_zero, List.set_cons_succ]
        refine takeAt 15 26 (.bool true) rfl rfl (by kernel_rfl) (by kernel_rfl) (by kernel_rfl) (fun _ _ _ h => h) (yields (by rfl) (fun w => by kernel_rfl)) hSc2 ?_
        simp only [Act.put, List.setIfInBounds_toArray, List.set_cons_zero, List.set_cons_succ]
        refine takeAt 16 27 (.bool true) rfl rfl (by kernel_rfl) (by kernel_rfl) (by kernel_rfl) (fun _ _ _ h => h) (yields (by rfl) (fun w => by kernel_rfl)) hSc2 ?_
        simp only [Act.put, List.setIfInBounds_toArray, List.set_cons_zero, List.set_cons_succ]
        refine takeAt 17 28 (undef) rfl rfl (by kernel_rfl) (by kernel_rfl) (by kernel_rfl) (fun _ _ _ h => h) (skipped (by rfl)) hSc2 ?_
        simp only [Act.put, List.setIfInBounds_toArray, List.set_cons_zero, List.set_cons_succ]
        refine takeAt 18 29 (undef) rfl rfl (by kernel_rfl) (by kernel_rfl) (by kernel_rfl) (fun _ _ _ h => h) (skipped (by rfl)) hSc2 ?_
        simp only [Act.put, List.setIfInBounds_toArray, List.set_cons_zero, List.set_cons_succ]
        refine takeAt 19 30 (undef) rfl rfl (by kernel_rfl) (by kernel_rfl) (by kernel_rfl) (fun _ _ _ h => h) (skipped (by rfl)) hSc2 ?_
        simp only [Act.put, List.setIfInBounds_toArray, List.set_cons_zero, List.set_cons_succ]
        refine takeAt 20 31 (undef) rfl rfl (by kernel_rfl) (by kernel_rfl) (by kernel_rfl) (fun _ _ _ h => h) (skipped (by rfl)) hSc2 ?_
        simp only [Act.put, List.setIfInBounds_toArray, List.set_cons_zero, List.set_cons_succ]
        refine takeAt 21 32 (undef) rfl rfl (by kernel_rfl) (by kernel_rfl) (by kernel_rfl) (fun _ _ _ h => h) (skipped (by rfl)) hSc2 ?_
        simp only [Act.put, List.setIfInBounds_toArray, List.set_cons_zero, List.set_cons_succ]
        refine takeAt 22 33 (undef) rfl rfl (by kernel_rfl) (by kernel_rfl) (by kernel_rfl) (fun _ _ _ h => h) (skipped (by rfl)) hSc2 ?_
        simp only [Act.put, List.setIfInBounds_toArray, List.set_cons_zero, List.set_cons_succ]
        refine takeAt 23 34 (.bool true) rfl rfl (by kernel_rfl) (by kernel_rfl) (by kernel_rfl) (fun _ _ _ h => h) (yields (by rfl) (fun w => by kernel_rfl)) hSc2 ?_
        simp only [Act.put, List.setIfInBounds_toArray, List.set_cons_zero, List.set_cons_succ]
        refine wpAnyH_done (by kernel_rfl) ?_ _
        refine hK _ _ ?_
        clear hK
        have HQ := Lib.hid hSc2
        clear hSc2
        go_wp2_with fail
        refine (fixed_any HK.out _ (HT.out.call HQ.out.1)).mono ?_
        rintro e w9 ⟨rfl, hb⟩
        have HZ := Lib.hid (HQ.out.call hb)
        clear hb HQ
        go_wp2_with fail
        go_ret
        exact ⟨rfl, HZ.out.1⟩
  · obtain ⟨r, hr'⟩ : ∃ r, r = rightZ l m := ⟨_, rfl⟩
    have hr : r ≠ 0 := by rw [hr']; exact hra
    have E1 := Lib.hid hr'.symm
    clear hra hr'
    refine takeAt 0 11 (.agg #[.slice A (m) cap]) rfl rfl (by kernel_rfl) (by kernel_rfl) (by kernel_rfl) (fun _ _ _ h => h) (loadT_y (w.heap.size) A (m) cap (fun _ h => h.2.1.1) rfl rfl (by rfl)) hS ?_
    simp only [Act.put, List.setIfInBounds_toArray, List.set_cons_zero, List.set_cons_succ]
    refine callAt 1 12 rfl rfl (by kernel_rfl) (by rfl) (by kernel_rfl) (right_any HSN.out.1 HSN.out.2 A m cap l _ (by omega) hS.2.1.2) ?_
    rintro e w' ⟨rfl, hb'⟩
    have hSc1 := hS.call hb'
    refine ⟨_, rfl, hSc1, ?_⟩
    clear hS hb'
    rw [E1.out]
    simp only [Act.put, List.setIfInBounds_toArray, List.set_cons_zero, List.set_cons_succ]
    refine takeAt 2 13 (.bool true) rfl rfl (by kernel_rfl) (by kernel_rfl) (by kernel_rfl) (fun _ _ _ h => h) (neqE_y (m := r) (n := 0) true (by simp [hr]) rfl rfl rfl (by rfl)) hSc1 ?_
    simp only [Act.put, List.setIfInBounds_toArray, List.set_cons_zero, List.set_cons_succ]
    refine takeAt 3 14 (.bool true) rfl rfl (by kernel_rfl) (by kernel_rfl) (by kernel_rfl) (fun _ _ _ h => h) (yields (by rfl) (fun w => by kernel_rfl)) hSc1 ?_
    simp only [Act.put, List.setIfInBounds_toArray, List.set_cons_zero, List.set_cons_succ]
    refine takeAt 4 15 (undef) rfl rfl (by kernel_rfl) (by kernel_rfl) (by kernel_rfl) (fun _ _ _ h => h) (skipped (by rfl)) hSc1 ?_
    simp only [Act.put, List.setIfInBounds_toArray, List.set_cons_zero, List.set_cons_succ]
    refine takeAt 5 16 (undef) rfl rfl (by kernel_rfl) (by kernel_rfl) (by kernel_rfl) (fun _ _ _ h => h) (skipped (by rfl)) hSc1 ?_
    simp only [Act.put, List.setIfInBounds_toArray, List.set_cons_zero, List.set_cons_succ]
    refine takeAt 6 17 (undef) rfl rfl (by kernel_rfl) (by kernel_rfl) (by kernel_rfl) (fun _ _ _ h => h) (skipped (by rfl)) hSc1 ?_
    simp only [Act.put, List.setIfInBounds_toArray, List.set_cons_zero, List.set_cons_succ]
    refine takeAt 7 18 (.bool true) rfl rfl (by kernel_rfl) (by kernel_rfl) (by kernel_rfl) (fun _ _ _ h => h) (yields (by rfl) (fun w => by kernel_rfl)) hSc1 ?_
    simp only [Act.put, List.setIfInBounds_toArray, List.set_cons_zero, List.set_cons_succ]
    refine takeAt 8 19 (.bool true) rfl rfl (by kernel_rfl) (by kernel_rfl) (by kernel_rfl) (fun _ _ _ h => h) (yields (by rfl) (fun w => by kernel_rfl)) hSc1 ?_
    simp only [Act.put, List.setIfInBounds_toArray, List.set_cons_zero, List.set_cons_succ]
    refine takeAt 9 20 (undef) rfl rfl (by kernel_rfl) (by kernel_rfl) (by kernel_rfl) (fun _ _ _ h => h) (skipped (by rfl)) hSc1 ?_
    simp only [Act.put, List.setIfInBounds_toArray, List.set_cons_zero, List.set_cons_succ]
    refine takeAt 10 21 (undef) rfl rfl (by kernel_rfl) (by kernel_rfl) (by kernel_rfl) (fun _ _ _ h => h) (skipped (by rfl)) hSc1 ?_
    simp only [Act.put, List.setIfInBounds_toArray, List.set_cons_zero, List.set_cons_succ]
    refine takeAt 11 22 (undef) rfl rfl (by kernel_rfl) (by kernel_rfl) (by kernel_rfl) (fun _ _ _ h => h) (skipped (by rfl)) hSc1 ?_
    simp only [Act.put, List.setIfInBounds_toArray, List.set_cons_zero, List.set_cons_succ]
    as_aux_lemma =>
      refine takeAt 12 23 (undef) rfl rfl (by kernel_rfl) (by kernel_rfl) (by kernel_rfl) (fun _ _ _ h => h) (skipped (by rfl)) hSc1 ?_
      simp only [Act.put, List.setIfInBounds_toArray, List.set_cons_zero, List.set_cons_succ]
      refine takeAt 13 24 (undef) rfl rfl (by kernel_rfl) (by kernel_rfl) (by kernel_rfl) (fun _ _ _ h => h) (skipped (by rfl)) hSc1 ?_
      simp only [Act.put, List.setIfInBounds_toArray, List.set_cons_zero, List.set_cons_succ]
      refine takeAt 14 25 (undef) rfl rfl (by kernel_rfl) (by kernel_rfl) (by kernel_rfl) (fun _ _ _ h => h) (skipped (by rfl)) hSc1 ?_
      simp only [Act.put, List.setIfInBounds_toArray, List.set_cons_zero, List.set_cons_succ]
      refine takeAt 15 26 (.bool true) rfl rfl (by kernel_rfl) (by kernel_rfl) (by kernel_rfl) (fun _ _ _ h => h) (yields (by rfl) (fun w => by kernel_rfl)) hSc1 ?_
      simp only [Act.put, List.setIfInBounds_toArray, List.set_cons_zero, List.set_cons_succ]
      refine takeAt 16 27 (.bool true) rfl rfl (by kernel_rfl) (by kernel_rfl) (by kernel_rfl) (fun _ _ _ h => h) (yields (by rfl) (fun w => by kernel_rfl)) hSc1 ?_
      simp only [Act.put, List.setIfInBounds_toArray, List.set_cons_zero, List.set_cons_succ]
      refine takeAt 17 28 (undef) rfl rfl (by kernel_rfl) (by kernel_rfl) (by kernel_rfl) (fun _ _ _ h => h) (skipped (by rfl)) hSc1 ?_
      simp only [Act.put, List.setIfInBounds_toArray, List.set_cons_zero, List.set_cons_succ]
      refine takeAt 18 29 (undef) rfl rfl (by kernel_rfl) (by kernel_rfl) (by kernel_rfl) (fun _ _ _ h => h) (skipped (by rfl)) hSc1 ?_
      simp only [Act.put, List.setIfInBounds_toArray, List.set_cons_zero, List.set_cons_succ]
      refine takeAt 19 30 (undef) rfl rfl (by kernel_rfl) (by kernel_rfl) (by kernel_rfl) (fun _ _ _ h => h) (skipped (by rfl)) hSc1 ?_
      simp only [Act.put, List.setIfInBounds_toArray, List.set_cons_zero, List.set_cons_succ]
      refine takeAt 20 31 (undef) rfl rfl (by kernel_rfl) (by kernel_rfl) (by kernel_rfl) (fun _ _ _ h => h) (skipped (by rfl)) hSc1 ?_
      simp only [Act.put, List.setIfInBounds_toArray, List.set_cons_zero, List.set_cons_succ]
      refine takeAt 21 32 (undef) rfl rfl (by kernel_rfl) (by kernel_rfl) (by kernel_rfl) (fun _ _ _ h => h) (skipped (by rfl)) hSc1 ?_
      simp only [Act.put, List.setIfInBounds_toArray, List.set_cons_zero, List.set_cons_succ]
      refine takeAt 22 33 (undef) rfl rfl (by kernel_rfl) (by kernel_rfl) (by kernel_rfl) (fun _ _ _ h => h) (skipped (by rfl)) hSc1 ?_
      simp only [Act.put, List.setIfInBounds_toArray, List.set_cons_zero, List.set_cons_succ]
      refine takeAt 23 34 (.bool true) rfl rfl (by kernel_rfl) (by kernel_rfl) (by kernel_rfl) (fun _ _ _ h => h) (yields (by rfl) (fun w => by kernel_rfl)) hSc1 ?_
      simp only [Act.put, List.setIfInBounds_toArray, List.set_cons_zero, List.set_cons_succ]
      refine wpAnyH_done (by kernel_rfl) ?_ _
      refine hK _ _ ?_
      clear hK
      have HQ := Lib.hid hSc1
      clear hSc1
      go_wp2_with fail
      refine (fixed_any HK.out _ (HT.out.call HQ.out.1)).mono ?_
      rintro e w9 ⟨rfl, hb⟩
      have HZ := Lib.hid (HQ.out.call hb)
      clear hb HQ
      go_wp2_with fail
      go_ret
      exact ⟨rfl, HZ.out.1⟩
end Go.Proofs.YtfejdengpnikeaaDoor.Ast
