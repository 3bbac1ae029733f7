import Derived.Test.YteiboobdhjdjkaaGreatDoorNaiOnlyM
import Derived.Test.YteiboobdhjdjkaaGreatDoorMz
import Derived.Test.YteiboobdhjdjkaaGreatDoorNaiTurnBM
namespace Go.Proofs.YteiboobdhjdjkaaGreatDoor.Nai
open Go.RowKit
open Ast (Nd At12 NodesAt kidsZ)
open Cap (Cp withZ cpC BoxV zrC)
def OnlyOk (R : Rd) (x : Nd) (F : Sp → Option Sp) : Prop :=
 ∀ (X : Nat → Prop) (w : World) (y : Sp) (q b o : Nat), b < w.heap.size → At12 w b o x → BoxV 44 w q (cpC y.2) → y.1 ≤ R.s.size → RdAt R X w → ¬ X q → (∀ c, X c → c < w.heap.size) →
   Calls Tryz.prog 141 #[ptr R.rb, .pointer (some ⟨b, o, none⟩), spV y q] w (SpRes X w (F y))
set_option maxRecDepth 100000 in
set_option maxHeartbeats 400000 in
theorem tell_only {R : Rd} {g : Nat} {rv : Value} {J : List Sp → Bool → (Nat → Prop) → World → Prop} (hJ : Told J) (hrv : ∃ f cs, rv = fnV f cs ∧ Ent f) {r : Re} {k : Kon} {F : Sp → Option Sp} (hF : ∀ y, y.1 ≤ R.s.size → outsE R.s r y = oneE (F y)) (hfw : ∀ y z, y.1 ≤ R.s.size → F y = some z → z.1 ≤ R.s.size) (hO : OnlyOk R r.root F)
  (h8 : r.root.k ≠ 8) (h9 : r.root.k ≠ 9) (h11 : r.root.k ≠ 11) (h10 : r.root.k = 10 → r.root.md = 2) (hK : KonOk R g rv J k) : TellOk R g rv J r k := by
 intro X w S pre y q b o f cs hb hX hn hc hy hv hr hbig
 obtain ⟨x, hx⟩ : ∃ x, r.root = x := ⟨_, rfl⟩
 rw [hx] at hn hO h8 h9 h11 h10
 rw [hF y hy] at hbig ⊢
 obtain ⟨f2, cs2, hff, hent⟩ := hv.form hrv
 cases hff
 have HT2 := Lib.hid (TBx.new (tv := fnV f cs) hr hJ hb hX hn hc)
 have hk0 := HT2.out.nd.1
 have hk9 := HT2.out.nd.2.2.2.2.2.2.2.2.2.1
 have q8 : (x.k == 8) = false := beq_eq_false_iff_ne.2 h8
 have q9 : (x.k == 9) = false := beq_eq_false_iff_ne.2 h9
 have q11 : (x.k == 11) = false := beq_eq_false_iff_ne.2 h11
 clear hn hx hF
 by_cases h : x.k = 10
 ·have hmd := h10 h
  rw [h] at hk0
  rw [hmd] at hk9
  clear h10 q8 q9 q11 h hmd h8 h9 h11
  go_enter Tryz.func99, Tryz.ntmps99
  go_wp2_with fail
  obtain ⟨W1, hW1⟩ : ∃ W1, ((((w.alloc (.cells #[ptr g] 169)).alloc (.cells #[.pointer (some ⟨b, o, none⟩)] 129)).alloc (.cells #[.int .i64 (y.1 : Int), ptr q] 93)).alloc (.cells #[fnV f cs] 174)) = W1 := ⟨_, rfl⟩
  have hB1 : Below w.heap.size w W1 := by rw [← hW1]; go_grown
  have HT := HT2.out
  rw [hW1] at HT ⊢
  clear HT2 hk0 hk9 hW1
  refine wp_region_held (S := TBs R g w.heap.size (w.heap.size + 1) (w.heap.size + 1 + 1) (w.heap.size + 1 + 1 + 1) b o q x y (fnV f cs)) (by kernel_rfl) ?_
  change wpAnyH _ _ _ _ _ _ _ _ W1.drew
  have hBd : Below W1.heap.size W1 W1.drew := below_drewN (Below.refl _ _) 1
  have HD := HT.ext (Ext.call hBd) HT.gc
  have hR2 := (hr.call hJ hB1).call hJ hBd
  have hE2 := (Ext.call (X := X) hB1).trans (Ext.call (X := X) hBd)
  have hS : TBs R g w.heap.size (w.heap.size + 1) (w.heap.size + 1 + 1) (w.heap.size + 1 + 1 + 1) b o q x y (fnV f cs) W1.drew := ⟨X, HD⟩
  refine takeAt 0 11 (.pointer (some ⟨g, 0, none⟩)) rfl rfl (by kernel_rfl) (by kernel_rfl) (by kernel_rfl) (fun _ _ _ h => h) (ldPS_y w.heap.size 0 _ (fun _ h => tbs_s h) rfl rfl (by rfl)) hS ?_
  simp only [Act.put, sA, s0, sS]
  refine takeAt 1 12 (.pointer (some ⟨g, 0, none⟩)) rfl rfl (by kernel_rfl) (by kernel_rfl) (by kernel_rfl) (fun _ _ _ h => h) (yields (by rfl) (fun w => by kernel_rfl)) hS ?_
  simp only [Act.put, sA, s0, sS]
  refine takeAt 2 13 (.pointer (some ⟨g, 0, none⟩)) rfl rfl (by kernel_rfl) (by kernel_rfl) (by kernel_rfl) (fun _ _ _ h => h) (yields (by rfl) (fun w => by kernel_rfl)) hS ?_
  simp only [Act.put, sA, s0, sS]
  refine takeAt 3 14 (.pointer (some ⟨R.rb, 0, none⟩)) rfl rfl (by kernel_rfl) (by kernel_rfl) (by kernel_rfl) (fun _ _ _ h => h) (ldPR_y g 0 _ (fun _ h => tbs_g h) rfl rfl (by rfl)) hS ?_
  simp only [Act.put, sA, s0, sS]
  refine takeAt 4 15 (.pointer (some ⟨b, o, none⟩)) rfl rfl (by kernel_rfl) (by kernel_rfl) (by kernel_rfl) (fun _ _ _ h => h) (ldPN_y (w.heap.size + 1) 0 _ (fun _ h => tbs_n h) rfl rfl (by rfl)) hS ?_
  simp only [Act.put, sA, s0, sS]
  refine takeAt 5 16 (.agg #[.int .i64 (y.1 : Int), .pointer (some ⟨q, 0, none⟩)]) rfl rfl (by kernel_rfl) (by kernel_rfl) (by kernel_rfl) (fun _ _ _ h => h) (ldX_y (w.heap.size + 1 + 1) _ _ (fun _ h => tbs_x h) rfl rfl (by rfl)) hS ?_
  simp only [Act.put, sA, s0, sS]
  refine wpAnyH_ready (rs := [6, 10]) (by kernel_rfl) (by simp) (AllReadyH.cons rfl (callStep 6 17 rfl (by rfl) (by kernel_rfl) (hO X W1.drew y q b o HD.nl HD.nd HD.cb.box hy HD.rd HD.cb.not hR2.xlt) ?_) (AllReadyH.cons rfl (valStep 10 8 (ptr W1.drew.heap.size) (W1.drew.alloc (.cells (spA 0 none) 93)) rfl (by rfl) (by kernel_rfl) ⟨X, HD.ext (Ext.alloc X _ _) (hR2.call hJ ((Below.refl _ _).alloc (Nat.le_refl _) _)).cell0⟩ ?_) AllReadyH.nil))
  ·rintro e wb ⟨z, p, bb, rfl, hbb, hm⟩
   have hSb : TBs R g w.heap.size (w.heap.size + 1) (w.heap.size + 1 + 1) (w.heap.size + 1 + 1 + 1) b o q x y (fnV f cs) wb := ⟨X, HD.ext (Ext.call hbb) (hR2.call hJ hbb).cell0⟩
   refine ⟨_, rfl, hSb, ?_⟩
   simp only [Act.put, sA, s0, sS]
   refine takeAt 7 10 (.tuple #[.agg (spA z p), .bool bb]) rfl rfl (by kernel_rfl) (by kernel_rfl) (by kernel_rfl) (fun _ _ _ h => h) (yields (by rfl) (fun w => by kernel_rfl)) hSb ?_
   simp only [Act.put, sA, s0, sS]
   refine takeAt 8 18 (.agg (spA z p)) rfl rfl (by kernel_rfl) (by kernel_rfl) (by kernel_rfl) (fun _ _ _ h => h) (yields (by rfl) (fun w => by kernel_rfl)) hSb ?_
   simp only [Act.put, sA, s0, sS]
   refine takeAt 9 19 (.bool bb) rfl rfl (by kernel_rfl) (by kernel_rfl) (by kernel_rfl) (fun _ _ _ h => h) (yields (by rfl) (fun w => by kernel_rfl)) hSb ?_
   simp only [Act.put, sA, s0, sS]
   have hBb : Below W1.drew.heap.size W1.drew (wb.alloc (.cells (spA 0 none) 93)) := hbb.alloc hbb.size _
   have hqb : BoxV 93 (wb.alloc (.cells (spA 0 none) 93)) wb.heap.size (spA 0 none) := BoxV.new _ _
   have hq1 : W1.drew.heap.size ≤ wb.heap.size := hbb.size
   have hSc : TBs R g w.heap.size (w.heap.size + 1) (w.heap.size + 1 + 1) (w.heap.size + 1 + 1 + 1) b o q x y (fnV f cs) (wb.alloc (.cells (spA 0 none) 93)) := ⟨X, HD.ext (Ext.call hBb) (hR2.call hJ hBb).cell0⟩
   refine valAt 10 8 (ptr wb.heap.size) (wb.alloc (.cells (spA 0 none) 93)) rfl rfl (by kernel_rfl) (by rfl) (by kernel_rfl) hSc ?_
   simp only [Act.put, sA, s0, sS]
   replace hSb := hSc
   clear hSc
   have hmm : ∀ w4 : World, (∀ j, j ≠ wb.heap.size → w4.heap[j]? = (wb.alloc (.cells (spA 0 none) 93)).heap[j]?) → W1.drew.heap.size ≤ wb.heap.size → match F y with | some u => bb = true ∧ ∃ q', z = (u.1 : Int) ∧ p = some ⟨q', 0, none⟩ ∧ BoxV 44 w4 q' (cpC u.2) ∧ ¬ X q' | none => bb = false := by
    intro w4 h4 _
    revert hm
    cases F y with
    | none => exact id
    | some v =>
      rintro ⟨e1, q2, e2, e3, e4, e5⟩
      have e6 : q2 < wb.heap.size := e4.lt
      exact ⟨e1, q2, e2, e3, (h4 q2 (by omega)).trans (e4.alloc _), e5⟩
   obtain ⟨w3, hw3⟩ : ∃ w3, (wb.alloc (.cells (spA 0 none) 93)).setRow wb.heap.size (spA z p) = w3 := ⟨_, rfl⟩
   have hq3 : BoxV 93 w3 wb.heap.size (spA z p) := by rw [← hw3]; exact setRow_heap _ _ _ _ _ _ hqb
   have hB3 : Below W1.drew.heap.size W1.drew w3 := by rw [← hw3]; exact hBb.trans ((setRow_below _ _ _).mono hq1)
   have hS3 : TBs R g w.heap.size (w.heap.size + 1) (w.heap.size + 1 + 1) (w.heap.size + 1 + 1 + 1) b o q x y (fnV f cs) w3 := ⟨X, HD.ext (Ext.call hB3) (hR2.call hJ hB3).cell0⟩
   refine rowAt 11 93 wb.heap.size (spA 0 none) (spA z p) rfl rfl rfl (by kernel_rfl) (by rfl) rfl rfl hqb sizeX rfl (by simp [Value.oneCell']) (by rw [hw3]; exact hS3) ?_
   rw [hw3]
   refine takeAt 12 9 (.bool bb) rfl rfl (by kernel_rfl) (by kernel_rfl) (by kernel_rfl) (fun _ _ _ h => h) (yields (by rfl) (fun w => by kernel_rfl)) hS3 ?_
   simp only [Act.put, sA, s0, sS]
   refine wpAnyH_done (by kernel_rfl) ?_ _
   have hm3 := hmm w3 (by rw [← hw3]; intro j hj; exact setRow_other _ _ _ _ hj) hq1
   have hE3 := hE2.trans (Ext.call (X := X) hB3)
   have hR3 := hR2.call hJ hB3
   have ht3 := ((HD.ext (Ext.call hB3) hR3.cell0).tb).box.get 0 rfl
   have hz0 := hq3.get 0 rfl
   have hz1 := hq3.get 1 rfl
   have HQ3 := Lib.hid hq3
   clear hS3 hw3 hq3 hqb hSb hBb
   cases hFy : F y with
   | none =>
     rw [hFy] at hm3 hbig
     obtain rfl : bb = false := hm3
     clear hz0 hz1
     go_wp2_with fail
     go_end0
     refine ⟨X, [], none, true, ⟨_, rfl⟩, hE3, by simpa using hR3, fun _ => rfl, rfl⟩
   | some v =>
     rw [hFy] at hm3 hbig
     obtain ⟨rfl, q2, rfl, rfl, h4, h5⟩ := hm3
     rw [show oneE (some v) = [some v] from rfl, evB_some, evB_nil, List.append_nil] at hbig ⊢
     have hq2X : ¬ X q2 := h5
     have HC := hK X w3 S pre v q2 f cs ⟨h4, hq2X⟩ (hfw y v hy hFy) (hv.ext hE3) hR3 hbig
     clear hK
     go_wp2_with fail
     rw [hent, Oper.upon_enter]
     with_reducible refine HC.mono ?_
     rintro e w' ⟨X', T, o2, m, ⟨z9, rfl⟩, hE', hR', h6, h7⟩
     clear HC hent
     go_wp2_with fail
     go_end0
     exact ⟨X', T, o2, m, ⟨_, rfl⟩, hE3.trans hE', hR', h6, by rw [hFy, show oneE (some v) = [some v] from rfl, evB_some, evB_nil, List.append_nil]; exact h7⟩
  ·simp only [Act.put, sA, s0, sS]
   have hBa : Below W1.drew.heap.size W1.drew (W1.drew.alloc (.cells (spA 0 none) 93)) := (Below.refl _ _).alloc (Nat.le_refl _) _
   have HDa := HD.ext (Ext.call hBa) (hR2.call hJ hBa).cell0
   have hqa : BoxV 93 (W1.drew.alloc (.cells (spA 0 none) 93)) W1.heap.size (spA 0 none) := BoxV.new W1.drew _
   refine callAt 6 17 rfl rfl (by kernel_rfl) (by rfl) (by kernel_rfl) (hO X (W1.drew.alloc (.cells (spA 0 none) 93)) y q b o HDa.nl HDa.nd HDa.cb.box hy HDa.rd HDa.cb.not (hR2.call hJ hBa).xlt) ?_
   rintro e wb ⟨z, p, bb, rfl, hbb, hm⟩
   have hBb := thenB hBa hbb hBa.size
   have hSb : TBs R g w.heap.size (w.heap.size + 1) (w.heap.size + 1 + 1) (w.heap.size + 1 + 1 + 1) b o q x y (fnV f cs) wb := ⟨X, HD.ext (Ext.call hBb) (hR2.call hJ hBb).cell0⟩
   have hqb := hqa.below hbb hqa.lt
   have hq1 : W1.drew.heap.size ≤ W1.heap.size := Nat.le_refl _
   refine ⟨_, rfl, hSb, ?_⟩
   simp only [Act.put, sA, s0, sS]
   refine takeAt 7 10 (.tuple #[.agg (spA z p), .bool bb]) rfl rfl (by kernel_rfl) (by kernel_rfl) (by kernel_rfl) (fun _ _ _ h => h) (yields (by rfl) (fun w => by kernel_rfl)) hSb ?_
   simp only [Act.put, sA, s0, sS]
   refine takeAt 8 18 (.agg (spA z p)) rfl rfl (by kernel_rfl) (by kernel_rfl) (by kernel_rfl) (fun _ _ _ h => h) (yields (by rfl) (fun w => by kernel_rfl)) hSb ?_
   simp only [Act.put, sA, s0, sS]
   refine takeAt 9 19 (.bool bb) rfl rfl (by kernel_rfl) (by kernel_rfl) (by kernel_rfl) (fun _ _ _ h => h) (yields (by rfl) (fun w => by kernel_rfl)) hSb ?_
   simp only [Act.put, sA, s0, sS]
   have hmm : ∀ w4 : World, (∀ j, j ≠ W1.heap.size → w4.heap[j]? = wb.heap[j]?) → W1.drew.heap.size ≤ W1.heap.size → match F y with | some u => bb = true ∧ ∃ q', z = (u.1 : Int) ∧ p = some ⟨q', 0, none⟩ ∧ BoxV 44 w4 q' (cpC u.2) ∧ ¬ X q' | none => bb = false := by
    intro w4 h4 _
    have hql := HD.cb.box.lt
    have hsa : (W1.drew.alloc (.cells (spA 0 none) 93)).heap.size = W1.heap.size + 1 := by simp
    revert hm
    cases F y with
    | none => exact id
    | some v =>
      rintro ⟨e1, q2, e2, e3, e4, e5⟩
      have hne : q2 ≠ W1.heap.size := by
       rintro rfl
       have e : some (Obj.cells (cpC v.2) 44 (0, 0)) = some (.cells (spA 0 none) 93 (0, 0)) := e4.symm.trans hqb
       injection e with e
       injection e with _ e
       exact absurd e (by decide)
      exact ⟨e1, q2, e2, e3, (h4 q2 hne).trans e4, e5⟩
   obtain ⟨w3, hw3⟩ : ∃ w3, wb.setRow W1.heap.size (spA z p) = w3 := ⟨_, rfl⟩
   have hq3 : BoxV 93 w3 W1.heap.size (spA z p) := by rw [← hw3]; exact setRow_heap _ _ _ _ _ _ hqb
   have hB3 : Below W1.drew.heap.size W1.drew w3 := by rw [← hw3]; exact hBb.trans ((setRow_below _ _ _).mono hq1)
   have hS3 : TBs R g w.heap.size (w.heap.size + 1) (w.heap.size + 1 + 1) (w.heap.size + 1 + 1 + 1) b o q x y (fnV f cs) w3 := ⟨X, HD.ext (Ext.call hB3) (hR2.call hJ hB3).cell0⟩
   refine rowAt 11 93 W1.heap.size (spA 0 none) (spA z p) rfl rfl rfl (by kernel_rfl) (by rfl) rfl rfl hqb sizeX rfl (by simp [Value.oneCell']) (by rw [hw3]; exact hS3) ?_
   rw [hw3]
   refine takeAt 12 9 (.bool bb) rfl rfl (by kernel_rfl) (by kernel_rfl) (by kernel_rfl) (fun _ _ _ h => h) (yields (by rfl) (fun w => by kernel_rfl)) hS3 ?_
   simp only [Act.put, sA, s0, sS]
   refine wpAnyH_done (by kernel_rfl) ?_ _
   have hm3 := hmm w3 (by rw [← hw3]; intro j hj; exact setRow_other _ _ _ _ hj) hq1
   have hE3 := hE2.trans (Ext.call (X := X) hB3)
   have hR3 := hR2.call hJ hB3
   have ht3 := ((HD.ext (Ext.call hB3) hR3.cell0).tb).box.get 0 rfl
   have hz0 := hq3.get 0 rfl
   have hz1 := hq3.get 1 rfl
   have HQ3 := Lib.hid hq3
   clear hS3 hw3 hq3 hqb hSb hBb
   cases hFy : F y with
   | none =>
     rw [hFy] at hm3 hbig
     obtain rfl : bb = false := hm3
     clear hz0 hz1
     go_wp2_with fail
     go_end0
     refine ⟨X, [], none, true, ⟨_, rfl⟩, hE3, by simpa using hR3, fun _ => rfl, rfl⟩
   | some v =>
     rw [hFy] at hm3 hbig
     obtain ⟨rfl, q2, rfl, rfl, h4, h5⟩ := hm3
     rw [show oneE (some v) = [some v] from rfl, evB_some, evB_nil, List.append_nil] at hbig ⊢
     have hq2X : ¬ X q2 := h5
     have HC := hK X w3 S pre v q2 f cs ⟨h4, hq2X⟩ (hfw y v hy hFy) (hv.ext hE3) hR3 hbig
     clear hK
     go_wp2_with fail
     rw [hent, Oper.upon_enter]
     with_reducible refine HC.mono ?_
     rintro e w' ⟨X', T, o2, m, ⟨z9, rfl⟩, hE', hR', h6, h7⟩
     clear HC hent
     go_wp2_with fail
     go_end0
     exact ⟨X', T, o2, m, ⟨_, rfl⟩, hE3.trans hE', hR', h6, by rw [hFy, show oneE (some v) = [some v] from rfl, evB_some, evB_nil, List.append_nil]; exact h7⟩
 ·have q10 : (x.k == 10) = false := beq_eq_false_iff_ne.2 h
  clear h10 h h8 h9 h11
  go_enter Tryz.func99, Tryz.ntmps99
  go_wp2_with fail
  obtain ⟨W1, hW1⟩ : ∃ W1, ((((w.alloc (.cells #[ptr g] 169)).alloc (.cells #[.pointer (some ⟨b, o, none⟩)] 129)).alloc (.cells #[.int .i64 (y.1 : Int), ptr q] 93)).alloc (.cells #[fnV f cs] 174)) = W1 := ⟨_, rfl⟩
  have hB1 : Below w.heap.size w W1 := by rw [← hW1]; go_grown
  have HT := HT2.out
  rw [hW1] at HT ⊢
  clear HT2 hk0 hk9 hW1
  refine wp_region_held (S := TBs R g w.heap.size (w.heap.size + 1) (w.heap.size + 1 + 1) (w.heap.size + 1 + 1 + 1) b o q x y (fnV f cs)) (by kernel_rfl) ?_
  change wpAnyH _ _ _ _ _ _ _ _ W1.drew
  have hBd : Below W1.heap.size W1 W1.drew := below_drewN (Below.refl _ _) 1
  have HD := HT.ext (Ext.call hBd) HT.gc
  have hR2 := (hr.call hJ hB1).call hJ hBd
  have hE2 := (Ext.call (X := X) hB1).trans (Ext.call (X := X) hBd)
  have hS : TBs R g w.heap.size (w.heap.size + 1) (w.heap.size + 1 + 1) (w.heap.size + 1 + 1 + 1) b o q x y (fnV f cs) W1.drew := ⟨X, HD⟩
  refine takeAt 0 11 (.pointer (some ⟨g, 0, none⟩)) rfl rfl (by kernel_rfl) (by kernel_rfl) (by kernel_rfl) (fun _ _ _ h => h) (ldPS_y w.heap.size 0 _ (fun _ h => tbs_s h) rfl rfl (by rfl)) hS ?_
  simp only [Act.put, sA, s0, sS]
  refine takeAt 1 12 (.pointer (some ⟨g, 0, none⟩)) rfl rfl (by kernel_rfl) (by kernel_rfl) (by kernel_rfl) (fun _ _ _ h => h) (yields (by rfl) (fun w => by kernel_rfl)) hS ?_
  simp only [Act.put, sA, s0, sS]
  refine takeAt 2 13 (.pointer (some ⟨g, 0, none⟩)) rfl rfl (by kernel_rfl) (by kernel_rfl) (by kernel_rfl) (fun _ _ _ h => h) (yields (by rfl) (fun w => by kernel_rfl)) hS ?_
  simp only [Act.put, sA, s0, sS]
  refine takeAt 3 14 (.pointer (some ⟨R.rb, 0, none⟩)) rfl rfl (by kernel_rfl) (by kernel_rfl) (by kernel_rfl) (fun _ _ _ h => h) (ldPR_y g 0 _ (fun _ h => tbs_g h) rfl rfl (by rfl)) hS ?_
  simp only [Act.put, sA, s0, sS]
  refine takeAt 4 15 (.pointer (some ⟨b, o, none⟩)) rfl rfl (by kernel_rfl) (by kernel_rfl) (by kernel_rfl) (fun _ _ _ h => h) (ldPN_y (w.heap.size + 1) 0 _ (fun _ h => tbs_n h) rfl rfl (by rfl)) hS ?_
  simp only [Act.put, sA, s0, sS]
  refine takeAt 5 16 (.agg #[.int .i64 (y.1 : Int), .pointer (some ⟨q, 0, none⟩)]) rfl rfl (by kernel_rfl) (by kernel_rfl) (by kernel_rfl) (fun _ _ _ h => h) (ldX_y (w.heap.size + 1 + 1) _ _ (fun _ h => tbs_x h) rfl rfl (by rfl)) hS ?_
  simp only [Act.put, sA, s0, sS]
  refine wpAnyH_ready (rs := [6, 10]) (by kernel_rfl) (by simp) (AllReadyH.cons rfl (callStep 6 17 rfl (by rfl) (by kernel_rfl) (hO X W1.drew y q b o HD.nl HD.nd HD.cb.box hy HD.rd HD.cb.not hR2.xlt) ?_) (AllReadyH.cons rfl (valStep 10 8 (ptr W1.drew.heap.size) (W1.drew.alloc (.cells (spA 0 none) 93)) rfl (by rfl) (by kernel_rfl) ⟨X, HD.ext (Ext.alloc X _ _) (hR2.call hJ ((Below.refl _ _).alloc (Nat.le_refl _) _)).cell0⟩ ?_) AllReadyH.nil))
  ·rintro e wb ⟨z, p, bb, rfl, hbb, hm⟩
   have hSb : TBs R g w.heap.size (w.heap.size + 1) (w.heap.size + 1 + 1) (w.heap.size + 1 + 1 + 1) b o q x y (fnV f cs) wb := ⟨X, HD.ext (Ext.call hbb) (hR2.call hJ hbb).cell0⟩
   refine ⟨_, rfl, hSb, ?_⟩
   simp only [Act.put, sA, s0, sS]
   refine takeAt 7 10 (.tuple #[.agg (spA z p), .bool bb]) rfl rfl (by kernel_rfl) (by kernel_rfl) (by kernel_rfl) (fun _ _ _ h => h) (yields (by rfl) (fun w => by kernel_rfl)) hSb ?_
   simp only [Act.put, sA, s0, sS]
   refine takeAt 8 18 (.agg (spA z p)) rfl rfl (by kernel_rfl) (by kernel_rfl) (by kernel_rfl) (fun _ _ _ h => h) (yields (by rfl) (fun w => by kernel_rfl)) hSb ?_
   simp only [Act.put, sA, s0, sS]
   refine takeAt 9 19 (.bool bb) rfl rfl (by kernel_rfl) (by kernel_rfl) (by kernel_rfl) (fun _ _ _ h => h) (yields (by rfl) (fun w => by kernel_rfl)) hSb ?_
   simp only [Act.put, sA, s0, sS]
   have hBb : Below W1.drew.heap.size W1.drew (wb.alloc (.cells (spA 0 none) 93)) := hbb.alloc hbb.size _
   have hqb : BoxV 93 (wb.alloc (.cells (spA 0 none) 93)) wb.heap.size (spA 0 none) := BoxV.new _ _
   have hq1 : W1.drew.heap.size ≤ wb.heap.size := hbb.size
   have hSc : TBs R g w.heap.size (w.heap.size + 1) (w.heap.size + 1 + 1) (w.heap.size + 1 + 1 + 1) b o q x y (fnV f cs) (wb.alloc (.cells (spA 0 none) 93)) := ⟨X, HD.ext (Ext.call hBb) (hR2.call hJ hBb).cell0⟩
   refine valAt 10 8 (ptr wb.heap.size) (wb.alloc (.cells (spA 0 none) 93)) rfl rfl (by kernel_rfl) (by rfl) (by kernel_rfl) hSc ?_
   simp only [Act.put, sA, s0, sS]
   replace hSb := hSc
   clear hSc
   have hmm : ∀ w4 : World, (∀ j, j ≠ wb.heap.size → w4.heap[j]? = (wb.alloc (.cells (spA 0 none) 93)).heap[j]?) → W1.drew.heap.size ≤ wb.heap.size → match F y with | some u => bb = true ∧ ∃ q', z = (u.1 : Int) ∧ p = some ⟨q', 0, none⟩ ∧ BoxV 44 w4 q' (cpC u.2) ∧ ¬ X q' | none => bb = false := by
    intro w4 h4 _
    revert hm
    cases F y with
    | none => exact id
    | some v =>
      rintro ⟨e1, q2, e2, e3, e4, e5⟩
      have e6 : q2 < wb.heap.size := e4.lt
      exact ⟨e1, q2, e2, e3, (h4 q2 (by omega)).trans (e4.alloc _), e5⟩
   obtain ⟨w3, hw3⟩ : ∃ w3, (wb.alloc (.cells (spA 0 none) 93)).setRow wb.heap.size (spA z p) = w3 := ⟨_, rfl⟩
   have hq3 : BoxV 93 w3 wb.heap.size (spA z p) := by rw [← hw3]; exact setRow_heap _ _ _ _ _ _ hqb
   have hB3 : Below W1.drew.heap.size W1.drew w3 := by rw [← hw3]; exact hBb.trans ((setRow_below _ _ _).mono hq1)
   have hS3 : TBs R g w.heap.size (w.heap.size + 1) (w.heap.size + 1 + 1) (w.heap.size + 1 + 1 + 1) b o q x y (fnV f cs) w3 := ⟨X, HD.ext (Ext.call hB3) (hR2.call hJ hB3).cell0⟩
   refine rowAt 11 93 wb.heap.size (spA 0 none) (spA z p) rfl rfl rfl (by kernel_rfl) (by rfl) rfl rfl hqb sizeX rfl (by simp [Value.oneCell']) (by rw [hw3]; exact hS3) ?_
   rw [hw3]
   refine takeAt 12 9 (.bool bb) rfl rfl (by kernel_rfl) (by kernel_rfl) (by kernel_rfl) (fun _ _ _ h => h) (yields (by rfl) (fun w => by kernel_rfl)) hS3 ?_
   simp only [Act.put, sA, s0, sS]
   refine wpAnyH_done (by kernel_rfl) ?_ _
   have hm3 := hmm w3 (by rw [← hw3]; intro j hj; exact setRow_other _ _ _ _ hj) hq1
   have hE3 := hE2.trans (Ext.call (X := X) hB3)
   have hR3 := hR2.call hJ hB3
   have ht3 := ((HD.ext (Ext.call hB3) hR3.cell0).tb).box.get 0 rfl
   have hz0 := hq3.get 0 rfl
   have hz1 := hq3.get 1 rfl
   have HQ3 := Lib.hid hq3
   clear hS3 hw3 hq3 hqb hSb hBb
   cases hFy : F y with
   | none =>
     rw [hFy] at hm3 hbig
     obtain rfl : bb = false := hm3
     clear hz0 hz1
     go_wp2_with fail
     go_end0
     refine ⟨X, [], none, true, ⟨_, rfl⟩, hE3, by simpa using hR3, fun _ => rfl, rfl⟩
   | some v =>
     rw [hFy] at hm3 hbig
     obtain ⟨rfl, q2, rfl, rfl, h4, h5⟩ := hm3
     rw [show oneE (some v) = [some v] from rfl, evB_some, evB_nil, List.append_nil] at hbig ⊢
     have hq2X : ¬ X q2 := h5
     have HC := hK X w3 S pre v q2 f cs ⟨h4, hq2X⟩ (hfw y v hy hFy) (hv.ext hE3) hR3 hbig
     clear hK
     go_wp2_with fail
     rw [hent, Oper.upon_enter]
     with_reducible refine HC.mono ?_
     rintro e w' ⟨X', T, o2, m, ⟨z9, rfl⟩, hE', hR', h6, h7⟩
     clear HC hent
     go_wp2_with fail
     go_end0
     exact ⟨X', T, o2, m, ⟨_, rfl⟩, hE3.trans hE', hR', h6, by rw [hFy, show oneE (some v) = [some v] from rfl, evB_some, evB_nil, List.append_nil]; exact h7⟩
  ·simp only [Act.put, sA, s0, sS]
   have hBa : Below W1.drew.heap.size W1.drew (W1.drew.alloc (.cells (spA 0 none) 93)) := (Below.refl _ _).alloc (Nat.le_refl _) _
   have HDa := HD.ext (Ext.call hBa) (hR2.call hJ hBa).cell0
   have hqa : BoxV 93 (W1.drew.alloc (.cells (spA 0 none) 93)) W1.heap.size (spA 0 none) := BoxV.new W1.drew _
   refine callAt 6 17 rfl rfl (by kernel_rfl) (by rfl) (by kernel_rfl) (hO X (W1.drew.alloc (.cells (spA 0 none) 93)) y q b o HDa.nl HDa.nd HDa.cb.box hy HDa.rd HDa.cb.not (hR2.call hJ hBa).xlt) ?_
   rintro e wb ⟨z, p, bb, rfl, hbb, hm⟩
   have hBb := thenB hBa hbb hBa.size
   have hSb : TBs R g w.heap.size (w.heap.size + 1) (w.heap.size + 1 + 1) (w.heap.size + 1 + 1 + 1) b o q x y (fnV f cs) wb := ⟨X, HD.ext (Ext.call hBb) (hR2.call hJ hBb).cell0⟩
   have hqb := hqa.below hbb hqa.lt
   have hq1 : W1.drew.heap.size ≤ W1.heap.size := Nat.le_refl _
   refine ⟨_, rfl, hSb, ?_⟩
   simp only [Act.put, sA, s0, sS]
   refine takeAt 7 10 (.tuple #[.agg (spA z p), .bool bb]) rfl rfl (by kernel_rfl) (by kernel_rfl) (by kernel_rfl) (fun _ _ _ h => h) (yields (by rfl) (fun w => by kernel_rfl)) hSb ?_
   simp only [Act.put, sA, s0, sS]
   refine takeAt 8 18 (.agg (spA z p)) rfl rfl (by kernel_rfl) (by kernel_rfl) (by kernel_rfl) (fun _ _ _ h => h) (yields (by rfl) (fun w => by kernel_rfl)) hSb ?_
   simp only [Act.put, sA, s0, sS]
   refine takeAt 9 19 (.bool bb) rfl rfl (by kernel_rfl) (by kernel_rfl) (by kernel_rfl) (fun _ _ _ h => h) (yields (by rfl) (fun w => by kernel_rfl)) hSb ?_
   simp only [Act.put, sA, s0, sS]
   have hmm : ∀ w4 : World, (∀ j, j ≠ W1.heap.size → w4.heap[j]? = wb.heap[j]?) → W1.drew.heap.size ≤ W1.heap.size → match F y with | some u => bb = true ∧ ∃ q', z = (u.1 : Int) ∧ p = some ⟨q', 0, none⟩ ∧ BoxV 44 w4 q' (cpC u.2) ∧ ¬ X q' | none => bb = false := by
    intro w4 h4 _
    have hql := HD.cb.box.lt
    have hsa : (W1.drew.alloc (.cells (spA 0 none) 93)).heap.size = W1.heap.size + 1 := by simp
    revert hm
    cases F y with
    | none => exact id
    | some v =>
      rintro ⟨e1, q2, e2, e3, e4, e5⟩
      have hne : q2 ≠ W1.heap.size := by
       rintro rfl
       have e : some (Obj.cells (cpC v.2) 44 (0, 0)) = some (.cells (spA 0 none) 93 (0, 0)) := e4.symm.trans hqb
       injection e with e
       injection e with _ e
       exact absurd e (by decide)
      exact ⟨e1, q2, e2, e3, (h4 q2 hne).trans e4, e5⟩
   obtain ⟨w3, hw3⟩ : ∃ w3, wb.setRow W1.heap.size (spA z p) = w3 := ⟨_, rfl⟩
   have hq3 : BoxV 93 w3 W1.heap.size (spA z p) := by rw [← hw3]; exact setRow_heap _ _ _ _ _ _ hqb
   have hB3 : Below W1.drew.heap.size W1.drew w3 := by rw [← hw3]; exact hBb.trans ((setRow_below _ _ _).mono hq1)
   have hS3 : TBs R g w.heap.size (w.heap.size + 1) (w.heap.size + 1 + 1) (w.heap.size + 1 + 1 + 1) b o q x y (fnV f cs) w3 := ⟨X, HD.ext (Ext.call hB3) (hR2.call hJ hB3).cell0⟩
   refine rowAt 11 93 W1.heap.size (spA 0 none) (spA z p) rfl rfl rfl (by kernel_rfl) (by rfl) rfl rfl hqb sizeX rfl (by simp [Value.oneCell']) (by rw [hw3]; exact hS3) ?_
   rw [hw3]
   refine takeAt 12 9 (.bool bb) rfl rfl (by kernel_rfl) (by kernel_rfl) (by kernel_rfl) (fun _ _ _ h => h) (yields (by rfl) (fun w => by kernel_rfl)) hS3 ?_
   simp only [Act.put, sA, s0, sS]
   refine wpAnyH_done (by kernel_rfl) ?_ _
   have hm3 := hmm w3 (by rw [← hw3]; intro j hj; exact setRow_other _ _ _ _ hj) hq1
   have hE3 := hE2.trans (Ext.call (X := X) hB3)
   have hR3 := hR2.call hJ hB3
   have ht3 := ((HD.ext (Ext.call hB3) hR3.cell0).tb).box.get 0 rfl
   have hz0 := hq3.get 0 rfl
   have hz1 := hq3.get 1 rfl
   have HQ3 := Lib.hid hq3
   clear hS3 hw3 hq3 hqb hSb hBb
   cases hFy : F y with
   | none =>
     rw [hFy] at hm3 hbig
     obtain rfl : bb = false := hm3
     clear hz0 hz1
     go_wp2_with fail
     go_end0
     refine ⟨X, [], none, true, ⟨_, rfl⟩, hE3, by simpa using hR3, fun _ => rfl, rfl⟩
   | some v =>
     rw [hFy] at hm3 hbig
     obtain ⟨rfl, q2, rfl, rfl, h4, h5⟩ := hm3
     rw [show oneE (some v) = [some v] from rfl, evB_some, evB_nil, List.append_nil] at hbig ⊢
     have hq2X : ¬ X q2 := h5
     have HC := hK X w3 S pre v q2 f cs ⟨h4, hq2X⟩ (hfw y v hy hFy) (hv.ext hE3) hR3 hbig
     clear hK
     go_wp2_with fail
     rw [hent, Oper.upon_enter]
     with_reducible refine HC.mono ?_
     rintro e w' ⟨X', T, o2, m, ⟨z9, rfl⟩, hE', hR', h6, h7⟩
     clear HC hent
     go_wp2_with fail
     go_end0
     exact ⟨X', T, o2, m, ⟨_, rfl⟩, hE3.trans hE', hR', h6, by rw [hFy, show oneE (some v) = [some v] from rfl, evB_some, evB_nil, List.append_nil]; exact h7⟩
set_option maxRecDepth 100000 in
set_option maxHeartbeats 400000 in
theorem tell_rep {R : Rd} {g : Nat} {rv : Value} {J : List Sp → Bool → (Nat → Prop) → World → Prop} (hJ : Told J) {x : Nd} {bk : Nat} {ra : Re} {k : Kon} (hk : x.k = 10) (hmd : x.md ≠ 2) (hok : (Re.one x bk ra).ok R) (hl : (Re.one x bk ra).lite R.s.size) (hB : BehOk R g rv J x ra k) : TellOk R g rv J (.one x bk ra) k := by
 intro X w S pre y q b o f cs hb hX hn hc hy hv hr hbig
 have hE : outsE R.s (.one x bk ra) y = turnE R.s.size (outsE R.s ra) x.mn x.mx (lzB x) 0 y := by rw [outsE, if_neg (by omega), if_pos ⟨hk, hmd⟩]
 rw [hE] at hbig ⊢
 obtain ⟨-, ⟨i, hi, hi1, hi2, -⟩, hia⟩ := hok.is
 obtain ⟨hfi, hff⟩ := hok.fine
 have hrep : RepA R x ra 0 y.1 := ⟨hk, hmd, ⟨i, hi, hi1, hi2⟩, ⟨hia, hff, by have := hok.sz; simp only [Re.sz] at this; omega⟩, fun h => hl.1 (fun e => h e.2), hfi hk, fun h => by omega, by omega, hy⟩
 have HT := Lib.hid (turns_any hJ hB)
 have HT2 := Lib.hid (TBx.new (tv := fnV f cs) hr hJ hb hX hn hc)
 have hk0 := HT2.out.nd.1
 have hk9 := HT2.out.nd.2.2.2.2.2.2.2.2.2.1
 rw [show (Re.one x bk ra).root = x from rfl, hk] at hk0
 rw [show (Re.one x bk ra).root = x from rfl] at hk9
 have q9 : (x.md == 2) = false := beq_eq_false_iff_ne.2 hmd
 clear hn hE hfi hff hB hk hmd
 go_enter Tryz.func99, Tryz.ntmps99
 have hx0 := HT2.out.xb.box.get 0 rfl
 have hx1 := HT2.out.xb.box.get 1 rfl
 go_wp2_with fail
 obtain ⟨W1, hW1⟩ : ∃ W1, ((((w.alloc (.cells #[ptr g] 169)).alloc (.cells #[.pointer (some ⟨b, o, none⟩)] 129)).alloc (.cells #[.int .i64 (y.1 : Int), ptr q] 93)).alloc (.cells #[fnV f cs] 174)) = W1 := ⟨_, rfl⟩
 have hB1 : Below w.heap.size w W1 := by rw [← hW1]; go_grown
 have HD := HT2.out
 rw [hW1] at HD ⊢
 have hR1 := hr.call hJ hB1
 have HC := HT.out X W1 S pre y q b o f cs HD.nl HD.nX HD.nd HD.cb hrep (hv.ext (Ext.call hB1)) hR1 hbig
 clear hk0 hk9 hW1 HT2 HT hx0 hx1
 with_reducible refine HC.mono ?_
 rintro e w' ⟨X', T, o2, m, ⟨z9, rfl⟩, hE', hR', h6, h7⟩
 clear HC
 go_wp2_with fail
 go_end0
 exact ⟨X', T, o2, m, ⟨_, rfl⟩, (Ext.call hB1).trans hE', hR', h6, h7⟩
end Go.Proofs.YteiboobdhjdjkaaGreatDoor.Nai
namespace Go.Proofs.YteiboobdhjdjkaaGreatDoor.Nai
open Go.RowKit
open Cap (Cp withZ cpC BoxV)
theorem RunO.top {R : Rd} {g : Nat} {rv : Value} {J : List Sp → Bool → (Nat → Prop) → World → Prop} {X : Nat → Prop} {w : World} {S : List Tas} {t : Tas} {pre : List Sp} {m : Bool} {v : Value} {O : Nat → Prop} {cs : List Value}
  (h : RunO R g rv J X w (t :: S) pre m v O cs) : ∃ ob cap f c cur ds, v = .slice (some ⟨ob, 0, none⟩) (S.length + 1) cap ∧ BoxV 1 w ob cur ∧ cur[S.length]? = some (fnV f c) ∧ Ent f ∧ TAt R g rv X w t (fnV f c) ∧ cs = ds ++ [fnV f c] ∧ ds.length = S.length ∧ cur.size = cap ∧ cap ≤ maxLen ∧ S.length + 1 ≤ cap ∧ cur.toList.take (S.length + 1) = ds ++ [fnV f c] := by
 have hl := h.own.1
 rw [Nat.mul_one, List.length_cons] at hl
 have hts := h.ts
 obtain ⟨ds, d, rfl⟩ : ∃ ds d, cs = ds ++ [d] := ⟨cs.dropLast, cs.getLast (by intro e; rw [e] at hl; simp at hl), (List.dropLast_concat_getLast _).symm⟩
 rw [List.reverse_append] at hts
 obtain ⟨ht, -⟩ := hts
 obtain ⟨f, c, rfl, he⟩ := TAt.form ht
 have hd : ds.length = S.length := by simp at hl; omega
 rcases h.own.2 with ⟨_, e⟩ | ⟨ob, cap, cur, rfl, _, h1, h2, h3, h4, h5⟩
 ·simp at e
 ·rw [Nat.mul_one] at h4 h5
  rw [List.length_cons] at h2 h5
  have h6 := congrArg (fun l => l[S.length]?) h5
  simp only [List.getElem?_take, Nat.lt_succ_self, if_true] at h6
  rw [List.getElem?_append_right (by omega), hd, Nat.sub_self] at h6
  exact ⟨ob, cap, f, c, cur, ds, rfl, h1, by simpa using h6, he, ht, rfl, hd, h4, h3, h2, h5⟩
theorem RunO.pop {R : Rd} {g : Nat} {rv : Value} {J : List Sp → Bool → (Nat → Prop) → World → Prop} (hJ : Told J) {X : Nat → Prop} {w : World} {S : List Tas} {t : Tas} {pre : List Sp} {O : Nat → Prop} {ds : List Value} {ob cap : Nat} {cur : Array Value} {f : Value}
  (h : RunO R g rv J X w (t :: S) pre true (.slice (some ⟨ob, 0, none⟩) (S.length + 1) cap) O (ds ++ [f])) (hb : BoxV 1 w ob cur) (hds : ds.length = S.length) (hc : cur.size = cap) (hm : cap ≤ maxLen) (hle : S.length + 1 ≤ cap) (htk : cur.toList.take (S.length + 1) = ds ++ [f]) :
  Ext X X w ((w.setCell ⟨ob, S.length, none⟩ .nilFunc).setCell ⟨g, 1, none⟩ (.slice (some ⟨ob, 0, none⟩) S.length cap)) ∧
  RunO R g rv J X ((w.setCell ⟨ob, S.length, none⟩ .nilFunc).setCell ⟨g, 1, none⟩ (.slice (some ⟨ob, 0, none⟩) S.length cap)) S pre true (.slice (some ⟨ob, 0, none⟩) S.length cap) O ds := by
 obtain ⟨hoX, hog, hoO⟩ := h.vX ob rfl
 have keep : ∀ b, b ≠ g → b ≠ ob → ((w.setCell ⟨ob, S.length, none⟩ .nilFunc).setCell ⟨g, 1, none⟩ (.slice (some ⟨ob, 0, none⟩) S.length cap)).heap[b]? = w.heap[b]? := fun b h1 h2 =>
  (heap_setCell_other _ _ _ _ h1).trans (heap_setCell_other _ _ _ _ h2)
 have hB : Below 0 w ((w.setCell ⟨ob, S.length, none⟩ .nilFunc).setCell ⟨g, 1, none⟩ (.slice (some ⟨ob, 0, none⟩) S.length cap)) := ((Below.refl 0 w).setCell (Nat.zero_le _) _).setCell (Nat.zero_le _) _
 have hE : Ext X X w ((w.setCell ⟨ob, S.length, none⟩ .nilFunc).setCell ⟨g, 1, none⟩ (.slice (some ⟨ob, 0, none⟩) S.length cap)) := ⟨hB, fun b _ hx => ⟨keep b (fun e => hx (e ▸ h.gX)) (fun e => hx (e ▸ hoX)), hx⟩, fun _ h => h⟩
 have hg1 : BoxV 172 (w.setCell ⟨ob, S.length, none⟩ .nilFunc) g #[ptr R.rb, .slice (some ⟨ob, 0, none⟩) (S.length + 1) cap] := (heap_setCell_other _ _ _ _ (fun e => hog e.symm)).trans h.box
 have ho1 := hb.put S.length .nilFunc
 have ho2 : BoxV 1 ((w.setCell ⟨ob, S.length, none⟩ .nilFunc).setCell ⟨g, 1, none⟩ (.slice (some ⟨ob, 0, none⟩) S.length cap)) ob (cur.setIfInBounds S.length .nilFunc) := (heap_setCell_other _ _ _ _ hog).trans ho1
 refine ⟨hE, ?_⟩
 exact {
  rd := h.rd.ext hE
  gX := h.gX
  box := hg1.put 1 _
  own := by
   refine ⟨by simpa using hds, .inr ⟨ob, cap, cur.setIfInBounds S.length .nilFunc, rfl, Nat.zero_le _, ho2, by omega, hm, by simpa using hc, ?_⟩⟩
   have h7 := congrArg (List.take S.length) htk
   rw [List.take_take, Nat.min_eq_left (by omega), List.take_left' hds] at h7
   rw [Nat.mul_one, Array.toList_setIfInBounds, List.take_set_of_le (Nat.le_refl _)]
   exact h7
  vX := fun b hb => h.vX b hb
  ts := by
   have := h.ts
   rw [List.reverse_append] at this
   exact this.2.ext hE
  told := hJ.keep h.told hB fun b hb => keep b (fun e => h.og (e ▸ hb)) (fun e => hoO (e ▸ hb))
  oX := h.oX
  og := h.og
  xlt := fun b hb => by have := h.xlt b hb; simpa [World.setCell] using this }
set_option maxRecDepth 100000 in
theorem next_any {R : Rd} {g : Nat} {rv : Value} {J : List Sp → Bool → (Nat → Prop) → World → Prop} (hJ : Told J) {X : Nat → Prop} {w : World} {S : List Tas} {t : Tas} {pre : List Sp}
  (h : Run R g rv J X w (t :: S) pre true) (ht : TasOk R g rv J t) (hbig : S.length + (tE R.s t).length ≤ Big) :
  Calls Tryz.prog 101 #[ptr g] w (Does R g rv J X w S pre (tE R.s t)) := by
 obtain ⟨v, O, cs, h⟩ := h
 obtain ⟨ob, cap, f, c, cur, ds, rfl, hb, hcell, hent, hT, rfl, hds, hc, hm, hle, htk⟩ := h.top
 obtain ⟨hE, hR⟩ := h.pop hJ hb hds hc hm hle htk
 have c0 := h.box.get 1 rfl
 have c1 := hb.get S.length hcell
 have f1 := hb.free S.length
 have hg1 : BoxV 172 (w.setCell ⟨ob, S.length, none⟩ .nilFunc) g #[ptr R.rb, .slice (some ⟨ob, 0, none⟩) (S.length + 1) cap] := (heap_setCell_other _ _ _ _ (fun e => (h.vX ob rfl).2.1 e.symm)).trans h.box
 have c2 := hg1.get 1 rfl
 have f2 := hg1.free 1
 have HC := Lib.hid (ht X _ S pre f c (hT.ext hE) ⟨_, O, ds, hR⟩ hbig)
 have HE := Lib.hid hE
 have hn0 : (0 : Int) ≤ (S.length : Int) := by omega
 have hn1 : (S.length : Int) < (S.length : Int) + 1 := by omega
 have hn2 : (S.length : Int) ≤ (cap : Int) := by omega
 have hn3 : S.length ≤ cap := by omega
 have hn4 : (S.length : Int) + 1 ≤ 9223372036854775807 := by unfold maxLen at hm; omega
 clear h hE hR hT hg1 hb ht htk hcell hds hc hm hle
 go_enter Tryz.func101, Tryz.ntmps101
 go_wp2_with fail
 rw [hent, Oper.upon_enter]
 have HCo := HC.out
 with_reducible refine HCo.mono ?_
 rintro e w' ⟨X', T, o2, m, ⟨z9, rfl⟩, hE', hR', h6, h7⟩
 clear HC HCo c0 c1 c2 f1 f2
 go_wp2_with fail
 go_end0
 exact ⟨X', T, o2, m, ⟨_, rfl⟩, HE.out.trans hE', hR', h6, h7⟩
end Go.Proofs.YteiboobdhjdjkaaGreatDoor.Nai
namespace Go.Proofs.YteiboobdhjdjkaaGreatDoor.Nai
open Go.RowKit
open Ast (Nd At12 NodesAt kidsZ)
open Cap (Cp withZ cpC BoxV)
def Kon.good (R : Rd) : Kon → Prop
 | .root => True
 | .cat b k => b.ok R ∧ b.lite R.s.size ∧ k.good R
 | .grp _ _ k => k.good R
 | .turn _ _ _ _ k => k.good R
theorem KAt.good {R : Rd} {g : Nat} {rv : Value} {X : Nat → Prop} {w : World} : ∀ {k : Kon} {v : Value}, KAt R g rv X w k v → k.good R
 | .root, _, _ => trivial
 | .cat _ _, _, ⟨_, _, _, _, _, _, _, _, _, h1, h2, _, h3⟩ => ⟨h1, h2, KAt.good h3⟩
 | .grp _ _ k, _, ⟨_, _, _, _, _, _, _, _, _, _, _, _, _, h⟩ => show k.good R from KAt.good h
 | .turn _ _ _ _ k, _, ⟨_, _, _, _, _, _, _, _, _, _, _, _, _, _, h⟩ => show k.good R from KAt.good h
theorem kids_cases (k : Int) : kidsZ k = 0 ∧ k ≠ 8 ∧ k ≠ 9 ∧ k ≠ 10 ∧ k ≠ 11 ∧ k ≠ 13 ∧ k ≠ 14 ∧ k ≠ 15 ∧ k ≠ 16 ∧ k ≠ 17 ∨ kidsZ k = 1 ∧ (k = 10 ∨ k = 11 ∨ k = 13 ∨ k = 14 ∨ k = 15 ∨ k = 16 ∨ k = 17) ∨ kidsZ k = 2 ∧ (k = 8 ∨ k = 9) := by
 unfold kidsZ
 (repeat' split) <;> omega
theorem Re.sz_pos : ∀ r : Re, 1 ≤ r.sz
 | .leaf _ => Nat.le_refl _
 | .two _ a b => by simp only [Re.sz]; omega
 | .one x _ a => by simp only [Re.sz]; split <;> omega
structure Given (R : Rd) : Prop where
 s : R.s.size ≤ 100000000
 bk : ∀ i, i < R.n → R.bk i ≤ 100000000
 lib : Cap.LibOk
 first : ∀ r : Re, IsRe R.l R.bk R.n r → r.fine → r.lite R.s.size → r.sz < R.N → FirstOk R r
theorem only_any {R : Rd} (G : Given R) : ∀ r : Re, r.ok R → r.lite R.s.size → (∀ x a b, r ≠ .two x a b) → r.root.k ≠ 11 → (r.root.k = 10 → r.root.md = 2) → ∃ F : Sp → Option Sp, (∀ y, outsE R.s r y = oneE (F y)) ∧ OnlyOk R r.root F
 | .two x a b, _, _, h, _, _ => absurd rfl (h x a b)
 | .leaf x, hok, _, _, _, _ => by
   refine ⟨leafE R.s x, fun _ => rfl, fun X w y q b o hb hn hc hy hR hq hxl => ?_⟩
   have hk0 : kidsZ x.k = 0 := hok.is
   have hn : At12 w b o x := hn
   by_cases h0 : x.k = 0
   ·exact only_0 h0 w y q b o hb hn hc hy hR hq hxl
   ·by_cases h1 : x.k = 1
    ·exact only_1 G.s h1 (hok.fine h1) w y q b o hb hn hc hy hR hq hxl
    ·by_cases h12 : x.k = 12
     ·exact only_12 G.s G.lib h12 w y q b o hb hn hc hy hR hq hxl
     ·have := kids_cases x.k
      exact only_hold G.s (by omega) w y q b o hb hn hc hy hR hq hxl
 | .one x bk a, hok, hl, _, h11, h10 => by
   have hk := hok.is.1
   obtain ⟨i, hi, hi1, hi2, hbk⟩ := hok.is.2.1
   have hia := hok.is.2.2
   have hsz := hok.sz
   have h11 : x.k ≠ 11 := h11
   have h10 : x.k = 10 → x.md = 2 := h10
   refine ⟨onlyE R.s.size (outsE R.s a) x bk, fun y => ?_, fun X w y q b o hb hn hc hy hR hq hxl => ?_⟩
   ·rw [outsE, if_neg h11, if_neg (fun e => e.2 (h10 e.1))]
   ·have hn : At12 w b o x := hn
    have hF : x.k ≠ 10 → FirstOk R a := fun h => G.first a hia hok.fine.2 (hl.1 (fun e => h e.1)) (by simp only [Re.sz] at hsz; split at hsz <;> omega)
    have hc7 := kids_cases x.k
    by_cases c10 : x.k = 10
    ·refine only_10 (G.first (.one { x with md := 0 } bk a) ⟨hk, ⟨i, hi, hi1, hi2, hbk⟩, hia⟩ ⟨fun e => ?_, hok.fine.2⟩ ⟨hl.1, ?_⟩ ?_) c10 w y q b o hb hn hc hy hR hq hxl
     ·have := hok.fine.1 e
      exact ⟨this.1, this.2.1, this.2.2.1, this.2.2.2.1, by show (0 : Int) ≤ 0; omega, by show (0 : Int) ≤ 2; omega⟩
     ·have h2 := hl.2
      rw [work_one, if_pos c10] at h2
      rw [work_one, if_pos (show ({ x with md := 0 } : Nd).k = 10 from c10)]
      exact h2
     ·simp only [Re.sz] at hsz ⊢
      rw [if_pos ⟨c10, h10 c10⟩] at hsz
      rw [if_neg (fun e => absurd e.2 (by decide))]
      omega
    ·by_cases c17 : x.k = 17
     ·exact only_17 hi hi1 hi2 (hF c10) c17 w y q b o hb hn hc hy hR hq hxl
     ·by_cases cp : x.k = 13 ∨ x.k = 15
      ·exact only_pos G.s hi hi1 hi2 (hbk (by omega)) (by rw [← hbk (by omega)]; exact G.bk i hi) (hF c10) cp w y q b o hb hn hc hy hR hq hxl
      ·exact only_neg G.s hi hi1 hi2 (hbk (by omega)) (by rw [← hbk (by omega)]; exact G.bk i hi) (hF c10) (by omega) w y q b o hb hn hc hy hR hq hxl
section
variable {R : Rd} {g : Nat} {rv : Value} {J : List Sp → Bool → (Nat → Prop) → World → Prop}
theorem tell_all (hJ : Told J) (hrv : ∃ f cs, rv = fnV f cs ∧ Ent f) (G : Given R) (hroot : KonOk R g rv J .root) : ∀ m, (∀ k : Kon, k.sz ≤ m → k.good R → KonOk R g rv J k) ∧ (∀ (r : Re) (k : Kon), r.sz + k.sz ≤ m → r.ok R → r.lite R.s.size → k.good R → TellOk R g rv J r k) := by
 intro m
 induction m with
 | zero =>
   refine ⟨fun k hk hg => ?_, fun r k h => ?_⟩
   ·cases k with
    | root => exact hroot
    | _ => simp only [Kon.sz] at hk; omega
   ·have := r.sz_pos; omega
 | succ m ih =>
   obtain ⟨ihK, ihT⟩ := ih
   have hK : ∀ k : Kon, k.sz ≤ m + 1 → k.good R → KonOk R g rv J k := by
    intro k hk hg
    cases k with
    | root => exact hroot
    | cat b k =>
      simp only [Kon.sz] at hk
      exact kon_cat hJ hrv (ihT b k (by omega) hg.1 hg.2.1 hg.2.2)
    | grp gn p k =>
      simp only [Kon.sz] at hk
      exact kon_grp hJ hrv (ihK k (by omega) hg)
    | turn x a j p k =>
      simp only [Kon.sz] at hk
      exact kon_turn hJ G.s (beh_any hJ hrv (ihK k (by omega) hg))
   refine ⟨hK, fun r k hm hok hl hg => ?_⟩
   have only : (∀ x a b, r ≠ .two x a b) → r.root.k ≠ 11 → (r.root.k = 10 → r.root.md = 2) → r.root.k ≠ 8 → r.root.k ≠ 9 → TellOk R g rv J r k := fun h1 h2 h3 h8 h9 => by
    obtain ⟨F, hF, hO⟩ := only_any G r hok hl h1 h2 h3
    have hpos := r.sz_pos
    refine tell_only hJ hrv (fun y _ => hF y) (fun y z hy hz => ?_) hO h8 h9 h2 h3 (ihK k (by omega) hg)
    have := outsE_fwd R.s r y hy z (by rw [hF y, hz]; exact List.mem_cons_self ..)
    exact this.2
   cases r with
   | leaf x =>
     have := kids_cases x.k
     have h0 : kidsZ x.k = 0 := hok.is
     exact only (fun _ _ _ e => by cases e) (show x.k ≠ 11 by omega) (fun e => absurd e (show x.k ≠ 10 by omega)) (show x.k ≠ 8 by omega) (show x.k ≠ 9 by omega)
   | two x a b =>
     simp only [Re.sz] at hm
     have hsz := hok.sz
     simp only [Re.sz] at hsz
     have oka : a.ok R := ⟨hok.is.2.2.1, hok.fine.1, by omega⟩
     have okb : b.ok R := ⟨hok.is.2.2.2.2, hok.fine.2, by omega⟩
     have hc7 := kids_cases x.k
     have h2 := hok.is.1
     by_cases h8 : x.k = 8
     ·exact tell_cat hJ h8 hok hl (ihT a (.cat b k) (by simp only [Kon.sz]; omega) oka hl.1 ⟨okb, hl.2.1, hg⟩)
     ·exact tell_alt hJ (by omega) hok hl (ihT a k (by omega) oka hl.1 hg)
   | one x bk a =>
     have hsz := hok.sz
     simp only [Re.sz] at hsz hm
     have hle : 2 ≤ (if x.k = 10 ∧ x.md = 2 then 3 else 2) := by split <;> omega
     have oka : a.ok R := ⟨hok.is.2.2, hok.fine.2, by omega⟩
     by_cases h11 : x.k = 11
     ·exact tell_grp hJ h11 hok (fun p => ihT a (.grp x.n p k) (by simp only [Kon.sz]; omega) oka (hl.1 (fun e => by omega)) hg)
     ·by_cases h10 : x.k = 10 ∧ x.md ≠ 2
      ·exact tell_rep hJ h10.1 h10.2 hok hl (beh_any hJ hrv (ihK k (by omega) hg))
      ·have hc7 := kids_cases x.k
       have h1 : kidsZ x.k = 1 := hok.is.1
       exact only (fun _ _ _ e => by cases e) h11 (fun e => Decidable.byContradiction fun h => h10 ⟨e, h⟩) (show x.k ≠ 8 by omega) (show x.k ≠ 9 by omega)
theorem TAt.tasOk (hJ : Told J) (hrv : ∃ f cs, rv = fnV f cs ∧ Ent f) (G : Given R) (hroot : KonOk R g rv J .root) {X : Nat → Prop} {w : World} : ∀ {t : Tas} {v : Value}, TAt R g rv X w t v → TasOk R g rv J t
 | .tell r y k, _, ⟨_, _, _, _, _, _, _, _, _, _, h1, h2, _, _, _, h3⟩ => tas_tell hJ hrv ((tell_all hJ hrv G hroot _).2 r k (Nat.le_refl _) h1 h2 h3.good)
 | .on x a j y k, _, ⟨_, _, _, _, _, _, _, _, _, _, _, _, h1, h2, h3⟩ => tas_on hJ hrv ((tell_all hJ hrv G hroot _).2 a (.turn x a j y.1 k) (Nat.le_refl _) h1.2.2.2.1 (h1.2.2.2.2.1 (fun e => by have := h2 (by omega); omega)) h3.good)
 | .fin y k, _, ⟨_, _, _, _, _, h, _⟩ => tas_fin hJ hrv ((tell_all hJ hrv G hroot _).1 k (Nat.le_refl _) h.good)
end
end Go.Proofs.YteiboobdhjdjkaaGreatDoor.Nai
namespace Go.Proofs.YteiboobdhjdjkaaGreatDoor.Nai
open Go.RowKit
open Ast (Nd At12 NodesAt kidsZ)
open Cap (Cp withZ cpC BoxV)
structure ExtO (O O' : Nat → Prop) (w w' : World) : Prop where
 below : Below 0 w w'
 keep : ∀ b, b < w.heap.size → ¬ O b → w'.heap[b]? = w.heap[b]? ∧ ¬ O' b
structure Cons (R : Rd) (l : Nat) (J : List Sp → Bool → (Nat → Prop) → World → Prop) : Prop where
 told : Told J
 round : ∀ (pre : List Sp) (O : Nat → Prop) (w : World) (y : Sp) (q : Nat), J pre true O w → BoxV 44 w q (cpC y.2) → ¬ O q → y.1 ≤ R.s.size →
  YieldAt Fence.wide 0 Tryz.prog l #[spV y q] w fun e w' => ∃ m O', e = .returned (.bool m) ∧ J (pre ++ [y]) m O' w' ∧ ExtO O O' w w'
def MoreJ (J : List Sp → Bool → (Nat → Prop) → World → Prop) (l mb yb : Nat) (pre : List Sp) (m : Bool) (O : Nat → Prop) (w : World) : Prop :=
 ∃ O0, J pre m O0 w ∧ BoxV 4 w mb #[.bool m] ∧ BoxV 168 w yb #[.func (.yield l) #[] #[]] ∧ (∀ b, O b ↔ O0 b ∨ b = mb ∨ b = yb) ∧ ¬ O0 mb ∧ ¬ O0 yb
theorem MoreJ.told {J : List Sp → Bool → (Nat → Prop) → World → Prop} (hJ : Told J) (l mb yb : Nat) : Told (MoreJ J l mb yb) where
 own := by
  rintro pre m O w ⟨O0, h1, h2, h3, h4, -⟩ b hb
  rcases (h4 b).1 hb with h | rfl | rfl
  ·exact hJ.own h1 b h
  ·exact h2.lt
  ·exact h3.lt
 keep := by
  rintro pre O w w' ⟨O0, h1, h2, h3, h4, h5, h6⟩ hB hs
  exact ⟨O0, hJ.keep h1 hB (fun b hb => hs b ((h4 b).2 (.inl hb))), (hs mb ((h4 mb).2 (.inr (.inl rfl)))).trans h2, (hs yb ((h4 yb).2 (.inr (.inr rfl)))).trans h3, h4, h5, h6⟩
 cell := by
  rintro pre m O w mb2 b0 b ⟨O0, h1, h2, h3, h4, h5, h6⟩ hb hn
  exact ⟨O0, hJ.cell b h1 hb (fun e => hn ((h4 _).2 (.inl e))), (heap_setCell_other _ _ _ _ (fun e => hn (by have e : mb = mb2 := e; rw [← e]; exact (h4 mb).2 (.inr (.inl rfl))))).trans h2, (heap_setCell_other _ _ _ _ (fun e => hn (by have e : yb = mb2 := e; rw [← e]; exact (h4 yb).2 (.inr (.inr rfl))))).trans h3, h4, h5, h6⟩
theorem root_ok {R : Rd} {l : Nat} {J : List Sp → Bool → (Nat → Prop) → World → Prop} (C : Cons R l J) (g mb yb : Nat) (hne : mb ≠ yb) : KonOk R g (fnV 100 #[ptr yb, ptr mb]) (MoreJ J l mb yb) .root := by
 intro X w S pre y q f cs hc hy hv hr hbig
 have hv' : fnV f cs = fnV 100 #[ptr yb, ptr mb] := hv
 cases hv'
 obtain ⟨v, O, cs2, h⟩ := hr
 obtain ⟨O0, hJ0, hm, hyb, hO, hn1, hn2⟩ := h.told
 obtain ⟨w1, hw1⟩ : ∃ w1, w.alloc (.cells #[.int .i64 (y.1 : Int), ptr q] 93) = w1 := ⟨_, rfl⟩
 have hB : Below w.heap.size w w1 := by rw [← hw1]; exact (Below.refl _ _).alloc (Nat.le_refl _) _
 have hO0 : ∀ b, O0 b → b < w.heap.size := fun b hb => C.told.own hJ0 b hb
 have hJ1 := C.told.keep hJ0 (hB.mono (Nat.zero_le _)) (fun b hb => hB.block b (hO0 b hb))
 have hY := C.round pre O0 w1 y q hJ1 (hc.box.below hB hc.box.lt) (fun e => hc.not (h.oX q ((hO q).2 (.inl e)))) hy
 refine (root_any l yb mb q y w (fun b W' => ∃ O', J (pre ++ [y]) b O' W' ∧ ExtO O0 O' w1 W') hyb (by
  rw [hw1]
  refine yield_mono hY ?_
  rintro e w' ⟨m, O', rfl, h1, h2⟩
  exact ⟨m, true, rfl, ((h2.keep mb (Nat.lt_of_lt_of_le hm.lt hB.size) hn1).1.trans (hB.block mb hm.lt)).trans hm, O', h1, h2⟩)).mono ?_
 rintro e w' ⟨⟨z, rfl⟩, b, W', ⟨O', h1, h2⟩, rfl⟩
 have hO' : ∀ c, O' c → c < W'.heap.size := fun c hc => C.told.own h1 c hc
 have hk : ∀ c, c < w.heap.size → ¬ O0 c → c ≠ mb → (W'.setCell ⟨mb, 0, none⟩ (.bool b)).heap[c]? = w.heap[c]? ∧ ¬ O' c := fun c hc ho hn =>
  ⟨(heap_setCell_other _ _ _ _ hn).trans ((h2.keep c (Nat.lt_of_lt_of_le hc hB.size) ho).1.trans (hB.block c hc)), (h2.keep c (Nat.lt_of_lt_of_le hc hB.size) ho).2⟩
 have hBB : Below 0 w (W'.setCell ⟨mb, 0, none⟩ (.bool b)) := ((hB.mono (Nat.zero_le _)).trans h2.below).setCell (Nat.zero_le _) _
 have hmb1 : BoxV 4 W' mb #[.bool true] := ((h2.keep mb (Nat.lt_of_lt_of_le hm.lt hB.size) hn1).1.trans (hB.block mb hm.lt)).trans hm
 have hnm : ¬ O' mb := (h2.keep mb (Nat.lt_of_lt_of_le hm.lt hB.size) hn1).2
 have hny : ¬ O' yb := (h2.keep yb (Nat.lt_of_lt_of_le hyb.lt hB.size) hn2).2
 have hEx : Ext X (fun c => X c ∨ O' c) w (W'.setCell ⟨mb, 0, none⟩ (.bool b)) := by
  refine ⟨hBB, fun c hcl hx => ?_, fun _ h => .inl h⟩
  have ho : ¬ O0 c := fun e => hx (h.oX c ((hO c).2 (.inl e)))
  have hn : c ≠ mb := fun e => hx (h.oX c ((hO c).2 (.inr (.inl e))))
  obtain ⟨k1, k2⟩ := hk c hcl ho hn
  exact ⟨k1, fun e => e.elim hx k2⟩
 have hlt := h.lt (C.told |> fun t => MoreJ.told t l mb yb)
 have far : ∀ c, c = g ∨ v.ownBlock = some c → c < w.heap.size ∧ ¬ O c := fun c hc => by
  rcases hc with rfl | hc
  ·exact ⟨hlt _ (.inl rfl), h.og⟩
  ·exact ⟨hlt _ (.inr (.inl hc)), (h.vX c hc).2.2⟩
 have same : ∀ c, c = g ∨ v.ownBlock = some c → (W'.setCell ⟨mb, 0, none⟩ (.bool b)).heap[c]? = w.heap[c]? ∧ ¬ O' c := fun c hc => by
  obtain ⟨k1, k2⟩ := far c hc
  exact hk c k1 (fun e => k2 ((hO c).2 (.inl e))) (fun e => k2 ((hO c).2 (.inr (.inl e))))
 have notO : ∀ c, c = g ∨ v.ownBlock = some c → ¬ (O' c ∨ c = mb ∨ c = yb) := fun c hc e => by
  obtain ⟨k1, k2⟩ := far c hc
  rcases e with e | e | e
  ·exact (same c hc).2 e
  ·exact k2 ((hO c).2 (.inr (.inl e)))
  ·exact k2 ((hO c).2 (.inr (.inr e)))
 refine ⟨fun c => X c ∨ O' c, [], some y, b, ⟨_, rfl⟩, hEx, ⟨v, fun c => O' c ∨ c = mb ∨ c = yb, cs2, ?_⟩, (fun e => by cases e), rfl⟩
 exact {
  rd := h.rd.ext hEx
  gX := .inl h.gX
  box := (same g (.inl rfl)).1.trans h.box
  own := by
   refine ⟨h.own.1, ?_⟩
   rcases h.own.2 with e | ⟨ob, cap, cur, e, h0, k1, k2⟩
   ·exact .inl e
   ·exact .inr ⟨ob, cap, cur, e, h0, (same ob (.inr (by rw [e]; rfl))).1.trans k1, k2⟩
  vX := fun c hc => ⟨.inl (h.vX c hc).1, (h.vX c hc).2.1, notO c (.inr hc)⟩
  ts := h.ts.ext hEx
  told := ⟨O', C.told.cell b h1 hmb1 hnm, hmb1.put 0 (.bool b), (heap_setCell_other _ _ _ _ (fun e => hne e.symm)).trans (((h2.keep yb (Nat.lt_of_lt_of_le hyb.lt hB.size) hn2).1.trans (hB.block yb hyb.lt)).trans hyb), fun _ => Iff.rfl, hnm, hny⟩
  oX := by
   rintro c (e | e | e)
   ·exact .inr e
   ·exact .inl (h.oX c ((hO c).2 (.inr (.inl e))))
   ·exact .inl (h.oX c ((hO c).2 (.inr (.inr e))))
  og := notO g (.inl rfl)
  xlt := by
   rintro c (e | e)
   ·exact Nat.lt_of_lt_of_le (h.xlt c e) hBB.size
   ·have := hO' c e; simpa [World.setCell] using this }
theorem exists_least {p : Nat → Prop} : ∀ n, p n → ∃ m, p m ∧ ∀ k, p k → m ≤ k := by
 intro n
 induction n using Nat.strongRecOn with
 | _ n ih =>
   intro h
   by_cases hc : ∃ k, k < n ∧ p k
   ·obtain ⟨k, hk, hp⟩ := hc
    exact ih k hk hp
   ·exact ⟨n, h, fun k hk => Nat.le_of_not_lt fun hlt => hc ⟨k, hlt, hk⟩⟩
noncomputable def leastN (p : Nat → Prop) : Nat := open Classical in if h : ∃ n, p n then (exists_least h.choose h.choose_spec).choose else 0
theorem leastN_is {p : Nat → Prop} {n : Nat} (h : p n) : p (leastN p) ∧ ∀ k, p k → leastN p ≤ k := by
 have hx : ∃ n, p n := ⟨n, h⟩
 unfold leastN
 rw [dif_pos hx]
 exact (exists_least hx.choose hx.choose_spec).choose_spec
def IterI (R : Rd) (g mb yb l : Nat) (J : List Sp → Bool → (Nat → Prop) → World → Prop) (X : Nat → Prop) (w : World) (L : List Sp) (n : Nat) (u : World) : Prop :=
 ∃ X' S pre m, Ext X X' w u ∧ Run R g (fnV 100 #[ptr yb, ptr mb]) (MoreJ J l mb yb) X' u S pre m ∧ L = pre ++ outs (sE R.s S) ∧ (sE R.s S).length = n ∧ n ≤ 500000000
theorem owns_len {w : World} {base : Nat} {e : TypeId} {size n : Nat} {v : Value} {xs : List Value} (h : w.ownsRow base e size v n xs) : ∃ A c, v = .slice A n c := by
 rcases h.2 with ⟨rfl, rfl⟩ | ⟨b, cap, cur, rfl, _⟩
 ·exact ⟨_, _, rfl⟩
 ·exact ⟨_, _, rfl⟩
set_option maxRecDepth 100000 in
set_option maxHeartbeats 1000000 in
theorem iter_any {R : Rd} {r : Re} (G : Given R) (hok : r.ok R) (hl : r.lite R.s.size) {l : Nat} {J : List Sp → Bool → (Nat → Prop) → World → Prop} (C : Cons R l J) (X : Nat → Prop) (w : World) (y : Sp) (q b o rbx nbx xbx : Nat) (O : Nat → Prop)
  (hrb : BoxI X w 88 rbx #[ptr R.rb]) (hnb : BoxI X w 129 nbx #[.pointer (some ⟨b, o, none⟩)]) (hxb : BoxI X w 93 xbx (spA (y.1 : Int) (some ⟨q, 0, none⟩))) (hb : b < w.heap.size) (hbX : ¬ X b) (hn : At12 w b o r.root)
  (hc : BoxI X w 44 q (cpC y.2)) (hy : y.1 ≤ R.s.size) (hR : RdAt R X w) (hJ : J [] true O w) (hO : ∀ b, O b → X b) (hx : ∀ b, X b → b < w.heap.size) :
  Calls Tryz.prog 98 #[.func (.yield l) #[] #[], ptr rbx, ptr nbx, ptr xbx] w fun e w' => (∃ v, e = .returned v) ∧ ∃ told m O' X', J told m O' w' ∧ Ext X X' w w' ∧ (m = true → told = outs (outsE R.s r y)) ∧ told <+: outs (outsE R.s r y) := by
 have hlen := work_len R.s r hok.fine.reps y hy
 have hlw := lite_work hl
 have hlo := work_out R.s.size r
 obtain ⟨W2, hW2⟩ : ∃ W2, (w.alloc (.cells #[.func (.yield l) #[] #[]] 168)).alloc (.cells #[.bool true] 4) = W2 := ⟨_, rfl⟩
 have hB2 : Below w.heap.size w W2 := by rw [← hW2]; go_grown
 have hs2 : W2.heap.size = w.heap.size + 1 + 1 := by rw [← hW2]; simp
 obtain ⟨W3, hW3⟩ : ∃ W3, W2.alloc (.cells #[ptr R.rb, .slice none 0 0] 172) = W3 := ⟨_, rfl⟩
 have hB3 : Below w.heap.size w W3 := by rw [← hW3]; exact hB2.alloc (by omega) _
 have hs3 : W3.heap.size = w.heap.size + 1 + 1 + 1 := by rw [← hW3]; simp [hs2]
 have c1 := (hrb.box.below hB2 hrb.box.lt).get 0 rfl
 have c2 := (hnb.box.below hB3 hnb.box.lt).get 0 rfl
 have c3 := (hxb.box.below hB3 hxb.box.lt).get 0 rfl
 have c4 := (hxb.box.below hB3 hxb.box.lt).get 1 rfl
 have hyb3 : BoxV 168 W3 w.heap.size #[.func (.yield l) #[] #[]] := by rw [← hW3, ← hW2]; exact ((BoxV.new _ _).alloc _).alloc _
 have hmb3 : BoxV 4 W3 (w.heap.size + 1) #[.bool true] := by
  rw [← hW3, ← hW2]
  have := BoxV.new (T := 4) (w.alloc (.cells #[.func (.yield l) #[] #[]] 168)) #[.bool true]
  rw [World.size_alloc] at this
  exact this.alloc _
 have hgb3 : BoxV 172 W3 (w.heap.size + 1 + 1) #[ptr R.rb, .slice none 0 0] := by rw [← hW3, ← hs2]; exact BoxV.new _ _
 have HM := Lib.hid (root_ok C (w.heap.size + 1 + 1) (w.heap.size + 1) w.heap.size (by omega))
 have hrv : ∃ f cs, fnV 100 #[ptr w.heap.size, ptr (w.heap.size + 1)] = fnV f cs ∧ Ent f := ⟨_, _, rfl, enters_of Tryz.func100 (by kernel_rfl) rfl⟩
 have hJM := MoreJ.told C.told l (w.heap.size + 1) w.heap.size
 obtain ⟨X1, hX1⟩ : ∃ X1 : Nat → Prop, X1 = fun c => X c ∨ (c = w.heap.size ∨ c = w.heap.size + 1 ∨ c = w.heap.size + 1 + 1) := ⟨_, rfl⟩
 have hE3 : Ext X X1 w W3 := by rw [hX1]; exact (Ext.more X (fun c => c = w.heap.size ∨ c = w.heap.size + 1 ∨ c = w.heap.size + 1 + 1) w (fun c hc => .inl (by omega))).trans (.call hB3)
 have hOl : ∀ c, O c → c < w.heap.size := fun c hc => hx c (hO c hc)
 have hrun : Run R (w.heap.size + 1 + 1) (fnV 100 #[ptr w.heap.size, ptr (w.heap.size + 1)]) (MoreJ J l (w.heap.size + 1) w.heap.size) X1 W3 [] [] true := by
  refine ⟨.slice none 0 0, fun c => O c ∨ c = w.heap.size + 1 ∨ c = w.heap.size, [], ?_⟩
  exact {
   rd := hR.ext hE3
   gX := by rw [hX1]; exact .inr (.inr (.inr rfl))
   box := hgb3
   own := World.ownsRow_nil _ _ _ _
   vX := fun c hc => by cases hc
   ts := trivial
   told := ⟨O, C.told.keep hJ (hB3.mono (Nat.zero_le _)) (fun c hc => hB3.block c (hOl c hc)), hmb3, hyb3, fun _ => Iff.rfl, fun e => by have := hOl _ e; omega, fun e => by have := hOl _ e; omega⟩
   oX := by
    rw [hX1]
    rintro c (e | e | e)
    ·exact .inl (hO c e)
    ·exact .inr (.inr (.inl e))
    ·exact .inr (.inl e)
   og := by
    rintro (e | e | e)
    ·have := hOl _ e; omega
    ·omega
    ·omega
   xlt := by
    rw [hX1]
    rintro c (e | e)
    ·have := hx c e; omega
    ·omega }
 have HT := (tell_all hJM hrv G HM.out _).2 r .root (Nat.le_refl _) hok hl trivial X1 W3 [] [] y q b o _ _ (Nat.lt_of_lt_of_le hb hB3.size) ((hE3.keep b hb hbX).2) (hn.keep fun j => cell_ext hE3 hb hbX j) (hc.ext hE3) hy rfl hrun (by
  rw [show evB (outsE R.s r y) (kE R.s .root) = outsE R.s r y from evB_one _]; show 0 + _ ≤ 1000000000; omega)
 rw [show evB (outsE R.s r y) (kE R.s .root) = outsE R.s r y from evB_one _] at HT
 have HT2 := Lib.hid HT
 have HB3 := Lib.hid (And.intro hs2 hs3)
 have HE3 := Lib.hid hE3
 clear HT hrun hyb3 hmb3 hgb3 hs2 hs3 hB2 hB3 hE3 hX1 hOl hrb hnb hxb hn hc hR hJ hO
 go_enter Tryz.func98, Tryz.ntmps98
 go_wp2_with fail
 rw [HB3.out.1]
 with_reducible refine HT2.out.mono ?_
 rintro e w1 ⟨X2, T, o2, m2, ⟨z9, rfl⟩, hE2, hR2, h6, h7⟩
 have HI : Hid (IterI R (w.heap.size + 1 + 1) (w.heap.size + 1) w.heap.size l J X w (outs (outsE R.s r y)) (sE R.s T).length w1) := Lib.hid (by
  refine ⟨X2, T, o2.toList, m2, HE3.out.trans hE2, by simpa using hR2, ?_, rfl, ?_⟩
  ·rw [h7, outs_app]
   cases o2 <;> rfl
  ·have := congrArg List.length h7
   simp at this
   omega)
 clear HT2 hE2 hR2 h6 h7 c1 c2 c3 c4 hlen hlw hlo HM hW2 hW3
 go_wp2_with fail
 go_loopw [15] (fun _ wr => ∃ n, IterI R (w.heap.size + 1 + 1) (w.heap.size + 1) w.heap.size l J X w (outs (outsE R.s r y)) n wr) (fun _ wr => leastN (fun n => IterI R (w.heap.size + 1 + 1) (w.heap.size + 1) w.heap.size l J X w (outs (outsE R.s r y)) n wr))
 case atStart => exact ⟨_, HI.out⟩
 case round =>
  obtain ⟨n0, hn0⟩ := hrel
  obtain ⟨⟨X', S, pre, m, hE, hRun, hL, hlen, hle⟩, hmin⟩ := leastN_is (p := fun n => IterI R (w.heap.size + 1 + 1) (w.heap.size + 1) w.heap.size l J X w (outs (outsE R.s r y)) n wr) hn0
  generalize hN : leastN (fun n => IterI R (w.heap.size + 1 + 1) (w.heap.size + 1) w.heap.size l J X w (outs (outsE R.s r y)) n wr) = N at hlen hle hmin
  have HN := Lib.hid hN
  obtain ⟨v, O1, cs, hRO⟩ := id hRun
  obtain ⟨O0, hJ0, hmb, hyb, hO0, hn1, hn2⟩ := hRO.told
  obtain ⟨A1, c1, rfl⟩ := owns_len hRO.own
  have e0 := hmb.get 0 rfl
  have e1 := hRO.box.get 1 rfl
  have HR := Lib.hid hRun
  have HE := Lib.hid hE
  have HJ := Lib.hid hJ0
  have HL := Lib.hid hL
  clear hN hRO hmb hyb hO0 hn1 hn2 hRun hE hJ0 hL HI hn0 hmin
  cases m with
  | false =>
    go_wp2_with fail
    go_end0
    exact ⟨⟨_, rfl⟩, pre, false, O0, X', HJ.out, HE.out, (fun e => by cases e), by rw [HL.out]; exact List.prefix_append _ _⟩
  | true =>
    cases S with
    | nil =>
      go_wp2_with fail
      go_end0
      have hL := HL.out
      rw [sE_nil, outs_nil, List.append_nil] at hL
      exact ⟨⟨_, rfl⟩, pre, true, O0, X', HJ.out, HE.out, fun _ => hL.symm, by rw [hL]; exact List.prefix_rfl⟩
    | cons t S =>
      have hq : decide ((0 : Int) < ((t :: S).length : Int)) = true := decide_eq_true (by simp)
      have hq2 : (0 : Int) < ((t :: S).length : Int) := by simp
      have hS := sE_len R.s S
      rw [sE_cons] at hlen
      simp only [List.length_cons, List.length_append] at hlen
      have hT : TasOk R (w.heap.size + 1 + 1) (fnV 100 #[ptr w.heap.size, ptr (w.heap.size + 1)]) (MoreJ J l (w.heap.size + 1) w.heap.size) t := by
       obtain ⟨v, O1, cs, hRO⟩ := HR.out
       obtain ⟨ob, cap, f, c, cur, ds, -, -, -, -, hT, -⟩ := hRO.top
       exact TAt.tasOk hJM hrv G (root_ok C _ _ _ (by omega)) hT
      have HNx := Lib.hid (next_any hJM HR.out hT (by show _ ≤ 1000000000; omega))
      clear hT hS
      go_wp2_with fail
      with_reducible refine HNx.out.mono ?_
      rintro e w2 ⟨X3, T3, o3, m3, ⟨z8, rfl⟩, hE3, hR3, h8, h9⟩
      have HI2 : Hid (IterI R (w.heap.size + 1 + 1) (w.heap.size + 1) w.heap.size l J X w (outs (outsE R.s r y)) (sE R.s (T3 ++ S)).length w2 ∧ (sE R.s (T3 ++ S)).length < N) := Lib.hid (by
       have hlt : (sE R.s (T3 ++ S)).length < N := by
        have := congrArg List.length h9
        simp only [List.length_append, List.length_map] at this
        rw [sE_app, List.length_append]
        omega
       refine ⟨⟨X3, T3 ++ S, pre ++ o3.toList, m3, HE.out.trans hE3, hR3, ?_, rfl, by omega⟩, hlt⟩
       rw [HL.out, sE_cons, outs_none, outs_app, h9, outs_app, sE_app, outs_app]
       cases o3 <;> simp [outs])
      clear HNx hE3 hR3 h8 h9 e0 e1 hlen hle
      go_wp2_with fail
      go_roundw
      case rel => exact ⟨_, HI2.out.1⟩
      case measure =>
       have h1 := (leastN_is (p := fun n => IterI R (w.heap.size + 1 + 1) (w.heap.size + 1) w.heap.size l J X w (outs (outsE R.s r y)) n w2) HI2.out.1).2 _ HI2.out.1
       have h2 := HI2.out.2
       exact Nat.lt_of_le_of_lt h1 h2
end Go.Proofs.YteiboobdhjdjkaaGreatDoor.Nai
