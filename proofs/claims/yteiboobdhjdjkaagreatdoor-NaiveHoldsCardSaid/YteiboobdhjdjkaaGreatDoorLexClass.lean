import Derived.Test.YteiboobdhjdjkaaGreatDoorLexItemM
namespace Go.Proofs.YteiboobdhjdjkaaGreatDoor
open Go.RowKit
set_option maxRecDepth 20000 in
set_option maxHeartbeats 8000000 in
theorem class_own (hE : ErrsOk) (p : ByteArray) (i : Nat) (w : World) (hp : p.size ≤ 1000000) (hi : i < p.size) (h91 : bt p i = 91) (h94 : (bt p (i + 1) == 94) = false) (hw : ErrW w) (ht : TabOk w) : Calls Tryz.prog 87 #[.string p, .int .i64 (i : Int)] w fun e w' => e = .returned (.tuple #[setV (clsR false (clsF p (p.size + 1) (i + 1) 0#256 true)).1, .int .i64 ((clsR false (clsF p (p.size + 1) (i + 1) 0#256 true)).2.1 : Nat), .int .i64 (clsR false (clsF p (p.size + 1) (i + 1) 0#256 true)).2.2]) ∧ Below w.heap.size w w' := by
 have hb : bt p i = (p[i]'hi).toNat := bt_at hi
 have q1 : ((p[i]'hi).toNat : Int) = 91 := by omega
 have q2 : ¬ (i : Int) < 0 := by omega
 have q3 : ¬ (p.size : Int) ≤ (i : Int) := by omega
 have q4 : (i : Int) + 1 ≤ (p.size : Int) := by omega
 have HP := Lib.hid (fun w => prefix_any (p.extract (i + 1) p.size) ⟨#[94]⟩ [94] w rfl)
 rw [head_ext (by omega), show headB p (i + 1 + 0) [94] = (bt p (i + 1) == 94) by simp [headB], h94] at HP
 have HI := Lib.hid (fun k hk w h h2 => itemAt_any hE p k w hp hk h h2)
 have HW := Lib.hid hw
 have HT := Lib.hid ht
 have h0 := cls_0 p (i + 1)
 obtain ⟨C, hC⟩ : ∃ C, C = clsF p (p.size + 1) (i + 1) 0#256 true := ⟨_, rfl⟩
 rw [← hC]
 have HC := Lib.hid hC
 have hi0 : i + 1 ≤ p.size := by omega
 have ha : ((i + 1 : Nat) : Int) = (i : Int) + 1 := by omega
 have HA := Lib.hid ha
 have HAp := Lib.hid hi0
 clear hC hb h91 h94 hE hw ht hi0 ha
 revert h0 HC HA HAp
 generalize i + 1 = a
 intro h0 HC HA HAp
 have H0 := Lib.hid h0
 clear h0
 go_enter Tryz.func87, Tryz.ntmps87
 go_wp2_with fail
 with_reducible refine (HP.out _).mono ?_
 rintro e w1 ⟨rfl, rfl⟩
 go_wp2_with fail
 have HH := Lib.hid (show Hold w ((w.alloc (.cells #[.int .u64 0, .int .u64 0, .int .u64 0, .int .u64 0] 67)).alloc (.cells #[.int .u64 0, .int .u64 0, .int .u64 0, .int .u64 0] 67)) (w.heap.size + 1) 0#256 from ⟨Box.zero (heap_alloc2_new _ _ _), (Box.zero (heap_alloc_new _ _)).alloc _, below2 w _ _⟩)
 go_loopw [1] (fun s1 wr => ∃ (k : Nat) (S : BitVec 256), s1 = .int .i64 k ∧ k ≤ p.size ∧ ClsI p a k S ∧ Hold w wr (w.heap.size + 1) S) (fun s1 _ => p.size - (intOf s1).toNat)
 case atStart => exact ⟨a, 0#256, by rw [HA.out], HAp.out, H0.out, HH.out⟩
 case round =>
  obtain ⟨k, S, rfl, hk, hI, hH⟩ := hrel
  have HCI := Lib.hid hI
  have HH2 := Lib.hid hH
  have hne0 := hH.box.lt
  clear hI hH HH H0
  have HAk := Lib.hid (show k = a ↔ (k : Int) = (i : Int) + 1 by rw [← HA.out]; omega)
  obtain ⟨d0, d1, d2, d3⟩ := HH2.out.box.cells
  obtain ⟨z0, z1, z2, z3⟩ := HH2.out.zero.cells
  have zf := HH2.out.zero.free
  have df := HH2.out.box.free
  clear hne0
  by_cases hlt : k < p.size
  ·have r1 : (k : Int) < (p.size : Int) := by omega
   have hbk : bt p k = (p[k]'hlt).toNat := bt_at hlt
   have r3 : ¬ (k : Int) = (p.size : Int) := by omega
   by_cases h93 : bt p k = 93
   ·have r2 : ((p[k]'hlt).toNat : Int) = 93 := by omega
    by_cases hka : k = a
    ·have HN := Lib.hid (cls_bad HCI.out hk (.inr hka) (by rw [span_no p k (.inr h93)]; decide))
     have hki : k = i + 1 := by have := HAk.out.1 hka; omega
     clear hka hbk h93 HAk HCI
     subst hki
     go_wp2_with fail
     have hZ := HH2.out.zero.set 0#256
     have hZb := below_setW HH2.out.below (Nat.le_refl _) 0#256
     simp only [setW, W_zero] at hZ hZb
     refine bodyPost_ret (resS3 (p := 4) (u := 5) (u2 := 6) (S := 0#256) (v := .int .i64 0) (v2 := .int .i64 3) rfl _ (g := w.heap.size) rfl rfl rfl hZ) rfl ⟨?_, hZb⟩
     rw [HC.out, HN.out]
     rfl
    ·have HN := Lib.hid (cls_done HCI.out hk h93 hka)
     have r4 : ¬ (k : Int) = (i : Int) + 1 := fun h => hka (HAk.out.2 h)
     have r5 : ((k : Int) == (i : Int) + 1) = false := beq_eq_false_iff_ne.2 r4
     have r6 : ¬ k = i + 1 := by omega
     clear hka hbk h93
     go_wp2_with fail
     refine bodyPost_ret (resS3 (p := 4) (u := 5) (u2 := 6) (S := S) (v := .int .i64 ((k : Int) + 1)) (v2 := .int .i64 0) rfl _ (g := w.heap.size) rfl rfl rfl (HH2.out.zero.set S)) rfl ⟨?_, below_setW HH2.out.below (Nat.le_refl _) _⟩
     rw [HC.out, HN.out]
     rfl
   ·have r2 : ¬ ((p[k]'hlt).toNat : Int) = 93 := by omega
    have HIt := Lib.hid (fun w h h2 => HI.out k hk w h h2)
    have HBad := Lib.hid (fun h => cls_bad HCI.out hk (.inl h93) h)
    have HNext := Lib.hid (fun h => cls_next HCI.out hk h93 h)
    have HUp := Lib.hid (span_up p k)
    clear hbk h93
    revert HIt HBad HNext HUp
    generalize spanZ p k = X
    intro HIt HBad HNext HUp
    obtain ⟨Z, b, e⟩ := X
    simp only [] at HIt HBad HNext HUp
    by_cases he : e = 0
    ·subst he
     have HN := Lib.hid (HNext.out rfl)
     have hub : k + 1 ≤ b ∧ b ≤ p.size := by
      rcases HUp.out with h | h
      ·cases h
      ·exact h.2
     have HO := Lib.hid (fun w => or_any S Z w)
     clear HBad HNext HUp
     go_wp2_with fail
     with_reducible refine (HIt.out _ (HW.out.call HH2.out.below) (HT.out.call HH2.out.below)).mono ?_
     rintro x w2 ⟨rfl, hb⟩
     have HH3 := Lib.hid (HH2.out.call hb)
     clear hb
     have y0 := fun o => (HH3.out.alloc o).box.cells.1
     have y1 := fun o => (HH3.out.alloc o).box.cells.2.1
     have y2 := fun o => (HH3.out.alloc o).box.cells.2.2.1
     have y3 := fun o => (HH3.out.alloc o).box.cells.2.2.2
     go_wp2_with fail
     with_reducible refine (HO.out _).mono ?_
     rintro x w3 ⟨rfl, hb⟩
     have HH4 := Lib.hid ((HH3.out.alloc _).call hb)
     clear hb
     obtain ⟨x0, x1, x2, x3⟩ := HH4.out.box.cells
     have xf := HH4.out.box.free
     go_wp2_with fail
     go_roundw
     case rel => exact ⟨b, S ||| Z, rfl, hub.2, HN.out, ⟨HH4.out.box.set _, HH4.out.zero.others _ (by omega), below_setW HH4.out.below (by omega) _⟩⟩
     case measure => simp [intOf]; omega
    ·have HN := Lib.hid (HBad.out he)
     have h3 : e = 3 := by
      rcases HUp.out with h | h
      ·exact congrArg (fun x => x.2.2) h
      ·exact absurd h.1 he
     subst h3
     clear HBad HNext HUp he
     go_wp2_with fail
     with_reducible refine (HIt.out _ (HW.out.call HH2.out.below) (HT.out.call HH2.out.below)).mono ?_
     rintro x w2 ⟨rfl, hb⟩
     have HH3 := Lib.hid (HH2.out.call hb)
     clear hb
     have y0 := fun o => (HH3.out.alloc o).zero.cells.1
     have y1 := fun o => (HH3.out.alloc o).zero.cells.2.1
     have y2 := fun o => (HH3.out.alloc o).zero.cells.2.2.1
     have y3 := fun o => (HH3.out.alloc o).zero.cells.2.2.2
     have yf := fun o => (HH3.out.alloc o).zero.free
     go_wp2_with fail
     have hZ := (HH3.out.alloc (.cells #[.int .u64 (W Z 0), .int .u64 (W Z 1), .int .u64 (W Z 2), .int .u64 (W Z 3)] 67)).zero.set 0#256
     have hZb := below_setW (HH3.out.alloc (.cells #[.int .u64 (W Z 0), .int .u64 (W Z 1), .int .u64 (W Z 2), .int .u64 (W Z 3)] 67)).below (Nat.le_refl _) 0#256
     simp only [setW, W_zero] at hZ hZb
     refine bodyPost_ret (resS3 (p := 4) (u := 5) (u2 := 6) (S := 0#256) (v := .int .i64 0) (v2 := .int .i64 3) rfl _ (g := w.heap.size) rfl rfl rfl hZ) rfl ⟨?_, hZb⟩
     rw [HC.out, HN.out]
     rfl
  ·have hks : k = p.size := by omega
   have HN := Lib.hid (cls_bad HCI.out hk (.inl (by rw [bt_no (by omega)]; decide)) (by rw [span_no p k (.inl (by omega))]; decide))
   clear HAk HCI hlt
   subst hks
   go_wp2_with fail
   have hZ := HH2.out.zero.set 0#256
   have hZb := below_setW HH2.out.below (Nat.le_refl _) 0#256
   simp only [setW, W_zero] at hZ hZb
   refine bodyPost_ret (resS3 (p := 4) (u := 5) (u2 := 6) (S := 0#256) (v := .int .i64 0) (v2 := .int .i64 3) rfl _ (g := w.heap.size) rfl rfl rfl hZ) rfl ⟨?_, hZb⟩
   rw [HC.out, HN.out]
   rfl
set_option maxRecDepth 20000 in
set_option maxHeartbeats 8000000 in
theorem class_oth (hE : ErrsOk) (p : ByteArray) (i : Nat) (w : World) (hp : p.size ≤ 1000000) (hi : i < p.size) (h91 : bt p i = 91) (h94 : (bt p (i + 1) == 94) = true) (hw : ErrW w) (ht : TabOk w) : Calls Tryz.prog 87 #[.string p, .int .i64 (i : Int)] w fun e w' => e = .returned (.tuple #[setV (clsR true (clsF p (p.size + 1) (i + 2) 0#256 true)).1, .int .i64 ((clsR true (clsF p (p.size + 1) (i + 2) 0#256 true)).2.1 : Nat), .int .i64 (clsR true (clsF p (p.size + 1) (i + 2) 0#256 true)).2.2]) ∧ Below w.heap.size w w' := by
 have hb : bt p i = (p[i]'hi).toNat := bt_at hi
 have q1 : ((p[i]'hi).toNat : Int) = 91 := by omega
 have q2 : ¬ (i : Int) < 0 := by omega
 have q3 : ¬ (p.size : Int) ≤ (i : Int) := by omega
 have q4 : (i : Int) + 1 ≤ (p.size : Int) := by omega
 have HP := Lib.hid (fun w => prefix_any (p.extract (i + 1) p.size) ⟨#[94]⟩ [94] w rfl)
 rw [head_ext (by omega), show headB p (i + 1 + 0) [94] = (bt p (i + 1) == 94) by simp [headB], h94] at HP
 have HI := Lib.hid (fun k hk w h h2 => itemAt_any hE p k w hp hk h h2)
 have HW := Lib.hid hw
 have HT := Lib.hid ht
 have h0 := cls_0 p (i + 2)
 obtain ⟨C, hC⟩ : ∃ C, C = clsF p (p.size + 1) (i + 2) 0#256 true := ⟨_, rfl⟩
 rw [← hC]
 have HC := Lib.hid hC
 have hi0 : i + 2 ≤ p.size := by have := bt_in (p := p) (i := i + 1) (by simp at h94; omega); omega
 have ha : ((i + 2 : Nat) : Int) = (i : Int) + 1 + 1 := by omega
 have HA := Lib.hid ha
 have HAp := Lib.hid hi0
 clear hC hb h91 h94 hE hw ht hi0 ha
 revert h0 HC HA HAp
 generalize i + 2 = a
 intro h0 HC HA HAp
 have H0 := Lib.hid h0
 clear h0
 go_enter Tryz.func87, Tryz.ntmps87
 go_wp2_with fail
 with_reducible refine (HP.out _).mono ?_
 rintro e w1 ⟨rfl, rfl⟩
 go_wp2_with fail
 have HH := Lib.hid (show Hold w ((w.alloc (.cells #[.int .u64 0, .int .u64 0, .int .u64 0, .int .u64 0] 67)).alloc (.cells #[.int .u64 0, .int .u64 0, .int .u64 0, .int .u64 0] 67)) (w.heap.size + 1) 0#256 from ⟨Box.zero (heap_alloc2_new _ _ _), (Box.zero (heap_alloc_new _ _)).alloc _, below2 w _ _⟩)
 go_loopw [1] (fun s1 wr => ∃ (k : Nat) (S : BitVec 256), s1 = .int .i64 k ∧ k ≤ p.size ∧ ClsI p a k S ∧ Hold w wr (w.heap.size + 1) S) (fun s1 _ => p.size - (intOf s1).toNat)
 case atStart => exact ⟨a, 0#256, by rw [HA.out], HAp.out, H0.out, HH.out⟩
 case round =>
  obtain ⟨k, S, rfl, hk, hI, hH⟩ := hrel
  have HCI := Lib.hid hI
  have HH2 := Lib.hid hH
  have hne0 := hH.box.lt
  clear hI hH HH H0
  have HAk := Lib.hid (show k = a ↔ (k : Int) = (i : Int) + 1 + 1 by rw [← HA.out]; omega)
  obtain ⟨d0, d1, d2, d3⟩ := HH2.out.box.cells
  obtain ⟨z0, z1, z2, z3⟩ := HH2.out.zero.cells
  have zf := HH2.out.zero.free
  have df := HH2.out.box.free
  clear hne0
  by_cases hlt : k < p.size
  ·have r1 : (k : Int) < (p.size : Int) := by omega
   have hbk : bt p k = (p[k]'hlt).toNat := bt_at hlt
   have r3 : ¬ (k : Int) = (p.size : Int) := by omega
   by_cases h93 : bt p k = 93
   ·have r2 : ((p[k]'hlt).toNat : Int) = 93 := by omega
    by_cases hka : k = a
    ·have HN := Lib.hid (cls_bad HCI.out hk (.inr hka) (by rw [span_no p k (.inr h93)]; decide))
     have hki : k = i + 1 + 1 := by have := HAk.out.1 hka; omega
     clear hka hbk h93 HAk HCI
     subst hki
     go_wp2_with fail
     have hZ := HH2.out.zero.set 0#256
     have hZb := below_setW HH2.out.below (Nat.le_refl _) 0#256
     simp only [setW, W_zero] at hZ hZb
     refine bodyPost_ret (resS3 (p := 4) (u := 5) (u2 := 6) (S := 0#256) (v := .int .i64 0) (v2 := .int .i64 3) rfl _ (g := w.heap.size) rfl rfl rfl hZ) rfl ⟨?_, hZb⟩
     rw [HC.out, HN.out]
     rfl
    ·have HN := Lib.hid (cls_done HCI.out hk h93 hka)
     have r4 : ¬ (k : Int) = (i : Int) + 1 + 1 := fun h => hka (HAk.out.2 h)
     have r5 : ((k : Int) == (i : Int) + 1 + 1) = false := beq_eq_false_iff_ne.2 r4
     have r6 : ¬ k = i + 1 + 1 := by omega
     clear hka hbk h93
     have HNt := Lib.hid (fun w => not_any S w)
     go_wp2_with fail
     with_reducible refine (HNt.out _).mono ?_
     rintro e w2 ⟨rfl, hb⟩
     have HH3 := Lib.hid (HH2.out.call hb)
     clear hb
     obtain ⟨x0, x1, x2, x3⟩ := HH3.out.box.cells
     obtain ⟨y0, y1, y2, y3⟩ := HH3.out.zero.cells
     have yf := HH3.out.zero.free
     have xf := HH3.out.box.free
     go_wp2_with fail
     have hz := HH3.out.zero.others (~~~S) (k := w.heap.size + 1) (by omega)
     have hzb := below_setW HH3.out.below (g := w.heap.size + 1) (by omega) (~~~S)
     refine bodyPost_ret (resS3 (p := 4) (u := 5) (u2 := 6) (S := ~~~S) (v := .int .i64 ((k : Int) + 1)) (v2 := .int .i64 0) rfl _ (g := w.heap.size) rfl rfl rfl (hz.set (~~~S))) rfl ⟨?_, below_setW hzb (Nat.le_refl _) _⟩
     rw [HC.out, HN.out]
     rfl
   ·have r2 : ¬ ((p[k]'hlt).toNat : Int) = 93 := by omega
    have HIt := Lib.hid (fun w h h2 => HI.out k hk w h h2)
    have HBad := Lib.hid (fun h => cls_bad HCI.out hk (.inl h93) h)
    have HNext := Lib.hid (fun h => cls_next HCI.out hk h93 h)
    have HUp := Lib.hid (span_up p k)
    clear hbk h93
    revert HIt HBad HNext HUp
    generalize spanZ p k = X
    intro HIt HBad HNext HUp
    obtain ⟨Z, b, e⟩ := X
    simp only [] at HIt HBad HNext HUp
    by_cases he : e = 0
    ·subst he
     have HN := Lib.hid (HNext.out rfl)
     have hub : k + 1 ≤ b ∧ b ≤ p.size := by
      rcases HUp.out with h | h
      ·cases h
      ·exact h.2
     have HO := Lib.hid (fun w => or_any S Z w)
     clear HBad HNext HUp
     go_wp2_with fail
     with_reducible refine (HIt.out _ (HW.out.call HH2.out.below) (HT.out.call HH2.out.below)).mono ?_
     rintro x w2 ⟨rfl, hb⟩
     have HH3 := Lib.hid (HH2.out.call hb)
     clear hb
     have y0 := fun o => (HH3.out.alloc o).box.cells.1
     have y1 := fun o => (HH3.out.alloc o).box.cells.2.1
     have y2 := fun o => (HH3.out.alloc o).box.cells.2.2.1
     have y3 := fun o => (HH3.out.alloc o).box.cells.2.2.2
     go_wp2_with fail
     with_reducible refine (HO.out _).mono ?_
     rintro x w3 ⟨rfl, hb⟩
     have HH4 := Lib.hid ((HH3.out.alloc _).call hb)
     clear hb
     obtain ⟨x0, x1, x2, x3⟩ := HH4.out.box.cells
     have xf := HH4.out.box.free
     go_wp2_with fail
     go_roundw
     case rel => exact ⟨b, S ||| Z, rfl, hub.2, HN.out, ⟨HH4.out.box.set _, HH4.out.zero.others _ (by omega), below_setW HH4.out.below (by omega) _⟩⟩
     case measure => simp [intOf]; omega
    ·have HN := Lib.hid (HBad.out he)
     have h3 : e = 3 := by
      rcases HUp.out with h | h
      ·exact congrArg (fun x => x.2.2) h
      ·exact absurd h.1 he
     subst h3
     clear HBad HNext HUp he
     go_wp2_with fail
     with_reducible refine (HIt.out _ (HW.out.call HH2.out.below) (HT.out.call HH2.out.below)).mono ?_
     rintro x w2 ⟨rfl, hb⟩
     have HH3 := Lib.hid (HH2.out.call hb)
     clear hb
     have y0 := fun o => (HH3.out.alloc o).zero.cells.1
     have y1 := fun o => (HH3.out.alloc o).zero.cells.2.1
     have y2 := fun o => (HH3.out.alloc o).zero.cells.2.2.1
     have y3 := fun o => (HH3.out.alloc o).zero.cells.2.2.2
     have yf := fun o => (HH3.out.alloc o).zero.free
     go_wp2_with fail
     have hZ := (HH3.out.alloc (.cells #[.int .u64 (W Z 0), .int .u64 (W Z 1), .int .u64 (W Z 2), .int .u64 (W Z 3)] 67)).zero.set 0#256
     have hZb := below_setW (HH3.out.alloc (.cells #[.int .u64 (W Z 0), .int .u64 (W Z 1), .int .u64 (W Z 2), .int .u64 (W Z 3)] 67)).below (Nat.le_refl _) 0#256
     simp only [setW, W_zero] at hZ hZb
     refine bodyPost_ret (resS3 (p := 4) (u := 5) (u2 := 6) (S := 0#256) (v := .int .i64 0) (v2 := .int .i64 3) rfl _ (g := w.heap.size) rfl rfl rfl hZ) rfl ⟨?_, hZb⟩
     rw [HC.out, HN.out]
     rfl
  ·have hks : k = p.size := by omega
   have HN := Lib.hid (cls_bad HCI.out hk (.inl (by rw [bt_no (by omega)]; decide)) (by rw [span_no p k (.inl (by omega))]; decide))
   clear HAk HCI hlt
   subst hks
   go_wp2_with fail
   have hZ := HH2.out.zero.set 0#256
   have hZb := below_setW HH2.out.below (Nat.le_refl _) 0#256
   simp only [setW, W_zero] at hZ hZb
   refine bodyPost_ret (resS3 (p := 4) (u := 5) (u2 := 6) (S := 0#256) (v := .int .i64 0) (v2 := .int .i64 3) rfl _ (g := w.heap.size) rfl rfl rfl hZ) rfl ⟨?_, hZb⟩
   rw [HC.out, HN.out]
   rfl
theorem class_any (hE : ErrsOk) (p : ByteArray) (i : Nat) (w : World) (hp : p.size ≤ 1000000) (hi : i < p.size) (h91 : bt p i = 91) (hw : ErrW w) (ht : TabOk w) : Calls Tryz.prog 87 #[.string p, .int .i64 (i : Int)] w fun e w' => e = .returned (.tuple #[setV (classZ p i).1, .int .i64 ((classZ p i).2.1 : Nat), .int .i64 (classZ p i).2.2]) ∧ Below w.heap.size w w' := by
 rw [class_eq hi h91]
 by_cases h94 : bt p (i + 1) = 94
 ·rw [if_pos h94, beq_iff_eq.2 h94]
  exact class_oth hE p i w hp hi h91 (beq_iff_eq.2 h94) hw ht
 ·rw [if_neg h94, beq_eq_false_iff_ne.2 h94]
  exact class_own hE p i w hp hi h91 (beq_eq_false_iff_ne.2 h94) hw ht
end Go.Proofs.YteiboobdhjdjkaaGreatDoor
