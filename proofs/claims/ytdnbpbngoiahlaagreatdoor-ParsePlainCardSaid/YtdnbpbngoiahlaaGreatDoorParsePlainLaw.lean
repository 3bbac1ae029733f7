/-
  Layer 7: the walk of the statement ParsePlain.
-/
import Derived.Test.YtdnbpbngoiahlaaGreatDoorParTakes
import Derived.Test.YtdnbpbngoiahlaaGreatDoorParRightM
namespace Go.Proofs.YtdnbpbngoiahlaaGreatDoor
open Go.RowKit
open Ast (Nd ndV joinL wrapL deepZ rightZ cntG Nodes)

theorem plain_z_at {p : ByteArray} {t : Tr} (h : (t, (0 : Int)) = parseZ p) (hs : p.size ≤ 800) : parseZ (pre7 ++ p ++ post7) = ((t.1, t.2), 0) := by
  have := plain_z (p := p) (by rw [← h]) hs
  rw [← h] at this
  exact this
theorem group_z_at {p : ByteArray} {t : Tr} (h : (t, (0 : Int)) = parseZ p) (hs : p.size ≤ 800) (hg : cntT t = 0) (hd : deepZ t.2 t.1 < 40) (hn : t.1 < 500) : parseZ (grp7 ++ p ++ post7) = ((t.1 + 1, (wrapT t (grpN 1)).2), 0) := by
  have := group_z (p := p) (by rw [← h]) hs (by rw [← h]; exact hg) (by rw [← h]; exact hd) (by rw [← h]; exact hn)
  rw [← h] at this
  exact this
set_option maxRecDepth 100000 in
set_option maxHeartbeats 32000000 in
theorem parsePlain_s (K : PKit) (p : ByteArray) (w : World) (hs : p.size ≤ 9223372036854775807) (hw : Tabs w) (hp : p.size ≤ 300) : Calls Tryz.prog 5 #[.string p] w fun e w' => e = .returned (.bool true) ∧ Below w.heap.size w w' := by
  have HF := Lib.hid (fun w (h : Tabs w) => fixed_any K w h)
  have HP0 := Lib.hid (fun p w (h : Tabs w) => parse_g K p w h)
  have HK := Lib.hid K
  have HT := Lib.hid hw
  clear hw K
  go_enter Tryz.func5, Tryz.ntmps5
  go_wp2_with fail
  have HX := Lib.hid hp
  obtain ⟨X, rfl⟩ : ∃ X, X = p := ⟨_, rfl⟩
  clear hp
  have HB0 := Lib.hid (Below.refl w.heap.size w)
  go_wp2_with fail
  with_reducible refine (HP0.out X _ (HT.out.call HB0.out)).mono ?_
  rintro e w1 ⟨B, cap, rfl, ht, hb⟩
  have HNn := Lib.hid ht.nodes
  have HBn := Lib.hid (thenB HB0.out hb HB0.out.size)

  have HW1 := Lib.hid ht.none
  clear ht hb
  have HQ1 := Lib.hid (parse_cases X (by have := HX.out; omega))
  have HE1 := Lib.hid (show ∃ R, R = parseZ X from ⟨_, rfl⟩)
  obtain ⟨R, hR⟩ := HE1.out
  rw [← hR] at HNn HW1 HQ1 ⊢
  have HR1 := Lib.hid hR
  clear hR HE1
  obtain ⟨t, er⟩ := R
  simp only [] at HNn HW1 HQ1 ⊢
  go_wp2_with (refine storeNewTr rfl _ _ rfl w1 B t.1 cap rfl rfl rfl ?_; intro v1 hx hN; refine stopP ?_)
  unfold StopP
  have HX1 := Lib.hid hx.out
  have HB1 := Lib.hid (thenB HBn.out hN.out HBn.out.size)
  have HN1 := Lib.hid (HNn.out.below hN.out (Nat.le_refl _))

  have hc1 := tree_cell HX1.out
  clear hx hN HBn HNn
  rcases HQ1.out with ⟨h0, he⟩ | ⟨rfl, hr, hd, hn⟩
  · clear HQ1
    obtain ⟨n, L⟩ := t
    simp only [] at h0
    subst h0
    rcases he with rfl | rfl | rfl | rfl
    · go_wp2_with fail
      with_reducible refine (HF.out _ (HT.out.call HB1.out)).mono ?_
      rintro e wf2 ⟨rfl, hb⟩
      have HZ := Lib.hid (thenB HB1.out hb HB1.out.size)
      clear hb
      go_wp2_with fail
      go_ret
      exact ⟨rfl, HZ.out⟩
    · go_wp2_with fail
      with_reducible refine (HF.out _ (HT.out.call HB1.out)).mono ?_
      rintro e wf2 ⟨rfl, hb⟩
      have HZ := Lib.hid (thenB HB1.out hb HB1.out.size)
      clear hb
      go_wp2_with fail
      go_ret
      exact ⟨rfl, HZ.out⟩
    · go_wp2_with fail
      with_reducible refine (HF.out _ (HT.out.call HB1.out)).mono ?_
      rintro e wf2 ⟨rfl, hb⟩
      have HZ := Lib.hid (thenB HB1.out hb HB1.out.size)
      clear hb
      go_wp2_with fail
      go_ret
      exact ⟨rfl, HZ.out⟩
    · go_wp2_with fail
      with_reducible refine (HF.out _ (HT.out.call HB1.out)).mono ?_
      rintro e wf2 ⟨rfl, hb⟩
      have HZ := Lib.hid (thenB HB1.out hb HB1.out.size)
      clear hb
      go_wp2_with fail
      go_ret
      exact ⟨rfl, HZ.out⟩
  · clear HQ1
    have hs3 : ¬ 3 + X.size > 9223372036854775807 := by have := HX.out; omega
    have hs4 : ¬ 3 + X.size + 1 > 9223372036854775807 := by have := HX.out; omega
    have hs5 : ¬ 1 + X.size > 9223372036854775807 := by have := HX.out; omega
    have hs6 : ¬ 1 + X.size + 1 > 9223372036854775807 := by have := HX.out; omega
    go_wp2_with fail
    with_reducible refine (parse_at HK.out _ t.1 0 t.2 (plain_z_at HR1.out (by have := HX.out; omega)) _ (HT.out.call HB1.out)).mono ?_
    rintro e w2 ⟨B2, cap2, rfl, ht, hb⟩
    have HNn := Lib.hid ht.nodes
    have HBn := Lib.hid (thenB HB1.out hb HB1.out.size)
    have HX1 := Lib.hid (HX1.out.below hb HX1.out.lt)
    have HN1 := Lib.hid (HN1.out.below hb (Nat.le_refl _))
    clear ht hb
    simp only [] at HNn ⊢
    go_wp2_with (refine storeNewTr rfl _ _ rfl w2 B2 t.1 cap2 rfl rfl rfl ?_; intro v2 hx hN; refine stopP ?_)
    unfold StopP
    have HX2 := Lib.hid hx.out
    have HB2 := Lib.hid (thenB HBn.out hN.out HBn.out.size)
    have HN2 := Lib.hid (HNn.out.below hN.out (Nat.le_refl _))
    have HX1 := Lib.hid (HX1.out.below hN.out HX1.out.lt)
    have HN1 := Lib.hid (HN1.out.below hN.out (Nat.le_refl _))
    have hc2 := tree_cell HX2.out
    clear hx hN HBn HNn
    have hc1 := tree_cell HX1.out
    go_wp2_with (first | (refine loadTr rfl _ rfl w1.heap.size B t.1 cap rfl HX1.out ?_) | (refine loadTr rfl _ rfl w2.heap.size B2 t.1 cap2 rfl HX2.out ?_))
    refine (Ast.same_any B B2 t.1 t.1 cap cap2 t.2 t.2 _ (by omega) (by omega) HN1.out HN2.out).mono ?_
    rintro e w4 ⟨rfl, hb⟩
    have HBn := Lib.hid (thenB HB2.out hb HB2.out.size)
    clear HB2
    have HB2 := HBn
    clear HBn
    have HX1 := Lib.hid (HX1.out.below hb HX1.out.lt)
    have HX2 := Lib.hid (HX2.out.below hb HX2.out.lt)
    have HN1 := Lib.hid (HN1.out.below hb (Nat.le_refl _))
    have HN2 := Lib.hid (HN2.out.below hb (Nat.le_refl _))
    clear hb
    rw [same_self]
    have hc1 := tree_cell HX1.out
    have hc2 := tree_cell HX2.out
    by_cases hg : cntG t.2 t.1 = 0
    · have hg0 : cntT t = 0 := hg
      go_wp2_with (first | (refine loadTr rfl _ rfl _ _ _ _ rfl HX1.out ?_) | (refine loadTr rfl _ rfl _ _ _ _ rfl HX2.out ?_) | (refine loadTr rfl _ rfl _ _ _ _ rfl HX3.out ?_))
      refine (Ast.groups_any B t.1 cap t.2 _ (by omega) HN1.out).mono ?_
      rintro e w5 ⟨rfl, hb⟩
      have HBn := Lib.hid (thenB HB2.out hb HB2.out.size)
      clear HB2
      have HB2 := HBn
      clear HBn
      have HX1 := Lib.hid (HX1.out.below hb HX1.out.lt)
      have HX2 := Lib.hid (HX2.out.below hb HX2.out.lt)
      have HN1 := Lib.hid (HN1.out.below hb (Nat.le_refl _))
      have HN2 := Lib.hid (HN2.out.below hb (Nat.le_refl _))
      clear hb
      rw [hg]
      have hc1 := tree_cell HX1.out
      have hc2 := tree_cell HX2.out
      go_wp2_with (first | (refine loadTr rfl _ rfl _ _ _ _ rfl HX1.out ?_) | (refine loadTr rfl _ rfl _ _ _ _ rfl HX2.out ?_) | (refine loadTr rfl _ rfl _ _ _ _ rfl HX3.out ?_))
      refine (Ast.deep_any B t.1 cap t.2 _ (by omega) HN1.out).mono ?_
      rintro e w6 ⟨rfl, hb⟩
      have HBn := Lib.hid (thenB HB2.out hb HB2.out.size)
      clear HB2
      have HB2 := HBn
      clear HBn
      have HX1 := Lib.hid (HX1.out.below hb HX1.out.lt)
      have HX2 := Lib.hid (HX2.out.below hb HX2.out.lt)
      have HN1 := Lib.hid (HN1.out.below hb (Nat.le_refl _))
      have HN2 := Lib.hid (HN2.out.below hb (Nat.le_refl _))
      clear hb
      have hc1 := tree_cell HX1.out
      have hc2 := tree_cell HX2.out
      by_cases hdl : deepZ t.2 t.1 < 40
      · have hd1 : ¬ (40 : Int) ≤ (deepZ t.2 t.1 : Nat) := by omega
        by_cases hnl : t.1 < 500
        · have hn1 : ¬ (500 : Int) ≤ (t.1 : Nat) := by omega
          go_wp2_with fail
          with_reducible refine (parse_at HK.out _ (t.1 + 1) 0 (wrapT t (grpN 1)).2 (group_z_at HR1.out (by have := HX.out; omega) hg0 hdl hnl) _ (HT.out.call HB2.out)).mono ?_
          rintro e w3 ⟨B3, cap3, rfl, ht, hb⟩
          have HNn := Lib.hid ht.nodes
          have HBn := Lib.hid (thenB HB2.out hb HB2.out.size)
          have HX1 := Lib.hid (HX1.out.below hb HX1.out.lt)
          have HX2 := Lib.hid (HX2.out.below hb HX2.out.lt)
          have HN1 := Lib.hid (HN1.out.below hb (Nat.le_refl _))
          have HN2 := Lib.hid (HN2.out.below hb (Nat.le_refl _))
          clear ht hb
          simp only [] at HNn ⊢
          go_wp2_with (refine storeNewTr rfl _ _ rfl w3 B3 (t.1 + 1) cap3 rfl rfl rfl ?_; intro v3 hx hN; refine stopP ?_)
          unfold StopP
          have HX3 := Lib.hid hx.out
          have HB3 := Lib.hid (thenB HBn.out hN.out HBn.out.size)
          have HN3 := Lib.hid (HNn.out.below hN.out (Nat.le_refl _))
          have HX1 := Lib.hid (HX1.out.below hN.out HX1.out.lt)
          have HX2 := Lib.hid (HX2.out.below hN.out HX2.out.lt)
          have HN1 := Lib.hid (HN1.out.below hN.out (Nat.le_refl _))
          have HN2 := Lib.hid (HN2.out.below hN.out (Nat.le_refl _))
          have hc3 := tree_cell HX3.out
          clear hx hN HBn HNn
          go_wp2_with fail
          refine wp_region_held_drew (S := fun u => Below v3.heap.size v3 u) (by kernel_rfl) (show _ from (Below.refl _ v3).drew) (fun hS => ?_)
          generalize World.drew v3 = u0 at hS ⊢
          refine takeAt 0 65 (.int .i64 0) rfl rfl (by kernel_rfl) (by kernel_rfl) (by kernel_rfl) (fun _ _ _ h => h) (yields (by rfl) (fun w => by kernel_rfl)) hS ?_
          simp only [Act.put, List.setIfInBounds_toArray, List.set_cons_zero, List.set_cons_succ]
          refine takeAt 1 66 (.bool true) rfl rfl (by kernel_rfl) (by kernel_rfl) (by kernel_rfl) (fun _ _ _ h => h) (yields (by rfl) (fun w => by kernel_rfl)) hS ?_
          simp only [Act.put, List.setIfInBounds_toArray, List.set_cons_zero, List.set_cons_succ]
          refine takeAt 2 67 (.bool true) rfl rfl (by kernel_rfl) (by kernel_rfl) (by kernel_rfl) (fun _ _ _ h => h) (yields (by rfl) (fun w => by kernel_rfl)) hS ?_
          simp only [Act.put, List.setIfInBounds_toArray, List.set_cons_zero, List.set_cons_succ]
          refine takeAt 3 68 (.agg (trC B3 (t.1 + 1) cap3)) rfl rfl (by kernel_rfl) (by kernel_rfl) (by kernel_rfl) (fun _ _ _ h => h) (loadT7 (w3.heap.size) B3 (t.1 + 1) cap3 (fun _ h => HX3.out.below h HX3.out.lt) rfl rfl (by rfl)) hS ?_
          simp only [Act.put, List.setIfInBounds_toArray, List.set_cons_zero, List.set_cons_succ]
          refine takeAt 4 69 (.agg (trC B t.1 cap)) rfl rfl (by kernel_rfl) (by kernel_rfl) (by kernel_rfl) (fun _ _ _ h => h) (loadT7 (w1.heap.size) B t.1 cap (fun _ h => HX1.out.below h HX1.out.lt) rfl rfl (by rfl)) hS ?_
          simp only [Act.put, List.setIfInBounds_toArray, List.set_cons_zero, List.set_cons_succ]
          refine takeAt 5 70 (ndV (grpN 1)) rfl rfl (by kernel_rfl) (by kernel_rfl) (by kernel_rfl) (fun _ _ _ h => h) (yields (by rfl) (fun w => by kernel_rfl)) hS ?_
          simp only [Act.put, List.setIfInBounds_toArray, List.set_cons_zero, List.set_cons_succ]
          refine callAt 6 71 rfl rfl (by kernel_rfl) (by rfl) (by kernel_rfl) (Ast.wrap_any B t.1 cap t.2 (grpN 1) _ (by omega) (fun h => by obtain ⟨h1, h2⟩ := HW1.out h; exact ⟨h1, h2⟩) (HN1.out.below hS (Nat.le_refl _))) ?_
          intro e u' hres
          obtain ⟨A9, cap9, rfl, ht, hb⟩ := tree_res hres (Nat.le_add_left 1 _)
          have hS := thenB hS hb hS.size
          have hn9 := ht.nodes
          clear hres ht hb
          refine ⟨_, rfl, hS, ?_⟩
          simp only [Act.put, List.setIfInBounds_toArray, List.set_cons_zero, List.set_cons_succ]
          have hc7 := Ast.same_any B3 A9 (t.1 + 1) (t.1 + 1) cap3 cap9 (wrapL t.2 t.1 (grpN 1)) (wrapL t.2 t.1 (grpN 1)) _ (by omega) (by omega) (HN3.out.below hS (Nat.le_refl _)) hn9
          rw [same_self] at hc7
          refine callAt 7 72 rfl rfl (by kernel_rfl) (by rfl) (by kernel_rfl) (hc7) ?_
          rintro e u' ⟨rfl, hb⟩
          have hS := thenB hS hb hS.size
          clear hb
          refine ⟨_, rfl, hS, ?_⟩
          simp only [Act.put, List.setIfInBounds_toArray, List.set_cons_zero, List.set_cons_succ]
          refine takeAt 8 73 (.bool true) rfl rfl (by kernel_rfl) (by kernel_rfl) (by kernel_rfl) (fun _ _ _ h => h) (yields (by rfl) (fun w => by kernel_rfl)) hS ?_
          simp only [Act.put, List.setIfInBounds_toArray, List.set_cons_zero, List.set_cons_succ]
          refine takeAt 9 74 (.bool true) rfl rfl (by kernel_rfl) (by kernel_rfl) (by kernel_rfl) (fun _ _ _ h => h) (yields (by rfl) (fun w => by kernel_rfl)) hS ?_
          simp only [Act.put, List.setIfInBounds_toArray, List.set_cons_zero, List.set_cons_succ]
          refine callAt 10 75 rfl rfl (by kernel_rfl) (by rfl) (by kernel_rfl) (HF.out _ (HT.out.call (HB3.out.trans (hS.mono HB3.out.size)))) ?_
          rintro e u' ⟨rfl, hb⟩
          have hS := thenB hS hb hS.size
          clear hb
          refine ⟨_, rfl, hS, ?_⟩
          simp only [Act.put, List.setIfInBounds_toArray, List.set_cons_zero, List.set_cons_succ]
          refine takeAt 11 76 (.bool true) rfl rfl (by kernel_rfl) (by kernel_rfl) (by kernel_rfl) (fun _ _ _ h => h) (yields (by rfl) (fun w => by kernel_rfl)) hS ?_
          simp only [Act.put, List.setIfInBounds_toArray, List.set_cons_zero, List.set_cons_succ]
          refine takeAt 12 2 (.bool true) rfl rfl (by kernel_rfl) (by kernel_rfl) (by kernel_rfl) (fun _ _ _ h => h) (yields (by rfl) (fun w => by kernel_rfl)) hS ?_
          simp only [Act.put, List.setIfInBounds_toArray, List.set_cons_zero, List.set_cons_succ]
          refine wpAnyH_done (by kernel_rfl) ?_ _
          go_wp2_with fail
          go_ret
          exact ⟨rfl, HB3.out.trans (hS.mono HB3.out.size)⟩
        · have hn1 : (500 : Int) ≤ (t.1 : Nat) := by omega
          go_wp2_with fail
          with_reducible refine (HF.out _ (HT.out.call HB2.out)).mono ?_
          rintro e wf7 ⟨rfl, hb⟩
          have HZ := Lib.hid (thenB HB2.out hb HB2.out.size)
          clear hb
          go_wp2_with fail
          go_ret
          exact ⟨rfl, HZ.out⟩
      · have hd1 : (40 : Int) ≤ (deepZ t.2 t.1 : Nat) := by omega
        go_wp2_with fail
        with_reducible refine (HF.out _ (HT.out.call HB2.out)).mono ?_
        rintro e wf7 ⟨rfl, hb⟩
        have HZ := Lib.hid (thenB HB2.out hb HB2.out.size)
        clear hb
        go_wp2_with fail
        go_ret
        exact ⟨rfl, HZ.out⟩
    · have hg1 : (0 : Int) < (cntG t.2 t.1 : Nat) := by omega
      go_wp2_with (first | (refine loadTr rfl _ rfl _ _ _ _ rfl HX1.out ?_) | (refine loadTr rfl _ rfl _ _ _ _ rfl HX2.out ?_) | (refine loadTr rfl _ rfl _ _ _ _ rfl HX3.out ?_))
      refine (Ast.groups_any B t.1 cap t.2 _ (by omega) HN1.out).mono ?_
      rintro e w5 ⟨rfl, hb⟩
      have HBn := Lib.hid (thenB HB2.out hb HB2.out.size)
      clear HB2
      have HB2 := HBn
      clear HBn
      have HX1 := Lib.hid (HX1.out.below hb HX1.out.lt)
      have HX2 := Lib.hid (HX2.out.below hb HX2.out.lt)
      have HN1 := Lib.hid (HN1.out.below hb (Nat.le_refl _))
      have HN2 := Lib.hid (HN2.out.below hb (Nat.le_refl _))
      clear hb
      have hc1 := tree_cell HX1.out
      have hc2 := tree_cell HX2.out
      go_wp2_with fail
      with_reducible refine (HF.out _ (HT.out.call HB2.out)).mono ?_
      rintro e wf7 ⟨rfl, hb⟩
      have HZ := Lib.hid (thenB HB2.out hb HB2.out.size)
      clear hb
      go_wp2_with fail
      go_ret
      exact ⟨rfl, HZ.out⟩
  
set_option maxRecDepth 100000 in
set_option maxHeartbeats 32000000 in
theorem parsePlain_l (K : PKit) (p : ByteArray) (w : World) (hs : p.size ≤ 9223372036854775807) (hw : Tabs w) (hp : 300 < p.size) : Calls Tryz.prog 5 #[.string p] w fun e w' => e = .returned (.bool true) ∧ Below w.heap.size w w' := by
  have HF := Lib.hid (fun w (h : Tabs w) => fixed_any K w h)
  have HP0 := Lib.hid (fun p w (h : Tabs w) => parse_g K p w h)
  have HK := Lib.hid K
  have HT := Lib.hid hw
  clear hw K
  go_enter Tryz.func5, Tryz.ntmps5
  go_wp2_with fail
  have hXs0 : (p.extract 0 300).size = 300 := by rw [ByteArray.size_extract]; omega
  generalize p.extract 0 300 = X at hXs0 ⊢
  have HX := Lib.hid (show X.size ≤ 300 by omega)
  clear hXs0 hp hs
  have HB0 := Lib.hid (Below.refl w.heap.size w)
  go_wp2_with fail
  with_reducible refine (HP0.out X _ (HT.out.call HB0.out)).mono ?_
  rintro e w1 ⟨B, cap, rfl, ht, hb⟩
  have HNn := Lib.hid ht.nodes
  have HBn := Lib.hid (thenB HB0.out hb HB0.out.size)

  have HW1 := Lib.hid ht.none
  clear ht hb
  have HQ1 := Lib.hid (parse_cases X (by have := HX.out; omega))
  have HE1 := Lib.hid (show ∃ R, R = parseZ X from ⟨_, rfl⟩)
  obtain ⟨R, hR⟩ := HE1.out
  rw [← hR] at HNn HW1 HQ1 ⊢
  have HR1 := Lib.hid hR
  clear hR HE1
  obtain ⟨t, er⟩ := R
  simp only [] at HNn HW1 HQ1 ⊢
  go_wp2_with (refine storeNewTr rfl _ _ rfl w1 B t.1 cap rfl rfl rfl ?_; intro v1 hx hN; refine stopP ?_)
  unfold StopP
  have HX1 := Lib.hid hx.out
  have HB1 := Lib.hid (thenB HBn.out hN.out HBn.out.size)
  have HN1 := Lib.hid (HNn.out.below hN.out (Nat.le_refl _))

  have hc1 := tree_cell HX1.out
  clear hx hN HBn HNn
  rcases HQ1.out with ⟨h0, he⟩ | ⟨rfl, hr, hd, hn⟩
  · clear HQ1
    obtain ⟨n, L⟩ := t
    simp only [] at h0
    subst h0
    rcases he with rfl | rfl | rfl | rfl
    · go_wp2_with fail
      with_reducible refine (HF.out _ (HT.out.call HB1.out)).mono ?_
      rintro e wf2 ⟨rfl, hb⟩
      have HZ := Lib.hid (thenB HB1.out hb HB1.out.size)
      clear hb
      go_wp2_with fail
      go_ret
      exact ⟨rfl, HZ.out⟩
    · go_wp2_with fail
      with_reducible refine (HF.out _ (HT.out.call HB1.out)).mono ?_
      rintro e wf2 ⟨rfl, hb⟩
      have HZ := Lib.hid (thenB HB1.out hb HB1.out.size)
      clear hb
      go_wp2_with fail
      go_ret
      exact ⟨rfl, HZ.out⟩
    · go_wp2_with fail
      with_reducible refine (HF.out _ (HT.out.call HB1.out)).mono ?_
      rintro e wf2 ⟨rfl, hb⟩
      have HZ := Lib.hid (thenB HB1.out hb HB1.out.size)
      clear hb
      go_wp2_with fail
      go_ret
      exact ⟨rfl, HZ.out⟩
    · go_wp2_with fail
      with_reducible refine (HF.out _ (HT.out.call HB1.out)).mono ?_
      rintro e wf2 ⟨rfl, hb⟩
      have HZ := Lib.hid (thenB HB1.out hb HB1.out.size)
      clear hb
      go_wp2_with fail
      go_ret
      exact ⟨rfl, HZ.out⟩
  · clear HQ1
    have hs3 : ¬ 3 + X.size > 9223372036854775807 := by have := HX.out; omega
    have hs4 : ¬ 3 + X.size + 1 > 9223372036854775807 := by have := HX.out; omega
    have hs5 : ¬ 1 + X.size > 9223372036854775807 := by have := HX.out; omega
    have hs6 : ¬ 1 + X.size + 1 > 9223372036854775807 := by have := HX.out; omega
    go_wp2_with fail
    with_reducible refine (parse_at HK.out _ t.1 0 t.2 (plain_z_at HR1.out (by have := HX.out; omega)) _ (HT.out.call HB1.out)).mono ?_
    rintro e w2 ⟨B2, cap2, rfl, ht, hb⟩
    have HNn := Lib.hid ht.nodes
    have HBn := Lib.hid (thenB HB1.out hb HB1.out.size)
    have HX1 := Lib.hid (HX1.out.below hb HX1.out.lt)
    have HN1 := Lib.hid (HN1.out.below hb (Nat.le_refl _))
    clear ht hb
    simp only [] at HNn ⊢
    go_wp2_with (refine storeNewTr rfl _ _ rfl w2 B2 t.1 cap2 rfl rfl rfl ?_; intro v2 hx hN; refine stopP ?_)
    unfold StopP
    have HX2 := Lib.hid hx.out
    have HB2 := Lib.hid (thenB HBn.out hN.out HBn.out.size)
    have HN2 := Lib.hid (HNn.out.below hN.out (Nat.le_refl _))
    have HX1 := Lib.hid (HX1.out.below hN.out HX1.out.lt)
    have HN1 := Lib.hid (HN1.out.below hN.out (Nat.le_refl _))
    have hc2 := tree_cell HX2.out
    clear hx hN HBn HNn
    have hc1 := tree_cell HX1.out
    go_wp2_with (first | (refine loadTr rfl _ rfl w1.heap.size B t.1 cap rfl HX1.out ?_) | (refine loadTr rfl _ rfl w2.heap.size B2 t.1 cap2 rfl HX2.out ?_))
    refine (Ast.same_any B B2 t.1 t.1 cap cap2 t.2 t.2 _ (by omega) (by omega) HN1.out HN2.out).mono ?_
    rintro e w4 ⟨rfl, hb⟩
    have HBn := Lib.hid (thenB HB2.out hb HB2.out.size)
    clear HB2
    have HB2 := HBn
    clear HBn
    have HX1 := Lib.hid (HX1.out.below hb HX1.out.lt)
    have HX2 := Lib.hid (HX2.out.below hb HX2.out.lt)
    have HN1 := Lib.hid (HN1.out.below hb (Nat.le_refl _))
    have HN2 := Lib.hid (HN2.out.below hb (Nat.le_refl _))
    clear hb
    rw [same_self]
    have hc1 := tree_cell HX1.out
    have hc2 := tree_cell HX2.out
    by_cases hg : cntG t.2 t.1 = 0
    · have hg0 : cntT t = 0 := hg
      go_wp2_with (first | (refine loadTr rfl _ rfl _ _ _ _ rfl HX1.out ?_) | (refine loadTr rfl _ rfl _ _ _ _ rfl HX2.out ?_) | (refine loadTr rfl _ rfl _ _ _ _ rfl HX3.out ?_))
      refine (Ast.groups_any B t.1 cap t.2 _ (by omega) HN1.out).mono ?_
      rintro e w5 ⟨rfl, hb⟩
      have HBn := Lib.hid (thenB HB2.out hb HB2.out.size)
      clear HB2
      have HB2 := HBn
      clear HBn
      have HX1 := Lib.hid (HX1.out.below hb HX1.out.lt)
      have HX2 := Lib.hid (HX2.out.below hb HX2.out.lt)
      have HN1 := Lib.hid (HN1.out.below hb (Nat.le_refl _))
      have HN2 := Lib.hid (HN2.out.below hb (Nat.le_refl _))
      clear hb
      rw [hg]
      have hc1 := tree_cell HX1.out
      have hc2 := tree_cell HX2.out
      go_wp2_with (first | (refine loadTr rfl _ rfl _ _ _ _ rfl HX1.out ?_) | (refine loadTr rfl _ rfl _ _ _ _ rfl HX2.out ?_) | (refine loadTr rfl _ rfl _ _ _ _ rfl HX3.out ?_))
      refine (Ast.deep_any B t.1 cap t.2 _ (by omega) HN1.out).mono ?_
      rintro e w6 ⟨rfl, hb⟩
      have HBn := Lib.hid (thenB HB2.out hb HB2.out.size)
      clear HB2
      have HB2 := HBn
      clear HBn
      have HX1 := Lib.hid (HX1.out.below hb HX1.out.lt)
      have HX2 := Lib.hid (HX2.out.below hb HX2.out.lt)
      have HN1 := Lib.hid (HN1.out.below hb (Nat.le_refl _))
      have HN2 := Lib.hid (HN2.out.below hb (Nat.le_refl _))
      clear hb
      have hc1 := tree_cell HX1.out
      have hc2 := tree_cell HX2.out
      by_cases hdl : deepZ t.2 t.1 < 40
      · have hd1 : ¬ (40 : Int) ≤ (deepZ t.2 t.1 : Nat) := by omega
        by_cases hnl : t.1 < 500
        · have hn1 : ¬ (500 : Int) ≤ (t.1 : Nat) := by omega
          go_wp2_with fail
          with_reducible refine (parse_at HK.out _ (t.1 + 1) 0 (wrapT t (grpN 1)).2 (group_z_at HR1.out (by have := HX.out; omega) hg0 hdl hnl) _ (HT.out.call HB2.out)).mono ?_
          rintro e w3 ⟨B3, cap3, rfl, ht, hb⟩
          have HNn := Lib.hid ht.nodes
          have HBn := Lib.hid (thenB HB2.out hb HB2.out.size)
          have HX1 := Lib.hid (HX1.out.below hb HX1.out.lt)
          have HX2 := Lib.hid (HX2.out.below hb HX2.out.lt)
          have HN1 := Lib.hid (HN1.out.below hb (Nat.le_refl _))
          have HN2 := Lib.hid (HN2.out.below hb (Nat.le_refl _))
          clear ht hb
          simp only [] at HNn ⊢
          go_wp2_with (refine storeNewTr rfl _ _ rfl w3 B3 (t.1 + 1) cap3 rfl rfl rfl ?_; intro v3 hx hN; refine stopP ?_)
          unfold StopP
          have HX3 := Lib.hid hx.out
          have HB3 := Lib.hid (thenB HBn.out hN.out HBn.out.size)
          have HN3 := Lib.hid (HNn.out.below hN.out (Nat.le_refl _))
          have HX1 := Lib.hid (HX1.out.below hN.out HX1.out.lt)
          have HX2 := Lib.hid (HX2.out.below hN.out HX2.out.lt)
          have HN1 := Lib.hid (HN1.out.below hN.out (Nat.le_refl _))
          have HN2 := Lib.hid (HN2.out.below hN.out (Nat.le_refl _))
          have hc3 := tree_cell HX3.out
          clear hx hN HBn HNn
          go_wp2_with fail
          refine wp_region_held_drew (S := fun u => Below v3.heap.size v3 u) (by kernel_rfl) (show _ from (Below.refl _ v3).drew) (fun hS => ?_)
          generalize World.drew v3 = u0 at hS ⊢
          refine takeAt 0 65 (.int .i64 0) rfl rfl (by kernel_rfl) (by kernel_rfl) (by kernel_rfl) (fun _ _ _ h => h) (yields (by rfl) (fun w => by kernel_rfl)) hS ?_
          simp only [Act.put, List.setIfInBounds_toArray, List.set_cons_zero, List.set_cons_succ]
          refine takeAt 1 66 (.bool true) rfl rfl (by kernel_rfl) (by kernel_rfl) (by kernel_rfl) (fun _ _ _ h => h) (yields (by rfl) (fun w => by kernel_rfl)) hS ?_
          simp only [Act.put, List.setIfInBounds_toArray, List.set_cons_zero, List.set_cons_succ]
          refine takeAt 2 67 (.bool true) rfl rfl (by kernel_rfl) (by kernel_rfl) (by kernel_rfl) (fun _ _ _ h => h) (yields (by rfl) (fun w => by kernel_rfl)) hS ?_
          simp only [Act.put, List.setIfInBounds_toArray, List.set_cons_zero, List.set_cons_succ]
          refine takeAt 3 68 (.agg (trC B3 (t.1 + 1) cap3)) rfl rfl (by kernel_rfl) (by kernel_rfl) (by kernel_rfl) (fun _ _ _ h => h) (loadT7 (w3.heap.size) B3 (t.1 + 1) cap3 (fun _ h => HX3.out.below h HX3.out.lt) rfl rfl (by rfl)) hS ?_
          simp only [Act.put, List.setIfInBounds_toArray, List.set_cons_zero, List.set_cons_succ]
          refine takeAt 4 69 (.agg (trC B t.1 cap)) rfl rfl (by kernel_rfl) (by kernel_rfl) (by kernel_rfl) (fun _ _ _ h => h) (loadT7 (w1.heap.size) B t.1 cap (fun _ h => HX1.out.below h HX1.out.lt) rfl rfl (by rfl)) hS ?_
          simp only [Act.put, List.setIfInBounds_toArray, List.set_cons_zero, List.set_cons_succ]
          refine takeAt 5 70 (ndV (grpN 1)) rfl rfl (by kernel_rfl) (by kernel_rfl) (by kernel_rfl) (fun _ _ _ h => h) (yields (by rfl) (fun w => by kernel_rfl)) hS ?_
          simp only [Act.put, List.setIfInBounds_toArray, List.set_cons_zero, List.set_cons_succ]
          refine callAt 6 71 rfl rfl (by kernel_rfl) (by rfl) (by kernel_rfl) (Ast.wrap_any B t.1 cap t.2 (grpN 1) _ (by omega) (fun h => by obtain ⟨h1, h2⟩ := HW1.out h; exact ⟨h1, h2⟩) (HN1.out.below hS (Nat.le_refl _))) ?_
          intro e u' hres
          obtain ⟨A9, cap9, rfl, ht, hb⟩ := tree_res hres (Nat.le_add_left 1 _)
          have hS := thenB hS hb hS.size
          have hn9 := ht.nodes
          clear hres ht hb
          refine ⟨_, rfl, hS, ?_⟩
          simp only [Act.put, List.setIfInBounds_toArray, List.set_cons_zero, List.set_cons_succ]
          have hc7 := Ast.same_any B3 A9 (t.1 + 1) (t.1 + 1) cap3 cap9 (wrapL t.2 t.1 (grpN 1)) (wrapL t.2 t.1 (grpN 1)) _ (by omega) (by omega) (HN3.out.below hS (Nat.le_refl _)) hn9
          rw [same_self] at hc7
          refine callAt 7 72 rfl rfl (by kernel_rfl) (by rfl) (by kernel_rfl) (hc7) ?_
          rintro e u' ⟨rfl, hb⟩
          have hS := thenB hS hb hS.size
          clear hb
          refine ⟨_, rfl, hS, ?_⟩
          simp only [Act.put, List.setIfInBounds_toArray, List.set_cons_zero, List.set_cons_succ]
          refine takeAt 8 73 (.bool true) rfl rfl (by kernel_rfl) (by kernel_rfl) (by kernel_rfl) (fun _ _ _ h => h) (yields (by rfl) (fun w => by kernel_rfl)) hS ?_
          simp only [Act.put, List.setIfInBounds_toArray, List.set_cons_zero, List.set_cons_succ]
          refine takeAt 9 74 (.bool true) rfl rfl (by kernel_rfl) (by kernel_rfl) (by kernel_rfl) (fun _ _ _ h => h) (yields (by rfl) (fun w => by kernel_rfl)) hS ?_
          simp only [Act.put, List.setIfInBounds_toArray, List.set_cons_zero, List.set_cons_succ]
          refine callAt 10 75 rfl rfl (by kernel_rfl) (by rfl) (by kernel_rfl) (HF.out _ (HT.out.call (HB3.out.trans (hS.mono HB3.out.size)))) ?_
          rintro e u' ⟨rfl, hb⟩
          have hS := thenB hS hb hS.size
          clear hb
          refine ⟨_, rfl, hS, ?_⟩
          simp only [Act.put, List.setIfInBounds_toArray, List.set_cons_zero, List.set_cons_succ]
          refine takeAt 11 76 (.bool true) rfl rfl (by kernel_rfl) (by kernel_rfl) (by kernel_rfl) (fun _ _ _ h => h) (yields (by rfl) (fun w => by kernel_rfl)) hS ?_
          simp only [Act.put, List.setIfInBounds_toArray, List.set_cons_zero, List.set_cons_succ]
          refine takeAt 12 2 (.bool true) rfl rfl (by kernel_rfl) (by kernel_rfl) (by kernel_rfl) (fun _ _ _ h => h) (yields (by rfl) (fun w => by kernel_rfl)) hS ?_
          simp only [Act.put, List.setIfInBounds_toArray, List.set_cons_zero, List.set_cons_succ]
          refine wpAnyH_done (by kernel_rfl) ?_ _
          go_wp2_with fail
          go_ret
          exact ⟨rfl, HB3.out.trans (hS.mono HB3.out.size)⟩
        · have hn1 : (500 : Int) ≤ (t.1 : Nat) := by omega
          go_wp2_with fail
          with_reducible refine (HF.out _ (HT.out.call HB2.out)).mono ?_
          rintro e wf7 ⟨rfl, hb⟩
          have HZ := Lib.hid (thenB HB2.out hb HB2.out.size)
          clear hb
          go_wp2_with fail
          go_ret
          exact ⟨rfl, HZ.out⟩
      · have hd1 : (40 : Int) ≤ (deepZ t.2 t.1 : Nat) := by omega
        go_wp2_with fail
        with_reducible refine (HF.out _ (HT.out.call HB2.out)).mono ?_
        rintro e wf7 ⟨rfl, hb⟩
        have HZ := Lib.hid (thenB HB2.out hb HB2.out.size)
        clear hb
        go_wp2_with fail
        go_ret
        exact ⟨rfl, HZ.out⟩
    · have hg1 : (0 : Int) < (cntG t.2 t.1 : Nat) := by omega
      go_wp2_with (first | (refine loadTr rfl _ rfl _ _ _ _ rfl HX1.out ?_) | (refine loadTr rfl _ rfl _ _ _ _ rfl HX2.out ?_) | (refine loadTr rfl _ rfl _ _ _ _ rfl HX3.out ?_))
      refine (Ast.groups_any B t.1 cap t.2 _ (by omega) HN1.out).mono ?_
      rintro e w5 ⟨rfl, hb⟩
      have HBn := Lib.hid (thenB HB2.out hb HB2.out.size)
      clear HB2
      have HB2 := HBn
      clear HBn
      have HX1 := Lib.hid (HX1.out.below hb HX1.out.lt)
      have HX2 := Lib.hid (HX2.out.below hb HX2.out.lt)
      have HN1 := Lib.hid (HN1.out.below hb (Nat.le_refl _))
      have HN2 := Lib.hid (HN2.out.below hb (Nat.le_refl _))
      clear hb
      have hc1 := tree_cell HX1.out
      have hc2 := tree_cell HX2.out
      go_wp2_with fail
      with_reducible refine (HF.out _ (HT.out.call HB2.out)).mono ?_
      rintro e wf7 ⟨rfl, hb⟩
      have HZ := Lib.hid (thenB HB2.out hb HB2.out.size)
      clear hb
      go_wp2_with fail
      go_ret
      exact ⟨rfl, HZ.out⟩
  

theorem parsePlain_any (K : PKit) (p : ByteArray) (w : World) (hs : p.size ≤ 9223372036854775807) (hw : Tabs w) : Calls Tryz.prog 5 #[.string p] w fun e w' => e = .returned (.bool true) ∧ Below w.heap.size w w' := by
  by_cases h : p.size ≤ 300
  · exact parsePlain_s K p w hs hw h
  · exact parsePlain_l K p w hs hw (by omega)
end Go.Proofs.YtdnbpbngoiahlaaGreatDoor
