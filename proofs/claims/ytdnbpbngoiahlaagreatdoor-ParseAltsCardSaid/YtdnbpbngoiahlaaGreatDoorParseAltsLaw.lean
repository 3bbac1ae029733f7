/-
  Layer 7: the walk of the statement ParseAlts.
-/
import Derived.Test.YtdnbpbngoiahlaaGreatDoorParTakes
import Derived.Test.YtdnbpbngoiahlaaGreatDoorParRightM
namespace Go.Proofs.YtdnbpbngoiahlaaGreatDoor
open Go.RowKit
open Ast (Nd ndV joinL wrapL deepZ rightZ cntG Nodes)

theorem alts_z_at {p q : ByteArray} {t u : Tr} (h : (t, (0 : Int)) = parseZ p) (h' : (u, (0 : Int)) = parseZ q) (hs : p.size ≤ 100) (hs' : q.size ≤ 100) (hg : cntT t + cntT u = 0) (hd : deepZ t.2 t.1 < 40) (hd' : deepZ u.2 u.1 < 40) : parseZ (pre7 ++ p ++ midA7 ++ q ++ post7) = ((t.1 + u.1 + 1, (joinT t u 9).2), 0) := by
  have := alts_z (p := p) (q := q) (by rw [← h]) (by rw [← h']) hs hs' (by rw [← h, ← h']; exact hg) (by rw [← h]; exact hd) (by rw [← h']; exact hd')
  rw [← h, ← h'] at this
  exact this
theorem cats_z_at {p q : ByteArray} {t u : Tr} (h : (t, (0 : Int)) = parseZ p) (h' : (u, (0 : Int)) = parseZ q) (hs : p.size ≤ 100) (hs' : q.size ≤ 100) (hg : cntT t + cntT u = 0) (hd : deepZ t.2 t.1 < 40) (hd' : deepZ u.2 u.1 < 40) : parseZ (pre7 ++ p ++ midC7 ++ q ++ post7) = ((t.1 + u.1 + 1, (joinT t u 8).2), 0) := by
  have := cats_z (p := p) (q := q) (by rw [← h]) (by rw [← h']) hs hs' (by rw [← h, ← h']; exact hg) (by rw [← h]; exact hd) (by rw [← h']; exact hd')
  rw [← h, ← h'] at this
  exact this
set_option maxRecDepth 100000 in
set_option maxHeartbeats 32000000 in
theorem parseAlts_ss (K : PKit) (p q : ByteArray) (w : World) (hs : p.size ≤ 9223372036854775807) (hs' : q.size ≤ 9223372036854775807) (hw : Tabs w) (hp : p.size ≤ 100) (hq : q.size ≤ 100) : Calls Tryz.prog 6 #[.string p, .string q] w fun e w' => e = .returned (.bool true) ∧ Below w.heap.size w w' := by
  have HF := Lib.hid (fun w (h : Tabs w) => fixed_any K w h)
  have HP0 := Lib.hid (fun p w (h : Tabs w) => parse_g K p w h)
  have HK := Lib.hid K
  have HT := Lib.hid hw
  clear hw K
  go_enter Tryz.func6, Tryz.ntmps6
  go_wp2_with fail
  have HX := Lib.hid hp
  obtain ⟨X, rfl⟩ : ∃ X, X = p := ⟨_, rfl⟩
  clear hp
  have HY := Lib.hid hq
  obtain ⟨Y, rfl⟩ : ∃ Y, Y = q := ⟨_, rfl⟩
  clear hq
  have HB0 := Lib.hid (Below.refl w.heap.size w)
  go_wp2_with fail
  with_reducible refine (HP0.out X _ (HT.out.call HB0.out)).mono ?_
  rintro e w1 ⟨B, cap, rfl, ht, hb⟩
  have HNn := Lib.hid ht.nodes
  have HBn := Lib.hid (thenB HB0.out hb HB0.out.size)

  have HW1 := Lib.hid ht.none
  clear ht hb
  have HQ1 := Lib.hid (parse_cases X (by have := HX.out; omega))
  have HE1 := Lib.hid (show ∃ R, R = parseZ X from ⟨_, rfl⟩)
  obtain ⟨R, hR⟩ := HE1.out
  rw [← hR] at HNn HW1 HQ1 ⊢
  have HR1 := Lib.hid hR
  clear hR HE1
  obtain ⟨t, er⟩ := R
  simp only [] at HNn HW1 HQ1 ⊢
  go_wp2_with (refine storeNewTr rfl _ _ rfl w1 B t.1 cap rfl rfl rfl ?_; intro v1 hx hN; refine stopP ?_)
  unfold StopP
  have HX1 := Lib.hid hx.out
  have HB1 := Lib.hid (thenB HBn.out hN.out HBn.out.size)
  have HN1 := Lib.hid (HNn.out.below hN.out (Nat.le_refl _))

  have hc1 := tree_cell HX1.out
  clear hx hN HBn HNn
  go_wp2_with fail
  with_reducible refine (HP0.out Y _ (HT.out.call HB1.out)).mono ?_
  rintro e w2 ⟨B2, cap2, rfl, ht, hb⟩
  have HNn := Lib.hid ht.nodes
  have HBn := Lib.hid (thenB HB1.out hb HB1.out.size)
  have HX1 := Lib.hid (HX1.out.below hb HX1.out.lt)
  have HN1 := Lib.hid (HN1.out.below hb (Nat.le_refl _))
  have HW2 := Lib.hid ht.none
  clear ht hb
  have HQ2 := Lib.hid (parse_cases Y (by have := HY.out; omega))
  have HE2 := Lib.hid (show ∃ R, R = parseZ Y from ⟨_, rfl⟩)
  obtain ⟨R, hR⟩ := HE2.out
  rw [← hR] at HNn HW2 HQ2 ⊢
  have HR2 := Lib.hid hR
  clear hR HE2
  obtain ⟨u, fr⟩ := R
  simp only [] at HNn HW2 HQ2 ⊢
  go_wp2_with (refine storeNewTr rfl _ _ rfl w2 B2 u.1 cap2 rfl rfl rfl ?_; intro v2 hx hN; refine stopP ?_)
  unfold StopP
  have HX2 := Lib.hid hx.out
  have HB2 := Lib.hid (thenB HBn.out hN.out HBn.out.size)
  have HN2 := Lib.hid (HNn.out.below hN.out (Nat.le_refl _))
  have HX1 := Lib.hid (HX1.out.below hN.out HX1.out.lt)
  have HN1 := Lib.hid (HN1.out.below hN.out (Nat.le_refl _))
  have hc2 := tree_cell HX2.out
  clear hx hN HBn HNn
  have hc1 := tree_cell HX1.out
  rcases HQ1.out with ⟨h0, he⟩ | ⟨rfl, hr, hd, hn⟩
  · have he0 : (er == 0) = false := by simp; omega
    clear HQ1 HQ2 he
    obtain ⟨n, L⟩ := t
    simp only [] at h0
    subst h0
    go_wp2_with fail
    refine wp_region_held_drew (S := fun u => Below v2.heap.size v2 u) (by kernel_rfl) (show _ from (Below.refl _ v2).drew) (fun hS => ?_)
    generalize World.drew v2 = u0 at hS ⊢
    refine takeAt 0 33 (.int .i64 er) rfl rfl (by kernel_rfl) (by kernel_rfl) (by kernel_rfl) (fun _ _ _ h => h) (yields (by rfl) (fun w => by kernel_rfl)) hS ?_
    simp only [Act.put, List.setIfInBounds_toArray, List.set_cons_zero, List.set_cons_succ]
    refine takeAt 1 34 (.bool true) rfl rfl (by kernel_rfl) (by kernel_rfl) (by kernel_rfl) (fun _ _ _ h => h) (neqE_y (m := er) (n := 0) true (by rw [he0]; rfl) rfl rfl rfl (by rfl)) hS ?_
    simp only [Act.put, List.setIfInBounds_toArray, List.set_cons_zero, List.set_cons_succ]
    refine takeAt 2 35 (.bool true) rfl rfl (by kernel_rfl) (by kernel_rfl) (by kernel_rfl) (fun _ _ _ h => h) (yields (by rfl) (fun w => by kernel_rfl)) hS ?_
    simp only [Act.put, List.setIfInBounds_toArray, List.set_cons_zero, List.set_cons_succ]
    refine takeAt 3 36 (undef) rfl rfl (by kernel_rfl) (by kernel_rfl) (by kernel_rfl) (fun _ _ _ h => h) (skipped (by rfl)) hS ?_
    simp only [Act.put, List.setIfInBounds_toArray, List.set_cons_zero, List.set_cons_succ]
    refine takeAt 4 37 (undef) rfl rfl (by kernel_rfl) (by kernel_rfl) (by kernel_rfl) (fun _ _ _ h => h) (skipped (by rfl)) hS ?_
    simp only [Act.put, List.setIfInBounds_toArray, List.set_cons_zero, List.set_cons_succ]
    refine takeAt 5 38 (.bool true) rfl rfl (by kernel_rfl) (by kernel_rfl) (by kernel_rfl) (fun _ _ _ h => h) (yields (by rfl) (fun w => by kernel_rfl)) hS ?_
    simp only [Act.put, List.setIfInBounds_toArray, List.set_cons_zero, List.set_cons_succ]
    refine takeAt 6 39 (.bool true) rfl rfl (by kernel_rfl) (by kernel_rfl) (by kernel_rfl) (fun _ _ _ h => h) (yields (by rfl) (fun w => by kernel_rfl)) hS ?_
    simp only [Act.put, List.setIfInBounds_toArray, List.set_cons_zero, List.set_cons_succ]
    refine takeAt 7 40 (undef) rfl rfl (by kernel_rfl) (by kernel_rfl) (by kernel_rfl) (fun _ _ _ h => h) (skipped (by rfl)) hS ?_
    simp only [Act.put, List.setIfInBounds_toArray, List.set_cons_zero, List.set_cons_succ]
    refine takeAt 8 41 (undef) rfl rfl (by kernel_rfl) (by kernel_rfl) (by kernel_rfl) (fun _ _ _ h => h) (skipped (by rfl)) hS ?_
    simp only [Act.put, List.setIfInBounds_toArray, List.set_cons_zero, List.set_cons_succ]
    refine takeAt 9 42 (undef) rfl rfl (by kernel_rfl) (by kernel_rfl) (by kernel_rfl) (fun _ _ _ h => h) (skipped (by rfl)) hS ?_
    simp only [Act.put, List.setIfInBounds_toArray, List.set_cons_zero, List.set_cons_succ]
    refine takeAt 10 43 (undef) rfl rfl (by kernel_rfl) (by kernel_rfl) (by kernel_rfl) (fun _ _ _ h => h) (skipped (by rfl)) hS ?_
    simp only [Act.put, List.setIfInBounds_toArray, List.set_cons_zero, List.set_cons_succ]
    refine takeAt 11 44 (undef) rfl rfl (by kernel_rfl) (by kernel_rfl) (by kernel_rfl) (fun _ _ _ h => h) (skipped (by rfl)) hS ?_
    simp only [Act.put, List.setIfInBounds_toArray, List.set_cons_zero, List.set_cons_succ]
    as_aux_lemma =>
      refine takeAt 12 45 (undef) rfl rfl (by kernel_rfl) (by kernel_rfl) (by kernel_rfl) (fun _ _ _ h => h) (skipped (by rfl)) hS ?_
      simp only [Act.put, List.setIfInBounds_toArray, List.set_cons_zero, List.set_cons_succ]
      refine takeAt 13 46 (.bool true) rfl rfl (by kernel_rfl) (by kernel_rfl) (by kernel_rfl) (fun _ _ _ h => h) (yields (by rfl) (fun w => by kernel_rfl)) hS ?_
      simp only [Act.put, List.setIfInBounds_toArray, List.set_cons_zero, List.set_cons_succ]
      refine takeAt 14 47 (.bool true) rfl rfl (by kernel_rfl) (by kernel_rfl) (by kernel_rfl) (fun _ _ _ h => h) (yields (by rfl) (fun w => by kernel_rfl)) hS ?_
      simp only [Act.put, List.setIfInBounds_toArray, List.set_cons_zero, List.set_cons_succ]
      refine takeAt 15 48 (undef) rfl rfl (by kernel_rfl) (by kernel_rfl) (by kernel_rfl) (fun _ _ _ h => h) (skipped (by rfl)) hS ?_
      simp only [Act.put, List.setIfInBounds_toArray, List.set_cons_zero, List.set_cons_succ]
      refine takeAt 16 49 (undef) rfl rfl (by kernel_rfl) (by kernel_rfl) (by kernel_rfl) (fun _ _ _ h => h) (skipped (by rfl)) hS ?_
      simp only [Act.put, List.setIfInBounds_toArray, List.set_cons_zero, List.set_cons_succ]
      refine takeAt 17 50 (undef) rfl rfl (by kernel_rfl) (by kernel_rfl) (by kernel_rfl) (fun _ _ _ h => h) (skipped (by rfl)) hS ?_
      simp only [Act.put, List.setIfInBounds_toArray, List.set_cons_zero, List.set_cons_succ]
      refine takeAt 18 51 (undef) rfl rfl (by kernel_rfl) (by kernel_rfl) (by kernel_rfl) (fun _ _ _ h => h) (skipped (by rfl)) hS ?_
      simp only [Act.put, List.setIfInBounds_toArray, List.set_cons_zero, List.set_cons_succ]
      refine takeAt 19 52 (undef) rfl rfl (by kernel_rfl) (by kernel_rfl) (by kernel_rfl) (fun _ _ _ h => h) (skipped (by rfl)) hS ?_
      simp only [Act.put, List.setIfInBounds_toArray, List.set_cons_zero, List.set_cons_succ]
      refine takeAt 20 53 (undef) rfl rfl (by kernel_rfl) (by kernel_rfl) (by kernel_rfl) (fun _ _ _ h => h) (skipped (by rfl)) hS ?_
      simp only [Act.put, List.setIfInBounds_toArray, List.set_cons_zero, List.set_cons_succ]
      refine takeAt 21 54 (.bool true) rfl rfl (by kernel_rfl) (by kernel_rfl) (by kernel_rfl) (fun _ _ _ h => h) (yields (by rfl) (fun w => by kernel_rfl)) hS ?_
      simp only [Act.put, List.setIfInBounds_toArray, List.set_cons_zero, List.set_cons_succ]
      refine wpAnyH_done (by kernel_rfl) ?_ _
      have HBn := Lib.hid (HB2.out.trans (hS.mono HB2.out.size))
      clear HB2
      have HB2 := HBn
      clear HBn
      have HX1 := Lib.hid (HX1.out.below hS HX1.out.lt)
      have HX2 := Lib.hid (HX2.out.below hS HX2.out.lt)
      have HN1 := Lib.hid (HN1.out.below hS (Nat.le_refl _))
      have HN2 := Lib.hid (HN2.out.below hS (Nat.le_refl _))
      clear hS
      have hc1 := tree_cell HX1.out
      have hc2 := tree_cell HX2.out
      go_wp2_with fail
      with_reducible refine (HF.out _ (HT.out.call HB2.out)).mono ?_
      rintro e wf9 ⟨rfl, hb⟩
      have HZ := Lib.hid (thenB HB2.out hb HB2.out.size)
      clear hb
      go_wp2_with fail
      go_ret
      exact ⟨rfl, HZ.out⟩
  · rcases HQ2.out with ⟨h0, hf⟩ | ⟨rfl, hr', hd', hn'⟩
    · have hf0 : (fr == 0) = false := by simp; omega
      clear HQ1 HQ2 hf
      go_wp2_with fail
      refine wp_region_held_drew (S := fun u => Below v2.heap.size v2 u) (by kernel_rfl) (show _ from (Below.refl _ v2).drew) (fun hS => ?_)
      generalize World.drew v2 = u0 at hS ⊢
      refine takeAt 0 33 (.int .i64 0) rfl rfl (by kernel_rfl) (by kernel_rfl) (by kernel_rfl) (fun _ _ _ h => h) (yields (by rfl) (fun w => by kernel_rfl)) hS ?_
      simp only [Act.put, List.setIfInBounds_toArray, List.set_cons_zero, List.set_cons_succ]
      refine takeAt 1 34 (.bool false) rfl rfl (by kernel_rfl) (by kernel_rfl) (by kernel_rfl) (fun _ _ _ h => h) (yields (by rfl) (fun w => by kernel_rfl)) hS ?_
      simp only [Act.put, List.setIfInBounds_toArray, List.set_cons_zero, List.set_cons_succ]
      refine takeAt 2 35 (.bool false) rfl rfl (by kernel_rfl) (by kernel_rfl) (by kernel_rfl) (fun _ _ _ h => h) (yields (by rfl) (fun w => by kernel_rfl)) hS ?_
      simp only [Act.put, List.setIfInBounds_toArray, List.set_cons_zero, List.set_cons_succ]
      refine takeAt 3 36 (.int .i64 fr) rfl rfl (by kernel_rfl) (by kernel_rfl) (by kernel_rfl) (fun _ _ _ h => h) (yields (by rfl) (fun w => by kernel_rfl)) hS ?_
      simp only [Act.put, List.setIfInBounds_toArray, List.set_cons_zero, List.set_cons_succ]
      refine takeAt 4 37 (.bool true) rfl rfl (by kernel_rfl) (by kernel_rfl) (by kernel_rfl) (fun _ _ _ h => h) (neqE_y (m := fr) (n := 0) true (by rw [hf0]; rfl) rfl rfl rfl (by rfl)) hS ?_
      simp only [Act.put, List.setIfInBounds_toArray, List.set_cons_zero, List.set_cons_succ]
      refine takeAt 5 38 (.bool true) rfl rfl (by kernel_rfl) (by kernel_rfl) (by kernel_rfl) (fun _ _ _ h => h) (yields (by rfl) (fun w => by kernel_rfl)) hS ?_
      simp only [Act.put, List.setIfInBounds_toArray, List.set_cons_zero, List.set_cons_succ]
      refine takeAt 6 39 (.bool true) rfl rfl (by kernel_rfl) (by kernel_rfl) (by kernel_rfl) (fun _ _ _ h => h) (yields (by rfl) (fun w => by kernel_rfl)) hS ?_
      simp only [Act.put, List.setIfInBounds_toArray, List.set_cons_zero, List.set_cons_succ]
      refine takeAt 7 40 (undef) rfl rfl (by kernel_rfl) (by kernel_rfl) (by kernel_rfl) (fun _ _ _ h => h) (skipped (by rfl)) hS ?_
      simp only [Act.put, List.setIfInBounds_toArray, List.set_cons_zero, List.set_cons_succ]
      refine takeAt 8 41 (undef) rfl rfl (by kernel_rfl) (by kernel_rfl) (by kernel_rfl) (fun _ _ _ h => h) (skipped (by rfl)) hS ?_
      simp only [Act.put, List.setIfInBounds_toArray, List.set_cons_zero, List.set_cons_succ]
      refine takeAt 9 42 (undef) rfl rfl (by kernel_rfl) (by kernel_rfl) (by kernel_rfl) (fun _ _ _ h => h) (skipped (by rfl)) hS ?_
      simp only [Act.put, List.setIfInBounds_toArray, List.set_cons_zero, List.set_cons_succ]
      refine takeAt 10 43 (undef) rfl rfl (by kernel_rfl) (by kernel_rfl) (by kernel_rfl) (fun _ _ _ h => h) (skipped (by rfl)) hS ?_
      simp only [Act.put, List.setIfInBounds_toArray, List.set_cons_zero, List.set_cons_succ]
      refine takeAt 11 44 (undef) rfl rfl (by kernel_rfl) (by kernel_rfl) (by kernel_rfl) (fun _ _ _ h => h) (skipped (by rfl)) hS ?_
      simp only [Act.put, List.setIfInBounds_toArray, List.set_cons_zero, List.set_cons_succ]
      as_aux_lemma =>
        refine takeAt 12 45 (undef) rfl rfl (by kernel_rfl) (by kernel_rfl) (by kernel_rfl) (fun _ _ _ h => h) (skipped (by rfl)) hS ?_
        simp only [Act.put, List.setIfInBounds_toArray, List.set_cons_zero, List.set_cons_succ]
        refine takeAt 13 46 (.bool true) rfl rfl (by kernel_rfl) (by kernel_rfl) (by kernel_rfl) (fun _ _ _ h => h) (yields (by rfl) (fun w => by kernel_rfl)) hS ?_
        simp only [Act.put, List.setIfInBounds_toArray, List.set_cons_zero, List.set_cons_succ]
        refine takeAt 14 47 (.bool true) rfl rfl (by kernel_rfl) (by kernel_rfl) (by kernel_rfl) (fun _ _ _ h => h) (yields (by rfl) (fun w => by kernel_rfl)) hS ?_
        simp only [Act.put, List.setIfInBounds_toArray, List.set_cons_zero, List.set_cons_succ]
        refine takeAt 15 48 (undef) rfl rfl (by kernel_rfl) (by kernel_rfl) (by kernel_rfl) (fun _ _ _ h => h) (skipped (by rfl)) hS ?_
        simp only [Act.put, List.setIfInBounds_toArray, List.set_cons_zero, List.set_cons_succ]
        refine takeAt 16 49 (undef) rfl rfl (by kernel_rfl) (by kernel_rfl) (by kernel_rfl) (fun _ _ _ h => h) (skipped (by rfl)) hS ?_
        simp only [Act.put, List.setIfInBounds_toArray, List.set_cons_zero, List.set_cons_succ]
        refine takeAt 17 50 (undef) rfl rfl (by kernel_rfl) (by kernel_rfl) (by kernel_rfl) (fun _ _ _ h => h) (skipped (by rfl)) hS ?_
        simp only [Act.put, List.setIfInBounds_toArray, List.set_cons_zero, List.set_cons_succ]
        refine takeAt 18 51 (undef) rfl rfl (by kernel_rfl) (by kernel_rfl) (by kernel_rfl) (fun _ _ _ h => h) (skipped (by rfl)) hS ?_
        simp only [Act.put, List.setIfInBounds_toArray, List.set_cons_zero, List.set_cons_succ]
        refine takeAt 19 52 (undef) rfl rfl (by kernel_rfl) (by kernel_rfl) (by kernel_rfl) (fun _ _ _ h => h) (skipped (by rfl)) hS ?_
        simp only [Act.put, List.setIfInBounds_toArray, List.set_cons_zero, List.set_cons_succ]
        refine takeAt 20 53 (undef) rfl rfl (by kernel_rfl) (by kernel_rfl) (by kernel_rfl) (fun _ _ _ h => h) (skipped (by rfl)) hS ?_
        simp only [Act.put, List.setIfInBounds_toArray, List.set_cons_zero, List.set_cons_succ]
        refine takeAt 21 54 (.bool true) rfl rfl (by kernel_rfl) (by kernel_rfl) (by kernel_rfl) (fun _ _ _ h => h) (yields (by rfl) (fun w => by kernel_rfl)) hS ?_
        simp only [Act.put, List.setIfInBounds_toArray, List.set_cons_zero, List.set_cons_succ]
        refine wpAnyH_done (by kernel_rfl) ?_ _
        have HBn := Lib.hid (HB2.out.trans (hS.mono HB2.out.size))
        clear HB2
        have HB2 := HBn
        clear HBn
        have HX1 := Lib.hid (HX1.out.below hS HX1.out.lt)
        have HX2 := Lib.hid (HX2.out.below hS HX2.out.lt)
        have HN1 := Lib.hid (HN1.out.below hS (Nat.le_refl _))
        have HN2 := Lib.hid (HN2.out.below hS (Nat.le_refl _))
        clear hS
        have hc1 := tree_cell HX1.out
        have hc2 := tree_cell HX2.out
        go_wp2_with fail
        with_reducible refine (HF.out _ (HT.out.call HB2.out)).mono ?_
        rintro e wf9 ⟨rfl, hb⟩
        have HZ := Lib.hid (thenB HB2.out hb HB2.out.size)
        clear hb
        go_wp2_with fail
        go_ret
        exact ⟨rfl, HZ.out⟩
    · clear HQ1 HQ2
      have hq1 : cntG t.2 t.1 ≤ 500 := Nat.le_trans (Ast.cntG_le _ _) hn
      have hq2 : cntG u.2 u.1 ≤ 500 := Nat.le_trans (Ast.cntG_le _ _) hn'
      by_cases hg : cntG t.2 t.1 + cntG u.2 u.1 = 0
      · have hg1 : cntG t.2 t.1 = 0 := by omega
        have hg2 : cntG u.2 u.1 = 0 := by omega
        obtain ⟨d1, hd1⟩ : ∃ d, d = deepZ t.2 t.1 := ⟨_, rfl⟩
        obtain ⟨d2, hd2⟩ : ∃ d, d = deepZ u.2 u.1 := ⟨_, rfl⟩
        by_cases hdm : 40 ≤ max d1 d2
        · clear hg hq1 hq2 hr hr' hd hd'
          go_wp2_with fail
          refine wp_region_held_drew (S := fun u => Below v2.heap.size v2 u) (by kernel_rfl) (show _ from (Below.refl _ v2).drew) (fun hS => ?_)
          generalize World.drew v2 = u0 at hS ⊢
          refine takeAt 0 33 (.int .i64 0) rfl rfl (by kernel_rfl) (by kernel_rfl) (by kernel_rfl) (fun _ _ _ h => h) (yields (by rfl) (fun w => by kernel_rfl)) hS ?_
          simp only [Act.put, List.setIfInBounds_toArray, List.set_cons_zero, List.set_cons_succ]
          refine takeAt 1 34 (.bool false) rfl rfl (by kernel_rfl) (by kernel_rfl) (by kernel_rfl) (fun _ _ _ h => h) (yields (by rfl) (fun w => by kernel_rfl)) hS ?_
          simp only [Act.put, List.setIfInBounds_toArray, List.set_cons_zero, List.set_cons_succ]
          refine takeAt 2 35 (.bool false) rfl rfl (by kernel_rfl) (by kernel_rfl) (by kernel_rfl) (fun _ _ _ h => h) (yields (by rfl) (fun w => by kernel_rfl)) hS ?_
          simp only [Act.put, List.setIfInBounds_toArray, List.set_cons_zero, List.set_cons_succ]
          refine takeAt 3 36 (.int .i64 0) rfl rfl (by kernel_rfl) (by kernel_rfl) (by kernel_rfl) (fun _ _ _ h => h) (yields (by rfl) (fun w => by kernel_rfl)) hS ?_
          simp only [Act.put, List.setIfInBounds_toArray, List.set_cons_zero, List.set_cons_succ]
          refine takeAt 4 37 (.bool false) rfl rfl (by kernel_rfl) (by kernel_rfl) (by kernel_rfl) (fun _ _ _ h => h) (yields (by rfl) (fun w => by kernel_rfl)) hS ?_
          simp only [Act.put, List.setIfInBounds_toArray, List.set_cons_zero, List.set_cons_succ]
          refine takeAt 5 38 (.bool false) rfl rfl (by kernel_rfl) (by kernel_rfl) (by kernel_rfl) (fun _ _ _ h => h) (yields (by rfl) (fun w => by kernel_rfl)) hS ?_
          simp only [Act.put, List.setIfInBounds_toArray, List.set_cons_zero, List.set_cons_succ]
          refine takeAt 6 39 (.bool false) rfl rfl (by kernel_rfl) (by kernel_rfl) (by kernel_rfl) (fun _ _ _ h => h) (yields (by rfl) (fun w => by kernel_rfl)) hS ?_
          simp only [Act.put, List.setIfInBounds_toArray, List.set_cons_zero, List.set_cons_succ]
          refine takeAt 7 40 (.agg (trC B t.1 cap)) rfl rfl (by kernel_rfl) (by kernel_rfl) (by kernel_rfl) (fun _ _ _ h => h) (loadT7 (w1.heap.size) B t.1 cap (fun _ h => HX1.out.below h HX1.out.lt) rfl rfl (by rfl)) hS ?_
          simp only [Act.put, List.setIfInBounds_toArray, List.set_cons_zero, List.set_cons_succ]
          refine takeAt 9 42 (.agg (trC B2 u.1 cap2)) rfl rfl (by kernel_rfl) (by kernel_rfl) (by kernel_rfl) (fun _ _ _ h => h) (loadT7 (w2.heap.size) B2 u.1 cap2 (fun _ h => HX2.out.below h HX2.out.lt) rfl rfl (by rfl)) hS ?_
          simp only [Act.put, List.setIfInBounds_toArray, List.set_cons_zero, List.set_cons_succ]
          have hc8 := Ast.groups_any B t.1 cap t.2 _ (by omega) (HN1.out.below hS (Nat.le_refl _))
          rw [hg1] at hc8
          refine callAt 8 41 rfl rfl (by kernel_rfl) (by rfl) (by kernel_rfl) (hc8) ?_
          rintro e u' ⟨rfl, hb⟩
          have hS := thenB hS hb hS.size
          clear hb
          refine ⟨_, rfl, hS, ?_⟩
          simp only [Act.put, List.setIfInBounds_toArray, List.set_cons_zero, List.set_cons_succ]
          clear hc8
          have hc10 := Ast.groups_any B2 u.1 cap2 u.2 _ (by omega) (HN2.out.below hS (Nat.le_refl _))
          rw [hg2] at hc10
          refine callAt 10 43 rfl rfl (by kernel_rfl) (by rfl) (by kernel_rfl) (hc10) ?_
          rintro e u' ⟨rfl, hb⟩
          have hS := thenB hS hb hS.size
          clear hb
          refine ⟨_, rfl, hS, ?_⟩
          simp only [Act.put, List.setIfInBounds_toArray, List.set_cons_zero, List.set_cons_succ]
          refine takeAt 11 44 (.int .i64 0) rfl rfl (by kernel_rfl) (by kernel_rfl) (by kernel_rfl) (fun _ _ _ h => h) (yields (by rfl) (fun w => by kernel_rfl)) hS ?_
          simp only [Act.put, List.setIfInBounds_toArray, List.set_cons_zero, List.set_cons_succ]
          refine takeAt 12 45 (.bool false) rfl rfl (by kernel_rfl) (by kernel_rfl) (by kernel_rfl) (fun _ _ _ h => h) (yields (by rfl) (fun w => by kernel_rfl)) hS ?_
          simp only [Act.put, List.setIfInBounds_toArray, List.set_cons_zero, List.set_cons_succ]
          refine takeAt 13 46 (.bool false) rfl rfl (by kernel_rfl) (by kernel_rfl) (by kernel_rfl) (fun _ _ _ h => h) (yields (by rfl) (fun w => by kernel_rfl)) hS ?_
          simp only [Act.put, List.setIfInBounds_toArray, List.set_cons_zero, List.set_cons_succ]
          as_aux_lemma =>
            refine takeAt 14 47 (.bool false) rfl rfl (by kernel_rfl) (by kernel_rfl) (by kernel_rfl) (fun _ _ _ h => h) (yields (by rfl) (fun w => by kernel_rfl)) hS ?_
            simp only [Act.put, List.setIfInBounds_toArray, List.set_cons_zero, List.set_cons_succ]
            refine takeAt 15 48 (.agg (trC B t.1 cap)) rfl rfl (by kernel_rfl) (by kernel_rfl) (by kernel_rfl) (fun _ _ _ h => h) (loadT7 (w1.heap.size) B t.1 cap (fun _ h => HX1.out.below h HX1.out.lt) rfl rfl (by rfl)) hS ?_
            simp only [Act.put, List.setIfInBounds_toArray, List.set_cons_zero, List.set_cons_succ]
            refine takeAt 17 50 (.agg (trC B2 u.1 cap2)) rfl rfl (by kernel_rfl) (by kernel_rfl) (by kernel_rfl) (fun _ _ _ h => h) (loadT7 (w2.heap.size) B2 u.1 cap2 (fun _ h => HX2.out.below h HX2.out.lt) rfl rfl (by rfl)) hS ?_
            simp only [Act.put, List.setIfInBounds_toArray, List.set_cons_zero, List.set_cons_succ]
            clear hc10
            have hc16 := Ast.deep_any B t.1 cap t.2 _ (by omega) (HN1.out.below hS (Nat.le_refl _))
            rw [← hd1] at hc16
            refine callAt 16 49 rfl rfl (by kernel_rfl) (by rfl) (by kernel_rfl) (hc16) ?_
            rintro e u' ⟨rfl, hb⟩
            have hS := thenB hS hb hS.size
            clear hb
            refine ⟨_, rfl, hS, ?_⟩
            simp only [Act.put, List.setIfInBounds_toArray, List.set_cons_zero, List.set_cons_succ]
            clear hc16
            have hc18 := Ast.deep_any B2 u.1 cap2 u.2 _ (by omega) (HN2.out.below hS (Nat.le_refl _))
            rw [← hd2] at hc18
            refine callAt 18 51 rfl rfl (by kernel_rfl) (by rfl) (by kernel_rfl) (hc18) ?_
            rintro e u' ⟨rfl, hb⟩
            have hS := thenB hS hb hS.size
            clear hb
            refine ⟨_, rfl, hS, ?_⟩
            simp only [Act.put, List.setIfInBounds_toArray, List.set_cons_zero, List.set_cons_succ]
            refine takeAt 19 52 (.int .i64 ((max d1 d2 : Nat) : Int)) rfl rfl (by kernel_rfl) (by kernel_rfl) (by kernel_rfl) (fun _ _ _ h => h) (maxI_y (m := (d1 : Nat)) (n := (d2 : Nat)) (by omega) rfl rfl rfl (by rfl)) hS ?_
            simp only [Act.put, List.setIfInBounds_toArray, List.set_cons_zero, List.set_cons_succ]
            refine takeAt 20 53 (.bool true) rfl rfl (by kernel_rfl) (by kernel_rfl) (by kernel_rfl) (fun _ _ _ h => h) (geqI_y (m := ((max d1 d2 : Nat) : Int)) (n := 40) true (decide_eq_true (by omega)) rfl rfl rfl (by rfl)) hS ?_
            simp only [Act.put, List.setIfInBounds_toArray, List.set_cons_zero, List.set_cons_succ]
            refine takeAt 21 54 (.bool true) rfl rfl (by kernel_rfl) (by kernel_rfl) (by kernel_rfl) (fun _ _ _ h => h) (yields (by rfl) (fun w => by kernel_rfl)) hS ?_
            simp only [Act.put, List.setIfInBounds_toArray, List.set_cons_zero, List.set_cons_succ]
            refine wpAnyH_done (by kernel_rfl) ?_ _
            have HBn := Lib.hid (HB2.out.trans (hS.mono HB2.out.size))
            clear HB2
            have HB2 := HBn
            clear HBn
            have HX1 := Lib.hid (HX1.out.below hS HX1.out.lt)
            have HX2 := Lib.hid (HX2.out.below hS HX2.out.lt)
            have HN1 := Lib.hid (HN1.out.below hS (Nat.le_refl _))
            have HN2 := Lib.hid (HN2.out.below hS (Nat.le_refl _))
            clear hS
            have hc1 := tree_cell HX1.out
            have hc2 := tree_cell HX2.out
            clear hc18
            go_wp2_with fail
            with_reducible refine (HF.out _ (HT.out.call HB2.out)).mono ?_
            rintro e wf9 ⟨rfl, hb⟩
            have HZ := Lib.hid (thenB HB2.out hb HB2.out.size)
            clear hb
            go_wp2_with fail
            go_ret
            exact ⟨rfl, HZ.out⟩
        · have hdm1 : d1 < 40 := by omega
          have hdm2 : d2 < 40 := by omega
          have hz0 : ¬ 3 + X.size > 9223372036854775807 := by have := HX.out; have := HY.out; omega
          have hz1 : ¬ 3 + X.size + 5 > 9223372036854775807 := by have := HX.out; have := HY.out; omega
          have hz2 : ¬ 3 + X.size + 5 + Y.size > 9223372036854775807 := by have := HX.out; have := HY.out; omega
          have hz3 : ¬ 3 + X.size + 5 + Y.size + 1 > 9223372036854775807 := by have := HX.out; have := HY.out; omega
          have hz4 : ¬ 3 + X.size + 4 > 9223372036854775807 := by have := HX.out; have := HY.out; omega
          have hz5 : ¬ 3 + X.size + 4 + Y.size > 9223372036854775807 := by have := HX.out; have := HY.out; omega
          have hz6 : ¬ 3 + X.size + 4 + Y.size + 1 > 9223372036854775807 := by have := HX.out; have := HY.out; omega
          go_wp2_with fail
          refine wp_region_held_drew (S := fun u => Below v2.heap.size v2 u) (by kernel_rfl) (show _ from (Below.refl _ v2).drew) (fun hS => ?_)
          generalize World.drew v2 = u0 at hS ⊢
          refine takeAt 0 33 (.int .i64 0) rfl rfl (by kernel_rfl) (by kernel_rfl) (by kernel_rfl) (fun _ _ _ h => h) (yields (by rfl) (fun w => by kernel_rfl)) hS ?_
          simp only [Act.put, List.setIfInBounds_toArray, List.set_cons_zero, List.set_cons_succ]
          refine takeAt 1 34 (.bool false) rfl rfl (by kernel_rfl) (by kernel_rfl) (by kernel_rfl) (fun _ _ _ h => h) (yields (by rfl) (fun w => by kernel_rfl)) hS ?_
          simp only [Act.put, List.setIfInBounds_toArray, List.set_cons_zero, List.set_cons_succ]
          refine takeAt 2 35 (.bool false) rfl rfl (by kernel_rfl) (by kernel_rfl) (by kernel_rfl) (fun _ _ _ h => h) (yields (by rfl) (fun w => by kernel_rfl)) hS ?_
          simp only [Act.put, List.setIfInBounds_toArray, List.set_cons_zero, List.set_cons_succ]
          refine takeAt 3 36 (.int .i64 0) rfl rfl (by kernel_rfl) (by kernel_rfl) (by kernel_rfl) (fun _ _ _ h => h) (yields (by rfl) (fun w => by kernel_rfl)) hS ?_
          simp only [Act.put, List.setIfInBounds_toArray, List.set_cons_zero, List.set_cons_succ]
          refine takeAt 4 37 (.bool false) rfl rfl (by kernel_rfl) (by kernel_rfl) (by kernel_rfl) (fun _ _ _ h => h) (yields (by rfl) (fun w => by kernel_rfl)) hS ?_
          simp only [Act.put, List.setIfInBounds_toArray, List.set_cons_zero, List.set_cons_succ]
          refine takeAt 5 38 (.bool false) rfl rfl (by kernel_rfl) (by kernel_rfl) (by kernel_rfl) (fun _ _ _ h => h) (yields (by rfl) (fun w => by kernel_rfl)) hS ?_
          simp only [Act.put, List.setIfInBounds_toArray, List.set_cons_zero, List.set_cons_succ]
          refine takeAt 6 39 (.bool false) rfl rfl (by kernel_rfl) (by kernel_rfl) (by kernel_rfl) (fun _ _ _ h => h) (yields (by rfl) (fun w => by kernel_rfl)) hS ?_
          simp only [Act.put, List.setIfInBounds_toArray, List.set_cons_zero, List.set_cons_succ]
          refine takeAt 7 40 (.agg (trC B t.1 cap)) rfl rfl (by kernel_rfl) (by kernel_rfl) (by kernel_rfl) (fun _ _ _ h => h) (loadT7 (w1.heap.size) B t.1 cap (fun _ h => HX1.out.below h HX1.out.lt) rfl rfl (by rfl)) hS ?_
          simp only [Act.put, List.setIfInBounds_toArray, List.set_cons_zero, List.set_cons_succ]
          refine takeAt 9 42 (.agg (trC B2 u.1 cap2)) rfl rfl (by kernel_rfl) (by kernel_rfl) (by kernel_rfl) (fun _ _ _ h => h) (loadT7 (w2.heap.size) B2 u.1 cap2 (fun _ h => HX2.out.below h HX2.out.lt) rfl rfl (by rfl)) hS ?_
          simp only [Act.put, List.setIfInBounds_toArray, List.set_cons_zero, List.set_cons_succ]
          have hc8 := Ast.groups_any B t.1 cap t.2 _ (by omega) (HN1.out.below hS (Nat.le_refl _))
          rw [hg1] at hc8
          refine callAt 8 41 rfl rfl (by kernel_rfl) (by rfl) (by kernel_rfl) (hc8) ?_
          rintro e u' ⟨rfl, hb⟩
          have hS := thenB hS hb hS.size
          clear hb
          refine ⟨_, rfl, hS, ?_⟩
          simp only [Act.put, List.setIfInBounds_toArray, List.set_cons_zero, List.set_cons_succ]
          clear hc8
          have hc10 := Ast.groups_any B2 u.1 cap2 u.2 _ (by omega) (HN2.out.below hS (Nat.le_refl _))
          rw [hg2] at hc10
          refine callAt 10 43 rfl rfl (by kernel_rfl) (by rfl) (by kernel_rfl) (hc10) ?_
          rintro e u' ⟨rfl, hb⟩
          have hS := thenB hS hb hS.size
          clear hb
          refine ⟨_, rfl, hS, ?_⟩
          simp only [Act.put, List.setIfInBounds_toArray, List.set_cons_zero, List.set_cons_succ]
          refine takeAt 11 44 (.int .i64 0) rfl rfl (by kernel_rfl) (by kernel_rfl) (by kernel_rfl) (fun _ _ _ h => h) (yields (by rfl) (fun w => by kernel_rfl)) hS ?_
          simp only [Act.put, List.setIfInBounds_toArray, List.set_cons_zero, List.set_cons_succ]
          refine takeAt 12 45 (.bool false) rfl rfl (by kernel_rfl) (by kernel_rfl) (by kernel_rfl) (fun _ _ _ h => h) (yields (by rfl) (fun w => by kernel_rfl)) hS ?_
          simp only [Act.put, List.setIfInBounds_toArray, List.set_cons_zero, List.set_cons_succ]
          refine takeAt 13 46 (.bool false) rfl rfl (by kernel_rfl) (by kernel_rfl) (by kernel_rfl) (fun _ _ _ h => h) (yields (by rfl) (fun w => by kernel_rfl)) hS ?_
          simp only [Act.put, List.setIfInBounds_toArray, List.set_cons_zero, List.set_cons_succ]
          as_aux_lemma =>
            refine takeAt 14 47 (.bool false) rfl rfl (by kernel_rfl) (by kernel_rfl) (by kernel_rfl) (fun _ _ _ h => h) (yields (by rfl) (fun w => by kernel_rfl)) hS ?_
            simp only [Act.put, List.setIfInBounds_toArray, List.set_cons_zero, List.set_cons_succ]
            refine takeAt 15 48 (.agg (trC B t.1 cap)) rfl rfl (by kernel_rfl) (by kernel_rfl) (by kernel_rfl) (fun _ _ _ h => h) (loadT7 (w1.heap.size) B t.1 cap (fun _ h => HX1.out.below h HX1.out.lt) rfl rfl (by rfl)) hS ?_
            simp only [Act.put, List.setIfInBounds_toArray, List.set_cons_zero, List.set_cons_succ]
            refine takeAt 17 50 (.agg (trC B2 u.1 cap2)) rfl rfl (by kernel_rfl) (by kernel_rfl) (by kernel_rfl) (fun _ _ _ h => h) (loadT7 (w2.heap.size) B2 u.1 cap2 (fun _ h => HX2.out.below h HX2.out.lt) rfl rfl (by rfl)) hS ?_
            simp only [Act.put, List.setIfInBounds_toArray, List.set_cons_zero, List.set_cons_succ]
            clear hc10
            have hc16 := Ast.deep_any B t.1 cap t.2 _ (by omega) (HN1.out.below hS (Nat.le_refl _))
            rw [← hd1] at hc16
            refine callAt 16 49 rfl rfl (by kernel_rfl) (by rfl) (by kernel_rfl) (hc16) ?_
            rintro e u' ⟨rfl, hb⟩
            have hS := thenB hS hb hS.size
            clear hb
            refine ⟨_, rfl, hS, ?_⟩
            simp only [Act.put, List.setIfInBounds_toArray, List.set_cons_zero, List.set_cons_succ]
            clear hc16
            have hc18 := Ast.deep_any B2 u.1 cap2 u.2 _ (by omega) (HN2.out.below hS (Nat.le_refl _))
            rw [← hd2] at hc18
            refine callAt 18 51 rfl rfl (by kernel_rfl) (by rfl) (by kernel_rfl) (hc18) ?_
            rintro e u' ⟨rfl, hb⟩
            have hS := thenB hS hb hS.size
            clear hb
            refine ⟨_, rfl, hS, ?_⟩
            simp only [Act.put, List.setIfInBounds_toArray, List.set_cons_zero, List.set_cons_succ]
            refine takeAt 19 52 (.int .i64 ((max d1 d2 : Nat) : Int)) rfl rfl (by kernel_rfl) (by kernel_rfl) (by kernel_rfl) (fun _ _ _ h => h) (maxI_y (m := (d1 : Nat)) (n := (d2 : Nat)) (by omega) rfl rfl rfl (by rfl)) hS ?_
            simp only [Act.put, List.setIfInBounds_toArray, List.set_cons_zero, List.set_cons_succ]
            refine takeAt 20 53 (.bool false) rfl rfl (by kernel_rfl) (by kernel_rfl) (by kernel_rfl) (fun _ _ _ h => h) (geqI_y (m := ((max d1 d2 : Nat) : Int)) (n := 40) false (decide_eq_false (by omega)) rfl rfl rfl (by rfl)) hS ?_
            simp only [Act.put, List.setIfInBounds_toArray, List.set_cons_zero, List.set_cons_succ]
            refine takeAt 21 54 (.bool false) rfl rfl (by kernel_rfl) (by kernel_rfl) (by kernel_rfl) (fun _ _ _ h => h) (yields (by rfl) (fun w => by kernel_rfl)) hS ?_
            simp only [Act.put, List.setIfInBounds_toArray, List.set_cons_zero, List.set_cons_succ]
            refine wpAnyH_done (by kernel_rfl) ?_ _
            have HBn := Lib.hid (HB2.out.trans (hS.mono HB2.out.size))
            clear HB2
            have HB2 := HBn
            clear HBn
            have HX1 := Lib.hid (HX1.out.below hS HX1.out.lt)
            have HX2 := Lib.hid (HX2.out.below hS HX2.out.lt)
            have HN1 := Lib.hid (HN1.out.below hS (Nat.le_refl _))
            have HN2 := Lib.hid (HN2.out.below hS (Nat.le_refl _))
            clear hS
            have hc1 := tree_cell HX1.out
            have hc2 := tree_cell HX2.out
            clear hc18
            go_wp2_with fail
            with_reducible refine (parse_at HK.out _ (t.1 + u.1 + 1) 0 (joinT t u 9).2 (alts_z_at HR1.out HR2.out HX.out HY.out (by unfold cntT; exact hg) (by omega) (by omega)) _ (HT.out.call HB2.out)).mono ?_
            rintro e w3 ⟨B3, cap3, rfl, ht, hb⟩
            have HNn := Lib.hid ht.nodes
            have HBn := Lib.hid (thenB HB2.out hb HB2.out.size)
            have HX1 := Lib.hid (HX1.out.below hb HX1.out.lt)
            have HX2 := Lib.hid (HX2.out.below hb HX2.out.lt)
            have HN1 := Lib.hid (HN1.out.below hb (Nat.le_refl _))
            have HN2 := Lib.hid (HN2.out.below hb (Nat.le_refl _))
            clear ht hb
            simp only [] at HNn ⊢
            go_wp2_with (refine storeNewTr rfl _ _ rfl w3 B3 (t.1 + u.1 + 1) cap3 rfl rfl rfl ?_; intro v3 hx hN; refine stopP ?_)
            unfold StopP
            have HX3 := Lib.hid hx.out
            have HB3 := Lib.hid (thenB HBn.out hN.out HBn.out.size)
            have HN3 := Lib.hid (HNn.out.below hN.out (Nat.le_refl _))
            have HX1 := Lib.hid (HX1.out.below hN.out HX1.out.lt)
            have HX2 := Lib.hid (HX2.out.below hN.out HX2.out.lt)
            have HN1 := Lib.hid (HN1.out.below hN.out (Nat.le_refl _))
            have HN2 := Lib.hid (HN2.out.below hN.out (Nat.le_refl _))
            have hc3 := tree_cell HX3.out
            clear hx hN HBn HNn
            go_wp2_with fail
            with_reducible refine (parse_at HK.out _ (t.1 + u.1 + 1) 0 (joinT t u 8).2 (cats_z_at HR1.out HR2.out HX.out HY.out (by unfold cntT; exact hg) (by omega) (by omega)) _ (HT.out.call HB3.out)).mono ?_
            rintro e w4 ⟨B4, cap4, rfl, ht, hb⟩
            have HNn := Lib.hid ht.nodes
            have HBn := Lib.hid (thenB HB3.out hb HB3.out.size)
            have HX1 := Lib.hid (HX1.out.below hb HX1.out.lt)
            have HX2 := Lib.hid (HX2.out.below hb HX2.out.lt)
            have HX3 := Lib.hid (HX3.out.below hb HX3.out.lt)
            have HN1 := Lib.hid (HN1.out.below hb (Nat.le_refl _))
            have HN2 := Lib.hid (HN2.out.below hb (Nat.le_refl _))
            have HN3 := Lib.hid (HN3.out.below hb (Nat.le_refl _))
            clear ht hb
            simp only [] at HNn ⊢
            go_wp2_with (refine storeNewTr rfl _ _ rfl w4 B4 (t.1 + u.1 + 1) cap4 rfl rfl rfl ?_; intro v4 hx hN; refine stopP ?_)
            unfold StopP
            have HX4 := Lib.hid hx.out
            have HB4 := Lib.hid (thenB HBn.out hN.out HBn.out.size)
            have HN4 := Lib.hid (HNn.out.below hN.out (Nat.le_refl _))
            have HX1 := Lib.hid (HX1.out.below hN.out HX1.out.lt)
            have HX2 := Lib.hid (HX2.out.below hN.out HX2.out.lt)
            have HX3 := Lib.hid (HX3.out.below hN.out HX3.out.lt)
            have HN1 := Lib.hid (HN1.out.below hN.out (Nat.le_refl _))
            have HN2 := Lib.hid (HN2.out.below hN.out (Nat.le_refl _))
            have HN3 := Lib.hid (HN3.out.below hN.out (Nat.le_refl _))
            have hc4 := tree_cell HX4.out
            clear hx hN HBn HNn
            go_wp2_with fail
            refine wp_region_held_drew (S := fun u => Below v4.heap.size v4 u) (by kernel_rfl) (show _ from (Below.refl _ v4).drew) (fun hS => ?_)
            generalize World.drew v4 = u0 at hS ⊢
            refine takeAt 0 86 (.int .i64 0) rfl rfl (by kernel_rfl) (by kernel_rfl) (by kernel_rfl) (fun _ _ _ h => h) (yields (by rfl) (fun w => by kernel_rfl)) hS ?_
            simp only [Act.put, List.setIfInBounds_toArray, List.set_cons_zero, List.set_cons_succ]
            refine takeAt 1 87 (.bool true) rfl rfl (by kernel_rfl) (by kernel_rfl) (by kernel_rfl) (fun _ _ _ h => h) (yields (by rfl) (fun w => by kernel_rfl)) hS ?_
            simp only [Act.put, List.setIfInBounds_toArray, List.set_cons_zero, List.set_cons_succ]
            refine takeAt 2 88 (.bool true) rfl rfl (by kernel_rfl) (by kernel_rfl) (by kernel_rfl) (fun _ _ _ h => h) (yields (by rfl) (fun w => by kernel_rfl)) hS ?_
            simp only [Act.put, List.setIfInBounds_toArray, List.set_cons_zero, List.set_cons_succ]
            refine takeAt 3 89 (.int .i64 0) rfl rfl (by kernel_rfl) (by kernel_rfl) (by kernel_rfl) (fun _ _ _ h => h) (yields (by rfl) (fun w => by kernel_rfl)) hS ?_
            simp only [Act.put, List.setIfInBounds_toArray, List.set_cons_zero, List.set_cons_succ]
            refine takeAt 4 90 (.bool true) rfl rfl (by kernel_rfl) (by kernel_rfl) (by kernel_rfl) (fun _ _ _ h => h) (yields (by rfl) (fun w => by kernel_rfl)) hS ?_
            simp only [Act.put, List.setIfInBounds_toArray, List.set_cons_zero, List.set_cons_succ]
            refine takeAt 5 91 (.bool true) rfl rfl (by kernel_rfl) (by kernel_rfl) (by kernel_rfl) (fun _ _ _ h => h) (yields (by rfl) (fun w => by kernel_rfl)) hS ?_
            simp only [Act.put, List.setIfInBounds_toArray, List.set_cons_zero, List.set_cons_succ]
            refine takeAt 6 92 (.bool true) rfl rfl (by kernel_rfl) (by kernel_rfl) (by kernel_rfl) (fun _ _ _ h => h) (yields (by rfl) (fun w => by kernel_rfl)) hS ?_
            simp only [Act.put, List.setIfInBounds_toArray, List.set_cons_zero, List.set_cons_succ]
            refine takeAt 7 93 (.agg (trC B3 (t.1 + u.1 + 1) cap3)) rfl rfl (by kernel_rfl) (by kernel_rfl) (by kernel_rfl) (fun _ _ _ h => h) (loadT7 (w3.heap.size) B3 (t.1 + u.1 + 1) cap3 (fun _ h => HX3.out.below h HX3.out.lt) rfl rfl (by rfl)) hS ?_
            simp only [Act.put, List.setIfInBounds_toArray, List.set_cons_zero, List.set_cons_succ]
            refine takeAt 8 94 (.agg (trC B t.1 cap)) rfl rfl (by kernel_rfl) (by kernel_rfl) (by kernel_rfl) (fun _ _ _ h => h) (loadT7 (w1.heap.size) B t.1 cap (fun _ h => HX1.out.below h HX1.out.lt) rfl rfl (by rfl)) hS ?_
            simp only [Act.put, List.setIfInBounds_toArray, List.set_cons_zero, List.set_cons_succ]
            refine takeAt 9 95 (.agg (trC B2 u.1 cap2)) rfl rfl (by kernel_rfl) (by kernel_rfl) (by kernel_rfl) (fun _ _ _ h => h) (loadT7 (w2.heap.size) B2 u.1 cap2 (fun _ h => HX2.out.below h HX2.out.lt) rfl rfl (by rfl)) hS ?_
            simp only [Act.put, List.setIfInBounds_toArray, List.set_cons_zero, List.set_cons_succ]
            refine callAt 10 96 rfl rfl (by kernel_rfl) (by rfl) (by kernel_rfl) (Ast.join_any B t.1 cap t.2 B2 u.1 cap2 u.2 9 _ (by omega) (by omega) HW1.out HW2.out (HN1.out.below hS (Nat.le_refl _)) (HN2.out.below hS (Nat.le_refl _))) ?_
            intro e u' hres
            obtain ⟨A9, capA9, rfl, ht, hb⟩ := tree_res hres (Nat.le_add_left 1 _)
            have hS := thenB hS hb hS.size
            have hnA9 := ht.nodes
            clear hres ht hb
            refine ⟨_, rfl, hS, ?_⟩
            simp only [Act.put, List.setIfInBounds_toArray, List.set_cons_zero, List.set_cons_succ]
            have hcA9 := Ast.same_any B3 A9 (t.1 + u.1 + 1) (t.1 + u.1 + 1) cap3 capA9 (joinL t.2 t.1 u.2 u.1 9) (joinL t.2 t.1 u.2 u.1 9) _ (by omega) (by omega) (HN3.out.below hS (Nat.le_refl _)) hnA9
            rw [same_self] at hcA9
            refine callAt 11 97 rfl rfl (by kernel_rfl) (by rfl) (by kernel_rfl) (hcA9) ?_
            rintro e u' ⟨rfl, hb⟩
            have hS := thenB hS hb hS.size
            clear hb
            refine ⟨_, rfl, hS, ?_⟩
            simp only [Act.put, List.setIfInBounds_toArray, List.set_cons_zero, List.set_cons_succ]
            refine takeAt 12 98 (.bool true) rfl rfl (by kernel_rfl) (by kernel_rfl) (by kernel_rfl) (fun _ _ _ h => h) (yields (by rfl) (fun w => by kernel_rfl)) hS ?_
            simp only [Act.put, List.setIfInBounds_toArray, List.set_cons_zero, List.set_cons_succ]
            refine takeAt 13 99 (.bool true) rfl rfl (by kernel_rfl) (by kernel_rfl) (by kernel_rfl) (fun _ _ _ h => h) (yields (by rfl) (fun w => by kernel_rfl)) hS ?_
            simp only [Act.put, List.setIfInBounds_toArray, List.set_cons_zero, List.set_cons_succ]
            as_aux_lemma =>
              refine takeAt 14 100 (.agg (trC B4 (t.1 + u.1 + 1) cap4)) rfl rfl (by kernel_rfl) (by kernel_rfl) (by kernel_rfl) (fun _ _ _ h => h) (loadT7 (w4.heap.size) B4 (t.1 + u.1 + 1) cap4 (fun _ h => HX4.out.below h HX4.out.lt) rfl rfl (by rfl)) hS ?_
              simp only [Act.put, List.setIfInBounds_toArray, List.set_cons_zero, List.set_cons_succ]
              refine takeAt 15 101 (.agg (trC B t.1 cap)) rfl rfl (by kernel_rfl) (by kernel_rfl) (by kernel_rfl) (fun _ _ _ h => h) (loadT7 (w1.heap.size) B t.1 cap (fun _ h => HX1.out.below h HX1.out.lt) rfl rfl (by rfl)) hS ?_
              simp only [Act.put, List.setIfInBounds_toArray, List.set_cons_zero, List.set_cons_succ]
              refine takeAt 16 102 (.agg (trC B2 u.1 cap2)) rfl rfl (by kernel_rfl) (by kernel_rfl) (by kernel_rfl) (fun _ _ _ h => h) (loadT7 (w2.heap.size) B2 u.1 cap2 (fun _ h => HX2.out.below h HX2.out.lt) rfl rfl (by rfl)) hS ?_
              simp only [Act.put, List.setIfInBounds_toArray, List.set_cons_zero, List.set_cons_succ]
              clear hcA9 hnA9
              refine callAt 17 103 rfl rfl (by kernel_rfl) (by rfl) (by kernel_rfl) (Ast.join_any B t.1 cap t.2 B2 u.1 cap2 u.2 8 _ (by omega) (by omega) HW1.out HW2.out (HN1.out.below hS (Nat.le_refl _)) (HN2.out.below hS (Nat.le_refl _))) ?_
              intro e u' hres
              obtain ⟨A8, capA8, rfl, ht, hb⟩ := tree_res hres (Nat.le_add_left 1 _)
              have hS := thenB hS hb hS.size
              have hnA8 := ht.nodes
              clear hres ht hb
              refine ⟨_, rfl, hS, ?_⟩
              simp only [Act.put, List.setIfInBounds_toArray, List.set_cons_zero, List.set_cons_succ]
              have hcA8 := Ast.same_any B4 A8 (t.1 + u.1 + 1) (t.1 + u.1 + 1) cap4 capA8 (joinL t.2 t.1 u.2 u.1 8) (joinL t.2 t.1 u.2 u.1 8) _ (by omega) (by omega) (HN4.out.below hS (Nat.le_refl _)) hnA8
              rw [same_self] at hcA8
              refine callAt 18 104 rfl rfl (by kernel_rfl) (by rfl) (by kernel_rfl) (hcA8) ?_
              rintro e u' ⟨rfl, hb⟩
              have hS := thenB hS hb hS.size
              clear hb
              refine ⟨_, rfl, hS, ?_⟩
              simp only [Act.put, List.setIfInBounds_toArray, List.set_cons_zero, List.set_cons_succ]
              refine takeAt 19 105 (.bool true) rfl rfl (by kernel_rfl) (by kernel_rfl) (by kernel_rfl) (fun _ _ _ h => h) (yields (by rfl) (fun w => by kernel_rfl)) hS ?_
              simp only [Act.put, List.setIfInBounds_toArray, List.set_cons_zero, List.set_cons_succ]
              refine takeAt 20 106 (.bool true) rfl rfl (by kernel_rfl) (by kernel_rfl) (by kernel_rfl) (fun _ _ _ h => h) (yields (by rfl) (fun w => by kernel_rfl)) hS ?_
              simp only [Act.put, List.setIfInBounds_toArray, List.set_cons_zero, List.set_cons_succ]
              refine callAt 21 107 rfl rfl (by kernel_rfl) (by rfl) (by kernel_rfl) (HF.out _ (HT.out.call (HB4.out.trans (hS.mono HB4.out.size)))) ?_
              rintro e u' ⟨rfl, hb⟩
              have hS := thenB hS hb hS.size
              clear hb
              refine ⟨_, rfl, hS, ?_⟩
              simp only [Act.put, List.setIfInBounds_toArray, List.set_cons_zero, List.set_cons_succ]
              refine takeAt 22 108 (.bool true) rfl rfl (by kernel_rfl) (by kernel_rfl) (by kernel_rfl) (fun _ _ _ h => h) (yields (by rfl) (fun w => by kernel_rfl)) hS ?_
              simp only [Act.put, List.setIfInBounds_toArray, List.set_cons_zero, List.set_cons_succ]
              refine takeAt 23 4 (.bool true) rfl rfl (by kernel_rfl) (by kernel_rfl) (by kernel_rfl) (fun _ _ _ h => h) (yields (by rfl) (fun w => by kernel_rfl)) hS ?_
              simp only [Act.put, List.setIfInBounds_toArray, List.set_cons_zero, List.set_cons_succ]
              refine wpAnyH_done (by kernel_rfl) ?_ _
              go_wp2_with fail
              go_ret
              exact ⟨rfl, HB4.out.trans (hS.mono HB4.out.size)⟩
      · clear hr hr' hd hd'
        go_wp2_with fail
        refine wp_region_held_drew (S := fun u => Below v2.heap.size v2 u) (by kernel_rfl) (show _ from (Below.refl _ v2).drew) (fun hS => ?_)
        generalize World.drew v2 = u0 at hS ⊢
        refine takeAt 0 33 (.int .i64 0) rfl rfl (by kernel_rfl) (by kernel_rfl) (by kernel_rfl) (fun _ _ _ h => h) (yields (by rfl) (fun w => by kernel_rfl)) hS ?_
        simp only [Act.put, List.setIfInBounds_toArray, List.set_cons_zero, List.set_cons_succ]
        refine takeAt 1 34 (.bool false) rfl rfl (by kernel_rfl) (by kernel_rfl) (by kernel_rfl) (fun _ _ _ h => h) (yields (by rfl) (fun w => by kernel_rfl)) hS ?_
        simp only [Act.put, List.setIfInBounds_toArray, List.set_cons_zero, List.set_cons_succ]
        refine takeAt 2 35 (.bool false) rfl rfl (by kernel_rfl) (by kernel_rfl) (by kernel_rfl) (fun _ _ _ h => h) (yields (by rfl) (fun w => by kernel_rfl)) hS ?_
        simp only [Act.put, List.setIfInBounds_toArray, List.set_cons_zero, List.set_cons_succ]
        refine takeAt 3 36 (.int .i64 0) rfl rfl (by kernel_rfl) (by kernel_rfl) (by kernel_rfl) (fun _ _ _ h => h) (yields (by rfl) (fun w => by kernel_rfl)) hS ?_
        simp only [Act.put, List.setIfInBounds_toArray, List.set_cons_zero, List.set_cons_succ]
        refine takeAt 4 37 (.bool false) rfl rfl (by kernel_rfl) (by kernel_rfl) (by kernel_rfl) (fun _ _ _ h => h) (yields (by rfl) (fun w => by kernel_rfl)) hS ?_
        simp only [Act.put, List.setIfInBounds_toArray, List.set_cons_zero, List.set_cons_succ]
        refine takeAt 5 38 (.bool false) rfl rfl (by kernel_rfl) (by kernel_rfl) (by kernel_rfl) (fun _ _ _ h => h) (yields (by rfl) (fun w => by kernel_rfl)) hS ?_
        simp only [Act.put, List.setIfInBounds_toArray, List.set_cons_zero, List.set_cons_succ]
        refine takeAt 6 39 (.bool false) rfl rfl (by kernel_rfl) (by kernel_rfl) (by kernel_rfl) (fun _ _ _ h => h) (yields (by rfl) (fun w => by kernel_rfl)) hS ?_
        simp only [Act.put, List.setIfInBounds_toArray, List.set_cons_zero, List.set_cons_succ]
        refine takeAt 7 40 (.agg (trC B t.1 cap)) rfl rfl (by kernel_rfl) (by kernel_rfl) (by kernel_rfl) (fun _ _ _ h => h) (loadT7 (w1.heap.size) B t.1 cap (fun _ h => HX1.out.below h HX1.out.lt) rfl rfl (by rfl)) hS ?_
        simp only [Act.put, List.setIfInBounds_toArray, List.set_cons_zero, List.set_cons_succ]
        refine takeAt 9 42 (.agg (trC B2 u.1 cap2)) rfl rfl (by kernel_rfl) (by kernel_rfl) (by kernel_rfl) (fun _ _ _ h => h) (loadT7 (w2.heap.size) B2 u.1 cap2 (fun _ h => HX2.out.below h HX2.out.lt) rfl rfl (by rfl)) hS ?_
        simp only [Act.put, List.setIfInBounds_toArray, List.set_cons_zero, List.set_cons_succ]
        refine callAt 8 41 rfl rfl (by kernel_rfl) (by rfl) (by kernel_rfl) (Ast.groups_any B t.1 cap t.2 _ (by omega) (HN1.out.below hS (Nat.le_refl _))) ?_
        rintro e u' ⟨rfl, hb⟩
        have hS := thenB hS hb hS.size
        clear hb
        refine ⟨_, rfl, hS, ?_⟩
        simp only [Act.put, List.setIfInBounds_toArray, List.set_cons_zero, List.set_cons_succ]
        refine callAt 10 43 rfl rfl (by kernel_rfl) (by rfl) (by kernel_rfl) (Ast.groups_any B2 u.1 cap2 u.2 _ (by omega) (HN2.out.below hS (Nat.le_refl _))) ?_
        rintro e u' ⟨rfl, hb⟩
        have hS := thenB hS hb hS.size
        clear hb
        refine ⟨_, rfl, hS, ?_⟩
        simp only [Act.put, List.setIfInBounds_toArray, List.set_cons_zero, List.set_cons_succ]
        refine takeAt 11 44 (.int .i64 (cntG t.2 t.1 + cntG u.2 u.1 : Nat)) rfl rfl (by kernel_rfl) (by kernel_rfl) (by kernel_rfl) (fun _ _ _ h => h) (addG_y (m := (cntG t.2 t.1 : Nat)) (n := (cntG u.2 u.1 : Nat)) (by omega) (by omega) (by omega) rfl rfl rfl (by rfl)) hS ?_
        simp only [Act.put, List.setIfInBounds_toArray, List.set_cons_zero, List.set_cons_succ]
        refine takeAt 12 45 (.bool true) rfl rfl (by kernel_rfl) (by kernel_rfl) (by kernel_rfl) (fun _ _ _ h => h) (gtrI_y (m := (cntG t.2 t.1 + cntG u.2 u.1 : Nat)) (n := 0) true (decide_eq_true (by omega)) rfl rfl rfl (by rfl)) hS ?_
        simp only [Act.put, List.setIfInBounds_toArray, List.set_cons_zero, List.set_cons_succ]
        refine takeAt 13 46 (.bool true) rfl rfl (by kernel_rfl) (by kernel_rfl) (by kernel_rfl) (fun _ _ _ h => h) (yields (by rfl) (fun w => by kernel_rfl)) hS ?_
        simp only [Act.put, List.setIfInBounds_toArray, List.set_cons_zero, List.set_cons_succ]
        as_aux_lemma =>
          refine takeAt 14 47 (.bool true) rfl rfl (by kernel_rfl) (by kernel_rfl) (by kernel_rfl) (fun _ _ _ h => h) (yields (by rfl) (fun w => by kernel_rfl)) hS ?_
          simp only [Act.put, List.setIfInBounds_toArray, List.set_cons_zero, List.set_cons_succ]
          refine takeAt 15 48 (undef) rfl rfl (by kernel_rfl) (by kernel_rfl) (by kernel_rfl) (fun _ _ _ h => h) (skipped (by rfl)) hS ?_
          simp only [Act.put, List.setIfInBounds_toArray, List.set_cons_zero, List.set_cons_succ]
          refine takeAt 16 49 (undef) rfl rfl (by kernel_rfl) (by kernel_rfl) (by kernel_rfl) (fun _ _ _ h => h) (skipped (by rfl)) hS ?_
          simp only [Act.put, List.setIfInBounds_toArray, List.set_cons_zero, List.set_cons_succ]
          refine takeAt 17 50 (undef) rfl rfl (by kernel_rfl) (by kernel_rfl) (by kernel_rfl) (fun _ _ _ h => h) (skipped (by rfl)) hS ?_
          simp only [Act.put, List.setIfInBounds_toArray, List.set_cons_zero, List.set_cons_succ]
          refine takeAt 18 51 (undef) rfl rfl (by kernel_rfl) (by kernel_rfl) (by kernel_rfl) (fun _ _ _ h => h) (skipped (by rfl)) hS ?_
          simp only [Act.put, List.setIfInBounds_toArray, List.set_cons_zero, List.set_cons_succ]
          refine takeAt 19 52 (undef) rfl rfl (by kernel_rfl) (by kernel_rfl) (by kernel_rfl) (fun _ _ _ h => h) (skipped (by rfl)) hS ?_
          simp only [Act.put, List.setIfInBounds_toArray, List.set_cons_zero, List.set_cons_succ]
          refine takeAt 20 53 (undef) rfl rfl (by kernel_rfl) (by kernel_rfl) (by kernel_rfl) (fun _ _ _ h => h) (skipped (by rfl)) hS ?_
          simp only [Act.put, List.setIfInBounds_toArray, List.set_cons_zero, List.set_cons_succ]
          refine takeAt 21 54 (.bool true) rfl rfl (by kernel_rfl) (by kernel_rfl) (by kernel_rfl) (fun _ _ _ h => h) (yields (by rfl) (fun w => by kernel_rfl)) hS ?_
          simp only [Act.put, List.setIfInBounds_toArray, List.set_cons_zero, List.set_cons_succ]
          refine wpAnyH_done (by kernel_rfl) ?_ _
          have HBn := Lib.hid (HB2.out.trans (hS.mono HB2.out.size))
          clear HB2
          have HB2 := HBn
          clear HBn
          have HX1 := Lib.hid (HX1.out.below hS HX1.out.lt)
          have HX2 := Lib.hid (HX2.out.below hS HX2.out.lt)
          have HN1 := Lib.hid (HN1.out.below hS (Nat.le_refl _))
          have HN2 := Lib.hid (HN2.out.below hS (Nat.le_refl _))
          clear hS
          have hc1 := tree_cell HX1.out
          have hc2 := tree_cell HX2.out
          go_wp2_with fail
          with_reducible refine (HF.out _ (HT.out.call HB2.out)).mono ?_
          rintro e wf9 ⟨rfl, hb⟩
          have HZ := Lib.hid (thenB HB2.out hb HB2.out.size)
          clear hb
          go_wp2_with fail
          go_ret
          exact ⟨rfl, HZ.out⟩
set_option maxRecDepth 100000 in
set_option maxHeartbeats 32000000 in
theorem parseAlts_sl (K : PKit) (p q : ByteArray) (w : World) (hs : p.size ≤ 9223372036854775807) (hs' : q.size ≤ 9223372036854775807) (hw : Tabs w) (hp : p.size ≤ 100) (hq : 100 < q.size) : Calls Tryz.prog 6 #[.string p, .string q] w fun e w' => e = .returned (.bool true) ∧ Below w.heap.size w w' := by
  have HF := Lib.hid (fun w (h : Tabs w) => fixed_any K w h)
  have HP0 := Lib.hid (fun p w (h : Tabs w) => parse_g K p w h)
  have HK := Lib.hid K
  have HT := Lib.hid hw
  clear hw K
  go_enter Tryz.func6, Tryz.ntmps6
  go_wp2_with fail
  have HX := Lib.hid hp
  obtain ⟨X, rfl⟩ : ∃ X, X = p := ⟨_, rfl⟩
  clear hp
  have hYs0 : (q.extract 0 100).size = 100 := by rw [ByteArray.size_extract]; omega
  generalize q.extract 0 100 = Y at hYs0 ⊢
  have HY := Lib.hid (show Y.size ≤ 100 by omega)
  clear hYs0 hq hs'
  have HB0 := Lib.hid (Below.refl w.heap.size w)
  go_wp2_with fail
  with_reducible refine (HP0.out X _ (HT.out.call HB0.out)).mono ?_
  rintro e w1 ⟨B, cap, rfl, ht, hb⟩
  have HNn := Lib.hid ht.nodes
  have HBn := Lib.hid (thenB HB0.out hb HB0.out.size)

  have HW1 := Lib.hid ht.none
  clear ht hb
  have HQ1 := Lib.hid (parse_cases X (by have := HX.out; omega))
  have HE1 := Lib.hid (show ∃ R, R = parseZ X from ⟨_, rfl⟩)
  obtain ⟨R, hR⟩ := HE1.out
  rw [← hR] at HNn HW1 HQ1 ⊢
  have HR1 := Lib.hid hR
  clear hR HE1
  obtain ⟨t, er⟩ := R
  simp only [] at HNn HW1 HQ1 ⊢
  go_wp2_with (refine storeNewTr rfl _ _ rfl w1 B t.1 cap rfl rfl rfl ?_; intro v1 hx hN; refine stopP ?_)
  unfold StopP
  have HX1 := Lib.hid hx.out
  have HB1 := Lib.hid (thenB HBn.out hN.out HBn.out.size)
  have HN1 := Lib.hid (HNn.out.below hN.out (Nat.le_refl _))

  have hc1 := tree_cell HX1.out
  clear hx hN HBn HNn
  go_wp2_with fail
  with_reducible refine (HP0.out Y _ (HT.out.call HB1.out)).mono ?_
  rintro e w2 ⟨B2, cap2, rfl, ht, hb⟩
  have HNn := Lib.hid ht.nodes
  have HBn := Lib.hid (thenB HB1.out hb HB1.out.size)
  have HX1 := Lib.hid (HX1.out.below hb HX1.out.lt)
  have HN1 := Lib.hid (HN1.out.below hb (Nat.le_refl _))
  have HW2 := Lib.hid ht.none
  clear ht hb
  have HQ2 := Lib.hid (parse_cases Y (by have := HY.out; omega))
  have HE2 := Lib.hid (show ∃ R, R = parseZ Y from ⟨_, rfl⟩)
  obtain ⟨R, hR⟩ := HE2.out
  rw [← hR] at HNn HW2 HQ2 ⊢
  have HR2 := Lib.hid hR
  clear hR HE2
  obtain ⟨u, fr⟩ := R
  simp only [] at HNn HW2 HQ2 ⊢
  go_wp2_with (refine storeNewTr rfl _ _ rfl w2 B2 u.1 cap2 rfl rfl rfl ?_; intro v2 hx hN; refine stopP ?_)
  unfold StopP
  have HX2 := Lib.hid hx.out
  have HB2 := Lib.hid (thenB HBn.out hN.out HBn.out.size)
  have HN2 := Lib.hid (HNn.out.below hN.out (Nat.le_refl _))
  have HX1 := Lib.hid (HX1.out.below hN.out HX1.out.lt)
  have HN1 := Lib.hid (HN1.out.below hN.out (Nat.le_refl _))
  have hc2 := tree_cell HX2.out
  clear hx hN HBn HNn
  have hc1 := tree_cell HX1.out
  rcases HQ1.out with ⟨h0, he⟩ | ⟨rfl, hr, hd, hn⟩
  · have he0 : (er == 0) = false := by simp; omega
    clear HQ1 HQ2 he
    obtain ⟨n, L⟩ := t
    simp only [] at h0
    subst h0
    go_wp2_with fail
    refine wp_region_held_drew (S := fun u => Below v2.heap.size v2 u) (by kernel_rfl) (show _ from (Below.refl _ v2).drew) (fun hS => ?_)
    generalize World.drew v2 = u0 at hS ⊢
    refine takeAt 0 33 (.int .i64 er) rfl rfl (by kernel_rfl) (by kernel_rfl) (by kernel_rfl) (fun _ _ _ h => h) (yields (by rfl) (fun w => by kernel_rfl)) hS ?_
    simp only [Act.put, List.setIfInBounds_toArray, List.set_cons_zero, List.set_cons_succ]
    refine takeAt 1 34 (.bool true) rfl rfl (by kernel_rfl) (by kernel_rfl) (by kernel_rfl) (fun _ _ _ h => h) (neqE_y (m := er) (n := 0) true (by rw [he0]; rfl) rfl rfl rfl (by rfl)) hS ?_
    simp only [Act.put, List.setIfInBounds_toArray, List.set_cons_zero, List.set_cons_succ]
    refine takeAt 2 35 (.bool true) rfl rfl (by kernel_rfl) (by kernel_rfl) (by kernel_rfl) (fun _ _ _ h => h) (yields (by rfl) (fun w => by kernel_rfl)) hS ?_
    simp only [Act.put, List.setIfInBounds_toArray, List.set_cons_zero, List.set_cons_succ]
    refine takeAt 3 36 (undef) rfl rfl (by kernel_rfl) (by kernel_rfl) (by kernel_rfl) (fun _ _ _ h => h) (skipped (by rfl)) hS ?_
    simp only [Act.put, List.setIfInBounds_toArray, List.set_cons_zero, List.set_cons_succ]
    refine takeAt 4 37 (undef) rfl rfl (by kernel_rfl) (by kernel_rfl) (by kernel_rfl) (fun _ _ _ h => h) (skipped (by rfl)) hS ?_
    simp only [Act.put, List.setIfInBounds_toArray, List.set_cons_zero, List.set_cons_succ]
    refine takeAt 5 38 (.bool true) rfl rfl (by kernel_rfl) (by kernel_rfl) (by kernel_rfl) (fun _ _ _ h => h) (yields (by rfl) (fun w => by kernel_rfl)) hS ?_
    simp only [Act.put, List.setIfInBounds_toArray, List.set_cons_zero, List.set_cons_succ]
    refine takeAt 6 39 (.bool true) rfl rfl (by kernel_rfl) (by kernel_rfl) (by kernel_rfl) (fun _ _ _ h => h) (yields (by rfl) (fun w => by kernel_rfl)) hS ?_
    simp only [Act.put, List.setIfInBounds_toArray, List.set_cons_zero, List.set_cons_succ]
    refine takeAt 7 40 (undef) rfl rfl (by kernel_rfl) (by kernel_rfl) (by kernel_rfl) (fun _ _ _ h => h) (skipped (by rfl)) hS ?_
    simp only [Act.put, List.setIfInBounds_toArray, List.set_cons_zero, List.set_cons_succ]
    refine takeAt 8 41 (undef) rfl rfl (by kernel_rfl) (by kernel_rfl) (by kernel_rfl) (fun _ _ _ h => h) (skipped (by rfl)) hS ?_
    simp only [Act.put, List.setIfInBounds_toArray, List.set_cons_zero, List.set_cons_succ]
    refine takeAt 9 42 (undef) rfl rfl (by kernel_rfl) (by kernel_rfl) (by kernel_rfl) (fun _ _ _ h => h) (skipped (by rfl)) hS ?_
    simp only [Act.put, List.setIfInBounds_toArray, List.set_cons_zero, List.set_cons_succ]
    refine takeAt 10 43 (undef) rfl rfl (by kernel_rfl) (by kernel_rfl) (by kernel_rfl) (fun _ _ _ h => h) (skipped (by rfl)) hS ?_
    simp only [Act.put, List.setIfInBounds_toArray, List.set_cons_zero, List.set_cons_succ]
    refine takeAt 11 44 (undef) rfl rfl (by kernel_rfl) (by kernel_rfl) (by kernel_rfl) (fun _ _ _ h => h) (skipped (by rfl)) hS ?_
    simp only [Act.put, List.setIfInBounds_toArray, List.set_cons_zero, List.set_cons_succ]
    as_aux_lemma =>
      refine takeAt 12 45 (undef) rfl rfl (by kernel_rfl) (by kernel_rfl) (by kernel_rfl) (fun _ _ _ h => h) (skipped (by rfl)) hS ?_
      simp only [Act.put, List.setIfInBounds_toArray, List.set_cons_zero, List.set_cons_succ]
      refine takeAt 13 46 (.bool true) rfl rfl (by kernel_rfl) (by kernel_rfl) (by kernel_rfl) (fun _ _ _ h => h) (yields (by rfl) (fun w => by kernel_rfl)) hS ?_
      simp only [Act.put, List.setIfInBounds_toArray, List.set_cons_zero, List.set_cons_succ]
      refine takeAt 14 47 (.bool true) rfl rfl (by kernel_rfl) (by kernel_rfl) (by kernel_rfl) (fun _ _ _ h => h) (yields (by rfl) (fun w => by kernel_rfl)) hS ?_
      simp only [Act.put, List.setIfInBounds_toArray, List.set_cons_zero, List.set_cons_succ]
      refine takeAt 15 48 (undef) rfl rfl (by kernel_rfl) (by kernel_rfl) (by kernel_rfl) (fun _ _ _ h => h) (skipped (by rfl)) hS ?_
      simp only [Act.put, List.setIfInBounds_toArray, List.set_cons_zero, List.set_cons_succ]
      refine takeAt 16 49 (undef) rfl rfl (by kernel_rfl) (by kernel_rfl) (by kernel_rfl) (fun _ _ _ h => h) (skipped (by rfl)) hS ?_
      simp only [Act.put, List.setIfInBounds_toArray, List.set_cons_zero, List.set_cons_succ]
      refine takeAt 17 50 (undef) rfl rfl (by kernel_rfl) (by kernel_rfl) (by kernel_rfl) (fun _ _ _ h => h) (skipped (by rfl)) hS ?_
      simp only [Act.put, List.setIfInBounds_toArray, List.set_cons_zero, List.set_cons_succ]
      refine takeAt 18 51 (undef) rfl rfl (by kernel_rfl) (by kernel_rfl) (by kernel_rfl) (fun _ _ _ h => h) (skipped (by rfl)) hS ?_
      simp only [Act.put, List.setIfInBounds_toArray, List.set_cons_zero, List.set_cons_succ]
      refine takeAt 19 52 (undef) rfl rfl (by kernel_rfl) (by kernel_rfl) (by kernel_rfl) (fun _ _ _ h => h) (skipped (by rfl)) hS ?_
      simp only [Act.put, List.setIfInBounds_toArray, List.set_cons_zero, List.set_cons_succ]
      refine takeAt 20 53 (undef) rfl rfl (by kernel_rfl) (by kernel_rfl) (by kernel_rfl) (fun _ _ _ h => h) (skipped (by rfl)) hS ?_
      simp only [Act.put, List.setIfInBounds_toArray, List.set_cons_zero, List.set_cons_succ]
      refine takeAt 21 54 (.bool true) rfl rfl (by kernel_rfl) (by kernel_rfl) (by kernel_rfl) (fun _ _ _ h => h) (yields (by rfl) (fun w => by kernel_rfl)) hS ?_
      simp only [Act.put, List.setIfInBounds_toArray, List.set_cons_zero, List.set_cons_succ]
      refine wpAnyH_done (by kernel_rfl) ?_ _
      have HBn := Lib.hid (HB2.out.trans (hS.mono HB2.out.size))
      clear HB2
      have HB2 := HBn
      clear HBn
      have HX1 := Lib.hid (HX1.out.below hS HX1.out.lt)
      have HX2 := Lib.hid (HX2.out.below hS HX2.out.lt)
      have HN1 := Lib.hid (HN1.out.below hS (Nat.le_refl _))
      have HN2 := Lib.hid (HN2.out.below hS (Nat.le_refl _))
      clear hS
      have hc1 := tree_cell HX1.out
      have hc2 := tree_cell HX2.out
      go_wp2_with fail
      with_reducible refine (HF.out _ (HT.out.call HB2.out)).mono ?_
      rintro e wf9 ⟨rfl, hb⟩
      have HZ := Lib.hid (thenB HB2.out hb HB2.out.size)
      clear hb
      go_wp2_with fail
      go_ret
      exact ⟨rfl, HZ.out⟩
  · rcases HQ2.out with ⟨h0, hf⟩ | ⟨rfl, hr', hd', hn'⟩
    · have hf0 : (fr == 0) = false := by simp; omega
      clear HQ1 HQ2 hf
      go_wp2_with fail
      refine wp_region_held_drew (S := fun u => Below v2.heap.size v2 u) (by kernel_rfl) (show _ from (Below.refl _ v2).drew) (fun hS => ?_)
      generalize World.drew v2 = u0 at hS ⊢
      refine takeAt 0 33 (.int .i64 0) rfl rfl (by kernel_rfl) (by kernel_rfl) (by kernel_rfl) (fun _ _ _ h => h) (yields (by rfl) (fun w => by kernel_rfl)) hS ?_
      simp only [Act.put, List.setIfInBounds_toArray, List.set_cons_zero, List.set_cons_succ]
      refine takeAt 1 34 (.bool false) rfl rfl (by kernel_rfl) (by kernel_rfl) (by kernel_rfl) (fun _ _ _ h => h) (yields (by rfl) (fun w => by kernel_rfl)) hS ?_
      simp only [Act.put, List.setIfInBounds_toArray, List.set_cons_zero, List.set_cons_succ]
      refine takeAt 2 35 (.bool false) rfl rfl (by kernel_rfl) (by kernel_rfl) (by kernel_rfl) (fun _ _ _ h => h) (yields (by rfl) (fun w => by kernel_rfl)) hS ?_
      simp only [Act.put, List.setIfInBounds_toArray, List.set_cons_zero, List.set_cons_succ]
      refine takeAt 3 36 (.int .i64 fr) rfl rfl (by kernel_rfl) (by kernel_rfl) (by kernel_rfl) (fun _ _ _ h => h) (yields (by rfl) (fun w => by kernel_rfl)) hS ?_
      simp only [Act.put, List.setIfInBounds_toArray, List.set_cons_zero, List.set_cons_succ]
      refine takeAt 4 37 (.bool true) rfl rfl (by kernel_rfl) (by kernel_rfl) (by kernel_rfl) (fun _ _ _ h => h) (neqE_y (m := fr) (n := 0) true (by rw [hf0]; rfl) rfl rfl rfl (by rfl)) hS ?_
      simp only [Act.put, List.setIfInBounds_toArray, List.set_cons_zero, List.set_cons_succ]
      refine takeAt 5 38 (.bool true) rfl rfl (by kernel_rfl) (by kernel_rfl) (by kernel_rfl) (fun _ _ _ h => h) (yields (by rfl) (fun w => by kernel_rfl)) hS ?_
      simp only [Act.put, List.setIfInBounds_toArray, List.set_cons_zero, List.set_cons_succ]
      refine takeAt 6 39 (.bool true) rfl rfl (by kernel_rfl) (by kernel_rfl) (by kernel_rfl) (fun _ _ _ h => h) (yields (by rfl) (fun w => by kernel_rfl)) hS ?_
      simp only [Act.put, List.setIfInBounds_toArray, List.set_cons_zero, List.set_cons_succ]
      refine takeAt 7 40 (undef) rfl rfl (by kernel_rfl) (by kernel_rfl) (by kernel_rfl) (fun _ _ _ h => h) (skipped (by rfl)) hS ?_
      simp only [Act.put, List.setIfInBounds_toArray, List.set_cons_zero, List.set_cons_succ]
      refine takeAt 8 41 (undef) rfl rfl (by kernel_rfl) (by kernel_rfl) (by kernel_rfl) (fun _ _ _ h => h) (skipped (by rfl)) hS ?_
      simp only [Act.put, List.setIfInBounds_toArray, List.set_cons_zero, List.set_cons_succ]
      refine takeAt 9 42 (undef) rfl rfl (by kernel_rfl) (by kernel_rfl) (by kernel_rfl) (fun _ _ _ h => h) (skipped (by rfl)) hS ?_
      simp only [Act.put, List.setIfInBounds_toArray, List.set_cons_zero, List.set_cons_succ]
      refine takeAt 10 43 (undef) rfl rfl (by kernel_rfl) (by kernel_rfl) (by kernel_rfl) (fun _ _ _ h => h) (skipped (by rfl)) hS ?_
      simp only [Act.put, List.setIfInBounds_toArray, List.set_cons_zero, List.set_cons_succ]
      refine takeAt 11 44 (undef) rfl rfl (by kernel_rfl) (by kernel_rfl) (by kernel_rfl) (fun _ _ _ h => h) (skipped (by rfl)) hS ?_
      simp only [Act.put, List.setIfInBounds_toArray, List.set_cons_zero, List.set_cons_succ]
      as_aux_lemma =>
        refine takeAt 12 45 (undef) rfl rfl (by kernel_rfl) (by kernel_rfl) (by kernel_rfl) (fun _ _ _ h => h) (skipped (by rfl)) hS ?_
        simp only [Act.put, List.setIfInBounds_toArray, List.set_cons_zero, List.set_cons_succ]
        refine takeAt 13 46 (.bool true) rfl rfl (by kernel_rfl) (by kernel_rfl) (by kernel_rfl) (fun _ _ _ h => h) (yields (by rfl) (fun w => by kernel_rfl)) hS ?_
        simp only [Act.put, List.setIfInBounds_toArray, List.set_cons_zero, List.set_cons_succ]
        refine takeAt 14 47 (.bool true) rfl rfl (by kernel_rfl) (by kernel_rfl) (by kernel_rfl) (fun _ _ _ h => h) (yields (by rfl) (fun w => by kernel_rfl)) hS ?_
        simp only [Act.put, List.setIfInBounds_toArray, List.set_cons_zero, List.set_cons_succ]
        refine takeAt 15 48 (undef) rfl rfl (by kernel_rfl) (by kernel_rfl) (by kernel_rfl) (fun _ _ _ h => h) (skipped (by rfl)) hS ?_
        simp only [Act.put, List.setIfInBounds_toArray, List.set_cons_zero, List.set_cons_succ]
        refine takeAt 16 49 (undef) rfl rfl (by kernel_rfl) (by kernel_rfl) (by kernel_rfl) (fun _ _ _ h => h) (skipped (by rfl)) hS ?_
        simp only [Act.put, List.setIfInBounds_toArray, List.set_cons_zero, List.set_cons_succ]
        refine takeAt 17 50 (undef) rfl rfl (by kernel_rfl) (by kernel_rfl) (by kernel_rfl) (fun _ _ _ h => h) (skipped (by rfl)) hS ?_
        simp only [Act.put, List.setIfInBounds_toArray, List.set_cons_zero, List.set_cons_succ]
        refine takeAt 18 51 (undef) rfl rfl (by kernel_rfl) (by kernel_rfl) (by kernel_rfl) (fun _ _ _ h => h) (skipped (by rfl)) hS ?_
        simp only [Act.put, List.setIfInBounds_toArray, List.set_cons_zero, List.set_cons_succ]
        refine takeAt 19 52 (undef) rfl rfl (by kernel_rfl) (by kernel_rfl) (by kernel_rfl) (fun _ _ _ h => h) (skipped (by rfl)) hS ?_
        simp only [Act.put, List.setIfInBounds_toArray, List.set_cons_zero, List.set_cons_succ]
        refine takeAt 20 53 (undef) rfl rfl (by kernel_rfl) (by kernel_rfl) (by kernel_rfl) (fun _ _ _ h => h) (skipped (by rfl)) hS ?_
        simp only [Act.put, List.setIfInBounds_toArray, List.set_cons_zero, List.set_cons_succ]
        refine takeAt 21 54 (.bool true) rfl rfl (by kernel_rfl) (by kernel_rfl) (by kernel_rfl) (fun _ _ _ h => h) (yields (by rfl) (fun w => by kernel_rfl)) hS ?_
        simp only [Act.put, List.setIfInBounds_toArray, List.set_cons_zero, List.set_cons_succ]
        refine wpAnyH_done (by kernel_rfl) ?_ _
        have HBn := Lib.hid (HB2.out.trans (hS.mono HB2.out.size))
        clear HB2
        have HB2 := HBn
        clear HBn
        have HX1 := Lib.hid (HX1.out.below hS HX1.out.lt)
        have HX2 := Lib.hid (HX2.out.below hS HX2.out.lt)
        have HN1 := Lib.hid (HN1.out.below hS (Nat.le_refl _))
        have HN2 := Lib.hid (HN2.out.below hS (Nat.le_refl _))
        clear hS
        have hc1 := tree_cell HX1.out
        have hc2 := tree_cell HX2.out
        go_wp2_with fail
        with_reducible refine (HF.out _ (HT.out.call HB2.out)).mono ?_
        rintro e wf9 ⟨rfl, hb⟩
        have HZ := Lib.hid (thenB HB2.out hb HB2.out.size)
        clear hb
        go_wp2_with fail
        go_ret
        exact ⟨rfl, HZ.out⟩
    · clear HQ1 HQ2
      have hq1 : cntG t.2 t.1 ≤ 500 := Nat.le_trans (Ast.cntG_le _ _) hn
      have hq2 : cntG u.2 u.1 ≤ 500 := Nat.le_trans (Ast.cntG_le _ _) hn'
      by_cases hg : cntG t.2 t.1 + cntG u.2 u.1 = 0
      · have hg1 : cntG t.2 t.1 = 0 := by omega
        have hg2 : cntG u.2 u.1 = 0 := by omega
        obtain ⟨d1, hd1⟩ : ∃ d, d = deepZ t.2 t.1 := ⟨_, rfl⟩
        obtain ⟨d2, hd2⟩ : ∃ d, d = deepZ u.2 u.1 := ⟨_, rfl⟩
        by_cases hdm : 40 ≤ max d1 d2
        · clear hg hq1 hq2 hr hr' hd hd'
          go_wp2_with fail
          refine wp_region_held_drew (S := fun u => Below v2.heap.size v2 u) (by kernel_rfl) (show _ from (Below.refl _ v2).drew) (fun hS => ?_)
          generalize World.drew v2 = u0 at hS ⊢
          refine takeAt 0 33 (.int .i64 0) rfl rfl (by kernel_rfl) (by kernel_rfl) (by kernel_rfl) (fun _ _ _ h => h) (yields (by rfl) (fun w => by kernel_rfl)) hS ?_
          simp only [Act.put, List.setIfInBounds_toArray, List.set_cons_zero, List.set_cons_succ]
          refine takeAt 1 34 (.bool false) rfl rfl (by kernel_rfl) (by kernel_rfl) (by kernel_rfl) (fun _ _ _ h => h) (yields (by rfl) (fun w => by kernel_rfl)) hS ?_
          simp only [Act.put, List.setIfInBounds_toArray, List.set_cons_zero, List.set_cons_succ]
          refine takeAt 2 35 (.bool false) rfl rfl (by kernel_rfl) (by kernel_rfl) (by kernel_rfl) (fun _ _ _ h => h) (yields (by rfl) (fun w => by kernel_rfl)) hS ?_
          simp only [Act.put, List.setIfInBounds_toArray, List.set_cons_zero, List.set_cons_succ]
          refine takeAt 3 36 (.int .i64 0) rfl rfl (by kernel_rfl) (by kernel_rfl) (by kernel_rfl) (fun _ _ _ h => h) (yields (by rfl) (fun w => by kernel_rfl)) hS ?_
          simp only [Act.put, List.setIfInBounds_toArray, List.set_cons_zero, List.set_cons_succ]
          refine takeAt 4 37 (.bool false) rfl rfl (by kernel_rfl) (by kernel_rfl) (by kernel_rfl) (fun _ _ _ h => h) (yields (by rfl) (fun w => by kernel_rfl)) hS ?_
          simp only [Act.put, List.setIfInBounds_toArray, List.set_cons_zero, List.set_cons_succ]
          refine takeAt 5 38 (.bool false) rfl rfl (by kernel_rfl) (by kernel_rfl) (by kernel_rfl) (fun _ _ _ h => h) (yields (by rfl) (fun w => by kernel_rfl)) hS ?_
          simp only [Act.put, List.setIfInBounds_toArray, List.set_cons_zero, List.set_cons_succ]
          refine takeAt 6 39 (.bool false) rfl rfl (by kernel_rfl) (by kernel_rfl) (by kernel_rfl) (fun _ _ _ h => h) (yields (by rfl) (fun w => by kernel_rfl)) hS ?_
          simp only [Act.put, List.setIfInBounds_toArray, List.set_cons_zero, List.set_cons_succ]
          refine takeAt 7 40 (.agg (trC B t.1 cap)) rfl rfl (by kernel_rfl) (by kernel_rfl) (by kernel_rfl) (fun _ _ _ h => h) (loadT7 (w1.heap.size) B t.1 cap (fun _ h => HX1.out.below h HX1.out.lt) rfl rfl (by rfl)) hS ?_
          simp only [Act.put, List.setIfInBounds_toArray, List.set_cons_zero, List.set_cons_succ]
          refine takeAt 9 42 (.agg (trC B2 u.1 cap2)) rfl rfl (by kernel_rfl) (by kernel_rfl) (by kernel_rfl) (fun _ _ _ h => h) (loadT7 (w2.heap.size) B2 u.1 cap2 (fun _ h => HX2.out.below h HX2.out.lt) rfl rfl (by rfl)) hS ?_
          simp only [Act.put, List.setIfInBounds_toArray, List.set_cons_zero, List.set_cons_succ]
          have hc8 := Ast.groups_any B t.1 cap t.2 _ (by omega) (HN1.out.below hS (Nat.le_refl _))
          rw [hg1] at hc8
          refine callAt 8 41 rfl rfl (by kernel_rfl) (by rfl) (by kernel_rfl) (hc8) ?_
          rintro e u' ⟨rfl, hb⟩
          have hS := thenB hS hb hS.size
          clear hb
          refine ⟨_, rfl, hS, ?_⟩
          simp only [Act.put, List.setIfInBounds_toArray, List.set_cons_zero, List.set_cons_succ]
          clear hc8
          have hc10 := Ast.groups_any B2 u.1 cap2 u.2 _ (by omega) (HN2.out.below hS (Nat.le_refl _))
          rw [hg2] at hc10
          refine callAt 10 43 rfl rfl (by kernel_rfl) (by rfl) (by kernel_rfl) (hc10) ?_
          rintro e u' ⟨rfl, hb⟩
          have hS := thenB hS hb hS.size
          clear hb
          refine ⟨_, rfl, hS, ?_⟩
          simp only [Act.put, List.setIfInBounds_toArray, List.set_cons_zero, List.set_cons_succ]
          refine takeAt 11 44 (.int .i64 0) rfl rfl (by kernel_rfl) (by kernel_rfl) (by kernel_rfl) (fun _ _ _ h => h) (yields (by rfl) (fun w => by kernel_rfl)) hS ?_
          simp only [Act.put, List.setIfInBounds_toArray, List.set_cons_zero, List.set_cons_succ]
          refine takeAt 12 45 (.bool false) rfl rfl (by kernel_rfl) (by kernel_rfl) (by kernel_rfl) (fun _ _ _ h => h) (yields (by rfl) (fun w => by kernel_rfl)) hS ?_
          simp only [Act.put, List.setIfInBounds_toArray, List.set_cons_zero, List.set_cons_succ]
          refine takeAt 13 46 (.bool false) rfl rfl (by kernel_rfl) (by kernel_rfl) (by kernel_rfl) (fun _ _ _ h => h) (yields (by rfl) (fun w => by kernel_rfl)) hS ?_
          simp only [Act.put, List.setIfInBounds_toArray, List.set_cons_zero, List.set_cons_succ]
          as_aux_lemma =>
            refine takeAt 14 47 (.bool false) rfl rfl (by kernel_rfl) (by kernel_rfl) (by kernel_rfl) (fun _ _ _ h => h) (yields (by rfl) (fun w => by kernel_rfl)) hS ?_
            simp only [Act.put, List.setIfInBounds_toArray, List.set_cons_zero, List.set_cons_succ]
            refine takeAt 15 48 (.agg (trC B t.1 cap)) rfl rfl (by kernel_rfl) (by kernel_rfl) (by kernel_rfl) (fun _ _ _ h => h) (loadT7 (w1.heap.size) B t.1 cap (fun _ h => HX1.out.below h HX1.out.lt) rfl rfl (by rfl)) hS ?_
            simp only [Act.put, List.setIfInBounds_toArray, List.set_cons_zero, List.set_cons_succ]
            refine takeAt 17 50 (.agg (trC B2 u.1 cap2)) rfl rfl (by kernel_rfl) (by kernel_rfl) (by kernel_rfl) (fun _ _ _ h => h) (loadT7 (w2.heap.size) B2 u.1 cap2 (fun _ h => HX2.out.below h HX2.out.lt) rfl rfl (by rfl)) hS ?_
            simp only [Act.put, List.setIfInBounds_toArray, List.set_cons_zero, List.set_cons_succ]
            clear hc10
            have hc16 := Ast.deep_any B t.1 cap t.2 _ (by omega) (HN1.out.below hS (Nat.le_refl _))
            rw [← hd1] at hc16
            refine callAt 16 49 rfl rfl (by kernel_rfl) (by rfl) (by kernel_rfl) (hc16) ?_
            rintro e u' ⟨rfl, hb⟩
            have hS := thenB hS hb hS.size
            clear hb
            refine ⟨_, rfl, hS, ?_⟩
            simp only [Act.put, List.setIfInBounds_toArray, List.set_cons_zero, List.set_cons_succ]
            clear hc16
            have hc18 := Ast.deep_any B2 u.1 cap2 u.2 _ (by omega) (HN2.out.below hS (Nat.le_refl _))
            rw [← hd2] at hc18
            refine callAt 18 51 rfl rfl (by kernel_rfl) (by rfl) (by kernel_rfl) (hc18) ?_
            rintro e u' ⟨rfl, hb⟩
            have hS := thenB hS hb hS.size
            clear hb
            refine ⟨_, rfl, hS, ?_⟩
            simp only [Act.put, List.setIfInBounds_toArray, List.set_cons_zero, List.set_cons_succ]
            refine takeAt 19 52 (.int .i64 ((max d1 d2 : Nat) : Int)) rfl rfl (by kernel_rfl) (by kernel_rfl) (by kernel_rfl) (fun _ _ _ h => h) (maxI_y (m := (d1 : Nat)) (n := (d2 : Nat)) (by omega) rfl rfl rfl (by rfl)) hS ?_
            simp only [Act.put, List.setIfInBounds_toArray, List.set_cons_zero, List.set_cons_succ]
            refine takeAt 20 53 (.bool true) rfl rfl (by kernel_rfl) (by kernel_rfl) (by kernel_rfl) (fun _ _ _ h => h) (geqI_y (m := ((max d1 d2 : Nat) : Int)) (n := 40) true (decide_eq_true (by omega)) rfl rfl rfl (by rfl)) hS ?_
            simp only [Act.put, List.setIfInBounds_toArray, List.set_cons_zero, List.set_cons_succ]
            refine takeAt 21 54 (.bool true) rfl rfl (by kernel_rfl) (by kernel_rfl) (by kernel_rfl) (fun _ _ _ h => h) (yields (by rfl) (fun w => by kernel_rfl)) hS ?_
            simp only [Act.put, List.setIfInBounds_toArray, List.set_cons_zero, List.set_cons_succ]
            refine wpAnyH_done (by kernel_rfl) ?_ _
            have HBn := Lib.hid (HB2.out.trans (hS.mono HB2.out.size))
            clear HB2
            have HB2 := HBn
            clear HBn
            have HX1 := Lib.hid (HX1.out.below hS HX1.out.lt)
            have HX2 := Lib.hid (HX2.out.below hS HX2.out.lt)
            have HN1 := Lib.hid (HN1.out.below hS (Nat.le_refl _))
            have HN2 := Lib.hid (HN2.out.below hS (Nat.le_refl _))
            clear hS
            have hc1 := tree_cell HX1.out
            have hc2 := tree_cell HX2.out
            clear hc18
            go_wp2_with fail
            with_reducible refine (HF.out _ (HT.out.call HB2.out)).mono ?_
            rintro e wf9 ⟨rfl, hb⟩
            have HZ := Lib.hid (thenB HB2.out hb HB2.out.size)
            clear hb
            go_wp2_with fail
            go_ret
            exact ⟨rfl, HZ.out⟩
        · have hdm1 : d1 < 40 := by omega
          have hdm2 : d2 < 40 := by omega
          have hz0 : ¬ 3 + X.size > 9223372036854775807 := by have := HX.out; have := HY.out; omega
          have hz1 : ¬ 3 + X.size + 5 > 9223372036854775807 := by have := HX.out; have := HY.out; omega
          have hz2 : ¬ 3 + X.size + 5 + Y.size > 9223372036854775807 := by have := HX.out; have := HY.out; omega
          have hz3 : ¬ 3 + X.size + 5 + Y.size + 1 > 9223372036854775807 := by have := HX.out; have := HY.out; omega
          have hz4 : ¬ 3 + X.size + 4 > 9223372036854775807 := by have := HX.out; have := HY.out; omega
          have hz5 : ¬ 3 + X.size + 4 + Y.size > 9223372036854775807 := by have := HX.out; have := HY.out; omega
          have hz6 : ¬ 3 + X.size + 4 + Y.size + 1 > 9223372036854775807 := by have := HX.out; have := HY.out; omega
          go_wp2_with fail
          refine wp_region_held_drew (S := fun u => Below v2.heap.size v2 u) (by kernel_rfl) (show _ from (Below.refl _ v2).drew) (fun hS => ?_)
          generalize World.drew v2 = u0 at hS ⊢
          refine takeAt 0 33 (.int .i64 0) rfl rfl (by kernel_rfl) (by kernel_rfl) (by kernel_rfl) (fun _ _ _ h => h) (yields (by rfl) (fun w => by kernel_rfl)) hS ?_
          simp only [Act.put, List.setIfInBounds_toArray, List.set_cons_zero, List.set_cons_succ]
          refine takeAt 1 34 (.bool false) rfl rfl (by kernel_rfl) (by kernel_rfl) (by kernel_rfl) (fun _ _ _ h => h) (yields (by rfl) (fun w => by kernel_rfl)) hS ?_
          simp only [Act.put, List.setIfInBounds_toArray, List.set_cons_zero, List.set_cons_succ]
          refine takeAt 2 35 (.bool false) rfl rfl (by kernel_rfl) (by kernel_rfl) (by kernel_rfl) (fun _ _ _ h => h) (yields (by rfl) (fun w => by kernel_rfl)) hS ?_
          simp only [Act.put, List.setIfInBounds_toArray, List.set_cons_zero, List.set_cons_succ]
          refine takeAt 3 36 (.int .i64 0) rfl rfl (by kernel_rfl) (by kernel_rfl) (by kernel_rfl) (fun _ _ _ h => h) (yields (by rfl) (fun w => by kernel_rfl)) hS ?_
          simp only [Act.put, List.setIfInBounds_toArray, List.set_cons_zero, List.set_cons_succ]
          refine takeAt 4 37 (.bool false) rfl rfl (by kernel_rfl) (by kernel_rfl) (by kernel_rfl) (fun _ _ _ h => h) (yields (by rfl) (fun w => by kernel_rfl)) hS ?_
          simp only [Act.put, List.setIfInBounds_toArray, List.set_cons_zero, List.set_cons_succ]
          refine takeAt 5 38 (.bool false) rfl rfl (by kernel_rfl) (by kernel_rfl) (by kernel_rfl) (fun _ _ _ h => h) (yields (by rfl) (fun w => by kernel_rfl)) hS ?_
          simp only [Act.put, List.setIfInBounds_toArray, List.set_cons_zero, List.set_cons_succ]
          refine takeAt 6 39 (.bool false) rfl rfl (by kernel_rfl) (by kernel_rfl) (by kernel_rfl) (fun _ _ _ h => h) (yields (by rfl) (fun w => by kernel_rfl)) hS ?_
          simp only [Act.put, List.setIfInBounds_toArray, List.set_cons_zero, List.set_cons_succ]
          refine takeAt 7 40 (.agg (trC B t.1 cap)) rfl rfl (by kernel_rfl) (by kernel_rfl) (by kernel_rfl) (fun _ _ _ h => h) (loadT7 (w1.heap.size) B t.1 cap (fun _ h => HX1.out.below h HX1.out.lt) rfl rfl (by rfl)) hS ?_
          simp only [Act.put, List.setIfInBounds_toArray, List.set_cons_zero, List.set_cons_succ]
          refine takeAt 9 42 (.agg (trC B2 u.1 cap2)) rfl rfl (by kernel_rfl) (by kernel_rfl) (by kernel_rfl) (fun _ _ _ h => h) (loadT7 (w2.heap.size) B2 u.1 cap2 (fun _ h => HX2.out.below h HX2.out.lt) rfl rfl (by rfl)) hS ?_
          simp only [Act.put, List.setIfInBounds_toArray, List.set_cons_zero, List.set_cons_succ]
          have hc8 := Ast.groups_any B t.1 cap t.2 _ (by omega) (HN1.out.below hS (Nat.le_refl _))
          rw [hg1] at hc8
          refine callAt 8 41 rfl rfl (by kernel_rfl) (by rfl) (by kernel_rfl) (hc8) ?_
          rintro e u' ⟨rfl, hb⟩
          have hS := thenB hS hb hS.size
          clear hb
          refine ⟨_, rfl, hS, ?_⟩
          simp only [Act.put, List.setIfInBounds_toArray, List.set_cons_zero, List.set_cons_succ]
          clear hc8
          have hc10 := Ast.groups_any B2 u.1 cap2 u.2 _ (by omega) (HN2.out.below hS (Nat.le_refl _))
          rw [hg2] at hc10
          refine callAt 10 43 rfl rfl (by kernel_rfl) (by rfl) (by kernel_rfl) (hc10) ?_
          rintro e u' ⟨rfl, hb⟩
          have hS := thenB hS hb hS.size
          clear hb
          refine ⟨_, rfl, hS, ?_⟩
          simp only [Act.put, List.setIfInBounds_toArray, List.set_cons_zero, List.set_cons_succ]
          refine takeAt 11 44 (.int .i64 0) rfl rfl (by kernel_rfl) (by kernel_rfl) (by kernel_rfl) (fun _ _ _ h => h) (yields (by rfl) (fun w => by kernel_rfl)) hS ?_
          simp only [Act.put, List.setIfInBounds_toArray, List.set_cons_zero, List.set_cons_succ]
          refine takeAt 12 45 (.bool false) rfl rfl (by kernel_rfl) (by kernel_rfl) (by kernel_rfl) (fun _ _ _ h => h) (yields (by rfl) (fun w => by kernel_rfl)) hS ?_
          simp only [Act.put, List.setIfInBounds_toArray, List.set_cons_zero, List.set_cons_succ]
          refine takeAt 13 46 (.bool false) rfl rfl (by kernel_rfl) (by kernel_rfl) (by kernel_rfl) (fun _ _ _ h => h) (yields (by rfl) (fun w => by kernel_rfl)) hS ?_
          simp only [Act.put, List.setIfInBounds_toArray, List.set_cons_zero, List.set_cons_succ]
          as_aux_lemma =>
            refine takeAt 14 47 (.bool false) rfl rfl (by kernel_rfl) (by kernel_rfl) (by kernel_rfl) (fun _ _ _ h => h) (yields (by rfl) (fun w => by kernel_rfl)) hS ?_
            simp only [Act.put, List.setIfInBounds_toArray, List.set_cons_zero, List.set_cons_succ]
            refine takeAt 15 48 (.agg (trC B t.1 cap)) rfl rfl (by kernel_rfl) (by kernel_rfl) (by kernel_rfl) (fun _ _ _ h => h) (loadT7 (w1.heap.size) B t.1 cap (fun _ h => HX1.out.below h HX1.out.lt) rfl rfl (by rfl)) hS ?_
            simp only [Act.put, List.setIfInBounds_toArray, List.set_cons_zero, List.set_cons_succ]
            refine takeAt 17 50 (.agg (trC B2 u.1 cap2)) rfl rfl (by kernel_rfl) (by kernel_rfl) (by kernel_rfl) (fun _ _ _ h => h) (loadT7 (w2.heap.size) B2 u.1 cap2 (fun _ h => HX2.out.below h HX2.out.lt) rfl rfl (by rfl)) hS ?_
            simp only [Act.put, List.setIfInBounds_toArray, List.set_cons_zero, List.set_cons_succ]
            clear hc10
            have hc16 := Ast.deep_any B t.1 cap t.2 _ (by omega) (HN1.out.below hS (Nat.le_refl _))
            rw [← hd1] at hc16
            refine callAt 16 49 rfl rfl (by kernel_rfl) (by rfl) (by kernel_rfl) (hc16) ?_
            rintro e u' ⟨rfl, hb⟩
            have hS := thenB hS hb hS.size
            clear hb
            refine ⟨_, rfl, hS, ?_⟩
            simp only [Act.put, List.setIfInBounds_toArray, List.set_cons_zero, List.set_cons_succ]
            clear hc16
            have hc18 := Ast.deep_any B2 u.1 cap2 u.2 _ (by omega) (HN2.out.below hS (Nat.le_refl _))
            rw [← hd2] at hc18
            refine callAt 18 51 rfl rfl (by kernel_rfl) (by rfl) (by kernel_rfl) (hc18) ?_
            rintro e u' ⟨rfl, hb⟩
            have hS := thenB hS hb hS.size
            clear hb
            refine ⟨_, rfl, hS, ?_⟩
            simp only [Act.put, List.setIfInBounds_toArray, List.set_cons_zero, List.set_cons_succ]
            refine takeAt 19 52 (.int .i64 ((max d1 d2 : Nat) : Int)) rfl rfl (by kernel_rfl) (by kernel_rfl) (by kernel_rfl) (fun _ _ _ h => h) (maxI_y (m := (d1 : Nat)) (n := (d2 : Nat)) (by omega) rfl rfl rfl (by rfl)) hS ?_
            simp only [Act.put, List.setIfInBounds_toArray, List.set_cons_zero, List.set_cons_succ]
            refine takeAt 20 53 (.bool false) rfl rfl (by kernel_rfl) (by kernel_rfl) (by kernel_rfl) (fun _ _ _ h => h) (geqI_y (m := ((max d1 d2 : Nat) : Int)) (n := 40) false (decide_eq_false (by omega)) rfl rfl rfl (by rfl)) hS ?_
            simp only [Act.put, List.setIfInBounds_toArray, List.set_cons_zero, List.set_cons_succ]
            refine takeAt 21 54 (.bool false) rfl rfl (by kernel_rfl) (by kernel_rfl) (by kernel_rfl) (fun _ _ _ h => h) (yields (by rfl) (fun w => by kernel_rfl)) hS ?_
            simp only [Act.put, List.setIfInBounds_toArray, List.set_cons_zero, List.set_cons_succ]
            refine wpAnyH_done (by kernel_rfl) ?_ _
            have HBn := Lib.hid (HB2.out.trans (hS.mono HB2.out.size))
            clear HB2
            have HB2 := HBn
            clear HBn
            have HX1 := Lib.hid (HX1.out.below hS HX1.out.lt)
            have HX2 := Lib.hid (HX2.out.below hS HX2.out.lt)
            have HN1 := Lib.hid (HN1.out.below hS (Nat.le_refl _))
            have HN2 := Lib.hid (HN2.out.below hS (Nat.le_refl _))
            clear hS
            have hc1 := tree_cell HX1.out
            have hc2 := tree_cell HX2.out
            clear hc18
            go_wp2_with fail
            with_reducible refine (parse_at HK.out _ (t.1 + u.1 + 1) 0 (joinT t u 9).2 (alts_z_at HR1.out HR2.out HX.out HY.out (by unfold cntT; exact hg) (by omega) (by omega)) _ (HT.out.call HB2.out)).mono ?_
            rintro e w3 ⟨B3, cap3, rfl, ht, hb⟩
            have HNn := Lib.hid ht.nodes
            have HBn := Lib.hid (thenB HB2.out hb HB2.out.size)
            have HX1 := Lib.hid (HX1.out.below hb HX1.out.lt)
            have HX2 := Lib.hid (HX2.out.below hb HX2.out.lt)
            have HN1 := Lib.hid (HN1.out.below hb (Nat.le_refl _))
            have HN2 := Lib.hid (HN2.out.below hb (Nat.le_refl _))
            clear ht hb
            simp only [] at HNn ⊢
            go_wp2_with (refine storeNewTr rfl _ _ rfl w3 B3 (t.1 + u.1 + 1) cap3 rfl rfl rfl ?_; intro v3 hx hN; refine stopP ?_)
            unfold StopP
            have HX3 := Lib.hid hx.out
            have HB3 := Lib.hid (thenB HBn.out hN.out HBn.out.size)
            have HN3 := Lib.hid (HNn.out.below hN.out (Nat.le_refl _))
            have HX1 := Lib.hid (HX1.out.below hN.out HX1.out.lt)
            have HX2 := Lib.hid (HX2.out.below hN.out HX2.out.lt)
            have HN1 := Lib.hid (HN1.out.below hN.out (Nat.le_refl _))
            have HN2 := Lib.hid (HN2.out.below hN.out (Nat.le_refl _))
            have hc3 := tree_cell HX3.out
            clear hx hN HBn HNn
            go_wp2_with fail
            with_reducible refine (parse_at HK.out _ (t.1 + u.1 + 1) 0 (joinT t u 8).2 (cats_z_at HR1.out HR2.out HX.out HY.out (by unfold cntT; exact hg) (by omega) (by omega)) _ (HT.out.call HB3.out)).mono ?_
            rintro e w4 ⟨B4, cap4, rfl, ht, hb⟩
            have HNn := Lib.hid ht.nodes
            have HBn := Lib.hid (thenB HB3.out hb HB3.out.size)
            have HX1 := Lib.hid (HX1.out.below hb HX1.out.lt)
            have HX2 := Lib.hid (HX2.out.below hb HX2.out.lt)
            have HX3 := Lib.hid (HX3.out.below hb HX3.out.lt)
            have HN1 := Lib.hid (HN1.out.below hb (Nat.le_refl _))
            have HN2 := Lib.hid (HN2.out.below hb (Nat.le_refl _))
            have HN3 := Lib.hid (HN3.out.below hb (Nat.le_refl _))
            clear ht hb
            simp only [] at HNn ⊢
            go_wp2_with (refine storeNewTr rfl _ _ rfl w4 B4 (t.1 + u.1 + 1) cap4 rfl rfl rfl ?_; intro v4 hx hN; refine stopP ?_)
            unfold StopP
            have HX4 := Lib.hid hx.out
            have HB4 := Lib.hid (thenB HBn.out hN.out HBn.out.size)
            have HN4 := Lib.hid (HNn.out.below hN.out (Nat.le_refl _))
            have HX1 := Lib.hid (HX1.out.below hN.out HX1.out.lt)
            have HX2 := Lib.hid (HX2.out.below hN.out HX2.out.lt)
            have HX3 := Lib.hid (HX3.out.below hN.out HX3.out.lt)
            have HN1 := Lib.hid (HN1.out.below hN.out (Nat.le_refl _))
            have HN2 := Lib.hid (HN2.out.below hN.out (Nat.le_refl _))
            have HN3 := Lib.hid (HN3.out.below hN.out (Nat.le_refl _))
            have hc4 := tree_cell HX4.out
            clear hx hN HBn HNn
            go_wp2_with fail
            refine wp_region_held_drew (S := fun u => Below v4.heap.size v4 u) (by kernel_rfl) (show _ from (Below.refl _ v4).drew) (fun hS => ?_)
            generalize World.drew v4 = u0 at hS ⊢
            refine takeAt 0 86 (.int .i64 0) rfl rfl (by kernel_rfl) (by kernel_rfl) (by kernel_rfl) (fun _ _ _ h => h) (yields (by rfl) (fun w => by kernel_rfl)) hS ?_
            simp only [Act.put, List.setIfInBounds_toArray, List.set_cons_zero, List.set_cons_succ]
            refine takeAt 1 87 (.bool true) rfl rfl (by kernel_rfl) (by kernel_rfl) (by kernel_rfl) (fun _ _ _ h => h) (yields (by rfl) (fun w => by kernel_rfl)) hS ?_
            simp only [Act.put, List.setIfInBounds_toArray, List.set_cons_zero, List.set_cons_succ]
            refine takeAt 2 88 (.bool true) rfl rfl (by kernel_rfl) (by kernel_rfl) (by kernel_rfl) (fun _ _ _ h => h) (yields (by rfl) (fun w => by kernel_rfl)) hS ?_
            simp only [Act.put, List.setIfInBounds_toArray, List.set_cons_zero, List.set_cons_succ]
            refine takeAt 3 89 (.int .i64 0) rfl rfl (by kernel_rfl) (by kernel_rfl) (by kernel_rfl) (fun _ _ _ h => h) (yields (by rfl) (fun w => by kernel_rfl)) hS ?_
            simp only [Act.put, List.setIfInBounds_toArray, List.set_cons_zero, List.set_cons_succ]
            refine takeAt 4 90 (.bool true) rfl rfl (by kernel_rfl) (by kernel_rfl) (by kernel_rfl) (fun _ _ _ h => h) (yields (by rfl) (fun w => by kernel_rfl)) hS ?_
            simp only [Act.put, List.setIfInBounds_toArray, List.set_cons_zero, List.set_cons_succ]
            refine takeAt 5 91 (.bool true) rfl rfl (by kernel_rfl) (by kernel_rfl) (by kernel_rfl) (fun _ _ _ h => h) (yields (by rfl) (fun w => by kernel_rfl)) hS ?_
            simp only [Act.put, List.setIfInBounds_toArray, List.set_cons_zero, List.set_cons_succ]
            refine takeAt 6 92 (.bool true) rfl rfl (by kernel_rfl) (by kernel_rfl) (by kernel_rfl) (fun _ _ _ h => h) (yields (by rfl) (fun w => by kernel_rfl)) hS ?_
            simp only [Act.put, List.setIfInBounds_toArray, List.set_cons_zero, List.set_cons_succ]
            refine takeAt 7 93 (.agg (trC B3 (t.1 + u.1 + 1) cap3)) rfl rfl (by kernel_rfl) (by kernel_rfl) (by kernel_rfl) (fun _ _ _ h => h) (loadT7 (w3.heap.size) B3 (t.1 + u.1 + 1) cap3 (fun _ h => HX3.out.below h HX3.out.lt) rfl rfl (by rfl)) hS ?_
            simp only [Act.put, List.setIfInBounds_toArray, List.set_cons_zero, List.set_cons_succ]
            refine takeAt 8 94 (.agg (trC B t.1 cap)) rfl rfl (by kernel_rfl) (by kernel_rfl) (by kernel_rfl) (fun _ _ _ h => h) (loadT7 (w1.heap.size) B t.1 cap (fun _ h => HX1.out.below h HX1.out.lt) rfl rfl (by rfl)) hS ?_
            simp only [Act.put, List.setIfInBounds_toArray, List.set_cons_zero, List.set_cons_succ]
            refine takeAt 9 95 (.agg (trC B2 u.1 cap2)) rfl rfl (by kernel_rfl) (by kernel_rfl) (by kernel_rfl) (fun _ _ _ h => h) (loadT7 (w2.heap.size) B2 u.1 cap2 (fun _ h => HX2.out.below h HX2.out.lt) rfl rfl (by rfl)) hS ?_
            simp only [Act.put, List.setIfInBounds_toArray, List.set_cons_zero, List.set_cons_succ]
            refine callAt 10 96 rfl rfl (by kernel_rfl) (by rfl) (by kernel_rfl) (Ast.join_any B t.1 cap t.2 B2 u.1 cap2 u.2 9 _ (by omega) (by omega) HW1.out HW2.out (HN1.out.below hS (Nat.le_refl _)) (HN2.out.below hS (Nat.le_refl _))) ?_
            intro e u' hres
            obtain ⟨A9, capA9, rfl, ht, hb⟩ := tree_res hres (Nat.le_add_left 1 _)
            have hS := thenB hS hb hS.size
            have hnA9 := ht.nodes
            clear hres ht hb
            refine ⟨_, rfl, hS, ?_⟩
            simp only [Act.put, List.setIfInBounds_toArray, List.set_cons_zero, List.set_cons_succ]
            have hcA9 := Ast.same_any B3 A9 (t.1 + u.1 + 1) (t.1 + u.1 + 1) cap3 capA9 (joinL t.2 t.1 u.2 u.1 9) (joinL t.2 t.1 u.2 u.1 9) _ (by omega) (by omega) (HN3.out.below hS (Nat.le_refl _)) hnA9
            rw [same_self] at hcA9
            refine callAt 11 97 rfl rfl (by kernel_rfl) (by rfl) (by kernel_rfl) (hcA9) ?_
            rintro e u' ⟨rfl, hb⟩
            have hS := thenB hS hb hS.size
            clear hb
            refine ⟨_, rfl, hS, ?_⟩
            simp only [Act.put, List.setIfInBounds_toArray, List.set_cons_zero, List.set_cons_succ]
            refine takeAt 12 98 (.bool true) rfl rfl (by kernel_rfl) (by kernel_rfl) (by kernel_rfl) (fun _ _ _ h => h) (yields (by rfl) (fun w => by kernel_rfl)) hS ?_
            simp only [Act.put, List.setIfInBounds_toArray, List.set_cons_zero, List.set_cons_succ]
            refine takeAt 13 99 (.bool true) rfl rfl (by kernel_rfl) (by kernel_rfl) (by kernel_rfl) (fun _ _ _ h => h) (yields (by rfl) (fun w => by kernel_rfl)) hS ?_
            simp only [Act.put, List.setIfInBounds_toArray, List.set_cons_zero, List.set_cons_succ]
            as_aux_lemma =>
              refine takeAt 14 100 (.agg (trC B4 (t.1 + u.1 + 1) cap4)) rfl rfl (by kernel_rfl) (by kernel_rfl) (by kernel_rfl) (fun _ _ _ h => h) (loadT7 (w4.heap.size) B4 (t.1 + u.1 + 1) cap4 (fun _ h => HX4.out.below h HX4.out.lt) rfl rfl (by rfl)) hS ?_
              simp only [Act.put, List.setIfInBounds_toArray, List.set_cons_zero, List.set_cons_succ]
              refine takeAt 15 101 (.agg (trC B t.1 cap)) rfl rfl (by kernel_rfl) (by kernel_rfl) (by kernel_rfl) (fun _ _ _ h => h) (loadT7 (w1.heap.size) B t.1 cap (fun _ h => HX1.out.below h HX1.out.lt) rfl rfl (by rfl)) hS ?_
              simp only [Act.put, List.setIfInBounds_toArray, List.set_cons_zero, List.set_cons_succ]
              refine takeAt 16 102 (.agg (trC B2 u.1 cap2)) rfl rfl (by kernel_rfl) (by kernel_rfl) (by kernel_rfl) (fun _ _ _ h => h) (loadT7 (w2.heap.size) B2 u.1 cap2 (fun _ h => HX2.out.below h HX2.out.lt) rfl rfl (by rfl)) hS ?_
              simp only [Act.put, List.setIfInBounds_toArray, List.set_cons_zero, List.set_cons_succ]
              clear hcA9 hnA9
              refine callAt 17 103 rfl rfl (by kernel_rfl) (by rfl) (by kernel_rfl) (Ast.join_any B t.1 cap t.2 B2 u.1 cap2 u.2 8 _ (by omega) (by omega) HW1.out HW2.out (HN1.out.below hS (Nat.le_refl _)) (HN2.out.below hS (Nat.le_refl _))) ?_
              intro e u' hres
              obtain ⟨A8, capA8, rfl, ht, hb⟩ := tree_res hres (Nat.le_add_left 1 _)
              have hS := thenB hS hb hS.size
              have hnA8 := ht.nodes
              clear hres ht hb
              refine ⟨_, rfl, hS, ?_⟩
              simp only [Act.put, List.setIfInBounds_toArray, List.set_cons_zero, List.set_cons_succ]
              have hcA8 := Ast.same_any B4 A8 (t.1 + u.1 + 1) (t.1 + u.1 + 1) cap4 capA8 (joinL t.2 t.1 u.2 u.1 8) (joinL t.2 t.1 u.2 u.1 8) _ (by omega) (by omega) (HN4.out.below hS (Nat.le_refl _)) hnA8
              rw [same_self] at hcA8
              refine callAt 18 104 rfl rfl (by kernel_rfl) (by rfl) (by kernel_rfl) (hcA8) ?_
              rintro e u' ⟨rfl, hb⟩
              have hS := thenB hS hb hS.size
              clear hb
              refine ⟨_, rfl, hS, ?_⟩
              simp only [Act.put, List.setIfInBounds_toArray, List.set_cons_zero, List.set_cons_succ]
              refine takeAt 19 105 (.bool true) rfl rfl (by kernel_rfl) (by kernel_rfl) (by kernel_rfl) (fun _ _ _ h => h) (yields (by rfl) (fun w => by kernel_rfl)) hS ?_
              simp only [Act.put, List.setIfInBounds_toArray, List.set_cons_zero, List.set_cons_succ]
              refine takeAt 20 106 (.bool true) rfl rfl (by kernel_rfl) (by kernel_rfl) (by kernel_rfl) (fun _ _ _ h => h) (yields (by rfl) (fun w => by kernel_rfl)) hS ?_
              simp only [Act.put, List.setIfInBounds_toArray, List.set_cons_zero, List.set_cons_succ]
              refine callAt 21 107 rfl rfl (by kernel_rfl) (by rfl) (by kernel_rfl) (HF.out _ (HT.out.call (HB4.out.trans (hS.mono HB4.out.size)))) ?_
              rintro e u' ⟨rfl, hb⟩
              have hS := thenB hS hb hS.size
              clear hb
              refine ⟨_, rfl, hS, ?_⟩
              simp only [Act.put, List.setIfInBounds_toArray, List.set_cons_zero, List.set_cons_succ]
              refine takeAt 22 108 (.bool true) rfl rfl (by kernel_rfl) (by kernel_rfl) (by kernel_rfl) (fun _ _ _ h => h) (yields (by rfl) (fun w => by kernel_rfl)) hS ?_
              simp only [Act.put, List.setIfInBounds_toArray, List.set_cons_zero, List.set_cons_succ]
              refine takeAt 23 4 (.bool true) rfl rfl (by kernel_rfl) (by kernel_rfl) (by kernel_rfl) (fun _ _ _ h => h) (yields (by rfl) (fun w => by kernel_rfl)) hS ?_
              simp only [Act.put, List.setIfInBounds_toArray, List.set_cons_zero, List.set_cons_succ]
              refine wpAnyH_done (by kernel_rfl) ?_ _
              go_wp2_with fail
              go_ret
              exact ⟨rfl, HB4.out.trans (hS.mono HB4.out.size)⟩
      · clear hr hr' hd hd'
        go_wp2_with fail
        refine wp_region_held_drew (S := fun u => Below v2.heap.size v2 u) (by kernel_rfl) (show _ from (Below.refl _ v2).drew) (fun hS => ?_)
        generalize World.drew v2 = u0 at hS ⊢
        refine takeAt 0 33 (.int .i64 0) rfl rfl (by kernel_rfl) (by kernel_rfl) (by kernel_rfl) (fun _ _ _ h => h) (yields (by rfl) (fun w => by kernel_rfl)) hS ?_
        simp only [Act.put, List.setIfInBounds_toArray, List.set_cons_zero, List.set_cons_succ]
        refine takeAt 1 34 (.bool false) rfl rfl (by kernel_rfl) (by kernel_rfl) (by kernel_rfl) (fun _ _ _ h => h) (yields (by rfl) (fun w => by kernel_rfl)) hS ?_
        simp only [Act.put, List.setIfInBounds_toArray, List.set_cons_zero, List.set_cons_succ]
        refine takeAt 2 35 (.bool false) rfl rfl (by kernel_rfl) (by kernel_rfl) (by kernel_rfl) (fun _ _ _ h => h) (yields (by rfl) (fun w => by kernel_rfl)) hS ?_
        simp only [Act.put, List.setIfInBounds_toArray, List.set_cons_zero, List.set_cons_succ]
        refine takeAt 3 36 (.int .i64 0) rfl rfl (by kernel_rfl) (by kernel_rfl) (by kernel_rfl) (fun _ _ _ h => h) (yields (by rfl) (fun w => by kernel_rfl)) hS ?_
        simp only [Act.put, List.setIfInBounds_toArray, List.set_cons_zero, List.set_cons_succ]
        refine takeAt 4 37 (.bool false) rfl rfl (by kernel_rfl) (by kernel_rfl) (by kernel_rfl) (fun _ _ _ h => h) (yields (by rfl) (fun w => by kernel_rfl)) hS ?_
        simp only [Act.put, List.setIfInBounds_toArray, List.set_cons_zero, List.set_cons_succ]
        refine takeAt 5 38 (.bool false) rfl rfl (by kernel_rfl) (by kernel_rfl) (by kernel_rfl) (fun _ _ _ h => h) (yields (by rfl) (fun w => by kernel_rfl)) hS ?_
        simp only [Act.put, List.setIfInBounds_toArray, List.set_cons_zero, List.set_cons_succ]
        refine takeAt 6 39 (.bool false) rfl rfl (by kernel_rfl) (by kernel_rfl) (by kernel_rfl) (fun _ _ _ h => h) (yields (by rfl) (fun w => by kernel_rfl)) hS ?_
        simp only [Act.put, List.setIfInBounds_toArray, List.set_cons_zero, List.set_cons_succ]
        refine takeAt 7 40 (.agg (trC B t.1 cap)) rfl rfl (by kernel_rfl) (by kernel_rfl) (by kernel_rfl) (fun _ _ _ h => h) (loadT7 (w1.heap.size) B t.1 cap (fun _ h => HX1.out.below h HX1.out.lt) rfl rfl (by rfl)) hS ?_
        simp only [Act.put, List.setIfInBounds_toArray, List.set_cons_zero, List.set_cons_succ]
        refine takeAt 9 42 (.agg (trC B2 u.1 cap2)) rfl rfl (by kernel_rfl) (by kernel_rfl) (by kernel_rfl) (fun _ _ _ h => h) (loadT7 (w2.heap.size) B2 u.1 cap2 (fun _ h => HX2.out.below h HX2.out.lt) rfl rfl (by rfl)) hS ?_
        simp only [Act.put, List.setIfInBounds_toArray, List.set_cons_zero, List.set_cons_succ]
        refine callAt 8 41 rfl rfl (by kernel_rfl) (by rfl) (by kernel_rfl) (Ast.groups_any B t.1 cap t.2 _ (by omega) (HN1.out.below hS (Nat.le_refl _))) ?_
        rintro e u' ⟨rfl, hb⟩
        have hS := thenB hS hb hS.size
        clear hb
        refine ⟨_, rfl, hS, ?_⟩
        simp only [Act.put, List.setIfInBounds_toArray, List.set_cons_zero, List.set_cons_succ]
        refine callAt 10 43 rfl rfl (by kernel_rfl) (by rfl) (by kernel_rfl) (Ast.groups_any B2 u.1 cap2 u.2 _ (by omega) (HN2.out.below hS (Nat.le_refl _))) ?_
        rintro e u' ⟨rfl, hb⟩
        have hS := thenB hS hb hS.size
        clear hb
        refine ⟨_, rfl, hS, ?_⟩
        simp only [Act.put, List.setIfInBounds_toArray, List.set_cons_zero, List.set_cons_succ]
        refine takeAt 11 44 (.int .i64 (cntG t.2 t.1 + cntG u.2 u.1 : Nat)) rfl rfl (by kernel_rfl) (by kernel_rfl) (by kernel_rfl) (fun _ _ _ h => h) (addG_y (m := (cntG t.2 t.1 : Nat)) (n := (cntG u.2 u.1 : Nat)) (by omega) (by omega) (by omega) rfl rfl rfl (by rfl)) hS ?_
        simp only [Act.put, List.setIfInBounds_toArray, List.set_cons_zero, List.set_cons_succ]
        refine takeAt 12 45 (.bool true) rfl rfl (by kernel_rfl) (by kernel_rfl) (by kernel_rfl) (fun _ _ _ h => h) (gtrI_y (m := (cntG t.2 t.1 + cntG u.2 u.1 : Nat)) (n := 0) true (decide_eq_true (by omega)) rfl rfl rfl (by rfl)) hS ?_
        simp only [Act.put, List.setIfInBounds_toArray, List.set_cons_zero, List.set_cons_succ]
        refine takeAt 13 46 (.bool true) rfl rfl (by kernel_rfl) (by kernel_rfl) (by kernel_rfl) (fun _ _ _ h => h) (yields (by rfl) (fun w => by kernel_rfl)) hS ?_
        simp only [Act.put, List.setIfInBounds_toArray, List.set_cons_zero, List.set_cons_succ]
        as_aux_lemma =>
          refine takeAt 14 47 (.bool true) rfl rfl (by kernel_rfl) (by kernel_rfl) (by kernel_rfl) (fun _ _ _ h => h) (yields (by rfl) (fun w => by kernel_rfl)) hS ?_
          simp only [Act.put, List.setIfInBounds_toArray, List.set_cons_zero, List.set_cons_succ]
          refine takeAt 15 48 (undef) rfl rfl (by kernel_rfl) (by kernel_rfl) (by kernel_rfl) (fun _ _ _ h => h) (skipped (by rfl)) hS ?_
          simp only [Act.put, List.setIfInBounds_toArray, List.set_cons_zero, List.set_cons_succ]
          refine takeAt 16 49 (undef) rfl rfl (by kernel_rfl) (by kernel_rfl) (by kernel_rfl) (fun _ _ _ h => h) (skipped (by rfl)) hS ?_
          simp only [Act.put, List.setIfInBounds_toArray, List.set_cons_zero, List.set_cons_succ]
          refine takeAt 17 50 (undef) rfl rfl (by kernel_rfl) (by kernel_rfl) (by kernel_rfl) (fun _ _ _ h => h) (skipped (by rfl)) hS ?_
          simp only [Act.put, List.setIfInBounds_toArray, List.set_cons_zero, List.set_cons_succ]
          refine takeAt 18 51 (undef) rfl rfl (by kernel_rfl) (by kernel_rfl) (by kernel_rfl) (fun _ _ _ h => h) (skipped (by rfl)) hS ?_
          simp only [Act.put, List.setIfInBounds_toArray, List.set_cons_zero, List.set_cons_succ]
          refine takeAt 19 52 (undef) rfl rfl (by kernel_rfl) (by kernel_rfl) (by kernel_rfl) (fun _ _ _ h => h) (skipped (by rfl)) hS ?_
          simp only [Act.put, List.setIfInBounds_toArray, List.set_cons_zero, List.set_cons_succ]
          refine takeAt 20 53 (undef) rfl rfl (by kernel_rfl) (by kernel_rfl) (by kernel_rfl) (fun _ _ _ h => h) (skipped (by rfl)) hS ?_
          simp only [Act.put, List.setIfInBounds_toArray, List.set_cons_zero, List.set_cons_succ]
          refine takeAt 21 54 (.bool true) rfl rfl (by kernel_rfl) (by kernel_rfl) (by kernel_rfl) (fun _ _ _ h => h) (yields (by rfl) (fun w => by kernel_rfl)) hS ?_
          simp only [Act.put, List.setIfInBounds_toArray, List.set_cons_zero, List.set_cons_succ]
          refine wpAnyH_done (by kernel_rfl) ?_ _
          have HBn := Lib.hid (HB2.out.trans (hS.mono HB2.out.size))
          clear HB2
          have HB2 := HBn
          clear HBn
          have HX1 := Lib.hid (HX1.out.below hS HX1.out.lt)
          have HX2 := Lib.hid (HX2.out.below hS HX2.out.lt)
          have HN1 := Lib.hid (HN1.out.below hS (Nat.le_refl _))
          have HN2 := Lib.hid (HN2.out.below hS (Nat.le_refl _))
          clear hS
          have hc1 := tree_cell HX1.out
          have hc2 := tree_cell HX2.out
          go_wp2_with fail
          with_reducible refine (HF.out _ (HT.out.call HB2.out)).mono ?_
          rintro e wf9 ⟨rfl, hb⟩
          have HZ := Lib.hid (thenB HB2.out hb HB2.out.size)
          clear hb
          go_wp2_with fail
          go_ret
          exact ⟨rfl, HZ.out⟩
set_option maxRecDepth 100000 in
set_option maxHeartbeats 32000000 in
theorem parseAlts_ls (K : PKit) (p q : ByteArray) (w : World) (hs : p.size ≤ 9223372036854775807) (hs' : q.size ≤ 9223372036854775807) (hw : Tabs w) (hp : 100 < p.size) (hq : q.size ≤ 100) : Calls Tryz.prog 6 #[.string p, .string q] w fun e w' => e = .returned (.bool true) ∧ Below w.heap.size w w' := by
  have HF := Lib.hid (fun w (h : Tabs w) => fixed_any K w h)
  have HP0 := Lib.hid (fun p w (h : Tabs w) => parse_g K p w h)
  have HK := Lib.hid K
  have HT := Lib.hid hw
  clear hw K
  go_enter Tryz.func6, Tryz.ntmps6
  go_wp2_with fail
  have hXs0 : (p.extract 0 100).size = 100 := by rw [ByteArray.size_extract]; omega
  generalize p.extract 0 100 = X at hXs0 ⊢
  have HX := Lib.hid (show X.size ≤ 100 by omega)
  clear hXs0 hp hs
  have HY := Lib.hid hq
  obtain ⟨Y, rfl⟩ : ∃ Y, Y = q := ⟨_, rfl⟩
  clear hq
  have HB0 := Lib.hid (Below.refl w.heap.size w)
  go_wp2_with fail
  with_reducible refine (HP0.out X _ (HT.out.call HB0.out)).mono ?_
  rintro e w1 ⟨B, cap, rfl, ht, hb⟩
  have HNn := Lib.hid ht.nodes
  have HBn := Lib.hid (thenB HB0.out hb HB0.out.size)

  have HW1 := Lib.hid ht.none
  clear ht hb
  have HQ1 := Lib.hid (parse_cases X (by have := HX.out; omega))
  have HE1 := Lib.hid (show ∃ R, R = parseZ X from ⟨_, rfl⟩)
  obtain ⟨R, hR⟩ := HE1.out
  rw [← hR] at HNn HW1 HQ1 ⊢
  have HR1 := Lib.hid hR
  clear hR HE1
  obtain ⟨t, er⟩ := R
  simp only [] at HNn HW1 HQ1 ⊢
  go_wp2_with (refine storeNewTr rfl _ _ rfl w1 B t.1 cap rfl rfl rfl ?_; intro v1 hx hN; refine stopP ?_)
  unfold StopP
  have HX1 := Lib.hid hx.out
  have HB1 := Lib.hid (thenB HBn.out hN.out HBn.out.size)
  have HN1 := Lib.hid (HNn.out.below hN.out (Nat.le_refl _))

  have hc1 := tree_cell HX1.out
  clear hx hN HBn HNn
  go_wp2_with fail
  with_reducible refine (HP0.out Y _ (HT.out.call HB1.out)).mono ?_
  rintro e w2 ⟨B2, cap2, rfl, ht, hb⟩
  have HNn := Lib.hid ht.nodes
  have HBn := Lib.hid (thenB HB1.out hb HB1.out.size)
  have HX1 := Lib.hid (HX1.out.below hb HX1.out.lt)
  have HN1 := Lib.hid (HN1.out.below hb (Nat.le_refl _))
  have HW2 := Lib.hid ht.none
  clear ht hb
  have HQ2 := Lib.hid (parse_cases Y (by have := HY.out; omega))
  have HE2 := Lib.hid (show ∃ R, R = parseZ Y from ⟨_, rfl⟩)
  obtain ⟨R, hR⟩ := HE2.out
  rw [← hR] at HNn HW2 HQ2 ⊢
  have HR2 := Lib.hid hR
  clear hR HE2
  obtain ⟨u, fr⟩ := R
  simp only [] at HNn HW2 HQ2 ⊢
  go_wp2_with (refine storeNewTr rfl _ _ rfl w2 B2 u.1 cap2 rfl rfl rfl ?_; intro v2 hx hN; refine stopP ?_)
  unfold StopP
  have HX2 := Lib.hid hx.out
  have HB2 := Lib.hid (thenB HBn.out hN.out HBn.out.size)
  have HN2 := Lib.hid (HNn.out.below hN.out (Nat.le_refl _))
  have HX1 := Lib.hid (HX1.out.below hN.out HX1.out.lt)
  have HN1 := Lib.hid (HN1.out.below hN.out (Nat.le_refl _))
  have hc2 := tree_cell HX2.out
  clear hx hN HBn HNn
  have hc1 := tree_cell HX1.out
  rcases HQ1.out with ⟨h0, he⟩ | ⟨rfl, hr, hd, hn⟩
  · have he0 : (er == 0) = false := by simp; omega
    clear HQ1 HQ2 he
    obtain ⟨n, L⟩ := t
    simp only [] at h0
    subst h0
    go_wp2_with fail
    refine wp_region_held_drew (S := fun u => Below v2.heap.size v2 u) (by kernel_rfl) (show _ from (Below.refl _ v2).drew) (fun hS => ?_)
    generalize World.drew v2 = u0 at hS ⊢
    refine takeAt 0 33 (.int .i64 er) rfl rfl (by kernel_rfl) (by kernel_rfl) (by kernel_rfl) (fun _ _ _ h => h) (yields (by rfl) (fun w => by kernel_rfl)) hS ?_
    simp only [Act.put, List.setIfInBounds_toArray, List.set_cons_zero, List.set_cons_succ]
    refine takeAt 1 34 (.bool true) rfl rfl (by kernel_rfl) (by kernel_rfl) (by kernel_rfl) (fun _ _ _ h => h) (neqE_y (m := er) (n := 0) true (by rw [he0]; rfl) rfl rfl rfl (by rfl)) hS ?_
    simp only [Act.put, List.setIfInBounds_toArray, List.set_cons_zero, List.set_cons_succ]
    refine takeAt 2 35 (.bool true) rfl rfl (by kernel_rfl) (by kernel_rfl) (by kernel_rfl) (fun _ _ _ h => h) (yields (by rfl) (fun w => by kernel_rfl)) hS ?_
    simp only [Act.put, List.setIfInBounds_toArray, List.set_cons_zero, List.set_cons_succ]
    refine takeAt 3 36 (undef) rfl rfl (by kernel_rfl) (by kernel_rfl) (by kernel_rfl) (fun _ _ _ h => h) (skipped (by rfl)) hS ?_
    simp only [Act.put, List.setIfInBounds_toArray, List.set_cons_zero, List.set_cons_succ]
    refine takeAt 4 37 (undef) rfl rfl (by kernel_rfl) (by kernel_rfl) (by kernel_rfl) (fun _ _ _ h => h) (skipped (by rfl)) hS ?_
    simp only [Act.put, List.setIfInBounds_toArray, List.set_cons_zero, List.set_cons_succ]
    refine takeAt 5 38 (.bool true) rfl rfl (by kernel_rfl) (by kernel_rfl) (by kernel_rfl) (fun _ _ _ h => h) (yields (by rfl) (fun w => by kernel_rfl)) hS ?_
    simp only [Act.put, List.setIfInBounds_toArray, List.set_cons_zero, List.set_cons_succ]
    refine takeAt 6 39 (.bool true) rfl rfl (by kernel_rfl) (by kernel_rfl) (by kernel_rfl) (fun _ _ _ h => h) (yields (by rfl) (fun w => by kernel_rfl)) hS ?_
    simp only [Act.put, List.setIfInBounds_toArray, List.set_cons_zero, List.set_cons_succ]
    refine takeAt 7 40 (undef) rfl rfl (by kernel_rfl) (by kernel_rfl) (by kernel_rfl) (fun _ _ _ h => h) (skipped (by rfl)) hS ?_
    simp only [Act.put, List.setIfInBounds_toArray, List.set_cons_zero, List.set_cons_succ]
    refine takeAt 8 41 (undef) rfl rfl (by kernel_rfl) (by kernel_rfl) (by kernel_rfl) (fun _ _ _ h => h) (skipped (by rfl)) hS ?_
    simp only [Act.put, List.setIfInBounds_toArray, List.set_cons_zero, List.set_cons_succ]
    refine takeAt 9 42 (undef) rfl rfl (by kernel_rfl) (by kernel_rfl) (by kernel_rfl) (fun _ _ _ h => h) (skipped (by rfl)) hS ?_
    simp only [Act.put, List.setIfInBounds_toArray, List.set_cons_zero, List.set_cons_succ]
    refine takeAt 10 43 (undef) rfl rfl (by kernel_rfl) (by kernel_rfl) (by kernel_rfl) (fun _ _ _ h => h) (skipped (by rfl)) hS ?_
    simp only [Act.put, List.setIfInBounds_toArray, List.set_cons_zero, List.set_cons_succ]
    refine takeAt 11 44 (undef) rfl rfl (by kernel_rfl) (by kernel_rfl) (by kernel_rfl) (fun _ _ _ h => h) (skipped (by rfl)) hS ?_
    simp only [Act.put, List.setIfInBounds_toArray, List.set_cons_zero, List.set_cons_succ]
    as_aux_lemma =>
      refine takeAt 12 45 (undef) rfl rfl (by kernel_rfl) (by kernel_rfl) (by kernel_rfl) (fun _ _ _ h => h) (skipped (by rfl)) hS ?_
      simp only [Act.put, List.setIfInBounds_toArray, List.set_cons_zero, List.set_cons_succ]
      refine takeAt 13 46 (.bool true) rfl rfl (by kernel_rfl) (by kernel_rfl) (by kernel_rfl) (fun _ _ _ h => h) (yields (by rfl) (fun w => by kernel_rfl)) hS ?_
      simp only [Act.put, List.setIfInBounds_toArray, List.set_cons_zero, List.set_cons_succ]
      refine takeAt 14 47 (.bool true) rfl rfl (by kernel_rfl) (by kernel_rfl) (by kernel_rfl) (fun _ _ _ h => h) (yields (by rfl) (fun w => by kernel_rfl)) hS ?_
      simp only [Act.put, List.setIfInBounds_toArray, List.set_cons_zero, List.set_cons_succ]
      refine takeAt 15 48 (undef) rfl rfl (by kernel_rfl) (by kernel_rfl) (by kernel_rfl) (fun _ _ _ h => h) (skipped (by rfl)) hS ?_
      simp only [Act.put, List.setIfInBounds_toArray, List.set_cons_zero, List.set_cons_succ]
      refine takeAt 16 49 (undef) rfl rfl (by kernel_rfl) (by kernel_rfl) (by kernel_rfl) (fun _ _ _ h => h) (skipped (by rfl)) hS ?_
      simp only [Act.put, List.setIfInBounds_toArray, List.set_cons_zero, List.set_cons_succ]
      refine takeAt 17 50 (undef) rfl rfl (by kernel_rfl) (by kernel_rfl) (by kernel_rfl) (fun _ _ _ h => h) (skipped (by rfl)) hS ?_
      simp only [Act.put, List.setIfInBounds_toArray, List.set_cons_zero, List.set_cons_succ]
      refine takeAt 18 51 (undef) rfl rfl (by kernel_rfl) (by kernel_rfl) (by kernel_rfl) (fun _ _ _ h => h) (skipped (by rfl)) hS ?_
      simp only [Act.put, List.setIfInBounds_toArray, List.set_cons_zero, List.set_cons_succ]
      refine takeAt 19 52 (undef) rfl rfl (by kernel_rfl) (by kernel_rfl) (by kernel_rfl) (fun _ _ _ h => h) (skipped (by rfl)) hS ?_
      simp only [Act.put, List.setIfInBounds_toArray, List.set_cons_zero, List.set_cons_succ]
      refine takeAt 20 53 (undef) rfl rfl (by kernel_rfl) (by kernel_rfl) (by kernel_rfl) (fun _ _ _ h => h) (skipped (by rfl)) hS ?_
      simp only [Act.put, List.setIfInBounds_toArray, List.set_cons_zero, List.set_cons_succ]
      refine takeAt 21 54 (.bool true) rfl rfl (by kernel_rfl) (by kernel_rfl) (by kernel_rfl) (fun _ _ _ h => h) (yields (by rfl) (fun w => by kernel_rfl)) hS ?_
      simp only [Act.put, List.setIfInBounds_toArray, List.set_cons_zero, List.set_cons_succ]
      refine wpAnyH_done (by kernel_rfl) ?_ _
      have HBn := Lib.hid (HB2.out.trans (hS.mono HB2.out.size))
      clear HB2
      have HB2 := HBn
      clear HBn
      have HX1 := Lib.hid (HX1.out.below hS HX1.out.lt)
      have HX2 := Lib.hid (HX2.out.below hS HX2.out.lt)
      have HN1 := Lib.hid (HN1.out.below hS (Nat.le_refl _))
      have HN2 := Lib.hid (HN2.out.below hS (Nat.le_refl _))
      clear hS
      have hc1 := tree_cell HX1.out
      have hc2 := tree_cell HX2.out
      go_wp2_with fail
      with_reducible refine (HF.out _ (HT.out.call HB2.out)).mono ?_
      rintro e wf9 ⟨rfl, hb⟩
      have HZ := Lib.hid (thenB HB2.out hb HB2.out.size)
      clear hb
      go_wp2_with fail
      go_ret
      exact ⟨rfl, HZ.out⟩
  · rcases HQ2.out with ⟨h0, hf⟩ | ⟨rfl, hr', hd', hn'⟩
    · have hf0 : (fr == 0) = false := by simp; omega
      clear HQ1 HQ2 hf
      go_wp2_with fail
      refine wp_region_held_drew (S := fun u => Below v2.heap.size v2 u) (by kernel_rfl) (show _ from (Below.refl _ v2).drew) (fun hS => ?_)
      generalize World.drew v2 = u0 at hS ⊢
      refine takeAt 0 33 (.int .i64 0) rfl rfl (by kernel_rfl) (by kernel_rfl) (by kernel_rfl) (fun _ _ _ h => h) (yields (by rfl) (fun w => by kernel_rfl)) hS ?_
      simp only [Act.put, List.setIfInBounds_toArray, List.set_cons_zero, List.set_cons_succ]
      refine takeAt 1 34 (.bool false) rfl rfl (by kernel_rfl) (by kernel_rfl) (by kernel_rfl) (fun _ _ _ h => h) (yields (by rfl) (fun w => by kernel_rfl)) hS ?_
      simp only [Act.put, List.setIfInBounds_toArray, List.set_cons_zero, List.set_cons_succ]
      refine takeAt 2 35 (.bool false) rfl rfl (by kernel_rfl) (by kernel_rfl) (by kernel_rfl) (fun _ _ _ h => h) (yields (by rfl) (fun w => by kernel_rfl)) hS ?_
      simp only [Act.put, List.setIfInBounds_toArray, List.set_cons_zero, List.set_cons_succ]
      refine takeAt 3 36 (.int .i64 fr) rfl rfl (by kernel_rfl) (by kernel_rfl) (by kernel_rfl) (fun _ _ _ h => h) (yields (by rfl) (fun w => by kernel_rfl)) hS ?_
      simp only [Act.put, List.setIfInBounds_toArray, List.set_cons_zero, List.set_cons_succ]
      refine takeAt 4 37 (.bool true) rfl rfl (by kernel_rfl) (by kernel_rfl) (by kernel_rfl) (fun _ _ _ h => h) (neqE_y (m := fr) (n := 0) true (by rw [hf0]; rfl) rfl rfl rfl (by rfl)) hS ?_
      simp only [Act.put, List.setIfInBounds_toArray, List.set_cons_zero, List.set_cons_succ]
      refine takeAt 5 38 (.bool true) rfl rfl (by kernel_rfl) (by kernel_rfl) (by kernel_rfl) (fun _ _ _ h => h) (yields (by rfl) (fun w => by kernel_rfl)) hS ?_
      simp only [Act.put, List.setIfInBounds_toArray, List.set_cons_zero, List.set_cons_succ]
      refine takeAt 6 39 (.bool true) rfl rfl (by kernel_rfl) (by kernel_rfl) (by kernel_rfl) (fun _ _ _ h => h) (yields (by rfl) (fun w => by kernel_rfl)) hS ?_
      simp only [Act.put, List.setIfInBounds_toArray, List.set_cons_zero, List.set_cons_succ]
      refine takeAt 7 40 (undef) rfl rfl (by kernel_rfl) (by kernel_rfl) (by kernel_rfl) (fun _ _ _ h => h) (skipped (by rfl)) hS ?_
      simp only [Act.put, List.setIfInBounds_toArray, List.set_cons_zero, List.set_cons_succ]
      refine takeAt 8 41 (undef) rfl rfl (by kernel_rfl) (by kernel_rfl) (by kernel_rfl) (fun _ _ _ h => h) (skipped (by rfl)) hS ?_
      simp only [Act.put, List.setIfInBounds_toArray, List.set_cons_zero, List.set_cons_succ]
      refine takeAt 9 42 (undef) rfl rfl (by kernel_rfl) (by kernel_rfl) (by kernel_rfl) (fun _ _ _ h => h) (skipped (by rfl)) hS ?_
      simp only [Act.put, List.setIfInBounds_toArray, List.set_cons_zero, List.set_cons_succ]
      refine takeAt 10 43 (undef) rfl rfl (by kernel_rfl) (by kernel_rfl) (by kernel_rfl) (fun _ _ _ h => h) (skipped (by rfl)) hS ?_
      simp only [Act.put, List.setIfInBounds_toArray, List.set_cons_zero, List.set_cons_succ]
      refine takeAt 11 44 (undef) rfl rfl (by kernel_rfl) (by kernel_rfl) (by kernel_rfl) (fun _ _ _ h => h) (skipped (by rfl)) hS ?_
      simp only [Act.put, List.setIfInBounds_toArray, List.set_cons_zero, List.set_cons_succ]
      as_aux_lemma =>
        refine takeAt 12 45 (undef) rfl rfl (by kernel_rfl) (by kernel_rfl) (by kernel_rfl) (fun _ _ _ h => h) (skipped (by rfl)) hS ?_
        simp only [Act.put, List.setIfInBounds_toArray, List.set_cons_zero, List.set_cons_succ]
        refine takeAt 13 46 (.bool true) rfl rfl (by kernel_rfl) (by kernel_rfl) (by kernel_rfl) (fun _ _ _ h => h) (yields (by rfl) (fun w => by kernel_rfl)) hS ?_
        simp only [Act.put, List.setIfInBounds_toArray, List.set_cons_zero, List.set_cons_succ]
        refine takeAt 14 47 (.bool true) rfl rfl (by kernel_rfl) (by kernel_rfl) (by kernel_rfl) (fun _ _ _ h => h) (yields (by rfl) (fun w => by kernel_rfl)) hS ?_
        simp only [Act.put, List.setIfInBounds_toArray, List.set_cons_zero, List.set_cons_succ]
        refine takeAt 15 48 (undef) rfl rfl (by kernel_rfl) (by kernel_rfl) (by kernel_rfl) (fun _ _ _ h => h) (skipped (by rfl)) hS ?_
        simp only [Act.put, List.setIfInBounds_toArray, List.set_cons_zero, List.set_cons_succ]
        refine takeAt 16 49 (undef) rfl rfl (by kernel_rfl) (by kernel_rfl) (by kernel_rfl) (fun _ _ _ h => h) (skipped (by rfl)) hS ?_
        simp only [Act.put, List.setIfInBounds_toArray, List.set_cons_zero, List.set_cons_succ]
        refine takeAt 17 50 (undef) rfl rfl (by kernel_rfl) (by kernel_rfl) (by kernel_rfl) (fun _ _ _ h => h) (skipped (by rfl)) hS ?_
        simp only [Act.put, List.setIfInBounds_toArray, List.set_cons_zero, List.set_cons_succ]
        refine takeAt 18 51 (undef) rfl rfl (by kernel_rfl) (by kernel_rfl) (by kernel_rfl) (fun _ _ _ h => h) (skipped (by rfl)) hS ?_
        simp only [Act.put, List.setIfInBounds_toArray, List.set_cons_zero, List.set_cons_succ]
        refine takeAt 19 52 (undef) rfl rfl (by kernel_rfl) (by kernel_rfl) (by kernel_rfl) (fun _ _ _ h => h) (skipped (by rfl)) hS ?_
        simp only [Act.put, List.setIfInBounds_toArray, List.set_cons_zero, List.set_cons_succ]
        refine takeAt 20 53 (undef) rfl rfl (by kernel_rfl) (by kernel_rfl) (by kernel_rfl) (fun _ _ _ h => h) (skipped (by rfl)) hS ?_
        simp only [Act.put, List.setIfInBounds_toArray, List.set_cons_zero, List.set_cons_succ]
        refine takeAt 21 54 (.bool true) rfl rfl (by kernel_rfl) (by kernel_rfl) (by kernel_rfl) (fun _ _ _ h => h) (yields (by rfl) (fun w => by kernel_rfl)) hS ?_
        simp only [Act.put, List.setIfInBounds_toArray, List.set_cons_zero, List.set_cons_succ]
        refine wpAnyH_done (by kernel_rfl) ?_ _
        have HBn := Lib.hid (HB2.out.trans (hS.mono HB2.out.size))
        clear HB2
        have HB2 := HBn
        clear HBn
        have HX1 := Lib.hid (HX1.out.below hS HX1.out.lt)
        have HX2 := Lib.hid (HX2.out.below hS HX2.out.lt)
        have HN1 := Lib.hid (HN1.out.below hS (Nat.le_refl _))
        have HN2 := Lib.hid (HN2.out.below hS (Nat.le_refl _))
        clear hS
        have hc1 := tree_cell HX1.out
        have hc2 := tree_cell HX2.out
        go_wp2_with fail
        with_reducible refine (HF.out _ (HT.out.call HB2.out)).mono ?_
        rintro e wf9 ⟨rfl, hb⟩
        have HZ := Lib.hid (thenB HB2.out hb HB2.out.size)
        clear hb
        go_wp2_with fail
        go_ret
        exact ⟨rfl, HZ.out⟩
    · clear HQ1 HQ2
      have hq1 : cntG t.2 t.1 ≤ 500 := Nat.le_trans (Ast.cntG_le _ _) hn
      have hq2 : cntG u.2 u.1 ≤ 500 := Nat.le_trans (Ast.cntG_le _ _) hn'
      by_cases hg : cntG t.2 t.1 + cntG u.2 u.1 = 0
      · have hg1 : cntG t.2 t.1 = 0 := by omega
        have hg2 : cntG u.2 u.1 = 0 := by omega
        obtain ⟨d1, hd1⟩ : ∃ d, d = deepZ t.2 t.1 := ⟨_, rfl⟩
        obtain ⟨d2, hd2⟩ : ∃ d, d = deepZ u.2 u.1 := ⟨_, rfl⟩
        by_cases hdm : 40 ≤ max d1 d2
        · clear hg hq1 hq2 hr hr' hd hd'
          go_wp2_with fail
          refine wp_region_held_drew (S := fun u => Below v2.heap.size v2 u) (by kernel_rfl) (show _ from (Below.refl _ v2).drew) (fun hS => ?_)
          generalize World.drew v2 = u0 at hS ⊢
          refine takeAt 0 33 (.int .i64 0) rfl rfl (by kernel_rfl) (by kernel_rfl) (by kernel_rfl) (fun _ _ _ h => h) (yields (by rfl) (fun w => by kernel_rfl)) hS ?_
          simp only [Act.put, List.setIfInBounds_toArray, List.set_cons_zero, List.set_cons_succ]
          refine takeAt 1 34 (.bool false) rfl rfl (by kernel_rfl) (by kernel_rfl) (by kernel_rfl) (fun _ _ _ h => h) (yields (by rfl) (fun w => by kernel_rfl)) hS ?_
          simp only [Act.put, List.setIfInBounds_toArray, List.set_cons_zero, List.set_cons_succ]
          refine takeAt 2 35 (.bool false) rfl rfl (by kernel_rfl) (by kernel_rfl) (by kernel_rfl) (fun _ _ _ h => h) (yields (by rfl) (fun w => by kernel_rfl)) hS ?_
          simp only [Act.put, List.setIfInBounds_toArray, List.set_cons_zero, List.set_cons_succ]
          refine takeAt 3 36 (.int .i64 0) rfl rfl (by kernel_rfl) (by kernel_rfl) (by kernel_rfl) (fun _ _ _ h => h) (yields (by rfl) (fun w => by kernel_rfl)) hS ?_
          simp only [Act.put, List.setIfInBounds_toArray, List.set_cons_zero, List.set_cons_succ]
          refine takeAt 4 37 (.bool false) rfl rfl (by kernel_rfl) (by kernel_rfl) (by kernel_rfl) (fun _ _ _ h => h) (yields (by rfl) (fun w => by kernel_rfl)) hS ?_
          simp only [Act.put, List.setIfInBounds_toArray, List.set_cons_zero, List.set_cons_succ]
          refine takeAt 5 38 (.bool false) rfl rfl (by kernel_rfl) (by kernel_rfl) (by kernel_rfl) (fun _ _ _ h => h) (yields (by rfl) (fun w => by kernel_rfl)) hS ?_
          simp only [Act.put, List.setIfInBounds_toArray, List.set_cons_zero, List.set_cons_succ]
          refine takeAt 6 39 (.bool false) rfl rfl (by kernel_rfl) (by kernel_rfl) (by kernel_rfl) (fun _ _ _ h => h) (yields (by rfl) (fun w => by kernel_rfl)) hS ?_
          simp only [Act.put, List.setIfInBounds_toArray, List.set_cons_zero, List.set_cons_succ]
          refine takeAt 7 40 (.agg (trC B t.1 cap)) rfl rfl (by kernel_rfl) (by kernel_rfl) (by kernel_rfl) (fun _ _ _ h => h) (loadT7 (w1.heap.size) B t.1 cap (fun _ h => HX1.out.below h HX1.out.lt) rfl rfl (by rfl)) hS ?_
          simp only [Act.put, List.setIfInBounds_toArray, List.set_cons_zero, List.set_cons_succ]
          refine takeAt 9 42 (.agg (trC B2 u.1 cap2)) rfl rfl (by kernel_rfl) (by kernel_rfl) (by kernel_rfl) (fun _ _ _ h => h) (loadT7 (w2.heap.size) B2 u.1 cap2 (fun _ h => HX2.out.below h HX2.out.lt) rfl rfl (by rfl)) hS ?_
          simp only [Act.put, List.setIfInBounds_toArray, List.set_cons_zero, List.set_cons_succ]
          have hc8 := Ast.groups_any B t.1 cap t.2 _ (by omega) (HN1.out.below hS (Nat.le_refl _))
          rw [hg1] at hc8
          refine callAt 8 41 rfl rfl (by kernel_rfl) (by rfl) (by kernel_rfl) (hc8) ?_
          rintro e u' ⟨rfl, hb⟩
          have hS := thenB hS hb hS.size
          clear hb
          refine ⟨_, rfl, hS, ?_⟩
          simp only [Act.put, List.setIfInBounds_toArray, List.set_cons_zero, List.set_cons_succ]
          clear hc8
          have hc10 := Ast.groups_any B2 u.1 cap2 u.2 _ (by omega) (HN2.out.below hS (Nat.le_refl _))
          rw [hg2] at hc10
          refine callAt 10 43 rfl rfl (by kernel_rfl) (by rfl) (by kernel_rfl) (hc10) ?_
          rintro e u' ⟨rfl, hb⟩
          have hS := thenB hS hb hS.size
          clear hb
          refine ⟨_, rfl, hS, ?_⟩
          simp only [Act.put, List.setIfInBounds_toArray, List.set_cons_zero, List.set_cons_succ]
          refine takeAt 11 44 (.int .i64 0) rfl rfl (by kernel_rfl) (by kernel_rfl) (by kernel_rfl) (fun _ _ _ h => h) (yields (by rfl) (fun w => by kernel_rfl)) hS ?_
          simp only [Act.put, List.setIfInBounds_toArray, List.set_cons_zero, List.set_cons_succ]
          refine takeAt 12 45 (.bool false) rfl rfl (by kernel_rfl) (by kernel_rfl) (by kernel_rfl) (fun _ _ _ h => h) (yields (by rfl) (fun w => by kernel_rfl)) hS ?_
          simp only [Act.put, List.setIfInBounds_toArray, List.set_cons_zero, List.set_cons_succ]
          refine takeAt 13 46 (.bool false) rfl rfl (by kernel_rfl) (by kernel_rfl) (by kernel_rfl) (fun _ _ _ h => h) (yields (by rfl) (fun w => by kernel_rfl)) hS ?_
          simp only [Act.put, List.setIfInBounds_toArray, List.set_cons_zero, List.set_cons_succ]
          as_aux_lemma =>
            refine takeAt 14 47 (.bool false) rfl rfl (by kernel_rfl) (by kernel_rfl) (by kernel_rfl) (fun _ _ _ h => h) (yields (by rfl) (fun w => by kernel_rfl)) hS ?_
            simp only [Act.put, List.setIfInBounds_toArray, List.set_cons_zero, List.set_cons_succ]
            refine takeAt 15 48 (.agg (trC B t.1 cap)) rfl rfl (by kernel_rfl) (by kernel_rfl) (by kernel_rfl) (fun _ _ _ h => h) (loadT7 (w1.heap.size) B t.1 cap (fun _ h => HX1.out.below h HX1.out.lt) rfl rfl (by rfl)) hS ?_
            simp only [Act.put, List.setIfInBounds_toArray, List.set_cons_zero, List.set_cons_succ]
            refine takeAt 17 50 (.agg (trC B2 u.1 cap2)) rfl rfl (by kernel_rfl) (by kernel_rfl) (by kernel_rfl) (fun _ _ _ h => h) (loadT7 (w2.heap.size) B2 u.1 cap2 (fun _ h => HX2.out.below h HX2.out.lt) rfl rfl (by rfl)) hS ?_
            simp only [Act.put, List.setIfInBounds_toArray, List.set_cons_zero, List.set_cons_succ]
            clear hc10
            have hc16 := Ast.deep_any B t.1 cap t.2 _ (by omega) (HN1.out.below hS (Nat.le_refl _))
            rw [← hd1] at hc16
            refine callAt 16 49 rfl rfl (by kernel_rfl) (by rfl) (by kernel_rfl) (hc16) ?_
            rintro e u' ⟨rfl, hb⟩
            have hS := thenB hS hb hS.size
            clear hb
            refine ⟨_, rfl, hS, ?_⟩
            simp only [Act.put, List.setIfInBounds_toArray, List.set_cons_zero, List.set_cons_succ]
            clear hc16
            have hc18 := Ast.deep_any B2 u.1 cap2 u.2 _ (by omega) (HN2.out.below hS (Nat.le_refl _))
            rw [← hd2] at hc18
            refine callAt 18 51 rfl rfl (by kernel_rfl) (by rfl) (by kernel_rfl) (hc18) ?_
            rintro e u' ⟨rfl, hb⟩
            have hS := thenB hS hb hS.size
            clear hb
            refine ⟨_, rfl, hS, ?_⟩
            simp only [Act.put, List.setIfInBounds_toArray, List.set_cons_zero, List.set_cons_succ]
            refine takeAt 19 52 (.int .i64 ((max d1 d2 : Nat) : Int)) rfl rfl (by kernel_rfl) (by kernel_rfl) (by kernel_rfl) (fun _ _ _ h => h) (maxI_y (m := (d1 : Nat)) (n := (d2 : Nat)) (by omega) rfl rfl rfl (by rfl)) hS ?_
            simp only [Act.put, List.setIfInBounds_toArray, List.set_cons_zero, List.set_cons_succ]
            refine takeAt 20 53 (.bool true) rfl rfl (by kernel_rfl) (by kernel_rfl) (by kernel_rfl) (fun _ _ _ h => h) (geqI_y (m := ((max d1 d2 : Nat) : Int)) (n := 40) true (decide_eq_true (by omega)) rfl rfl rfl (by rfl)) hS ?_
            simp only [Act.put, List.setIfInBounds_toArray, List.set_cons_zero, List.set_cons_succ]
            refine takeAt 21 54 (.bool true) rfl rfl (by kernel_rfl) (by kernel_rfl) (by kernel_rfl) (fun _ _ _ h => h) (yields (by rfl) (fun w => by kernel_rfl)) hS ?_
            simp only [Act.put, List.setIfInBounds_toArray, List.set_cons_zero, List.set_cons_succ]
            refine wpAnyH_done (by kernel_rfl) ?_ _
            have HBn := Lib.hid (HB2.out.trans (hS.mono HB2.out.size))
            clear HB2
            have HB2 := HBn
            clear HBn
            have HX1 := Lib.hid (HX1.out.below hS HX1.out.lt)
            have HX2 := Lib.hid (HX2.out.below hS HX2.out.lt)
            have HN1 := Lib.hid (HN1.out.below hS (Nat.le_refl _))
            have HN2 := Lib.hid (HN2.out.below hS (Nat.le_refl _))
            clear hS
            have hc1 := tree_cell HX1.out
            have hc2 := tree_cell HX2.out
            clear hc18
            go_wp2_with fail
            with_reducible refine (HF.out _ (HT.out.call HB2.out)).mono ?_
            rintro e wf9 ⟨rfl, hb⟩
            have HZ := Lib.hid (thenB HB2.out hb HB2.out.size)
            clear hb
            go_wp2_with fail
            go_ret
            exact ⟨rfl, HZ.out⟩
        · have hdm1 : d1 < 40 := by omega
          have hdm2 : d2 < 40 := by omega
          have hz0 : ¬ 3 + X.size > 9223372036854775807 := by have := HX.out; have := HY.out; omega
          have hz1 : ¬ 3 + X.size + 5 > 9223372036854775807 := by have := HX.out; have := HY.out; omega
          have hz2 : ¬ 3 + X.size + 5 + Y.size > 9223372036854775807 := by have := HX.out; have := HY.out; omega
          have hz3 : ¬ 3 + X.size + 5 + Y.size + 1 > 9223372036854775807 := by have := HX.out; have := HY.out; omega
          have hz4 : ¬ 3 + X.size + 4 > 9223372036854775807 := by have := HX.out; have := HY.out; omega
          have hz5 : ¬ 3 + X.size + 4 + Y.size > 9223372036854775807 := by have := HX.out; have := HY.out; omega
          have hz6 : ¬ 3 + X.size + 4 + Y.size + 1 > 9223372036854775807 := by have := HX.out; have := HY.out; omega
          go_wp2_with fail
          refine wp_region_held_drew (S := fun u => Below v2.heap.size v2 u) (by kernel_rfl) (show _ from (Below.refl _ v2).drew) (fun hS => ?_)
          generalize World.drew v2 = u0 at hS ⊢
          refine takeAt 0 33 (.int .i64 0) rfl rfl (by kernel_rfl) (by kernel_rfl) (by kernel_rfl) (fun _ _ _ h => h) (yields (by rfl) (fun w => by kernel_rfl)) hS ?_
          simp only [Act.put, List.setIfInBounds_toArray, List.set_cons_zero, List.set_cons_succ]
          refine takeAt 1 34 (.bool false) rfl rfl (by kernel_rfl) (by kernel_rfl) (by kernel_rfl) (fun _ _ _ h => h) (yields (by rfl) (fun w => by kernel_rfl)) hS ?_
          simp only [Act.put, List.setIfInBounds_toArray, List.set_cons_zero, List.set_cons_succ]
          refine takeAt 2 35 (.bool false) rfl rfl (by kernel_rfl) (by kernel_rfl) (by kernel_rfl) (fun _ _ _ h => h) (yields (by rfl) (fun w => by kernel_rfl)) hS ?_
          simp only [Act.put, List.setIfInBounds_toArray, List.set_cons_zero, List.set_cons_succ]
          refine takeAt 3 36 (.int .i64 0) rfl rfl (by kernel_rfl) (by kernel_rfl) (by kernel_rfl) (fun _ _ _ h => h) (yields (by rfl) (fun w => by kernel_rfl)) hS ?_
          simp only [Act.put, List.setIfInBounds_toArray, List.set_cons_zero, List.set_cons_succ]
          refine takeAt 4 37 (.bool false) rfl rfl (by kernel_rfl) (by kernel_rfl) (by kernel_rfl) (fun _ _ _ h => h) (yields (by rfl) (fun w => by kernel_rfl)) hS ?_
          simp only [Act.put, List.setIfInBounds_toArray, List.set_cons_zero, List.set_cons_succ]
          refine takeAt 5 38 (.bool false) rfl rfl (by kernel_rfl) (by kernel_rfl) (by kernel_rfl) (fun _ _ _ h => h) (yields (by rfl) (fun w => by kernel_rfl)) hS ?_
          simp only [Act.put, List.setIfInBounds_toArray, List.set_cons_zero, List.set_cons_succ]
          refine takeAt 6 39 (.bool false) rfl rfl (by kernel_rfl) (by kernel_rfl) (by kernel_rfl) (fun _ _ _ h => h) (yields (by rfl) (fun w => by kernel_rfl)) hS ?_
          simp only [Act.put, List.setIfInBounds_toArray, List.set_cons_zero, List.set_cons_succ]
          refine takeAt 7 40 (.agg (trC B t.1 cap)) rfl rfl (by kernel_rfl) (by kernel_rfl) (by kernel_rfl) (fun _ _ _ h => h) (loadT7 (w1.heap.size) B t.1 cap (fun _ h => HX1.out.below h HX1.out.lt) rfl rfl (by rfl)) hS ?_
          simp only [Act.put, List.setIfInBounds_toArray, List.set_cons_zero, List.set_cons_succ]
          refine takeAt 9 42 (.agg (trC B2 u.1 cap2)) rfl rfl (by kernel_rfl) (by kernel_rfl) (by kernel_rfl) (fun _ _ _ h => h) (loadT7 (w2.heap.size) B2 u.1 cap2 (fun _ h => HX2.out.below h HX2.out.lt) rfl rfl (by rfl)) hS ?_
          simp only [Act.put, List.setIfInBounds_toArray, List.set_cons_zero, List.set_cons_succ]
          have hc8 := Ast.groups_any B t.1 cap t.2 _ (by omega) (HN1.out.below hS (Nat.le_refl _))
          rw [hg1] at hc8
          refine callAt 8 41 rfl rfl (by kernel_rfl) (by rfl) (by kernel_rfl) (hc8) ?_
          rintro e u' ⟨rfl, hb⟩
          have hS := thenB hS hb hS.size
          clear hb
          refine ⟨_, rfl, hS, ?_⟩
          simp only [Act.put, List.setIfInBounds_toArray, List.set_cons_zero, List.set_cons_succ]
          clear hc8
          have hc10 := Ast.groups_any B2 u.1 cap2 u.2 _ (by omega) (HN2.out.below hS (Nat.le_refl _))
          rw [hg2] at hc10
          refine callAt 10 43 rfl rfl (by kernel_rfl) (by rfl) (by kernel_rfl) (hc10) ?_
          rintro e u' ⟨rfl, hb⟩
          have hS := thenB hS hb hS.size
          clear hb
          refine ⟨_, rfl, hS, ?_⟩
          simp only [Act.put, List.setIfInBounds_toArray, List.set_cons_zero, List.set_cons_succ]
          refine takeAt 11 44 (.int .i64 0) rfl rfl (by kernel_rfl) (by kernel_rfl) (by kernel_rfl) (fun _ _ _ h => h) (yields (by rfl) (fun w => by kernel_rfl)) hS ?_
          simp only [Act.put, List.setIfInBounds_toArray, List.set_cons_zero, List.set_cons_succ]
          refine takeAt 12 45 (.bool false) rfl rfl (by kernel_rfl) (by kernel_rfl) (by kernel_rfl) (fun _ _ _ h => h) (yields (by rfl) (fun w => by kernel_rfl)) hS ?_
          simp only [Act.put, List.setIfInBounds_toArray, List.set_cons_zero, List.set_cons_succ]
          refine takeAt 13 46 (.bool false) rfl rfl (by kernel_rfl) (by kernel_rfl) (by kernel_rfl) (fun _ _ _ h => h) (yields (by rfl) (fun w => by kernel_rfl)) hS ?_
          simp only [Act.put, List.setIfInBounds_toArray, List.set_cons_zero, List.set_cons_succ]
          as_aux_lemma =>
            refine takeAt 14 47 (.bool false) rfl rfl (by kernel_rfl) (by kernel_rfl) (by kernel_rfl) (fun _ _ _ h => h) (yields (by rfl) (fun w => by kernel_rfl)) hS ?_
            simp only [Act.put, List.setIfInBounds_toArray, List.set_cons_zero, List.set_cons_succ]
            refine takeAt 15 48 (.agg (trC B t.1 cap)) rfl rfl (by kernel_rfl) (by kernel_rfl) (by kernel_rfl) (fun _ _ _ h => h) (loadT7 (w1.heap.size) B t.1 cap (fun _ h => HX1.out.below h HX1.out.lt) rfl rfl (by rfl)) hS ?_
            simp only [Act.put, List.setIfInBounds_toArray, List.set_cons_zero, List.set_cons_succ]
            refine takeAt 17 50 (.agg (trC B2 u.1 cap2)) rfl rfl (by kernel_rfl) (by kernel_rfl) (by kernel_rfl) (fun _ _ _ h => h) (loadT7 (w2.heap.size) B2 u.1 cap2 (fun _ h => HX2.out.below h HX2.out.lt) rfl rfl (by rfl)) hS ?_
            simp only [Act.put, List.setIfInBounds_toArray, List.set_cons_zero, List.set_cons_succ]
            clear hc10
            have hc16 := Ast.deep_any B t.1 cap t.2 _ (by omega) (HN1.out.below hS (Nat.le_refl _))
            rw [← hd1] at hc16
            refine callAt 16 49 rfl rfl (by kernel_rfl) (by rfl) (by kernel_rfl) (hc16) ?_
            rintro e u' ⟨rfl, hb⟩
            have hS := thenB hS hb hS.size
            clear hb
            refine ⟨_, rfl, hS, ?_⟩
            simp only [Act.put, List.setIfInBounds_toArray, List.set_cons_zero, List.set_cons_succ]
            clear hc16
            have hc18 := Ast.deep_any B2 u.1 cap2 u.2 _ (by omega) (HN2.out.below hS (Nat.le_refl _))
            rw [← hd2] at hc18
            refine callAt 18 51 rfl rfl (by kernel_rfl) (by rfl) (by kernel_rfl) (hc18) ?_
            rintro e u' ⟨rfl, hb⟩
            have hS := thenB hS hb hS.size
            clear hb
            refine ⟨_, rfl, hS, ?_⟩
            simp only [Act.put, List.setIfInBounds_toArray, List.set_cons_zero, List.set_cons_succ]
            refine takeAt 19 52 (.int .i64 ((max d1 d2 : Nat) : Int)) rfl rfl (by kernel_rfl) (by kernel_rfl) (by kernel_rfl) (fun _ _ _ h => h) (maxI_y (m := (d1 : Nat)) (n := (d2 : Nat)) (by omega) rfl rfl rfl (by rfl)) hS ?_
            simp only [Act.put, List.setIfInBounds_toArray, List.set_cons_zero, List.set_cons_succ]
            refine takeAt 20 53 (.bool false) rfl rfl (by kernel_rfl) (by kernel_rfl) (by kernel_rfl) (fun _ _ _ h => h) (geqI_y (m := ((max d1 d2 : Nat) : Int)) (n := 40) false (decide_eq_false (by omega)) rfl rfl rfl (by rfl)) hS ?_
            simp only [Act.put, List.setIfInBounds_toArray, List.set_cons_zero, List.set_cons_succ]
            refine takeAt 21 54 (.bool false) rfl rfl (by kernel_rfl) (by kernel_rfl) (by kernel_rfl) (fun _ _ _ h => h) (yields (by rfl) (fun w => by kernel_rfl)) hS ?_
            simp only [Act.put, List.setIfInBounds_toArray, List.set_cons_zero, List.set_cons_succ]
            refine wpAnyH_done (by kernel_rfl) ?_ _
            have HBn := Lib.hid (HB2.out.trans (hS.mono HB2.out.size))
            clear HB2
            have HB2 := HBn
            clear HBn
            have HX1 := Lib.hid (HX1.out.below hS HX1.out.lt)
            have HX2 := Lib.hid (HX2.out.below hS HX2.out.lt)
            have HN1 := Lib.hid (HN1.out.below hS (Nat.le_refl _))
            have HN2 := Lib.hid (HN2.out.below hS (Nat.le_refl _))
            clear hS
            have hc1 := tree_cell HX1.out
            have hc2 := tree_cell HX2.out
            clear hc18
            go_wp2_with fail
            with_reducible refine (parse_at HK.out _ (t.1 + u.1 + 1) 0 (joinT t u 9).2 (alts_z_at HR1.out HR2.out HX.out HY.out (by unfold cntT; exact hg) (by omega) (by omega)) _ (HT.out.call HB2.out)).mono ?_
            rintro e w3 ⟨B3, cap3, rfl, ht, hb⟩
            have HNn := Lib.hid ht.nodes
            have HBn := Lib.hid (thenB HB2.out hb HB2.out.size)
            have HX1 := Lib.hid (HX1.out.below hb HX1.out.lt)
            have HX2 := Lib.hid (HX2.out.below hb HX2.out.lt)
            have HN1 := Lib.hid (HN1.out.below hb (Nat.le_refl _))
            have HN2 := Lib.hid (HN2.out.below hb (Nat.le_refl _))
            clear ht hb
            simp only [] at HNn ⊢
            go_wp2_with (refine storeNewTr rfl _ _ rfl w3 B3 (t.1 + u.1 + 1) cap3 rfl rfl rfl ?_; intro v3 hx hN; refine stopP ?_)
            unfold StopP
            have HX3 := Lib.hid hx.out
            have HB3 := Lib.hid (thenB HBn.out hN.out HBn.out.size)
            have HN3 := Lib.hid (HNn.out.below hN.out (Nat.le_refl _))
            have HX1 := Lib.hid (HX1.out.below hN.out HX1.out.lt)
            have HX2 := Lib.hid (HX2.out.below hN.out HX2.out.lt)
            have HN1 := Lib.hid (HN1.out.below hN.out (Nat.le_refl _))
            have HN2 := Lib.hid (HN2.out.below hN.out (Nat.le_refl _))
            have hc3 := tree_cell HX3.out
            clear hx hN HBn HNn
            go_wp2_with fail
            with_reducible refine (parse_at HK.out _ (t.1 + u.1 + 1) 0 (joinT t u 8).2 (cats_z_at HR1.out HR2.out HX.out HY.out (by unfold cntT; exact hg) (by omega) (by omega)) _ (HT.out.call HB3.out)).mono ?_
            rintro e w4 ⟨B4, cap4, rfl, ht, hb⟩
            have HNn := Lib.hid ht.nodes
            have HBn := Lib.hid (thenB HB3.out hb HB3.out.size)
            have HX1 := Lib.hid (HX1.out.below hb HX1.out.lt)
            have HX2 := Lib.hid (HX2.out.below hb HX2.out.lt)
            have HX3 := Lib.hid (HX3.out.below hb HX3.out.lt)
            have HN1 := Lib.hid (HN1.out.below hb (Nat.le_refl _))
            have HN2 := Lib.hid (HN2.out.below hb (Nat.le_refl _))
            have HN3 := Lib.hid (HN3.out.below hb (Nat.le_refl _))
            clear ht hb
            simp only [] at HNn ⊢
            go_wp2_with (refine storeNewTr rfl _ _ rfl w4 B4 (t.1 + u.1 + 1) cap4 rfl rfl rfl ?_; intro v4 hx hN; refine stopP ?_)
            unfold StopP
            have HX4 := Lib.hid hx.out
            have HB4 := Lib.hid (thenB HBn.out hN.out HBn.out.size)
            have HN4 := Lib.hid (HNn.out.below hN.out (Nat.le_refl _))
            have HX1 := Lib.hid (HX1.out.below hN.out HX1.out.lt)
            have HX2 := Lib.hid (HX2.out.below hN.out HX2.out.lt)
            have HX3 := Lib.hid (HX3.out.below hN.out HX3.out.lt)
            have HN1 := Lib.hid (HN1.out.below hN.out (Nat.le_refl _))
            have HN2 := Lib.hid (HN2.out.below hN.out (Nat.le_refl _))
            have HN3 := Lib.hid (HN3.out.below hN.out (Nat.le_refl _))
            have hc4 := tree_cell HX4.out
            clear hx hN HBn HNn
            go_wp2_with fail
            refine wp_region_held_drew (S := fun u => Below v4.heap.size v4 u) (by kernel_rfl) (show _ from (Below.refl _ v4).drew) (fun hS => ?_)
            generalize World.drew v4 = u0 at hS ⊢
            refine takeAt 0 86 (.int .i64 0) rfl rfl (by kernel_rfl) (by kernel_rfl) (by kernel_rfl) (fun _ _ _ h => h) (yields (by rfl) (fun w => by kernel_rfl)) hS ?_
            simp only [Act.put, List.setIfInBounds_toArray, List.set_cons_zero, List.set_cons_succ]
            refine takeAt 1 87 (.bool true) rfl rfl (by kernel_rfl) (by kernel_rfl) (by kernel_rfl) (fun _ _ _ h => h) (yields (by rfl) (fun w => by kernel_rfl)) hS ?_
            simp only [Act.put, List.setIfInBounds_toArray, List.set_cons_zero, List.set_cons_succ]
            refine takeAt 2 88 (.bool true) rfl rfl (by kernel_rfl) (by kernel_rfl) (by kernel_rfl) (fun _ _ _ h => h) (yields (by rfl) (fun w => by kernel_rfl)) hS ?_
            simp only [Act.put, List.setIfInBounds_toArray, List.set_cons_zero, List.set_cons_succ]
            refine takeAt 3 89 (.int .i64 0) rfl rfl (by kernel_rfl) (by kernel_rfl) (by kernel_rfl) (fun _ _ _ h => h) (yields (by rfl) (fun w => by kernel_rfl)) hS ?_
            simp only [Act.put, List.setIfInBounds_toArray, List.set_cons_zero, List.set_cons_succ]
            refine takeAt 4 90 (.bool true) rfl rfl (by kernel_rfl) (by kernel_rfl) (by kernel_rfl) (fun _ _ _ h => h) (yields (by rfl) (fun w => by kernel_rfl)) hS ?_
            simp only [Act.put, List.setIfInBounds_toArray, List.set_cons_zero, List.set_cons_succ]
            refine takeAt 5 91 (.bool true) rfl rfl (by kernel_rfl) (by kernel_rfl) (by kernel_rfl) (fun _ _ _ h => h) (yields (by rfl) (fun w => by kernel_rfl)) hS ?_
            simp only [Act.put, List.setIfInBounds_toArray, List.set_cons_zero, List.set_cons_succ]
            refine takeAt 6 92 (.bool true) rfl rfl (by kernel_rfl) (by kernel_rfl) (by kernel_rfl) (fun _ _ _ h => h) (yields (by rfl) (fun w => by kernel_rfl)) hS ?_
            simp only [Act.put, List.setIfInBounds_toArray, List.set_cons_zero, List.set_cons_succ]
            refine takeAt 7 93 (.agg (trC B3 (t.1 + u.1 + 1) cap3)) rfl rfl (by kernel_rfl) (by kernel_rfl) (by kernel_rfl) (fun _ _ _ h => h) (loadT7 (w3.heap.size) B3 (t.1 + u.1 + 1) cap3 (fun _ h => HX3.out.below h HX3.out.lt) rfl rfl (by rfl)) hS ?_
            simp only [Act.put, List.setIfInBounds_toArray, List.set_cons_zero, List.set_cons_succ]
            refine takeAt 8 94 (.agg (trC B t.1 cap)) rfl rfl (by kernel_rfl) (by kernel_rfl) (by kernel_rfl) (fun _ _ _ h => h) (loadT7 (w1.heap.size) B t.1 cap (fun _ h => HX1.out.below h HX1.out.lt) rfl rfl (by rfl)) hS ?_
            simp only [Act.put, List.setIfInBounds_toArray, List.set_cons_zero, List.set_cons_succ]
            refine takeAt 9 95 (.agg (trC B2 u.1 cap2)) rfl rfl (by kernel_rfl) (by kernel_rfl) (by kernel_rfl) (fun _ _ _ h => h) (loadT7 (w2.heap.size) B2 u.1 cap2 (fun _ h => HX2.out.below h HX2.out.lt) rfl rfl (by rfl)) hS ?_
            simp only [Act.put, List.setIfInBounds_toArray, List.set_cons_zero, List.set_cons_succ]
            refine callAt 10 96 rfl rfl (by kernel_rfl) (by rfl) (by kernel_rfl) (Ast.join_any B t.1 cap t.2 B2 u.1 cap2 u.2 9 _ (by omega) (by omega) HW1.out HW2.out (HN1.out.below hS (Nat.le_refl _)) (HN2.out.below hS (Nat.le_refl _))) ?_
            intro e u' hres
            obtain ⟨A9, capA9, rfl, ht, hb⟩ := tree_res hres (Nat.le_add_left 1 _)
            have hS := thenB hS hb hS.size
            have hnA9 := ht.nodes
            clear hres ht hb
            refine ⟨_, rfl, hS, ?_⟩
            simp only [Act.put, List.setIfInBounds_toArray, List.set_cons_zero, List.set_cons_succ]
            have hcA9 := Ast.same_any B3 A9 (t.1 + u.1 + 1) (t.1 + u.1 + 1) cap3 capA9 (joinL t.2 t.1 u.2 u.1 9) (joinL t.2 t.1 u.2 u.1 9) _ (by omega) (by omega) (HN3.out.below hS (Nat.le_refl _)) hnA9
            rw [same_self] at hcA9
            refine callAt 11 97 rfl rfl (by kernel_rfl) (by rfl) (by kernel_rfl) (hcA9) ?_
            rintro e u' ⟨rfl, hb⟩
            have hS := thenB hS hb hS.size
            clear hb
            refine ⟨_, rfl, hS, ?_⟩
            simp only [Act.put, List.setIfInBounds_toArray, List.set_cons_zero, List.set_cons_succ]
            refine takeAt 12 98 (.bool true) rfl rfl (by kernel_rfl) (by kernel_rfl) (by kernel_rfl) (fun _ _ _ h => h) (yields (by rfl) (fun w => by kernel_rfl)) hS ?_
            simp only [Act.put, List.setIfInBounds_toArray, List.set_cons_zero, List.set_cons_succ]
            refine takeAt 13 99 (.bool true) rfl rfl (by kernel_rfl) (by kernel_rfl) (by kernel_rfl) (fun _ _ _ h => h) (yields (by rfl) (fun w => by kernel_rfl)) hS ?_
            simp only [Act.put, List.setIfInBounds_toArray, List.set_cons_zero, List.set_cons_succ]
            as_aux_lemma =>
              refine takeAt 14 100 (.agg (trC B4 (t.1 + u.1 + 1) cap4)) rfl rfl (by kernel_rfl) (by kernel_rfl) (by kernel_rfl) (fun _ _ _ h => h) (loadT7 (w4.heap.size) B4 (t.1 + u.1 + 1) cap4 (fun _ h => HX4.out.below h HX4.out.lt) rfl rfl (by rfl)) hS ?_
              simp only [Act.put, List.setIfInBounds_toArray, List.set_cons_zero, List.set_cons_succ]
              refine takeAt 15 101 (.agg (trC B t.1 cap)) rfl rfl (by kernel_rfl) (by kernel_rfl) (by kernel_rfl) (fun _ _ _ h => h) (loadT7 (w1.heap.size) B t.1 cap (fun _ h => HX1.out.below h HX1.out.lt) rfl rfl (by rfl)) hS ?_
              simp only [Act.put, List.setIfInBounds_toArray, List.set_cons_zero, List.set_cons_succ]
              refine takeAt 16 102 (.agg (trC B2 u.1 cap2)) rfl rfl (by kernel_rfl) (by kernel_rfl) (by kernel_rfl) (fun _ _ _ h => h) (loadT7 (w2.heap.size) B2 u.1 cap2 (fun _ h => HX2.out.below h HX2.out.lt) rfl rfl (by rfl)) hS ?_
              simp only [Act.put, List.setIfInBounds_toArray, List.set_cons_zero, List.set_cons_succ]
              clear hcA9 hnA9
              refine callAt 17 103 rfl rfl (by kernel_rfl) (by rfl) (by kernel_rfl) (Ast.join_any B t.1 cap t.2 B2 u.1 cap2 u.2 8 _ (by omega) (by omega) HW1.out HW2.out (HN1.out.below hS (Nat.le_refl _)) (HN2.out.below hS (Nat.le_refl _))) ?_
              intro e u' hres
              obtain ⟨A8, capA8, rfl, ht, hb⟩ := tree_res hres (Nat.le_add_left 1 _)
              have hS := thenB hS hb hS.size
              have hnA8 := ht.nodes
              clear hres ht hb
              refine ⟨_, rfl, hS, ?_⟩
              simp only [Act.put, List.setIfInBounds_toArray, List.set_cons_zero, List.set_cons_succ]
              have hcA8 := Ast.same_any B4 A8 (t.1 + u.1 + 1) (t.1 + u.1 + 1) cap4 capA8 (joinL t.2 t.1 u.2 u.1 8) (joinL t.2 t.1 u.2 u.1 8) _ (by omega) (by omega) (HN4.out.below hS (Nat.le_refl _)) hnA8
              rw [same_self] at hcA8
              refine callAt 18 104 rfl rfl (by kernel_rfl) (by rfl) (by kernel_rfl) (hcA8) ?_
              rintro e u' ⟨rfl, hb⟩
              have hS := thenB hS hb hS.size
              clear hb
              refine ⟨_, rfl, hS, ?_⟩
              simp only [Act.put, List.setIfInBounds_toArray, List.set_cons_zero, List.set_cons_succ]
              refine takeAt 19 105 (.bool true) rfl rfl (by kernel_rfl) (by kernel_rfl) (by kernel_rfl) (fun _ _ _ h => h) (yields (by rfl) (fun w => by kernel_rfl)) hS ?_
              simp only [Act.put, List.setIfInBounds_toArray, List.set_cons_zero, List.set_cons_succ]
              refine takeAt 20 106 (.bool true) rfl rfl (by kernel_rfl) (by kernel_rfl) (by kernel_rfl) (fun _ _ _ h => h) (yields (by rfl) (fun w => by kernel_rfl)) hS ?_
              simp only [Act.put, List.setIfInBounds_toArray, List.set_cons_zero, List.set_cons_succ]
              refine callAt 21 107 rfl rfl (by kernel_rfl) (by rfl) (by kernel_rfl) (HF.out _ (HT.out.call (HB4.out.trans (hS.mono HB4.out.size)))) ?_
              rintro e u' ⟨rfl, hb⟩
              have hS := thenB hS hb hS.size
              clear hb
              refine ⟨_, rfl, hS, ?_⟩
              simp only [Act.put, List.setIfInBounds_toArray, List.set_cons_zero, List.set_cons_succ]
              refine takeAt 22 108 (.bool true) rfl rfl (by kernel_rfl) (by kernel_rfl) (by kernel_rfl) (fun _ _ _ h => h) (yields (by rfl) (fun w => by kernel_rfl)) hS ?_
              simp only [Act.put, List.setIfInBounds_toArray, List.set_cons_zero, List.set_cons_succ]
              refine takeAt 23 4 (.bool true) rfl rfl (by kernel_rfl) (by kernel_rfl) (by kernel_rfl) (fun _ _ _ h => h) (yields (by rfl) (fun w => by kernel_rfl)) hS ?_
              simp only [Act.put, List.setIfInBounds_toArray, List.set_cons_zero, List.set_cons_succ]
              refine wpAnyH_done (by kernel_rfl) ?_ _
              go_wp2_with fail
              go_ret
              exact ⟨rfl, HB4.out.trans (hS.mono HB4.out.size)⟩
      · clear hr hr' hd hd'
        go_wp2_with fail
        refine wp_region_held_drew (S := fun u => Below v2.heap.size v2 u) (by kernel_rfl) (show _ from (Below.refl _ v2).drew) (fun hS => ?_)
        generalize World.drew v2 = u0 at hS ⊢
        refine takeAt 0 33 (.int .i64 0) rfl rfl (by kernel_rfl) (by kernel_rfl) (by kernel_rfl) (fun _ _ _ h => h) (yields (by rfl) (fun w => by kernel_rfl)) hS ?_
        simp only [Act.put, List.setIfInBounds_toArray, List.set_cons_zero, List.set_cons_succ]
        refine takeAt 1 34 (.bool false) rfl rfl (by kernel_rfl) (by kernel_rfl) (by kernel_rfl) (fun _ _ _ h => h) (yields (by rfl) (fun w => by kernel_rfl)) hS ?_
        simp only [Act.put, List.setIfInBounds_toArray, List.set_cons_zero, List.set_cons_succ]
        refine takeAt 2 35 (.bool false) rfl rfl (by kernel_rfl) (by kernel_rfl) (by kernel_rfl) (fun _ _ _ h => h) (yields (by rfl) (fun w => by kernel_rfl)) hS ?_
        simp only [Act.put, List.setIfInBounds_toArray, List.set_cons_zero, List.set_cons_succ]
        refine takeAt 3 36 (.int .i64 0) rfl rfl (by kernel_rfl) (by kernel_rfl) (by kernel_rfl) (fun _ _ _ h => h) (yields (by rfl) (fun w => by kernel_rfl)) hS ?_
        simp only [Act.put, List.setIfInBounds_toArray, List.set_cons_zero, List.set_cons_succ]
        refine takeAt 4 37 (.bool false) rfl rfl (by kernel_rfl) (by kernel_rfl) (by kernel_rfl) (fun _ _ _ h => h) (yields (by rfl) (fun w => by kernel_rfl)) hS ?_
        simp only [Act.put, List.setIfInBounds_toArray, List.set_cons_zero, List.set_cons_succ]
        refine takeAt 5 38 (.bool false) rfl rfl (by kernel_rfl) (by kernel_rfl) (by kernel_rfl) (fun _ _ _ h => h) (yields (by rfl) (fun w => by kernel_rfl)) hS ?_
        simp only [Act.put, List.setIfInBounds_toArray, List.set_cons_zero, List.set_cons_succ]
        refine takeAt 6 39 (.bool false) rfl rfl (by kernel_rfl) (by kernel_rfl) (by kernel_rfl) (fun _ _ _ h => h) (yields (by rfl) (fun w => by kernel_rfl)) hS ?_
        simp only [Act.put, List.setIfInBounds_toArray, List.set_cons_zero, List.set_cons_succ]
        refine takeAt 7 40 (.agg (trC B t.1 cap)) rfl rfl (by kernel_rfl) (by kernel_rfl) (by kernel_rfl) (fun _ _ _ h => h) (loadT7 (w1.heap.size) B t.1 cap (fun _ h => HX1.out.below h HX1.out.lt) rfl rfl (by rfl)) hS ?_
        simp only [Act.put, List.setIfInBounds_toArray, List.set_cons_zero, List.set_cons_succ]
        refine takeAt 9 42 (.agg (trC B2 u.1 cap2)) rfl rfl (by kernel_rfl) (by kernel_rfl) (by kernel_rfl) (fun _ _ _ h => h) (loadT7 (w2.heap.size) B2 u.1 cap2 (fun _ h => HX2.out.below h HX2.out.lt) rfl rfl (by rfl)) hS ?_
        simp only [Act.put, List.setIfInBounds_toArray, List.set_cons_zero, List.set_cons_succ]
        refine callAt 8 41 rfl rfl (by kernel_rfl) (by rfl) (by kernel_rfl) (Ast.groups_any B t.1 cap t.2 _ (by omega) (HN1.out.below hS (Nat.le_refl _))) ?_
        rintro e u' ⟨rfl, hb⟩
        have hS := thenB hS hb hS.size
        clear hb
        refine ⟨_, rfl, hS, ?_⟩
        simp only [Act.put, List.setIfInBounds_toArray, List.set_cons_zero, List.set_cons_succ]
        refine callAt 10 43 rfl rfl (by kernel_rfl) (by rfl) (by kernel_rfl) (Ast.groups_any B2 u.1 cap2 u.2 _ (by omega) (HN2.out.below hS (Nat.le_refl _))) ?_
        rintro e u' ⟨rfl, hb⟩
        have hS := thenB hS hb hS.size
        clear hb
        refine ⟨_, rfl, hS, ?_⟩
        simp only [Act.put, List.setIfInBounds_toArray, List.set_cons_zero, List.set_cons_succ]
        refine takeAt 11 44 (.int .i64 (cntG t.2 t.1 + cntG u.2 u.1 : Nat)) rfl rfl (by kernel_rfl) (by kernel_rfl) (by kernel_rfl) (fun _ _ _ h => h) (addG_y (m := (cntG t.2 t.1 : Nat)) (n := (cntG u.2 u.1 : Nat)) (by omega) (by omega) (by omega) rfl rfl rfl (by rfl)) hS ?_
        simp only [Act.put, List.setIfInBounds_toArray, List.set_cons_zero, List.set_cons_succ]
        refine takeAt 12 45 (.bool true) rfl rfl (by kernel_rfl) (by kernel_rfl) (by kernel_rfl) (fun _ _ _ h => h) (gtrI_y (m := (cntG t.2 t.1 + cntG u.2 u.1 : Nat)) (n := 0) true (decide_eq_true (by omega)) rfl rfl rfl (by rfl)) hS ?_
        simp only [Act.put, List.setIfInBounds_toArray, List.set_cons_zero, List.set_cons_succ]
        refine takeAt 13 46 (.bool true) rfl rfl (by kernel_rfl) (by kernel_rfl) (by kernel_rfl) (fun _ _ _ h => h) (yields (by rfl) (fun w => by kernel_rfl)) hS ?_
        simp only [Act.put, List.setIfInBounds_toArray, List.set_cons_zero, List.set_cons_succ]
        as_aux_lemma =>
          refine takeAt 14 47 (.bool true) rfl rfl (by kernel_rfl) (by kernel_rfl) (by kernel_rfl) (fun _ _ _ h => h) (yields (by rfl) (fun w => by kernel_rfl)) hS ?_
          simp only [Act.put, List.setIfInBounds_toArray, List.set_cons_zero, List.set_cons_succ]
          refine takeAt 15 48 (undef) rfl rfl (by kernel_rfl) (by kernel_rfl) (by kernel_rfl) (fun _ _ _ h => h) (skipped (by rfl)) hS ?_
          simp only [Act.put, List.setIfInBounds_toArray, List.set_cons_zero, List.set_cons_succ]
          refine takeAt 16 49 (undef) rfl rfl (by kernel_rfl) (by kernel_rfl) (by kernel_rfl) (fun _ _ _ h => h) (skipped (by rfl)) hS ?_
          simp only [Act.put, List.setIfInBounds_toArray, List.set_cons_zero, List.set_cons_succ]
          refine takeAt 17 50 (undef) rfl rfl (by kernel_rfl) (by kernel_rfl) (by kernel_rfl) (fun _ _ _ h => h) (skipped (by rfl)) hS ?_
          simp only [Act.put, List.setIfInBounds_toArray, List.set_cons_zero, List.set_cons_succ]
          refine takeAt 18 51 (undef) rfl rfl (by kernel_rfl) (by kernel_rfl) (by kernel_rfl) (fun _ _ _ h => h) (skipped (by rfl)) hS ?_
          simp only [Act.put, List.setIfInBounds_toArray, List.set_cons_zero, List.set_cons_succ]
          refine takeAt 19 52 (undef) rfl rfl (by kernel_rfl) (by kernel_rfl) (by kernel_rfl) (fun _ _ _ h => h) (skipped (by rfl)) hS ?_
          simp only [Act.put, List.setIfInBounds_toArray, List.set_cons_zero, List.set_cons_succ]
          refine takeAt 20 53 (undef) rfl rfl (by kernel_rfl) (by kernel_rfl) (by kernel_rfl) (fun _ _ _ h => h) (skipped (by rfl)) hS ?_
          simp only [Act.put, List.setIfInBounds_toArray, List.set_cons_zero, List.set_cons_succ]
          refine takeAt 21 54 (.bool true) rfl rfl (by kernel_rfl) (by kernel_rfl) (by kernel_rfl) (fun _ _ _ h => h) (yields (by rfl) (fun w => by kernel_rfl)) hS ?_
          simp only [Act.put, List.setIfInBounds_toArray, List.set_cons_zero, List.set_cons_succ]
          refine wpAnyH_done (by kernel_rfl) ?_ _
          have HBn := Lib.hid (HB2.out.trans (hS.mono HB2.out.size))
          clear HB2
          have HB2 := HBn
          clear HBn
          have HX1 := Lib.hid (HX1.out.below hS HX1.out.lt)
          have HX2 := Lib.hid (HX2.out.below hS HX2.out.lt)
          have HN1 := Lib.hid (HN1.out.below hS (Nat.le_refl _))
          have HN2 := Lib.hid (HN2.out.below hS (Nat.le_refl _))
          clear hS
          have hc1 := tree_cell HX1.out
          have hc2 := tree_cell HX2.out
          go_wp2_with fail
          with_reducible refine (HF.out _ (HT.out.call HB2.out)).mono ?_
          rintro e wf9 ⟨rfl, hb⟩
          have HZ := Lib.hid (thenB HB2.out hb HB2.out.size)
          clear hb
          go_wp2_with fail
          go_ret
          exact ⟨rfl, HZ.out⟩
set_option maxRecDepth 100000 in
set_option maxHeartbeats 32000000 in
theorem parseAlts_ll (K : PKit) (p q : ByteArray) (w : World) (hs : p.size ≤ 9223372036854775807) (hs' : q.size ≤ 9223372036854775807) (hw : Tabs w) (hp : 100 < p.size) (hq : 100 < q.size) : Calls Tryz.prog 6 #[.string p, .string q] w fun e w' => e = .returned (.bool true) ∧ Below w.heap.size w w' := by
  have HF := Lib.hid (fun w (h : Tabs w) => fixed_any K w h)
  have HP0 := Lib.hid (fun p w (h : Tabs w) => parse_g K p w h)
  have HK := Lib.hid K
  have HT := Lib.hid hw
  clear hw K
  go_enter Tryz.func6, Tryz.ntmps6
  go_wp2_with fail
  have hXs0 : (p.extract 0 100).size = 100 := by rw [ByteArray.size_extract]; omega
  generalize p.extract 0 100 = X at hXs0 ⊢
  have HX := Lib.hid (show X.size ≤ 100 by omega)
  clear hXs0 hp hs
  have hYs0 : (q.extract 0 100).size = 100 := by rw [ByteArray.size_extract]; omega
  generalize q.extract 0 100 = Y at hYs0 ⊢
  have HY := Lib.hid (show Y.size ≤ 100 by omega)
  clear hYs0 hq hs'
  have HB0 := Lib.hid (Below.refl w.heap.size w)
  go_wp2_with fail
  with_reducible refine (HP0.out X _ (HT.out.call HB0.out)).mono ?_
  rintro e w1 ⟨B, cap, rfl, ht, hb⟩
  have HNn := Lib.hid ht.nodes
  have HBn := Lib.hid (thenB HB0.out hb HB0.out.size)

  have HW1 := Lib.hid ht.none
  clear ht hb
  have HQ1 := Lib.hid (parse_cases X (by have := HX.out; omega))
  have HE1 := Lib.hid (show ∃ R, R = parseZ X from ⟨_, rfl⟩)
  obtain ⟨R, hR⟩ := HE1.out
  rw [← hR] at HNn HW1 HQ1 ⊢
  have HR1 := Lib.hid hR
  clear hR HE1
  obtain ⟨t, er⟩ := R
  simp only [] at HNn HW1 HQ1 ⊢
  go_wp2_with (refine storeNewTr rfl _ _ rfl w1 B t.1 cap rfl rfl rfl ?_; intro v1 hx hN; refine stopP ?_)
  unfold StopP
  have HX1 := Lib.hid hx.out
  have HB1 := Lib.hid (thenB HBn.out hN.out HBn.out.size)
  have HN1 := Lib.hid (HNn.out.below hN.out (Nat.le_refl _))

  have hc1 := tree_cell HX1.out
  clear hx hN HBn HNn
  go_wp2_with fail
  with_reducible refine (HP0.out Y _ (HT.out.call HB1.out)).mono ?_
  rintro e w2 ⟨B2, cap2, rfl, ht, hb⟩
  have HNn := Lib.hid ht.nodes
  have HBn := Lib.hid (thenB HB1.out hb HB1.out.size)
  have HX1 := Lib.hid (HX1.out.below hb HX1.out.lt)
  have HN1 := Lib.hid (HN1.out.below hb (Nat.le_refl _))
  have HW2 := Lib.hid ht.none
  clear ht hb
  have HQ2 := Lib.hid (parse_cases Y (by have := HY.out; omega))
  have HE2 := Lib.hid (show ∃ R, R = parseZ Y from ⟨_, rfl⟩)
  obtain ⟨R, hR⟩ := HE2.out
  rw [← hR] at HNn HW2 HQ2 ⊢
  have HR2 := Lib.hid hR
  clear hR HE2
  obtain ⟨u, fr⟩ := R
  simp only [] at HNn HW2 HQ2 ⊢
  go_wp2_with (refine storeNewTr rfl _ _ rfl w2 B2 u.1 cap2 rfl rfl rfl ?_; intro v2 hx hN; refine stopP ?_)
  unfold StopP
  have HX2 := Lib.hid hx.out
  have HB2 := Lib.hid (thenB HBn.out hN.out HBn.out.size)
  have HN2 := Lib.hid (HNn.out.below hN.out (Nat.le_refl _))
  have HX1 := Lib.hid (HX1.out.below hN.out HX1.out.lt)
  have HN1 := Lib.hid (HN1.out.below hN.out (Nat.le_refl _))
  have hc2 := tree_cell HX2.out
  clear hx hN HBn HNn
  have hc1 := tree_cell HX1.out
  rcases HQ1.out with ⟨h0, he⟩ | ⟨rfl, hr, hd, hn⟩
  · have he0 : (er == 0) = false := by simp; omega
    clear HQ1 HQ2 he
    obtain ⟨n, L⟩ := t
    simp only [] at h0
    subst h0
    go_wp2_with fail
    refine wp_region_held_drew (S := fun u => Below v2.heap.size v2 u) (by kernel_rfl) (show _ from (Below.refl _ v2).drew) (fun hS => ?_)
    generalize World.drew v2 = u0 at hS ⊢
    refine takeAt 0 33 (.int .i64 er) rfl rfl (by kernel_rfl) (by kernel_rfl) (by kernel_rfl) (fun _ _ _ h => h) (yields (by rfl) (fun w => by kernel_rfl)) hS ?_
    simp only [Act.put, List.setIfInBounds_toArray, List.set_cons_zero, List.set_cons_succ]
    refine takeAt 1 34 (.bool true) rfl rfl (by kernel_rfl) (by kernel_rfl) (by kernel_rfl) (fun _ _ _ h => h) (neqE_y (m := er) (n := 0) true (by rw [he0]; rfl) rfl rfl rfl (by rfl)) hS ?_
    simp only [Act.put, List.setIfInBounds_toArray, List.set_cons_zero, List.set_cons_succ]
    refine takeAt 2 35 (.bool true) rfl rfl (by kernel_rfl) (by kernel_rfl) (by kernel_rfl) (fun _ _ _ h => h) (yields (by rfl) (fun w => by kernel_rfl)) hS ?_
    simp only [Act.put, List.setIfInBounds_toArray, List.set_cons_zero, List.set_cons_succ]
    refine takeAt 3 36 (undef) rfl rfl (by kernel_rfl) (by kernel_rfl) (by kernel_rfl) (fun _ _ _ h => h) (skipped (by rfl)) hS ?_
    simp only [Act.put, List.setIfInBounds_toArray, List.set_cons_zero, List.set_cons_succ]
    refine takeAt 4 37 (undef) rfl rfl (by kernel_rfl) (by kernel_rfl) (by kernel_rfl) (fun _ _ _ h => h) (skipped (by rfl)) hS ?_
    simp only [Act.put, List.setIfInBounds_toArray, List.set_cons_zero, List.set_cons_succ]
    refine takeAt 5 38 (.bool true) rfl rfl (by kernel_rfl) (by kernel_rfl) (by kernel_rfl) (fun _ _ _ h => h) (yields (by rfl) (fun w => by kernel_rfl)) hS ?_
    simp only [Act.put, List.setIfInBounds_toArray, List.set_cons_zero, List.set_cons_succ]
    refine takeAt 6 39 (.bool true) rfl rfl (by kernel_rfl) (by kernel_rfl) (by kernel_rfl) (fun _ _ _ h => h) (yields (by rfl) (fun w => by kernel_rfl)) hS ?_
    simp only [Act.put, List.setIfInBounds_toArray, List.set_cons_zero, List.set_cons_succ]
    refine takeAt 7 40 (undef) rfl rfl (by kernel_rfl) (by kernel_rfl) (by kernel_rfl) (fun _ _ _ h => h) (skipped (by rfl)) hS ?_
    simp only [Act.put, List.setIfInBounds_toArray, List.set_cons_zero, List.set_cons_succ]
    refine takeAt 8 41 (undef) rfl rfl (by kernel_rfl) (by kernel_rfl) (by kernel_rfl) (fun _ _ _ h => h) (skipped (by rfl)) hS ?_
    simp only [Act.put, List.setIfInBounds_toArray, List.set_cons_zero, List.set_cons_succ]
    refine takeAt 9 42 (undef) rfl rfl (by kernel_rfl) (by kernel_rfl) (by kernel_rfl) (fun _ _ _ h => h) (skipped (by rfl)) hS ?_
    simp only [Act.put, List.setIfInBounds_toArray, List.set_cons_zero, List.set_cons_succ]
    refine takeAt 10 43 (undef) rfl rfl (by kernel_rfl) (by kernel_rfl) (by kernel_rfl) (fun _ _ _ h => h) (skipped (by rfl)) hS ?_
    simp only [Act.put, List.setIfInBounds_toArray, List.set_cons_zero, List.set_cons_succ]
    refine takeAt 11 44 (undef) rfl rfl (by kernel_rfl) (by kernel_rfl) (by kernel_rfl) (fun _ _ _ h => h) (skipped (by rfl)) hS ?_
    simp only [Act.put, List.setIfInBounds_toArray, List.set_cons_zero, List.set_cons_succ]
    as_aux_lemma =>
      refine takeAt 12 45 (undef) rfl rfl (by kernel_rfl) (by kernel_rfl) (by kernel_rfl) (fun _ _ _ h => h) (skipped (by rfl)) hS ?_
      simp only [Act.put, List.setIfInBounds_toArray, List.set_cons_zero, List.set_cons_succ]
      refine takeAt 13 46 (.bool true) rfl rfl (by kernel_rfl) (by kernel_rfl) (by kernel_rfl) (fun _ _ _ h => h) (yields (by rfl) (fun w => by kernel_rfl)) hS ?_
      simp only [Act.put, List.setIfInBounds_toArray, List.set_cons_zero, List.set_cons_succ]
      refine takeAt 14 47 (.bool true) rfl rfl (by kernel_rfl) (by kernel_rfl) (by kernel_rfl) (fun _ _ _ h => h) (yields (by rfl) (fun w => by kernel_rfl)) hS ?_
      simp only [Act.put, List.setIfInBounds_toArray, List.set_cons_zero, List.set_cons_succ]
      refine takeAt 15 48 (undef) rfl rfl (by kernel_rfl) (by kernel_rfl) (by kernel_rfl) (fun _ _ _ h => h) (skipped (by rfl)) hS ?_
      simp only [Act.put, List.setIfInBounds_toArray, List.set_cons_zero, List.set_cons_succ]
      refine takeAt 16 49 (undef) rfl rfl (by kernel_rfl) (by kernel_rfl) (by kernel_rfl) (fun _ _ _ h => h) (skipped (by rfl)) hS ?_
      simp only [Act.put, List.setIfInBounds_toArray, List.set_cons_zero, List.set_cons_succ]
      refine takeAt 17 50 (undef) rfl rfl (by kernel_rfl) (by kernel_rfl) (by kernel_rfl) (fun _ _ _ h => h) (skipped (by rfl)) hS ?_
      simp only [Act.put, List.setIfInBounds_toArray, List.set_cons_zero, List.set_cons_succ]
      refine takeAt 18 51 (undef) rfl rfl (by kernel_rfl) (by kernel_rfl) (by kernel_rfl) (fun _ _ _ h => h) (skipped (by rfl)) hS ?_
      simp only [Act.put, List.setIfInBounds_toArray, List.set_cons_zero, List.set_cons_succ]
      refine takeAt 19 52 (undef) rfl rfl (by kernel_rfl) (by kernel_rfl) (by kernel_rfl) (fun _ _ _ h => h) (skipped (by rfl)) hS ?_
      simp only [Act.put, List.setIfInBounds_toArray, List.set_cons_zero, List.set_cons_succ]
      refine takeAt 20 53 (undef) rfl rfl (by kernel_rfl) (by kernel_rfl) (by kernel_rfl) (fun _ _ _ h => h) (skipped (by rfl)) hS ?_
      simp only [Act.put, List.setIfInBounds_toArray, List.set_cons_zero, List.set_cons_succ]
      refine takeAt 21 54 (.bool true) rfl rfl (by kernel_rfl) (by kernel_rfl) (by kernel_rfl) (fun _ _ _ h => h) (yields (by rfl) (fun w => by kernel_rfl)) hS ?_
      simp only [Act.put, List.setIfInBounds_toArray, List.set_cons_zero, List.set_cons_succ]
      refine wpAnyH_done (by kernel_rfl) ?_ _
      have HBn := Lib.hid (HB2.out.trans (hS.mono HB2.out.size))
      clear HB2
      have HB2 := HBn
      clear HBn
      have HX1 := Lib.hid (HX1.out.below hS HX1.out.lt)
      have HX2 := Lib.hid (HX2.out.below hS HX2.out.lt)
      have HN1 := Lib.hid (HN1.out.below hS (Nat.le_refl _))
      have HN2 := Lib.hid (HN2.out.below hS (Nat.le_refl _))
      clear hS
      have hc1 := tree_cell HX1.out
      have hc2 := tree_cell HX2.out
      go_wp2_with fail
      with_reducible refine (HF.out _ (HT.out.call HB2.out)).mono ?_
      rintro e wf9 ⟨rfl, hb⟩
      have HZ := Lib.hid (thenB HB2.out hb HB2.out.size)
      clear hb
      go_wp2_with fail
      go_ret
      exact ⟨rfl, HZ.out⟩
  · rcases HQ2.out with ⟨h0, hf⟩ | ⟨rfl, hr', hd', hn'⟩
    · have hf0 : (fr == 0) = false := by simp; omega
      clear HQ1 HQ2 hf
      go_wp2_with fail
      refine wp_region_held_drew (S := fun u => Below v2.heap.size v2 u) (by kernel_rfl) (show _ from (Below.refl _ v2).drew) (fun hS => ?_)
      generalize World.drew v2 = u0 at hS ⊢
      refine takeAt 0 33 (.int .i64 0) rfl rfl (by kernel_rfl) (by kernel_rfl) (by kernel_rfl) (fun _ _ _ h => h) (yields (by rfl) (fun w => by kernel_rfl)) hS ?_
      simp only [Act.put, List.setIfInBounds_toArray, List.set_cons_zero, List.set_cons_succ]
      refine takeAt 1 34 (.bool false) rfl rfl (by kernel_rfl) (by kernel_rfl) (by kernel_rfl) (fun _ _ _ h => h) (yields (by rfl) (fun w => by kernel_rfl)) hS ?_
      simp only [Act.put, List.setIfInBounds_toArray, List.set_cons_zero, List.set_cons_succ]
      refine takeAt 2 35 (.bool false) rfl rfl (by kernel_rfl) (by kernel_rfl) (by kernel_rfl) (fun _ _ _ h => h) (yields (by rfl) (fun w => by kernel_rfl)) hS ?_
      simp only [Act.put, List.setIfInBounds_toArray, List.set_cons_zero, List.set_cons_succ]
      refine takeAt 3 36 (.int .i64 fr) rfl rfl (by kernel_rfl) (by kernel_rfl) (by kernel_rfl) (fun _ _ _ h => h) (yields (by rfl) (fun w => by kernel_rfl)) hS ?_
      simp only [Act.put, List.setIfInBounds_toArray, List.set_cons_zero, List.set_cons_succ]
      refine takeAt 4 37 (.bool true) rfl rfl (by kernel_rfl) (by kernel_rfl) (by kernel_rfl) (fun _ _ _ h => h) (neqE_y (m := fr) (n := 0) true (by rw [hf0]; rfl) rfl rfl rfl (by rfl)) hS ?_
      simp only [Act.put, List.setIfInBounds_toArray, List.set_cons_zero, List.set_cons_succ]
      refine takeAt 5 38 (.bool true) rfl rfl (by kernel_rfl) (by kernel_rfl) (by kernel_rfl) (fun _ _ _ h => h) (yields (by rfl) (fun w => by kernel_rfl)) hS ?_
      simp only [Act.put, List.setIfInBounds_toArray, List.set_cons_zero, List.set_cons_succ]
      refine takeAt 6 39 (.bool true) rfl rfl (by kernel_rfl) (by kernel_rfl) (by kernel_rfl) (fun _ _ _ h => h) (yields (by rfl) (fun w => by kernel_rfl)) hS ?_
      simp only [Act.put, List.setIfInBounds_toArray, List.set_cons_zero, List.set_cons_succ]
      refine takeAt 7 40 (undef) rfl rfl (by kernel_rfl) (by kernel_rfl) (by kernel_rfl) (fun _ _ _ h => h) (skipped (by rfl)) hS ?_
      simp only [Act.put, List.setIfInBounds_toArray, List.set_cons_zero, List.set_cons_succ]
      refine takeAt 8 41 (undef) rfl rfl (by kernel_rfl) (by kernel_rfl) (by kernel_rfl) (fun _ _ _ h => h) (skipped (by rfl)) hS ?_
      simp only [Act.put, List.setIfInBounds_toArray, List.set_cons_zero, List.set_cons_succ]
      refine takeAt 9 42 (undef) rfl rfl (by kernel_rfl) (by kernel_rfl) (by kernel_rfl) (fun _ _ _ h => h) (skipped (by rfl)) hS ?_
      simp only [Act.put, List.setIfInBounds_toArray, List.set_cons_zero, List.set_cons_succ]
      refine takeAt 10 43 (undef) rfl rfl (by kernel_rfl) (by kernel_rfl) (by kernel_rfl) (fun _ _ _ h => h) (skipped (by rfl)) hS ?_
      simp only [Act.put, List.setIfInBounds_toArray, List.set_cons_zero, List.set_cons_succ]
      refine takeAt 11 44 (undef) rfl rfl (by kernel_rfl) (by kernel_rfl) (by kernel_rfl) (fun _ _ _ h => h) (skipped (by rfl)) hS ?_
      simp only [Act.put, List.setIfInBounds_toArray, List.set_cons_zero, List.set_cons_succ]
      as_aux_lemma =>
        refine takeAt 12 45 (undef) rfl rfl (by kernel_rfl) (by kernel_rfl) (by kernel_rfl) (fun _ _ _ h => h) (skipped (by rfl)) hS ?_
        simp only [Act.put, List.setIfInBounds_toArray, List.set_cons_zero, List.set_cons_succ]
        refine takeAt 13 46 (.bool true) rfl rfl (by kernel_rfl) (by kernel_rfl) (by kernel_rfl) (fun _ _ _ h => h) (yields (by rfl) (fun w => by kernel_rfl)) hS ?_
        simp only [Act.put, List.setIfInBounds_toArray, List.set_cons_zero, List.set_cons_succ]
        refine takeAt 14 47 (.bool true) rfl rfl (by kernel_rfl) (by kernel_rfl) (by kernel_rfl) (fun _ _ _ h => h) (yields (by rfl) (fun w => by kernel_rfl)) hS ?_
        simp only [Act.put, List.setIfInBounds_toArray, List.set_cons_zero, List.set_cons_succ]
        refine takeAt 15 48 (undef) rfl rfl (by kernel_rfl) (by kernel_rfl) (by kernel_rfl) (fun _ _ _ h => h) (skipped (by rfl)) hS ?_
        simp only [Act.put, List.setIfInBounds_toArray, List.set_cons_zero, List.set_cons_succ]
        refine takeAt 16 49 (undef) rfl rfl (by kernel_rfl) (by kernel_rfl) (by kernel_rfl) (fun _ _ _ h => h) (skipped (by rfl)) hS ?_
        simp only [Act.put, List.setIfInBounds_toArray, List.set_cons_zero, List.set_cons_succ]
        refine takeAt 17 50 (undef) rfl rfl (by kernel_rfl) (by kernel_rfl) (by kernel_rfl) (fun _ _ _ h => h) (skipped (by rfl)) hS ?_
        simp only [Act.put, List.setIfInBounds_toArray, List.set_cons_zero, List.set_cons_succ]
        refine takeAt 18 51 (undef) rfl rfl (by kernel_rfl) (by kernel_rfl) (by kernel_rfl) (fun _ _ _ h => h) (skipped (by rfl)) hS ?_
        simp only [Act.put, List.setIfInBounds_toArray, List.set_cons_zero, List.set_cons_succ]
        refine takeAt 19 52 (undef) rfl rfl (by kernel_rfl) (by kernel_rfl) (by kernel_rfl) (fun _ _ _ h => h) (skipped (by rfl)) hS ?_
        simp only [Act.put, List.setIfInBounds_toArray, List.set_cons_zero, List.set_cons_succ]
        refine takeAt 20 53 (undef) rfl rfl (by kernel_rfl) (by kernel_rfl) (by kernel_rfl) (fun _ _ _ h => h) (skipped (by rfl)) hS ?_
        simp only [Act.put, List.setIfInBounds_toArray, List.set_cons_zero, List.set_cons_succ]
        refine takeAt 21 54 (.bool true) rfl rfl (by kernel_rfl) (by kernel_rfl) (by kernel_rfl) (fun _ _ _ h => h) (yields (by rfl) (fun w => by kernel_rfl)) hS ?_
        simp only [Act.put, List.setIfInBounds_toArray, List.set_cons_zero, List.set_cons_succ]
        refine wpAnyH_done (by kernel_rfl) ?_ _
        have HBn := Lib.hid (HB2.out.trans (hS.mono HB2.out.size))
        clear HB2
        have HB2 := HBn
        clear HBn
        have HX1 := Lib.hid (HX1.out.below hS HX1.out.lt)
        have HX2 := Lib.hid (HX2.out.below hS HX2.out.lt)
        have HN1 := Lib.hid (HN1.out.below hS (Nat.le_refl _))
        have HN2 := Lib.hid (HN2.out.below hS (Nat.le_refl _))
        clear hS
        have hc1 := tree_cell HX1.out
        have hc2 := tree_cell HX2.out
        go_wp2_with fail
        with_reducible refine (HF.out _ (HT.out.call HB2.out)).mono ?_
        rintro e wf9 ⟨rfl, hb⟩
        have HZ := Lib.hid (thenB HB2.out hb HB2.out.size)
        clear hb
        go_wp2_with fail
        go_ret
        exact ⟨rfl, HZ.out⟩
    · clear HQ1 HQ2
      have hq1 : cntG t.2 t.1 ≤ 500 := Nat.le_trans (Ast.cntG_le _ _) hn
      have hq2 : cntG u.2 u.1 ≤ 500 := Nat.le_trans (Ast.cntG_le _ _) hn'
      by_cases hg : cntG t.2 t.1 + cntG u.2 u.1 = 0
      · have hg1 : cntG t.2 t.1 = 0 := by omega
        have hg2 : cntG u.2 u.1 = 0 := by omega
        obtain ⟨d1, hd1⟩ : ∃ d, d = deepZ t.2 t.1 := ⟨_, rfl⟩
        obtain ⟨d2, hd2⟩ : ∃ d, d = deepZ u.2 u.1 := ⟨_, rfl⟩
        by_cases hdm : 40 ≤ max d1 d2
        · clear hg hq1 hq2 hr hr' hd hd'
          go_wp2_with fail
          refine wp_region_held_drew (S := fun u => Below v2.heap.size v2 u) (by kernel_rfl) (show _ from (Below.refl _ v2).drew) (fun hS => ?_)
          generalize World.drew v2 = u0 at hS ⊢
          refine takeAt 0 33 (.int .i64 0) rfl rfl (by kernel_rfl) (by kernel_rfl) (by kernel_rfl) (fun _ _ _ h => h) (yields (by rfl) (fun w => by kernel_rfl)) hS ?_
          simp only [Act.put, List.setIfInBounds_toArray, List.set_cons_zero, List.set_cons_succ]
          refine takeAt 1 34 (.bool false) rfl rfl (by kernel_rfl) (by kernel_rfl) (by kernel_rfl) (fun _ _ _ h => h) (yields (by rfl) (fun w => by kernel_rfl)) hS ?_
          simp only [Act.put, List.setIfInBounds_toArray, List.set_cons_zero, List.set_cons_succ]
          refine takeAt 2 35 (.bool false) rfl rfl (by kernel_rfl) (by kernel_rfl) (by kernel_rfl) (fun _ _ _ h => h) (yields (by rfl) (fun w => by kernel_rfl)) hS ?_
          simp only [Act.put, List.setIfInBounds_toArray, List.set_cons_zero, List.set_cons_succ]
          refine takeAt 3 36 (.int .i64 0) rfl rfl (by kernel_rfl) (by kernel_rfl) (by kernel_rfl) (fun _ _ _ h => h) (yields (by rfl) (fun w => by kernel_rfl)) hS ?_
          simp only [Act.put, List.setIfInBounds_toArray, List.set_cons_zero, List.set_cons_succ]
          refine takeAt 4 37 (.bool false) rfl rfl (by kernel_rfl) (by kernel_rfl) (by kernel_rfl) (fun _ _ _ h => h) (yields (by rfl) (fun w => by kernel_rfl)) hS ?_
          simp only [Act.put, List.setIfInBounds_toArray, List.set_cons_zero, List.set_cons_succ]
          refine takeAt 5 38 (.bool false) rfl rfl (by kernel_rfl) (by kernel_rfl) (by kernel_rfl) (fun _ _ _ h => h) (yields (by rfl) (fun w => by kernel_rfl)) hS ?_
          simp only [Act.put, List.setIfInBounds_toArray, List.set_cons_zero, List.set_cons_succ]
          refine takeAt 6 39 (.bool false) rfl rfl (by kernel_rfl) (by kernel_rfl) (by kernel_rfl) (fun _ _ _ h => h) (yields (by rfl) (fun w => by kernel_rfl)) hS ?_
          simp only [Act.put, List.setIfInBounds_toArray, List.set_cons_zero, List.set_cons_succ]
          refine takeAt 7 40 (.agg (trC B t.1 cap)) rfl rfl (by kernel_rfl) (by kernel_rfl) (by kernel_rfl) (fun _ _ _ h => h) (loadT7 (w1.heap.size) B t.1 cap (fun _ h => HX1.out.below h HX1.out.lt) rfl rfl (by rfl)) hS ?_
          simp only [Act.put, List.setIfInBounds_toArray, List.set_cons_zero, List.set_cons_succ]
          refine takeAt 9 42 (.agg (trC B2 u.1 cap2)) rfl rfl (by kernel_rfl) (by kernel_rfl) (by kernel_rfl) (fun _ _ _ h => h) (loadT7 (w2.heap.size) B2 u.1 cap2 (fun _ h => HX2.out.below h HX2.out.lt) rfl rfl (by rfl)) hS ?_
          simp only [Act.put, List.setIfInBounds_toArray, List.set_cons_zero, List.set_cons_succ]
          have hc8 := Ast.groups_any B t.1 cap t.2 _ (by omega) (HN1.out.below hS (Nat.le_refl _))
          rw [hg1] at hc8
          refine callAt 8 41 rfl rfl (by kernel_rfl) (by rfl) (by kernel_rfl) (hc8) ?_
          rintro e u' ⟨rfl, hb⟩
          have hS := thenB hS hb hS.size
          clear hb
          refine ⟨_, rfl, hS, ?_⟩
          simp only [Act.put, List.setIfInBounds_toArray, List.set_cons_zero, List.set_cons_succ]
          clear hc8
          have hc10 := Ast.groups_any B2 u.1 cap2 u.2 _ (by omega) (HN2.out.below hS (Nat.le_refl _))
          rw [hg2] at hc10
          refine callAt 10 43 rfl rfl (by kernel_rfl) (by rfl) (by kernel_rfl) (hc10) ?_
          rintro e u' ⟨rfl, hb⟩
          have hS := thenB hS hb hS.size
          clear hb
          refine ⟨_, rfl, hS, ?_⟩
          simp only [Act.put, List.setIfInBounds_toArray, List.set_cons_zero, List.set_cons_succ]
          refine takeAt 11 44 (.int .i64 0) rfl rfl (by kernel_rfl) (by kernel_rfl) (by kernel_rfl) (fun _ _ _ h => h) (yields (by rfl) (fun w => by kernel_rfl)) hS ?_
          simp only [Act.put, List.setIfInBounds_toArray, List.set_cons_zero, List.set_cons_succ]
          refine takeAt 12 45 (.bool false) rfl rfl (by kernel_rfl) (by kernel_rfl) (by kernel_rfl) (fun _ _ _ h => h) (yields (by rfl) (fun w => by kernel_rfl)) hS ?_
          simp only [Act.put, List.setIfInBounds_toArray, List.set_cons_zero, List.set_cons_succ]
          refine takeAt 13 46 (.bool false) rfl rfl (by kernel_rfl) (by kernel_rfl) (by kernel_rfl) (fun _ _ _ h => h) (yields (by rfl) (fun w => by kernel_rfl)) hS ?_
          simp only [Act.put, List.setIfInBounds_toArray, List.set_cons_zero, List.set_cons_succ]
          as_aux_lemma =>
            refine takeAt 14 47 (.bool false) rfl rfl (by kernel_rfl) (by kernel_rfl) (by kernel_rfl) (fun _ _ _ h => h) (yields (by rfl) (fun w => by kernel_rfl)) hS ?_
            simp only [Act.put, List.setIfInBounds_toArray, List.set_cons_zero, List.set_cons_succ]
            refine takeAt 15 48 (.agg (trC B t.1 cap)) rfl rfl (by kernel_rfl) (by kernel_rfl) (by kernel_rfl) (fun _ _ _ h => h) (loadT7 (w1.heap.size) B t.1 cap (fun _ h => HX1.out.below h HX1.out.lt) rfl rfl (by rfl)) hS ?_
            simp only [Act.put, List.setIfInBounds_toArray, List.set_cons_zero, List.set_cons_succ]
            refine takeAt 17 50 (.agg (trC B2 u.1 cap2)) rfl rfl (by kernel_rfl) (by kernel_rfl) (by kernel_rfl) (fun _ _ _ h => h) (loadT7 (w2.heap.size) B2 u.1 cap2 (fun _ h => HX2.out.below h HX2.out.lt) rfl rfl (by rfl)) hS ?_
            simp only [Act.put, List.setIfInBounds_toArray, List.set_cons_zero, List.set_cons_succ]
            clear hc10
            have hc16 := Ast.deep_any B t.1 cap t.2 _ (by omega) (HN1.out.below hS (Nat.le_refl _))
            rw [← hd1] at hc16
            refine callAt 16 49 rfl rfl (by kernel_rfl) (by rfl) (by kernel_rfl) (hc16) ?_
            rintro e u' ⟨rfl, hb⟩
            have hS := thenB hS hb hS.size
            clear hb
            refine ⟨_, rfl, hS, ?_⟩
            simp only [Act.put, List.setIfInBounds_toArray, List.set_cons_zero, List.set_cons_succ]
            clear hc16
            have hc18 := Ast.deep_any B2 u.1 cap2 u.2 _ (by omega) (HN2.out.below hS (Nat.le_refl _))
            rw [← hd2] at hc18
            refine callAt 18 51 rfl rfl (by kernel_rfl) (by rfl) (by kernel_rfl) (hc18) ?_
            rintro e u' ⟨rfl, hb⟩
            have hS := thenB hS hb hS.size
            clear hb
            refine ⟨_, rfl, hS, ?_⟩
            simp only [Act.put, List.setIfInBounds_toArray, List.set_cons_zero, List.set_cons_succ]
            refine takeAt 19 52 (.int .i64 ((max d1 d2 : Nat) : Int)) rfl rfl (by kernel_rfl) (by kernel_rfl) (by kernel_rfl) (fun _ _ _ h => h) (maxI_y (m := (d1 : Nat)) (n := (d2 : Nat)) (by omega) rfl rfl rfl (by rfl)) hS ?_
            simp only [Act.put, List.setIfInBounds_toArray, List.set_cons_zero, List.set_cons_succ]
            refine takeAt 20 53 (.bool true) rfl rfl (by kernel_rfl) (by kernel_rfl) (by kernel_rfl) (fun _ _ _ h => h) (geqI_y (m := ((max d1 d2 : Nat) : Int)) (n := 40) true (decide_eq_true (by omega)) rfl rfl rfl (by rfl)) hS ?_
            simp only [Act.put, List.setIfInBounds_toArray, List.set_cons_zero, List.set_cons_succ]
            refine takeAt 21 54 (.bool true) rfl rfl (by kernel_rfl) (by kernel_rfl) (by kernel_rfl) (fun _ _ _ h => h) (yields (by rfl) (fun w => by kernel_rfl)) hS ?_
            simp only [Act.put, List.setIfInBounds_toArray, List.set_cons_zero, List.set_cons_succ]
            refine wpAnyH_done (by kernel_rfl) ?_ _
            have HBn := Lib.hid (HB2.out.trans (hS.mono HB2.out.size))
            clear HB2
            have HB2 := HBn
            clear HBn
            have HX1 := Lib.hid (HX1.out.below hS HX1.out.lt)
            have HX2 := Lib.hid (HX2.out.below hS HX2.out.lt)
            have HN1 := Lib.hid (HN1.out.below hS (Nat.le_refl _))
            have HN2 := Lib.hid (HN2.out.below hS (Nat.le_refl _))
            clear hS
            have hc1 := tree_cell HX1.out
            have hc2 := tree_cell HX2.out
            clear hc18
            go_wp2_with fail
            with_reducible refine (HF.out _ (HT.out.call HB2.out)).mono ?_
            rintro e wf9 ⟨rfl, hb⟩
            have HZ := Lib.hid (thenB HB2.out hb HB2.out.size)
            clear hb
            go_wp2_with fail
            go_ret
            exact ⟨rfl, HZ.out⟩
        · have hdm1 : d1 < 40 := by omega
          have hdm2 : d2 < 40 := by omega
          have hz0 : ¬ 3 + X.size > 9223372036854775807 := by have := HX.out; have := HY.out; omega
          have hz1 : ¬ 3 + X.size + 5 > 9223372036854775807 := by have := HX.out; have := HY.out; omega
          have hz2 : ¬ 3 + X.size + 5 + Y.size > 9223372036854775807 := by have := HX.out; have := HY.out; omega
          have hz3 : ¬ 3 + X.size + 5 + Y.size + 1 > 9223372036854775807 := by have := HX.out; have := HY.out; omega
          have hz4 : ¬ 3 + X.size + 4 > 9223372036854775807 := by have := HX.out; have := HY.out; omega
          have hz5 : ¬ 3 + X.size + 4 + Y.size > 9223372036854775807 := by have := HX.out; have := HY.out; omega
          have hz6 : ¬ 3 + X.size + 4 + Y.size + 1 > 9223372036854775807 := by have := HX.out; have := HY.out; omega
          go_wp2_with fail
          refine wp_region_held_drew (S := fun u => Below v2.heap.size v2 u) (by kernel_rfl) (show _ from (Below.refl _ v2).drew) (fun hS => ?_)
          generalize World.drew v2 = u0 at hS ⊢
          refine takeAt 0 33 (.int .i64 0) rfl rfl (by kernel_rfl) (by kernel_rfl) (by kernel_rfl) (fun _ _ _ h => h) (yields (by rfl) (fun w => by kernel_rfl)) hS ?_
          simp only [Act.put, List.setIfInBounds_toArray, List.set_cons_zero, List.set_cons_succ]
          refine takeAt 1 34 (.bool false) rfl rfl (by kernel_rfl) (by kernel_rfl) (by kernel_rfl) (fun _ _ _ h => h) (yields (by rfl) (fun w => by kernel_rfl)) hS ?_
          simp only [Act.put, List.setIfInBounds_toArray, List.set_cons_zero, List.set_cons_succ]
          refine takeAt 2 35 (.bool false) rfl rfl (by kernel_rfl) (by kernel_rfl) (by kernel_rfl) (fun _ _ _ h => h) (yields (by rfl) (fun w => by kernel_rfl)) hS ?_
          simp only [Act.put, List.setIfInBounds_toArray, List.set_cons_zero, List.set_cons_succ]
          refine takeAt 3 36 (.int .i64 0) rfl rfl (by kernel_rfl) (by kernel_rfl) (by kernel_rfl) (fun _ _ _ h => h) (yields (by rfl) (fun w => by kernel_rfl)) hS ?_
          simp only [Act.put, List.setIfInBounds_toArray, List.set_cons_zero, List.set_cons_succ]
          refine takeAt 4 37 (.bool false) rfl rfl (by kernel_rfl) (by kernel_rfl) (by kernel_rfl) (fun _ _ _ h => h) (yields (by rfl) (fun w => by kernel_rfl)) hS ?_
          simp only [Act.put, List.setIfInBounds_toArray, List.set_cons_zero, List.set_cons_succ]
          refine takeAt 5 38 (.bool false) rfl rfl (by kernel_rfl) (by kernel_rfl) (by kernel_rfl) (fun _ _ _ h => h) (yields (by rfl) (fun w => by kernel_rfl)) hS ?_
          simp only [Act.put, List.setIfInBounds_toArray, List.set_cons_zero, List.set_cons_succ]
          refine takeAt 6 39 (.bool false) rfl rfl (by kernel_rfl) (by kernel_rfl) (by kernel_rfl) (fun _ _ _ h => h) (yields (by rfl) (fun w => by kernel_rfl)) hS ?_
          simp only [Act.put, List.setIfInBounds_toArray, List.set_cons_zero, List.set_cons_succ]
          refine takeAt 7 40 (.agg (trC B t.1 cap)) rfl rfl (by kernel_rfl) (by kernel_rfl) (by kernel_rfl) (fun _ _ _ h => h) (loadT7 (w1.heap.size) B t.1 cap (fun _ h => HX1.out.below h HX1.out.lt) rfl rfl (by rfl)) hS ?_
          simp only [Act.put, List.setIfInBounds_toArray, List.set_cons_zero, List.set_cons_succ]
          refine takeAt 9 42 (.agg (trC B2 u.1 cap2)) rfl rfl (by kernel_rfl) (by kernel_rfl) (by kernel_rfl) (fun _ _ _ h => h) (loadT7 (w2.heap.size) B2 u.1 cap2 (fun _ h => HX2.out.below h HX2.out.lt) rfl rfl (by rfl)) hS ?_
          simp only [Act.put, List.setIfInBounds_toArray, List.set_cons_zero, List.set_cons_succ]
          have hc8 := Ast.groups_any B t.1 cap t.2 _ (by omega) (HN1.out.below hS (Nat.le_refl _))
          rw [hg1] at hc8
          refine callAt 8 41 rfl rfl (by kernel_rfl) (by rfl) (by kernel_rfl) (hc8) ?_
          rintro e u' ⟨rfl, hb⟩
          have hS := thenB hS hb hS.size
          clear hb
          refine ⟨_, rfl, hS, ?_⟩
          simp only [Act.put, List.setIfInBounds_toArray, List.set_cons_zero, List.set_cons_succ]
          clear hc8
          have hc10 := Ast.groups_any B2 u.1 cap2 u.2 _ (by omega) (HN2.out.below hS (Nat.le_refl _))
          rw [hg2] at hc10
          refine callAt 10 43 rfl rfl (by kernel_rfl) (by rfl) (by kernel_rfl) (hc10) ?_
          rintro e u' ⟨rfl, hb⟩
          have hS := thenB hS hb hS.size
          clear hb
          refine ⟨_, rfl, hS, ?_⟩
          simp only [Act.put, List.setIfInBounds_toArray, List.set_cons_zero, List.set_cons_succ]
          refine takeAt 11 44 (.int .i64 0) rfl rfl (by kernel_rfl) (by kernel_rfl) (by kernel_rfl) (fun _ _ _ h => h) (yields (by rfl) (fun w => by kernel_rfl)) hS ?_
          simp only [Act.put, List.setIfInBounds_toArray, List.set_cons_zero, List.set_cons_succ]
          refine takeAt 12 45 (.bool false) rfl rfl (by kernel_rfl) (by kernel_rfl) (by kernel_rfl) (fun _ _ _ h => h) (yields (by rfl) (fun w => by kernel_rfl)) hS ?_
          simp only [Act.put, List.setIfInBounds_toArray, List.set_cons_zero, List.set_cons_succ]
          refine takeAt 13 46 (.bool false) rfl rfl (by kernel_rfl) (by kernel_rfl) (by kernel_rfl) (fun _ _ _ h => h) (yields (by rfl) (fun w => by kernel_rfl)) hS ?_
          simp only [Act.put, List.setIfInBounds_toArray, List.set_cons_zero, List.set_cons_succ]
          as_aux_lemma =>
            refine takeAt 14 47 (.bool false) rfl rfl (by kernel_rfl) (by kernel_rfl) (by kernel_rfl) (fun _ _ _ h => h) (yields (by rfl) (fun w => by kernel_rfl)) hS ?_
            simp only [Act.put, List.setIfInBounds_toArray, List.set_cons_zero, List.set_cons_succ]
            refine takeAt 15 48 (.agg (trC B t.1 cap)) rfl rfl (by kernel_rfl) (by kernel_rfl) (by kernel_rfl) (fun _ _ _ h => h) (loadT7 (w1.heap.size) B t.1 cap (fun _ h => HX1.out.below h HX1.out.lt) rfl rfl (by rfl)) hS ?_
            simp only [Act.put, List.setIfInBounds_toArray, List.set_cons_zero, List.set_cons_succ]
            refine takeAt 17 50 (.agg (trC B2 u.1 cap2)) rfl rfl (by kernel_rfl) (by kernel_rfl) (by kernel_rfl) (fun _ _ _ h => h) (loadT7 (w2.heap.size) B2 u.1 cap2 (fun _ h => HX2.out.below h HX2.out.lt) rfl rfl (by rfl)) hS ?_
            simp only [Act.put, List.setIfInBounds_toArray, List.set_cons_zero, List.set_cons_succ]
            clear hc10
            have hc16 := Ast.deep_any B t.1 cap t.2 _ (by omega) (HN1.out.below hS (Nat.le_refl _))
            rw [← hd1] at hc16
            refine callAt 16 49 rfl rfl (by kernel_rfl) (by rfl) (by kernel_rfl) (hc16) ?_
            rintro e u' ⟨rfl, hb⟩
            have hS := thenB hS hb hS.size
            clear hb
            refine ⟨_, rfl, hS, ?_⟩
            simp only [Act.put, List.setIfInBounds_toArray, List.set_cons_zero, List.set_cons_succ]
            clear hc16
            have hc18 := Ast.deep_any B2 u.1 cap2 u.2 _ (by omega) (HN2.out.below hS (Nat.le_refl _))
            rw [← hd2] at hc18
            refine callAt 18 51 rfl rfl (by kernel_rfl) (by rfl) (by kernel_rfl) (hc18) ?_
            rintro e u' ⟨rfl, hb⟩
            have hS := thenB hS hb hS.size
            clear hb
            refine ⟨_, rfl, hS, ?_⟩
            simp only [Act.put, List.setIfInBounds_toArray, List.set_cons_zero, List.set_cons_succ]
            refine takeAt 19 52 (.int .i64 ((max d1 d2 : Nat) : Int)) rfl rfl (by kernel_rfl) (by kernel_rfl) (by kernel_rfl) (fun _ _ _ h => h) (maxI_y (m := (d1 : Nat)) (n := (d2 : Nat)) (by omega) rfl rfl rfl (by rfl)) hS ?_
            simp only [Act.put, List.setIfInBounds_toArray, List.set_cons_zero, List.set_cons_succ]
            refine takeAt 20 53 (.bool false) rfl rfl (by kernel_rfl) (by kernel_rfl) (by kernel_rfl) (fun _ _ _ h => h) (geqI_y (m := ((max d1 d2 : Nat) : Int)) (n := 40) false (decide_eq_false (by omega)) rfl rfl rfl (by rfl)) hS ?_
            simp only [Act.put, List.setIfInBounds_toArray, List.set_cons_zero, List.set_cons_succ]
            refine takeAt 21 54 (.bool false) rfl rfl (by kernel_rfl) (by kernel_rfl) (by kernel_rfl) (fun _ _ _ h => h) (yields (by rfl) (fun w => by kernel_rfl)) hS ?_
            simp only [Act.put, List.setIfInBounds_toArray, List.set_cons_zero, List.set_cons_succ]
            refine wpAnyH_done (by kernel_rfl) ?_ _
            have HBn := Lib.hid (HB2.out.trans (hS.mono HB2.out.size))
            clear HB2
            have HB2 := HBn
            clear HBn
            have HX1 := Lib.hid (HX1.out.below hS HX1.out.lt)
            have HX2 := Lib.hid (HX2.out.below hS HX2.out.lt)
            have HN1 := Lib.hid (HN1.out.below hS (Nat.le_refl _))
            have HN2 := Lib.hid (HN2.out.below hS (Nat.le_refl _))
            clear hS
            have hc1 := tree_cell HX1.out
            have hc2 := tree_cell HX2.out
            clear hc18
            go_wp2_with fail
            with_reducible refine (parse_at HK.out _ (t.1 + u.1 + 1) 0 (joinT t u 9).2 (alts_z_at HR1.out HR2.out HX.out HY.out (by unfold cntT; exact hg) (by omega) (by omega)) _ (HT.out.call HB2.out)).mono ?_
            rintro e w3 ⟨B3, cap3, rfl, ht, hb⟩
            have HNn := Lib.hid ht.nodes
            have HBn := Lib.hid (thenB HB2.out hb HB2.out.size)
            have HX1 := Lib.hid (HX1.out.below hb HX1.out.lt)
            have HX2 := Lib.hid (HX2.out.below hb HX2.out.lt)
            have HN1 := Lib.hid (HN1.out.below hb (Nat.le_refl _))
            have HN2 := Lib.hid (HN2.out.below hb (Nat.le_refl _))
            clear ht hb
            simp only [] at HNn ⊢
            go_wp2_with (refine storeNewTr rfl _ _ rfl w3 B3 (t.1 + u.1 + 1) cap3 rfl rfl rfl ?_; intro v3 hx hN; refine stopP ?_)
            unfold StopP
            have HX3 := Lib.hid hx.out
            have HB3 := Lib.hid (thenB HBn.out hN.out HBn.out.size)
            have HN3 := Lib.hid (HNn.out.below hN.out (Nat.le_refl _))
            have HX1 := Lib.hid (HX1.out.below hN.out HX1.out.lt)
            have HX2 := Lib.hid (HX2.out.below hN.out HX2.out.lt)
            have HN1 := Lib.hid (HN1.out.below hN.out (Nat.le_refl _))
            have HN2 := Lib.hid (HN2.out.below hN.out (Nat.le_refl _))
            have hc3 := tree_cell HX3.out
            clear hx hN HBn HNn
            go_wp2_with fail
            with_reducible refine (parse_at HK.out _ (t.1 + u.1 + 1) 0 (joinT t u 8).2 (cats_z_at HR1.out HR2.out HX.out HY.out (by unfold cntT; exact hg) (by omega) (by omega)) _ (HT.out.call HB3.out)).mono ?_
            rintro e w4 ⟨B4, cap4, rfl, ht, hb⟩
            have HNn := Lib.hid ht.nodes
            have HBn := Lib.hid (thenB HB3.out hb HB3.out.size)
            have HX1 := Lib.hid (HX1.out.below hb HX1.out.lt)
            have HX2 := Lib.hid (HX2.out.below hb HX2.out.lt)
            have HX3 := Lib.hid (HX3.out.below hb HX3.out.lt)
            have HN1 := Lib.hid (HN1.out.below hb (Nat.le_refl _))
            have HN2 := Lib.hid (HN2.out.below hb (Nat.le_refl _))
            have HN3 := Lib.hid (HN3.out.below hb (Nat.le_refl _))
            clear ht hb
            simp only [] at HNn ⊢
            go_wp2_with (refine storeNewTr rfl _ _ rfl w4 B4 (t.1 + u.1 + 1) cap4 rfl rfl rfl ?_; intro v4 hx hN; refine stopP ?_)
            unfold StopP
            have HX4 := Lib.hid hx.out
            have HB4 := Lib.hid (thenB HBn.out hN.out HBn.out.size)
            have HN4 := Lib.hid (HNn.out.below hN.out (Nat.le_refl _))
            have HX1 := Lib.hid (HX1.out.below hN.out HX1.out.lt)
            have HX2 := Lib.hid (HX2.out.below hN.out HX2.out.lt)
            have HX3 := Lib.hid (HX3.out.below hN.out HX3.out.lt)
            have HN1 := Lib.hid (HN1.out.below hN.out (Nat.le_refl _))
            have HN2 := Lib.hid (HN2.out.below hN.out (Nat.le_refl _))
            have HN3 := Lib.hid (HN3.out.below hN.out (Nat.le_refl _))
            have hc4 := tree_cell HX4.out
            clear hx hN HBn HNn
            go_wp2_with fail
            refine wp_region_held_drew (S := fun u => Below v4.heap.size v4 u) (by kernel_rfl) (show _ from (Below.refl _ v4).drew) (fun hS => ?_)
            generalize World.drew v4 = u0 at hS ⊢
            refine takeAt 0 86 (.int .i64 0) rfl rfl (by kernel_rfl) (by kernel_rfl) (by kernel_rfl) (fun _ _ _ h => h) (yields (by rfl) (fun w => by kernel_rfl)) hS ?_
            simp only [Act.put, List.setIfInBounds_toArray, List.set_cons_zero, List.set_cons_succ]
            refine takeAt 1 87 (.bool true) rfl rfl (by kernel_rfl) (by kernel_rfl) (by kernel_rfl) (fun _ _ _ h => h) (yields (by rfl) (fun w => by kernel_rfl)) hS ?_
            simp only [Act.put, List.setIfInBounds_toArray, List.set_cons_zero, List.set_cons_succ]
            refine takeAt 2 88 (.bool true) rfl rfl (by kernel_rfl) (by kernel_rfl) (by kernel_rfl) (fun _ _ _ h => h) (yields (by rfl) (fun w => by kernel_rfl)) hS ?_
            simp only [Act.put, List.setIfInBounds_toArray, List.set_cons_zero, List.set_cons_succ]
            refine takeAt 3 89 (.int .i64 0) rfl rfl (by kernel_rfl) (by kernel_rfl) (by kernel_rfl) (fun _ _ _ h => h) (yields (by rfl) (fun w => by kernel_rfl)) hS ?_
            simp only [Act.put, List.setIfInBounds_toArray, List.set_cons_zero, List.set_cons_succ]
            refine takeAt 4 90 (.bool true) rfl rfl (by kernel_rfl) (by kernel_rfl) (by kernel_rfl) (fun _ _ _ h => h) (yields (by rfl) (fun w => by kernel_rfl)) hS ?_
            simp only [Act.put, List.setIfInBounds_toArray, List.set_cons_zero, List.set_cons_succ]
            refine takeAt 5 91 (.bool true) rfl rfl (by kernel_rfl) (by kernel_rfl) (by kernel_rfl) (fun _ _ _ h => h) (yields (by rfl) (fun w => by kernel_rfl)) hS ?_
            simp only [Act.put, List.setIfInBounds_toArray, List.set_cons_zero, List.set_cons_succ]
            refine takeAt 6 92 (.bool true) rfl rfl (by kernel_rfl) (by kernel_rfl) (by kernel_rfl) (fun _ _ _ h => h) (yields (by rfl) (fun w => by kernel_rfl)) hS ?_
            simp only [Act.put, List.setIfInBounds_toArray, List.set_cons_zero, List.set_cons_succ]
            refine takeAt 7 93 (.agg (trC B3 (t.1 + u.1 + 1) cap3)) rfl rfl (by kernel_rfl) (by kernel_rfl) (by kernel_rfl) (fun _ _ _ h => h) (loadT7 (w3.heap.size) B3 (t.1 + u.1 + 1) cap3 (fun _ h => HX3.out.below h HX3.out.lt) rfl rfl (by rfl)) hS ?_
            simp only [Act.put, List.setIfInBounds_toArray, List.set_cons_zero, List.set_cons_succ]
            refine takeAt 8 94 (.agg (trC B t.1 cap)) rfl rfl (by kernel_rfl) (by kernel_rfl) (by kernel_rfl) (fun _ _ _ h => h) (loadT7 (w1.heap.size) B t.1 cap (fun _ h => HX1.out.below h HX1.out.lt) rfl rfl (by rfl)) hS ?_
            simp only [Act.put, List.setIfInBounds_toArray, List.set_cons_zero, List.set_cons_succ]
            refine takeAt 9 95 (.agg (trC B2 u.1 cap2)) rfl rfl (by kernel_rfl) (by kernel_rfl) (by kernel_rfl) (fun _ _ _ h => h) (loadT7 (w2.heap.size) B2 u.1 cap2 (fun _ h => HX2.out.below h HX2.out.lt) rfl rfl (by rfl)) hS ?_
            simp only [Act.put, List.setIfInBounds_toArray, List.set_cons_zero, List.set_cons_succ]
            refine callAt 10 96 rfl rfl (by kernel_rfl) (by rfl) (by kernel_rfl) (Ast.join_any B t.1 cap t.2 B2 u.1 cap2 u.2 9 _ (by omega) (by omega) HW1.out HW2.out (HN1.out.below hS (Nat.le_refl _)) (HN2.out.below hS (Nat.le_refl _))) ?_
            intro e u' hres
            obtain ⟨A9, capA9, rfl, ht, hb⟩ := tree_res hres (Nat.le_add_left 1 _)
            have hS := thenB hS hb hS.size
            have hnA9 := ht.nodes
            clear hres ht hb
            refine ⟨_, rfl, hS, ?_⟩
            simp only [Act.put, List.setIfInBounds_toArray, List.set_cons_zero, List.set_cons_succ]
            have hcA9 := Ast.same_any B3 A9 (t.1 + u.1 + 1) (t.1 + u.1 + 1) cap3 capA9 (joinL t.2 t.1 u.2 u.1 9) (joinL t.2 t.1 u.2 u.1 9) _ (by omega) (by omega) (HN3.out.below hS (Nat.le_refl _)) hnA9
            rw [same_self] at hcA9
            refine callAt 11 97 rfl rfl (by kernel_rfl) (by rfl) (by kernel_rfl) (hcA9) ?_
            rintro e u' ⟨rfl, hb⟩
            have hS := thenB hS hb hS.size
            clear hb
            refine ⟨_, rfl, hS, ?_⟩
            simp only [Act.put, List.setIfInBounds_toArray, List.set_cons_zero, List.set_cons_succ]
            refine takeAt 12 98 (.bool true) rfl rfl (by kernel_rfl) (by kernel_rfl) (by kernel_rfl) (fun _ _ _ h => h) (yields (by rfl) (fun w => by kernel_rfl)) hS ?_
            simp only [Act.put, List.setIfInBounds_toArray, List.set_cons_zero, List.set_cons_succ]
            refine takeAt 13 99 (.bool true) rfl rfl (by kernel_rfl) (by kernel_rfl) (by kernel_rfl) (fun _ _ _ h => h) (yields (by rfl) (fun w => by kernel_rfl)) hS ?_
            simp only [Act.put, List.setIfInBounds_toArray, List.set_cons_zero, List.set_cons_succ]
            as_aux_lemma =>
              refine takeAt 14 100 (.agg (trC B4 (t.1 + u.1 + 1) cap4)) rfl rfl (by kernel_rfl) (by kernel_rfl) (by kernel_rfl) (fun _ _ _ h => h) (loadT7 (w4.heap.size) B4 (t.1 + u.1 + 1) cap4 (fun _ h => HX4.out.below h HX4.out.lt) rfl rfl (by rfl)) hS ?_
              simp only [Act.put, List.setIfInBounds_toArray, List.set_cons_zero, List.set_cons_succ]
              refine takeAt 15 101 (.agg (trC B t.1 cap)) rfl rfl (by kernel_rfl) (by kernel_rfl) (by kernel_rfl) (fun _ _ _ h => h) (loadT7 (w1.heap.size) B t.1 cap (fun _ h => HX1.out.below h HX1.out.lt) rfl rfl (by rfl)) hS ?_
              simp only [Act.put, List.setIfInBounds_toArray, List.set_cons_zero, List.set_cons_succ]
              refine takeAt 16 102 (.agg (trC B2 u.1 cap2)) rfl rfl (by kernel_rfl) (by kernel_rfl) (by kernel_rfl) (fun _ _ _ h => h) (loadT7 (w2.heap.size) B2 u.1 cap2 (fun _ h => HX2.out.below h HX2.out.lt) rfl rfl (by rfl)) hS ?_
              simp only [Act.put, List.setIfInBounds_toArray, List.set_cons_zero, List.set_cons_succ]
              clear hcA9 hnA9
              refine callAt 17 103 rfl rfl (by kernel_rfl) (by rfl) (by kernel_rfl) (Ast.join_any B t.1 cap t.2 B2 u.1 cap2 u.2 8 _ (by omega) (by omega) HW1.out HW2.out (HN1.out.below hS (Nat.le_refl _)) (HN2.out.below hS (Nat.le_refl _))) ?_
              intro e u' hres
              obtain ⟨A8, capA8, rfl, ht, hb⟩ := tree_res hres (Nat.le_add_left 1 _)
              have hS := thenB hS hb hS.size
              have hnA8 := ht.nodes
              clear hres ht hb
              refine ⟨_, rfl, hS, ?_⟩
              simp only [Act.put, List.setIfInBounds_toArray, List.set_cons_zero, List.set_cons_succ]
              have hcA8 := Ast.same_any B4 A8 (t.1 + u.1 + 1) (t.1 + u.1 + 1) cap4 capA8 (joinL t.2 t.1 u.2 u.1 8) (joinL t.2 t.1 u.2 u.1 8) _ (by omega) (by omega) (HN4.out.below hS (Nat.le_refl _)) hnA8
              rw [same_self] at hcA8
              refine callAt 18 104 rfl rfl (by kernel_rfl) (by rfl) (by kernel_rfl) (hcA8) ?_
              rintro e u' ⟨rfl, hb⟩
              have hS := thenB hS hb hS.size
              clear hb
              refine ⟨_, rfl, hS, ?_⟩
              simp only [Act.put, List.setIfInBounds_toArray, List.set_cons_zero, List.set_cons_succ]
              refine takeAt 19 105 (.bool true) rfl rfl (by kernel_rfl) (by kernel_rfl) (by kernel_rfl) (fun _ _ _ h => h) (yields (by rfl) (fun w => by kernel_rfl)) hS ?_
              simp only [Act.put, List.setIfInBounds_toArray, List.set_cons_zero, List.set_cons_succ]
              refine takeAt 20 106 (.bool true) rfl rfl (by kernel_rfl) (by kernel_rfl) (by kernel_rfl) (fun _ _ _ h => h) (yields (by rfl) (fun w => by kernel_rfl)) hS ?_
              simp only [Act.put, List.setIfInBounds_toArray, List.set_cons_zero, List.set_cons_succ]
              refine callAt 21 107 rfl rfl (by kernel_rfl) (by rfl) (by kernel_rfl) (HF.out _ (HT.out.call (HB4.out.trans (hS.mono HB4.out.size)))) ?_
              rintro e u' ⟨rfl, hb⟩
              have hS := thenB hS hb hS.size
              clear hb
              refine ⟨_, rfl, hS, ?_⟩
              simp only [Act.put, List.setIfInBounds_toArray, List.set_cons_zero, List.set_cons_succ]
              refine takeAt 22 108 (.bool true) rfl rfl (by kernel_rfl) (by kernel_rfl) (by kernel_rfl) (fun _ _ _ h => h) (yields (by rfl) (fun w => by kernel_rfl)) hS ?_
              simp only [Act.put, List.setIfInBounds_toArray, List.set_cons_zero, List.set_cons_succ]
              refine takeAt 23 4 (.bool true) rfl rfl (by kernel_rfl) (by kernel_rfl) (by kernel_rfl) (fun _ _ _ h => h) (yields (by rfl) (fun w => by kernel_rfl)) hS ?_
              simp only [Act.put, List.setIfInBounds_toArray, List.set_cons_zero, List.set_cons_succ]
              refine wpAnyH_done (by kernel_rfl) ?_ _
              go_wp2_with fail
              go_ret
              exact ⟨rfl, HB4.out.trans (hS.mono HB4.out.size)⟩
      · clear hr hr' hd hd'
        go_wp2_with fail
        refine wp_region_held_drew (S := fun u => Below v2.heap.size v2 u) (by kernel_rfl) (show _ from (Below.refl _ v2).drew) (fun hS => ?_)
        generalize World.drew v2 = u0 at hS ⊢
        refine takeAt 0 33 (.int .i64 0) rfl rfl (by kernel_rfl) (by kernel_rfl) (by kernel_rfl) (fun _ _ _ h => h) (yields (by rfl) (fun w => by kernel_rfl)) hS ?_
        simp only [Act.put, List.setIfInBounds_toArray, List.set_cons_zero, List.set_cons_succ]
        refine takeAt 1 34 (.bool false) rfl rfl (by kernel_rfl) (by kernel_rfl) (by kernel_rfl) (fun _ _ _ h => h) (yields (by rfl) (fun w => by kernel_rfl)) hS ?_
        simp only [Act.put, List.setIfInBounds_toArray, List.set_cons_zero, List.set_cons_succ]
        refine takeAt 2 35 (.bool false) rfl rfl (by kernel_rfl) (by kernel_rfl) (by kernel_rfl) (fun _ _ _ h => h) (yields (by rfl) (fun w => by kernel_rfl)) hS ?_
        simp only [Act.put, List.setIfInBounds_toArray, List.set_cons_zero, List.set_cons_succ]
        refine takeAt 3 36 (.int .i64 0) rfl rfl (by kernel_rfl) (by kernel_rfl) (by kernel_rfl) (fun _ _ _ h => h) (yields (by rfl) (fun w => by kernel_rfl)) hS ?_
        simp only [Act.put, List.setIfInBounds_toArray, List.set_cons_zero, List.set_cons_succ]
        refine takeAt 4 37 (.bool false) rfl rfl (by kernel_rfl) (by kernel_rfl) (by kernel_rfl) (fun _ _ _ h => h) (yields (by rfl) (fun w => by kernel_rfl)) hS ?_
        simp only [Act.put, List.setIfInBounds_toArray, List.set_cons_zero, List.set_cons_succ]
        refine takeAt 5 38 (.bool false) rfl rfl (by kernel_rfl) (by kernel_rfl) (by kernel_rfl) (fun _ _ _ h => h) (yields (by rfl) (fun w => by kernel_rfl)) hS ?_
        simp only [Act.put, List.setIfInBounds_toArray, List.set_cons_zero, List.set_cons_succ]
        refine takeAt 6 39 (.bool false) rfl rfl (by kernel_rfl) (by kernel_rfl) (by kernel_rfl) (fun _ _ _ h => h) (yields (by rfl) (fun w => by kernel_rfl)) hS ?_
        simp only [Act.put, List.setIfInBounds_toArray, List.set_cons_zero, List.set_cons_succ]
        refine takeAt 7 40 (.agg (trC B t.1 cap)) rfl rfl (by kernel_rfl) (by kernel_rfl) (by kernel_rfl) (fun _ _ _ h => h) (loadT7 (w1.heap.size) B t.1 cap (fun _ h => HX1.out.below h HX1.out.lt) rfl rfl (by rfl)) hS ?_
        simp only [Act.put, List.setIfInBounds_toArray, List.set_cons_zero, List.set_cons_succ]
        refine takeAt 9 42 (.agg (trC B2 u.1 cap2)) rfl rfl (by kernel_rfl) (by kernel_rfl) (by kernel_rfl) (fun _ _ _ h => h) (loadT7 (w2.heap.size) B2 u.1 cap2 (fun _ h => HX2.out.below h HX2.out.lt) rfl rfl (by rfl)) hS ?_
        simp only [Act.put, List.setIfInBounds_toArray, List.set_cons_zero, List.set_cons_succ]
        refine callAt 8 41 rfl rfl (by kernel_rfl) (by rfl) (by kernel_rfl) (Ast.groups_any B t.1 cap t.2 _ (by omega) (HN1.out.below hS (Nat.le_refl _))) ?_
        rintro e u' ⟨rfl, hb⟩
        have hS := thenB hS hb hS.size
        clear hb
        refine ⟨_, rfl, hS, ?_⟩
        simp only [Act.put, List.setIfInBounds_toArray, List.set_cons_zero, List.set_cons_succ]
        refine callAt 10 43 rfl rfl (by kernel_rfl) (by rfl) (by kernel_rfl) (Ast.groups_any B2 u.1 cap2 u.2 _ (by omega) (HN2.out.below hS (Nat.le_refl _))) ?_
        rintro e u' ⟨rfl, hb⟩
        have hS := thenB hS hb hS.size
        clear hb
        refine ⟨_, rfl, hS, ?_⟩
        simp only [Act.put, List.setIfInBounds_toArray, List.set_cons_zero, List.set_cons_succ]
        refine takeAt 11 44 (.int .i64 (cntG t.2 t.1 + cntG u.2 u.1 : Nat)) rfl rfl (by kernel_rfl) (by kernel_rfl) (by kernel_rfl) (fun _ _ _ h => h) (addG_y (m := (cntG t.2 t.1 : Nat)) (n := (cntG u.2 u.1 : Nat)) (by omega) (by omega) (by omega) rfl rfl rfl (by rfl)) hS ?_
        simp only [Act.put, List.setIfInBounds_toArray, List.set_cons_zero, List.set_cons_succ]
        refine takeAt 12 45 (.bool true) rfl rfl (by kernel_rfl) (by kernel_rfl) (by kernel_rfl) (fun _ _ _ h => h) (gtrI_y (m := (cntG t.2 t.1 + cntG u.2 u.1 : Nat)) (n := 0) true (decide_eq_true (by omega)) rfl rfl rfl (by rfl)) hS ?_
        simp only [Act.put, List.setIfInBounds_toArray, List.set_cons_zero, List.set_cons_succ]
        refine takeAt 13 46 (.bool true) rfl rfl (by kernel_rfl) (by kernel_rfl) (by kernel_rfl) (fun _ _ _ h => h) (yields (by rfl) (fun w => by kernel_rfl)) hS ?_
        simp only [Act.put, List.setIfInBounds_toArray, List.set_cons_zero, List.set_cons_succ]
        as_aux_lemma =>
          refine takeAt 14 47 (.bool true) rfl rfl (by kernel_rfl) (by kernel_rfl) (by kernel_rfl) (fun _ _ _ h => h) (yields (by rfl) (fun w => by kernel_rfl)) hS ?_
          simp only [Act.put, List.setIfInBounds_toArray, List.set_cons_zero, List.set_cons_succ]
          refine takeAt 15 48 (undef) rfl rfl (by kernel_rfl) (by kernel_rfl) (by kernel_rfl) (fun _ _ _ h => h) (skipped (by rfl)) hS ?_
          simp only [Act.put, List.setIfInBounds_toArray, List.set_cons_zero, List.set_cons_succ]
          refine takeAt 16 49 (undef) rfl rfl (by kernel_rfl) (by kernel_rfl) (by kernel_rfl) (fun _ _ _ h => h) (skipped (by rfl)) hS ?_
          simp only [Act.put, List.setIfInBounds_toArray, List.set_cons_zero, List.set_cons_succ]
          refine takeAt 17 50 (undef) rfl rfl (by kernel_rfl) (by kernel_rfl) (by kernel_rfl) (fun _ _ _ h => h) (skipped (by rfl)) hS ?_
          simp only [Act.put, List.setIfInBounds_toArray, List.set_cons_zero, List.set_cons_succ]
          refine takeAt 18 51 (undef) rfl rfl (by kernel_rfl) (by kernel_rfl) (by kernel_rfl) (fun _ _ _ h => h) (skipped (by rfl)) hS ?_
          simp only [Act.put, List.setIfInBounds_toArray, List.set_cons_zero, List.set_cons_succ]
          refine takeAt 19 52 (undef) rfl rfl (by kernel_rfl) (by kernel_rfl) (by kernel_rfl) (fun _ _ _ h => h) (skipped (by rfl)) hS ?_
          simp only [Act.put, List.setIfInBounds_toArray, List.set_cons_zero, List.set_cons_succ]
          refine takeAt 20 53 (undef) rfl rfl (by kernel_rfl) (by kernel_rfl) (by kernel_rfl) (fun _ _ _ h => h) (skipped (by rfl)) hS ?_
          simp only [Act.put, List.setIfInBounds_toArray, List.set_cons_zero, List.set_cons_succ]
          refine takeAt 21 54 (.bool true) rfl rfl (by kernel_rfl) (by kernel_rfl) (by kernel_rfl) (fun _ _ _ h => h) (yields (by rfl) (fun w => by kernel_rfl)) hS ?_
          simp only [Act.put, List.setIfInBounds_toArray, List.set_cons_zero, List.set_cons_succ]
          refine wpAnyH_done (by kernel_rfl) ?_ _
          have HBn := Lib.hid (HB2.out.trans (hS.mono HB2.out.size))
          clear HB2
          have HB2 := HBn
          clear HBn
          have HX1 := Lib.hid (HX1.out.below hS HX1.out.lt)
          have HX2 := Lib.hid (HX2.out.below hS HX2.out.lt)
          have HN1 := Lib.hid (HN1.out.below hS (Nat.le_refl _))
          have HN2 := Lib.hid (HN2.out.below hS (Nat.le_refl _))
          clear hS
          have hc1 := tree_cell HX1.out
          have hc2 := tree_cell HX2.out
          go_wp2_with fail
          with_reducible refine (HF.out _ (HT.out.call HB2.out)).mono ?_
          rintro e wf9 ⟨rfl, hb⟩
          have HZ := Lib.hid (thenB HB2.out hb HB2.out.size)
          clear hb
          go_wp2_with fail
          go_ret
          exact ⟨rfl, HZ.out⟩

theorem parseAlts_any (K : PKit) (p q : ByteArray) (w : World) (hs : p.size ≤ 9223372036854775807) (hs' : q.size ≤ 9223372036854775807) (hw : Tabs w) : Calls Tryz.prog 6 #[.string p, .string q] w fun e w' => e = .returned (.bool true) ∧ Below w.heap.size w w' := by
  by_cases h : p.size ≤ 100
  · by_cases h2 : q.size ≤ 100
    · exact parseAlts_ss K p q w hs hs' hw h h2
    · exact parseAlts_sl K p q w hs hs' hw h (by omega)
  · by_cases h2 : q.size ≤ 100
    · exact parseAlts_ls K p q w hs hs' hw (by omega) h2
    · exact parseAlts_ll K p q w hs hs' hw (by omega) (by omega)
end Go.Proofs.YtdnbpbngoiahlaaGreatDoor
