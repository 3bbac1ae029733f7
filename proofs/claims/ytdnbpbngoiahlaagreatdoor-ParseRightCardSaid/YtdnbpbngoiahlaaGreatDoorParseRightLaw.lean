/-
  Layer 7: the walk of the statement ParseRight.
-/
import Derived.Test.YtdnbpbngoiahlaaGreatDoorParTakes
import Derived.Test.YtdnbpbngoiahlaaGreatDoorParRightM
namespace Go.Proofs.YtdnbpbngoiahlaaGreatDoor
open Go.RowKit
open Ast (Nd ndV joinL wrapL deepZ rightZ cntG Nodes)

set_option maxRecDepth 100000 in
set_option maxHeartbeats 32000000 in
theorem parseRight_s (K : PKit) (p : ByteArray) (w : World) (hs : p.size ≤ 9223372036854775807) (hw : Tabs w) (hp : p.size ≤ 300) : Calls Tryz.prog 4 #[.string p] w fun e w' => e = .returned (.bool true) ∧ Below w.heap.size w w' := by
  have HF := Lib.hid (fun w (h : Tabs w) => fixed_any K w h)
  have HP0 := Lib.hid (fun p w (h : Tabs w) => parse_g K p w h)
  have HK := Lib.hid K
  have HT := Lib.hid hw
  clear hw K
  go_enter Tryz.func4, Tryz.ntmps4
  go_wp2_with fail
  have HX := Lib.hid hp
  obtain ⟨X, rfl⟩ : ∃ X, X = p := ⟨_, rfl⟩
  clear hp
  have HB0 := Lib.hid (Below.refl w.heap.size w)
  go_wp2_with fail
  with_reducible refine (HP0.out X _ (HT.out.call HB0.out)).mono ?_
  rintro e w1 ⟨B, cap, rfl, ht, hb⟩
  have HNn := Lib.hid ht.nodes
  have HBn := Lib.hid (thenB HB0.out hb HB0.out.size)

  have HW1 := Lib.hid ht.none
  clear ht hb
  have HQ1 := Lib.hid (parse_cases X (by have := HX.out; omega))
  have HE1 := Lib.hid (show ∃ R, R = parseZ X from ⟨_, rfl⟩)
  obtain ⟨R, hR⟩ := HE1.out
  rw [← hR] at HNn HW1 HQ1 ⊢
  have HR1 := Lib.hid hR
  clear hR HE1
  obtain ⟨t, er⟩ := R
  simp only [] at HNn HW1 HQ1 ⊢
  go_wp2_with (refine storeNewTr rfl _ _ rfl w1 B t.1 cap rfl rfl rfl ?_; intro v1 hx hN; refine stopP ?_)
  unfold StopP
  have HX1 := Lib.hid hx.out
  have HB1 := Lib.hid (thenB HBn.out hN.out HBn.out.size)
  have HN1 := Lib.hid (HNn.out.below hN.out (Nat.le_refl _))

  have hc1 := tree_cell HX1.out
  clear hx hN HBn HNn
  rcases HQ1.out with ⟨h0, he⟩ | ⟨rfl, hr, hd, hn⟩
  · clear HQ1
    obtain ⟨n, L⟩ := t
    simp only [] at h0
    subst h0
    rcases he with rfl | rfl | rfl | rfl
    · go_wp2_with fail
      with_reducible refine (HF.out _ (HT.out.call HB1.out)).mono ?_
      rintro e wf2 ⟨rfl, hb⟩
      have HZ := Lib.hid (thenB HB1.out hb HB1.out.size)
      clear hb
      go_wp2_with fail
      go_ret
      exact ⟨rfl, HZ.out⟩
    · go_wp2_with fail
      with_reducible refine (HF.out _ (HT.out.call HB1.out)).mono ?_
      rintro e wf2 ⟨rfl, hb⟩
      have HZ := Lib.hid (thenB HB1.out hb HB1.out.size)
      clear hb
      go_wp2_with fail
      go_ret
      exact ⟨rfl, HZ.out⟩
    · go_wp2_with fail
      with_reducible refine (HF.out _ (HT.out.call HB1.out)).mono ?_
      rintro e wf2 ⟨rfl, hb⟩
      have HZ := Lib.hid (thenB HB1.out hb HB1.out.size)
      clear hb
      go_wp2_with fail
      go_ret
      exact ⟨rfl, HZ.out⟩
    · go_wp2_with fail
      with_reducible refine (HF.out _ (HT.out.call HB1.out)).mono ?_
      rintro e wf2 ⟨rfl, hb⟩
      have HZ := Lib.hid (thenB HB1.out hb HB1.out.size)
      clear hb
      go_wp2_with fail
      go_ret
      exact ⟨rfl, HZ.out⟩
  · clear HQ1
    go_wp2_with (first | (refine loadTr rfl _ rfl _ _ _ _ rfl HX1.out ?_) | (refine loadTr rfl _ rfl _ _ _ _ rfl HX2.out ?_) | (refine loadTr rfl _ rfl _ _ _ _ rfl HX3.out ?_))
    refine (Ast.right_any HK.out.sort HK.out.none B t.1 cap t.2 _ (by omega) HN1.out).mono ?_
    rintro e w3 ⟨rfl, hb⟩
    have HBn := Lib.hid (thenB HB1.out hb HB1.out.size)
    clear HB1
    have HB1 := HBn
    clear HBn
    have HX1 := Lib.hid (HX1.out.below hb HX1.out.lt)
    have HN1 := Lib.hid (HN1.out.below hb (Nat.le_refl _))
    clear hb
    rw [hr]
    have hc1 := tree_cell HX1.out
    go_wp2_with (first | (refine loadTr rfl _ rfl _ _ _ _ rfl HX1.out ?_) | (refine loadTr rfl _ rfl _ _ _ _ rfl HX2.out ?_) | (refine loadTr rfl _ rfl _ _ _ _ rfl HX3.out ?_))
    refine (Ast.deep_any B t.1 cap t.2 _ (by omega) HN1.out).mono ?_
    rintro e w4 ⟨rfl, hb⟩
    have HBn := Lib.hid (thenB HB1.out hb HB1.out.size)
    clear HB1
    have HB1 := HBn
    clear HBn
    have HX1 := Lib.hid (HX1.out.below hb HX1.out.lt)
    have HN1 := Lib.hid (HN1.out.below hb (Nat.le_refl _))
    clear hb
    obtain ⟨d, hd0⟩ : ∃ d, d = deepZ t.2 t.1 := ⟨_, rfl⟩
    rw [← hd0] at hd ⊢
    clear hd0
    have hd2 : (1 : Int) ≤ (d : Int) := by omega
    have hc1 := tree_cell HX1.out
    go_wp2_with fail
    with_reducible refine (HF.out _ (HT.out.call HB1.out)).mono ?_
    rintro e wf5 ⟨rfl, hb⟩
    have HZ := Lib.hid (thenB HB1.out hb HB1.out.size)
    clear hb
    go_wp2_with fail
    go_ret
    exact ⟨rfl, HZ.out⟩
set_option maxRecDepth 100000 in
set_option maxHeartbeats 32000000 in
theorem parseRight_l (K : PKit) (p : ByteArray) (w : World) (hs : p.size ≤ 9223372036854775807) (hw : Tabs w) (hp : 300 < p.size) : Calls Tryz.prog 4 #[.string p] w fun e w' => e = .returned (.bool true) ∧ Below w.heap.size w w' := by
  have HF := Lib.hid (fun w (h : Tabs w) => fixed_any K w h)
  have HP0 := Lib.hid (fun p w (h : Tabs w) => parse_g K p w h)
  have HK := Lib.hid K
  have HT := Lib.hid hw
  clear hw K
  go_enter Tryz.func4, Tryz.ntmps4
  go_wp2_with fail
  have hXs0 : (p.extract 0 300).size = 300 := by rw [ByteArray.size_extract]; omega
  generalize p.extract 0 300 = X at hXs0 ⊢
  have HX := Lib.hid (show X.size ≤ 300 by omega)
  clear hXs0 hp hs
  have HB0 := Lib.hid (Below.refl w.heap.size w)
  go_wp2_with fail
  with_reducible refine (HP0.out X _ (HT.out.call HB0.out)).mono ?_
  rintro e w1 ⟨B, cap, rfl, ht, hb⟩
  have HNn := Lib.hid ht.nodes
  have HBn := Lib.hid (thenB HB0.out hb HB0.out.size)

  have HW1 := Lib.hid ht.none
  clear ht hb
  have HQ1 := Lib.hid (parse_cases X (by have := HX.out; omega))
  have HE1 := Lib.hid (show ∃ R, R = parseZ X from ⟨_, rfl⟩)
  obtain ⟨R, hR⟩ := HE1.out
  rw [← hR] at HNn HW1 HQ1 ⊢
  have HR1 := Lib.hid hR
  clear hR HE1
  obtain ⟨t, er⟩ := R
  simp only [] at HNn HW1 HQ1 ⊢
  go_wp2_with (refine storeNewTr rfl _ _ rfl w1 B t.1 cap rfl rfl rfl ?_; intro v1 hx hN; refine stopP ?_)
  unfold StopP
  have HX1 := Lib.hid hx.out
  have HB1 := Lib.hid (thenB HBn.out hN.out HBn.out.size)
  have HN1 := Lib.hid (HNn.out.below hN.out (Nat.le_refl _))

  have hc1 := tree_cell HX1.out
  clear hx hN HBn HNn
  rcases HQ1.out with ⟨h0, he⟩ | ⟨rfl, hr, hd, hn⟩
  · clear HQ1
    obtain ⟨n, L⟩ := t
    simp only [] at h0
    subst h0
    rcases he with rfl | rfl | rfl | rfl
    · go_wp2_with fail
      with_reducible refine (HF.out _ (HT.out.call HB1.out)).mono ?_
      rintro e wf2 ⟨rfl, hb⟩
      have HZ := Lib.hid (thenB HB1.out hb HB1.out.size)
      clear hb
      go_wp2_with fail
      go_ret
      exact ⟨rfl, HZ.out⟩
    · go_wp2_with fail
      with_reducible refine (HF.out _ (HT.out.call HB1.out)).mono ?_
      rintro e wf2 ⟨rfl, hb⟩
      have HZ := Lib.hid (thenB HB1.out hb HB1.out.size)
      clear hb
      go_wp2_with fail
      go_ret
      exact ⟨rfl, HZ.out⟩
    · go_wp2_with fail
      with_reducible refine (HF.out _ (HT.out.call HB1.out)).mono ?_
      rintro e wf2 ⟨rfl, hb⟩
      have HZ := Lib.hid (thenB HB1.out hb HB1.out.size)
      clear hb
      go_wp2_with fail
      go_ret
      exact ⟨rfl, HZ.out⟩
    · go_wp2_with fail
      with_reducible refine (HF.out _ (HT.out.call HB1.out)).mono ?_
      rintro e wf2 ⟨rfl, hb⟩
      have HZ := Lib.hid (thenB HB1.out hb HB1.out.size)
      clear hb
      go_wp2_with fail
      go_ret
      exact ⟨rfl, HZ.out⟩
  · clear HQ1
    go_wp2_with (first | (refine loadTr rfl _ rfl _ _ _ _ rfl HX1.out ?_) | (refine loadTr rfl _ rfl _ _ _ _ rfl HX2.out ?_) | (refine loadTr rfl _ rfl _ _ _ _ rfl HX3.out ?_))
    refine (Ast.right_any HK.out.sort HK.out.none B t.1 cap t.2 _ (by omega) HN1.out).mono ?_
    rintro e w3 ⟨rfl, hb⟩
    have HBn := Lib.hid (thenB HB1.out hb HB1.out.size)
    clear HB1
    have HB1 := HBn
    clear HBn
    have HX1 := Lib.hid (HX1.out.below hb HX1.out.lt)
    have HN1 := Lib.hid (HN1.out.below hb (Nat.le_refl _))
    clear hb
    rw [hr]
    have hc1 := tree_cell HX1.out
    go_wp2_with (first | (refine loadTr rfl _ rfl _ _ _ _ rfl HX1.out ?_) | (refine loadTr rfl _ rfl _ _ _ _ rfl HX2.out ?_) | (refine loadTr rfl _ rfl _ _ _ _ rfl HX3.out ?_))
    refine (Ast.deep_any B t.1 cap t.2 _ (by omega) HN1.out).mono ?_
    rintro e w4 ⟨rfl, hb⟩
    have HBn := Lib.hid (thenB HB1.out hb HB1.out.size)
    clear HB1
    have HB1 := HBn
    clear HBn
    have HX1 := Lib.hid (HX1.out.below hb HX1.out.lt)
    have HN1 := Lib.hid (HN1.out.below hb (Nat.le_refl _))
    clear hb
    obtain ⟨d, hd0⟩ : ∃ d, d = deepZ t.2 t.1 := ⟨_, rfl⟩
    rw [← hd0] at hd ⊢
    clear hd0
    have hd2 : (1 : Int) ≤ (d : Int) := by omega
    have hc1 := tree_cell HX1.out
    go_wp2_with fail
    with_reducible refine (HF.out _ (HT.out.call HB1.out)).mono ?_
    rintro e wf5 ⟨rfl, hb⟩
    have HZ := Lib.hid (thenB HB1.out hb HB1.out.size)
    clear hb
    go_wp2_with fail
    go_ret
    exact ⟨rfl, HZ.out⟩

theorem parseRight_any (K : PKit) (p : ByteArray) (w : World) (hs : p.size ≤ 9223372036854775807) (hw : Tabs w) : Calls Tryz.prog 4 #[.string p] w fun e w' => e = .returned (.bool true) ∧ Below w.heap.size w w' := by
  by_cases h : p.size ≤ 300
  · exact parseRight_s K p w hs hw h
  · exact parseRight_l K p w hs hw (by omega)
end Go.Proofs.YtdnbpbngoiahlaaGreatDoor
