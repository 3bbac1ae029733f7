/-
  Layer 7: the walk of the statement ParseFlags.
-/
import Derived.Test.YtdnbpbngoiahlaaGreatDoorParFlagK
namespace Go.Proofs.YtdnbpbngoiahlaaGreatDoor
open Go.RowKit
open Ast (Nd ndV joinL wrapL deepZ rightZ cntG Nodes)

theorem nodes_but {g : Nat} {w u : World} {A : Option Addr} {n : Nat} {l : Nat → Nd} (h : Nodes w A n l) (hb : ButR g w.heap.size w u) (hg : ∀ a, A = some a → a.block ≠ g) : Nodes u A n l := fun i hi => by
  obtain ⟨b, o, rfl, h2, h3⟩ := h i hi
  have hk : u.heap[b]? = w.heap[b]? := hb.block b h2 (hg _ rfl)
  exact ⟨b, o, rfl, Nat.lt_of_lt_of_le h2 hb.size, h3.keep fun j => by unfold World.cell?; simp only [hk]⟩
set_option maxRecDepth 100000 in
set_option maxHeartbeats 32000000 in
theorem parseFlags_s (K : PKit) (p : ByteArray) (w : World) (hs : p.size ≤ 9223372036854775807) (hw : Tabs w) (hp : p.size ≤ 200) : Calls Tryz.prog 7 #[.string p] w fun e w' => e = .returned (.bool true) ∧ Below w.heap.size w w' := by
  have HF := Lib.hid (fun w (h : Tabs w) => fixed_any K w h)
  have HP0 := Lib.hid (fun p w (h : Tabs w) => parse_g K p w h)
  have HK := Lib.hid K
  have HT := Lib.hid hw
  clear hw K
  go_enter Tryz.func7, Tryz.ntmps7
  go_wp2_with fail
  have HX := Lib.hid hp
  obtain ⟨X, rfl⟩ : ∃ X, X = p := ⟨_, rfl⟩
  clear hp
  have HB0 := Lib.hid (Below.refl w.heap.size w)
  go_wp2_with fail
  with_reducible refine (HP0.out X _ (HT.out.call HB0.out)).mono ?_
  rintro e w1 ⟨B, cap, rfl, ht, hb⟩
  have HNn := Lib.hid ht.nodes
  have HBn := Lib.hid (thenB HB0.out hb HB0.out.size)

  have HW1 := Lib.hid ht.none
  clear ht hb
  have HQ1 := Lib.hid (parse_cases X (by have := HX.out; omega))
  have HE1 := Lib.hid (show ∃ R, R = parseZ X from ⟨_, rfl⟩)
  obtain ⟨R, hR⟩ := HE1.out
  rw [← hR] at HNn HW1 HQ1 ⊢
  have HR1 := Lib.hid hR
  clear hR HE1
  obtain ⟨t, er⟩ := R
  simp only [] at HNn HW1 HQ1 ⊢
  go_wp2_with (refine storeNewTr rfl _ _ rfl w1 B t.1 cap rfl rfl rfl ?_; intro v1 hx hN; refine stopP ?_)
  unfold StopP
  have HX1 := Lib.hid hx.out
  have HB1 := Lib.hid (thenB HBn.out hN.out HBn.out.size)
  have HN1 := Lib.hid (HNn.out.below hN.out (Nat.le_refl _))

  have hc1 := tree_cell HX1.out
  clear hx hN HBn HNn
  have hz0 : ¬ 4 + X.size > 9223372036854775807 := by have := HX.out; omega
  have hz1 : ¬ 4 + X.size + 1 > 9223372036854775807 := by have := HX.out; omega
  rcases HQ1.out with ⟨h0, he⟩ | ⟨rfl, hr, hd, hn⟩
  · have he0 : (er == 0) = false := by simp; omega
    clear HQ1 he h0
    go_wp2_with fail
    with_reducible refine (HP0.out _ _ (HT.out.call HB1.out)).mono ?_
    rintro e w2 ⟨B2, cap2, rfl, ht, hb⟩
    have HNn := Lib.hid ht.nodes
    have HBn := Lib.hid (thenB HB1.out hb HB1.out.size)
    have HX1 := Lib.hid (HX1.out.below hb HX1.out.lt)
    have HN1 := Lib.hid (HN1.out.below hb (Nat.le_refl _))
    clear ht hb
    obtain ⟨R2, hR2⟩ : ∃ R, R = parseZ (flg7 ++ X ++ post7) := ⟨_, rfl⟩
    rw [show parseZ (({ data := #[40, 63, 105, 58] } : ByteArray) ++ X ++ ({ data := #[41] } : ByteArray)) = R2 from hR2.symm] at HNn ⊢
    clear hR2
    obtain ⟨u, fr⟩ := R2
    simp only [] at HNn ⊢
    go_wp2_with (refine storeNewTr rfl _ _ rfl w2 B2 u.1 cap2 rfl rfl rfl ?_; intro v2 hx hN; refine stopP ?_)
    unfold StopP
    have HX2 := Lib.hid hx.out
    have HB2 := Lib.hid (thenB HBn.out hN.out HBn.out.size)
    have HN2 := Lib.hid (HNn.out.below hN.out (Nat.le_refl _))
    have HX1 := Lib.hid (HX1.out.below hN.out HX1.out.lt)
    have HN1 := Lib.hid (HN1.out.below hN.out (Nat.le_refl _))
    have hc2 := tree_cell HX2.out
    clear hx hN HBn HNn
    go_wp2_with fail
    with_reducible refine (HF.out _ (HT.out.call HB2.out)).mono ?_
    rintro e wf3 ⟨rfl, hb⟩
    have HZ := Lib.hid (thenB HB2.out hb HB2.out.size)
    clear hb
    go_wp2_with fail
    go_ret
    exact ⟨rfl, HZ.out⟩
  · obtain ⟨L, hL, hFN⟩ := flags_z_at HR1.out (by have := HX.out; omega)
    obtain ⟨n, tL⟩ := t
    simp only [] at hL hFN hr hd hn HN1 HX1 HW1 hc1
    have HFN := Lib.hid hFN
    have HL5 := Lib.hid (show n ≤ 1000 by omega)
    clear hFN hr hd hn HQ1 HR1
    go_wp2_with fail
    with_reducible refine (parse_at HK.out _ n 0 L hL _ (HT.out.call HB1.out)).mono ?_
    rintro e w2 ⟨B2, cap2, rfl, ht, hb⟩
    have HNn := Lib.hid ht.nodes
    have HBn := Lib.hid (thenB HB1.out hb HB1.out.size)
    have HX1 := Lib.hid (HX1.out.below hb HX1.out.lt)
    have HN1 := Lib.hid (HN1.out.below hb (Nat.le_refl _))
    clear ht hb
    simp only [] at HNn ⊢
    go_wp2_with (refine storeNewTr rfl _ _ rfl w2 B2 n cap2 rfl rfl rfl ?_; intro v2 hx hN; refine stopP ?_)
    unfold StopP
    have HX2 := Lib.hid hx.out
    have HB2 := Lib.hid (thenB HBn.out hN.out HBn.out.size)
    have HN2 := Lib.hid (HNn.out.below hN.out (Nat.le_refl _))
    have HX1 := Lib.hid (HX1.out.below hN.out HX1.out.lt)
    have HN1 := Lib.hid (HN1.out.below hN.out (Nat.le_refl _))
    have hc2 := tree_cell HX2.out
    clear hx hN HBn HNn
    have hc1 := tree_cell HX1.out
    go_wp2_with fail
    go_loopw [7] (fun s7 wq => ∃ i : Nat, i ≤ n ∧ s7 = .int .i64 i ∧ Below w.heap.size w wq ∧ BoxV 24 wq w1.heap.size (trC B n cap) ∧ BoxV 24 wq w2.heap.size (trC B2 n cap2) ∧ Nodes wq B n tL ∧ Nodes wq B2 n L) (fun s7 _ => n - (intOf s7).toNat)
    case atStart => exact ⟨0, Nat.zero_le _, rfl, HB2.out, HX1.out, HX2.out, HN1.out, HN2.out⟩
    case round =>
      obtain ⟨i, hi, rfl, hb, hbx1, hbx2, hnd1, hnd2⟩ := hrel
      have HBi := Lib.hid hb
      have HXi1 := Lib.hid hbx1
      have HXi2 := Lib.hid hbx2
      have HNi1 := Lib.hid hnd1
      have HNi2 := Lib.hid hnd2
      have hci1 := tree_cell hbx1
      have hci2 := tree_cell hbx2
      by_cases hlt : i < n
      · obtain ⟨b, o, rfl, hbw, hx⟩ := hnd1 i hlt
        obtain ⟨b', o', rfl, hbw', hx'⟩ := hnd2 i hlt
        obtain ⟨S, ⟨hS0, hS1, hS2, hS3⟩, hxy⟩ := (HFN.out i hlt).one
        have HNL1 := Lib.hid (show ∀ a, some (⟨b, o, none⟩ : Addr) = some a → a.block < wr.heap.size from fun a ha => by cases ha; exact hbw)
        have HNL2 := Lib.hid (show ∀ a, some (⟨b', o', none⟩ : Addr) = some a → a.block < wr.heap.size from fun a ha => by cases ha; exact hbw')
        have HA1 := Lib.hid (show ∀ u, Below wr.heap.size wr u → Ast.At12 u b (o + i * 12) (tL i) from fun u hu => hx.keep fun j => hu.cell (p := ⟨b, j, none⟩) hbw)
        have HA2 := Lib.hid (show ∀ u, Below wr.heap.size wr u → Ast.At12 u b' (o' + i * 12) (L i) from fun u hu => hx'.keep fun j => hu.cell (p := ⟨b', j, none⟩) hbw')
        obtain ⟨x, hx0⟩ : ∃ x, x = tL i := ⟨_, rfl⟩
        obtain ⟨y, hy0⟩ : ∃ y, y = L i := ⟨_, rfl⟩
        rw [← hx0] at HA1 hS0 hS1 hS2 hS3 hxy
        rw [← hy0] at HA2 hxy
        have HLT := Lib.hid hlt
        have r5 : (i : Int) < (n : Int) := by omega
        clear hx hx' hx0 hy0 hb hbx1 hbx2 hnd1 hnd2 hlt hi hbw hbw'
        go_wp2_with fail
        refine wp_region_held_drew (S := fun u => Below wr.heap.size wr u) (by kernel_rfl) (show _ from (Below.refl _ wr).drew) (fun hS => ?_)
        generalize World.drew wr = u0 at hS ⊢
        refine takeAt 0 48 (.pointer (some ⟨w1.heap.size, 0, none⟩)) rfl rfl (by kernel_rfl) (by kernel_rfl) (by kernel_rfl) (fun _ _ _ h => h) (yields (by rfl) (fun w => by kernel_rfl)) hS ?_
        simp only [Act.put, List.setIfInBounds_toArray, List.set_cons_zero, List.set_cons_succ]
        refine takeAt 1 49 (.slice (some ⟨b, o, none⟩) n cap) rfl rfl (by kernel_rfl) (by kernel_rfl) (by kernel_rfl) (fun _ _ _ h => h) (loadSl_y w1.heap.size (some ⟨b, o, none⟩) n cap (fun u h => HXi1.out.below h HXi1.out.lt) rfl rfl (by rfl)) hS ?_
        simp only [Act.put, List.setIfInBounds_toArray, List.set_cons_zero, List.set_cons_succ]
        refine takeAt 2 50 (.int .i64 (i : Int)) rfl rfl (by kernel_rfl) (by kernel_rfl) (by kernel_rfl) (fun _ _ _ h => h) (yields (by rfl) (fun w => by kernel_rfl)) hS ?_
        simp only [Act.put, List.setIfInBounds_toArray, List.set_cons_zero, List.set_cons_succ]
        refine takeAt 3 51 (.pointer (some ⟨b, o + i * 12, none⟩)) rfl rfl (by kernel_rfl) (by kernel_rfl) (by kernel_rfl) (fun _ _ _ h => h) (idxN_y (n := n) (cap := cap) HLT.out HL5.out rfl rfl rfl (by rfl)) hS ?_
        simp only [Act.put, List.setIfInBounds_toArray, List.set_cons_zero, List.set_cons_succ]
        refine takeAt 4 52 (ndV x) rfl rfl (by kernel_rfl) (by kernel_rfl) (by kernel_rfl) (fun _ _ _ h => h) (loadA_y x (fun u h => HA1.out u h) rfl rfl (by rfl)) hS ?_
        simp only [Act.put, List.setIfInBounds_toArray, List.set_cons_zero, List.set_cons_succ]
        refine takeAt 5 53 (.pointer (some ⟨w2.heap.size, 0, none⟩)) rfl rfl (by kernel_rfl) (by kernel_rfl) (by kernel_rfl) (fun _ _ _ h => h) (yields (by rfl) (fun w => by kernel_rfl)) hS ?_
        simp only [Act.put, List.setIfInBounds_toArray, List.set_cons_zero, List.set_cons_succ]
        refine takeAt 6 54 (.slice (some ⟨b', o', none⟩) n cap2) rfl rfl (by kernel_rfl) (by kernel_rfl) (by kernel_rfl) (fun _ _ _ h => h) (loadSl_y w2.heap.size (some ⟨b', o', none⟩) n cap2 (fun u h => HXi2.out.below h HXi2.out.lt) rfl rfl (by rfl)) hS ?_
        simp only [Act.put, List.setIfInBounds_toArray, List.set_cons_zero, List.set_cons_succ]
        refine takeAt 7 55 (.int .i64 (i : Int)) rfl rfl (by kernel_rfl) (by kernel_rfl) (by kernel_rfl) (fun _ _ _ h => h) (yields (by rfl) (fun w => by kernel_rfl)) hS ?_
        simp only [Act.put, List.setIfInBounds_toArray, List.set_cons_zero, List.set_cons_succ]
        refine takeAt 8 56 (.pointer (some ⟨b', o' + i * 12, none⟩)) rfl rfl (by kernel_rfl) (by kernel_rfl) (by kernel_rfl) (fun _ _ _ h => h) (idxN_y (n := n) (cap := cap2) HLT.out HL5.out rfl rfl rfl (by rfl)) hS ?_
        simp only [Act.put, List.setIfInBounds_toArray, List.set_cons_zero, List.set_cons_succ]
        refine takeAt 9 57 (ndV y) rfl rfl (by kernel_rfl) (by kernel_rfl) (by kernel_rfl) (fun _ _ _ h => h) (loadA_y y (fun u h => HA2.out u h) rfl rfl (by rfl)) hS ?_
        simp only [Act.put, List.setIfInBounds_toArray, List.set_cons_zero, List.set_cons_succ]
        refine wpAnyH_ready (rs := [10, 11]) (by kernel_rfl) (by simp) (AllReadyH.cons rfl (valStep 10 8 (.pointer (some ⟨u0.heap.size, 0, none⟩)) (World.alloc u0 (.cells (ndC (nd0 0)) 44)) rfl (by rfl) (by kernel_rfl) (hS.alloc hS.size _) ?_) (AllReadyH.cons rfl (valStep 11 9 (.pointer (some ⟨u0.heap.size, 0, none⟩)) (World.alloc u0 (.cells (ndC (nd0 0)) 44)) rfl (by rfl) (by kernel_rfl) (hS.alloc hS.size _) ?_) AllReadyH.nil))
        · simp only [Act.put, List.setIfInBounds_toArray, List.set_cons_zero, List.set_cons_succ]
          refine valAt 11 9 (.pointer (some ⟨(World.alloc u0 (.cells (ndC (nd0 0)) 44)).heap.size, 0, none⟩)) (World.alloc (World.alloc u0 (.cells (ndC (nd0 0)) 44)) (.cells (ndC (nd0 0)) 44)) rfl rfl (by kernel_rfl) (by rfl) (by kernel_rfl) ((hS.alloc hS.size _).alloc (by have := hS.size; simp; omega) _) ?_
          simp only [Act.put, List.setIfInBounds_toArray, List.set_cons_zero, List.set_cons_succ]
          have z1 : BoxV 44 (World.alloc (World.alloc u0 (.cells (ndC (nd0 0)) 44)) (.cells (ndC (nd0 0)) 44)) u0.heap.size (ndC (nd0 0)) := (BoxV.new u0 (ndC (nd0 0))).alloc _
          have z2 : BoxV 44 (World.alloc (World.alloc u0 (.cells (ndC (nd0 0)) 44)) (.cells (ndC (nd0 0)) 44)) (World.alloc u0 (.cells (ndC (nd0 0)) 44)).heap.size (ndC (nd0 0)) := BoxV.new _ _
          have hne : u0.heap.size ≠ (World.alloc u0 (.cells (ndC (nd0 0)) 44)).heap.size := by simp
          have hle : (World.alloc u0 (.cells (ndC (nd0 0)) 44)).heap.size = u0.heap.size + 1 := by simp
          have hV : Below wr.heap.size wr (World.alloc (World.alloc u0 (.cells (ndC (nd0 0)) 44)) (.cells (ndC (nd0 0)) 44)) := (hS.alloc hS.size _).alloc (by have := hS.size; omega) _
          generalize (World.alloc (World.alloc u0 (.cells (ndC (nd0 0)) 44)) (.cells (ndC (nd0 0)) 44)) = V0 at z1 z2 hV ⊢
          generalize (World.alloc u0 (.cells (ndC (nd0 0)) 44)).heap.size = G2 at z2 hne hle ⊢
          have hs0 := hS.size
          have hw1 : Below wr.heap.size wr (V0.setRow u0.heap.size (ndC x)) := below_row hV (by omega) _
          have y9 : BoxV 44 (V0.setRow u0.heap.size (ndC x)) G2 (ndC (nd0 0)) := z2.row _ (Ne.symm hne)
          have hw2 : Below wr.heap.size wr ((V0.setRow u0.heap.size (ndC x)).setRow G2 (ndC y)) := below_row hw1 (by omega) _
          have b8 : BoxV 44 ((V0.setRow u0.heap.size (ndC x)).setRow G2 (ndC y)) u0.heap.size (ndC x) := (z1.rowSame _).row _ hne
          have b9 : BoxV 44 ((V0.setRow u0.heap.size (ndC x)).setRow G2 (ndC y)) G2 (ndC y) := y9.rowSame _
          refine rowAt 12 44 u0.heap.size (ndC (nd0 0)) (ndC x) rfl rfl rfl (by kernel_rfl) (by rfl) rfl rfl z1 sizeNd rfl (ndC_one x) hw1 ?_
          refine rowAt 13 44 G2 (ndC (nd0 0)) (ndC y) rfl rfl rfl (by kernel_rfl) (by rfl) rfl rfl y9 sizeNd rfl (ndC_one y) hw2 ?_
          refine wpAnyH_done (by kernel_rfl) ?_ _
          generalize (V0.setRow u0.heap.size (ndC x)).setRow G2 (ndC y) = v at b8 b9 hw2 ⊢
          have hgl : wr.heap.size ≤ u0.heap.size := hs0
          clear z1 z2 hV hw1 y9 hs0
          have HD := Lib.hid b8
          have HE := Lib.hid b9
          have HBv := Lib.hid (thenB HBi.out hw2 HBi.out.size)
          have HT1 := Lib.hid (HXi1.out.below hw2 HXi1.out.lt)
          have HT2 := Lib.hid (HXi2.out.below hw2 HXi2.out.lt)
          have HM1 := Lib.hid (HNi1.out.below hw2 (Nat.le_refl _))
          have HM2 := Lib.hid (HNi2.out.below hw2 (Nat.le_refl _))
          have HG8 := Lib.hid (show wr.heap.size ≤ u0.heap.size by omega)
          have HWV := Lib.hid hw2.size
          clear b8 b9 hw2 hS
          have HNE := Lib.hid (show G2 ≠ u0.heap.size from (Ne.symm hne))
          generalize hu : u0.heap.size = G1 at *
          clear hu hne hle hgl
          have d3 : v.cell? ⟨G1, 3, none⟩ = some (.int .u64 (W S 0)) := (cell_of_row v _ 3 _ _ _ HD.out).trans (by rw [← hS0]; rfl)
          have d4 : v.cell? ⟨G1, 4, none⟩ = some (.int .u64 (W S 1)) := (cell_of_row v _ 4 _ _ _ HD.out).trans (by rw [← hS1]; rfl)
          have d5 : v.cell? ⟨G1, 5, none⟩ = some (.int .u64 (W S 2)) := (cell_of_row v _ 5 _ _ _ HD.out).trans (by rw [← hS2]; rfl)
          have d6 : v.cell? ⟨G1, 6, none⟩ = some (.int .u64 (W S 3)) := (cell_of_row v _ 6 _ _ _ HD.out).trans (by rw [← hS3]; rfl)
          go_wp2_with fail
          refine (fold_any S _).mono ?_
          rintro e v2 ⟨rfl, hb⟩
          have HD2 := Lib.hid (HD.out.below hb HD.out.lt)
          have HE2 := Lib.hid (HE.out.below hb HE.out.lt)
          have HBv2 := Lib.hid (thenB HBv.out hb HBv.out.size)
          have HT12 := Lib.hid (HT1.out.below hb HT1.out.lt)
          have HT22 := Lib.hid (HT2.out.below hb HT2.out.lt)
          have HM12 := Lib.hid (HM1.out.below hb (Nat.le_refl _))
          have HM22 := Lib.hid (HM2.out.below hb (Nat.le_refl _))
          clear d3 d4 d5 d6 hb HD HE HBv HT1 HT2 HM1 HM2
          go_wp2_with (refine storeSet7 rfl rfl G1 x (foldS S) rfl rfl HD2.out ?_; intro v3 hx hN; refine stopP ?_)
          unfold StopP
          have HE3 := Lib.hid (HE2.out.but hN.out HE2.out.lt HNE.out)
          have HBv3 := Lib.hid (HBv2.out.trans (hN.out.below HBv2.out.size (Nat.le_trans HBi.out.size HG8.out)))
          have HT13 := Lib.hid (HT12.out.but hN.out HT12.out.lt (by have := HXi1.out.lt; have := HG8.out; omega))
          have HT23 := Lib.hid (HT22.out.but hN.out HT22.out.lt (by have := HXi2.out.lt; have := HG8.out; omega))
          have HM13 := Lib.hid (nodes_but HM12.out hN.out (fun a ha => by have := HNL1.out a ha; have := HG8.out; omega))
          have HM23 := Lib.hid (nodes_but HM22.out hN.out (fun a ha => by have := HNL2.out a ha; have := HG8.out; omega))
          have HD3 := Lib.hid hx.out
          clear hx hN HD2 HE2 HBv2 HT12 HT22 HM12 HM22
          obtain ⟨x1, hx1⟩ : ∃ x1, x1 = ({ x with s0 := W (foldS S) 0, s1 := W (foldS S) 1, s2 := W (foldS S) 2, s3 := W (foldS S) 3 } : Nd) := ⟨_, rfl⟩
          rw [← hx1] at HD3
          have hk1 : x1.k = x.k := by rw [hx1]
          have HX1k := Lib.hid hx1
          have d0 : v3.cell? ⟨G1, 0, none⟩ = some (.int .i64 x1.k) := (cell_of_row v3 _ 0 _ _ _ HD3.out).trans rfl
          by_cases h12 : x1.k = 12
          · rw [h12] at d0
            have HY := Lib.hid (show y = { x1 with f := true } by rw [hxy, hx1, if_pos (show x.k = 12 by rw [← hk1]; exact h12)])
            clear hx1 hk1 h12 hxy
            go_wp2_with (first | (refine storeFl7 rfl rfl G1 x1 true rfl rfl HD3.out ?_; intro v4 hx hN; refine stopP ?_))
            unfold StopP
            have HE4 := Lib.hid (HE3.out.but hN.out HE3.out.lt HNE.out)
            have HBv4 := Lib.hid (HBv3.out.trans (hN.out.below HBv3.out.size (Nat.le_trans HBi.out.size HG8.out)))
            have HT14 := Lib.hid (HT13.out.but hN.out HT13.out.lt (by have := HXi1.out.lt; have := HG8.out; omega))
            have HT24 := Lib.hid (HT23.out.but hN.out HT23.out.lt (by have := HXi2.out.lt; have := HG8.out; omega))
            have HM14 := Lib.hid (nodes_but HM13.out hN.out (fun a ha => by have := HNL1.out a ha; have := HG8.out; omega))
            have HM24 := Lib.hid (nodes_but HM23.out hN.out (fun a ha => by have := HNL2.out a ha; have := HG8.out; omega))
            have HD4 := Lib.hid (show BoxV 44 v4 G1 (ndC y) by rw [HY.out]; exact hx.out)
            clear hx hN HD3 HE3 HBv3 HT13 HT23 HM13 HM23 d0
            have heq : Ast.eqN ⟨y.k, y.a, y.b, y.s0, y.s1, y.s2, y.s3, y.mn, y.mx, y.md, y.n, y.f⟩ ⟨y.k, y.a, y.b, y.s0, y.s1, y.s2, y.s3, y.mn, y.mx, y.md, y.n, y.f⟩ = true := decide_eq_true rfl
            have hi5 : i ≤ 1000 := by have := HLT.out; have := HL5.out; omega
            have hn5 : n ≤ 1000 := HL5.out
            go_wp2_with (first | (refine loadNd rfl _ rfl G1 y rfl HD4.out ?_) | (refine loadNd rfl _ rfl G2 y rfl HE4.out ?_))
            go_roundw
            case rel => exact ⟨i + 1, HLT.out, by have := HLT.out; have := HL5.out; go_num, HBv4.out, HT14.out, HT24.out, HM14.out, HM24.out⟩
            case measure => have := HLT.out; have := HL5.out; simp [intOf]; omega
          · have hq : (x1.k == 12) = false := by simpa using h12
            have HY := Lib.hid (show y = x1 by rw [hxy, hx1, if_neg (show ¬ x.k = 12 by rw [← hk1]; exact h12)])
            have HD4 := Lib.hid (show BoxV 44 v3 G1 (ndC y) by rw [HY.out]; exact HD3.out)
            clear hx1 hk1 h12 hxy HD3
            have HE4 := HE3
            have HBv4 := HBv3
            have HT14 := HT13
            have HT24 := HT23
            have HM14 := HM13
            have HM24 := HM23
            clear HE3 HBv3 HT13 HT23 HM13 HM23
            have heq : Ast.eqN ⟨y.k, y.a, y.b, y.s0, y.s1, y.s2, y.s3, y.mn, y.mx, y.md, y.n, y.f⟩ ⟨y.k, y.a, y.b, y.s0, y.s1, y.s2, y.s3, y.mn, y.mx, y.md, y.n, y.f⟩ = true := decide_eq_true rfl
            have hi5 : i ≤ 1000 := by have := HLT.out; have := HL5.out; omega
            have hn5 : n ≤ 1000 := HL5.out
            go_wp2_with (first | (refine loadNd rfl _ rfl G1 y rfl HD4.out ?_) | (refine loadNd rfl _ rfl G2 y rfl HE4.out ?_))
            go_roundw
            case rel => exact ⟨i + 1, HLT.out, by have := HLT.out; have := HL5.out; go_num, HBv4.out, HT14.out, HT24.out, HM14.out, HM24.out⟩
            case measure => have := HLT.out; have := HL5.out; simp [intOf]; omega
        · simp only [Act.put, List.setIfInBounds_toArray, List.set_cons_zero, List.set_cons_succ]
          refine valAt 10 8 (.pointer (some ⟨(World.alloc u0 (.cells (ndC (nd0 0)) 44)).heap.size, 0, none⟩)) (World.alloc (World.alloc u0 (.cells (ndC (nd0 0)) 44)) (.cells (ndC (nd0 0)) 44)) rfl rfl (by kernel_rfl) (by rfl) (by kernel_rfl) ((hS.alloc hS.size _).alloc (by have := hS.size; simp; omega) _) ?_
          simp only [Act.put, List.setIfInBounds_toArray, List.set_cons_zero, List.set_cons_succ]
          have z1 : BoxV 44 (World.alloc (World.alloc u0 (.cells (ndC (nd0 0)) 44)) (.cells (ndC (nd0 0)) 44)) u0.heap.size (ndC (nd0 0)) := (BoxV.new u0 (ndC (nd0 0))).alloc _
          have z2 : BoxV 44 (World.alloc (World.alloc u0 (.cells (ndC (nd0 0)) 44)) (.cells (ndC (nd0 0)) 44)) (World.alloc u0 (.cells (ndC (nd0 0)) 44)).heap.size (ndC (nd0 0)) := BoxV.new _ _
          have hne : u0.heap.size ≠ (World.alloc u0 (.cells (ndC (nd0 0)) 44)).heap.size := by simp
          have hle : (World.alloc u0 (.cells (ndC (nd0 0)) 44)).heap.size = u0.heap.size + 1 := by simp
          have hV : Below wr.heap.size wr (World.alloc (World.alloc u0 (.cells (ndC (nd0 0)) 44)) (.cells (ndC (nd0 0)) 44)) := (hS.alloc hS.size _).alloc (by have := hS.size; omega) _
          generalize (World.alloc (World.alloc u0 (.cells (ndC (nd0 0)) 44)) (.cells (ndC (nd0 0)) 44)) = V0 at z1 z2 hV ⊢
          generalize (World.alloc u0 (.cells (ndC (nd0 0)) 44)).heap.size = G2 at z2 hne hle ⊢
          have hs0 := hS.size
          have hw1 : Below wr.heap.size wr (V0.setRow G2 (ndC x)) := below_row hV (by omega) _
          have y9 : BoxV 44 (V0.setRow G2 (ndC x)) u0.heap.size (ndC (nd0 0)) := z1.row _ hne
          have hw2 : Below wr.heap.size wr ((V0.setRow G2 (ndC x)).setRow u0.heap.size (ndC y)) := below_row hw1 (by omega) _
          have b8 : BoxV 44 ((V0.setRow G2 (ndC x)).setRow u0.heap.size (ndC y)) G2 (ndC x) := (z2.rowSame _).row _ (Ne.symm hne)
          have b9 : BoxV 44 ((V0.setRow G2 (ndC x)).setRow u0.heap.size (ndC y)) u0.heap.size (ndC y) := y9.rowSame _
          refine rowAt 12 44 G2 (ndC (nd0 0)) (ndC x) rfl rfl rfl (by kernel_rfl) (by rfl) rfl rfl z2 sizeNd rfl (ndC_one x) hw1 ?_
          refine rowAt 13 44 u0.heap.size (ndC (nd0 0)) (ndC y) rfl rfl rfl (by kernel_rfl) (by rfl) rfl rfl y9 sizeNd rfl (ndC_one y) hw2 ?_
          refine wpAnyH_done (by kernel_rfl) ?_ _
          generalize (V0.setRow G2 (ndC x)).setRow u0.heap.size (ndC y) = v at b8 b9 hw2 ⊢
          have hgl : wr.heap.size ≤ u0.heap.size := hs0
          clear z1 z2 hV hw1 y9 hs0
          have HD := Lib.hid b8
          have HE := Lib.hid b9
          have HBv := Lib.hid (thenB HBi.out hw2 HBi.out.size)
          have HT1 := Lib.hid (HXi1.out.below hw2 HXi1.out.lt)
          have HT2 := Lib.hid (HXi2.out.below hw2 HXi2.out.lt)
          have HM1 := Lib.hid (HNi1.out.below hw2 (Nat.le_refl _))
          have HM2 := Lib.hid (HNi2.out.below hw2 (Nat.le_refl _))
          have HG8 := Lib.hid (show wr.heap.size ≤ G2 by omega)
          have HWV := Lib.hid hw2.size
          clear b8 b9 hw2 hS
          have HNE := Lib.hid (show u0.heap.size ≠ G2 from hne)
          generalize hu : u0.heap.size = G1 at *
          clear hu hne hle hgl
          have d3 : v.cell? ⟨G2, 3, none⟩ = some (.int .u64 (W S 0)) := (cell_of_row v _ 3 _ _ _ HD.out).trans (by rw [← hS0]; rfl)
          have d4 : v.cell? ⟨G2, 4, none⟩ = some (.int .u64 (W S 1)) := (cell_of_row v _ 4 _ _ _ HD.out).trans (by rw [← hS1]; rfl)
          have d5 : v.cell? ⟨G2, 5, none⟩ = some (.int .u64 (W S 2)) := (cell_of_row v _ 5 _ _ _ HD.out).trans (by rw [← hS2]; rfl)
          have d6 : v.cell? ⟨G2, 6, none⟩ = some (.int .u64 (W S 3)) := (cell_of_row v _ 6 _ _ _ HD.out).trans (by rw [← hS3]; rfl)
          go_wp2_with fail
          refine (fold_any S _).mono ?_
          rintro e v2 ⟨rfl, hb⟩
          have HD2 := Lib.hid (HD.out.below hb HD.out.lt)
          have HE2 := Lib.hid (HE.out.below hb HE.out.lt)
          have HBv2 := Lib.hid (thenB HBv.out hb HBv.out.size)
          have HT12 := Lib.hid (HT1.out.below hb HT1.out.lt)
          have HT22 := Lib.hid (HT2.out.below hb HT2.out.lt)
          have HM12 := Lib.hid (HM1.out.below hb (Nat.le_refl _))
          have HM22 := Lib.hid (HM2.out.below hb (Nat.le_refl _))
          clear d3 d4 d5 d6 hb HD HE HBv HT1 HT2 HM1 HM2
          go_wp2_with (refine storeSet7 rfl rfl G2 x (foldS S) rfl rfl HD2.out ?_; intro v3 hx hN; refine stopP ?_)
          unfold StopP
          have HE3 := Lib.hid (HE2.out.but hN.out HE2.out.lt HNE.out)
          have HBv3 := Lib.hid (HBv2.out.trans (hN.out.below HBv2.out.size (Nat.le_trans HBi.out.size HG8.out)))
          have HT13 := Lib.hid (HT12.out.but hN.out HT12.out.lt (by have := HXi1.out.lt; have := HG8.out; omega))
          have HT23 := Lib.hid (HT22.out.but hN.out HT22.out.lt (by have := HXi2.out.lt; have := HG8.out; omega))
          have HM13 := Lib.hid (nodes_but HM12.out hN.out (fun a ha => by have := HNL1.out a ha; have := HG8.out; omega))
          have HM23 := Lib.hid (nodes_but HM22.out hN.out (fun a ha => by have := HNL2.out a ha; have := HG8.out; omega))
          have HD3 := Lib.hid hx.out
          clear hx hN HD2 HE2 HBv2 HT12 HT22 HM12 HM22
          obtain ⟨x1, hx1⟩ : ∃ x1, x1 = ({ x with s0 := W (foldS S) 0, s1 := W (foldS S) 1, s2 := W (foldS S) 2, s3 := W (foldS S) 3 } : Nd) := ⟨_, rfl⟩
          rw [← hx1] at HD3
          have hk1 : x1.k = x.k := by rw [hx1]
          have HX1k := Lib.hid hx1
          have d0 : v3.cell? ⟨G2, 0, none⟩ = some (.int .i64 x1.k) := (cell_of_row v3 _ 0 _ _ _ HD3.out).trans rfl
          by_cases h12 : x1.k = 12
          · rw [h12] at d0
            have HY := Lib.hid (show y = { x1 with f := true } by rw [hxy, hx1, if_pos (show x.k = 12 by rw [← hk1]; exact h12)])
            clear hx1 hk1 h12 hxy
            go_wp2_with (first | (refine storeFl7 rfl rfl G2 x1 true rfl rfl HD3.out ?_; intro v4 hx hN; refine stopP ?_))
            unfold StopP
            have HE4 := Lib.hid (HE3.out.but hN.out HE3.out.lt HNE.out)
            have HBv4 := Lib.hid (HBv3.out.trans (hN.out.below HBv3.out.size (Nat.le_trans HBi.out.size HG8.out)))
            have HT14 := Lib.hid (HT13.out.but hN.out HT13.out.lt (by have := HXi1.out.lt; have := HG8.out; omega))
            have HT24 := Lib.hid (HT23.out.but hN.out HT23.out.lt (by have := HXi2.out.lt; have := HG8.out; omega))
            have HM14 := Lib.hid (nodes_but HM13.out hN.out (fun a ha => by have := HNL1.out a ha; have := HG8.out; omega))
            have HM24 := Lib.hid (nodes_but HM23.out hN.out (fun a ha => by have := HNL2.out a ha; have := HG8.out; omega))
            have HD4 := Lib.hid (show BoxV 44 v4 G2 (ndC y) by rw [HY.out]; exact hx.out)
            clear hx hN HD3 HE3 HBv3 HT13 HT23 HM13 HM23 d0
            have heq : Ast.eqN ⟨y.k, y.a, y.b, y.s0, y.s1, y.s2, y.s3, y.mn, y.mx, y.md, y.n, y.f⟩ ⟨y.k, y.a, y.b, y.s0, y.s1, y.s2, y.s3, y.mn, y.mx, y.md, y.n, y.f⟩ = true := decide_eq_true rfl
            have hi5 : i ≤ 1000 := by have := HLT.out; have := HL5.out; omega
            have hn5 : n ≤ 1000 := HL5.out
            go_wp2_with (first | (refine loadNd rfl _ rfl G2 y rfl HD4.out ?_) | (refine loadNd rfl _ rfl G1 y rfl HE4.out ?_))
            go_roundw
            case rel => exact ⟨i + 1, HLT.out, by have := HLT.out; have := HL5.out; go_num, HBv4.out, HT14.out, HT24.out, HM14.out, HM24.out⟩
            case measure => have := HLT.out; have := HL5.out; simp [intOf]; omega
          · have hq : (x1.k == 12) = false := by simpa using h12
            have HY := Lib.hid (show y = x1 by rw [hxy, hx1, if_neg (show ¬ x.k = 12 by rw [← hk1]; exact h12)])
            have HD4 := Lib.hid (show BoxV 44 v3 G2 (ndC y) by rw [HY.out]; exact HD3.out)
            clear hx1 hk1 h12 hxy HD3
            have HE4 := HE3
            have HBv4 := HBv3
            have HT14 := HT13
            have HT24 := HT23
            have HM14 := HM13
            have HM24 := HM23
            clear HE3 HBv3 HT13 HT23 HM13 HM23
            have heq : Ast.eqN ⟨y.k, y.a, y.b, y.s0, y.s1, y.s2, y.s3, y.mn, y.mx, y.md, y.n, y.f⟩ ⟨y.k, y.a, y.b, y.s0, y.s1, y.s2, y.s3, y.mn, y.mx, y.md, y.n, y.f⟩ = true := decide_eq_true rfl
            have hi5 : i ≤ 1000 := by have := HLT.out; have := HL5.out; omega
            have hn5 : n ≤ 1000 := HL5.out
            go_wp2_with (first | (refine loadNd rfl _ rfl G2 y rfl HD4.out ?_) | (refine loadNd rfl _ rfl G1 y rfl HE4.out ?_))
            go_roundw
            case rel => exact ⟨i + 1, HLT.out, by have := HLT.out; have := HL5.out; go_num, HBv4.out, HT14.out, HT24.out, HM14.out, HM24.out⟩
            case measure => have := HLT.out; have := HL5.out; simp [intOf]; omega
      · obtain rfl : n = i := by omega
        clear hb hbx1 hbx2 hnd1 hnd2 hlt hi
        go_wp2_with fail
        with_reducible refine (HF.out _ (HT.out.call HBi.out)).mono ?_
        rintro e wf9 ⟨rfl, hb⟩
        have HZ := Lib.hid (thenB HBi.out hb HBi.out.size)
        clear hb
        go_wp2_with fail
        go_ret
        exact ⟨rfl, HZ.out⟩
  
set_option maxRecDepth 100000 in
set_option maxHeartbeats 32000000 in
theorem parseFlags_l (K : PKit) (p : ByteArray) (w : World) (hs : p.size ≤ 9223372036854775807) (hw : Tabs w) (hp : 200 < p.size) : Calls Tryz.prog 7 #[.string p] w fun e w' => e = .returned (.bool true) ∧ Below w.heap.size w w' := by
  have HF := Lib.hid (fun w (h : Tabs w) => fixed_any K w h)
  have HP0 := Lib.hid (fun p w (h : Tabs w) => parse_g K p w h)
  have HK := Lib.hid K
  have HT := Lib.hid hw
  clear hw K
  go_enter Tryz.func7, Tryz.ntmps7
  go_wp2_with fail
  have hXs0 : (p.extract 0 200).size = 200 := by rw [ByteArray.size_extract]; omega
  generalize p.extract 0 200 = X at hXs0 ⊢
  have HX := Lib.hid (show X.size ≤ 200 by omega)
  clear hXs0 hp hs
  have HB0 := Lib.hid (Below.refl w.heap.size w)
  go_wp2_with fail
  with_reducible refine (HP0.out X _ (HT.out.call HB0.out)).mono ?_
  rintro e w1 ⟨B, cap, rfl, ht, hb⟩
  have HNn := Lib.hid ht.nodes
  have HBn := Lib.hid (thenB HB0.out hb HB0.out.size)

  have HW1 := Lib.hid ht.none
  clear ht hb
  have HQ1 := Lib.hid (parse_cases X (by have := HX.out; omega))
  have HE1 := Lib.hid (show ∃ R, R = parseZ X from ⟨_, rfl⟩)
  obtain ⟨R, hR⟩ := HE1.out
  rw [← hR] at HNn HW1 HQ1 ⊢
  have HR1 := Lib.hid hR
  clear hR HE1
  obtain ⟨t, er⟩ := R
  simp only [] at HNn HW1 HQ1 ⊢
  go_wp2_with (refine storeNewTr rfl _ _ rfl w1 B t.1 cap rfl rfl rfl ?_; intro v1 hx hN; refine stopP ?_)
  unfold StopP
  have HX1 := Lib.hid hx.out
  have HB1 := Lib.hid (thenB HBn.out hN.out HBn.out.size)
  have HN1 := Lib.hid (HNn.out.below hN.out (Nat.le_refl _))

  have hc1 := tree_cell HX1.out
  clear hx hN HBn HNn
  have hz0 : ¬ 4 + X.size > 9223372036854775807 := by have := HX.out; omega
  have hz1 : ¬ 4 + X.size + 1 > 9223372036854775807 := by have := HX.out; omega
  rcases HQ1.out with ⟨h0, he⟩ | ⟨rfl, hr, hd, hn⟩
  · have he0 : (er == 0) = false := by simp; omega
    clear HQ1 he h0
    go_wp2_with fail
    with_reducible refine (HP0.out _ _ (HT.out.call HB1.out)).mono ?_
    rintro e w2 ⟨B2, cap2, rfl, ht, hb⟩
    have HNn := Lib.hid ht.nodes
    have HBn := Lib.hid (thenB HB1.out hb HB1.out.size)
    have HX1 := Lib.hid (HX1.out.below hb HX1.out.lt)
    have HN1 := Lib.hid (HN1.out.below hb (Nat.le_refl _))
    clear ht hb
    obtain ⟨R2, hR2⟩ : ∃ R, R = parseZ (flg7 ++ X ++ post7) := ⟨_, rfl⟩
    rw [show parseZ (({ data := #[40, 63, 105, 58] } : ByteArray) ++ X ++ ({ data := #[41] } : ByteArray)) = R2 from hR2.symm] at HNn ⊢
    clear hR2
    obtain ⟨u, fr⟩ := R2
    simp only [] at HNn ⊢
    go_wp2_with (refine storeNewTr rfl _ _ rfl w2 B2 u.1 cap2 rfl rfl rfl ?_; intro v2 hx hN; refine stopP ?_)
    unfold StopP
    have HX2 := Lib.hid hx.out
    have HB2 := Lib.hid (thenB HBn.out hN.out HBn.out.size)
    have HN2 := Lib.hid (HNn.out.below hN.out (Nat.le_refl _))
    have HX1 := Lib.hid (HX1.out.below hN.out HX1.out.lt)
    have HN1 := Lib.hid (HN1.out.below hN.out (Nat.le_refl _))
    have hc2 := tree_cell HX2.out
    clear hx hN HBn HNn
    go_wp2_with fail
    with_reducible refine (HF.out _ (HT.out.call HB2.out)).mono ?_
    rintro e wf3 ⟨rfl, hb⟩
    have HZ := Lib.hid (thenB HB2.out hb HB2.out.size)
    clear hb
    go_wp2_with fail
    go_ret
    exact ⟨rfl, HZ.out⟩
  · obtain ⟨L, hL, hFN⟩ := flags_z_at HR1.out (by have := HX.out; omega)
    obtain ⟨n, tL⟩ := t
    simp only [] at hL hFN hr hd hn HN1 HX1 HW1 hc1
    have HFN := Lib.hid hFN
    have HL5 := Lib.hid (show n ≤ 1000 by omega)
    clear hFN hr hd hn HQ1 HR1
    go_wp2_with fail
    with_reducible refine (parse_at HK.out _ n 0 L hL _ (HT.out.call HB1.out)).mono ?_
    rintro e w2 ⟨B2, cap2, rfl, ht, hb⟩
    have HNn := Lib.hid ht.nodes
    have HBn := Lib.hid (thenB HB1.out hb HB1.out.size)
    have HX1 := Lib.hid (HX1.out.below hb HX1.out.lt)
    have HN1 := Lib.hid (HN1.out.below hb (Nat.le_refl _))
    clear ht hb
    simp only [] at HNn ⊢
    go_wp2_with (refine storeNewTr rfl _ _ rfl w2 B2 n cap2 rfl rfl rfl ?_; intro v2 hx hN; refine stopP ?_)
    unfold StopP
    have HX2 := Lib.hid hx.out
    have HB2 := Lib.hid (thenB HBn.out hN.out HBn.out.size)
    have HN2 := Lib.hid (HNn.out.below hN.out (Nat.le_refl _))
    have HX1 := Lib.hid (HX1.out.below hN.out HX1.out.lt)
    have HN1 := Lib.hid (HN1.out.below hN.out (Nat.le_refl _))
    have hc2 := tree_cell HX2.out
    clear hx hN HBn HNn
    have hc1 := tree_cell HX1.out
    go_wp2_with fail
    go_loopw [7] (fun s7 wq => ∃ i : Nat, i ≤ n ∧ s7 = .int .i64 i ∧ Below w.heap.size w wq ∧ BoxV 24 wq w1.heap.size (trC B n cap) ∧ BoxV 24 wq w2.heap.size (trC B2 n cap2) ∧ Nodes wq B n tL ∧ Nodes wq B2 n L) (fun s7 _ => n - (intOf s7).toNat)
    case atStart => exact ⟨0, Nat.zero_le _, rfl, HB2.out, HX1.out, HX2.out, HN1.out, HN2.out⟩
    case round =>
      obtain ⟨i, hi, rfl, hb, hbx1, hbx2, hnd1, hnd2⟩ := hrel
      have HBi := Lib.hid hb
      have HXi1 := Lib.hid hbx1
      have HXi2 := Lib.hid hbx2
      have HNi1 := Lib.hid hnd1
      have HNi2 := Lib.hid hnd2
      have hci1 := tree_cell hbx1
      have hci2 := tree_cell hbx2
      by_cases hlt : i < n
      · obtain ⟨b, o, rfl, hbw, hx⟩ := hnd1 i hlt
        obtain ⟨b', o', rfl, hbw', hx'⟩ := hnd2 i hlt
        obtain ⟨S, ⟨hS0, hS1, hS2, hS3⟩, hxy⟩ := (HFN.out i hlt).one
        have HNL1 := Lib.hid (show ∀ a, some (⟨b, o, none⟩ : Addr) = some a → a.block < wr.heap.size from fun a ha => by cases ha; exact hbw)
        have HNL2 := Lib.hid (show ∀ a, some (⟨b', o', none⟩ : Addr) = some a → a.block < wr.heap.size from fun a ha => by cases ha; exact hbw')
        have HA1 := Lib.hid (show ∀ u, Below wr.heap.size wr u → Ast.At12 u b (o + i * 12) (tL i) from fun u hu => hx.keep fun j => hu.cell (p := ⟨b, j, none⟩) hbw)
        have HA2 := Lib.hid (show ∀ u, Below wr.heap.size wr u → Ast.At12 u b' (o' + i * 12) (L i) from fun u hu => hx'.keep fun j => hu.cell (p := ⟨b', j, none⟩) hbw')
        obtain ⟨x, hx0⟩ : ∃ x, x = tL i := ⟨_, rfl⟩
        obtain ⟨y, hy0⟩ : ∃ y, y = L i := ⟨_, rfl⟩
        rw [← hx0] at HA1 hS0 hS1 hS2 hS3 hxy
        rw [← hy0] at HA2 hxy
        have HLT := Lib.hid hlt
        have r5 : (i : Int) < (n : Int) := by omega
        clear hx hx' hx0 hy0 hb hbx1 hbx2 hnd1 hnd2 hlt hi hbw hbw'
        go_wp2_with fail
        refine wp_region_held_drew (S := fun u => Below wr.heap.size wr u) (by kernel_rfl) (show _ from (Below.refl _ wr).drew) (fun hS => ?_)
        generalize World.drew wr = u0 at hS ⊢
        refine takeAt 0 48 (.pointer (some ⟨w1.heap.size, 0, none⟩)) rfl rfl (by kernel_rfl) (by kernel_rfl) (by kernel_rfl) (fun _ _ _ h => h) (yields (by rfl) (fun w => by kernel_rfl)) hS ?_
        simp only [Act.put, List.setIfInBounds_toArray, List.set_cons_zero, List.set_cons_succ]
        refine takeAt 1 49 (.slice (some ⟨b, o, none⟩) n cap) rfl rfl (by kernel_rfl) (by kernel_rfl) (by kernel_rfl) (fun _ _ _ h => h) (loadSl_y w1.heap.size (some ⟨b, o, none⟩) n cap (fun u h => HXi1.out.below h HXi1.out.lt) rfl rfl (by rfl)) hS ?_
        simp only [Act.put, List.setIfInBounds_toArray, List.set_cons_zero, List.set_cons_succ]
        refine takeAt 2 50 (.int .i64 (i : Int)) rfl rfl (by kernel_rfl) (by kernel_rfl) (by kernel_rfl) (fun _ _ _ h => h) (yields (by rfl) (fun w => by kernel_rfl)) hS ?_
        simp only [Act.put, List.setIfInBounds_toArray, List.set_cons_zero, List.set_cons_succ]
        refine takeAt 3 51 (.pointer (some ⟨b, o + i * 12, none⟩)) rfl rfl (by kernel_rfl) (by kernel_rfl) (by kernel_rfl) (fun _ _ _ h => h) (idxN_y (n := n) (cap := cap) HLT.out HL5.out rfl rfl rfl (by rfl)) hS ?_
        simp only [Act.put, List.setIfInBounds_toArray, List.set_cons_zero, List.set_cons_succ]
        refine takeAt 4 52 (ndV x) rfl rfl (by kernel_rfl) (by kernel_rfl) (by kernel_rfl) (fun _ _ _ h => h) (loadA_y x (fun u h => HA1.out u h) rfl rfl (by rfl)) hS ?_
        simp only [Act.put, List.setIfInBounds_toArray, List.set_cons_zero, List.set_cons_succ]
        refine takeAt 5 53 (.pointer (some ⟨w2.heap.size, 0, none⟩)) rfl rfl (by kernel_rfl) (by kernel_rfl) (by kernel_rfl) (fun _ _ _ h => h) (yields (by rfl) (fun w => by kernel_rfl)) hS ?_
        simp only [Act.put, List.setIfInBounds_toArray, List.set_cons_zero, List.set_cons_succ]
        refine takeAt 6 54 (.slice (some ⟨b', o', none⟩) n cap2) rfl rfl (by kernel_rfl) (by kernel_rfl) (by kernel_rfl) (fun _ _ _ h => h) (loadSl_y w2.heap.size (some ⟨b', o', none⟩) n cap2 (fun u h => HXi2.out.below h HXi2.out.lt) rfl rfl (by rfl)) hS ?_
        simp only [Act.put, List.setIfInBounds_toArray, List.set_cons_zero, List.set_cons_succ]
        refine takeAt 7 55 (.int .i64 (i : Int)) rfl rfl (by kernel_rfl) (by kernel_rfl) (by kernel_rfl) (fun _ _ _ h => h) (yields (by rfl) (fun w => by kernel_rfl)) hS ?_
        simp only [Act.put, List.setIfInBounds_toArray, List.set_cons_zero, List.set_cons_succ]
        refine takeAt 8 56 (.pointer (some ⟨b', o' + i * 12, none⟩)) rfl rfl (by kernel_rfl) (by kernel_rfl) (by kernel_rfl) (fun _ _ _ h => h) (idxN_y (n := n) (cap := cap2) HLT.out HL5.out rfl rfl rfl (by rfl)) hS ?_
        simp only [Act.put, List.setIfInBounds_toArray, List.set_cons_zero, List.set_cons_succ]
        refine takeAt 9 57 (ndV y) rfl rfl (by kernel_rfl) (by kernel_rfl) (by kernel_rfl) (fun _ _ _ h => h) (loadA_y y (fun u h => HA2.out u h) rfl rfl (by rfl)) hS ?_
        simp only [Act.put, List.setIfInBounds_toArray, List.set_cons_zero, List.set_cons_succ]
        refine wpAnyH_ready (rs := [10, 11]) (by kernel_rfl) (by simp) (AllReadyH.cons rfl (valStep 10 8 (.pointer (some ⟨u0.heap.size, 0, none⟩)) (World.alloc u0 (.cells (ndC (nd0 0)) 44)) rfl (by rfl) (by kernel_rfl) (hS.alloc hS.size _) ?_) (AllReadyH.cons rfl (valStep 11 9 (.pointer (some ⟨u0.heap.size, 0, none⟩)) (World.alloc u0 (.cells (ndC (nd0 0)) 44)) rfl (by rfl) (by kernel_rfl) (hS.alloc hS.size _) ?_) AllReadyH.nil))
        · simp only [Act.put, List.setIfInBounds_toArray, List.set_cons_zero, List.set_cons_succ]
          refine valAt 11 9 (.pointer (some ⟨(World.alloc u0 (.cells (ndC (nd0 0)) 44)).heap.size, 0, none⟩)) (World.alloc (World.alloc u0 (.cells (ndC (nd0 0)) 44)) (.cells (ndC (nd0 0)) 44)) rfl rfl (by kernel_rfl) (by rfl) (by kernel_rfl) ((hS.alloc hS.size _).alloc (by have := hS.size; simp; omega) _) ?_
          simp only [Act.put, List.setIfInBounds_toArray, List.set_cons_zero, List.set_cons_succ]
          have z1 : BoxV 44 (World.alloc (World.alloc u0 (.cells (ndC (nd0 0)) 44)) (.cells (ndC (nd0 0)) 44)) u0.heap.size (ndC (nd0 0)) := (BoxV.new u0 (ndC (nd0 0))).alloc _
          have z2 : BoxV 44 (World.alloc (World.alloc u0 (.cells (ndC (nd0 0)) 44)) (.cells (ndC (nd0 0)) 44)) (World.alloc u0 (.cells (ndC (nd0 0)) 44)).heap.size (ndC (nd0 0)) := BoxV.new _ _
          have hne : u0.heap.size ≠ (World.alloc u0 (.cells (ndC (nd0 0)) 44)).heap.size := by simp
          have hle : (World.alloc u0 (.cells (ndC (nd0 0)) 44)).heap.size = u0.heap.size + 1 := by simp
          have hV : Below wr.heap.size wr (World.alloc (World.alloc u0 (.cells (ndC (nd0 0)) 44)) (.cells (ndC (nd0 0)) 44)) := (hS.alloc hS.size _).alloc (by have := hS.size; omega) _
          generalize (World.alloc (World.alloc u0 (.cells (ndC (nd0 0)) 44)) (.cells (ndC (nd0 0)) 44)) = V0 at z1 z2 hV ⊢
          generalize (World.alloc u0 (.cells (ndC (nd0 0)) 44)).heap.size = G2 at z2 hne hle ⊢
          have hs0 := hS.size
          have hw1 : Below wr.heap.size wr (V0.setRow u0.heap.size (ndC x)) := below_row hV (by omega) _
          have y9 : BoxV 44 (V0.setRow u0.heap.size (ndC x)) G2 (ndC (nd0 0)) := z2.row _ (Ne.symm hne)
          have hw2 : Below wr.heap.size wr ((V0.setRow u0.heap.size (ndC x)).setRow G2 (ndC y)) := below_row hw1 (by omega) _
          have b8 : BoxV 44 ((V0.setRow u0.heap.size (ndC x)).setRow G2 (ndC y)) u0.heap.size (ndC x) := (z1.rowSame _).row _ hne
          have b9 : BoxV 44 ((V0.setRow u0.heap.size (ndC x)).setRow G2 (ndC y)) G2 (ndC y) := y9.rowSame _
          refine rowAt 12 44 u0.heap.size (ndC (nd0 0)) (ndC x) rfl rfl rfl (by kernel_rfl) (by rfl) rfl rfl z1 sizeNd rfl (ndC_one x) hw1 ?_
          refine rowAt 13 44 G2 (ndC (nd0 0)) (ndC y) rfl rfl rfl (by kernel_rfl) (by rfl) rfl rfl y9 sizeNd rfl (ndC_one y) hw2 ?_
          refine wpAnyH_done (by kernel_rfl) ?_ _
          generalize (V0.setRow u0.heap.size (ndC x)).setRow G2 (ndC y) = v at b8 b9 hw2 ⊢
          have hgl : wr.heap.size ≤ u0.heap.size := hs0
          clear z1 z2 hV hw1 y9 hs0
          have HD := Lib.hid b8
          have HE := Lib.hid b9
          have HBv := Lib.hid (thenB HBi.out hw2 HBi.out.size)
          have HT1 := Lib.hid (HXi1.out.below hw2 HXi1.out.lt)
          have HT2 := Lib.hid (HXi2.out.below hw2 HXi2.out.lt)
          have HM1 := Lib.hid (HNi1.out.below hw2 (Nat.le_refl _))
          have HM2 := Lib.hid (HNi2.out.below hw2 (Nat.le_refl _))
          have HG8 := Lib.hid (show wr.heap.size ≤ u0.heap.size by omega)
          have HWV := Lib.hid hw2.size
          clear b8 b9 hw2 hS
          have HNE := Lib.hid (show G2 ≠ u0.heap.size from (Ne.symm hne))
          generalize hu : u0.heap.size = G1 at *
          clear hu hne hle hgl
          have d3 : v.cell? ⟨G1, 3, none⟩ = some (.int .u64 (W S 0)) := (cell_of_row v _ 3 _ _ _ HD.out).trans (by rw [← hS0]; rfl)
          have d4 : v.cell? ⟨G1, 4, none⟩ = some (.int .u64 (W S 1)) := (cell_of_row v _ 4 _ _ _ HD.out).trans (by rw [← hS1]; rfl)
          have d5 : v.cell? ⟨G1, 5, none⟩ = some (.int .u64 (W S 2)) := (cell_of_row v _ 5 _ _ _ HD.out).trans (by rw [← hS2]; rfl)
          have d6 : v.cell? ⟨G1, 6, none⟩ = some (.int .u64 (W S 3)) := (cell_of_row v _ 6 _ _ _ HD.out).trans (by rw [← hS3]; rfl)
          go_wp2_with fail
          refine (fold_any S _).mono ?_
          rintro e v2 ⟨rfl, hb⟩
          have HD2 := Lib.hid (HD.out.below hb HD.out.lt)
          have HE2 := Lib.hid (HE.out.below hb HE.out.lt)
          have HBv2 := Lib.hid (thenB HBv.out hb HBv.out.size)
          have HT12 := Lib.hid (HT1.out.below hb HT1.out.lt)
          have HT22 := Lib.hid (HT2.out.below hb HT2.out.lt)
          have HM12 := Lib.hid (HM1.out.below hb (Nat.le_refl _))
          have HM22 := Lib.hid (HM2.out.below hb (Nat.le_refl _))
          clear d3 d4 d5 d6 hb HD HE HBv HT1 HT2 HM1 HM2
          go_wp2_with (refine storeSet7 rfl rfl G1 x (foldS S) rfl rfl HD2.out ?_; intro v3 hx hN; refine stopP ?_)
          unfold StopP
          have HE3 := Lib.hid (HE2.out.but hN.out HE2.out.lt HNE.out)
          have HBv3 := Lib.hid (HBv2.out.trans (hN.out.below HBv2.out.size (Nat.le_trans HBi.out.size HG8.out)))
          have HT13 := Lib.hid (HT12.out.but hN.out HT12.out.lt (by have := HXi1.out.lt; have := HG8.out; omega))
          have HT23 := Lib.hid (HT22.out.but hN.out HT22.out.lt (by have := HXi2.out.lt; have := HG8.out; omega))
          have HM13 := Lib.hid (nodes_but HM12.out hN.out (fun a ha => by have := HNL1.out a ha; have := HG8.out; omega))
          have HM23 := Lib.hid (nodes_but HM22.out hN.out (fun a ha => by have := HNL2.out a ha; have := HG8.out; omega))
          have HD3 := Lib.hid hx.out
          clear hx hN HD2 HE2 HBv2 HT12 HT22 HM12 HM22
          obtain ⟨x1, hx1⟩ : ∃ x1, x1 = ({ x with s0 := W (foldS S) 0, s1 := W (foldS S) 1, s2 := W (foldS S) 2, s3 := W (foldS S) 3 } : Nd) := ⟨_, rfl⟩
          rw [← hx1] at HD3
          have hk1 : x1.k = x.k := by rw [hx1]
          have HX1k := Lib.hid hx1
          have d0 : v3.cell? ⟨G1, 0, none⟩ = some (.int .i64 x1.k) := (cell_of_row v3 _ 0 _ _ _ HD3.out).trans rfl
          by_cases h12 : x1.k = 12
          · rw [h12] at d0
            have HY := Lib.hid (show y = { x1 with f := true } by rw [hxy, hx1, if_pos (show x.k = 12 by rw [← hk1]; exact h12)])
            clear hx1 hk1 h12 hxy
            go_wp2_with (first | (refine storeFl7 rfl rfl G1 x1 true rfl rfl HD3.out ?_; intro v4 hx hN; refine stopP ?_))
            unfold StopP
            have HE4 := Lib.hid (HE3.out.but hN.out HE3.out.lt HNE.out)
            have HBv4 := Lib.hid (HBv3.out.trans (hN.out.below HBv3.out.size (Nat.le_trans HBi.out.size HG8.out)))
            have HT14 := Lib.hid (HT13.out.but hN.out HT13.out.lt (by have := HXi1.out.lt; have := HG8.out; omega))
            have HT24 := Lib.hid (HT23.out.but hN.out HT23.out.lt (by have := HXi2.out.lt; have := HG8.out; omega))
            have HM14 := Lib.hid (nodes_but HM13.out hN.out (fun a ha => by have := HNL1.out a ha; have := HG8.out; omega))
            have HM24 := Lib.hid (nodes_but HM23.out hN.out (fun a ha => by have := HNL2.out a ha; have := HG8.out; omega))
            have HD4 := Lib.hid (show BoxV 44 v4 G1 (ndC y) by rw [HY.out]; exact hx.out)
            clear hx hN HD3 HE3 HBv3 HT13 HT23 HM13 HM23 d0
            have heq : Ast.eqN ⟨y.k, y.a, y.b, y.s0, y.s1, y.s2, y.s3, y.mn, y.mx, y.md, y.n, y.f⟩ ⟨y.k, y.a, y.b, y.s0, y.s1, y.s2, y.s3, y.mn, y.mx, y.md, y.n, y.f⟩ = true := decide_eq_true rfl
            have hi5 : i ≤ 1000 := by have := HLT.out; have := HL5.out; omega
            have hn5 : n ≤ 1000 := HL5.out
            go_wp2_with (first | (refine loadNd rfl _ rfl G1 y rfl HD4.out ?_) | (refine loadNd rfl _ rfl G2 y rfl HE4.out ?_))
            go_roundw
            case rel => exact ⟨i + 1, HLT.out, by have := HLT.out; have := HL5.out; go_num, HBv4.out, HT14.out, HT24.out, HM14.out, HM24.out⟩
            case measure => have := HLT.out; have := HL5.out; simp [intOf]; omega
          · have hq : (x1.k == 12) = false := by simpa using h12
            have HY := Lib.hid (show y = x1 by rw [hxy, hx1, if_neg (show ¬ x.k = 12 by rw [← hk1]; exact h12)])
            have HD4 := Lib.hid (show BoxV 44 v3 G1 (ndC y) by rw [HY.out]; exact HD3.out)
            clear hx1 hk1 h12 hxy HD3
            have HE4 := HE3
            have HBv4 := HBv3
            have HT14 := HT13
            have HT24 := HT23
            have HM14 := HM13
            have HM24 := HM23
            clear HE3 HBv3 HT13 HT23 HM13 HM23
            have heq : Ast.eqN ⟨y.k, y.a, y.b, y.s0, y.s1, y.s2, y.s3, y.mn, y.mx, y.md, y.n, y.f⟩ ⟨y.k, y.a, y.b, y.s0, y.s1, y.s2, y.s3, y.mn, y.mx, y.md, y.n, y.f⟩ = true := decide_eq_true rfl
            have hi5 : i ≤ 1000 := by have := HLT.out; have := HL5.out; omega
            have hn5 : n ≤ 1000 := HL5.out
            go_wp2_with (first | (refine loadNd rfl _ rfl G1 y rfl HD4.out ?_) | (refine loadNd rfl _ rfl G2 y rfl HE4.out ?_))
            go_roundw
            case rel => exact ⟨i + 1, HLT.out, by have := HLT.out; have := HL5.out; go_num, HBv4.out, HT14.out, HT24.out, HM14.out, HM24.out⟩
            case measure => have := HLT.out; have := HL5.out; simp [intOf]; omega
        · simp only [Act.put, List.setIfInBounds_toArray, List.set_cons_zero, List.set_cons_succ]
          refine valAt 10 8 (.pointer (some ⟨(World.alloc u0 (.cells (ndC (nd0 0)) 44)).heap.size, 0, none⟩)) (World.alloc (World.alloc u0 (.cells (ndC (nd0 0)) 44)) (.cells (ndC (nd0 0)) 44)) rfl rfl (by kernel_rfl) (by rfl) (by kernel_rfl) ((hS.alloc hS.size _).alloc (by have := hS.size; simp; omega) _) ?_
          simp only [Act.put, List.setIfInBounds_toArray, List.set_cons_zero, List.set_cons_succ]
          have z1 : BoxV 44 (World.alloc (World.alloc u0 (.cells (ndC (nd0 0)) 44)) (.cells (ndC (nd0 0)) 44)) u0.heap.size (ndC (nd0 0)) := (BoxV.new u0 (ndC (nd0 0))).alloc _
          have z2 : BoxV 44 (World.alloc (World.alloc u0 (.cells (ndC (nd0 0)) 44)) (.cells (ndC (nd0 0)) 44)) (World.alloc u0 (.cells (ndC (nd0 0)) 44)).heap.size (ndC (nd0 0)) := BoxV.new _ _
          have hne : u0.heap.size ≠ (World.alloc u0 (.cells (ndC (nd0 0)) 44)).heap.size := by simp
          have hle : (World.alloc u0 (.cells (ndC (nd0 0)) 44)).heap.size = u0.heap.size + 1 := by simp
          have hV : Below wr.heap.size wr (World.alloc (World.alloc u0 (.cells (ndC (nd0 0)) 44)) (.cells (ndC (nd0 0)) 44)) := (hS.alloc hS.size _).alloc (by have := hS.size; omega) _
          generalize (World.alloc (World.alloc u0 (.cells (ndC (nd0 0)) 44)) (.cells (ndC (nd0 0)) 44)) = V0 at z1 z2 hV ⊢
          generalize (World.alloc u0 (.cells (ndC (nd0 0)) 44)).heap.size = G2 at z2 hne hle ⊢
          have hs0 := hS.size
          have hw1 : Below wr.heap.size wr (V0.setRow G2 (ndC x)) := below_row hV (by omega) _
          have y9 : BoxV 44 (V0.setRow G2 (ndC x)) u0.heap.size (ndC (nd0 0)) := z1.row _ hne
          have hw2 : Below wr.heap.size wr ((V0.setRow G2 (ndC x)).setRow u0.heap.size (ndC y)) := below_row hw1 (by omega) _
          have b8 : BoxV 44 ((V0.setRow G2 (ndC x)).setRow u0.heap.size (ndC y)) G2 (ndC x) := (z2.rowSame _).row _ (Ne.symm hne)
          have b9 : BoxV 44 ((V0.setRow G2 (ndC x)).setRow u0.heap.size (ndC y)) u0.heap.size (ndC y) := y9.rowSame _
          refine rowAt 12 44 G2 (ndC (nd0 0)) (ndC x) rfl rfl rfl (by kernel_rfl) (by rfl) rfl rfl z2 sizeNd rfl (ndC_one x) hw1 ?_
          refine rowAt 13 44 u0.heap.size (ndC (nd0 0)) (ndC y) rfl rfl rfl (by kernel_rfl) (by rfl) rfl rfl y9 sizeNd rfl (ndC_one y) hw2 ?_
          refine wpAnyH_done (by kernel_rfl) ?_ _
          generalize (V0.setRow G2 (ndC x)).setRow u0.heap.size (ndC y) = v at b8 b9 hw2 ⊢
          have hgl : wr.heap.size ≤ u0.heap.size := hs0
          clear z1 z2 hV hw1 y9 hs0
          have HD := Lib.hid b8
          have HE := Lib.hid b9
          have HBv := Lib.hid (thenB HBi.out hw2 HBi.out.size)
          have HT1 := Lib.hid (HXi1.out.below hw2 HXi1.out.lt)
          have HT2 := Lib.hid (HXi2.out.below hw2 HXi2.out.lt)
          have HM1 := Lib.hid (HNi1.out.below hw2 (Nat.le_refl _))
          have HM2 := Lib.hid (HNi2.out.below hw2 (Nat.le_refl _))
          have HG8 := Lib.hid (show wr.heap.size ≤ G2 by omega)
          have HWV := Lib.hid hw2.size
          clear b8 b9 hw2 hS
          have HNE := Lib.hid (show u0.heap.size ≠ G2 from hne)
          generalize hu : u0.heap.size = G1 at *
          clear hu hne hle hgl
          have d3 : v.cell? ⟨G2, 3, none⟩ = some (.int .u64 (W S 0)) := (cell_of_row v _ 3 _ _ _ HD.out).trans (by rw [← hS0]; rfl)
          have d4 : v.cell? ⟨G2, 4, none⟩ = some (.int .u64 (W S 1)) := (cell_of_row v _ 4 _ _ _ HD.out).trans (by rw [← hS1]; rfl)
          have d5 : v.cell? ⟨G2, 5, none⟩ = some (.int .u64 (W S 2)) := (cell_of_row v _ 5 _ _ _ HD.out).trans (by rw [← hS2]; rfl)
          have d6 : v.cell? ⟨G2, 6, none⟩ = some (.int .u64 (W S 3)) := (cell_of_row v _ 6 _ _ _ HD.out).trans (by rw [← hS3]; rfl)
          go_wp2_with fail
          refine (fold_any S _).mono ?_
          rintro e v2 ⟨rfl, hb⟩
          have HD2 := Lib.hid (HD.out.below hb HD.out.lt)
          have HE2 := Lib.hid (HE.out.below hb HE.out.lt)
          have HBv2 := Lib.hid (thenB HBv.out hb HBv.out.size)
          have HT12 := Lib.hid (HT1.out.below hb HT1.out.lt)
          have HT22 := Lib.hid (HT2.out.below hb HT2.out.lt)
          have HM12 := Lib.hid (HM1.out.below hb (Nat.le_refl _))
          have HM22 := Lib.hid (HM2.out.below hb (Nat.le_refl _))
          clear d3 d4 d5 d6 hb HD HE HBv HT1 HT2 HM1 HM2
          go_wp2_with (refine storeSet7 rfl rfl G2 x (foldS S) rfl rfl HD2.out ?_; intro v3 hx hN; refine stopP ?_)
          unfold StopP
          have HE3 := Lib.hid (HE2.out.but hN.out HE2.out.lt HNE.out)
          have HBv3 := Lib.hid (HBv2.out.trans (hN.out.below HBv2.out.size (Nat.le_trans HBi.out.size HG8.out)))
          have HT13 := Lib.hid (HT12.out.but hN.out HT12.out.lt (by have := HXi1.out.lt; have := HG8.out; omega))
          have HT23 := Lib.hid (HT22.out.but hN.out HT22.out.lt (by have := HXi2.out.lt; have := HG8.out; omega))
          have HM13 := Lib.hid (nodes_but HM12.out hN.out (fun a ha => by have := HNL1.out a ha; have := HG8.out; omega))
          have HM23 := Lib.hid (nodes_but HM22.out hN.out (fun a ha => by have := HNL2.out a ha; have := HG8.out; omega))
          have HD3 := Lib.hid hx.out
          clear hx hN HD2 HE2 HBv2 HT12 HT22 HM12 HM22
          obtain ⟨x1, hx1⟩ : ∃ x1, x1 = ({ x with s0 := W (foldS S) 0, s1 := W (foldS S) 1, s2 := W (foldS S) 2, s3 := W (foldS S) 3 } : Nd) := ⟨_, rfl⟩
          rw [← hx1] at HD3
          have hk1 : x1.k = x.k := by rw [hx1]
          have HX1k := Lib.hid hx1
          have d0 : v3.cell? ⟨G2, 0, none⟩ = some (.int .i64 x1.k) := (cell_of_row v3 _ 0 _ _ _ HD3.out).trans rfl
          by_cases h12 : x1.k = 12
          · rw [h12] at d0
            have HY := Lib.hid (show y = { x1 with f := true } by rw [hxy, hx1, if_pos (show x.k = 12 by rw [← hk1]; exact h12)])
            clear hx1 hk1 h12 hxy
            go_wp2_with (first | (refine storeFl7 rfl rfl G2 x1 true rfl rfl HD3.out ?_; intro v4 hx hN; refine stopP ?_))
            unfold StopP
            have HE4 := Lib.hid (HE3.out.but hN.out HE3.out.lt HNE.out)
            have HBv4 := Lib.hid (HBv3.out.trans (hN.out.below HBv3.out.size (Nat.le_trans HBi.out.size HG8.out)))
            have HT14 := Lib.hid (HT13.out.but hN.out HT13.out.lt (by have := HXi1.out.lt; have := HG8.out; omega))
            have HT24 := Lib.hid (HT23.out.but hN.out HT23.out.lt (by have := HXi2.out.lt; have := HG8.out; omega))
            have HM14 := Lib.hid (nodes_but HM13.out hN.out (fun a ha => by have := HNL1.out a ha; have := HG8.out; omega))
            have HM24 := Lib.hid (nodes_but HM23.out hN.out (fun a ha => by have := HNL2.out a ha; have := HG8.out; omega))
            have HD4 := Lib.hid (show BoxV 44 v4 G2 (ndC y) by rw [HY.out]; exact hx.out)
            clear hx hN HD3 HE3 HBv3 HT13 HT23 HM13 HM23 d0
            have heq : Ast.eqN ⟨y.k, y.a, y.b, y.s0, y.s1, y.s2, y.s3, y.mn, y.mx, y.md, y.n, y.f⟩ ⟨y.k, y.a, y.b, y.s0, y.s1, y.s2, y.s3, y.mn, y.mx, y.md, y.n, y.f⟩ = true := decide_eq_true rfl
            have hi5 : i ≤ 1000 := by have := HLT.out; have := HL5.out; omega
            have hn5 : n ≤ 1000 := HL5.out
            go_wp2_with (first | (refine loadNd rfl _ rfl G2 y rfl HD4.out ?_) | (refine loadNd rfl _ rfl G1 y rfl HE4.out ?_))
            go_roundw
            case rel => exact ⟨i + 1, HLT.out, by have := HLT.out; have := HL5.out; go_num, HBv4.out, HT14.out, HT24.out, HM14.out, HM24.out⟩
            case measure => have := HLT.out; have := HL5.out; simp [intOf]; omega
          · have hq : (x1.k == 12) = false := by simpa using h12
            have HY := Lib.hid (show y = x1 by rw [hxy, hx1, if_neg (show ¬ x.k = 12 by rw [← hk1]; exact h12)])
            have HD4 := Lib.hid (show BoxV 44 v3 G2 (ndC y) by rw [HY.out]; exact HD3.out)
            clear hx1 hk1 h12 hxy HD3
            have HE4 := HE3
            have HBv4 := HBv3
            have HT14 := HT13
            have HT24 := HT23
            have HM14 := HM13
            have HM24 := HM23
            clear HE3 HBv3 HT13 HT23 HM13 HM23
            have heq : Ast.eqN ⟨y.k, y.a, y.b, y.s0, y.s1, y.s2, y.s3, y.mn, y.mx, y.md, y.n, y.f⟩ ⟨y.k, y.a, y.b, y.s0, y.s1, y.s2, y.s3, y.mn, y.mx, y.md, y.n, y.f⟩ = true := decide_eq_true rfl
            have hi5 : i ≤ 1000 := by have := HLT.out; have := HL5.out; omega
            have hn5 : n ≤ 1000 := HL5.out
            go_wp2_with (first | (refine loadNd rfl _ rfl G2 y rfl HD4.out ?_) | (refine loadNd rfl _ rfl G1 y rfl HE4.out ?_))
            go_roundw
            case rel => exact ⟨i + 1, HLT.out, by have := HLT.out; have := HL5.out; go_num, HBv4.out, HT14.out, HT24.out, HM14.out, HM24.out⟩
            case measure => have := HLT.out; have := HL5.out; simp [intOf]; omega
      · obtain rfl : n = i := by omega
        clear hb hbx1 hbx2 hnd1 hnd2 hlt hi
        go_wp2_with fail
        with_reducible refine (HF.out _ (HT.out.call HBi.out)).mono ?_
        rintro e wf9 ⟨rfl, hb⟩
        have HZ := Lib.hid (thenB HBi.out hb HBi.out.size)
        clear hb
        go_wp2_with fail
        go_ret
        exact ⟨rfl, HZ.out⟩
  

theorem parseFlags_any (K : PKit) (p : ByteArray) (w : World) (hs : p.size ≤ 9223372036854775807) (hw : Tabs w) : Calls Tryz.prog 7 #[.string p] w fun e w' => e = .returned (.bool true) ∧ Below w.heap.size w w' := by
  by_cases h : p.size ≤ 200
  · exact parseFlags_s K p w hs hw h
  · exact parseFlags_l K p w hs hw (by omega)
end Go.Proofs.YtdnbpbngoiahlaaGreatDoor
