/-
  The statement ClassTells: what its walk comes to.
-/
import Derived.Test.YtobhhhopkkcdiaaDoorTellsKit
import Derived.Deep.DeepCutAuto
namespace Go.Proofs.YtobhhhopkkcdiaaDoor
open Go.RowKit

set_option maxHeartbeats 8000000 in
set_option maxRecDepth 100000 in
theorem classTells_Ztrue (hfix : FixedOk) (S T : BitVec 256) (c : Nat) (w : World) (ht : TabOk w) (hc : c < 256) (hz : S = 0#256) (hB : mem S c = true) :
    Calls Tryd.prog 3 #[setV S, setV T, .int .u8 (c : Int)] w fun e w' => e = .returned (.bool true) ∧ Below w.heap.size w w' := by
  have HF := Lib.hid hfix
  have h0 := ht.lt
  have HM := Lib.hid hB
  have HZ := Lib.hid hz
  have hS := (((Held.start ht).new S).new T).drew
  rw [World.size_alloc] at hS
  have HS := Lib.hid hS
  clear hfix ht hB hz hS
  go_enter Tryd.func3, Tryd.ntmps3
  go_upto_region 1 with fail
  go_cut [7, 8] (fun u v wx => ∃ ga gb : Nat, u = .pointer (some ⟨ga, 0, none⟩) ∧ v = .pointer (some ⟨gb, 0, none⟩) ∧ HeldT w S T ga gb wx)
  case first =>
    have hS := HS.out
    clear HS
    refine wp_region_held_drew (S := Held w [(w.heap.size + 1, T), (w.heap.size, S)]) (by kernel_rfl) hS (fun _ => ?_)
    refine takeAt 0 13 (.pointer (some ⟨w.heap.size, 0, none⟩)) rfl rfl (by kernel_rfl) (by kernel_rfl) (by kernel_rfl) (fun _ _ _ h => h) (yields (by rfl) (fun w => by kernel_rfl)) hS ?_
    simp only [Act.put, List.setIfInBounds_toArray, List.set_cons_zero, List.set_cons_succ]
    refine takeAt 1 14 (setV S) rfl rfl (by kernel_rfl) (by kernel_rfl) (by kernel_rfl) (fun _ _ _ h => h) (load23_y rfl rfl (List.mem_cons_of_mem _ List.mem_cons_self) (by rfl)) hS ?_
    simp only [Act.put, List.setIfInBounds_toArray, List.set_cons_zero, List.set_cons_succ]
    refine takeAt 3 16 (.pointer (some ⟨w.heap.size + 1, 0, none⟩)) rfl rfl (by kernel_rfl) (by kernel_rfl) (by kernel_rfl) (fun _ _ _ h => h) (yields (by rfl) (fun w => by kernel_rfl)) hS ?_
    simp only [Act.put, List.setIfInBounds_toArray, List.set_cons_zero, List.set_cons_succ]
    refine takeAt 4 17 (setV T) rfl rfl (by kernel_rfl) (by kernel_rfl) (by kernel_rfl) (fun _ _ _ h => h) (load23_y rfl rfl List.mem_cons_self (by rfl)) hS ?_
    simp only [Act.put, List.setIfInBounds_toArray, List.set_cons_zero, List.set_cons_succ]
    obtain ⟨wz, hwz⟩ : ∃ wz, wz = ((w.alloc (.cells #[.int .u64 (W S 0), .int .u64 (W S 1), .int .u64 (W S 2), .int .u64 (W S 3)] 25)).alloc (.cells #[.int .u64 (W T 0), .int .u64 (W T 1), .int .u64 (W T 2), .int .u64 (W T 3)] 25)).drew := ⟨_, rfl⟩
    rw [← hwz] at hS ⊢
    clear hwz
    obtain ⟨g1, hg1⟩ : ∃ g1, g1 = (wz).heap.size := ⟨_, rfl⟩
    refine wpAnyH_ready (rs := [2, 6, 7]) (by kernel_rfl) (by simp) (AllReadyH.cons rfl (callStep 2 15 rfl (by rfl) (by kernel_rfl) (rof_any S _) ?_) (AllReadyH.cons rfl (valStep 6 7 (.pointer (some ⟨g1, 0, none⟩)) (wz.alloc (.cells (bitsA 0#256) 28)) rfl (by rfl) (by rw [hg1]; kernel_rfl) (hS.alloc _) ?_) (AllReadyH.cons rfl (valStep 7 8 (.pointer (some ⟨g1, 0, none⟩)) (wz.alloc (.cells (bitsA 0#256) 28)) rfl (by rfl) (by rw [hg1]; kernel_rfl) (hS.alloc _) ?_) AllReadyH.nil)))
    · rintro e w2 ⟨rfl, hb⟩
      refine ⟨_, rfl, hS.call hb, ?_⟩
      have hH3 := hS.call hb
      clear hb
      simp only [Act.put, List.setIfInBounds_toArray, List.set_cons_zero, List.set_cons_succ]
      obtain ⟨g4, hg4⟩ : ∃ g4, g4 = (w2).heap.size := ⟨_, rfl⟩
      refine wpAnyH_ready (rs := [5, 6, 7]) (by kernel_rfl) (by simp) (AllReadyH.cons rfl (callStep 5 18 rfl (by rfl) (by kernel_rfl) (rof_any T _) ?_) (AllReadyH.cons rfl (valStep 6 7 (.pointer (some ⟨g4, 0, none⟩)) (w2.alloc (.cells (bitsA 0#256) 28)) rfl (by rfl) (by rw [hg4]; kernel_rfl) (hH3.alloc _) ?_) (AllReadyH.cons rfl (valStep 7 8 (.pointer (some ⟨g4, 0, none⟩)) (w2.alloc (.cells (bitsA 0#256) 28)) rfl (by rfl) (by rw [hg4]; kernel_rfl) (hH3.alloc _) ?_) AllReadyH.nil)))
      · rintro e w5 ⟨rfl, hb⟩
        refine ⟨_, rfl, hH3.call hb, ?_⟩
        have hH6 := hH3.call hb
        clear hb
        simp only [Act.put, List.setIfInBounds_toArray, List.set_cons_zero, List.set_cons_succ]
        obtain ⟨g7, hg7⟩ : ∃ g7, g7 = (w5).heap.size := ⟨_, rfl⟩
        refine wpAnyH_ready (rs := [6, 7]) (by kernel_rfl) (by simp) (AllReadyH.cons rfl (valStep 6 7 (.pointer (some ⟨g7, 0, none⟩)) (w5.alloc (.cells (bitsA 0#256) 28)) rfl (by rfl) (by rw [hg7]; kernel_rfl) (hH6.alloc _) ?_) (AllReadyH.cons rfl (valStep 7 8 (.pointer (some ⟨g7, 0, none⟩)) (w5.alloc (.cells (bitsA 0#256) 28)) rfl (by rfl) (by rw [hg7]; kernel_rfl) (hH6.alloc _) ?_) AllReadyH.nil))
        · have x9 : BoxA (w5.alloc (.cells (bitsA 0#256) 28)) g7 0#256 := by rw [hg7]; exact BoxA.new _ _
          have lx9 : w.heap.size + 1 < g7 := by rw [hg7]; exact (hH6.1 _ List.mem_cons_self).lt
          have hH8 := hH6.alloc (.cells (bitsA 0#256) 28)
          simp only [Act.put, List.setIfInBounds_toArray, List.set_cons_zero, List.set_cons_succ]
          obtain ⟨g10, hg10⟩ : ∃ g10, g10 = ((w5.alloc (.cells (bitsA 0#256) 28))).heap.size := ⟨_, rfl⟩
          refine wpAnyH_ready (rs := [7]) (by kernel_rfl) (by simp) (AllReadyH.cons rfl (valStep 7 8 (.pointer (some ⟨g10, 0, none⟩)) ((w5.alloc (.cells (bitsA 0#256) 28)).alloc (.cells (bitsA 0#256) 28)) rfl (by rfl) (by rw [hg10]; kernel_rfl) (hH8.alloc _) ?_) AllReadyH.nil)
          · have x12 : BoxA ((w5.alloc (.cells (bitsA 0#256) 28)).alloc (.cells (bitsA 0#256) 28)) g10 0#256 := by rw [hg10]; exact BoxA.new _ _
            have lx12 : w.heap.size + 1 < g10 := by rw [hg10]; exact (hH8.1 _ List.mem_cons_self).lt
            have mx12 : g7 < g10 := by rw [hg10]; exact x9.lt
            have x13 := x9.alloc (.cells (bitsA 0#256) 28)
            have hH11 := hH8.alloc (.cells (bitsA 0#256) 28)
            simp only [Act.put, List.setIfInBounds_toArray, List.set_cons_zero, List.set_cons_succ]
            have ne : ∀ g, w.heap.size + 1 < g → ∀ p ∈ [(w.heap.size + 1, T), (w.heap.size, S)], p.1 ≠ g := by intro g hg p hp; simp at hp; rcases hp with rfl | rfl <;> simp <;> omega
            have hC := hH11.row g7 (bitsA S) h0 (by omega) (ne _ (by omega))
            have b1 : BoxA (((w5.alloc (.cells (bitsA 0#256) 28)).alloc (.cells (bitsA 0#256) 28)).setRow g7 (bitsA S)) g7 S := BoxA.rowSame (S := 0#256) x13 _
            have b2 : BoxA (((w5.alloc (.cells (bitsA 0#256) 28)).alloc (.cells (bitsA 0#256) 28)).setRow g7 (bitsA S)) g10 0#256 := BoxA.row x12 _ (by omega)
            have hD := hC.row g10 (bitsA T) h0 (by omega) (ne _ (by omega))
            refine wpAnyH_ready (rs := [8]) (by kernel_rfl) (by simp) (AllReadyH.cons rfl (storeStep 8 g7 0#256 S rfl rfl (by rfl) rfl rfl x13 hC ?_) AllReadyH.nil)
            refine wpAnyH_ready (rs := [9]) (by kernel_rfl) (by simp) (AllReadyH.cons rfl (storeStep 9 g10 0#256 T rfl rfl (by rfl) rfl rfl b2 hD ?_) AllReadyH.nil)
            refine wpAnyH_done (by kernel_rfl) ?_ _
            go_wp2_with fail
            go_meet
            exact ⟨g7, g10, rfl, rfl, hD, BoxA.row b1 _ (by omega), BoxA.rowSame (S := 0#256) b2 _⟩
        · have x15 : BoxA (w5.alloc (.cells (bitsA 0#256) 28)) g7 0#256 := by rw [hg7]; exact BoxA.new _ _
          have lx15 : w.heap.size + 1 < g7 := by rw [hg7]; exact (hH6.1 _ List.mem_cons_self).lt
          have hH14 := hH6.alloc (.cells (bitsA 0#256) 28)
          simp only [Act.put, List.setIfInBounds_toArray, List.set_cons_zero, List.set_cons_succ]
          obtain ⟨g16, hg16⟩ : ∃ g16, g16 = ((w5.alloc (.cells (bitsA 0#256) 28))).heap.size := ⟨_, rfl⟩
          refine wpAnyH_ready (rs := [6]) (by kernel_rfl) (by simp) (AllReadyH.cons rfl (valStep 6 7 (.pointer (some ⟨g16, 0, none⟩)) ((w5.alloc (.cells (bitsA 0#256) 28)).alloc (.cells (bitsA 0#256) 28)) rfl (by rfl) (by rw [hg16]; kernel_rfl) (hH14.alloc _) ?_) AllReadyH.nil)
          · have x18 : BoxA ((w5.alloc (.cells (bitsA 0#256) 28)).alloc (.cells (bitsA 0#256) 28)) g16 0#256 := by rw [hg16]; exact BoxA.new _ _
            have lx18 : w.heap.size + 1 < g16 := by rw [hg16]; exact (hH14.1 _ List.mem_cons_self).lt
            have mx18 : g7 < g16 := by rw [hg16]; exact x15.lt
            have x19 := x15.alloc (.cells (bitsA 0#256) 28)
            have hH17 := hH14.alloc (.cells (bitsA 0#256) 28)
            simp only [Act.put, List.setIfInBounds_toArray, List.set_cons_zero, List.set_cons_succ]
            have ne : ∀ g, w.heap.size + 1 < g → ∀ p ∈ [(w.heap.size + 1, T), (w.heap.size, S)], p.1 ≠ g := by intro g hg p hp; simp at hp; rcases hp with rfl | rfl <;> simp <;> omega
            have hC := hH17.row g16 (bitsA S) h0 (by omega) (ne _ (by omega))
            have b1 : BoxA (((w5.alloc (.cells (bitsA 0#256) 28)).alloc (.cells (bitsA 0#256) 28)).setRow g16 (bitsA S)) g16 S := BoxA.rowSame (S := 0#256) x18 _
            have b2 : BoxA (((w5.alloc (.cells (bitsA 0#256) 28)).alloc (.cells (bitsA 0#256) 28)).setRow g16 (bitsA S)) g7 0#256 := BoxA.row x19 _ (by omega)
            have hD := hC.row g7 (bitsA T) h0 (by omega) (ne _ (by omega))
            refine wpAnyH_ready (rs := [8]) (by kernel_rfl) (by simp) (AllReadyH.cons rfl (storeStep 8 g16 0#256 S rfl rfl (by rfl) rfl rfl x18 hC ?_) AllReadyH.nil)
            refine wpAnyH_ready (rs := [9]) (by kernel_rfl) (by simp) (AllReadyH.cons rfl (storeStep 9 g7 0#256 T rfl rfl (by rfl) rfl rfl b2 hD ?_) AllReadyH.nil)
            refine wpAnyH_done (by kernel_rfl) ?_ _
            go_wp2_with fail
            go_meet
            exact ⟨g16, g7, rfl, rfl, hD, BoxA.row b1 _ (by omega), BoxA.rowSame (S := 0#256) b2 _⟩
      · have x21 : BoxA (w2.alloc (.cells (bitsA 0#256) 28)) g4 0#256 := by rw [hg4]; exact BoxA.new _ _
        have lx21 : w.heap.size + 1 < g4 := by rw [hg4]; exact (hH3.1 _ List.mem_cons_self).lt
        have hH20 := hH3.alloc (.cells (bitsA 0#256) 28)
        simp only [Act.put, List.setIfInBounds_toArray, List.set_cons_zero, List.set_cons_succ]
        obtain ⟨g22, hg22⟩ : ∃ g22, g22 = ((w2.alloc (.cells (bitsA 0#256) 28))).heap.size := ⟨_, rfl⟩
        refine wpAnyH_ready (rs := [5, 7]) (by kernel_rfl) (by simp) (AllReadyH.cons rfl (callStep 5 18 rfl (by rfl) (by kernel_rfl) (rof_any T _) ?_) (AllReadyH.cons rfl (valStep 7 8 (.pointer (some ⟨g22, 0, none⟩)) ((w2.alloc (.cells (bitsA 0#256) 28)).alloc (.cells (bitsA 0#256) 28)) rfl (by rfl) (by rw [hg22]; kernel_rfl) (hH20.alloc _) ?_) AllReadyH.nil))
        · rintro e w23 ⟨rfl, hb⟩
          refine ⟨_, rfl, hH20.call hb, ?_⟩
          have hH24 := hH20.call hb
          have x25 := x21.below hb x21.lt
          clear hb
          simp only [Act.put, List.setIfInBounds_toArray, List.set_cons_zero, List.set_cons_succ]
          obtain ⟨g26, hg26⟩ : ∃ g26, g26 = (w23).heap.size := ⟨_, rfl⟩
          refine wpAnyH_ready (rs := [7]) (by kernel_rfl) (by simp) (AllReadyH.cons rfl (valStep 7 8 (.pointer (some ⟨g26, 0, none⟩)) (w23.alloc (.cells (bitsA 0#256) 28)) rfl (by rfl) (by rw [hg26]; kernel_rfl) (hH24.alloc _) ?_) AllReadyH.nil)
          · have x28 : BoxA (w23.alloc (.cells (bitsA 0#256) 28)) g26 0#256 := by rw [hg26]; exact BoxA.new _ _
            have lx28 : w.heap.size + 1 < g26 := by rw [hg26]; exact (hH24.1 _ List.mem_cons_self).lt
            have mx28 : g4 < g26 := by rw [hg26]; exact x25.lt
            have x29 := x25.alloc (.cells (bitsA 0#256) 28)
            have hH27 := hH24.alloc (.cells (bitsA 0#256) 28)
            simp only [Act.put, List.setIfInBounds_toArray, List.set_cons_zero, List.set_cons_succ]
            have ne : ∀ g, w.heap.size + 1 < g → ∀ p ∈ [(w.heap.size + 1, T), (w.heap.size, S)], p.1 ≠ g := by intro g hg p hp; simp at hp; rcases hp with rfl | rfl <;> simp <;> omega
            have hC := hH27.row g4 (bitsA S) h0 (by omega) (ne _ (by omega))
            have b1 : BoxA ((w23.alloc (.cells (bitsA 0#256) 28)).setRow g4 (bitsA S)) g4 S := BoxA.rowSame (S := 0#256) x29 _
            have b2 : BoxA ((w23.alloc (.cells (bitsA 0#256) 28)).setRow g4 (bitsA S)) g26 0#256 := BoxA.row x28 _ (by omega)
            have hD := hC.row g26 (bitsA T) h0 (by omega) (ne _ (by omega))
            refine wpAnyH_ready (rs := [8]) (by kernel_rfl) (by simp) (AllReadyH.cons rfl (storeStep 8 g4 0#256 S rfl rfl (by rfl) rfl rfl x29 hC ?_) AllReadyH.nil)
            refine wpAnyH_ready (rs := [9]) (by kernel_rfl) (by simp) (AllReadyH.cons rfl (storeStep 9 g26 0#256 T rfl rfl (by rfl) rfl rfl b2 hD ?_) AllReadyH.nil)
            refine wpAnyH_done (by kernel_rfl) ?_ _
            go_wp2_with fail
            go_meet
            exact ⟨g4, g26, rfl, rfl, hD, BoxA.row b1 _ (by omega), BoxA.rowSame (S := 0#256) b2 _⟩
        · have x31 : BoxA ((w2.alloc (.cells (bitsA 0#256) 28)).alloc (.cells (bitsA 0#256) 28)) g22 0#256 := by rw [hg22]; exact BoxA.new _ _
          have lx31 : w.heap.size + 1 < g22 := by rw [hg22]; exact (hH20.1 _ List.mem_cons_self).lt
          have mx31 : g4 < g22 := by rw [hg22]; exact x21.lt
          have x32 := x21.alloc (.cells (bitsA 0#256) 28)
          have hH30 := hH20.alloc (.cells (bitsA 0#256) 28)
          simp only [Act.put, List.setIfInBounds_toArray, List.set_cons_zero, List.set_cons_succ]
          refine wpAnyH_ready (rs := [5]) (by kernel_rfl) (by simp) (AllReadyH.cons rfl (callStep 5 18 rfl (by rfl) (by kernel_rfl) (rof_any T _) ?_) AllReadyH.nil)
          · rintro e w34 ⟨rfl, hb⟩
            refine ⟨_, rfl, hH30.call hb, ?_⟩
            have hH35 := hH30.call hb
            have x36 := x32.below hb x32.lt
            have x37 := x31.below hb x31.lt
            clear hb
            simp only [Act.put, List.setIfInBounds_toArray, List.set_cons_zero, List.set_cons_succ]
            have ne : ∀ g, w.heap.size + 1 < g → ∀ p ∈ [(w.heap.size + 1, T), (w.heap.size, S)], p.1 ≠ g := by intro g hg p hp; simp at hp; rcases hp with rfl | rfl <;> simp <;> omega
            have hC := hH35.row g4 (bitsA S) h0 (by omega) (ne _ (by omega))
            have b1 : BoxA (w34.setRow g4 (bitsA S)) g4 S := BoxA.rowSame (S := 0#256) x36 _
            have b2 : BoxA (w34.setRow g4 (bitsA S)) g22 0#256 := BoxA.row x37 _ (by omega)
            have hD := hC.row g22 (bitsA T) h0 (by omega) (ne _ (by omega))
            refine wpAnyH_ready (rs := [8]) (by kernel_rfl) (by simp) (AllReadyH.cons rfl (storeStep 8 g4 0#256 S rfl rfl (by rfl) rfl rfl x36 hC ?_) AllReadyH.nil)
            refine wpAnyH_ready (rs := [9]) (by kernel_rfl) (by simp) (AllReadyH.cons rfl (storeStep 9 g22 0#256 T rfl rfl (by rfl) rfl rfl b2 hD ?_) AllReadyH.nil)
            refine wpAnyH_done (by kernel_rfl) ?_ _
            go_wp2_with fail
            go_meet
            exact ⟨g4, g22, rfl, rfl, hD, BoxA.row b1 _ (by omega), BoxA.rowSame (S := 0#256) b2 _⟩
      · have x39 : BoxA (w2.alloc (.cells (bitsA 0#256) 28)) g4 0#256 := by rw [hg4]; exact BoxA.new _ _
        have lx39 : w.heap.size + 1 < g4 := by rw [hg4]; exact (hH3.1 _ List.mem_cons_self).lt
        have hH38 := hH3.alloc (.cells (bitsA 0#256) 28)
        simp only [Act.put, List.setIfInBounds_toArray, List.set_cons_zero, List.set_cons_succ]
        obtain ⟨g40, hg40⟩ : ∃ g40, g40 = ((w2.alloc (.cells (bitsA 0#256) 28))).heap.size := ⟨_, rfl⟩
        refine wpAnyH_ready (rs := [5, 6]) (by kernel_rfl) (by simp) (AllReadyH.cons rfl (callStep 5 18 rfl (by rfl) (by kernel_rfl) (rof_any T _) ?_) (AllReadyH.cons rfl (valStep 6 7 (.pointer (some ⟨g40, 0, none⟩)) ((w2.alloc (.cells (bitsA 0#256) 28)).alloc (.cells (bitsA 0#256) 28)) rfl (by rfl) (by rw [hg40]; kernel_rfl) (hH38.alloc _) ?_) AllReadyH.nil))
        · rintro e w41 ⟨rfl, hb⟩
          refine ⟨_, rfl, hH38.call hb, ?_⟩
          have hH42 := hH38.call hb
          have x43 := x39.below hb x39.lt
          clear hb
          simp only [Act.put, List.setIfInBounds_toArray, List.set_cons_zero, List.set_cons_succ]
          obtain ⟨g44, hg44⟩ : ∃ g44, g44 = (w41).heap.size := ⟨_, rfl⟩
          refine wpAnyH_ready (rs := [6]) (by kernel_rfl) (by simp) (AllReadyH.cons rfl (valStep 6 7 (.pointer (some ⟨g44, 0, none⟩)) (w41.alloc (.cells (bitsA 0#256) 28)) rfl (by rfl) (by rw [hg44]; kernel_rfl) (hH42.alloc _) ?_) AllReadyH.nil)
          · have x46 : BoxA (w41.alloc (.cells (bitsA 0#256) 28)) g44 0#256 := by rw [hg44]; exact BoxA.new _ _
            have lx46 : w.heap.size + 1 < g44 := by rw [hg44]; exact (hH42.1 _ List.mem_cons_self).lt
            have mx46 : g4 < g44 := by rw [hg44]; exact x43.lt
            have x47 := x43.alloc (.cells (bitsA 0#256) 28)
            have hH45 := hH42.alloc (.cells (bitsA 0#256) 28)
            simp only [Act.put, List.setIfInBounds_toArray, List.set_cons_zero, List.set_cons_succ]
            have ne : ∀ g, w.heap.size + 1 < g → ∀ p ∈ [(w.heap.size + 1, T), (w.heap.size, S)], p.1 ≠ g := by intro g hg p hp; simp at hp; rcases hp with rfl | rfl <;> simp <;> omega
            have hC := hH45.row g44 (bitsA S) h0 (by omega) (ne _ (by omega))
            have b1 : BoxA ((w41.alloc (.cells (bitsA 0#256) 28)).setRow g44 (bitsA S)) g44 S := BoxA.rowSame (S := 0#256) x46 _
            have b2 : BoxA ((w41.alloc (.cells (bitsA 0#256) 28)).setRow g44 (bitsA S)) g4 0#256 := BoxA.row x47 _ (by omega)
            have hD := hC.row g4 (bitsA T) h0 (by omega) (ne _ (by omega))
            refine wpAnyH_ready (rs := [8]) (by kernel_rfl) (by simp) (AllReadyH.cons rfl (storeStep 8 g44 0#256 S rfl rfl (by rfl) rfl rfl x46 hC ?_) AllReadyH.nil)
            refine wpAnyH_ready (rs := [9]) (by kernel_rfl) (by simp) (AllReadyH.cons rfl (storeStep 9 g4 0#256 T rfl rfl (by rfl) rfl rfl b2 hD ?_) AllReadyH.nil)
            refine wpAnyH_done (by kernel_rfl) ?_ _
            go_wp2_with fail
            go_meet
            exact ⟨g44, g4, rfl, rfl, hD, BoxA.row b1 _ (by omega), BoxA.rowSame (S := 0#256) b2 _⟩
        · have x49 : BoxA ((w2.alloc (.cells (bitsA 0#256) 28)).alloc (.cells (bitsA 0#256) 28)) g40 0#256 := by rw [hg40]; exact BoxA.new _ _
          have lx49 : w.heap.size + 1 < g40 := by rw [hg40]; exact (hH38.1 _ List.mem_cons_self).lt
          have mx49 : g4 < g40 := by rw [hg40]; exact x39.lt
          have x50 := x39.alloc (.cells (bitsA 0#256) 28)
          have hH48 := hH38.alloc (.cells (bitsA 0#256) 28)
          simp only [Act.put, List.setIfInBounds_toArray, List.set_cons_zero, List.set_cons_succ]
          refine wpAnyH_ready (rs := [5]) (by kernel_rfl) (by simp) (AllReadyH.cons rfl (callStep 5 18 rfl (by rfl) (by kernel_rfl) (rof_any T _) ?_) AllReadyH.nil)
          · rintro e w52 ⟨rfl, hb⟩
            refine ⟨_, rfl, hH48.call hb, ?_⟩
            have hH53 := hH48.call hb
            have x54 := x49.below hb x49.lt
            have x55 := x50.below hb x50.lt
            clear hb
            simp only [Act.put, List.setIfInBounds_toArray, List.set_cons_zero, List.set_cons_succ]
            have ne : ∀ g, w.heap.size + 1 < g → ∀ p ∈ [(w.heap.size + 1, T), (w.heap.size, S)], p.1 ≠ g := by intro g hg p hp; simp at hp; rcases hp with rfl | rfl <;> simp <;> omega
            have hC := hH53.row g40 (bitsA S) h0 (by omega) (ne _ (by omega))
            have b1 : BoxA (w52.setRow g40 (bitsA S)) g40 S := BoxA.rowSame (S := 0#256) x54 _
            have b2 : BoxA (w52.setRow g40 (bitsA S)) g4 0#256 := BoxA.row x55 _ (by omega)
            have hD := hC.row g4 (bitsA T) h0 (by omega) (ne _ (by omega))
            refine wpAnyH_ready (rs := [8]) (by kernel_rfl) (by simp) (AllReadyH.cons rfl (storeStep 8 g40 0#256 S rfl rfl (by rfl) rfl rfl x54 hC ?_) AllReadyH.nil)
            refine wpAnyH_ready (rs := [9]) (by kernel_rfl) (by simp) (AllReadyH.cons rfl (storeStep 9 g4 0#256 T rfl rfl (by rfl) rfl rfl b2 hD ?_) AllReadyH.nil)
            refine wpAnyH_done (by kernel_rfl) ?_ _
            go_wp2_with fail
            go_meet
            exact ⟨g40, g4, rfl, rfl, hD, BoxA.row b1 _ (by omega), BoxA.rowSame (S := 0#256) b2 _⟩
    · have x57 : BoxA (wz.alloc (.cells (bitsA 0#256) 28)) g1 0#256 := by rw [hg1]; exact BoxA.new _ _
      have lx57 : w.heap.size + 1 < g1 := by rw [hg1]; exact (hS.1 _ List.mem_cons_self).lt
      have hH56 := hS.alloc (.cells (bitsA 0#256) 28)
      simp only [Act.put, List.setIfInBounds_toArray, List.set_cons_zero, List.set_cons_succ]
      obtain ⟨g58, hg58⟩ : ∃ g58, g58 = ((wz.alloc (.cells (bitsA 0#256) 28))).heap.size := ⟨_, rfl⟩
      refine wpAnyH_ready (rs := [2, 7]) (by kernel_rfl) (by simp) (AllReadyH.cons rfl (callStep 2 15 rfl (by rfl) (by kernel_rfl) (rof_any S _) ?_) (AllReadyH.cons rfl (valStep 7 8 (.pointer (some ⟨g58, 0, none⟩)) ((wz.alloc (.cells (bitsA 0#256) 28)).alloc (.cells (bitsA 0#256) 28)) rfl (by rfl) (by rw [hg58]; kernel_rfl) (hH56.alloc _) ?_) AllReadyH.nil))
      · rintro e w59 ⟨rfl, hb⟩
        refine ⟨_, rfl, hH56.call hb, ?_⟩
        have hH60 := hH56.call hb
        have x61 := x57.below hb x57.lt
        clear hb
        simp only [Act.put, List.setIfInBounds_toArray, List.set_cons_zero, List.set_cons_succ]
        obtain ⟨g62, hg62⟩ : ∃ g62, g62 = (w59).heap.size := ⟨_, rfl⟩
        refine wpAnyH_ready (rs := [5, 7]) (by kernel_rfl) (by simp) (AllReadyH.cons rfl (callStep 5 18 rfl (by rfl) (by kernel_rfl) (rof_any T _) ?_) (AllReadyH.cons rfl (valStep 7 8 (.pointer (some ⟨g62, 0, none⟩)) (w59.alloc (.cells (bitsA 0#256) 28)) rfl (by rfl) (by rw [hg62]; kernel_rfl) (hH60.alloc _) ?_) AllReadyH.nil))
        · rintro e w63 ⟨rfl, hb⟩
          refine ⟨_, rfl, hH60.call hb, ?_⟩
          have hH64 := hH60.call hb
          have x65 := x61.below hb x61.lt
          clear hb
          simp only [Act.put, List.setIfInBounds_toArray, List.set_cons_zero, List.set_cons_succ]
          obtain ⟨g66, hg66⟩ : ∃ g66, g66 = (w63).heap.size := ⟨_, rfl⟩
          refine wpAnyH_ready (rs := [7]) (by kernel_rfl) (by simp) (AllReadyH.cons rfl (valStep 7 8 (.pointer (some ⟨g66, 0, none⟩)) (w63.alloc (.cells (bitsA 0#256) 28)) rfl (by rfl) (by rw [hg66]; kernel_rfl) (hH64.alloc _) ?_) AllReadyH.nil)
          · have x68 : BoxA (w63.alloc (.cells (bitsA 0#256) 28)) g66 0#256 := by rw [hg66]; exact BoxA.new _ _
            have lx68 : w.heap.size + 1 < g66 := by rw [hg66]; exact (hH64.1 _ List.mem_cons_self).lt
            have mx68 : g1 < g66 := by rw [hg66]; exact x65.lt
            have x69 := x65.alloc (.cells (bitsA 0#256) 28)
            have hH67 := hH64.alloc (.cells (bitsA 0#256) 28)
            simp only [Act.put, List.setIfInBounds_toArray, List.set_cons_zero, List.set_cons_succ]
            have ne : ∀ g, w.heap.size + 1 < g → ∀ p ∈ [(w.heap.size + 1, T), (w.heap.size, S)], p.1 ≠ g := by intro g hg p hp; simp at hp; rcases hp with rfl | rfl <;> simp <;> omega
            have hC := hH67.row g1 (bitsA S) h0 (by omega) (ne _ (by omega))
            have b1 : BoxA ((w63.alloc (.cells (bitsA 0#256) 28)).setRow g1 (bitsA S)) g1 S := BoxA.rowSame (S := 0#256) x69 _
            have b2 : BoxA ((w63.alloc (.cells (bitsA 0#256) 28)).setRow g1 (bitsA S)) g66 0#256 := BoxA.row x68 _ (by omega)
            have hD := hC.row g66 (bitsA T) h0 (by omega) (ne _ (by omega))
            refine wpAnyH_ready (rs := [8]) (by kernel_rfl) (by simp) (AllReadyH.cons rfl (storeStep 8 g1 0#256 S rfl rfl (by rfl) rfl rfl x69 hC ?_) AllReadyH.nil)
            refine wpAnyH_ready (rs := [9]) (by kernel_rfl) (by simp) (AllReadyH.cons rfl (storeStep 9 g66 0#256 T rfl rfl (by rfl) rfl rfl b2 hD ?_) AllReadyH.nil)
            refine wpAnyH_done (by kernel_rfl) ?_ _
            go_wp2_with fail
            go_meet
            exact ⟨g1, g66, rfl, rfl, hD, BoxA.row b1 _ (by omega), BoxA.rowSame (S := 0#256) b2 _⟩
        · have x71 : BoxA (w59.alloc (.cells (bitsA 0#256) 28)) g62 0#256 := by rw [hg62]; exact BoxA.new _ _
          have lx71 : w.heap.size + 1 < g62 := by rw [hg62]; exact (hH60.1 _ List.mem_cons_self).lt
          have mx71 : g1 < g62 := by rw [hg62]; exact x61.lt
          have x72 := x61.alloc (.cells (bitsA 0#256) 28)
          have hH70 := hH60.alloc (.cells (bitsA 0#256) 28)
          simp only [Act.put, List.setIfInBounds_toArray, List.set_cons_zero, List.set_cons_succ]
          refine wpAnyH_ready (rs := [5]) (by kernel_rfl) (by simp) (AllReadyH.cons rfl (callStep 5 18 rfl (by rfl) (by kernel_rfl) (rof_any T _) ?_) AllReadyH.nil)
          · rintro e w74 ⟨rfl, hb⟩
            refine ⟨_, rfl, hH70.call hb, ?_⟩
            have hH75 := hH70.call hb
            have x76 := x72.below hb x72.lt
            have x77 := x71.below hb x71.lt
            clear hb
            simp only [Act.put, List.setIfInBounds_toArray, List.set_cons_zero, List.set_cons_succ]
            have ne : ∀ g, w.heap.size + 1 < g → ∀ p ∈ [(w.heap.size + 1, T), (w.heap.size, S)], p.1 ≠ g := by intro g hg p hp; simp at hp; rcases hp with rfl | rfl <;> simp <;> omega
            have hC := hH75.row g1 (bitsA S) h0 (by omega) (ne _ (by omega))
            have b1 : BoxA (w74.setRow g1 (bitsA S)) g1 S := BoxA.rowSame (S := 0#256) x76 _
            have b2 : BoxA (w74.setRow g1 (bitsA S)) g62 0#256 := BoxA.row x77 _ (by omega)
            have hD := hC.row g62 (bitsA T) h0 (by omega) (ne _ (by omega))
            refine wpAnyH_ready (rs := [8]) (by kernel_rfl) (by simp) (AllReadyH.cons rfl (storeStep 8 g1 0#256 S rfl rfl (by rfl) rfl rfl x76 hC ?_) AllReadyH.nil)
            refine wpAnyH_ready (rs := [9]) (by kernel_rfl) (by simp) (AllReadyH.cons rfl (storeStep 9 g62 0#256 T rfl rfl (by rfl) rfl rfl b2 hD ?_) AllReadyH.nil)
            refine wpAnyH_done (by kernel_rfl) ?_ _
            go_wp2_with fail
            go_meet
            exact ⟨g1, g62, rfl, rfl, hD, BoxA.row b1 _ (by omega), BoxA.rowSame (S := 0#256) b2 _⟩
      · have x79 : BoxA ((wz.alloc (.cells (bitsA 0#256) 28)).alloc (.cells (bitsA 0#256) 28)) g58 0#256 := by rw [hg58]; exact BoxA.new _ _
        have lx79 : w.heap.size + 1 < g58 := by rw [hg58]; exact (hH56.1 _ List.mem_cons_self).lt
        have mx79 : g1 < g58 := by rw [hg58]; exact x57.lt
        have x80 := x57.alloc (.cells (bitsA 0#256) 28)
        have hH78 := hH56.alloc (.cells (bitsA 0#256) 28)
        simp only [Act.put, List.setIfInBounds_toArray, List.set_cons_zero, List.set_cons_succ]
        refine wpAnyH_ready (rs := [2]) (by kernel_rfl) (by simp) (AllReadyH.cons rfl (callStep 2 15 rfl (by rfl) (by kernel_rfl) (rof_any S _) ?_) AllReadyH.nil)
        · rintro e w82 ⟨rfl, hb⟩
          refine ⟨_, rfl, hH78.call hb, ?_⟩
          have hH83 := hH78.call hb
          have x84 := x80.below hb x80.lt
          have x85 := x79.below hb x79.lt
          clear hb
          simp only [Act.put, List.setIfInBounds_toArray, List.set_cons_zero, List.set_cons_succ]
          refine wpAnyH_ready (rs := [5]) (by kernel_rfl) (by simp) (AllReadyH.cons rfl (callStep 5 18 rfl (by rfl) (by kernel_rfl) (rof_any T _) ?_) AllReadyH.nil)
          · rintro e w87 ⟨rfl, hb⟩
            refine ⟨_, rfl, hH83.call hb, ?_⟩
            have hH88 := hH83.call hb
            have x89 := x84.below hb x84.lt
            have x90 := x85.below hb x85.lt
            clear hb
            simp only [Act.put, List.setIfInBounds_toArray, List.set_cons_zero, List.set_cons_succ]
            have ne : ∀ g, w.heap.size + 1 < g → ∀ p ∈ [(w.heap.size + 1, T), (w.heap.size, S)], p.1 ≠ g := by intro g hg p hp; simp at hp; rcases hp with rfl | rfl <;> simp <;> omega
            have hC := hH88.row g1 (bitsA S) h0 (by omega) (ne _ (by omega))
            have b1 : BoxA (w87.setRow g1 (bitsA S)) g1 S := BoxA.rowSame (S := 0#256) x89 _
            have b2 : BoxA (w87.setRow g1 (bitsA S)) g58 0#256 := BoxA.row x90 _ (by omega)
            have hD := hC.row g58 (bitsA T) h0 (by omega) (ne _ (by omega))
            refine wpAnyH_ready (rs := [8]) (by kernel_rfl) (by simp) (AllReadyH.cons rfl (storeStep 8 g1 0#256 S rfl rfl (by rfl) rfl rfl x89 hC ?_) AllReadyH.nil)
            refine wpAnyH_ready (rs := [9]) (by kernel_rfl) (by simp) (AllReadyH.cons rfl (storeStep 9 g58 0#256 T rfl rfl (by rfl) rfl rfl b2 hD ?_) AllReadyH.nil)
            refine wpAnyH_done (by kernel_rfl) ?_ _
            go_wp2_with fail
            go_meet
            exact ⟨g1, g58, rfl, rfl, hD, BoxA.row b1 _ (by omega), BoxA.rowSame (S := 0#256) b2 _⟩
    · have x92 : BoxA (wz.alloc (.cells (bitsA 0#256) 28)) g1 0#256 := by rw [hg1]; exact BoxA.new _ _
      have lx92 : w.heap.size + 1 < g1 := by rw [hg1]; exact (hS.1 _ List.mem_cons_self).lt
      have hH91 := hS.alloc (.cells (bitsA 0#256) 28)
      simp only [Act.put, List.setIfInBounds_toArray, List.set_cons_zero, List.set_cons_succ]
      obtain ⟨g93, hg93⟩ : ∃ g93, g93 = ((wz.alloc (.cells (bitsA 0#256) 28))).heap.size := ⟨_, rfl⟩
      refine wpAnyH_ready (rs := [2, 6]) (by kernel_rfl) (by simp) (AllReadyH.cons rfl (callStep 2 15 rfl (by rfl) (by kernel_rfl) (rof_any S _) ?_) (AllReadyH.cons rfl (valStep 6 7 (.pointer (some ⟨g93, 0, none⟩)) ((wz.alloc (.cells (bitsA 0#256) 28)).alloc (.cells (bitsA 0#256) 28)) rfl (by rfl) (by rw [hg93]; kernel_rfl) (hH91.alloc _) ?_) AllReadyH.nil))
      · rintro e w94 ⟨rfl, hb⟩
        refine ⟨_, rfl, hH91.call hb, ?_⟩
        have hH95 := hH91.call hb
        have x96 := x92.below hb x92.lt
        clear hb
        simp only [Act.put, List.setIfInBounds_toArray, List.set_cons_zero, List.set_cons_succ]
        obtain ⟨g97, hg97⟩ : ∃ g97, g97 = (w94).heap.size := ⟨_, rfl⟩
        refine wpAnyH_ready (rs := [5, 6]) (by kernel_rfl) (by simp) (AllReadyH.cons rfl (callStep 5 18 rfl (by rfl) (by kernel_rfl) (rof_any T _) ?_) (AllReadyH.cons rfl (valStep 6 7 (.pointer (some ⟨g97, 0, none⟩)) (w94.alloc (.cells (bitsA 0#256) 28)) rfl (by rfl) (by rw [hg97]; kernel_rfl) (hH95.alloc _) ?_) AllReadyH.nil))
        · rintro e w98 ⟨rfl, hb⟩
          refine ⟨_, rfl, hH95.call hb, ?_⟩
          have hH99 := hH95.call hb
          have x100 := x96.below hb x96.lt
          clear hb
          simp only [Act.put, List.setIfInBounds_toArray, List.set_cons_zero, List.set_cons_succ]
          obtain ⟨g101, hg101⟩ : ∃ g101, g101 = (w98).heap.size := ⟨_, rfl⟩
          refine wpAnyH_ready (rs := [6]) (by kernel_rfl) (by simp) (AllReadyH.cons rfl (valStep 6 7 (.pointer (some ⟨g101, 0, none⟩)) (w98.alloc (.cells (bitsA 0#256) 28)) rfl (by rfl) (by rw [hg101]; kernel_rfl) (hH99.alloc _) ?_) AllReadyH.nil)
          · have x103 : BoxA (w98.alloc (.cells (bitsA 0#256) 28)) g101 0#256 := by rw [hg101]; exact BoxA.new _ _
            have lx103 : w.heap.size + 1 < g101 := by rw [hg101]; exact (hH99.1 _ List.mem_cons_self).lt
            have mx103 : g1 < g101 := by rw [hg101]; exact x100.lt
            have x104 := x100.alloc (.cells (bitsA 0#256) 28)
            have hH102 := hH99.alloc (.cells (bitsA 0#256) 28)
            simp only [Act.put, List.setIfInBounds_toArray, List.set_cons_zero, List.set_cons_succ]
            have ne : ∀ g, w.heap.size + 1 < g → ∀ p ∈ [(w.heap.size + 1, T), (w.heap.size, S)], p.1 ≠ g := by intro g hg p hp; simp at hp; rcases hp with rfl | rfl <;> simp <;> omega
            have hC := hH102.row g101 (bitsA S) h0 (by omega) (ne _ (by omega))
            have b1 : BoxA ((w98.alloc (.cells (bitsA 0#256) 28)).setRow g101 (bitsA S)) g101 S := BoxA.rowSame (S := 0#256) x103 _
            have b2 : BoxA ((w98.alloc (.cells (bitsA 0#256) 28)).setRow g101 (bitsA S)) g1 0#256 := BoxA.row x104 _ (by omega)
            have hD := hC.row g1 (bitsA T) h0 (by omega) (ne _ (by omega))
            refine wpAnyH_ready (rs := [8]) (by kernel_rfl) (by simp) (AllReadyH.cons rfl (storeStep 8 g101 0#256 S rfl rfl (by rfl) rfl rfl x103 hC ?_) AllReadyH.nil)
            refine wpAnyH_ready (rs := [9]) (by kernel_rfl) (by simp) (AllReadyH.cons rfl (storeStep 9 g1 0#256 T rfl rfl (by rfl) rfl rfl b2 hD ?_) AllReadyH.nil)
            refine wpAnyH_done (by kernel_rfl) ?_ _
            go_wp2_with fail
            go_meet
            exact ⟨g101, g1, rfl, rfl, hD, BoxA.row b1 _ (by omega), BoxA.rowSame (S := 0#256) b2 _⟩
        · have x106 : BoxA (w94.alloc (.cells (bitsA 0#256) 28)) g97 0#256 := by rw [hg97]; exact BoxA.new _ _
          have lx106 : w.heap.size + 1 < g97 := by rw [hg97]; exact (hH95.1 _ List.mem_cons_self).lt
          have mx106 : g1 < g97 := by rw [hg97]; exact x96.lt
          have x107 := x96.alloc (.cells (bitsA 0#256) 28)
          have hH105 := hH95.alloc (.cells (bitsA 0#256) 28)
          simp only [Act.put, List.setIfInBounds_toArray, List.set_cons_zero, List.set_cons_succ]
          refine wpAnyH_ready (rs := [5]) (by kernel_rfl) (by simp) (AllReadyH.cons rfl (callStep 5 18 rfl (by rfl) (by kernel_rfl) (rof_any T _) ?_) AllReadyH.nil)
          · rintro e w109 ⟨rfl, hb⟩
            refine ⟨_, rfl, hH105.call hb, ?_⟩
            have hH110 := hH105.call hb
            have x111 := x106.below hb x106.lt
            have x112 := x107.below hb x107.lt
            clear hb
            simp only [Act.put, List.setIfInBounds_toArray, List.set_cons_zero, List.set_cons_succ]
            have ne : ∀ g, w.heap.size + 1 < g → ∀ p ∈ [(w.heap.size + 1, T), (w.heap.size, S)], p.1 ≠ g := by intro g hg p hp; simp at hp; rcases hp with rfl | rfl <;> simp <;> omega
            have hC := hH110.row g97 (bitsA S) h0 (by omega) (ne _ (by omega))
            have b1 : BoxA (w109.setRow g97 (bitsA S)) g97 S := BoxA.rowSame (S := 0#256) x111 _
            have b2 : BoxA (w109.setRow g97 (bitsA S)) g1 0#256 := BoxA.row x112 _ (by omega)
            have hD := hC.row g1 (bitsA T) h0 (by omega) (ne _ (by omega))
            refine wpAnyH_ready (rs := [8]) (by kernel_rfl) (by simp) (AllReadyH.cons rfl (storeStep 8 g97 0#256 S rfl rfl (by rfl) rfl rfl x111 hC ?_) AllReadyH.nil)
            refine wpAnyH_ready (rs := [9]) (by kernel_rfl) (by simp) (AllReadyH.cons rfl (storeStep 9 g1 0#256 T rfl rfl (by rfl) rfl rfl b2 hD ?_) AllReadyH.nil)
            refine wpAnyH_done (by kernel_rfl) ?_ _
            go_wp2_with fail
            go_meet
            exact ⟨g97, g1, rfl, rfl, hD, BoxA.row b1 _ (by omega), BoxA.rowSame (S := 0#256) b2 _⟩
      · have x114 : BoxA ((wz.alloc (.cells (bitsA 0#256) 28)).alloc (.cells (bitsA 0#256) 28)) g93 0#256 := by rw [hg93]; exact BoxA.new _ _
        have lx114 : w.heap.size + 1 < g93 := by rw [hg93]; exact (hH91.1 _ List.mem_cons_self).lt
        have mx114 : g1 < g93 := by rw [hg93]; exact x92.lt
        have x115 := x92.alloc (.cells (bitsA 0#256) 28)
        have hH113 := hH91.alloc (.cells (bitsA 0#256) 28)
        simp only [Act.put, List.setIfInBounds_toArray, List.set_cons_zero, List.set_cons_succ]
        refine wpAnyH_ready (rs := [2]) (by kernel_rfl) (by simp) (AllReadyH.cons rfl (callStep 2 15 rfl (by rfl) (by kernel_rfl) (rof_any S _) ?_) AllReadyH.nil)
        · rintro e w117 ⟨rfl, hb⟩
          refine ⟨_, rfl, hH113.call hb, ?_⟩
          have hH118 := hH113.call hb
          have x119 := x114.below hb x114.lt
          have x120 := x115.below hb x115.lt
          clear hb
          simp only [Act.put, List.setIfInBounds_toArray, List.set_cons_zero, List.set_cons_succ]
          refine wpAnyH_ready (rs := [5]) (by kernel_rfl) (by simp) (AllReadyH.cons rfl (callStep 5 18 rfl (by rfl) (by kernel_rfl) (rof_any T _) ?_) AllReadyH.nil)
          · rintro e w122 ⟨rfl, hb⟩
            refine ⟨_, rfl, hH118.call hb, ?_⟩
            have hH123 := hH118.call hb
            have x124 := x119.below hb x119.lt
            have x125 := x120.below hb x120.lt
            clear hb
            simp only [Act.put, List.setIfInBounds_toArray, List.set_cons_zero, List.set_cons_succ]
            have ne : ∀ g, w.heap.size + 1 < g → ∀ p ∈ [(w.heap.size + 1, T), (w.heap.size, S)], p.1 ≠ g := by intro g hg p hp; simp at hp; rcases hp with rfl | rfl <;> simp <;> omega
            have hC := hH123.row g93 (bitsA S) h0 (by omega) (ne _ (by omega))
            have b1 : BoxA (w122.setRow g93 (bitsA S)) g93 S := BoxA.rowSame (S := 0#256) x124 _
            have b2 : BoxA (w122.setRow g93 (bitsA S)) g1 0#256 := BoxA.row x125 _ (by omega)
            have hD := hC.row g1 (bitsA T) h0 (by omega) (ne _ (by omega))
            refine wpAnyH_ready (rs := [8]) (by kernel_rfl) (by simp) (AllReadyH.cons rfl (storeStep 8 g93 0#256 S rfl rfl (by rfl) rfl rfl x124 hC ?_) AllReadyH.nil)
            refine wpAnyH_ready (rs := [9]) (by kernel_rfl) (by simp) (AllReadyH.cons rfl (storeStep 9 g1 0#256 T rfl rfl (by rfl) rfl rfl b2 hD ?_) AllReadyH.nil)
            refine wpAnyH_done (by kernel_rfl) ?_ _
            go_wp2_with fail
            go_meet
            exact ⟨g93, g1, rfl, rfl, hD, BoxA.row b1 _ (by omega), BoxA.rowSame (S := 0#256) b2 _⟩
  case rest =>
    obtain ⟨ga, gb, rfl, rfl, hT⟩ := hcut
    clear HS h0
    obtain ⟨c0, c1, c2, c3⟩ := (hT.1.1 _ (List.mem_cons_of_mem _ List.mem_cons_self)).cells
    have H1 := Lib.hid hT
    clear hT
    go_wp2_with fail
    refine (min_no S _ HZ.out).mono ?_
    rintro e x1 ⟨rfl, hb⟩
    have H2 := Lib.hid (H1.out.call hb)
    clear hb H1 c0 c1 c2 c3
    go_wp2_with (first | (refine loadA rfl _ rfl ga S rfl H2.out.2.1 ?_) | fail)
    refine (rmin_any S _).mono ?_
    rintro e x2 ⟨rfl, hb⟩
    rw [show minV S = .tuple #[.int .u8 0, .bool false] from by rw [minV, if_pos HZ.out]]
    have H3 := Lib.hid (H2.out.call hb)
    clear hb H2
    go_wp2_with fail
    have hF := H3.out.drew
    have hB := HM.out
    clear H3
    refine wp_region_held_drew (S := HeldT w S T ga gb) (by kernel_rfl) hF (fun _ => ?_)
    refine takeAt 0 29 (setV S) rfl rfl (by kernel_rfl) (by kernel_rfl) (by kernel_rfl) (fun _ _ _ h => h) (loadS_t rfl rfl (by rfl)) hF ?_
    simp only [Act.put, List.setIfInBounds_toArray, List.set_cons_zero, List.set_cons_succ]
    refine takeAt 1 30 (.int .u8 (c : Int)) rfl rfl (by kernel_rfl) (by kernel_rfl) (by kernel_rfl) (fun _ _ _ h => h) (yields (by rfl) (fun w => by kernel_rfl)) hF ?_
    simp only [Act.put, List.setIfInBounds_toArray, List.set_cons_zero, List.set_cons_succ]
    refine takeAt 3 32 (.int .u8 (c : Int)) rfl rfl (by kernel_rfl) (by kernel_rfl) (by kernel_rfl) (fun _ _ _ h => h) (yields (by rfl) (fun w => by kernel_rfl)) hF ?_
    simp only [Act.put, List.setIfInBounds_toArray, List.set_cons_zero, List.set_cons_succ]
    refine takeAt 4 33 (.pointer (some ⟨ga, 0, none⟩)) rfl rfl (by kernel_rfl) (by kernel_rfl) (by kernel_rfl) (fun _ _ _ h => h) (yields (by rfl) (fun w => by kernel_rfl)) hF ?_
    simp only [Act.put, List.setIfInBounds_toArray, List.set_cons_zero, List.set_cons_succ]
    refine takeAt 5 34 (.pointer (some ⟨ga, c, none⟩)) rfl rfl (by kernel_rfl) (by kernel_rfl) (by kernel_rfl) (fun _ _ _ h => h) (index_t ga c hc rfl rfl rfl (by rfl)) hF ?_
    simp only [Act.put, List.setIfInBounds_toArray, List.set_cons_zero, List.set_cons_succ]
    refine takeAt 6 35 (.bool true) rfl rfl (by kernel_rfl) (by kernel_rfl) (by kernel_rfl) (fun _ _ _ h => h) (cell_t c true hc hB rfl rfl (by rfl)) hF ?_
    simp only [Act.put, List.setIfInBounds_toArray, List.set_cons_zero, List.set_cons_succ]
    refine callAt 2 31 rfl rfl (by kernel_rfl) (by rfl) (by kernel_rfl) (has_k S _ c true _ rfl (by omega) hB) ?_
    rintro e w' ⟨rfl, hb⟩
    refine ⟨_, rfl, hF.call hb, ?_⟩
    have hT1 := hF.call hb
    clear hF hb
    simp only [Act.put, List.setIfInBounds_toArray, List.set_cons_zero, List.set_cons_succ]
    refine takeAt 7 36 (.bool false) rfl rfl (by kernel_rfl) (by kernel_rfl) (by kernel_rfl) (fun _ _ _ h => h) (yields (by rfl) (fun w => by kernel_rfl)) hT1 ?_
    simp only [Act.put, List.setIfInBounds_toArray, List.set_cons_zero, List.set_cons_succ]
    refine takeAt 8 37 (.bool false) rfl rfl (by kernel_rfl) (by kernel_rfl) (by kernel_rfl) (fun _ _ _ h => h) (yields (by rfl) (fun w => by kernel_rfl)) hT1 ?_
    simp only [Act.put, List.setIfInBounds_toArray, List.set_cons_zero, List.set_cons_succ]
    refine takeAt 9 38 (setV S) rfl rfl (by kernel_rfl) (by kernel_rfl) (by kernel_rfl) (fun _ _ _ h => h) (loadS_t rfl rfl (by rfl)) hT1 ?_
    simp only [Act.put, List.setIfInBounds_toArray, List.set_cons_zero, List.set_cons_succ]
    refine takeAt 11 40 (.agg (bitsA S)) rfl rfl (by kernel_rfl) (by kernel_rfl) (by kernel_rfl) (fun _ _ _ h => h) (loadA_t rfl rfl (by rfl)) hT1 ?_
    simp only [Act.put, List.setIfInBounds_toArray, List.set_cons_zero, List.set_cons_succ]
    refine callAt 10 39 rfl rfl (by kernel_rfl) (by rfl) (by kernel_rfl) (len_any S _) ?_
    rintro e w' ⟨rfl, hb⟩
    refine ⟨_, rfl, hT1.call hb, ?_⟩
    have hT2 := hT1.call hb
    clear hT1 hb
    simp only [Act.put, List.setIfInBounds_toArray, List.set_cons_zero, List.set_cons_succ]
    refine callAt 12 41 rfl rfl (by kernel_rfl) (by rfl) (by kernel_rfl) (rlen_any S _) ?_
    rintro e w' ⟨rfl, hb⟩
    refine ⟨_, rfl, hT2.call hb, ?_⟩
    have hT3 := hT2.call hb
    clear hT2 hb
    simp only [Act.put, List.setIfInBounds_toArray, List.set_cons_zero, List.set_cons_succ]
    refine takeAt 13 42 (.bool false) rfl rfl (by kernel_rfl) (by kernel_rfl) (by kernel_rfl) (fun _ _ _ h => h) (neq64_y false rfl rfl rfl (by simp) (by rfl)) hT3 ?_
    simp only [Act.put, List.setIfInBounds_toArray, List.set_cons_zero, List.set_cons_succ]
    refine takeAt 14 43 (.bool false) rfl rfl (by kernel_rfl) (by kernel_rfl) (by kernel_rfl) (fun _ _ _ h => h) (yields (by rfl) (fun w => by kernel_rfl)) hT3 ?_
    simp only [Act.put, List.setIfInBounds_toArray, List.set_cons_zero, List.set_cons_succ]
    refine takeAt 15 44 (.bool false) rfl rfl (by kernel_rfl) (by kernel_rfl) (by kernel_rfl) (fun _ _ _ h => h) (yields (by rfl) (fun w => by kernel_rfl)) hT3 ?_
    simp only [Act.put, List.setIfInBounds_toArray, List.set_cons_zero, List.set_cons_succ]
    refine takeAt 16 45 (.int .u8 0) rfl rfl (by kernel_rfl) (by kernel_rfl) (by kernel_rfl) (fun _ _ _ h => h) (yields (by rfl) (fun w => by kernel_rfl)) hT3 ?_
    simp only [Act.put, List.setIfInBounds_toArray, List.set_cons_zero, List.set_cons_succ]
    refine takeAt 17 46 (.int .u8 0) rfl rfl (by kernel_rfl) (by kernel_rfl) (by kernel_rfl) (fun _ _ _ h => h) (yields (by rfl) (fun w => by kernel_rfl)) hT3 ?_
    simp only [Act.put, List.setIfInBounds_toArray, List.set_cons_zero, List.set_cons_succ]
    refine takeAt 18 47 (.bool false) rfl rfl (by kernel_rfl) (by kernel_rfl) (by kernel_rfl) (fun _ _ _ h => h) (neq8_y false rfl rfl rfl (by simp) (by rfl)) hT3 ?_
    simp only [Act.put, List.setIfInBounds_toArray, List.set_cons_zero, List.set_cons_succ]
    refine takeAt 19 48 (.bool false) rfl rfl (by kernel_rfl) (by kernel_rfl) (by kernel_rfl) (fun _ _ _ h => h) (yields (by rfl) (fun w => by kernel_rfl)) hT3 ?_
    simp only [Act.put, List.setIfInBounds_toArray, List.set_cons_zero, List.set_cons_succ]
    refine takeAt 20 49 (.bool false) rfl rfl (by kernel_rfl) (by kernel_rfl) (by kernel_rfl) (fun _ _ _ h => h) (yields (by rfl) (fun w => by kernel_rfl)) hT3 ?_
    simp only [Act.put, List.setIfInBounds_toArray, List.set_cons_zero, List.set_cons_succ]
    refine takeAt 21 50 (.bool false) rfl rfl (by kernel_rfl) (by kernel_rfl) (by kernel_rfl) (fun _ _ _ h => h) (yields (by rfl) (fun w => by kernel_rfl)) hT3 ?_
    simp only [Act.put, List.setIfInBounds_toArray, List.set_cons_zero, List.set_cons_succ]
    refine takeAt 22 51 (.bool false) rfl rfl (by kernel_rfl) (by kernel_rfl) (by kernel_rfl) (fun _ _ _ h => h) (yields (by rfl) (fun w => by kernel_rfl)) hT3 ?_
    simp only [Act.put, List.setIfInBounds_toArray, List.set_cons_zero, List.set_cons_succ]
    refine takeAt 23 52 (.bool false) rfl rfl (by kernel_rfl) (by kernel_rfl) (by kernel_rfl) (fun _ _ _ h => h) (yields (by rfl) (fun w => by kernel_rfl)) hT3 ?_
    simp only [Act.put, List.setIfInBounds_toArray, List.set_cons_zero, List.set_cons_succ]
    refine takeAt 24 53 (.bool false) rfl rfl (by kernel_rfl) (by kernel_rfl) (by kernel_rfl) (fun _ _ _ h => h) (yields (by rfl) (fun w => by kernel_rfl)) hT3 ?_
    simp only [Act.put, List.setIfInBounds_toArray, List.set_cons_zero, List.set_cons_succ]
    refine takeAt 25 54 (.bool false) rfl rfl (by kernel_rfl) (by kernel_rfl) (by kernel_rfl) (fun _ _ _ h => h) (yields (by rfl) (fun w => by kernel_rfl)) hT3 ?_
    simp only [Act.put, List.setIfInBounds_toArray, List.set_cons_zero, List.set_cons_succ]
    refine takeAt 26 55 (setV S) rfl rfl (by kernel_rfl) (by kernel_rfl) (by kernel_rfl) (fun _ _ _ h => h) (loadS_t rfl rfl (by rfl)) hT3 ?_
    simp only [Act.put, List.setIfInBounds_toArray, List.set_cons_zero, List.set_cons_succ]
    refine takeAt 28 57 (.agg (bitsA S)) rfl rfl (by kernel_rfl) (by kernel_rfl) (by kernel_rfl) (fun _ _ _ h => h) (loadA_t rfl rfl (by rfl)) hT3 ?_
    simp only [Act.put, List.setIfInBounds_toArray, List.set_cons_zero, List.set_cons_succ]
    refine callAt 27 56 rfl rfl (by kernel_rfl) (by rfl) (by kernel_rfl) (ranges_any S _) ?_
    rintro e w' ⟨v1, rfl, hr1, hb⟩
    refine ⟨_, rfl, hT3.call hb, ?_⟩
    have hT4 := hT3.call hb
    clear hT3 hb
    simp only [Act.put, List.setIfInBounds_toArray, List.set_cons_zero, List.set_cons_succ]
    refine callAt 29 58 rfl rfl (by kernel_rfl) (by rfl) (by kernel_rfl) (rranges_any S _) ?_
    rintro e w' ⟨v2, rfl, hr2, hb⟩
    have hr3 := hr1.call hb
    refine ⟨_, rfl, hT4.call hb, ?_⟩
    have hT5 := hT4.call hb
    clear hT4 hb
    simp only [Act.put, List.setIfInBounds_toArray, List.set_cons_zero, List.set_cons_succ]
    refine callAt 30 59 rfl rfl (by kernel_rfl) (by rfl) (by kernel_rfl) (runs_same _ _ _ S hr3 hr2) ?_
    rintro e w' ⟨rfl, hb⟩
    refine ⟨_, rfl, hT5.call hb, ?_⟩
    have hT6 := hT5.call hb
    clear hT5 hb
    simp only [Act.put, List.setIfInBounds_toArray, List.set_cons_zero, List.set_cons_succ]
    refine takeAt 31 60 (.bool false) rfl rfl (by kernel_rfl) (by kernel_rfl) (by kernel_rfl) (fun _ _ _ h => h) (yields (by rfl) (fun w => by kernel_rfl)) hT6 ?_
    simp only [Act.put, List.setIfInBounds_toArray, List.set_cons_zero, List.set_cons_succ]
    refine takeAt 32 61 (.bool false) rfl rfl (by kernel_rfl) (by kernel_rfl) (by kernel_rfl) (fun _ _ _ h => h) (yields (by rfl) (fun w => by kernel_rfl)) hT6 ?_
    simp only [Act.put, List.setIfInBounds_toArray, List.set_cons_zero, List.set_cons_succ]
    refine wpAnyH_done (by kernel_rfl) ?_ _
    clear hB
    have H4 := Lib.hid (HeldT.drew hT6)
    clear hT6
    go_wp2_with fail
    have hG := H4.out
    clear H4
    refine wp_region_held_drew (S := HeldT w S T ga gb) (by kernel_rfl) hG (fun _ => ?_)
    refine takeAt 0 62 (setV S) rfl rfl (by kernel_rfl) (by kernel_rfl) (by kernel_rfl) (fun _ _ _ h => h) (loadS_t rfl rfl (by rfl)) hG ?_
    simp only [Act.put, List.setIfInBounds_toArray, List.set_cons_zero, List.set_cons_succ]
    refine takeAt 1 63 (setV T) rfl rfl (by kernel_rfl) (by kernel_rfl) (by kernel_rfl) (fun _ _ _ h => h) (loadT_t rfl rfl (by rfl)) hG ?_
    simp only [Act.put, List.setIfInBounds_toArray, List.set_cons_zero, List.set_cons_succ]
    refine takeAt 4 66 (.agg (bitsA S)) rfl rfl (by kernel_rfl) (by kernel_rfl) (by kernel_rfl) (fun _ _ _ h => h) (loadA_t rfl rfl (by rfl)) hG ?_
    simp only [Act.put, List.setIfInBounds_toArray, List.set_cons_zero, List.set_cons_succ]
    refine takeAt 5 67 (.agg (bitsA T)) rfl rfl (by kernel_rfl) (by kernel_rfl) (by kernel_rfl) (fun _ _ _ h => h) (loadB_t rfl rfl (by rfl)) hG ?_
    simp only [Act.put, List.setIfInBounds_toArray, List.set_cons_zero, List.set_cons_succ]
    refine callAt 2 64 rfl rfl (by kernel_rfl) (by rfl) (by kernel_rfl) (or_k S T _) ?_
    rintro e w' ⟨rfl, hb⟩
    refine ⟨_, rfl, hG.call hb, ?_⟩
    have hT1 := hG.call hb
    clear hG hb
    simp only [Act.put, List.setIfInBounds_toArray, List.set_cons_zero, List.set_cons_succ]
    refine takeAt 3 65 (setV (orS S T)) rfl rfl (by kernel_rfl) (by kernel_rfl) (by kernel_rfl) (fun _ _ _ h => h) (yields (by rfl) (fun w => by kernel_rfl)) hT1 ?_
    simp only [Act.put, List.setIfInBounds_toArray, List.set_cons_zero, List.set_cons_succ]
    refine callAt 6 68 rfl rfl (by kernel_rfl) (by rfl) (by kernel_rfl) (ror_k S T _) ?_
    rintro e w' ⟨rfl, hb⟩
    refine ⟨_, rfl, hT1.call hb, ?_⟩
    have hT2 := hT1.call hb
    clear hT1 hb
    simp only [Act.put, List.setIfInBounds_toArray, List.set_cons_zero, List.set_cons_succ]
    refine callAt 7 69 rfl rfl (by kernel_rfl) (by rfl) (by kernel_rfl) (rwords_any (orS S T) _) ?_
    rintro e w' ⟨rfl, hb⟩
    refine ⟨_, rfl, hT2.call hb, ?_⟩
    have hT3 := hT2.call hb
    clear hT2 hb
    simp only [Act.put, List.setIfInBounds_toArray, List.set_cons_zero, List.set_cons_succ]
    refine takeAt 8 70 (.bool true) rfl rfl (by kernel_rfl) (by kernel_rfl) (by kernel_rfl) (fun _ _ _ h => h) (eqW_y (orS S T) rfl rfl rfl (by rfl)) hT3 ?_
    simp only [Act.put, List.setIfInBounds_toArray, List.set_cons_zero, List.set_cons_succ]
    refine takeAt 9 71 (.bool true) rfl rfl (by kernel_rfl) (by kernel_rfl) (by kernel_rfl) (fun _ _ _ h => h) (yields (by rfl) (fun w => by kernel_rfl)) hT3 ?_
    simp only [Act.put, List.setIfInBounds_toArray, List.set_cons_zero, List.set_cons_succ]
    refine takeAt 10 72 (setV S) rfl rfl (by kernel_rfl) (by kernel_rfl) (by kernel_rfl) (fun _ _ _ h => h) (loadS_t rfl rfl (by rfl)) hT3 ?_
    simp only [Act.put, List.setIfInBounds_toArray, List.set_cons_zero, List.set_cons_succ]
    refine takeAt 11 73 (setV T) rfl rfl (by kernel_rfl) (by kernel_rfl) (by kernel_rfl) (fun _ _ _ h => h) (loadT_t rfl rfl (by rfl)) hT3 ?_
    simp only [Act.put, List.setIfInBounds_toArray, List.set_cons_zero, List.set_cons_succ]
    refine takeAt 14 76 (.agg (bitsA S)) rfl rfl (by kernel_rfl) (by kernel_rfl) (by kernel_rfl) (fun _ _ _ h => h) (loadA_t rfl rfl (by rfl)) hT3 ?_
    simp only [Act.put, List.setIfInBounds_toArray, List.set_cons_zero, List.set_cons_succ]
    refine takeAt 15 77 (.agg (bitsA T)) rfl rfl (by kernel_rfl) (by kernel_rfl) (by kernel_rfl) (fun _ _ _ h => h) (loadB_t rfl rfl (by rfl)) hT3 ?_
    simp only [Act.put, List.setIfInBounds_toArray, List.set_cons_zero, List.set_cons_succ]
    as_aux_lemma =>
      refine callAt 12 74 rfl rfl (by kernel_rfl) (by rfl) (by kernel_rfl) (and_k S T _) ?_
      rintro e w' ⟨rfl, hb⟩
      refine ⟨_, rfl, hT3.call hb, ?_⟩
      have hT4 := hT3.call hb
      clear hT3 hb
      simp only [Act.put, List.setIfInBounds_toArray, List.set_cons_zero, List.set_cons_succ]
      refine takeAt 13 75 (setV (andS S T)) rfl rfl (by kernel_rfl) (by kernel_rfl) (by kernel_rfl) (fun _ _ _ h => h) (yields (by rfl) (fun w => by kernel_rfl)) hT4 ?_
      simp only [Act.put, List.setIfInBounds_toArray, List.set_cons_zero, List.set_cons_succ]
      refine callAt 16 78 rfl rfl (by kernel_rfl) (by rfl) (by kernel_rfl) (rand_k S T _) ?_
      rintro e w' ⟨rfl, hb⟩
      refine ⟨_, rfl, hT4.call hb, ?_⟩
      have hT5 := hT4.call hb
      clear hT4 hb
      simp only [Act.put, List.setIfInBounds_toArray, List.set_cons_zero, List.set_cons_succ]
      refine callAt 17 79 rfl rfl (by kernel_rfl) (by rfl) (by kernel_rfl) (rwords_any (andS S T) _) ?_
      rintro e w' ⟨rfl, hb⟩
      refine ⟨_, rfl, hT5.call hb, ?_⟩
      have hT6 := hT5.call hb
      clear hT5 hb
      simp only [Act.put, List.setIfInBounds_toArray, List.set_cons_zero, List.set_cons_succ]
      refine takeAt 18 80 (.bool true) rfl rfl (by kernel_rfl) (by kernel_rfl) (by kernel_rfl) (fun _ _ _ h => h) (eqW_y (andS S T) rfl rfl rfl (by rfl)) hT6 ?_
      simp only [Act.put, List.setIfInBounds_toArray, List.set_cons_zero, List.set_cons_succ]
      refine takeAt 19 81 (.bool true) rfl rfl (by kernel_rfl) (by kernel_rfl) (by kernel_rfl) (fun _ _ _ h => h) (yields (by rfl) (fun w => by kernel_rfl)) hT6 ?_
      simp only [Act.put, List.setIfInBounds_toArray, List.set_cons_zero, List.set_cons_succ]
      refine takeAt 20 82 (.bool true) rfl rfl (by kernel_rfl) (by kernel_rfl) (by kernel_rfl) (fun _ _ _ h => h) (yields (by rfl) (fun w => by kernel_rfl)) hT6 ?_
      simp only [Act.put, List.setIfInBounds_toArray, List.set_cons_zero, List.set_cons_succ]
      refine takeAt 21 83 (setV S) rfl rfl (by kernel_rfl) (by kernel_rfl) (by kernel_rfl) (fun _ _ _ h => h) (loadS_t rfl rfl (by rfl)) hT6 ?_
      simp only [Act.put, List.setIfInBounds_toArray, List.set_cons_zero, List.set_cons_succ]
      refine takeAt 24 86 (.agg (bitsA S)) rfl rfl (by kernel_rfl) (by kernel_rfl) (by kernel_rfl) (fun _ _ _ h => h) (loadA_t rfl rfl (by rfl)) hT6 ?_
      simp only [Act.put, List.setIfInBounds_toArray, List.set_cons_zero, List.set_cons_succ]
      refine callAt 22 84 rfl rfl (by kernel_rfl) (by rfl) (by kernel_rfl) (not_k S _) ?_
      rintro e w' ⟨rfl, hb⟩
      refine ⟨_, rfl, hT6.call hb, ?_⟩
      have hT7 := hT6.call hb
      clear hT6 hb
      simp only [Act.put, List.setIfInBounds_toArray, List.set_cons_zero, List.set_cons_succ]
      refine takeAt 23 85 (setV (notS S)) rfl rfl (by kernel_rfl) (by kernel_rfl) (by kernel_rfl) (fun _ _ _ h => h) (yields (by rfl) (fun w => by kernel_rfl)) hT7 ?_
      simp only [Act.put, List.setIfInBounds_toArray, List.set_cons_zero, List.set_cons_succ]
      refine callAt 25 87 rfl rfl (by kernel_rfl) (by rfl) (by kernel_rfl) (rnot_k S _) ?_
      rintro e w' ⟨rfl, hb⟩
      refine ⟨_, rfl, hT7.call hb, ?_⟩
      have hT8 := hT7.call hb
      clear hT7 hb
      simp only [Act.put, List.setIfInBounds_toArray, List.set_cons_zero, List.set_cons_succ]
      refine callAt 26 88 rfl rfl (by kernel_rfl) (by rfl) (by kernel_rfl) (rwords_any (notS S) _) ?_
      rintro e w' ⟨rfl, hb⟩
      refine ⟨_, rfl, hT8.call hb, ?_⟩
      have hT9 := hT8.call hb
      clear hT8 hb
      simp only [Act.put, List.setIfInBounds_toArray, List.set_cons_zero, List.set_cons_succ]
      refine takeAt 27 89 (.bool true) rfl rfl (by kernel_rfl) (by kernel_rfl) (by kernel_rfl) (fun _ _ _ h => h) (eqW_y (notS S) rfl rfl rfl (by rfl)) hT9 ?_
      simp only [Act.put, List.setIfInBounds_toArray, List.set_cons_zero, List.set_cons_succ]
      as_aux_lemma =>
        refine takeAt 28 90 (.bool true) rfl rfl (by kernel_rfl) (by kernel_rfl) (by kernel_rfl) (fun _ _ _ h => h) (yields (by rfl) (fun w => by kernel_rfl)) hT9 ?_
        simp only [Act.put, List.setIfInBounds_toArray, List.set_cons_zero, List.set_cons_succ]
        refine takeAt 29 91 (.bool true) rfl rfl (by kernel_rfl) (by kernel_rfl) (by kernel_rfl) (fun _ _ _ h => h) (yields (by rfl) (fun w => by kernel_rfl)) hT9 ?_
        simp only [Act.put, List.setIfInBounds_toArray, List.set_cons_zero, List.set_cons_succ]
        refine takeAt 30 92 (setV S) rfl rfl (by kernel_rfl) (by kernel_rfl) (by kernel_rfl) (fun _ _ _ h => h) (loadS_t rfl rfl (by rfl)) hT9 ?_
        simp only [Act.put, List.setIfInBounds_toArray, List.set_cons_zero, List.set_cons_succ]
        refine takeAt 33 95 (.agg (bitsA S)) rfl rfl (by kernel_rfl) (by kernel_rfl) (by kernel_rfl) (fun _ _ _ h => h) (loadA_t rfl rfl (by rfl)) hT9 ?_
        simp only [Act.put, List.setIfInBounds_toArray, List.set_cons_zero, List.set_cons_succ]
        refine callAt 31 93 rfl rfl (by kernel_rfl) (by rfl) (by kernel_rfl) (fold_any S _) ?_
        rintro e w' ⟨rfl, hb⟩
        refine ⟨_, rfl, hT9.call hb, ?_⟩
        have hT10 := hT9.call hb
        clear hT9 hb
        simp only [Act.put, List.setIfInBounds_toArray, List.set_cons_zero, List.set_cons_succ]
        refine takeAt 32 94 (setV (foldS S)) rfl rfl (by kernel_rfl) (by kernel_rfl) (by kernel_rfl) (fun _ _ _ h => h) (yields (by rfl) (fun w => by kernel_rfl)) hT10 ?_
        simp only [Act.put, List.setIfInBounds_toArray, List.set_cons_zero, List.set_cons_succ]
        refine callAt 34 96 rfl rfl (by kernel_rfl) (by rfl) (by kernel_rfl) (rfold_any S _) ?_
        rintro e w' ⟨rfl, hb⟩
        refine ⟨_, rfl, hT10.call hb, ?_⟩
        have hT11 := hT10.call hb
        clear hT10 hb
        simp only [Act.put, List.setIfInBounds_toArray, List.set_cons_zero, List.set_cons_succ]
        refine callAt 35 97 rfl rfl (by kernel_rfl) (by rfl) (by kernel_rfl) (rwords_any (foldS S) _) ?_
        rintro e w' ⟨rfl, hb⟩
        refine ⟨_, rfl, hT11.call hb, ?_⟩
        have hT12 := hT11.call hb
        clear hT11 hb
        simp only [Act.put, List.setIfInBounds_toArray, List.set_cons_zero, List.set_cons_succ]
        refine takeAt 36 98 (.bool true) rfl rfl (by kernel_rfl) (by kernel_rfl) (by kernel_rfl) (fun _ _ _ h => h) (eqW_y (foldS S) rfl rfl rfl (by rfl)) hT12 ?_
        simp only [Act.put, List.setIfInBounds_toArray, List.set_cons_zero, List.set_cons_succ]
        refine takeAt 37 99 (.bool true) rfl rfl (by kernel_rfl) (by kernel_rfl) (by kernel_rfl) (fun _ _ _ h => h) (yields (by rfl) (fun w => by kernel_rfl)) hT12 ?_
        simp only [Act.put, List.setIfInBounds_toArray, List.set_cons_zero, List.set_cons_succ]
        refine takeAt 38 100 (.bool true) rfl rfl (by kernel_rfl) (by kernel_rfl) (by kernel_rfl) (fun _ _ _ h => h) (yields (by rfl) (fun w => by kernel_rfl)) hT12 ?_
        simp only [Act.put, List.setIfInBounds_toArray, List.set_cons_zero, List.set_cons_succ]
        refine callAt 39 101 rfl rfl (by kernel_rfl) (by rfl) (by kernel_rfl) (hT12.fix HF.out) ?_
        rintro e w' ⟨rfl, hb⟩
        refine ⟨_, rfl, hT12.call hb, ?_⟩
        have hT13 := hT12.call hb
        clear hT12 hb
        simp only [Act.put, List.setIfInBounds_toArray, List.set_cons_zero, List.set_cons_succ]
        refine takeAt 40 102 (.bool true) rfl rfl (by kernel_rfl) (by kernel_rfl) (by kernel_rfl) (fun _ _ _ h => h) (yields (by rfl) (fun w => by kernel_rfl)) hT13 ?_
        simp only [Act.put, List.setIfInBounds_toArray, List.set_cons_zero, List.set_cons_succ]
        refine takeAt 41 6 (.bool true) rfl rfl (by kernel_rfl) (by kernel_rfl) (by kernel_rfl) (fun _ _ _ h => h) (yields (by rfl) (fun w => by kernel_rfl)) hT13 ?_
        simp only [Act.put, List.setIfInBounds_toArray, List.set_cons_zero, List.set_cons_succ]
        as_aux_lemma =>
          refine wpAnyH_done (by kernel_rfl) ?_ _
          go_wp2
          go_ret
          exact ⟨rfl, hT13.1.2.1⟩

set_option maxHeartbeats 8000000 in
set_option maxRecDepth 100000 in
theorem classTells_Zfalse (hfix : FixedOk) (S T : BitVec 256) (c : Nat) (w : World) (ht : TabOk w) (hc : c < 256) (hz : S = 0#256) (hB : mem S c = false) :
    Calls Tryd.prog 3 #[setV S, setV T, .int .u8 (c : Int)] w fun e w' => e = .returned (.bool true) ∧ Below w.heap.size w w' := by
  have HF := Lib.hid hfix
  have h0 := ht.lt
  have HM := Lib.hid hB
  have HZ := Lib.hid hz
  have hS := (((Held.start ht).new S).new T).drew
  rw [World.size_alloc] at hS
  have HS := Lib.hid hS
  clear hfix ht hB hz hS
  go_enter Tryd.func3, Tryd.ntmps3
  go_upto_region 1 with fail
  go_cut [7, 8] (fun u v wx => ∃ ga gb : Nat, u = .pointer (some ⟨ga, 0, none⟩) ∧ v = .pointer (some ⟨gb, 0, none⟩) ∧ HeldT w S T ga gb wx)
  case first =>
    have hS := HS.out
    clear HS
    refine wp_region_held_drew (S := Held w [(w.heap.size + 1, T), (w.heap.size, S)]) (by kernel_rfl) hS (fun _ => ?_)
    refine takeAt 0 13 (.pointer (some ⟨w.heap.size, 0, none⟩)) rfl rfl (by kernel_rfl) (by kernel_rfl) (by kernel_rfl) (fun _ _ _ h => h) (yields (by rfl) (fun w => by kernel_rfl)) hS ?_
    simp only [Act.put, List.setIfInBounds_toArray, List.set_cons_zero, List.set_cons_succ]
    refine takeAt 1 14 (setV S) rfl rfl (by kernel_rfl) (by kernel_rfl) (by kernel_rfl) (fun _ _ _ h => h) (load23_y rfl rfl (List.mem_cons_of_mem _ List.mem_cons_self) (by rfl)) hS ?_
    simp only [Act.put, List.setIfInBounds_toArray, List.set_cons_zero, List.set_cons_succ]
    refine takeAt 3 16 (.pointer (some ⟨w.heap.size + 1, 0, none⟩)) rfl rfl (by kernel_rfl) (by kernel_rfl) (by kernel_rfl) (fun _ _ _ h => h) (yields (by rfl) (fun w => by kernel_rfl)) hS ?_
    simp only [Act.put, List.setIfInBounds_toArray, List.set_cons_zero, List.set_cons_succ]
    refine takeAt 4 17 (setV T) rfl rfl (by kernel_rfl) (by kernel_rfl) (by kernel_rfl) (fun _ _ _ h => h) (load23_y rfl rfl List.mem_cons_self (by rfl)) hS ?_
    simp only [Act.put, List.setIfInBounds_toArray, List.set_cons_zero, List.set_cons_succ]
    obtain ⟨wz, hwz⟩ : ∃ wz, wz = ((w.alloc (.cells #[.int .u64 (W S 0), .int .u64 (W S 1), .int .u64 (W S 2), .int .u64 (W S 3)] 25)).alloc (.cells #[.int .u64 (W T 0), .int .u64 (W T 1), .int .u64 (W T 2), .int .u64 (W T 3)] 25)).drew := ⟨_, rfl⟩
    rw [← hwz] at hS ⊢
    clear hwz
    obtain ⟨g1, hg1⟩ : ∃ g1, g1 = (wz).heap.size := ⟨_, rfl⟩
    refine wpAnyH_ready (rs := [2, 6, 7]) (by kernel_rfl) (by simp) (AllReadyH.cons rfl (callStep 2 15 rfl (by rfl) (by kernel_rfl) (rof_any S _) ?_) (AllReadyH.cons rfl (valStep 6 7 (.pointer (some ⟨g1, 0, none⟩)) (wz.alloc (.cells (bitsA 0#256) 28)) rfl (by rfl) (by rw [hg1]; kernel_rfl) (hS.alloc _) ?_) (AllReadyH.cons rfl (valStep 7 8 (.pointer (some ⟨g1, 0, none⟩)) (wz.alloc (.cells (bitsA 0#256) 28)) rfl (by rfl) (by rw [hg1]; kernel_rfl) (hS.alloc _) ?_) AllReadyH.nil)))
    · rintro e w2 ⟨rfl, hb⟩
      refine ⟨_, rfl, hS.call hb, ?_⟩
      have hH3 := hS.call hb
      clear hb
      simp only [Act.put, List.setIfInBounds_toArray, List.set_cons_zero, List.set_cons_succ]
      obtain ⟨g4, hg4⟩ : ∃ g4, g4 = (w2).heap.size := ⟨_, rfl⟩
      refine wpAnyH_ready (rs := [5, 6, 7]) (by kernel_rfl) (by simp) (AllReadyH.cons rfl (callStep 5 18 rfl (by rfl) (by kernel_rfl) (rof_any T _) ?_) (AllReadyH.cons rfl (valStep 6 7 (.pointer (some ⟨g4, 0, none⟩)) (w2.alloc (.cells (bitsA 0#256) 28)) rfl (by rfl) (by rw [hg4]; kernel_rfl) (hH3.alloc _) ?_) (AllReadyH.cons rfl (valStep 7 8 (.pointer (some ⟨g4, 0, none⟩)) (w2.alloc (.cells (bitsA 0#256) 28)) rfl (by rfl) (by rw [hg4]; kernel_rfl) (hH3.alloc _) ?_) AllReadyH.nil)))
      · rintro e w5 ⟨rfl, hb⟩
        refine ⟨_, rfl, hH3.call hb, ?_⟩
        have hH6 := hH3.call hb
        clear hb
        simp only [Act.put, List.setIfInBounds_toArray, List.set_cons_zero, List.set_cons_succ]
        obtain ⟨g7, hg7⟩ : ∃ g7, g7 = (w5).heap.size := ⟨_, rfl⟩
        refine wpAnyH_ready (rs := [6, 7]) (by kernel_rfl) (by simp) (AllReadyH.cons rfl (valStep 6 7 (.pointer (some ⟨g7, 0, none⟩)) (w5.alloc (.cells (bitsA 0#256) 28)) rfl (by rfl) (by rw [hg7]; kernel_rfl) (hH6.alloc _) ?_) (AllReadyH.cons rfl (valStep 7 8 (.pointer (some ⟨g7, 0, none⟩)) (w5.alloc (.cells (bitsA 0#256) 28)) rfl (by rfl) (by rw [hg7]; kernel_rfl) (hH6.alloc _) ?_) AllReadyH.nil))
        · have x9 : BoxA (w5.alloc (.cells (bitsA 0#256) 28)) g7 0#256 := by rw [hg7]; exact BoxA.new _ _
          have lx9 : w.heap.size + 1 < g7 := by rw [hg7]; exact (hH6.1 _ List.mem_cons_self).lt
          have hH8 := hH6.alloc (.cells (bitsA 0#256) 28)
          simp only [Act.put, List.setIfInBounds_toArray, List.set_cons_zero, List.set_cons_succ]
          obtain ⟨g10, hg10⟩ : ∃ g10, g10 = ((w5.alloc (.cells (bitsA 0#256) 28))).heap.size := ⟨_, rfl⟩
          refine wpAnyH_ready (rs := [7]) (by kernel_rfl) (by simp) (AllReadyH.cons rfl (valStep 7 8 (.pointer (some ⟨g10, 0, none⟩)) ((w5.alloc (.cells (bitsA 0#256) 28)).alloc (.cells (bitsA 0#256) 28)) rfl (by rfl) (by rw [hg10]; kernel_rfl) (hH8.alloc _) ?_) AllReadyH.nil)
          · have x12 : BoxA ((w5.alloc (.cells (bitsA 0#256) 28)).alloc (.cells (bitsA 0#256) 28)) g10 0#256 := by rw [hg10]; exact BoxA.new _ _
            have lx12 : w.heap.size + 1 < g10 := by rw [hg10]; exact (hH8.1 _ List.mem_cons_self).lt
            have mx12 : g7 < g10 := by rw [hg10]; exact x9.lt
            have x13 := x9.alloc (.cells (bitsA 0#256) 28)
            have hH11 := hH8.alloc (.cells (bitsA 0#256) 28)
            simp only [Act.put, List.setIfInBounds_toArray, List.set_cons_zero, List.set_cons_succ]
            have ne : ∀ g, w.heap.size + 1 < g → ∀ p ∈ [(w.heap.size + 1, T), (w.heap.size, S)], p.1 ≠ g := by intro g hg p hp; simp at hp; rcases hp with rfl | rfl <;> simp <;> omega
            have hC := hH11.row g7 (bitsA S) h0 (by omega) (ne _ (by omega))
            have b1 : BoxA (((w5.alloc (.cells (bitsA 0#256) 28)).alloc (.cells (bitsA 0#256) 28)).setRow g7 (bitsA S)) g7 S := BoxA.rowSame (S := 0#256) x13 _
            have b2 : BoxA (((w5.alloc (.cells (bitsA 0#256) 28)).alloc (.cells (bitsA 0#256) 28)).setRow g7 (bitsA S)) g10 0#256 := BoxA.row x12 _ (by omega)
            have hD := hC.row g10 (bitsA T) h0 (by omega) (ne _ (by omega))
            refine wpAnyH_ready (rs := [8]) (by kernel_rfl) (by simp) (AllReadyH.cons rfl (storeStep 8 g7 0#256 S rfl rfl (by rfl) rfl rfl x13 hC ?_) AllReadyH.nil)
            refine wpAnyH_ready (rs := [9]) (by kernel_rfl) (by simp) (AllReadyH.cons rfl (storeStep 9 g10 0#256 T rfl rfl (by rfl) rfl rfl b2 hD ?_) AllReadyH.nil)
            refine wpAnyH_done (by kernel_rfl) ?_ _
            go_wp2_with fail
            go_meet
            exact ⟨g7, g10, rfl, rfl, hD, BoxA.row b1 _ (by omega), BoxA.rowSame (S := 0#256) b2 _⟩
        · have x15 : BoxA (w5.alloc (.cells (bitsA 0#256) 28)) g7 0#256 := by rw [hg7]; exact BoxA.new _ _
          have lx15 : w.heap.size + 1 < g7 := by rw [hg7]; exact (hH6.1 _ List.mem_cons_self).lt
          have hH14 := hH6.alloc (.cells (bitsA 0#256) 28)
          simp only [Act.put, List.setIfInBounds_toArray, List.set_cons_zero, List.set_cons_succ]
          obtain ⟨g16, hg16⟩ : ∃ g16, g16 = ((w5.alloc (.cells (bitsA 0#256) 28))).heap.size := ⟨_, rfl⟩
          refine wpAnyH_ready (rs := [6]) (by kernel_rfl) (by simp) (AllReadyH.cons rfl (valStep 6 7 (.pointer (some ⟨g16, 0, none⟩)) ((w5.alloc (.cells (bitsA 0#256) 28)).alloc (.cells (bitsA 0#256) 28)) rfl (by rfl) (by rw [hg16]; kernel_rfl) (hH14.alloc _) ?_) AllReadyH.nil)
          · have x18 : BoxA ((w5.alloc (.cells (bitsA 0#256) 28)).alloc (.cells (bitsA 0#256) 28)) g16 0#256 := by rw [hg16]; exact BoxA.new _ _
            have lx18 : w.heap.size + 1 < g16 := by rw [hg16]; exact (hH14.1 _ List.mem_cons_self).lt
            have mx18 : g7 < g16 := by rw [hg16]; exact x15.lt
            have x19 := x15.alloc (.cells (bitsA 0#256) 28)
            have hH17 := hH14.alloc (.cells (bitsA 0#256) 28)
            simp only [Act.put, List.setIfInBounds_toArray, List.set_cons_zero, List.set_cons_succ]
            have ne : ∀ g, w.heap.size + 1 < g → ∀ p ∈ [(w.heap.size + 1, T), (w.heap.size, S)], p.1 ≠ g := by intro g hg p hp; simp at hp; rcases hp with rfl | rfl <;> simp <;> omega
            have hC := hH17.row g16 (bitsA S) h0 (by omega) (ne _ (by omega))
            have b1 : BoxA (((w5.alloc (.cells (bitsA 0#256) 28)).alloc (.cells (bitsA 0#256) 28)).setRow g16 (bitsA S)) g16 S := BoxA.rowSame (S := 0#256) x18 _
            have b2 : BoxA (((w5.alloc (.cells (bitsA 0#256) 28)).alloc (.cells (bitsA 0#256) 28)).setRow g16 (bitsA S)) g7 0#256 := BoxA.row x19 _ (by omega)
            have hD := hC.row g7 (bitsA T) h0 (by omega) (ne _ (by omega))
            refine wpAnyH_ready (rs := [8]) (by kernel_rfl) (by simp) (AllReadyH.cons rfl (storeStep 8 g16 0#256 S rfl rfl (by rfl) rfl rfl x18 hC ?_) AllReadyH.nil)
            refine wpAnyH_ready (rs := [9]) (by kernel_rfl) (by simp) (AllReadyH.cons rfl (storeStep 9 g7 0#256 T rfl rfl (by rfl) rfl rfl b2 hD ?_) AllReadyH.nil)
            refine wpAnyH_done (by kernel_rfl) ?_ _
            go_wp2_with fail
            go_meet
            exact ⟨g16, g7, rfl, rfl, hD, BoxA.row b1 _ (by omega), BoxA.rowSame (S := 0#256) b2 _⟩
      · have x21 : BoxA (w2.alloc (.cells (bitsA 0#256) 28)) g4 0#256 := by rw [hg4]; exact BoxA.new _ _
        have lx21 : w.heap.size + 1 < g4 := by rw [hg4]; exact (hH3.1 _ List.mem_cons_self).lt
        have hH20 := hH3.alloc (.cells (bitsA 0#256) 28)
        simp only [Act.put, List.setIfInBounds_toArray, List.set_cons_zero, List.set_cons_succ]
        obtain ⟨g22, hg22⟩ : ∃ g22, g22 = ((w2.alloc (.cells (bitsA 0#256) 28))).heap.size := ⟨_, rfl⟩
        refine wpAnyH_ready (rs := [5, 7]) (by kernel_rfl) (by simp) (AllReadyH.cons rfl (callStep 5 18 rfl (by rfl) (by kernel_rfl) (rof_any T _) ?_) (AllReadyH.cons rfl (valStep 7 8 (.pointer (some ⟨g22, 0, none⟩)) ((w2.alloc (.cells (bitsA 0#256) 28)).alloc (.cells (bitsA 0#256) 28)) rfl (by rfl) (by rw [hg22]; kernel_rfl) (hH20.alloc _) ?_) AllReadyH.nil))
        · rintro e w23 ⟨rfl, hb⟩
          refine ⟨_, rfl, hH20.call hb, ?_⟩
          have hH24 := hH20.call hb
          have x25 := x21.below hb x21.lt
          clear hb
          simp only [Act.put, List.setIfInBounds_toArray, List.set_cons_zero, List.set_cons_succ]
          obtain ⟨g26, hg26⟩ : ∃ g26, g26 = (w23).heap.size := ⟨_, rfl⟩
          refine wpAnyH_ready (rs := [7]) (by kernel_rfl) (by simp) (AllReadyH.cons rfl (valStep 7 8 (.pointer (some ⟨g26, 0, none⟩)) (w23.alloc (.cells (bitsA 0#256) 28)) rfl (by rfl) (by rw [hg26]; kernel_rfl) (hH24.alloc _) ?_) AllReadyH.nil)
          · have x28 : BoxA (w23.alloc (.cells (bitsA 0#256) 28)) g26 0#256 := by rw [hg26]; exact BoxA.new _ _
            have lx28 : w.heap.size + 1 < g26 := by rw [hg26]; exact (hH24.1 _ List.mem_cons_self).lt
            have mx28 : g4 < g26 := by rw [hg26]; exact x25.lt
            have x29 := x25.alloc (.cells (bitsA 0#256) 28)
            have hH27 := hH24.alloc (.cells (bitsA 0#256) 28)
            simp only [Act.put, List.setIfInBounds_toArray, List.set_cons_zero, List.set_cons_succ]
            have ne : ∀ g, w.heap.size + 1 < g → ∀ p ∈ [(w.heap.size + 1, T), (w.heap.size, S)], p.1 ≠ g := by intro g hg p hp; simp at hp; rcases hp with rfl | rfl <;> simp <;> omega
            have hC := hH27.row g4 (bitsA S) h0 (by omega) (ne _ (by omega))
            have b1 : BoxA ((w23.alloc (.cells (bitsA 0#256) 28)).setRow g4 (bitsA S)) g4 S := BoxA.rowSame (S := 0#256) x29 _
            have b2 : BoxA ((w23.alloc (.cells (bitsA 0#256) 28)).setRow g4 (bitsA S)) g26 0#256 := BoxA.row x28 _ (by omega)
            have hD := hC.row g26 (bitsA T) h0 (by omega) (ne _ (by omega))
            refine wpAnyH_ready (rs := [8]) (by kernel_rfl) (by simp) (AllReadyH.cons rfl (storeStep 8 g4 0#256 S rfl rfl (by rfl) rfl rfl x29 hC ?_) AllReadyH.nil)
            refine wpAnyH_ready (rs := [9]) (by kernel_rfl) (by simp) (AllReadyH.cons rfl (storeStep 9 g26 0#256 T rfl rfl (by rfl) rfl rfl b2 hD ?_) AllReadyH.nil)
            refine wpAnyH_done (by kernel_rfl) ?_ _
            go_wp2_with fail
            go_meet
            exact ⟨g4, g26, rfl, rfl, hD, BoxA.row b1 _ (by omega), BoxA.rowSame (S := 0#256) b2 _⟩
        · have x31 : BoxA ((w2.alloc (.cells (bitsA 0#256) 28)).alloc (.cells (bitsA 0#256) 28)) g22 0#256 := by rw [hg22]; exact BoxA.new _ _
          have lx31 : w.heap.size + 1 < g22 := by rw [hg22]; exact (hH20.1 _ List.mem_cons_self).lt
          have mx31 : g4 < g22 := by rw [hg22]; exact x21.lt
          have x32 := x21.alloc (.cells (bitsA 0#256) 28)
          have hH30 := hH20.alloc (.cells (bitsA 0#256) 28)
          simp only [Act.put, List.setIfInBounds_toArray, List.set_cons_zero, List.set_cons_succ]
          refine wpAnyH_ready (rs := [5]) (by kernel_rfl) (by simp) (AllReadyH.cons rfl (callStep 5 18 rfl (by rfl) (by kernel_rfl) (rof_any T _) ?_) AllReadyH.nil)
          · rintro e w34 ⟨rfl, hb⟩
            refine ⟨_, rfl, hH30.call hb, ?_⟩
            have hH35 := hH30.call hb
            have x36 := x32.below hb x32.lt
            have x37 := x31.below hb x31.lt
            clear hb
            simp only [Act.put, List.setIfInBounds_toArray, List.set_cons_zero, List.set_cons_succ]
            have ne : ∀ g, w.heap.size + 1 < g → ∀ p ∈ [(w.heap.size + 1, T), (w.heap.size, S)], p.1 ≠ g := by intro g hg p hp; simp at hp; rcases hp with rfl | rfl <;> simp <;> omega
            have hC := hH35.row g4 (bitsA S) h0 (by omega) (ne _ (by omega))
            have b1 : BoxA (w34.setRow g4 (bitsA S)) g4 S := BoxA.rowSame (S := 0#256) x36 _
            have b2 : BoxA (w34.setRow g4 (bitsA S)) g22 0#256 := BoxA.row x37 _ (by omega)
            have hD := hC.row g22 (bitsA T) h0 (by omega) (ne _ (by omega))
            refine wpAnyH_ready (rs := [8]) (by kernel_rfl) (by simp) (AllReadyH.cons rfl (storeStep 8 g4 0#256 S rfl rfl (by rfl) rfl rfl x36 hC ?_) AllReadyH.nil)
            refine wpAnyH_ready (rs := [9]) (by kernel_rfl) (by simp) (AllReadyH.cons rfl (storeStep 9 g22 0#256 T rfl rfl (by rfl) rfl rfl b2 hD ?_) AllReadyH.nil)
            refine wpAnyH_done (by kernel_rfl) ?_ _
            go_wp2_with fail
            go_meet
            exact ⟨g4, g22, rfl, rfl, hD, BoxA.row b1 _ (by omega), BoxA.rowSame (S := 0#256) b2 _⟩
      · have x39 : BoxA (w2.alloc (.cells (bitsA 0#256) 28)) g4 0#256 := by rw [hg4]; exact BoxA.new _ _
        have lx39 : w.heap.size + 1 < g4 := by rw [hg4]; exact (hH3.1 _ List.mem_cons_self).lt
        have hH38 := hH3.alloc (.cells (bitsA 0#256) 28)
        simp only [Act.put, List.setIfInBounds_toArray, List.set_cons_zero, List.set_cons_succ]
        obtain ⟨g40, hg40⟩ : ∃ g40, g40 = ((w2.alloc (.cells (bitsA 0#256) 28))).heap.size := ⟨_, rfl⟩
        refine wpAnyH_ready (rs := [5, 6]) (by kernel_rfl) (by simp) (AllReadyH.cons rfl (callStep 5 18 rfl (by rfl) (by kernel_rfl) (rof_any T _) ?_) (AllReadyH.cons rfl (valStep 6 7 (.pointer (some ⟨g40, 0, none⟩)) ((w2.alloc (.cells (bitsA 0#256) 28)).alloc (.cells (bitsA 0#256) 28)) rfl (by rfl) (by rw [hg40]; kernel_rfl) (hH38.alloc _) ?_) AllReadyH.nil))
        · rintro e w41 ⟨rfl, hb⟩
          refine ⟨_, rfl, hH38.call hb, ?_⟩
          have hH42 := hH38.call hb
          have x43 := x39.below hb x39.lt
          clear hb
          simp only [Act.put, List.setIfInBounds_toArray, List.set_cons_zero, List.set_cons_succ]
          obtain ⟨g44, hg44⟩ : ∃ g44, g44 = (w41).heap.size := ⟨_, rfl⟩
          refine wpAnyH_ready (rs := [6]) (by kernel_rfl) (by simp) (AllReadyH.cons rfl (valStep 6 7 (.pointer (some ⟨g44, 0, none⟩)) (w41.alloc (.cells (bitsA 0#256) 28)) rfl (by rfl) (by rw [hg44]; kernel_rfl) (hH42.alloc _) ?_) AllReadyH.nil)
          · have x46 : BoxA (w41.alloc (.cells (bitsA 0#256) 28)) g44 0#256 := by rw [hg44]; exact BoxA.new _ _
            have lx46 : w.heap.size + 1 < g44 := by rw [hg44]; exact (hH42.1 _ List.mem_cons_self).lt
            have mx46 : g4 < g44 := by rw [hg44]; exact x43.lt
            have x47 := x43.alloc (.cells (bitsA 0#256) 28)
            have hH45 := hH42.alloc (.cells (bitsA 0#256) 28)
            simp only [Act.put, List.setIfInBounds_toArray, List.set_cons_zero, List.set_cons_succ]
            have ne : ∀ g, w.heap.size + 1 < g → ∀ p ∈ [(w.heap.size + 1, T), (w.heap.size, S)], p.1 ≠ g := by intro g hg p hp; simp at hp; rcases hp with rfl | rfl <;> simp <;> omega
            have hC := hH45.row g44 (bitsA S) h0 (by omega) (ne _ (by omega))
            have b1 : BoxA ((w41.alloc (.cells (bitsA 0#256) 28)).setRow g44 (bitsA S)) g44 S := BoxA.rowSame (S := 0#256) x46 _
            have b2 : BoxA ((w41.alloc (.cells (bitsA 0#256) 28)).setRow g44 (bitsA S)) g4 0#256 := BoxA.row x47 _ (by omega)
            have hD := hC.row g4 (bitsA T) h0 (by omega) (ne _ (by omega))
            refine wpAnyH_ready (rs := [8]) (by kernel_rfl) (by simp) (AllReadyH.cons rfl (storeStep 8 g44 0#256 S rfl rfl (by rfl) rfl rfl x46 hC ?_) AllReadyH.nil)
            refine wpAnyH_ready (rs := [9]) (by kernel_rfl) (by simp) (AllReadyH.cons rfl (storeStep 9 g4 0#256 T rfl rfl (by rfl) rfl rfl b2 hD ?_) AllReadyH.nil)
            refine wpAnyH_done (by kernel_rfl) ?_ _
            go_wp2_with fail
            go_meet
            exact ⟨g44, g4, rfl, rfl, hD, BoxA.row b1 _ (by omega), BoxA.rowSame (S := 0#256) b2 _⟩
        · have x49 : BoxA ((w2.alloc (.cells (bitsA 0#256) 28)).alloc (.cells (bitsA 0#256) 28)) g40 0#256 := by rw [hg40]; exact BoxA.new _ _
          have lx49 : w.heap.size + 1 < g40 := by rw [hg40]; exact (hH38.1 _ List.mem_cons_self).lt
          have mx49 : g4 < g40 := by rw [hg40]; exact x39.lt
          have x50 := x39.alloc (.cells (bitsA 0#256) 28)
          have hH48 := hH38.alloc (.cells (bitsA 0#256) 28)
          simp only [Act.put, List.setIfInBounds_toArray, List.set_cons_zero, List.set_cons_succ]
          refine wpAnyH_ready (rs := [5]) (by kernel_rfl) (by simp) (AllReadyH.cons rfl (callStep 5 18 rfl (by rfl) (by kernel_rfl) (rof_any T _) ?_) AllReadyH.nil)
          · rintro e w52 ⟨rfl, hb⟩
            refine ⟨_, rfl, hH48.call hb, ?_⟩
            have hH53 := hH48.call hb
            have x54 := x49.below hb x49.lt
            have x55 := x50.below hb x50.lt
            clear hb
            simp only [Act.put, List.setIfInBounds_toArray, List.set_cons_zero, List.set_cons_succ]
            have ne : ∀ g, w.heap.size + 1 < g → ∀ p ∈ [(w.heap.size + 1, T), (w.heap.size, S)], p.1 ≠ g := by intro g hg p hp; simp at hp; rcases hp with rfl | rfl <;> simp <;> omega
            have hC := hH53.row g40 (bitsA S) h0 (by omega) (ne _ (by omega))
            have b1 : BoxA (w52.setRow g40 (bitsA S)) g40 S := BoxA.rowSame (S := 0#256) x54 _
            have b2 : BoxA (w52.setRow g40 (bitsA S)) g4 0#256 := BoxA.row x55 _ (by omega)
            have hD := hC.row g4 (bitsA T) h0 (by omega) (ne _ (by omega))
            refine wpAnyH_ready (rs := [8]) (by kernel_rfl) (by simp) (AllReadyH.cons rfl (storeStep 8 g40 0#256 S rfl rfl (by rfl) rfl rfl x54 hC ?_) AllReadyH.nil)
            refine wpAnyH_ready (rs := [9]) (by kernel_rfl) (by simp) (AllReadyH.cons rfl (storeStep 9 g4 0#256 T rfl rfl (by rfl) rfl rfl b2 hD ?_) AllReadyH.nil)
            refine wpAnyH_done (by kernel_rfl) ?_ _
            go_wp2_with fail
            go_meet
            exact ⟨g40, g4, rfl, rfl, hD, BoxA.row b1 _ (by omega), BoxA.rowSame (S := 0#256) b2 _⟩
    · have x57 : BoxA (wz.alloc (.cells (bitsA 0#256) 28)) g1 0#256 := by rw [hg1]; exact BoxA.new _ _
      have lx57 : w.heap.size + 1 < g1 := by rw [hg1]; exact (hS.1 _ List.mem_cons_self).lt
      have hH56 := hS.alloc (.cells (bitsA 0#256) 28)
      simp only [Act.put, List.setIfInBounds_toArray, List.set_cons_zero, List.set_cons_succ]
      obtain ⟨g58, hg58⟩ : ∃ g58, g58 = ((wz.alloc (.cells (bitsA 0#256) 28))).heap.size := ⟨_, rfl⟩
      refine wpAnyH_ready (rs := [2, 7]) (by kernel_rfl) (by simp) (AllReadyH.cons rfl (callStep 2 15 rfl (by rfl) (by kernel_rfl) (rof_any S _) ?_) (AllReadyH.cons rfl (valStep 7 8 (.pointer (some ⟨g58, 0, none⟩)) ((wz.alloc (.cells (bitsA 0#256) 28)).alloc (.cells (bitsA 0#256) 28)) rfl (by rfl) (by rw [hg58]; kernel_rfl) (hH56.alloc _) ?_) AllReadyH.nil))
      · rintro e w59 ⟨rfl, hb⟩
        refine ⟨_, rfl, hH56.call hb, ?_⟩
        have hH60 := hH56.call hb
        have x61 := x57.below hb x57.lt
        clear hb
        simp only [Act.put, List.setIfInBounds_toArray, List.set_cons_zero, List.set_cons_succ]
        obtain ⟨g62, hg62⟩ : ∃ g62, g62 = (w59).heap.size := ⟨_, rfl⟩
        refine wpAnyH_ready (rs := [5, 7]) (by kernel_rfl) (by simp) (AllReadyH.cons rfl (callStep 5 18 rfl (by rfl) (by kernel_rfl) (rof_any T _) ?_) (AllReadyH.cons rfl (valStep 7 8 (.pointer (some ⟨g62, 0, none⟩)) (w59.alloc (.cells (bitsA 0#256) 28)) rfl (by rfl) (by rw [hg62]; kernel_rfl) (hH60.alloc _) ?_) AllReadyH.nil))
        · rintro e w63 ⟨rfl, hb⟩
          refine ⟨_, rfl, hH60.call hb, ?_⟩
          have hH64 := hH60.call hb
          have x65 := x61.below hb x61.lt
          clear hb
          simp only [Act.put, List.setIfInBounds_toArray, List.set_cons_zero, List.set_cons_succ]
          obtain ⟨g66, hg66⟩ : ∃ g66, g66 = (w63).heap.size := ⟨_, rfl⟩
          refine wpAnyH_ready (rs := [7]) (by kernel_rfl) (by simp) (AllReadyH.cons rfl (valStep 7 8 (.pointer (some ⟨g66, 0, none⟩)) (w63.alloc (.cells (bitsA 0#256) 28)) rfl (by rfl) (by rw [hg66]; kernel_rfl) (hH64.alloc _) ?_) AllReadyH.nil)
          · have x68 : BoxA (w63.alloc (.cells (bitsA 0#256) 28)) g66 0#256 := by rw [hg66]; exact BoxA.new _ _
            have lx68 : w.heap.size + 1 < g66 := by rw [hg66]; exact (hH64.1 _ List.mem_cons_self).lt
            have mx68 : g1 < g66 := by rw [hg66]; exact x65.lt
            have x69 := x65.alloc (.cells (bitsA 0#256) 28)
            have hH67 := hH64.alloc (.cells (bitsA 0#256) 28)
            simp only [Act.put, List.setIfInBounds_toArray, List.set_cons_zero, List.set_cons_succ]
            have ne : ∀ g, w.heap.size + 1 < g → ∀ p ∈ [(w.heap.size + 1, T), (w.heap.size, S)], p.1 ≠ g := by intro g hg p hp; simp at hp; rcases hp with rfl | rfl <;> simp <;> omega
            have hC := hH67.row g1 (bitsA S) h0 (by omega) (ne _ (by omega))
            have b1 : BoxA ((w63.alloc (.cells (bitsA 0#256) 28)).setRow g1 (bitsA S)) g1 S := BoxA.rowSame (S := 0#256) x69 _
            have b2 : BoxA ((w63.alloc (.cells (bitsA 0#256) 28)).setRow g1 (bitsA S)) g66 0#256 := BoxA.row x68 _ (by omega)
            have hD := hC.row g66 (bitsA T) h0 (by omega) (ne _ (by omega))
            refine wpAnyH_ready (rs := [8]) (by kernel_rfl) (by simp) (AllReadyH.cons rfl (storeStep 8 g1 0#256 S rfl rfl (by rfl) rfl rfl x69 hC ?_) AllReadyH.nil)
            refine wpAnyH_ready (rs := [9]) (by kernel_rfl) (by simp) (AllReadyH.cons rfl (storeStep 9 g66 0#256 T rfl rfl (by rfl) rfl rfl b2 hD ?_) AllReadyH.nil)
            refine wpAnyH_done (by kernel_rfl) ?_ _
            go_wp2_with fail
            go_meet
            exact ⟨g1, g66, rfl, rfl, hD, BoxA.row b1 _ (by omega), BoxA.rowSame (S := 0#256) b2 _⟩
        · have x71 : BoxA (w59.alloc (.cells (bitsA 0#256) 28)) g62 0#256 := by rw [hg62]; exact BoxA.new _ _
          have lx71 : w.heap.size + 1 < g62 := by rw [hg62]; exact (hH60.1 _ List.mem_cons_self).lt
          have mx71 : g1 < g62 := by rw [hg62]; exact x61.lt
          have x72 := x61.alloc (.cells (bitsA 0#256) 28)
          have hH70 := hH60.alloc (.cells (bitsA 0#256) 28)
          simp only [Act.put, List.setIfInBounds_toArray, List.set_cons_zero, List.set_cons_succ]
          refine wpAnyH_ready (rs := [5]) (by kernel_rfl) (by simp) (AllReadyH.cons rfl (callStep 5 18 rfl (by rfl) (by kernel_rfl) (rof_any T _) ?_) AllReadyH.nil)
          · rintro e w74 ⟨rfl, hb⟩
            refine ⟨_, rfl, hH70.call hb, ?_⟩
            have hH75 := hH70.call hb
            have x76 := x72.below hb x72.lt
            have x77 := x71.below hb x71.lt
            clear hb
            simp only [Act.put, List.setIfInBounds_toArray, List.set_cons_zero, List.set_cons_succ]
            have ne : ∀ g, w.heap.size + 1 < g → ∀ p ∈ [(w.heap.size + 1, T), (w.heap.size, S)], p.1 ≠ g := by intro g hg p hp; simp at hp; rcases hp with rfl | rfl <;> simp <;> omega
            have hC := hH75.row g1 (bitsA S) h0 (by omega) (ne _ (by omega))
            have b1 : BoxA (w74.setRow g1 (bitsA S)) g1 S := BoxA.rowSame (S := 0#256) x76 _
            have b2 : BoxA (w74.setRow g1 (bitsA S)) g62 0#256 := BoxA.row x77 _ (by omega)
            have hD := hC.row g62 (bitsA T) h0 (by omega) (ne _ (by omega))
            refine wpAnyH_ready (rs := [8]) (by kernel_rfl) (by simp) (AllReadyH.cons rfl (storeStep 8 g1 0#256 S rfl rfl (by rfl) rfl rfl x76 hC ?_) AllReadyH.nil)
            refine wpAnyH_ready (rs := [9]) (by kernel_rfl) (by simp) (AllReadyH.cons rfl (storeStep 9 g62 0#256 T rfl rfl (by rfl) rfl rfl b2 hD ?_) AllReadyH.nil)
            refine wpAnyH_done (by kernel_rfl) ?_ _
            go_wp2_with fail
            go_meet
            exact ⟨g1, g62, rfl, rfl, hD, BoxA.row b1 _ (by omega), BoxA.rowSame (S := 0#256) b2 _⟩
      · have x79 : BoxA ((wz.alloc (.cells (bitsA 0#256) 28)).alloc (.cells (bitsA 0#256) 28)) g58 0#256 := by rw [hg58]; exact BoxA.new _ _
        have lx79 : w.heap.size + 1 < g58 := by rw [hg58]; exact (hH56.1 _ List.mem_cons_self).lt
        have mx79 : g1 < g58 := by rw [hg58]; exact x57.lt
        have x80 := x57.alloc (.cells (bitsA 0#256) 28)
        have hH78 := hH56.alloc (.cells (bitsA 0#256) 28)
        simp only [Act.put, List.setIfInBounds_toArray, List.set_cons_zero, List.set_cons_succ]
        refine wpAnyH_ready (rs := [2]) (by kernel_rfl) (by simp) (AllReadyH.cons rfl (callStep 2 15 rfl (by rfl) (by kernel_rfl) (rof_any S _) ?_) AllReadyH.nil)
        · rintro e w82 ⟨rfl, hb⟩
          refine ⟨_, rfl, hH78.call hb, ?_⟩
          have hH83 := hH78.call hb
          have x84 := x80.below hb x80.lt
          have x85 := x79.below hb x79.lt
          clear hb
          simp only [Act.put, List.setIfInBounds_toArray, List.set_cons_zero, List.set_cons_succ]
          refine wpAnyH_ready (rs := [5]) (by kernel_rfl) (by simp) (AllReadyH.cons rfl (callStep 5 18 rfl (by rfl) (by kernel_rfl) (rof_any T _) ?_) AllReadyH.nil)
          · rintro e w87 ⟨rfl, hb⟩
            refine ⟨_, rfl, hH83.call hb, ?_⟩
            have hH88 := hH83.call hb
            have x89 := x84.below hb x84.lt
            have x90 := x85.below hb x85.lt
            clear hb
            simp only [Act.put, List.setIfInBounds_toArray, List.set_cons_zero, List.set_cons_succ]
            have ne : ∀ g, w.heap.size + 1 < g → ∀ p ∈ [(w.heap.size + 1, T), (w.heap.size, S)], p.1 ≠ g := by intro g hg p hp; simp at hp; rcases hp with rfl | rfl <;> simp <;> omega
            have hC := hH88.row g1 (bitsA S) h0 (by omega) (ne _ (by omega))
            have b1 : BoxA (w87.setRow g1 (bitsA S)) g1 S := BoxA.rowSame (S := 0#256) x89 _
            have b2 : BoxA (w87.setRow g1 (bitsA S)) g58 0#256 := BoxA.row x90 _ (by omega)
            have hD := hC.row g58 (bitsA T) h0 (by omega) (ne _ (by omega))
            refine wpAnyH_ready (rs := [8]) (by kernel_rfl) (by simp) (AllReadyH.cons rfl (storeStep 8 g1 0#256 S rfl rfl (by rfl) rfl rfl x89 hC ?_) AllReadyH.nil)
            refine wpAnyH_ready (rs := [9]) (by kernel_rfl) (by simp) (AllReadyH.cons rfl (storeStep 9 g58 0#256 T rfl rfl (by rfl) rfl rfl b2 hD ?_) AllReadyH.nil)
            refine wpAnyH_done (by kernel_rfl) ?_ _
            go_wp2_with fail
            go_meet
            exact ⟨g1, g58, rfl, rfl, hD, BoxA.row b1 _ (by omega), BoxA.rowSame (S := 0#256) b2 _⟩
    · have x92 : BoxA (wz.alloc (.cells (bitsA 0#256) 28)) g1 0#256 := by rw [hg1]; exact BoxA.new _ _
      have lx92 : w.heap.size + 1 < g1 := by rw [hg1]; exact (hS.1 _ List.mem_cons_self).lt
      have hH91 := hS.alloc (.cells (bitsA 0#256) 28)
      simp only [Act.put, List.setIfInBounds_toArray, List.set_cons_zero, List.set_cons_succ]
      obtain ⟨g93, hg93⟩ : ∃ g93, g93 = ((wz.alloc (.cells (bitsA 0#256) 28))).heap.size := ⟨_, rfl⟩
      refine wpAnyH_ready (rs := [2, 6]) (by kernel_rfl) (by simp) (AllReadyH.cons rfl (callStep 2 15 rfl (by rfl) (by kernel_rfl) (rof_any S _) ?_) (AllReadyH.cons rfl (valStep 6 7 (.pointer (some ⟨g93, 0, none⟩)) ((wz.alloc (.cells (bitsA 0#256) 28)).alloc (.cells (bitsA 0#256) 28)) rfl (by rfl) (by rw [hg93]; kernel_rfl) (hH91.alloc _) ?_) AllReadyH.nil))
      · rintro e w94 ⟨rfl, hb⟩
        refine ⟨_, rfl, hH91.call hb, ?_⟩
        have hH95 := hH91.call hb
        have x96 := x92.below hb x92.lt
        clear hb
        simp only [Act.put, List.setIfInBounds_toArray, List.set_cons_zero, List.set_cons_succ]
        obtain ⟨g97, hg97⟩ : ∃ g97, g97 = (w94).heap.size := ⟨_, rfl⟩
        refine wpAnyH_ready (rs := [5, 6]) (by kernel_rfl) (by simp) (AllReadyH.cons rfl (callStep 5 18 rfl (by rfl) (by kernel_rfl) (rof_any T _) ?_) (AllReadyH.cons rfl (valStep 6 7 (.pointer (some ⟨g97, 0, none⟩)) (w94.alloc (.cells (bitsA 0#256) 28)) rfl (by rfl) (by rw [hg97]; kernel_rfl) (hH95.alloc _) ?_) AllReadyH.nil))
        · rintro e w98 ⟨rfl, hb⟩
          refine ⟨_, rfl, hH95.call hb, ?_⟩
          have hH99 := hH95.call hb
          have x100 := x96.below hb x96.lt
          clear hb
          simp only [Act.put, List.setIfInBounds_toArray, List.set_cons_zero, List.set_cons_succ]
          obtain ⟨g101, hg101⟩ : ∃ g101, g101 = (w98).heap.size := ⟨_, rfl⟩
          refine wpAnyH_ready (rs := [6]) (by kernel_rfl) (by simp) (AllReadyH.cons rfl (valStep 6 7 (.pointer (some ⟨g101, 0, none⟩)) (w98.alloc (.cells (bitsA 0#256) 28)) rfl (by rfl) (by rw [hg101]; kernel_rfl) (hH99.alloc _) ?_) AllReadyH.nil)
          · have x103 : BoxA (w98.alloc (.cells (bitsA 0#256) 28)) g101 0#256 := by rw [hg101]; exact BoxA.new _ _
            have lx103 : w.heap.size + 1 < g101 := by rw [hg101]; exact (hH99.1 _ List.mem_cons_self).lt
            have mx103 : g1 < g101 := by rw [hg101]; exact x100.lt
            have x104 := x100.alloc (.cells (bitsA 0#256) 28)
            have hH102 := hH99.alloc (.cells (bitsA 0#256) 28)
            simp only [Act.put, List.setIfInBounds_toArray, List.set_cons_zero, List.set_cons_succ]
            have ne : ∀ g, w.heap.size + 1 < g → ∀ p ∈ [(w.heap.size + 1, T), (w.heap.size, S)], p.1 ≠ g := by intro g hg p hp; simp at hp; rcases hp with rfl | rfl <;> simp <;> omega
            have hC := hH102.row g101 (bitsA S) h0 (by omega) (ne _ (by omega))
            have b1 : BoxA ((w98.alloc (.cells (bitsA 0#256) 28)).setRow g101 (bitsA S)) g101 S := BoxA.rowSame (S := 0#256) x103 _
            have b2 : BoxA ((w98.alloc (.cells (bitsA 0#256) 28)).setRow g101 (bitsA S)) g1 0#256 := BoxA.row x104 _ (by omega)
            have hD := hC.row g1 (bitsA T) h0 (by omega) (ne _ (by omega))
            refine wpAnyH_ready (rs := [8]) (by kernel_rfl) (by simp) (AllReadyH.cons rfl (storeStep 8 g101 0#256 S rfl rfl (by rfl) rfl rfl x103 hC ?_) AllReadyH.nil)
            refine wpAnyH_ready (rs := [9]) (by kernel_rfl) (by simp) (AllReadyH.cons rfl (storeStep 9 g1 0#256 T rfl rfl (by rfl) rfl rfl b2 hD ?_) AllReadyH.nil)
            refine wpAnyH_done (by kernel_rfl) ?_ _
            go_wp2_with fail
            go_meet
            exact ⟨g101, g1, rfl, rfl, hD, BoxA.row b1 _ (by omega), BoxA.rowSame (S := 0#256) b2 _⟩
        · have x106 : BoxA (w94.alloc (.cells (bitsA 0#256) 28)) g97 0#256 := by rw [hg97]; exact BoxA.new _ _
          have lx106 : w.heap.size + 1 < g97 := by rw [hg97]; exact (hH95.1 _ List.mem_cons_self).lt
          have mx106 : g1 < g97 := by rw [hg97]; exact x96.lt
          have x107 := x96.alloc (.cells (bitsA 0#256) 28)
          have hH105 := hH95.alloc (.cells (bitsA 0#256) 28)
          simp only [Act.put, List.setIfInBounds_toArray, List.set_cons_zero, List.set_cons_succ]
          refine wpAnyH_ready (rs := [5]) (by kernel_rfl) (by simp) (AllReadyH.cons rfl (callStep 5 18 rfl (by rfl) (by kernel_rfl) (rof_any T _) ?_) AllReadyH.nil)
          · rintro e w109 ⟨rfl, hb⟩
            refine ⟨_, rfl, hH105.call hb, ?_⟩
            have hH110 := hH105.call hb
            have x111 := x106.below hb x106.lt
            have x112 := x107.below hb x107.lt
            clear hb
            simp only [Act.put, List.setIfInBounds_toArray, List.set_cons_zero, List.set_cons_succ]
            have ne : ∀ g, w.heap.size + 1 < g → ∀ p ∈ [(w.heap.size + 1, T), (w.heap.size, S)], p.1 ≠ g := by intro g hg p hp; simp at hp; rcases hp with rfl | rfl <;> simp <;> omega
            have hC := hH110.row g97 (bitsA S) h0 (by omega) (ne _ (by omega))
            have b1 : BoxA (w109.setRow g97 (bitsA S)) g97 S := BoxA.rowSame (S := 0#256) x111 _
            have b2 : BoxA (w109.setRow g97 (bitsA S)) g1 0#256 := BoxA.row x112 _ (by omega)
            have hD := hC.row g1 (bitsA T) h0 (by omega) (ne _ (by omega))
            refine wpAnyH_ready (rs := [8]) (by kernel_rfl) (by simp) (AllReadyH.cons rfl (storeStep 8 g97 0#256 S rfl rfl (by rfl) rfl rfl x111 hC ?_) AllReadyH.nil)
            refine wpAnyH_ready (rs := [9]) (by kernel_rfl) (by simp) (AllReadyH.cons rfl (storeStep 9 g1 0#256 T rfl rfl (by rfl) rfl rfl b2 hD ?_) AllReadyH.nil)
            refine wpAnyH_done (by kernel_rfl) ?_ _
            go_wp2_with fail
            go_meet
            exact ⟨g97, g1, rfl, rfl, hD, BoxA.row b1 _ (by omega), BoxA.rowSame (S := 0#256) b2 _⟩
      · have x114 : BoxA ((wz.alloc (.cells (bitsA 0#256) 28)).alloc (.cells (bitsA 0#256) 28)) g93 0#256 := by rw [hg93]; exact BoxA.new _ _
        have lx114 : w.heap.size + 1 < g93 := by rw [hg93]; exact (hH91.1 _ List.mem_cons_self).lt
        have mx114 : g1 < g93 := by rw [hg93]; exact x92.lt
        have x115 := x92.alloc (.cells (bitsA 0#256) 28)
        have hH113 := hH91.alloc (.cells (bitsA 0#256) 28)
        simp only [Act.put, List.setIfInBounds_toArray, List.set_cons_zero, List.set_cons_succ]
        refine wpAnyH_ready (rs := [2]) (by kernel_rfl) (by simp) (AllReadyH.cons rfl (callStep 2 15 rfl (by rfl) (by kernel_rfl) (rof_any S _) ?_) AllReadyH.nil)
        · rintro e w117 ⟨rfl, hb⟩
          refine ⟨_, rfl, hH113.call hb, ?_⟩
          have hH118 := hH113.call hb
          have x119 := x114.below hb x114.lt
          have x120 := x115.below hb x115.lt
          clear hb
          simp only [Act.put, List.setIfInBounds_toArray, List.set_cons_zero, List.set_cons_succ]
          refine wpAnyH_ready (rs := [5]) (by kernel_rfl) (by simp) (AllReadyH.cons rfl (callStep 5 18 rfl (by rfl) (by kernel_rfl) (rof_any T _) ?_) AllReadyH.nil)
          · rintro e w122 ⟨rfl, hb⟩
            refine ⟨_, rfl, hH118.call hb, ?_⟩
            have hH123 := hH118.call hb
            have x124 := x119.below hb x119.lt
            have x125 := x120.below hb x120.lt
            clear hb
            simp only [Act.put, List.setIfInBounds_toArray, List.set_cons_zero, List.set_cons_succ]
            have ne : ∀ g, w.heap.size + 1 < g → ∀ p ∈ [(w.heap.size + 1, T), (w.heap.size, S)], p.1 ≠ g := by intro g hg p hp; simp at hp; rcases hp with rfl | rfl <;> simp <;> omega
            have hC := hH123.row g93 (bitsA S) h0 (by omega) (ne _ (by omega))
            have b1 : BoxA (w122.setRow g93 (bitsA S)) g93 S := BoxA.rowSame (S := 0#256) x124 _
            have b2 : BoxA (w122.setRow g93 (bitsA S)) g1 0#256 := BoxA.row x125 _ (by omega)
            have hD := hC.row g1 (bitsA T) h0 (by omega) (ne _ (by omega))
            refine wpAnyH_ready (rs := [8]) (by kernel_rfl) (by simp) (AllReadyH.cons rfl (storeStep 8 g93 0#256 S rfl rfl (by rfl) rfl rfl x124 hC ?_) AllReadyH.nil)
            refine wpAnyH_ready (rs := [9]) (by kernel_rfl) (by simp) (AllReadyH.cons rfl (storeStep 9 g1 0#256 T rfl rfl (by rfl) rfl rfl b2 hD ?_) AllReadyH.nil)
            refine wpAnyH_done (by kernel_rfl) ?_ _
            go_wp2_with fail
            go_meet
            exact ⟨g93, g1, rfl, rfl, hD, BoxA.row b1 _ (by omega), BoxA.rowSame (S := 0#256) b2 _⟩
  case rest =>
    obtain ⟨ga, gb, rfl, rfl, hT⟩ := hcut
    clear HS h0
    obtain ⟨c0, c1, c2, c3⟩ := (hT.1.1 _ (List.mem_cons_of_mem _ List.mem_cons_self)).cells
    have H1 := Lib.hid hT
    clear hT
    go_wp2_with fail
    refine (min_no S _ HZ.out).mono ?_
    rintro e x1 ⟨rfl, hb⟩
    have H2 := Lib.hid (H1.out.call hb)
    clear hb H1 c0 c1 c2 c3
    go_wp2_with (first | (refine loadA rfl _ rfl ga S rfl H2.out.2.1 ?_) | fail)
    refine (rmin_any S _).mono ?_
    rintro e x2 ⟨rfl, hb⟩
    rw [show minV S = .tuple #[.int .u8 0, .bool false] from by rw [minV, if_pos HZ.out]]
    have H3 := Lib.hid (H2.out.call hb)
    clear hb H2
    go_wp2_with fail
    have hF := H3.out.drew
    have hB := HM.out
    clear H3
    refine wp_region_held_drew (S := HeldT w S T ga gb) (by kernel_rfl) hF (fun _ => ?_)
    refine takeAt 0 29 (setV S) rfl rfl (by kernel_rfl) (by kernel_rfl) (by kernel_rfl) (fun _ _ _ h => h) (loadS_t rfl rfl (by rfl)) hF ?_
    simp only [Act.put, List.setIfInBounds_toArray, List.set_cons_zero, List.set_cons_succ]
    refine takeAt 1 30 (.int .u8 (c : Int)) rfl rfl (by kernel_rfl) (by kernel_rfl) (by kernel_rfl) (fun _ _ _ h => h) (yields (by rfl) (fun w => by kernel_rfl)) hF ?_
    simp only [Act.put, List.setIfInBounds_toArray, List.set_cons_zero, List.set_cons_succ]
    refine takeAt 3 32 (.int .u8 (c : Int)) rfl rfl (by kernel_rfl) (by kernel_rfl) (by kernel_rfl) (fun _ _ _ h => h) (yields (by rfl) (fun w => by kernel_rfl)) hF ?_
    simp only [Act.put, List.setIfInBounds_toArray, List.set_cons_zero, List.set_cons_succ]
    refine takeAt 4 33 (.pointer (some ⟨ga, 0, none⟩)) rfl rfl (by kernel_rfl) (by kernel_rfl) (by kernel_rfl) (fun _ _ _ h => h) (yields (by rfl) (fun w => by kernel_rfl)) hF ?_
    simp only [Act.put, List.setIfInBounds_toArray, List.set_cons_zero, List.set_cons_succ]
    refine takeAt 5 34 (.pointer (some ⟨ga, c, none⟩)) rfl rfl (by kernel_rfl) (by kernel_rfl) (by kernel_rfl) (fun _ _ _ h => h) (index_t ga c hc rfl rfl rfl (by rfl)) hF ?_
    simp only [Act.put, List.setIfInBounds_toArray, List.set_cons_zero, List.set_cons_succ]
    refine takeAt 6 35 (.bool false) rfl rfl (by kernel_rfl) (by kernel_rfl) (by kernel_rfl) (fun _ _ _ h => h) (cell_t c false hc hB rfl rfl (by rfl)) hF ?_
    simp only [Act.put, List.setIfInBounds_toArray, List.set_cons_zero, List.set_cons_succ]
    refine callAt 2 31 rfl rfl (by kernel_rfl) (by rfl) (by kernel_rfl) (has_k S _ c false _ rfl (by omega) hB) ?_
    rintro e w' ⟨rfl, hb⟩
    refine ⟨_, rfl, hF.call hb, ?_⟩
    have hT1 := hF.call hb
    clear hF hb
    simp only [Act.put, List.setIfInBounds_toArray, List.set_cons_zero, List.set_cons_succ]
    refine takeAt 7 36 (.bool false) rfl rfl (by kernel_rfl) (by kernel_rfl) (by kernel_rfl) (fun _ _ _ h => h) (yields (by rfl) (fun w => by kernel_rfl)) hT1 ?_
    simp only [Act.put, List.setIfInBounds_toArray, List.set_cons_zero, List.set_cons_succ]
    refine takeAt 8 37 (.bool false) rfl rfl (by kernel_rfl) (by kernel_rfl) (by kernel_rfl) (fun _ _ _ h => h) (yields (by rfl) (fun w => by kernel_rfl)) hT1 ?_
    simp only [Act.put, List.setIfInBounds_toArray, List.set_cons_zero, List.set_cons_succ]
    refine takeAt 9 38 (setV S) rfl rfl (by kernel_rfl) (by kernel_rfl) (by kernel_rfl) (fun _ _ _ h => h) (loadS_t rfl rfl (by rfl)) hT1 ?_
    simp only [Act.put, List.setIfInBounds_toArray, List.set_cons_zero, List.set_cons_succ]
    refine takeAt 11 40 (.agg (bitsA S)) rfl rfl (by kernel_rfl) (by kernel_rfl) (by kernel_rfl) (fun _ _ _ h => h) (loadA_t rfl rfl (by rfl)) hT1 ?_
    simp only [Act.put, List.setIfInBounds_toArray, List.set_cons_zero, List.set_cons_succ]
    refine callAt 10 39 rfl rfl (by kernel_rfl) (by rfl) (by kernel_rfl) (len_any S _) ?_
    rintro e w' ⟨rfl, hb⟩
    refine ⟨_, rfl, hT1.call hb, ?_⟩
    have hT2 := hT1.call hb
    clear hT1 hb
    simp only [Act.put, List.setIfInBounds_toArray, List.set_cons_zero, List.set_cons_succ]
    refine callAt 12 41 rfl rfl (by kernel_rfl) (by rfl) (by kernel_rfl) (rlen_any S _) ?_
    rintro e w' ⟨rfl, hb⟩
    refine ⟨_, rfl, hT2.call hb, ?_⟩
    have hT3 := hT2.call hb
    clear hT2 hb
    simp only [Act.put, List.setIfInBounds_toArray, List.set_cons_zero, List.set_cons_succ]
    refine takeAt 13 42 (.bool false) rfl rfl (by kernel_rfl) (by kernel_rfl) (by kernel_rfl) (fun _ _ _ h => h) (neq64_y false rfl rfl rfl (by simp) (by rfl)) hT3 ?_
    simp only [Act.put, List.setIfInBounds_toArray, List.set_cons_zero, List.set_cons_succ]
    refine takeAt 14 43 (.bool false) rfl rfl (by kernel_rfl) (by kernel_rfl) (by kernel_rfl) (fun _ _ _ h => h) (yields (by rfl) (fun w => by kernel_rfl)) hT3 ?_
    simp only [Act.put, List.setIfInBounds_toArray, List.set_cons_zero, List.set_cons_succ]
    refine takeAt 15 44 (.bool false) rfl rfl (by kernel_rfl) (by kernel_rfl) (by kernel_rfl) (fun _ _ _ h => h) (yields (by rfl) (fun w => by kernel_rfl)) hT3 ?_
    simp only [Act.put, List.setIfInBounds_toArray, List.set_cons_zero, List.set_cons_succ]
    refine takeAt 16 45 (.int .u8 0) rfl rfl (by kernel_rfl) (by kernel_rfl) (by kernel_rfl) (fun _ _ _ h => h) (yields (by rfl) (fun w => by kernel_rfl)) hT3 ?_
    simp only [Act.put, List.setIfInBounds_toArray, List.set_cons_zero, List.set_cons_succ]
    refine takeAt 17 46 (.int .u8 0) rfl rfl (by kernel_rfl) (by kernel_rfl) (by kernel_rfl) (fun _ _ _ h => h) (yields (by rfl) (fun w => by kernel_rfl)) hT3 ?_
    simp only [Act.put, List.setIfInBounds_toArray, List.set_cons_zero, List.set_cons_succ]
    refine takeAt 18 47 (.bool false) rfl rfl (by kernel_rfl) (by kernel_rfl) (by kernel_rfl) (fun _ _ _ h => h) (neq8_y false rfl rfl rfl (by simp) (by rfl)) hT3 ?_
    simp only [Act.put, List.setIfInBounds_toArray, List.set_cons_zero, List.set_cons_succ]
    refine takeAt 19 48 (.bool false) rfl rfl (by kernel_rfl) (by kernel_rfl) (by kernel_rfl) (fun _ _ _ h => h) (yields (by rfl) (fun w => by kernel_rfl)) hT3 ?_
    simp only [Act.put, List.setIfInBounds_toArray, List.set_cons_zero, List.set_cons_succ]
    refine takeAt 20 49 (.bool false) rfl rfl (by kernel_rfl) (by kernel_rfl) (by kernel_rfl) (fun _ _ _ h => h) (yields (by rfl) (fun w => by kernel_rfl)) hT3 ?_
    simp only [Act.put, List.setIfInBounds_toArray, List.set_cons_zero, List.set_cons_succ]
    refine takeAt 21 50 (.bool false) rfl rfl (by kernel_rfl) (by kernel_rfl) (by kernel_rfl) (fun _ _ _ h => h) (yields (by rfl) (fun w => by kernel_rfl)) hT3 ?_
    simp only [Act.put, List.setIfInBounds_toArray, List.set_cons_zero, List.set_cons_succ]
    refine takeAt 22 51 (.bool false) rfl rfl (by kernel_rfl) (by kernel_rfl) (by kernel_rfl) (fun _ _ _ h => h) (yields (by rfl) (fun w => by kernel_rfl)) hT3 ?_
    simp only [Act.put, List.setIfInBounds_toArray, List.set_cons_zero, List.set_cons_succ]
    refine takeAt 23 52 (.bool false) rfl rfl (by kernel_rfl) (by kernel_rfl) (by kernel_rfl) (fun _ _ _ h => h) (yields (by rfl) (fun w => by kernel_rfl)) hT3 ?_
    simp only [Act.put, List.setIfInBounds_toArray, List.set_cons_zero, List.set_cons_succ]
    refine takeAt 24 53 (.bool false) rfl rfl (by kernel_rfl) (by kernel_rfl) (by kernel_rfl) (fun _ _ _ h => h) (yields (by rfl) (fun w => by kernel_rfl)) hT3 ?_
    simp only [Act.put, List.setIfInBounds_toArray, List.set_cons_zero, List.set_cons_succ]
    refine takeAt 25 54 (.bool false) rfl rfl (by kernel_rfl) (by kernel_rfl) (by kernel_rfl) (fun _ _ _ h => h) (yields (by rfl) (fun w => by kernel_rfl)) hT3 ?_
    simp only [Act.put, List.setIfInBounds_toArray, List.set_cons_zero, List.set_cons_succ]
    refine takeAt 26 55 (setV S) rfl rfl (by kernel_rfl) (by kernel_rfl) (by kernel_rfl) (fun _ _ _ h => h) (loadS_t rfl rfl (by rfl)) hT3 ?_
    simp only [Act.put, List.setIfInBounds_toArray, List.set_cons_zero, List.set_cons_succ]
    refine takeAt 28 57 (.agg (bitsA S)) rfl rfl (by kernel_rfl) (by kernel_rfl) (by kernel_rfl) (fun _ _ _ h => h) (loadA_t rfl rfl (by rfl)) hT3 ?_
    simp only [Act.put, List.setIfInBounds_toArray, List.set_cons_zero, List.set_cons_succ]
    refine callAt 27 56 rfl rfl (by kernel_rfl) (by rfl) (by kernel_rfl) (ranges_any S _) ?_
    rintro e w' ⟨v1, rfl, hr1, hb⟩
    refine ⟨_, rfl, hT3.call hb, ?_⟩
    have hT4 := hT3.call hb
    clear hT3 hb
    simp only [Act.put, List.setIfInBounds_toArray, List.set_cons_zero, List.set_cons_succ]
    refine callAt 29 58 rfl rfl (by kernel_rfl) (by rfl) (by kernel_rfl) (rranges_any S _) ?_
    rintro e w' ⟨v2, rfl, hr2, hb⟩
    have hr3 := hr1.call hb
    refine ⟨_, rfl, hT4.call hb, ?_⟩
    have hT5 := hT4.call hb
    clear hT4 hb
    simp only [Act.put, List.setIfInBounds_toArray, List.set_cons_zero, List.set_cons_succ]
    refine callAt 30 59 rfl rfl (by kernel_rfl) (by rfl) (by kernel_rfl) (runs_same _ _ _ S hr3 hr2) ?_
    rintro e w' ⟨rfl, hb⟩
    refine ⟨_, rfl, hT5.call hb, ?_⟩
    have hT6 := hT5.call hb
    clear hT5 hb
    simp only [Act.put, List.setIfInBounds_toArray, List.set_cons_zero, List.set_cons_succ]
    refine takeAt 31 60 (.bool false) rfl rfl (by kernel_rfl) (by kernel_rfl) (by kernel_rfl) (fun _ _ _ h => h) (yields (by rfl) (fun w => by kernel_rfl)) hT6 ?_
    simp only [Act.put, List.setIfInBounds_toArray, List.set_cons_zero, List.set_cons_succ]
    refine takeAt 32 61 (.bool false) rfl rfl (by kernel_rfl) (by kernel_rfl) (by kernel_rfl) (fun _ _ _ h => h) (yields (by rfl) (fun w => by kernel_rfl)) hT6 ?_
    simp only [Act.put, List.setIfInBounds_toArray, List.set_cons_zero, List.set_cons_succ]
    refine wpAnyH_done (by kernel_rfl) ?_ _
    clear hB
    have H4 := Lib.hid (HeldT.drew hT6)
    clear hT6
    go_wp2_with fail
    have hG := H4.out
    clear H4
    refine wp_region_held_drew (S := HeldT w S T ga gb) (by kernel_rfl) hG (fun _ => ?_)
    refine takeAt 0 62 (setV S) rfl rfl (by kernel_rfl) (by kernel_rfl) (by kernel_rfl) (fun _ _ _ h => h) (loadS_t rfl rfl (by rfl)) hG ?_
    simp only [Act.put, List.setIfInBounds_toArray, List.set_cons_zero, List.set_cons_succ]
    refine takeAt 1 63 (setV T) rfl rfl (by kernel_rfl) (by kernel_rfl) (by kernel_rfl) (fun _ _ _ h => h) (loadT_t rfl rfl (by rfl)) hG ?_
    simp only [Act.put, List.setIfInBounds_toArray, List.set_cons_zero, List.set_cons_succ]
    refine takeAt 4 66 (.agg (bitsA S)) rfl rfl (by kernel_rfl) (by kernel_rfl) (by kernel_rfl) (fun _ _ _ h => h) (loadA_t rfl rfl (by rfl)) hG ?_
    simp only [Act.put, List.setIfInBounds_toArray, List.set_cons_zero, List.set_cons_succ]
    refine takeAt 5 67 (.agg (bitsA T)) rfl rfl (by kernel_rfl) (by kernel_rfl) (by kernel_rfl) (fun _ _ _ h => h) (loadB_t rfl rfl (by rfl)) hG ?_
    simp only [Act.put, List.setIfInBounds_toArray, List.set_cons_zero, List.set_cons_succ]
    refine callAt 2 64 rfl rfl (by kernel_rfl) (by rfl) (by kernel_rfl) (or_k S T _) ?_
    rintro e w' ⟨rfl, hb⟩
    refine ⟨_, rfl, hG.call hb, ?_⟩
    have hT1 := hG.call hb
    clear hG hb
    simp only [Act.put, List.setIfInBounds_toArray, List.set_cons_zero, List.set_cons_succ]
    refine takeAt 3 65 (setV (orS S T)) rfl rfl (by kernel_rfl) (by kernel_rfl) (by kernel_rfl) (fun _ _ _ h => h) (yields (by rfl) (fun w => by kernel_rfl)) hT1 ?_
    simp only [Act.put, List.setIfInBounds_toArray, List.set_cons_zero, List.set_cons_succ]
    refine callAt 6 68 rfl rfl (by kernel_rfl) (by rfl) (by kernel_rfl) (ror_k S T _) ?_
    rintro e w' ⟨rfl, hb⟩
    refine ⟨_, rfl, hT1.call hb, ?_⟩
    have hT2 := hT1.call hb
    clear hT1 hb
    simp only [Act.put, List.setIfInBounds_toArray, List.set_cons_zero, List.set_cons_succ]
    refine callAt 7 69 rfl rfl (by kernel_rfl) (by rfl) (by kernel_rfl) (rwords_any (orS S T) _) ?_
    rintro e w' ⟨rfl, hb⟩
    refine ⟨_, rfl, hT2.call hb, ?_⟩
    have hT3 := hT2.call hb
    clear hT2 hb
    simp only [Act.put, List.setIfInBounds_toArray, List.set_cons_zero, List.set_cons_succ]
    refine takeAt 8 70 (.bool true) rfl rfl (by kernel_rfl) (by kernel_rfl) (by kernel_rfl) (fun _ _ _ h => h) (eqW_y (orS S T) rfl rfl rfl (by rfl)) hT3 ?_
    simp only [Act.put, List.setIfInBounds_toArray, List.set_cons_zero, List.set_cons_succ]
    refine takeAt 9 71 (.bool true) rfl rfl (by kernel_rfl) (by kernel_rfl) (by kernel_rfl) (fun _ _ _ h => h) (yields (by rfl) (fun w => by kernel_rfl)) hT3 ?_
    simp only [Act.put, List.setIfInBounds_toArray, List.set_cons_zero, List.set_cons_succ]
    refine takeAt 10 72 (setV S) rfl rfl (by kernel_rfl) (by kernel_rfl) (by kernel_rfl) (fun _ _ _ h => h) (loadS_t rfl rfl (by rfl)) hT3 ?_
    simp only [Act.put, List.setIfInBounds_toArray, List.set_cons_zero, List.set_cons_succ]
    refine takeAt 11 73 (setV T) rfl rfl (by kernel_rfl) (by kernel_rfl) (by kernel_rfl) (fun _ _ _ h => h) (loadT_t rfl rfl (by rfl)) hT3 ?_
    simp only [Act.put, List.setIfInBounds_toArray, List.set_cons_zero, List.set_cons_succ]
    refine takeAt 14 76 (.agg (bitsA S)) rfl rfl (by kernel_rfl) (by kernel_rfl) (by kernel_rfl) (fun _ _ _ h => h) (loadA_t rfl rfl (by rfl)) hT3 ?_
    simp only [Act.put, List.setIfInBounds_toArray, List.set_cons_zero, List.set_cons_succ]
    refine takeAt 15 77 (.agg (bitsA T)) rfl rfl (by kernel_rfl) (by kernel_rfl) (by kernel_rfl) (fun _ _ _ h => h) (loadB_t rfl rfl (by rfl)) hT3 ?_
    simp only [Act.put, List.setIfInBounds_toArray, List.set_cons_zero, List.set_cons_succ]
    as_aux_lemma =>
      refine callAt 12 74 rfl rfl (by kernel_rfl) (by rfl) (by kernel_rfl) (and_k S T _) ?_
      rintro e w' ⟨rfl, hb⟩
      refine ⟨_, rfl, hT3.call hb, ?_⟩
      have hT4 := hT3.call hb
      clear hT3 hb
      simp only [Act.put, List.setIfInBounds_toArray, List.set_cons_zero, List.set_cons_succ]
      refine takeAt 13 75 (setV (andS S T)) rfl rfl (by kernel_rfl) (by kernel_rfl) (by kernel_rfl) (fun _ _ _ h => h) (yields (by rfl) (fun w => by kernel_rfl)) hT4 ?_
      simp only [Act.put, List.setIfInBounds_toArray, List.set_cons_zero, List.set_cons_succ]
      refine callAt 16 78 rfl rfl (by kernel_rfl) (by rfl) (by kernel_rfl) (rand_k S T _) ?_
      rintro e w' ⟨rfl, hb⟩
      refine ⟨_, rfl, hT4.call hb, ?_⟩
      have hT5 := hT4.call hb
      clear hT4 hb
      simp only [Act.put, List.setIfInBounds_toArray, List.set_cons_zero, List.set_cons_succ]
      refine callAt 17 79 rfl rfl (by kernel_rfl) (by rfl) (by kernel_rfl) (rwords_any (andS S T) _) ?_
      rintro e w' ⟨rfl, hb⟩
      refine ⟨_, rfl, hT5.call hb, ?_⟩
      have hT6 := hT5.call hb
      clear hT5 hb
      simp only [Act.put, List.setIfInBounds_toArray, List.set_cons_zero, List.set_cons_succ]
      refine takeAt 18 80 (.bool true) rfl rfl (by kernel_rfl) (by kernel_rfl) (by kernel_rfl) (fun _ _ _ h => h) (eqW_y (andS S T) rfl rfl rfl (by rfl)) hT6 ?_
      simp only [Act.put, List.setIfInBounds_toArray, List.set_cons_zero, List.set_cons_succ]
      refine takeAt 19 81 (.bool true) rfl rfl (by kernel_rfl) (by kernel_rfl) (by kernel_rfl) (fun _ _ _ h => h) (yields (by rfl) (fun w => by kernel_rfl)) hT6 ?_
      simp only [Act.put, List.setIfInBounds_toArray, List.set_cons_zero, List.set_cons_succ]
      refine takeAt 20 82 (.bool true) rfl rfl (by kernel_rfl) (by kernel_rfl) (by kernel_rfl) (fun _ _ _ h => h) (yields (by rfl) (fun w => by kernel_rfl)) hT6 ?_
      simp only [Act.put, List.setIfInBounds_toArray, List.set_cons_zero, List.set_cons_succ]
      refine takeAt 21 83 (setV S) rfl rfl (by kernel_rfl) (by kernel_rfl) (by kernel_rfl) (fun _ _ _ h => h) (loadS_t rfl rfl (by rfl)) hT6 ?_
      simp only [Act.put, List.setIfInBounds_toArray, List.set_cons_zero, List.set_cons_succ]
      refine takeAt 24 86 (.agg (bitsA S)) rfl rfl (by kernel_rfl) (by kernel_rfl) (by kernel_rfl) (fun _ _ _ h => h) (loadA_t rfl rfl (by rfl)) hT6 ?_
      simp only [Act.put, List.setIfInBounds_toArray, List.set_cons_zero, List.set_cons_succ]
      refine callAt 22 84 rfl rfl (by kernel_rfl) (by rfl) (by kernel_rfl) (not_k S _) ?_
      rintro e w' ⟨rfl, hb⟩
      refine ⟨_, rfl, hT6.call hb, ?_⟩
      have hT7 := hT6.call hb
      clear hT6 hb
      simp only [Act.put, List.setIfInBounds_toArray, List.set_cons_zero, List.set_cons_succ]
      refine takeAt 23 85 (setV (notS S)) rfl rfl (by kernel_rfl) (by kernel_rfl) (by kernel_rfl) (fun _ _ _ h => h) (yields (by rfl) (fun w => by kernel_rfl)) hT7 ?_
      simp only [Act.put, List.setIfInBounds_toArray, List.set_cons_zero, List.set_cons_succ]
      refine callAt 25 87 rfl rfl (by kernel_rfl) (by rfl) (by kernel_rfl) (rnot_k S _) ?_
      rintro e w' ⟨rfl, hb⟩
      refine ⟨_, rfl, hT7.call hb, ?_⟩
      have hT8 := hT7.call hb
      clear hT7 hb
      simp only [Act.put, List.setIfInBounds_toArray, List.set_cons_zero, List.set_cons_succ]
      refine callAt 26 88 rfl rfl (by kernel_rfl) (by rfl) (by kernel_rfl) (rwords_any (notS S) _) ?_
      rintro e w' ⟨rfl, hb⟩
      refine ⟨_, rfl, hT8.call hb, ?_⟩
      have hT9 := hT8.call hb
      clear hT8 hb
      simp only [Act.put, List.setIfInBounds_toArray, List.set_cons_zero, List.set_cons_succ]
      refine takeAt 27 89 (.bool true) rfl rfl (by kernel_rfl) (by kernel_rfl) (by kernel_rfl) (fun _ _ _ h => h) (eqW_y (notS S) rfl rfl rfl (by rfl)) hT9 ?_
      simp only [Act.put, List.setIfInBounds_toArray, List.set_cons_zero, List.set_cons_succ]
      as_aux_lemma =>
        refine takeAt 28 90 (.bool true) rfl rfl (by kernel_rfl) (by kernel_rfl) (by kernel_rfl) (fun _ _ _ h => h) (yields (by rfl) (fun w => by kernel_rfl)) hT9 ?_
        simp only [Act.put, List.setIfInBounds_toArray, List.set_cons_zero, List.set_cons_succ]
        refine takeAt 29 91 (.bool true) rfl rfl (by kernel_rfl) (by kernel_rfl) (by kernel_rfl) (fun _ _ _ h => h) (yields (by rfl) (fun w => by kernel_rfl)) hT9 ?_
        simp only [Act.put, List.setIfInBounds_toArray, List.set_cons_zero, List.set_cons_succ]
        refine takeAt 30 92 (setV S) rfl rfl (by kernel_rfl) (by kernel_rfl) (by kernel_rfl) (fun _ _ _ h => h) (loadS_t rfl rfl (by rfl)) hT9 ?_
        simp only [Act.put, List.setIfInBounds_toArray, List.set_cons_zero, List.set_cons_succ]
        refine takeAt 33 95 (.agg (bitsA S)) rfl rfl (by kernel_rfl) (by kernel_rfl) (by kernel_rfl) (fun _ _ _ h => h) (loadA_t rfl rfl (by rfl)) hT9 ?_
        simp only [Act.put, List.setIfInBounds_toArray, List.set_cons_zero, List.set_cons_succ]
        refine callAt 31 93 rfl rfl (by kernel_rfl) (by rfl) (by kernel_rfl) (fold_any S _) ?_
        rintro e w' ⟨rfl, hb⟩
        refine ⟨_, rfl, hT9.call hb, ?_⟩
        have hT10 := hT9.call hb
        clear hT9 hb
        simp only [Act.put, List.setIfInBounds_toArray, List.set_cons_zero, List.set_cons_succ]
        refine takeAt 32 94 (setV (foldS S)) rfl rfl (by kernel_rfl) (by kernel_rfl) (by kernel_rfl) (fun _ _ _ h => h) (yields (by rfl) (fun w => by kernel_rfl)) hT10 ?_
        simp only [Act.put, List.setIfInBounds_toArray, List.set_cons_zero, List.set_cons_succ]
        refine callAt 34 96 rfl rfl (by kernel_rfl) (by rfl) (by kernel_rfl) (rfold_any S _) ?_
        rintro e w' ⟨rfl, hb⟩
        refine ⟨_, rfl, hT10.call hb, ?_⟩
        have hT11 := hT10.call hb
        clear hT10 hb
        simp only [Act.put, List.setIfInBounds_toArray, List.set_cons_zero, List.set_cons_succ]
        refine callAt 35 97 rfl rfl (by kernel_rfl) (by rfl) (by kernel_rfl) (rwords_any (foldS S) _) ?_
        rintro e w' ⟨rfl, hb⟩
        refine ⟨_, rfl, hT11.call hb, ?_⟩
        have hT12 := hT11.call hb
        clear hT11 hb
        simp only [Act.put, List.setIfInBounds_toArray, List.set_cons_zero, List.set_cons_succ]
        refine takeAt 36 98 (.bool true) rfl rfl (by kernel_rfl) (by kernel_rfl) (by kernel_rfl) (fun _ _ _ h => h) (eqW_y (foldS S) rfl rfl rfl (by rfl)) hT12 ?_
        simp only [Act.put, List.setIfInBounds_toArray, List.set_cons_zero, List.set_cons_succ]
        refine takeAt 37 99 (.bool true) rfl rfl (by kernel_rfl) (by kernel_rfl) (by kernel_rfl) (fun _ _ _ h => h) (yields (by rfl) (fun w => by kernel_rfl)) hT12 ?_
        simp only [Act.put, List.setIfInBounds_toArray, List.set_cons_zero, List.set_cons_succ]
        refine takeAt 38 100 (.bool true) rfl rfl (by kernel_rfl) (by kernel_rfl) (by kernel_rfl) (fun _ _ _ h => h) (yields (by rfl) (fun w => by kernel_rfl)) hT12 ?_
        simp only [Act.put, List.setIfInBounds_toArray, List.set_cons_zero, List.set_cons_succ]
        refine callAt 39 101 rfl rfl (by kernel_rfl) (by rfl) (by kernel_rfl) (hT12.fix HF.out) ?_
        rintro e w' ⟨rfl, hb⟩
        refine ⟨_, rfl, hT12.call hb, ?_⟩
        have hT13 := hT12.call hb
        clear hT12 hb
        simp only [Act.put, List.setIfInBounds_toArray, List.set_cons_zero, List.set_cons_succ]
        refine takeAt 40 102 (.bool true) rfl rfl (by kernel_rfl) (by kernel_rfl) (by kernel_rfl) (fun _ _ _ h => h) (yields (by rfl) (fun w => by kernel_rfl)) hT13 ?_
        simp only [Act.put, List.setIfInBounds_toArray, List.set_cons_zero, List.set_cons_succ]
        refine takeAt 41 6 (.bool true) rfl rfl (by kernel_rfl) (by kernel_rfl) (by kernel_rfl) (fun _ _ _ h => h) (yields (by rfl) (fun w => by kernel_rfl)) hT13 ?_
        simp only [Act.put, List.setIfInBounds_toArray, List.set_cons_zero, List.set_cons_succ]
        as_aux_lemma =>
          refine wpAnyH_done (by kernel_rfl) ?_ _
          go_wp2
          go_ret
          exact ⟨rfl, hT13.1.2.1⟩

set_option maxHeartbeats 8000000 in
set_option maxRecDepth 100000 in
theorem classTells_Ptrue (hfix : FixedOk) (S T : BitVec 256) (c : Nat) (w : World) (ht : TabOk w) (hc : c < 256) (hz : S ≠ 0#256) (hB : mem S c = true) :
    Calls Tryd.prog 3 #[setV S, setV T, .int .u8 (c : Int)] w fun e w' => e = .returned (.bool true) ∧ Below w.heap.size w w' := by
  have HF := Lib.hid hfix
  have h0 := ht.lt
  have HM := Lib.hid hB
  have HZ := Lib.hid hz
  have hS := (((Held.start ht).new S).new T).drew
  rw [World.size_alloc] at hS
  have HS := Lib.hid hS
  clear hfix ht hB hz hS
  go_enter Tryd.func3, Tryd.ntmps3
  go_upto_region 1 with fail
  go_cut [7, 8] (fun u v wx => ∃ ga gb : Nat, u = .pointer (some ⟨ga, 0, none⟩) ∧ v = .pointer (some ⟨gb, 0, none⟩) ∧ HeldT w S T ga gb wx)
  case first =>
    have hS := HS.out
    clear HS
    refine wp_region_held_drew (S := Held w [(w.heap.size + 1, T), (w.heap.size, S)]) (by kernel_rfl) hS (fun _ => ?_)
    refine takeAt 0 13 (.pointer (some ⟨w.heap.size, 0, none⟩)) rfl rfl (by kernel_rfl) (by kernel_rfl) (by kernel_rfl) (fun _ _ _ h => h) (yields (by rfl) (fun w => by kernel_rfl)) hS ?_
    simp only [Act.put, List.setIfInBounds_toArray, List.set_cons_zero, List.set_cons_succ]
    refine takeAt 1 14 (setV S) rfl rfl (by kernel_rfl) (by kernel_rfl) (by kernel_rfl) (fun _ _ _ h => h) (load23_y rfl rfl (List.mem_cons_of_mem _ List.mem_cons_self) (by rfl)) hS ?_
    simp only [Act.put, List.setIfInBounds_toArray, List.set_cons_zero, List.set_cons_succ]
    refine takeAt 3 16 (.pointer (some ⟨w.heap.size + 1, 0, none⟩)) rfl rfl (by kernel_rfl) (by kernel_rfl) (by kernel_rfl) (fun _ _ _ h => h) (yields (by rfl) (fun w => by kernel_rfl)) hS ?_
    simp only [Act.put, List.setIfInBounds_toArray, List.set_cons_zero, List.set_cons_succ]
    refine takeAt 4 17 (setV T) rfl rfl (by kernel_rfl) (by kernel_rfl) (by kernel_rfl) (fun _ _ _ h => h) (load23_y rfl rfl List.mem_cons_self (by rfl)) hS ?_
    simp only [Act.put, List.setIfInBounds_toArray, List.set_cons_zero, List.set_cons_succ]
    obtain ⟨wz, hwz⟩ : ∃ wz, wz = ((w.alloc (.cells #[.int .u64 (W S 0), .int .u64 (W S 1), .int .u64 (W S 2), .int .u64 (W S 3)] 25)).alloc (.cells #[.int .u64 (W T 0), .int .u64 (W T 1), .int .u64 (W T 2), .int .u64 (W T 3)] 25)).drew := ⟨_, rfl⟩
    rw [← hwz] at hS ⊢
    clear hwz
    obtain ⟨g1, hg1⟩ : ∃ g1, g1 = (wz).heap.size := ⟨_, rfl⟩
    refine wpAnyH_ready (rs := [2, 6, 7]) (by kernel_rfl) (by simp) (AllReadyH.cons rfl (callStep 2 15 rfl (by rfl) (by kernel_rfl) (rof_any S _) ?_) (AllReadyH.cons rfl (valStep 6 7 (.pointer (some ⟨g1, 0, none⟩)) (wz.alloc (.cells (bitsA 0#256) 28)) rfl (by rfl) (by rw [hg1]; kernel_rfl) (hS.alloc _) ?_) (AllReadyH.cons rfl (valStep 7 8 (.pointer (some ⟨g1, 0, none⟩)) (wz.alloc (.cells (bitsA 0#256) 28)) rfl (by rfl) (by rw [hg1]; kernel_rfl) (hS.alloc _) ?_) AllReadyH.nil)))
    · rintro e w2 ⟨rfl, hb⟩
      refine ⟨_, rfl, hS.call hb, ?_⟩
      have hH3 := hS.call hb
      clear hb
      simp only [Act.put, List.setIfInBounds_toArray, List.set_cons_zero, List.set_cons_succ]
      obtain ⟨g4, hg4⟩ : ∃ g4, g4 = (w2).heap.size := ⟨_, rfl⟩
      refine wpAnyH_ready (rs := [5, 6, 7]) (by kernel_rfl) (by simp) (AllReadyH.cons rfl (callStep 5 18 rfl (by rfl) (by kernel_rfl) (rof_any T _) ?_) (AllReadyH.cons rfl (valStep 6 7 (.pointer (some ⟨g4, 0, none⟩)) (w2.alloc (.cells (bitsA 0#256) 28)) rfl (by rfl) (by rw [hg4]; kernel_rfl) (hH3.alloc _) ?_) (AllReadyH.cons rfl (valStep 7 8 (.pointer (some ⟨g4, 0, none⟩)) (w2.alloc (.cells (bitsA 0#256) 28)) rfl (by rfl) (by rw [hg4]; kernel_rfl) (hH3.alloc _) ?_) AllReadyH.nil)))
      · rintro e w5 ⟨rfl, hb⟩
        refine ⟨_, rfl, hH3.call hb, ?_⟩
        have hH6 := hH3.call hb
        clear hb
        simp only [Act.put, List.setIfInBounds_toArray, List.set_cons_zero, List.set_cons_succ]
        obtain ⟨g7, hg7⟩ : ∃ g7, g7 = (w5).heap.size := ⟨_, rfl⟩
        refine wpAnyH_ready (rs := [6, 7]) (by kernel_rfl) (by simp) (AllReadyH.cons rfl (valStep 6 7 (.pointer (some ⟨g7, 0, none⟩)) (w5.alloc (.cells (bitsA 0#256) 28)) rfl (by rfl) (by rw [hg7]; kernel_rfl) (hH6.alloc _) ?_) (AllReadyH.cons rfl (valStep 7 8 (.pointer (some ⟨g7, 0, none⟩)) (w5.alloc (.cells (bitsA 0#256) 28)) rfl (by rfl) (by rw [hg7]; kernel_rfl) (hH6.alloc _) ?_) AllReadyH.nil))
        · have x9 : BoxA (w5.alloc (.cells (bitsA 0#256) 28)) g7 0#256 := by rw [hg7]; exact BoxA.new _ _
          have lx9 : w.heap.size + 1 < g7 := by rw [hg7]; exact (hH6.1 _ List.mem_cons_self).lt
          have hH8 := hH6.alloc (.cells (bitsA 0#256) 28)
          simp only [Act.put, List.setIfInBounds_toArray, List.set_cons_zero, List.set_cons_succ]
          obtain ⟨g10, hg10⟩ : ∃ g10, g10 = ((w5.alloc (.cells (bitsA 0#256) 28))).heap.size := ⟨_, rfl⟩
          refine wpAnyH_ready (rs := [7]) (by kernel_rfl) (by simp) (AllReadyH.cons rfl (valStep 7 8 (.pointer (some ⟨g10, 0, none⟩)) ((w5.alloc (.cells (bitsA 0#256) 28)).alloc (.cells (bitsA 0#256) 28)) rfl (by rfl) (by rw [hg10]; kernel_rfl) (hH8.alloc _) ?_) AllReadyH.nil)
          · have x12 : BoxA ((w5.alloc (.cells (bitsA 0#256) 28)).alloc (.cells (bitsA 0#256) 28)) g10 0#256 := by rw [hg10]; exact BoxA.new _ _
            have lx12 : w.heap.size + 1 < g10 := by rw [hg10]; exact (hH8.1 _ List.mem_cons_self).lt
            have mx12 : g7 < g10 := by rw [hg10]; exact x9.lt
            have x13 := x9.alloc (.cells (bitsA 0#256) 28)
            have hH11 := hH8.alloc (.cells (bitsA 0#256) 28)
            simp only [Act.put, List.setIfInBounds_toArray, List.set_cons_zero, List.set_cons_succ]
            have ne : ∀ g, w.heap.size + 1 < g → ∀ p ∈ [(w.heap.size + 1, T), (w.heap.size, S)], p.1 ≠ g := by intro g hg p hp; simp at hp; rcases hp with rfl | rfl <;> simp <;> omega
            have hC := hH11.row g7 (bitsA S) h0 (by omega) (ne _ (by omega))
            have b1 : BoxA (((w5.alloc (.cells (bitsA 0#256) 28)).alloc (.cells (bitsA 0#256) 28)).setRow g7 (bitsA S)) g7 S := BoxA.rowSame (S := 0#256) x13 _
            have b2 : BoxA (((w5.alloc (.cells (bitsA 0#256) 28)).alloc (.cells (bitsA 0#256) 28)).setRow g7 (bitsA S)) g10 0#256 := BoxA.row x12 _ (by omega)
            have hD := hC.row g10 (bitsA T) h0 (by omega) (ne _ (by omega))
            refine wpAnyH_ready (rs := [8]) (by kernel_rfl) (by simp) (AllReadyH.cons rfl (storeStep 8 g7 0#256 S rfl rfl (by rfl) rfl rfl x13 hC ?_) AllReadyH.nil)
            refine wpAnyH_ready (rs := [9]) (by kernel_rfl) (by simp) (AllReadyH.cons rfl (storeStep 9 g10 0#256 T rfl rfl (by rfl) rfl rfl b2 hD ?_) AllReadyH.nil)
            refine wpAnyH_done (by kernel_rfl) ?_ _
            go_wp2_with fail
            go_meet
            exact ⟨g7, g10, rfl, rfl, hD, BoxA.row b1 _ (by omega), BoxA.rowSame (S := 0#256) b2 _⟩
        · have x15 : BoxA (w5.alloc (.cells (bitsA 0#256) 28)) g7 0#256 := by rw [hg7]; exact BoxA.new _ _
          have lx15 : w.heap.size + 1 < g7 := by rw [hg7]; exact (hH6.1 _ List.mem_cons_self).lt
          have hH14 := hH6.alloc (.cells (bitsA 0#256) 28)
          simp only [Act.put, List.setIfInBounds_toArray, List.set_cons_zero, List.set_cons_succ]
          obtain ⟨g16, hg16⟩ : ∃ g16, g16 = ((w5.alloc (.cells (bitsA 0#256) 28))).heap.size := ⟨_, rfl⟩
          refine wpAnyH_ready (rs := [6]) (by kernel_rfl) (by simp) (AllReadyH.cons rfl (valStep 6 7 (.pointer (some ⟨g16, 0, none⟩)) ((w5.alloc (.cells (bitsA 0#256) 28)).alloc (.cells (bitsA 0#256) 28)) rfl (by rfl) (by rw [hg16]; kernel_rfl) (hH14.alloc _) ?_) AllReadyH.nil)
          · have x18 : BoxA ((w5.alloc (.cells (bitsA 0#256) 28)).alloc (.cells (bitsA 0#256) 28)) g16 0#256 := by rw [hg16]; exact BoxA.new _ _
            have lx18 : w.heap.size + 1 < g16 := by rw [hg16]; exact (hH14.1 _ List.mem_cons_self).lt
            have mx18 : g7 < g16 := by rw [hg16]; exact x15.lt
            have x19 := x15.alloc (.cells (bitsA 0#256) 28)
            have hH17 := hH14.alloc (.cells (bitsA 0#256) 28)
            simp only [Act.put, List.setIfInBounds_toArray, List.set_cons_zero, List.set_cons_succ]
            have ne : ∀ g, w.heap.size + 1 < g → ∀ p ∈ [(w.heap.size + 1, T), (w.heap.size, S)], p.1 ≠ g := by intro g hg p hp; simp at hp; rcases hp with rfl | rfl <;> simp <;> omega
            have hC := hH17.row g16 (bitsA S) h0 (by omega) (ne _ (by omega))
            have b1 : BoxA (((w5.alloc (.cells (bitsA 0#256) 28)).alloc (.cells (bitsA 0#256) 28)).setRow g16 (bitsA S)) g16 S := BoxA.rowSame (S := 0#256) x18 _
            have b2 : BoxA (((w5.alloc (.cells (bitsA 0#256) 28)).alloc (.cells (bitsA 0#256) 28)).setRow g16 (bitsA S)) g7 0#256 := BoxA.row x19 _ (by omega)
            have hD := hC.row g7 (bitsA T) h0 (by omega) (ne _ (by omega))
            refine wpAnyH_ready (rs := [8]) (by kernel_rfl) (by simp) (AllReadyH.cons rfl (storeStep 8 g16 0#256 S rfl rfl (by rfl) rfl rfl x18 hC ?_) AllReadyH.nil)
            refine wpAnyH_ready (rs := [9]) (by kernel_rfl) (by simp) (AllReadyH.cons rfl (storeStep 9 g7 0#256 T rfl rfl (by rfl) rfl rfl b2 hD ?_) AllReadyH.nil)
            refine wpAnyH_done (by kernel_rfl) ?_ _
            go_wp2_with fail
            go_meet
            exact ⟨g16, g7, rfl, rfl, hD, BoxA.row b1 _ (by omega), BoxA.rowSame (S := 0#256) b2 _⟩
      · have x21 : BoxA (w2.alloc (.cells (bitsA 0#256) 28)) g4 0#256 := by rw [hg4]; exact BoxA.new _ _
        have lx21 : w.heap.size + 1 < g4 := by rw [hg4]; exact (hH3.1 _ List.mem_cons_self).lt
        have hH20 := hH3.alloc (.cells (bitsA 0#256) 28)
        simp only [Act.put, List.setIfInBounds_toArray, List.set_cons_zero, List.set_cons_succ]
        obtain ⟨g22, hg22⟩ : ∃ g22, g22 = ((w2.alloc (.cells (bitsA 0#256) 28))).heap.size := ⟨_, rfl⟩
        refine wpAnyH_ready (rs := [5, 7]) (by kernel_rfl) (by simp) (AllReadyH.cons rfl (callStep 5 18 rfl (by rfl) (by kernel_rfl) (rof_any T _) ?_) (AllReadyH.cons rfl (valStep 7 8 (.pointer (some ⟨g22, 0, none⟩)) ((w2.alloc (.cells (bitsA 0#256) 28)).alloc (.cells (bitsA 0#256) 28)) rfl (by rfl) (by rw [hg22]; kernel_rfl) (hH20.alloc _) ?_) AllReadyH.nil))
        · rintro e w23 ⟨rfl, hb⟩
          refine ⟨_, rfl, hH20.call hb, ?_⟩
          have hH24 := hH20.call hb
          have x25 := x21.below hb x21.lt
          clear hb
          simp only [Act.put, List.setIfInBounds_toArray, List.set_cons_zero, List.set_cons_succ]
          obtain ⟨g26, hg26⟩ : ∃ g26, g26 = (w23).heap.size := ⟨_, rfl⟩
          refine wpAnyH_ready (rs := [7]) (by kernel_rfl) (by simp) (AllReadyH.cons rfl (valStep 7 8 (.pointer (some ⟨g26, 0, none⟩)) (w23.alloc (.cells (bitsA 0#256) 28)) rfl (by rfl) (by rw [hg26]; kernel_rfl) (hH24.alloc _) ?_) AllReadyH.nil)
          · have x28 : BoxA (w23.alloc (.cells (bitsA 0#256) 28)) g26 0#256 := by rw [hg26]; exact BoxA.new _ _
            have lx28 : w.heap.size + 1 < g26 := by rw [hg26]; exact (hH24.1 _ List.mem_cons_self).lt
            have mx28 : g4 < g26 := by rw [hg26]; exact x25.lt
            have x29 := x25.alloc (.cells (bitsA 0#256) 28)
            have hH27 := hH24.alloc (.cells (bitsA 0#256) 28)
            simp only [Act.put, List.setIfInBounds_toArray, List.set_cons_zero, List.set_cons_succ]
            have ne : ∀ g, w.heap.size + 1 < g → ∀ p ∈ [(w.heap.size + 1, T), (w.heap.size, S)], p.1 ≠ g := by intro g hg p hp; simp at hp; rcases hp with rfl | rfl <;> simp <;> omega
            have hC := hH27.row g4 (bitsA S) h0 (by omega) (ne _ (by omega))
            have b1 : BoxA ((w23.alloc (.cells (bitsA 0#256) 28)).setRow g4 (bitsA S)) g4 S := BoxA.rowSame (S := 0#256) x29 _
            have b2 : BoxA ((w23.alloc (.cells (bitsA 0#256) 28)).setRow g4 (bitsA S)) g26 0#256 := BoxA.row x28 _ (by omega)
            have hD := hC.row g26 (bitsA T) h0 (by omega) (ne _ (by omega))
            refine wpAnyH_ready (rs := [8]) (by kernel_rfl) (by simp) (AllReadyH.cons rfl (storeStep 8 g4 0#256 S rfl rfl (by rfl) rfl rfl x29 hC ?_) AllReadyH.nil)
            refine wpAnyH_ready (rs := [9]) (by kernel_rfl) (by simp) (AllReadyH.cons rfl (storeStep 9 g26 0#256 T rfl rfl (by rfl) rfl rfl b2 hD ?_) AllReadyH.nil)
            refine wpAnyH_done (by kernel_rfl) ?_ _
            go_wp2_with fail
            go_meet
            exact ⟨g4, g26, rfl, rfl, hD, BoxA.row b1 _ (by omega), BoxA.rowSame (S := 0#256) b2 _⟩
        · have x31 : BoxA ((w2.alloc (.cells (bitsA 0#256) 28)).alloc (.cells (bitsA 0#256) 28)) g22 0#256 := by rw [hg22]; exact BoxA.new _ _
          have lx31 : w.heap.size + 1 < g22 := by rw [hg22]; exact (hH20.1 _ List.mem_cons_self).lt
          have mx31 : g4 < g22 := by rw [hg22]; exact x21.lt
          have x32 := x21.alloc (.cells (bitsA 0#256) 28)
          have hH30 := hH20.alloc (.cells (bitsA 0#256) 28)
          simp only [Act.put, List.setIfInBounds_toArray, List.set_cons_zero, List.set_cons_succ]
          refine wpAnyH_ready (rs := [5]) (by kernel_rfl) (by simp) (AllReadyH.cons rfl (callStep 5 18 rfl (by rfl) (by kernel_rfl) (rof_any T _) ?_) AllReadyH.nil)
          · rintro e w34 ⟨rfl, hb⟩
            refine ⟨_, rfl, hH30.call hb, ?_⟩
            have hH35 := hH30.call hb
            have x36 := x32.below hb x32.lt
            have x37 := x31.below hb x31.lt
            clear hb
            simp only [Act.put, List.setIfInBounds_toArray, List.set_cons_zero, List.set_cons_succ]
            have ne : ∀ g, w.heap.size + 1 < g → ∀ p ∈ [(w.heap.size + 1, T), (w.heap.size, S)], p.1 ≠ g := by intro g hg p hp; simp at hp; rcases hp with rfl | rfl <;> simp <;> omega
            have hC := hH35.row g4 (bitsA S) h0 (by omega) (ne _ (by omega))
            have b1 : BoxA (w34.setRow g4 (bitsA S)) g4 S := BoxA.rowSame (S := 0#256) x36 _
            have b2 : BoxA (w34.setRow g4 (bitsA S)) g22 0#256 := BoxA.row x37 _ (by omega)
            have hD := hC.row g22 (bitsA T) h0 (by omega) (ne _ (by omega))
            refine wpAnyH_ready (rs := [8]) (by kernel_rfl) (by simp) (AllReadyH.cons rfl (storeStep 8 g4 0#256 S rfl rfl (by rfl) rfl rfl x36 hC ?_) AllReadyH.nil)
            refine wpAnyH_ready (rs := [9]) (by kernel_rfl) (by simp) (AllReadyH.cons rfl (storeStep 9 g22 0#256 T rfl rfl (by rfl) rfl rfl b2 hD ?_) AllReadyH.nil)
            refine wpAnyH_done (by kernel_rfl) ?_ _
            go_wp2_with fail
            go_meet
            exact ⟨g4, g22, rfl, rfl, hD, BoxA.row b1 _ (by omega), BoxA.rowSame (S := 0#256) b2 _⟩
      · have x39 : BoxA (w2.alloc (.cells (bitsA 0#256) 28)) g4 0#256 := by rw [hg4]; exact BoxA.new _ _
        have lx39 : w.heap.size + 1 < g4 := by rw [hg4]; exact (hH3.1 _ List.mem_cons_self).lt
        have hH38 := hH3.alloc (.cells (bitsA 0#256) 28)
        simp only [Act.put, List.setIfInBounds_toArray, List.set_cons_zero, List.set_cons_succ]
        obtain ⟨g40, hg40⟩ : ∃ g40, g40 = ((w2.alloc (.cells (bitsA 0#256) 28))).heap.size := ⟨_, rfl⟩
        refine wpAnyH_ready (rs := [5, 6]) (by kernel_rfl) (by simp) (AllReadyH.cons rfl (callStep 5 18 rfl (by rfl) (by kernel_rfl) (rof_any T _) ?_) (AllReadyH.cons rfl (valStep 6 7 (.pointer (some ⟨g40, 0, none⟩)) ((w2.alloc (.cells (bitsA 0#256) 28)).alloc (.cells (bitsA 0#256) 28)) rfl (by rfl) (by rw [hg40]; kernel_rfl) (hH38.alloc _) ?_) AllReadyH.nil))
        · rintro e w41 ⟨rfl, hb⟩
          refine ⟨_, rfl, hH38.call hb, ?_⟩
          have hH42 := hH38.call hb
          have x43 := x39.below hb x39.lt
          clear hb
          simp only [Act.put, List.setIfInBounds_toArray, List.set_cons_zero, List.set_cons_succ]
          obtain ⟨g44, hg44⟩ : ∃ g44, g44 = (w41).heap.size := ⟨_, rfl⟩
          refine wpAnyH_ready (rs := [6]) (by kernel_rfl) (by simp) (AllReadyH.cons rfl (valStep 6 7 (.pointer (some ⟨g44, 0, none⟩)) (w41.alloc (.cells (bitsA 0#256) 28)) rfl (by rfl) (by rw [hg44]; kernel_rfl) (hH42.alloc _) ?_) AllReadyH.nil)
          · have x46 : BoxA (w41.alloc (.cells (bitsA 0#256) 28)) g44 0#256 := by rw [hg44]; exact BoxA.new _ _
            have lx46 : w.heap.size + 1 < g44 := by rw [hg44]; exact (hH42.1 _ List.mem_cons_self).lt
            have mx46 : g4 < g44 := by rw [hg44]; exact x43.lt
            have x47 := x43.alloc (.cells (bitsA 0#256) 28)
            have hH45 := hH42.alloc (.cells (bitsA 0#256) 28)
            simp only [Act.put, List.setIfInBounds_toArray, List.set_cons_zero, List.set_cons_succ]
            have ne : ∀ g, w.heap.size + 1 < g → ∀ p ∈ [(w.heap.size + 1, T), (w.heap.size, S)], p.1 ≠ g := by intro g hg p hp; simp at hp; rcases hp with rfl | rfl <;> simp <;> omega
            have hC := hH45.row g44 (bitsA S) h0 (by omega) (ne _ (by omega))
            have b1 : BoxA ((w41.alloc (.cells (bitsA 0#256) 28)).setRow g44 (bitsA S)) g44 S := BoxA.rowSame (S := 0#256) x46 _
            have b2 : BoxA ((w41.alloc (.cells (bitsA 0#256) 28)).setRow g44 (bitsA S)) g4 0#256 := BoxA.row x47 _ (by omega)
            have hD := hC.row g4 (bitsA T) h0 (by omega) (ne _ (by omega))
            refine wpAnyH_ready (rs := [8]) (by kernel_rfl) (by simp) (AllReadyH.cons rfl (storeStep 8 g44 0#256 S rfl rfl (by rfl) rfl rfl x46 hC ?_) AllReadyH.nil)
            refine wpAnyH_ready (rs := [9]) (by kernel_rfl) (by simp) (AllReadyH.cons rfl (storeStep 9 g4 0#256 T rfl rfl (by rfl) rfl rfl b2 hD ?_) AllReadyH.nil)
            refine wpAnyH_done (by kernel_rfl) ?_ _
            go_wp2_with fail
            go_meet
            exact ⟨g44, g4, rfl, rfl, hD, BoxA.row b1 _ (by omega), BoxA.rowSame (S := 0#256) b2 _⟩
        · have x49 : BoxA ((w2.alloc (.cells (bitsA 0#256) 28)).alloc (.cells (bitsA 0#256) 28)) g40 0#256 := by rw [hg40]; exact BoxA.new _ _
          have lx49 : w.heap.size + 1 < g40 := by rw [hg40]; exact (hH38.1 _ List.mem_cons_self).lt
          have mx49 : g4 < g40 := by rw [hg40]; exact x39.lt
          have x50 := x39.alloc (.cells (bitsA 0#256) 28)
          have hH48 := hH38.alloc (.cells (bitsA 0#256) 28)
          simp only [Act.put, List.setIfInBounds_toArray, List.set_cons_zero, List.set_cons_succ]
          refine wpAnyH_ready (rs := [5]) (by kernel_rfl) (by simp) (AllReadyH.cons rfl (callStep 5 18 rfl (by rfl) (by kernel_rfl) (rof_any T _) ?_) AllReadyH.nil)
          · rintro e w52 ⟨rfl, hb⟩
            refine ⟨_, rfl, hH48.call hb, ?_⟩
            have hH53 := hH48.call hb
            have x54 := x49.below hb x49.lt
            have x55 := x50.below hb x50.lt
            clear hb
            simp only [Act.put, List.setIfInBounds_toArray, List.set_cons_zero, List.set_cons_succ]
            have ne : ∀ g, w.heap.size + 1 < g → ∀ p ∈ [(w.heap.size + 1, T), (w.heap.size, S)], p.1 ≠ g := by intro g hg p hp; simp at hp; rcases hp with rfl | rfl <;> simp <;> omega
            have hC := hH53.row g40 (bitsA S) h0 (by omega) (ne _ (by omega))
            have b1 : BoxA (w52.setRow g40 (bitsA S)) g40 S := BoxA.rowSame (S := 0#256) x54 _
            have b2 : BoxA (w52.setRow g40 (bitsA S)) g4 0#256 := BoxA.row x55 _ (by omega)
            have hD := hC.row g4 (bitsA T) h0 (by omega) (ne _ (by omega))
            refine wpAnyH_ready (rs := [8]) (by kernel_rfl) (by simp) (AllReadyH.cons rfl (storeStep 8 g40 0#256 S rfl rfl (by rfl) rfl rfl x54 hC ?_) AllReadyH.nil)
            refine wpAnyH_ready (rs := [9]) (by kernel_rfl) (by simp) (AllReadyH.cons rfl (storeStep 9 g4 0#256 T rfl rfl (by rfl) rfl rfl b2 hD ?_) AllReadyH.nil)
            refine wpAnyH_done (by kernel_rfl) ?_ _
            go_wp2_with fail
            go_meet
            exact ⟨g40, g4, rfl, rfl, hD, BoxA.row b1 _ (by omega), BoxA.rowSame (S := 0#256) b2 _⟩
    · have x57 : BoxA (wz.alloc (.cells (bitsA 0#256) 28)) g1 0#256 := by rw [hg1]; exact BoxA.new _ _
      have lx57 : w.heap.size + 1 < g1 := by rw [hg1]; exact (hS.1 _ List.mem_cons_self).lt
      have hH56 := hS.alloc (.cells (bitsA 0#256) 28)
      simp only [Act.put, List.setIfInBounds_toArray, List.set_cons_zero, List.set_cons_succ]
      obtain ⟨g58, hg58⟩ : ∃ g58, g58 = ((wz.alloc (.cells (bitsA 0#256) 28))).heap.size := ⟨_, rfl⟩
      refine wpAnyH_ready (rs := [2, 7]) (by kernel_rfl) (by simp) (AllReadyH.cons rfl (callStep 2 15 rfl (by rfl) (by kernel_rfl) (rof_any S _) ?_) (AllReadyH.cons rfl (valStep 7 8 (.pointer (some ⟨g58, 0, none⟩)) ((wz.alloc (.cells (bitsA 0#256) 28)).alloc (.cells (bitsA 0#256) 28)) rfl (by rfl) (by rw [hg58]; kernel_rfl) (hH56.alloc _) ?_) AllReadyH.nil))
      · rintro e w59 ⟨rfl, hb⟩
        refine ⟨_, rfl, hH56.call hb, ?_⟩
        have hH60 := hH56.call hb
        have x61 := x57.below hb x57.lt
        clear hb
        simp only [Act.put, List.setIfInBounds_toArray, List.set_cons_zero, List.set_cons_succ]
        obtain ⟨g62, hg62⟩ : ∃ g62, g62 = (w59).heap.size := ⟨_, rfl⟩
        refine wpAnyH_ready (rs := [5, 7]) (by kernel_rfl) (by simp) (AllReadyH.cons rfl (callStep 5 18 rfl (by rfl) (by kernel_rfl) (rof_any T _) ?_) (AllReadyH.cons rfl (valStep 7 8 (.pointer (some ⟨g62, 0, none⟩)) (w59.alloc (.cells (bitsA 0#256) 28)) rfl (by rfl) (by rw [hg62]; kernel_rfl) (hH60.alloc _) ?_) AllReadyH.nil))
        · rintro e w63 ⟨rfl, hb⟩
          refine ⟨_, rfl, hH60.call hb, ?_⟩
          have hH64 := hH60.call hb
          have x65 := x61.below hb x61.lt
          clear hb
          simp only [Act.put, List.setIfInBounds_toArray, List.set_cons_zero, List.set_cons_succ]
          obtain ⟨g66, hg66⟩ : ∃ g66, g66 = (w63).heap.size := ⟨_, rfl⟩
          refine wpAnyH_ready (rs := [7]) (by kernel_rfl) (by simp) (AllReadyH.cons rfl (valStep 7 8 (.pointer (some ⟨g66, 0, none⟩)) (w63.alloc (.cells (bitsA 0#256) 28)) rfl (by rfl) (by rw [hg66]; kernel_rfl) (hH64.alloc _) ?_) AllReadyH.nil)
          · have x68 : BoxA (w63.alloc (.cells (bitsA 0#256) 28)) g66 0#256 := by rw [hg66]; exact BoxA.new _ _
            have lx68 : w.heap.size + 1 < g66 := by rw [hg66]; exact (hH64.1 _ List.mem_cons_self).lt
            have mx68 : g1 < g66 := by rw [hg66]; exact x65.lt
            have x69 := x65.alloc (.cells (bitsA 0#256) 28)
            have hH67 := hH64.alloc (.cells (bitsA 0#256) 28)
            simp only [Act.put, List.setIfInBounds_toArray, List.set_cons_zero, List.set_cons_succ]
            have ne : ∀ g, w.heap.size + 1 < g → ∀ p ∈ [(w.heap.size + 1, T), (w.heap.size, S)], p.1 ≠ g := by intro g hg p hp; simp at hp; rcases hp with rfl | rfl <;> simp <;> omega
            have hC := hH67.row g1 (bitsA S) h0 (by omega) (ne _ (by omega))
            have b1 : BoxA ((w63.alloc (.cells (bitsA 0#256) 28)).setRow g1 (bitsA S)) g1 S := BoxA.rowSame (S := 0#256) x69 _
            have b2 : BoxA ((w63.alloc (.cells (bitsA 0#256) 28)).setRow g1 (bitsA S)) g66 0#256 := BoxA.row x68 _ (by omega)
            have hD := hC.row g66 (bitsA T) h0 (by omega) (ne _ (by omega))
            refine wpAnyH_ready (rs := [8]) (by kernel_rfl) (by simp) (AllReadyH.cons rfl (storeStep 8 g1 0#256 S rfl rfl (by rfl) rfl rfl x69 hC ?_) AllReadyH.nil)
            refine wpAnyH_ready (rs := [9]) (by kernel_rfl) (by simp) (AllReadyH.cons rfl (storeStep 9 g66 0#256 T rfl rfl (by rfl) rfl rfl b2 hD ?_) AllReadyH.nil)
            refine wpAnyH_done (by kernel_rfl) ?_ _
            go_wp2_with fail
            go_meet
            exact ⟨g1, g66, rfl, rfl, hD, BoxA.row b1 _ (by omega), BoxA.rowSame (S := 0#256) b2 _⟩
        · have x71 : BoxA (w59.alloc (.cells (bitsA 0#256) 28)) g62 0#256 := by rw [hg62]; exact BoxA.new _ _
          have lx71 : w.heap.size + 1 < g62 := by rw [hg62]; exact (hH60.1 _ List.mem_cons_self).lt
          have mx71 : g1 < g62 := by rw [hg62]; exact x61.lt
          have x72 := x61.alloc (.cells (bitsA 0#256) 28)
          have hH70 := hH60.alloc (.cells (bitsA 0#256) 28)
          simp only [Act.put, List.setIfInBounds_toArray, List.set_cons_zero, List.set_cons_succ]
          refine wpAnyH_ready (rs := [5]) (by kernel_rfl) (by simp) (AllReadyH.cons rfl (callStep 5 18 rfl (by rfl) (by kernel_rfl) (rof_any T _) ?_) AllReadyH.nil)
          · rintro e w74 ⟨rfl, hb⟩
            refine ⟨_, rfl, hH70.call hb, ?_⟩
            have hH75 := hH70.call hb
            have x76 := x72.below hb x72.lt
            have x77 := x71.below hb x71.lt
            clear hb
            simp only [Act.put, List.setIfInBounds_toArray, List.set_cons_zero, List.set_cons_succ]
            have ne : ∀ g, w.heap.size + 1 < g → ∀ p ∈ [(w.heap.size + 1, T), (w.heap.size, S)], p.1 ≠ g := by intro g hg p hp; simp at hp; rcases hp with rfl | rfl <;> simp <;> omega
            have hC := hH75.row g1 (bitsA S) h0 (by omega) (ne _ (by omega))
            have b1 : BoxA (w74.setRow g1 (bitsA S)) g1 S := BoxA.rowSame (S := 0#256) x76 _
            have b2 : BoxA (w74.setRow g1 (bitsA S)) g62 0#256 := BoxA.row x77 _ (by omega)
            have hD := hC.row g62 (bitsA T) h0 (by omega) (ne _ (by omega))
            refine wpAnyH_ready (rs := [8]) (by kernel_rfl) (by simp) (AllReadyH.cons rfl (storeStep 8 g1 0#256 S rfl rfl (by rfl) rfl rfl x76 hC ?_) AllReadyH.nil)
            refine wpAnyH_ready (rs := [9]) (by kernel_rfl) (by simp) (AllReadyH.cons rfl (storeStep 9 g62 0#256 T rfl rfl (by rfl) rfl rfl b2 hD ?_) AllReadyH.nil)
            refine wpAnyH_done (by kernel_rfl) ?_ _
            go_wp2_with fail
            go_meet
            exact ⟨g1, g62, rfl, rfl, hD, BoxA.row b1 _ (by omega), BoxA.rowSame (S := 0#256) b2 _⟩
      · have x79 : BoxA ((wz.alloc (.cells (bitsA 0#256) 28)).alloc (.cells (bitsA 0#256) 28)) g58 0#256 := by rw [hg58]; exact BoxA.new _ _
        have lx79 : w.heap.size + 1 < g58 := by rw [hg58]; exact (hH56.1 _ List.mem_cons_self).lt
        have mx79 : g1 < g58 := by rw [hg58]; exact x57.lt
        have x80 := x57.alloc (.cells (bitsA 0#256) 28)
        have hH78 := hH56.alloc (.cells (bitsA 0#256) 28)
        simp only [Act.put, List.setIfInBounds_toArray, List.set_cons_zero, List.set_cons_succ]
        refine wpAnyH_ready (rs := [2]) (by kernel_rfl) (by simp) (AllReadyH.cons rfl (callStep 2 15 rfl (by rfl) (by kernel_rfl) (rof_any S _) ?_) AllReadyH.nil)
        · rintro e w82 ⟨rfl, hb⟩
          refine ⟨_, rfl, hH78.call hb, ?_⟩
          have hH83 := hH78.call hb
          have x84 := x80.below hb x80.lt
          have x85 := x79.below hb x79.lt
          clear hb
          simp only [Act.put, List.setIfInBounds_toArray, List.set_cons_zero, List.set_cons_succ]
          refine wpAnyH_ready (rs := [5]) (by kernel_rfl) (by simp) (AllReadyH.cons rfl (callStep 5 18 rfl (by rfl) (by kernel_rfl) (rof_any T _) ?_) AllReadyH.nil)
          · rintro e w87 ⟨rfl, hb⟩
            refine ⟨_, rfl, hH83.call hb, ?_⟩
            have hH88 := hH83.call hb
            have x89 := x84.below hb x84.lt
            have x90 := x85.below hb x85.lt
            clear hb
            simp only [Act.put, List.setIfInBounds_toArray, List.set_cons_zero, List.set_cons_succ]
            have ne : ∀ g, w.heap.size + 1 < g → ∀ p ∈ [(w.heap.size + 1, T), (w.heap.size, S)], p.1 ≠ g := by intro g hg p hp; simp at hp; rcases hp with rfl | rfl <;> simp <;> omega
            have hC := hH88.row g1 (bitsA S) h0 (by omega) (ne _ (by omega))
            have b1 : BoxA (w87.setRow g1 (bitsA S)) g1 S := BoxA.rowSame (S := 0#256) x89 _
            have b2 : BoxA (w87.setRow g1 (bitsA S)) g58 0#256 := BoxA.row x90 _ (by omega)
            have hD := hC.row g58 (bitsA T) h0 (by omega) (ne _ (by omega))
            refine wpAnyH_ready (rs := [8]) (by kernel_rfl) (by simp) (AllReadyH.cons rfl (storeStep 8 g1 0#256 S rfl rfl (by rfl) rfl rfl x89 hC ?_) AllReadyH.nil)
            refine wpAnyH_ready (rs := [9]) (by kernel_rfl) (by simp) (AllReadyH.cons rfl (storeStep 9 g58 0#256 T rfl rfl (by rfl) rfl rfl b2 hD ?_) AllReadyH.nil)
            refine wpAnyH_done (by kernel_rfl) ?_ _
            go_wp2_with fail
            go_meet
            exact ⟨g1, g58, rfl, rfl, hD, BoxA.row b1 _ (by omega), BoxA.rowSame (S := 0#256) b2 _⟩
    · have x92 : BoxA (wz.alloc (.cells (bitsA 0#256) 28)) g1 0#256 := by rw [hg1]; exact BoxA.new _ _
      have lx92 : w.heap.size + 1 < g1 := by rw [hg1]; exact (hS.1 _ List.mem_cons_self).lt
      have hH91 := hS.alloc (.cells (bitsA 0#256) 28)
      simp only [Act.put, List.setIfInBounds_toArray, List.set_cons_zero, List.set_cons_succ]
      obtain ⟨g93, hg93⟩ : ∃ g93, g93 = ((wz.alloc (.cells (bitsA 0#256) 28))).heap.size := ⟨_, rfl⟩
      refine wpAnyH_ready (rs := [2, 6]) (by kernel_rfl) (by simp) (AllReadyH.cons rfl (callStep 2 15 rfl (by rfl) (by kernel_rfl) (rof_any S _) ?_) (AllReadyH.cons rfl (valStep 6 7 (.pointer (some ⟨g93, 0, none⟩)) ((wz.alloc (.cells (bitsA 0#256) 28)).alloc (.cells (bitsA 0#256) 28)) rfl (by rfl) (by rw [hg93]; kernel_rfl) (hH91.alloc _) ?_) AllReadyH.nil))
      · rintro e w94 ⟨rfl, hb⟩
        refine ⟨_, rfl, hH91.call hb, ?_⟩
        have hH95 := hH91.call hb
        have x96 := x92.below hb x92.lt
        clear hb
        simp only [Act.put, List.setIfInBounds_toArray, List.set_cons_zero, List.set_cons_succ]
        obtain ⟨g97, hg97⟩ : ∃ g97, g97 = (w94).heap.size := ⟨_, rfl⟩
        refine wpAnyH_ready (rs := [5, 6]) (by kernel_rfl) (by simp) (AllReadyH.cons rfl (callStep 5 18 rfl (by rfl) (by kernel_rfl) (rof_any T _) ?_) (AllReadyH.cons rfl (valStep 6 7 (.pointer (some ⟨g97, 0, none⟩)) (w94.alloc (.cells (bitsA 0#256) 28)) rfl (by rfl) (by rw [hg97]; kernel_rfl) (hH95.alloc _) ?_) AllReadyH.nil))
        · rintro e w98 ⟨rfl, hb⟩
          refine ⟨_, rfl, hH95.call hb, ?_⟩
          have hH99 := hH95.call hb
          have x100 := x96.below hb x96.lt
          clear hb
          simp only [Act.put, List.setIfInBounds_toArray, List.set_cons_zero, List.set_cons_succ]
          obtain ⟨g101, hg101⟩ : ∃ g101, g101 = (w98).heap.size := ⟨_, rfl⟩
          refine wpAnyH_ready (rs := [6]) (by kernel_rfl) (by simp) (AllReadyH.cons rfl (valStep 6 7 (.pointer (some ⟨g101, 0, none⟩)) (w98.alloc (.cells (bitsA 0#256) 28)) rfl (by rfl) (by rw [hg101]; kernel_rfl) (hH99.alloc _) ?_) AllReadyH.nil)
          · have x103 : BoxA (w98.alloc (.cells (bitsA 0#256) 28)) g101 0#256 := by rw [hg101]; exact BoxA.new _ _
            have lx103 : w.heap.size + 1 < g101 := by rw [hg101]; exact (hH99.1 _ List.mem_cons_self).lt
            have mx103 : g1 < g101 := by rw [hg101]; exact x100.lt
            have x104 := x100.alloc (.cells (bitsA 0#256) 28)
            have hH102 := hH99.alloc (.cells (bitsA 0#256) 28)
            simp only [Act.put, List.setIfInBounds_toArray, List.set_cons_zero, List.set_cons_succ]
            have ne : ∀ g, w.heap.size + 1 < g → ∀ p ∈ [(w.heap.size + 1, T), (w.heap.size, S)], p.1 ≠ g := by intro g hg p hp; simp at hp; rcases hp with rfl | rfl <;> simp <;> omega
            have hC := hH102.row g101 (bitsA S) h0 (by omega) (ne _ (by omega))
            have b1 : BoxA ((w98.alloc (.cells (bitsA 0#256) 28)).setRow g101 (bitsA S)) g101 S := BoxA.rowSame (S := 0#256) x103 _
            have b2 : BoxA ((w98.alloc (.cells (bitsA 0#256) 28)).setRow g101 (bitsA S)) g1 0#256 := BoxA.row x104 _ (by omega)
            have hD := hC.row g1 (bitsA T) h0 (by omega) (ne _ (by omega))
            refine wpAnyH_ready (rs := [8]) (by kernel_rfl) (by simp) (AllReadyH.cons rfl (storeStep 8 g101 0#256 S rfl rfl (by rfl) rfl rfl x103 hC ?_) AllReadyH.nil)
            refine wpAnyH_ready (rs := [9]) (by kernel_rfl) (by simp) (AllReadyH.cons rfl (storeStep 9 g1 0#256 T rfl rfl (by rfl) rfl rfl b2 hD ?_) AllReadyH.nil)
            refine wpAnyH_done (by kernel_rfl) ?_ _
            go_wp2_with fail
            go_meet
            exact ⟨g101, g1, rfl, rfl, hD, BoxA.row b1 _ (by omega), BoxA.rowSame (S := 0#256) b2 _⟩
        · have x106 : BoxA (w94.alloc (.cells (bitsA 0#256) 28)) g97 0#256 := by rw [hg97]; exact BoxA.new _ _
          have lx106 : w.heap.size + 1 < g97 := by rw [hg97]; exact (hH95.1 _ List.mem_cons_self).lt
          have mx106 : g1 < g97 := by rw [hg97]; exact x96.lt
          have x107 := x96.alloc (.cells (bitsA 0#256) 28)
          have hH105 := hH95.alloc (.cells (bitsA 0#256) 28)
          simp only [Act.put, List.setIfInBounds_toArray, List.set_cons_zero, List.set_cons_succ]
          refine wpAnyH_ready (rs := [5]) (by kernel_rfl) (by simp) (AllReadyH.cons rfl (callStep 5 18 rfl (by rfl) (by kernel_rfl) (rof_any T _) ?_) AllReadyH.nil)
          · rintro e w109 ⟨rfl, hb⟩
            refine ⟨_, rfl, hH105.call hb, ?_⟩
            have hH110 := hH105.call hb
            have x111 := x106.below hb x106.lt
            have x112 := x107.below hb x107.lt
            clear hb
            simp only [Act.put, List.setIfInBounds_toArray, List.set_cons_zero, List.set_cons_succ]
            have ne : ∀ g, w.heap.size + 1 < g → ∀ p ∈ [(w.heap.size + 1, T), (w.heap.size, S)], p.1 ≠ g := by intro g hg p hp; simp at hp; rcases hp with rfl | rfl <;> simp <;> omega
            have hC := hH110.row g97 (bitsA S) h0 (by omega) (ne _ (by omega))
            have b1 : BoxA (w109.setRow g97 (bitsA S)) g97 S := BoxA.rowSame (S := 0#256) x111 _
            have b2 : BoxA (w109.setRow g97 (bitsA S)) g1 0#256 := BoxA.row x112 _ (by omega)
            have hD := hC.row g1 (bitsA T) h0 (by omega) (ne _ (by omega))
            refine wpAnyH_ready (rs := [8]) (by kernel_rfl) (by simp) (AllReadyH.cons rfl (storeStep 8 g97 0#256 S rfl rfl (by rfl) rfl rfl x111 hC ?_) AllReadyH.nil)
            refine wpAnyH_ready (rs := [9]) (by kernel_rfl) (by simp) (AllReadyH.cons rfl (storeStep 9 g1 0#256 T rfl rfl (by rfl) rfl rfl b2 hD ?_) AllReadyH.nil)
            refine wpAnyH_done (by kernel_rfl) ?_ _
            go_wp2_with fail
            go_meet
            exact ⟨g97, g1, rfl, rfl, hD, BoxA.row b1 _ (by omega), BoxA.rowSame (S := 0#256) b2 _⟩
      · have x114 : BoxA ((wz.alloc (.cells (bitsA 0#256) 28)).alloc (.cells (bitsA 0#256) 28)) g93 0#256 := by rw [hg93]; exact BoxA.new _ _
        have lx114 : w.heap.size + 1 < g93 := by rw [hg93]; exact (hH91.1 _ List.mem_cons_self).lt
        have mx114 : g1 < g93 := by rw [hg93]; exact x92.lt
        have x115 := x92.alloc (.cells (bitsA 0#256) 28)
        have hH113 := hH91.alloc (.cells (bitsA 0#256) 28)
        simp only [Act.put, List.setIfInBounds_toArray, List.set_cons_zero, List.set_cons_succ]
        refine wpAnyH_ready (rs := [2]) (by kernel_rfl) (by simp) (AllReadyH.cons rfl (callStep 2 15 rfl (by rfl) (by kernel_rfl) (rof_any S _) ?_) AllReadyH.nil)
        · rintro e w117 ⟨rfl, hb⟩
          refine ⟨_, rfl, hH113.call hb, ?_⟩
          have hH118 := hH113.call hb
          have x119 := x114.below hb x114.lt
          have x120 := x115.below hb x115.lt
          clear hb
          simp only [Act.put, List.setIfInBounds_toArray, List.set_cons_zero, List.set_cons_succ]
          refine wpAnyH_ready (rs := [5]) (by kernel_rfl) (by simp) (AllReadyH.cons rfl (callStep 5 18 rfl (by rfl) (by kernel_rfl) (rof_any T _) ?_) AllReadyH.nil)
          · rintro e w122 ⟨rfl, hb⟩
            refine ⟨_, rfl, hH118.call hb, ?_⟩
            have hH123 := hH118.call hb
            have x124 := x119.below hb x119.lt
            have x125 := x120.below hb x120.lt
            clear hb
            simp only [Act.put, List.setIfInBounds_toArray, List.set_cons_zero, List.set_cons_succ]
            have ne : ∀ g, w.heap.size + 1 < g → ∀ p ∈ [(w.heap.size + 1, T), (w.heap.size, S)], p.1 ≠ g := by intro g hg p hp; simp at hp; rcases hp with rfl | rfl <;> simp <;> omega
            have hC := hH123.row g93 (bitsA S) h0 (by omega) (ne _ (by omega))
            have b1 : BoxA (w122.setRow g93 (bitsA S)) g93 S := BoxA.rowSame (S := 0#256) x124 _
            have b2 : BoxA (w122.setRow g93 (bitsA S)) g1 0#256 := BoxA.row x125 _ (by omega)
            have hD := hC.row g1 (bitsA T) h0 (by omega) (ne _ (by omega))
            refine wpAnyH_ready (rs := [8]) (by kernel_rfl) (by simp) (AllReadyH.cons rfl (storeStep 8 g93 0#256 S rfl rfl (by rfl) rfl rfl x124 hC ?_) AllReadyH.nil)
            refine wpAnyH_ready (rs := [9]) (by kernel_rfl) (by simp) (AllReadyH.cons rfl (storeStep 9 g1 0#256 T rfl rfl (by rfl) rfl rfl b2 hD ?_) AllReadyH.nil)
            refine wpAnyH_done (by kernel_rfl) ?_ _
            go_wp2_with fail
            go_meet
            exact ⟨g93, g1, rfl, rfl, hD, BoxA.row b1 _ (by omega), BoxA.rowSame (S := 0#256) b2 _⟩
  case rest =>
    obtain ⟨ga, gb, rfl, rfl, hT⟩ := hcut
    clear HS h0
    obtain ⟨c0, c1, c2, c3⟩ := (hT.1.1 _ (List.mem_cons_of_mem _ List.mem_cons_self)).cells
    have H1 := Lib.hid hT
    clear hT
    go_wp2_with fail
    refine (min_yes S _ HZ.out H1.out.1.2.2).mono ?_
    rintro e x1 ⟨rfl, hb⟩
    have H2 := Lib.hid (H1.out.call hb)
    clear hb H1 c0 c1 c2 c3
    go_wp2_with (first | (refine loadA rfl _ rfl ga S rfl H2.out.2.1 ?_) | fail)
    refine (rmin_any S _).mono ?_
    rintro e x2 ⟨rfl, hb⟩
    rw [show minV S = .tuple #[.int .u8 ((minS S : Nat) : Int), .bool true] from by rw [minV, if_neg HZ.out]]
    have H3 := Lib.hid (H2.out.call hb)
    clear hb H2
    go_wp2_with fail
    have hF := H3.out.drew
    have hB := HM.out
    clear H3
    refine wp_region_held_drew (S := HeldT w S T ga gb) (by kernel_rfl) hF (fun _ => ?_)
    refine takeAt 0 29 (setV S) rfl rfl (by kernel_rfl) (by kernel_rfl) (by kernel_rfl) (fun _ _ _ h => h) (loadS_t rfl rfl (by rfl)) hF ?_
    simp only [Act.put, List.setIfInBounds_toArray, List.set_cons_zero, List.set_cons_succ]
    refine takeAt 1 30 (.int .u8 (c : Int)) rfl rfl (by kernel_rfl) (by kernel_rfl) (by kernel_rfl) (fun _ _ _ h => h) (yields (by rfl) (fun w => by kernel_rfl)) hF ?_
    simp only [Act.put, List.setIfInBounds_toArray, List.set_cons_zero, List.set_cons_succ]
    refine takeAt 3 32 (.int .u8 (c : Int)) rfl rfl (by kernel_rfl) (by kernel_rfl) (by kernel_rfl) (fun _ _ _ h => h) (yields (by rfl) (fun w => by kernel_rfl)) hF ?_
    simp only [Act.put, List.setIfInBounds_toArray, List.set_cons_zero, List.set_cons_succ]
    refine takeAt 4 33 (.pointer (some ⟨ga, 0, none⟩)) rfl rfl (by kernel_rfl) (by kernel_rfl) (by kernel_rfl) (fun _ _ _ h => h) (yields (by rfl) (fun w => by kernel_rfl)) hF ?_
    simp only [Act.put, List.setIfInBounds_toArray, List.set_cons_zero, List.set_cons_succ]
    refine takeAt 5 34 (.pointer (some ⟨ga, c, none⟩)) rfl rfl (by kernel_rfl) (by kernel_rfl) (by kernel_rfl) (fun _ _ _ h => h) (index_t ga c hc rfl rfl rfl (by rfl)) hF ?_
    simp only [Act.put, List.setIfInBounds_toArray, List.set_cons_zero, List.set_cons_succ]
    refine takeAt 6 35 (.bool true) rfl rfl (by kernel_rfl) (by kernel_rfl) (by kernel_rfl) (fun _ _ _ h => h) (cell_t c true hc hB rfl rfl (by rfl)) hF ?_
    simp only [Act.put, List.setIfInBounds_toArray, List.set_cons_zero, List.set_cons_succ]
    refine callAt 2 31 rfl rfl (by kernel_rfl) (by rfl) (by kernel_rfl) (has_k S _ c true _ rfl (by omega) hB) ?_
    rintro e w' ⟨rfl, hb⟩
    refine ⟨_, rfl, hF.call hb, ?_⟩
    have hT1 := hF.call hb
    clear hF hb
    simp only [Act.put, List.setIfInBounds_toArray, List.set_cons_zero, List.set_cons_succ]
    refine takeAt 7 36 (.bool false) rfl rfl (by kernel_rfl) (by kernel_rfl) (by kernel_rfl) (fun _ _ _ h => h) (yields (by rfl) (fun w => by kernel_rfl)) hT1 ?_
    simp only [Act.put, List.setIfInBounds_toArray, List.set_cons_zero, List.set_cons_succ]
    refine takeAt 8 37 (.bool false) rfl rfl (by kernel_rfl) (by kernel_rfl) (by kernel_rfl) (fun _ _ _ h => h) (yields (by rfl) (fun w => by kernel_rfl)) hT1 ?_
    simp only [Act.put, List.setIfInBounds_toArray, List.set_cons_zero, List.set_cons_succ]
    refine takeAt 9 38 (setV S) rfl rfl (by kernel_rfl) (by kernel_rfl) (by kernel_rfl) (fun _ _ _ h => h) (loadS_t rfl rfl (by rfl)) hT1 ?_
    simp only [Act.put, List.setIfInBounds_toArray, List.set_cons_zero, List.set_cons_succ]
    refine takeAt 11 40 (.agg (bitsA S)) rfl rfl (by kernel_rfl) (by kernel_rfl) (by kernel_rfl) (fun _ _ _ h => h) (loadA_t rfl rfl (by rfl)) hT1 ?_
    simp only [Act.put, List.setIfInBounds_toArray, List.set_cons_zero, List.set_cons_succ]
    refine callAt 10 39 rfl rfl (by kernel_rfl) (by rfl) (by kernel_rfl) (len_any S _) ?_
    rintro e w' ⟨rfl, hb⟩
    refine ⟨_, rfl, hT1.call hb, ?_⟩
    have hT2 := hT1.call hb
    clear hT1 hb
    simp only [Act.put, List.setIfInBounds_toArray, List.set_cons_zero, List.set_cons_succ]
    refine callAt 12 41 rfl rfl (by kernel_rfl) (by rfl) (by kernel_rfl) (rlen_any S _) ?_
    rintro e w' ⟨rfl, hb⟩
    refine ⟨_, rfl, hT2.call hb, ?_⟩
    have hT3 := hT2.call hb
    clear hT2 hb
    simp only [Act.put, List.setIfInBounds_toArray, List.set_cons_zero, List.set_cons_succ]
    refine takeAt 13 42 (.bool false) rfl rfl (by kernel_rfl) (by kernel_rfl) (by kernel_rfl) (fun _ _ _ h => h) (neq64_y false rfl rfl rfl (by simp) (by rfl)) hT3 ?_
    simp only [Act.put, List.setIfInBounds_toArray, List.set_cons_zero, List.set_cons_succ]
    refine takeAt 14 43 (.bool false) rfl rfl (by kernel_rfl) (by kernel_rfl) (by kernel_rfl) (fun _ _ _ h => h) (yields (by rfl) (fun w => by kernel_rfl)) hT3 ?_
    simp only [Act.put, List.setIfInBounds_toArray, List.set_cons_zero, List.set_cons_succ]
    refine takeAt 15 44 (.bool false) rfl rfl (by kernel_rfl) (by kernel_rfl) (by kernel_rfl) (fun _ _ _ h => h) (yields (by rfl) (fun w => by kernel_rfl)) hT3 ?_
    simp only [Act.put, List.setIfInBounds_toArray, List.set_cons_zero, List.set_cons_succ]
    refine takeAt 16 45 (.int .u8 (minS S : Int)) rfl rfl (by kernel_rfl) (by kernel_rfl) (by kernel_rfl) (fun _ _ _ h => h) (yields (by rfl) (fun w => by kernel_rfl)) hT3 ?_
    simp only [Act.put, List.setIfInBounds_toArray, List.set_cons_zero, List.set_cons_succ]
    refine takeAt 17 46 (.int .u8 (minS S : Int)) rfl rfl (by kernel_rfl) (by kernel_rfl) (by kernel_rfl) (fun _ _ _ h => h) (yields (by rfl) (fun w => by kernel_rfl)) hT3 ?_
    simp only [Act.put, List.setIfInBounds_toArray, List.set_cons_zero, List.set_cons_succ]
    refine takeAt 18 47 (.bool false) rfl rfl (by kernel_rfl) (by kernel_rfl) (by kernel_rfl) (fun _ _ _ h => h) (neq8_y false rfl rfl rfl (by simp) (by rfl)) hT3 ?_
    simp only [Act.put, List.setIfInBounds_toArray, List.set_cons_zero, List.set_cons_succ]
    refine takeAt 19 48 (.bool false) rfl rfl (by kernel_rfl) (by kernel_rfl) (by kernel_rfl) (fun _ _ _ h => h) (yields (by rfl) (fun w => by kernel_rfl)) hT3 ?_
    simp only [Act.put, List.setIfInBounds_toArray, List.set_cons_zero, List.set_cons_succ]
    refine takeAt 20 49 (.bool false) rfl rfl (by kernel_rfl) (by kernel_rfl) (by kernel_rfl) (fun _ _ _ h => h) (yields (by rfl) (fun w => by kernel_rfl)) hT3 ?_
    simp only [Act.put, List.setIfInBounds_toArray, List.set_cons_zero, List.set_cons_succ]
    refine takeAt 21 50 (.bool true) rfl rfl (by kernel_rfl) (by kernel_rfl) (by kernel_rfl) (fun _ _ _ h => h) (yields (by rfl) (fun w => by kernel_rfl)) hT3 ?_
    simp only [Act.put, List.setIfInBounds_toArray, List.set_cons_zero, List.set_cons_succ]
    refine takeAt 22 51 (.bool true) rfl rfl (by kernel_rfl) (by kernel_rfl) (by kernel_rfl) (fun _ _ _ h => h) (yields (by rfl) (fun w => by kernel_rfl)) hT3 ?_
    simp only [Act.put, List.setIfInBounds_toArray, List.set_cons_zero, List.set_cons_succ]
    refine takeAt 23 52 (.bool false) rfl rfl (by kernel_rfl) (by kernel_rfl) (by kernel_rfl) (fun _ _ _ h => h) (yields (by rfl) (fun w => by kernel_rfl)) hT3 ?_
    simp only [Act.put, List.setIfInBounds_toArray, List.set_cons_zero, List.set_cons_succ]
    refine takeAt 24 53 (.bool false) rfl rfl (by kernel_rfl) (by kernel_rfl) (by kernel_rfl) (fun _ _ _ h => h) (yields (by rfl) (fun w => by kernel_rfl)) hT3 ?_
    simp only [Act.put, List.setIfInBounds_toArray, List.set_cons_zero, List.set_cons_succ]
    refine takeAt 25 54 (.bool false) rfl rfl (by kernel_rfl) (by kernel_rfl) (by kernel_rfl) (fun _ _ _ h => h) (yields (by rfl) (fun w => by kernel_rfl)) hT3 ?_
    simp only [Act.put, List.setIfInBounds_toArray, List.set_cons_zero, List.set_cons_succ]
    refine takeAt 26 55 (setV S) rfl rfl (by kernel_rfl) (by kernel_rfl) (by kernel_rfl) (fun _ _ _ h => h) (loadS_t rfl rfl (by rfl)) hT3 ?_
    simp only [Act.put, List.setIfInBounds_toArray, List.set_cons_zero, List.set_cons_succ]
    refine takeAt 28 57 (.agg (bitsA S)) rfl rfl (by kernel_rfl) (by kernel_rfl) (by kernel_rfl) (fun _ _ _ h => h) (loadA_t rfl rfl (by rfl)) hT3 ?_
    simp only [Act.put, List.setIfInBounds_toArray, List.set_cons_zero, List.set_cons_succ]
    refine callAt 27 56 rfl rfl (by kernel_rfl) (by rfl) (by kernel_rfl) (ranges_any S _) ?_
    rintro e w' ⟨v1, rfl, hr1, hb⟩
    refine ⟨_, rfl, hT3.call hb, ?_⟩
    have hT4 := hT3.call hb
    clear hT3 hb
    simp only [Act.put, List.setIfInBounds_toArray, List.set_cons_zero, List.set_cons_succ]
    refine callAt 29 58 rfl rfl (by kernel_rfl) (by rfl) (by kernel_rfl) (rranges_any S _) ?_
    rintro e w' ⟨v2, rfl, hr2, hb⟩
    have hr3 := hr1.call hb
    refine ⟨_, rfl, hT4.call hb, ?_⟩
    have hT5 := hT4.call hb
    clear hT4 hb
    simp only [Act.put, List.setIfInBounds_toArray, List.set_cons_zero, List.set_cons_succ]
    refine callAt 30 59 rfl rfl (by kernel_rfl) (by rfl) (by kernel_rfl) (runs_same _ _ _ S hr3 hr2) ?_
    rintro e w' ⟨rfl, hb⟩
    refine ⟨_, rfl, hT5.call hb, ?_⟩
    have hT6 := hT5.call hb
    clear hT5 hb
    simp only [Act.put, List.setIfInBounds_toArray, List.set_cons_zero, List.set_cons_succ]
    refine takeAt 31 60 (.bool false) rfl rfl (by kernel_rfl) (by kernel_rfl) (by kernel_rfl) (fun _ _ _ h => h) (yields (by rfl) (fun w => by kernel_rfl)) hT6 ?_
    simp only [Act.put, List.setIfInBounds_toArray, List.set_cons_zero, List.set_cons_succ]
    refine takeAt 32 61 (.bool false) rfl rfl (by kernel_rfl) (by kernel_rfl) (by kernel_rfl) (fun _ _ _ h => h) (yields (by rfl) (fun w => by kernel_rfl)) hT6 ?_
    simp only [Act.put, List.setIfInBounds_toArray, List.set_cons_zero, List.set_cons_succ]
    refine wpAnyH_done (by kernel_rfl) ?_ _
    clear hB
    have H4 := Lib.hid (HeldT.drew hT6)
    clear hT6
    go_wp2_with fail
    have hG := H4.out
    clear H4
    refine wp_region_held_drew (S := HeldT w S T ga gb) (by kernel_rfl) hG (fun _ => ?_)
    refine takeAt 0 62 (setV S) rfl rfl (by kernel_rfl) (by kernel_rfl) (by kernel_rfl) (fun _ _ _ h => h) (loadS_t rfl rfl (by rfl)) hG ?_
    simp only [Act.put, List.setIfInBounds_toArray, List.set_cons_zero, List.set_cons_succ]
    refine takeAt 1 63 (setV T) rfl rfl (by kernel_rfl) (by kernel_rfl) (by kernel_rfl) (fun _ _ _ h => h) (loadT_t rfl rfl (by rfl)) hG ?_
    simp only [Act.put, List.setIfInBounds_toArray, List.set_cons_zero, List.set_cons_succ]
    refine takeAt 4 66 (.agg (bitsA S)) rfl rfl (by kernel_rfl) (by kernel_rfl) (by kernel_rfl) (fun _ _ _ h => h) (loadA_t rfl rfl (by rfl)) hG ?_
    simp only [Act.put, List.setIfInBounds_toArray, List.set_cons_zero, List.set_cons_succ]
    refine takeAt 5 67 (.agg (bitsA T)) rfl rfl (by kernel_rfl) (by kernel_rfl) (by kernel_rfl) (fun _ _ _ h => h) (loadB_t rfl rfl (by rfl)) hG ?_
    simp only [Act.put, List.setIfInBounds_toArray, List.set_cons_zero, List.set_cons_succ]
    refine callAt 2 64 rfl rfl (by kernel_rfl) (by rfl) (by kernel_rfl) (or_k S T _) ?_
    rintro e w' ⟨rfl, hb⟩
    refine ⟨_, rfl, hG.call hb, ?_⟩
    have hT1 := hG.call hb
    clear hG hb
    simp only [Act.put, List.setIfInBounds_toArray, List.set_cons_zero, List.set_cons_succ]
    refine takeAt 3 65 (setV (orS S T)) rfl rfl (by kernel_rfl) (by kernel_rfl) (by kernel_rfl) (fun _ _ _ h => h) (yields (by rfl) (fun w => by kernel_rfl)) hT1 ?_
    simp only [Act.put, List.setIfInBounds_toArray, List.set_cons_zero, List.set_cons_succ]
    refine callAt 6 68 rfl rfl (by kernel_rfl) (by rfl) (by kernel_rfl) (ror_k S T _) ?_
    rintro e w' ⟨rfl, hb⟩
    refine ⟨_, rfl, hT1.call hb, ?_⟩
    have hT2 := hT1.call hb
    clear hT1 hb
    simp only [Act.put, List.setIfInBounds_toArray, List.set_cons_zero, List.set_cons_succ]
    refine callAt 7 69 rfl rfl (by kernel_rfl) (by rfl) (by kernel_rfl) (rwords_any (orS S T) _) ?_
    rintro e w' ⟨rfl, hb⟩
    refine ⟨_, rfl, hT2.call hb, ?_⟩
    have hT3 := hT2.call hb
    clear hT2 hb
    simp only [Act.put, List.setIfInBounds_toArray, List.set_cons_zero, List.set_cons_succ]
    refine takeAt 8 70 (.bool true) rfl rfl (by kernel_rfl) (by kernel_rfl) (by kernel_rfl) (fun _ _ _ h => h) (eqW_y (orS S T) rfl rfl rfl (by rfl)) hT3 ?_
    simp only [Act.put, List.setIfInBounds_toArray, List.set_cons_zero, List.set_cons_succ]
    refine takeAt 9 71 (.bool true) rfl rfl (by kernel_rfl) (by kernel_rfl) (by kernel_rfl) (fun _ _ _ h => h) (yields (by rfl) (fun w => by kernel_rfl)) hT3 ?_
    simp only [Act.put, List.setIfInBounds_toArray, List.set_cons_zero, List.set_cons_succ]
    refine takeAt 10 72 (setV S) rfl rfl (by kernel_rfl) (by kernel_rfl) (by kernel_rfl) (fun _ _ _ h => h) (loadS_t rfl rfl (by rfl)) hT3 ?_
    simp only [Act.put, List.setIfInBounds_toArray, List.set_cons_zero, List.set_cons_succ]
    refine takeAt 11 73 (setV T) rfl rfl (by kernel_rfl) (by kernel_rfl) (by kernel_rfl) (fun _ _ _ h => h) (loadT_t rfl rfl (by rfl)) hT3 ?_
    simp only [Act.put, List.setIfInBounds_toArray, List.set_cons_zero, List.set_cons_succ]
    refine takeAt 14 76 (.agg (bitsA S)) rfl rfl (by kernel_rfl) (by kernel_rfl) (by kernel_rfl) (fun _ _ _ h => h) (loadA_t rfl rfl (by rfl)) hT3 ?_
    simp only [Act.put, List.setIfInBounds_toArray, List.set_cons_zero, List.set_cons_succ]
    refine takeAt 15 77 (.agg (bitsA T)) rfl rfl (by kernel_rfl) (by kernel_rfl) (by kernel_rfl) (fun _ _ _ h => h) (loadB_t rfl rfl (by rfl)) hT3 ?_
    simp only [Act.put, List.setIfInBounds_toArray, List.set_cons_zero, List.set_cons_succ]
    as_aux_lemma =>
      refine callAt 12 74 rfl rfl (by kernel_rfl) (by rfl) (by kernel_rfl) (and_k S T _) ?_
      rintro e w' ⟨rfl, hb⟩
      refine ⟨_, rfl, hT3.call hb, ?_⟩
      have hT4 := hT3.call hb
      clear hT3 hb
      simp only [Act.put, List.setIfInBounds_toArray, List.set_cons_zero, List.set_cons_succ]
      refine takeAt 13 75 (setV (andS S T)) rfl rfl (by kernel_rfl) (by kernel_rfl) (by kernel_rfl) (fun _ _ _ h => h) (yields (by rfl) (fun w => by kernel_rfl)) hT4 ?_
      simp only [Act.put, List.setIfInBounds_toArray, List.set_cons_zero, List.set_cons_succ]
      refine callAt 16 78 rfl rfl (by kernel_rfl) (by rfl) (by kernel_rfl) (rand_k S T _) ?_
      rintro e w' ⟨rfl, hb⟩
      refine ⟨_, rfl, hT4.call hb, ?_⟩
      have hT5 := hT4.call hb
      clear hT4 hb
      simp only [Act.put, List.setIfInBounds_toArray, List.set_cons_zero, List.set_cons_succ]
      refine callAt 17 79 rfl rfl (by kernel_rfl) (by rfl) (by kernel_rfl) (rwords_any (andS S T) _) ?_
      rintro e w' ⟨rfl, hb⟩
      refine ⟨_, rfl, hT5.call hb, ?_⟩
      have hT6 := hT5.call hb
      clear hT5 hb
      simp only [Act.put, List.setIfInBounds_toArray, List.set_cons_zero, List.set_cons_succ]
      refine takeAt 18 80 (.bool true) rfl rfl (by kernel_rfl) (by kernel_rfl) (by kernel_rfl) (fun _ _ _ h => h) (eqW_y (andS S T) rfl rfl rfl (by rfl)) hT6 ?_
      simp only [Act.put, List.setIfInBounds_toArray, List.set_cons_zero, List.set_cons_succ]
      refine takeAt 19 81 (.bool true) rfl rfl (by kernel_rfl) (by kernel_rfl) (by kernel_rfl) (fun _ _ _ h => h) (yields (by rfl) (fun w => by kernel_rfl)) hT6 ?_
      simp only [Act.put, List.setIfInBounds_toArray, List.set_cons_zero, List.set_cons_succ]
      refine takeAt 20 82 (.bool true) rfl rfl (by kernel_rfl) (by kernel_rfl) (by kernel_rfl) (fun _ _ _ h => h) (yields (by rfl) (fun w => by kernel_rfl)) hT6 ?_
      simp only [Act.put, List.setIfInBounds_toArray, List.set_cons_zero, List.set_cons_succ]
      refine takeAt 21 83 (setV S) rfl rfl (by kernel_rfl) (by kernel_rfl) (by kernel_rfl) (fun _ _ _ h => h) (loadS_t rfl rfl (by rfl)) hT6 ?_
      simp only [Act.put, List.setIfInBounds_toArray, List.set_cons_zero, List.set_cons_succ]
      refine takeAt 24 86 (.agg (bitsA S)) rfl rfl (by kernel_rfl) (by kernel_rfl) (by kernel_rfl) (fun _ _ _ h => h) (loadA_t rfl rfl (by rfl)) hT6 ?_
      simp only [Act.put, List.setIfInBounds_toArray, List.set_cons_zero, List.set_cons_succ]
      refine callAt 22 84 rfl rfl (by kernel_rfl) (by rfl) (by kernel_rfl) (not_k S _) ?_
      rintro e w' ⟨rfl, hb⟩
      refine ⟨_, rfl, hT6.call hb, ?_⟩
      have hT7 := hT6.call hb
      clear hT6 hb
      simp only [Act.put, List.setIfInBounds_toArray, List.set_cons_zero, List.set_cons_succ]
      refine takeAt 23 85 (setV (notS S)) rfl rfl (by kernel_rfl) (by kernel_rfl) (by kernel_rfl) (fun _ _ _ h => h) (yields (by rfl) (fun w => by kernel_rfl)) hT7 ?_
      simp only [Act.put, List.setIfInBounds_toArray, List.set_cons_zero, List.set_cons_succ]
      refine callAt 25 87 rfl rfl (by kernel_rfl) (by rfl) (by kernel_rfl) (rnot_k S _) ?_
      rintro e w' ⟨rfl, hb⟩
      refine ⟨_, rfl, hT7.call hb, ?_⟩
      have hT8 := hT7.call hb
      clear hT7 hb
      simp only [Act.put, List.setIfInBounds_toArray, List.set_cons_zero, List.set_cons_succ]
      refine callAt 26 88 rfl rfl (by kernel_rfl) (by rfl) (by kernel_rfl) (rwords_any (notS S) _) ?_
      rintro e w' ⟨rfl, hb⟩
      refine ⟨_, rfl, hT8.call hb, ?_⟩
      have hT9 := hT8.call hb
      clear hT8 hb
      simp only [Act.put, List.setIfInBounds_toArray, List.set_cons_zero, List.set_cons_succ]
      refine takeAt 27 89 (.bool true) rfl rfl (by kernel_rfl) (by kernel_rfl) (by kernel_rfl) (fun _ _ _ h => h) (eqW_y (notS S) rfl rfl rfl (by rfl)) hT9 ?_
      simp only [Act.put, List.setIfInBounds_toArray, List.set_cons_zero, List.set_cons_succ]
      as_aux_lemma =>
        refine takeAt 28 90 (.bool true) rfl rfl (by kernel_rfl) (by kernel_rfl) (by kernel_rfl) (fun _ _ _ h => h) (yields (by rfl) (fun w => by kernel_rfl)) hT9 ?_
        simp only [Act.put, List.setIfInBounds_toArray, List.set_cons_zero, List.set_cons_succ]
        refine takeAt 29 91 (.bool true) rfl rfl (by kernel_rfl) (by kernel_rfl) (by kernel_rfl) (fun _ _ _ h => h) (yields (by rfl) (fun w => by kernel_rfl)) hT9 ?_
        simp only [Act.put, List.setIfInBounds_toArray, List.set_cons_zero, List.set_cons_succ]
        refine takeAt 30 92 (setV S) rfl rfl (by kernel_rfl) (by kernel_rfl) (by kernel_rfl) (fun _ _ _ h => h) (loadS_t rfl rfl (by rfl)) hT9 ?_
        simp only [Act.put, List.setIfInBounds_toArray, List.set_cons_zero, List.set_cons_succ]
        refine takeAt 33 95 (.agg (bitsA S)) rfl rfl (by kernel_rfl) (by kernel_rfl) (by kernel_rfl) (fun _ _ _ h => h) (loadA_t rfl rfl (by rfl)) hT9 ?_
        simp only [Act.put, List.setIfInBounds_toArray, List.set_cons_zero, List.set_cons_succ]
        refine callAt 31 93 rfl rfl (by kernel_rfl) (by rfl) (by kernel_rfl) (fold_any S _) ?_
        rintro e w' ⟨rfl, hb⟩
        refine ⟨_, rfl, hT9.call hb, ?_⟩
        have hT10 := hT9.call hb
        clear hT9 hb
        simp only [Act.put, List.setIfInBounds_toArray, List.set_cons_zero, List.set_cons_succ]
        refine takeAt 32 94 (setV (foldS S)) rfl rfl (by kernel_rfl) (by kernel_rfl) (by kernel_rfl) (fun _ _ _ h => h) (yields (by rfl) (fun w => by kernel_rfl)) hT10 ?_
        simp only [Act.put, List.setIfInBounds_toArray, List.set_cons_zero, List.set_cons_succ]
        refine callAt 34 96 rfl rfl (by kernel_rfl) (by rfl) (by kernel_rfl) (rfold_any S _) ?_
        rintro e w' ⟨rfl, hb⟩
        refine ⟨_, rfl, hT10.call hb, ?_⟩
        have hT11 := hT10.call hb
        clear hT10 hb
        simp only [Act.put, List.setIfInBounds_toArray, List.set_cons_zero, List.set_cons_succ]
        refine callAt 35 97 rfl rfl (by kernel_rfl) (by rfl) (by kernel_rfl) (rwords_any (foldS S) _) ?_
        rintro e w' ⟨rfl, hb⟩
        refine ⟨_, rfl, hT11.call hb, ?_⟩
        have hT12 := hT11.call hb
        clear hT11 hb
        simp only [Act.put, List.setIfInBounds_toArray, List.set_cons_zero, List.set_cons_succ]
        refine takeAt 36 98 (.bool true) rfl rfl (by kernel_rfl) (by kernel_rfl) (by kernel_rfl) (fun _ _ _ h => h) (eqW_y (foldS S) rfl rfl rfl (by rfl)) hT12 ?_
        simp only [Act.put, List.setIfInBounds_toArray, List.set_cons_zero, List.set_cons_succ]
        refine takeAt 37 99 (.bool true) rfl rfl (by kernel_rfl) (by kernel_rfl) (by kernel_rfl) (fun _ _ _ h => h) (yields (by rfl) (fun w => by kernel_rfl)) hT12 ?_
        simp only [Act.put, List.setIfInBounds_toArray, List.set_cons_zero, List.set_cons_succ]
        refine takeAt 38 100 (.bool true) rfl rfl (by kernel_rfl) (by kernel_rfl) (by kernel_rfl) (fun _ _ _ h => h) (yields (by rfl) (fun w => by kernel_rfl)) hT12 ?_
        simp only [Act.put, List.setIfInBounds_toArray, List.set_cons_zero, List.set_cons_succ]
        refine callAt 39 101 rfl rfl (by kernel_rfl) (by rfl) (by kernel_rfl) (hT12.fix HF.out) ?_
        rintro e w' ⟨rfl, hb⟩
        refine ⟨_, rfl, hT12.call hb, ?_⟩
        have hT13 := hT12.call hb
        clear hT12 hb
        simp only [Act.put, List.setIfInBounds_toArray, List.set_cons_zero, List.set_cons_succ]
        refine takeAt 40 102 (.bool true) rfl rfl (by kernel_rfl) (by kernel_rfl) (by kernel_rfl) (fun _ _ _ h => h) (yields (by rfl) (fun w => by kernel_rfl)) hT13 ?_
        simp only [Act.put, List.setIfInBounds_toArray, List.set_cons_zero, List.set_cons_succ]
        refine takeAt 41 6 (.bool true) rfl rfl (by kernel_rfl) (by kernel_rfl) (by kernel_rfl) (fun _ _ _ h => h) (yields (by rfl) (fun w => by kernel_rfl)) hT13 ?_
        simp only [Act.put, List.setIfInBounds_toArray, List.set_cons_zero, List.set_cons_succ]
        as_aux_lemma =>
          refine wpAnyH_done (by kernel_rfl) ?_ _
          go_wp2
          go_ret
          exact ⟨rfl, hT13.1.2.1⟩

set_option maxHeartbeats 8000000 in
set_option maxRecDepth 100000 in
theorem classTells_Pfalse (hfix : FixedOk) (S T : BitVec 256) (c : Nat) (w : World) (ht : TabOk w) (hc : c < 256) (hz : S ≠ 0#256) (hB : mem S c = false) :
    Calls Tryd.prog 3 #[setV S, setV T, .int .u8 (c : Int)] w fun e w' => e = .returned (.bool true) ∧ Below w.heap.size w w' := by
  have HF := Lib.hid hfix
  have h0 := ht.lt
  have HM := Lib.hid hB
  have HZ := Lib.hid hz
  have hS := (((Held.start ht).new S).new T).drew
  rw [World.size_alloc] at hS
  have HS := Lib.hid hS
  clear hfix ht hB hz hS
  go_enter Tryd.func3, Tryd.ntmps3
  go_upto_region 1 with fail
  go_cut [7, 8] (fun u v wx => ∃ ga gb : Nat, u = .pointer (some ⟨ga, 0, none⟩) ∧ v = .pointer (some ⟨gb, 0, none⟩) ∧ HeldT w S T ga gb wx)
  case first =>
    have hS := HS.out
    clear HS
    refine wp_region_held_drew (S := Held w [(w.heap.size + 1, T), (w.heap.size, S)]) (by kernel_rfl) hS (fun _ => ?_)
    refine takeAt 0 13 (.pointer (some ⟨w.heap.size, 0, none⟩)) rfl rfl (by kernel_rfl) (by kernel_rfl) (by kernel_rfl) (fun _ _ _ h => h) (yields (by rfl) (fun w => by kernel_rfl)) hS ?_
    simp only [Act.put, List.setIfInBounds_toArray, List.set_cons_zero, List.set_cons_succ]
    refine takeAt 1 14 (setV S) rfl rfl (by kernel_rfl) (by kernel_rfl) (by kernel_rfl) (fun _ _ _ h => h) (load23_y rfl rfl (List.mem_cons_of_mem _ List.mem_cons_self) (by rfl)) hS ?_
    simp only [Act.put, List.setIfInBounds_toArray, List.set_cons_zero, List.set_cons_succ]
    refine takeAt 3 16 (.pointer (some ⟨w.heap.size + 1, 0, none⟩)) rfl rfl (by kernel_rfl) (by kernel_rfl) (by kernel_rfl) (fun _ _ _ h => h) (yields (by rfl) (fun w => by kernel_rfl)) hS ?_
    simp only [Act.put, List.setIfInBounds_toArray, List.set_cons_zero, List.set_cons_succ]
    refine takeAt 4 17 (setV T) rfl rfl (by kernel_rfl) (by kernel_rfl) (by kernel_rfl) (fun _ _ _ h => h) (load23_y rfl rfl List.mem_cons_self (by rfl)) hS ?_
    simp only [Act.put, List.setIfInBounds_toArray, List.set_cons_zero, List.set_cons_succ]
    obtain ⟨wz, hwz⟩ : ∃ wz, wz = ((w.alloc (.cells #[.int .u64 (W S 0), .int .u64 (W S 1), .int .u64 (W S 2), .int .u64 (W S 3)] 25)).alloc (.cells #[.int .u64 (W T 0), .int .u64 (W T 1), .int .u64 (W T 2), .int .u64 (W T 3)] 25)).drew := ⟨_, rfl⟩
    rw [← hwz] at hS ⊢
    clear hwz
    obtain ⟨g1, hg1⟩ : ∃ g1, g1 = (wz).heap.size := ⟨_, rfl⟩
    refine wpAnyH_ready (rs := [2, 6, 7]) (by kernel_rfl) (by simp) (AllReadyH.cons rfl (callStep 2 15 rfl (by rfl) (by kernel_rfl) (rof_any S _) ?_) (AllReadyH.cons rfl (valStep 6 7 (.pointer (some ⟨g1, 0, none⟩)) (wz.alloc (.cells (bitsA 0#256) 28)) rfl (by rfl) (by rw [hg1]; kernel_rfl) (hS.alloc _) ?_) (AllReadyH.cons rfl (valStep 7 8 (.pointer (some ⟨g1, 0, none⟩)) (wz.alloc (.cells (bitsA 0#256) 28)) rfl (by rfl) (by rw [hg1]; kernel_rfl) (hS.alloc _) ?_) AllReadyH.nil)))
    · rintro e w2 ⟨rfl, hb⟩
      refine ⟨_, rfl, hS.call hb, ?_⟩
      have hH3 := hS.call hb
      clear hb
      simp only [Act.put, List.setIfInBounds_toArray, List.set_cons_zero, List.set_cons_succ]
      obtain ⟨g4, hg4⟩ : ∃ g4, g4 = (w2).heap.size := ⟨_, rfl⟩
      refine wpAnyH_ready (rs := [5, 6, 7]) (by kernel_rfl) (by simp) (AllReadyH.cons rfl (callStep 5 18 rfl (by rfl) (by kernel_rfl) (rof_any T _) ?_) (AllReadyH.cons rfl (valStep 6 7 (.pointer (some ⟨g4, 0, none⟩)) (w2.alloc (.cells (bitsA 0#256) 28)) rfl (by rfl) (by rw [hg4]; kernel_rfl) (hH3.alloc _) ?_) (AllReadyH.cons rfl (valStep 7 8 (.pointer (some ⟨g4, 0, none⟩)) (w2.alloc (.cells (bitsA 0#256) 28)) rfl (by rfl) (by rw [hg4]; kernel_rfl) (hH3.alloc _) ?_) AllReadyH.nil)))
      · rintro e w5 ⟨rfl, hb⟩
        refine ⟨_, rfl, hH3.call hb, ?_⟩
        have hH6 := hH3.call hb
        clear hb
        simp only [Act.put, List.setIfInBounds_toArray, List.set_cons_zero, List.set_cons_succ]
        obtain ⟨g7, hg7⟩ : ∃ g7, g7 = (w5).heap.size := ⟨_, rfl⟩
        refine wpAnyH_ready (rs := [6, 7]) (by kernel_rfl) (by simp) (AllReadyH.cons rfl (valStep 6 7 (.pointer (some ⟨g7, 0, none⟩)) (w5.alloc (.cells (bitsA 0#256) 28)) rfl (by rfl) (by rw [hg7]; kernel_rfl) (hH6.alloc _) ?_) (AllReadyH.cons rfl (valStep 7 8 (.pointer (some ⟨g7, 0, none⟩)) (w5.alloc (.cells (bitsA 0#256) 28)) rfl (by rfl) (by rw [hg7]; kernel_rfl) (hH6.alloc _) ?_) AllReadyH.nil))
        · have x9 : BoxA (w5.alloc (.cells (bitsA 0#256) 28)) g7 0#256 := by rw [hg7]; exact BoxA.new _ _
          have lx9 : w.heap.size + 1 < g7 := by rw [hg7]; exact (hH6.1 _ List.mem_cons_self).lt
          have hH8 := hH6.alloc (.cells (bitsA 0#256) 28)
          simp only [Act.put, List.setIfInBounds_toArray, List.set_cons_zero, List.set_cons_succ]
          obtain ⟨g10, hg10⟩ : ∃ g10, g10 = ((w5.alloc (.cells (bitsA 0#256) 28))).heap.size := ⟨_, rfl⟩
          refine wpAnyH_ready (rs := [7]) (by kernel_rfl) (by simp) (AllReadyH.cons rfl (valStep 7 8 (.pointer (some ⟨g10, 0, none⟩)) ((w5.alloc (.cells (bitsA 0#256) 28)).alloc (.cells (bitsA 0#256) 28)) rfl (by rfl) (by rw [hg10]; kernel_rfl) (hH8.alloc _) ?_) AllReadyH.nil)
          · have x12 : BoxA ((w5.alloc (.cells (bitsA 0#256) 28)).alloc (.cells (bitsA 0#256) 28)) g10 0#256 := by rw [hg10]; exact BoxA.new _ _
            have lx12 : w.heap.size + 1 < g10 := by rw [hg10]; exact (hH8.1 _ List.mem_cons_self).lt
            have mx12 : g7 < g10 := by rw [hg10]; exact x9.lt
            have x13 := x9.alloc (.cells (bitsA 0#256) 28)
            have hH11 := hH8.alloc (.cells (bitsA 0#256) 28)
            simp only [Act.put, List.setIfInBounds_toArray, List.set_cons_zero, List.set_cons_succ]
            have ne : ∀ g, w.heap.size + 1 < g → ∀ p ∈ [(w.heap.size + 1, T), (w.heap.size, S)], p.1 ≠ g := by intro g hg p hp; simp at hp; rcases hp with rfl | rfl <;> simp <;> omega
            have hC := hH11.row g7 (bitsA S) h0 (by omega) (ne _ (by omega))
            have b1 : BoxA (((w5.alloc (.cells (bitsA 0#256) 28)).alloc (.cells (bitsA 0#256) 28)).setRow g7 (bitsA S)) g7 S := BoxA.rowSame (S := 0#256) x13 _
            have b2 : BoxA (((w5.alloc (.cells (bitsA 0#256) 28)).alloc (.cells (bitsA 0#256) 28)).setRow g7 (bitsA S)) g10 0#256 := BoxA.row x12 _ (by omega)
            have hD := hC.row g10 (bitsA T) h0 (by omega) (ne _ (by omega))
            refine wpAnyH_ready (rs := [8]) (by kernel_rfl) (by simp) (AllReadyH.cons rfl (storeStep 8 g7 0#256 S rfl rfl (by rfl) rfl rfl x13 hC ?_) AllReadyH.nil)
            refine wpAnyH_ready (rs := [9]) (by kernel_rfl) (by simp) (AllReadyH.cons rfl (storeStep 9 g10 0#256 T rfl rfl (by rfl) rfl rfl b2 hD ?_) AllReadyH.nil)
            refine wpAnyH_done (by kernel_rfl) ?_ _
            go_wp2_with fail
            go_meet
            exact ⟨g7, g10, rfl, rfl, hD, BoxA.row b1 _ (by omega), BoxA.rowSame (S := 0#256) b2 _⟩
        · have x15 : BoxA (w5.alloc (.cells (bitsA 0#256) 28)) g7 0#256 := by rw [hg7]; exact BoxA.new _ _
          have lx15 : w.heap.size + 1 < g7 := by rw [hg7]; exact (hH6.1 _ List.mem_cons_self).lt
          have hH14 := hH6.alloc (.cells (bitsA 0#256) 28)
          simp only [Act.put, List.setIfInBounds_toArray, List.set_cons_zero, List.set_cons_succ]
          obtain ⟨g16, hg16⟩ : ∃ g16, g16 = ((w5.alloc (.cells (bitsA 0#256) 28))).heap.size := ⟨_, rfl⟩
          refine wpAnyH_ready (rs := [6]) (by kernel_rfl) (by simp) (AllReadyH.cons rfl (valStep 6 7 (.pointer (some ⟨g16, 0, none⟩)) ((w5.alloc (.cells (bitsA 0#256) 28)).alloc (.cells (bitsA 0#256) 28)) rfl (by rfl) (by rw [hg16]; kernel_rfl) (hH14.alloc _) ?_) AllReadyH.nil)
          · have x18 : BoxA ((w5.alloc (.cells (bitsA 0#256) 28)).alloc (.cells (bitsA 0#256) 28)) g16 0#256 := by rw [hg16]; exact BoxA.new _ _
            have lx18 : w.heap.size + 1 < g16 := by rw [hg16]; exact (hH14.1 _ List.mem_cons_self).lt
            have mx18 : g7 < g16 := by rw [hg16]; exact x15.lt
            have x19 := x15.alloc (.cells (bitsA 0#256) 28)
            have hH17 := hH14.alloc (.cells (bitsA 0#256) 28)
            simp only [Act.put, List.setIfInBounds_toArray, List.set_cons_zero, List.set_cons_succ]
            have ne : ∀ g, w.heap.size + 1 < g → ∀ p ∈ [(w.heap.size + 1, T), (w.heap.size, S)], p.1 ≠ g := by intro g hg p hp; simp at hp; rcases hp with rfl | rfl <;> simp <;> omega
            have hC := hH17.row g16 (bitsA S) h0 (by omega) (ne _ (by omega))
            have b1 : BoxA (((w5.alloc (.cells (bitsA 0#256) 28)).alloc (.cells (bitsA 0#256) 28)).setRow g16 (bitsA S)) g16 S := BoxA.rowSame (S := 0#256) x18 _
            have b2 : BoxA (((w5.alloc (.cells (bitsA 0#256) 28)).alloc (.cells (bitsA 0#256) 28)).setRow g16 (bitsA S)) g7 0#256 := BoxA.row x19 _ (by omega)
            have hD := hC.row g7 (bitsA T) h0 (by omega) (ne _ (by omega))
            refine wpAnyH_ready (rs := [8]) (by kernel_rfl) (by simp) (AllReadyH.cons rfl (storeStep 8 g16 0#256 S rfl rfl (by rfl) rfl rfl x18 hC ?_) AllReadyH.nil)
            refine wpAnyH_ready (rs := [9]) (by kernel_rfl) (by simp) (AllReadyH.cons rfl (storeStep 9 g7 0#256 T rfl rfl (by rfl) rfl rfl b2 hD ?_) AllReadyH.nil)
            refine wpAnyH_done (by kernel_rfl) ?_ _
            go_wp2_with fail
            go_meet
            exact ⟨g16, g7, rfl, rfl, hD, BoxA.row b1 _ (by omega), BoxA.rowSame (S := 0#256) b2 _⟩
      · have x21 : BoxA (w2.alloc (.cells (bitsA 0#256) 28)) g4 0#256 := by rw [hg4]; exact BoxA.new _ _
        have lx21 : w.heap.size + 1 < g4 := by rw [hg4]; exact (hH3.1 _ List.mem_cons_self).lt
        have hH20 := hH3.alloc (.cells (bitsA 0#256) 28)
        simp only [Act.put, List.setIfInBounds_toArray, List.set_cons_zero, List.set_cons_succ]
        obtain ⟨g22, hg22⟩ : ∃ g22, g22 = ((w2.alloc (.cells (bitsA 0#256) 28))).heap.size := ⟨_, rfl⟩
        refine wpAnyH_ready (rs := [5, 7]) (by kernel_rfl) (by simp) (AllReadyH.cons rfl (callStep 5 18 rfl (by rfl) (by kernel_rfl) (rof_any T _) ?_) (AllReadyH.cons rfl (valStep 7 8 (.pointer (some ⟨g22, 0, none⟩)) ((w2.alloc (.cells (bitsA 0#256) 28)).alloc (.cells (bitsA 0#256) 28)) rfl (by rfl) (by rw [hg22]; kernel_rfl) (hH20.alloc _) ?_) AllReadyH.nil))
        · rintro e w23 ⟨rfl, hb⟩
          refine ⟨_, rfl, hH20.call hb, ?_⟩
          have hH24 := hH20.call hb
          have x25 := x21.below hb x21.lt
          clear hb
          simp only [Act.put, List.setIfInBounds_toArray, List.set_cons_zero, List.set_cons_succ]
          obtain ⟨g26, hg26⟩ : ∃ g26, g26 = (w23).heap.size := ⟨_, rfl⟩
          refine wpAnyH_ready (rs := [7]) (by kernel_rfl) (by simp) (AllReadyH.cons rfl (valStep 7 8 (.pointer (some ⟨g26, 0, none⟩)) (w23.alloc (.cells (bitsA 0#256) 28)) rfl (by rfl) (by rw [hg26]; kernel_rfl) (hH24.alloc _) ?_) AllReadyH.nil)
          · have x28 : BoxA (w23.alloc (.cells (bitsA 0#256) 28)) g26 0#256 := by rw [hg26]; exact BoxA.new _ _
            have lx28 : w.heap.size + 1 < g26 := by rw [hg26]; exact (hH24.1 _ List.mem_cons_self).lt
            have mx28 : g4 < g26 := by rw [hg26]; exact x25.lt
            have x29 := x25.alloc (.cells (bitsA 0#256) 28)
            have hH27 := hH24.alloc (.cells (bitsA 0#256) 28)
            simp only [Act.put, List.setIfInBounds_toArray, List.set_cons_zero, List.set_cons_succ]
            have ne : ∀ g, w.heap.size + 1 < g → ∀ p ∈ [(w.heap.size + 1, T), (w.heap.size, S)], p.1 ≠ g := by intro g hg p hp; simp at hp; rcases hp with rfl | rfl <;> simp <;> omega
            have hC := hH27.row g4 (bitsA S) h0 (by omega) (ne _ (by omega))
            have b1 : BoxA ((w23.alloc (.cells (bitsA 0#256) 28)).setRow g4 (bitsA S)) g4 S := BoxA.rowSame (S := 0#256) x29 _
            have b2 : BoxA ((w23.alloc (.cells (bitsA 0#256) 28)).setRow g4 (bitsA S)) g26 0#256 := BoxA.row x28 _ (by omega)
            have hD := hC.row g26 (bitsA T) h0 (by omega) (ne _ (by omega))
            refine wpAnyH_ready (rs := [8]) (by kernel_rfl) (by simp) (AllReadyH.cons rfl (storeStep 8 g4 0#256 S rfl rfl (by rfl) rfl rfl x29 hC ?_) AllReadyH.nil)
            refine wpAnyH_ready (rs := [9]) (by kernel_rfl) (by simp) (AllReadyH.cons rfl (storeStep 9 g26 0#256 T rfl rfl (by rfl) rfl rfl b2 hD ?_) AllReadyH.nil)
            refine wpAnyH_done (by kernel_rfl) ?_ _
            go_wp2_with fail
            go_meet
            exact ⟨g4, g26, rfl, rfl, hD, BoxA.row b1 _ (by omega), BoxA.rowSame (S := 0#256) b2 _⟩
        · have x31 : BoxA ((w2.alloc (.cells (bitsA 0#256) 28)).alloc (.cells (bitsA 0#256) 28)) g22 0#256 := by rw [hg22]; exact BoxA.new _ _
          have lx31 : w.heap.size + 1 < g22 := by rw [hg22]; exact (hH20.1 _ List.mem_cons_self).lt
          have mx31 : g4 < g22 := by rw [hg22]; exact x21.lt
          have x32 := x21.alloc (.cells (bitsA 0#256) 28)
          have hH30 := hH20.alloc (.cells (bitsA 0#256) 28)
          simp only [Act.put, List.setIfInBounds_toArray, List.set_cons_zero, List.set_cons_succ]
          refine wpAnyH_ready (rs := [5]) (by kernel_rfl) (by simp) (AllReadyH.cons rfl (callStep 5 18 rfl (by rfl) (by kernel_rfl) (rof_any T _) ?_) AllReadyH.nil)
          · rintro e w34 ⟨rfl, hb⟩
            refine ⟨_, rfl, hH30.call hb, ?_⟩
            have hH35 := hH30.call hb
            have x36 := x32.below hb x32.lt
            have x37 := x31.below hb x31.lt
            clear hb
            simp only [Act.put, List.setIfInBounds_toArray, List.set_cons_zero, List.set_cons_succ]
            have ne : ∀ g, w.heap.size + 1 < g → ∀ p ∈ [(w.heap.size + 1, T), (w.heap.size, S)], p.1 ≠ g := by intro g hg p hp; simp at hp; rcases hp with rfl | rfl <;> simp <;> omega
            have hC := hH35.row g4 (bitsA S) h0 (by omega) (ne _ (by omega))
            have b1 : BoxA (w34.setRow g4 (bitsA S)) g4 S := BoxA.rowSame (S := 0#256) x36 _
            have b2 : BoxA (w34.setRow g4 (bitsA S)) g22 0#256 := BoxA.row x37 _ (by omega)
            have hD := hC.row g22 (bitsA T) h0 (by omega) (ne _ (by omega))
            refine wpAnyH_ready (rs := [8]) (by kernel_rfl) (by simp) (AllReadyH.cons rfl (storeStep 8 g4 0#256 S rfl rfl (by rfl) rfl rfl x36 hC ?_) AllReadyH.nil)
            refine wpAnyH_ready (rs := [9]) (by kernel_rfl) (by simp) (AllReadyH.cons rfl (storeStep 9 g22 0#256 T rfl rfl (by rfl) rfl rfl b2 hD ?_) AllReadyH.nil)
            refine wpAnyH_done (by kernel_rfl) ?_ _
            go_wp2_with fail
            go_meet
            exact ⟨g4, g22, rfl, rfl, hD, BoxA.row b1 _ (by omega), BoxA.rowSame (S := 0#256) b2 _⟩
      · have x39 : BoxA (w2.alloc (.cells (bitsA 0#256) 28)) g4 0#256 := by rw [hg4]; exact BoxA.new _ _
        have lx39 : w.heap.size + 1 < g4 := by rw [hg4]; exact (hH3.1 _ List.mem_cons_self).lt
        have hH38 := hH3.alloc (.cells (bitsA 0#256) 28)
        simp only [Act.put, List.setIfInBounds_toArray, List.set_cons_zero, List.set_cons_succ]
        obtain ⟨g40, hg40⟩ : ∃ g40, g40 = ((w2.alloc (.cells (bitsA 0#256) 28))).heap.size := ⟨_, rfl⟩
        refine wpAnyH_ready (rs := [5, 6]) (by kernel_rfl) (by simp) (AllReadyH.cons rfl (callStep 5 18 rfl (by rfl) (by kernel_rfl) (rof_any T _) ?_) (AllReadyH.cons rfl (valStep 6 7 (.pointer (some ⟨g40, 0, none⟩)) ((w2.alloc (.cells (bitsA 0#256) 28)).alloc (.cells (bitsA 0#256) 28)) rfl (by rfl) (by rw [hg40]; kernel_rfl) (hH38.alloc _) ?_) AllReadyH.nil))
        · rintro e w41 ⟨rfl, hb⟩
          refine ⟨_, rfl, hH38.call hb, ?_⟩
          have hH42 := hH38.call hb
          have x43 := x39.below hb x39.lt
          clear hb
          simp only [Act.put, List.setIfInBounds_toArray, List.set_cons_zero, List.set_cons_succ]
          obtain ⟨g44, hg44⟩ : ∃ g44, g44 = (w41).heap.size := ⟨_, rfl⟩
          refine wpAnyH_ready (rs := [6]) (by kernel_rfl) (by simp) (AllReadyH.cons rfl (valStep 6 7 (.pointer (some ⟨g44, 0, none⟩)) (w41.alloc (.cells (bitsA 0#256) 28)) rfl (by rfl) (by rw [hg44]; kernel_rfl) (hH42.alloc _) ?_) AllReadyH.nil)
          · have x46 : BoxA (w41.alloc (.cells (bitsA 0#256) 28)) g44 0#256 := by rw [hg44]; exact BoxA.new _ _
            have lx46 : w.heap.size + 1 < g44 := by rw [hg44]; exact (hH42.1 _ List.mem_cons_self).lt
            have mx46 : g4 < g44 := by rw [hg44]; exact x43.lt
            have x47 := x43.alloc (.cells (bitsA 0#256) 28)
            have hH45 := hH42.alloc (.cells (bitsA 0#256) 28)
            simp only [Act.put, List.setIfInBounds_toArray, List.set_cons_zero, List.set_cons_succ]
            have ne : ∀ g, w.heap.size + 1 < g → ∀ p ∈ [(w.heap.size + 1, T), (w.heap.size, S)], p.1 ≠ g := by intro g hg p hp; simp at hp; rcases hp with rfl | rfl <;> simp <;> omega
            have hC := hH45.row g44 (bitsA S) h0 (by omega) (ne _ (by omega))
            have b1 : BoxA ((w41.alloc (.cells (bitsA 0#256) 28)).setRow g44 (bitsA S)) g44 S := BoxA.rowSame (S := 0#256) x46 _
            have b2 : BoxA ((w41.alloc (.cells (bitsA 0#256) 28)).setRow g44 (bitsA S)) g4 0#256 := BoxA.row x47 _ (by omega)
            have hD := hC.row g4 (bitsA T) h0 (by omega) (ne _ (by omega))
            refine wpAnyH_ready (rs := [8]) (by kernel_rfl) (by simp) (AllReadyH.cons rfl (storeStep 8 g44 0#256 S rfl rfl (by rfl) rfl rfl x46 hC ?_) AllReadyH.nil)
            refine wpAnyH_ready (rs := [9]) (by kernel_rfl) (by simp) (AllReadyH.cons rfl (storeStep 9 g4 0#256 T rfl rfl (by rfl) rfl rfl b2 hD ?_) AllReadyH.nil)
            refine wpAnyH_done (by kernel_rfl) ?_ _
            go_wp2_with fail
            go_meet
            exact ⟨g44, g4, rfl, rfl, hD, BoxA.row b1 _ (by omega), BoxA.rowSame (S := 0#256) b2 _⟩
        · have x49 : BoxA ((w2.alloc (.cells (bitsA 0#256) 28)).alloc (.cells (bitsA 0#256) 28)) g40 0#256 := by rw [hg40]; exact BoxA.new _ _
          have lx49 : w.heap.size + 1 < g40 := by rw [hg40]; exact (hH38.1 _ List.mem_cons_self).lt
          have mx49 : g4 < g40 := by rw [hg40]; exact x39.lt
          have x50 := x39.alloc (.cells (bitsA 0#256) 28)
          have hH48 := hH38.alloc (.cells (bitsA 0#256) 28)
          simp only [Act.put, List.setIfInBounds_toArray, List.set_cons_zero, List.set_cons_succ]
          refine wpAnyH_ready (rs := [5]) (by kernel_rfl) (by simp) (AllReadyH.cons rfl (callStep 5 18 rfl (by rfl) (by kernel_rfl) (rof_any T _) ?_) AllReadyH.nil)
          · rintro e w52 ⟨rfl, hb⟩
            refine ⟨_, rfl, hH48.call hb, ?_⟩
            have hH53 := hH48.call hb
            have x54 := x49.below hb x49.lt
            have x55 := x50.below hb x50.lt
            clear hb
            simp only [Act.put, List.setIfInBounds_toArray, List.set_cons_zero, List.set_cons_succ]
            have ne : ∀ g, w.heap.size + 1 < g → ∀ p ∈ [(w.heap.size + 1, T), (w.heap.size, S)], p.1 ≠ g := by intro g hg p hp; simp at hp; rcases hp with rfl | rfl <;> simp <;> omega
            have hC := hH53.row g40 (bitsA S) h0 (by omega) (ne _ (by omega))
            have b1 : BoxA (w52.setRow g40 (bitsA S)) g40 S := BoxA.rowSame (S := 0#256) x54 _
            have b2 : BoxA (w52.setRow g40 (bitsA S)) g4 0#256 := BoxA.row x55 _ (by omega)
            have hD := hC.row g4 (bitsA T) h0 (by omega) (ne _ (by omega))
            refine wpAnyH_ready (rs := [8]) (by kernel_rfl) (by simp) (AllReadyH.cons rfl (storeStep 8 g40 0#256 S rfl rfl (by rfl) rfl rfl x54 hC ?_) AllReadyH.nil)
            refine wpAnyH_ready (rs := [9]) (by kernel_rfl) (by simp) (AllReadyH.cons rfl (storeStep 9 g4 0#256 T rfl rfl (by rfl) rfl rfl b2 hD ?_) AllReadyH.nil)
            refine wpAnyH_done (by kernel_rfl) ?_ _
            go_wp2_with fail
            go_meet
            exact ⟨g40, g4, rfl, rfl, hD, BoxA.row b1 _ (by omega), BoxA.rowSame (S := 0#256) b2 _⟩
    · have x57 : BoxA (wz.alloc (.cells (bitsA 0#256) 28)) g1 0#256 := by rw [hg1]; exact BoxA.new _ _
      have lx57 : w.heap.size + 1 < g1 := by rw [hg1]; exact (hS.1 _ List.mem_cons_self).lt
      have hH56 := hS.alloc (.cells (bitsA 0#256) 28)
      simp only [Act.put, List.setIfInBounds_toArray, List.set_cons_zero, List.set_cons_succ]
      obtain ⟨g58, hg58⟩ : ∃ g58, g58 = ((wz.alloc (.cells (bitsA 0#256) 28))).heap.size := ⟨_, rfl⟩
      refine wpAnyH_ready (rs := [2, 7]) (by kernel_rfl) (by simp) (AllReadyH.cons rfl (callStep 2 15 rfl (by rfl) (by kernel_rfl) (rof_any S _) ?_) (AllReadyH.cons rfl (valStep 7 8 (.pointer (some ⟨g58, 0, none⟩)) ((wz.alloc (.cells (bitsA 0#256) 28)).alloc (.cells (bitsA 0#256) 28)) rfl (by rfl) (by rw [hg58]; kernel_rfl) (hH56.alloc _) ?_) AllReadyH.nil))
      · rintro e w59 ⟨rfl, hb⟩
        refine ⟨_, rfl, hH56.call hb, ?_⟩
        have hH60 := hH56.call hb
        have x61 := x57.below hb x57.lt
        clear hb
        simp only [Act.put, List.setIfInBounds_toArray, List.set_cons_zero, List.set_cons_succ]
        obtain ⟨g62, hg62⟩ : ∃ g62, g62 = (w59).heap.size := ⟨_, rfl⟩
        refine wpAnyH_ready (rs := [5, 7]) (by kernel_rfl) (by simp) (AllReadyH.cons rfl (callStep 5 18 rfl (by rfl) (by kernel_rfl) (rof_any T _) ?_) (AllReadyH.cons rfl (valStep 7 8 (.pointer (some ⟨g62, 0, none⟩)) (w59.alloc (.cells (bitsA 0#256) 28)) rfl (by rfl) (by rw [hg62]; kernel_rfl) (hH60.alloc _) ?_) AllReadyH.nil))
        · rintro e w63 ⟨rfl, hb⟩
          refine ⟨_, rfl, hH60.call hb, ?_⟩
          have hH64 := hH60.call hb
          have x65 := x61.below hb x61.lt
          clear hb
          simp only [Act.put, List.setIfInBounds_toArray, List.set_cons_zero, List.set_cons_succ]
          obtain ⟨g66, hg66⟩ : ∃ g66, g66 = (w63).heap.size := ⟨_, rfl⟩
          refine wpAnyH_ready (rs := [7]) (by kernel_rfl) (by simp) (AllReadyH.cons rfl (valStep 7 8 (.pointer (some ⟨g66, 0, none⟩)) (w63.alloc (.cells (bitsA 0#256) 28)) rfl (by rfl) (by rw [hg66]; kernel_rfl) (hH64.alloc _) ?_) AllReadyH.nil)
          · have x68 : BoxA (w63.alloc (.cells (bitsA 0#256) 28)) g66 0#256 := by rw [hg66]; exact BoxA.new _ _
            have lx68 : w.heap.size + 1 < g66 := by rw [hg66]; exact (hH64.1 _ List.mem_cons_self).lt
            have mx68 : g1 < g66 := by rw [hg66]; exact x65.lt
            have x69 := x65.alloc (.cells (bitsA 0#256) 28)
            have hH67 := hH64.alloc (.cells (bitsA 0#256) 28)
            simp only [Act.put, List.setIfInBounds_toArray, List.set_cons_zero, List.set_cons_succ]
            have ne : ∀ g, w.heap.size + 1 < g → ∀ p ∈ [(w.heap.size + 1, T), (w.heap.size, S)], p.1 ≠ g := by intro g hg p hp; simp at hp; rcases hp with rfl | rfl <;> simp <;> omega
            have hC := hH67.row g1 (bitsA S) h0 (by omega) (ne _ (by omega))
            have b1 : BoxA ((w63.alloc (.cells (bitsA 0#256) 28)).setRow g1 (bitsA S)) g1 S := BoxA.rowSame (S := 0#256) x69 _
            have b2 : BoxA ((w63.alloc (.cells (bitsA 0#256) 28)).setRow g1 (bitsA S)) g66 0#256 := BoxA.row x68 _ (by omega)
            have hD := hC.row g66 (bitsA T) h0 (by omega) (ne _ (by omega))
            refine wpAnyH_ready (rs := [8]) (by kernel_rfl) (by simp) (AllReadyH.cons rfl (storeStep 8 g1 0#256 S rfl rfl (by rfl) rfl rfl x69 hC ?_) AllReadyH.nil)
            refine wpAnyH_ready (rs := [9]) (by kernel_rfl) (by simp) (AllReadyH.cons rfl (storeStep 9 g66 0#256 T rfl rfl (by rfl) rfl rfl b2 hD ?_) AllReadyH.nil)
            refine wpAnyH_done (by kernel_rfl) ?_ _
            go_wp2_with fail
            go_meet
            exact ⟨g1, g66, rfl, rfl, hD, BoxA.row b1 _ (by omega), BoxA.rowSame (S := 0#256) b2 _⟩
        · have x71 : BoxA (w59.alloc (.cells (bitsA 0#256) 28)) g62 0#256 := by rw [hg62]; exact BoxA.new _ _
          have lx71 : w.heap.size + 1 < g62 := by rw [hg62]; exact (hH60.1 _ List.mem_cons_self).lt
          have mx71 : g1 < g62 := by rw [hg62]; exact x61.lt
          have x72 := x61.alloc (.cells (bitsA 0#256) 28)
          have hH70 := hH60.alloc (.cells (bitsA 0#256) 28)
          simp only [Act.put, List.setIfInBounds_toArray, List.set_cons_zero, List.set_cons_succ]
          refine wpAnyH_ready (rs := [5]) (by kernel_rfl) (by simp) (AllReadyH.cons rfl (callStep 5 18 rfl (by rfl) (by kernel_rfl) (rof_any T _) ?_) AllReadyH.nil)
          · rintro e w74 ⟨rfl, hb⟩
            refine ⟨_, rfl, hH70.call hb, ?_⟩
            have hH75 := hH70.call hb
            have x76 := x72.below hb x72.lt
            have x77 := x71.below hb x71.lt
            clear hb
            simp only [Act.put, List.setIfInBounds_toArray, List.set_cons_zero, List.set_cons_succ]
            have ne : ∀ g, w.heap.size + 1 < g → ∀ p ∈ [(w.heap.size + 1, T), (w.heap.size, S)], p.1 ≠ g := by intro g hg p hp; simp at hp; rcases hp with rfl | rfl <;> simp <;> omega
            have hC := hH75.row g1 (bitsA S) h0 (by omega) (ne _ (by omega))
            have b1 : BoxA (w74.setRow g1 (bitsA S)) g1 S := BoxA.rowSame (S := 0#256) x76 _
            have b2 : BoxA (w74.setRow g1 (bitsA S)) g62 0#256 := BoxA.row x77 _ (by omega)
            have hD := hC.row g62 (bitsA T) h0 (by omega) (ne _ (by omega))
            refine wpAnyH_ready (rs := [8]) (by kernel_rfl) (by simp) (AllReadyH.cons rfl (storeStep 8 g1 0#256 S rfl rfl (by rfl) rfl rfl x76 hC ?_) AllReadyH.nil)
            refine wpAnyH_ready (rs := [9]) (by kernel_rfl) (by simp) (AllReadyH.cons rfl (storeStep 9 g62 0#256 T rfl rfl (by rfl) rfl rfl b2 hD ?_) AllReadyH.nil)
            refine wpAnyH_done (by kernel_rfl) ?_ _
            go_wp2_with fail
            go_meet
            exact ⟨g1, g62, rfl, rfl, hD, BoxA.row b1 _ (by omega), BoxA.rowSame (S := 0#256) b2 _⟩
      · have x79 : BoxA ((wz.alloc (.cells (bitsA 0#256) 28)).alloc (.cells (bitsA 0#256) 28)) g58 0#256 := by rw [hg58]; exact BoxA.new _ _
        have lx79 : w.heap.size + 1 < g58 := by rw [hg58]; exact (hH56.1 _ List.mem_cons_self).lt
        have mx79 : g1 < g58 := by rw [hg58]; exact x57.lt
        have x80 := x57.alloc (.cells (bitsA 0#256) 28)
        have hH78 := hH56.alloc (.cells (bitsA 0#256) 28)
        simp only [Act.put, List.setIfInBounds_toArray, List.set_cons_zero, List.set_cons_succ]
        refine wpAnyH_ready (rs := [2]) (by kernel_rfl) (by simp) (AllReadyH.cons rfl (callStep 2 15 rfl (by rfl) (by kernel_rfl) (rof_any S _) ?_) AllReadyH.nil)
        · rintro e w82 ⟨rfl, hb⟩
          refine ⟨_, rfl, hH78.call hb, ?_⟩
          have hH83 := hH78.call hb
          have x84 := x80.below hb x80.lt
          have x85 := x79.below hb x79.lt
          clear hb
          simp only [Act.put, List.setIfInBounds_toArray, List.set_cons_zero, List.set_cons_succ]
          refine wpAnyH_ready (rs := [5]) (by kernel_rfl) (by simp) (AllReadyH.cons rfl (callStep 5 18 rfl (by rfl) (by kernel_rfl) (rof_any T _) ?_) AllReadyH.nil)
          · rintro e w87 ⟨rfl, hb⟩
            refine ⟨_, rfl, hH83.call hb, ?_⟩
            have hH88 := hH83.call hb
            have x89 := x84.below hb x84.lt
            have x90 := x85.below hb x85.lt
            clear hb
            simp only [Act.put, List.setIfInBounds_toArray, List.set_cons_zero, List.set_cons_succ]
            have ne : ∀ g, w.heap.size + 1 < g → ∀ p ∈ [(w.heap.size + 1, T), (w.heap.size, S)], p.1 ≠ g := by intro g hg p hp; simp at hp; rcases hp with rfl | rfl <;> simp <;> omega
            have hC := hH88.row g1 (bitsA S) h0 (by omega) (ne _ (by omega))
            have b1 : BoxA (w87.setRow g1 (bitsA S)) g1 S := BoxA.rowSame (S := 0#256) x89 _
            have b2 : BoxA (w87.setRow g1 (bitsA S)) g58 0#256 := BoxA.row x90 _ (by omega)
            have hD := hC.row g58 (bitsA T) h0 (by omega) (ne _ (by omega))
            refine wpAnyH_ready (rs := [8]) (by kernel_rfl) (by simp) (AllReadyH.cons rfl (storeStep 8 g1 0#256 S rfl rfl (by rfl) rfl rfl x89 hC ?_) AllReadyH.nil)
            refine wpAnyH_ready (rs := [9]) (by kernel_rfl) (by simp) (AllReadyH.cons rfl (storeStep 9 g58 0#256 T rfl rfl (by rfl) rfl rfl b2 hD ?_) AllReadyH.nil)
            refine wpAnyH_done (by kernel_rfl) ?_ _
            go_wp2_with fail
            go_meet
            exact ⟨g1, g58, rfl, rfl, hD, BoxA.row b1 _ (by omega), BoxA.rowSame (S := 0#256) b2 _⟩
    · have x92 : BoxA (wz.alloc (.cells (bitsA 0#256) 28)) g1 0#256 := by rw [hg1]; exact BoxA.new _ _
      have lx92 : w.heap.size + 1 < g1 := by rw [hg1]; exact (hS.1 _ List.mem_cons_self).lt
      have hH91 := hS.alloc (.cells (bitsA 0#256) 28)
      simp only [Act.put, List.setIfInBounds_toArray, List.set_cons_zero, List.set_cons_succ]
      obtain ⟨g93, hg93⟩ : ∃ g93, g93 = ((wz.alloc (.cells (bitsA 0#256) 28))).heap.size := ⟨_, rfl⟩
      refine wpAnyH_ready (rs := [2, 6]) (by kernel_rfl) (by simp) (AllReadyH.cons rfl (callStep 2 15 rfl (by rfl) (by kernel_rfl) (rof_any S _) ?_) (AllReadyH.cons rfl (valStep 6 7 (.pointer (some ⟨g93, 0, none⟩)) ((wz.alloc (.cells (bitsA 0#256) 28)).alloc (.cells (bitsA 0#256) 28)) rfl (by rfl) (by rw [hg93]; kernel_rfl) (hH91.alloc _) ?_) AllReadyH.nil))
      · rintro e w94 ⟨rfl, hb⟩
        refine ⟨_, rfl, hH91.call hb, ?_⟩
        have hH95 := hH91.call hb
        have x96 := x92.below hb x92.lt
        clear hb
        simp only [Act.put, List.setIfInBounds_toArray, List.set_cons_zero, List.set_cons_succ]
        obtain ⟨g97, hg97⟩ : ∃ g97, g97 = (w94).heap.size := ⟨_, rfl⟩
        refine wpAnyH_ready (rs := [5, 6]) (by kernel_rfl) (by simp) (AllReadyH.cons rfl (callStep 5 18 rfl (by rfl) (by kernel_rfl) (rof_any T _) ?_) (AllReadyH.cons rfl (valStep 6 7 (.pointer (some ⟨g97, 0, none⟩)) (w94.alloc (.cells (bitsA 0#256) 28)) rfl (by rfl) (by rw [hg97]; kernel_rfl) (hH95.alloc _) ?_) AllReadyH.nil))
        · rintro e w98 ⟨rfl, hb⟩
          refine ⟨_, rfl, hH95.call hb, ?_⟩
          have hH99 := hH95.call hb
          have x100 := x96.below hb x96.lt
          clear hb
          simp only [Act.put, List.setIfInBounds_toArray, List.set_cons_zero, List.set_cons_succ]
          obtain ⟨g101, hg101⟩ : ∃ g101, g101 = (w98).heap.size := ⟨_, rfl⟩
          refine wpAnyH_ready (rs := [6]) (by kernel_rfl) (by simp) (AllReadyH.cons rfl (valStep 6 7 (.pointer (some ⟨g101, 0, none⟩)) (w98.alloc (.cells (bitsA 0#256) 28)) rfl (by rfl) (by rw [hg101]; kernel_rfl) (hH99.alloc _) ?_) AllReadyH.nil)
          · have x103 : BoxA (w98.alloc (.cells (bitsA 0#256) 28)) g101 0#256 := by rw [hg101]; exact BoxA.new _ _
            have lx103 : w.heap.size + 1 < g101 := by rw [hg101]; exact (hH99.1 _ List.mem_cons_self).lt
            have mx103 : g1 < g101 := by rw [hg101]; exact x100.lt
            have x104 := x100.alloc (.cells (bitsA 0#256) 28)
            have hH102 := hH99.alloc (.cells (bitsA 0#256) 28)
            simp only [Act.put, List.setIfInBounds_toArray, List.set_cons_zero, List.set_cons_succ]
            have ne : ∀ g, w.heap.size + 1 < g → ∀ p ∈ [(w.heap.size + 1, T), (w.heap.size, S)], p.1 ≠ g := by intro g hg p hp; simp at hp; rcases hp with rfl | rfl <;> simp <;> omega
            have hC := hH102.row g101 (bitsA S) h0 (by omega) (ne _ (by omega))
            have b1 : BoxA ((w98.alloc (.cells (bitsA 0#256) 28)).setRow g101 (bitsA S)) g101 S := BoxA.rowSame (S := 0#256) x103 _
            have b2 : BoxA ((w98.alloc (.cells (bitsA 0#256) 28)).setRow g101 (bitsA S)) g1 0#256 := BoxA.row x104 _ (by omega)
            have hD := hC.row g1 (bitsA T) h0 (by omega) (ne _ (by omega))
            refine wpAnyH_ready (rs := [8]) (by kernel_rfl) (by simp) (AllReadyH.cons rfl (storeStep 8 g101 0#256 S rfl rfl (by rfl) rfl rfl x103 hC ?_) AllReadyH.nil)
            refine wpAnyH_ready (rs := [9]) (by kernel_rfl) (by simp) (AllReadyH.cons rfl (storeStep 9 g1 0#256 T rfl rfl (by rfl) rfl rfl b2 hD ?_) AllReadyH.nil)
            refine wpAnyH_done (by kernel_rfl) ?_ _
            go_wp2_with fail
            go_meet
            exact ⟨g101, g1, rfl, rfl, hD, BoxA.row b1 _ (by omega), BoxA.rowSame (S := 0#256) b2 _⟩
        · have x106 : BoxA (w94.alloc (.cells (bitsA 0#256) 28)) g97 0#256 := by rw [hg97]; exact BoxA.new _ _
          have lx106 : w.heap.size + 1 < g97 := by rw [hg97]; exact (hH95.1 _ List.mem_cons_self).lt
          have mx106 : g1 < g97 := by rw [hg97]; exact x96.lt
          have x107 := x96.alloc (.cells (bitsA 0#256) 28)
          have hH105 := hH95.alloc (.cells (bitsA 0#256) 28)
          simp only [Act.put, List.setIfInBounds_toArray, List.set_cons_zero, List.set_cons_succ]
          refine wpAnyH_ready (rs := [5]) (by kernel_rfl) (by simp) (AllReadyH.cons rfl (callStep 5 18 rfl (by rfl) (by kernel_rfl) (rof_any T _) ?_) AllReadyH.nil)
          · rintro e w109 ⟨rfl, hb⟩
            refine ⟨_, rfl, hH105.call hb, ?_⟩
            have hH110 := hH105.call hb
            have x111 := x106.below hb x106.lt
            have x112 := x107.below hb x107.lt
            clear hb
            simp only [Act.put, List.setIfInBounds_toArray, List.set_cons_zero, List.set_cons_succ]
            have ne : ∀ g, w.heap.size + 1 < g → ∀ p ∈ [(w.heap.size + 1, T), (w.heap.size, S)], p.1 ≠ g := by intro g hg p hp; simp at hp; rcases hp with rfl | rfl <;> simp <;> omega
            have hC := hH110.row g97 (bitsA S) h0 (by omega) (ne _ (by omega))
            have b1 : BoxA (w109.setRow g97 (bitsA S)) g97 S := BoxA.rowSame (S := 0#256) x111 _
            have b2 : BoxA (w109.setRow g97 (bitsA S)) g1 0#256 := BoxA.row x112 _ (by omega)
            have hD := hC.row g1 (bitsA T) h0 (by omega) (ne _ (by omega))
            refine wpAnyH_ready (rs := [8]) (by kernel_rfl) (by simp) (AllReadyH.cons rfl (storeStep 8 g97 0#256 S rfl rfl (by rfl) rfl rfl x111 hC ?_) AllReadyH.nil)
            refine wpAnyH_ready (rs := [9]) (by kernel_rfl) (by simp) (AllReadyH.cons rfl (storeStep 9 g1 0#256 T rfl rfl (by rfl) rfl rfl b2 hD ?_) AllReadyH.nil)
            refine wpAnyH_done (by kernel_rfl) ?_ _
            go_wp2_with fail
            go_meet
            exact ⟨g97, g1, rfl, rfl, hD, BoxA.row b1 _ (by omega), BoxA.rowSame (S := 0#256) b2 _⟩
      · have x114 : BoxA ((wz.alloc (.cells (bitsA 0#256) 28)).alloc (.cells (bitsA 0#256) 28)) g93 0#256 := by rw [hg93]; exact BoxA.new _ _
        have lx114 : w.heap.size + 1 < g93 := by rw [hg93]; exact (hH91.1 _ List.mem_cons_self).lt
        have mx114 : g1 < g93 := by rw [hg93]; exact x92.lt
        have x115 := x92.alloc (.cells (bitsA 0#256) 28)
        have hH113 := hH91.alloc (.cells (bitsA 0#256) 28)
        simp only [Act.put, List.setIfInBounds_toArray, List.set_cons_zero, List.set_cons_succ]
        refine wpAnyH_ready (rs := [2]) (by kernel_rfl) (by simp) (AllReadyH.cons rfl (callStep 2 15 rfl (by rfl) (by kernel_rfl) (rof_any S _) ?_) AllReadyH.nil)
        · rintro e w117 ⟨rfl, hb⟩
          refine ⟨_, rfl, hH113.call hb, ?_⟩
          have hH118 := hH113.call hb
          have x119 := x114.below hb x114.lt
          have x120 := x115.below hb x115.lt
          clear hb
          simp only [Act.put, List.setIfInBounds_toArray, List.set_cons_zero, List.set_cons_succ]
          refine wpAnyH_ready (rs := [5]) (by kernel_rfl) (by simp) (AllReadyH.cons rfl (callStep 5 18 rfl (by rfl) (by kernel_rfl) (rof_any T _) ?_) AllReadyH.nil)
          · rintro e w122 ⟨rfl, hb⟩
            refine ⟨_, rfl, hH118.call hb, ?_⟩
            have hH123 := hH118.call hb
            have x124 := x119.below hb x119.lt
            have x125 := x120.below hb x120.lt
            clear hb
            simp only [Act.put, List.setIfInBounds_toArray, List.set_cons_zero, List.set_cons_succ]
            have ne : ∀ g, w.heap.size + 1 < g → ∀ p ∈ [(w.heap.size + 1, T), (w.heap.size, S)], p.1 ≠ g := by intro g hg p hp; simp at hp; rcases hp with rfl | rfl <;> simp <;> omega
            have hC := hH123.row g93 (bitsA S) h0 (by omega) (ne _ (by omega))
            have b1 : BoxA (w122.setRow g93 (bitsA S)) g93 S := BoxA.rowSame (S := 0#256) x124 _
            have b2 : BoxA (w122.setRow g93 (bitsA S)) g1 0#256 := BoxA.row x125 _ (by omega)
            have hD := hC.row g1 (bitsA T) h0 (by omega) (ne _ (by omega))
            refine wpAnyH_ready (rs := [8]) (by kernel_rfl) (by simp) (AllReadyH.cons rfl (storeStep 8 g93 0#256 S rfl rfl (by rfl) rfl rfl x124 hC ?_) AllReadyH.nil)
            refine wpAnyH_ready (rs := [9]) (by kernel_rfl) (by simp) (AllReadyH.cons rfl (storeStep 9 g1 0#256 T rfl rfl (by rfl) rfl rfl b2 hD ?_) AllReadyH.nil)
            refine wpAnyH_done (by kernel_rfl) ?_ _
            go_wp2_with fail
            go_meet
            exact ⟨g93, g1, rfl, rfl, hD, BoxA.row b1 _ (by omega), BoxA.rowSame (S := 0#256) b2 _⟩
  case rest =>
    obtain ⟨ga, gb, rfl, rfl, hT⟩ := hcut
    clear HS h0
    obtain ⟨c0, c1, c2, c3⟩ := (hT.1.1 _ (List.mem_cons_of_mem _ List.mem_cons_self)).cells
    have H1 := Lib.hid hT
    clear hT
    go_wp2_with fail
    refine (min_yes S _ HZ.out H1.out.1.2.2).mono ?_
    rintro e x1 ⟨rfl, hb⟩
    have H2 := Lib.hid (H1.out.call hb)
    clear hb H1 c0 c1 c2 c3
    go_wp2_with (first | (refine loadA rfl _ rfl ga S rfl H2.out.2.1 ?_) | fail)
    refine (rmin_any S _).mono ?_
    rintro e x2 ⟨rfl, hb⟩
    rw [show minV S = .tuple #[.int .u8 ((minS S : Nat) : Int), .bool true] from by rw [minV, if_neg HZ.out]]
    have H3 := Lib.hid (H2.out.call hb)
    clear hb H2
    go_wp2_with fail
    have hF := H3.out.drew
    have hB := HM.out
    clear H3
    refine wp_region_held_drew (S := HeldT w S T ga gb) (by kernel_rfl) hF (fun _ => ?_)
    refine takeAt 0 29 (setV S) rfl rfl (by kernel_rfl) (by kernel_rfl) (by kernel_rfl) (fun _ _ _ h => h) (loadS_t rfl rfl (by rfl)) hF ?_
    simp only [Act.put, List.setIfInBounds_toArray, List.set_cons_zero, List.set_cons_succ]
    refine takeAt 1 30 (.int .u8 (c : Int)) rfl rfl (by kernel_rfl) (by kernel_rfl) (by kernel_rfl) (fun _ _ _ h => h) (yields (by rfl) (fun w => by kernel_rfl)) hF ?_
    simp only [Act.put, List.setIfInBounds_toArray, List.set_cons_zero, List.set_cons_succ]
    refine takeAt 3 32 (.int .u8 (c : Int)) rfl rfl (by kernel_rfl) (by kernel_rfl) (by kernel_rfl) (fun _ _ _ h => h) (yields (by rfl) (fun w => by kernel_rfl)) hF ?_
    simp only [Act.put, List.setIfInBounds_toArray, List.set_cons_zero, List.set_cons_succ]
    refine takeAt 4 33 (.pointer (some ⟨ga, 0, none⟩)) rfl rfl (by kernel_rfl) (by kernel_rfl) (by kernel_rfl) (fun _ _ _ h => h) (yields (by rfl) (fun w => by kernel_rfl)) hF ?_
    simp only [Act.put, List.setIfInBounds_toArray, List.set_cons_zero, List.set_cons_succ]
    refine takeAt 5 34 (.pointer (some ⟨ga, c, none⟩)) rfl rfl (by kernel_rfl) (by kernel_rfl) (by kernel_rfl) (fun _ _ _ h => h) (index_t ga c hc rfl rfl rfl (by rfl)) hF ?_
    simp only [Act.put, List.setIfInBounds_toArray, List.set_cons_zero, List.set_cons_succ]
    refine takeAt 6 35 (.bool false) rfl rfl (by kernel_rfl) (by kernel_rfl) (by kernel_rfl) (fun _ _ _ h => h) (cell_t c false hc hB rfl rfl (by rfl)) hF ?_
    simp only [Act.put, List.setIfInBounds_toArray, List.set_cons_zero, List.set_cons_succ]
    refine callAt 2 31 rfl rfl (by kernel_rfl) (by rfl) (by kernel_rfl) (has_k S _ c false _ rfl (by omega) hB) ?_
    rintro e w' ⟨rfl, hb⟩
    refine ⟨_, rfl, hF.call hb, ?_⟩
    have hT1 := hF.call hb
    clear hF hb
    simp only [Act.put, List.setIfInBounds_toArray, List.set_cons_zero, List.set_cons_succ]
    refine takeAt 7 36 (.bool false) rfl rfl (by kernel_rfl) (by kernel_rfl) (by kernel_rfl) (fun _ _ _ h => h) (yields (by rfl) (fun w => by kernel_rfl)) hT1 ?_
    simp only [Act.put, List.setIfInBounds_toArray, List.set_cons_zero, List.set_cons_succ]
    refine takeAt 8 37 (.bool false) rfl rfl (by kernel_rfl) (by kernel_rfl) (by kernel_rfl) (fun _ _ _ h => h) (yields (by rfl) (fun w => by kernel_rfl)) hT1 ?_
    simp only [Act.put, List.setIfInBounds_toArray, List.set_cons_zero, List.set_cons_succ]
    refine takeAt 9 38 (setV S) rfl rfl (by kernel_rfl) (by kernel_rfl) (by kernel_rfl) (fun _ _ _ h => h) (loadS_t rfl rfl (by rfl)) hT1 ?_
    simp only [Act.put, List.setIfInBounds_toArray, List.set_cons_zero, List.set_cons_succ]
    refine takeAt 11 40 (.agg (bitsA S)) rfl rfl (by kernel_rfl) (by kernel_rfl) (by kernel_rfl) (fun _ _ _ h => h) (loadA_t rfl rfl (by rfl)) hT1 ?_
    simp only [Act.put, List.setIfInBounds_toArray, List.set_cons_zero, List.set_cons_succ]
    refine callAt 10 39 rfl rfl (by kernel_rfl) (by rfl) (by kernel_rfl) (len_any S _) ?_
    rintro e w' ⟨rfl, hb⟩
    refine ⟨_, rfl, hT1.call hb, ?_⟩
    have hT2 := hT1.call hb
    clear hT1 hb
    simp only [Act.put, List.setIfInBounds_toArray, List.set_cons_zero, List.set_cons_succ]
    refine callAt 12 41 rfl rfl (by kernel_rfl) (by rfl) (by kernel_rfl) (rlen_any S _) ?_
    rintro e w' ⟨rfl, hb⟩
    refine ⟨_, rfl, hT2.call hb, ?_⟩
    have hT3 := hT2.call hb
    clear hT2 hb
    simp only [Act.put, List.setIfInBounds_toArray, List.set_cons_zero, List.set_cons_succ]
    refine takeAt 13 42 (.bool false) rfl rfl (by kernel_rfl) (by kernel_rfl) (by kernel_rfl) (fun _ _ _ h => h) (neq64_y false rfl rfl rfl (by simp) (by rfl)) hT3 ?_
    simp only [Act.put, List.setIfInBounds_toArray, List.set_cons_zero, List.set_cons_succ]
    refine takeAt 14 43 (.bool false) rfl rfl (by kernel_rfl) (by kernel_rfl) (by kernel_rfl) (fun _ _ _ h => h) (yields (by rfl) (fun w => by kernel_rfl)) hT3 ?_
    simp only [Act.put, List.setIfInBounds_toArray, List.set_cons_zero, List.set_cons_succ]
    refine takeAt 15 44 (.bool false) rfl rfl (by kernel_rfl) (by kernel_rfl) (by kernel_rfl) (fun _ _ _ h => h) (yields (by rfl) (fun w => by kernel_rfl)) hT3 ?_
    simp only [Act.put, List.setIfInBounds_toArray, List.set_cons_zero, List.set_cons_succ]
    refine takeAt 16 45 (.int .u8 (minS S : Int)) rfl rfl (by kernel_rfl) (by kernel_rfl) (by kernel_rfl) (fun _ _ _ h => h) (yields (by rfl) (fun w => by kernel_rfl)) hT3 ?_
    simp only [Act.put, List.setIfInBounds_toArray, List.set_cons_zero, List.set_cons_succ]
    refine takeAt 17 46 (.int .u8 (minS S : Int)) rfl rfl (by kernel_rfl) (by kernel_rfl) (by kernel_rfl) (fun _ _ _ h => h) (yields (by rfl) (fun w => by kernel_rfl)) hT3 ?_
    simp only [Act.put, List.setIfInBounds_toArray, List.set_cons_zero, List.set_cons_succ]
    refine takeAt 18 47 (.bool false) rfl rfl (by kernel_rfl) (by kernel_rfl) (by kernel_rfl) (fun _ _ _ h => h) (neq8_y false rfl rfl rfl (by simp) (by rfl)) hT3 ?_
    simp only [Act.put, List.setIfInBounds_toArray, List.set_cons_zero, List.set_cons_succ]
    refine takeAt 19 48 (.bool false) rfl rfl (by kernel_rfl) (by kernel_rfl) (by kernel_rfl) (fun _ _ _ h => h) (yields (by rfl) (fun w => by kernel_rfl)) hT3 ?_
    simp only [Act.put, List.setIfInBounds_toArray, List.set_cons_zero, List.set_cons_succ]
    refine takeAt 20 49 (.bool false) rfl rfl (by kernel_rfl) (by kernel_rfl) (by kernel_rfl) (fun _ _ _ h => h) (yields (by rfl) (fun w => by kernel_rfl)) hT3 ?_
    simp only [Act.put, List.setIfInBounds_toArray, List.set_cons_zero, List.set_cons_succ]
    refine takeAt 21 50 (.bool true) rfl rfl (by kernel_rfl) (by kernel_rfl) (by kernel_rfl) (fun _ _ _ h => h) (yields (by rfl) (fun w => by kernel_rfl)) hT3 ?_
    simp only [Act.put, List.setIfInBounds_toArray, List.set_cons_zero, List.set_cons_succ]
    refine takeAt 22 51 (.bool true) rfl rfl (by kernel_rfl) (by kernel_rfl) (by kernel_rfl) (fun _ _ _ h => h) (yields (by rfl) (fun w => by kernel_rfl)) hT3 ?_
    simp only [Act.put, List.setIfInBounds_toArray, List.set_cons_zero, List.set_cons_succ]
    refine takeAt 23 52 (.bool false) rfl rfl (by kernel_rfl) (by kernel_rfl) (by kernel_rfl) (fun _ _ _ h => h) (yields (by rfl) (fun w => by kernel_rfl)) hT3 ?_
    simp only [Act.put, List.setIfInBounds_toArray, List.set_cons_zero, List.set_cons_succ]
    refine takeAt 24 53 (.bool false) rfl rfl (by kernel_rfl) (by kernel_rfl) (by kernel_rfl) (fun _ _ _ h => h) (yields (by rfl) (fun w => by kernel_rfl)) hT3 ?_
    simp only [Act.put, List.setIfInBounds_toArray, List.set_cons_zero, List.set_cons_succ]
    refine takeAt 25 54 (.bool false) rfl rfl (by kernel_rfl) (by kernel_rfl) (by kernel_rfl) (fun _ _ _ h => h) (yields (by rfl) (fun w => by kernel_rfl)) hT3 ?_
    simp only [Act.put, List.setIfInBounds_toArray, List.set_cons_zero, List.set_cons_succ]
    refine takeAt 26 55 (setV S) rfl rfl (by kernel_rfl) (by kernel_rfl) (by kernel_rfl) (fun _ _ _ h => h) (loadS_t rfl rfl (by rfl)) hT3 ?_
    simp only [Act.put, List.setIfInBounds_toArray, List.set_cons_zero, List.set_cons_succ]
    refine takeAt 28 57 (.agg (bitsA S)) rfl rfl (by kernel_rfl) (by kernel_rfl) (by kernel_rfl) (fun _ _ _ h => h) (loadA_t rfl rfl (by rfl)) hT3 ?_
    simp only [Act.put, List.setIfInBounds_toArray, List.set_cons_zero, List.set_cons_succ]
    refine callAt 27 56 rfl rfl (by kernel_rfl) (by rfl) (by kernel_rfl) (ranges_any S _) ?_
    rintro e w' ⟨v1, rfl, hr1, hb⟩
    refine ⟨_, rfl, hT3.call hb, ?_⟩
    have hT4 := hT3.call hb
    clear hT3 hb
    simp only [Act.put, List.setIfInBounds_toArray, List.set_cons_zero, List.set_cons_succ]
    refine callAt 29 58 rfl rfl (by kernel_rfl) (by rfl) (by kernel_rfl) (rranges_any S _) ?_
    rintro e w' ⟨v2, rfl, hr2, hb⟩
    have hr3 := hr1.call hb
    refine ⟨_, rfl, hT4.call hb, ?_⟩
    have hT5 := hT4.call hb
    clear hT4 hb
    simp only [Act.put, List.setIfInBounds_toArray, List.set_cons_zero, List.set_cons_succ]
    refine callAt 30 59 rfl rfl (by kernel_rfl) (by rfl) (by kernel_rfl) (runs_same _ _ _ S hr3 hr2) ?_
    rintro e w' ⟨rfl, hb⟩
    refine ⟨_, rfl, hT5.call hb, ?_⟩
    have hT6 := hT5.call hb
    clear hT5 hb
    simp only [Act.put, List.setIfInBounds_toArray, List.set_cons_zero, List.set_cons_succ]
    refine takeAt 31 60 (.bool false) rfl rfl (by kernel_rfl) (by kernel_rfl) (by kernel_rfl) (fun _ _ _ h => h) (yields (by rfl) (fun w => by kernel_rfl)) hT6 ?_
    simp only [Act.put, List.setIfInBounds_toArray, List.set_cons_zero, List.set_cons_succ]
    refine takeAt 32 61 (.bool false) rfl rfl (by kernel_rfl) (by kernel_rfl) (by kernel_rfl) (fun _ _ _ h => h) (yields (by rfl) (fun w => by kernel_rfl)) hT6 ?_
    simp only [Act.put, List.setIfInBounds_toArray, List.set_cons_zero, List.set_cons_succ]
    refine wpAnyH_done (by kernel_rfl) ?_ _
    clear hB
    have H4 := Lib.hid (HeldT.drew hT6)
    clear hT6
    go_wp2_with fail
    have hG := H4.out
    clear H4
    refine wp_region_held_drew (S := HeldT w S T ga gb) (by kernel_rfl) hG (fun _ => ?_)
    refine takeAt 0 62 (setV S) rfl rfl (by kernel_rfl) (by kernel_rfl) (by kernel_rfl) (fun _ _ _ h => h) (loadS_t rfl rfl (by rfl)) hG ?_
    simp only [Act.put, List.setIfInBounds_toArray, List.set_cons_zero, List.set_cons_succ]
    refine takeAt 1 63 (setV T) rfl rfl (by kernel_rfl) (by kernel_rfl) (by kernel_rfl) (fun _ _ _ h => h) (loadT_t rfl rfl (by rfl)) hG ?_
    simp only [Act.put, List.setIfInBounds_toArray, List.set_cons_zero, List.set_cons_succ]
    refine takeAt 4 66 (.agg (bitsA S)) rfl rfl (by kernel_rfl) (by kernel_rfl) (by kernel_rfl) (fun _ _ _ h => h) (loadA_t rfl rfl (by rfl)) hG ?_
    simp only [Act.put, List.setIfInBounds_toArray, List.set_cons_zero, List.set_cons_succ]
    refine takeAt 5 67 (.agg (bitsA T)) rfl rfl (by kernel_rfl) (by kernel_rfl) (by kernel_rfl) (fun _ _ _ h => h) (loadB_t rfl rfl (by rfl)) hG ?_
    simp only [Act.put, List.setIfInBounds_toArray, List.set_cons_zero, List.set_cons_succ]
    refine callAt 2 64 rfl rfl (by kernel_rfl) (by rfl) (by kernel_rfl) (or_k S T _) ?_
    rintro e w' ⟨rfl, hb⟩
    refine ⟨_, rfl, hG.call hb, ?_⟩
    have hT1 := hG.call hb
    clear hG hb
    simp only [Act.put, List.setIfInBounds_toArray, List.set_cons_zero, List.set_cons_succ]
    refine takeAt 3 65 (setV (orS S T)) rfl rfl (by kernel_rfl) (by kernel_rfl) (by kernel_rfl) (fun _ _ _ h => h) (yields (by rfl) (fun w => by kernel_rfl)) hT1 ?_
    simp only [Act.put, List.setIfInBounds_toArray, List.set_cons_zero, List.set_cons_succ]
    refine callAt 6 68 rfl rfl (by kernel_rfl) (by rfl) (by kernel_rfl) (ror_k S T _) ?_
    rintro e w' ⟨rfl, hb⟩
    refine ⟨_, rfl, hT1.call hb, ?_⟩
    have hT2 := hT1.call hb
    clear hT1 hb
    simp only [Act.put, List.setIfInBounds_toArray, List.set_cons_zero, List.set_cons_succ]
    refine callAt 7 69 rfl rfl (by kernel_rfl) (by rfl) (by kernel_rfl) (rwords_any (orS S T) _) ?_
    rintro e w' ⟨rfl, hb⟩
    refine ⟨_, rfl, hT2.call hb, ?_⟩
    have hT3 := hT2.call hb
    clear hT2 hb
    simp only [Act.put, List.setIfInBounds_toArray, List.set_cons_zero, List.set_cons_succ]
    refine takeAt 8 70 (.bool true) rfl rfl (by kernel_rfl) (by kernel_rfl) (by kernel_rfl) (fun _ _ _ h => h) (eqW_y (orS S T) rfl rfl rfl (by rfl)) hT3 ?_
    simp only [Act.put, List.setIfInBounds_toArray, List.set_cons_zero, List.set_cons_succ]
    refine takeAt 9 71 (.bool true) rfl rfl (by kernel_rfl) (by kernel_rfl) (by kernel_rfl) (fun _ _ _ h => h) (yields (by rfl) (fun w => by kernel_rfl)) hT3 ?_
    simp only [Act.put, List.setIfInBounds_toArray, List.set_cons_zero, List.set_cons_succ]
    refine takeAt 10 72 (setV S) rfl rfl (by kernel_rfl) (by kernel_rfl) (by kernel_rfl) (fun _ _ _ h => h) (loadS_t rfl rfl (by rfl)) hT3 ?_
    simp only [Act.put, List.setIfInBounds_toArray, List.set_cons_zero, List.set_cons_succ]
    refine takeAt 11 73 (setV T) rfl rfl (by kernel_rfl) (by kernel_rfl) (by kernel_rfl) (fun _ _ _ h => h) (loadT_t rfl rfl (by rfl)) hT3 ?_
    simp only [Act.put, List.setIfInBounds_toArray, List.set_cons_zero, List.set_cons_succ]
    refine takeAt 14 76 (.agg (bitsA S)) rfl rfl (by kernel_rfl) (by kernel_rfl) (by kernel_rfl) (fun _ _ _ h => h) (loadA_t rfl rfl (by rfl)) hT3 ?_
    simp only [Act.put, List.setIfInBounds_toArray, List.set_cons_zero, List.set_cons_succ]
    refine takeAt 15 77 (.agg (bitsA T)) rfl rfl (by kernel_rfl) (by kernel_rfl) (by kernel_rfl) (fun _ _ _ h => h) (loadB_t rfl rfl (by rfl)) hT3 ?_
    simp only [Act.put, List.setIfInBounds_toArray, List.set_cons_zero, List.set_cons_succ]
    as_aux_lemma =>
      refine callAt 12 74 rfl rfl (by kernel_rfl) (by rfl) (by kernel_rfl) (and_k S T _) ?_
      rintro e w' ⟨rfl, hb⟩
      refine ⟨_, rfl, hT3.call hb, ?_⟩
      have hT4 := hT3.call hb
      clear hT3 hb
      simp only [Act.put, List.setIfInBounds_toArray, List.set_cons_zero, List.set_cons_succ]
      refine takeAt 13 75 (setV (andS S T)) rfl rfl (by kernel_rfl) (by kernel_rfl) (by kernel_rfl) (fun _ _ _ h => h) (yields (by rfl) (fun w => by kernel_rfl)) hT4 ?_
      simp only [Act.put, List.setIfInBounds_toArray, List.set_cons_zero, List.set_cons_succ]
      refine callAt 16 78 rfl rfl (by kernel_rfl) (by rfl) (by kernel_rfl) (rand_k S T _) ?_
      rintro e w' ⟨rfl, hb⟩
      refine ⟨_, rfl, hT4.call hb, ?_⟩
      have hT5 := hT4.call hb
      clear hT4 hb
      simp only [Act.put, List.setIfInBounds_toArray, List.set_cons_zero, List.set_cons_succ]
      refine callAt 17 79 rfl rfl (by kernel_rfl) (by rfl) (by kernel_rfl) (rwords_any (andS S T) _) ?_
      rintro e w' ⟨rfl, hb⟩
      refine ⟨_, rfl, hT5.call hb, ?_⟩
      have hT6 := hT5.call hb
      clear hT5 hb
      simp only [Act.put, List.setIfInBounds_toArray, List.set_cons_zero, List.set_cons_succ]
      refine takeAt 18 80 (.bool true) rfl rfl (by kernel_rfl) (by kernel_rfl) (by kernel_rfl) (fun _ _ _ h => h) (eqW_y (andS S T) rfl rfl rfl (by rfl)) hT6 ?_
      simp only [Act.put, List.setIfInBounds_toArray, List.set_cons_zero, List.set_cons_succ]
      refine takeAt 19 81 (.bool true) rfl rfl (by kernel_rfl) (by kernel_rfl) (by kernel_rfl) (fun _ _ _ h => h) (yields (by rfl) (fun w => by kernel_rfl)) hT6 ?_
      simp only [Act.put, List.setIfInBounds_toArray, List.set_cons_zero, List.set_cons_succ]
      refine takeAt 20 82 (.bool true) rfl rfl (by kernel_rfl) (by kernel_rfl) (by kernel_rfl) (fun _ _ _ h => h) (yields (by rfl) (fun w => by kernel_rfl)) hT6 ?_
      simp only [Act.put, List.setIfInBounds_toArray, List.set_cons_zero, List.set_cons_succ]
      refine takeAt 21 83 (setV S) rfl rfl (by kernel_rfl) (by kernel_rfl) (by kernel_rfl) (fun _ _ _ h => h) (loadS_t rfl rfl (by rfl)) hT6 ?_
      simp only [Act.put, List.setIfInBounds_toArray, List.set_cons_zero, List.set_cons_succ]
      refine takeAt 24 86 (.agg (bitsA S)) rfl rfl (by kernel_rfl) (by kernel_rfl) (by kernel_rfl) (fun _ _ _ h => h) (loadA_t rfl rfl (by rfl)) hT6 ?_
      simp only [Act.put, List.setIfInBounds_toArray, List.set_cons_zero, List.set_cons_succ]
      refine callAt 22 84 rfl rfl (by kernel_rfl) (by rfl) (by kernel_rfl) (not_k S _) ?_
      rintro e w' ⟨rfl, hb⟩
      refine ⟨_, rfl, hT6.call hb, ?_⟩
      have hT7 := hT6.call hb
      clear hT6 hb
      simp only [Act.put, List.setIfInBounds_toArray, List.set_cons_zero, List.set_cons_succ]
      refine takeAt 23 85 (setV (notS S)) rfl rfl (by kernel_rfl) (by kernel_rfl) (by kernel_rfl) (fun _ _ _ h => h) (yields (by rfl) (fun w => by kernel_rfl)) hT7 ?_
      simp only [Act.put, List.setIfInBounds_toArray, List.set_cons_zero, List.set_cons_succ]
      refine callAt 25 87 rfl rfl (by kernel_rfl) (by rfl) (by kernel_rfl) (rnot_k S _) ?_
      rintro e w' ⟨rfl, hb⟩
      refine ⟨_, rfl, hT7.call hb, ?_⟩
      have hT8 := hT7.call hb
      clear hT7 hb
      simp only [Act.put, List.setIfInBounds_toArray, List.set_cons_zero, List.set_cons_succ]
      refine callAt 26 88 rfl rfl (by kernel_rfl) (by rfl) (by kernel_rfl) (rwords_any (notS S) _) ?_
      rintro e w' ⟨rfl, hb⟩
      refine ⟨_, rfl, hT8.call hb, ?_⟩
      have hT9 := hT8.call hb
      clear hT8 hb
      simp only [Act.put, List.setIfInBounds_toArray, List.set_cons_zero, List.set_cons_succ]
      refine takeAt 27 89 (.bool true) rfl rfl (by kernel_rfl) (by kernel_rfl) (by kernel_rfl) (fun _ _ _ h => h) (eqW_y (notS S) rfl rfl rfl (by rfl)) hT9 ?_
      simp only [Act.put, List.setIfInBounds_toArray, List.set_cons_zero, List.set_cons_succ]
      as_aux_lemma =>
        refine takeAt 28 90 (.bool true) rfl rfl (by kernel_rfl) (by kernel_rfl) (by kernel_rfl) (fun _ _ _ h => h) (yields (by rfl) (fun w => by kernel_rfl)) hT9 ?_
        simp only [Act.put, List.setIfInBounds_toArray, List.set_cons_zero, List.set_cons_succ]
        refine takeAt 29 91 (.bool true) rfl rfl (by kernel_rfl) (by kernel_rfl) (by kernel_rfl) (fun _ _ _ h => h) (yields (by rfl) (fun w => by kernel_rfl)) hT9 ?_
        simp only [Act.put, List.setIfInBounds_toArray, List.set_cons_zero, List.set_cons_succ]
        refine takeAt 30 92 (setV S) rfl rfl (by kernel_rfl) (by kernel_rfl) (by kernel_rfl) (fun _ _ _ h => h) (loadS_t rfl rfl (by rfl)) hT9 ?_
        simp only [Act.put, List.setIfInBounds_toArray, List.set_cons_zero, List.set_cons_succ]
        refine takeAt 33 95 (.agg (bitsA S)) rfl rfl (by kernel_rfl) (by kernel_rfl) (by kernel_rfl) (fun _ _ _ h => h) (loadA_t rfl rfl (by rfl)) hT9 ?_
        simp only [Act.put, List.setIfInBounds_toArray, List.set_cons_zero, List.set_cons_succ]
        refine callAt 31 93 rfl rfl (by kernel_rfl) (by rfl) (by kernel_rfl) (fold_any S _) ?_
        rintro e w' ⟨rfl, hb⟩
        refine ⟨_, rfl, hT9.call hb, ?_⟩
        have hT10 := hT9.call hb
        clear hT9 hb
        simp only [Act.put, List.setIfInBounds_toArray, List.set_cons_zero, List.set_cons_succ]
        refine takeAt 32 94 (setV (foldS S)) rfl rfl (by kernel_rfl) (by kernel_rfl) (by kernel_rfl) (fun _ _ _ h => h) (yields (by rfl) (fun w => by kernel_rfl)) hT10 ?_
        simp only [Act.put, List.setIfInBounds_toArray, List.set_cons_zero, List.set_cons_succ]
        refine callAt 34 96 rfl rfl (by kernel_rfl) (by rfl) (by kernel_rfl) (rfold_any S _) ?_
        rintro e w' ⟨rfl, hb⟩
        refine ⟨_, rfl, hT10.call hb, ?_⟩
        have hT11 := hT10.call hb
        clear hT10 hb
        simp only [Act.put, List.setIfInBounds_toArray, List.set_cons_zero, List.set_cons_succ]
        refine callAt 35 97 rfl rfl (by kernel_rfl) (by rfl) (by kernel_rfl) (rwords_any (foldS S) _) ?_
        rintro e w' ⟨rfl, hb⟩
        refine ⟨_, rfl, hT11.call hb, ?_⟩
        have hT12 := hT11.call hb
        clear hT11 hb
        simp only [Act.put, List.setIfInBounds_toArray, List.set_cons_zero, List.set_cons_succ]
        refine takeAt 36 98 (.bool true) rfl rfl (by kernel_rfl) (by kernel_rfl) (by kernel_rfl) (fun _ _ _ h => h) (eqW_y (foldS S) rfl rfl rfl (by rfl)) hT12 ?_
        simp only [Act.put, List.setIfInBounds_toArray, List.set_cons_zero, List.set_cons_succ]
        refine takeAt 37 99 (.bool true) rfl rfl (by kernel_rfl) (by kernel_rfl) (by kernel_rfl) (fun _ _ _ h => h) (yields (by rfl) (fun w => by kernel_rfl)) hT12 ?_
        simp only [Act.put, List.setIfInBounds_toArray, List.set_cons_zero, List.set_cons_succ]
        refine takeAt 38 100 (.bool true) rfl rfl (by kernel_rfl) (by kernel_rfl) (by kernel_rfl) (fun _ _ _ h => h) (yields (by rfl) (fun w => by kernel_rfl)) hT12 ?_
        simp only [Act.put, List.setIfInBounds_toArray, List.set_cons_zero, List.set_cons_succ]
        refine callAt 39 101 rfl rfl (by kernel_rfl) (by rfl) (by kernel_rfl) (hT12.fix HF.out) ?_
        rintro e w' ⟨rfl, hb⟩
        refine ⟨_, rfl, hT12.call hb, ?_⟩
        have hT13 := hT12.call hb
        clear hT12 hb
        simp only [Act.put, List.setIfInBounds_toArray, List.set_cons_zero, List.set_cons_succ]
        refine takeAt 40 102 (.bool true) rfl rfl (by kernel_rfl) (by kernel_rfl) (by kernel_rfl) (fun _ _ _ h => h) (yields (by rfl) (fun w => by kernel_rfl)) hT13 ?_
        simp only [Act.put, List.setIfInBounds_toArray, List.set_cons_zero, List.set_cons_succ]
        refine takeAt 41 6 (.bool true) rfl rfl (by kernel_rfl) (by kernel_rfl) (by kernel_rfl) (fun _ _ _ h => h) (yields (by rfl) (fun w => by kernel_rfl)) hT13 ?_
        simp only [Act.put, List.setIfInBounds_toArray, List.set_cons_zero, List.set_cons_succ]
        as_aux_lemma =>
          refine wpAnyH_done (by kernel_rfl) ?_ _
          go_wp2
          go_ret
          exact ⟨rfl, hT13.1.2.1⟩

theorem classTells_walk (hfix : FixedOk) (S T : BitVec 256) (c : Nat) (w : World) (ht : TabOk w) (hc : c < 256) :
    Calls Tryd.prog 3 #[setV S, setV T, .int .u8 (c : Int)] w fun e w' => e = .returned (.bool true) ∧ Below w.heap.size w w' := by
  by_cases hz : S = 0#256
  · cases hB : mem S c
    · exact classTells_Zfalse hfix S T c w ht hc hz hB
    · exact classTells_Ztrue hfix S T c w ht hc hz hB
  · cases hB : mem S c
    · exact classTells_Pfalse hfix S T c w ht hc hz hB
    · exact classTells_Ptrue hfix S T c w ht hc hz hB
end Go.Proofs.YtobhhhopkkcdiaaDoor
