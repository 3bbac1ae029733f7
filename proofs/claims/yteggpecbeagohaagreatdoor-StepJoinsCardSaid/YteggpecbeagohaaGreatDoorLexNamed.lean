import Derived.Test.YteggpecbeagohaaGreatDoorLexRuneM
import Derived.Deep.DeepCutAuto
import Derived.Test.YteggpecbeagohaaGreatDoorMz
namespace Go.Proofs.YteggpecbeagohaaGreatDoor
open Go.RowKit
def wordC : BitVec 256 := foldS (span 97 123) ||| span 48 58 ||| oneS 95
def blankC : BitVec 256 := span 9 14 ||| oneS 32
theorem wordC_eq : wordC = wordS := by decide +kernel
theorem blankC_eq : blankC = spaceS := by decide +kernel
theorem not_eq (S : BitVec 256) : ~~~S = notS' S := by
 apply BitVec.eq_of_getLsbD_eq
 intro i hi
 unfold notS'
 rw [ofPred_bit]
 simp [hi, mem]
theorem loadB_yields {ops : Array Oper} {a : Act} {o : Oper} {x : Operand} {S : World → Prop} (g : Nat) (T : BitVec 256) (ho : o.op = .load 74 x) (hx : a.eval x = .pointer (some ⟨g, 0, none⟩)) (hm : ∀ w, S w → Box w g T)
  (hw : Region.wanted o (yielded ops a.tmps) = true) : YieldsIf Tryz.prog ops S o (setV T) a := by
 refine Or.inl ⟨hw, fun w h => ?_⟩
 have hb : Box w g T := hm w h
 unfold execOp
 simp only [ho, hx, Instr.loadAt, Instr.sureAddr, Sem.run_bind, Sem.run_pure, Result.andThen_ok, run_loadVar_row w g _ _ _ _ _ hb Tryz.underlying74 rfl sizeSet]
structure Hold (w W : World) (g : Nat) (D : BitVec 256) : Prop where
 box : Box W g D
 zero : Box W w.heap.size 0#256
 below : Below w.heap.size w W
section
variable {w W W' : World} {g : Nat} {D : BitVec 256}
theorem Hold.call (h : Hold w W g D) (hb : Below W.heap.size W W') : Hold w W' g D := ⟨h.box.call hb, h.zero.call hb, thenB h.below hb h.below.size⟩
theorem Hold.alloc (h : Hold w W g D) (o : Obj) : Hold w (W.alloc o) g D := ⟨h.box.alloc o, h.zero.alloc o, h.below.alloc h.below.size o⟩
theorem Hold.row (h : Hold w W g D) {k : Nat} (h1 : g < k) (h2 : w.heap.size < k) (cs : Array Value) : Hold w (W.setRow k cs) g D := ⟨(setRow_other W k g cs (Nat.ne_of_lt h1)).trans h.box, (setRow_other W k _ cs (Nat.ne_of_lt h2)).trans h.zero, below_row h.below (Nat.le_of_lt h2) cs⟩
theorem Hold.drew (h : Hold w W g D) : Hold w W.drew g D := ⟨h.box, h.zero, h.below.drew⟩
end
set_option maxRecDepth 100000 in
set_option maxHeartbeats 8000000 in
theorem named_any (c : Nat) (w : World) (hc : c < 256) : Calls Tryz.prog 109 #[.int .u8 (c : Int)] w fun e w' => e = .returned (.tuple #[setV ((nameS c).getD 0#256), .bool (nameS c).isSome]) ∧ Below w.heap.size w w' := by
 have HR1 := Lib.hid (fun w => range_any 48 57 w (by decide) (by decide) (by decide) (by decide))
 have HR2 := Lib.hid (fun w => range_any 97 122 w (by decide) (by decide) (by decide) (by decide))
 have HF := Lib.hid (fun w => fold_any (span 97 123) w)
 have HO1 := Lib.hid (fun w => or_any (foldS (span 97 123)) (span 48 58) w)
 have H95 := Lib.hid (fun w => one_at 95 95 w rfl (by decide))
 have HO2 := Lib.hid (fun w => or_any (foldS (span 97 123) ||| span 48 58) (oneS 95) w)
 have HR3 := Lib.hid (fun w => range_any 9 13 w (by decide) (by decide) (by decide) (by decide))
 have H32 := Lib.hid (fun w => one_at 32 32 w rfl (by decide))
 have HO3 := Lib.hid (fun w => or_any (span 9 14) (oneS 32) w)
 rw [show span (48 : Int).toNat ((57 : Int).toNat + 1) = span 48 58 from rfl] at HR1
 rw [show span (97 : Int).toNat ((122 : Int).toNat + 1) = span 97 123 from rfl] at HR2
 rw [show span (9 : Int).toNat ((13 : Int).toNat + 1) = span 9 14 from rfl] at HR3
 rw [one_eq (by decide)] at H95 H32
 rw [show foldS (span 97 123) ||| span 48 58 ||| oneS 95 = wordC from rfl] at HO2
 rw [show span 9 14 ||| oneS 32 = blankC from rfl] at HO3
 have hD : span 48 58 = digS := rfl
 revert HR1 HR2 HF HO1 H95 HO2 HR3 H32 HO3 hD
 generalize foldS (span 97 123) ||| span 48 58 = G
 generalize foldS (span 97 123) = F
 generalize span 97 123 = A
 generalize span 48 58 = D
 generalize span 9 14 = B
 generalize oneS 95 = U
 generalize oneS 32 = Z
 intro HR1 HR2 HF HO1 H95 HO2 HR3 H32 HO3 hD
 have HD := Lib.hid hD
 clear hD
 go_enter Tryz.func109, Tryz.ntmps109
 go_upto_region 2 with (refine (HR1.out _).mono ?_; rintro e w1 ⟨rfl, hb⟩; obtain ⟨hc1, hf1⟩ := bcell hb; have HB := Lib.hid hb; clear hb)
 have HH := Lib.hid (show Hold w (w1.alloc (.cells #[.int .u64 (W D 0), .int .u64 (W D 1), .int .u64 (W D 2), .int .u64 (W D 3)] 74)) w1.heap.size D from ⟨Box.new _ _, ((Box.zero (heap_alloc_new _ _)).call HB.out).alloc _, ((((Below.refl _ w).alloc (Nat.le_refl _) _).trans (HB.out.mono (by simp)))).alloc (by have := HB.out.size; simp at this; omega) _⟩)
 go_cut [5] (fun s5 wx => ∃ g5 : Nat, s5 = .pointer (some ⟨g5, 0, none⟩) ∧ Box wx g5 wordC ∧ Hold w wx w1.heap.size D)
 case first =>
  have hS0 := HH.out
  clear HH
  generalize World.alloc w1 _ = u0 at hS0 ⊢
  have HSD := hS0.drew
  refine wp_region_held_drew (S := fun u => Hold w u w1.heap.size D) (by kernel_rfl) HSD (fun _ => ?_)
  generalize World.drew u0 = UD at HSD ⊢
  refine takeAt 2 10 (setV D) rfl rfl (by kernel_rfl) (by kernel_rfl) (by kernel_rfl) i_ (loadB_yields w1.heap.size D rfl rfl (fun _ h => h.box) (by rfl)) HSD ?_
  simp only [Act.put, sA_, s0_, sS_]
  refine wpAnyH_ready (rs := [0, 6]) (by kernel_rfl) (by simp) (AllReadyH.cons rfl (callStep 0 8 rfl (by rfl) (by kernel_rfl) (HR2.out UD) ?_) (AllReadyH.cons rfl (valStep 6 5 (.pointer (some ⟨UD.heap.size, 0, none⟩)) (World.alloc UD (.cells #[.int .u64 0, .int .u64 0, .int .u64 0, .int .u64 0] 74)) rfl (by rfl) (by kernel_rfl) (HSD.alloc _) ?_) (AllReadyH.nil)))
  ·rintro e u1 ⟨rfl, hb⟩
   have hS2 := HSD.call hb
   clear hb
   refine ⟨_, rfl, hS2, ?_⟩
   simp only [Act.put, sA_, s0_, sS_]
   refine wpAnyH_ready (rs := [1, 6]) (by kernel_rfl) (by simp) (AllReadyH.cons rfl (callStep 1 9 rfl (by rfl) (by kernel_rfl) (HF.out u1) ?_) (AllReadyH.cons rfl (valStep 6 5 (.pointer (some ⟨u1.heap.size, 0, none⟩)) (World.alloc u1 (.cells #[.int .u64 0, .int .u64 0, .int .u64 0, .int .u64 0] 74)) rfl (by rfl) (by kernel_rfl) (hS2.alloc _) ?_) (AllReadyH.nil)))
   ·rintro e u3 ⟨rfl, hb⟩
    have hS4 := hS2.call hb
    clear hb
    refine ⟨_, rfl, hS4, ?_⟩
    simp only [Act.put, sA_, s0_, sS_]
    refine wpAnyH_ready (rs := [3, 6]) (by kernel_rfl) (by simp) (AllReadyH.cons rfl (callStep 3 11 rfl (by rfl) (by kernel_rfl) (HO1.out u3) ?_) (AllReadyH.cons rfl (valStep 6 5 (.pointer (some ⟨u3.heap.size, 0, none⟩)) (World.alloc u3 (.cells #[.int .u64 0, .int .u64 0, .int .u64 0, .int .u64 0] 74)) rfl (by rfl) (by kernel_rfl) (hS4.alloc _) ?_) (AllReadyH.nil)))
    ·rintro e u5 ⟨rfl, hb⟩
     have hS6 := hS4.call hb
     clear hb
     refine ⟨_, rfl, hS6, ?_⟩
     simp only [Act.put, sA_, s0_, sS_]
     refine wpAnyH_ready (rs := [4, 6]) (by kernel_rfl) (by simp) (AllReadyH.cons rfl (callStep 4 12 rfl (by rfl) (by kernel_rfl) (H95.out u5) ?_) (AllReadyH.cons rfl (valStep 6 5 (.pointer (some ⟨u5.heap.size, 0, none⟩)) (World.alloc u5 (.cells #[.int .u64 0, .int .u64 0, .int .u64 0, .int .u64 0] 74)) rfl (by rfl) (by kernel_rfl) (hS6.alloc _) ?_) (AllReadyH.nil)))
     ·rintro e u7 ⟨rfl, hb⟩
      have hS8 := hS6.call hb
      clear hb
      refine ⟨_, rfl, hS8, ?_⟩
      simp only [Act.put, sA_, s0_, sS_]
      refine wpAnyH_ready (rs := [5, 6]) (by kernel_rfl) (by simp) (AllReadyH.cons rfl (callStep 5 13 rfl (by rfl) (by kernel_rfl) (HO2.out u7) ?_) (AllReadyH.cons rfl (valStep 6 5 (.pointer (some ⟨u7.heap.size, 0, none⟩)) (World.alloc u7 (.cells #[.int .u64 0, .int .u64 0, .int .u64 0, .int .u64 0] 74)) rfl (by rfl) (by kernel_rfl) (hS8.alloc _) ?_) (AllReadyH.nil)))
      ·rintro e u9 ⟨rfl, hb⟩
       have hS10 := hS8.call hb
       clear hb
       refine ⟨_, rfl, hS10, ?_⟩
       simp only [Act.put, sA_, s0_, sS_]
       refine valAt 6 5 (.pointer (some ⟨u9.heap.size, 0, none⟩)) (World.alloc u9 (.cells #[.int .u64 0, .int .u64 0, .int .u64 0, .int .u64 0] 74)) rfl rfl (by kernel_rfl) (by rfl) (by kernel_rfl) (hS10.alloc _) ?_
       have hS12 := hS10.alloc (.cells #[.int .u64 0, .int .u64 0, .int .u64 0, .int .u64 0] 74)
       have hx14 : Box (World.alloc u9 (.cells #[.int .u64 0, .int .u64 0, .int .u64 0, .int .u64 0] 74)) u9.heap.size 0#256 := Box.zero (heap_alloc_new _ _)
       have d15 := hS10.box.lt
       have d16 := hS10.zero.lt
       generalize World.alloc u9 (.cells #[.int .u64 0, .int .u64 0, .int .u64 0, .int .u64 0] 74) = u11 at hS12 hx14 ⊢
       generalize u9.heap.size = g13 at hx14 d15 d16 ⊢
       simp only [Act.put, sA_, s0_, sS_]
       refine rowAt 7 74 g13 #[.int .u64 (W 0#256 0), .int .u64 (W 0#256 1), .int .u64 (W 0#256 2), .int .u64 (W 0#256 3)] #[.int .u64 (W wordC 0), .int .u64 (W wordC 1), .int .u64 (W wordC 2), .int .u64 (W wordC 3)] rfl rfl rfl (by kernel_rfl) (by rfl) rfl rfl hx14 sizeSet rfl (by simp [Value.oneCell']) (hS12.row d15 d16 _) ?_
       refine wpAnyH_done (by kernel_rfl) ?_ _
       go_wp2_with fail
       go_meet
       exact ⟨g13, rfl, setRow_heap _ g13 _ _ _ _ hx14, hS12.row d15 d16 _⟩
      ·have hS18 := hS8.alloc (.cells #[.int .u64 0, .int .u64 0, .int .u64 0, .int .u64 0] 74)
       have hx20 : Box (World.alloc u7 (.cells #[.int .u64 0, .int .u64 0, .int .u64 0, .int .u64 0] 74)) u7.heap.size 0#256 := Box.zero (heap_alloc_new _ _)
       have d21 := hS8.box.lt
       have d22 := hS8.zero.lt
       generalize World.alloc u7 (.cells #[.int .u64 0, .int .u64 0, .int .u64 0, .int .u64 0] 74) = u17 at hS18 hx20 ⊢
       generalize u7.heap.size = g19 at hx20 d21 d22 ⊢
       simp only [Act.put, sA_, s0_, sS_]
       refine callAt 5 13 rfl rfl (by kernel_rfl) (by rfl) (by kernel_rfl) (HO2.out u17) ?_
       rintro e u23 ⟨rfl, hb⟩
       have hS24 := hS18.call hb
       have hx25 := Box.call hx20 hb
       clear hb
       refine ⟨_, rfl, hS24, ?_⟩
       simp only [Act.put, sA_, s0_, sS_]
       refine rowAt 7 74 g19 #[.int .u64 (W 0#256 0), .int .u64 (W 0#256 1), .int .u64 (W 0#256 2), .int .u64 (W 0#256 3)] #[.int .u64 (W wordC 0), .int .u64 (W wordC 1), .int .u64 (W wordC 2), .int .u64 (W wordC 3)] rfl rfl rfl (by kernel_rfl) (by rfl) rfl rfl hx25 sizeSet rfl (by simp [Value.oneCell']) (hS24.row d21 d22 _) ?_
       refine wpAnyH_done (by kernel_rfl) ?_ _
       go_wp2_with fail
       go_meet
       exact ⟨g19, rfl, setRow_heap _ g19 _ _ _ _ hx25, hS24.row d21 d22 _⟩
     ·have hS27 := hS6.alloc (.cells #[.int .u64 0, .int .u64 0, .int .u64 0, .int .u64 0] 74)
      have hx29 : Box (World.alloc u5 (.cells #[.int .u64 0, .int .u64 0, .int .u64 0, .int .u64 0] 74)) u5.heap.size 0#256 := Box.zero (heap_alloc_new _ _)
      have d30 := hS6.box.lt
      have d31 := hS6.zero.lt
      generalize World.alloc u5 (.cells #[.int .u64 0, .int .u64 0, .int .u64 0, .int .u64 0] 74) = u26 at hS27 hx29 ⊢
      generalize u5.heap.size = g28 at hx29 d30 d31 ⊢
      simp only [Act.put, sA_, s0_, sS_]
      refine callAt 4 12 rfl rfl (by kernel_rfl) (by rfl) (by kernel_rfl) (H95.out u26) ?_
      rintro e u32 ⟨rfl, hb⟩
      have hS33 := hS27.call hb
      have hx34 := Box.call hx29 hb
      clear hb
      refine ⟨_, rfl, hS33, ?_⟩
      simp only [Act.put, sA_, s0_, sS_]
      refine callAt 5 13 rfl rfl (by kernel_rfl) (by rfl) (by kernel_rfl) (HO2.out u32) ?_
      rintro e u35 ⟨rfl, hb⟩
      have hS36 := hS33.call hb
      have hx37 := Box.call hx34 hb
      clear hb
      refine ⟨_, rfl, hS36, ?_⟩
      simp only [Act.put, sA_, s0_, sS_]
      refine rowAt 7 74 g28 #[.int .u64 (W 0#256 0), .int .u64 (W 0#256 1), .int .u64 (W 0#256 2), .int .u64 (W 0#256 3)] #[.int .u64 (W wordC 0), .int .u64 (W wordC 1), .int .u64 (W wordC 2), .int .u64 (W wordC 3)] rfl rfl rfl (by kernel_rfl) (by rfl) rfl rfl hx37 sizeSet rfl (by simp [Value.oneCell']) (hS36.row d30 d31 _) ?_
      refine wpAnyH_done (by kernel_rfl) ?_ _
      go_wp2_with fail
      go_meet
      exact ⟨g28, rfl, setRow_heap _ g28 _ _ _ _ hx37, hS36.row d30 d31 _⟩
    ·have hS39 := hS4.alloc (.cells #[.int .u64 0, .int .u64 0, .int .u64 0, .int .u64 0] 74)
     have hx41 : Box (World.alloc u3 (.cells #[.int .u64 0, .int .u64 0, .int .u64 0, .int .u64 0] 74)) u3.heap.size 0#256 := Box.zero (heap_alloc_new _ _)
     have d42 := hS4.box.lt
     have d43 := hS4.zero.lt
     generalize World.alloc u3 (.cells #[.int .u64 0, .int .u64 0, .int .u64 0, .int .u64 0] 74) = u38 at hS39 hx41 ⊢
     generalize u3.heap.size = g40 at hx41 d42 d43 ⊢
     simp only [Act.put, sA_, s0_, sS_]
     refine callAt 3 11 rfl rfl (by kernel_rfl) (by rfl) (by kernel_rfl) (HO1.out u38) ?_
     rintro e u44 ⟨rfl, hb⟩
     have hS45 := hS39.call hb
     have hx46 := Box.call hx41 hb
     clear hb
     refine ⟨_, rfl, hS45, ?_⟩
     simp only [Act.put, sA_, s0_, sS_]
     refine callAt 4 12 rfl rfl (by kernel_rfl) (by rfl) (by kernel_rfl) (H95.out u44) ?_
     rintro e u47 ⟨rfl, hb⟩
     have hS48 := hS45.call hb
     have hx49 := Box.call hx46 hb
     clear hb
     refine ⟨_, rfl, hS48, ?_⟩
     simp only [Act.put, sA_, s0_, sS_]
     refine callAt 5 13 rfl rfl (by kernel_rfl) (by rfl) (by kernel_rfl) (HO2.out u47) ?_
     rintro e u50 ⟨rfl, hb⟩
     have hS51 := hS48.call hb
     have hx52 := Box.call hx49 hb
     clear hb
     refine ⟨_, rfl, hS51, ?_⟩
     simp only [Act.put, sA_, s0_, sS_]
     refine rowAt 7 74 g40 #[.int .u64 (W 0#256 0), .int .u64 (W 0#256 1), .int .u64 (W 0#256 2), .int .u64 (W 0#256 3)] #[.int .u64 (W wordC 0), .int .u64 (W wordC 1), .int .u64 (W wordC 2), .int .u64 (W wordC 3)] rfl rfl rfl (by kernel_rfl) (by rfl) rfl rfl hx52 sizeSet rfl (by simp [Value.oneCell']) (hS51.row d42 d43 _) ?_
     refine wpAnyH_done (by kernel_rfl) ?_ _
     go_wp2_with fail
     go_meet
     exact ⟨g40, rfl, setRow_heap _ g40 _ _ _ _ hx52, hS51.row d42 d43 _⟩
   ·have hS54 := hS2.alloc (.cells #[.int .u64 0, .int .u64 0, .int .u64 0, .int .u64 0] 74)
    have hx56 : Box (World.alloc u1 (.cells #[.int .u64 0, .int .u64 0, .int .u64 0, .int .u64 0] 74)) u1.heap.size 0#256 := Box.zero (heap_alloc_new _ _)
    have d57 := hS2.box.lt
    have d58 := hS2.zero.lt
    generalize World.alloc u1 (.cells #[.int .u64 0, .int .u64 0, .int .u64 0, .int .u64 0] 74) = u53 at hS54 hx56 ⊢
    generalize u1.heap.size = g55 at hx56 d57 d58 ⊢
    simp only [Act.put, sA_, s0_, sS_]
    refine callAt 1 9 rfl rfl (by kernel_rfl) (by rfl) (by kernel_rfl) (HF.out u53) ?_
    rintro e u59 ⟨rfl, hb⟩
    have hS60 := hS54.call hb
    have hx61 := Box.call hx56 hb
    clear hb
    refine ⟨_, rfl, hS60, ?_⟩
    simp only [Act.put, sA_, s0_, sS_]
    refine callAt 3 11 rfl rfl (by kernel_rfl) (by rfl) (by kernel_rfl) (HO1.out u59) ?_
    rintro e u62 ⟨rfl, hb⟩
    have hS63 := hS60.call hb
    have hx64 := Box.call hx61 hb
    clear hb
    refine ⟨_, rfl, hS63, ?_⟩
    simp only [Act.put, sA_, s0_, sS_]
    refine callAt 4 12 rfl rfl (by kernel_rfl) (by rfl) (by kernel_rfl) (H95.out u62) ?_
    rintro e u65 ⟨rfl, hb⟩
    have hS66 := hS63.call hb
    have hx67 := Box.call hx64 hb
    clear hb
    refine ⟨_, rfl, hS66, ?_⟩
    simp only [Act.put, sA_, s0_, sS_]
    refine callAt 5 13 rfl rfl (by kernel_rfl) (by rfl) (by kernel_rfl) (HO2.out u65) ?_
    rintro e u68 ⟨rfl, hb⟩
    have hS69 := hS66.call hb
    have hx70 := Box.call hx67 hb
    clear hb
    refine ⟨_, rfl, hS69, ?_⟩
    simp only [Act.put, sA_, s0_, sS_]
    refine rowAt 7 74 g55 #[.int .u64 (W 0#256 0), .int .u64 (W 0#256 1), .int .u64 (W 0#256 2), .int .u64 (W 0#256 3)] #[.int .u64 (W wordC 0), .int .u64 (W wordC 1), .int .u64 (W wordC 2), .int .u64 (W wordC 3)] rfl rfl rfl (by kernel_rfl) (by rfl) rfl rfl hx70 sizeSet rfl (by simp [Value.oneCell']) (hS69.row d57 d58 _) ?_
    refine wpAnyH_done (by kernel_rfl) ?_ _
    go_wp2_with fail
    go_meet
    exact ⟨g55, rfl, setRow_heap _ g55 _ _ _ _ hx70, hS69.row d57 d58 _⟩
  ·have hS72 := HSD.alloc (.cells #[.int .u64 0, .int .u64 0, .int .u64 0, .int .u64 0] 74)
   have hx74 : Box (World.alloc UD (.cells #[.int .u64 0, .int .u64 0, .int .u64 0, .int .u64 0] 74)) UD.heap.size 0#256 := Box.zero (heap_alloc_new _ _)
   have d75 := HSD.box.lt
   have d76 := HSD.zero.lt
   generalize World.alloc UD (.cells #[.int .u64 0, .int .u64 0, .int .u64 0, .int .u64 0] 74) = u71 at hS72 hx74 ⊢
   generalize UD.heap.size = g73 at hx74 d75 d76 ⊢
   simp only [Act.put, sA_, s0_, sS_]
   refine callAt 0 8 rfl rfl (by kernel_rfl) (by rfl) (by kernel_rfl) (HR2.out u71) ?_
   rintro e u77 ⟨rfl, hb⟩
   have hS78 := hS72.call hb
   have hx79 := Box.call hx74 hb
   clear hb
   refine ⟨_, rfl, hS78, ?_⟩
   simp only [Act.put, sA_, s0_, sS_]
   refine callAt 1 9 rfl rfl (by kernel_rfl) (by rfl) (by kernel_rfl) (HF.out u77) ?_
   rintro e u80 ⟨rfl, hb⟩
   have hS81 := hS78.call hb
   have hx82 := Box.call hx79 hb
   clear hb
   refine ⟨_, rfl, hS81, ?_⟩
   simp only [Act.put, sA_, s0_, sS_]
   refine callAt 3 11 rfl rfl (by kernel_rfl) (by rfl) (by kernel_rfl) (HO1.out u80) ?_
   rintro e u83 ⟨rfl, hb⟩
   have hS84 := hS81.call hb
   have hx85 := Box.call hx82 hb
   clear hb
   refine ⟨_, rfl, hS84, ?_⟩
   simp only [Act.put, sA_, s0_, sS_]
   refine callAt 4 12 rfl rfl (by kernel_rfl) (by rfl) (by kernel_rfl) (H95.out u83) ?_
   rintro e u86 ⟨rfl, hb⟩
   have hS87 := hS84.call hb
   have hx88 := Box.call hx85 hb
   clear hb
   refine ⟨_, rfl, hS87, ?_⟩
   simp only [Act.put, sA_, s0_, sS_]
   refine callAt 5 13 rfl rfl (by kernel_rfl) (by rfl) (by kernel_rfl) (HO2.out u86) ?_
   rintro e u89 ⟨rfl, hb⟩
   have hS90 := hS87.call hb
   have hx91 := Box.call hx88 hb
   clear hb
   refine ⟨_, rfl, hS90, ?_⟩
   simp only [Act.put, sA_, s0_, sS_]
   refine rowAt 7 74 g73 #[.int .u64 (W 0#256 0), .int .u64 (W 0#256 1), .int .u64 (W 0#256 2), .int .u64 (W 0#256 3)] #[.int .u64 (W wordC 0), .int .u64 (W wordC 1), .int .u64 (W wordC 2), .int .u64 (W wordC 3)] rfl rfl rfl (by kernel_rfl) (by rfl) rfl rfl hx91 sizeSet rfl (by simp [Value.oneCell']) (hS90.row d75 d76 _) ?_
   refine wpAnyH_done (by kernel_rfl) ?_ _
   go_wp2_with fail
   go_meet
   exact ⟨g73, rfl, setRow_heap _ g73 _ _ _ _ hx91, hS90.row d75 d76 _⟩
 case rest =>
  obtain ⟨g5, rfl, hB5, hH⟩ := hcut
  have HN1 := Lib.hid (fun w => not_any D w)
  have HN2 := Lib.hid (fun w => not_any wordC w)
  have HN3 := Lib.hid (fun w => not_any blankC w)
  go_upto_region 4 with (first | (refine (HR3.out _).mono ?_; rintro e w5 ⟨rfl, hb⟩; have hH := Hold.call hH hb; have hB5 := Box.call hB5 hb; clear hb) | (refine (H32.out _).mono ?_; rintro e w5 ⟨rfl, hb⟩; have hH := Hold.call hH hb; have hB5 := Box.call hB5 hb; clear hb) | (refine (HO3.out _).mono ?_; rintro e w5 ⟨rfl, hb⟩; have hH := Hold.call hH hb; have hB5 := Box.call hB5 hb; clear hb))
  have hB6 : Box (World.alloc w5 (.cells #[.int .u64 (W blankC 0), .int .u64 (W blankC 1), .int .u64 (W blankC 2), .int .u64 (W blankC 3)] 74)) w5.heap.size blankC := Box.new _ _
  have hB5 := hB5.alloc (.cells #[.int .u64 (W blankC 0), .int .u64 (W blankC 1), .int .u64 (W blankC 2), .int .u64 (W blankC 3)] 74)
  have hH := hH.alloc (.cells #[.int .u64 (W blankC 0), .int .u64 (W blankC 1), .int .u64 (W blankC 2), .int .u64 (W blankC 3)] 74)
  generalize World.alloc w5 _ = V at hB5 hB6 hH ⊢
  generalize w5.heap.size = g6 at hB6 ⊢
  generalize w1.heap.size = g4 at hH ⊢
  obtain ⟨a0, a1, a2, a3⟩ := hH.box.cells
  obtain ⟨b0, b1, b2, b3⟩ := hB5.cells
  obtain ⟨c0, c1, c2, c3⟩ := hB6.cells
  obtain ⟨z0, z1, z2, z3⟩ := hH.zero.cells
  have zf := hH.zero.free
  have HH2 := Lib.hid hH
  clear hH hB5 hB6 HR1 HR2 HF HO1 H95 HO2 HR3 H32 HO3
  by_cases q0 : c = 100
  ·have p0 : (c : Int) = 100 := by omega
   have HX : Hid (nameS c = some (digS)) := Lib.hid (by subst q0; rfl)
   clear q0
   go_wp2_with fail
   have hZ := HH2.out.zero.set (D)
   have hZb := below_setW HH2.out.below (Nat.le_refl _) (D)
   refine bodyPost_ret (resS2 (p := 2) (u := 3) (S := D) (v := .bool true) rfl _ (g := w.heap.size) rfl rfl hZ) rfl ⟨?_, hZb⟩
   rw [HX.out, HD.out]
   rfl
  ·have p0 : ¬ (c : Int) = 100 := by omega
   by_cases q1 : c = 68
   ·have p1 : (c : Int) = 68 := by omega
    have HX : Hid (nameS c = some (notS' digS)) := Lib.hid (by subst q1; rfl)
    clear q1 q0
    go_wp2_with fail
    refine (HN1.out _).mono ?_
    rintro e w6 ⟨rfl, hb⟩
    have hH6 := HH2.out.call hb
    obtain ⟨y0, y1, y2, y3⟩ := hH6.zero.cells
    have yf := hH6.zero.free
    have HH6 := Lib.hid hH6
    clear hH6 hb
    go_wp2_with fail
    have hZ := HH6.out.zero.set (~~~D)
    have hZb := below_setW HH6.out.below (Nat.le_refl _) (~~~D)
    refine bodyPost_ret (resS2 (p := 2) (u := 3) (S := ~~~D) (v := .bool true) rfl _ (g := w.heap.size) rfl rfl hZ) rfl ⟨?_, hZb⟩
    rw [HX.out, not_eq, HD.out]
    rfl
   ·have p1 : ¬ (c : Int) = 68 := by omega
    by_cases q2 : c = 119
    ·have p2 : (c : Int) = 119 := by omega
     have HX : Hid (nameS c = some (wordS)) := Lib.hid (by subst q2; rfl)
     clear q2 q0 q1
     go_wp2_with fail
     have hZ := HH2.out.zero.set (wordC)
     have hZb := below_setW HH2.out.below (Nat.le_refl _) (wordC)
     refine bodyPost_ret (resS2 (p := 2) (u := 3) (S := wordC) (v := .bool true) rfl _ (g := w.heap.size) rfl rfl hZ) rfl ⟨?_, hZb⟩
     rw [HX.out, wordC_eq]
     rfl
    ·have p2 : ¬ (c : Int) = 119 := by omega
     by_cases q3 : c = 87
     ·have p3 : (c : Int) = 87 := by omega
      have HX : Hid (nameS c = some (notS' wordS)) := Lib.hid (by subst q3; rfl)
      clear q3 q0 q1 q2
      go_wp2_with fail
      refine (HN2.out _).mono ?_
      rintro e w6 ⟨rfl, hb⟩
      have hH6 := HH2.out.call hb
      obtain ⟨y0, y1, y2, y3⟩ := hH6.zero.cells
      have yf := hH6.zero.free
      have HH6 := Lib.hid hH6
      clear hH6 hb
      go_wp2_with fail
      have hZ := HH6.out.zero.set (~~~wordC)
      have hZb := below_setW HH6.out.below (Nat.le_refl _) (~~~wordC)
      refine bodyPost_ret (resS2 (p := 2) (u := 3) (S := ~~~wordC) (v := .bool true) rfl _ (g := w.heap.size) rfl rfl hZ) rfl ⟨?_, hZb⟩
      rw [HX.out, not_eq, wordC_eq]
      rfl
     ·have p3 : ¬ (c : Int) = 87 := by omega
      by_cases q4 : c = 115
      ·have p4 : (c : Int) = 115 := by omega
       have HX : Hid (nameS c = some (spaceS)) := Lib.hid (by subst q4; rfl)
       clear q4 q0 q1 q2 q3
       go_wp2_with fail
       have hZ := HH2.out.zero.set (blankC)
       have hZb := below_setW HH2.out.below (Nat.le_refl _) (blankC)
       refine bodyPost_ret (resS2 (p := 2) (u := 3) (S := blankC) (v := .bool true) rfl _ (g := w.heap.size) rfl rfl hZ) rfl ⟨?_, hZb⟩
       rw [HX.out, blankC_eq]
       rfl
      ·have p4 : ¬ (c : Int) = 115 := by omega
       by_cases q5 : c = 83
       ·have p5 : (c : Int) = 83 := by omega
        have HX : Hid (nameS c = some (notS' spaceS)) := Lib.hid (by subst q5; rfl)
        clear q5 q0 q1 q2 q3 q4
        go_wp2_with fail
        refine (HN3.out _).mono ?_
        rintro e w6 ⟨rfl, hb⟩
        have hH6 := HH2.out.call hb
        obtain ⟨y0, y1, y2, y3⟩ := hH6.zero.cells
        have yf := hH6.zero.free
        have HH6 := Lib.hid hH6
        clear hH6 hb
        go_wp2_with fail
        have hZ := HH6.out.zero.set (~~~blankC)
        have hZb := below_setW HH6.out.below (Nat.le_refl _) (~~~blankC)
        refine bodyPost_ret (resS2 (p := 2) (u := 3) (S := ~~~blankC) (v := .bool true) rfl _ (g := w.heap.size) rfl rfl hZ) rfl ⟨?_, hZb⟩
        rw [HX.out, not_eq, blankC_eq]
        rfl
       ·have p5 : ¬ (c : Int) = 83 := by omega
        by_cases q6 : c = 110
        ·have p6 : (c : Int) = 110 := by omega
         have HX : Hid (nameS c = some (oneS 10)) := Lib.hid (by subst q6; rfl)
         clear q6 q0 q1 q2 q3 q4 q5
         go_wp2_with fail
         refine (one_at 10 10 _ rfl (by decide)).mono ?_
         rintro e w6 ⟨rfl, hb⟩
         have hH6 := HH2.out.call hb
         obtain ⟨y0, y1, y2, y3⟩ := hH6.zero.cells
         have yf := hH6.zero.free
         have HH6 := Lib.hid hH6
         clear hH6 hb
         go_wp2_with fail
         have hZ := HH6.out.zero.set (addB 0#256 10)
         have hZb := below_setW HH6.out.below (Nat.le_refl _) (addB 0#256 10)
         refine bodyPost_ret (resS2 (p := 2) (u := 3) (S := addB 0#256 10) (v := .bool true) rfl _ (g := w.heap.size) rfl rfl hZ) rfl ⟨?_, hZb⟩
         rw [HX.out, one_eq (by decide)]
         rfl
        ·have p6 : ¬ (c : Int) = 110 := by omega
         by_cases q7 : c = 116
         ·have p7 : (c : Int) = 116 := by omega
          have HX : Hid (nameS c = some (oneS 9)) := Lib.hid (by subst q7; rfl)
          clear q7 q0 q1 q2 q3 q4 q5 q6
          go_wp2_with fail
          refine (one_at 9 9 _ rfl (by decide)).mono ?_
          rintro e w6 ⟨rfl, hb⟩
          have hH6 := HH2.out.call hb
          obtain ⟨y0, y1, y2, y3⟩ := hH6.zero.cells
          have yf := hH6.zero.free
          have HH6 := Lib.hid hH6
          clear hH6 hb
          go_wp2_with fail
          have hZ := HH6.out.zero.set (addB 0#256 9)
          have hZb := below_setW HH6.out.below (Nat.le_refl _) (addB 0#256 9)
          refine bodyPost_ret (resS2 (p := 2) (u := 3) (S := addB 0#256 9) (v := .bool true) rfl _ (g := w.heap.size) rfl rfl hZ) rfl ⟨?_, hZb⟩
          rw [HX.out, one_eq (by decide)]
          rfl
         ·have p7 : ¬ (c : Int) = 116 := by omega
          by_cases q8 : c = 114
          ·have p8 : (c : Int) = 114 := by omega
           have HX : Hid (nameS c = some (oneS 13)) := Lib.hid (by subst q8; rfl)
           clear q8 q0 q1 q2 q3 q4 q5 q6 q7
           go_wp2_with fail
           refine (one_at 13 13 _ rfl (by decide)).mono ?_
           rintro e w6 ⟨rfl, hb⟩
           have hH6 := HH2.out.call hb
           obtain ⟨y0, y1, y2, y3⟩ := hH6.zero.cells
           have yf := hH6.zero.free
           have HH6 := Lib.hid hH6
           clear hH6 hb
           go_wp2_with fail
           have hZ := HH6.out.zero.set (addB 0#256 13)
           have hZb := below_setW HH6.out.below (Nat.le_refl _) (addB 0#256 13)
           refine bodyPost_ret (resS2 (p := 2) (u := 3) (S := addB 0#256 13) (v := .bool true) rfl _ (g := w.heap.size) rfl rfl hZ) rfl ⟨?_, hZb⟩
           rw [HX.out, one_eq (by decide)]
           rfl
          ·have p8 : ¬ (c : Int) = 114 := by omega
           by_cases q9 : c = 102
           ·have p9 : (c : Int) = 102 := by omega
            have HX : Hid (nameS c = some (oneS 12)) := Lib.hid (by subst q9; rfl)
            clear q9 q0 q1 q2 q3 q4 q5 q6 q7 q8
            go_wp2_with fail
            refine (one_at 12 12 _ rfl (by decide)).mono ?_
            rintro e w6 ⟨rfl, hb⟩
            have hH6 := HH2.out.call hb
            obtain ⟨y0, y1, y2, y3⟩ := hH6.zero.cells
            have yf := hH6.zero.free
            have HH6 := Lib.hid hH6
            clear hH6 hb
            go_wp2_with fail
            have hZ := HH6.out.zero.set (addB 0#256 12)
            have hZb := below_setW HH6.out.below (Nat.le_refl _) (addB 0#256 12)
            refine bodyPost_ret (resS2 (p := 2) (u := 3) (S := addB 0#256 12) (v := .bool true) rfl _ (g := w.heap.size) rfl rfl hZ) rfl ⟨?_, hZb⟩
            rw [HX.out, one_eq (by decide)]
            rfl
           ·have p9 : ¬ (c : Int) = 102 := by omega
            by_cases q10 : c = 118
            ·have p10 : (c : Int) = 118 := by omega
             have HX : Hid (nameS c = some (oneS 11)) := Lib.hid (by subst q10; rfl)
             clear q10 q0 q1 q2 q3 q4 q5 q6 q7 q8 q9
             go_wp2_with fail
             refine (one_at 11 11 _ rfl (by decide)).mono ?_
             rintro e w6 ⟨rfl, hb⟩
             have hH6 := HH2.out.call hb
             obtain ⟨y0, y1, y2, y3⟩ := hH6.zero.cells
             have yf := hH6.zero.free
             have HH6 := Lib.hid hH6
             clear hH6 hb
             go_wp2_with fail
             have hZ := HH6.out.zero.set (addB 0#256 11)
             have hZb := below_setW HH6.out.below (Nat.le_refl _) (addB 0#256 11)
             refine bodyPost_ret (resS2 (p := 2) (u := 3) (S := addB 0#256 11) (v := .bool true) rfl _ (g := w.heap.size) rfl rfl hZ) rfl ⟨?_, hZb⟩
             rw [HX.out, one_eq (by decide)]
             rfl
            ·have p10 : ¬ (c : Int) = 118 := by omega
             have HX : Hid (nameS c = none) := Lib.hid (by unfold nameS; rw [if_neg q0, if_neg q1, if_neg q2, if_neg q3, if_neg q4, if_neg q5, if_neg q6, if_neg q7, if_neg q8, if_neg q9, if_neg q10])
             clear q0 q1 q2 q3 q4 q5 q6 q7 q8 q9 q10
             go_wp2_with fail
             have hZ := HH2.out.zero.set 0#256
             have hZb := below_setW HH2.out.below (Nat.le_refl _) 0#256
             simp only [setW, W_zero] at hZ hZb
             refine bodyPost_ret (resS2 (p := 2) (u := 3) (S := 0#256) (v := .bool false) rfl _ (g := w.heap.size) rfl rfl hZ) rfl ⟨?_, hZb⟩
             rw [HX.out]
             rfl
end Go.Proofs.YteggpecbeagohaaGreatDoor
