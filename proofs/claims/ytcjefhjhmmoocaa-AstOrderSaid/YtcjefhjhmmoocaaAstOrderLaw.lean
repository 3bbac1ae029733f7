/-
  The statement AstOrder: what its walk comes to.
-/
import Derived.Test.YtcjefhjhmmoocaaAstTakes
import Derived.Test.YtcjefhjhmmoocaaAstOrderFacts
namespace Go.Proofs.Ytcjefhjhmmoocaa
open Go.RowKit

/-- The two trees, joined in either order. -/
def Ord (w0 : World) (A : Option Addr) (m cap g : Nat) (l : Nat → Nd) (B : Option Addr) (k cap' g' : Nat) (l' : Nat → Nd) (A3 : Option Addr) (k3 n3 g7 : Nat) (l3 : Nat → Nd) (A4 : Option Addr) (k4 n4 g8 : Nat) (l4 : Nat → Nd) (u : World) : Prop :=
  Duo w0 A m cap g l B k cap' g' l' u ∧ (TreeBox u g7 A3 k3 n3 ∧ Nodes u A3 k3 l3) ∧ TreeBox u g8 A4 k4 n4 ∧ Nodes u A4 k4 l4
theorem Ord.call {w0 u v : World} {A : Option Addr} {m cap g : Nat} {l : Nat → Nd} {B : Option Addr} {k cap' g' : Nat} {l' : Nat → Nd} {A3 : Option Addr} {k3 n3 g7 : Nat} {l3 : Nat → Nd} {A4 : Option Addr} {k4 n4 g8 : Nat} {l4 : Nat → Nd} (h : Ord w0 A m cap g l B k cap' g' l' A3 k3 n3 g7 l3 A4 k4 n4 g8 l4 u) (hb : Below u.heap.size u v) : Ord w0 A m cap g l B k cap' g' l' A3 k3 n3 g7 l3 A4 k4 n4 g8 l4 v :=
  ⟨h.1.call hb, ⟨h.2.1.1.call hb, h.2.1.2.call hb⟩, h.2.2.1.call hb, h.2.2.2.call hb⟩
theorem eqlB_y {ops : Array Oper} {R : World → Prop} {a : Act} {o : Oper} {x y : Operand} {m : Bool} (ho : o.op = .binOp .eql 4 x y 4) (hx : a.eval x = .bool m) (hy : a.eval y = .bool m) (hw : Region.wanted o (yielded ops a.tmps) = true) : YieldsIf Try.prog ops R o (.bool true) a := by
  refine Or.inl ⟨hw, fun w _ => ?_⟩
  unfold execOp
  simp only [ho, hx, hy]
  go_simp

set_option maxRecDepth 20000 in
set_option maxHeartbeats 4000000 in
theorem astOrder_walk (hS : SortOk) (hN : SortNone) (A : Option Addr) (n cap : Nat) (l : Nat → Nd) (B : Option Addr) (n' cap' : Nat) (l' : Nat → Nd) (w : World) (hc : n ≤ cap) (hcap : cap ≤ 9223372036854775807) (h0 : A = none → n = 0 ∧ cap = 0) (hl : Nodes w A n l)
    (hc' : n' ≤ cap') (hcap' : cap' ≤ 9223372036854775807) (h0' : B = none → n' = 0 ∧ cap' = 0) (hl' : Nodes w B n' l') :
    Calls Try.prog 8 #[.agg #[.slice A n cap], .agg #[.slice B n' cap']] w fun e w' => e = .returned (.bool true) ∧ Below w.heap.size w w' := by
  have HSN := Lib.hid (And.intro hS hN)
  have HL := Lib.hid hl
  have HL' := Lib.hid hl'
  clear hS hN hl hl'
  have HM := Lib.hid (show A = none → min n 60 = 0 ∧ cap = 0 from fun h => by obtain ⟨h1, h2⟩ := h0 h; omega)
  have HM' := Lib.hid (show B = none → min n' 60 = 0 ∧ cap' = 0 from fun h => by obtain ⟨h1, h2⟩ := h0' h; omega)
  go_enter Try.func8, Try.ntmps8
  go_wp2_with fail
  refine (cut_any A n cap 60 _ hc hcap h0 (by omega)).mono ?_
  rintro e w1 ⟨rfl, hb⟩
  have HX := Lib.hid (show Below w.heap.size w (World.alloc (World.alloc w (.cells #[.slice A n cap] 24)) (.cells #[.slice B n' cap'] 24)) by go_grown)
  have HX1 := Lib.hid (show Below (World.alloc w (.cells #[.slice A n cap] 24)).heap.size (World.alloc w (.cells #[.slice A n cap] 24)) (World.alloc (World.alloc w (.cells #[.slice A n cap] 24)) (.cells #[.slice B n' cap'] 24)) by go_grown)
  have HT1 := Lib.hid (((TreeBox.new w A n cap).call HX1.out).call hb)
  have HU1 := Lib.hid (show TreeBox w1 (w.heap.size + 1) B n' cap' from (show TreeBox _ (w.heap.size + 1) B n' cap' by have h := TreeBox.new (World.alloc w (.cells #[.slice A n cap] 24)) B n' cap'; rw [World.size_alloc] at h; exact h).call hb)
  have HB1 := Lib.hid (thenB HX.out hb HX.out.size)
  have hz := HT1.out
  unfold TreeBox at hz
  have c2 := HT1.out.cell
  have fz := HT1.out.free
  have c3 := fun v => (HU1.out.other (k := w.heap.size) (by omega) v).cell
  clear hb HX HX1 h0
  have hm : min n 60 ≤ 60 := by omega
  have HL0 := Lib.hid (HL.out.take (min n 60) (by omega))
  generalize min n 60 = m at hm HL0 HM ⊢
  go_wp2_with fail
  refine (cut_any B n' cap' 60 _ hc' hcap' h0' (by omega)).mono ?_
  rintro e w2 ⟨rfl, hb⟩
  have HB2 := Lib.hid (thenB (below_store HB1.out (Nat.le_refl _) (.slice A m cap)) hb (below_store HB1.out (Nat.le_refl _) (.slice A m cap)).size)
  have HT2 := Lib.hid ((HT1.out.store A m cap).call hb)
  have HU2 := Lib.hid ((HU1.out.other (k := w.heap.size) (by omega) (.slice A m cap)).call hb)
  clear hb hz c2 fz c3 HB1 HT1 HU1 h0'
  have hz := HU2.out
  unfold TreeBox at hz
  have c3 := HU2.out.cell
  have fz := HU2.out.free
  have c2 := fun v => (HT2.out.other (k := w.heap.size + 1) (by omega) v).cell
  have hm' : min n' 60 ≤ 60 := by omega
  have HL1 := Lib.hid (HL'.out.take (min n' 60) (by omega))
  generalize min n' 60 = k at hm' HL1 HM' ⊢
  go_wp2_with fail
  have HB3 := Lib.hid (below_store HB2.out (show w.heap.size ≤ w.heap.size + 1 by omega) (.slice B k cap'))
  have HF0 := Lib.hid (show Duo w A m cap w.heap.size l B k cap' (w.heap.size + 1) l' _ from ⟨HB3.out, ⟨HT2.out.other (k := w.heap.size + 1) (by omega) (.slice B k cap'), HL0.out.below HB3.out (Nat.le_refl _)⟩, HU2.out.store B k cap', HL1.out.below HB3.out (Nat.le_refl _)⟩)
  clear HL HL' HL0 HL1 HB2 HT2 HU2 hz c2 c3 fz HB3
  rename_i K hK
  obtain ⟨U, hU⟩ : ∃ U, U = w2.setCell ⟨w.heap.size + 1, 0, none⟩ (.slice B k cap') := ⟨_, rfl⟩
  rw [← hU] at HF0 ⊢
  clear hU
  have hS : Duo w A m cap w.heap.size l B k cap' (w.heap.size + 1) l' U.drew := HF0.out.call (by go_grown)
  clear HF0
  refine wp_region_held_drew (S := Duo w A m cap w.heap.size l B k cap' (w.heap.size + 1) l') (by kernel_rfl) hS (fun _ => ?_)
  generalize U.drew = u0 at hS ⊢
  by_cases hra : rightZ l m = 0
  · have E1 := Lib.hid hra
    by_cases hrb : rightZ l' k = 0
    · have E2 := Lib.hid hrb
      obtain ⟨ga, hga⟩ : ∃ q, q = cntG l m := ⟨_, rfl⟩
      obtain ⟨gb, hgb⟩ : ∃ q, q = cntG l' k := ⟨_, rfl⟩
      have hga2 : ga ≤ m := by rw [hga]; exact cntG_le l m
      have hgb2 : gb ≤ k := by rw [hgb]; exact cntG_le l' k
      have G1 := Lib.hid hga
      have G2 := Lib.hid hgb
      clear hra hrb hga hgb
      by_cases hg0 : 0 < ga + gb
      · refine takeAt 0 17 (.agg #[.slice A (m) cap]) rfl rfl (by kernel_rfl) (by kernel_rfl) (by kernel_rfl) (fun _ _ _ h => h) (loadT_y (w.heap.size) A (m) cap (fun _ h => h.2.1.1) rfl rfl (by rfl)) hS ?_
        simp only [Act.put, List.setIfInBounds_toArray, List.set_cons_zero, List.set_cons_succ]
        refine callAt 1 18 rfl rfl (by kernel_rfl) (by rfl) (by kernel_rfl) (right_any HSN.out.1 HSN.out.2 A m cap l _ (by omega) hS.2.1.2) ?_
        rintro e w' ⟨rfl, hb'⟩
        have hSc1 := hS.call hb'
        refine ⟨_, rfl, hSc1, ?_⟩
        clear hS hb'
        rw [E1.out]
        simp only [Act.put, List.setIfInBounds_toArray, List.set_cons_zero, List.set_cons_succ]
        refine takeAt 2 19 (.bool false) rfl rfl (by kernel_rfl) (by kernel_rfl) (by kernel_rfl) (fun _ _ _ h => h) (neqE_y (m := 0) (n := 0) false (by simp) rfl rfl rfl (by rfl)) hSc1 ?_
        simp only [Act.put, List.setIfInBounds_toArray, List.set_cons_zero, List.set_cons_succ]
        refine takeAt 3 20 (.bool false) rfl rfl (by kernel_rfl) (by kernel_rfl) (by kernel_rfl) (fun _ _ _ h => h) (yields (by rfl) (fun w => by kernel_rfl)) hSc1 ?_
        simp only [Act.put, List.setIfInBounds_toArray, List.set_cons_zero, List.set_cons_succ]
        refine takeAt 4 21 (.agg #[.slice B (k) cap']) rfl rfl (by kernel_rfl) (by kernel_rfl) (by kernel_rfl) (fun _ _ _ h => h) (loadT_y (w.heap.size + 1) B (k) cap' (fun _ h => h.2.2.1) rfl rfl (by rfl)) hSc1 ?_
        simp only [Act.put, List.setIfInBounds_toArray, List.set_cons_zero, List.set_cons_succ]
        refine callAt 5 22 rfl rfl (by kernel_rfl) (by rfl) (by kernel_rfl) (right_any HSN.out.1 HSN.out.2 B k cap' l' _ (by omega) hSc1.2.2.2) ?_
        rintro e w' ⟨rfl, hb'⟩
        have hSc2 := hSc1.call hb'
        refine ⟨_, rfl, hSc2, ?_⟩
        clear hSc1 hb'
        rw [E2.out]
        simp only [Act.put, List.setIfInBounds_toArray, List.set_cons_zero, List.set_cons_succ]
        refine takeAt 6 23 (.bool false) rfl rfl (by kernel_rfl) (by kernel_rfl) (by kernel_rfl) (fun _ _ _ h => h) (neqE_y (m := 0) (n := 0) false (by simp) rfl rfl rfl (by rfl)) hSc2 ?_
        simp only [Act.put, List.setIfInBounds_toArray, List.set_cons_zero, List.set_cons_succ]
        refine takeAt 7 24 (.bool false) rfl rfl (by kernel_rfl) (by kernel_rfl) (by kernel_rfl) (fun _ _ _ h => h) (yields (by rfl) (fun w => by kernel_rfl)) hSc2 ?_
        simp only [Act.put, List.setIfInBounds_toArray, List.set_cons_zero, List.set_cons_succ]
        refine takeAt 8 25 (.bool false) rfl rfl (by kernel_rfl) (by kernel_rfl) (by kernel_rfl) (fun _ _ _ h => h) (yields (by rfl) (fun w => by kernel_rfl)) hSc2 ?_
        simp only [Act.put, List.setIfInBounds_toArray, List.set_cons_zero, List.set_cons_succ]
        refine takeAt 9 26 (.agg #[.slice A (m) cap]) rfl rfl (by kernel_rfl) (by kernel_rfl) (by kernel_rfl) (fun _ _ _ h => h) (loadT_y (w.heap.size) A (m) cap (fun _ h => h.2.1.1) rfl rfl (by rfl)) hSc2 ?_
        simp only [Act.put, List.setIfInBounds_toArray, List.set_cons_zero, List.set_cons_succ]
        refine takeAt 11 28 (.agg #[.slice B (k) cap']) rfl rfl (by kernel_rfl) (by kernel_rfl) (by kernel_rfl) (fun _ _ _ h => h) (loadT_y (w.heap.size + 1) B (k) cap' (fun _ h => h.2.2.1) rfl rfl (by rfl)) hSc2 ?_
        simp only [Act.put, List.setIfInBounds_toArray, List.set_cons_zero, List.set_cons_succ]
        refine callAt 10 27 rfl rfl (by kernel_rfl) (by rfl) (by kernel_rfl) (groups_any A m cap l _ (by omega) hSc2.2.1.2) ?_
        rintro e w' ⟨rfl, hb'⟩
        have hSc3 := hSc2.call hb'
        refine ⟨_, rfl, hSc3, ?_⟩
        clear hSc2 hb'
        rw [← G1.out]
        simp only [Act.put, List.setIfInBounds_toArray, List.set_cons_zero, List.set_cons_succ]
        as_aux_lemma =>
          refine callAt 12 29 rfl rfl (by kernel_rfl) (by rfl) (by kernel_rfl) (groups_any B k cap' l' _ (by omega) hSc3.2.2.2) ?_
          rintro e w' ⟨rfl, hb'⟩
          have hSc4 := hSc3.call hb'
          refine ⟨_, rfl, hSc4, ?_⟩
          clear hSc3 hb'
          rw [← G2.out]
          simp only [Act.put, List.setIfInBounds_toArray, List.set_cons_zero, List.set_cons_succ]
          refine takeAt 13 30 (.int .i64 (ga + gb : Nat)) rfl rfl (by kernel_rfl) (by kernel_rfl) (by kernel_rfl) (fun _ _ _ h => h) (addG_y (m := (ga : Nat)) (n := (gb : Nat)) (by omega) (by omega) (by omega) rfl rfl rfl (by rfl)) hSc4 ?_
          simp only [Act.put, List.setIfInBounds_toArray, List.set_cons_zero, List.set_cons_succ]
          refine takeAt 14 31 (.bool true) rfl rfl (by kernel_rfl) (by kernel_rfl) (by kernel_rfl) (fun _ _ _ h => h) (gtrI_y (m := (ga + gb : Nat)) (n := 0) true (by simp; omega) rfl rfl rfl (by rfl)) hSc4 ?_
          simp only [Act.put, List.setIfInBounds_toArray, List.set_cons_zero, List.set_cons_succ]
          refine takeAt 15 32 (.bool true) rfl rfl (by kernel_rfl) (by kernel_rfl) (by kernel_rfl) (fun _ _ _ h => h) (yields (by rfl) (fun w => by kernel_rfl)) hSc4 ?_
          simp only [Act.put, List.setIfInBounds_toArray, List.set_cons_zero, List.set_cons_succ]
          refine takeAt 16 33 (.bool true) rfl rfl (by kernel_rfl) (by kernel_rfl) (by kernel_rfl) (fun _ _ _ h => h) (yields (by rfl) (fun w => by kernel_rfl)) hSc4 ?_
          simp only [Act.put, List.setIfInBounds_toArray, List.set_cons_zero, List.set_cons_succ]
          refine takeAt 17 34 (undef) rfl rfl (by kernel_rfl) (by kernel_rfl) (by kernel_rfl) (fun _ _ _ h => h) (skipped (by rfl)) hSc4 ?_
          simp only [Act.put, List.setIfInBounds_toArray, List.set_cons_zero, List.set_cons_succ]
          refine takeAt 18 35 (undef) rfl rfl (by kernel_rfl) (by kernel_rfl) (by kernel_rfl) (fun _ _ _ h => h) (skipped (by rfl)) hSc4 ?_
          simp only [Act.put, List.setIfInBounds_toArray, List.set_cons_zero, List.set_cons_succ]
          refine takeAt 19 36 (undef) rfl rfl (by kernel_rfl) (by kernel_rfl) (by kernel_rfl) (fun _ _ _ h => h) (skipped (by rfl)) hSc4 ?_
          simp only [Act.put, List.setIfInBounds_toArray, List.set_cons_zero, List.set_cons_succ]
          refine takeAt 20 37 (undef) rfl rfl (by kernel_rfl) (by kernel_rfl) (by kernel_rfl) (fun _ _ _ h => h) (skipped (by rfl)) hSc4 ?_
          simp only [Act.put, List.setIfInBounds_toArray, List.set_cons_zero, List.set_cons_succ]
          refine takeAt 21 38 (undef) rfl rfl (by kernel_rfl) (by kernel_rfl) (by kernel_rfl) (fun _ _ _ h => h) (skipped (by rfl)) hSc4 ?_
          simp only [Act.put, List.setIfInBounds_toArray, List.set_cons_zero, List.set_cons_succ]
          refine takeAt 22 39 (undef) rfl rfl (by kernel_rfl) (by kernel_rfl) (by kernel_rfl) (fun _ _ _ h => h) (skipped (by rfl)) hSc4 ?_
          simp only [Act.put, List.setIfInBounds_toArray, List.set_cons_zero, List.set_cons_succ]
          refine takeAt 23 40 (.bool true) rfl rfl (by kernel_rfl) (by kernel_rfl) (by kernel_rfl) (fun _ _ _ h => h) (yields (by rfl) (fun w => by kernel_rfl)) hSc4 ?_
          simp only [Act.put, List.setIfInBounds_toArray, List.set_cons_zero, List.set_cons_succ]
          refine wpAnyH_done (by kernel_rfl) ?_ _
          refine hK _ _ ?_
          clear hK
          have HQ := Lib.hid hSc4
          clear hSc4
          go_wp2_with fail
          refine (fixed_any HSN.out.1 HSN.out.2 _).mono ?_
          rintro e w9 ⟨rfl, hb⟩
          have HZ := Lib.hid (HQ.out.call hb)
          clear hb HQ
          go_wp2_with fail
          go_ret
          exact ⟨rfl, HZ.out.1⟩
      · obtain ⟨x, hx⟩ : ∃ x, x = deepZ l m := ⟨_, rfl⟩
        obtain ⟨y, hy⟩ : ∃ y, y = deepZ l' k := ⟨_, rfl⟩
        have hx0 : x ≤ m := by rw [hx]; exact deep_le l m
        have hy0 : y ≤ k := by rw [hy]; exact deep_le l' k
        have D1 := Lib.hid hx
        have D2 := Lib.hid hy
        clear hx hy
        by_cases h40 : 40 ≤ max x y
        · refine takeAt 0 17 (.agg #[.slice A (m) cap]) rfl rfl (by kernel_rfl) (by kernel_rfl) (by kernel_rfl) (fun _ _ _ h => h) (loadT_y (w.heap.size) A (m) cap (fun _ h => h.2.1.1) rfl rfl (by rfl)) hS ?_
          simp only [Act.put, List.setIfInBounds_toArray, List.set_cons_zero, List.set_cons_succ]
          refine callAt 1 18 rfl rfl (by kernel_rfl) (by rfl) (by kernel_rfl) (right_any HSN.out.1 HSN.out.2 A m cap l _ (by omega) hS.2.1.2) ?_
          rintro e w' ⟨rfl, hb'⟩
          have hSc1 := hS.call hb'
          refine ⟨_, rfl, hSc1, ?_⟩
          clear hS hb'
          rw [E1.out]
          simp only [Act.put, List.setIfInBounds_toArray, List.set_cons_zero, List.set_cons_succ]
          refine takeAt 2 19 (.bool false) rfl rfl (by kernel_rfl) (by kernel_rfl) (by kernel_rfl) (fun _ _ _ h => h) (neqE_y (m := 0) (n := 0) false (by simp) rfl rfl rfl (by rfl)) hSc1 ?_
          simp only [Act.put, List.setIfInBounds_toArray, List.set_cons_zero, List.set_cons_succ]
          refine takeAt 3 20 (.bool false) rfl rfl (by kernel_rfl) (by kernel_rfl) (by kernel_rfl) (fun _ _ _ h => h) (yields (by rfl) (fun w => by kernel_rfl)) hSc1 ?_
          simp only [Act.put, List.setIfInBounds_toArray, List.set_cons_zero, List.set_cons_succ]
          refine takeAt 4 21 (.agg #[.slice B (k) cap']) rfl rfl (by kernel_rfl) (by kernel_rfl) (by kernel_rfl) (fun _ _ _ h => h) (loadT_y (w.heap.size + 1) B (k) cap' (fun _ h => h.2.2.1) rfl rfl (by rfl)) hSc1 ?_
          simp only [Act.put, List.setIfInBounds_toArray, List.set_cons_zero, List.set_cons_succ]
          refine callAt 5 22 rfl rfl (by kernel_rfl) (by rfl) (by kernel_rfl) (right_any HSN.out.1 HSN.out.2 B k cap' l' _ (by omega) hSc1.2.2.2) ?_
          rintro e w' ⟨rfl, hb'⟩
          have hSc2 := hSc1.call hb'
          refine ⟨_, rfl, hSc2, ?_⟩
          clear hSc1 hb'
          rw [E2.out]
          simp only [Act.put, List.setIfInBounds_toArray, List.set_cons_zero, List.set_cons_succ]
          refine takeAt 6 23 (.bool false) rfl rfl (by kernel_rfl) (by kernel_rfl) (by kernel_rfl) (fun _ _ _ h => h) (neqE_y (m := 0) (n := 0) false (by simp) rfl rfl rfl (by rfl)) hSc2 ?_
          simp only [Act.put, List.setIfInBounds_toArray, List.set_cons_zero, List.set_cons_succ]
          refine takeAt 7 24 (.bool false) rfl rfl (by kernel_rfl) (by kernel_rfl) (by kernel_rfl) (fun _ _ _ h => h) (yields (by rfl) (fun w => by kernel_rfl)) hSc2 ?_
          simp only [Act.put, List.setIfInBounds_toArray, List.set_cons_zero, List.set_cons_succ]
          refine takeAt 8 25 (.bool false) rfl rfl (by kernel_rfl) (by kernel_rfl) (by kernel_rfl) (fun _ _ _ h => h) (yields (by rfl) (fun w => by kernel_rfl)) hSc2 ?_
          simp only [Act.put, List.setIfInBounds_toArray, List.set_cons_zero, List.set_cons_succ]
          refine takeAt 9 26 (.agg #[.slice A (m) cap]) rfl rfl (by kernel_rfl) (by kernel_rfl) (by kernel_rfl) (fun _ _ _ h => h) (loadT_y (w.heap.size) A (m) cap (fun _ h => h.2.1.1) rfl rfl (by rfl)) hSc2 ?_
          simp only [Act.put, List.setIfInBounds_toArray, List.set_cons_zero, List.set_cons_succ]
          refine takeAt 11 28 (.agg #[.slice B (k) cap']) rfl rfl (by kernel_rfl) (by kernel_rfl) (by kernel_rfl) (fun _ _ _ h => h) (loadT_y (w.heap.size + 1) B (k) cap' (fun _ h => h.2.2.1) rfl rfl (by rfl)) hSc2 ?_
          simp only [Act.put, List.setIfInBounds_toArray, List.set_cons_zero, List.set_cons_succ]
          refine callAt 10 27 rfl rfl (by kernel_rfl) (by rfl) (by kernel_rfl) (groups_any A m cap l _ (by omega) hSc2.2.1.2) ?_
          rintro e w' ⟨rfl, hb'⟩
          have hSc3 := hSc2.call hb'
          refine ⟨_, rfl, hSc3, ?_⟩
          clear hSc2 hb'
          rw [← G1.out]
          simp only [Act.put, List.setIfInBounds_toArray, List.set_cons_zero, List.set_cons_succ]
          as_aux_lemma =>
            refine callAt 12 29 rfl rfl (by kernel_rfl) (by rfl) (by kernel_rfl) (groups_any B k cap' l' _ (by omega) hSc3.2.2.2) ?_
            rintro e w' ⟨rfl, hb'⟩
            have hSc4 := hSc3.call hb'
            refine ⟨_, rfl, hSc4, ?_⟩
            clear hSc3 hb'
            rw [← G2.out]
            simp only [Act.put, List.setIfInBounds_toArray, List.set_cons_zero, List.set_cons_succ]
            refine takeAt 13 30 (.int .i64 (ga + gb : Nat)) rfl rfl (by kernel_rfl) (by kernel_rfl) (by kernel_rfl) (fun _ _ _ h => h) (addG_y (m := (ga : Nat)) (n := (gb : Nat)) (by omega) (by omega) (by omega) rfl rfl rfl (by rfl)) hSc4 ?_
            simp only [Act.put, List.setIfInBounds_toArray, List.set_cons_zero, List.set_cons_succ]
            refine takeAt 14 31 (.bool false) rfl rfl (by kernel_rfl) (by kernel_rfl) (by kernel_rfl) (fun _ _ _ h => h) (gtrI_y (m := (ga + gb : Nat)) (n := 0) false (by simp; omega) rfl rfl rfl (by rfl)) hSc4 ?_
            simp only [Act.put, List.setIfInBounds_toArray, List.set_cons_zero, List.set_cons_succ]
            refine takeAt 15 32 (.bool false) rfl rfl (by kernel_rfl) (by kernel_rfl) (by kernel_rfl) (fun _ _ _ h => h) (yields (by rfl) (fun w => by kernel_rfl)) hSc4 ?_
            simp only [Act.put, List.setIfInBounds_toArray, List.set_cons_zero, List.set_cons_succ]
            refine takeAt 16 33 (.bool false) rfl rfl (by kernel_rfl) (by kernel_rfl) (by kernel_rfl) (fun _ _ _ h => h) (yields (by rfl) (fun w => by kernel_rfl)) hSc4 ?_
            simp only [Act.put, List.setIfInBounds_toArray, List.set_cons_zero, List.set_cons_succ]
            refine takeAt 17 34 (.agg #[.slice A (m) cap]) rfl rfl (by kernel_rfl) (by kernel_rfl) (by kernel_rfl) (fun _ _ _ h => h) (loadT_y (w.heap.size) A (m) cap (fun _ h => h.2.1.1) rfl rfl (by rfl)) hSc4 ?_
            simp only [Act.put, List.setIfInBounds_toArray, List.set_cons_zero, List.set_cons_succ]
            refine takeAt 19 36 (.agg #[.slice B (k) cap']) rfl rfl (by kernel_rfl) (by kernel_rfl) (by kernel_rfl) (fun _ _ _ h => h) (loadT_y (w.heap.size + 1) B (k) cap' (fun _ h => h.2.2.1) rfl rfl (by rfl)) hSc4 ?_
            simp only [Act.put, List.setIfInBounds_toArray, List.set_cons_zero, List.set_cons_succ]
            refine callAt 18 35 rfl rfl (by kernel_rfl) (by rfl) (by kernel_rfl) (deep_any A m cap l _ (by omega) hSc4.2.1.2) ?_
            rintro e w' ⟨rfl, hb'⟩
            have hSc5 := hSc4.call hb'
            refine ⟨_, rfl, hSc5, ?_⟩
            clear hSc4 hb'
            rw [← D1.out]
            simp only [Act.put, List.setIfInBounds_toArray, List.set_cons_zero, List.set_cons_succ]
            refine callAt 20 37 rfl rfl (by kernel_rfl) (by rfl) (by kernel_rfl) (deep_any B k cap' l' _ (by omega) hSc5.2.2.2) ?_
            rintro e w' ⟨rfl, hb'⟩
            have hSc6 := hSc5.call hb'
            refine ⟨_, rfl, hSc6, ?_⟩
            clear hSc5 hb'
            rw [← D2.out]
            simp only [Act.put, List.setIfInBounds_toArray, List.set_cons_zero, List.set_cons_succ]
            refine takeAt 21 38 (.int .i64 ((max x y : Nat) : Int)) rfl rfl (by kernel_rfl) (by kernel_rfl) (by kernel_rfl) (fun _ _ _ h => h) (maxI_y (by omega) rfl rfl rfl (by rfl)) hSc6 ?_
            simp only [Act.put, List.setIfInBounds_toArray, List.set_cons_zero, List.set_cons_succ]
            refine takeAt 22 39 (.bool true) rfl rfl (by kernel_rfl) (by kernel_rfl) (by kernel_rfl) (fun _ _ _ h => h) (geqI_y (m := ((max x y : Nat) : Int)) (n := 40) true (by simp only [decide_eq_true_eq]; omega) rfl rfl rfl (by rfl)) hSc6 ?_
            simp only [Act.put, List.setIfInBounds_toArray, List.set_cons_zero, List.set_cons_succ]
            refine takeAt 23 40 (.bool true) rfl rfl (by kernel_rfl) (by kernel_rfl) (by kernel_rfl) (fun _ _ _ h => h) (yields (by rfl) (fun w => by kernel_rfl)) hSc6 ?_
            simp only [Act.put, List.setIfInBounds_toArray, List.set_cons_zero, List.set_cons_succ]
            refine wpAnyH_done (by kernel_rfl) ?_ _
            refine hK _ _ ?_
            clear hK
            have HQ := Lib.hid hSc6
            clear hSc6
            go_wp2_with fail
            refine (fixed_any HSN.out.1 HSN.out.2 _).mono ?_
            rintro e w9 ⟨rfl, hb⟩
            have HZ := Lib.hid (HQ.out.call hb)
            clear hb HQ
            go_wp2_with fail
            go_ret
            exact ⟨rfl, HZ.out.1⟩
        · refine takeAt 0 17 (.agg #[.slice A (m) cap]) rfl rfl (by kernel_rfl) (by kernel_rfl) (by kernel_rfl) (fun _ _ _ h => h) (loadT_y (w.heap.size) A (m) cap (fun _ h => h.2.1.1) rfl rfl (by rfl)) hS ?_
          simp only [Act.put, List.setIfInBounds_toArray, List.set_cons_zero, List.set_cons_succ]
          refine callAt 1 18 rfl rfl (by kernel_rfl) (by rfl) (by kernel_rfl) (right_any HSN.out.1 HSN.out.2 A m cap l _ (by omega) hS.2.1.2) ?_
          rintro e w' ⟨rfl, hb'⟩
          have hSc1 := hS.call hb'
          refine ⟨_, rfl, hSc1, ?_⟩
          clear hS hb'
          rw [E1.out]
          simp only [Act.put, List.setIfInBounds_toArray, List.set_cons_zero, List.set_cons_succ]
          refine takeAt 2 19 (.bool false) rfl rfl (by kernel_rfl) (by kernel_rfl) (by kernel_rfl) (fun _ _ _ h => h) (neqE_y (m := 0) (n := 0) false (by simp) rfl rfl rfl (by rfl)) hSc1 ?_
          simp only [Act.put, List.setIfInBounds_toArray, List.set_cons_zero, List.set_cons_succ]
          refine takeAt 3 20 (.bool false) rfl rfl (by kernel_rfl) (by kernel_rfl) (by kernel_rfl) (fun _ _ _ h => h) (yields (by rfl) (fun w => by kernel_rfl)) hSc1 ?_
          simp only [Act.put, List.setIfInBounds_toArray, List.set_cons_zero, List.set_cons_succ]
          refine takeAt 4 21 (.agg #[.slice B (k) cap']) rfl rfl (by kernel_rfl) (by kernel_rfl) (by kernel_rfl) (fun _ _ _ h => h) (loadT_y (w.heap.size + 1) B (k) cap' (fun _ h => h.2.2.1) rfl rfl (by rfl)) hSc1 ?_
          simp only [Act.put, List.setIfInBounds_toArray, List.set_cons_zero, List.set_cons_succ]
          refine callAt 5 22 rfl rfl (by kernel_rfl) (by rfl) (by kernel_rfl) (right_any HSN.out.1 HSN.out.2 B k cap' l' _ (by omega) hSc1.2.2.2) ?_
          rintro e w' ⟨rfl, hb'⟩
          have hSc2 := hSc1.call hb'
          refine ⟨_, rfl, hSc2, ?_⟩
          clear hSc1 hb'
          rw [E2.out]
          simp only [Act.put, List.setIfInBounds_toArray, List.set_cons_zero, List.set_cons_succ]
          refine takeAt 6 23 (.bool false) rfl rfl (by kernel_rfl) (by kernel_rfl) (by kernel_rfl) (fun _ _ _ h => h) (neqE_y (m := 0) (n := 0) false (by simp) rfl rfl rfl (by rfl)) hSc2 ?_
          simp only [Act.put, List.setIfInBounds_toArray, List.set_cons_zero, List.set_cons_succ]
          refine takeAt 7 24 (.bool false) rfl rfl (by kernel_rfl) (by kernel_rfl) (by kernel_rfl) (fun _ _ _ h => h) (yields (by rfl) (fun w => by kernel_rfl)) hSc2 ?_
          simp only [Act.put, List.setIfInBounds_toArray, List.set_cons_zero, List.set_cons_succ]
          refine takeAt 8 25 (.bool false) rfl rfl (by kernel_rfl) (by kernel_rfl) (by kernel_rfl) (fun _ _ _ h => h) (yields (by rfl) (fun w => by kernel_rfl)) hSc2 ?_
          simp only [Act.put, List.setIfInBounds_toArray, List.set_cons_zero, List.set_cons_succ]
          refine takeAt 9 26 (.agg #[.slice A (m) cap]) rfl rfl (by kernel_rfl) (by kernel_rfl) (by kernel_rfl) (fun _ _ _ h => h) (loadT_y (w.heap.size) A (m) cap (fun _ h => h.2.1.1) rfl rfl (by rfl)) hSc2 ?_
          simp only [Act.put, List.setIfInBounds_toArray, List.set_cons_zero, List.set_cons_succ]
          refine takeAt 11 28 (.agg #[.slice B (k) cap']) rfl rfl (by kernel_rfl) (by kernel_rfl) (by kernel_rfl) (fun _ _ _ h => h) (loadT_y (w.heap.size + 1) B (k) cap' (fun _ h => h.2.2.1) rfl rfl (by rfl)) hSc2 ?_
          simp only [Act.put, List.setIfInBounds_toArray, List.set_cons_zero, List.set_cons_succ]
          refine callAt 10 27 rfl rfl (by kernel_rfl) (by rfl) (by kernel_rfl) (groups_any A m cap l _ (by omega) hSc2.2.1.2) ?_
          rintro e w' ⟨rfl, hb'⟩
          have hSc3 := hSc2.call hb'
          refine ⟨_, rfl, hSc3, ?_⟩
          clear hSc2 hb'
          rw [← G1.out]
          simp only [Act.put, List.setIfInBounds_toArray, List.set_cons_zero, List.set_cons_succ]
          as_aux_lemma =>
            refine callAt 12 29 rfl rfl (by kernel_rfl) (by rfl) (by kernel_rfl) (groups_any B k cap' l' _ (by omega) hSc3.2.2.2) ?_
            rintro e w' ⟨rfl, hb'⟩
            have hSc4 := hSc3.call hb'
            refine ⟨_, rfl, hSc4, ?_⟩
            clear hSc3 hb'
            rw [← G2.out]
            simp only [Act.put, List.setIfInBounds_toArray, List.set_cons_zero, List.set_cons_succ]
            refine takeAt 13 30 (.int .i64 (ga + gb : Nat)) rfl rfl (by kernel_rfl) (by kernel_rfl) (by kernel_rfl) (fun _ _ _ h => h) (addG_y (m := (ga : Nat)) (n := (gb : Nat)) (by omega) (by omega) (by omega) rfl rfl rfl (by rfl)) hSc4 ?_
            simp only [Act.put, List.setIfInBounds_toArray, List.set_cons_zero, List.set_cons_succ]
            refine takeAt 14 31 (.bool false) rfl rfl (by kernel_rfl) (by kernel_rfl) (by kernel_rfl) (fun _ _ _ h => h) (gtrI_y (m := (ga + gb : Nat)) (n := 0) false (by simp; omega) rfl rfl rfl (by rfl)) hSc4 ?_
            simp only [Act.put, List.setIfInBounds_toArray, List.set_cons_zero, List.set_cons_succ]
            refine takeAt 15 32 (.bool false) rfl rfl (by kernel_rfl) (by kernel_rfl) (by kernel_rfl) (fun _ _ _ h => h) (yields (by rfl) (fun w => by kernel_rfl)) hSc4 ?_
            simp only [Act.put, List.setIfInBounds_toArray, List.set_cons_zero, List.set_cons_succ]
            refine takeAt 16 33 (.bool false) rfl rfl (by kernel_rfl) (by kernel_rfl) (by kernel_rfl) (fun _ _ _ h => h) (yields (by rfl) (fun w => by kernel_rfl)) hSc4 ?_
            simp only [Act.put, List.setIfInBounds_toArray, List.set_cons_zero, List.set_cons_succ]
            refine takeAt 17 34 (.agg #[.slice A (m) cap]) rfl rfl (by kernel_rfl) (by kernel_rfl) (by kernel_rfl) (fun _ _ _ h => h) (loadT_y (w.heap.size) A (m) cap (fun _ h => h.2.1.1) rfl rfl (by rfl)) hSc4 ?_
            simp only [Act.put, List.setIfInBounds_toArray, List.set_cons_zero, List.set_cons_succ]
            refine takeAt 19 36 (.agg #[.slice B (k) cap']) rfl rfl (by kernel_rfl) (by kernel_rfl) (by kernel_rfl) (fun _ _ _ h => h) (loadT_y (w.heap.size + 1) B (k) cap' (fun _ h => h.2.2.1) rfl rfl (by rfl)) hSc4 ?_
            simp only [Act.put, List.setIfInBounds_toArray, List.set_cons_zero, List.set_cons_succ]
            refine callAt 18 35 rfl rfl (by kernel_rfl) (by rfl) (by kernel_rfl) (deep_any A m cap l _ (by omega) hSc4.2.1.2) ?_
            rintro e w' ⟨rfl, hb'⟩
            have hSc5 := hSc4.call hb'
            refine ⟨_, rfl, hSc5, ?_⟩
            clear hSc4 hb'
            rw [← D1.out]
            simp only [Act.put, List.setIfInBounds_toArray, List.set_cons_zero, List.set_cons_succ]
            refine callAt 20 37 rfl rfl (by kernel_rfl) (by rfl) (by kernel_rfl) (deep_any B k cap' l' _ (by omega) hSc5.2.2.2) ?_
            rintro e w' ⟨rfl, hb'⟩
            have hSc6 := hSc5.call hb'
            refine ⟨_, rfl, hSc6, ?_⟩
            clear hSc5 hb'
            rw [← D2.out]
            simp only [Act.put, List.setIfInBounds_toArray, List.set_cons_zero, List.set_cons_succ]
            refine takeAt 21 38 (.int .i64 ((max x y : Nat) : Int)) rfl rfl (by kernel_rfl) (by kernel_rfl) (by kernel_rfl) (fun _ _ _ h => h) (maxI_y (by omega) rfl rfl rfl (by rfl)) hSc6 ?_
            simp only [Act.put, List.setIfInBounds_toArray, List.set_cons_zero, List.set_cons_succ]
            refine takeAt 22 39 (.bool false) rfl rfl (by kernel_rfl) (by kernel_rfl) (by kernel_rfl) (fun _ _ _ h => h) (geqI_y (m := ((max x y : Nat) : Int)) (n := 40) false (by simp only [decide_eq_false_iff_not]; omega) rfl rfl rfl (by rfl)) hSc6 ?_
            simp only [Act.put, List.setIfInBounds_toArray, List.set_cons_zero, List.set_cons_succ]
            refine takeAt 23 40 (.bool false) rfl rfl (by kernel_rfl) (by kernel_rfl) (by kernel_rfl) (fun _ _ _ h => h) (yields (by rfl) (fun w => by kernel_rfl)) hSc6 ?_
            simp only [Act.put, List.setIfInBounds_toArray, List.set_cons_zero, List.set_cons_succ]
            refine wpAnyH_done (by kernel_rfl) ?_ _
            refine hK _ _ ?_
            clear hK
            have HQ0 := Lib.hid hSc6
            clear hSc6
            have c2 := HQ0.out.2.1.1.cell
            have c3 := HQ0.out.2.2.1.cell
            go_wp2_with fail
            rename_i K hK
            have HS0 := Lib.hid (show Duo w A m cap w.heap.size l B k cap' (w.heap.size + 1) l' w'.drew from HQ0.out.call (by go_grown))
            have gx2 : deepZ l m < 40 := by rw [← D1.out]; omega
            have gy2 : deepZ l' k < 40 := by rw [← D2.out]; omega
            have gg : cntG l m + cntG l' k = 0 := by rw [← G1.out, ← G2.out]; omega
            have gx := right_deep E1.out
            have gy := right_deep E2.out
            have R1 := Lib.hid (order_right hm hm' E1.out E2.out gg gx2 gy2)
            have R2 := Lib.hid (order_right hm' hm E2.out E1.out (by omega) gy2 gx2)
            have L1 := Lib.hid (grows_both hm hm' gx gy gx2 gy2)
            have L2 := Lib.hid (grows_both hm' hm gy gx gy2 gx2)
            rw [plus_comm (len l' k).1, plus_comm (len l' k).2] at L2
            obtain ⟨_, _, hm0, _⟩ := deep_form gx
            obtain ⟨_, _, hk0, _⟩ := deep_form gy
            have S1 := Lib.hid (order_same (la := l) (lb := l') hm0 hk0)
            obtain ⟨sb, hsb⟩ : ∃ sb, sb = sameZ l m l' k := ⟨_, rfl⟩
            rw [← hsb] at S1
            have S2 := Lib.hid hsb
            generalize plusZ (len l m).1 (len l' k).1 = p1 at L1 L2
            generalize plusZ (len l m).2 (len l' k).2 = p2 at L1 L2
            clear gx2 gy2 gg gx gy hsb E1 E2 G1 G2 D1 D2 hm0 hk0 hg0 h40 hga2 hgb2 hx0 hy0
            have rest : ∀ (v : World) (g5 g6 : Nat) (A3 A4 : Option Addr) (n3 n4 : Nat) (x0 x1 x13 x14 x15 x16 x17 x18 x19 x20 x21 x22 x23 x24 x25 x26 x27 x28 x29 x30 x31 x32 x33 x34 x35 x36 x37 x38 x39 x40 x41 x42 x43 x44 x45 x46 x47 : Value), Below w'.drew.heap.size w'.drew v → TreeBox v g5 A3 (m + k + 1) n3 → TreeBox v g6 A4 (k + m + 1) n4 → Nodes v A3 (m + k + 1) (joinL l m l' k 8) → Nodes v A4 (k + m + 1) (joinL l' k l m 8) →
                K { tmps := #[x0, x1, .pointer (some ⟨w.heap.size, 0, none⟩), .pointer (some ⟨w.heap.size + 1, 0, none⟩), .bool false, .pointer (some ⟨g5, 0, none⟩), .pointer (some ⟨g6, 0, none⟩), undef, undef, undef, undef, undef, undef, x13, x14, x15, x16, x17, x18, x19, x20, x21, x22, x23, x24, x25, x26, x27, x28, x29, x30, x31, x32, x33, x34, x35, x36, x37, x38, x39, x40, x41, x42, x43, x44, x45, x46, x47, undef, undef, undef, undef, undef, undef, undef, undef, undef, undef, undef, undef, undef, undef, undef, undef, undef, undef, undef, undef, undef, undef, undef, undef, undef, undef, undef, undef, undef, undef, undef, undef, undef, undef, undef, undef, undef, undef, undef, undef, undef, undef, undef, undef, undef, undef, undef, undef, undef, undef, undef, undef, undef, undef, undef, undef, undef, undef], defers := [] } v := by
              intro v g5 g6 A3 A4 n3 n4 x0 x1 x13 x14 x15 x16 x17 x18 x19 x20 x21 x22 x23 x24 x25 x26 x27 x28 x29 x30 x31 x32 x33 x34 x35 x36 x37 x38 x39 x40 x41 x42 x43 x44 x45 x46 x47 hv t9 t10 m3 m4
              have HT0 := Lib.hid (show Ord w A m cap w.heap.size l B k cap' (w.heap.size + 1) l' A3 (m + k + 1) n3 g5 (joinL l m l' k 8) A4 (k + m + 1) n4 g6 (joinL l' k l m 8) v from ⟨HS0.out.call hv, ⟨t9, m3⟩, t10, m4⟩)
              clear hv t9 t10 m3 m4 HS0 HQ0 c2 c3
              apply hK
              clear hK
              have c5 := HT0.out.2.1.1.cell
              go_wp2_with fail
              refine (lenZ_any A3 (m + k + 1) n3 (joinL l m l' k 8) _ _ (by omega) HT0.out.2.1.2).mono ?_
              rintro e v1 ⟨rfl, hb⟩
              have HT1 := Lib.hid (HT0.out.call hb)
              clear hb HT0 c5
              rw [L1.out]
              have c6 := HT1.out.2.2.1.cell
              go_wp2_with fail
              refine (lenZ_any A4 (k + m + 1) n4 (joinL l' k l m 8) _ _ (by omega) HT1.out.2.2.2).mono ?_
              rintro e v2 ⟨rfl, hb⟩
              have hT : Ord w A m cap w.heap.size l B k cap' (w.heap.size + 1) l' A3 (m + k + 1) n3 g5 (joinL l m l' k 8) A4 (k + m + 1) n4 g6 (joinL l' k l m 8) v2.drew := (HT1.out.call hb).call (by go_grown)
              clear hb HT1 c6
              rw [L2.out]
              go_wp2_with fail
              rename_i K hK
              refine wp_region_held_drew (S := Ord w A m cap w.heap.size l B k cap' (w.heap.size + 1) l' A3 (m + k + 1) n3 g5 (joinL l m l' k 8) A4 (k + m + 1) n4 g6 (joinL l' k l m 8)) (by kernel_rfl) hT (fun _ => ?_)
              generalize v2.drew = v0 at hT ⊢
              refine takeAt 0 68 (.agg #[.slice A3 (m + k + 1) n3]) rfl rfl (by kernel_rfl) (by kernel_rfl) (by kernel_rfl) (fun _ _ _ h => h) (loadT_y (g5) A3 (m + k + 1) n3 (fun _ h => h.2.1.1) rfl rfl (by rfl)) hT ?_
              simp only [Act.put, List.setIfInBounds_toArray, List.set_cons_zero, List.set_cons_succ]
              refine callAt 1 69 rfl rfl (by kernel_rfl) (by rfl) (by kernel_rfl) (right_any HSN.out.1 HSN.out.2 A3 (m + k + 1) n3 (joinL l m l' k 8) _ (by omega) hT.2.1.2) ?_
              rintro e w' ⟨rfl, hb'⟩
              have hTc1 := hT.call hb'
              refine ⟨_, rfl, hTc1, ?_⟩
              clear hT hb'
              rw [R1.out]
              simp only [Act.put, List.setIfInBounds_toArray, List.set_cons_zero, List.set_cons_succ]
              refine takeAt 2 70 (.bool true) rfl rfl (by kernel_rfl) (by kernel_rfl) (by kernel_rfl) (fun _ _ _ h => h) (eqlE_y (m := 0) (n := 0) true (by simp) rfl rfl rfl (by rfl)) hTc1 ?_
              simp only [Act.put, List.setIfInBounds_toArray, List.set_cons_zero, List.set_cons_succ]
              refine takeAt 3 71 (.bool true) rfl rfl (by kernel_rfl) (by kernel_rfl) (by kernel_rfl) (fun _ _ _ h => h) (yields (by rfl) (fun w => by kernel_rfl)) hTc1 ?_
              simp only [Act.put, List.setIfInBounds_toArray, List.set_cons_zero, List.set_cons_succ]
              refine takeAt 4 72 (.agg #[.slice A4 (k + m + 1) n4]) rfl rfl (by kernel_rfl) (by kernel_rfl) (by kernel_rfl) (fun _ _ _ h => h) (loadT_y (g6) A4 (k + m + 1) n4 (fun _ h => h.2.2.1) rfl rfl (by rfl)) hTc1 ?_
              simp only [Act.put, List.setIfInBounds_toArray, List.set_cons_zero, List.set_cons_succ]
              refine callAt 5 73 rfl rfl (by kernel_rfl) (by rfl) (by kernel_rfl) (right_any HSN.out.1 HSN.out.2 A4 (k + m + 1) n4 (joinL l' k l m 8) _ (by omega) hTc1.2.2.2) ?_
              rintro e w' ⟨rfl, hb'⟩
              have hTc2 := hTc1.call hb'
              refine ⟨_, rfl, hTc2, ?_⟩
              clear hTc1 hb'
              rw [R2.out]
              simp only [Act.put, List.setIfInBounds_toArray, List.set_cons_zero, List.set_cons_succ]
              refine takeAt 6 74 (.bool true) rfl rfl (by kernel_rfl) (by kernel_rfl) (by kernel_rfl) (fun _ _ _ h => h) (eqlE_y (m := 0) (n := 0) true (by simp) rfl rfl rfl (by rfl)) hTc2 ?_
              simp only [Act.put, List.setIfInBounds_toArray, List.set_cons_zero, List.set_cons_succ]
              refine takeAt 7 75 (.bool true) rfl rfl (by kernel_rfl) (by kernel_rfl) (by kernel_rfl) (fun _ _ _ h => h) (yields (by rfl) (fun w => by kernel_rfl)) hTc2 ?_
              simp only [Act.put, List.setIfInBounds_toArray, List.set_cons_zero, List.set_cons_succ]
              refine takeAt 8 76 (.bool true) rfl rfl (by kernel_rfl) (by kernel_rfl) (by kernel_rfl) (fun _ _ _ h => h) (yields (by rfl) (fun w => by kernel_rfl)) hTc2 ?_
              simp only [Act.put, List.setIfInBounds_toArray, List.set_cons_zero, List.set_cons_succ]
              refine takeAt 9 77 (.int .i64 0) rfl rfl (by kernel_rfl) (by kernel_rfl) (by kernel_rfl) (fun _ _ _ h => h) (yields (by rfl) (fun w => by kernel_rfl)) hTc2 ?_
              simp only [Act.put, List.setIfInBounds_toArray, List.set_cons_zero, List.set_cons_succ]
              refine takeAt 10 78 (.bool true) rfl rfl (by kernel_rfl) (by kernel_rfl) (by kernel_rfl) (fun _ _ _ h => h) (eqlE_y (m := 0) (n := 0) true (by simp) rfl rfl rfl (by rfl)) hTc2 ?_
              simp only [Act.put, List.setIfInBounds_toArray, List.set_cons_zero, List.set_cons_succ]
              refine takeAt 11 79 (.bool true) rfl rfl (by kernel_rfl) (by kernel_rfl) (by kernel_rfl) (fun _ _ _ h => h) (yields (by rfl) (fun w => by kernel_rfl)) hTc2 ?_
              simp only [Act.put, List.setIfInBounds_toArray, List.set_cons_zero, List.set_cons_succ]
              as_aux_lemma =>
                refine takeAt 12 80 (.bool true) rfl rfl (by kernel_rfl) (by kernel_rfl) (by kernel_rfl) (fun _ _ _ h => h) (yields (by rfl) (fun w => by kernel_rfl)) hTc2 ?_
                simp only [Act.put, List.setIfInBounds_toArray, List.set_cons_zero, List.set_cons_succ]
                refine takeAt 13 81 (.int .i64 0) rfl rfl (by kernel_rfl) (by kernel_rfl) (by kernel_rfl) (fun _ _ _ h => h) (yields (by rfl) (fun w => by kernel_rfl)) hTc2 ?_
                simp only [Act.put, List.setIfInBounds_toArray, List.set_cons_zero, List.set_cons_succ]
                refine takeAt 14 82 (.bool true) rfl rfl (by kernel_rfl) (by kernel_rfl) (by kernel_rfl) (fun _ _ _ h => h) (eqlE_y (m := 0) (n := 0) true (by simp) rfl rfl rfl (by rfl)) hTc2 ?_
                simp only [Act.put, List.setIfInBounds_toArray, List.set_cons_zero, List.set_cons_succ]
                refine takeAt 15 83 (.bool true) rfl rfl (by kernel_rfl) (by kernel_rfl) (by kernel_rfl) (fun _ _ _ h => h) (yields (by rfl) (fun w => by kernel_rfl)) hTc2 ?_
                simp only [Act.put, List.setIfInBounds_toArray, List.set_cons_zero, List.set_cons_succ]
                refine takeAt 16 84 (.bool true) rfl rfl (by kernel_rfl) (by kernel_rfl) (by kernel_rfl) (fun _ _ _ h => h) (yields (by rfl) (fun w => by kernel_rfl)) hTc2 ?_
                simp only [Act.put, List.setIfInBounds_toArray, List.set_cons_zero, List.set_cons_succ]
                refine takeAt 17 85 (.int .i64 p1) rfl rfl (by kernel_rfl) (by kernel_rfl) (by kernel_rfl) (fun _ _ _ h => h) (yields (by rfl) (fun w => by kernel_rfl)) hTc2 ?_
                simp only [Act.put, List.setIfInBounds_toArray, List.set_cons_zero, List.set_cons_succ]
                refine takeAt 18 86 (.int .i64 p1) rfl rfl (by kernel_rfl) (by kernel_rfl) (by kernel_rfl) (fun _ _ _ h => h) (yields (by rfl) (fun w => by kernel_rfl)) hTc2 ?_
                simp only [Act.put, List.setIfInBounds_toArray, List.set_cons_zero, List.set_cons_succ]
                refine takeAt 19 87 (.bool true) rfl rfl (by kernel_rfl) (by kernel_rfl) (by kernel_rfl) (fun _ _ _ h => h) (eqlI_y (m := p1) (n := p1) true (by simp) rfl rfl rfl (by rfl)) hTc2 ?_
                simp only [Act.put, List.setIfInBounds_toArray, List.set_cons_zero, List.set_cons_succ]
                refine takeAt 20 88 (.bool true) rfl rfl (by kernel_rfl) (by kernel_rfl) (by kernel_rfl) (fun _ _ _ h => h) (yields (by rfl) (fun w => by kernel_rfl)) hTc2 ?_
                simp only [Act.put, List.setIfInBounds_toArray, List.set_cons_zero, List.set_cons_succ]
                refine takeAt 21 89 (.bool true) rfl rfl (by kernel_rfl) (by kernel_rfl) (by kernel_rfl) (fun _ _ _ h => h) (yields (by rfl) (fun w => by kernel_rfl)) hTc2 ?_
                simp only [Act.put, List.setIfInBounds_toArray, List.set_cons_zero, List.set_cons_succ]
                refine takeAt 22 90 (.int .i64 p2) rfl rfl (by kernel_rfl) (by kernel_rfl) (by kernel_rfl) (fun _ _ _ h => h) (yields (by rfl) (fun w => by kernel_rfl)) hTc2 ?_
                simp only [Act.put, List.setIfInBounds_toArray, List.set_cons_zero, List.set_cons_succ]
                refine takeAt 23 91 (.int .i64 p2) rfl rfl (by kernel_rfl) (by kernel_rfl) (by kernel_rfl) (fun _ _ _ h => h) (yields (by rfl) (fun w => by kernel_rfl)) hTc2 ?_
                simp only [Act.put, List.setIfInBounds_toArray, List.set_cons_zero, List.set_cons_succ]
                as_aux_lemma =>
                  refine takeAt 24 92 (.bool true) rfl rfl (by kernel_rfl) (by kernel_rfl) (by kernel_rfl) (fun _ _ _ h => h) (eqlI_y (m := p2) (n := p2) true (by simp) rfl rfl rfl (by rfl)) hTc2 ?_
                  simp only [Act.put, List.setIfInBounds_toArray, List.set_cons_zero, List.set_cons_succ]
                  refine takeAt 25 93 (.bool true) rfl rfl (by kernel_rfl) (by kernel_rfl) (by kernel_rfl) (fun _ _ _ h => h) (yields (by rfl) (fun w => by kernel_rfl)) hTc2 ?_
                  simp only [Act.put, List.setIfInBounds_toArray, List.set_cons_zero, List.set_cons_succ]
                  refine takeAt 26 94 (.bool true) rfl rfl (by kernel_rfl) (by kernel_rfl) (by kernel_rfl) (fun _ _ _ h => h) (yields (by rfl) (fun w => by kernel_rfl)) hTc2 ?_
                  simp only [Act.put, List.setIfInBounds_toArray, List.set_cons_zero, List.set_cons_succ]
                  refine takeAt 27 95 (.agg #[.slice A3 (m + k + 1) n3]) rfl rfl (by kernel_rfl) (by kernel_rfl) (by kernel_rfl) (fun _ _ _ h => h) (loadT_y (g5) A3 (m + k + 1) n3 (fun _ h => h.2.1.1) rfl rfl (by rfl)) hTc2 ?_
                  simp only [Act.put, List.setIfInBounds_toArray, List.set_cons_zero, List.set_cons_succ]
                  refine takeAt 28 96 (.agg #[.slice A4 (k + m + 1) n4]) rfl rfl (by kernel_rfl) (by kernel_rfl) (by kernel_rfl) (fun _ _ _ h => h) (loadT_y (g6) A4 (k + m + 1) n4 (fun _ h => h.2.2.1) rfl rfl (by rfl)) hTc2 ?_
                  simp only [Act.put, List.setIfInBounds_toArray, List.set_cons_zero, List.set_cons_succ]
                  refine takeAt 30 98 (.agg #[.slice A (m) cap]) rfl rfl (by kernel_rfl) (by kernel_rfl) (by kernel_rfl) (fun _ _ _ h => h) (loadT_y (w.heap.size) A (m) cap (fun _ h => h.1.2.1.1) rfl rfl (by rfl)) hTc2 ?_
                  simp only [Act.put, List.setIfInBounds_toArray, List.set_cons_zero, List.set_cons_succ]
                  refine takeAt 31 99 (.agg #[.slice B (k) cap']) rfl rfl (by kernel_rfl) (by kernel_rfl) (by kernel_rfl) (fun _ _ _ h => h) (loadT_y (w.heap.size + 1) B (k) cap' (fun _ h => h.1.2.2.1) rfl rfl (by rfl)) hTc2 ?_
                  simp only [Act.put, List.setIfInBounds_toArray, List.set_cons_zero, List.set_cons_succ]
                  refine callAt 29 97 rfl rfl (by kernel_rfl) (by rfl) (by kernel_rfl) (same_any A3 A4 (m + k + 1) (k + m + 1) n3 n4 (joinL l m l' k 8) (joinL l' k l m 8) _ (by omega) (by omega) hTc2.2.1.2 hTc2.2.2.2) ?_
                  rintro e w' ⟨rfl, hb'⟩
                  have hTc3 := hTc2.call hb'
                  refine ⟨_, rfl, hTc3, ?_⟩
                  clear hTc2 hb'
                  rw [S1.out]
                  simp only [Act.put, List.setIfInBounds_toArray, List.set_cons_zero, List.set_cons_succ]
                  refine callAt 32 100 rfl rfl (by kernel_rfl) (by rfl) (by kernel_rfl) (same_any A B m k cap cap' l l' _ (by omega) (by omega) hTc3.1.2.1.2 hTc3.1.2.2.2) ?_
                  rintro e w' ⟨rfl, hb'⟩
                  have hTc4 := hTc3.call hb'
                  refine ⟨_, rfl, hTc4, ?_⟩
                  clear hTc3 hb'
                  rw [← S2.out]
                  simp only [Act.put, List.setIfInBounds_toArray, List.set_cons_zero, List.set_cons_succ]
                  refine takeAt 33 101 (.bool true) rfl rfl (by kernel_rfl) (by kernel_rfl) (by kernel_rfl) (fun _ _ _ h => h) (eqlB_y (m := sb) rfl rfl rfl (by rfl)) hTc4 ?_
                  simp only [Act.put, List.setIfInBounds_toArray, List.set_cons_zero, List.set_cons_succ]
                  refine takeAt 34 102 (.bool true) rfl rfl (by kernel_rfl) (by kernel_rfl) (by kernel_rfl) (fun _ _ _ h => h) (yields (by rfl) (fun w => by kernel_rfl)) hTc4 ?_
                  simp only [Act.put, List.setIfInBounds_toArray, List.set_cons_zero, List.set_cons_succ]
                  refine takeAt 35 103 (.bool true) rfl rfl (by kernel_rfl) (by kernel_rfl) (by kernel_rfl) (fun _ _ _ h => h) (yields (by rfl) (fun w => by kernel_rfl)) hTc4 ?_
                  simp only [Act.put, List.setIfInBounds_toArray, List.set_cons_zero, List.set_cons_succ]
                  as_aux_lemma =>
                    refine callAt 36 104 rfl rfl (by kernel_rfl) (by rfl) (by kernel_rfl) (fixed_any HSN.out.1 HSN.out.2 _) ?_
                    rintro e w' ⟨rfl, hb'⟩
                    have hTc5 := hTc4.call hb'
                    refine ⟨_, rfl, hTc5, ?_⟩
                    clear hTc4 hb'
                    simp only [Act.put, List.setIfInBounds_toArray, List.set_cons_zero, List.set_cons_succ]
                    refine takeAt 37 105 (.bool true) rfl rfl (by kernel_rfl) (by kernel_rfl) (by kernel_rfl) (fun _ _ _ h => h) (yields (by rfl) (fun w => by kernel_rfl)) hTc5 ?_
                    simp only [Act.put, List.setIfInBounds_toArray, List.set_cons_zero, List.set_cons_succ]
                    refine takeAt 38 4 (.bool true) rfl rfl (by kernel_rfl) (by kernel_rfl) (by kernel_rfl) (fun _ _ _ h => h) (yields (by rfl) (fun w => by kernel_rfl)) hTc5 ?_
                    simp only [Act.put, List.setIfInBounds_toArray, List.set_cons_zero, List.set_cons_succ]
                    refine wpAnyH_done (by kernel_rfl) ?_ _
                    refine hK _ _ ?_
                    clear hK
                    have HQ := Lib.hid hTc5
                    clear hTc5
                    go_wp2_with fail
                    go_ret
                    exact ⟨rfl, HQ.out.1.1⟩
            clear hK
            have hS0 := HS0.out
            clear HS0 HQ0 c2 c3
            refine wp_region_held_drew (S := Duo w A m cap w.heap.size l B k cap' (w.heap.size + 1) l') (by kernel_rfl) hS0 (fun _ => ?_)
            generalize w'.drew = u0 at hS0 rest ⊢
            refine takeAt 0 42 (.agg #[.slice A m cap]) rfl rfl (by kernel_rfl) (by kernel_rfl) (by kernel_rfl) (fun _ _ _ h => h) (loadT_y w.heap.size A m cap (fun _ h => h.2.1.1) rfl rfl (by rfl)) hS0 ?_
            simp only [Act.put, List.setIfInBounds_toArray, List.set_cons_zero, List.set_cons_succ]
            refine takeAt 1 43 (.agg #[.slice B k cap']) rfl rfl (by kernel_rfl) (by kernel_rfl) (by kernel_rfl) (fun _ _ _ h => h) (loadT_y (w.heap.size + 1) B k cap' (fun _ h => h.2.2.1) rfl rfl (by rfl)) hS0 ?_
            simp only [Act.put, List.setIfInBounds_toArray, List.set_cons_zero, List.set_cons_succ]
            refine takeAt 3 45 (.agg #[.slice B k cap']) rfl rfl (by kernel_rfl) (by kernel_rfl) (by kernel_rfl) (fun _ _ _ h => h) (loadT_y (w.heap.size + 1) B k cap' (fun _ h => h.2.2.1) rfl rfl (by rfl)) hS0 ?_
            simp only [Act.put, List.setIfInBounds_toArray, List.set_cons_zero, List.set_cons_succ]
            refine takeAt 4 46 (.agg #[.slice A m cap]) rfl rfl (by kernel_rfl) (by kernel_rfl) (by kernel_rfl) (fun _ _ _ h => h) (loadT_y w.heap.size A m cap (fun _ h => h.2.1.1) rfl rfl (by rfl)) hS0 ?_
            simp only [Act.put, List.setIfInBounds_toArray, List.set_cons_zero, List.set_cons_succ]
            have hB0 : Below u0.heap.size u0 u0 := Below.refl _ u0
            refine wpAnyH_ready (rs := [2, 6, 7]) (by kernel_rfl) (by simp) (AllReadyH.cons rfl (callStep 2 44 rfl (by rfl) (by kernel_rfl) (join_any A m cap l B k cap' l' 8 u0 (by omega) (by omega) HM.out HM'.out (hS0.call hB0).2.1.2 (hS0.call hB0).2.2.2) ?_) (AllReadyH.cons rfl (valStep 6 5 (.pointer (some ⟨u0.heap.size, 0, none⟩)) (World.alloc u0 (.cells #[.slice none 0 0] 24)) rfl (by rfl) (by kernel_rfl) (hS0.call (thenB hB0 (show Below u0.heap.size u0 (World.alloc u0 (.cells #[.slice none 0 0] 24)) by go_grown) hB0.size)) ?_) (AllReadyH.cons rfl (valStep 7 6 (.pointer (some ⟨u0.heap.size, 0, none⟩)) (World.alloc u0 (.cells #[.slice none 0 0] 24)) rfl (by rfl) (by kernel_rfl) (hS0.call (thenB hB0 (show Below u0.heap.size u0 (World.alloc u0 (.cells #[.slice none 0 0] 24)) by go_grown) hB0.size)) ?_) (AllReadyH.nil))))
            · rintro e u1 ⟨A3, n4, rfl, ho, hX⟩
              obtain ⟨A3, m7, e', -, N5, b6⟩ := own_nodes ho
              cases e'
              clear ho
              clear b6
              have hB2 := thenB hB0 hX hB0.size
              clear hX
              refine ⟨_, rfl, hS0.call hB2, ?_⟩
              simp only [Act.put, List.setIfInBounds_toArray, List.set_cons_zero, List.set_cons_succ]
              refine wpAnyH_ready (rs := [5, 6, 7]) (by kernel_rfl) (by simp) (AllReadyH.cons rfl (callStep 5 47 rfl (by rfl) (by kernel_rfl) (join_any B k cap' l' A m cap l 8 u1 (by omega) (by omega) HM'.out HM.out (hS0.call hB2).2.2.2 (hS0.call hB2).2.1.2) ?_) (AllReadyH.cons rfl (valStep 6 5 (.pointer (some ⟨u1.heap.size, 0, none⟩)) (World.alloc u1 (.cells #[.slice none 0 0] 24)) rfl (by rfl) (by kernel_rfl) (hS0.call (thenB hB2 (show Below u1.heap.size u1 (World.alloc u1 (.cells #[.slice none 0 0] 24)) by go_grown) hB2.size)) ?_) (AllReadyH.cons rfl (valStep 7 6 (.pointer (some ⟨u1.heap.size, 0, none⟩)) (World.alloc u1 (.cells #[.slice none 0 0] 24)) rfl (by rfl) (by kernel_rfl) (hS0.call (thenB hB2 (show Below u1.heap.size u1 (World.alloc u1 (.cells #[.slice none 0 0] 24)) by go_grown) hB2.size)) ?_) (AllReadyH.nil))))
              · rintro e u8 ⟨A10, n11, rfl, ho, hX⟩
                obtain ⟨A10, m14, e', -, N12, b13⟩ := own_nodes ho
                cases e'
                clear ho
                clear b13
                have N15 := N5.call hX
                have hB9 := thenB hB2 hX hB2.size
                clear hX
                refine ⟨_, rfl, hS0.call hB9, ?_⟩
                simp only [Act.put, List.setIfInBounds_toArray, List.set_cons_zero, List.set_cons_succ]
                refine wpAnyH_ready (rs := [6, 7]) (by kernel_rfl) (by simp) (AllReadyH.cons rfl (valStep 6 5 (.pointer (some ⟨u8.heap.size, 0, none⟩)) (World.alloc u8 (.cells #[.slice none 0 0] 24)) rfl (by rfl) (by kernel_rfl) (hS0.call (thenB hB9 (show Below u8.heap.size u8 (World.alloc u8 (.cells #[.slice none 0 0] 24)) by go_grown) hB9.size)) ?_) (AllReadyH.cons rfl (valStep 7 6 (.pointer (some ⟨u8.heap.size, 0, none⟩)) (World.alloc u8 (.cells #[.slice none 0 0] 24)) rfl (by rfl) (by kernel_rfl) (hS0.call (thenB hB9 (show Below u8.heap.size u8 (World.alloc u8 (.cells #[.slice none 0 0] 24)) by go_grown) hB9.size)) ?_) (AllReadyH.nil)))
                · have hX : Below u8.heap.size u8 (World.alloc u8 (.cells #[.slice none 0 0] 24)) := by go_grown
                  have Z18 : (World.alloc u8 (.cells #[.slice none 0 0] 24)).heap[u8.heap.size]? = some (.cells #[.slice none 0 0] 24 (0, 0)) := heap_alloc_new _ _
                  generalize World.alloc u8 (.cells #[.slice none 0 0] 24) = u16 at hX Z18 ⊢
                  have L19 : u0.heap.size ≤ u8.heap.size := hB9.size
                  have D20 : ∀ a, A3 = some a → a.block ≠ u8.heap.size := fun a ha => Nat.ne_of_lt (N15.lt (by omega) a ha)
                  have D21 : ∀ a, A10 = some a → a.block ≠ u8.heap.size := fun a ha => Nat.ne_of_lt (N12.lt (by omega) a ha)
                  have N22 := N15.call hX
                  have N23 := N12.call hX
                  have hB17 := thenB hB9 hX hB9.size
                  clear hX
                  simp only [Act.put, List.setIfInBounds_toArray, List.set_cons_zero, List.set_cons_succ]
                  refine wpAnyH_ready (rs := [7]) (by kernel_rfl) (by simp) (AllReadyH.cons rfl (valStep 7 6 (.pointer (some ⟨u16.heap.size, 0, none⟩)) (World.alloc u16 (.cells #[.slice none 0 0] 24)) rfl (by rfl) (by kernel_rfl) (hS0.call (thenB hB17 (show Below u16.heap.size u16 (World.alloc u16 (.cells #[.slice none 0 0] 24)) by go_grown) hB17.size)) ?_) (AllReadyH.nil))
                  · have hX : Below u16.heap.size u16 (World.alloc u16 (.cells #[.slice none 0 0] 24)) := by go_grown
                    have Z26 : (World.alloc u16 (.cells #[.slice none 0 0] 24)).heap[u16.heap.size]? = some (.cells #[.slice none 0 0] 24 (0, 0)) := heap_alloc_new _ _
                    generalize World.alloc u16 (.cells #[.slice none 0 0] 24) = u24 at hX Z26 ⊢
                    have L27 : u0.heap.size ≤ u16.heap.size := hB17.size
                    have D28 : ∀ a, A3 = some a → a.block ≠ u16.heap.size := fun a ha => Nat.ne_of_lt (N22.lt (by omega) a ha)
                    have D29 : ∀ a, A10 = some a → a.block ≠ u16.heap.size := fun a ha => Nat.ne_of_lt (N23.lt (by omega) a ha)
                    have D30 : u8.heap.size ≠ u16.heap.size := by have := heap_lt Z18; omega
                    have N31 := N22.call hX
                    have N32 := N23.call hX
                    have Z33 := (hX.block _ (heap_lt Z18)).trans Z18
                    have hB25 := thenB hB17 hX hB17.size
                    clear hX
                    simp only [Act.put, List.setIfInBounds_toArray, List.set_cons_zero, List.set_cons_succ]
                    have hne : u8.heap.size ≠ u16.heap.size := D30
                    have hw1 : Below u0.heap.size u0 (u24.setRow (u8.heap.size) #[.slice A3 (m + k + 1) n4]) := below_row hB25 L19 _
                    have hw2 : Below u0.heap.size u0 ((u24.setRow (u8.heap.size) #[.slice A3 (m + k + 1) n4]).setRow (u16.heap.size) #[.slice A10 (k + m + 1) n11]) := below_row hw1 L27 _
                    obtain ⟨t9, t10, m3, m4⟩ := two_rows (n3 := n4) (n4 := n11) Z33 Z26 hne N31 N32 D20 D28 D21 D29
                    refine rowAt 8 24 (u8.heap.size) #[.slice none 0 0] #[.slice A3 (m + k + 1) n4] rfl rfl rfl (by kernel_rfl) (by rfl) rfl rfl Z33 infoT rfl (by simp [Value.oneCell']) (hS0.call hw1) ?_
                    refine rowAt 9 24 (u16.heap.size) #[.slice none 0 0] #[.slice A10 (k + m + 1) n11] rfl rfl rfl (by kernel_rfl) (by rfl) rfl rfl ((setRow_other u24 (u8.heap.size) (u16.heap.size) _ (Ne.symm hne)).trans Z26) infoT rfl (by simp [Value.oneCell']) (hS0.call hw2) ?_
                    refine wpAnyH_done (by kernel_rfl) ?_ _
                    exact rest _ (u8.heap.size) (u16.heap.size) A3 A10 n4 n11 _ _ _ _ _ _ _ _ _ _ _ _ _ _ _ _ _ _ _ _ _ _ _ _ _ _ _ _ _ _ _ _ _ _ _ _ _ hw2 t9 t10 m3 m4
                · have hX : Below u8.heap.size u8 (World.alloc u8 (.cells #[.slice none 0 0] 24)) := by go_grown
                  have Z36 : (World.alloc u8 (.cells #[.slice none 0 0] 24)).heap[u8.heap.size]? = some (.cells #[.slice none 0 0] 24 (0, 0)) := heap_alloc_new _ _
                  generalize World.alloc u8 (.cells #[.slice none 0 0] 24) = u34 at hX Z36 ⊢
                  have L37 : u0.heap.size ≤ u8.heap.size := hB9.size
                  have D38 : ∀ a, A3 = some a → a.block ≠ u8.heap.size := fun a ha => Nat.ne_of_lt (N15.lt (by omega) a ha)
                  have D39 : ∀ a, A10 = some a → a.block ≠ u8.heap.size := fun a ha => Nat.ne_of_lt (N12.lt (by omega) a ha)
                  have N40 := N15.call hX
                  have N41 := N12.call hX
                  have hB35 := thenB hB9 hX hB9.size
                  clear hX
                  simp only [Act.put, List.setIfInBounds_toArray, List.set_cons_zero, List.set_cons_succ]
                  refine wpAnyH_ready (rs := [6]) (by kernel_rfl) (by simp) (AllReadyH.cons rfl (valStep 6 5 (.pointer (some ⟨u34.heap.size, 0, none⟩)) (World.alloc u34 (.cells #[.slice none 0 0] 24)) rfl (by rfl) (by kernel_rfl) (hS0.call (thenB hB35 (show Below u34.heap.size u34 (World.alloc u34 (.cells #[.slice none 0 0] 24)) by go_grown) hB35.size)) ?_) (AllReadyH.nil))
                  · have hX : Below u34.heap.size u34 (World.alloc u34 (.cells #[.slice none 0 0] 24)) := by go_grown
                    have Z44 : (World.alloc u34 (.cells #[.slice none 0 0] 24)).heap[u34.heap.size]? = some (.cells #[.slice none 0 0] 24 (0, 0)) := heap_alloc_new _ _
                    generalize World.alloc u34 (.cells #[.slice none 0 0] 24) = u42 at hX Z44 ⊢
                    have L45 : u0.heap.size ≤ u34.heap.size := hB35.size
                    have D46 : ∀ a, A3 = some a → a.block ≠ u34.heap.size := fun a ha => Nat.ne_of_lt (N40.lt (by omega) a ha)
                    have D47 : ∀ a, A10 = some a → a.block ≠ u34.heap.size := fun a ha => Nat.ne_of_lt (N41.lt (by omega) a ha)
                    have D48 : u34.heap.size ≠ u8.heap.size := by have := heap_lt Z36; omega
                    have N49 := N40.call hX
                    have N50 := N41.call hX
                    have Z51 := (hX.block _ (heap_lt Z36)).trans Z36
                    have hB43 := thenB hB35 hX hB35.size
                    clear hX
                    simp only [Act.put, List.setIfInBounds_toArray, List.set_cons_zero, List.set_cons_succ]
                    have hne : u34.heap.size ≠ u8.heap.size := D48
                    have hw1 : Below u0.heap.size u0 (u42.setRow (u34.heap.size) #[.slice A3 (m + k + 1) n4]) := below_row hB43 L45 _
                    have hw2 : Below u0.heap.size u0 ((u42.setRow (u34.heap.size) #[.slice A3 (m + k + 1) n4]).setRow (u8.heap.size) #[.slice A10 (k + m + 1) n11]) := below_row hw1 L37 _
                    obtain ⟨t9, t10, m3, m4⟩ := two_rows (n3 := n4) (n4 := n11) Z44 Z51 hne N49 N50 D46 D38 D47 D39
                    refine rowAt 8 24 (u34.heap.size) #[.slice none 0 0] #[.slice A3 (m + k + 1) n4] rfl rfl rfl (by kernel_rfl) (by rfl) rfl rfl Z44 infoT rfl (by simp [Value.oneCell']) (hS0.call hw1) ?_
                    refine rowAt 9 24 (u8.heap.size) #[.slice none 0 0] #[.slice A10 (k + m + 1) n11] rfl rfl rfl (by kernel_rfl) (by rfl) rfl rfl ((setRow_other u42 (u34.heap.size) (u8.heap.size) _ (Ne.symm hne)).trans Z51) infoT rfl (by simp [Value.oneCell']) (hS0.call hw2) ?_
                    refine wpAnyH_done (by kernel_rfl) ?_ _
                    exact rest _ (u34.heap.size) (u8.heap.size) A3 A10 n4 n11 _ _ _ _ _ _ _ _ _ _ _ _ _ _ _ _ _ _ _ _ _ _ _ _ _ _ _ _ _ _ _ _ _ _ _ _ _ hw2 t9 t10 m3 m4
              · have hX : Below u1.heap.size u1 (World.alloc u1 (.cells #[.slice none 0 0] 24)) := by go_grown
                have Z54 : (World.alloc u1 (.cells #[.slice none 0 0] 24)).heap[u1.heap.size]? = some (.cells #[.slice none 0 0] 24 (0, 0)) := heap_alloc_new _ _
                generalize World.alloc u1 (.cells #[.slice none 0 0] 24) = u52 at hX Z54 ⊢
                have L55 : u0.heap.size ≤ u1.heap.size := hB2.size
                have D56 : ∀ a, A3 = some a → a.block ≠ u1.heap.size := fun a ha => Nat.ne_of_lt (N5.lt (by omega) a ha)
                have N57 := N5.call hX
                have hB53 := thenB hB2 hX hB2.size
                clear hX
                simp only [Act.put, List.setIfInBounds_toArray, List.set_cons_zero, List.set_cons_succ]
                refine wpAnyH_ready (rs := [5, 7]) (by kernel_rfl) (by simp) (AllReadyH.cons rfl (callStep 5 47 rfl (by rfl) (by kernel_rfl) (join_any B k cap' l' A m cap l 8 u52 (by omega) (by omega) HM'.out HM.out (hS0.call hB53).2.2.2 (hS0.call hB53).2.1.2) ?_) (AllReadyH.cons rfl (valStep 7 6 (.pointer (some ⟨u52.heap.size, 0, none⟩)) (World.alloc u52 (.cells #[.slice none 0 0] 24)) rfl (by rfl) (by kernel_rfl) (hS0.call (thenB hB53 (show Below u52.heap.size u52 (World.alloc u52 (.cells #[.slice none 0 0] 24)) by go_grown) hB53.size)) ?_) (AllReadyH.nil)))
                · rintro e u58 ⟨A60, n61, rfl, ho, hX⟩
                  obtain ⟨A60, m64, e', -, N62, b63⟩ := own_nodes ho
                  cases e'
                  clear ho
                  have D65 : ∀ a, A60 = some a → a.block ≠ u1.heap.size := fun a ha => by have h1 := b63 a ha; have h2 := heap_lt Z54; omega
                  clear b63
                  have N66 := N57.call hX
                  have Z67 := (hX.block _ (heap_lt Z54)).trans Z54
                  have hB59 := thenB hB53 hX hB53.size
                  clear hX
                  refine ⟨_, rfl, hS0.call hB59, ?_⟩
                  simp only [Act.put, List.setIfInBounds_toArray, List.set_cons_zero, List.set_cons_succ]
                  refine wpAnyH_ready (rs := [7]) (by kernel_rfl) (by simp) (AllReadyH.cons rfl (valStep 7 6 (.pointer (some ⟨u58.heap.size, 0, none⟩)) (World.alloc u58 (.cells #[.slice none 0 0] 24)) rfl (by rfl) (by kernel_rfl) (hS0.call (thenB hB59 (show Below u58.heap.size u58 (World.alloc u58 (.cells #[.slice none 0 0] 24)) by go_grown) hB59.size)) ?_) (AllReadyH.nil))
                  · have hX : Below u58.heap.size u58 (World.alloc u58 (.cells #[.slice none 0 0] 24)) := by go_grown
                    have Z70 : (World.alloc u58 (.cells #[.slice none 0 0] 24)).heap[u58.heap.size]? = some (.cells #[.slice none 0 0] 24 (0, 0)) := heap_alloc_new _ _
                    generalize World.alloc u58 (.cells #[.slice none 0 0] 24) = u68 at hX Z70 ⊢
                    have L71 : u0.heap.size ≤ u58.heap.size := hB59.size
                    have D72 : ∀ a, A3 = some a → a.block ≠ u58.heap.size := fun a ha => Nat.ne_of_lt (N66.lt (by omega) a ha)
                    have D73 : ∀ a, A60 = some a → a.block ≠ u58.heap.size := fun a ha => Nat.ne_of_lt (N62.lt (by omega) a ha)
                    have D74 : u1.heap.size ≠ u58.heap.size := by have := heap_lt Z67; omega
                    have N75 := N66.call hX
                    have N76 := N62.call hX
                    have Z77 := (hX.block _ (heap_lt Z67)).trans Z67
                    have hB69 := thenB hB59 hX hB59.size
                    clear hX
                    simp only [Act.put, List.setIfInBounds_toArray, List.set_cons_zero, List.set_cons_succ]
                    have hne : u1.heap.size ≠ u58.heap.size := D74
                    have hw1 : Below u0.heap.size u0 (u68.setRow (u1.heap.size) #[.slice A3 (m + k + 1) n4]) := below_row hB69 L55 _
                    have hw2 : Below u0.heap.size u0 ((u68.setRow (u1.heap.size) #[.slice A3 (m + k + 1) n4]).setRow (u58.heap.size) #[.slice A60 (k + m + 1) n61]) := below_row hw1 L71 _
                    obtain ⟨t9, t10, m3, m4⟩ := two_rows (n3 := n4) (n4 := n61) Z77 Z70 hne N75 N76 D56 D72 D65 D73
                    refine rowAt 8 24 (u1.heap.size) #[.slice none 0 0] #[.slice A3 (m + k + 1) n4] rfl rfl rfl (by kernel_rfl) (by rfl) rfl rfl Z77 infoT rfl (by simp [Value.oneCell']) (hS0.call hw1) ?_
                    refine rowAt 9 24 (u58.heap.size) #[.slice none 0 0] #[.slice A60 (k + m + 1) n61] rfl rfl rfl (by kernel_rfl) (by rfl) rfl rfl ((setRow_other u68 (u1.heap.size) (u58.heap.size) _ (Ne.symm hne)).trans Z70) infoT rfl (by simp [Value.oneCell']) (hS0.call hw2) ?_
                    refine wpAnyH_done (by kernel_rfl) ?_ _
                    exact rest _ (u1.heap.size) (u58.heap.size) A3 A60 n4 n61 _ _ _ _ _ _ _ _ _ _ _ _ _ _ _ _ _ _ _ _ _ _ _ _ _ _ _ _ _ _ _ _ _ _ _ _ _ hw2 t9 t10 m3 m4
                · have hX : Below u52.heap.size u52 (World.alloc u52 (.cells #[.slice none 0 0] 24)) := by go_grown
                  have Z80 : (World.alloc u52 (.cells #[.slice none 0 0] 24)).heap[u52.heap.size]? = some (.cells #[.slice none 0 0] 24 (0, 0)) := heap_alloc_new _ _
                  generalize World.alloc u52 (.cells #[.slice none 0 0] 24) = u78 at hX Z80 ⊢
                  have L81 : u0.heap.size ≤ u52.heap.size := hB53.size
                  have D82 : ∀ a, A3 = some a → a.block ≠ u52.heap.size := fun a ha => Nat.ne_of_lt (N57.lt (by omega) a ha)
                  have D83 : u1.heap.size ≠ u52.heap.size := by have := heap_lt Z54; omega
                  have N84 := N57.call hX
                  have Z85 := (hX.block _ (heap_lt Z54)).trans Z54
                  have hB79 := thenB hB53 hX hB53.size
                  clear hX
                  simp only [Act.put, List.setIfInBounds_toArray, List.set_cons_zero, List.set_cons_succ]
                  refine wpAnyH_ready (rs := [5]) (by kernel_rfl) (by simp) (AllReadyH.cons rfl (callStep 5 47 rfl (by rfl) (by kernel_rfl) (join_any B k cap' l' A m cap l 8 u78 (by omega) (by omega) HM'.out HM.out (hS0.call hB79).2.2.2 (hS0.call hB79).2.1.2) ?_) (AllReadyH.nil))
                  · rintro e u86 ⟨A88, n89, rfl, ho, hX⟩
                    obtain ⟨A88, m92, e', -, N90, b91⟩ := own_nodes ho
                    cases e'
                    clear ho
                    have D93 : ∀ a, A88 = some a → a.block ≠ u1.heap.size := fun a ha => by have h1 := b91 a ha; have h2 := heap_lt Z85; omega
                    have D94 : ∀ a, A88 = some a → a.block ≠ u52.heap.size := fun a ha => by have h1 := b91 a ha; have h2 := heap_lt Z80; omega
                    clear b91
                    have N95 := N84.call hX
                    have Z96 := (hX.block _ (heap_lt Z85)).trans Z85
                    have Z97 := (hX.block _ (heap_lt Z80)).trans Z80
                    have hB87 := thenB hB79 hX hB79.size
                    clear hX
                    refine ⟨_, rfl, hS0.call hB87, ?_⟩
                    simp only [Act.put, List.setIfInBounds_toArray, List.set_cons_zero, List.set_cons_succ]
                    have hne : u1.heap.size ≠ u52.heap.size := D83
                    have hw1 : Below u0.heap.size u0 (u86.setRow (u1.heap.size) #[.slice A3 (m + k + 1) n4]) := below_row hB87 L55 _
                    have hw2 : Below u0.heap.size u0 ((u86.setRow (u1.heap.size) #[.slice A3 (m + k + 1) n4]).setRow (u52.heap.size) #[.slice A88 (k + m + 1) n89]) := below_row hw1 L81 _
                    obtain ⟨t9, t10, m3, m4⟩ := two_rows (n3 := n4) (n4 := n89) Z96 Z97 hne N95 N90 D56 D82 D93 D94
                    refine rowAt 8 24 (u1.heap.size) #[.slice none 0 0] #[.slice A3 (m + k + 1) n4] rfl rfl rfl (by kernel_rfl) (by rfl) rfl rfl Z96 infoT rfl (by simp [Value.oneCell']) (hS0.call hw1) ?_
                    refine rowAt 9 24 (u52.heap.size) #[.slice none 0 0] #[.slice A88 (k + m + 1) n89] rfl rfl rfl (by kernel_rfl) (by rfl) rfl rfl ((setRow_other u86 (u1.heap.size) (u52.heap.size) _ (Ne.symm hne)).trans Z97) infoT rfl (by simp [Value.oneCell']) (hS0.call hw2) ?_
                    refine wpAnyH_done (by kernel_rfl) ?_ _
                    exact rest _ (u1.heap.size) (u52.heap.size) A3 A88 n4 n89 _ _ _ _ _ _ _ _ _ _ _ _ _ _ _ _ _ _ _ _ _ _ _ _ _ _ _ _ _ _ _ _ _ _ _ _ _ hw2 t9 t10 m3 m4
              · have hX : Below u1.heap.size u1 (World.alloc u1 (.cells #[.slice none 0 0] 24)) := by go_grown
                have Z100 : (World.alloc u1 (.cells #[.slice none 0 0] 24)).heap[u1.heap.size]? = some (.cells #[.slice none 0 0] 24 (0, 0)) := heap_alloc_new _ _
                generalize World.alloc u1 (.cells #[.slice none 0 0] 24) = u98 at hX Z100 ⊢
                have L101 : u0.heap.size ≤ u1.heap.size := hB2.size
                have D102 : ∀ a, A3 = some a → a.block ≠ u1.heap.size := fun a ha => Nat.ne_of_lt (N5.lt (by omega) a ha)
                have N103 := N5.call hX
                have hB99 := thenB hB2 hX hB2.size
                clear hX
                simp only [Act.put, List.setIfInBounds_toArray, List.set_cons_zero, List.set_cons_succ]
                refine wpAnyH_ready (rs := [5, 6]) (by kernel_rfl) (by simp) (AllReadyH.cons rfl (callStep 5 47 rfl (by rfl) (by kernel_rfl) (join_any B k cap' l' A m cap l 8 u98 (by omega) (by omega) HM'.out HM.out (hS0.call hB99).2.2.2 (hS0.call hB99).2.1.2) ?_) (AllReadyH.cons rfl (valStep 6 5 (.pointer (some ⟨u98.heap.size, 0, none⟩)) (World.alloc u98 (.cells #[.slice none 0 0] 24)) rfl (by rfl) (by kernel_rfl) (hS0.call (thenB hB99 (show Below u98.heap.size u98 (World.alloc u98 (.cells #[.slice none 0 0] 24)) by go_grown) hB99.size)) ?_) (AllReadyH.nil)))
                · rintro e u104 ⟨A106, n107, rfl, ho, hX⟩
                  obtain ⟨A106, m110, e', -, N108, b109⟩ := own_nodes ho
                  cases e'
                  clear ho
                  have D111 : ∀ a, A106 = some a → a.block ≠ u1.heap.size := fun a ha => by have h1 := b109 a ha; have h2 := heap_lt Z100; omega
                  clear b109
                  have N112 := N103.call hX
                  have Z113 := (hX.block _ (heap_lt Z100)).trans Z100
                  have hB105 := thenB hB99 hX hB99.size
                  clear hX
                  refine ⟨_, rfl, hS0.call hB105, ?_⟩
                  simp only [Act.put, List.setIfInBounds_toArray, List.set_cons_zero, List.set_cons_succ]
                  refine wpAnyH_ready (rs := [6]) (by kernel_rfl) (by simp) (AllReadyH.cons rfl (valStep 6 5 (.pointer (some ⟨u104.heap.size, 0, none⟩)) (World.alloc u104 (.cells #[.slice none 0 0] 24)) rfl (by rfl) (by kernel_rfl) (hS0.call (thenB hB105 (show Below u104.heap.size u104 (World.alloc u104 (.cells #[.slice none 0 0] 24)) by go_grown) hB105.size)) ?_) (AllReadyH.nil))
                  · have hX : Below u104.heap.size u104 (World.alloc u104 (.cells #[.slice none 0 0] 24)) := by go_grown
                    have Z116 : (World.alloc u104 (.cells #[.slice none 0 0] 24)).heap[u104.heap.size]? = some (.cells #[.slice none 0 0] 24 (0, 0)) := heap_alloc_new _ _
                    generalize World.alloc u104 (.cells #[.slice none 0 0] 24) = u114 at hX Z116 ⊢
                    have L117 : u0.heap.size ≤ u104.heap.size := hB105.size
                    have D118 : ∀ a, A3 = some a → a.block ≠ u104.heap.size := fun a ha => Nat.ne_of_lt (N112.lt (by omega) a ha)
                    have D119 : ∀ a, A106 = some a → a.block ≠ u104.heap.size := fun a ha => Nat.ne_of_lt (N108.lt (by omega) a ha)
                    have D120 : u104.heap.size ≠ u1.heap.size := by have := heap_lt Z113; omega
                    have N121 := N112.call hX
                    have N122 := N108.call hX
                    have Z123 := (hX.block _ (heap_lt Z113)).trans Z113
                    have hB115 := thenB hB105 hX hB105.size
                    clear hX
                    simp only [Act.put, List.setIfInBounds_toArray, List.set_cons_zero, List.set_cons_succ]
                    have hne : u104.heap.size ≠ u1.heap.size := D120
                    have hw1 : Below u0.heap.size u0 (u114.setRow (u104.heap.size) #[.slice A3 (m + k + 1) n4]) := below_row hB115 L117 _
                    have hw2 : Below u0.heap.size u0 ((u114.setRow (u104.heap.size) #[.slice A3 (m + k + 1) n4]).setRow (u1.heap.size) #[.slice A106 (k + m + 1) n107]) := below_row hw1 L101 _
                    obtain ⟨t9, t10, m3, m4⟩ := two_rows (n3 := n4) (n4 := n107) Z116 Z123 hne N121 N122 D118 D102 D119 D111
                    refine rowAt 8 24 (u104.heap.size) #[.slice none 0 0] #[.slice A3 (m + k + 1) n4] rfl rfl rfl (by kernel_rfl) (by rfl) rfl rfl Z116 infoT rfl (by simp [Value.oneCell']) (hS0.call hw1) ?_
                    refine rowAt 9 24 (u1.heap.size) #[.slice none 0 0] #[.slice A106 (k + m + 1) n107] rfl rfl rfl (by kernel_rfl) (by rfl) rfl rfl ((setRow_other u114 (u104.heap.size) (u1.heap.size) _ (Ne.symm hne)).trans Z123) infoT rfl (by simp [Value.oneCell']) (hS0.call hw2) ?_
                    refine wpAnyH_done (by kernel_rfl) ?_ _
                    exact rest _ (u104.heap.size) (u1.heap.size) A3 A106 n4 n107 _ _ _ _ _ _ _ _ _ _ _ _ _ _ _ _ _ _ _ _ _ _ _ _ _ _ _ _ _ _ _ _ _ _ _ _ _ hw2 t9 t10 m3 m4
                · have hX : Below u98.heap.size u98 (World.alloc u98 (.cells #[.slice none 0 0] 24)) := by go_grown
                  have Z126 : (World.alloc u98 (.cells #[.slice none 0 0] 24)).heap[u98.heap.size]? = some (.cells #[.slice none 0 0] 24 (0, 0)) := heap_alloc_new _ _
                  generalize World.alloc u98 (.cells #[.slice none 0 0] 24) = u124 at hX Z126 ⊢
                  have L127 : u0.heap.size ≤ u98.heap.size := hB99.size
                  have D128 : ∀ a, A3 = some a → a.block ≠ u98.heap.size := fun a ha => Nat.ne_of_lt (N103.lt (by omega) a ha)
                  have D129 : u98.heap.size ≠ u1.heap.size := by have := heap_lt Z100; omega
                  have N130 := N103.call hX
                  have Z131 := (hX.block _ (heap_lt Z100)).trans Z100
                  have hB125 := thenB hB99 hX hB99.size
                  clear hX
                  simp only [Act.put, List.setIfInBounds_toArray, List.set_cons_zero, List.set_cons_succ]
                  refine wpAnyH_ready (rs := [5]) (by kernel_rfl) (by simp) (AllReadyH.cons rfl (callStep 5 47 rfl (by rfl) (by kernel_rfl) (join_any B k cap' l' A m cap l 8 u124 (by omega) (by omega) HM'.out HM.out (hS0.call hB125).2.2.2 (hS0.call hB125).2.1.2) ?_) (AllReadyH.nil))
                  · rintro e u132 ⟨A134, n135, rfl, ho, hX⟩
                    obtain ⟨A134, m138, e', -, N136, b137⟩ := own_nodes ho
                    cases e'
                    clear ho
                    have D139 : ∀ a, A134 = some a → a.block ≠ u98.heap.size := fun a ha => by have h1 := b137 a ha; have h2 := heap_lt Z126; omega
                    have D140 : ∀ a, A134 = some a → a.block ≠ u1.heap.size := fun a ha => by have h1 := b137 a ha; have h2 := heap_lt Z131; omega
                    clear b137
                    have N141 := N130.call hX
                    have Z142 := (hX.block _ (heap_lt Z126)).trans Z126
                    have Z143 := (hX.block _ (heap_lt Z131)).trans Z131
                    have hB133 := thenB hB125 hX hB125.size
                    clear hX
                    refine ⟨_, rfl, hS0.call hB133, ?_⟩
                    simp only [Act.put, List.setIfInBounds_toArray, List.set_cons_zero, List.set_cons_succ]
                    have hne : u98.heap.size ≠ u1.heap.size := D129
                    have hw1 : Below u0.heap.size u0 (u132.setRow (u98.heap.size) #[.slice A3 (m + k + 1) n4]) := below_row hB133 L127 _
                    have hw2 : Below u0.heap.size u0 ((u132.setRow (u98.heap.size) #[.slice A3 (m + k + 1) n4]).setRow (u1.heap.size) #[.slice A134 (k + m + 1) n135]) := below_row hw1 L101 _
                    obtain ⟨t9, t10, m3, m4⟩ := two_rows (n3 := n4) (n4 := n135) Z142 Z143 hne N141 N136 D128 D102 D139 D140
                    refine rowAt 8 24 (u98.heap.size) #[.slice none 0 0] #[.slice A3 (m + k + 1) n4] rfl rfl rfl (by kernel_rfl) (by rfl) rfl rfl Z142 infoT rfl (by simp [Value.oneCell']) (hS0.call hw1) ?_
                    refine rowAt 9 24 (u1.heap.size) #[.slice none 0 0] #[.slice A134 (k + m + 1) n135] rfl rfl rfl (by kernel_rfl) (by rfl) rfl rfl ((setRow_other u132 (u98.heap.size) (u1.heap.size) _ (Ne.symm hne)).trans Z143) infoT rfl (by simp [Value.oneCell']) (hS0.call hw2) ?_
                    refine wpAnyH_done (by kernel_rfl) ?_ _
                    exact rest _ (u98.heap.size) (u1.heap.size) A3 A134 n4 n135 _ _ _ _ _ _ _ _ _ _ _ _ _ _ _ _ _ _ _ _ _ _ _ _ _ _ _ _ _ _ _ _ _ _ _ _ _ hw2 t9 t10 m3 m4
            · have hX : Below u0.heap.size u0 (World.alloc u0 (.cells #[.slice none 0 0] 24)) := by go_grown
              have Z146 : (World.alloc u0 (.cells #[.slice none 0 0] 24)).heap[u0.heap.size]? = some (.cells #[.slice none 0 0] 24 (0, 0)) := heap_alloc_new _ _
              generalize World.alloc u0 (.cells #[.slice none 0 0] 24) = u144 at hX Z146 ⊢
              have L147 : u0.heap.size ≤ u0.heap.size := hB0.size
              have hB145 := thenB hB0 hX hB0.size
              clear hX
              simp only [Act.put, List.setIfInBounds_toArray, List.set_cons_zero, List.set_cons_succ]
              refine wpAnyH_ready (rs := [2, 7]) (by kernel_rfl) (by simp) (AllReadyH.cons rfl (callStep 2 44 rfl (by rfl) (by kernel_rfl) (join_any A m cap l B k cap' l' 8 u144 (by omega) (by omega) HM.out HM'.out (hS0.call hB145).2.1.2 (hS0.call hB145).2.2.2) ?_) (AllReadyH.cons rfl (valStep 7 6 (.pointer (some ⟨u144.heap.size, 0, none⟩)) (World.alloc u144 (.cells #[.slice none 0 0] 24)) rfl (by rfl) (by kernel_rfl) (hS0.call (thenB hB145 (show Below u144.heap.size u144 (World.alloc u144 (.cells #[.slice none 0 0] 24)) by go_grown) hB145.size)) ?_) (AllReadyH.nil)))
              · rintro e u148 ⟨A150, n151, rfl, ho, hX⟩
                obtain ⟨A150, m154, e', -, N152, b153⟩ := own_nodes ho
                cases e'
                clear ho
                have D155 : ∀ a, A150 = some a → a.block ≠ u0.heap.size := fun a ha => by have h1 := b153 a ha; have h2 := heap_lt Z146; omega
                clear b153
                have Z156 := (hX.block _ (heap_lt Z146)).trans Z146
                have hB149 := thenB hB145 hX hB145.size
                clear hX
                refine ⟨_, rfl, hS0.call hB149, ?_⟩
                simp only [Act.put, List.setIfInBounds_toArray, List.set_cons_zero, List.set_cons_succ]
                refine wpAnyH_ready (rs := [5, 7]) (by kernel_rfl) (by simp) (AllReadyH.cons rfl (callStep 5 47 rfl (by rfl) (by kernel_rfl) (join_any B k cap' l' A m cap l 8 u148 (by omega) (by omega) HM'.out HM.out (hS0.call hB149).2.2.2 (hS0.call hB149).2.1.2) ?_) (AllReadyH.cons rfl (valStep 7 6 (.pointer (some ⟨u148.heap.size, 0, none⟩)) (World.alloc u148 (.cells #[.slice none 0 0] 24)) rfl (by rfl) (by kernel_rfl) (hS0.call (thenB hB149 (show Below u148.heap.size u148 (World.alloc u148 (.cells #[.slice none 0 0] 24)) by go_grown) hB149.size)) ?_) (AllReadyH.nil)))
                · rintro e u157 ⟨A159, n160, rfl, ho, hX⟩
                  obtain ⟨A159, m163, e', -, N161, b162⟩ := own_nodes ho
                  cases e'
                  clear ho
                  have D164 : ∀ a, A159 = some a → a.block ≠ u0.heap.size := fun a ha => by have h1 := b162 a ha; have h2 := heap_lt Z156; omega
                  clear b162
                  have N165 := N152.call hX
                  have Z166 := (hX.block _ (heap_lt Z156)).trans Z156
                  have hB158 := thenB hB149 hX hB149.size
                  clear hX
                  refine ⟨_, rfl, hS0.call hB158, ?_⟩
                  simp only [Act.put, List.setIfInBounds_toArray, List.set_cons_zero, List.set_cons_succ]
                  refine wpAnyH_ready (rs := [7]) (by kernel_rfl) (by simp) (AllReadyH.cons rfl (valStep 7 6 (.pointer (some ⟨u157.heap.size, 0, none⟩)) (World.alloc u157 (.cells #[.slice none 0 0] 24)) rfl (by rfl) (by kernel_rfl) (hS0.call (thenB hB158 (show Below u157.heap.size u157 (World.alloc u157 (.cells #[.slice none 0 0] 24)) by go_grown) hB158.size)) ?_) (AllReadyH.nil))
                  · have hX : Below u157.heap.size u157 (World.alloc u157 (.cells #[.slice none 0 0] 24)) := by go_grown
                    have Z169 : (World.alloc u157 (.cells #[.slice none 0 0] 24)).heap[u157.heap.size]? = some (.cells #[.slice none 0 0] 24 (0, 0)) := heap_alloc_new _ _
                    generalize World.alloc u157 (.cells #[.slice none 0 0] 24) = u167 at hX Z169 ⊢
                    have L170 : u0.heap.size ≤ u157.heap.size := hB158.size
                    have D171 : ∀ a, A150 = some a → a.block ≠ u157.heap.size := fun a ha => Nat.ne_of_lt (N165.lt (by omega) a ha)
                    have D172 : ∀ a, A159 = some a → a.block ≠ u157.heap.size := fun a ha => Nat.ne_of_lt (N161.lt (by omega) a ha)
                    have D173 : u0.heap.size ≠ u157.heap.size := by have := heap_lt Z166; omega
                    have N174 := N165.call hX
                    have N175 := N161.call hX
                    have Z176 := (hX.block _ (heap_lt Z166)).trans Z166
                    have hB168 := thenB hB158 hX hB158.size
                    clear hX
                    simp only [Act.put, List.setIfInBounds_toArray, List.set_cons_zero, List.set_cons_succ]
                    have hne : u0.heap.size ≠ u157.heap.size := D173
                    have hw1 : Below u0.heap.size u0 (u167.setRow (u0.heap.size) #[.slice A150 (m + k + 1) n151]) := below_row hB168 L147 _
                    have hw2 : Below u0.heap.size u0 ((u167.setRow (u0.heap.size) #[.slice A150 (m + k + 1) n151]).setRow (u157.heap.size) #[.slice A159 (k + m + 1) n160]) := below_row hw1 L170 _
                    obtain ⟨t9, t10, m3, m4⟩ := two_rows (n3 := n151) (n4 := n160) Z176 Z169 hne N174 N175 D155 D171 D164 D172
                    refine rowAt 8 24 (u0.heap.size) #[.slice none 0 0] #[.slice A150 (m + k + 1) n151] rfl rfl rfl (by kernel_rfl) (by rfl) rfl rfl Z176 infoT rfl (by simp [Value.oneCell']) (hS0.call hw1) ?_
                    refine rowAt 9 24 (u157.heap.size) #[.slice none 0 0] #[.slice A159 (k + m + 1) n160] rfl rfl rfl (by kernel_rfl) (by rfl) rfl rfl ((setRow_other u167 (u0.heap.size) (u157.heap.size) _ (Ne.symm hne)).trans Z169) infoT rfl (by simp [Value.oneCell']) (hS0.call hw2) ?_
                    refine wpAnyH_done (by kernel_rfl) ?_ _
                    exact rest _ (u0.heap.size) (u157.heap.size) A150 A159 n151 n160 _ _ _ _ _ _ _ _ _ _ _ _ _ _ _ _ _ _ _ _ _ _ _ _ _ _ _ _ _ _ _ _ _ _ _ _ _ hw2 t9 t10 m3 m4
                · have hX : Below u148.heap.size u148 (World.alloc u148 (.cells #[.slice none 0 0] 24)) := by go_grown
                  have Z179 : (World.alloc u148 (.cells #[.slice none 0 0] 24)).heap[u148.heap.size]? = some (.cells #[.slice none 0 0] 24 (0, 0)) := heap_alloc_new _ _
                  generalize World.alloc u148 (.cells #[.slice none 0 0] 24) = u177 at hX Z179 ⊢
                  have L180 : u0.heap.size ≤ u148.heap.size := hB149.size
                  have D181 : ∀ a, A150 = some a → a.block ≠ u148.heap.size := fun a ha => Nat.ne_of_lt (N152.lt (by omega) a ha)
                  have D182 : u0.heap.size ≠ u148.heap.size := by have := heap_lt Z156; omega
                  have N183 := N152.call hX
                  have Z184 := (hX.block _ (heap_lt Z156)).trans Z156
                  have hB178 := thenB hB149 hX hB149.size
                  clear hX
                  simp only [Act.put, List.setIfInBounds_toArray, List.set_cons_zero, List.set_cons_succ]
                  refine wpAnyH_ready (rs := [5]) (by kernel_rfl) (by simp) (AllReadyH.cons rfl (callStep 5 47 rfl (by rfl) (by kernel_rfl) (join_any B k cap' l' A m cap l 8 u177 (by omega) (by omega) HM'.out HM.out (hS0.call hB178).2.2.2 (hS0.call hB178).2.1.2) ?_) (AllReadyH.nil))
                  · rintro e u185 ⟨A187, n188, rfl, ho, hX⟩
                    obtain ⟨A187, m191, e', -, N189, b190⟩ := own_nodes ho
                    cases e'
                    clear ho
                    have D192 : ∀ a, A187 = some a → a.block ≠ u0.heap.size := fun a ha => by have h1 := b190 a ha; have h2 := heap_lt Z184; omega
                    have D193 : ∀ a, A187 = some a → a.block ≠ u148.heap.size := fun a ha => by have h1 := b190 a ha; have h2 := heap_lt Z179; omega
                    clear b190
                    have N194 := N183.call hX
                    have Z195 := (hX.block _ (heap_lt Z184)).trans Z184
                    have Z196 := (hX.block _ (heap_lt Z179)).trans Z179
                    have hB186 := thenB hB178 hX hB178.size
                    clear hX
                    refine ⟨_, rfl, hS0.call hB186, ?_⟩
                    simp only [Act.put, List.setIfInBounds_toArray, List.set_cons_zero, List.set_cons_succ]
                    have hne : u0.heap.size ≠ u148.heap.size := D182
                    have hw1 : Below u0.heap.size u0 (u185.setRow (u0.heap.size) #[.slice A150 (m + k + 1) n151]) := below_row hB186 L147 _
                    have hw2 : Below u0.heap.size u0 ((u185.setRow (u0.heap.size) #[.slice A150 (m + k + 1) n151]).setRow (u148.heap.size) #[.slice A187 (k + m + 1) n188]) := below_row hw1 L180 _
                    obtain ⟨t9, t10, m3, m4⟩ := two_rows (n3 := n151) (n4 := n188) Z195 Z196 hne N194 N189 D155 D181 D192 D193
                    refine rowAt 8 24 (u0.heap.size) #[.slice none 0 0] #[.slice A150 (m + k + 1) n151] rfl rfl rfl (by kernel_rfl) (by rfl) rfl rfl Z195 infoT rfl (by simp [Value.oneCell']) (hS0.call hw1) ?_
                    refine rowAt 9 24 (u148.heap.size) #[.slice none 0 0] #[.slice A187 (k + m + 1) n188] rfl rfl rfl (by kernel_rfl) (by rfl) rfl rfl ((setRow_other u185 (u0.heap.size) (u148.heap.size) _ (Ne.symm hne)).trans Z196) infoT rfl (by simp [Value.oneCell']) (hS0.call hw2) ?_
                    refine wpAnyH_done (by kernel_rfl) ?_ _
                    exact rest _ (u0.heap.size) (u148.heap.size) A150 A187 n151 n188 _ _ _ _ _ _ _ _ _ _ _ _ _ _ _ _ _ _ _ _ _ _ _ _ _ _ _ _ _ _ _ _ _ _ _ _ _ hw2 t9 t10 m3 m4
              · have hX : Below u144.heap.size u144 (World.alloc u144 (.cells #[.slice none 0 0] 24)) := by go_grown
                have Z199 : (World.alloc u144 (.cells #[.slice none 0 0] 24)).heap[u144.heap.size]? = some (.cells #[.slice none 0 0] 24 (0, 0)) := heap_alloc_new _ _
                generalize World.alloc u144 (.cells #[.slice none 0 0] 24) = u197 at hX Z199 ⊢
                have L200 : u0.heap.size ≤ u144.heap.size := hB145.size
                have D201 : u0.heap.size ≠ u144.heap.size := by have := heap_lt Z146; omega
                have Z202 := (hX.block _ (heap_lt Z146)).trans Z146
                have hB198 := thenB hB145 hX hB145.size
                clear hX
                simp only [Act.put, List.setIfInBounds_toArray, List.set_cons_zero, List.set_cons_succ]
                refine wpAnyH_ready (rs := [2]) (by kernel_rfl) (by simp) (AllReadyH.cons rfl (callStep 2 44 rfl (by rfl) (by kernel_rfl) (join_any A m cap l B k cap' l' 8 u197 (by omega) (by omega) HM.out HM'.out (hS0.call hB198).2.1.2 (hS0.call hB198).2.2.2) ?_) (AllReadyH.nil))
                · rintro e u203 ⟨A205, n206, rfl, ho, hX⟩
                  obtain ⟨A205, m209, e', -, N207, b208⟩ := own_nodes ho
                  cases e'
                  clear ho
                  have D210 : ∀ a, A205 = some a → a.block ≠ u0.heap.size := fun a ha => by have h1 := b208 a ha; have h2 := heap_lt Z202; omega
                  have D211 : ∀ a, A205 = some a → a.block ≠ u144.heap.size := fun a ha => by have h1 := b208 a ha; have h2 := heap_lt Z199; omega
                  clear b208
                  have Z212 := (hX.block _ (heap_lt Z202)).trans Z202
                  have Z213 := (hX.block _ (heap_lt Z199)).trans Z199
                  have hB204 := thenB hB198 hX hB198.size
                  clear hX
                  refine ⟨_, rfl, hS0.call hB204, ?_⟩
                  simp only [Act.put, List.setIfInBounds_toArray, List.set_cons_zero, List.set_cons_succ]
                  refine wpAnyH_ready (rs := [5]) (by kernel_rfl) (by simp) (AllReadyH.cons rfl (callStep 5 47 rfl (by rfl) (by kernel_rfl) (join_any B k cap' l' A m cap l 8 u203 (by omega) (by omega) HM'.out HM.out (hS0.call hB204).2.2.2 (hS0.call hB204).2.1.2) ?_) (AllReadyH.nil))
                  · rintro e u214 ⟨A216, n217, rfl, ho, hX⟩
                    obtain ⟨A216, m220, e', -, N218, b219⟩ := own_nodes ho
                    cases e'
                    clear ho
                    have D221 : ∀ a, A216 = some a → a.block ≠ u0.heap.size := fun a ha => by have h1 := b219 a ha; have h2 := heap_lt Z212; omega
                    have D222 : ∀ a, A216 = some a → a.block ≠ u144.heap.size := fun a ha => by have h1 := b219 a ha; have h2 := heap_lt Z213; omega
                    clear b219
                    have N223 := N207.call hX
                    have Z224 := (hX.block _ (heap_lt Z212)).trans Z212
                    have Z225 := (hX.block _ (heap_lt Z213)).trans Z213
                    have hB215 := thenB hB204 hX hB204.size
                    clear hX
                    refine ⟨_, rfl, hS0.call hB215, ?_⟩
                    simp only [Act.put, List.setIfInBounds_toArray, List.set_cons_zero, List.set_cons_succ]
                    have hne : u0.heap.size ≠ u144.heap.size := D201
                    have hw1 : Below u0.heap.size u0 (u214.setRow (u0.heap.size) #[.slice A205 (m + k + 1) n206]) := below_row hB215 L147 _
                    have hw2 : Below u0.heap.size u0 ((u214.setRow (u0.heap.size) #[.slice A205 (m + k + 1) n206]).setRow (u144.heap.size) #[.slice A216 (k + m + 1) n217]) := below_row hw1 L200 _
                    obtain ⟨t9, t10, m3, m4⟩ := two_rows (n3 := n206) (n4 := n217) Z224 Z225 hne N223 N218 D210 D211 D221 D222
                    refine rowAt 8 24 (u0.heap.size) #[.slice none 0 0] #[.slice A205 (m + k + 1) n206] rfl rfl rfl (by kernel_rfl) (by rfl) rfl rfl Z224 infoT rfl (by simp [Value.oneCell']) (hS0.call hw1) ?_
                    refine rowAt 9 24 (u144.heap.size) #[.slice none 0 0] #[.slice A216 (k + m + 1) n217] rfl rfl rfl (by kernel_rfl) (by rfl) rfl rfl ((setRow_other u214 (u0.heap.size) (u144.heap.size) _ (Ne.symm hne)).trans Z225) infoT rfl (by simp [Value.oneCell']) (hS0.call hw2) ?_
                    refine wpAnyH_done (by kernel_rfl) ?_ _
                    exact rest _ (u0.heap.size) (u144.heap.size) A205 A216 n206 n217 _ _ _ _ _ _ _ _ _ _ _ _ _ _ _ _ _ _ _ _ _ _ _ _ _ _ _ _ _ _ _ _ _ _ _ _ _ hw2 t9 t10 m3 m4
            · have hX : Below u0.heap.size u0 (World.alloc u0 (.cells #[.slice none 0 0] 24)) := by go_grown
              have Z228 : (World.alloc u0 (.cells #[.slice none 0 0] 24)).heap[u0.heap.size]? = some (.cells #[.slice none 0 0] 24 (0, 0)) := heap_alloc_new _ _
              generalize World.alloc u0 (.cells #[.slice none 0 0] 24) = u226 at hX Z228 ⊢
              have L229 : u0.heap.size ≤ u0.heap.size := hB0.size
              have hB227 := thenB hB0 hX hB0.size
              clear hX
              simp only [Act.put, List.setIfInBounds_toArray, List.set_cons_zero, List.set_cons_succ]
              refine wpAnyH_ready (rs := [2, 6]) (by kernel_rfl) (by simp) (AllReadyH.cons rfl (callStep 2 44 rfl (by rfl) (by kernel_rfl) (join_any A m cap l B k cap' l' 8 u226 (by omega) (by omega) HM.out HM'.out (hS0.call hB227).2.1.2 (hS0.call hB227).2.2.2) ?_) (AllReadyH.cons rfl (valStep 6 5 (.pointer (some ⟨u226.heap.size, 0, none⟩)) (World.alloc u226 (.cells #[.slice none 0 0] 24)) rfl (by rfl) (by kernel_rfl) (hS0.call (thenB hB227 (show Below u226.heap.size u226 (World.alloc u226 (.cells #[.slice none 0 0] 24)) by go_grown) hB227.size)) ?_) (AllReadyH.nil)))
              · rintro e u230 ⟨A232, n233, rfl, ho, hX⟩
                obtain ⟨A232, m236, e', -, N234, b235⟩ := own_nodes ho
                cases e'
                clear ho
                have D237 : ∀ a, A232 = some a → a.block ≠ u0.heap.size := fun a ha => by have h1 := b235 a ha; have h2 := heap_lt Z228; omega
                clear b235
                have Z238 := (hX.block _ (heap_lt Z228)).trans Z228
                have hB231 := thenB hB227 hX hB227.size
                clear hX
                refine ⟨_, rfl, hS0.call hB231, ?_⟩
                simp only [Act.put, List.setIfInBounds_toArray, List.set_cons_zero, List.set_cons_succ]
                refine wpAnyH_ready (rs := [5, 6]) (by kernel_rfl) (by simp) (AllReadyH.cons rfl (callStep 5 47 rfl (by rfl) (by kernel_rfl) (join_any B k cap' l' A m cap l 8 u230 (by omega) (by omega) HM'.out HM.out (hS0.call hB231).2.2.2 (hS0.call hB231).2.1.2) ?_) (AllReadyH.cons rfl (valStep 6 5 (.pointer (some ⟨u230.heap.size, 0, none⟩)) (World.alloc u230 (.cells #[.slice none 0 0] 24)) rfl (by rfl) (by kernel_rfl) (hS0.call (thenB hB231 (show Below u230.heap.size u230 (World.alloc u230 (.cells #[.slice none 0 0] 24)) by go_grown) hB231.size)) ?_) (AllReadyH.nil)))
                · rintro e u239 ⟨A241, n242, rfl, ho, hX⟩
                  obtain ⟨A241, m245, e', -, N243, b244⟩ := own_nodes ho
                  cases e'
                  clear ho
                  have D246 : ∀ a, A241 = some a → a.block ≠ u0.heap.size := fun a ha => by have h1 := b244 a ha; have h2 := heap_lt Z238; omega
                  clear b244
                  have N247 := N234.call hX
                  have Z248 := (hX.block _ (heap_lt Z238)).trans Z238
                  have hB240 := thenB hB231 hX hB231.size
                  clear hX
                  refine ⟨_, rfl, hS0.call hB240, ?_⟩
                  simp only [Act.put, List.setIfInBounds_toArray, List.set_cons_zero, List.set_cons_succ]
                  refine wpAnyH_ready (rs := [6]) (by kernel_rfl) (by simp) (AllReadyH.cons rfl (valStep 6 5 (.pointer (some ⟨u239.heap.size, 0, none⟩)) (World.alloc u239 (.cells #[.slice none 0 0] 24)) rfl (by rfl) (by kernel_rfl) (hS0.call (thenB hB240 (show Below u239.heap.size u239 (World.alloc u239 (.cells #[.slice none 0 0] 24)) by go_grown) hB240.size)) ?_) (AllReadyH.nil))
                  · have hX : Below u239.heap.size u239 (World.alloc u239 (.cells #[.slice none 0 0] 24)) := by go_grown
                    have Z251 : (World.alloc u239 (.cells #[.slice none 0 0] 24)).heap[u239.heap.size]? = some (.cells #[.slice none 0 0] 24 (0, 0)) := heap_alloc_new _ _
                    generalize World.alloc u239 (.cells #[.slice none 0 0] 24) = u249 at hX Z251 ⊢
                    have L252 : u0.heap.size ≤ u239.heap.size := hB240.size
                    have D253 : ∀ a, A232 = some a → a.block ≠ u239.heap.size := fun a ha => Nat.ne_of_lt (N247.lt (by omega) a ha)
                    have D254 : ∀ a, A241 = some a → a.block ≠ u239.heap.size := fun a ha => Nat.ne_of_lt (N243.lt (by omega) a ha)
                    have D255 : u239.heap.size ≠ u0.heap.size := by have := heap_lt Z248; omega
                    have N256 := N247.call hX
                    have N257 := N243.call hX
                    have Z258 := (hX.block _ (heap_lt Z248)).trans Z248
                    have hB250 := thenB hB240 hX hB240.size
                    clear hX
                    simp only [Act.put, List.setIfInBounds_toArray, List.set_cons_zero, List.set_cons_succ]
                    have hne : u239.heap.size ≠ u0.heap.size := D255
                    have hw1 : Below u0.heap.size u0 (u249.setRow (u239.heap.size) #[.slice A232 (m + k + 1) n233]) := below_row hB250 L252 _
                    have hw2 : Below u0.heap.size u0 ((u249.setRow (u239.heap.size) #[.slice A232 (m + k + 1) n233]).setRow (u0.heap.size) #[.slice A241 (k + m + 1) n242]) := below_row hw1 L229 _
                    obtain ⟨t9, t10, m3, m4⟩ := two_rows (n3 := n233) (n4 := n242) Z251 Z258 hne N256 N257 D253 D237 D254 D246
                    refine rowAt 8 24 (u239.heap.size) #[.slice none 0 0] #[.slice A232 (m + k + 1) n233] rfl rfl rfl (by kernel_rfl) (by rfl) rfl rfl Z251 infoT rfl (by simp [Value.oneCell']) (hS0.call hw1) ?_
                    refine rowAt 9 24 (u0.heap.size) #[.slice none 0 0] #[.slice A241 (k + m + 1) n242] rfl rfl rfl (by kernel_rfl) (by rfl) rfl rfl ((setRow_other u249 (u239.heap.size) (u0.heap.size) _ (Ne.symm hne)).trans Z258) infoT rfl (by simp [Value.oneCell']) (hS0.call hw2) ?_
                    refine wpAnyH_done (by kernel_rfl) ?_ _
                    exact rest _ (u239.heap.size) (u0.heap.size) A232 A241 n233 n242 _ _ _ _ _ _ _ _ _ _ _ _ _ _ _ _ _ _ _ _ _ _ _ _ _ _ _ _ _ _ _ _ _ _ _ _ _ hw2 t9 t10 m3 m4
                · have hX : Below u230.heap.size u230 (World.alloc u230 (.cells #[.slice none 0 0] 24)) := by go_grown
                  have Z261 : (World.alloc u230 (.cells #[.slice none 0 0] 24)).heap[u230.heap.size]? = some (.cells #[.slice none 0 0] 24 (0, 0)) := heap_alloc_new _ _
                  generalize World.alloc u230 (.cells #[.slice none 0 0] 24) = u259 at hX Z261 ⊢
                  have L262 : u0.heap.size ≤ u230.heap.size := hB231.size
                  have D263 : ∀ a, A232 = some a → a.block ≠ u230.heap.size := fun a ha => Nat.ne_of_lt (N234.lt (by omega) a ha)
                  have D264 : u230.heap.size ≠ u0.heap.size := by have := heap_lt Z238; omega
                  have N265 := N234.call hX
                  have Z266 := (hX.block _ (heap_lt Z238)).trans Z238
                  have hB260 := thenB hB231 hX hB231.size
                  clear hX
                  simp only [Act.put, List.setIfInBounds_toArray, List.set_cons_zero, List.set_cons_succ]
                  refine wpAnyH_ready (rs := [5]) (by kernel_rfl) (by simp) (AllReadyH.cons rfl (callStep 5 47 rfl (by rfl) (by kernel_rfl) (join_any B k cap' l' A m cap l 8 u259 (by omega) (by omega) HM'.out HM.out (hS0.call hB260).2.2.2 (hS0.call hB260).2.1.2) ?_) (AllReadyH.nil))
                  · rintro e u267 ⟨A269, n270, rfl, ho, hX⟩
                    obtain ⟨A269, m273, e', -, N271, b272⟩ := own_nodes ho
                    cases e'
                    clear ho
                    have D274 : ∀ a, A269 = some a → a.block ≠ u230.heap.size := fun a ha => by have h1 := b272 a ha; have h2 := heap_lt Z261; omega
                    have D275 : ∀ a, A269 = some a → a.block ≠ u0.heap.size := fun a ha => by have h1 := b272 a ha; have h2 := heap_lt Z266; omega
                    clear b272
                    have N276 := N265.call hX
                    have Z277 := (hX.block _ (heap_lt Z261)).trans Z261
                    have Z278 := (hX.block _ (heap_lt Z266)).trans Z266
                    have hB268 := thenB hB260 hX hB260.size
                    clear hX
                    refine ⟨_, rfl, hS0.call hB268, ?_⟩
                    simp only [Act.put, List.setIfInBounds_toArray, List.set_cons_zero, List.set_cons_succ]
                    have hne : u230.heap.size ≠ u0.heap.size := D264
                    have hw1 : Below u0.heap.size u0 (u267.setRow (u230.heap.size) #[.slice A232 (m + k + 1) n233]) := below_row hB268 L262 _
                    have hw2 : Below u0.heap.size u0 ((u267.setRow (u230.heap.size) #[.slice A232 (m + k + 1) n233]).setRow (u0.heap.size) #[.slice A269 (k + m + 1) n270]) := below_row hw1 L229 _
                    obtain ⟨t9, t10, m3, m4⟩ := two_rows (n3 := n233) (n4 := n270) Z277 Z278 hne N276 N271 D263 D237 D274 D275
                    refine rowAt 8 24 (u230.heap.size) #[.slice none 0 0] #[.slice A232 (m + k + 1) n233] rfl rfl rfl (by kernel_rfl) (by rfl) rfl rfl Z277 infoT rfl (by simp [Value.oneCell']) (hS0.call hw1) ?_
                    refine rowAt 9 24 (u0.heap.size) #[.slice none 0 0] #[.slice A269 (k + m + 1) n270] rfl rfl rfl (by kernel_rfl) (by rfl) rfl rfl ((setRow_other u267 (u230.heap.size) (u0.heap.size) _ (Ne.symm hne)).trans Z278) infoT rfl (by simp [Value.oneCell']) (hS0.call hw2) ?_
                    refine wpAnyH_done (by kernel_rfl) ?_ _
                    exact rest _ (u230.heap.size) (u0.heap.size) A232 A269 n233 n270 _ _ _ _ _ _ _ _ _ _ _ _ _ _ _ _ _ _ _ _ _ _ _ _ _ _ _ _ _ _ _ _ _ _ _ _ _ hw2 t9 t10 m3 m4
              · have hX : Below u226.heap.size u226 (World.alloc u226 (.cells #[.slice none 0 0] 24)) := by go_grown
                have Z281 : (World.alloc u226 (.cells #[.slice none 0 0] 24)).heap[u226.heap.size]? = some (.cells #[.slice none 0 0] 24 (0, 0)) := heap_alloc_new _ _
                generalize World.alloc u226 (.cells #[.slice none 0 0] 24) = u279 at hX Z281 ⊢
                have L282 : u0.heap.size ≤ u226.heap.size := hB227.size
                have D283 : u226.heap.size ≠ u0.heap.size := by have := heap_lt Z228; omega
                have Z284 := (hX.block _ (heap_lt Z228)).trans Z228
                have hB280 := thenB hB227 hX hB227.size
                clear hX
                simp only [Act.put, List.setIfInBounds_toArray, List.set_cons_zero, List.set_cons_succ]
                refine wpAnyH_ready (rs := [2]) (by kernel_rfl) (by simp) (AllReadyH.cons rfl (callStep 2 44 rfl (by rfl) (by kernel_rfl) (join_any A m cap l B k cap' l' 8 u279 (by omega) (by omega) HM.out HM'.out (hS0.call hB280).2.1.2 (hS0.call hB280).2.2.2) ?_) (AllReadyH.nil))
                · rintro e u285 ⟨A287, n288, rfl, ho, hX⟩
                  obtain ⟨A287, m291, e', -, N289, b290⟩ := own_nodes ho
                  cases e'
                  clear ho
                  have D292 : ∀ a, A287 = some a → a.block ≠ u226.heap.size := fun a ha => by have h1 := b290 a ha; have h2 := heap_lt Z281; omega
                  have D293 : ∀ a, A287 = some a → a.block ≠ u0.heap.size := fun a ha => by have h1 := b290 a ha; have h2 := heap_lt Z284; omega
                  clear b290
                  have Z294 := (hX.block _ (heap_lt Z281)).trans Z281
                  have Z295 := (hX.block _ (heap_lt Z284)).trans Z284
                  have hB286 := thenB hB280 hX hB280.size
                  clear hX
                  refine ⟨_, rfl, hS0.call hB286, ?_⟩
                  simp only [Act.put, List.setIfInBounds_toArray, List.set_cons_zero, List.set_cons_succ]
                  refine wpAnyH_ready (rs := [5]) (by kernel_rfl) (by simp) (AllReadyH.cons rfl (callStep 5 47 rfl (by rfl) (by kernel_rfl) (join_any B k cap' l' A m cap l 8 u285 (by omega) (by omega) HM'.out HM.out (hS0.call hB286).2.2.2 (hS0.call hB286).2.1.2) ?_) (AllReadyH.nil))
                  · rintro e u296 ⟨A298, n299, rfl, ho, hX⟩
                    obtain ⟨A298, m302, e', -, N300, b301⟩ := own_nodes ho
                    cases e'
                    clear ho
                    have D303 : ∀ a, A298 = some a → a.block ≠ u226.heap.size := fun a ha => by have h1 := b301 a ha; have h2 := heap_lt Z294; omega
                    have D304 : ∀ a, A298 = some a → a.block ≠ u0.heap.size := fun a ha => by have h1 := b301 a ha; have h2 := heap_lt Z295; omega
                    clear b301
                    have N305 := N289.call hX
                    have Z306 := (hX.block _ (heap_lt Z294)).trans Z294
                    have Z307 := (hX.block _ (heap_lt Z295)).trans Z295
                    have hB297 := thenB hB286 hX hB286.size
                    clear hX
                    refine ⟨_, rfl, hS0.call hB297, ?_⟩
                    simp only [Act.put, List.setIfInBounds_toArray, List.set_cons_zero, List.set_cons_succ]
                    have hne : u226.heap.size ≠ u0.heap.size := D283
                    have hw1 : Below u0.heap.size u0 (u296.setRow (u226.heap.size) #[.slice A287 (m + k + 1) n288]) := below_row hB297 L282 _
                    have hw2 : Below u0.heap.size u0 ((u296.setRow (u226.heap.size) #[.slice A287 (m + k + 1) n288]).setRow (u0.heap.size) #[.slice A298 (k + m + 1) n299]) := below_row hw1 L229 _
                    obtain ⟨t9, t10, m3, m4⟩ := two_rows (n3 := n288) (n4 := n299) Z306 Z307 hne N305 N300 D292 D293 D303 D304
                    refine rowAt 8 24 (u226.heap.size) #[.slice none 0 0] #[.slice A287 (m + k + 1) n288] rfl rfl rfl (by kernel_rfl) (by rfl) rfl rfl Z306 infoT rfl (by simp [Value.oneCell']) (hS0.call hw1) ?_
                    refine rowAt 9 24 (u0.heap.size) #[.slice none 0 0] #[.slice A298 (k + m + 1) n299] rfl rfl rfl (by kernel_rfl) (by rfl) rfl rfl ((setRow_other u296 (u226.heap.size) (u0.heap.size) _ (Ne.symm hne)).trans Z307) infoT rfl (by simp [Value.oneCell']) (hS0.call hw2) ?_
                    refine wpAnyH_done (by kernel_rfl) ?_ _
                    exact rest _ (u226.heap.size) (u0.heap.size) A287 A298 n288 n299 _ _ _ _ _ _ _ _ _ _ _ _ _ _ _ _ _ _ _ _ _ _ _ _ _ _ _ _ _ _ _ _ _ _ _ _ _ hw2 t9 t10 m3 m4
    · obtain ⟨r, hr'⟩ : ∃ r, r = rightZ l' k := ⟨_, rfl⟩
      have hr : r ≠ 0 := by rw [hr']; exact hrb
      have E2 := Lib.hid hr'.symm
      clear hra hrb hr'
      refine takeAt 0 17 (.agg #[.slice A (m) cap]) rfl rfl (by kernel_rfl) (by kernel_rfl) (by kernel_rfl) (fun _ _ _ h => h) (loadT_y (w.heap.size) A (m) cap (fun _ h => h.2.1.1) rfl rfl (by rfl)) hS ?_
      simp only [Act.put, List.setIfInBounds_toArray, List.set_cons_zero, List.set_cons_succ]
      refine callAt 1 18 rfl rfl (by kernel_rfl) (by rfl) (by kernel_rfl) (right_any HSN.out.1 HSN.out.2 A m cap l _ (by omega) hS.2.1.2) ?_
      rintro e w' ⟨rfl, hb'⟩
      have hSc1 := hS.call hb'
      refine ⟨_, rfl, hSc1, ?_⟩
      clear hS hb'
      rw [E1.out]
      simp only [Act.put, List.setIfInBounds_toArray, List.set_cons_zero, List.set_cons_succ]
      refine takeAt 2 19 (.bool false) rfl rfl (by kernel_rfl) (by kernel_rfl) (by kernel_rfl) (fun _ _ _ h => h) (neqE_y (m := 0) (n := 0) false (by simp) rfl rfl rfl (by rfl)) hSc1 ?_
      simp only [Act.put, List.setIfInBounds_toArray, List.set_cons_zero, List.set_cons_succ]
      refine takeAt 3 20 (.bool false) rfl rfl (by kernel_rfl) (by kernel_rfl) (by kernel_rfl) (fun _ _ _ h => h) (yields (by rfl) (fun w => by kernel_rfl)) hSc1 ?_
      simp only [Act.put, List.setIfInBounds_toArray, List.set_cons_zero, List.set_cons_succ]
      refine takeAt 4 21 (.agg #[.slice B (k) cap']) rfl rfl (by kernel_rfl) (by kernel_rfl) (by kernel_rfl) (fun _ _ _ h => h) (loadT_y (w.heap.size + 1) B (k) cap' (fun _ h => h.2.2.1) rfl rfl (by rfl)) hSc1 ?_
      simp only [Act.put, List.setIfInBounds_toArray, List.set_cons_zero, List.set_cons_succ]
      refine callAt 5 22 rfl rfl (by kernel_rfl) (by rfl) (by kernel_rfl) (right_any HSN.out.1 HSN.out.2 B k cap' l' _ (by omega) hSc1.2.2.2) ?_
      rintro e w' ⟨rfl, hb'⟩
      have hSc2 := hSc1.call hb'
      refine ⟨_, rfl, hSc2, ?_⟩
      clear hSc1 hb'
      rw [E2.out]
      simp only [Act.put, List.setIfInBounds_toArray, List.set_cons_zero, List.set_cons_succ]
      refine takeAt 6 23 (.bool true) rfl rfl (by kernel_rfl) (by kernel_rfl) (by kernel_rfl) (fun _ _ _ h => h) (neqE_y (m := r) (n := 0) true (by simp [hr]) rfl rfl rfl (by rfl)) hSc2 ?_
      simp only [Act.put, List.setIfInBounds_toArray, List.set_cons_zero, List.set_cons_succ]
      refine takeAt 7 24 (.bool true) rfl rfl (by kernel_rfl) (by kernel_rfl) (by kernel_rfl) (fun _ _ _ h => h) (yields (by rfl) (fun w => by kernel_rfl)) hSc2 ?_
      simp only [Act.put, List.setIfInBounds_toArray, List.set_cons_zero, List.set_cons_succ]
      refine takeAt 8 25 (.bool true) rfl rfl (by kernel_rfl) (by kernel_rfl) (by kernel_rfl) (fun _ _ _ h => h) (yields (by rfl) (fun w => by kernel_rfl)) hSc2 ?_
      simp only [Act.put, List.setIfInBounds_toArray, List.set_cons_zero, List.set_cons_succ]
      refine takeAt 9 26 (undef) rfl rfl (by kernel_rfl) (by kernel_rfl) (by kernel_rfl) (fun _ _ _ h => h) (skipped (by rfl)) hSc2 ?_
      simp only [Act.put, List.setIfInBounds_toArray, List.set_cons_zero, List.set_cons_succ]
      refine takeAt 10 27 (undef) rfl rfl (by kernel_rfl) (by kernel_rfl) (by kernel_rfl) (fun _ _ _ h => h) (skipped (by rfl)) hSc2 ?_
      simp only [Act.put, List.setIfInBounds_toArray, List.set_cons_zero, List.set_cons_succ]
      refine takeAt 11 28 (undef) rfl rfl (by kernel_rfl) (by kernel_rfl) (by kernel_rfl) (fun _ _ _ h => h) (skipped (by rfl)) hSc2 ?_
      simp only [Act.put, List.setIfInBounds_toArray, List.set_cons_zero, List.set_cons_succ]
      as_aux_lemma =>
        refine takeAt 12 29 (undef) rfl rfl (by kernel_rfl) (by kernel_rfl) (by kernel_rfl) (fun _ _ _ h => h) (skipped (by rfl)) hSc2 ?_
        simp only [Act.put, List.setIfInBounds_toArray, List.set_cons_zero, List.set_cons_succ]
        refine takeAt 13 30 (undef) rfl rfl (by kernel_rfl) (by kernel_rfl) (by kernel_rfl) (fun _ _ _ h => h) (skipped (by rfl)) hSc2 ?_
        simp only [Act.put, List.setIfInBounds_toArray, List.set_cons_zero, List.set_cons_succ]
        refine takeAt 14 31 (undef) rfl rfl (by kernel_rfl) (by kernel_rfl) (by kernel_rfl) (fun _ _ _ h => h) (skipped (by rfl)) hSc2 ?_
        simp only [Act.put, List.setIfInBounds_toArray, List.set_cons_zero, List.set_cons_succ]
        refine takeAt 15 32 (.bool true) rfl rfl (by kernel_rfl) (by kernel_rfl) (by kernel_rfl) (fun _ _ _ h => h) (yields (by rfl) (fun w => by kernel_rfl)) hSc2 ?_
        simp only [Act.put, List.setIfInBounds_toArray, List.set_cons_zero, List.set_cons_succ]
        refine takeAt 16 33 (.bool true) rfl rfl (by kernel_rfl) (by kernel_rfl) (by kernel_rfl) (fun _ _ _ h => h) (yields (by rfl) (fun w => by kernel_rfl)) hSc2 ?_
        simp only [Act.put, List.setIfInBounds_toArray, List.set_cons_zero, List.set_cons_succ]
        refine takeAt 17 34 (undef) rfl rfl (by kernel_rfl) (by kernel_rfl) (by kernel_rfl) (fun _ _ _ h => h) (skipped (by rfl)) hSc2 ?_
        simp only [Act.put, List.setIfInBounds_toArray, List.set_cons_zero, List.set_cons_succ]
        refine takeAt 18 35 (undef) rfl rfl (by kernel_rfl) (by kernel_rfl) (by kernel_rfl) (fun _ _ _ h => h) (skipped (by rfl)) hSc2 ?_
        simp only [Act.put, List.setIfInBounds_toArray, List.set_cons_zero, List.set_cons_succ]
        refine takeAt 19 36 (undef) rfl rfl (by kernel_rfl) (by kernel_rfl) (by kernel_rfl) (fun _ _ _ h => h) (skipped (by rfl)) hSc2 ?_
        simp only [Act.put, List.setIfInBounds_toArray, List.set_cons_zero, List.set_cons_succ]
        refine takeAt 20 37 (undef) rfl rfl (by kernel_rfl) (by kernel_rfl) (by kernel_rfl) (fun _ _ _ h => h) (skipped (by rfl)) hSc2 ?_
        simp only [Act.put, List.setIfInBounds_toArray, List.set_cons_zero, List.set_cons_succ]
        refine takeAt 21 38 (undef) rfl rfl (by kernel_rfl) (by kernel_rfl) (by kernel_rfl) (fun _ _ _ h => h) (skipped (by rfl)) hSc2 ?_
        simp only [Act.put, List.setIfInBounds_toArray, List.set_cons_zero, List.set_cons_succ]
        refine takeAt 22 39 (undef) rfl rfl (by kernel_rfl) (by kernel_rfl) (by kernel_rfl) (fun _ _ _ h => h) (skipped (by rfl)) hSc2 ?_
        simp only [Act.put, List.setIfInBounds_toArray, List.set_cons_zero, List.set_cons_succ]
        refine takeAt 23 40 (.bool true) rfl rfl (by kernel_rfl) (by kernel_rfl) (by kernel_rfl) (fun _ _ _ h => h) (yields (by rfl) (fun w => by kernel_rfl)) hSc2 ?_
        simp only [Act.put, List.setIfInBounds_toArray, List.set_cons_zero, List.set_cons_succ]
        refine wpAnyH_done (by kernel_rfl) ?_ _
        refine hK _ _ ?_
        clear hK
        have HQ := Lib.hid hSc2
        clear hSc2
        go_wp2_with fail
        refine (fixed_any HSN.out.1 HSN.out.2 _).mono ?_
        rintro e w9 ⟨rfl, hb⟩
        have HZ := Lib.hid (HQ.out.call hb)
        clear hb HQ
        go_wp2_with fail
        go_ret
        exact ⟨rfl, HZ.out.1⟩
  · obtain ⟨r, hr'⟩ : ∃ r, r = rightZ l m := ⟨_, rfl⟩
    have hr : r ≠ 0 := by rw [hr']; exact hra
    have E1 := Lib.hid hr'.symm
    clear hra hr'
    refine takeAt 0 17 (.agg #[.slice A (m) cap]) rfl rfl (by kernel_rfl) (by kernel_rfl) (by kernel_rfl) (fun _ _ _ h => h) (loadT_y (w.heap.size) A (m) cap (fun _ h => h.2.1.1) rfl rfl (by rfl)) hS ?_
    simp only [Act.put, List.setIfInBounds_toArray, List.set_cons_zero, List.set_cons_succ]
    refine callAt 1 18 rfl rfl (by kernel_rfl) (by rfl) (by kernel_rfl) (right_any HSN.out.1 HSN.out.2 A m cap l _ (by omega) hS.2.1.2) ?_
    rintro e w' ⟨rfl, hb'⟩
    have hSc1 := hS.call hb'
    refine ⟨_, rfl, hSc1, ?_⟩
    clear hS hb'
    rw [E1.out]
    simp only [Act.put, List.setIfInBounds_toArray, List.set_cons_zero, List.set_cons_succ]
    refine takeAt 2 19 (.bool true) rfl rfl (by kernel_rfl) (by kernel_rfl) (by kernel_rfl) (fun _ _ _ h => h) (neqE_y (m := r) (n := 0) true (by simp [hr]) rfl rfl rfl (by rfl)) hSc1 ?_
    simp only [Act.put, List.setIfInBounds_toArray, List.set_cons_zero, List.set_cons_succ]
    refine takeAt 3 20 (.bool true) rfl rfl (by kernel_rfl) (by kernel_rfl) (by kernel_rfl) (fun _ _ _ h => h) (yields (by rfl) (fun w => by kernel_rfl)) hSc1 ?_
    simp only [Act.put, List.setIfInBounds_toArray, List.set_cons_zero, List.set_cons_succ]
    refine takeAt 4 21 (undef) rfl rfl (by kernel_rfl) (by kernel_rfl) (by kernel_rfl) (fun _ _ _ h => h) (skipped (by rfl)) hSc1 ?_
    simp only [Act.put, List.setIfInBounds_toArray, List.set_cons_zero, List.set_cons_succ]
    refine takeAt 5 22 (undef) rfl rfl (by kernel_rfl) (by kernel_rfl) (by kernel_rfl) (fun _ _ _ h => h) (skipped (by rfl)) hSc1 ?_
    simp only [Act.put, List.setIfInBounds_toArray, List.set_cons_zero, List.set_cons_succ]
    refine takeAt 6 23 (undef) rfl rfl (by kernel_rfl) (by kernel_rfl) (by kernel_rfl) (fun _ _ _ h => h) (skipped (by rfl)) hSc1 ?_
    simp only [Act.put, List.setIfInBounds_toArray, List.set_cons_zero, List.set_cons_succ]
    refine takeAt 7 24 (.bool true) rfl rfl (by kernel_rfl) (by kernel_rfl) (by kernel_rfl) (fun _ _ _ h => h) (yields (by rfl) (fun w => by kernel_rfl)) hSc1 ?_
    simp only [Act.put, List.setIfInBounds_toArray, List.set_cons_zero, List.set_cons_succ]
    refine takeAt 8 25 (.bool true) rfl rfl (by kernel_rfl) (by kernel_rfl) (by kernel_rfl) (fun _ _ _ h => h) (yields (by rfl) (fun w => by kernel_rfl)) hSc1 ?_
    simp only [Act.put, List.setIfInBounds_toArray, List.set_cons_zero, List.set_cons_succ]
    refine takeAt 9 26 (undef) rfl rfl (by kernel_rfl) (by kernel_rfl) (by kernel_rfl) (fun _ _ _ h => h) (skipped (by rfl)) hSc1 ?_
    simp only [Act.put, List.setIfInBounds_toArray, List.set_cons_zero, List.set_cons_succ]
    refine takeAt 10 27 (undef) rfl rfl (by kernel_rfl) (by kernel_rfl) (by kernel_rfl) (fun _ _ _ h => h) (skipped (by rfl)) hSc1 ?_
    simp only [Act.put, List.setIfInBounds_toArray, List.set_cons_zero, List.set_cons_succ]
    refine takeAt 11 28 (undef) rfl rfl (by kernel_rfl) (by kernel_rfl) (by kernel_rfl) (fun _ _ _ h => h) (skipped (by rfl)) hSc1 ?_
    simp only [Act.put, List.setIfInBounds_toArray, List.set_cons_zero, List.set_cons_succ]
    as_aux_lemma =>
      refine takeAt 12 29 (undef) rfl rfl (by kernel_rfl) (by kernel_rfl) (by kernel_rfl) (fun _ _ _ h => h) (skipped (by rfl)) hSc1 ?_
      simp only [Act.put, List.setIfInBounds_toArray, List.set_cons_zero, List.set_cons_succ]
      refine takeAt 13 30 (undef) rfl rfl (by kernel_rfl) (by kernel_rfl) (by kernel_rfl) (fun _ _ _ h => h) (skipped (by rfl)) hSc1 ?_
      simp only [Act.put, List.setIfInBounds_toArray, List.set_cons_zero, List.set_cons_succ]
      refine takeAt 14 31 (undef) rfl rfl (by kernel_rfl) (by kernel_rfl) (by kernel_rfl) (fun _ _ _ h => h) (skipped (by rfl)) hSc1 ?_
      simp only [Act.put, List.setIfInBounds_toArray, List.set_cons_zero, List.set_cons_succ]
      refine takeAt 15 32 (.bool true) rfl rfl (by kernel_rfl) (by kernel_rfl) (by kernel_rfl) (fun _ _ _ h => h) (yields (by rfl) (fun w => by kernel_rfl)) hSc1 ?_
      simp only [Act.put, List.setIfInBounds_toArray, List.set_cons_zero, List.set_cons_succ]
      refine takeAt 16 33 (.bool true) rfl rfl (by kernel_rfl) (by kernel_rfl) (by kernel_rfl) (fun _ _ _ h => h) (yields (by rfl) (fun w => by kernel_rfl)) hSc1 ?_
      simp only [Act.put, List.setIfInBounds_toArray, List.set_cons_zero, List.set_cons_succ]
      refine takeAt 17 34 (undef) rfl rfl (by kernel_rfl) (by kernel_rfl) (by kernel_rfl) (fun _ _ _ h => h) (skipped (by rfl)) hSc1 ?_
      simp only [Act.put, List.setIfInBounds_toArray, List.set_cons_zero, List.set_cons_succ]
      refine takeAt 18 35 (undef) rfl rfl (by kernel_rfl) (by kernel_rfl) (by kernel_rfl) (fun _ _ _ h => h) (skipped (by rfl)) hSc1 ?_
      simp only [Act.put, List.setIfInBounds_toArray, List.set_cons_zero, List.set_cons_succ]
      refine takeAt 19 36 (undef) rfl rfl (by kernel_rfl) (by kernel_rfl) (by kernel_rfl) (fun _ _ _ h => h) (skipped (by rfl)) hSc1 ?_
      simp only [Act.put, List.setIfInBounds_toArray, List.set_cons_zero, List.set_cons_succ]
      refine takeAt 20 37 (undef) rfl rfl (by kernel_rfl) (by kernel_rfl) (by kernel_rfl) (fun _ _ _ h => h) (skipped (by rfl)) hSc1 ?_
      simp only [Act.put, List.setIfInBounds_toArray, List.set_cons_zero, List.set_cons_succ]
      refine takeAt 21 38 (undef) rfl rfl (by kernel_rfl) (by kernel_rfl) (by kernel_rfl) (fun _ _ _ h => h) (skipped (by rfl)) hSc1 ?_
      simp only [Act.put, List.setIfInBounds_toArray, List.set_cons_zero, List.set_cons_succ]
      refine takeAt 22 39 (undef) rfl rfl (by kernel_rfl) (by kernel_rfl) (by kernel_rfl) (fun _ _ _ h => h) (skipped (by rfl)) hSc1 ?_
      simp only [Act.put, List.setIfInBounds_toArray, List.set_cons_zero, List.set_cons_succ]
      refine takeAt 23 40 (.bool true) rfl rfl (by kernel_rfl) (by kernel_rfl) (by kernel_rfl) (fun _ _ _ h => h) (yields (by rfl) (fun w => by kernel_rfl)) hSc1 ?_
      simp only [Act.put, List.setIfInBounds_toArray, List.set_cons_zero, List.set_cons_succ]
      refine wpAnyH_done (by kernel_rfl) ?_ _
      refine hK _ _ ?_
      clear hK
      have HQ := Lib.hid hSc1
      clear hSc1
      go_wp2_with fail
      refine (fixed_any HSN.out.1 HSN.out.2 _).mono ?_
      rintro e w9 ⟨rfl, hb⟩
      have HZ := Lib.hid (HQ.out.call hb)
      clear hb HQ
      go_wp2_with fail
      go_ret
      exact ⟨rfl, HZ.out.1⟩
end Go.Proofs.Ytcjefhjhmmoocaa
