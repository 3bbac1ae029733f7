/-
  Layer 9: the walk of the statement FactsLong.
-/
import Derived.Test.YtkpijnodhlonfaaGreatDoorFacE
namespace Go.Proofs.YtkpijnodhlonfaaGreatDoor
open Go.RowKit
open Ast (Nd Nodes rightZ siz len)

set_option maxRecDepth 100000 in
set_option maxHeartbeats 16000000 in
theorem factsLong_any (K : PKit) (A : Option Addr) (n cap : Nat) (l : Nat → Nd) (w : World) (hc : n ≤ cap) (hcap : cap ≤ 9223372036854775807) (h0 : A = none → n = 0 ∧ cap = 0) (hl : Nodes w A n l) (hWd : ∀ i, i < n → Wds (l i)) (hw : Tabs w) :
    Calls Tryz.prog 6 #[.agg (trC A n cap)] w fun e w' => e = .returned (.bool true) ∧ Below w.heap.size w w' := by
  obtain ⟨m, hm⟩ : ∃ m, m = min n 60 := ⟨_, rfl⟩
  have HC := Lib.hid (fun w => Ast.cut_any A n cap 60 w hc hcap h0 (by omega))
  rw [← hm] at HC
  have hm60 : m ≤ 60 := by omega
  have hmn : m ≤ n := by omega
  have HM := Lib.hid (show A = none → m = 0 ∧ cap = 0 from fun h => by obtain ⟨h1, h2⟩ := h0 h; omega)
  have HLm := Lib.hid (show Nodes w A m l from fun i hi => hl i (by omega))
  have hLit : LitOk9 l m := lit9_of fun i hi => hWd i (by omega)
  have HO := Lib.hid (fun u h t => of9_any K.sort K.none A m cap l u (by omega) h hLit t)
  have HFix := Lib.hid (fun w h => fixed9_any K w h)
  have HT := Lib.hid hw
  clear hm hl hWd hw h0 hc hcap hmn K
  have HLn := Lib.hid (fun u h => Ast.lenZ_any A m cap l ((m : Int) - 1) u (by omega) h)
  by_cases hr : rightZ l m = 0
  · obtain ⟨hpos, hsz, hn5⟩ := whole9 hr
    have iv := inv_all l m (by omega)
    have hle := fact_le l m
    rw [show ofV l m = .tuple #[.agg (facC (factZ l m)), .int .i64 0] by unfold ofV; rw [if_pos hr, hr]] at HO
    rw [Ast.lenZ_last (Ast.right_0 hr).1] at HLn
    generalize factZ l m = k at HO iv hle
    have iv1 := iv.low
    have iv2 := iv.none
    have iv3 := iv.size
    have iv4 := iv.heads
    clear iv
    generalize (len l m).1 = lo at HLn iv1 iv3
    generalize (len l m).2 = hi at HLn iv2
    obtain ⟨F, op, fa, pr, wh⟩ := k
    simp only at iv1 iv2 iv3 hle
    clear hr hsz hpos hn5
    have n1 : ¬ lo < (pr.size : Int) := by omega
    have n2 : ¬ (100 : Int) < (pr.size : Int) := by omega
    have hcase : (op = true ∧ (hi == 0) = true) ∨ (op = true ∧ (hi == 0) = false) ∨ (op = false ∧ (hi == 0) = false ∧ ¬ lo < 1) := by
      cases op with
      | true => by_cases h : hi = 0 <;> simp [h]
      | false =>
        refine .inr (.inr ⟨rfl, ?_, ?_⟩)
        · rw [beq_eq_false_iff_ne]; exact fun h => ft (iv2 h)
        · have := iv1 rfl; omega
    have H4 := Lib.hid iv4
    clear iv1 iv2 iv3 iv4 hle
    by_cases hp : decide (pr.size = 0) = true
    · rcases hcase with ⟨rfl, q0⟩ | ⟨rfl, q0⟩ | ⟨rfl, q0, n0⟩
      all_goals
        go_enter Tryz.func6, Tryz.ntmps6
        go_wp2_with fail
        refine (HC.out _).mono ?_
        rintro e u0 ⟨rfl, hb⟩
        have HX0 := Lib.hid (show BoxV 24 u0 w.heap.size (trC A n cap) from BoxV.below (BoxV.new _ _) hb (by simp))
        have HB0 := Lib.hid (show Below w.heap.size w u0 from (show Below w.heap.size w _ by go_grown).trans (hb.mono (by simp)))
        clear hb HC
        go_wp2_with (refine storeTr9 rfl _ _ rfl w.heap.size _ A m cap rfl rfl (by rfl) HX0.out ?_; intro u1 hx hB; refine StopS.out ?_)
        refine ⟨?_⟩
        have HB1 := Lib.hid (HB0.out.trans (hB.out _ (Nat.le_refl _)))
        have HL := Lib.hid (show LBx w A m cap l u1 from ⟨HB1.out, hx.out, HLm.out.below HB1.out (Nat.le_refl _), HT.out.call HB1.out⟩)
        clear HX0 HB0 HB1 hx hB HLm HT
        have c0 : u1.cell? ⟨w.heap.size, 0, none⟩ = some (.slice A m cap) := HL.out.tree.get 0 rfl
        go_wp2_with fail
        refine (HO.out _ HL.out.nodes HL.out.tabs.tab).mono ?_
        rintro e u2 ⟨rfl, hb⟩
        replace HL := Lib.hid (HL.out.call hb)
        clear hb c0
        go_wp2_with (refine storeF9n rfl _ _ rfl u2 ⟨F, _, fa, pr, wh⟩ rfl rfl rfl ?_; intro u3 hx hN; refine StopS.out ?_)
        refine ⟨?_⟩
        replace HL := Lib.hid (show LBx w A m cap l u3 from ⟨HL.out.below.trans (hN.out.mono HL.out.below.size), HL.out.tree.below hN.out HL.out.tree.lt, HL.out.nodes.below hN.out (Nat.le_refl _), HL.out.tabs.call hN.out⟩)
        have HF := Lib.hid hx.out
        clear hx hN
        have c0 : u3.cell? ⟨w.heap.size, 0, none⟩ = some (.slice A m cap) := HL.out.tree.get 0 rfl
        go_wp2_with fail
        refine (HLn.out _ HL.out.nodes).mono ?_
        rintro e u4 ⟨rfl, hb⟩
        replace HL := Lib.hid (HL.out.call hb)
        replace HF := Lib.hid (HF.out.below hb HF.out.lt)
        clear hb c0
        have c4 := BoxF.c4 HF.out
        have c6 := BoxF.c6 HF.out
        dsimp only at c4 c6
        go_wp2_with fail
        refine wp_region_held_drew (S := fun u => LBx w A m cap l u ∧ BoxF u u2.heap.size ⟨F, _, fa, pr, wh⟩) (by kernel_rfl) (show _ from ⟨HL.out.call (Below.refl _ _).drew, HF.out.drew⟩) (fun hS => ?_)
        clear HL HF
        generalize World.drew _ = v0 at hS ⊢
        refine takeAt 0 66 (.pointer (some ⟨u2.heap.size, 6, none⟩)) rfl rfl (by kernel_rfl) (by kernel_rfl) (by kernel_rfl) (fun _ _ _ h => h) (yields (by rfl) (fun w => by kernel_rfl)) hS ?_
        simp only [Act.put, List.setIfInBounds_toArray, List.set_cons_zero, List.set_cons_succ]
        refine takeAt 1 67 (.string pr) rfl rfl (by kernel_rfl) (by kernel_rfl) (by kernel_rfl) (fun _ _ _ h => h) (loadP9_y u2.heap.size 6 pr (fun _ h => BoxF.c6 h.2) rfl rfl (by rfl)) hS ?_
        simp only [Act.put, List.setIfInBounds_toArray, List.set_cons_zero, List.set_cons_succ]
        refine takeAt 2 68 (.bool true) rfl rfl (by kernel_rfl) (by kernel_rfl) (by kernel_rfl) (fun _ _ _ h => h) (eqE9_y pr true hp rfl rfl (by rfl)) hS ?_
        simp only [Act.put, List.setIfInBounds_toArray, List.set_cons_zero, List.set_cons_succ]
        refine takeAt 3 69 (.bool true) rfl rfl (by kernel_rfl) (by kernel_rfl) (by kernel_rfl) (fun _ _ _ h => h) (yields (by rfl) (fun w => by kernel_rfl)) hS ?_
        simp only [Act.put, List.setIfInBounds_toArray, List.set_cons_zero, List.set_cons_succ]
        refine takeAt 4 70 (undef) rfl rfl (by kernel_rfl) (by kernel_rfl) (by kernel_rfl) (fun _ _ _ h => h) (skipped (by rfl)) hS ?_
        simp only [Act.put, List.setIfInBounds_toArray, List.set_cons_zero, List.set_cons_succ]
        refine takeAt 5 71 (undef) rfl rfl (by kernel_rfl) (by kernel_rfl) (by kernel_rfl) (fun _ _ _ h => h) (skipped (by rfl)) hS ?_
        simp only [Act.put, List.setIfInBounds_toArray, List.set_cons_zero, List.set_cons_succ]
        refine takeAt 6 72 (undef) rfl rfl (by kernel_rfl) (by kernel_rfl) (by kernel_rfl) (fun _ _ _ h => h) (skipped (by rfl)) hS ?_
        simp only [Act.put, List.setIfInBounds_toArray, List.set_cons_zero, List.set_cons_succ]
        refine takeAt 7 73 (undef) rfl rfl (by kernel_rfl) (by kernel_rfl) (by kernel_rfl) (fun _ _ _ h => h) (skipped (by rfl)) hS ?_
        simp only [Act.put, List.setIfInBounds_toArray, List.set_cons_zero, List.set_cons_succ]
        refine takeAt 8 74 (undef) rfl rfl (by kernel_rfl) (by kernel_rfl) (by kernel_rfl) (fun _ _ _ h => h) (skipped (by rfl)) hS ?_
        simp only [Act.put, List.setIfInBounds_toArray, List.set_cons_zero, List.set_cons_succ]
        refine takeAt 9 75 (undef) rfl rfl (by kernel_rfl) (by kernel_rfl) (by kernel_rfl) (fun _ _ _ h => h) (skipped (by rfl)) hS ?_
        simp only [Act.put, List.setIfInBounds_toArray, List.set_cons_zero, List.set_cons_succ]
        refine takeAt 10 76 (.bool true) rfl rfl (by kernel_rfl) (by kernel_rfl) (by kernel_rfl) (fun _ _ _ h => h) (yields (by rfl) (fun w => by kernel_rfl)) hS ?_
        simp only [Act.put, List.setIfInBounds_toArray, List.set_cons_zero, List.set_cons_succ]
        refine takeAt 11 77 (.bool true) rfl rfl (by kernel_rfl) (by kernel_rfl) (by kernel_rfl) (fun _ _ _ h => h) (yields (by rfl) (fun w => by kernel_rfl)) hS ?_
        simp only [Act.put, List.setIfInBounds_toArray, List.set_cons_zero, List.set_cons_succ]
        refine callAt 12 78 rfl rfl (by kernel_rfl) (by rfl) (by kernel_rfl) (HFix.out _ hS.1.tabs) ?_
        rintro e v1 ⟨rfl, hb⟩
        have hS := And.intro (hS.1.call hb) (hS.2.below hb hS.2.lt)
        clear hb
        refine ⟨_, rfl, hS, ?_⟩
        simp only [Act.put, List.setIfInBounds_toArray, List.set_cons_zero, List.set_cons_succ]
        refine takeAt 13 79 (.bool true) rfl rfl (by kernel_rfl) (by kernel_rfl) (by kernel_rfl) (fun _ _ _ h => h) (yields (by rfl) (fun w => by kernel_rfl)) hS ?_
        simp only [Act.put, List.setIfInBounds_toArray, List.set_cons_zero, List.set_cons_succ]
        refine takeAt 14 2 (.bool true) rfl rfl (by kernel_rfl) (by kernel_rfl) (by kernel_rfl) (fun _ _ _ h => h) (yields (by rfl) (fun w => by kernel_rfl)) hS ?_
        simp only [Act.put, List.setIfInBounds_toArray, List.set_cons_zero, List.set_cons_succ]
        refine wpAnyH_done (by kernel_rfl) ?_ _
        have HL := Lib.hid hS.1
        clear hS
        go_wp2
        go_ret
        exact ⟨rfl, HL.out.below⟩
    · rcases hcase with ⟨rfl, q0⟩ | ⟨rfl, q0⟩ | ⟨rfl, q0, n0⟩
      all_goals
        have hp : decide (pr.size = 0) = false := by simpa using hp
        have hp0 : 0 < pr.size := by have := of_decide_eq_false hp; omega
        have hm1 : mem F (bt pr 0) = true := by
          rw [bt_at hp0]
          cases hL : pr.data.toList with
          | nil => rw [size_list, hL] at hp0; exact absurd hp0 (by decide)
          | cons x y =>
            have h := bt_list pr 0
            rw [dif_pos hp0, hL] at h
            have e : x = pr[0] := Option.some.inj h
            rw [← e]
            exact H4.out x y hL
        have hbl := bt_lt hp0
        have HH := Lib.hid (fun w => has_any F ((bt pr 0 : Nat) : Int) w (by omega) (by omega))
        rw [Int.toNat_natCast, hm1] at HH
        clear H4 hm1 hbl
        go_enter Tryz.func6, Tryz.ntmps6
        go_wp2_with fail
        refine (HC.out _).mono ?_
        rintro e u0 ⟨rfl, hb⟩
        have HX0 := Lib.hid (show BoxV 24 u0 w.heap.size (trC A n cap) from BoxV.below (BoxV.new _ _) hb (by simp))
        have HB0 := Lib.hid (show Below w.heap.size w u0 from (show Below w.heap.size w _ by go_grown).trans (hb.mono (by simp)))
        clear hb HC
        go_wp2_with (refine storeTr9 rfl _ _ rfl w.heap.size _ A m cap rfl rfl (by rfl) HX0.out ?_; intro u1 hx hB; refine StopS.out ?_)
        refine ⟨?_⟩
        have HB1 := Lib.hid (HB0.out.trans (hB.out _ (Nat.le_refl _)))
        have HL := Lib.hid (show LBx w A m cap l u1 from ⟨HB1.out, hx.out, HLm.out.below HB1.out (Nat.le_refl _), HT.out.call HB1.out⟩)
        clear HX0 HB0 HB1 hx hB HLm HT
        have c0 : u1.cell? ⟨w.heap.size, 0, none⟩ = some (.slice A m cap) := HL.out.tree.get 0 rfl
        go_wp2_with fail
        refine (HO.out _ HL.out.nodes HL.out.tabs.tab).mono ?_
        rintro e u2 ⟨rfl, hb⟩
        replace HL := Lib.hid (HL.out.call hb)
        clear hb c0
        go_wp2_with (refine storeF9n rfl _ _ rfl u2 ⟨F, _, fa, pr, wh⟩ rfl rfl rfl ?_; intro u3 hx hN; refine StopS.out ?_)
        refine ⟨?_⟩
        replace HL := Lib.hid (show LBx w A m cap l u3 from ⟨HL.out.below.trans (hN.out.mono HL.out.below.size), HL.out.tree.below hN.out HL.out.tree.lt, HL.out.nodes.below hN.out (Nat.le_refl _), HL.out.tabs.call hN.out⟩)
        have HF := Lib.hid hx.out
        clear hx hN
        have c0 : u3.cell? ⟨w.heap.size, 0, none⟩ = some (.slice A m cap) := HL.out.tree.get 0 rfl
        go_wp2_with fail
        refine (HLn.out _ HL.out.nodes).mono ?_
        rintro e u4 ⟨rfl, hb⟩
        replace HL := Lib.hid (HL.out.call hb)
        replace HF := Lib.hid (HF.out.below hb HF.out.lt)
        clear hb c0
        have c4 := BoxF.c4 HF.out
        have c6 := BoxF.c6 HF.out
        dsimp only at c4 c6
        go_wp2_with fail
        refine wp_region_held_drew (S := fun u => LBx w A m cap l u ∧ BoxF u u2.heap.size ⟨F, _, fa, pr, wh⟩) (by kernel_rfl) (show _ from ⟨HL.out.call (Below.refl _ _).drew, HF.out.drew⟩) (fun hS => ?_)
        clear HL HF
        generalize World.drew _ = v0 at hS ⊢
        refine takeAt 0 66 (.pointer (some ⟨u2.heap.size, 6, none⟩)) rfl rfl (by kernel_rfl) (by kernel_rfl) (by kernel_rfl) (fun _ _ _ h => h) (yields (by rfl) (fun w => by kernel_rfl)) hS ?_
        simp only [Act.put, List.setIfInBounds_toArray, List.set_cons_zero, List.set_cons_succ]
        refine takeAt 1 67 (.string pr) rfl rfl (by kernel_rfl) (by kernel_rfl) (by kernel_rfl) (fun _ _ _ h => h) (loadP9_y u2.heap.size 6 pr (fun _ h => BoxF.c6 h.2) rfl rfl (by rfl)) hS ?_
        simp only [Act.put, List.setIfInBounds_toArray, List.set_cons_zero, List.set_cons_succ]
        refine takeAt 2 68 (.bool false) rfl rfl (by kernel_rfl) (by kernel_rfl) (by kernel_rfl) (fun _ _ _ h => h) (eqE9_y pr false hp rfl rfl (by rfl)) hS ?_
        simp only [Act.put, List.setIfInBounds_toArray, List.set_cons_zero, List.set_cons_succ]
        refine takeAt 3 69 (.bool false) rfl rfl (by kernel_rfl) (by kernel_rfl) (by kernel_rfl) (fun _ _ _ h => h) (yields (by rfl) (fun w => by kernel_rfl)) hS ?_
        simp only [Act.put, List.setIfInBounds_toArray, List.set_cons_zero, List.set_cons_succ]
        refine takeAt 4 70 (.pointer (some ⟨u2.heap.size, 0, none⟩)) rfl rfl (by kernel_rfl) (by kernel_rfl) (by kernel_rfl) (fun _ _ _ h => h) (yields (by rfl) (fun w => by kernel_rfl)) hS ?_
        simp only [Act.put, List.setIfInBounds_toArray, List.set_cons_zero, List.set_cons_succ]
        refine takeAt 5 71 (setV F) rfl rfl (by kernel_rfl) (by kernel_rfl) (by kernel_rfl) (fun _ _ _ h => h) (loadSF_y u2.heap.size ⟨F, _, fa, pr, wh⟩ (fun _ h => h.2) rfl rfl (by rfl)) hS ?_
        simp only [Act.put, List.setIfInBounds_toArray, List.set_cons_zero, List.set_cons_succ]
        refine takeAt 6 72 (.pointer (some ⟨u2.heap.size, 6, none⟩)) rfl rfl (by kernel_rfl) (by kernel_rfl) (by kernel_rfl) (fun _ _ _ h => h) (yields (by rfl) (fun w => by kernel_rfl)) hS ?_
        simp only [Act.put, List.setIfInBounds_toArray, List.set_cons_zero, List.set_cons_succ]
        refine takeAt 7 73 (.string pr) rfl rfl (by kernel_rfl) (by kernel_rfl) (by kernel_rfl) (fun _ _ _ h => h) (loadP9_y u2.heap.size 6 pr (fun _ h => BoxF.c6 h.2) rfl rfl (by rfl)) hS ?_
        simp only [Act.put, List.setIfInBounds_toArray, List.set_cons_zero, List.set_cons_succ]
        refine takeAt 8 74 (.int .u8 (bt pr 0 : Nat)) rfl rfl (by kernel_rfl) (by kernel_rfl) (by kernel_rfl) (fun _ _ _ h => h) (idxE9_y pr hp0 rfl rfl (by rfl)) hS ?_
        simp only [Act.put, List.setIfInBounds_toArray, List.set_cons_zero, List.set_cons_succ]
        refine callAt 9 75 rfl rfl (by kernel_rfl) (by rfl) (by kernel_rfl) (HH.out _) ?_
        rintro e v1 ⟨rfl, hb⟩
        have hS := And.intro (hS.1.call hb) (hS.2.below hb hS.2.lt)
        clear hb
        refine ⟨_, rfl, hS, ?_⟩
        simp only [Act.put, List.setIfInBounds_toArray, List.set_cons_zero, List.set_cons_succ]
        refine takeAt 10 76 (.bool true) rfl rfl (by kernel_rfl) (by kernel_rfl) (by kernel_rfl) (fun _ _ _ h => h) (yields (by rfl) (fun w => by kernel_rfl)) hS ?_
        simp only [Act.put, List.setIfInBounds_toArray, List.set_cons_zero, List.set_cons_succ]
        refine takeAt 11 77 (.bool true) rfl rfl (by kernel_rfl) (by kernel_rfl) (by kernel_rfl) (fun _ _ _ h => h) (yields (by rfl) (fun w => by kernel_rfl)) hS ?_
        simp only [Act.put, List.setIfInBounds_toArray, List.set_cons_zero, List.set_cons_succ]
        refine callAt 12 78 rfl rfl (by kernel_rfl) (by rfl) (by kernel_rfl) (HFix.out _ hS.1.tabs) ?_
        rintro e v1 ⟨rfl, hb⟩
        have hS := And.intro (hS.1.call hb) (hS.2.below hb hS.2.lt)
        clear hb
        refine ⟨_, rfl, hS, ?_⟩
        simp only [Act.put, List.setIfInBounds_toArray, List.set_cons_zero, List.set_cons_succ]
        refine takeAt 13 79 (.bool true) rfl rfl (by kernel_rfl) (by kernel_rfl) (by kernel_rfl) (fun _ _ _ h => h) (yields (by rfl) (fun w => by kernel_rfl)) hS ?_
        simp only [Act.put, List.setIfInBounds_toArray, List.set_cons_zero, List.set_cons_succ]
        refine takeAt 14 2 (.bool true) rfl rfl (by kernel_rfl) (by kernel_rfl) (by kernel_rfl) (fun _ _ _ h => h) (yields (by rfl) (fun w => by kernel_rfl)) hS ?_
        simp only [Act.put, List.setIfInBounds_toArray, List.set_cons_zero, List.set_cons_succ]
        refine wpAnyH_done (by kernel_rfl) ?_ _
        have HL := Lib.hid hS.1
        clear hS
        go_wp2
        go_ret
        exact ⟨rfl, HL.out.below⟩
  · rw [show ofV l m = .tuple #[.agg (facC zrK), .int .i64 (rightZ l m)] by unfold ofV; rw [if_neg hr]] at HO
    have q : (rightZ l m == 0) = false := beq_eq_false_iff_ne.2 hr
    generalize rightZ l m = z at HO q
    generalize Ast.lenZ l m ((m : Int) - 1) = t at HLn
    clear hr
    go_enter Tryz.func6, Tryz.ntmps6
    go_wp2_with fail
    refine (HC.out _).mono ?_
    rintro e u0 ⟨rfl, hb⟩
    have HX0 := Lib.hid (show BoxV 24 u0 w.heap.size (trC A n cap) from BoxV.below (BoxV.new _ _) hb (by simp))
    have HB0 := Lib.hid (show Below w.heap.size w u0 from (show Below w.heap.size w _ by go_grown).trans (hb.mono (by simp)))
    clear hb HC
    go_wp2_with (refine storeTr9 rfl _ _ rfl w.heap.size _ A m cap rfl rfl (by rfl) HX0.out ?_; intro u1 hx hB; refine StopS.out ?_)
    refine ⟨?_⟩
    have HB1 := Lib.hid (HB0.out.trans (hB.out _ (Nat.le_refl _)))
    have HL := Lib.hid (show LBx w A m cap l u1 from ⟨HB1.out, hx.out, HLm.out.below HB1.out (Nat.le_refl _), HT.out.call HB1.out⟩)
    clear HX0 HB0 HB1 hx hB HLm HT
    have c0 : u1.cell? ⟨w.heap.size, 0, none⟩ = some (.slice A m cap) := HL.out.tree.get 0 rfl
    go_wp2_with fail
    refine (HO.out _ HL.out.nodes HL.out.tabs.tab).mono ?_
    rintro e u2 ⟨rfl, hb⟩
    replace HL := Lib.hid (HL.out.call hb)
    clear hb c0
    go_wp2_with (refine storeF9n rfl _ _ rfl u2 zrK rfl rfl rfl ?_; intro u3 hx hN; refine StopS.out ?_)
    refine ⟨?_⟩
    replace HL := Lib.hid (show LBx w A m cap l u3 from ⟨HL.out.below.trans (hN.out.mono HL.out.below.size), HL.out.tree.below hN.out HL.out.tree.lt, HL.out.nodes.below hN.out (Nat.le_refl _), HL.out.tabs.call hN.out⟩)
    have HF := Lib.hid hx.out
    clear hx hN
    have c0 : u3.cell? ⟨w.heap.size, 0, none⟩ = some (.slice A m cap) := HL.out.tree.get 0 rfl
    go_wp2_with fail
    refine (HLn.out _ HL.out.nodes).mono ?_
    rintro e u4 ⟨rfl, hb⟩
    replace HL := Lib.hid (HL.out.call hb)
    replace HF := Lib.hid (HF.out.below hb HF.out.lt)
    clear hb c0
    go_wp2_with (refine loadFcs rfl _ rfl u2.heap.size #[.int .u64 0, .int .u64 0, .int .u64 0, .int .u64 0, .bool false, .bool false, .string ⟨#[]⟩] (by rfl) rfl (BoxF.zr HF.out) (StopS.out ?_))
    refine ⟨?_⟩
    go_wp2_with fail
    refine (HFix.out _ HL.out.tabs).mono ?_
    rintro e u9 ⟨rfl, hb⟩
    replace HL := Lib.hid (HL.out.call hb)
    clear hb
    go_wp2
    go_ret
    exact ⟨rfl, HL.out.below⟩
end Go.Proofs.YtkpijnodhlonfaaGreatDoor
