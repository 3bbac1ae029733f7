/-
  Layer 9: the walk of the statement FactsTurns.
-/
import Derived.Test.YtkpijnodhlonfaaGreatDoorFacE
import Derived.Test.YtkpijnodhlonfaaGreatDoorAstH
import Derived.Test.YtkpijnodhlonfaaGreatDoorFacStrK
namespace Go.Proofs.YtkpijnodhlonfaaGreatDoor
open Go.RowKit
open Ast (Nd Nodes rightZ siz len wrapL deepZ)

theorem lit_turned {l : Nat → Nd} {n : Nat} {mn mx : Int} (h : LitOk9 l n) : LitOk9 (wrapL l n (ndR mn mx)) (n + 1) := by
  intro i hi hk
  by_cases h1 : i < n
  · unfold wrapL at hk ⊢
    rw [if_pos h1] at hk ⊢
    exact h i h1 hk
  · obtain rfl : i = n := by omega
    rw [Ast.wrap_top] at hk
    exact absurd hk (by show ¬ (10 : Int) = 1; decide)
theorem emF : facC emK = #[.int .u64 0, .int .u64 0, .int .u64 0, .int .u64 0, .bool true, .bool false, .string ⟨#[]⟩] := by
  show (#[_, _, _, _, _, _, _] : Array Value) = _
  unfold emK
  simp only [W_zero]
  rfl
theorem of_turned (K : PKit) {l : Nat → Nd} {m : Nat} {mn mx : Int} {k : FK} (hm : m ≤ 60) (hf : Ast.fitsB (ndR mn mx) = true) (hr : rightZ l m = 0) (hd : deepZ l m < 40) (hL : LitOk9 l m) (hk : facC (repK mn mx (factZ l m)) = facC k) (A : Option Addr) (cap : Nat) (u : World) (hn : Nodes u A (m + 1) (wrapL l m (ndR mn mx))) (ht : TabOk u) :
    Calls Tryz.prog 10 #[.agg (trC A (m + 1) cap)] u fun e w' => e = .returned (.tuple #[.agg (facC k), .int .i64 0]) ∧ Below u.heap.size u w' := by
  have h := of9_any K.sort K.none A (m + 1) cap _ u (by omega) hn (lit_turned hL) ht
  obtain ⟨h1, z1, -⟩ := whole9 hr
  have hk1 : Ast.kidsZ (ndR mn mx).k = 1 := by show Ast.kidsZ 10 = 1; decide
  rw [show ofV (wrapL l m (ndR mn mx)) (m + 1) = .tuple #[.agg (facC k), .int .i64 0] by unfold ofV; rw [if_pos (right_turned hf hr hd hm), right_turned hf hr hd hm, fact_around hk1 h1 z1, ← hk]; rfl] at h
  exact h
section
variable {ops : Array Oper} {R : World → Prop} {a : Act} {o : Oper} {x y : Operand}
theorem eqSet9_y (S : BitVec 256) (ho : o.op = .binOp .eql 29 x y 29) (hx : a.eval x = setV S) (hy : a.eval y = setV S) (hw : Region.wanted o (yielded ops a.tmps) = true) : YieldsIf Tryz.prog ops R o (.bool true) a := by
  refine Or.inl ⟨hw, fun u _ => ?_⟩
  unfold execOp
  simp only [ho, hx, hy]
  go_simp
end
set_option maxRecDepth 100000 in
set_option maxHeartbeats 16000000 in
theorem factsTurns_any (K : PKit) (A : Option Addr) (n cap : Nat) (l : Nat → Nd) (b : Nat) (hb8 : b < 256) (w : World) (hc : n ≤ cap) (hcap : cap ≤ 9223372036854775807) (h0 : A = none → n = 0 ∧ cap = 0) (hl : Nodes w A n l) (hWd : ∀ i, i < n → Wds (l i)) (hw : Tabs w) :
    Calls Tryz.prog 8 #[.agg (trC A n cap), .int .u8 (b : Int)] w fun e w' => e = .returned (.bool true) ∧ Below w.heap.size w w' := by
  obtain ⟨m, hm⟩ : ∃ m, m = min n 60 := ⟨_, rfl⟩
  have HC := Lib.hid (fun w => Ast.cut_any A n cap 60 w hc hcap h0 (by omega))
  rw [← hm] at HC
  have hm60 : m ≤ 60 := by omega
  have hmn : m ≤ n := by omega
  have HM := Lib.hid (show A = none → m = 0 ∧ cap = 0 from fun h => by obtain ⟨h1, h2⟩ := h0 h; omega)
  have HLm := Lib.hid (show Nodes w A m l from fun i hi => hl i (by omega))
  have hLit : LitOk9 l m := lit9_of fun i hi => hWd i (by omega)
  have HO := Lib.hid (fun u h t => of9_any K.sort K.none A m cap l u (by omega) h hLit t)
  have HFix := Lib.hid (fun w h => fixed9_any K w h)
  have HT := Lib.hid hw
  clear hm hl hWd hw h0 hc hcap hmn
  have HD := Lib.hid (fun u h => Ast.deep_any A m cap l u (by omega) h)
  have hb0 : (0 : Int) ≤ (b : Int) := by omega
  by_cases hr : rightZ l m = 0
  · have hpos := (whole9 hr).1
    have hO0 := show ofV l m = .tuple #[.agg (facC (factZ l m)), .int .i64 0] by unfold ofV; rw [if_pos hr, hr]
    rw [hO0] at HO
    clear hO0
    by_cases hd : 40 ≤ deepZ l m
    · clear K hLit hr hpos
      generalize factZ l m = k at HO
      have d1 : (40 : Int) ≤ (deepZ l m : Int) := by omega
      generalize (deepZ l m : Int) = d at HD d1
      go_enter Tryz.func8, Tryz.ntmps8
      go_wp2_with fail
      refine (HC.out _).mono ?_
      rintro e u0 ⟨rfl, hb⟩
      have HX0 := Lib.hid (show BoxV 24 u0 w.heap.size (trC A n cap) from BoxV.below (BoxV.new _ _) hb (by simp))
      have HB0 := Lib.hid (show Below w.heap.size w u0 from (show Below w.heap.size w _ by go_grown).trans (hb.mono (by simp)))
      clear hb HC
      go_wp2_with (refine storeTr9 rfl _ _ rfl w.heap.size _ A m cap rfl rfl (by rfl) HX0.out ?_; intro u1 hx hB; refine StopS.out ?_)
      refine ⟨?_⟩
      have HB1 := Lib.hid (HB0.out.trans (hB.out _ (Nat.le_refl _)))
      have HL := Lib.hid (show LBx w A m cap l u1 from ⟨HB1.out, hx.out, HLm.out.below HB1.out (Nat.le_refl _), HT.out.call HB1.out⟩)
      clear HX0 HB0 HB1 hx hB HLm HT
      have c0 : u1.cell? ⟨w.heap.size, 0, none⟩ = some (.slice A m cap) := HL.out.tree.get 0 rfl
      go_wp2_with fail
      refine (HO.out _ HL.out.nodes HL.out.tabs.tab).mono ?_
      rintro e u2 ⟨rfl, hb⟩
      replace HL := Lib.hid (HL.out.call hb)
      clear hb c0
      go_wp2_with (refine storeF9n rfl _ _ rfl u2 k rfl rfl rfl ?_; intro u3 hx hN; refine StopS.out ?_)
      refine ⟨?_⟩
      replace HL := Lib.hid (show LBx w A m cap l u3 from ⟨HL.out.below.trans (hN.out.mono HL.out.below.size), HL.out.tree.below hN.out HL.out.tree.lt, HL.out.nodes.below hN.out (Nat.le_refl _), HL.out.tabs.call hN.out⟩)
      have HF := Lib.hid hx.out
      clear hx hN
      have c0 : u3.cell? ⟨w.heap.size, 0, none⟩ = some (.slice A m cap) := HL.out.tree.get 0 rfl
      go_wp2_with fail
      refine (HD.out _ HL.out.nodes).mono ?_
      rintro e u4 ⟨rfl, hb⟩
      replace HL := Lib.hid (HL.out.call hb)
      clear hb c0
      go_wp2_with fail
      refine (HFix.out _ HL.out.tabs).mono ?_
      rintro e u9 ⟨rfl, hb⟩
      replace HL := Lib.hid (HL.out.call hb)
      clear hb
      go_wp2
      go_ret
      exact ⟨rfl, HL.out.below⟩
    · have hd' : deepZ l m < 40 := by omega
      have h9 : ((b : Int)).tmod 9 = ((b % 9 : Nat) : Int) := by rw [Int.tmod_eq_emod_of_nonneg (by omega)]; omega
      have hq8 : b % 9 ≤ 8 := by omega
      generalize b % 9 = q at h9 hq8
      have HT1 := Lib.hid (fun B cp u h t => of_turned K hm60 (mn := 0) (mx := 1 + (q : Int)) (k := ⟨(factZ l m).F, true, false, ByteArray.empty, false⟩) (by unfold Ast.fitsB; simp; omega) hr hd' hLit (by unfold repK; rw [if_neg (by omega), if_pos rfl]) B cp u h t)
      have HT2 := Lib.hid (fun B cp u h t => of_turned K hm60 (mn := 1 + (q : Int)) (mx := -1) (k := factZ l m) (by unfold Ast.fitsB; simp; omega) hr hd' hLit (by unfold repK; rw [if_neg (by omega), if_neg (by omega)]) B cp u h t)
      have HT3 := Lib.hid (fun B cp u h t => of_turned K hm60 (mn := 0) (mx := 0) (k := emK) (by unfold Ast.fitsB; simp) hr hd' hLit (by unfold repK; rw [if_pos rfl]) B cp u h t)
      have d1 : ¬ (40 : Int) ≤ (deepZ l m : Int) := by omega
      generalize (deepZ l m : Int) = d at HD d1
      generalize factZ l m = k at HO HT1 HT2
      obtain ⟨F, op, fa, pr, wh⟩ := k
      have z8 : (q : Int) ≤ 8 := by omega
      have z0 : (0 : Int) ≤ (q : Int) := by omega
      clear hd hd' hq8 hr hLit K hpos
      go_enter Tryz.func8, Tryz.ntmps8
      go_wp2_with fail
      refine (HC.out _).mono ?_
      rintro e u0 ⟨rfl, hb⟩
      have HX0 := Lib.hid (show BoxV 24 u0 w.heap.size (trC A n cap) from BoxV.below (BoxV.new _ _) hb (by simp))
      have HB0 := Lib.hid (show Below w.heap.size w u0 from (show Below w.heap.size w _ by go_grown).trans (hb.mono (by simp)))
      clear hb HC
      go_wp2_with (refine storeTr9 rfl _ _ rfl w.heap.size _ A m cap rfl rfl (by rfl) HX0.out ?_; intro u1 hx hB; refine StopS.out ?_)
      refine ⟨?_⟩
      have HB1 := Lib.hid (HB0.out.trans (hB.out _ (Nat.le_refl _)))
      have HL := Lib.hid (show LBx w A m cap l u1 from ⟨HB1.out, hx.out, HLm.out.below HB1.out (Nat.le_refl _), HT.out.call HB1.out⟩)
      clear HX0 HB0 HB1 hx hB HLm HT
      have c0 : u1.cell? ⟨w.heap.size, 0, none⟩ = some (.slice A m cap) := HL.out.tree.get 0 rfl
      go_wp2_with fail
      refine (HO.out _ HL.out.nodes HL.out.tabs.tab).mono ?_
      rintro e u2 ⟨rfl, hb⟩
      replace HL := Lib.hid (HL.out.call hb)
      clear hb c0
      go_wp2_with (refine storeF9n rfl _ _ rfl u2 ⟨F, op, fa, pr, wh⟩ rfl rfl rfl ?_; intro u3 hx hN; refine StopS.out ?_)
      refine ⟨?_⟩
      replace HL := Lib.hid (show LBx w A m cap l u3 from ⟨HL.out.below.trans (hN.out.mono HL.out.below.size), HL.out.tree.below hN.out HL.out.tree.lt, HL.out.nodes.below hN.out (Nat.le_refl _), HL.out.tabs.call hN.out⟩)
      have HF := Lib.hid hx.out
      clear hx hN
      have c0 : u3.cell? ⟨w.heap.size, 0, none⟩ = some (.slice A m cap) := HL.out.tree.get 0 rfl
      go_wp2_with fail
      refine (HD.out _ HL.out.nodes).mono ?_
      rintro e u4 ⟨rfl, hb⟩
      replace HL := Lib.hid (HL.out.call hb)
      replace HF := Lib.hid (HF.out.below hb HF.out.lt)
      clear hb c0
      have c0 : u4.cell? ⟨w.heap.size, 0, none⟩ = some (.slice A m cap) := HL.out.tree.get 0 rfl
      go_wp2_with fail
      refine (Ast.wrap_any A m cap l (ndR 0 (1 + (q : Int))) _ (by omega) HM.out HL.out.nodes).mono ?_
      rintro e v1 hres
      obtain ⟨B, cp, rfl, hT, hb⟩ := tree_res hres (by omega)
      have HN := Lib.hid hT.nodes
      replace HL := Lib.hid (HL.out.call hb)
      replace HF := Lib.hid (HF.out.below hb HF.out.lt)
      clear hb hres hT
      go_wp2_with fail
      refine (HT1.out B cp _ HN.out HL.out.tabs.tab).mono ?_
      rintro e y1 ⟨rfl, hb⟩
      replace HL := Lib.hid (HL.out.call hb)
      replace HF := Lib.hid (HF.out.below hb HF.out.lt)
      clear hb HN c0
      go_wp2_with (refine storeF9n rfl _ _ rfl y1 ⟨F, true, false, ByteArray.empty, false⟩ rfl rfl rfl ?_; intro x1 hx hN; refine StopS.out ?_)
      refine ⟨?_⟩
      have hb := hN.out
      replace HL := Lib.hid (show LBx w A m cap l x1 from ⟨HL.out.below.trans (hN.out.mono HL.out.below.size), HL.out.tree.below hN.out HL.out.tree.lt, HL.out.nodes.below hN.out (Nat.le_refl _), HL.out.tabs.call hN.out⟩)
      replace HF := Lib.hid (HF.out.below hb HF.out.lt)
      have HG1 := Lib.hid hx.out
      clear hx hN hb
      have c0 : x1.cell? ⟨w.heap.size, 0, none⟩ = some (.slice A m cap) := HL.out.tree.get 0 rfl
      go_wp2_with fail
      refine (Ast.wrap_any A m cap l (ndR (1 + (q : Int)) (-1)) _ (by omega) HM.out HL.out.nodes).mono ?_
      rintro e v2 hres
      obtain ⟨B, cp, rfl, hT, hb⟩ := tree_res hres (by omega)
      have HN := Lib.hid hT.nodes
      replace HL := Lib.hid (HL.out.call hb)
      replace HF := Lib.hid (HF.out.below hb HF.out.lt)
      replace HG1 := Lib.hid (HG1.out.below hb HG1.out.lt)
      clear hb hres hT
      go_wp2_with fail
      refine (HT2.out B cp _ HN.out HL.out.tabs.tab).mono ?_
      rintro e y2 ⟨rfl, hb⟩
      replace HL := Lib.hid (HL.out.call hb)
      replace HF := Lib.hid (HF.out.below hb HF.out.lt)
      replace HG1 := Lib.hid (HG1.out.below hb HG1.out.lt)
      clear hb HN c0
      go_wp2_with (refine storeF9n rfl _ _ rfl y2 ⟨F, op, fa, pr, wh⟩ rfl rfl rfl ?_; intro x2 hx hN; refine StopS.out ?_)
      refine ⟨?_⟩
      have hb := hN.out
      replace HL := Lib.hid (show LBx w A m cap l x2 from ⟨HL.out.below.trans (hN.out.mono HL.out.below.size), HL.out.tree.below hN.out HL.out.tree.lt, HL.out.nodes.below hN.out (Nat.le_refl _), HL.out.tabs.call hN.out⟩)
      replace HF := Lib.hid (HF.out.below hb HF.out.lt)
      replace HG1 := Lib.hid (HG1.out.below hb HG1.out.lt)
      have HG2 := Lib.hid hx.out
      clear hx hN hb
      have c0 : x2.cell? ⟨w.heap.size, 0, none⟩ = some (.slice A m cap) := HL.out.tree.get 0 rfl
      go_wp2_with fail
      refine (Ast.wrap_any A m cap l (ndR 0 0) _ (by omega) HM.out HL.out.nodes).mono ?_
      rintro e v3 hres
      obtain ⟨B, cp, rfl, hT, hb⟩ := tree_res hres (by omega)
      have HN := Lib.hid hT.nodes
      replace HL := Lib.hid (HL.out.call hb)
      replace HF := Lib.hid (HF.out.below hb HF.out.lt)
      replace HG1 := Lib.hid (HG1.out.below hb HG1.out.lt)
      replace HG2 := Lib.hid (HG2.out.below hb HG2.out.lt)
      clear hb hres hT
      go_wp2_with fail
      refine (HT3.out B cp _ HN.out HL.out.tabs.tab).mono ?_
      rintro e y3 ⟨rfl, hb⟩
      replace HL := Lib.hid (HL.out.call hb)
      replace HF := Lib.hid (HF.out.below hb HF.out.lt)
      replace HG1 := Lib.hid (HG1.out.below hb HG1.out.lt)
      replace HG2 := Lib.hid (HG2.out.below hb HG2.out.lt)
      clear hb HN c0
      go_wp2_with (refine storeF9n rfl _ _ rfl y3 emK rfl rfl rfl ?_; intro x3 hx hN; refine StopS.out ?_)
      refine ⟨?_⟩
      have hb := hN.out
      replace HL := Lib.hid (show LBx w A m cap l x3 from ⟨HL.out.below.trans (hN.out.mono HL.out.below.size), HL.out.tree.below hN.out HL.out.tree.lt, HL.out.nodes.below hN.out (Nat.le_refl _), HL.out.tabs.call hN.out⟩)
      replace HF := Lib.hid (HF.out.below hb HF.out.lt)
      replace HG1 := Lib.hid (HG1.out.below hb HG1.out.lt)
      replace HG2 := Lib.hid (HG2.out.below hb HG2.out.lt)
      have HG3 := Lib.hid hx.out
      clear hx hN hb
      have c0 : x3.cell? ⟨w.heap.size, 0, none⟩ = some (.slice A m cap) := HL.out.tree.get 0 rfl
      have hS : (fun u => LBx w A m cap l u ∧ BoxF u u2.heap.size ⟨F, op, fa, pr, wh⟩ ∧ BoxF u y1.heap.size ⟨F, true, false, ByteArray.empty, false⟩ ∧ BoxF u y2.heap.size ⟨F, op, fa, pr, wh⟩ ∧ BoxF u y3.heap.size emK) x3 := ⟨HL.out, HF.out, HG1.out, HG2.out, HG3.out⟩
      clear c0
      go_wp2_with (refine lineY (S := fun u => LBx w A m cap l u ∧ BoxF u u2.heap.size ⟨F, op, fa, pr, wh⟩ ∧ BoxF u y1.heap.size ⟨F, true, false, ByteArray.empty, false⟩ ∧ BoxF u y2.heap.size ⟨F, op, fa, pr, wh⟩ ∧ BoxF u y3.heap.size emK) (.pointer (some ⟨y1.heap.size, 0, none⟩)) (addr9_y 31 (.tmp 8) 0 _ rfl (fun w => by kernel_rfl) (by rfl)) hS ?_; refine StopS.out ?_)
      refine ⟨?_⟩
      try simp only [Act.put, List.setIfInBounds_toArray, List.set_cons_zero, List.set_cons_succ]
      refine lineY (S := fun u => LBx w A m cap l u ∧ BoxF u u2.heap.size ⟨F, op, fa, pr, wh⟩ ∧ BoxF u y1.heap.size ⟨F, true, false, ByteArray.empty, false⟩ ∧ BoxF u y2.heap.size ⟨F, op, fa, pr, wh⟩ ∧ BoxF u y3.heap.size emK) (setV F) (loadSF_y y1.heap.size ⟨F, true, false, ByteArray.empty, false⟩ (fun _ h => h.2.2.1) rfl rfl (by rfl)) hS ?_
      simp only [Act.put, List.setIfInBounds_toArray, List.set_cons_zero, List.set_cons_succ]
      refine lineY (S := fun u => LBx w A m cap l u ∧ BoxF u u2.heap.size ⟨F, op, fa, pr, wh⟩ ∧ BoxF u y1.heap.size ⟨F, true, false, ByteArray.empty, false⟩ ∧ BoxF u y2.heap.size ⟨F, op, fa, pr, wh⟩ ∧ BoxF u y3.heap.size emK) (.pointer (some ⟨u2.heap.size, 0, none⟩)) (yields (by rfl) (fun w => by kernel_rfl)) hS ?_
      simp only [Act.put, List.setIfInBounds_toArray, List.set_cons_zero, List.set_cons_succ]
      refine lineY (S := fun u => LBx w A m cap l u ∧ BoxF u u2.heap.size ⟨F, op, fa, pr, wh⟩ ∧ BoxF u y1.heap.size ⟨F, true, false, ByteArray.empty, false⟩ ∧ BoxF u y2.heap.size ⟨F, op, fa, pr, wh⟩ ∧ BoxF u y3.heap.size emK) (setV F) (loadSF_y u2.heap.size ⟨F, op, fa, pr, wh⟩ (fun _ h => h.2.1) rfl rfl (by rfl)) hS ?_
      simp only [Act.put, List.setIfInBounds_toArray, List.set_cons_zero, List.set_cons_succ]
      refine lineY (S := fun u => LBx w A m cap l u ∧ BoxF u u2.heap.size ⟨F, op, fa, pr, wh⟩ ∧ BoxF u y1.heap.size ⟨F, true, false, ByteArray.empty, false⟩ ∧ BoxF u y2.heap.size ⟨F, op, fa, pr, wh⟩ ∧ BoxF u y3.heap.size emK) (.bool true) (eqSet9_y F rfl rfl rfl (by rfl)) hS ?_
      simp only [Act.put, List.setIfInBounds_toArray, List.set_cons_zero, List.set_cons_succ]
      refine lineY (S := fun u => LBx w A m cap l u ∧ BoxF u u2.heap.size ⟨F, op, fa, pr, wh⟩ ∧ BoxF u y1.heap.size ⟨F, true, false, ByteArray.empty, false⟩ ∧ BoxF u y2.heap.size ⟨F, op, fa, pr, wh⟩ ∧ BoxF u y3.heap.size emK) (.bool true) (yields (by rfl) (fun w => by kernel_rfl)) hS ?_
      simp only [Act.put, List.setIfInBounds_toArray, List.set_cons_zero, List.set_cons_succ]
      refine lineY (S := fun u => LBx w A m cap l u ∧ BoxF u u2.heap.size ⟨F, op, fa, pr, wh⟩ ∧ BoxF u y1.heap.size ⟨F, true, false, ByteArray.empty, false⟩ ∧ BoxF u y2.heap.size ⟨F, op, fa, pr, wh⟩ ∧ BoxF u y3.heap.size emK) (.pointer (some ⟨y1.heap.size, 4, none⟩)) (yields (by rfl) (fun w => by kernel_rfl)) hS ?_
      simp only [Act.put, List.setIfInBounds_toArray, List.set_cons_zero, List.set_cons_succ]
      refine lineY (S := fun u => LBx w A m cap l u ∧ BoxF u u2.heap.size ⟨F, op, fa, pr, wh⟩ ∧ BoxF u y1.heap.size ⟨F, true, false, ByteArray.empty, false⟩ ∧ BoxF u y2.heap.size ⟨F, op, fa, pr, wh⟩ ∧ BoxF u y3.heap.size emK) (.bool true) (loadB9_y y1.heap.size 4 true (fun _ h => BoxF.c4 h.2.2.1) rfl rfl (by rfl)) hS ?_
      simp only [Act.put, List.setIfInBounds_toArray, List.set_cons_zero, List.set_cons_succ]
      refine lineY (S := fun u => LBx w A m cap l u ∧ BoxF u u2.heap.size ⟨F, op, fa, pr, wh⟩ ∧ BoxF u y1.heap.size ⟨F, true, false, ByteArray.empty, false⟩ ∧ BoxF u y2.heap.size ⟨F, op, fa, pr, wh⟩ ∧ BoxF u y3.heap.size emK) (.bool true) (yields (by rfl) (fun w => by kernel_rfl)) hS ?_
      simp only [Act.put, List.setIfInBounds_toArray, List.set_cons_zero, List.set_cons_succ]
      refine lineY (S := fun u => LBx w A m cap l u ∧ BoxF u u2.heap.size ⟨F, op, fa, pr, wh⟩ ∧ BoxF u y1.heap.size ⟨F, true, false, ByteArray.empty, false⟩ ∧ BoxF u y2.heap.size ⟨F, op, fa, pr, wh⟩ ∧ BoxF u y3.heap.size emK) (.bool true) (yields (by rfl) (fun w => by kernel_rfl)) hS ?_
      simp only [Act.put, List.setIfInBounds_toArray, List.set_cons_zero, List.set_cons_succ]
      refine lineY (S := fun u => LBx w A m cap l u ∧ BoxF u u2.heap.size ⟨F, op, fa, pr, wh⟩ ∧ BoxF u y1.heap.size ⟨F, true, false, ByteArray.empty, false⟩ ∧ BoxF u y2.heap.size ⟨F, op, fa, pr, wh⟩ ∧ BoxF u y3.heap.size emK) (.pointer (some ⟨y1.heap.size, 6, none⟩)) (yields (by rfl) (fun w => by kernel_rfl)) hS ?_
      simp only [Act.put, List.setIfInBounds_toArray, List.set_cons_zero, List.set_cons_succ]
      refine lineY (S := fun u => LBx w A m cap l u ∧ BoxF u u2.heap.size ⟨F, op, fa, pr, wh⟩ ∧ BoxF u y1.heap.size ⟨F, true, false, ByteArray.empty, false⟩ ∧ BoxF u y2.heap.size ⟨F, op, fa, pr, wh⟩ ∧ BoxF u y3.heap.size emK) (.string ByteArray.empty) (loadP9_y y1.heap.size 6 ByteArray.empty (fun _ h => BoxF.c6 h.2.2.1) rfl rfl (by rfl)) hS ?_
      simp only [Act.put, List.setIfInBounds_toArray, List.set_cons_zero, List.set_cons_succ]
      refine lineY (S := fun u => LBx w A m cap l u ∧ BoxF u u2.heap.size ⟨F, op, fa, pr, wh⟩ ∧ BoxF u y1.heap.size ⟨F, true, false, ByteArray.empty, false⟩ ∧ BoxF u y2.heap.size ⟨F, op, fa, pr, wh⟩ ∧ BoxF u y3.heap.size emK) (.bool true) (eqE9_y ByteArray.empty true (by rfl) rfl rfl (by rfl)) hS ?_
      simp only [Act.put, List.setIfInBounds_toArray, List.set_cons_zero, List.set_cons_succ]
      refine lineY (S := fun u => LBx w A m cap l u ∧ BoxF u u2.heap.size ⟨F, op, fa, pr, wh⟩ ∧ BoxF u y1.heap.size ⟨F, true, false, ByteArray.empty, false⟩ ∧ BoxF u y2.heap.size ⟨F, op, fa, pr, wh⟩ ∧ BoxF u y3.heap.size emK) (.bool true) (yields (by rfl) (fun w => by kernel_rfl)) hS ?_
      simp only [Act.put, List.setIfInBounds_toArray, List.set_cons_zero, List.set_cons_succ]
      refine lineY (S := fun u => LBx w A m cap l u ∧ BoxF u u2.heap.size ⟨F, op, fa, pr, wh⟩ ∧ BoxF u y1.heap.size ⟨F, true, false, ByteArray.empty, false⟩ ∧ BoxF u y2.heap.size ⟨F, op, fa, pr, wh⟩ ∧ BoxF u y3.heap.size emK) (.bool true) (yields (by rfl) (fun w => by kernel_rfl)) hS ?_
      simp only [Act.put, List.setIfInBounds_toArray, List.set_cons_zero, List.set_cons_succ]
      refine lineY (S := fun u => LBx w A m cap l u ∧ BoxF u u2.heap.size ⟨F, op, fa, pr, wh⟩ ∧ BoxF u y1.heap.size ⟨F, true, false, ByteArray.empty, false⟩ ∧ BoxF u y2.heap.size ⟨F, op, fa, pr, wh⟩ ∧ BoxF u y3.heap.size emK) (.pointer (some ⟨y1.heap.size, 5, none⟩)) (yields (by rfl) (fun w => by kernel_rfl)) hS ?_
      simp only [Act.put, List.setIfInBounds_toArray, List.set_cons_zero, List.set_cons_succ]
      refine lineY (S := fun u => LBx w A m cap l u ∧ BoxF u u2.heap.size ⟨F, op, fa, pr, wh⟩ ∧ BoxF u y1.heap.size ⟨F, true, false, ByteArray.empty, false⟩ ∧ BoxF u y2.heap.size ⟨F, op, fa, pr, wh⟩ ∧ BoxF u y3.heap.size emK) (.bool false) (loadB9_y y1.heap.size 5 false (fun _ h => BoxF.c5 h.2.2.1) rfl rfl (by rfl)) hS ?_
      simp only [Act.put, List.setIfInBounds_toArray, List.set_cons_zero, List.set_cons_succ]
      refine lineY (S := fun u => LBx w A m cap l u ∧ BoxF u u2.heap.size ⟨F, op, fa, pr, wh⟩ ∧ BoxF u y1.heap.size ⟨F, true, false, ByteArray.empty, false⟩ ∧ BoxF u y2.heap.size ⟨F, op, fa, pr, wh⟩ ∧ BoxF u y3.heap.size emK) (.bool true) (yields (by rfl) (fun w => by kernel_rfl)) hS ?_
      simp only [Act.put, List.setIfInBounds_toArray, List.set_cons_zero, List.set_cons_succ]
      refine lineY (S := fun u => LBx w A m cap l u ∧ BoxF u u2.heap.size ⟨F, op, fa, pr, wh⟩ ∧ BoxF u y1.heap.size ⟨F, true, false, ByteArray.empty, false⟩ ∧ BoxF u y2.heap.size ⟨F, op, fa, pr, wh⟩ ∧ BoxF u y3.heap.size emK) (.bool true) (yields (by rfl) (fun w => by kernel_rfl)) hS ?_
      simp only [Act.put, List.setIfInBounds_toArray, List.set_cons_zero, List.set_cons_succ]
      refine lineY (S := fun u => LBx w A m cap l u ∧ BoxF u u2.heap.size ⟨F, op, fa, pr, wh⟩ ∧ BoxF u y1.heap.size ⟨F, true, false, ByteArray.empty, false⟩ ∧ BoxF u y2.heap.size ⟨F, op, fa, pr, wh⟩ ∧ BoxF u y3.heap.size emK) (.bool true) (yields (by rfl) (fun w => by kernel_rfl)) hS ?_
      simp only [Act.put, List.setIfInBounds_toArray, List.set_cons_zero, List.set_cons_succ]
      refine lineY (S := fun u => LBx w A m cap l u ∧ BoxF u u2.heap.size ⟨F, op, fa, pr, wh⟩ ∧ BoxF u y1.heap.size ⟨F, true, false, ByteArray.empty, false⟩ ∧ BoxF u y2.heap.size ⟨F, op, fa, pr, wh⟩ ∧ BoxF u y3.heap.size emK) (.agg (facC ⟨F, op, fa, pr, wh⟩)) (loadF_y y2.heap.size ⟨F, op, fa, pr, wh⟩ (fun _ h => h.2.2.2.1) rfl rfl (by rfl)) hS ?_
      simp only [Act.put, List.setIfInBounds_toArray, List.set_cons_zero, List.set_cons_succ]
      refine lineY (S := fun u => LBx w A m cap l u ∧ BoxF u u2.heap.size ⟨F, op, fa, pr, wh⟩ ∧ BoxF u y1.heap.size ⟨F, true, false, ByteArray.empty, false⟩ ∧ BoxF u y2.heap.size ⟨F, op, fa, pr, wh⟩ ∧ BoxF u y3.heap.size emK) (.agg (facC ⟨F, op, fa, pr, wh⟩)) (loadF_y u2.heap.size ⟨F, op, fa, pr, wh⟩ (fun _ h => h.2.1) rfl rfl (by rfl)) hS ?_
      simp only [Act.put, List.setIfInBounds_toArray, List.set_cons_zero, List.set_cons_succ]
      refine lineY (S := fun u => LBx w A m cap l u ∧ BoxF u u2.heap.size ⟨F, op, fa, pr, wh⟩ ∧ BoxF u y1.heap.size ⟨F, true, false, ByteArray.empty, false⟩ ∧ BoxF u y2.heap.size ⟨F, op, fa, pr, wh⟩ ∧ BoxF u y3.heap.size emK) (.bool true) (eqFc_y ⟨F, op, fa, pr, wh⟩ rfl rfl rfl (by rfl)) hS ?_
      simp only [Act.put, List.setIfInBounds_toArray, List.set_cons_zero, List.set_cons_succ]
      refine lineY (S := fun u => LBx w A m cap l u ∧ BoxF u u2.heap.size ⟨F, op, fa, pr, wh⟩ ∧ BoxF u y1.heap.size ⟨F, true, false, ByteArray.empty, false⟩ ∧ BoxF u y2.heap.size ⟨F, op, fa, pr, wh⟩ ∧ BoxF u y3.heap.size emK) (.bool true) (yields (by rfl) (fun w => by kernel_rfl)) hS ?_
      simp only [Act.put, List.setIfInBounds_toArray, List.set_cons_zero, List.set_cons_succ]
      refine lineY (S := fun u => LBx w A m cap l u ∧ BoxF u u2.heap.size ⟨F, op, fa, pr, wh⟩ ∧ BoxF u y1.heap.size ⟨F, true, false, ByteArray.empty, false⟩ ∧ BoxF u y2.heap.size ⟨F, op, fa, pr, wh⟩ ∧ BoxF u y3.heap.size emK) (.bool true) (yields (by rfl) (fun w => by kernel_rfl)) hS ?_
      simp only [Act.put, List.setIfInBounds_toArray, List.set_cons_zero, List.set_cons_succ]
      refine lineY (S := fun u => LBx w A m cap l u ∧ BoxF u u2.heap.size ⟨F, op, fa, pr, wh⟩ ∧ BoxF u y1.heap.size ⟨F, true, false, ByteArray.empty, false⟩ ∧ BoxF u y2.heap.size ⟨F, op, fa, pr, wh⟩ ∧ BoxF u y3.heap.size emK) (.agg #[.int .u64 0, .int .u64 0, .int .u64 0, .int .u64 0, .bool true, .bool false, .string ⟨#[]⟩]) (by rw [← emF]; exact loadF_y y3.heap.size emK (fun _ h => h.2.2.2.2) rfl rfl (by rfl)) hS ?_
      simp only [Act.put, List.setIfInBounds_toArray, List.set_cons_zero, List.set_cons_succ]
      refine lineY (S := fun u => LBx w A m cap l u ∧ BoxF u u2.heap.size ⟨F, op, fa, pr, wh⟩ ∧ BoxF u y1.heap.size ⟨F, true, false, ByteArray.empty, false⟩ ∧ BoxF u y2.heap.size ⟨F, op, fa, pr, wh⟩ ∧ BoxF u y3.heap.size emK) (.agg #[.int .u64 0, .int .u64 0, .int .u64 0, .int .u64 0]) (yields (by rfl) (fun w => by kernel_rfl)) hS ?_
      simp only [Act.put, List.setIfInBounds_toArray, List.set_cons_zero, List.set_cons_succ]
      refine lineY (S := fun u => LBx w A m cap l u ∧ BoxF u u2.heap.size ⟨F, op, fa, pr, wh⟩ ∧ BoxF u y1.heap.size ⟨F, true, false, ByteArray.empty, false⟩ ∧ BoxF u y2.heap.size ⟨F, op, fa, pr, wh⟩ ∧ BoxF u y3.heap.size emK) (.agg #[.int .u64 0, .int .u64 0, .int .u64 0, .int .u64 0, .bool true, .bool false, .string ⟨#[]⟩]) (yields (by rfl) (fun w => by kernel_rfl)) hS ?_
      simp only [Act.put, List.setIfInBounds_toArray, List.set_cons_zero, List.set_cons_succ]
      refine lineY (S := fun u => LBx w A m cap l u ∧ BoxF u u2.heap.size ⟨F, op, fa, pr, wh⟩ ∧ BoxF u y1.heap.size ⟨F, true, false, ByteArray.empty, false⟩ ∧ BoxF u y2.heap.size ⟨F, op, fa, pr, wh⟩ ∧ BoxF u y3.heap.size emK) (.bool true) (yields (by rfl) (fun w => by kernel_rfl)) hS ?_
      simp only [Act.put, List.setIfInBounds_toArray, List.set_cons_zero, List.set_cons_succ]
      refine lineY (S := fun u => LBx w A m cap l u ∧ BoxF u u2.heap.size ⟨F, op, fa, pr, wh⟩ ∧ BoxF u y1.heap.size ⟨F, true, false, ByteArray.empty, false⟩ ∧ BoxF u y2.heap.size ⟨F, op, fa, pr, wh⟩ ∧ BoxF u y3.heap.size emK) (.bool true) (yields (by rfl) (fun w => by kernel_rfl)) hS ?_
      simp only [Act.put, List.setIfInBounds_toArray, List.set_cons_zero, List.set_cons_succ]
      refine lineY (S := fun u => LBx w A m cap l u ∧ BoxF u u2.heap.size ⟨F, op, fa, pr, wh⟩ ∧ BoxF u y1.heap.size ⟨F, true, false, ByteArray.empty, false⟩ ∧ BoxF u y2.heap.size ⟨F, op, fa, pr, wh⟩ ∧ BoxF u y3.heap.size emK) (.bool true) (yields (by rfl) (fun w => by kernel_rfl)) hS ?_
      simp only [Act.put, List.setIfInBounds_toArray, List.set_cons_zero, List.set_cons_succ]
      refine lineCall true (.bool true) (by rfl) (fun _ => by kernel_rfl) (HFix.out _ hS.1.tabs) ?_
      intro v9 hb
      have hS : (fun u => LBx w A m cap l u ∧ BoxF u u2.heap.size ⟨F, op, fa, pr, wh⟩ ∧ BoxF u y1.heap.size ⟨F, true, false, ByteArray.empty, false⟩ ∧ BoxF u y2.heap.size ⟨F, op, fa, pr, wh⟩ ∧ BoxF u y3.heap.size emK) v9 := ⟨hS.1.call hb, hS.2.1.below hb hS.2.1.lt, hS.2.2.1.below hb hS.2.2.1.lt, hS.2.2.2.1.below hb hS.2.2.2.1.lt, hS.2.2.2.2.below hb hS.2.2.2.2.lt⟩
      clear hb
      simp only [Act.put, List.setIfInBounds_toArray, List.set_cons_zero, List.set_cons_succ]
      refine lineY (S := fun u => LBx w A m cap l u ∧ BoxF u u2.heap.size ⟨F, op, fa, pr, wh⟩ ∧ BoxF u y1.heap.size ⟨F, true, false, ByteArray.empty, false⟩ ∧ BoxF u y2.heap.size ⟨F, op, fa, pr, wh⟩ ∧ BoxF u y3.heap.size emK) (.bool true) (yields (by rfl) (fun w => by kernel_rfl)) hS ?_
      simp only [Act.put, List.setIfInBounds_toArray, List.set_cons_zero, List.set_cons_succ]
      refine lineY (S := fun u => LBx w A m cap l u ∧ BoxF u u2.heap.size ⟨F, op, fa, pr, wh⟩ ∧ BoxF u y1.heap.size ⟨F, true, false, ByteArray.empty, false⟩ ∧ BoxF u y2.heap.size ⟨F, op, fa, pr, wh⟩ ∧ BoxF u y3.heap.size emK) (.bool true) (yields (by rfl) (fun w => by kernel_rfl)) hS ?_
      simp only [Act.put, List.setIfInBounds_toArray, List.set_cons_zero, List.set_cons_succ]
      have HZ := Lib.hid hS.1
      clear hS
      go_wp2
      go_ret
      exact ⟨rfl, HZ.out.below⟩
  · clear K hLit
    rw [show ofV l m = .tuple #[.agg (facC zrK), .int .i64 (rightZ l m)] by unfold ofV; rw [if_neg hr]] at HO
    have q : (rightZ l m == 0) = false := beq_eq_false_iff_ne.2 hr
    generalize rightZ l m = z at HO q
    clear hr HD
    go_enter Tryz.func8, Tryz.ntmps8
    go_wp2_with fail
    refine (HC.out _).mono ?_
    rintro e u0 ⟨rfl, hb⟩
    have HX0 := Lib.hid (show BoxV 24 u0 w.heap.size (trC A n cap) from BoxV.below (BoxV.new _ _) hb (by simp))
    have HB0 := Lib.hid (show Below w.heap.size w u0 from (show Below w.heap.size w _ by go_grown).trans (hb.mono (by simp)))
    clear hb HC
    go_wp2_with (refine storeTr9 rfl _ _ rfl w.heap.size _ A m cap rfl rfl (by rfl) HX0.out ?_; intro u1 hx hB; refine StopS.out ?_)
    refine ⟨?_⟩
    have HB1 := Lib.hid (HB0.out.trans (hB.out _ (Nat.le_refl _)))
    have HL := Lib.hid (show LBx w A m cap l u1 from ⟨HB1.out, hx.out, HLm.out.below HB1.out (Nat.le_refl _), HT.out.call HB1.out⟩)
    clear HX0 HB0 HB1 hx hB HLm HT
    have c0 : u1.cell? ⟨w.heap.size, 0, none⟩ = some (.slice A m cap) := HL.out.tree.get 0 rfl
    go_wp2_with fail
    refine (HO.out _ HL.out.nodes HL.out.tabs.tab).mono ?_
    rintro e u2 ⟨rfl, hb⟩
    replace HL := Lib.hid (HL.out.call hb)
    clear hb c0
    go_wp2_with (refine storeF9n rfl _ _ rfl u2 zrK rfl rfl rfl ?_; intro u3 hx hN; refine StopS.out ?_)
    refine ⟨?_⟩
    replace HL := Lib.hid (show LBx w A m cap l u3 from ⟨HL.out.below.trans (hN.out.mono HL.out.below.size), HL.out.tree.below hN.out HL.out.tree.lt, HL.out.nodes.below hN.out (Nat.le_refl _), HL.out.tabs.call hN.out⟩)
    have HF := Lib.hid hx.out
    clear hx hN
    have c0 : u3.cell? ⟨w.heap.size, 0, none⟩ = some (.slice A m cap) := HL.out.tree.get 0 rfl
    clear c0
    have hS : (fun u => LBx w A m cap l u ∧ BoxF u u2.heap.size zrK) u3 := ⟨HL.out, HF.out⟩
    go_wp2_with (refine lineY (S := fun u => LBx w A m cap l u ∧ BoxF u u2.heap.size zrK) (.bool true) (neqE9_y true (by rw [q]; rfl) rfl rfl rfl (by rfl)) hS ?_; refine StopS.out ?_)
    refine ⟨?_⟩
    try simp only [Act.put, List.setIfInBounds_toArray, List.set_cons_zero, List.set_cons_succ]
    refine lineY (S := fun u => LBx w A m cap l u ∧ BoxF u u2.heap.size zrK) (.bool true) (yields (by rfl) (fun w => by kernel_rfl)) hS ?_
    simp only [Act.put, List.setIfInBounds_toArray, List.set_cons_zero, List.set_cons_succ]
    refine lineY (S := fun u => LBx w A m cap l u ∧ BoxF u u2.heap.size zrK) (undef) (skipped (by rfl)) hS ?_
    simp only [Act.put, List.setIfInBounds_toArray, List.set_cons_zero, List.set_cons_succ]
    refine lineY (S := fun u => LBx w A m cap l u ∧ BoxF u u2.heap.size zrK) (undef) (skipped (by rfl)) hS ?_
    simp only [Act.put, List.setIfInBounds_toArray, List.set_cons_zero, List.set_cons_succ]
    refine lineY (S := fun u => LBx w A m cap l u ∧ BoxF u u2.heap.size zrK) (undef) (skipped (by rfl)) hS ?_
    simp only [Act.put, List.setIfInBounds_toArray, List.set_cons_zero, List.set_cons_succ]
    refine lineY (S := fun u => LBx w A m cap l u ∧ BoxF u u2.heap.size zrK) (.bool true) (yields (by rfl) (fun w => by kernel_rfl)) hS ?_
    simp only [Act.put, List.setIfInBounds_toArray, List.set_cons_zero, List.set_cons_succ]
    go_wp2_with (refine lineY (S := fun u => LBx w A m cap l u ∧ BoxF u u2.heap.size zrK) (.bool false) (eqlE9_y false q rfl rfl rfl (by rfl)) hS ?_; refine StopS.out ?_)
    refine ⟨?_⟩
    try simp only [Act.put, List.setIfInBounds_toArray, List.set_cons_zero, List.set_cons_succ]
    refine lineY (S := fun u => LBx w A m cap l u ∧ BoxF u u2.heap.size zrK) (.bool false) (yields (by rfl) (fun w => by kernel_rfl)) hS ?_
    simp only [Act.put, List.setIfInBounds_toArray, List.set_cons_zero, List.set_cons_succ]
    refine lineY (S := fun u => LBx w A m cap l u ∧ BoxF u u2.heap.size zrK) (.agg #[.int .u64 0, .int .u64 0, .int .u64 0, .int .u64 0, .bool false, .bool false, .string ⟨#[]⟩]) (by rw [← zrF]; exact loadF_y u2.heap.size zrK (fun _ h => h.2) rfl rfl (by rfl)) hS ?_
    simp only [Act.put, List.setIfInBounds_toArray, List.set_cons_zero, List.set_cons_succ]
    refine lineY (S := fun u => LBx w A m cap l u ∧ BoxF u u2.heap.size zrK) (.agg #[.int .u64 0, .int .u64 0, .int .u64 0, .int .u64 0, .bool false, .bool false, .string ⟨#[]⟩]) (yields (by rfl) (fun w => by kernel_rfl)) hS ?_
    simp only [Act.put, List.setIfInBounds_toArray, List.set_cons_zero, List.set_cons_succ]
    refine lineY (S := fun u => LBx w A m cap l u ∧ BoxF u u2.heap.size zrK) (.bool true) (yields (by rfl) (fun w => by kernel_rfl)) hS ?_
    simp only [Act.put, List.setIfInBounds_toArray, List.set_cons_zero, List.set_cons_succ]
    refine lineY (S := fun u => LBx w A m cap l u ∧ BoxF u u2.heap.size zrK) (.bool true) (yields (by rfl) (fun w => by kernel_rfl)) hS ?_
    simp only [Act.put, List.setIfInBounds_toArray, List.set_cons_zero, List.set_cons_succ]
    refine lineY (S := fun u => LBx w A m cap l u ∧ BoxF u u2.heap.size zrK) (.bool true) (yields (by rfl) (fun w => by kernel_rfl)) hS ?_
    simp only [Act.put, List.setIfInBounds_toArray, List.set_cons_zero, List.set_cons_succ]
    refine lineCall true (.bool true) (by rfl) (fun _ => by kernel_rfl) (HFix.out _ hS.1.tabs) ?_
    intro v9 hb
    have hS : (fun u => LBx w A m cap l u ∧ BoxF u u2.heap.size zrK) v9 := ⟨hS.1.call hb, hS.2.below hb hS.2.lt⟩
    clear hb
    simp only [Act.put, List.setIfInBounds_toArray, List.set_cons_zero, List.set_cons_succ]
    refine lineY (S := fun u => LBx w A m cap l u ∧ BoxF u u2.heap.size zrK) (.bool true) (yields (by rfl) (fun w => by kernel_rfl)) hS ?_
    simp only [Act.put, List.setIfInBounds_toArray, List.set_cons_zero, List.set_cons_succ]
    refine lineY (S := fun u => LBx w A m cap l u ∧ BoxF u u2.heap.size zrK) (.bool true) (yields (by rfl) (fun w => by kernel_rfl)) hS ?_
    simp only [Act.put, List.setIfInBounds_toArray, List.set_cons_zero, List.set_cons_succ]
    have HZ := Lib.hid hS.1
    clear hS
    go_wp2
    go_ret
    exact ⟨rfl, HZ.out.below⟩
end Go.Proofs.YtkpijnodhlonfaaGreatDoor
