/-
  Layer 9: the walk of the statement FactsCats.
-/
import Derived.Test.YtkpijnodhlonfaaGreatDoorFacE
import Derived.Test.YtkpijnodhlonfaaGreatDoorFacStrK
import Derived.Test.YtkpijnodhlonfaaGreatDoorAstH
namespace Go.Proofs.YtkpijnodhlonfaaGreatDoor
open Go.RowKit
open Ast (Nd Nodes rightZ siz len joinL deepZ cntG)

theorem lit_cats {la lb : Nat → Nd} {n m : Nat} {k : Int} (hk : k = 8 ∨ k = 9) (ha : LitOk9 la n) (hb : LitOk9 lb m) : LitOk9 (joinL la n lb m k) (n + m + 1) := by
  intro i hi h1
  by_cases h : i < n
  · rw [Ast.join_a la n lb m k h] at h1 ⊢
    exact ha i h h1
  · by_cases h2 : i < n + m
    · obtain ⟨j, rfl⟩ : ∃ j, i = n + j := ⟨i - n, by omega⟩
      rw [Ast.join_b la n lb m k (by omega)] at h1 ⊢
      rw [Ast.mvN_k] at h1
      have e : ∀ x : Nd, setOf (Ast.mvN x n) = setOf x ∧ (Ast.mvN x n).s0 = x.s0 ∧ (Ast.mvN x n).s1 = x.s1 ∧ (Ast.mvN x n).s2 = x.s2 ∧ (Ast.mvN x n).s3 = x.s3 := fun x => by unfold Ast.mvN; (repeat' split) <;> exact ⟨rfl, rfl, rfl, rfl, rfl⟩
      obtain ⟨e0, e1, e2, e3, e4⟩ := e (lb j)
      rw [e0, e1, e2, e3, e4]
      exact hb j (by omega) h1
    · obtain rfl : i = n + m := by omega
      rw [Ast.join_top] at h1
      have : k = 1 := h1
      omega
theorem of_cats (K : PKit) {la lb : Nat → Nd} {n m : Nat} {kd : Int} {k : FK} (hk : kd = 8 ∨ kd = 9) (hn : n ≤ 60) (hm : m ≤ 60) (ha : rightZ la n = 0) (hb : rightZ lb m = 0) (hg : cntG la n + cntG lb m = 0) (hd : deepZ la n < 40) (hd' : deepZ lb m < 40) (hLa : LitOk9 la n) (hLb : LitOk9 lb m)
    (hf : facC (twoK kd (decide ((len la n).2 = 0)) (factZ la n) (factZ lb m)) = facC k) (A : Option Addr) (cap : Nat) (u : World) (hN : Nodes u A (n + m + 1) (joinL la n lb m kd)) (ht : TabOk u) :
    Calls Tryz.prog 10 #[.agg (trC A (n + m + 1) cap)] u fun e w' => e = .returned (.tuple #[.agg (facC k), .int .i64 0]) ∧ Below u.heap.size u w' := by
  have h := of9_any K.sort K.none A (n + m + 1) cap _ u (by omega) hN (lit_cats hk hLa hLb) ht
  obtain ⟨h1, z1, -⟩ := whole9 ha
  obtain ⟨h2, z2, -⟩ := whole9 hb
  have hr := right_joined hk ha hb hg hd hd' hn hm
  rw [show ofV (joinL la n lb m kd) (n + m + 1) = .tuple #[.agg (facC k), .int .i64 0] by unfold ofV; rw [if_pos hr, hr, fact_joined hk (by omega) (by omega) h1 h2 z1 z2, hf]] at h
  exact h
theorem cat_fac (z : Bool) (a b : FK) : ∃ P, facC (catK z a b) = facC ⟨firK a b, a.op && b.op, a.fa || b.fa && z, P, false⟩ := by
  unfold catK cutK
  by_cases h : a.wh = true
  · rw [if_pos h]
    by_cases h2 : 100 < (a.pr ++ b.pr).size
    · rw [if_pos h2]; exact ⟨_, rfl⟩
    · rw [if_neg h2]; exact ⟨_, rfl⟩
  · rw [if_neg h]; exact ⟨_, rfl⟩
theorem cnt_le9 (l : Nat → Nd) : ∀ n, cntG l n ≤ n
  | 0 => Nat.le_refl _
  | n + 1 => by have := cnt_le9 l n; unfold cntG; split <;> omega
/-- The boxes of both trees, and the trees. -/
structure CBx (w0 : World) (A : Option Addr) (m cap : Nat) (l : Nat → Nd) (B : Option Addr) (k cap' : Nat) (l' : Nat → Nd) (w : World) : Prop where
  below : Below w0.heap.size w0 w
  t1 : BoxV 24 w w0.heap.size (trC A m cap)
  t2 : BoxV 24 w (w0.heap.size + 1) (trC B k cap')
  n1 : Nodes w A m l
  n2 : Nodes w B k l'
  tabs : Tabs w
theorem CBx.call {w0 w w' : World} {A : Option Addr} {m cap : Nat} {l : Nat → Nd} {B : Option Addr} {k cap' : Nat} {l' : Nat → Nd} (h : CBx w0 A m cap l B k cap' l' w) (hb : Below w.heap.size w w') : CBx w0 A m cap l B k cap' l' w' :=
  ⟨thenB h.below hb h.below.size, h.t1.below hb h.t1.lt, h.t2.below hb h.t2.lt, h.n1.below hb (Nat.le_refl _), h.n2.below hb (Nat.le_refl _), h.tabs.call hb⟩
theorem CBx.step {w0 w w' : World} {A : Option Addr} {m cap : Nat} {l : Nat → Nd} {B : Option Addr} {k cap' : Nat} {l' : Nat → Nd} (h : CBx w0 A m cap l B k cap' l' w) (hb : Below w.heap.size w w') : CBx w0 A m cap l B k cap' l' w' := h.call hb
section
variable {ops : Array Oper} {R : World → Prop} {a : Act} {o : Oper} {x y : Operand}
theorem eqSetc_y (S : BitVec 256) (ho : o.op = .binOp .eql 29 x y 29) (hx : a.eval x = setV S) (hy : a.eval y = setV S) (hw : Region.wanted o (yielded ops a.tmps) = true) : YieldsIf Tryz.prog ops R o (.bool true) a := by
  refine Or.inl ⟨hw, fun u _ => ?_⟩
  unfold execOp
  simp only [ho, hx, hy]
  go_simp
theorem maxc_y {m n z : Int} {i j : Nat} {ts : Array TypeId} (h : max m n = z) (ho : o.op = .call { callee := .builtin .max, args := #[.tmp i, .tmp j], argTypes := ts }) (hx : a.tmps[i]?.getD undef = .int .i64 m) (hy : a.tmps[j]?.getD undef = .int .i64 n) (hw : Region.wanted o (yielded ops a.tmps) = true) : YieldsIf Tryz.prog ops R o (.int .i64 z) a := by
  refine Or.inl ⟨hw, fun w _ => ?_⟩
  unfold execOp
  simp only [ho]
  go_simp
  rw [← h]
  split <;> omega
theorem geqc_y {m n : Int} (b : Bool) (h : decide (n ≤ m) = b) (ho : o.op = .binOp .geq 3 x y 3) (hx : a.eval x = .int .i64 m) (hy : a.eval y = .int .i64 n) (hw : Region.wanted o (yielded ops a.tmps) = true) : YieldsIf Tryz.prog ops R o (.bool b) a := by
  refine Or.inl ⟨hw, fun w _ => ?_⟩
  unfold execOp
  simp only [ho, hx, hy]
  go_simp
theorem loadSc_y (g : Nat) (S : BitVec 256) (hR : ∀ u, R u → BoxV 29 u g (setC S)) (ho : o.op = .load 29 x) (hx : a.eval x = .pointer (some ⟨g, 0, none⟩)) (hw : Region.wanted o (yielded ops a.tmps) = true) : YieldsIf Tryz.prog ops R o (setV S) a := by
  refine Or.inl ⟨hw, fun u h => ?_⟩
  have c0 : u.cell? ⟨g, 0, none⟩ = some (.int .u64 (W S 0 : Nat)) := BoxV.get (hR u h) 0 rfl
  have c1 : u.cell? ⟨g, 1, none⟩ = some (.int .u64 (W S 1 : Nat)) := BoxV.get (hR u h) 1 rfl
  have c2 : u.cell? ⟨g, 2, none⟩ = some (.int .u64 (W S 2 : Nat)) := BoxV.get (hR u h) 2 rfl
  have c3 : u.cell? ⟨g, 3, none⟩ = some (.int .u64 (W S 3 : Nat)) := BoxV.get (hR u h) 3 rfl
  unfold execOp
  simp only [ho, hx]
  simp [go_sem, c0, c1, c2, c3]
end
theorem sizeSet9 : (Tryz.prog.info? 29).map (·.size) = some 4 := by kernel_rfl
theorem storeSet9 {ops : Array Oper} {rest : List Oper} {o : Oper} {a : Act} {w : World} {Q : Exit → Act → World → Prop} (hgd : o.guard = none) (x y : Operand) (ho : o.op = .store 29 x y) (g : Nat) (cs : Array Value) (S : BitVec 256) (hx : a.eval x = .pointer (some ⟨g, 0, none⟩)) (hy : a.eval y = setV S) (hs : cs.size = 4) (hg : BoxV 29 w g cs)
    (h : ∀ u : World, Hid (BoxV 29 u g (setC S)) → Hid (∀ B, B ≤ g → Below B w u) → wpList Tryz.prog ops Q rest (a.put o.dst undef) u) : wpList Tryz.prog ops Q (o :: rest) a w := by
  refine wpList_store_row hgd 29 x y ho g _ hx hy _ _ hg sizeSet9 (by rw [hs]; rfl) (by simp [Value.oneCell']) ?_
  exact h _ (Lib.hid (setRow_heap w g _ _ _ _ hg)) (Lib.hid fun B hB => (Below.refl _ w).trans ⟨rfl, rfl, rfl, by simp, fun k hk => setRow_other w g k _ (by omega)⟩)
theorem storeSet9n {ops : Array Oper} {rest : List Oper} {o : Oper} {a : Act} {w : World} {Q : Exit → Act → World → Prop} (hgd : o.guard = none) (x y : Operand) (ho : o.op = .store 29 x y) (wr : World) (S : BitVec 256) (hx : a.eval x = .pointer (some ⟨wr.heap.size, 0, none⟩)) (hy : a.eval y = setV S) (hw : w = wr.alloc (.cells #[.int .u64 0, .int .u64 0, .int .u64 0, .int .u64 0] 29))
    (h : ∀ u : World, Hid (BoxV 29 u wr.heap.size (setC S)) → Hid (Below wr.heap.size wr u) → wpList Tryz.prog ops Q rest (a.put o.dst undef) u) : wpList Tryz.prog ops Q (o :: rest) a w := by
  subst hw
  refine storeSet9 hgd x y ho wr.heap.size _ S hx hy (by rfl) (BoxV.new _ _) fun u h1 h2 => ?_
  exact h u h1 (Lib.hid (((Below.refl _ wr).alloc (Nat.le_refl _) _).trans (h2.out _ (Nat.le_refl _))))
theorem storeTr9o {ops : Array Oper} {rest : List Oper} {o : Oper} {a : Act} {w : World} {Q : Exit → Act → World → Prop} (hgd : o.guard = none) (x y : Operand) (ho : o.op = .store 24 x y) (g : Nat) (cs : Array Value) (A : Option Addr) (n cap : Nat) (hx : a.eval x = .pointer (some ⟨g, 0, none⟩)) (hy : a.eval y = .agg (trC A n cap)) (hs : cs.size = 1) (hg : BoxV 24 w g cs)
    (h : ∀ u : World, Hid (BoxV 24 u g (trC A n cap)) → Hid (∀ B, B ≤ g → Below B w u) → Hid (∀ j, j ≠ g → u.heap[j]? = w.heap[j]?) → wpList Tryz.prog ops Q rest (a.put o.dst undef) u) : wpList Tryz.prog ops Q (o :: rest) a w := by
  refine wpList_store_row hgd 24 x y ho g _ hx hy _ _ hg sizeTr (by rw [hs]; rfl) (by simp [Value.oneCell']) ?_
  exact h _ (Lib.hid (setRow_heap w g _ _ _ _ hg)) (Lib.hid fun B hB => (Below.refl _ w).trans ⟨rfl, rfl, rfl, by simp, fun k hk => setRow_other w g k _ (by omega)⟩) (Lib.hid fun k hk => setRow_other w g k _ hk)
set_option maxRecDepth 100000 in
set_option maxHeartbeats 32000000 in
theorem factsCats_any (K : PKit) (A : Option Addr) (n cap : Nat) (l : Nat → Nd) (B : Option Addr) (n' cap' : Nat) (l' : Nat → Nd) (w : World) (hc : n ≤ cap) (hcap : cap ≤ 9223372036854775807) (h0 : A = none → n = 0 ∧ cap = 0) (hl : Nodes w A n l) (hWd : ∀ i, i < n → Wds (l i))
    (hc' : n' ≤ cap') (hcap' : cap' ≤ 9223372036854775807) (h0' : B = none → n' = 0 ∧ cap' = 0) (hl' : Nodes w B n' l') (hWd' : ∀ i, i < n' → Wds (l' i)) (hw : Tabs w) :
    Calls Tryz.prog 5 #[.agg (trC A n cap), .agg (trC B n' cap')] w fun e w' => e = .returned (.bool true) ∧ Below w.heap.size w w' := by
  obtain ⟨m, hm⟩ : ∃ m, m = min n 60 := ⟨_, rfl⟩
  obtain ⟨k, hk⟩ : ∃ k, k = min n' 60 := ⟨_, rfl⟩
  have HC := Lib.hid (fun w => Ast.cut_any A n cap 60 w hc hcap h0 (by omega))
  have HC' := Lib.hid (fun w => Ast.cut_any B n' cap' 60 w hc' hcap' h0' (by omega))
  rw [← hm] at HC
  rw [← hk] at HC'
  have hm60 : m ≤ 60 := by omega
  have hk60 : k ≤ 60 := by omega
  have HM := Lib.hid (show A = none → m = 0 ∧ cap = 0 from fun h => by obtain ⟨h1, h2⟩ := h0 h; omega)
  have HM' := Lib.hid (show B = none → k = 0 ∧ cap' = 0 from fun h => by obtain ⟨h1, h2⟩ := h0' h; omega)
  have HLm := Lib.hid (show Nodes w A m l from fun i hi => hl i (by omega))
  have HLk := Lib.hid (show Nodes w B k l' from fun i hi => hl' i (by omega))
  have hLit : LitOk9 l m := lit9_of fun i hi => hWd i (by omega)
  have hLit' : LitOk9 l' k := lit9_of fun i hi => hWd' i (by omega)
  have HO := Lib.hid (fun u h t => of9_any K.sort K.none A m cap l u (by omega) h hLit t)
  have HO' := Lib.hid (fun u h t => of9_any K.sort K.none B k cap' l' u (by omega) h hLit' t)
  have HG := Lib.hid (fun u h => Ast.groups_any A m cap l u (by omega) h)
  have HG' := Lib.hid (fun u h => Ast.groups_any B k cap' l' u (by omega) h)
  have HD := Lib.hid (fun u h => Ast.deep_any A m cap l u (by omega) h)
  have HD' := Lib.hid (fun u h => Ast.deep_any B k cap' l' u (by omega) h)
  have HFix := Lib.hid (fun w h => fixed9_any K w h)
  have HT := Lib.hid hw
  clear hm hk hl hl' hWd hWd' hw h0 h0' hc hcap hc' hcap'
  by_cases hr1 : rightZ l m = 0
  · have hO1 := show ofV l m = .tuple #[.agg (facC (factZ l m)), .int .i64 0] by unfold ofV; rw [if_pos hr1, hr1]
    rw [hO1] at HO
    clear hO1
    by_cases hr2 : rightZ l' k = 0
    · have hO2 := show ofV l' k = .tuple #[.agg (facC (factZ l' k)), .int .i64 0] by unfold ofV; rw [if_pos hr2, hr2]
      rw [hO2] at HO'
      clear hO2
      generalize hga : cntG l m = ga at HG
      generalize hgb : cntG l' k = gb at HG'
      generalize hda : deepZ l m = da at HD
      generalize hdb : deepZ l' k = db at HD'
      have bga : ga ≤ 60 := by rw [← hga]; exact Nat.le_trans (cnt_le9 l m) hm60
      have bgb : gb ≤ 60 := by rw [← hgb]; exact Nat.le_trans (cnt_le9 l' k) hk60
      by_cases hg0 : 0 < ga + gb
      · generalize factZ l m = k1 at HO
        generalize factZ l' k = k2 at HO'
        clear hr1 hr2 HD HD' hLit hLit' K hga hgb hda hdb
        go_enter Tryz.func5, Tryz.ntmps5
        go_wp2_with fail
        refine (HC.out _).mono ?_
        rintro e u0 ⟨rfl, hb⟩
        have hN0 : Below w.heap.size w ((w.alloc (.cells (trC A n cap) 24)).alloc (.cells (trC B n' cap') 24)) := by go_grown
        have HX0 := Lib.hid (show BoxV 24 u0 w.heap.size (trC A n cap) from BoxV.below ((BoxV.new _ _).alloc _) hb (by simp; omega))
        have HY0 := Lib.hid (show BoxV 24 u0 (w.heap.size + 1) (trC B n' cap') from BoxV.below (BoxV.new2 _ _ _) hb (by simp))
        have HB0 := Lib.hid (show Below w.heap.size w u0 from hN0.trans (hb.mono (by simp; omega)))
        clear hb HC hN0
        go_wp2_with (refine storeTr9o rfl _ _ rfl w.heap.size _ A m cap rfl rfl (by rfl) HX0.out ?_; intro u1 hx hB ho; refine StopS.out ?_)
        refine ⟨?_⟩
        have HX1 := Lib.hid hx.out
        have HY1 := Lib.hid (show BoxV 24 u1 (w.heap.size + 1) (trC B n' cap') from (ho.out _ (by omega)).trans HY0.out)
        have HB1 := Lib.hid (HB0.out.trans (hB.out _ (Nat.le_refl _)))
        clear HX0 HY0 HB0 hx hB ho
        have c1 : u1.cell? ⟨w.heap.size + 1, 0, none⟩ = some (.slice B n' cap') := HY1.out.get 0 rfl
        go_wp2_with fail
        refine (HC'.out _).mono ?_
        rintro e v0 ⟨rfl, hb⟩
        replace HX1 := Lib.hid (HX1.out.below hb HX1.out.lt)
        replace HY1 := Lib.hid (HY1.out.below hb HY1.out.lt)
        replace HB1 := Lib.hid (thenB HB1.out hb HB1.out.size)
        clear hb HC' c1
        go_wp2_with (refine storeTr9o rfl _ _ rfl (w.heap.size + 1) _ B k cap' rfl rfl (by rfl) HY1.out ?_; intro v1 hx hB ho; refine StopS.out ?_)
        refine ⟨?_⟩
        have HB2 := Lib.hid (HB1.out.trans (hB.out _ (by omega)))
        have HL := Lib.hid (show CBx w A m cap l B k cap' l' v1 from ⟨HB2.out, (ho.out _ (by omega)).trans HX1.out, hx.out, HLm.out.below HB2.out (Nat.le_refl _), HLk.out.below HB2.out (Nat.le_refl _), HT.out.call HB2.out⟩)
        clear HX1 HY1 HB1 HB2 hx hB ho HLm HLk HT
        have c0 : v1.cell? ⟨w.heap.size, 0, none⟩ = some (.slice A m cap) := HL.out.t1.get 0 rfl
        go_wp2_with fail
        refine (HO.out _ HL.out.n1 HL.out.tabs.tab).mono ?_
        rintro e u2 ⟨rfl, hb⟩
        replace HL := Lib.hid (HL.out.call hb)
        clear hb c0
        go_wp2_with (refine storeF9n rfl _ _ rfl u2 k1 rfl rfl rfl ?_; intro u3 hx hN; refine StopS.out ?_)
        refine ⟨?_⟩
        replace HL := Lib.hid (CBx.step HL.out hN.out)
        have HF := Lib.hid hx.out
        clear hx hN
        have c1 : u3.cell? ⟨w.heap.size + 1, 0, none⟩ = some (.slice B k cap') := HL.out.t2.get 0 rfl
        go_wp2_with fail
        refine (HO'.out _ HL.out.n2 HL.out.tabs.tab).mono ?_
        rintro e u4 ⟨rfl, hb⟩
        replace HL := Lib.hid (HL.out.call hb)
        replace HF := Lib.hid (HF.out.below hb HF.out.lt)
        clear hb c1
        go_wp2_with (refine storeF9n rfl _ _ rfl u4 k2 rfl rfl rfl ?_; intro u5 hx hN; refine StopS.out ?_)
        refine ⟨?_⟩
        replace HL := Lib.hid (CBx.step HL.out hN.out)
        replace HF := Lib.hid (HF.out.below hN.out HF.out.lt)
        have HE := Lib.hid hx.out
        clear hx hN
        go_wp2_with fail
        refine wp_region_held_drew (S := fun u => CBx w A m cap l B k cap' l' u ∧ BoxF u u2.heap.size k1 ∧ BoxF u u4.heap.size k2) (by kernel_rfl) (show _ from ⟨HL.out.call (Below.refl _ _).drew, HF.out.drew, HE.out.drew⟩) (fun hS => ?_)
        clear HL HF HE
        generalize World.drew _ = y0 at hS ⊢
        refine takeAt 0 28 (.int .i64 0) rfl rfl (by kernel_rfl) (by kernel_rfl) (by kernel_rfl) (fun _ _ _ h => h) (yields (by rfl) (fun w => by kernel_rfl)) hS ?_
        simp only [Act.put, List.setIfInBounds_toArray, List.set_cons_zero, List.set_cons_succ]
        refine takeAt 1 29 (.bool false) rfl rfl (by kernel_rfl) (by kernel_rfl) (by kernel_rfl) (fun _ _ _ h => h) (yields (by rfl) (fun w => by kernel_rfl)) hS ?_
        simp only [Act.put, List.setIfInBounds_toArray, List.set_cons_zero, List.set_cons_succ]
        refine takeAt 2 30 (.bool false) rfl rfl (by kernel_rfl) (by kernel_rfl) (by kernel_rfl) (fun _ _ _ h => h) (yields (by rfl) (fun w => by kernel_rfl)) hS ?_
        simp only [Act.put, List.setIfInBounds_toArray, List.set_cons_zero, List.set_cons_succ]
        refine takeAt 3 31 (.int .i64 0) rfl rfl (by kernel_rfl) (by kernel_rfl) (by kernel_rfl) (fun _ _ _ h => h) (yields (by rfl) (fun w => by kernel_rfl)) hS ?_
        simp only [Act.put, List.setIfInBounds_toArray, List.set_cons_zero, List.set_cons_succ]
        refine takeAt 4 32 (.bool false) rfl rfl (by kernel_rfl) (by kernel_rfl) (by kernel_rfl) (fun _ _ _ h => h) (yields (by rfl) (fun w => by kernel_rfl)) hS ?_
        simp only [Act.put, List.setIfInBounds_toArray, List.set_cons_zero, List.set_cons_succ]
        refine takeAt 5 33 (.bool false) rfl rfl (by kernel_rfl) (by kernel_rfl) (by kernel_rfl) (fun _ _ _ h => h) (yields (by rfl) (fun w => by kernel_rfl)) hS ?_
        simp only [Act.put, List.setIfInBounds_toArray, List.set_cons_zero, List.set_cons_succ]
        refine takeAt 6 34 (.bool false) rfl rfl (by kernel_rfl) (by kernel_rfl) (by kernel_rfl) (fun _ _ _ h => h) (yields (by rfl) (fun w => by kernel_rfl)) hS ?_
        simp only [Act.put, List.setIfInBounds_toArray, List.set_cons_zero, List.set_cons_succ]
        refine takeAt 7 35 (.agg (trC A m cap)) rfl rfl (by kernel_rfl) (by kernel_rfl) (by kernel_rfl) (fun _ _ _ h => h) (loadT9_y w.heap.size A m cap (fun _ h => h.1.t1) rfl rfl (by rfl)) hS ?_
        simp only [Act.put, List.setIfInBounds_toArray, List.set_cons_zero, List.set_cons_succ]
        refine takeAt 9 37 ((.agg (trC B k cap'))) rfl rfl (by kernel_rfl) (by kernel_rfl) (by kernel_rfl) (fun _ _ _ h => h) (loadT9_y (w.heap.size + 1) B k cap' (fun _ h => h.1.t2) rfl rfl (by rfl)) hS ?_
        simp only [Act.put, List.setIfInBounds_toArray, List.set_cons_zero, List.set_cons_succ]
        refine callAt 8 36 rfl rfl (by kernel_rfl) (by rfl) (by kernel_rfl) (HG.out _ hS.1.n1) ?_
        rintro e y1 ⟨rfl, hb⟩
        have hS := And.intro (hS.1.call hb) (And.intro (hS.2.1.below hb hS.2.1.lt) (hS.2.2.below hb hS.2.2.lt))
        clear hb
        refine ⟨_, rfl, hS, ?_⟩
        simp only [Act.put, List.setIfInBounds_toArray, List.set_cons_zero, List.set_cons_succ]
        refine callAt 10 38 rfl rfl (by kernel_rfl) (by rfl) (by kernel_rfl) (HG'.out _ hS.1.n2) ?_
        rintro e y1 ⟨rfl, hb⟩
        have hS := And.intro (hS.1.call hb) (And.intro (hS.2.1.below hb hS.2.1.lt) (hS.2.2.below hb hS.2.2.lt))
        clear hb
        refine ⟨_, rfl, hS, ?_⟩
        simp only [Act.put, List.setIfInBounds_toArray, List.set_cons_zero, List.set_cons_succ]
        refine takeAt 11 39 (.int .i64 ((ga : Int) + (gb : Int))) rfl rfl (by kernel_rfl) (by kernel_rfl) (by kernel_rfl) (fun _ _ _ h => h) (add9_y (ga : Int) (gb : Int) (by omega) (by omega) rfl rfl rfl (by rfl)) hS ?_
        simp only [Act.put, List.setIfInBounds_toArray, List.set_cons_zero, List.set_cons_succ]
        refine takeAt 12 40 (.bool true) rfl rfl (by kernel_rfl) (by kernel_rfl) (by kernel_rfl) (fun _ _ _ h => h) (gtr9_y ((ga : Int) + (gb : Int)) 0 true (by simp; omega) rfl rfl rfl (by rfl)) hS ?_
        simp only [Act.put, List.setIfInBounds_toArray, List.set_cons_zero, List.set_cons_succ]
        refine takeAt 13 41 (.bool true) rfl rfl (by kernel_rfl) (by kernel_rfl) (by kernel_rfl) (fun _ _ _ h => h) (yields (by rfl) (fun w => by kernel_rfl)) hS ?_
        simp only [Act.put, List.setIfInBounds_toArray, List.set_cons_zero, List.set_cons_succ]
        refine takeAt 14 42 (.bool true) rfl rfl (by kernel_rfl) (by kernel_rfl) (by kernel_rfl) (fun _ _ _ h => h) (yields (by rfl) (fun w => by kernel_rfl)) hS ?_
        simp only [Act.put, List.setIfInBounds_toArray, List.set_cons_zero, List.set_cons_succ]
        refine takeAt 15 43 (undef) rfl rfl (by kernel_rfl) (by kernel_rfl) (by kernel_rfl) (fun _ _ _ h => h) (skipped (by rfl)) hS ?_
        simp only [Act.put, List.setIfInBounds_toArray, List.set_cons_zero, List.set_cons_succ]
        refine takeAt 16 44 (undef) rfl rfl (by kernel_rfl) (by kernel_rfl) (by kernel_rfl) (fun _ _ _ h => h) (skipped (by rfl)) hS ?_
        simp only [Act.put, List.setIfInBounds_toArray, List.set_cons_zero, List.set_cons_succ]
        refine takeAt 17 45 (undef) rfl rfl (by kernel_rfl) (by kernel_rfl) (by kernel_rfl) (fun _ _ _ h => h) (skipped (by rfl)) hS ?_
        simp only [Act.put, List.setIfInBounds_toArray, List.set_cons_zero, List.set_cons_succ]
        refine takeAt 18 46 (undef) rfl rfl (by kernel_rfl) (by kernel_rfl) (by kernel_rfl) (fun _ _ _ h => h) (skipped (by rfl)) hS ?_
        simp only [Act.put, List.setIfInBounds_toArray, List.set_cons_zero, List.set_cons_succ]
        refine takeAt 19 47 (undef) rfl rfl (by kernel_rfl) (by kernel_rfl) (by kernel_rfl) (fun _ _ _ h => h) (skipped (by rfl)) hS ?_
        simp only [Act.put, List.setIfInBounds_toArray, List.set_cons_zero, List.set_cons_succ]
        refine takeAt 20 48 (undef) rfl rfl (by kernel_rfl) (by kernel_rfl) (by kernel_rfl) (fun _ _ _ h => h) (skipped (by rfl)) hS ?_
        simp only [Act.put, List.setIfInBounds_toArray, List.set_cons_zero, List.set_cons_succ]
        refine takeAt 21 49 (.bool true) rfl rfl (by kernel_rfl) (by kernel_rfl) (by kernel_rfl) (fun _ _ _ h => h) (yields (by rfl) (fun w => by kernel_rfl)) hS ?_
        simp only [Act.put, List.setIfInBounds_toArray, List.set_cons_zero, List.set_cons_succ]
        refine wpAnyH_done (by kernel_rfl) ?_ _
        have HL := Lib.hid hS.1
        have HF := Lib.hid hS.2.1
        have HE := Lib.hid hS.2.2
        clear hS
        go_wp2_with fail
        refine (HFix.out _ HL.out.tabs).mono ?_
        rintro e u9 ⟨rfl, hb⟩
        replace HL := Lib.hid (HL.out.call hb)
        clear hb
        go_wp2
        go_ret
        exact ⟨rfl, HL.out.below⟩
      · by_cases h40 : 40 ≤ max da db
        · generalize factZ l m = k1 at HO
          generalize factZ l' k = k2 at HO'
          clear hr1 hr2 hLit hLit' K hga hgb hda hdb
          go_enter Tryz.func5, Tryz.ntmps5
          go_wp2_with fail
          refine (HC.out _).mono ?_
          rintro e u0 ⟨rfl, hb⟩
          have hN0 : Below w.heap.size w ((w.alloc (.cells (trC A n cap) 24)).alloc (.cells (trC B n' cap') 24)) := by go_grown
          have HX0 := Lib.hid (show BoxV 24 u0 w.heap.size (trC A n cap) from BoxV.below ((BoxV.new _ _).alloc _) hb (by simp; omega))
          have HY0 := Lib.hid (show BoxV 24 u0 (w.heap.size + 1) (trC B n' cap') from BoxV.below (BoxV.new2 _ _ _) hb (by simp))
          have HB0 := Lib.hid (show Below w.heap.size w u0 from hN0.trans (hb.mono (by simp; omega)))
          clear hb HC hN0
          go_wp2_with (refine storeTr9o rfl _ _ rfl w.heap.size _ A m cap rfl rfl (by rfl) HX0.out ?_; intro u1 hx hB ho; refine StopS.out ?_)
          refine ⟨?_⟩
          have HX1 := Lib.hid hx.out
          have HY1 := Lib.hid (show BoxV 24 u1 (w.heap.size + 1) (trC B n' cap') from (ho.out _ (by omega)).trans HY0.out)
          have HB1 := Lib.hid (HB0.out.trans (hB.out _ (Nat.le_refl _)))
          clear HX0 HY0 HB0 hx hB ho
          have c1 : u1.cell? ⟨w.heap.size + 1, 0, none⟩ = some (.slice B n' cap') := HY1.out.get 0 rfl
          go_wp2_with fail
          refine (HC'.out _).mono ?_
          rintro e v0 ⟨rfl, hb⟩
          replace HX1 := Lib.hid (HX1.out.below hb HX1.out.lt)
          replace HY1 := Lib.hid (HY1.out.below hb HY1.out.lt)
          replace HB1 := Lib.hid (thenB HB1.out hb HB1.out.size)
          clear hb HC' c1
          go_wp2_with (refine storeTr9o rfl _ _ rfl (w.heap.size + 1) _ B k cap' rfl rfl (by rfl) HY1.out ?_; intro v1 hx hB ho; refine StopS.out ?_)
          refine ⟨?_⟩
          have HB2 := Lib.hid (HB1.out.trans (hB.out _ (by omega)))
          have HL := Lib.hid (show CBx w A m cap l B k cap' l' v1 from ⟨HB2.out, (ho.out _ (by omega)).trans HX1.out, hx.out, HLm.out.below HB2.out (Nat.le_refl _), HLk.out.below HB2.out (Nat.le_refl _), HT.out.call HB2.out⟩)
          clear HX1 HY1 HB1 HB2 hx hB ho HLm HLk HT
          have c0 : v1.cell? ⟨w.heap.size, 0, none⟩ = some (.slice A m cap) := HL.out.t1.get 0 rfl
          go_wp2_with fail
          refine (HO.out _ HL.out.n1 HL.out.tabs.tab).mono ?_
          rintro e u2 ⟨rfl, hb⟩
          replace HL := Lib.hid (HL.out.call hb)
          clear hb c0
          go_wp2_with (refine storeF9n rfl _ _ rfl u2 k1 rfl rfl rfl ?_; intro u3 hx hN; refine StopS.out ?_)
          refine ⟨?_⟩
          replace HL := Lib.hid (CBx.step HL.out hN.out)
          have HF := Lib.hid hx.out
          clear hx hN
          have c1 : u3.cell? ⟨w.heap.size + 1, 0, none⟩ = some (.slice B k cap') := HL.out.t2.get 0 rfl
          go_wp2_with fail
          refine (HO'.out _ HL.out.n2 HL.out.tabs.tab).mono ?_
          rintro e u4 ⟨rfl, hb⟩
          replace HL := Lib.hid (HL.out.call hb)
          replace HF := Lib.hid (HF.out.below hb HF.out.lt)
          clear hb c1
          go_wp2_with (refine storeF9n rfl _ _ rfl u4 k2 rfl rfl rfl ?_; intro u5 hx hN; refine StopS.out ?_)
          refine ⟨?_⟩
          replace HL := Lib.hid (CBx.step HL.out hN.out)
          replace HF := Lib.hid (HF.out.below hN.out HF.out.lt)
          have HE := Lib.hid hx.out
          clear hx hN
          go_wp2_with fail
          refine wp_region_held_drew (S := fun u => CBx w A m cap l B k cap' l' u ∧ BoxF u u2.heap.size k1 ∧ BoxF u u4.heap.size k2) (by kernel_rfl) (show _ from ⟨HL.out.call (Below.refl _ _).drew, HF.out.drew, HE.out.drew⟩) (fun hS => ?_)
          clear HL HF HE
          generalize World.drew _ = y0 at hS ⊢
          refine takeAt 0 28 (.int .i64 0) rfl rfl (by kernel_rfl) (by kernel_rfl) (by kernel_rfl) (fun _ _ _ h => h) (yields (by rfl) (fun w => by kernel_rfl)) hS ?_
          simp only [Act.put, List.setIfInBounds_toArray, List.set_cons_zero, List.set_cons_succ]
          refine takeAt 1 29 (.bool false) rfl rfl (by kernel_rfl) (by kernel_rfl) (by kernel_rfl) (fun _ _ _ h => h) (yields (by rfl) (fun w => by kernel_rfl)) hS ?_
          simp only [Act.put, List.setIfInBounds_toArray, List.set_cons_zero, List.set_cons_succ]
          refine takeAt 2 30 (.bool false) rfl rfl (by kernel_rfl) (by kernel_rfl) (by kernel_rfl) (fun _ _ _ h => h) (yields (by rfl) (fun w => by kernel_rfl)) hS ?_
          simp only [Act.put, List.setIfInBounds_toArray, List.set_cons_zero, List.set_cons_succ]
          refine takeAt 3 31 (.int .i64 0) rfl rfl (by kernel_rfl) (by kernel_rfl) (by kernel_rfl) (fun _ _ _ h => h) (yields (by rfl) (fun w => by kernel_rfl)) hS ?_
          simp only [Act.put, List.setIfInBounds_toArray, List.set_cons_zero, List.set_cons_succ]
          refine takeAt 4 32 (.bool false) rfl rfl (by kernel_rfl) (by kernel_rfl) (by kernel_rfl) (fun _ _ _ h => h) (yields (by rfl) (fun w => by kernel_rfl)) hS ?_
          simp only [Act.put, List.setIfInBounds_toArray, List.set_cons_zero, List.set_cons_succ]
          refine takeAt 5 33 (.bool false) rfl rfl (by kernel_rfl) (by kernel_rfl) (by kernel_rfl) (fun _ _ _ h => h) (yields (by rfl) (fun w => by kernel_rfl)) hS ?_
          simp only [Act.put, List.setIfInBounds_toArray, List.set_cons_zero, List.set_cons_succ]
          refine takeAt 6 34 (.bool false) rfl rfl (by kernel_rfl) (by kernel_rfl) (by kernel_rfl) (fun _ _ _ h => h) (yields (by rfl) (fun w => by kernel_rfl)) hS ?_
          simp only [Act.put, List.setIfInBounds_toArray, List.set_cons_zero, List.set_cons_succ]
          refine takeAt 7 35 (.agg (trC A m cap)) rfl rfl (by kernel_rfl) (by kernel_rfl) (by kernel_rfl) (fun _ _ _ h => h) (loadT9_y w.heap.size A m cap (fun _ h => h.1.t1) rfl rfl (by rfl)) hS ?_
          simp only [Act.put, List.setIfInBounds_toArray, List.set_cons_zero, List.set_cons_succ]
          refine takeAt 9 37 ((.agg (trC B k cap'))) rfl rfl (by kernel_rfl) (by kernel_rfl) (by kernel_rfl) (fun _ _ _ h => h) (loadT9_y (w.heap.size + 1) B k cap' (fun _ h => h.1.t2) rfl rfl (by rfl)) hS ?_
          simp only [Act.put, List.setIfInBounds_toArray, List.set_cons_zero, List.set_cons_succ]
          refine callAt 8 36 rfl rfl (by kernel_rfl) (by rfl) (by kernel_rfl) (HG.out _ hS.1.n1) ?_
          rintro e y1 ⟨rfl, hb⟩
          have hS := And.intro (hS.1.call hb) (And.intro (hS.2.1.below hb hS.2.1.lt) (hS.2.2.below hb hS.2.2.lt))
          clear hb
          refine ⟨_, rfl, hS, ?_⟩
          simp only [Act.put, List.setIfInBounds_toArray, List.set_cons_zero, List.set_cons_succ]
          refine callAt 10 38 rfl rfl (by kernel_rfl) (by rfl) (by kernel_rfl) (HG'.out _ hS.1.n2) ?_
          rintro e y1 ⟨rfl, hb⟩
          have hS := And.intro (hS.1.call hb) (And.intro (hS.2.1.below hb hS.2.1.lt) (hS.2.2.below hb hS.2.2.lt))
          clear hb
          refine ⟨_, rfl, hS, ?_⟩
          simp only [Act.put, List.setIfInBounds_toArray, List.set_cons_zero, List.set_cons_succ]
          refine takeAt 11 39 (.int .i64 ((ga : Int) + (gb : Int))) rfl rfl (by kernel_rfl) (by kernel_rfl) (by kernel_rfl) (fun _ _ _ h => h) (add9_y (ga : Int) (gb : Int) (by omega) (by omega) rfl rfl rfl (by rfl)) hS ?_
          simp only [Act.put, List.setIfInBounds_toArray, List.set_cons_zero, List.set_cons_succ]
          refine takeAt 12 40 (.bool false) rfl rfl (by kernel_rfl) (by kernel_rfl) (by kernel_rfl) (fun _ _ _ h => h) (gtr9_y ((ga : Int) + (gb : Int)) 0 false (by simp; omega) rfl rfl rfl (by rfl)) hS ?_
          simp only [Act.put, List.setIfInBounds_toArray, List.set_cons_zero, List.set_cons_succ]
          refine takeAt 13 41 (.bool false) rfl rfl (by kernel_rfl) (by kernel_rfl) (by kernel_rfl) (fun _ _ _ h => h) (yields (by rfl) (fun w => by kernel_rfl)) hS ?_
          simp only [Act.put, List.setIfInBounds_toArray, List.set_cons_zero, List.set_cons_succ]
          refine takeAt 14 42 (.bool false) rfl rfl (by kernel_rfl) (by kernel_rfl) (by kernel_rfl) (fun _ _ _ h => h) (yields (by rfl) (fun w => by kernel_rfl)) hS ?_
          simp only [Act.put, List.setIfInBounds_toArray, List.set_cons_zero, List.set_cons_succ]
          refine takeAt 15 43 (.agg (trC A m cap)) rfl rfl (by kernel_rfl) (by kernel_rfl) (by kernel_rfl) (fun _ _ _ h => h) (loadT9_y w.heap.size A m cap (fun _ h => h.1.t1) rfl rfl (by rfl)) hS ?_
          simp only [Act.put, List.setIfInBounds_toArray, List.set_cons_zero, List.set_cons_succ]
          refine takeAt 17 45 ((.agg (trC B k cap'))) rfl rfl (by kernel_rfl) (by kernel_rfl) (by kernel_rfl) (fun _ _ _ h => h) (loadT9_y (w.heap.size + 1) B k cap' (fun _ h => h.1.t2) rfl rfl (by rfl)) hS ?_
          simp only [Act.put, List.setIfInBounds_toArray, List.set_cons_zero, List.set_cons_succ]
          refine callAt 16 44 rfl rfl (by kernel_rfl) (by rfl) (by kernel_rfl) (HD.out _ hS.1.n1) ?_
          rintro e y1 ⟨rfl, hb⟩
          have hS := And.intro (hS.1.call hb) (And.intro (hS.2.1.below hb hS.2.1.lt) (hS.2.2.below hb hS.2.2.lt))
          clear hb
          refine ⟨_, rfl, hS, ?_⟩
          simp only [Act.put, List.setIfInBounds_toArray, List.set_cons_zero, List.set_cons_succ]
          refine callAt 18 46 rfl rfl (by kernel_rfl) (by rfl) (by kernel_rfl) (HD'.out _ hS.1.n2) ?_
          rintro e y1 ⟨rfl, hb⟩
          have hS := And.intro (hS.1.call hb) (And.intro (hS.2.1.below hb hS.2.1.lt) (hS.2.2.below hb hS.2.2.lt))
          clear hb
          refine ⟨_, rfl, hS, ?_⟩
          simp only [Act.put, List.setIfInBounds_toArray, List.set_cons_zero, List.set_cons_succ]
          refine takeAt 19 47 (.int .i64 (max (da : Int) (db : Int))) rfl rfl (by kernel_rfl) (by kernel_rfl) (by kernel_rfl) (fun _ _ _ h => h) (maxc_y rfl rfl rfl rfl (by rfl)) hS ?_
          simp only [Act.put, List.setIfInBounds_toArray, List.set_cons_zero, List.set_cons_succ]
          refine takeAt 20 48 (.bool true) rfl rfl (by kernel_rfl) (by kernel_rfl) (by kernel_rfl) (fun _ _ _ h => h) (geqc_y true (by simp; omega) rfl rfl rfl (by rfl)) hS ?_
          simp only [Act.put, List.setIfInBounds_toArray, List.set_cons_zero, List.set_cons_succ]
          refine takeAt 21 49 (.bool true) rfl rfl (by kernel_rfl) (by kernel_rfl) (by kernel_rfl) (fun _ _ _ h => h) (yields (by rfl) (fun w => by kernel_rfl)) hS ?_
          simp only [Act.put, List.setIfInBounds_toArray, List.set_cons_zero, List.set_cons_succ]
          refine wpAnyH_done (by kernel_rfl) ?_ _
          have HL := Lib.hid hS.1
          have HF := Lib.hid hS.2.1
          have HE := Lib.hid hS.2.2
          clear hS
          go_wp2_with fail
          refine (HFix.out _ HL.out.tabs).mono ?_
          rintro e u9 ⟨rfl, hb⟩
          replace HL := Lib.hid (HL.out.call hb)
          clear hb
          go_wp2
          go_ret
          exact ⟨rfl, HL.out.below⟩
        · have gg : cntG l m + cntG l' k = 0 := by rw [hga, hgb]; omega
          have gx : deepZ l m < 40 := by rw [hda]; omega
          have gy : deepZ l' k < 40 := by rw [hdb]; omega
          obtain ⟨P, hP⟩ := cat_fac (decide ((len l m).2 = 0)) (factZ l m) (factZ l' k)
          have HJ := Lib.hid (fun X cp u h t => of_cats K (kd := 8) (.inl rfl) hm60 hk60 hr1 hr2 gg gx gy hLit hLit' ((show twoK 8 _ _ _ = catK _ _ _ from if_pos rfl) ▸ hP) X cp u h t)
          have HI := Lib.hid (fun X cp u h t => of_cats K (kd := 9) (k := altK (factZ l m) (factZ l' k)) (.inr rfl) hm60 hk60 hr1 hr2 gg gx gy hLit hLit' rfl X cp u h t)
          generalize decide ((len l m).2 = 0) = z at HJ
          generalize factZ l m = k1 at HO HJ HI
          generalize factZ l' k = k2 at HO' HJ HI
          obtain ⟨F1, op1, fa1, pr1, wh1⟩ := k1
          obtain ⟨F2, op2, fa2, pr2, wh2⟩ := k2
          obtain ⟨FC, hFC⟩ : ∃ FC, Hid (FC = (if op1 = true then F1 ||| F2 else F1)) := ⟨_, Lib.hid rfl⟩
          have HJ : Hid (∀ (X : Option Addr) (cp : Nat) (u : World), Nodes u X (m + k + 1) (joinL l m l' k 8) → TabOk u → Calls Tryz.prog 10 #[.agg (trC X (m + k + 1) cp)] u fun e w' => e = .returned (.tuple #[.agg (facC ⟨FC, op1 && op2, fa1 || (fa2 && z), P, false⟩), .int .i64 0]) ∧ Below u.heap.size u w') := Lib.hid (by rw [hFC.out]; exact HJ.out)
          have HI : Hid (∀ (X : Option Addr) (cp : Nat) (u : World), Nodes u X (m + k + 1) (joinL l m l' k 9) → TabOk u → Calls Tryz.prog 10 #[.agg (trC X (m + k + 1) cp)] u fun e w' => e = .returned (.tuple #[.agg (facC ⟨F1 ||| F2, op1 || op2, fa1 && fa2, ByteArray.empty, false⟩), .int .i64 0]) ∧ Below u.heap.size u w') := Lib.hid HI.out
          have HOr := Lib.hid (fun w => or_any F1 F2 w)
          clear hr1 hr2 hLit hLit' K hga hgb hda hdb gg gx gy hP
          go_enter Tryz.func5, Tryz.ntmps5
          go_wp2_with fail
          refine (HC.out _).mono ?_
          rintro e u0 ⟨rfl, hb⟩
          have hN0 : Below w.heap.size w ((w.alloc (.cells (trC A n cap) 24)).alloc (.cells (trC B n' cap') 24)) := by go_grown
          have HX0 := Lib.hid (show BoxV 24 u0 w.heap.size (trC A n cap) from BoxV.below ((BoxV.new _ _).alloc _) hb (by simp; omega))
          have HY0 := Lib.hid (show BoxV 24 u0 (w.heap.size + 1) (trC B n' cap') from BoxV.below (BoxV.new2 _ _ _) hb (by simp))
          have HB0 := Lib.hid (show Below w.heap.size w u0 from hN0.trans (hb.mono (by simp; omega)))
          clear hb HC hN0
          go_wp2_with (refine storeTr9o rfl _ _ rfl w.heap.size _ A m cap rfl rfl (by rfl) HX0.out ?_; intro u1 hx hB ho; refine StopS.out ?_)
          refine ⟨?_⟩
          have HX1 := Lib.hid hx.out
          have HY1 := Lib.hid (show BoxV 24 u1 (w.heap.size + 1) (trC B n' cap') from (ho.out _ (by omega)).trans HY0.out)
          have HB1 := Lib.hid (HB0.out.trans (hB.out _ (Nat.le_refl _)))
          clear HX0 HY0 HB0 hx hB ho
          have c1 : u1.cell? ⟨w.heap.size + 1, 0, none⟩ = some (.slice B n' cap') := HY1.out.get 0 rfl
          go_wp2_with fail
          refine (HC'.out _).mono ?_
          rintro e v0 ⟨rfl, hb⟩
          replace HX1 := Lib.hid (HX1.out.below hb HX1.out.lt)
          replace HY1 := Lib.hid (HY1.out.below hb HY1.out.lt)
          replace HB1 := Lib.hid (thenB HB1.out hb HB1.out.size)
          clear hb HC' c1
          go_wp2_with (refine storeTr9o rfl _ _ rfl (w.heap.size + 1) _ B k cap' rfl rfl (by rfl) HY1.out ?_; intro v1 hx hB ho; refine StopS.out ?_)
          refine ⟨?_⟩
          have HB2 := Lib.hid (HB1.out.trans (hB.out _ (by omega)))
          have HL := Lib.hid (show CBx w A m cap l B k cap' l' v1 from ⟨HB2.out, (ho.out _ (by omega)).trans HX1.out, hx.out, HLm.out.below HB2.out (Nat.le_refl _), HLk.out.below HB2.out (Nat.le_refl _), HT.out.call HB2.out⟩)
          clear HX1 HY1 HB1 HB2 hx hB ho HLm HLk HT
          have c0 : v1.cell? ⟨w.heap.size, 0, none⟩ = some (.slice A m cap) := HL.out.t1.get 0 rfl
          go_wp2_with fail
          refine (HO.out _ HL.out.n1 HL.out.tabs.tab).mono ?_
          rintro e u2 ⟨rfl, hb⟩
          replace HL := Lib.hid (HL.out.call hb)
          clear hb c0
          go_wp2_with (refine storeF9n rfl _ _ rfl u2 ⟨F1, op1, fa1, pr1, wh1⟩ rfl rfl rfl ?_; intro u3 hx hN; refine StopS.out ?_)
          refine ⟨?_⟩
          replace HL := Lib.hid (CBx.step HL.out hN.out)
          have HF := Lib.hid hx.out
          clear hx hN
          have c1 : u3.cell? ⟨w.heap.size + 1, 0, none⟩ = some (.slice B k cap') := HL.out.t2.get 0 rfl
          go_wp2_with fail
          refine (HO'.out _ HL.out.n2 HL.out.tabs.tab).mono ?_
          rintro e u4 ⟨rfl, hb⟩
          replace HL := Lib.hid (HL.out.call hb)
          replace HF := Lib.hid (HF.out.below hb HF.out.lt)
          clear hb c1
          go_wp2_with (refine storeF9n rfl _ _ rfl u4 ⟨F2, op2, fa2, pr2, wh2⟩ rfl rfl rfl ?_; intro u5 hx hN; refine StopS.out ?_)
          refine ⟨?_⟩
          replace HL := Lib.hid (CBx.step HL.out hN.out)
          replace HF := Lib.hid (HF.out.below hN.out HF.out.lt)
          have HE := Lib.hid hx.out
          clear hx hN
          go_wp2_with fail
          refine wp_region_held_drew (S := fun u => CBx w A m cap l B k cap' l' u ∧ BoxF u u2.heap.size ⟨F1, op1, fa1, pr1, wh1⟩ ∧ BoxF u u4.heap.size ⟨F2, op2, fa2, pr2, wh2⟩) (by kernel_rfl) (show _ from ⟨HL.out.call (Below.refl _ _).drew, HF.out.drew, HE.out.drew⟩) (fun hS => ?_)
          clear HL HF HE
          generalize World.drew _ = y0 at hS ⊢
          refine takeAt 0 28 (.int .i64 0) rfl rfl (by kernel_rfl) (by kernel_rfl) (by kernel_rfl) (fun _ _ _ h => h) (yields (by rfl) (fun w => by kernel_rfl)) hS ?_
          simp only [Act.put, List.setIfInBounds_toArray, List.set_cons_zero, List.set_cons_succ]
          refine takeAt 1 29 (.bool false) rfl rfl (by kernel_rfl) (by kernel_rfl) (by kernel_rfl) (fun _ _ _ h => h) (yields (by rfl) (fun w => by kernel_rfl)) hS ?_
          simp only [Act.put, List.setIfInBounds_toArray, List.set_cons_zero, List.set_cons_succ]
          refine takeAt 2 30 (.bool false) rfl rfl (by kernel_rfl) (by kernel_rfl) (by kernel_rfl) (fun _ _ _ h => h) (yields (by rfl) (fun w => by kernel_rfl)) hS ?_
          simp only [Act.put, List.setIfInBounds_toArray, List.set_cons_zero, List.set_cons_succ]
          refine takeAt 3 31 (.int .i64 0) rfl rfl (by kernel_rfl) (by kernel_rfl) (by kernel_rfl) (fun _ _ _ h => h) (yields (by rfl) (fun w => by kernel_rfl)) hS ?_
          simp only [Act.put, List.setIfInBounds_toArray, List.set_cons_zero, List.set_cons_succ]
          refine takeAt 4 32 (.bool false) rfl rfl (by kernel_rfl) (by kernel_rfl) (by kernel_rfl) (fun _ _ _ h => h) (yields (by rfl) (fun w => by kernel_rfl)) hS ?_
          simp only [Act.put, List.setIfInBounds_toArray, List.set_cons_zero, List.set_cons_succ]
          refine takeAt 5 33 (.bool false) rfl rfl (by kernel_rfl) (by kernel_rfl) (by kernel_rfl) (fun _ _ _ h => h) (yields (by rfl) (fun w => by kernel_rfl)) hS ?_
          simp only [Act.put, List.setIfInBounds_toArray, List.set_cons_zero, List.set_cons_succ]
          refine takeAt 6 34 (.bool false) rfl rfl (by kernel_rfl) (by kernel_rfl) (by kernel_rfl) (fun _ _ _ h => h) (yields (by rfl) (fun w => by kernel_rfl)) hS ?_
          simp only [Act.put, List.setIfInBounds_toArray, List.set_cons_zero, List.set_cons_succ]
          refine takeAt 7 35 (.agg (trC A m cap)) rfl rfl (by kernel_rfl) (by kernel_rfl) (by kernel_rfl) (fun _ _ _ h => h) (loadT9_y w.heap.size A m cap (fun _ h => h.1.t1) rfl rfl (by rfl)) hS ?_
          simp only [Act.put, List.setIfInBounds_toArray, List.set_cons_zero, List.set_cons_succ]
          refine takeAt 9 37 ((.agg (trC B k cap'))) rfl rfl (by kernel_rfl) (by kernel_rfl) (by kernel_rfl) (fun _ _ _ h => h) (loadT9_y (w.heap.size + 1) B k cap' (fun _ h => h.1.t2) rfl rfl (by rfl)) hS ?_
          simp only [Act.put, List.setIfInBounds_toArray, List.set_cons_zero, List.set_cons_succ]
          refine callAt 8 36 rfl rfl (by kernel_rfl) (by rfl) (by kernel_rfl) (HG.out _ hS.1.n1) ?_
          rintro e y1 ⟨rfl, hb⟩
          have hS := And.intro (hS.1.call hb) (And.intro (hS.2.1.below hb hS.2.1.lt) (hS.2.2.below hb hS.2.2.lt))
          clear hb
          refine ⟨_, rfl, hS, ?_⟩
          simp only [Act.put, List.setIfInBounds_toArray, List.set_cons_zero, List.set_cons_succ]
          refine callAt 10 38 rfl rfl (by kernel_rfl) (by rfl) (by kernel_rfl) (HG'.out _ hS.1.n2) ?_
          rintro e y1 ⟨rfl, hb⟩
          have hS := And.intro (hS.1.call hb) (And.intro (hS.2.1.below hb hS.2.1.lt) (hS.2.2.below hb hS.2.2.lt))
          clear hb
          refine ⟨_, rfl, hS, ?_⟩
          simp only [Act.put, List.setIfInBounds_toArray, List.set_cons_zero, List.set_cons_succ]
          refine takeAt 11 39 (.int .i64 ((ga : Int) + (gb : Int))) rfl rfl (by kernel_rfl) (by kernel_rfl) (by kernel_rfl) (fun _ _ _ h => h) (add9_y (ga : Int) (gb : Int) (by omega) (by omega) rfl rfl rfl (by rfl)) hS ?_
          simp only [Act.put, List.setIfInBounds_toArray, List.set_cons_zero, List.set_cons_succ]
          refine takeAt 12 40 (.bool false) rfl rfl (by kernel_rfl) (by kernel_rfl) (by kernel_rfl) (fun _ _ _ h => h) (gtr9_y ((ga : Int) + (gb : Int)) 0 false (by simp; omega) rfl rfl rfl (by rfl)) hS ?_
          simp only [Act.put, List.setIfInBounds_toArray, List.set_cons_zero, List.set_cons_succ]
          refine takeAt 13 41 (.bool false) rfl rfl (by kernel_rfl) (by kernel_rfl) (by kernel_rfl) (fun _ _ _ h => h) (yields (by rfl) (fun w => by kernel_rfl)) hS ?_
          simp only [Act.put, List.setIfInBounds_toArray, List.set_cons_zero, List.set_cons_succ]
          refine takeAt 14 42 (.bool false) rfl rfl (by kernel_rfl) (by kernel_rfl) (by kernel_rfl) (fun _ _ _ h => h) (yields (by rfl) (fun w => by kernel_rfl)) hS ?_
          simp only [Act.put, List.setIfInBounds_toArray, List.set_cons_zero, List.set_cons_succ]
          refine takeAt 15 43 (.agg (trC A m cap)) rfl rfl (by kernel_rfl) (by kernel_rfl) (by kernel_rfl) (fun _ _ _ h => h) (loadT9_y w.heap.size A m cap (fun _ h => h.1.t1) rfl rfl (by rfl)) hS ?_
          simp only [Act.put, List.setIfInBounds_toArray, List.set_cons_zero, List.set_cons_succ]
          refine takeAt 17 45 ((.agg (trC B k cap'))) rfl rfl (by kernel_rfl) (by kernel_rfl) (by kernel_rfl) (fun _ _ _ h => h) (loadT9_y (w.heap.size + 1) B k cap' (fun _ h => h.1.t2) rfl rfl (by rfl)) hS ?_
          simp only [Act.put, List.setIfInBounds_toArray, List.set_cons_zero, List.set_cons_succ]
          refine callAt 16 44 rfl rfl (by kernel_rfl) (by rfl) (by kernel_rfl) (HD.out _ hS.1.n1) ?_
          rintro e y1 ⟨rfl, hb⟩
          have hS := And.intro (hS.1.call hb) (And.intro (hS.2.1.below hb hS.2.1.lt) (hS.2.2.below hb hS.2.2.lt))
          clear hb
          refine ⟨_, rfl, hS, ?_⟩
          simp only [Act.put, List.setIfInBounds_toArray, List.set_cons_zero, List.set_cons_succ]
          refine callAt 18 46 rfl rfl (by kernel_rfl) (by rfl) (by kernel_rfl) (HD'.out _ hS.1.n2) ?_
          rintro e y1 ⟨rfl, hb⟩
          have hS := And.intro (hS.1.call hb) (And.intro (hS.2.1.below hb hS.2.1.lt) (hS.2.2.below hb hS.2.2.lt))
          clear hb
          refine ⟨_, rfl, hS, ?_⟩
          simp only [Act.put, List.setIfInBounds_toArray, List.set_cons_zero, List.set_cons_succ]
          refine takeAt 19 47 (.int .i64 (max (da : Int) (db : Int))) rfl rfl (by kernel_rfl) (by kernel_rfl) (by kernel_rfl) (fun _ _ _ h => h) (maxc_y rfl rfl rfl rfl (by rfl)) hS ?_
          simp only [Act.put, List.setIfInBounds_toArray, List.set_cons_zero, List.set_cons_succ]
          refine takeAt 20 48 (.bool false) rfl rfl (by kernel_rfl) (by kernel_rfl) (by kernel_rfl) (fun _ _ _ h => h) (geqc_y false (by simp; omega) rfl rfl rfl (by rfl)) hS ?_
          simp only [Act.put, List.setIfInBounds_toArray, List.set_cons_zero, List.set_cons_succ]
          refine takeAt 21 49 (.bool false) rfl rfl (by kernel_rfl) (by kernel_rfl) (by kernel_rfl) (fun _ _ _ h => h) (yields (by rfl) (fun w => by kernel_rfl)) hS ?_
          simp only [Act.put, List.setIfInBounds_toArray, List.set_cons_zero, List.set_cons_succ]
          refine wpAnyH_done (by kernel_rfl) ?_ _
          have HL := Lib.hid hS.1
          have HF := Lib.hid hS.2.1
          have HE := Lib.hid hS.2.2
          clear hS
          have c0 : _ = some (Value.slice A m cap) := (HL.out.t1).get 0 rfl
          have c1 : _ = some (Value.slice B k cap') := (HL.out.t2).get 0 rfl
          go_wp2_with fail
          refine (Ast.join_any A m cap l B k cap' l' 8 _ (by omega) (by omega) HM.out HM'.out HL.out.n1 HL.out.n2).mono ?_
          rintro e p2 hres
          obtain ⟨X, cp, rfl, hTT, hb⟩ := tree_res hres (by omega)
          have HN := Lib.hid hTT.nodes
          replace HL := Lib.hid (HL.out.call hb)
          replace HF := Lib.hid (HF.out.below hb HF.out.lt)
          replace HE := Lib.hid (HE.out.below hb HE.out.lt)
          clear hb hres hTT c0 c1
          go_wp2_with fail
          refine (HJ.out X cp _ HN.out HL.out.tabs.tab).mono ?_
          rintro e y2 ⟨rfl, hb⟩
          replace HL := Lib.hid (HL.out.call hb)
          replace HF := Lib.hid (HF.out.below hb HF.out.lt)
          replace HE := Lib.hid (HE.out.below hb HE.out.lt)
          clear hb HN
          go_wp2_with (refine storeF9n rfl _ _ rfl y2 ⟨FC, op1 && op2, fa1 || (fa2 && z), P, false⟩ rfl rfl rfl ?_; intro x2 hx hN; refine StopS.out ?_)
          refine ⟨?_⟩
          have hb := hN.out
          replace HL := Lib.hid (CBx.step HL.out hN.out)
          replace HF := Lib.hid (HF.out.below hb HF.out.lt)
          replace HE := Lib.hid (HE.out.below hb HE.out.lt)
          have HQ2 := Lib.hid hx.out
          clear hx hN hb
          have c0 : _ = some (Value.slice A m cap) := (HL.out.t1).get 0 rfl
          have c1 : _ = some (Value.slice B k cap') := (HL.out.t2).get 0 rfl
          go_wp2_with fail
          refine (Ast.join_any A m cap l B k cap' l' 9 _ (by omega) (by omega) HM.out HM'.out HL.out.n1 HL.out.n2).mono ?_
          rintro e p3 hres
          obtain ⟨X, cp, rfl, hTT, hb⟩ := tree_res hres (by omega)
          have HN := Lib.hid hTT.nodes
          replace HL := Lib.hid (HL.out.call hb)
          replace HF := Lib.hid (HF.out.below hb HF.out.lt)
          replace HE := Lib.hid (HE.out.below hb HE.out.lt)
          replace HQ2 := Lib.hid (HQ2.out.below hb HQ2.out.lt)
          clear hb hres hTT c0 c1
          go_wp2_with fail
          refine (HI.out X cp _ HN.out HL.out.tabs.tab).mono ?_
          rintro e y3 ⟨rfl, hb⟩
          replace HL := Lib.hid (HL.out.call hb)
          replace HF := Lib.hid (HF.out.below hb HF.out.lt)
          replace HE := Lib.hid (HE.out.below hb HE.out.lt)
          replace HQ2 := Lib.hid (HQ2.out.below hb HQ2.out.lt)
          clear hb HN
          go_wp2_with (refine storeF9n rfl _ _ rfl y3 ⟨F1 ||| F2, op1 || op2, fa1 && fa2, ByteArray.empty, false⟩ rfl rfl rfl ?_; intro x3 hx hN; refine StopS.out ?_)
          refine ⟨?_⟩
          have hb := hN.out
          replace HL := Lib.hid (CBx.step HL.out hN.out)
          replace HF := Lib.hid (HF.out.below hb HF.out.lt)
          replace HE := Lib.hid (HE.out.below hb HE.out.lt)
          replace HQ2 := Lib.hid (HQ2.out.below hb HQ2.out.lt)
          have HQ3 := Lib.hid hx.out
          clear hx hN hb
          cases op1
          · have e : F1 = FC := hFC.out.symm
            clear hFC
            subst e
            have hS : (fun u => CBx w A m cap l B k cap' l' u ∧ BoxF u u2.heap.size ⟨F1, false, fa1, pr1, wh1⟩ ∧ BoxF u u4.heap.size ⟨F2, op2, fa2, pr2, wh2⟩) x3 := ⟨HL.out, HF.out, HE.out⟩
            go_wp2_with (refine lineY (S := fun u => CBx w A m cap l B k cap' l' u ∧ BoxF u u2.heap.size ⟨F1, false, fa1, pr1, wh1⟩ ∧ BoxF u u4.heap.size ⟨F2, op2, fa2, pr2, wh2⟩) (setV F1) (loadSF_y u2.heap.size ⟨F1, false, fa1, pr1, wh1⟩ (fun _ h => h.2.1) rfl rfl (by rfl)) hS ?_; refine StopS.out ?_)
            refine ⟨?_⟩
            try simp only [Act.put, List.setIfInBounds_toArray, List.set_cons_zero, List.set_cons_succ]
            clear hS
            go_wp2_with (refine storeSet9n rfl _ _ rfl x3 F1 rfl rfl rfl ?_; intro x4 hx hN; refine StopS.out ?_)
            refine ⟨?_⟩
            have HB := Lib.hid hN.out
            have HS := Lib.hid hx.out
            clear hx hN
            have f4 : x4.cell? ⟨u2.heap.size, 4, none⟩ = some (.bool false) := BoxF.c4 (HF.out.below HB.out HF.out.lt)
            have hb := HB.out
            replace HL := Lib.hid (HL.out.call hb)
            replace HF := Lib.hid (HF.out.below hb HF.out.lt)
            replace HE := Lib.hid (HE.out.below hb HE.out.lt)
            replace HQ2 := Lib.hid (HQ2.out.below hb HQ2.out.lt)
            replace HQ3 := Lib.hid (HQ3.out.below hb HQ3.out.lt)
            clear hb HB
            go_wp2_with fail
            cases fa1
            · simp only [List.append_eq, List.cons_append, List.nil_append]
              refine wp_region_held_drew (S := fun u => CBx w A m cap l B k cap' l' u ∧ BoxF u u2.heap.size ⟨F1, false, false, pr1, wh1⟩ ∧ BoxF u u4.heap.size ⟨F2, op2, fa2, pr2, wh2⟩ ∧ BoxF u y2.heap.size ⟨F1, false && op2, false || (fa2 && z), P, false⟩ ∧ BoxF u y3.heap.size ⟨F1 ||| F2, false || op2, false && fa2, ByteArray.empty, false⟩ ∧ BoxV 29 u x3.heap.size (setC F1)) (by kernel_rfl) (show _ from ⟨HL.out.call (Below.refl _ _).drew, HF.out.drew, HE.out.drew, HQ2.out.drew, HQ3.out.drew, HS.out.drew⟩) (fun hS => ?_)
              clear HL HF HE HQ2 HQ3 HS
              generalize World.drew _ = y0 at hS ⊢
              refine takeAt 0 82 (.int .i64 0) rfl rfl (by kernel_rfl) (by kernel_rfl) (by kernel_rfl) (fun _ _ _ h => h) (yields (by rfl) (fun w => by kernel_rfl)) hS ?_
              simp only [Act.put, List.setIfInBounds_toArray, List.set_cons_zero, List.set_cons_succ]
              refine takeAt 1 83 (.bool true) rfl rfl (by kernel_rfl) (by kernel_rfl) (by kernel_rfl) (fun _ _ _ h => h) (eqlE9_y true (by rfl) rfl rfl rfl (by rfl)) hS ?_
              simp only [Act.put, List.setIfInBounds_toArray, List.set_cons_zero, List.set_cons_succ]
              refine takeAt 2 84 (.bool true) rfl rfl (by kernel_rfl) (by kernel_rfl) (by kernel_rfl) (fun _ _ _ h => h) (yields (by rfl) (fun w => by kernel_rfl)) hS ?_
              simp only [Act.put, List.setIfInBounds_toArray, List.set_cons_zero, List.set_cons_succ]
              refine takeAt 3 85 (.int .i64 0) rfl rfl (by kernel_rfl) (by kernel_rfl) (by kernel_rfl) (fun _ _ _ h => h) (yields (by rfl) (fun w => by kernel_rfl)) hS ?_
              simp only [Act.put, List.setIfInBounds_toArray, List.set_cons_zero, List.set_cons_succ]
              refine takeAt 4 86 (.bool true) rfl rfl (by kernel_rfl) (by kernel_rfl) (by kernel_rfl) (fun _ _ _ h => h) (eqlE9_y true (by rfl) rfl rfl rfl (by rfl)) hS ?_
              simp only [Act.put, List.setIfInBounds_toArray, List.set_cons_zero, List.set_cons_succ]
              refine takeAt 5 87 (.bool true) rfl rfl (by kernel_rfl) (by kernel_rfl) (by kernel_rfl) (fun _ _ _ h => h) (yields (by rfl) (fun w => by kernel_rfl)) hS ?_
              simp only [Act.put, List.setIfInBounds_toArray, List.set_cons_zero, List.set_cons_succ]
              refine takeAt 6 88 (.bool true) rfl rfl (by kernel_rfl) (by kernel_rfl) (by kernel_rfl) (fun _ _ _ h => h) (yields (by rfl) (fun w => by kernel_rfl)) hS ?_
              simp only [Act.put, List.setIfInBounds_toArray, List.set_cons_zero, List.set_cons_succ]
              refine takeAt 7 89 (.pointer (some ⟨y2.heap.size, 0, none⟩)) rfl rfl (by kernel_rfl) (by kernel_rfl) (by kernel_rfl) (fun _ _ _ h => h) (yields (by rfl) (fun w => by kernel_rfl)) hS ?_
              simp only [Act.put, List.setIfInBounds_toArray, List.set_cons_zero, List.set_cons_succ]
              refine takeAt 8 90 (setV F1) rfl rfl (by kernel_rfl) (by kernel_rfl) (by kernel_rfl) (fun _ _ _ h => h) (loadSF_y y2.heap.size ⟨F1, false && op2, false || (fa2 && z), P, false⟩ (fun _ h => h.2.2.2.1) rfl rfl (by rfl)) hS ?_
              simp only [Act.put, List.setIfInBounds_toArray, List.set_cons_zero, List.set_cons_succ]
              refine takeAt 9 91 (setV F1) rfl rfl (by kernel_rfl) (by kernel_rfl) (by kernel_rfl) (fun _ _ _ h => h) (loadSc_y x3.heap.size F1 (fun _ h => h.2.2.2.2.2) rfl rfl (by rfl)) hS ?_
              simp only [Act.put, List.setIfInBounds_toArray, List.set_cons_zero, List.set_cons_succ]
              refine takeAt 10 92 (.bool true) rfl rfl (by kernel_rfl) (by kernel_rfl) (by kernel_rfl) (fun _ _ _ h => h) (eqSetc_y F1 rfl rfl rfl (by rfl)) hS ?_
              simp only [Act.put, List.setIfInBounds_toArray, List.set_cons_zero, List.set_cons_succ]
              refine takeAt 11 93 (.bool true) rfl rfl (by kernel_rfl) (by kernel_rfl) (by kernel_rfl) (fun _ _ _ h => h) (yields (by rfl) (fun w => by kernel_rfl)) hS ?_
              simp only [Act.put, List.setIfInBounds_toArray, List.set_cons_zero, List.set_cons_succ]
              refine takeAt 12 94 (.bool true) rfl rfl (by kernel_rfl) (by kernel_rfl) (by kernel_rfl) (fun _ _ _ h => h) (yields (by rfl) (fun w => by kernel_rfl)) hS ?_
              simp only [Act.put, List.setIfInBounds_toArray, List.set_cons_zero, List.set_cons_succ]
              refine takeAt 13 95 (.pointer (some ⟨y2.heap.size, 4, none⟩)) rfl rfl (by kernel_rfl) (by kernel_rfl) (by kernel_rfl) (fun _ _ _ h => h) (yields (by rfl) (fun w => by kernel_rfl)) hS ?_
              simp only [Act.put, List.setIfInBounds_toArray, List.set_cons_zero, List.set_cons_succ]
              refine takeAt 14 96 (.bool false) rfl rfl (by kernel_rfl) (by kernel_rfl) (by kernel_rfl) (fun _ _ _ h => h) (loadB9_y y2.heap.size 4 false (fun _ h => BoxF.c4 h.2.2.2.1) rfl rfl (by rfl)) hS ?_
              simp only [Act.put, List.setIfInBounds_toArray, List.set_cons_zero, List.set_cons_succ]
              refine takeAt 15 97 (.pointer (some ⟨u2.heap.size, 4, none⟩)) rfl rfl (by kernel_rfl) (by kernel_rfl) (by kernel_rfl) (fun _ _ _ h => h) (yields (by rfl) (fun w => by kernel_rfl)) hS ?_
              simp only [Act.put, List.setIfInBounds_toArray, List.set_cons_zero, List.set_cons_succ]
              refine takeAt 16 98 (.bool false) rfl rfl (by kernel_rfl) (by kernel_rfl) (by kernel_rfl) (fun _ _ _ h => h) (loadB9_y u2.heap.size 4 false (fun _ h => BoxF.c4 h.2.1) rfl rfl (by rfl)) hS ?_
              simp only [Act.put, List.setIfInBounds_toArray, List.set_cons_zero, List.set_cons_succ]
              refine takeAt 17 99 (.bool false) rfl rfl (by kernel_rfl) (by kernel_rfl) (by kernel_rfl) (fun _ _ _ h => h) (yields (by rfl) (fun w => by kernel_rfl)) hS ?_
              simp only [Act.put, List.setIfInBounds_toArray, List.set_cons_zero, List.set_cons_succ]
              refine takeAt 18 100 (undef) rfl rfl (by kernel_rfl) (by kernel_rfl) (by kernel_rfl) (fun _ _ _ h => h) (skipped (by rfl)) hS ?_
              simp only [Act.put, List.setIfInBounds_toArray, List.set_cons_zero, List.set_cons_succ]
              refine takeAt 19 101 (undef) rfl rfl (by kernel_rfl) (by kernel_rfl) (by kernel_rfl) (fun _ _ _ h => h) (skipped (by rfl)) hS ?_
              simp only [Act.put, List.setIfInBounds_toArray, List.set_cons_zero, List.set_cons_succ]
              refine takeAt 20 102 (.bool false) rfl rfl (by kernel_rfl) (by kernel_rfl) (by kernel_rfl) (fun _ _ _ h => h) (yields (by rfl) (fun w => by kernel_rfl)) hS ?_
              simp only [Act.put, List.setIfInBounds_toArray, List.set_cons_zero, List.set_cons_succ]
              refine takeAt 21 103 (.bool true) rfl rfl (by kernel_rfl) (by kernel_rfl) (by kernel_rfl) (fun _ _ _ h => h) (eqB9_y false rfl rfl rfl (by rfl)) hS ?_
              simp only [Act.put, List.setIfInBounds_toArray, List.set_cons_zero, List.set_cons_succ]
              refine takeAt 22 104 (.bool true) rfl rfl (by kernel_rfl) (by kernel_rfl) (by kernel_rfl) (fun _ _ _ h => h) (yields (by rfl) (fun w => by kernel_rfl)) hS ?_
              simp only [Act.put, List.setIfInBounds_toArray, List.set_cons_zero, List.set_cons_succ]
              refine takeAt 23 105 (.bool true) rfl rfl (by kernel_rfl) (by kernel_rfl) (by kernel_rfl) (fun _ _ _ h => h) (yields (by rfl) (fun w => by kernel_rfl)) hS ?_
              simp only [Act.put, List.setIfInBounds_toArray, List.set_cons_zero, List.set_cons_succ]
              refine takeAt 24 106 (.pointer (some ⟨y3.heap.size, 0, none⟩)) rfl rfl (by kernel_rfl) (by kernel_rfl) (by kernel_rfl) (fun _ _ _ h => h) (yields (by rfl) (fun w => by kernel_rfl)) hS ?_
              simp only [Act.put, List.setIfInBounds_toArray, List.set_cons_zero, List.set_cons_succ]
              as_aux_lemma =>
                refine takeAt 25 107 (setV (F1 ||| F2)) rfl rfl (by kernel_rfl) (by kernel_rfl) (by kernel_rfl) (fun _ _ _ h => h) (loadSF_y y3.heap.size ⟨F1 ||| F2, false || op2, false && fa2, ByteArray.empty, false⟩ (fun _ h => h.2.2.2.2.1) rfl rfl (by rfl)) hS ?_
                simp only [Act.put, List.setIfInBounds_toArray, List.set_cons_zero, List.set_cons_succ]
                refine takeAt 26 108 (.pointer (some ⟨u2.heap.size, 0, none⟩)) rfl rfl (by kernel_rfl) (by kernel_rfl) (by kernel_rfl) (fun _ _ _ h => h) (yields (by rfl) (fun w => by kernel_rfl)) hS ?_
                simp only [Act.put, List.setIfInBounds_toArray, List.set_cons_zero, List.set_cons_succ]
                refine takeAt 27 109 (setV F1) rfl rfl (by kernel_rfl) (by kernel_rfl) (by kernel_rfl) (fun _ _ _ h => h) (loadSF_y u2.heap.size ⟨F1, false, false, pr1, wh1⟩ (fun _ h => h.2.1) rfl rfl (by rfl)) hS ?_
                simp only [Act.put, List.setIfInBounds_toArray, List.set_cons_zero, List.set_cons_succ]
                refine takeAt 28 110 (.pointer (some ⟨u4.heap.size, 0, none⟩)) rfl rfl (by kernel_rfl) (by kernel_rfl) (by kernel_rfl) (fun _ _ _ h => h) (yields (by rfl) (fun w => by kernel_rfl)) hS ?_
                simp only [Act.put, List.setIfInBounds_toArray, List.set_cons_zero, List.set_cons_succ]
                refine takeAt 29 111 (setV F2) rfl rfl (by kernel_rfl) (by kernel_rfl) (by kernel_rfl) (fun _ _ _ h => h) (loadSF_y u4.heap.size ⟨F2, op2, fa2, pr2, wh2⟩ (fun _ h => h.2.2.1) rfl rfl (by rfl)) hS ?_
                simp only [Act.put, List.setIfInBounds_toArray, List.set_cons_zero, List.set_cons_succ]
                refine callAt 30 112 rfl rfl (by kernel_rfl) (by rfl) (by kernel_rfl) (HOr.out _) ?_
                rintro e v1 ⟨rfl, hb⟩
                have hS := And.intro (hS.1.call hb) (And.intro (hS.2.1.below hb hS.2.1.lt) (And.intro (hS.2.2.1.below hb hS.2.2.1.lt) (And.intro (hS.2.2.2.1.below hb hS.2.2.2.1.lt) (And.intro (hS.2.2.2.2.1.below hb hS.2.2.2.2.1.lt) (hS.2.2.2.2.2.below hb hS.2.2.2.2.2.lt)))))
                clear hb
                refine ⟨_, rfl, hS, ?_⟩
                simp only [Act.put, List.setIfInBounds_toArray, List.set_cons_zero, List.set_cons_succ]
                refine takeAt 31 113 (.bool true) rfl rfl (by kernel_rfl) (by kernel_rfl) (by kernel_rfl) (fun _ _ _ h => h) (eqSetc_y (F1 ||| F2) rfl rfl rfl (by rfl)) hS ?_
                simp only [Act.put, List.setIfInBounds_toArray, List.set_cons_zero, List.set_cons_succ]
                refine takeAt 32 114 (.bool true) rfl rfl (by kernel_rfl) (by kernel_rfl) (by kernel_rfl) (fun _ _ _ h => h) (yields (by rfl) (fun w => by kernel_rfl)) hS ?_
                simp only [Act.put, List.setIfInBounds_toArray, List.set_cons_zero, List.set_cons_succ]
                refine takeAt 33 115 (.bool true) rfl rfl (by kernel_rfl) (by kernel_rfl) (by kernel_rfl) (fun _ _ _ h => h) (yields (by rfl) (fun w => by kernel_rfl)) hS ?_
                simp only [Act.put, List.setIfInBounds_toArray, List.set_cons_zero, List.set_cons_succ]
                refine takeAt 34 116 (.pointer (some ⟨y3.heap.size, 4, none⟩)) rfl rfl (by kernel_rfl) (by kernel_rfl) (by kernel_rfl) (fun _ _ _ h => h) (yields (by rfl) (fun w => by kernel_rfl)) hS ?_
                simp only [Act.put, List.setIfInBounds_toArray, List.set_cons_zero, List.set_cons_succ]
                refine takeAt 35 117 (.bool op2) rfl rfl (by kernel_rfl) (by kernel_rfl) (by kernel_rfl) (fun _ _ _ h => h) (loadB9_y y3.heap.size 4 op2 (fun _ h => BoxF.c4 h.2.2.2.2.1) rfl rfl (by rfl)) hS ?_
                simp only [Act.put, List.setIfInBounds_toArray, List.set_cons_zero, List.set_cons_succ]
                refine takeAt 36 118 (.pointer (some ⟨u2.heap.size, 4, none⟩)) rfl rfl (by kernel_rfl) (by kernel_rfl) (by kernel_rfl) (fun _ _ _ h => h) (yields (by rfl) (fun w => by kernel_rfl)) hS ?_
                simp only [Act.put, List.setIfInBounds_toArray, List.set_cons_zero, List.set_cons_succ]
                refine takeAt 37 119 (.bool false) rfl rfl (by kernel_rfl) (by kernel_rfl) (by kernel_rfl) (fun _ _ _ h => h) (loadB9_y u2.heap.size 4 false (fun _ h => BoxF.c4 h.2.1) rfl rfl (by rfl)) hS ?_
                simp only [Act.put, List.setIfInBounds_toArray, List.set_cons_zero, List.set_cons_succ]
                refine takeAt 38 120 (.bool false) rfl rfl (by kernel_rfl) (by kernel_rfl) (by kernel_rfl) (fun _ _ _ h => h) (yields (by rfl) (fun w => by kernel_rfl)) hS ?_
                simp only [Act.put, List.setIfInBounds_toArray, List.set_cons_zero, List.set_cons_succ]
                refine takeAt 39 121 (.pointer (some ⟨u4.heap.size, 4, none⟩)) rfl rfl (by kernel_rfl) (by kernel_rfl) (by kernel_rfl) (fun _ _ _ h => h) (yields (by rfl) (fun w => by kernel_rfl)) hS ?_
                simp only [Act.put, List.setIfInBounds_toArray, List.set_cons_zero, List.set_cons_succ]
                refine takeAt 40 122 (.bool op2) rfl rfl (by kernel_rfl) (by kernel_rfl) (by kernel_rfl) (fun _ _ _ h => h) (loadB9_y u4.heap.size 4 op2 (fun _ h => BoxF.c4 h.2.2.1) rfl rfl (by rfl)) hS ?_
                simp only [Act.put, List.setIfInBounds_toArray, List.set_cons_zero, List.set_cons_succ]
                refine takeAt 41 123 (.bool op2) rfl rfl (by kernel_rfl) (by kernel_rfl) (by kernel_rfl) (fun _ _ _ h => h) (yields (by rfl) (fun w => by kernel_rfl)) hS ?_
                simp only [Act.put, List.setIfInBounds_toArray, List.set_cons_zero, List.set_cons_succ]
                refine takeAt 42 124 (.bool true) rfl rfl (by kernel_rfl) (by kernel_rfl) (by kernel_rfl) (fun _ _ _ h => h) (eqB9_y op2 rfl rfl rfl (by rfl)) hS ?_
                simp only [Act.put, List.setIfInBounds_toArray, List.set_cons_zero, List.set_cons_succ]
                refine takeAt 43 125 (.bool true) rfl rfl (by kernel_rfl) (by kernel_rfl) (by kernel_rfl) (fun _ _ _ h => h) (yields (by rfl) (fun w => by kernel_rfl)) hS ?_
                simp only [Act.put, List.setIfInBounds_toArray, List.set_cons_zero, List.set_cons_succ]
                refine takeAt 44 126 (.bool true) rfl rfl (by kernel_rfl) (by kernel_rfl) (by kernel_rfl) (fun _ _ _ h => h) (yields (by rfl) (fun w => by kernel_rfl)) hS ?_
                simp only [Act.put, List.setIfInBounds_toArray, List.set_cons_zero, List.set_cons_succ]
                refine takeAt 45 127 (.pointer (some ⟨y3.heap.size, 6, none⟩)) rfl rfl (by kernel_rfl) (by kernel_rfl) (by kernel_rfl) (fun _ _ _ h => h) (yields (by rfl) (fun w => by kernel_rfl)) hS ?_
                simp only [Act.put, List.setIfInBounds_toArray, List.set_cons_zero, List.set_cons_succ]
                refine takeAt 46 128 (.string ByteArray.empty) rfl rfl (by kernel_rfl) (by kernel_rfl) (by kernel_rfl) (fun _ _ _ h => h) (loadP9_y y3.heap.size 6 ByteArray.empty (fun _ h => BoxF.c6 h.2.2.2.2.1) rfl rfl (by rfl)) hS ?_
                simp only [Act.put, List.setIfInBounds_toArray, List.set_cons_zero, List.set_cons_succ]
                refine takeAt 47 129 (.bool true) rfl rfl (by kernel_rfl) (by kernel_rfl) (by kernel_rfl) (fun _ _ _ h => h) (eqE9_y ByteArray.empty true (by rfl) rfl rfl (by rfl)) hS ?_
                simp only [Act.put, List.setIfInBounds_toArray, List.set_cons_zero, List.set_cons_succ]
                refine takeAt 48 130 (.bool true) rfl rfl (by kernel_rfl) (by kernel_rfl) (by kernel_rfl) (fun _ _ _ h => h) (yields (by rfl) (fun w => by kernel_rfl)) hS ?_
                simp only [Act.put, List.setIfInBounds_toArray, List.set_cons_zero, List.set_cons_succ]
                refine takeAt 49 131 (.bool true) rfl rfl (by kernel_rfl) (by kernel_rfl) (by kernel_rfl) (fun _ _ _ h => h) (yields (by rfl) (fun w => by kernel_rfl)) hS ?_
                simp only [Act.put, List.setIfInBounds_toArray, List.set_cons_zero, List.set_cons_succ]
                refine takeAt 50 132 (.pointer (some ⟨u2.heap.size, 5, none⟩)) rfl rfl (by kernel_rfl) (by kernel_rfl) (by kernel_rfl) (fun _ _ _ h => h) (yields (by rfl) (fun w => by kernel_rfl)) hS ?_
                simp only [Act.put, List.setIfInBounds_toArray, List.set_cons_zero, List.set_cons_succ]
                as_aux_lemma =>
                  refine takeAt 51 133 (.bool false) rfl rfl (by kernel_rfl) (by kernel_rfl) (by kernel_rfl) (fun _ _ _ h => h) (loadB9_y u2.heap.size 5 false (fun _ h => BoxF.c5 h.2.1) rfl rfl (by rfl)) hS ?_
                  simp only [Act.put, List.setIfInBounds_toArray, List.set_cons_zero, List.set_cons_succ]
                  refine takeAt 52 134 (.bool true) rfl rfl (by kernel_rfl) (by kernel_rfl) (by kernel_rfl) (fun _ _ _ h => h) (yields (by rfl) (fun w => by kernel_rfl)) hS ?_
                  simp only [Act.put, List.setIfInBounds_toArray, List.set_cons_zero, List.set_cons_succ]
                  refine takeAt 53 135 (.bool true) rfl rfl (by kernel_rfl) (by kernel_rfl) (by kernel_rfl) (fun _ _ _ h => h) (yields (by rfl) (fun w => by kernel_rfl)) hS ?_
                  simp only [Act.put, List.setIfInBounds_toArray, List.set_cons_zero, List.set_cons_succ]
                  refine takeAt 54 136 (undef) rfl rfl (by kernel_rfl) (by kernel_rfl) (by kernel_rfl) (fun _ _ _ h => h) (skipped (by rfl)) hS ?_
                  simp only [Act.put, List.setIfInBounds_toArray, List.set_cons_zero, List.set_cons_succ]
                  refine takeAt 55 137 (undef) rfl rfl (by kernel_rfl) (by kernel_rfl) (by kernel_rfl) (fun _ _ _ h => h) (skipped (by rfl)) hS ?_
                  simp only [Act.put, List.setIfInBounds_toArray, List.set_cons_zero, List.set_cons_succ]
                  refine takeAt 56 138 (.bool true) rfl rfl (by kernel_rfl) (by kernel_rfl) (by kernel_rfl) (fun _ _ _ h => h) (yields (by rfl) (fun w => by kernel_rfl)) hS ?_
                  simp only [Act.put, List.setIfInBounds_toArray, List.set_cons_zero, List.set_cons_succ]
                  refine takeAt 57 139 (.bool true) rfl rfl (by kernel_rfl) (by kernel_rfl) (by kernel_rfl) (fun _ _ _ h => h) (yields (by rfl) (fun w => by kernel_rfl)) hS ?_
                  simp only [Act.put, List.setIfInBounds_toArray, List.set_cons_zero, List.set_cons_succ]
                  refine takeAt 58 140 (.bool true) rfl rfl (by kernel_rfl) (by kernel_rfl) (by kernel_rfl) (fun _ _ _ h => h) (yields (by rfl) (fun w => by kernel_rfl)) hS ?_
                  simp only [Act.put, List.setIfInBounds_toArray, List.set_cons_zero, List.set_cons_succ]
                  refine takeAt 59 141 (.pointer (some ⟨y3.heap.size, 5, none⟩)) rfl rfl (by kernel_rfl) (by kernel_rfl) (by kernel_rfl) (fun _ _ _ h => h) (yields (by rfl) (fun w => by kernel_rfl)) hS ?_
                  simp only [Act.put, List.setIfInBounds_toArray, List.set_cons_zero, List.set_cons_succ]
                  refine takeAt 60 142 (.bool false) rfl rfl (by kernel_rfl) (by kernel_rfl) (by kernel_rfl) (fun _ _ _ h => h) (loadB9_y y3.heap.size 5 false (fun _ h => BoxF.c5 h.2.2.2.2.1) rfl rfl (by rfl)) hS ?_
                  simp only [Act.put, List.setIfInBounds_toArray, List.set_cons_zero, List.set_cons_succ]
                  refine takeAt 61 143 (.pointer (some ⟨u2.heap.size, 5, none⟩)) rfl rfl (by kernel_rfl) (by kernel_rfl) (by kernel_rfl) (fun _ _ _ h => h) (yields (by rfl) (fun w => by kernel_rfl)) hS ?_
                  simp only [Act.put, List.setIfInBounds_toArray, List.set_cons_zero, List.set_cons_succ]
                  refine takeAt 62 144 (.bool false) rfl rfl (by kernel_rfl) (by kernel_rfl) (by kernel_rfl) (fun _ _ _ h => h) (loadB9_y u2.heap.size 5 false (fun _ h => BoxF.c5 h.2.1) rfl rfl (by rfl)) hS ?_
                  simp only [Act.put, List.setIfInBounds_toArray, List.set_cons_zero, List.set_cons_succ]
                  refine takeAt 63 145 (.bool false) rfl rfl (by kernel_rfl) (by kernel_rfl) (by kernel_rfl) (fun _ _ _ h => h) (yields (by rfl) (fun w => by kernel_rfl)) hS ?_
                  simp only [Act.put, List.setIfInBounds_toArray, List.set_cons_zero, List.set_cons_succ]
                  refine takeAt 64 146 (undef) rfl rfl (by kernel_rfl) (by kernel_rfl) (by kernel_rfl) (fun _ _ _ h => h) (skipped (by rfl)) hS ?_
                  simp only [Act.put, List.setIfInBounds_toArray, List.set_cons_zero, List.set_cons_succ]
                  refine takeAt 65 147 (undef) rfl rfl (by kernel_rfl) (by kernel_rfl) (by kernel_rfl) (fun _ _ _ h => h) (skipped (by rfl)) hS ?_
                  simp only [Act.put, List.setIfInBounds_toArray, List.set_cons_zero, List.set_cons_succ]
                  refine takeAt 66 148 (.bool false) rfl rfl (by kernel_rfl) (by kernel_rfl) (by kernel_rfl) (fun _ _ _ h => h) (yields (by rfl) (fun w => by kernel_rfl)) hS ?_
                  simp only [Act.put, List.setIfInBounds_toArray, List.set_cons_zero, List.set_cons_succ]
                  refine takeAt 67 149 (.bool true) rfl rfl (by kernel_rfl) (by kernel_rfl) (by kernel_rfl) (fun _ _ _ h => h) (eqB9_y false rfl rfl rfl (by rfl)) hS ?_
                  simp only [Act.put, List.setIfInBounds_toArray, List.set_cons_zero, List.set_cons_succ]
                  refine takeAt 68 150 (.bool true) rfl rfl (by kernel_rfl) (by kernel_rfl) (by kernel_rfl) (fun _ _ _ h => h) (yields (by rfl) (fun w => by kernel_rfl)) hS ?_
                  simp only [Act.put, List.setIfInBounds_toArray, List.set_cons_zero, List.set_cons_succ]
                  refine takeAt 69 151 (.bool true) rfl rfl (by kernel_rfl) (by kernel_rfl) (by kernel_rfl) (fun _ _ _ h => h) (yields (by rfl) (fun w => by kernel_rfl)) hS ?_
                  simp only [Act.put, List.setIfInBounds_toArray, List.set_cons_zero, List.set_cons_succ]
                  refine callAt 70 152 rfl rfl (by kernel_rfl) (by rfl) (by kernel_rfl) (HFix.out _ hS.1.tabs) ?_
                  rintro e v1 ⟨rfl, hb⟩
                  have hS := And.intro (hS.1.call hb) (And.intro (hS.2.1.below hb hS.2.1.lt) (And.intro (hS.2.2.1.below hb hS.2.2.1.lt) (And.intro (hS.2.2.2.1.below hb hS.2.2.2.1.lt) (And.intro (hS.2.2.2.2.1.below hb hS.2.2.2.2.1.lt) (hS.2.2.2.2.2.below hb hS.2.2.2.2.2.lt)))))
                  clear hb
                  refine ⟨_, rfl, hS, ?_⟩
                  simp only [Act.put, List.setIfInBounds_toArray, List.set_cons_zero, List.set_cons_succ]
                  refine takeAt 71 153 (.bool true) rfl rfl (by kernel_rfl) (by kernel_rfl) (by kernel_rfl) (fun _ _ _ h => h) (yields (by rfl) (fun w => by kernel_rfl)) hS ?_
                  simp only [Act.put, List.setIfInBounds_toArray, List.set_cons_zero, List.set_cons_succ]
                  refine takeAt 72 4 (.bool true) rfl rfl (by kernel_rfl) (by kernel_rfl) (by kernel_rfl) (fun _ _ _ h => h) (yields (by rfl) (fun w => by kernel_rfl)) hS ?_
                  simp only [Act.put, List.setIfInBounds_toArray, List.set_cons_zero, List.set_cons_succ]
                  refine wpAnyH_done (by kernel_rfl) ?_ _
                  have HZ := Lib.hid hS.1
                  clear hS
                  go_wp2
                  go_ret
                  exact ⟨rfl, HZ.out.below⟩
            · simp only [List.append_eq, List.cons_append, List.nil_append]
              refine wp_region_held_drew (S := fun u => CBx w A m cap l B k cap' l' u ∧ BoxF u u2.heap.size ⟨F1, false, true, pr1, wh1⟩ ∧ BoxF u u4.heap.size ⟨F2, op2, fa2, pr2, wh2⟩ ∧ BoxF u y2.heap.size ⟨F1, false && op2, true || (fa2 && z), P, false⟩ ∧ BoxF u y3.heap.size ⟨F1 ||| F2, false || op2, true && fa2, ByteArray.empty, false⟩ ∧ BoxV 29 u x3.heap.size (setC F1)) (by kernel_rfl) (show _ from ⟨HL.out.call (Below.refl _ _).drew, HF.out.drew, HE.out.drew, HQ2.out.drew, HQ3.out.drew, HS.out.drew⟩) (fun hS => ?_)
              clear HL HF HE HQ2 HQ3 HS
              generalize World.drew _ = y0 at hS ⊢
              refine takeAt 0 82 (.int .i64 0) rfl rfl (by kernel_rfl) (by kernel_rfl) (by kernel_rfl) (fun _ _ _ h => h) (yields (by rfl) (fun w => by kernel_rfl)) hS ?_
              simp only [Act.put, List.setIfInBounds_toArray, List.set_cons_zero, List.set_cons_succ]
              refine takeAt 1 83 (.bool true) rfl rfl (by kernel_rfl) (by kernel_rfl) (by kernel_rfl) (fun _ _ _ h => h) (eqlE9_y true (by rfl) rfl rfl rfl (by rfl)) hS ?_
              simp only [Act.put, List.setIfInBounds_toArray, List.set_cons_zero, List.set_cons_succ]
              refine takeAt 2 84 (.bool true) rfl rfl (by kernel_rfl) (by kernel_rfl) (by kernel_rfl) (fun _ _ _ h => h) (yields (by rfl) (fun w => by kernel_rfl)) hS ?_
              simp only [Act.put, List.setIfInBounds_toArray, List.set_cons_zero, List.set_cons_succ]
              refine takeAt 3 85 (.int .i64 0) rfl rfl (by kernel_rfl) (by kernel_rfl) (by kernel_rfl) (fun _ _ _ h => h) (yields (by rfl) (fun w => by kernel_rfl)) hS ?_
              simp only [Act.put, List.setIfInBounds_toArray, List.set_cons_zero, List.set_cons_succ]
              refine takeAt 4 86 (.bool true) rfl rfl (by kernel_rfl) (by kernel_rfl) (by kernel_rfl) (fun _ _ _ h => h) (eqlE9_y true (by rfl) rfl rfl rfl (by rfl)) hS ?_
              simp only [Act.put, List.setIfInBounds_toArray, List.set_cons_zero, List.set_cons_succ]
              refine takeAt 5 87 (.bool true) rfl rfl (by kernel_rfl) (by kernel_rfl) (by kernel_rfl) (fun _ _ _ h => h) (yields (by rfl) (fun w => by kernel_rfl)) hS ?_
              simp only [Act.put, List.setIfInBounds_toArray, List.set_cons_zero, List.set_cons_succ]
              refine takeAt 6 88 (.bool true) rfl rfl (by kernel_rfl) (by kernel_rfl) (by kernel_rfl) (fun _ _ _ h => h) (yields (by rfl) (fun w => by kernel_rfl)) hS ?_
              simp only [Act.put, List.setIfInBounds_toArray, List.set_cons_zero, List.set_cons_succ]
              refine takeAt 7 89 (.pointer (some ⟨y2.heap.size, 0, none⟩)) rfl rfl (by kernel_rfl) (by kernel_rfl) (by kernel_rfl) (fun _ _ _ h => h) (yields (by rfl) (fun w => by kernel_rfl)) hS ?_
              simp only [Act.put, List.setIfInBounds_toArray, List.set_cons_zero, List.set_cons_succ]
              refine takeAt 8 90 (setV F1) rfl rfl (by kernel_rfl) (by kernel_rfl) (by kernel_rfl) (fun _ _ _ h => h) (loadSF_y y2.heap.size ⟨F1, false && op2, true || (fa2 && z), P, false⟩ (fun _ h => h.2.2.2.1) rfl rfl (by rfl)) hS ?_
              simp only [Act.put, List.setIfInBounds_toArray, List.set_cons_zero, List.set_cons_succ]
              refine takeAt 9 91 (setV F1) rfl rfl (by kernel_rfl) (by kernel_rfl) (by kernel_rfl) (fun _ _ _ h => h) (loadSc_y x3.heap.size F1 (fun _ h => h.2.2.2.2.2) rfl rfl (by rfl)) hS ?_
              simp only [Act.put, List.setIfInBounds_toArray, List.set_cons_zero, List.set_cons_succ]
              refine takeAt 10 92 (.bool true) rfl rfl (by kernel_rfl) (by kernel_rfl) (by kernel_rfl) (fun _ _ _ h => h) (eqSetc_y F1 rfl rfl rfl (by rfl)) hS ?_
              simp only [Act.put, List.setIfInBounds_toArray, List.set_cons_zero, List.set_cons_succ]
              refine takeAt 11 93 (.bool true) rfl rfl (by kernel_rfl) (by kernel_rfl) (by kernel_rfl) (fun _ _ _ h => h) (yields (by rfl) (fun w => by kernel_rfl)) hS ?_
              simp only [Act.put, List.setIfInBounds_toArray, List.set_cons_zero, List.set_cons_succ]
              refine takeAt 12 94 (.bool true) rfl rfl (by kernel_rfl) (by kernel_rfl) (by kernel_rfl) (fun _ _ _ h => h) (yields (by rfl) (fun w => by kernel_rfl)) hS ?_
              simp only [Act.put, List.setIfInBounds_toArray, List.set_cons_zero, List.set_cons_succ]
              refine takeAt 13 95 (.pointer (some ⟨y2.heap.size, 4, none⟩)) rfl rfl (by kernel_rfl) (by kernel_rfl) (by kernel_rfl) (fun _ _ _ h => h) (yields (by rfl) (fun w => by kernel_rfl)) hS ?_
              simp only [Act.put, List.setIfInBounds_toArray, List.set_cons_zero, List.set_cons_succ]
              refine takeAt 14 96 (.bool false) rfl rfl (by kernel_rfl) (by kernel_rfl) (by kernel_rfl) (fun _ _ _ h => h) (loadB9_y y2.heap.size 4 false (fun _ h => BoxF.c4 h.2.2.2.1) rfl rfl (by rfl)) hS ?_
              simp only [Act.put, List.setIfInBounds_toArray, List.set_cons_zero, List.set_cons_succ]
              refine takeAt 15 97 (.pointer (some ⟨u2.heap.size, 4, none⟩)) rfl rfl (by kernel_rfl) (by kernel_rfl) (by kernel_rfl) (fun _ _ _ h => h) (yields (by rfl) (fun w => by kernel_rfl)) hS ?_
              simp only [Act.put, List.setIfInBounds_toArray, List.set_cons_zero, List.set_cons_succ]
              refine takeAt 16 98 (.bool false) rfl rfl (by kernel_rfl) (by kernel_rfl) (by kernel_rfl) (fun _ _ _ h => h) (loadB9_y u2.heap.size 4 false (fun _ h => BoxF.c4 h.2.1) rfl rfl (by rfl)) hS ?_
              simp only [Act.put, List.setIfInBounds_toArray, List.set_cons_zero, List.set_cons_succ]
              refine takeAt 17 99 (.bool false) rfl rfl (by kernel_rfl) (by kernel_rfl) (by kernel_rfl) (fun _ _ _ h => h) (yields (by rfl) (fun w => by kernel_rfl)) hS ?_
              simp only [Act.put, List.setIfInBounds_toArray, List.set_cons_zero, List.set_cons_succ]
              refine takeAt 18 100 (undef) rfl rfl (by kernel_rfl) (by kernel_rfl) (by kernel_rfl) (fun _ _ _ h => h) (skipped (by rfl)) hS ?_
              simp only [Act.put, List.setIfInBounds_toArray, List.set_cons_zero, List.set_cons_succ]
              refine takeAt 19 101 (undef) rfl rfl (by kernel_rfl) (by kernel_rfl) (by kernel_rfl) (fun _ _ _ h => h) (skipped (by rfl)) hS ?_
              simp only [Act.put, List.setIfInBounds_toArray, List.set_cons_zero, List.set_cons_succ]
              refine takeAt 20 102 (.bool false) rfl rfl (by kernel_rfl) (by kernel_rfl) (by kernel_rfl) (fun _ _ _ h => h) (yields (by rfl) (fun w => by kernel_rfl)) hS ?_
              simp only [Act.put, List.setIfInBounds_toArray, List.set_cons_zero, List.set_cons_succ]
              refine takeAt 21 103 (.bool true) rfl rfl (by kernel_rfl) (by kernel_rfl) (by kernel_rfl) (fun _ _ _ h => h) (eqB9_y false rfl rfl rfl (by rfl)) hS ?_
              simp only [Act.put, List.setIfInBounds_toArray, List.set_cons_zero, List.set_cons_succ]
              refine takeAt 22 104 (.bool true) rfl rfl (by kernel_rfl) (by kernel_rfl) (by kernel_rfl) (fun _ _ _ h => h) (yields (by rfl) (fun w => by kernel_rfl)) hS ?_
              simp only [Act.put, List.setIfInBounds_toArray, List.set_cons_zero, List.set_cons_succ]
              refine takeAt 23 105 (.bool true) rfl rfl (by kernel_rfl) (by kernel_rfl) (by kernel_rfl) (fun _ _ _ h => h) (yields (by rfl) (fun w => by kernel_rfl)) hS ?_
              simp only [Act.put, List.setIfInBounds_toArray, List.set_cons_zero, List.set_cons_succ]
              refine takeAt 24 106 (.pointer (some ⟨y3.heap.size, 0, none⟩)) rfl rfl (by kernel_rfl) (by kernel_rfl) (by kernel_rfl) (fun _ _ _ h => h) (yields (by rfl) (fun w => by kernel_rfl)) hS ?_
              simp only [Act.put, List.setIfInBounds_toArray, List.set_cons_zero, List.set_cons_succ]
              as_aux_lemma =>
                refine takeAt 25 107 (setV (F1 ||| F2)) rfl rfl (by kernel_rfl) (by kernel_rfl) (by kernel_rfl) (fun _ _ _ h => h) (loadSF_y y3.heap.size ⟨F1 ||| F2, false || op2, true && fa2, ByteArray.empty, false⟩ (fun _ h => h.2.2.2.2.1) rfl rfl (by rfl)) hS ?_
                simp only [Act.put, List.setIfInBounds_toArray, List.set_cons_zero, List.set_cons_succ]
                refine takeAt 26 108 (.pointer (some ⟨u2.heap.size, 0, none⟩)) rfl rfl (by kernel_rfl) (by kernel_rfl) (by kernel_rfl) (fun _ _ _ h => h) (yields (by rfl) (fun w => by kernel_rfl)) hS ?_
                simp only [Act.put, List.setIfInBounds_toArray, List.set_cons_zero, List.set_cons_succ]
                refine takeAt 27 109 (setV F1) rfl rfl (by kernel_rfl) (by kernel_rfl) (by kernel_rfl) (fun _ _ _ h => h) (loadSF_y u2.heap.size ⟨F1, false, true, pr1, wh1⟩ (fun _ h => h.2.1) rfl rfl (by rfl)) hS ?_
                simp only [Act.put, List.setIfInBounds_toArray, List.set_cons_zero, List.set_cons_succ]
                refine takeAt 28 110 (.pointer (some ⟨u4.heap.size, 0, none⟩)) rfl rfl (by kernel_rfl) (by kernel_rfl) (by kernel_rfl) (fun _ _ _ h => h) (yields (by rfl) (fun w => by kernel_rfl)) hS ?_
                simp only [Act.put, List.setIfInBounds_toArray, List.set_cons_zero, List.set_cons_succ]
                refine takeAt 29 111 (setV F2) rfl rfl (by kernel_rfl) (by kernel_rfl) (by kernel_rfl) (fun _ _ _ h => h) (loadSF_y u4.heap.size ⟨F2, op2, fa2, pr2, wh2⟩ (fun _ h => h.2.2.1) rfl rfl (by rfl)) hS ?_
                simp only [Act.put, List.setIfInBounds_toArray, List.set_cons_zero, List.set_cons_succ]
                refine callAt 30 112 rfl rfl (by kernel_rfl) (by rfl) (by kernel_rfl) (HOr.out _) ?_
                rintro e v1 ⟨rfl, hb⟩
                have hS := And.intro (hS.1.call hb) (And.intro (hS.2.1.below hb hS.2.1.lt) (And.intro (hS.2.2.1.below hb hS.2.2.1.lt) (And.intro (hS.2.2.2.1.below hb hS.2.2.2.1.lt) (And.intro (hS.2.2.2.2.1.below hb hS.2.2.2.2.1.lt) (hS.2.2.2.2.2.below hb hS.2.2.2.2.2.lt)))))
                clear hb
                refine ⟨_, rfl, hS, ?_⟩
                simp only [Act.put, List.setIfInBounds_toArray, List.set_cons_zero, List.set_cons_succ]
                refine takeAt 31 113 (.bool true) rfl rfl (by kernel_rfl) (by kernel_rfl) (by kernel_rfl) (fun _ _ _ h => h) (eqSetc_y (F1 ||| F2) rfl rfl rfl (by rfl)) hS ?_
                simp only [Act.put, List.setIfInBounds_toArray, List.set_cons_zero, List.set_cons_succ]
                refine takeAt 32 114 (.bool true) rfl rfl (by kernel_rfl) (by kernel_rfl) (by kernel_rfl) (fun _ _ _ h => h) (yields (by rfl) (fun w => by kernel_rfl)) hS ?_
                simp only [Act.put, List.setIfInBounds_toArray, List.set_cons_zero, List.set_cons_succ]
                refine takeAt 33 115 (.bool true) rfl rfl (by kernel_rfl) (by kernel_rfl) (by kernel_rfl) (fun _ _ _ h => h) (yields (by rfl) (fun w => by kernel_rfl)) hS ?_
                simp only [Act.put, List.setIfInBounds_toArray, List.set_cons_zero, List.set_cons_succ]
                refine takeAt 34 116 (.pointer (some ⟨y3.heap.size, 4, none⟩)) rfl rfl (by kernel_rfl) (by kernel_rfl) (by kernel_rfl) (fun _ _ _ h => h) (yields (by rfl) (fun w => by kernel_rfl)) hS ?_
                simp only [Act.put, List.setIfInBounds_toArray, List.set_cons_zero, List.set_cons_succ]
                refine takeAt 35 117 (.bool op2) rfl rfl (by kernel_rfl) (by kernel_rfl) (by kernel_rfl) (fun _ _ _ h => h) (loadB9_y y3.heap.size 4 op2 (fun _ h => BoxF.c4 h.2.2.2.2.1) rfl rfl (by rfl)) hS ?_
                simp only [Act.put, List.setIfInBounds_toArray, List.set_cons_zero, List.set_cons_succ]
                refine takeAt 36 118 (.pointer (some ⟨u2.heap.size, 4, none⟩)) rfl rfl (by kernel_rfl) (by kernel_rfl) (by kernel_rfl) (fun _ _ _ h => h) (yields (by rfl) (fun w => by kernel_rfl)) hS ?_
                simp only [Act.put, List.setIfInBounds_toArray, List.set_cons_zero, List.set_cons_succ]
                refine takeAt 37 119 (.bool false) rfl rfl (by kernel_rfl) (by kernel_rfl) (by kernel_rfl) (fun _ _ _ h => h) (loadB9_y u2.heap.size 4 false (fun _ h => BoxF.c4 h.2.1) rfl rfl (by rfl)) hS ?_
                simp only [Act.put, List.setIfInBounds_toArray, List.set_cons_zero, List.set_cons_succ]
                refine takeAt 38 120 (.bool false) rfl rfl (by kernel_rfl) (by kernel_rfl) (by kernel_rfl) (fun _ _ _ h => h) (yields (by rfl) (fun w => by kernel_rfl)) hS ?_
                simp only [Act.put, List.setIfInBounds_toArray, List.set_cons_zero, List.set_cons_succ]
                refine takeAt 39 121 (.pointer (some ⟨u4.heap.size, 4, none⟩)) rfl rfl (by kernel_rfl) (by kernel_rfl) (by kernel_rfl) (fun _ _ _ h => h) (yields (by rfl) (fun w => by kernel_rfl)) hS ?_
                simp only [Act.put, List.setIfInBounds_toArray, List.set_cons_zero, List.set_cons_succ]
                refine takeAt 40 122 (.bool op2) rfl rfl (by kernel_rfl) (by kernel_rfl) (by kernel_rfl) (fun _ _ _ h => h) (loadB9_y u4.heap.size 4 op2 (fun _ h => BoxF.c4 h.2.2.1) rfl rfl (by rfl)) hS ?_
                simp only [Act.put, List.setIfInBounds_toArray, List.set_cons_zero, List.set_cons_succ]
                refine takeAt 41 123 (.bool op2) rfl rfl (by kernel_rfl) (by kernel_rfl) (by kernel_rfl) (fun _ _ _ h => h) (yields (by rfl) (fun w => by kernel_rfl)) hS ?_
                simp only [Act.put, List.setIfInBounds_toArray, List.set_cons_zero, List.set_cons_succ]
                refine takeAt 42 124 (.bool true) rfl rfl (by kernel_rfl) (by kernel_rfl) (by kernel_rfl) (fun _ _ _ h => h) (eqB9_y op2 rfl rfl rfl (by rfl)) hS ?_
                simp only [Act.put, List.setIfInBounds_toArray, List.set_cons_zero, List.set_cons_succ]
                refine takeAt 43 125 (.bool true) rfl rfl (by kernel_rfl) (by kernel_rfl) (by kernel_rfl) (fun _ _ _ h => h) (yields (by rfl) (fun w => by kernel_rfl)) hS ?_
                simp only [Act.put, List.setIfInBounds_toArray, List.set_cons_zero, List.set_cons_succ]
                refine takeAt 44 126 (.bool true) rfl rfl (by kernel_rfl) (by kernel_rfl) (by kernel_rfl) (fun _ _ _ h => h) (yields (by rfl) (fun w => by kernel_rfl)) hS ?_
                simp only [Act.put, List.setIfInBounds_toArray, List.set_cons_zero, List.set_cons_succ]
                refine takeAt 45 127 (.pointer (some ⟨y3.heap.size, 6, none⟩)) rfl rfl (by kernel_rfl) (by kernel_rfl) (by kernel_rfl) (fun _ _ _ h => h) (yields (by rfl) (fun w => by kernel_rfl)) hS ?_
                simp only [Act.put, List.setIfInBounds_toArray, List.set_cons_zero, List.set_cons_succ]
                refine takeAt 46 128 (.string ByteArray.empty) rfl rfl (by kernel_rfl) (by kernel_rfl) (by kernel_rfl) (fun _ _ _ h => h) (loadP9_y y3.heap.size 6 ByteArray.empty (fun _ h => BoxF.c6 h.2.2.2.2.1) rfl rfl (by rfl)) hS ?_
                simp only [Act.put, List.setIfInBounds_toArray, List.set_cons_zero, List.set_cons_succ]
                refine takeAt 47 129 (.bool true) rfl rfl (by kernel_rfl) (by kernel_rfl) (by kernel_rfl) (fun _ _ _ h => h) (eqE9_y ByteArray.empty true (by rfl) rfl rfl (by rfl)) hS ?_
                simp only [Act.put, List.setIfInBounds_toArray, List.set_cons_zero, List.set_cons_succ]
                refine takeAt 48 130 (.bool true) rfl rfl (by kernel_rfl) (by kernel_rfl) (by kernel_rfl) (fun _ _ _ h => h) (yields (by rfl) (fun w => by kernel_rfl)) hS ?_
                simp only [Act.put, List.setIfInBounds_toArray, List.set_cons_zero, List.set_cons_succ]
                refine takeAt 49 131 (.bool true) rfl rfl (by kernel_rfl) (by kernel_rfl) (by kernel_rfl) (fun _ _ _ h => h) (yields (by rfl) (fun w => by kernel_rfl)) hS ?_
                simp only [Act.put, List.setIfInBounds_toArray, List.set_cons_zero, List.set_cons_succ]
                refine takeAt 50 132 (.pointer (some ⟨u2.heap.size, 5, none⟩)) rfl rfl (by kernel_rfl) (by kernel_rfl) (by kernel_rfl) (fun _ _ _ h => h) (yields (by rfl) (fun w => by kernel_rfl)) hS ?_
                simp only [Act.put, List.setIfInBounds_toArray, List.set_cons_zero, List.set_cons_succ]
                as_aux_lemma =>
                  refine takeAt 51 133 (.bool true) rfl rfl (by kernel_rfl) (by kernel_rfl) (by kernel_rfl) (fun _ _ _ h => h) (loadB9_y u2.heap.size 5 true (fun _ h => BoxF.c5 h.2.1) rfl rfl (by rfl)) hS ?_
                  simp only [Act.put, List.setIfInBounds_toArray, List.set_cons_zero, List.set_cons_succ]
                  refine takeAt 52 134 (.bool false) rfl rfl (by kernel_rfl) (by kernel_rfl) (by kernel_rfl) (fun _ _ _ h => h) (yields (by rfl) (fun w => by kernel_rfl)) hS ?_
                  simp only [Act.put, List.setIfInBounds_toArray, List.set_cons_zero, List.set_cons_succ]
                  refine takeAt 53 135 (.bool false) rfl rfl (by kernel_rfl) (by kernel_rfl) (by kernel_rfl) (fun _ _ _ h => h) (yields (by rfl) (fun w => by kernel_rfl)) hS ?_
                  simp only [Act.put, List.setIfInBounds_toArray, List.set_cons_zero, List.set_cons_succ]
                  refine takeAt 54 136 (.pointer (some ⟨y2.heap.size, 5, none⟩)) rfl rfl (by kernel_rfl) (by kernel_rfl) (by kernel_rfl) (fun _ _ _ h => h) (yields (by rfl) (fun w => by kernel_rfl)) hS ?_
                  simp only [Act.put, List.setIfInBounds_toArray, List.set_cons_zero, List.set_cons_succ]
                  refine takeAt 55 137 (.bool true) rfl rfl (by kernel_rfl) (by kernel_rfl) (by kernel_rfl) (fun _ _ _ h => h) (loadB9_y y2.heap.size 5 true (fun _ h => BoxF.c5 h.2.2.2.1) rfl rfl (by rfl)) hS ?_
                  simp only [Act.put, List.setIfInBounds_toArray, List.set_cons_zero, List.set_cons_succ]
                  refine takeAt 56 138 (.bool true) rfl rfl (by kernel_rfl) (by kernel_rfl) (by kernel_rfl) (fun _ _ _ h => h) (yields (by rfl) (fun w => by kernel_rfl)) hS ?_
                  simp only [Act.put, List.setIfInBounds_toArray, List.set_cons_zero, List.set_cons_succ]
                  refine takeAt 57 139 (.bool true) rfl rfl (by kernel_rfl) (by kernel_rfl) (by kernel_rfl) (fun _ _ _ h => h) (yields (by rfl) (fun w => by kernel_rfl)) hS ?_
                  simp only [Act.put, List.setIfInBounds_toArray, List.set_cons_zero, List.set_cons_succ]
                  refine takeAt 58 140 (.bool true) rfl rfl (by kernel_rfl) (by kernel_rfl) (by kernel_rfl) (fun _ _ _ h => h) (yields (by rfl) (fun w => by kernel_rfl)) hS ?_
                  simp only [Act.put, List.setIfInBounds_toArray, List.set_cons_zero, List.set_cons_succ]
                  refine takeAt 59 141 (.pointer (some ⟨y3.heap.size, 5, none⟩)) rfl rfl (by kernel_rfl) (by kernel_rfl) (by kernel_rfl) (fun _ _ _ h => h) (yields (by rfl) (fun w => by kernel_rfl)) hS ?_
                  simp only [Act.put, List.setIfInBounds_toArray, List.set_cons_zero, List.set_cons_succ]
                  refine takeAt 60 142 (.bool fa2) rfl rfl (by kernel_rfl) (by kernel_rfl) (by kernel_rfl) (fun _ _ _ h => h) (loadB9_y y3.heap.size 5 fa2 (fun _ h => BoxF.c5 h.2.2.2.2.1) rfl rfl (by rfl)) hS ?_
                  simp only [Act.put, List.setIfInBounds_toArray, List.set_cons_zero, List.set_cons_succ]
                  refine takeAt 61 143 (.pointer (some ⟨u2.heap.size, 5, none⟩)) rfl rfl (by kernel_rfl) (by kernel_rfl) (by kernel_rfl) (fun _ _ _ h => h) (yields (by rfl) (fun w => by kernel_rfl)) hS ?_
                  simp only [Act.put, List.setIfInBounds_toArray, List.set_cons_zero, List.set_cons_succ]
                  refine takeAt 62 144 (.bool true) rfl rfl (by kernel_rfl) (by kernel_rfl) (by kernel_rfl) (fun _ _ _ h => h) (loadB9_y u2.heap.size 5 true (fun _ h => BoxF.c5 h.2.1) rfl rfl (by rfl)) hS ?_
                  simp only [Act.put, List.setIfInBounds_toArray, List.set_cons_zero, List.set_cons_succ]
                  refine takeAt 63 145 (.bool true) rfl rfl (by kernel_rfl) (by kernel_rfl) (by kernel_rfl) (fun _ _ _ h => h) (yields (by rfl) (fun w => by kernel_rfl)) hS ?_
                  simp only [Act.put, List.setIfInBounds_toArray, List.set_cons_zero, List.set_cons_succ]
                  refine takeAt 64 146 (.pointer (some ⟨u4.heap.size, 5, none⟩)) rfl rfl (by kernel_rfl) (by kernel_rfl) (by kernel_rfl) (fun _ _ _ h => h) (yields (by rfl) (fun w => by kernel_rfl)) hS ?_
                  simp only [Act.put, List.setIfInBounds_toArray, List.set_cons_zero, List.set_cons_succ]
                  refine takeAt 65 147 (.bool fa2) rfl rfl (by kernel_rfl) (by kernel_rfl) (by kernel_rfl) (fun _ _ _ h => h) (loadB9_y u4.heap.size 5 fa2 (fun _ h => BoxF.c5 h.2.2.1) rfl rfl (by rfl)) hS ?_
                  simp only [Act.put, List.setIfInBounds_toArray, List.set_cons_zero, List.set_cons_succ]
                  refine takeAt 66 148 (.bool fa2) rfl rfl (by kernel_rfl) (by kernel_rfl) (by kernel_rfl) (fun _ _ _ h => h) (yields (by rfl) (fun w => by kernel_rfl)) hS ?_
                  simp only [Act.put, List.setIfInBounds_toArray, List.set_cons_zero, List.set_cons_succ]
                  refine takeAt 67 149 (.bool true) rfl rfl (by kernel_rfl) (by kernel_rfl) (by kernel_rfl) (fun _ _ _ h => h) (eqB9_y fa2 rfl rfl rfl (by rfl)) hS ?_
                  simp only [Act.put, List.setIfInBounds_toArray, List.set_cons_zero, List.set_cons_succ]
                  refine takeAt 68 150 (.bool true) rfl rfl (by kernel_rfl) (by kernel_rfl) (by kernel_rfl) (fun _ _ _ h => h) (yields (by rfl) (fun w => by kernel_rfl)) hS ?_
                  simp only [Act.put, List.setIfInBounds_toArray, List.set_cons_zero, List.set_cons_succ]
                  refine takeAt 69 151 (.bool true) rfl rfl (by kernel_rfl) (by kernel_rfl) (by kernel_rfl) (fun _ _ _ h => h) (yields (by rfl) (fun w => by kernel_rfl)) hS ?_
                  simp only [Act.put, List.setIfInBounds_toArray, List.set_cons_zero, List.set_cons_succ]
                  refine callAt 70 152 rfl rfl (by kernel_rfl) (by rfl) (by kernel_rfl) (HFix.out _ hS.1.tabs) ?_
                  rintro e v1 ⟨rfl, hb⟩
                  have hS := And.intro (hS.1.call hb) (And.intro (hS.2.1.below hb hS.2.1.lt) (And.intro (hS.2.2.1.below hb hS.2.2.1.lt) (And.intro (hS.2.2.2.1.below hb hS.2.2.2.1.lt) (And.intro (hS.2.2.2.2.1.below hb hS.2.2.2.2.1.lt) (hS.2.2.2.2.2.below hb hS.2.2.2.2.2.lt)))))
                  clear hb
                  refine ⟨_, rfl, hS, ?_⟩
                  simp only [Act.put, List.setIfInBounds_toArray, List.set_cons_zero, List.set_cons_succ]
                  refine takeAt 71 153 (.bool true) rfl rfl (by kernel_rfl) (by kernel_rfl) (by kernel_rfl) (fun _ _ _ h => h) (yields (by rfl) (fun w => by kernel_rfl)) hS ?_
                  simp only [Act.put, List.setIfInBounds_toArray, List.set_cons_zero, List.set_cons_succ]
                  refine takeAt 72 4 (.bool true) rfl rfl (by kernel_rfl) (by kernel_rfl) (by kernel_rfl) (fun _ _ _ h => h) (yields (by rfl) (fun w => by kernel_rfl)) hS ?_
                  simp only [Act.put, List.setIfInBounds_toArray, List.set_cons_zero, List.set_cons_succ]
                  refine wpAnyH_done (by kernel_rfl) ?_ _
                  have HZ := Lib.hid hS.1
                  clear hS
                  go_wp2
                  go_ret
                  exact ⟨rfl, HZ.out.below⟩
          · obtain rfl : FC = F1 ||| F2 := hFC.out
            clear hFC
            have hS : (fun u => CBx w A m cap l B k cap' l' u ∧ BoxF u u2.heap.size ⟨F1, true, fa1, pr1, wh1⟩ ∧ BoxF u u4.heap.size ⟨F2, op2, fa2, pr2, wh2⟩) x3 := ⟨HL.out, HF.out, HE.out⟩
            go_wp2_with (refine lineY (S := fun u => CBx w A m cap l B k cap' l' u ∧ BoxF u u2.heap.size ⟨F1, true, fa1, pr1, wh1⟩ ∧ BoxF u u4.heap.size ⟨F2, op2, fa2, pr2, wh2⟩) (setV F1) (loadSF_y u2.heap.size ⟨F1, true, fa1, pr1, wh1⟩ (fun _ h => h.2.1) rfl rfl (by rfl)) hS ?_; refine StopS.out ?_)
            refine ⟨?_⟩
            try simp only [Act.put, List.setIfInBounds_toArray, List.set_cons_zero, List.set_cons_succ]
            clear hS
            go_wp2_with (refine storeSet9n rfl _ _ rfl x3 F1 rfl rfl rfl ?_; intro x4 hx hN; refine StopS.out ?_)
            refine ⟨?_⟩
            have HB := Lib.hid hN.out
            have HS := Lib.hid hx.out
            clear hx hN
            have f4 : x4.cell? ⟨u2.heap.size, 4, none⟩ = some (.bool true) := BoxF.c4 (HF.out.below HB.out HF.out.lt)
            have hS : (fun u => BoxV 29 u x3.heap.size (setC F1) ∧ BoxF u u4.heap.size ⟨F2, op2, fa2, pr2, wh2⟩) x4 := ⟨HS.out, HE.out.below HB.out HE.out.lt⟩
            go_wp2_with (refine lineY (S := fun u => BoxV 29 u x3.heap.size (setC F1) ∧ BoxF u u4.heap.size ⟨F2, op2, fa2, pr2, wh2⟩) (setV F1) (loadSc_y x3.heap.size F1 (fun _ h => h.1) rfl rfl (by rfl)) hS ?_; refine StopS.out ?_)
            refine ⟨?_⟩
            try simp only [Act.put, List.setIfInBounds_toArray, List.set_cons_zero, List.set_cons_succ]
            go_wp2_with (refine lineY (S := fun u => BoxV 29 u x3.heap.size (setC F1) ∧ BoxF u u4.heap.size ⟨F2, op2, fa2, pr2, wh2⟩) (setV F2) (loadSF_y u4.heap.size ⟨F2, op2, fa2, pr2, wh2⟩ (fun _ h => h.2) rfl rfl (by rfl)) hS ?_; refine StopS.out ?_)
            refine ⟨?_⟩
            try simp only [Act.put, List.setIfInBounds_toArray, List.set_cons_zero, List.set_cons_succ]
            clear hS
            go_wp2_with fail
            refine (HOr.out _).mono ?_
            rintro e x5 ⟨rfl, hb⟩
            replace HS := Lib.hid (HS.out.below hb HS.out.lt)
            replace HB := Lib.hid (thenB HB.out hb HB.out.size)
            clear hb f4
            go_wp2_with (refine storeSet9 rfl _ _ rfl x3.heap.size _ (F1 ||| F2) rfl rfl (by rfl) HS.out ?_; intro x6 hx hB; refine StopS.out ?_)
            refine ⟨?_⟩
            replace HB := Lib.hid (HB.out.trans (hB.out _ (Nat.le_refl _)))
            replace HS := Lib.hid hx.out
            clear hx hB
            have hb := HB.out
            replace HL := Lib.hid (HL.out.call hb)
            replace HF := Lib.hid (HF.out.below hb HF.out.lt)
            replace HE := Lib.hid (HE.out.below hb HE.out.lt)
            replace HQ2 := Lib.hid (HQ2.out.below hb HQ2.out.lt)
            replace HQ3 := Lib.hid (HQ3.out.below hb HQ3.out.lt)
            clear hb HB
            go_wp2_with fail
            cases fa1
            · simp only [List.append_eq, List.cons_append, List.nil_append]
              refine wp_region_held_drew (S := fun u => CBx w A m cap l B k cap' l' u ∧ BoxF u u2.heap.size ⟨F1, true, false, pr1, wh1⟩ ∧ BoxF u u4.heap.size ⟨F2, op2, fa2, pr2, wh2⟩ ∧ BoxF u y2.heap.size ⟨(F1 ||| F2), true && op2, false || (fa2 && z), P, false⟩ ∧ BoxF u y3.heap.size ⟨F1 ||| F2, true || op2, false && fa2, ByteArray.empty, false⟩ ∧ BoxV 29 u x3.heap.size (setC (F1 ||| F2))) (by kernel_rfl) (show _ from ⟨HL.out.call (Below.refl _ _).drew, HF.out.drew, HE.out.drew, HQ2.out.drew, HQ3.out.drew, HS.out.drew⟩) (fun hS => ?_)
              clear HL HF HE HQ2 HQ3 HS
              generalize World.drew _ = y0 at hS ⊢
              refine takeAt 0 82 (.int .i64 0) rfl rfl (by kernel_rfl) (by kernel_rfl) (by kernel_rfl) (fun _ _ _ h => h) (yields (by rfl) (fun w => by kernel_rfl)) hS ?_
              simp only [Act.put, List.setIfInBounds_toArray, List.set_cons_zero, List.set_cons_succ]
              refine takeAt 1 83 (.bool true) rfl rfl (by kernel_rfl) (by kernel_rfl) (by kernel_rfl) (fun _ _ _ h => h) (eqlE9_y true (by rfl) rfl rfl rfl (by rfl)) hS ?_
              simp only [Act.put, List.setIfInBounds_toArray, List.set_cons_zero, List.set_cons_succ]
              refine takeAt 2 84 (.bool true) rfl rfl (by kernel_rfl) (by kernel_rfl) (by kernel_rfl) (fun _ _ _ h => h) (yields (by rfl) (fun w => by kernel_rfl)) hS ?_
              simp only [Act.put, List.setIfInBounds_toArray, List.set_cons_zero, List.set_cons_succ]
              refine takeAt 3 85 (.int .i64 0) rfl rfl (by kernel_rfl) (by kernel_rfl) (by kernel_rfl) (fun _ _ _ h => h) (yields (by rfl) (fun w => by kernel_rfl)) hS ?_
              simp only [Act.put, List.setIfInBounds_toArray, List.set_cons_zero, List.set_cons_succ]
              refine takeAt 4 86 (.bool true) rfl rfl (by kernel_rfl) (by kernel_rfl) (by kernel_rfl) (fun _ _ _ h => h) (eqlE9_y true (by rfl) rfl rfl rfl (by rfl)) hS ?_
              simp only [Act.put, List.setIfInBounds_toArray, List.set_cons_zero, List.set_cons_succ]
              refine takeAt 5 87 (.bool true) rfl rfl (by kernel_rfl) (by kernel_rfl) (by kernel_rfl) (fun _ _ _ h => h) (yields (by rfl) (fun w => by kernel_rfl)) hS ?_
              simp only [Act.put, List.setIfInBounds_toArray, List.set_cons_zero, List.set_cons_succ]
              refine takeAt 6 88 (.bool true) rfl rfl (by kernel_rfl) (by kernel_rfl) (by kernel_rfl) (fun _ _ _ h => h) (yields (by rfl) (fun w => by kernel_rfl)) hS ?_
              simp only [Act.put, List.setIfInBounds_toArray, List.set_cons_zero, List.set_cons_succ]
              refine takeAt 7 89 (.pointer (some ⟨y2.heap.size, 0, none⟩)) rfl rfl (by kernel_rfl) (by kernel_rfl) (by kernel_rfl) (fun _ _ _ h => h) (yields (by rfl) (fun w => by kernel_rfl)) hS ?_
              simp only [Act.put, List.setIfInBounds_toArray, List.set_cons_zero, List.set_cons_succ]
              refine takeAt 8 90 (setV (F1 ||| F2)) rfl rfl (by kernel_rfl) (by kernel_rfl) (by kernel_rfl) (fun _ _ _ h => h) (loadSF_y y2.heap.size ⟨(F1 ||| F2), true && op2, false || (fa2 && z), P, false⟩ (fun _ h => h.2.2.2.1) rfl rfl (by rfl)) hS ?_
              simp only [Act.put, List.setIfInBounds_toArray, List.set_cons_zero, List.set_cons_succ]
              refine takeAt 9 91 (setV (F1 ||| F2)) rfl rfl (by kernel_rfl) (by kernel_rfl) (by kernel_rfl) (fun _ _ _ h => h) (loadSc_y x3.heap.size (F1 ||| F2) (fun _ h => h.2.2.2.2.2) rfl rfl (by rfl)) hS ?_
              simp only [Act.put, List.setIfInBounds_toArray, List.set_cons_zero, List.set_cons_succ]
              refine takeAt 10 92 (.bool true) rfl rfl (by kernel_rfl) (by kernel_rfl) (by kernel_rfl) (fun _ _ _ h => h) (eqSetc_y (F1 ||| F2) rfl rfl rfl (by rfl)) hS ?_
              simp only [Act.put, List.setIfInBounds_toArray, List.set_cons_zero, List.set_cons_succ]
              refine takeAt 11 93 (.bool true) rfl rfl (by kernel_rfl) (by kernel_rfl) (by kernel_rfl) (fun _ _ _ h => h) (yields (by rfl) (fun w => by kernel_rfl)) hS ?_
              simp only [Act.put, List.setIfInBounds_toArray, List.set_cons_zero, List.set_cons_succ]
              refine takeAt 12 94 (.bool true) rfl rfl (by kernel_rfl) (by kernel_rfl) (by kernel_rfl) (fun _ _ _ h => h) (yields (by rfl) (fun w => by kernel_rfl)) hS ?_
              simp only [Act.put, List.setIfInBounds_toArray, List.set_cons_zero, List.set_cons_succ]
              refine takeAt 13 95 (.pointer (some ⟨y2.heap.size, 4, none⟩)) rfl rfl (by kernel_rfl) (by kernel_rfl) (by kernel_rfl) (fun _ _ _ h => h) (yields (by rfl) (fun w => by kernel_rfl)) hS ?_
              simp only [Act.put, List.setIfInBounds_toArray, List.set_cons_zero, List.set_cons_succ]
              refine takeAt 14 96 (.bool op2) rfl rfl (by kernel_rfl) (by kernel_rfl) (by kernel_rfl) (fun _ _ _ h => h) (loadB9_y y2.heap.size 4 op2 (fun _ h => BoxF.c4 h.2.2.2.1) rfl rfl (by rfl)) hS ?_
              simp only [Act.put, List.setIfInBounds_toArray, List.set_cons_zero, List.set_cons_succ]
              refine takeAt 15 97 (.pointer (some ⟨u2.heap.size, 4, none⟩)) rfl rfl (by kernel_rfl) (by kernel_rfl) (by kernel_rfl) (fun _ _ _ h => h) (yields (by rfl) (fun w => by kernel_rfl)) hS ?_
              simp only [Act.put, List.setIfInBounds_toArray, List.set_cons_zero, List.set_cons_succ]
              refine takeAt 16 98 (.bool true) rfl rfl (by kernel_rfl) (by kernel_rfl) (by kernel_rfl) (fun _ _ _ h => h) (loadB9_y u2.heap.size 4 true (fun _ h => BoxF.c4 h.2.1) rfl rfl (by rfl)) hS ?_
              simp only [Act.put, List.setIfInBounds_toArray, List.set_cons_zero, List.set_cons_succ]
              refine takeAt 17 99 (.bool true) rfl rfl (by kernel_rfl) (by kernel_rfl) (by kernel_rfl) (fun _ _ _ h => h) (yields (by rfl) (fun w => by kernel_rfl)) hS ?_
              simp only [Act.put, List.setIfInBounds_toArray, List.set_cons_zero, List.set_cons_succ]
              refine takeAt 18 100 (.pointer (some ⟨u4.heap.size, 4, none⟩)) rfl rfl (by kernel_rfl) (by kernel_rfl) (by kernel_rfl) (fun _ _ _ h => h) (yields (by rfl) (fun w => by kernel_rfl)) hS ?_
              simp only [Act.put, List.setIfInBounds_toArray, List.set_cons_zero, List.set_cons_succ]
              refine takeAt 19 101 (.bool op2) rfl rfl (by kernel_rfl) (by kernel_rfl) (by kernel_rfl) (fun _ _ _ h => h) (loadB9_y u4.heap.size 4 op2 (fun _ h => BoxF.c4 h.2.2.1) rfl rfl (by rfl)) hS ?_
              simp only [Act.put, List.setIfInBounds_toArray, List.set_cons_zero, List.set_cons_succ]
              refine takeAt 20 102 (.bool op2) rfl rfl (by kernel_rfl) (by kernel_rfl) (by kernel_rfl) (fun _ _ _ h => h) (yields (by rfl) (fun w => by kernel_rfl)) hS ?_
              simp only [Act.put, List.setIfInBounds_toArray, List.set_cons_zero, List.set_cons_succ]
              refine takeAt 21 103 (.bool true) rfl rfl (by kernel_rfl) (by kernel_rfl) (by kernel_rfl) (fun _ _ _ h => h) (eqB9_y op2 rfl rfl rfl (by rfl)) hS ?_
              simp only [Act.put, List.setIfInBounds_toArray, List.set_cons_zero, List.set_cons_succ]
              refine takeAt 22 104 (.bool true) rfl rfl (by kernel_rfl) (by kernel_rfl) (by kernel_rfl) (fun _ _ _ h => h) (yields (by rfl) (fun w => by kernel_rfl)) hS ?_
              simp only [Act.put, List.setIfInBounds_toArray, List.set_cons_zero, List.set_cons_succ]
              refine takeAt 23 105 (.bool true) rfl rfl (by kernel_rfl) (by kernel_rfl) (by kernel_rfl) (fun _ _ _ h => h) (yields (by rfl) (fun w => by kernel_rfl)) hS ?_
              simp only [Act.put, List.setIfInBounds_toArray, List.set_cons_zero, List.set_cons_succ]
              refine takeAt 24 106 (.pointer (some ⟨y3.heap.size, 0, none⟩)) rfl rfl (by kernel_rfl) (by kernel_rfl) (by kernel_rfl) (fun _ _ _ h => h) (yields (by rfl) (fun w => by kernel_rfl)) hS ?_
              simp only [Act.put, List.setIfInBounds_toArray, List.set_cons_zero, List.set_cons_succ]
              as_aux_lemma =>
                refine takeAt 25 107 (setV (F1 ||| F2)) rfl rfl (by kernel_rfl) (by kernel_rfl) (by kernel_rfl) (fun _ _ _ h => h) (loadSF_y y3.heap.size ⟨F1 ||| F2, true || op2, false && fa2, ByteArray.empty, false⟩ (fun _ h => h.2.2.2.2.1) rfl rfl (by rfl)) hS ?_
                simp only [Act.put, List.setIfInBounds_toArray, List.set_cons_zero, List.set_cons_succ]
                refine takeAt 26 108 (.pointer (some ⟨u2.heap.size, 0, none⟩)) rfl rfl (by kernel_rfl) (by kernel_rfl) (by kernel_rfl) (fun _ _ _ h => h) (yields (by rfl) (fun w => by kernel_rfl)) hS ?_
                simp only [Act.put, List.setIfInBounds_toArray, List.set_cons_zero, List.set_cons_succ]
                refine takeAt 27 109 (setV F1) rfl rfl (by kernel_rfl) (by kernel_rfl) (by kernel_rfl) (fun _ _ _ h => h) (loadSF_y u2.heap.size ⟨F1, true, false, pr1, wh1⟩ (fun _ h => h.2.1) rfl rfl (by rfl)) hS ?_
                simp only [Act.put, List.setIfInBounds_toArray, List.set_cons_zero, List.set_cons_succ]
                refine takeAt 28 110 (.pointer (some ⟨u4.heap.size, 0, none⟩)) rfl rfl (by kernel_rfl) (by kernel_rfl) (by kernel_rfl) (fun _ _ _ h => h) (yields (by rfl) (fun w => by kernel_rfl)) hS ?_
                simp only [Act.put, List.setIfInBounds_toArray, List.set_cons_zero, List.set_cons_succ]
                refine takeAt 29 111 (setV F2) rfl rfl (by kernel_rfl) (by kernel_rfl) (by kernel_rfl) (fun _ _ _ h => h) (loadSF_y u4.heap.size ⟨F2, op2, fa2, pr2, wh2⟩ (fun _ h => h.2.2.1) rfl rfl (by rfl)) hS ?_
                simp only [Act.put, List.setIfInBounds_toArray, List.set_cons_zero, List.set_cons_succ]
                refine callAt 30 112 rfl rfl (by kernel_rfl) (by rfl) (by kernel_rfl) (HOr.out _) ?_
                rintro e v1 ⟨rfl, hb⟩
                have hS := And.intro (hS.1.call hb) (And.intro (hS.2.1.below hb hS.2.1.lt) (And.intro (hS.2.2.1.below hb hS.2.2.1.lt) (And.intro (hS.2.2.2.1.below hb hS.2.2.2.1.lt) (And.intro (hS.2.2.2.2.1.below hb hS.2.2.2.2.1.lt) (hS.2.2.2.2.2.below hb hS.2.2.2.2.2.lt)))))
                clear hb
                refine ⟨_, rfl, hS, ?_⟩
                simp only [Act.put, List.setIfInBounds_toArray, List.set_cons_zero, List.set_cons_succ]
                refine takeAt 31 113 (.bool true) rfl rfl (by kernel_rfl) (by kernel_rfl) (by kernel_rfl) (fun _ _ _ h => h) (eqSetc_y (F1 ||| F2) rfl rfl rfl (by rfl)) hS ?_
                simp only [Act.put, List.setIfInBounds_toArray, List.set_cons_zero, List.set_cons_succ]
                refine takeAt 32 114 (.bool true) rfl rfl (by kernel_rfl) (by kernel_rfl) (by kernel_rfl) (fun _ _ _ h => h) (yields (by rfl) (fun w => by kernel_rfl)) hS ?_
                simp only [Act.put, List.setIfInBounds_toArray, List.set_cons_zero, List.set_cons_succ]
                refine takeAt 33 115 (.bool true) rfl rfl (by kernel_rfl) (by kernel_rfl) (by kernel_rfl) (fun _ _ _ h => h) (yields (by rfl) (fun w => by kernel_rfl)) hS ?_
                simp only [Act.put, List.setIfInBounds_toArray, List.set_cons_zero, List.set_cons_succ]
                refine takeAt 34 116 (.pointer (some ⟨y3.heap.size, 4, none⟩)) rfl rfl (by kernel_rfl) (by kernel_rfl) (by kernel_rfl) (fun _ _ _ h => h) (yields (by rfl) (fun w => by kernel_rfl)) hS ?_
                simp only [Act.put, List.setIfInBounds_toArray, List.set_cons_zero, List.set_cons_succ]
                refine takeAt 35 117 (.bool true) rfl rfl (by kernel_rfl) (by kernel_rfl) (by kernel_rfl) (fun _ _ _ h => h) (loadB9_y y3.heap.size 4 true (fun _ h => BoxF.c4 h.2.2.2.2.1) rfl rfl (by rfl)) hS ?_
                simp only [Act.put, List.setIfInBounds_toArray, List.set_cons_zero, List.set_cons_succ]
                refine takeAt 36 118 (.pointer (some ⟨u2.heap.size, 4, none⟩)) rfl rfl (by kernel_rfl) (by kernel_rfl) (by kernel_rfl) (fun _ _ _ h => h) (yields (by rfl) (fun w => by kernel_rfl)) hS ?_
                simp only [Act.put, List.setIfInBounds_toArray, List.set_cons_zero, List.set_cons_succ]
                refine takeAt 37 119 (.bool true) rfl rfl (by kernel_rfl) (by kernel_rfl) (by kernel_rfl) (fun _ _ _ h => h) (loadB9_y u2.heap.size 4 true (fun _ h => BoxF.c4 h.2.1) rfl rfl (by rfl)) hS ?_
                simp only [Act.put, List.setIfInBounds_toArray, List.set_cons_zero, List.set_cons_succ]
                refine takeAt 38 120 (.bool true) rfl rfl (by kernel_rfl) (by kernel_rfl) (by kernel_rfl) (fun _ _ _ h => h) (yields (by rfl) (fun w => by kernel_rfl)) hS ?_
                simp only [Act.put, List.setIfInBounds_toArray, List.set_cons_zero, List.set_cons_succ]
                refine takeAt 39 121 (undef) rfl rfl (by kernel_rfl) (by kernel_rfl) (by kernel_rfl) (fun _ _ _ h => h) (skipped (by rfl)) hS ?_
                simp only [Act.put, List.setIfInBounds_toArray, List.set_cons_zero, List.set_cons_succ]
                refine takeAt 40 122 (undef) rfl rfl (by kernel_rfl) (by kernel_rfl) (by kernel_rfl) (fun _ _ _ h => h) (skipped (by rfl)) hS ?_
                simp only [Act.put, List.setIfInBounds_toArray, List.set_cons_zero, List.set_cons_succ]
                refine takeAt 41 123 (.bool true) rfl rfl (by kernel_rfl) (by kernel_rfl) (by kernel_rfl) (fun _ _ _ h => h) (yields (by rfl) (fun w => by kernel_rfl)) hS ?_
                simp only [Act.put, List.setIfInBounds_toArray, List.set_cons_zero, List.set_cons_succ]
                refine takeAt 42 124 (.bool true) rfl rfl (by kernel_rfl) (by kernel_rfl) (by kernel_rfl) (fun _ _ _ h => h) (eqB9_y true rfl rfl rfl (by rfl)) hS ?_
                simp only [Act.put, List.setIfInBounds_toArray, List.set_cons_zero, List.set_cons_succ]
                refine takeAt 43 125 (.bool true) rfl rfl (by kernel_rfl) (by kernel_rfl) (by kernel_rfl) (fun _ _ _ h => h) (yields (by rfl) (fun w => by kernel_rfl)) hS ?_
                simp only [Act.put, List.setIfInBounds_toArray, List.set_cons_zero, List.set_cons_succ]
                refine takeAt 44 126 (.bool true) rfl rfl (by kernel_rfl) (by kernel_rfl) (by kernel_rfl) (fun _ _ _ h => h) (yields (by rfl) (fun w => by kernel_rfl)) hS ?_
                simp only [Act.put, List.setIfInBounds_toArray, List.set_cons_zero, List.set_cons_succ]
                refine takeAt 45 127 (.pointer (some ⟨y3.heap.size, 6, none⟩)) rfl rfl (by kernel_rfl) (by kernel_rfl) (by kernel_rfl) (fun _ _ _ h => h) (yields (by rfl) (fun w => by kernel_rfl)) hS ?_
                simp only [Act.put, List.setIfInBounds_toArray, List.set_cons_zero, List.set_cons_succ]
                refine takeAt 46 128 (.string ByteArray.empty) rfl rfl (by kernel_rfl) (by kernel_rfl) (by kernel_rfl) (fun _ _ _ h => h) (loadP9_y y3.heap.size 6 ByteArray.empty (fun _ h => BoxF.c6 h.2.2.2.2.1) rfl rfl (by rfl)) hS ?_
                simp only [Act.put, List.setIfInBounds_toArray, List.set_cons_zero, List.set_cons_succ]
                refine takeAt 47 129 (.bool true) rfl rfl (by kernel_rfl) (by kernel_rfl) (by kernel_rfl) (fun _ _ _ h => h) (eqE9_y ByteArray.empty true (by rfl) rfl rfl (by rfl)) hS ?_
                simp only [Act.put, List.setIfInBounds_toArray, List.set_cons_zero, List.set_cons_succ]
                refine takeAt 48 130 (.bool true) rfl rfl (by kernel_rfl) (by kernel_rfl) (by kernel_rfl) (fun _ _ _ h => h) (yields (by rfl) (fun w => by kernel_rfl)) hS ?_
                simp only [Act.put, List.setIfInBounds_toArray, List.set_cons_zero, List.set_cons_succ]
                refine takeAt 49 131 (.bool true) rfl rfl (by kernel_rfl) (by kernel_rfl) (by kernel_rfl) (fun _ _ _ h => h) (yields (by rfl) (fun w => by kernel_rfl)) hS ?_
                simp only [Act.put, List.setIfInBounds_toArray, List.set_cons_zero, List.set_cons_succ]
                refine takeAt 50 132 (.pointer (some ⟨u2.heap.size, 5, none⟩)) rfl rfl (by kernel_rfl) (by kernel_rfl) (by kernel_rfl) (fun _ _ _ h => h) (yields (by rfl) (fun w => by kernel_rfl)) hS ?_
                simp only [Act.put, List.setIfInBounds_toArray, List.set_cons_zero, List.set_cons_succ]
                as_aux_lemma =>
                  refine takeAt 51 133 (.bool false) rfl rfl (by kernel_rfl) (by kernel_rfl) (by kernel_rfl) (fun _ _ _ h => h) (loadB9_y u2.heap.size 5 false (fun _ h => BoxF.c5 h.2.1) rfl rfl (by rfl)) hS ?_
                  simp only [Act.put, List.setIfInBounds_toArray, List.set_cons_zero, List.set_cons_succ]
                  refine takeAt 52 134 (.bool true) rfl rfl (by kernel_rfl) (by kernel_rfl) (by kernel_rfl) (fun _ _ _ h => h) (yields (by rfl) (fun w => by kernel_rfl)) hS ?_
                  simp only [Act.put, List.setIfInBounds_toArray, List.set_cons_zero, List.set_cons_succ]
                  refine takeAt 53 135 (.bool true) rfl rfl (by kernel_rfl) (by kernel_rfl) (by kernel_rfl) (fun _ _ _ h => h) (yields (by rfl) (fun w => by kernel_rfl)) hS ?_
                  simp only [Act.put, List.setIfInBounds_toArray, List.set_cons_zero, List.set_cons_succ]
                  refine takeAt 54 136 (undef) rfl rfl (by kernel_rfl) (by kernel_rfl) (by kernel_rfl) (fun _ _ _ h => h) (skipped (by rfl)) hS ?_
                  simp only [Act.put, List.setIfInBounds_toArray, List.set_cons_zero, List.set_cons_succ]
                  refine takeAt 55 137 (undef) rfl rfl (by kernel_rfl) (by kernel_rfl) (by kernel_rfl) (fun _ _ _ h => h) (skipped (by rfl)) hS ?_
                  simp only [Act.put, List.setIfInBounds_toArray, List.set_cons_zero, List.set_cons_succ]
                  refine takeAt 56 138 (.bool true) rfl rfl (by kernel_rfl) (by kernel_rfl) (by kernel_rfl) (fun _ _ _ h => h) (yields (by rfl) (fun w => by kernel_rfl)) hS ?_
                  simp only [Act.put, List.setIfInBounds_toArray, List.set_cons_zero, List.set_cons_succ]
                  refine takeAt 57 139 (.bool true) rfl rfl (by kernel_rfl) (by kernel_rfl) (by kernel_rfl) (fun _ _ _ h => h) (yields (by rfl) (fun w => by kernel_rfl)) hS ?_
                  simp only [Act.put, List.setIfInBounds_toArray, List.set_cons_zero, List.set_cons_succ]
                  refine takeAt 58 140 (.bool true) rfl rfl (by kernel_rfl) (by kernel_rfl) (by kernel_rfl) (fun _ _ _ h => h) (yields (by rfl) (fun w => by kernel_rfl)) hS ?_
                  simp only [Act.put, List.setIfInBounds_toArray, List.set_cons_zero, List.set_cons_succ]
                  refine takeAt 59 141 (.pointer (some ⟨y3.heap.size, 5, none⟩)) rfl rfl (by kernel_rfl) (by kernel_rfl) (by kernel_rfl) (fun _ _ _ h => h) (yields (by rfl) (fun w => by kernel_rfl)) hS ?_
                  simp only [Act.put, List.setIfInBounds_toArray, List.set_cons_zero, List.set_cons_succ]
                  refine takeAt 60 142 (.bool false) rfl rfl (by kernel_rfl) (by kernel_rfl) (by kernel_rfl) (fun _ _ _ h => h) (loadB9_y y3.heap.size 5 false (fun _ h => BoxF.c5 h.2.2.2.2.1) rfl rfl (by rfl)) hS ?_
                  simp only [Act.put, List.setIfInBounds_toArray, List.set_cons_zero, List.set_cons_succ]
                  refine takeAt 61 143 (.pointer (some ⟨u2.heap.size, 5, none⟩)) rfl rfl (by kernel_rfl) (by kernel_rfl) (by kernel_rfl) (fun _ _ _ h => h) (yields (by rfl) (fun w => by kernel_rfl)) hS ?_
                  simp only [Act.put, List.setIfInBounds_toArray, List.set_cons_zero, List.set_cons_succ]
                  refine takeAt 62 144 (.bool false) rfl rfl (by kernel_rfl) (by kernel_rfl) (by kernel_rfl) (fun _ _ _ h => h) (loadB9_y u2.heap.size 5 false (fun _ h => BoxF.c5 h.2.1) rfl rfl (by rfl)) hS ?_
                  simp only [Act.put, List.setIfInBounds_toArray, List.set_cons_zero, List.set_cons_succ]
                  refine takeAt 63 145 (.bool false) rfl rfl (by kernel_rfl) (by kernel_rfl) (by kernel_rfl) (fun _ _ _ h => h) (yields (by rfl) (fun w => by kernel_rfl)) hS ?_
                  simp only [Act.put, List.setIfInBounds_toArray, List.set_cons_zero, List.set_cons_succ]
                  refine takeAt 64 146 (undef) rfl rfl (by kernel_rfl) (by kernel_rfl) (by kernel_rfl) (fun _ _ _ h => h) (skipped (by rfl)) hS ?_
                  simp only [Act.put, List.setIfInBounds_toArray, List.set_cons_zero, List.set_cons_succ]
                  refine takeAt 65 147 (undef) rfl rfl (by kernel_rfl) (by kernel_rfl) (by kernel_rfl) (fun _ _ _ h => h) (skipped (by rfl)) hS ?_
                  simp only [Act.put, List.setIfInBounds_toArray, List.set_cons_zero, List.set_cons_succ]
                  refine takeAt 66 148 (.bool false) rfl rfl (by kernel_rfl) (by kernel_rfl) (by kernel_rfl) (fun _ _ _ h => h) (yields (by rfl) (fun w => by kernel_rfl)) hS ?_
                  simp only [Act.put, List.setIfInBounds_toArray, List.set_cons_zero, List.set_cons_succ]
                  refine takeAt 67 149 (.bool true) rfl rfl (by kernel_rfl) (by kernel_rfl) (by kernel_rfl) (fun _ _ _ h => h) (eqB9_y false rfl rfl rfl (by rfl)) hS ?_
                  simp only [Act.put, List.setIfInBounds_toArray, List.set_cons_zero, List.set_cons_succ]
                  refine takeAt 68 150 (.bool true) rfl rfl (by kernel_rfl) (by kernel_rfl) (by kernel_rfl) (fun _ _ _ h => h) (yields (by rfl) (fun w => by kernel_rfl)) hS ?_
                  simp only [Act.put, List.setIfInBounds_toArray, List.set_cons_zero, List.set_cons_succ]
                  refine takeAt 69 151 (.bool true) rfl rfl (by kernel_rfl) (by kernel_rfl) (by kernel_rfl) (fun _ _ _ h => h) (yields (by rfl) (fun w => by kernel_rfl)) hS ?_
                  simp only [Act.put, List.setIfInBounds_toArray, List.set_cons_zero, List.set_cons_succ]
                  refine callAt 70 152 rfl rfl (by kernel_rfl) (by rfl) (by kernel_rfl) (HFix.out _ hS.1.tabs) ?_
                  rintro e v1 ⟨rfl, hb⟩
                  have hS := And.intro (hS.1.call hb) (And.intro (hS.2.1.below hb hS.2.1.lt) (And.intro (hS.2.2.1.below hb hS.2.2.1.lt) (And.intro (hS.2.2.2.1.below hb hS.2.2.2.1.lt) (And.intro (hS.2.2.2.2.1.below hb hS.2.2.2.2.1.lt) (hS.2.2.2.2.2.below hb hS.2.2.2.2.2.lt)))))
                  clear hb
                  refine ⟨_, rfl, hS, ?_⟩
                  simp only [Act.put, List.setIfInBounds_toArray, List.set_cons_zero, List.set_cons_succ]
                  refine takeAt 71 153 (.bool true) rfl rfl (by kernel_rfl) (by kernel_rfl) (by kernel_rfl) (fun _ _ _ h => h) (yields (by rfl) (fun w => by kernel_rfl)) hS ?_
                  simp only [Act.put, List.setIfInBounds_toArray, List.set_cons_zero, List.set_cons_succ]
                  refine takeAt 72 4 (.bool true) rfl rfl (by kernel_rfl) (by kernel_rfl) (by kernel_rfl) (fun _ _ _ h => h) (yields (by rfl) (fun w => by kernel_rfl)) hS ?_
                  simp only [Act.put, List.setIfInBounds_toArray, List.set_cons_zero, List.set_cons_succ]
                  refine wpAnyH_done (by kernel_rfl) ?_ _
                  have HZ := Lib.hid hS.1
                  clear hS
                  go_wp2
                  go_ret
                  exact ⟨rfl, HZ.out.below⟩
            · simp only [List.append_eq, List.cons_append, List.nil_append]
              refine wp_region_held_drew (S := fun u => CBx w A m cap l B k cap' l' u ∧ BoxF u u2.heap.size ⟨F1, true, true, pr1, wh1⟩ ∧ BoxF u u4.heap.size ⟨F2, op2, fa2, pr2, wh2⟩ ∧ BoxF u y2.heap.size ⟨(F1 ||| F2), true && op2, true || (fa2 && z), P, false⟩ ∧ BoxF u y3.heap.size ⟨F1 ||| F2, true || op2, true && fa2, ByteArray.empty, false⟩ ∧ BoxV 29 u x3.heap.size (setC (F1 ||| F2))) (by kernel_rfl) (show _ from ⟨HL.out.call (Below.refl _ _).drew, HF.out.drew, HE.out.drew, HQ2.out.drew, HQ3.out.drew, HS.out.drew⟩) (fun hS => ?_)
              clear HL HF HE HQ2 HQ3 HS
              generalize World.drew _ = y0 at hS ⊢
              refine takeAt 0 82 (.int .i64 0) rfl rfl (by kernel_rfl) (by kernel_rfl) (by kernel_rfl) (fun _ _ _ h => h) (yields (by rfl) (fun w => by kernel_rfl)) hS ?_
              simp only [Act.put, List.setIfInBounds_toArray, List.set_cons_zero, List.set_cons_succ]
              refine takeAt 1 83 (.bool true) rfl rfl (by kernel_rfl) (by kernel_rfl) (by kernel_rfl) (fun _ _ _ h => h) (eqlE9_y true (by rfl) rfl rfl rfl (by rfl)) hS ?_
              simp only [Act.put, List.setIfInBounds_toArray, List.set_cons_zero, List.set_cons_succ]
              refine takeAt 2 84 (.bool true) rfl rfl (by kernel_rfl) (by kernel_rfl) (by kernel_rfl) (fun _ _ _ h => h) (yields (by rfl) (fun w => by kernel_rfl)) hS ?_
              simp only [Act.put, List.setIfInBounds_toArray, List.set_cons_zero, List.set_cons_succ]
              refine takeAt 3 85 (.int .i64 0) rfl rfl (by kernel_rfl) (by kernel_rfl) (by kernel_rfl) (fun _ _ _ h => h) (yields (by rfl) (fun w => by kernel_rfl)) hS ?_
              simp only [Act.put, List.setIfInBounds_toArray, List.set_cons_zero, List.set_cons_succ]
              refine takeAt 4 86 (.bool true) rfl rfl (by kernel_rfl) (by kernel_rfl) (by kernel_rfl) (fun _ _ _ h => h) (eqlE9_y true (by rfl) rfl rfl rfl (by rfl)) hS ?_
              simp only [Act.put, List.setIfInBounds_toArray, List.set_cons_zero, List.set_cons_succ]
              refine takeAt 5 87 (.bool true) rfl rfl (by kernel_rfl) (by kernel_rfl) (by kernel_rfl) (fun _ _ _ h => h) (yields (by rfl) (fun w => by kernel_rfl)) hS ?_
              simp only [Act.put, List.setIfInBounds_toArray, List.set_cons_zero, List.set_cons_succ]
              refine takeAt 6 88 (.bool true) rfl rfl (by kernel_rfl) (by kernel_rfl) (by kernel_rfl) (fun _ _ _ h => h) (yields (by rfl) (fun w => by kernel_rfl)) hS ?_
              simp only [Act.put, List.setIfInBounds_toArray, List.set_cons_zero, List.set_cons_succ]
              refine takeAt 7 89 (.pointer (some ⟨y2.heap.size, 0, none⟩)) rfl rfl (by kernel_rfl) (by kernel_rfl) (by kernel_rfl) (fun _ _ _ h => h) (yields (by rfl) (fun w => by kernel_rfl)) hS ?_
              simp only [Act.put, List.setIfInBounds_toArray, List.set_cons_zero, List.set_cons_succ]
              refine takeAt 8 90 (setV (F1 ||| F2)) rfl rfl (by kernel_rfl) (by kernel_rfl) (by kernel_rfl) (fun _ _ _ h => h) (loadSF_y y2.heap.size ⟨(F1 ||| F2), true && op2, true || (fa2 && z), P, false⟩ (fun _ h => h.2.2.2.1) rfl rfl (by rfl)) hS ?_
              simp only [Act.put, List.setIfInBounds_toArray, List.set_cons_zero, List.set_cons_succ]
              refine takeAt 9 91 (setV (F1 ||| F2)) rfl rfl (by kernel_rfl) (by kernel_rfl) (by kernel_rfl) (fun _ _ _ h => h) (loadSc_y x3.heap.size (F1 ||| F2) (fun _ h => h.2.2.2.2.2) rfl rfl (by rfl)) hS ?_
              simp only [Act.put, List.setIfInBounds_toArray, List.set_cons_zero, List.set_cons_succ]
              refine takeAt 10 92 (.bool true) rfl rfl (by kernel_rfl) (by kernel_rfl) (by kernel_rfl) (fun _ _ _ h => h) (eqSetc_y (F1 ||| F2) rfl rfl rfl (by rfl)) hS ?_
              simp only [Act.put, List.setIfInBounds_toArray, List.set_cons_zero, List.set_cons_succ]
              refine takeAt 11 93 (.bool true) rfl rfl (by kernel_rfl) (by kernel_rfl) (by kernel_rfl) (fun _ _ _ h => h) (yields (by rfl) (fun w => by kernel_rfl)) hS ?_
              simp only [Act.put, List.setIfInBounds_toArray, List.set_cons_zero, List.set_cons_succ]
              refine takeAt 12 94 (.bool true) rfl rfl (by kernel_rfl) (by kernel_rfl) (by kernel_rfl) (fun _ _ _ h => h) (yields (by rfl) (fun w => by kernel_rfl)) hS ?_
              simp only [Act.put, List.setIfInBounds_toArray, List.set_cons_zero, List.set_cons_succ]
              refine takeAt 13 95 (.pointer (some ⟨y2.heap.size, 4, none⟩)) rfl rfl (by kernel_rfl) (by kernel_rfl) (by kernel_rfl) (fun _ _ _ h => h) (yields (by rfl) (fun w => by kernel_rfl)) hS ?_
              simp only [Act.put, List.setIfInBounds_toArray, List.set_cons_zero, List.set_cons_succ]
              refine takeAt 14 96 (.bool op2) rfl rfl (by kernel_rfl) (by kernel_rfl) (by kernel_rfl) (fun _ _ _ h => h) (loadB9_y y2.heap.size 4 op2 (fun _ h => BoxF.c4 h.2.2.2.1) rfl rfl (by rfl)) hS ?_
              simp only [Act.put, List.setIfInBounds_toArray, List.set_cons_zero, List.set_cons_succ]
              refine takeAt 15 97 (.pointer (some ⟨u2.heap.size, 4, none⟩)) rfl rfl (by kernel_rfl) (by kernel_rfl) (by kernel_rfl) (fun _ _ _ h => h) (yields (by rfl) (fun w => by kernel_rfl)) hS ?_
              simp only [Act.put, List.setIfInBounds_toArray, List.set_cons_zero, List.set_cons_succ]
              refine takeAt 16 98 (.bool true) rfl rfl (by kernel_rfl) (by kernel_rfl) (by kernel_rfl) (fun _ _ _ h => h) (loadB9_y u2.heap.size 4 true (fun _ h => BoxF.c4 h.2.1) rfl rfl (by rfl)) hS ?_
              simp only [Act.put, List.setIfInBounds_toArray, List.set_cons_zero, List.set_cons_succ]
              refine takeAt 17 99 (.bool true) rfl rfl (by kernel_rfl) (by kernel_rfl) (by kernel_rfl) (fun _ _ _ h => h) (yields (by rfl) (fun w => by kernel_rfl)) hS ?_
              simp only [Act.put, List.setIfInBounds_toArray, List.set_cons_zero, List.set_cons_succ]
              refine takeAt 18 100 (.pointer (some ⟨u4.heap.size, 4, none⟩)) rfl rfl (by kernel_rfl) (by kernel_rfl) (by kernel_rfl) (fun _ _ _ h => h) (yields (by rfl) (fun w => by kernel_rfl)) hS ?_
              simp only [Act.put, List.setIfInBounds_toArray, List.set_cons_zero, List.set_cons_succ]
              refine takeAt 19 101 (.bool op2) rfl rfl (by kernel_rfl) (by kernel_rfl) (by kernel_rfl) (fun _ _ _ h => h) (loadB9_y u4.heap.size 4 op2 (fun _ h => BoxF.c4 h.2.2.1) rfl rfl (by rfl)) hS ?_
              simp only [Act.put, List.setIfInBounds_toArray, List.set_cons_zero, List.set_cons_succ]
              refine takeAt 20 102 (.bool op2) rfl rfl (by kernel_rfl) (by kernel_rfl) (by kernel_rfl) (fun _ _ _ h => h) (yields (by rfl) (fun w => by kernel_rfl)) hS ?_
              simp only [Act.put, List.setIfInBounds_toArray, List.set_cons_zero, List.set_cons_succ]
              refine takeAt 21 103 (.bool true) rfl rfl (by kernel_rfl) (by kernel_rfl) (by kernel_rfl) (fun _ _ _ h => h) (eqB9_y op2 rfl rfl rfl (by rfl)) hS ?_
              simp only [Act.put, List.setIfInBounds_toArray, List.set_cons_zero, List.set_cons_succ]
              refine takeAt 22 104 (.bool true) rfl rfl (by kernel_rfl) (by kernel_rfl) (by kernel_rfl) (fun _ _ _ h => h) (yields (by rfl) (fun w => by kernel_rfl)) hS ?_
              simp only [Act.put, List.setIfInBounds_toArray, List.set_cons_zero, List.set_cons_succ]
              refine takeAt 23 105 (.bool true) rfl rfl (by kernel_rfl) (by kernel_rfl) (by kernel_rfl) (fun _ _ _ h => h) (yields (by rfl) (fun w => by kernel_rfl)) hS ?_
              simp only [Act.put, List.setIfInBounds_toArray, List.set_cons_zero, List.set_cons_succ]
              refine takeAt 24 106 (.pointer (some ⟨y3.heap.size, 0, none⟩)) rfl rfl (by kernel_rfl) (by kernel_rfl) (by kernel_rfl) (fun _ _ _ h => h) (yields (by rfl) (fun w => by kernel_rfl)) hS ?_
              simp only [Act.put, List.setIfInBounds_toArray, List.set_cons_zero, List.set_cons_succ]
              as_aux_lemma =>
                refine takeAt 25 107 (setV (F1 ||| F2)) rfl rfl (by kernel_rfl) (by kernel_rfl) (by kernel_rfl) (fun _ _ _ h => h) (loadSF_y y3.heap.size ⟨F1 ||| F2, true || op2, true && fa2, ByteArray.empty, false⟩ (fun _ h => h.2.2.2.2.1) rfl rfl (by rfl)) hS ?_
                simp only [Act.put, List.setIfInBounds_toArray, List.set_cons_zero, List.set_cons_succ]
                refine takeAt 26 108 (.pointer (some ⟨u2.heap.size, 0, none⟩)) rfl rfl (by kernel_rfl) (by kernel_rfl) (by kernel_rfl) (fun _ _ _ h => h) (yields (by rfl) (fun w => by kernel_rfl)) hS ?_
                simp only [Act.put, List.setIfInBounds_toArray, List.set_cons_zero, List.set_cons_succ]
                refine takeAt 27 109 (setV F1) rfl rfl (by kernel_rfl) (by kernel_rfl) (by kernel_rfl) (fun _ _ _ h => h) (loadSF_y u2.heap.size ⟨F1, true, true, pr1, wh1⟩ (fun _ h => h.2.1) rfl rfl (by rfl)) hS ?_
                simp only [Act.put, List.setIfInBounds_toArray, List.set_cons_zero, List.set_cons_succ]
                refine takeAt 28 110 (.pointer (some ⟨u4.heap.size, 0, none⟩)) rfl rfl (by kernel_rfl) (by kernel_rfl) (by kernel_rfl) (fun _ _ _ h => h) (yields (by rfl) (fun w => by kernel_rfl)) hS ?_
                simp only [Act.put, List.setIfInBounds_toArray, List.set_cons_zero, List.set_cons_succ]
                refine takeAt 29 111 (setV F2) rfl rfl (by kernel_rfl) (by kernel_rfl) (by kernel_rfl) (fun _ _ _ h => h) (loadSF_y u4.heap.size ⟨F2, op2, fa2, pr2, wh2⟩ (fun _ h => h.2.2.1) rfl rfl (by rfl)) hS ?_
                simp only [Act.put, List.setIfInBounds_toArray, List.set_cons_zero, List.set_cons_succ]
                refine callAt 30 112 rfl rfl (by kernel_rfl) (by rfl) (by kernel_rfl) (HOr.out _) ?_
                rintro e v1 ⟨rfl, hb⟩
                have hS := And.intro (hS.1.call hb) (And.intro (hS.2.1.below hb hS.2.1.lt) (And.intro (hS.2.2.1.below hb hS.2.2.1.lt) (And.intro (hS.2.2.2.1.below hb hS.2.2.2.1.lt) (And.intro (hS.2.2.2.2.1.below hb hS.2.2.2.2.1.lt) (hS.2.2.2.2.2.below hb hS.2.2.2.2.2.lt)))))
                clear hb
                refine ⟨_, rfl, hS, ?_⟩
                simp only [Act.put, List.setIfInBounds_toArray, List.set_cons_zero, List.set_cons_succ]
                refine takeAt 31 113 (.bool true) rfl rfl (by kernel_rfl) (by kernel_rfl) (by kernel_rfl) (fun _ _ _ h => h) (eqSetc_y (F1 ||| F2) rfl rfl rfl (by rfl)) hS ?_
                simp only [Act.put, List.setIfInBounds_toArray, List.set_cons_zero, List.set_cons_succ]
                refine takeAt 32 114 (.bool true) rfl rfl (by kernel_rfl) (by kernel_rfl) (by kernel_rfl) (fun _ _ _ h => h) (yields (by rfl) (fun w => by kernel_rfl)) hS ?_
                simp only [Act.put, List.setIfInBounds_toArray, List.set_cons_zero, List.set_cons_succ]
                refine takeAt 33 115 (.bool true) rfl rfl (by kernel_rfl) (by kernel_rfl) (by kernel_rfl) (fun _ _ _ h => h) (yields (by rfl) (fun w => by kernel_rfl)) hS ?_
                simp only [Act.put, List.setIfInBounds_toArray, List.set_cons_zero, List.set_cons_succ]
                refine takeAt 34 116 (.pointer (some ⟨y3.heap.size, 4, none⟩)) rfl rfl (by kernel_rfl) (by kernel_rfl) (by kernel_rfl) (fun _ _ _ h => h) (yields (by rfl) (fun w => by kernel_rfl)) hS ?_
                simp only [Act.put, List.setIfInBounds_toArray, List.set_cons_zero, List.set_cons_succ]
                refine takeAt 35 117 (.bool true) rfl rfl (by kernel_rfl) (by kernel_rfl) (by kernel_rfl) (fun _ _ _ h => h) (loadB9_y y3.heap.size 4 true (fun _ h => BoxF.c4 h.2.2.2.2.1) rfl rfl (by rfl)) hS ?_
                simp only [Act.put, List.setIfInBounds_toArray, List.set_cons_zero, List.set_cons_succ]
                refine takeAt 36 118 (.pointer (some ⟨u2.heap.size, 4, none⟩)) rfl rfl (by kernel_rfl) (by kernel_rfl) (by kernel_rfl) (fun _ _ _ h => h) (yields (by rfl) (fun w => by kernel_rfl)) hS ?_
                simp only [Act.put, List.setIfInBounds_toArray, List.set_cons_zero, List.set_cons_succ]
                refine takeAt 37 119 (.bool true) rfl rfl (by kernel_rfl) (by kernel_rfl) (by kernel_rfl) (fun _ _ _ h => h) (loadB9_y u2.heap.size 4 true (fun _ h => BoxF.c4 h.2.1) rfl rfl (by rfl)) hS ?_
                simp only [Act.put, List.setIfInBounds_toArray, List.set_cons_zero, List.set_cons_succ]
                refine takeAt 38 120 (.bool true) rfl rfl (by kernel_rfl) (by kernel_rfl) (by kernel_rfl) (fun _ _ _ h => h) (yields (by rfl) (fun w => by kernel_rfl)) hS ?_
                simp only [Act.put, List.setIfInBounds_toArray, List.set_cons_zero, List.set_cons_succ]
                refine takeAt 39 121 (undef) rfl rfl (by kernel_rfl) (by kernel_rfl) (by kernel_rfl) (fun _ _ _ h => h) (skipped (by rfl)) hS ?_
                simp only [Act.put, List.setIfInBounds_toArray, List.set_cons_zero, List.set_cons_succ]
                refine takeAt 40 122 (undef) rfl rfl (by kernel_rfl) (by kernel_rfl) (by kernel_rfl) (fun _ _ _ h => h) (skipped (by rfl)) hS ?_
                simp only [Act.put, List.setIfInBounds_toArray, List.set_cons_zero, List.set_cons_succ]
                refine takeAt 41 123 (.bool true) rfl rfl (by kernel_rfl) (by kernel_rfl) (by kernel_rfl) (fun _ _ _ h => h) (yields (by rfl) (fun w => by kernel_rfl)) hS ?_
                simp only [Act.put, List.setIfInBounds_toArray, List.set_cons_zero, List.set_cons_succ]
                refine takeAt 42 124 (.bool true) rfl rfl (by kernel_rfl) (by kernel_rfl) (by kernel_rfl) (fun _ _ _ h => h) (eqB9_y true rfl rfl rfl (by rfl)) hS ?_
                simp only [Act.put, List.setIfInBounds_toArray, List.set_cons_zero, List.set_cons_succ]
                refine takeAt 43 125 (.bool true) rfl rfl (by kernel_rfl) (by kernel_rfl) (by kernel_rfl) (fun _ _ _ h => h) (yields (by rfl) (fun w => by kernel_rfl)) hS ?_
                simp only [Act.put, List.setIfInBounds_toArray, List.set_cons_zero, List.set_cons_succ]
                refine takeAt 44 126 (.bool true) rfl rfl (by kernel_rfl) (by kernel_rfl) (by kernel_rfl) (fun _ _ _ h => h) (yields (by rfl) (fun w => by kernel_rfl)) hS ?_
                simp only [Act.put, List.setIfInBounds_toArray, List.set_cons_zero, List.set_cons_succ]
                refine takeAt 45 127 (.pointer (some ⟨y3.heap.size, 6, none⟩)) rfl rfl (by kernel_rfl) (by kernel_rfl) (by kernel_rfl) (fun _ _ _ h => h) (yields (by rfl) (fun w => by kernel_rfl)) hS ?_
                simp only [Act.put, List.setIfInBounds_toArray, List.set_cons_zero, List.set_cons_succ]
                refine takeAt 46 128 (.string ByteArray.empty) rfl rfl (by kernel_rfl) (by kernel_rfl) (by kernel_rfl) (fun _ _ _ h => h) (loadP9_y y3.heap.size 6 ByteArray.empty (fun _ h => BoxF.c6 h.2.2.2.2.1) rfl rfl (by rfl)) hS ?_
                simp only [Act.put, List.setIfInBounds_toArray, List.set_cons_zero, List.set_cons_succ]
                refine takeAt 47 129 (.bool true) rfl rfl (by kernel_rfl) (by kernel_rfl) (by kernel_rfl) (fun _ _ _ h => h) (eqE9_y ByteArray.empty true (by rfl) rfl rfl (by rfl)) hS ?_
                simp only [Act.put, List.setIfInBounds_toArray, List.set_cons_zero, List.set_cons_succ]
                refine takeAt 48 130 (.bool true) rfl rfl (by kernel_rfl) (by kernel_rfl) (by kernel_rfl) (fun _ _ _ h => h) (yields (by rfl) (fun w => by kernel_rfl)) hS ?_
                simp only [Act.put, List.setIfInBounds_toArray, List.set_cons_zero, List.set_cons_succ]
                refine takeAt 49 131 (.bool true) rfl rfl (by kernel_rfl) (by kernel_rfl) (by kernel_rfl) (fun _ _ _ h => h) (yields (by rfl) (fun w => by kernel_rfl)) hS ?_
                simp only [Act.put, List.setIfInBounds_toArray, List.set_cons_zero, List.set_cons_succ]
                refine takeAt 50 132 (.pointer (some ⟨u2.heap.size, 5, none⟩)) rfl rfl (by kernel_rfl) (by kernel_rfl) (by kernel_rfl) (fun _ _ _ h => h) (yields (by rfl) (fun w => by kernel_rfl)) hS ?_
                simp only [Act.put, List.setIfInBounds_toArray, List.set_cons_zero, List.set_cons_succ]
                as_aux_lemma =>
                  refine takeAt 51 133 (.bool true) rfl rfl (by kernel_rfl) (by kernel_rfl) (by kernel_rfl) (fun _ _ _ h => h) (loadB9_y u2.heap.size 5 true (fun _ h => BoxF.c5 h.2.1) rfl rfl (by rfl)) hS ?_
                  simp only [Act.put, List.setIfInBounds_toArray, List.set_cons_zero, List.set_cons_succ]
                  refine takeAt 52 134 (.bool false) rfl rfl (by kernel_rfl) (by kernel_rfl) (by kernel_rfl) (fun _ _ _ h => h) (yields (by rfl) (fun w => by kernel_rfl)) hS ?_
                  simp only [Act.put, List.setIfInBounds_toArray, List.set_cons_zero, List.set_cons_succ]
                  refine takeAt 53 135 (.bool false) rfl rfl (by kernel_rfl) (by kernel_rfl) (by kernel_rfl) (fun _ _ _ h => h) (yields (by rfl) (fun w => by kernel_rfl)) hS ?_
                  simp only [Act.put, List.setIfInBounds_toArray, List.set_cons_zero, List.set_cons_succ]
                  refine takeAt 54 136 (.pointer (some ⟨y2.heap.size, 5, none⟩)) rfl rfl (by kernel_rfl) (by kernel_rfl) (by kernel_rfl) (fun _ _ _ h => h) (yields (by rfl) (fun w => by kernel_rfl)) hS ?_
                  simp only [Act.put, List.setIfInBounds_toArray, List.set_cons_zero, List.set_cons_succ]
                  refine takeAt 55 137 (.bool true) rfl rfl (by kernel_rfl) (by kernel_rfl) (by kernel_rfl) (fun _ _ _ h => h) (loadB9_y y2.heap.size 5 true (fun _ h => BoxF.c5 h.2.2.2.1) rfl rfl (by rfl)) hS ?_
                  simp only [Act.put, List.setIfInBounds_toArray, List.set_cons_zero, List.set_cons_succ]
                  refine takeAt 56 138 (.bool true) rfl rfl (by kernel_rfl) (by kernel_rfl) (by kernel_rfl) (fun _ _ _ h => h) (yields (by rfl) (fun w => by kernel_rfl)) hS ?_
                  simp only [Act.put, List.setIfInBounds_toArray, List.set_cons_zero, List.set_cons_succ]
                  refine takeAt 57 139 (.bool true) rfl rfl (by kernel_rfl) (by kernel_rfl) (by kernel_rfl) (fun _ _ _ h => h) (yields (by rfl) (fun w => by kernel_rfl)) hS ?_
                  simp only [Act.put, List.setIfInBounds_toArray, List.set_cons_zero, List.set_cons_succ]
                  refine takeAt 58 140 (.bool true) rfl rfl (by kernel_rfl) (by kernel_rfl) (by kernel_rfl) (fun _ _ _ h => h) (yields (by rfl) (fun w => by kernel_rfl)) hS ?_
                  simp only [Act.put, List.setIfInBounds_toArray, List.set_cons_zero, List.set_cons_succ]
                  refine takeAt 59 141 (.pointer (some ⟨y3.heap.size, 5, none⟩)) rfl rfl (by kernel_rfl) (by kernel_rfl) (by kernel_rfl) (fun _ _ _ h => h) (yields (by rfl) (fun w => by kernel_rfl)) hS ?_
                  simp only [Act.put, List.setIfInBounds_toArray, List.set_cons_zero, List.set_cons_succ]
                  refine takeAt 60 142 (.bool fa2) rfl rfl (by kernel_rfl) (by kernel_rfl) (by kernel_rfl) (fun _ _ _ h => h) (loadB9_y y3.heap.size 5 fa2 (fun _ h => BoxF.c5 h.2.2.2.2.1) rfl rfl (by rfl)) hS ?_
                  simp only [Act.put, List.setIfInBounds_toArray, List.set_cons_zero, List.set_cons_succ]
                  refine takeAt 61 143 (.pointer (some ⟨u2.heap.size, 5, none⟩)) rfl rfl (by kernel_rfl) (by kernel_rfl) (by kernel_rfl) (fun _ _ _ h => h) (yields (by rfl) (fun w => by kernel_rfl)) hS ?_
                  simp only [Act.put, List.setIfInBounds_toArray, List.set_cons_zero, List.set_cons_succ]
                  refine takeAt 62 144 (.bool true) rfl rfl (by kernel_rfl) (by kernel_rfl) (by kernel_rfl) (fun _ _ _ h => h) (loadB9_y u2.heap.size 5 true (fun _ h => BoxF.c5 h.2.1) rfl rfl (by rfl)) hS ?_
                  simp only [Act.put, List.setIfInBounds_toArray, List.set_cons_zero, List.set_cons_succ]
                  refine takeAt 63 145 (.bool true) rfl rfl (by kernel_rfl) (by kernel_rfl) (by kernel_rfl) (fun _ _ _ h => h) (yields (by rfl) (fun w => by kernel_rfl)) hS ?_
                  simp only [Act.put, List.setIfInBounds_toArray, List.set_cons_zero, List.set_cons_succ]
                  refine takeAt 64 146 (.pointer (some ⟨u4.heap.size, 5, none⟩)) rfl rfl (by kernel_rfl) (by kernel_rfl) (by kernel_rfl) (fun _ _ _ h => h) (yields (by rfl) (fun w => by kernel_rfl)) hS ?_
                  simp only [Act.put, List.setIfInBounds_toArray, List.set_cons_zero, List.set_cons_succ]
                  refine takeAt 65 147 (.bool fa2) rfl rfl (by kernel_rfl) (by kernel_rfl) (by kernel_rfl) (fun _ _ _ h => h) (loadB9_y u4.heap.size 5 fa2 (fun _ h => BoxF.c5 h.2.2.1) rfl rfl (by rfl)) hS ?_
                  simp only [Act.put, List.setIfInBounds_toArray, List.set_cons_zero, List.set_cons_succ]
                  refine takeAt 66 148 (.bool fa2) rfl rfl (by kernel_rfl) (by kernel_rfl) (by kernel_rfl) (fun _ _ _ h => h) (yields (by rfl) (fun w => by kernel_rfl)) hS ?_
                  simp only [Act.put, List.setIfInBounds_toArray, List.set_cons_zero, List.set_cons_succ]
                  refine takeAt 67 149 (.bool true) rfl rfl (by kernel_rfl) (by kernel_rfl) (by kernel_rfl) (fun _ _ _ h => h) (eqB9_y fa2 rfl rfl rfl (by rfl)) hS ?_
                  simp only [Act.put, List.setIfInBounds_toArray, List.set_cons_zero, List.set_cons_succ]
                  refine takeAt 68 150 (.bool true) rfl rfl (by kernel_rfl) (by kernel_rfl) (by kernel_rfl) (fun _ _ _ h => h) (yields (by rfl) (fun w => by kernel_rfl)) hS ?_
                  simp only [Act.put, List.setIfInBounds_toArray, List.set_cons_zero, List.set_cons_succ]
                  refine takeAt 69 151 (.bool true) rfl rfl (by kernel_rfl) (by kernel_rfl) (by kernel_rfl) (fun _ _ _ h => h) (yields (by rfl) (fun w => by kernel_rfl)) hS ?_
                  simp only [Act.put, List.setIfInBounds_toArray, List.set_cons_zero, List.set_cons_succ]
                  refine callAt 70 152 rfl rfl (by kernel_rfl) (by rfl) (by kernel_rfl) (HFix.out _ hS.1.tabs) ?_
                  rintro e v1 ⟨rfl, hb⟩
                  have hS := And.intro (hS.1.call hb) (And.intro (hS.2.1.below hb hS.2.1.lt) (And.intro (hS.2.2.1.below hb hS.2.2.1.lt) (And.intro (hS.2.2.2.1.below hb hS.2.2.2.1.lt) (And.intro (hS.2.2.2.2.1.below hb hS.2.2.2.2.1.lt) (hS.2.2.2.2.2.below hb hS.2.2.2.2.2.lt)))))
                  clear hb
                  refine ⟨_, rfl, hS, ?_⟩
                  simp only [Act.put, List.setIfInBounds_toArray, List.set_cons_zero, List.set_cons_succ]
                  refine takeAt 71 153 (.bool true) rfl rfl (by kernel_rfl) (by kernel_rfl) (by kernel_rfl) (fun _ _ _ h => h) (yields (by rfl) (fun w => by kernel_rfl)) hS ?_
                  simp only [Act.put, List.setIfInBounds_toArray, List.set_cons_zero, List.set_cons_succ]
                  refine takeAt 72 4 (.bool true) rfl rfl (by kernel_rfl) (by kernel_rfl) (by kernel_rfl) (fun _ _ _ h => h) (yields (by rfl) (fun w => by kernel_rfl)) hS ?_
                  simp only [Act.put, List.setIfInBounds_toArray, List.set_cons_zero, List.set_cons_succ]
                  refine wpAnyH_done (by kernel_rfl) ?_ _
                  have HZ := Lib.hid hS.1
                  clear hS
                  go_wp2
                  go_ret
                  exact ⟨rfl, HZ.out.below⟩
    · rw [show ofV l' k = .tuple #[.agg (facC zrK), .int .i64 (rightZ l' k)] by unfold ofV; rw [if_neg hr2]] at HO'
      have q2 : (rightZ l' k == 0) = false := beq_eq_false_iff_ne.2 hr2
      generalize rightZ l' k = z2 at HO' q2
      generalize factZ l m = k1 at HO
      clear hr1 hr2 HG HG' HD HD' hLit hLit' K
      go_enter Tryz.func5, Tryz.ntmps5
      go_wp2_with fail
      refine (HC.out _).mono ?_
      rintro e u0 ⟨rfl, hb⟩
      have hN0 : Below w.heap.size w ((w.alloc (.cells (trC A n cap) 24)).alloc (.cells (trC B n' cap') 24)) := by go_grown
      have HX0 := Lib.hid (show BoxV 24 u0 w.heap.size (trC A n cap) from BoxV.below ((BoxV.new _ _).alloc _) hb (by simp; omega))
      have HY0 := Lib.hid (show BoxV 24 u0 (w.heap.size + 1) (trC B n' cap') from BoxV.below (BoxV.new2 _ _ _) hb (by simp))
      have HB0 := Lib.hid (show Below w.heap.size w u0 from hN0.trans (hb.mono (by simp; omega)))
      clear hb HC hN0
      go_wp2_with (refine storeTr9o rfl _ _ rfl w.heap.size _ A m cap rfl rfl (by rfl) HX0.out ?_; intro u1 hx hB ho; refine StopS.out ?_)
      refine ⟨?_⟩
      have HX1 := Lib.hid hx.out
      have HY1 := Lib.hid (show BoxV 24 u1 (w.heap.size + 1) (trC B n' cap') from (ho.out _ (by omega)).trans HY0.out)
      have HB1 := Lib.hid (HB0.out.trans (hB.out _ (Nat.le_refl _)))
      clear HX0 HY0 HB0 hx hB ho
      have c1 : u1.cell? ⟨w.heap.size + 1, 0, none⟩ = some (.slice B n' cap') := HY1.out.get 0 rfl
      go_wp2_with fail
      refine (HC'.out _).mono ?_
      rintro e v0 ⟨rfl, hb⟩
      replace HX1 := Lib.hid (HX1.out.below hb HX1.out.lt)
      replace HY1 := Lib.hid (HY1.out.below hb HY1.out.lt)
      replace HB1 := Lib.hid (thenB HB1.out hb HB1.out.size)
      clear hb HC' c1
      go_wp2_with (refine storeTr9o rfl _ _ rfl (w.heap.size + 1) _ B k cap' rfl rfl (by rfl) HY1.out ?_; intro v1 hx hB ho; refine StopS.out ?_)
      refine ⟨?_⟩
      have HB2 := Lib.hid (HB1.out.trans (hB.out _ (by omega)))
      have HL := Lib.hid (show CBx w A m cap l B k cap' l' v1 from ⟨HB2.out, (ho.out _ (by omega)).trans HX1.out, hx.out, HLm.out.below HB2.out (Nat.le_refl _), HLk.out.below HB2.out (Nat.le_refl _), HT.out.call HB2.out⟩)
      clear HX1 HY1 HB1 HB2 hx hB ho HLm HLk HT
      have c0 : v1.cell? ⟨w.heap.size, 0, none⟩ = some (.slice A m cap) := HL.out.t1.get 0 rfl
      go_wp2_with fail
      refine (HO.out _ HL.out.n1 HL.out.tabs.tab).mono ?_
      rintro e u2 ⟨rfl, hb⟩
      replace HL := Lib.hid (HL.out.call hb)
      clear hb c0
      go_wp2_with (refine storeF9n rfl _ _ rfl u2 k1 rfl rfl rfl ?_; intro u3 hx hN; refine StopS.out ?_)
      refine ⟨?_⟩
      replace HL := Lib.hid (CBx.step HL.out hN.out)
      have HF := Lib.hid hx.out
      clear hx hN
      have c1 : u3.cell? ⟨w.heap.size + 1, 0, none⟩ = some (.slice B k cap') := HL.out.t2.get 0 rfl
      go_wp2_with fail
      refine (HO'.out _ HL.out.n2 HL.out.tabs.tab).mono ?_
      rintro e u4 ⟨rfl, hb⟩
      replace HL := Lib.hid (HL.out.call hb)
      replace HF := Lib.hid (HF.out.below hb HF.out.lt)
      clear hb c1
      go_wp2_with (refine storeF9n rfl _ _ rfl u4 zrK rfl rfl rfl ?_; intro u5 hx hN; refine StopS.out ?_)
      refine ⟨?_⟩
      replace HL := Lib.hid (CBx.step HL.out hN.out)
      replace HF := Lib.hid (HF.out.below hN.out HF.out.lt)
      have HE := Lib.hid hx.out
      clear hx hN
      go_wp2_with fail
      refine wp_region_held_drew (S := fun u => CBx w A m cap l B k cap' l' u ∧ BoxF u u2.heap.size k1 ∧ BoxF u u4.heap.size zrK) (by kernel_rfl) (show _ from ⟨HL.out.call (Below.refl _ _).drew, HF.out.drew, HE.out.drew⟩) (fun hS => ?_)
      clear HL HF HE
      generalize World.drew _ = y0 at hS ⊢
      refine takeAt 0 28 (.int .i64 0) rfl rfl (by kernel_rfl) (by kernel_rfl) (by kernel_rfl) (fun _ _ _ h => h) (yields (by rfl) (fun w => by kernel_rfl)) hS ?_
      simp only [Act.put, List.setIfInBounds_toArray, List.set_cons_zero, List.set_cons_succ]
      refine takeAt 1 29 (.bool false) rfl rfl (by kernel_rfl) (by kernel_rfl) (by kernel_rfl) (fun _ _ _ h => h) (yields (by rfl) (fun w => by kernel_rfl)) hS ?_
      simp only [Act.put, List.setIfInBounds_toArray, List.set_cons_zero, List.set_cons_succ]
      refine takeAt 2 30 (.bool false) rfl rfl (by kernel_rfl) (by kernel_rfl) (by kernel_rfl) (fun _ _ _ h => h) (yields (by rfl) (fun w => by kernel_rfl)) hS ?_
      simp only [Act.put, List.setIfInBounds_toArray, List.set_cons_zero, List.set_cons_succ]
      refine takeAt 3 31 (.int .i64 z2) rfl rfl (by kernel_rfl) (by kernel_rfl) (by kernel_rfl) (fun _ _ _ h => h) (yields (by rfl) (fun w => by kernel_rfl)) hS ?_
      simp only [Act.put, List.setIfInBounds_toArray, List.set_cons_zero, List.set_cons_succ]
      refine takeAt 4 32 (.bool true) rfl rfl (by kernel_rfl) (by kernel_rfl) (by kernel_rfl) (fun _ _ _ h => h) (neqE9_y true (by rw [q2]; rfl) rfl rfl rfl (by rfl)) hS ?_
      simp only [Act.put, List.setIfInBounds_toArray, List.set_cons_zero, List.set_cons_succ]
      refine takeAt 5 33 (.bool true) rfl rfl (by kernel_rfl) (by kernel_rfl) (by kernel_rfl) (fun _ _ _ h => h) (yields (by rfl) (fun w => by kernel_rfl)) hS ?_
      simp only [Act.put, List.setIfInBounds_toArray, List.set_cons_zero, List.set_cons_succ]
      refine takeAt 6 34 (.bool true) rfl rfl (by kernel_rfl) (by kernel_rfl) (by kernel_rfl) (fun _ _ _ h => h) (yields (by rfl) (fun w => by kernel_rfl)) hS ?_
      simp only [Act.put, List.setIfInBounds_toArray, List.set_cons_zero, List.set_cons_succ]
      refine takeAt 7 35 (undef) rfl rfl (by kernel_rfl) (by kernel_rfl) (by kernel_rfl) (fun _ _ _ h => h) (skipped (by rfl)) hS ?_
      simp only [Act.put, List.setIfInBounds_toArray, List.set_cons_zero, List.set_cons_succ]
      refine takeAt 8 36 (undef) rfl rfl (by kernel_rfl) (by kernel_rfl) (by kernel_rfl) (fun _ _ _ h => h) (skipped (by rfl)) hS ?_
      simp only [Act.put, List.setIfInBounds_toArray, List.set_cons_zero, List.set_cons_succ]
      refine takeAt 9 37 (undef) rfl rfl (by kernel_rfl) (by kernel_rfl) (by kernel_rfl) (fun _ _ _ h => h) (skipped (by rfl)) hS ?_
      simp only [Act.put, List.setIfInBounds_toArray, List.set_cons_zero, List.set_cons_succ]
      refine takeAt 10 38 (undef) rfl rfl (by kernel_rfl) (by kernel_rfl) (by kernel_rfl) (fun _ _ _ h => h) (skipped (by rfl)) hS ?_
      simp only [Act.put, List.setIfInBounds_toArray, List.set_cons_zero, List.set_cons_succ]
      refine takeAt 11 39 (undef) rfl rfl (by kernel_rfl) (by kernel_rfl) (by kernel_rfl) (fun _ _ _ h => h) (skipped (by rfl)) hS ?_
      simp only [Act.put, List.setIfInBounds_toArray, List.set_cons_zero, List.set_cons_succ]
      refine takeAt 12 40 (undef) rfl rfl (by kernel_rfl) (by kernel_rfl) (by kernel_rfl) (fun _ _ _ h => h) (skipped (by rfl)) hS ?_
      simp only [Act.put, List.setIfInBounds_toArray, List.set_cons_zero, List.set_cons_succ]
      refine takeAt 13 41 (.bool true) rfl rfl (by kernel_rfl) (by kernel_rfl) (by kernel_rfl) (fun _ _ _ h => h) (yields (by rfl) (fun w => by kernel_rfl)) hS ?_
      simp only [Act.put, List.setIfInBounds_toArray, List.set_cons_zero, List.set_cons_succ]
      refine takeAt 14 42 (.bool true) rfl rfl (by kernel_rfl) (by kernel_rfl) (by kernel_rfl) (fun _ _ _ h => h) (yields (by rfl) (fun w => by kernel_rfl)) hS ?_
      simp only [Act.put, List.setIfInBounds_toArray, List.set_cons_zero, List.set_cons_succ]
      refine takeAt 15 43 (undef) rfl rfl (by kernel_rfl) (by kernel_rfl) (by kernel_rfl) (fun _ _ _ h => h) (skipped (by rfl)) hS ?_
      simp only [Act.put, List.setIfInBounds_toArray, List.set_cons_zero, List.set_cons_succ]
      refine takeAt 16 44 (undef) rfl rfl (by kernel_rfl) (by kernel_rfl) (by kernel_rfl) (fun _ _ _ h => h) (skipped (by rfl)) hS ?_
      simp only [Act.put, List.setIfInBounds_toArray, List.set_cons_zero, List.set_cons_succ]
      refine takeAt 17 45 (undef) rfl rfl (by kernel_rfl) (by kernel_rfl) (by kernel_rfl) (fun _ _ _ h => h) (skipped (by rfl)) hS ?_
      simp only [Act.put, List.setIfInBounds_toArray, List.set_cons_zero, List.set_cons_succ]
      refine takeAt 18 46 (undef) rfl rfl (by kernel_rfl) (by kernel_rfl) (by kernel_rfl) (fun _ _ _ h => h) (skipped (by rfl)) hS ?_
      simp only [Act.put, List.setIfInBounds_toArray, List.set_cons_zero, List.set_cons_succ]
      refine takeAt 19 47 (undef) rfl rfl (by kernel_rfl) (by kernel_rfl) (by kernel_rfl) (fun _ _ _ h => h) (skipped (by rfl)) hS ?_
      simp only [Act.put, List.setIfInBounds_toArray, List.set_cons_zero, List.set_cons_succ]
      refine takeAt 20 48 (undef) rfl rfl (by kernel_rfl) (by kernel_rfl) (by kernel_rfl) (fun _ _ _ h => h) (skipped (by rfl)) hS ?_
      simp only [Act.put, List.setIfInBounds_toArray, List.set_cons_zero, List.set_cons_succ]
      refine takeAt 21 49 (.bool true) rfl rfl (by kernel_rfl) (by kernel_rfl) (by kernel_rfl) (fun _ _ _ h => h) (yields (by rfl) (fun w => by kernel_rfl)) hS ?_
      simp only [Act.put, List.setIfInBounds_toArray, List.set_cons_zero, List.set_cons_succ]
      refine wpAnyH_done (by kernel_rfl) ?_ _
      have HL := Lib.hid hS.1
      have HF := Lib.hid hS.2.1
      have HE := Lib.hid hS.2.2
      clear hS
      go_wp2_with fail
      refine (HFix.out _ HL.out.tabs).mono ?_
      rintro e u9 ⟨rfl, hb⟩
      replace HL := Lib.hid (HL.out.call hb)
      clear hb
      go_wp2
      go_ret
      exact ⟨rfl, HL.out.below⟩
  · rw [show ofV l m = .tuple #[.agg (facC zrK), .int .i64 (rightZ l m)] by unfold ofV; rw [if_neg hr1]] at HO
    have q1 : (rightZ l m == 0) = false := beq_eq_false_iff_ne.2 hr1
    generalize rightZ l m = z1 at HO q1
    by_cases hr2 : rightZ l' k = 0
    all_goals
      have HO2 : Hid (∀ u, Nodes u B k l' → TabOk u → Calls Tryz.prog 10 #[.agg (trC B k cap')] u fun e w' => e = .returned (.tuple #[.agg (facC (if rightZ l' k = 0 then factZ l' k else zrK)), .int .i64 (rightZ l' k)]) ∧ Below u.heap.size u w') := Lib.hid HO'.out
      clear HO'
      have HO' := HO2
      clear HO2
      generalize (if rightZ l' k = 0 then factZ l' k else zrK) = k2 at HO'
      generalize rightZ l' k = z2 at HO'
      clear hr1 hr2 HG HG' HD HD' hLit hLit' K
      go_enter Tryz.func5, Tryz.ntmps5
      go_wp2_with fail
      refine (HC.out _).mono ?_
      rintro e u0 ⟨rfl, hb⟩
      have hN0 : Below w.heap.size w ((w.alloc (.cells (trC A n cap) 24)).alloc (.cells (trC B n' cap') 24)) := by go_grown
      have HX0 := Lib.hid (show BoxV 24 u0 w.heap.size (trC A n cap) from BoxV.below ((BoxV.new _ _).alloc _) hb (by simp; omega))
      have HY0 := Lib.hid (show BoxV 24 u0 (w.heap.size + 1) (trC B n' cap') from BoxV.below (BoxV.new2 _ _ _) hb (by simp))
      have HB0 := Lib.hid (show Below w.heap.size w u0 from hN0.trans (hb.mono (by simp; omega)))
      clear hb HC hN0
      go_wp2_with (refine storeTr9o rfl _ _ rfl w.heap.size _ A m cap rfl rfl (by rfl) HX0.out ?_; intro u1 hx hB ho; refine StopS.out ?_)
      refine ⟨?_⟩
      have HX1 := Lib.hid hx.out
      have HY1 := Lib.hid (show BoxV 24 u1 (w.heap.size + 1) (trC B n' cap') from (ho.out _ (by omega)).trans HY0.out)
      have HB1 := Lib.hid (HB0.out.trans (hB.out _ (Nat.le_refl _)))
      clear HX0 HY0 HB0 hx hB ho
      have c1 : u1.cell? ⟨w.heap.size + 1, 0, none⟩ = some (.slice B n' cap') := HY1.out.get 0 rfl
      go_wp2_with fail
      refine (HC'.out _).mono ?_
      rintro e v0 ⟨rfl, hb⟩
      replace HX1 := Lib.hid (HX1.out.below hb HX1.out.lt)
      replace HY1 := Lib.hid (HY1.out.below hb HY1.out.lt)
      replace HB1 := Lib.hid (thenB HB1.out hb HB1.out.size)
      clear hb HC' c1
      go_wp2_with (refine storeTr9o rfl _ _ rfl (w.heap.size + 1) _ B k cap' rfl rfl (by rfl) HY1.out ?_; intro v1 hx hB ho; refine StopS.out ?_)
      refine ⟨?_⟩
      have HB2 := Lib.hid (HB1.out.trans (hB.out _ (by omega)))
      have HL := Lib.hid (show CBx w A m cap l B k cap' l' v1 from ⟨HB2.out, (ho.out _ (by omega)).trans HX1.out, hx.out, HLm.out.below HB2.out (Nat.le_refl _), HLk.out.below HB2.out (Nat.le_refl _), HT.out.call HB2.out⟩)
      clear HX1 HY1 HB1 HB2 hx hB ho HLm HLk HT
      have c0 : v1.cell? ⟨w.heap.size, 0, none⟩ = some (.slice A m cap) := HL.out.t1.get 0 rfl
      go_wp2_with fail
      refine (HO.out _ HL.out.n1 HL.out.tabs.tab).mono ?_
      rintro e u2 ⟨rfl, hb⟩
      replace HL := Lib.hid (HL.out.call hb)
      clear hb c0
      go_wp2_with (refine storeF9n rfl _ _ rfl u2 zrK rfl rfl rfl ?_; intro u3 hx hN; refine StopS.out ?_)
      refine ⟨?_⟩
      replace HL := Lib.hid (CBx.step HL.out hN.out)
      have HF := Lib.hid hx.out
      clear hx hN
      have c1 : u3.cell? ⟨w.heap.size + 1, 0, none⟩ = some (.slice B k cap') := HL.out.t2.get 0 rfl
      go_wp2_with fail
      refine (HO'.out _ HL.out.n2 HL.out.tabs.tab).mono ?_
      rintro e u4 ⟨rfl, hb⟩
      replace HL := Lib.hid (HL.out.call hb)
      replace HF := Lib.hid (HF.out.below hb HF.out.lt)
      clear hb c1
      go_wp2_with (refine storeF9n rfl _ _ rfl u4 k2 rfl rfl rfl ?_; intro u5 hx hN; refine StopS.out ?_)
      refine ⟨?_⟩
      replace HL := Lib.hid (CBx.step HL.out hN.out)
      replace HF := Lib.hid (HF.out.below hN.out HF.out.lt)
      have HE := Lib.hid hx.out
      clear hx hN
      go_wp2_with fail
      refine wp_region_held_drew (S := fun u => CBx w A m cap l B k cap' l' u ∧ BoxF u u2.heap.size zrK ∧ BoxF u u4.heap.size k2) (by kernel_rfl) (show _ from ⟨HL.out.call (Below.refl _ _).drew, HF.out.drew, HE.out.drew⟩) (fun hS => ?_)
      clear HL HF HE
      generalize World.drew _ = y0 at hS ⊢
      refine takeAt 0 28 (.int .i64 z1) rfl rfl (by kernel_rfl) (by kernel_rfl) (by kernel_rfl) (fun _ _ _ h => h) (yields (by rfl) (fun w => by kernel_rfl)) hS ?_
      simp only [Act.put, List.setIfInBounds_toArray, List.set_cons_zero, List.set_cons_succ]
      refine takeAt 1 29 (.bool true) rfl rfl (by kernel_rfl) (by kernel_rfl) (by kernel_rfl) (fun _ _ _ h => h) (neqE9_y true (by rw [q1]; rfl) rfl rfl rfl (by rfl)) hS ?_
      simp only [Act.put, List.setIfInBounds_toArray, List.set_cons_zero, List.set_cons_succ]
      refine takeAt 2 30 (.bool true) rfl rfl (by kernel_rfl) (by kernel_rfl) (by kernel_rfl) (fun _ _ _ h => h) (yields (by rfl) (fun w => by kernel_rfl)) hS ?_
      simp only [Act.put, List.setIfInBounds_toArray, List.set_cons_zero, List.set_cons_succ]
      refine takeAt 3 31 (undef) rfl rfl (by kernel_rfl) (by kernel_rfl) (by kernel_rfl) (fun _ _ _ h => h) (skipped (by rfl)) hS ?_
      simp only [Act.put, List.setIfInBounds_toArray, List.set_cons_zero, List.set_cons_succ]
      refine takeAt 4 32 (undef) rfl rfl (by kernel_rfl) (by kernel_rfl) (by kernel_rfl) (fun _ _ _ h => h) (skipped (by rfl)) hS ?_
      simp only [Act.put, List.setIfInBounds_toArray, List.set_cons_zero, List.set_cons_succ]
      refine takeAt 5 33 (.bool true) rfl rfl (by kernel_rfl) (by kernel_rfl) (by kernel_rfl) (fun _ _ _ h => h) (yields (by rfl) (fun w => by kernel_rfl)) hS ?_
      simp only [Act.put, List.setIfInBounds_toArray, List.set_cons_zero, List.set_cons_succ]
      refine takeAt 6 34 (.bool true) rfl rfl (by kernel_rfl) (by kernel_rfl) (by kernel_rfl) (fun _ _ _ h => h) (yields (by rfl) (fun w => by kernel_rfl)) hS ?_
      simp only [Act.put, List.setIfInBounds_toArray, List.set_cons_zero, List.set_cons_succ]
      refine takeAt 7 35 (undef) rfl rfl (by kernel_rfl) (by kernel_rfl) (by kernel_rfl) (fun _ _ _ h => h) (skipped (by rfl)) hS ?_
      simp only [Act.put, List.setIfInBounds_toArray, List.set_cons_zero, List.set_cons_succ]
      refine takeAt 8 36 (undef) rfl rfl (by kernel_rfl) (by kernel_rfl) (by kernel_rfl) (fun _ _ _ h => h) (skipped (by rfl)) hS ?_
      simp only [Act.put, List.setIfInBounds_toArray, List.set_cons_zero, List.set_cons_succ]
      refine takeAt 9 37 (undef) rfl rfl (by kernel_rfl) (by kernel_rfl) (by kernel_rfl) (fun _ _ _ h => h) (skipped (by rfl)) hS ?_
      simp only [Act.put, List.setIfInBounds_toArray, List.set_cons_zero, List.set_cons_succ]
      refine takeAt 10 38 (undef) rfl rfl (by kernel_rfl) (by kernel_rfl) (by kernel_rfl) (fun _ _ _ h => h) (skipped (by rfl)) hS ?_
      simp only [Act.put, List.setIfInBounds_toArray, List.set_cons_zero, List.set_cons_succ]
      refine takeAt 11 39 (undef) rfl rfl (by kernel_rfl) (by kernel_rfl) (by kernel_rfl) (fun _ _ _ h => h) (skipped (by rfl)) hS ?_
      simp only [Act.put, List.setIfInBounds_toArray, List.set_cons_zero, List.set_cons_succ]
      refine takeAt 12 40 (undef) rfl rfl (by kernel_rfl) (by kernel_rfl) (by kernel_rfl) (fun _ _ _ h => h) (skipped (by rfl)) hS ?_
      simp only [Act.put, List.setIfInBounds_toArray, List.set_cons_zero, List.set_cons_succ]
      refine takeAt 13 41 (.bool true) rfl rfl (by kernel_rfl) (by kernel_rfl) (by kernel_rfl) (fun _ _ _ h => h) (yields (by rfl) (fun w => by kernel_rfl)) hS ?_
      simp only [Act.put, List.setIfInBounds_toArray, List.set_cons_zero, List.set_cons_succ]
      refine takeAt 14 42 (.bool true) rfl rfl (by kernel_rfl) (by kernel_rfl) (by kernel_rfl) (fun _ _ _ h => h) (yields (by rfl) (fun w => by kernel_rfl)) hS ?_
      simp only [Act.put, List.setIfInBounds_toArray, List.set_cons_zero, List.set_cons_succ]
      refine takeAt 15 43 (undef) rfl rfl (by kernel_rfl) (by kernel_rfl) (by kernel_rfl) (fun _ _ _ h => h) (skipped (by rfl)) hS ?_
      simp only [Act.put, List.setIfInBounds_toArray, List.set_cons_zero, List.set_cons_succ]
      refine takeAt 16 44 (undef) rfl rfl (by kernel_rfl) (by kernel_rfl) (by kernel_rfl) (fun _ _ _ h => h) (skipped (by rfl)) hS ?_
      simp only [Act.put, List.setIfInBounds_toArray, List.set_cons_zero, List.set_cons_succ]
      refine takeAt 17 45 (undef) rfl rfl (by kernel_rfl) (by kernel_rfl) (by kernel_rfl) (fun _ _ _ h => h) (skipped (by rfl)) hS ?_
      simp only [Act.put, List.setIfInBounds_toArray, List.set_cons_zero, List.set_cons_succ]
      refine takeAt 18 46 (undef) rfl rfl (by kernel_rfl) (by kernel_rfl) (by kernel_rfl) (fun _ _ _ h => h) (skipped (by rfl)) hS ?_
      simp only [Act.put, List.setIfInBounds_toArray, List.set_cons_zero, List.set_cons_succ]
      refine takeAt 19 47 (undef) rfl rfl (by kernel_rfl) (by kernel_rfl) (by kernel_rfl) (fun _ _ _ h => h) (skipped (by rfl)) hS ?_
      simp only [Act.put, List.setIfInBounds_toArray, List.set_cons_zero, List.set_cons_succ]
      refine takeAt 20 48 (undef) rfl rfl (by kernel_rfl) (by kernel_rfl) (by kernel_rfl) (fun _ _ _ h => h) (skipped (by rfl)) hS ?_
      simp only [Act.put, List.setIfInBounds_toArray, List.set_cons_zero, List.set_cons_succ]
      refine takeAt 21 49 (.bool true) rfl rfl (by kernel_rfl) (by kernel_rfl) (by kernel_rfl) (fun _ _ _ h => h) (yields (by rfl) (fun w => by kernel_rfl)) hS ?_
      simp only [Act.put, List.setIfInBounds_toArray, List.set_cons_zero, List.set_cons_succ]
      refine wpAnyH_done (by kernel_rfl) ?_ _
      have HL := Lib.hid hS.1
      have HF := Lib.hid hS.2.1
      have HE := Lib.hid hS.2.2
      clear hS
      have hS : (fun u => CBx w A m cap l B k cap' l' u ∧ BoxF u u2.heap.size zrK) _ := ⟨HL.out, HF.out⟩
      go_wp2_with (refine lineY (S := fun u => CBx w A m cap l B k cap' l' u ∧ BoxF u u2.heap.size zrK) (.bool false) (eqlE9_y false q1 rfl rfl rfl (by rfl)) hS ?_; refine StopS.out ?_)
      refine ⟨?_⟩
      try simp only [Act.put, List.setIfInBounds_toArray, List.set_cons_zero, List.set_cons_succ]
      refine lineY (S := fun u => CBx w A m cap l B k cap' l' u ∧ BoxF u u2.heap.size zrK) (.bool false) (yields (by rfl) (fun w => by kernel_rfl)) hS ?_
      simp only [Act.put, List.setIfInBounds_toArray, List.set_cons_zero, List.set_cons_succ]
      refine lineY (S := fun u => CBx w A m cap l B k cap' l' u ∧ BoxF u u2.heap.size zrK) (.agg #[.int .u64 0, .int .u64 0, .int .u64 0, .int .u64 0, .bool false, .bool false, .string ⟨#[]⟩]) (by rw [← zrF]; exact loadF_y u2.heap.size zrK (fun _ h => h.2) rfl rfl (by rfl)) hS ?_
      simp only [Act.put, List.setIfInBounds_toArray, List.set_cons_zero, List.set_cons_succ]
      refine lineY (S := fun u => CBx w A m cap l B k cap' l' u ∧ BoxF u u2.heap.size zrK) (.agg #[.int .u64 0, .int .u64 0, .int .u64 0, .int .u64 0, .bool false, .bool false, .string ⟨#[]⟩]) (yields (by rfl) (fun w => by kernel_rfl)) hS ?_
      simp only [Act.put, List.setIfInBounds_toArray, List.set_cons_zero, List.set_cons_succ]
      refine lineY (S := fun u => CBx w A m cap l B k cap' l' u ∧ BoxF u u2.heap.size zrK) (.bool true) (yields (by rfl) (fun w => by kernel_rfl)) hS ?_
      simp only [Act.put, List.setIfInBounds_toArray, List.set_cons_zero, List.set_cons_succ]
      refine lineY (S := fun u => CBx w A m cap l B k cap' l' u ∧ BoxF u u2.heap.size zrK) (.bool true) (yields (by rfl) (fun w => by kernel_rfl)) hS ?_
      simp only [Act.put, List.setIfInBounds_toArray, List.set_cons_zero, List.set_cons_succ]
      refine lineY (S := fun u => CBx w A m cap l B k cap' l' u ∧ BoxF u u2.heap.size zrK) (.bool true) (yields (by rfl) (fun w => by kernel_rfl)) hS ?_
      simp only [Act.put, List.setIfInBounds_toArray, List.set_cons_zero, List.set_cons_succ]
      refine lineCall true (.bool true) (by rfl) (fun _ => by kernel_rfl) (HFix.out _ hS.1.tabs) ?_
      intro v9 hb
      have hS : (fun u => CBx w A m cap l B k cap' l' u ∧ BoxF u u2.heap.size zrK) v9 := ⟨hS.1.call hb, hS.2.below hb hS.2.lt⟩
      clear hb
      simp only [Act.put, List.setIfInBounds_toArray, List.set_cons_zero, List.set_cons_succ]
      refine lineY (S := fun u => CBx w A m cap l B k cap' l' u ∧ BoxF u u2.heap.size zrK) (.bool true) (yields (by rfl) (fun w => by kernel_rfl)) hS ?_
      simp only [Act.put, List.setIfInBounds_toArray, List.set_cons_zero, List.set_cons_succ]
      refine lineY (S := fun u => CBx w A m cap l B k cap' l' u ∧ BoxF u u2.heap.size zrK) (.bool true) (yields (by rfl) (fun w => by kernel_rfl)) hS ?_
      simp only [Act.put, List.setIfInBounds_toArray, List.set_cons_zero, List.set_cons_succ]
      have HZ := Lib.hid hS.1
      clear hS
      go_wp2
      go_ret
      exact ⟨rfl, HZ.out.below⟩
end Go.Proofs.YtkpijnodhlonfaaGreatDoor
