import Derived.Test.YteiboobdhjdjkaaGreatDoorNaiFind
import Derived.Test.YteiboobdhjdjkaaGreatDoorCapShows
import Derived.Test.YteiboobdhjdjkaaGreatDoorMz
import Derived.Test.YteiboobdhjdjkaaGreatDoorNaiAllM
namespace Go.Proofs.YteiboobdhjdjkaaGreatDoor.Nai
open Go.RowKit
open Ast (Nd rightZ Nodes NodesAt)
open Cap (Cp cpC zrC withZ showS BoxV)
section
variable {ops : Array Oper} {R : World → Prop} {a : Act} {o : Oper} {x y : Operand} {w : World}
theorem eqS_y (s t : ByteArray) (b : Bool) (hb : (s.toList == t.toList) = b) (ho : o.op = .binOp .eql 9 x y 9) (hx : a.eval x = .string s) (hy : a.eval y = .string t) (hw : Region.wanted o (yielded ops a.tmps) = true) : YieldsIf Tryz.prog ops R o (.bool b) a := by
 subst hb
 refine Or.inl ⟨hw, fun u _ => ?_⟩
 unfold execOp
 simp only [ho, hx, hy]
 go_simp
theorem ldCp_y (g k : Nat) (c : Cp) (hR : ∀ u, R u → u.rangeAt g k (cpC c).toList) (ho : o.op = .load 44 x) (hx : a.eval x = .pointer (some ⟨g, k, none⟩)) (hw : Region.wanted o (yielded ops a.tmps) = true) : YieldsIf Tryz.prog ops R o (.agg (cpC c)) a :=
 yieldsIf_load_mid hw 44 x ho g k hx (cpC c).toList _ hR Tryz.underlying44 rfl Cap.sizeCaps
end
theorem mt_caps {w : World} {g p : Nat} {z : Sp} (h : BoxV 46 w g (mtA (some (p, z)))) : w.rangeAt g 2 (cpC z.2).toList := fun j v hv => by
 refine h.get (2 + j) ?_
 unfold mtA
 rw [Array.getElem?_append_right (by simp)]
 simpa using hv
theorem mt_from {w : World} {g p : Nat} {z : Sp} (h : BoxV 46 w g (mtA (some (p, z)))) : w.cell? ⟨g, 0, none⟩ = some (.int .i64 (p : Int)) := h.get 0 (by unfold mtA; rw [Array.getElem?_append_left (by simp)]; rfl)
theorem mt_to {w : World} {g p : Nat} {z : Sp} (h : BoxV 46 w g (mtA (some (p, z)))) : w.cell? ⟨g, 1, none⟩ = some (.int .i64 (z.1 : Int)) := h.get 1 (by unfold mtA; rw [Array.getElem?_append_left (by simp)]; rfl)
theorem cp_caps {w : World} {g : Nat} {c : Cp} (h : BoxV 44 w g (cpC c)) : w.rangeAt g 0 (cpC c).toList := fun j v hv => by
 rw [Nat.zero_add]
 exact h.get j (by simpa using hv)
theorem storeMt {ops : Array Oper} {rest : List Oper} {o : Oper} {a : Act} {w : World} {Q : Exit → Act → World → Prop} (hgd : o.guard = none) (x y : Operand) (ho : o.op = .store 46 x y) (g : Nat) (M : Option (Nat × Sp)) (hx : a.eval x = .pointer (some ⟨g, 0, none⟩)) (hy : a.eval y = .agg (mtA M)) (hg : BoxV 46 w g (mtA none))
  (h : ∀ u : World, Hid (BoxV 46 u g (mtA M)) → Hid (∀ B, B ≤ g → Below B w u) → wpList Tryz.prog ops Q rest (a.put o.dst undef) u) : wpList Tryz.prog ops Q (o :: rest) a w := by
 refine wpList_store_row hgd 46 x y ho g _ hx hy _ _ hg (sizeMt.trans (by rw [mtA_size])) (by rw [mtA_size, mtA_size]) (mtA_one M) ?_
 exact h _ (Lib.hid (setRow_heap w g _ _ _ _ hg)) (Lib.hid fun B hB => (Below.refl _ w).trans ⟨rfl, rfl, rfl, by simp, fun k hk => setRow_other w g k _ (by omega)⟩)
theorem mt_zero : mtA none = #[.int .i64 0, .int .i64 0, .bool false, .bool false, .bool false, .bool false, .bool false, .bool false, .bool false, .bool false, .bool false, .int .i64 0, .int .i64 0, .int .i64 0, .int .i64 0, .int .i64 0, .int .i64 0, .int .i64 0, .int .i64 0, .int .i64 0, .int .i64 0, .int .i64 0, .int .i64 0, .int .i64 0, .int .i64 0, .int .i64 0, .int .i64 0, .int .i64 0, .int .i64 0] := by simp [mtA, zrC]
theorem mt_new (w : World) : BoxV 46 (w.alloc (.cells #[.int .i64 0, .int .i64 0, .bool false, .bool false, .bool false, .bool false, .bool false, .bool false, .bool false, .bool false, .bool false, .int .i64 0, .int .i64 0, .int .i64 0, .int .i64 0, .int .i64 0, .int .i64 0, .int .i64 0, .int .i64 0, .int .i64 0, .int .i64 0, .int .i64 0, .int .i64 0, .int .i64 0, .int .i64 0, .int .i64 0, .int .i64 0, .int .i64 0, .int .i64 0] 46)) w.heap.size (mtA none) := by rw [mt_zero]; exact BoxV.new _ _
theorem cp_new (w : World) : BoxV 44 (w.alloc (.cells #[.bool false, .bool false, .bool false, .bool false, .bool false, .bool false, .bool false, .bool false, .bool false, .int .i64 0, .int .i64 0, .int .i64 0, .int .i64 0, .int .i64 0, .int .i64 0, .int .i64 0, .int .i64 0, .int .i64 0, .int .i64 0, .int .i64 0, .int .i64 0, .int .i64 0, .int .i64 0, .int .i64 0, .int .i64 0, .int .i64 0, .int .i64 0] 44)) w.heap.size (cpC zrC) := BoxV.new _ _
def GotP (p : ByteArray) (n : Nat) (l : Nat → Nd) (u : World) : Prop := Calls Tryz.prog 34 #[.string p] u fun e w' => ∃ B cap, e = .returned (.tuple #[.agg #[.slice B n cap], .int .i64 0]) ∧ Nodes w' B n l ∧ Below u.heap.size u w'
set_option maxRecDepth 100000 in
set_option maxHeartbeats 8000000 in
theorem finds_no (hS : Ast.SortOk) (hN : Ast.SortNone) (hlib : Cap.LibOk) (p s want : ByteArray) (n : Nat) (l : Nat → Nd) (w : World) (HP : GotP p n l w) (hn : 0 < n ∧ n ≤ 1000) (hr : rightZ l n = 0) (hs : s.size ≤ 1000) (hw : ∀ i, i < n → WdsN (l i)) (hli : (reT l n n).lite s.size)
  (hM : (findF s (reT l n n) (s.size + 1) 0).isSome = false) (hq : want = ⟨#[]⟩) : Calls Tryz.prog 35 #[.string p, .string s, .string want] w fun e w' => e = .returned (.bool true) ∧ Below w.heap.size w w' := by
 have hM0 : findF s (reT l n n) (s.size + 1) 0 = none := by
  cases h : findF s (reT l n n) (s.size + 1) 0 with
  | none => rfl
  | some v => rw [h] at hM; cases hM
 have HF := Lib.hid (fun (b o cap : Nat) (u : World) (hl : NodesAt u b o n l) => nfind_any hS hN hlib b o n cap l s u hl hr (by omega) (by omega) hw hli none hM0)
 have HPx := Lib.hid HP
 have N0 := Lib.hid hn.1
 subst hq
 clear HP hn hr hs hw hli hM hM0 hS hN hlib
 go_enter Tryz.func35, Tryz.ntmps35
 go_wp2_with fail
 refine (show GotP p n l w from HPx.out).mono ?_
 rintro e w1 ⟨B, cap, rfl, hT, hB⟩
 obtain ⟨b, o, rfl, hat⟩ := hT.at_ N0.out
 have B1 := Lib.hid (hB.alloc hB.size (.cells #[.slice (some ⟨b, o, none⟩) n cap] 24))
 have A1 := Lib.hid (hat.below ((Below.refl w1.heap.size w1).alloc (Nat.le_refl _) (.cells #[.slice (some ⟨b, o, none⟩) n cap] 24)) (Nat.le_refl _))
 clear hT hB hat
 go_wp2_with fail
 refine (HF.out b o cap _ A1.out).mono ?_
 rintro e w3 ⟨rfl, hB⟩
 rw [show (none : Option (Nat × Sp)).isSome = false from rfl]
 have B3 := Lib.hid (thenB B1.out hB B1.out.size)
 clear hB HF A1 B1
 have Z3 := Lib.hid (mt_new w3)
 go_wp2_with (refine storeMt rfl _ _ rfl w3.heap.size none rfl rfl Z3.out ?_; intro w4 HX HB)
 go_ret
 exact ⟨rfl, (B3.out.alloc B3.out.size _).trans (HB.out _ B3.out.size)⟩
set_option maxRecDepth 100000 in
set_option maxHeartbeats 8000000 in
theorem finds_yes (hS : Ast.SortOk) (hN : Ast.SortNone) (hlib : Cap.LibOk) (p s want x1 x2 : ByteArray) (n : Nat) (l : Nat → Nd) (w : World) (HP : GotP p n l w) (hpw : Cap.PowOk w) (hn : 0 < n ∧ n ≤ 1000) (hr : rightZ l n = 0) (hs : s.size ≤ 1000) (hw : ∀ i, i < n → WdsN (l i)) (hli : (reT l n n).lite s.size)
  (k : Nat) (z : Sp) (hM : findF s (reT l n n) (s.size + 1) 0 = some (k, z)) (h1 : (withZ zrC 1 (k : Int) (z.1 : Int)).1.fits) (h2 : z.2.fits) (h3 : (withZ zrC 1 (k : Int) (z.1 : Int)).2 = 0) (h4 : showS (withZ zrC 1 (k : Int) (z.1 : Int)).1 1 = x1) (h5 : showS z.2 2 = x2)
  (h6 : x1.size + x2.size ≤ 1000) (r : Bool) (h7 : ((x1 ++ ⟨#[59]⟩ ++ x2).toList == want.toList) = r) : Calls Tryz.prog 35 #[.string p, .string s, .string want] w fun e w' => e = .returned (.bool r) ∧ Below w.heap.size w w' := by
 have HF := Lib.hid (fun (b o cap : Nat) (u : World) (hl : NodesAt u b o n l) => nfind_any hS hN hlib b o n cap l s u hl hr (by omega) (by omega) hw hli (some (k, z)) hM)
 obtain ⟨c, hc⟩ : ∃ c, (withZ zrC 1 (k : Int) (z.1 : Int)).1 = c := ⟨_, rfl⟩
 have HW := Lib.hid (fun (u : World) => Cap.with_any zrC 1 (k : Int) (z.1 : Int) u)
 rw [hc] at h1 h4 HW
 rw [h3] at HW
 have S1 := Lib.hid (fun (u : World) (hu : Cap.PowOk u) => h4 ▸ Cap.shows_any hlib c h1 1 1 (by omega) (.inr (.inl ⟨rfl, Nat.le_refl _⟩)) u hu)
 have S2 := Lib.hid (fun (u : World) (hu : Cap.PowOk u) => h5 ▸ Cap.shows_any hlib z.2 h2 2 2 (by omega) (.inr (.inl ⟨rfl, by omega⟩)) u hu)
 have HPx := Lib.hid HP
 have PW := Lib.hid hpw
 have N0 := Lib.hid hn.1
 have L6 := Lib.hid h6
 have E7 := Lib.hid h7
 clear HP hn hr hs hw hli hM hS hN hlib h1 h2 h3 h4 h5 hc hpw h6 h7
 go_enter Tryz.func35, Tryz.ntmps35
 go_wp2_with fail
 refine (show GotP p n l w from HPx.out).mono ?_
 rintro e w1 ⟨B, cap, rfl, hT, hB⟩
 obtain ⟨b, o, rfl, hat⟩ := hT.at_ N0.out
 have B1 := Lib.hid (hB.alloc hB.size (.cells #[.slice (some ⟨b, o, none⟩) n cap] 24))
 have A1 := Lib.hid (hat.below ((Below.refl w1.heap.size w1).alloc (Nat.le_refl _) (.cells #[.slice (some ⟨b, o, none⟩) n cap] 24)) (Nat.le_refl _))
 clear hT hB hat
 go_wp2_with fail
 refine (HF.out b o cap _ A1.out).mono ?_
 rintro e w3 ⟨rfl, hB⟩
 rw [show (some (k, z) : Option (Nat × Sp)).isSome = true from rfl]
 have B3 := Lib.hid (thenB B1.out hB B1.out.size)
 clear hB HF A1 B1
 have Z3 := Lib.hid (mt_new w3)
 go_wp2_with (refine storeMt rfl _ _ rfl w3.heap.size (some (k, z)) rfl rfl Z3.out ?_; intro w4 HX HB; have c0 := mt_from HX.out; have c1 := mt_to HX.out)
 have B4 := Lib.hid ((B3.out.alloc B3.out.size _).trans (HB.out _ B3.out.size))
 refine (HW.out w4).mono ?_
 rintro e w5 ⟨rfl, hB⟩
 have B5 := Lib.hid (thenB B4.out hB B4.out.size)
 have X5 := Lib.hid (HX.out.below hB HX.out.lt)
 clear hB HX HB c0 c1 B4 B3 Z3 HW
 have C5 := Lib.hid (cp_new w5)
 go_wp2_with (refine Cap.storeC rfl _ _ rfl w5.heap.size c _ rfl rfl rfl C5.out ?_; intro w6 HC HB HK)
 have B7 := Lib.hid ((B5.out.alloc B5.out.size _).trans (HB.out _ B5.out.size))
 have X7 := Lib.hid ((HK.out _ (by have := X5.out.lt; omega)).trans (X5.out.alloc (.cells (cpC zrC) 44)))
 have P6 := Lib.hid (show Cap.PowOk w6 from PW.out.call B7.out)
 clear HB HK X5 B5 C5
 have hS : Below w6.heap.size w6 w6.drew := (Below.refl _ w6).drew
 have hx : BoxV 46 w6 (w3.heap.size) (mtA (some (k, z))) := X7.out
 have hc : BoxV 44 w6 w5.heap.size (cpC c) := HC.out
 refine wp_region_held_drew (S := Below w6.heap.size w6) (by kernel_rfl) hS (fun _ => ?_)
 refine takeAt 0 45 (.int .i64 0) rfl rfl (by kernel_rfl) (by kernel_rfl) (by kernel_rfl) (fun _ _ _ h => h) (yields (by rfl) (fun w => by kernel_rfl)) hS ?_
 simp only [Act.put, sA, s0, sS]
 refine takeAt 1 46 (.bool true) rfl rfl (by kernel_rfl) (by kernel_rfl) (by kernel_rfl) (fun _ _ _ h => h) (yields (by rfl) (fun w => by kernel_rfl)) hS ?_
 simp only [Act.put, sA, s0, sS]
 refine takeAt 2 47 (.bool true) rfl rfl (by kernel_rfl) (by kernel_rfl) (by kernel_rfl) (fun _ _ _ h => h) (yields (by rfl) (fun w => by kernel_rfl)) hS ?_
 simp only [Act.put, sA, s0, sS]
 refine takeAt 3 48 (.agg (cpC c)) rfl rfl (by kernel_rfl) (by kernel_rfl) (by kernel_rfl) (fun _ _ _ h => h) (ldCp_y w5.heap.size 0 c (fun _ h => cp_caps (hc.below h hc.lt)) rfl rfl (by rfl)) hS ?_
 simp only [Act.put, sA, s0, sS]
 refine takeAt 6 51 (.pointer (some ⟨w3.heap.size, 2, none⟩)) rfl rfl (by kernel_rfl) (by kernel_rfl) (by kernel_rfl) (fun _ _ _ h => h) (yields (by rfl) (fun w => by kernel_rfl)) hS ?_
 simp only [Act.put, sA, s0, sS]
 refine takeAt 7 52 (.agg (cpC z.2)) rfl rfl (by kernel_rfl) (by kernel_rfl) (by kernel_rfl) (fun _ _ _ h => h) (ldCp_y w3.heap.size 2 z.2 (fun _ h => mt_caps (hx.below h hx.lt)) rfl rfl (by rfl)) hS ?_
 simp only [Act.put, sA, s0, sS]
 refine takeAt 10 55 (.string want) rfl rfl (by kernel_rfl) (by kernel_rfl) (by kernel_rfl) (fun _ _ _ h => h) (yields (by rfl) (fun w => by kernel_rfl)) hS ?_
 simp only [Act.put, sA, s0, sS]
 refine callAt 4 49 rfl rfl (by kernel_rfl) (by rfl) (by kernel_rfl) (S1.out _ (P6.out.call (Below.refl _ w6).drew)) ?_
 rintro e u1 ⟨rfl, hB⟩
 have hS1 := thenB hS hB hS.size
 clear hB
 refine ⟨_, rfl, hS1, ?_⟩
 simp only [Act.put, sA, s0, sS]
 refine takeAt 5 50 (.string (x1 ++ ⟨#[59]⟩)) rfl rfl (by kernel_rfl) (by kernel_rfl) (by kernel_rfl) (fun _ _ _ h => h) (Cap.addS_y x1 ⟨#[59]⟩ (by have := L6.out; show x1.size + 1 ≤ 1000000; omega) rfl rfl rfl (by rfl)) hS1 ?_
 simp only [Act.put, sA, s0, sS]
 refine callAt 8 53 rfl rfl (by kernel_rfl) (by rfl) (by kernel_rfl) (S2.out _ (P6.out.call hS1)) ?_
 rintro e u2 ⟨rfl, hB⟩
 have hS2 := thenB hS1 hB hS1.size
 clear hB
 refine ⟨_, rfl, hS2, ?_⟩
 simp only [Act.put, sA, s0, sS]
 refine takeAt 9 54 (.string (x1 ++ ⟨#[59]⟩ ++ x2)) rfl rfl (by kernel_rfl) (by kernel_rfl) (by kernel_rfl) (fun _ _ _ h => h) (Cap.addS_y (x1 ++ ⟨#[59]⟩) x2 (by have := L6.out; rw [ByteArray.size_append]; show x1.size + 1 + x2.size ≤ 1000000; omega) rfl rfl rfl (by rfl)) hS2 ?_
 simp only [Act.put, sA, s0, sS]
 refine takeAt 11 56 (.bool r) rfl rfl (by kernel_rfl) (by kernel_rfl) (by kernel_rfl) (fun _ _ _ h => h) (eqS_y _ _ r E7.out rfl rfl rfl (by rfl)) hS2 ?_
 simp only [Act.put, sA, s0, sS]
 refine takeAt 12 57 (.bool r) rfl rfl (by kernel_rfl) (by kernel_rfl) (by kernel_rfl) (fun _ _ _ h => h) (yields (by rfl) (fun w => by kernel_rfl)) hS2 ?_
 simp only [Act.put, sA, s0, sS]
 refine takeAt 13 6 (.bool r) rfl rfl (by kernel_rfl) (by kernel_rfl) (by kernel_rfl) (fun _ _ _ h => h) (yields (by rfl) (fun w => by kernel_rfl)) hS2 ?_
 simp only [Act.put, sA, s0, sS]
 refine wpAnyH_done (by kernel_rfl) ?_ _
 have B9 := Lib.hid (B7.out.trans (hS2.mono B7.out.size))
 clear hS hS1 hS2 hx hc
 go_wp2_with fail
 go_ret
 exact ⟨rfl, B9.out⟩
end Go.Proofs.YteiboobdhjdjkaaGreatDoor.Nai
namespace Go.Proofs.YteiboobdhjdjkaaGreatDoor.Nai
open Go.RowKit
open Ast (Nd Nodes)
open Cap (BoxV)
attribute [local go_sem] Oper.semAt_some
set_option maxRecDepth 100000 in
set_option maxHeartbeats 1000000 in
theorem nall_arg (hS : Ast.SortOk) (hN : Ast.SortNone) (A : Option Addr) (n cap : Nat) (l : Nat → Nd) (s : ByteArray) (p m : Int) (w : World) (hl : Nodes w A n l) (hn : n ≤ 1000000) (hs : s.size ≤ 4611686018427387904) (hr : mayZ l n s.size = 0) (z : Int)
  (hz : (p < 0 ∨ (s.size : Int) < p ∨ m < 0 ∨ 1000 < m) ∧ z = 1 ∨ ¬ (p < 0 ∨ (s.size : Int) < p ∨ m < 0 ∨ 1000 < m) ∧ m = 0 ∧ z = 0) :
  Calls Tryz.prog 15 #[.agg #[.slice A n cap], .string s, .int .i64 p, .int .i64 m] w fun e w' => e = .returned (.tuple #[.slice none 0 0, .int .i64 z]) ∧ Below w.heap.size w w' := by
 refine (callsIn_wide (n := 0)).1 ?_
 refine callsIn_of_wp_marks Tryz.func15 rfl trivial ?_ rfl
 simp only [Tryz.ntmps15, List.size_toArray, List.length_cons, List.length_nil, Nat.reduceAdd, Nat.reduceSub, Array.replicate_succ, Array.replicate_zero, List.push_toArray, List.append_toArray, List.nil_append, List.cons_append]
 obtain ⟨W1, hW1⟩ : ∃ W1, (w.alloc (.cells #[.slice A n cap] 24)).alloc (.cells #[.int .i64 m] 3) = W1 := ⟨_, rfl⟩
 have hB1 : Below w.heap.size w W1 := by rw [← hW1]; go_grown
 have ht1 : BoxV 24 W1 w.heap.size #[.slice A n cap] := by rw [← hW1]; exact (BoxV.new _ _).alloc _
 have hm1 : BoxV 3 W1 (w.heap.size + 1) #[.int .i64 m] := by
  rw [← hW1]
  have := BoxV.new (T := 3) (w.alloc (.cells #[.slice A n cap] 24)) #[.int .i64 m]
  rwa [World.size_alloc] at this
 have HMay := Lib.hid (mayRead_any hS hN A n cap l s W1 hn (hl.below hB1 (Nat.le_refl _)) hs)
 have HB1 := Lib.hid hB1
 have HM1 := Lib.hid hm1
 have c0 := ht1.get 0 rfl
 have HZ := Lib.hid hz
 rw [hr] at HMay
 clear hS hN hB1 ht1 hl hs hr hm1 hz
 gi_wp2
 refine ⟨trivial, rfl, (callsIn_wide.2 HMay.out).mono ?_⟩
 rintro e w2 ⟨rfl, hb2⟩
 rename_i K hK
 refine hK _ _ ?_
 have HB2 := Lib.hid (HB1.out.trans (hb2.mono HB1.out.size))
 have c1 := (HM1.out.below hb2 HM1.out.lt).get 0 rfl
 have fin : ∀ x : Int, x = z → ∃ v, Value.tuple #[.slice none 0 0, .int .i64 x] = v ∧ Ending.returned v = .returned (.tuple #[.slice none 0 0, .int .i64 z]) := fun x e => ⟨_, rfl, by rw [e]⟩
 clear hK K c0 HMay hW1 hb2 fin
 by_cases h0 : p < 0
 ·have hz := HZ.out
  have hz1 : z = 1 := by omega
  subst hz1
  have h1 : ¬ (0 ≤ p) := by omega
  clear hz
  gi_wp2
  exact ⟨.tuple #[.slice none 0 0, .int .i64 1], by simp [results, Tryz.results15, go_sem], rfl, HB2.out⟩
 ·by_cases h1 : (s.size : Int) < p
  ·have hz := HZ.out
   have hz1 : z = 1 := by omega
   subst hz1
   clear hz
   gi_wp2
   exact ⟨.tuple #[.slice none 0 0, .int .i64 1], by simp [results, Tryz.results15, go_sem], rfl, HB2.out⟩
  ·by_cases h2 : m < 0
   ·have hz := HZ.out
    have hz1 : z = 1 := by omega
    subst hz1
    clear hz
    gi_wp2
    exact ⟨.tuple #[.slice none 0 0, .int .i64 1], by simp [results, Tryz.results15, go_sem], rfl, HB2.out⟩
   ·by_cases h3 : 1000 < m
    ·have hz := HZ.out
     have hz1 : z = 1 := by omega
     subst hz1
     clear hz
     gi_wp2
     exact ⟨.tuple #[.slice none 0 0, .int .i64 1], by simp [results, Tryz.results15, go_sem], rfl, HB2.out⟩
    ·have hz := HZ.out
     obtain ⟨hm0, hz0⟩ : m = 0 ∧ z = 0 := by omega
     subst hm0
     subst hz0
     clear hz
     gi_wp2
     exact ⟨.tuple #[.slice none 0 0, .int .i64 0], by simp [results, Tryz.results15, go_sem], rfl, HB2.out⟩
end Go.Proofs.YteiboobdhjdjkaaGreatDoor.Nai
namespace Go.Proofs.YteiboobdhjdjkaaGreatDoor.Nai
open Go.RowKit
open Ast (Nd Nodes)
open Cap (BoxV)
attribute [local go_sem] Oper.semAt_some
theorem resMz {fn : Func} {p q r : Tmp} {b : Bool} {z : Int} {cs : Array Value} {w : World} (h : fn.results = #[.cell p 46, .cell q 4, .cell r 30]) (tmps : Array Value) {g g2 g3 : Nat} (hp : tmps.getD p undef = .pointer (some ⟨g, 0, none⟩)) (hq : tmps.getD q undef = .pointer (some ⟨g2, 0, none⟩)) (hr : tmps.getD r undef = .pointer (some ⟨g3, 0, none⟩))
  (hs : cs.size = 29) (hg : BoxV 46 w g cs) (hg2 : BoxV 4 w g2 #[.bool b]) (hg3 : BoxV 30 w g3 #[.int .i64 z]) :
  (results fn tmps).run Tryz.prog w = .ok (.tuple #[.agg cs, .bool b, .int .i64 z]) w := by
 have hp' : tmps[p]?.getD undef = .pointer (some ⟨g, 0, none⟩) := by simpa using hp
 have hq' : tmps[q]?.getD undef = .pointer (some ⟨g2, 0, none⟩) := by simpa using hq
 have hr' : tmps[r]?.getD undef = .pointer (some ⟨g3, 0, none⟩) := by simpa using hr
 have hl := run_loadVar_row w g _ 46 _ _ _ hg Tryz.underlying46 rfl (sizeMt.trans (by rw [hs]))
 have hc2 := hg2.get 0 rfl
 have hc3 := hg3.get 0 rfl
 have hl2 : (loadVar 4 ⟨g2, 0, none⟩).run Tryz.prog w = .ok (.bool b) w := by simp [go_sem, hc2]
 have hl3 : (loadVar 30 ⟨g3, 0, none⟩).run Tryz.prog w = .ok (.int .i64 z) w := by simp [go_sem, hc3]
 simp [results, h, hp', hq', hr', asAddr, hl, hl2, hl3]
set_option maxRecDepth 100000 in
set_option maxHeartbeats 1000000 in
theorem nfind_wrong (hS : Ast.SortOk) (hN : Ast.SortNone) (A : Option Addr) (n cap : Nat) (l : Nat → Nd) (s : ByteArray) (w : World) (hl : Nodes w A n l) (hn : n ≤ 1000000) (hs : s.size ≤ 4611686018427387904) (hr : mayZ l n s.size ≠ 0) :
  Calls Tryz.prog 20 #[.agg #[.slice A n cap], .string s] w fun e w' => e = .returned (.tuple #[.agg (mtA none), .bool false, .int .i64 (mayZ l n s.size)]) ∧ Below w.heap.size w w' := by
 refine (callsIn_wide (n := 0)).1 ?_
 refine callsIn_of_wp_marks Tryz.func20 rfl trivial ?_ rfl
 simp only [Tryz.ntmps20, List.size_toArray, List.length_cons, List.length_nil, Nat.reduceAdd, Nat.reduceSub, Array.replicate_succ, Array.replicate_zero, List.push_toArray, List.append_toArray, List.nil_append, List.cons_append]
 obtain ⟨W1, hW1⟩ : ∃ W1, (((w.alloc (.cells #[.slice A n cap] 24)).alloc (.cells #[.int .i64 0, .int .i64 0, .bool false, .bool false, .bool false, .bool false, .bool false, .bool false, .bool false, .bool false, .bool false, .int .i64 0, .int .i64 0, .int .i64 0, .int .i64 0, .int .i64 0, .int .i64 0, .int .i64 0, .int .i64 0, .int .i64 0, .int .i64 0, .int .i64 0, .int .i64 0, .int .i64 0, .int .i64 0, .int .i64 0, .int .i64 0, .int .i64 0, .int .i64 0] 46)).alloc (.cells #[.bool false] 4)).alloc (.cells #[.int .i64 0] 30) = W1 := ⟨_, rfl⟩
 have hB1 : Below w.heap.size w W1 := by rw [← hW1]; go_grown
 have hs1 : W1.heap.size = w.heap.size + 4 := by rw [← hW1]; simp
 have ht1 : BoxV 24 W1 w.heap.size #[.slice A n cap] := by rw [← hW1]; exact (((BoxV.new _ _).alloc _).alloc _).alloc _
 have hm1 : BoxV 46 W1 (w.heap.size + 1) (mtA none) := by
  rw [← hW1]
  have := BoxV.new (T := 46) (w.alloc (.cells #[.slice A n cap] 24)) (mtA none)
  rw [World.size_alloc] at this
  exact (this.alloc _).alloc _
 have hb1 : BoxV 4 W1 (w.heap.size + 1 + 1) #[.bool false] := by
  rw [← hW1]
  have := BoxV.new (T := 4) ((w.alloc (.cells #[.slice A n cap] 24)).alloc (.cells (mtA none) 46)) #[.bool false]
  rw [World.size_alloc, World.size_alloc] at this
  exact this.alloc _
 have he1 : BoxV 30 W1 (w.heap.size + 1 + 1 + 1) #[.int .i64 0] := by
  rw [← hW1]
  have := BoxV.new (T := 30) (((w.alloc (.cells #[.slice A n cap] 24)).alloc (.cells (mtA none) 46)).alloc (.cells #[.bool false] 4)) #[.int .i64 0]
  rw [World.size_alloc, World.size_alloc, World.size_alloc] at this
  exact this
 have HMay := Lib.hid (mayRead_any hS hN A n cap l s W1 hn (hl.below hB1 (Nat.le_refl _)) hs)
 have HB1 := Lib.hid hB1
 have HM1 := Lib.hid (And.intro hm1 (And.intro hb1 he1))
 have c0 := ht1.get 0 rfl
 obtain ⟨z, hz⟩ : ∃ z, z = mayZ l n s.size := ⟨_, rfl⟩
 rw [← hz] at HMay hr ⊢
 have q1 : (z != 0) = true := by simpa using hr
 have q2 : (z == 0) = false := by simpa using hr
 clear hS hN hB1 hs1 ht1 hm1 hb1 he1 hl hs hz
 gi_wp2
 refine ⟨trivial, rfl, (callsIn_wide.2 HMay.out).mono ?_⟩
 rintro e wr ⟨rfl, hb2⟩
 rename_i K hK
 refine hK _ _ ?_
 have HB2 := Lib.hid (HB1.out.trans (hb2.mono HB1.out.size))
 have hmm := HM1.out.1.below hb2 HM1.out.1.lt
 have hmb := HM1.out.2.1.below hb2 HM1.out.2.1.lt
 have hme := HM1.out.2.2.below hb2 HM1.out.2.2.lt
 have HMM := Lib.hid hmm
 have k1 : BoxV 46 (wr.setRow (w.heap.size + 1) (mtA none)) (w.heap.size + 1) (mtA none) := setRow_heap _ _ _ _ _ _ hmm
 have k2 : BoxV 4 (wr.setRow (w.heap.size + 1) (mtA none)) (w.heap.size + 1 + 1) #[.bool false] := (setRow_other _ _ _ _ (by omega)).trans hmb
 have k3 : BoxV 30 (wr.setRow (w.heap.size + 1) (mtA none)) (w.heap.size + 1 + 1 + 1) #[.int .i64 0] := (setRow_other _ _ _ _ (by omega)).trans hme
 have kb : Below w.heap.size wr (wr.setRow (w.heap.size + 1) (mtA none)) := (setRow_below _ _ _).mono (by omega)
 obtain ⟨wz, hwz⟩ : ∃ wz, wr.setRow (w.heap.size + 1) (mtA none) = wz := ⟨_, rfl⟩
 rw [hwz] at k1 k2 k3 kb
 have e2 := k2.get 0 rfl
 have f2 := k2.free 0
 have k4 : BoxV 30 (wz.setCell ⟨w.heap.size + 1 + 1, 0, none⟩ (.bool false)) (w.heap.size + 1 + 1 + 1) #[.int .i64 0] := (heap_setCell_other _ _ _ _ (show w.heap.size + 1 + 1 + 1 ≠ w.heap.size + 1 + 1 by omega)).trans k3
 have e3 := k4.get 0 rfl
 have f3 := k4.free 0
 obtain ⟨wy, hwy⟩ : ∃ wy, (wz.setCell ⟨w.heap.size + 1 + 1, 0, none⟩ (.bool false)).setCell ⟨w.heap.size + 1 + 1 + 1, 0, none⟩ (.int .i64 z) = wy := ⟨_, rfl⟩
 have P1 := Lib.hid (show BoxV 46 wy (w.heap.size + 1) (mtA none) by rw [← hwy]; exact (heap_setCell_other _ _ _ _ (show w.heap.size + 1 ≠ w.heap.size + 1 + 1 + 1 by omega)).trans ((heap_setCell_other _ _ _ _ (show w.heap.size + 1 ≠ w.heap.size + 1 + 1 by omega)).trans k1))
 have P2 := Lib.hid (show BoxV 4 wy (w.heap.size + 1 + 1) #[.bool false] by rw [← hwy]; exact (heap_setCell_other _ _ _ _ (show w.heap.size + 1 + 1 ≠ w.heap.size + 1 + 1 + 1 by omega)).trans (k2.put 0 (.bool false)))
 have P3 := Lib.hid (show BoxV 30 wy (w.heap.size + 1 + 1 + 1) #[.int .i64 z] by rw [← hwy]; exact k4.put 0 (.int .i64 z))
 have P4 := Lib.hid (show Below w.heap.size w wy by
  rw [← hwy]
  exact ((HB2.out.trans kb).setCell (show w.heap.size ≤ w.heap.size + 1 + 1 by omega) _).setCell (show w.heap.size ≤ w.heap.size + 1 + 1 + 1 by omega) _)
 clear hK K c0 HMay hW1 hb2 hmm hmb hme k1 k2 k3 kb k4
 gi_wp2_with (refine storeRowIn rfl 46 _ _ rfl (w.heap.size + 1) (mtA none) rfl (by kernel_rfl) 46 (mtA none) HMM.out (sizeMt.trans (by rw [mtA_size])) rfl (mtA_one none) ?_)
 exact ⟨_, resMz rfl _ rfl rfl rfl (mtA_size none) P1.out P2.out P3.out, rfl, P4.out⟩
end Go.Proofs.YteiboobdhjdjkaaGreatDoor.Nai
