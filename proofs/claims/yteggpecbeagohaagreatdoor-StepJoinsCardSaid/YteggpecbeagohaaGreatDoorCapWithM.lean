import Derived.Test.YteggpecbeagohaaGreatDoorCapKitM
import Derived.Test.YteggpecbeagohaaGreatDoorMz
import Derived.Deep.MidRow
import Derived.Lib.Join
import Derived.Lib.ItoaNum
import Derived.Lib.LaidTab
namespace Go.Proofs.YteggpecbeagohaaGreatDoor.Cap
open Go.RowKit
abbrev capE (c : Cp) (e : Int) : Value := .tuple #[.agg (cpC c), .int .i64 e]
theorem resCE {fn : Func} {p q : Tmp} (h : fn.results = #[.cell p 26, .tmp q]) (tmps : Array Value) {w : World} {g : Nat} {c : Cp} {e : Int} (hp : tmps.getD p undef = .pointer (some ⟨g, 0, none⟩)) (hq : tmps.getD q undef = .int .i64 e) (hg : BoxV 26 w g (cpC c)) :
  (results fn tmps).run Tryz.prog w = .ok (capE c e) w := by
 have hp' : tmps[p]?.getD undef = .pointer (some ⟨g, 0, none⟩) := by simpa using hp
 have hq' : tmps[q]?.getD undef = .int .i64 e := by simpa using hq
 have hl := run_loadVar_row w g _ 26 _ _ _ hg Tryz.underlying26 rfl sizeCaps
 simp [results, h, hp', hq', asAddr, hl]
def WSt (c : Cp) (x y : Int) (w0 w : World) : Prop := Below w0.heap.size w0 w ∧ BoxV 26 w w0.heap.size (cpC c) ∧ BoxV 26 w (w0.heap.size + 1) (cpC zrC) ∧ BoxV 23 w (w0.heap.size + 2) #[.int .i64 x, .int .i64 y]
theorem WSt.start (c : Cp) (x y : Int) (w : World) : WSt c x y w (((w.alloc (.cells (cpC c) 26)).alloc (.cells (cpC zrC) 26)).alloc (.cells #[.int .i64 x, .int .i64 y] 23)) := by
 refine ⟨by go_grown, ((BoxV.new w _).alloc _).alloc _, ?_, ?_⟩
 ·have h := (BoxV.new (T := 26) (w.alloc (.cells (cpC c) 26)) (cpC zrC)).alloc (.cells #[.int .i64 x, .int .i64 y] 23)
  simpa using h
 ·have h := BoxV.new (T := 23) ((w.alloc (.cells (cpC c) 26)).alloc (.cells (cpC zrC) 26)) #[.int .i64 x, .int .i64 y]
  simpa using h
theorem WSt.call {c : Cp} {x y : Int} {w0 w w' : World} (h : WSt c x y w0 w) (hb : Below w.heap.size w w') : WSt c x y w0 w' :=
 ⟨thenB h.1 hb h.1.size, h.2.1.below hb h.2.1.lt, h.2.2.1.below hb h.2.2.1.lt, h.2.2.2.below hb h.2.2.2.lt⟩
theorem BoxV.setCell_other {T : TypeId} {w : World} {g j : Nat} {cs : Array Value} (h : BoxV T w g cs) (k : Nat) (v : Value) (hj : g ≠ j) : BoxV T (w.setCell ⟨j, k, none⟩ v) g cs :=
 (Below.heap_setCell w ⟨j, k, none⟩ v g hj).trans h
set_option maxRecDepth 20000 in
theorem with_bad (c : Cp) (g x y : Int) (h : ¬ grpP g) (w : World) : Calls Tryz.prog 70 #[.agg (cpC c), .int .i64 g, .int .i64 x, .int .i64 y] w fun e w' => e = .returned (capE zrC 1) ∧ Below w.heap.size w w' := by
 have HG := Lib.hid (fun w => group_no g h w)
 have HS := Lib.hid (WSt.start c x y w)
 clear h
 go_enter Tryz.func70, Tryz.ntmps70
 go_wp2_with fail
 refine (HG.out _).mono ?_
 rintro e w' ⟨rfl, rfl⟩
 go_wp2_with (refine storeC rfl _ _ rfl (w.heap.size + 1) zrC (cpC zrC) rfl rfl (by rfl) HS.out.2.2.1 ?_; intro u hu hb ho)
 exact bodyPost_ret (resCE (p := 8) (q := 9) rfl _ (g := w.heap.size + 1) rfl rfl hu.out) rfl ⟨rfl, HS.out.1.trans (hb.out _ (by omega))⟩
set_option maxRecDepth 20000 in
theorem with_off (c : Cp) (g x y : Int) (h : grpP g) (h2 : ¬ mayP x y) (w : World) : Calls Tryz.prog 70 #[.agg (cpC c), .int .i64 g, .int .i64 x, .int .i64 y] w fun e w' => e = .returned (capE zrC 1) ∧ Below w.heap.size w w' := by
 have HG := Lib.hid (fun w => group_yes g h w)
 have HF := Lib.hid (fun w => fits_no x y 10000 h2 w)
 have HS := Lib.hid (WSt.start c x y w)
 clear h h2
 go_enter Tryz.func70, Tryz.ntmps70
 go_wp2_with fail
 refine (HG.out _).mono ?_
 rintro e w' ⟨rfl, rfl⟩
 go_wp2_with fail
 refine (HF.out _).mono ?_
 rintro e w1 ⟨rfl, hb⟩
 have HS1 := Lib.hid (HS.out.call hb)
 clear hb HS
 go_wp2_with (refine storeC rfl _ _ rfl (w.heap.size + 1) zrC (cpC zrC) rfl rfl (by rfl) HS1.out.2.2.1 ?_; intro u hu hb ho)
 exact bodyPost_ret (resCE (p := 8) (q := 9) rfl _ (g := w.heap.size + 1) rfl rfl hu.out) rfl ⟨rfl, HS1.out.1.trans (hb.out _ (by omega))⟩
theorem set1_fr (c : Cp) (k : Nat) (h : k < 9) (v : Value) : ((cpC c).setIfInBounds k v)[9 + k * 2]? = some (.int .i64 (c.fr k)) := by
 rcases lt9 h with rfl | rfl | rfl | rfl | rfl | rfl | rfl | rfl | rfl <;> rfl
theorem set1_to (c : Cp) (k : Nat) (h : k < 9) (v : Value) : ((cpC c).setIfInBounds k v)[9 + k * 2 + 1]? = some (.int .i64 (c.to k)) := by
 rcases lt9 h with rfl | rfl | rfl | rfl | rfl | rfl | rfl | rfl | rfl <;> rfl
set_option maxRecDepth 20000 in
set_option maxHeartbeats 1000000 in
theorem with_ok (c : Cp) (k : Nat) (h : k < 9) (x y : Int) (h2 : mayP x y) (w : World) : Calls Tryz.prog 70 #[.agg (cpC c), .int .i64 ((k : Int) + 1), .int .i64 x, .int .i64 y] w fun e w' => e = .returned (capE (c.set k x y) 0) ∧ Below w.heap.size w w' := by
 have HG := Lib.hid (fun w => group_yes ((k : Int) + 1) ⟨by omega, by omega⟩ w)
 have HF := Lib.hid (fun w => fits_yes x y 10000 h2.1 h2.2.1 h2.2.2 w)
 have HS := Lib.hid (WSt.start c x y w)
 clear h2
 go_enter Tryz.func70, Tryz.ntmps70
 go_wp2_with fail
 refine (HG.out _).mono ?_
 rintro e w' ⟨rfl, rfl⟩
 go_wp2_with fail
 refine (HF.out _).mono ?_
 rintro e w1 ⟨rfl, hb⟩
 have HS1 := Lib.hid (HS.out.call hb)
 clear hb HS
 go_wp2_with fail
 have HS2 := Lib.hid (HS1.out.call ((Below.refl _ w1).drew))
 refine wp_region_held_drew (S := fun u => BoxV 23 u (w.heap.size + 2) #[.int .i64 x, .int .i64 y]) (by kernel_rfl) (show _ from HS2.out.2.2.2) (fun hS => ?_)
 clear HS1
 generalize World.drew w1 = v0 at hS HS2 ⊢
 refine takeAt 0 23 (.int .i64 ((k : Int) + 1)) rfl rfl (by kernel_rfl) (by kernel_rfl) (by kernel_rfl) i_ (yields (by rfl) (fun w => by kernel_rfl)) hS ?_
 simp only [Act.put, sA_, s0_, sS_]
 refine takeAt 1 24 (.int .i64 (k : Int)) rfl rfl (by kernel_rfl) (by kernel_rfl) (by kernel_rfl) i_ (dec_y k h rfl rfl rfl (by rfl)) hS ?_
 simp only [Act.put, sA_, s0_, sS_]
 refine takeAt 2 25 (.int .i64 ((k : Int) + 1)) rfl rfl (by kernel_rfl) (by kernel_rfl) (by kernel_rfl) i_ (yields (by rfl) (fun w => by kernel_rfl)) hS ?_
 simp only [Act.put, sA_, s0_, sS_]
 refine takeAt 3 26 (.int .i64 (k : Int)) rfl rfl (by kernel_rfl) (by kernel_rfl) (by kernel_rfl) i_ (dec_y k h rfl rfl rfl (by rfl)) hS ?_
 simp only [Act.put, sA_, s0_, sS_]
 refine takeAt 4 27 (.agg #[.int .i64 x, .int .i64 y]) rfl rfl (by kernel_rfl) (by kernel_rfl) (by kernel_rfl) i_ (loadPair_y (w.heap.size + 2) x y (fun _ h => h) rfl rfl (by rfl)) hS ?_
 simp only [Act.put, sA_, s0_, sS_]
 refine takeAt 5 28 (.pointer (some ⟨w.heap.size, 0, none⟩)) rfl rfl (by kernel_rfl) (by kernel_rfl) (by kernel_rfl) i_ (yields (by rfl) (fun w => by kernel_rfl)) hS ?_
 simp only [Act.put, sA_, s0_, sS_]
 refine takeAt 6 29 (.pointer (some ⟨w.heap.size, 0 + k, none⟩)) rfl rfl (by kernel_rfl) (by kernel_rfl) (by kernel_rfl) i_ (idxIs_y w.heap.size 0 k h rfl rfl rfl (by rfl)) hS ?_
 simp only [Act.put, sA_, s0_, sS_]
 refine takeAt 8 30 (.pointer (some ⟨w.heap.size, 9, none⟩)) rfl rfl (by kernel_rfl) (by kernel_rfl) (by kernel_rfl) i_ (yields (by rfl) (fun w => by kernel_rfl)) hS ?_
 simp only [Act.put, sA_, s0_, sS_]
 rw [Nat.zero_add]
 have hb1 := HS2.out.2.1.put k (.bool true)
 have hp1 : BoxV 23 (v0.setCell ⟨w.heap.size, k, none⟩ (.bool true)) (w.heap.size + 2) #[.int .i64 x, .int .i64 y] := (BoxV.setCell_other hS k (.bool true) (by omega))
 refine skipAt 7 (v0.setCell ⟨w.heap.size, k, none⟩ (.bool true)) rfl rfl (by kernel_rfl) (by rfl) (exec_is 26 w.heap.size k (cpC c) h c rfl rfl rfl rfl HS2.out.2.1) hp1 ?_
 refine takeAt 9 31 (.pointer (some ⟨w.heap.size, 9 + k * 2, none⟩)) rfl rfl (by kernel_rfl) (by kernel_rfl) (by kernel_rfl) i_ (idxAt_y w.heap.size 9 k h rfl rfl rfl (by rfl)) hp1 ?_
 simp only [Act.put, sA_, s0_, sS_]
 have hb2 := (hb1.put (9 + k * 2) (.int .i64 x)).put (9 + k * 2 + 1) (.int .i64 y)
 rw [Nat.mul_comm k 2, cpC_set c k h x y, Nat.mul_comm 2 k] at hb2
 refine skipAt 10 (((v0.setCell ⟨w.heap.size, k, none⟩ (.bool true)).setCell ⟨w.heap.size, 9 + k * 2, none⟩ (.int .i64 x)).setCell ⟨w.heap.size, 9 + k * 2 + 1, none⟩ (.int .i64 y)) rfl rfl (by kernel_rfl) (by rfl) (exec_pair 26 w.heap.size (9 + k * 2) x y (c.fr k) (c.to k) _ rfl rfl rfl hb1 (set1_fr c k h _) (set1_to c k h _)) (BoxV.setCell_other (BoxV.setCell_other hp1 _ _ (by omega)) _ _ (by omega)) ?_
 refine wpAnyH_done (by kernel_rfl) ?_ _
 have hw : Below w.heap.size w (((v0.setCell ⟨w.heap.size, k, none⟩ (.bool true)).setCell ⟨w.heap.size, 9 + k * 2, none⟩ (.int .i64 x)).setCell ⟨w.heap.size, 9 + k * 2 + 1, none⟩ (.int .i64 y)) := ((HS2.out.1.setCell (by simp) _).setCell (by simp) _).setCell (by simp) _
 have hr : BoxV 26 (((v0.setCell ⟨w.heap.size, k, none⟩ (.bool true)).setCell ⟨w.heap.size, 9 + k * 2, none⟩ (.int .i64 x)).setCell ⟨w.heap.size, 9 + k * 2 + 1, none⟩ (.int .i64 y)) (w.heap.size + 1) (cpC zrC) := BoxV.setCell_other (BoxV.setCell_other (BoxV.setCell_other HS2.out.2.2.1 _ _ (by omega)) _ _ (by omega)) _ _ (by omega)
 generalize ((v0.setCell ⟨w.heap.size, k, none⟩ (.bool true)).setCell ⟨w.heap.size, 9 + k * 2, none⟩ (.int .i64 x)).setCell ⟨w.heap.size, 9 + k * 2 + 1, none⟩ (.int .i64 y) = v1 at hw hr hb2 ⊢
 have HW := Lib.hid hw
 have HR := Lib.hid hr
 have H2 := Lib.hid hb2
 clear hw hr hb2 hp1 hb1 hS HS2
 go_wp2_with (first | (refine loadC rfl _ rfl w.heap.size (c.set k x y) rfl H2.out ?_) | (refine storeC rfl _ _ rfl (w.heap.size + 1) (c.set k x y) (cpC zrC) rfl rfl (by rfl) HR.out ?_; intro u hu hb ho))
 exact bodyPost_ret (resCE (p := 8) (q := 9) rfl _ (g := w.heap.size + 1) rfl rfl hu.out) rfl ⟨rfl, HW.out.trans (hb.out _ (by omega))⟩
theorem with_any (c : Cp) (g x y : Int) (w : World) : Calls Tryz.prog 70 #[.agg (cpC c), .int .i64 g, .int .i64 x, .int .i64 y] w fun e w' => e = .returned (capE (withZ c g x y).1 (withZ c g x y).2) ∧ Below w.heap.size w w' := by
 unfold withZ
 by_cases h : grpP g
 ·by_cases h2 : mayP x y
  ·rw [if_pos ⟨h, h2⟩]
   obtain ⟨k, rfl⟩ : ∃ k : Nat, g = (k : Int) + 1 := ⟨(g - 1).toNat, by have := h.1; omega⟩
   have e : ((k : Int) + 1 - 1).toNat = k := by omega
   rw [e]
   exact with_ok c k (by have := h.2; omega) x y h2 w
  ·rw [if_neg (fun e => h2 e.2)]
   exact with_off c g x y h h2 w
 ·rw [if_neg (fun e => h e.1)]
  exact with_bad c g x y h w
end Go.Proofs.YteggpecbeagohaaGreatDoor.Cap
namespace Go.Proofs.YteggpecbeagohaaGreatDoor.Cap
open Go.RowKit
section
variable {ops : Array Oper} {rest : List Oper} {o : Oper} {a : Act} {w : World} {Q : Exit → Act → World → Prop} {x y : Operand}
end
def RSt (c : Cp) (w0 w : World) : Prop := Below w0.heap.size w0 w ∧ BoxV 32 w w0.heap.size (cpC c) ∧ BoxV 32 w (w0.heap.size + 1) (cpC zrC)
end Go.Proofs.YteggpecbeagohaaGreatDoor.Cap
namespace Go.Proofs.YteggpecbeagohaaGreatDoor.Cap
open Go.RowKit
abbrev isL (c : Cp) : List Value := [.bool (c.is 0), .bool (c.is 1), .bool (c.is 2), .bool (c.is 3), .bool (c.is 4), .bool (c.is 5), .bool (c.is 6), .bool (c.is 7), .bool (c.is 8)]
abbrev atL (c : Cp) : List Value := [.int .i64 (c.fr 0), .int .i64 (c.to 0), .int .i64 (c.fr 1), .int .i64 (c.to 1), .int .i64 (c.fr 2), .int .i64 (c.to 2), .int .i64 (c.fr 3), .int .i64 (c.to 3), .int .i64 (c.fr 4), .int .i64 (c.to 4), .int .i64 (c.fr 5), .int .i64 (c.to 5), .int .i64 (c.fr 6), .int .i64 (c.to 6), .int .i64 (c.fr 7), .int .i64 (c.to 7), .int .i64 (c.fr 8), .int .i64 (c.to 8)]
theorem range_is {T : TypeId} {w : World} {g : Nat} {c : Cp} (h : BoxV T w g (cpC c)) : w.rangeAt g 0 (isL c) := fun j v hj => by
 rw [Nat.zero_add]
 have hl : j < 9 := (List.getElem?_eq_some_iff.1 hj).1
 rw [h.get j (cpC_is c j hl), ← hj]
 rcases lt9 hl with rfl | rfl | rfl | rfl | rfl | rfl | rfl | rfl | rfl <;> rfl
theorem range_at {T : TypeId} {w : World} {g : Nat} {c : Cp} (h : BoxV T w g (cpC c)) : w.rangeAt g 9 (atL c) := fun j v hj => by
 have hl : j < 18 := (List.getElem?_eq_some_iff.1 hj).1
 refine h.get (9 + j) ?_
 rw [← hj]
 obtain ⟨k, hk, e⟩ : ∃ k, k < 9 ∧ (j = 2 * k ∨ j = 2 * k + 1) := ⟨j / 2, by omega, by omega⟩
 rcases e with rfl | rfl <;> rcases lt9 hk with rfl | rfl | rfl | rfl | rfl | rfl | rfl | rfl | rfl <;> rfl
theorem sizeIs : (Tryz.prog.info? 22).map (·.size) = some 9 := by kernel_rfl
theorem sizeAt : (Tryz.prog.info? 24).map (·.size) = some 18 := by kernel_rfl
set_option maxRecDepth 20000 in
theorem ref_any (c : Cp) (w : World) : Calls Tryz.prog 16 #[.agg (cpC c)] w fun e w' => e = .returned (.agg (cpC c)) ∧ Below w.heap.size w w' := by
 have HS0 : BoxV 26 ((w.alloc (.cells (cpC c) 26)).alloc (.cells (cpC zrC) 32)) w.heap.size (cpC c) := (BoxV.new w _).alloc _
 have HR0 : BoxV 32 ((w.alloc (.cells (cpC c) 26)).alloc (.cells (cpC zrC) 32)) (w.heap.size + 1) (cpC zrC) := by
  have h := BoxV.new (T := 32) (w.alloc (.cells (cpC c) 26)) (cpC zrC)
  simpa using h
 have HS := Lib.hid HS0
 have HR := Lib.hid HR0
 clear HS0 HR0
 go_enter Tryz.func16, Tryz.ntmps16
 go_wp2_with (first | (refine wpList_load_mid rfl 22 _ rfl w.heap.size 0 rfl (isL c) _ (range_is HS.out) Tryz.underlying22 rfl sizeIs ?_) | (refine wpList_load_mid rfl 24 _ rfl w.heap.size 9 rfl (atL c) _ (range_at HS.out) Tryz.underlying24 rfl sizeAt ?_) | (refine storeR rfl _ _ rfl (w.heap.size + 1) c (cpC zrC) rfl rfl (by rfl) HR.out ?_; intro u hu hb ho))
 exact bodyPost_ret (results_cell_row (p := 2) (ty := 32) rfl _ u (w.heap.size + 1) _ _ _ _ rfl hu.out Tryz.underlying32 rfl sizeRef) rfl ⟨rfl, (show Below w.heap.size w ((w.alloc (.cells (cpC c) 26)).alloc (.cells (cpC zrC) 32)) by go_grown).trans (hb.out _ (by omega))⟩
end Go.Proofs.YteggpecbeagohaaGreatDoor.Cap
namespace Go.Proofs.YteggpecbeagohaaGreatDoor.Cap
open Go.RowKit
def CloneOk : Prop := ∀ (s : ByteArray) (w : World), s.size ≤ 281474976710656 → Calls Tryz.prog 24 #[.string s] w fun e w' => e = .returned (.string s) ∧ Below w.heap.size w w'
def PrefixOk : Prop := ∀ (s p : ByteArray) (w : World), Calls Tryz.prog 71 #[.string s, .string p] w fun e w' => e = .returned (.bool (Lib.hasPrefix s.data.toList p.data.toList)) ∧ w' = w
structure LibA : Prop where
 clone : CloneOk
 pre : PrefixOk
end Go.Proofs.YteggpecbeagohaaGreatDoor.Cap
