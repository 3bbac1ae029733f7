import Derived.Test.YtdnbpbngoiahlaaGreatDoorParW
import Derived.Test.YtdnbpbngoiahlaaGreatDoorParParse
import Derived.Test.YtdnbpbngoiahlaaGreatDoorLexRB
import Derived.Test.YtdnbpbngoiahlaaGreatDoorParV
namespace Go.Proofs.YtdnbpbngoiahlaaGreatDoor
open Go.RowKit
open Ast (Nd ndV joinL wrapL deepZ rightZ NodesAt Made)
section
variable {ops : Array Oper} {rest : List Oper} {o : Oper} {a : Act} {w : World} {Q : Exit → Act → World → Prop}
theorem storeNewA7 (hgd : o.guard = none) (x y : Operand) (ho : o.op = .store 128 x y) (wr : World) (S T : BitVec 256) (hx : a.eval x = .pointer (some ⟨wr.heap.size, 0, none⟩)) (hy : a.eval y = .agg (bitsA T)) (hw : w = wr.alloc (.cells (bitsA S) 128))
  (h : ∀ W : World, Hid (BoxA W wr.heap.size T) → Hid (Below wr.heap.size wr W) → wpList Tryz.prog ops Q rest (a.put o.dst undef) W) : wpList Tryz.prog ops Q (o :: rest) a w := by
 subst hw
 exact storeA hgd x y ho wr.heap.size S T hx hy (BoxA.new wr S) (h _ (Lib.hid ((BoxA.new wr S).rowSame T)) (Lib.hid (below_row ((Below.refl _ wr).alloc (Nat.le_refl _) _) (Nat.le_refl _) _)))
theorem storeA7 (hgd : o.guard = none) (x y : Operand) (ho : o.op = .store 128 x y) (g : Nat) (S T : BitVec 256) (hx : a.eval x = .pointer (some ⟨g, 0, none⟩)) (hy : a.eval y = .agg (bitsA T)) (hg : BoxA w g S) (B : Nat) (hB : B ≤ g)
  (h : ∀ W : World, Hid (BoxA W g T) → Hid (Below B w W) → wpList Tryz.prog ops Q rest (a.put o.dst undef) W) : wpList Tryz.prog ops Q (o :: rest) a w :=
 storeA hgd x y ho g S T hx hy hg (h _ (Lib.hid (hg.rowSame T)) (Lib.hid (below_row (Below.refl B w) hB _)))
theorem loadTk (hgd : o.guard = none) (x : Operand) (ho : o.op = .load 93 x) (g : Nat) (t : Tok) (hx : a.eval x = .pointer (some ⟨g, 0, none⟩)) (hg : BoxT 93 w g t)
  (h : wpList Tryz.prog ops Q rest (a.put o.dst (tokV t)) w) : wpList Tryz.prog ops Q (o :: rest) a w :=
 wpList_load_row hgd 93 x ho g hx _ _ _ _ hg Tryz.underlying93 rfl sizeTk h
end
theorem one_node (x : Nd) (w : World) : NodesAt (w.alloc (.cells (ndC x) 65)) w.heap.size 0 1 (fun _ => x) := by
 refine ⟨by simp, fun i hi => ?_⟩
 obtain rfl : i = 0 := by omega
 have hg : BoxV 65 (w.alloc (.cells (ndC x) 65)) w.heap.size (ndC x) := BoxV.new _ _
 exact ⟨(hg.cell_ 0).trans rfl, (hg.cell_ 1).trans rfl, (hg.cell_ 2).trans rfl, (hg.cell_ 3).trans rfl, (hg.cell_ 4).trans rfl, (hg.cell_ 5).trans rfl, (hg.cell_ 6).trans rfl, (hg.cell_ 7).trans rfl, (hg.cell_ 8).trans rfl, (hg.cell_ 9).trans rfl, (hg.cell_ 10).trans rfl, (hg.cell_ 11).trans rfl⟩
theorem span_all : span 0 (255 + 1) = ~~~0#256 := by decide +kernel
theorem span_ten : span 10 (10 + 1) = addB 0#256 10 := by decide +kernel
theorem not_ten : (ofPred fun n => !mem (addB 0#256 10) n) = ~~~addB 0#256 10 := by decide +kernel
set_option maxRecDepth 100000 in
set_option maxHeartbeats 8000000 in
theorem piece_all (w0 : World) (g : Nat) (A : Option Addr) (cap : Nat) (all : List Tok) (hall : all.length ≤ 1000) (n : Nat) (hW : WithinUOk w0 g A cap all n) (w : World) (f : ByteArray) (gr : Nat) (x : Tok) (r : List Tok) (bd : Bool) (t : Tr) (s' : US) (hF : FU f ⟨gr, x :: r, bd⟩) (hU : UW w0 g A cap all w ⟨gr, x :: r, bd⟩) (hm : pieceU (n + 1) f ⟨gr, x :: r, bd⟩ = some (t, s')) (hx : 0 ≤ x.k)  : Calls Tryz.prog 124 #[.pointer (some ⟨g, 0, none⟩), .string f] w (UPost w0 g A cap all w t s') := by
 obtain ⟨mv, hmf⟩ : ∃ mv, hasF f 109 = mv := ⟨_, rfl⟩
 have HX := Lib.hid (show x.k = 16 ∨ x.k = 17 ∨ (5 < x.k ∧ x.k ≠ 16 ∧ x.k ≠ 17) ∨ (x.k = 0 ∧ hasF f 105 = false) ∨ (x.k = 0 ∧ hasF f 105 = true) ∨ (x.k = 1 ∧ hasF f 115 = false) ∨ (x.k = 1 ∧ hasF f 115 = true) ∨ x.k = 2 ∨ x.k = 3 ∨ x.k = 4 ∨ x.k = 5 by
  cases hasF f 105 <;> cases hasF f 115 <;> simp <;> omega)
 clear hx
 have HH := Lib.hid (fun c u => rhas_any f c u (by have := hF.sz; omega))
 have HM := Lib.hid hm
 have HF := Lib.hid hF
 have HL := Lib.hid hall
 have HW := Lib.hid hW
 have hgw := hU.lt
 have HUc := Lib.hid hU
 have HS2 := Lib.hid (hU.step rfl)
 obtain ⟨bT, oT, rfl, hTk⟩ := hU.tok rfl
 have hc1 : ∀ u, Below w.heap.size w u → u.cell? ⟨g, 1, none⟩ = some (.int .i64 ((all.length - (x :: r).length : Nat) : Int)) := fun u hu => (hU.call hu).c1
 have hal : all.length - (x :: r).length < all.length := by have h1 := hU.le; simp only [List.length_cons] at h1 ⊢; omega
 have HCS := Lib.hid (show urC (some ⟨bT, oT, none⟩) cap all ⟨gr, x :: r, bd⟩ = #[.slice (some ⟨bT, oT, none⟩) all.length cap, .int .i64 ((all.length - (x :: r).length : Nat) : Int), .int .i64 (gr : Int), .bool bd] from rfl)
 obtain ⟨a, ha⟩ : ∃ a, a = all.length - (x :: r).length := ⟨_, rfl⟩
 simp only [] at hTk HS2
 rw [← ha] at hTk hc1 hal HS2 HCS
 have HTk := Lib.hid hTk
 have HC1 := Lib.hid hc1
 have HAL := Lib.hid hal
 have HGW := Lib.hid hgw
 clear hTk hc1 hal ha hm hF hall hW hU hgw
 go_enter Tryz.func124, Tryz.ntmps124
 go_wp2_with fail
 refine wp_region_held_drew (S := fun u => Below w.heap.size w u) (by kernel_rfl) (show _ from (Below.refl _ w).drew) (fun hS => ?_)
 generalize World.drew w = u0 at hS ⊢
 refine takeAt 0 9 (.pointer (some ⟨g, 0, none⟩)) rfl rfl (by kernel_rfl) (by kernel_rfl) (by kernel_rfl) (fun _ _ _ h => h) (yields (by rfl) (fun w => by kernel_rfl)) hS ?_
 simp only [Act.put, List.setIfInBounds_toArray, List.set_cons_zero, List.set_cons_succ]
 refine takeAt 1 10 (.pointer (some ⟨g, 0, none⟩)) rfl rfl (by kernel_rfl) (by kernel_rfl) (by kernel_rfl) (fun _ _ _ h => h) (yields (by rfl) (fun w => by kernel_rfl)) hS ?_
 simp only [Act.put, List.setIfInBounds_toArray, List.set_cons_zero, List.set_cons_succ]
 refine takeAt 2 11 (.pointer (some ⟨g, 0, none⟩)) rfl rfl (by kernel_rfl) (by kernel_rfl) (by kernel_rfl) (fun _ _ _ h => h) (yields (by rfl) (fun w => by kernel_rfl)) hS ?_
 simp only [Act.put, List.setIfInBounds_toArray, List.set_cons_zero, List.set_cons_succ]
 refine takeAt 3 12 (.slice (some ⟨bT, oT, none⟩) all.length cap) rfl rfl (by kernel_rfl) (by kernel_rfl) (by kernel_rfl) (fun _ _ _ h => h) (loadTk7 g (some ⟨bT, oT, none⟩) all.length cap (fun u h => (HUc.out.call h).c0) rfl rfl (by rfl)) hS ?_
 simp only [Act.put, List.setIfInBounds_toArray, List.set_cons_zero, List.set_cons_succ]
 refine takeAt 4 13 (.pointer (some ⟨g, 0, none⟩)) rfl rfl (by kernel_rfl) (by kernel_rfl) (by kernel_rfl) (fun _ _ _ h => h) (yields (by rfl) (fun w => by kernel_rfl)) hS ?_
 simp only [Act.put, List.setIfInBounds_toArray, List.set_cons_zero, List.set_cons_succ]
 refine takeAt 5 14 (.pointer (some ⟨g, 0, none⟩)) rfl rfl (by kernel_rfl) (by kernel_rfl) (by kernel_rfl) (fun _ _ _ h => h) (yields (by rfl) (fun w => by kernel_rfl)) hS ?_
 simp only [Act.put, List.setIfInBounds_toArray, List.set_cons_zero, List.set_cons_succ]
 refine takeAt 6 15 (.pointer (some ⟨g, 1, none⟩)) rfl rfl (by kernel_rfl) (by kernel_rfl) (by kernel_rfl) (fun _ _ _ h => h) (yields (by rfl) (fun w => by kernel_rfl)) hS ?_
 simp only [Act.put, List.setIfInBounds_toArray, List.set_cons_zero, List.set_cons_succ]
 refine takeAt 7 16 (.int .i64 ((a : Nat) : Int)) rfl rfl (by kernel_rfl) (by kernel_rfl) (by kernel_rfl) (fun _ _ _ h => h) (loadIr7 g 1 _ (fun u h => HC1.out u h) rfl rfl (by rfl)) hS ?_
 simp only [Act.put, List.setIfInBounds_toArray, List.set_cons_zero, List.set_cons_succ]
 refine takeAt 8 17 (.pointer (some ⟨bT, oT + a * 10, none⟩)) rfl rfl (by kernel_rfl) (by kernel_rfl) (by kernel_rfl) (fun _ _ _ h => h) (idxT7 (n := all.length) (cap := cap) HAL.out HL.out rfl rfl rfl (by rfl)) hS ?_
 simp only [Act.put, List.setIfInBounds_toArray, List.set_cons_zero, List.set_cons_succ]
 refine takeAt 9 18 (tokV x) rfl rfl (by kernel_rfl) (by kernel_rfl) (by kernel_rfl) (fun _ _ _ h => h) (loadTok7 x (fun u h => HTk.out u h) rfl rfl (by rfl)) hS ?_
 simp only [Act.put, List.setIfInBounds_toArray, List.set_cons_zero, List.set_cons_succ]
 refine valAt 10 5 (.pointer (some ⟨u0.heap.size, 0, none⟩)) (World.alloc u0 (.cells (tokC (tok0 0)) 93)) rfl rfl (by kernel_rfl) (by rfl) (run_alloc_tok (by rfl) u0) (hS.alloc hS.size _) ?_
 simp only [Act.put, List.setIfInBounds_toArray, List.set_cons_zero, List.set_cons_succ]
 have hz : BoxT 93 (World.alloc u0 (.cells (tokC (tok0 0)) 93)) u0.heap.size (tok0 0) := BoxT.new _ _
 have hw2 : Below w.heap.size w ((World.alloc u0 (.cells (tokC (tok0 0)) 93)).setRow u0.heap.size (tokC x)) := below_row (hS.alloc hS.size _) hS.size _
 refine rowAt 11 93 u0.heap.size (tokC (tok0 0)) (tokC x) rfl rfl rfl (by kernel_rfl) (by rfl) rfl rfl hz sizeTk rfl (tokC_one x) hw2 ?_
 refine wpAnyH_done (by kernel_rfl) ?_ _
 have HTB := Lib.hid (hz.rowSame x)
 have HBt := Lib.hid hw2
 have HSt := Lib.hid hS.size
 generalize ((World.alloc u0 (.cells (tokC (tok0 0)) 93)).setRow u0.heap.size (tokC x)) = v at HTB HBt ⊢
 generalize u0.heap.size = G at HTB HSt ⊢
 clear hw2 hz hS
 have HUv := Lib.hid (HUc.out.call HBt.out)
 have hc1 := HC1.out v HBt.out
 have han : (a : Int) ≤ 1000 := by have := HAL.out; have := HL.out; omega
 have HgG := Lib.hid (show g < G by have := HGW.out; have := HSt.out; omega)
 go_wp2_with (first | (refine storeIR rfl _ _ rfl g 1 _ (urC (some ⟨bT, oT, none⟩) cap all ⟨gr, r, bd⟩) (a : Int) ((a : Int) + 1) rfl rfl HUv.out.cells (by rw [HCS.out]; rfl) (by rw [HCS.out, HS2.out]; rfl) ?_; intro w3 hx3 hN3; refine stopP ?_))
 unfold StopP
 have HU3 := Lib.hid (HUv.out.tail (r := r) (x := x) rfl hN3.out hx3.out)
 have HB3 := Lib.hid ((ButR.of (g := g) HBt.out).then hN3.out HBt.out.size)
 have HT3 := Lib.hid (HTB.out.but hN3.out HTB.out.lt (by have := HgG.out; omega))
 have HG3 := Lib.hid HSt.out
 clear hx3 hN3 hc1 han HTB HUv HUc HBt HSt HTk HC1 HCS HS2 HAL
 go_wp2_with fail
 refine (HH.out 109 _).mono ?_
 rintro e w4 ⟨rfl, hb⟩
 rw [hmf]
 have HU4 := Lib.hid (HU3.out.call hb)
 have HB4 := Lib.hid (HB3.out.then (ButR.of hb) HB3.out.size)
 have HT4 := Lib.hid (HT3.out.below hb HT3.out.lt)
 clear hb HU3 HB3 HT3
 obtain hk | hk | hk | ⟨hk, hif⟩ | ⟨hk, hif⟩ | ⟨hk, hif⟩ | ⟨hk, hif⟩ | hk | hk | hk | hk := HX.out
 ·cases mv <;> (
   clear HX
   have hm := HM.out
   clear HM
   rw [pieceU_s] at hm
   rw [if_pos hk] at hm
   have HM := Lib.hid hm
   clear hm
   have d0 : w4.cell? ⟨G, 0, none⟩ = some (.int .i64 16) := (cell_of_row w4 G 0 _ _ _ HT4.out).trans (by show some (Value.int .i64 x.k) = _; rw [hk])
   have ht' : t = leaf0 := by have := HM.out; cases this; rfl
   have hs' : s' = ⟨gr, r, true⟩ := by have := HM.out; cases this; rfl
   have HT' := Lib.hid ht'
   have HS' := Lib.hid hs'
   clear ht' hs' HM
   have hc3 := HU4.out.c3
   go_wp2_with (first | (refine storeBR rfl _ _ rfl g 3 _ (urC (some ⟨bT, oT, none⟩) cap all ⟨gr, r, true⟩) bd true rfl rfl HU4.out.cells rfl rfl ?_; intro w6 hx6 hN6; refine stopP ?_))
   unfold StopP
   have HU6 := Lib.hid (HU4.out.change (s' := ⟨gr, r, true⟩) rfl hN6.out hx6.out)
   have HB6 := Lib.hid (HB4.out.then hN6.out HB4.out.size)
   clear hx6 hN6 hc3 HU4 HB4
   have HU4 := HU6
   have HB4 := HB6
   clear HU6 HB6 d0
   go_wp2_with fail
   refine (Ast.rleaf_any 0 _).mono ?_
   rintro e w5 ⟨b3, c3, rfl, hn3, hb3, hB5⟩
   have HU5 := Lib.hid (HU4.out.call hB5)
   have HB5 := Lib.hid (HB4.out.then (ButR.of hB5) HB4.out.size)
   have HN5 := Lib.hid hn3
   have HG5 := Lib.hid (Nat.le_trans HB4.out.size hb3)
   clear hn3 hb3 hB5
   go_wp2_with fail
   go_ret
   rw [HT'.out, HS'.out]
   exact ⟨b3, c3, rfl, HN5.out, HG5.out, HU5.out, HB5.out⟩)
 ·cases mv <;> (
   clear HX
   have hm := HM.out
   clear HM
   rw [pieceU_s] at hm
   rw [if_neg (by omega), if_pos (by omega)] at hm
   rw [show leafN f x = ({ nd0 12 with n := x.n, f := hasF f 105 } : Nd) by unfold leafN; rw [hk]; rfl] at hm
   have HM := Lib.hid hm
   clear hm
   have d0 : w4.cell? ⟨G, 0, none⟩ = some (.int .i64 17) := (cell_of_row w4 G 0 _ _ _ HT4.out).trans (by show some (Value.int .i64 x.k) = _; rw [hk])
   have ht' : t = leafT ({ nd0 12 with n := x.n, f := hasF f 105 } : Nd) := by have := HM.out; cases this; rfl
   have hs' : s' = ⟨gr, r, bd⟩ := by have := HM.out; cases this; rfl
   have HT' := Lib.hid ht'
   have HS' := Lib.hid hs'
   clear ht' hs' HM
   have HD8 := Lib.hid (show ∀ u, Below w4.heap.size w4 u → u.cell? ⟨G, 8, none⟩ = some (.int .i64 x.n) from fun u hu => (cell_of_row u G 8 _ _ _ (HT4.out.below hu HT4.out.lt)).trans rfl)
   go_wp2_with fail
   refine wp_region_held_drew (S := fun u => Below w4.heap.size w4 u) (by kernel_rfl) (show _ from (Below.refl _ w4).drew) (fun hS => ?_)
   generalize World.drew w4 = u0 at hS ⊢
   refine takeAt 0 73 (.pointer (some ⟨G, 8, none⟩)) rfl rfl (by kernel_rfl) (by kernel_rfl) (by kernel_rfl) (fun _ _ _ h => h) (yields (by rfl) (fun w => by kernel_rfl)) hS ?_
   simp only [Act.put, List.setIfInBounds_toArray, List.set_cons_zero, List.set_cons_succ]
   refine takeAt 1 74 (.int .i64 x.n) rfl rfl (by kernel_rfl) (by kernel_rfl) (by kernel_rfl) (fun _ _ _ h => h) (loadIr7 G 8 _ (fun u h => HD8.out u h) rfl rfl (by rfl)) hS ?_
   simp only [Act.put, List.setIfInBounds_toArray, List.set_cons_zero, List.set_cons_succ]
   refine takeAt 2 75 (.string f) rfl rfl (by kernel_rfl) (by kernel_rfl) (by kernel_rfl) (fun _ _ _ h => h) (yields (by rfl) (fun w => by kernel_rfl)) hS ?_
   simp only [Act.put, List.setIfInBounds_toArray, List.set_cons_zero, List.set_cons_succ]
   refine callAt 3 76 rfl rfl (by kernel_rfl) (by rfl) (by kernel_rfl) (HH.out 105 _) ?_
   rintro e u' ⟨rfl, hb⟩
   have hS := thenB hS hb hS.size
   clear hb
   refine ⟨_, rfl, hS, ?_⟩
   simp only [Act.put, List.setIfInBounds_toArray, List.set_cons_zero, List.set_cons_succ]
   refine takeAt 4 77 (ndV ({ nd0 12 with n := x.n, f := hasF f 105 } : Nd)) rfl rfl (by kernel_rfl) (by kernel_rfl) (by kernel_rfl) (fun _ _ _ h => h) (yields (by rfl) (fun w => by kernel_rfl)) hS ?_
   simp only [Act.put, List.setIfInBounds_toArray, List.set_cons_zero, List.set_cons_succ]
   refine valAt 5 78 (.slice (some ⟨u'.heap.size, 0, none⟩) 1 1) (World.alloc u' (.cells (ndC ({ nd0 12 with n := x.n, f := hasF f 105 } : Nd)) 65)) rfl rfl (by kernel_rfl) (by rfl) (by kernel_rfl) (hS.alloc hS.size _) ?_
   simp only [Act.put, List.setIfInBounds_toArray, List.set_cons_zero, List.set_cons_succ]
   refine takeAt 6 4 (.slice (some ⟨u'.heap.size, 0, none⟩) 1 1) rfl rfl (by kernel_rfl) (by kernel_rfl) (by kernel_rfl) (fun _ _ _ h => h) (yields (by rfl) (fun w => by kernel_rfl)) (hS.alloc hS.size _) ?_
   simp only [Act.put, List.setIfInBounds_toArray, List.set_cons_zero, List.set_cons_succ]
   refine wpAnyH_done (by kernel_rfl) ?_ _
   have HU5 := Lib.hid (HU4.out.call hS)
   have HB5 := Lib.hid (HB4.out.then (ButR.of hS) HB4.out.size)
   go_wp2_with fail
   go_ret
   rw [HT'.out, HS'.out]
   exact ⟨u'.heap.size, 1, rfl, one_node (({ nd0 12 with n := x.n, f := hasF f 105 } : Nd)) u', HB5.out.size, HU5.out.call ((Below.refl _ u').alloc (Nat.le_refl _) _), HB5.out.then (ButR.of ((Below.refl _ u').alloc (Nat.le_refl _) _)) HB5.out.size⟩)
 ·cases mv <;> (
   clear HX
   have hm := HM.out
   clear HM
   rw [pieceU_s] at hm
   rw [if_neg (by omega), if_neg (by omega)] at hm
   have HM := Lib.hid hm
   clear hm
   have d0 : w4.cell? ⟨G, 0, none⟩ = some (.int .i64 x.k) := (cell_of_row w4 G 0 _ _ _ HT4.out).trans rfl
   have hm := HM.out
   have h16 : (x.k == 16) = false := by simp; omega
   have h17 : (x.k == 17) = false := by simp; omega
   have h0 : (x.k == 0) = false := by simp; omega
   have h1 : (x.k == 1) = false := by simp; omega
   have h2 : (x.k == 2) = false := by simp; omega
   have h3 : (x.k == 3) = false := by simp; omega
   have h4 : (x.k == 4) = false := by simp; omega
   have h5 : (x.k == 5) = false := by simp; omega
   have hF := HF.out
   have hf7 : x.f.size ≤ 1000 := hF.fl x (List.mem_cons_self ..)
   have hF2 : FU f ⟨gr, r, bd⟩ := hF.suf (s' := ⟨gr, r, bd⟩) (List.suffix_cons x r) (by show gr + r.length ≤ gr + (x :: r).length; rw [List.length_cons]; omega)
   have HC := Lib.hid (fun u hu => HW.out u f x ⟨gr, r, bd⟩ t s' hF2 (by have := hF.sz; simp only [List.length_cons] at this; show f.size + x.f.size + 1000 * r.length ≤ 1000000; omega) (by have := hF.grp; simp only [List.length_cons] at this; show gr + 1 + r.length ≤ 1000; omega) hu hm)
   clear hm hF hf7 hF2 hk HM
   go_wp2_with (refine loadTk rfl _ rfl G x rfl HT4.out ?_)
   with_reducible refine (HC.out _ HU4.out).mono ?_
   rintro e w5 ⟨b1, c1, rfl, hn1, hb1, hu1, hB1⟩
   have HU5 := Lib.hid hu1
   have HB5 := Lib.hid (HB4.out.then hB1 HB4.out.size)
   have HN5 := Lib.hid hn1
   have HG5 := Lib.hid (Nat.le_trans HB4.out.size hb1)
   clear hn1 hb1 hu1 hB1
   go_wp2_with fail
   go_ret
   exact ⟨b1, c1, rfl, HN5.out, HG5.out, HU5.out, HB5.out⟩)
 ·cases mv <;> (
   clear HX
   have hm := HM.out
   clear HM
   rw [pieceU_s] at hm
   rw [if_neg (by omega), if_pos (by omega)] at hm
   rw [show leafN f x = setN (x.S) by unfold leafN; rw [hk, hif]; rfl] at hm
   have HM := Lib.hid hm
   clear hm
   have d0 : w4.cell? ⟨G, 0, none⟩ = some (.int .i64 0) := (cell_of_row w4 G 0 _ _ _ HT4.out).trans (by show some (Value.int .i64 x.k) = _; rw [hk])
   have ht' : t = leafT (setN (x.S)) := by have := HM.out; cases this; rfl
   have hs' : s' = ⟨gr, r, bd⟩ := by have := HM.out; cases this; rfl
   have HT' := Lib.hid ht'
   have HS' := Lib.hid hs'
   clear ht' hs' HM
   have d1 : w4.cell? ⟨G, 1, none⟩ = some (.int .u64 (W x.S 0)) := (cell_of_row w4 G 1 _ _ _ HT4.out).trans rfl
   have d2 : w4.cell? ⟨G, 2, none⟩ = some (.int .u64 (W x.S 1)) := (cell_of_row w4 G 2 _ _ _ HT4.out).trans rfl
   have d3 : w4.cell? ⟨G, 3, none⟩ = some (.int .u64 (W x.S 2)) := (cell_of_row w4 G 3 _ _ _ HT4.out).trans rfl
   have d4 : w4.cell? ⟨G, 4, none⟩ = some (.int .u64 (W x.S 3)) := (cell_of_row w4 G 4 _ _ _ HT4.out).trans rfl
   go_wp2_with fail
   refine (rof_any x.S _).mono ?_
   rintro e w5 ⟨rfl, hb⟩
   have HU5 := Lib.hid (HU4.out.call hb)
   have HB5 := Lib.hid (HB4.out.then (ButR.of hb) HB4.out.size)
   clear hb
   clear d0 d1 d2 d3 d4 HT4
   obtain ⟨S, hS⟩ : ∃ S, S = x.S := ⟨_, rfl⟩
   rw [← hS] at HT' ⊢
   clear hS
   go_wp2_with (refine storeNewA7 rfl _ _ rfl w5 0#256 S rfl rfl rfl ?_; intro w6 hx6 hN6; refine stopP ?_)
   unfold StopP
   have HU6 := Lib.hid (HU5.out.call hN6.out)
   have HB6 := Lib.hid (HB5.out.then (ButR.of hN6.out) HB5.out.size)
   have HA6 := Lib.hid hx6.out
   have HG6 := Lib.hid (show w.heap.size ≤ w5.heap.size from HB5.out.size)
   clear hx6 hN6
   go_wp2_with fail
   refine (HH.out 105 _).mono ?_
   rintro e w7 ⟨rfl, hb⟩
   have HU7 := Lib.hid (HU6.out.call hb)
   have HB7 := Lib.hid (HB6.out.then (ButR.of hb) HB6.out.size)
   have HA6 := Lib.hid (HA6.out.below hb HA6.out.lt)
   clear hb
   rw [hif]
   go_wp2_with (refine loadA rfl _ rfl w5.heap.size S rfl HA6.out ?_)
   with_reducible refine (rwords_any S _).mono ?_
   rintro e w10 ⟨rfl, hb⟩
   have HU10 := Lib.hid (HU7.out.call hb)
   have HB10 := Lib.hid (HB7.out.then (ButR.of hb) HB7.out.size)
   clear hb
   go_wp2_with fail
   go_ret
   rw [HT'.out, HS'.out]
   exact ⟨w10.heap.size, 1, rfl, one_node (setN S) w10, HB10.out.size, HU10.out.call ((Below.refl _ w10).alloc (Nat.le_refl _) _), HB10.out.then (ButR.of ((Below.refl _ w10).alloc (Nat.le_refl _) _)) HB10.out.size⟩)
 ·cases mv <;> (
   clear HX
   have hm := HM.out
   clear HM
   rw [pieceU_s] at hm
   rw [if_neg (by omega), if_pos (by omega)] at hm
   rw [show leafN f x = setN (foldS x.S) by unfold leafN; rw [hk, hif]; rfl] at hm
   have HM := Lib.hid hm
   clear hm
   have d0 : w4.cell? ⟨G, 0, none⟩ = some (.int .i64 0) := (cell_of_row w4 G 0 _ _ _ HT4.out).trans (by show some (Value.int .i64 x.k) = _; rw [hk])
   have ht' : t = leafT (setN (foldS x.S)) := by have := HM.out; cases this; rfl
   have hs' : s' = ⟨gr, r, bd⟩ := by have := HM.out; cases this; rfl
   have HT' := Lib.hid ht'
   have HS' := Lib.hid hs'
   clear ht' hs' HM
   have d1 : w4.cell? ⟨G, 1, none⟩ = some (.int .u64 (W x.S 0)) := (cell_of_row w4 G 1 _ _ _ HT4.out).trans rfl
   have d2 : w4.cell? ⟨G, 2, none⟩ = some (.int .u64 (W x.S 1)) := (cell_of_row w4 G 2 _ _ _ HT4.out).trans rfl
   have d3 : w4.cell? ⟨G, 3, none⟩ = some (.int .u64 (W x.S 2)) := (cell_of_row w4 G 3 _ _ _ HT4.out).trans rfl
   have d4 : w4.cell? ⟨G, 4, none⟩ = some (.int .u64 (W x.S 3)) := (cell_of_row w4 G 4 _ _ _ HT4.out).trans rfl
   go_wp2_with fail
   refine (rof_any x.S _).mono ?_
   rintro e w5 ⟨rfl, hb⟩
   have HU5 := Lib.hid (HU4.out.call hb)
   have HB5 := Lib.hid (HB4.out.then (ButR.of hb) HB4.out.size)
   clear hb
   clear d0 d1 d2 d3 d4 HT4
   obtain ⟨S, hS⟩ : ∃ S, S = x.S := ⟨_, rfl⟩
   rw [← hS] at HT' ⊢
   clear hS
   go_wp2_with (refine storeNewA7 rfl _ _ rfl w5 0#256 S rfl rfl rfl ?_; intro w6 hx6 hN6; refine stopP ?_)
   unfold StopP
   have HU6 := Lib.hid (HU5.out.call hN6.out)
   have HB6 := Lib.hid (HB5.out.then (ButR.of hN6.out) HB5.out.size)
   have HA6 := Lib.hid hx6.out
   have HG6 := Lib.hid (show w.heap.size ≤ w5.heap.size from HB5.out.size)
   clear hx6 hN6
   go_wp2_with fail
   refine (HH.out 105 _).mono ?_
   rintro e w7 ⟨rfl, hb⟩
   have HU7 := Lib.hid (HU6.out.call hb)
   have HB7 := Lib.hid (HB6.out.then (ButR.of hb) HB6.out.size)
   have HA6 := Lib.hid (HA6.out.below hb HA6.out.lt)
   clear hb
   rw [hif]
   go_wp2_with (refine loadA rfl _ rfl w5.heap.size S rfl HA6.out ?_)
   with_reducible refine (rfold_any S _).mono ?_
   rintro e w8 ⟨rfl, hb⟩
   have HU8 := Lib.hid (HU7.out.call hb)
   have HB8 := Lib.hid (HB7.out.then (ButR.of hb) HB7.out.size)
   have HA8 := Lib.hid (HA6.out.below hb HA6.out.lt)
   clear hb HA6
   go_wp2_with (refine storeA7 rfl _ _ rfl w5.heap.size S (foldS S) rfl rfl HA8.out w5.heap.size (Nat.le_refl _) ?_; intro w9 hx9 hN9; refine stopP ?_)
   unfold StopP
   have HU9 := Lib.hid (show UW w0 g (some ⟨bT, oT, none⟩) cap all w9 ⟨gr, r, bd⟩ from ⟨HU8.out.cells.below hN9.out HU5.out.lt, HU8.out.toks, HU8.out.suf, HU8.out.base, HU8.out.below.trans (hN9.out.mono (Nat.le_trans HU8.out.base (Nat.le_of_lt HU5.out.lt)))⟩)
   have HB9 := Lib.hid (HB8.out.trans (ButR.of (hN9.out.mono HG6.out)))
   have HA9 := Lib.hid hx9.out
   clear hx9 hN9
   go_wp2_with (refine loadA rfl _ rfl w5.heap.size (foldS S) rfl HA9.out ?_)
   with_reducible refine (rwords_any (foldS S) _).mono ?_
   rintro e w10 ⟨rfl, hb⟩
   have HU10 := Lib.hid (HU9.out.call hb)
   have HB10 := Lib.hid (HB9.out.then (ButR.of hb) HB9.out.size)
   clear hb
   go_wp2_with fail
   go_ret
   rw [HT'.out, HS'.out]
   exact ⟨w10.heap.size, 1, rfl, one_node (setN (foldS S)) w10, HB10.out.size, HU10.out.call ((Below.refl _ w10).alloc (Nat.le_refl _) _), HB10.out.then (ButR.of ((Below.refl _ w10).alloc (Nat.le_refl _) _)) HB10.out.size⟩)
 ·cases mv <;> (
   clear HX
   have hm := HM.out
   clear HM
   rw [pieceU_s] at hm
   rw [if_neg (by omega), if_pos (by omega)] at hm
   rw [show leafN f x = setN (~~~addB 0#256 10) by unfold leafN; rw [if_pos hk, hif]; rfl] at hm
   have HM := Lib.hid hm
   clear hm
   have d0 : w4.cell? ⟨G, 0, none⟩ = some (.int .i64 1) := (cell_of_row w4 G 0 _ _ _ HT4.out).trans (by show some (Value.int .i64 x.k) = _; rw [hk])
   have ht' : t = leafT (setN (~~~addB 0#256 10)) := by have := HM.out; cases this; rfl
   have hs' : s' = ⟨gr, r, bd⟩ := by have := HM.out; cases this; rfl
   have HT' := Lib.hid ht'
   have HS' := Lib.hid hs'
   clear ht' hs' HM
   clear HT4
   go_wp2_with fail
   refine (rrange_any 0 255 _ (by decide) (by decide)).mono ?_
   rintro e w5 ⟨rfl, hb⟩
   have HU5 := Lib.hid (HU4.out.call hb)
   have HB5 := Lib.hid (HB4.out.then (ButR.of hb) HB4.out.size)
   clear hb
   rw [span_all]
   clear d0
   obtain ⟨S0, hS0⟩ : ∃ S, S = (~~~0#256 : BitVec 256) := ⟨_, rfl⟩
   rw [← hS0]
   clear hS0
   go_wp2_with (refine storeNewA7 rfl _ _ rfl w5 0#256 S0 rfl rfl rfl ?_; intro w6 hx6 hN6; refine stopP ?_)
   unfold StopP
   have HU6 := Lib.hid (HU5.out.call hN6.out)
   have HB6 := Lib.hid (HB5.out.then (ButR.of hN6.out) HB5.out.size)
   have HA6 := Lib.hid hx6.out
   have HG6 := Lib.hid (show w.heap.size ≤ w5.heap.size from HB5.out.size)
   clear hx6 hN6
   go_wp2_with fail
   refine (HH.out 115 _).mono ?_
   rintro e w7 ⟨rfl, hb⟩
   have HU7 := Lib.hid (HU6.out.call hb)
   have HB7 := Lib.hid (HB6.out.then (ButR.of hb) HB6.out.size)
   have HA6 := Lib.hid (HA6.out.below hb HA6.out.lt)
   clear hb
   rw [hif]
   go_wp2_with fail
   refine (rrange_any 10 10 _ (by decide) (by decide)).mono ?_
   rintro e w8 ⟨rfl, hb⟩
   have HU8 := Lib.hid (HU7.out.call hb)
   have HB8 := Lib.hid (HB7.out.then (ButR.of hb) HB7.out.size)
   have HA6 := Lib.hid (HA6.out.below hb HA6.out.lt)
   clear hb
   rw [span_ten]
   go_wp2_with fail
   refine (rnot_any (addB 0#256 10) _).mono ?_
   rintro e w9 ⟨rfl, hb⟩
   have HU9 := Lib.hid (HU8.out.call hb)
   have HB9 := Lib.hid (HB8.out.then (ButR.of hb) HB8.out.size)
   have HA6 := Lib.hid (HA6.out.below hb HA6.out.lt)
   clear hb
   rw [not_ten]
   go_wp2_with (refine storeA7 rfl _ _ rfl w5.heap.size S0 (~~~addB 0#256 10) rfl rfl HA6.out w5.heap.size (Nat.le_refl _) ?_; intro w10 hx9 hN9; refine stopP ?_)
   unfold StopP
   have HU10 := Lib.hid (show UW w0 g (some ⟨bT, oT, none⟩) cap all w10 ⟨gr, r, bd⟩ from ⟨HU9.out.cells.below hN9.out HU5.out.lt, HU9.out.toks, HU9.out.suf, HU9.out.base, HU9.out.below.trans (hN9.out.mono (Nat.le_trans HU9.out.base (Nat.le_of_lt HU5.out.lt)))⟩)
   have HB10 := Lib.hid (HB9.out.trans (ButR.of (hN9.out.mono HG6.out)))
   have HA10 := Lib.hid hx9.out
   clear hx9 hN9
   go_wp2_with (refine loadA rfl _ rfl w5.heap.size (~~~addB 0#256 10) rfl HA10.out ?_)
   with_reducible refine (rwords_any (~~~addB 0#256 10) _).mono ?_
   rintro e w11 ⟨rfl, hb⟩
   have HU11 := Lib.hid (HU10.out.call hb)
   have HB11 := Lib.hid (HB10.out.then (ButR.of hb) HB10.out.size)
   clear hb
   go_wp2_with fail
   go_ret
   rw [HT'.out, HS'.out]
   exact ⟨w11.heap.size, 1, rfl, one_node (setN (~~~addB 0#256 10)) w11, HB11.out.size, HU11.out.call ((Below.refl _ w11).alloc (Nat.le_refl _) _), HB11.out.then (ButR.of ((Below.refl _ w11).alloc (Nat.le_refl _) _)) HB11.out.size⟩)
 ·cases mv <;> (
   clear HX
   have hm := HM.out
   clear HM
   rw [pieceU_s] at hm
   rw [if_neg (by omega), if_pos (by omega)] at hm
   rw [show leafN f x = setN (~~~0#256) by unfold leafN; rw [if_pos hk, hif]; rfl] at hm
   have HM := Lib.hid hm
   clear hm
   have d0 : w4.cell? ⟨G, 0, none⟩ = some (.int .i64 1) := (cell_of_row w4 G 0 _ _ _ HT4.out).trans (by show some (Value.int .i64 x.k) = _; rw [hk])
   have ht' : t = leafT (setN (~~~0#256)) := by have := HM.out; cases this; rfl
   have hs' : s' = ⟨gr, r, bd⟩ := by have := HM.out; cases this; rfl
   have HT' := Lib.hid ht'
   have HS' := Lib.hid hs'
   clear ht' hs' HM
   clear HT4
   go_wp2_with fail
   refine (rrange_any 0 255 _ (by decide) (by decide)).mono ?_
   rintro e w5 ⟨rfl, hb⟩
   have HU5 := Lib.hid (HU4.out.call hb)
   have HB5 := Lib.hid (HB4.out.then (ButR.of hb) HB4.out.size)
   clear hb
   rw [span_all]
   clear d0
   obtain ⟨S0, hS0⟩ : ∃ S, S = (~~~0#256 : BitVec 256) := ⟨_, rfl⟩
   rw [← hS0] at HT' ⊢
   clear hS0
   go_wp2_with (refine storeNewA7 rfl _ _ rfl w5 0#256 S0 rfl rfl rfl ?_; intro w6 hx6 hN6; refine stopP ?_)
   unfold StopP
   have HU6 := Lib.hid (HU5.out.call hN6.out)
   have HB6 := Lib.hid (HB5.out.then (ButR.of hN6.out) HB5.out.size)
   have HA6 := Lib.hid hx6.out
   have HG6 := Lib.hid (show w.heap.size ≤ w5.heap.size from HB5.out.size)
   clear hx6 hN6
   go_wp2_with fail
   refine (HH.out 115 _).mono ?_
   rintro e w7 ⟨rfl, hb⟩
   have HU7 := Lib.hid (HU6.out.call hb)
   have HB7 := Lib.hid (HB6.out.then (ButR.of hb) HB6.out.size)
   have HA6 := Lib.hid (HA6.out.below hb HA6.out.lt)
   clear hb
   rw [hif]
   go_wp2_with (refine loadA rfl _ rfl w5.heap.size S0 rfl HA6.out ?_)
   with_reducible refine (rwords_any S0 _).mono ?_
   rintro e w11 ⟨rfl, hb⟩
   have HU11 := Lib.hid (HU7.out.call hb)
   have HB11 := Lib.hid (HB7.out.then (ButR.of hb) HB7.out.size)
   clear hb
   go_wp2_with fail
   go_ret
   rw [HT'.out, HS'.out]
   exact ⟨w11.heap.size, 1, rfl, one_node (setN S0) w11, HB11.out.size, HU11.out.call ((Below.refl _ w11).alloc (Nat.le_refl _) _), HB11.out.then (ButR.of ((Below.refl _ w11).alloc (Nat.le_refl _) _)) HB11.out.size⟩)
 ·cases mv with
  | false =>
    skip
    clear HX
    have hm := HM.out
    clear HM
    rw [pieceU_s] at hm
    rw [if_neg (by omega), if_pos (by omega)] at hm
    rw [show leafN f x = nd0 2 by unfold leafN; rw [hk, hmf]; rfl] at hm
    have HM := Lib.hid hm
    clear hm
    have d0 : w4.cell? ⟨G, 0, none⟩ = some (.int .i64 2) := (cell_of_row w4 G 0 _ _ _ HT4.out).trans (by show some (Value.int .i64 x.k) = _; rw [hk])
    have ht' : t = leafT (nd0 2) := by have := HM.out; cases this; rfl
    have hs' : s' = ⟨gr, r, bd⟩ := by have := HM.out; cases this; rfl
    have HT' := Lib.hid ht'
    have HS' := Lib.hid hs'
    clear ht' hs' HM
    go_wp2_with fail
    refine (Ast.rleaf_any 2 _).mono ?_
    rintro e w5 ⟨b3, c3, rfl, hn3, hb3, hB5⟩
    have HU5 := Lib.hid (HU4.out.call hB5)
    have HB5 := Lib.hid (HB4.out.then (ButR.of hB5) HB4.out.size)
    have HN5 := Lib.hid hn3
    have HG5 := Lib.hid (Nat.le_trans HB4.out.size hb3)
    clear hn3 hb3 hB5
    go_wp2_with fail
    go_ret
    rw [HT'.out, HS'.out]
    exact ⟨b3, c3, rfl, HN5.out, HG5.out, HU5.out, HB5.out⟩
  | true =>
    skip
    clear HX
    have hm := HM.out
    clear HM
    rw [pieceU_s] at hm
    rw [if_neg (by omega), if_pos (by omega)] at hm
    rw [show leafN f x = nd0 4 by unfold leafN; rw [hk, hmf]; rfl] at hm
    have HM := Lib.hid hm
    clear hm
    have d0 : w4.cell? ⟨G, 0, none⟩ = some (.int .i64 2) := (cell_of_row w4 G 0 _ _ _ HT4.out).trans (by show some (Value.int .i64 x.k) = _; rw [hk])
    have ht' : t = leafT (nd0 4) := by have := HM.out; cases this; rfl
    have hs' : s' = ⟨gr, r, bd⟩ := by have := HM.out; cases this; rfl
    have HT' := Lib.hid ht'
    have HS' := Lib.hid hs'
    clear ht' hs' HM
    go_wp2_with fail
    refine (Ast.rleaf_any 4 _).mono ?_
    rintro e w5 ⟨b3, c3, rfl, hn3, hb3, hB5⟩
    have HU5 := Lib.hid (HU4.out.call hB5)
    have HB5 := Lib.hid (HB4.out.then (ButR.of hB5) HB4.out.size)
    have HN5 := Lib.hid hn3
    have HG5 := Lib.hid (Nat.le_trans HB4.out.size hb3)
    clear hn3 hb3 hB5
    go_wp2_with fail
    go_ret
    rw [HT'.out, HS'.out]
    exact ⟨b3, c3, rfl, HN5.out, HG5.out, HU5.out, HB5.out⟩
 ·cases mv with
  | false =>
    skip
    clear HX
    have hm := HM.out
    clear HM
    rw [pieceU_s] at hm
    rw [if_neg (by omega), if_pos (by omega)] at hm
    rw [show leafN f x = nd0 3 by unfold leafN; rw [hk, hmf]; rfl] at hm
    have HM := Lib.hid hm
    clear hm
    have d0 : w4.cell? ⟨G, 0, none⟩ = some (.int .i64 3) := (cell_of_row w4 G 0 _ _ _ HT4.out).trans (by show some (Value.int .i64 x.k) = _; rw [hk])
    have ht' : t = leafT (nd0 3) := by have := HM.out; cases this; rfl
    have hs' : s' = ⟨gr, r, bd⟩ := by have := HM.out; cases this; rfl
    have HT' := Lib.hid ht'
    have HS' := Lib.hid hs'
    clear ht' hs' HM
    go_wp2_with fail
    refine (Ast.rleaf_any 3 _).mono ?_
    rintro e w5 ⟨b3, c3, rfl, hn3, hb3, hB5⟩
    have HU5 := Lib.hid (HU4.out.call hB5)
    have HB5 := Lib.hid (HB4.out.then (ButR.of hB5) HB4.out.size)
    have HN5 := Lib.hid hn3
    have HG5 := Lib.hid (Nat.le_trans HB4.out.size hb3)
    clear hn3 hb3 hB5
    go_wp2_with fail
    go_ret
    rw [HT'.out, HS'.out]
    exact ⟨b3, c3, rfl, HN5.out, HG5.out, HU5.out, HB5.out⟩
  | true =>
    skip
    clear HX
    have hm := HM.out
    clear HM
    rw [pieceU_s] at hm
    rw [if_neg (by omega), if_pos (by omega)] at hm
    rw [show leafN f x = nd0 5 by unfold leafN; rw [hk, hmf]; rfl] at hm
    have HM := Lib.hid hm
    clear hm
    have d0 : w4.cell? ⟨G, 0, none⟩ = some (.int .i64 3) := (cell_of_row w4 G 0 _ _ _ HT4.out).trans (by show some (Value.int .i64 x.k) = _; rw [hk])
    have ht' : t = leafT (nd0 5) := by have := HM.out; cases this; rfl
    have hs' : s' = ⟨gr, r, bd⟩ := by have := HM.out; cases this; rfl
    have HT' := Lib.hid ht'
    have HS' := Lib.hid hs'
    clear ht' hs' HM
    go_wp2_with fail
    refine (Ast.rleaf_any 5 _).mono ?_
    rintro e w5 ⟨b3, c3, rfl, hn3, hb3, hB5⟩
    have HU5 := Lib.hid (HU4.out.call hB5)
    have HB5 := Lib.hid (HB4.out.then (ButR.of hB5) HB4.out.size)
    have HN5 := Lib.hid hn3
    have HG5 := Lib.hid (Nat.le_trans HB4.out.size hb3)
    clear hn3 hb3 hB5
    go_wp2_with fail
    go_ret
    rw [HT'.out, HS'.out]
    exact ⟨b3, c3, rfl, HN5.out, HG5.out, HU5.out, HB5.out⟩
 ·cases mv <;> (
   clear HX
   have hm := HM.out
   clear HM
   rw [pieceU_s] at hm
   rw [if_neg (by omega), if_pos (by omega)] at hm
   rw [show leafN f x = nd0 6 by unfold leafN; rw [hk]; rfl] at hm
   have HM := Lib.hid hm
   clear hm
   have d0 : w4.cell? ⟨G, 0, none⟩ = some (.int .i64 4) := (cell_of_row w4 G 0 _ _ _ HT4.out).trans (by show some (Value.int .i64 x.k) = _; rw [hk])
   have ht' : t = leafT (nd0 6) := by have := HM.out; cases this; rfl
   have hs' : s' = ⟨gr, r, bd⟩ := by have := HM.out; cases this; rfl
   have HT' := Lib.hid ht'
   have HS' := Lib.hid hs'
   clear ht' hs' HM
   go_wp2_with fail
   refine (Ast.rleaf_any 6 _).mono ?_
   rintro e w5 ⟨b3, c3, rfl, hn3, hb3, hB5⟩
   have HU5 := Lib.hid (HU4.out.call hB5)
   have HB5 := Lib.hid (HB4.out.then (ButR.of hB5) HB4.out.size)
   have HN5 := Lib.hid hn3
   have HG5 := Lib.hid (Nat.le_trans HB4.out.size hb3)
   clear hn3 hb3 hB5
   go_wp2_with fail
   go_ret
   rw [HT'.out, HS'.out]
   exact ⟨b3, c3, rfl, HN5.out, HG5.out, HU5.out, HB5.out⟩)
 ·cases mv <;> (
   clear HX
   have hm := HM.out
   clear HM
   rw [pieceU_s] at hm
   rw [if_neg (by omega), if_pos (by omega)] at hm
   rw [show leafN f x = nd0 7 by unfold leafN; rw [hk]; rfl] at hm
   have HM := Lib.hid hm
   clear hm
   have d0 : w4.cell? ⟨G, 0, none⟩ = some (.int .i64 5) := (cell_of_row w4 G 0 _ _ _ HT4.out).trans (by show some (Value.int .i64 x.k) = _; rw [hk])
   have ht' : t = leafT (nd0 7) := by have := HM.out; cases this; rfl
   have hs' : s' = ⟨gr, r, bd⟩ := by have := HM.out; cases this; rfl
   have HT' := Lib.hid ht'
   have HS' := Lib.hid hs'
   clear ht' hs' HM
   go_wp2_with fail
   refine (Ast.rleaf_any 7 _).mono ?_
   rintro e w5 ⟨b3, c3, rfl, hn3, hb3, hB5⟩
   have HU5 := Lib.hid (HU4.out.call hB5)
   have HB5 := Lib.hid (HB4.out.then (ButR.of hB5) HB4.out.size)
   have HN5 := Lib.hid hn3
   have HG5 := Lib.hid (Nat.le_trans HB4.out.size hb3)
   clear hn3 hb3 hB5
   go_wp2_with fail
   go_ret
   rw [HT'.out, HS'.out]
   exact ⟨b3, c3, rfl, HN5.out, HG5.out, HU5.out, HB5.out⟩)
theorem pieceU_step (w0 : World) (g : Nat) (A : Option Addr) (cap : Nat) (all : List Tok) (hall : all.length ≤ 1000) (n : Nat) (hW : WithinUOk w0 g A cap all n) : PieceUOk w0 g A cap all (n + 1) := by
 intro w f s t s' hF hU hm
 obtain ⟨gr, l, bd⟩ := s
 cases l with
 | nil => rw [pieceU_0] at hm; cases hm
 | cons x r => exact piece_all w0 g A cap all hall n hW w f gr x r bd t s' hF hU hm (hF.ok x (List.mem_cons_self ..)).k.1
theorem readU_all (w0 : World) (g : Nat) (A : Option Addr) (cap : Nat) (all : List Tok) (hall : all.length ≤ 1000) : ∀ n, AltUOk w0 g A cap all n ∧ RowUOk w0 g A cap all n ∧ ItemUOk w0 g A cap all n ∧ PieceUOk w0 g A cap all n ∧ WithinUOk w0 g A cap all n := by
 intro n
 induction n using Nat.strongRecOn with
 | _ n ih =>
   cases n with
   | zero => exact ⟨fun w f s t s' _ _ h => (by rw [altU] at h; cases h), fun w f s t s' _ _ h => (by rw [rowU] at h; cases h), fun w f s t s' _ _ _ h => (by rw [itemU] at h; cases h), fun w f s t s' _ _ h => (by rw [pieceU] at h; cases h), fun w f x s t s' _ _ _ _ h => (by rw [withinU] at h; cases h)⟩
   | succ n =>
     have i := ih n (by omega)
     exact ⟨altU_step w0 g A cap all hall n (fun m hm => (ih m (by omega)).2.1), rowU_step w0 g A cap all hall n (fun m hm => (ih m (by omega)).2.2.1), itemU_step w0 g A cap all hall n i.2.2.2.1, pieceU_step w0 g A cap all hall n i.2.2.2.2, withinU_step w0 g A cap all hall n i.1⟩
end Go.Proofs.YtdnbpbngoiahlaaGreatDoor
namespace Go.Proofs.YtdnbpbngoiahlaaGreatDoor
open Go.RowKit
open Ast (Nd ndV joinL wrapL deepZ rightZ NodesAt Nodes)
theorem fu_lex (p : ByteArray) (hp : p.size ≤ 300) : FU ByteArray.empty ⟨0, (lexZ p).1, false⟩ := by
 have hL : (lexZ p).1.length ≤ 400 := by
  rcases few_lex p (by omega) with ⟨h, -⟩ | ⟨-, -, h, -⟩
  ·rw [h]; decide
  ·omega
 exact ⟨by show 0 + 1000 * (lexZ p).1.length ≤ 1000000; omega, toks7 p (by omega), hL, toks_f p, by show 0 + (lexZ p).1.length ≤ 1000; omega⟩
theorem parse_lexerr {p : ByteArray} (h : (lexZ p).2 ≠ 0) : parseZ p = ((0, fun _ => nd0 0), (lexZ p).2) := by unfold parseZ; rw [if_pos h]
theorem no_nodes (w : World) (l : Nat → Nd) : Nodes w none 0 l := fun i hi => absurd hi (Nat.not_lt_zero i)
def GotU (w : World) (R : Tr × Int) (e : Ending) (w' : World) : Prop := ∃ A c, e = .returned (.tuple #[.slice A R.1.1 c, .int .i64 R.2]) ∧ Nodes w' A R.1.1 R.1.2 ∧ Below w.heap.size w w'
theorem gotU_err {w w' : World} {R : Tr × Int} {z : Int} (h : R.2 = z) (h0 : R.1.1 = 0) (hb : Below w.heap.size w w') : GotU w R (.returned (.tuple #[.slice none 0 0, .int .i64 z])) w' := by
 refine ⟨none, 0, by rw [h, h0], ?_, hb⟩
 rw [h0]
 exact no_nodes _ _
set_option maxRecDepth 100000 in
set_option maxHeartbeats 8000000 in
theorem rparse_any (p : ByteArray) (w : World) (hp : p.size ≤ 300) : Calls Tryz.prog 11 #[.string p] w (GotU w (parseZ p)) := by
 have HLx := Lib.hid (rlex_any p w (by omega))
 have HFU := Lib.hid (fu_lex p hp)
 have HTold := Lib.hid (told p hp)
 have HErr := Lib.hid (fun h => parse_lexerr (p := p) h)
 obtain ⟨Z, hZ⟩ : ∃ Z, Z = lexZ p := ⟨_, rfl⟩
 rw [← hZ] at HLx HFU HTold HErr
 clear hZ hp
 obtain ⟨l, er⟩ := Z
 simp only [] at HFU HTold HErr
 obtain ⟨R, hR⟩ : ∃ R, R = parseZ p := ⟨_, rfl⟩
 have HR := Lib.hid hR
 rw [← hR] at HErr ⊢
 clear hR
 go_enter Tryz.func11, Tryz.ntmps11
 go_wp2_with fail
 with_reducible refine HLx.out.mono ?_
 rintro e w1 ⟨v1, rfl, ho1, hb⟩
 obtain ⟨A, cap, rfl, htk⟩ := own_toks6 ho1
 have HTk := Lib.hid htk
 have HB1 := Lib.hid hb
 clear ho1 hb htk HLx
 simp only [] at HTk ⊢
 by_cases he : er = 0
 ·subst he
  obtain ⟨t, s, halt, htold⟩ := HTold.out rfl
  have HT := Lib.hid htold
  have hle := HFU.out.few
  simp only [] at hle
  have HAll := Lib.hid (show l.length ≤ 1000 by omega)
  obtain ⟨W, hW⟩ : ∃ W, W = w1.alloc (.cells #[.slice A l.length cap, .int .i64 0, .int .i64 0, .bool false] 61) := ⟨_, rfl⟩
  have hu0 : UW w1 w1.heap.size A cap l W ⟨0, l, false⟩ := by
   refine ⟨?_, HTk.out, List.suffix_refl _, Nat.le_refl _, by rw [hW]; exact (Below.refl _ w1).alloc (Nat.le_refl _) _⟩
   rw [hW]
   have := BoxV.new (T := 61) w1 #[.slice A l.length cap, .int .i64 0, .int .i64 0, .bool false]
   show BoxV _ _ _ (urC A cap l ⟨0, l, false⟩)
   rw [show urC A cap l ⟨0, l, false⟩ = #[.slice A l.length cap, .int .i64 0, .int .i64 0, .bool false] by simp only [urC, Nat.sub_self]; rfl]
   exact this
  have HA := Lib.hid ((readU_all w1 w1.heap.size A cap l HAll.out (6 * l.length + 6)).1 W ByteArray.empty ⟨0, l, false⟩ t s HFU.out hu0 halt)
  have HBW := Lib.hid (show Below w1.heap.size w1 W by rw [hW]; exact (Below.refl _ w1).alloc (Nat.le_refl _) _)
  rw [hW] at HA HBW
  rw [show ByteArray.empty = (⟨#[]⟩ : ByteArray) from rfl] at HA
  clear hu0 halt hle hW htold HTold HErr
  go_wp2_with fail
  with_reducible refine HA.out.mono ?_
  rintro e w2 ⟨b, c, rfl, hn, hb, hu, hB⟩
  have HU := Lib.hid hu
  have HN := Lib.hid hn
  have HB2 := Lib.hid (HB1.out.trans ((HBW.out.trans (hB.below (C := w1.heap.size) HBW.out.size (Nat.le_refl _))).mono HB1.out.size))
  have hc1 := hu.c1
  have hc3 := hu.c3
  have hles := hu.le
  clear hn hb hu hB HA HBW HTk
  by_cases hbad : s.bad = true
  ·obtain ⟨h3, h0⟩ := HT.out.wrong (.inl hbad)
   rw [hbad] at hc3
   have HQ := Lib.hid (And.intro h3 h0)
   clear hbad h3 h0 hles
   go_wp2_with fail
   go_ret2
   exact gotU_err (by rw [HR.out]; exact HQ.out.1) (by rw [HR.out]; exact HQ.out.2) HB2.out
  ·have hb0 : s.bad = false := by simpa using hbad
   rw [hb0] at hc3
   clear hbad
   by_cases hl : s.l = []
   ·have HNo := Lib.hid (HT.out.none hb0 hl)
    have HTr := Lib.hid (HT.out.tree hb0 hl)
    have hfew := HT.out.few
    have hz : ¬ ((l.length - s.l.length : Nat) : Int) < (l.length : Int) := by rw [hl]; simp
    obtain ⟨z, hz0⟩ : ∃ z : Int, z = ((l.length - s.l.length : Nat) : Int) := ⟨_, rfl⟩
    rw [← hz0] at hz hc1
    clear hz0 hl hb0 hles
    go_wp2_with fail
    refine (Ast.rright_any (some ⟨b, 0, none⟩) t.1 c t.2 _ (by omega) HN.out.nodes).mono ?_
    rintro e w3 ⟨rfl, hb⟩
    have HN3 := Lib.hid (HN.out.below hb (Nat.le_refl _))
    have HB3 := Lib.hid (thenB HB2.out hb HB2.out.size)
    obtain ⟨q, hq⟩ : ∃ q, q = rightZ t.2 t.1 := ⟨_, rfl⟩
    rw [← hq] at HNo HTr ⊢
    clear hb hc1 hc3 hz hq
    by_cases hq0 : q = 0
    ·subst hq0
     have hR := HTr.out rfl
     have HRt := Lib.hid (HR.out.trans hR)
     clear hR
     go_wp2_with fail
     go_ret2
     rw [HRt.out]
     exact ⟨some ⟨b, 0, none⟩, c, rfl, HN3.out.nodes, HB3.out⟩
    ·obtain ⟨h3, h0⟩ := HNo.out hq0
     have HQ := Lib.hid (And.intro h3 h0)
     have hqn : (q != 0) = true := by simpa using hq0
     clear h3 h0 hq0
     go_wp2_with fail
     go_ret2
     exact gotU_err (by rw [HR.out]; exact HQ.out.1) (by rw [HR.out]; exact HQ.out.2) HB3.out
   ·obtain ⟨h3, h0⟩ := HT.out.wrong (.inr hl)
    have HQ := Lib.hid (And.intro h3 h0)
    have hz : ((l.length - s.l.length : Nat) : Int) < (l.length : Int) := by
     have : 0 < s.l.length := List.length_pos_iff.2 hl
     omega
    obtain ⟨z, hz0⟩ : ∃ z : Int, z = ((l.length - s.l.length : Nat) : Int) := ⟨_, rfl⟩
    rw [← hz0] at hz hc1
    clear hz0 hl hb0 hles h3 h0
    go_wp2_with fail
    go_ret2
    exact gotU_err (by rw [HR.out]; exact HQ.out.1) (by rw [HR.out]; exact HQ.out.2) HB2.out
 ·have hR := HErr.out he
  have HQ := Lib.hid hR
  have hen : (er != 0) = true := by simpa using he
  clear he hR HTold HErr
  go_wp2_with fail
  go_ret2
  rw [HQ.out]
  exact gotU_err rfl rfl HB1.out
end Go.Proofs.YtdnbpbngoiahlaaGreatDoor
