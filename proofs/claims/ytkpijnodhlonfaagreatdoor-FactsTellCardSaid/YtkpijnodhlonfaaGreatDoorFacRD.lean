/-
  FacRefD, FacRefE, FacRefF
-/
import Derived.Test.YtkpijnodhlonfaaGreatDoorFacRB
namespace Go.Proofs.YtkpijnodhlonfaaGreatDoor
open Go.RowKit
open Ast (Nd ndV Nodes NodesAt At12 siz len kidsZ)

/-- The boxes of node: the result, the node, no set. -/
structure RNd (w0 : World) (x : Nd) (w : World) : Prop where
  below : Below w0.heap.size w0 w
  res : BoxR w w0.heap.size zrK
  node : BoxV 70 w (w0.heap.size + 1) (ndC x)
  zero : BoxA w (w0.heap.size + 1 + 1) 0#256
theorem RNd.call {w0 w w' : World} {x : Nd} (h : RNd w0 x w) (hb : Below w.heap.size w w') : RNd w0 x w' :=
  ⟨thenB h.below hb h.below.size, h.res.below hb h.res.lt, h.node.below hb h.node.lt, h.zero.below hb h.zero.lt⟩
theorem RNd.start (w : World) (x : Nd) : RNd w x (((w.alloc (.cells (rfC zrK) 39)).alloc (.cells (ndC x) 70)).alloc (.cells (bitsA 0#256) 37)) := by
  refine ⟨by go_grown, ((BoxV.new _ _).alloc _).alloc _, (BoxV.new2 _ _ _).alloc _, ?_⟩
  have h := BoxA.new ((w.alloc (.cells (rfC zrK) 39)).alloc (.cells (ndC x) 70)) 0#256
  simpa using h
/-- The zero set is stored in its box once more. -/
theorem RNd.stored {w0 w w' : World} {x : Nd} (h : RNd w0 x w) (hx : BoxA w' (w0.heap.size + 1 + 1) 0#256) (hN : ∀ B, B ≤ w0.heap.size + 1 + 1 → Below B w w') : RNd w0 x w' :=
  ⟨h.below.trans (hN _ (by omega)), h.res.below (hN _ (Nat.le_refl _)) (by omega), h.node.below (hN _ (Nat.le_refl _)) (by omega), hx⟩
theorem span_all : span 0 256 = ~~~0#256 := by decide +kernel
abbrev NodeC (b o n cap m : Nat) (w : World) (R : Array Value) (wh : Bool) : Prop := Calls Tryz.prog 27 #[.slice (some ⟨b, o, none⟩) n cap, .int .i64 (m : Int)] w fun e w' => e = .returned (.tuple #[.agg R, .bool wh]) ∧ Below w.heap.size w w'
set_option maxRecDepth 100000 in
set_option maxHeartbeats 16000000 in
theorem rnode_12 (b o n cap m : Nat) (hm : m < n)  (w : World) (xa xb t0 t1 t2 t3 mn mx md nn : Int) (ff : Bool) (hb : b < w.heap.size) (hx : At12 w b (o + m * 12) ⟨12, xa, xb, t0, t1, t2, t3, mn, mx, md, nn, ff⟩) (R3 : Array Value) (hR3 : Hid (rfC ⟨~~~0#256, true, false, ByteArray.empty, false⟩ = R3)) :
    NodeC b o n cap m w R3 false := by
  have HRG := Lib.hid (fun w => rrange_any 0 255 w (by decide) (by decide))
  rw [show 255 + 1 = 256 from rfl, span_all] at HRG
  generalize hba : bitsA (~~~0#256) = BA at HRG
  have HBA := Lib.hid hba
  clear hba
  obtain ⟨c0, c1, c2, c3, c4, c5, c6, c7, c8, c9, c10, c11⟩ := hx
  have HST := Lib.hid (RNd.start w ⟨12, xa, xb, t0, t1, t2, t3, mn, mx, md, nn, ff⟩)
  go_enter Tryz.func27, Tryz.ntmps27
  go_wp2_with (refine storeAoQ rfl _ _ rfl (w.heap.size + 1 + 1) 0#256 0#256 (bitsA 0#256) (Lib.hid rfl) rfl rfl HST.out.zero ?_; intro u1 hx hN hO; refine StopS.out ?_)
  refine ⟨?_⟩
  have HT := Lib.hid (HST.out.stored hx.out hN.out)
  clear hx hN hO HST c0 c1 c2 c3 c4 c5 c6 c7 c8 c9 c10 c11
  generalize hz0 : bitsA 0#256 = Z0
  have HZ0 := Lib.hid hz0
  clear hz0
  have nk : u1.cell? ⟨w.heap.size + 1, 0, none⟩ = some (.int .i64 12) := HT.out.node.get 0 rfl
  go_wp2_with fail
  refine (HRG.out _).mono ?_
  rintro e u2 ⟨rfl, hb⟩
  replace HT := Lib.hid (HT.out.call hb)
  clear hb nk
  go_wp2_with (first | (refine buildRQ rfl _ BA R3 (by exact HBA) hR3 rfl rfl rfl rfl rfl ?_) | (refine storeRfQ rfl _ _ rfl w.heap.size _ zrK R3 hR3 rfl rfl HT.out.res ?_; intro u9 hx9 hB9 _; refine StopS.out ?_))
  refine ⟨?_⟩
  go_wp2_with fail
  refine bodyPost_ret (by rw [← hR3.out]; exact resRb9 (p := 4) (q := 5) rfl _ (g := w.heap.size) rfl rfl hx9.out) rfl ⟨rfl, ?_⟩
  exact HT.out.below.trans (hB9.out _ (Nat.le_refl _))
set_option maxRecDepth 100000 in
set_option maxHeartbeats 16000000 in
theorem rnode_2 (b o n cap m : Nat) (hm : m < n)  (w : World) (xa xb t0 t1 t2 t3 mn mx md nn : Int) (ff : Bool) (hb : b < w.heap.size) (hx : At12 w b (o + m * 12) ⟨2, xa, xb, t0, t1, t2, t3, mn, mx, md, nn, ff⟩) (R3 : Array Value) (hR3 : Hid (rfC ⟨0#256, true, true, ByteArray.empty, true⟩ = R3)) :
    NodeC b o n cap m w R3 true := by
  obtain ⟨c0, c1, c2, c3, c4, c5, c6, c7, c8, c9, c10, c11⟩ := hx
  have HST := Lib.hid (RNd.start w ⟨2, xa, xb, t0, t1, t2, t3, mn, mx, md, nn, ff⟩)
  go_enter Tryz.func27, Tryz.ntmps27
  go_wp2_with (refine storeAoQ rfl _ _ rfl (w.heap.size + 1 + 1) 0#256 0#256 (bitsA 0#256) (Lib.hid rfl) rfl rfl HST.out.zero ?_; intro u1 hx hN hO; refine StopS.out ?_)
  refine ⟨?_⟩
  have HT := Lib.hid (HST.out.stored hx.out hN.out)
  clear hx hN hO HST c0 c1 c2 c3 c4 c5 c6 c7 c8 c9 c10 c11
  generalize hz0 : bitsA 0#256 = Z0
  have HZ0 := Lib.hid hz0
  clear hz0
  have nk : u1.cell? ⟨w.heap.size + 1, 0, none⟩ = some (.int .i64 2) := HT.out.node.get 0 rfl
  clear nk
  have nk : u1.cell? ⟨w.heap.size + 1, 0, none⟩ = some (.int .i64 2) := HT.out.node.get 0 rfl
  go_wp2_with (first | (refine loadAQ rfl _ rfl (w.heap.size + 1 + 1) 0#256 Z0 HZ0 rfl HT.out.zero ?_) | (refine buildRQ rfl _ Z0 R3 (by exact HZ0) hR3 rfl rfl rfl rfl rfl ?_) | (refine storeRfQ rfl _ _ rfl w.heap.size _ zrK R3 hR3 rfl rfl HT.out.res ?_; intro u9 hx9 hB9 _; refine StopS.out ?_))
  refine ⟨?_⟩
  go_wp2_with fail
  refine bodyPost_ret (by rw [← hR3.out]; exact resRb9 (p := 4) (q := 5) rfl _ (g := w.heap.size) rfl rfl hx9.out) rfl ⟨rfl, ?_⟩
  exact HT.out.below.trans (hB9.out _ (Nat.le_refl _))
set_option maxRecDepth 100000 in
set_option maxHeartbeats 16000000 in
theorem rnode_else (b o n cap m : Nat) (hm : m < n)  (w : World) (xa xb t0 t1 t2 t3 mn mx md nn : Int) (ff : Bool) (xk : Int) (hb : b < w.heap.size) (hx : At12 w b (o + m * 12) ⟨xk, xa, xb, t0, t1, t2, t3, mn, mx, md, nn, ff⟩) (k1 : (xk == 1) = false) (k2 : (xk == 2) = false) (k8 : (xk == 8) = false) (k9 : (xk == 9) = false) (k10 : (xk == 10) = false) (k11 : (xk == 11) = false) (k12 : (xk == 12) = false) (k17 : (xk == 17) = false) (R3 : Array Value) (hR3 : Hid (rfC ⟨0#256, true, false, ByteArray.empty, true⟩ = R3)) :
    NodeC b o n cap m w R3 true := by
  obtain ⟨c0, c1, c2, c3, c4, c5, c6, c7, c8, c9, c10, c11⟩ := hx
  have HST := Lib.hid (RNd.start w ⟨xk, xa, xb, t0, t1, t2, t3, mn, mx, md, nn, ff⟩)
  go_enter Tryz.func27, Tryz.ntmps27
  go_wp2_with (refine storeAoQ rfl _ _ rfl (w.heap.size + 1 + 1) 0#256 0#256 (bitsA 0#256) (Lib.hid rfl) rfl rfl HST.out.zero ?_; intro u1 hx hN hO; refine StopS.out ?_)
  refine ⟨?_⟩
  have HT := Lib.hid (HST.out.stored hx.out hN.out)
  clear hx hN hO HST c0 c1 c2 c3 c4 c5 c6 c7 c8 c9 c10 c11
  generalize hz0 : bitsA 0#256 = Z0
  have HZ0 := Lib.hid hz0
  clear hz0
  have nk : u1.cell? ⟨w.heap.size + 1, 0, none⟩ = some (.int .i64 xk) := HT.out.node.get 0 rfl
  go_wp2_with (first | (refine loadAQ rfl _ rfl (w.heap.size + 1 + 1) 0#256 Z0 HZ0 rfl HT.out.zero ?_) | (refine buildRQ rfl _ Z0 R3 (by exact HZ0) hR3 rfl rfl rfl rfl rfl ?_) | (refine storeRfQ rfl _ _ rfl w.heap.size _ zrK R3 hR3 rfl rfl HT.out.res ?_; intro u9 hx9 hB9 _; refine StopS.out ?_))
  refine ⟨?_⟩
  go_wp2_with fail
  refine bodyPost_ret (by rw [← hR3.out]; exact resRb9 (p := 4) (q := 5) rfl _ (g := w.heap.size) rfl rfl hx9.out) rfl ⟨rfl, ?_⟩
  exact HT.out.below.trans (hB9.out _ (Nat.le_refl _))
set_option maxRecDepth 100000 in
set_option maxHeartbeats 16000000 in
theorem rnode_8 (b o n cap m : Nat) (hm : m < n)  (w : World) (xa xb t0 t1 t2 t3 mn mx md nn : Int) (ff : Bool) (K3 : FK) (hb : b < w.heap.size) (hx : At12 w b (o + m * 12) ⟨8, xa, xb, t0, t1, t2, t3, mn, mx, md, nn, ff⟩) (wh : Bool) (R3 : Array Value) (hT : ∀ u, Below w.heap.size w u → Calls Tryz.prog 53 #[.slice (some ⟨b, o, none⟩) n cap, .agg (ndC ⟨8, xa, xb, t0, t1, t2, t3, mn, mx, md, nn, ff⟩)] u fun e w' => e = .returned (.tuple #[.agg R3, .bool wh]) ∧ Below u.heap.size u w') (hR3 : Hid (rfC K3 = R3)) :
    NodeC b o n cap m w R3 wh := by
  have HTW := Lib.hid hT
  clear hT
  obtain ⟨c0, c1, c2, c3, c4, c5, c6, c7, c8, c9, c10, c11⟩ := hx
  have HST := Lib.hid (RNd.start w ⟨8, xa, xb, t0, t1, t2, t3, mn, mx, md, nn, ff⟩)
  go_enter Tryz.func27, Tryz.ntmps27
  go_wp2_with (refine storeAoQ rfl _ _ rfl (w.heap.size + 1 + 1) 0#256 0#256 (bitsA 0#256) (Lib.hid rfl) rfl rfl HST.out.zero ?_; intro u1 hx hN hO; refine StopS.out ?_)
  refine ⟨?_⟩
  have HT := Lib.hid (HST.out.stored hx.out hN.out)
  clear hx hN hO HST c0 c1 c2 c3 c4 c5 c6 c7 c8 c9 c10 c11
  generalize hz0 : bitsA 0#256 = Z0
  have HZ0 := Lib.hid hz0
  clear hz0
  have nk : u1.cell? ⟨w.heap.size + 1, 0, none⟩ = some (.int .i64 8) := HT.out.node.get 0 rfl
  have n1 := HT.out.node.get 1 rfl
  have n2 := HT.out.node.get 2 rfl
  have n3 := HT.out.node.get 3 rfl
  have n4 := HT.out.node.get 4 rfl
  have n5 := HT.out.node.get 5 rfl
  have n6 := HT.out.node.get 6 rfl
  have n7 := HT.out.node.get 7 rfl
  have n8 := HT.out.node.get 8 rfl
  have n9 := HT.out.node.get 9 rfl
  have n10 := HT.out.node.get 10 rfl
  have n11 := HT.out.node.get 11 rfl
  go_wp2_with fail
  refine (HTW.out _ HT.out.below).mono ?_
  rintro e u2 ⟨rfl, hb⟩
  replace HT := Lib.hid (HT.out.call hb)
  clear hb nk n1 n2 n3 n4 n5 n6 n7 n8 n9 n10 n11
  go_wp2_with (refine storeRfQ rfl _ _ rfl w.heap.size _ zrK R3 hR3 rfl rfl HT.out.res ?_; intro u9 hx9 hB9 _; refine StopS.out ?_)
  refine ⟨?_⟩
  go_wp2_with fail
  refine bodyPost_ret (by rw [← hR3.out]; exact resRb9 (p := 4) (q := 5) rfl _ (g := w.heap.size) rfl rfl hx9.out) rfl ⟨rfl, ?_⟩
  exact HT.out.below.trans (hB9.out _ (Nat.le_refl _))
set_option maxRecDepth 100000 in
set_option maxHeartbeats 16000000 in
theorem rnode_9 (b o n cap m : Nat) (hm : m < n)  (w : World) (xa xb t0 t1 t2 t3 mn mx md nn : Int) (ff : Bool) (K3 : FK) (hb : b < w.heap.size) (hx : At12 w b (o + m * 12) ⟨9, xa, xb, t0, t1, t2, t3, mn, mx, md, nn, ff⟩) (wh : Bool) (R3 : Array Value) (hT : ∀ u, Below w.heap.size w u → Calls Tryz.prog 53 #[.slice (some ⟨b, o, none⟩) n cap, .agg (ndC ⟨9, xa, xb, t0, t1, t2, t3, mn, mx, md, nn, ff⟩)] u fun e w' => e = .returned (.tuple #[.agg R3, .bool wh]) ∧ Below u.heap.size u w') (hR3 : Hid (rfC K3 = R3)) :
    NodeC b o n cap m w R3 wh := by
  have HTW := Lib.hid hT
  clear hT
  obtain ⟨c0, c1, c2, c3, c4, c5, c6, c7, c8, c9, c10, c11⟩ := hx
  have HST := Lib.hid (RNd.start w ⟨9, xa, xb, t0, t1, t2, t3, mn, mx, md, nn, ff⟩)
  go_enter Tryz.func27, Tryz.ntmps27
  go_wp2_with (refine storeAoQ rfl _ _ rfl (w.heap.size + 1 + 1) 0#256 0#256 (bitsA 0#256) (Lib.hid rfl) rfl rfl HST.out.zero ?_; intro u1 hx hN hO; refine StopS.out ?_)
  refine ⟨?_⟩
  have HT := Lib.hid (HST.out.stored hx.out hN.out)
  clear hx hN hO HST c0 c1 c2 c3 c4 c5 c6 c7 c8 c9 c10 c11
  generalize hz0 : bitsA 0#256 = Z0
  have HZ0 := Lib.hid hz0
  clear hz0
  have nk : u1.cell? ⟨w.heap.size + 1, 0, none⟩ = some (.int .i64 9) := HT.out.node.get 0 rfl
  have n1 := HT.out.node.get 1 rfl
  have n2 := HT.out.node.get 2 rfl
  have n3 := HT.out.node.get 3 rfl
  have n4 := HT.out.node.get 4 rfl
  have n5 := HT.out.node.get 5 rfl
  have n6 := HT.out.node.get 6 rfl
  have n7 := HT.out.node.get 7 rfl
  have n8 := HT.out.node.get 8 rfl
  have n9 := HT.out.node.get 9 rfl
  have n10 := HT.out.node.get 10 rfl
  have n11 := HT.out.node.get 11 rfl
  go_wp2_with fail
  refine (HTW.out _ HT.out.below).mono ?_
  rintro e u2 ⟨rfl, hb⟩
  replace HT := Lib.hid (HT.out.call hb)
  clear hb nk n1 n2 n3 n4 n5 n6 n7 n8 n9 n10 n11
  go_wp2_with (refine storeRfQ rfl _ _ rfl w.heap.size _ zrK R3 hR3 rfl rfl HT.out.res ?_; intro u9 hx9 hB9 _; refine StopS.out ?_)
  refine ⟨?_⟩
  go_wp2_with fail
  refine bodyPost_ret (by rw [← hR3.out]; exact resRb9 (p := 4) (q := 5) rfl _ (g := w.heap.size) rfl rfl hx9.out) rfl ⟨rfl, ?_⟩
  exact HT.out.below.trans (hB9.out _ (Nat.le_refl _))
set_option maxRecDepth 100000 in
set_option maxHeartbeats 16000000 in
theorem rnode_11 (b o n cap m : Nat) (hm : m < n)  (w : World) (xa xb t0 t1 t2 t3 mn mx md nn : Int) (ff : Bool) (K3 : FK) (hb : b < w.heap.size) (hx : At12 w b (o + m * 12) ⟨11, xa, xb, t0, t1, t2, t3, mn, mx, md, nn, ff⟩) (wh : Bool) (R3 : Array Value) (hA : NodeQ (.slice (some ⟨b, o, none⟩) n cap) xa R3 wh w) (hR3 : Hid (rfC K3 = R3)) :
    NodeC b o n cap m w R3 wh := by
  have HA := Lib.hid hA
  clear hA
  obtain ⟨c0, c1, c2, c3, c4, c5, c6, c7, c8, c9, c10, c11⟩ := hx
  have HST := Lib.hid (RNd.start w ⟨11, xa, xb, t0, t1, t2, t3, mn, mx, md, nn, ff⟩)
  go_enter Tryz.func27, Tryz.ntmps27
  go_wp2_with (refine storeAoQ rfl _ _ rfl (w.heap.size + 1 + 1) 0#256 0#256 (bitsA 0#256) (Lib.hid rfl) rfl rfl HST.out.zero ?_; intro u1 hx hN hO; refine StopS.out ?_)
  refine ⟨?_⟩
  have HT := Lib.hid (HST.out.stored hx.out hN.out)
  clear hx hN hO HST c0 c1 c2 c3 c4 c5 c6 c7 c8 c9 c10 c11
  generalize hz0 : bitsA 0#256 = Z0
  have HZ0 := Lib.hid hz0
  clear hz0
  have nk : u1.cell? ⟨w.heap.size + 1, 0, none⟩ = some (.int .i64 11) := HT.out.node.get 0 rfl
  have n1 := HT.out.node.get 1 rfl
  go_wp2_with fail
  refine (HA.out _ HT.out.below).mono ?_
  rintro e u2 ⟨rfl, hb⟩
  replace HT := Lib.hid (HT.out.call hb)
  clear hb nk n1
  go_wp2_with (refine storeRfQ rfl _ _ rfl w.heap.size _ zrK R3 hR3 rfl rfl HT.out.res ?_; intro u9 hx9 hB9 _; refine StopS.out ?_)
  refine ⟨?_⟩
  go_wp2_with fail
  refine bodyPost_ret (by rw [← hR3.out]; exact resRb9 (p := 4) (q := 5) rfl _ (g := w.heap.size) rfl rfl hx9.out) rfl ⟨rfl, ?_⟩
  exact HT.out.below.trans (hB9.out _ (Nat.le_refl _))
set_option maxRecDepth 100000 in
set_option maxHeartbeats 16000000 in
theorem rnode_17 (b o n cap m : Nat) (hm : m < n)  (w : World) (xa xb t0 t1 t2 t3 mn mx md nn : Int) (ff : Bool) (K3 : FK) (hb : b < w.heap.size) (hx : At12 w b (o + m * 12) ⟨17, xa, xb, t0, t1, t2, t3, mn, mx, md, nn, ff⟩) (wh : Bool) (R3 : Array Value) (hA : NodeQ (.slice (some ⟨b, o, none⟩) n cap) xa R3 wh w) (hR3 : Hid (rfC K3 = R3)) :
    NodeC b o n cap m w R3 wh := by
  have HA := Lib.hid hA
  clear hA
  obtain ⟨c0, c1, c2, c3, c4, c5, c6, c7, c8, c9, c10, c11⟩ := hx
  have HST := Lib.hid (RNd.start w ⟨17, xa, xb, t0, t1, t2, t3, mn, mx, md, nn, ff⟩)
  go_enter Tryz.func27, Tryz.ntmps27
  go_wp2_with (refine storeAoQ rfl _ _ rfl (w.heap.size + 1 + 1) 0#256 0#256 (bitsA 0#256) (Lib.hid rfl) rfl rfl HST.out.zero ?_; intro u1 hx hN hO; refine StopS.out ?_)
  refine ⟨?_⟩
  have HT := Lib.hid (HST.out.stored hx.out hN.out)
  clear hx hN hO HST c0 c1 c2 c3 c4 c5 c6 c7 c8 c9 c10 c11
  generalize hz0 : bitsA 0#256 = Z0
  have HZ0 := Lib.hid hz0
  clear hz0
  have nk : u1.cell? ⟨w.heap.size + 1, 0, none⟩ = some (.int .i64 17) := HT.out.node.get 0 rfl
  have n1 := HT.out.node.get 1 rfl
  go_wp2_with fail
  refine (HA.out _ HT.out.below).mono ?_
  rintro e u2 ⟨rfl, hb⟩
  replace HT := Lib.hid (HT.out.call hb)
  clear hb nk n1
  go_wp2_with (refine storeRfQ rfl _ _ rfl w.heap.size _ zrK R3 hR3 rfl rfl HT.out.res ?_; intro u9 hx9 hB9 _; refine StopS.out ?_)
  refine ⟨?_⟩
  go_wp2_with fail
  refine bodyPost_ret (by rw [← hR3.out]; exact resRb9 (p := 4) (q := 5) rfl _ (g := w.heap.size) rfl rfl hx9.out) rfl ⟨rfl, ?_⟩
  exact HT.out.below.trans (hB9.out _ (Nat.le_refl _))
end Go.Proofs.YtkpijnodhlonfaaGreatDoor

namespace Go.Proofs.YtkpijnodhlonfaaGreatDoor
open Go.RowKit
open Ast (Nd ndV Nodes NodesAt At12 siz len kidsZ)

section
variable {ops : Array Oper} {R : World → Prop} {a : Act} {o : Oper} {x y : Operand} {w : World}
theorem loadRsQ_y (g : Nat) (k : FK) (B : Array Value) (hB : Hid (bitsA k.F = B)) (hR : ∀ u, R u → BoxR u g k) (ho : o.op = .load 37 x) (hx : a.eval x = .pointer (some ⟨g, 0, none⟩)) (hw : Region.wanted o (yielded ops a.tmps) = true) : YieldsIf Tryz.prog ops R o (.agg B) a := by
  obtain ⟨rfl⟩ := hB.out
  have h := yieldsIf_load_mid (P := Tryz.prog) (ops := ops) (S := R) hw 37 x ho g 0 hx (bitsA k.F).toList _ (fun u hu => BoxR.bits (hR u hu)) Tryz.underlying37 rfl (by rw [Array.length_toList, bitsA_size]; exact sizeRef)
  simpa using h
theorem buildRQ_y {x0 x1 x2 x3 : Operand} (K : FK) (B RR : Array Value) (hB : Hid (bitsA K.F = B)) (hR : Hid (rfC K = RR)) (ho : o.op = .build 39 #[(0, x0), (1, x1), (2, x2), (3, x3)]) (h0 : a.eval x0 = .agg B) (h1 : a.eval x1 = .bool K.op) (h2 : a.eval x2 = .bool K.fa) (h3 : a.eval x3 = .string K.pr) (hw : Region.wanted o (yielded ops a.tmps) = true) : YieldsIf Tryz.prog ops R o (.agg RR) a := by
  obtain ⟨rfl⟩ := hB.out
  obtain ⟨rfl⟩ := hR.out
  refine Or.inl ⟨hw, fun u _ => ?_⟩
  have hb := buildRf K.F K.op K.fa K.pr u
  have e : rfC ⟨K.F, K.op, K.fa, K.pr, false⟩ = rfC K := by unfold rfC; rfl
  rw [e] at hb
  unfold execOp
  simp only [ho, List.map_toArray, List.map_cons, List.map_nil, h0, h1, h2, h3, Sem.run_bind, hb, Result.andThen_ok, Sem.run_pure]
theorem putRQ_run {g : Nat} {K k' : FK} {RR : Array Value} (hR : Hid (rfC K = RR)) (hg : BoxR w g k') (ho : o.op = .store 39 x y) (hx : a.eval x = .pointer (some ⟨g, 0, none⟩)) (hy : a.eval y = .agg RR) : (execOp a.eval o).run Tryz.prog w = .ok .skip (w.setRow g RR) := by
  obtain ⟨rfl⟩ := hR.out
  unfold execOp
  simp only [ho, hx, hy, Instr.storeAt, Instr.sureAddr, Sem.run_bind, Sem.run_pure, Result.andThen_ok, run_storeVar_row w g _ 39 _ _ hg (by rw [rfC_size]; exact sizeRf) (by rw [rfC_size, rfC_size]) (rfC_one K)]
theorem eqlI9d_y {m n : Int} (b : Bool) (h : (m == n) = b) (ho : o.op = .binOp .eql 3 x y 3) (hx : a.eval x = .int .i64 m) (hy : a.eval y = .int .i64 n) (hw : Region.wanted o (yielded ops a.tmps) = true) : YieldsIf Tryz.prog ops R o (.bool b) a := by
  refine Or.inl ⟨hw, fun w _ => ?_⟩
  unfold execOp
  simp only [ho, hx, hy]
  go_simp
theorem gtrI9d_y {m n : Int} (b : Bool) (h : decide (n < m) = b) (ho : o.op = .binOp .gtr 3 x y 3) (hx : a.eval x = .int .i64 m) (hy : a.eval y = .int .i64 n) (hw : Region.wanted o (yielded ops a.tmps) = true) : YieldsIf Tryz.prog ops R o (.bool b) a := by
  refine Or.inl ⟨hw, fun w _ => ?_⟩
  unfold execOp
  simp only [ho, hx, hy]
  go_simp
end
set_option maxRecDepth 100000 in
set_option maxHeartbeats 16000000 in
theorem rnode_10z (b o n cap m : Nat) (hm : m < n)  (w : World) (xa xb t0 t1 t2 t3 mn mx md nn : Int) (ff : Bool) (F1 : BitVec 256) (op1 fa1 : Bool) (pr1 : ByteArray) (wh1 : Bool) (R1 : Array Value) (hR1 : Hid (rfC ⟨F1, op1, fa1, pr1, wh1⟩ = R1)) (hA : NodeQ (.slice (some ⟨b, o, none⟩) n cap) xa R1 wh1 w) (hb : b < w.heap.size) (hx : At12 w b (o + m * 12) ⟨10, xa, xb, t0, t1, t2, t3, mn, mx, md, nn, ff⟩) (hmx : mx = 0) (R3 : Array Value) (hR3 : Hid (rfC ⟨0#256, true, false, ByteArray.empty, true⟩ = R3)) :
    NodeC b o n cap m w R3 true := by
  have HA := Lib.hid hA
  clear hA
  have HMX := Lib.hid hmx
  clear hmx
  obtain ⟨c0, c1, c2, c3, c4, c5, c6, c7, c8, c9, c10, c11⟩ := hx
  have HST := Lib.hid (RNd.start w ⟨10, xa, xb, t0, t1, t2, t3, mn, mx, md, nn, ff⟩)
  go_enter Tryz.func27, Tryz.ntmps27
  go_wp2_with (refine storeAoQ rfl _ _ rfl (w.heap.size + 1 + 1) 0#256 0#256 (bitsA 0#256) (Lib.hid rfl) rfl rfl HST.out.zero ?_; intro u1 hx hN hO; refine StopS.out ?_)
  refine ⟨?_⟩
  have HT := Lib.hid (HST.out.stored hx.out hN.out)
  clear hx hN hO HST c0 c1 c2 c3 c4 c5 c6 c7 c8 c9 c10 c11
  generalize hz0 : bitsA 0#256 = Z0
  have HZ0 := Lib.hid hz0
  clear hz0
  have nk : u1.cell? ⟨w.heap.size + 1, 0, none⟩ = some (.int .i64 10) := HT.out.node.get 0 rfl
  have n1 := HT.out.node.get 1 rfl
  go_wp2_with fail
  refine (HA.out _ HT.out.below).mono ?_
  rintro e u2 ⟨rfl, hb⟩
  replace HT := Lib.hid (HT.out.call hb)
  clear hb nk n1
  go_wp2_with (refine storeRnQ rfl _ _ rfl u2 ⟨F1, op1, fa1, pr1, wh1⟩ R1 hR1 rfl rfl rfl ?_; intro u3 hx hN; refine StopS.out ?_)
  refine ⟨?_⟩
  replace HT := Lib.hid (HT.out.call hN.out)
  have H1 := Lib.hid hx.out
  clear hx hN
  have nx := HT.out.node.get 8 rfl
  have nz : u3.cell? ⟨w.heap.size + 1, 8, none⟩ = some (.int .i64 0) := by
    have h := HT.out.node.get 8 (v := .int .i64 mx) rfl
    rw [HMX.out] at h
    exact h
  clear nx
  go_wp2_with (first | (refine loadAQ rfl _ rfl (w.heap.size + 1 + 1) 0#256 Z0 HZ0 rfl HT.out.zero ?_) | (refine buildRQ rfl _ Z0 R3 (by exact HZ0) hR3 rfl rfl rfl rfl rfl ?_) | (refine storeRfQ rfl _ _ rfl w.heap.size _ zrK R3 hR3 rfl rfl HT.out.res ?_; intro u9 hx9 hB9 _; refine StopS.out ?_))
  refine ⟨?_⟩
  go_wp2_with fail
  refine bodyPost_ret (by rw [← hR3.out]; exact resRb9 (p := 4) (q := 5) rfl _ (g := w.heap.size) rfl rfl hx9.out) rfl ⟨rfl, ?_⟩
  exact HT.out.below.trans (hB9.out _ (Nat.le_refl _))
set_option maxRecDepth 100000 in
set_option maxHeartbeats 16000000 in
theorem rnode_10n (b o n cap m : Nat) (hm : m < n)  (w : World) (xa xb t0 t1 t2 t3 mn mx md nn : Int) (ff : Bool) (F1 : BitVec 256) (op1 fa1 : Bool) (pr1 : ByteArray) (wh1 : Bool) (R1 : Array Value) (hR1 : Hid (rfC ⟨F1, op1, fa1, pr1, wh1⟩ = R1)) (hA : NodeQ (.slice (some ⟨b, o, none⟩) n cap) xa R1 wh1 w) (hb : b < w.heap.size) (hx : At12 w b (o + m * 12) ⟨10, xa, xb, t0, t1, t2, t3, mn, mx, md, nn, ff⟩) (q0 q1 qx : Bool) (h0q : (mn == 0) = q0) (hgq : decide (0 < mn) = !q0) (h1q : (mn == 1) = q1) (hxq : (mx == 1) = qx) (hxz : (mx == 0) = false) (PR : ByteArray) (hPR : PR = bif q0 then ⟨#[]⟩ else pr1) (R3 : Array Value) (hR3 : Hid (rfC ⟨F1, op1 || q0, fa1 && !q0, PR, true⟩ = R3)) :
    NodeC b o n cap m w R3 (wh1 && q1 && qx) := by
  have HA := Lib.hid hA
  clear hA
  have H0Q := Lib.hid h0q
  have H1Q := Lib.hid h1q
  have HXQ := Lib.hid hxq
  have HGQ := Lib.hid hgq
  clear h1q hxq hgq
  generalize hb1 : bitsA F1 = B1
  have hB1 := Lib.hid hb1
  clear hb1
  obtain ⟨c0, c1, c2, c3, c4, c5, c6, c7, c8, c9, c10, c11⟩ := hx
  have HST := Lib.hid (RNd.start w ⟨10, xa, xb, t0, t1, t2, t3, mn, mx, md, nn, ff⟩)
  go_enter Tryz.func27, Tryz.ntmps27
  go_wp2_with (refine storeAoQ rfl _ _ rfl (w.heap.size + 1 + 1) 0#256 0#256 (bitsA 0#256) (Lib.hid rfl) rfl rfl HST.out.zero ?_; intro u1 hx hN hO; refine StopS.out ?_)
  refine ⟨?_⟩
  have HT := Lib.hid (HST.out.stored hx.out hN.out)
  clear hx hN hO HST c0 c1 c2 c3 c4 c5 c6 c7 c8 c9 c10 c11
  generalize hz0 : bitsA 0#256 = Z0
  have HZ0 := Lib.hid hz0
  clear hz0
  have nk : u1.cell? ⟨w.heap.size + 1, 0, none⟩ = some (.int .i64 10) := HT.out.node.get 0 rfl
  have n1 := HT.out.node.get 1 rfl
  go_wp2_with fail
  refine (HA.out _ HT.out.below).mono ?_
  rintro e u2 ⟨rfl, hb⟩
  replace HT := Lib.hid (HT.out.call hb)
  have HL := Lib.hid HT.out.node.lt
  clear hb nk n1
  go_wp2_with (refine storeRnQ rfl _ _ rfl u2 ⟨F1, op1, fa1, pr1, wh1⟩ R1 hR1 rfl rfl rfl ?_; intro u3 hx hN; refine StopS.out ?_)
  refine ⟨?_⟩
  replace HT := Lib.hid (HT.out.call hN.out)
  have H1 := Lib.hid hx.out
  clear hx hN
  have nx := HT.out.node.get 8 rfl
  have nn1 := HT.out.node.get 7 rfl
  have a1 := BoxR.pr H1.out
  dsimp only at a1

  cases q0 with
  | false =>
    obtain rfl : pr1 = PR := hPR.symm
    clear hPR
    go_wp2_with fail
    have HS := Lib.hid (show (fun u => Below w.heap.size w u ∧ BoxV 70 u (w.heap.size + 1) (ndC ⟨10, xa, xb, t0, t1, t2, t3, mn, mx, md, nn, ff⟩) ∧ BoxR u u2.heap.size ⟨F1, op1, fa1, pr1, wh1⟩ ∧ ∃ z, BoxR u w.heap.size z) u3 from ⟨HT.out.below, HT.out.node, H1.out, _, HT.out.res⟩)
    have hlt : w.heap.size + 1 < u2.heap.size := HL.out
    refine wp_region_held_drew (S := fun u => Below w.heap.size w u ∧ BoxV 70 u (w.heap.size + 1) (ndC ⟨10, xa, xb, t0, t1, t2, t3, mn, mx, md, nn, ff⟩) ∧ BoxR u u2.heap.size ⟨F1, op1, fa1, pr1, wh1⟩ ∧ ∃ z, BoxR u w.heap.size z) (by kernel_rfl) (show _ from ⟨HS.out.1.trans ((Below.refl _ _).drew.mono HS.out.1.size), HS.out.2.1.drew, HS.out.2.2.1.drew, HS.out.2.2.2.imp fun _ h => h.drew⟩) (fun hS => ?_)
    clear HS HT H1 nn1 a1
    generalize World.drew _ = v0 at hS ⊢
    refine takeAt 0 81 (.pointer (some ⟨u2.heap.size, 0, none⟩)) rfl rfl (by kernel_rfl) (by kernel_rfl) (by kernel_rfl) (fun _ _ _ h => h) (yields (by rfl) (fun w => by kernel_rfl)) hS ?_
    simp only [Act.put, List.setIfInBounds_toArray, List.set_cons_zero, List.set_cons_succ]
    refine takeAt 1 82 (.agg B1) rfl rfl (by kernel_rfl) (by kernel_rfl) (by kernel_rfl) (fun _ _ _ h => h) (loadRsQ_y u2.heap.size ⟨F1, op1, fa1, pr1, wh1⟩ B1 hB1 (fun _ h => h.2.2.1) rfl rfl (by rfl)) hS ?_
    simp only [Act.put, List.setIfInBounds_toArray, List.set_cons_zero, List.set_cons_succ]
    refine takeAt 2 83 (.pointer (some ⟨u2.heap.size, 256, none⟩)) rfl rfl (by kernel_rfl) (by kernel_rfl) (by kernel_rfl) (fun _ _ _ h => h) (yields (by rfl) (fun w => by kernel_rfl)) hS ?_
    simp only [Act.put, List.setIfInBounds_toArray, List.set_cons_zero, List.set_cons_succ]
    refine takeAt 3 84 (.bool op1) rfl rfl (by kernel_rfl) (by kernel_rfl) (by kernel_rfl) (fun _ _ _ h => h) (loadB9_y u2.heap.size 256 op1 (fun _ h => BoxR.op h.2.2.1) rfl rfl (by rfl)) hS ?_
    simp only [Act.put, List.setIfInBounds_toArray, List.set_cons_zero, List.set_cons_succ]
    refine takeAt 4 85 (.bool op1) rfl rfl (by kernel_rfl) (by kernel_rfl) (by kernel_rfl) (fun _ _ _ h => h) (yields (by rfl) (fun w => by kernel_rfl)) hS ?_
    simp only [Act.put, List.setIfInBounds_toArray, List.set_cons_zero, List.set_cons_succ]
    refine takeAt 5 86 (cond op1 undef (.pointer (some ⟨w.heap.size + 1, 7, none⟩))) rfl rfl (by kernel_rfl) (by kernel_rfl) (by kernel_rfl) (fun _ _ _ h => h) (by cases op1 <;> first | exact yields (by rfl) (fun w => by kernel_rfl) | exact skipped (by rfl)) hS ?_
    simp only [Act.put, List.setIfInBounds_toArray, List.set_cons_zero, List.set_cons_succ]
    refine takeAt 6 87 (cond op1 undef (.int .i64 mn)) rfl rfl (by kernel_rfl) (by kernel_rfl) (by kernel_rfl) (fun _ _ _ h => h) (by cases op1 <;> first | exact loadI9_y (w.heap.size + 1) 7 mn (fun _ h => BoxV.get h.2.1 7 rfl) rfl rfl (by rfl) | exact skipped (by rfl)) hS ?_
    simp only [Act.put, List.setIfInBounds_toArray, List.set_cons_zero, List.set_cons_succ]
    refine takeAt 7 88 (cond op1 undef (.bool false)) rfl rfl (by kernel_rfl) (by kernel_rfl) (by kernel_rfl) (fun _ _ _ h => h) (by cases op1 <;> first | exact eqlI9d_y _ H0Q.out rfl rfl rfl (by rfl) | exact skipped (by rfl)) hS ?_
    simp only [Act.put, List.setIfInBounds_toArray, List.set_cons_zero, List.set_cons_succ]
    refine takeAt 8 89 (.bool (op1 || false)) rfl rfl (by kernel_rfl) (by kernel_rfl) (by kernel_rfl) (fun _ _ _ h => h) (by cases op1 <;> first | exact yields (by rfl) (fun w => by kernel_rfl) | exact skipped (by rfl)) hS ?_
    simp only [Act.put, List.setIfInBounds_toArray, List.set_cons_zero, List.set_cons_succ]
    refine takeAt 9 90 (.pointer (some ⟨u2.heap.size, 257, none⟩)) rfl rfl (by kernel_rfl) (by kernel_rfl) (by kernel_rfl) (fun _ _ _ h => h) (yields (by rfl) (fun w => by kernel_rfl)) hS ?_
    simp only [Act.put, List.setIfInBounds_toArray, List.set_cons_zero, List.set_cons_succ]
    refine takeAt 10 91 (.bool fa1) rfl rfl (by kernel_rfl) (by kernel_rfl) (by kernel_rfl) (fun _ _ _ h => h) (loadB9_y u2.heap.size 257 fa1 (fun _ h => BoxR.fa h.2.2.1) rfl rfl (by rfl)) hS ?_
    simp only [Act.put, List.setIfInBounds_toArray, List.set_cons_zero, List.set_cons_succ]
    refine takeAt 11 92 (.bool fa1) rfl rfl (by kernel_rfl) (by kernel_rfl) (by kernel_rfl) (fun _ _ _ h => h) (yields (by rfl) (fun w => by kernel_rfl)) hS ?_
    simp only [Act.put, List.setIfInBounds_toArray, List.set_cons_zero, List.set_cons_succ]
    refine takeAt 12 93 (cond fa1 (.pointer (some ⟨w.heap.size + 1, 7, none⟩)) undef) rfl rfl (by kernel_rfl) (by kernel_rfl) (by kernel_rfl) (fun _ _ _ h => h) (by cases fa1 <;> first | exact yields (by rfl) (fun w => by kernel_rfl) | exact skipped (by rfl)) hS ?_
    simp only [Act.put, List.setIfInBounds_toArray, List.set_cons_zero, List.set_cons_succ]
    refine takeAt 13 94 (cond fa1 (.int .i64 mn) undef) rfl rfl (by kernel_rfl) (by kernel_rfl) (by kernel_rfl) (fun _ _ _ h => h) (by cases fa1 <;> first | exact loadI9_y (w.heap.size + 1) 7 mn (fun _ h => BoxV.get h.2.1 7 rfl) rfl rfl (by rfl) | exact skipped (by rfl)) hS ?_
    simp only [Act.put, List.setIfInBounds_toArray, List.set_cons_zero, List.set_cons_succ]
    refine takeAt 14 95 (cond fa1 (.bool !false) undef) rfl rfl (by kernel_rfl) (by kernel_rfl) (by kernel_rfl) (fun _ _ _ h => h) (by cases fa1 <;> first | exact gtrI9d_y _ HGQ.out rfl rfl rfl (by rfl) | exact skipped (by rfl)) hS ?_
    simp only [Act.put, List.setIfInBounds_toArray, List.set_cons_zero, List.set_cons_succ]
    refine takeAt 15 96 (.bool (fa1 && !false)) rfl rfl (by kernel_rfl) (by kernel_rfl) (by kernel_rfl) (fun _ _ _ h => h) (by cases fa1 <;> first | exact yields (by rfl) (fun w => by kernel_rfl) | exact skipped (by rfl)) hS ?_
    simp only [Act.put, List.setIfInBounds_toArray, List.set_cons_zero, List.set_cons_succ]
    refine takeAt 16 97 (.string pr1) rfl rfl (by kernel_rfl) (by kernel_rfl) (by kernel_rfl) (fun _ _ _ h => h) (yields (by rfl) (fun w => by kernel_rfl)) hS ?_
    simp only [Act.put, List.setIfInBounds_toArray, List.set_cons_zero, List.set_cons_succ]
    refine takeAt 17 98 (.agg R3) rfl rfl (by kernel_rfl) (by kernel_rfl) (by kernel_rfl) (fun _ _ _ h => h) (buildRQ_y _ B1 R3 (by exact hB1) hR3 rfl rfl rfl rfl rfl (by rfl)) hS ?_
    simp only [Act.put, List.setIfInBounds_toArray, List.set_cons_zero, List.set_cons_succ]
    refine takeAt 18 99 (.bool wh1) rfl rfl (by kernel_rfl) (by kernel_rfl) (by kernel_rfl) (fun _ _ _ h => h) (yields (by rfl) (fun w => by kernel_rfl)) hS ?_
    simp only [Act.put, List.setIfInBounds_toArray, List.set_cons_zero, List.set_cons_succ]
    refine takeAt 19 100 (.bool wh1) rfl rfl (by kernel_rfl) (by kernel_rfl) (by kernel_rfl) (fun _ _ _ h => h) (yields (by rfl) (fun w => by kernel_rfl)) hS ?_
    simp only [Act.put, List.setIfInBounds_toArray, List.set_cons_zero, List.set_cons_succ]
    refine takeAt 20 101 (cond wh1 (.pointer (some ⟨w.heap.size + 1, 7, none⟩)) undef) rfl rfl (by kernel_rfl) (by kernel_rfl) (by kernel_rfl) (fun _ _ _ h => h) (by cases wh1 <;> first | exact yields (by rfl) (fun w => by kernel_rfl) | exact skipped (by rfl)) hS ?_
    simp only [Act.put, List.setIfInBounds_toArray, List.set_cons_zero, List.set_cons_succ]
    refine takeAt 21 102 (cond wh1 (.int .i64 mn) undef) rfl rfl (by kernel_rfl) (by kernel_rfl) (by kernel_rfl) (fun _ _ _ h => h) (by cases wh1 <;> first | exact loadI9_y (w.heap.size + 1) 7 mn (fun _ h => BoxV.get h.2.1 7 rfl) rfl rfl (by rfl) | exact skipped (by rfl)) hS ?_
    simp only [Act.put, List.setIfInBounds_toArray, List.set_cons_zero, List.set_cons_succ]
    refine takeAt 22 103 (cond wh1 (.bool q1) undef) rfl rfl (by kernel_rfl) (by kernel_rfl) (by kernel_rfl) (fun _ _ _ h => h) (by cases wh1 <;> first | exact eqlI9d_y _ H1Q.out rfl rfl rfl (by rfl) | exact skipped (by rfl)) hS ?_
    simp only [Act.put, List.setIfInBounds_toArray, List.set_cons_zero, List.set_cons_succ]
    refine takeAt 23 104 (.bool (wh1 && q1)) rfl rfl (by kernel_rfl) (by kernel_rfl) (by kernel_rfl) (fun _ _ _ h => h) (by cases wh1 <;> first | exact yields (by rfl) (fun w => by kernel_rfl) | exact skipped (by rfl)) hS ?_
    simp only [Act.put, List.setIfInBounds_toArray, List.set_cons_zero, List.set_cons_succ]
    refine takeAt 24 105 (.bool (wh1 && q1)) rfl rfl (by kernel_rfl) (by kernel_rfl) (by kernel_rfl) (fun _ _ _ h => h) (yields (by rfl) (fun w => by kernel_rfl)) hS ?_
    simp only [Act.put, List.setIfInBounds_toArray, List.set_cons_zero, List.set_cons_succ]
    refine takeAt 25 106 (cond (wh1 && q1) (.pointer (some ⟨w.heap.size + 1, 8, none⟩)) undef) rfl rfl (by kernel_rfl) (by kernel_rfl) (by kernel_rfl) (fun _ _ _ h => h) (by cases wh1 <;> cases q1 <;> first | exact yields (by rfl) (fun w => by kernel_rfl) | exact skipped (by rfl)) hS ?_
    simp only [Act.put, List.setIfInBounds_toArray, List.set_cons_zero, List.set_cons_succ]
    refine takeAt 26 107 (cond (wh1 && q1) (.int .i64 mx) undef) rfl rfl (by kernel_rfl) (by kernel_rfl) (by kernel_rfl) (fun _ _ _ h => h) (by cases wh1 <;> cases q1 <;> first | exact loadI9_y (w.heap.size + 1) 8 mx (fun _ h => BoxV.get h.2.1 8 rfl) rfl rfl (by rfl) | exact skipped (by rfl)) hS ?_
    simp only [Act.put, List.setIfInBounds_toArray, List.set_cons_zero, List.set_cons_succ]
    refine takeAt 27 108 (cond (wh1 && q1) (.bool qx) undef) rfl rfl (by kernel_rfl) (by kernel_rfl) (by kernel_rfl) (fun _ _ _ h => h) (by cases wh1 <;> cases q1 <;> first | exact eqlI9d_y _ HXQ.out rfl rfl rfl (by rfl) | exact skipped (by rfl)) hS ?_
    simp only [Act.put, List.setIfInBounds_toArray, List.set_cons_zero, List.set_cons_succ]
    refine takeAt 28 109 (.bool (wh1 && q1 && qx)) rfl rfl (by kernel_rfl) (by kernel_rfl) (by kernel_rfl) (fun _ _ _ h => h) (by cases wh1 <;> cases q1 <;> first | exact yields (by rfl) (fun w => by kernel_rfl) | exact skipped (by rfl)) hS ?_
    simp only [Act.put, List.setIfInBounds_toArray, List.set_cons_zero, List.set_cons_succ]
    obtain ⟨h1, h2, h4, zz, h3⟩ := hS
    refine skipAt 29 (v0.setRow w.heap.size R3) rfl rfl (by kernel_rfl) (by rfl) (putRQ_run hR3 h3 rfl rfl rfl) ⟨h1.trans ⟨rfl, rfl, rfl, by simp, fun j hj => setRow_other v0 w.heap.size j _ (by omega)⟩, (setRow_other v0 w.heap.size (w.heap.size + 1) _ (by omega)).trans h2, (setRow_other v0 w.heap.size u2.heap.size _ (by omega)).trans h4, _, by rw [← hR3.out]; exact setRow_heap v0 w.heap.size _ _ _ _ h3⟩ ?_
    have hS : (fun u => Below w.heap.size w u ∧ BoxV 70 u (w.heap.size + 1) (ndC ⟨10, xa, xb, t0, t1, t2, t3, mn, mx, md, nn, ff⟩) ∧ BoxR u u2.heap.size ⟨F1, op1, fa1, pr1, wh1⟩ ∧ ∃ z, BoxR u w.heap.size z) (v0.setRow w.heap.size R3) := ⟨h1.trans ⟨rfl, rfl, rfl, by simp, fun j hj => setRow_other v0 w.heap.size j _ (by omega)⟩, (setRow_other v0 w.heap.size (w.heap.size + 1) _ (by omega)).trans h2, (setRow_other v0 w.heap.size u2.heap.size _ (by omega)).trans h4, _, by rw [← hR3.out]; exact setRow_heap v0 w.heap.size _ _ _ _ h3⟩
    refine takeAt 30 5 (.bool (wh1 && q1 && qx)) rfl rfl (by kernel_rfl) (by kernel_rfl) (by kernel_rfl) (fun _ _ _ h => h) (yields (by rfl) (fun w => by kernel_rfl)) hS ?_
    simp only [Act.put, List.setIfInBounds_toArray, List.set_cons_zero, List.set_cons_succ]
    refine wpAnyH_done (by kernel_rfl) ?_ _
    go_wp2_with fail
    refine bodyPost_ret (by rw [← hR3.out]; exact resRb9 (p := 4) (q := 5) rfl _ (g := w.heap.size) rfl rfl (setRow_heap v0 w.heap.size _ _ _ _ h3)) rfl ⟨rfl, ?_⟩
    exact h1.trans ⟨rfl, rfl, rfl, by simp, fun j hj => setRow_other v0 w.heap.size j _ (by omega)⟩
  | true =>
    obtain rfl : PR = ⟨#[]⟩ := hPR
    go_wp2_with fail
    have HS := Lib.hid (show (fun u => Below w.heap.size w u ∧ BoxV 70 u (w.heap.size + 1) (ndC ⟨10, xa, xb, t0, t1, t2, t3, mn, mx, md, nn, ff⟩) ∧ BoxR u u2.heap.size ⟨F1, op1, fa1, pr1, wh1⟩ ∧ ∃ z, BoxR u w.heap.size z) u3 from ⟨HT.out.below, HT.out.node, H1.out, _, HT.out.res⟩)
    have hlt : w.heap.size + 1 < u2.heap.size := HL.out
    refine wp_region_held_drew (S := fun u => Below w.heap.size w u ∧ BoxV 70 u (w.heap.size + 1) (ndC ⟨10, xa, xb, t0, t1, t2, t3, mn, mx, md, nn, ff⟩) ∧ BoxR u u2.heap.size ⟨F1, op1, fa1, pr1, wh1⟩ ∧ ∃ z, BoxR u w.heap.size z) (by kernel_rfl) (show _ from ⟨HS.out.1.trans ((Below.refl _ _).drew.mono HS.out.1.size), HS.out.2.1.drew, HS.out.2.2.1.drew, HS.out.2.2.2.imp fun _ h => h.drew⟩) (fun hS => ?_)
    clear HS HT H1 nn1 a1
    generalize World.drew _ = v0 at hS ⊢
    refine takeAt 0 81 (.pointer (some ⟨u2.heap.size, 0, none⟩)) rfl rfl (by kernel_rfl) (by kernel_rfl) (by kernel_rfl) (fun _ _ _ h => h) (yields (by rfl) (fun w => by kernel_rfl)) hS ?_
    simp only [Act.put, List.setIfInBounds_toArray, List.set_cons_zero, List.set_cons_succ]
    refine takeAt 1 82 (.agg B1) rfl rfl (by kernel_rfl) (by kernel_rfl) (by kernel_rfl) (fun _ _ _ h => h) (loadRsQ_y u2.heap.size ⟨F1, op1, fa1, pr1, wh1⟩ B1 hB1 (fun _ h => h.2.2.1) rfl rfl (by rfl)) hS ?_
    simp only [Act.put, List.setIfInBounds_toArray, List.set_cons_zero, List.set_cons_succ]
    refine takeAt 2 83 (.pointer (some ⟨u2.heap.size, 256, none⟩)) rfl rfl (by kernel_rfl) (by kernel_rfl) (by kernel_rfl) (fun _ _ _ h => h) (yields (by rfl) (fun w => by kernel_rfl)) hS ?_
    simp only [Act.put, List.setIfInBounds_toArray, List.set_cons_zero, List.set_cons_succ]
    refine takeAt 3 84 (.bool op1) rfl rfl (by kernel_rfl) (by kernel_rfl) (by kernel_rfl) (fun _ _ _ h => h) (loadB9_y u2.heap.size 256 op1 (fun _ h => BoxR.op h.2.2.1) rfl rfl (by rfl)) hS ?_
    simp only [Act.put, List.setIfInBounds_toArray, List.set_cons_zero, List.set_cons_succ]
    refine takeAt 4 85 (.bool op1) rfl rfl (by kernel_rfl) (by kernel_rfl) (by kernel_rfl) (fun _ _ _ h => h) (yields (by rfl) (fun w => by kernel_rfl)) hS ?_
    simp only [Act.put, List.setIfInBounds_toArray, List.set_cons_zero, List.set_cons_succ]
    refine takeAt 5 86 (cond op1 undef (.pointer (some ⟨w.heap.size + 1, 7, none⟩))) rfl rfl (by kernel_rfl) (by kernel_rfl) (by kernel_rfl) (fun _ _ _ h => h) (by cases op1 <;> first | exact yields (by rfl) (fun w => by kernel_rfl) | exact skipped (by rfl)) hS ?_
    simp only [Act.put, List.setIfInBounds_toArray, List.set_cons_zero, List.set_cons_succ]
    refine takeAt 6 87 (cond op1 undef (.int .i64 mn)) rfl rfl (by kernel_rfl) (by kernel_rfl) (by kernel_rfl) (fun _ _ _ h => h) (by cases op1 <;> first | exact loadI9_y (w.heap.size + 1) 7 mn (fun _ h => BoxV.get h.2.1 7 rfl) rfl rfl (by rfl) | exact skipped (by rfl)) hS ?_
    simp only [Act.put, List.setIfInBounds_toArray, List.set_cons_zero, List.set_cons_succ]
    refine takeAt 7 88 (cond op1 undef (.bool true)) rfl rfl (by kernel_rfl) (by kernel_rfl) (by kernel_rfl) (fun _ _ _ h => h) (by cases op1 <;> first | exact eqlI9d_y _ H0Q.out rfl rfl rfl (by rfl) | exact skipped (by rfl)) hS ?_
    simp only [Act.put, List.setIfInBounds_toArray, List.set_cons_zero, List.set_cons_succ]
    refine takeAt 8 89 (.bool (op1 || true)) rfl rfl (by kernel_rfl) (by kernel_rfl) (by kernel_rfl) (fun _ _ _ h => h) (by cases op1 <;> first | exact yields (by rfl) (fun w => by kernel_rfl) | exact skipped (by rfl)) hS ?_
    simp only [Act.put, List.setIfInBounds_toArray, List.set_cons_zero, List.set_cons_succ]
    refine takeAt 9 90 (.pointer (some ⟨u2.heap.size, 257, none⟩)) rfl rfl (by kernel_rfl) (by kernel_rfl) (by kernel_rfl) (fun _ _ _ h => h) (yields (by rfl) (fun w => by kernel_rfl)) hS ?_
    simp only [Act.put, List.setIfInBounds_toArray, List.set_cons_zero, List.set_cons_succ]
    refine takeAt 10 91 (.bool fa1) rfl rfl (by kernel_rfl) (by kernel_rfl) (by kernel_rfl) (fun _ _ _ h => h) (loadB9_y u2.heap.size 257 fa1 (fun _ h => BoxR.fa h.2.2.1) rfl rfl (by rfl)) hS ?_
    simp only [Act.put, List.setIfInBounds_toArray, List.set_cons_zero, List.set_cons_succ]
    refine takeAt 11 92 (.bool fa1) rfl rfl (by kernel_rfl) (by kernel_rfl) (by kernel_rfl) (fun _ _ _ h => h) (yields (by rfl) (fun w => by kernel_rfl)) hS ?_
    simp only [Act.put, List.setIfInBounds_toArray, List.set_cons_zero, List.set_cons_succ]
    refine takeAt 12 93 (cond fa1 (.pointer (some ⟨w.heap.size + 1, 7, none⟩)) undef) rfl rfl (by kernel_rfl) (by kernel_rfl) (by kernel_rfl) (fun _ _ _ h => h) (by cases fa1 <;> first | exact yields (by rfl) (fun w => by kernel_rfl) | exact skipped (by rfl)) hS ?_
    simp only [Act.put, List.setIfInBounds_toArray, List.set_cons_zero, List.set_cons_succ]
    refine takeAt 13 94 (cond fa1 (.int .i64 mn) undef) rfl rfl (by kernel_rfl) (by kernel_rfl) (by kernel_rfl) (fun _ _ _ h => h) (by cases fa1 <;> first | exact loadI9_y (w.heap.size + 1) 7 mn (fun _ h => BoxV.get h.2.1 7 rfl) rfl rfl (by rfl) | exact skipped (by rfl)) hS ?_
    simp only [Act.put, List.setIfInBounds_toArray, List.set_cons_zero, List.set_cons_succ]
    refine takeAt 14 95 (cond fa1 (.bool !true) undef) rfl rfl (by kernel_rfl) (by kernel_rfl) (by kernel_rfl) (fun _ _ _ h => h) (by cases fa1 <;> first | exact gtrI9d_y _ HGQ.out rfl rfl rfl (by rfl) | exact skipped (by rfl)) hS ?_
    simp only [Act.put, List.setIfInBounds_toArray, List.set_cons_zero, List.set_cons_succ]
    refine takeAt 15 96 (.bool (fa1 && !true)) rfl rfl (by kernel_rfl) (by kernel_rfl) (by kernel_rfl) (fun _ _ _ h => h) (by cases fa1 <;> first | exact yields (by rfl) (fun w => by kernel_rfl) | exact skipped (by rfl)) hS ?_
    simp only [Act.put, List.setIfInBounds_toArray, List.set_cons_zero, List.set_cons_succ]
    refine takeAt 16 97 (.string ⟨#[]⟩) rfl rfl (by kernel_rfl) (by kernel_rfl) (by kernel_rfl) (fun _ _ _ h => h) (yields (by rfl) (fun w => by kernel_rfl)) hS ?_
    simp only [Act.put, List.setIfInBounds_toArray, List.set_cons_zero, List.set_cons_succ]
    refine takeAt 17 98 (.agg R3) rfl rfl (by kernel_rfl) (by kernel_rfl) (by kernel_rfl) (fun _ _ _ h => h) (buildRQ_y _ B1 R3 (by exact hB1) hR3 rfl rfl rfl rfl rfl (by rfl)) hS ?_
    simp only [Act.put, List.setIfInBounds_toArray, List.set_cons_zero, List.set_cons_succ]
    refine takeAt 18 99 (.bool wh1) rfl rfl (by kernel_rfl) (by kernel_rfl) (by kernel_rfl) (fun _ _ _ h => h) (yields (by rfl) (fun w => by kernel_rfl)) hS ?_
    simp only [Act.put, List.setIfInBounds_toArray, List.set_cons_zero, List.set_cons_succ]
    refine takeAt 19 100 (.bool wh1) rfl rfl (by kernel_rfl) (by kernel_rfl) (by kernel_rfl) (fun _ _ _ h => h) (yields (by rfl) (fun w => by kernel_rfl)) hS ?_
    simp only [Act.put, List.setIfInBounds_toArray, List.set_cons_zero, List.set_cons_succ]
    refine takeAt 20 101 (cond wh1 (.pointer (some ⟨w.heap.size + 1, 7, none⟩)) undef) rfl rfl (by kernel_rfl) (by kernel_rfl) (by kernel_rfl) (fun _ _ _ h => h) (by cases wh1 <;> first | exact yields (by rfl) (fun w => by kernel_rfl) | exact skipped (by rfl)) hS ?_
    simp only [Act.put, List.setIfInBounds_toArray, List.set_cons_zero, List.set_cons_succ]
    refine takeAt 21 102 (cond wh1 (.int .i64 mn) undef) rfl rfl (by kernel_rfl) (by kernel_rfl) (by kernel_rfl) (fun _ _ _ h => h) (by cases wh1 <;> first | exact loadI9_y (w.heap.size + 1) 7 mn (fun _ h => BoxV.get h.2.1 7 rfl) rfl rfl (by rfl) | exact skipped (by rfl)) hS ?_
    simp only [Act.put, List.setIfInBounds_toArray, List.set_cons_zero, List.set_cons_succ]
    refine takeAt 22 103 (cond wh1 (.bool q1) undef) rfl rfl (by kernel_rfl) (by kernel_rfl) (by kernel_rfl) (fun _ _ _ h => h) (by cases wh1 <;> first | exact eqlI9d_y _ H1Q.out rfl rfl rfl (by rfl) | exact skipped (by rfl)) hS ?_
    simp only [Act.put, List.setIfInBounds_toArray, List.set_cons_zero, List.set_cons_succ]
    refine takeAt 23 104 (.bool (wh1 && q1)) rfl rfl (by kernel_rfl) (by kernel_rfl) (by kernel_rfl) (fun _ _ _ h => h) (by cases wh1 <;> first | exact yields (by rfl) (fun w => by kernel_rfl) | exact skipped (by rfl)) hS ?_
    simp only [Act.put, List.setIfInBounds_toArray, List.set_cons_zero, List.set_cons_succ]
    refine takeAt 24 105 (.bool (wh1 && q1)) rfl rfl (by kernel_rfl) (by kernel_rfl) (by kernel_rfl) (fun _ _ _ h => h) (yields (by rfl) (fun w => by kernel_rfl)) hS ?_
    simp only [Act.put, List.setIfInBounds_toArray, List.set_cons_zero, List.set_cons_succ]
    refine takeAt 25 106 (cond (wh1 && q1) (.pointer (some ⟨w.heap.size + 1, 8, none⟩)) undef) rfl rfl (by kernel_rfl) (by kernel_rfl) (by kernel_rfl) (fun _ _ _ h => h) (by cases wh1 <;> cases q1 <;> first | exact yields (by rfl) (fun w => by kernel_rfl) | exact skipped (by rfl)) hS ?_
    simp only [Act.put, List.setIfInBounds_toArray, List.set_cons_zero, List.set_cons_succ]
    refine takeAt 26 107 (cond (wh1 && q1) (.int .i64 mx) undef) rfl rfl (by kernel_rfl) (by kernel_rfl) (by kernel_rfl) (fun _ _ _ h => h) (by cases wh1 <;> cases q1 <;> first | exact loadI9_y (w.heap.size + 1) 8 mx (fun _ h => BoxV.get h.2.1 8 rfl) rfl rfl (by rfl) | exact skipped (by rfl)) hS ?_
    simp only [Act.put, List.setIfInBounds_toArray, List.set_cons_zero, List.set_cons_succ]
    refine takeAt 27 108 (cond (wh1 && q1) (.bool qx) undef) rfl rfl (by kernel_rfl) (by kernel_rfl) (by kernel_rfl) (fun _ _ _ h => h) (by cases wh1 <;> cases q1 <;> first | exact eqlI9d_y _ HXQ.out rfl rfl rfl (by rfl) | exact skipped (by rfl)) hS ?_
    simp only [Act.put, List.setIfInBounds_toArray, List.set_cons_zero, List.set_cons_succ]
    refine takeAt 28 109 (.bool (wh1 && q1 && qx)) rfl rfl (by kernel_rfl) (by kernel_rfl) (by kernel_rfl) (fun _ _ _ h => h) (by cases wh1 <;> cases q1 <;> first | exact yields (by rfl) (fun w => by kernel_rfl) | exact skipped (by rfl)) hS ?_
    simp only [Act.put, List.setIfInBounds_toArray, List.set_cons_zero, List.set_cons_succ]
    obtain ⟨h1, h2, h4, zz, h3⟩ := hS
    refine skipAt 29 (v0.setRow w.heap.size R3) rfl rfl (by kernel_rfl) (by rfl) (putRQ_run hR3 h3 rfl rfl rfl) ⟨h1.trans ⟨rfl, rfl, rfl, by simp, fun j hj => setRow_other v0 w.heap.size j _ (by omega)⟩, (setRow_other v0 w.heap.size (w.heap.size + 1) _ (by omega)).trans h2, (setRow_other v0 w.heap.size u2.heap.size _ (by omega)).trans h4, _, by rw [← hR3.out]; exact setRow_heap v0 w.heap.size _ _ _ _ h3⟩ ?_
    have hS : (fun u => Below w.heap.size w u ∧ BoxV 70 u (w.heap.size + 1) (ndC ⟨10, xa, xb, t0, t1, t2, t3, mn, mx, md, nn, ff⟩) ∧ BoxR u u2.heap.size ⟨F1, op1, fa1, pr1, wh1⟩ ∧ ∃ z, BoxR u w.heap.size z) (v0.setRow w.heap.size R3) := ⟨h1.trans ⟨rfl, rfl, rfl, by simp, fun j hj => setRow_other v0 w.heap.size j _ (by omega)⟩, (setRow_other v0 w.heap.size (w.heap.size + 1) _ (by omega)).trans h2, (setRow_other v0 w.heap.size u2.heap.size _ (by omega)).trans h4, _, by rw [← hR3.out]; exact setRow_heap v0 w.heap.size _ _ _ _ h3⟩
    refine takeAt 30 5 (.bool (wh1 && q1 && qx)) rfl rfl (by kernel_rfl) (by kernel_rfl) (by kernel_rfl) (fun _ _ _ h => h) (yields (by rfl) (fun w => by kernel_rfl)) hS ?_
    simp only [Act.put, List.setIfInBounds_toArray, List.set_cons_zero, List.set_cons_succ]
    refine wpAnyH_done (by kernel_rfl) ?_ _
    go_wp2_with fail
    refine bodyPost_ret (by rw [← hR3.out]; exact resRb9 (p := 4) (q := 5) rfl _ (g := w.heap.size) rfl rfl (setRow_heap v0 w.heap.size _ _ _ _ h3)) rfl ⟨rfl, ?_⟩
    exact h1.trans ⟨rfl, rfl, rfl, by simp, fun j hj => setRow_other v0 w.heap.size j _ (by omega)⟩
end Go.Proofs.YtkpijnodhlonfaaGreatDoor

namespace Go.Proofs.YtkpijnodhlonfaaGreatDoor
open Go.RowKit
open Ast (Nd ndV Nodes NodesAt At12 siz len kidsZ)

set_option maxRecDepth 100000 in
set_option maxHeartbeats 16000000 in
theorem rnode_1a (b o n cap j : Nat) (hm : j < n)  (w : World) (xa xb mn mx md nn : Int) (ff : Bool) (hb : b < w.heap.size) (S : BitVec 256) (hx : At12 w b (o + j * 12) ⟨1, xa, xb, W S 0, W S 1, W S 2, W S 3, mn, mx, md, nn, ff⟩) (m : Nat) (b0 : Bool) (hMin : minV S = .tuple #[.int .u8 (m : Int), .bool b0]) (hL : lenS S = 1) (hm2 : m < 256) (R3 : Array Value) (hR3 : Hid (rfC ⟨S, false, false, ⟨#[UInt8.ofNat m]⟩, true⟩ = R3)) :
    NodeC b o n cap j w R3 true := by
  have HOF := Lib.hid (fun w => rof_any S w)
  have HMI := Lib.hid (fun w => rmin_any S w)
  have HLE := Lib.hid (fun w => rlen_any S w)
  rw [hMin] at HMI
  generalize hbs : bitsA S = BS at HOF HMI HLE
  have HBS := Lib.hid hbs
  clear hbs hMin
  rw [hL] at HLE
  clear hL
  have HM := Lib.hid hm2
  clear hm2
  obtain ⟨c0, c1, c2, c3, c4, c5, c6, c7, c8, c9, c10, c11⟩ := hx
  have HST := Lib.hid (RNd.start w ⟨1, xa, xb, W S 0, W S 1, W S 2, W S 3, mn, mx, md, nn, ff⟩)
  go_enter Tryz.func27, Tryz.ntmps27
  go_wp2_with (refine storeAoQ rfl _ _ rfl (w.heap.size + 1 + 1) 0#256 0#256 (bitsA 0#256) (Lib.hid rfl) rfl rfl HST.out.zero ?_; intro u1 hx hN hO; refine StopS.out ?_)
  refine ⟨?_⟩
  have HT := Lib.hid (HST.out.stored hx.out hN.out)
  clear hx hN hO HST c0 c1 c2 c3 c4 c5 c6 c7 c8 c9 c10 c11
  generalize hz0 : bitsA 0#256 = Z0
  have HZ0 := Lib.hid hz0
  clear hz0
  have nk : u1.cell? ⟨w.heap.size + 1, 0, none⟩ = some (.int .i64 1) := HT.out.node.get 0 rfl
  have n3 := HT.out.node.get 3 rfl
  have n4 := HT.out.node.get 4 rfl
  have n5 := HT.out.node.get 5 rfl
  have n6 := HT.out.node.get 6 rfl
  go_wp2_with fail
  refine (HOF.out _).mono ?_
  rintro e u2 ⟨rfl, hb⟩
  replace HT := Lib.hid (HT.out.call hb)
  clear hb nk n3 n4 n5 n6
  go_wp2_with (refine storeAnQ rfl _ _ rfl u2 S BS HBS rfl rfl rfl ?_; intro u3 hx hN; refine StopS.out ?_)
  refine ⟨?_⟩
  replace HT := Lib.hid (HT.out.call hN.out)
  clear hN
  go_wp2_with (refine loadAQ rfl _ rfl u2.heap.size S BS HBS rfl hx.out ?_)
  refine (HMI.out _).mono ?_
  rintro e u4 ⟨rfl, hb⟩
  replace HT := Lib.hid (HT.out.call hb)
  replace hx := Lib.hid (hx.out.below hb hx.out.lt)
  clear hb
  go_wp2_with (refine loadAQ rfl _ rfl u2.heap.size S BS HBS rfl hx.out ?_)
  refine (HLE.out _).mono ?_
  rintro e u5 ⟨rfl, hb⟩
  replace HT := Lib.hid (HT.out.call hb)
  replace hx := Lib.hid (hx.out.below hb hx.out.lt)
  clear hb
  have hs := strOne m HM.out u5
  have HX := Lib.hid (show BoxR (u5.alloc (.cells #[.int .u8 (m : Int)] 5)) w.heap.size zrK from HT.out.res.alloc _)
  have HY := Lib.hid (show Below w.heap.size w (u5.alloc (.cells #[.int .u8 (m : Int)] 5)) from HT.out.below.alloc HT.out.below.size _)
  go_wp2_with (first | (refine loadAQ rfl _ rfl u2.heap.size S BS HBS rfl hx.out ?_) | (refine buildRQ rfl _ BS R3 (by exact HBS) hR3 rfl rfl rfl rfl rfl ?_) | (refine storeRfQ rfl _ _ rfl w.heap.size _ zrK R3 hR3 rfl rfl HX.out ?_; intro u9 hx9 hB9 _; refine StopS.out ?_))
  refine ⟨?_⟩
  go_wp2_with fail
  refine bodyPost_ret (by rw [← hR3.out]; exact resRb9 (p := 4) (q := 5) rfl _ (g := w.heap.size) rfl rfl hx9.out) rfl ⟨rfl, ?_⟩
  exact HY.out.trans (hB9.out _ (Nat.le_refl _))
set_option maxRecDepth 100000 in
set_option maxHeartbeats 16000000 in
theorem rnode_1b (b o n cap j : Nat) (hm : j < n)  (w : World) (xa xb mn mx md nn : Int) (ff : Bool) (hb : b < w.heap.size) (S : BitVec 256) (hx : At12 w b (o + j * 12) ⟨1, xa, xb, W S 0, W S 1, W S 2, W S 3, mn, mx, md, nn, ff⟩) (m : Int) (b0 : Bool) (hMin : minV S = .tuple #[.int .u8 m, .bool b0]) (hL : lenS S ≠ 1) (R3 : Array Value) (hR3 : Hid (rfC ⟨S, false, false, ByteArray.empty, false⟩ = R3)) :
    NodeC b o n cap j w R3 false := by
  have HOF := Lib.hid (fun w => rof_any S w)
  have HMI := Lib.hid (fun w => rmin_any S w)
  have HLE := Lib.hid (fun w => rlen_any S w)
  rw [hMin] at HMI
  generalize hbs : bitsA S = BS at HOF HMI HLE
  have HBS := Lib.hid hbs
  clear hbs hMin
  have q1 : (((lenS S : Nat) : Int) == 1) = false := by rw [beq_eq_false_iff_ne]; omega
  generalize lenS S = q at HLE q1
  clear hL
  obtain ⟨c0, c1, c2, c3, c4, c5, c6, c7, c8, c9, c10, c11⟩ := hx
  have HST := Lib.hid (RNd.start w ⟨1, xa, xb, W S 0, W S 1, W S 2, W S 3, mn, mx, md, nn, ff⟩)
  go_enter Tryz.func27, Tryz.ntmps27
  go_wp2_with (refine storeAoQ rfl _ _ rfl (w.heap.size + 1 + 1) 0#256 0#256 (bitsA 0#256) (Lib.hid rfl) rfl rfl HST.out.zero ?_; intro u1 hx hN hO; refine StopS.out ?_)
  refine ⟨?_⟩
  have HT := Lib.hid (HST.out.stored hx.out hN.out)
  clear hx hN hO HST c0 c1 c2 c3 c4 c5 c6 c7 c8 c9 c10 c11
  generalize hz0 : bitsA 0#256 = Z0
  have HZ0 := Lib.hid hz0
  clear hz0
  have nk : u1.cell? ⟨w.heap.size + 1, 0, none⟩ = some (.int .i64 1) := HT.out.node.get 0 rfl
  have n3 := HT.out.node.get 3 rfl
  have n4 := HT.out.node.get 4 rfl
  have n5 := HT.out.node.get 5 rfl
  have n6 := HT.out.node.get 6 rfl
  go_wp2_with fail
  refine (HOF.out _).mono ?_
  rintro e u2 ⟨rfl, hb⟩
  replace HT := Lib.hid (HT.out.call hb)
  clear hb nk n3 n4 n5 n6
  go_wp2_with (refine storeAnQ rfl _ _ rfl u2 S BS HBS rfl rfl rfl ?_; intro u3 hx hN; refine StopS.out ?_)
  refine ⟨?_⟩
  replace HT := Lib.hid (HT.out.call hN.out)
  clear hN
  go_wp2_with (refine loadAQ rfl _ rfl u2.heap.size S BS HBS rfl hx.out ?_)
  refine (HMI.out _).mono ?_
  rintro e u4 ⟨rfl, hb⟩
  replace HT := Lib.hid (HT.out.call hb)
  replace hx := Lib.hid (hx.out.below hb hx.out.lt)
  clear hb
  go_wp2_with (refine loadAQ rfl _ rfl u2.heap.size S BS HBS rfl hx.out ?_)
  refine (HLE.out _).mono ?_
  rintro e u5 ⟨rfl, hb⟩
  replace HT := Lib.hid (HT.out.call hb)
  replace hx := Lib.hid (hx.out.below hb hx.out.lt)
  clear hb
  go_wp2_with (first | (refine loadAQ rfl _ rfl u2.heap.size S BS HBS rfl hx.out ?_) | (refine buildRQ rfl _ BS R3 (by exact HBS) hR3 rfl rfl rfl rfl rfl ?_) | (refine storeRfQ rfl _ _ rfl w.heap.size _ zrK R3 hR3 rfl rfl HT.out.res ?_; intro u9 hx9 hB9 _; refine StopS.out ?_))
  refine ⟨?_⟩
  go_wp2_with fail
  refine bodyPost_ret (by rw [← hR3.out]; exact resRb9 (p := 4) (q := 5) rfl _ (g := w.heap.size) rfl rfl hx9.out) rfl ⟨rfl, ?_⟩
  exact HT.out.below.trans (hB9.out _ (Nat.le_refl _))
end Go.Proofs.YtkpijnodhlonfaaGreatDoor
