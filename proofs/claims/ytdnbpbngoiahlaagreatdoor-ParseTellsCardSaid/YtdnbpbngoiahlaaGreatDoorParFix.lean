import Derived.Test.YtdnbpbngoiahlaaGreatDoorParParse
import Derived.Test.YtdnbpbngoiahlaaGreatDoorAstI
import Derived.Test.YtdnbpbngoiahlaaGreatDoorClassM
namespace Go.Proofs.YtdnbpbngoiahlaaGreatDoor
open Go.RowKit
open Ast (Nd ndV joinL wrapL deepZ rightZ Nodes)
abbrev pat1 : ByteArray := ⟨#[97, 124, 98, 99]⟩
theorem pat1_z : parseZ pat1 = ((5, (parseZ pat1).1.2), 0) := by
 have h1 : (parseZ pat1).1.1 = 5 := by kernel_rfl
 have h2 : (parseZ pat1).2 = 0 := by kernel_rfl
 rw [← h1, ← h2]
abbrev pat2 : ByteArray := ⟨#[40, 63, 105, 58, 40, 97, 41, 92, 49, 41]⟩
theorem pat2_z : parseZ pat2 = ((4, (parseZ pat2).1.2), 0) := by
 have h1 : (parseZ pat2).1.1 = 4 := by kernel_rfl
 have h2 : (parseZ pat2).2 = 0 := by kernel_rfl
 rw [← h1, ← h2]
abbrev pat3 : ByteArray := ⟨#[97, 42, 42]⟩
theorem pat3_z : parseZ pat3 = ((0, (parseZ pat3).1.2), 3) := by
 have h1 : (parseZ pat3).1.1 = 0 := by kernel_rfl
 have h2 : (parseZ pat3).2 = 3 := by kernel_rfl
 rw [← h1, ← h2]
abbrev pat4 : ByteArray := ⟨#[40, 97]⟩
theorem pat4_z : parseZ pat4 = ((0, (parseZ pat4).1.2), 3) := by
 have h1 : (parseZ pat4).1.1 = 0 := by kernel_rfl
 have h2 : (parseZ pat4).2 = 3 := by kernel_rfl
 rw [← h1, ← h2]
abbrev pat5 : ByteArray := ⟨#[92, 49]⟩
theorem pat5_z : parseZ pat5 = ((0, (parseZ pat5).1.2), 6) := by
 have h1 : (parseZ pat5).1.1 = 0 := by kernel_rfl
 have h2 : (parseZ pat5).2 = 6 := by kernel_rfl
 rw [← h1, ← h2]
abbrev pat6 : ByteArray := ⟨#[40, 63, 60, 61, 97, 42, 41]⟩
theorem pat6_z : parseZ pat6 = ((0, (parseZ pat6).1.2), 7) := by
 have h1 : (parseZ pat6).1.1 = 0 := by kernel_rfl
 have h2 : (parseZ pat6).2 = 7 := by kernel_rfl
 rw [← h1, ← h2]
abbrev pat7 : ByteArray := ⟨#[97, 123, 49, 48, 49, 125]⟩
theorem pat7_z : parseZ pat7 = ((0, (parseZ pat7).1.2), 4) := by
 have h1 : (parseZ pat7).1.1 = 0 := by kernel_rfl
 have h2 : (parseZ pat7).2 = 4 := by kernel_rfl
 rw [← h1, ← h2]
abbrev pat8 : ByteArray := ⟨#[]⟩
theorem pat8_z : parseZ pat8 = ((1, (parseZ pat8).1.2), 0) := by
 have h1 : (parseZ pat8).1.1 = 1 := by kernel_rfl
 have h2 : (parseZ pat8).2 = 0 := by kernel_rfl
 rw [← h1, ← h2]
theorem parse_at (K : PKit) (p : ByteArray) (n : Nat) (z : Int) (L : Nat → Nd) (h : parseZ p = ((n, L), z)) (w : World) (hw : Tabs w) : Calls Tryz.prog 10 #[.string p] w fun e w' => ∃ B cap, e = .returned (.tuple #[.agg (trC B n cap), .int .i64 z]) ∧ TreeAt w w' B cap (n, L) ∧ Below w.heap.size w w' := by
 have hc := parse_any K p w hw
 unfold GotTree at hc
 rw [h] at hc
 exact hc
set_option maxHeartbeats 1000000 in
theorem lit_any (c : Int) (w : World) (h0 : 0 ≤ c) (h1 : c < 256) : Calls Tryz.prog 29 #[.int .u8 c] w fun e w' => e = .returned (ndV (setN (addB 0#256 c.toNat))) ∧ Below w.heap.size w w' := by
 have HN : Hid (BoxV 44 (w.alloc (.cells (ndC (nd0 0)) 44)) w.heap.size (ndC (nd0 0))) := Lib.hid (BoxV.new _ _)
 have HO := Lib.hid (fun w => one_any c w h0 h1)
 clear h0 h1
 obtain ⟨S, hS⟩ : ∃ S, S = addB 0#256 c.toNat := ⟨_, rfl⟩
 rw [← hS] at HO ⊢
 clear hS
 go_enter Tryz.func29, Tryz.ntmps29
 go_wp2_with fail
 refine (HO.out _).mono ?_
 rintro e w1 ⟨rfl, hb⟩
 have HN1 := Lib.hid (HN.out.below hb HN.out.lt)
 have HB1 := Lib.hid (((Below.refl w.heap.size w).alloc (Nat.le_refl _) (.cells (ndC (nd0 0)) 44)).trans (hb.mono (by simp)))
 clear hb
 go_wp2_with (refine storeNd rfl _ _ rfl w.heap.size (nd0 0) (setN S) rfl _ rfl rfl HN1.out ?_)
 refine bodyPost_ret (resNd (p := 2) (v := setN S) rfl _ (g := w.heap.size) rfl (HN1.out.rowSame _)) rfl ?_
 exact ⟨rfl, below_row HB1.out (Nat.le_refl _) _⟩
theorem loadT7 {ops : Array Oper} {o : Oper} {a : Act} {x : Operand} {R : World → Prop} (g : Nat) (A : Option Addr) (n cap : Nat) (hR : ∀ u, R u → BoxV 24 u g (trC A n cap)) (ho : o.op = .load 24 x) (hx : a.eval x = .pointer (some ⟨g, 0, none⟩)) (hw : Region.wanted o (yielded ops a.tmps) = true) : YieldsIf Tryz.prog ops R o (.agg (trC A n cap)) a :=
 Or.inl ⟨hw, fun _ h => loadTr_run g A n cap (hR _ h) ho hx⟩
theorem storeNewTrN {ops : Array Oper} {rest : List Oper} {o : Oper} {a : Act} {w : World} {Q : Exit → Act → World → Prop} (hgd : o.guard = none) (x y : Operand) (ho : o.op = .store 24 x y) (wr : World) (N : Nat) (hN : wr.heap.size = N) (A : Option Addr) (n cap : Nat) (hx : a.eval x = .pointer (some ⟨N, 0, none⟩)) (hy : a.eval y = .agg (trC A n cap)) (hw : w = wr.alloc (.cells (trC none 0 0) 24))
  (h : ∀ u : World, Hid (BoxV 24 u N (trC A n cap)) → Hid (Below N wr u) → wpList Tryz.prog ops Q rest (a.put o.dst undef) u) : wpList Tryz.prog ops Q (o :: rest) a w := by
 subst hN
 exact storeNewTr hgd x y ho wr A n cap hx hy hw h
def rowN (l : List Nd) : Array Value := (l.flatMap fun x => (ndC x).toList).toArray
def atN (l : List Nd) (i : Nat) : Nd := l.getD i (nd0 0)
theorem cells_atN : ∀ (l : List Nd), Ast.cellsL (atN l) l.length = l.flatMap fun x => (ndC x).toList := by
 intro l
 unfold Ast.cellsL
 rw [← List.flatMap_map (f := fun i => atN l i) (g := fun x => Ast.ndC x)]
 have : (List.range l.length).map (atN l) = l := by
  apply List.ext_getElem
  ·simp
  ·intro i h1 h2
   simp [atN, List.getD_eq_getElem?_getD, List.getElem?_eq_getElem h2]
 rw [this]
 rfl
theorem nodes_row (w : World) (l : List Nd) (hl : l.length ≤ 1000) (cs : Array Value) (hcs : cs = rowN l) (hs : cs.size = l.length * 12) : Nodes (w.alloc (.cells cs 44)) (some ⟨w.heap.size, 0, none⟩) l.length (atN l) := by
 have h := World.ownsRow_lit (base := w.heap.size) (e := 44) (size := 12) w cs l.length (Nat.le_refl _) (by unfold maxLen; omega) hs
 rw [show cs.toList = Ast.cellsL (atN l) l.length by rw [cells_atN, hcs]; rfl] at h
 obtain ⟨A, cap, he, -, hn, -⟩ := Ast.own_nodes h
 cases he
 exact hn
abbrev wantL : List Nd := [setN (addB 0#256 97), setN (addB 0#256 98), setN (addB 0#256 99), { nd0 8 with a := 1, b := 2 }, { nd0 9 with a := 0, b := 3 }]
abbrev foldL : List Nd := [setN (ofBytes [97, 65]), { nd0 11 with n := 1 }, { nd0 12 with n := 1, f := true }, { nd0 8 with a := 1, b := 2 }]
theorem same_1 : Ast.sameZ (parseZ pat1).1.2 5 (atN wantL) 5 = true := by kernel_rfl
theorem same_2 : Ast.sameZ (parseZ pat2).1.2 4 (atN foldL) 4 = true := by kernel_rfl
theorem same_8 : Ast.sameZ (parseZ pat8).1.2 1 (fun _ => nd0 0) 1 = true := by kernel_rfl
set_option maxRecDepth 100000 in
set_option maxHeartbeats 32000000 in
theorem fixed_any (K : PKit) (w : World) (hw : Tabs w) : Calls Tryz.prog 14 #[] w fun e w' => e = .returned (.bool true) ∧ Below w.heap.size w w' := by
 have HP1 := Lib.hid (fun u hu => parse_at K pat1 5 0 _ pat1_z u hu)
 have HP2 := Lib.hid (fun u hu => parse_at K pat2 4 0 _ pat2_z u hu)
 have HP3 := Lib.hid (fun u hu => parse_at K pat3 0 3 _ pat3_z u hu)
 have HP4 := Lib.hid (fun u hu => parse_at K pat4 0 3 _ pat4_z u hu)
 have HP5 := Lib.hid (fun u hu => parse_at K pat5 0 6 _ pat5_z u hu)
 have HP6 := Lib.hid (fun u hu => parse_at K pat6 0 7 _ pat6_z u hu)
 have HP7 := Lib.hid (fun u hu => parse_at K pat7 0 4 _ pat7_z u hu)
 have HP8 := Lib.hid (fun u hu => parse_at K pat8 1 0 _ pat8_z u hu)
 have HE1 := Lib.hid same_1
 obtain ⟨L1, hL1⟩ : ∃ L, L = (parseZ pat1).1.2 := ⟨_, rfl⟩
 rw [← hL1] at HE1 HP1
 clear hL1
 have HE2 := Lib.hid same_2
 obtain ⟨L2, hL2⟩ : ∃ L, L = (parseZ pat2).1.2 := ⟨_, rfl⟩
 rw [← hL2] at HE2 HP2
 clear hL2
 have HE8 := Lib.hid same_8
 obtain ⟨L8, hL8⟩ : ∃ L, L = (parseZ pat8).1.2 := ⟨_, rfl⟩
 rw [← hL8] at HE8 HP8
 clear hL8
 have HT := Lib.hid hw
 clear hw K
 go_enter Tryz.func14, Tryz.ntmps14
 have HB0 := Lib.hid (Below.refl w.heap.size w)
 go_wp2_with fail
 with_reducible refine (HP1.out _ (HT.out.call HB0.out)).mono ?_
 rintro e w1 ⟨B1, cap1, rfl, ht, hb⟩
 have HNn := Lib.hid ht.nodes
 have HB1 := Lib.hid (thenB HB0.out hb HB0.out.size)
 clear HB0
 have HB0 := HB1
 clear HB1 ht
 clear hb
 go_wp2_with (refine storeNewTr rfl _ _ rfl w1 B1 5 cap1 rfl rfl rfl ?_; intro v1 hx hN; refine stopP ?_)
 unfold StopP
 have HB1 := Lib.hid (thenB HB0.out hN.out HB0.out.size)
 clear HB0
 have HB0 := HB1
 clear HB1
 have HX1 := Lib.hid hx.out
 have HN1 := Lib.hid (HNn.out.below hN.out (Nat.le_refl _))
 clear hx hN HNn HP1
 go_wp2_with fail
 with_reducible refine (HP2.out _ (HT.out.call HB0.out)).mono ?_
 rintro e w2 ⟨B2, cap2, rfl, ht, hb⟩
 have HNn := Lib.hid ht.nodes
 have HB1 := Lib.hid (thenB HB0.out hb HB0.out.size)
 clear HB0
 have HB0 := HB1
 clear HB1 ht
 have HX1 := Lib.hid (HX1.out.below hb HX1.out.lt)
 have HN1 := Lib.hid (HN1.out.below hb (Nat.le_refl _))
 clear hb
 go_wp2_with (refine storeNewTr rfl _ _ rfl w2 B2 4 cap2 rfl rfl rfl ?_; intro v2 hx hN; refine stopP ?_)
 unfold StopP
 have HX1 := Lib.hid (HX1.out.below hN.out HX1.out.lt)
 have HN1 := Lib.hid (HN1.out.below hN.out (Nat.le_refl _))
 have HB1 := Lib.hid (thenB HB0.out hN.out HB0.out.size)
 clear HB0
 have HB0 := HB1
 clear HB1
 have HX2 := Lib.hid hx.out
 have HN2 := Lib.hid (HNn.out.below hN.out (Nat.le_refl _))
 clear hx hN HNn HP2
 go_wp2_with fail
 with_reducible refine (HP3.out _ (HT.out.call HB0.out)).mono ?_
 rintro e w3 ⟨B3, cap3, rfl, ht, hb⟩
 have HNn := Lib.hid ht.nodes
 have HB1 := Lib.hid (thenB HB0.out hb HB0.out.size)
 clear HB0
 have HB0 := HB1
 clear HB1 ht
 have HX1 := Lib.hid (HX1.out.below hb HX1.out.lt)
 have HN1 := Lib.hid (HN1.out.below hb (Nat.le_refl _))
 have HX2 := Lib.hid (HX2.out.below hb HX2.out.lt)
 have HN2 := Lib.hid (HN2.out.below hb (Nat.le_refl _))
 clear hb
 go_wp2_with (refine storeNewTr rfl _ _ rfl w3 B3 0 cap3 rfl rfl rfl ?_; intro v3 hx hN; refine stopP ?_)
 unfold StopP
 have HX1 := Lib.hid (HX1.out.below hN.out HX1.out.lt)
 have HN1 := Lib.hid (HN1.out.below hN.out (Nat.le_refl _))
 have HX2 := Lib.hid (HX2.out.below hN.out HX2.out.lt)
 have HN2 := Lib.hid (HN2.out.below hN.out (Nat.le_refl _))
 have HB1 := Lib.hid (thenB HB0.out hN.out HB0.out.size)
 clear HB0
 have HB0 := HB1
 clear HB1
 clear hx hN HNn HP3
 go_wp2_with fail
 with_reducible refine (HP4.out _ (HT.out.call HB0.out)).mono ?_
 rintro e w4 ⟨B4, cap4, rfl, ht, hb⟩
 have HNn := Lib.hid ht.nodes
 have HB1 := Lib.hid (thenB HB0.out hb HB0.out.size)
 clear HB0
 have HB0 := HB1
 clear HB1 ht
 have HX1 := Lib.hid (HX1.out.below hb HX1.out.lt)
 have HN1 := Lib.hid (HN1.out.below hb (Nat.le_refl _))
 have HX2 := Lib.hid (HX2.out.below hb HX2.out.lt)
 have HN2 := Lib.hid (HN2.out.below hb (Nat.le_refl _))
 clear hb
 go_wp2_with (refine storeNewTr rfl _ _ rfl w4 B4 0 cap4 rfl rfl rfl ?_; intro v4 hx hN; refine stopP ?_)
 unfold StopP
 have HX1 := Lib.hid (HX1.out.below hN.out HX1.out.lt)
 have HN1 := Lib.hid (HN1.out.below hN.out (Nat.le_refl _))
 have HX2 := Lib.hid (HX2.out.below hN.out HX2.out.lt)
 have HN2 := Lib.hid (HN2.out.below hN.out (Nat.le_refl _))
 have HB1 := Lib.hid (thenB HB0.out hN.out HB0.out.size)
 clear HB0
 have HB0 := HB1
 clear HB1
 clear hx hN HNn HP4
 go_wp2_with fail
 with_reducible refine (HP5.out _ (HT.out.call HB0.out)).mono ?_
 rintro e w5 ⟨B5, cap5, rfl, ht, hb⟩
 have HNn := Lib.hid ht.nodes
 have HB1 := Lib.hid (thenB HB0.out hb HB0.out.size)
 clear HB0
 have HB0 := HB1
 clear HB1 ht
 have HX1 := Lib.hid (HX1.out.below hb HX1.out.lt)
 have HN1 := Lib.hid (HN1.out.below hb (Nat.le_refl _))
 have HX2 := Lib.hid (HX2.out.below hb HX2.out.lt)
 have HN2 := Lib.hid (HN2.out.below hb (Nat.le_refl _))
 clear hb
 go_wp2_with (refine storeNewTr rfl _ _ rfl w5 B5 0 cap5 rfl rfl rfl ?_; intro v5 hx hN; refine stopP ?_)
 unfold StopP
 have HX1 := Lib.hid (HX1.out.below hN.out HX1.out.lt)
 have HN1 := Lib.hid (HN1.out.below hN.out (Nat.le_refl _))
 have HX2 := Lib.hid (HX2.out.below hN.out HX2.out.lt)
 have HN2 := Lib.hid (HN2.out.below hN.out (Nat.le_refl _))
 have HB1 := Lib.hid (thenB HB0.out hN.out HB0.out.size)
 clear HB0
 have HB0 := HB1
 clear HB1
 clear hx hN HNn HP5
 go_wp2_with fail
 with_reducible refine (HP6.out _ (HT.out.call HB0.out)).mono ?_
 rintro e w6 ⟨B6, cap6, rfl, ht, hb⟩
 have HNn := Lib.hid ht.nodes
 have HB1 := Lib.hid (thenB HB0.out hb HB0.out.size)
 clear HB0
 have HB0 := HB1
 clear HB1 ht
 have HX1 := Lib.hid (HX1.out.below hb HX1.out.lt)
 have HN1 := Lib.hid (HN1.out.below hb (Nat.le_refl _))
 have HX2 := Lib.hid (HX2.out.below hb HX2.out.lt)
 have HN2 := Lib.hid (HN2.out.below hb (Nat.le_refl _))
 clear hb
 go_wp2_with (refine storeNewTr rfl _ _ rfl w6 B6 0 cap6 rfl rfl rfl ?_; intro v6 hx hN; refine stopP ?_)
 unfold StopP
 have HX1 := Lib.hid (HX1.out.below hN.out HX1.out.lt)
 have HN1 := Lib.hid (HN1.out.below hN.out (Nat.le_refl _))
 have HX2 := Lib.hid (HX2.out.below hN.out HX2.out.lt)
 have HN2 := Lib.hid (HN2.out.below hN.out (Nat.le_refl _))
 have HB1 := Lib.hid (thenB HB0.out hN.out HB0.out.size)
 clear HB0
 have HB0 := HB1
 clear HB1
 clear hx hN HNn HP6
 go_wp2_with fail
 with_reducible refine (HP7.out _ (HT.out.call HB0.out)).mono ?_
 rintro e w7 ⟨B7, cap7, rfl, ht, hb⟩
 have HNn := Lib.hid ht.nodes
 have HB1 := Lib.hid (thenB HB0.out hb HB0.out.size)
 clear HB0
 have HB0 := HB1
 clear HB1 ht
 have HX1 := Lib.hid (HX1.out.below hb HX1.out.lt)
 have HN1 := Lib.hid (HN1.out.below hb (Nat.le_refl _))
 have HX2 := Lib.hid (HX2.out.below hb HX2.out.lt)
 have HN2 := Lib.hid (HN2.out.below hb (Nat.le_refl _))
 clear hb
 go_wp2_with (refine storeNewTr rfl _ _ rfl w7 B7 0 cap7 rfl rfl rfl ?_; intro v7 hx hN; refine stopP ?_)
 unfold StopP
 have HX1 := Lib.hid (HX1.out.below hN.out HX1.out.lt)
 have HN1 := Lib.hid (HN1.out.below hN.out (Nat.le_refl _))
 have HX2 := Lib.hid (HX2.out.below hN.out HX2.out.lt)
 have HN2 := Lib.hid (HN2.out.below hN.out (Nat.le_refl _))
 have HB1 := Lib.hid (thenB HB0.out hN.out HB0.out.size)
 clear HB0
 have HB0 := HB1
 clear HB1
 clear hx hN HNn HP7
 go_wp2_with fail
 with_reducible refine (HP8.out _ (HT.out.call HB0.out)).mono ?_
 rintro e w8 ⟨B8, cap8, rfl, ht, hb⟩
 have HNn := Lib.hid ht.nodes
 have HB1 := Lib.hid (thenB HB0.out hb HB0.out.size)
 clear HB0
 have HB0 := HB1
 clear HB1 ht
 have HX1 := Lib.hid (HX1.out.below hb HX1.out.lt)
 have HN1 := Lib.hid (HN1.out.below hb (Nat.le_refl _))
 have HX2 := Lib.hid (HX2.out.below hb HX2.out.lt)
 have HN2 := Lib.hid (HN2.out.below hb (Nat.le_refl _))
 clear hb
 go_wp2_with (refine storeNewTr rfl _ _ rfl w8 B8 1 cap8 rfl rfl rfl ?_; intro v8 hx hN; refine stopP ?_)
 unfold StopP
 have HX1 := Lib.hid (HX1.out.below hN.out HX1.out.lt)
 have HN1 := Lib.hid (HN1.out.below hN.out (Nat.le_refl _))
 have HX2 := Lib.hid (HX2.out.below hN.out HX2.out.lt)
 have HN2 := Lib.hid (HN2.out.below hN.out (Nat.le_refl _))
 have HB1 := Lib.hid (thenB HB0.out hN.out HB0.out.size)
 clear HB0
 have HB0 := HB1
 clear HB1
 have HX8 := Lib.hid hx.out
 have HN8 := Lib.hid (HNn.out.below hN.out (Nat.le_refl _))
 clear hx hN HNn HP8
 go_wp2_with fail
 refine (lit_any 97 _ (by decide) (by decide)).mono ?_
 rintro e w9a ⟨rfl, hb⟩
 have HB1 := Lib.hid (thenB HB0.out hb HB0.out.size)
 clear HB0
 have HB0 := HB1
 clear HB1
 have HX1 := Lib.hid (HX1.out.below hb HX1.out.lt)
 have HN1 := Lib.hid (HN1.out.below hb (Nat.le_refl _))
 have HX2 := Lib.hid (HX2.out.below hb HX2.out.lt)
 have HN2 := Lib.hid (HN2.out.below hb (Nat.le_refl _))
 have HX8 := Lib.hid (HX8.out.below hb HX8.out.lt)
 have HN8 := Lib.hid (HN8.out.below hb (Nat.le_refl _))
 clear hb
 go_wp2_with fail
 refine (lit_any 98 _ (by decide) (by decide)).mono ?_
 rintro e w9b ⟨rfl, hb⟩
 have HB1 := Lib.hid (thenB HB0.out hb HB0.out.size)
 clear HB0
 have HB0 := HB1
 clear HB1
 have HX1 := Lib.hid (HX1.out.below hb HX1.out.lt)
 have HN1 := Lib.hid (HN1.out.below hb (Nat.le_refl _))
 have HX2 := Lib.hid (HX2.out.below hb HX2.out.lt)
 have HN2 := Lib.hid (HN2.out.below hb (Nat.le_refl _))
 have HX8 := Lib.hid (HX8.out.below hb HX8.out.lt)
 have HN8 := Lib.hid (HN8.out.below hb (Nat.le_refl _))
 clear hb
 go_wp2_with fail
 refine (lit_any 99 _ (by decide) (by decide)).mono ?_
 rintro e w9c ⟨rfl, hb⟩
 have HB1 := Lib.hid (thenB HB0.out hb HB0.out.size)
 clear HB0
 have HB0 := HB1
 clear HB1
 have HX1 := Lib.hid (HX1.out.below hb HX1.out.lt)
 have HN1 := Lib.hid (HN1.out.below hb (Nat.le_refl _))
 have HX2 := Lib.hid (HX2.out.below hb HX2.out.lt)
 have HN2 := Lib.hid (HN2.out.below hb (Nat.le_refl _))
 have HX8 := Lib.hid (HX8.out.below hb HX8.out.lt)
 have HN8 := Lib.hid (HN8.out.below hb (Nat.le_refl _))
 clear hb
 go_wp2_with (refine storeNewTrN rfl _ _ rfl (World.alloc w9c (.cells (rowN wantL) 44)) (w9c.heap.size + 1) (by simp) (some ⟨w9c.heap.size, 0, none⟩) 5 5 rfl rfl rfl ?_; intro v9 hx hN; refine stopP ?_)
 unfold StopP
 have hb : Below w9c.heap.size w9c v9 := ((Below.refl _ w9c).alloc (Nat.le_refl _) (.cells (rowN wantL) 44)).trans (hN.out.mono (by omega))
 have HB1 := Lib.hid (thenB HB0.out hb HB0.out.size)
 clear HB0
 have HB0 := HB1
 clear HB1
 have HX1 := Lib.hid (HX1.out.below hb HX1.out.lt)
 have HN1 := Lib.hid (HN1.out.below hb (Nat.le_refl _))
 have HX2 := Lib.hid (HX2.out.below hb HX2.out.lt)
 have HN2 := Lib.hid (HN2.out.below hb (Nat.le_refl _))
 have HX8 := Lib.hid (HX8.out.below hb HX8.out.lt)
 have HN8 := Lib.hid (HN8.out.below hb (Nat.le_refl _))
 have HN9 := Lib.hid ((nodes_row w9c wantL (by decide) (rowN wantL) rfl (by rfl)).below hN.out (by simp))
 have HX9 := Lib.hid hx.out
 clear hx hN hb
 go_wp2_with fail
 refine (of_any ⟨#[97, 65]⟩ _ (by decide)).mono ?_
 rintro e w10 ⟨rfl, hb⟩
 have HB1 := Lib.hid (thenB HB0.out hb HB0.out.size)
 clear HB0
 have HB0 := HB1
 clear HB1
 have HX1 := Lib.hid (HX1.out.below hb HX1.out.lt)
 have HN1 := Lib.hid (HN1.out.below hb (Nat.le_refl _))
 have HX2 := Lib.hid (HX2.out.below hb HX2.out.lt)
 have HN2 := Lib.hid (HN2.out.below hb (Nat.le_refl _))
 have HX8 := Lib.hid (HX8.out.below hb HX8.out.lt)
 have HN8 := Lib.hid (HN8.out.below hb (Nat.le_refl _))
 have HX9 := Lib.hid (HX9.out.below hb HX9.out.lt)
 have HN9 := Lib.hid (HN9.out.below hb (Nat.le_refl _))
 clear hb
 go_wp2_with (refine storeNewTrN rfl _ _ rfl (World.alloc w10 (.cells (rowN foldL) 44)) (w10.heap.size + 1) (by simp) (some ⟨w10.heap.size, 0, none⟩) 4 4 rfl rfl rfl ?_; intro v10 hx hN; refine stopP ?_)
 unfold StopP
 have hb : Below w10.heap.size w10 v10 := ((Below.refl _ w10).alloc (Nat.le_refl _) (.cells (rowN foldL) 44)).trans (hN.out.mono (by omega))
 have HB1 := Lib.hid (thenB HB0.out hb HB0.out.size)
 clear HB0
 have HB0 := HB1
 clear HB1
 have HX1 := Lib.hid (HX1.out.below hb HX1.out.lt)
 have HN1 := Lib.hid (HN1.out.below hb (Nat.le_refl _))
 have HX2 := Lib.hid (HX2.out.below hb HX2.out.lt)
 have HN2 := Lib.hid (HN2.out.below hb (Nat.le_refl _))
 have HX8 := Lib.hid (HX8.out.below hb HX8.out.lt)
 have HN8 := Lib.hid (HN8.out.below hb (Nat.le_refl _))
 have HX9 := Lib.hid (HX9.out.below hb HX9.out.lt)
 have HN9 := Lib.hid (HN9.out.below hb (Nat.le_refl _))
 have HN10 := Lib.hid ((nodes_row w10 foldL (by decide) (rowN foldL) rfl (by rfl)).below hN.out (by simp))
 have HX10 := Lib.hid hx.out
 clear hx hN hb
 go_wp2_with fail
 refine wp_region_held_drew (S := fun u => Below v10.heap.size v10 u) (by kernel_rfl) (show _ from (Below.refl _ v10).drew) (fun hS => ?_)
 generalize World.drew v10 = u0 at hS ⊢
 refine takeAt 0 65 (.agg (trC B1 5 cap1)) rfl rfl (by kernel_rfl) (by kernel_rfl) (by kernel_rfl) (fun _ _ _ h => h) (loadT7 (w1.heap.size) B1 5 cap1 (fun _ h => HX1.out.below h HX1.out.lt) rfl rfl (by rfl)) hS ?_
 simp only [Act.put, List.setIfInBounds_toArray, List.set_cons_zero, List.set_cons_succ]
 refine takeAt 1 66 (.agg (trC (some ⟨w9c.heap.size, 0, none⟩) 5 5)) rfl rfl (by kernel_rfl) (by kernel_rfl) (by kernel_rfl) (fun _ _ _ h => h) (loadT7 (w9c.heap.size + 1) (some ⟨w9c.heap.size, 0, none⟩) 5 5 (fun _ h => HX9.out.below h HX9.out.lt) rfl rfl (by rfl)) hS ?_
 simp only [Act.put, List.setIfInBounds_toArray, List.set_cons_zero, List.set_cons_succ]
 have hc := Ast.same_any B1 (some ⟨w9c.heap.size, 0, none⟩) 5 5 cap1 5 L1 (atN wantL) _ (by decide) (by decide) (HN1.out.below hS (Nat.le_refl _)) (HN9.out.below hS (Nat.le_refl _))
 rw [HE1.out] at hc
 refine callAt 2 67 rfl rfl (by kernel_rfl) (by rfl) (by kernel_rfl) hc ?_
 clear hc
 rintro e u' ⟨rfl, hb⟩
 have hS := thenB hS hb hS.size
 clear hb
 refine ⟨_, rfl, hS, ?_⟩
 simp only [Act.put, List.setIfInBounds_toArray, List.set_cons_zero, List.set_cons_succ]
 refine takeAt 3 68 (.bool true) rfl rfl (by kernel_rfl) (by kernel_rfl) (by kernel_rfl) (fun _ _ _ h => h) (yields (by rfl) (fun w => by kernel_rfl)) hS ?_
 simp only [Act.put, List.setIfInBounds_toArray, List.set_cons_zero, List.set_cons_succ]
 refine takeAt 4 69 (.int .i64 0) rfl rfl (by kernel_rfl) (by kernel_rfl) (by kernel_rfl) (fun _ _ _ h => h) (yields (by rfl) (fun w => by kernel_rfl)) hS ?_
 simp only [Act.put, List.setIfInBounds_toArray, List.set_cons_zero, List.set_cons_succ]
 refine takeAt 5 70 (.bool true) rfl rfl (by kernel_rfl) (by kernel_rfl) (by kernel_rfl) (fun _ _ _ h => h) (yields (by rfl) (fun w => by kernel_rfl)) hS ?_
 simp only [Act.put, List.setIfInBounds_toArray, List.set_cons_zero, List.set_cons_succ]
 refine takeAt 6 71 (.bool true) rfl rfl (by kernel_rfl) (by kernel_rfl) (by kernel_rfl) (fun _ _ _ h => h) (yields (by rfl) (fun w => by kernel_rfl)) hS ?_
 simp only [Act.put, List.setIfInBounds_toArray, List.set_cons_zero, List.set_cons_succ]
 refine takeAt 7 72 (.bool true) rfl rfl (by kernel_rfl) (by kernel_rfl) (by kernel_rfl) (fun _ _ _ h => h) (yields (by rfl) (fun w => by kernel_rfl)) hS ?_
 simp only [Act.put, List.setIfInBounds_toArray, List.set_cons_zero, List.set_cons_succ]
 refine takeAt 8 73 (.agg (trC B2 4 cap2)) rfl rfl (by kernel_rfl) (by kernel_rfl) (by kernel_rfl) (fun _ _ _ h => h) (loadT7 (w2.heap.size) B2 4 cap2 (fun _ h => HX2.out.below h HX2.out.lt) rfl rfl (by rfl)) hS ?_
 simp only [Act.put, List.setIfInBounds_toArray, List.set_cons_zero, List.set_cons_succ]
 refine takeAt 9 74 (.agg (trC (some ⟨w10.heap.size, 0, none⟩) 4 4)) rfl rfl (by kernel_rfl) (by kernel_rfl) (by kernel_rfl) (fun _ _ _ h => h) (loadT7 (w10.heap.size + 1) (some ⟨w10.heap.size, 0, none⟩) 4 4 (fun _ h => HX10.out.below h HX10.out.lt) rfl rfl (by rfl)) hS ?_
 simp only [Act.put, List.setIfInBounds_toArray, List.set_cons_zero, List.set_cons_succ]
 have hc := Ast.same_any B2 (some ⟨w10.heap.size, 0, none⟩) 4 4 cap2 4 L2 (atN foldL) _ (by decide) (by decide) (HN2.out.below hS (Nat.le_refl _)) (HN10.out.below hS (Nat.le_refl _))
 rw [HE2.out] at hc
 refine callAt 10 75 rfl rfl (by kernel_rfl) (by rfl) (by kernel_rfl) hc ?_
 clear hc
 rintro e u' ⟨rfl, hb⟩
 have hS := thenB hS hb hS.size
 clear hb
 refine ⟨_, rfl, hS, ?_⟩
 simp only [Act.put, List.setIfInBounds_toArray, List.set_cons_zero, List.set_cons_succ]
 refine takeAt 11 76 (.bool true) rfl rfl (by kernel_rfl) (by kernel_rfl) (by kernel_rfl) (fun _ _ _ h => h) (yields (by rfl) (fun w => by kernel_rfl)) hS ?_
 simp only [Act.put, List.setIfInBounds_toArray, List.set_cons_zero, List.set_cons_succ]
 as_aux_lemma =>
  refine takeAt 12 77 (.bool true) rfl rfl (by kernel_rfl) (by kernel_rfl) (by kernel_rfl) (fun _ _ _ h => h) (yields (by rfl) (fun w => by kernel_rfl)) hS ?_
  simp only [Act.put, List.setIfInBounds_toArray, List.set_cons_zero, List.set_cons_succ]
  refine takeAt 13 78 (.int .i64 0) rfl rfl (by kernel_rfl) (by kernel_rfl) (by kernel_rfl) (fun _ _ _ h => h) (yields (by rfl) (fun w => by kernel_rfl)) hS ?_
  simp only [Act.put, List.setIfInBounds_toArray, List.set_cons_zero, List.set_cons_succ]
  refine takeAt 14 79 (.bool true) rfl rfl (by kernel_rfl) (by kernel_rfl) (by kernel_rfl) (fun _ _ _ h => h) (yields (by rfl) (fun w => by kernel_rfl)) hS ?_
  simp only [Act.put, List.setIfInBounds_toArray, List.set_cons_zero, List.set_cons_succ]
  refine takeAt 15 80 (.bool true) rfl rfl (by kernel_rfl) (by kernel_rfl) (by kernel_rfl) (fun _ _ _ h => h) (yields (by rfl) (fun w => by kernel_rfl)) hS ?_
  simp only [Act.put, List.setIfInBounds_toArray, List.set_cons_zero, List.set_cons_succ]
  refine takeAt 16 81 (.bool true) rfl rfl (by kernel_rfl) (by kernel_rfl) (by kernel_rfl) (fun _ _ _ h => h) (yields (by rfl) (fun w => by kernel_rfl)) hS ?_
  simp only [Act.put, List.setIfInBounds_toArray, List.set_cons_zero, List.set_cons_succ]
  refine takeAt 17 82 (.int .i64 3) rfl rfl (by kernel_rfl) (by kernel_rfl) (by kernel_rfl) (fun _ _ _ h => h) (yields (by rfl) (fun w => by kernel_rfl)) hS ?_
  simp only [Act.put, List.setIfInBounds_toArray, List.set_cons_zero, List.set_cons_succ]
  refine takeAt 18 83 (.bool true) rfl rfl (by kernel_rfl) (by kernel_rfl) (by kernel_rfl) (fun _ _ _ h => h) (yields (by rfl) (fun w => by kernel_rfl)) hS ?_
  simp only [Act.put, List.setIfInBounds_toArray, List.set_cons_zero, List.set_cons_succ]
  refine takeAt 19 84 (.bool true) rfl rfl (by kernel_rfl) (by kernel_rfl) (by kernel_rfl) (fun _ _ _ h => h) (yields (by rfl) (fun w => by kernel_rfl)) hS ?_
  simp only [Act.put, List.setIfInBounds_toArray, List.set_cons_zero, List.set_cons_succ]
  refine takeAt 20 85 (.bool true) rfl rfl (by kernel_rfl) (by kernel_rfl) (by kernel_rfl) (fun _ _ _ h => h) (yields (by rfl) (fun w => by kernel_rfl)) hS ?_
  simp only [Act.put, List.setIfInBounds_toArray, List.set_cons_zero, List.set_cons_succ]
  refine takeAt 21 86 (.int .i64 3) rfl rfl (by kernel_rfl) (by kernel_rfl) (by kernel_rfl) (fun _ _ _ h => h) (yields (by rfl) (fun w => by kernel_rfl)) hS ?_
  simp only [Act.put, List.setIfInBounds_toArray, List.set_cons_zero, List.set_cons_succ]
  refine takeAt 22 87 (.bool true) rfl rfl (by kernel_rfl) (by kernel_rfl) (by kernel_rfl) (fun _ _ _ h => h) (yields (by rfl) (fun w => by kernel_rfl)) hS ?_
  simp only [Act.put, List.setIfInBounds_toArray, List.set_cons_zero, List.set_cons_succ]
  refine takeAt 23 88 (.bool true) rfl rfl (by kernel_rfl) (by kernel_rfl) (by kernel_rfl) (fun _ _ _ h => h) (yields (by rfl) (fun w => by kernel_rfl)) hS ?_
  simp only [Act.put, List.setIfInBounds_toArray, List.set_cons_zero, List.set_cons_succ]
  as_aux_lemma =>
   refine takeAt 24 89 (.bool true) rfl rfl (by kernel_rfl) (by kernel_rfl) (by kernel_rfl) (fun _ _ _ h => h) (yields (by rfl) (fun w => by kernel_rfl)) hS ?_
   simp only [Act.put, List.setIfInBounds_toArray, List.set_cons_zero, List.set_cons_succ]
   refine takeAt 25 90 (.int .i64 6) rfl rfl (by kernel_rfl) (by kernel_rfl) (by kernel_rfl) (fun _ _ _ h => h) (yields (by rfl) (fun w => by kernel_rfl)) hS ?_
   simp only [Act.put, List.setIfInBounds_toArray, List.set_cons_zero, List.set_cons_succ]
   refine takeAt 26 91 (.bool true) rfl rfl (by kernel_rfl) (by kernel_rfl) (by kernel_rfl) (fun _ _ _ h => h) (yields (by rfl) (fun w => by kernel_rfl)) hS ?_
   simp only [Act.put, List.setIfInBounds_toArray, List.set_cons_zero, List.set_cons_succ]
   refine takeAt 27 92 (.bool true) rfl rfl (by kernel_rfl) (by kernel_rfl) (by kernel_rfl) (fun _ _ _ h => h) (yields (by rfl) (fun w => by kernel_rfl)) hS ?_
   simp only [Act.put, List.setIfInBounds_toArray, List.set_cons_zero, List.set_cons_succ]
   refine takeAt 28 93 (.bool true) rfl rfl (by kernel_rfl) (by kernel_rfl) (by kernel_rfl) (fun _ _ _ h => h) (yields (by rfl) (fun w => by kernel_rfl)) hS ?_
   simp only [Act.put, List.setIfInBounds_toArray, List.set_cons_zero, List.set_cons_succ]
   refine takeAt 29 94 (.int .i64 7) rfl rfl (by kernel_rfl) (by kernel_rfl) (by kernel_rfl) (fun _ _ _ h => h) (yields (by rfl) (fun w => by kernel_rfl)) hS ?_
   simp only [Act.put, List.setIfInBounds_toArray, List.set_cons_zero, List.set_cons_succ]
   refine takeAt 30 95 (.bool true) rfl rfl (by kernel_rfl) (by kernel_rfl) (by kernel_rfl) (fun _ _ _ h => h) (yields (by rfl) (fun w => by kernel_rfl)) hS ?_
   simp only [Act.put, List.setIfInBounds_toArray, List.set_cons_zero, List.set_cons_succ]
   refine takeAt 31 96 (.bool true) rfl rfl (by kernel_rfl) (by kernel_rfl) (by kernel_rfl) (fun _ _ _ h => h) (yields (by rfl) (fun w => by kernel_rfl)) hS ?_
   simp only [Act.put, List.setIfInBounds_toArray, List.set_cons_zero, List.set_cons_succ]
   refine takeAt 32 97 (.bool true) rfl rfl (by kernel_rfl) (by kernel_rfl) (by kernel_rfl) (fun _ _ _ h => h) (yields (by rfl) (fun w => by kernel_rfl)) hS ?_
   simp only [Act.put, List.setIfInBounds_toArray, List.set_cons_zero, List.set_cons_succ]
   refine takeAt 33 98 (.int .i64 4) rfl rfl (by kernel_rfl) (by kernel_rfl) (by kernel_rfl) (fun _ _ _ h => h) (yields (by rfl) (fun w => by kernel_rfl)) hS ?_
   simp only [Act.put, List.setIfInBounds_toArray, List.set_cons_zero, List.set_cons_succ]
   refine takeAt 34 99 (.bool true) rfl rfl (by kernel_rfl) (by kernel_rfl) (by kernel_rfl) (fun _ _ _ h => h) (yields (by rfl) (fun w => by kernel_rfl)) hS ?_
   simp only [Act.put, List.setIfInBounds_toArray, List.set_cons_zero, List.set_cons_succ]
   refine takeAt 35 100 (.bool true) rfl rfl (by kernel_rfl) (by kernel_rfl) (by kernel_rfl) (fun _ _ _ h => h) (yields (by rfl) (fun w => by kernel_rfl)) hS ?_
   simp only [Act.put, List.setIfInBounds_toArray, List.set_cons_zero, List.set_cons_succ]
   as_aux_lemma =>
    refine takeAt 36 101 (.bool true) rfl rfl (by kernel_rfl) (by kernel_rfl) (by kernel_rfl) (fun _ _ _ h => h) (yields (by rfl) (fun w => by kernel_rfl)) hS ?_
    simp only [Act.put, List.setIfInBounds_toArray, List.set_cons_zero, List.set_cons_succ]
    refine takeAt 37 102 (.agg (trC B8 1 cap8)) rfl rfl (by kernel_rfl) (by kernel_rfl) (by kernel_rfl) (fun _ _ _ h => h) (loadT7 (w8.heap.size) B8 1 cap8 (fun _ h => HX8.out.below h HX8.out.lt) rfl rfl (by rfl)) hS ?_
    simp only [Act.put, List.setIfInBounds_toArray, List.set_cons_zero, List.set_cons_succ]
    refine takeAt 38 103 (ndV (nd0 0)) rfl rfl (by kernel_rfl) (by kernel_rfl) (by kernel_rfl) (fun _ _ _ h => h) (yields (by rfl) (fun w => by kernel_rfl)) hS ?_
    simp only [Act.put, List.setIfInBounds_toArray, List.set_cons_zero, List.set_cons_succ]
    refine callAt 39 104 rfl rfl (by kernel_rfl) (by rfl) (by kernel_rfl) (Ast.leaf_any (nd0 0) _) ?_
    intro e u' hres
    obtain ⟨A9, cap9, rfl, ht, hb⟩ := tree_res hres (Nat.le_refl 1)
    have hS := thenB hS hb hS.size
    have hn9 := ht.nodes
    clear hres ht hb
    refine ⟨_, rfl, hS, ?_⟩
    simp only [Act.put, List.setIfInBounds_toArray, List.set_cons_zero, List.set_cons_succ]
    have hc := Ast.same_any B8 A9 1 1 cap8 cap9 L8 (fun _ => nd0 0) _ (by decide) (by decide) (HN8.out.below hS (Nat.le_refl _)) (hn9)
    rw [HE8.out] at hc
    refine callAt 40 105 rfl rfl (by kernel_rfl) (by rfl) (by kernel_rfl) hc ?_
    clear hc
    rintro e u' ⟨rfl, hb⟩
    have hS := thenB hS hb hS.size
    clear hb
    refine ⟨_, rfl, hS, ?_⟩
    simp only [Act.put, List.setIfInBounds_toArray, List.set_cons_zero, List.set_cons_succ]
    refine takeAt 41 106 (.bool true) rfl rfl (by kernel_rfl) (by kernel_rfl) (by kernel_rfl) (fun _ _ _ h => h) (yields (by rfl) (fun w => by kernel_rfl)) hS ?_
    simp only [Act.put, List.setIfInBounds_toArray, List.set_cons_zero, List.set_cons_succ]
    refine takeAt 42 107 (.bool true) rfl rfl (by kernel_rfl) (by kernel_rfl) (by kernel_rfl) (fun _ _ _ h => h) (yields (by rfl) (fun w => by kernel_rfl)) hS ?_
    simp only [Act.put, List.setIfInBounds_toArray, List.set_cons_zero, List.set_cons_succ]
    refine takeAt 43 108 (.int .i64 0) rfl rfl (by kernel_rfl) (by kernel_rfl) (by kernel_rfl) (fun _ _ _ h => h) (yields (by rfl) (fun w => by kernel_rfl)) hS ?_
    simp only [Act.put, List.setIfInBounds_toArray, List.set_cons_zero, List.set_cons_succ]
    refine takeAt 44 109 (.bool true) rfl rfl (by kernel_rfl) (by kernel_rfl) (by kernel_rfl) (fun _ _ _ h => h) (yields (by rfl) (fun w => by kernel_rfl)) hS ?_
    simp only [Act.put, List.setIfInBounds_toArray, List.set_cons_zero, List.set_cons_succ]
    refine takeAt 45 110 (.bool true) rfl rfl (by kernel_rfl) (by kernel_rfl) (by kernel_rfl) (fun _ _ _ h => h) (yields (by rfl) (fun w => by kernel_rfl)) hS ?_
    simp only [Act.put, List.setIfInBounds_toArray, List.set_cons_zero, List.set_cons_succ]
    refine takeAt 46 0 (.bool true) rfl rfl (by kernel_rfl) (by kernel_rfl) (by kernel_rfl) (fun _ _ _ h => h) (yields (by rfl) (fun w => by kernel_rfl)) hS ?_
    simp only [Act.put, List.setIfInBounds_toArray, List.set_cons_zero]
    refine wpAnyH_done (by kernel_rfl) ?_ _
    go_wp2_with fail
    go_ret
    exact ⟨rfl, HB0.out.trans (hS.mono HB0.out.size)⟩
end Go.Proofs.YtdnbpbngoiahlaaGreatDoor
