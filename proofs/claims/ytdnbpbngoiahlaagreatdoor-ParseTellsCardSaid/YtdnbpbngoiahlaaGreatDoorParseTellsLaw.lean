import Derived.Test.YtdnbpbngoiahlaaGreatDoorParTakes
import Derived.Test.YtdnbpbngoiahlaaGreatDoorParE
import Derived.Test.YtdnbpbngoiahlaaGreatDoorParY
namespace Go.Proofs.YtdnbpbngoiahlaaGreatDoor
open Go.RowKit
open Ast (Nd ndV joinL wrapL deepZ rightZ cntG Nodes)
set_option maxRecDepth 100000 in
set_option maxHeartbeats 32000000 in
theorem parseTells_s (K : PKit) (p : ByteArray) (w : World) (hs : p.size ≤ 9223372036854775807) (hw : Tabs w) (hp : p.size ≤ 300) : Calls Tryz.prog 3 #[.string p] w fun e w' => e = .returned (.bool true) ∧ Below w.heap.size w w' := by
 have HF := Lib.hid (fun w (h : Tabs w) => fixed_any K w h)
 have HP0 := Lib.hid (fun p w (h : Tabs w) => parse_g K p w h)
 have HK := Lib.hid K
 have HT := Lib.hid hw
 clear hw K
 go_enter Tryz.func3, Tryz.ntmps3
 go_wp2_with fail
 have HX := Lib.hid hp
 obtain ⟨X, rfl⟩ : ∃ X, X = p := ⟨_, rfl⟩
 clear hp
 have HB0 := Lib.hid (Below.refl w.heap.size w)
 go_wp2_with fail
 with_reducible refine (HP0.out X _ (HT.out.call HB0.out)).mono ?_
 rintro e w1 ⟨B, cap, rfl, ht, hb⟩
 have HNn := Lib.hid ht.nodes
 have HBn := Lib.hid (thenB HB0.out hb HB0.out.size)
 have HW1 := Lib.hid ht.none
 clear ht hb
 have HQ1 := Lib.hid (parse_cases X (by have := HX.out; omega))
 have HE1 := Lib.hid (show ∃ R, R = parseZ X from ⟨_, rfl⟩)
 obtain ⟨R, hR⟩ := HE1.out
 rw [← hR] at HNn HW1 HQ1 ⊢
 have HR1 := Lib.hid hR
 clear hR HE1
 obtain ⟨t, er⟩ := R
 simp only [] at HNn HW1 HQ1 ⊢
 go_wp2_with (refine storeNewTr rfl _ _ rfl w1 B t.1 cap rfl rfl rfl ?_; intro v1 hx hN; refine stopP ?_)
 unfold StopP
 have HX1 := Lib.hid hx.out
 have HB1 := Lib.hid (thenB HBn.out hN.out HBn.out.size)
 have HN1 := Lib.hid (HNn.out.below hN.out (Nat.le_refl _))
 have hc1 := tree_cell HX1.out
 clear hx hN HBn HNn
 have hn : t.1 ≤ 500 := by rcases HQ1.out with ⟨h, -⟩ | ⟨-, -, -, h⟩ <;> omega
 have HRP := Lib.hid (fun u => (show Calls Tryz.prog 11 #[.string X] u (GotU u (t, er)) by rw [HR1.out]; exact rparse_any X u HX.out))
 have HNN := Lib.hid hn
 clear HQ1 hn
 go_wp2_with fail
 with_reducible refine (HRP.out _).mono ?_
 rintro e w2 ⟨A2, c2, rfl, hn2, hb⟩
 simp only [] at hn2 ⊢
 have HB2 := Lib.hid (thenB HB1.out hb HB1.out.size)
 have HN2 := Lib.hid hn2
 have HX1 := Lib.hid (HX1.out.below hb HX1.out.lt)
 have HN1 := Lib.hid (HN1.out.below hb (Nat.le_refl _))
 clear hn2 hb HRP HB1
 have hc1 := tree_cell HX1.out
 go_wp2_with (refine loadTr rfl _ rfl _ _ _ _ rfl HX1.out ?_)
 refine (Ast.ref_any B t.1 cap t.2 _ (by have := HNN.out; omega) HN1.out).mono ?_
 rintro e w3 ⟨A3, c3, rfl, hn3, hb⟩
 have HB3 := Lib.hid (thenB HB2.out hb HB2.out.size)
 have HN3 := Lib.hid hn3
 have HN23 := Lib.hid (HN2.out.below hb (Nat.le_refl _))
 clear hn3 hb HB2 HN2 hc1
 go_wp2_with fail
 refine (Ast.rsame_any A3 A2 t.1 t.1 c3 c2 t.2 t.2 _ (by have := HNN.out; omega) (by have := HNN.out; omega) HN3.out HN23.out).mono ?_
 rintro e w4 ⟨rfl, q, rfl⟩
 rw [same_self]
 have HB4 := Lib.hid (Ast.below_drewN HB3.out q)
 clear HB3
 have heq : (er == er) = true := by simp
 go_wp2_with fail
 with_reducible refine (HF.out _ (HT.out.call HB4.out)).mono ?_
 rintro e wf5 ⟨rfl, hb⟩
 have HZ := Lib.hid (thenB HB4.out hb HB4.out.size)
 clear hb
 go_wp2_with fail
 go_ret
 exact ⟨rfl, HZ.out⟩
set_option maxRecDepth 100000 in
set_option maxHeartbeats 32000000 in
theorem parseTells_l (K : PKit) (p : ByteArray) (w : World) (hs : p.size ≤ 9223372036854775807) (hw : Tabs w) (hp : 300 < p.size) : Calls Tryz.prog 3 #[.string p] w fun e w' => e = .returned (.bool true) ∧ Below w.heap.size w w' := by
 have HF := Lib.hid (fun w (h : Tabs w) => fixed_any K w h)
 have HP0 := Lib.hid (fun p w (h : Tabs w) => parse_g K p w h)
 have HK := Lib.hid K
 have HT := Lib.hid hw
 clear hw K
 go_enter Tryz.func3, Tryz.ntmps3
 go_wp2_with fail
 have hXs0 : (p.extract 0 300).size = 300 := by rw [ByteArray.size_extract]; omega
 generalize p.extract 0 300 = X at hXs0 ⊢
 have HX := Lib.hid (show X.size ≤ 300 by omega)
 clear hXs0 hp hs
 have HB0 := Lib.hid (Below.refl w.heap.size w)
 go_wp2_with fail
 with_reducible refine (HP0.out X _ (HT.out.call HB0.out)).mono ?_
 rintro e w1 ⟨B, cap, rfl, ht, hb⟩
 have HNn := Lib.hid ht.nodes
 have HBn := Lib.hid (thenB HB0.out hb HB0.out.size)
 have HW1 := Lib.hid ht.none
 clear ht hb
 have HQ1 := Lib.hid (parse_cases X (by have := HX.out; omega))
 have HE1 := Lib.hid (show ∃ R, R = parseZ X from ⟨_, rfl⟩)
 obtain ⟨R, hR⟩ := HE1.out
 rw [← hR] at HNn HW1 HQ1 ⊢
 have HR1 := Lib.hid hR
 clear hR HE1
 obtain ⟨t, er⟩ := R
 simp only [] at HNn HW1 HQ1 ⊢
 go_wp2_with (refine storeNewTr rfl _ _ rfl w1 B t.1 cap rfl rfl rfl ?_; intro v1 hx hN; refine stopP ?_)
 unfold StopP
 have HX1 := Lib.hid hx.out
 have HB1 := Lib.hid (thenB HBn.out hN.out HBn.out.size)
 have HN1 := Lib.hid (HNn.out.below hN.out (Nat.le_refl _))
 have hc1 := tree_cell HX1.out
 clear hx hN HBn HNn
 have hn : t.1 ≤ 500 := by rcases HQ1.out with ⟨h, -⟩ | ⟨-, -, -, h⟩ <;> omega
 have HRP := Lib.hid (fun u => (show Calls Tryz.prog 11 #[.string X] u (GotU u (t, er)) by rw [HR1.out]; exact rparse_any X u HX.out))
 have HNN := Lib.hid hn
 clear HQ1 hn
 go_wp2_with fail
 with_reducible refine (HRP.out _).mono ?_
 rintro e w2 ⟨A2, c2, rfl, hn2, hb⟩
 simp only [] at hn2 ⊢
 have HB2 := Lib.hid (thenB HB1.out hb HB1.out.size)
 have HN2 := Lib.hid hn2
 have HX1 := Lib.hid (HX1.out.below hb HX1.out.lt)
 have HN1 := Lib.hid (HN1.out.below hb (Nat.le_refl _))
 clear hn2 hb HRP HB1
 have hc1 := tree_cell HX1.out
 go_wp2_with (refine loadTr rfl _ rfl _ _ _ _ rfl HX1.out ?_)
 refine (Ast.ref_any B t.1 cap t.2 _ (by have := HNN.out; omega) HN1.out).mono ?_
 rintro e w3 ⟨A3, c3, rfl, hn3, hb⟩
 have HB3 := Lib.hid (thenB HB2.out hb HB2.out.size)
 have HN3 := Lib.hid hn3
 have HN23 := Lib.hid (HN2.out.below hb (Nat.le_refl _))
 clear hn3 hb HB2 HN2 hc1
 go_wp2_with fail
 refine (Ast.rsame_any A3 A2 t.1 t.1 c3 c2 t.2 t.2 _ (by have := HNN.out; omega) (by have := HNN.out; omega) HN3.out HN23.out).mono ?_
 rintro e w4 ⟨rfl, q, rfl⟩
 rw [same_self]
 have HB4 := Lib.hid (Ast.below_drewN HB3.out q)
 clear HB3
 have heq : (er == er) = true := by simp
 go_wp2_with fail
 with_reducible refine (HF.out _ (HT.out.call HB4.out)).mono ?_
 rintro e wf5 ⟨rfl, hb⟩
 have HZ := Lib.hid (thenB HB4.out hb HB4.out.size)
 clear hb
 go_wp2_with fail
 go_ret
 exact ⟨rfl, HZ.out⟩
theorem parseTells_any (K : PKit) (p : ByteArray) (w : World) (hs : p.size ≤ 9223372036854775807) (hw : Tabs w) : Calls Tryz.prog 3 #[.string p] w fun e w' => e = .returned (.bool true) ∧ Below w.heap.size w w' := by
 by_cases h : p.size ≤ 300
 ·exact parseTells_s K p w hs hw h
 ·exact parseTells_l K p w hs hw (by omega)
end Go.Proofs.YtdnbpbngoiahlaaGreatDoor
