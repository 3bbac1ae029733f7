import Derived.Test.YteiboobdhjdjkaaGreatDoorParAM
import Derived.Test.YteiboobdhjdjkaaGreatDoorClassMM
import Derived.Test.YteiboobdhjdjkaaGreatDoorMz
namespace Go.Proofs.YteiboobdhjdjkaaGreatDoor
open Go.RowKit
open Ast (Nd ndV joinL wrapL deepZ rightZ Nodes)
theorem RSt.row {w0 w : World} {g c k : Nat} {f : ByteArray} {l : List Tok} (h : RSt w0 g w f c l) (hk : g ≠ k) (hk2 : w0.heap.size ≤ k) (cs : Array Value) : RSt w0 g (w.setRow k cs) f c l := by
 obtain ⟨A, cap, h1, h2, h3⟩ := h.cells
 exact ⟨h.base, ⟨A, cap, (setRow_other w k g cs hk).trans h1, h2, h3⟩, below_row h.below hk2 cs⟩
abbrev leafW (w : World) (t : Tok) : World := (w.alloc (.cells (tokC t) 147)).alloc (.cells (ndC (nd0 0)) 69)
structure LfW (w : World) (t : Tok) (u : World) : Prop where
 t : BoxT 147 u w.heap.size t
 n : BoxV 69 u (w.heap.size + 1) (ndC (nd0 0))
 b : Below w.heap.size w u
theorem LfW.new (w : World) (t : Tok) : LfW w t (leafW w t) := by
 refine ⟨(BoxT.new w t).alloc _, ?_, ((Below.refl _ w).alloc (Nat.le_refl _) _).alloc (by simp) _⟩
 have h := BoxV.new (T := 69) (w.alloc (.cells (tokC t) 147)) (ndC (nd0 0))
 simpa using h
theorem LfW.call {w u v : World} {t : Tok} (h : LfW w t u) (hb : Below u.heap.size u v) : LfW w t v := ⟨h.t.below hb h.t.lt, h.n.below hb h.n.lt, thenB h.b hb h.b.size⟩
theorem LfW.cell {w u : World} {t : Tok} (h : LfW w t u) (j : Nat) : u.cell? ⟨w.heap.size, j, none⟩ = (tokC t)[j]? := cell_of_row u w.heap.size j _ _ _ h.t
theorem BoxV.cell {T : TypeId} {w : World} {g k : Nat} {cs : Array Value} (h : BoxV T w g cs) (j : Nat) (v : Value) (hk : g ≠ k) : BoxV T (w.setCell ⟨k, j, none⟩ v) g cs := (heap_setCell_other w ⟨k, j, none⟩ g v hk).trans h
section
variable {f : ByteArray} {t : Tok}
theorem leaf_1 (h : t.k = 1) : leafN f t = setN (if hasF f 115 = true then ~~~0#256 else ~~~addB 0#256 10) := by unfold leafN; rw [if_pos h]
theorem leaf_2 (h : t.k = 2) : leafN f t = nd0 (if hasF f 109 = true then 4 else 2) := by unfold leafN; rw [if_neg (by omega), if_pos h]
theorem leaf_3 (h : t.k = 3) : leafN f t = nd0 (if hasF f 109 = true then 5 else 3) := by unfold leafN; rw [if_neg (by omega), if_neg (by omega), if_pos h]
theorem leaf_4 (h : t.k = 4) : leafN f t = nd0 6 := by unfold leafN; rw [if_neg (by omega), if_neg (by omega), if_neg (by omega), if_pos h]
theorem leaf_5 (h : t.k = 5) : leafN f t = nd0 7 := by unfold leafN; rw [if_neg (by omega), if_neg (by omega), if_neg (by omega), if_neg (by omega), if_pos h]
theorem leaf_17 (h : t.k = 17) : leafN f t = { nd0 12 with n := t.n, f := hasF f 105 } := by unfold leafN; rw [if_neg (by omega), if_neg (by omega), if_neg (by omega), if_neg (by omega), if_neg (by omega), if_pos h]
theorem leaf_0 (h : t.k ≠ 1 ∧ t.k ≠ 2 ∧ t.k ≠ 3 ∧ t.k ≠ 4 ∧ t.k ≠ 5 ∧ t.k ≠ 17) : leafN f t = setN (if hasF f 105 = true then foldS t.S else t.S) := by
 unfold leafN
 rw [if_neg h.1, if_neg h.2.1, if_neg h.2.2.1, if_neg h.2.2.2.1, if_neg h.2.2.2.2.1, if_neg h.2.2.2.2.2]
end
set_option maxRecDepth 100000 in
set_option maxHeartbeats 8000000 in
theorem leafk_1 (hH : HasOk) {w0 w : World} {g c : Nat} {f : ByteArray} {l : List Tok} (h : RSt w0 g w f c l) (t : Tok) (hk : t.k = 1) : Calls Tryz.prog 214 #[.pointer (some ⟨g, 0, none⟩), tokV t] w fun e w' => e = .returned (ndV (leafN f t)) ∧ Below w.heap.size w w' := by
 have hlt := h.lt
 have hw0 := h.below.size
 have HL := Lib.hid (LfW.new w t)
 have HR := Lib.hid (h.call (((Below.refl _ w).alloc (Nat.le_refl _) (.cells (tokC t) 147)).alloc (by simp) (.cells (ndC (nd0 0)) 69)))
 clear h
 have HE := Lib.hid (leaf_1 (f := f) hk)
 obtain ⟨k, S, mn, mx, md, n, ff⟩ := t
 have hk' : k = 1 := hk
 subst hk'
 clear hk
 simp only [tokV, tokC, ndC, nd0] at HR ⊢
 go_enter Tryz.func214, Tryz.ntmps214
 go_wp2_with fail
 with_reducible refine (holds_any hH HR.out 115).mono ?_
 rw [show (115 : UInt8).toNat = 115 from rfl]
 rintro e w1 ⟨rfl, rfl⟩
 cases hb : hasF f 115 with
 | true =>
   rw [if_pos hb] at HE
   clear hb
   go_wp2_with fail
   with_reducible refine (all_any _).mono ?_
   rintro e w1 ⟨rfl, hb⟩
   have HL1 := Lib.hid (HL.out.call hb)
   clear hb
   go_wp2_with (refine storeNd rfl _ _ rfl (w.heap.size + 1) (nd0 0) (setN (~~~0#256)) rfl _ rfl rfl HL1.out.n ?_)
   refine bodyPost_ret (resNd (p := 4) (v := setN (~~~0#256)) rfl _ (g := w.heap.size + 1) rfl (HL1.out.n.rowSame _)) rfl ?_
   exact ⟨by rw [HE.out], below_row HL1.out.b (by omega) _⟩
 | false =>
   rw [if_neg (by rw [hb]; decide)] at HE
   clear hb
   go_wp2_with fail
   with_reducible refine (one_any 10 _ (by decide) (by decide)).mono ?_
   rintro e w1 ⟨rfl, hb⟩
   have HL1 := Lib.hid (HL.out.call hb)
   clear hb
   go_wp2_with fail
   with_reducible refine (not_any _ _).mono ?_
   rintro e w2 ⟨rfl, hb⟩
   have HL2 := Lib.hid (HL1.out.call hb)
   clear hb
   go_wp2_with (refine storeNd rfl _ _ rfl (w.heap.size + 1) (nd0 0) (setN (~~~addB 0#256 10)) rfl _ rfl rfl HL2.out.n ?_)
   refine bodyPost_ret (resNd (p := 4) (v := setN (~~~addB 0#256 10)) rfl _ (g := w.heap.size + 1) rfl (HL2.out.n.rowSame _)) rfl ?_
   exact ⟨by rw [HE.out], below_row HL2.out.b (by omega) _⟩
set_option maxRecDepth 100000 in
set_option maxHeartbeats 8000000 in
theorem leafk_2 (hH : HasOk) {w0 w : World} {g c : Nat} {f : ByteArray} {l : List Tok} (h : RSt w0 g w f c l) (t : Tok) (hk : t.k = 2) : Calls Tryz.prog 214 #[.pointer (some ⟨g, 0, none⟩), tokV t] w fun e w' => e = .returned (ndV (leafN f t)) ∧ Below w.heap.size w w' := by
 have hlt := h.lt
 have hw0 := h.below.size
 have HL := Lib.hid (LfW.new w t)
 have HR := Lib.hid (h.call (((Below.refl _ w).alloc (Nat.le_refl _) (.cells (tokC t) 147)).alloc (by simp) (.cells (ndC (nd0 0)) 69)))
 clear h
 have HE := Lib.hid (leaf_2 (f := f) hk)
 obtain ⟨k, S, mn, mx, md, n, ff⟩ := t
 have hk' : k = 2 := hk
 subst hk'
 clear hk
 simp only [tokV, tokC, ndC, nd0] at HR ⊢
 go_enter Tryz.func214, Tryz.ntmps214
 go_wp2_with fail
 with_reducible refine (either_any hH HR.out 4 2).mono ?_
 rintro e w1 ⟨rfl, rfl⟩
 generalize (if hasF f 109 = true then (4 : Int) else 2) = z at HE ⊢
 go_wp2_with (refine storeNd rfl _ _ rfl (w.heap.size + 1) (nd0 0) (nd0 z) rfl _ rfl rfl HL.out.n ?_)
 refine bodyPost_ret (resNd (p := 4) (v := nd0 z) rfl _ (g := w.heap.size + 1) rfl (HL.out.n.rowSame _)) rfl ?_
 exact ⟨by rw [HE.out], below_row HL.out.b (by omega) _⟩
set_option maxRecDepth 100000 in
set_option maxHeartbeats 8000000 in
theorem leafk_3 (hH : HasOk) {w0 w : World} {g c : Nat} {f : ByteArray} {l : List Tok} (h : RSt w0 g w f c l) (t : Tok) (hk : t.k = 3) : Calls Tryz.prog 214 #[.pointer (some ⟨g, 0, none⟩), tokV t] w fun e w' => e = .returned (ndV (leafN f t)) ∧ Below w.heap.size w w' := by
 have hlt := h.lt
 have hw0 := h.below.size
 have HL := Lib.hid (LfW.new w t)
 have HR := Lib.hid (h.call (((Below.refl _ w).alloc (Nat.le_refl _) (.cells (tokC t) 147)).alloc (by simp) (.cells (ndC (nd0 0)) 69)))
 clear h
 have HE := Lib.hid (leaf_3 (f := f) hk)
 obtain ⟨k, S, mn, mx, md, n, ff⟩ := t
 have hk' : k = 3 := hk
 subst hk'
 clear hk
 simp only [tokV, tokC, ndC, nd0] at HR ⊢
 go_enter Tryz.func214, Tryz.ntmps214
 go_wp2_with fail
 with_reducible refine (either_any hH HR.out 5 3).mono ?_
 rintro e w1 ⟨rfl, rfl⟩
 generalize (if hasF f 109 = true then (5 : Int) else 3) = z at HE ⊢
 go_wp2_with (refine storeNd rfl _ _ rfl (w.heap.size + 1) (nd0 0) (nd0 z) rfl _ rfl rfl HL.out.n ?_)
 refine bodyPost_ret (resNd (p := 4) (v := nd0 z) rfl _ (g := w.heap.size + 1) rfl (HL.out.n.rowSame _)) rfl ?_
 exact ⟨by rw [HE.out], below_row HL.out.b (by omega) _⟩
set_option maxRecDepth 100000 in
set_option maxHeartbeats 8000000 in
theorem leafk_4 {w0 w : World} {g c : Nat} {f : ByteArray} {l : List Tok} (h : RSt w0 g w f c l) (t : Tok) (hk : t.k = 4) : Calls Tryz.prog 214 #[.pointer (some ⟨g, 0, none⟩), tokV t] w fun e w' => e = .returned (ndV (leafN f t)) ∧ Below w.heap.size w w' := by
 have hlt := h.lt
 have hw0 := h.below.size
 have HL := Lib.hid (LfW.new w t)
 have HR := Lib.hid (h.call (((Below.refl _ w).alloc (Nat.le_refl _) (.cells (tokC t) 147)).alloc (by simp) (.cells (ndC (nd0 0)) 69)))
 clear h
 have HE := Lib.hid (leaf_4 (f := f) hk)
 obtain ⟨k, S, mn, mx, md, n, ff⟩ := t
 have hk' : k = 4 := hk
 subst hk'
 clear hk
 simp only [tokV, tokC, ndC, nd0] at HR ⊢
 go_enter Tryz.func214, Tryz.ntmps214
 go_wp2_with (refine storeNd rfl _ _ rfl (w.heap.size + 1) (nd0 0) (nd0 6) rfl _ rfl rfl HL.out.n ?_)
 refine bodyPost_ret (resNd (p := 4) (v := nd0 6) rfl _ (g := w.heap.size + 1) rfl (HL.out.n.rowSame _)) rfl ?_
 exact ⟨by rw [HE.out], below_row HL.out.b (by omega) _⟩
set_option maxRecDepth 100000 in
set_option maxHeartbeats 8000000 in
theorem leafk_5 {w0 w : World} {g c : Nat} {f : ByteArray} {l : List Tok} (h : RSt w0 g w f c l) (t : Tok) (hk : t.k = 5) : Calls Tryz.prog 214 #[.pointer (some ⟨g, 0, none⟩), tokV t] w fun e w' => e = .returned (ndV (leafN f t)) ∧ Below w.heap.size w w' := by
 have hlt := h.lt
 have hw0 := h.below.size
 have HL := Lib.hid (LfW.new w t)
 have HR := Lib.hid (h.call (((Below.refl _ w).alloc (Nat.le_refl _) (.cells (tokC t) 147)).alloc (by simp) (.cells (ndC (nd0 0)) 69)))
 clear h
 have HE := Lib.hid (leaf_5 (f := f) hk)
 obtain ⟨k, S, mn, mx, md, n, ff⟩ := t
 have hk' : k = 5 := hk
 subst hk'
 clear hk
 simp only [tokV, tokC, ndC, nd0] at HR ⊢
 go_enter Tryz.func214, Tryz.ntmps214
 go_wp2_with (refine storeNd rfl _ _ rfl (w.heap.size + 1) (nd0 0) (nd0 7) rfl _ rfl rfl HL.out.n ?_)
 refine bodyPost_ret (resNd (p := 4) (v := nd0 7) rfl _ (g := w.heap.size + 1) rfl (HL.out.n.rowSame _)) rfl ?_
 exact ⟨by rw [HE.out], below_row HL.out.b (by omega) _⟩
theorem loadI7 {ops : Array Oper} {o : Oper} {a : Act} {x : Operand} {R : World → Prop} (g k : Nat) (n : Int) (hR : ∀ u, R u → u.cell? ⟨g, k, none⟩ = some (.int .i64 n)) (ho : o.op = .load 3 x) (hx : a.eval x = .pointer (some ⟨g, k, none⟩)) (hw : Region.wanted o (yielded ops a.tmps) = true) : YieldsIf Tryz.prog ops R o (.int .i64 n) a := by
 refine Or.inl ⟨hw, fun w h => ?_⟩
 have h2 := hR w h
 unfold execOp
 simp only [ho, hx]
 go_simp
set_option maxRecDepth 100000 in
set_option maxHeartbeats 8000000 in
theorem leafk_17 (hH : HasOk) {w0 w : World} {g c : Nat} {f : ByteArray} {l : List Tok} (h : RSt w0 g w f c l) (t : Tok) (hk : t.k = 17) : Calls Tryz.prog 214 #[.pointer (some ⟨g, 0, none⟩), tokV t] w fun e w' => e = .returned (ndV (leafN f t)) ∧ Below w.heap.size w w' := by
 have hlt := h.lt
 have hw0 := h.below.size
 have HL := Lib.hid (LfW.new w t)
 have HR := Lib.hid (h.call (((Below.refl _ w).alloc (Nat.le_refl _) (.cells (tokC t) 147)).alloc (by simp) (.cells (ndC (nd0 0)) 69)))
 clear h
 have HE := Lib.hid (leaf_17 (f := f) hk)
 obtain ⟨k, S, mn, mx, md, n, ff⟩ := t
 have hk' : k = 17 := hk
 subst hk'
 clear hk
 simp only [tokV, tokC, ndC, nd0] at HR ⊢
 go_enter Tryz.func214, Tryz.ntmps214
 go_wp2_with fail
 obtain ⟨b, hb⟩ : ∃ b, b = hasF f 105 := ⟨_, rfl⟩
 rw [← hb] at HE
 have HHo := Lib.hid (fun (u : World) (h : RSt w0 g u f c l) => holds_any hH h 105)
 rw [show (105 : UInt8).toNat = 105 from rfl, ← hb] at HHo
 clear hb
 refine wp_region_held_drew (S := fun u => RSt w0 g u f c l ∧ BoxT 147 u w.heap.size ⟨17, S, mn, mx, md, n, ff⟩ ∧ (∃ x, BoxV 69 u (w.heap.size + 1) (ndC x)) ∧ Below w.heap.size w u) (by kernel_rfl) (show _ from ⟨HR.out.call (Below.refl _ _).drew, HL.out.t, ⟨_, HL.out.n⟩, HL.out.b.drew⟩) (fun hS => ?_)
 generalize World.drew _ = u0 at hS ⊢
 refine takeAt 0 34 (.pointer (some ⟨w.heap.size, 8, none⟩)) rfl rfl (by kernel_rfl) (by kernel_rfl) (by kernel_rfl) (fun _ _ _ h => h) (yields (by rfl) (fun w => by kernel_rfl)) hS ?_
 simp only [Act.put, sA, s0, sS]
 refine takeAt 1 35 (.int .i64 n) rfl rfl (by kernel_rfl) (by kernel_rfl) (by kernel_rfl) (fun _ _ _ h => h) (loadI7 w.heap.size 8 n (fun u h => (cell_of_row u w.heap.size 8 _ _ _ h.2.1).trans rfl) rfl rfl (by rfl)) hS ?_
 simp only [Act.put, sA, s0, sS]
 refine takeAt 2 36 (.pointer (some ⟨g, 0, none⟩)) rfl rfl (by kernel_rfl) (by kernel_rfl) (by kernel_rfl) (fun _ _ _ h => h) (yields (by rfl) (fun w => by kernel_rfl)) hS ?_
 simp only [Act.put, sA, s0, sS]
 refine callAt 3 37 rfl rfl (by kernel_rfl) (by rfl) (by kernel_rfl) (HHo.out _ hS.1) ?_
 rintro e u1 ⟨rfl, rfl⟩
 refine ⟨_, rfl, hS, ?_⟩
 simp only [Act.put, sA, s0, sS]
 refine takeAt 4 38 (.agg (ndC { nd0 12 with n := n, f := b })) rfl rfl (by kernel_rfl) (by kernel_rfl) (by kernel_rfl) (fun _ _ _ h => h) (yields (by rfl) (fun w => by kernel_rfl)) hS ?_
 simp only [Act.put, sA, s0, sS]
 obtain ⟨hs1, hs2, ⟨x, hs3⟩, hs4⟩ := hS
 have hx := hs3.rowSame (ndC { nd0 12 with n := n, f := b })
 have hB := below_row hs4 (show w.heap.size ≤ w.heap.size + 1 by omega) (ndC { nd0 12 with n := n, f := b })
 refine rowAt 5 69 (w.heap.size + 1) (ndC x) (ndC { nd0 12 with n := n, f := b }) rfl rfl rfl (by kernel_rfl) (by rfl) rfl rfl hs3 sizeNd rfl (by simp [Value.oneCell']) ⟨hs1.row (by omega) (by omega) _, (hs2.row _ (by omega)), ⟨_, hx⟩, hB⟩ ?_
 refine wpAnyH_done (by kernel_rfl) ?_ _
 go_wp2_with fail
 refine bodyPost_ret (resNd (p := 4) (v := { nd0 12 with n := n, f := b }) rfl _ (g := w.heap.size + 1) rfl hx) rfl ?_
 exact ⟨by rw [HE.out], hB⟩
set_option maxRecDepth 100000 in
set_option maxHeartbeats 8000000 in
theorem leafk_0 (hH : HasOk) {w0 w : World} {g c : Nat} {f : ByteArray} {l : List Tok} (h : RSt w0 g w f c l) (t : Tok) (hk : t.k ≠ 1 ∧ t.k ≠ 2 ∧ t.k ≠ 3 ∧ t.k ≠ 4 ∧ t.k ≠ 5 ∧ t.k ≠ 17) : Calls Tryz.prog 214 #[.pointer (some ⟨g, 0, none⟩), tokV t] w fun e w' => e = .returned (ndV (leafN f t)) ∧ Below w.heap.size w w' := by
 have hlt := h.lt
 have hw0 := h.below.size
 have HL := Lib.hid (LfW.new w t)
 have HR := Lib.hid (h.call (((Below.refl _ w).alloc (Nat.le_refl _) (.cells (tokC t) 147)).alloc (by simp) (.cells (ndC (nd0 0)) 69)))
 clear h
 have HE := Lib.hid (leaf_0 (f := f) hk)
 obtain ⟨k, S, mn, mx, md, n, ff⟩ := t
 obtain ⟨h1, h2, h3, h4, h5, h17⟩ := hk
 have q1 : (k == 1) = false := by simpa using h1
 have q2 : (k == 2) = false := by simpa using h2
 have q3 : (k == 3) = false := by simpa using h3
 have q4 : (k == 4) = false := by simpa using h4
 have q5 : (k == 5) = false := by simpa using h5
 have q17 : (k == 17) = false := by simpa using h17
 clear h1 h2 h3 h4 h5 h17
 simp only [tokV, tokC, ndC, nd0] at HR ⊢
 go_enter Tryz.func214, Tryz.ntmps214
 go_wp2_with fail
 with_reducible refine (holds_any hH HR.out 105).mono ?_
 rw [show (105 : UInt8).toNat = 105 from rfl]
 rintro e w1 ⟨rfl, rfl⟩
 cases hb : hasF f 105 with
 | true =>
   rw [if_pos hb] at HE
   clear hb
   go_wp2_with fail
   with_reducible refine (fold_any S _).mono ?_
   rintro e w1 ⟨rfl, hb⟩
   have HL1 := Lib.hid (HL.out.call hb)
   clear hb
   obtain ⟨T, hT⟩ : ∃ T, T = foldS S := ⟨_, rfl⟩
   rw [← hT] at HE ⊢
   clear hT
   have f1 := frozen_of_row w1 w.heap.size 1 _ _ HL1.out.t
   have f2 := frozen_of_row w1 w.heap.size 2 _ _ HL1.out.t
   have f3 := frozen_of_row w1 w.heap.size 3 _ _ HL1.out.t
   have f4 := frozen_of_row w1 w.heap.size 4 _ _ HL1.out.t
   have c1 := (HL1.out.cell 1).trans (show _ = some (.int .u64 (W S 0)) from rfl)
   have c2 := (HL1.out.cell 2).trans (show _ = some (.int .u64 (W S 1)) from rfl)
   have c3 := (HL1.out.cell 3).trans (show _ = some (.int .u64 (W S 2)) from rfl)
   have c4 := (HL1.out.cell 4).trans (show _ = some (.int .u64 (W S 3)) from rfl)
   have hN := (((HL1.out.n.cell (k := w.heap.size) 1 (.int .u64 (W T 0)) (by omega)).cell (k := w.heap.size) 2 (.int .u64 (W T 1)) (by omega)).cell (k := w.heap.size) 3 (.int .u64 (W T 2)) (by omega)).cell (k := w.heap.size) 4 (.int .u64 (W T 3)) (by omega)
   have HB4 := Lib.hid (below_four HL1.out.b (Nat.le_refl _) (.int .u64 (W T 0)) (.int .u64 (W T 1)) (.int .u64 (W T 2)) (.int .u64 (W T 3)))
   have HN4 := Lib.hid hN
   clear hN
   go_wp2_with (refine storeNd rfl _ _ rfl (w.heap.size + 1) (nd0 0) (setN T) rfl _ rfl rfl HN4.out ?_)
   refine bodyPost_ret (resNd (p := 4) (v := setN T) rfl _ (g := w.heap.size + 1) rfl (HN4.out.rowSame _)) rfl ?_
   exact ⟨by rw [HE.out], below_row HB4.out (by omega) _⟩
 | false =>
   rw [if_neg (by rw [hb]; decide)] at HE
   clear hb
   go_wp2_with (refine storeNd rfl _ _ rfl (w.heap.size + 1) (nd0 0) (setN S) rfl _ rfl rfl HL.out.n ?_)
   refine bodyPost_ret (resNd (p := 4) (v := setN S) rfl _ (g := w.heap.size + 1) rfl (HL.out.n.rowSame _)) rfl ?_
   exact ⟨by rw [HE.out], below_row HL.out.b (by omega) _⟩
end Go.Proofs.YteiboobdhjdjkaaGreatDoor
namespace Go.Proofs.YteiboobdhjdjkaaGreatDoor
open Go.RowKit
open Ast (Nd ndV joinL wrapL deepZ rightZ Nodes)
theorem pleaf_any (hH : HasOk) {w0 w : World} {g c : Nat} {f : ByteArray} {l : List Tok} (h : RSt w0 g w f c l) (t : Tok) : Calls Tryz.prog 214 #[.pointer (some ⟨g, 0, none⟩), tokV t] w fun e w' => e = .returned (ndV (leafN f t)) ∧ Below w.heap.size w w' := by
 by_cases h1 : t.k = 1
 ·exact leafk_1 hH h t h1
 by_cases h2 : t.k = 2
 ·exact leafk_2 hH h t h2
 by_cases h3 : t.k = 3
 ·exact leafk_3 hH h t h3
 by_cases h4 : t.k = 4
 ·exact leafk_4 h t h4
 by_cases h5 : t.k = 5
 ·exact leafk_5 h t h5
 by_cases h17 : t.k = 17
 ·exact leafk_17 hH h t h17
 ·exact leafk_0 hH h t ⟨h1, h2, h3, h4, h5, h17⟩
section
variable {ops : Array Oper} {rest : List Oper} {o : Oper} {a : Act} {w : World} {Q : Exit → Act → World → Prop}
theorem storeRg (hgd : o.guard = none) (x y : Operand) (ho : o.op = .store 3 x y) (g : Nat) {A : Option Addr} {n cap c : Nat} {f : ByteArray} (c2 : Nat) (hx : a.eval x = .pointer (some ⟨g, 2, none⟩)) (hy : a.eval y = .int .i64 (c2 : Int)) (hg : w.heap[g]? = some (.cells (rdC A n cap f c) 159 (0, 0)))
  (h : ∀ v : World, Hid (v.heap[g]? = some (.cells (rdC A n cap f c2) 159 (0, 0))) → Hid (ButR g w.heap.size w v) → wpList Tryz.prog ops Q rest (a.put o.dst undef) v) : wpList Tryz.prog ops Q (o :: rest) a w := by
 have hc : w.cell? ⟨g, 2, none⟩ = some (.int .i64 (c : Int)) := (cell_of_row w g 2 _ _ _ hg).trans rfl
 have hf := frozen_of_row w g 2 _ _ hg
 have hv := h (w.setCell ⟨g, 2, none⟩ (.int .i64 (c2 : Int))) (Lib.hid (heap_setCell_same _ g 2 _ _ (.int .i64 (c2 : Int)) hg)) (Lib.hid ((ButR.refl g _ w).setCell 2 _))
 refine wpList_plain hgd fun K hK => ?_
 unfold Oper.wp execOp
 simp only [ho, hx, hy]
 simp [go_sem, hc, hf]
 exact hK _ _ hv
theorem storeRf (hgd : o.guard = none) (x y : Operand) (ho : o.op = .store 9 x y) (g : Nat) {A : Option Addr} {n cap c : Nat} {f : ByteArray} (f2 : ByteArray) (hx : a.eval x = .pointer (some ⟨g, 1, none⟩)) (hy : a.eval y = .string f2) (hg : w.heap[g]? = some (.cells (rdC A n cap f c) 159 (0, 0)))
  (h : ∀ v : World, Hid (v.heap[g]? = some (.cells (rdC A n cap f2 c) 159 (0, 0))) → Hid (ButR g w.heap.size w v) → wpList Tryz.prog ops Q rest (a.put o.dst undef) v) : wpList Tryz.prog ops Q (o :: rest) a w := by
 have hc : w.cell? ⟨g, 1, none⟩ = some (.string f) := (cell_of_row w g 1 _ _ _ hg).trans rfl
 have hf := frozen_of_row w g 1 _ _ hg
 have hv := h (w.setCell ⟨g, 1, none⟩ (.string f2)) (Lib.hid (heap_setCell_same _ g 1 _ _ (.string f2) hg)) (Lib.hid ((ButR.refl g _ w).setCell 1 _))
 refine wpList_plain hgd fun K hK => ?_
 unfold Oper.wp execOp
 simp only [ho, hx, hy]
 simp [go_sem, hc, hf]
 exact hK _ _ hv
end
set_option maxRecDepth 100000 in
set_option maxHeartbeats 8000000 in
theorem around_9 {w0 w : World} {g c : Nat} {f : ByteArray} {l : List Tok} (h : RSt w0 g w f c l)  : Calls Tryz.prog 216 #[.pointer (some ⟨g, 0, none⟩), .int .i64 9] w fun e w' => e = .returned (ndV (aroundN 9 c)) ∧ RSt w0 g w' f (aroundG 9 c) l ∧ ButR g w.heap.size w w' := by
 have hn : BoxV 69 (w.alloc (.cells (ndC (nd0 0)) 69)) w.heap.size (ndC (nd0 0)) := BoxV.new _ _
 have HN := Lib.hid hn
 have hlt := h.lt
 have hw0 := h.below.size
 have HR := Lib.hid (h.call ((Below.refl _ w).alloc (Nat.le_refl _) (.cells (ndC (nd0 0)) 69)))
 have HE := Lib.hid (show aroundN 9 c = nd0 13 from if_pos (by decide))
 have HG := Lib.hid (show aroundG 9 c = c from if_pos (by decide))
 clear h hn
 go_enter Tryz.func216, Tryz.ntmps216
 go_wp2_with (refine storeNd rfl _ _ rfl w.heap.size (nd0 0) (nd0 13) rfl _ rfl rfl HN.out ?_)
 refine bodyPost_ret (resNd (p := 4) (v := nd0 13) rfl _ (g := w.heap.size) rfl (HN.out.rowSame _)) rfl ?_
 refine ⟨by rw [HE.out], ?_, ?_⟩
 ·rw [HG.out]
  exact HR.out.row (by omega) (by omega) _
 ·exact ButR.of (below_row ((Below.refl _ w).alloc (Nat.le_refl _) _) (Nat.le_refl _) _)
set_option maxRecDepth 100000 in
set_option maxHeartbeats 8000000 in
theorem around_10 {w0 w : World} {g c : Nat} {f : ByteArray} {l : List Tok} (h : RSt w0 g w f c l)  : Calls Tryz.prog 216 #[.pointer (some ⟨g, 0, none⟩), .int .i64 10] w fun e w' => e = .returned (ndV (aroundN 10 c)) ∧ RSt w0 g w' f (aroundG 10 c) l ∧ ButR g w.heap.size w w' := by
 have hn : BoxV 69 (w.alloc (.cells (ndC (nd0 0)) 69)) w.heap.size (ndC (nd0 0)) := BoxV.new _ _
 have HN := Lib.hid hn
 have hlt := h.lt
 have hw0 := h.below.size
 have HR := Lib.hid (h.call ((Below.refl _ w).alloc (Nat.le_refl _) (.cells (ndC (nd0 0)) 69)))
 have HE := Lib.hid (show aroundN 10 c = nd0 14 from if_pos (by decide))
 have HG := Lib.hid (show aroundG 10 c = c from if_pos (by decide))
 clear h hn
 go_enter Tryz.func216, Tryz.ntmps216
 go_wp2_with (refine storeNd rfl _ _ rfl w.heap.size (nd0 0) (nd0 14) rfl _ rfl rfl HN.out ?_)
 refine bodyPost_ret (resNd (p := 4) (v := nd0 14) rfl _ (g := w.heap.size) rfl (HN.out.rowSame _)) rfl ?_
 refine ⟨by rw [HE.out], ?_, ?_⟩
 ·rw [HG.out]
  exact HR.out.row (by omega) (by omega) _
 ·exact ButR.of (below_row ((Below.refl _ w).alloc (Nat.le_refl _) _) (Nat.le_refl _) _)
set_option maxRecDepth 100000 in
set_option maxHeartbeats 8000000 in
theorem around_11 {w0 w : World} {g c : Nat} {f : ByteArray} {l : List Tok} (h : RSt w0 g w f c l)  : Calls Tryz.prog 216 #[.pointer (some ⟨g, 0, none⟩), .int .i64 11] w fun e w' => e = .returned (ndV (aroundN 11 c)) ∧ RSt w0 g w' f (aroundG 11 c) l ∧ ButR g w.heap.size w w' := by
 have hn : BoxV 69 (w.alloc (.cells (ndC (nd0 0)) 69)) w.heap.size (ndC (nd0 0)) := BoxV.new _ _
 have HN := Lib.hid hn
 have hlt := h.lt
 have hw0 := h.below.size
 have HR := Lib.hid (h.call ((Below.refl _ w).alloc (Nat.le_refl _) (.cells (ndC (nd0 0)) 69)))
 have HE := Lib.hid (show aroundN 11 c = nd0 15 from if_pos (by decide))
 have HG := Lib.hid (show aroundG 11 c = c from if_pos (by decide))
 clear h hn
 go_enter Tryz.func216, Tryz.ntmps216
 go_wp2_with (refine storeNd rfl _ _ rfl w.heap.size (nd0 0) (nd0 15) rfl _ rfl rfl HN.out ?_)
 refine bodyPost_ret (resNd (p := 4) (v := nd0 15) rfl _ (g := w.heap.size) rfl (HN.out.rowSame _)) rfl ?_
 refine ⟨by rw [HE.out], ?_, ?_⟩
 ·rw [HG.out]
  exact HR.out.row (by omega) (by omega) _
 ·exact ButR.of (below_row ((Below.refl _ w).alloc (Nat.le_refl _) _) (Nat.le_refl _) _)
set_option maxRecDepth 100000 in
set_option maxHeartbeats 8000000 in
theorem around_12 {w0 w : World} {g c : Nat} {f : ByteArray} {l : List Tok} (h : RSt w0 g w f c l)  : Calls Tryz.prog 216 #[.pointer (some ⟨g, 0, none⟩), .int .i64 12] w fun e w' => e = .returned (ndV (aroundN 12 c)) ∧ RSt w0 g w' f (aroundG 12 c) l ∧ ButR g w.heap.size w w' := by
 have hn : BoxV 69 (w.alloc (.cells (ndC (nd0 0)) 69)) w.heap.size (ndC (nd0 0)) := BoxV.new _ _
 have HN := Lib.hid hn
 have hlt := h.lt
 have hw0 := h.below.size
 have HR := Lib.hid (h.call ((Below.refl _ w).alloc (Nat.le_refl _) (.cells (ndC (nd0 0)) 69)))
 have HE := Lib.hid (show aroundN 12 c = nd0 16 from if_pos (by decide))
 have HG := Lib.hid (show aroundG 12 c = c from if_pos (by decide))
 clear h hn
 go_enter Tryz.func216, Tryz.ntmps216
 go_wp2_with (refine storeNd rfl _ _ rfl w.heap.size (nd0 0) (nd0 16) rfl _ rfl rfl HN.out ?_)
 refine bodyPost_ret (resNd (p := 4) (v := nd0 16) rfl _ (g := w.heap.size) rfl (HN.out.rowSame _)) rfl ?_
 refine ⟨by rw [HE.out], ?_, ?_⟩
 ·rw [HG.out]
  exact HR.out.row (by omega) (by omega) _
 ·exact ButR.of (below_row ((Below.refl _ w).alloc (Nat.le_refl _) _) (Nat.le_refl _) _)
set_option maxRecDepth 100000 in
set_option maxHeartbeats 8000000 in
theorem around_13 {w0 w : World} {g c : Nat} {f : ByteArray} {l : List Tok} (h : RSt w0 g w f c l)  : Calls Tryz.prog 216 #[.pointer (some ⟨g, 0, none⟩), .int .i64 13] w fun e w' => e = .returned (ndV (aroundN 13 c)) ∧ RSt w0 g w' f (aroundG 13 c) l ∧ ButR g w.heap.size w w' := by
 have hn : BoxV 69 (w.alloc (.cells (ndC (nd0 0)) 69)) w.heap.size (ndC (nd0 0)) := BoxV.new _ _
 have HN := Lib.hid hn
 have hlt := h.lt
 have hw0 := h.below.size
 have HR := Lib.hid (h.call ((Below.refl _ w).alloc (Nat.le_refl _) (.cells (ndC (nd0 0)) 69)))
 have HE := Lib.hid (show aroundN 13 c = nd0 17 from if_pos (by decide))
 have HG := Lib.hid (show aroundG 13 c = c from if_pos (by decide))
 clear h hn
 go_enter Tryz.func216, Tryz.ntmps216
 go_wp2_with (refine storeNd rfl _ _ rfl w.heap.size (nd0 0) (nd0 17) rfl _ rfl rfl HN.out ?_)
 refine bodyPost_ret (resNd (p := 4) (v := nd0 17) rfl _ (g := w.heap.size) rfl (HN.out.rowSame _)) rfl ?_
 refine ⟨by rw [HE.out], ?_, ?_⟩
 ·rw [HG.out]
  exact HR.out.row (by omega) (by omega) _
 ·exact ButR.of (below_row ((Below.refl _ w).alloc (Nat.le_refl _) _) (Nat.le_refl _) _)
set_option maxRecDepth 100000 in
set_option maxHeartbeats 8000000 in
theorem around_0 {w0 w : World} {g c : Nat} {f : ByteArray} {l : List Tok} (h : RSt w0 g w f c l) (hc : c ≤ 5000) (k : Int) (hk : ¬ (9 ≤ k ∧ k ≤ 13)) : Calls Tryz.prog 216 #[.pointer (some ⟨g, 0, none⟩), .int .i64 k] w fun e w' => e = .returned (ndV (aroundN k c)) ∧ RSt w0 g w' f (aroundG k c) l ∧ ButR g w.heap.size w w' := by
 have hn : BoxV 69 (w.alloc (.cells (ndC (nd0 0)) 69)) w.heap.size (ndC (nd0 0)) := BoxV.new _ _
 have HN := Lib.hid hn
 have hlt := h.lt
 have hw0 := h.below.size
 have HR := Lib.hid (h.call ((Below.refl _ w).alloc (Nat.le_refl _) (.cells (ndC (nd0 0)) 69)))
 have HE := Lib.hid (show aroundN k c = { nd0 11 with n := (c : Int) + 1 } from if_neg hk)
 have HG := Lib.hid (show aroundG k c = c + 1 from if_neg hk)
 have q9 : (k == 9) = false := by simp; omega
 have q10 : (k == 10) = false := by simp; omega
 have q11 : (k == 11) = false := by simp; omega
 have q12 : (k == 12) = false := by simp; omega
 have q13 : (k == 13) = false := by simp; omega
 obtain ⟨A, cap, h1, h2, h3⟩ := HR.out.cells
 have hci : (c : Int) ≤ 5000 := by omega
 have hc2 : (w.alloc (.cells (ndC (nd0 0)) 69)).cell? ⟨g, 2, none⟩ = some (.int .i64 (c : Int)) := (cell_of_row _ g 2 _ _ _ h1).trans rfl
 have H1 := Lib.hid h1
 have H2 := Lib.hid h2
 have H3 := Lib.hid h3
 have HBel := Lib.hid h.below
 clear h hn hk h1 h2 h3
 simp only [ndC, nd0] at hc2
 go_enter Tryz.func216, Tryz.ntmps216
 go_wp2_with (refine storeRg rfl _ _ rfl g (c + 1) rfl rfl H1.out ?_; intro v hv hbv; refine stopP ?_)
 unfold StopP
 clear hc2
 have HNv := Lib.hid (HN.out.but hbv.out HN.out.lt (by omega))
 have HB := Lib.hid ((ButR.of (g := g) ((Below.refl w.heap.size w).alloc (Nat.le_refl _) (.cells (ndC (nd0 0)) 69))).trans (hbv.out.mono (by simp)))
 have hc3 : v.cell? ⟨g, 2, none⟩ = some (.int .i64 ((c : Int) + 1)) := (cell_of_row _ g 2 _ _ _ hv.out).trans rfl
 go_wp2_with (refine storeNd rfl _ _ rfl w.heap.size (nd0 0) { nd0 11 with n := (c : Int) + 1 } rfl _ rfl rfl HNv.out ?_)
 refine bodyPost_ret (resNd (p := 4) (v := { nd0 11 with n := (c : Int) + 1 }) rfl _ (g := w.heap.size) rfl (HNv.out.rowSame _)) rfl ?_
 have hB := HB.out.trans (ButR.of (below_row (Below.refl _ v) (Nat.le_refl _) (ndC { nd0 11 with n := (c : Int) + 1 })))
 refine ⟨by rw [HE.out], ?_, hB⟩
 rw [HG.out]
 exact ⟨HR.out.base, ⟨A, cap, (setRow_other v w.heap.size g _ (by omega)).trans hv.out, H2.out, H3.out⟩, HBel.out.trans (hB.below hw0 HR.out.base)⟩
theorem around_any {w0 w : World} {g c : Nat} {f : ByteArray} {l : List Tok} (h : RSt w0 g w f c l) (hc : c ≤ 5000) (k : Int) : Calls Tryz.prog 216 #[.pointer (some ⟨g, 0, none⟩), .int .i64 k] w fun e w' => e = .returned (ndV (aroundN k c)) ∧ RSt w0 g w' f (aroundG k c) l ∧ ButR g w.heap.size w w' := by
 by_cases hk : 9 ≤ k ∧ k ≤ 13
 ·have h5 : k = 9 ∨ k = 10 ∨ k = 11 ∨ k = 12 ∨ k = 13 := by omega
  rcases h5 with rfl | rfl | rfl | rfl | rfl
  ·exact around_9 h
  ·exact around_10 h
  ·exact around_11 h
  ·exact around_12 h
  ·exact around_13 h
 ·exact around_0 h hc k hk
end Go.Proofs.YteiboobdhjdjkaaGreatDoor
