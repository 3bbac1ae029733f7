/-
  Layer 8: the walk of the statement ShowSets.
-/
import Derived.Test.YtfejdengpnikeaaGreatDoorShoE
import Derived.Test.YtfejdengpnikeaaGreatDoorShoD
import Derived.Test.YtfejdengpnikeaaGreatDoorLexLex
namespace Go.Proofs.YtfejdengpnikeaaGreatDoor
open Go.RowKit

@[go_sem high] theorem eqSet8 (A B : BitVec 256) (w : World) : (binOp .eql 28 (.agg #[.int .u64 (W A 0), .int .u64 (W A 1), .int .u64 (W A 2), .int .u64 (W A 3)]) (.agg #[.int .u64 (W B 0), .int .u64 (W B 1), .int .u64 (W B 2), .int .u64 (W B 3)])).run Tryz.prog w = .ok (.bool (decide (A = B))) w := by
  have h := eq_words A B
  rw [run_eql_struct]
  simp [go_sem, h]
  by_cases e : A = B <;> simp [e]
theorem eqlTok8 (t : Tok) (w : World) : (binOp .eql 49 (tokV t) (tokV t)).run Tryz.prog w = .ok (.bool true) w := by
  have h : (Op.equalIn 10000 49 (tokV t) (tokV t)).run Tryz.prog w = .ok true w := by
    unfold tokV tokC
    simp [go_sem]
  rw [run_eql_struct, h]
  rfl
section
variable {ops : Array Oper} {R : World → Prop} {a : Act} {o : Oper} {x y : Operand}
theorem loadSet_y {g : Nat} (S : BitVec 256) (hR : ∀ u, R u → Box u g S) (ho : o.op = .load 28 x) (hx : a.eval x = .pointer (some ⟨g, 0, none⟩)) (hw : Region.wanted o (yielded ops a.tmps) = true) : YieldsIf Tryz.prog ops R o (setV S) a := by
  refine Or.inl ⟨hw, fun u h => ?_⟩
  obtain ⟨z0, z1, z2, z3⟩ := (hR u h).cells
  unfold execOp
  simp only [ho, hx]
  simp [go_sem, z0, z1, z2, z3]
theorem loadTok_y {g : Nat} (t : Tok) (hR : ∀ u, R u → ∀ j, j < 10 → u.cell? ⟨g, j, none⟩ = (tokC t)[j]?) (ho : o.op = .load 49 x) (hx : a.eval x = .pointer (some ⟨g, 0, none⟩)) (hw : Region.wanted o (yielded ops a.tmps) = true) : YieldsIf Tryz.prog ops R o (tokV t) a := by
  refine Or.inl ⟨hw, fun u h => ?_⟩
  have hc := hR u h
  have c0 := (hc 0 (by decide)).trans (show _ = some (.int .i64 t.k) from rfl)
  have c1 := (hc 1 (by decide)).trans (show _ = some (.int .u64 (W t.S 0)) from rfl)
  have c2 := (hc 2 (by decide)).trans (show _ = some (.int .u64 (W t.S 1)) from rfl)
  have c3 := (hc 3 (by decide)).trans (show _ = some (.int .u64 (W t.S 2)) from rfl)
  have c4 := (hc 4 (by decide)).trans (show _ = some (.int .u64 (W t.S 3)) from rfl)
  have c5 := (hc 5 (by decide)).trans (show _ = some (.int .i64 t.mn) from rfl)
  have c6 := (hc 6 (by decide)).trans (show _ = some (.int .i64 t.mx) from rfl)
  have c7 := (hc 7 (by decide)).trans (show _ = some (.int .i64 t.md) from rfl)
  have c8 := (hc 8 (by decide)).trans (show _ = some (.int .i64 t.n) from rfl)
  have c9 := (hc 9 (by decide)).trans (show _ = some (.string t.f) from rfl)
  unfold execOp
  simp only [ho, hx]
  simp [go_sem, c0, c1, c2, c3, c4, c5, c6, c7, c8, c9]
  rfl
theorem eqTok_y (t : Tok) (ho : o.op = .binOp .eql 49 x y 49) (hx : a.eval x = tokV t) (hy : a.eval y = tokV t) (hw : Region.wanted o (yielded ops a.tmps) = true) : YieldsIf Tryz.prog ops R o (.bool true) a := by
  refine Or.inl ⟨hw, fun u _ => ?_⟩
  have h := eqlTok8 t u
  have hg : Sem.run Tryz.prog (eqGuard .eql 49 x y (tokV t) (tokV t)) u = .ok () u := by kernel_rfl
  unfold execOp
  simp only [ho, hx, hy, Sem.run_bind, hg, h, Result.andThen_ok, Sem.run_pure]
end
theorem tok_own {w : World} {base : Nat} {v : Value} {t : Tok} (h : w.ownsRow base 49 10 v 1 (toksC [t])) : ∃ r cap, v = .slice (some ⟨r, 0, none⟩) 1 cap ∧ r < w.heap.size ∧ ∀ j, j < 10 → w.cell? ⟨r, j, none⟩ = (tokC t)[j]? := by
  obtain ⟨h1, h2⟩ := h
  rcases h2 with ⟨-, h0⟩ | ⟨r, cap, cur, rfl, _, hr, _, _, hsz, hcur⟩
  · exact absurd h0 (by decide)
  · refine ⟨r, cap, rfl, (Array.getElem?_eq_some_iff.1 hr).1, fun j hj => ?_⟩
    rw [cell_of_row w r _ _ _ _ hr]
    have hc : (cur.toList.take 10)[j]? = (toksC [t])[j]? := by rw [show (10 : Nat) = 1 * 10 from rfl, hcur]
    rw [List.getElem?_take_of_lt (by omega), Array.getElem?_toList] at hc
    rw [hc]
    simp [toksC]
theorem lex_set {S : BitVec 256} (h : (setP S).size ≤ 1000) : lexZ (setP S) = ([{ tok0 0 with S := S }], 0) := (set_firm S).loose.lex h
theorem lex_long {p : ByteArray} (h : 1000 < p.size) : lexZ p = ([], 4) := by unfold lexZ; rw [if_pos h]
set_option maxRecDepth 100000 in
set_option maxHeartbeats 16000000 in
theorem showSets_same (K : PKit) (S T : BitVec 256) (X Y : ByteArray) (w : World) (hX : setP S = X) (hY : setP T = Y) (hST : S = T) (hXY : Y = X) (hw : TZ w) :
    Calls Tryz.prog 6 #[setV S, setV T] w fun e w' => e = .returned (.bool true) ∧ Below w.heap.size w w' := by
  subst hXY
  have hb : decide (S = T) = true := decide_eq_true hST
  clear hST
  have HF := Lib.hid (fun w h => fixed_any K.sorts w h)
  have HA := Lib.hid (fun w h => set_at S Y hX w h)
  have HBb := Lib.hid (fun w h => set_at T Y hY w h)
  have HL := Lib.hid (fun w (h : Tabs w) => lex_any K.errs K.clone Y w h.err h.tab h.op)
  have HT := Lib.hid hw
  have HLx := Lib.hid (fun h : Y.size ≤ 1000 => (show lexZ Y = ([{ tok0 0 with S := S }], 0) by rw [← hX]; exact lex_set (by rw [hX]; exact h)))
  have HLy := Lib.hid (fun h : 1000 < Y.size => lex_long h)
  have HB0 : Below w.heap.size w ((w.alloc (.cells #[.int .u64 (W S 0), .int .u64 (W S 1), .int .u64 (W S 2), .int .u64 (W S 3)] 28)).alloc (.cells #[.int .u64 (W T 0), .int .u64 (W T 1), .int .u64 (W T 2), .int .u64 (W T 3)] 28)) := ((Below.refl _ w).alloc (Nat.le_refl _) _).alloc (by simp) _
  have HX0 := (Box.new w S).alloc (.cells #[.int .u64 (W T 0), .int .u64 (W T 1), .int .u64 (W T 2), .int .u64 (W T 3)] 28)
  have HY0 := Box.new (w.alloc (.cells #[.int .u64 (W S 0), .int .u64 (W S 1), .int .u64 (W S 2), .int .u64 (W S 3)] 28)) T
  rw [show (w.alloc (.cells #[.int .u64 (W S 0), .int .u64 (W S 1), .int .u64 (W S 2), .int .u64 (W S 3)] 28)).heap.size = w.heap.size + 1 by simp] at HY0
  obtain ⟨W0, hW0⟩ : ∃ W0, W0 = (w.alloc (.cells #[.int .u64 (W S 0), .int .u64 (W S 1), .int .u64 (W S 2), .int .u64 (W S 3)] 28)).alloc (.cells #[.int .u64 (W T 0), .int .u64 (W T 1), .int .u64 (W T 2), .int .u64 (W T 3)] 28) := ⟨_, rfl⟩
  rw [← hW0] at HB0 HX0 HY0
  have HBw := Lib.hid HB0
  have HXb := Lib.hid HX0
  have HYb := Lib.hid HY0
  clear hX hY hw K HB0 HX0 HY0
  go_enter Tryz.func6, Tryz.ntmps6
  go_wp2_with fail
  rw [← hW0]
  clear hW0
  refine wp_region_held_drew (S := fun u => Below W0.heap.size W0 u) (by kernel_rfl) (show _ from (Below.refl _ _).drew) (fun hS => ?_)
  generalize World.drew W0 = u0 at hS ⊢
  refine takeAt 0 9 (setV S) rfl rfl (by kernel_rfl) (by kernel_rfl) (by kernel_rfl) (fun _ _ _ h => h) (loadSet_y S (fun u h => HXb.out.below h HXb.out.lt) rfl rfl (by rfl)) hS ?_
  simp only [Act.put, List.setIfInBounds_toArray, List.set_cons_zero, List.set_cons_succ]
  refine takeAt 2 11 (setV T) rfl rfl (by kernel_rfl) (by kernel_rfl) (by kernel_rfl) (fun _ _ _ h => h) (loadSet_y T (fun u h => HYb.out.below h HYb.out.lt) rfl rfl (by rfl)) hS ?_
  simp only [Act.put, List.setIfInBounds_toArray, List.set_cons_zero, List.set_cons_succ]
  refine callAt 1 10 rfl rfl (by kernel_rfl) (by rfl) (by kernel_rfl) (HA.out _ (HT.out.call (HBw.out.trans (hS.mono HBw.out.size))).tp) ?_
  rintro e u1 ⟨rfl, hb⟩
  have hS := thenB hS hb hS.size
  refine ⟨_, rfl, hS, ?_⟩
  simp only [Act.put, List.setIfInBounds_toArray, List.set_cons_zero, List.set_cons_succ]
  clear hb
  refine callAt 3 12 rfl rfl (by kernel_rfl) (by rfl) (by kernel_rfl) (HBb.out _ (HT.out.call (HBw.out.trans (hS.mono HBw.out.size))).tp) ?_
  rintro e u3 ⟨rfl, hb⟩
  have hS := thenB hS hb hS.size
  refine ⟨_, rfl, hS, ?_⟩
  simp only [Act.put, List.setIfInBounds_toArray, List.set_cons_zero, List.set_cons_succ]
  clear hb
  refine takeAt 4 5 (.string Y) rfl rfl (by kernel_rfl) (by kernel_rfl) (by kernel_rfl) (fun _ _ _ h => h) (yields (by rfl) (fun w => by kernel_rfl)) hS ?_
  simp only [Act.put, List.setIfInBounds_toArray, List.set_cons_zero, List.set_cons_succ]
  refine takeAt 5 6 (.string Y) rfl rfl (by kernel_rfl) (by kernel_rfl) (by kernel_rfl) (fun _ _ _ h => h) (yields (by rfl) (fun w => by kernel_rfl)) hS ?_
  simp only [Act.put, List.setIfInBounds_toArray, List.set_cons_zero, List.set_cons_succ]
  refine wpAnyH_done (by kernel_rfl) ?_ _
  have HB := Lib.hid (HBw.out.trans (hS.mono HBw.out.size))
  have HX := Lib.hid (HXb.out.below hS HXb.out.lt)
  have HY := Lib.hid (HYb.out.below hS HYb.out.lt)
  clear hS HXb HYb HBw
  obtain ⟨x0, x1, x2, x3⟩ := HX.out.cells
  obtain ⟨y0, y1, y2, y3⟩ := HY.out.cells
  go_wp2_with fail
  clear x0 x1 x2 x3 y0 y1 y2 y3 hb
  refine (HL.out _ (HT.out.call HB.out).tabs).mono ?_
  rintro e w2 hg
  obtain ⟨v, rfl, ho, hb⟩ := hg
  replace HX := Lib.hid (HX.out.below hb HX.out.lt)
  replace HB := Lib.hid (thenB HB.out hb HB.out.size)
  clear hb
  by_cases hbig : 1000 < Y.size
  · have q : (1000 : Int) < (Y.size : Int) := by omega
    rw [HLy.out hbig] at ho ⊢
    clear ho hbig
    go_wp2_with fail
    refine (HF.out _ (HT.out.call HB.out).tp).mono ?_
    rintro e w3 ⟨rfl, hb⟩
    replace HB := Lib.hid (thenB HB.out hb HB.out.size)
    clear hb
    go_wp2_with fail
    go_ret
    exact ⟨rfl, HB.out⟩
  · have q : ¬ (1000 : Int) < (Y.size : Int) := by omega
    rw [HLx.out (by omega)] at ho ⊢
    obtain ⟨r, cap, rfl, hr, hcs⟩ := tok_own ho
    have HC := Lib.hid hcs
    clear ho hbig hcs
    go_wp2_with fail
    refine wp_region_held_drew (S := fun u => Below w2.heap.size w2 u) (by kernel_rfl) (show _ from (Below.refl _ _).drew) (fun hS => ?_)
    generalize World.drew w2 = u7 at hS ⊢
    refine takeAt 0 33 (.int .i64 0) rfl rfl (by kernel_rfl) (by kernel_rfl) (by kernel_rfl) (fun _ _ _ h => h) (yields (by rfl) (fun w => by kernel_rfl)) hS ?_
    simp only [Act.put, List.setIfInBounds_toArray, List.set_cons_zero, List.set_cons_succ]
    refine takeAt 1 34 (.bool true) rfl rfl (by kernel_rfl) (by kernel_rfl) (by kernel_rfl) (fun _ _ _ h => h) (yields (by rfl) (fun w => by kernel_rfl)) hS ?_
    simp only [Act.put, List.setIfInBounds_toArray, List.set_cons_zero, List.set_cons_succ]
    refine takeAt 2 35 (.bool true) rfl rfl (by kernel_rfl) (by kernel_rfl) (by kernel_rfl) (fun _ _ _ h => h) (yields (by rfl) (fun w => by kernel_rfl)) hS ?_
    simp only [Act.put, List.setIfInBounds_toArray, List.set_cons_zero, List.set_cons_succ]
    refine takeAt 3 36 (.slice (some ⟨r, 0, none⟩) 1 cap) rfl rfl (by kernel_rfl) (by kernel_rfl) (by kernel_rfl) (fun _ _ _ h => h) (yields (by rfl) (fun w => by kernel_rfl)) hS ?_
    simp only [Act.put, List.setIfInBounds_toArray, List.set_cons_zero, List.set_cons_succ]
    refine takeAt 4 37 (.int .i64 1) rfl rfl (by kernel_rfl) (by kernel_rfl) (by kernel_rfl) (fun _ _ _ h => h) (yields (by rfl) (fun w => by kernel_rfl)) hS ?_
    simp only [Act.put, List.setIfInBounds_toArray, List.set_cons_zero, List.set_cons_succ]
    refine takeAt 5 38 (.bool true) rfl rfl (by kernel_rfl) (by kernel_rfl) (by kernel_rfl) (fun _ _ _ h => h) (yields (by rfl) (fun w => by kernel_rfl)) hS ?_
    simp only [Act.put, List.setIfInBounds_toArray, List.set_cons_zero, List.set_cons_succ]
    refine takeAt 6 39 (.bool true) rfl rfl (by kernel_rfl) (by kernel_rfl) (by kernel_rfl) (fun _ _ _ h => h) (yields (by rfl) (fun w => by kernel_rfl)) hS ?_
    simp only [Act.put, List.setIfInBounds_toArray, List.set_cons_zero, List.set_cons_succ]
    refine takeAt 7 40 (.bool true) rfl rfl (by kernel_rfl) (by kernel_rfl) (by kernel_rfl) (fun _ _ _ h => h) (yields (by rfl) (fun w => by kernel_rfl)) hS ?_
    simp only [Act.put, List.setIfInBounds_toArray, List.set_cons_zero, List.set_cons_succ]
    refine takeAt 8 41 (.slice (some ⟨r, 0, none⟩) 1 cap) rfl rfl (by kernel_rfl) (by kernel_rfl) (by kernel_rfl) (fun _ _ _ h => h) (yields (by rfl) (fun w => by kernel_rfl)) hS ?_
    simp only [Act.put, List.setIfInBounds_toArray, List.set_cons_zero, List.set_cons_succ]
    refine takeAt 9 42 (.pointer (some ⟨r, 0, none⟩)) rfl rfl (by kernel_rfl) (by kernel_rfl) (by kernel_rfl) (fun _ _ _ h => h) (yields (by rfl) (fun w => by kernel_rfl)) hS ?_
    simp only [Act.put, List.setIfInBounds_toArray, List.set_cons_zero, List.set_cons_succ]
    refine takeAt 10 43 (tokV { tok0 0 with S := S }) rfl rfl (by kernel_rfl) (by kernel_rfl) (by kernel_rfl) (fun _ _ _ h => h) (loadTok_y _ (fun u h j hj => (h.cell (p := ⟨r, j, none⟩) hr).trans (HC.out j hj)) rfl rfl (by rfl)) hS ?_
    simp only [Act.put, List.setIfInBounds_toArray, List.set_cons_zero, List.set_cons_succ]
    refine takeAt 11 44 (setV S) rfl rfl (by kernel_rfl) (by kernel_rfl) (by kernel_rfl) (fun _ _ _ h => h) (loadSet_y S (fun u h => HX.out.below h HX.out.lt) rfl rfl (by rfl)) hS ?_
    simp only [Act.put, List.setIfInBounds_toArray, List.set_cons_zero, List.set_cons_succ]
    refine takeAt 12 45 (tokV { tok0 0 with S := S }) rfl rfl (by kernel_rfl) (by kernel_rfl) (by kernel_rfl) (fun _ _ _ h => h) (yields (by rfl) (fun w => by kernel_rfl)) hS ?_
    simp only [Act.put, List.setIfInBounds_toArray, List.set_cons_zero, List.set_cons_succ]
    refine takeAt 13 46 (.bool true) rfl rfl (by kernel_rfl) (by kernel_rfl) (by kernel_rfl) (fun _ _ _ h => h) (eqTok_y { tok0 0 with S := S } rfl rfl rfl (by rfl)) hS ?_
    simp only [Act.put, List.setIfInBounds_toArray, List.set_cons_zero, List.set_cons_succ]
    refine takeAt 14 47 (.bool true) rfl rfl (by kernel_rfl) (by kernel_rfl) (by kernel_rfl) (fun _ _ _ h => h) (yields (by rfl) (fun w => by kernel_rfl)) hS ?_
    simp only [Act.put, List.setIfInBounds_toArray, List.set_cons_zero, List.set_cons_succ]
    refine takeAt 15 48 (.bool true) rfl rfl (by kernel_rfl) (by kernel_rfl) (by kernel_rfl) (fun _ _ _ h => h) (yields (by rfl) (fun w => by kernel_rfl)) hS ?_
    simp only [Act.put, List.setIfInBounds_toArray, List.set_cons_zero, List.set_cons_succ]
    refine callAt 16 49 rfl rfl (by kernel_rfl) (by rfl) (by kernel_rfl) (HF.out _ (HT.out.call (thenB HB.out hS HB.out.size)).tp) ?_
    rintro e u8 ⟨rfl, hb⟩
    have hS := thenB hS hb hS.size
    refine ⟨_, rfl, hS, ?_⟩
    simp only [Act.put, List.setIfInBounds_toArray, List.set_cons_zero, List.set_cons_succ]
    clear hb
    refine takeAt 17 50 (.bool true) rfl rfl (by kernel_rfl) (by kernel_rfl) (by kernel_rfl) (fun _ _ _ h => h) (yields (by rfl) (fun w => by kernel_rfl)) hS ?_
    simp only [Act.put, List.setIfInBounds_toArray, List.set_cons_zero, List.set_cons_succ]
    refine takeAt 18 4 (.bool true) rfl rfl (by kernel_rfl) (by kernel_rfl) (by kernel_rfl) (fun _ _ _ h => h) (yields (by rfl) (fun w => by kernel_rfl)) hS ?_
    simp only [Act.put, List.setIfInBounds_toArray, List.set_cons_zero, List.set_cons_succ]
    refine wpAnyH_done (by kernel_rfl) ?_ _
    go_wp2
    go_ret
    exact ⟨rfl, thenB HB.out hS HB.out.size⟩
set_option maxRecDepth 100000 in
set_option maxHeartbeats 16000000 in
theorem showSets_unlike (K : PKit) (S T : BitVec 256) (X Y : ByteArray) (w : World) (hX : setP S = X) (hY : setP T = Y) (hST : S ≠ T) (hXY : X ≠ Y) (hw : TZ w) :
    Calls Tryz.prog 6 #[setV S, setV T] w fun e w' => e = .returned (.bool true) ∧ Below w.heap.size w w' := by
  have hb : decide (S = T) = false := decide_eq_false hST
  clear hST
  have HN := Lib.hid hXY
  clear hXY
  have HF := Lib.hid (fun w h => fixed_any K.sorts w h)
  have HA := Lib.hid (fun w h => set_at S X hX w h)
  have HBb := Lib.hid (fun w h => set_at T Y hY w h)
  have HL := Lib.hid (fun w (h : Tabs w) => lex_any K.errs K.clone X w h.err h.tab h.op)
  have HT := Lib.hid hw
  have HLx := Lib.hid (fun h : X.size ≤ 1000 => (show lexZ X = ([{ tok0 0 with S := S }], 0) by rw [← hX]; exact lex_set (by rw [hX]; exact h)))
  have HLy := Lib.hid (fun h : 1000 < X.size => lex_long h)
  have HB0 : Below w.heap.size w ((w.alloc (.cells #[.int .u64 (W S 0), .int .u64 (W S 1), .int .u64 (W S 2), .int .u64 (W S 3)] 28)).alloc (.cells #[.int .u64 (W T 0), .int .u64 (W T 1), .int .u64 (W T 2), .int .u64 (W T 3)] 28)) := ((Below.refl _ w).alloc (Nat.le_refl _) _).alloc (by simp) _
  have HX0 := (Box.new w S).alloc (.cells #[.int .u64 (W T 0), .int .u64 (W T 1), .int .u64 (W T 2), .int .u64 (W T 3)] 28)
  have HY0 := Box.new (w.alloc (.cells #[.int .u64 (W S 0), .int .u64 (W S 1), .int .u64 (W S 2), .int .u64 (W S 3)] 28)) T
  rw [show (w.alloc (.cells #[.int .u64 (W S 0), .int .u64 (W S 1), .int .u64 (W S 2), .int .u64 (W S 3)] 28)).heap.size = w.heap.size + 1 by simp] at HY0
  obtain ⟨W0, hW0⟩ : ∃ W0, W0 = (w.alloc (.cells #[.int .u64 (W S 0), .int .u64 (W S 1), .int .u64 (W S 2), .int .u64 (W S 3)] 28)).alloc (.cells #[.int .u64 (W T 0), .int .u64 (W T 1), .int .u64 (W T 2), .int .u64 (W T 3)] 28) := ⟨_, rfl⟩
  rw [← hW0] at HB0 HX0 HY0
  have HBw := Lib.hid HB0
  have HXb := Lib.hid HX0
  have HYb := Lib.hid HY0
  clear hX hY hw K HB0 HX0 HY0
  go_enter Tryz.func6, Tryz.ntmps6
  go_wp2_with fail
  rw [← hW0]
  clear hW0
  refine wp_region_held_drew (S := fun u => Below W0.heap.size W0 u) (by kernel_rfl) (show _ from (Below.refl _ _).drew) (fun hS => ?_)
  generalize World.drew W0 = u0 at hS ⊢
  refine takeAt 0 9 (setV S) rfl rfl (by kernel_rfl) (by kernel_rfl) (by kernel_rfl) (fun _ _ _ h => h) (loadSet_y S (fun u h => HXb.out.below h HXb.out.lt) rfl rfl (by rfl)) hS ?_
  simp only [Act.put, List.setIfInBounds_toArray, List.set_cons_zero, List.set_cons_succ]
  refine takeAt 2 11 (setV T) rfl rfl (by kernel_rfl) (by kernel_rfl) (by kernel_rfl) (fun _ _ _ h => h) (loadSet_y T (fun u h => HYb.out.below h HYb.out.lt) rfl rfl (by rfl)) hS ?_
  simp only [Act.put, List.setIfInBounds_toArray, List.set_cons_zero, List.set_cons_succ]
  refine callAt 1 10 rfl rfl (by kernel_rfl) (by rfl) (by kernel_rfl) (HA.out _ (HT.out.call (HBw.out.trans (hS.mono HBw.out.size))).tp) ?_
  rintro e u1 ⟨rfl, hb⟩
  have hS := thenB hS hb hS.size
  refine ⟨_, rfl, hS, ?_⟩
  simp only [Act.put, List.setIfInBounds_toArray, List.set_cons_zero, List.set_cons_succ]
  clear hb
  refine callAt 3 12 rfl rfl (by kernel_rfl) (by rfl) (by kernel_rfl) (HBb.out _ (HT.out.call (HBw.out.trans (hS.mono HBw.out.size))).tp) ?_
  rintro e u3 ⟨rfl, hb⟩
  have hS := thenB hS hb hS.size
  refine ⟨_, rfl, hS, ?_⟩
  simp only [Act.put, List.setIfInBounds_toArray, List.set_cons_zero, List.set_cons_succ]
  clear hb
  refine takeAt 4 5 (.string X) rfl rfl (by kernel_rfl) (by kernel_rfl) (by kernel_rfl) (fun _ _ _ h => h) (yields (by rfl) (fun w => by kernel_rfl)) hS ?_
  simp only [Act.put, List.setIfInBounds_toArray, List.set_cons_zero, List.set_cons_succ]
  refine takeAt 5 6 (.string Y) rfl rfl (by kernel_rfl) (by kernel_rfl) (by kernel_rfl) (fun _ _ _ h => h) (yields (by rfl) (fun w => by kernel_rfl)) hS ?_
  simp only [Act.put, List.setIfInBounds_toArray, List.set_cons_zero, List.set_cons_succ]
  refine wpAnyH_done (by kernel_rfl) ?_ _
  have HB := Lib.hid (HBw.out.trans (hS.mono HBw.out.size))
  have HX := Lib.hid (HXb.out.below hS HXb.out.lt)
  have HY := Lib.hid (HYb.out.below hS HYb.out.lt)
  clear hS HXb HYb HBw
  obtain ⟨x0, x1, x2, x3⟩ := HX.out.cells
  obtain ⟨y0, y1, y2, y3⟩ := HY.out.cells
  have e1 : (X.toList == Y.toList) = false := beq_eq_false_iff_ne.2 (fun e => HN.out (by rw [ByteArray.toList_eq, ByteArray.toList_eq] at e; exact ByteArray.ext (Array.ext' e)))
  go_wp2_with fail
  clear x0 x1 x2 x3 y0 y1 y2 y3 e1 hb
  refine (HL.out _ (HT.out.call HB.out).tabs).mono ?_
  rintro e w2 hg
  obtain ⟨v, rfl, ho, hb⟩ := hg
  replace HX := Lib.hid (HX.out.below hb HX.out.lt)
  replace HB := Lib.hid (thenB HB.out hb HB.out.size)
  clear hb
  by_cases hbig : 1000 < X.size
  · have q : (1000 : Int) < (X.size : Int) := by omega
    rw [HLy.out hbig] at ho ⊢
    clear ho hbig
    go_wp2_with fail
    refine (HF.out _ (HT.out.call HB.out).tp).mono ?_
    rintro e w3 ⟨rfl, hb⟩
    replace HB := Lib.hid (thenB HB.out hb HB.out.size)
    clear hb
    go_wp2_with fail
    go_ret
    exact ⟨rfl, HB.out⟩
  · have q : ¬ (1000 : Int) < (X.size : Int) := by omega
    rw [HLx.out (by omega)] at ho ⊢
    obtain ⟨r, cap, rfl, hr, hcs⟩ := tok_own ho
    have HC := Lib.hid hcs
    clear ho hbig hcs
    go_wp2_with fail
    refine wp_region_held_drew (S := fun u => Below w2.heap.size w2 u) (by kernel_rfl) (show _ from (Below.refl _ _).drew) (fun hS => ?_)
    generalize World.drew w2 = u7 at hS ⊢
    refine takeAt 0 33 (.int .i64 0) rfl rfl (by kernel_rfl) (by kernel_rfl) (by kernel_rfl) (fun _ _ _ h => h) (yields (by rfl) (fun w => by kernel_rfl)) hS ?_
    simp only [Act.put, List.setIfInBounds_toArray, List.set_cons_zero, List.set_cons_succ]
    refine takeAt 1 34 (.bool true) rfl rfl (by kernel_rfl) (by kernel_rfl) (by kernel_rfl) (fun _ _ _ h => h) (yields (by rfl) (fun w => by kernel_rfl)) hS ?_
    simp only [Act.put, List.setIfInBounds_toArray, List.set_cons_zero, List.set_cons_succ]
    refine takeAt 2 35 (.bool true) rfl rfl (by kernel_rfl) (by kernel_rfl) (by kernel_rfl) (fun _ _ _ h => h) (yields (by rfl) (fun w => by kernel_rfl)) hS ?_
    simp only [Act.put, List.setIfInBounds_toArray, List.set_cons_zero, List.set_cons_succ]
    refine takeAt 3 36 (.slice (some ⟨r, 0, none⟩) 1 cap) rfl rfl (by kernel_rfl) (by kernel_rfl) (by kernel_rfl) (fun _ _ _ h => h) (yields (by rfl) (fun w => by kernel_rfl)) hS ?_
    simp only [Act.put, List.setIfInBounds_toArray, List.set_cons_zero, List.set_cons_succ]
    refine takeAt 4 37 (.int .i64 1) rfl rfl (by kernel_rfl) (by kernel_rfl) (by kernel_rfl) (fun _ _ _ h => h) (yields (by rfl) (fun w => by kernel_rfl)) hS ?_
    simp only [Act.put, List.setIfInBounds_toArray, List.set_cons_zero, List.set_cons_succ]
    refine takeAt 5 38 (.bool true) rfl rfl (by kernel_rfl) (by kernel_rfl) (by kernel_rfl) (fun _ _ _ h => h) (yields (by rfl) (fun w => by kernel_rfl)) hS ?_
    simp only [Act.put, List.setIfInBounds_toArray, List.set_cons_zero, List.set_cons_succ]
    refine takeAt 6 39 (.bool true) rfl rfl (by kernel_rfl) (by kernel_rfl) (by kernel_rfl) (fun _ _ _ h => h) (yields (by rfl) (fun w => by kernel_rfl)) hS ?_
    simp only [Act.put, List.setIfInBounds_toArray, List.set_cons_zero, List.set_cons_succ]
    refine takeAt 7 40 (.bool true) rfl rfl (by kernel_rfl) (by kernel_rfl) (by kernel_rfl) (fun _ _ _ h => h) (yields (by rfl) (fun w => by kernel_rfl)) hS ?_
    simp only [Act.put, List.setIfInBounds_toArray, List.set_cons_zero, List.set_cons_succ]
    refine takeAt 8 41 (.slice (some ⟨r, 0, none⟩) 1 cap) rfl rfl (by kernel_rfl) (by kernel_rfl) (by kernel_rfl) (fun _ _ _ h => h) (yields (by rfl) (fun w => by kernel_rfl)) hS ?_
    simp only [Act.put, List.setIfInBounds_toArray, List.set_cons_zero, List.set_cons_succ]
    refine takeAt 9 42 (.pointer (some ⟨r, 0, none⟩)) rfl rfl (by kernel_rfl) (by kernel_rfl) (by kernel_rfl) (fun _ _ _ h => h) (yields (by rfl) (fun w => by kernel_rfl)) hS ?_
    simp only [Act.put, List.setIfInBounds_toArray, List.set_cons_zero, List.set_cons_succ]
    refine takeAt 10 43 (tokV { tok0 0 with S := S }) rfl rfl (by kernel_rfl) (by kernel_rfl) (by kernel_rfl) (fun _ _ _ h => h) (loadTok_y _ (fun u h j hj => (h.cell (p := ⟨r, j, none⟩) hr).trans (HC.out j hj)) rfl rfl (by rfl)) hS ?_
    simp only [Act.put, List.setIfInBounds_toArray, List.set_cons_zero, List.set_cons_succ]
    refine takeAt 11 44 (setV S) rfl rfl (by kernel_rfl) (by kernel_rfl) (by kernel_rfl) (fun _ _ _ h => h) (loadSet_y S (fun u h => HX.out.below h HX.out.lt) rfl rfl (by rfl)) hS ?_
    simp only [Act.put, List.setIfInBounds_toArray, List.set_cons_zero, List.set_cons_succ]
    refine takeAt 12 45 (tokV { tok0 0 with S := S }) rfl rfl (by kernel_rfl) (by kernel_rfl) (by kernel_rfl) (fun _ _ _ h => h) (yields (by rfl) (fun w => by kernel_rfl)) hS ?_
    simp only [Act.put, List.setIfInBounds_toArray, List.set_cons_zero, List.set_cons_succ]
    refine takeAt 13 46 (.bool true) rfl rfl (by kernel_rfl) (by kernel_rfl) (by kernel_rfl) (fun _ _ _ h => h) (eqTok_y { tok0 0 with S := S } rfl rfl rfl (by rfl)) hS ?_
    simp only [Act.put, List.setIfInBounds_toArray, List.set_cons_zero, List.set_cons_succ]
    refine takeAt 14 47 (.bool true) rfl rfl (by kernel_rfl) (by kernel_rfl) (by kernel_rfl) (fun _ _ _ h => h) (yields (by rfl) (fun w => by kernel_rfl)) hS ?_
    simp only [Act.put, List.setIfInBounds_toArray, List.set_cons_zero, List.set_cons_succ]
    refine takeAt 15 48 (.bool true) rfl rfl (by kernel_rfl) (by kernel_rfl) (by kernel_rfl) (fun _ _ _ h => h) (yields (by rfl) (fun w => by kernel_rfl)) hS ?_
    simp only [Act.put, List.setIfInBounds_toArray, List.set_cons_zero, List.set_cons_succ]
    refine callAt 16 49 rfl rfl (by kernel_rfl) (by rfl) (by kernel_rfl) (HF.out _ (HT.out.call (thenB HB.out hS HB.out.size)).tp) ?_
    rintro e u8 ⟨rfl, hb⟩
    have hS := thenB hS hb hS.size
    refine ⟨_, rfl, hS, ?_⟩
    simp only [Act.put, List.setIfInBounds_toArray, List.set_cons_zero, List.set_cons_succ]
    clear hb
    refine takeAt 17 50 (.bool true) rfl rfl (by kernel_rfl) (by kernel_rfl) (by kernel_rfl) (fun _ _ _ h => h) (yields (by rfl) (fun w => by kernel_rfl)) hS ?_
    simp only [Act.put, List.setIfInBounds_toArray, List.set_cons_zero, List.set_cons_succ]
    refine takeAt 18 4 (.bool true) rfl rfl (by kernel_rfl) (by kernel_rfl) (by kernel_rfl) (fun _ _ _ h => h) (yields (by rfl) (fun w => by kernel_rfl)) hS ?_
    simp only [Act.put, List.setIfInBounds_toArray, List.set_cons_zero, List.set_cons_succ]
    refine wpAnyH_done (by kernel_rfl) ?_ _
    go_wp2
    go_ret
    exact ⟨rfl, thenB HB.out hS HB.out.size⟩
theorem showSets_any (K : PKit) (S T : BitVec 256) (w : World) (hw : TZ w) : Calls Tryz.prog 6 #[setV S, setV T] w fun e w' => e = .returned (.bool true) ∧ Below w.heap.size w w' := by
  by_cases h : S = T
  · exact showSets_same K S T _ _ w rfl rfl h (by rw [h]) hw
  · exact showSets_unlike K S T _ _ w rfl rfl h (fun e => h (set_inj e)) hw
end Go.Proofs.YtfejdengpnikeaaGreatDoor
