import Derived.Test.YteggpecbeagohaaGreatDoorAstBM
import Derived.Test.YteggpecbeagohaaGreatDoorAstD
import Derived.Test.YteggpecbeagohaaGreatDoorTakeG
import Derived.Laws.AppendOwnNone
import Derived.Lib.SliceRun
import Derived.Laws.CopyRow
import Derived.Laws.IdiomCopy
import Derived.Laws.MakeOwn
import Derived.Test.YteggpecbeagohaaGreatDoorMz
namespace Go.Proofs.YteggpecbeagohaaGreatDoor.Ast
open Go.RowKit
def TreeRes (l : Nat → Nd) (n : Nat) (w : World) (e : Ending) (w' : World) : Prop :=
 ∃ A cap, e = .returned (.agg #[.slice A n cap]) ∧ w'.ownsRow w.heap.size 76 12 (.slice A n cap) n (cellsL l n) ∧ Below w.heap.size w w'
set_option maxHeartbeats 1000000 in
theorem leaf_any (x : Nd) (w : World) : Calls Tryz.prog 114 #[ndV x] w (TreeRes (fun _ => x) 1 w) := by
 go_enter Tryz.func114, Tryz.ntmps114
 go_wp2_with fail
 refine bodyPost_ret (v := .agg #[.slice (some ⟨w.heap.size + 1 + 1, 0, none⟩) 1 1]) (by simp [results, Tryz.results114, go_sem]) rfl ⟨_, _, rfl, ?_, by go_grown⟩
 have h := World.ownsRow_lit (base := w.heap.size) (e := 76) (size := 12) ((w.alloc (.cells #[.int .i64 x.k, .int .i64 x.a, .int .i64 x.b, .int .u64 x.s0, .int .u64 x.s1, .int .u64 x.s2, .int .u64 x.s3, .int .i64 x.mn, .int .i64 x.mx, .int .i64 x.md, .int .i64 x.n, .bool x.f] 76)).alloc (.cells #[.slice (some ⟨w.heap.size + 1 + 1, 0, none⟩) 1 1] 43)) #[.int .i64 x.k, .int .i64 x.a, .int .i64 x.b, .int .u64 x.s0, .int .u64 x.s1, .int .u64 x.s2, .int .u64 x.s3, .int .i64 x.mn, .int .i64 x.mx, .int .i64 x.md, .int .i64 x.n, .bool x.f] 1 (by simp; omega) (by unfold maxLen; omega) rfl
 rw [show cellsL (fun _ => x) 1 = ndC x by rw [cellsL_succ, cellsL_zero]; rfl]
 unfold ndC
 simpa using h
theorem nodes_cells {w : World} {b o n : Nat} {l : Nat → Nd} (h : NodesAt w b o n l) : ∀ j u, (cellsL l n)[j]? = some u → w.cell? (Addr.add ⟨b, o, none⟩ j) = some u := by
 intro j u hu
 have hj : j < n * 12 := by
  have := (List.getElem?_eq_some_iff.1 hu).1
  rwa [cellsL_length] at this
 have hi : j / 12 < n := by omega
 have hr : j % 12 < 12 := Nat.mod_lt _ (by omega)
 have e : j / 12 * 12 + j % 12 = j := by omega
 rw [← e, cellsL_get l n (j / 12) (j % 12) hi hr] at hu
 rw [Addr.add_lit, show o + j = o + j / 12 * 12 + j % 12 by omega, (h.2 (j / 12) hi).get (j % 12) hr, hu]
theorem cellsL_one (l : Nat → Nd) (n : Nat) : ∀ u ∈ cellsL l n, u.oneCell' = true := by
 intro u hu
 obtain ⟨i, _, hi⟩ := List.mem_flatMap.1 hu
 exact ndC_one _ u hi
set_option maxHeartbeats 1000000 in
theorem clone_any (A : Option Addr) (n cap : Nat) (l : Nat → Nd) (w : World) (hn : n ≤ 1000000) (hA : A = none → n = 0 ∧ cap = 0) (hl : Nodes w A n l) :
  Calls Tryz.prog 22 #[.slice A n cap] w fun e w' => ∃ v, e = .returned v ∧ w'.ownsRow w.heap.size 76 12 v n (cellsL l n) ∧ Below w.heap.size w w' := by
 obtain ⟨i0, hi, hz0, hz1, hz2⟩ := info_parts info45
 have HI := Lib.hid (And.intro hi (And.intro hz0 (And.intro hz1 hz2)))
 have HL := Lib.hid hl
 clear hi hz0 hz1 hz2 hl
 cases A with
 | none =>
   obtain ⟨rfl, rfl⟩ := hA rfl
   clear hA
   have he : ∀ w, (binOp .eql 41 (.slice none 0 0) (.slice none 0 0)).run Tryz.prog w = .ok (.bool true) w := fun w => Lib.run_eql_slice_nil (P := Tryz.prog) w 41 76 none 0 0 0 0 Tryz.underlying41
   go_enter Tryz.func22, Tryz.ntmps22
   go_wp2_with fail
   go_ret
   exact ⟨_, rfl, World.ownsRow_nil _ _ _ _, Below.refl _ _⟩
 | some ad =>
   clear hA
   have HC := Lib.hid (show ∀ j u, (cellsL l n)[j]? = some u → (w.alloc (.cells #[] 76)).cell? (ad.add j) = some u from fun j u hu => by
    have hn0 : 0 < n := by
     rcases Nat.eq_zero_or_pos n with h | h
     ·subst h; simp [cellsL_zero] at hu
     ·exact h
    obtain ⟨b, o, e, hN⟩ := (HL.out.below (B := w.heap.size) ((Below.refl w.heap.size w).alloc (Nat.le_refl _) (.cells #[] 76)) (Nat.le_refl _)).at_ hn0
    cases e
    exact nodes_cells hN j u hu)
   have he : ∀ w, (binOp .eql 41 (.slice (some ad) n cap) (.slice none 0 0)).run Tryz.prog w = .ok (.bool false) w := fun w => Lib.run_eql_slice_nil (P := Tryz.prog) w 41 76 (some ad) n cap 0 0 Tryz.underlying41
   go_enter Tryz.func22, Tryz.ntmps22
   go_wp2_with (at_builtin; refine wpList_append_own _ rfl _ _ 41 rfl w.heap.size 76 i0 _ 12 96 Tryz.underlying41 HI.out.1 HI.out.2.1 HI.out.2.2.1 HI.out.2.2.2 rfl (by decide) _ _ _ rfl (own_empty w 76 12 w.heap.size (Nat.le_refl _)) ad n cap (cellsL l n) rfl (cellsL_length l n) HC.out (cellsL_one l n) (by unfold maxLen; omega) (by omega) (by simp) ?_)
   intro v2 w2 hown2 hgrow2 _
   have HO := Lib.hid (show w2.ownsRow w.heap.size 76 12 v2 n (cellsL l n) by simpa using hown2)
   have HB := Lib.hid (((Below.refl w.heap.size w).alloc (Nat.le_refl _) (.cells #[] 76)).grown hgrow2 (by simp) (fun g hg => by simp [Value.ownBlock] at hg; omega))
   clear hown2 hgrow2
   go_wp2_with fail
   go_ret
   exact ⟨_, rfl, HO.out, HB.out⟩
section
variable {ops : Array Oper} {a : Act} {o : Oper}
theorem append_run {x y : Operand} (v v2 : Value) (hop : o.op = .call { callee := .builtin .append, args := #[x, y], argTypes := #[41, 41] }) (hx : a.eval x = v) (hy : a.eval y = v2) {w w' : World} {r : Value} (h : (Builtin.append_ #[41, 41] o.type #[v, v2]).run Tryz.prog w = .ok r w') : (execOp a.eval o).run Tryz.prog w = .ok (.value r) w' := by
 unfold execOp
 simp [hop, resolve, invoke, builtin, hx, hy, h, Result.andThen]
end
theorem own_oneCell {w : World} {base n : Nat} {T : TypeId} {v : Value} {size : Nat} {xs : List Value} (h : w.ownsRow base T size v n xs) : v.oneCell' = true := by
 rcases h.2 with ⟨rfl, _⟩ | ⟨g, cap, cur, rfl, _⟩ <;> rfl
theorem own_neT {w : World} {base n k : Nat} {v : Value} {xs : List Value} {cs : Array Value} (h : w.ownsRow base 76 12 v n xs) (hk : w.heap[k]? = some (.cells cs 43 (0, 0))) : some k ≠ v.ownBlock := by
 intro e
 rcases h.2 with ⟨rfl, _⟩ | ⟨g, cap, cur, rfl, _, hg, _⟩
 ·cases e
 ·cases e
  rw [hg] at hk
  simp at hk
theorem below_setRow {B g : Nat} {w0 w : World} (hb : Below B w0 w) (hg : B ≤ g) (cs : Array Value) : Below B w0 (w.setRow g cs) :=
 hb.trans ⟨rfl, rfl, rfl, by simp, fun k hk => setRow_other w g k cs (by omega)⟩
theorem own_setRow {w : World} {base n k : Nat} {v : Value} {xs : List Value} (h : w.ownsRow base 76 12 v n xs) (hk : some k ≠ v.ownBlock) (cs : Array Value) : (w.setRow k cs).ownsRow base 76 12 v n xs := by
 refine ⟨h.1, ?_⟩
 rcases h.2 with h2 | ⟨g, cap, cur, rfl, hb, hg, rest⟩
 ·exact .inl h2
 ·exact .inr ⟨g, cap, cur, rfl, hb, (setRow_other w k g cs (fun e => hk (by simp [Value.ownBlock]; exact e.symm))).trans hg, rest⟩
theorem infoT : (Tryz.prog.info? 43).map (·.size) = some 1 := by kernel_rfl
theorem own_base {w : World} {b b' n size : Nat} {T : TypeId} {v : Value} {xs : List Value} (h : w.ownsRow b T size v n xs) (hb : b' ≤ b) : w.ownsRow b' T size v n xs :=
 ⟨h.1, h.2.imp id (fun ⟨g, cap, cur, e, hg, r⟩ => ⟨g, cap, cur, e, Nat.le_trans hb hg, r⟩)⟩
section
variable {ops : Array Oper} {R : World → Prop} {a : Act} {o : Oper} {x : Operand}
theorem loadL_y (g : Nat) (v : Value) (hR : ∀ u, R u → u.cell? ⟨g, 0, none⟩ = some v) (ho : o.op = .load 41 x) (hx : a.eval x = .pointer (some ⟨g, 0, none⟩)) (hw : Region.wanted o (yielded ops a.tmps) = true) : YieldsIf Tryz.prog ops R o v a := by
 refine Or.inl ⟨hw, fun u h => ?_⟩
 have hc := hR u h
 unfold execOp
 simp only [ho, hx]
 go_simp
theorem loadR_y (g : Nat) (T : TypeId) (cs : Array Value) (fr : Nat × Nat) (hR : ∀ u, R u → u.heap[g]? = some (.cells cs T fr)) (ho : o.op = .load 76 x) (hx : a.eval x = .pointer (some ⟨g, 0, none⟩))
  (hi : (Tryz.prog.info? 76).map (·.size) = some cs.size) (hw : Region.wanted o (yielded ops a.tmps) = true) : YieldsIf Tryz.prog ops R o (.agg cs) a := by
 refine Or.inl ⟨hw, fun u h => ?_⟩
 have hl := run_loadVar_row u g T 76 cs fr _ (hR u h) Tryz.underlying76 rfl hi
 unfold execOp
 simp only [ho, hx, Instr.loadAt, Instr.sureAddr, Sem.run_bind, Sem.run_pure, Result.andThen_ok, hl]
end
theorem alloc_at (w : World) (o : Obj) (k : Nat) (h : k = w.heap.size) : (w.alloc o).heap[k]? = some o := h ▸ heap_alloc_new w o
theorem infoN : (Tryz.prog.info? 76).map (·.size) = some 12 := by kernel_rfl
def wrapL (l : Nat → Nd) (n : Nat) (x : Nd) : Nat → Nd := fun i => if i < n then l i else { x with a := (n : Int) - 1, b := 0 }
theorem wrap_cells (l : Nat → Nd) (n : Nat) (x : Nd) : cellsL (wrapL l n x) (n + 1) = cellsL l n ++ ndC { x with a := (n : Int) - 1, b := 0 } := by
 rw [cellsL_succ, cellsL_congr (l' := l) (fun i hi => by unfold wrapL; rw [if_pos hi])]
 unfold wrapL
 rw [if_neg (by omega)]
set_option maxHeartbeats 4000000 in
set_option maxRecDepth 100000 in
theorem wrap_any (A : Option Addr) (n cap : Nat) (l : Nat → Nd) (x : Nd) (w : World) (hn : n ≤ 1000000) (hA : A = none → n = 0 ∧ cap = 0) (hl : Nodes w A n l) :
  Calls Tryz.prog 137 #[.agg #[.slice A n cap], ndV x] w (TreeRes (wrapL l n x) (n + 1) w) := by
 obtain ⟨i0, hi, hz0, hz1, hz2⟩ := info_parts info45
 have HI := Lib.hid (And.intro hi (And.intro hz0 (And.intro hz1 hz2)))
 have HL := Lib.hid hl
 have HA := Lib.hid hA
 have HW := Lib.hid (wrap_cells l n x)
 obtain ⟨k, xa, xb, s0, s1, s2, s3, mn, mx, md, nn, f⟩ := x
 dsimp only at HW
 clear hi hz0 hz1 hz2 hl hA
 obtain ⟨W, hW⟩ : ∃ W, W = ((w.alloc (.cells #[.slice A n cap] 43)).alloc (.cells #[.int .i64 k, .int .i64 ((n : Int) - 1), .int .i64 0, .int .u64 s0, .int .u64 s1, .int .u64 s2, .int .u64 s3, .int .i64 mn, .int .i64 mx, .int .i64 md, .int .i64 nn, .bool f] 76)).alloc (.cells #[.slice none 0 0] 43) := ⟨_, rfl⟩
 have HWW := Lib.hid hW
 clear hW
 have hn0 : (0 : Int) ≤ n := by omega
 have hn1 : (n : Int) ≤ 1000000 := by omega
 go_enter Tryz.func137, Tryz.ntmps137
 go_wp2_with fail
 rw [← HWW.out]
 have hsz : W.heap.size = w.heap.size + 1 + 1 + 1 := by rw [HWW.out]; simp
 have hBW : Below w.heap.size w W := by
  rw [HWW.out]
  exact (((Below.refl _ _).alloc (Nat.le_refl _) _).alloc (by simp) _).alloc (by simp; omega) _
 have hT0 : W.drew.heap[w.heap.size + 1 + 1]? = some (.cells #[.slice none 0 0] 43 (0, 0)) := by
  rw [heap_drew, HWW.out]
  exact alloc_at _ _ _ (by simp)
 have hX0 : W.heap[w.heap.size + 1]? = some (.cells #[.int .i64 k, .int .i64 ((n : Int) - 1), .int .i64 0, .int .u64 s0, .int .u64 s1, .int .u64 s2, .int .u64 s3, .int .i64 mn, .int .i64 mx, .int .i64 md, .int .i64 nn, .bool f] 76 (0, 0)) := by
  rw [HWW.out, Below.heap_alloc _ _ _ (by simp)]
  exact alloc_at _ _ _ (by simp)
 have hA0 : W.cell? ⟨w.heap.size, 0, none⟩ = some (.slice A n cap) := by
  unfold World.cell?
  rw [HWW.out, Below.heap_alloc _ _ _ (by simp; omega), Below.heap_alloc _ _ _ (by simp), heap_alloc_new]
  rfl
 have hLW : Nodes W A n l := HL.out.below hBW (Nat.le_refl _)
 have hS : Below (w.heap.size + 1 + 1) W W.drew := (Below.refl _ W).drew
 have hLD : Nodes W.drew A n l := hLW.below (B := W.heap.size) (Below.refl _ W).drew (Nat.le_refl _)
 have hWd : w.heap.size + 1 + 1 ≤ W.drew.heap.size := by rw [heap_drew]; omega
 have hSx := hS.alloc hWd (.cells #[.int .i64 k, .int .i64 ((n : Int) - 1), .int .i64 0, .int .u64 s0, .int .u64 s1, .int .u64 s2, .int .u64 s3, .int .i64 mn, .int .i64 mx, .int .i64 md, .int .i64 nn, .bool f] 76)
 have hWe : (World.alloc W.drew (.cells #[.int .i64 k, .int .i64 ((n : Int) - 1), .int .i64 0, .int .u64 s0, .int .u64 s1, .int .u64 s2, .int .u64 s3, .int .i64 mn, .int .i64 mx, .int .i64 md, .int .i64 nn, .bool f] 76)).heap.size = w.heap.size + 1 + 1 + 1 + 1 := by rw [World.size_alloc, heap_drew, hsz]
 refine wp_region_held_drew (S := Below (w.heap.size + 1 + 1) W) (by kernel_rfl) hS (fun _ => ?_)
 refine takeAt 0 11 (.pointer (some ⟨w.heap.size, 0, none⟩)) rfl rfl (by kernel_rfl) (by kernel_rfl) (by kernel_rfl) i_ (yields (by rfl) (fun w => by kernel_rfl)) hS ?_
 simp only [Act.put, sA_, s0_, sS_]
 refine takeAt 1 12 (.slice A n cap) rfl rfl (by kernel_rfl) (by kernel_rfl) (by kernel_rfl) i_ (loadL_y w.heap.size _ (fun u h => (h.cell (p := ⟨w.heap.size, 0, none⟩) (show w.heap.size < w.heap.size + 1 + 1 by omega)).trans hA0) rfl rfl (by rfl)) hS ?_
 simp only [Act.put, sA_, s0_, sS_]
 refine takeAt 3 14 (.agg #[.int .i64 k, .int .i64 ((n : Int) - 1), .int .i64 0, .int .u64 s0, .int .u64 s1, .int .u64 s2, .int .u64 s3, .int .i64 mn, .int .i64 mx, .int .i64 md, .int .i64 nn, .bool f]) rfl rfl (by kernel_rfl) (by kernel_rfl) (by kernel_rfl) i_ (loadR_y (w.heap.size + 1) 76 _ (0, 0) (fun u h => (h.block (w.heap.size + 1) (show w.heap.size + 1 < w.heap.size + 1 + 1 by omega)).trans hX0) rfl rfl infoN (by rfl)) hS ?_
 simp only [Act.put, sA_, s0_, sS_]
 refine wpAnyH_ready (rs := [2, 4]) (by kernel_rfl) (by simp) ?_
 refine AllReadyH.cons rfl ?_ (AllReadyH.cons rfl ?_ AllReadyH.nil)
 ·refine callStep 2 13 rfl (by rfl) (by kernel_rfl) (clone_any A n cap l _ hn HA.out (hLD)) ?_
  rintro e u ⟨v1, rfl, hv, hb⟩
  have hSu : Below (w.heap.size + 1 + 1) W u := thenB hS hb (show w.heap.size + 1 + 1 ≤ W.heap.size by omega)
  have hTu := (hb.block (w.heap.size + 1 + 1) (show w.heap.size + 1 + 1 < W.heap.size by omega)).trans hT0
  have hsu : w.heap.size + 1 + 1 ≤ u.heap.size := Nat.le_trans (by omega) hSu.size
  refine ⟨_, rfl, hSu, ?_⟩
  simp only [Act.put, sA_, s0_, sS_]
  refine valAt 4 15 (.slice (some ⟨(u).heap.size, 0, none⟩) 1 1) (World.alloc (u) (.cells #[.int .i64 k, .int .i64 ((n : Int) - 1), .int .i64 0, .int .u64 s0, .int .u64 s1, .int .u64 s2, .int .u64 s3, .int .i64 mn, .int .i64 mx, .int .i64 md, .int .i64 nn, .bool f] 76)) rfl rfl (by kernel_rfl) (by rfl) (by kernel_rfl) (hSu.alloc hsu _) ?_
  simp only [Act.put, sA_, s0_, sS_]
  have hown0 := (own_base hv (show w.heap.size + 1 + 1 ≤ W.drew.heap.size from show w.heap.size + 1 + 1 ≤ W.heap.size by omega)).alloc (.cells #[.int .i64 k, .int .i64 ((n : Int) - 1), .int .i64 0, .int .u64 s0, .int .u64 s1, .int .u64 s2, .int .u64 s3, .int .i64 mn, .int .i64 mx, .int .i64 md, .int .i64 nn, .bool f] 76)
  have hSv := hSu.alloc hsu (.cells #[.int .i64 k, .int .i64 ((n : Int) - 1), .int .i64 0, .int .u64 s0, .int .u64 s1, .int .u64 s2, .int .u64 s3, .int .i64 mn, .int .i64 mx, .int .i64 md, .int .i64 nn, .bool f] 76)
  have hTv := (Below.heap_alloc u (.cells #[.int .i64 k, .int .i64 ((n : Int) - 1), .int .i64 0, .int .u64 s0, .int .u64 s1, .int .u64 s2, .int .u64 s3, .int .i64 mn, .int .i64 mx, .int .i64 md, .int .i64 nn, .bool f] 76) _ (Array.getElem?_eq_some_iff.1 hTu).1).trans hTu
  obtain ⟨v3, w3, hrun, own3, hgrow, hne⟩ := run_append_own (P := Tryz.prog) (World.alloc (u) (.cells #[.int .i64 k, .int .i64 ((n : Int) - 1), .int .i64 0, .int .u64 s0, .int .u64 s1, .int .u64 s2, .int .u64 s3, .int .i64 mn, .int .i64 mx, .int .i64 md, .int .i64 nn, .bool f] 76)) w.heap.size 41 41 76 i0 _ 12 96 Tryz.underlying41 HI.out.1 HI.out.2.1 HI.out.2.2.1 HI.out.2.2.2 rfl (by decide) v1 n (cellsL l n) (own_base hown0 (show w.heap.size ≤ w.heap.size + 1 + 1 by omega)) ⟨u.heap.size, 0, none⟩ 1 1 (ndC ⟨k, (n : Int) - 1, 0, s0, s1, s2, s3, mn, mx, md, nn, f⟩) rfl (new_cells u _ ⟨k, (n : Int) - 1, 0, s0, s1, s2, s3, mn, mx, md, nn, f⟩) (ndC_one _) (by unfold maxLen; omega) (by omega) (Nat.le_trans (by omega) hSv.size)
  have hB3 : ∀ g, v1.ownBlock = some g → w.heap.size + 1 + 1 ≤ g := fun g hg => (hown0.lt g hg).1
  have hS3 : Below (w.heap.size + 1 + 1) W w3 := hSv.grown hgrow (Nat.le_trans (by omega) hSv.size) hB3
  obtain ⟨A', cap', rfl, _⟩ := own_nodes (l := wrapL l n ⟨k, xa, xb, s0, s1, s2, s3, mn, mx, md, nn, f⟩) (HW.out ▸ own3)
  refine valAt 5 16 (.slice A' (n + 1) cap') w3 rfl rfl (by kernel_rfl) (by rfl) (append_run v1 (.slice (some ⟨u.heap.size, 0, none⟩) 1 1) rfl rfl rfl hrun) hS3 ?_
  simp only [Act.put, sA_, s0_, sS_]
  refine takeAt 6 17 (.agg #[.slice A' (n + 1) cap']) rfl rfl (by kernel_rfl) (by kernel_rfl) (by kernel_rfl) i_ (yields (by rfl) (fun w => by kernel_rfl)) hS3 ?_
  simp only [Act.put, sA_, s0_, sS_]
  have hT3 : w3.heap[w.heap.size + 1 + 1]? = some (.cells #[.slice none 0 0] 43 (0, 0)) := (hgrow.block _ (Array.getElem?_eq_some_iff.1 hTv).1 (own_neT (own_base hown0 (show w.heap.size ≤ w.heap.size + 1 + 1 by omega)) hTv)).trans hTv
  refine rowAt 7 43 (w.heap.size + 1 + 1) _ #[.slice A' (n + 1) cap'] rfl rfl rfl (by kernel_rfl) (by rfl) rfl rfl hT3 infoT rfl (by simp [own_oneCell own3]) (below_setRow hS3 (Nat.le_refl _) _) ?_
  refine wpAnyH_done (by kernel_rfl) ?_ _
  have HO := Lib.hid (own_setRow own3 (own_neT own3 hT3) #[.slice A' (n + 1) cap'])
  have HN := Lib.hid (setRow_heap _ (w.heap.size + 1 + 1) _ #[.slice A' (n + 1) cap'] _ _ hT3)
  have HB := Lib.hid (hBW.trans ((below_setRow hS3 (Nat.le_refl _) #[.slice A' (n + 1) cap']).mono (show w.heap.size ≤ w.heap.size + 1 + 1 by omega)))
  clear hS hS3 hT3 own3 hgrow hrun hB3
  go_wp2_with fail
  refine bodyPost_ret (results_cell_row rfl _ _ (w.heap.size + 1 + 1) _ _ _ _ rfl HN.out Tryz.underlying43 rfl infoT) rfl ?_
  exact ⟨A', cap', rfl, HW.out ▸ HO.out, HB.out⟩
 ·intro K hK
  rw [if_pos (by rfl)]
  unfold Oper.wp
  rw [show (execOp _ _).run Tryz.prog W.drew = .ok (.value (.slice (some ⟨(W.drew).heap.size, 0, none⟩) 1 1)) (World.alloc (W.drew) (.cells #[.int .i64 k, .int .i64 ((n : Int) - 1), .int .i64 0, .int .u64 s0, .int .u64 s1, .int .u64 s2, .int .u64 s3, .int .i64 mn, .int .i64 mx, .int .i64 md, .int .i64 nn, .bool f] 76)) from by kernel_rfl, Oper.upon_value]
  refine hK.out (Act.put _ (some 15) _) _ hSx (fun _ => ?_)
  simp only [Act.put, sA_, s0_, sS_]
  refine callAt 2 13 rfl rfl (by kernel_rfl) (by rfl) (by kernel_rfl) (clone_any A n cap l _ hn HA.out (hLD.below (B := W.drew.heap.size) ((Below.refl _ W.drew).alloc (Nat.le_refl _) _) (Nat.le_refl _))) ?_
  rintro e u ⟨v1, rfl, hv, hb⟩
  have hSu : Below (w.heap.size + 1 + 1) W u := thenB hSx hb (by rw [hWe]; omega)
  have hTu := (hb.block (w.heap.size + 1 + 1) (by rw [hWe]; omega)).trans ((Below.heap_alloc W.drew (.cells #[.int .i64 k, .int .i64 ((n : Int) - 1), .int .i64 0, .int .u64 s0, .int .u64 s1, .int .u64 s2, .int .u64 s3, .int .i64 mn, .int .i64 mx, .int .i64 md, .int .i64 nn, .bool f] 76) _ (Array.getElem?_eq_some_iff.1 hT0).1).trans hT0)
  have hsu : w.heap.size + 1 + 1 ≤ u.heap.size := Nat.le_trans (by omega) hSu.size
  refine ⟨_, rfl, hSu, ?_⟩
  simp only [Act.put, sA_, s0_, sS_]
  have hown0 := own_base hv (show w.heap.size + 1 + 1 ≤ (World.alloc W.drew (.cells #[.int .i64 k, .int .i64 ((n : Int) - 1), .int .i64 0, .int .u64 s0, .int .u64 s1, .int .u64 s2, .int .u64 s3, .int .i64 mn, .int .i64 mx, .int .i64 md, .int .i64 nn, .bool f] 76)).heap.size by rw [hWe]; omega)
  obtain ⟨v3, w3, hrun, own3, hgrow, hne⟩ := run_append_own (P := Tryz.prog) (u) w.heap.size 41 41 76 i0 _ 12 96 Tryz.underlying41 HI.out.1 HI.out.2.1 HI.out.2.2.1 HI.out.2.2.2 rfl (by decide) v1 n (cellsL l n) (own_base hown0 (show w.heap.size ≤ w.heap.size + 1 + 1 by omega)) ⟨W.drew.heap.size, 0, none⟩ 1 1 (ndC ⟨k, (n : Int) - 1, 0, s0, s1, s2, s3, mn, mx, md, nn, f⟩) rfl (fun j u h => (hb.cell (World.block_lt_of_cell? _ _ (new_cells W.drew _ ⟨k, (n : Int) - 1, 0, s0, s1, s2, s3, mn, mx, md, nn, f⟩ j u h))).trans (new_cells W.drew _ ⟨k, (n : Int) - 1, 0, s0, s1, s2, s3, mn, mx, md, nn, f⟩ j u h)) (ndC_one _) (by unfold maxLen; omega) (by omega) (Nat.le_trans (by omega) hSu.size)
  have hB3 : ∀ g, v1.ownBlock = some g → w.heap.size + 1 + 1 ≤ g := fun g hg => (hown0.lt g hg).1
  have hS3 : Below (w.heap.size + 1 + 1) W w3 := hSu.grown hgrow (Nat.le_trans (by omega) hSu.size) hB3
  obtain ⟨A', cap', rfl, _⟩ := own_nodes (l := wrapL l n ⟨k, xa, xb, s0, s1, s2, s3, mn, mx, md, nn, f⟩) (HW.out ▸ own3)
  refine valAt 5 16 (.slice A' (n + 1) cap') w3 rfl rfl (by kernel_rfl) (by rfl) (append_run v1 (.slice (some ⟨W.drew.heap.size, 0, none⟩) 1 1) rfl rfl rfl hrun) hS3 ?_
  simp only [Act.put, sA_, s0_, sS_]
  refine takeAt 6 17 (.agg #[.slice A' (n + 1) cap']) rfl rfl (by kernel_rfl) (by kernel_rfl) (by kernel_rfl) i_ (yields (by rfl) (fun w => by kernel_rfl)) hS3 ?_
  simp only [Act.put, sA_, s0_, sS_]
  have hT3 : w3.heap[w.heap.size + 1 + 1]? = some (.cells #[.slice none 0 0] 43 (0, 0)) := (hgrow.block _ (Array.getElem?_eq_some_iff.1 hTu).1 (own_neT (own_base hown0 (show w.heap.size ≤ w.heap.size + 1 + 1 by omega)) hTu)).trans hTu
  refine rowAt 7 43 (w.heap.size + 1 + 1) _ #[.slice A' (n + 1) cap'] rfl rfl rfl (by kernel_rfl) (by rfl) rfl rfl hT3 infoT rfl (by simp [own_oneCell own3]) (below_setRow hS3 (Nat.le_refl _) _) ?_
  refine wpAnyH_done (by kernel_rfl) ?_ _
  have HO := Lib.hid (own_setRow own3 (own_neT own3 hT3) #[.slice A' (n + 1) cap'])
  have HN := Lib.hid (setRow_heap _ (w.heap.size + 1 + 1) _ #[.slice A' (n + 1) cap'] _ _ hT3)
  have HB := Lib.hid (hBW.trans ((below_setRow hS3 (Nat.le_refl _) #[.slice A' (n + 1) cap']).mono (show w.heap.size ≤ w.heap.size + 1 + 1 by omega)))
  clear hS hS3 hT3 own3 hgrow hrun hB3
  go_wp2_with fail
  refine bodyPost_ret (results_cell_row rfl _ _ (w.heap.size + 1 + 1) _ _ _ _ rfl HN.out Tryz.underlying43 rfl infoT) rfl ?_
  exact ⟨A', cap', rfl, HW.out ▸ HO.out, HB.out⟩
end Go.Proofs.YteggpecbeagohaaGreatDoor.Ast
namespace Go.Proofs.YteggpecbeagohaaGreatDoor.Ast
open Go.RowKit
def joinL (la : Nat → Nd) (n : Nat) (lb : Nat → Nd) (m : Nat) (kind : Int) : Nat → Nd := fun i =>
 if i < n then la i else if i < n + m then mvN (lb (i - n)) n else ⟨kind, (n : Int) - 1, if m = 0 then -1 else (n : Int) + m - 1, 0, 0, 0, 0, 0, 0, 0, 0, false⟩
theorem join_a (la : Nat → Nd) (n : Nat) (lb : Nat → Nd) (m : Nat) (kind : Int) {i : Nat} (h : i < n) : joinL la n lb m kind i = la i := if_pos h
theorem join_b (la : Nat → Nd) (n : Nat) (lb : Nat → Nd) (m : Nat) (kind : Int) {k : Nat} (h : k < m) : joinL la n lb m kind (n + k) = mvN (lb k) n := by
 unfold joinL
 rw [if_neg (by omega), if_pos (by omega), show n + k - n = k by omega]
theorem join_top (la : Nat → Nd) (n : Nat) (lb : Nat → Nd) (m : Nat) (kind : Int) : joinL la n lb m kind (n + m) = ⟨kind, (n : Int) - 1, if m = 0 then -1 else (n : Int) + m - 1, 0, 0, 0, 0, 0, 0, 0, 0, false⟩ := by
 unfold joinL
 rw [if_neg (by omega), if_neg (by omega)]
section
theorem run_copy12 (w : World) (ty : TypeId) (g dLen dCap : Nat) (a : Addr) (sLen sCap : Nat) (cur : Array Value) (t : TypeId) (cs : List Value)
  (hg : w.heap[g]? = some (.cells cur t (0, 0))) (hn : cs.length = Nat.min sLen dLen * 12)
  (hsrc : ∀ j v, cs[j]? = some v → w.cell? (a.add j) = some v) (hfit : cs.length ≤ cur.size) (h1 : ∀ v ∈ cs, v.oneCell' = true) :
  (Builtin.copy_ #[41, 41] ty #[.slice (some ⟨g, 0, none⟩) dLen dCap, .slice (some a) sLen sCap]).run Tryz.prog w =
   .ok (goInt (Nat.min sLen dLen)) (w.setRow g (cs ++ cur.toList.drop cs.length).toArray) := by
 have hl := run_loadCells_list (P := Tryz.prog) w a cs hsrc
 have hst := run_storeCells_at Tryz.prog g 0 t cs 0 cur w hg (by simpa using hfit) h1
 obtain ⟨i, hi, -, hs, -⟩ := info_parts info45
 simp only [Nat.add_zero, Nat.zero_add, List.take_zero, List.nil_append] at hst
 simp [Builtin.copy_, run_underlying Tryz.underlying41, Builtin.lenOf, Builtin.firstCells, sizeOf, typeInfo, hi, hs, ← hn, hl, hst]
theorem run_copy12_nil (w : World) (ty : TypeId) (a : Addr) (dLen dCap : Nat) :
  (Builtin.copy_ #[41, 41] ty #[.slice (some a) dLen dCap, .slice none 0 0]).run Tryz.prog w = .ok (goInt 0) w :=
 run_copy_nil Tryz.prog w _ _ ty 76 a dLen dCap Tryz.underlying41 (by kernel_rfl)
theorem copy12_any {w : World} (g n c : Nat) (A : Option Addr) (cap : Nat) (l : Nat → Nd) (hA : A = none → n = 0 ∧ cap = 0)
  (cur : Array Value) (t : TypeId) (hg : w.heap[g]? = some (.cells cur t (0, 0))) (hl : Nodes w A n l) (hfit : n * 12 ≤ cur.size) (B : Nat) (hBg : B ≤ g) :
  ∃ w', (∀ ty, (Builtin.copy_ #[41, 41] ty #[.slice (some ⟨g, 0, none⟩) n c, .slice A n cap]).run Tryz.prog w = .ok (.int .i64 n) w') ∧ w'.heap[g]? = some (.cells (cellsL l n ++ cur.toList.drop (n * 12)).toArray t (0, 0)) ∧ Below B w w' := by
 cases A with
 | none =>
   obtain ⟨rfl, rfl⟩ := hA rfl
   exact ⟨w, fun ty => run_copy12_nil w ty ⟨g, 0, none⟩ 0 c, by simpa [cellsL_zero] using hg, Below.refl _ _⟩
 | some ad =>
   have hsrc : ∀ j u, (cellsL l n)[j]? = some u → w.cell? (ad.add j) = some u := fun j u hu => by
    have hn0 : 0 < n := by
     rcases Nat.eq_zero_or_pos n with h | h
     ·subst h; simp [cellsL_zero] at hu
     ·exact h
    obtain ⟨b, o, e, hN⟩ := hl.at_ hn0
    cases e
    exact nodes_cells hN j u hu
   have hrun := fun ty => run_copy12 w ty g n c ad n cap cur t (cellsL l n) hg (by rw [cellsL_length, show Nat.min n n = n from Nat.min_self n]) hsrc (by rw [cellsL_length]; exact hfit) (cellsL_one l n)
   simp only [cellsL_length, show Nat.min n n = n from Nat.min_self n] at hrun
   exact ⟨_, hrun, setRow_heap w g _ _ t _ hg, below_setRow (Below.refl _ _) hBg _⟩
theorem make_nodes (n m : Nat) (hn : n ≤ 1000000) (hm : m ≤ 1000000) (w : World) : (Instr.makeSlice 41 (.int .i64 (n : Int)) (.int .i64 ((n : Int) + m + 1))).run Tryz.prog w = .ok (.slice (some ⟨w.heap.size, 0, none⟩) n (n + m + 1)) (w.alloc (.cells (madeCells #[.int .i64 0, .int .i64 0, .int .i64 0, .int .u64 0, .int .u64 0, .int .u64 0, .int .u64 0, .int .i64 0, .int .i64 0, .int .i64 0, .int .i64 0, .bool false] ((n + m + 1) * 12)) 76)) := by
 obtain ⟨i, hi, hz, hs, hb⟩ := info_parts info45
 have hr := run_make (P := Tryz.prog) w 41 76 i _ Tryz.underlying41 hi hz .i64 .i64 n ((n : Int) + m + 1) (by omega) (by omega) (by rw [hb]; omega) (by omega)
 rw [show ((n : Int) + m + 1).toNat = n + m + 1 by omega] at hr
 simp only [Int.toNat_natCast, hs] at hr
 exact hr
end
set_option maxRecDepth 20000 in
set_option maxHeartbeats 4000000 in
theorem join_any (A : Option Addr) (n cap : Nat) (la : Nat → Nd) (B : Option Addr) (m cap2 : Nat) (lb : Nat → Nd) (kind : Int) (w : World) (hn : n ≤ 1000000) (hm : m ≤ 1000000) (hA : A = none → n = 0 ∧ cap = 0) (_hB : B = none → m = 0 ∧ cap2 = 0) (hl : Nodes w A n la) (hl2 : Nodes w B m lb) :
  Calls Tryz.prog 112 #[.agg #[.slice A n cap], .agg #[.slice B m cap2], .int .i64 kind] w (TreeRes (joinL la n lb m kind) (n + m + 1) w) := by
 obtain ⟨i0, hi, hz0, hz1, hz2⟩ := info_parts info45
 have HI := Lib.hid (And.intro hi (And.intro hz0 (And.intro hz1 hz2)))
 have HL := Lib.hid hl
 have HM := Lib.hid hl2
 have HA := Lib.hid hA
 clear hi hz0 hz1 hz2 hl hl2 hA
 obtain ⟨Z, hZ, hmk⟩ : ∃ Z : Array Value, Z.size = (n + m + 1) * 12 ∧ ∀ w, (Instr.makeSlice 41 (.int .i64 (n : Int)) (.int .i64 ((n : Int) + m + 1))).run Tryz.prog w = .ok (.slice (some ⟨w.heap.size, 0, none⟩) n (n + m + 1)) (w.alloc (.cells Z 76)) := ⟨_, size_madeCells _ _, make_nodes n m hn hm⟩
 have HZ := Lib.hid hZ
 clear hZ
 have hn0 : (0 : Int) ≤ n := by omega
 have hn1 : (n : Int) ≤ 1000000 := by omega
 have hm0 : (0 : Int) ≤ m := by omega
 have hm1 : (m : Int) ≤ 1000000 := by omega
 go_enter Tryz.func112, Tryz.ntmps112
 obtain ⟨w1, hcp, hR1, hB1⟩ := copy12_any (w := World.alloc (World.alloc (World.alloc (World.alloc w (.cells #[.slice A n cap] 43)) (.cells #[.slice B m cap2] 43)) (.cells #[.slice none 0 0] 43)) (.cells Z 76)) (w.heap.size + 1 + 1 + 1) n (n + m + 1) A cap la HA.out Z 76 (alloc_at _ _ _ (by simp)) (HL.out.below (B := w.heap.size) (by go_grown) (Nat.le_refl _)) (by rw [HZ.out]; omega) (w.heap.size + 1 + 1 + 1) (Nat.le_refl _)
 have HR1 := Lib.hid hR1
 have HB1 := Lib.hid hB1
 clear hR1 hB1
 have hbx : w1.cell? ⟨w.heap.size + 1, 0, none⟩ = some (.slice B m cap2) := by
  rw [HB1.out.cell (p := ⟨w.heap.size + 1, 0, none⟩) (show w.heap.size + 1 < w.heap.size + 1 + 1 + 1 by omega)]
  unfold World.cell?
  rw [Below.heap_alloc _ _ _ (by simp), Below.heap_alloc _ _ _ (by simp), alloc_at _ _ _ (by simp)]
  rfl
 have hT1 : w1.heap[w.heap.size + 1 + 1]? = some (.cells #[.slice none 0 0] 43 (0, 0)) := by
  rw [HB1.out.block (w.heap.size + 1 + 1) (by omega), Below.heap_alloc _ _ _ (by simp), alloc_at _ _ _ (by simp)]
 have hsz1 : w.heap.size + 1 + 1 + 1 ≤ w1.heap.size := Nat.le_trans (by simp) HB1.out.size
 have hW1 : Below w.heap.size w w1 := Below.trans (by go_grown) (HB1.out.mono (show w.heap.size ≤ w.heap.size + 1 + 1 + 1 by omega))
 have hO1 : w1.ownsRow (w.heap.size + 1 + 1 + 1) 76 12 (.slice (some ⟨w.heap.size + 1 + 1 + 1, 0, none⟩) n (n + m + 1)) (n + 0) (cellsL (joinL la n lb m kind) (n + 0)) := by
  refine ⟨by rw [cellsL_length], .inr ⟨_, _, _, rfl, Nat.le_refl _, HR1.out, by omega, by unfold maxLen; omega, by simp [cellsL_length, HZ.out]; omega, ?_⟩⟩
  rw [Nat.add_zero, cellsL_congr (fun i hi => join_a la n lb m kind hi)]
  simp [← cellsL_length la n]
 have HT1 := Lib.hid hT1
 have HW1 := Lib.hid hW1
 have HS1 := Lib.hid hsz1
 have HO1 := Lib.hid hO1
 have HBX := Lib.hid hbx
 clear hT1 hW1 hsz1 hO1
 go_wp2_with fail
 clear hcp hbx hmk
 go_loopw [8, 30] (fun v i wr => ∃ k : Nat, k ≤ m ∧ i = .int .i64 k ∧ wr.ownsRow (w.heap.size + 1 + 1 + 1) 76 12 v (n + k) (cellsL (joinL la n lb m kind) (n + k)) ∧ Below (w.heap.size + 1 + 1 + 1) w1 wr) (fun _ i _ => m - (intOf i).toNat)
 case atStart => exact ⟨0, Nat.zero_le _, rfl, HO1.out, Below.refl _ _⟩
 case round =>
  obtain ⟨k, hk, rfl, hown, hb⟩ := hrel
  have HO := Lib.hid hown
  have HB := Lib.hid hb
  clear hown hb
  have HSZ := Lib.hid (show w.heap.size + 1 + 1 + 1 ≤ wr.heap.size from Nat.le_trans HS1.out HB.out.size)
  have HBW := Lib.hid (HW1.out.trans (HB.out.mono (show w.heap.size ≤ w.heap.size + 1 + 1 + 1 by omega)))
  by_cases hlt : k < m
  ·obtain ⟨b, o, rfl, hbw, hx⟩ := (HM.out.below HBW.out (Nat.le_refl _)) k hlt
   obtain ⟨c0, c1, c2, c3, c4, c5, c6, c7, c8, c9, c10, c11⟩ := hx
   go_wp2_with fail
   refine (moved_any (lb k) n _).mono ?_
   rintro e w2 ⟨rfl, hb⟩
   have HO2 := Lib.hid (own_call (HO.out.alloc _) hb)
   have HB2 := Lib.hid (thenB (HB.out.alloc HSZ.out _) hb (Nat.le_trans HSZ.out (by simp)))
   have HS2 := Lib.hid (show w.heap.size + 1 + 1 + 1 ≤ w2.heap.size from Nat.le_trans HS1.out HB2.out.size)
   clear hb c0 c1 c2 c3 c4 c5 c6 c7 c8 c9 c10 c11
   go_wp2_with (at_builtin; refine wpList_append_own _ rfl _ _ 41 rfl (w.heap.size + 1 + 1 + 1) 76 i0 _ 12 96 Tryz.underlying41 HI.out.1 HI.out.2.1 HI.out.2.2.1 HI.out.2.2.2 rfl (by decide) _ _ _ rfl (HO2.out.alloc _) ⟨w2.heap.size, 0, none⟩ 1 1 (ndC (mvN (lb k) n)) rfl rfl (new_cells w2 _ (mvN (lb k) n)) (ndC_one _) (by unfold maxLen; omega) (by omega) (by have := HS2.out; simp; omega) ?_)
   intro v3 w3 hown3 hgrow3 _
   rw [← join_b la n lb m kind hlt, ← cellsL_succ] at hown3
   have HO3 := Lib.hid hown3
   have hown : ∀ g, u8.ownBlock = some g → w.heap.size + 1 + 1 + 1 ≤ g := fun g hg => (HO2.out.lt g hg).1
   have HB3 := Lib.hid ((HB2.out.alloc HS2.out _).grown hgrow3 (Nat.le_trans HS2.out (by simp)) hown)
   clear hown3 hgrow3 hown
   go_wp2_with fail
   go_roundw
   case rel => exact ⟨k + 1, by omega, by go_num, HO3.out, HB3.out⟩
   case measure => simp [intOf]; omega
  ·obtain rfl : k = m := by omega
   obtain ⟨A', cap', rfl, -, -, -⟩ := own_nodes HO.out
   have hT := (HB.out.block (w.heap.size + 1 + 1) (show w.heap.size + 1 + 1 < w.heap.size + 1 + 1 + 1 by omega)).trans HT1.out
   have HT := Lib.hid hT
   have hbx : ∀ o, (World.alloc wr o).cell? ⟨w.heap.size + 1, 0, none⟩ = some (.slice B k cap2) := fun o => (World.cell?_of_block (Below.heap_alloc wr o _ (show w.heap.size + 1 < wr.heap.size from by have := HSZ.out; omega))).trans ((HB.out.cell (p := ⟨w.heap.size + 1, 0, none⟩) (show w.heap.size + 1 < w.heap.size + 1 + 1 + 1 by omega)).trans HBX.out)
   clear hT
   by_cases hz : k = 0
   ·subst hz
    have HOX : Hid (wr.ownsRow (w.heap.size + 1 + 1 + 1) 76 12 (.slice A' n cap') n (cellsL (joinL la n lb 0 kind) n)) := HO
    have HJ := Lib.hid (show joinL la n lb 0 kind n = _ from (join_top la n lb 0 kind).trans (by rw [if_pos rfl]))
    have HNW := Lib.hid (show ∀ j u, (ndC ⟨kind, (n : Int) - 1, -1, 0, 0, 0, 0, 0, 0, 0, 0, false⟩)[j]? = some u → (World.alloc (World.alloc wr (.cells #[.int .i64 kind, .int .i64 ((n : Int) - 1), .int .i64 (-1), .int .u64 0, .int .u64 0, .int .u64 0, .int .u64 0, .int .i64 0, .int .i64 0, .int .i64 0, .int .i64 0, .bool false] 76)) (.cells #[.int .i64 kind, .int .i64 ((n : Int) - 1), .int .i64 (-1), .int .u64 0, .int .u64 0, .int .u64 0, .int .u64 0, .int .i64 0, .int .i64 0, .int .i64 0, .int .i64 0, .bool false] 76)).cell? (Addr.add ⟨wr.heap.size + 1, 0, none⟩ j) = some u by
     have h := new_cells (World.alloc wr (.cells #[.int .i64 kind, .int .i64 ((n : Int) - 1), .int .i64 (-1), .int .u64 0, .int .u64 0, .int .u64 0, .int .u64 0, .int .i64 0, .int .i64 0, .int .i64 0, .int .i64 0, .bool false] 76)) 76 ⟨kind, (n : Int) - 1, -1, 0, 0, 0, 0, 0, 0, 0, 0, false⟩
     rw [World.size_alloc] at h
     exact h)
    go_wp2_with (at_builtin; refine wpList_append_own _ rfl _ _ 41 rfl (w.heap.size + 1 + 1 + 1) 76 i0 _ 12 96 Tryz.underlying41 HI.out.1 HI.out.2.1 HI.out.2.2.1 HI.out.2.2.2 rfl (by decide) _ _ _ rfl ((HOX.out.alloc _).alloc _) ⟨wr.heap.size + 1, 0, none⟩ 1 1 (ndC ⟨kind, (n : Int) - 1, -1, 0, 0, 0, 0, 0, 0, 0, 0, false⟩) rfl rfl HNW.out (ndC_one _) (by unfold maxLen; omega) (by omega) (by have := HSZ.out; simp; omega) ?_)
    intro v3 w3 hown3 hgrow3 _
    rw [← HJ.out, ← cellsL_succ] at hown3
    have hB3 := ((HB.out.alloc HSZ.out (.cells #[.int .i64 kind, .int .i64 ((n : Int) - 1), .int .i64 (-1), .int .u64 0, .int .u64 0, .int .u64 0, .int .u64 0, .int .i64 0, .int .i64 0, .int .i64 0, .int .i64 0, .bool false] 76)).alloc (by have := HSZ.out; simp only [World.size_alloc]; omega) (.cells #[.int .i64 kind, .int .i64 ((n : Int) - 1), .int .i64 (-1), .int .u64 0, .int .u64 0, .int .u64 0, .int .u64 0, .int .i64 0, .int .i64 0, .int .i64 0, .int .i64 0, .bool false] 76)).grown hgrow3 (by have := HSZ.out; simp only [World.size_alloc]; omega) (fun g hg => (HOX.out.lt g hg).1)
    have hT3 : w3.heap[w.heap.size + 1 + 1]? = some (.cells #[.slice none 0 0] 43 (0, 0)) := (hB3.block (w.heap.size + 1 + 1) (by omega)).trans HT1.out
    obtain ⟨A3, cap3, rfl, -, -, -⟩ := own_nodes hown3
    have HO3 := Lib.hid hown3
    have HB3 := Lib.hid hB3
    have HT3 := Lib.hid hT3
    have c3 := cell_of_one hT3
    have f3 := frozen_of_row w3 (w.heap.size + 1 + 1) 0 _ _ hT3
    clear hown3 hgrow3 hB3 hT3 hbx
    go_wp2_with fail
    rw [setCell_eq_setRow w3 (w.heap.size + 1 + 1) 0 #[.slice none 0 0] 43 (0, 0) _ HT3.out, show (#[(.slice none 0 0 : Value)]).setIfInBounds 0 (.slice A3 (n + 1) cap3) = #[.slice A3 (n + 1) cap3] from rfl]
    refine bodyPost_ret (results_cell_row rfl _ _ (w.heap.size + 1 + 1) _ _ _ _ rfl (setRow_heap _ _ _ _ _ _ HT3.out) Tryz.underlying43 rfl infoT) rfl ?_
    exact ⟨A3, cap3, rfl, own_base (own_setRow HO3.out (own_neT HO3.out HT3.out) _) (by omega), HW1.out.trans (below_setRow (HB3.out.mono (show w.heap.size ≤ w.heap.size + 1 + 1 + 1 by omega)) (by omega) _)⟩
   ·have hz1 : ((k : Int) == 0) = false := by rw [beq_eq_false_iff_ne]; omega
    have hz2 : decide ((k : Int) = 0) = false := by rw [decide_eq_false_iff_not]; omega
    have HOX := HO
    have HJ := Lib.hid ((join_top la n lb k kind).trans (by rw [if_neg hz]))
    have HNW := Lib.hid (show ∀ j u, (ndC ⟨kind, (n : Int) - 1, (n : Int) + k - 1, 0, 0, 0, 0, 0, 0, 0, 0, false⟩)[j]? = some u → (World.alloc (World.alloc wr (.cells #[.int .i64 kind, .int .i64 ((n : Int) - 1), .int .i64 ((n : Int) + k - 1), .int .u64 0, .int .u64 0, .int .u64 0, .int .u64 0, .int .i64 0, .int .i64 0, .int .i64 0, .int .i64 0, .bool false] 76)) (.cells #[.int .i64 kind, .int .i64 ((n : Int) - 1), .int .i64 ((n : Int) + k - 1), .int .u64 0, .int .u64 0, .int .u64 0, .int .u64 0, .int .i64 0, .int .i64 0, .int .i64 0, .int .i64 0, .bool false] 76)).cell? (Addr.add ⟨wr.heap.size + 1, 0, none⟩ j) = some u by
     have h := new_cells (World.alloc wr (.cells #[.int .i64 kind, .int .i64 ((n : Int) - 1), .int .i64 ((n : Int) + k - 1), .int .u64 0, .int .u64 0, .int .u64 0, .int .u64 0, .int .i64 0, .int .i64 0, .int .i64 0, .int .i64 0, .bool false] 76)) 76 ⟨kind, (n : Int) - 1, (n : Int) + k - 1, 0, 0, 0, 0, 0, 0, 0, 0, false⟩
     rw [World.size_alloc] at h
     exact h)
    go_wp2_with (at_builtin; refine wpList_append_own _ rfl _ _ 41 rfl (w.heap.size + 1 + 1 + 1) 76 i0 _ 12 96 Tryz.underlying41 HI.out.1 HI.out.2.1 HI.out.2.2.1 HI.out.2.2.2 rfl (by decide) _ _ _ rfl ((HOX.out.alloc _).alloc _) ⟨wr.heap.size + 1, 0, none⟩ 1 1 (ndC ⟨kind, (n : Int) - 1, (n : Int) + k - 1, 0, 0, 0, 0, 0, 0, 0, 0, false⟩) rfl rfl HNW.out (ndC_one _) (by unfold maxLen; omega) (by omega) (by have := HSZ.out; simp; omega) ?_)
    intro v3 w3 hown3 hgrow3 _
    rw [← HJ.out, ← cellsL_succ] at hown3
    have hB3 := ((HB.out.alloc HSZ.out (.cells #[.int .i64 kind, .int .i64 ((n : Int) - 1), .int .i64 ((n : Int) + k - 1), .int .u64 0, .int .u64 0, .int .u64 0, .int .u64 0, .int .i64 0, .int .i64 0, .int .i64 0, .int .i64 0, .bool false] 76)).alloc (by have := HSZ.out; simp only [World.size_alloc]; omega) (.cells #[.int .i64 kind, .int .i64 ((n : Int) - 1), .int .i64 ((n : Int) + k - 1), .int .u64 0, .int .u64 0, .int .u64 0, .int .u64 0, .int .i64 0, .int .i64 0, .int .i64 0, .int .i64 0, .bool false] 76)).grown hgrow3 (by have := HSZ.out; simp only [World.size_alloc]; omega) (fun g hg => (HOX.out.lt g hg).1)
    have hT3 : w3.heap[w.heap.size + 1 + 1]? = some (.cells #[.slice none 0 0] 43 (0, 0)) := (hB3.block (w.heap.size + 1 + 1) (by omega)).trans HT1.out
    obtain ⟨A3, cap3, rfl, -, -, -⟩ := own_nodes hown3
    have HO3 := Lib.hid hown3
    have HB3 := Lib.hid hB3
    have HT3 := Lib.hid hT3
    have c3 := cell_of_one hT3
    have f3 := frozen_of_row w3 (w.heap.size + 1 + 1) 0 _ _ hT3
    clear hown3 hgrow3 hB3 hT3 hbx
    go_wp2_with fail
    rw [setCell_eq_setRow w3 (w.heap.size + 1 + 1) 0 #[.slice none 0 0] 43 (0, 0) _ HT3.out, show (#[(.slice none 0 0 : Value)]).setIfInBounds 0 (.slice A3 (n + k + 1) cap3) = #[.slice A3 (n + k + 1) cap3] from rfl]
    refine bodyPost_ret (results_cell_row rfl _ _ (w.heap.size + 1 + 1) _ _ _ _ rfl (setRow_heap _ _ _ _ _ _ HT3.out) Tryz.underlying43 rfl infoT) rfl ?_
    exact ⟨A3, cap3, rfl, own_base (own_setRow HO3.out (own_neT HO3.out HT3.out) _) (by omega), HW1.out.trans (below_setRow (HB3.out.mono (show w.heap.size ≤ w.heap.size + 1 + 1 + 1 by omega)) (by omega) _)⟩
end Go.Proofs.YteggpecbeagohaaGreatDoor.Ast
