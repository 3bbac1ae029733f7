/-
  Layer 5: what the landed package ast does: Leaf, Wrap (and slices.Clone).
-/
import Derived.Test.YtcjefhjhmmoocaaAstOwn
import Derived.Test.YtcjefhjhmmoocaaAstForm
import Derived.Test.YtcjefhjhmmoocaaTakeG
import Derived.Laws.AppendOwnNone
import Derived.Lib.SliceRun
namespace Go.Proofs.Ytcjefhjhmmoocaa
open Go.RowKit

/-- A call has made a tree of its own: n nodes, that read as l. -/
def TreeRes (l : Nat → Nd) (n : Nat) (w : World) (e : Ending) (w' : World) : Prop :=
  ∃ A cap, e = .returned (.agg #[.slice A n cap]) ∧ w'.ownsRow w.heap.size 45 12 (.slice A n cap) n (cellsL l n) ∧ Below w.heap.size w w'

set_option maxHeartbeats 1000000 in
theorem leaf_any (x : Nd) (w : World) : Calls Try.prog 25 #[ndV x] w (TreeRes (fun _ => x) 1 w) := by
  go_enter Try.func25, Try.ntmps25
  go_wp2_with fail
  refine bodyPost_ret (v := .agg #[.slice (some ⟨w.heap.size + 1 + 1, 0, none⟩) 1 1]) (by simp [results, Try.results25, go_sem]) rfl ⟨_, _, rfl, ?_, by go_grown⟩
  have h := World.ownsRow_lit (base := w.heap.size) (e := 45) (size := 12) ((w.alloc (.cells #[.int .i64 x.k, .int .i64 x.a, .int .i64 x.b, .int .u64 x.s0, .int .u64 x.s1, .int .u64 x.s2, .int .u64 x.s3, .int .i64 x.mn, .int .i64 x.mx, .int .i64 x.md, .int .i64 x.n, .bool x.f] 45)).alloc (.cells #[.slice (some ⟨w.heap.size + 1 + 1, 0, none⟩) 1 1] 24)) #[.int .i64 x.k, .int .i64 x.a, .int .i64 x.b, .int .u64 x.s0, .int .u64 x.s1, .int .u64 x.s2, .int .u64 x.s3, .int .i64 x.mn, .int .i64 x.mx, .int .i64 x.md, .int .i64 x.n, .bool x.f] 1 (by simp; omega) (by unfold maxLen; omega) rfl
  rw [show cellsL (fun _ => x) 1 = ndC x by rw [cellsL_succ, cellsL_zero]; rfl]
  unfold ndC
  simpa using h
theorem nodes_cells {w : World} {b o n : Nat} {l : Nat → Nd} (h : NodesAt w b o n l) : ∀ j u, (cellsL l n)[j]? = some u → w.cell? (Addr.add ⟨b, o, none⟩ j) = some u := by
  intro j u hu
  have hj : j < n * 12 := by
    have := (List.getElem?_eq_some_iff.1 hu).1
    rwa [cellsL_length] at this
  have hi : j / 12 < n := by omega
  have hr : j % 12 < 12 := Nat.mod_lt _ (by omega)
  have e : j / 12 * 12 + j % 12 = j := by omega
  rw [← e, cellsL_get l n (j / 12) (j % 12) hi hr] at hu
  rw [Addr.add_lit, show o + j = o + j / 12 * 12 + j % 12 by omega, (h.2 (j / 12) hi).get (j % 12) hr, hu]
theorem cellsL_one (l : Nat → Nd) (n : Nat) : ∀ u ∈ cellsL l n, u.oneCell' = true := by
  intro u hu
  obtain ⟨i, _, hi⟩ := List.mem_flatMap.1 hu
  exact ndC_one _ u hi

set_option maxHeartbeats 1000000 in
theorem clone_any (A : Option Addr) (n cap : Nat) (l : Nat → Nd) (w : World) (hn : n ≤ 1000000) (hA : A = none → n = 0 ∧ cap = 0) (hl : Nodes w A n l) :
    Calls Try.prog 40 #[.slice A n cap] w fun e w' => ∃ v, e = .returned v ∧ w'.ownsRow w.heap.size 45 12 v n (cellsL l n) ∧ Below w.heap.size w w' := by
  obtain ⟨i0, hi, hz0, hz1, hz2⟩ := info_parts info45
  have HI := Lib.hid (And.intro hi (And.intro hz0 (And.intro hz1 hz2)))
  have HL := Lib.hid hl
  clear hi hz0 hz1 hz2 hl
  cases A with
  | none =>
    obtain ⟨rfl, rfl⟩ := hA rfl
    clear hA
    have he : ∀ w, (binOp .eql 22 (.slice none 0 0) (.slice none 0 0)).run Try.prog w = .ok (.bool true) w := fun w => Lib.run_eql_slice_nil (P := Try.prog) w 22 45 none 0 0 0 0 Try.underlying22
    go_enter Try.func40, Try.ntmps40
    go_wp2_with fail
    go_ret
    exact ⟨_, rfl, World.ownsRow_nil _ _ _ _, Below.refl _ _⟩
  | some ad =>
    clear hA
    have HC := Lib.hid (show ∀ j u, (cellsL l n)[j]? = some u → (w.alloc (.cells #[] 45)).cell? (ad.add j) = some u from fun j u hu => by
      have hn0 : 0 < n := by
        rcases Nat.eq_zero_or_pos n with h | h
        · subst h; simp [cellsL_zero] at hu
        · exact h
      obtain ⟨b, o, e, hN⟩ := (HL.out.below (B := w.heap.size) ((Below.refl w.heap.size w).alloc (Nat.le_refl _) (.cells #[] 45)) (Nat.le_refl _)).at_ hn0
      cases e
      exact nodes_cells hN j u hu)
    have he : ∀ w, (binOp .eql 22 (.slice (some ad) n cap) (.slice none 0 0)).run Try.prog w = .ok (.bool false) w := fun w => Lib.run_eql_slice_nil (P := Try.prog) w 22 45 (some ad) n cap 0 0 Try.underlying22
    go_enter Try.func40, Try.ntmps40
    go_wp2_with (at_builtin; refine wpList_append_own _ rfl _ _ 22 rfl w.heap.size 45 i0 _ 12 96 Try.underlying22 HI.out.1 HI.out.2.1 HI.out.2.2.1 HI.out.2.2.2 rfl (by decide) _ _ _ rfl (own_empty w 45 12 w.heap.size (Nat.le_refl _)) ad n cap (cellsL l n) rfl (cellsL_length l n) HC.out (cellsL_one l n) (by unfold maxLen; omega) (by omega) (by simp) ?_)
 
    intro v2 w2 hown2 hgrow2 _
    have HO := Lib.hid (show w2.ownsRow w.heap.size 45 12 v2 n (cellsL l n) by simpa using hown2)
    have HB := Lib.hid (((Below.refl w.heap.size w).alloc (Nat.le_refl _) (.cells #[] 45)).grown hgrow2 (by simp) (fun g hg => by simp [Value.ownBlock] at hg; omega))
    clear hown2 hgrow2
    go_wp2_with fail
    go_ret
    exact ⟨_, rfl, HO.out, HB.out⟩

section
variable {ops : Array Oper} {a : Act} {o : Oper}
theorem append_run {x y : Operand} (v v2 : Value) (hop : o.op = .call { callee := .builtin .append, args := #[x, y], argTypes := #[22, 22] }) (hx : a.eval x = v) (hy : a.eval y = v2) {w w' : World} {r : Value} (h : (Builtin.append_ #[22, 22] o.type #[v, v2]).run Try.prog w = .ok r w') : (execOp a.eval o).run Try.prog w = .ok (.value r) w' := by
  unfold execOp
  simp [hop, resolve, invoke, builtin, hx, hy, h, Result.andThen]
end
theorem own_oneCell {w : World} {base n : Nat} {T : TypeId} {v : Value} {size : Nat} {xs : List Value} (h : w.ownsRow base T size v n xs) : v.oneCell' = true := by
  rcases h.2 with ⟨rfl, _⟩ | ⟨g, cap, cur, rfl, _⟩ <;> rfl
theorem own_neT {w : World} {base n k : Nat} {v : Value} {xs : List Value} {cs : Array Value} (h : w.ownsRow base 45 12 v n xs) (hk : w.heap[k]? = some (.cells cs 24 (0, 0))) : some k ≠ v.ownBlock := by
  intro e
  rcases h.2 with ⟨rfl, _⟩ | ⟨g, cap, cur, rfl, _, hg, _⟩
  · cases e
  · cases e
    rw [hg] at hk
    simp at hk
theorem below_setRow {B g : Nat} {w0 w : World} (hb : Below B w0 w) (hg : B ≤ g) (cs : Array Value) : Below B w0 (w.setRow g cs) :=
  hb.trans ⟨rfl, rfl, rfl, by simp, fun k hk => setRow_other w g k cs (by omega)⟩
theorem own_setRow {w : World} {base n k : Nat} {v : Value} {xs : List Value} (h : w.ownsRow base 45 12 v n xs) (hk : some k ≠ v.ownBlock) (cs : Array Value) : (w.setRow k cs).ownsRow base 45 12 v n xs := by
  refine ⟨h.1, ?_⟩
  rcases h.2 with h2 | ⟨g, cap, cur, rfl, hb, hg, rest⟩
  · exact .inl h2
  · exact .inr ⟨g, cap, cur, rfl, hb, (setRow_other w k g cs (fun e => hk (by simp [Value.ownBlock]; exact e.symm))).trans hg, rest⟩
theorem infoT : (Try.prog.info? 24).map (·.size) = some 1 := by kernel_rfl
theorem own_base {w : World} {b b' n size : Nat} {T : TypeId} {v : Value} {xs : List Value} (h : w.ownsRow b T size v n xs) (hb : b' ≤ b) : w.ownsRow b' T size v n xs :=
  ⟨h.1, h.2.imp id (fun ⟨g, cap, cur, e, hg, r⟩ => ⟨g, cap, cur, e, Nat.le_trans hb hg, r⟩)⟩
section
variable {ops : Array Oper} {R : World → Prop} {a : Act} {o : Oper} {x : Operand}
theorem loadL_y (g : Nat) (v : Value) (hR : ∀ u, R u → u.cell? ⟨g, 0, none⟩ = some v) (ho : o.op = .load 22 x) (hx : a.eval x = .pointer (some ⟨g, 0, none⟩)) (hw : Region.wanted o (yielded ops a.tmps) = true) : YieldsIf Try.prog ops R o v a := by
  refine Or.inl ⟨hw, fun u h => ?_⟩
  have hc := hR u h
  unfold execOp
  simp only [ho, hx]
  go_simp
theorem loadR_y (g : Nat) (T : TypeId) (cs : Array Value) (fr : Nat × Nat) (hR : ∀ u, R u → u.heap[g]? = some (.cells cs T fr)) (ho : o.op = .load 45 x) (hx : a.eval x = .pointer (some ⟨g, 0, none⟩))
    (hi : (Try.prog.info? 45).map (·.size) = some cs.size) (hw : Region.wanted o (yielded ops a.tmps) = true) : YieldsIf Try.prog ops R o (.agg cs) a := by
  refine Or.inl ⟨hw, fun u h => ?_⟩
  have hl := run_loadVar_row u g T 45 cs fr _ (hR u h) Try.underlying45 rfl hi
  unfold execOp
  simp only [ho, hx, Instr.loadAt, Instr.sureAddr, Sem.run_bind, Sem.run_pure, Result.andThen_ok, hl]
end
theorem alloc_at (w : World) (o : Obj) (k : Nat) (h : k = w.heap.size) : (w.alloc o).heap[k]? = some o := h ▸ heap_alloc_new w o
theorem infoN : (Try.prog.info? 45).map (·.size) = some 12 := by kernel_rfl
/-- The nodes that stand around a tree. -/
def wrapL (l : Nat → Nd) (n : Nat) (x : Nd) : Nat → Nd := fun i => if i < n then l i else { x with a := (n : Int) - 1, b := 0 }
theorem wrap_cells (l : Nat → Nd) (n : Nat) (x : Nd) : cellsL (wrapL l n x) (n + 1) = cellsL l n ++ ndC { x with a := (n : Int) - 1, b := 0 } := by
  rw [cellsL_succ, cellsL_congr (l' := l) (fun i hi => by unfold wrapL; rw [if_pos hi])]
  unfold wrapL
  rw [if_neg (by omega)]

set_option maxHeartbeats 4000000 in
theorem wrap_any (A : Option Addr) (n cap : Nat) (l : Nat → Nd) (x : Nd) (w : World) (hn : n ≤ 1000000) (hA : A = none → n = 0 ∧ cap = 0) (hl : Nodes w A n l) :
    Calls Try.prog 21 #[.agg #[.slice A n cap], ndV x] w (TreeRes (wrapL l n x) (n + 1) w) := by
  obtain ⟨i0, hi, hz0, hz1, hz2⟩ := info_parts info45
  have HI := Lib.hid (And.intro hi (And.intro hz0 (And.intro hz1 hz2)))
  have HL := Lib.hid hl
  have HA := Lib.hid hA
  have HW := Lib.hid (wrap_cells l n x)
  obtain ⟨k, xa, xb, s0, s1, s2, s3, mn, mx, md, nn, f⟩ := x
  dsimp only at HW
  clear hi hz0 hz1 hz2 hl hA
  obtain ⟨W, hW⟩ : ∃ W, W = ((w.alloc (.cells #[.slice A n cap] 24)).alloc (.cells #[.int .i64 k, .int .i64 ((n : Int) - 1), .int .i64 0, .int .u64 s0, .int .u64 s1, .int .u64 s2, .int .u64 s3, .int .i64 mn, .int .i64 mx, .int .i64 md, .int .i64 nn, .bool f] 45)).alloc (.cells #[.slice none 0 0] 24) := ⟨_, rfl⟩
  have HWW := Lib.hid hW
  clear hW
  have hn0 : (0 : Int) ≤ n := by omega
  have hn1 : (n : Int) ≤ 1000000 := by omega
  go_enter Try.func21, Try.ntmps21
  go_wp2_with fail
  rw [← HWW.out]
  have hsz : W.heap.size = w.heap.size + 1 + 1 + 1 := by rw [HWW.out]; simp
  have hBW : Below w.heap.size w W := by
    rw [HWW.out]
    exact (((Below.refl _ _).alloc (Nat.le_refl _) _).alloc (by simp) _).alloc (by simp; omega) _
  have hT0 : W.drew.heap[w.heap.size + 1 + 1]? = some (.cells #[.slice none 0 0] 24 (0, 0)) := by
    rw [heap_drew, HWW.out]
    exact alloc_at _ _ _ (by simp)
  have hX0 : W.heap[w.heap.size + 1]? = some (.cells #[.int .i64 k, .int .i64 ((n : Int) - 1), .int .i64 0, .int .u64 s0, .int .u64 s1, .int .u64 s2, .int .u64 s3, .int .i64 mn, .int .i64 mx, .int .i64 md, .int .i64 nn, .bool f] 45 (0, 0)) := by
    rw [HWW.out, Below.heap_alloc _ _ _ (by simp)]
    exact alloc_at _ _ _ (by simp)
  have hA0 : W.cell? ⟨w.heap.size, 0, none⟩ = some (.slice A n cap) := by
    unfold World.cell?
    rw [HWW.out, Below.heap_alloc _ _ _ (by simp; omega), Below.heap_alloc _ _ _ (by simp), heap_alloc_new]
    rfl
  have hLW : Nodes W A n l := HL.out.below hBW (Nat.le_refl _)
  have hS : Below (w.heap.size + 1 + 1) W W.drew := (Below.refl _ W).drew
  have hLD : Nodes W.drew A n l := hLW.below (B := W.heap.size) (Below.refl _ W).drew (Nat.le_refl _)
  have hWd : w.heap.size + 1 + 1 ≤ W.drew.heap.size := by rw [heap_drew]; omega
  have hSx := hS.alloc hWd (.cells #[.int .i64 k, .int .i64 ((n : Int) - 1), .int .i64 0, .int .u64 s0, .int .u64 s1, .int .u64 s2, .int .u64 s3, .int .i64 mn, .int .i64 mx, .int .i64 md, .int .i64 nn, .bool f] 45)
  have hWe : (World.alloc W.drew (.cells #[.int .i64 k, .int .i64 ((n : Int) - 1), .int .i64 0, .int .u64 s0, .int .u64 s1, .int .u64 s2, .int .u64 s3, .int .i64 mn, .int .i64 mx, .int .i64 md, .int .i64 nn, .bool f] 45)).heap.size = w.heap.size + 1 + 1 + 1 + 1 := by rw [World.size_alloc, heap_drew, hsz]
  refine wp_region_held_drew (S := Below (w.heap.size + 1 + 1) W) (by kernel_rfl) hS (fun _ => ?_)
  refine takeAt 0 11 (.pointer (some ⟨w.heap.size, 0, none⟩)) rfl rfl (by kernel_rfl) (by kernel_rfl) (by kernel_rfl) (fun _ _ _ h => h) (yields (by rfl) (fun w => by kernel_rfl)) hS ?_
  simp only [Act.put, List.setIfInBounds_toArray, List.set_cons_zero, List.set_cons_succ]
  refine takeAt 1 12 (.slice A n cap) rfl rfl (by kernel_rfl) (by kernel_rfl) (by kernel_rfl) (fun _ _ _ h => h) (loadL_y w.heap.size _ (fun u h => (h.cell (p := ⟨w.heap.size, 0, none⟩) (show w.heap.size < w.heap.size + 1 + 1 by omega)).trans hA0) rfl rfl (by rfl)) hS ?_
  simp only [Act.put, List.setIfInBounds_toArray, List.set_cons_zero, List.set_cons_succ]
  refine takeAt 3 14 (.agg #[.int .i64 k, .int .i64 ((n : Int) - 1), .int .i64 0, .int .u64 s0, .int .u64 s1, .int .u64 s2, .int .u64 s3, .int .i64 mn, .int .i64 mx, .int .i64 md, .int .i64 nn, .bool f]) rfl rfl (by kernel_rfl) (by kernel_rfl) (by kernel_rfl) (fun _ _ _ h => h) (loadR_y (w.heap.size + 1) 45 _ (0, 0) (fun u h => (h.block (w.heap.size + 1) (show w.heap.size + 1 < w.heap.size + 1 + 1 by omega)).trans hX0) rfl rfl infoN (by rfl)) hS ?_
  simp only [Act.put, List.setIfInBounds_toArray, List.set_cons_zero, List.set_cons_succ]
  refine wpAnyH_ready (rs := [2, 4]) (by kernel_rfl) (by simp) ?_
  refine AllReadyH.cons rfl ?_ (AllReadyH.cons rfl ?_ AllReadyH.nil)
  · refine callStep 2 13 rfl (by rfl) (by kernel_rfl) (clone_any A n cap l _ hn HA.out (hLD)) ?_
    rintro e u ⟨v1, rfl, hv, hb⟩
    have hSu : Below (w.heap.size + 1 + 1) W u := thenB hS hb (show w.heap.size + 1 + 1 ≤ W.heap.size by omega)
    have hTu := (hb.block (w.heap.size + 1 + 1) (show w.heap.size + 1 + 1 < W.heap.size by omega)).trans hT0
    have hsu : w.heap.size + 1 + 1 ≤ u.heap.size := Nat.le_trans (by omega) hSu.size
    refine ⟨_, rfl, hSu, ?_⟩
    simp only [Act.put, List.setIfInBounds_toArray, List.set_cons_zero, List.set_cons_succ]
    refine valAt 4 15 (.slice (some ⟨(u).heap.size, 0, none⟩) 1 1) (World.alloc (u) (.cells #[.int .i64 k, .int .i64 ((n : Int) - 1), .int .i64 0, .int .u64 s0, .int .u64 s1, .int .u64 s2, .int .u64 s3, .int .i64 mn, .int .i64 mx, .int .i64 md, .int .i64 nn, .bool f] 45)) rfl rfl (by kernel_rfl) (by rfl) (by kernel_rfl) (hSu.alloc hsu _) ?_
    simp only [Act.put, List.setIfInBounds_toArray, List.set_cons_zero, List.set_cons_succ]
    have hown0 := (own_base hv (show w.heap.size + 1 + 1 ≤ W.drew.heap.size from show w.heap.size + 1 + 1 ≤ W.heap.size by omega)).alloc (.cells #[.int .i64 k, .int .i64 ((n : Int) - 1), .int .i64 0, .int .u64 s0, .int .u64 s1, .int .u64 s2, .int .u64 s3, .int .i64 mn, .int .i64 mx, .int .i64 md, .int .i64 nn, .bool f] 45)
    have hSv := hSu.alloc hsu (.cells #[.int .i64 k, .int .i64 ((n : Int) - 1), .int .i64 0, .int .u64 s0, .int .u64 s1, .int .u64 s2, .int .u64 s3, .int .i64 mn, .int .i64 mx, .int .i64 md, .int .i64 nn, .bool f] 45)
    have hTv := (Below.heap_alloc u (.cells #[.int .i64 k, .int .i64 ((n : Int) - 1), .int .i64 0, .int .u64 s0, .int .u64 s1, .int .u64 s2, .int .u64 s3, .int .i64 mn, .int .i64 mx, .int .i64 md, .int .i64 nn, .bool f] 45) _ (Array.getElem?_eq_some_iff.1 hTu).1).trans hTu
    obtain ⟨v3, w3, hrun, own3, hgrow, hne⟩ := run_append_own (P := Try.prog) (World.alloc (u) (.cells #[.int .i64 k, .int .i64 ((n : Int) - 1), .int .i64 0, .int .u64 s0, .int .u64 s1, .int .u64 s2, .int .u64 s3, .int .i64 mn, .int .i64 mx, .int .i64 md, .int .i64 nn, .bool f] 45)) w.heap.size 22 22 45 i0 _ 12 96 Try.underlying22 HI.out.1 HI.out.2.1 HI.out.2.2.1 HI.out.2.2.2 rfl (by decide) v1 n (cellsL l n) (own_base hown0 (show w.heap.size ≤ w.heap.size + 1 + 1 by omega)) ⟨u.heap.size, 0, none⟩ 1 1 (ndC ⟨k, (n : Int) - 1, 0, s0, s1, s2, s3, mn, mx, md, nn, f⟩) rfl (new_cells u _ ⟨k, (n : Int) - 1, 0, s0, s1, s2, s3, mn, mx, md, nn, f⟩) (ndC_one _) (by unfold maxLen; omega) (by omega) (Nat.le_trans (by omega) hSv.size)
    have hB3 : ∀ g, v1.ownBlock = some g → w.heap.size + 1 + 1 ≤ g := fun g hg => (hown0.lt g hg).1
    have hS3 : Below (w.heap.size + 1 + 1) W w3 := hSv.grown hgrow (Nat.le_trans (by omega) hSv.size) hB3
    obtain ⟨A', cap', rfl, _⟩ := own_nodes (l := wrapL l n ⟨k, xa, xb, s0, s1, s2, s3, mn, mx, md, nn, f⟩) (HW.out ▸ own3)
    refine valAt 5 16 (.slice A' (n + 1) cap') w3 rfl rfl (by kernel_rfl) (by rfl) (append_run v1 (.slice (some ⟨u.heap.size, 0, none⟩) 1 1) rfl rfl rfl hrun) hS3 ?_
    simp only [Act.put, List.setIfInBounds_toArray, List.set_cons_zero, List.set_cons_succ]
    refine takeAt 6 17 (.agg #[.slice A' (n + 1) cap']) rfl rfl (by kernel_rfl) (by kernel_rfl) (by kernel_rfl) (fun _ _ _ h => h) (yields (by rfl) (fun w => by kernel_rfl)) hS3 ?_
    simp only [Act.put, List.setIfInBounds_toArray, List.set_cons_zero, List.set_cons_succ]

    have hT3 : w3.heap[w.heap.size + 1 + 1]? = some (.cells #[.slice none 0 0] 24 (0, 0)) := (hgrow.block _ (Array.getElem?_eq_some_iff.1 hTv).1 (own_neT (own_base hown0 (show w.heap.size ≤ w.heap.size + 1 + 1 by omega)) hTv)).trans hTv
    refine rowAt 7 24 (w.heap.size + 1 + 1) _ #[.slice A' (n + 1) cap'] rfl rfl rfl (by kernel_rfl) (by rfl) rfl rfl hT3 infoT rfl (by simp [own_oneCell own3]) (below_setRow hS3 (Nat.le_refl _) _) ?_
    refine wpAnyH_done (by kernel_rfl) ?_ _
    have HO := Lib.hid (own_setRow own3 (own_neT own3 hT3) #[.slice A' (n + 1) cap'])
    have HN := Lib.hid (setRow_heap _ (w.heap.size + 1 + 1) _ #[.slice A' (n + 1) cap'] _ _ hT3)
    have HB := Lib.hid (hBW.trans ((below_setRow hS3 (Nat.le_refl _) #[.slice A' (n + 1) cap']).mono (show w.heap.size ≤ w.heap.size + 1 + 1 by omega)))
    clear hS hS3 hT3 own3 hgrow hrun hB3
    go_wp2_with fail
    refine bodyPost_ret (results_cell_row rfl _ _ (w.heap.size + 1 + 1) _ _ _ _ rfl HN.out Try.underlying24 rfl infoT) rfl ?_
    exact ⟨A', cap', rfl, HW.out ▸ HO.out, HB.out⟩
  · intro K hK
    rw [if_pos (by rfl)]
    unfold Oper.wp
    rw [show (execOp _ _).run Try.prog W.drew = .ok (.value (.slice (some ⟨(W.drew).heap.size, 0, none⟩) 1 1)) (World.alloc (W.drew) (.cells #[.int .i64 k, .int .i64 ((n : Int) - 1), .int .i64 0, .int .u64 s0, .int .u64 s1, .int .u64 s2, .int .u64 s3, .int .i64 mn, .int .i64 mx, .int .i64 md, .int .i64 nn, .bool f] 45)) from by kernel_rfl, Oper.upon_value]
    refine hK.out (Act.put _ (some 15) _) _ hSx (fun _ => ?_)
    simp only [Act.put, List.setIfInBounds_toArray, List.set_cons_zero, List.set_cons_succ]
    refine callAt 2 13 rfl rfl (by kernel_rfl) (by rfl) (by kernel_rfl) (clone_any A n cap l _ hn HA.out (hLD.below (B := W.drew.heap.size) ((Below.refl _ W.drew).alloc (Nat.le_refl _) _) (Nat.le_refl _))) ?_
    rintro e u ⟨v1, rfl, hv, hb⟩
    have hSu : Below (w.heap.size + 1 + 1) W u := thenB hSx hb (by rw [hWe]; omega)
    have hTu := (hb.block (w.heap.size + 1 + 1) (by rw [hWe]; omega)).trans ((Below.heap_alloc W.drew (.cells #[.int .i64 k, .int .i64 ((n : Int) - 1), .int .i64 0, .int .u64 s0, .int .u64 s1, .int .u64 s2, .int .u64 s3, .int .i64 mn, .int .i64 mx, .int .i64 md, .int .i64 nn, .bool f] 45) _ (Array.getElem?_eq_some_iff.1 hT0).1).trans hT0)
    have hsu : w.heap.size + 1 + 1 ≤ u.heap.size := Nat.le_trans (by omega) hSu.size
    refine ⟨_, rfl, hSu, ?_⟩
    simp only [Act.put, List.setIfInBounds_toArray, List.set_cons_zero, List.set_cons_succ]
    have hown0 := own_base hv (show w.heap.size + 1 + 1 ≤ (World.alloc W.drew (.cells #[.int .i64 k, .int .i64 ((n : Int) - 1), .int .i64 0, .int .u64 s0, .int .u64 s1, .int .u64 s2, .int .u64 s3, .int .i64 mn, .int .i64 mx, .int .i64 md, .int .i64 nn, .bool f] 45)).heap.size by rw [hWe]; omega)
    obtain ⟨v3, w3, hrun, own3, hgrow, hne⟩ := run_append_own (P := Try.prog) (u) w.heap.size 22 22 45 i0 _ 12 96 Try.underlying22 HI.out.1 HI.out.2.1 HI.out.2.2.1 HI.out.2.2.2 rfl (by decide) v1 n (cellsL l n) (own_base hown0 (show w.heap.size ≤ w.heap.size + 1 + 1 by omega)) ⟨W.drew.heap.size, 0, none⟩ 1 1 (ndC ⟨k, (n : Int) - 1, 0, s0, s1, s2, s3, mn, mx, md, nn, f⟩) rfl (fun j u h => (hb.cell (World.block_lt_of_cell? _ _ (new_cells W.drew _ ⟨k, (n : Int) - 1, 0, s0, s1, s2, s3, mn, mx, md, nn, f⟩ j u h))).trans (new_cells W.drew _ ⟨k, (n : Int) - 1, 0, s0, s1, s2, s3, mn, mx, md, nn, f⟩ j u h)) (ndC_one _) (by unfold maxLen; omega) (by omega) (Nat.le_trans (by omega) hSu.size)
    have hB3 : ∀ g, v1.ownBlock = some g → w.heap.size + 1 + 1 ≤ g := fun g hg => (hown0.lt g hg).1
    have hS3 : Below (w.heap.size + 1 + 1) W w3 := hSu.grown hgrow (Nat.le_trans (by omega) hSu.size) hB3
    obtain ⟨A', cap', rfl, _⟩ := own_nodes (l := wrapL l n ⟨k, xa, xb, s0, s1, s2, s3, mn, mx, md, nn, f⟩) (HW.out ▸ own3)
    refine valAt 5 16 (.slice A' (n + 1) cap') w3 rfl rfl (by kernel_rfl) (by rfl) (append_run v1 (.slice (some ⟨W.drew.heap.size, 0, none⟩) 1 1) rfl rfl rfl hrun) hS3 ?_
    simp only [Act.put, List.setIfInBounds_toArray, List.set_cons_zero, List.set_cons_succ]
    refine takeAt 6 17 (.agg #[.slice A' (n + 1) cap']) rfl rfl (by kernel_rfl) (by kernel_rfl) (by kernel_rfl) (fun _ _ _ h => h) (yields (by rfl) (fun w => by kernel_rfl)) hS3 ?_
    simp only [Act.put, List.setIfInBounds_toArray, List.set_cons_zero, List.set_cons_succ]

    have hT3 : w3.heap[w.heap.size + 1 + 1]? = some (.cells #[.slice none 0 0] 24 (0, 0)) := (hgrow.block _ (Array.getElem?_eq_some_iff.1 hTu).1 (own_neT (own_base hown0 (show w.heap.size ≤ w.heap.size + 1 + 1 by omega)) hTu)).trans hTu
    refine rowAt 7 24 (w.heap.size + 1 + 1) _ #[.slice A' (n + 1) cap'] rfl rfl rfl (by kernel_rfl) (by rfl) rfl rfl hT3 infoT rfl (by simp [own_oneCell own3]) (below_setRow hS3 (Nat.le_refl _) _) ?_
    refine wpAnyH_done (by kernel_rfl) ?_ _
    have HO := Lib.hid (own_setRow own3 (own_neT own3 hT3) #[.slice A' (n + 1) cap'])
    have HN := Lib.hid (setRow_heap _ (w.heap.size + 1 + 1) _ #[.slice A' (n + 1) cap'] _ _ hT3)
    have HB := Lib.hid (hBW.trans ((below_setRow hS3 (Nat.le_refl _) #[.slice A' (n + 1) cap']).mono (show w.heap.size ≤ w.heap.size + 1 + 1 by omega)))
    clear hS hS3 hT3 own3 hgrow hrun hB3
    go_wp2_with fail
    refine bodyPost_ret (results_cell_row rfl _ _ (w.heap.size + 1 + 1) _ _ _ _ rfl HN.out Try.underlying24 rfl infoT) rfl ?_
    exact ⟨A', cap', rfl, HW.out ▸ HO.out, HB.out⟩
end Go.Proofs.Ytcjefhjhmmoocaa
