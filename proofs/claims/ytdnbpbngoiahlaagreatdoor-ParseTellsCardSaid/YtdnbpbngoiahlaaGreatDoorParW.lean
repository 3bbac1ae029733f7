import Derived.Test.YtdnbpbngoiahlaaGreatDoorParV
import Derived.Test.YtdnbpbngoiahlaaGreatDoorRefM
namespace Go.Proofs.YtdnbpbngoiahlaaGreatDoor
open Go.RowKit
open Ast (Nd ndV joinL wrapL deepZ rightZ NodesAt Made)
set_option maxHeartbeats 1000000 in
theorem rhas_any (f : ByteArray) (c : Nat) (w : World) (hf : f.size ≤ 1000000000) : Calls Tryz.prog 140 #[.string f, .int .u8 (c : Int)] w fun e w' => e = .returned (.bool (hasF f c)) ∧ Below w.heap.size w w' := by
 have HL := Lib.hid (show f.data.toList.length = f.size from rfl)
 have hf' : (f.size : Int) ≤ 1000000000 := by omega
 go_enter Tryz.func140, Tryz.ntmps140
 go_wp2_with fail
 go_loopw [5] (fun s5 wr => ∃ i : Nat, i ≤ f.size ∧ s5 = .int .i64 i ∧ ((f.data.toList.take i).any fun b => b.toNat == c) = false ∧ Below w.heap.size w wr) (fun s5 _ => f.size - (intOf s5).toNat)
 case atStart => exact ⟨0, Nat.zero_le _, rfl, rfl, Below.refl _ _⟩
 case round =>
  obtain ⟨i, hi, rfl, hn, hb⟩ := hrel
  have HB := Lib.hid hb
  have HN := Lib.hid hn
  clear hb hn
  by_cases hlt : i < f.size
  ·have r1 : (i : Int) < (f.size : Int) := by omega
   have HI := Lib.hid hlt
   have hl : i < f.data.toList.length := hlt
   obtain ⟨x, hx⟩ : ∃ x : UInt8, x = f.data.toList[i] := ⟨_, rfl⟩
   have hgx := bt_at hlt
   have hbx : bt f i = x.toNat := by rw [hx]; unfold bt; rw [dif_pos hlt]; rfl
   have HT := Lib.hid (show f.data.toList.take (i + 1) = f.data.toList.take i ++ [x] by
    rw [List.take_add_one, List.getElem?_eq_getElem hl, hx]
    rfl)
   clear hi
   by_cases hc : x.toNat = c
   ·have HO := Lib.hid (show hasF f c = true by
     unfold hasF
     rw [← List.take_append_drop (i + 1) f.data.toList, List.any_append, HT.out, List.any_append]
     simp [hc])
    have q : (((f[i]'hlt).toNat : Int) == (c : Int)) = true := by rw [← hgx, hbx, hc]; simp
    clear hx hgx hbx hl
    go_wp2_with fail
    go_ret
    exact ⟨by rw [HO.out]; rfl, HB.out⟩
   ·have q : (((f[i]'hlt).toNat : Int) == (c : Int)) = false := by rw [← hgx, hbx]; simp; omega
    have HN2 := Lib.hid (show ((f.data.toList.take (i + 1)).any fun b => b.toNat == c) = false by rw [HT.out, List.any_append, HN.out]; simp [hc])
    clear hx hc hgx hbx hl
    go_wp2_with fail
    go_roundw
    case rel => exact ⟨i + 1, HI.out, by go_num, HN2.out, HB.out⟩
    case measure => have := HI.out; simp [intOf]; omega
  ·obtain rfl : i = f.size := by omega
   have HO := Lib.hid (show hasF f c = false by
    have := HN.out
    rwa [List.take_of_length_le (by rw [HL.out]; exact Nat.le_refl _)] at this)
   clear hlt hi
   go_wp2_with fail
   go_ret
   exact ⟨by rw [HO.out]; rfl, HB.out⟩
abbrev urC (A : Option Addr) (cap : Nat) (all : List Tok) (s : US) : Array Value := #[.slice A all.length cap, .int .i64 ((all.length - s.l.length : Nat) : Int), .int .i64 (s.g : Int), .bool s.bad]
structure UW (w0 : World) (g : Nat) (A : Option Addr) (cap : Nat) (all : List Tok) (w : World) (s : US) : Prop where
 cells : BoxV 61 w g (urC A cap all s)
 toks : Toks w0 A all
 suf : s.l <:+ all
 base : w0.heap.size ≤ g
 below : Below w0.heap.size w0 w
section
variable {w0 w w' : World} {g cap : Nat} {A : Option Addr} {all : List Tok} {s : US}
theorem UW.lt (h : UW w0 g A cap all w s) : g < w.heap.size := h.cells.lt
theorem UW.call (h : UW w0 g A cap all w s) (hb : Below w.heap.size w w') : UW w0 g A cap all w' s := ⟨h.cells.below hb h.cells.lt, h.toks, h.suf, h.base, thenB h.below hb h.below.size⟩
theorem UW.toksW (h : UW w0 g A cap all w s) : Toks w A all := h.toks.below h.below (Nat.le_refl _)
theorem UW.at_ (h : UW w0 g A cap all w s) {x : Tok} {r : List Tok} (hl : s.l = x :: r) : all[all.length - s.l.length]? = some x := by
 obtain ⟨p, hp⟩ := h.suf
 rw [hl] at hp
 rw [hl, ← hp]
 simp
theorem UW.le (h : UW w0 g A cap all w s) : s.l.length ≤ all.length := h.suf.length_le
end
section
variable {ops : Array Oper} {R : World → Prop} {a : Act} {o : Oper} {x y : Operand}
theorem loadIr7 (g j : Nat) (n : Int) (hR : ∀ u, R u → u.cell? ⟨g, j, none⟩ = some (.int .i64 n)) (ho : o.op = .load 3 x) (hx : a.eval x = .pointer (some ⟨g, j, none⟩)) (hw : Region.wanted o (yielded ops a.tmps) = true) : YieldsIf Tryz.prog ops R o (.int .i64 n) a := by
 refine Or.inl ⟨hw, fun w h => ?_⟩
 have hc := hR w h
 unfold execOp
 simp only [ho, hx]
 go_simp
theorem loadBr7 (g j : Nat) (b : Bool) (hR : ∀ u, R u → u.cell? ⟨g, j, none⟩ = some (.bool b)) (ho : o.op = .load 4 x) (hx : a.eval x = .pointer (some ⟨g, j, none⟩)) (hw : Region.wanted o (yielded ops a.tmps) = true) : YieldsIf Tryz.prog ops R o (.bool b) a := by
 refine Or.inl ⟨hw, fun w h => ?_⟩
 have hc := hR w h
 unfold execOp
 simp only [ho, hx]
 go_simp
theorem loadTk7 (g : Nat) (A : Option Addr) (n cap : Nat) (hR : ∀ u, R u → u.cell? ⟨g, 0, none⟩ = some (.slice A n cap)) (ho : o.op = .load 56 x) (hx : a.eval x = .pointer (some ⟨g, 0, none⟩)) (hw : Region.wanted o (yielded ops a.tmps) = true) : YieldsIf Tryz.prog ops R o (.slice A n cap) a := by
 refine Or.inl ⟨hw, fun w h => ?_⟩
 have hc := hR w h
 unfold execOp
 simp only [ho, hx]
 go_simp
theorem idxT7 {b o' n cap i : Nat} (hi : i < n) (_hn : n ≤ 1000) (ho : o.op = .indexAddr 56 x y) (hx : a.eval x = .slice (some ⟨b, o', none⟩) n cap) (hy : a.eval y = .int .i64 (i : Int)) (hw : Region.wanted o (yielded ops a.tmps) = true) : YieldsIf Tryz.prog ops R o (.pointer (some ⟨b, o' + i * 10, none⟩)) a := by
 refine Or.inl ⟨hw, fun w _ => ?_⟩
 have r1 : (i : Int) < (n : Int) := by omega
 unfold execOp
 simp only [ho, hx, hy]
 go_simp
theorem loadTok7 {b o' : Nat} (t : Tok) (hR : ∀ u, R u → At10 u b o' t) (ho : o.op = .load 93 x) (hx : a.eval x = .pointer (some ⟨b, o', none⟩)) (hw : Region.wanted o (yielded ops a.tmps) = true) : YieldsIf Tryz.prog ops R o (tokV t) a := by
 refine Or.inl ⟨hw, fun w h => ?_⟩
 obtain ⟨c0, c1, c2, c3, c4, c5, c6, c7, c8, c9⟩ := hR w h
 unfold execOp
 simp only [ho, hx]
 go_simp
 rfl
end
theorem BoxV.cell_ {T : TypeId} {w : World} {g : Nat} {cs : Array Value} (h : BoxV T w g cs) (j : Nat) : w.cell? ⟨g, j, none⟩ = cs[j]? := cell_of_row w g j _ _ _ h
set_option maxRecDepth 100000 in
set_option maxHeartbeats 4000000 in
theorem kind_end {w0 w : World} {g cap : Nat} {A : Option Addr} {all : List Tok} {s : US} (h : UW w0 g A cap all w s) (hall : all.length ≤ 1000) (hl : s.l = []) : Calls Tryz.prog 54 #[.pointer (some ⟨g, 0, none⟩)] w fun e w' => e = .returned (.int .i64 (-1)) ∧ Below w.heap.size w w' := by
 have hle := h.le
 have hcl := h.cells
 have HU := Lib.hid h
 rw [hl] at hle
 have hz : s.l.length = 0 := by rw [hl]; rfl
 obtain ⟨n, hn⟩ : ∃ n, n = all.length := ⟨_, rfl⟩
 obtain ⟨a, ha⟩ : ∃ a, a = all.length - s.l.length := ⟨_, rfl⟩
 have HC := Lib.hid (show BoxV 61 w g #[.slice A n cap, .int .i64 (a : Int), .int .i64 (s.g : Int), .bool s.bad] by rw [hn, ha]; exact hcl)
 have han : a = n := by omega
 have hn5 : n ≤ 1000 := by omega
 clear hcl ha hz hl hle hn hall h
 go_enter Tryz.func54, Tryz.ntmps54
 go_wp2_with fail
 refine wp_region_held_drew (S := fun u => Below w.heap.size w u) (by kernel_rfl) (show _ from (Below.refl _ w).drew) (fun hS => ?_)
 generalize World.drew w = u0 at hS ⊢
 refine takeAt 0 3 (.pointer (some ⟨g, 0, none⟩)) rfl rfl (by kernel_rfl) (by kernel_rfl) (by kernel_rfl) (fun _ _ _ h => h) (yields (by rfl) (fun w => by kernel_rfl)) hS ?_
 simp only [Act.put, List.setIfInBounds_toArray, List.set_cons_zero, List.set_cons_succ]
 refine takeAt 1 4 (.pointer (some ⟨g, 0, none⟩)) rfl rfl (by kernel_rfl) (by kernel_rfl) (by kernel_rfl) (fun _ _ _ h => h) (yields (by rfl) (fun w => by kernel_rfl)) hS ?_
 simp only [Act.put, List.setIfInBounds_toArray, List.set_cons_zero, List.set_cons_succ]
 refine takeAt 2 5 (.pointer (some ⟨g, 1, none⟩)) rfl rfl (by kernel_rfl) (by kernel_rfl) (by kernel_rfl) (fun _ _ _ h => h) (yields (by rfl) (fun w => by kernel_rfl)) hS ?_
 simp only [Act.put, List.setIfInBounds_toArray, List.set_cons_zero, List.set_cons_succ]
 refine takeAt 3 6 (.int .i64 ((a : Nat) : Int)) rfl rfl (by kernel_rfl) (by kernel_rfl) (by kernel_rfl) (fun _ _ _ h => h) (loadIr7 g 1 _ (fun u h => ((HC.out.below h HC.out.lt).cell_ 1).trans rfl) rfl rfl (by rfl)) hS ?_
 simp only [Act.put, List.setIfInBounds_toArray, List.set_cons_zero, List.set_cons_succ]
 refine takeAt 4 7 (.pointer (some ⟨g, 0, none⟩)) rfl rfl (by kernel_rfl) (by kernel_rfl) (by kernel_rfl) (fun _ _ _ h => h) (yields (by rfl) (fun w => by kernel_rfl)) hS ?_
 simp only [Act.put, List.setIfInBounds_toArray, List.set_cons_zero, List.set_cons_succ]
 refine takeAt 5 8 (.pointer (some ⟨g, 0, none⟩)) rfl rfl (by kernel_rfl) (by kernel_rfl) (by kernel_rfl) (fun _ _ _ h => h) (yields (by rfl) (fun w => by kernel_rfl)) hS ?_
 simp only [Act.put, List.setIfInBounds_toArray, List.set_cons_zero, List.set_cons_succ]
 refine takeAt 6 9 (.pointer (some ⟨g, 0, none⟩)) rfl rfl (by kernel_rfl) (by kernel_rfl) (by kernel_rfl) (fun _ _ _ h => h) (yields (by rfl) (fun w => by kernel_rfl)) hS ?_
 simp only [Act.put, List.setIfInBounds_toArray, List.set_cons_zero, List.set_cons_succ]
 refine takeAt 7 10 (.slice A n cap) rfl rfl (by kernel_rfl) (by kernel_rfl) (by kernel_rfl) (fun _ _ _ h => h) (loadTk7 g A n cap (fun u h => ((HC.out.below h HC.out.lt).cell_ 0).trans rfl) rfl rfl (by rfl)) hS ?_
 simp only [Act.put, List.setIfInBounds_toArray, List.set_cons_zero, List.set_cons_succ]
 refine takeAt 8 11 (.int .i64 ((n : Nat) : Int)) rfl rfl (by kernel_rfl) (by kernel_rfl) (by kernel_rfl) (fun _ _ _ h => h) (yields (by rfl) (fun w => by kernel_rfl)) hS ?_
 simp only [Act.put, List.setIfInBounds_toArray, List.set_cons_zero, List.set_cons_succ]
 refine takeAt 9 12 (.bool true) rfl rfl (by kernel_rfl) (by kernel_rfl) (by kernel_rfl) (fun _ _ _ h => h) (geqI_y (m := ((a : Nat) : Int)) (n := ((n : Nat) : Int)) true (decide_eq_true (by omega)) rfl rfl rfl (by rfl)) hS ?_
 simp only [Act.put, List.setIfInBounds_toArray, List.set_cons_zero, List.set_cons_succ]
 refine takeAt 10 13 (.bool true) rfl rfl (by kernel_rfl) (by kernel_rfl) (by kernel_rfl) (fun _ _ _ h => h) (yields (by rfl) (fun w => by kernel_rfl)) hS ?_
 simp only [Act.put, List.setIfInBounds_toArray, List.set_cons_zero, List.set_cons_succ]
 refine takeAt 11 14 (undef) rfl rfl (by kernel_rfl) (by kernel_rfl) (by kernel_rfl) (fun _ _ _ h => h) (skipped (by rfl)) hS ?_
 simp only [Act.put, List.setIfInBounds_toArray, List.set_cons_zero, List.set_cons_succ]
 as_aux_lemma =>
  refine takeAt 12 15 (undef) rfl rfl (by kernel_rfl) (by kernel_rfl) (by kernel_rfl) (fun _ _ _ h => h) (skipped (by rfl)) hS ?_
  simp only [Act.put, List.setIfInBounds_toArray, List.set_cons_zero, List.set_cons_succ]
  refine takeAt 13 16 (undef) rfl rfl (by kernel_rfl) (by kernel_rfl) (by kernel_rfl) (fun _ _ _ h => h) (skipped (by rfl)) hS ?_
  simp only [Act.put, List.setIfInBounds_toArray, List.set_cons_zero, List.set_cons_succ]
  refine takeAt 14 17 (undef) rfl rfl (by kernel_rfl) (by kernel_rfl) (by kernel_rfl) (fun _ _ _ h => h) (skipped (by rfl)) hS ?_
  simp only [Act.put, List.setIfInBounds_toArray, List.set_cons_zero, List.set_cons_succ]
  refine takeAt 15 18 (.bool true) rfl rfl (by kernel_rfl) (by kernel_rfl) (by kernel_rfl) (fun _ _ _ h => h) (yields (by rfl) (fun w => by kernel_rfl)) hS ?_
  simp only [Act.put, List.setIfInBounds_toArray, List.set_cons_zero, List.set_cons_succ]
  refine wpAnyH_done (by kernel_rfl) ?_ _
  go_wp2_with fail
  go_ret
  exact ⟨rfl, hS⟩
set_option maxRecDepth 100000 in
set_option maxHeartbeats 4000000 in
theorem kind_bad {w0 w : World} {g cap : Nat} {A : Option Addr} {all : List Tok} {s : US} (h : UW w0 g A cap all w s) (hall : all.length ≤ 1000) (hb : s.bad = true) (x : Tok) (r : List Tok) (hl : s.l = x :: r) : Calls Tryz.prog 54 #[.pointer (some ⟨g, 0, none⟩)] w fun e w' => e = .returned (.int .i64 (-1)) ∧ Below w.heap.size w w' := by
 have hle := h.le
 have hcl := h.cells
 have HU := Lib.hid h
 have hz : s.l.length = r.length + 1 := by rw [hl]; rfl
 obtain ⟨n, hn⟩ : ∃ n, n = all.length := ⟨_, rfl⟩
 obtain ⟨a, ha⟩ : ∃ a, a = all.length - s.l.length := ⟨_, rfl⟩
 have HC := Lib.hid (show BoxV 61 w g #[.slice A n cap, .int .i64 (a : Int), .int .i64 (s.g : Int), .bool true] by rw [hn, ha, ← hb]; exact hcl)
 have han : a < n := by omega
 have hn5 : n ≤ 1000 := by omega
 clear hcl ha hz hl hle hn hall h hb
 go_enter Tryz.func54, Tryz.ntmps54
 go_wp2_with fail
 refine wp_region_held_drew (S := fun u => Below w.heap.size w u) (by kernel_rfl) (show _ from (Below.refl _ w).drew) (fun hS => ?_)
 generalize World.drew w = u0 at hS ⊢
 refine takeAt 0 3 (.pointer (some ⟨g, 0, none⟩)) rfl rfl (by kernel_rfl) (by kernel_rfl) (by kernel_rfl) (fun _ _ _ h => h) (yields (by rfl) (fun w => by kernel_rfl)) hS ?_
 simp only [Act.put, List.setIfInBounds_toArray, List.set_cons_zero, List.set_cons_succ]
 refine takeAt 1 4 (.pointer (some ⟨g, 0, none⟩)) rfl rfl (by kernel_rfl) (by kernel_rfl) (by kernel_rfl) (fun _ _ _ h => h) (yields (by rfl) (fun w => by kernel_rfl)) hS ?_
 simp only [Act.put, List.setIfInBounds_toArray, List.set_cons_zero, List.set_cons_succ]
 refine takeAt 2 5 (.pointer (some ⟨g, 1, none⟩)) rfl rfl (by kernel_rfl) (by kernel_rfl) (by kernel_rfl) (fun _ _ _ h => h) (yields (by rfl) (fun w => by kernel_rfl)) hS ?_
 simp only [Act.put, List.setIfInBounds_toArray, List.set_cons_zero, List.set_cons_succ]
 refine takeAt 3 6 (.int .i64 ((a : Nat) : Int)) rfl rfl (by kernel_rfl) (by kernel_rfl) (by kernel_rfl) (fun _ _ _ h => h) (loadIr7 g 1 _ (fun u h => ((HC.out.below h HC.out.lt).cell_ 1).trans rfl) rfl rfl (by rfl)) hS ?_
 simp only [Act.put, List.setIfInBounds_toArray, List.set_cons_zero, List.set_cons_succ]
 refine takeAt 4 7 (.pointer (some ⟨g, 0, none⟩)) rfl rfl (by kernel_rfl) (by kernel_rfl) (by kernel_rfl) (fun _ _ _ h => h) (yields (by rfl) (fun w => by kernel_rfl)) hS ?_
 simp only [Act.put, List.setIfInBounds_toArray, List.set_cons_zero, List.set_cons_succ]
 refine takeAt 5 8 (.pointer (some ⟨g, 0, none⟩)) rfl rfl (by kernel_rfl) (by kernel_rfl) (by kernel_rfl) (fun _ _ _ h => h) (yields (by rfl) (fun w => by kernel_rfl)) hS ?_
 simp only [Act.put, List.setIfInBounds_toArray, List.set_cons_zero, List.set_cons_succ]
 refine takeAt 6 9 (.pointer (some ⟨g, 0, none⟩)) rfl rfl (by kernel_rfl) (by kernel_rfl) (by kernel_rfl) (fun _ _ _ h => h) (yields (by rfl) (fun w => by kernel_rfl)) hS ?_
 simp only [Act.put, List.setIfInBounds_toArray, List.set_cons_zero, List.set_cons_succ]
 refine takeAt 7 10 (.slice A n cap) rfl rfl (by kernel_rfl) (by kernel_rfl) (by kernel_rfl) (fun _ _ _ h => h) (loadTk7 g A n cap (fun u h => ((HC.out.below h HC.out.lt).cell_ 0).trans rfl) rfl rfl (by rfl)) hS ?_
 simp only [Act.put, List.setIfInBounds_toArray, List.set_cons_zero, List.set_cons_succ]
 refine takeAt 8 11 (.int .i64 ((n : Nat) : Int)) rfl rfl (by kernel_rfl) (by kernel_rfl) (by kernel_rfl) (fun _ _ _ h => h) (yields (by rfl) (fun w => by kernel_rfl)) hS ?_
 simp only [Act.put, List.setIfInBounds_toArray, List.set_cons_zero, List.set_cons_succ]
 refine takeAt 9 12 (.bool false) rfl rfl (by kernel_rfl) (by kernel_rfl) (by kernel_rfl) (fun _ _ _ h => h) (geqI_y (m := ((a : Nat) : Int)) (n := ((n : Nat) : Int)) false (decide_eq_false (by omega)) rfl rfl rfl (by rfl)) hS ?_
 simp only [Act.put, List.setIfInBounds_toArray, List.set_cons_zero, List.set_cons_succ]
 refine takeAt 10 13 (.bool false) rfl rfl (by kernel_rfl) (by kernel_rfl) (by kernel_rfl) (fun _ _ _ h => h) (yields (by rfl) (fun w => by kernel_rfl)) hS ?_
 simp only [Act.put, List.setIfInBounds_toArray, List.set_cons_zero, List.set_cons_succ]
 refine takeAt 11 14 (.pointer (some ⟨g, 0, none⟩)) rfl rfl (by kernel_rfl) (by kernel_rfl) (by kernel_rfl) (fun _ _ _ h => h) (yields (by rfl) (fun w => by kernel_rfl)) hS ?_
 simp only [Act.put, List.setIfInBounds_toArray, List.set_cons_zero, List.set_cons_succ]
 as_aux_lemma =>
  refine takeAt 12 15 (.pointer (some ⟨g, 0, none⟩)) rfl rfl (by kernel_rfl) (by kernel_rfl) (by kernel_rfl) (fun _ _ _ h => h) (yields (by rfl) (fun w => by kernel_rfl)) hS ?_
  simp only [Act.put, List.setIfInBounds_toArray, List.set_cons_zero, List.set_cons_succ]
  refine takeAt 13 16 (.pointer (some ⟨g, 3, none⟩)) rfl rfl (by kernel_rfl) (by kernel_rfl) (by kernel_rfl) (fun _ _ _ h => h) (yields (by rfl) (fun w => by kernel_rfl)) hS ?_
  simp only [Act.put, List.setIfInBounds_toArray, List.set_cons_zero, List.set_cons_succ]
  refine takeAt 14 17 (.bool true) rfl rfl (by kernel_rfl) (by kernel_rfl) (by kernel_rfl) (fun _ _ _ h => h) (loadBr7 g 3 _ (fun u h => ((HC.out.below h HC.out.lt).cell_ 3).trans rfl) rfl rfl (by rfl)) hS ?_
  simp only [Act.put, List.setIfInBounds_toArray, List.set_cons_zero, List.set_cons_succ]
  refine takeAt 15 18 (.bool true) rfl rfl (by kernel_rfl) (by kernel_rfl) (by kernel_rfl) (fun _ _ _ h => h) (yields (by rfl) (fun w => by kernel_rfl)) hS ?_
  simp only [Act.put, List.setIfInBounds_toArray, List.set_cons_zero, List.set_cons_succ]
  refine wpAnyH_done (by kernel_rfl) ?_ _
  go_wp2_with fail
  go_ret
  exact ⟨rfl, hS⟩
set_option maxRecDepth 100000 in
set_option maxHeartbeats 4000000 in
theorem kind_tok {w0 w : World} {g cap : Nat} {A : Option Addr} {all : List Tok} {s : US} (h : UW w0 g A cap all w s) (hall : all.length ≤ 1000) (hb : s.bad = false) (x : Tok) (r : List Tok) (hl : s.l = x :: r) : Calls Tryz.prog 54 #[.pointer (some ⟨g, 0, none⟩)] w fun e w' => e = .returned (.int .i64 x.k) ∧ Below w.heap.size w w' := by
 obtain ⟨b, o, hA, hbw, hx⟩ := h.toksW _ _ (h.at_ hl)
 have HA := Lib.hid (show ∀ u, Below w.heap.size w u → u.cell? ⟨b, o + (all.length - s.l.length) * 10, none⟩ = some (.int .i64 x.k) from fun u hu => (hu.cell (p := ⟨b, _, none⟩) hbw).trans hx.1)
 have hle := h.le
 have hcl := h.cells
 have HU := Lib.hid h
 have hz : s.l.length = r.length + 1 := by rw [hl]; rfl
 obtain ⟨n, hn⟩ : ∃ n, n = all.length := ⟨_, rfl⟩
 obtain ⟨a, ha⟩ : ∃ a, a = all.length - s.l.length := ⟨_, rfl⟩
 have HC := Lib.hid (show BoxV 61 w g #[.slice A n cap, .int .i64 (a : Int), .int .i64 (s.g : Int), .bool false] by rw [hn, ha, ← hb]; exact hcl)
 rw [← ha] at HA
 subst hA
 have han : a < n := by omega
 have hn5 : n ≤ 1000 := by omega
 clear hcl ha hz hl hle hn hall h hb
 go_enter Tryz.func54, Tryz.ntmps54
 go_wp2_with fail
 refine wp_region_held_drew (S := fun u => Below w.heap.size w u) (by kernel_rfl) (show _ from (Below.refl _ w).drew) (fun hS => ?_)
 generalize World.drew w = u0 at hS ⊢
 refine takeAt 0 3 (.pointer (some ⟨g, 0, none⟩)) rfl rfl (by kernel_rfl) (by kernel_rfl) (by kernel_rfl) (fun _ _ _ h => h) (yields (by rfl) (fun w => by kernel_rfl)) hS ?_
 simp only [Act.put, List.setIfInBounds_toArray, List.set_cons_zero, List.set_cons_succ]
 refine takeAt 1 4 (.pointer (some ⟨g, 0, none⟩)) rfl rfl (by kernel_rfl) (by kernel_rfl) (by kernel_rfl) (fun _ _ _ h => h) (yields (by rfl) (fun w => by kernel_rfl)) hS ?_
 simp only [Act.put, List.setIfInBounds_toArray, List.set_cons_zero, List.set_cons_succ]
 refine takeAt 2 5 (.pointer (some ⟨g, 1, none⟩)) rfl rfl (by kernel_rfl) (by kernel_rfl) (by kernel_rfl) (fun _ _ _ h => h) (yields (by rfl) (fun w => by kernel_rfl)) hS ?_
 simp only [Act.put, List.setIfInBounds_toArray, List.set_cons_zero, List.set_cons_succ]
 refine takeAt 3 6 (.int .i64 ((a : Nat) : Int)) rfl rfl (by kernel_rfl) (by kernel_rfl) (by kernel_rfl) (fun _ _ _ h => h) (loadIr7 g 1 _ (fun u h => ((HC.out.below h HC.out.lt).cell_ 1).trans rfl) rfl rfl (by rfl)) hS ?_
 simp only [Act.put, List.setIfInBounds_toArray, List.set_cons_zero, List.set_cons_succ]
 refine takeAt 4 7 (.pointer (some ⟨g, 0, none⟩)) rfl rfl (by kernel_rfl) (by kernel_rfl) (by kernel_rfl) (fun _ _ _ h => h) (yields (by rfl) (fun w => by kernel_rfl)) hS ?_
 simp only [Act.put, List.setIfInBounds_toArray, List.set_cons_zero, List.set_cons_succ]
 refine takeAt 5 8 (.pointer (some ⟨g, 0, none⟩)) rfl rfl (by kernel_rfl) (by kernel_rfl) (by kernel_rfl) (fun _ _ _ h => h) (yields (by rfl) (fun w => by kernel_rfl)) hS ?_
 simp only [Act.put, List.setIfInBounds_toArray, List.set_cons_zero, List.set_cons_succ]
 refine takeAt 6 9 (.pointer (some ⟨g, 0, none⟩)) rfl rfl (by kernel_rfl) (by kernel_rfl) (by kernel_rfl) (fun _ _ _ h => h) (yields (by rfl) (fun w => by kernel_rfl)) hS ?_
 simp only [Act.put, List.setIfInBounds_toArray, List.set_cons_zero, List.set_cons_succ]
 refine takeAt 7 10 (.slice (some ⟨b, o, none⟩) n cap) rfl rfl (by kernel_rfl) (by kernel_rfl) (by kernel_rfl) (fun _ _ _ h => h) (loadTk7 g (some ⟨b, o, none⟩) n cap (fun u h => ((HC.out.below h HC.out.lt).cell_ 0).trans rfl) rfl rfl (by rfl)) hS ?_
 simp only [Act.put, List.setIfInBounds_toArray, List.set_cons_zero, List.set_cons_succ]
 refine takeAt 8 11 (.int .i64 ((n : Nat) : Int)) rfl rfl (by kernel_rfl) (by kernel_rfl) (by kernel_rfl) (fun _ _ _ h => h) (yields (by rfl) (fun w => by kernel_rfl)) hS ?_
 simp only [Act.put, List.setIfInBounds_toArray, List.set_cons_zero, List.set_cons_succ]
 refine takeAt 9 12 (.bool false) rfl rfl (by kernel_rfl) (by kernel_rfl) (by kernel_rfl) (fun _ _ _ h => h) (geqI_y (m := ((a : Nat) : Int)) (n := ((n : Nat) : Int)) false (decide_eq_false (by omega)) rfl rfl rfl (by rfl)) hS ?_
 simp only [Act.put, List.setIfInBounds_toArray, List.set_cons_zero, List.set_cons_succ]
 refine takeAt 10 13 (.bool false) rfl rfl (by kernel_rfl) (by kernel_rfl) (by kernel_rfl) (fun _ _ _ h => h) (yields (by rfl) (fun w => by kernel_rfl)) hS ?_
 simp only [Act.put, List.setIfInBounds_toArray, List.set_cons_zero, List.set_cons_succ]
 refine takeAt 11 14 (.pointer (some ⟨g, 0, none⟩)) rfl rfl (by kernel_rfl) (by kernel_rfl) (by kernel_rfl) (fun _ _ _ h => h) (yields (by rfl) (fun w => by kernel_rfl)) hS ?_
 simp only [Act.put, List.setIfInBounds_toArray, List.set_cons_zero, List.set_cons_succ]
 as_aux_lemma =>
  refine takeAt 12 15 (.pointer (some ⟨g, 0, none⟩)) rfl rfl (by kernel_rfl) (by kernel_rfl) (by kernel_rfl) (fun _ _ _ h => h) (yields (by rfl) (fun w => by kernel_rfl)) hS ?_
  simp only [Act.put, List.setIfInBounds_toArray, List.set_cons_zero, List.set_cons_succ]
  refine takeAt 13 16 (.pointer (some ⟨g, 3, none⟩)) rfl rfl (by kernel_rfl) (by kernel_rfl) (by kernel_rfl) (fun _ _ _ h => h) (yields (by rfl) (fun w => by kernel_rfl)) hS ?_
  simp only [Act.put, List.setIfInBounds_toArray, List.set_cons_zero, List.set_cons_succ]
  refine takeAt 14 17 (.bool false) rfl rfl (by kernel_rfl) (by kernel_rfl) (by kernel_rfl) (fun _ _ _ h => h) (loadBr7 g 3 _ (fun u h => ((HC.out.below h HC.out.lt).cell_ 3).trans rfl) rfl rfl (by rfl)) hS ?_
  simp only [Act.put, List.setIfInBounds_toArray, List.set_cons_zero, List.set_cons_succ]
  refine takeAt 15 18 (.bool false) rfl rfl (by kernel_rfl) (by kernel_rfl) (by kernel_rfl) (fun _ _ _ h => h) (yields (by rfl) (fun w => by kernel_rfl)) hS ?_
  simp only [Act.put, List.setIfInBounds_toArray, List.set_cons_zero, List.set_cons_succ]
  refine wpAnyH_done (by kernel_rfl) ?_ _
  go_wp2_with fail
  have HS1 := Lib.hid hS
  clear hS
  refine wp_region_held_drew (S := fun u => Below u0.heap.size u0 u) (by kernel_rfl) (show _ from (Below.refl _ u0).drew) (fun hS => ?_)
  generalize World.drew u0 = u1 at hS ⊢
  refine takeAt 0 19 (.pointer (some ⟨g, 0, none⟩)) rfl rfl (by kernel_rfl) (by kernel_rfl) (by kernel_rfl) (fun _ _ _ h => h) (yields (by rfl) (fun w => by kernel_rfl)) hS ?_
  simp only [Act.put, List.setIfInBounds_toArray, List.set_cons_zero, List.set_cons_succ]
  refine takeAt 1 20 (.pointer (some ⟨g, 0, none⟩)) rfl rfl (by kernel_rfl) (by kernel_rfl) (by kernel_rfl) (fun _ _ _ h => h) (yields (by rfl) (fun w => by kernel_rfl)) hS ?_
  simp only [Act.put, List.setIfInBounds_toArray, List.set_cons_zero, List.set_cons_succ]
  refine takeAt 2 21 (.pointer (some ⟨g, 0, none⟩)) rfl rfl (by kernel_rfl) (by kernel_rfl) (by kernel_rfl) (fun _ _ _ h => h) (yields (by rfl) (fun w => by kernel_rfl)) hS ?_
  simp only [Act.put, List.setIfInBounds_toArray, List.set_cons_zero, List.set_cons_succ]
  refine takeAt 3 22 (.slice (some ⟨b, o, none⟩) n cap) rfl rfl (by kernel_rfl) (by kernel_rfl) (by kernel_rfl) (fun _ _ _ h => h) (loadTk7 g (some ⟨b, o, none⟩) n cap (fun u h => ((HC.out.below (thenB HS1.out h HS1.out.size) HC.out.lt).cell_ 0).trans rfl) rfl rfl (by rfl)) hS ?_
  simp only [Act.put, List.setIfInBounds_toArray, List.set_cons_zero, List.set_cons_succ]
  refine takeAt 4 23 (.pointer (some ⟨g, 0, none⟩)) rfl rfl (by kernel_rfl) (by kernel_rfl) (by kernel_rfl) (fun _ _ _ h => h) (yields (by rfl) (fun w => by kernel_rfl)) hS ?_
  simp only [Act.put, List.setIfInBounds_toArray, List.set_cons_zero, List.set_cons_succ]
  refine takeAt 5 24 (.pointer (some ⟨g, 0, none⟩)) rfl rfl (by kernel_rfl) (by kernel_rfl) (by kernel_rfl) (fun _ _ _ h => h) (yields (by rfl) (fun w => by kernel_rfl)) hS ?_
  simp only [Act.put, List.setIfInBounds_toArray, List.set_cons_zero, List.set_cons_succ]
  refine takeAt 6 25 (.pointer (some ⟨g, 1, none⟩)) rfl rfl (by kernel_rfl) (by kernel_rfl) (by kernel_rfl) (fun _ _ _ h => h) (yields (by rfl) (fun w => by kernel_rfl)) hS ?_
  simp only [Act.put, List.setIfInBounds_toArray, List.set_cons_zero, List.set_cons_succ]
  refine takeAt 7 26 (.int .i64 ((a : Nat) : Int)) rfl rfl (by kernel_rfl) (by kernel_rfl) (by kernel_rfl) (fun _ _ _ h => h) (loadIr7 g 1 _ (fun u h => ((HC.out.below (thenB HS1.out h HS1.out.size) HC.out.lt).cell_ 1).trans rfl) rfl rfl (by rfl)) hS ?_
  simp only [Act.put, List.setIfInBounds_toArray, List.set_cons_zero, List.set_cons_succ]
  refine takeAt 8 27 (.pointer (some ⟨b, o + a * 10, none⟩)) rfl rfl (by kernel_rfl) (by kernel_rfl) (by kernel_rfl) (fun _ _ _ h => h) (idxT7 (n := n) (cap := cap) han hn5 rfl rfl rfl (by rfl)) hS ?_
  simp only [Act.put, List.setIfInBounds_toArray, List.set_cons_zero, List.set_cons_succ]
  refine takeAt 9 28 (.pointer (some ⟨b, o + a * 10, none⟩)) rfl rfl (by kernel_rfl) (by kernel_rfl) (by kernel_rfl) (fun _ _ _ h => h) (yields (by rfl) (fun w => by kernel_rfl)) hS ?_
  simp only [Act.put, List.setIfInBounds_toArray, List.set_cons_zero, List.set_cons_succ]
  refine takeAt 10 29 (.int .i64 x.k) rfl rfl (by kernel_rfl) (by kernel_rfl) (by kernel_rfl) (fun _ _ _ h => h) (loadIr7 b (o + a * 10) _ (fun u h => HA.out u (thenB HS1.out h HS1.out.size)) rfl rfl (by rfl)) hS ?_
  simp only [Act.put, List.setIfInBounds_toArray, List.set_cons_zero, List.set_cons_succ]
  refine takeAt 11 2 (.int .i64 x.k) rfl rfl (by kernel_rfl) (by kernel_rfl) (by kernel_rfl) (fun _ _ _ h => h) (yields (by rfl) (fun w => by kernel_rfl)) hS ?_
  simp only [Act.put, List.setIfInBounds_toArray, List.set_cons_zero, List.set_cons_succ]
  refine wpAnyH_done (by kernel_rfl) ?_ _
  go_wp2_with fail
  go_ret
  exact ⟨rfl, thenB HS1.out hS HS1.out.size⟩
theorem kind_any {w0 w : World} {g cap : Nat} {A : Option Addr} {all : List Tok} {s : US} (h : UW w0 g A cap all w s) (hall : all.length ≤ 1000) : Calls Tryz.prog 54 #[.pointer (some ⟨g, 0, none⟩)] w fun e w' => e = .returned (.int .i64 (kindU s)) ∧ Below w.heap.size w w' := by
 cases hl : s.l with
 | nil =>
   have e : kindU s = -1 := by
    unfold kindU
    rw [hl]
    split <;> rfl
   rw [e]
   exact kind_end h hall hl
 | cons x r =>
   cases hb : s.bad with
   | true =>
     have e : kindU s = -1 := by unfold kindU; rw [if_pos hb]
     rw [e]
     exact kind_bad h hall hb x r hl
   | false =>
     have e : kindU s = x.k := by unfold kindU; rw [if_neg (by rw [hb]; decide), hl]
     rw [e]
     exact kind_tok h hall hb x r hl
end Go.Proofs.YtdnbpbngoiahlaaGreatDoor
namespace Go.Proofs.YtdnbpbngoiahlaaGreatDoor
open Go.RowKit
open Ast (Nd ndV joinL wrapL deepZ rightZ NodesAt Made)
theorem nodesAt_but {g b o n : Nat} {w u : World} {l : Nat → Nd} (h : NodesAt w b o n l) (hb : ButR g w.heap.size w u) (hg : b ≠ g) : NodesAt u b o n l :=
 ⟨Nat.lt_of_lt_of_le h.1 hb.size, fun i hi => (h.2 i hi).keep fun j => by unfold World.cell?; simp only [hb.block b h.1 hg]⟩
def UPost (w0 : World) (g : Nat) (A : Option Addr) (cap : Nat) (all : List Tok) (w : World) (t : Tr) (s' : US) (e : Ending) (w' : World) : Prop :=
 ∃ b c, e = .returned (.slice (some ⟨b, 0, none⟩) t.1 c) ∧ NodesAt w' b 0 t.1 t.2 ∧ w.heap.size ≤ b ∧ UW w0 g A cap all w' s' ∧ ButR g w.heap.size w w'
structure FU (f : ByteArray) (s : US) : Prop where
 sz : f.size + 1000 * s.l.length ≤ 1000000
 ok : Toks7 s.l
 few : s.l.length ≤ 400
 fl : ∀ t ∈ s.l, t.f.size ≤ 1000
 grp : s.g + s.l.length ≤ 1000
theorem FU.suf {f : ByteArray} {s s' : US} (h : FU f s) (hs : s'.l <:+ s.l) (hg : s'.g + s'.l.length ≤ s.g + s.l.length) : FU f s' :=
 ⟨by have := hs.length_le; have := h.sz; omega, h.ok.suf hs, by have := hs.length_le; have := h.few; omega, fun t ht => h.fl t (hs.subset ht), by have := h.grp; omega⟩
section
variable {ops : Array Oper} {rest : List Oper} {o : Oper} {a : Act} {w : World} {Q : Exit → Act → World → Prop}
theorem storeIR (hgd : o.guard = none) (x y : Operand) (ho : o.op = .store 3 x y) (g j : Nat) (cs cs' : Array Value) (z n : Int) (hx : a.eval x = .pointer (some ⟨g, j, none⟩)) (hy : a.eval y = .int .i64 n) (hg : BoxV 61 w g cs) (hz : cs[j]? = some (.int .i64 z)) (he : cs.set! j (.int .i64 n) = cs')
  (h : ∀ u : World, Hid (BoxV 61 u g cs') → Hid (ButR g w.heap.size w u) → wpList Tryz.prog ops Q rest (a.put o.dst undef) u) : wpList Tryz.prog ops Q (o :: rest) a w := by
 have hf := frozen_of_row w g j _ _ hg
 have c := (cell_of_row w g j _ _ _ hg).trans hz
 have e1 := heap_setCell_same w g j _ _ (.int .i64 n) hg
 have e2 : BoxV 61 (w.setCell ⟨g, j, none⟩ (.int .i64 n)) g cs' := by rw [← he]; exact e1
 have hu := h _ (Lib.hid e2) (Lib.hid ((ButR.refl g w.heap.size w).setCell j (.int .i64 n)))
 refine wpList_plain hgd fun K hK => ?_
 unfold Oper.wp execOp
 simp only [ho, hx, hy]
 simp [go_sem, c, hf]
 exact hK _ _ hu
theorem storeBR (hgd : o.guard = none) (x y : Operand) (ho : o.op = .store 4 x y) (g j : Nat) (cs cs' : Array Value) (z n : Bool) (hx : a.eval x = .pointer (some ⟨g, j, none⟩)) (hy : a.eval y = .bool n) (hg : BoxV 61 w g cs) (hz : cs[j]? = some (.bool z)) (he : cs.set! j (.bool n) = cs')
  (h : ∀ u : World, Hid (BoxV 61 u g cs') → Hid (ButR g w.heap.size w u) → wpList Tryz.prog ops Q rest (a.put o.dst undef) u) : wpList Tryz.prog ops Q (o :: rest) a w := by
 have hf := frozen_of_row w g j _ _ hg
 have c := (cell_of_row w g j _ _ _ hg).trans hz
 have e1 := heap_setCell_same w g j _ _ (.bool n) hg
 have e2 : BoxV 61 (w.setCell ⟨g, j, none⟩ (.bool n)) g cs' := by rw [← he]; exact e1
 have hu := h _ (Lib.hid e2) (Lib.hid ((ButR.refl g w.heap.size w).setCell j (.bool n)))
 refine wpList_plain hgd fun K hK => ?_
 unfold Oper.wp execOp
 simp only [ho, hx, hy]
 simp [go_sem, c, hf]
 exact hK _ _ hu
end
section
variable {w0 w w' : World} {g cap : Nat} {A : Option Addr} {all : List Tok} {s : US}
theorem UW.tail {x : Tok} {r : List Tok} (h : UW w0 g A cap all w s) (hl : s.l = x :: r) (hb : ButR g w.heap.size w w') (hc : BoxV 61 w' g (urC A cap all ⟨s.g, r, s.bad⟩)) : UW w0 g A cap all w' ⟨s.g, r, s.bad⟩ :=
 ⟨hc, h.toks, by have := h.suf; rw [hl] at this; exact (List.suffix_cons x r).trans this, h.base, h.below.trans (hb.below h.below.size h.base)⟩
theorem UW.change {s' : US} (h : UW w0 g A cap all w s) (hl : s'.l = s.l) (hb : ButR g w.heap.size w w') (hc : BoxV 61 w' g (urC A cap all s')) : UW w0 g A cap all w' s' :=
 ⟨hc, h.toks, by rw [hl]; exact h.suf, h.base, h.below.trans (hb.below h.below.size h.base)⟩
theorem UW.step (h : UW w0 g A cap all w s) {x : Tok} {r : List Tok} (hl : s.l = x :: r) : ((all.length - s.l.length : Nat) : Int) + 1 = ((all.length - r.length : Nat) : Int) := by
 have := h.le
 rw [hl, List.length_cons] at this ⊢
 omega
theorem UW.c0 (h : UW w0 g A cap all w s) : w.cell? ⟨g, 0, none⟩ = some (.slice A all.length cap) := (h.cells.cell_ 0).trans rfl
theorem UW.c1 (h : UW w0 g A cap all w s) : w.cell? ⟨g, 1, none⟩ = some (.int .i64 ((all.length - s.l.length : Nat) : Int)) := (h.cells.cell_ 1).trans rfl
theorem UW.c2 (h : UW w0 g A cap all w s) : w.cell? ⟨g, 2, none⟩ = some (.int .i64 (s.g : Int)) := (h.cells.cell_ 2).trans rfl
theorem UW.c3 (h : UW w0 g A cap all w s) : w.cell? ⟨g, 3, none⟩ = some (.bool s.bad) := (h.cells.cell_ 3).trans rfl
end
def atU (g : Nat) (w : World) : Nat := match w.cell? ⟨g, 1, none⟩ with | some (.int .i64 n) => n.toNat | _ => 0
theorem UW.atU {w0 w : World} {g cap : Nat} {A : Option Addr} {all : List Tok} {s : US} (h : UW w0 g A cap all w s) : Go.Proofs.YtdnbpbngoiahlaaGreatDoor.atU g w = all.length - s.l.length := by
 unfold Go.Proofs.YtdnbpbngoiahlaaGreatDoor.atU
 rw [h.c1]
 simp
section
variable (w0 : World) (g : Nat) (A : Option Addr) (cap : Nat) (all : List Tok)
def AltUOk (n : Nat) : Prop := ∀ w f s t s', FU f s → UW w0 g A cap all w s → altU n f s = some (t, s') → Calls Tryz.prog 26 #[.pointer (some ⟨g, 0, none⟩), .string f] w (UPost w0 g A cap all w t s')
def RowUOk (n : Nat) : Prop := ∀ w f s t s', FU f s → UW w0 g A cap all w s → rowU n f s = some (t, s') → Calls Tryz.prog 53 #[.pointer (some ⟨g, 0, none⟩), .string f] w (UPost w0 g A cap all w t s')
def ItemUOk (n : Nat) : Prop := ∀ w f s t s', FU f s → UW w0 g A cap all w s → ¬ (kindU s < 0 ∨ kindU s = 6 ∨ kindU s = 15) → itemU n f s = some (t, s') → Calls Tryz.prog 83 #[.pointer (some ⟨g, 0, none⟩), .string f] w (UPost w0 g A cap all w t s')
def PieceUOk (n : Nat) : Prop := ∀ w f s t s', FU f s → UW w0 g A cap all w s → pieceU n f s = some (t, s') → Calls Tryz.prog 124 #[.pointer (some ⟨g, 0, none⟩), .string f] w (UPost w0 g A cap all w t s')
def WithinUOk (n : Nat) : Prop := ∀ w f x s t s', FU f s → f.size + x.f.size + 1000 * s.l.length ≤ 1000000 → s.g + 1 + s.l.length ≤ 1000 → UW w0 g A cap all w s → withinU n f x s = some (t, s') → Calls Tryz.prog 143 #[.pointer (some ⟨g, 0, none⟩), tokV x, .string f] w (UPost w0 g A cap all w t s')
end
set_option maxRecDepth 100000 in
set_option maxHeartbeats 8000000 in
theorem altU_step (w0 : World) (g : Nat) (A : Option Addr) (cap : Nat) (all : List Tok) (hall : all.length ≤ 1000) (n : Nat) (hR : ∀ m, m ≤ n → RowUOk w0 g A cap all m) : AltUOk w0 g A cap all (n + 1) := by
 intro w f s t s' hF hU hm
 rw [altU_s] at hm
 obtain ⟨⟨t1, s1⟩, h1, h2⟩ := bind_some hm
 have HP := Lib.hid ((pu_all n).2.2.1 _ _ _ _ h1 hF.ok hF.few)
 have HR := Lib.hid hR
 have HF := Lib.hid hF
 have HM := Lib.hid h2
 have H1 := Lib.hid (hR n (Nat.le_refl _) w f s t1 s1 hF hU h1)
 have HU := Lib.hid hU
 have HL := Lib.hid hall
 clear hm hR hF hU h1 h2 hall
 go_enter Tryz.func26, Tryz.ntmps26
 go_wp2_with fail
 with_reducible refine H1.out.mono ?_
 rintro e w1 ⟨b1, c1, rfl, hn1, hb1, hu1, hB1⟩
 have HN1 := Lib.hid hn1
 have HU1 := Lib.hid hu1
 have HB1 := Lib.hid hB1
 have HG1 := Lib.hid hb1
 clear hn1 hu1 hB1 hb1 H1
 go_wp2_with fail
 go_loopw [5] (fun v wr => ∃ m tc sc b c, m ≤ n ∧ altsU m f tc sc = some (t, s') ∧ tc.1 + 2 * sc.l.length ≤ 801 ∧ 1 ≤ tc.1 ∧ FU f sc ∧ v = .slice (some ⟨b, 0, none⟩) tc.1 c ∧ NodesAt wr b 0 tc.1 tc.2 ∧ w.heap.size ≤ b ∧ UW w0 g A cap all wr sc ∧ ButR g w.heap.size w wr) (fun _ wr => all.length - atU g wr)
 case atStart =>
  have a := HP.out.len
  have fw := HF.out.few
  exact ⟨n, t1, s1, b1, c1, Nat.le_refl _, HM.out, by omega, HP.out.one, HF.out.suf HP.out.suf HP.out.grp, rfl, HN1.out, HG1.out, HU1.out, HB1.out⟩
 case round =>
  obtain ⟨m, tc, sc, b, c, hmn, hm, hsz, h1c, hfc, rfl, hnc, hbc, huc, hBc⟩ := hrel
  have HFc := Lib.hid hfc
  have HNc := Lib.hid hnc
  have HUc := Lib.hid huc
  have HBc := Lib.hid hBc
  have HGc := Lib.hid hbc
  have HMs := Lib.hid hm
  have HSZ := Lib.hid (And.intro hsz h1c)
  have HMN := Lib.hid hmn
  have hKU := Lib.hid (kind_any huc HL.out)
  clear hfc hnc huc hBc hbc hsz h1c hmn
  cases m with
  | zero => rw [altsU] at hm; cases hm
  | succ m =>
    rw [altsU_s] at hm
    by_cases h6 : kindU sc = 6
    ·rw [if_pos h6] at hm
     obtain ⟨hbad, x, r, hl, hx⟩ := kindU_eq h6 (by decide)
     obtain ⟨⟨t2, s2⟩, hm1, hm2⟩ := bind_some hm
     have hKU := hKU.out
     rw [h6] at hKU
     have HK := Lib.hid hKU
     have HL2 := Lib.hid hl
     have HM1 := Lib.hid hm1
     have HM2 := Lib.hid hm2
     clear hm hKU h6 hm1 hm2 hbad hl hx
     go_wp2_with fail
     with_reducible refine HK.out.mono ?_
     rintro e w2 ⟨rfl, hb⟩
     have HUd := Lib.hid (HUc.out.call hb)
     have HNd := Lib.hid (HNc.out.below hb (Nat.le_refl _))
     have HBd := Lib.hid (HBc.out.then (ButR.of hb) HBc.out.size)
     have hc1 := HUd.out.c1
     rw [← Int.add_zero ((all.length - sc.l.length : Nat) : Int)] at hc1
     have HST := Lib.hid (HUd.out.step HL2.out)
     have HLEN := Lib.hid (show ((all.length - sc.l.length : Nat) : Int) ≤ 1000 by have := HL.out; omega)
     rw [Int.add_zero] at hc1
     obtain ⟨z, hz⟩ : ∃ z : Int, z = ((all.length - sc.l.length : Nat) : Int) := ⟨_, rfl⟩
     rw [← hz] at hc1 HST HLEN
     have hz0 : 0 ≤ z := by omega
     have hz1 : z ≤ 1000 := HLEN.out
     have HZ := Lib.hid hz
     clear hb hz
     go_wp2_with (first | (refine storeIR rfl _ _ rfl g 1 (urC A cap all sc) (urC A cap all ⟨sc.g, sc.l.tail, sc.bad⟩) z (z + 1) rfl rfl HUd.out.cells (by rw [HZ.out]; rfl) (by rw [HST.out, HL2.out]; rfl) ?_; intro w3 hx3 hN3; refine stopP ?_))
     unfold StopP
     have HU3 := Lib.hid (HUd.out.tail (r := sc.l.tail) (x := x) (by rw [HL2.out]; rfl) hN3.out hx3.out)
     have HB3 := Lib.hid (HBd.out.then hN3.out HBd.out.size)
     have hgw : g < w.heap.size := HU.out.lt
     have HN3 := Lib.hid (nodesAt_but HNd.out hN3.out (by have := HGc.out; omega))
     have hT3 : Toks7 sc.l.tail := HFc.out.ok.suf (List.tail_suffix _)
     have hlt3 : sc.l.tail.length + 1 = sc.l.length := by rw [HL2.out]; rfl
     have HP2 := Lib.hid ((pu_all m).2.2.1 _ _ _ _ HM1.out hT3 (by have := HFc.out.few; show sc.l.tail.length ≤ 400; omega))
     have HF3 := Lib.hid (HFc.out.suf (s' := ⟨sc.g, sc.l.tail, sc.bad⟩) (List.tail_suffix _) (by show sc.g + sc.l.tail.length ≤ _; omega))
     have HR2 := Lib.hid (HR.out m (by have := HMN.out; omega) w3 f _ t2 s2 HF3.out HU3.out HM1.out)
     clear hx3 hN3 hc1 hz0 hz1 HZ HST HLEN HUd HNd HBd
     go_wp2_with fail
     with_reducible refine HR2.out.mono ?_
     rintro e w4 ⟨b2, c2, rfl, hn2, hb2, hu2, hB2⟩
     have HU4 := Lib.hid hu2
     have HN4 := Lib.hid (nodesAt_but HN3.out hB2 (by have := HGc.out; omega))
     have HN42 := Lib.hid hn2
     have HB4 := Lib.hid (HB3.out.then hB2 HB3.out.size)
     have HP2l := Lib.hid HP2.out.len
     have HLT3 := Lib.hid hlt3
     have HGW := Lib.hid hgw
     clear hn2 hu2 hB2 hb2 HU3 HN3 HB3 HR2 hT3 hlt3 hgw
     go_wp2_with fail
     refine (Ast.rjoin_any b 0 tc.1 c tc.2 b2 0 t2.1 c2 t2.2 9 _ (by have := HSZ.out; omega) (by have := HP2l.out; have := HFc.out.few; have := HLT3.out; show t2.1 ≤ 1000; have h9 : t2.1 + 2 * s2.l.length + 0 ≤ 2 * sc.l.tail.length + 1 := HP2l.out; omega) HP2.out.one HN4.out HN42.out).mono ?_
     rintro e w5 ⟨b3, c3, rfl, hn3, hb3, hB5⟩
     have HU5 := Lib.hid (HU4.out.call hB5)
     have HB5 := Lib.hid (HB4.out.then (ButR.of hB5) HB4.out.size)
     have HN5 := Lib.hid hn3
     have HG5 := Lib.hid (show w.heap.size ≤ b3 by have := HB4.out.size; omega)
     clear hn3 hb3 hB5
     go_wp2_with fail
     go_roundw
     case rel =>
      have a1 : t2.1 + 2 * s2.l.length + 0 ≤ 2 * sc.l.tail.length + 1 := HP2l.out
      have a2 := HLT3.out
      have a3 := HSZ.out
      exact ⟨m, joinT tc t2 9, s2, b3, c3, by have := HMN.out; omega, HM2.out, by show tc.1 + t2.1 + 1 + 2 * s2.l.length ≤ 801; omega, by show 1 ≤ tc.1 + t2.1 + 1; omega, HF3.out.suf HP2.out.suf HP2.out.grp, rfl, HN5.out, HG5.out, HU5.out, HB5.out⟩
     case measure =>
      have a1 : s2.l.length ≤ sc.l.tail.length := HP2.out.suf.length_le
      have a2 := HLT3.out
      have a3 := HUc.out.le
      rw [HU5.out.atU, HUc.out.atU]
      omega
    ·rw [if_neg h6] at hm
     cases hm
     have hq : (kindU s' == 6) = false := by simpa using h6
     clear h6
     go_wp2_with fail
     with_reducible refine hKU.out.mono ?_
     rintro e w2 ⟨rfl, hb⟩
     have HUd := Lib.hid (HUc.out.call hb)
     have HNd := Lib.hid (HNc.out.below hb (Nat.le_refl _))
     have HBd := Lib.hid (HBc.out.then (ButR.of hb) HBc.out.size)
     clear hb
     go_wp2_with fail
     go_ret
     exact ⟨b, c, rfl, HNd.out, HGc.out, HUd.out, HBd.out⟩
set_option maxRecDepth 100000 in
set_option maxHeartbeats 8000000 in
theorem rowU_step (w0 : World) (g : Nat) (A : Option Addr) (cap : Nat) (all : List Tok) (hall : all.length ≤ 1000) (n : Nat) (hI : ∀ m, m ≤ n → ItemUOk w0 g A cap all m) : RowUOk w0 g A cap all (n + 1) := by
 intro w f s t s' hF hU hm
 have HI := Lib.hid hI
 have HF := Lib.hid hF
 have HM := Lib.hid hm
 have HU := Lib.hid hU
 have HL := Lib.hid hall
 clear hm hI hF hU hall
 go_enter Tryz.func53, Tryz.ntmps53
 go_wp2_with fail
 refine (Ast.rleaf_any 0 _).mono ?_
 rintro e w1 ⟨b1, c1, rfl, hn1, hb1, hB1⟩
 have HN1 := Lib.hid hn1
 have HU1 := Lib.hid (HU.out.call hB1)
 have HB1 := Lib.hid (ButR.of (g := g) hB1)
 have HG1 := Lib.hid hb1
 clear hn1 hB1 hb1
 go_wp2_with fail
 go_loopw [5, 6] (fun v q wr => ∃ b c tc sc, v = .slice (some ⟨b, 0, none⟩) tc.1 c ∧ NodesAt wr b 0 tc.1 tc.2 ∧ w.heap.size ≤ b ∧ UW w0 g A cap all wr sc ∧ ButR g w.heap.size w wr ∧ FU f sc ∧ ((q = .bool false ∧ tc = leaf0 ∧ sc = s) ∨ (q = .bool true ∧ tc.1 + 2 * sc.l.length ≤ 801 ∧ 1 ≤ tc.1 ∧ ∃ m, m ≤ n ∧ itemsU m f tc sc = some (t, s')))) (fun _ _ wr => all.length - atU g wr)
 case atStart => exact ⟨b1, c1, leaf0, s, rfl, HN1.out, HG1.out, HU1.out, HB1.out, HF.out, .inl ⟨rfl, rfl, rfl⟩⟩
 case round =>
  obtain ⟨b, c, tc, sc, rfl, hnc, hbc, huc, hBc, hfc, hq⟩ := hrel
  have HFc := Lib.hid hfc
  have HNc := Lib.hid hnc
  have HUc := Lib.hid huc
  have HBc := Lib.hid hBc
  have HGc := Lib.hid hbc
  have HK := Lib.hid (fun u (hu : Below wr.heap.size wr u) => kind_any (huc.call hu) HL.out)
  clear hfc hnc huc hBc hbc
  by_cases hk : kindU sc < 0 ∨ kindU sc = 6 ∨ kindU sc = 15
  ·have hdone : t = tc ∧ s' = sc := by
    rcases hq with ⟨-, rfl, rfl⟩ | ⟨-, -, -, m, -, hm⟩
    ·have := HM.out
     rw [rowU_s, if_pos hk] at this
     cases this
     exact ⟨rfl, rfl⟩
    ·cases m with
     | zero => rw [itemsU] at hm; cases hm
     | succ m => rw [itemsU_s, if_pos hk] at hm; cases hm; exact ⟨rfl, rfl⟩
   obtain ⟨rfl, rfl⟩ := hdone
   clear hq
   obtain ⟨K, hK⟩ : ∃ K, K = kindU s' := ⟨_, rfl⟩
   rw [← hK] at HK hk
   clear hK
   have HBel := Lib.hid (Below.refl wr.heap.size wr)
   by_cases k0 : K < 0
   ·have q0 : ¬ (0 : Int) ≤ K := by omega
    clear hk k0
    go_wp2_with fail
    with_reducible refine (HK.out _ HBel.out).mono ?_
    rintro e w2 ⟨rfl, hb⟩
    have HB2 := Lib.hid hb
    clear hb
    go_wp2_with fail
    go_ret
    exact ⟨b, c, rfl, HNc.out.below HB2.out (Nat.le_refl _), HGc.out, HUc.out.call HB2.out, HBc.out.then (ButR.of HB2.out) HBc.out.size⟩
   ·have q0 : (0 : Int) ≤ K := by omega
    by_cases k6 : K = 6
    ·subst k6
     clear hk k0
     go_wp2_with fail
     with_reducible refine (HK.out _ HBel.out).mono ?_
     rintro e w2 ⟨rfl, hb⟩
     have HB2 := Lib.hid hb
     clear hb
     go_wp2_with fail
     with_reducible refine (HK.out _ HB2.out).mono ?_
     rintro e w3 ⟨rfl, hb⟩
     have HB3 := Lib.hid (thenB HB2.out hb HB2.out.size)
     clear hb
     go_wp2_with fail
     go_ret
     exact ⟨b, c, rfl, HNc.out.below HB3.out (Nat.le_refl _), HGc.out, HUc.out.call HB3.out, HBc.out.then (ButR.of HB3.out) HBc.out.size⟩
    ·obtain rfl : K = 15 := by omega
     clear hk k0 k6
     go_wp2_with fail
     with_reducible refine (HK.out _ HBel.out).mono ?_
     rintro e w2 ⟨rfl, hb⟩
     have HB2 := Lib.hid hb
     clear hb
     go_wp2_with fail
     with_reducible refine (HK.out _ HB2.out).mono ?_
     rintro e w3 ⟨rfl, hb⟩
     have HB3 := Lib.hid (thenB HB2.out hb HB2.out.size)
     clear hb
     go_wp2_with fail
     with_reducible refine (HK.out _ HB3.out).mono ?_
     rintro e w4 ⟨rfl, hb⟩
     have HB4 := Lib.hid (thenB HB3.out hb HB3.out.size)
     clear hb
     go_wp2_with fail
     go_ret
     exact ⟨b, c, rfl, HNc.out.below HB4.out (Nat.le_refl _), HGc.out, HUc.out.call HB4.out, HBc.out.then (ButR.of HB4.out) HBc.out.size⟩
  ·have HNK := Lib.hid hk
   have HQ := Lib.hid hq
   obtain ⟨K, hK⟩ : ∃ K, K = kindU sc := ⟨_, rfl⟩
   rw [← hK] at HK hk
   clear hK
   have HBel := Lib.hid (Below.refl wr.heap.size wr)
   have q0 : (0 : Int) ≤ K := by omega
   have q6 : (K != 6) = true := by simp; omega
   have q15 : (K != 15) = true := by simp; omega
   have hgw : g < w.heap.size := HU.out.lt
   have HGW := Lib.hid hgw
   clear hk hgw
   rcases hq with ⟨rfl, htc, hsc⟩ | ⟨rfl, hsz, h1c, m, hmn, hm⟩
   ·have hr := HM.out
    rw [rowU_s, if_neg (by rw [← hsc]; exact HNK.out)] at hr
    obtain ⟨⟨t2, s2⟩, h1, h2⟩ := bind_some hr
    rw [← hsc] at h1
    have HR2 := Lib.hid (fun u (hu : UW w0 g A cap all u sc) => HI.out n (Nat.le_refl _) u f sc t2 s2 HFc.out hu HNK.out h1)
    have HP2 := Lib.hid ((pu_all n).2.2.2.2.1 _ _ _ _ h1 HFc.out.ok HFc.out.few HNK.out)
    have HM2 := Lib.hid h2
    clear hr h1 h2 htc hsc HQ
    go_wp2_with fail
    with_reducible refine (HK.out _ HBel.out).mono ?_
    rintro e w2 ⟨rfl, hb⟩
    have HB2 := Lib.hid hb
    clear hb
    go_wp2_with fail
    with_reducible refine (HK.out _ HB2.out).mono ?_
    rintro e w3 ⟨rfl, hb⟩
    have HB3 := Lib.hid (thenB HB2.out hb HB2.out.size)
    clear hb HB2
    go_wp2_with fail
    with_reducible refine (HK.out _ HB3.out).mono ?_
    rintro e w4 ⟨rfl, hb⟩
    have HB4 := Lib.hid (thenB HB3.out hb HB3.out.size)
    clear hb HB3
    go_wp2_with fail
    with_reducible refine (HR2.out _ (HUc.out.call HB4.out)).mono ?_
    rintro e w5 ⟨b2, c2, rfl, hn2, hb2, hu2, hB2⟩
    have HU5 := Lib.hid hu2
    have HN5 := Lib.hid hn2
    have HB5 := Lib.hid ((HBc.out.then (ButR.of HB4.out) HBc.out.size).then hB2 (Nat.le_trans HBc.out.size HB4.out.size))
    have HG5 := Lib.hid (show w.heap.size ≤ b2 by have := HBc.out.size; have := HB4.out.size; omega)
    clear hn2 hu2 hB2 hb2
    go_wp2_with fail
    go_roundw
    case rel =>
     have a1 := HP2.out.len
     have a2 := HFc.out.few
     exact ⟨b2, c2, t2, s2, rfl, HN5.out, HG5.out, HU5.out, HB5.out, HFc.out.suf HP2.out.suf HP2.out.grp, .inr ⟨rfl, by omega, HP2.out.one, n, Nat.le_refl _, HM2.out⟩⟩
    case measure =>
     have a1 := HP2.out.len
     have a0 := HP2.out.one
     have a3 := HUc.out.le
     rw [HU5.out.atU, HUc.out.atU]
     omega
   ·cases m with
    | zero => rw [itemsU] at hm; cases hm
    | succ m =>
      rw [itemsU_s, if_neg HNK.out] at hm
      obtain ⟨⟨t2, s2⟩, h1, h2⟩ := bind_some hm
      have HR2 := Lib.hid (fun u (hu : UW w0 g A cap all u sc) => HI.out m (by omega) u f sc t2 s2 HFc.out hu HNK.out h1)
      have HP2 := Lib.hid ((pu_all m).2.2.2.2.1 _ _ _ _ h1 HFc.out.ok HFc.out.few HNK.out)
      have HM2 := Lib.hid h2
      have HSZ := Lib.hid (And.intro hsz (And.intro h1c hmn))
      clear hm h1 h2 hsz h1c hmn HQ
      go_wp2_with fail
      with_reducible refine (HK.out _ HBel.out).mono ?_
      rintro e w2 ⟨rfl, hb⟩
      have HB2 := Lib.hid hb
      clear hb
      go_wp2_with fail
      with_reducible refine (HK.out _ HB2.out).mono ?_
      rintro e w3 ⟨rfl, hb⟩
      have HB3 := Lib.hid (thenB HB2.out hb HB2.out.size)
      clear hb HB2
      go_wp2_with fail
      with_reducible refine (HK.out _ HB3.out).mono ?_
      rintro e w4 ⟨rfl, hb⟩
      have HB4 := Lib.hid (thenB HB3.out hb HB3.out.size)
      clear hb HB3
      go_wp2_with fail
      with_reducible refine (HR2.out _ (HUc.out.call HB4.out)).mono ?_
      rintro e w5 ⟨b2, c2, rfl, hn2, hb2, hu2, hB2⟩
      have HU5 := Lib.hid hu2
      have HN5 := Lib.hid hn2
      have HN51 := Lib.hid (nodesAt_but (HNc.out.below HB4.out (Nat.le_refl _)) hB2 (by have := HGc.out; have := HGW.out; omega))
      have HB5 := Lib.hid ((HBc.out.then (ButR.of HB4.out) HBc.out.size).then hB2 (Nat.le_trans HBc.out.size HB4.out.size))
      clear hn2 hu2 hB2 hb2
      go_wp2_with fail
      refine (Ast.rjoin_any b 0 tc.1 c tc.2 b2 0 t2.1 c2 t2.2 8 _ (by have := HSZ.out; omega) (by have := HP2.out.len; have := HFc.out.few; omega) HP2.out.one HN51.out HN5.out).mono ?_
      rintro e w6 ⟨b3, c3, rfl, hn3, hb3, hB6⟩
      have HU6 := Lib.hid (HU5.out.call hB6)
      have HB6 := Lib.hid (HB5.out.then (ButR.of hB6) HB5.out.size)
      have HN6 := Lib.hid hn3
      have HG6 := Lib.hid (show w.heap.size ≤ b3 by have := HB5.out.size; omega)
      clear hn3 hb3 hB6
      go_wp2_with fail
      go_roundw
      case rel =>
       have a1 := HP2.out.len
       have a2 := HFc.out.few
       have a3 := HSZ.out
       exact ⟨b3, c3, joinT tc t2 8, s2, rfl, HN6.out, HG6.out, HU6.out, HB6.out, HFc.out.suf HP2.out.suf HP2.out.grp, .inr ⟨rfl, by show tc.1 + t2.1 + 1 + 2 * s2.l.length ≤ 801; omega, by show 1 ≤ tc.1 + t2.1 + 1; omega, m, by omega, HM2.out⟩⟩
      case measure =>
       have a1 := HP2.out.len
       have a0 := HP2.out.one
       have a3 := HUc.out.le
       rw [HU6.out.atU, HUc.out.atU]
       omega
end Go.Proofs.YtdnbpbngoiahlaaGreatDoor
namespace Go.Proofs.YtdnbpbngoiahlaaGreatDoor
open Go.RowKit
open Ast (Nd ndV joinL wrapL deepZ rightZ NodesAt Made)
theorem sizeTk : (Tryz.prog.info? 93).map (·.size) = some 10 := by kernel_rfl
theorem UW.tok {w0 w : World} {g cap : Nat} {A : Option Addr} {all : List Tok} {s : US} (h : UW w0 g A cap all w s) {x : Tok} {r : List Tok} (hl : s.l = x :: r) : ∃ b o, A = some ⟨b, o, none⟩ ∧ ∀ u, Below w.heap.size w u → At10 u b (o + (all.length - s.l.length) * 10) x := by
 obtain ⟨b, o, hA, hb, hx⟩ := h.toksW _ _ (h.at_ hl)
 exact ⟨b, o, hA, fun u hu => hx.keep fun j => hu.cell (p := ⟨b, j, none⟩) hb⟩
theorem run_alloc_tok {a : Act} {o : Oper} (ho : o.op = .alloc 93) (w : World) : (execOp a.eval o).run Tryz.prog w = .ok (.value (.pointer (some ⟨w.heap.size, 0, none⟩))) (w.alloc (.cells (tokC (tok0 0)) 93)) := by
 unfold execOp
 simp only [ho]
 go_simp
 simp [tokC, tok0, W_zero]
 rfl
set_option maxRecDepth 100000 in
set_option maxHeartbeats 8000000 in
theorem itemU_step (w0 : World) (g : Nat) (A : Option Addr) (cap : Nat) (all : List Tok) (hall : all.length ≤ 1000) (n : Nat) (hP : PieceUOk w0 g A cap all n) : ItemUOk w0 g A cap all (n + 1) := by
 intro w f s t s' hF hU hk hm
 rw [itemU_s] at hm
 obtain ⟨⟨t1, s1⟩, h1, h2⟩ := bind_some hm
 have HP := Lib.hid ((pu_all n).2.2.2.2.2.1 _ _ _ _ h1 hF.ok hF.few)
 have H1 := Lib.hid (hP w f s t1 s1 hF hU h1)
 have HF := Lib.hid hF
 have HL := Lib.hid hall
 have hgw := hU.lt
 simp only [] at h2
 have H2 := Lib.hid h2
 clear hm hP hF hU hk h1 hall h2
 go_enter Tryz.func83, Tryz.ntmps83
 go_wp2_with fail
 with_reducible refine H1.out.mono ?_
 rintro e w1 ⟨b1, c1, rfl, hn1, hb1, hu1, hB1⟩
 have HN1 := Lib.hid hn1
 have HB1 := Lib.hid hB1
 have HG1 := Lib.hid hb1
 have HK := kind_any hu1 HL.out
 have HU1 := Lib.hid hu1
 have HGW := Lib.hid hgw
 clear hn1 hu1 hB1 hb1 hgw H1
 have h2 := H2.out
 clear H2
 by_cases h16 : kindU s1 = 16
 ·rw [if_pos h16] at h2
  rw [h16] at HK
  obtain ⟨-, x, r, hl, hx⟩ := kindU_eq h16 (by decide)
  have HK2 := Lib.hid HK
  have HLl := Lib.hid hl
  have hr : s1.l.headD (tok0 0) = x := by rw [hl]; rfl
  rw [hr] at h2
  have hs' : s' = ⟨s1.g, s1.l.tail, s1.bad⟩ := by cases h2; rfl
  have ht' : t = wrapT t1 (repN x) := by cases h2; rfl
  have HT' := Lib.hid ht'
  have HS' := Lib.hid hs'
  clear h2 h16 hx hl hr ht' hs' HK
  go_wp2_with fail
  with_reducible refine HK2.out.mono ?_
  rintro e w2 ⟨rfl, hb⟩
  have HUc := Lib.hid (HU1.out.call hb)
  have HN2 := Lib.hid (HN1.out.below hb (Nat.le_refl _))
  have HB2 := Lib.hid (HB1.out.then (ButR.of hb) HB1.out.size)
  have HS2 := Lib.hid (HUc.out.step HLl.out)
  clear hb HK2 HU1 HN1
  obtain ⟨bT, oT, rfl, hTk⟩ := HUc.out.tok HLl.out
  have hc1 : ∀ u, Below w2.heap.size w2 u → u.cell? ⟨g, 1, none⟩ = some (.int .i64 ((all.length - s1.l.length : Nat) : Int)) := fun u hu => (HUc.out.call hu).c1
  have hal : all.length - s1.l.length < all.length := by have := HUc.out.le; rw [HLl.out, List.length_cons] at this ⊢; omega
  have HCS := Lib.hid (show urC (some ⟨bT, oT, none⟩) cap all s1 = #[.slice (some ⟨bT, oT, none⟩) all.length cap, .int .i64 ((all.length - s1.l.length : Nat) : Int), .int .i64 (s1.g : Int), .bool s1.bad] from rfl)
  obtain ⟨a, ha⟩ : ∃ a, a = all.length - s1.l.length := ⟨_, rfl⟩
  rw [← ha] at hTk hc1 hal HS2 HCS
  have HTk := Lib.hid hTk
  have HC1 := Lib.hid hc1
  have HAL := Lib.hid hal
  clear hTk hc1 hal ha
  go_wp2_with fail
  refine wp_region_held_drew (S := fun u => Below w2.heap.size w2 u) (by kernel_rfl) (show _ from (Below.refl _ w2).drew) (fun hS => ?_)
  generalize World.drew w2 = u0 at hS ⊢
  refine takeAt 0 13 (.pointer (some ⟨g, 0, none⟩)) rfl rfl (by kernel_rfl) (by kernel_rfl) (by kernel_rfl) (fun _ _ _ h => h) (yields (by rfl) (fun w => by kernel_rfl)) hS ?_
  simp only [Act.put, List.setIfInBounds_toArray, List.set_cons_zero, List.set_cons_succ]
  refine takeAt 1 14 (.pointer (some ⟨g, 0, none⟩)) rfl rfl (by kernel_rfl) (by kernel_rfl) (by kernel_rfl) (fun _ _ _ h => h) (yields (by rfl) (fun w => by kernel_rfl)) hS ?_
  simp only [Act.put, List.setIfInBounds_toArray, List.set_cons_zero, List.set_cons_succ]
  refine takeAt 2 15 (.pointer (some ⟨g, 0, none⟩)) rfl rfl (by kernel_rfl) (by kernel_rfl) (by kernel_rfl) (fun _ _ _ h => h) (yields (by rfl) (fun w => by kernel_rfl)) hS ?_
  simp only [Act.put, List.setIfInBounds_toArray, List.set_cons_zero, List.set_cons_succ]
  refine takeAt 3 16 (.slice (some ⟨bT, oT, none⟩) all.length cap) rfl rfl (by kernel_rfl) (by kernel_rfl) (by kernel_rfl) (fun _ _ _ h => h) (loadTk7 g (some ⟨bT, oT, none⟩) all.length cap (fun u h => (HUc.out.call h).c0) rfl rfl (by rfl)) hS ?_
  simp only [Act.put, List.setIfInBounds_toArray, List.set_cons_zero, List.set_cons_succ]
  refine takeAt 4 17 (.pointer (some ⟨g, 0, none⟩)) rfl rfl (by kernel_rfl) (by kernel_rfl) (by kernel_rfl) (fun _ _ _ h => h) (yields (by rfl) (fun w => by kernel_rfl)) hS ?_
  simp only [Act.put, List.setIfInBounds_toArray, List.set_cons_zero, List.set_cons_succ]
  refine takeAt 5 18 (.pointer (some ⟨g, 0, none⟩)) rfl rfl (by kernel_rfl) (by kernel_rfl) (by kernel_rfl) (fun _ _ _ h => h) (yields (by rfl) (fun w => by kernel_rfl)) hS ?_
  simp only [Act.put, List.setIfInBounds_toArray, List.set_cons_zero, List.set_cons_succ]
  refine takeAt 6 19 (.pointer (some ⟨g, 1, none⟩)) rfl rfl (by kernel_rfl) (by kernel_rfl) (by kernel_rfl) (fun _ _ _ h => h) (yields (by rfl) (fun w => by kernel_rfl)) hS ?_
  simp only [Act.put, List.setIfInBounds_toArray, List.set_cons_zero, List.set_cons_succ]
  refine takeAt 7 20 (.int .i64 ((a : Nat) : Int)) rfl rfl (by kernel_rfl) (by kernel_rfl) (by kernel_rfl) (fun _ _ _ h => h) (loadIr7 g 1 _ (fun u h => HC1.out u h) rfl rfl (by rfl)) hS ?_
  simp only [Act.put, List.setIfInBounds_toArray, List.set_cons_zero, List.set_cons_succ]
  refine takeAt 8 21 (.pointer (some ⟨bT, oT + a * 10, none⟩)) rfl rfl (by kernel_rfl) (by kernel_rfl) (by kernel_rfl) (fun _ _ _ h => h) (idxT7 (n := all.length) (cap := cap) HAL.out HL.out rfl rfl rfl (by rfl)) hS ?_
  simp only [Act.put, List.setIfInBounds_toArray, List.set_cons_zero, List.set_cons_succ]
  refine takeAt 9 22 (tokV x) rfl rfl (by kernel_rfl) (by kernel_rfl) (by kernel_rfl) (fun _ _ _ h => h) (loadTok7 x (fun u h => HTk.out u h) rfl rfl (by rfl)) hS ?_
  simp only [Act.put, List.setIfInBounds_toArray, List.set_cons_zero, List.set_cons_succ]
  refine valAt 10 6 (.pointer (some ⟨u0.heap.size, 0, none⟩)) (World.alloc u0 (.cells (tokC (tok0 0)) 93)) rfl rfl (by kernel_rfl) (by rfl) (run_alloc_tok (by rfl) u0) (hS.alloc hS.size _) ?_
  simp only [Act.put, List.setIfInBounds_toArray, List.set_cons_zero, List.set_cons_succ]
  have hz : BoxT 93 (World.alloc u0 (.cells (tokC (tok0 0)) 93)) u0.heap.size (tok0 0) := BoxT.new _ _
  have hw2 : Below w2.heap.size w2 ((World.alloc u0 (.cells (tokC (tok0 0)) 93)).setRow u0.heap.size (tokC x)) := below_row (hS.alloc hS.size _) hS.size _
  refine rowAt 11 93 u0.heap.size (tokC (tok0 0)) (tokC x) rfl rfl rfl (by kernel_rfl) (by rfl) rfl rfl hz sizeTk rfl (tokC_one x) hw2 ?_
  refine wpAnyH_done (by kernel_rfl) ?_ _
  have HTB := Lib.hid (hz.rowSame x)
  have HBt := Lib.hid hw2
  have HSt := Lib.hid hS.size
  generalize ((World.alloc u0 (.cells (tokC (tok0 0)) 93)).setRow u0.heap.size (tokC x)) = v at HTB HBt ⊢
  generalize u0.heap.size = G at HTB HSt ⊢
  clear hw2 hz hS
  have HUv := Lib.hid (HUc.out.call HBt.out)
  have HNv := Lib.hid (HN2.out.below HBt.out (Nat.le_refl _))
  have HBv := Lib.hid (HB2.out.then (ButR.of HBt.out) HB2.out.size)
  have hc1 := HC1.out v HBt.out
  have han : (a : Int) ≤ 1000 := by have := HAL.out; have := HL.out; omega
  have hgG : g < G := by have := HUc.out.lt; have := HSt.out; omega
  have HgG := Lib.hid hgG
  clear hgG
  go_wp2_with (first | (refine storeIR rfl _ _ rfl g 1 _ (urC (some ⟨bT, oT, none⟩) cap all ⟨s1.g, s1.l.tail, s1.bad⟩) (a : Int) ((a : Int) + 1) rfl rfl HUv.out.cells (by rw [HCS.out]; rfl) (by rw [HCS.out, HS2.out, HLl.out]; rfl) ?_; intro w3 hx3 hN3; refine stopP ?_))
  unfold StopP
  have HU3 := Lib.hid (HUv.out.tail (r := s1.l.tail) (x := x) (by rw [HLl.out]; rfl) hN3.out hx3.out)
  have HN3 := Lib.hid (nodesAt_but HNv.out hN3.out (by have := HG1.out; have := HGW.out; omega))
  have HB3 := Lib.hid (HBv.out.then hN3.out HBv.out.size)
  have HT3 := Lib.hid (HTB.out.but hN3.out HTB.out.lt (by have := HgG.out; omega))
  have d5 : w3.cell? ⟨G, 5, none⟩ = some (.int .i64 x.mn) := (cell_of_row w3 G 5 _ _ _ HT3.out).trans rfl
  have d6 : w3.cell? ⟨G, 6, none⟩ = some (.int .i64 x.mx) := (cell_of_row w3 G 6 _ _ _ HT3.out).trans rfl
  have d7 : w3.cell? ⟨G, 7, none⟩ = some (.int .i64 x.md) := (cell_of_row w3 G 7 _ _ _ HT3.out).trans rfl
  clear hx3 hN3 hc1 han HTB
  go_wp2_with fail
  refine (Ast.rwrap_any b1 0 t1.1 c1 t1.2 (repN x) _ (by have := HP.out.len; have := HF.out.few; omega) HN3.out).mono ?_
  rintro e w4 ⟨b3, c3, rfl, hn3, hb3, hB4⟩
  have HU4 := Lib.hid (HU3.out.call hB4)
  have HB4 := Lib.hid (HB3.out.then (ButR.of hB4) HB3.out.size)
  have HN4 := Lib.hid hn3
  have HG4 := Lib.hid (show w.heap.size ≤ b3 by have := HB3.out.size; omega)
  clear hn3 hb3 hB4
  go_wp2_with fail
  go_ret
  rw [HT'.out, HS'.out]
  exact ⟨b3, c3, rfl, HN4.out, HG4.out, HU4.out, HB4.out⟩
 ·rw [if_neg h16] at h2
  have hq : (kindU s1 == 16) = false := by simpa using h16
  have hs' : s' = s1 := by cases h2; rfl
  have ht' : t = t1 := by cases h2; rfl
  have HT' := Lib.hid ht'
  have HS' := Lib.hid hs'
  have HK2 := Lib.hid HK
  clear h2 h16 ht' hs' HK
  go_wp2_with fail
  with_reducible refine HK2.out.mono ?_
  rintro e w2 ⟨rfl, hb⟩
  have HUd := Lib.hid (HU1.out.call hb)
  have HNd := Lib.hid (HN1.out.below hb (Nat.le_refl _))
  have HBd := Lib.hid (HB1.out.then (ButR.of hb) HB1.out.size)
  clear hb
  go_wp2_with fail
  go_ret
  rw [HT'.out, HS'.out]
  exact ⟨b1, c1, rfl, HNd.out, HG1.out, HUd.out, HBd.out⟩
end Go.Proofs.YtdnbpbngoiahlaaGreatDoor
namespace Go.Proofs.YtdnbpbngoiahlaaGreatDoor
open Go.RowKit
open Ast (Nd ndV joinL wrapL deepZ rightZ NodesAt Made)
set_option maxRecDepth 100000 in
set_option maxHeartbeats 8000000 in
theorem within_7 (w0 : World) (g : Nat) (A : Option Addr) (cap : Nat) (all : List Tok) (hall : all.length ≤ 1000) (n : Nat) (hA : AltUOk w0 g A cap all n) (w : World) (f : ByteArray) (x : Tok) (s : US) (t : Tr) (s' : US) (hF : FU f s) (hsz : f.size + x.f.size + 1000 * s.l.length ≤ 1000000) (hgr : s.g + 1 + s.l.length ≤ 1000) (hU : UW w0 g A cap all w s) (hm : withinU (n + 1) f x s = some (t, s')) (h7 : x.k = 7) : Calls Tryz.prog 143 #[.pointer (some ⟨g, 0, none⟩), tokV x, .string f] w (UPost w0 g A cap all w t s') := by
 rw [withinU_s] at hm
 obtain ⟨⟨t1, s1⟩, h1, h2⟩ := bind_some hm
 simp only [] at h2
 rw [if_pos h7] at h1 h2
 have hFS : FU (f ++ x.f) ⟨s.g + 1, s.l, s.bad⟩ := ⟨by rw [ByteArray.size_append]; exact hsz, hF.ok, hF.few, hF.fl, by exact hgr⟩
 have HA := Lib.hid (fun u hu => hA u (f ++ x.f) ⟨s.g + 1, s.l, s.bad⟩ t1 s1 hFS hu h1)
 have HP := Lib.hid ((pu_all n).1 _ _ _ _ h1 hF.ok hF.few)
 have HFW := Lib.hid hF.few
 have H2 := Lib.hid h2
 have HL := Lib.hid hall
 have hgw := hU.lt
 have hsum : ¬ f.size + x.f.size > 9223372036854775807 := by omega
 have hg0 : (s.g : Int) ≤ 1000 := by omega
 have HGW := Lib.hid hgw
 have HU0 := Lib.hid (hU.call ((Below.refl _ w).alloc (Nat.le_refl _) (.cells (tokC x) 93)))
 have HX0 := Lib.hid (show BoxT 93 (w.alloc (.cells (tokC x) 93)) w.heap.size x from BoxT.new _ _)
 have HB0 := Lib.hid (ButR.of (g := g) ((Below.refl _ w).alloc (Nat.le_refl _) (.cells (tokC x) 93)))
 have d0 : (w.alloc (.cells (tokC x) 93)).cell? ⟨w.heap.size, 0, none⟩ = some (.int .i64 7) := (cell_of_row _ _ 0 _ _ _ HX0.out).trans (by show some (Value.int .i64 x.k) = _; rw [h7])
 have d9 : (w.alloc (.cells (tokC x) 93)).cell? ⟨w.heap.size, 9, none⟩ = some (.string x.f) := (cell_of_row _ _ 9 _ _ _ HX0.out).trans rfl
 have hc2 := HU0.out.c2
 clear hm h1 h2 hF hsz hgr hU hall hA hFS hgw
 go_enter Tryz.func143, Tryz.ntmps143
 go_wp2_with (first | (refine storeIR rfl _ _ rfl g 2 _ (urC A cap all ⟨s.g + 1, s.l, s.bad⟩) (s.g : Int) ((s.g : Int) + 1) rfl rfl HU0.out.cells rfl rfl ?_; intro w2 hx2 hN2; refine stopP ?_))
 unfold StopP
 have HU2 := Lib.hid (HU0.out.change (s' := ⟨s.g + 1, s.l, s.bad⟩) rfl hN2.out hx2.out)
 have HX2 := Lib.hid (HX0.out.but hN2.out HX0.out.lt (by have := HGW.out; omega))
 have HB2 := Lib.hid (HB0.out.then hN2.out HB0.out.size)
 replace d9 : w2.cell? ⟨w.heap.size, 9, none⟩ = some (.string x.f) := (cell_of_row _ _ 9 _ _ _ HX2.out).trans rfl
 replace hc2 : w2.cell? ⟨g, 2, none⟩ = some (.int .i64 ((s.g : Int) + 1)) := HU2.out.c2
 clear hx2 hN2 d0 HU0 HX0 HB0
 go_wp2_with fail
 with_reducible refine (HA.out _ HU2.out).mono ?_
 rintro e w3 ⟨b1, c1, rfl, hn1, hb1, hu1, hB1⟩
 have HN3 := Lib.hid hn1
 have HG3 := Lib.hid (show w.heap.size ≤ b1 from Nat.le_trans HB2.out.size hb1)
 have HB3 := Lib.hid (HB2.out.then hB1 HB2.out.size)
 have HX3 := Lib.hid (HX2.out.but hB1 HX2.out.lt (by have := HGW.out; omega))
 have HK := kind_any hu1 HL.out
 have HU3 := Lib.hid hu1
 clear hn1 hu1 hB1 hb1 HA d9 hc2 HU2 HX2 HB2
 have h2 := H2.out
 clear H2
 by_cases h15 : kindU s1 = 15
 ·rw [if_neg (by simp [h15])] at h2
  rw [h15] at HK
  obtain ⟨-, y, r, hl, hy⟩ := kindU_eq h15 (by decide)
  have HLl := Lib.hid hl
  have H3 := Lib.hid h2
  have HK2 := Lib.hid HK
  clear h2 h15 hl hy HK
  go_wp2_with fail
  with_reducible refine HK2.out.mono ?_
  rintro e w4 ⟨rfl, hb⟩
  have HU4 := Lib.hid (HU3.out.call hb)
  have HN4 := Lib.hid (HN3.out.below hb (Nat.le_refl _))
  have HB4 := Lib.hid (HB3.out.then (ButR.of hb) HB3.out.size)
  have HX4 := Lib.hid (HX3.out.below hb HX3.out.lt)
  have HS4 := Lib.hid (HU4.out.step HLl.out)
  have hc1 := HU4.out.c1
  have hle := HU4.out.le
  have HCS := Lib.hid (show urC A cap all s1 = #[.slice A all.length cap, .int .i64 ((all.length - s1.l.length : Nat) : Int), .int .i64 (s1.g : Int), .bool s1.bad] from rfl)
  have han : ((all.length - s1.l.length : Nat) : Int) ≤ 1000 := by have := HL.out; omega
  obtain ⟨a, ha⟩ : ∃ a, a = all.length - s1.l.length := ⟨_, rfl⟩
  rw [← ha] at hc1 HS4 HCS han
  clear hb HK2 HU3 HN3 HB3 HX3 ha hle
  go_wp2_with (first | (refine storeIR rfl _ _ rfl g 1 _ (urC A cap all ⟨s1.g, s1.l.tail, s1.bad⟩) (a : Int) ((a : Int) + 1) rfl rfl HU4.out.cells (by rw [HCS.out]; rfl) (by rw [HCS.out, HS4.out, HLl.out]; rfl) ?_; intro w5 hx5 hN5; refine stopP ?_))
  unfold StopP
  have HU5 := Lib.hid (HU4.out.tail (r := s1.l.tail) (x := y) (by rw [HLl.out]; rfl) hN5.out hx5.out)
  have HN5 := Lib.hid (nodesAt_but HN4.out hN5.out (by have := HG3.out; have := HGW.out; omega))
  have HB5 := Lib.hid (HB4.out.then hN5.out HB4.out.size)
  have HX5 := Lib.hid (HX4.out.but hN5.out HX4.out.lt (by have := HGW.out; omega))
  have d0 : w5.cell? ⟨w.heap.size, 0, none⟩ = some (.int .i64 7) := (cell_of_row _ _ 0 _ _ _ HX5.out).trans (by show some (Value.int .i64 x.k) = _; rw [h7])
  have hsl : t1.1 ≤ 1000 := by have a1 := HP.out.len; have a2 := HFW.out; simp only [] at a1; omega
  have HSL := Lib.hid hsl
  clear hx5 hN5 hc1 han HU4 HN4 HB4 HX4 hsl
  have h2 := H3.out
  clear H3
  have hs' : s' = ⟨s1.g, s1.l.tail, s1.bad⟩ := by cases h2; rfl
  have ht' : t = wrapT t1 (grpN ((s.g : Int) + 1)) := by cases h2; rfl
  have HT' := Lib.hid ht'
  have HS' := Lib.hid hs'
  clear h2 ht' hs'
  go_wp2_with fail
  refine (Ast.rwrap_any b1 0 t1.1 c1 t1.2 (grpN ((s.g : Int) + 1)) _ HSL.out HN5.out).mono ?_
  rintro e w6 ⟨b3, c3, rfl, hn3, hb3, hB6⟩
  have HU6 := Lib.hid (HU5.out.call hB6)
  have HB6 := Lib.hid (HB5.out.then (ButR.of hB6) HB5.out.size)
  have HN6 := Lib.hid hn3
  have HG6 := Lib.hid (Nat.le_trans HB5.out.size hb3)
  clear hn3 hb3 hB6
  go_wp2_with fail
  go_ret
  rw [HT'.out, HS'.out]
  exact ⟨b3, c3, rfl, HN6.out, HG6.out, HU6.out, HB6.out⟩
 ·rw [if_pos h15] at h2
  have hq : (kindU s1 != 15) = true := by simpa using h15
  have hs' : s' = ⟨s1.g, s1.l, true⟩ := by cases h2; rfl
  have ht' : t = leaf0 := by cases h2; rfl
  have HT' := Lib.hid ht'
  have HS' := Lib.hid hs'
  have HK2 := Lib.hid HK
  clear h2 h15 ht' hs' HK
  go_wp2_with fail
  with_reducible refine HK2.out.mono ?_
  rintro e w4 ⟨rfl, hb⟩
  have HU4 := Lib.hid (HU3.out.call hb)
  have HB4 := Lib.hid (HB3.out.then (ButR.of hb) HB3.out.size)
  have hc3 := HU4.out.c3
  clear hb HK2 HU3
  go_wp2_with (first | (refine storeBR rfl _ _ rfl g 3 _ (urC A cap all ⟨s1.g, s1.l, true⟩) s1.bad true rfl rfl HU4.out.cells rfl rfl ?_; intro w5 hx5 hN5; refine stopP ?_))
  unfold StopP
  have HU5 := Lib.hid (HU4.out.change (s' := ⟨s1.g, s1.l, true⟩) rfl hN5.out hx5.out)
  have HB5 := Lib.hid (HB4.out.then hN5.out HB4.out.size)
  clear hx5 hN5 hc3 HU4 HB4
  go_wp2_with fail
  refine (Ast.rleaf_any 0 _).mono ?_
  rintro e w6 ⟨b2, c2, rfl, hn2, hb2, hB2⟩
  have HU6 := Lib.hid (HU5.out.call hB2)
  have HB6 := Lib.hid (HB5.out.then (ButR.of hB2) HB5.out.size)
  have HN6 := Lib.hid hn2
  have HG6 := Lib.hid (Nat.le_trans HB5.out.size hb2)
  clear hn2 hB2 hb2
  go_wp2_with fail
  go_ret
  rw [HT'.out, HS'.out]
  exact ⟨b2, c2, rfl, HN6.out, HG6.out, HU6.out, HB6.out⟩
set_option maxRecDepth 100000 in
set_option maxHeartbeats 8000000 in
theorem within_9 (w0 : World) (g : Nat) (A : Option Addr) (cap : Nat) (all : List Tok) (hall : all.length ≤ 1000) (n : Nat) (hA : AltUOk w0 g A cap all n) (w : World) (f : ByteArray) (x : Tok) (s : US) (t : Tr) (s' : US) (hF : FU f s) (hsz : f.size + x.f.size + 1000 * s.l.length ≤ 1000000) (hgr : s.g + 1 + s.l.length ≤ 1000) (hU : UW w0 g A cap all w s) (hm : withinU (n + 1) f x s = some (t, s')) (h7 : ¬ x.k = 7) (h9 : 9 ≤ x.k) (h13 : x.k ≤ 13) : Calls Tryz.prog 143 #[.pointer (some ⟨g, 0, none⟩), tokV x, .string f] w (UPost w0 g A cap all w t s') := by
 rw [withinU_s] at hm
 obtain ⟨⟨t1, s1⟩, h1, h2⟩ := bind_some hm
 simp only [] at h2
 rw [if_neg h7] at h1 h2
 have hFS : FU (f ++ x.f) ⟨s.g, s.l, s.bad⟩ := ⟨by rw [ByteArray.size_append]; exact hsz, hF.ok, hF.few, hF.fl, by show s.g + s.l.length ≤ 1000; omega⟩
 have HA := Lib.hid (fun u hu => hA u (f ++ x.f) ⟨s.g, s.l, s.bad⟩ t1 s1 hFS hu h1)
 have HP := Lib.hid ((pu_all n).1 _ _ _ _ h1 hF.ok hF.few)
 have HFW := Lib.hid hF.few
 have H2 := Lib.hid h2
 have HL := Lib.hid hall
 have hgw := hU.lt
 have hsum : ¬ f.size + x.f.size > 9223372036854775807 := by omega
 have hg0 : (s.g : Int) ≤ 1000 := by omega
 have HGW := Lib.hid hgw
 have HU0 := Lib.hid (hU.call ((Below.refl _ w).alloc (Nat.le_refl _) (.cells (tokC x) 93)))
 have HX0 := Lib.hid (show BoxT 93 (w.alloc (.cells (tokC x) 93)) w.heap.size x from BoxT.new _ _)
 have HB0 := Lib.hid (ButR.of (g := g) ((Below.refl _ w).alloc (Nat.le_refl _) (.cells (tokC x) 93)))
 have d0 : (w.alloc (.cells (tokC x) 93)).cell? ⟨w.heap.size, 0, none⟩ = some (.int .i64 x.k) := (cell_of_row _ _ 0 _ _ _ HX0.out).trans rfl
 have d9 : (w.alloc (.cells (tokC x) 93)).cell? ⟨w.heap.size, 9, none⟩ = some (.string x.f) := (cell_of_row _ _ 9 _ _ _ HX0.out).trans rfl
 have hc2 := HU0.out.c2
 have q7 : (x.k == 7) = false := by simpa using h7
 clear hm h1 h2 hF hsz hgr hU hall hA hFS hgw
 go_enter Tryz.func143, Tryz.ntmps143
 have HU2 := HU0
 have HX2 := HX0
 have HB2 := HB0
 clear HU0 HX0 HB0
 go_wp2_with fail
 with_reducible refine (HA.out _ HU2.out).mono ?_
 rintro e w3 ⟨b1, c1, rfl, hn1, hb1, hu1, hB1⟩
 have HN3 := Lib.hid hn1
 have HG3 := Lib.hid (show w.heap.size ≤ b1 from Nat.le_trans HB2.out.size hb1)
 have HB3 := Lib.hid (HB2.out.then hB1 HB2.out.size)
 have HX3 := Lib.hid (HX2.out.but hB1 HX2.out.lt (by have := HGW.out; omega))
 have HK := kind_any hu1 HL.out
 have HU3 := Lib.hid hu1
 clear hn1 hu1 hB1 hb1 HA d9 hc2 HU2 HX2 HB2 d0
 have h2 := H2.out
 clear H2
 by_cases h15 : kindU s1 = 15
 ·rw [if_neg (by simp [h15])] at h2
  rw [h15] at HK
  obtain ⟨-, y, r, hl, hy⟩ := kindU_eq h15 (by decide)
  have HLl := Lib.hid hl
  have H3 := Lib.hid h2
  have HK2 := Lib.hid HK
  clear h2 h15 hl hy HK
  go_wp2_with fail
  with_reducible refine HK2.out.mono ?_
  rintro e w4 ⟨rfl, hb⟩
  have HU4 := Lib.hid (HU3.out.call hb)
  have HN4 := Lib.hid (HN3.out.below hb (Nat.le_refl _))
  have HB4 := Lib.hid (HB3.out.then (ButR.of hb) HB3.out.size)
  have HX4 := Lib.hid (HX3.out.below hb HX3.out.lt)
  have HS4 := Lib.hid (HU4.out.step HLl.out)
  have hc1 := HU4.out.c1
  have hle := HU4.out.le
  have HCS := Lib.hid (show urC A cap all s1 = #[.slice A all.length cap, .int .i64 ((all.length - s1.l.length : Nat) : Int), .int .i64 (s1.g : Int), .bool s1.bad] from rfl)
  have han : ((all.length - s1.l.length : Nat) : Int) ≤ 1000 := by have := HL.out; omega
  obtain ⟨a, ha⟩ : ∃ a, a = all.length - s1.l.length := ⟨_, rfl⟩
  rw [← ha] at hc1 HS4 HCS han
  clear hb HK2 HU3 HN3 HB3 HX3 ha hle
  go_wp2_with (first | (refine storeIR rfl _ _ rfl g 1 _ (urC A cap all ⟨s1.g, s1.l.tail, s1.bad⟩) (a : Int) ((a : Int) + 1) rfl rfl HU4.out.cells (by rw [HCS.out]; rfl) (by rw [HCS.out, HS4.out, HLl.out]; rfl) ?_; intro w5 hx5 hN5; refine stopP ?_))
  unfold StopP
  have HU5 := Lib.hid (HU4.out.tail (r := s1.l.tail) (x := y) (by rw [HLl.out]; rfl) hN5.out hx5.out)
  have HN5 := Lib.hid (nodesAt_but HN4.out hN5.out (by have := HG3.out; have := HGW.out; omega))
  have HB5 := Lib.hid (HB4.out.then hN5.out HB4.out.size)
  have HX5 := Lib.hid (HX4.out.but hN5.out HX4.out.lt (by have := HGW.out; omega))
  have d0 : w5.cell? ⟨w.heap.size, 0, none⟩ = some (.int .i64 x.k) := (cell_of_row _ _ 0 _ _ _ HX5.out).trans rfl
  have hsl : t1.1 ≤ 1000 := by have a1 := HP.out.len; have a2 := HFW.out; simp only [] at a1; omega
  have HSL := Lib.hid hsl
  clear hx5 hN5 hc1 han HU4 HN4 HB4 HX4 hsl
  have h2 := H3.out
  clear H3
  rw [if_pos ⟨h9, h13⟩] at h2
  have hs' : s' = ⟨s1.g, s1.l.tail, s1.bad⟩ := by cases h2; rfl
  have ht' : t = wrapT t1 (nd0 (x.k + 4)) := by cases h2; rfl
  have HT' := Lib.hid ht'
  have HS' := Lib.hid hs'
  clear h2 ht' hs'
  go_wp2_with fail
  refine (Ast.rwrap_any b1 0 t1.1 c1 t1.2 (nd0 (x.k + 4)) _ HSL.out HN5.out).mono ?_
  rintro e w6 ⟨b3, c3, rfl, hn3, hb3, hB6⟩
  have HU6 := Lib.hid (HU5.out.call hB6)
  have HB6 := Lib.hid (HB5.out.then (ButR.of hB6) HB5.out.size)
  have HN6 := Lib.hid hn3
  have HG6 := Lib.hid (Nat.le_trans HB5.out.size hb3)
  clear hn3 hb3 hB6
  go_wp2_with fail
  go_ret
  rw [HT'.out, HS'.out]
  exact ⟨b3, c3, rfl, HN6.out, HG6.out, HU6.out, HB6.out⟩
 ·rw [if_pos h15] at h2
  have hq : (kindU s1 != 15) = true := by simpa using h15
  have hs' : s' = ⟨s1.g, s1.l, true⟩ := by cases h2; rfl
  have ht' : t = leaf0 := by cases h2; rfl
  have HT' := Lib.hid ht'
  have HS' := Lib.hid hs'
  have HK2 := Lib.hid HK
  clear h2 h15 ht' hs' HK
  go_wp2_with fail
  with_reducible refine HK2.out.mono ?_
  rintro e w4 ⟨rfl, hb⟩
  have HU4 := Lib.hid (HU3.out.call hb)
  have HB4 := Lib.hid (HB3.out.then (ButR.of hb) HB3.out.size)
  have hc3 := HU4.out.c3
  clear hb HK2 HU3
  go_wp2_with (first | (refine storeBR rfl _ _ rfl g 3 _ (urC A cap all ⟨s1.g, s1.l, true⟩) s1.bad true rfl rfl HU4.out.cells rfl rfl ?_; intro w5 hx5 hN5; refine stopP ?_))
  unfold StopP
  have HU5 := Lib.hid (HU4.out.change (s' := ⟨s1.g, s1.l, true⟩) rfl hN5.out hx5.out)
  have HB5 := Lib.hid (HB4.out.then hN5.out HB4.out.size)
  clear hx5 hN5 hc3 HU4 HB4
  go_wp2_with fail
  refine (Ast.rleaf_any 0 _).mono ?_
  rintro e w6 ⟨b2, c2, rfl, hn2, hb2, hB2⟩
  have HU6 := Lib.hid (HU5.out.call hB2)
  have HB6 := Lib.hid (HB5.out.then (ButR.of hB2) HB5.out.size)
  have HN6 := Lib.hid hn2
  have HG6 := Lib.hid (Nat.le_trans HB5.out.size hb2)
  clear hn2 hB2 hb2
  go_wp2_with fail
  go_ret
  rw [HT'.out, HS'.out]
  exact ⟨b2, c2, rfl, HN6.out, HG6.out, HU6.out, HB6.out⟩
set_option maxRecDepth 100000 in
set_option maxHeartbeats 8000000 in
theorem within_a (w0 : World) (g : Nat) (A : Option Addr) (cap : Nat) (all : List Tok) (hall : all.length ≤ 1000) (n : Nat) (hA : AltUOk w0 g A cap all n) (w : World) (f : ByteArray) (x : Tok) (s : US) (t : Tr) (s' : US) (hF : FU f s) (hsz : f.size + x.f.size + 1000 * s.l.length ≤ 1000000) (hgr : s.g + 1 + s.l.length ≤ 1000) (hU : UW w0 g A cap all w s) (hm : withinU (n + 1) f x s = some (t, s')) (h7 : ¬ x.k = 7) (h9 : ¬ 9 ≤ x.k) : Calls Tryz.prog 143 #[.pointer (some ⟨g, 0, none⟩), tokV x, .string f] w (UPost w0 g A cap all w t s') := by
 rw [withinU_s] at hm
 obtain ⟨⟨t1, s1⟩, h1, h2⟩ := bind_some hm
 simp only [] at h2
 rw [if_neg h7] at h1 h2
 have hFS : FU (f ++ x.f) ⟨s.g, s.l, s.bad⟩ := ⟨by rw [ByteArray.size_append]; exact hsz, hF.ok, hF.few, hF.fl, by show s.g + s.l.length ≤ 1000; omega⟩
 have HA := Lib.hid (fun u hu => hA u (f ++ x.f) ⟨s.g, s.l, s.bad⟩ t1 s1 hFS hu h1)
 have HP := Lib.hid ((pu_all n).1 _ _ _ _ h1 hF.ok hF.few)
 have HFW := Lib.hid hF.few
 have H2 := Lib.hid h2
 have HL := Lib.hid hall
 have hgw := hU.lt
 have hsum : ¬ f.size + x.f.size > 9223372036854775807 := by omega
 have hg0 : (s.g : Int) ≤ 1000 := by omega
 have HGW := Lib.hid hgw
 have HU0 := Lib.hid (hU.call ((Below.refl _ w).alloc (Nat.le_refl _) (.cells (tokC x) 93)))
 have HX0 := Lib.hid (show BoxT 93 (w.alloc (.cells (tokC x) 93)) w.heap.size x from BoxT.new _ _)
 have HB0 := Lib.hid (ButR.of (g := g) ((Below.refl _ w).alloc (Nat.le_refl _) (.cells (tokC x) 93)))
 have d0 : (w.alloc (.cells (tokC x) 93)).cell? ⟨w.heap.size, 0, none⟩ = some (.int .i64 x.k) := (cell_of_row _ _ 0 _ _ _ HX0.out).trans rfl
 have d9 : (w.alloc (.cells (tokC x) 93)).cell? ⟨w.heap.size, 9, none⟩ = some (.string x.f) := (cell_of_row _ _ 9 _ _ _ HX0.out).trans rfl
 have hc2 := HU0.out.c2
 have q7 : (x.k == 7) = false := by simpa using h7
 clear hm h1 h2 hF hsz hgr hU hall hA hFS hgw
 go_enter Tryz.func143, Tryz.ntmps143
 have HU2 := HU0
 have HX2 := HX0
 have HB2 := HB0
 clear HU0 HX0 HB0
 go_wp2_with fail
 with_reducible refine (HA.out _ HU2.out).mono ?_
 rintro e w3 ⟨b1, c1, rfl, hn1, hb1, hu1, hB1⟩
 have HN3 := Lib.hid hn1
 have HG3 := Lib.hid (show w.heap.size ≤ b1 from Nat.le_trans HB2.out.size hb1)
 have HB3 := Lib.hid (HB2.out.then hB1 HB2.out.size)
 have HX3 := Lib.hid (HX2.out.but hB1 HX2.out.lt (by have := HGW.out; omega))
 have HK := kind_any hu1 HL.out
 have HU3 := Lib.hid hu1
 clear hn1 hu1 hB1 hb1 HA d9 hc2 HU2 HX2 HB2 d0
 have h2 := H2.out
 clear H2
 by_cases h15 : kindU s1 = 15
 ·rw [if_neg (by simp [h15])] at h2
  rw [h15] at HK
  obtain ⟨-, y, r, hl, hy⟩ := kindU_eq h15 (by decide)
  have HLl := Lib.hid hl
  have H3 := Lib.hid h2
  have HK2 := Lib.hid HK
  clear h2 h15 hl hy HK
  go_wp2_with fail
  with_reducible refine HK2.out.mono ?_
  rintro e w4 ⟨rfl, hb⟩
  have HU4 := Lib.hid (HU3.out.call hb)
  have HN4 := Lib.hid (HN3.out.below hb (Nat.le_refl _))
  have HB4 := Lib.hid (HB3.out.then (ButR.of hb) HB3.out.size)
  have HX4 := Lib.hid (HX3.out.below hb HX3.out.lt)
  have HS4 := Lib.hid (HU4.out.step HLl.out)
  have hc1 := HU4.out.c1
  have hle := HU4.out.le
  have HCS := Lib.hid (show urC A cap all s1 = #[.slice A all.length cap, .int .i64 ((all.length - s1.l.length : Nat) : Int), .int .i64 (s1.g : Int), .bool s1.bad] from rfl)
  have han : ((all.length - s1.l.length : Nat) : Int) ≤ 1000 := by have := HL.out; omega
  obtain ⟨a, ha⟩ : ∃ a, a = all.length - s1.l.length := ⟨_, rfl⟩
  rw [← ha] at hc1 HS4 HCS han
  clear hb HK2 HU3 HN3 HB3 HX3 ha hle
  go_wp2_with (first | (refine storeIR rfl _ _ rfl g 1 _ (urC A cap all ⟨s1.g, s1.l.tail, s1.bad⟩) (a : Int) ((a : Int) + 1) rfl rfl HU4.out.cells (by rw [HCS.out]; rfl) (by rw [HCS.out, HS4.out, HLl.out]; rfl) ?_; intro w5 hx5 hN5; refine stopP ?_))
  unfold StopP
  have HU5 := Lib.hid (HU4.out.tail (r := s1.l.tail) (x := y) (by rw [HLl.out]; rfl) hN5.out hx5.out)
  have HN5 := Lib.hid (nodesAt_but HN4.out hN5.out (by have := HG3.out; have := HGW.out; omega))
  have HB5 := Lib.hid (HB4.out.then hN5.out HB4.out.size)
  have HX5 := Lib.hid (HX4.out.but hN5.out HX4.out.lt (by have := HGW.out; omega))
  have d0 : w5.cell? ⟨w.heap.size, 0, none⟩ = some (.int .i64 x.k) := (cell_of_row _ _ 0 _ _ _ HX5.out).trans rfl
  have hsl : t1.1 ≤ 1000 := by have a1 := HP.out.len; have a2 := HFW.out; simp only [] at a1; omega
  have HSL := Lib.hid hsl
  clear hx5 hN5 hc1 han HU4 HN4 HB4 HX4 hsl
  have h2 := H3.out
  clear H3
  rw [if_neg (show ¬ (9 ≤ x.k ∧ x.k ≤ 13) by omega)] at h2
  have hs' : s' = ⟨s1.g, s1.l.tail, s1.bad⟩ := by cases h2; rfl
  have ht' : t = t1 := by cases h2; rfl
  have HT' := Lib.hid ht'
  have HS' := Lib.hid hs'
  clear h2 ht' hs'
  go_wp2_with fail
  go_ret
  rw [HT'.out, HS'.out]
  exact ⟨b1, c1, rfl, HN5.out, HG3.out, HU5.out, HB5.out⟩
 ·rw [if_pos h15] at h2
  have hq : (kindU s1 != 15) = true := by simpa using h15
  have hs' : s' = ⟨s1.g, s1.l, true⟩ := by cases h2; rfl
  have ht' : t = leaf0 := by cases h2; rfl
  have HT' := Lib.hid ht'
  have HS' := Lib.hid hs'
  have HK2 := Lib.hid HK
  clear h2 h15 ht' hs' HK
  go_wp2_with fail
  with_reducible refine HK2.out.mono ?_
  rintro e w4 ⟨rfl, hb⟩
  have HU4 := Lib.hid (HU3.out.call hb)
  have HB4 := Lib.hid (HB3.out.then (ButR.of hb) HB3.out.size)
  have hc3 := HU4.out.c3
  clear hb HK2 HU3
  go_wp2_with (first | (refine storeBR rfl _ _ rfl g 3 _ (urC A cap all ⟨s1.g, s1.l, true⟩) s1.bad true rfl rfl HU4.out.cells rfl rfl ?_; intro w5 hx5 hN5; refine stopP ?_))
  unfold StopP
  have HU5 := Lib.hid (HU4.out.change (s' := ⟨s1.g, s1.l, true⟩) rfl hN5.out hx5.out)
  have HB5 := Lib.hid (HB4.out.then hN5.out HB4.out.size)
  clear hx5 hN5 hc3 HU4 HB4
  go_wp2_with fail
  refine (Ast.rleaf_any 0 _).mono ?_
  rintro e w6 ⟨b2, c2, rfl, hn2, hb2, hB2⟩
  have HU6 := Lib.hid (HU5.out.call hB2)
  have HB6 := Lib.hid (HB5.out.then (ButR.of hB2) HB5.out.size)
  have HN6 := Lib.hid hn2
  have HG6 := Lib.hid (Nat.le_trans HB5.out.size hb2)
  clear hn2 hB2 hb2
  go_wp2_with fail
  go_ret
  rw [HT'.out, HS'.out]
  exact ⟨b2, c2, rfl, HN6.out, HG6.out, HU6.out, HB6.out⟩
set_option maxRecDepth 100000 in
set_option maxHeartbeats 8000000 in
theorem within_b (w0 : World) (g : Nat) (A : Option Addr) (cap : Nat) (all : List Tok) (hall : all.length ≤ 1000) (n : Nat) (hA : AltUOk w0 g A cap all n) (w : World) (f : ByteArray) (x : Tok) (s : US) (t : Tr) (s' : US) (hF : FU f s) (hsz : f.size + x.f.size + 1000 * s.l.length ≤ 1000000) (hgr : s.g + 1 + s.l.length ≤ 1000) (hU : UW w0 g A cap all w s) (hm : withinU (n + 1) f x s = some (t, s')) (h7 : ¬ x.k = 7) (h9 : 9 ≤ x.k) (h13 : ¬ x.k ≤ 13) : Calls Tryz.prog 143 #[.pointer (some ⟨g, 0, none⟩), tokV x, .string f] w (UPost w0 g A cap all w t s') := by
 rw [withinU_s] at hm
 obtain ⟨⟨t1, s1⟩, h1, h2⟩ := bind_some hm
 simp only [] at h2
 rw [if_neg h7] at h1 h2
 have hFS : FU (f ++ x.f) ⟨s.g, s.l, s.bad⟩ := ⟨by rw [ByteArray.size_append]; exact hsz, hF.ok, hF.few, hF.fl, by show s.g + s.l.length ≤ 1000; omega⟩
 have HA := Lib.hid (fun u hu => hA u (f ++ x.f) ⟨s.g, s.l, s.bad⟩ t1 s1 hFS hu h1)
 have HP := Lib.hid ((pu_all n).1 _ _ _ _ h1 hF.ok hF.few)
 have HFW := Lib.hid hF.few
 have H2 := Lib.hid h2
 have HL := Lib.hid hall
 have hgw := hU.lt
 have hsum : ¬ f.size + x.f.size > 9223372036854775807 := by omega
 have hg0 : (s.g : Int) ≤ 1000 := by omega
 have HGW := Lib.hid hgw
 have HU0 := Lib.hid (hU.call ((Below.refl _ w).alloc (Nat.le_refl _) (.cells (tokC x) 93)))
 have HX0 := Lib.hid (show BoxT 93 (w.alloc (.cells (tokC x) 93)) w.heap.size x from BoxT.new _ _)
 have HB0 := Lib.hid (ButR.of (g := g) ((Below.refl _ w).alloc (Nat.le_refl _) (.cells (tokC x) 93)))
 have d0 : (w.alloc (.cells (tokC x) 93)).cell? ⟨w.heap.size, 0, none⟩ = some (.int .i64 x.k) := (cell_of_row _ _ 0 _ _ _ HX0.out).trans rfl
 have d9 : (w.alloc (.cells (tokC x) 93)).cell? ⟨w.heap.size, 9, none⟩ = some (.string x.f) := (cell_of_row _ _ 9 _ _ _ HX0.out).trans rfl
 have hc2 := HU0.out.c2
 have q7 : (x.k == 7) = false := by simpa using h7
 clear hm h1 h2 hF hsz hgr hU hall hA hFS hgw
 go_enter Tryz.func143, Tryz.ntmps143
 have HU2 := HU0
 have HX2 := HX0
 have HB2 := HB0
 clear HU0 HX0 HB0
 go_wp2_with fail
 with_reducible refine (HA.out _ HU2.out).mono ?_
 rintro e w3 ⟨b1, c1, rfl, hn1, hb1, hu1, hB1⟩
 have HN3 := Lib.hid hn1
 have HG3 := Lib.hid (show w.heap.size ≤ b1 from Nat.le_trans HB2.out.size hb1)
 have HB3 := Lib.hid (HB2.out.then hB1 HB2.out.size)
 have HX3 := Lib.hid (HX2.out.but hB1 HX2.out.lt (by have := HGW.out; omega))
 have HK := kind_any hu1 HL.out
 have HU3 := Lib.hid hu1
 clear hn1 hu1 hB1 hb1 HA d9 hc2 HU2 HX2 HB2 d0
 have h2 := H2.out
 clear H2
 by_cases h15 : kindU s1 = 15
 ·rw [if_neg (by simp [h15])] at h2
  rw [h15] at HK
  obtain ⟨-, y, r, hl, hy⟩ := kindU_eq h15 (by decide)
  have HLl := Lib.hid hl
  have H3 := Lib.hid h2
  have HK2 := Lib.hid HK
  clear h2 h15 hl hy HK
  go_wp2_with fail
  with_reducible refine HK2.out.mono ?_
  rintro e w4 ⟨rfl, hb⟩
  have HU4 := Lib.hid (HU3.out.call hb)
  have HN4 := Lib.hid (HN3.out.below hb (Nat.le_refl _))
  have HB4 := Lib.hid (HB3.out.then (ButR.of hb) HB3.out.size)
  have HX4 := Lib.hid (HX3.out.below hb HX3.out.lt)
  have HS4 := Lib.hid (HU4.out.step HLl.out)
  have hc1 := HU4.out.c1
  have hle := HU4.out.le
  have HCS := Lib.hid (show urC A cap all s1 = #[.slice A all.length cap, .int .i64 ((all.length - s1.l.length : Nat) : Int), .int .i64 (s1.g : Int), .bool s1.bad] from rfl)
  have han : ((all.length - s1.l.length : Nat) : Int) ≤ 1000 := by have := HL.out; omega
  obtain ⟨a, ha⟩ : ∃ a, a = all.length - s1.l.length := ⟨_, rfl⟩
  rw [← ha] at hc1 HS4 HCS han
  clear hb HK2 HU3 HN3 HB3 HX3 ha hle
  go_wp2_with (first | (refine storeIR rfl _ _ rfl g 1 _ (urC A cap all ⟨s1.g, s1.l.tail, s1.bad⟩) (a : Int) ((a : Int) + 1) rfl rfl HU4.out.cells (by rw [HCS.out]; rfl) (by rw [HCS.out, HS4.out, HLl.out]; rfl) ?_; intro w5 hx5 hN5; refine stopP ?_))
  unfold StopP
  have HU5 := Lib.hid (HU4.out.tail (r := s1.l.tail) (x := y) (by rw [HLl.out]; rfl) hN5.out hx5.out)
  have HN5 := Lib.hid (nodesAt_but HN4.out hN5.out (by have := HG3.out; have := HGW.out; omega))
  have HB5 := Lib.hid (HB4.out.then hN5.out HB4.out.size)
  have HX5 := Lib.hid (HX4.out.but hN5.out HX4.out.lt (by have := HGW.out; omega))
  have d0 : w5.cell? ⟨w.heap.size, 0, none⟩ = some (.int .i64 x.k) := (cell_of_row _ _ 0 _ _ _ HX5.out).trans rfl
  have hsl : t1.1 ≤ 1000 := by have a1 := HP.out.len; have a2 := HFW.out; simp only [] at a1; omega
  have HSL := Lib.hid hsl
  clear hx5 hN5 hc1 han HU4 HN4 HB4 HX4 hsl
  have h2 := H3.out
  clear H3
  rw [if_neg (show ¬ (9 ≤ x.k ∧ x.k ≤ 13) by omega)] at h2
  have hs' : s' = ⟨s1.g, s1.l.tail, s1.bad⟩ := by cases h2; rfl
  have ht' : t = t1 := by cases h2; rfl
  have HT' := Lib.hid ht'
  have HS' := Lib.hid hs'
  clear h2 ht' hs'
  go_wp2_with fail
  go_ret
  rw [HT'.out, HS'.out]
  exact ⟨b1, c1, rfl, HN5.out, HG3.out, HU5.out, HB5.out⟩
 ·rw [if_pos h15] at h2
  have hq : (kindU s1 != 15) = true := by simpa using h15
  have hs' : s' = ⟨s1.g, s1.l, true⟩ := by cases h2; rfl
  have ht' : t = leaf0 := by cases h2; rfl
  have HT' := Lib.hid ht'
  have HS' := Lib.hid hs'
  have HK2 := Lib.hid HK
  clear h2 h15 ht' hs' HK
  go_wp2_with fail
  with_reducible refine HK2.out.mono ?_
  rintro e w4 ⟨rfl, hb⟩
  have HU4 := Lib.hid (HU3.out.call hb)
  have HB4 := Lib.hid (HB3.out.then (ButR.of hb) HB3.out.size)
  have hc3 := HU4.out.c3
  clear hb HK2 HU3
  go_wp2_with (first | (refine storeBR rfl _ _ rfl g 3 _ (urC A cap all ⟨s1.g, s1.l, true⟩) s1.bad true rfl rfl HU4.out.cells rfl rfl ?_; intro w5 hx5 hN5; refine stopP ?_))
  unfold StopP
  have HU5 := Lib.hid (HU4.out.change (s' := ⟨s1.g, s1.l, true⟩) rfl hN5.out hx5.out)
  have HB5 := Lib.hid (HB4.out.then hN5.out HB4.out.size)
  clear hx5 hN5 hc3 HU4 HB4
  go_wp2_with fail
  refine (Ast.rleaf_any 0 _).mono ?_
  rintro e w6 ⟨b2, c2, rfl, hn2, hb2, hB2⟩
  have HU6 := Lib.hid (HU5.out.call hB2)
  have HB6 := Lib.hid (HB5.out.then (ButR.of hB2) HB5.out.size)
  have HN6 := Lib.hid hn2
  have HG6 := Lib.hid (Nat.le_trans HB5.out.size hb2)
  clear hn2 hB2 hb2
  go_wp2_with fail
  go_ret
  rw [HT'.out, HS'.out]
  exact ⟨b2, c2, rfl, HN6.out, HG6.out, HU6.out, HB6.out⟩
theorem withinU_step (w0 : World) (g : Nat) (A : Option Addr) (cap : Nat) (all : List Tok) (hall : all.length ≤ 1000) (n : Nat) (hA : AltUOk w0 g A cap all n) : WithinUOk w0 g A cap all (n + 1) := by
 intro w f x s t s' hF hsz hgr hU hm
 by_cases h7 : x.k = 7
 ·exact within_7 w0 g A cap all hall n hA w f x s t s' hF hsz hgr hU hm h7
 ·by_cases h9 : 9 ≤ x.k
  ·by_cases h13 : x.k ≤ 13
   ·exact within_9 w0 g A cap all hall n hA w f x s t s' hF hsz hgr hU hm h7 h9 h13
   ·exact within_b w0 g A cap all hall n hA w f x s t s' hF hsz hgr hU hm h7 h9 h13
  ·exact within_a w0 g A cap all hall n hA w f x s t s' hF hsz hgr hU hm h7 h9
end Go.Proofs.YtdnbpbngoiahlaaGreatDoor
