import Derived.Test.YtdnbpbngoiahlaaGreatDoorLexEsc
import Derived.Test.YtdnbpbngoiahlaaGreatDoorLexItemM
import Derived.Test.YtdnbpbngoiahlaaGreatDoorLexQuant
import Derived.Test.YtdnbpbngoiahlaaGreatDoorLexBase
namespace Go.Proofs.YtdnbpbngoiahlaaGreatDoor
open Go.RowKit
theorem item_none {p : ByteArray} {i : Nat} (h : p.size ≤ i ∨ bt p i = 91 ∨ bt p i = 93 ∨ bt p i = 45) : itemZ p i = (0#256, 0) := by unfold itemZ; rw [if_pos h]
theorem item_esc {p : ByteArray} {i : Nat} (h : i < p.size) (hb : bt p i = 92) : itemZ p i = escZ p i := by unfold itemZ; rw [if_neg (by omega), if_pos hb]
theorem item_one {p : ByteArray} {i c : Nat} (h : i < p.size) (hb : bt p i = c) (h1 : c ≠ 91) (h2 : c ≠ 93) (h3 : c ≠ 45) (h4 : c ≠ 92) : itemZ p i = (oneS c, i + 1) := by unfold itemZ; rw [if_neg (by omega), if_neg (by omega), hb]
set_option maxRecDepth 100000 in
set_option maxHeartbeats 8000000 in
theorem ritem_any (p : ByteArray) (i : Nat) (w : World) (hp : p.size ≤ 1000000) (hi : i ≤ 2000000) : Calls Tryz.prog 115 #[.string p, .int .i64 (i : Int)] w fun e w' => e = .returned (.tuple #[.agg (bitsA (itemZ p i).1), .int .i64 ((itemZ p i).2 : Nat)]) ∧ Below w.heap.size w w' := by
 have HZ := Lib.hid (BoxA.new w 0#256)
 have HW := Lib.hid ((Below.refl _ w).alloc (Nat.le_refl _) (.cells (bitsA 0#256) 128))
 by_cases hs : i < p.size
 ·have l1 : ¬ (i : Int) ≥ (p.size : Int) := by omega
  obtain ⟨c, hc⟩ : ∃ c, c = (p[i]'hs).toNat := ⟨_, rfl⟩
  have hb : bt p i = c := by rw [hc]; exact bt_at hs
  have hcl : c < 256 := by rw [hc]; exact (p[i]'hs).toNat_lt
  have hcc := hc.symm
  clear hc
  by_cases hn : c = 91 ∨ c = 93 ∨ c = 45
  ·have HI := Lib.hid (item_none (p := p) (i := i) (by omega))
   clear hb
   rcases hn with rfl | rfl | rfl
   ·go_enter Tryz.func115, Tryz.ntmps115
    go_wp2_with (refine storeA rfl _ _ rfl w.heap.size _ _ rfl rfl HZ.out ?_)
    refine bodyPost_ret (boxA_results2 (p := 4) (u := 5) (S := 0#256) (v := .int .i64 0) rfl _ (g := w.heap.size) rfl rfl (HZ.out.rowSame 0#256)) rfl ?_
    exact ⟨ret_s (by rw [HI.out]) (by rw [HI.out]; rfl), below_row HW.out (Nat.le_refl _) _⟩
   ·go_enter Tryz.func115, Tryz.ntmps115
    go_wp2_with (refine storeA rfl _ _ rfl w.heap.size _ _ rfl rfl HZ.out ?_)
    refine bodyPost_ret (boxA_results2 (p := 4) (u := 5) (S := 0#256) (v := .int .i64 0) rfl _ (g := w.heap.size) rfl rfl (HZ.out.rowSame 0#256)) rfl ?_
    exact ⟨ret_s (by rw [HI.out]) (by rw [HI.out]; rfl), below_row HW.out (Nat.le_refl _) _⟩
   ·go_enter Tryz.func115, Tryz.ntmps115
    go_wp2_with (refine storeA rfl _ _ rfl w.heap.size _ _ rfl rfl HZ.out ?_)
    refine bodyPost_ret (boxA_results2 (p := 4) (u := 5) (S := 0#256) (v := .int .i64 0) rfl _ (g := w.heap.size) rfl rfl (HZ.out.rowSame 0#256)) rfl ?_
    exact ⟨ret_s (by rw [HI.out]) (by rw [HI.out]; rfl), below_row HW.out (Nat.le_refl _) _⟩
  ·have e1 : ((c : Int) == 91) = false := by simp; omega
   have e2 : ((c : Int) == 93) = false := by simp; omega
   have e3 : ((c : Int) == 45) = false := by simp; omega
   by_cases h92 : c = 92
   ·have e4 : ((c : Int) == 92) = true := by simp; omega
    have HI := Lib.hid (item_esc hs (hb.trans h92))
    have HE := Lib.hid (fun w => esc_any p i w hp hs)
    clear hb hn h92
    go_enter Tryz.func115, Tryz.ntmps115
    go_wp2_with fail
    with_reducible refine (HE.out _).mono ?_
    rintro e w1 ⟨rfl, hb1⟩
    have HZ1 := HZ.out.below hb1 HZ.out.lt
    have HW1 := thenB HW.out hb1 HW.out.size
    clear hb1
    go_wp2_with (refine storeA rfl _ _ rfl w.heap.size _ _ rfl rfl HZ1 ?_)
    refine bodyPost_ret (boxA_results2 (p := 4) (u := 5) (S := (escZ p i).1) (v := .int .i64 ((escZ p i).2 : Nat)) rfl _ (g := w.heap.size) rfl rfl (HZ1.rowSame _)) rfl ?_
    exact ⟨ret_s (by rw [HI.out]) (by rw [HI.out]), below_row HW1 (Nat.le_refl _) _⟩
   ·have e4 : ((c : Int) == 92) = false := by simp; omega
    have HI := Lib.hid (item_one hs hb (by omega) (by omega) (by omega) h92)
    have HE := Lib.hid (fun w => rone_any c w hcl)
    clear hb hn h92
    go_enter Tryz.func115, Tryz.ntmps115
    go_wp2_with fail
    with_reducible refine (HE.out _).mono ?_
    rintro e w1 ⟨rfl, hb1⟩
    have HZ1 := HZ.out.below hb1 HZ.out.lt
    have HW1 := thenB HW.out hb1 HW.out.size
    clear hb1
    go_wp2_with (refine storeA rfl _ _ rfl w.heap.size _ _ rfl rfl HZ1 ?_)
    refine bodyPost_ret (boxA_results2 (p := 4) (u := 5) (S := oneS c) (v := .int .i64 ((i : Int) + 1)) rfl _ (g := w.heap.size) rfl rfl (HZ1.rowSame _)) rfl ?_
    exact ⟨ret_s (by rw [HI.out]) (by rw [HI.out]; show (i : Int) + 1 = ((i + 1 : Nat) : Int); omega), below_row HW1 (Nat.le_refl _) _⟩
 ·have l1 : (i : Int) ≥ (p.size : Int) := by omega
  have HI := Lib.hid (item_none (p := p) (i := i) (by omega))
  go_enter Tryz.func115, Tryz.ntmps115
  go_wp2_with (refine storeA rfl _ _ rfl w.heap.size _ _ rfl rfl HZ.out ?_)
  refine bodyPost_ret (boxA_results2 (p := 4) (u := 5) (S := 0#256) (v := .int .i64 0) rfl _ (g := w.heap.size) rfl rfl (HZ.out.rowSame 0#256)) rfl ?_
  exact ⟨ret_s (by rw [HI.out]) (by rw [HI.out]; rfl), below_row HW.out (Nat.le_refl _) _⟩
end Go.Proofs.YtdnbpbngoiahlaaGreatDoor
namespace Go.Proofs.YtdnbpbngoiahlaaGreatDoor
open Go.RowKit
theorem start1 (p : ByteArray) (k : Nat) (c : UInt8) (hk : k ≤ p.size) : startB p k ⟨#[c]⟩ = (bt p k == c.toNat) := by
 rw [start_head _ _ _ hk]
 simp [headB]
theorem starts1_any (p : ByteArray) (k : Nat) (c : UInt8) (w : World) (hp : p.size ≤ 1000000) (hk : k ≤ p.size) : Calls Tryz.prog 75 #[.string p, .int .i64 (k : Int), .string ⟨#[c]⟩] w fun e w' => e = .returned (.bool (bt p k == c.toNat)) ∧ w = w' := by
 rw [← start1 p k c hk]
 exact starts_any p ⟨#[c]⟩ k w hp (by omega) (by show (1 : Nat) ≤ 1000; decide)
theorem resZ3 {fn : Func} {p u u2 : Tmp} (h : fn.results = #[.cell p 40, .tmp u, .tmp u2]) (tmps : Array Value) {w : World} {g : Nat} {a b c d : Int} {v v2 : Value} (hp : tmps.getD p undef = .pointer (some ⟨g, 0, none⟩)) (hv : tmps.getD u undef = v) (hv2 : tmps.getD u2 undef = v2) (hg : BoxZ w g a b c d) :
  (results fn tmps).run Tryz.prog w = .ok (.tuple #[.agg #[.int .u64 a, .int .u64 b, .int .u64 c, .int .u64 d], v, v2]) w := by
 have hp' : tmps[p]?.getD undef = .pointer (some ⟨g, 0, none⟩) := by simpa using hp
 have hv' : tmps[u]?.getD undef = v := by simpa using hv
 have hv2' : tmps[u2]?.getD undef = v2 := by simpa using hv2
 have hl := run_loadVar_row w g 40 40 _ (0, 0) _ hg Tryz.underlying40 rfl sizeArr
 simp [results, h, hp', hv', hv2', asAddr, hl]
section
variable {ops : Array Oper} {rest : List Oper} {o : Oper} {a : Act} {w : World} {Q : Exit → Act → World → Prop} {x y z u : Int}
theorem loadZ (hgd : o.guard = none) (p : Operand) (ho : o.op = .load 40 p) (g : Nat) (hx : a.eval p = .pointer (some ⟨g, 0, none⟩)) (hg : BoxZ w g x y z u)
  (h : wpList Tryz.prog ops Q rest (a.put o.dst (.agg #[.int .u64 x, .int .u64 y, .int .u64 z, .int .u64 u])) w) : wpList Tryz.prog ops Q (o :: rest) a w :=
 wpList_load_row hgd 40 p ho g hx _ _ _ _ hg Tryz.underlying40 rfl sizeArr h
theorem storeZ (hgd : o.guard = none) (p q : Operand) (ho : o.op = .store 40 p q) (g : Nat) (x' y' z' u' : Int) (hx : a.eval p = .pointer (some ⟨g, 0, none⟩)) (hy : a.eval q = .agg #[.int .u64 x', .int .u64 y', .int .u64 z', .int .u64 u']) (hg : BoxZ w g x y z u)
  (h : wpList Tryz.prog ops Q rest (a.put o.dst undef) (w.setRow g #[.int .u64 x', .int .u64 y', .int .u64 z', .int .u64 u'])) : wpList Tryz.prog ops Q (o :: rest) a w :=
 wpList_store_row hgd 40 p q ho g _ hx hy _ _ hg sizeArr rfl (by simp [Value.oneCell']) h
theorem unguard (hw : Region.wanted o (yielded ops a.tmps) = true) (h : wpList Tryz.prog ops Q (⟨o.dst, o.op, o.type, o.pos, o.after, none⟩ :: rest) a w) : wpList Tryz.prog ops Q (o :: rest) a w := by
 unfold wpList at h ⊢
 rw [if_pos hw]
 rw [if_pos (show Region.wanted ⟨o.dst, o.op, o.type, o.pos, o.after, none⟩ (yielded ops a.tmps) = true from rfl)] at h
 exact h
theorem loadAg (hw : Region.wanted o (yielded ops a.tmps) = true) (x : Operand) (ho : o.op = .load 128 x) (g : Nat) (S : BitVec 256) (hx : a.eval x = .pointer (some ⟨g, 0, none⟩)) (hg : BoxA w g S)
  (h : wpList Tryz.prog ops Q rest (a.put o.dst (.agg (bitsA S))) w) : wpList Tryz.prog ops Q (o :: rest) a w := unguard hw (loadA rfl x ho g S hx hg h)
end
theorem BoxZ.lt {w : World} {g : Nat} {a b c d : Int} (h : BoxZ w g a b c d) : g < w.heap.size := lt_of_block h
theorem BoxZ.below {w w' : World} {g B : Nat} {a b c d : Int} (h : BoxZ w g a b c d) (hb : Below B w w') (hg : g < B) : BoxZ w' g a b c d := (hb.block g hg).trans h
theorem BoxZ.rowSame {w : World} {g : Nat} {a b c d : Int} (h : BoxZ w g a b c d) (a' b' c' d' : Int) : BoxZ (w.setRow g #[.int .u64 a', .int .u64 b', .int .u64 c', .int .u64 d']) g a' b' c' d' := setRow_heap w g _ _ _ _ h
theorem BoxZ.row {w : World} {g k : Nat} {a b c d : Int} (h : BoxZ w g a b c d) (cs : Array Value) (hk : g ≠ k) : BoxZ (w.setRow k cs) g a b c d := (setRow_other w k g cs hk).trans h
structure RC (w wr : World) (S : BitVec 256) : Prop where
 z4 : BoxZ wr w.heap.size 0 0 0 0
 z7 : BoxZ wr (w.heap.size + 1) 0 0 0 0
 s : BoxA wr (w.heap.size + 1 + 1) S
 b : Below w.heap.size w wr
theorem RC.call {w wr u : World} {S : BitVec 256} (h : RC w wr S) (hb : Below wr.heap.size wr u) : RC w u S := ⟨h.z4.below hb h.z4.lt, h.z7.below hb h.z7.lt, h.s.below hb h.s.lt, thenB h.b hb h.b.size⟩
theorem RC.set {w wr : World} {S : BitVec 256} (h : RC w wr S) (T : BitVec 256) : RC w (wr.setRow (w.heap.size + 1 + 1) (bitsA T)) T := ⟨h.z4.row _ (by omega), h.z7.row _ (by omega), h.s.rowSame T, below_row h.b (by omega) _⟩
theorem RC.row {w wr : World} {S : BitVec 256} (h : RC w wr S) {g : Nat} (cs : Array Value) (h1 : w.heap.size + 1 + 1 < g) : RC w (wr.setRow g cs) S := ⟨h.z4.row _ (by omega), h.z7.row _ (by omega), h.s.row _ (by omega), below_row h.b (by omega) _⟩
theorem min_form (S : BitVec 256) : ∃ (a : Nat) (f : Bool), minV S = .tuple #[.int .u8 (a : Int), .bool f] ∧ a < 256 ∧ (lenS S = 1 → a = minS S) := by
 unfold minV
 by_cases h : S = 0#256
 ·rw [if_pos h]
  refine ⟨0, false, rfl, by decide, fun h1 => ?_⟩
  subst h
  exact absurd h1 (by decide +kernel)
 ·rw [if_neg h]
  exact ⟨minS S, true, rfl, minS_lt S, fun _ => rfl⟩
end Go.Proofs.YtdnbpbngoiahlaaGreatDoor
namespace Go.Proofs.YtdnbpbngoiahlaaGreatDoor
open Go.RowKit
theorem sizeTokR : (Tryz.prog.info? 93).map (·.size) = some 10 := by kernel_rfl
theorem resR3 {fn : Func} {p u u2 : Tmp} (h : fn.results = #[.cell p 93, .tmp u, .tmp u2]) (tmps : Array Value) {w : World} {g : Nat} {t : Tok} {v v2 : Value} (hp : tmps.getD p undef = .pointer (some ⟨g, 0, none⟩)) (hv : tmps.getD u undef = v) (hv2 : tmps.getD u2 undef = v2) (hg : BoxT 93 w g t) :
  (results fn tmps).run Tryz.prog w = .ok (.tuple #[tokV t, v, v2]) w := by
 have hp' : tmps[p]?.getD undef = .pointer (some ⟨g, 0, none⟩) := by simpa using hp
 have hv' : tmps[u]?.getD undef = v := by simpa using hv
 have hv2' : tmps[u2]?.getD undef = v2 := by simpa using hv2
 have hl := run_loadVar_row w g 93 93 (tokC t) (0, 0) _ hg Tryz.underlying93 rfl (by rw [tokC_size]; exact sizeTokR)
 simp [results, h, hp', hv', hv2', asAddr, hl]
section
variable {ops : Array Oper} {rest : List Oper} {o : Oper} {a : Act} {w : World} {Q : Exit → Act → World → Prop}
theorem loadR (hgd : o.guard = none) (x : Operand) (ho : o.op = .load 93 x) (g : Nat) (t : Tok) (hx : a.eval x = .pointer (some ⟨g, 0, none⟩)) (hg : BoxT 93 w g t)
  (h : wpList Tryz.prog ops Q rest (a.put o.dst (tokV t)) w) : wpList Tryz.prog ops Q (o :: rest) a w :=
 wpList_load_row hgd 93 x ho g hx _ _ _ _ hg Tryz.underlying93 rfl sizeTokR h
theorem storeR (hgd : o.guard = none) (x y : Operand) (ho : o.op = .store 93 x y) (g : Nat) (s t : Tok) (hx : a.eval x = .pointer (some ⟨g, 0, none⟩)) (cs : Array Value) (hy : a.eval y = .agg cs) (hcs : cs = tokC t) (hg : BoxT 93 w g s)
  (h : wpList Tryz.prog ops Q rest (a.put o.dst undef) (w.setRow g (tokC t))) : wpList Tryz.prog ops Q (o :: rest) a w := by
 subst hcs
 exact wpList_store_row hgd 93 x y ho g _ hx hy _ _ hg sizeTokR rfl (tokC_one t) h
end
theorem newR {w : World} {cs : Array Value} {t : Tok} (h : cs = tokC t) : BoxT 93 (w.alloc (.cells cs 93)) w.heap.size t := by rw [h]; exact BoxT.new _ _
theorem newR2 {w : World} {cs : Array Value} {t : Tok} {o : Obj} (h : cs = tokC t) : BoxT 93 ((w.alloc (.cells cs 93)).alloc o) w.heap.size t := (newR h).alloc o
end Go.Proofs.YtdnbpbngoiahlaaGreatDoor
namespace Go.Proofs.YtdnbpbngoiahlaaGreatDoor
open Go.RowKit
theorem zero10 : #[.int .i64 0, .int .u64 0, .int .u64 0, .int .u64 0, .int .u64 0, .int .i64 0, .int .i64 0, .int .i64 0, .int .i64 0, .string ⟨#[]⟩] = tokC (tok0 0) := by simp [tokC, tok0, W_zero]; rfl
theorem count_up (p : ByteArray) (a : Nat) : (countZ p a).1 < 1000 ∧ a ≤ (countZ p a).2 ∧ (countZ p a).2 ≤ a + 3 ∧ (a ≤ p.size → (countZ p a).2 ≤ p.size) := by
 have hs : ∀ j, isD p j = true → j < p.size ∧ 48 ≤ bt p j ∧ bt p j ≤ 57 := fun j h => by
  have h2 := of_decide_eq_true h
  exact ⟨bt_in (by omega), h2⟩
 unfold countZ
 split
 ·exact ⟨Nat.zero_lt_succ _, Nat.le_refl _, Nat.le_add_right _ _, fun h => h⟩
 ·rename_i h0
  have h0 := hs a (by simpa using h0)
  split
  ·refine ⟨?_, ?_, ?_, fun _ => ?_⟩ <;> simp only [] <;> omega
  ·rename_i h1
   have h1 := hs (a + 1) (by simpa using h1)
   split
   ·refine ⟨?_, ?_, ?_, fun _ => ?_⟩ <;> simp only [] <;> omega
   ·rename_i h2
    have h2 := hs (a + 2) (by simpa using h2)
    refine ⟨?_, ?_, ?_, fun _ => ?_⟩ <;> simp only [] <;> omega
theorem count_z (p : ByteArray) (i : Nat) (z : Int) (w : World) (hp : p.size ≤ 1000000) (hz : z = i) (hi : i ≤ 2000000) : Calls Tryz.prog 139 #[.string p, .int .i64 z] w fun e w' => e = .returned (.tuple #[.int .i64 ((countZ p i).1 : Nat), .int .i64 ((countZ p i).2 : Nat)]) ∧ w = w' := by
 subst hz
 exact count_any p i w hp hi
theorem starts_b (p : ByteArray) (k : Nat) (z : Int) (c : UInt8) (w : World) (hp : p.size ≤ 1000000) (hz : z = k) (hk : k ≤ p.size) : Calls Tryz.prog 75 #[.string p, .int .i64 z, .string ⟨#[c]⟩] w fun e w' => e = .returned (.bool (bt p k == c.toNat)) ∧ w = w' := by
 subst hz
 exact starts1_any p k c w hp hk
def braceE (p : ByteArray) (a : Nat) (b : Int) (e : Nat) : TokR :=
 if bt p e ≠ 125 then wrongT 3 else if 100 < a ∨ 100 < b then wrongT 4 else if 0 ≤ b ∧ b < a then wrongT 3 else ({ tok0 16 with mn := a, mx := b }, e + 1, 0)
theorem brace_1 {p : ByteArray} {i : Nat} (h : (countZ p (i + 1)).2 = i + 1) : bracesZ p i = wrongT 3 := by
 unfold bracesZ
 simp only []
 rw [if_pos h]
theorem brace_2 {p : ByteArray} {i : Nat} (h : (countZ p (i + 1)).2 ≠ i + 1) (h2 : bt p (countZ p (i + 1)).2 ≠ 44) : bracesZ p i = braceE p (countZ p (i + 1)).1 (countZ p (i + 1)).1 (countZ p (i + 1)).2 := by
 unfold bracesZ
 simp only []
 rw [if_neg h, if_neg h2]
 rfl
theorem brace_3 {p : ByteArray} {i : Nat} (h : (countZ p (i + 1)).2 ≠ i + 1) (h2 : bt p (countZ p (i + 1)).2 = 44) : bracesZ p i = braceE p (countZ p (i + 1)).1 (if (countZ p ((countZ p (i + 1)).2 + 1)).2 = (countZ p (i + 1)).2 + 1 then -1 else ((countZ p ((countZ p (i + 1)).2 + 1)).1 : Int)) (countZ p ((countZ p (i + 1)).2 + 1)).2 := by
 unfold bracesZ
 simp only []
 rw [if_neg h, if_pos h2]
 rfl
theorem brE_1 {p : ByteArray} (a : Nat) (b : Int) {e : Nat} (h : bt p e ≠ 125) : braceE p a b e = wrongT 3 := by unfold braceE; rw [if_pos h]
theorem brE_2 {p : ByteArray} {a : Nat} {b : Int} {e : Nat} (h : bt p e = 125) (h2 : 100 < a ∨ 100 < b) : braceE p a b e = wrongT 4 := by unfold braceE; rw [if_neg (by omega), if_pos h2]
theorem brE_3 {p : ByteArray} {a : Nat} {b : Int} {e : Nat} (h : bt p e = 125) (h2 : ¬ (100 < a ∨ 100 < b)) (h3 : 0 ≤ b ∧ b < a) : braceE p a b e = wrongT 3 := by unfold braceE; rw [if_neg (by omega), if_neg h2, if_pos h3]
theorem brE_4 {p : ByteArray} {a : Nat} {b : Int} {e : Nat} (h : bt p e = 125) (h2 : ¬ (100 < a ∨ 100 < b)) (h3 : ¬ (0 ≤ b ∧ b < a)) : braceE p a b e = ({ tok0 16 with mn := a, mx := b }, e + 1, 0) := by unfold braceE; rw [if_neg (by omega), if_neg h2, if_neg h3]
set_option maxRecDepth 100000 in
set_option maxHeartbeats 16000000 in
theorem rbraces_any (p : ByteArray) (i : Nat) (w : World) (hp : p.size ≤ 1000000) (hi : i < p.size) : Calls Tryz.prog 114 #[.string p, .int .i64 (i : Int)] w fun e w' => e = .returned (.tuple #[tokV (bracesZ p i).1, .int .i64 ((bracesZ p i).2.1 : Nat), .int .i64 (bracesZ p i).2.2]) ∧ Below w.heap.size w w' := by
 have HCt := Lib.hid (fun (k : Nat) (z : Int) w (hz : z = k) (h : k ≤ 2000000) => count_z p k z w hp hz h)
 have HSt := Lib.hid (fun (k : Nat) (z : Int) (c : UInt8) w (hz : z = k) (h : k ≤ p.size) => starts_b p k z c w hp hz h)
 have H0 := Lib.hid (newR (w := w) (cs := #[.int .i64 0, .int .u64 0, .int .u64 0, .int .u64 0, .int .u64 0, .int .i64 0, .int .i64 0, .int .i64 0, .int .i64 0, .string ⟨#[]⟩]) (t := tok0 0) zero10)
 have HB := Lib.hid ((Below.refl _ w).alloc (Nat.le_refl _) (.cells #[.int .i64 0, .int .u64 0, .int .u64 0, .int .u64 0, .int .u64 0, .int .i64 0, .int .i64 0, .int .i64 0, .int .i64 0, .string ⟨#[]⟩] 93))
 have h1 := @brace_1 p i
 have h2 := @brace_2 p i
 have h3 := @brace_3 p i
 have hu := count_up p (i + 1)
 obtain ⟨A, hA⟩ : ∃ A, A = countZ p (i + 1) := ⟨_, rfl⟩
 have HA := Lib.hid hA
 rw [← hA] at h1 h2 h3 hu
 clear hA
 obtain ⟨a, e⟩ := A
 simp only [] at h1 h2 h3 hu
 have he := hu.2.2.2 (by omega)
 have hei := hu.2.1
 have ha := hu.1
 go_enter Tryz.func114, Tryz.ntmps114
 go_wp2_with fail
 with_reducible refine (HCt.out (i + 1) _ _ (by omega) (by omega)).mono ?_
 rw [← HA.out]
 rintro x wa ⟨rfl, rfl⟩
 simp only []
 by_cases c1 : e = i + 1
 ·have q1 : ((e : Int) == (i : Int) + 1) = true := by simp; omega
  have HE2 := Lib.hid (h1 c1)
  clear h1 h2 h3 hu
  go_wp2_with (refine storeR rfl _ _ rfl w.heap.size (tok0 0) (tok0 0) rfl _ rfl (by simp [tokC, tok0, W_zero]; rfl) H0.out ?_)
  refine bodyPost_ret (resR3 (p := 4) (u := 5) (u2 := 6) (t := (tok0 0)) (v := .int .i64 0) (v2 := .int .i64 3) rfl _ (g := w.heap.size) rfl rfl rfl (H0.out.rowSame _)) rfl ?_
  refine ⟨?_, below_row HB.out (Nat.le_refl _) _⟩
  rw [HE2.out]
  rfl
 ·have q1 : ((e : Int) == (i : Int) + 1) = false := by simp; omega
  go_wp2_with fail
  with_reducible refine (HSt.out e _ 44 _ rfl he).mono ?_
  rintro x wb ⟨rfl, rfl⟩
  cases hc : (bt p e == (44 : UInt8).toNat) with
  | false =>
    have hc' : bt p e ≠ 44 := by simpa using hc
    have HE := Lib.hid (h2 c1 hc')
    clear h1 h2 h3 hu
    go_wp2_with fail
    with_reducible refine (HSt.out e _ 125 _ rfl he).mono ?_
    rintro x wc ⟨rfl, rfl⟩
    cases hd : (bt p e == (125 : UInt8).toNat) with
    | false =>
      have hd' : bt p e ≠ 125 := by simpa using hd
      have HE2 := Lib.hid (HE.out.trans (brE_1 _ _ hd'))
      go_wp2_with (refine storeR rfl _ _ rfl w.heap.size (tok0 0) (tok0 0) rfl _ rfl (by simp [tokC, tok0, W_zero]; rfl) H0.out ?_)
      refine bodyPost_ret (resR3 (p := 4) (u := 5) (u2 := 6) (t := (tok0 0)) (v := .int .i64 0) (v2 := .int .i64 3) rfl _ (g := w.heap.size) rfl rfl rfl (H0.out.rowSame _)) rfl ?_
      refine ⟨?_, below_row HB.out (Nat.le_refl _) _⟩
      rw [HE2.out]
      rfl
    | true =>
      have hd' : bt p e = 125 := by simpa using hd
      by_cases g1 : 100 < a
      ·have q1 : (a : Int) > 100 := by omega
       have HE2 := Lib.hid (HE.out.trans (brE_2 hd' (.inl g1)))
       go_wp2_with (refine storeR rfl _ _ rfl w.heap.size (tok0 0) (tok0 0) rfl _ rfl (by simp [tokC, tok0, W_zero]; rfl) H0.out ?_)
       refine bodyPost_ret (resR3 (p := 4) (u := 5) (u2 := 6) (t := (tok0 0)) (v := .int .i64 0) (v2 := .int .i64 4) rfl _ (g := w.heap.size) rfl rfl rfl (H0.out.rowSame _)) rfl ?_
       refine ⟨?_, below_row HB.out (Nat.le_refl _) _⟩
       rw [HE2.out]
       rfl
      ·have q1 : ¬ (a : Int) > 100 := by omega
       have HE2 := Lib.hid (HE.out.trans (brE_4 hd' (by omega) (by omega)))
       have q2 : (a : Int) ≥ 0 := by omega
       have q3 : ¬ (a : Int) < (a : Int) := by omega
       go_wp2_with (refine storeR rfl _ _ rfl w.heap.size (tok0 0) { tok0 16 with mn := a, mx := a } rfl _ rfl (by simp [tokC, tok0, W_zero]; rfl) H0.out ?_)
       refine bodyPost_ret (resR3 (p := 4) (u := 5) (u2 := 6) (t := { tok0 16 with mn := a, mx := a }) (v := .int .i64 ((e : Int) + 1)) (v2 := .int .i64 0) rfl _ (g := w.heap.size) rfl rfl rfl (H0.out.rowSame _)) rfl ?_
       refine ⟨?_, below_row HB.out (Nat.le_refl _) _⟩
       rw [HE2.out]
       rfl
  | true =>
    have hc' : bt p e = 44 := by simpa using hc
    have h3 := h3 c1 hc'
    have hep : e < p.size := bt_in (by omega)
    have hv := count_up p (e + 1)
    obtain ⟨B, hB⟩ : ∃ B, B = countZ p (e + 1) := ⟨_, rfl⟩
    have HBB := Lib.hid hB
    rw [← hB] at h3 hv
    clear hB h1 h2 hu
    obtain ⟨n, e2⟩ := B
    simp only [] at h3 hv
    have he2 := hv.2.2.2 (by omega)
    have hei2 := hv.2.1
    have hn := hv.1
    clear hv
    go_wp2_with fail
    with_reducible refine (HCt.out (e + 1) _ _ (by omega) (by omega)).mono ?_
    rw [← HBB.out]
    rintro x wd ⟨rfl, rfl⟩
    simp only []
    by_cases c2 : e2 = e + 1
    ·have q2 : ((e2 : Int) == (e : Int) + 1) = true := by simp; omega
     rw [if_pos c2] at h3
     have HE := Lib.hid h3
     clear h3
     go_wp2_with fail
     with_reducible refine (HSt.out e2 _ 125 _ (by omega) he2).mono ?_
     rintro x wc ⟨rfl, rfl⟩
     cases hd : (bt p e2 == (125 : UInt8).toNat) with
     | false =>
       have hd' : bt p e2 ≠ 125 := by simpa using hd
       have HE2 := Lib.hid (HE.out.trans (brE_1 _ _ hd'))
       go_wp2_with (refine storeR rfl _ _ rfl w.heap.size (tok0 0) (tok0 0) rfl _ rfl (by simp [tokC, tok0, W_zero]; rfl) H0.out ?_)
       refine bodyPost_ret (resR3 (p := 4) (u := 5) (u2 := 6) (t := (tok0 0)) (v := .int .i64 0) (v2 := .int .i64 3) rfl _ (g := w.heap.size) rfl rfl rfl (H0.out.rowSame _)) rfl ?_
       refine ⟨?_, below_row HB.out (Nat.le_refl _) _⟩
       rw [HE2.out]; subst c2
       rfl
     | true =>
       have hd' : bt p e2 = 125 := by simpa using hd
       by_cases g1 : 100 < a
       ·have q1 : (a : Int) > 100 := by omega
        have HE2 := Lib.hid (HE.out.trans (brE_2 hd' (.inl g1)))
        go_wp2_with (refine storeR rfl _ _ rfl w.heap.size (tok0 0) (tok0 0) rfl _ rfl (by simp [tokC, tok0, W_zero]; rfl) H0.out ?_)
        refine bodyPost_ret (resR3 (p := 4) (u := 5) (u2 := 6) (t := (tok0 0)) (v := .int .i64 0) (v2 := .int .i64 4) rfl _ (g := w.heap.size) rfl rfl rfl (H0.out.rowSame _)) rfl ?_
        refine ⟨?_, below_row HB.out (Nat.le_refl _) _⟩
        rw [HE2.out]; subst c2
        rfl
       ·have q1 : ¬ (a : Int) > 100 := by omega
        have HE2 := Lib.hid (HE.out.trans (brE_4 hd' (by omega) (by omega)))
        go_wp2_with (refine storeR rfl _ _ rfl w.heap.size (tok0 0) { tok0 16 with mn := a, mx := -1 } rfl _ rfl (by simp [tokC, tok0, W_zero]; rfl) H0.out ?_)
        refine bodyPost_ret (resR3 (p := 4) (u := 5) (u2 := 6) (t := { tok0 16 with mn := a, mx := -1 }) (v := .int .i64 ((e : Int) + 1 + 1)) (v2 := .int .i64 0) rfl _ (g := w.heap.size) rfl rfl rfl (H0.out.rowSame _)) rfl ?_
        refine ⟨?_, below_row HB.out (Nat.le_refl _) _⟩
        rw [HE2.out]; subst c2
        rfl
    ·have q2 : ((e2 : Int) == (e : Int) + 1) = false := by simp; omega
     rw [if_neg c2] at h3
     have HE := Lib.hid h3
     clear h3
     go_wp2_with fail
     with_reducible refine (HSt.out e2 _ 125 _ rfl he2).mono ?_
     rintro x wc ⟨rfl, rfl⟩
     cases hd : (bt p e2 == (125 : UInt8).toNat) with
     | false =>
       have hd' : bt p e2 ≠ 125 := by simpa using hd
       have HE2 := Lib.hid (HE.out.trans (brE_1 _ _ hd'))
       go_wp2_with (refine storeR rfl _ _ rfl w.heap.size (tok0 0) (tok0 0) rfl _ rfl (by simp [tokC, tok0, W_zero]; rfl) H0.out ?_)
       refine bodyPost_ret (resR3 (p := 4) (u := 5) (u2 := 6) (t := (tok0 0)) (v := .int .i64 0) (v2 := .int .i64 3) rfl _ (g := w.heap.size) rfl rfl rfl (H0.out.rowSame _)) rfl ?_
       refine ⟨?_, below_row HB.out (Nat.le_refl _) _⟩
       rw [HE2.out]
       rfl
     | true =>
       have hd' : bt p e2 = 125 := by simpa using hd
       by_cases g1 : 100 < a
       ·have q1 : (a : Int) > 100 := by omega
        have HE2 := Lib.hid (HE.out.trans (brE_2 hd' (.inl g1)))
        go_wp2_with (refine storeR rfl _ _ rfl w.heap.size (tok0 0) (tok0 0) rfl _ rfl (by simp [tokC, tok0, W_zero]; rfl) H0.out ?_)
        refine bodyPost_ret (resR3 (p := 4) (u := 5) (u2 := 6) (t := (tok0 0)) (v := .int .i64 0) (v2 := .int .i64 4) rfl _ (g := w.heap.size) rfl rfl rfl (H0.out.rowSame _)) rfl ?_
        refine ⟨?_, below_row HB.out (Nat.le_refl _) _⟩
        rw [HE2.out]
        rfl
       ·have q1 : ¬ (a : Int) > 100 := by omega
        by_cases g2 : 100 < n
        ·have q2 : (n : Int) > 100 := by omega
         have HE2 := Lib.hid (HE.out.trans (brE_2 hd' (.inr (by omega))))
         go_wp2_with (refine storeR rfl _ _ rfl w.heap.size (tok0 0) (tok0 0) rfl _ rfl (by simp [tokC, tok0, W_zero]; rfl) H0.out ?_)
         refine bodyPost_ret (resR3 (p := 4) (u := 5) (u2 := 6) (t := (tok0 0)) (v := .int .i64 0) (v2 := .int .i64 4) rfl _ (g := w.heap.size) rfl rfl rfl (H0.out.rowSame _)) rfl ?_
         refine ⟨?_, below_row HB.out (Nat.le_refl _) _⟩
         rw [HE2.out]
         rfl
        ·have q2 : ¬ (n : Int) > 100 := by omega
         have q4 : (n : Int) ≥ 0 := by omega
         by_cases g3 : n < a
         ·have q3 : (n : Int) < (a : Int) := by omega
          have HE2 := Lib.hid (HE.out.trans (brE_3 hd' (by omega) ⟨by omega, by omega⟩))
          go_wp2_with (refine storeR rfl _ _ rfl w.heap.size (tok0 0) (tok0 0) rfl _ rfl (by simp [tokC, tok0, W_zero]; rfl) H0.out ?_)
          refine bodyPost_ret (resR3 (p := 4) (u := 5) (u2 := 6) (t := (tok0 0)) (v := .int .i64 0) (v2 := .int .i64 3) rfl _ (g := w.heap.size) rfl rfl rfl (H0.out.rowSame _)) rfl ?_
          refine ⟨?_, below_row HB.out (Nat.le_refl _) _⟩
          rw [HE2.out]
          rfl
         ·have q3 : ¬ (n : Int) < (a : Int) := by omega
          have HE2 := Lib.hid (HE.out.trans (brE_4 hd' (by omega) (by omega)))
          go_wp2_with (refine storeR rfl _ _ rfl w.heap.size (tok0 0) { tok0 16 with mn := a, mx := n } rfl _ rfl (by simp [tokC, tok0, W_zero]; rfl) H0.out ?_)
          refine bodyPost_ret (resR3 (p := 4) (u := 5) (u2 := 6) (t := { tok0 16 with mn := a, mx := n }) (v := .int .i64 ((e2 : Int) + 1)) (v2 := .int .i64 0) rfl _ (g := w.heap.size) rfl rfl rfl (H0.out.rowSame _)) rfl ?_
          refine ⟨?_, below_row HB.out (Nat.le_refl _) _⟩
          rw [HE2.out]
          rfl
end Go.Proofs.YtdnbpbngoiahlaaGreatDoor
namespace Go.Proofs.YtdnbpbngoiahlaaGreatDoor
open Go.RowKit
def StopQ (p : Prop) : Prop := p
theorem stopQ {p : Prop} (h : StopQ p) : p := h
structure Q2 (w wr : World) (t : Tok) : Prop where
 r : BoxT 93 wr w.heap.size (tok0 0)
 t : BoxT 93 wr (w.heap.size + 1) t
 b : Below w.heap.size w wr
theorem Q2.call {w wr u : World} {t : Tok} (h : Q2 w wr t) (hb : Below wr.heap.size wr u) : Q2 w u t := ⟨h.r.below hb h.r.lt, h.t.below hb h.t.lt, thenB h.b hb h.b.size⟩
theorem Q2.row {w wr : World} {s : Tok} (h : Q2 w wr s) (t : Tok) : Q2 w (wr.setRow (w.heap.size + 1) (tokC t)) t := ⟨h.r.row _ (by omega), h.t.rowSame t, below_row h.b (by omega) _⟩
abbrev zeroR (w : World) : World := w.alloc (.cells #[.int .i64 0, .int .u64 0, .int .u64 0, .int .u64 0, .int .u64 0, .int .i64 0, .int .i64 0, .int .i64 0, .int .i64 0, .string ⟨#[]⟩] 93)
theorem Q2.new {w u : World} {t : Tok} (hx : BoxT 93 u (w.heap.size + 1) t) (hb : Below (w.heap.size + 1) (zeroR w) u) : Q2 w u t :=
 ⟨(newR zero10 : BoxT 93 (zeroR w) w.heap.size (tok0 0)).below hb (by omega), hx, ((Below.refl _ w).alloc (Nat.le_refl _) _).trans (hb.mono (by omega))⟩
section
variable {ops : Array Oper} {rest : List Oper} {o : Oper} {a : Act} {w : World} {Q : Exit → Act → World → Prop}
theorem storeNewR (hgd : o.guard = none) (x y : Operand) (ho : o.op = .store 93 x y) (wr : World) (N : Nat) (hN : wr.heap.size = N) (t : Tok) (hx : a.eval x = .pointer (some ⟨N, 0, none⟩)) (cs : Array Value) (hy : a.eval y = .agg cs) (hcs : cs = tokC t) (hw : w = zeroR wr)
  (h : ∀ u : World, Hid (BoxT 93 u N t) → Hid (Below N wr u) → wpList Tryz.prog ops Q rest (a.put o.dst undef) u) : wpList Tryz.prog ops Q (o :: rest) a w := by
 subst hw hN
 have hg : BoxT 93 (zeroR wr) wr.heap.size (tok0 0) := newR zero10
 refine storeR hgd x y ho wr.heap.size (tok0 0) t hx cs hy hcs hg ?_
 exact h _ (Lib.hid (hg.rowSame t)) (Lib.hid (below_row ((Below.refl _ wr).alloc (Nat.le_refl _) _) (Nat.le_refl _) _))
theorem storeF (hgd : o.guard = none) (x y : Operand) (ho : o.op = .store 3 x y) (w0 : World) (k : Nat) (t u : Tok) (n : Int) (hx : a.eval x = .pointer (some ⟨w0.heap.size + 1, k, none⟩)) (hy : a.eval y = .int .i64 n) (hk : k < 10) (hu : (tokC t).setIfInBounds k (.int .i64 n) = tokC u) (hq : Q2 w0 w t)
  (h : ∀ v : World, Hid (Q2 w0 v u) → wpList Tryz.prog ops Q rest (a.put o.dst undef) v) : wpList Tryz.prog ops Q (o :: rest) a w := by
 have hc : ∃ v0, w.cell? ⟨w0.heap.size + 1, k, none⟩ = some v0 := ⟨_, (cell_of_row w (w0.heap.size + 1) k _ _ _ hq.t).trans (Array.getElem?_eq_getElem (by rw [tokC_size]; exact hk))⟩
 obtain ⟨v0, hc⟩ := hc
 have hf := frozen_of_row w (w0.heap.size + 1) k _ _ hq.t
 have hv := h (w.setCell ⟨w0.heap.size + 1, k, none⟩ (.int .i64 n)) (Lib.hid ⟨hq.r.cell (k := w0.heap.size + 1) (.int .i64 n) (by omega) k, by unfold BoxT; rw [← hu]; exact heap_setCell_same _ _ _ _ _ _ hq.t, hq.b.setCell (p := ⟨w0.heap.size + 1, k, none⟩) (by show w0.heap.size ≤ w0.heap.size + 1; omega) _⟩)
 refine wpList_plain hgd fun K hK => ?_
 unfold Oper.wp execOp
 simp only [ho, hx, hy]
 simp [go_sem, hc, hf]
 exact hK _ _ hv
end
theorem mode_1 {p : ByteArray} {t : Tok} {k : Nat} (h : bt p k = 63) : modeZ p (t, k, 0) = ({ t with md := 1 }, k + 1, 0) := by unfold modeZ; rw [if_pos h]
theorem mode_2 {p : ByteArray} {t : Tok} {k : Nat} (h : bt p k = 43) : modeZ p (t, k, 0) = ({ t with md := 2 }, k + 1, 0) := by unfold modeZ; rw [if_neg (by show ¬ bt p k = 63; omega), if_pos h]
theorem mode_0 {p : ByteArray} {t : Tok} {k : Nat} (h : bt p k ≠ 63) (h2 : bt p k ≠ 43) : modeZ p (t, k, 0) = (t, k, 0) := by unfold modeZ; rw [if_neg h, if_neg h2]
theorem brE_le (p : ByteArray) (a : Nat) (b : Int) (e : Nat) : (braceE p a b e).2.1 ≤ p.size := by
 unfold braceE
 split
 ·exact Nat.zero_le _
 ·rename_i h
  split
  ·exact Nat.zero_le _
  ·split
   ·exact Nat.zero_le _
   ·exact bt_in (by intro h2; rw [h2] at h; exact h (by decide))
theorem brace_le {p : ByteArray} {i : Nat} : (bracesZ p i).2.1 ≤ p.size := by
 by_cases h : (countZ p (i + 1)).2 = i + 1
 ·rw [brace_1 h]; exact Nat.zero_le _
 ·by_cases h2 : bt p (countZ p (i + 1)).2 = 44
  ·rw [brace_3 h h2]; exact brE_le _ _ _ _
  ·rw [brace_2 h h2]; exact brE_le _ _ _ _
theorem qz_42 {p : ByteArray} {i : Nat} (h : bt p i = 42) : quantZ p i = modeZ p ({ tok0 16 with mx := -1 }, i + 1, 0) := by
 unfold quantZ
 rw [if_neg (by omega), if_neg (by omega), if_neg (by omega)]
 rfl
theorem qz_43 {p : ByteArray} {i : Nat} (h : bt p i = 43) : quantZ p i = modeZ p ({ tok0 16 with mn := 1, mx := -1 }, i + 1, 0) := by
 unfold quantZ
 rw [if_neg (by omega), if_pos h, if_neg (by omega)]
theorem qz_63 {p : ByteArray} {i : Nat} (h : bt p i = 63) : quantZ p i = modeZ p ({ tok0 16 with mx := 1 }, i + 1, 0) := by
 unfold quantZ
 rw [if_neg (by omega), if_neg (by omega), if_pos h]
 rfl
theorem qz_b0 {p : ByteArray} {i : Nat} {t : Tok} {k : Nat} (h : bt p i = 123) (hb : bracesZ p i = (t, k, 0)) : quantZ p i = modeZ p (t, k, 0) := by
 unfold quantZ
 rw [if_pos h, hb, if_pos rfl]
theorem qz_b1 {p : ByteArray} {i : Nat} {t : Tok} {k : Nat} {e : Int} (h : bt p i = 123) (hb : bracesZ p i = (t, k, e)) (he : e ≠ 0) : quantZ p i = wrongT e := by
 unfold quantZ
 rw [if_pos h, hb, if_neg he]
theorem tok16 : #[.int .i64 16, .int .u64 0, .int .u64 0, .int .u64 0, .int .u64 0, .int .i64 0, .int .i64 (-1), .int .i64 0, .int .i64 0, .string ⟨#[]⟩] = tokC { tok0 16 with mx := -1 } := by simp [tokC, tok0, W_zero]; rfl
set_option maxRecDepth 100000 in
set_option maxHeartbeats 16000000 in
theorem rquant_42 (p : ByteArray) (i : Nat) (w : World) (hp : p.size ≤ 1000000) (hi : i < p.size) (h : bt p i = 42) : Calls Tryz.prog 77 #[.string p, .int .i64 (i : Int)] w fun e w' => e = .returned (.tuple #[tokV (quantZ p i).1, .int .i64 ((quantZ p i).2.1 : Nat), .int .i64 (quantZ p i).2.2]) ∧ Below w.heap.size w w' := by
 have HSt := Lib.hid (fun (k : Nat) (z : Int) (c : UInt8) w (hz : z = k) (h : k ≤ p.size) => starts_b p k z c w hp hz h)
 have hii : (i : Int) < (p.size : Int) := by omega
 have hkz : i + 1 ≤ p.size := hi
 have q : ((p[i]'hi).toNat : Int) = 42 := by rw [← bt_at hi, h]; rfl
 have HZ := Lib.hid (qz_42 h)
 clear h
 go_enter Tryz.func77, Tryz.ntmps77
 go_wp2_with (refine storeNewR rfl _ _ rfl (zeroR w) (w.heap.size + 1) (by simp) { tok0 16 with mx := -1 } rfl _ rfl tok16 rfl ?_; intro w1 hx1 hb1; refine stopQ ?_)
 unfold StopQ
 have HQ := Lib.hid (Q2.new hx1.out hb1.out)
 clear hx1 hb1
 go_wp2_with fail
 with_reducible refine (HSt.out (i + 1) _ 63 _ (by omega) hkz).mono ?_
 rintro x wa ⟨rfl, rfl⟩
 cases hc : (bt p (i + 1) == (63 : UInt8).toNat) with
 | true =>
   have hc' : bt p (i + 1) = 63 := by simpa using hc
   have HE := Lib.hid (mode_1 (t := { tok0 16 with mx := -1 }) hc')
   clear hc'
   go_wp2_with (refine storeF rfl _ _ rfl w 7 ({ tok0 16 with mx := -1 }) { ({ tok0 16 with mx := -1 } : Tok) with md := 1 } 1 rfl rfl (by decide) rfl HQ.out ?_; intro w5 hq5; refine stopQ ?_)
   unfold StopQ
   go_wp2_with (first | refine loadR rfl _ rfl (w.heap.size + 1) ({ ({ tok0 16 with mx := -1 } : Tok) with md := 1 }) rfl hq5.out.t ?_ | refine storeR rfl _ _ rfl w.heap.size (tok0 0) ({ ({ tok0 16 with mx := -1 } : Tok) with md := 1 }) rfl _ rfl rfl hq5.out.r ?_)
   refine bodyPost_ret (resR3 (p := 4) (u := 5) (u2 := 6) (t := { ({ tok0 16 with mx := -1 } : Tok) with md := 1 }) (v := .int .i64 (((i + 1 : Nat) : Int) + 1)) (v2 := .int .i64 0) rfl _ (g := w.heap.size) rfl rfl rfl (hq5.out.r.rowSame _)) rfl ?_
   refine ⟨?_, below_row hq5.out.b (Nat.le_refl _) _⟩
   rw [(HZ.out).trans (HE.out)]
   rfl
 | false =>
   have hc' : bt p (i + 1) ≠ 63 := by simpa using hc
   go_wp2_with fail
   with_reducible refine (HSt.out (i + 1) _ 43 _ (by omega) hkz).mono ?_
   rintro x wa ⟨rfl, rfl⟩
   cases hd : (bt p (i + 1) == (43 : UInt8).toNat) with
   | true =>
     have hd' : bt p (i + 1) = 43 := by simpa using hd
     have HE := Lib.hid (mode_2 (t := { tok0 16 with mx := -1 }) hd')
     clear hc' hd'
     go_wp2_with (refine storeF rfl _ _ rfl w 7 ({ tok0 16 with mx := -1 }) { ({ tok0 16 with mx := -1 } : Tok) with md := 2 } 2 rfl rfl (by decide) rfl HQ.out ?_; intro w5 hq5; refine stopQ ?_)
     unfold StopQ
     go_wp2_with (first | refine loadR rfl _ rfl (w.heap.size + 1) ({ ({ tok0 16 with mx := -1 } : Tok) with md := 2 }) rfl hq5.out.t ?_ | refine storeR rfl _ _ rfl w.heap.size (tok0 0) ({ ({ tok0 16 with mx := -1 } : Tok) with md := 2 }) rfl _ rfl rfl hq5.out.r ?_)
     refine bodyPost_ret (resR3 (p := 4) (u := 5) (u2 := 6) (t := { ({ tok0 16 with mx := -1 } : Tok) with md := 2 }) (v := .int .i64 (((i + 1 : Nat) : Int) + 1)) (v2 := .int .i64 0) rfl _ (g := w.heap.size) rfl rfl rfl (hq5.out.r.rowSame _)) rfl ?_
     refine ⟨?_, below_row hq5.out.b (Nat.le_refl _) _⟩
     rw [(HZ.out).trans (HE.out)]
     rfl
   | false =>
     have hd' : bt p (i + 1) ≠ 43 := by simpa using hd
     have HE := Lib.hid (mode_0 (t := { tok0 16 with mx := -1 }) hc' hd')
     clear hc' hd'
     go_wp2_with (first | refine loadR rfl _ rfl (w.heap.size + 1) ({ tok0 16 with mx := -1 }) rfl HQ.out.t ?_ | refine storeR rfl _ _ rfl w.heap.size (tok0 0) ({ tok0 16 with mx := -1 }) rfl _ rfl rfl HQ.out.r ?_)
     refine bodyPost_ret (resR3 (p := 4) (u := 5) (u2 := 6) (t := { tok0 16 with mx := -1 }) (v := .int .i64 ((i + 1 : Nat) : Int)) (v2 := .int .i64 0) rfl _ (g := w.heap.size) rfl rfl rfl (HQ.out.r.rowSame _)) rfl ?_
     refine ⟨?_, below_row HQ.out.b (Nat.le_refl _) _⟩
     rw [(HZ.out).trans (HE.out)]
set_option maxRecDepth 100000 in
set_option maxHeartbeats 16000000 in
theorem rquant_43 (p : ByteArray) (i : Nat) (w : World) (hp : p.size ≤ 1000000) (hi : i < p.size) (h : bt p i = 43) : Calls Tryz.prog 77 #[.string p, .int .i64 (i : Int)] w fun e w' => e = .returned (.tuple #[tokV (quantZ p i).1, .int .i64 ((quantZ p i).2.1 : Nat), .int .i64 (quantZ p i).2.2]) ∧ Below w.heap.size w w' := by
 have HSt := Lib.hid (fun (k : Nat) (z : Int) (c : UInt8) w (hz : z = k) (h : k ≤ p.size) => starts_b p k z c w hp hz h)
 have hii : (i : Int) < (p.size : Int) := by omega
 have hkz : i + 1 ≤ p.size := hi
 have q : ((p[i]'hi).toNat : Int) = 43 := by rw [← bt_at hi, h]; rfl
 have HZ := Lib.hid (qz_43 h)
 clear h
 go_enter Tryz.func77, Tryz.ntmps77
 go_wp2_with (refine storeNewR rfl _ _ rfl (zeroR w) (w.heap.size + 1) (by simp) { tok0 16 with mx := -1 } rfl _ rfl tok16 rfl ?_; intro w1 hx1 hb1; refine stopQ ?_)
 unfold StopQ
 have HQ := Lib.hid (Q2.new hx1.out hb1.out)
 clear hx1 hb1
 go_wp2_with (refine storeF rfl _ _ rfl w 5 { tok0 16 with mx := -1 } { tok0 16 with mn := 1, mx := -1 } 1 rfl rfl (by decide) rfl HQ.out ?_; intro w2 hq2; refine stopQ ?_)
 unfold StopQ
 go_wp2_with fail
 with_reducible refine (HSt.out (i + 1) _ 63 _ (by omega) hkz).mono ?_
 rintro x wa ⟨rfl, rfl⟩
 cases hc : (bt p (i + 1) == (63 : UInt8).toNat) with
 | true =>
   have hc' : bt p (i + 1) = 63 := by simpa using hc
   have HE := Lib.hid (mode_1 (t := { tok0 16 with mn := 1, mx := -1 }) hc')
   clear hc'
   go_wp2_with (refine storeF rfl _ _ rfl w 7 ({ tok0 16 with mn := 1, mx := -1 }) { ({ tok0 16 with mn := 1, mx := -1 } : Tok) with md := 1 } 1 rfl rfl (by decide) rfl hq2.out ?_; intro w5 hq5; refine stopQ ?_)
   unfold StopQ
   go_wp2_with (first | refine loadR rfl _ rfl (w.heap.size + 1) ({ ({ tok0 16 with mn := 1, mx := -1 } : Tok) with md := 1 }) rfl hq5.out.t ?_ | refine storeR rfl _ _ rfl w.heap.size (tok0 0) ({ ({ tok0 16 with mn := 1, mx := -1 } : Tok) with md := 1 }) rfl _ rfl rfl hq5.out.r ?_)
   refine bodyPost_ret (resR3 (p := 4) (u := 5) (u2 := 6) (t := { ({ tok0 16 with mn := 1, mx := -1 } : Tok) with md := 1 }) (v := .int .i64 (((i + 1 : Nat) : Int) + 1)) (v2 := .int .i64 0) rfl _ (g := w.heap.size) rfl rfl rfl (hq5.out.r.rowSame _)) rfl ?_
   refine ⟨?_, below_row hq5.out.b (Nat.le_refl _) _⟩
   rw [(HZ.out).trans (HE.out)]
   rfl
 | false =>
   have hc' : bt p (i + 1) ≠ 63 := by simpa using hc
   go_wp2_with fail
   with_reducible refine (HSt.out (i + 1) _ 43 _ (by omega) hkz).mono ?_
   rintro x wa ⟨rfl, rfl⟩
   cases hd : (bt p (i + 1) == (43 : UInt8).toNat) with
   | true =>
     have hd' : bt p (i + 1) = 43 := by simpa using hd
     have HE := Lib.hid (mode_2 (t := { tok0 16 with mn := 1, mx := -1 }) hd')
     clear hc' hd'
     go_wp2_with (refine storeF rfl _ _ rfl w 7 ({ tok0 16 with mn := 1, mx := -1 }) { ({ tok0 16 with mn := 1, mx := -1 } : Tok) with md := 2 } 2 rfl rfl (by decide) rfl hq2.out ?_; intro w5 hq5; refine stopQ ?_)
     unfold StopQ
     go_wp2_with (first | refine loadR rfl _ rfl (w.heap.size + 1) ({ ({ tok0 16 with mn := 1, mx := -1 } : Tok) with md := 2 }) rfl hq5.out.t ?_ | refine storeR rfl _ _ rfl w.heap.size (tok0 0) ({ ({ tok0 16 with mn := 1, mx := -1 } : Tok) with md := 2 }) rfl _ rfl rfl hq5.out.r ?_)
     refine bodyPost_ret (resR3 (p := 4) (u := 5) (u2 := 6) (t := { ({ tok0 16 with mn := 1, mx := -1 } : Tok) with md := 2 }) (v := .int .i64 (((i + 1 : Nat) : Int) + 1)) (v2 := .int .i64 0) rfl _ (g := w.heap.size) rfl rfl rfl (hq5.out.r.rowSame _)) rfl ?_
     refine ⟨?_, below_row hq5.out.b (Nat.le_refl _) _⟩
     rw [(HZ.out).trans (HE.out)]
     rfl
   | false =>
     have hd' : bt p (i + 1) ≠ 43 := by simpa using hd
     have HE := Lib.hid (mode_0 (t := { tok0 16 with mn := 1, mx := -1 }) hc' hd')
     clear hc' hd'
     go_wp2_with (first | refine loadR rfl _ rfl (w.heap.size + 1) ({ tok0 16 with mn := 1, mx := -1 }) rfl hq2.out.t ?_ | refine storeR rfl _ _ rfl w.heap.size (tok0 0) ({ tok0 16 with mn := 1, mx := -1 }) rfl _ rfl rfl hq2.out.r ?_)
     refine bodyPost_ret (resR3 (p := 4) (u := 5) (u2 := 6) (t := { tok0 16 with mn := 1, mx := -1 }) (v := .int .i64 ((i + 1 : Nat) : Int)) (v2 := .int .i64 0) rfl _ (g := w.heap.size) rfl rfl rfl (hq2.out.r.rowSame _)) rfl ?_
     refine ⟨?_, below_row hq2.out.b (Nat.le_refl _) _⟩
     rw [(HZ.out).trans (HE.out)]
set_option maxRecDepth 100000 in
set_option maxHeartbeats 16000000 in
theorem rquant_63 (p : ByteArray) (i : Nat) (w : World) (hp : p.size ≤ 1000000) (hi : i < p.size) (h : bt p i = 63) : Calls Tryz.prog 77 #[.string p, .int .i64 (i : Int)] w fun e w' => e = .returned (.tuple #[tokV (quantZ p i).1, .int .i64 ((quantZ p i).2.1 : Nat), .int .i64 (quantZ p i).2.2]) ∧ Below w.heap.size w w' := by
 have HSt := Lib.hid (fun (k : Nat) (z : Int) (c : UInt8) w (hz : z = k) (h : k ≤ p.size) => starts_b p k z c w hp hz h)
 have hii : (i : Int) < (p.size : Int) := by omega
 have hkz : i + 1 ≤ p.size := hi
 have q : ((p[i]'hi).toNat : Int) = 63 := by rw [← bt_at hi, h]; rfl
 have HZ := Lib.hid (qz_63 h)
 clear h
 go_enter Tryz.func77, Tryz.ntmps77
 go_wp2_with (refine storeNewR rfl _ _ rfl (zeroR w) (w.heap.size + 1) (by simp) { tok0 16 with mx := -1 } rfl _ rfl tok16 rfl ?_; intro w1 hx1 hb1; refine stopQ ?_)
 unfold StopQ
 have HQ := Lib.hid (Q2.new hx1.out hb1.out)
 clear hx1 hb1
 go_wp2_with (refine storeF rfl _ _ rfl w 6 { tok0 16 with mx := -1 } { tok0 16 with mx := 1 } 1 rfl rfl (by decide) rfl HQ.out ?_; intro w2 hq2; refine stopQ ?_)
 unfold StopQ
 go_wp2_with fail
 with_reducible refine (HSt.out (i + 1) _ 63 _ (by omega) hkz).mono ?_
 rintro x wa ⟨rfl, rfl⟩
 cases hc : (bt p (i + 1) == (63 : UInt8).toNat) with
 | true =>
   have hc' : bt p (i + 1) = 63 := by simpa using hc
   have HE := Lib.hid (mode_1 (t := { tok0 16 with mx := 1 }) hc')
   clear hc'
   go_wp2_with (refine storeF rfl _ _ rfl w 7 ({ tok0 16 with mx := 1 }) { ({ tok0 16 with mx := 1 } : Tok) with md := 1 } 1 rfl rfl (by decide) rfl hq2.out ?_; intro w5 hq5; refine stopQ ?_)
   unfold StopQ
   go_wp2_with (first | refine loadR rfl _ rfl (w.heap.size + 1) ({ ({ tok0 16 with mx := 1 } : Tok) with md := 1 }) rfl hq5.out.t ?_ | refine storeR rfl _ _ rfl w.heap.size (tok0 0) ({ ({ tok0 16 with mx := 1 } : Tok) with md := 1 }) rfl _ rfl rfl hq5.out.r ?_)
   refine bodyPost_ret (resR3 (p := 4) (u := 5) (u2 := 6) (t := { ({ tok0 16 with mx := 1 } : Tok) with md := 1 }) (v := .int .i64 (((i + 1 : Nat) : Int) + 1)) (v2 := .int .i64 0) rfl _ (g := w.heap.size) rfl rfl rfl (hq5.out.r.rowSame _)) rfl ?_
   refine ⟨?_, below_row hq5.out.b (Nat.le_refl _) _⟩
   rw [(HZ.out).trans (HE.out)]
   rfl
 | false =>
   have hc' : bt p (i + 1) ≠ 63 := by simpa using hc
   go_wp2_with fail
   with_reducible refine (HSt.out (i + 1) _ 43 _ (by omega) hkz).mono ?_
   rintro x wa ⟨rfl, rfl⟩
   cases hd : (bt p (i + 1) == (43 : UInt8).toNat) with
   | true =>
     have hd' : bt p (i + 1) = 43 := by simpa using hd
     have HE := Lib.hid (mode_2 (t := { tok0 16 with mx := 1 }) hd')
     clear hc' hd'
     go_wp2_with (refine storeF rfl _ _ rfl w 7 ({ tok0 16 with mx := 1 }) { ({ tok0 16 with mx := 1 } : Tok) with md := 2 } 2 rfl rfl (by decide) rfl hq2.out ?_; intro w5 hq5; refine stopQ ?_)
     unfold StopQ
     go_wp2_with (first | refine loadR rfl _ rfl (w.heap.size + 1) ({ ({ tok0 16 with mx := 1 } : Tok) with md := 2 }) rfl hq5.out.t ?_ | refine storeR rfl _ _ rfl w.heap.size (tok0 0) ({ ({ tok0 16 with mx := 1 } : Tok) with md := 2 }) rfl _ rfl rfl hq5.out.r ?_)
     refine bodyPost_ret (resR3 (p := 4) (u := 5) (u2 := 6) (t := { ({ tok0 16 with mx := 1 } : Tok) with md := 2 }) (v := .int .i64 (((i + 1 : Nat) : Int) + 1)) (v2 := .int .i64 0) rfl _ (g := w.heap.size) rfl rfl rfl (hq5.out.r.rowSame _)) rfl ?_
     refine ⟨?_, below_row hq5.out.b (Nat.le_refl _) _⟩
     rw [(HZ.out).trans (HE.out)]
     rfl
   | false =>
     have hd' : bt p (i + 1) ≠ 43 := by simpa using hd
     have HE := Lib.hid (mode_0 (t := { tok0 16 with mx := 1 }) hc' hd')
     clear hc' hd'
     go_wp2_with (first | refine loadR rfl _ rfl (w.heap.size + 1) ({ tok0 16 with mx := 1 }) rfl hq2.out.t ?_ | refine storeR rfl _ _ rfl w.heap.size (tok0 0) ({ tok0 16 with mx := 1 }) rfl _ rfl rfl hq2.out.r ?_)
     refine bodyPost_ret (resR3 (p := 4) (u := 5) (u2 := 6) (t := { tok0 16 with mx := 1 }) (v := .int .i64 ((i + 1 : Nat) : Int)) (v2 := .int .i64 0) rfl _ (g := w.heap.size) rfl rfl rfl (hq2.out.r.rowSame _)) rfl ?_
     refine ⟨?_, below_row hq2.out.b (Nat.le_refl _) _⟩
     rw [(HZ.out).trans (HE.out)]
set_option maxRecDepth 100000 in
set_option maxHeartbeats 16000000 in
theorem rquant_123 (p : ByteArray) (i : Nat) (w : World) (hp : p.size ≤ 1000000) (hi : i < p.size) (h : bt p i = 123) : Calls Tryz.prog 77 #[.string p, .int .i64 (i : Int)] w fun e w' => e = .returned (.tuple #[tokV (quantZ p i).1, .int .i64 ((quantZ p i).2.1 : Nat), .int .i64 (quantZ p i).2.2]) ∧ Below w.heap.size w w' := by
 have HSt := Lib.hid (fun (k : Nat) (z : Int) (c : UInt8) w (hz : z = k) (h : k ≤ p.size) => starts_b p k z c w hp hz h)
 have hii : (i : Int) < (p.size : Int) := by omega
 have hkz : i + 1 ≤ p.size := hi
 have q : ((p[i]'hi).toNat : Int) = 123 := by rw [← bt_at hi, h]; rfl
 have HBr := Lib.hid (fun w => rbraces_any p i w hp hi)
 have hz0 := @qz_b0 p i
 have hz1 := @qz_b1 p i
 have hle := @brace_le p i
 obtain ⟨B, hB⟩ : ∃ B, B = bracesZ p i := ⟨_, rfl⟩
 have HB := Lib.hid hB
 rw [← hB] at hz0 hz1 hle
 clear hB
 obtain ⟨t, k, e⟩ := B
 simp only [] at hle
 have HH := Lib.hid h
 clear h
 go_enter Tryz.func77, Tryz.ntmps77
 go_wp2_with (refine storeNewR rfl _ _ rfl (zeroR w) (w.heap.size + 1) (by simp) { tok0 16 with mx := -1 } rfl _ rfl tok16 rfl ?_; intro w1 hx1 hb1; refine stopQ ?_)
 unfold StopQ
 have HQ := Lib.hid (Q2.new hx1.out hb1.out)
 clear hx1 hb1
 go_wp2_with fail
 with_reducible refine (HBr.out _).mono ?_
 rw [← HB.out]
 rintro x w2 ⟨rfl, hb⟩
 have HQ2 := Lib.hid (HQ.out.call hb)
 clear hb
 simp only []
 go_wp2_with (refine storeNewR rfl _ _ rfl w2 w2.heap.size rfl t rfl _ rfl rfl rfl ?_; intro w3 hx3 hb3; refine stopQ ?_)
 unfold StopQ
 have HQ3 := Lib.hid (HQ2.out.call hb3.out)
 have hlt : w.heap.size + 1 < w2.heap.size := HQ2.out.t.lt
 by_cases he : e = 0
 ·subst he
  have hkz := hle
  have HZ := Lib.hid (hz0 HH.out rfl)
  have HX := Lib.hid hx3.out
  clear hz0 hz1 hle hlt
  go_wp2_with (first | refine loadR rfl _ rfl w2.heap.size t rfl HX.out ?_ | (refine storeR rfl _ _ rfl (w.heap.size + 1) { tok0 16 with mx := -1 } t rfl _ rfl rfl HQ3.out.t ?_; refine stopQ ?_))
  unfold StopQ
  have HQ4 := Lib.hid (HQ3.out.row t)
  obtain ⟨w4, hw4⟩ : ∃ w4, w4 = w3.setRow (w.heap.size + 1) (tokC t) := ⟨_, rfl⟩
  rw [← hw4] at HQ4 ⊢
  clear hw4
  go_wp2_with fail
  with_reducible refine (HSt.out (k) _ 63 _ (by omega) hkz).mono ?_
  rintro x wa ⟨rfl, rfl⟩
  cases hc : (bt p (k) == (63 : UInt8).toNat) with
  | true =>
    have hc' : bt p (k) = 63 := by simpa using hc
    have HE := Lib.hid (mode_1 (t := t) hc')
    clear hc'
    go_wp2_with (refine storeF rfl _ _ rfl w 7 (t) { (t : Tok) with md := 1 } 1 rfl rfl (by decide) rfl HQ4.out ?_; intro w5 hq5; refine stopQ ?_)
    unfold StopQ
    go_wp2_with (first | refine loadR rfl _ rfl (w.heap.size + 1) ({ (t : Tok) with md := 1 }) rfl hq5.out.t ?_ | refine storeR rfl _ _ rfl w.heap.size (tok0 0) ({ (t : Tok) with md := 1 }) rfl _ rfl rfl hq5.out.r ?_)
    refine bodyPost_ret (resR3 (p := 4) (u := 5) (u2 := 6) (t := { (t : Tok) with md := 1 }) (v := .int .i64 (((k : Nat) : Int) + 1)) (v2 := .int .i64 0) rfl _ (g := w.heap.size) rfl rfl rfl (hq5.out.r.rowSame _)) rfl ?_
    refine ⟨?_, below_row hq5.out.b (Nat.le_refl _) _⟩
    rw [(HZ.out).trans (HE.out)]
    rfl
  | false =>
    have hc' : bt p (k) ≠ 63 := by simpa using hc
    go_wp2_with fail
    with_reducible refine (HSt.out (k) _ 43 _ (by omega) hkz).mono ?_
    rintro x wa ⟨rfl, rfl⟩
    cases hd : (bt p (k) == (43 : UInt8).toNat) with
    | true =>
      have hd' : bt p (k) = 43 := by simpa using hd
      have HE := Lib.hid (mode_2 (t := t) hd')
      clear hc' hd'
      go_wp2_with (refine storeF rfl _ _ rfl w 7 (t) { (t : Tok) with md := 2 } 2 rfl rfl (by decide) rfl HQ4.out ?_; intro w5 hq5; refine stopQ ?_)
      unfold StopQ
      go_wp2_with (first | refine loadR rfl _ rfl (w.heap.size + 1) ({ (t : Tok) with md := 2 }) rfl hq5.out.t ?_ | refine storeR rfl _ _ rfl w.heap.size (tok0 0) ({ (t : Tok) with md := 2 }) rfl _ rfl rfl hq5.out.r ?_)
      refine bodyPost_ret (resR3 (p := 4) (u := 5) (u2 := 6) (t := { (t : Tok) with md := 2 }) (v := .int .i64 (((k : Nat) : Int) + 1)) (v2 := .int .i64 0) rfl _ (g := w.heap.size) rfl rfl rfl (hq5.out.r.rowSame _)) rfl ?_
      refine ⟨?_, below_row hq5.out.b (Nat.le_refl _) _⟩
      rw [(HZ.out).trans (HE.out)]
      rfl
    | false =>
      have hd' : bt p (k) ≠ 43 := by simpa using hd
      have HE := Lib.hid (mode_0 (t := t) hc' hd')
      clear hc' hd'
      go_wp2_with (first | refine loadR rfl _ rfl (w.heap.size + 1) (t) rfl HQ4.out.t ?_ | refine storeR rfl _ _ rfl w.heap.size (tok0 0) (t) rfl _ rfl rfl HQ4.out.r ?_)
      refine bodyPost_ret (resR3 (p := 4) (u := 5) (u2 := 6) (t := t) (v := .int .i64 ((k : Nat) : Int)) (v2 := .int .i64 0) rfl _ (g := w.heap.size) rfl rfl rfl (HQ4.out.r.rowSame _)) rfl ?_
      refine ⟨?_, below_row HQ4.out.b (Nat.le_refl _) _⟩
      rw [(HZ.out).trans (HE.out)]
 ·have HZ := Lib.hid (hz1 HH.out rfl he)
  clear hz0 hz1 hle hlt
  go_wp2_with (refine storeR rfl _ _ rfl w.heap.size (tok0 0) (tok0 0) rfl _ rfl zero10 HQ3.out.r ?_)
  refine bodyPost_ret (resR3 (p := 4) (u := 5) (u2 := 6) (t := tok0 0) (v := .int .i64 0) (v2 := .int .i64 e) rfl _ (g := w.heap.size) rfl rfl rfl (HQ3.out.r.rowSame _)) rfl ?_
  refine ⟨?_, below_row HQ3.out.b (Nat.le_refl _) _⟩
  rw [HZ.out]
  rfl
theorem rquant_any (p : ByteArray) (i : Nat) (w : World) (hp : p.size ≤ 1000000) (hi : i < p.size) (h : bt p i = 42 ∨ bt p i = 43 ∨ bt p i = 63 ∨ bt p i = 123) : Calls Tryz.prog 77 #[.string p, .int .i64 (i : Int)] w fun e w' => e = .returned (.tuple #[tokV (quantZ p i).1, .int .i64 ((quantZ p i).2.1 : Nat), .int .i64 (quantZ p i).2.2]) ∧ Below w.heap.size w w' := by
 rcases h with h | h | h | h
 ·exact rquant_42 p i w hp hi h
 ·exact rquant_43 p i w hp hi h
 ·exact rquant_63 p i w hp hi h
 ·exact rquant_123 p i w hp hi h
end Go.Proofs.YtdnbpbngoiahlaaGreatDoor
namespace Go.Proofs.YtdnbpbngoiahlaaGreatDoor
open Go.RowKit
theorem strF (w : World) (b : UInt8) : (convert 50 9 (.slice (some ⟨w.heap.size, 0, none⟩) 1 1)).run Tryz.prog (w.alloc (.cells #[.int .u8 (b.toNat : Int)] 5)) = .ok (.string ⟨#[b]⟩) (w.alloc (.cells #[.int .u8 (b.toNat : Int)] 5)) := by
 have h := run_convert_bytes_back (P := Tryz.prog) (w.alloc (.cells #[.int .u8 (b.toNat : Int)] 5)) 50 9 5 ⟨w.heap.size, 0, none⟩ 1 [b] Tryz.underlying50 Tryz.underlying5 Tryz.underlying9 (fun j hj => by
  obtain rfl : j = 0 := by simpa using hj
  rw [Addr.add_lit]
  unfold World.cell?
  rw [heap_alloc_new]
  simp)
 exact h
structure FlgI (p S : ByteArray) (i k : Nat) : Prop where
 sz : S.size ≤ k
 z : ∃ f, p.size < f + k ∧ flagsF p (p.size + 1) (i + 2) [] = flagsF p f k S.data.toList
theorem flg_0 (p : ByteArray) (i : Nat) : FlgI p ⟨#[]⟩ i (i + 2) := ⟨Nat.zero_le _, p.size + 1, by omega, rfl⟩
section
variable {p S : ByteArray} {i k : Nat}
theorem flg_end (h : FlgI p S i k) (hk : ¬ k < p.size) : flagsF p (p.size + 1) (i + 2) [] = wrongT 3 := by
 obtain ⟨f, hf, he⟩ := h.z
 rw [he]
 cases f with
 | zero => rfl
 | succ f =>
   unfold flagsF
   rw [dif_neg hk]
theorem flg_colon (h : FlgI p S i k) (hk : k < p.size) (hc : ((p[k]'hk).toNat : Int) = 58) (hs : S.size ≠ 0) : flagsF p (p.size + 1) (i + 2) [] = ({ tok0 14 with f := S }, k + 1, 0) := by
 obtain ⟨f, hf, he⟩ := h.z
 rw [he]
 cases f with
 | zero => omega
 | succ f =>
   unfold flagsF
   rw [dif_pos hk, if_pos ⟨by rw [bt_at hk]; omega, fun h0 => hs (by show S.data.size = 0; rw [← Array.length_toList, h0]; rfl)⟩]
theorem flg_bad (h : FlgI p S i k) (hk : k < p.size) (hc : ((p[k]'hk).toNat : Int) ≠ 58 ∨ S.size = 0) (h5 : ((p[k]'hk).toNat : Int) ≠ 105) (h9 : ((p[k]'hk).toNat : Int) ≠ 109) (hf5 : ((p[k]'hk).toNat : Int) ≠ 115) : flagsF p (p.size + 1) (i + 2) [] = wrongT 3 := by
 obtain ⟨f, hf, he⟩ := h.z
 rw [he]
 cases f with
 | zero => omega
 | succ f =>
   unfold flagsF
   rw [dif_pos hk, if_neg (fun hh => by
    rcases hc with hc | hc
    ·exact hc (by have := hh.1; rw [bt_at hk] at this; omega)
    ·exact hh.2 (by apply List.eq_nil_of_length_eq_zero; rw [Array.length_toList]; exact hc)), if_pos (by rw [bt_at hk]; omega)]
theorem flg_twice (h : FlgI p S i k) (hk : k < p.size) (h5 : ((p[k]'hk).toNat : Int) = 105 ∨ ((p[k]'hk).toNat : Int) = 109 ∨ ((p[k]'hk).toNat : Int) = 115) {j : Nat} (hj : j < S.size) (he : ((S[j]'hj).toNat : Int) = ((p[k]'hk).toNat : Int)) : flagsF p (p.size + 1) (i + 2) [] = wrongT 3 := by
 obtain ⟨f, hf, hz⟩ := h.z
 rw [hz]
 cases f with
 | zero => omega
 | succ f =>
   unfold flagsF
   rw [dif_pos hk, if_neg (fun hh => by have := hh.1; rw [bt_at hk] at this; omega), if_neg (by rw [bt_at hk]; omega), if_pos (by
    have hb : S[j]'hj = p[k]'hk := UInt8.toNat_inj.1 (by omega)
    rw [← hb]
    exact Array.mem_toList_iff.2 (Array.getElem_mem hj))]
theorem flg_next (h : FlgI p S i k) (hk : k < p.size) (h5 : ((p[k]'hk).toNat : Int) = 105 ∨ ((p[k]'hk).toNat : Int) = 109 ∨ ((p[k]'hk).toNat : Int) = 115) (hn : ∀ j (hj : j < S.size), ¬ ((S[j]'hj).toNat : Int) = ((p[k]'hk).toNat : Int)) : FlgI p (S ++ ⟨#[p[k]'hk]⟩) i (k + 1) := by
 obtain ⟨f, hf, hz⟩ := h.z
 refine ⟨by rw [ByteArray.size_append]; have := h.sz; show S.size + 1 ≤ k + 1; omega, ?_⟩
 cases f with
 | zero => omega
 | succ f =>
   refine ⟨f, by omega, ?_⟩
   rw [hz]
   conv => lhs; unfold flagsF
   rw [dif_pos hk, if_neg (fun hh => by have := hh.1; rw [bt_at hk] at this; omega), if_neg (by rw [bt_at hk]; omega), if_neg (by
    intro hm
    obtain ⟨j, hj, he⟩ := Array.mem_iff_getElem.1 (Array.mem_toList_iff.1 hm)
    exact hn j hj (by have : S[j]'hj = p[k]'hk := he; rw [this]))]
   congr 1
end
structure FlgW (w wr : World) : Prop where
 r : BoxT 93 wr w.heap.size (tok0 0)
 b : Below w.heap.size w wr
theorem FlgW.call {w wr u : World} (h : FlgW w wr) (hb : Below wr.heap.size wr u) : FlgW w u := ⟨h.r.below hb h.r.lt, thenB h.b hb h.b.size⟩
set_option maxRecDepth 100000 in
set_option maxHeartbeats 16000000 in
theorem rflags_any (p : ByteArray) (i : Nat) (w : World) (hp : p.size ≤ 1000000) (hi : i + 2 ≤ p.size) : Calls Tryz.prog 76 #[.string p, .int .i64 (i : Int)] w fun e w' => e = .returned (.tuple #[tokV (flagsF p (p.size + 1) (i + 2) []).1, .int .i64 ((flagsF p (p.size + 1) (i + 2) []).2.1 : Nat), .int .i64 (flagsF p (p.size + 1) (i + 2) []).2.2]) ∧ Below w.heap.size w w' := by
 have H0 : Hid (FlgW w (w.alloc (.cells #[.int .i64 0, .int .u64 0, .int .u64 0, .int .u64 0, .int .u64 0, .int .i64 0, .int .i64 0, .int .i64 0, .int .i64 0, .string ⟨#[]⟩] 93))) := Lib.hid ⟨newR zero10, (Below.refl _ w).alloc (Nat.le_refl _) _⟩
 have HF0 := Lib.hid (flg_0 p i)
 obtain ⟨R, hR⟩ : ∃ R, R = flagsF p (p.size + 1) (i + 2) [] := ⟨_, rfl⟩
 rw [← hR]
 have HR := Lib.hid hR
 clear hR
 obtain ⟨a, ha⟩ : ∃ a, a = i + 2 := ⟨_, rfl⟩
 rw [← ha] at HF0 hi
 have haz : (i : Int) + 2 = (a : Int) := by omega
 clear ha
 go_enter Tryz.func76, Tryz.ntmps76
 go_wp2_with fail
 clear haz
 generalize w.alloc _ = W0 at H0 ⊢
 go_loopw [7, 8] (fun s7 s8 wr => ∃ (k : Nat) (S : ByteArray), s7 = .string S ∧ s8 = .int .i64 k ∧ k ≤ p.size ∧ FlgI p S i k ∧ FlgW w wr) (fun _ s8 _ => p.size - (intOf s8).toNat)
 case atStart => exact ⟨a, ⟨#[]⟩, rfl, rfl, hi, HF0.out, H0.out⟩
 case round =>
  obtain ⟨k, S, rfl, rfl, hkp, hI, hW⟩ := hrel
  have HI := Lib.hid hI
  have HW := Lib.hid hW
  have hS : S.size ≤ k := hI.sz
  clear hI hW H0 HF0
  by_cases hk : k < p.size
  ·have kk : (k : Int) < (p.size : Int) := by omega
   have HE := Lib.hid (@flg_colon p S i k HI.out hk)
   have HB := Lib.hid (@flg_bad p S i k HI.out hk)
   have HT := Lib.hid (@flg_twice p S i k HI.out hk)
   have HN := Lib.hid (@flg_next p S i k HI.out hk)
   obtain ⟨C, hC⟩ : ∃ C : ByteArray, C = ⟨#[p[k]'hk]⟩ := ⟨_, rfl⟩
   rw [← hC] at HN
   have hC1 : C.size = 1 := by rw [hC]; rfl
   have HS1 := Lib.hid (fun w => strF w (p[k]'hk))
   rw [← hC] at HS1
   clear hC
   by_cases h58 : ((p[k]'hk).toNat : Int) = 58
   ·have q1 : (((p[k]'hk).toNat : Int) == 58) = true := by simp [h58]
    by_cases hs0 : S.size = 0
    ·have q2 : S.toList.isEmpty = true := by
      have : S = ⟨#[]⟩ := ByteArray.ext (Array.eq_empty_of_size_eq_zero hs0)
      rw [ByteArray.toList_eq, this]; rfl
     have HB2 := Lib.hid (HB.out (.inr hs0) (by omega) (by omega) (by omega))
     have q3 : (((p[k]'hk).toNat : Int) != 105) = true := by simp; omega
     have q4 : (((p[k]'hk).toNat : Int) != 109) = true := by simp; omega
     have q5 : (((p[k]'hk).toNat : Int) != 115) = true := by simp; omega
     clear h58 hs0 hC1
     go_wp2_with (refine storeR rfl _ _ rfl w.heap.size (tok0 0) (tok0 0) rfl _ rfl zero10 HW.out.r ?_)
     refine bodyPost_ret (resR3 (p := 4) (u := 5) (u2 := 6) (t := tok0 0) (v := .int .i64 0) (v2 := .int .i64 3) rfl _ (g := w.heap.size) rfl rfl rfl (HW.out.r.rowSame _)) rfl ?_
     refine ⟨?_, below_row HW.out.b (Nat.le_refl _) _⟩
     rw [HR.out, HB2.out]
     rfl
    ·have q2 : S.toList.isEmpty = false := by
      rw [ByteArray.toList_eq, List.isEmpty_eq_false_iff]
      intro h2
      exact hs0 (by show S.data.size = 0; rw [← Array.length_toList, h2]; rfl)
     have HE2 := Lib.hid (HE.out h58 hs0)
     clear h58 hs0 hC1
     go_wp2_with (refine storeR rfl _ _ rfl w.heap.size (tok0 0) { tok0 14 with f := S } rfl _ rfl (by simp [tokC, tok0, W_zero]) HW.out.r ?_)
     refine bodyPost_ret (resR3 (p := 4) (u := 5) (u2 := 6) (t := { tok0 14 with f := S }) (v := .int .i64 ((k : Int) + 1)) (v2 := .int .i64 0) rfl _ (g := w.heap.size) rfl rfl rfl (HW.out.r.rowSame _)) rfl ?_
     refine ⟨?_, below_row HW.out.b (Nat.le_refl _) _⟩
     rw [HR.out, HE2.out]
     rfl
   ·have q1 : (((p[k]'hk).toNat : Int) == 58) = false := by simp; omega
    by_cases hf : ((p[k]'hk).toNat : Int) = 105 ∨ ((p[k]'hk).toNat : Int) = 109 ∨ ((p[k]'hk).toNat : Int) = 115
    ·have HT2 := Lib.hid (fun j hj he => HT.out hf (j := j) hj he)
     have HN2 := Lib.hid (HN.out hf)
     have hsum : ¬ S.size + C.size > 9223372036854775807 := by omega
     have hkp2 : (k : Int) + 1 ≤ 1000001 := by omega
     clear HT HN HB HE h58 hC1
     rcases hf with h105 | h109 | h115
     ·have q3 : (((p[k]'hk).toNat : Int) != 105) = false := by simp [h105]
      clear h105
      go_wp2_with fail
      go_loopw [10] (fun s10 wr => ∃ j : Nat, s10 = .int .i64 j ∧ j ≤ S.size ∧ (∀ m (hm : m < S.size), m < j → ¬ ((S[m]'hm).toNat : Int) = ((p[k]'hk).toNat : Int)) ∧ FlgW w wr) (fun s10 _ => S.size - (intOf s10).toNat)
      case atStart => exact ⟨0, rfl, Nat.zero_le _, fun m _ h => absurd h (Nat.not_lt_zero m), HW.out⟩
      case round =>
       obtain ⟨j, rfl, hjs, hmm, hW2⟩ := hrel
       have HMM := Lib.hid hmm
       have HW2 := Lib.hid hW2
       clear hmm hW2 HW
       have HW := HW2
       clear HW2
       by_cases hj : j < S.size
       ·have jj : (j : Int) < (S.size : Int) := by omega
        by_cases hx : ((S[j]'hj).toNat : Int) = ((p[k]'hk).toNat : Int)
        ·have HT3 := Lib.hid (HT2.out j hj hx)
         go_wp2_with (refine storeR rfl _ _ rfl w.heap.size (tok0 0) (tok0 0) rfl _ rfl zero10 HW.out.r ?_)
         refine bodyPost_ret (resR3 (p := 4) (u := 5) (u2 := 6) (t := tok0 0) (v := .int .i64 0) (v2 := .int .i64 3) rfl _ (g := w.heap.size) rfl rfl rfl (HW.out.r.rowSame _)) rfl ?_
         refine ⟨?_, below_row HW.out.b (Nat.le_refl _) _⟩
         rw [HR.out, HT3.out]
         rfl
        ·have HXX := Lib.hid hx
         have q6 : (((S[j]'hj).toNat : Int) == ((p[k]'hk).toNat : Int)) = false := by simpa using hx
         clear hx
         go_wp2_with fail
         have hx := HXX.out
         have hmm2 : ∀ m (hm : m < S.size), m < j + 1 → ¬ ((S[m]'hm).toNat : Int) = ((p[k]'hk).toNat : Int) := fun m hm h => by
          by_cases h2 : m = j
          ·subst h2; exact hx
          ·exact HMM.out m hm (by omega)
         go_roundw
         case rel => exact ⟨j + 1, by go_num, by omega, hmm2, HW.out⟩
         case measure => simp [intOf]; omega
       ·have jj : ¬ (j : Int) < (S.size : Int) := by omega
        have HN3 := Lib.hid (HN2.out (fun m hm => HMM.out m hm (by omega)))
        have hs1 := HS1.out wr
        have HW3 := Lib.hid (HW.out.call ((Below.refl _ wr).alloc (Nat.le_refl _) (.cells #[.int .u8 ((p[k]'hk).toNat : Int)] 5)))
        go_wp2_with fail
        go_roundw
        case rel => exact ⟨k + 1, S ++ C, rfl, by go_num, by omega, HN3.out, HW3.out⟩
        case measure => simp [intOf]; omega
     ·have q3 : (((p[k]'hk).toNat : Int) != 105) = true := by simp [h109]
      have q4 : (((p[k]'hk).toNat : Int) != 109) = false := by simp [h109]
      clear h109
      go_wp2_with fail
      go_loopw [10] (fun s10 wr => ∃ j : Nat, s10 = .int .i64 j ∧ j ≤ S.size ∧ (∀ m (hm : m < S.size), m < j → ¬ ((S[m]'hm).toNat : Int) = ((p[k]'hk).toNat : Int)) ∧ FlgW w wr) (fun s10 _ => S.size - (intOf s10).toNat)
      case atStart => exact ⟨0, rfl, Nat.zero_le _, fun m _ h => absurd h (Nat.not_lt_zero m), HW.out⟩
      case round =>
       obtain ⟨j, rfl, hjs, hmm, hW2⟩ := hrel
       have HMM := Lib.hid hmm
       have HW2 := Lib.hid hW2
       clear hmm hW2 HW
       have HW := HW2
       clear HW2
       by_cases hj : j < S.size
       ·have jj : (j : Int) < (S.size : Int) := by omega
        by_cases hx : ((S[j]'hj).toNat : Int) = ((p[k]'hk).toNat : Int)
        ·have HT3 := Lib.hid (HT2.out j hj hx)
         go_wp2_with (refine storeR rfl _ _ rfl w.heap.size (tok0 0) (tok0 0) rfl _ rfl zero10 HW.out.r ?_)
         refine bodyPost_ret (resR3 (p := 4) (u := 5) (u2 := 6) (t := tok0 0) (v := .int .i64 0) (v2 := .int .i64 3) rfl _ (g := w.heap.size) rfl rfl rfl (HW.out.r.rowSame _)) rfl ?_
         refine ⟨?_, below_row HW.out.b (Nat.le_refl _) _⟩
         rw [HR.out, HT3.out]
         rfl
        ·have HXX := Lib.hid hx
         have q6 : (((S[j]'hj).toNat : Int) == ((p[k]'hk).toNat : Int)) = false := by simpa using hx
         clear hx
         go_wp2_with fail
         have hx := HXX.out
         have hmm2 : ∀ m (hm : m < S.size), m < j + 1 → ¬ ((S[m]'hm).toNat : Int) = ((p[k]'hk).toNat : Int) := fun m hm h => by
          by_cases h2 : m = j
          ·subst h2; exact hx
          ·exact HMM.out m hm (by omega)
         go_roundw
         case rel => exact ⟨j + 1, by go_num, by omega, hmm2, HW.out⟩
         case measure => simp [intOf]; omega
       ·have jj : ¬ (j : Int) < (S.size : Int) := by omega
        have HN3 := Lib.hid (HN2.out (fun m hm => HMM.out m hm (by omega)))
        have hs1 := HS1.out wr
        have HW3 := Lib.hid (HW.out.call ((Below.refl _ wr).alloc (Nat.le_refl _) (.cells #[.int .u8 ((p[k]'hk).toNat : Int)] 5)))
        go_wp2_with fail
        go_roundw
        case rel => exact ⟨k + 1, S ++ C, rfl, by go_num, by omega, HN3.out, HW3.out⟩
        case measure => simp [intOf]; omega
     ·have q3 : (((p[k]'hk).toNat : Int) != 105) = true := by simp [h115]
      have q4 : (((p[k]'hk).toNat : Int) != 109) = true := by simp [h115]
      have q5 : (((p[k]'hk).toNat : Int) != 115) = false := by simp [h115]
      clear h115
      go_wp2_with fail
      go_loopw [10] (fun s10 wr => ∃ j : Nat, s10 = .int .i64 j ∧ j ≤ S.size ∧ (∀ m (hm : m < S.size), m < j → ¬ ((S[m]'hm).toNat : Int) = ((p[k]'hk).toNat : Int)) ∧ FlgW w wr) (fun s10 _ => S.size - (intOf s10).toNat)
      case atStart => exact ⟨0, rfl, Nat.zero_le _, fun m _ h => absurd h (Nat.not_lt_zero m), HW.out⟩
      case round =>
       obtain ⟨j, rfl, hjs, hmm, hW2⟩ := hrel
       have HMM := Lib.hid hmm
       have HW2 := Lib.hid hW2
       clear hmm hW2 HW
       have HW := HW2
       clear HW2
       by_cases hj : j < S.size
       ·have jj : (j : Int) < (S.size : Int) := by omega
        by_cases hx : ((S[j]'hj).toNat : Int) = ((p[k]'hk).toNat : Int)
        ·have HT3 := Lib.hid (HT2.out j hj hx)
         go_wp2_with (refine storeR rfl _ _ rfl w.heap.size (tok0 0) (tok0 0) rfl _ rfl zero10 HW.out.r ?_)
         refine bodyPost_ret (resR3 (p := 4) (u := 5) (u2 := 6) (t := tok0 0) (v := .int .i64 0) (v2 := .int .i64 3) rfl _ (g := w.heap.size) rfl rfl rfl (HW.out.r.rowSame _)) rfl ?_
         refine ⟨?_, below_row HW.out.b (Nat.le_refl _) _⟩
         rw [HR.out, HT3.out]
         rfl
        ·have HXX := Lib.hid hx
         have q6 : (((S[j]'hj).toNat : Int) == ((p[k]'hk).toNat : Int)) = false := by simpa using hx
         clear hx
         go_wp2_with fail
         have hx := HXX.out
         have hmm2 : ∀ m (hm : m < S.size), m < j + 1 → ¬ ((S[m]'hm).toNat : Int) = ((p[k]'hk).toNat : Int) := fun m hm h => by
          by_cases h2 : m = j
          ·subst h2; exact hx
          ·exact HMM.out m hm (by omega)
         go_roundw
         case rel => exact ⟨j + 1, by go_num, by omega, hmm2, HW.out⟩
         case measure => simp [intOf]; omega
       ·have jj : ¬ (j : Int) < (S.size : Int) := by omega
        have HN3 := Lib.hid (HN2.out (fun m hm => HMM.out m hm (by omega)))
        have hs1 := HS1.out wr
        have HW3 := Lib.hid (HW.out.call ((Below.refl _ wr).alloc (Nat.le_refl _) (.cells #[.int .u8 ((p[k]'hk).toNat : Int)] 5)))
        go_wp2_with fail
        go_roundw
        case rel => exact ⟨k + 1, S ++ C, rfl, by go_num, by omega, HN3.out, HW3.out⟩
        case measure => simp [intOf]; omega
    ·have q3 : (((p[k]'hk).toNat : Int) != 105) = true := by simp; omega
     have q4 : (((p[k]'hk).toNat : Int) != 109) = true := by simp; omega
     have q5 : (((p[k]'hk).toNat : Int) != 115) = true := by simp; omega
     have HB2 := Lib.hid (HB.out (.inl h58) (by omega) (by omega) (by omega))
     clear h58 hf hC1
     go_wp2_with (refine storeR rfl _ _ rfl w.heap.size (tok0 0) (tok0 0) rfl _ rfl zero10 HW.out.r ?_)
     refine bodyPost_ret (resR3 (p := 4) (u := 5) (u2 := 6) (t := tok0 0) (v := .int .i64 0) (v2 := .int .i64 3) rfl _ (g := w.heap.size) rfl rfl rfl (HW.out.r.rowSame _)) rfl ?_
     refine ⟨?_, below_row HW.out.b (Nat.le_refl _) _⟩
     rw [HR.out, HB2.out]
     rfl
  ·have kk : ¬ (k : Int) < (p.size : Int) := by omega
   have HE := Lib.hid (flg_end HI.out hk)
   go_wp2_with (refine storeR rfl _ _ rfl w.heap.size (tok0 0) (tok0 0) rfl _ rfl zero10 HW.out.r ?_)
   refine bodyPost_ret (resR3 (p := 4) (u := 5) (u2 := 6) (t := tok0 0) (v := .int .i64 0) (v2 := .int .i64 3) rfl _ (g := w.heap.size) rfl rfl rfl (HW.out.r.rowSame _)) rfl ?_
   refine ⟨?_, below_row HW.out.b (Nat.le_refl _) _⟩
   rw [HR.out, HE.out]
   rfl
end Go.Proofs.YtdnbpbngoiahlaaGreatDoor
