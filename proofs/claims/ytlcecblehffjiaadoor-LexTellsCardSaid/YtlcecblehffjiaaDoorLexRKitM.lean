/-
  LexRItem, LexRKit
-/
import Derived.Test.YtlcecblehffjiaaDoorLexEsc
import Derived.Test.YtlcecblehffjiaaDoorLexClsM
namespace Go.Proofs.YtlcecblehffjiaaDoor
open Go.RowKit

theorem item_none {p : ByteArray} {i : Nat} (h : p.size ≤ i ∨ bt p i = 91 ∨ bt p i = 93 ∨ bt p i = 45) : itemZ p i = (0#256, 0) := by unfold itemZ; rw [if_pos h]
theorem item_esc {p : ByteArray} {i : Nat} (h : i < p.size) (hb : bt p i = 92) : itemZ p i = escZ p i := by unfold itemZ; rw [if_neg (by omega), if_pos hb]
theorem item_one {p : ByteArray} {i c : Nat} (h : i < p.size) (hb : bt p i = c) (h1 : c ≠ 91) (h2 : c ≠ 93) (h3 : c ≠ 45) (h4 : c ≠ 92) : itemZ p i = (oneS c, i + 1) := by unfold itemZ; rw [if_neg (by omega), if_neg (by omega), hb]
set_option maxRecDepth 100000 in
set_option maxHeartbeats 8000000 in
theorem ritem_any (p : ByteArray) (i : Nat) (w : World) (hp : p.size ≤ 1000000) (hi : i ≤ 2000000) : Calls Tryd.prog 32 #[.string p, .int .i64 (i : Int)] w fun e w' => e = .returned (.tuple #[.agg (bitsA (itemZ p i).1), .int .i64 ((itemZ p i).2 : Nat)]) ∧ Below w.heap.size w w' := by
  have HZ := Lib.hid (BoxA.new w 0#256)
  have HW := Lib.hid ((Below.refl _ w).alloc (Nat.le_refl _) (.cells (bitsA 0#256) 68))
  by_cases hs : i < p.size
  · have l1 : ¬ (i : Int) ≥ (p.size : Int) := by omega
    obtain ⟨c, hc⟩ : ∃ c, c = (p[i]'hs).toNat := ⟨_, rfl⟩
    have hb : bt p i = c := by rw [hc]; exact bt_at hs
    have hcl : c < 256 := by rw [hc]; exact (p[i]'hs).toNat_lt
    have hcc := hc.symm
    clear hc
    by_cases hn : c = 91 ∨ c = 93 ∨ c = 45
    · have HI := Lib.hid (item_none (p := p) (i := i) (by omega))
      clear hb
      rcases hn with rfl | rfl | rfl
      · go_enter Tryd.func32, Tryd.ntmps32
        go_wp2_with (refine storeA rfl _ _ rfl w.heap.size _ _ rfl rfl HZ.out ?_)
        refine bodyPost_ret (boxA_results2 (p := 4) (u := 5) (S := 0#256) (v := .int .i64 0) rfl _ (g := w.heap.size) rfl rfl (HZ.out.rowSame 0#256)) rfl ?_
        exact ⟨ret_s (by rw [HI.out]) (by rw [HI.out]; rfl), below_row HW.out (Nat.le_refl _) _⟩
      · go_enter Tryd.func32, Tryd.ntmps32
        go_wp2_with (refine storeA rfl _ _ rfl w.heap.size _ _ rfl rfl HZ.out ?_)
        refine bodyPost_ret (boxA_results2 (p := 4) (u := 5) (S := 0#256) (v := .int .i64 0) rfl _ (g := w.heap.size) rfl rfl (HZ.out.rowSame 0#256)) rfl ?_
        exact ⟨ret_s (by rw [HI.out]) (by rw [HI.out]; rfl), below_row HW.out (Nat.le_refl _) _⟩
      · go_enter Tryd.func32, Tryd.ntmps32
        go_wp2_with (refine storeA rfl _ _ rfl w.heap.size _ _ rfl rfl HZ.out ?_)
        refine bodyPost_ret (boxA_results2 (p := 4) (u := 5) (S := 0#256) (v := .int .i64 0) rfl _ (g := w.heap.size) rfl rfl (HZ.out.rowSame 0#256)) rfl ?_
        exact ⟨ret_s (by rw [HI.out]) (by rw [HI.out]; rfl), below_row HW.out (Nat.le_refl _) _⟩
    · have e1 : ((c : Int) == 91) = false := by simp; omega
      have e2 : ((c : Int) == 93) = false := by simp; omega
      have e3 : ((c : Int) == 45) = false := by simp; omega
      by_cases h92 : c = 92
      · have e4 : ((c : Int) == 92) = true := by simp; omega
        have HI := Lib.hid (item_esc hs (hb.trans h92))
        have HE := Lib.hid (fun w => esc_any p i w hp hs)
        clear hb hn h92
        go_enter Tryd.func32, Tryd.ntmps32
        go_wp2_with fail
        with_reducible refine (HE.out _).mono ?_
        rintro e w1 ⟨rfl, hb1⟩
        have HZ1 := HZ.out.below hb1 HZ.out.lt
        have HW1 := thenB HW.out hb1 HW.out.size
        clear hb1
        go_wp2_with (refine storeA rfl _ _ rfl w.heap.size _ _ rfl rfl HZ1 ?_)
        refine bodyPost_ret (boxA_results2 (p := 4) (u := 5) (S := (escZ p i).1) (v := .int .i64 ((escZ p i).2 : Nat)) rfl _ (g := w.heap.size) rfl rfl (HZ1.rowSame _)) rfl ?_
        exact ⟨ret_s (by rw [HI.out]) (by rw [HI.out]), below_row HW1 (Nat.le_refl _) _⟩
      · have e4 : ((c : Int) == 92) = false := by simp; omega
        have HI := Lib.hid (item_one hs hb (by omega) (by omega) (by omega) h92)
        have HE := Lib.hid (fun w => rone_any c w hcl)
        clear hb hn h92
        go_enter Tryd.func32, Tryd.ntmps32
        go_wp2_with fail
        with_reducible refine (HE.out _).mono ?_
        rintro e w1 ⟨rfl, hb1⟩
        have HZ1 := HZ.out.below hb1 HZ.out.lt
        have HW1 := thenB HW.out hb1 HW.out.size
        clear hb1
        go_wp2_with (refine storeA rfl _ _ rfl w.heap.size _ _ rfl rfl HZ1 ?_)
        refine bodyPost_ret (boxA_results2 (p := 4) (u := 5) (S := oneS c) (v := .int .i64 ((i : Int) + 1)) rfl _ (g := w.heap.size) rfl rfl (HZ1.rowSame _)) rfl ?_
        exact ⟨ret_s (by rw [HI.out]) (by rw [HI.out]; show (i : Int) + 1 = ((i + 1 : Nat) : Int); omega), below_row HW1 (Nat.le_refl _) _⟩
  · have l1 : (i : Int) ≥ (p.size : Int) := by omega
    have HI := Lib.hid (item_none (p := p) (i := i) (by omega))
    go_enter Tryd.func32, Tryd.ntmps32
    go_wp2_with (refine storeA rfl _ _ rfl w.heap.size _ _ rfl rfl HZ.out ?_)
    refine bodyPost_ret (boxA_results2 (p := 4) (u := 5) (S := 0#256) (v := .int .i64 0) rfl _ (g := w.heap.size) rfl rfl (HZ.out.rowSame 0#256)) rfl ?_
    exact ⟨ret_s (by rw [HI.out]) (by rw [HI.out]; rfl), below_row HW.out (Nat.le_refl _) _⟩
end Go.Proofs.YtlcecblehffjiaaDoor

namespace Go.Proofs.YtlcecblehffjiaaDoor
open Go.RowKit

theorem start1 (p : ByteArray) (k : Nat) (c : UInt8) (hk : k ≤ p.size) : startB p k ⟨#[c]⟩ = (bt p k == c.toNat) := by
  rw [start_head _ _ _ hk]
  simp [headB]
theorem starts1_any (p : ByteArray) (k : Nat) (c : UInt8) (w : World) (hp : p.size ≤ 1000000) (hk : k ≤ p.size) : Calls Tryd.prog 31 #[.string p, .int .i64 (k : Int), .string ⟨#[c]⟩] w fun e w' => e = .returned (.bool (bt p k == c.toNat)) ∧ w = w' := by
  rw [← start1 p k c hk]
  exact starts_any p ⟨#[c]⟩ k w hp (by omega) (by show (1 : Nat) ≤ 1000; decide)
theorem resZ3 {fn : Func} {p u u2 : Tmp} (h : fn.results = #[.cell p 34, .tmp u, .tmp u2]) (tmps : Array Value) {w : World} {g : Nat} {a b c d : Int} {v v2 : Value} (hp : tmps.getD p undef = .pointer (some ⟨g, 0, none⟩)) (hv : tmps.getD u undef = v) (hv2 : tmps.getD u2 undef = v2) (hg : BoxZ w g a b c d) :
    (results fn tmps).run Tryd.prog w = .ok (.tuple #[.agg #[.int .u64 a, .int .u64 b, .int .u64 c, .int .u64 d], v, v2]) w := by
  have hp' : tmps[p]?.getD undef = .pointer (some ⟨g, 0, none⟩) := by simpa using hp
  have hv' : tmps[u]?.getD undef = v := by simpa using hv
  have hv2' : tmps[u2]?.getD undef = v2 := by simpa using hv2
  have hl := run_loadVar_row w g 34 34 _ (0, 0) _ hg Tryd.underlying34 rfl sizeArr
  simp [results, h, hp', hv', hv2', asAddr, hl]
section
variable {ops : Array Oper} {rest : List Oper} {o : Oper} {a : Act} {w : World} {Q : Exit → Act → World → Prop} {x y z u : Int}
theorem loadZ (hgd : o.guard = none) (p : Operand) (ho : o.op = .load 34 p) (g : Nat) (hx : a.eval p = .pointer (some ⟨g, 0, none⟩)) (hg : BoxZ w g x y z u)
    (h : wpList Tryd.prog ops Q rest (a.put o.dst (.agg #[.int .u64 x, .int .u64 y, .int .u64 z, .int .u64 u])) w) : wpList Tryd.prog ops Q (o :: rest) a w :=
  wpList_load_row hgd 34 p ho g hx _ _ _ _ hg Tryd.underlying34 rfl sizeArr h
theorem storeZ (hgd : o.guard = none) (p q : Operand) (ho : o.op = .store 34 p q) (g : Nat) (x' y' z' u' : Int) (hx : a.eval p = .pointer (some ⟨g, 0, none⟩)) (hy : a.eval q = .agg #[.int .u64 x', .int .u64 y', .int .u64 z', .int .u64 u']) (hg : BoxZ w g x y z u)
    (h : wpList Tryd.prog ops Q rest (a.put o.dst undef) (w.setRow g #[.int .u64 x', .int .u64 y', .int .u64 z', .int .u64 u'])) : wpList Tryd.prog ops Q (o :: rest) a w :=
  wpList_store_row hgd 34 p q ho g _ hx hy _ _ hg sizeArr rfl (by simp [Value.oneCell']) h
/-- An operation whose guard is so, as if it had none. -/
theorem unguard (hw : Region.wanted o (yielded ops a.tmps) = true) (h : wpList Tryd.prog ops Q (⟨o.dst, o.op, o.type, o.pos, o.after, none⟩ :: rest) a w) : wpList Tryd.prog ops Q (o :: rest) a w := by
  unfold wpList at h ⊢
  rw [if_pos hw]
  rw [if_pos (show Region.wanted ⟨o.dst, o.op, o.type, o.pos, o.after, none⟩ (yielded ops a.tmps) = true from rfl)] at h
  exact h
theorem loadAg (hw : Region.wanted o (yielded ops a.tmps) = true) (x : Operand) (ho : o.op = .load 68 x) (g : Nat) (S : BitVec 256) (hx : a.eval x = .pointer (some ⟨g, 0, none⟩)) (hg : BoxA w g S)
    (h : wpList Tryd.prog ops Q rest (a.put o.dst (.agg (bitsA S))) w) : wpList Tryd.prog ops Q (o :: rest) a w := unguard hw (loadA rfl x ho g S hx hg h)
end
theorem BoxZ.lt {w : World} {g : Nat} {a b c d : Int} (h : BoxZ w g a b c d) : g < w.heap.size := lt_of_block h
theorem BoxZ.below {w w' : World} {g B : Nat} {a b c d : Int} (h : BoxZ w g a b c d) (hb : Below B w w') (hg : g < B) : BoxZ w' g a b c d := (hb.block g hg).trans h
theorem BoxZ.rowSame {w : World} {g : Nat} {a b c d : Int} (h : BoxZ w g a b c d) (a' b' c' d' : Int) : BoxZ (w.setRow g #[.int .u64 a', .int .u64 b', .int .u64 c', .int .u64 d']) g a' b' c' d' := setRow_heap w g _ _ _ _ h
theorem BoxZ.row {w : World} {g k : Nat} {a b c d : Int} (h : BoxZ w g a b c d) (cs : Array Value) (hk : g ≠ k) : BoxZ (w.setRow k cs) g a b c d := (setRow_other w k g cs hk).trans h
/-- What the call's own boxes hold: the answer's words, those of no set, and the set so far. -/
structure RC (w wr : World) (S : BitVec 256) : Prop where
  z4 : BoxZ wr w.heap.size 0 0 0 0
  z7 : BoxZ wr (w.heap.size + 1) 0 0 0 0
  s : BoxA wr (w.heap.size + 1 + 1) S
  b : Below w.heap.size w wr
theorem RC.call {w wr u : World} {S : BitVec 256} (h : RC w wr S) (hb : Below wr.heap.size wr u) : RC w u S := ⟨h.z4.below hb h.z4.lt, h.z7.below hb h.z7.lt, h.s.below hb h.s.lt, thenB h.b hb h.b.size⟩
theorem RC.set {w wr : World} {S : BitVec 256} (h : RC w wr S) (T : BitVec 256) : RC w (wr.setRow (w.heap.size + 1 + 1) (bitsA T)) T := ⟨h.z4.row _ (by omega), h.z7.row _ (by omega), h.s.rowSame T, below_row h.b (by omega) _⟩
theorem RC.row {w wr : World} {S : BitVec 256} (h : RC w wr S) {g : Nat} (cs : Array Value) (h1 : w.heap.size + 1 + 1 < g) : RC w (wr.setRow g cs) S := ⟨h.z4.row _ (by omega), h.z7.row _ (by omega), h.s.row _ (by omega), below_row h.b (by omega) _⟩
/-- A set's least byte, as Min tells it. -/
theorem min_form (S : BitVec 256) : ∃ (a : Nat) (f : Bool), minV S = .tuple #[.int .u8 (a : Int), .bool f] ∧ a < 256 ∧ (lenS S = 1 → a = minS S) := by
  unfold minV
  by_cases h : S = 0#256
  · rw [if_pos h]
    refine ⟨0, false, rfl, by decide, fun h1 => ?_⟩
    subst h
    exact absurd h1 (by decide +kernel)
  · rw [if_neg h]
    exact ⟨minS S, true, rfl, minS_lt S, fun _ => rfl⟩
end Go.Proofs.YtlcecblehffjiaaDoor
