import Derived.Test.YteggpecbeagohaaGreatDoorAstBM
import Derived.Test.YteggpecbeagohaaGreatDoorAstAM
import Derived.Deep.QuietTactic
import Derived.BigQuiet
import Derived.Deep.OwnRows
import Derived.LoopN
import Derived.IntWalk
namespace Go.Proofs.YteggpecbeagohaaGreatDoor.Ast
open Go.RowKit
theorem infoI : (Tryz.prog.info? 3).map (fun i => (i.zero, i.size, i.bytes)) = some (some (.int .i64 0), 1, 8) := by kernel_rfl
def begV (l : Nat → Nd) (k : Nat) (j : Nat) : Value := .int .i64 ((if j < k then beg l j else 0 : Nat) : Int)
def BegPost (l : Nat → Nd) (n : Nat) (w : World) (e : Ending) (w' : World) : Prop :=
 Below w.heap.size w w' ∧ ((goodB l n = true ∧ e = .returned (.tuple #[.slice (some ⟨w.heap.size, 0, none⟩) n n, .bool true]) ∧ w'.rowIs w.heap.size 3 n (begV l n)) ∨ (goodB l n = false ∧ ∃ v, e = .returned (.tuple #[v, .bool false])))
theorem BegPost.no {l : Nat → Nd} {n : Nat} {w w' : World} (v : Value) (hb : Below w.heap.size w w') (h : goodB l n = false) : BegPost l n w (.returned (.tuple #[v, .bool false])) w' := ⟨hb, .inr ⟨h, v, rfl⟩⟩
theorem children_b (k r : Int) (w : World) (h : kidsZ k = r) : Calls Tryz.prog 85 #[.int .i64 k] w fun e w' => e = .returned (.int .i64 r) ∧ Below w.heap.size w w' := by
 subst h
 exact (children_any k w).mono fun _ _ h => ⟨h.1, h.2 ▸ Below.refl _ _⟩
theorem row_call {w w' : World} {g : Nat} {t : TypeId} {n : Nat} {f : Nat → Value} (h : w.rowIs g t n f) (hb : Below w.heap.size w w') : w'.rowIs g t n f := h.of_block (hb.block g h.lt)
def eqN (x y : Nd) : Bool := decide (x = y)
@[go_sem 10000] theorem neqNode12 (k a b s0 s1 s2 s3 mn mx md n k' a' b' s0' s1' s2' s3' mn' mx' md' n' : Int) (f f' : Bool) (w : World) :
  (binOp .neq 76 (.agg #[.int .i64 k, .int .i64 a, .int .i64 b, .int .u64 s0, .int .u64 s1, .int .u64 s2, .int .u64 s3, .int .i64 mn, .int .i64 mx, .int .i64 md, .int .i64 n, .bool f]) (.agg #[.int .i64 k', .int .i64 a', .int .i64 b', .int .u64 s0', .int .u64 s1', .int .u64 s2', .int .u64 s3', .int .i64 mn', .int .i64 mx', .int .i64 md', .int .i64 n', .bool f'])).run Tryz.prog w =
   .ok (.bool (!eqN ⟨k, a, b, s0, s1, s2, s3, mn, mx, md, n, f⟩ ⟨k', a', b', s0', s1', s2', s3', mn', mx', md', n', f'⟩)) w := neqNode ⟨k, a, b, s0, s1, s2, s3, mn, mx, md, n, f⟩ ⟨k', a', b', s0', s1', s2', s3', mn', mx', md', n', f'⟩ w
theorem Box12.new' (u : World) (T : TypeId) (g : Nat) (hg : g = u.heap.size) (k a b s0 s1 s2 s3 mn mx md n : Int) (f : Bool) : Box12 (u.alloc (.cells #[.int .i64 k, .int .i64 a, .int .i64 b, .int .u64 s0, .int .u64 s1, .int .u64 s2, .int .u64 s3, .int .i64 mn, .int .i64 mx, .int .i64 md, .int .i64 n, .bool f] T)) T g k a b s0 s1 s2 s3 mn mx md n f := by subst hg; exact heap_alloc_new _ _
theorem Box12.other {u : World} {T : TypeId} {g : Nat} {k a b s0 s1 s2 s3 mn mx md n : Int} {f : Bool} (h : Box12 u T g k a b s0 s1 s2 s3 mn mx md n f) {c : Nat} (hc : g ≠ c) (j : Nat) (v : Value) : Box12 (u.setCell ⟨c, j, none⟩ v) T g k a b s0 s1 s2 s3 mn mx md n f := (heap_setCell_other _ ⟨c, j, none⟩ g v hc).trans h
theorem bare_ab (x : Nd) : (bareN x).a = 0 ∧ (bareN x).b = 0 := by unfold bareN; (repeat' split) <;> exact ⟨rfl, rfl⟩
theorem pos_next {l : Nat → Nd} {k : Nat} (h : ∀ j, j < k → siz l (j + 1) ≠ 0) (h2 : siz l (k + 1) ≠ 0) : ∀ j, j < k + 1 → siz l (j + 1) ≠ 0 := fun j hj => by
 by_cases e : j = k
 ·subst e; exact h2
 ·exact h j (by omega)
theorem pos_at {l : Nat → Nd} {k : Nat} (h : ∀ j, j < k → siz l (j + 1) ≠ 0) (h0 : k ≠ 0) : siz l k ≠ 0 := by
 have := h (k - 1) (by omega)
 rwa [show k - 1 + 1 = k by omega] at this
theorem beg_next {l : Nat → Nd} {k n v : Nat} (hv : beg l k = v) : ∀ i, i < n → (if i = k then Value.int .i64 (v : Int) else begV l k i) = begV l (k + 1) i := by
 intro i _
 unfold begV
 by_cases e : i = k
 ·subst e
  rw [if_pos rfl, if_pos (by omega), hv]
 ·rw [if_neg e]
  by_cases h : i < k
  ·rw [if_pos h, if_pos (by omega)]
  ·rw [if_neg h, if_neg (by omega)]
theorem beg_next0 {l : Nat → Nd} {k n : Nat} (hk : kidsZ (l k).k = 0) (h : siz l (k + 1) ≠ 0) : ∀ i, i < n → (if i = k then Value.int .i64 (k : Int) else begV l k i) = begV l (k + 1) i := by
 refine beg_next ?_
 obtain ⟨-, h | h | h⟩ := siz_pos h
 ·unfold beg; omega
 ·omega
 ·omega
theorem beg_next1 {l : Nat → Nd} {k n : Nat} (hk : kidsZ (l k).k = 1) (h : siz l (k + 1) ≠ 0) : ∀ i, i < n → (if i = k then Value.int .i64 (beg l (k - 1) : Nat) else if i = k then Value.int .i64 (k : Int) else begV l k i) = begV l (k + 1) i := by
 intro i hi
 have hb : beg l k = beg l (k - 1) := by
  obtain ⟨-, h | h | h⟩ := siz_pos h
  ·omega
  ·have := siz_le l k
   have h0 : k ≠ 0 := by rintro rfl; exact h.2.1 rfl
   unfold beg
   rw [show k - 1 + 1 = k by omega]
   omega
  ·omega
 rw [← beg_next (n := n) hb i hi]
 by_cases e : i = k <;> simp [e]
theorem beg_two {l : Nat → Nd} {k p : Nat} (hp : p = k - siz l k) (hk : kidsZ (l k).k = 2) (h : siz l (k + 1) ≠ 0) : beg l k = beg l (p - 1) := by
 obtain ⟨-, h | h | h⟩ := siz_pos h
 ·omega
 ·omega
 ·have h1 := h.2.2.1
  rw [← hp] at h1
  have h2 := siz_le l p
  have h3 := siz_le l k
  have h4 := h.2.2.2.2.2
  rw [← hp] at h4
  have hp0 : p ≠ 0 := by rintro rfl; exact h1 rfl
  unfold beg
  rw [show p - 1 + 1 = p by omega]
  omega
theorem Box12.set1 {u : World} {T : TypeId} {g : Nat} {k a b s0 s1 s2 s3 mn mx md n : Int} {f : Bool} (h : Box12 u T g k a b s0 s1 s2 s3 mn mx md n f) (a' : Int) : Box12 (u.setCell ⟨g, 1, none⟩ (.int .i64 a')) T g k a' b s0 s1 s2 s3 mn mx md n f := by
 unfold Box12 at h ⊢
 rw [heap_setCell_same u g 1 _ _ _ h]
 rfl
theorem Box12.set2 {u : World} {T : TypeId} {g : Nat} {k a b s0 s1 s2 s3 mn mx md n : Int} {f : Bool} (h : Box12 u T g k a b s0 s1 s2 s3 mn mx md n f) (b' : Int) : Box12 (u.setCell ⟨g, 2, none⟩ (.int .i64 b')) T g k a b' s0 s1 s2 s3 mn mx md n f := by
 unfold Box12 at h ⊢
 rw [heap_setCell_same u g 2 _ _ _ h]
 rfl
set_option maxHeartbeats 4000000 in
theorem begins_any (A : Option Addr) (n cap : Nat) (l : Nat → Nd) (w : World) (hn : n ≤ 1000000) (hl : Nodes w A n l) :
  Calls Tryz.prog 84 #[.slice A n cap] w (BegPost l n w) := by
 have HL := Lib.hid hl
 clear hl
 have hmk := run_make_row' (P := Tryz.prog) 77 3 (.int .i64 0) 8 Tryz.underlying77 infoI rfl .i64 .i64 n (by omega) (by omega)
 go_enter Tryz.func84, Tryz.ntmps84
 go_wp2_with fail
 clear hmk
 go_loopw [14] (fun i wr => ∃ k : Nat, k ≤ n ∧ i = .int .i64 k ∧ (∀ j, j < k → siz l (j + 1) ≠ 0) ∧ wr.rowIs w.heap.size 3 n (begV l k) ∧ Below w.heap.size w wr) (fun i _ => n - (intOf i).toNat)
 case atStart => exact ⟨0, Nat.zero_le _, rfl, fun j hj => by omega, (World.rowIs_made w (.int .i64 0) n 3).congr fun i hi => rfl, by go_grown⟩
 case round =>
  obtain ⟨k, hk, rfl, hpos, hrow, hb⟩ := hrel
  have HP := Lib.hid hpos
  have HR := Lib.hid hrow
  have HB := Lib.hid hb
  clear hpos hrow hb
  by_cases hlt : k < n
  ·obtain ⟨b, o, rfl, hN⟩ := (HL.out.below HB.out (Nat.le_refl _)).at_ (by omega)
   obtain ⟨c0, c1, c2, c3, c4, c5, c6, c7, c8, c9, c10, c11⟩ := hN.2 k hlt
   have hbw := hN.1
   clear hN
   go_wp2_with fail
   refine (bare_any (l k) _).mono ?_
   rintro e w1 ⟨rfl, hb⟩
   have X1 := Lib.hid ((Box12.new wr 76 _ _ _ _ _ _ _ _ _ _ _ _).call hb)
   have R1 := Lib.hid (row_call (HR.out.alloc _) hb)
   have B1 := Lib.hid (thenB (HB.out.alloc HB.out.size _) hb (Nat.le_trans HB.out.size (by simp)))
   clear hb c0 c1 c2 c3 c4 c5 c6 c7 c8 c9 c10 c11 hbw
   have l1 : wr.heap.size < w1.heap.size := X1.out.lt
   have l2 : w.heap.size < wr.heap.size := HR.out.lt
   have l3 : w.heap.size < w1.heap.size := by omega
   have f1 := R1.out.frozen k
   have r1 := R1.out.cell hlt
   have x1 := X1.out.cells.1
   go_wp2_with fail
   rcases kids_cases (l k).k with hk0 | hk1 | hk2
   ·refine (children_b _ _ _ hk0).mono ?_
    rintro e w2 ⟨rfl, hb⟩
    have R2 := Lib.hid (row_call ((R1.out.set k (.int .i64 (k : Int))).alloc _) hb)
    have X2 := Lib.hid (((X1.out.other (c := w.heap.size) (by omega) k (.int .i64 (k : Int))).alloc _).call hb)
    have W2 := Lib.hid ((Box12.new' (w1.setCell ⟨w.heap.size, k, none⟩ (.int .i64 (k : Int))) 76 w1.heap.size (by simp) _ _ _ _ _ _ _ _ _ _ _ _).call hb)
    have B2 := Lib.hid (thenB ((B1.out.setCell (p := ⟨w.heap.size, k, none⟩) (Nat.le_refl _) (.int .i64 (k : Int))).alloc (by simp; omega) _) hb (by simp; omega))
    clear hb x1 f1 r1
    obtain ⟨c0, c1, c2, c3, c4, c5, c6, c7, c8, c9, c10, c11⟩ := X2.out.cells
    obtain ⟨d0, d1, d2, d3, d4, d5, d6, d7, d8, d9, d10, d11⟩ := W2.out.cells
    rw [(bare_ab _).1] at d1
    rw [(bare_ab _).2] at d2
    clear l1 l2 l3
    by_cases hs : siz l (k + 1) = 0
    ·have NO := Lib.hid (goodB_no hlt hs)
     cases he : eqN (l k) (wantN (l k) (0) (0)) with
     | false =>
       have q := he
       unfold wantN at q
       clear he hs
       go_wp2_with fail
       refine wp_loop_rounds 1 ?_
       rw [rounds_succ]
       go_wp2_with fail
       go_ret2
       exact BegPost.no _ (B2.out) NO.out
     | true =>
       have hm : mayB (l k) = false := by
        cases hm : mayB (l k) with
        | false => rfl
        | true => exact absurd hs ((siz_iff0 hk0).2 ⟨by unfold eqN at he; exact of_decide_eq_true he, hm⟩)
       have HM := Lib.hid hm
       have q := he
       unfold wantN at q
       clear he hs hm
       go_wp2_with fail
       refine wp_loop_rounds 1 ?_
       rw [rounds_succ]
       go_wp2_with fail
       refine (may_any (l k) _).mono ?_
       rintro e w3 ⟨rfl, hb⟩
       have B3 := Lib.hid (thenB (B2.out) hb (B2.out.size))
       clear hb
       rw [HM.out]
       go_wp2_with fail
       go_ret2
       exact BegPost.no _ B3.out NO.out
    ·obtain ⟨he, hm⟩ := (siz_iff0 hk0).1 hs
     have q : eqN (l k) (wantN (l k) (0) (0)) = true := by unfold eqN; exact decide_eq_true he
     unfold wantN at q
     have HM := Lib.hid hm
     have HZ := Lib.hid hs
     clear he hm hs
     go_wp2_with fail
     refine wp_loop_rounds 1 ?_
     rw [rounds_succ]
     go_wp2_with fail
     refine (may_any (l k) _).mono ?_
     rintro e w3 ⟨rfl, hb⟩
     have B3 := Lib.hid (thenB (B2.out) hb (B2.out.size))
     have R3 := Lib.hid (row_call (R2.out) hb)
     clear hb
     rw [HM.out]
     go_wp2_with fail
     go_roundw
     case rel => exact ⟨k + 1, by omega, by go_num, pos_next HP.out HZ.out, R3.out.congr (beg_next0 hk0 HZ.out), B3.out⟩
     case measure => simp [intOf]; omega
   ·refine (children_b _ _ _ hk1).mono ?_
    rintro e w2 ⟨rfl, hb⟩
    have R2 := Lib.hid (row_call ((R1.out.set k (.int .i64 (k : Int))).alloc _) hb)
    have X2 := Lib.hid (((X1.out.other (c := w.heap.size) (by omega) k (.int .i64 (k : Int))).alloc _).call hb)
    have W2 := Lib.hid ((Box12.new' (w1.setCell ⟨w.heap.size, k, none⟩ (.int .i64 (k : Int))) 76 w1.heap.size (by simp) _ _ _ _ _ _ _ _ _ _ _ _).call hb)
    have B2 := Lib.hid (thenB ((B1.out.setCell (p := ⟨w.heap.size, k, none⟩) (Nat.le_refl _) (.int .i64 (k : Int))).alloc (by simp; omega) _) hb (by simp; omega))
    clear hb x1 f1 r1
    obtain ⟨c0, c1, c2, c3, c4, c5, c6, c7, c8, c9, c10, c11⟩ := X2.out.cells
    obtain ⟨d0, d1, d2, d3, d4, d5, d6, d7, d8, d9, d10, d11⟩ := W2.out.cells
    rw [(bare_ab _).1] at d1
    rw [(bare_ab _).2] at d2
    have fr := R2.out.frozen
    have fw := W2.out.free
    have rk : w2.cell? ⟨w.heap.size, k, none⟩ = some (.int .i64 (k : Int)) := by rw [R2.out.cell hlt, if_pos rfl]
    have g1 : w.heap.size ≤ w1.heap.size := by omega
    have g2 : w.heap.size ≠ w1.heap.size := by omega
    by_cases hk0 : k = 0
    ·subst hk0
     have NO := Lib.hid (goodB_no hlt (siz_no1 (by rw [hk1]; decide) rfl))
     go_wp2_with fail
     refine wp_loop_rounds 1 ?_
     rw [rounds_succ]
     go_wp2_with fail
     go_ret2
     exact BegPost.no _ B2.out NO.out
    ·have h0 : siz l k ≠ 0 := pos_at HP.out hk0
     have rk1 : w2.cell? ⟨w.heap.size, k - 1, none⟩ = some (.int .i64 (beg l (k - 1) : Nat)) := by
      rw [R2.out.cell (by omega), if_neg (by omega)]
      unfold begV
      rw [if_pos (by omega)]
     have q0 : ((k : Int) == 0) = false := by simp; omega
     have k1 : (1 : Int) ≤ (k : Int) := by omega
     have ke : ¬ k - 1 = k := by omega
     by_cases hs : siz l (k + 1) = 0
     ·have NO := Lib.hid (goodB_no hlt hs)
      cases he : eqN (l k) (wantN (l k) ((k : Int) - 1) (0)) with
      | false =>
        have q := he
        unfold wantN at q
        clear he hs
        go_wp2_with fail
        refine wp_loop_rounds 2 ?_
        rw [rounds_succ]
        go_wp2_with fail
        rw [rounds_succ]
        go_wp2_with fail
        go_ret2
        exact BegPost.no _ (((B2.out.setCell (p := ⟨w1.heap.size, 1, none⟩) g1 _).setCell (p := ⟨w1.heap.size, 2, none⟩) g1 _).setCell (p := ⟨w.heap.size, k, none⟩) (Nat.le_refl _) _) NO.out
      | true =>
        have hm : mayB (l k) = false := by
         cases hm : mayB (l k) with
         | false => rfl
         | true => exact absurd hs ((siz_iff1 hk1 h0).2 ⟨by unfold eqN at he; exact of_decide_eq_true he, hm⟩)
        have HM := Lib.hid hm
        have q := he
        unfold wantN at q
        clear he hs hm
        go_wp2_with fail
        refine wp_loop_rounds 2 ?_
        rw [rounds_succ]
        go_wp2_with fail
        rw [rounds_succ]
        go_wp2_with fail
        refine (may_any (l k) _).mono ?_
        rintro e w3 ⟨rfl, hb⟩
        have B3 := Lib.hid (thenB (((B2.out.setCell (p := ⟨w1.heap.size, 1, none⟩) g1 _).setCell (p := ⟨w1.heap.size, 2, none⟩) g1 _).setCell (p := ⟨w.heap.size, k, none⟩) (Nat.le_refl _) _) hb (by simp; exact B2.out.size))
        clear hb
        rw [HM.out]
        go_wp2_with fail
        go_ret2
        exact BegPost.no _ B3.out NO.out
     ·obtain ⟨he, hm⟩ := (siz_iff1 hk1 h0).1 hs
      have q : eqN (l k) (wantN (l k) ((k : Int) - 1) (0)) = true := by unfold eqN; exact decide_eq_true he
      unfold wantN at q
      have HM := Lib.hid hm
      have HZ := Lib.hid hs
      clear he hm hs
      go_wp2_with fail
      refine wp_loop_rounds 2 ?_
      rw [rounds_succ]
      go_wp2_with fail
      rw [rounds_succ]
      go_wp2_with fail
      refine (may_any (l k) _).mono ?_
      rintro e w3 ⟨rfl, hb⟩
      have B3 := Lib.hid (thenB (((B2.out.setCell (p := ⟨w1.heap.size, 1, none⟩) g1 _).setCell (p := ⟨w1.heap.size, 2, none⟩) g1 _).setCell (p := ⟨w.heap.size, k, none⟩) (Nat.le_refl _) _) hb (by simp; exact B2.out.size))
      have R3 := Lib.hid (row_call (((R2.out.setOther (a := ⟨w1.heap.size, 1, none⟩) g2 _).setOther (a := ⟨w1.heap.size, 2, none⟩) g2 _).set k _) hb)
      clear hb
      rw [HM.out]
      go_wp2_with fail
      go_roundw
      case rel => exact ⟨k + 1, by omega, by go_num, pos_next HP.out HZ.out, R3.out.congr (beg_next1 hk1 HZ.out), B3.out⟩
      case measure => simp [intOf]; omega
   ·refine (children_b _ _ _ hk2).mono ?_
    rintro e w2 ⟨rfl, hb⟩
    have R2 := Lib.hid (row_call ((R1.out.set k (.int .i64 (k : Int))).alloc _) hb)
    have X2 := Lib.hid (((X1.out.other (c := w.heap.size) (by omega) k (.int .i64 (k : Int))).alloc _).call hb)
    have W2 := Lib.hid ((Box12.new' (w1.setCell ⟨w.heap.size, k, none⟩ (.int .i64 (k : Int))) 76 w1.heap.size (by simp) _ _ _ _ _ _ _ _ _ _ _ _).call hb)
    have B2 := Lib.hid (thenB ((B1.out.setCell (p := ⟨w.heap.size, k, none⟩) (Nat.le_refl _) (.int .i64 (k : Int))).alloc (by simp; omega) _) hb (by simp; omega))
    clear hb x1 f1 r1
    obtain ⟨c0, c1, c2, c3, c4, c5, c6, c7, c8, c9, c10, c11⟩ := X2.out.cells
    obtain ⟨d0, d1, d2, d3, d4, d5, d6, d7, d8, d9, d10, d11⟩ := W2.out.cells
    rw [(bare_ab _).1] at d1
    rw [(bare_ab _).2] at d2
    have fr := R2.out.frozen
    have fw := W2.out.free
    have rk : w2.cell? ⟨w.heap.size, k, none⟩ = some (.int .i64 (k : Int)) := by rw [R2.out.cell hlt, if_pos rfl]
    have g1 : w.heap.size ≤ w1.heap.size := by omega
    have g2 : w.heap.size ≠ w1.heap.size := by omega
    have g3 : wr.heap.size ≠ w1.heap.size := by omega
    have g4 : wr.heap.size ≠ w.heap.size := by omega
    by_cases hk0 : k = 0
    ·subst hk0
     have NO := Lib.hid (goodB_no hlt (siz_no1 (by rw [hk2]; decide) rfl))
     go_wp2_with fail
     refine wp_loop_rounds 1 ?_
     rw [rounds_succ]
     go_wp2_with fail
     go_ret2
     exact BegPost.no _ (by exact B2.out) NO.out
    ·have h0 : siz l k ≠ 0 := pos_at HP.out hk0
     have q0 : ((k : Int) == 0) = false := by simp; omega
     have k1 : (1 : Int) ≤ (k : Int) := by omega
     have ke : ¬ k - 1 = k := by omega
     obtain ⟨p, hp⟩ : ∃ p, p = beg l (k - 1) := ⟨_, rfl⟩
     have hps : p = k - siz l k := by rw [hp]; unfold beg; rw [show k - 1 + 1 = k by omega]
     have rk1 : w2.cell? ⟨w.heap.size, k - 1, none⟩ = some (.int .i64 (p : Int)) := by
      rw [R2.out.cell (by omega), if_neg (by omega), hp]
      unfold begV
      rw [if_pos (by omega)]
     have pk : p ≤ k := by omega
     obtain ⟨V, hV⟩ : ∃ V, V = ((w2.setCell ⟨w1.heap.size, 1, none⟩ (.int .i64 ((k : Int) - 1))).setCell ⟨w1.heap.size, 2, none⟩ (.int .i64 0)).setCell ⟨w.heap.size, k, none⟩ (.int .i64 (p : Int)) := ⟨_, rfl⟩
     have R3 := Lib.hid (show V.rowIs w.heap.size 3 n (fun j => if j = k then .int .i64 (p : Int) else begV l k j) by
      rw [hV]
      exact (((R2.out.setOther (a := ⟨w1.heap.size, 1, none⟩) g2 _).setOther (a := ⟨w1.heap.size, 2, none⟩) g2 _).set k _).congr (fun i _ => by by_cases e : i = k <;> simp [e]))
     have X3 := Lib.hid (show Box12 V 76 wr.heap.size (l k).k (l k).a (l k).b (l k).s0 (l k).s1 (l k).s2 (l k).s3 (l k).mn (l k).mx (l k).md (l k).n (l k).f by
      rw [hV]
      exact ((X2.out.other g3 1 _).other g3 2 _).other g4 k _)
     have W3 := Lib.hid (show Box12 V 76 w1.heap.size (bareN (l k)).k ((k : Int) - 1) 0 (bareN (l k)).s0 (bareN (l k)).s1 (bareN (l k)).s2 (bareN (l k)).s3 (bareN (l k)).mn (bareN (l k)).mx (bareN (l k)).md (bareN (l k)).n (bareN (l k)).f by
      rw [hV]
      exact ((W2.out.set1 _).set2 _).other (Ne.symm g2) k _)
     have B3 := Lib.hid (show Below w.heap.size w V by rw [hV]; exact ((B2.out.setCell (p := ⟨w1.heap.size, 1, none⟩) g1 _).setCell (p := ⟨w1.heap.size, 2, none⟩) g1 _).setCell (p := ⟨w.heap.size, k, none⟩) (Nat.le_refl _) _)
     have HV := Lib.hid hV
     have HPS := Lib.hid hps
     clear hV hp hps
     go_wp2_with fail
     refine wp_loop_rounds 3 ?_
     rw [rounds_succ]
     go_wp2_with fail
     rw [rounds_succ, ← HV.out]
     clear c0 c1 c2 c3 c4 c5 c6 c7 c8 c9 c10 c11 d0 d1 d2 d3 d4 d5 d6 d7 d8 d9 d10 d11 rk rk1 fr fw R2 X2 W2 B2 HV
     obtain ⟨c0, c1, c2, c3, c4, c5, c6, c7, c8, c9, c10, c11⟩ := X3.out.cells
     obtain ⟨d0, d1, d2, d3, d4, d5, d6, d7, d8, d9, d10, d11⟩ := W3.out.cells
     have fr := R3.out.frozen
     have fw := W3.out.free
     have rk : V.cell? ⟨w.heap.size, k, none⟩ = some (.int .i64 (p : Int)) := by rw [R3.out.cell hlt, if_pos rfl]
     by_cases hp0 : p = 0
     ·subst hp0
      have NO := Lib.hid (goodB_no hlt (siz_no2 hk2 (by rw [← HPS.out]; rfl)))
      go_wp2_with fail
      go_ret2
      exact BegPost.no _ B3.out NO.out
     ·have h1 : siz l (k - siz l k) ≠ 0 := by rw [← HPS.out]; exact pos_at (fun j hj => HP.out j (by omega)) hp0
      have rk2 : V.cell? ⟨w.heap.size, p - 1, none⟩ = some (.int .i64 (beg l (p - 1) : Nat)) := by
       rw [R3.out.cell (by omega), if_neg (by omega)]
       unfold begV
       rw [if_pos (by omega)]
      have q1 : ((p : Int) == 0) = false := by simp; omega
      have p1 : (1 : Int) ≤ (p : Int) := by omega
      have pz : (p : Int) ≤ (k : Int) := by omega
      have pe : ¬ p - 1 = k := by omega
      have hif : siz l (k + 1) ≠ 0 ↔ (l k = wantN (l k) ((p : Int) - 1) ((k : Int) - 1) ∧ mayB (l k) = true) := by
       rw [siz_iff2 hk2 h0 h1, show (k : Int) - 1 - (siz l k : Int) = (p : Int) - 1 by have := HPS.out; omega]
      have HIF := Lib.hid hif
      have QB := Lib.hid (show (0 : Int) ≤ (beg l (p - 1) : Nat) by omega)
      clear h0 h1 hif
      obtain ⟨z, hz⟩ : ∃ z, z = beg l (p - 1) := ⟨_, rfl⟩
      rw [← hz] at rk2 QB
      have QZ := Lib.hid hz
      clear hz
      obtain ⟨U, hU⟩ : ∃ U, U = ((V.setCell ⟨w1.heap.size, 1, none⟩ (.int .i64 ((p : Int) - 1))).setCell ⟨w1.heap.size, 2, none⟩ (.int .i64 ((k : Int) - 1))).setCell ⟨w.heap.size, k, none⟩ (.int .i64 (z : Int)) := ⟨_, rfl⟩
      have R4 := Lib.hid (show U.rowIs w.heap.size 3 n (fun j => if j = k then .int .i64 (z : Int) else begV l k j) by
       rw [hU]
       exact (((R3.out.setOther (a := ⟨w1.heap.size, 1, none⟩) g2 _).setOther (a := ⟨w1.heap.size, 2, none⟩) g2 _).set k _).congr (fun i _ => by by_cases e : i = k <;> simp [e]))
      have X4 := Lib.hid (show Box12 U 76 wr.heap.size (l k).k (l k).a (l k).b (l k).s0 (l k).s1 (l k).s2 (l k).s3 (l k).mn (l k).mx (l k).md (l k).n (l k).f by
       rw [hU]
       exact ((X3.out.other g3 1 _).other g3 2 _).other g4 k _)
      have W4 := Lib.hid (show Box12 U 76 w1.heap.size (bareN (l k)).k ((p : Int) - 1) ((k : Int) - 1) (bareN (l k)).s0 (bareN (l k)).s1 (bareN (l k)).s2 (bareN (l k)).s3 (bareN (l k)).mn (bareN (l k)).mx (bareN (l k)).md (bareN (l k)).n (bareN (l k)).f by
       rw [hU]
       exact ((W3.out.set1 _).set2 _).other (Ne.symm g2) k _)
      have B4 := Lib.hid (show Below w.heap.size w U by rw [hU]; exact ((B3.out.setCell (p := ⟨w1.heap.size, 1, none⟩) g1 _).setCell (p := ⟨w1.heap.size, 2, none⟩) g1 _).setCell (p := ⟨w.heap.size, k, none⟩) (Nat.le_refl _) _)
      have HU := Lib.hid hU
      clear hU
      go_wp2_with fail
      rw [rounds_succ, ← HU.out]
      clear c0 c1 c2 c3 c4 c5 c6 c7 c8 c9 c10 c11 d0 d1 d2 d3 d4 d5 d6 d7 d8 d9 d10 d11 rk rk2 fr fw R3 X3 W3 B3 HU
      obtain ⟨c0, c1, c2, c3, c4, c5, c6, c7, c8, c9, c10, c11⟩ := X4.out.cells
      obtain ⟨d0, d1, d2, d3, d4, d5, d6, d7, d8, d9, d10, d11⟩ := W4.out.cells
      by_cases hs : siz l (k + 1) = 0
      ·have NO := Lib.hid (goodB_no hlt hs)
       cases he : eqN (l k) (wantN (l k) ((p : Int) - 1) ((k : Int) - 1)) with
       | false =>
         have q := he
         unfold wantN at q
         clear he hs
         go_wp2_with fail
         go_ret2
         exact BegPost.no _ B4.out NO.out
       | true =>
         have hm : mayB (l k) = false := by
          cases hm : mayB (l k) with
          | false => rfl
          | true => exact absurd hs (HIF.out.2 ⟨by unfold eqN at he; exact of_decide_eq_true he, hm⟩)
         have HM := Lib.hid hm
         have q := he
         unfold wantN at q
         clear he hs hm
         go_wp2_with fail
         refine (may_any (l k) _).mono ?_
         rintro e w3 ⟨rfl, hb⟩
         have B5 := Lib.hid (thenB B4.out hb B4.out.size)
         clear hb
         rw [HM.out]
         go_wp2_with fail
         go_ret2
         exact BegPost.no _ B5.out NO.out
      ·obtain ⟨he, hm⟩ := HIF.out.1 hs
       have q : eqN (l k) (wantN (l k) ((p : Int) - 1) ((k : Int) - 1)) = true := by unfold eqN; exact decide_eq_true he
       unfold wantN at q
       have HM := Lib.hid hm
       have HZ := Lib.hid hs
       clear he hm hs
       go_wp2_with fail
       refine (may_any (l k) _).mono ?_
       rintro e w3 ⟨rfl, hb⟩
       have B5 := Lib.hid (thenB B4.out hb B4.out.size)
       have R5 := Lib.hid (row_call R4.out hb)
       clear hb
       rw [HM.out]
       go_wp2_with fail
       go_roundw
       case rel => exact ⟨k + 1, by omega, by go_num, pos_next HP.out HZ.out, R5.out.congr (beg_next ((beg_two HPS.out hk2 HZ.out).trans QZ.out.symm)), B5.out⟩
       case measure => simp [intOf]; omega
  ·obtain rfl : n = k := by omega
   by_cases hn0 : n = 0
   ·subst hn0
    go_wp2_with fail
    go_quiet (fail)
    go_wp2_with fail
    go_ret2
    exact BegPost.no _ (below_drewN HB.out _) rfl
   ·have n1 : (1 : Int) ≤ (n : Int) := by omega
    have n2 : (0 : Int) < (n : Int) := by omega
    have n3 : (n : Int) - 1 < (n : Int) := by omega
    have n4 : (0 : Int) ≤ (n : Int) - 1 := by omega
    have hcell : wr.cell? ⟨w.heap.size, n - 1, none⟩ = some (.int .i64 (beg l (n - 1) : Nat)) := by
     rw [HR.out.cell (by omega)]
     unfold begV
     rw [if_pos (by omega)]
    have hbg : beg l (n - 1) = n - siz l n := by unfold beg; rw [show n - 1 + 1 = n by omega]
    have hle := siz_le l n
    have iw : IntKind.i64.wrap ((n : Int) - 1) = (n : Int) - 1 := IntWalk.i64_in _ (by omega)
    have it : ((n : Int) - 1).toNat = n - 1 := by omega
    have id : decide (0 < n) = true := by simp; omega
    have IW := Lib.hid (And.intro iw (And.intro it id))
    clear iw it id
    by_cases hz : siz l n = n
    ·have HG := Lib.hid (show goodB l n = true by unfold goodB; simp; omega)
     rw [show beg l (n - 1) = 0 by omega] at hcell
     have qz : (((0 : Nat) : Int) == 0) = true := rfl
     clear hz hle hbg hn0 hlt
     go_wp2_with fail
     obtain ⟨iw, it, id⟩ := IW.out
     go_quiet (fail)
     clear iw it id
     go_wp2_with fail
     go_ret2
     exact ⟨below_drewN HB.out _, .inl ⟨HG.out, rfl, HR.out⟩⟩
    ·have HG := Lib.hid (show goodB l n = false by unfold goodB; simp; omega)
     have qz : ((beg l (n - 1) : Int) == 0) = false := by simp; omega
     generalize beg l (n - 1) = z at hcell qz
     clear hz hle hbg hn0 hlt
     go_wp2_with fail
     obtain ⟨iw, it, id⟩ := IW.out
     go_quiet (fail)
     clear iw it id
     go_wp2_with fail
     go_ret2
     exact BegPost.no _ (below_drewN HB.out _) HG.out
end Go.Proofs.YteggpecbeagohaaGreatDoor.Ast
namespace Go.Proofs.YteggpecbeagohaaGreatDoor.Ast
open Go.RowKit
def depV (l : Nat → Nd) (k : Nat) (j : Nat) : Value := .int .i64 ((if j < k then dep l (j + 1) else 0 : Nat) : Int)
theorem dep_next {l : Nat → Nd} {k n v : Nat} (hv : dep l (k + 1) = v) : ∀ i, i < n → (if i = k then Value.int .i64 (v : Int) else depV l k i) = depV l (k + 1) i := by
 intro i _
 unfold depV
 by_cases e : i = k
 ·subst e
  rw [if_pos rfl, if_pos (by omega), hv]
 ·rw [if_neg e]
  by_cases h : i < k
  ·rw [if_pos h, if_pos (by omega)]
  ·rw [if_neg h, if_neg (by omega)]
theorem dep_nextG {l : Nat → Nd} {k n : Nat} {F : Nat → Value} (hF : ∀ i, i ≠ k → F i = depV l k i) (hv : F k = .int .i64 (dep l (k + 1) : Nat)) : ∀ i, i < n → F i = depV l (k + 1) i := by
 intro i hi
 by_cases e : i = k
 ·subst e; rw [hv]; unfold depV; rw [if_pos (by omega)]
 ·rw [hF i e, ← dep_next (n := n) rfl i hi, if_neg e]
set_option maxHeartbeats 4000000 in
theorem depth_any (A : Option Addr) (n cap : Nat) (l : Nat → Nd) (w : World) (hn : n ≤ 1000000) (h0 : 0 < n) (hs : siz l n = n) (hl : Nodes w A n l) :
  Calls Tryz.prog 57 #[.slice A n cap] w fun e w' => e = .returned (.int .i64 (dep l n : Nat)) ∧ Below w.heap.size w w' := by
 have HL := Lib.hid hl
 have HS := Lib.hid hs
 clear hl hs
 have hmk := run_make_row' (P := Tryz.prog) 77 3 (.int .i64 0) 8 Tryz.underlying77 infoI rfl .i64 .i64 n (by omega) (by omega)
 go_enter Tryz.func57, Tryz.ntmps57
 go_wp2_with fail
 clear hmk
 go_loopw [11] (fun i wr => ∃ k : Nat, k ≤ n ∧ i = .int .i64 k ∧ wr.rowIs w.heap.size 3 n (depV l k) ∧ Below w.heap.size w wr) (fun i _ => n - (intOf i).toNat)
 case atStart => exact ⟨0, Nat.zero_le _, rfl, (World.rowIs_made w (.int .i64 0) n 3).congr fun i hi => rfl, by go_grown⟩
 case round =>
  obtain ⟨k, hk, rfl, hrow, hb⟩ := hrel
  have HR := Lib.hid hrow
  have HB := Lib.hid hb
  clear hrow hb
  by_cases hlt : k < n
  ·obtain ⟨b, o, rfl, hN⟩ := (HL.out.below HB.out (Nat.le_refl _)).at_ (by omega)
   obtain ⟨c0, c1, c2, c3, c4, c5, c6, c7, c8, c9, c10, c11⟩ := hN.2 k hlt
   have hbw := hN.1
   have hsz := siz_of_whole HS.out hlt
   obtain ⟨-, hp⟩ := siz_pos hsz
   have hd := dep_succ l k
   have lr : w.heap.size < wr.heap.size := HR.out.lt
   clear hN hsz
   rcases hp with ⟨hk0, -⟩ | ⟨hk1, h1, ha, -⟩ | ⟨hk2, h1, h2, ha, hb, -⟩
   ·have HD := Lib.hid (show dep l (k + 1) = 1 by rw [hd, if_pos hk0])
    have HK := Lib.hid hk0
    clear hd hk0
    go_wp2_with fail
    refine (children_b _ _ _ HK.out).mono ?_
    rintro e w2 ⟨rfl, hb⟩
    have R2 := Lib.hid (row_call (HR.out.alloc _) hb)
    have B2 := Lib.hid (thenB (HB.out.alloc HB.out.size _) hb (by simp; have := HB.out.size; omega))
    clear hb c0 c1 c2 c3 c4 c5 c6 c7 c8 c9 c10 c11
    have rk : w2.cell? ⟨w.heap.size, k, none⟩ = some (.int .i64 0) := by
     rw [R2.out.cell hlt]
     unfold depV
     rw [if_neg (by omega)]
     rfl
    have fr := R2.out.frozen
    go_wp2_with fail
    go_roundw
    case rel => exact ⟨k + 1, by omega, by go_num, (R2.out.set k (.int .i64 1)).congr (dep_next HD.out), B2.out.setCell (p := ⟨w.heap.size, k, none⟩) (Nat.le_refl _) _⟩
    case measure => simp [intOf]; omega
   ·have k0 : k ≠ 0 := by rintro rfl; exact h1 rfl
    have HD := Lib.hid (show dep l (k + 1) = 1 + dep l k by rw [hd, hk1]; rfl)
    have HK := Lib.hid hk1
    have hdl := dep_le l k
    rw [ha] at c1
    clear hd hk1 ha h1
    go_wp2_with fail
    refine (children_b _ _ _ HK.out).mono ?_
    rintro e w2 ⟨rfl, hb⟩
    have R2 := Lib.hid (row_call (HR.out.alloc _) hb)
    have X2 := Lib.hid ((Box12.new wr 76 _ _ _ _ _ _ _ _ _ _ _ _).call hb)
    have B2 := Lib.hid (thenB (HB.out.alloc HB.out.size _) hb (by simp; have := HB.out.size; omega))
    clear hb c0 c1 c2 c3 c4 c5 c6 c7 c8 c9 c10 c11
    have rk : w2.cell? ⟨w.heap.size, k, none⟩ = some (.int .i64 0) := by
     rw [R2.out.cell hlt]
     unfold depV
     rw [if_neg (by omega)]
     rfl
    have rk1 : w2.cell? ⟨w.heap.size, k - 1, none⟩ = some (.int .i64 (dep l k : Nat)) := by
     rw [R2.out.cell (by omega)]
     unfold depV
     rw [if_pos (by omega), show k - 1 + 1 = k by omega]
    have fr := R2.out.frozen
    obtain ⟨c0, c1, c2, -⟩ := X2.out.cells
    have k1 : (1 : Int) ≤ (k : Int) := by omega
    have d0 : (0 : Int) ≤ (dep l k : Nat) := by omega
    have d1 : ((dep l k : Nat) : Int) ≤ 1000000 := by omega
    generalize dep l k = x at HD rk1 d0 d1 hdl
    go_wp2_with fail
    have iw : IntKind.i64.wrap ((k : Int) - 1) = (k : Int) - 1 := IntWalk.i64_in _ (by omega)
    have it : ((k : Int) - 1).toNat = k - 1 := by omega
    have i1 : (k : Int) - 1 < (n : Int) := by omega
    have i0 : (0 : Int) ≤ (k : Int) - 1 := by omega
    go_region
    clear iw it i1 i0
    go_wp2_with fail
    go_roundw
    case rel => exact ⟨k + 1, by omega, by go_num, ((R2.out.set k _).set k _).drew.congr (dep_nextG (fun i h => by simp [h]) (by simp; rw [HD.out]; (try split) <;> omega)), ((B2.out.setCell (p := ⟨w.heap.size, k, none⟩) (Nat.le_refl _) _).setCell (p := ⟨w.heap.size, k, none⟩) (Nat.le_refl _) _).drew⟩
    case measure => simp [intOf]; omega
   ·have hle := siz_le l k
    have k0 : k ≠ 0 := by rintro rfl; exact h1 rfl
    obtain ⟨s, es⟩ : ∃ s, s = siz l k := ⟨_, rfl⟩
    rw [← es] at ha h1 h2 hle hd
    have s1 : s < k := by
     by_cases e : s < k
     ·exact e
     ·exfalso; apply h2; rw [show k - s = 0 by omega]; rfl
    have HD := Lib.hid (show dep l (k + 1) = 1 + max (dep l (k - s)) (dep l k) by rw [hd, hk2]; rfl)
    have HK := Lib.hid hk2
    have hdl := dep_le l k
    have hdl2 := dep_le l (k - s)
    rw [ha] at c1
    rw [hb] at c2
    clear hd hk2 ha hb h1 h2 es
    go_wp2_with fail
    refine (children_b _ _ _ HK.out).mono ?_
    rintro e w2 ⟨rfl, hb⟩
    have R2 := Lib.hid (row_call (HR.out.alloc _) hb)
    have X2 := Lib.hid ((Box12.new wr 76 _ _ _ _ _ _ _ _ _ _ _ _).call hb)
    have B2 := Lib.hid (thenB (HB.out.alloc HB.out.size _) hb (by simp; have := HB.out.size; omega))
    clear hb c0 c1 c2 c3 c4 c5 c6 c7 c8 c9 c10 c11
    have rk : w2.cell? ⟨w.heap.size, k, none⟩ = some (.int .i64 0) := by
     rw [R2.out.cell hlt]
     unfold depV
     rw [if_neg (by omega)]
     rfl
    have rk1 : w2.cell? ⟨w.heap.size, k - 1, none⟩ = some (.int .i64 (dep l k : Nat)) := by
     rw [R2.out.cell (by omega)]
     unfold depV
     rw [if_pos (by omega), show k - 1 + 1 = k by omega]
    have rk2 : w2.cell? ⟨w.heap.size, k - 1 - s, none⟩ = some (.int .i64 (dep l (k - s) : Nat)) := by
     rw [R2.out.cell (by omega)]
     unfold depV
     rw [if_pos (by omega), show k - 1 - s + 1 = k - s by omega]
    have fr := R2.out.frozen
    obtain ⟨c0, c1, c2, -⟩ := X2.out.cells
    have k1 : (1 : Int) ≤ (k : Int) := by omega
    have d0 : (0 : Int) ≤ (dep l k : Nat) := by omega
    have d1 : ((dep l k : Nat) : Int) ≤ 1000000 := by omega
    have e0 : (0 : Int) ≤ (dep l (k - s) : Nat) := by omega
    have e1 : ((dep l (k - s) : Nat) : Int) ≤ 1000000 := by omega
    generalize dep l k = x at HD rk1 d0 d1 hdl
    generalize dep l (k - s) = y at HD rk2 e0 e1 hdl2
    have iw : IntKind.i64.wrap ((k : Int) - 1 - (s : Int)) = (k : Int) - 1 - (s : Int) := IntWalk.i64_in _ (by omega)
    have it : ((k : Int) - 1 - (s : Int)).toNat = k - 1 - s := by omega
    have i1 : (k : Int) - 1 - (s : Int) < (n : Int) := by omega
    have i0 : (0 : Int) ≤ (k : Int) - 1 - (s : Int) := by omega
    have HI := Lib.hid (And.intro iw it)
    have ne1 : ¬ k - 1 = k := by omega
    have ne2 : ¬ k - 1 - s = k := by omega
    have lx := X2.out.lt
    have gx : w.heap.size < wr.heap.size := lr
    clear iw it
    go_wp2_with fail
    obtain ⟨iw, it⟩ := HI.out
    go_region
    clear iw it
    go_wp2_with fail
    go_roundw
    case rel => exact ⟨k + 1, by omega, by go_num, (((R2.out.set k _).set k _).set k _).drew.congr (dep_nextG (fun i h => by simp [h]) (by simp; rw [HD.out]; (try split) <;> omega)), (((B2.out.setCell (p := ⟨w.heap.size, k, none⟩) (Nat.le_refl _) _).setCell (p := ⟨w.heap.size, k, none⟩) (Nat.le_refl _) _).setCell (p := ⟨w.heap.size, k, none⟩) (Nat.le_refl _) _).drew⟩
    case measure => simp [intOf]; omega
  ·obtain rfl : n = k := by omega
   have n1 : (1 : Int) ≤ (n : Int) := by omega
   have n3 : (n : Int) - 1 < (n : Int) := by omega
   have hcell : wr.cell? ⟨w.heap.size, n - 1, none⟩ = some (.int .i64 (dep l n : Nat)) := by
    rw [HR.out.cell (by omega)]
    unfold depV
    rw [if_pos (by omega), show n - 1 + 1 = n by omega]
   go_wp2_with fail
   go_ret
   exact ⟨rfl, HB.out⟩
end Go.Proofs.YteggpecbeagohaaGreatDoor.Ast
namespace Go.Proofs.YteggpecbeagohaaGreatDoor.Ast
open Go.RowKit
def formZ (l : Nat → Nd) (n : Nat) : Int := if 500 < n then 4 else if goodB l n = true then 0 else 3
def shapeZ (l : Nat → Nd) (n : Nat) : Int := if formZ l n = 0 ∧ 40 < dep l n then 4 else formZ l n
def deepZ (l : Nat → Nd) (n : Nat) : Nat := if formZ l n = 0 then dep l n else 0
theorem form_0 {l : Nat → Nd} {n : Nat} (h : formZ l n = 0) : n ≤ 500 ∧ 0 < n ∧ siz l n = n := by
 unfold formZ at h
 split at h
 ·omega
 ·split at h
  ·rename_i h1 h2
   unfold goodB at h2
   simp only [decide_eq_true_eq] at h2
   exact ⟨by omega, h2⟩
  ·omega
set_option maxHeartbeats 1000000 in
theorem rightForm_any (A : Option Addr) (n cap : Nat) (l : Nat → Nd) (w : World) (hn : n ≤ 1000000) (hl : Nodes w A n l) :
  Calls Tryz.prog 56 #[.agg #[.slice A n cap]] w fun e w' => e = .returned (.int .i64 (formZ l n)) ∧ Below w.heap.size w w' := by
 by_cases h : 500 < n
 ·have HV := Lib.hid (show formZ l n = 4 by unfold formZ; rw [if_pos h])
  have hz : (500 : Int) < (n : Int) := by omega
  clear hl h
  go_enter Tryz.func56, Tryz.ntmps56
  go_wp2_with fail
  go_ret
  exact ⟨by rw [HV.out]; rfl, by go_grown⟩
 ·have HV := Lib.hid (show formZ l n = if goodB l n = true then 0 else 3 by unfold formZ; rw [if_neg h])
  have hz : ¬ (500 : Int) < (n : Int) := by omega
  have HL := Lib.hid hl
  clear hl h
  go_enter Tryz.func56, Tryz.ntmps56
  go_wp2_with fail
  refine (begins_any A n cap l _ hn (HL.out.below (B := w.heap.size) (by go_grown) (Nat.le_refl _))).mono ?_
  rintro e w1 ⟨hb, h⟩
  have B1 := Lib.hid (thenB (B := w.heap.size) (w := w) (by go_grown) hb (by simp))
  clear hb
  rcases h with ⟨hg, rfl, -⟩ | ⟨hg, v, rfl⟩
  ·have HV' := Lib.hid (show formZ l n = 0 by rw [HV.out, if_pos hg])
   clear hg HV
   go_wp2_with fail
   go_ret
   exact ⟨by rw [HV'.out]; rfl, B1.out⟩
  ·have HV' := Lib.hid (show formZ l n = 3 by rw [HV.out, if_neg (by rw [hg]; decide)])
   clear hg HV
   go_wp2_with fail
   go_ret
   exact ⟨by rw [HV'.out]; rfl, B1.out⟩
def TreeBox (u : World) (g : Nat) (A : Option Addr) (n cap : Nat) : Prop := u.heap[g]? = some (.cells #[.slice A n cap] 43 (0, 0))
theorem TreeBox.new (u : World) (A : Option Addr) (n cap : Nat) : TreeBox (u.alloc (.cells #[.slice A n cap] 43)) u.heap.size A n cap := heap_alloc_new _ _
theorem TreeBox.lt {u : World} {g : Nat} {A : Option Addr} {n cap : Nat} (h : TreeBox u g A n cap) : g < u.heap.size := (Array.getElem?_eq_some_iff.1 h).1
theorem TreeBox.call {u v : World} {g : Nat} {A : Option Addr} {n cap : Nat} (h : TreeBox u g A n cap) (hb : Below u.heap.size u v) : TreeBox v g A n cap := (hb.block g h.lt).trans h
theorem TreeBox.cell {u : World} {g : Nat} {A : Option Addr} {n cap : Nat} (h : TreeBox u g A n cap) : u.cell? ⟨g, 0, none⟩ = some (.slice A n cap) := cell_of_one h
set_option maxHeartbeats 1000000 in
theorem rightShape_any (A : Option Addr) (n cap : Nat) (l : Nat → Nd) (w : World) (hn : n ≤ 1000000) (hl : Nodes w A n l) :
  Calls Tryz.prog 36 #[.agg #[.slice A n cap]] w fun e w' => e = .returned (.int .i64 (shapeZ l n)) ∧ Below w.heap.size w w' := by
 have HL := Lib.hid hl
 clear hl
 go_enter Tryz.func36, Tryz.ntmps36
 go_wp2_with fail
 refine (rightForm_any A n cap l _ hn (HL.out.below (B := w.heap.size) (by go_grown) (Nat.le_refl _))).mono ?_
 rintro e w1 ⟨rfl, hb⟩
 have T1 := Lib.hid ((TreeBox.new w A n cap).call hb)
 have B1 := Lib.hid (thenB (B := w.heap.size) (w := w) (by go_grown) hb (by simp))
 clear hb
 have c0 := T1.out.cell
 by_cases h0 : formZ l n = 0
 ·obtain ⟨h5, hpos, hs⟩ := form_0 h0
  have HV := Lib.hid (show shapeZ l n = if 40 < dep l n then 4 else 0 by unfold shapeZ; rw [h0]; simp)
  have HS := Lib.hid hs
  rw [h0]
  clear h0 hs
  go_wp2_with fail
  refine (depth_any A n cap l _ hn hpos HS.out (HL.out.below B1.out (Nat.le_refl _))).mono ?_
  rintro e w2 ⟨rfl, hb⟩
  have B2 := Lib.hid (thenB B1.out hb B1.out.size)
  clear hb c0
  generalize dep l n = d at HV
  by_cases hd : 40 < d
  ·rw [if_pos hd] at HV
   have hz : (40 : Int) < (d : Int) := by omega
   clear hd
   go_wp2_with fail
   go_ret
   exact ⟨by rw [HV.out]; rfl, B2.out⟩
  ·rw [if_neg hd] at HV
   have hz : ¬ (40 : Int) < (d : Int) := by omega
   clear hd
   go_wp2_with fail
   go_ret
   exact ⟨by rw [HV.out]; rfl, B2.out⟩
 ·have HV := Lib.hid (show shapeZ l n = formZ l n by unfold shapeZ; rw [if_neg (by omega)])
  have q : (formZ l n == 0) = false := by simpa using h0
  clear h0
  go_wp2_with fail
  go_ret
  exact ⟨by rw [HV.out]; rfl, B1.out⟩
set_option maxHeartbeats 1000000 in
theorem deep_any (A : Option Addr) (n cap : Nat) (l : Nat → Nd) (w : World) (hn : n ≤ 1000000) (hl : Nodes w A n l) :
  Calls Tryz.prog 134 #[.agg #[.slice A n cap]] w fun e w' => e = .returned (.int .i64 (deepZ l n : Nat)) ∧ Below w.heap.size w w' := by
 have HL := Lib.hid hl
 clear hl
 go_enter Tryz.func134, Tryz.ntmps134
 go_wp2_with fail
 refine (rightForm_any A n cap l _ hn (HL.out.below (B := w.heap.size) (by go_grown) (Nat.le_refl _))).mono ?_
 rintro e w1 ⟨rfl, hb⟩
 have T1 := Lib.hid ((TreeBox.new w A n cap).call hb)
 have B1 := Lib.hid (thenB (B := w.heap.size) (w := w) (by go_grown) hb (by simp))
 clear hb
 have c0 := T1.out.cell
 by_cases h0 : formZ l n = 0
 ·obtain ⟨h5, hpos, hs⟩ := form_0 h0
  have HV := Lib.hid (show deepZ l n = dep l n by unfold deepZ; rw [if_pos h0])
  have HS := Lib.hid hs
  rw [h0]
  clear h0 hs
  go_wp2_with fail
  refine (depth_any A n cap l _ hn hpos HS.out (HL.out.below B1.out (Nat.le_refl _))).mono ?_
  rintro e w2 ⟨rfl, hb⟩
  have B2 := Lib.hid (thenB B1.out hb B1.out.size)
  clear hb c0
  go_wp2_with fail
  go_ret
  exact ⟨by rw [HV.out]; rfl, B2.out⟩
 ·have HV := Lib.hid (show deepZ l n = 0 by unfold deepZ; rw [if_neg h0])
  have q : (formZ l n == 0) = false := by simpa using h0
  clear h0
  go_wp2_with fail
  go_ret
  exact ⟨by rw [HV.out]; rfl, B1.out⟩
end Go.Proofs.YteggpecbeagohaaGreatDoor.Ast
