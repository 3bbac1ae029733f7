import Derived.Test.YteiboobdhjdjkaaGreatDoorNaiFirst
import Derived.Test.YteiboobdhjdjkaaGreatDoorAstG
import Derived.Test.YteiboobdhjdjkaaGreatDoorAstEM
import Derived.Test.YteiboobdhjdjkaaGreatDoorMz
namespace Go.Proofs.YteiboobdhjdjkaaGreatDoor.Nai
open Go.RowKit
open Ast (Nd At12 NodesAt Nodes kidsZ siz siz_pos siz_zero siz_le len foldT foldT_succ fitsB)
def backN (l : Nat → Nd) (n i : Nat) : Nat := if i + 1 < n ∧ ((l (i + 1)).k = 15 ∨ (l (i + 1)).k = 16) then (len l (i + 1)).1.toNat else 0
def reT (l : Nat → Nd) (n : Nat) (j : Nat) : Re := foldT l (.leaf (l 0)) (fun i => .leaf (l i)) (fun i a => .one (l i) (backN l n (i - 1)) a) (fun i a b => .two (l i) a b) j
theorem reT_succ (l : Nat → Nd) (n j : Nat) : reT l n (j + 1) = if kidsZ (l j).k = 0 then .leaf (l j) else if kidsZ (l j).k = 1 then .one (l j) (backN l n (j - 1)) (reT l n j) else .two (l j) (reT l n (j - siz l j)) (reT l n j) := foldT_succ ..
theorem reT_root (l : Nat → Nd) (n j : Nat) : (reT l n (j + 1)).root = l j := by
 rw [reT_succ]
 (repeat' split) <;> rfl
theorem reT_at {l : Nat → Nd} {j : Nat} (n : Nat) (h : j ≠ 0) : l (j - 1) = (reT l n j).root := by
 obtain ⟨i, rfl⟩ : ∃ i, j = i + 1 := ⟨j - 1, by omega⟩
 exact (reT_root l n i).symm
theorem siz_ne {l : Nat → Nd} {j : Nat} (h : siz l j ≠ 0) : j ≠ 0 := fun e => h (by rw [e]; rfl)
theorem reT_is {l : Nat → Nd} {n : Nat} : ∀ j, j ≤ n → siz l j ≠ 0 → IsRe l (backN l n) n (reT l n j) := by
 intro j
 induction j using Nat.strongRecOn with
 | _ j ih =>
   intro hj h
   obtain ⟨j, rfl⟩ : ∃ i, j = i + 1 := ⟨j - 1, by have := siz_ne h; omega⟩
   have hle := siz_le l j
   obtain ⟨_, h | h | h⟩ := siz_pos h
   ·rw [reT_succ, if_pos h.1]; exact h.1
   ·obtain ⟨hk, h1, h2, -, -⟩ := h
    have h0 := siz_ne h1
    rw [reT_succ, if_neg (by omega), if_pos hk]
    exact ⟨hk, ⟨j - 1, by omega, by omega, reT_at n h0, fun _ => rfl⟩, ih j (by omega) (by omega) h1⟩
   ·obtain ⟨hk, h1, h2, h3, h4, -⟩ := h
    have h0 := siz_ne h1
    have h5 := siz_ne h2
    rw [reT_succ, if_neg (by omega), if_neg (by omega)]
    exact ⟨hk, ⟨j - siz l j - 1, by omega, by omega, reT_at n h5⟩, ih (j - siz l j) (by omega) (by omega) h2, ⟨j - 1, by omega, by omega, reT_at n h0⟩, ih j (by omega) (by omega) h1⟩
theorem reT_sz {l : Nat → Nd} {n : Nat} : ∀ j, siz l j ≠ 0 → (reT l n j).sz ≤ 3 * siz l j := by
 intro j
 induction j using Nat.strongRecOn with
 | _ j ih =>
   intro h
   obtain ⟨j, rfl⟩ : ∃ i, j = i + 1 := ⟨j - 1, by have := siz_ne h; omega⟩
   have hle := siz_le l j
   obtain ⟨_, h | h | h⟩ := siz_pos h
   ·rw [reT_succ, if_pos h.1, h.2.2.2]; show 1 ≤ 3 * 1; omega
   ·obtain ⟨hk, h1, -, -, h2⟩ := h
    have := ih j (by omega) h1
    rw [reT_succ, if_neg (by omega), if_pos hk, h2]
    unfold Re.sz
    split <;> omega
   ·obtain ⟨hk, h1, h2, -, -, h3⟩ := h
    have hi := ih j (by omega) h1
    have hi2 := ih (j - siz l j) (by omega) h2
    rw [reT_succ, if_neg (by omega), if_neg (by omega), h3]
    unfold Re.sz
    omega
theorem fits_rep {x : Nd} (h : fitsB x = true) (hk : x.k = 10) : RepOk x.mn x.mx ∧ 0 ≤ x.mn ∧ x.mn ≤ 100 ∧ x.mx ≤ 100 ∧ 0 ≤ x.md ∧ x.md ≤ 2 := by
 unfold fitsB at h
 have h := of_decide_eq_true h
 obtain ⟨-, -, -, -, -, -, h⟩ := h
 rcases h with h | ⟨h1, h2, h3, h4, h5, h6⟩
 ·exact absurd hk h
 ·refine ⟨?_, h1, h2, h3, h5, h6⟩
  rcases h4 with e | e
  ·exact .inl (by omega)
  ·exact .inr e
theorem reT_fine {l : Nat → Nd} {n : Nat} (hw : ∀ i, i < n → WdsN (l i)) : ∀ j, j ≤ n → siz l j ≠ 0 → (reT l n j).fine := by
 intro j
 induction j using Nat.strongRecOn with
 | _ j ih =>
   intro hj h
   obtain ⟨j, rfl⟩ : ∃ i, j = i + 1 := ⟨j - 1, by have := siz_ne h; omega⟩
   have hle := siz_le l j
   obtain ⟨hf, h | h | h⟩ := siz_pos h
   ·rw [reT_succ, if_pos h.1]; exact fun _ => hw j (by omega)
   ·rw [reT_succ, if_neg (by omega), if_pos h.1]
    exact ⟨fun e => fits_rep hf e, ih j (by omega) (by omega) h.2.1⟩
   ·rw [reT_succ, if_neg (by omega), if_neg (by omega)]
    exact ⟨ih (j - siz l j) (by omega) (by omega) h.2.2.1, ih j (by omega) (by omega) h.2.1⟩
theorem RdAt.toN {R : Rd} {a b : Nat} {X : Nat → Prop} {w : World} (h : RdAt { R with N := a } X w) : RdAt { R with N := b } X w := ⟨h.box, h.nod, h.nodX, h.bkl, h.bkX, h.bkc⟩
theorem FirstOk.toN {R : Rd} {a b : Nat} {r : Re} (h : FirstOk { R with N := a } r) : FirstOk { R with N := b } r :=
 fun X w y q bl o h1 h2 h3 h4 h5 h6 h7 h8 => h X w y q bl o h1 h2 h3 h4 h5 h6 h7.toN h8
theorem first_all (R : Rd) (hs : R.s.size ≤ 100000000) (hb : ∀ i, i < R.n → R.bk i ≤ 100000000) (hl : Cap.LibOk) : ∀ (N : Nat) (r : Re), IsRe R.l R.bk R.n r → r.fine → r.lite R.s.size → r.sz ≤ N → FirstOk { R with N := N } r := by
 intro N
 induction N with
 | zero =>
   intro r _ _ _ h
   have hp : 1 ≤ r.sz := by
    cases r with
    | leaf x => exact Nat.le_refl _
    | two x a b => show 1 ≤ a.sz + b.sz + 3; omega
    | one x bk a => show 1 ≤ a.sz + (if x.k = 10 ∧ x.md = 2 then 3 else 2); split <;> omega
   omega
 | succ N ih =>
   intro r h1 h2 h3 h4
   refine first_any (R := { R with N := N + 1 }) ⟨hs, hb, hl, fun r' k1 k2 k3 k4 => ?_⟩ ⟨h1, h2, h4⟩ h3
   exact (ih r' k1 k2 k3 (Nat.le_of_lt_succ k4)).toN
theorem given_any (R : Rd) (hs : R.s.size ≤ 100000000) (hb : ∀ i, i < R.n → R.bk i ≤ 100000000) (hl : Cap.LibOk) : Given R :=
 ⟨hs, hb, hl, fun r h1 h2 h3 h4 => first_all R hs hb hl R.N r h1 h2 h3 (Nat.le_of_lt h4)⟩
end Go.Proofs.YteiboobdhjdjkaaGreatDoor.Nai
namespace Go.Proofs.YteiboobdhjdjkaaGreatDoor.Nai
open Go.RowKit
open Ast (Nd At12 NodesAt Nodes kidsZ siz siz_pos siz_le len rightZ TreeBox thenB lenV lenZ)
open Cap (Cp cpC BoxV)
def mayZ (l : Nat → Nd) (n k : Nat) : Int := if rightZ l n ≠ 0 then rightZ l n else if 10000 < k then 4 else 0
set_option maxHeartbeats 1000000 in
theorem mayRead_any (hS : Ast.SortOk) (hN : Ast.SortNone) (A : Option Addr) (n cap : Nat) (l : Nat → Nd) (s : ByteArray) (w : World) (hn : n ≤ 1000000) (hl : Nodes w A n l) (hs : s.size ≤ 4611686018427387904) :
  Calls Tryz.prog 36 #[.agg #[.slice A n cap], .string s] w fun e w' => e = .returned (.int .i64 (mayZ l n s.size)) ∧ Below w.heap.size w w' := by
 have HR := Lib.hid (fun w h => Ast.right_any hS hN A n cap l w hn h)
 have HL := Lib.hid hl
 clear hS hN hl
 go_enter Tryz.func36, Tryz.ntmps36
 go_wp2_with fail
 refine (HR.out _ (HL.out.below (B := w.heap.size) (by go_grown) (Nat.le_refl _))).mono ?_
 rintro e w1 ⟨rfl, hb⟩
 have B1 := Lib.hid (thenB (B := w.heap.size) (w := w) (by go_grown) hb (by simp))
 clear hb
 by_cases h0 : rightZ l n = 0
 ·by_cases h1 : 10000 < s.size
  ·have HV := Lib.hid (show mayZ l n s.size = 4 by unfold mayZ; rw [if_neg (by omega), if_pos h1])
   have q : (10000 : Int) < s.size := by omega
   rw [h0]
   clear h0 h1
   go_wp2_with fail
   go_ret
   exact ⟨by rw [HV.out]; rfl, B1.out⟩
  ·have HV := Lib.hid (show mayZ l n s.size = 0 by unfold mayZ; rw [if_neg (by omega), if_neg h1])
   have q : ¬ (10000 : Int) < s.size := by omega
   rw [h0]
   clear h0 h1
   go_wp2_with fail
   go_ret
   exact ⟨by rw [HV.out]; rfl, B1.out⟩
 ·have HV := Lib.hid (show mayZ l n s.size = rightZ l n by unfold mayZ; rw [if_pos h0])
  have q1 : (rightZ l n != 0) = true := by simpa using h0
  have q : (rightZ l n == 0) = false := by simpa using h0
  clear h0
  go_wp2_with fail
  go_ret
  exact ⟨by rw [HV.out]; rfl, B1.out⟩
def bkV (l : Nat → Nd) (k i : Nat) : Value := .int .i64 (backN l k i : Int)
theorem bk_next {l : Nat → Nd} {k n : Nat} {F : Nat → Value} (hF : ∀ i, i + 1 ≠ k → F i = bkV l k i) (h0 : ∀ i, i + 1 = k → F i = bkV l (k + 1) i) : ∀ i, i < n → F i = bkV l (k + 1) i := by
 intro i _
 by_cases e : i + 1 = k
 ·exact h0 i e
 ·rw [hF i e]
  unfold bkV backN
  by_cases h : i + 1 < k
  ·by_cases h2 : (l (i + 1)).k = 15 ∨ (l (i + 1)).k = 16
   ·rw [if_pos ⟨h, h2⟩, if_pos ⟨by omega, h2⟩]
   ·rw [if_neg (fun e => h2 e.2), if_neg (fun e => h2 e.2)]
  ·rw [if_neg (fun e => h e.1), if_neg (fun e => by omega)]
theorem bk_none {l : Nat → Nd} {k n : Nat} (h : ¬ ((l k).k = 15 ∨ (l k).k = 16)) : ∀ i, i < n → bkV l k i = bkV l (k + 1) i := by
 refine bk_next (fun _ _ => rfl) ?_
 intro i e
 unfold bkV backN
 rw [if_neg (fun h => by omega), if_neg (fun h2 => by rw [e] at h2; exact h h2.2)]
theorem bk_some {l : Nat → Nd} {k q : Nat} (hq : q + 1 = k) (h : (l k).k = 15 ∨ (l k).k = 16) (h0 : 0 ≤ (len l k).1) : bkV l (k + 1) q = .int .i64 (len l k).1 := by
 unfold bkV backN
 rw [hq, if_pos ⟨by omega, h⟩]
 congr 1
 omega
theorem infoI : (Tryz.prog.info? 3).map (fun i => (i.zero, i.size, i.bytes)) = some (some (.int .i64 0), 1, 8) := by kernel_rfl
theorem make_ints (n : Nat) (hn : n ≤ 1000000) (w : World) : (Instr.makeSlice 123 (.int .i64 (n : Int)) (.int .i64 (n : Int))).run Tryz.prog w = .ok (.slice (some ⟨w.heap.size, 0, none⟩) n n) (w.alloc (.cells (madeCells #[.int .i64 0] n) 3)) := by
 obtain ⟨i, hi, hz, hs, hb⟩ := info_parts infoI
 have hr := run_make (P := Tryz.prog) w 123 3 i _ Tryz.underlying123 hi hz .i64 .i64 n n (by omega) (Int.le_refl _) (by rw [hb]; omega) (by omega)
 simp only [Int.toNat_natCast, hs, Nat.mul_one] at hr
 exact hr
theorem ints_made (w : World) (n : Nat) (l : Nat → Nd) : (w.alloc (.cells (madeCells #[.int .i64 0] n) 3)).rowIs w.heap.size 3 n (bkV l 0) := by
 refine ⟨_, Go.Deep.blk_alloc_new _ _, size_madeCells _ _, fun i hi => ?_⟩
 have e : bkV l 0 i = .int .i64 0 := by unfold bkV backN; rw [if_neg (fun h => by omega)]; rfl
 rw [e]
 simp [madeCells, hi, Nat.mod_one]
section
variable {ops : Array Oper} {R : World → Prop} {a : Act} {o : Oper} {x y : Operand} {w : World}
theorem ldTr_y (g : Nat) (v : Value) (hR : ∀ u, R u → u.cell? ⟨g, 0, none⟩ = some v) (ho : o.op = .load 24 x) (hx : a.eval x = .pointer (some ⟨g, 0, none⟩)) (hw : Region.wanted o (yielded ops a.tmps) = true) : YieldsIf Tryz.prog ops R o (.agg #[v]) a := by
 refine Or.inl ⟨hw, fun u h => ?_⟩
 have hc := hR u h
 unfold execOp
 simp only [ho, hx]
 go_simp
theorem stI_run (g k : Nat) (v : Int) {o0 : Value} (h0 : w.cell? ⟨g, k, none⟩ = some o0) (f0 : w.frozen? ⟨g, k, none⟩ = false) (ho : o.op = .store 3 x y) (hx : a.eval x = .pointer (some ⟨g, k, none⟩)) (hy : a.eval y = .int .i64 v) :
  (execOp a.eval o).run Tryz.prog w = .ok .skip (w.setCell ⟨g, k, none⟩ (.int .i64 v)) := by
 unfold execOp
 simp only [ho, hx, hy]
 go_simp
end
end Go.Proofs.YteiboobdhjdjkaaGreatDoor.Nai
namespace Go.Proofs.YteiboobdhjdjkaaGreatDoor.Nai
open Go.RowKit
open Ast (Nd At12 NodesAt Nodes kidsZ siz siz_pos siz_le len rightZ TreeBox thenB lenV lenZ Box12)
open Cap (Cp cpC BoxV)
theorem TreeBox.otherP {u : World} {g : Nat} {A : Option Addr} {n cap : Nat} (h : TreeBox u g A n cap) {k j : Nat} (hk : g ≠ k) (v : Value) : TreeBox (u.setCell ⟨k, j, none⟩ v) g A n cap := (heap_setCell_other _ ⟨k, j, none⟩ _ _ hk).trans h
def NrS (w : World) (g : Nat) (A : Option Addr) (n cap : Nat) (a : Int) (u : World) : Prop := u.cell? ⟨w.heap.size, 0, none⟩ = some (.slice A n cap) ∧ u.cell? ⟨g, 1, none⟩ = some (.int .i64 a)
set_option maxRecDepth 100000 in
set_option maxHeartbeats 1000000 in
theorem newReader_any (A : Option Addr) (n cap : Nat) (l : Nat → Nd) (s : ByteArray) (w : World) (hn : n ≤ 1000000) (hsz : siz l n = n) (hz : Ast.shapeZ l n = 0) (hl : Nodes w A n l) :
  Calls Tryz.prog 37 #[.agg #[.slice A n cap], .string s] w fun e w' => ∃ rb kb, e = .returned (ptr rb) ∧ Below w.heap.size w w' ∧ w.heap.size ≤ rb ∧ w.heap.size ≤ kb ∧
   BoxV 127 w' rb #[.slice A n cap, .slice (some ⟨kb, 0, none⟩) n n, .string s] ∧ w'.rowIs kb 3 n (bkV l n) := by
 have HL := Lib.hid hl
 have HS := Lib.hid (And.intro hsz hz)
 clear hl hsz hz
 have hmk := make_ints n hn
 have h1 : (Tryz.prog).underlying 3 = (Tryz.prog).underlying 3 := rfl
 clear h1
 go_enter Tryz.func37, Tryz.ntmps37
 go_wp2_with fail
 clear hmk
 go_loopw [15] (fun i wr => ∃ k : Nat, k ≤ n ∧ i = .int .i64 k ∧ wr.rowIs (w.heap.size + 1) 3 n (bkV l k) ∧ Below w.heap.size w wr ∧ TreeBox wr w.heap.size A n cap) (fun i _ => n - (intOf i).toNat)
 case atStart =>
  refine ⟨0, Nat.zero_le _, rfl, ?_, by go_grown, ?_⟩
  ·have := ints_made (w.alloc (.cells #[.slice A n cap] 24)) n l
   rw [World.size_alloc] at this
   exact this
  ·exact (TreeBox.new w A n cap).call ((Below.refl _ _).alloc (Nat.le_refl _) _)
 case round =>
  obtain ⟨k, hk, rfl, hrow, hb, ht⟩ := hrel
  have HR := Lib.hid hrow
  have HB := Lib.hid hb
  have HT := Lib.hid ht
  have t0 := ht.cell
  have tl := ht.lt
  clear hrow hb ht
  by_cases hlt : k < n
  ·obtain ⟨b, o, rfl, hN⟩ := (HL.out.below HB.out (Nat.le_refl _)).at_ (by omega)
   obtain ⟨c0, c1, c2, c3, c4, c5, c6, c7, c8, c9, c10, c11⟩ := hN.2 k hlt
   have hbw := hN.1
   have hs1 := Ast.siz_of_whole HS.out.1 hlt
   obtain ⟨hf, hp⟩ := siz_pos hs1
   have lr : w.heap.size + 1 < wr.heap.size := HR.out.lt
   clear hN hs1
   obtain ⟨W, hW⟩ : ∃ W, W = wr.alloc (.cells #[.int .i64 (l k).k, .int .i64 (l k).a, .int .i64 (l k).b, .int .u64 (l k).s0, .int .u64 (l k).s1, .int .u64 (l k).s2, .int .u64 (l k).s3, .int .i64 (l k).mn, .int .i64 (l k).mx, .int .i64 (l k).md, .int .i64 (l k).n, .bool (l k).f] 69) := ⟨_, rfl⟩
   have RW := Lib.hid (show W.rowIs (w.heap.size + 1) 3 n (bkV l k) by rw [hW]; exact HR.out.alloc _)
   have XW := Lib.hid (show Box12 W 69 wr.heap.size (l k).k (l k).a (l k).b (l k).s0 (l k).s1 (l k).s2 (l k).s3 (l k).mn (l k).mx (l k).md (l k).n (l k).f by rw [hW]; exact Box12.new _ _ _ _ _ _ _ _ _ _ _ _ _ _)
   have BW := Lib.hid (show Below w.heap.size w W by rw [hW]; exact HB.out.alloc HB.out.size _)
   have TW := Lib.hid (show TreeBox W w.heap.size (some ⟨b, o, none⟩) n cap by rw [hW]; exact HT.out.call ((Below.refl _ _).alloc (Nat.le_refl _) _))
   have HW := Lib.hid hW
   clear hW
   by_cases hb : (l k).k = 15 ∨ (l k).k = 16
   ·have hk1 : kidsZ (l k).k = 1 := by rcases hb with e | e <;> (rw [e]; rfl)
    obtain ⟨h1, ha⟩ : siz l k ≠ 0 ∧ (l k).a = (k : Int) - 1 := by
     rcases hp with ⟨e, -⟩ | ⟨-, e1, e2, -⟩ | ⟨e, -⟩
     ·omega
     ·exact ⟨e1, e2⟩
     ·omega
    have k0 := siz_ne h1
    obtain ⟨q, hq⟩ : ∃ q, q = k - 1 := ⟨_, rfl⟩
    have hqk : q + 1 = k := by omega
    have hqn : q < n := by omega
    have HQ := Lib.hid (show (l k).a = (q : Int) by omega)
    have HBD := Lib.hid (show 0 ≤ (len l k).1 from (Ast.len_bd l k h1).1.1)
    have HLZ := Lib.hid (show lenZ l n q = ((len l k).1, (len l k).2, 0) by unfold lenZ; rw [if_neg (by rw [HS.out.2]; decide), if_neg (by omega), show (q : Int).toNat + 1 = k by omega])
    have HK := Lib.hid hb
    have HgW := Lib.hid (show wr.heap.size < W.heap.size by rw [HW.out]; simp)
    clear hp hf hk1 h1 ha hq
    rcases hb with hK | hK
    ·rw [hK, HQ.out] at XW HW
     rw [hK] at c0
     rw [HQ.out] at c1
     clear hK
     go_wp2_with fail
     rw [← HW.out]
     clear c0 c1 c2 c3 c4 c5 c6 c7 c8 c9 c10 c11 HW t0
     obtain ⟨c0, c1, c2, c3, c4, c5, c6, c7, c8, -⟩ := XW.out.cells
     go_wp2_with fail
     have hS : NrS w wr.heap.size (some ⟨b, o, none⟩) n cap (q : Int) W.drew := ⟨TW.out.cell, c1⟩
     refine wp_region_held_drew (S := NrS w wr.heap.size (some ⟨b, o, none⟩) n cap (q : Int)) (by kernel_rfl) hS (fun _ => ?_)
     refine takeAt 0 28 (.slice (some ⟨w.heap.size + 1, 0, none⟩) n n) rfl rfl (by kernel_rfl) (by kernel_rfl) (by kernel_rfl) (fun _ _ _ h => h) (yields (by rfl) (fun w => by kernel_rfl)) hS ?_
     simp only [Act.put, sA, s0, sS]
     refine takeAt 1 29 (.pointer (some ⟨wr.heap.size, 1, none⟩)) rfl rfl (by kernel_rfl) (by kernel_rfl) (by kernel_rfl) (fun _ _ _ h => h) (yields (by rfl) (fun w => by kernel_rfl)) hS ?_
     simp only [Act.put, sA, s0, sS]
     refine takeAt 2 30 (.int .i64 (q : Int)) rfl rfl (by kernel_rfl) (by kernel_rfl) (by kernel_rfl) (fun _ _ _ h => h) (ldI_y wr.heap.size 1 (q : Int) (fun u h => h.2) rfl rfl (by rfl)) hS ?_
     simp only [Act.put, sA, s0, sS]
     refine takeAt 3 31 (.agg #[.slice (some ⟨b, o, none⟩) n cap]) rfl rfl (by kernel_rfl) (by kernel_rfl) (by kernel_rfl) (fun _ _ _ h => h) (ldTr_y w.heap.size (.slice (some ⟨b, o, none⟩) n cap) (fun u h => h.1) rfl rfl (by rfl)) hS ?_
     simp only [Act.put, sA, s0, sS]
     refine takeAt 4 32 (.pointer (some ⟨wr.heap.size, 1, none⟩)) rfl rfl (by kernel_rfl) (by kernel_rfl) (by kernel_rfl) (fun _ _ _ h => h) (yields (by rfl) (fun w => by kernel_rfl)) hS ?_
     simp only [Act.put, sA, s0, sS]
     refine takeAt 5 33 (.int .i64 (q : Int)) rfl rfl (by kernel_rfl) (by kernel_rfl) (by kernel_rfl) (fun _ _ _ h => h) (ldI_y wr.heap.size 1 (q : Int) (fun u h => h.2) rfl rfl (by rfl)) hS ?_
     simp only [Act.put, sA, s0, sS]
     refine callAt 6 34 rfl rfl (by kernel_rfl) (by rfl) (by kernel_rfl) (Ast.lenZ_any (some ⟨b, o, none⟩) n cap l q W.drew hn (HL.out.below (show Below w.heap.size w W.drew from below_drewN BW.out 1) (Nat.le_refl _))) ?_
     rintro e w3 ⟨rfl, hbb⟩
     have hlenz := HLZ.out
     rw [hlenz]
     clear hlenz
     have hS : NrS w wr.heap.size (some ⟨b, o, none⟩) n cap (q : Int) w3 := ⟨(hbb.cell (p := ⟨w.heap.size, 0, none⟩) (show w.heap.size < W.heap.size from TW.out.lt)).trans hS.1, (hbb.cell (p := ⟨wr.heap.size, 1, none⟩) HgW.out).trans hS.2⟩
     refine ⟨_, rfl, hS, ?_⟩
     simp only [Act.put, sA, s0, sS]
     refine takeAt 7 27 (.tuple #[.int .i64 (len l k).1, .int .i64 (len l k).2, .int .i64 0]) rfl rfl (by kernel_rfl) (by kernel_rfl) (by kernel_rfl) (fun _ _ _ h => h) (yields (by rfl) (fun w => by kernel_rfl)) hS ?_
     simp only [Act.put, sA, s0, sS]
     refine takeAt 8 35 (.int .i64 (len l k).1) rfl rfl (by kernel_rfl) (by kernel_rfl) (by kernel_rfl) (fun _ _ _ h => h) (yields (by rfl) (fun w => by kernel_rfl)) hS ?_
     simp only [Act.put, sA, s0, sS]
     refine takeAt 9 36 (.int .i64 (len l k).2) rfl rfl (by kernel_rfl) (by kernel_rfl) (by kernel_rfl) (fun _ _ _ h => h) (yields (by rfl) (fun w => by kernel_rfl)) hS ?_
     simp only [Act.put, sA, s0, sS]
     refine takeAt 10 37 (.int .i64 0) rfl rfl (by kernel_rfl) (by kernel_rfl) (by kernel_rfl) (fun _ _ _ h => h) (yields (by rfl) (fun w => by kernel_rfl)) hS ?_
     simp only [Act.put, sA, s0, sS]
     refine takeAt 11 38 (.pointer (some ⟨w.heap.size + 1, q, none⟩)) rfl rfl (by kernel_rfl) (by kernel_rfl) (by kernel_rfl) (fun _ _ _ h => h) (ixI_y (w.heap.size + 1) n n q hqn rfl rfl rfl (by rfl)) hS ?_
     simp only [Act.put, sA, s0, sS]
     have RW3 : w3.rowIs (w.heap.size + 1) 3 n (bkV l k) := Ast.row_call RW.out.drew hbb
     have BW3 := Lib.hid (thenB (show Below w.heap.size w W.drew from below_drewN BW.out 1) hbb (show w.heap.size ≤ W.heap.size from BW.out.size))
     have TW3 := Lib.hid (show TreeBox w3 w.heap.size (some ⟨b, o, none⟩) n cap from (show TreeBox W.drew w.heap.size (some ⟨b, o, none⟩) n cap from TW.out).call hbb)
     refine Cap.skipAt 12 (w3.setCell ⟨w.heap.size + 1, q, none⟩ (.int .i64 (len l k).1)) rfl rfl (by kernel_rfl) (by rfl) (stI_run _ _ _ (RW3.cell hqn) (RW3.frozen _) rfl rfl rfl) ⟨(World.cell?_setCell_other _ _ _ _ (by rintro e; simp at e <;> omega)).trans hS.1, (World.cell?_setCell_other _ _ _ _ (by rintro e; simp at e <;> omega)).trans hS.2⟩ ?_
     refine wpAnyH_done (by kernel_rfl) ?_ _
     have HR4 := Lib.hid (RW3.set q (.int .i64 (len l k).1))
     have HN : Hid (∀ i, i < n → (if i = q then Value.int .i64 (len l k).1 else bkV l k i) = bkV l (k + 1) i) := Lib.hid (bk_next (fun i h => if_neg (by omega)) (fun i h => by
      have e : i = q := by omega
      rw [e, if_pos rfl]
      exact (bk_some hqk HK.out HBD.out).symm))
     clear RW3 hS
     go_wp2_with fail
     go_roundw
     case rel => exact ⟨k + 1, by omega, by go_num, HR4.out.congr HN.out, BW3.out.setCell (by show _ ≤ w.heap.size + 1; omega) _, TreeBox.otherP TW3.out (by omega) _⟩
     case measure => simp [intOf]; omega
    ·rw [hK, HQ.out] at XW HW
     rw [hK] at c0
     rw [HQ.out] at c1
     clear hK
     go_wp2_with fail
     rw [← HW.out]
     clear c0 c1 c2 c3 c4 c5 c6 c7 c8 c9 c10 c11 HW t0
     obtain ⟨c0, c1, c2, c3, c4, c5, c6, c7, c8, -⟩ := XW.out.cells
     go_wp2_with fail
     have hS : NrS w wr.heap.size (some ⟨b, o, none⟩) n cap (q : Int) W.drew := ⟨TW.out.cell, c1⟩
     refine wp_region_held_drew (S := NrS w wr.heap.size (some ⟨b, o, none⟩) n cap (q : Int)) (by kernel_rfl) hS (fun _ => ?_)
     refine takeAt 0 28 (.slice (some ⟨w.heap.size + 1, 0, none⟩) n n) rfl rfl (by kernel_rfl) (by kernel_rfl) (by kernel_rfl) (fun _ _ _ h => h) (yields (by rfl) (fun w => by kernel_rfl)) hS ?_
     simp only [Act.put, sA, s0, sS]
     refine takeAt 1 29 (.pointer (some ⟨wr.heap.size, 1, none⟩)) rfl rfl (by kernel_rfl) (by kernel_rfl) (by kernel_rfl) (fun _ _ _ h => h) (yields (by rfl) (fun w => by kernel_rfl)) hS ?_
     simp only [Act.put, sA, s0, sS]
     refine takeAt 2 30 (.int .i64 (q : Int)) rfl rfl (by kernel_rfl) (by kernel_rfl) (by kernel_rfl) (fun _ _ _ h => h) (ldI_y wr.heap.size 1 (q : Int) (fun u h => h.2) rfl rfl (by rfl)) hS ?_
     simp only [Act.put, sA, s0, sS]
     refine takeAt 3 31 (.agg #[.slice (some ⟨b, o, none⟩) n cap]) rfl rfl (by kernel_rfl) (by kernel_rfl) (by kernel_rfl) (fun _ _ _ h => h) (ldTr_y w.heap.size (.slice (some ⟨b, o, none⟩) n cap) (fun u h => h.1) rfl rfl (by rfl)) hS ?_
     simp only [Act.put, sA, s0, sS]
     refine takeAt 4 32 (.pointer (some ⟨wr.heap.size, 1, none⟩)) rfl rfl (by kernel_rfl) (by kernel_rfl) (by kernel_rfl) (fun _ _ _ h => h) (yields (by rfl) (fun w => by kernel_rfl)) hS ?_
     simp only [Act.put, sA, s0, sS]
     refine takeAt 5 33 (.int .i64 (q : Int)) rfl rfl (by kernel_rfl) (by kernel_rfl) (by kernel_rfl) (fun _ _ _ h => h) (ldI_y wr.heap.size 1 (q : Int) (fun u h => h.2) rfl rfl (by rfl)) hS ?_
     simp only [Act.put, sA, s0, sS]
     refine callAt 6 34 rfl rfl (by kernel_rfl) (by rfl) (by kernel_rfl) (Ast.lenZ_any (some ⟨b, o, none⟩) n cap l q W.drew hn (HL.out.below (show Below w.heap.size w W.drew from below_drewN BW.out 1) (Nat.le_refl _))) ?_
     rintro e w3 ⟨rfl, hbb⟩
     have hlenz := HLZ.out
     rw [hlenz]
     clear hlenz
     have hS : NrS w wr.heap.size (some ⟨b, o, none⟩) n cap (q : Int) w3 := ⟨(hbb.cell (p := ⟨w.heap.size, 0, none⟩) (show w.heap.size < W.heap.size from TW.out.lt)).trans hS.1, (hbb.cell (p := ⟨wr.heap.size, 1, none⟩) HgW.out).trans hS.2⟩
     refine ⟨_, rfl, hS, ?_⟩
     simp only [Act.put, sA, s0, sS]
     refine takeAt 7 27 (.tuple #[.int .i64 (len l k).1, .int .i64 (len l k).2, .int .i64 0]) rfl rfl (by kernel_rfl) (by kernel_rfl) (by kernel_rfl) (fun _ _ _ h => h) (yields (by rfl) (fun w => by kernel_rfl)) hS ?_
     simp only [Act.put, sA, s0, sS]
     refine takeAt 8 35 (.int .i64 (len l k).1) rfl rfl (by kernel_rfl) (by kernel_rfl) (by kernel_rfl) (fun _ _ _ h => h) (yields (by rfl) (fun w => by kernel_rfl)) hS ?_
     simp only [Act.put, sA, s0, sS]
     refine takeAt 9 36 (.int .i64 (len l k).2) rfl rfl (by kernel_rfl) (by kernel_rfl) (by kernel_rfl) (fun _ _ _ h => h) (yields (by rfl) (fun w => by kernel_rfl)) hS ?_
     simp only [Act.put, sA, s0, sS]
     refine takeAt 10 37 (.int .i64 0) rfl rfl (by kernel_rfl) (by kernel_rfl) (by kernel_rfl) (fun _ _ _ h => h) (yields (by rfl) (fun w => by kernel_rfl)) hS ?_
     simp only [Act.put, sA, s0, sS]
     refine takeAt 11 38 (.pointer (some ⟨w.heap.size + 1, q, none⟩)) rfl rfl (by kernel_rfl) (by kernel_rfl) (by kernel_rfl) (fun _ _ _ h => h) (ixI_y (w.heap.size + 1) n n q hqn rfl rfl rfl (by rfl)) hS ?_
     simp only [Act.put, sA, s0, sS]
     have RW3 : w3.rowIs (w.heap.size + 1) 3 n (bkV l k) := Ast.row_call RW.out.drew hbb
     have BW3 := Lib.hid (thenB (show Below w.heap.size w W.drew from below_drewN BW.out 1) hbb (show w.heap.size ≤ W.heap.size from BW.out.size))
     have TW3 := Lib.hid (show TreeBox w3 w.heap.size (some ⟨b, o, none⟩) n cap from (show TreeBox W.drew w.heap.size (some ⟨b, o, none⟩) n cap from TW.out).call hbb)
     refine Cap.skipAt 12 (w3.setCell ⟨w.heap.size + 1, q, none⟩ (.int .i64 (len l k).1)) rfl rfl (by kernel_rfl) (by rfl) (stI_run _ _ _ (RW3.cell hqn) (RW3.frozen _) rfl rfl rfl) ⟨(World.cell?_setCell_other _ _ _ _ (by rintro e; simp at e <;> omega)).trans hS.1, (World.cell?_setCell_other _ _ _ _ (by rintro e; simp at e <;> omega)).trans hS.2⟩ ?_
     refine wpAnyH_done (by kernel_rfl) ?_ _
     have HR4 := Lib.hid (RW3.set q (.int .i64 (len l k).1))
     have HN : Hid (∀ i, i < n → (if i = q then Value.int .i64 (len l k).1 else bkV l k i) = bkV l (k + 1) i) := Lib.hid (bk_next (fun i h => if_neg (by omega)) (fun i h => by
      have e : i = q := by omega
      rw [e, if_pos rfl]
      exact (bk_some hqk HK.out HBD.out).symm))
     clear RW3 hS
     go_wp2_with fail
     go_roundw
     case rel => exact ⟨k + 1, by omega, by go_num, HR4.out.congr HN.out, BW3.out.setCell (by show _ ≤ w.heap.size + 1; omega) _, TreeBox.otherP TW3.out (by omega) _⟩
     case measure => simp [intOf]; omega
   ·have HV := Lib.hid (bk_none (n := n) hb)
    have q1 : ((l k).k == 15) = false := by simp; omega
    have q2 : ((l k).k == 16) = false := by simp; omega
    clear hb hf hp
    go_wp2_with fail
    rw [← HW.out]
    clear c0 c1 c2 c3 c4 c5 c6 c7 c8 c9 c10 c11
    obtain ⟨c0, c1, c2, c3, c4, c5, c6, c7, c8, -⟩ := XW.out.cells
    go_wp2_with fail
    go_roundw
    case rel => exact ⟨k + 1, by omega, by go_num, RW.out.congr HV.out, BW.out, TW.out⟩
    case measure => simp [intOf]; omega
  ·obtain rfl : k = n := by omega
   clear hk hlt
   go_wp2_with fail
   refine bodyPost_ret (v := ptr wr.heap.size) (by simp [results, Tryz.results37, go_sem]) rfl ⟨wr.heap.size, w.heap.size + 1, rfl, ?_, Nat.le_of_lt tl, Nat.le_succ _, ?_, ?_⟩
   ·exact HB.out.alloc HB.out.size _
   ·exact BoxV.new _ _
   ·exact HR.out.alloc _
end Go.Proofs.YteiboobdhjdjkaaGreatDoor.Nai
namespace Go.Proofs.YteiboobdhjdjkaaGreatDoor.Nai
open Go.RowKit
open Ast (Nd)
open Cap (Cp cpC zrC BoxV)
def mtW (rb nb o : Nat) (z : Int) (w : World) : World :=
 (((w.drew.alloc (.cells (cpC zrC) 44)).alloc (.cells #[ptr rb] 88)).alloc (.cells #[.pointer (some ⟨nb, o, none⟩)] 129)).alloc (.cells (spA z (some ⟨w.heap.size, 0, none⟩)) 93)
set_option maxRecDepth 100000 in
theorem matches_any (rb nb o n cap q : Nat) (v1 v2 : Value) (z : Int) (w : World) (hn : n ≤ 1000000) (hnq : n = q + 1) (hr : BoxV 127 w rb #[.slice (some ⟨nb, o, none⟩) n cap, v1, v2]) :
  Calls Tryz.prog 38 #[ptr rb, .int .i64 z] w fun e w' => e = .returned (.func (.func 98) #[] #[ptr (w.heap.size + 1), ptr (w.heap.size + 1 + 1), ptr (w.heap.size + 1 + 1 + 1)]) ∧
   w' = mtW rb nb (o + q * 12) z w := by
 have hq : q < n := by omega
 have HQ := Lib.hid (show (n : Int) - 1 = (q : Int) by omega)
 have HR := Lib.hid hr
 clear hnq hr
 go_enter Tryz.func38, Tryz.ntmps38
 go_wp2_with fail
 have hS : BoxV 127 w.drew rb #[.slice (some ⟨nb, o, none⟩) n cap, v1, v2] := HR.out
 have hS1 : BoxV 127 (w.drew.alloc (.cells (cpC zrC) 44)) rb #[.slice (some ⟨nb, o, none⟩) n cap, v1, v2] := hS.alloc _
 refine wp_region_held_drew (S := fun u => BoxV 127 u rb #[.slice (some ⟨nb, o, none⟩) n cap, v1, v2]) (by kernel_rfl) hS (fun _ => ?_)
 refine takeAt 0 5 (ptr rb) rfl rfl (by kernel_rfl) (by kernel_rfl) (by kernel_rfl) (fun _ _ _ h => h) (yields (by rfl) (fun w => by kernel_rfl)) hS ?_
 simp only [Act.put, sA, s0, sS]
 refine takeAt 1 6 (ptr rb) rfl rfl (by kernel_rfl) (by kernel_rfl) (by kernel_rfl) (fun _ _ _ h => h) (yields (by rfl) (fun w => by kernel_rfl)) hS ?_
 simp only [Act.put, sA, s0, sS]
 refine takeAt 2 7 (ptr rb) rfl rfl (by kernel_rfl) (by kernel_rfl) (by kernel_rfl) (fun _ _ _ h => h) (yields (by rfl) (fun w => by kernel_rfl)) hS ?_
 simp only [Act.put, sA, s0, sS]
 refine takeAt 3 8 (ptr rb) rfl rfl (by kernel_rfl) (by kernel_rfl) (by kernel_rfl) (fun _ _ _ h => h) (yields (by rfl) (fun w => by kernel_rfl)) hS ?_
 simp only [Act.put, sA, s0, sS]
 refine takeAt 4 9 (.slice (some ⟨nb, o, none⟩) n cap) rfl rfl (by kernel_rfl) (by kernel_rfl) (by kernel_rfl) (fun _ _ _ h => h) (ldSN_y rb 0 _ _ _ (fun _ h => h.get 0 rfl) rfl rfl (by rfl)) hS ?_
 simp only [Act.put, sA, s0, sS]
 refine takeAt 5 10 (ptr rb) rfl rfl (by kernel_rfl) (by kernel_rfl) (by kernel_rfl) (fun _ _ _ h => h) (yields (by rfl) (fun w => by kernel_rfl)) hS ?_
 simp only [Act.put, sA, s0, sS]
 refine takeAt 6 11 (ptr rb) rfl rfl (by kernel_rfl) (by kernel_rfl) (by kernel_rfl) (fun _ _ _ h => h) (yields (by rfl) (fun w => by kernel_rfl)) hS ?_
 simp only [Act.put, sA, s0, sS]
 refine takeAt 7 12 (ptr rb) rfl rfl (by kernel_rfl) (by kernel_rfl) (by kernel_rfl) (fun _ _ _ h => h) (yields (by rfl) (fun w => by kernel_rfl)) hS ?_
 simp only [Act.put, sA, s0, sS]
 refine takeAt 8 13 (.slice (some ⟨nb, o, none⟩) n cap) rfl rfl (by kernel_rfl) (by kernel_rfl) (by kernel_rfl) (fun _ _ _ h => h) (ldSN_y rb 0 _ _ _ (fun _ h => h.get 0 rfl) rfl rfl (by rfl)) hS ?_
 simp only [Act.put, sA, s0, sS]
 refine takeAt 9 14 (.int .i64 (n : Int)) rfl rfl (by kernel_rfl) (by kernel_rfl) (by kernel_rfl) (fun _ _ _ h => h) (yields (by rfl) (fun w => by kernel_rfl)) hS ?_
 simp only [Act.put, sA, s0, sS]
 refine takeAt 10 15 (.int .i64 ((n : Int) - 1)) rfl rfl (by kernel_rfl) (by kernel_rfl) (by kernel_rfl) (fun _ _ _ h => h) (sub_y (n : Int) 1 (by omega) rfl rfl rfl (by rfl)) hS ?_
 simp only [Act.put, sA, s0, sS]
 rw [HQ.out]
 refine takeAt 11 16 (.pointer (some ⟨nb, o + q * 12, none⟩)) rfl rfl (by kernel_rfl) (by kernel_rfl) (by kernel_rfl) (fun _ _ _ h => h) (ixN_y nb n cap o q hq rfl rfl rfl (by rfl)) hS ?_
 simp only [Act.put, sA, s0, sS]
 refine takeAt 12 17 (.int .i64 z) rfl rfl (by kernel_rfl) (by kernel_rfl) (by kernel_rfl) (fun _ _ _ h => h) (yields (by rfl) (fun w => by kernel_rfl)) hS ?_
 simp only [Act.put, sA, s0, sS]
 refine takeAt 13 18 (.agg (cpC zrC)) rfl rfl (by kernel_rfl) (by kernel_rfl) (by kernel_rfl) (fun _ _ _ h => h) (yields (by rfl) (fun w => by kernel_rfl)) hS ?_
 simp only [Act.put, sA, s0, sS]
 refine valAt 14 19 (.pointer (some ⟨w.heap.size, 0, none⟩)) (w.drew.alloc (.cells (cpC zrC) 44)) rfl rfl (by kernel_rfl) (by rfl) (by kernel_rfl) hS1 ?_
 simp only [Act.put, sA, s0, sS]
 replace hS := hS1
 refine takeAt 15 20 (.agg (spA z (some ⟨w.heap.size, 0, none⟩))) rfl rfl (by kernel_rfl) (by kernel_rfl) (by kernel_rfl) (fun _ _ _ h => h) (yields (by rfl) (fun w => by kernel_rfl)) hS ?_
 simp only [Act.put, sA, s0, sS]
 refine callAt 16 21 rfl rfl (by kernel_rfl) (by rfl) (by kernel_rfl) (outcomes_any rb nb (o + q * 12) w.heap.size z (w.drew.alloc (.cells (cpC zrC) 44))) ?_
 rintro e w3 ⟨rfl, rfl⟩
 replace hS := ((hS1.alloc (.cells #[ptr rb] 88)).alloc (.cells #[.pointer (some ⟨nb, o + q * 12, none⟩)] 129)).alloc (.cells (spA z (some ⟨w.heap.size, 0, none⟩)) 93)
 refine ⟨_, rfl, hS, ?_⟩
 simp only [Act.put, sA, s0, sS]
 refine takeAt 17 4 (.func (.func 98) #[] #[ptr (w.drew.alloc (.cells (cpC zrC) 44)).heap.size, ptr ((w.drew.alloc (.cells (cpC zrC) 44)).heap.size + 1), ptr ((w.drew.alloc (.cells (cpC zrC) 44)).heap.size + 1 + 1)]) rfl rfl (by kernel_rfl) (by kernel_rfl) (by kernel_rfl) (fun _ _ _ h => h) (yields (by rfl) (fun w => by kernel_rfl)) hS ?_
 simp only [Act.put, sA, s0, sS]
 refine wpAnyH_done (by kernel_rfl) ?_ _
 clear hS hS1
 go_wp2_with fail
 go_ret
 exact ⟨by simp, rfl⟩
end Go.Proofs.YteiboobdhjdjkaaGreatDoor.Nai
namespace Go.Proofs.YteiboobdhjdjkaaGreatDoor.Nai
open Go.RowKit
open Ast (Nd)
open Cap (Cp cpC zrC BoxV)
def stA (y : Sp) : Array Value := #[.int .i64 (y.1 : Int)] ++ cpC y.2
def stL (y : Sp) : List Value := .int .i64 (y.1 : Int) :: (cpC y.2).toList
theorem stA_list (y : Sp) : stA y = (stL y).toArray := by simp [stA, stL]
theorem stA_get {y : Sp} {j : Nat} {x : Value} (h : (stL y)[j]? = some x) : (stA y)[j]? = some x := by rw [stA_list, List.getElem?_toArray]; exact h
theorem stL_one (y : Sp) : ∀ x ∈ stL y, x.oneCell' = true := by
 have h : (stL y).all Value.oneCell' = true := by simp [stL, Value.oneCell']
 exact fun x hx => List.all_eq_true.1 h x hx
theorem addr_add (g j : Nat) : (⟨g, 0, none⟩ : Addr).add j = ⟨g, j, none⟩ := by
 simp [Addr.add]
 exact fun h => h.symm
theorem owns_same {u u' : World} {base : Nat} {e : TypeId} {size n : Nat} {v : Value} {xs : List Value} (h : u.ownsRow base e size v n xs) (hs : ∀ c, v.ownBlock = some c → u'.heap[c]? = u.heap[c]?) : u'.ownsRow base e size v n xs := by
 refine ⟨h.1, ?_⟩
 rcases h.2 with e | ⟨b, cap, cur, e, h0, k1, k2⟩
 ·exact .inl e
 ·exact .inr ⟨b, cap, cur, e, h0, (hs b (by rw [e]; rfl)).trans k1, k2⟩
def AllO (mb r D : Nat) (v : Value) (O : Nat → Prop) : Prop := ∀ c, O c ↔ c = mb ∨ c = r ∨ c = D ∨ c = D + 1 ∨ v.ownBlock = some c
def AllJ (mb r D many : Nat) (r1 r2 : Loop) (pre : List Sp) (m : Bool) (O : Nat → Prop) (u : World) : Prop :=
 ∃ v, AllO mb r D v O ∧ BoxV 3 u mb #[.int .i64 (many : Int)] ∧ BoxV 29 u r #[v] ∧ u.ownsRow (D + 2) 61 28 v pre.length (pre.flatMap stL) ∧
   if m = true then RecAt D r1 u ∧ pre.length < many else RecAt D r2 u ∧ pre.length = many
theorem AllJ.same {mb r D many : Nat} {r1 r2 : Loop} {pre : List Sp} {m : Bool} {O : Nat → Prop} {u u' : World} (h : AllJ mb r D many r1 r2 pre m O u) (hs : ∀ c, O c → u'.heap[c]? = u.heap[c]?) : AllJ mb r D many r1 r2 pre m O u' := by
 obtain ⟨v, h1, h2, h3, h4, h5⟩ := h
 refine ⟨v, h1, (hs _ ((h1 _).2 (.inl rfl))).trans h2, (hs _ ((h1 _).2 (.inr (.inl rfl)))).trans h3, owns_same h4 (fun c e => hs c ((h1 c).2 (.inr (.inr (.inr (.inr e)))))), ?_⟩
 have k1 := hs _ ((h1 _).2 (.inr (.inr (.inl rfl))))
 have k2 := hs _ ((h1 _).2 (.inr (.inr (.inr (.inl rfl)))))
 cases m with
 | true => exact ⟨h5.1.keep k1 k2, h5.2⟩
 | false => exact ⟨h5.1.keep k1 k2, h5.2⟩
theorem AllJ.own {mb r D many : Nat} {r1 r2 : Loop} {pre : List Sp} {m : Bool} {O : Nat → Prop} {u : World} (h : AllJ mb r D many r1 r2 pre m O u) : ∀ c, O c → c < u.heap.size := by
 obtain ⟨v, h1, h2, h3, h4, h5⟩ := h
 intro c hc
 have hr : D < u.heap.size ∧ D + 1 < u.heap.size := by
  cases m with
  | true => exact ⟨(Array.getElem?_eq_some_iff.1 h5.1.dfr).1, (Array.getElem?_eq_some_iff.1 h5.1.lp).1⟩
  | false => exact ⟨(Array.getElem?_eq_some_iff.1 h5.1.dfr).1, (Array.getElem?_eq_some_iff.1 h5.1.lp).1⟩
 rcases (h1 c).1 hc with rfl | rfl | rfl | rfl | e
 ·exact h2.lt
 ·exact h3.lt
 ·exact hr.1
 ·exact hr.2
 ·exact (h4.lt c e).2
theorem AllJ.told (mb r D many : Nat) (r1 r2 : Loop) : Told (AllJ mb r D many r1 r2) where
 own := AllJ.own
 keep := fun h _ hs => h.same hs
 cell := by
  intro pre m O u mb2 b0 b h hb hn
  refine h.same fun c hc => heap_setCell_other _ _ _ _ ?_
  intro e
  have e : c = mb2 := e
  exact hn (e ▸ hc)
section
variable {a : Act} {o : Oper} {x y : Operand} {w : World}
theorem ldSS_run (b : Nat) (v : Value) (hc : BoxV 29 w b #[v]) (ho : o.op = .load 29 x) (hx : a.eval x = .pointer (some ⟨b, 0, none⟩)) : (execOp a.eval o).run Tryz.prog w = .ok (.value v) w := by
 have hg := hc.get 0 rfl
 unfold execOp
 simp only [ho, hx]
 go_simp
theorem stSS_run (g : Nat) (v : Value) (A : Option Addr) (n c : Nat) (hg : BoxV 29 w g #[v]) (ho : o.op = .store 29 x y) (hx : a.eval x = .pointer (some ⟨g, 0, none⟩)) (hy : a.eval y = .slice A n c) : (execOp a.eval o).run Tryz.prog w = .ok .skip (w.setCell ⟨g, 0, none⟩ (.slice A n c)) := by
 have hf := hg.free 0
 have hc := hg.get 0 rfl
 unfold execOp
 simp only [ho, hx, hy]
 simp [go_sem, hf, hc]
end
theorem infoSt : (Tryz.prog.info? 61).map (fun i => (i.zero, i.size, i.bytes)) = some (some (.agg (stA (0, zrC))), 28, 168) := by kernel_rfl
end Go.Proofs.YteiboobdhjdjkaaGreatDoor.Nai
