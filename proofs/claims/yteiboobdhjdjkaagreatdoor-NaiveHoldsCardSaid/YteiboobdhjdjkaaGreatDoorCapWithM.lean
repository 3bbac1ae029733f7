import Derived.Test.YteiboobdhjdjkaaGreatDoorCapKitM
import Derived.Test.YteiboobdhjdjkaaGreatDoorMz
import Derived.Lib.Join
import Derived.Lib.ItoaNum
import Derived.Lib.LaidTab
import Derived.Deep.MidRow
namespace Go.Proofs.YteiboobdhjdjkaaGreatDoor.Cap
open Go.RowKit
abbrev capE (c : Cp) (e : Int) : Value := .tuple #[.agg (cpC c), .int .i64 e]
theorem resCE {fn : Func} {p q : Tmp} (h : fn.results = #[.cell p 44, .tmp q]) (tmps : Array Value) {w : World} {g : Nat} {c : Cp} {e : Int} (hp : tmps.getD p undef = .pointer (some ⟨g, 0, none⟩)) (hq : tmps.getD q undef = .int .i64 e) (hg : BoxV 44 w g (cpC c)) :
  (results fn tmps).run Tryz.prog w = .ok (capE c e) w := by
 have hp' : tmps[p]?.getD undef = .pointer (some ⟨g, 0, none⟩) := by simpa using hp
 have hq' : tmps[q]?.getD undef = .int .i64 e := by simpa using hq
 have hl := run_loadVar_row w g _ 44 _ _ _ hg Tryz.underlying44 rfl sizeCaps
 simp [results, h, hp', hq', asAddr, hl]
def WSt (c : Cp) (x y : Int) (w0 w : World) : Prop := Below w0.heap.size w0 w ∧ BoxV 44 w w0.heap.size (cpC c) ∧ BoxV 44 w (w0.heap.size + 1) (cpC zrC) ∧ BoxV 25 w (w0.heap.size + 2) #[.int .i64 x, .int .i64 y]
theorem WSt.start (c : Cp) (x y : Int) (w : World) : WSt c x y w (((w.alloc (.cells (cpC c) 44)).alloc (.cells (cpC zrC) 44)).alloc (.cells #[.int .i64 x, .int .i64 y] 25)) := by
 refine ⟨by go_grown, ((BoxV.new w _).alloc _).alloc _, ?_, ?_⟩
 ·have h := (BoxV.new (T := 44) (w.alloc (.cells (cpC c) 44)) (cpC zrC)).alloc (.cells #[.int .i64 x, .int .i64 y] 25)
  simpa using h
 ·have h := BoxV.new (T := 25) ((w.alloc (.cells (cpC c) 44)).alloc (.cells (cpC zrC) 44)) #[.int .i64 x, .int .i64 y]
  simpa using h
theorem WSt.call {c : Cp} {x y : Int} {w0 w w' : World} (h : WSt c x y w0 w) (hb : Below w.heap.size w w') : WSt c x y w0 w' :=
 ⟨thenB h.1 hb h.1.size, h.2.1.below hb h.2.1.lt, h.2.2.1.below hb h.2.2.1.lt, h.2.2.2.below hb h.2.2.2.lt⟩
theorem BoxV.setCell_other {T : TypeId} {w : World} {g j : Nat} {cs : Array Value} (h : BoxV T w g cs) (k : Nat) (v : Value) (hj : g ≠ j) : BoxV T (w.setCell ⟨j, k, none⟩ v) g cs :=
 (Below.heap_setCell w ⟨j, k, none⟩ v g hj).trans h
set_option maxRecDepth 20000 in
theorem with_bad (c : Cp) (g x y : Int) (h : ¬ grpP g) (w : World) : Calls Tryz.prog 60 #[.agg (cpC c), .int .i64 g, .int .i64 x, .int .i64 y] w fun e w' => e = .returned (capE zrC 1) ∧ Below w.heap.size w w' := by
 have HG := Lib.hid (fun w => group_no g h w)
 have HS := Lib.hid (WSt.start c x y w)
 clear h
 go_enter Tryz.func60, Tryz.ntmps60
 go_wp2_with fail
 refine (HG.out _).mono ?_
 rintro e w' ⟨rfl, rfl⟩
 go_wp2_with (refine storeC rfl _ _ rfl (w.heap.size + 1) zrC (cpC zrC) rfl rfl (by rfl) HS.out.2.2.1 ?_; intro u hu hb ho)
 exact bodyPost_ret (resCE (p := 8) (q := 9) rfl _ (g := w.heap.size + 1) rfl rfl hu.out) rfl ⟨rfl, HS.out.1.trans (hb.out _ (by omega))⟩
set_option maxRecDepth 20000 in
theorem with_off (c : Cp) (g x y : Int) (h : grpP g) (h2 : ¬ mayP x y) (w : World) : Calls Tryz.prog 60 #[.agg (cpC c), .int .i64 g, .int .i64 x, .int .i64 y] w fun e w' => e = .returned (capE zrC 1) ∧ Below w.heap.size w w' := by
 have HG := Lib.hid (fun w => group_yes g h w)
 have HF := Lib.hid (fun w => fits_no x y 10000 h2 w)
 have HS := Lib.hid (WSt.start c x y w)
 clear h h2
 go_enter Tryz.func60, Tryz.ntmps60
 go_wp2_with fail
 refine (HG.out _).mono ?_
 rintro e w' ⟨rfl, rfl⟩
 go_wp2_with fail
 refine (HF.out _).mono ?_
 rintro e w1 ⟨rfl, hb⟩
 have HS1 := Lib.hid (HS.out.call hb)
 clear hb HS
 go_wp2_with (refine storeC rfl _ _ rfl (w.heap.size + 1) zrC (cpC zrC) rfl rfl (by rfl) HS1.out.2.2.1 ?_; intro u hu hb ho)
 exact bodyPost_ret (resCE (p := 8) (q := 9) rfl _ (g := w.heap.size + 1) rfl rfl hu.out) rfl ⟨rfl, HS1.out.1.trans (hb.out _ (by omega))⟩
theorem set1_fr (c : Cp) (k : Nat) (h : k < 9) (v : Value) : ((cpC c).setIfInBounds k v)[9 + k * 2]? = some (.int .i64 (c.fr k)) := by
 rcases lt9 h with rfl | rfl | rfl | rfl | rfl | rfl | rfl | rfl | rfl <;> rfl
theorem set1_to (c : Cp) (k : Nat) (h : k < 9) (v : Value) : ((cpC c).setIfInBounds k v)[9 + k * 2 + 1]? = some (.int .i64 (c.to k)) := by
 rcases lt9 h with rfl | rfl | rfl | rfl | rfl | rfl | rfl | rfl | rfl <;> rfl
set_option maxRecDepth 20000 in
set_option maxHeartbeats 1000000 in
theorem with_ok (c : Cp) (k : Nat) (h : k < 9) (x y : Int) (h2 : mayP x y) (w : World) : Calls Tryz.prog 60 #[.agg (cpC c), .int .i64 ((k : Int) + 1), .int .i64 x, .int .i64 y] w fun e w' => e = .returned (capE (c.set k x y) 0) ∧ Below w.heap.size w w' := by
 have HG := Lib.hid (fun w => group_yes ((k : Int) + 1) ⟨by omega, by omega⟩ w)
 have HF := Lib.hid (fun w => fits_yes x y 10000 h2.1 h2.2.1 h2.2.2 w)
 have HS := Lib.hid (WSt.start c x y w)
 clear h2
 go_enter Tryz.func60, Tryz.ntmps60
 go_wp2_with fail
 refine (HG.out _).mono ?_
 rintro e w' ⟨rfl, rfl⟩
 go_wp2_with fail
 refine (HF.out _).mono ?_
 rintro e w1 ⟨rfl, hb⟩
 have HS1 := Lib.hid (HS.out.call hb)
 clear hb HS
 go_wp2_with fail
 have HS2 := Lib.hid (HS1.out.call ((Below.refl _ w1).drew))
 refine wp_region_held_drew (S := fun u => BoxV 25 u (w.heap.size + 2) #[.int .i64 x, .int .i64 y]) (by kernel_rfl) (show _ from HS2.out.2.2.2) (fun hS => ?_)
 clear HS1
 generalize World.drew w1 = v0 at hS HS2 ⊢
 refine takeAt 0 23 (.int .i64 ((k : Int) + 1)) rfl rfl (by kernel_rfl) (by kernel_rfl) (by kernel_rfl) (fun _ _ _ h => h) (yields (by rfl) (fun w => by kernel_rfl)) hS ?_
 simp only [Act.put, sA, s0, sS]
 refine takeAt 1 24 (.int .i64 (k : Int)) rfl rfl (by kernel_rfl) (by kernel_rfl) (by kernel_rfl) (fun _ _ _ h => h) (dec_y k h rfl rfl rfl (by rfl)) hS ?_
 simp only [Act.put, sA, s0, sS]
 refine takeAt 2 25 (.int .i64 ((k : Int) + 1)) rfl rfl (by kernel_rfl) (by kernel_rfl) (by kernel_rfl) (fun _ _ _ h => h) (yields (by rfl) (fun w => by kernel_rfl)) hS ?_
 simp only [Act.put, sA, s0, sS]
 refine takeAt 3 26 (.int .i64 (k : Int)) rfl rfl (by kernel_rfl) (by kernel_rfl) (by kernel_rfl) (fun _ _ _ h => h) (dec_y k h rfl rfl rfl (by rfl)) hS ?_
 simp only [Act.put, sA, s0, sS]
 refine takeAt 4 27 (.agg #[.int .i64 x, .int .i64 y]) rfl rfl (by kernel_rfl) (by kernel_rfl) (by kernel_rfl) (fun _ _ _ h => h) (loadPair_y (w.heap.size + 2) x y (fun _ h => h) rfl rfl (by rfl)) hS ?_
 simp only [Act.put, sA, s0, sS]
 refine takeAt 5 28 (.pointer (some ⟨w.heap.size, 0, none⟩)) rfl rfl (by kernel_rfl) (by kernel_rfl) (by kernel_rfl) (fun _ _ _ h => h) (yields (by rfl) (fun w => by kernel_rfl)) hS ?_
 simp only [Act.put, sA, s0, sS]
 refine takeAt 6 29 (.pointer (some ⟨w.heap.size, 0 + k, none⟩)) rfl rfl (by kernel_rfl) (by kernel_rfl) (by kernel_rfl) (fun _ _ _ h => h) (idxIs_y w.heap.size 0 k h rfl rfl rfl (by rfl)) hS ?_
 simp only [Act.put, sA, s0, sS]
 refine takeAt 8 30 (.pointer (some ⟨w.heap.size, 9, none⟩)) rfl rfl (by kernel_rfl) (by kernel_rfl) (by kernel_rfl) (fun _ _ _ h => h) (yields (by rfl) (fun w => by kernel_rfl)) hS ?_
 simp only [Act.put, sA, s0, sS]
 rw [Nat.zero_add]
 have hb1 := HS2.out.2.1.put k (.bool true)
 have hp1 : BoxV 25 (v0.setCell ⟨w.heap.size, k, none⟩ (.bool true)) (w.heap.size + 2) #[.int .i64 x, .int .i64 y] := (BoxV.setCell_other hS k (.bool true) (by omega))
 refine skipAt 7 (v0.setCell ⟨w.heap.size, k, none⟩ (.bool true)) rfl rfl (by kernel_rfl) (by rfl) (exec_is 44 w.heap.size k (cpC c) h c rfl rfl rfl rfl HS2.out.2.1) hp1 ?_
 refine takeAt 9 31 (.pointer (some ⟨w.heap.size, 9 + k * 2, none⟩)) rfl rfl (by kernel_rfl) (by kernel_rfl) (by kernel_rfl) (fun _ _ _ h => h) (idxAt_y w.heap.size 9 k h rfl rfl rfl (by rfl)) hp1 ?_
 simp only [Act.put, sA, s0, sS]
 have hb2 := (hb1.put (9 + k * 2) (.int .i64 x)).put (9 + k * 2 + 1) (.int .i64 y)
 rw [Nat.mul_comm k 2, cpC_set c k h x y, Nat.mul_comm 2 k] at hb2
 refine skipAt 10 (((v0.setCell ⟨w.heap.size, k, none⟩ (.bool true)).setCell ⟨w.heap.size, 9 + k * 2, none⟩ (.int .i64 x)).setCell ⟨w.heap.size, 9 + k * 2 + 1, none⟩ (.int .i64 y)) rfl rfl (by kernel_rfl) (by rfl) (exec_pair 44 w.heap.size (9 + k * 2) x y (c.fr k) (c.to k) _ rfl rfl rfl hb1 (set1_fr c k h _) (set1_to c k h _)) (BoxV.setCell_other (BoxV.setCell_other hp1 _ _ (by omega)) _ _ (by omega)) ?_
 refine wpAnyH_done (by kernel_rfl) ?_ _
 have hw : Below w.heap.size w (((v0.setCell ⟨w.heap.size, k, none⟩ (.bool true)).setCell ⟨w.heap.size, 9 + k * 2, none⟩ (.int .i64 x)).setCell ⟨w.heap.size, 9 + k * 2 + 1, none⟩ (.int .i64 y)) := ((HS2.out.1.setCell (by simp) _).setCell (by simp) _).setCell (by simp) _
 have hr : BoxV 44 (((v0.setCell ⟨w.heap.size, k, none⟩ (.bool true)).setCell ⟨w.heap.size, 9 + k * 2, none⟩ (.int .i64 x)).setCell ⟨w.heap.size, 9 + k * 2 + 1, none⟩ (.int .i64 y)) (w.heap.size + 1) (cpC zrC) := BoxV.setCell_other (BoxV.setCell_other (BoxV.setCell_other HS2.out.2.2.1 _ _ (by omega)) _ _ (by omega)) _ _ (by omega)
 generalize ((v0.setCell ⟨w.heap.size, k, none⟩ (.bool true)).setCell ⟨w.heap.size, 9 + k * 2, none⟩ (.int .i64 x)).setCell ⟨w.heap.size, 9 + k * 2 + 1, none⟩ (.int .i64 y) = v1 at hw hr hb2 ⊢
 have HW := Lib.hid hw
 have HR := Lib.hid hr
 have H2 := Lib.hid hb2
 clear hw hr hb2 hp1 hb1 hS HS2
 go_wp2_with (first | (refine loadC rfl _ rfl w.heap.size (c.set k x y) rfl H2.out ?_) | (refine storeC rfl _ _ rfl (w.heap.size + 1) (c.set k x y) (cpC zrC) rfl rfl (by rfl) HR.out ?_; intro u hu hb ho))
 exact bodyPost_ret (resCE (p := 8) (q := 9) rfl _ (g := w.heap.size + 1) rfl rfl hu.out) rfl ⟨rfl, HW.out.trans (hb.out _ (by omega))⟩
theorem with_any (c : Cp) (g x y : Int) (w : World) : Calls Tryz.prog 60 #[.agg (cpC c), .int .i64 g, .int .i64 x, .int .i64 y] w fun e w' => e = .returned (capE (withZ c g x y).1 (withZ c g x y).2) ∧ Below w.heap.size w w' := by
 unfold withZ
 by_cases h : grpP g
 ·by_cases h2 : mayP x y
  ·rw [if_pos ⟨h, h2⟩]
   obtain ⟨k, rfl⟩ : ∃ k : Nat, g = (k : Int) + 1 := ⟨(g - 1).toNat, by have := h.1; omega⟩
   have e : ((k : Int) + 1 - 1).toNat = k := by omega
   rw [e]
   exact with_ok c k (by have := h.2; omega) x y h2 w
  ·rw [if_neg (fun e => h2 e.2)]
   exact with_off c g x y h h2 w
 ·rw [if_neg (fun e => h e.1)]
  exact with_bad c g x y h w
end Go.Proofs.YteiboobdhjdjkaaGreatDoor.Cap
namespace Go.Proofs.YteiboobdhjdjkaaGreatDoor.Cap
open Go.RowKit
section
variable {ops : Array Oper} {rest : List Oper} {o : Oper} {a : Act} {w : World} {Q : Exit → Act → World → Prop} {x y : Operand}
end
def RSt (c : Cp) (w0 w : World) : Prop := Below w0.heap.size w0 w ∧ BoxV 49 w w0.heap.size (cpC c) ∧ BoxV 49 w (w0.heap.size + 1) (cpC zrC)
theorem RSt.start (c : Cp) (w : World) : RSt c w ((w.alloc (.cells (cpC c) 49)).alloc (.cells (cpC zrC) 49)) := by
 refine ⟨by go_grown, (BoxV.new w _).alloc _, ?_⟩
 have h := BoxV.new (T := 49) (w.alloc (.cells (cpC c) 49)) (cpC zrC)
 simpa using h
end Go.Proofs.YteiboobdhjdjkaaGreatDoor.Cap
namespace Go.Proofs.YteiboobdhjdjkaaGreatDoor.Cap
open Go.RowKit
def PowOk (w : World) : Prop := Lib.TabIs Tryz.prog w "internal/strconv.uint64pow10" .u64 Lib.pow10Tab
theorem gPow : Tryz.prog.globalNamed "internal/strconv.uint64pow10" = some 3 := by kernel_rfl
theorem PowOk.call {w w' : World} (h : PowOk w) (hb : Below w.heap.size w w') : PowOk w' := by
 unfold PowOk Lib.TabIs World.var? at h ⊢
 rw [gPow] at h ⊢
 simp only [Option.bind_some] at h ⊢
 cases hh : w.heap[3]? with
 | none => rw [hh] at h; cases h
 | some o => rw [(hb.block _ (Array.getElem?_eq_some_iff.1 hh).1).trans hh]; rw [hh] at h; exact h
def CloneOk : Prop := ∀ (s : ByteArray) (w : World), s.size ≤ 281474976710656 → Calls Tryz.prog 153 #[.string s] w fun e w' => e = .returned (.string s) ∧ Below w.heap.size w w'
def PrefixOk : Prop := ∀ (s p : ByteArray) (w : World), Calls Tryz.prog 53 #[.string s, .string p] w fun e w' => e = .returned (.bool (Lib.hasPrefix s.data.toList p.data.toList)) ∧ w' = w
def ItoaOk : Prop := ∀ (n : Int), -9223372036854775808 ≤ n → n ≤ 9223372036854775807 → ∀ w : World, PowOk w → Calls Tryz.prog 129 #[.int .i64 n] w fun e w' => e = .returned (.string ⟨(Lib.itoa n).toArray⟩) ∧ Below w.heap.size w w'
structure JoinOk : Prop where
 none : ∀ (a : Option Addr) (c : Nat) (sep : ByteArray) (w : World), Calls Tryz.prog 96 #[.slice a 0 c, .string sep] w fun e w' => e = .returned (.string ⟨#[]⟩) ∧ w' = w
 some : ∀ (bk o c : Nat) (xs : List ByteArray) (sep : ByteArray) (w : World), (∀ (j : Nat) x, xs[j]? = some x → w.cell? ⟨bk, o + j, .none⟩ = some (.string x)) → bk < w.heap.size → xs.length ≤ 140737488355328 → xs.length ≤ c →
  (Lib.join (xs.map (·.data.toList)) sep.data.toList).length ≤ 140737488355328 → Calls Tryz.prog 96 #[.slice (.some ⟨bk, o, .none⟩) xs.length c, .string sep] w fun e w' => e = .returned (.string ⟨(Lib.join (xs.map (·.data.toList)) sep.data.toList).toArray⟩) ∧ Below w.heap.size w w'
structure LibOk : Prop where
 clone : CloneOk
 pre : PrefixOk
 itoa : ItoaOk
 join : JoinOk
end Go.Proofs.YteiboobdhjdjkaaGreatDoor.Cap
namespace Go.Proofs.YteiboobdhjdjkaaGreatDoor.Cap
open Go.RowKit
def lowN (n : Nat) : Nat := if 65 ≤ n ∧ n ≤ 90 then n + 32 else n
theorem lower_any (n : Nat) (h : n < 256) (w : World) : Calls Tryz.prog 221 #[.int .u8 (n : Int)] w fun e w' => e = .returned (.int .u8 (lowN n : Nat)) ∧ w = w' := by
 unfold lowN
 by_cases h1 : 65 ≤ n
 ·by_cases h2 : n ≤ 90
  ·rw [if_pos ⟨h1, h2⟩]
   go_enter Tryz.func221, Tryz.ntmps221
   go_wp2
   go_ret
   exact ⟨rfl, rfl⟩
  ·rw [if_neg (by omega)]
   have h3 : decide ((n : Int) ≤ 90) = false := decide_eq_false (by omega)
   go_enter Tryz.func221, Tryz.ntmps221
   go_wp2
   go_ret
   exact ⟨rfl, rfl⟩
 ·rw [if_neg (by omega)]
  have h3 : decide (65 ≤ (n : Int)) = false := decide_eq_false (by omega)
  go_enter Tryz.func221, Tryz.ntmps221
  go_wp2
  go_ret
  exact ⟨rfl, rfl⟩
theorem lower_q (n : Nat) (h : n < 256) (w : World) : Calls Tryz.prog 221 #[.int .u8 (n : Int)] w fun e w' => e = .returned (.int .u8 (lowN n : Nat)) ∧ w' = w :=
 (lower_any n h w).mono fun _ _ h => ⟨h.1, h.2.symm⟩
def byB (s : ByteArray) (i : Nat) : Nat := if h : i < s.size then s[i].toNat else 0
theorem byB_eq {s : ByteArray} {i : Nat} (h : i < s.size) : byB s i = s[i].toNat := by unfold byB; rw [dif_pos h]
def eqB (fold : Bool) (a b : Nat) : Bool := a == b || (fold && lowN a == lowN b)
theorem eqB_fold (a b : Nat) : eqB true a b = (lowN a == lowN b) := by
 unfold eqB
 by_cases h : a = b
 ·subst h; simp
 ·simp [h]
def begB (fold : Bool) (s p : ByteArray) : Bool := decide (p.size ≤ s.size) && (List.range p.size).all fun i => eqB fold (byB s i) (byB p i)
theorem begB_iff (fold : Bool) (s p : ByteArray) : begB fold s p = true ↔ p.size ≤ s.size ∧ ∀ i, i < p.size → eqB fold (byB s i) (byB p i) = true := by
 unfold begB
 rw [Bool.and_eq_true, decide_eq_true_eq, List.all_eq_true]
 simp only [List.mem_range]
theorem begB_no {fold : Bool} {s p : ByteArray} (h : ¬ (p.size ≤ s.size ∧ ∀ i, i < p.size → eqB fold (byB s i) (byB p i) = true)) : begB fold s p = false := by
 cases hb : begB fold s p with
 | false => rfl
 | true => exact absurd ((begB_iff _ _ _).1 hb) h
set_option maxRecDepth 20000 in
theorem begins_fold (s p : ByteArray) (hs : s.size ≤ maxLen) (w : World) : Calls Tryz.prog 196 #[.string s, .string p, .bool true] w fun e w' => e = .returned (.bool (begB true s p)) ∧ Below w.heap.size w w' := by
 unfold maxLen at hs
 by_cases hz : s.size < p.size
 ·rw [begB_no (fun e => by omega)]
  go_enter Tryz.func196, Tryz.ntmps196
  go_wp2
  go_ret
  exact ⟨rfl, Below.refl _ _⟩
 ·go_enter Tryz.func196, Tryz.ntmps196
  go_wp2
  go_loopw [20] (fun i wr => ∃ k : Nat, k ≤ p.size ∧ i = .int .i64 k ∧ Hid (∀ j, j < k → lowN (byB s j) = lowN (byB p j)) ∧ Hid (Below w.heap.size w wr)) (fun i _ => p.size - (intOf i).toNat)
  case atStart => exact ⟨0, Nat.zero_le _, rfl, Lib.hid (fun j h => by omega), Lib.hid (Below.refl _ _)⟩
  case round =>
   obtain ⟨k, hk, rfl, HA, HB⟩ := hrel
   by_cases hlt : k < p.size
   ·have hks : k < s.size := by omega
    have b1 : s[k].toNat < 256 := s[k].toNat_lt
    have b2 : p[k].toNat < 256 := p[k].toNat_lt
    by_cases he : lowN s[k].toNat = lowN p[k].toNat
    ·have he2 : ((lowN s[k].toNat : Int) == (lowN p[k].toNat : Int)) = true := by rw [he]; simp
     have HE := Lib.hid he
     clear he
     go_wp2_with fail
     go_quiet ((go_at_call 221; exact Calls.quiet_of_same (lower_q _ (by assumption) _)))
     go_wp2_with fail
     have e1 := byB_eq hks
     have e2 := byB_eq hlt
     exact ⟨⟨k + 1, by omega, by go_num, Lib.hid (fun j hj => by
      rcases Nat.lt_or_ge j k with h | h
      ·exact HA.out j h
      ·obtain rfl : j = k := by omega
       rw [e1, e2]; exact HE.out), Lib.hid (below_drewN HB.out nq)⟩, by simp [intOf]; omega⟩
    ·have he2 : ((lowN s[k].toNat : Int) != (lowN p[k].toNat : Int)) = true := by
      rw [bne_iff_ne]; intro e; exact he (Int.ofNat.inj e)
     have hn : begB true s p = false := begB_no (fun e => he (by
      have := e.2 k hlt
      rw [eqB_fold, beq_iff_eq, byB_eq hks, byB_eq hlt] at this
      exact this))
     have HN := Lib.hid hn
     clear he hn
     go_wp2_with fail
     go_quiet ((go_at_call 221; exact Calls.quiet_of_same (lower_q _ (by assumption) _)))
     go_wp2_with fail
     go_ret
     exact ⟨ret_b HN.out.symm, below_drewN HB.out _⟩
   ·have hke : k = p.size := by omega
    have hy : begB true s p = true := (begB_iff _ _ _).2 ⟨by omega, fun j hj => by rw [eqB_fold, beq_iff_eq]; exact HA.out j (by omega)⟩
    have HY := Lib.hid hy
    clear hy hke
    go_wp2_with fail
    go_ret
    exact ⟨ret_b HY.out.symm, HB.out⟩
theorem byB_list {s : ByteArray} {i : Nat} (h : i < s.data.toList.length) : byB s i = (s.data.toList[i]).toNat := by
 rw [byB_eq (by simpa using h)]
 rfl
theorem prefix_eq (s p : ByteArray) : Lib.hasPrefix s.data.toList p.data.toList = begB false s p := by
 rw [Bool.eq_iff_iff, begB_iff]
 unfold Lib.hasPrefix
 rw [List.isPrefixOf_iff_prefix]
 have eb : ∀ i, eqB false (byB s i) (byB p i) = true ↔ byB s i = byB p i := fun i => by unfold eqB; simp
 have ls : s.data.toList.length = s.size := by simp
 have lp : p.data.toList.length = p.size := by simp
 constructor
 ·rintro ⟨t, ht⟩
  have hl : p.size ≤ s.size := by rw [← ls, ← lp, ← ht]; simp
  refine ⟨hl, fun i hi => (eb i).2 ?_⟩
  rw [byB_list (by omega), byB_list (by omega)]
  congr 1
  rw [← Option.some_inj, ← List.getElem?_eq_getElem, ← List.getElem?_eq_getElem, ← ht, List.getElem?_append_left (by omega)]
 ·rintro ⟨hl, h⟩
  rw [List.prefix_iff_eq_take]
  refine List.ext_getElem (by simp; omega) fun i h1 h2 => ?_
  have e := (eb i).1 (h i (by omega))
  rw [byB_list (by omega), byB_list h1] at e
  rw [List.getElem_take]
  exact (UInt8.toNat_inj.1 e).symm
theorem begins_any (L : LibOk) (fold : Bool) (s p : ByteArray) (hs : s.size ≤ maxLen) (w : World) : Calls Tryz.prog 196 #[.string s, .string p, .bool fold] w fun e w' => e = .returned (.bool (begB fold s p)) ∧ Below w.heap.size w w' := by
 cases fold with
 | true => exact begins_fold s p hs w
 | false =>
   have HP := Lib.hid (fun w => L.pre s p w)
   rw [← prefix_eq]
   generalize Lib.hasPrefix s.data.toList p.data.toList = X at HP ⊢
   clear L
   go_enter Tryz.func196, Tryz.ntmps196
   go_wp2_with fail
   refine (HP.out _).mono ?_
   rintro e w1 ⟨rfl, rfl⟩
   go_wp2_with fail
   go_ret
   exact ⟨rfl, Below.refl _ _⟩
end Go.Proofs.YteiboobdhjdjkaaGreatDoor.Cap
