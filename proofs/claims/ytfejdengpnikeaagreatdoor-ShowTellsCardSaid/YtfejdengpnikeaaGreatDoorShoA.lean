/-
  ShoDef, ShoByte, ShoShelf, ShoSetW, ShoPart
-/
import Derived.Test.YtfejdengpnikeaaGreatDoorClassM
import Derived.Test.YtfejdengpnikeaaGreatDoorSetsM
import Derived.Test.YtfejdengpnikeaaGreatDoorAstB
import Derived.Test.YtfejdengpnikeaaGreatDoorTakeG
import Derived.RegionTactic
import Derived.Shelf.Strings.Builder1
import Derived.Shelf.Strconv.Itoa3
import Derived.Shelf.Slices.Turned
import Derived.Shelf.Strings.BuilderK
import Derived.Deep.DeepCutAuto
namespace Go.Proofs.YtfejdengpnikeaaGreatDoor
open Ast (Nd siz foldT foldT_succ kidsZ)

/-- The set of a node's words. -/
def setOf (x : Nd) : BitVec 256 := BitVec.ofNat 256 (x.s0.toNat + 2 ^ 64 * x.s1.toNat + 2 ^ 128 * x.s2.toNat + 2 ^ 192 * x.s3.toNat)
def is9 (k : Int) : Bool := decide (k = 9)
def is89 (k : Int) : Bool := decide (k = 8 ∨ k = 9)
def is8a (k : Int) : Bool := decide (k = 8 ∨ k = 9 ∨ k = 10)
/-- A byte's text. -/
def hexD (n : Nat) : UInt8 := UInt8.ofNat (if n < 10 then 48 + n else 87 + n)
def plainB (c : Nat) : Bool := decide (97 ≤ c ∧ c ≤ 122 ∨ 65 ≤ c ∧ c ≤ 90 ∨ 48 ≤ c ∧ c ≤ 57 ∨ c = 95 ∨ c = 32)
def textB (c : Nat) : ByteArray := if plainB c = true then ⟨#[UInt8.ofNat c]⟩ else ⟨#[92, 120, hexD (c / 16), hexD (c % 16)]⟩
/-- A run's text; the text of runs, one behind the other. -/
def runB (r : Nat × Nat) : ByteArray := if r.1 = r.2 then textB r.1 else (textB r.1 ++ ⟨#[45]⟩) ++ textB r.2
def runsB : List (Nat × Nat) → ByteArray
  | [] => ByteArray.empty
  | r :: l => runB r ++ runsB l
def noneB : ByteArray := ⟨#[91, 94, 92, 120, 48, 48, 45, 92, 120, 102, 102, 93]⟩
/-- A set's text. -/
def setP (S : BitVec 256) : ByteArray := if lenS S = 0 then noneB else if lenS S = 1 then textB (minS S) else (⟨#[91]⟩ ++ runsB (runs S)) ++ ⟨#[93]⟩

theorem runsB_snoc (r : Nat × Nat) : ∀ l, runsB (l ++ [r]) = runsB l ++ runB r
  | [] => by
    show runB r ++ ByteArray.empty = ByteArray.empty ++ runB r
    rw [ByteArray.append_empty, ByteArray.empty_append]
  | x :: l => by
    show runB x ++ runsB (l ++ [r]) = (runB x ++ runsB l) ++ runB r
    rw [runsB_snoc r l, ByteArray.append_assoc]
def digB (n : Nat) : UInt8 := UInt8.ofNat (48 + n)
/-- A number's digits, of a number up to 999. -/
def numT (n : Nat) : ByteArray := if n < 10 then ⟨#[digB n]⟩ else if n < 100 then ⟨#[digB (n / 10), digB (n % 10)]⟩ else ⟨#[digB (n / 100), digB (n / 10 % 10), digB (n % 10)]⟩
def oftenB (mn mx : Int) : ByteArray :=
  if mn = 0 ∧ mx = -1 then ⟨#[42]⟩ else if mn = 1 ∧ mx = -1 then ⟨#[43]⟩ else if mn = 0 ∧ mx = 1 then ⟨#[63]⟩
  else if mx = mn then (⟨#[123]⟩ ++ numT mn.toNat) ++ ⟨#[125]⟩
  else if mx = -1 then (⟨#[123]⟩ ++ numT mn.toNat) ++ ⟨#[44, 125]⟩
  else (((⟨#[123]⟩ ++ numT mn.toNat) ++ ⟨#[44]⟩) ++ numT mx.toNat) ++ ⟨#[125]⟩
def mannerB (md : Int) : ByteArray := if md = 1 then ⟨#[63]⟩ else if md = 2 then ⟨#[43]⟩ else ByteArray.empty

def inB (b : Bool) (x : ByteArray) : ByteArray := if b = true then (⟨#[40, 63, 58]⟩ ++ x) ++ ⟨#[41]⟩ else x
def backT (x : Nd) : ByteArray := ⟨#[92]⟩ ++ numT x.n.toNat
def leafB (x : Nd) : ByteArray :=
  if x.k = 0 then ⟨#[40, 63, 58, 41]⟩ else if x.k = 1 then setP (setOf x) else if x.k = 2 then ⟨#[94]⟩ else if x.k = 3 then ⟨#[36]⟩
  else if x.k = 4 then ⟨#[40, 63, 109, 58, 94, 41]⟩ else if x.k = 5 then ⟨#[40, 63, 109, 58, 36, 41]⟩ else if x.k = 6 then ⟨#[92, 98]⟩ else if x.k = 7 then ⟨#[92, 66]⟩
  else if x.f = true then (⟨#[40, 63, 105, 58]⟩ ++ backT x) ++ ⟨#[41]⟩ else backT x
def openB (k : Int) : ByteArray := if k = 11 then ⟨#[40]⟩ else if k = 13 then ⟨#[40, 63, 61]⟩ else if k = 14 then ⟨#[40, 63, 33]⟩ else if k = 15 then ⟨#[40, 63, 60, 61]⟩ else if k = 16 then ⟨#[40, 63, 60, 33]⟩ else ⟨#[40, 63, 62]⟩
/-- The pattern of the tree of node j - 1. -/
def showT (l : Nat → Nd) (j : Nat) : ByteArray :=
  foldT l ByteArray.empty (fun i => leafB (l i))
    (fun i x => if (l i).k = 10 then (inB (is8a (l (i - 1)).k) x ++ oftenB (l i).mn (l i).mx) ++ mannerB (l i).md else (openB (l i).k ++ x) ++ ⟨#[41]⟩)
    (fun i x y => if (l i).k = 8 then inB (is9 (l (i - siz l i - 1)).k) x ++ inB (is89 (l (i - 1)).k) y else (x ++ ⟨#[124]⟩) ++ inB (is9 (l (i - 1)).k) y) j
variable {l : Nat → Nd}
theorem show_k0 {j : Nat} (hk : kidsZ (l j).k = 0) : showT l (j + 1) = leafB (l j) := by unfold showT; rw [foldT_succ, if_pos hk]
theorem show_k1 {j : Nat} (hk : kidsZ (l j).k = 1) : showT l (j + 1) = if (l j).k = 10 then (inB (is8a (l (j - 1)).k) (showT l j) ++ oftenB (l j).mn (l j).mx) ++ mannerB (l j).md else (openB (l j).k ++ showT l j) ++ ⟨#[41]⟩ := by
  unfold showT; rw [foldT_succ, if_neg (by rw [hk]; decide), if_pos hk]
theorem show_k2 {j : Nat} (hk : kidsZ (l j).k = 2) : showT l (j + 1) = if (l j).k = 8 then inB (is9 (l (j - siz l j - 1)).k) (showT l (j - siz l j)) ++ inB (is89 (l (j - 1)).k) (showT l j) else (showT l (j - siz l j) ++ ⟨#[124]⟩) ++ inB (is9 (l (j - 1)).k) (showT l j) := by
  unfold showT; rw [foldT_succ, if_neg (by rw [hk]; decide), if_neg (by rw [hk]; decide)]

end Go.Proofs.YtfejdengpnikeaaGreatDoor

namespace Go.Proofs.YtfejdengpnikeaaGreatDoor
open Go.RowKit

theorem enc_one : ∀ c : Nat, c < 128 → Utf8.encode (c : Int) = ⟨#[UInt8.ofNat c]⟩ := by decide +kernel
theorem plain_lt {c : Nat} (h : plainB c = true) : c < 128 := by
  unfold plainB at h
  simp only [decide_eq_true_eq] at h
  omega
theorem text_plain {c : Nat} (h : plainB c = true) : textB c = Utf8.encode (c : Int) := by
  unfold textB
  rw [if_pos h, enc_one c (plain_lt h)]
theorem ret_str {a b : ByteArray} (h : a = b) : Ending.returned (.string a) = .returned (.string b) := by rw [h]
/-- The digits. -/
theorem hex_idx : ∀ a : Nat, a < 16 → (⟨#[48, 49, 50, 51, 52, 53, 54, 55, 56, 57, 97, 98, 99, 100, 101, 102]⟩ : ByteArray)[a]? = some (hexD a) := by decide
theorem hex_enc : ∀ a : Nat, a < 16 → Utf8.encode (((hexD a).toNat : Nat) : Int) = ⟨#[hexD a]⟩ := by decide +kernel

section
variable {ops : Array Oper} {R : World → Prop} {a : Act} {o : Oper} {x y : Operand}
theorem quo8_y {c : Nat} (hc : c < 256) (ho : o.op = .binOp .quo 5 x (.const (.int .u8 16)) 5) (hx : a.eval x = .int .u8 (c : Int)) (hw : Region.wanted o (yielded ops a.tmps) = true) : YieldsIf Tryz.prog ops R o (.int .u8 ((c / 16 : Nat) : Int)) a := by
  refine Or.inl ⟨hw, fun w _ => ?_⟩
  unfold execOp
  simp only [ho, hx]
  go_simp
  rw [IntKind.wrap_u8]
  omega
theorem rem8_y {c : Nat} (hc : c < 256) (ho : o.op = .binOp .rem 5 x (.const (.int .u8 16)) 5) (hx : a.eval x = .int .u8 (c : Int)) (hw : Region.wanted o (yielded ops a.tmps) = true) : YieldsIf Tryz.prog ops R o (.int .u8 ((c % 16 : Nat) : Int)) a := by
  refine Or.inl ⟨hw, fun w _ => ?_⟩
  have h : (c : Int).tmod 16 = ((c % 16 : Nat) : Int) := by rw [Int.tmod_eq_emod_of_nonneg (by omega)]; omega
  unfold execOp
  simp only [ho, hx]
  simp [go_sem, h]
abbrev digsC : ByteArray := ⟨#[48, 49, 50, 51, 52, 53, 54, 55, 56, 57, 97, 98, 99, 100, 101, 102]⟩
theorem hex_y {c : Nat} (hc : c < 16) (ho : o.op = .index 9 (.const (.string digsC)) x) (hx : a.eval x = .int .u8 (c : Int)) (hw : Region.wanted o (yielded ops a.tmps) = true) : YieldsIf Tryz.prog ops R o (.int .u8 (((hexD c).toNat : Nat) : Int)) a := by
  refine Or.inl ⟨hw, fun w _ => ?_⟩
  unfold execOp
  simp only [ho, hx]
  rcases (show c = 0 ∨ c = 1 ∨ c = 2 ∨ c = 3 ∨ c = 4 ∨ c = 5 ∨ c = 6 ∨ c = 7 ∨ c = 8 ∨ c = 9 ∨ c = 10 ∨ c = 11 ∨ c = 12 ∨ c = 13 ∨ c = 14 ∨ c = 15 by omega) with rfl | rfl | rfl | rfl | rfl | rfl | rfl | rfl | rfl | rfl | rfl | rfl | rfl | rfl | rfl | rfl
  all_goals kernel_rfl
theorem chr_y {c : Nat} (hc : c < 16) (ho : o.op = .convert 5 9 x) (hx : a.eval x = .int .u8 (((hexD c).toNat : Nat) : Int)) (hw : Region.wanted o (yielded ops a.tmps) = true) : YieldsIf Tryz.prog ops R o (.string ⟨#[hexD c]⟩) a := by
  refine Or.inl ⟨hw, fun w _ => ?_⟩
  have h := hex_enc c hc
  unfold execOp
  simp only [ho, hx]
  simp [go_sem, h]
theorem catS_y (Z A B : ByteArray) (hs : A ++ B = Z) (hz : A.size + B.size ≤ 1000000) (ho : o.op = .binOp .add 9 x y 9) (hx : a.eval x = .string A) (hy : a.eval y = .string B) (hw : Region.wanted o (yielded ops a.tmps) = true) : YieldsIf Tryz.prog ops R o (.string Z) a := by
  refine Or.inl ⟨hw, fun w _ => ?_⟩
  have h : (Op.stringOp .add A B).run Tryz.prog w = .ok (.string Z) w := by rw [← hs]; exact run_string_add_sum w A B (by omega)
  unfold execOp
  simp only [ho, hx, hy]
  simp [go_sem, h]
end
set_option maxHeartbeats 2000000 in
theorem byteText_plain (c : Nat) (hp : plainB c = true) (w : World) : Calls Tryz.prog 24 #[.int .u8 (c : Int)] w fun e w' => e = .returned (.string (textB c)) ∧ Below w.heap.size w w' := by
  have hk : 97 ≤ c ∧ c ≤ 122 ∨ 65 ≤ c ∧ c ≤ 90 ∨ 48 ≤ c ∧ c ≤ 57 ∨ c = 95 ∨ c = 32 := by unfold plainB at hp; simpa using hp
  have hw32 : IntKind.i32.wrap (c : Int) = (c : Int) := by
    have := plain_lt hp
    rw [IntKind.wrap_i32]
    omega
  rw [text_plain hp]
  clear hp
  rcases hk with ⟨q1, q2⟩ | ⟨q1, q2⟩ | ⟨q1, q2⟩ | rfl | rfl
  · have a1 : (97 : Int) ≤ (c : Int) := by omega
    have a2 : (c : Int) ≤ 122 := by omega
    clear q1 q2
    go_enter Tryz.func24, Tryz.ntmps24
    go_wp2
    go_ret
    exact ⟨rfl, Below.refl _ _⟩
  · have a1 : ¬ (97 : Int) ≤ (c : Int) := by omega
    have a2 : (65 : Int) ≤ (c : Int) := by omega
    have a3 : (c : Int) ≤ 90 := by omega
    clear q1 q2
    go_enter Tryz.func24, Tryz.ntmps24
    go_wp2
    go_ret
    exact ⟨rfl, Below.refl _ _⟩
  · have a1 : ¬ (97 : Int) ≤ (c : Int) := by omega
    have a2 : ¬ (65 : Int) ≤ (c : Int) := by omega
    have a3 : (48 : Int) ≤ (c : Int) := by omega
    have a4 : (c : Int) ≤ 57 := by omega
    clear q1 q2
    go_enter Tryz.func24, Tryz.ntmps24
    go_wp2
    go_ret
    exact ⟨rfl, Below.refl _ _⟩
  · go_enter Tryz.func24, Tryz.ntmps24
    go_wp2
    go_ret
    exact ⟨rfl, Below.refl _ _⟩
  · go_enter Tryz.func24, Tryz.ntmps24
    go_wp2
    go_ret
    exact ⟨rfl, Below.refl _ _⟩
set_option maxRecDepth 20000 in
set_option maxHeartbeats 4000000 in
theorem byteText_hex (c : Nat) (hc : c < 256) (hp : ¬ plainB c = true) (w : World) : Calls Tryz.prog 24 #[.int .u8 (c : Int)] w fun e w' => e = .returned (.string (textB c)) ∧ Below w.heap.size w w' := by
  have h95 : c ≠ 95 := fun e => hp (by subst e; rfl)
  have h32 : c ≠ 32 := fun e => hp (by subst e; rfl)
  have hn : c < 48 ∨ 57 < c ∧ c < 65 ∨ 90 < c ∧ c < 97 ∨ 122 < c := by
    unfold plainB at hp
    simp only [decide_eq_true_eq] at hp
    omega
  rw [show textB c = ⟨#[92, 120, hexD (c / 16), hexD (c % 16)]⟩ by unfold textB; rw [if_neg hp]]
  clear hp
  rcases hn with hn | hn | hn | hn
  · have e1 : ((c : Int) == 95) = false := beq_eq_false_iff_ne.2 (by omega)
    have e2 : ((c : Int) == 32) = false := beq_eq_false_iff_ne.2 (by omega)
    have a0 : ¬ (97 : Int) ≤ (c : Int) := by omega
    have a1 : ¬ (65 : Int) ≤ (c : Int) := by omega
    have a2 : ¬ (48 : Int) ≤ (c : Int) := by omega
    clear hn h95 h32
    go_enter Tryz.func24, Tryz.ntmps24
    go_wp2_with fail
    refine wp_region_held_drew (S := fun u => Below w.heap.size w u) (by kernel_rfl) (show _ from (Below.refl _ w).drew) (fun hS => ?_)
    generalize World.drew w = u0 at hS ⊢
    refine takeAt 0 29 (.int .u8 (c : Int)) rfl rfl (by kernel_rfl) (by kernel_rfl) (by kernel_rfl) (fun _ _ _ h => h) (yields (by rfl) (fun w => by kernel_rfl)) hS ?_
    simp only [Act.put, List.setIfInBounds_toArray, List.set_cons_zero, List.set_cons_succ]
    refine takeAt 1 30 (.int .u8 ((c / 16 : Nat) : Int)) rfl rfl (by kernel_rfl) (by kernel_rfl) (by kernel_rfl) (fun _ _ _ h => h) (quo8_y hc rfl rfl (by rfl)) hS ?_
    simp only [Act.put, List.setIfInBounds_toArray, List.set_cons_zero, List.set_cons_succ]
    refine takeAt 2 31 (.int .u8 (((hexD (c / 16)).toNat : Nat) : Int)) rfl rfl (by kernel_rfl) (by kernel_rfl) (by kernel_rfl) (fun _ _ _ h => h) (hex_y (by omega) rfl rfl (by rfl)) hS ?_
    simp only [Act.put, List.setIfInBounds_toArray, List.set_cons_zero, List.set_cons_succ]
    refine takeAt 3 32 (.string ⟨#[hexD (c / 16)]⟩) rfl rfl (by kernel_rfl) (by kernel_rfl) (by kernel_rfl) (fun _ _ _ h => h) (chr_y (by omega) rfl rfl (by rfl)) hS ?_
    simp only [Act.put, List.setIfInBounds_toArray, List.set_cons_zero, List.set_cons_succ]
    refine takeAt 4 33 (.string ⟨#[92, 120, hexD (c / 16)]⟩) rfl rfl (by kernel_rfl) (by kernel_rfl) (by kernel_rfl) (fun _ _ _ h => h) (catS_y _ ⟨#[92, 120]⟩ ⟨#[hexD (c / 16)]⟩ rfl (by show 2 + 1 ≤ 1000000; decide) rfl rfl rfl (by rfl)) hS ?_
    simp only [Act.put, List.setIfInBounds_toArray, List.set_cons_zero, List.set_cons_succ]
    refine takeAt 5 34 (.int .u8 (c : Int)) rfl rfl (by kernel_rfl) (by kernel_rfl) (by kernel_rfl) (fun _ _ _ h => h) (yields (by rfl) (fun w => by kernel_rfl)) hS ?_
    simp only [Act.put, List.setIfInBounds_toArray, List.set_cons_zero, List.set_cons_succ]
    refine takeAt 6 35 (.int .u8 ((c % 16 : Nat) : Int)) rfl rfl (by kernel_rfl) (by kernel_rfl) (by kernel_rfl) (fun _ _ _ h => h) (rem8_y hc rfl rfl (by rfl)) hS ?_
    simp only [Act.put, List.setIfInBounds_toArray, List.set_cons_zero, List.set_cons_succ]
    refine takeAt 7 36 (.int .u8 (((hexD (c % 16)).toNat : Nat) : Int)) rfl rfl (by kernel_rfl) (by kernel_rfl) (by kernel_rfl) (fun _ _ _ h => h) (hex_y (by omega) rfl rfl (by rfl)) hS ?_
    simp only [Act.put, List.setIfInBounds_toArray, List.set_cons_zero, List.set_cons_succ]
    refine takeAt 8 37 (.string ⟨#[hexD (c % 16)]⟩) rfl rfl (by kernel_rfl) (by kernel_rfl) (by kernel_rfl) (fun _ _ _ h => h) (chr_y (by omega) rfl rfl (by rfl)) hS ?_
    simp only [Act.put, List.setIfInBounds_toArray, List.set_cons_zero, List.set_cons_succ]
    refine takeAt 9 38 (.string ⟨#[92, 120, hexD (c / 16), hexD (c % 16)]⟩) rfl rfl (by kernel_rfl) (by kernel_rfl) (by kernel_rfl) (fun _ _ _ h => h) (catS_y _ ⟨#[92, 120, hexD (c / 16)]⟩ ⟨#[hexD (c % 16)]⟩ rfl (by show 3 + 1 ≤ 1000000; decide) rfl rfl rfl (by rfl)) hS ?_
    simp only [Act.put, List.setIfInBounds_toArray, List.set_cons_zero, List.set_cons_succ]
    refine takeAt 10 2 (.string ⟨#[92, 120, hexD (c / 16), hexD (c % 16)]⟩) rfl rfl (by kernel_rfl) (by kernel_rfl) (by kernel_rfl) (fun _ _ _ h => h) (yields (by rfl) (fun w => by kernel_rfl)) hS ?_
    simp only [Act.put, List.setIfInBounds_toArray, List.set_cons_zero, List.set_cons_succ]
    refine wpAnyH_done (by kernel_rfl) ?_ _
    go_wp2
    go_ret
    exact ⟨rfl, hS⟩
  · have e1 : ((c : Int) == 95) = false := beq_eq_false_iff_ne.2 (by omega)
    have e2 : ((c : Int) == 32) = false := beq_eq_false_iff_ne.2 (by omega)
    have a0 : ¬ (97 : Int) ≤ (c : Int) := by omega
    have a1 : ¬ (65 : Int) ≤ (c : Int) := by omega
    have a2 : (48 : Int) ≤ (c : Int) := by omega
    have a3 : ¬ (c : Int) ≤ 57 := by omega
    clear hn h95 h32
    go_enter Tryz.func24, Tryz.ntmps24
    go_wp2_with fail
    refine wp_region_held_drew (S := fun u => Below w.heap.size w u) (by kernel_rfl) (show _ from (Below.refl _ w).drew) (fun hS => ?_)
    generalize World.drew w = u0 at hS ⊢
    refine takeAt 0 29 (.int .u8 (c : Int)) rfl rfl (by kernel_rfl) (by kernel_rfl) (by kernel_rfl) (fun _ _ _ h => h) (yields (by rfl) (fun w => by kernel_rfl)) hS ?_
    simp only [Act.put, List.setIfInBounds_toArray, List.set_cons_zero, List.set_cons_succ]
    refine takeAt 1 30 (.int .u8 ((c / 16 : Nat) : Int)) rfl rfl (by kernel_rfl) (by kernel_rfl) (by kernel_rfl) (fun _ _ _ h => h) (quo8_y hc rfl rfl (by rfl)) hS ?_
    simp only [Act.put, List.setIfInBounds_toArray, List.set_cons_zero, List.set_cons_succ]
    refine takeAt 2 31 (.int .u8 (((hexD (c / 16)).toNat : Nat) : Int)) rfl rfl (by kernel_rfl) (by kernel_rfl) (by kernel_rfl) (fun _ _ _ h => h) (hex_y (by omega) rfl rfl (by rfl)) hS ?_
    simp only [Act.put, List.setIfInBounds_toArray, List.set_cons_zero, List.set_cons_succ]
    refine takeAt 3 32 (.string ⟨#[hexD (c / 16)]⟩) rfl rfl (by kernel_rfl) (by kernel_rfl) (by kernel_rfl) (fun _ _ _ h => h) (chr_y (by omega) rfl rfl (by rfl)) hS ?_
    simp only [Act.put, List.setIfInBounds_toArray, List.set_cons_zero, List.set_cons_succ]
    refine takeAt 4 33 (.string ⟨#[92, 120, hexD (c / 16)]⟩) rfl rfl (by kernel_rfl) (by kernel_rfl) (by kernel_rfl) (fun _ _ _ h => h) (catS_y _ ⟨#[92, 120]⟩ ⟨#[hexD (c / 16)]⟩ rfl (by show 2 + 1 ≤ 1000000; decide) rfl rfl rfl (by rfl)) hS ?_
    simp only [Act.put, List.setIfInBounds_toArray, List.set_cons_zero, List.set_cons_succ]
    refine takeAt 5 34 (.int .u8 (c : Int)) rfl rfl (by kernel_rfl) (by kernel_rfl) (by kernel_rfl) (fun _ _ _ h => h) (yields (by rfl) (fun w => by kernel_rfl)) hS ?_
    simp only [Act.put, List.setIfInBounds_toArray, List.set_cons_zero, List.set_cons_succ]
    refine takeAt 6 35 (.int .u8 ((c % 16 : Nat) : Int)) rfl rfl (by kernel_rfl) (by kernel_rfl) (by kernel_rfl) (fun _ _ _ h => h) (rem8_y hc rfl rfl (by rfl)) hS ?_
    simp only [Act.put, List.setIfInBounds_toArray, List.set_cons_zero, List.set_cons_succ]
    refine takeAt 7 36 (.int .u8 (((hexD (c % 16)).toNat : Nat) : Int)) rfl rfl (by kernel_rfl) (by kernel_rfl) (by kernel_rfl) (fun _ _ _ h => h) (hex_y (by omega) rfl rfl (by rfl)) hS ?_
    simp only [Act.put, List.setIfInBounds_toArray, List.set_cons_zero, List.set_cons_succ]
    refine takeAt 8 37 (.string ⟨#[hexD (c % 16)]⟩) rfl rfl (by kernel_rfl) (by kernel_rfl) (by kernel_rfl) (fun _ _ _ h => h) (chr_y (by omega) rfl rfl (by rfl)) hS ?_
    simp only [Act.put, List.setIfInBounds_toArray, List.set_cons_zero, List.set_cons_succ]
    refine takeAt 9 38 (.string ⟨#[92, 120, hexD (c / 16), hexD (c % 16)]⟩) rfl rfl (by kernel_rfl) (by kernel_rfl) (by kernel_rfl) (fun _ _ _ h => h) (catS_y _ ⟨#[92, 120, hexD (c / 16)]⟩ ⟨#[hexD (c % 16)]⟩ rfl (by show 3 + 1 ≤ 1000000; decide) rfl rfl rfl (by rfl)) hS ?_
    simp only [Act.put, List.setIfInBounds_toArray, List.set_cons_zero, List.set_cons_succ]
    refine takeAt 10 2 (.string ⟨#[92, 120, hexD (c / 16), hexD (c % 16)]⟩) rfl rfl (by kernel_rfl) (by kernel_rfl) (by kernel_rfl) (fun _ _ _ h => h) (yields (by rfl) (fun w => by kernel_rfl)) hS ?_
    simp only [Act.put, List.setIfInBounds_toArray, List.set_cons_zero, List.set_cons_succ]
    refine wpAnyH_done (by kernel_rfl) ?_ _
    go_wp2
    go_ret
    exact ⟨rfl, hS⟩
  · have e1 : ((c : Int) == 95) = false := beq_eq_false_iff_ne.2 (by omega)
    have e2 : ((c : Int) == 32) = false := beq_eq_false_iff_ne.2 (by omega)
    have a0 : ¬ (97 : Int) ≤ (c : Int) := by omega
    have a1 : (65 : Int) ≤ (c : Int) := by omega
    have a2 : ¬ (c : Int) ≤ 90 := by omega
    have a3 : (48 : Int) ≤ (c : Int) := by omega
    have a4 : ¬ (c : Int) ≤ 57 := by omega
    clear hn h95 h32
    go_enter Tryz.func24, Tryz.ntmps24
    go_wp2_with fail
    refine wp_region_held_drew (S := fun u => Below w.heap.size w u) (by kernel_rfl) (show _ from (Below.refl _ w).drew) (fun hS => ?_)
    generalize World.drew w = u0 at hS ⊢
    refine takeAt 0 29 (.int .u8 (c : Int)) rfl rfl (by kernel_rfl) (by kernel_rfl) (by kernel_rfl) (fun _ _ _ h => h) (yields (by rfl) (fun w => by kernel_rfl)) hS ?_
    simp only [Act.put, List.setIfInBounds_toArray, List.set_cons_zero, List.set_cons_succ]
    refine takeAt 1 30 (.int .u8 ((c / 16 : Nat) : Int)) rfl rfl (by kernel_rfl) (by kernel_rfl) (by kernel_rfl) (fun _ _ _ h => h) (quo8_y hc rfl rfl (by rfl)) hS ?_
    simp only [Act.put, List.setIfInBounds_toArray, List.set_cons_zero, List.set_cons_succ]
    refine takeAt 2 31 (.int .u8 (((hexD (c / 16)).toNat : Nat) : Int)) rfl rfl (by kernel_rfl) (by kernel_rfl) (by kernel_rfl) (fun _ _ _ h => h) (hex_y (by omega) rfl rfl (by rfl)) hS ?_
    simp only [Act.put, List.setIfInBounds_toArray, List.set_cons_zero, List.set_cons_succ]
    refine takeAt 3 32 (.string ⟨#[hexD (c / 16)]⟩) rfl rfl (by kernel_rfl) (by kernel_rfl) (by kernel_rfl) (fun _ _ _ h => h) (chr_y (by omega) rfl rfl (by rfl)) hS ?_
    simp only [Act.put, List.setIfInBounds_toArray, List.set_cons_zero, List.set_cons_succ]
    refine takeAt 4 33 (.string ⟨#[92, 120, hexD (c / 16)]⟩) rfl rfl (by kernel_rfl) (by kernel_rfl) (by kernel_rfl) (fun _ _ _ h => h) (catS_y _ ⟨#[92, 120]⟩ ⟨#[hexD (c / 16)]⟩ rfl (by show 2 + 1 ≤ 1000000; decide) rfl rfl rfl (by rfl)) hS ?_
    simp only [Act.put, List.setIfInBounds_toArray, List.set_cons_zero, List.set_cons_succ]
    refine takeAt 5 34 (.int .u8 (c : Int)) rfl rfl (by kernel_rfl) (by kernel_rfl) (by kernel_rfl) (fun _ _ _ h => h) (yields (by rfl) (fun w => by kernel_rfl)) hS ?_
    simp only [Act.put, List.setIfInBounds_toArray, List.set_cons_zero, List.set_cons_succ]
    refine takeAt 6 35 (.int .u8 ((c % 16 : Nat) : Int)) rfl rfl (by kernel_rfl) (by kernel_rfl) (by kernel_rfl) (fun _ _ _ h => h) (rem8_y hc rfl rfl (by rfl)) hS ?_
    simp only [Act.put, List.setIfInBounds_toArray, List.set_cons_zero, List.set_cons_succ]
    refine takeAt 7 36 (.int .u8 (((hexD (c % 16)).toNat : Nat) : Int)) rfl rfl (by kernel_rfl) (by kernel_rfl) (by kernel_rfl) (fun _ _ _ h => h) (hex_y (by omega) rfl rfl (by rfl)) hS ?_
    simp only [Act.put, List.setIfInBounds_toArray, List.set_cons_zero, List.set_cons_succ]
    refine takeAt 8 37 (.string ⟨#[hexD (c % 16)]⟩) rfl rfl (by kernel_rfl) (by kernel_rfl) (by kernel_rfl) (fun _ _ _ h => h) (chr_y (by omega) rfl rfl (by rfl)) hS ?_
    simp only [Act.put, List.setIfInBounds_toArray, List.set_cons_zero, List.set_cons_succ]
    refine takeAt 9 38 (.string ⟨#[92, 120, hexD (c / 16), hexD (c % 16)]⟩) rfl rfl (by kernel_rfl) (by kernel_rfl) (by kernel_rfl) (fun _ _ _ h => h) (catS_y _ ⟨#[92, 120, hexD (c / 16)]⟩ ⟨#[hexD (c % 16)]⟩ rfl (by show 3 + 1 ≤ 1000000; decide) rfl rfl rfl (by rfl)) hS ?_
    simp only [Act.put, List.setIfInBounds_toArray, List.set_cons_zero, List.set_cons_succ]
    refine takeAt 10 2 (.string ⟨#[92, 120, hexD (c / 16), hexD (c % 16)]⟩) rfl rfl (by kernel_rfl) (by kernel_rfl) (by kernel_rfl) (fun _ _ _ h => h) (yields (by rfl) (fun w => by kernel_rfl)) hS ?_
    simp only [Act.put, List.setIfInBounds_toArray, List.set_cons_zero, List.set_cons_succ]
    refine wpAnyH_done (by kernel_rfl) ?_ _
    go_wp2
    go_ret
    exact ⟨rfl, hS⟩
  · have e1 : ((c : Int) == 95) = false := beq_eq_false_iff_ne.2 (by omega)
    have e2 : ((c : Int) == 32) = false := beq_eq_false_iff_ne.2 (by omega)
    have a0 : (97 : Int) ≤ (c : Int) := by omega
    have a1 : ¬ (c : Int) ≤ 122 := by omega
    have a2 : (65 : Int) ≤ (c : Int) := by omega
    have a3 : ¬ (c : Int) ≤ 90 := by omega
    have a4 : (48 : Int) ≤ (c : Int) := by omega
    have a5 : ¬ (c : Int) ≤ 57 := by omega
    clear hn h95 h32
    go_enter Tryz.func24, Tryz.ntmps24
    go_wp2_with fail
    refine wp_region_held_drew (S := fun u => Below w.heap.size w u) (by kernel_rfl) (show _ from (Below.refl _ w).drew) (fun hS => ?_)
    generalize World.drew w = u0 at hS ⊢
    refine takeAt 0 29 (.int .u8 (c : Int)) rfl rfl (by kernel_rfl) (by kernel_rfl) (by kernel_rfl) (fun _ _ _ h => h) (yields (by rfl) (fun w => by kernel_rfl)) hS ?_
    simp only [Act.put, List.setIfInBounds_toArray, List.set_cons_zero, List.set_cons_succ]
    refine takeAt 1 30 (.int .u8 ((c / 16 : Nat) : Int)) rfl rfl (by kernel_rfl) (by kernel_rfl) (by kernel_rfl) (fun _ _ _ h => h) (quo8_y hc rfl rfl (by rfl)) hS ?_
    simp only [Act.put, List.setIfInBounds_toArray, List.set_cons_zero, List.set_cons_succ]
    refine takeAt 2 31 (.int .u8 (((hexD (c / 16)).toNat : Nat) : Int)) rfl rfl (by kernel_rfl) (by kernel_rfl) (by kernel_rfl) (fun _ _ _ h => h) (hex_y (by omega) rfl rfl (by rfl)) hS ?_
    simp only [Act.put, List.setIfInBounds_toArray, List.set_cons_zero, List.set_cons_succ]
    refine takeAt 3 32 (.string ⟨#[hexD (c / 16)]⟩) rfl rfl (by kernel_rfl) (by kernel_rfl) (by kernel_rfl) (fun _ _ _ h => h) (chr_y (by omega) rfl rfl (by rfl)) hS ?_
    simp only [Act.put, List.setIfInBounds_toArray, List.set_cons_zero, List.set_cons_succ]
    refine takeAt 4 33 (.string ⟨#[92, 120, hexD (c / 16)]⟩) rfl rfl (by kernel_rfl) (by kernel_rfl) (by kernel_rfl) (fun _ _ _ h => h) (catS_y _ ⟨#[92, 120]⟩ ⟨#[hexD (c / 16)]⟩ rfl (by show 2 + 1 ≤ 1000000; decide) rfl rfl rfl (by rfl)) hS ?_
    simp only [Act.put, List.setIfInBounds_toArray, List.set_cons_zero, List.set_cons_succ]
    refine takeAt 5 34 (.int .u8 (c : Int)) rfl rfl (by kernel_rfl) (by kernel_rfl) (by kernel_rfl) (fun _ _ _ h => h) (yields (by rfl) (fun w => by kernel_rfl)) hS ?_
    simp only [Act.put, List.setIfInBounds_toArray, List.set_cons_zero, List.set_cons_succ]
    refine takeAt 6 35 (.int .u8 ((c % 16 : Nat) : Int)) rfl rfl (by kernel_rfl) (by kernel_rfl) (by kernel_rfl) (fun _ _ _ h => h) (rem8_y hc rfl rfl (by rfl)) hS ?_
    simp only [Act.put, List.setIfInBounds_toArray, List.set_cons_zero, List.set_cons_succ]
    refine takeAt 7 36 (.int .u8 (((hexD (c % 16)).toNat : Nat) : Int)) rfl rfl (by kernel_rfl) (by kernel_rfl) (by kernel_rfl) (fun _ _ _ h => h) (hex_y (by omega) rfl rfl (by rfl)) hS ?_
    simp only [Act.put, List.setIfInBounds_toArray, List.set_cons_zero, List.set_cons_succ]
    refine takeAt 8 37 (.string ⟨#[hexD (c % 16)]⟩) rfl rfl (by kernel_rfl) (by kernel_rfl) (by kernel_rfl) (fun _ _ _ h => h) (chr_y (by omega) rfl rfl (by rfl)) hS ?_
    simp only [Act.put, List.setIfInBounds_toArray, List.set_cons_zero, List.set_cons_succ]
    refine takeAt 9 38 (.string ⟨#[92, 120, hexD (c / 16), hexD (c % 16)]⟩) rfl rfl (by kernel_rfl) (by kernel_rfl) (by kernel_rfl) (fun _ _ _ h => h) (catS_y _ ⟨#[92, 120, hexD (c / 16)]⟩ ⟨#[hexD (c % 16)]⟩ rfl (by show 3 + 1 ≤ 1000000; decide) rfl rfl rfl (by rfl)) hS ?_
    simp only [Act.put, List.setIfInBounds_toArray, List.set_cons_zero, List.set_cons_succ]
    refine takeAt 10 2 (.string ⟨#[92, 120, hexD (c / 16), hexD (c % 16)]⟩) rfl rfl (by kernel_rfl) (by kernel_rfl) (by kernel_rfl) (fun _ _ _ h => h) (yields (by rfl) (fun w => by kernel_rfl)) hS ?_
    simp only [Act.put, List.setIfInBounds_toArray, List.set_cons_zero, List.set_cons_succ]
    refine wpAnyH_done (by kernel_rfl) ?_ _
    go_wp2
    go_ret
    exact ⟨rfl, hS⟩
theorem byteText_any (c : Nat) (hc : c < 256) (w : World) : Calls Tryz.prog 24 #[.int .u8 (c : Int)] w fun e w' => e = .returned (.string (textB c)) ∧ Below w.heap.size w w' := by
  by_cases hp : plainB c = true
  · exact byteText_plain c hp w
  · exact byteText_hex c hc hp w
theorem text_size (c : Nat) : (textB c).size ≤ 4 := by
  unfold textB
  split
  · show 1 ≤ 4; decide
  · exact Nat.le_refl 4
set_option maxHeartbeats 2000000 in
theorem runText_any (a b : Nat) (ha : a < 256) (hb : b < 256) (w : World) : Calls Tryz.prog 27 #[.int .u8 (a : Int), .int .u8 (b : Int)] w fun e w' => e = .returned (.string (runB (a, b))) ∧ Below w.heap.size w w' := by
  have HA := Lib.hid (byteText_any a ha)
  have HB := Lib.hid (byteText_any b hb)
  have sa := text_size a
  have sb := text_size b
  by_cases e : a = b
  · rw [show runB (a, b) = textB a by unfold runB; rw [if_pos e]]
    have q : ((a : Int) == (b : Int)) = true := by rw [e]; simp
    clear sa sb e ha hb
    generalize textB a = X at HA ⊢
    go_enter Tryz.func27, Tryz.ntmps27
    go_wp2_with fail
    refine (HA.out _).mono ?_
    rintro e w1 ⟨rfl, h1⟩
    go_wp2
    go_ret
    exact ⟨rfl, h1⟩
  · rw [show runB (a, b) = (textB a ++ ⟨#[45]⟩) ++ textB b by unfold runB; rw [if_neg e]]
    have q : ((a : Int) == (b : Int)) = false := beq_eq_false_iff_ne.2 (by omega)
    clear e ha hb
    generalize textB a = X at HA sa ⊢
    generalize textB b = Y at HB sb ⊢
    have s1 : ¬ X.size + 1 > 9223372036854775807 := by omega
    have s2 : ¬ X.size + 1 + Y.size > 9223372036854775807 := by omega
    clear sa sb
    go_enter Tryz.func27, Tryz.ntmps27
    go_wp2_with fail
    refine (HA.out _).mono ?_
    rintro e w1 ⟨rfl, h1⟩
    go_wp2_with fail
    refine (HB.out _).mono ?_
    rintro e w2 ⟨rfl, h2⟩
    have h3 := thenB h1 h2 h1.size
    clear h1 h2
    go_wp2
    go_ret
    exact ⟨rfl, h3⟩
end Go.Proofs.YtfejdengpnikeaaGreatDoor

namespace Go.Proofs.YtfejdengpnikeaaGreatDoor
open Go.RowKit

/-- The library's numbers, in this program. -/
def renB : Shelf.Ren := ⟨fun n => if n = 166 then 26 else if n = 169 then 28 else if n = 240 then 67 else 98,
  fun n => if n = 0 then 0 else if n = 3 then 3 else if n = 4 then 4 else if n = 5 then 5 else if n = 9 then 9 else if n = 20 then 20 else if n = 37 then 71 else if n = 70 then 70 else if n = 72 then 73 else if n = 75 then 78 else if n = 80 then 82 else if n = 127 then 116 else 154,
  fun n => n⟩
theorem write_lays : Lays.n166 Tryz.prog renB where
  mixed := by kernel_rfl
  f166 := by kernel_rfl
  f240 := by kernel_rfl
  f276 := by kernel_rfl
  t0 := by kernel_rfl
  a0 := fun _ => by kernel_rfl
  z0 := fun _ => by kernel_rfl
  v0 := fun _ => by kernel_rfl
  t3 := by kernel_rfl
  a3 := fun _ => by kernel_rfl
  z3 := fun _ => by kernel_rfl
  v3 := fun _ => by kernel_rfl
  t4 := by kernel_rfl
  a4 := fun _ => by kernel_rfl
  z4 := fun _ => by kernel_rfl
  v4 := fun _ => by kernel_rfl
  t9 := by kernel_rfl
  a9 := fun _ => by kernel_rfl
  z9 := fun _ => by kernel_rfl
  v9 := fun _ => by kernel_rfl
  t20 := by kernel_rfl
  a20 := fun _ => by kernel_rfl
  z20 := fun _ => by kernel_rfl
  v20 := fun _ => by kernel_rfl
  t37 := by kernel_rfl
  a37 := fun _ => by kernel_rfl
  z37 := fun _ => by kernel_rfl
  v37 := fun _ => by kernel_rfl
  t70 := by kernel_rfl
  a70 := fun _ => by kernel_rfl
  z70 := fun _ => by kernel_rfl
  v70 := fun _ => by kernel_rfl
  t72 := by kernel_rfl
  a72 := fun _ => by kernel_rfl
  z72 := fun _ => by kernel_rfl
  v72 := fun _ => by kernel_rfl
  t75 := by kernel_rfl
  a75 := fun _ => by kernel_rfl
  z75 := fun _ => by kernel_rfl
  v75 := fun _ => by kernel_rfl
  t164 := by kernel_rfl
  a164 := fun _ => by kernel_rfl
  z164 := fun _ => by kernel_rfl
  v164 := fun _ => by kernel_rfl
theorem str_lays : Lays.n169 Tryz.prog renB where
  mixed := by kernel_rfl
  f169 := by kernel_rfl
  t0 := by kernel_rfl
  a0 := fun _ => by kernel_rfl
  z0 := fun _ => by kernel_rfl
  v0 := fun _ => by kernel_rfl
  t3 := by kernel_rfl
  a3 := fun _ => by kernel_rfl
  z3 := fun _ => by kernel_rfl
  v3 := fun _ => by kernel_rfl
  t9 := by kernel_rfl
  a9 := fun _ => by kernel_rfl
  z9 := fun _ => by kernel_rfl
  v9 := fun _ => by kernel_rfl
  t37 := by kernel_rfl
  a37 := fun _ => by kernel_rfl
  z37 := fun _ => by kernel_rfl
  v37 := fun _ => by kernel_rfl
  t70 := by kernel_rfl
  a70 := fun _ => by kernel_rfl
  z70 := fun _ => by kernel_rfl
  v70 := fun _ => by kernel_rfl
  t72 := by kernel_rfl
  a72 := fun _ => by kernel_rfl
  z72 := fun _ => by kernel_rfl
  v72 := fun _ => by kernel_rfl
  t127 := by kernel_rfl
  a127 := fun _ => by kernel_rfl
  z127 := fun _ => by kernel_rfl
  v127 := fun _ => by kernel_rfl
theorem extra_lays : Builder.Extra Tryz.prog renB where
  sizeBuilder := by kernel_rfl
  liesBuilder := by kernel_rfl
  t5 := by kernel_rfl
  a5 := fun _ => by kernel_rfl
  z5 := fun _ => by kernel_rfl
  v5 := fun _ => by kernel_rfl
  infoByte := by kernel_rfl
  cellsByte := by kernel_rfl
  sizeByte := by kernel_rfl
  neB5 := by decide
def renI : Shelf.Ren := ⟨fun n => if n = 129 then 153 else if n = 171 then 92 else if n = 243 then 122 else if n = 246 then 142 else if n = 283 then 163 else if n = 284 then 164 else if n = 285 then 165 else if n = 286 then 166 else if n = 317 then 183 else if n = 318 then 184 else if n = 319 then 185 else if n = 320 then 186 else if n = 337 then 192 else 64,
  fun n => if n = 0 then 0 else if n = 2 then 2 else if n = 3 then 3 else if n = 4 then 4 else if n = 5 then 5 else if n = 9 then 9 else if n = 20 then 20 else if n = 37 then 71 else if n = 46 then 151 else if n = 51 then 193 else if n = 53 then 25 else if n = 171 then 197 else if n = 173 then 199 else if n = 212 then 218 else if n = 213 then 219 else if n = 232 then 228 else 152,
  fun n => if n = 17 then 3 else if n = 18 then 6 else 1⟩
theorem itoa_lays : LaysM.n171 Tryz.prog renI where
  mixed := by kernel_rfl
  f129 := by kernel_rfl
  f171 := by kernel_rfl
  f243 := by kernel_rfl
  f246 := by kernel_rfl
  f283 := by kernel_rfl
  f284 := by kernel_rfl
  f285 := by kernel_rfl
  f286 := by kernel_rfl
  f317 := by kernel_rfl
  f318 := by kernel_rfl
  f319 := by kernel_rfl
  f320 := by kernel_rfl
  f337 := by kernel_rfl
  f338 := by kernel_rfl
  t0 := by kernel_rfl
  a0 := fun _ => by kernel_rfl
  z0 := fun _ => by kernel_rfl
  v0 := fun _ => by kernel_rfl
  t2 := by kernel_rfl
  a2 := fun _ => by kernel_rfl
  z2 := fun _ => by kernel_rfl
  v2 := fun _ => by kernel_rfl
  t3 := by kernel_rfl
  a3 := fun _ => by kernel_rfl
  z3 := fun _ => by kernel_rfl
  v3 := fun _ => by kernel_rfl
  t4 := by kernel_rfl
  a4 := fun _ => by kernel_rfl
  z4 := fun _ => by kernel_rfl
  v4 := fun _ => by kernel_rfl
  t5 := by kernel_rfl
  a5 := fun _ => by kernel_rfl
  z5 := fun _ => by kernel_rfl
  v5 := fun _ => by kernel_rfl
  t9 := by kernel_rfl
  a9 := fun _ => by kernel_rfl
  z9 := fun _ => by kernel_rfl
  v9 := fun _ => by kernel_rfl
  t20 := by kernel_rfl
  a20 := fun _ => by kernel_rfl
  z20 := fun _ => by kernel_rfl
  v20 := fun _ => by kernel_rfl
  t37 := by kernel_rfl
  a37 := fun _ => by kernel_rfl
  z37 := fun _ => by kernel_rfl
  v37 := fun _ => by kernel_rfl
  t46 := by kernel_rfl
  a46 := fun _ => by kernel_rfl
  z46 := fun _ => by kernel_rfl
  v46 := fun _ => by kernel_rfl
  t51 := by kernel_rfl
  a51 := fun _ => by kernel_rfl
  z51 := fun _ => by kernel_rfl
  v51 := fun _ => by kernel_rfl
  t53 := by kernel_rfl
  a53 := fun _ => by kernel_rfl
  z53 := fun _ => by kernel_rfl
  v53 := fun _ => by kernel_rfl
  t171 := by kernel_rfl
  a171 := fun _ => by kernel_rfl
  z171 := fun _ => by kernel_rfl
  v171 := fun _ => by kernel_rfl
  t173 := by kernel_rfl
  a173 := fun _ => by kernel_rfl
  z173 := fun _ => by kernel_rfl
  v173 := fun _ => by kernel_rfl
  t212 := by kernel_rfl
  a212 := fun _ => by kernel_rfl
  z212 := fun _ => by kernel_rfl
  v212 := fun _ => by kernel_rfl
  t213 := by kernel_rfl
  a213 := fun _ => by kernel_rfl
  z213 := fun _ => by kernel_rfl
  t232 := by kernel_rfl
  a232 := fun _ => by kernel_rfl
  z232 := fun _ => by kernel_rfl
  v232 := fun _ => by kernel_rfl
  t233 := by kernel_rfl
  a233 := fun _ => by kernel_rfl
  z233 := fun _ => by kernel_rfl
  v233 := fun _ => by kernel_rfl
  g17 := by kernel_rfl
  g18 := by kernel_rfl
  g19 := by kernel_rfl
  i0 := by kernel_rfl
  i2 := by kernel_rfl
  i3 := by kernel_rfl
  i4 := by kernel_rfl
  i5 := by kernel_rfl
  i9 := by kernel_rfl
  i20 := by kernel_rfl
  i37 := by kernel_rfl
  i46 := by kernel_rfl
  i51 := by kernel_rfl
  i53 := by kernel_rfl
  i171 := by kernel_rfl
  i173 := by kernel_rfl
  i212 := by kernel_rfl
  i232 := by kernel_rfl
  i233 := by kernel_rfl
  m17 := by kernel_rfl
  m18 := by kernel_rfl
  m19 := by kernel_rfl
def renC : Shelf.Ren := ⟨fun n => if n = 107 then 121 else 141,
  fun n => if n = 0 then 0 else if n = 3 then 3 else if n = 4 then 4 else 105,
  fun n => n⟩
theorem has_lays : Lays.n107 Tryz.prog renC where
  mixed := by kernel_rfl
  f107 := by kernel_rfl
  f108 := by kernel_rfl
  t0 := by kernel_rfl
  a0 := fun _ => by kernel_rfl
  z0 := fun _ => by kernel_rfl
  v0 := fun _ => by kernel_rfl
  t3 := by kernel_rfl
  a3 := fun _ => by kernel_rfl
  z3 := fun _ => by kernel_rfl
  v3 := fun _ => by kernel_rfl
  t4 := by kernel_rfl
  a4 := fun _ => by kernel_rfl
  z4 := fun _ => by kernel_rfl
  v4 := fun _ => by kernel_rfl
  t28 := by kernel_rfl
  a28 := fun _ => by kernel_rfl
  z28 := fun _ => by kernel_rfl
  v28 := fun _ => by kernel_rfl
end Go.Proofs.YtfejdengpnikeaaGreatDoor

namespace Go.Proofs.YtfejdengpnikeaaGreatDoor
open Go.RowKit

/-- A builder of the call's own, with what it holds. -/
def Bld (B b : Nat) (s : ByteArray) (w : World) : Prop := Lib.IsBuilderF (renB.t 72) (renB.t 5) B b (Lib.strCells s) w
theorem strCells_app (s t : ByteArray) : Lib.strCells (s ++ t) = Lib.strCells s ++ Lib.strCells t := by simp [Lib.strCells]
theorem write_any (B b : Nat) (s t : ByteArray) (w : World) (h : Bld B b s w) (hlen : s.size + t.size ≤ 140737488355328) (hB : B ≤ w.heap.size) :
    Calls Tryz.prog 26 #[.pointer (some ⟨b, 0, none⟩), .string t] w fun e w' => e = .returned (.tuple #[.int .i64 t.size, .nilIface]) ∧ Bld B b (s ++ t) w' ∧ Below B w w' ∧ Lib.OthersKept 5 (some b) w w' := by
  refine (Any.Builder_WriteString_k write_lays extra_lays B b (Lib.strCells s) t w h (by rw [Lib.strCells_length]; exact hlen) hB).mono ?_
  rintro e w1 ⟨rfl, h1, h2⟩
  refine ⟨rfl, .inr ?_, h2⟩
  rw [strCells_app]
  exact h1
theorem str_any (B b : Nat) (s : ByteArray) (w : World) (h : Bld B b s w) (hB : B ≤ w.heap.size) :
    Calls Tryz.prog 28 #[.pointer (some ⟨b, 0, none⟩)] w fun e w' => e = .returned (.string s) ∧ Below B w w' := by
  refine (Any.Builder_String_any_k str_lays extra_lays B b s.data.toList w h hB).mono ?_
  rintro e w1 ⟨rfl, -, h1, -⟩
  exact ⟨rfl, h1⟩
theorem Bld.call {B b : Nat} {s : ByteArray} {w w' : World} (h : Bld B b s w) (hb : Below w.heap.size w w') : Bld B b s w' := by
  have key : ∀ p, Lib.BuilderAtF (renB.t 72) (renB.t 5) B b p (Lib.strCells s) w → Lib.BuilderAtF (renB.t 72) (renB.t 5) B b p (Lib.strCells s) w' := by
    rintro p ⟨h1, v, h2, h3, h4⟩
    refine ⟨h1, v, (hb.block b (Array.getElem?_eq_some_iff.1 h2).1).trans h2, ⟨h3.1, ?_⟩, h4⟩
    rcases h3.2 with h | ⟨g, cap, cur, fz, hv, hg, hh, rest⟩
    · exact .inl h
    · exact .inr ⟨g, cap, cur, fz, hv, hg, (hb.block g (Array.getElem?_eq_some_iff.1 hh).1).trans hh, rest⟩
  exact h.imp (key _) (key _)
theorem Bld.fresh (w : World) : Bld w.heap.size w.heap.size ByteArray.empty (w.alloc (.cells #[.pointer none, .slice none 0 0] 73)) := Lib.IsBuilderF.of (Lib.fresh_isBuilder _ _ w)
theorem own_others {w w' : World} {base b : Nat} {T e : TypeId} {size : Nat} {v : Value} {n : Nat} {xs : List Value} (h : w.ownsRow base T size v n xs) (ho : Lib.OthersKept e (some b) w w') (hT : T ≠ e) (hb : b < base) : w'.ownsRow base T size v n xs := by
  refine ⟨h.1, ?_⟩
  rcases h.2 with h2 | ⟨r, cap, cur, hv, hr, hh, rest⟩
  · exact .inl h2
  · exact .inr ⟨r, cap, cur, hv, hr, ho r _ hh (fun e => by cases e; omega) (fun c fz e => hT (by cases e; rfl)), rest⟩
theorem ownS_call {w w' : World} {base : Nat} {T : TypeId} {size : Nat} {v : Value} {n : Nat} {xs : List Value} (h : w.ownsRow base T size v n xs) (hb : Below w.heap.size w w') : w'.ownsRow base T size v n xs := by
  refine ⟨h.1, ?_⟩
  rcases h.2 with h2 | ⟨r, cap, cur, hv, hr, hh, rest⟩
  · exact .inl h2
  · exact .inr ⟨r, cap, cur, hv, hr, (hb.block r (Array.getElem?_eq_some_iff.1 hh).1).trans hh, rest⟩
set_option maxHeartbeats 1000000 in
/-- Ranges: the runs lie in a row of its own. -/
theorem ranges_own (S : BitVec 256) (w : World) : Calls Tryz.prog 25 #[setV S] w fun e w' => ∃ v, e = .returned v ∧ w'.ownsRow w.heap.size 76 2 v (runs S).length (runCells (runs S)) ∧ Below w.heap.size w w' := by
  go_enter Tryz.func25, Tryz.ntmps25
  go_wp2_with fail
  refine (each_any S (w.heap.size + 1) w.heap.size _ (by simp; omega) ⟨.slice none 0 0, heap_alloc2_new _ _ _, World.ownsRow_nil _ _ _ _⟩).mono ?_
  rintro e w1 ⟨rfl, ⟨v, hg, hown⟩, hk⟩
  obtain ⟨ao, m', c', rfl⟩ := own_slice hown
  have hc := cell_of_one hg
  have HO := Lib.hid hown
  have HK := Lib.hid hk
  clear hown hg hk
  go_wp2
  go_ret
  refine ⟨_, rfl, ?_, ?_⟩
  · have h := HO.out
    refine ⟨h.1, h.2.imp_right ?_⟩
    rintro ⟨r, cap, cur, hv, hr, rest⟩
    exact ⟨r, cap, cur, hv, by omega, rest⟩
  · refine Below.trans ?_ (HK.out.below (Nat.le_refl _) (by omega) (by simp; omega))
    go_grown
theorem runsB_size : ∀ l, (runsB l).size ≤ 9 * l.length
  | [] => Nat.le_refl _
  | r :: l => by
    have ih := runsB_size l
    have h1 := text_size r.1
    have h2 := text_size r.2
    have h3 : (runsB (r :: l)).size = (runB r).size + (runsB l).size := ByteArray.size_append
    have h4 : (runB r).size ≤ 9 := by
      unfold runB
      split
      · omega
      · have e1 : ((textB r.1 ++ (⟨#[45]⟩ : ByteArray)) ++ textB r.2).size = (textB r.1).size + 1 + (textB r.2).size := by rw [ByteArray.size_append, ByteArray.size_append]; rfl
        omega
    rw [List.length_cons]
    omega
theorem runsB_take (l : List (Nat × Nat)) {k : Nat} (h : k < l.length) : runsB (l.take (k + 1)) = runsB (l.take k) ++ runB (l[k]'h) := by
  rw [← runsB_snoc, List.take_append_getElem h]
theorem runs_lt (S : BitVec 256) : ∀ i, ∀ x ∈ runsTo S i, x.1 < i ∧ x.2 ≤ 255 ∨ 256 < i
  | 0, x, h => by simp [runsTo] at h
  | i + 1, x, h => by
    by_cases hi : 256 < i + 1
    · exact .inr hi
    · left
      unfold runsTo at h
      split at h
      · rcases List.mem_append.1 h with h | h
        · have := (runs_lt S i x h).resolve_right (by omega)
          omega
        · obtain rfl := List.mem_singleton.1 h
          obtain ⟨a, b, -, -⟩ := endF_spec S 256 i (by omega) (by omega)
          exact ⟨Nat.lt_succ_self _, b⟩
      · have := (runs_lt S i x h).resolve_right (by omega)
        omega
set_option maxRecDepth 20000 in
set_option maxHeartbeats 4000000 in
theorem set_any (S : BitVec 256) (w : World) (ht : TabOk w) : Calls Tryz.prog 11 #[setV S] w fun e w' => e = .returned (.string (setP S)) ∧ Below w.heap.size w w' := by
  have HL := Lib.hid (fun w => len_any S w)
  by_cases h0 : lenS S = 0
  · rw [show setP S = noneB by unfold setP; rw [if_pos h0]]
    rw [h0] at HL
    clear h0 ht
    go_enter Tryz.func11, Tryz.ntmps11
    go_wp2_with fail
    refine (HL.out _).mono ?_
    rintro e w1 ⟨rfl, h1⟩
    have HB := Lib.hid (((Below.refl _ w).alloc (Nat.le_refl _) _).trans (h1.mono (by simp)))
    clear h1
    go_wp2
    go_ret
    exact ⟨rfl, HB.out⟩
  · by_cases h1 : lenS S = 1
    · rw [show setP S = textB (minS S) by unfold setP; rw [if_neg h0, if_pos h1]]
      rw [h1] at HL
      have hne : S ≠ 0#256 := fun e => by subst e; exact absurd (show lenS 0#256 = 0 by decide +kernel) h0
      have hlt : minS S < 256 := by
        unfold minS
        cases h : (List.range 256).find? S.getLsbD with
        | none => decide
        | some k => exact List.mem_range.1 (List.mem_of_find?_eq_some h)
      have HM := Lib.hid (fun w h => min_yes S w hne h)
      have HX := Lib.hid (fun w => byteText_any (minS S) hlt w)
      have HT := Lib.hid ht
      have HY0 := Lib.hid (Box.new w S)
      clear h0 h1 ht hne hlt
      go_enter Tryz.func11, Tryz.ntmps11
      go_wp2_with fail
      refine (HL.out _).mono ?_
      rintro e w1 ⟨rfl, h1⟩
      have HB := Lib.hid (((Below.refl _ w).alloc (Nat.le_refl _) _).trans (h1.mono (by simp)))
      have HY := Lib.hid (HY0.out.call h1)
      clear h1
      obtain ⟨z0, z1, z2, z3⟩ := HY.out.cells
      go_wp2_with fail
      refine (HM.out _ (HT.out.call HB.out)).mono ?_
      rintro e w2 ⟨rfl, h2⟩
      have HB2 := Lib.hid (thenB HB.out h2 HB.out.size)
      clear h2 z0 z1 z2 z3
      go_wp2_with fail
      refine (HX.out _).mono ?_
      rintro e w3 ⟨rfl, h3⟩
      have HB3 := Lib.hid (thenB HB2.out h3 HB2.out.size)
      clear h3
      go_wp2
      go_ret
      exact ⟨rfl, HB3.out⟩
    · rw [show setP S = (⟨#[91]⟩ ++ runsB (runs S)) ++ ⟨#[93]⟩ by unfold setP; rw [if_neg h0, if_neg h1]]
      have q0 : ((lenS S : Int) == 0) = false := beq_eq_false_iff_ne.2 (by omega)
      have q1 : ((lenS S : Int) == 1) = false := beq_eq_false_iff_ne.2 (by omega)
      have HR := Lib.hid (fun w => ranges_own S w)
      have hlen : (runs S).length ≤ 256 := runsTo_length S 256
      have HK := Lib.hid (fun x (hx : x ∈ runs S) => (runs_lt S 256 x hx).resolve_right (by omega))
      have hsz := runsB_size (runs S)
      have HS := Lib.hid (fun k => (runsB_size ((runs S).take k)))
      have HY0 := Lib.hid (Box.new w S)
      generalize lenS S = L at HL q0 q1
      obtain ⟨l, hl⟩ : ∃ l, l = runs S := ⟨_, rfl⟩
      rw [← hl] at HR hlen HK hsz HS ⊢
      clear hl
      clear h0 h1 ht
      go_enter Tryz.func11, Tryz.ntmps11
      go_wp2_with fail
      refine (HL.out _).mono ?_
      rintro e w1 ⟨rfl, h1⟩
      have HB := Lib.hid (((Below.refl _ w).alloc (Nat.le_refl _) _).trans (h1.mono (by simp)))
      have HY := Lib.hid (HY0.out.call h1)
      clear h1
      have HF := Lib.hid (Bld.fresh w1)
      have HBa := Lib.hid (HB.out.alloc HB.out.size (.cells #[.pointer none, .slice none 0 0] 73))
      have HYa := Lib.hid (HY.out.alloc (.cells #[.pointer none, .slice none 0 0] 73))
      obtain ⟨z0, z1, z2, z3⟩ := HYa.out.cells
      go_wp2_with fail
      refine (HR.out _).mono ?_
      rintro e w2 ⟨v, rfl, hv, h2⟩
      have HF2 := Lib.hid (HF.out.call h2)
      have HB2 := Lib.hid (thenB HBa.out h2 HBa.out.size)
      have hs2 : w1.heap.size + 1 ≤ w2.heap.size := by have := h2.size; simp at this; omega
      have HV := Lib.hid (show w2.ownsRow (w1.heap.size + 1) 76 2 v l.length (runCells l) by simpa using hv)
      clear h2 hv z0 z1 z2 z3
      obtain ⟨ao, n0, cap, rfl⟩ := own_slice HV.out
      obtain rfl : n0 = l.length := by
        rcases HV.out.2 with ⟨h, h0⟩ | ⟨r, c, cur, h, -⟩
        · cases h; exact h0.symm
        · cases h; rfl
      clear HR HY HY0 HYa HBa HF
      go_wp2_with fail
      go_loopw [24] (fun s24 wr => ∃ k : Nat, s24 = .int .i64 k ∧ k ≤ l.length ∧ Bld w1.heap.size w1.heap.size (runsB (l.take k)) wr ∧ wr.ownsRow (w1.heap.size + 1) 76 2 (.slice ao l.length cap) l.length (runCells l) ∧ Below w.heap.size w wr ∧ w1.heap.size ≤ wr.heap.size) (fun s24 _ => l.length - (intOf s24).toNat)
      case atStart => exact ⟨0, rfl, Nat.zero_le _, HF2.out, HV.out, HB2.out, by omega⟩
      case round =>
        obtain ⟨k, rfl, hk, hbl, hrd, hbw, hsw⟩ := hrel
        have HBl := Lib.hid hbl
        have HRd := Lib.hid hrd
        have HBw := Lib.hid hbw
        by_cases hlt : k < l.length
        · have r1 : (k : Int) < (l.length : Int) := by omega
          obtain ⟨ao', cap', he, hcs⟩ := Reads.of_own hrd
          obtain ⟨rfl, -⟩ : ao = ao' ∧ True := by cases he; exact ⟨rfl, trivial⟩
          clear he
          obtain ⟨r, hrl, rfl, hcells⟩ := hcs.resolve_left (fun e => by rw [e] at hlt; exact absurd hlt (Nat.not_lt_zero _))
          obtain ⟨x, hx⟩ : ∃ x, x = l[k]'hlt := ⟨_, rfl⟩
          obtain ⟨c0, c1⟩ := hcells k x (by rw [hx, List.getElem?_eq_getElem hlt])
          have hxl : x.1 < 256 ∧ x.2 ≤ 255 := HK.out x (by rw [hx]; exact List.getElem_mem hlt)
          have HX := Lib.hid (fun w => runText_any x.1 x.2 hxl.1 (by omega) w)
          have HT := Lib.hid (runsB_take l hlt)
          rw [← hx] at HT
          have HSm := Lib.hid (HS.out (k + 1))
          rw [HT.out] at HSm
          clear hbl hbw hrd hcells hx hxl hcs
          obtain ⟨a, b⟩ := x
          simp only [] at c0 c1 HX HT
          go_wp2_with fail
          refine (HX.out _).mono ?_
          rintro e wa ⟨rfl, ha⟩
          have hba : Below wr.heap.size wr wa := ((Below.refl _ wr).alloc (Nat.le_refl _) _).trans (ha.mono (by simp))
          have HFa := Lib.hid (HBl.out.call hba)
          have HRa := Lib.hid (ownS_call HRd.out hba)
          have HBa := Lib.hid (thenB HBw.out hba HBw.out.size)
          have hsa : w1.heap.size ≤ wa.heap.size := Nat.le_trans hsw hba.size
          clear ha hba c0 c1
          generalize runB (a, b) = Z at HT HSm ⊢
          go_wp2_with fail
          refine (write_any _ _ _ Z _ HFa.out (by have := HSm.out; rw [ByteArray.size_append] at this; rw [List.length_take] at this; omega) hsa).mono ?_
          rintro e wb ⟨rfl, hF, hb, ho⟩
          have HFb := Lib.hid hF
          have HBb := Lib.hid (HBa.out.trans (hb.mono (B' := w.heap.size) HB.out.size))
          have HRb := Lib.hid (own_others HRa.out ho (by decide) (Nat.lt_succ_self _))
          have hsb : w1.heap.size ≤ wb.heap.size := Nat.le_trans hsa hb.size
          clear hF hb ho
          go_wp2_with fail
          refine ⟨⟨k + 1, rfl, hlt, ?_, HRb.out, HBb.out, hsb⟩, ?_⟩
          · rw [HT.out]; exact HFb.out
          · simp [intOf]; omega
        · obtain rfl : k = l.length := by omega
          rw [List.take_length] at hbl
          have HBe := Lib.hid hbl
          clear hbl hbw hrd HBl
          go_wp2_with fail
          refine (str_any _ _ _ _ HBe.out hsw).mono ?_
          rintro e wa ⟨rfl, ha⟩
          have HBa := Lib.hid (HBw.out.trans (ha.mono (B' := w.heap.size) HB.out.size))
          clear ha
          have s1 : ¬ 1 + (runsB l).size > 9223372036854775807 := by omega
          have s2 : ¬ 1 + (runsB l).size + 1 > 9223372036854775807 := by omega
          go_wp2
          go_ret
          exact ⟨rfl, HBa.out⟩
end Go.Proofs.YtfejdengpnikeaaGreatDoor

namespace Go.Proofs.YtfejdengpnikeaaGreatDoor
open Go.RowKit

/-- The table of strconv.Itoa. -/
def PowOk (w : World) : Prop := Lib.TabIs Tryz.prog w "internal/strconv.uint64pow10" .u64 Lib.pow10Tab
theorem gPow : Tryz.prog.globalNamed "internal/strconv.uint64pow10" = some 3 := by kernel_rfl
theorem PowOk.call {w w' : World} (h : PowOk w) (hb : Below w.heap.size w w') : PowOk w' := by
  unfold PowOk Lib.TabIs World.var? at h ⊢
  rw [gPow] at h ⊢
  simp only [Option.bind_some] at h ⊢
  cases hh : w.heap[3]? with
  | none => rw [hh] at h; cases h
  | some o => rw [(hb.block _ (Array.getElem?_eq_some_iff.1 hh).1).trans hh]; rw [hh] at h; exact h
theorem dec_num (n : Nat) (h : n < 1000) : (⟨(Lib.decDigits n).toArray⟩ : ByteArray) = numT n := by
  unfold numT
  rw [Lib.decDigits]
  by_cases h1 : n < 10
  · rw [dif_pos h1, if_pos h1]; rfl
  · rw [dif_neg h1, if_neg h1, Lib.decDigits]
    by_cases h2 : n < 100
    · rw [dif_pos (by omega), if_pos h2]; rfl
    · rw [dif_neg (by omega), if_neg h2, Lib.decDigits, dif_pos (by omega)]
      rw [show n / 10 / 10 = n / 100 by omega]
      rfl
theorem itoa_any (n : Nat) (hn : n ≤ 100) (w : World) (hp : PowOk w) : Calls Tryz.prog 92 #[.int .i64 (n : Int)] w fun e w' => e = .returned (.string (numT n)) ∧ Below w.heap.size w w' := by
  refine (Any.strconv_Itoa itoa_lays (n : Int) (by omega) (by omega) w hp).mono ?_
  rintro e w1 ⟨rfl, k, os, rfl⟩
  constructor
  · rw [show Lib.itoa (n : Int) = Lib.decDigits n by unfold Lib.itoa; rw [if_neg (by omega)]; rfl, dec_num n (by omega)]
  · exact ⟨rfl, rfl, rfl, by simp [Go.Sort.grow, World.drewN], fun i hi => by simp [Go.Sort.grow, World.drewN, Array.getElem?_append_left hi]⟩
theorem num_size (n : Nat) : (numT n).size ≤ 3 := by
  unfold numT
  split
  · show 1 ≤ 3; decide
  · split
    · show 2 ≤ 3; decide
    · exact Nat.le_refl 3
set_option maxHeartbeats 1000000 in
theorem manner_any (md : Int) (h0 : 0 ≤ md) (h2 : md ≤ 2) (w : World) : Calls Tryz.prog 90 #[.int .i64 md] w fun e w' => e = .returned (.string (mannerB md)) ∧ Below w.heap.size w w' := by
  rcases (show md = 0 ∨ md = 1 ∨ md = 2 by omega) with rfl | rfl | rfl
  all_goals
    go_enter Tryz.func90, Tryz.ntmps90
    go_wp2
    go_ret
    exact ⟨rfl, Below.refl _ _⟩
set_option maxRecDepth 20000 in
set_option maxHeartbeats 4000000 in
theorem often_any (mn mx : Int) (h : 0 ≤ mn ∧ mn ≤ 100 ∧ mx ≤ 100 ∧ (mx = -1 ∨ mn ≤ mx)) (w : World) (hp : PowOk w) : Calls Tryz.prog 89 #[.int .i64 mn, .int .i64 mx] w fun e w' => e = .returned (.string (oftenB mn mx)) ∧ Below w.heap.size w w' := by
  obtain ⟨m, rfl⟩ : ∃ m : Nat, mn = (m : Int) := ⟨mn.toNat, by omega⟩
  have HI := Lib.hid (fun w h => itoa_any m (by omega) w h)
  have HP := Lib.hid hp
  have sz := num_size m
  clear hp
  unfold oftenB
  rw [Int.toNat_natCast]
  generalize numT m = X at HI sz ⊢
  have s1 : ¬ 1 + X.size > 9223372036854775807 := by omega
  have s2 : ¬ 1 + X.size + 1 > 9223372036854775807 := by omega
  have s3 : ¬ 1 + X.size + 2 > 9223372036854775807 := by omega
  have HStep := Lib.hid (fun (w1 : World) (hb : Below w.heap.size w w1) => HP.out.call hb)
  by_cases c1 : (m : Int) = 0 ∧ mx = -1
  · rw [if_pos c1]
    obtain ⟨c, rfl⟩ := c1
    obtain rfl : m = 0 := by omega
    clear sz c h
    go_enter Tryz.func89, Tryz.ntmps89
    go_wp2_with fail
    refine (HI.out _ HP.out).mono ?_
    rintro e w1 ⟨rfl, h1⟩
    go_wp2
    go_ret
    exact ⟨rfl, h1⟩
  rw [if_neg c1]
  by_cases c2 : (m : Int) = 1 ∧ mx = -1
  · rw [if_pos c2]
    obtain ⟨c, rfl⟩ := c2
    obtain rfl : m = 1 := by omega
    clear sz c h c1
    go_enter Tryz.func89, Tryz.ntmps89
    go_wp2_with fail
    refine (HI.out _ HP.out).mono ?_
    rintro e w1 ⟨rfl, h1⟩
    go_wp2
    go_ret
    exact ⟨rfl, h1⟩
  rw [if_neg c2]
  by_cases c3 : (m : Int) = 0 ∧ mx = 1
  · rw [if_pos c3]
    obtain ⟨c, rfl⟩ := c3
    obtain rfl : m = 0 := by omega
    clear sz c h c1 c2
    go_enter Tryz.func89, Tryz.ntmps89
    go_wp2_with fail
    refine (HI.out _ HP.out).mono ?_
    rintro e w1 ⟨rfl, h1⟩
    go_wp2
    go_ret
    exact ⟨rfl, h1⟩
  rw [if_neg c3]
  have q1 : (((m : Int) == 0) && (mx == -1)) = false := by by_cases a : (m : Int) = 0 <;> by_cases b : mx = -1 <;> simp_all
  have q2 : (((m : Int) == 1) && (mx == -1)) = false := by by_cases a : (m : Int) = 1 <;> by_cases b : mx = -1 <;> simp_all
  have q3 : (((m : Int) == 0) && (mx == 1)) = false := by by_cases a : (m : Int) = 0 <;> by_cases b : mx = 1 <;> simp_all
  -- the three tests, each in the ways in which it fails
  have T : ∀ (a b : Int) (u : Int), ((u == a) && (mx == b)) = false → (u == a) = false ∨ (u == a) = true ∧ (mx == b) = false := fun a b u h => by
    cases hu : (u == a) with
    | false => exact .inl rfl
    | true => rw [hu, Bool.true_and] at h; exact .inr ⟨rfl, h⟩
  by_cases c4 : mx = (m : Int)
  · rw [if_pos c4]
    have q4 : (mx == (m : Int)) = true := by rw [c4]; simp
    have HT1 := T 0 (-1) m q1
    have HT2 := T 1 (-1) m q2
    have HT3 := T 0 1 m q3
    clear T q1 q2 q3 c1 c2 c3 h sz s3 c4
    rcases HT1 with t1 | ⟨t1, u1⟩ <;> rcases HT2 with t2 | ⟨t2, u2⟩ <;> rcases HT3 with t3 | ⟨t3, u3⟩
    all_goals first
      | (exfalso; simp at t1 t2; omega)
      | (rw [t1] at t3; cases t3)
      | skip
    all_goals
      go_enter Tryz.func89, Tryz.ntmps89
      go_wp2_with fail
      refine (HI.out _ HP.out).mono ?_
      rintro e w1 ⟨rfl, h1⟩
      go_wp2
      go_ret
      exact ⟨rfl, h1⟩
  · rw [if_neg c4]
    have q4 : (mx == (m : Int)) = false := beq_eq_false_iff_ne.2 c4
    by_cases c5 : mx = -1
    · rw [if_pos c5]
      subst c5
      have t1 : ((m : Int) == 0) = false := beq_eq_false_iff_ne.2 (fun e => c1 ⟨e, rfl⟩)
      have t2 : ((m : Int) == 1) = false := beq_eq_false_iff_ne.2 (fun e => c2 ⟨e, rfl⟩)
      have q5 : ((-1 : Int) == (m : Int)) = false := q4
      clear T q1 q2 q3 q4 c1 c2 c3 h sz s2 c4
      go_enter Tryz.func89, Tryz.ntmps89
      go_wp2_with fail
      refine (HI.out _ HP.out).mono ?_
      rintro e w1 ⟨rfl, h1⟩
      go_wp2
      go_ret
      exact ⟨rfl, h1⟩
    · rw [if_neg c5]
      have q5 : (mx == -1) = false := beq_eq_false_iff_ne.2 c5
      obtain ⟨x, rfl⟩ : ∃ x : Nat, mx = (x : Int) := ⟨mx.toNat, by omega⟩
      rw [Int.toNat_natCast]
      have HJ := Lib.hid (fun w h => itoa_any x (by omega) w h)
      have sy := num_size x
      generalize numT x = Y at HJ sy ⊢
      have s4 : ¬ 1 + X.size + 1 + Y.size > 9223372036854775807 := by omega
      have s5 : ¬ 1 + X.size + 1 + Y.size + 1 > 9223372036854775807 := by omega
      have HT3 := T 0 1 m q3
      clear T q1 q2 q3 c1 c2 c3 h sz sy c4 c5 s3
      have t1 : ∀ u : Bool, u = true ∨ u = false := fun u => by cases u <;> simp
      rcases t1 ((m : Int) == 0) with t0 | t0 <;> rcases t1 ((m : Int) == 1) with t2 | t2 <;> rcases HT3 with t3 | ⟨t3, u3⟩
      all_goals first
        | (exfalso; simp at t0 t2; omega)
        | (rw [t0] at t3; cases t3)
        | skip
      all_goals
        clear t1
        go_enter Tryz.func89, Tryz.ntmps89
        go_wp2_with fail
        refine (HI.out _ HP.out).mono ?_
        rintro e w1 ⟨rfl, h1⟩
        have HB := Lib.hid h1
        clear h1
        go_wp2_with fail
        refine (HJ.out _ (HStep.out _ HB.out)).mono ?_
        rintro e w2 ⟨rfl, h2⟩
        have HB2 := Lib.hid (thenB HB.out h2 HB.out.size)
        clear h2
        go_wp2
        go_ret
        exact ⟨rfl, HB2.out⟩
/-- Numbers that lie one behind the other from a block's first cell on. -/
def IntsAt (w : World) (g : Nat) (zs : List Int) : Prop := g < w.heap.size ∧ ∀ j, j < zs.length → w.cell? ⟨g, j, none⟩ = some (.int .i64 (zs.getD j 0))
theorem IntsAt.call {w w' : World} {g : Nat} {zs : List Int} (h : IntsAt w g zs) (hb : Below w.heap.size w w') : IntsAt w' g zs := ⟨Nat.lt_of_lt_of_le h.1 hb.size, fun j hj => (hb.cell (p := ⟨g, j, none⟩) h.1).trans (h.2 j hj)⟩
theorem IntsAt.alloc {w : World} {g : Nat} {zs : List Int} (h : IntsAt w g zs) (o : Obj) : IntsAt (w.alloc o) g zs := h.call ((Below.refl _ w).alloc (Nat.le_refl _) o)
theorem IntsAt.new (w : World) (zs : List Int) (T : TypeId) : IntsAt (w.alloc (.cells (zs.map fun z => Value.int .i64 z).toArray T)) w.heap.size zs := by
  refine ⟨by simp, fun j hj => ?_⟩
  rw [cell_of_row _ _ _ _ _ _ (heap_alloc_new w _)]
  simp [hj]
theorem cont8_any (g : Nat) (zs : List Int) (k : Int) (w : World) (h : IntsAt w g zs) (hz : zs.length ≤ 1000) (c : Nat) : Calls Tryz.prog 121 #[.slice (some ⟨g, 0, none⟩) zs.length c, .int .i64 k] w fun e w' => e = .returned (.bool (zs.contains k)) ∧ w' = w := by
  refine (Any.slices_Contains_int has_lays g 0 zs.length c zs k w (Nat.le_refl _) (by omega) (fun j hj => by rw [Nat.zero_add]; exact h.2 j hj)).mono ?_
  rintro e w1 ⟨rfl, rfl⟩
  exact ⟨by rw [List.take_length], rfl⟩
set_option maxHeartbeats 1000000 in
theorem but_any (k : Int) (s : ByteArray) (g : Nat) (zs : List Int) (n c : Nat) (b : Bool) (w : World) (h : IntsAt w g zs) (hn : zs.length = n) (hz : n ≤ 1000) (hb : zs.contains k = b) (hs : s.size ≤ 4000000) :
    Calls Tryz.prog 88 #[.agg #[.int .i64 k, .string s], .slice (some ⟨g, 0, none⟩) n c] w fun e w' => e = .returned (.string (inB b s)) ∧ Below w.heap.size w w' := by
  subst hn
  have HI := Lib.hid (fun o => h.alloc o)
  have HH := Lib.hid (fun w h => cont8_any g zs k w h hz c)
  have s1 : ¬ 3 + s.size > 9223372036854775807 := by omega
  have s2 : ¬ 3 + s.size + 1 > 9223372036854775807 := by omega
  rw [hb] at HH
  obtain ⟨n, hn⟩ : ∃ n, n = zs.length := ⟨_, rfl⟩
  rw [← hn] at HH hz ⊢
  clear h hb hs hn
  unfold inB
  cases b with
  | true =>
    rw [if_pos rfl]
    go_enter Tryz.func88, Tryz.ntmps88
    go_wp2_with fail
    refine (HH.out _ (HI.out _)).mono ?_
    rintro e w1 ⟨rfl, rfl⟩
    go_wp2
    go_ret
    exact ⟨rfl, (Below.refl _ w).alloc (Nat.le_refl _) _⟩
  | false =>
    rw [if_neg (by decide)]
    go_enter Tryz.func88, Tryz.ntmps88
    go_wp2_with fail
    refine (HH.out _ (HI.out _)).mono ?_
    rintro e w1 ⟨rfl, rfl⟩
    go_wp2
    go_ret
    exact ⟨rfl, (Below.refl _ w).alloc (Nat.le_refl _) _⟩
end Go.Proofs.YtfejdengpnikeaaGreatDoor
