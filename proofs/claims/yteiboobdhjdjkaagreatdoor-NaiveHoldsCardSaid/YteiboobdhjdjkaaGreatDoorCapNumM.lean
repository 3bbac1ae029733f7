import Derived.Test.YteiboobdhjdjkaaGreatDoorCapAgain
import Derived.Test.YteiboobdhjdjkaaGreatDoorMz
namespace Go.Proofs.YteiboobdhjdjkaaGreatDoor.Cap
open Go.RowKit
def itS (n : Int) : ByteArray := ⟨(Lib.itoa n).toArray⟩
theorem ba_app (a b : List UInt8) : (⟨(a ++ b).toArray⟩ : ByteArray) = ⟨a.toArray⟩ ++ ⟨b.toArray⟩ := by
 apply ByteArray.ext
 rw [ByteArray.data_append]
 simp
end Go.Proofs.YteiboobdhjdjkaaGreatDoor.Cap
namespace Go.Proofs.YteiboobdhjdjkaaGreatDoor.Cap
open Go.RowKit
theorem itS_size (n : Int) (h : I64 n) : (itS n).size ≤ 30 := by
 have hd : ∀ u : Nat, u < 18446744073709551616 → (Lib.decDigits u).length ≤ 20 := fun u hu => by
  rw [Lib.decDigits_length]
  by_cases h1 : 1 ≤ u
  ·obtain ⟨e1, e2⟩ := Lib.numDigits_eq u h1 hu
   rw [← e1]
   split <;> omega
  ·rw [show u = 0 by omega, Lib.nDigits_small (by decide)]; decide
 obtain ⟨h1, h2⟩ := h
 unfold itS Lib.itoa
 show (List.toArray _).size ≤ 30
 rw [List.size_toArray]
 split
 ·have := hd n.natAbs (by omega)
  rw [List.length_cons]; omega
 ·have := hd n.toNat (by omega)
  omega
end Go.Proofs.YteiboobdhjdjkaaGreatDoor.Cap
namespace Go.Proofs.YteiboobdhjdjkaaGreatDoor.Cap
open Go.RowKit
def partS (c : Cp) (k : Nat) : ByteArray := if c.is k = true then itS (c.fr k) ++ ⟨#[45]⟩ ++ itS (c.to k) else ⟨#[63]⟩
section
variable {ops : Array Oper} {R : World → Prop} {a : Act} {o : Oper} {x y : Operand} {w : World}
theorem addS_y (s t : ByteArray) (h : s.size + t.size ≤ 1000000) (ho : o.op = .binOp .add 9 x y 9) (hx : a.eval x = .string s) (hy : a.eval y = .string t) (hw : Region.wanted o (yielded ops a.tmps) = true) : YieldsIf Tryz.prog ops R o (.string (s ++ t)) a := by
 refine Or.inl ⟨hw, fun u _ => ?_⟩
 have h2 : ¬ s.size + t.size > 9223372036854775807 := by omega
 unfold execOp
 simp only [ho, hx, hy]
 go_simp
theorem loadInt_y (g j : Nat) (p : Int) (hR : ∀ u, R u → u.cell? ⟨g, j, none⟩ = some (.int .i64 p)) (ho : o.op = .load 3 x) (hx : a.eval x = .pointer (some ⟨g, j, none⟩)) (hw : Region.wanted o (yielded ops a.tmps) = true) : YieldsIf Tryz.prog ops R o (.int .i64 p) a := by
 refine Or.inl ⟨hw, fun u hu => ?_⟩
 have c0 := hR u hu
 unfold execOp
 simp only [ho, hx]
 go_simp
end
theorem itoa_any (L : LibOk) (n : Int) (h : I64 n) (w : World) (hp : PowOk w) : Calls Tryz.prog 129 #[.int .i64 n] w fun e w' => e = .returned (.string (itS n)) ∧ Below w.heap.size w w' := L.itoa n h.1 h.2 w hp
def SSt (w0 : World) (g : Nat) (p q : Int) (w : World) : Prop := Below w0.heap.size w0 w ∧ BoxV 25 w g #[.int .i64 p, .int .i64 q] ∧ PowOk w
theorem SSt.call {w0 w w' : World} {g : Nat} {p q : Int} (h : SSt w0 g p q w) (hb : Below w.heap.size w w') : SSt w0 g p q w' := ⟨thenB h.1 hb h.1.size, h.2.1.below hb h.2.1.lt, h.2.2.call hb⟩
set_option maxRecDepth 20000 in
set_option maxHeartbeats 1000000 in
theorem show_any (L : LibOk) (c : Cp) (hc : c.fits) (k : Nat) (hk : k < 9) (w : World) (hw : PowOk w) : Calls Tryz.prog 95 #[.agg (cpC c), .int .i64 ((k : Int) + 1)] w fun e w' => e = .returned (.string (partS c k)) ∧ Below w.heap.size w w' := by
 have HX := Lib.hid (BoxV.new (T := 44) w (cpC c))
 have HW := Lib.hid hw
 unfold partS
 cases hi : c.is k with
 | false =>
   have HP := Lib.hid (fun w => place_off c k hk hi w)
   simp only [Bool.false_eq_true, if_false]
   clear hi hw hc L
   go_enter Tryz.func95, Tryz.ntmps95
   go_wp2_with (refine loadC rfl _ rfl w.heap.size c rfl HX.out ?_)
   refine (HP.out _).mono ?_
   rintro e w1 ⟨rfl, hb⟩
   have HB := Lib.hid (afterBox hb)
   clear hb
   go_wp2_with fail
   go_ret
   exact ⟨rfl, newB HB.out HB.out.size _⟩
 | true =>
   have HP := Lib.hid (fun w => place_on c k hk hi w)
   obtain ⟨f1, f2⟩ := hc k hk
   have HI := Lib.hid (fun w h => itoa_any L (c.fr k) f1 w h)
   have HJ := Lib.hid (fun w h => itoa_any L (c.to k) f2 w h)
   have z1 := itS_size _ f1
   have z2 := itS_size _ f2
   simp only [if_true]
   generalize c.fr k = p at HP HI z1 ⊢
   generalize c.to k = q at HP HJ z2 ⊢
   generalize itS p = X at HI z1 ⊢
   generalize itS q = Y at HJ z2 ⊢
   clear hi hw L f1 f2
   go_enter Tryz.func95, Tryz.ntmps95
   go_wp2_with (refine loadC rfl _ rfl w.heap.size c rfl HX.out ?_)
   refine (HP.out _).mono ?_
   rintro e w1 ⟨rfl, hb⟩
   have HB := Lib.hid (afterBox hb)
   clear hb
   have HS := Lib.hid (show SSt w w1.heap.size p q (w1.alloc (.cells #[.int .i64 p, .int .i64 q] 25)) from ⟨newB HB.out HB.out.size _, BoxV.new _ _, (HW.out.call HB.out).call ((Below.refl _ _).alloc (Nat.le_refl _) _)⟩)
   go_wp2_with fail
   refine wp_region_held_drew (S := fun u => SSt w w1.heap.size p q u) (by kernel_rfl) (show _ from HS.out.call (Below.refl _ _).drew) (fun hS => ?_)
   clear HS
   generalize World.drew _ = v0 at hS ⊢
   refine takeAt 0 15 (.pointer (some ⟨w1.heap.size, 0, none⟩)) rfl rfl (by kernel_rfl) (by kernel_rfl) (by kernel_rfl) (fun _ _ _ h => h) (yields (by rfl) (fun w => by kernel_rfl)) hS ?_
   simp only [Act.put, sA, s0, sS]
   refine takeAt 1 16 (.int .i64 p) rfl rfl (by kernel_rfl) (by kernel_rfl) (by kernel_rfl) (fun _ _ _ h => h) (loadInt_y w1.heap.size 0 p (fun _ h => h.2.1.get 0 rfl) rfl rfl (by rfl)) hS ?_
   simp only [Act.put, sA, s0, sS]
   refine takeAt 4 19 (.pointer (some ⟨w1.heap.size, 1, none⟩)) rfl rfl (by kernel_rfl) (by kernel_rfl) (by kernel_rfl) (fun _ _ _ h => h) (yields (by rfl) (fun w => by kernel_rfl)) hS ?_
   simp only [Act.put, sA, s0, sS]
   refine takeAt 5 20 (.int .i64 q) rfl rfl (by kernel_rfl) (by kernel_rfl) (by kernel_rfl) (fun _ _ _ h => h) (loadInt_y w1.heap.size 1 q (fun _ h => h.2.1.get 1 rfl) rfl rfl (by rfl)) hS ?_
   simp only [Act.put, sA, s0, sS]
   refine callAt 2 17 rfl rfl (by kernel_rfl) (by rfl) (by kernel_rfl) (HI.out _ hS.2.2) ?_
   rintro e v1 ⟨rfl, hb⟩
   have hS := hS.call hb
   clear hb
   refine ⟨_, rfl, hS, ?_⟩
   simp only [Act.put, sA, s0, sS]
   refine takeAt 3 18 (.string (X ++ ⟨#[45]⟩)) rfl rfl (by kernel_rfl) (by kernel_rfl) (by kernel_rfl) (fun _ _ _ h => h) (addS_y X ⟨#[45]⟩ (by rw [show (⟨#[45]⟩ : ByteArray).size = 1 from rfl]; omega) rfl rfl rfl (by rfl)) hS ?_
   simp only [Act.put, sA, s0, sS]
   refine callAt 6 21 rfl rfl (by kernel_rfl) (by rfl) (by kernel_rfl) (HJ.out _ hS.2.2) ?_
   rintro e v2 ⟨rfl, hb⟩
   have hS := hS.call hb
   clear hb
   refine ⟨_, rfl, hS, ?_⟩
   simp only [Act.put, sA, s0, sS]
   refine takeAt 7 22 (.string (X ++ ⟨#[45]⟩ ++ Y)) rfl rfl (by kernel_rfl) (by kernel_rfl) (by kernel_rfl) (fun _ _ _ h => h) (addS_y (X ++ ⟨#[45]⟩) Y (by rw [ByteArray.size_append, show (⟨#[45]⟩ : ByteArray).size = 1 from rfl]; omega) rfl rfl rfl (by rfl)) hS ?_
   simp only [Act.put, sA, s0, sS]
   refine takeAt 8 4 (.string (X ++ ⟨#[45]⟩ ++ Y)) rfl rfl (by kernel_rfl) (by kernel_rfl) (by kernel_rfl) (fun _ _ _ h => h) (yields (by rfl) (fun w => by kernel_rfl)) hS ?_
   simp only [Act.put, sA, s0, sS]
   refine wpAnyH_done (by kernel_rfl) ?_ _
   have HS := Lib.hid hS
   clear hS
   go_wp2_with fail
   go_ret
   exact ⟨rfl, HS.out.1⟩
end Go.Proofs.YteiboobdhjdjkaaGreatDoor.Cap
