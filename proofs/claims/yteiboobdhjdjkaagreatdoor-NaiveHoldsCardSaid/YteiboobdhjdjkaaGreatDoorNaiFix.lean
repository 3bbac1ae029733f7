import Derived.Test.YteiboobdhjdjkaaGreatDoorNaiEval
import Derived.Test.YteiboobdhjdjkaaGreatDoorNaiShowsM
import Derived.Test.YteiboobdhjdjkaaGreatDoorNaiMathM
namespace Go.Proofs.YteiboobdhjdjkaaGreatDoor.Nai
open Go.RowKit
open Ast (Nd rightZ Nodes NodesAt)
open Cap (Cp cpC zrC withZ showS)
theorem gotP_of (K : PKit) {p : ByteArray} {n k : Nat} {l : Nat → Nd} (h : Pat p n l k) (w : World) (hw : Tabs w) : GotP p n l w := by
 refine (parse_at K p n 0 l h.eq w hw).mono fun e w' hq => ?_
 obtain ⟨B, cap, h1, h2, h3⟩ := hq
 exact ⟨B, cap, h1, h2.nodes, h3⟩
theorem finds_at (K : PKit) (hlib : Cap.LibOk) (p s : ByteArray) (wl l1 l2 : List UInt8) (n : Nat) (l : Nat → Nd) (h : Pat p n l s.size) (hs : s.size ≤ 1000) (hM : okM l1 l2 (findF s (reT l n n) (s.size + 1) 0) = true) (h6 : l1.length + l2.length ≤ 1000) (r : Bool) (h7 : (l1 ++ [59] ++ l2 == wl) = r)
  (w : World) (hw : Tabs w) (hp : Cap.PowOk w) : Calls Tryz.prog 35 #[.string p, .string s, .string ⟨wl.toArray⟩] w fun e w' => e = .returned (.bool r) ∧ Below w.heap.size w w' := by
 obtain ⟨k, z, h1, h2, h3, h4, h5, h5'⟩ := okM_spec hM
 exact finds_yes K.sort K.none hlib p s ⟨wl.toArray⟩ _ _ n l w (gotP_of K h w hw) hp h.pos h.right hs h.wds h.lite k z h1 h2 h3 h4 h5 h5' (by show l1.toArray.size + l2.toArray.size ≤ 1000; simpa using h6) r (by rw [ByteArray.toList_eq, ByteArray.toList_eq, ← h7]; simp [ByteArray.data_append])
theorem finds_not (K : PKit) (hlib : Cap.LibOk) (p s : ByteArray) (n : Nat) (l : Nat → Nd) (h : Pat p n l s.size) (hs : s.size ≤ 1000) (hM : (findF s (reT l n n) (s.size + 1) 0).isSome = false) (w : World) (hw : Tabs w) :
  Calls Tryz.prog 35 #[.string p, .string s, .string ⟨#[]⟩] w fun e w' => e = .returned (.bool true) ∧ Below w.heap.size w w' :=
 finds_no K.sort K.none hlib p s ⟨#[]⟩ n l w (gotP_of K h w hw) h.pos h.right hs h.wds h.lite hM rfl
theorem row3 {w : World} {base : Nat} {v : Value} {L : List Sp} {a b c : Nat} (h : w.ownsRow base 61 28 v L.length (L.flatMap stL)) (hL : L.map (·.1) = [a, b, c]) : ∃ g k, v = .slice (some ⟨g, 0, none⟩) 3 k ∧ g < w.heap.size ∧
  w.cell? ⟨g, 0, none⟩ = some (.int .i64 (a : Int)) ∧ w.cell? ⟨g, 28, none⟩ = some (.int .i64 (b : Int)) ∧ w.cell? ⟨g, 56, none⟩ = some (.int .i64 (c : Int)) := by
 match L, hL, h with
 | [x, y, z], hL, h =>
   simp at hL
   obtain ⟨rfl, rfl, rfl⟩ := hL
   rcases h.2 with ⟨-, e⟩ | ⟨g, cap, cur, rfl, h0, h1, h2⟩
   ·simp at e
   ·have hc := fun j v hv => h.cells (g := g) rfl j v hv
    simp only [addr_add] at hc
    exact ⟨g, cap, rfl, lt_of_block h1, hc 0 _ rfl, hc 28 _ rfl, hc 56 _ rfl⟩
set_option maxRecDepth 100000 in
set_option maxHeartbeats 16000000 in
theorem fixed_any (K : PKit) (hlib : Cap.LibOk) (w : World) (hw : Tabs w) (hp : Cap.PowOk w) : Calls Tryz.prog 14 #[] w fun e w' => e = .returned (.bool true) ∧ Below w.heap.size w w' := by
 have TW := Lib.hid hw
 have PW := Lib.hid hp
 have PA := Lib.hid (fun u hu => gotP_of K patA_z u hu)
 have PB := Lib.hid (fun u hu => gotP_of K patB_z u hu)
 obtain ⟨La, hLa⟩ : ∃ L, (outs (outsE aab (reT (parseZ patA).1.2 2 2) (0, zrC))).take 9 = L := ⟨_, rfl⟩
 obtain ⟨Lb, hLb⟩ : ∃ L, (outs (outsE aab (reT (parseZ patB).1.2 2 2) (0, zrC))).take 9 = L := ⟨_, rfl⟩
 have AA := Lib.hid (fun (b o cap : Nat) (u : World) (hl : NodesAt u b o 2 (parseZ patA).1.2) => nall_any K.sort K.none hlib b o 2 cap (parseZ patA).1.2 aab 0 9 u hl patA_z.right (by omega) (by decide) (Nat.zero_le _) (by omega) patA_z.wds patA_z.lite La hLa)
 have AB := Lib.hid (fun (b o cap : Nat) (u : World) (hl : NodesAt u b o 2 (parseZ patB).1.2) => nall_any K.sort K.none hlib b o 2 cap (parseZ patB).1.2 aab 0 9 u hl patB_z.right (by omega) (by decide) (Nat.zero_le _) (by omega) patB_z.wds patB_z.lite Lb hLb)
 have AC := Lib.hid (fun (b o cap : Nat) (u : World) (hl : NodesAt u b o 2 (parseZ patA).1.2) => nall_arg K.sort K.none (some ⟨b, o, none⟩) 2 cap (parseZ patA).1.2 aab 4 9 u hl.nodes (by omega) (by decide) (by unfold mayZ; rw [if_neg (by rw [patA_z.right]; simp)]; rfl) 1 (.inl ⟨.inr (.inl (by decide)), rfl⟩))
 have LA := Lib.hid (show La.map (·.1) = [2, 1, 0] from hLa ▸ outsA)
 have LB := Lib.hid (show Lb.map (·.1) = [0, 1, 2] from hLb ▸ outsB)
 have FW := Lib.hid (fun u => nfind_wrong K.sort K.none none 0 0 (fun _ => ⟨0, 0, 0, 0, 0, 0, 0, 0, 0, 0, 0, false⟩) ⟨#[]⟩ u (fun i hi => by omega) (by omega) (by decide) (by decide))
 have F1 := Lib.hid (fun u hu hv => finds_at K hlib pF1 sF1 [49, 45, 53, 59, 49, 45, 50, 44, 50, 45, 53] [49, 45, 53] [49, 45, 50, 44, 50, 45, 53] (nF pF1) (parseZ pF1).1.2 pF1_z (by decide) pF1_m (by decide) true (by decide) u hu hv)
 have F2 := Lib.hid (fun u hu hv => finds_at K hlib pF2 sF2 [48, 45, 48, 59, 63, 44, 63] [48, 45, 48] [48, 45, 48, 44, 63] (nF pF2) (parseZ pF2).1.2 pF2_z (by decide) pF2_m (by decide) false (by decide) u hu hv)
 have F3 := Lib.hid (fun u hu => finds_not K hlib pF3 sF3 (nF pF3) (parseZ pF3).1.2 pF3_z (by decide) pF3_m u hu)
 have F4 := Lib.hid (fun u hu hv => finds_at K hlib pF4 sF3 [48, 45, 51, 59, 48, 45, 49, 44, 49, 45, 51] [48, 45, 51] [48, 45, 49, 44, 49, 45, 51] (nF pF4) (parseZ pF4).1.2 pF4_z (by decide) pF4_m (by decide) true (by decide) u hu hv)
 have F5 := Lib.hid (fun u hu hv => finds_at K hlib pF5 sF5 [52, 45, 53, 59, 63, 44, 63] [52, 45, 53] [63, 44, 63] (nF pF5) (parseZ pF5).1.2 pF5_z (by decide) pF5_m (by decide) true (by decide) u hu hv)
 have F6 := Lib.hid (fun u hu hv => finds_at K hlib pF6 sF6 [50, 45, 52, 59, 50, 45, 51, 44, 63] [50, 45, 52] [50, 45, 51, 44, 63] (nF pF6) (parseZ pF6).1.2 pF6_z (by decide) pF6_m (by decide) true (by decide) u hu hv)
 have H1 := Lib.hid (fun u => show Calls Tryz.prog 23 #[.int .i64 6, .string ⟨#[97, 32, 98]⟩, .int .i64 1] u fun e w' => e = .returned (.bool true) ∧ u = w' from hold_any 6 ⟨#[97, 32, 98]⟩ 1 (by decide) (by decide) u)
 have H2 := Lib.hid (fun u => hold_out 6 ⟨#[97, 32, 98]⟩ 4 (.inr (by decide)) (by decide) u)
 have H3 := Lib.hid (fun u => show Calls Tryz.prog 23 #[.int .i64 5, .string ⟨#[97, 10, 98]⟩, .int .i64 1] u fun e w' => e = .returned (.bool true) ∧ u = w' from hold_any 5 ⟨#[97, 10, 98]⟩ 1 (by decide) (by decide) u)
 obtain ⟨lA, hlA⟩ : ∃ l, (parseZ patA).1.2 = l := ⟨_, rfl⟩
 obtain ⟨lB, hlB⟩ : ∃ l, (parseZ patB).1.2 = l := ⟨_, rfl⟩
 rw [hlA] at PA AA AC
 rw [hlB] at PB AB
 clear hw hp hLa hLb hlA hlB K hlib
 go_enter Tryz.func14, Tryz.ntmps14
 go_wp2_with fail
 refine (show GotP patA 2 lA w from PA.out w TW.out).mono ?_
 rintro e w1 ⟨B, cap, rfl, hT, hB⟩
 obtain ⟨b, o, rfl, hat⟩ := hT.at_ (by decide)
 obtain ⟨v1, hv1⟩ : ∃ v, w1.alloc (.cells #[.slice (some ⟨b, o, none⟩) 2 cap] 24) = v := ⟨_, rfl⟩
 obtain ⟨g1, hg1⟩ : ∃ g, w1.heap.size = g := ⟨_, rfl⟩
 have hb1 : Below w.heap.size w v1 := hv1 ▸ hB.alloc hB.size _
 have B1 := Lib.hid hb1
 have A1 := Lib.hid (show NodesAt v1 b o 2 lA from hv1 ▸ hat.below ((Below.refl w1.heap.size w1).alloc (Nat.le_refl _) _) (Nat.le_refl _))
 have X1 := Lib.hid (show Cap.BoxV 24 v1 g1 #[.slice (some ⟨b, o, none⟩) 2 cap] from hg1 ▸ hv1 ▸ Cap.BoxV.new w1 _)
 clear hT hB hat hb1 PA
 go_wp2_with fail
 clear hv1
 refine (show GotP patB 2 lB v1 from PB.out v1 (TW.out.call B1.out)).mono ?_
 rintro e w2 ⟨B', cap', rfl, hT, hB⟩
 obtain ⟨b', o', rfl, hat⟩ := hT.at_ (by decide)
 obtain ⟨v2, hv2⟩ : ∃ v, w2.alloc (.cells #[.slice (some ⟨b', o', none⟩) 2 cap'] 24) = v := ⟨_, rfl⟩
 obtain ⟨g2, hg2⟩ : ∃ g, w2.heap.size = g := ⟨_, rfl⟩
 have hb2 : Below v1.heap.size v1 v2 := hv2 ▸ hB.alloc hB.size _
 have B2 := Lib.hid (thenB B1.out hb2 B1.out.size)
 have A2 := Lib.hid (show NodesAt v2 b' o' 2 lB from hv2 ▸ hat.below ((Below.refl w2.heap.size w2).alloc (Nat.le_refl _) _) (Nat.le_refl _))
 have A1' := Lib.hid (A1.out.below hb2 (Nat.le_refl _))
 have X1' := Lib.hid (X1.out.below hb2 X1.out.lt)
 have X2 := Lib.hid (show Cap.BoxV 24 v2 g2 #[.slice (some ⟨b', o', none⟩) 2 cap'] from hg2 ▸ hv2 ▸ Cap.BoxV.new w2 _)
 have c1 := X1'.out.get 0 rfl
 clear hT hB hat hb2 PB A1 X1 B1
 go_wp2_with fail
 refine (AA.out b o cap v2 A1'.out).mono ?_
 rintro e w3 ⟨v, rfl, hB, hown⟩
 obtain ⟨ga, ka, rfl, ha0, ha1, ha2, ha3⟩ := row3 hown LA.out
 have B3 := Lib.hid (thenB B2.out hB B2.out.size)
 have A3 := Lib.hid (A1'.out.below hB (Nat.le_refl _))
 have A4 := Lib.hid (A2.out.below hB (Nat.le_refl _))
 have X3 := Lib.hid (X1'.out.below hB X1'.out.lt)
 have X4 := Lib.hid (X2.out.below hB X2.out.lt)
 have RA := Lib.hid (And.intro ha0 (And.intro ha1 (And.intro ha2 ha3)))
 have c2 := X4.out.get 0 rfl
 clear hB hown ha0 ha1 ha2 ha3 A1' A2 X1' X2 B2 c1 AA
 go_wp2_with fail
 refine (AB.out b' o' cap' w3 A4.out).mono ?_
 rintro e w4 ⟨v, rfl, hB, hown⟩
 obtain ⟨gb, kb, rfl, hb0, hb1, hb2, hb3⟩ := row3 hown LB.out
 have B4 := Lib.hid (thenB B3.out hB B3.out.size)
 have A5 := Lib.hid (A3.out.below hB (Nat.le_refl _))
 have X5 := Lib.hid (X3.out.below hB X3.out.lt)
 have keep3 : ∀ j, w4.cell? ⟨ga, j, none⟩ = w3.cell? ⟨ga, j, none⟩ := fun j => hB.cell (p := ⟨ga, j, none⟩) RA.out.1
 have RA4 := Lib.hid (show ga < w4.heap.size ∧ w4.cell? ⟨ga, 0, none⟩ = some (.int .i64 ((2 : Nat) : Int)) ∧ w4.cell? ⟨ga, 28, none⟩ = some (.int .i64 ((1 : Nat) : Int)) ∧ w4.cell? ⟨ga, 56, none⟩ = some (.int .i64 ((0 : Nat) : Int)) from ⟨Nat.lt_of_lt_of_le RA.out.1 hB.size, (keep3 _).trans RA.out.2.1, (keep3 _).trans RA.out.2.2.1, (keep3 _).trans RA.out.2.2.2⟩)
 have RB := Lib.hid (And.intro hb0 (And.intro hb1 (And.intro hb2 hb3)))
 have c3 := X5.out.get 0 rfl
 clear hB hown hb0 hb1 hb2 hb3 A3 A4 X3 X4 B3 c2 AB keep3 RA
 go_wp2_with fail
 refine (AC.out b o cap w4 A5.out).mono ?_
 rintro e w5 ⟨rfl, hB⟩
 have B5 := Lib.hid (thenB B4.out hB B4.out.size)
 have keep4 : ∀ g j, g < w4.heap.size → w5.cell? ⟨g, j, none⟩ = w4.cell? ⟨g, j, none⟩ := fun g j h => hB.cell (p := ⟨g, j, none⟩) h
 have R5 := Lib.hid (show ga < w5.heap.size ∧ gb < w5.heap.size ∧ w5.cell? ⟨ga, 0, none⟩ = some (.int .i64 2) ∧ w5.cell? ⟨ga, 28, none⟩ = some (.int .i64 1) ∧ w5.cell? ⟨ga, 56, none⟩ = some (.int .i64 0) ∧ w5.cell? ⟨gb, 0, none⟩ = some (.int .i64 0) ∧ w5.cell? ⟨gb, 56, none⟩ = some (.int .i64 2) from
  ⟨Nat.lt_of_lt_of_le RA4.out.1 hB.size, Nat.lt_of_lt_of_le RB.out.1 hB.size, (keep4 _ _ RA4.out.1).trans RA4.out.2.1, (keep4 _ _ RA4.out.1).trans RA4.out.2.2.1, (keep4 _ _ RA4.out.1).trans RA4.out.2.2.2, (keep4 _ _ RB.out.1).trans RB.out.2.1, (keep4 _ _ RB.out.1).trans RB.out.2.2.2⟩)
 clear hB A5 X5 B4 c3 AC keep4 RA4 RB
 go_wp2_with fail
 refine (FW.out w5).mono ?_
 rintro e w6 ⟨rfl, hB⟩
 rw [show mayZ (fun _ => (⟨0, 0, 0, 0, 0, 0, 0, 0, 0, 0, 0, false⟩ : Nd)) 0 (ByteArray.size ⟨#[]⟩) = 3 from by decide]
 have B6 := Lib.hid (thenB B5.out hB B5.out.size)
 have keep5 : ∀ g j, g < w5.heap.size → w6.cell? ⟨g, j, none⟩ = w5.cell? ⟨g, j, none⟩ := fun g j h => hB.cell (p := ⟨g, j, none⟩) h
 have Z6 := Lib.hid (mt_new w6)
 have R6 := Lib.hid (show ga < w6.heap.size ∧ gb < w6.heap.size ∧ w6.cell? ⟨ga, 0, none⟩ = some (.int .i64 2) ∧ w6.cell? ⟨ga, 28, none⟩ = some (.int .i64 1) ∧ w6.cell? ⟨ga, 56, none⟩ = some (.int .i64 0) ∧ w6.cell? ⟨gb, 0, none⟩ = some (.int .i64 0) ∧ w6.cell? ⟨gb, 56, none⟩ = some (.int .i64 2) from
  ⟨Nat.lt_of_lt_of_le R5.out.1 hB.size, Nat.lt_of_lt_of_le R5.out.2.1 hB.size, (keep5 _ _ R5.out.1).trans R5.out.2.2.1, (keep5 _ _ R5.out.1).trans R5.out.2.2.2.1, (keep5 _ _ R5.out.1).trans R5.out.2.2.2.2.1, (keep5 _ _ R5.out.2.1).trans R5.out.2.2.2.2.2.1, (keep5 _ _ R5.out.2.1).trans R5.out.2.2.2.2.2.2⟩)
 clear hB B5 FW keep5 R5
 go_wp2_with (refine storeMt rfl _ _ rfl w6.heap.size none rfl rfl Z6.out ?_; intro w7 HX HB; obtain ⟨q1, q2, q3, q4, q5, q6, q7⟩ := R6.out; have d1 := (((Below.refl w6.heap.size w6).alloc (Nat.le_refl _) _).trans (HB.out w6.heap.size (Nat.le_refl _))).cell (p := ⟨ga, 0, none⟩) q1 |>.trans q3; have d2 := (((Below.refl w6.heap.size w6).alloc (Nat.le_refl _) _).trans (HB.out w6.heap.size (Nat.le_refl _))).cell (p := ⟨ga, 28, none⟩) q1 |>.trans q4; have d3 := (((Below.refl w6.heap.size w6).alloc (Nat.le_refl _) _).trans (HB.out w6.heap.size (Nat.le_refl _))).cell (p := ⟨ga, 56, none⟩) q1 |>.trans q5; have d4 := (((Below.refl w6.heap.size w6).alloc (Nat.le_refl _) _).trans (HB.out w6.heap.size (Nat.le_refl _))).cell (p := ⟨gb, 0, none⟩) q2 |>.trans q6; have d5 := (((Below.refl w6.heap.size w6).alloc (Nat.le_refl _) _).trans (HB.out w6.heap.size (Nat.le_refl _))).cell (p := ⟨gb, 56, none⟩) q2 |>.trans q7)
 have B7 := Lib.hid ((B6.out.alloc B6.out.size _).trans (HB.out w.heap.size B6.out.size))
 clear d1 d2 d3 d4 d5 B6 HB HX Z6
 refine (F1.out w7 (TW.out.call B7.out) (PW.out.call B7.out)).mono ?_
 rintro e w8 ⟨rfl, hB⟩
 have B8 := Lib.hid (thenB B7.out hB B7.out.size)
 clear hB B7
 go_wp2_with fail
 refine (F2.out w8 (TW.out.call B8.out) (PW.out.call B8.out)).mono ?_
 rintro e w9 ⟨rfl, hB⟩
 have B9 := Lib.hid (thenB B8.out hB B8.out.size)
 clear hB B8
 go_wp2_with fail
 refine (F3.out w9 (TW.out.call B9.out)).mono ?_
 rintro e w10 ⟨rfl, hB⟩
 have B10 := Lib.hid (thenB B9.out hB B9.out.size)
 clear hB B9
 go_wp2_with fail
 refine (F4.out w10 (TW.out.call B10.out) (PW.out.call B10.out)).mono ?_
 rintro e w11 ⟨rfl, hB⟩
 have B11 := Lib.hid (thenB B10.out hB B10.out.size)
 clear hB B10
 go_wp2_with fail
 refine (F5.out w11 (TW.out.call B11.out) (PW.out.call B11.out)).mono ?_
 rintro e w12 ⟨rfl, hB⟩
 have B12 := Lib.hid (thenB B11.out hB B11.out.size)
 clear hB B11
 go_wp2_with fail
 refine (F6.out w12 (TW.out.call B12.out) (PW.out.call B12.out)).mono ?_
 rintro e w13 ⟨rfl, hB⟩
 have B13 := Lib.hid (thenB B12.out hB B12.out.size)
 clear hB B12
 go_wp2_with fail
 refine (H1.out w13).mono ?_
 rintro e w' ⟨rfl, rfl⟩
 go_wp2_with fail
 refine (H2.out w13).mono ?_
 rintro e w' ⟨rfl, rfl⟩
 go_wp2_with fail
 refine (H3.out w13).mono ?_
 rintro e w' ⟨rfl, rfl⟩
 go_wp2_with fail
 go_ret
 exact ⟨rfl, B13.out⟩
end Go.Proofs.YteiboobdhjdjkaaGreatDoor.Nai
