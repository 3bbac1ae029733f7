/-
  Layer 8: the walk of the statement ShowBack.
-/
import Derived.Test.YtfejdengpnikeaaGreatDoorShoE
namespace Go.Proofs.YtfejdengpnikeaaGreatDoor
open Go.RowKit
open Ast (Nd ndV Nodes TreeBox rightZ)

set_option maxRecDepth 100000 in
set_option maxHeartbeats 16000000 in
theorem showBack_any (K : PKit) (A : Option Addr) (n0 cap : Nat) (l : Nat → Nd) (w : World) (hc : n0 ≤ cap) (hcap : cap ≤ 9223372036854775807) (h0 : A = none → n0 = 0 ∧ cap = 0) (hl : Nodes w A n0 l) (hW : ∀ i, i < n0 → Wds (l i)) (hw : TZ w) :
    Calls Tryz.prog 4 #[.agg #[.slice A n0 cap]] w fun e w' => e = .returned (.bool true) ∧ Below w.heap.size w w' := by
  have HCut := Lib.hid (fun w => Ast.cut_any A n0 cap 60 w hc hcap h0 (by decide))
  have HF := Lib.hid (fun w h => fixed_any K.sorts w h)
  obtain ⟨n, hn⟩ : ∃ n, n = min n0 60 := ⟨_, rfl⟩
  rw [← hn] at HCut
  have hn60 : n ≤ 60 := by omega
  have HN0 : Nodes w A n l := fun i hi => hl i (by omega)
  have hL : LitOkS l n := lit_of fun i hi => hW i (by omega)
  have HT := Lib.hid hw
  have HN := Lib.hid HN0
  have HSh := Lib.hid (fun w h (t : TP w) => show_any K.sorts.1 K.sorts.2 A n cap l w (by omega) h hL like_backs t.1 t.2)
  have HRi := Lib.hid (fun w h => Ast.right_any K.sort K.none A n cap l w (by omega) h)
  have HB := Lib.hid ((Below.refl w.heap.size w).alloc (Nat.le_refl _) (.cells #[.slice A n0 cap] 24))
  have HX : Hid (TreeBox (w.alloc (.cells #[.slice A n0 cap] 24)) w.heap.size A n0 cap) := Lib.hid (TreeBox.new _ _ _ _)
  have HL := Lib.hid hL
  clear hw hc hcap h0 hl hW HN0 hn hL
  by_cases hr : rightZ l n = 0
  · have HBk := Lib.hid (fun h => back_at K n l hr HL.out h)
    have hpos := shown_pos hr
    rw [if_pos hr] at HSh
    rw [hr] at HRi
    by_cases hbig : 1000 < (showT l n).size
    · generalize showT l n = s at HSh hbig
      have q : (1000 : Int) < (s.size : Int) := by omega
      clear hr hpos hbig HBk HL
      go_enter Tryz.func4, Tryz.ntmps4
      go_wp2_with fail
      refine (HCut.out _).mono ?_
      rintro e w1 ⟨rfl, hb⟩
      replace HX := Lib.hid (TreeBox.to HX.out hb HX.out.lt)
      replace HB := Lib.hid (thenB HB.out hb HB.out.size)
      clear hb
      go_wp2_with (refine putTree rfl _ _ rfl w.heap.size _ A n cap rfl rfl HX.out ?_; intro w2 hx hbl ho; refine StopS.out ?_)
      refine ⟨?_⟩
      replace HB := Lib.hid (HB.out.trans (hbl.out _ (Nat.le_refl _)))
      replace HX := Lib.hid hx.out
      clear hx hbl ho
      have cHX := HX.out.cell
      go_wp2_with fail
      refine (HSh.out _ (HN.out.below HB.out (Nat.le_refl _)) (HT.out.call HB.out).tp).mono ?_
      rintro e w3 ⟨rfl, hb⟩
      replace HX := Lib.hid (TreeBox.to HX.out hb HX.out.lt)
      replace HB := Lib.hid (thenB HB.out hb HB.out.size)
      clear hb
      clear cHX
      have cHX := HX.out.cell
      go_wp2_with fail
      refine (HRi.out _ (HN.out.below HB.out (Nat.le_refl _))).mono ?_
      rintro e w4 ⟨rfl, hb⟩
      replace HX := Lib.hid (TreeBox.to HX.out hb HX.out.lt)
      replace HB := Lib.hid (thenB HB.out hb HB.out.size)
      clear hb
      clear cHX
      go_wp2_with fail
      refine (HF.out _ (HT.out.call HB.out).tp).mono ?_
      rintro e w5 ⟨rfl, hb⟩
      replace HB := Lib.hid (thenB HB.out hb HB.out.size)
      clear hb
      go_wp2_with fail
      go_ret
      exact ⟨rfl, HB.out⟩
    · obtain ⟨L, hLl, hP⟩ := HBk.out (by omega)
      have HSame := Lib.hid (same_of hLl)
      have hs2 : showT L n = showT l n := show_same hLl n (Nat.le_refl _)
      have hr2 : rightZ L n = 0 := (right_same hLl).trans hr
      have HS2 := Lib.hid (fun B cap2 w h (t : TP w) => show_any K.sorts.1 K.sorts.2 B n cap2 L w (by omega) h (lit_same hLl HL.out) like_backs t.1 t.2)
      rw [if_pos hr2, hs2] at HS2
      have HP := Lib.hid hP
      have hne := str_ne (show (showT l n).size ≠ 0 by omega)
      generalize showT l n = s at HSh hbig hne HS2 HP
      have q : ¬ (1000 : Int) < (s.size : Int) := by omega
      clear hr hpos hbig HBk HL hP hLl hs2 hr2
      go_enter Tryz.func4, Tryz.ntmps4
      go_wp2_with fail
      refine (HCut.out _).mono ?_
      rintro e w6 ⟨rfl, hb⟩
      replace HX := Lib.hid (TreeBox.to HX.out hb HX.out.lt)
      replace HB := Lib.hid (thenB HB.out hb HB.out.size)
      clear hb
      go_wp2_with (refine putTree rfl _ _ rfl w.heap.size _ A n cap rfl rfl HX.out ?_; intro w7 hx hbl ho; refine StopS.out ?_)
      refine ⟨?_⟩
      replace HB := Lib.hid (HB.out.trans (hbl.out _ (Nat.le_refl _)))
      replace HX := Lib.hid hx.out
      clear hx hbl ho
      have cHX := HX.out.cell
      go_wp2_with fail
      refine (HSh.out _ (HN.out.below HB.out (Nat.le_refl _)) (HT.out.call HB.out).tp).mono ?_
      rintro e w8 ⟨rfl, hb⟩
      replace HX := Lib.hid (TreeBox.to HX.out hb HX.out.lt)
      replace HB := Lib.hid (thenB HB.out hb HB.out.size)
      clear hb
      clear cHX
      have cHX := HX.out.cell
      go_wp2_with fail
      refine (HRi.out _ (HN.out.below HB.out (Nat.le_refl _))).mono ?_
      rintro e w9 ⟨rfl, hb⟩
      replace HX := Lib.hid (TreeBox.to HX.out hb HX.out.lt)
      replace HB := Lib.hid (thenB HB.out hb HB.out.size)
      clear hb
      clear cHX
      go_wp2_with fail
      refine (HP.out _ (HT.out.call HB.out).tabs).mono ?_
      rintro e w10 ⟨B, cap2, rfl, hnn, hb⟩
      have HM := Lib.hid hnn
      clear hnn
      replace HX := Lib.hid (TreeBox.to HX.out hb HX.out.lt)
      replace HB := Lib.hid (thenB HB.out hb HB.out.size)
      clear hb
      go_wp2_with (refine newTree rfl _ _ rfl w10 B n cap2 rfl rfl rfl ?_; intro w11 hx hN; refine StopS.out ?_)
      refine ⟨?_⟩
      have HY := Lib.hid hx.out
      replace HX := Lib.hid (TreeBox.to HX.out hN.out HX.out.lt)
      replace HM := Lib.hid (HM.out.below hN.out (Nat.le_refl _))
      replace HB := Lib.hid (thenB HB.out hN.out HB.out.size)
      clear hx hN
      have cHX := HX.out.cell
      have cHY := HY.out.cell
      go_wp2_with fail
      refine (Ast.same_any A B n n cap cap2 l L _ (by omega) (by omega) (HN.out.below HB.out (Nat.le_refl _)) HM.out).mono ?_
      rintro e w12 ⟨rfl, hb⟩
      replace HX := Lib.hid (TreeBox.to HX.out hb HX.out.lt)
      replace HY := Lib.hid (TreeBox.to HY.out hb HY.out.lt)
      replace HM := Lib.hid (HM.out.below hb (Nat.le_refl _))
      replace HB := Lib.hid (thenB HB.out hb HB.out.size)
      clear hb
      rw [HSame.out]
      clear cHX cHY
      have cHX := HX.out.cell
      have cHY := HY.out.cell
      go_wp2_with fail
      refine (HS2.out B cap2 _ HM.out (HT.out.call HB.out).tp).mono ?_
      rintro e w13 ⟨rfl, hb⟩
      replace HX := Lib.hid (TreeBox.to HX.out hb HX.out.lt)
      replace HY := Lib.hid (TreeBox.to HY.out hb HY.out.lt)
      replace HM := Lib.hid (HM.out.below hb (Nat.le_refl _))
      replace HB := Lib.hid (thenB HB.out hb HB.out.size)
      clear hb
      clear cHX cHY
      go_wp2_with fail
      refine (HF.out _ (HT.out.call HB.out).tp).mono ?_
      rintro e w14 ⟨rfl, hb⟩
      replace HB := Lib.hid (thenB HB.out hb HB.out.size)
      clear hb
      go_wp2_with fail
      go_ret
      exact ⟨rfl, HB.out⟩
  · rw [if_neg hr] at HSh
    have q : (rightZ l n == 0) = false := beq_eq_false_iff_ne.2 hr
    generalize rightZ l n = z at HRi q
    clear hr HL
    go_enter Tryz.func4, Tryz.ntmps4
    go_wp2_with fail
    refine (HCut.out _).mono ?_
    rintro e w15 ⟨rfl, hb⟩
    replace HX := Lib.hid (TreeBox.to HX.out hb HX.out.lt)
    replace HB := Lib.hid (thenB HB.out hb HB.out.size)
    clear hb
    go_wp2_with (refine putTree rfl _ _ rfl w.heap.size _ A n cap rfl rfl HX.out ?_; intro w16 hx hbl ho; refine StopS.out ?_)
    refine ⟨?_⟩
    replace HB := Lib.hid (HB.out.trans (hbl.out _ (Nat.le_refl _)))
    replace HX := Lib.hid hx.out
    clear hx hbl ho
    have cHX := HX.out.cell
    go_wp2_with fail
    refine (HSh.out _ (HN.out.below HB.out (Nat.le_refl _)) (HT.out.call HB.out).tp).mono ?_
    rintro e w17 ⟨rfl, hb⟩
    replace HX := Lib.hid (TreeBox.to HX.out hb HX.out.lt)
    replace HB := Lib.hid (thenB HB.out hb HB.out.size)
    clear hb
    clear cHX
    have cHX := HX.out.cell
    go_wp2_with fail
    refine (HRi.out _ (HN.out.below HB.out (Nat.le_refl _))).mono ?_
    rintro e w18 ⟨rfl, hb⟩
    replace HX := Lib.hid (TreeBox.to HX.out hb HX.out.lt)
    replace HB := Lib.hid (thenB HB.out hb HB.out.size)
    clear hb
    clear cHX
    go_wp2_with fail
    refine (HF.out _ (HT.out.call HB.out).tp).mono ?_
    rintro e w19 ⟨rfl, hb⟩
    replace HB := Lib.hid (thenB HB.out hb HB.out.size)
    clear hb
    go_wp2_with fail
    go_ret
    exact ⟨rfl, HB.out⟩
end Go.Proofs.YtfejdengpnikeaaGreatDoor
