/-
  Layer 8: the walk of the statement ShowPatterns.
-/
import Derived.Test.YtfejdengpnikeaaGreatDoorShoE
import Derived.Test.YtfejdengpnikeaaGreatDoorParFoldM
namespace Go.Proofs.YtfejdengpnikeaaGreatDoor
open Go.RowKit
open Ast (Nd ndV Nodes TreeBox rightZ)

/-- The words of each node that is parsed are a set's. -/
theorem parse_words {p : ByteArray} (h : (parseZ p).2 = 0) (hs : p.size ≤ 800) : LitOkS (parseZ p).1.2 (parseZ p).1.1 := fun i hi _ => by
  obtain ⟨t, -, hF⟩ := flags_z h hs
  obtain ⟨S, ⟨h0, h1, h2, h3⟩, -⟩ := (hF.node i hi).one
  refine words_of ⟨?_, ?_, ?_, ?_⟩
  · rw [h0]; exact ⟨by omega, by have := W_lt S 0; omega⟩
  · rw [h1]; exact ⟨by omega, by have := W_lt S 1; omega⟩
  · rw [h2]; exact ⟨by omega, by have := W_lt S 2; omega⟩
  · rw [h3]; exact ⟨by omega, by have := W_lt S 3; omega⟩
set_option maxRecDepth 100000 in
set_option maxHeartbeats 32000000 in
theorem showPatterns_any (K : PKit) (p : ByteArray) (w : World) (hs : p.size ≤ 9223372036854775807) (hw : TZ w) : Calls Tryz.prog 5 #[.string p] w fun e w' => e = .returned (.bool true) ∧ Below w.heap.size w w' := by
  have HF := Lib.hid (fun w h => fixed_any K.sorts w h)
  have HP0 := Lib.hid (fun p w (h : Tabs w) => parse_g K p w h)
  have HK := Lib.hid K.sorts
  have HKp := Lib.hid K
  have HT := Lib.hid hw
  clear hw K
  go_enter Tryz.func5, Tryz.ntmps5
  go_wp2_with fail
  have hXs0 : (p.extract 0 (min (p.size : Int) 200).toNat).size ≤ 200 := by rw [ByteArray.size_extract]; omega
  generalize p.extract 0 (min (p.size : Int) 200).toNat = X at hXs0 ⊢
  have HXs := Lib.hid hXs0
  clear hXs0
  have HB := Lib.hid (Below.refl w.heap.size w)
  with_reducible refine (HP0.out X _ (HT.out.call HB.out).tabs).mono ?_
  rintro e w1 ⟨B, cap, rfl, ht, hb⟩
  have HM := Lib.hid ht.nodes
  have HZn := Lib.hid ht.none
  replace HB := Lib.hid (thenB HB.out hb HB.out.size)
  clear ht hb
  have HQ := Lib.hid (parse_cases X (by have := HXs.out; omega))
  have HWd := Lib.hid (fun h => parse_words (p := X) h (by have := HXs.out; omega))
  obtain ⟨R, hR⟩ : ∃ R, R = parseZ X := ⟨_, rfl⟩
  rw [← hR] at HM HQ HZn HWd ⊢
  clear hR
  obtain ⟨t, er⟩ := R
  simp only [] at HM HQ HZn HWd ⊢
  go_wp2_with (refine newTree rfl _ _ rfl w1 B t.1 cap rfl rfl rfl ?_; intro w2 hx hN; refine StopS.out ?_)
  refine ⟨?_⟩
  have HX := Lib.hid hx.out
  replace HM := Lib.hid (HM.out.below hN.out (Nat.le_refl _))
  replace HB := Lib.hid (thenB HB.out hN.out HB.out.size)
  clear hx hN
  have cHX := HX.out.cell
  rcases HQ.out with ⟨h0, he⟩ | ⟨rfl, hr, hd, hn⟩
  · clear HQ HWd
    obtain ⟨n, L⟩ := t
    simp only [] at h0
    subst h0
    have HSh := Lib.hid (fun w h (t : TP w) => show_any HK.out.1 HK.out.2 B 0 cap L w (by omega) h (fun i hi => absurd hi (Nat.not_lt_zero _)) like_backs t.1 t.2)
    rw [if_neg (right_none _)] at HSh
    rcases he with rfl | rfl | rfl | rfl
    · go_wp2_with fail
      refine (HSh.out _ HM.out (HT.out.call HB.out).tp).mono ?_
      rintro e w3 ⟨rfl, hb⟩
      replace HB := Lib.hid (thenB HB.out hb HB.out.size)
      clear hb
      go_wp2_with fail
      refine (HF.out _ (HT.out.call HB.out).tp).mono ?_
      rintro e w4 ⟨rfl, hb⟩
      replace HB := Lib.hid (thenB HB.out hb HB.out.size)
      clear hb
      go_wp2_with fail
      go_ret
      exact ⟨rfl, HB.out⟩
    · go_wp2_with fail
      refine (HSh.out _ HM.out (HT.out.call HB.out).tp).mono ?_
      rintro e w5 ⟨rfl, hb⟩
      replace HB := Lib.hid (thenB HB.out hb HB.out.size)
      clear hb
      go_wp2_with fail
      refine (HF.out _ (HT.out.call HB.out).tp).mono ?_
      rintro e w6 ⟨rfl, hb⟩
      replace HB := Lib.hid (thenB HB.out hb HB.out.size)
      clear hb
      go_wp2_with fail
      go_ret
      exact ⟨rfl, HB.out⟩
    · go_wp2_with fail
      refine (HSh.out _ HM.out (HT.out.call HB.out).tp).mono ?_
      rintro e w7 ⟨rfl, hb⟩
      replace HB := Lib.hid (thenB HB.out hb HB.out.size)
      clear hb
      go_wp2_with fail
      refine (HF.out _ (HT.out.call HB.out).tp).mono ?_
      rintro e w8 ⟨rfl, hb⟩
      replace HB := Lib.hid (thenB HB.out hb HB.out.size)
      clear hb
      go_wp2_with fail
      go_ret
      exact ⟨rfl, HB.out⟩
    · go_wp2_with fail
      refine (HSh.out _ HM.out (HT.out.call HB.out).tp).mono ?_
      rintro e w9 ⟨rfl, hb⟩
      replace HB := Lib.hid (thenB HB.out hb HB.out.size)
      clear hb
      go_wp2_with fail
      refine (HF.out _ (HT.out.call HB.out).tp).mono ?_
      rintro e w10 ⟨rfl, hb⟩
      replace HB := Lib.hid (thenB HB.out hb HB.out.size)
      clear hb
      go_wp2_with fail
      go_ret
      exact ⟨rfl, HB.out⟩
  · have HL := Lib.hid (HWd.out rfl)
    have HSh := Lib.hid (fun w h (u : TP w) => show_any HK.out.1 HK.out.2 B t.1 cap t.2 w (by omega) h HL.out like_backs u.1 u.2)
    rw [if_pos hr] at HSh
    have HBk := Lib.hid (fun h => back_at HKp.out t.1 t.2 hr HL.out h)
    have hpos := shown_pos hr
    clear HQ HWd hd
    by_cases hbig : 1000 < (showT t.2 t.1).size
    · generalize showT t.2 t.1 = s at HSh hbig
      have q : (1000 : Int) < (s.size : Int) := by omega
      clear hr hpos hbig HBk HL
      go_wp2_with fail
      refine (HSh.out _ HM.out (HT.out.call HB.out).tp).mono ?_
      rintro e w11 ⟨rfl, hb⟩
      replace HX := Lib.hid (TreeBox.to HX.out hb HX.out.lt)
      replace HM := Lib.hid (HM.out.below hb (Nat.le_refl _))
      replace HB := Lib.hid (thenB HB.out hb HB.out.size)
      clear hb
      clear cHX
      go_wp2_with fail
      refine (HF.out _ (HT.out.call HB.out).tp).mono ?_
      rintro e w12 ⟨rfl, hb⟩
      replace HB := Lib.hid (thenB HB.out hb HB.out.size)
      clear hb
      go_wp2_with fail
      go_ret
      exact ⟨rfl, HB.out⟩
    · obtain ⟨L, hLl, hP⟩ := HBk.out (by omega)
      have HSame := Lib.hid (same_of hLl)
      have HP := Lib.hid hP
      have hn6 : t.1 ≤ 1000000 := by omega
      generalize showT t.2 t.1 = s at HSh hbig HP
      have q : ¬ (1000 : Int) < (s.size : Int) := by omega
      clear hr hpos hbig HBk HL hP hLl
      go_wp2_with fail
      refine (HSh.out _ HM.out (HT.out.call HB.out).tp).mono ?_
      rintro e w13 ⟨rfl, hb⟩
      replace HX := Lib.hid (TreeBox.to HX.out hb HX.out.lt)
      replace HM := Lib.hid (HM.out.below hb (Nat.le_refl _))
      replace HB := Lib.hid (thenB HB.out hb HB.out.size)
      clear hb
      clear cHX
      go_wp2_with fail
      refine (HP.out _ (HT.out.call HB.out).tabs).mono ?_
      rintro e w14 ⟨B2, cap2, rfl, hnn, hb⟩
      have HM2 := Lib.hid hnn
      clear hnn
      replace HX := Lib.hid (TreeBox.to HX.out hb HX.out.lt)
      replace HM := Lib.hid (HM.out.below hb (Nat.le_refl _))
      replace HB := Lib.hid (thenB HB.out hb HB.out.size)
      clear hb
      go_wp2_with (refine newTree rfl _ _ rfl w14 B2 t.1 cap2 rfl rfl rfl ?_; intro w15 hx hN; refine StopS.out ?_)
      refine ⟨?_⟩
      have HY := Lib.hid hx.out
      replace HX := Lib.hid (TreeBox.to HX.out hN.out HX.out.lt)
      replace HM := Lib.hid (HM.out.below hN.out (Nat.le_refl _))
      replace HM2 := Lib.hid (HM2.out.below hN.out (Nat.le_refl _))
      replace HB := Lib.hid (thenB HB.out hN.out HB.out.size)
      clear hx hN
      have cHX := HX.out.cell
      have cHY := HY.out.cell
      go_wp2_with fail
      refine (Ast.same_any B B2 t.1 t.1 cap cap2 t.2 L _ hn6 hn6 HM.out HM2.out).mono ?_
      rintro e w16 ⟨rfl, hb⟩
      replace HB := Lib.hid (thenB HB.out hb HB.out.size)
      clear hb
      rw [HSame.out]
      clear cHX cHY
      go_wp2_with fail
      refine (HF.out _ (HT.out.call HB.out).tp).mono ?_
      rintro e w17 ⟨rfl, hb⟩
      replace HB := Lib.hid (thenB HB.out hb HB.out.size)
      clear hb
      go_wp2_with fail
      go_ret
      exact ⟨rfl, HB.out⟩
end Go.Proofs.YtfejdengpnikeaaGreatDoor
