import Derived.Test.YteiboobdhjdjkaaGreatDoorCapNumM
import Derived.OwnWalk
import Derived.Laws.OwnMore
namespace Go.Proofs.YteiboobdhjdjkaaGreatDoor.Cap
open Go.RowKit
def showS (c : Cp) : Nat → ByteArray
 | 0 => ⟨#[]⟩
 | m + 1 => (if m = 0 then showS c m else showS c m ++ ⟨#[44]⟩) ++ partS c m
def partL (c : Cp) (m : Nat) : List ByteArray := (List.range m).map (partS c)
theorem partL_succ (c : Cp) (m : Nat) : partL c (m + 1) = partL c m ++ [partS c m] := by
 unfold partL
 rw [List.range_succ, List.map_append]
 rfl
theorem partL_len (c : Cp) (m : Nat) : (partL c m).length = m := by unfold partL; simp
theorem join_snoc (sep : List UInt8) : ∀ (l : List (List UInt8)) (x : List UInt8), l ≠ [] → Lib.join (l ++ [x]) sep = Lib.join l sep ++ sep ++ x
 | [], _, h => absurd rfl h
 | [a], x, _ => by simp [Lib.join, List.intercalate]
 | a :: b :: l, x, _ => by
   have ih := join_snoc sep (b :: l) x (by simp)
   simp only [Lib.join, List.intercalate] at ih ⊢
   simp only [List.cons_append, List.intersperse_cons_cons, List.flatten_cons] at ih ⊢
   rw [ih]
   simp [List.append_assoc]
theorem join_show (c : Cp) (m : Nat) : (⟨(Lib.join ((partL c m).map (·.data.toList)) [44]).toArray⟩ : ByteArray) = showS c m := by
 induction m with
 | zero => rfl
 | succ m ih =>
   rw [partL_succ, List.map_append]
   show (⟨(Lib.join (_ ++ [(partS c m).data.toList]) [44]).toArray⟩ : ByteArray) = _
   unfold showS
   by_cases h : m = 0
   ·subst h
    rw [if_pos rfl]
    show (⟨(Lib.join [(partS c 0).data.toList] [44]).toArray⟩ : ByteArray) = ⟨#[]⟩ ++ partS c 0
    simp [Lib.join, List.intercalate]
    apply ByteArray.ext
    rw [ByteArray.data_append]
    simp
   ·rw [if_neg h, join_snoc _ _ _ (by
     intro e
     have := congrArg List.length e
     rw [List.length_map, partL_len] at this
     exact h this), ba_app, ba_app, ih]
theorem partS_size (c : Cp) (hc : c.fits) (k : Nat) (hk : k < 9) : (partS c k).size ≤ 61 := by
 obtain ⟨f1, f2⟩ := hc k hk
 unfold partS
 split
 ·rw [ByteArray.size_append, ByteArray.size_append, show (⟨#[45]⟩ : ByteArray).size = 1 from rfl]
  have := itS_size _ f1
  have := itS_size _ f2
  omega
 ·exact (show (1 : Nat) ≤ 61 by decide)
theorem showS_size (c : Cp) (hc : c.fits) : ∀ m, m ≤ 9 → (showS c m).size ≤ m * 62
 | 0, _ => Nat.zero_le _
 | m + 1, h => by
   have ih := showS_size c hc m (by omega)
   have hp := partS_size c hc m (by omega)
   unfold showS
   split
   ·rw [ByteArray.size_append]; omega
   ·rw [ByteArray.size_append, ByteArray.size_append, show (⟨#[44]⟩ : ByteArray).size = 1 from rfl]; omega
theorem infoS : (Tryz.prog.info? 9).map (fun i => (i.zero, i.size, i.bytes)) = some (some (.string ⟨#[]⟩), 1, 16) := by kernel_rfl
theorem own_call {w w' : World} {base : Nat} {T : TypeId} {size : Nat} {v : Value} {n : Nat} {xs : List Value} (h : w.ownsRow base T size v n xs) (hb : Below w.heap.size w w') : w'.ownsRow base T size v n xs := by
 refine ⟨h.1, ?_⟩
 rcases h.2 with h2 | ⟨r, cap, cur, hv, hr, hh, rest⟩
 ·exact .inl h2
 ·exact .inr ⟨r, cap, cur, hv, hr, (hb.block r (Array.getElem?_eq_some_iff.1 hh).1).trans hh, rest⟩
theorem strs_one (w : World) (s : ByteArray) : ∀ j u, [Value.string s][j]? = some u → (w.alloc (.cells #[.string s] 9)).cell? (Addr.add ⟨w.heap.size, 0, none⟩ j) = some u := by
 intro j u hu
 match j, hu with
 | 0, hu =>
   simp at hu
   subst hu
   rw [Addr.add_lit]
   unfold World.cell?
   rw [heap_alloc_new]
   rfl
theorem row_strs {w : World} {base : Nat} {c : Cp} {m : Nat} {v : Value} (h : w.ownsRow base 9 1 v m ((partL c m).map .string)) : (v = .slice none 0 0 ∧ m = 0) ∨ ∃ g cap, v = .slice (some ⟨g, 0, none⟩) m cap ∧ g < w.heap.size ∧ m ≤ cap ∧ ∀ (j : Nat) x, (partL c m)[j]? = some x → w.cell? ⟨g, 0 + j, none⟩ = some (.string x) := by
 rcases h.2 with h2 | ⟨g, cap, cur, rfl, hb, hg, hn, -, hsz, hcur⟩
 ·exact .inl h2
 ·refine .inr ⟨g, cap, rfl, lt_of_block hg, hn, fun j x hx => ?_⟩
  rw [Nat.zero_add, cell_of_row w g j _ _ _ hg]
  have hj : j < m := by
   have := (List.getElem?_eq_some_iff.1 hx).1
   rwa [partL_len] at this
  have e : (cur.toList.take (m * 1))[j]? = some (.string x) := by rw [hcur, List.getElem?_map, hx]; rfl
  rw [List.getElem?_take_of_lt (by omega)] at e
  simpa using e
set_option maxRecDepth 20000 in
set_option maxHeartbeats 4000000 in
theorem shows_any (L : LibOk) (c : Cp) (hc : c.fits) (z : Int) (m : Nat) (hm9 : m ≤ 9) (hz : z < 1 ∧ m ≤ 0 ∨ z = (m : Int) ∧ 1 ≤ m ∨ 9 < z ∧ 9 ≤ m) (w : World) (hw : PowOk w) : Calls Tryz.prog 61 #[.agg (cpC c), .int .i64 z] w fun e w' => e = .returned (.string (showS c m)) ∧ Below w.heap.size w w' := by
 have HX := Lib.hid (BoxV.new (T := 44) w (cpC c))
 have HW := Lib.hid (hw.call ((Below.refl w.heap.size w).alloc (Nat.le_refl _) (.cells (cpC c) 44)))
 have HP := Lib.hid (fun (k : Nat) (hk : k < 9) w h => show_any L c hc k hk w h)
 have HJ0 := Lib.hid L.join.none
 have HJ := Lib.hid L.join.some
 have HSZ := Lib.hid (showS_size c hc)
 obtain ⟨i0, hi, hz0, hz1, hz2⟩ := info_parts infoS
 have HI := Lib.hid (And.intro hi (And.intro hz0 (And.intro hz1 hz2)))
 have HB0 := Lib.hid ((Below.refl w.heap.size w).alloc (Nat.le_refl _) (.cells (cpC c) 44))
 clear hw L hc hi hz0 hz1 hz2
 rcases hz with ⟨hz, h0⟩ | ⟨hz, h0⟩ | ⟨hz, h0⟩
 all_goals
  go_enter Tryz.func61, Tryz.ntmps61
  go_wp2_with fail
  go_loopw [5, 6] (fun v i wr => ∃ k : Nat, k ≤ m ∧ i = .int .i64 ((k : Int) + 1) ∧ Hid (wr.ownsRow (w.heap.size + 1) 9 1 v k ((partL c k).map .string)) ∧ Hid (Below (w.heap.size + 1) (w.alloc (.cells (cpC c) 44)) wr)) (fun _ i _ => 11 - (intOf i).toNat)
  case atStart => exact ⟨0, Nat.zero_le _, rfl, Lib.hid (World.ownsRow_nil _ _ _ _), Lib.hid (Below.refl _ _)⟩
  case round =>
   obtain ⟨k, hk, rfl, HO, HB⟩ := hrel
   have HBX := Lib.hid (HX.out.below HB.out (Nat.lt_succ_self _))
   have HWR := Lib.hid (HW.out.call (by rw [World.size_alloc]; exact HB.out))
   have HZR := Lib.hid (show w.heap.size + 1 ≤ wr.heap.size by have := HB.out.size; simpa using this)
   by_cases hlt : k < m
   ·first
    | (exfalso; omega)
    | (have HPK := Lib.hid (HP.out k (by omega))
       go_wp2_with (refine loadC rfl _ rfl w.heap.size c rfl HBX.out ?_)
       refine (HPK.out _ HWR.out).mono ?_
       rintro e w2 ⟨rfl, hb⟩
       have HB2 := Lib.hid (thenB HB.out hb HZR.out)
       have HO2 := Lib.hid (own_call HO.out hb)
       have HZ2 := Lib.hid (Nat.le_trans HZR.out hb.size)
       clear hb
       go_wp2_with (at_builtin; refine wpList_append_own _ rfl _ _ 162 rfl (w.heap.size + 1) 9 i0 _ 1 16 Tryz.underlying162 HI.out.1 HI.out.2.1 HI.out.2.2.1 HI.out.2.2.2 rfl (by decide) _ _ _ rfl (HO2.out.alloc _) ⟨w2.heap.size, 0, none⟩ 1 1 [.string (partS c k)] rfl rfl (strs_one w2 _) (by intro u hu; simp at hu; subst hu; rfl) (by unfold maxLen; omega) (by omega) (by have := HZ2.out; simp; omega) ?_)
       intro v3 w3 hown3 hgrow3 _
       have HO3 := Lib.hid (show w3.ownsRow (w.heap.size + 1) 9 1 v3 (k + 1) ((partL c (k + 1)).map .string) by rw [partL_succ, List.map_append]; exact hown3)
       have HB3 := Lib.hid ((HB2.out.alloc HZ2.out _).grown hgrow3 (by simp; have := HZ2.out; omega) (fun g hg => (HO2.out.lt g hg).1))
       clear hown3 hgrow3
       go_wp2_with fail
       go_roundw
       case rel => exact ⟨k + 1, by omega, by go_num, HO3, HB3⟩
       case measure => simp [intOf]; omega)
   ·have hke : k = m := by omega
    subst hke
    have HBW := Lib.hid (show Below w.heap.size w wr from HB0.out.trans (HB.out.mono (Nat.le_succ _)))
    have HSH := Lib.hid (join_show c k)
    have HLN := Lib.hid (partL_len c k)
    have HSS := Lib.hid (HSZ.out k hm9)
    rcases row_strs HO.out with ⟨rfl, hk0⟩ | ⟨g, cap, rfl, hg, hcap, hcells⟩
    ·have HK0 := Lib.hid hk0
     have HJN := Lib.hid (HJ0.out none 0 ⟨#[44]⟩)
     clear hk0
     go_wp2_with fail
     refine (HJN.out _).mono ?_
     rintro e w2 ⟨rfl, hw2⟩
     have HW2 := Lib.hid hw2
     clear hw2
     go_wp2_with fail
     go_ret
     exact ⟨ret_s (by rw [HK0.out]; rfl), by rw [HW2.out]; exact HBW.out⟩
    ·have hjlen : (Lib.join ((partL c k).map (·.data.toList)) (⟨#[44]⟩ : ByteArray).data.toList).length ≤ 140737488355328 := by
      have e := congrArg ByteArray.size HSH.out
      have e2 := HSS.out
      change (List.toArray _).size = _ at e
      rw [List.size_toArray] at e
      show (Lib.join _ [44]).length ≤ _
      omega
     have hj := HJ.out g 0 cap (partL c k) ⟨#[44]⟩ wr hcells hg (by rw [HLN.out]; omega) (by rw [HLN.out]; exact hcap) hjlen
     rw [HLN.out] at hj
     have e44 : (⟨(Lib.join ((partL c k).map (·.data.toList)) (⟨#[44]⟩ : ByteArray).data.toList).toArray⟩ : ByteArray) = showS c k := HSH.out
     rw [e44] at hj
     have HJN := Lib.hid hj
     clear hj e44 hjlen hcells hg hcap
     go_wp2_with fail
     refine HJN.out.mono ?_
     rintro e w2 ⟨rfl, hb⟩
     have HBB := Lib.hid (thenB HBW.out hb HBW.out.size)
     clear hb
     go_wp2_with fail
     go_ret
     exact ⟨rfl, HBB.out⟩
end Go.Proofs.YteiboobdhjdjkaaGreatDoor.Cap
