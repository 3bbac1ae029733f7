/-
  Layer 6: the walk of the statement on the tokens of any pattern.
-/
import Derived.Test.YtlcecblehffjiaaDoorLexRLex
namespace Go.Proofs.YtlcecblehffjiaaDoor
open Go.RowKit

theorem toks_any (p : ByteArray) : (lexZ p).1.length ≤ 1000 := by
  by_cases h : 1000 < p.size
  · unfold lexZ
    rw [if_pos h]
    exact Nat.zero_le _
  · exact toks_len p (by omega)

set_option maxRecDepth 100000 in
set_option maxHeartbeats 16000000 in
theorem lexTells_s (hE : ErrsOk) (hC : CloneOk) (p : ByteArray) (w : World) (hs : p.size ≤ 9223372036854775807) (hw : Tabs w) (hp : p.size ≤ 1100) : Calls Tryd.prog 3 #[.string p] w fun e w' => e = .returned (.bool true) ∧ Below w.heap.size w w' := by
  have HF := Lib.hid (fun w (h : Tabs w) => fixed_any hE hC w h)
  have HL0 := Lib.hid (fun p w (h : Tabs w) => lex_any hE hC p w h.err h.tab h.op)
  have HR0 := Lib.hid (fun p (hp : p.size ≤ 1000000) w => rlex_any p w hp)
  have HT := Lib.hid hw
  clear hw hE hC
  go_enter Tryd.func3, Tryd.ntmps3
  go_wp2_with fail
  have HX := Lib.hid (show p.size ≤ 1000000 by omega)
  obtain ⟨X, rfl⟩ : ∃ X, X = p := ⟨_, rfl⟩
  have HL := Lib.hid (fun w h => HL0.out X w h)
  have HR := Lib.hid (fun w => HR0.out X HX.out w)
  clear HL0 HR0 hs
  have hlen := toks_any X
  with_reducible refine (HL.out _ HT.out).mono ?_
  obtain ⟨Z, hZ⟩ : ∃ Z, Z = lexZ X := ⟨_, rfl⟩
  rw [← hZ] at hlen ⊢
  have HR1 := Lib.hid (fun w => by have := HR.out w; rw [← hZ] at this; exact this)
  clear hZ HR HL
  obtain ⟨l, er⟩ := Z
  simp only [] at hlen
  rintro e w1 ⟨v1, rfl, ho1, hb⟩
  obtain ⟨A, cap, rfl, htk, -⟩ := own_toks ho1
  clear ho1
  have HTK := Lib.hid htk
  have HB1 := Lib.hid hb
  clear hb htk
  simp only []
  go_wp2_with fail
  with_reducible refine (HR1.out _).mono ?_
  rintro e w2 ⟨v2, rfl, ho2, hb⟩
  obtain ⟨A', cap', rfl, htk2⟩ := own_toks6 ho2
  clear ho2
  have HTK2 := Lib.hid (HTK.out.below hb (Nat.le_refl _))
  have HU2 := Lib.hid htk2
  have HB2 := Lib.hid (thenB HB1.out hb HB1.out.size)
  clear hb htk2
  simp only [] at HU2 ⊢
  go_wp2_with fail
  with_reducible refine (ref_tok A cap l _ (by omega) HTK2.out).mono ?_
  rintro e w3 ⟨v3, rfl, ho3, -, hb⟩
  obtain ⟨A3, cap3, rfl, htk3⟩ := own_toks6 ho3
  clear ho3
  have HU3 := Lib.hid (HU2.out.below hb (Nat.le_refl _))
  have HV3 := Lib.hid htk3
  have HB3 := Lib.hid (thenB HB2.out hb HB2.out.size)
  clear hb htk3
  go_wp2_with fail
  with_reducible refine (same_tok A3 A' cap3 cap' l _ (by omega) HV3.out HU3.out).mono ?_
  rintro e w4 ⟨rfl, hb⟩
  have HB4 := Lib.hid (thenB HB3.out hb HB3.out.size)
  clear hb
  go_wp2_with fail
  with_reducible refine (HF.out _ (HT.out.call HB4.out)).mono ?_
  rintro e w5 ⟨rfl, hb⟩
  have HB5 := Lib.hid (thenB HB4.out hb HB4.out.size)
  clear hb
  go_wp2_with fail
  go_ret
  exact ⟨rfl, HB5.out⟩

set_option maxRecDepth 100000 in
set_option maxHeartbeats 16000000 in
theorem lexTells_l (hE : ErrsOk) (hC : CloneOk) (p : ByteArray) (w : World) (hs : p.size ≤ 9223372036854775807) (hw : Tabs w) (hp : 1100 < p.size) : Calls Tryd.prog 3 #[.string p] w fun e w' => e = .returned (.bool true) ∧ Below w.heap.size w w' := by
  have HF := Lib.hid (fun w (h : Tabs w) => fixed_any hE hC w h)
  have HL0 := Lib.hid (fun p w (h : Tabs w) => lex_any hE hC p w h.err h.tab h.op)
  have HR0 := Lib.hid (fun p (hp : p.size ≤ 1000000) w => rlex_any p w hp)
  have HT := Lib.hid hw
  clear hw hE hC
  go_enter Tryd.func3, Tryd.ntmps3
  go_wp2_with fail
  have hXs0 : (p.extract 0 1100).size = 1100 := by rw [ByteArray.size_extract]; omega
  generalize p.extract 0 1100 = X at hXs0 ⊢
  have HX := Lib.hid (show X.size ≤ 1000000 by omega)
  clear hXs0
  have HL := Lib.hid (fun w h => HL0.out X w h)
  have HR := Lib.hid (fun w => HR0.out X HX.out w)
  clear HL0 HR0 hs
  have hlen := toks_any X
  with_reducible refine (HL.out _ HT.out).mono ?_
  obtain ⟨Z, hZ⟩ : ∃ Z, Z = lexZ X := ⟨_, rfl⟩
  rw [← hZ] at hlen ⊢
  have HR1 := Lib.hid (fun w => by have := HR.out w; rw [← hZ] at this; exact this)
  clear hZ HR HL
  obtain ⟨l, er⟩ := Z
  simp only [] at hlen
  rintro e w1 ⟨v1, rfl, ho1, hb⟩
  obtain ⟨A, cap, rfl, htk, -⟩ := own_toks ho1
  clear ho1
  have HTK := Lib.hid htk
  have HB1 := Lib.hid hb
  clear hb htk
  simp only []
  go_wp2_with fail
  with_reducible refine (HR1.out _).mono ?_
  rintro e w2 ⟨v2, rfl, ho2, hb⟩
  obtain ⟨A', cap', rfl, htk2⟩ := own_toks6 ho2
  clear ho2
  have HTK2 := Lib.hid (HTK.out.below hb (Nat.le_refl _))
  have HU2 := Lib.hid htk2
  have HB2 := Lib.hid (thenB HB1.out hb HB1.out.size)
  clear hb htk2
  simp only [] at HU2 ⊢
  go_wp2_with fail
  with_reducible refine (ref_tok A cap l _ (by omega) HTK2.out).mono ?_
  rintro e w3 ⟨v3, rfl, ho3, -, hb⟩
  obtain ⟨A3, cap3, rfl, htk3⟩ := own_toks6 ho3
  clear ho3
  have HU3 := Lib.hid (HU2.out.below hb (Nat.le_refl _))
  have HV3 := Lib.hid htk3
  have HB3 := Lib.hid (thenB HB2.out hb HB2.out.size)
  clear hb htk3
  go_wp2_with fail
  with_reducible refine (same_tok A3 A' cap3 cap' l _ (by omega) HV3.out HU3.out).mono ?_
  rintro e w4 ⟨rfl, hb⟩
  have HB4 := Lib.hid (thenB HB3.out hb HB3.out.size)
  clear hb
  go_wp2_with fail
  with_reducible refine (HF.out _ (HT.out.call HB4.out)).mono ?_
  rintro e w5 ⟨rfl, hb⟩
  have HB5 := Lib.hid (thenB HB4.out hb HB4.out.size)
  clear hb
  go_wp2_with fail
  go_ret
  exact ⟨rfl, HB5.out⟩

theorem lexTells_any (hE : ErrsOk) (hC : CloneOk) (p : ByteArray) (w : World) (hs : p.size ≤ 9223372036854775807) (hw : Tabs w) : Calls Tryd.prog 3 #[.string p] w fun e w' => e = .returned (.bool true) ∧ Below w.heap.size w w' := by
  by_cases h : p.size ≤ 1100
  · exact lexTells_s hE hC p w hs hw h
  · exact lexTells_l hE hC p w hs hw (by omega)
end Go.Proofs.YtlcecblehffjiaaDoor
