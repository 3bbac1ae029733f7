/-
  Layer 6: the walk of the statement on how few tokens there are.
-/
import Derived.Test.YtlcecblehffjiaaDoorLexToks
import Derived.Test.YtlcecblehffjiaaDoorLexFewMath
namespace Go.Proofs.YtlcecblehffjiaaDoor
open Go.RowKit

/-- A goal that the walk leaves alone. -/
def Stop (p : Prop) : Prop := p
theorem stopHere {p : Prop} (h : Stop p) : p := h
theorem fewTail_true {a b : Prop} [Decidable a] [Decidable b] (h : a ↔ b) : (decide a == decide b) = true := by
  by_cases ha : a
  · rw [decide_eq_true ha, decide_eq_true (h.1 ha)]; rfl
  · rw [decide_eq_false ha, decide_eq_false (fun hb => ha (h.2 hb))]; rfl

set_option maxRecDepth 100000 in
set_option maxHeartbeats 16000000 in
theorem lexFew_s (hE : ErrsOk) (hC : CloneOk) (p : ByteArray) (w : World) (hs : p.size ≤ 9223372036854775807) (hw : Tabs w) (hp : p.size ≤ 300) : Calls Tryd.prog 9 #[.string p] w fun e w' => e = .returned (.bool true) ∧ Below w.heap.size w w' := by
  have HF := Lib.hid (fun w (h : Tabs w) => fixed_any hE hC w h)
  have HL0 := Lib.hid (fun p w (h : Tabs w) => lex_any hE hC p w h.err h.tab h.op)
  have HT := Lib.hid hw
  clear hw hE hC
  go_enter Tryd.func9, Tryd.ntmps9
  go_wp2_with fail
  have HX := Lib.hid hp
  obtain ⟨X, rfl⟩ : ∃ X, X = p := ⟨_, rfl⟩
  have HL := Lib.hid (fun w h => HL0.out X w h)
  clear HL0
  with_reducible refine (HL.out _ HT.out).mono ?_
  rintro e w1 ⟨v1, rfl, ho1, hb⟩
  obtain ⟨A, cap, rfl, htk, -⟩ := own_toks ho1
  clear ho1
  have HTK := Lib.hid htk
  have HB1 := Lib.hid hb
  clear hb htk
  have hlen := toks_len X (by have := HX.out; omega)
  have hfew := few_lex X (by have := HX.out; omega)
  have hXs : (X.size : Int) ≤ 300 := by have := HX.out; omega
  obtain ⟨R, hR⟩ : ∃ R, R = lexZ X := ⟨_, rfl⟩
  rw [← hR] at hlen hfew HTK
  rw [← hR]
  clear hR
  obtain ⟨l, er⟩ := R
  simp only [] at hlen hfew HTK
  show _
  rcases hfew with ⟨rfl, he⟩ | ⟨rfl, hok, hle, hz⟩
  · rcases he with rfl | rfl
    · go_wp2_with fail
      with_reducible refine (HF.out _ (HT.out.call HB1.out)).mono ?_
      rintro e w2 ⟨rfl, hb⟩
      have HB2 := Lib.hid (thenB HB1.out hb HB1.out.size)
      clear hb
      go_wp2_with fail
      go_ret
      exact ⟨rfl, HB2.out⟩
    · go_wp2_with fail
      with_reducible refine (HF.out _ (HT.out.call HB1.out)).mono ?_
      rintro e w2 ⟨rfl, hb⟩
      have HB2 := Lib.hid (thenB HB1.out hb HB1.out.size)
      clear hb
      go_wp2_with fail
      go_ret
      exact ⟨rfl, HB2.out⟩
  · have HOK := Lib.hid hok
    have HLE := Lib.hid hle
    have HZ := Lib.hid hz
    have hl64 : (l.length : Int) ≤ 1000 := by omega
    clear hok hle hz hlen
    go_wp2_with fail
    go_loopw [5] (fun s5 wr => ∃ k : Nat, k ≤ l.length ∧ s5 = .int .i64 k ∧ Below w.heap.size w wr ∧ Toks wr A l) (fun s5 _ => l.length - (intOf s5).toNat)
    case atStart => exact ⟨0, Nat.zero_le _, rfl, HB1.out, HTK.out⟩
    case round =>
      obtain ⟨k, hk, rfl, hb, htk⟩ := hrel
      have HB := Lib.hid hb
      have HTR := Lib.hid htk
      clear hb htk
      by_cases hlt : k < l.length
      · have r1 : (k : Int) < (l.length : Int) := by omega
        obtain ⟨t, ht⟩ : ∃ t, l[k]? = some t := ⟨_, List.getElem?_eq_getElem hlt⟩
        obtain ⟨b, o, rfl, hbw, hx⟩ := HTR.out k t ht
        obtain ⟨c0, c1, c2, c3, c4, c5, c6, c7, c8, c9⟩ := hx
        obtain ⟨q0, q1, q16, q17⟩ := HOK.out t (List.mem_of_getElem? ht)
        clear ht
        have g0 : decide (t.k < 0) = false := decide_eq_false (by omega)
        have g1 : decide (18 ≤ t.k) = false := decide_eq_false (by omega)
        by_cases h16 : t.k = 16
        · obtain ⟨a1, a2, a3, a4, a5, a6⟩ := q16 h16
          clear q16 q17 q0 q1
          have n2 : decide (t.mn < 0) = false := decide_eq_false (by omega)
          have n3 : decide (100 < t.mn) = false := decide_eq_false (by omega)
          have n4 : decide (100 < t.mx) = false := decide_eq_false (by omega)
          have n5 : decide (t.md < 0) = false := decide_eq_false (by omega)
          have n6 : decide (2 < t.md) = false := decide_eq_false (by omega)
          have e16 : (t.k == 16) = true := by simpa using h16
          have e17 : (t.k == 17) = false := by simp; omega
          by_cases hm : 0 ≤ t.mx
          · have n1 : decide (t.mx < t.mn) = false := decide_eq_false (by have := a1 hm; omega)
            have m0 : decide (0 ≤ t.mx) = true := decide_eq_true hm
            as_aux_lemma =>
              clear hm h16 a1 a2 a3 a4 a5 a6
              go_wp2_with (refine storeNew rfl _ _ rfl wr (tok0 0) t rfl _ rfl rfl (by simp [tokC, tok0, W_zero]; rfl) ?_; intro W d0 d1 d2 d3 d4 hN; clear c0 c1 c2 c3 c4 c5 c6 c7 c8 c9; refine stopHere ?_)
              unfold Stop
              go_step
              go_step
              go_step
              simp only [List.append_eq, List.cons_append, List.nil_append]
              go_wp2_with fail
              go_roundw
              case rel => exact ⟨k + 1, by omega, by go_num, thenB HB.out hN.out HB.out.size, HTR.out.below hN.out (Nat.le_refl _)⟩
              case measure => simp [intOf]; omega
          · have m0 : decide (0 ≤ t.mx) = false := decide_eq_false hm
            as_aux_lemma =>
              clear hm h16 a1 a2 a3 a4 a5 a6
              go_wp2_with (refine storeNew rfl _ _ rfl wr (tok0 0) t rfl _ rfl rfl (by simp [tokC, tok0, W_zero]; rfl) ?_; intro W d0 d1 d2 d3 d4 hN; clear c0 c1 c2 c3 c4 c5 c6 c7 c8 c9; refine stopHere ?_)
              unfold Stop
              go_step
              go_step
              go_step
              simp only [List.append_eq, List.cons_append, List.nil_append]
              go_wp2_with fail
              go_roundw
              case rel => exact ⟨k + 1, by omega, by go_num, thenB HB.out hN.out HB.out.size, HTR.out.below hN.out (Nat.le_refl _)⟩
              case measure => simp [intOf]; omega
        · have e16 : (t.k == 16) = false := by simpa using h16
          by_cases h17 : t.k = 17
          · obtain ⟨a1, a2⟩ := q17 h17
            clear q16 q17 q0 q1
            have n1 : decide (t.n < 1) = false := decide_eq_false (by omega)
            have n2 : decide (9 < t.n) = false := decide_eq_false (by omega)
            have e17 : (t.k == 17) = true := by simpa using h17
            as_aux_lemma =>
              clear h16 h17 a1 a2
              go_wp2_with (refine storeNew rfl _ _ rfl wr (tok0 0) t rfl _ rfl rfl (by simp [tokC, tok0, W_zero]; rfl) ?_; intro W d0 d1 d2 d3 d4 hN; clear c0 c1 c2 c3 c4 c5 c6 c7 c8 c9; refine stopHere ?_)
              unfold Stop
              go_step
              go_step
              go_step
              simp only [List.append_eq, List.cons_append, List.nil_append]
              go_wp2_with fail
              go_roundw
              case rel => exact ⟨k + 1, by omega, by go_num, thenB HB.out hN.out HB.out.size, HTR.out.below hN.out (Nat.le_refl _)⟩
              case measure => simp [intOf]; omega
          · have e17 : (t.k == 17) = false := by simpa using h17
            as_aux_lemma =>
              clear h16 h17 q0 q1 q16 q17
              go_wp2_with (refine storeNew rfl _ _ rfl wr (tok0 0) t rfl _ rfl rfl (by simp [tokC, tok0, W_zero]; rfl) ?_; intro W d0 d1 d2 d3 d4 hN; clear c0 c1 c2 c3 c4 c5 c6 c7 c8 c9; refine stopHere ?_)
              unfold Stop
              go_step
              go_step
              go_step
              simp only [List.append_eq, List.cons_append, List.nil_append]
              go_wp2_with fail
              go_roundw
              case rel => exact ⟨k + 1, by omega, by go_num, thenB HB.out hN.out HB.out.size, HTR.out.below hN.out (Nat.le_refl _)⟩
              case measure => simp [intOf]; omega
      · obtain rfl : k = l.length := by omega
        have z1 : (l.length : Int) ≤ (X.size : Int) := by have := HLE.out; omega
        have z2 : (decide ((l.length : Int) > 0) == decide ((X.size : Int) > 0)) = true := fewTail_true (by have := HZ.out; omega)
        go_wp2_with fail
        with_reducible refine (HF.out _ (HT.out.call HB.out)).mono ?_
        rintro e w2 ⟨rfl, hb⟩
        have HB2 := Lib.hid (thenB HB.out hb HB.out.size)
        clear hb
        go_wp2_with fail
        go_ret
        exact ⟨rfl, HB2.out⟩

set_option maxRecDepth 100000 in
set_option maxHeartbeats 16000000 in
theorem lexFew_l (hE : ErrsOk) (hC : CloneOk) (p : ByteArray) (w : World) (hs : p.size ≤ 9223372036854775807) (hw : Tabs w) (hp : 300 < p.size) : Calls Tryd.prog 9 #[.string p] w fun e w' => e = .returned (.bool true) ∧ Below w.heap.size w w' := by
  have HF := Lib.hid (fun w (h : Tabs w) => fixed_any hE hC w h)
  have HL0 := Lib.hid (fun p w (h : Tabs w) => lex_any hE hC p w h.err h.tab h.op)
  have HT := Lib.hid hw
  clear hw hE hC
  go_enter Tryd.func9, Tryd.ntmps9
  go_wp2_with fail
  have hXs0 : (p.extract 0 300).size = 300 := by rw [ByteArray.size_extract]; omega
  generalize p.extract 0 300 = X at hXs0 ⊢
  have HX := Lib.hid (show X.size ≤ 300 by omega)
  clear hXs0
  have HL := Lib.hid (fun w h => HL0.out X w h)
  clear HL0
  with_reducible refine (HL.out _ HT.out).mono ?_
  rintro e w1 ⟨v1, rfl, ho1, hb⟩
  obtain ⟨A, cap, rfl, htk, -⟩ := own_toks ho1
  clear ho1
  have HTK := Lib.hid htk
  have HB1 := Lib.hid hb
  clear hb htk
  have hlen := toks_len X (by have := HX.out; omega)
  have hfew := few_lex X (by have := HX.out; omega)
  have hXs : (X.size : Int) ≤ 300 := by have := HX.out; omega
  obtain ⟨R, hR⟩ : ∃ R, R = lexZ X := ⟨_, rfl⟩
  rw [← hR] at hlen hfew HTK
  rw [← hR]
  clear hR
  obtain ⟨l, er⟩ := R
  simp only [] at hlen hfew HTK
  show _
  rcases hfew with ⟨rfl, he⟩ | ⟨rfl, hok, hle, hz⟩
  · rcases he with rfl | rfl
    · go_wp2_with fail
      with_reducible refine (HF.out _ (HT.out.call HB1.out)).mono ?_
      rintro e w2 ⟨rfl, hb⟩
      have HB2 := Lib.hid (thenB HB1.out hb HB1.out.size)
      clear hb
      go_wp2_with fail
      go_ret
      exact ⟨rfl, HB2.out⟩
    · go_wp2_with fail
      with_reducible refine (HF.out _ (HT.out.call HB1.out)).mono ?_
      rintro e w2 ⟨rfl, hb⟩
      have HB2 := Lib.hid (thenB HB1.out hb HB1.out.size)
      clear hb
      go_wp2_with fail
      go_ret
      exact ⟨rfl, HB2.out⟩
  · have HOK := Lib.hid hok
    have HLE := Lib.hid hle
    have HZ := Lib.hid hz
    have hl64 : (l.length : Int) ≤ 1000 := by omega
    clear hok hle hz hlen
    go_wp2_with fail
    go_loopw [5] (fun s5 wr => ∃ k : Nat, k ≤ l.length ∧ s5 = .int .i64 k ∧ Below w.heap.size w wr ∧ Toks wr A l) (fun s5 _ => l.length - (intOf s5).toNat)
    case atStart => exact ⟨0, Nat.zero_le _, rfl, HB1.out, HTK.out⟩
    case round =>
      obtain ⟨k, hk, rfl, hb, htk⟩ := hrel
      have HB := Lib.hid hb
      have HTR := Lib.hid htk
      clear hb htk
      by_cases hlt : k < l.length
      · have r1 : (k : Int) < (l.length : Int) := by omega
        obtain ⟨t, ht⟩ : ∃ t, l[k]? = some t := ⟨_, List.getElem?_eq_getElem hlt⟩
        obtain ⟨b, o, rfl, hbw, hx⟩ := HTR.out k t ht
        obtain ⟨c0, c1, c2, c3, c4, c5, c6, c7, c8, c9⟩ := hx
        obtain ⟨q0, q1, q16, q17⟩ := HOK.out t (List.mem_of_getElem? ht)
        clear ht
        have g0 : decide (t.k < 0) = false := decide_eq_false (by omega)
        have g1 : decide (18 ≤ t.k) = false := decide_eq_false (by omega)
        by_cases h16 : t.k = 16
        · obtain ⟨a1, a2, a3, a4, a5, a6⟩ := q16 h16
          clear q16 q17 q0 q1
          have n2 : decide (t.mn < 0) = false := decide_eq_false (by omega)
          have n3 : decide (100 < t.mn) = false := decide_eq_false (by omega)
          have n4 : decide (100 < t.mx) = false := decide_eq_false (by omega)
          have n5 : decide (t.md < 0) = false := decide_eq_false (by omega)
          have n6 : decide (2 < t.md) = false := decide_eq_false (by omega)
          have e16 : (t.k == 16) = true := by simpa using h16
          have e17 : (t.k == 17) = false := by simp; omega
          by_cases hm : 0 ≤ t.mx
          · have n1 : decide (t.mx < t.mn) = false := decide_eq_false (by have := a1 hm; omega)
            have m0 : decide (0 ≤ t.mx) = true := decide_eq_true hm
            as_aux_lemma =>
              clear hm h16 a1 a2 a3 a4 a5 a6
              go_wp2_with (refine storeNew rfl _ _ rfl wr (tok0 0) t rfl _ rfl rfl (by simp [tokC, tok0, W_zero]; rfl) ?_; intro W d0 d1 d2 d3 d4 hN; clear c0 c1 c2 c3 c4 c5 c6 c7 c8 c9; refine stopHere ?_)
              unfold Stop
              go_step
              go_step
              go_step
              simp only [List.append_eq, List.cons_append, List.nil_append]
              go_wp2_with fail
              go_roundw
              case rel => exact ⟨k + 1, by omega, by go_num, thenB HB.out hN.out HB.out.size, HTR.out.below hN.out (Nat.le_refl _)⟩
              case measure => simp [intOf]; omega
          · have m0 : decide (0 ≤ t.mx) = false := decide_eq_false hm
            as_aux_lemma =>
              clear hm h16 a1 a2 a3 a4 a5 a6
              go_wp2_with (refine storeNew rfl _ _ rfl wr (tok0 0) t rfl _ rfl rfl (by simp [tokC, tok0, W_zero]; rfl) ?_; intro W d0 d1 d2 d3 d4 hN; clear c0 c1 c2 c3 c4 c5 c6 c7 c8 c9; refine stopHere ?_)
              unfold Stop
              go_step
              go_step
              go_step
              simp only [List.append_eq, List.cons_append, List.nil_append]
              go_wp2_with fail
              go_roundw
              case rel => exact ⟨k + 1, by omega, by go_num, thenB HB.out hN.out HB.out.size, HTR.out.below hN.out (Nat.le_refl _)⟩
              case measure => simp [intOf]; omega
        · have e16 : (t.k == 16) = false := by simpa using h16
          by_cases h17 : t.k = 17
          · obtain ⟨a1, a2⟩ := q17 h17
            clear q16 q17 q0 q1
            have n1 : decide (t.n < 1) = false := decide_eq_false (by omega)
            have n2 : decide (9 < t.n) = false := decide_eq_false (by omega)
            have e17 : (t.k == 17) = true := by simpa using h17
            as_aux_lemma =>
              clear h16 h17 a1 a2
              go_wp2_with (refine storeNew rfl _ _ rfl wr (tok0 0) t rfl _ rfl rfl (by simp [tokC, tok0, W_zero]; rfl) ?_; intro W d0 d1 d2 d3 d4 hN; clear c0 c1 c2 c3 c4 c5 c6 c7 c8 c9; refine stopHere ?_)
              unfold Stop
              go_step
              go_step
              go_step
              simp only [List.append_eq, List.cons_append, List.nil_append]
              go_wp2_with fail
              go_roundw
              case rel => exact ⟨k + 1, by omega, by go_num, thenB HB.out hN.out HB.out.size, HTR.out.below hN.out (Nat.le_refl _)⟩
              case measure => simp [intOf]; omega
          · have e17 : (t.k == 17) = false := by simpa using h17
            as_aux_lemma =>
              clear h16 h17 q0 q1 q16 q17
              go_wp2_with (refine storeNew rfl _ _ rfl wr (tok0 0) t rfl _ rfl rfl (by simp [tokC, tok0, W_zero]; rfl) ?_; intro W d0 d1 d2 d3 d4 hN; clear c0 c1 c2 c3 c4 c5 c6 c7 c8 c9; refine stopHere ?_)
              unfold Stop
              go_step
              go_step
              go_step
              simp only [List.append_eq, List.cons_append, List.nil_append]
              go_wp2_with fail
              go_roundw
              case rel => exact ⟨k + 1, by omega, by go_num, thenB HB.out hN.out HB.out.size, HTR.out.below hN.out (Nat.le_refl _)⟩
              case measure => simp [intOf]; omega
      · obtain rfl : k = l.length := by omega
        have z1 : (l.length : Int) ≤ (X.size : Int) := by have := HLE.out; omega
        have z2 : (decide ((l.length : Int) > 0) == decide ((X.size : Int) > 0)) = true := fewTail_true (by have := HZ.out; omega)
        go_wp2_with fail
        with_reducible refine (HF.out _ (HT.out.call HB.out)).mono ?_
        rintro e w2 ⟨rfl, hb⟩
        have HB2 := Lib.hid (thenB HB.out hb HB.out.size)
        clear hb
        go_wp2_with fail
        go_ret
        exact ⟨rfl, HB2.out⟩

theorem lexFew_any (hE : ErrsOk) (hC : CloneOk) (p : ByteArray) (w : World) (hs : p.size ≤ 9223372036854775807) (hw : Tabs w) : Calls Tryd.prog 9 #[.string p] w fun e w' => e = .returned (.bool true) ∧ Below w.heap.size w w' := by
  by_cases h : p.size ≤ 300
  · exact lexFew_s hE hC p w hs hw h
  · exact lexFew_l hE hC p w hs hw (by omega)
end Go.Proofs.YtlcecblehffjiaaDoor
