/-
  Layer 6: the walk of the statement on two patterns, one behind the other.
-/
import Derived.Test.YtlcecblehffjiaaDoorLexJoinM
namespace Go.Proofs.YtlcecblehffjiaaDoor
open Go.RowKit

theorem toksC_append : ∀ (a b : List Tok), toksC (a ++ b) = toksC a ++ toksC b
  | [], _ => rfl
  | x :: a, b => by rw [List.cons_append, toksC, toksC, toksC_append a b, List.append_assoc]
theorem toksC_cells : ∀ (l : List Tok), ∀ u ∈ toksC l, u.oneCell' = true
  | [], u, h => by cases h
  | x :: l, u, h => by
    rw [toksC, List.mem_append] at h
    rcases h with h | h
    · exact tok_one x u h
    · exact toksC_cells l u h
theorem own_some6 {w : World} {base : Nat} {v : Value} {l : List Tok} (h : w.ownsRow base 61 10 v l.length (toksC l)) (hv : v ≠ .slice none 0 0) : ∃ g cap, v = .slice (some ⟨g, 0, none⟩) l.length cap ∧ ∀ j u, (toksC l)[j]? = some u → w.cell? ((⟨g, 0, none⟩ : Addr).add j) = some u := by
  rcases h.2 with ⟨h1, -⟩ | ⟨g, cap, cur, h1, -, -, -, -, -, -⟩
  · exact absurd h1 hv
  · exact ⟨g, cap, h1, h.cells (by rw [h1]; rfl)⟩

set_option maxRecDepth 100000 in
set_option maxHeartbeats 16000000 in
theorem lexJoins_ss (hE : ErrsOk) (hC : CloneOk) (p q : ByteArray) (w : World) (hs : p.size ≤ 9223372036854775807) (hs' : q.size ≤ 9223372036854775807) (hw : Tabs w) (hp : p.size ≤ 200) (hq' : q.size ≤ 200) : Calls Tryd.prog 5 #[.string p, .string q] w fun e w' => e = .returned (.bool true) ∧ Below w.heap.size w w' := by
  have HF := Lib.hid (fun w (h : Tabs w) => fixed_any hE hC w h)
  have HL0 := Lib.hid (fun p w (h : Tabs w) => lex_any hE hC p w h.err h.tab h.op)
  have HT := Lib.hid hw
  clear hw hE hC
  go_enter Tryd.func5, Tryd.ntmps5
  go_wp2_with fail
  have HX := Lib.hid hp
  obtain ⟨X, rfl⟩ : ∃ X, X = p := ⟨_, rfl⟩
  have HY := Lib.hid hq'
  obtain ⟨Y, rfl⟩ : ∃ Y, Y = q := ⟨_, rfl⟩
  have HLX := Lib.hid (fun w h => HL0.out X w h)
  have HLY := Lib.hid (fun w h => HL0.out Y w h)
  with_reducible refine (HLX.out _ HT.out).mono ?_
  rintro e w1 ⟨v1, rfl, ho1, hb⟩
  obtain ⟨A, capA, rfl, htA, -⟩ := own_toks ho1
  clear ho1
  have HB1 := Lib.hid hb
  have HTA := Lib.hid htA
  clear hb htA
  go_wp2_with fail
  with_reducible refine (HLY.out _ (HT.out.call HB1.out)).mono ?_
  rintro e w2 ⟨v2, rfl, ho2, hb⟩
  obtain ⟨B, capB, rfl, htB, -⟩ := own_toks ho2
  clear ho2
  have HB2 := Lib.hid (thenB HB1.out hb HB1.out.size)
  have HTA2 := Lib.hid (HTA.out.below hb (Nat.le_refl _))
  have HTB := Lib.hid htB
  clear hb htB HTA
  have hlA := toks_len X (by have := HX.out; omega)
  have hlB := toks_len Y (by have := HY.out; omega)
  have heA := lex_err (p := X)
  have heB := lex_err (p := Y)
  have hj := lex_join X Y
  obtain ⟨RA, hRA⟩ : ∃ R, R = lexZ X := ⟨_, rfl⟩
  obtain ⟨RB, hRB⟩ : ∃ R, R = lexZ Y := ⟨_, rfl⟩
  rw [← hRA] at hlA heA hj HTA2
  rw [← hRB] at hlB heB hj HTB
  rw [← hRA, ← hRB]
  clear hRA hRB
  obtain ⟨a, e⟩ := RA
  obtain ⟨b, f⟩ := RB
  simp only [] at hlA hlB heA heB HTA2 HTB
  show _
  by_cases he : e = 0
  · subst he
    by_cases hf : f = 0
    · subst hf
      by_cases hq : 0 < Y.size ∧ (bt Y 0 = 63 ∨ bt Y 0 = 43)
      · obtain ⟨hq0, hq1⟩ := hq
        have q0 : (Y.size : Int) > 0 := by omega
        have hc := bt_at hq0
        clear heA heB hj
        by_cases h63 : bt Y 0 = 63
        · have e1 : (((Y[0]'hq0).toNat : Int) == 63) = true := by rw [← hc, h63]; rfl
          clear hq1 h63 hc
          go_wp2_with fail
          with_reducible refine (HF.out _ (HT.out.call HB2.out)).mono ?_
          rintro e w3 ⟨rfl, hb⟩
          have HZ := Lib.hid (thenB HB2.out hb HB2.out.size)
          clear hb
          go_wp2_with fail
          go_ret
          exact ⟨rfl, HZ.out⟩
        · have e1 : (((Y[0]'hq0).toNat : Int) == 63) = false := by rw [← hc]; simp; omega
          have e2 : (((Y[0]'hq0).toNat : Int) == 43) = true := by rw [← hc]; simp; omega
          clear hq1 h63 hc
          go_wp2_with fail
          with_reducible refine (HF.out _ (HT.out.call HB2.out)).mono ?_
          rintro e w3 ⟨rfl, hb⟩
          have HZ := Lib.hid (thenB HB2.out hb HB2.out.size)
          clear hb
          go_wp2_with fail
          go_ret
          exact ⟨rfl, HZ.out⟩
      · have hj' := hj a b (by have := HX.out; have := HY.out; omega) (fun h => hq ⟨bt_in (by omega), .inl h⟩) (fun h => hq ⟨bt_in (by omega), .inr h⟩) rfl rfl
        have HLC := Lib.hid (fun w h => HL0.out (X ++ Y) w h)
        rw [hj'] at HLC
        obtain ⟨L, hL⟩ : ∃ L, L = a ++ b := ⟨_, rfl⟩
        have hLl : L.length ≤ 2000 := by rw [hL, List.length_append]; omega
        rw [← hL] at HLC
        have HLL := Lib.hid hL
        clear hL
        have hsum : ¬ X.size + Y.size > 9223372036854775807 := by have := HX.out; have := HY.out; omega
        clear heA heB hj hj'
        obtain ⟨i0, hi, hz0, hz1, hz2⟩ := info_parts infoTok6
        have HI := Lib.hid (And.intro hi (And.intro hz0 (And.intro hz1 hz2)))
        clear hi hz0 hz1 hz2
        by_cases hq0 : 0 < Y.size
        · have q0 : (Y.size : Int) > 0 := by omega
          have hc := bt_at hq0
          have e1 : (((Y[0]'hq0).toNat : Int) == 63) = false := by rw [← hc]; simp; intro h; exact hq ⟨hq0, .inl (by omega)⟩
          have e2 : (((Y[0]'hq0).toNat : Int) == 43) = false := by rw [← hc]; simp; intro h; exact hq ⟨hq0, .inr (by omega)⟩
          clear hc hq
          go_wp2_with fail
          with_reducible refine (HLC.out _ (HT.out.call HB2.out)).mono ?_
          rintro e w3 ⟨v3, rfl, ho3, hb⟩
          obtain ⟨C, capC, rfl, htC, -⟩ := own_toks ho3
          clear ho3
          have HB3 := Lib.hid (thenB HB2.out hb HB2.out.size)
          have HTA3 := Lib.hid (HTA2.out.below hb (Nat.le_refl _))
          have HTB3 := Lib.hid (HTB.out.below hb (Nat.le_refl _))
          have HTC := Lib.hid htC
          clear hb htC HTA2 HTB
          go_wp2_with fail
          with_reducible refine (ref_tok A capA a _ (by omega) HTA3.out).mono ?_
          rintro e w4 ⟨va, rfl, hoa, hna, hb4⟩
          have HOA := Lib.hid hoa
          have HNA := Lib.hid hna
          have HB4 := Lib.hid hb4
          have HTB4 := Lib.hid (HTB3.out.below hb4 (Nat.le_refl _))
          clear hoa hna hb4
          go_wp2_with fail
          with_reducible refine (ref_tok B capB b _ (by omega) HTB4.out).mono ?_
          rintro e w5 ⟨vb, rfl, hob, hnb, hb5⟩
          obtain ⟨gb, capb, rfl, hcb⟩ := own_some6 hob hnb
          have HCB := Lib.hid hcb
          have HOA5 := Lib.hid (own_call HOA.out hb5)
          have HB5 := Lib.hid (thenB HB4.out hb5 HB4.out.size)
          clear hob hnb hb5 hcb
          have hs5 := HB5.out.size
          go_wp2_with (at_builtin; refine wpList_append_own _ rfl _ _ 26 rfl w3.heap.size 61 i0 _ 10 88 Tryd.underlying26 HI.out.1 HI.out.2.1 HI.out.2.2.1 HI.out.2.2.2 rfl (by decide) _ _ _ rfl HOA5.out ⟨gb, 0, none⟩ b.length capb (toksC b) rfl (toksC_len b) HCB.out (toksC_cells b) (by unfold maxLen; omega) (by omega) hs5 ?_)
          intro v6 w6 hown6 hgrow6 _
          have hown : ∀ g, Value.ownBlock va = some g → w3.heap.size ≤ g := fun g hg => (HOA5.out.lt g hg).1
          have HB6 := Lib.hid (HB5.out.grown hgrow6 hs5 hown)
          rw [← toksC_append, ← List.length_append, ← HLL.out] at hown6
          obtain ⟨D, capD, rfl, -⟩ := own_toks6 hown6
          have HO6 := Lib.hid hown6
          have HTC6 := Lib.hid (HTC.out.below HB6.out (Nat.le_refl _))
          have HB36 := Lib.hid (thenB HB3.out HB6.out HB3.out.size)
          clear hown6 hgrow6 hown hs5
          go_wp2_with fail
          with_reducible refine (ref_tok C capC L _ hLl HTC6.out).mono ?_
          rintro e w7 ⟨vc, rfl, hoc, -, hb7⟩
          obtain ⟨G, capG, rfl, htG⟩ := own_toks6 hoc
          obtain ⟨D', capD', hD, htD⟩ := own_toks6 (own_call HO6.out hb7)
          injection hD with hD1 _ hD3
          subst hD1 hD3
          have HTG := Lib.hid htG
          have HTD := Lib.hid htD
          have HB7 := Lib.hid (thenB HB36.out hb7 HB36.out.size)
          clear hoc hb7 htG htD
          go_wp2_with fail
          with_reducible refine (same_tok G D capG capD L _ hLl HTG.out HTD.out).mono ?_
          rintro e w8 ⟨rfl, hb8⟩
          have HB8 := Lib.hid (thenB HB7.out hb8 HB7.out.size)
          clear hb8
          go_wp2_with fail
          with_reducible refine (HF.out _ (HT.out.call HB8.out)).mono ?_
          rintro e w9 ⟨rfl, hb⟩
          have HZ := Lib.hid (thenB HB8.out hb HB8.out.size)
          clear hb
          go_wp2_with fail
          go_ret
          exact ⟨rfl, HZ.out⟩
        · have q0 : ¬ (Y.size : Int) > 0 := by omega
          clear hq
          go_wp2_with fail
          with_reducible refine (HLC.out _ (HT.out.call HB2.out)).mono ?_
          rintro e w3 ⟨v3, rfl, ho3, hb⟩
          obtain ⟨C, capC, rfl, htC, -⟩ := own_toks ho3
          clear ho3
          have HB3 := Lib.hid (thenB HB2.out hb HB2.out.size)
          have HTA3 := Lib.hid (HTA2.out.below hb (Nat.le_refl _))
          have HTB3 := Lib.hid (HTB.out.below hb (Nat.le_refl _))
          have HTC := Lib.hid htC
          clear hb htC HTA2 HTB
          go_wp2_with fail
          with_reducible refine (ref_tok A capA a _ (by omega) HTA3.out).mono ?_
          rintro e w4 ⟨va, rfl, hoa, hna, hb4⟩
          have HOA := Lib.hid hoa
          have HNA := Lib.hid hna
          have HB4 := Lib.hid hb4
          have HTB4 := Lib.hid (HTB3.out.below hb4 (Nat.le_refl _))
          clear hoa hna hb4
          go_wp2_with fail
          with_reducible refine (ref_tok B capB b _ (by omega) HTB4.out).mono ?_
          rintro e w5 ⟨vb, rfl, hob, hnb, hb5⟩
          obtain ⟨gb, capb, rfl, hcb⟩ := own_some6 hob hnb
          have HCB := Lib.hid hcb
          have HOA5 := Lib.hid (own_call HOA.out hb5)
          have HB5 := Lib.hid (thenB HB4.out hb5 HB4.out.size)
          clear hob hnb hb5 hcb
          have hs5 := HB5.out.size
          go_wp2_with (at_builtin; refine wpList_append_own _ rfl _ _ 26 rfl w3.heap.size 61 i0 _ 10 88 Tryd.underlying26 HI.out.1 HI.out.2.1 HI.out.2.2.1 HI.out.2.2.2 rfl (by decide) _ _ _ rfl HOA5.out ⟨gb, 0, none⟩ b.length capb (toksC b) rfl (toksC_len b) HCB.out (toksC_cells b) (by unfold maxLen; omega) (by omega) hs5 ?_)
          intro v6 w6 hown6 hgrow6 _
          have hown : ∀ g, Value.ownBlock va = some g → w3.heap.size ≤ g := fun g hg => (HOA5.out.lt g hg).1
          have HB6 := Lib.hid (HB5.out.grown hgrow6 hs5 hown)
          rw [← toksC_append, ← List.length_append, ← HLL.out] at hown6
          obtain ⟨D, capD, rfl, -⟩ := own_toks6 hown6
          have HO6 := Lib.hid hown6
          have HTC6 := Lib.hid (HTC.out.below HB6.out (Nat.le_refl _))
          have HB36 := Lib.hid (thenB HB3.out HB6.out HB3.out.size)
          clear hown6 hgrow6 hown hs5
          go_wp2_with fail
          with_reducible refine (ref_tok C capC L _ hLl HTC6.out).mono ?_
          rintro e w7 ⟨vc, rfl, hoc, -, hb7⟩
          obtain ⟨G, capG, rfl, htG⟩ := own_toks6 hoc
          obtain ⟨D', capD', hD, htD⟩ := own_toks6 (own_call HO6.out hb7)
          injection hD with hD1 _ hD3
          subst hD1 hD3
          have HTG := Lib.hid htG
          have HTD := Lib.hid htD
          have HB7 := Lib.hid (thenB HB36.out hb7 HB36.out.size)
          clear hoc hb7 htG htD
          go_wp2_with fail
          with_reducible refine (same_tok G D capG capD L _ hLl HTG.out HTD.out).mono ?_
          rintro e w8 ⟨rfl, hb8⟩
          have HB8 := Lib.hid (thenB HB7.out hb8 HB7.out.size)
          clear hb8
          go_wp2_with fail
          with_reducible refine (HF.out _ (HT.out.call HB8.out)).mono ?_
          rintro e w9 ⟨rfl, hb⟩
          have HZ := Lib.hid (thenB HB8.out hb HB8.out.size)
          clear hb
          go_wp2_with fail
          go_ret
          exact ⟨rfl, HZ.out⟩
    · have f1 : (f != 0) = true := by simpa using hf
      have f2 : (f == 0) = false := by simpa using hf
      obtain rfl : b = [] := heB hf
      clear heA heB hj
      go_wp2_with fail
      with_reducible refine (HF.out _ (HT.out.call HB2.out)).mono ?_
      rintro e w3 ⟨rfl, hb⟩
      have HZ := Lib.hid (thenB HB2.out hb HB2.out.size)
      clear hb
      go_wp2_with fail
      go_ret
      exact ⟨rfl, HZ.out⟩
  · have e1 : (e != 0) = true := by simpa using he
    have e2 : (e == 0) = false := by simpa using he
    obtain rfl : a = [] := heA he
    by_cases hf : f = 0
    · subst hf
      clear heA heB hj
      go_wp2_with fail
      with_reducible refine (HF.out _ (HT.out.call HB2.out)).mono ?_
      rintro e w3 ⟨rfl, hb⟩
      have HZ := Lib.hid (thenB HB2.out hb HB2.out.size)
      clear hb
      go_wp2_with fail
      go_ret
      exact ⟨rfl, HZ.out⟩
    · have f2 : (f == 0) = false := by simpa using hf
      obtain rfl : b = [] := heB hf
      clear heA heB hj
      go_wp2_with fail
      with_reducible refine (HF.out _ (HT.out.call HB2.out)).mono ?_
      rintro e w3 ⟨rfl, hb⟩
      have HZ := Lib.hid (thenB HB2.out hb HB2.out.size)
      clear hb
      go_wp2_with fail
      go_ret
      exact ⟨rfl, HZ.out⟩

set_option maxRecDepth 100000 in
set_option maxHeartbeats 16000000 in
theorem lexJoins_sl (hE : ErrsOk) (hC : CloneOk) (p q : ByteArray) (w : World) (hs : p.size ≤ 9223372036854775807) (hs' : q.size ≤ 9223372036854775807) (hw : Tabs w) (hp : p.size ≤ 200) (hq' : q.size > 200) : Calls Tryd.prog 5 #[.string p, .string q] w fun e w' => e = .returned (.bool true) ∧ Below w.heap.size w w' := by
  have HF := Lib.hid (fun w (h : Tabs w) => fixed_any hE hC w h)
  have HL0 := Lib.hid (fun p w (h : Tabs w) => lex_any hE hC p w h.err h.tab h.op)
  have HT := Lib.hid hw
  clear hw hE hC
  go_enter Tryd.func5, Tryd.ntmps5
  go_wp2_with fail
  have HX := Lib.hid hp
  obtain ⟨X, rfl⟩ : ∃ X, X = p := ⟨_, rfl⟩
  have hYs : (q.extract 0 200).size = 200 := by rw [ByteArray.size_extract]; omega
  generalize q.extract 0 200 = Y at hYs ⊢
  have HY := Lib.hid (show Y.size ≤ 200 by omega)
  clear hYs
  have HLX := Lib.hid (fun w h => HL0.out X w h)
  have HLY := Lib.hid (fun w h => HL0.out Y w h)
  with_reducible refine (HLX.out _ HT.out).mono ?_
  rintro e w1 ⟨v1, rfl, ho1, hb⟩
  obtain ⟨A, capA, rfl, htA, -⟩ := own_toks ho1
  clear ho1
  have HB1 := Lib.hid hb
  have HTA := Lib.hid htA
  clear hb htA
  go_wp2_with fail
  with_reducible refine (HLY.out _ (HT.out.call HB1.out)).mono ?_
  rintro e w2 ⟨v2, rfl, ho2, hb⟩
  obtain ⟨B, capB, rfl, htB, -⟩ := own_toks ho2
  clear ho2
  have HB2 := Lib.hid (thenB HB1.out hb HB1.out.size)
  have HTA2 := Lib.hid (HTA.out.below hb (Nat.le_refl _))
  have HTB := Lib.hid htB
  clear hb htB HTA
  have hlA := toks_len X (by have := HX.out; omega)
  have hlB := toks_len Y (by have := HY.out; omega)
  have heA := lex_err (p := X)
  have heB := lex_err (p := Y)
  have hj := lex_join X Y
  obtain ⟨RA, hRA⟩ : ∃ R, R = lexZ X := ⟨_, rfl⟩
  obtain ⟨RB, hRB⟩ : ∃ R, R = lexZ Y := ⟨_, rfl⟩
  rw [← hRA] at hlA heA hj HTA2
  rw [← hRB] at hlB heB hj HTB
  rw [← hRA, ← hRB]
  clear hRA hRB
  obtain ⟨a, e⟩ := RA
  obtain ⟨b, f⟩ := RB
  simp only [] at hlA hlB heA heB HTA2 HTB
  show _
  by_cases he : e = 0
  · subst he
    by_cases hf : f = 0
    · subst hf
      by_cases hq : 0 < Y.size ∧ (bt Y 0 = 63 ∨ bt Y 0 = 43)
      · obtain ⟨hq0, hq1⟩ := hq
        have q0 : (Y.size : Int) > 0 := by omega
        have hc := bt_at hq0
        clear heA heB hj
        by_cases h63 : bt Y 0 = 63
        · have e1 : (((Y[0]'hq0).toNat : Int) == 63) = true := by rw [← hc, h63]; rfl
          clear hq1 h63 hc
          go_wp2_with fail
          with_reducible refine (HF.out _ (HT.out.call HB2.out)).mono ?_
          rintro e w3 ⟨rfl, hb⟩
          have HZ := Lib.hid (thenB HB2.out hb HB2.out.size)
          clear hb
          go_wp2_with fail
          go_ret
          exact ⟨rfl, HZ.out⟩
        · have e1 : (((Y[0]'hq0).toNat : Int) == 63) = false := by rw [← hc]; simp; omega
          have e2 : (((Y[0]'hq0).toNat : Int) == 43) = true := by rw [← hc]; simp; omega
          clear hq1 h63 hc
          go_wp2_with fail
          with_reducible refine (HF.out _ (HT.out.call HB2.out)).mono ?_
          rintro e w3 ⟨rfl, hb⟩
          have HZ := Lib.hid (thenB HB2.out hb HB2.out.size)
          clear hb
          go_wp2_with fail
          go_ret
          exact ⟨rfl, HZ.out⟩
      · have hj' := hj a b (by have := HX.out; have := HY.out; omega) (fun h => hq ⟨bt_in (by omega), .inl h⟩) (fun h => hq ⟨bt_in (by omega), .inr h⟩) rfl rfl
        have HLC := Lib.hid (fun w h => HL0.out (X ++ Y) w h)
        rw [hj'] at HLC
        obtain ⟨L, hL⟩ : ∃ L, L = a ++ b := ⟨_, rfl⟩
        have hLl : L.length ≤ 2000 := by rw [hL, List.length_append]; omega
        rw [← hL] at HLC
        have HLL := Lib.hid hL
        clear hL
        have hsum : ¬ X.size + Y.size > 9223372036854775807 := by have := HX.out; have := HY.out; omega
        clear heA heB hj hj'
        obtain ⟨i0, hi, hz0, hz1, hz2⟩ := info_parts infoTok6
        have HI := Lib.hid (And.intro hi (And.intro hz0 (And.intro hz1 hz2)))
        clear hi hz0 hz1 hz2
        by_cases hq0 : 0 < Y.size
        · have q0 : (Y.size : Int) > 0 := by omega
          have hc := bt_at hq0
          have e1 : (((Y[0]'hq0).toNat : Int) == 63) = false := by rw [← hc]; simp; intro h; exact hq ⟨hq0, .inl (by omega)⟩
          have e2 : (((Y[0]'hq0).toNat : Int) == 43) = false := by rw [← hc]; simp; intro h; exact hq ⟨hq0, .inr (by omega)⟩
          clear hc hq
          go_wp2_with fail
          with_reducible refine (HLC.out _ (HT.out.call HB2.out)).mono ?_
          rintro e w3 ⟨v3, rfl, ho3, hb⟩
          obtain ⟨C, capC, rfl, htC, -⟩ := own_toks ho3
          clear ho3
          have HB3 := Lib.hid (thenB HB2.out hb HB2.out.size)
          have HTA3 := Lib.hid (HTA2.out.below hb (Nat.le_refl _))
          have HTB3 := Lib.hid (HTB.out.below hb (Nat.le_refl _))
          have HTC := Lib.hid htC
          clear hb htC HTA2 HTB
          go_wp2_with fail
          with_reducible refine (ref_tok A capA a _ (by omega) HTA3.out).mono ?_
          rintro e w4 ⟨va, rfl, hoa, hna, hb4⟩
          have HOA := Lib.hid hoa
          have HNA := Lib.hid hna
          have HB4 := Lib.hid hb4
          have HTB4 := Lib.hid (HTB3.out.below hb4 (Nat.le_refl _))
          clear hoa hna hb4
          go_wp2_with fail
          with_reducible refine (ref_tok B capB b _ (by omega) HTB4.out).mono ?_
          rintro e w5 ⟨vb, rfl, hob, hnb, hb5⟩
          obtain ⟨gb, capb, rfl, hcb⟩ := own_some6 hob hnb
          have HCB := Lib.hid hcb
          have HOA5 := Lib.hid (own_call HOA.out hb5)
          have HB5 := Lib.hid (thenB HB4.out hb5 HB4.out.size)
          clear hob hnb hb5 hcb
          have hs5 := HB5.out.size
          go_wp2_with (at_builtin; refine wpList_append_own _ rfl _ _ 26 rfl w3.heap.size 61 i0 _ 10 88 Tryd.underlying26 HI.out.1 HI.out.2.1 HI.out.2.2.1 HI.out.2.2.2 rfl (by decide) _ _ _ rfl HOA5.out ⟨gb, 0, none⟩ b.length capb (toksC b) rfl (toksC_len b) HCB.out (toksC_cells b) (by unfold maxLen; omega) (by omega) hs5 ?_)
          intro v6 w6 hown6 hgrow6 _
          have hown : ∀ g, Value.ownBlock va = some g → w3.heap.size ≤ g := fun g hg => (HOA5.out.lt g hg).1
          have HB6 := Lib.hid (HB5.out.grown hgrow6 hs5 hown)
          rw [← toksC_append, ← List.length_append, ← HLL.out] at hown6
          obtain ⟨D, capD, rfl, -⟩ := own_toks6 hown6
          have HO6 := Lib.hid hown6
          have HTC6 := Lib.hid (HTC.out.below HB6.out (Nat.le_refl _))
          have HB36 := Lib.hid (thenB HB3.out HB6.out HB3.out.size)
          clear hown6 hgrow6 hown hs5
          go_wp2_with fail
          with_reducible refine (ref_tok C capC L _ hLl HTC6.out).mono ?_
          rintro e w7 ⟨vc, rfl, hoc, -, hb7⟩
          obtain ⟨G, capG, rfl, htG⟩ := own_toks6 hoc
          obtain ⟨D', capD', hD, htD⟩ := own_toks6 (own_call HO6.out hb7)
          injection hD with hD1 _ hD3
          subst hD1 hD3
          have HTG := Lib.hid htG
          have HTD := Lib.hid htD
          have HB7 := Lib.hid (thenB HB36.out hb7 HB36.out.size)
          clear hoc hb7 htG htD
          go_wp2_with fail
          with_reducible refine (same_tok G D capG capD L _ hLl HTG.out HTD.out).mono ?_
          rintro e w8 ⟨rfl, hb8⟩
          have HB8 := Lib.hid (thenB HB7.out hb8 HB7.out.size)
          clear hb8
          go_wp2_with fail
          with_reducible refine (HF.out _ (HT.out.call HB8.out)).mono ?_
          rintro e w9 ⟨rfl, hb⟩
          have HZ := Lib.hid (thenB HB8.out hb HB8.out.size)
          clear hb
          go_wp2_with fail
          go_ret
          exact ⟨rfl, HZ.out⟩
        · have q0 : ¬ (Y.size : Int) > 0 := by omega
          clear hq
          go_wp2_with fail
          with_reducible refine (HLC.out _ (HT.out.call HB2.out)).mono ?_
          rintro e w3 ⟨v3, rfl, ho3, hb⟩
          obtain ⟨C, capC, rfl, htC, -⟩ := own_toks ho3
          clear ho3
          have HB3 := Lib.hid (thenB HB2.out hb HB2.out.size)
          have HTA3 := Lib.hid (HTA2.out.below hb (Nat.le_refl _))
          have HTB3 := Lib.hid (HTB.out.below hb (Nat.le_refl _))
          have HTC := Lib.hid htC
          clear hb htC HTA2 HTB
          go_wp2_with fail
          with_reducible refine (ref_tok A capA a _ (by omega) HTA3.out).mono ?_
          rintro e w4 ⟨va, rfl, hoa, hna, hb4⟩
          have HOA := Lib.hid hoa
          have HNA := Lib.hid hna
          have HB4 := Lib.hid hb4
          have HTB4 := Lib.hid (HTB3.out.below hb4 (Nat.le_refl _))
          clear hoa hna hb4
          go_wp2_with fail
          with_reducible refine (ref_tok B capB b _ (by omega) HTB4.out).mono ?_
          rintro e w5 ⟨vb, rfl, hob, hnb, hb5⟩
          obtain ⟨gb, capb, rfl, hcb⟩ := own_some6 hob hnb
          have HCB := Lib.hid hcb
          have HOA5 := Lib.hid (own_call HOA.out hb5)
          have HB5 := Lib.hid (thenB HB4.out hb5 HB4.out.size)
          clear hob hnb hb5 hcb
          have hs5 := HB5.out.size
          go_wp2_with (at_builtin; refine wpList_append_own _ rfl _ _ 26 rfl w3.heap.size 61 i0 _ 10 88 Tryd.underlying26 HI.out.1 HI.out.2.1 HI.out.2.2.1 HI.out.2.2.2 rfl (by decide) _ _ _ rfl HOA5.out ⟨gb, 0, none⟩ b.length capb (toksC b) rfl (toksC_len b) HCB.out (toksC_cells b) (by unfold maxLen; omega) (by omega) hs5 ?_)
          intro v6 w6 hown6 hgrow6 _
          have hown : ∀ g, Value.ownBlock va = some g → w3.heap.size ≤ g := fun g hg => (HOA5.out.lt g hg).1
          have HB6 := Lib.hid (HB5.out.grown hgrow6 hs5 hown)
          rw [← toksC_append, ← List.length_append, ← HLL.out] at hown6
          obtain ⟨D, capD, rfl, -⟩ := own_toks6 hown6
          have HO6 := Lib.hid hown6
          have HTC6 := Lib.hid (HTC.out.below HB6.out (Nat.le_refl _))
          have HB36 := Lib.hid (thenB HB3.out HB6.out HB3.out.size)
          clear hown6 hgrow6 hown hs5
          go_wp2_with fail
          with_reducible refine (ref_tok C capC L _ hLl HTC6.out).mono ?_
          rintro e w7 ⟨vc, rfl, hoc, -, hb7⟩
          obtain ⟨G, capG, rfl, htG⟩ := own_toks6 hoc
          obtain ⟨D', capD', hD, htD⟩ := own_toks6 (own_call HO6.out hb7)
          injection hD with hD1 _ hD3
          subst hD1 hD3
          have HTG := Lib.hid htG
          have HTD := Lib.hid htD
          have HB7 := Lib.hid (thenB HB36.out hb7 HB36.out.size)
          clear hoc hb7 htG htD
          go_wp2_with fail
          with_reducible refine (same_tok G D capG capD L _ hLl HTG.out HTD.out).mono ?_
          rintro e w8 ⟨rfl, hb8⟩
          have HB8 := Lib.hid (thenB HB7.out hb8 HB7.out.size)
          clear hb8
          go_wp2_with fail
          with_reducible refine (HF.out _ (HT.out.call HB8.out)).mono ?_
          rintro e w9 ⟨rfl, hb⟩
          have HZ := Lib.hid (thenB HB8.out hb HB8.out.size)
          clear hb
          go_wp2_with fail
          go_ret
          exact ⟨rfl, HZ.out⟩
    · have f1 : (f != 0) = true := by simpa using hf
      have f2 : (f == 0) = false := by simpa using hf
      obtain rfl : b = [] := heB hf
      clear heA heB hj
      go_wp2_with fail
      with_reducible refine (HF.out _ (HT.out.call HB2.out)).mono ?_
      rintro e w3 ⟨rfl, hb⟩
      have HZ := Lib.hid (thenB HB2.out hb HB2.out.size)
      clear hb
      go_wp2_with fail
      go_ret
      exact ⟨rfl, HZ.out⟩
  · have e1 : (e != 0) = true := by simpa using he
    have e2 : (e == 0) = false := by simpa using he
    obtain rfl : a = [] := heA he
    by_cases hf : f = 0
    · subst hf
      clear heA heB hj
      go_wp2_with fail
      with_reducible refine (HF.out _ (HT.out.call HB2.out)).mono ?_
      rintro e w3 ⟨rfl, hb⟩
      have HZ := Lib.hid (thenB HB2.out hb HB2.out.size)
      clear hb
      go_wp2_with fail
      go_ret
      exact ⟨rfl, HZ.out⟩
    · have f2 : (f == 0) = false := by simpa using hf
      obtain rfl : b = [] := heB hf
      clear heA heB hj
      go_wp2_with fail
      with_reducible refine (HF.out _ (HT.out.call HB2.out)).mono ?_
      rintro e w3 ⟨rfl, hb⟩
      have HZ := Lib.hid (thenB HB2.out hb HB2.out.size)
      clear hb
      go_wp2_with fail
      go_ret
      exact ⟨rfl, HZ.out⟩

set_option maxRecDepth 100000 in
set_option maxHeartbeats 16000000 in
theorem lexJoins_ls (hE : ErrsOk) (hC : CloneOk) (p q : ByteArray) (w : World) (hs : p.size ≤ 9223372036854775807) (hs' : q.size ≤ 9223372036854775807) (hw : Tabs w) (hp : p.size > 200) (hq' : q.size ≤ 200) : Calls Tryd.prog 5 #[.string p, .string q] w fun e w' => e = .returned (.bool true) ∧ Below w.heap.size w w' := by
  have HF := Lib.hid (fun w (h : Tabs w) => fixed_any hE hC w h)
  have HL0 := Lib.hid (fun p w (h : Tabs w) => lex_any hE hC p w h.err h.tab h.op)
  have HT := Lib.hid hw
  clear hw hE hC
  go_enter Tryd.func5, Tryd.ntmps5
  go_wp2_with fail
  have hXs : (p.extract 0 200).size = 200 := by rw [ByteArray.size_extract]; omega
  generalize p.extract 0 200 = X at hXs ⊢
  have HX := Lib.hid (show X.size ≤ 200 by omega)
  clear hXs
  have HY := Lib.hid hq'
  obtain ⟨Y, rfl⟩ : ∃ Y, Y = q := ⟨_, rfl⟩
  have HLX := Lib.hid (fun w h => HL0.out X w h)
  have HLY := Lib.hid (fun w h => HL0.out Y w h)
  with_reducible refine (HLX.out _ HT.out).mono ?_
  rintro e w1 ⟨v1, rfl, ho1, hb⟩
  obtain ⟨A, capA, rfl, htA, -⟩ := own_toks ho1
  clear ho1
  have HB1 := Lib.hid hb
  have HTA := Lib.hid htA
  clear hb htA
  go_wp2_with fail
  with_reducible refine (HLY.out _ (HT.out.call HB1.out)).mono ?_
  rintro e w2 ⟨v2, rfl, ho2, hb⟩
  obtain ⟨B, capB, rfl, htB, -⟩ := own_toks ho2
  clear ho2
  have HB2 := Lib.hid (thenB HB1.out hb HB1.out.size)
  have HTA2 := Lib.hid (HTA.out.below hb (Nat.le_refl _))
  have HTB := Lib.hid htB
  clear hb htB HTA
  have hlA := toks_len X (by have := HX.out; omega)
  have hlB := toks_len Y (by have := HY.out; omega)
  have heA := lex_err (p := X)
  have heB := lex_err (p := Y)
  have hj := lex_join X Y
  obtain ⟨RA, hRA⟩ : ∃ R, R = lexZ X := ⟨_, rfl⟩
  obtain ⟨RB, hRB⟩ : ∃ R, R = lexZ Y := ⟨_, rfl⟩
  rw [← hRA] at hlA heA hj HTA2
  rw [← hRB] at hlB heB hj HTB
  rw [← hRA, ← hRB]
  clear hRA hRB
  obtain ⟨a, e⟩ := RA
  obtain ⟨b, f⟩ := RB
  simp only [] at hlA hlB heA heB HTA2 HTB
  show _
  by_cases he : e = 0
  · subst he
    by_cases hf : f = 0
    · subst hf
      by_cases hq : 0 < Y.size ∧ (bt Y 0 = 63 ∨ bt Y 0 = 43)
      · obtain ⟨hq0, hq1⟩ := hq
        have q0 : (Y.size : Int) > 0 := by omega
        have hc := bt_at hq0
        clear heA heB hj
        by_cases h63 : bt Y 0 = 63
        · have e1 : (((Y[0]'hq0).toNat : Int) == 63) = true := by rw [← hc, h63]; rfl
          clear hq1 h63 hc
          go_wp2_with fail
          with_reducible refine (HF.out _ (HT.out.call HB2.out)).mono ?_
          rintro e w3 ⟨rfl, hb⟩
          have HZ := Lib.hid (thenB HB2.out hb HB2.out.size)
          clear hb
          go_wp2_with fail
          go_ret
          exact ⟨rfl, HZ.out⟩
        · have e1 : (((Y[0]'hq0).toNat : Int) == 63) = false := by rw [← hc]; simp; omega
          have e2 : (((Y[0]'hq0).toNat : Int) == 43) = true := by rw [← hc]; simp; omega
          clear hq1 h63 hc
          go_wp2_with fail
          with_reducible refine (HF.out _ (HT.out.call HB2.out)).mono ?_
          rintro e w3 ⟨rfl, hb⟩
          have HZ := Lib.hid (thenB HB2.out hb HB2.out.size)
          clear hb
          go_wp2_with fail
          go_ret
          exact ⟨rfl, HZ.out⟩
      · have hj' := hj a b (by have := HX.out; have := HY.out; omega) (fun h => hq ⟨bt_in (by omega), .inl h⟩) (fun h => hq ⟨bt_in (by omega), .inr h⟩) rfl rfl
        have HLC := Lib.hid (fun w h => HL0.out (X ++ Y) w h)
        rw [hj'] at HLC
        obtain ⟨L, hL⟩ : ∃ L, L = a ++ b := ⟨_, rfl⟩
        have hLl : L.length ≤ 2000 := by rw [hL, List.length_append]; omega
        rw [← hL] at HLC
        have HLL := Lib.hid hL
        clear hL
        have hsum : ¬ X.size + Y.size > 9223372036854775807 := by have := HX.out; have := HY.out; omega
        clear heA heB hj hj'
        obtain ⟨i0, hi, hz0, hz1, hz2⟩ := info_parts infoTok6
        have HI := Lib.hid (And.intro hi (And.intro hz0 (And.intro hz1 hz2)))
        clear hi hz0 hz1 hz2
        by_cases hq0 : 0 < Y.size
        · have q0 : (Y.size : Int) > 0 := by omega
          have hc := bt_at hq0
          have e1 : (((Y[0]'hq0).toNat : Int) == 63) = false := by rw [← hc]; simp; intro h; exact hq ⟨hq0, .inl (by omega)⟩
          have e2 : (((Y[0]'hq0).toNat : Int) == 43) = false := by rw [← hc]; simp; intro h; exact hq ⟨hq0, .inr (by omega)⟩
          clear hc hq
          go_wp2_with fail
          with_reducible refine (HLC.out _ (HT.out.call HB2.out)).mono ?_
          rintro e w3 ⟨v3, rfl, ho3, hb⟩
          obtain ⟨C, capC, rfl, htC, -⟩ := own_toks ho3
          clear ho3
          have HB3 := Lib.hid (thenB HB2.out hb HB2.out.size)
          have HTA3 := Lib.hid (HTA2.out.below hb (Nat.le_refl _))
          have HTB3 := Lib.hid (HTB.out.below hb (Nat.le_refl _))
          have HTC := Lib.hid htC
          clear hb htC HTA2 HTB
          go_wp2_with fail
          with_reducible refine (ref_tok A capA a _ (by omega) HTA3.out).mono ?_
          rintro e w4 ⟨va, rfl, hoa, hna, hb4⟩
          have HOA := Lib.hid hoa
          have HNA := Lib.hid hna
          have HB4 := Lib.hid hb4
          have HTB4 := Lib.hid (HTB3.out.below hb4 (Nat.le_refl _))
          clear hoa hna hb4
          go_wp2_with fail
          with_reducible refine (ref_tok B capB b _ (by omega) HTB4.out).mono ?_
          rintro e w5 ⟨vb, rfl, hob, hnb, hb5⟩
          obtain ⟨gb, capb, rfl, hcb⟩ := own_some6 hob hnb
          have HCB := Lib.hid hcb
          have HOA5 := Lib.hid (own_call HOA.out hb5)
          have HB5 := Lib.hid (thenB HB4.out hb5 HB4.out.size)
          clear hob hnb hb5 hcb
          have hs5 := HB5.out.size
          go_wp2_with (at_builtin; refine wpList_append_own _ rfl _ _ 26 rfl w3.heap.size 61 i0 _ 10 88 Tryd.underlying26 HI.out.1 HI.out.2.1 HI.out.2.2.1 HI.out.2.2.2 rfl (by decide) _ _ _ rfl HOA5.out ⟨gb, 0, none⟩ b.length capb (toksC b) rfl (toksC_len b) HCB.out (toksC_cells b) (by unfold maxLen; omega) (by omega) hs5 ?_)
          intro v6 w6 hown6 hgrow6 _
          have hown : ∀ g, Value.ownBlock va = some g → w3.heap.size ≤ g := fun g hg => (HOA5.out.lt g hg).1
          have HB6 := Lib.hid (HB5.out.grown hgrow6 hs5 hown)
          rw [← toksC_append, ← List.length_append, ← HLL.out] at hown6
          obtain ⟨D, capD, rfl, -⟩ := own_toks6 hown6
          have HO6 := Lib.hid hown6
          have HTC6 := Lib.hid (HTC.out.below HB6.out (Nat.le_refl _))
          have HB36 := Lib.hid (thenB HB3.out HB6.out HB3.out.size)
          clear hown6 hgrow6 hown hs5
          go_wp2_with fail
          with_reducible refine (ref_tok C capC L _ hLl HTC6.out).mono ?_
          rintro e w7 ⟨vc, rfl, hoc, -, hb7⟩
          obtain ⟨G, capG, rfl, htG⟩ := own_toks6 hoc
          obtain ⟨D', capD', hD, htD⟩ := own_toks6 (own_call HO6.out hb7)
          injection hD with hD1 _ hD3
          subst hD1 hD3
          have HTG := Lib.hid htG
          have HTD := Lib.hid htD
          have HB7 := Lib.hid (thenB HB36.out hb7 HB36.out.size)
          clear hoc hb7 htG htD
          go_wp2_with fail
          with_reducible refine (same_tok G D capG capD L _ hLl HTG.out HTD.out).mono ?_
          rintro e w8 ⟨rfl, hb8⟩
          have HB8 := Lib.hid (thenB HB7.out hb8 HB7.out.size)
          clear hb8
          go_wp2_with fail
          with_reducible refine (HF.out _ (HT.out.call HB8.out)).mono ?_
          rintro e w9 ⟨rfl, hb⟩
          have HZ := Lib.hid (thenB HB8.out hb HB8.out.size)
          clear hb
          go_wp2_with fail
          go_ret
          exact ⟨rfl, HZ.out⟩
        · have q0 : ¬ (Y.size : Int) > 0 := by omega
          clear hq
          go_wp2_with fail
          with_reducible refine (HLC.out _ (HT.out.call HB2.out)).mono ?_
          rintro e w3 ⟨v3, rfl, ho3, hb⟩
          obtain ⟨C, capC, rfl, htC, -⟩ := own_toks ho3
          clear ho3
          have HB3 := Lib.hid (thenB HB2.out hb HB2.out.size)
          have HTA3 := Lib.hid (HTA2.out.below hb (Nat.le_refl _))
          have HTB3 := Lib.hid (HTB.out.below hb (Nat.le_refl _))
          have HTC := Lib.hid htC
          clear hb htC HTA2 HTB
          go_wp2_with fail
          with_reducible refine (ref_tok A capA a _ (by omega) HTA3.out).mono ?_
          rintro e w4 ⟨va, rfl, hoa, hna, hb4⟩
          have HOA := Lib.hid hoa
          have HNA := Lib.hid hna
          have HB4 := Lib.hid hb4
          have HTB4 := Lib.hid (HTB3.out.below hb4 (Nat.le_refl _))
          clear hoa hna hb4
          go_wp2_with fail
          with_reducible refine (ref_tok B capB b _ (by omega) HTB4.out).mono ?_
          rintro e w5 ⟨vb, rfl, hob, hnb, hb5⟩
          obtain ⟨gb, capb, rfl, hcb⟩ := own_some6 hob hnb
          have HCB := Lib.hid hcb
          have HOA5 := Lib.hid (own_call HOA.out hb5)
          have HB5 := Lib.hid (thenB HB4.out hb5 HB4.out.size)
          clear hob hnb hb5 hcb
          have hs5 := HB5.out.size
          go_wp2_with (at_builtin; refine wpList_append_own _ rfl _ _ 26 rfl w3.heap.size 61 i0 _ 10 88 Tryd.underlying26 HI.out.1 HI.out.2.1 HI.out.2.2.1 HI.out.2.2.2 rfl (by decide) _ _ _ rfl HOA5.out ⟨gb, 0, none⟩ b.length capb (toksC b) rfl (toksC_len b) HCB.out (toksC_cells b) (by unfold maxLen; omega) (by omega) hs5 ?_)
          intro v6 w6 hown6 hgrow6 _
          have hown : ∀ g, Value.ownBlock va = some g → w3.heap.size ≤ g := fun g hg => (HOA5.out.lt g hg).1
          have HB6 := Lib.hid (HB5.out.grown hgrow6 hs5 hown)
          rw [← toksC_append, ← List.length_append, ← HLL.out] at hown6
          obtain ⟨D, capD, rfl, -⟩ := own_toks6 hown6
          have HO6 := Lib.hid hown6
          have HTC6 := Lib.hid (HTC.out.below HB6.out (Nat.le_refl _))
          have HB36 := Lib.hid (thenB HB3.out HB6.out HB3.out.size)
          clear hown6 hgrow6 hown hs5
          go_wp2_with fail
          with_reducible refine (ref_tok C capC L _ hLl HTC6.out).mono ?_
          rintro e w7 ⟨vc, rfl, hoc, -, hb7⟩
          obtain ⟨G, capG, rfl, htG⟩ := own_toks6 hoc
          obtain ⟨D', capD', hD, htD⟩ := own_toks6 (own_call HO6.out hb7)
          injection hD with hD1 _ hD3
          subst hD1 hD3
          have HTG := Lib.hid htG
          have HTD := Lib.hid htD
          have HB7 := Lib.hid (thenB HB36.out hb7 HB36.out.size)
          clear hoc hb7 htG htD
          go_wp2_with fail
          with_reducible refine (same_tok G D capG capD L _ hLl HTG.out HTD.out).mono ?_
          rintro e w8 ⟨rfl, hb8⟩
          have HB8 := Lib.hid (thenB HB7.out hb8 HB7.out.size)
          clear hb8
          go_wp2_with fail
          with_reducible refine (HF.out _ (HT.out.call HB8.out)).mono ?_
          rintro e w9 ⟨rfl, hb⟩
          have HZ := Lib.hid (thenB HB8.out hb HB8.out.size)
          clear hb
          go_wp2_with fail
          go_ret
          exact ⟨rfl, HZ.out⟩
    · have f1 : (f != 0) = true := by simpa using hf
      have f2 : (f == 0) = false := by simpa using hf
      obtain rfl : b = [] := heB hf
      clear heA heB hj
      go_wp2_with fail
      with_reducible refine (HF.out _ (HT.out.call HB2.out)).mono ?_
      rintro e w3 ⟨rfl, hb⟩
      have HZ := Lib.hid (thenB HB2.out hb HB2.out.size)
      clear hb
      go_wp2_with fail
      go_ret
      exact ⟨rfl, HZ.out⟩
  · have e1 : (e != 0) = true := by simpa using he
    have e2 : (e == 0) = false := by simpa using he
    obtain rfl : a = [] := heA he
    by_cases hf : f = 0
    · subst hf
      clear heA heB hj
      go_wp2_with fail
      with_reducible refine (HF.out _ (HT.out.call HB2.out)).mono ?_
      rintro e w3 ⟨rfl, hb⟩
      have HZ := Lib.hid (thenB HB2.out hb HB2.out.size)
      clear hb
      go_wp2_with fail
      go_ret
      exact ⟨rfl, HZ.out⟩
    · have f2 : (f == 0) = false := by simpa using hf
      obtain rfl : b = [] := heB hf
      clear heA heB hj
      go_wp2_with fail
      with_reducible refine (HF.out _ (HT.out.call HB2.out)).mono ?_
      rintro e w3 ⟨rfl, hb⟩
      have HZ := Lib.hid (thenB HB2.out hb HB2.out.size)
      clear hb
      go_wp2_with fail
      go_ret
      exact ⟨rfl, HZ.out⟩

set_option maxRecDepth 100000 in
set_option maxHeartbeats 16000000 in
theorem lexJoins_ll (hE : ErrsOk) (hC : CloneOk) (p q : ByteArray) (w : World) (hs : p.size ≤ 9223372036854775807) (hs' : q.size ≤ 9223372036854775807) (hw : Tabs w) (hp : p.size > 200) (hq' : q.size > 200) : Calls Tryd.prog 5 #[.string p, .string q] w fun e w' => e = .returned (.bool true) ∧ Below w.heap.size w w' := by
  have HF := Lib.hid (fun w (h : Tabs w) => fixed_any hE hC w h)
  have HL0 := Lib.hid (fun p w (h : Tabs w) => lex_any hE hC p w h.err h.tab h.op)
  have HT := Lib.hid hw
  clear hw hE hC
  go_enter Tryd.func5, Tryd.ntmps5
  go_wp2_with fail
  have hXs : (p.extract 0 200).size = 200 := by rw [ByteArray.size_extract]; omega
  generalize p.extract 0 200 = X at hXs ⊢
  have HX := Lib.hid (show X.size ≤ 200 by omega)
  clear hXs
  have hYs : (q.extract 0 200).size = 200 := by rw [ByteArray.size_extract]; omega
  generalize q.extract 0 200 = Y at hYs ⊢
  have HY := Lib.hid (show Y.size ≤ 200 by omega)
  clear hYs
  have HLX := Lib.hid (fun w h => HL0.out X w h)
  have HLY := Lib.hid (fun w h => HL0.out Y w h)
  with_reducible refine (HLX.out _ HT.out).mono ?_
  rintro e w1 ⟨v1, rfl, ho1, hb⟩
  obtain ⟨A, capA, rfl, htA, -⟩ := own_toks ho1
  clear ho1
  have HB1 := Lib.hid hb
  have HTA := Lib.hid htA
  clear hb htA
  go_wp2_with fail
  with_reducible refine (HLY.out _ (HT.out.call HB1.out)).mono ?_
  rintro e w2 ⟨v2, rfl, ho2, hb⟩
  obtain ⟨B, capB, rfl, htB, -⟩ := own_toks ho2
  clear ho2
  have HB2 := Lib.hid (thenB HB1.out hb HB1.out.size)
  have HTA2 := Lib.hid (HTA.out.below hb (Nat.le_refl _))
  have HTB := Lib.hid htB
  clear hb htB HTA
  have hlA := toks_len X (by have := HX.out; omega)
  have hlB := toks_len Y (by have := HY.out; omega)
  have heA := lex_err (p := X)
  have heB := lex_err (p := Y)
  have hj := lex_join X Y
  obtain ⟨RA, hRA⟩ : ∃ R, R = lexZ X := ⟨_, rfl⟩
  obtain ⟨RB, hRB⟩ : ∃ R, R = lexZ Y := ⟨_, rfl⟩
  rw [← hRA] at hlA heA hj HTA2
  rw [← hRB] at hlB heB hj HTB
  rw [← hRA, ← hRB]
  clear hRA hRB
  obtain ⟨a, e⟩ := RA
  obtain ⟨b, f⟩ := RB
  simp only [] at hlA hlB heA heB HTA2 HTB
  show _
  by_cases he : e = 0
  · subst he
    by_cases hf : f = 0
    · subst hf
      by_cases hq : 0 < Y.size ∧ (bt Y 0 = 63 ∨ bt Y 0 = 43)
      · obtain ⟨hq0, hq1⟩ := hq
        have q0 : (Y.size : Int) > 0 := by omega
        have hc := bt_at hq0
        clear heA heB hj
        by_cases h63 : bt Y 0 = 63
        · have e1 : (((Y[0]'hq0).toNat : Int) == 63) = true := by rw [← hc, h63]; rfl
          clear hq1 h63 hc
          go_wp2_with fail
          with_reducible refine (HF.out _ (HT.out.call HB2.out)).mono ?_
          rintro e w3 ⟨rfl, hb⟩
          have HZ := Lib.hid (thenB HB2.out hb HB2.out.size)
          clear hb
          go_wp2_with fail
          go_ret
          exact ⟨rfl, HZ.out⟩
        · have e1 : (((Y[0]'hq0).toNat : Int) == 63) = false := by rw [← hc]; simp; omega
          have e2 : (((Y[0]'hq0).toNat : Int) == 43) = true := by rw [← hc]; simp; omega
          clear hq1 h63 hc
          go_wp2_with fail
          with_reducible refine (HF.out _ (HT.out.call HB2.out)).mono ?_
          rintro e w3 ⟨rfl, hb⟩
          have HZ := Lib.hid (thenB HB2.out hb HB2.out.size)
          clear hb
          go_wp2_with fail
          go_ret
          exact ⟨rfl, HZ.out⟩
      · have hj' := hj a b (by have := HX.out; have := HY.out; omega) (fun h => hq ⟨bt_in (by omega), .inl h⟩) (fun h => hq ⟨bt_in (by omega), .inr h⟩) rfl rfl
        have HLC := Lib.hid (fun w h => HL0.out (X ++ Y) w h)
        rw [hj'] at HLC
        obtain ⟨L, hL⟩ : ∃ L, L = a ++ b := ⟨_, rfl⟩
        have hLl : L.length ≤ 2000 := by rw [hL, List.length_append]; omega
        rw [← hL] at HLC
        have HLL := Lib.hid hL
        clear hL
        have hsum : ¬ X.size + Y.size > 9223372036854775807 := by have := HX.out; have := HY.out; omega
        clear heA heB hj hj'
        obtain ⟨i0, hi, hz0, hz1, hz2⟩ := info_parts infoTok6
        have HI := Lib.hid (And.intro hi (And.intro hz0 (And.intro hz1 hz2)))
        clear hi hz0 hz1 hz2
        by_cases hq0 : 0 < Y.size
        · have q0 : (Y.size : Int) > 0 := by omega
          have hc := bt_at hq0
          have e1 : (((Y[0]'hq0).toNat : Int) == 63) = false := by rw [← hc]; simp; intro h; exact hq ⟨hq0, .inl (by omega)⟩
          have e2 : (((Y[0]'hq0).toNat : Int) == 43) = false := by rw [← hc]; simp; intro h; exact hq ⟨hq0, .inr (by omega)⟩
          clear hc hq
          go_wp2_with fail
          with_reducible refine (HLC.out _ (HT.out.call HB2.out)).mono ?_
          rintro e w3 ⟨v3, rfl, ho3, hb⟩
          obtain ⟨C, capC, rfl, htC, -⟩ := own_toks ho3
          clear ho3
          have HB3 := Lib.hid (thenB HB2.out hb HB2.out.size)
          have HTA3 := Lib.hid (HTA2.out.below hb (Nat.le_refl _))
          have HTB3 := Lib.hid (HTB.out.below hb (Nat.le_refl _))
          have HTC := Lib.hid htC
          clear hb htC HTA2 HTB
          go_wp2_with fail
          with_reducible refine (ref_tok A capA a _ (by omega) HTA3.out).mono ?_
          rintro e w4 ⟨va, rfl, hoa, hna, hb4⟩
          have HOA := Lib.hid hoa
          have HNA := Lib.hid hna
          have HB4 := Lib.hid hb4
          have HTB4 := Lib.hid (HTB3.out.below hb4 (Nat.le_refl _))
          clear hoa hna hb4
          go_wp2_with fail
          with_reducible refine (ref_tok B capB b _ (by omega) HTB4.out).mono ?_
          rintro e w5 ⟨vb, rfl, hob, hnb, hb5⟩
          obtain ⟨gb, capb, rfl, hcb⟩ := own_some6 hob hnb
          have HCB := Lib.hid hcb
          have HOA5 := Lib.hid (own_call HOA.out hb5)
          have HB5 := Lib.hid (thenB HB4.out hb5 HB4.out.size)
          clear hob hnb hb5 hcb
          have hs5 := HB5.out.size
          go_wp2_with (at_builtin; refine wpList_append_own _ rfl _ _ 26 rfl w3.heap.size 61 i0 _ 10 88 Tryd.underlying26 HI.out.1 HI.out.2.1 HI.out.2.2.1 HI.out.2.2.2 rfl (by decide) _ _ _ rfl HOA5.out ⟨gb, 0, none⟩ b.length capb (toksC b) rfl (toksC_len b) HCB.out (toksC_cells b) (by unfold maxLen; omega) (by omega) hs5 ?_)
          intro v6 w6 hown6 hgrow6 _
          have hown : ∀ g, Value.ownBlock va = some g → w3.heap.size ≤ g := fun g hg => (HOA5.out.lt g hg).1
          have HB6 := Lib.hid (HB5.out.grown hgrow6 hs5 hown)
          rw [← toksC_append, ← List.length_append, ← HLL.out] at hown6
          obtain ⟨D, capD, rfl, -⟩ := own_toks6 hown6
          have HO6 := Lib.hid hown6
          have HTC6 := Lib.hid (HTC.out.below HB6.out (Nat.le_refl _))
          have HB36 := Lib.hid (thenB HB3.out HB6.out HB3.out.size)
          clear hown6 hgrow6 hown hs5
          go_wp2_with fail
          with_reducible refine (ref_tok C capC L _ hLl HTC6.out).mono ?_
          rintro e w7 ⟨vc, rfl, hoc, -, hb7⟩
          obtain ⟨G, capG, rfl, htG⟩ := own_toks6 hoc
          obtain ⟨D', capD', hD, htD⟩ := own_toks6 (own_call HO6.out hb7)
          injection hD with hD1 _ hD3
          subst hD1 hD3
          have HTG := Lib.hid htG
          have HTD := Lib.hid htD
          have HB7 := Lib.hid (thenB HB36.out hb7 HB36.out.size)
          clear hoc hb7 htG htD
          go_wp2_with fail
          with_reducible refine (same_tok G D capG capD L _ hLl HTG.out HTD.out).mono ?_
          rintro e w8 ⟨rfl, hb8⟩
          have HB8 := Lib.hid (thenB HB7.out hb8 HB7.out.size)
          clear hb8
          go_wp2_with fail
          with_reducible refine (HF.out _ (HT.out.call HB8.out)).mono ?_
          rintro e w9 ⟨rfl, hb⟩
          have HZ := Lib.hid (thenB HB8.out hb HB8.out.size)
          clear hb
          go_wp2_with fail
          go_ret
          exact ⟨rfl, HZ.out⟩
        · have q0 : ¬ (Y.size : Int) > 0 := by omega
          clear hq
          go_wp2_with fail
          with_reducible refine (HLC.out _ (HT.out.call HB2.out)).mono ?_
          rintro e w3 ⟨v3, rfl, ho3, hb⟩
          obtain ⟨C, capC, rfl, htC, -⟩ := own_toks ho3
          clear ho3
          have HB3 := Lib.hid (thenB HB2.out hb HB2.out.size)
          have HTA3 := Lib.hid (HTA2.out.below hb (Nat.le_refl _))
          have HTB3 := Lib.hid (HTB.out.below hb (Nat.le_refl _))
          have HTC := Lib.hid htC
          clear hb htC HTA2 HTB
          go_wp2_with fail
          with_reducible refine (ref_tok A capA a _ (by omega) HTA3.out).mono ?_
          rintro e w4 ⟨va, rfl, hoa, hna, hb4⟩
          have HOA := Lib.hid hoa
          have HNA := Lib.hid hna
          have HB4 := Lib.hid hb4
          have HTB4 := Lib.hid (HTB3.out.below hb4 (Nat.le_refl _))
          clear hoa hna hb4
          go_wp2_with fail
          with_reducible refine (ref_tok B capB b _ (by omega) HTB4.out).mono ?_
          rintro e w5 ⟨vb, rfl, hob, hnb, hb5⟩
          obtain ⟨gb, capb, rfl, hcb⟩ := own_some6 hob hnb
          have HCB := Lib.hid hcb
          have HOA5 := Lib.hid (own_call HOA.out hb5)
          have HB5 := Lib.hid (thenB HB4.out hb5 HB4.out.size)
          clear hob hnb hb5 hcb
          have hs5 := HB5.out.size
          go_wp2_with (at_builtin; refine wpList_append_own _ rfl _ _ 26 rfl w3.heap.size 61 i0 _ 10 88 Tryd.underlying26 HI.out.1 HI.out.2.1 HI.out.2.2.1 HI.out.2.2.2 rfl (by decide) _ _ _ rfl HOA5.out ⟨gb, 0, none⟩ b.length capb (toksC b) rfl (toksC_len b) HCB.out (toksC_cells b) (by unfold maxLen; omega) (by omega) hs5 ?_)
          intro v6 w6 hown6 hgrow6 _
          have hown : ∀ g, Value.ownBlock va = some g → w3.heap.size ≤ g := fun g hg => (HOA5.out.lt g hg).1
          have HB6 := Lib.hid (HB5.out.grown hgrow6 hs5 hown)
          rw [← toksC_append, ← List.length_append, ← HLL.out] at hown6
          obtain ⟨D, capD, rfl, -⟩ := own_toks6 hown6
          have HO6 := Lib.hid hown6
          have HTC6 := Lib.hid (HTC.out.below HB6.out (Nat.le_refl _))
          have HB36 := Lib.hid (thenB HB3.out HB6.out HB3.out.size)
          clear hown6 hgrow6 hown hs5
          go_wp2_with fail
          with_reducible refine (ref_tok C capC L _ hLl HTC6.out).mono ?_
          rintro e w7 ⟨vc, rfl, hoc, -, hb7⟩
          obtain ⟨G, capG, rfl, htG⟩ := own_toks6 hoc
          obtain ⟨D', capD', hD, htD⟩ := own_toks6 (own_call HO6.out hb7)
          injection hD with hD1 _ hD3
          subst hD1 hD3
          have HTG := Lib.hid htG
          have HTD := Lib.hid htD
          have HB7 := Lib.hid (thenB HB36.out hb7 HB36.out.size)
          clear hoc hb7 htG htD
          go_wp2_with fail
          with_reducible refine (same_tok G D capG capD L _ hLl HTG.out HTD.out).mono ?_
          rintro e w8 ⟨rfl, hb8⟩
          have HB8 := Lib.hid (thenB HB7.out hb8 HB7.out.size)
          clear hb8
          go_wp2_with fail
          with_reducible refine (HF.out _ (HT.out.call HB8.out)).mono ?_
          rintro e w9 ⟨rfl, hb⟩
          have HZ := Lib.hid (thenB HB8.out hb HB8.out.size)
          clear hb
          go_wp2_with fail
          go_ret
          exact ⟨rfl, HZ.out⟩
    · have f1 : (f != 0) = true := by simpa using hf
      have f2 : (f == 0) = false := by simpa using hf
      obtain rfl : b = [] := heB hf
      clear heA heB hj
      go_wp2_with fail
      with_reducible refine (HF.out _ (HT.out.call HB2.out)).mono ?_
      rintro e w3 ⟨rfl, hb⟩
      have HZ := Lib.hid (thenB HB2.out hb HB2.out.size)
      clear hb
      go_wp2_with fail
      go_ret
      exact ⟨rfl, HZ.out⟩
  · have e1 : (e != 0) = true := by simpa using he
    have e2 : (e == 0) = false := by simpa using he
    obtain rfl : a = [] := heA he
    by_cases hf : f = 0
    · subst hf
      clear heA heB hj
      go_wp2_with fail
      with_reducible refine (HF.out _ (HT.out.call HB2.out)).mono ?_
      rintro e w3 ⟨rfl, hb⟩
      have HZ := Lib.hid (thenB HB2.out hb HB2.out.size)
      clear hb
      go_wp2_with fail
      go_ret
      exact ⟨rfl, HZ.out⟩
    · have f2 : (f == 0) = false := by simpa using hf
      obtain rfl : b = [] := heB hf
      clear heA heB hj
      go_wp2_with fail
      with_reducible refine (HF.out _ (HT.out.call HB2.out)).mono ?_
      rintro e w3 ⟨rfl, hb⟩
      have HZ := Lib.hid (thenB HB2.out hb HB2.out.size)
      clear hb
      go_wp2_with fail
      go_ret
      exact ⟨rfl, HZ.out⟩

theorem lexJoins_any (hE : ErrsOk) (hC : CloneOk) (p q : ByteArray) (w : World) (hs : p.size ≤ 9223372036854775807) (hs' : q.size ≤ 9223372036854775807) (hw : Tabs w) : Calls Tryd.prog 5 #[.string p, .string q] w fun e w' => e = .returned (.bool true) ∧ Below w.heap.size w w' := by
  by_cases h : p.size ≤ 200
  · by_cases h2 : q.size ≤ 200
    · exact lexJoins_ss hE hC p q w hs hs' hw h h2
    · exact lexJoins_sl hE hC p q w hs hs' hw h (by omega)
  · by_cases h2 : q.size ≤ 200
    · exact lexJoins_ls hE hC p q w hs hs' hw (by omega) h2
    · exact lexJoins_ll hE hC p q w hs hs' hw (by omega) (by omega)
end Go.Proofs.YtlcecblehffjiaaDoor
