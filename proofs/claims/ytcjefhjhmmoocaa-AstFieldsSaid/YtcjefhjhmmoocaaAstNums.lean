/-
  Layer 5: what the document's own answer does that gathers the groups' numbers (numbers).
-/
import Derived.Test.YtcjefhjhmmoocaaAstRefD
import Derived.Test.YtcjefhjhmmoocaaAstOwn
namespace Go.Proofs.Ytcjefhjhmmoocaa
open Go.RowKit

theorem grp_len (l : Nat → Nd) : ∀ j, siz l j ≠ 0 → (grp l j).length ≤ siz l j := by
  intro j
  induction j using Nat.strongRecOn with
  | _ j ih =>
    intro hs
    cases j with
    | zero => exact absurd (siz_zero l) hs
    | succ m =>
      obtain ⟨-, hp⟩ := siz_pos hs
      rw [grp_succ]
      rcases hp with ⟨hk, -, -, hz⟩ | ⟨hk, h0, -, -, hz⟩ | ⟨hk, h0, h1, -, -, hz⟩
      · rw [if_pos hk]; simp
      · rw [hk, if_neg (show ¬ (1 : Int) = 0 by decide), if_pos rfl, hz]
        have := ih m (by omega) h0
        split
        · simp; exact this
        · omega
      · rw [hk, if_neg (show ¬ (2 : Int) = 0 by decide), if_neg (show ¬ (2 : Int) = 1 by decide), hz, List.length_append]
        have a := ih m (by omega) h0
        have b := ih (m - siz l m) (by omega) h1
        omega
/-- The groups' numbers. -/
def nums (l : Nat → Nd) (j : Nat) : List Value := (grp l j).map fun i => .int .i64 (l i).n
/-- A slice that is not nil owns these values. -/
def Ints (w : World) (base : Nat) (v : Value) (xs : List Value) : Prop := ∃ g cap, v = .slice (some ⟨g, 0, none⟩) xs.length cap ∧ w.ownsRow base 3 1 v xs.length xs
theorem Ints.call {w w' : World} {base : Nat} {v : Value} {xs : List Value} (h : Ints w base v xs) (hb : Below w.heap.size w w') : Ints w' base v xs := by
  obtain ⟨g, cap, e, ho⟩ := h
  exact ⟨g, cap, e, own_call ho hb⟩
theorem Ints.of_own {w : World} {base n : Nat} {v : Value} {xs : List Value} (h : w.ownsRow base 3 1 v n xs) (hv : v ≠ .slice none 0 0) : Ints w base v xs := by
  have hl : xs.length = n := by simpa using h.1
  subst hl
  rcases h.2 with ⟨e, _⟩ | ⟨g, cap, cur, e, _⟩
  · exact absurd e hv
  · exact ⟨g, cap, e, h⟩
theorem Ints.ne {w : World} {base : Nat} {v : Value} {xs : List Value} (h : Ints w base v xs) : v ≠ .slice none 0 0 := by
  obtain ⟨g, cap, rfl, _⟩ := h
  intro e
  cases e
theorem ints_one (l : List Nat) (f : Nat → Int) : ∀ u ∈ l.map (fun i => Value.int .i64 (f i)), u.oneCell' = true := by
  intro u hu
  obtain ⟨_, _, rfl⟩ := List.mem_map.1 hu
  rfl
theorem Ints.empty (w : World) (base : Nat) (hb : base ≤ w.heap.size) : Ints (w.alloc (.cells #[] 3)) base (.slice (some ⟨w.heap.size, 0, none⟩) 0 0) [] := ⟨w.heap.size, 0, rfl, own_empty w _ _ _ hb⟩
theorem nums_one (w : World) (z : Int) : ∀ j u, [Value.int .i64 z][j]? = some u → (w.alloc (.cells #[.int .i64 z] 3)).cell? (Addr.add ⟨w.heap.size, 0, none⟩ j) = some u := by
  intro j u hu
  match j, hu with
  | 0, hu =>
    simp at hu
    subst hu
    rw [Addr.add_lit]
    unfold World.cell?
    rw [heap_alloc_new]
    rfl

set_option maxHeartbeats 4000000 in
theorem numbers_any (A : Option Addr) (n cap : Nat) (l : Nat → Nd) (hn : n ≤ 1000000) : ∀ j, j ≤ n → siz l j ≠ 0 → ∀ (z : Int), z = (j : Int) - 1 → ∀ w, Nodes w A n l →
    Calls Try.prog 33 #[.slice A n cap, .int .i64 z] w fun e w' => ∃ v, e = .returned v ∧ Ints w' w.heap.size v (nums l j) ∧ Below w.heap.size w w' := by
  intro j
  induction j using Nat.strongRecOn with
  | _ j ih =>
  intro hj hs z hz w hl
  have HN := Lib.hid hn
  have IH := Lib.hid ih
  clear hn ih
  obtain ⟨i0, hi, hz0, hz1, hz2⟩ := info_parts infoI
  have HI := Lib.hid (And.intro hi (And.intro hz0 (And.intro hz1 hz2)))
  clear hi hz0 hz1 hz2
  cases j with
  | zero => exact absurd (siz_zero l) hs
  | succ m =>
    obtain rfl : z = (m : Int) := by omega
    clear hz
    have hm : m < n := by omega
    have sm : (m : Int) ≤ 4611686018427387904 := by have := HN.out; omega
    have HL := Lib.hid hl
    have HG := Lib.hid (grp_len l (m + 1) hs)
    obtain ⟨b, o, rfl, hN⟩ := hl.at_ (by omega)
    have LN := Lib.hid hN
    obtain ⟨hf, hp⟩ := siz_pos hs
    obtain ⟨c0, c1, c2, -, -, -, -, -, -, -, c10, -⟩ := hN.2 m hm
    have hbw := hN.1
    have hd := grp_succ l m
    have hki := fits_kind hf
    clear hl hN hj hs
    rcases hp with ⟨hk, -⟩ | ⟨hk, h0, ha, hb, hsz⟩ | ⟨hk, h0, h1, ha, hb, hsz⟩
    · rw [if_pos hk] at hd
      obtain ⟨q8, q9, q10, q11, q17⟩ := kids0 hk hki
      have HD := Lib.hid (show nums l (m + 1) = [] by unfold nums; rw [hd]; rfl)
      have HK := Lib.hid hk
      clear hd hk hf
      go_enter Try.func33, Try.ntmps33
      go_wp2_with fail
      refine (rkids_any _ _).mono ?_
      rintro e w2 ⟨rfl, rfl⟩
      rw [HK.out]
      go_wp2_with fail
      go_ret
      exact ⟨_, rfl, by rw [HD.out]; exact Ints.empty w w.heap.size (Nat.le_refl _), by go_grown⟩
    · rw [hk, if_neg (show ¬ (1 : Int) = 0 by decide), if_pos rfl] at hd
      have HK := Lib.hid hk
      rw [ha] at c1
      have H0 := Lib.hid h0
      have HLE := Lib.hid (grp_len l m h0)
      have HSM := Lib.hid (siz_le l m)
      by_cases e11 : (l m).k = 11
      · have HD := Lib.hid (show nums l (m + 1) = [.int .i64 (l m).n] ++ nums l m by unfold nums; rw [hd, if_pos e11]; rfl)
        have HA := Lib.hid ha
        have E11 := Lib.hid e11
        have HK11 : kidsZ 11 = 1 := by decide
        rw [e11] at c0
        clear hd hk ha hb h0 hf e11 hki
        go_enter Try.func33, Try.ntmps33
        go_wp2_with (at_builtin; refine wpList_append_own _ rfl _ _ 62 rfl w.heap.size 3 i0 _ 1 8 Try.underlying62 HI.out.1 HI.out.2.1 HI.out.2.2.1 HI.out.2.2.2 rfl (by decide) _ _ _ rfl ((own_empty w 3 1 w.heap.size (Nat.le_refl _)).alloc _) ⟨w.heap.size + 1, 0, none⟩ 1 1 [.int .i64 (l m).n] rfl rfl (by simpa using nums_one (w.alloc (.cells #[] 3)) (l m).n) (by intro u hu; simp at hu; subst hu; rfl) (by unfold maxLen; omega) (by omega) (by simp; omega) ?_)
        intro v1 w1 hown1 hgrow1 hne1
        have B1 := Lib.hid (((Below.refl w.heap.size w).alloc (Nat.le_refl _) (.cells #[] 3)).alloc (by simp) (.cells #[.int .i64 (l m).n] 3) |>.grown hgrow1 (by simp; omega) (fun g hg => by simp [Value.ownBlock] at hg; omega))
        have I1 := Lib.hid (Ints.of_own hown1 hne1)
        clear hown1 hgrow1 hne1 c0 c1 c2 c10 hbw
        obtain ⟨b0, b1, b2, -⟩ := (LN.out.below B1.out (Nat.le_refl _)).2 m hm
        have hbw := (LN.out.below B1.out (Nat.le_refl _)).1
        rw [HA.out] at b1
        rw [E11.out] at b0
        go_wp2_with fail
        refine (rkids_any _ _).mono ?_
        rintro e w2 ⟨rfl, rfl⟩
        rw [HK11]
        go_wp2_with fail
        (with_reducible refine (IH.out m (by omega) (by omega) H0.out ((m : Int) - 1) rfl _ (LN.out.nodes.below B1.out (Nat.le_refl _))).mono ?_)
        rintro e w2 ⟨v2, rfl, hi2, hb2⟩
        obtain ⟨g2, cap2, rfl, ho2⟩ := hi2
        obtain ⟨g1, cap1, rfl, ho1⟩ := I1.out
        have OWN := Lib.hid (own_call ho1 hb2)
        have CELLS := Lib.hid (ho2.cells (g := g2) rfl)
        have B2 := Lib.hid (thenB B1.out hb2 B1.out.size)
        have BASE := Lib.hid (show w.heap.size ≤ w2.heap.size from Nat.le_trans B1.out.size hb2.size)
        have HLN := Lib.hid (show (nums l m).length ≤ m by unfold nums; rw [List.length_map]; have := HLE.out; have := HSM.out; omega)
        have G1 := Lib.hid ((ho1.lt g1 rfl).1)
        clear ho1 ho2 hb2
        go_wp2_with (at_builtin; refine wpList_append_own _ rfl _ _ 62 rfl w.heap.size 3 i0 _ 1 8 Try.underlying62 HI.out.1 HI.out.2.1 HI.out.2.2.1 HI.out.2.2.2 rfl (by decide) _ _ _ rfl OWN.out ⟨g2, 0, none⟩ _ cap2 (nums l m) rfl (by simp) CELLS.out (ints_one _ _) (by unfold maxLen; have := HLN.out; have := HN.out; simp; omega) (by have := HLN.out; have := HN.out; simp; omega) BASE.out ?_)
        intro v3 w3 hown3 hgrow3 hne3
        have B3 := Lib.hid (B2.out.grown hgrow3 BASE.out (fun g hg => by simp [Value.ownBlock] at hg; have := G1.out; omega))
        have I3 := Lib.hid (Ints.of_own hown3 hne3)
        clear hown3 hgrow3 hne3
        go_wp2_with fail
        go_ret
        exact ⟨_, rfl, by rw [HD.out]; exact I3.out, B3.out⟩
      · have q11 : ((l m).k == 11) = false := by simpa using e11
        have HD := Lib.hid (show nums l (m + 1) = nums l m by unfold nums; rw [hd, if_neg e11])
        clear hd hk ha hb h0 hf e11 hki
        go_enter Try.func33, Try.ntmps33
        go_wp2_with fail
        refine (rkids_any _ _).mono ?_
        rintro e w2 ⟨rfl, rfl⟩
        rw [HK.out]
        have B1 := Lib.hid ((Below.refl w.heap.size w).alloc (Nat.le_refl _) (.cells #[] 3))
        go_wp2_with fail
        (with_reducible refine (IH.out m (by omega) (by omega) H0.out ((m : Int) - 1) rfl _ (LN.out.nodes.below B1.out (Nat.le_refl _))).mono ?_)
        rintro e w2 ⟨v2, rfl, hi2, hb2⟩
        obtain ⟨g2, cap2, rfl, ho2⟩ := hi2
        have OWN := Lib.hid (own_call (own_empty w 3 1 w.heap.size (Nat.le_refl _)) hb2)
        have CELLS := Lib.hid (ho2.cells (g := g2) rfl)
        have B2 := Lib.hid (thenB B1.out hb2 B1.out.size)
        have BASE := Lib.hid (show w.heap.size ≤ w2.heap.size from Nat.le_trans B1.out.size hb2.size)
        have HLN := Lib.hid (show (nums l m).length ≤ m by unfold nums; rw [List.length_map]; have := HLE.out; have := HSM.out; omega)
        clear ho2 hb2
        go_wp2_with (at_builtin; refine wpList_append_own _ rfl _ _ 62 rfl w.heap.size 3 i0 _ 1 8 Try.underlying62 HI.out.1 HI.out.2.1 HI.out.2.2.1 HI.out.2.2.2 rfl (by decide) _ _ _ rfl OWN.out ⟨g2, 0, none⟩ _ cap2 (nums l m) rfl (by simp) CELLS.out (ints_one _ _) (by unfold maxLen; have := HLN.out; have := HN.out; simp; omega) (by have := HLN.out; have := HN.out; simp; omega) BASE.out ?_)
        intro v3 w3 hown3 hgrow3 hne3
        have B3 := Lib.hid (B2.out.grown hgrow3 BASE.out (fun g hg => by simp [Value.ownBlock] at hg; omega))
        have I3 := Lib.hid (Ints.of_own hown3 hne3)
        clear hown3 hgrow3 hne3
        go_wp2_with fail
        go_ret
        exact ⟨_, rfl, by rw [HD.out]; exact I3.out, B3.out⟩
    · rw [hk, if_neg (show ¬ (2 : Int) = 0 by decide), if_neg (show ¬ (2 : Int) = 1 by decide)] at hd
      have hk2 := kids2 hk
      have q11 : ((l m).k == 11) = false := by simp; omega
      have HK := Lib.hid hk
      rw [ha] at c1
      rw [hb] at c2
      have H0 := Lib.hid h0
      have H1 := Lib.hid h1
      have HLE := Lib.hid (And.intro (grp_len l m h0) (grp_len l (m - siz l m) h1))
      have HSM := Lib.hid (And.intro (siz_le l m) (siz_le l (m - siz l m)))
      have HD := Lib.hid (show nums l (m + 1) = nums l (m - siz l m) ++ nums l m by unfold nums; rw [hd, List.map_append])
      have HA := Lib.hid ha
      have HBB := Lib.hid hb
      clear hd hk hk2 ha hb h0 h1 hf hki hsz
      obtain ⟨s, es⟩ : ∃ s, s = siz l m := ⟨_, rfl⟩
      rw [← es] at H1 HLE HSM HD HA c1
      have sle : s ≤ m := HSM.out.1
      clear es
      go_enter Try.func33, Try.ntmps33
      go_wp2_with fail
      refine (rkids_any _ _).mono ?_
      rintro e w2 ⟨rfl, rfl⟩
      rw [HK.out]
      have B1 := Lib.hid ((Below.refl w.heap.size w).alloc (Nat.le_refl _) (.cells #[] 3))
      go_wp2_with fail
      (with_reducible refine (IH.out (m - s) (by omega) (by omega) H1.out ((m : Int) - 1 - (s : Int)) (by omega) _ (LN.out.nodes.below B1.out (Nat.le_refl _))).mono ?_)
      rintro e w2 ⟨v2, rfl, hi2, hb2⟩
      obtain ⟨g2, cap2, rfl, ho2⟩ := hi2
      have OWN := Lib.hid (own_call (own_empty w 3 1 w.heap.size (Nat.le_refl _)) hb2)
      have CELLS := Lib.hid (ho2.cells (g := g2) rfl)
      have B2 := Lib.hid (thenB B1.out hb2 B1.out.size)
      have BASE := Lib.hid (show w.heap.size ≤ w2.heap.size from Nat.le_trans B1.out.size hb2.size)
      have HLN := Lib.hid (show (nums l (m - s)).length ≤ m - s ∧ (nums l m).length ≤ s by
        unfold nums; rw [List.length_map, List.length_map]; have := HLE.out; have := HSM.out; omega)
      clear ho2 hb2 c0 c1 c2 c10 hbw
      go_wp2_with (at_builtin; refine wpList_append_own _ rfl _ _ 62 rfl w.heap.size 3 i0 _ 1 8 Try.underlying62 HI.out.1 HI.out.2.1 HI.out.2.2.1 HI.out.2.2.2 rfl (by decide) _ _ _ rfl OWN.out ⟨g2, 0, none⟩ _ cap2 (nums l (m - s)) rfl (by simp) CELLS.out (ints_one _ _) (by unfold maxLen; have := HLN.out; have := HN.out; simp; omega) (by have := HLN.out; have := HN.out; simp; omega) BASE.out ?_)
      intro v3 w3 hown3 hgrow3 hne3
      have B3 := Lib.hid (B2.out.grown hgrow3 BASE.out (fun g hg => by simp [Value.ownBlock] at hg; omega))
      have I3 := Lib.hid (Ints.of_own hown3 hne3)
      clear hown3 hgrow3 hne3
      obtain ⟨b0, b1, b2, -⟩ := (LN.out.below B3.out (Nat.le_refl _)).2 m hm
      have hbw := (LN.out.below B3.out (Nat.le_refl _)).1
      rw [HBB.out] at b2
      clear OWN CELLS BASE
      go_wp2_with fail
      (with_reducible refine (IH.out m (by omega) (by omega) H0.out ((m : Int) - 1) rfl _ (LN.out.nodes.below B3.out (Nat.le_refl _))).mono ?_)
      rintro e w4 ⟨v4, rfl, hi4, hb4⟩
      obtain ⟨g4, cap4, rfl, ho4⟩ := hi4
      obtain ⟨g1, cap1, rfl, ho1⟩ := I3.out
      have OWN := Lib.hid (own_call ho1 hb4)
      have CELLS := Lib.hid (ho4.cells (g := g4) rfl)
      have B4 := Lib.hid (thenB B3.out hb4 B3.out.size)
      have BASE := Lib.hid (show w.heap.size ≤ w4.heap.size from Nat.le_trans B3.out.size hb4.size)
      have G1 := Lib.hid ((ho1.lt g1 rfl).1)
      clear ho1 ho4 hb4
      go_wp2_with (at_builtin; refine wpList_append_own _ rfl _ _ 62 rfl w.heap.size 3 i0 _ 1 8 Try.underlying62 HI.out.1 HI.out.2.1 HI.out.2.2.1 HI.out.2.2.2 rfl (by decide) _ _ _ rfl OWN.out ⟨g4, 0, none⟩ _ cap4 (nums l m) rfl (by simp) CELLS.out (ints_one _ _) (by unfold maxLen; have := HLN.out; have := HN.out; simp; omega) (by have := HLN.out; have := HN.out; simp; omega) BASE.out ?_)
      intro v5 w5 hown5 hgrow5 hne5
      have B5 := Lib.hid (B4.out.grown hgrow5 BASE.out (fun g hg => by simp [Value.ownBlock] at hg; have := G1.out; omega))
      have I5 := Lib.hid (Ints.of_own hown5 hne5)
      clear hown5 hgrow5 hne5
      go_wp2_with fail
      go_ret
      exact ⟨_, rfl, by rw [HD.out]; exact I5.out, B5.out⟩
end Go.Proofs.Ytcjefhjhmmoocaa
