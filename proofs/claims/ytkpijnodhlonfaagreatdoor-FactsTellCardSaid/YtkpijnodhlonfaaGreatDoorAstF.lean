/-
  AstRefD, AstNums, AstLen
-/
import Derived.Test.YtkpijnodhlonfaaGreatDoorAstD
import Derived.Test.YtkpijnodhlonfaaGreatDoorAstC
import Derived.OwnWalk
import Derived.Test.YtkpijnodhlonfaaGreatDoorAstB
import Derived.Test.YtkpijnodhlonfaaGreatDoorAstE
namespace Go.Proofs.YtkpijnodhlonfaaGreatDoor.Ast
open Go.RowKit

theorem dep_pos (l : Nat → Nd) (j : Nat) : 0 < dep l (j + 1) := by
  rw [dep_succ]
  split
  · omega
  · split <;> omega
theorem deep_0 {l : Nat → Nd} {n : Nat} : deepZ l n = 0 ↔ formZ l n ≠ 0 := by
  unfold deepZ
  constructor
  · intro h h0
    rw [if_pos h0] at h
    obtain ⟨-, hp, -⟩ := form_0 h0
    have := dep_pos l (n - 1)
    rw [show n - 1 + 1 = n by omega] at this
    omega
  · intro h; rw [if_neg h]
theorem deep_le (l : Nat → Nd) (n : Nat) : deepZ l n ≤ n := by unfold deepZ; split; exact dep_le l n; omega
theorem Nodes.call {w u : World} {A : Option Addr} {n : Nat} {l : Nat → Nd} (h : Nodes w A n l) (hb : Below w.heap.size w u) : Nodes u A n l := h.below hb (Nat.le_refl _)

set_option maxHeartbeats 1000000 in
theorem rdeepZ_any (A : Option Addr) (n cap : Nat) (l : Nat → Nd) (w : World) (hn : n ≤ 1000000) (hl : Nodes w A n l) :
    Calls Tryz.prog 68 #[.slice A n cap] w fun e w' => e = .returned (.int .i64 (deepZ l n : Nat)) ∧ Below w.heap.size w w' := by
  have HL := Lib.hid hl
  clear hl
  by_cases h0 : n = 0
  · subst h0
    have HV := Lib.hid (show deepZ l 0 = 0 by unfold deepZ formZ goodB; simp)
    go_enter Tryz.func68, Tryz.ntmps68
    go_wp2_with fail
    go_ret
    exact ⟨by rw [HV.out]; rfl, Below.refl _ _⟩
  · by_cases h5 : 500 < n
    · have HV := Lib.hid (show deepZ l n = 0 by unfold deepZ formZ; rw [if_pos h5]; rfl)
      have hz : (500 : Int) < (n : Int) := by omega
      have q0 : ((n : Int) == 0) = false := by simp; omega
      clear h0 h5
      go_enter Tryz.func68, Tryz.ntmps68
      go_wp2_with fail
      go_ret
      exact ⟨by rw [HV.out]; rfl, Below.refl _ _⟩
    · have hz : ¬ (500 : Int) < (n : Int) := by omega
      have q0 : ((n : Int) == 0) = false := by simp; omega
      have n1 : (1 : Int) ≤ (n : Int) := by omega
      have HF := Lib.hid (show formZ l n = if goodB l n = true then 0 else 3 by unfold formZ; rw [if_neg h5])
      have H0 := Lib.hid h0
      clear h0 h5
      go_enter Tryz.func68, Tryz.ntmps68
      go_wp2_with fail
      (with_reducible refine (rsize_any A n cap l (by omega) n (Nat.le_refl _) ((n : Int) - 1) rfl _ HL.out).mono ?_)
      rintro e w1 ⟨rfl, hb⟩
      have B1 := Lib.hid hb
      clear hb
      by_cases hs : siz l n = n
      · have hg : formZ l n = 0 := by rw [HF.out, if_pos (by unfold goodB; simp; exact ⟨Nat.pos_of_ne_zero H0.out, hs⟩)]
        have HV := Lib.hid (show deepZ l n = dep l n by unfold deepZ; rw [if_pos hg])
        have HS := Lib.hid (show siz l n ≠ 0 by rw [hs]; exact H0.out)
        rw [hs]
        clear hs hg
        go_wp2_with fail
        (with_reducible refine (rdeep_any A n cap l (by omega) n (Nat.le_refl _) HS.out ((n : Int) - 1) rfl _ (HL.out.call B1.out)).mono ?_)
        rintro e w2 ⟨rfl, q, rfl⟩
        go_wp2_with fail
        go_ret
        exact ⟨by rw [HV.out]; rfl, below_drewN B1.out _⟩
      · have HV := Lib.hid (show deepZ l n = 0 by
          rw [deep_0, HF.out, if_neg (by unfold goodB; simp; intro _; exact hs)]; decide)
        have qs : ((siz l n : Int) == (n : Int)) = false := by simp; omega
        have qs' : (siz l n == n) = false := by simp; omega
        clear hs
        go_wp2_with fail
        go_ret
        exact ⟨by rw [HV.out]; rfl, B1.out⟩

set_option maxHeartbeats 1000000 in
theorem formed_any (A : Option Addr) (n cap : Nat) (l : Nat → Nd) (w : World) (hn : n ≤ 1000000) (hl : Nodes w A n l) :
    Calls Tryz.prog 47 #[.slice A n cap] w fun e w' => e = .returned (.int .i64 (shapeZ l n)) ∧ Below w.heap.size w w' := by
  have HL := Lib.hid hl
  clear hl
  by_cases h5 : 500 < n
  · have HV := Lib.hid (show shapeZ l n = 4 by unfold shapeZ formZ; rw [if_pos h5]; simp)
    have hz : (500 : Int) < (n : Int) := by omega
    clear h5
    go_enter Tryz.func47, Tryz.ntmps47
    go_wp2_with fail
    go_ret
    exact ⟨by rw [HV.out]; rfl, Below.refl _ _⟩
  · have hz : ¬ (500 : Int) < (n : Int) := by omega
    have HF := Lib.hid (show formZ l n = if goodB l n = true then 0 else 3 by unfold formZ; rw [if_neg h5])
    have HD := Lib.hid (@deep_0 l n)
    have HDV := Lib.hid (show formZ l n = 0 → deepZ l n = dep l n by intro h; unfold deepZ; rw [if_pos h])
    obtain ⟨d, hd⟩ : ∃ d, d = deepZ l n := ⟨_, rfl⟩
    have C := Lib.hid (show ∀ w, Nodes w A n l → Calls Tryz.prog 68 #[.slice A n cap] w fun e w' => e = .returned (.int .i64 (d : Nat)) ∧ Below w.heap.size w w' by
      intro w hw; rw [hd]; exact rdeepZ_any A n cap l w hn hw)
    rw [← hd] at HD HDV
    clear h5 hd
    by_cases h0 : d = 0
    · have hf := HD.out.1 h0
      have HV := Lib.hid (show shapeZ l n = 3 by
        unfold shapeZ
        rw [if_neg (by intro h; exact hf h.1)]
        have := HF.out
        split at this
        · exact absurd this hf
        · exact this)
      subst h0
      clear hf
      go_enter Tryz.func47, Tryz.ntmps47
      go_wp2_with fail
      refine (C.out _ HL.out).mono ?_
      rintro e w1 ⟨rfl, hb⟩
      have B1 := Lib.hid hb
      clear hb
      go_wp2_with fail
      go_ret
      exact ⟨by rw [HV.out]; rfl, B1.out⟩
    · have hf : formZ l n = 0 := by
        rcases Decidable.em (formZ l n = 0) with h | h
        · exact h
        · exact absurd (HD.out.2 h) h0
      have hdv := HDV.out hf
      have HV := Lib.hid (show shapeZ l n = if 40 < d then 4 else 0 by unfold shapeZ; rw [hf, ← hdv]; simp)
      have q0 : ((d : Int) == 0) = false := by simp; omega
      clear h0 hf hdv
      go_enter Tryz.func47, Tryz.ntmps47
      go_wp2_with fail
      refine (C.out _ HL.out).mono ?_
      rintro e w1 ⟨rfl, hb⟩
      have B1 := Lib.hid hb
      clear hb
      go_wp2_with fail
      refine (C.out _ (HL.out.call B1.out)).mono ?_
      rintro e w2 ⟨rfl, hb⟩
      have B2 := Lib.hid (thenB B1.out hb B1.out.size)
      clear hb
      by_cases h4 : 40 < d
      · rw [if_pos h4] at HV
        have hz : (40 : Int) < (d : Int) := by omega
        clear h4
        go_wp2_with fail
        go_ret
        exact ⟨by rw [HV.out]; rfl, B2.out⟩
      · rw [if_neg h4] at HV
        have hz : ¬ (40 : Int) < (d : Int) := by omega
        clear h4
        go_wp2_with fail
        go_ret
        exact ⟨by rw [HV.out]; rfl, B2.out⟩

theorem shape_0 {l : Nat → Nd} {n : Nat} (h : shapeZ l n = 0) : formZ l n = 0 ∧ dep l n ≤ 40 := by
  unfold shapeZ at h
  split at h
  · omega
  · rename_i h1
    refine ⟨h, ?_⟩
    rcases Nat.lt_or_ge 40 (dep l n) with h2 | h2
    · exact absurd ⟨h, h2⟩ h1
    · exact h2
/-- How many bytes the tree of node i has, or what is wrong. -/
def lenZ (l : Nat → Nd) (n : Nat) (i : Int) : Int × Int × Int := if shapeZ l n ≠ 0 then (0, 0, shapeZ l n) else if i < 0 ∨ (n : Int) ≤ i then (0, 0, 5) else ((len l (i.toNat + 1)).1, (len l (i.toNat + 1)).2, 0)
abbrev lenV (x : Int × Int × Int) : Value := .tuple #[.int .i64 x.1, .int .i64 x.2.1, .int .i64 x.2.2]
theorem ret_3 {a b c : Int} {x : Int × Int × Int} (h : x = (a, b, c)) : Ending.returned (.tuple #[.int .i64 a, .int .i64 b, .int .i64 c]) = .returned (lenV x) := by rw [h]

end Go.Proofs.YtkpijnodhlonfaaGreatDoor.Ast

namespace Go.Proofs.YtkpijnodhlonfaaGreatDoor.Ast
open Go.RowKit

theorem grp_len (l : Nat → Nd) : ∀ j, siz l j ≠ 0 → (grp l j).length ≤ siz l j := by
  intro j
  induction j using Nat.strongRecOn with
  | _ j ih =>
    intro hs
    cases j with
    | zero => exact absurd (siz_zero l) hs
    | succ m =>
      obtain ⟨-, hp⟩ := siz_pos hs
      rw [grp_succ]
      rcases hp with ⟨hk, -, -, hz⟩ | ⟨hk, h0, -, -, hz⟩ | ⟨hk, h0, h1, -, -, hz⟩
      · rw [if_pos hk]; simp
      · rw [hk, if_neg (show ¬ (1 : Int) = 0 by decide), if_pos rfl, hz]
        have := ih m (by omega) h0
        split
        · simp; exact this
        · omega
      · rw [hk, if_neg (show ¬ (2 : Int) = 0 by decide), if_neg (show ¬ (2 : Int) = 1 by decide), hz, List.length_append]
        have a := ih m (by omega) h0
        have b := ih (m - siz l m) (by omega) h1
        omega
/-- The groups' numbers. -/
def nums (l : Nat → Nd) (j : Nat) : List Value := (grp l j).map fun i => .int .i64 (l i).n
/-- A slice that is not nil owns these values. -/
def Ints (w : World) (base : Nat) (v : Value) (xs : List Value) : Prop := ∃ g cap, v = .slice (some ⟨g, 0, none⟩) xs.length cap ∧ w.ownsRow base 3 1 v xs.length xs
theorem Ints.call {w w' : World} {base : Nat} {v : Value} {xs : List Value} (h : Ints w base v xs) (hb : Below w.heap.size w w') : Ints w' base v xs := by
  obtain ⟨g, cap, e, ho⟩ := h
  exact ⟨g, cap, e, own_call ho hb⟩
theorem Ints.of_own {w : World} {base n : Nat} {v : Value} {xs : List Value} (h : w.ownsRow base 3 1 v n xs) (hv : v ≠ .slice none 0 0) : Ints w base v xs := by
  have hl : xs.length = n := by simpa using h.1
  subst hl
  rcases h.2 with ⟨e, _⟩ | ⟨g, cap, cur, e, _⟩
  · exact absurd e hv
  · exact ⟨g, cap, e, h⟩
theorem Ints.ne {w : World} {base : Nat} {v : Value} {xs : List Value} (h : Ints w base v xs) : v ≠ .slice none 0 0 := by
  obtain ⟨g, cap, rfl, _⟩ := h
  intro e
  cases e
theorem ints_one (l : List Nat) (f : Nat → Int) : ∀ u ∈ l.map (fun i => Value.int .i64 (f i)), u.oneCell' = true := by
  intro u hu
  obtain ⟨_, _, rfl⟩ := List.mem_map.1 hu
  rfl
theorem Ints.empty (w : World) (base : Nat) (hb : base ≤ w.heap.size) : Ints (w.alloc (.cells #[] 3)) base (.slice (some ⟨w.heap.size, 0, none⟩) 0 0) [] := ⟨w.heap.size, 0, rfl, own_empty w _ _ _ hb⟩
theorem nums_one (w : World) (z : Int) : ∀ j u, [Value.int .i64 z][j]? = some u → (w.alloc (.cells #[.int .i64 z] 3)).cell? (Addr.add ⟨w.heap.size, 0, none⟩ j) = some u := by
  intro j u hu
  match j, hu with
  | 0, hu =>
    simp at hu
    subst hu
    rw [Addr.add_lit]
    unfold World.cell?
    rw [heap_alloc_new]
    rfl

set_option maxHeartbeats 4000000 in
theorem numbers_any (A : Option Addr) (n cap : Nat) (l : Nat → Nd) (hn : n ≤ 1000000) : ∀ j, j ≤ n → siz l j ≠ 0 → ∀ (z : Int), z = (j : Int) - 1 → ∀ w, Nodes w A n l →
    Calls Tryz.prog 48 #[.slice A n cap, .int .i64 z] w fun e w' => ∃ v, e = .returned v ∧ Ints w' w.heap.size v (nums l j) ∧ Below w.heap.size w w' := by
  intro j
  induction j using Nat.strongRecOn with
  | _ j ih =>
  intro hj hs z hz w hl
  have HN := Lib.hid hn
  have IH := Lib.hid ih
  clear hn ih
  obtain ⟨i0, hi, hz0, hz1, hz2⟩ := info_parts infoI
  have HI := Lib.hid (And.intro hi (And.intro hz0 (And.intro hz1 hz2)))
  clear hi hz0 hz1 hz2
  cases j with
  | zero => exact absurd (siz_zero l) hs
  | succ m =>
    obtain rfl : z = (m : Int) := by omega
    clear hz
    have hm : m < n := by omega
    have sm : (m : Int) ≤ 4611686018427387904 := by have := HN.out; omega
    have HL := Lib.hid hl
    have HG := Lib.hid (grp_len l (m + 1) hs)
    obtain ⟨b, o, rfl, hN⟩ := hl.at_ (by omega)
    have LN := Lib.hid hN
    obtain ⟨hf, hp⟩ := siz_pos hs
    obtain ⟨c0, c1, c2, -, -, -, -, -, -, -, c10, -⟩ := hN.2 m hm
    have hbw := hN.1
    have hd := grp_succ l m
    have hki := fits_kind hf
    clear hl hN hj hs
    rcases hp with ⟨hk, -⟩ | ⟨hk, h0, ha, hb, hsz⟩ | ⟨hk, h0, h1, ha, hb, hsz⟩
    · rw [if_pos hk] at hd
      obtain ⟨q8, q9, q10, q11, q17⟩ := kids0 hk hki
      have HD := Lib.hid (show nums l (m + 1) = [] by unfold nums; rw [hd]; rfl)
      have HK := Lib.hid hk
      clear hd hk hf
      go_enter Tryz.func48, Tryz.ntmps48
      go_wp2_with fail
      refine (rkids_any _ _).mono ?_
      rintro e w2 ⟨rfl, rfl⟩
      rw [HK.out]
      go_wp2_with fail
      go_ret
      exact ⟨_, rfl, by rw [HD.out]; exact Ints.empty w w.heap.size (Nat.le_refl _), by go_grown⟩
    · rw [hk, if_neg (show ¬ (1 : Int) = 0 by decide), if_pos rfl] at hd
      have HK := Lib.hid hk
      rw [ha] at c1
      have H0 := Lib.hid h0
      have HLE := Lib.hid (grp_len l m h0)
      have HSM := Lib.hid (siz_le l m)
      by_cases e11 : (l m).k = 11
      · have HD := Lib.hid (show nums l (m + 1) = [.int .i64 (l m).n] ++ nums l m by unfold nums; rw [hd, if_pos e11]; rfl)
        have HA := Lib.hid ha
        have E11 := Lib.hid e11
        have HK11 : kidsZ 11 = 1 := by decide
        rw [e11] at c0
        clear hd hk ha hb h0 hf e11 hki
        go_enter Tryz.func48, Tryz.ntmps48
        go_wp2_with (at_builtin; refine wpList_append_own _ rfl _ _ 90 rfl w.heap.size 3 i0 _ 1 8 Tryz.underlying90 HI.out.1 HI.out.2.1 HI.out.2.2.1 HI.out.2.2.2 rfl (by decide) _ _ _ rfl ((own_empty w 3 1 w.heap.size (Nat.le_refl _)).alloc _) ⟨w.heap.size + 1, 0, none⟩ 1 1 [.int .i64 (l m).n] rfl rfl (by simpa using nums_one (w.alloc (.cells #[] 3)) (l m).n) (by intro u hu; simp at hu; subst hu; rfl) (by unfold maxLen; omega) (by omega) (by simp; omega) ?_)
        intro v1 w1 hown1 hgrow1 hne1
        have B1 := Lib.hid (((Below.refl w.heap.size w).alloc (Nat.le_refl _) (.cells #[] 3)).alloc (by simp) (.cells #[.int .i64 (l m).n] 3) |>.grown hgrow1 (by simp; omega) (fun g hg => by simp [Value.ownBlock] at hg; omega))
        have I1 := Lib.hid (Ints.of_own hown1 hne1)
        clear hown1 hgrow1 hne1 c0 c1 c2 c10 hbw
        obtain ⟨b0, b1, b2, -⟩ := (LN.out.below B1.out (Nat.le_refl _)).2 m hm
        have hbw := (LN.out.below B1.out (Nat.le_refl _)).1
        rw [HA.out] at b1
        rw [E11.out] at b0
        go_wp2_with fail
        refine (rkids_any _ _).mono ?_
        rintro e w2 ⟨rfl, rfl⟩
        rw [HK11]
        go_wp2_with fail
        (with_reducible refine (IH.out m (by omega) (by omega) H0.out ((m : Int) - 1) rfl _ (LN.out.nodes.below B1.out (Nat.le_refl _))).mono ?_)
        rintro e w2 ⟨v2, rfl, hi2, hb2⟩
        obtain ⟨g2, cap2, rfl, ho2⟩ := hi2
        obtain ⟨g1, cap1, rfl, ho1⟩ := I1.out
        have OWN := Lib.hid (own_call ho1 hb2)
        have CELLS := Lib.hid (ho2.cells (g := g2) rfl)
        have B2 := Lib.hid (thenB B1.out hb2 B1.out.size)
        have BASE := Lib.hid (show w.heap.size ≤ w2.heap.size from Nat.le_trans B1.out.size hb2.size)
        have HLN := Lib.hid (show (nums l m).length ≤ m by unfold nums; rw [List.length_map]; have := HLE.out; have := HSM.out; omega)
        have G1 := Lib.hid ((ho1.lt g1 rfl).1)
        clear ho1 ho2 hb2
        go_wp2_with (at_builtin; refine wpList_append_own _ rfl _ _ 90 rfl w.heap.size 3 i0 _ 1 8 Tryz.underlying90 HI.out.1 HI.out.2.1 HI.out.2.2.1 HI.out.2.2.2 rfl (by decide) _ _ _ rfl OWN.out ⟨g2, 0, none⟩ _ cap2 (nums l m) rfl (by simp) CELLS.out (ints_one _ _) (by unfold maxLen; have := HLN.out; have := HN.out; simp; omega) (by have := HLN.out; have := HN.out; simp; omega) BASE.out ?_)
        intro v3 w3 hown3 hgrow3 hne3
        have B3 := Lib.hid (B2.out.grown hgrow3 BASE.out (fun g hg => by simp [Value.ownBlock] at hg; have := G1.out; omega))
        have I3 := Lib.hid (Ints.of_own hown3 hne3)
        clear hown3 hgrow3 hne3
        go_wp2_with fail
        go_ret
        exact ⟨_, rfl, by rw [HD.out]; exact I3.out, B3.out⟩
      · have q11 : ((l m).k == 11) = false := by simpa using e11
        have HD := Lib.hid (show nums l (m + 1) = nums l m by unfold nums; rw [hd, if_neg e11])
        clear hd hk ha hb h0 hf e11 hki
        go_enter Tryz.func48, Tryz.ntmps48
        go_wp2_with fail
        refine (rkids_any _ _).mono ?_
        rintro e w2 ⟨rfl, rfl⟩
        rw [HK.out]
        have B1 := Lib.hid ((Below.refl w.heap.size w).alloc (Nat.le_refl _) (.cells #[] 3))
        go_wp2_with fail
        (with_reducible refine (IH.out m (by omega) (by omega) H0.out ((m : Int) - 1) rfl _ (LN.out.nodes.below B1.out (Nat.le_refl _))).mono ?_)
        rintro e w2 ⟨v2, rfl, hi2, hb2⟩
        obtain ⟨g2, cap2, rfl, ho2⟩ := hi2
        have OWN := Lib.hid (own_call (own_empty w 3 1 w.heap.size (Nat.le_refl _)) hb2)
        have CELLS := Lib.hid (ho2.cells (g := g2) rfl)
        have B2 := Lib.hid (thenB B1.out hb2 B1.out.size)
        have BASE := Lib.hid (show w.heap.size ≤ w2.heap.size from Nat.le_trans B1.out.size hb2.size)
        have HLN := Lib.hid (show (nums l m).length ≤ m by unfold nums; rw [List.length_map]; have := HLE.out; have := HSM.out; omega)
        clear ho2 hb2
        go_wp2_with (at_builtin; refine wpList_append_own _ rfl _ _ 90 rfl w.heap.size 3 i0 _ 1 8 Tryz.underlying90 HI.out.1 HI.out.2.1 HI.out.2.2.1 HI.out.2.2.2 rfl (by decide) _ _ _ rfl OWN.out ⟨g2, 0, none⟩ _ cap2 (nums l m) rfl (by simp) CELLS.out (ints_one _ _) (by unfold maxLen; have := HLN.out; have := HN.out; simp; omega) (by have := HLN.out; have := HN.out; simp; omega) BASE.out ?_)
        intro v3 w3 hown3 hgrow3 hne3
        have B3 := Lib.hid (B2.out.grown hgrow3 BASE.out (fun g hg => by simp [Value.ownBlock] at hg; omega))
        have I3 := Lib.hid (Ints.of_own hown3 hne3)
        clear hown3 hgrow3 hne3
        go_wp2_with fail
        go_ret
        exact ⟨_, rfl, by rw [HD.out]; exact I3.out, B3.out⟩
    · rw [hk, if_neg (show ¬ (2 : Int) = 0 by decide), if_neg (show ¬ (2 : Int) = 1 by decide)] at hd
      have hk2 := kids2 hk
      have q11 : ((l m).k == 11) = false := by simp; omega
      have HK := Lib.hid hk
      rw [ha] at c1
      rw [hb] at c2
      have H0 := Lib.hid h0
      have H1 := Lib.hid h1
      have HLE := Lib.hid (And.intro (grp_len l m h0) (grp_len l (m - siz l m) h1))
      have HSM := Lib.hid (And.intro (siz_le l m) (siz_le l (m - siz l m)))
      have HD := Lib.hid (show nums l (m + 1) = nums l (m - siz l m) ++ nums l m by unfold nums; rw [hd, List.map_append])
      have HA := Lib.hid ha
      have HBB := Lib.hid hb
      clear hd hk hk2 ha hb h0 h1 hf hki hsz
      obtain ⟨s, es⟩ : ∃ s, s = siz l m := ⟨_, rfl⟩
      rw [← es] at H1 HLE HSM HD HA c1
      have sle : s ≤ m := HSM.out.1
      clear es
      go_enter Tryz.func48, Tryz.ntmps48
      go_wp2_with fail
      refine (rkids_any _ _).mono ?_
      rintro e w2 ⟨rfl, rfl⟩
      rw [HK.out]
      have B1 := Lib.hid ((Below.refl w.heap.size w).alloc (Nat.le_refl _) (.cells #[] 3))
      go_wp2_with fail
      (with_reducible refine (IH.out (m - s) (by omega) (by omega) H1.out ((m : Int) - 1 - (s : Int)) (by omega) _ (LN.out.nodes.below B1.out (Nat.le_refl _))).mono ?_)
      rintro e w2 ⟨v2, rfl, hi2, hb2⟩
      obtain ⟨g2, cap2, rfl, ho2⟩ := hi2
      have OWN := Lib.hid (own_call (own_empty w 3 1 w.heap.size (Nat.le_refl _)) hb2)
      have CELLS := Lib.hid (ho2.cells (g := g2) rfl)
      have B2 := Lib.hid (thenB B1.out hb2 B1.out.size)
      have BASE := Lib.hid (show w.heap.size ≤ w2.heap.size from Nat.le_trans B1.out.size hb2.size)
      have HLN := Lib.hid (show (nums l (m - s)).length ≤ m - s ∧ (nums l m).length ≤ s by
        unfold nums; rw [List.length_map, List.length_map]; have := HLE.out; have := HSM.out; omega)
      clear ho2 hb2 c0 c1 c2 c10 hbw
      go_wp2_with (at_builtin; refine wpList_append_own _ rfl _ _ 90 rfl w.heap.size 3 i0 _ 1 8 Tryz.underlying90 HI.out.1 HI.out.2.1 HI.out.2.2.1 HI.out.2.2.2 rfl (by decide) _ _ _ rfl OWN.out ⟨g2, 0, none⟩ _ cap2 (nums l (m - s)) rfl (by simp) CELLS.out (ints_one _ _) (by unfold maxLen; have := HLN.out; have := HN.out; simp; omega) (by have := HLN.out; have := HN.out; simp; omega) BASE.out ?_)
      intro v3 w3 hown3 hgrow3 hne3
      have B3 := Lib.hid (B2.out.grown hgrow3 BASE.out (fun g hg => by simp [Value.ownBlock] at hg; omega))
      have I3 := Lib.hid (Ints.of_own hown3 hne3)
      clear hown3 hgrow3 hne3
      obtain ⟨b0, b1, b2, -⟩ := (LN.out.below B3.out (Nat.le_refl _)).2 m hm
      have hbw := (LN.out.below B3.out (Nat.le_refl _)).1
      rw [HBB.out] at b2
      clear OWN CELLS BASE
      go_wp2_with fail
      (with_reducible refine (IH.out m (by omega) (by omega) H0.out ((m : Int) - 1) rfl _ (LN.out.nodes.below B3.out (Nat.le_refl _))).mono ?_)
      rintro e w4 ⟨v4, rfl, hi4, hb4⟩
      obtain ⟨g4, cap4, rfl, ho4⟩ := hi4
      obtain ⟨g1, cap1, rfl, ho1⟩ := I3.out
      have OWN := Lib.hid (own_call ho1 hb4)
      have CELLS := Lib.hid (ho4.cells (g := g4) rfl)
      have B4 := Lib.hid (thenB B3.out hb4 B3.out.size)
      have BASE := Lib.hid (show w.heap.size ≤ w4.heap.size from Nat.le_trans B3.out.size hb4.size)
      have G1 := Lib.hid ((ho1.lt g1 rfl).1)
      clear ho1 ho4 hb4
      go_wp2_with (at_builtin; refine wpList_append_own _ rfl _ _ 90 rfl w.heap.size 3 i0 _ 1 8 Tryz.underlying90 HI.out.1 HI.out.2.1 HI.out.2.2.1 HI.out.2.2.2 rfl (by decide) _ _ _ rfl OWN.out ⟨g4, 0, none⟩ _ cap4 (nums l m) rfl (by simp) CELLS.out (ints_one _ _) (by unfold maxLen; have := HLN.out; have := HN.out; simp; omega) (by have := HLN.out; have := HN.out; simp; omega) BASE.out ?_)
      intro v5 w5 hown5 hgrow5 hne5
      have B5 := Lib.hid (B4.out.grown hgrow5 BASE.out (fun g hg => by simp [Value.ownBlock] at hg; have := G1.out; omega))
      have I5 := Lib.hid (Ints.of_own hown5 hne5)
      clear hown5 hgrow5 hne5
      go_wp2_with fail
      go_ret
      exact ⟨_, rfl, by rw [HD.out]; exact I5.out, B5.out⟩
end Go.Proofs.YtkpijnodhlonfaaGreatDoor.Ast

namespace Go.Proofs.YtkpijnodhlonfaaGreatDoor.Ast
open Go.RowKit

set_option maxHeartbeats 1000000 in
theorem lenZ_any (A : Option Addr) (n cap : Nat) (l : Nat → Nd) (i : Int) (w : World) (hn : n ≤ 1000000) (hl : Nodes w A n l) :
    Calls Tryz.prog 21 #[.agg #[.slice A n cap], .int .i64 i] w fun e w' => e = .returned (lenV (lenZ l n i)) ∧ Below w.heap.size w w' := by
  have HL := Lib.hid hl
  clear hl
  go_enter Tryz.func21, Tryz.ntmps21
  go_wp2_with fail
  refine (rightShape_any A n cap l _ hn (HL.out.below (B := w.heap.size) (by go_grown) (Nat.le_refl _))).mono ?_
  rintro e w1 ⟨rfl, hb⟩
  have T1 := Lib.hid ((TreeBox.new w A n cap).call hb)
  have B1 := Lib.hid (thenB (B := w.heap.size) (w := w) (by go_grown) hb (by simp))
  clear hb
  have c0 := T1.out.cell
  by_cases h0 : shapeZ l n = 0
  · have hF := form_0 (shape_0 h0).1
    rw [h0]
    by_cases hi : i < 0
    · have HV := Lib.hid (show lenZ l n i = (0, 0, 5) by unfold lenZ; rw [if_neg (by omega), if_pos (.inl hi)])
      clear h0 hF
      go_wp2_with fail
      go_ret3
      exact ⟨ret_3 HV.out, B1.out⟩
    · by_cases hj : (n : Int) ≤ i
      · have HV := Lib.hid (show lenZ l n i = (0, 0, 5) by unfold lenZ; rw [if_neg (by omega), if_pos (.inr hj)])
        clear h0 hF
        go_wp2_with fail
        go_ret3
        exact ⟨ret_3 HV.out, B1.out⟩
      · obtain ⟨m, rfl⟩ : ∃ m : Nat, i = (m : Int) := ⟨i.toNat, by omega⟩
        have hm : m < n := by omega
        have HV := Lib.hid (show lenZ l n m = ((len l (m + 1)).1, (len l (m + 1)).2, 0) by unfold lenZ; rw [if_neg (by omega), if_neg (by omega)]; simp)
        have HS := Lib.hid hF.2.2
        have hj' : ¬ n ≤ m := by omega
        clear h0 hF
        go_wp2_with fail
        (with_reducible refine (spans_any A n cap l _ hn HS.out (HL.out.call B1.out)).mono ?_)
        rintro e w2 ⟨rfl, hr, hb⟩
        have B2 := Lib.hid (thenB B1.out hb B1.out.size)
        have r0 := hr.cell (i := m * 2) (by omega)
        have r1 := hr.cell (i := m * 2 + 1) (by omega)
        rw [(sp_at l n m hm).1] at r0
        rw [(sp_at l n m hm).2] at r1
        have hlt : w1.heap.size < w2.heap.size := hr.lt
        clear hb hr c0
        go_wp2_with fail
        go_quiet (fail)
        go_wp2_with fail
        go_ret3
        exact ⟨ret_3 HV.out, below_drewN (B2.out.alloc B2.out.size _) _⟩
  · have HV := Lib.hid (show lenZ l n i = (0, 0, shapeZ l n) by unfold lenZ; rw [if_pos h0])
    have q : (shapeZ l n == 0) = false := by simpa using h0
    clear h0
    go_wp2_with fail
    go_ret3
    exact ⟨ret_3 HV.out, B1.out⟩

/-- Has what is looked for behind, among the first nodes, one length, that is short enough? -/
def behB (l : Nat → Nd) : Nat → Bool
  | 0 => true
  | k + 1 => behB l k && (if (l k).k = 15 ∨ (l k).k = 16 then decide ((len l k).1 = (len l k).2 ∧ (len l k).2 ≤ 255) else true)
theorem beh_no {l : Nat → Nd} {k : Nat} (h : behB l k = false) : ∀ d, behB l (k + d) = false
  | 0 => h
  | d + 1 => by rw [← Nat.add_assoc, behB, beh_no h d]; rfl
theorem beh_none {l : Nat → Nd} {k n : Nat} (h : behB l k = false) (hk : k ≤ n) : behB l n = false := by
  rw [show n = k + (n - k) by omega]; exact beh_no h _

set_option maxHeartbeats 2000000 in
theorem rightBehinds_any (A : Option Addr) (n cap : Nat) (l : Nat → Nd) (w : World) (hn : n ≤ 1000000) (hs : siz l n = n) (hl : Nodes w A n l) :
    Calls Tryz.prog 41 #[.slice A n cap] w fun e w' => e = .returned (.bool (behB l n)) ∧ Below w.heap.size w w' := by
  have HL := Lib.hid hl
  have HS := Lib.hid hs
  clear hl hs
  go_enter Tryz.func41, Tryz.ntmps41
  go_wp2_with fail
  (with_reducible refine (spans_any A n cap l _ hn HS.out HL.out).mono ?_)
  rintro e w0 ⟨rfl, hr, hb⟩
  have R0 := Lib.hid hr
  have B0 := Lib.hid hb
  clear hr hb
  go_wp2_with fail
  go_loopw [11] (fun i wr => ∃ k : Nat, k ≤ n ∧ i = .int .i64 k ∧ behB l k = true ∧ wr.rowIs w.heap.size 80 (n * 2) (spV l n) ∧ Below w.heap.size w wr) (fun i _ => n - (intOf i).toNat)
  case atStart => exact ⟨0, Nat.zero_le _, rfl, rfl, R0.out, B0.out⟩
  case round =>
    obtain ⟨k, hk, rfl, hbeh, hrow, hb⟩ := hrel
    have HR := Lib.hid hrow
    have HB := Lib.hid hb
    have HH := Lib.hid hbeh
    clear hrow hb hbeh R0 B0
    by_cases hlt : k < n
    · obtain ⟨b, o, rfl, hN⟩ := (HL.out.below HB.out (Nat.le_refl _)).at_ (by omega)
      obtain ⟨c0, c1, c2, c3, c4, c5, c6, c7, c8, c9, c10, c11⟩ := hN.2 k hlt
      have hbw := hN.1
      have hsz := siz_of_whole HS.out hlt
      obtain ⟨hf, hp⟩ := siz_pos hsz
      have lr : w.heap.size < wr.heap.size := HR.out.lt
      have HX := Lib.hid (show behB l (k + 1) = (behB l k && (if (l k).k = 15 ∨ (l k).k = 16 then decide ((len l k).1 = (len l k).2 ∧ (len l k).2 ≤ 255) else true)) from rfl)
      clear hN hsz hf
      by_cases hkk : (l k).k = 15 ∨ (l k).k = 16
      · have hk1 : kidsZ (l k).k = 1 := by unfold kidsZ; rw [if_neg (by omega), if_pos (by omega)]
        obtain ⟨h1, ha⟩ : siz l k ≠ 0 ∧ (l k).a = (k : Int) - 1 := by
          rcases hp with ⟨h, -⟩ | ⟨-, h1, ha, -⟩ | ⟨h, -⟩
          · omega
          · exact ⟨h1, ha⟩
          · omega
        have k0 : k ≠ 0 := by rintro rfl; exact h1 rfl
        rw [ha] at c1
        have r0 := HR.out.cell (i := (k - 1) * 2) (by omega)
        have r1 := HR.out.cell (i := (k - 1) * 2 + 1) (by omega)
        rw [(sp_at l n (k - 1) (by omega)).1, show k - 1 + 1 = k by omega] at r0
        rw [(sp_at l n (k - 1) (by omega)).2, show k - 1 + 1 = k by omega] at r1
        have k1 : (1 : Int) ≤ (k : Int) := by omega
        have HX' := Lib.hid (show behB l (k + 1) = decide ((len l k).1 = (len l k).2 ∧ (len l k).2 ≤ 255) by rw [HX.out, HH.out, if_pos hkk]; simp)
        clear hp hk1 h1 ha k0
        generalize (len l k).1 = x at r0 HX'
        generalize (len l k).2 = y at r1 HX'
        by_cases exy : x = y
        · subst exy
          by_cases e5 : x ≤ 255
          · have HZ := Lib.hid (show behB l (k + 1) = true by rw [HX'.out]; simp; exact e5)
            have e6 : ¬ 255 < x := by omega
            rcases hkk with e | e
            · rw [e] at c0
              clear e
              go_wp2_with fail
              go_roundw
              case rel => exact ⟨k + 1, by omega, by go_num, HZ.out, (HR.out.alloc _).alloc _, (HB.out.alloc HB.out.size _).alloc (by simp; have := HB.out.size; omega) _⟩
              case measure => simp [intOf]; omega
            · rw [e] at c0
              clear e
              go_wp2_with fail
              go_roundw
              case rel => exact ⟨k + 1, by omega, by go_num, HZ.out, (HR.out.alloc _).alloc _, (HB.out.alloc HB.out.size _).alloc (by simp; have := HB.out.size; omega) _⟩
              case measure => simp [intOf]; omega
          · have HZ := Lib.hid (show behB l n = false from beh_none (k := k + 1) (by rw [HX'.out]; simp; omega) (by omega))
            have e6 : 255 < x := by omega
            clear e5
            rcases hkk with e | e
            · rw [e] at c0
              clear e
              go_wp2_with fail
              go_ret
              exact ⟨by rw [HZ.out]; rfl, (HB.out.alloc HB.out.size _).alloc (by simp; have := HB.out.size; omega) _⟩
            · rw [e] at c0
              clear e
              go_wp2_with fail
              go_ret
              exact ⟨by rw [HZ.out]; rfl, (HB.out.alloc HB.out.size _).alloc (by simp; have := HB.out.size; omega) _⟩
        · have HZ := Lib.hid (show behB l n = false from beh_none (k := k + 1) (by rw [HX'.out]; simp [exy]) (by omega))
          have e6 : (x != y) = true := by simpa using exy
          have e7 : (x == y) = false := by simpa using exy
          have e8 : decide (x = y) = false := by simpa using exy
          rcases hkk with e | e
          · rw [e] at c0
            clear e
            go_wp2_with fail
            go_ret
            exact ⟨by rw [HZ.out]; rfl, (HB.out.alloc HB.out.size _).alloc (by simp; have := HB.out.size; omega) _⟩
          · rw [e] at c0
            clear e
            go_wp2_with fail
            go_ret
            exact ⟨by rw [HZ.out]; rfl, (HB.out.alloc HB.out.size _).alloc (by simp; have := HB.out.size; omega) _⟩
      · have HZ := Lib.hid (show behB l (k + 1) = true by rw [HX.out, HH.out, if_neg hkk]; rfl)
        have n15 : ¬ (l k).k = 15 := by omega
        have n16 : ¬ (l k).k = 16 := by omega
        have q1 : ((l k).k != 15) = true := by simpa using n15
        have q2 : ((l k).k != 16) = true := by simpa using n16
        have q3 : ((l k).k == 15) = false := by simpa using n15
        have q4 : ((l k).k == 16) = false := by simpa using n16
        have q5 : decide ((l k).k = 15) = false := by simpa using n15
        have q6 : decide ((l k).k = 16) = false := by simpa using n16
        clear hkk hp
        go_wp2_with fail
        go_roundw
        case rel => exact ⟨k + 1, by omega, by go_num, HZ.out, HR.out.alloc _, HB.out.alloc HB.out.size _⟩
        case measure => simp [intOf]; omega
    · obtain rfl : n = k := by omega
      go_wp2_with fail
      go_ret
      exact ⟨by rw [HH.out]; rfl, HB.out⟩
end Go.Proofs.YtkpijnodhlonfaaGreatDoor.Ast
