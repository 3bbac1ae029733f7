/-
  Layer 5: what the document's own answers do: Deep, formed, Len.
-/
import Derived.Test.YtcjefhjhmmoocaaAstForm
import Derived.Test.YtcjefhjhmmoocaaAstRefA
import Derived.Test.YtcjefhjhmmoocaaAstRefC
import Derived.OwnWalk
namespace Go.Proofs.Ytcjefhjhmmoocaa
open Go.RowKit

theorem dep_pos (l : Nat → Nd) (j : Nat) : 0 < dep l (j + 1) := by
  rw [dep_succ]
  split
  · omega
  · split <;> omega
theorem deep_0 {l : Nat → Nd} {n : Nat} : deepZ l n = 0 ↔ formZ l n ≠ 0 := by
  unfold deepZ
  constructor
  · intro h h0
    rw [if_pos h0] at h
    obtain ⟨-, hp, -⟩ := form_0 h0
    have := dep_pos l (n - 1)
    rw [show n - 1 + 1 = n by omega] at this
    omega
  · intro h; rw [if_neg h]
theorem deep_le (l : Nat → Nd) (n : Nat) : deepZ l n ≤ n := by unfold deepZ; split; exact dep_le l n; omega
theorem Nodes.call {w u : World} {A : Option Addr} {n : Nat} {l : Nat → Nd} (h : Nodes w A n l) (hb : Below w.heap.size w u) : Nodes u A n l := h.below hb (Nat.le_refl _)

set_option maxHeartbeats 1000000 in
theorem rdeepZ_any (A : Option Addr) (n cap : Nat) (l : Nat → Nd) (w : World) (hn : n ≤ 1000000) (hl : Nodes w A n l) :
    Calls Try.prog 16 #[.slice A n cap] w fun e w' => e = .returned (.int .i64 (deepZ l n : Nat)) ∧ Below w.heap.size w w' := by
  have HL := Lib.hid hl
  clear hl
  by_cases h0 : n = 0
  · subst h0
    have HV := Lib.hid (show deepZ l 0 = 0 by unfold deepZ formZ goodB; simp)
    go_enter Try.func16, Try.ntmps16
    go_wp2_with fail
    go_ret
    exact ⟨by rw [HV.out]; rfl, Below.refl _ _⟩
  · by_cases h5 : 500 < n
    · have HV := Lib.hid (show deepZ l n = 0 by unfold deepZ formZ; rw [if_pos h5]; rfl)
      have hz : (500 : Int) < (n : Int) := by omega
      have q0 : ((n : Int) == 0) = false := by simp; omega
      clear h0 h5
      go_enter Try.func16, Try.ntmps16
      go_wp2_with fail
      go_ret
      exact ⟨by rw [HV.out]; rfl, Below.refl _ _⟩
    · have hz : ¬ (500 : Int) < (n : Int) := by omega
      have q0 : ((n : Int) == 0) = false := by simp; omega
      have n1 : (1 : Int) ≤ (n : Int) := by omega
      have HF := Lib.hid (show formZ l n = if goodB l n = true then 0 else 3 by unfold formZ; rw [if_neg h5])
      have H0 := Lib.hid h0
      clear h0 h5
      go_enter Try.func16, Try.ntmps16
      go_wp2_with fail
      (with_reducible refine (rsize_any A n cap l (by omega) n (Nat.le_refl _) ((n : Int) - 1) rfl _ HL.out).mono ?_)
      rintro e w1 ⟨rfl, hb⟩
      have B1 := Lib.hid hb
      clear hb
      by_cases hs : siz l n = n
      · have hg : formZ l n = 0 := by rw [HF.out, if_pos (by unfold goodB; simp; exact ⟨Nat.pos_of_ne_zero H0.out, hs⟩)]
        have HV := Lib.hid (show deepZ l n = dep l n by unfold deepZ; rw [if_pos hg])
        have HS := Lib.hid (show siz l n ≠ 0 by rw [hs]; exact H0.out)
        rw [hs]
        clear hs hg
        go_wp2_with fail
        (with_reducible refine (rdeep_any A n cap l (by omega) n (Nat.le_refl _) HS.out ((n : Int) - 1) rfl _ (HL.out.call B1.out)).mono ?_)
        rintro e w2 ⟨rfl, q, rfl⟩
        go_wp2_with fail
        go_ret
        exact ⟨by rw [HV.out]; rfl, below_drewN B1.out _⟩
      · have HV := Lib.hid (show deepZ l n = 0 by
          rw [deep_0, HF.out, if_neg (by unfold goodB; simp; intro _; exact hs)]; decide)
        have qs : ((siz l n : Int) == (n : Int)) = false := by simp; omega
        have qs' : (siz l n == n) = false := by simp; omega
        clear hs
        go_wp2_with fail
        go_ret
        exact ⟨by rw [HV.out]; rfl, B1.out⟩

set_option maxHeartbeats 1000000 in
theorem formed_any (A : Option Addr) (n cap : Nat) (l : Nat → Nd) (w : World) (hn : n ≤ 1000000) (hl : Nodes w A n l) :
    Calls Try.prog 29 #[.slice A n cap] w fun e w' => e = .returned (.int .i64 (shapeZ l n)) ∧ Below w.heap.size w w' := by
  have HL := Lib.hid hl
  clear hl
  by_cases h5 : 500 < n
  · have HV := Lib.hid (show shapeZ l n = 4 by unfold shapeZ formZ; rw [if_pos h5]; simp)
    have hz : (500 : Int) < (n : Int) := by omega
    clear h5
    go_enter Try.func29, Try.ntmps29
    go_wp2_with fail
    go_ret
    exact ⟨by rw [HV.out]; rfl, Below.refl _ _⟩
  · have hz : ¬ (500 : Int) < (n : Int) := by omega
    have HF := Lib.hid (show formZ l n = if goodB l n = true then 0 else 3 by unfold formZ; rw [if_neg h5])
    have HD := Lib.hid (@deep_0 l n)
    have HDV := Lib.hid (show formZ l n = 0 → deepZ l n = dep l n by intro h; unfold deepZ; rw [if_pos h])
    obtain ⟨d, hd⟩ : ∃ d, d = deepZ l n := ⟨_, rfl⟩
    have C := Lib.hid (show ∀ w, Nodes w A n l → Calls Try.prog 16 #[.slice A n cap] w fun e w' => e = .returned (.int .i64 (d : Nat)) ∧ Below w.heap.size w w' by
      intro w hw; rw [hd]; exact rdeepZ_any A n cap l w hn hw)
    rw [← hd] at HD HDV
    clear h5 hd
    by_cases h0 : d = 0
    · have hf := HD.out.1 h0
      have HV := Lib.hid (show shapeZ l n = 3 by
        unfold shapeZ
        rw [if_neg (by intro h; exact hf h.1)]
        have := HF.out
        split at this
        · exact absurd this hf
        · exact this)
      subst h0
      clear hf
      go_enter Try.func29, Try.ntmps29
      go_wp2_with fail
      refine (C.out _ HL.out).mono ?_
      rintro e w1 ⟨rfl, hb⟩
      have B1 := Lib.hid hb
      clear hb
      go_wp2_with fail
      go_ret
      exact ⟨by rw [HV.out]; rfl, B1.out⟩
    · have hf : formZ l n = 0 := by
        rcases Decidable.em (formZ l n = 0) with h | h
        · exact h
        · exact absurd (HD.out.2 h) h0
      have hdv := HDV.out hf
      have HV := Lib.hid (show shapeZ l n = if 40 < d then 4 else 0 by unfold shapeZ; rw [hf, ← hdv]; simp)
      have q0 : ((d : Int) == 0) = false := by simp; omega
      clear h0 hf hdv
      go_enter Try.func29, Try.ntmps29
      go_wp2_with fail
      refine (C.out _ HL.out).mono ?_
      rintro e w1 ⟨rfl, hb⟩
      have B1 := Lib.hid hb
      clear hb
      go_wp2_with fail
      refine (C.out _ (HL.out.call B1.out)).mono ?_
      rintro e w2 ⟨rfl, hb⟩
      have B2 := Lib.hid (thenB B1.out hb B1.out.size)
      clear hb
      by_cases h4 : 40 < d
      · rw [if_pos h4] at HV
        have hz : (40 : Int) < (d : Int) := by omega
        clear h4
        go_wp2_with fail
        go_ret
        exact ⟨by rw [HV.out]; rfl, B2.out⟩
      · rw [if_neg h4] at HV
        have hz : ¬ (40 : Int) < (d : Int) := by omega
        clear h4
        go_wp2_with fail
        go_ret
        exact ⟨by rw [HV.out]; rfl, B2.out⟩

theorem shape_0 {l : Nat → Nd} {n : Nat} (h : shapeZ l n = 0) : formZ l n = 0 ∧ dep l n ≤ 40 := by
  unfold shapeZ at h
  split at h
  · omega
  · rename_i h1
    refine ⟨h, ?_⟩
    rcases Nat.lt_or_ge 40 (dep l n) with h2 | h2
    · exact absurd ⟨h, h2⟩ h1
    · exact h2
/-- How many bytes the tree of node i has, or what is wrong. -/
def lenZ (l : Nat → Nd) (n : Nat) (i : Int) : Int × Int × Int := if shapeZ l n ≠ 0 then (0, 0, shapeZ l n) else if i < 0 ∨ (n : Int) ≤ i then (0, 0, 5) else ((len l (i.toNat + 1)).1, (len l (i.toNat + 1)).2, 0)
abbrev lenV (x : Int × Int × Int) : Value := .tuple #[.int .i64 x.1, .int .i64 x.2.1, .int .i64 x.2.2]
theorem ret_3 {a b c : Int} {x : Int × Int × Int} (h : x = (a, b, c)) : Ending.returned (.tuple #[.int .i64 a, .int .i64 b, .int .i64 c]) = .returned (lenV x) := by rw [h]

set_option maxHeartbeats 1000000 in
theorem rlenZ_any (A : Option Addr) (n cap : Nat) (l : Nat → Nd) (i : Int) (w : World) (hn : n ≤ 1000000) (hl : Nodes w A n l) :
    Calls Try.prog 12 #[.slice A n cap, .int .i64 i] w fun e w' => e = .returned (lenV (lenZ l n i)) ∧ Below w.heap.size w w' := by
  have HL := Lib.hid hl
  clear hl
  go_enter Try.func12, Try.ntmps12
  go_wp2_with fail
  refine (formed_any A n cap l _ hn HL.out).mono ?_
  rintro e w1 ⟨rfl, hb⟩
  have B1 := Lib.hid hb
  clear hb
  by_cases h0 : shapeZ l n = 0
  · have hF := form_0 (shape_0 h0).1
    rw [h0]
    by_cases hi : i < 0
    · have HV := Lib.hid (show lenZ l n i = (0, 0, 5) by unfold lenZ; rw [if_neg (by omega), if_pos (.inl hi)])
      clear h0 hF
      go_wp2_with fail
      go_ret3
      exact ⟨ret_3 HV.out, B1.out⟩
    · by_cases hj : (n : Int) ≤ i
      · have HV := Lib.hid (show lenZ l n i = (0, 0, 5) by unfold lenZ; rw [if_neg (by omega), if_pos (.inr hj)])
        clear h0 hF
        go_wp2_with fail
        go_ret3
        exact ⟨ret_3 HV.out, B1.out⟩
      · obtain ⟨m, rfl⟩ : ∃ m : Nat, i = (m : Int) := ⟨i.toNat, by omega⟩
        have hm : m < n := by omega
        have HV := Lib.hid (show lenZ l n m = ((len l (m + 1)).1, (len l (m + 1)).2, 0) by unfold lenZ; rw [if_neg (by omega), if_neg (by omega)]; simp)
        have HS := Lib.hid (siz_of_whole hF.2.2 hm)
        have hj' : ¬ n ≤ m := by omega
        clear h0 hF
        go_wp2_with fail
        (with_reducible refine (rlens_any A n cap l (by omega) (m + 1) (by omega) HS.out (m : Int) (by omega) _ (HL.out.call B1.out)).mono ?_)
        rintro e w2 ⟨rfl, hb⟩
        have B2 := Lib.hid (thenB B1.out hb B1.out.size)
        clear hb
        go_wp2_with fail
        go_ret3
        exact ⟨ret_3 HV.out, B2.out⟩
  · have HV := Lib.hid (show lenZ l n i = (0, 0, shapeZ l n) by unfold lenZ; rw [if_pos h0])
    have q : (shapeZ l n == 0) = false := by simpa using h0
    clear h0
    go_wp2_with fail
    go_ret3
    exact ⟨ret_3 HV.out, B1.out⟩
end Go.Proofs.Ytcjefhjhmmoocaa
