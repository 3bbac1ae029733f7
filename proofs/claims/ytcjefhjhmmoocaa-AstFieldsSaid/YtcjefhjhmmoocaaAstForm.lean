/-
  Layer 5: what the landed package ast tells of a tree's form: rightForm, rightShape, Deep.
-/
import Derived.Test.YtcjefhjhmmoocaaAstDep
namespace Go.Proofs.Ytcjefhjhmmoocaa
open Go.RowKit

/-- What is wrong with a tree's form: too many nodes, or none that stand in order. -/
def formZ (l : Nat → Nd) (n : Nat) : Int := if 500 < n then 4 else if goodB l n = true then 0 else 3
/-- The same, and too deep. -/
def shapeZ (l : Nat → Nd) (n : Nat) : Int := if formZ l n = 0 ∧ 40 < dep l n then 4 else formZ l n
def deepZ (l : Nat → Nd) (n : Nat) : Nat := if formZ l n = 0 then dep l n else 0
theorem form_0 {l : Nat → Nd} {n : Nat} (h : formZ l n = 0) : n ≤ 500 ∧ 0 < n ∧ siz l n = n := by
  unfold formZ at h
  split at h
  · omega
  · split at h
    · rename_i h1 h2
      unfold goodB at h2
      simp only [decide_eq_true_eq] at h2
      exact ⟨by omega, h2⟩
    · omega
theorem form_or (l : Nat → Nd) (n : Nat) : formZ l n = 0 ∨ formZ l n = 3 ∨ formZ l n = 4 := by
  unfold formZ; split
  · simp
  · split <;> simp

set_option maxHeartbeats 1000000 in
theorem rightForm_any (A : Option Addr) (n cap : Nat) (l : Nat → Nd) (w : World) (hn : n ≤ 1000000) (hl : Nodes w A n l) :
    Calls Try.prog 34 #[.agg #[.slice A n cap]] w fun e w' => e = .returned (.int .i64 (formZ l n)) ∧ Below w.heap.size w w' := by
  by_cases h : 500 < n
  · have HV := Lib.hid (show formZ l n = 4 by unfold formZ; rw [if_pos h])
    have hz : (500 : Int) < (n : Int) := by omega
    clear hl h
    go_enter Try.func34, Try.ntmps34
    go_wp2_with fail
    go_ret
    exact ⟨by rw [HV.out]; rfl, by go_grown⟩
  · have HV := Lib.hid (show formZ l n = if goodB l n = true then 0 else 3 by unfold formZ; rw [if_neg h])
    have hz : ¬ (500 : Int) < (n : Int) := by omega
    have HL := Lib.hid hl
    clear hl h
    go_enter Try.func34, Try.ntmps34
    go_wp2_with fail
    refine (begins_any A n cap l _ hn (HL.out.below (B := w.heap.size) (by go_grown) (Nat.le_refl _))).mono ?_
    rintro e w1 ⟨hb, h⟩
    have B1 := Lib.hid (thenB (B := w.heap.size) (w := w) (by go_grown) hb (by simp))
    clear hb
    rcases h with ⟨hg, rfl, -⟩ | ⟨hg, v, rfl⟩
    · have HV' := Lib.hid (show formZ l n = 0 by rw [HV.out, if_pos hg])
      clear hg HV
      go_wp2_with fail
      go_ret
      exact ⟨by rw [HV'.out]; rfl, B1.out⟩
    · have HV' := Lib.hid (show formZ l n = 3 by rw [HV.out, if_neg (by rw [hg]; decide)])
      clear hg HV
      go_wp2_with fail
      go_ret
      exact ⟨by rw [HV'.out]; rfl, B1.out⟩
/-- The tree's variable holds the slice. -/
def TreeBox (u : World) (g : Nat) (A : Option Addr) (n cap : Nat) : Prop := u.heap[g]? = some (.cells #[.slice A n cap] 24 (0, 0))
theorem TreeBox.new (u : World) (A : Option Addr) (n cap : Nat) : TreeBox (u.alloc (.cells #[.slice A n cap] 24)) u.heap.size A n cap := heap_alloc_new _ _
theorem TreeBox.lt {u : World} {g : Nat} {A : Option Addr} {n cap : Nat} (h : TreeBox u g A n cap) : g < u.heap.size := (Array.getElem?_eq_some_iff.1 h).1
theorem TreeBox.call {u v : World} {g : Nat} {A : Option Addr} {n cap : Nat} (h : TreeBox u g A n cap) (hb : Below u.heap.size u v) : TreeBox v g A n cap := (hb.block g h.lt).trans h
theorem TreeBox.cell {u : World} {g : Nat} {A : Option Addr} {n cap : Nat} (h : TreeBox u g A n cap) : u.cell? ⟨g, 0, none⟩ = some (.slice A n cap) := cell_of_one h

set_option maxHeartbeats 1000000 in
theorem rightShape_any (A : Option Addr) (n cap : Nat) (l : Nat → Nd) (w : World) (hn : n ≤ 1000000) (hl : Nodes w A n l) :
    Calls Try.prog 27 #[.agg #[.slice A n cap]] w fun e w' => e = .returned (.int .i64 (shapeZ l n)) ∧ Below w.heap.size w w' := by
  have HL := Lib.hid hl
  clear hl
  go_enter Try.func27, Try.ntmps27
  go_wp2_with fail
  refine (rightForm_any A n cap l _ hn (HL.out.below (B := w.heap.size) (by go_grown) (Nat.le_refl _))).mono ?_
  rintro e w1 ⟨rfl, hb⟩
  have T1 := Lib.hid ((TreeBox.new w A n cap).call hb)
  have B1 := Lib.hid (thenB (B := w.heap.size) (w := w) (by go_grown) hb (by simp))
  clear hb
  have c0 := T1.out.cell
  by_cases h0 : formZ l n = 0
  · obtain ⟨h5, hpos, hs⟩ := form_0 h0
    have HV := Lib.hid (show shapeZ l n = if 40 < dep l n then 4 else 0 by unfold shapeZ; rw [h0]; simp)
    have HS := Lib.hid hs
    rw [h0]
    clear h0 hs
    go_wp2_with fail
    refine (depth_any A n cap l _ hn hpos HS.out (HL.out.below B1.out (Nat.le_refl _))).mono ?_
    rintro e w2 ⟨rfl, hb⟩
    have B2 := Lib.hid (thenB B1.out hb B1.out.size)
    clear hb c0
    generalize dep l n = d at HV
    by_cases hd : 40 < d
    · rw [if_pos hd] at HV
      have hz : (40 : Int) < (d : Int) := by omega
      clear hd
      go_wp2_with fail
      go_ret
      exact ⟨by rw [HV.out]; rfl, B2.out⟩
    · rw [if_neg hd] at HV
      have hz : ¬ (40 : Int) < (d : Int) := by omega
      clear hd
      go_wp2_with fail
      go_ret
      exact ⟨by rw [HV.out]; rfl, B2.out⟩
  · have HV := Lib.hid (show shapeZ l n = formZ l n by unfold shapeZ; rw [if_neg (by omega)])
    have q : (formZ l n == 0) = false := by simpa using h0
    clear h0
    go_wp2_with fail
    go_ret
    exact ⟨by rw [HV.out]; rfl, B1.out⟩

set_option maxHeartbeats 1000000 in
theorem deep_any (A : Option Addr) (n cap : Nat) (l : Nat → Nd) (w : World) (hn : n ≤ 1000000) (hl : Nodes w A n l) :
    Calls Try.prog 15 #[.agg #[.slice A n cap]] w fun e w' => e = .returned (.int .i64 (deepZ l n : Nat)) ∧ Below w.heap.size w w' := by
  have HL := Lib.hid hl
  clear hl
  go_enter Try.func15, Try.ntmps15
  go_wp2_with fail
  refine (rightForm_any A n cap l _ hn (HL.out.below (B := w.heap.size) (by go_grown) (Nat.le_refl _))).mono ?_
  rintro e w1 ⟨rfl, hb⟩
  have T1 := Lib.hid ((TreeBox.new w A n cap).call hb)
  have B1 := Lib.hid (thenB (B := w.heap.size) (w := w) (by go_grown) hb (by simp))
  clear hb
  have c0 := T1.out.cell
  by_cases h0 : formZ l n = 0
  · obtain ⟨h5, hpos, hs⟩ := form_0 h0
    have HV := Lib.hid (show deepZ l n = dep l n by unfold deepZ; rw [if_pos h0])
    have HS := Lib.hid hs
    rw [h0]
    clear h0 hs
    go_wp2_with fail
    refine (depth_any A n cap l _ hn hpos HS.out (HL.out.below B1.out (Nat.le_refl _))).mono ?_
    rintro e w2 ⟨rfl, hb⟩
    have B2 := Lib.hid (thenB B1.out hb B1.out.size)
    clear hb c0
    go_wp2_with fail
    go_ret
    exact ⟨by rw [HV.out]; rfl, B2.out⟩
  · have HV := Lib.hid (show deepZ l n = 0 by unfold deepZ; rw [if_neg h0])
    have q : (formZ l n == 0) = false := by simpa using h0
    clear h0
    go_wp2_with fail
    go_ret
    exact ⟨by rw [HV.out]; rfl, B1.out⟩
end Go.Proofs.Ytcjefhjhmmoocaa
