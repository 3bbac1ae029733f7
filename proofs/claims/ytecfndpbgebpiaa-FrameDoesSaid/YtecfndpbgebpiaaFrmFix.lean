/-
  Layer 12: the calls whose answers the document fixes.
-/
import Derived.Test.YtecfndpbgebpiaaFrmRefP
namespace Go.Proofs.Ytecfndpbgebpiaa
open Go.RowKit
open Go.Maps (Keyed IsMap Tidy)

theorem i64c {a : Fr} (h : -100000 ≤ a.k ∧ a.k ≤ 100000 ∧ -100000 ≤ a.n ∧ a.n ≤ 100000 ∧ -100000 ≤ a.t ∧ a.t ≤ 100000 ∧ -100000 ≤ a.f ∧ a.f ≤ 100000 ∧ -100000 ≤ a.x ∧ a.x ≤ 100000) : a.i64 := by
  unfold Fr.i64 I64
  omega
theorem ButS.below {p b m : Nat} {B : Nat} {w0 w w' : World} (h : ButS p b m w w') (h0 : Below B w0 w) (hB : B ≤ w.heap.size) (hp : B ≤ p) (hb : B ≤ b) (hm : B ≤ m) : Below B w0 w' :=
  h0.trans ⟨h.low.os, h.low.tape, h.low.output, h.low.size, fun j hj => h.keep j (by omega) (by omega) (by omega) (by omega)⟩
theorem ButS.size {p b m : Nat} {w w' : World} (h : ButS p b m w w') : w.heap.size ≤ w'.heap.size := h.low.size

structure StopS (p : Prop) : Prop where
  out : p
theorem ldFr_run {w : World} {g : Nat} {f : Fr} (h : BoxV 33 w g (frC f)) : (Instr.loadAt 33 (ptr g)).run Try.prog w = .ok (.agg (frC f)) w := by
  simp only [Instr.loadAt, Instr.sureAddr, Sem.run_bind, Sem.run_pure, Result.andThen_ok, run_loadVar_row w g _ _ _ _ _ h Try.underlying33 rfl sizeFr]

set_option maxRecDepth 100000 in
set_option maxHeartbeats 16000000 in
theorem fixed_any (w : World) : Calls Try.prog 18 #[] w fun e w' => e = .returned (.bool true) ∧ Below w.heap.size w w' := by
  go_enter Try.func18, Try.ntmps18
  go_wp2_with fail
  refine (new_any 2 w).mono ?_
  rintro e w0 ⟨hB, ⟨-, -, p, b0, m, rfl, hp, hb, hm, hst⟩ | ⟨h, -⟩⟩
  case inr => omega
  have H0 := Lib.hid hst
  have B0 := Lib.hid hB
  have PM := Lib.hid (And.intro hp hm)
  have Q0 := Lib.hid (And.intro hb hB.size)
  clear hB hst hp hb hm
  go_wp2_with fail
  refine (new_any (-1) w0).mono ?_
  rintro e w1 ⟨hB, ⟨h, -, -⟩ | ⟨-, rfl⟩⟩
  case inl => omega
  have H1 := Lib.hid (H0.out.below hB (Nat.le_refl _))
  have B1 := Lib.hid (thenB B0.out hB Q0.out.2)
  have Q1 := Lib.hid (And.intro Q0.out.1 (Nat.le_trans Q0.out.2 hB.size))
  clear hB H0 B0 Q0
  go_wp2_with fail
  refine (put_any p b0 m 2 [(zF, 0)] ⟨1, 3, 0, 0, 0⟩ w1 H1.out (i64c (by decide)) (by decide)).mono ?_
  rintro e w2 ⟨rfl, b1, hst, hbb, hbs⟩
  have ev : putF 2 [(zF, 0)] ⟨1, 3, 0, 0, 0⟩ = ([(zF, 0), (⟨1, 3, 0, 0, 0⟩, 1)], 1, 0) := by decide
  rw [ev] at hst ⊢
  have H2 := Lib.hid hst
  have B2 := Lib.hid (hbs.below B1.out Q1.out.2 PM.out.1 Q1.out.1 PM.out.2)
  have Q2 := Lib.hid (show w.heap.size ≤ b1 ∧ w.heap.size ≤ w2.heap.size by
    have h1 := Q1.out
    have h2 := hbs.size
    refine ⟨?_, by omega⟩
    rcases hbb with e | e <;> omega)
  clear hst hbb hbs ev H1 B1 Q1
  go_wp2_with fail
  refine (put_any p b1 m 2 [(zF, 0), (⟨1, 3, 0, 0, 0⟩, 1)] ⟨3, 4, 0, 2, 1⟩ w2 H2.out (i64c (by decide)) (by decide)).mono ?_
  rintro e w3 ⟨rfl, b2, hst, hbb, hbs⟩
  have ev : putF 2 [(zF, 0), (⟨1, 3, 0, 0, 0⟩, 1)] ⟨3, 4, 0, 2, 1⟩ = ([(zF, 0), (⟨1, 3, 0, 0, 0⟩, 1), (⟨3, 4, 0, 2, 1⟩, 2)], 2, 0) := by decide
  rw [ev] at hst ⊢
  have H3 := Lib.hid hst
  have B3 := Lib.hid (hbs.below B2.out Q2.out.2 PM.out.1 Q2.out.1 PM.out.2)
  have Q3 := Lib.hid (show w.heap.size ≤ b2 ∧ w.heap.size ≤ w3.heap.size by
    have h1 := Q2.out
    have h2 := hbs.size
    refine ⟨?_, by omega⟩
    rcases hbb with e | e <;> omega)
  clear hst hbb hbs ev H2 B2 Q2
  go_wp2_with fail
  refine (put_any p b2 m 2 [(zF, 0), (⟨1, 3, 0, 0, 0⟩, 1), (⟨3, 4, 0, 2, 1⟩, 2)] ⟨1, 3, 0, 0, 0⟩ w3 H3.out (i64c (by decide)) (by decide)).mono ?_
  rintro e w4 ⟨rfl, b3, hst, hbb, hbs⟩
  have ev : putF 2 [(zF, 0), (⟨1, 3, 0, 0, 0⟩, 1), (⟨3, 4, 0, 2, 1⟩, 2)] ⟨1, 3, 0, 0, 0⟩ = ([(zF, 0), (⟨1, 3, 0, 0, 0⟩, 1), (⟨3, 4, 0, 2, 1⟩, 2)], 1, 0) := by decide
  rw [ev] at hst ⊢
  have H4 := Lib.hid hst
  have B4 := Lib.hid (hbs.below B3.out Q3.out.2 PM.out.1 Q3.out.1 PM.out.2)
  have Q4 := Lib.hid (show w.heap.size ≤ b3 ∧ w.heap.size ≤ w4.heap.size by
    have h1 := Q3.out
    have h2 := hbs.size
    refine ⟨?_, by omega⟩
    rcases hbb with e | e <;> omega)
  clear hst hbb hbs ev H3 B3 Q3
  go_wp2_with fail
  refine (put_any p b3 m 2 [(zF, 0), (⟨1, 3, 0, 0, 0⟩, 1), (⟨3, 4, 0, 2, 1⟩, 2)] ⟨1, 5, 0, 0, 0⟩ w4 H4.out (i64c (by decide)) (by decide)).mono ?_
  rintro e w5 ⟨rfl, b4, hst, hbb, hbs⟩
  have ev : putF 2 [(zF, 0), (⟨1, 3, 0, 0, 0⟩, 1), (⟨3, 4, 0, 2, 1⟩, 2)] ⟨1, 5, 0, 0, 0⟩ = ([(zF, 0), (⟨1, 3, 0, 0, 0⟩, 1), (⟨3, 4, 0, 2, 1⟩, 2)], 0, 4) := by decide
  rw [ev] at hst ⊢
  have H5 := Lib.hid hst
  have B5 := Lib.hid (hbs.below B4.out Q4.out.2 PM.out.1 Q4.out.1 PM.out.2)
  have Q5 := Lib.hid (show w.heap.size ≤ b4 ∧ w.heap.size ≤ w5.heap.size by
    have h1 := Q4.out
    have h2 := hbs.size
    refine ⟨?_, by omega⟩
    rcases hbb with e | e <;> omega)
  clear hst hbb hbs ev H4 B4 Q4
  go_wp2_with fail
  refine (put_any p b4 m 2 [(zF, 0), (⟨1, 3, 0, 0, 0⟩, 1), (⟨3, 4, 0, 2, 1⟩, 2)] ⟨1, 0, 0, 0, 3⟩ w5 H5.out (i64c (by decide)) (by decide)).mono ?_
  rintro e w6 ⟨rfl, b5, hst, hbb, hbs⟩
  have ev : putF 2 [(zF, 0), (⟨1, 3, 0, 0, 0⟩, 1), (⟨3, 4, 0, 2, 1⟩, 2)] ⟨1, 0, 0, 0, 3⟩ = ([(zF, 0), (⟨1, 3, 0, 0, 0⟩, 1), (⟨3, 4, 0, 2, 1⟩, 2)], 0, 1) := by decide
  rw [ev] at hst ⊢
  have H6 := Lib.hid hst
  have B6 := Lib.hid (hbs.below B5.out Q5.out.2 PM.out.1 Q5.out.1 PM.out.2)
  have Q6 := Lib.hid (show w.heap.size ≤ b5 ∧ w.heap.size ≤ w6.heap.size by
    have h1 := Q5.out
    have h2 := hbs.size
    refine ⟨?_, by omega⟩
    rcases hbb with e | e <;> omega)
  clear hst hbb hbs ev H5 B5 Q5
  go_wp2_with fail
  refine (put_any p b5 m 2 [(zF, 0), (⟨1, 3, 0, 0, 0⟩, 1), (⟨3, 4, 0, 2, 1⟩, 2)] ⟨0, 0, 0, 0, 0⟩ w6 H6.out (i64c (by decide)) (by decide)).mono ?_
  rintro e w7 ⟨rfl, b6, hst, hbb, hbs⟩
  have ev : putF 2 [(zF, 0), (⟨1, 3, 0, 0, 0⟩, 1), (⟨3, 4, 0, 2, 1⟩, 2)] ⟨0, 0, 0, 0, 0⟩ = ([(zF, 0), (⟨1, 3, 0, 0, 0⟩, 1), (⟨3, 4, 0, 2, 1⟩, 2)], 0, 1) := by decide
  rw [ev] at hst ⊢
  have H7 := Lib.hid hst
  have B7 := Lib.hid (hbs.below B6.out Q6.out.2 PM.out.1 Q6.out.1 PM.out.2)
  have Q7 := Lib.hid (show w.heap.size ≤ b6 ∧ w.heap.size ≤ w7.heap.size by
    have h1 := Q6.out
    have h2 := hbs.size
    refine ⟨?_, by omega⟩
    rcases hbb with e | e <;> omega)
  clear hst hbb hbs ev H6 B6 Q6
  go_wp2_with fail
  refine (get_any p b6 m 2 [(zF, 0), (⟨1, 3, 0, 0, 0⟩, 1), (⟨3, 4, 0, 2, 1⟩, 2)] 2 w7 H7.out).mono ?_
  rintro e v8 ⟨rfl, hB⟩
  rw [show getF [(zF, 0), (⟨1, 3, 0, 0, 0⟩, 1), (⟨3, 4, 0, 2, 1⟩, 2)] 2 = ⟨3, 4, 0, 2, 1⟩ from by decide, show decide ((0 : Int) ≤ 2 ∧ (2 : Int) < (([(zF, 0), (⟨1, 3, 0, 0, 0⟩, 1), (⟨3, 4, 0, 2, 1⟩, 2)] : List Pl).length : Nat)) = true from by decide]
  obtain ⟨w8, hu⟩ : ∃ u, v8.alloc (.cells (frC ⟨3, 4, 0, 2, 1⟩) 33) = u := ⟨_, rfl⟩
  obtain ⟨g8, hg⟩ : ∃ g, v8.heap.size = g := ⟨_, rfl⟩
  have hBu : Below w7.heap.size w7 w8 := hu ▸ hB.alloc hB.size _
  have hsu : w8.heap.size = g8 + 1 := by rw [← hu, ← hg]; simp
  have X8 := Lib.hid (show BoxV 33 w8 g8 (frC ⟨3, 4, 0, 2, 1⟩) from hg ▸ hu ▸ BoxV.new v8 _)
  have H8 := Lib.hid (H7.out.below hBu (Nat.le_refl _))
  have B8 := Lib.hid (thenB B7.out hBu Q7.out.2)
  have Q8 := Lib.hid (show w.heap.size ≤ b6 ∧ w.heap.size ≤ w8.heap.size from ⟨Q7.out.1, Nat.le_trans Q7.out.2 hBu.size⟩)
  have HE := Lib.hid hu
  clear hB hBu hsu hu H7 B7 Q7
  go_wp2_with fail
  rw [show v8.alloc (.cells #[.int .i64 3, .int .i64 4, .int .i64 0, .int .i64 2, .int .i64 1] 33) = w8 from HE.out]
  clear HE
  refine (get_any p b6 m 2 [(zF, 0), (⟨1, 3, 0, 0, 0⟩, 1), (⟨3, 4, 0, 2, 1⟩, 2)] 0 w8 H8.out).mono ?_
  rintro e v9 ⟨rfl, hB⟩
  rw [show getF [(zF, 0), (⟨1, 3, 0, 0, 0⟩, 1), (⟨3, 4, 0, 2, 1⟩, 2)] 0 = ⟨0, 0, 0, 0, 0⟩ from by decide, show decide ((0 : Int) ≤ 0 ∧ (0 : Int) < (([(zF, 0), (⟨1, 3, 0, 0, 0⟩, 1), (⟨3, 4, 0, 2, 1⟩, 2)] : List Pl).length : Nat)) = true from by decide]
  obtain ⟨w9, hu⟩ : ∃ u, v9.alloc (.cells (frC ⟨0, 0, 0, 0, 0⟩) 33) = u := ⟨_, rfl⟩
  obtain ⟨g9, hg⟩ : ∃ g, v9.heap.size = g := ⟨_, rfl⟩
  have hBu : Below w8.heap.size w8 w9 := hu ▸ hB.alloc hB.size _
  have hsu : w9.heap.size = g9 + 1 := by rw [← hu, ← hg]; simp
  have X9 := Lib.hid (show BoxV 33 w9 g9 (frC ⟨0, 0, 0, 0, 0⟩) from hg ▸ hu ▸ BoxV.new v9 _)
  have X8' := Lib.hid (X8.out.below hBu X8.out.lt)
  clear X8
  have X8 := Lib.hid X8'.out
  clear X8'
  have H9 := Lib.hid (H8.out.below hBu (Nat.le_refl _))
  have B9 := Lib.hid (thenB B8.out hBu Q8.out.2)
  have Q9 := Lib.hid (show w.heap.size ≤ b6 ∧ w.heap.size ≤ w9.heap.size from ⟨Q8.out.1, Nat.le_trans Q8.out.2 hBu.size⟩)
  have HE := Lib.hid hu
  clear hB hBu hsu hu H8 B8 Q8
  go_wp2_with fail
  rw [show v9.alloc (.cells #[.int .i64 0, .int .i64 0, .int .i64 0, .int .i64 0, .int .i64 0] 33) = w9 from HE.out]
  clear HE
  refine (get_any p b6 m 2 [(zF, 0), (⟨1, 3, 0, 0, 0⟩, 1), (⟨3, 4, 0, 2, 1⟩, 2)] 3 w9 H9.out).mono ?_
  rintro e v10 ⟨rfl, hB⟩
  rw [show getF [(zF, 0), (⟨1, 3, 0, 0, 0⟩, 1), (⟨3, 4, 0, 2, 1⟩, 2)] 3 = ⟨0, 0, 0, 0, 0⟩ from by decide, show decide ((0 : Int) ≤ 3 ∧ (3 : Int) < (([(zF, 0), (⟨1, 3, 0, 0, 0⟩, 1), (⟨3, 4, 0, 2, 1⟩, 2)] : List Pl).length : Nat)) = false from by decide]
  have hBu : Below w9.heap.size w9 (v10.alloc (.cells #[.int .i64 0, .int .i64 0, .int .i64 0, .int .i64 0, .int .i64 0] 33)) := hB.alloc hB.size _
  have X8' := X8.out.below hBu X8.out.lt
  have X9' := X9.out.below hBu X9.out.lt
  have c80 := X8'.get 0 rfl
  have c81 := X8'.get 1 rfl
  have c82 := X8'.get 2 rfl
  have c83 := X8'.get 3 rfl
  have c84 := X8'.get 4 rfl
  have c90 := X9'.get 0 rfl
  have c91 := X9'.get 1 rfl
  have c92 := X9'.get 2 rfl
  have c93 := X9'.get 3 rfl
  have c94 := X9'.get 4 rfl
  have H10 := Lib.hid (H9.out.below hBu (Nat.le_refl _))
  have B10 := Lib.hid (thenB B9.out hBu Q9.out.2)
  have Q10 := Lib.hid (show w.heap.size ≤ (v10.alloc (.cells #[.int .i64 0, .int .i64 0, .int .i64 0, .int .i64 0, .int .i64 0] 33)).heap.size from Nat.le_trans Q9.out.2 hBu.size)
  clear hB hBu X8 X9 X8' X9' H9 B9 Q9
  go_wp2_with fail
  refine (len_any p b6 m 2 [(zF, 0), (⟨1, 3, 0, 0, 0⟩, 1), (⟨3, 4, 0, 2, 1⟩, 2)] _ H10.out).mono ?_
  rintro e w11 ⟨rfl, hB⟩
  rw [show ((([(zF, 0), (⟨1, 3, 0, 0, 0⟩, 1), (⟨3, 4, 0, 2, 1⟩, 2)] : List Pl).length : Nat) : Int) - 1 = 2 from by decide]
  have H11 := Lib.hid (H10.out.below hB (Nat.le_refl _))
  have B11 := Lib.hid (thenB B10.out hB Q10.out)
  have Q11 := Lib.hid (Nat.le_trans Q10.out hB.size)
  clear hB H10 B10 Q10 c80 c81 c82 c83 c84 c90 c91 c92 c93 c94
  go_wp2_with fail
  refine (deep_any p b6 m 2 [(zF, 0), (⟨1, 3, 0, 0, 0⟩, 1), (⟨3, 4, 0, 2, 1⟩, 2)] 2 w11 H11.out).mono ?_
  rintro e w12 ⟨rfl, hB⟩
  rw [show ((dpF [(zF, 0), (⟨1, 3, 0, 0, 0⟩, 1), (⟨3, 4, 0, 2, 1⟩, 2)] 2 : Nat) : Int) = 2 from by decide]
  have H12 := Lib.hid (H11.out.below hB (Nat.le_refl _))
  have B12 := Lib.hid (thenB B11.out hB Q11.out)
  have Q12 := Lib.hid (Nat.le_trans Q11.out hB.size)
  clear hB H11 B11 Q11
  go_wp2_with fail
  refine (deep_any p b6 m 2 [(zF, 0), (⟨1, 3, 0, 0, 0⟩, 1), (⟨3, 4, 0, 2, 1⟩, 2)] 0 w12 H12.out).mono ?_
  rintro e w13 ⟨rfl, hB⟩
  rw [show ((dpF [(zF, 0), (⟨1, 3, 0, 0, 0⟩, 1), (⟨3, 4, 0, 2, 1⟩, 2)] 0 : Nat) : Int) = 0 from by decide]
  have H13 := Lib.hid (H12.out.below hB (Nat.le_refl _))
  have B13 := Lib.hid (thenB B12.out hB Q12.out)
  have Q13 := Lib.hid (Nat.le_trans Q12.out hB.size)
  clear hB H12 B12 Q12
  go_wp2_with fail
  refine (deep_any p b6 m 2 [(zF, 0), (⟨1, 3, 0, 0, 0⟩, 1), (⟨3, 4, 0, 2, 1⟩, 2)] 9 w13 H13.out).mono ?_
  rintro e w14 ⟨rfl, hB⟩
  rw [show ((dpF [(zF, 0), (⟨1, 3, 0, 0, 0⟩, 1), (⟨3, 4, 0, 2, 1⟩, 2)] 9 : Nat) : Int) = 0 from by decide]
  have H14 := Lib.hid (H13.out.below hB (Nat.le_refl _))
  have B14 := Lib.hid (thenB B13.out hB Q13.out)
  have Q14 := Lib.hid (Nat.le_trans Q13.out hB.size)
  clear hB H13 B13 Q13
  go_wp2_with fail
  go_ret
  exact ⟨rfl, B14.out⟩
end Go.Proofs.Ytecfndpbgebpiaa
