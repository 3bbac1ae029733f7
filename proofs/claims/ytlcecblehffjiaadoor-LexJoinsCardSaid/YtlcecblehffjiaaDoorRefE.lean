/-
  What the statement's own Words does: the four words of 256 bools.
-/
import Derived.Test.YtlcecblehffjiaaDoorRefD
namespace Go.Proofs.YtlcecblehffjiaaDoor
open Go.RowKit

/-- Word number j, when the bytes from m on have been gone through. -/
def wAt (S : BitVec 256) (j m : Nat) : Nat := W S j / 2 ^ (m - 64 * j)
theorem wAt_zero (S : BitVec 256) (j : Nat) : wAt S j 0 = W S j := by simp [wAt]
theorem wAt_end (S : BitVec 256) (j m : Nat) (h : 64 * (j + 1) ≤ m) : wAt S j m = 0 := by
  unfold wAt
  apply Nat.div_eq_of_lt
  have h1 := W_lt S j
  have h2 : 2 ^ 64 ≤ 2 ^ (m - 64 * j) := Nat.pow_le_pow_right (by decide) (by omega)
  have h3 : (2 : Nat) ^ 64 = 18446744073709551616 := by decide
  omega
theorem wAt_other (S : BitVec 256) (j i : Nat) (h : i / 64 ≠ j) : wAt S j (i + 1) = wAt S j i := by
  by_cases hlt : j < i / 64
  · rw [wAt_end S j (i + 1) (by omega), wAt_end S j i (by omega)]
  · unfold wAt
    rw [show i + 1 - 64 * j = 0 by omega, show i - 64 * j = 0 by omega]
theorem wAt_step (S : BitVec 256) (q i : Nat) (h : i / 64 = q) : wAt S q i = wAt S q (i + 1) * 2 + (mem S i).toNat := by
  unfold wAt
  have e : i + 1 - 64 * q = (i - 64 * q) + 1 := by omega
  rw [e, Nat.pow_succ, ← Nat.div_div_eq_div_mul]
  have hb : mem S i = decide (W S q / 2 ^ (i - 64 * q) % 2 = 1) := by
    have h2 := bit_W S i
    rw [h, Nat.testBit_eq_decide_div_mod_eq, show i % 64 = i - 64 * q by omega] at h2
    exact h2.symm
  rw [hb]
  generalize W S q / 2 ^ (i - 64 * q) = x
  rcases Nat.mod_two_eq_zero_or_one x with hx | hx <;> simp [hx] <;> omega
theorem wAt_lt (S : BitVec 256) (q i : Nat) (h : i / 64 = q) : wAt S q (i + 1) < 9223372036854775808 := by
  have h1 := wAt_step S q i h
  have h2 : wAt S q i ≤ W S q := Nat.div_le_self _ _
  have h3 := W_lt S q
  omega
theorem wAt_no (S : BitVec 256) (q i : Nat) (h : i / 64 = q) (hm : mem S i = false) : IntKind.u64.wrap ((wAt S q (i + 1) : Int) * 2) = (wAt S q i : Int) := by
  have h1 := wAt_step S q i h
  have h2 := wAt_lt S q i h
  rw [hm] at h1
  rw [IntKind.wrap_u64]
  simp at h1
  omega
theorem wAt_yes (S : BitVec 256) (q i : Nat) (h : i / 64 = q) (hm : mem S i = true) : IntKind.u64.wrap (IntKind.u64.wrap ((wAt S q (i + 1) : Int) * 2) + 1) = (wAt S q i : Int) := by
  have h1 := wAt_step S q i h
  have h2 := wAt_lt S q i h
  rw [hm] at h1
  rw [IntKind.wrap_u64, IntKind.wrap_u64]
  simp at h1
  omega

/-- Four numbers in a block of the array's own type. -/
def BoxZ (w : World) (g : Nat) (a b c d : Int) : Prop := w.heap[g]? = some (.cells #[.int .u64 a, .int .u64 b, .int .u64 c, .int .u64 d] 34 (0, 0))
theorem BoxZ.set0 {w : World} {g : Nat} {a b c d : Int} (h : BoxZ w g a b c d) (x : Int) : BoxZ (w.setCell ⟨g, 0, none⟩ (.int .u64 x)) g x b c d := by
  unfold BoxZ at h ⊢; rw [heap_setCell_same w g 0 _ _ _ h]; rfl
theorem BoxZ.set1 {w : World} {g : Nat} {a b c d : Int} (h : BoxZ w g a b c d) (x : Int) : BoxZ (w.setCell ⟨g, 1, none⟩ (.int .u64 x)) g a x c d := by
  unfold BoxZ at h ⊢; rw [heap_setCell_same w g 1 _ _ _ h]; rfl
theorem BoxZ.set2 {w : World} {g : Nat} {a b c d : Int} (h : BoxZ w g a b c d) (x : Int) : BoxZ (w.setCell ⟨g, 2, none⟩ (.int .u64 x)) g a b x d := by
  unfold BoxZ at h ⊢; rw [heap_setCell_same w g 2 _ _ _ h]; rfl
theorem BoxZ.set3 {w : World} {g : Nat} {a b c d : Int} (h : BoxZ w g a b c d) (x : Int) : BoxZ (w.setCell ⟨g, 3, none⟩ (.int .u64 x)) g a b c x := by
  unfold BoxZ at h ⊢; rw [heap_setCell_same w g 3 _ _ _ h]; rfl
theorem sizeArr : (Tryd.prog.info? 34).map (·.size) = some 4 := by kernel_rfl
theorem BoxZ.results {fn : Func} {p : Tmp} (h : fn.results = #[.cell p 34]) (tmps : Array Value) {w : World} {g : Nat} {a b c d : Int} (hp : tmps.getD p undef = .pointer (some ⟨g, 0, none⟩)) (hg : BoxZ w g a b c d) :
    (results fn tmps).run Tryd.prog w = .ok (.agg #[.int .u64 a, .int .u64 b, .int .u64 c, .int .u64 d]) w :=
  results_cell_row h tmps w g _ _ _ _ hp hg Tryd.underlying34 rfl sizeArr
theorem BoxZ.all {w : World} {g : Nat} {a b c d : Int} (h : BoxZ w g a b c d) (a' b' c' d' : Int) : BoxZ ((((w.setCell ⟨g, 0, none⟩ (.int .u64 a')).setCell ⟨g, 1, none⟩ (.int .u64 b')).setCell ⟨g, 2, none⟩ (.int .u64 c')).setCell ⟨g, 3, none⟩ (.int .u64 d')) g a' b' c' d' := (((h.set0 a').set1 b').set2 c').set3 d'

set_option maxHeartbeats 4000000 in
set_option maxRecDepth 100000 in
theorem rwords_any (S : BitVec 256) (w : World) :
    Calls Tryd.prog 38 #[.agg (bitsA S)] w fun e w' => e = .returned (setV S) ∧ Below w.heap.size w w' := by
  go_enter Tryd.func38, Tryd.ntmps38
  go_wp2
  go_loopw [4] (fun v wr => ∃ (m : Nat) (x : Int), v = .int .i64 x ∧ x + 1 = m ∧ m ≤ 256 ∧ BoxA wr w.heap.size S ∧ BoxZ wr (w.heap.size + 1) 0 0 0 0 ∧ BoxZ wr (w.heap.size + 2) (wAt S 0 m) (wAt S 1 m) (wAt S 2 m) (wAt S 3 m) ∧ Below w.heap.size w wr) (fun v _ => (intOf v + 1).toNat)
  case atStart =>
    refine ⟨256, 255, rfl, by omega, by omega, ((BoxA.new w S).alloc _).alloc _, ?_, ?_, by go_grown⟩
    · exact (Below.heap_alloc _ _ _ (by simp)).trans (heap_alloc2_new _ _ _)
    · rw [wAt_end S 0 256 (by omega), wAt_end S 1 256 (by omega), wAt_end S 2 256 (by omega), wAt_end S 3 256 (by omega)]
      have h := heap_alloc_new ((w.alloc (.cells (bitsA S) 68)).alloc (.cells #[.int .u64 0, .int .u64 0, .int .u64 0, .int .u64 0] 34)) (.cells #[.int .u64 0, .int .u64 0, .int .u64 0, .int .u64 0] 34)
      simpa [BoxZ] using h
  case round =>
    obtain ⟨m, x, rfl, hx, hm, hs, hz, hf, hbel⟩ := hrel
    have HS := Lib.hid hs
    have HZ := Lib.hid hz
    have HF := Lib.hid hf
    have HB := Lib.hid hbel
    by_cases h0 : m = 0
    · subst h0
      obtain rfl : x = -1 := by omega
      have e0 := wAt_zero S 0
      have e1 := wAt_zero S 1
      have e2 := wAt_zero S 2
      have e3 := wAt_zero S 3
      rw [e0, e1, e2, e3] at hf
      obtain ⟨c0, c1, c2, c3⟩ := BoxW.cells hf
      obtain ⟨d0, d1, d2, d3⟩ := BoxW.cells (a := 0) (b := 0) (c := 0) (d := 0) hz
      have f := BoxW.free (a := 0) (b := 0) (c := 0) (d := 0) hz
      clear hs hz hf hbel e0 e1 e2 e3 hx
      go_wp2
      exact bodyPost_ret (BoxZ.results rfl _ (g := w.heap.size + 1) rfl (HZ.out.all _ _ _ _)) rfl ⟨rfl, (((HB.out.setCell (by simp <;> omega) _).setCell (by simp <;> omega) _).setCell (by simp <;> omega) _).setCell (by simp <;> omega) _⟩
    · obtain ⟨i, rfl⟩ : ∃ i, m = i + 1 := ⟨m - 1, by omega⟩
      obtain rfl : x = (i : Int) := by omega
      have i0 : (0 : Int) ≤ i := by omega
      have i1 : (i : Int) < 256 := by omega
      have hlt : i < 256 := by omega
      have hc := hs.cell i hlt
      obtain ⟨c0, c1, c2, c3⟩ := BoxW.cells hf
      have f := BoxW.free hf
      clear hs hz hf hbel hx h0
      rcases (show i / 64 = 0 ∨ i / 64 = 1 ∨ i / 64 = 2 ∨ i / 64 = 3 by omega) with hq | hq | hq | hq
      · have hqi : (i : Int) / 64 = 0 := by omega
        have O1 := Lib.hid (wAt_other S 1 i (by omega))
        have O2 := Lib.hid (wAt_other S 2 i (by omega))
        have O3 := Lib.hid (wAt_other S 3 i (by omega))
        cases hm2 : mem S i
        · rw [hm2] at hc
          have HE := Lib.hid (wAt_no S 0 i hq hm2)
          clear hm2 hq
          go_wp2
          go_roundw
          case rel => exact ⟨i, (i : Int) - 1, rfl, by omega, by omega, HS.out.other _ (by simp <;> omega), (heap_setCell_other _ _ _ _ (by simp <;> omega)).trans HZ.out, by rw [← HE.out, ← O1.out, ← O2.out, ← O3.out]; exact HF.out.set0 _, HB.out.setCell (by simp <;> omega) _⟩
          case measure => simp [intOf]
        · rw [hm2] at hc
          have HE := Lib.hid (wAt_yes S 0 i hq hm2)
          clear hm2 hq
          go_wp2
          go_roundw
          case rel => exact ⟨i, (i : Int) - 1, rfl, by omega, by omega, (HS.out.other _ (by simp <;> omega)).other _ (by simp <;> omega), (heap_setCell_other _ _ _ _ (by simp <;> omega)).trans ((heap_setCell_other _ _ _ _ (by simp <;> omega)).trans HZ.out), by rw [← HE.out, ← O1.out, ← O2.out, ← O3.out]; exact (HF.out.set0 _).set0 _, (HB.out.setCell (by simp <;> omega) _).setCell (by simp <;> omega) _⟩
          case measure => simp [intOf]
      · have hqi : (i : Int) / 64 = 1 := by omega
        have O0 := Lib.hid (wAt_other S 0 i (by omega))
        have O2 := Lib.hid (wAt_other S 2 i (by omega))
        have O3 := Lib.hid (wAt_other S 3 i (by omega))
        cases hm2 : mem S i
        · rw [hm2] at hc
          have HE := Lib.hid (wAt_no S 1 i hq hm2)
          clear hm2 hq
          go_wp2
          go_roundw
          case rel => exact ⟨i, (i : Int) - 1, rfl, by omega, by omega, HS.out.other _ (by simp <;> omega), (heap_setCell_other _ _ _ _ (by simp <;> omega)).trans HZ.out, by rw [← HE.out, ← O0.out, ← O2.out, ← O3.out]; exact HF.out.set1 _, HB.out.setCell (by simp <;> omega) _⟩
          case measure => simp [intOf]
        · rw [hm2] at hc
          have HE := Lib.hid (wAt_yes S 1 i hq hm2)
          clear hm2 hq
          go_wp2
          go_roundw
          case rel => exact ⟨i, (i : Int) - 1, rfl, by omega, by omega, (HS.out.other _ (by simp <;> omega)).other _ (by simp <;> omega), (heap_setCell_other _ _ _ _ (by simp <;> omega)).trans ((heap_setCell_other _ _ _ _ (by simp <;> omega)).trans HZ.out), by rw [← HE.out, ← O0.out, ← O2.out, ← O3.out]; exact (HF.out.set1 _).set1 _, (HB.out.setCell (by simp <;> omega) _).setCell (by simp <;> omega) _⟩
          case measure => simp [intOf]
      · have hqi : (i : Int) / 64 = 2 := by omega
        have O0 := Lib.hid (wAt_other S 0 i (by omega))
        have O1 := Lib.hid (wAt_other S 1 i (by omega))
        have O3 := Lib.hid (wAt_other S 3 i (by omega))
        cases hm2 : mem S i
        · rw [hm2] at hc
          have HE := Lib.hid (wAt_no S 2 i hq hm2)
          clear hm2 hq
          go_wp2
          go_roundw
          case rel => exact ⟨i, (i : Int) - 1, rfl, by omega, by omega, HS.out.other _ (by simp <;> omega), (heap_setCell_other _ _ _ _ (by simp <;> omega)).trans HZ.out, by rw [← HE.out, ← O0.out, ← O1.out, ← O3.out]; exact HF.out.set2 _, HB.out.setCell (by simp <;> omega) _⟩
          case measure => simp [intOf]
        · rw [hm2] at hc
          have HE := Lib.hid (wAt_yes S 2 i hq hm2)
          clear hm2 hq
          go_wp2
          go_roundw
          case rel => exact ⟨i, (i : Int) - 1, rfl, by omega, by omega, (HS.out.other _ (by simp <;> omega)).other _ (by simp <;> omega), (heap_setCell_other _ _ _ _ (by simp <;> omega)).trans ((heap_setCell_other _ _ _ _ (by simp <;> omega)).trans HZ.out), by rw [← HE.out, ← O0.out, ← O1.out, ← O3.out]; exact (HF.out.set2 _).set2 _, (HB.out.setCell (by simp <;> omega) _).setCell (by simp <;> omega) _⟩
          case measure => simp [intOf]
      · have hqi : (i : Int) / 64 = 3 := by omega
        have O0 := Lib.hid (wAt_other S 0 i (by omega))
        have O1 := Lib.hid (wAt_other S 1 i (by omega))
        have O2 := Lib.hid (wAt_other S 2 i (by omega))
        cases hm2 : mem S i
        · rw [hm2] at hc
          have HE := Lib.hid (wAt_no S 3 i hq hm2)
          clear hm2 hq
          go_wp2
          go_roundw
          case rel => exact ⟨i, (i : Int) - 1, rfl, by omega, by omega, HS.out.other _ (by simp <;> omega), (heap_setCell_other _ _ _ _ (by simp <;> omega)).trans HZ.out, by rw [← HE.out, ← O0.out, ← O1.out, ← O2.out]; exact HF.out.set3 _, HB.out.setCell (by simp <;> omega) _⟩
          case measure => simp [intOf]
        · rw [hm2] at hc
          have HE := Lib.hid (wAt_yes S 3 i hq hm2)
          clear hm2 hq
          go_wp2
          go_roundw
          case rel => exact ⟨i, (i : Int) - 1, rfl, by omega, by omega, (HS.out.other _ (by simp <;> omega)).other _ (by simp <;> omega), (heap_setCell_other _ _ _ _ (by simp <;> omega)).trans ((heap_setCell_other _ _ _ _ (by simp <;> omega)).trans HZ.out), by rw [← HE.out, ← O0.out, ← O1.out, ← O2.out]; exact (HF.out.set3 _).set3 _, (HB.out.setCell (by simp <;> omega) _).setCell (by simp <;> omega) _⟩
          case measure => simp [intOf]
end Go.Proofs.YtlcecblehffjiaaDoor
