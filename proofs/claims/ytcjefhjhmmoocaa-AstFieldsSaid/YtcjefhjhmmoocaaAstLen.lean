/-
  Layer 5: what the landed package ast does: Len, rightBehinds.
-/
import Derived.Test.YtcjefhjhmmoocaaAstSpan
import Derived.Test.YtcjefhjhmmoocaaAstRefD
namespace Go.Proofs.Ytcjefhjhmmoocaa
open Go.RowKit

set_option maxHeartbeats 1000000 in
theorem lenZ_any (A : Option Addr) (n cap : Nat) (l : Nat → Nd) (i : Int) (w : World) (hn : n ≤ 1000000) (hl : Nodes w A n l) :
    Calls Try.prog 11 #[.agg #[.slice A n cap], .int .i64 i] w fun e w' => e = .returned (lenV (lenZ l n i)) ∧ Below w.heap.size w w' := by
  have HL := Lib.hid hl
  clear hl
  go_enter Try.func11, Try.ntmps11
  go_wp2_with fail
  refine (rightShape_any A n cap l _ hn (HL.out.below (B := w.heap.size) (by go_grown) (Nat.le_refl _))).mono ?_
  rintro e w1 ⟨rfl, hb⟩
  have T1 := Lib.hid ((TreeBox.new w A n cap).call hb)
  have B1 := Lib.hid (thenB (B := w.heap.size) (w := w) (by go_grown) hb (by simp))
  clear hb
  have c0 := T1.out.cell
  by_cases h0 : shapeZ l n = 0
  · have hF := form_0 (shape_0 h0).1
    rw [h0]
    by_cases hi : i < 0
    · have HV := Lib.hid (show lenZ l n i = (0, 0, 5) by unfold lenZ; rw [if_neg (by omega), if_pos (.inl hi)])
      clear h0 hF
      go_wp2_with fail
      go_ret3
      exact ⟨ret_3 HV.out, B1.out⟩
    · by_cases hj : (n : Int) ≤ i
      · have HV := Lib.hid (show lenZ l n i = (0, 0, 5) by unfold lenZ; rw [if_neg (by omega), if_pos (.inr hj)])
        clear h0 hF
        go_wp2_with fail
        go_ret3
        exact ⟨ret_3 HV.out, B1.out⟩
      · obtain ⟨m, rfl⟩ : ∃ m : Nat, i = (m : Int) := ⟨i.toNat, by omega⟩
        have hm : m < n := by omega
        have HV := Lib.hid (show lenZ l n m = ((len l (m + 1)).1, (len l (m + 1)).2, 0) by unfold lenZ; rw [if_neg (by omega), if_neg (by omega)]; simp)
        have HS := Lib.hid hF.2.2
        have hj' : ¬ n ≤ m := by omega
        clear h0 hF
        go_wp2_with fail
        (with_reducible refine (spans_any A n cap l _ hn HS.out (HL.out.call B1.out)).mono ?_)
        rintro e w2 ⟨rfl, hr, hb⟩
        have B2 := Lib.hid (thenB B1.out hb B1.out.size)
        have r0 := hr.cell (i := m * 2) (by omega)
        have r1 := hr.cell (i := m * 2 + 1) (by omega)
        rw [(sp_at l n m hm).1] at r0
        rw [(sp_at l n m hm).2] at r1
        have hlt : w1.heap.size < w2.heap.size := hr.lt
        clear hb hr c0
        go_wp2_with fail
        go_quiet (fail)
        go_wp2_with fail
        go_ret3
        exact ⟨ret_3 HV.out, below_drewN (B2.out.alloc B2.out.size _) _⟩
  · have HV := Lib.hid (show lenZ l n i = (0, 0, shapeZ l n) by unfold lenZ; rw [if_pos h0])
    have q : (shapeZ l n == 0) = false := by simpa using h0
    clear h0
    go_wp2_with fail
    go_ret3
    exact ⟨ret_3 HV.out, B1.out⟩

/-- Has what is looked for behind, among the first nodes, one length, that is short enough? -/
def behB (l : Nat → Nd) : Nat → Bool
  | 0 => true
  | k + 1 => behB l k && (if (l k).k = 15 ∨ (l k).k = 16 then decide ((len l k).1 = (len l k).2 ∧ (len l k).2 ≤ 255) else true)
theorem beh_no {l : Nat → Nd} {k : Nat} (h : behB l k = false) : ∀ d, behB l (k + d) = false
  | 0 => h
  | d + 1 => by rw [← Nat.add_assoc, behB, beh_no h d]; rfl
theorem beh_none {l : Nat → Nd} {k n : Nat} (h : behB l k = false) (hk : k ≤ n) : behB l n = false := by
  rw [show n = k + (n - k) by omega]; exact beh_no h _

set_option maxHeartbeats 2000000 in
theorem rightBehinds_any (A : Option Addr) (n cap : Nat) (l : Nat → Nd) (w : World) (hn : n ≤ 1000000) (hs : siz l n = n) (hl : Nodes w A n l) :
    Calls Try.prog 32 #[.slice A n cap] w fun e w' => e = .returned (.bool (behB l n)) ∧ Below w.heap.size w w' := by
  have HL := Lib.hid hl
  have HS := Lib.hid hs
  clear hl hs
  go_enter Try.func32, Try.ntmps32
  go_wp2_with fail
  (with_reducible refine (spans_any A n cap l _ hn HS.out HL.out).mono ?_)
  rintro e w0 ⟨rfl, hr, hb⟩
  have R0 := Lib.hid hr
  have B0 := Lib.hid hb
  clear hr hb
  go_wp2_with fail
  go_loopw [11] (fun i wr => ∃ k : Nat, k ≤ n ∧ i = .int .i64 k ∧ behB l k = true ∧ wr.rowIs w.heap.size 56 (n * 2) (spV l n) ∧ Below w.heap.size w wr) (fun i _ => n - (intOf i).toNat)
  case atStart => exact ⟨0, Nat.zero_le _, rfl, rfl, R0.out, B0.out⟩
  case round =>
    obtain ⟨k, hk, rfl, hbeh, hrow, hb⟩ := hrel
    have HR := Lib.hid hrow
    have HB := Lib.hid hb
    have HH := Lib.hid hbeh
    clear hrow hb hbeh R0 B0
    by_cases hlt : k < n
    · obtain ⟨b, o, rfl, hN⟩ := (HL.out.below HB.out (Nat.le_refl _)).at_ (by omega)
      obtain ⟨c0, c1, c2, c3, c4, c5, c6, c7, c8, c9, c10, c11⟩ := hN.2 k hlt
      have hbw := hN.1
      have hsz := siz_of_whole HS.out hlt
      obtain ⟨hf, hp⟩ := siz_pos hsz
      have lr : w.heap.size < wr.heap.size := HR.out.lt
      have HX := Lib.hid (show behB l (k + 1) = (behB l k && (if (l k).k = 15 ∨ (l k).k = 16 then decide ((len l k).1 = (len l k).2 ∧ (len l k).2 ≤ 255) else true)) from rfl)
      clear hN hsz hf
      by_cases hkk : (l k).k = 15 ∨ (l k).k = 16
      · have hk1 : kidsZ (l k).k = 1 := by unfold kidsZ; rw [if_neg (by omega), if_pos (by omega)]
        obtain ⟨h1, ha⟩ : siz l k ≠ 0 ∧ (l k).a = (k : Int) - 1 := by
          rcases hp with ⟨h, -⟩ | ⟨-, h1, ha, -⟩ | ⟨h, -⟩
          · omega
          · exact ⟨h1, ha⟩
          · omega
        have k0 : k ≠ 0 := by rintro rfl; exact h1 rfl
        rw [ha] at c1
        have r0 := HR.out.cell (i := (k - 1) * 2) (by omega)
        have r1 := HR.out.cell (i := (k - 1) * 2 + 1) (by omega)
        rw [(sp_at l n (k - 1) (by omega)).1, show k - 1 + 1 = k by omega] at r0
        rw [(sp_at l n (k - 1) (by omega)).2, show k - 1 + 1 = k by omega] at r1
        have k1 : (1 : Int) ≤ (k : Int) := by omega
        have HX' := Lib.hid (show behB l (k + 1) = decide ((len l k).1 = (len l k).2 ∧ (len l k).2 ≤ 255) by rw [HX.out, HH.out, if_pos hkk]; simp)
        clear hp hk1 h1 ha k0
        generalize (len l k).1 = x at r0 HX'
        generalize (len l k).2 = y at r1 HX'
        by_cases exy : x = y
        · subst exy
          by_cases e5 : x ≤ 255
          · have HZ := Lib.hid (show behB l (k + 1) = true by rw [HX'.out]; simp; exact e5)
            have e6 : ¬ 255 < x := by omega
            rcases hkk with e | e
            · rw [e] at c0
              clear e
              go_wp2_with fail
              go_roundw
              case rel => exact ⟨k + 1, by omega, by go_num, HZ.out, (HR.out.alloc _).alloc _, (HB.out.alloc HB.out.size _).alloc (by simp; have := HB.out.size; omega) _⟩
              case measure => simp [intOf]; omega
            · rw [e] at c0
              clear e
              go_wp2_with fail
              go_roundw
              case rel => exact ⟨k + 1, by omega, by go_num, HZ.out, (HR.out.alloc _).alloc _, (HB.out.alloc HB.out.size _).alloc (by simp; have := HB.out.size; omega) _⟩
              case measure => simp [intOf]; omega
          · have HZ := Lib.hid (show behB l n = false from beh_none (k := k + 1) (by rw [HX'.out]; simp; omega) (by omega))
            have e6 : 255 < x := by omega
            clear e5
            rcases hkk with e | e
            · rw [e] at c0
              clear e
              go_wp2_with fail
              go_ret
              exact ⟨by rw [HZ.out]; rfl, (HB.out.alloc HB.out.size _).alloc (by simp; have := HB.out.size; omega) _⟩
            · rw [e] at c0
              clear e
              go_wp2_with fail
              go_ret
              exact ⟨by rw [HZ.out]; rfl, (HB.out.alloc HB.out.size _).alloc (by simp; have := HB.out.size; omega) _⟩
        · have HZ := Lib.hid (show behB l n = false from beh_none (k := k + 1) (by rw [HX'.out]; simp [exy]) (by omega))
          have e6 : (x != y) = true := by simpa using exy
          have e7 : (x == y) = false := by simpa using exy
          have e8 : decide (x = y) = false := by simpa using exy
          rcases hkk with e | e
          · rw [e] at c0
            clear e
            go_wp2_with fail
            go_ret
            exact ⟨by rw [HZ.out]; rfl, (HB.out.alloc HB.out.size _).alloc (by simp; have := HB.out.size; omega) _⟩
          · rw [e] at c0
            clear e
            go_wp2_with fail
            go_ret
            exact ⟨by rw [HZ.out]; rfl, (HB.out.alloc HB.out.size _).alloc (by simp; have := HB.out.size; omega) _⟩
      · have HZ := Lib.hid (show behB l (k + 1) = true by rw [HX.out, HH.out, if_neg hkk]; rfl)
        have n15 : ¬ (l k).k = 15 := by omega
        have n16 : ¬ (l k).k = 16 := by omega
        have q1 : ((l k).k != 15) = true := by simpa using n15
        have q2 : ((l k).k != 16) = true := by simpa using n16
        have q3 : ((l k).k == 15) = false := by simpa using n15
        have q4 : ((l k).k == 16) = false := by simpa using n16
        have q5 : decide ((l k).k = 15) = false := by simpa using n15
        have q6 : decide ((l k).k = 16) = false := by simpa using n16
        clear hkk hp
        go_wp2_with fail
        go_roundw
        case rel => exact ⟨k + 1, by omega, by go_num, HZ.out, HR.out.alloc _, HB.out.alloc HB.out.size _⟩
        case measure => simp [intOf]; omega
    · obtain rfl : n = k := by omega
      go_wp2_with fail
      go_ret
      exact ⟨by rw [HH.out]; rfl, HB.out⟩
end Go.Proofs.Ytcjefhjhmmoocaa
