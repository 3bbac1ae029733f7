/-
  Layer 5: what the landed package ast does: depth.
-/
import Derived.Test.YtcjefhjhmmoocaaAstBeg
import Derived.Test.YtcjefhjhmmoocaaAstRefB
namespace Go.Proofs.Ytcjefhjhmmoocaa
open Go.RowKit

/-- The row of depths, as far as it is told. -/
def depV (l : Nat → Nd) (k : Nat) (j : Nat) : Value := .int .i64 ((if j < k then dep l (j + 1) else 0 : Nat) : Int)
theorem dep_next {l : Nat → Nd} {k n v : Nat} (hv : dep l (k + 1) = v) : ∀ i, i < n → (if i = k then Value.int .i64 (v : Int) else depV l k i) = depV l (k + 1) i := by
  intro i _
  unfold depV
  by_cases e : i = k
  · subst e
    rw [if_pos rfl, if_pos (by omega), hv]
  · rw [if_neg e]
    by_cases h : i < k
    · rw [if_pos h, if_pos (by omega)]
    · rw [if_neg h, if_neg (by omega)]

theorem dep_nextG {l : Nat → Nd} {k n : Nat} {F : Nat → Value} (hF : ∀ i, i ≠ k → F i = depV l k i) (hv : F k = .int .i64 (dep l (k + 1) : Nat)) : ∀ i, i < n → F i = depV l (k + 1) i := by
  intro i hi
  by_cases e : i = k
  · subst e; rw [hv]; unfold depV; rw [if_pos (by omega)]
  · rw [hF i e, ← dep_next (n := n) rfl i hi, if_neg e]
set_option maxHeartbeats 4000000 in
theorem depth_any (A : Option Addr) (n cap : Nat) (l : Nat → Nd) (w : World) (hn : n ≤ 1000000) (h0 : 0 < n) (hs : siz l n = n) (hl : Nodes w A n l) :
    Calls Try.prog 35 #[.slice A n cap] w fun e w' => e = .returned (.int .i64 (dep l n : Nat)) ∧ Below w.heap.size w w' := by
  have HL := Lib.hid hl
  have HS := Lib.hid hs
  clear hl hs
  have hmk := run_make_row' (P := Try.prog) 62 3 (.int .i64 0) 8 Try.underlying62 infoI rfl .i64 .i64 n (by omega) (by omega)
  go_enter Try.func35, Try.ntmps35
  go_wp2_with fail
  clear hmk
  go_loopw [11] (fun i wr => ∃ k : Nat, k ≤ n ∧ i = .int .i64 k ∧ wr.rowIs w.heap.size 3 n (depV l k) ∧ Below w.heap.size w wr) (fun i _ => n - (intOf i).toNat)
  case atStart => exact ⟨0, Nat.zero_le _, rfl, (World.rowIs_made w (.int .i64 0) n 3).congr fun i hi => rfl, by go_grown⟩
  case round =>
    obtain ⟨k, hk, rfl, hrow, hb⟩ := hrel
    have HR := Lib.hid hrow
    have HB := Lib.hid hb
    clear hrow hb
    by_cases hlt : k < n
    · obtain ⟨b, o, rfl, hN⟩ := (HL.out.below HB.out (Nat.le_refl _)).at_ (by omega)
      obtain ⟨c0, c1, c2, c3, c4, c5, c6, c7, c8, c9, c10, c11⟩ := hN.2 k hlt
      have hbw := hN.1
      have hsz := siz_of_whole HS.out hlt
      obtain ⟨-, hp⟩ := siz_pos hsz
      have hd := dep_succ l k
      have lr : w.heap.size < wr.heap.size := HR.out.lt
      clear hN hsz
      rcases hp with ⟨hk0, -⟩ | ⟨hk1, h1, ha, -⟩ | ⟨hk2, h1, h2, ha, hb, -⟩
      · have HD := Lib.hid (show dep l (k + 1) = 1 by rw [hd, if_pos hk0])
        have HK := Lib.hid hk0
        clear hd hk0
        go_wp2_with fail
        refine (children_b _ _ _ HK.out).mono ?_
        rintro e w2 ⟨rfl, hb⟩
        have R2 := Lib.hid (row_call (HR.out.alloc _) hb)
        have B2 := Lib.hid (thenB (HB.out.alloc HB.out.size _) hb (by simp; have := HB.out.size; omega))
        clear hb c0 c1 c2 c3 c4 c5 c6 c7 c8 c9 c10 c11
        have rk : w2.cell? ⟨w.heap.size, k, none⟩ = some (.int .i64 0) := by
          rw [R2.out.cell hlt]
          unfold depV
          rw [if_neg (by omega)]
          rfl
        have fr := R2.out.frozen
        go_wp2_with fail
        go_roundw
        case rel => exact ⟨k + 1, by omega, by go_num, (R2.out.set k (.int .i64 1)).congr (dep_next HD.out), B2.out.setCell (p := ⟨w.heap.size, k, none⟩) (Nat.le_refl _) _⟩
        case measure => simp [intOf]; omega
      · have k0 : k ≠ 0 := by rintro rfl; exact h1 rfl
        have HD := Lib.hid (show dep l (k + 1) = 1 + dep l k by rw [hd, hk1]; rfl)
        have HK := Lib.hid hk1
        have hdl := dep_le l k
        rw [ha] at c1
        clear hd hk1 ha h1
        go_wp2_with fail
        refine (children_b _ _ _ HK.out).mono ?_
        rintro e w2 ⟨rfl, hb⟩
        have R2 := Lib.hid (row_call (HR.out.alloc _) hb)
        have X2 := Lib.hid ((Box12.new wr 45 _ _ _ _ _ _ _ _ _ _ _ _).call hb)
        have B2 := Lib.hid (thenB (HB.out.alloc HB.out.size _) hb (by simp; have := HB.out.size; omega))
        clear hb c0 c1 c2 c3 c4 c5 c6 c7 c8 c9 c10 c11
        have rk : w2.cell? ⟨w.heap.size, k, none⟩ = some (.int .i64 0) := by
          rw [R2.out.cell hlt]
          unfold depV
          rw [if_neg (by omega)]
          rfl
        have rk1 : w2.cell? ⟨w.heap.size, k - 1, none⟩ = some (.int .i64 (dep l k : Nat)) := by
          rw [R2.out.cell (by omega)]
          unfold depV
          rw [if_pos (by omega), show k - 1 + 1 = k by omega]
        have fr := R2.out.frozen
        obtain ⟨c0, c1, c2, -⟩ := X2.out.cells
        have k1 : (1 : Int) ≤ (k : Int) := by omega
        have d0 : (0 : Int) ≤ (dep l k : Nat) := by omega
        have d1 : ((dep l k : Nat) : Int) ≤ 1000000 := by omega
        generalize dep l k = x at HD rk1 d0 d1 hdl
        go_wp2_with fail
        have iw : IntKind.i64.wrap ((k : Int) - 1) = (k : Int) - 1 := IntWalk.i64_in _ (by omega)
        have it : ((k : Int) - 1).toNat = k - 1 := by omega
        have i1 : (k : Int) - 1 < (n : Int) := by omega
        have i0 : (0 : Int) ≤ (k : Int) - 1 := by omega
        go_region
        clear iw it i1 i0
        go_wp2_with fail
        go_roundw
        case rel => exact ⟨k + 1, by omega, by go_num, ((R2.out.set k _).set k _).drew.congr (dep_nextG (fun i h => by simp [h]) (by simp; rw [HD.out]; (try split) <;> omega)), ((B2.out.setCell (p := ⟨w.heap.size, k, none⟩) (Nat.le_refl _) _).setCell (p := ⟨w.heap.size, k, none⟩) (Nat.le_refl _) _).drew⟩
        case measure => simp [intOf]; omega
      · have hle := siz_le l k
        have k0 : k ≠ 0 := by rintro rfl; exact h1 rfl
        obtain ⟨s, es⟩ : ∃ s, s = siz l k := ⟨_, rfl⟩
        rw [← es] at ha h1 h2 hle hd
        have s1 : s < k := by
          by_cases e : s < k
          · exact e
          · exfalso; apply h2; rw [show k - s = 0 by omega]; rfl
        have HD := Lib.hid (show dep l (k + 1) = 1 + max (dep l (k - s)) (dep l k) by rw [hd, hk2]; rfl)
        have HK := Lib.hid hk2
        have hdl := dep_le l k
        have hdl2 := dep_le l (k - s)
        rw [ha] at c1
        rw [hb] at c2
        clear hd hk2 ha hb h1 h2 es
        go_wp2_with fail
        refine (children_b _ _ _ HK.out).mono ?_
        rintro e w2 ⟨rfl, hb⟩
        have R2 := Lib.hid (row_call (HR.out.alloc _) hb)
        have X2 := Lib.hid ((Box12.new wr 45 _ _ _ _ _ _ _ _ _ _ _ _).call hb)
        have B2 := Lib.hid (thenB (HB.out.alloc HB.out.size _) hb (by simp; have := HB.out.size; omega))
        clear hb c0 c1 c2 c3 c4 c5 c6 c7 c8 c9 c10 c11
        have rk : w2.cell? ⟨w.heap.size, k, none⟩ = some (.int .i64 0) := by
          rw [R2.out.cell hlt]
          unfold depV
          rw [if_neg (by omega)]
          rfl
        have rk1 : w2.cell? ⟨w.heap.size, k - 1, none⟩ = some (.int .i64 (dep l k : Nat)) := by
          rw [R2.out.cell (by omega)]
          unfold depV
          rw [if_pos (by omega), show k - 1 + 1 = k by omega]
        have rk2 : w2.cell? ⟨w.heap.size, k - 1 - s, none⟩ = some (.int .i64 (dep l (k - s) : Nat)) := by
          rw [R2.out.cell (by omega)]
          unfold depV
          rw [if_pos (by omega), show k - 1 - s + 1 = k - s by omega]
        have fr := R2.out.frozen
        obtain ⟨c0, c1, c2, -⟩ := X2.out.cells
        have k1 : (1 : Int) ≤ (k : Int) := by omega
        have d0 : (0 : Int) ≤ (dep l k : Nat) := by omega
        have d1 : ((dep l k : Nat) : Int) ≤ 1000000 := by omega
        have e0 : (0 : Int) ≤ (dep l (k - s) : Nat) := by omega
        have e1 : ((dep l (k - s) : Nat) : Int) ≤ 1000000 := by omega
        generalize dep l k = x at HD rk1 d0 d1 hdl
        generalize dep l (k - s) = y at HD rk2 e0 e1 hdl2
        have iw : IntKind.i64.wrap ((k : Int) - 1 - (s : Int)) = (k : Int) - 1 - (s : Int) := IntWalk.i64_in _ (by omega)
        have it : ((k : Int) - 1 - (s : Int)).toNat = k - 1 - s := by omega
        have i1 : (k : Int) - 1 - (s : Int) < (n : Int) := by omega
        have i0 : (0 : Int) ≤ (k : Int) - 1 - (s : Int) := by omega
        have HI := Lib.hid (And.intro iw it)
        have ne1 : ¬ k - 1 = k := by omega
        have ne2 : ¬ k - 1 - s = k := by omega
        have lx := X2.out.lt
        have gx : w.heap.size < wr.heap.size := lr
        clear iw it
        go_wp2_with fail
        obtain ⟨iw, it⟩ := HI.out
        go_region
        clear iw it
        go_wp2_with fail
        go_roundw
        case rel => exact ⟨k + 1, by omega, by go_num, (((R2.out.set k _).set k _).set k _).drew.congr (dep_nextG (fun i h => by simp [h]) (by simp; rw [HD.out]; (try split) <;> omega)), (((B2.out.setCell (p := ⟨w.heap.size, k, none⟩) (Nat.le_refl _) _).setCell (p := ⟨w.heap.size, k, none⟩) (Nat.le_refl _) _).setCell (p := ⟨w.heap.size, k, none⟩) (Nat.le_refl _) _).drew⟩
        case measure => simp [intOf]; omega
    · obtain rfl : n = k := by omega
      have n1 : (1 : Int) ≤ (n : Int) := by omega
      have n3 : (n : Int) - 1 < (n : Int) := by omega
      have hcell : wr.cell? ⟨w.heap.size, n - 1, none⟩ = some (.int .i64 (dep l n : Nat)) := by
        rw [HR.out.cell (by omega)]
        unfold depV
        rw [if_pos (by omega), show n - 1 + 1 = n by omega]
      go_wp2_with fail
      go_ret
      exact ⟨rfl, HB.out⟩
end Go.Proofs.Ytcjefhjhmmoocaa
