/-
  The statement LimitCounts: what its walk comes to, if package limit's calls do what the document says.
-/
import Derived.Test.YtaobbdmkkehpnaaLimTellsLaw
namespace Go.Proofs.Ytaobbdmkkehpnaa
open Go.RowKit

theorem stepN_le (a : Nat) (n : Int) (h : a ≤ 4611686018427387904) : stepN a n ≤ 4611686018427387904 := by unfold stepN; split <;> omega
theorem holdN_le (a : Nat) (n : Int) (h : a ≤ 4611686018427387904) : holdN a n ≤ 4611686018427387904 := by unfold holdN; split <;> omega
section
variable {ops : Array Oper} {a : Act} {o : Oper} {x y : Operand} {R : World → Prop}
theorem idxI_y (b off n cap k : Nat) (hk : k < n) (ho : o.op = .indexAddr 40 x y) (hx : a.eval x = .slice (some ⟨b, off, none⟩) n cap) (hy : a.eval y = .int .i64 (k : Int)) (hw : Region.wanted o (yielded ops a.tmps) = true) : YieldsIf Try.prog ops R o (.pointer (some ⟨b, off + k, none⟩)) a := by
  refine Or.inl ⟨hw, fun w _ => ?_⟩
  have k0 : (0 : Int) ≤ k := by omega
  have k1 : (k : Int) < n := by omega
  unfold execOp
  simp only [ho, hx, hy]
  go_simp
theorem loadI_y (g k : Nat) (n : Int) (hR : ∀ u, R u → u.cell? ⟨g, k, none⟩ = some (.int .i64 n)) (ho : o.op = .load 3 x) (hx : a.eval x = .pointer (some ⟨g, k, none⟩)) (hw : Region.wanted o (yielded ops a.tmps) = true) : YieldsIf Try.prog ops R o (.int .i64 n) a := by
  refine Or.inl ⟨hw, fun u h => ?_⟩
  have hc := hR u h
  unfold execOp
  simp only [ho, hx]
  go_simp
theorem neqB_y {m n : Bool} (b : Bool) (ho : o.op = .binOp .neq 4 x y 4) (hx : a.eval x = .bool m) (hy : a.eval y = .bool n) (hb : (!(m == n)) = b) (hw : Region.wanted o (yielded ops a.tmps) = true) : YieldsIf Try.prog ops R o (.bool b) a := by
  refine Or.inl ⟨hw, fun w _ => ?_⟩
  unfold execOp
  simp only [ho, hx, hy]
  go_simp
end

set_option maxHeartbeats 4000000 in
set_option maxRecDepth 100000 in
theorem limitCounts_yes (L : LimOk) (s r : Nat) (ao so : Option Addr) (n cap n2 cap2 : Nat) (z : Nat → Int) (bs : Nat → Bool) (w : World) (hs : s < 18446744073709551616) (hr : r < 18446744073709551616) (ho : (okW s && okW r) = true)
    (hz : ∀ i, i < n → -9223372036854775808 ≤ z i ∧ z i < 9223372036854775808) (hc : ∀ i, i < n → ∃ b off, ao = some ⟨b, off, none⟩ ∧ b < w.heap.size ∧ w.cell? ⟨b, off + i, none⟩ = some (.int .i64 (z i)))
    (hc2 : ∀ i, i < n2 → ∃ b off, so = some ⟨b, off, none⟩ ∧ b < w.heap.size ∧ w.cell? ⟨b, off + i, none⟩ = some (.bool (bs i))) :
    Calls Try.prog 4 #[bud s r, .slice ao n cap, .slice so n2 cap2] w fun e w' => e = .returned (.bool true) ∧ Below w.heap.size w w' := by
  have HZ := Lib.hid hz
  have HC := Lib.hid hc
  have HC2 := Lib.hid hc2
  have HO := Lib.hid ho
  clear hz hc hc2 ho
  go_enter Try.func4, Try.ntmps4
  go_wp2_with fail
  refine (L.new_yes _ _ _ hs hr HO.out).mono ?_
  rintro e w1 ⟨p, rfl, hp, hm, hb⟩
  have M1 := Lib.hid hm
  have R1 := Lib.hid ((RowL.new w w.heap.size s r rfl).call hb)
  have B1 := Lib.hid (thenB (B := w.heap.size) (w := w) (by go_grown) hb (by simp))
  have HP := Lib.hid (show w.heap.size ≤ p by simp at hp; omega)
  clear hm hb hp
  obtain ⟨c0, c1⟩ := R1.out.cells
  go_wp2_with fail
  refine (ref_any s r _).mono ?_
  rintro e w2 ⟨rfl, hb⟩
  have M2 := Lib.hid (L.call M1.out hb)
  have B2 := Lib.hid (thenB B1.out hb B1.out.size)
  clear hb M1 B1 R1 c0 c1
  go_wp2_with fail
  refine (rnew_yes s r _ hs hr HO.out).mono ?_
  rintro e w3 ⟨q, rfl, hq, hm, hb⟩
  have PQ := Lib.hid (show p ≠ q by have := L.lt M2.out; omega)
  have HQ := Lib.hid (show w.heap.size ≤ q by have := B2.out.size; omega)
  have M3 := Lib.hid (L.call M2.out hb)
  have Z3 := Lib.hid hm
  have B3 := Lib.hid (thenB B2.out hb B2.out.size)
  clear hb hm hq M2 B2
  go_wp2_with fail
  go_loopw [11] (fun i wr => ∃ k st h pk : Nat, i = .int .i64 k ∧ k ≤ 40 ∧ st ≤ 4611686018427387904 ∧ h ≤ 4611686018427387904 ∧ L.Met wr p s r st h pk ∧ Met wr q s r st h pk ∧ Below w.heap.size w wr) (fun i _ => 40 - (intOf i).toNat)
  case atStart => exact ⟨0, 0, 0, 0, rfl, by omega, by omega, by omega, M3.out, Z3.out, B3.out⟩
  case round =>
    obtain ⟨k, st, h, pk, rfl, hk, h1, h2, hm, hzm, hb⟩ := hrel
    have MM := Lib.hid hm
    have ZZ := Lib.hid hzm
    have BB := Lib.hid hb
    have HST := Lib.hid h1
    have HH := Lib.hid h2
    clear hm hzm hb h1 h2 M3 Z3 B3
    have kk : (0 : Int) ≤ k := by omega
    by_cases hlt : k < n
    · by_cases h40 : k < 40
      · obtain ⟨b, off, rfl, hbw, hcell⟩ := HC.out k hlt
        obtain ⟨x0, x1⟩ := HZ.out k hlt
        generalize z k = x at hcell x0 x1
        have X0 := Lib.hid x0
        have X1 := Lib.hid x1
        clear x0 x1
        have HCELL := Lib.hid hcell
        have HBW := Lib.hid hbw
        clear hcell hbw
        by_cases hst : k < n2
        · obtain ⟨b2, off2, rfl, hbw2, hcell2⟩ := HC2.out k hst
          have hcc := (BB.out.cell (p := ⟨b2, off2 + k, none⟩) hbw2).trans hcell2
          clear hcell2
          cases hbs : bs k
          · rw [hbs] at hcc
            clear hbs
            go_wp2_with fail
            have hcell := HCELL.out
            have hbw := HBW.out
            have hS : Below w.heap.size w wr.drew := BB.out.drew
            have MD := Lib.hid (show L.Met wr.drew p s r st h pk from L.of_block MM.out rfl)
            have ZD := Lib.hid (show Met wr.drew q s r st h pk from ZZ.out)
            have QL := Lib.hid (show q < wr.drew.heap.size from (Array.getElem?_eq_some_iff.1 ZZ.out).1)
            refine wp_region_held_drew (S := Below w.heap.size w) (by kernel_rfl) hS (fun _ => ?_)
            refine takeAt 0 76 (.pointer (some ⟨p, 0, none⟩)) rfl rfl (by kernel_rfl) (by kernel_rfl) (by kernel_rfl) (fun _ _ _ h => h) (yields (by rfl) (fun w => by kernel_rfl)) hS ?_
            simp only [Act.put, List.setIfInBounds_toArray, List.set_cons_zero, List.set_cons_succ]
            refine takeAt 1 77 (.slice (some ⟨b, off, none⟩) n cap) rfl rfl (by kernel_rfl) (by kernel_rfl) (by kernel_rfl) (fun _ _ _ h => h) (yields (by rfl) (fun w => by kernel_rfl)) hS ?_
            simp only [Act.put, List.setIfInBounds_toArray, List.set_cons_zero, List.set_cons_succ]
            refine takeAt 2 78 (.int .i64 (k : Int)) rfl rfl (by kernel_rfl) (by kernel_rfl) (by kernel_rfl) (fun _ _ _ h => h) (yields (by rfl) (fun w => by kernel_rfl)) hS ?_
            simp only [Act.put, List.setIfInBounds_toArray, List.set_cons_zero, List.set_cons_succ]
            refine takeAt 3 79 (.pointer (some ⟨b, off + k, none⟩)) rfl rfl (by kernel_rfl) (by kernel_rfl) (by kernel_rfl) (fun _ _ _ h => h) (idxI_y b off n cap k hlt rfl rfl rfl (by rfl)) hS ?_
            simp only [Act.put, List.setIfInBounds_toArray, List.set_cons_zero, List.set_cons_succ]
            refine takeAt 4 80 (.int .i64 x) rfl rfl (by kernel_rfl) (by kernel_rfl) (by kernel_rfl) (fun _ _ _ h => h) (loadI_y b (off + k) x (fun u h => (h.cell (p := ⟨b, off + k, none⟩) hbw).trans hcell) rfl rfl (by rfl)) hS ?_
            simp only [Act.put, List.setIfInBounds_toArray, List.set_cons_zero, List.set_cons_succ]
            refine takeAt 6 82 (.pointer (some ⟨q, 0, none⟩)) rfl rfl (by kernel_rfl) (by kernel_rfl) (by kernel_rfl) (fun _ _ _ h => h) (yields (by rfl) (fun w => by kernel_rfl)) hS ?_
            simp only [Act.put, List.setIfInBounds_toArray, List.set_cons_zero, List.set_cons_succ]
            refine takeAt 7 83 (.slice (some ⟨b, off, none⟩) n cap) rfl rfl (by kernel_rfl) (by kernel_rfl) (by kernel_rfl) (fun _ _ _ h => h) (yields (by rfl) (fun w => by kernel_rfl)) hS ?_
            simp only [Act.put, List.setIfInBounds_toArray, List.set_cons_zero, List.set_cons_succ]
            refine takeAt 8 84 (.int .i64 (k : Int)) rfl rfl (by kernel_rfl) (by kernel_rfl) (by kernel_rfl) (fun _ _ _ h => h) (yields (by rfl) (fun w => by kernel_rfl)) hS ?_
            simp only [Act.put, List.setIfInBounds_toArray, List.set_cons_zero, List.set_cons_succ]
            refine takeAt 9 85 (.pointer (some ⟨b, off + k, none⟩)) rfl rfl (by kernel_rfl) (by kernel_rfl) (by kernel_rfl) (fun _ _ _ h => h) (idxI_y b off n cap k hlt rfl rfl rfl (by rfl)) hS ?_
            simp only [Act.put, List.setIfInBounds_toArray, List.set_cons_zero, List.set_cons_succ]
            refine takeAt 10 86 (.int .i64 x) rfl rfl (by kernel_rfl) (by kernel_rfl) (by kernel_rfl) (fun _ _ _ h => h) (loadI_y b (off + k) x (fun u h => (h.cell (p := ⟨b, off + k, none⟩) hbw).trans hcell) rfl rfl (by rfl)) hS ?_
            simp only [Act.put, List.setIfInBounds_toArray, List.set_cons_zero, List.set_cons_succ]
            refine callAt 5 81 rfl rfl (by kernel_rfl) (by rfl) (by kernel_rfl) (L.hold p s r st h pk x _ MD.out HH.out X0.out X1.out) ?_
            rintro e w2 ⟨rfl, m2, hb2⟩
            have hS2 := But.below hS hb2 hS.size HP.out
            refine ⟨_, rfl, hS2, ?_⟩
            have z2 : Met w2 q s r st h pk := (hb2.block q QL.out (Ne.symm PQ.out)).trans ZD.out
            have P2 := Nat.le_trans (Nat.le_of_lt QL.out) hb2.size
            simp only [Act.put, List.setIfInBounds_toArray, List.set_cons_zero, List.set_cons_succ]
            refine callAt 11 87 rfl rfl (by kernel_rfl) (by rfl) (by kernel_rfl) (rhold_any q s r st h pk x _ z2 HH.out X1.out) ?_
            rintro e w3 ⟨rfl, z3, hb3⟩
            have hS3 := But.below hS2 hb3 hS2.size HQ.out
            refine ⟨_, rfl, hS3, ?_⟩
            have m3 := L.but m2 hb3 PQ.out
            simp only [Act.put, List.setIfInBounds_toArray, List.set_cons_zero, List.set_cons_succ]
            refine takeAt 12 88 (.bool false) rfl rfl (by kernel_rfl) (by kernel_rfl) (by kernel_rfl) (fun _ _ _ h => h) (neqB_y false rfl rfl rfl (by simp) (by rfl)) hS3 ?_
            simp only [Act.put, List.setIfInBounds_toArray, List.set_cons_zero, List.set_cons_succ]
            refine wpAnyH_done (by kernel_rfl) ?_ _
            have M3 := Lib.hid m3
            have Z3 := Lib.hid z3
            have B3 := Lib.hid hS3
            clear m2 hb2 hS2 z2 P2 z3 hb3 hS3 m3 hS
            go_wp2_with fail
            refine (L.used p _ _ st (holdN h x) (max pk (holdN h x)) _ M3.out).mono ?_
            rintro e w4 ⟨rfl, hb⟩
            have M4 := Lib.hid (L.call M3.out hb)
            have Z4 := Lib.hid (show Met w4 q s r st (holdN h x) (max pk (holdN h x)) from (hb.block q (Array.getElem?_eq_some_iff.1 Z3.out).1).trans Z3.out)
            have B4 := Lib.hid (thenB B3.out hb B3.out.size)
            clear hb M3 Z3 B3
            obtain ⟨d0, d1, d2, d3, d4⟩ := Z4.out.cells
            go_wp2_with fail
            go_roundw
            case rel => exact ⟨k + 1, st, (holdN h x), (max pk (holdN h x)), by go_num, by omega, HST.out, holdN_le h x HH.out, M4.out, Z4.out, B4.out⟩
            case measure => simp [intOf]; omega
          · rw [hbs] at hcc
            clear hbs
            go_wp2_with fail
            have hcell := HCELL.out
            have hbw := HBW.out
            have hS : Below w.heap.size w wr.drew := BB.out.drew
            have MD := Lib.hid (show L.Met wr.drew p s r st h pk from L.of_block MM.out rfl)
            have ZD := Lib.hid (show Met wr.drew q s r st h pk from ZZ.out)
            have QL := Lib.hid (show q < wr.drew.heap.size from (Array.getElem?_eq_some_iff.1 ZZ.out).1)
            refine wp_region_held_drew (S := Below w.heap.size w) (by kernel_rfl) hS (fun _ => ?_)
            refine takeAt 0 63 (.pointer (some ⟨p, 0, none⟩)) rfl rfl (by kernel_rfl) (by kernel_rfl) (by kernel_rfl) (fun _ _ _ h => h) (yields (by rfl) (fun w => by kernel_rfl)) hS ?_
            simp only [Act.put, List.setIfInBounds_toArray, List.set_cons_zero, List.set_cons_succ]
            refine takeAt 1 64 (.slice (some ⟨b, off, none⟩) n cap) rfl rfl (by kernel_rfl) (by kernel_rfl) (by kernel_rfl) (fun _ _ _ h => h) (yields (by rfl) (fun w => by kernel_rfl)) hS ?_
            simp only [Act.put, List.setIfInBounds_toArray, List.set_cons_zero, List.set_cons_succ]
            refine takeAt 2 65 (.int .i64 (k : Int)) rfl rfl (by kernel_rfl) (by kernel_rfl) (by kernel_rfl) (fun _ _ _ h => h) (yields (by rfl) (fun w => by kernel_rfl)) hS ?_
            simp only [Act.put, List.setIfInBounds_toArray, List.set_cons_zero, List.set_cons_succ]
            refine takeAt 3 66 (.pointer (some ⟨b, off + k, none⟩)) rfl rfl (by kernel_rfl) (by kernel_rfl) (by kernel_rfl) (fun _ _ _ h => h) (idxI_y b off n cap k hlt rfl rfl rfl (by rfl)) hS ?_
            simp only [Act.put, List.setIfInBounds_toArray, List.set_cons_zero, List.set_cons_succ]
            refine takeAt 4 67 (.int .i64 x) rfl rfl (by kernel_rfl) (by kernel_rfl) (by kernel_rfl) (fun _ _ _ h => h) (loadI_y b (off + k) x (fun u h => (h.cell (p := ⟨b, off + k, none⟩) hbw).trans hcell) rfl rfl (by rfl)) hS ?_
            simp only [Act.put, List.setIfInBounds_toArray, List.set_cons_zero, List.set_cons_succ]
            refine takeAt 6 69 (.pointer (some ⟨q, 0, none⟩)) rfl rfl (by kernel_rfl) (by kernel_rfl) (by kernel_rfl) (fun _ _ _ h => h) (yields (by rfl) (fun w => by kernel_rfl)) hS ?_
            simp only [Act.put, List.setIfInBounds_toArray, List.set_cons_zero, List.set_cons_succ]
            refine takeAt 7 70 (.slice (some ⟨b, off, none⟩) n cap) rfl rfl (by kernel_rfl) (by kernel_rfl) (by kernel_rfl) (fun _ _ _ h => h) (yields (by rfl) (fun w => by kernel_rfl)) hS ?_
            simp only [Act.put, List.setIfInBounds_toArray, List.set_cons_zero, List.set_cons_succ]
            refine takeAt 8 71 (.int .i64 (k : Int)) rfl rfl (by kernel_rfl) (by kernel_rfl) (by kernel_rfl) (fun _ _ _ h => h) (yields (by rfl) (fun w => by kernel_rfl)) hS ?_
            simp only [Act.put, List.setIfInBounds_toArray, List.set_cons_zero, List.set_cons_succ]
            refine takeAt 9 72 (.pointer (some ⟨b, off + k, none⟩)) rfl rfl (by kernel_rfl) (by kernel_rfl) (by kernel_rfl) (fun _ _ _ h => h) (idxI_y b off n cap k hlt rfl rfl rfl (by rfl)) hS ?_
            simp only [Act.put, List.setIfInBounds_toArray, List.set_cons_zero, List.set_cons_succ]
            refine takeAt 10 73 (.int .i64 x) rfl rfl (by kernel_rfl) (by kernel_rfl) (by kernel_rfl) (fun _ _ _ h => h) (loadI_y b (off + k) x (fun u h => (h.cell (p := ⟨b, off + k, none⟩) hbw).trans hcell) rfl rfl (by rfl)) hS ?_
            simp only [Act.put, List.setIfInBounds_toArray, List.set_cons_zero, List.set_cons_succ]
            refine callAt 5 68 rfl rfl (by kernel_rfl) (by rfl) (by kernel_rfl) (L.step p s r st h pk x _ MD.out HST.out X0.out X1.out) ?_
            rintro e w2 ⟨rfl, m2, hb2⟩
            have hS2 := But.below hS hb2 hS.size HP.out
            refine ⟨_, rfl, hS2, ?_⟩
            have z2 : Met w2 q s r st h pk := (hb2.block q QL.out (Ne.symm PQ.out)).trans ZD.out
            have P2 := Nat.le_trans (Nat.le_of_lt QL.out) hb2.size
            simp only [Act.put, List.setIfInBounds_toArray, List.set_cons_zero, List.set_cons_succ]
            refine callAt 11 74 rfl rfl (by kernel_rfl) (by rfl) (by kernel_rfl) (rstep_any q s r st h pk x _ z2 HST.out X1.out) ?_
            rintro e w3 ⟨rfl, z3, hb3⟩
            have hS3 := But.below hS2 hb3 hS2.size HQ.out
            refine ⟨_, rfl, hS3, ?_⟩
            have m3 := L.but m2 hb3 PQ.out
            simp only [Act.put, List.setIfInBounds_toArray, List.set_cons_zero, List.set_cons_succ]
            refine takeAt 12 75 (.bool false) rfl rfl (by kernel_rfl) (by kernel_rfl) (by kernel_rfl) (fun _ _ _ h => h) (neqB_y false rfl rfl rfl (by simp) (by rfl)) hS3 ?_
            simp only [Act.put, List.setIfInBounds_toArray, List.set_cons_zero, List.set_cons_succ]
            refine wpAnyH_done (by kernel_rfl) ?_ _
            have M3 := Lib.hid m3
            have Z3 := Lib.hid z3
            have B3 := Lib.hid hS3
            clear m2 hb2 hS2 z2 P2 z3 hb3 hS3 m3 hS
            go_wp2_with fail
            refine (L.used p _ _ (stepN st x) h pk _ M3.out).mono ?_
            rintro e w4 ⟨rfl, hb⟩
            have M4 := Lib.hid (L.call M3.out hb)
            have Z4 := Lib.hid (show Met w4 q s r (stepN st x) h pk from (hb.block q (Array.getElem?_eq_some_iff.1 Z3.out).1).trans Z3.out)
            have B4 := Lib.hid (thenB B3.out hb B3.out.size)
            clear hb M3 Z3 B3
            obtain ⟨d0, d1, d2, d3, d4⟩ := Z4.out.cells
            go_wp2_with fail
            go_roundw
            case rel => exact ⟨k + 1, (stepN st x), h, pk, by go_num, by omega, stepN_le st x HST.out, HH.out, M4.out, Z4.out, B4.out⟩
            case measure => simp [intOf]; omega
        · go_wp2_with fail
          have hcell := HCELL.out
          have hbw := HBW.out
          have hS : Below w.heap.size w wr.drew := BB.out.drew
          have MD := Lib.hid (show L.Met wr.drew p s r st h pk from L.of_block MM.out rfl)
          have ZD := Lib.hid (show Met wr.drew q s r st h pk from ZZ.out)
          have QL := Lib.hid (show q < wr.drew.heap.size from (Array.getElem?_eq_some_iff.1 ZZ.out).1)
          refine wp_region_held_drew (S := Below w.heap.size w) (by kernel_rfl) hS (fun _ => ?_)
          refine takeAt 0 76 (.pointer (some ⟨p, 0, none⟩)) rfl rfl (by kernel_rfl) (by kernel_rfl) (by kernel_rfl) (fun _ _ _ h => h) (yields (by rfl) (fun w => by kernel_rfl)) hS ?_
          simp only [Act.put, List.setIfInBounds_toArray, List.set_cons_zero, List.set_cons_succ]
          refine takeAt 1 77 (.slice (some ⟨b, off, none⟩) n cap) rfl rfl (by kernel_rfl) (by kernel_rfl) (by kernel_rfl) (fun _ _ _ h => h) (yields (by rfl) (fun w => by kernel_rfl)) hS ?_
          simp only [Act.put, List.setIfInBounds_toArray, List.set_cons_zero, List.set_cons_succ]
          refine takeAt 2 78 (.int .i64 (k : Int)) rfl rfl (by kernel_rfl) (by kernel_rfl) (by kernel_rfl) (fun _ _ _ h => h) (yields (by rfl) (fun w => by kernel_rfl)) hS ?_
          simp only [Act.put, List.setIfInBounds_toArray, List.set_cons_zero, List.set_cons_succ]
          refine takeAt 3 79 (.pointer (some ⟨b, off + k, none⟩)) rfl rfl (by kernel_rfl) (by kernel_rfl) (by kernel_rfl) (fun _ _ _ h => h) (idxI_y b off n cap k hlt rfl rfl rfl (by rfl)) hS ?_
          simp only [Act.put, List.setIfInBounds_toArray, List.set_cons_zero, List.set_cons_succ]
          refine takeAt 4 80 (.int .i64 x) rfl rfl (by kernel_rfl) (by kernel_rfl) (by kernel_rfl) (fun _ _ _ h => h) (loadI_y b (off + k) x (fun u h => (h.cell (p := ⟨b, off + k, none⟩) hbw).trans hcell) rfl rfl (by rfl)) hS ?_
          simp only [Act.put, List.setIfInBounds_toArray, List.set_cons_zero, List.set_cons_succ]
          refine takeAt 6 82 (.pointer (some ⟨q, 0, none⟩)) rfl rfl (by kernel_rfl) (by kernel_rfl) (by kernel_rfl) (fun _ _ _ h => h) (yields (by rfl) (fun w => by kernel_rfl)) hS ?_
          simp only [Act.put, List.setIfInBounds_toArray, List.set_cons_zero, List.set_cons_succ]
          refine takeAt 7 83 (.slice (some ⟨b, off, none⟩) n cap) rfl rfl (by kernel_rfl) (by kernel_rfl) (by kernel_rfl) (fun _ _ _ h => h) (yields (by rfl) (fun w => by kernel_rfl)) hS ?_
          simp only [Act.put, List.setIfInBounds_toArray, List.set_cons_zero, List.set_cons_succ]
          refine takeAt 8 84 (.int .i64 (k : Int)) rfl rfl (by kernel_rfl) (by kernel_rfl) (by kernel_rfl) (fun _ _ _ h => h) (yields (by rfl) (fun w => by kernel_rfl)) hS ?_
          simp only [Act.put, List.setIfInBounds_toArray, List.set_cons_zero, List.set_cons_succ]
          refine takeAt 9 85 (.pointer (some ⟨b, off + k, none⟩)) rfl rfl (by kernel_rfl) (by kernel_rfl) (by kernel_rfl) (fun _ _ _ h => h) (idxI_y b off n cap k hlt rfl rfl rfl (by rfl)) hS ?_
          simp only [Act.put, List.setIfInBounds_toArray, List.set_cons_zero, List.set_cons_succ]
          refine takeAt 10 86 (.int .i64 x) rfl rfl (by kernel_rfl) (by kernel_rfl) (by kernel_rfl) (fun _ _ _ h => h) (loadI_y b (off + k) x (fun u h => (h.cell (p := ⟨b, off + k, none⟩) hbw).trans hcell) rfl rfl (by rfl)) hS ?_
          simp only [Act.put, List.setIfInBounds_toArray, List.set_cons_zero, List.set_cons_succ]
          refine callAt 5 81 rfl rfl (by kernel_rfl) (by rfl) (by kernel_rfl) (L.hold p s r st h pk x _ MD.out HH.out X0.out X1.out) ?_
          rintro e w2 ⟨rfl, m2, hb2⟩
          have hS2 := But.below hS hb2 hS.size HP.out
          refine ⟨_, rfl, hS2, ?_⟩
          have z2 : Met w2 q s r st h pk := (hb2.block q QL.out (Ne.symm PQ.out)).trans ZD.out
          have P2 := Nat.le_trans (Nat.le_of_lt QL.out) hb2.size
          simp only [Act.put, List.setIfInBounds_toArray, List.set_cons_zero, List.set_cons_succ]
          refine callAt 11 87 rfl rfl (by kernel_rfl) (by rfl) (by kernel_rfl) (rhold_any q s r st h pk x _ z2 HH.out X1.out) ?_
          rintro e w3 ⟨rfl, z3, hb3⟩
          have hS3 := But.below hS2 hb3 hS2.size HQ.out
          refine ⟨_, rfl, hS3, ?_⟩
          have m3 := L.but m2 hb3 PQ.out
          simp only [Act.put, List.setIfInBounds_toArray, List.set_cons_zero, List.set_cons_succ]
          refine takeAt 12 88 (.bool false) rfl rfl (by kernel_rfl) (by kernel_rfl) (by kernel_rfl) (fun _ _ _ h => h) (neqB_y false rfl rfl rfl (by simp) (by rfl)) hS3 ?_
          simp only [Act.put, List.setIfInBounds_toArray, List.set_cons_zero, List.set_cons_succ]
          refine wpAnyH_done (by kernel_rfl) ?_ _
          have M3 := Lib.hid m3
          have Z3 := Lib.hid z3
          have B3 := Lib.hid hS3
          clear m2 hb2 hS2 z2 P2 z3 hb3 hS3 m3 hS
          go_wp2_with fail
          refine (L.used p _ _ st (holdN h x) (max pk (holdN h x)) _ M3.out).mono ?_
          rintro e w4 ⟨rfl, hb⟩
          have M4 := Lib.hid (L.call M3.out hb)
          have Z4 := Lib.hid (show Met w4 q s r st (holdN h x) (max pk (holdN h x)) from (hb.block q (Array.getElem?_eq_some_iff.1 Z3.out).1).trans Z3.out)
          have B4 := Lib.hid (thenB B3.out hb B3.out.size)
          clear hb M3 Z3 B3
          obtain ⟨d0, d1, d2, d3, d4⟩ := Z4.out.cells
          go_wp2_with fail
          go_roundw
          case rel => exact ⟨k + 1, st, (holdN h x), (max pk (holdN h x)), by go_num, by omega, HST.out, holdN_le h x HH.out, M4.out, Z4.out, B4.out⟩
          case measure => simp [intOf]; omega
      · have h40' := Lib.hid h40
        go_wp2_with fail
        refine (fixed_any L _).mono ?_
        rintro e w2 ⟨rfl, hb⟩
        have B2 := Lib.hid (thenB BB.out hb BB.out.size)
        clear hb
        go_wp2_with fail
        go_ret
        exact ⟨rfl, B2.out⟩
    · have hlt' := Lib.hid hlt
      go_wp2_with fail
      refine (fixed_any L _).mono ?_
      rintro e w2 ⟨rfl, hb⟩
      have B2 := Lib.hid (thenB BB.out hb BB.out.size)
      clear hb
      go_wp2_with fail
      go_ret
      exact ⟨rfl, B2.out⟩

set_option maxHeartbeats 4000000 in
theorem limitCounts_no (L : LimOk) (s r : Nat) (ao so : Option Addr) (n cap n2 cap2 : Nat) (w : World) (hs : s < 18446744073709551616) (hr : r < 18446744073709551616) (ho : (okW s && okW r) = false) :
    Calls Try.prog 4 #[bud s r, .slice ao n cap, .slice so n2 cap2] w fun e w' => e = .returned (.bool true) ∧ Below w.heap.size w w' := by
  have HO := Lib.hid ho
  clear ho
  go_enter Try.func4, Try.ntmps4
  go_wp2_with fail
  refine (L.new_no _ _ _ hs hr HO.out).mono ?_
  rintro e w1 ⟨rfl, hb⟩
  have R1 := Lib.hid ((RowL.new w w.heap.size s r rfl).call hb)
  have B1 := Lib.hid (thenB (B := w.heap.size) (w := w) (by go_grown) hb (by simp))
  clear hb
  obtain ⟨c0, c1⟩ := R1.out.cells
  go_wp2_with fail
  refine (ref_any s r _).mono ?_
  rintro e w2 ⟨rfl, hb⟩
  have B2 := Lib.hid (thenB B1.out hb B1.out.size)
  clear hb B1 R1 c0 c1
  go_wp2_with fail
  refine (rnew_no s r _ hs hr HO.out).mono ?_
  rintro e w3 ⟨rfl, hb⟩
  have BB := Lib.hid (thenB B2.out hb B2.out.size)
  clear hb B2
  go_wp2_with fail
  refine wp_loop_rounds 1 ?_
  rw [rounds_succ]
  go_wp2_with fail
  refine (fixed_any L _).mono ?_
  rintro e w2 ⟨rfl, hb⟩
  have B2 := Lib.hid (thenB BB.out hb BB.out.size)
  clear hb
  go_wp2_with fail
  go_ret
  exact ⟨rfl, B2.out⟩
theorem limitCounts_walk (L : LimOk) (s r : Nat) (ao so : Option Addr) (n cap n2 cap2 : Nat) (z : Nat → Int) (bs : Nat → Bool) (w : World) (hs : s < 18446744073709551616) (hr : r < 18446744073709551616)
    (hz : ∀ i, i < n → -9223372036854775808 ≤ z i ∧ z i < 9223372036854775808) (hc : ∀ i, i < n → ∃ b off, ao = some ⟨b, off, none⟩ ∧ b < w.heap.size ∧ w.cell? ⟨b, off + i, none⟩ = some (.int .i64 (z i)))
    (hc2 : ∀ i, i < n2 → ∃ b off, so = some ⟨b, off, none⟩ ∧ b < w.heap.size ∧ w.cell? ⟨b, off + i, none⟩ = some (.bool (bs i))) :
    Calls Try.prog 4 #[bud s r, .slice ao n cap, .slice so n2 cap2] w fun e w' => e = .returned (.bool true) ∧ Below w.heap.size w w' := by
  cases ho : (okW s && okW r)
  · exact limitCounts_no L s r ao so n cap n2 cap2 w hs hr ho
  · exact limitCounts_yes L s r ao so n cap n2 cap2 z bs w hs hr ho hz hc hc2
end Go.Proofs.Ytaobbdmkkehpnaa
