/-
  The statement ClassRuns: its walk.
-/
import Derived.Test.YtobhhhopkkcdiaaDoorRunsKit
namespace Go.Proofs.YtobhhhopkkcdiaaDoor
open Go.RowKit

theorem load_run {a : Act} {o : Oper} {x : Operand} {g : Nat} {T : BitVec 256} {u : World} (hb : Box u g T) (ho : o.op = .load 25 x) (hx : a.eval x = .pointer (some ⟨g, 0, none⟩)) : (execOp a.eval o).run Tryd.prog u = .ok (.value (setV T)) u := by
  unfold execOp
  simp only [ho, hx, Instr.loadAt, Instr.sureAddr, Sem.run_bind, Sem.run_pure, Result.andThen_ok, run_loadVar_row u g _ _ _ _ _ hb Tryd.underlying25 rfl (by kernel_rfl)]
theorem unionTo_take (l : List (Nat × Nat)) (i : Nat) (p : Nat × Nat) (h : l[i]? = some p) : unionTo (l.take (i + 1)) = orS (unionTo (l.take i)) (span p.1 (p.2 + 1)) := by
  rw [← unionTo_snoc, List.take_add_one, h]
  rfl

set_option maxHeartbeats 4000000 in
set_option maxRecDepth 100000 in
theorem classRuns_walk (hfix : FixedOk) (S : BitVec 256) (w : World) (ht : TabOk w) :
    Calls Tryd.prog 5 #[setV S] w fun e w' => e = .returned (.bool true) ∧ Below w.heap.size w w' := by
  have h0 := ht.lt
  have HF := Lib.hid hfix
  have HT := Lib.hid ht
  clear hfix ht
  go_enter Tryd.func5, Tryd.ntmps5
  go_wp2_with fail
  refine (ranges_any S _).mono ?_
  rintro e w1 ⟨v, rfl, hr, hb⟩
  obtain ⟨ao, cap, rfl, hr⟩ := hr
  have hS := ((Held.start HT.out).new S).call hb
  have hw1 : w.heap.size < w1.heap.size := (hS.1 _ List.mem_cons_self).lt
  have HS := Lib.hid hS
  obtain ⟨-, -, f3, -, f5, -⟩ := runsTo_facts S 256 (Nat.le_refl _)
  have hu := union_runs S
  change (∀ p ∈ runs S, _) at f3
  change (∀ k p q, (runs S)[k]? = some p → (runs S)[k + 1]? = some q → _) at f5
  have hn := runsTo_length S 256
  change (runs S).length ≤ 256 at hn
  generalize runs S = l at *
  have F3 := Lib.hid f3
  have F5 := Lib.hid f5
  have HR := Lib.hid hr
  have HU := Lib.hid hu
  clear f3 f5 hr hu hS hb HT
  obtain ⟨n, en⟩ : ∃ n, l.length = n := ⟨_, rfl⟩
  rw [en] at hn ⊢
  have EN := Lib.hid en
  clear en
  go_wp2_with fail
  go_loopw [5] (fun v wr => ∃ i : Nat, v = .int .i64 i ∧ i ≤ n ∧ KR w w1 S wr ∧ Box wr w1.heap.size (unionTo (l.take i))) (fun v _ => n - (intOf v).toNat)
  case atStart => exact ⟨0, rfl, Nat.zero_le _, ⟨HS.out.alloc _, (Below.refl _ w1).alloc (Nat.le_refl _) _⟩, Box.zero (heap_alloc_new _ _)⟩
  case round =>
    obtain ⟨i, rfl, hi, hk, hbx⟩ := hrel
    by_cases hlt : i < n
    · obtain ⟨p, hp⟩ : ∃ p, l[i]? = some p := ⟨_, List.getElem?_eq_getElem (by have := EN.out; omega)⟩
      obtain ⟨r, hr, rfl, hc⟩ : ∃ r, r < w1.heap.size ∧ ao = some ⟨r, 0, none⟩ ∧ ∀ (i : Nat) (p : Nat × Nat), l[i]? = some p → w1.cell? ⟨r, i * 2, none⟩ = some (.int .u8 (p.1 : Int)) ∧ w1.cell? ⟨r, i * 2 + 1, none⟩ = some (.int .u8 (p.2 : Int)) := by
        rcases HR.out with h | h
        · rw [h] at hp; simp at hp
        · exact h
      have HV := Lib.hid (unionTo_take l i p hp)
      have hpp := F3.out p (List.mem_of_getElem? hp)
      obtain ⟨q1, q2⟩ := hc i p hp
      have c1 := (hk.2.cell (p := ⟨r, i * 2, none⟩) hr).trans q1
      have c2 := (hk.2.cell (p := ⟨r, i * 2 + 1, none⟩) hr).trans q2
      have HC := Lib.hid hc
      have HP := Lib.hid hp
      clear hc hp
      obtain ⟨p1, p2⟩ := p
      simp only at hpp q1 q2 c1 c2
      have HK := Lib.hid hk
      have HX := Lib.hid hbx
      have Q1 := Lib.hid q1
      have Q2 := Lib.hid q2
      clear q1 q2
      have d1 : decide ((p2 : Int) < (p1 : Int)) = false := by simp; omega
      have i0 : (0 : Int) ≤ i := by omega
      have i1 : (i : Int) < n := by omega
      generalize hUU : unionTo (l.take i) = U at hbx HX HV
      clear hk hbx
      by_cases hz : i = 0
      · have d2 : decide ((0 : Int) < (i : Int)) = false := by simp only [decide_eq_false_iff_not]; omega
        clear c1 c2 HC HP hz
        go_wp2
        have hS := HK.out.drew
        have q1 := Q1.out
        have q2 := Q2.out
        refine wp_region_held_drew (S := KR w w1 S) (by kernel_rfl) hS (fun _ => ?_)
        refine takeAt 0 15 (.slice (some ⟨r, 0, none⟩) n cap) rfl rfl (by kernel_rfl) (by kernel_rfl) (by kernel_rfl) (fun _ _ _ h => h) (yields (by rfl) (fun w => by kernel_rfl)) hS ?_
        simp only [Act.put, List.setIfInBounds_toArray, List.set_cons_zero, List.set_cons_succ]
        refine takeAt 1 16 (.int .i64 (i : Int)) rfl rfl (by kernel_rfl) (by kernel_rfl) (by kernel_rfl) (fun _ _ _ h => h) (yields (by rfl) (fun w => by kernel_rfl)) hS ?_
        simp only [Act.put, List.setIfInBounds_toArray, List.set_cons_zero, List.set_cons_succ]
        refine takeAt 2 17 (.pointer (some ⟨r, i * 2, none⟩)) rfl rfl (by kernel_rfl) (by kernel_rfl) (by kernel_rfl) (fun _ _ _ h => h) (row_y r i n cap hlt rfl rfl rfl (by rfl)) hS ?_
        simp only [Act.put, List.setIfInBounds_toArray, List.set_cons_zero, List.set_cons_succ]
        refine takeAt 3 18 (.pointer (some ⟨r, i * 2, none⟩)) rfl rfl (by kernel_rfl) (by kernel_rfl) (by kernel_rfl) (fun _ _ _ h => h) (pair0_y r (i * 2) rfl rfl rfl (by rfl)) hS ?_
        simp only [Act.put, List.setIfInBounds_toArray, List.set_cons_zero, List.set_cons_succ]
        refine takeAt 4 19 (.int .u8 ((p1 : Nat) : Int)) rfl rfl (by kernel_rfl) (by kernel_rfl) (by kernel_rfl) (fun _ _ _ h => h) (byte_y p1 hr q1 rfl rfl (by rfl)) hS ?_
        simp only [Act.put, List.setIfInBounds_toArray, List.set_cons_zero, List.set_cons_succ]
        refine takeAt 5 20 (.slice (some ⟨r, 0, none⟩) n cap) rfl rfl (by kernel_rfl) (by kernel_rfl) (by kernel_rfl) (fun _ _ _ h => h) (yields (by rfl) (fun w => by kernel_rfl)) hS ?_
        simp only [Act.put, List.setIfInBounds_toArray, List.set_cons_zero, List.set_cons_succ]
        refine takeAt 6 21 (.int .i64 (i : Int)) rfl rfl (by kernel_rfl) (by kernel_rfl) (by kernel_rfl) (fun _ _ _ h => h) (yields (by rfl) (fun w => by kernel_rfl)) hS ?_
        simp only [Act.put, List.setIfInBounds_toArray, List.set_cons_zero, List.set_cons_succ]
        refine takeAt 7 22 (.pointer (some ⟨r, i * 2, none⟩)) rfl rfl (by kernel_rfl) (by kernel_rfl) (by kernel_rfl) (fun _ _ _ h => h) (row_y r i n cap hlt rfl rfl rfl (by rfl)) hS ?_
        simp only [Act.put, List.setIfInBounds_toArray, List.set_cons_zero, List.set_cons_succ]
        refine takeAt 8 23 (.pointer (some ⟨r, i * 2 + 1, none⟩)) rfl rfl (by kernel_rfl) (by kernel_rfl) (by kernel_rfl) (fun _ _ _ h => h) (pair1_y r (i * 2) rfl rfl rfl (by rfl)) hS ?_
        simp only [Act.put, List.setIfInBounds_toArray, List.set_cons_zero, List.set_cons_succ]
        refine takeAt 9 24 (.int .u8 ((p2 : Nat) : Int)) rfl rfl (by kernel_rfl) (by kernel_rfl) (by kernel_rfl) (fun _ _ _ h => h) (byte_y p2 hr q2 rfl rfl (by rfl)) hS ?_
        simp only [Act.put, List.setIfInBounds_toArray, List.set_cons_zero, List.set_cons_succ]
        refine takeAt 10 25 (.bool false) rfl rfl (by kernel_rfl) (by kernel_rfl) (by kernel_rfl) (fun _ _ _ h => h) (gtr8_y false rfl rfl rfl d1 (by rfl)) hS ?_
        simp only [Act.put, List.setIfInBounds_toArray, List.set_cons_zero, List.set_cons_succ]
        refine takeAt 11 26 (.bool false) rfl rfl (by kernel_rfl) (by kernel_rfl) (by kernel_rfl) (fun _ _ _ h => h) (yields (by rfl) (fun w => by kernel_rfl)) hS ?_
        simp only [Act.put, List.setIfInBounds_toArray, List.set_cons_zero, List.set_cons_succ]
        refine takeAt 12 27 (.int .i64 (i : Int)) rfl rfl (by kernel_rfl) (by kernel_rfl) (by kernel_rfl) (fun _ _ _ h => h) (yields (by rfl) (fun w => by kernel_rfl)) hS ?_
        simp only [Act.put, List.setIfInBounds_toArray, List.set_cons_zero, List.set_cons_succ]
        refine takeAt 13 28 (.bool false) rfl rfl (by kernel_rfl) (by kernel_rfl) (by kernel_rfl) (fun _ _ _ h => h) (gtr64_y false rfl rfl rfl d2 (by rfl)) hS ?_
        simp only [Act.put, List.setIfInBounds_toArray, List.set_cons_zero, List.set_cons_succ]
        refine takeAt 14 29 (.bool false) rfl rfl (by kernel_rfl) (by kernel_rfl) (by kernel_rfl) (fun _ _ _ h => h) (yields (by rfl) (fun w => by kernel_rfl)) hS ?_
        simp only [Act.put, List.setIfInBounds_toArray, List.set_cons_zero, List.set_cons_succ]
        refine takeAt 15 30 undef rfl rfl (by kernel_rfl) (by kernel_rfl) (by kernel_rfl) (fun _ _ _ h => h) (skipped (by rfl)) hS ?_
        simp only [Act.put, List.setIfInBounds_toArray, List.set_cons_zero, List.set_cons_succ]
        refine takeAt 16 31 undef rfl rfl (by kernel_rfl) (by kernel_rfl) (by kernel_rfl) (fun _ _ _ h => h) (skipped (by rfl)) hS ?_
        simp only [Act.put, List.setIfInBounds_toArray, List.set_cons_zero, List.set_cons_succ]
        refine takeAt 17 32 undef rfl rfl (by kernel_rfl) (by kernel_rfl) (by kernel_rfl) (fun _ _ _ h => h) (skipped (by rfl)) hS ?_
        simp only [Act.put, List.setIfInBounds_toArray, List.set_cons_zero, List.set_cons_succ]
        refine takeAt 18 33 undef rfl rfl (by kernel_rfl) (by kernel_rfl) (by kernel_rfl) (fun _ _ _ h => h) (skipped (by rfl)) hS ?_
        simp only [Act.put, List.setIfInBounds_toArray, List.set_cons_zero, List.set_cons_succ]
        refine takeAt 19 34 undef rfl rfl (by kernel_rfl) (by kernel_rfl) (by kernel_rfl) (fun _ _ _ h => h) (skipped (by rfl)) hS ?_
        simp only [Act.put, List.setIfInBounds_toArray, List.set_cons_zero, List.set_cons_succ]
        refine takeAt 20 35 undef rfl rfl (by kernel_rfl) (by kernel_rfl) (by kernel_rfl) (fun _ _ _ h => h) (skipped (by rfl)) hS ?_
        simp only [Act.put, List.setIfInBounds_toArray, List.set_cons_zero, List.set_cons_succ]
        refine takeAt 21 36 undef rfl rfl (by kernel_rfl) (by kernel_rfl) (by kernel_rfl) (fun _ _ _ h => h) (skipped (by rfl)) hS ?_
        simp only [Act.put, List.setIfInBounds_toArray, List.set_cons_zero, List.set_cons_succ]
        refine takeAt 22 37 undef rfl rfl (by kernel_rfl) (by kernel_rfl) (by kernel_rfl) (fun _ _ _ h => h) (skipped (by rfl)) hS ?_
        simp only [Act.put, List.setIfInBounds_toArray, List.set_cons_zero, List.set_cons_succ]
        refine takeAt 23 38 undef rfl rfl (by kernel_rfl) (by kernel_rfl) (by kernel_rfl) (fun _ _ _ h => h) (skipped (by rfl)) hS ?_
        simp only [Act.put, List.setIfInBounds_toArray, List.set_cons_zero, List.set_cons_succ]
        refine takeAt 24 39 undef rfl rfl (by kernel_rfl) (by kernel_rfl) (by kernel_rfl) (fun _ _ _ h => h) (skipped (by rfl)) hS ?_
        simp only [Act.put, List.setIfInBounds_toArray, List.set_cons_zero, List.set_cons_succ]
        refine takeAt 25 40 undef rfl rfl (by kernel_rfl) (by kernel_rfl) (by kernel_rfl) (fun _ _ _ h => h) (skipped (by rfl)) hS ?_
        simp only [Act.put, List.setIfInBounds_toArray, List.set_cons_zero, List.set_cons_succ]
        refine takeAt 26 41 undef rfl rfl (by kernel_rfl) (by kernel_rfl) (by kernel_rfl) (fun _ _ _ h => h) (skipped (by rfl)) hS ?_
        simp only [Act.put, List.setIfInBounds_toArray, List.set_cons_zero, List.set_cons_succ]
        refine takeAt 27 42 undef rfl rfl (by kernel_rfl) (by kernel_rfl) (by kernel_rfl) (fun _ _ _ h => h) (skipped (by rfl)) hS ?_
        simp only [Act.put, List.setIfInBounds_toArray, List.set_cons_zero, List.set_cons_succ]
        refine takeAt 28 43 undef rfl rfl (by kernel_rfl) (by kernel_rfl) (by kernel_rfl) (fun _ _ _ h => h) (skipped (by rfl)) hS ?_
        simp only [Act.put, List.setIfInBounds_toArray, List.set_cons_zero, List.set_cons_succ]
        refine takeAt 29 44 undef rfl rfl (by kernel_rfl) (by kernel_rfl) (by kernel_rfl) (fun _ _ _ h => h) (skipped (by rfl)) hS ?_
        simp only [Act.put, List.setIfInBounds_toArray, List.set_cons_zero, List.set_cons_succ]
        refine takeAt 30 45 (.bool false) rfl rfl (by kernel_rfl) (by kernel_rfl) (by kernel_rfl) (fun _ _ _ h => h) (yields (by rfl) (fun w => by kernel_rfl)) hS ?_
        simp only [Act.put, List.setIfInBounds_toArray, List.set_cons_zero, List.set_cons_succ]
        refine takeAt 31 46 (.bool false) rfl rfl (by kernel_rfl) (by kernel_rfl) (by kernel_rfl) (fun _ _ _ h => h) (yields (by rfl) (fun w => by kernel_rfl)) hS ?_
        simp only [Act.put, List.setIfInBounds_toArray, List.set_cons_zero, List.set_cons_succ]
        refine wpAnyH_done (by kernel_rfl) ?_ _
        clear hS
        have HK := Lib.hid HK.out.drew
        have HX := Lib.hid HX.out.drew
        go_wp2
        have hS := HK.out.drew
        have hX := HX.out.drew
        clear HK HX
        refine wp_region_held_drew (S := KR w w1 S) (by kernel_rfl) hS (fun _ => ?_)
        refine takeAt 1 48 (.slice (some ⟨r, 0, none⟩) n cap) rfl rfl (by kernel_rfl) (by kernel_rfl) (by kernel_rfl) (fun _ _ _ h => h) (yields (by rfl) (fun w => by kernel_rfl)) hS ?_
        simp only [Act.put, List.setIfInBounds_toArray, List.set_cons_zero, List.set_cons_succ]
        refine takeAt 2 49 (.int .i64 (i : Int)) rfl rfl (by kernel_rfl) (by kernel_rfl) (by kernel_rfl) (fun _ _ _ h => h) (yields (by rfl) (fun w => by kernel_rfl)) hS ?_
        simp only [Act.put, List.setIfInBounds_toArray, List.set_cons_zero, List.set_cons_succ]
        refine takeAt 3 50 (.pointer (some ⟨r, i * 2, none⟩)) rfl rfl (by kernel_rfl) (by kernel_rfl) (by kernel_rfl) (fun _ _ _ h => h) (row_y r i n cap hlt rfl rfl rfl (by rfl)) hS ?_
        simp only [Act.put, List.setIfInBounds_toArray, List.set_cons_zero, List.set_cons_succ]
        refine takeAt 4 51 (.pointer (some ⟨r, i * 2, none⟩)) rfl rfl (by kernel_rfl) (by kernel_rfl) (by kernel_rfl) (fun _ _ _ h => h) (pair0_y r (i * 2) rfl rfl rfl (by rfl)) hS ?_
        simp only [Act.put, List.setIfInBounds_toArray, List.set_cons_zero, List.set_cons_succ]
        refine takeAt 5 52 (.int .u8 ((p1 : Nat) : Int)) rfl rfl (by kernel_rfl) (by kernel_rfl) (by kernel_rfl) (fun _ _ _ h => h) (byte_y p1 hr q1 rfl rfl (by rfl)) hS ?_
        simp only [Act.put, List.setIfInBounds_toArray, List.set_cons_zero, List.set_cons_succ]
        refine takeAt 6 53 (.slice (some ⟨r, 0, none⟩) n cap) rfl rfl (by kernel_rfl) (by kernel_rfl) (by kernel_rfl) (fun _ _ _ h => h) (yields (by rfl) (fun w => by kernel_rfl)) hS ?_
        simp only [Act.put, List.setIfInBounds_toArray, List.set_cons_zero, List.set_cons_succ]
        refine takeAt 7 54 (.int .i64 (i : Int)) rfl rfl (by kernel_rfl) (by kernel_rfl) (by kernel_rfl) (fun _ _ _ h => h) (yields (by rfl) (fun w => by kernel_rfl)) hS ?_
        simp only [Act.put, List.setIfInBounds_toArray, List.set_cons_zero, List.set_cons_succ]
        refine takeAt 8 55 (.pointer (some ⟨r, i * 2, none⟩)) rfl rfl (by kernel_rfl) (by kernel_rfl) (by kernel_rfl) (fun _ _ _ h => h) (row_y r i n cap hlt rfl rfl rfl (by rfl)) hS ?_
        simp only [Act.put, List.setIfInBounds_toArray, List.set_cons_zero, List.set_cons_succ]
        refine takeAt 9 56 (.pointer (some ⟨r, i * 2 + 1, none⟩)) rfl rfl (by kernel_rfl) (by kernel_rfl) (by kernel_rfl) (fun _ _ _ h => h) (pair1_y r (i * 2) rfl rfl rfl (by rfl)) hS ?_
        simp only [Act.put, List.setIfInBounds_toArray, List.set_cons_zero, List.set_cons_succ]
        refine takeAt 10 57 (.int .u8 ((p2 : Nat) : Int)) rfl rfl (by kernel_rfl) (by kernel_rfl) (by kernel_rfl) (fun _ _ _ h => h) (byte_y p2 hr q2 rfl rfl (by rfl)) hS ?_
        simp only [Act.put, List.setIfInBounds_toArray, List.set_cons_zero, List.set_cons_succ]
        refine wpAnyH_ready (rs := [0, 11]) (by kernel_rfl) (by simp) (AllReadyH.cons rfl (valStep 0 47 (setV U) _ rfl (by rfl) (load_run hX rfl rfl) hS ?_) (AllReadyH.cons rfl (callStep 11 58 rfl (by rfl) (by kernel_rfl) (range_k _ _ p1 p2 _ rfl rfl (by omega) (by omega)) ?_) AllReadyH.nil))
        · simp only [Act.put, List.setIfInBounds_toArray, List.set_cons_zero, List.set_cons_succ]
          refine callAt 11 58 rfl rfl (by kernel_rfl) (by rfl) (by kernel_rfl) (range_k _ _ p1 p2 _ rfl rfl (by omega) (by omega)) ?_
          rintro e w2 ⟨rfl, hb⟩
          refine ⟨_, rfl, hS.call hb, ?_⟩
          have hS2 := hS.call hb
          have hX2 := hX.call hb
          clear hS hX hb
          simp only [Act.put, List.setIfInBounds_toArray, List.set_cons_zero, List.set_cons_succ]
          refine callAt 12 59 rfl rfl (by kernel_rfl) (by rfl) (by kernel_rfl) (or_k U (span p1 (p2 + 1)) _) ?_
          rintro e w3 ⟨rfl, hb⟩
          refine ⟨_, rfl, hS2.call hb, ?_⟩
          have hS3 := hS2.call hb
          have hX3 := hX2.call hb
          clear hS2 hX2 hb
          simp only [Act.put, List.setIfInBounds_toArray, List.set_cons_zero, List.set_cons_succ]
          refine wpAnyH_ready (rs := [13]) (by kernel_rfl) (by simp) (AllReadyH.cons rfl (storeSet 13 w1.heap.size U (orS U (span p1 (p2 + 1))) rfl rfl (by rfl) rfl rfl hX3 (hS3.row _ h0 hw1) ?_) AllReadyH.nil)
          refine wpAnyH_done (by kernel_rfl) ?_ _
          have HK := Lib.hid (hS3.row (rowW (orS U (span p1 (p2 + 1)))) h0 hw1)
          have HX := Lib.hid (hX3.rowSame (orS U (span p1 (p2 + 1))))
          clear hS3 hX3
          go_wp2_with fail
          go_roundw
          case rel => exact ⟨i + 1, by go_num, by omega, HK.out, by rw [HV.out]; exact HX.out⟩
          case measure => simp [intOf]; omega
        · rintro e w2 ⟨rfl, hb⟩
          refine ⟨_, rfl, hS.call hb, ?_⟩
          have hS2 := hS.call hb
          have hX2 := hX.call hb
          clear hS hX hb
          simp only [Act.put, List.setIfInBounds_toArray, List.set_cons_zero, List.set_cons_succ]
          refine wpAnyH_ready (rs := [0]) (by kernel_rfl) (by simp) (AllReadyH.cons rfl (valStep 0 47 (setV U) _ rfl (by rfl) (load_run hX2 rfl rfl) hS2 ?_) AllReadyH.nil)
          simp only [Act.put, List.setIfInBounds_toArray, List.set_cons_zero, List.set_cons_succ]
          refine callAt 12 59 rfl rfl (by kernel_rfl) (by rfl) (by kernel_rfl) (or_k U (span p1 (p2 + 1)) _) ?_
          rintro e w3 ⟨rfl, hb⟩
          refine ⟨_, rfl, hS2.call hb, ?_⟩
          have hS3 := hS2.call hb
          have hX3 := hX2.call hb
          clear hS2 hX2 hb
          simp only [Act.put, List.setIfInBounds_toArray, List.set_cons_zero, List.set_cons_succ]
          refine wpAnyH_ready (rs := [13]) (by kernel_rfl) (by simp) (AllReadyH.cons rfl (storeSet 13 w1.heap.size U (orS U (span p1 (p2 + 1))) rfl rfl (by rfl) rfl rfl hX3 (hS3.row _ h0 hw1) ?_) AllReadyH.nil)
          refine wpAnyH_done (by kernel_rfl) ?_ _
          have HK := Lib.hid (hS3.row (rowW (orS U (span p1 (p2 + 1)))) h0 hw1)
          have HX := Lib.hid (hX3.rowSame (orS U (span p1 (p2 + 1))))
          clear hS3 hX3
          go_wp2_with fail
          go_roundw
          case rel => exact ⟨i + 1, by go_num, by omega, HK.out, by rw [HV.out]; exact HX.out⟩
          case measure => simp [intOf]; omega
      · obtain ⟨k, hik⟩ : ∃ k, i = k + 1 := ⟨i - 1, by omega⟩
        obtain ⟨q, hq⟩ : ∃ q, l[k]? = some q := ⟨_, List.getElem?_eq_getElem (by have := EN.out; omega)⟩
        have q3 := (HC.out k q hq).2
        have g1 := F5.out k q (p1, p2) hq (by rw [← hik]; exact HP.out)
        have g2 := F3.out _ (List.mem_of_getElem? hq)
        clear hq
        obtain ⟨s1, s2⟩ := q
        simp only at g1 g2 q3
        have d2 : decide ((0 : Int) < (i : Int)) = true := by simp only [decide_eq_true_eq]; omega
        have d3 : decide ((p1 : Int) ≤ (s2 : Int) + 1) = false := by simp only [decide_eq_false_iff_not]; omega
        have e1 : ((i : Int) - 1) = (k : Int) := by omega
        have hkn : k < n := by omega
        clear c1 c2 HC HP hz hik
        go_wp2
        have hS := HK.out.drew
        have q1 := Q1.out
        have q2 := Q2.out
        refine wp_region_held_drew (S := KR w w1 S) (by kernel_rfl) hS (fun _ => ?_)
        refine takeAt 0 15 (.slice (some ⟨r, 0, none⟩) n cap) rfl rfl (by kernel_rfl) (by kernel_rfl) (by kernel_rfl) (fun _ _ _ h => h) (yields (by rfl) (fun w => by kernel_rfl)) hS ?_
        simp only [Act.put, List.setIfInBounds_toArray, List.set_cons_zero, List.set_cons_succ]
        refine takeAt 1 16 (.int .i64 (i : Int)) rfl rfl (by kernel_rfl) (by kernel_rfl) (by kernel_rfl) (fun _ _ _ h => h) (yields (by rfl) (fun w => by kernel_rfl)) hS ?_
        simp only [Act.put, List.setIfInBounds_toArray, List.set_cons_zero, List.set_cons_succ]
        refine takeAt 2 17 (.pointer (some ⟨r, i * 2, none⟩)) rfl rfl (by kernel_rfl) (by kernel_rfl) (by kernel_rfl) (fun _ _ _ h => h) (row_y r i n cap hlt rfl rfl rfl (by rfl)) hS ?_
        simp only [Act.put, List.setIfInBounds_toArray, List.set_cons_zero, List.set_cons_succ]
        refine takeAt 3 18 (.pointer (some ⟨r, i * 2, none⟩)) rfl rfl (by kernel_rfl) (by kernel_rfl) (by kernel_rfl) (fun _ _ _ h => h) (pair0_y r (i * 2) rfl rfl rfl (by rfl)) hS ?_
        simp only [Act.put, List.setIfInBounds_toArray, List.set_cons_zero, List.set_cons_succ]
        refine takeAt 4 19 (.int .u8 ((p1 : Nat) : Int)) rfl rfl (by kernel_rfl) (by kernel_rfl) (by kernel_rfl) (fun _ _ _ h => h) (byte_y p1 hr q1 rfl rfl (by rfl)) hS ?_
        simp only [Act.put, List.setIfInBounds_toArray, List.set_cons_zero, List.set_cons_succ]
        refine takeAt 5 20 (.slice (some ⟨r, 0, none⟩) n cap) rfl rfl (by kernel_rfl) (by kernel_rfl) (by kernel_rfl) (fun _ _ _ h => h) (yields (by rfl) (fun w => by kernel_rfl)) hS ?_
        simp only [Act.put, List.setIfInBounds_toArray, List.set_cons_zero, List.set_cons_succ]
        refine takeAt 6 21 (.int .i64 (i : Int)) rfl rfl (by kernel_rfl) (by kernel_rfl) (by kernel_rfl) (fun _ _ _ h => h) (yields (by rfl) (fun w => by kernel_rfl)) hS ?_
        simp only [Act.put, List.setIfInBounds_toArray, List.set_cons_zero, List.set_cons_succ]
        refine takeAt 7 22 (.pointer (some ⟨r, i * 2, none⟩)) rfl rfl (by kernel_rfl) (by kernel_rfl) (by kernel_rfl) (fun _ _ _ h => h) (row_y r i n cap hlt rfl rfl rfl (by rfl)) hS ?_
        simp only [Act.put, List.setIfInBounds_toArray, List.set_cons_zero, List.set_cons_succ]
        refine takeAt 8 23 (.pointer (some ⟨r, i * 2 + 1, none⟩)) rfl rfl (by kernel_rfl) (by kernel_rfl) (by kernel_rfl) (fun _ _ _ h => h) (pair1_y r (i * 2) rfl rfl rfl (by rfl)) hS ?_
        simp only [Act.put, List.setIfInBounds_toArray, List.set_cons_zero, List.set_cons_succ]
        refine takeAt 9 24 (.int .u8 ((p2 : Nat) : Int)) rfl rfl (by kernel_rfl) (by kernel_rfl) (by kernel_rfl) (fun _ _ _ h => h) (byte_y p2 hr q2 rfl rfl (by rfl)) hS ?_
        simp only [Act.put, List.setIfInBounds_toArray, List.set_cons_zero, List.set_cons_succ]
        refine takeAt 10 25 (.bool false) rfl rfl (by kernel_rfl) (by kernel_rfl) (by kernel_rfl) (fun _ _ _ h => h) (gtr8_y false rfl rfl rfl d1 (by rfl)) hS ?_
        simp only [Act.put, List.setIfInBounds_toArray, List.set_cons_zero, List.set_cons_succ]
        refine takeAt 11 26 (.bool false) rfl rfl (by kernel_rfl) (by kernel_rfl) (by kernel_rfl) (fun _ _ _ h => h) (yields (by rfl) (fun w => by kernel_rfl)) hS ?_
        simp only [Act.put, List.setIfInBounds_toArray, List.set_cons_zero, List.set_cons_succ]
        refine takeAt 12 27 (.int .i64 (i : Int)) rfl rfl (by kernel_rfl) (by kernel_rfl) (by kernel_rfl) (fun _ _ _ h => h) (yields (by rfl) (fun w => by kernel_rfl)) hS ?_
        simp only [Act.put, List.setIfInBounds_toArray, List.set_cons_zero, List.set_cons_succ]
        refine takeAt 13 28 (.bool true) rfl rfl (by kernel_rfl) (by kernel_rfl) (by kernel_rfl) (fun _ _ _ h => h) (gtr64_y true rfl rfl rfl d2 (by rfl)) hS ?_
        simp only [Act.put, List.setIfInBounds_toArray, List.set_cons_zero, List.set_cons_succ]
        refine takeAt 14 29 (.bool true) rfl rfl (by kernel_rfl) (by kernel_rfl) (by kernel_rfl) (fun _ _ _ h => h) (yields (by rfl) (fun w => by kernel_rfl)) hS ?_
        simp only [Act.put, List.setIfInBounds_toArray, List.set_cons_zero, List.set_cons_succ]
        refine takeAt 15 30 (.slice (some ⟨r, 0, none⟩) n cap) rfl rfl (by kernel_rfl) (by kernel_rfl) (by kernel_rfl) (fun _ _ _ h => h) (yields (by rfl) (fun w => by kernel_rfl)) hS ?_
        simp only [Act.put, List.setIfInBounds_toArray, List.set_cons_zero, List.set_cons_succ]
        refine takeAt 16 31 (.int .i64 (i : Int)) rfl rfl (by kernel_rfl) (by kernel_rfl) (by kernel_rfl) (fun _ _ _ h => h) (yields (by rfl) (fun w => by kernel_rfl)) hS ?_
        simp only [Act.put, List.setIfInBounds_toArray, List.set_cons_zero, List.set_cons_succ]
        refine takeAt 17 32 (.pointer (some ⟨r, i * 2, none⟩)) rfl rfl (by kernel_rfl) (by kernel_rfl) (by kernel_rfl) (fun _ _ _ h => h) (row_y r i n cap hlt rfl rfl rfl (by rfl)) hS ?_
        simp only [Act.put, List.setIfInBounds_toArray, List.set_cons_zero, List.set_cons_succ]
        refine takeAt 18 33 (.pointer (some ⟨r, i * 2, none⟩)) rfl rfl (by kernel_rfl) (by kernel_rfl) (by kernel_rfl) (fun _ _ _ h => h) (pair0_y r (i * 2) rfl rfl rfl (by rfl)) hS ?_
        simp only [Act.put, List.setIfInBounds_toArray, List.set_cons_zero, List.set_cons_succ]
        refine takeAt 19 34 (.int .u8 ((p1 : Nat) : Int)) rfl rfl (by kernel_rfl) (by kernel_rfl) (by kernel_rfl) (fun _ _ _ h => h) (byte_y p1 hr q1 rfl rfl (by rfl)) hS ?_
        simp only [Act.put, List.setIfInBounds_toArray, List.set_cons_zero, List.set_cons_succ]
        refine takeAt 20 35 (.int .i64 (p1 : Int)) rfl rfl (by kernel_rfl) (by kernel_rfl) (by kernel_rfl) (fun _ _ _ h => h) (conv8_y rfl rfl (by omega) (by omega) (by rfl)) hS ?_
        simp only [Act.put, List.setIfInBounds_toArray, List.set_cons_zero, List.set_cons_succ]
        refine takeAt 21 36 (.slice (some ⟨r, 0, none⟩) n cap) rfl rfl (by kernel_rfl) (by kernel_rfl) (by kernel_rfl) (fun _ _ _ h => h) (yields (by rfl) (fun w => by kernel_rfl)) hS ?_
        simp only [Act.put, List.setIfInBounds_toArray, List.set_cons_zero, List.set_cons_succ]
        refine takeAt 22 37 (.int .i64 (i : Int)) rfl rfl (by kernel_rfl) (by kernel_rfl) (by kernel_rfl) (fun _ _ _ h => h) (yields (by rfl) (fun w => by kernel_rfl)) hS ?_
        simp only [Act.put, List.setIfInBounds_toArray, List.set_cons_zero, List.set_cons_succ]
        refine takeAt 23 38 (.int .i64 (k : Int)) rfl rfl (by kernel_rfl) (by kernel_rfl) (by kernel_rfl) (fun _ _ _ h => h) (sub64_y (k : Int) rfl rfl rfl e1 (by omega) (by omega) (by omega) (by omega) (by rfl)) hS ?_
        simp only [Act.put, List.setIfInBounds_toArray, List.set_cons_zero, List.set_cons_succ]
        refine takeAt 24 39 (.pointer (some ⟨r, k * 2, none⟩)) rfl rfl (by kernel_rfl) (by kernel_rfl) (by kernel_rfl) (fun _ _ _ h => h) (row_y r k n cap hkn rfl rfl rfl (by rfl)) hS ?_
        simp only [Act.put, List.setIfInBounds_toArray, List.set_cons_zero, List.set_cons_succ]
        refine takeAt 25 40 (.pointer (some ⟨r, k * 2 + 1, none⟩)) rfl rfl (by kernel_rfl) (by kernel_rfl) (by kernel_rfl) (fun _ _ _ h => h) (pair1_y r (k * 2) rfl rfl rfl (by rfl)) hS ?_
        simp only [Act.put, List.setIfInBounds_toArray, List.set_cons_zero, List.set_cons_succ]
        refine takeAt 26 41 (.int .u8 ((s2 : Nat) : Int)) rfl rfl (by kernel_rfl) (by kernel_rfl) (by kernel_rfl) (fun _ _ _ h => h) (byte_y s2 hr q3 rfl rfl (by rfl)) hS ?_
        simp only [Act.put, List.setIfInBounds_toArray, List.set_cons_zero, List.set_cons_succ]
        refine takeAt 27 42 (.int .i64 (s2 : Int)) rfl rfl (by kernel_rfl) (by kernel_rfl) (by kernel_rfl) (fun _ _ _ h => h) (conv8_y rfl rfl (by omega) (by omega) (by rfl)) hS ?_
        simp only [Act.put, List.setIfInBounds_toArray, List.set_cons_zero, List.set_cons_succ]
        refine takeAt 28 43 (.int .i64 ((s2 : Int) + 1)) rfl rfl (by kernel_rfl) (by kernel_rfl) (by kernel_rfl) (fun _ _ _ h => h) (add64_y ((s2 : Int) + 1) rfl rfl rfl rfl (by omega) (by omega) (by omega) (by omega) (by rfl)) hS ?_
        simp only [Act.put, List.setIfInBounds_toArray, List.set_cons_zero, List.set_cons_succ]
        refine takeAt 29 44 (.bool false) rfl rfl (by kernel_rfl) (by kernel_rfl) (by kernel_rfl) (fun _ _ _ h => h) (leq64_y false rfl rfl rfl d3 (by rfl)) hS ?_
        simp only [Act.put, List.setIfInBounds_toArray, List.set_cons_zero, List.set_cons_succ]
        refine takeAt 30 45 (.bool false) rfl rfl (by kernel_rfl) (by kernel_rfl) (by kernel_rfl) (fun _ _ _ h => h) (yields (by rfl) (fun w => by kernel_rfl)) hS ?_
        simp only [Act.put, List.setIfInBounds_toArray, List.set_cons_zero, List.set_cons_succ]
        refine takeAt 31 46 (.bool false) rfl rfl (by kernel_rfl) (by kernel_rfl) (by kernel_rfl) (fun _ _ _ h => h) (yields (by rfl) (fun w => by kernel_rfl)) hS ?_
        simp only [Act.put, List.setIfInBounds_toArray, List.set_cons_zero, List.set_cons_succ]
        refine wpAnyH_done (by kernel_rfl) ?_ _
        clear hS
        have HK := Lib.hid HK.out.drew
        have HX := Lib.hid HX.out.drew
        go_wp2
        have hS := HK.out.drew
        have hX := HX.out.drew
        clear HK HX
        refine wp_region_held_drew (S := KR w w1 S) (by kernel_rfl) hS (fun _ => ?_)
        refine takeAt 1 48 (.slice (some ⟨r, 0, none⟩) n cap) rfl rfl (by kernel_rfl) (by kernel_rfl) (by kernel_rfl) (fun _ _ _ h => h) (yields (by rfl) (fun w => by kernel_rfl)) hS ?_
        simp only [Act.put, List.setIfInBounds_toArray, List.set_cons_zero, List.set_cons_succ]
        refine takeAt 2 49 (.int .i64 (i : Int)) rfl rfl (by kernel_rfl) (by kernel_rfl) (by kernel_rfl) (fun _ _ _ h => h) (yields (by rfl) (fun w => by kernel_rfl)) hS ?_
        simp only [Act.put, List.setIfInBounds_toArray, List.set_cons_zero, List.set_cons_succ]
        refine takeAt 3 50 (.pointer (some ⟨r, i * 2, none⟩)) rfl rfl (by kernel_rfl) (by kernel_rfl) (by kernel_rfl) (fun _ _ _ h => h) (row_y r i n cap hlt rfl rfl rfl (by rfl)) hS ?_
        simp only [Act.put, List.setIfInBounds_toArray, List.set_cons_zero, List.set_cons_succ]
        refine takeAt 4 51 (.pointer (some ⟨r, i * 2, none⟩)) rfl rfl (by kernel_rfl) (by kernel_rfl) (by kernel_rfl) (fun _ _ _ h => h) (pair0_y r (i * 2) rfl rfl rfl (by rfl)) hS ?_
        simp only [Act.put, List.setIfInBounds_toArray, List.set_cons_zero, List.set_cons_succ]
        refine takeAt 5 52 (.int .u8 ((p1 : Nat) : Int)) rfl rfl (by kernel_rfl) (by kernel_rfl) (by kernel_rfl) (fun _ _ _ h => h) (byte_y p1 hr q1 rfl rfl (by rfl)) hS ?_
        simp only [Act.put, List.setIfInBounds_toArray, List.set_cons_zero, List.set_cons_succ]
        refine takeAt 6 53 (.slice (some ⟨r, 0, none⟩) n cap) rfl rfl (by kernel_rfl) (by kernel_rfl) (by kernel_rfl) (fun _ _ _ h => h) (yields (by rfl) (fun w => by kernel_rfl)) hS ?_
        simp only [Act.put, List.setIfInBounds_toArray, List.set_cons_zero, List.set_cons_succ]
        refine takeAt 7 54 (.int .i64 (i : Int)) rfl rfl (by kernel_rfl) (by kernel_rfl) (by kernel_rfl) (fun _ _ _ h => h) (yields (by rfl) (fun w => by kernel_rfl)) hS ?_
        simp only [Act.put, List.setIfInBounds_toArray, List.set_cons_zero, List.set_cons_succ]
        refine takeAt 8 55 (.pointer (some ⟨r, i * 2, none⟩)) rfl rfl (by kernel_rfl) (by kernel_rfl) (by kernel_rfl) (fun _ _ _ h => h) (row_y r i n cap hlt rfl rfl rfl (by rfl)) hS ?_
        simp only [Act.put, List.setIfInBounds_toArray, List.set_cons_zero, List.set_cons_succ]
        refine takeAt 9 56 (.pointer (some ⟨r, i * 2 + 1, none⟩)) rfl rfl (by kernel_rfl) (by kernel_rfl) (by kernel_rfl) (fun _ _ _ h => h) (pair1_y r (i * 2) rfl rfl rfl (by rfl)) hS ?_
        simp only [Act.put, List.setIfInBounds_toArray, List.set_cons_zero, List.set_cons_succ]
        refine takeAt 10 57 (.int .u8 ((p2 : Nat) : Int)) rfl rfl (by kernel_rfl) (by kernel_rfl) (by kernel_rfl) (fun _ _ _ h => h) (byte_y p2 hr q2 rfl rfl (by rfl)) hS ?_
        simp only [Act.put, List.setIfInBounds_toArray, List.set_cons_zero, List.set_cons_succ]
        refine wpAnyH_ready (rs := [0, 11]) (by kernel_rfl) (by simp) (AllReadyH.cons rfl (valStep 0 47 (setV U) _ rfl (by rfl) (load_run hX rfl rfl) hS ?_) (AllReadyH.cons rfl (callStep 11 58 rfl (by rfl) (by kernel_rfl) (range_k _ _ p1 p2 _ rfl rfl (by omega) (by omega)) ?_) AllReadyH.nil))
        · simp only [Act.put, List.setIfInBounds_toArray, List.set_cons_zero, List.set_cons_succ]
          refine callAt 11 58 rfl rfl (by kernel_rfl) (by rfl) (by kernel_rfl) (range_k _ _ p1 p2 _ rfl rfl (by omega) (by omega)) ?_
          rintro e w2 ⟨rfl, hb⟩
          refine ⟨_, rfl, hS.call hb, ?_⟩
          have hS2 := hS.call hb
          have hX2 := hX.call hb
          clear hS hX hb
          simp only [Act.put, List.setIfInBounds_toArray, List.set_cons_zero, List.set_cons_succ]
          refine callAt 12 59 rfl rfl (by kernel_rfl) (by rfl) (by kernel_rfl) (or_k U (span p1 (p2 + 1)) _) ?_
          rintro e w3 ⟨rfl, hb⟩
          refine ⟨_, rfl, hS2.call hb, ?_⟩
          have hS3 := hS2.call hb
          have hX3 := hX2.call hb
          clear hS2 hX2 hb
          simp only [Act.put, List.setIfInBounds_toArray, List.set_cons_zero, List.set_cons_succ]
          refine wpAnyH_ready (rs := [13]) (by kernel_rfl) (by simp) (AllReadyH.cons rfl (storeSet 13 w1.heap.size U (orS U (span p1 (p2 + 1))) rfl rfl (by rfl) rfl rfl hX3 (hS3.row _ h0 hw1) ?_) AllReadyH.nil)
          refine wpAnyH_done (by kernel_rfl) ?_ _
          have HK := Lib.hid (hS3.row (rowW (orS U (span p1 (p2 + 1)))) h0 hw1)
          have HX := Lib.hid (hX3.rowSame (orS U (span p1 (p2 + 1))))
          clear hS3 hX3
          go_wp2_with fail
          go_roundw
          case rel => exact ⟨i + 1, by go_num, by omega, HK.out, by rw [HV.out]; exact HX.out⟩
          case measure => simp [intOf]; omega
        · rintro e w2 ⟨rfl, hb⟩
          refine ⟨_, rfl, hS.call hb, ?_⟩
          have hS2 := hS.call hb
          have hX2 := hX.call hb
          clear hS hX hb
          simp only [Act.put, List.setIfInBounds_toArray, List.set_cons_zero, List.set_cons_succ]
          refine wpAnyH_ready (rs := [0]) (by kernel_rfl) (by simp) (AllReadyH.cons rfl (valStep 0 47 (setV U) _ rfl (by rfl) (load_run hX2 rfl rfl) hS2 ?_) AllReadyH.nil)
          simp only [Act.put, List.setIfInBounds_toArray, List.set_cons_zero, List.set_cons_succ]
          refine callAt 12 59 rfl rfl (by kernel_rfl) (by rfl) (by kernel_rfl) (or_k U (span p1 (p2 + 1)) _) ?_
          rintro e w3 ⟨rfl, hb⟩
          refine ⟨_, rfl, hS2.call hb, ?_⟩
          have hS3 := hS2.call hb
          have hX3 := hX2.call hb
          clear hS2 hX2 hb
          simp only [Act.put, List.setIfInBounds_toArray, List.set_cons_zero, List.set_cons_succ]
          refine wpAnyH_ready (rs := [13]) (by kernel_rfl) (by simp) (AllReadyH.cons rfl (storeSet 13 w1.heap.size U (orS U (span p1 (p2 + 1))) rfl rfl (by rfl) rfl rfl hX3 (hS3.row _ h0 hw1) ?_) AllReadyH.nil)
          refine wpAnyH_done (by kernel_rfl) ?_ _
          have HK := Lib.hid (hS3.row (rowW (orS U (span p1 (p2 + 1)))) h0 hw1)
          have HX := Lib.hid (hX3.rowSame (orS U (span p1 (p2 + 1))))
          clear hS3 hX3
          go_wp2_with fail
          go_roundw
          case rel => exact ⟨i + 1, by go_num, by omega, HK.out, by rw [HV.out]; exact HX.out⟩
          case measure => simp [intOf]; omega
    · obtain rfl : i = n := by omega
      have e := HU.out
      rw [List.take_of_length_le (by have := EN.out; omega), e] at hbx
      have es := eqS_self S
      obtain ⟨c0, c1, c2, c3⟩ := hbx.cells
      obtain ⟨b0, b1, b2, b3⟩ := (hk.1.1 _ List.mem_cons_self).cells
      simp only at b0 b1 b2 b3
      have HK := Lib.hid hk
      clear hk hbx e
      go_wp2_with fail
      refine (HK.out.1.fix HF.out).mono ?_
      rintro e w2 ⟨rfl, hb⟩
      have HD := Lib.hid (thenB HK.out.1.2.1 hb HK.out.1.2.1.size)
      clear hb HK
      go_wp2_with fail
      go_ret
      exact ⟨rfl, HD.out⟩
end Go.Proofs.YtobhhhopkkcdiaaDoor
