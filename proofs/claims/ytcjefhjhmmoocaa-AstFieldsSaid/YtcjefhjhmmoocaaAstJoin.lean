/-
  Layer 5: what the landed package ast does: Join.
-/
import Derived.Test.YtcjefhjhmmoocaaAstMake
import Derived.Laws.CopyRow
import Derived.Laws.IdiomCopy
import Derived.Laws.MakeOwn
namespace Go.Proofs.Ytcjefhjhmmoocaa
open Go.RowKit

/-- The nodes of two trees under one node. -/
def joinL (la : Nat → Nd) (n : Nat) (lb : Nat → Nd) (m : Nat) (kind : Int) : Nat → Nd := fun i =>
  if i < n then la i else if i < n + m then mvN (lb (i - n)) n else ⟨kind, (n : Int) - 1, if m = 0 then -1 else (n : Int) + m - 1, 0, 0, 0, 0, 0, 0, 0, 0, false⟩
theorem join_a (la : Nat → Nd) (n : Nat) (lb : Nat → Nd) (m : Nat) (kind : Int) {i : Nat} (h : i < n) : joinL la n lb m kind i = la i := if_pos h
theorem join_b (la : Nat → Nd) (n : Nat) (lb : Nat → Nd) (m : Nat) (kind : Int) {k : Nat} (h : k < m) : joinL la n lb m kind (n + k) = mvN (lb k) n := by
  unfold joinL
  rw [if_neg (by omega), if_pos (by omega), show n + k - n = k by omega]
theorem join_top (la : Nat → Nd) (n : Nat) (lb : Nat → Nd) (m : Nat) (kind : Int) : joinL la n lb m kind (n + m) = ⟨kind, (n : Int) - 1, if m = 0 then -1 else (n : Int) + m - 1, 0, 0, 0, 0, 0, 0, 0, 0, false⟩ := by
  unfold joinL
  rw [if_neg (by omega), if_neg (by omega)]

section
theorem run_copy12 (w : World) (ty : TypeId) (g dLen dCap : Nat) (a : Addr) (sLen sCap : Nat) (cur : Array Value) (t : TypeId) (cs : List Value)
    (hg : w.heap[g]? = some (.cells cur t (0, 0))) (hn : cs.length = Nat.min sLen dLen * 12)
    (hsrc : ∀ j v, cs[j]? = some v → w.cell? (a.add j) = some v) (hfit : cs.length ≤ cur.size) (h1 : ∀ v ∈ cs, v.oneCell' = true) :
    (Builtin.copy_ #[22, 22] ty #[.slice (some ⟨g, 0, none⟩) dLen dCap, .slice (some a) sLen sCap]).run Try.prog w =
      .ok (goInt (Nat.min sLen dLen)) (w.setRow g (cs ++ cur.toList.drop cs.length).toArray) := by
  have hl := run_loadCells_list (P := Try.prog) w a cs hsrc
  have hst := run_storeCells_at Try.prog g 0 t cs 0 cur w hg (by simpa using hfit) h1
  obtain ⟨i, hi, -, hs, -⟩ := info_parts info45
  simp only [Nat.add_zero, Nat.zero_add, List.take_zero, List.nil_append] at hst
  simp [Builtin.copy_, run_underlying Try.underlying22, Builtin.lenOf, Builtin.firstCells, sizeOf, typeInfo, hi, hs, ← hn, hl, hst]
theorem run_copy12_nil (w : World) (ty : TypeId) (a : Addr) (dLen dCap : Nat) :
    (Builtin.copy_ #[22, 22] ty #[.slice (some a) dLen dCap, .slice none 0 0]).run Try.prog w = .ok (goInt 0) w :=
  run_copy_nil Try.prog w _ _ ty 45 a dLen dCap Try.underlying22 (by kernel_rfl)

/-- The nodes of a tree go over into a row of the call's own. -/
theorem copy12_any {w : World} (g n c : Nat) (A : Option Addr) (cap : Nat) (l : Nat → Nd) (hA : A = none → n = 0 ∧ cap = 0)
    (cur : Array Value) (t : TypeId) (hg : w.heap[g]? = some (.cells cur t (0, 0))) (hl : Nodes w A n l) (hfit : n * 12 ≤ cur.size) (B : Nat) (hBg : B ≤ g) :
    ∃ w', (∀ ty, (Builtin.copy_ #[22, 22] ty #[.slice (some ⟨g, 0, none⟩) n c, .slice A n cap]).run Try.prog w = .ok (.int .i64 n) w') ∧ w'.heap[g]? = some (.cells (cellsL l n ++ cur.toList.drop (n * 12)).toArray t (0, 0)) ∧ Below B w w' := by
  cases A with
  | none =>
    obtain ⟨rfl, rfl⟩ := hA rfl
    exact ⟨w, fun ty => run_copy12_nil w ty ⟨g, 0, none⟩ 0 c, by simpa [cellsL_zero] using hg, Below.refl _ _⟩
  | some ad =>
    have hsrc : ∀ j u, (cellsL l n)[j]? = some u → w.cell? (ad.add j) = some u := fun j u hu => by
      have hn0 : 0 < n := by
        rcases Nat.eq_zero_or_pos n with h | h
        · subst h; simp [cellsL_zero] at hu
        · exact h
      obtain ⟨b, o, e, hN⟩ := hl.at_ hn0
      cases e
      exact nodes_cells hN j u hu
    have hrun := fun ty => run_copy12 w ty g n c ad n cap cur t (cellsL l n) hg (by rw [cellsL_length, show Nat.min n n = n from Nat.min_self n]) hsrc (by rw [cellsL_length]; exact hfit) (cellsL_one l n)
    simp only [cellsL_length, show Nat.min n n = n from Nat.min_self n] at hrun
    exact ⟨_, hrun, setRow_heap w g _ _ t _ hg, below_setRow (Below.refl _ _) hBg _⟩
theorem make_nodes (n m : Nat) (hn : n ≤ 1000000) (hm : m ≤ 1000000) (w : World) : (Instr.makeSlice 22 (.int .i64 (n : Int)) (.int .i64 ((n : Int) + m + 1))).run Try.prog w = .ok (.slice (some ⟨w.heap.size, 0, none⟩) n (n + m + 1)) (w.alloc (.cells (madeCells #[.int .i64 0, .int .i64 0, .int .i64 0, .int .u64 0, .int .u64 0, .int .u64 0, .int .u64 0, .int .i64 0, .int .i64 0, .int .i64 0, .int .i64 0, .bool false] ((n + m + 1) * 12)) 45)) := by
  obtain ⟨i, hi, hz, hs, hb⟩ := info_parts info45
  have hr := run_make (P := Try.prog) w 22 45 i _ Try.underlying22 hi hz .i64 .i64 n ((n : Int) + m + 1) (by omega) (by omega) (by rw [hb]; omega) (by omega)
  rw [show ((n : Int) + m + 1).toNat = n + m + 1 by omega] at hr
  simp only [Int.toNat_natCast, hs] at hr
  exact hr
end

set_option maxRecDepth 20000 in
set_option maxHeartbeats 4000000 in
theorem join_any (A : Option Addr) (n cap : Nat) (la : Nat → Nd) (B : Option Addr) (m cap2 : Nat) (lb : Nat → Nd) (kind : Int) (w : World) (hn : n ≤ 1000000) (hm : m ≤ 1000000) (hA : A = none → n = 0 ∧ cap = 0) (_hB : B = none → m = 0 ∧ cap2 = 0) (hl : Nodes w A n la) (hl2 : Nodes w B m lb) :
    Calls Try.prog 20 #[.agg #[.slice A n cap], .agg #[.slice B m cap2], .int .i64 kind] w (TreeRes (joinL la n lb m kind) (n + m + 1) w) := by
  obtain ⟨i0, hi, hz0, hz1, hz2⟩ := info_parts info45
  have HI := Lib.hid (And.intro hi (And.intro hz0 (And.intro hz1 hz2)))
  have HL := Lib.hid hl
  have HM := Lib.hid hl2
  have HA := Lib.hid hA
  clear hi hz0 hz1 hz2 hl hl2 hA
  obtain ⟨Z, hZ, hmk⟩ : ∃ Z : Array Value, Z.size = (n + m + 1) * 12 ∧ ∀ w, (Instr.makeSlice 22 (.int .i64 (n : Int)) (.int .i64 ((n : Int) + m + 1))).run Try.prog w = .ok (.slice (some ⟨w.heap.size, 0, none⟩) n (n + m + 1)) (w.alloc (.cells Z 45)) := ⟨_, size_madeCells _ _, make_nodes n m hn hm⟩
  have HZ := Lib.hid hZ
  clear hZ
  have hn0 : (0 : Int) ≤ n := by omega
  have hn1 : (n : Int) ≤ 1000000 := by omega
  have hm0 : (0 : Int) ≤ m := by omega
  have hm1 : (m : Int) ≤ 1000000 := by omega
  go_enter Try.func20, Try.ntmps20
  obtain ⟨w1, hcp, hR1, hB1⟩ := copy12_any (w := World.alloc (World.alloc (World.alloc (World.alloc w (.cells #[.slice A n cap] 24)) (.cells #[.slice B m cap2] 24)) (.cells #[.slice none 0 0] 24)) (.cells Z 45)) (w.heap.size + 1 + 1 + 1) n (n + m + 1) A cap la HA.out Z 45 (alloc_at _ _ _ (by simp)) (HL.out.below (B := w.heap.size) (by go_grown) (Nat.le_refl _)) (by rw [HZ.out]; omega) (w.heap.size + 1 + 1 + 1) (Nat.le_refl _)
  have HR1 := Lib.hid hR1
  have HB1 := Lib.hid hB1
  clear hR1 hB1
  have hbx : w1.cell? ⟨w.heap.size + 1, 0, none⟩ = some (.slice B m cap2) := by
    rw [HB1.out.cell (p := ⟨w.heap.size + 1, 0, none⟩) (show w.heap.size + 1 < w.heap.size + 1 + 1 + 1 by omega)]
    unfold World.cell?
    rw [Below.heap_alloc _ _ _ (by simp), Below.heap_alloc _ _ _ (by simp), alloc_at _ _ _ (by simp)]
    rfl
  have hT1 : w1.heap[w.heap.size + 1 + 1]? = some (.cells #[.slice none 0 0] 24 (0, 0)) := by
    rw [HB1.out.block (w.heap.size + 1 + 1) (by omega), Below.heap_alloc _ _ _ (by simp), alloc_at _ _ _ (by simp)]
  have hsz1 : w.heap.size + 1 + 1 + 1 ≤ w1.heap.size := Nat.le_trans (by simp) HB1.out.size
  have hW1 : Below w.heap.size w w1 := Below.trans (by go_grown) (HB1.out.mono (show w.heap.size ≤ w.heap.size + 1 + 1 + 1 by omega))
  have hO1 : w1.ownsRow (w.heap.size + 1 + 1 + 1) 45 12 (.slice (some ⟨w.heap.size + 1 + 1 + 1, 0, none⟩) n (n + m + 1)) (n + 0) (cellsL (joinL la n lb m kind) (n + 0)) := by
    refine ⟨by rw [cellsL_length], .inr ⟨_, _, _, rfl, Nat.le_refl _, HR1.out, by omega, by unfold maxLen; omega, by simp [cellsL_length, HZ.out]; omega, ?_⟩⟩
    rw [Nat.add_zero, cellsL_congr (fun i hi => join_a la n lb m kind hi)]
    simp [← cellsL_length la n]
  have HT1 := Lib.hid hT1
  have HW1 := Lib.hid hW1
  have HS1 := Lib.hid hsz1
  have HO1 := Lib.hid hO1
  have HBX := Lib.hid hbx
  clear hT1 hW1 hsz1 hO1
  go_wp2_with fail
  clear hcp hbx hmk
  go_loopw [8, 30] (fun v i wr => ∃ k : Nat, k ≤ m ∧ i = .int .i64 k ∧ wr.ownsRow (w.heap.size + 1 + 1 + 1) 45 12 v (n + k) (cellsL (joinL la n lb m kind) (n + k)) ∧ Below (w.heap.size + 1 + 1 + 1) w1 wr) (fun _ i _ => m - (intOf i).toNat)
  case atStart => exact ⟨0, Nat.zero_le _, rfl, HO1.out, Below.refl _ _⟩
  case round =>
    obtain ⟨k, hk, rfl, hown, hb⟩ := hrel
    have HO := Lib.hid hown
    have HB := Lib.hid hb
    clear hown hb
    have HSZ := Lib.hid (show w.heap.size + 1 + 1 + 1 ≤ wr.heap.size from Nat.le_trans HS1.out HB.out.size)
    have HBW := Lib.hid (HW1.out.trans (HB.out.mono (show w.heap.size ≤ w.heap.size + 1 + 1 + 1 by omega)))
    by_cases hlt : k < m
    · obtain ⟨b, o, rfl, hbw, hx⟩ := (HM.out.below HBW.out (Nat.le_refl _)) k hlt
      obtain ⟨c0, c1, c2, c3, c4, c5, c6, c7, c8, c9, c10, c11⟩ := hx
      go_wp2_with fail
      refine (moved_any (lb k) n _).mono ?_
      rintro e w2 ⟨rfl, hb⟩
      have HO2 := Lib.hid (own_call (HO.out.alloc _) hb)
      have HB2 := Lib.hid (thenB (HB.out.alloc HSZ.out _) hb (Nat.le_trans HSZ.out (by simp)))
      have HS2 := Lib.hid (show w.heap.size + 1 + 1 + 1 ≤ w2.heap.size from Nat.le_trans HS1.out HB2.out.size)
      clear hb c0 c1 c2 c3 c4 c5 c6 c7 c8 c9 c10 c11
      go_wp2_with (at_builtin; refine wpList_append_own _ rfl _ _ 22 rfl (w.heap.size + 1 + 1 + 1) 45 i0 _ 12 96 Try.underlying22 HI.out.1 HI.out.2.1 HI.out.2.2.1 HI.out.2.2.2 rfl (by decide) _ _ _ rfl (HO2.out.alloc _) ⟨w2.heap.size, 0, none⟩ 1 1 (ndC (mvN (lb k) n)) rfl rfl (new_cells w2 _ (mvN (lb k) n)) (ndC_one _) (by unfold maxLen; omega) (by omega) (by have := HS2.out; simp; omega) ?_)
      intro v3 w3 hown3 hgrow3 _
      rw [← join_b la n lb m kind hlt, ← cellsL_succ] at hown3
      have HO3 := Lib.hid hown3
      have hown : ∀ g, u8.ownBlock = some g → w.heap.size + 1 + 1 + 1 ≤ g := fun g hg => (HO2.out.lt g hg).1
      have HB3 := Lib.hid ((HB2.out.alloc HS2.out _).grown hgrow3 (Nat.le_trans HS2.out (by simp)) hown)
      clear hown3 hgrow3 hown
      go_wp2_with fail
      go_roundw
      case rel => exact ⟨k + 1, by omega, by go_num, HO3.out, HB3.out⟩
      case measure => simp [intOf]; omega
    · obtain rfl : k = m := by omega
      obtain ⟨A', cap', rfl, -, -, -⟩ := own_nodes HO.out
      have hT := (HB.out.block (w.heap.size + 1 + 1) (show w.heap.size + 1 + 1 < w.heap.size + 1 + 1 + 1 by omega)).trans HT1.out
      have HT := Lib.hid hT
      have hbx : ∀ o, (World.alloc wr o).cell? ⟨w.heap.size + 1, 0, none⟩ = some (.slice B k cap2) := fun o => (World.cell?_of_block (Below.heap_alloc wr o _ (show w.heap.size + 1 < wr.heap.size from by have := HSZ.out; omega))).trans ((HB.out.cell (p := ⟨w.heap.size + 1, 0, none⟩) (show w.heap.size + 1 < w.heap.size + 1 + 1 + 1 by omega)).trans HBX.out)
      clear hT
      by_cases hz : k = 0
      · subst hz
        have HOX : Hid (wr.ownsRow (w.heap.size + 1 + 1 + 1) 45 12 (.slice A' n cap') n (cellsL (joinL la n lb 0 kind) n)) := HO
        have HJ := Lib.hid (show joinL la n lb 0 kind n = _ from (join_top la n lb 0 kind).trans (by rw [if_pos rfl]))
        have HNW := Lib.hid (show ∀ j u, (ndC ⟨kind, (n : Int) - 1, -1, 0, 0, 0, 0, 0, 0, 0, 0, false⟩)[j]? = some u → (World.alloc (World.alloc wr (.cells #[.int .i64 kind, .int .i64 ((n : Int) - 1), .int .i64 (-1), .int .u64 0, .int .u64 0, .int .u64 0, .int .u64 0, .int .i64 0, .int .i64 0, .int .i64 0, .int .i64 0, .bool false] 45)) (.cells #[.int .i64 kind, .int .i64 ((n : Int) - 1), .int .i64 (-1), .int .u64 0, .int .u64 0, .int .u64 0, .int .u64 0, .int .i64 0, .int .i64 0, .int .i64 0, .int .i64 0, .bool false] 45)).cell? (Addr.add ⟨wr.heap.size + 1, 0, none⟩ j) = some u by
          have h := new_cells (World.alloc wr (.cells #[.int .i64 kind, .int .i64 ((n : Int) - 1), .int .i64 (-1), .int .u64 0, .int .u64 0, .int .u64 0, .int .u64 0, .int .i64 0, .int .i64 0, .int .i64 0, .int .i64 0, .bool false] 45)) 45 ⟨kind, (n : Int) - 1, -1, 0, 0, 0, 0, 0, 0, 0, 0, false⟩
          rw [World.size_alloc] at h
          exact h)
        go_wp2_with (at_builtin; refine wpList_append_own _ rfl _ _ 22 rfl (w.heap.size + 1 + 1 + 1) 45 i0 _ 12 96 Try.underlying22 HI.out.1 HI.out.2.1 HI.out.2.2.1 HI.out.2.2.2 rfl (by decide) _ _ _ rfl ((HOX.out.alloc _).alloc _) ⟨wr.heap.size + 1, 0, none⟩ 1 1 (ndC ⟨kind, (n : Int) - 1, -1, 0, 0, 0, 0, 0, 0, 0, 0, false⟩) rfl rfl HNW.out (ndC_one _) (by unfold maxLen; omega) (by omega) (by have := HSZ.out; simp; omega) ?_)
        intro v3 w3 hown3 hgrow3 _
        rw [← HJ.out, ← cellsL_succ] at hown3
        have hB3 := ((HB.out.alloc HSZ.out (.cells #[.int .i64 kind, .int .i64 ((n : Int) - 1), .int .i64 (-1), .int .u64 0, .int .u64 0, .int .u64 0, .int .u64 0, .int .i64 0, .int .i64 0, .int .i64 0, .int .i64 0, .bool false] 45)).alloc (by have := HSZ.out; simp only [World.size_alloc]; omega) (.cells #[.int .i64 kind, .int .i64 ((n : Int) - 1), .int .i64 (-1), .int .u64 0, .int .u64 0, .int .u64 0, .int .u64 0, .int .i64 0, .int .i64 0, .int .i64 0, .int .i64 0, .bool false] 45)).grown hgrow3 (by have := HSZ.out; simp only [World.size_alloc]; omega) (fun g hg => (HOX.out.lt g hg).1)
        have hT3 : w3.heap[w.heap.size + 1 + 1]? = some (.cells #[.slice none 0 0] 24 (0, 0)) := (hB3.block (w.heap.size + 1 + 1) (by omega)).trans HT1.out
        obtain ⟨A3, cap3, rfl, -, -, -⟩ := own_nodes hown3
        have HO3 := Lib.hid hown3
        have HB3 := Lib.hid hB3
        have HT3 := Lib.hid hT3
        have c3 := cell_of_one hT3
        have f3 := frozen_of_row w3 (w.heap.size + 1 + 1) 0 _ _ hT3
        clear hown3 hgrow3 hB3 hT3 hbx
        go_wp2_with fail
        rw [setCell_eq_setRow w3 (w.heap.size + 1 + 1) 0 #[.slice none 0 0] 24 (0, 0) _ HT3.out, show (#[(.slice none 0 0 : Value)]).setIfInBounds 0 (.slice A3 (n + 1) cap3) = #[.slice A3 (n + 1) cap3] from rfl]
        refine bodyPost_ret (results_cell_row rfl _ _ (w.heap.size + 1 + 1) _ _ _ _ rfl (setRow_heap _ _ _ _ _ _ HT3.out) Try.underlying24 rfl infoT) rfl ?_
        exact ⟨A3, cap3, rfl, own_base (own_setRow HO3.out (own_neT HO3.out HT3.out) _) (by omega), HW1.out.trans (below_setRow (HB3.out.mono (show w.heap.size ≤ w.heap.size + 1 + 1 + 1 by omega)) (by omega) _)⟩
      · have hz1 : ((k : Int) == 0) = false := by rw [beq_eq_false_iff_ne]; omega
        have hz2 : decide ((k : Int) = 0) = false := by rw [decide_eq_false_iff_not]; omega
        have HOX := HO
        have HJ := Lib.hid ((join_top la n lb k kind).trans (by rw [if_neg hz]))
        have HNW := Lib.hid (show ∀ j u, (ndC ⟨kind, (n : Int) - 1, (n : Int) + k - 1, 0, 0, 0, 0, 0, 0, 0, 0, false⟩)[j]? = some u → (World.alloc (World.alloc wr (.cells #[.int .i64 kind, .int .i64 ((n : Int) - 1), .int .i64 ((n : Int) + k - 1), .int .u64 0, .int .u64 0, .int .u64 0, .int .u64 0, .int .i64 0, .int .i64 0, .int .i64 0, .int .i64 0, .bool false] 45)) (.cells #[.int .i64 kind, .int .i64 ((n : Int) - 1), .int .i64 ((n : Int) + k - 1), .int .u64 0, .int .u64 0, .int .u64 0, .int .u64 0, .int .i64 0, .int .i64 0, .int .i64 0, .int .i64 0, .bool false] 45)).cell? (Addr.add ⟨wr.heap.size + 1, 0, none⟩ j) = some u by
          have h := new_cells (World.alloc wr (.cells #[.int .i64 kind, .int .i64 ((n : Int) - 1), .int .i64 ((n : Int) + k - 1), .int .u64 0, .int .u64 0, .int .u64 0, .int .u64 0, .int .i64 0, .int .i64 0, .int .i64 0, .int .i64 0, .bool false] 45)) 45 ⟨kind, (n : Int) - 1, (n : Int) + k - 1, 0, 0, 0, 0, 0, 0, 0, 0, false⟩
          rw [World.size_alloc] at h
          exact h)
        go_wp2_with (at_builtin; refine wpList_append_own _ rfl _ _ 22 rfl (w.heap.size + 1 + 1 + 1) 45 i0 _ 12 96 Try.underlying22 HI.out.1 HI.out.2.1 HI.out.2.2.1 HI.out.2.2.2 rfl (by decide) _ _ _ rfl ((HOX.out.alloc _).alloc _) ⟨wr.heap.size + 1, 0, none⟩ 1 1 (ndC ⟨kind, (n : Int) - 1, (n : Int) + k - 1, 0, 0, 0, 0, 0, 0, 0, 0, false⟩) rfl rfl HNW.out (ndC_one _) (by unfold maxLen; omega) (by omega) (by have := HSZ.out; simp; omega) ?_)
        intro v3 w3 hown3 hgrow3 _
        rw [← HJ.out, ← cellsL_succ] at hown3
        have hB3 := ((HB.out.alloc HSZ.out (.cells #[.int .i64 kind, .int .i64 ((n : Int) - 1), .int .i64 ((n : Int) + k - 1), .int .u64 0, .int .u64 0, .int .u64 0, .int .u64 0, .int .i64 0, .int .i64 0, .int .i64 0, .int .i64 0, .bool false] 45)).alloc (by have := HSZ.out; simp only [World.size_alloc]; omega) (.cells #[.int .i64 kind, .int .i64 ((n : Int) - 1), .int .i64 ((n : Int) + k - 1), .int .u64 0, .int .u64 0, .int .u64 0, .int .u64 0, .int .i64 0, .int .i64 0, .int .i64 0, .int .i64 0, .bool false] 45)).grown hgrow3 (by have := HSZ.out; simp only [World.size_alloc]; omega) (fun g hg => (HOX.out.lt g hg).1)
        have hT3 : w3.heap[w.heap.size + 1 + 1]? = some (.cells #[.slice none 0 0] 24 (0, 0)) := (hB3.block (w.heap.size + 1 + 1) (by omega)).trans HT1.out
        obtain ⟨A3, cap3, rfl, -, -, -⟩ := own_nodes hown3
        have HO3 := Lib.hid hown3
        have HB3 := Lib.hid hB3
        have HT3 := Lib.hid hT3
        have c3 := cell_of_one hT3
        have f3 := frozen_of_row w3 (w.heap.size + 1 + 1) 0 _ _ hT3
        clear hown3 hgrow3 hB3 hT3 hbx
        go_wp2_with fail
        rw [setCell_eq_setRow w3 (w.heap.size + 1 + 1) 0 #[.slice none 0 0] 24 (0, 0) _ HT3.out, show (#[(.slice none 0 0 : Value)]).setIfInBounds 0 (.slice A3 (n + k + 1) cap3) = #[.slice A3 (n + k + 1) cap3] from rfl]
        refine bodyPost_ret (results_cell_row rfl _ _ (w.heap.size + 1 + 1) _ _ _ _ rfl (setRow_heap _ _ _ _ _ _ HT3.out) Try.underlying24 rfl infoT) rfl ?_
        exact ⟨A3, cap3, rfl, own_base (own_setRow HO3.out (own_neT HO3.out HT3.out) _) (by omega), HW1.out.trans (below_setRow (HB3.out.mono (show w.heap.size ≤ w.heap.size + 1 + 1 + 1 by omega)) (by omega) _)⟩
end Go.Proofs.Ytcjefhjhmmoocaa
