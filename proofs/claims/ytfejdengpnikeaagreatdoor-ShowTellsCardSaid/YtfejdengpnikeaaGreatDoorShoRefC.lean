/-
  Layer 8, the document's answer: a set's.
-/
import Derived.Test.YtfejdengpnikeaaGreatDoorShoRefA
import Derived.Test.YtfejdengpnikeaaGreatDoorShoA
import Derived.Test.YtfejdengpnikeaaGreatDoorShoB
import Derived.Test.YtfejdengpnikeaaGreatDoorShoD
import Derived.Test.YtfejdengpnikeaaGreatDoorRefM
import Derived.Test.YtfejdengpnikeaaGreatDoorRefF
namespace Go.Proofs.YtfejdengpnikeaaGreatDoor
open Go.RowKit

section
variable {ops : Array Oper} {rest : List Oper} {o : Oper} {a : Act} {w : World} {Q : Exit → Act → World → Prop}
theorem storeNewA8 (hgd : o.guard = none) (x y : Operand) (ho : o.op = .store 85 x y) (wr : World) (S T : BitVec 256) (hx : a.eval x = .pointer (some ⟨wr.heap.size, 0, none⟩)) (hy : a.eval y = .agg (bitsA T)) (hw : w = wr.alloc (.cells (bitsA S) 85))
    (h : ∀ W : World, Hid (BoxA W wr.heap.size T) → Hid (Below wr.heap.size wr W) → wpList Tryz.prog ops Q rest (a.put o.dst undef) W) : wpList Tryz.prog ops Q (o :: rest) a w := by
  subst hw
  exact storeA hgd x y ho wr.heap.size S T hx hy (BoxA.new wr S) (h _ (Lib.hid ((BoxA.new wr S).rowSame T)) (Lib.hid (below_row ((Below.refl _ wr).alloc (Nat.le_refl _) _) (Nat.le_refl _) _)))
end
section
variable {ops : Array Oper} {R : World → Prop} {a : Act} {o : Oper} {x y : Operand}
theorem idxR_y {r n cap i : Nat} (hi : i < n) (ho : o.op = .indexAddr 74 x y) (hx : a.eval x = .slice (some ⟨r, 0, none⟩) n cap) (hy : a.eval y = .int .i64 (i : Int)) (hw : Region.wanted o (yielded ops a.tmps) = true) : YieldsIf Tryz.prog ops R o (.pointer (some ⟨r, i * 2, none⟩)) a := by
  refine Or.inl ⟨hw, fun u _ => ?_⟩
  have i0 : (0 : Int) ≤ i := by omega
  have i1 : (i : Int) < n := by omega
  unfold execOp
  simp only [ho, hx, hy]
  go_simp
theorem loadU_y {b j : Nat} (z : Int) (hR : ∀ u, R u → u.cell? ⟨b, j, none⟩ = some (.int .u8 z)) (ho : o.op = .load 5 x) (hx : a.eval x = .pointer (some ⟨b, j, none⟩)) (hw : Region.wanted o (yielded ops a.tmps) = true) : YieldsIf Tryz.prog ops R o (.int .u8 z) a := by
  refine Or.inl ⟨hw, fun u h => ?_⟩
  have hc := hR u h
  unfold execOp
  simp only [ho, hx]
  simp [go_sem, hc]
theorem neqU_y {m n : Int} (b : Bool) (h : (m == n) = !b) (ho : o.op = .binOp .neq 5 x y 5) (hx : a.eval x = .int .u8 m) (hy : a.eval y = .int .u8 n) (hw : Region.wanted o (yielded ops a.tmps) = true) : YieldsIf Tryz.prog ops R o (.bool b) a := by
  refine Or.inl ⟨hw, fun w _ => ?_⟩
  have hb : (m != n) = b := by rw [bne, h]; simp
  unfold execOp
  simp only [ho, hx, hy]
  go_simp
end
theorem boxA_on {w u : World} {g B : Nat} {S : BitVec 256} (h : BoxA w g S) (hb : Below B w u) (hg : g < B) : BoxA u g S := (hb.block g hg).trans h
theorem runs_one {S : BitVec 256} (h : lenS S = 1) : ∃ b l, runs S = (minS S, b) :: l := by
  obtain ⟨e, hm⟩ := len_1 h
  have hne := runs_ne (S := S) (by omega)
  match hr : runs S with
  | [] => exact absurd hr hne
  | x :: l =>
    have hx : x ∈ runsTo S 256 := by show x ∈ runs S; rw [hr]; exact List.mem_cons_self ..
    have h2 := ((mem_runs 256 x).1 hx).2.1
    unfold starts at h2
    rw [Bool.and_eq_true] at h2
    have hb : (oneS (minS S)).getLsbD x.1 = true := by rw [← e]; exact h2.1
    rw [one_bit _ _ hm] at hb
    have h3 := of_decide_eq_true hb
    obtain ⟨a, b⟩ := x
    exact ⟨b, l, by rw [← h3]⟩
set_option maxRecDepth 100000 in
set_option maxHeartbeats 16000000 in
theorem rset8_any (S : BitVec 256) (w : World) : Calls Tryz.prog 12 #[setV S] w fun e w' => e = .returned (.string (setP S)) ∧ Below w.heap.size w w' := by
  have t0 : textB 0 = ⟨#[92, 120, 48, 48]⟩ := by kernel_rfl
  have t1 : textB 255 = ⟨#[92, 120, 102, 102]⟩ := by kernel_rfl
  have HT0 : Hid (∀ w, Calls Tryz.prog 31 #[.int .u8 0] w fun e w' => e = .returned (.string ⟨#[92, 120, 48, 48]⟩) ∧ Below w.heap.size w w') := Lib.hid (fun w => by rw [← t0]; exact text8_any 0 (by decide) w)
  have HT1 : Hid (∀ w, Calls Tryz.prog 31 #[.int .u8 255] w fun e w' => e = .returned (.string ⟨#[92, 120, 102, 102]⟩) ∧ Below w.heap.size w w') := Lib.hid (fun w => by rw [← t1]; exact text8_any 255 (by decide) w)
  clear t0 t1
  have HOf := Lib.hid (fun w => rof_any S w)
  have HRg := Lib.hid (fun w => rranges_any S w)
  have HLn := Lib.hid (fun w => rlen_any S w)
  obtain ⟨l, hl⟩ : ∃ l, l = runs S := ⟨_, rfl⟩
  unfold GotRuns at HRg
  rw [← hl] at HRg
  have hlen : l.length ≤ 256 := by rw [hl]; exact runsTo_length S 256
  by_cases h0 : lenS S = 0
  · have e : S = 0#256 := len_zero h0
    have h2 : runs (0#256 : BitVec 256) = [] := by decide +kernel
    have hl0 : l = [] := by rw [hl, e]; exact h2
    rw [show setP S = noneB by unfold setP; rw [if_pos h0]]
    subst hl0
    clear hl e h2 h0 HLn hlen
    go_enter Tryz.func12, Tryz.ntmps12
    go_wp2_with fail
    refine (HOf.out _).mono ?_
    rintro e w1 ⟨rfl, hb⟩
    have HB := Lib.hid (((Below.refl _ w).alloc (Nat.le_refl _) _).trans (hb.mono (by simp)))
    clear hb
    go_wp2_with (refine storeNewA8 rfl _ _ rfl w1 0#256 S rfl rfl rfl ?_; intro w2 hx hN; refine StopS.out ?_)
    refine ⟨?_⟩
    have HA := Lib.hid hx.out
    replace HB := Lib.hid (HB.out.trans (hN.out.mono HB.out.size))
    clear hx hN
    go_wp2_with (refine loadA rfl _ rfl w1.heap.size S rfl HA.out ?_)
    refine (HRg.out _).mono ?_
    rintro e w3 ⟨v, rfl, hR, hb⟩
    replace HB := Lib.hid (thenB HB.out hb HB.out.size)
    replace HA := Lib.hid (boxA_on HA.out hb HA.out.lt)
    have HR := Lib.hid hR
    obtain ⟨ao, cap, rfl, hcs⟩ := hR
    clear hb
    clear hcs HR
    go_wp2_with fail
    refine (HT0.out _).mono ?_
    rintro e x1 ⟨rfl, hb⟩
    replace HB := Lib.hid (thenB HB.out hb HB.out.size)
    clear hb
    go_wp2_with fail
    refine (HT1.out _).mono ?_
    rintro e x2 ⟨rfl, hb⟩
    replace HB := Lib.hid (thenB HB.out hb HB.out.size)
    clear hb
    go_wp2_with fail
    go_ret
    exact ⟨rfl, HB.out⟩
  · have hne : l ≠ [] := by rw [hl]; exact runs_ne h0
    have hpos : 0 < l.length := by cases l with | nil => exact absurd rfl hne | cons _ _ => exact Nat.succ_pos _
    have q0 : ((l.length : Int) == 0) = false := beq_eq_false_iff_ne.2 (by omega)
    by_cases h1 : lenS S = 1
    · obtain ⟨b, l', hr⟩ := runs_one h1
      rw [show setP S = textB (minS S) by unfold setP; rw [if_neg h0, if_pos h1]]
      have HTm := Lib.hid (fun w => text8_any (minS S) (len_1 h1).2 w)
      rw [← hl] at hr
      rw [h1] at HLn
      generalize minS S = mm at hr HTm
      clear hl h0 h1 hne
      go_enter Tryz.func12, Tryz.ntmps12
      go_wp2_with fail
      refine (HOf.out _).mono ?_
      rintro e w1 ⟨rfl, hb⟩
      have HB := Lib.hid (((Below.refl _ w).alloc (Nat.le_refl _) _).trans (hb.mono (by simp)))
      clear hb
      go_wp2_with (refine storeNewA8 rfl _ _ rfl w1 0#256 S rfl rfl rfl ?_; intro w2 hx hN; refine StopS.out ?_)
      refine ⟨?_⟩
      have HA := Lib.hid hx.out
      replace HB := Lib.hid (HB.out.trans (hN.out.mono HB.out.size))
      clear hx hN
      go_wp2_with (refine loadA rfl _ rfl w1.heap.size S rfl HA.out ?_)
      refine (HRg.out _).mono ?_
      rintro e w3 ⟨v, rfl, hR, hb⟩
      replace HB := Lib.hid (thenB HB.out hb HB.out.size)
      replace HA := Lib.hid (boxA_on HA.out hb HA.out.lt)
      have HR := Lib.hid hR
      obtain ⟨ao, cap, rfl, hcs⟩ := hR
      clear hb
      obtain ⟨r, hrl, rfl, hcells⟩ := hcs.resolve_left (fun e => by rw [e] at hpos; exact absurd hpos (Nat.lt_irrefl _))
      have c0 : w3.cell? ⟨r, 0, none⟩ = some (.int .u8 (mm : Int)) := by have := (hcells 0 (mm, b) (by rw [hr]; rfl)).1; exact this
      have i0 : (0 : Int) < (l.length : Int) := by omega
      clear hcells
      go_wp2_with (refine loadA rfl _ rfl w1.heap.size S rfl HA.out ?_)
      refine (HLn.out _).mono ?_
      rintro e w4 ⟨rfl, hb⟩
      have c1 := (hb.cell (p := ⟨r, 0, none⟩) hrl).trans c0
      replace HB := Lib.hid (thenB HB.out hb HB.out.size)
      clear hb c0
      go_wp2_with fail
      refine (HTm.out _).mono ?_
      rintro e w5 ⟨rfl, hb⟩
      replace HB := Lib.hid (thenB HB.out hb HB.out.size)
      clear hb
      go_wp2_with fail
      go_ret
      exact ⟨rfl, HB.out⟩
    · rw [show setP S = (⟨#[91]⟩ ++ runsB l) ++ ⟨#[93]⟩ by unfold setP; rw [if_neg h0, if_neg h1, hl]]
      have q1 : ((lenS S : Int) == 1) = false := beq_eq_false_iff_ne.2 (by omega)
      have HK := Lib.hid (fun x (hx : x ∈ l) => runs_ok S x (by rw [← hl]; exact hx))
      have HS := Lib.hid (fun k => (runsB_size (l.take k)))
      have hsz := runsB_size l
      generalize lenS S = L at HLn q1
      clear hl h0 h1 hne
      go_enter Tryz.func12, Tryz.ntmps12
      go_wp2_with fail
      refine (HOf.out _).mono ?_
      rintro e w1 ⟨rfl, hb⟩
      have HB := Lib.hid (((Below.refl _ w).alloc (Nat.le_refl _) _).trans (hb.mono (by simp)))
      clear hb
      go_wp2_with (refine storeNewA8 rfl _ _ rfl w1 0#256 S rfl rfl rfl ?_; intro w2 hx hN; refine StopS.out ?_)
      refine ⟨?_⟩
      have HA := Lib.hid hx.out
      replace HB := Lib.hid (HB.out.trans (hN.out.mono HB.out.size))
      clear hx hN
      go_wp2_with (refine loadA rfl _ rfl w1.heap.size S rfl HA.out ?_)
      refine (HRg.out _).mono ?_
      rintro e w3 ⟨v, rfl, hR, hb⟩
      replace HB := Lib.hid (thenB HB.out hb HB.out.size)
      replace HA := Lib.hid (boxA_on HA.out hb HA.out.lt)
      have HR := Lib.hid hR
      obtain ⟨ao, cap, rfl, hcs⟩ := hR
      clear hb
      clear hcs
      go_wp2_with (refine loadA rfl _ rfl w1.heap.size S rfl HA.out ?_)
      refine (HLn.out _).mono ?_
      rintro e w4 ⟨rfl, hb⟩
      replace HR := Lib.hid (HR.out.call hb)
      replace HB := Lib.hid (thenB HB.out hb HB.out.size)
      clear hb HA
      go_wp2_with fail
      go_loopw [5, 6] (fun s5 s6 wr => ∃ (k : Nat) (Z : ByteArray), s5 = .string Z ∧ Z = ⟨#[91]⟩ ++ runsB (l.take k) ∧ s6 = .int .i64 k ∧ k ≤ l.length ∧ Reads wr (.slice ao l.length cap) l ∧ Below w.heap.size w wr) (fun _ s6 _ => l.length - (intOf s6).toNat)
      case atStart => exact ⟨0, _, rfl, rfl, rfl, Nat.zero_le _, HR.out, HB.out⟩
      case round =>
        clear HB HR
        obtain ⟨k, Z, rfl, hZ, rfl, hk, hR, hb⟩ := hrel
        have HR := Lib.hid hR
        have HB := Lib.hid hb
        obtain ⟨ao', cap', he, hcs⟩ := hR
        obtain ⟨rfl, rfl⟩ : ao = ao' ∧ cap = cap' := by cases he; exact ⟨rfl, rfl⟩
        clear hb he
        by_cases hlt : k < l.length
        · have r1 : (k : Int) < (l.length : Int) := by omega
          obtain ⟨r, hrl, rfl, hcells⟩ := hcs.resolve_left (fun e => by rw [e] at hpos; exact absurd hpos (Nat.lt_irrefl _))
          obtain ⟨x, hx⟩ : ∃ x, x = l[k]'hlt := ⟨_, rfl⟩
          obtain ⟨c0, c1⟩ := hcells k x (by rw [hx, List.getElem?_eq_getElem hlt])
          have hxl := HK.out x (by rw [hx]; exact List.getElem_mem hlt)
          have HT := Lib.hid (runsB_take l hlt)
          rw [← hx] at HT
          have HSm := HS.out k
          have hlk : (l.take k).length ≤ 256 := by rw [List.length_take]; omega
          have HZ := Lib.hid hZ
          have zs : Z.size ≤ 2400 := by rw [hZ, ByteArray.size_append]; show 1 + _ ≤ _; omega
          clear hcells hcs hx HSm hlk hZ
          obtain ⟨a, b⟩ := x
          simp only [] at c0 c1 hxl HT
          have HTa := Lib.hid (fun w => text8_any a (by omega) w)
          have HTb := Lib.hid (fun w => text8_any b (by omega) w)
          have sa := text_size a
          have sb := text_size b
          generalize hTA : textB a = TA at HTa sa
          generalize hTB : textB b = TB at HTb sb
          have s1 : ¬ Z.size + TA.size > 9223372036854775807 := by omega
          have s2 : ¬ 1 + TB.size > 9223372036854775807 := by omega
          have s3 : ¬ Z.size + TA.size + (1 + TB.size) > 9223372036854775807 := by omega
          by_cases hab : a = b
          · have HE := Lib.hid (show ⟨#[91]⟩ ++ runsB (l.take (k + 1)) = Z ++ TA by rw [HT.out, HZ.out, ← hTA, ← ByteArray.append_assoc]; unfold runB; rw [if_pos hab])
            clear hTA hTB HT HTb sb s2 s3 TB
            subst hab
            have HE3 := Lib.hid (beq_self_eq_true (a : Int))
            go_wp2_with fail
            refine (HTa.out _).mono ?_
            rintro e w5 ⟨rfl, hb⟩
            have d0 := (hb.cell (p := ⟨r, k * 2, none⟩) hrl).trans c0
            have d1 := (hb.cell (p := ⟨r, k * 2 + 1, none⟩) hrl).trans c1
            replace HR := Lib.hid (HR.out.call hb)
            replace HB := Lib.hid (thenB HB.out hb HB.out.size)
            clear hb c0 c1
            have hrl5 : r < w5.heap.size := block_lt_of_cell d0
            have D0 := Lib.hid d0
            have D1 := Lib.hid d1
            clear d0 d1
            go_wp2_with fail
            refine wp_region_held_drew (S := fun u => Below w5.heap.size w5 u) (by kernel_rfl) (show _ from (Below.refl _ w5).drew) (fun hS => ?_)
            generalize World.drew w5 = u0 at hS ⊢
            refine takeAt 0 42 (.slice (some ⟨r, 0, none⟩) l.length cap) rfl rfl (by kernel_rfl) (by kernel_rfl) (by kernel_rfl) (fun _ _ _ h => h) (yields (by rfl) (fun w => by kernel_rfl)) hS ?_
            simp only [Act.put, List.setIfInBounds_toArray, List.set_cons_zero, List.set_cons_succ]
            refine takeAt 1 43 (.int .i64 (k : Int)) rfl rfl (by kernel_rfl) (by kernel_rfl) (by kernel_rfl) (fun _ _ _ h => h) (yields (by rfl) (fun w => by kernel_rfl)) hS ?_
            simp only [Act.put, List.setIfInBounds_toArray, List.set_cons_zero, List.set_cons_succ]
            refine takeAt 2 44 (.pointer (some ⟨r, k * 2, none⟩)) rfl rfl (by kernel_rfl) (by kernel_rfl) (by kernel_rfl) (fun _ _ _ h => h) (idxR_y hlt rfl rfl rfl (by rfl)) hS ?_
            simp only [Act.put, List.setIfInBounds_toArray, List.set_cons_zero, List.set_cons_succ]
            refine takeAt 3 45 (.pointer (some ⟨r, k * 2, none⟩)) rfl rfl (by kernel_rfl) (by kernel_rfl) (by kernel_rfl) (fun _ _ _ h => h) (yields (by rfl) (fun w => by kernel_rfl)) hS ?_
            simp only [Act.put, List.setIfInBounds_toArray, List.set_cons_zero, List.set_cons_succ]
            refine takeAt 4 46 (.int .u8 (a : Int)) rfl rfl (by kernel_rfl) (by kernel_rfl) (by kernel_rfl) (fun _ _ _ h => h) (loadU_y (a : Int) (fun u h => (h.cell (p := ⟨r, k * 2, none⟩) hrl5).trans D0.out) rfl rfl (by rfl)) hS ?_
            simp only [Act.put, List.setIfInBounds_toArray, List.set_cons_zero, List.set_cons_succ]
            refine takeAt 5 47 (.slice (some ⟨r, 0, none⟩) l.length cap) rfl rfl (by kernel_rfl) (by kernel_rfl) (by kernel_rfl) (fun _ _ _ h => h) (yields (by rfl) (fun w => by kernel_rfl)) hS ?_
            simp only [Act.put, List.setIfInBounds_toArray, List.set_cons_zero, List.set_cons_succ]
            refine takeAt 6 48 (.int .i64 (k : Int)) rfl rfl (by kernel_rfl) (by kernel_rfl) (by kernel_rfl) (fun _ _ _ h => h) (yields (by rfl) (fun w => by kernel_rfl)) hS ?_
            simp only [Act.put, List.setIfInBounds_toArray, List.set_cons_zero, List.set_cons_succ]
            refine takeAt 7 49 (.pointer (some ⟨r, k * 2, none⟩)) rfl rfl (by kernel_rfl) (by kernel_rfl) (by kernel_rfl) (fun _ _ _ h => h) (idxR_y hlt rfl rfl rfl (by rfl)) hS ?_
            simp only [Act.put, List.setIfInBounds_toArray, List.set_cons_zero, List.set_cons_succ]
            refine takeAt 8 50 (.pointer (some ⟨r, k * 2 + 1, none⟩)) rfl rfl (by kernel_rfl) (by kernel_rfl) (by kernel_rfl) (fun _ _ _ h => h) (yields (by rfl) (fun w => by kernel_rfl)) hS ?_
            simp only [Act.put, List.setIfInBounds_toArray, List.set_cons_zero, List.set_cons_succ]
            refine takeAt 9 51 (.int .u8 (a : Int)) rfl rfl (by kernel_rfl) (by kernel_rfl) (by kernel_rfl) (fun _ _ _ h => h) (loadU_y (a : Int) (fun u h => (h.cell (p := ⟨r, k * 2 + 1, none⟩) hrl5).trans D1.out) rfl rfl (by rfl)) hS ?_
            simp only [Act.put, List.setIfInBounds_toArray, List.set_cons_zero, List.set_cons_succ]
            refine takeAt 10 52 (.bool false) rfl rfl (by kernel_rfl) (by kernel_rfl) (by kernel_rfl) (fun _ _ _ h => h) (neqU_y false HE3.out rfl rfl rfl (by rfl)) hS ?_
            simp only [Act.put, List.setIfInBounds_toArray, List.set_cons_zero, List.set_cons_succ]
            refine wpAnyH_done (by kernel_rfl) ?_ _
            have c1 := (hS.cell (p := ⟨r, k * 2 + 1, none⟩) hrl5).trans D1.out
            replace HR := Lib.hid (HR.out.call hS)
            replace HB := Lib.hid (thenB HB.out hS HB.out.size)
            clear hS
            clear c1
            go_wp2_with fail
            go_roundw
            case rel => exact ⟨k + 1, _, rfl, HE.out.symm, by go_num, hlt, HR.out, HB.out⟩
            case measure => simp [intOf]; omega
          · have HE := Lib.hid (show ⟨#[91]⟩ ++ runsB (l.take (k + 1)) = (Z ++ TA) ++ (⟨#[45]⟩ ++ TB) by rw [HT.out, HZ.out, ← hTA, ← hTB]; unfold runB; rw [if_neg hab]; simp only [ByteArray.append_assoc])
            have e3 : ((a : Int) == (b : Int)) = false := beq_eq_false_iff_ne.2 (by omega)
            clear hTA hTB HT
            go_wp2_with fail
            refine (HTa.out _).mono ?_
            rintro e w5 ⟨rfl, hb⟩
            have d0 := (hb.cell (p := ⟨r, k * 2, none⟩) hrl).trans c0
            have d1 := (hb.cell (p := ⟨r, k * 2 + 1, none⟩) hrl).trans c1
            replace HR := Lib.hid (HR.out.call hb)
            replace HB := Lib.hid (thenB HB.out hb HB.out.size)
            clear hb c0 c1
            have hrl5 : r < w5.heap.size := block_lt_of_cell d0
            have D0 := Lib.hid d0
            have D1 := Lib.hid d1
            clear d0 d1
            go_wp2_with fail
            refine wp_region_held_drew (S := fun u => Below w5.heap.size w5 u) (by kernel_rfl) (show _ from (Below.refl _ w5).drew) (fun hS => ?_)
            generalize World.drew w5 = u0 at hS ⊢
            refine takeAt 0 42 (.slice (some ⟨r, 0, none⟩) l.length cap) rfl rfl (by kernel_rfl) (by kernel_rfl) (by kernel_rfl) (fun _ _ _ h => h) (yields (by rfl) (fun w => by kernel_rfl)) hS ?_
            simp only [Act.put, List.setIfInBounds_toArray, List.set_cons_zero, List.set_cons_succ]
            refine takeAt 1 43 (.int .i64 (k : Int)) rfl rfl (by kernel_rfl) (by kernel_rfl) (by kernel_rfl) (fun _ _ _ h => h) (yields (by rfl) (fun w => by kernel_rfl)) hS ?_
            simp only [Act.put, List.setIfInBounds_toArray, List.set_cons_zero, List.set_cons_succ]
            refine takeAt 2 44 (.pointer (some ⟨r, k * 2, none⟩)) rfl rfl (by kernel_rfl) (by kernel_rfl) (by kernel_rfl) (fun _ _ _ h => h) (idxR_y hlt rfl rfl rfl (by rfl)) hS ?_
            simp only [Act.put, List.setIfInBounds_toArray, List.set_cons_zero, List.set_cons_succ]
            refine takeAt 3 45 (.pointer (some ⟨r, k * 2, none⟩)) rfl rfl (by kernel_rfl) (by kernel_rfl) (by kernel_rfl) (fun _ _ _ h => h) (yields (by rfl) (fun w => by kernel_rfl)) hS ?_
            simp only [Act.put, List.setIfInBounds_toArray, List.set_cons_zero, List.set_cons_succ]
            refine takeAt 4 46 (.int .u8 (a : Int)) rfl rfl (by kernel_rfl) (by kernel_rfl) (by kernel_rfl) (fun _ _ _ h => h) (loadU_y (a : Int) (fun u h => (h.cell (p := ⟨r, k * 2, none⟩) hrl5).trans D0.out) rfl rfl (by rfl)) hS ?_
            simp only [Act.put, List.setIfInBounds_toArray, List.set_cons_zero, List.set_cons_succ]
            refine takeAt 5 47 (.slice (some ⟨r, 0, none⟩) l.length cap) rfl rfl (by kernel_rfl) (by kernel_rfl) (by kernel_rfl) (fun _ _ _ h => h) (yields (by rfl) (fun w => by kernel_rfl)) hS ?_
            simp only [Act.put, List.setIfInBounds_toArray, List.set_cons_zero, List.set_cons_succ]
            refine takeAt 6 48 (.int .i64 (k : Int)) rfl rfl (by kernel_rfl) (by kernel_rfl) (by kernel_rfl) (fun _ _ _ h => h) (yields (by rfl) (fun w => by kernel_rfl)) hS ?_
            simp only [Act.put, List.setIfInBounds_toArray, List.set_cons_zero, List.set_cons_succ]
            refine takeAt 7 49 (.pointer (some ⟨r, k * 2, none⟩)) rfl rfl (by kernel_rfl) (by kernel_rfl) (by kernel_rfl) (fun _ _ _ h => h) (idxR_y hlt rfl rfl rfl (by rfl)) hS ?_
            simp only [Act.put, List.setIfInBounds_toArray, List.set_cons_zero, List.set_cons_succ]
            refine takeAt 8 50 (.pointer (some ⟨r, k * 2 + 1, none⟩)) rfl rfl (by kernel_rfl) (by kernel_rfl) (by kernel_rfl) (fun _ _ _ h => h) (yields (by rfl) (fun w => by kernel_rfl)) hS ?_
            simp only [Act.put, List.setIfInBounds_toArray, List.set_cons_zero, List.set_cons_succ]
            refine takeAt 9 51 (.int .u8 (b : Int)) rfl rfl (by kernel_rfl) (by kernel_rfl) (by kernel_rfl) (fun _ _ _ h => h) (loadU_y (b : Int) (fun u h => (h.cell (p := ⟨r, k * 2 + 1, none⟩) hrl5).trans D1.out) rfl rfl (by rfl)) hS ?_
            simp only [Act.put, List.setIfInBounds_toArray, List.set_cons_zero, List.set_cons_succ]
            refine takeAt 10 52 (.bool true) rfl rfl (by kernel_rfl) (by kernel_rfl) (by kernel_rfl) (fun _ _ _ h => h) (neqU_y true e3 rfl rfl rfl (by rfl)) hS ?_
            simp only [Act.put, List.setIfInBounds_toArray, List.set_cons_zero, List.set_cons_succ]
            refine wpAnyH_done (by kernel_rfl) ?_ _
            have c1 := (hS.cell (p := ⟨r, k * 2 + 1, none⟩) hrl5).trans D1.out
            replace HR := Lib.hid (HR.out.call hS)
            replace HB := Lib.hid (thenB HB.out hS HB.out.size)
            clear hS
            go_wp2_with fail
            refine (HTb.out _).mono ?_
            rintro e w6 ⟨rfl, hb⟩
            replace HR := Lib.hid (HR.out.call hb)
            replace HB := Lib.hid (thenB HB.out hb HB.out.size)
            clear hb c1
            go_wp2_with fail
            go_roundw
            case rel => exact ⟨k + 1, _, rfl, HE.out.symm, by go_num, hlt, HR.out, HB.out⟩
            case measure => simp [intOf]; omega
        · obtain rfl : k = l.length := by omega
          rw [List.take_length] at hZ
          have s1 : ¬ Z.size + 1 > 9223372036854775807 := by rw [hZ, ByteArray.size_append]; show ¬ 1 + _ + 1 > _; omega
          have HZ := Lib.hid hZ
          clear hZ hcs
          go_wp2_with fail
          go_ret
          exact ⟨ret_str (by rw [HZ.out]), HB.out⟩
end Go.Proofs.YtfejdengpnikeaaGreatDoor
