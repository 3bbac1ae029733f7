import Derived.Test.YtdnbpbngoiahlaaGreatDoorLexRA
namespace Go.Proofs.YtdnbpbngoiahlaaGreatDoor
open Go.RowKit
theorem rc_new (w : World) : RC w ((((w.alloc (.cells #[.int .u64 0, .int .u64 0, .int .u64 0, .int .u64 0] 40)).alloc (.cells #[.int .u64 0, .int .u64 0, .int .u64 0, .int .u64 0] 40)).alloc (.cells (bitsA 0#256) 128)).setRow (w.heap.size + 1 + 1) (bitsA 0#256)) 0#256 := by
 have h4 : BoxZ (w.alloc (.cells #[.int .u64 0, .int .u64 0, .int .u64 0, .int .u64 0] 40)) w.heap.size 0 0 0 0 := heap_alloc_new _ _
 have hs1 : (w.alloc (.cells #[.int .u64 0, .int .u64 0, .int .u64 0, .int .u64 0] 40)).heap.size = w.heap.size + 1 := by simp
 have h7 : BoxZ ((w.alloc (.cells #[.int .u64 0, .int .u64 0, .int .u64 0, .int .u64 0] 40)).alloc (.cells #[.int .u64 0, .int .u64 0, .int .u64 0, .int .u64 0] 40)) (w.heap.size + 1) 0 0 0 0 := by rw [← hs1]; exact heap_alloc_new _ _
 have b1 := fun (v : World) (o : Obj) => (Below.refl _ v).alloc (Nat.le_refl v.heap.size) o
 have h10 := BoxA.new ((w.alloc (.cells #[.int .u64 0, .int .u64 0, .int .u64 0, .int .u64 0] 40)).alloc (.cells #[.int .u64 0, .int .u64 0, .int .u64 0, .int .u64 0] 40)) 0#256
 rw [show ((w.alloc (.cells #[.int .u64 0, .int .u64 0, .int .u64 0, .int .u64 0] 40)).alloc (.cells #[.int .u64 0, .int .u64 0, .int .u64 0, .int .u64 0] 40)).heap.size = w.heap.size + 1 + 1 by simp] at h10
 exact ⟨((h4.below (b1 _ _) h4.lt).below (b1 _ _) (by simp; omega)).row _ (by omega), (h7.below (b1 _ _) h7.lt).row _ (by omega), h10.rowSame _, below_row (((b1 w _).alloc (by simp) _).alloc (by simp; omega) _) (by omega) _⟩
theorem ritem_z (p : ByteArray) (k : Nat) (z : Int) (w : World) (hp : p.size ≤ 1000000) (hz : z = k) (hk : k ≤ p.size) : Calls Tryz.prog 115 #[.string p, .int .i64 z] w fun e w' => e = .returned (.tuple #[.agg (bitsA (itemZ p k).1), .int .i64 ((itemZ p k).2 : Nat)]) ∧ Below w.heap.size w w' := by
 subst hz
 exact ritem_any p k w hp (by omega)
theorem starts_z (p : ByteArray) (k : Nat) (z : Int) (c : UInt8) (w : World) (hp : p.size ≤ 1000000) (hz : z = k) (hk : k ≤ p.size) : Calls Tryz.prog 75 #[.string p, .int .i64 z, .string ⟨#[c]⟩] w fun e w' => e = .returned (.bool (bt p k == c.toNat)) ∧ w = w' := by
 subst hz
 exact starts1_any p k c w hp hk
theorem setV_zero : setV 0#256 = .agg #[.int .u64 0, .int .u64 0, .int .u64 0, .int .u64 0] := by unfold setV; simp [W_zero]
set_option maxRecDepth 100000 in
set_option maxHeartbeats 16000000 in
theorem rclass_own (p : ByteArray) (i : Nat) (w : World) (hp : p.size ≤ 1000000) (hi : i < p.size) (h91 : bt p i = 91) (hoth : (bt p (i + 1) == 94) = false) : Calls Tryz.prog 78 #[.string p, .int .i64 (i : Int)] w fun e w' => e = .returned (.tuple #[setV (classZ p i).1, .int .i64 ((classZ p i).2.1 : Nat), .int .i64 (classZ p i).2.2]) ∧ Below w.heap.size w w' := by
 have hap : i + 1 ≤ p.size := by
  have h94 : bt p (i + 1) ≠ 94 := by simpa using hoth
  skip
  omega
 have hai : (if bt p (i + 1) = 94 then i + 2 else i + 1) = i + 1 := by
  have h94 : bt p (i + 1) ≠ 94 := by simpa using hoth
  rw [if_neg h94]
 have HE := Lib.hid (class_eq hi h91)
 rw [hai, hoth] at HE
 have HIt := Lib.hid (fun (k : Nat) (z : Int) w (hz : z = k) (h : k ≤ p.size) => ritem_z p k z w hp hz h)
 have HSt := Lib.hid (fun (k : Nat) (z : Int) (c : UInt8) w (hz : z = k) (h : k ≤ p.size) => starts_z p k z c w hp hz h)
 have hA := cls_0 p (i + 1)
 obtain ⟨a, ha⟩ : ∃ a, a = i + 1 := ⟨_, rfl⟩
 rw [← ha] at HE hA hap
 have haz : (a : Int) = (i : Int) + 1 := by omega
 have HA := Lib.hid hA
 have hb10 : BoxA (((w.alloc (.cells #[.int .u64 0, .int .u64 0, .int .u64 0, .int .u64 0] 40)).alloc (.cells #[.int .u64 0, .int .u64 0, .int .u64 0, .int .u64 0] 40)).alloc (.cells (bitsA 0#256) 128)) (w.heap.size + 1 + 1) 0#256 := by
  have := BoxA.new ((w.alloc (.cells #[.int .u64 0, .int .u64 0, .int .u64 0, .int .u64 0] 40)).alloc (.cells #[.int .u64 0, .int .u64 0, .int .u64 0, .int .u64 0] 40)) 0#256
  simpa using this
 have R0 := Lib.hid (rc_new w)
 have q91 : ((p[i]'hi).toNat : Int) = 91 := by rw [← bt_at hi, h91]; rfl
 have l0 : ¬ (i : Int) < 0 := by omega
 have l1 : ¬ (i : Int) ≥ (p.size : Int) := by omega
 clear hA hai ha
 go_enter Tryz.func78, Tryz.ntmps78
 go_wp2_with fail
 with_reducible refine (HSt.out (i + 1) _ 94 _ (by omega) (by omega)).mono ?_
 rw [show (bt p (i + 1) == (94 : UInt8).toNat) = false from hoth]
 rintro e w0 ⟨rfl, rfl⟩
 go_wp2_with (refine storeA rfl _ _ rfl (w.heap.size + 1 + 1) _ _ rfl rfl hb10 ?_)
 clear hb10 l0 l1 q91
 generalize World.setRow _ _ _ = W0 at R0 ⊢
 rw [← haz]
 clear haz
 go_loopw [9, 11] (fun s9 s11 wr => ∃ (k m : Nat) (S : BitVec 256), s9 = .int .i64 k ∧ s11 = .int .i64 m ∧ k ≤ p.size ∧ ClsI p a k S ∧ (m = 0 ↔ k = a) ∧ m ≤ k ∧ RC w wr S) (fun s9 _ _ => p.size - (intOf s9).toNat)
 case atStart => exact ⟨a, 0, 0#256, rfl, rfl, hap, HA.out, by simp, by omega, R0.out⟩
 case round =>
  obtain ⟨k, m, S, rfl, rfl, hk, hc, hmk, hle, hr⟩ := hrel
  have HC := Lib.hid hc
  have R0 := Lib.hid hr
  clear hc hr
  by_cases hm0 : m = 0
  ·have q1 : ((m : Int) == 0) = true := by simp; omega
   have HD := Lib.hid (show bt p k ≠ 93 ∨ k = a from .inr (hmk.1 hm0))
   go_wp2_with fail
   with_reducible refine (HIt.out k _ _ rfl hk).mono ?_
   rintro e w1 ⟨rfl, hb1⟩
   have R1 := Lib.hid (R0.out.call hb1)
   clear hb1
   obtain ⟨X, hX⟩ : ∃ X, X = itemZ p k := ⟨_, rfl⟩
   rw [← hX]
   have HX := Lib.hid hX
   clear hX
   have hak := HC.out.1
   have hg12 : w.heap.size + 1 + 1 < w1.heap.size := R1.out.s.lt
   by_cases x0 : X.2 = 0
   ·have q0 : (((X.2 : Nat) : Int) == 0) = true := by simp; omega
    have HB := Lib.hid (cls_bad HC.out hk HD.out (by rw [span_eq, ← HX.out, if_pos x0]; decide))
    go_wp2_with (refine storeNewA rfl _ _ rfl w1 0#256 X.1 rfl rfl rfl ?_; intro W1 bx1 nb1; refine stopE ?_)
    unfold StopE
    have RR := Lib.hid (R1.out.call nb1.out)
    go_wp2_with (first | (refine loadZ rfl _ rfl (w.heap.size + 1) rfl RR.out.z7 ?_) | (refine storeZ rfl _ _ rfl w.heap.size 0 0 0 0 rfl rfl RR.out.z4 ?_))
    refine bodyPost_ret (resZ3 (p := 4) (u := 5) (u2 := 6) (v := .int .i64 0) (v2 := .int .i64 3) rfl _ (g := w.heap.size) rfl rfl rfl (RR.out.z4.rowSame 0 0 0 0)) rfl ?_
    refine ⟨?_, below_row RR.out.b (Nat.le_refl _) _⟩
    rw [HE.out, HB.out, ← setV_zero]
    rfl
   ·have q0 : (((X.2 : Nat) : Int) == 0) = false := by simp; omega
    have hu := (itemZ_up p k).resolve_left (by rw [← HX.out]; exact x0)
    rw [← HX.out] at hu
    have h93 : bt p k ≠ 93 := fun h => x0 (by rw [HX.out]; unfold itemZ; rw [if_pos (by omega)])
    go_wp2_with (refine storeNewA rfl _ _ rfl w1 0#256 X.1 rfl rfl rfl ?_; intro W1 bx1 nb1; refine stopE ?_)
    unfold StopE
    have R2 := Lib.hid (R1.out.call nb1.out)
    go_wp2_with fail
    with_reducible refine (HSt.out X.2 _ 45 _ rfl hu.2).mono ?_
    rintro e w2 ⟨rfl, rfl⟩
    cases hd : (bt p X.2 == (45 : UInt8).toNat) with
    | false =>
      have hd' : bt p X.2 ≠ 45 := by simpa using hd
      have hN := cls_next HC.out hk h93 (by rw [span_eq, ← HX.out, if_neg x0, if_pos hd'])
      rw [span_eq, ← HX.out, if_neg x0, if_pos hd'] at hN
      have HN := Lib.hid hN
      clear hN
      go_wp2_with (first | (refine loadA rfl _ rfl (w.heap.size + 1 + 1) S rfl R2.out.s ?_) | (refine loadA rfl _ rfl w1.heap.size X.1 rfl bx1.out ?_))
      with_reducible refine (ror_any S X.1 _).mono ?_
      rintro e w9 ⟨rfl, hb9⟩
      have RN0 := Lib.hid (R2.out.call hb9)
      clear hb9
      go_wp2_with (refine storeA rfl _ _ rfl (w.heap.size + 1 + 1) S _ rfl rfl RN0.out.s ?_)
      have RN := RN0.out.set (ofPred fun n => mem S n || mem X.1 n)
      have HN2 := HN.out
      rw [← or_eq] at HN2
      go_roundw
      case rel => exact ⟨X.2, m + 1, _, rfl, by go_num, by omega, HN2, by omega, by omega, RN⟩
      case measure => simp [intOf]; omega
    | true =>
      have hd' : bt p X.2 = 45 := by simpa using hd
      have hx2 : X.2 < p.size := bt_in (by omega)
      go_wp2_with fail
      with_reducible refine (HIt.out (X.2 + 1) _ _ (by omega) (by omega)).mono ?_
      rintro e w3 ⟨rfl, hb3⟩
      have R3 := Lib.hid (R2.out.call hb3)
      have bxa3 := Lib.hid (bx1.out.below hb3 bx1.out.lt)
      clear hb3
      obtain ⟨Y, hY⟩ : ∃ Y, Y = itemZ p (X.2 + 1) := ⟨_, rfl⟩
      rw [← hY]
      have HY := Lib.hid hY
      clear hY
      obtain ⟨a1, f1, hm1, hl1, ha1⟩ := min_form X.1
      obtain ⟨a2, f2, hm2, hl2, ha2⟩ := min_form Y.1
      go_wp2_with (refine storeNewA rfl _ _ rfl w3 0#256 Y.1 rfl rfl rfl ?_; intro W4 bx4 nb4; refine stopE ?_)
      unfold StopE
      have R4 := Lib.hid (R3.out.call nb4.out)
      have bxa4 := Lib.hid (bxa3.out.below nb4.out bxa3.out.lt)
      go_wp2_with (first | (refine loadA rfl _ rfl w1.heap.size X.1 rfl bxa4.out ?_))
      with_reducible refine (rmin_any X.1 _).mono ?_
      rw [hm1]
      rintro e w5 ⟨rfl, hb5⟩
      have R5 := Lib.hid (R4.out.call hb5)
      have bxa5 := Lib.hid (bxa4.out.below hb5 bxa4.out.lt)
      have bxb5 := Lib.hid (bx4.out.below hb5 bx4.out.lt)
      clear hb5
      go_wp2_with (first | (refine loadA rfl _ rfl w3.heap.size Y.1 rfl bxb5.out ?_))
      with_reducible refine (rmin_any Y.1 _).mono ?_
      rw [hm2]
      rintro e w6 ⟨rfl, hb6⟩
      have R6 := Lib.hid (R5.out.call hb6)
      have bxa6 := Lib.hid (bxa5.out.below hb6 bxa5.out.lt)
      have bxb6 := Lib.hid (bxb5.out.below hb6 bxb5.out.lt)
      clear hb6 hm1 hm2
      by_cases y0 : Y.2 = 0
      ·have r0 : (((Y.2 : Nat) : Int) == 0) = true := by simp; omega
       have HB := Lib.hid (cls_bad HC.out hk HD.out (by rw [span_eq, ← HX.out, if_neg x0, if_neg (fun h => h hd'), ← HY.out, if_pos y0]; decide))
       have RR := R6
       go_wp2_with (first | (refine loadZ rfl _ rfl (w.heap.size + 1) rfl RR.out.z7 ?_) | (refine storeZ rfl _ _ rfl w.heap.size 0 0 0 0 rfl rfl RR.out.z4 ?_))
       refine bodyPost_ret (resZ3 (p := 4) (u := 5) (u2 := 6) (v := .int .i64 0) (v2 := .int .i64 3) rfl _ (g := w.heap.size) rfl rfl rfl (RR.out.z4.rowSame 0 0 0 0)) rfl ?_
       refine ⟨?_, below_row RR.out.b (Nat.le_refl _) _⟩
       rw [HE.out, HB.out, ← setV_zero]
       rfl
      ·have r0 : (((Y.2 : Nat) : Int) == 0) = false := by simp; omega
       go_wp2_with (refine loadAg (by rfl) _ rfl w1.heap.size X.1 rfl bxa6.out ?_)
       with_reducible refine (rlen_any X.1 _).mono ?_
       rintro e w7 ⟨rfl, hb7⟩
       have R7 := Lib.hid (R6.out.call hb7)
       have bxa7 := Lib.hid (bxa6.out.below hb7 bxa6.out.lt)
       have bxb7 := Lib.hid (bxb6.out.below hb7 bxb6.out.lt)
       clear hb7
       by_cases x1 : lenS X.1 ≠ 1
       ·have r1 : (((lenS X.1 : Nat) : Int) != 1) = true := by simp; omega
        have HB := Lib.hid (cls_bad HC.out hk HD.out (by rw [span_eq, ← HX.out, if_neg x0, if_neg (fun h => h hd'), ← HY.out, if_neg y0, if_pos (.inl x1)]; decide))
        have RR := R7
        go_wp2_with (first | (refine loadZ rfl _ rfl (w.heap.size + 1) rfl RR.out.z7 ?_) | (refine storeZ rfl _ _ rfl w.heap.size 0 0 0 0 rfl rfl RR.out.z4 ?_))
        refine bodyPost_ret (resZ3 (p := 4) (u := 5) (u2 := 6) (v := .int .i64 0) (v2 := .int .i64 3) rfl _ (g := w.heap.size) rfl rfl rfl (RR.out.z4.rowSame 0 0 0 0)) rfl ?_
        refine ⟨?_, below_row RR.out.b (Nat.le_refl _) _⟩
        rw [HE.out, HB.out, ← setV_zero]
        rfl
       ·have r1 : (((lenS X.1 : Nat) : Int) != 1) = false := by simp; omega
        go_wp2_with (refine loadAg (by rfl) _ rfl w3.heap.size Y.1 rfl bxb7.out ?_)
        with_reducible refine (rlen_any Y.1 _).mono ?_
        rintro e w8 ⟨rfl, hb8⟩
        have R8 := Lib.hid (R7.out.call hb8)
        have bxa8 := Lib.hid (bxa7.out.below hb8 bxa7.out.lt)
        clear hb8
        by_cases y1 : lenS Y.1 ≠ 1
        ·have r2 : (((lenS Y.1 : Nat) : Int) != 1) = true := by simp; omega
         have HB := Lib.hid (cls_bad HC.out hk HD.out (by rw [span_eq, ← HX.out, if_neg x0, if_neg (fun h => h hd'), ← HY.out, if_neg y0, if_pos (.inr (.inl y1))]; decide))
         have RR := R8
         go_wp2_with (first | (refine loadZ rfl _ rfl (w.heap.size + 1) rfl RR.out.z7 ?_) | (refine storeZ rfl _ _ rfl w.heap.size 0 0 0 0 rfl rfl RR.out.z4 ?_))
         refine bodyPost_ret (resZ3 (p := 4) (u := 5) (u2 := 6) (v := .int .i64 0) (v2 := .int .i64 3) rfl _ (g := w.heap.size) rfl rfl rfl (RR.out.z4.rowSame 0 0 0 0)) rfl ?_
         refine ⟨?_, below_row RR.out.b (Nat.le_refl _) _⟩
         rw [HE.out, HB.out, ← setV_zero]
         rfl
        ·have r2 : (((lenS Y.1 : Nat) : Int) != 1) = false := by simp; omega
         have e1 := ha1 (by omega)
         have e2 := ha2 (by omega)
         by_cases hlt : a2 < a1
         ·have r3 : decide ((a2 : Int) < (a1 : Int)) = true := decide_eq_true (by omega)
          have HB := Lib.hid (cls_bad HC.out hk HD.out (by rw [span_eq, ← HX.out, if_neg x0, if_neg (fun h => h hd'), ← HY.out, if_neg y0, if_pos (.inr (.inr (by omega)))]; decide))
          have RR := R8
          clear e1 e2 ha1 ha2
          go_wp2_with (first | (refine loadZ rfl _ rfl (w.heap.size + 1) rfl RR.out.z7 ?_) | (refine storeZ rfl _ _ rfl w.heap.size 0 0 0 0 rfl rfl RR.out.z4 ?_))
          refine bodyPost_ret (resZ3 (p := 4) (u := 5) (u2 := 6) (v := .int .i64 0) (v2 := .int .i64 3) rfl _ (g := w.heap.size) rfl rfl rfl (RR.out.z4.rowSame 0 0 0 0)) rfl ?_
          refine ⟨?_, below_row RR.out.b (Nat.le_refl _) _⟩
          rw [HE.out, HB.out, ← setV_zero]
          rfl
         ·have r3 : decide ((a2 : Int) < (a1 : Int)) = false := decide_eq_false (by omega)
          have hcond : ¬ (lenS X.1 ≠ 1 ∨ lenS Y.1 ≠ 1 ∨ minS Y.1 < minS X.1) := by omega
          have hN := cls_next HC.out hk h93 (by rw [span_eq, ← HX.out, if_neg x0, if_neg (fun h => h hd'), ← HY.out, if_neg y0, if_neg hcond])
          rw [span_eq, ← HX.out, if_neg x0, if_neg (fun h => h hd'), ← HY.out, if_neg y0, if_neg hcond, ← e1, ← e2] at hN
          have HN := Lib.hid hN
          have hv := (itemZ_up p (X.2 + 1)).resolve_left (by rw [← HY.out]; exact y0)
          rw [← HY.out] at hv
          clear hN e1 e2 ha1 ha2 hcond
          go_wp2_with fail
          with_reducible refine (rrange_any a1 a2 _ hl1 hl2).mono ?_
          rintro e wa ⟨rfl, hba⟩
          have Ra := Lib.hid (R8.out.call hba)
          have bxaa := Lib.hid (bxa8.out.below hba bxa8.out.lt)
          clear hba
          obtain ⟨Z, hZ⟩ : ∃ Z, Z = span a1 (a2 + 1) := ⟨_, rfl⟩
          rw [← hZ] at HN ⊢
          clear hZ
          go_wp2_with (refine storeA rfl _ _ rfl w1.heap.size X.1 Z rfl rfl bxaa.out ?_; refine stopE ?_)
          unfold StopE
          have Rb := Lib.hid (Ra.out.row (bitsA Z) hg12)
          have bxz := Lib.hid (bxaa.out.rowSame Z)
          go_wp2_with (first | (refine loadA rfl _ rfl (w.heap.size + 1 + 1) S rfl Rb.out.s ?_) | (refine loadA rfl _ rfl w1.heap.size Z rfl bxz.out ?_))
          with_reducible refine (ror_any S Z _).mono ?_
          rintro e w9 ⟨rfl, hb9⟩
          have RN0 := Lib.hid (Rb.out.call hb9)
          clear hb9
          go_wp2_with (refine storeA rfl _ _ rfl (w.heap.size + 1 + 1) S _ rfl rfl RN0.out.s ?_)
          have RN := RN0.out.set (ofPred fun n => mem S n || mem Z n)
          have HN2 := HN.out
          rw [← or_eq] at HN2
          go_roundw
          case rel => exact ⟨Y.2, m + 1, _, rfl, by go_num, by omega, HN2, by omega, by omega, RN⟩
          case measure => simp [intOf]; omega
  ·have q1 : ((m : Int) == 0) = false := by simp; omega
   have hka : k ≠ a := fun h => hm0 (hmk.2 h)
   go_wp2_with fail
   with_reducible refine (HSt.out k _ 93 _ rfl hk).mono ?_
   rintro e wz ⟨rfl, rfl⟩
   cases hb93 : (bt p k == (93 : UInt8).toNat) with
   | false =>
     have HD := Lib.hid (show bt p k ≠ 93 ∨ k = a from .inl (by simpa using hb93))
     go_wp2_with fail
     with_reducible refine (HIt.out k _ _ rfl hk).mono ?_
     rintro e w1 ⟨rfl, hb1⟩
     have R1 := Lib.hid (R0.out.call hb1)
     clear hb1
     obtain ⟨X, hX⟩ : ∃ X, X = itemZ p k := ⟨_, rfl⟩
     rw [← hX]
     have HX := Lib.hid hX
     clear hX
     have hak := HC.out.1
     have hg12 : w.heap.size + 1 + 1 < w1.heap.size := R1.out.s.lt
     by_cases x0 : X.2 = 0
     ·have q0 : (((X.2 : Nat) : Int) == 0) = true := by simp; omega
      have HB := Lib.hid (cls_bad HC.out hk HD.out (by rw [span_eq, ← HX.out, if_pos x0]; decide))
      go_wp2_with (refine storeNewA rfl _ _ rfl w1 0#256 X.1 rfl rfl rfl ?_; intro W1 bx1 nb1; refine stopE ?_)
      unfold StopE
      have RR := Lib.hid (R1.out.call nb1.out)
      go_wp2_with (first | (refine loadZ rfl _ rfl (w.heap.size + 1) rfl RR.out.z7 ?_) | (refine storeZ rfl _ _ rfl w.heap.size 0 0 0 0 rfl rfl RR.out.z4 ?_))
      refine bodyPost_ret (resZ3 (p := 4) (u := 5) (u2 := 6) (v := .int .i64 0) (v2 := .int .i64 3) rfl _ (g := w.heap.size) rfl rfl rfl (RR.out.z4.rowSame 0 0 0 0)) rfl ?_
      refine ⟨?_, below_row RR.out.b (Nat.le_refl _) _⟩
      rw [HE.out, HB.out, ← setV_zero]
      rfl
     ·have q0 : (((X.2 : Nat) : Int) == 0) = false := by simp; omega
      have hu := (itemZ_up p k).resolve_left (by rw [← HX.out]; exact x0)
      rw [← HX.out] at hu
      have h93 : bt p k ≠ 93 := fun h => x0 (by rw [HX.out]; unfold itemZ; rw [if_pos (by omega)])
      go_wp2_with (refine storeNewA rfl _ _ rfl w1 0#256 X.1 rfl rfl rfl ?_; intro W1 bx1 nb1; refine stopE ?_)
      unfold StopE
      have R2 := Lib.hid (R1.out.call nb1.out)
      go_wp2_with fail
      with_reducible refine (HSt.out X.2 _ 45 _ rfl hu.2).mono ?_
      rintro e w2 ⟨rfl, rfl⟩
      cases hd : (bt p X.2 == (45 : UInt8).toNat) with
      | false =>
        have hd' : bt p X.2 ≠ 45 := by simpa using hd
        have hN := cls_next HC.out hk h93 (by rw [span_eq, ← HX.out, if_neg x0, if_pos hd'])
        rw [span_eq, ← HX.out, if_neg x0, if_pos hd'] at hN
        have HN := Lib.hid hN
        clear hN
        go_wp2_with (first | (refine loadA rfl _ rfl (w.heap.size + 1 + 1) S rfl R2.out.s ?_) | (refine loadA rfl _ rfl w1.heap.size X.1 rfl bx1.out ?_))
        with_reducible refine (ror_any S X.1 _).mono ?_
        rintro e w9 ⟨rfl, hb9⟩
        have RN0 := Lib.hid (R2.out.call hb9)
        clear hb9
        go_wp2_with (refine storeA rfl _ _ rfl (w.heap.size + 1 + 1) S _ rfl rfl RN0.out.s ?_)
        have RN := RN0.out.set (ofPred fun n => mem S n || mem X.1 n)
        have HN2 := HN.out
        rw [← or_eq] at HN2
        go_roundw
        case rel => exact ⟨X.2, m + 1, _, rfl, by go_num, by omega, HN2, by omega, by omega, RN⟩
        case measure => simp [intOf]; omega
      | true =>
        have hd' : bt p X.2 = 45 := by simpa using hd
        have hx2 : X.2 < p.size := bt_in (by omega)
        go_wp2_with fail
        with_reducible refine (HIt.out (X.2 + 1) _ _ (by omega) (by omega)).mono ?_
        rintro e w3 ⟨rfl, hb3⟩
        have R3 := Lib.hid (R2.out.call hb3)
        have bxa3 := Lib.hid (bx1.out.below hb3 bx1.out.lt)
        clear hb3
        obtain ⟨Y, hY⟩ : ∃ Y, Y = itemZ p (X.2 + 1) := ⟨_, rfl⟩
        rw [← hY]
        have HY := Lib.hid hY
        clear hY
        obtain ⟨a1, f1, hm1, hl1, ha1⟩ := min_form X.1
        obtain ⟨a2, f2, hm2, hl2, ha2⟩ := min_form Y.1
        go_wp2_with (refine storeNewA rfl _ _ rfl w3 0#256 Y.1 rfl rfl rfl ?_; intro W4 bx4 nb4; refine stopE ?_)
        unfold StopE
        have R4 := Lib.hid (R3.out.call nb4.out)
        have bxa4 := Lib.hid (bxa3.out.below nb4.out bxa3.out.lt)
        go_wp2_with (first | (refine loadA rfl _ rfl w1.heap.size X.1 rfl bxa4.out ?_))
        with_reducible refine (rmin_any X.1 _).mono ?_
        rw [hm1]
        rintro e w5 ⟨rfl, hb5⟩
        have R5 := Lib.hid (R4.out.call hb5)
        have bxa5 := Lib.hid (bxa4.out.below hb5 bxa4.out.lt)
        have bxb5 := Lib.hid (bx4.out.below hb5 bx4.out.lt)
        clear hb5
        go_wp2_with (first | (refine loadA rfl _ rfl w3.heap.size Y.1 rfl bxb5.out ?_))
        with_reducible refine (rmin_any Y.1 _).mono ?_
        rw [hm2]
        rintro e w6 ⟨rfl, hb6⟩
        have R6 := Lib.hid (R5.out.call hb6)
        have bxa6 := Lib.hid (bxa5.out.below hb6 bxa5.out.lt)
        have bxb6 := Lib.hid (bxb5.out.below hb6 bxb5.out.lt)
        clear hb6 hm1 hm2
        by_cases y0 : Y.2 = 0
        ·have r0 : (((Y.2 : Nat) : Int) == 0) = true := by simp; omega
         have HB := Lib.hid (cls_bad HC.out hk HD.out (by rw [span_eq, ← HX.out, if_neg x0, if_neg (fun h => h hd'), ← HY.out, if_pos y0]; decide))
         have RR := R6
         go_wp2_with (first | (refine loadZ rfl _ rfl (w.heap.size + 1) rfl RR.out.z7 ?_) | (refine storeZ rfl _ _ rfl w.heap.size 0 0 0 0 rfl rfl RR.out.z4 ?_))
         refine bodyPost_ret (resZ3 (p := 4) (u := 5) (u2 := 6) (v := .int .i64 0) (v2 := .int .i64 3) rfl _ (g := w.heap.size) rfl rfl rfl (RR.out.z4.rowSame 0 0 0 0)) rfl ?_
         refine ⟨?_, below_row RR.out.b (Nat.le_refl _) _⟩
         rw [HE.out, HB.out, ← setV_zero]
         rfl
        ·have r0 : (((Y.2 : Nat) : Int) == 0) = false := by simp; omega
         go_wp2_with (refine loadAg (by rfl) _ rfl w1.heap.size X.1 rfl bxa6.out ?_)
         with_reducible refine (rlen_any X.1 _).mono ?_
         rintro e w7 ⟨rfl, hb7⟩
         have R7 := Lib.hid (R6.out.call hb7)
         have bxa7 := Lib.hid (bxa6.out.below hb7 bxa6.out.lt)
         have bxb7 := Lib.hid (bxb6.out.below hb7 bxb6.out.lt)
         clear hb7
         by_cases x1 : lenS X.1 ≠ 1
         ·have r1 : (((lenS X.1 : Nat) : Int) != 1) = true := by simp; omega
          have HB := Lib.hid (cls_bad HC.out hk HD.out (by rw [span_eq, ← HX.out, if_neg x0, if_neg (fun h => h hd'), ← HY.out, if_neg y0, if_pos (.inl x1)]; decide))
          have RR := R7
          go_wp2_with (first | (refine loadZ rfl _ rfl (w.heap.size + 1) rfl RR.out.z7 ?_) | (refine storeZ rfl _ _ rfl w.heap.size 0 0 0 0 rfl rfl RR.out.z4 ?_))
          refine bodyPost_ret (resZ3 (p := 4) (u := 5) (u2 := 6) (v := .int .i64 0) (v2 := .int .i64 3) rfl _ (g := w.heap.size) rfl rfl rfl (RR.out.z4.rowSame 0 0 0 0)) rfl ?_
          refine ⟨?_, below_row RR.out.b (Nat.le_refl _) _⟩
          rw [HE.out, HB.out, ← setV_zero]
          rfl
         ·have r1 : (((lenS X.1 : Nat) : Int) != 1) = false := by simp; omega
          go_wp2_with (refine loadAg (by rfl) _ rfl w3.heap.size Y.1 rfl bxb7.out ?_)
          with_reducible refine (rlen_any Y.1 _).mono ?_
          rintro e w8 ⟨rfl, hb8⟩
          have R8 := Lib.hid (R7.out.call hb8)
          have bxa8 := Lib.hid (bxa7.out.below hb8 bxa7.out.lt)
          clear hb8
          by_cases y1 : lenS Y.1 ≠ 1
          ·have r2 : (((lenS Y.1 : Nat) : Int) != 1) = true := by simp; omega
           have HB := Lib.hid (cls_bad HC.out hk HD.out (by rw [span_eq, ← HX.out, if_neg x0, if_neg (fun h => h hd'), ← HY.out, if_neg y0, if_pos (.inr (.inl y1))]; decide))
           have RR := R8
           go_wp2_with (first | (refine loadZ rfl _ rfl (w.heap.size + 1) rfl RR.out.z7 ?_) | (refine storeZ rfl _ _ rfl w.heap.size 0 0 0 0 rfl rfl RR.out.z4 ?_))
           refine bodyPost_ret (resZ3 (p := 4) (u := 5) (u2 := 6) (v := .int .i64 0) (v2 := .int .i64 3) rfl _ (g := w.heap.size) rfl rfl rfl (RR.out.z4.rowSame 0 0 0 0)) rfl ?_
           refine ⟨?_, below_row RR.out.b (Nat.le_refl _) _⟩
           rw [HE.out, HB.out, ← setV_zero]
           rfl
          ·have r2 : (((lenS Y.1 : Nat) : Int) != 1) = false := by simp; omega
           have e1 := ha1 (by omega)
           have e2 := ha2 (by omega)
           by_cases hlt : a2 < a1
           ·have r3 : decide ((a2 : Int) < (a1 : Int)) = true := decide_eq_true (by omega)
            have HB := Lib.hid (cls_bad HC.out hk HD.out (by rw [span_eq, ← HX.out, if_neg x0, if_neg (fun h => h hd'), ← HY.out, if_neg y0, if_pos (.inr (.inr (by omega)))]; decide))
            have RR := R8
            clear e1 e2 ha1 ha2
            go_wp2_with (first | (refine loadZ rfl _ rfl (w.heap.size + 1) rfl RR.out.z7 ?_) | (refine storeZ rfl _ _ rfl w.heap.size 0 0 0 0 rfl rfl RR.out.z4 ?_))
            refine bodyPost_ret (resZ3 (p := 4) (u := 5) (u2 := 6) (v := .int .i64 0) (v2 := .int .i64 3) rfl _ (g := w.heap.size) rfl rfl rfl (RR.out.z4.rowSame 0 0 0 0)) rfl ?_
            refine ⟨?_, below_row RR.out.b (Nat.le_refl _) _⟩
            rw [HE.out, HB.out, ← setV_zero]
            rfl
           ·have r3 : decide ((a2 : Int) < (a1 : Int)) = false := decide_eq_false (by omega)
            have hcond : ¬ (lenS X.1 ≠ 1 ∨ lenS Y.1 ≠ 1 ∨ minS Y.1 < minS X.1) := by omega
            have hN := cls_next HC.out hk h93 (by rw [span_eq, ← HX.out, if_neg x0, if_neg (fun h => h hd'), ← HY.out, if_neg y0, if_neg hcond])
            rw [span_eq, ← HX.out, if_neg x0, if_neg (fun h => h hd'), ← HY.out, if_neg y0, if_neg hcond, ← e1, ← e2] at hN
            have HN := Lib.hid hN
            have hv := (itemZ_up p (X.2 + 1)).resolve_left (by rw [← HY.out]; exact y0)
            rw [← HY.out] at hv
            clear hN e1 e2 ha1 ha2 hcond
            go_wp2_with fail
            with_reducible refine (rrange_any a1 a2 _ hl1 hl2).mono ?_
            rintro e wa ⟨rfl, hba⟩
            have Ra := Lib.hid (R8.out.call hba)
            have bxaa := Lib.hid (bxa8.out.below hba bxa8.out.lt)
            clear hba
            obtain ⟨Z, hZ⟩ : ∃ Z, Z = span a1 (a2 + 1) := ⟨_, rfl⟩
            rw [← hZ] at HN ⊢
            clear hZ
            go_wp2_with (refine storeA rfl _ _ rfl w1.heap.size X.1 Z rfl rfl bxaa.out ?_; refine stopE ?_)
            unfold StopE
            have Rb := Lib.hid (Ra.out.row (bitsA Z) hg12)
            have bxz := Lib.hid (bxaa.out.rowSame Z)
            go_wp2_with (first | (refine loadA rfl _ rfl (w.heap.size + 1 + 1) S rfl Rb.out.s ?_) | (refine loadA rfl _ rfl w1.heap.size Z rfl bxz.out ?_))
            with_reducible refine (ror_any S Z _).mono ?_
            rintro e w9 ⟨rfl, hb9⟩
            have RN0 := Lib.hid (Rb.out.call hb9)
            clear hb9
            go_wp2_with (refine storeA rfl _ _ rfl (w.heap.size + 1 + 1) S _ rfl rfl RN0.out.s ?_)
            have RN := RN0.out.set (ofPred fun n => mem S n || mem Z n)
            have HN2 := HN.out
            rw [← or_eq] at HN2
            go_roundw
            case rel => exact ⟨Y.2, m + 1, _, rfl, by go_num, by omega, HN2, by omega, by omega, RN⟩
            case measure => simp [intOf]; omega
   | true =>
     have h93 : bt p k = 93 := by simpa using hb93
     have HB := Lib.hid (cls_done HC.out hk h93 hka)
     have hk93 : k < p.size := bt_in (by omega)
     go_wp2_with (refine loadA rfl _ rfl (w.heap.size + 1 + 1) S rfl R0.out.s ?_)
     with_reducible refine (rwords_any S _).mono ?_
     rintro e wy ⟨rfl, hby⟩
     have RY := R0.out.call hby
     go_wp2_with (refine storeZ rfl _ _ rfl w.heap.size (W S 0) (W S 1) (W S 2) (W S 3) rfl rfl RY.z4 ?_)
     refine bodyPost_ret (resZ3 (p := 4) (u := 5) (u2 := 6) (v := .int .i64 ((k : Int) + 1)) (v2 := .int .i64 0) rfl _ (g := w.heap.size) rfl rfl rfl (RY.z4.rowSame _ _ _ _)) rfl ?_
     refine ⟨?_, below_row RY.b (Nat.le_refl _) _⟩
     rw [HE.out, HB.out]
     rfl
set_option maxRecDepth 100000 in
set_option maxHeartbeats 16000000 in
theorem rclass_oth (p : ByteArray) (i : Nat) (w : World) (hp : p.size ≤ 1000000) (hi : i < p.size) (h91 : bt p i = 91) (hoth : (bt p (i + 1) == 94) = true) : Calls Tryz.prog 78 #[.string p, .int .i64 (i : Int)] w fun e w' => e = .returned (.tuple #[setV (classZ p i).1, .int .i64 ((classZ p i).2.1 : Nat), .int .i64 (classZ p i).2.2]) ∧ Below w.heap.size w w' := by
 have hap : i + 2 ≤ p.size := by
  have h94 : bt p (i + 1) = 94 := by simpa using hoth
  have := bt_in (p := p) (i := i + 1) (by omega)
  omega
 have hai : (if bt p (i + 1) = 94 then i + 2 else i + 1) = i + 2 := by
  have h94 : bt p (i + 1) = 94 := by simpa using hoth
  rw [if_pos h94]
 have HE := Lib.hid (class_eq hi h91)
 rw [hai, hoth] at HE
 have HIt := Lib.hid (fun (k : Nat) (z : Int) w (hz : z = k) (h : k ≤ p.size) => ritem_z p k z w hp hz h)
 have HSt := Lib.hid (fun (k : Nat) (z : Int) (c : UInt8) w (hz : z = k) (h : k ≤ p.size) => starts_z p k z c w hp hz h)
 have hA := cls_0 p (i + 2)
 obtain ⟨a, ha⟩ : ∃ a, a = i + 2 := ⟨_, rfl⟩
 rw [← ha] at HE hA hap
 have haz : (a : Int) = (i : Int) + 1 + 1 := by omega
 have HA := Lib.hid hA
 have hb10 : BoxA (((w.alloc (.cells #[.int .u64 0, .int .u64 0, .int .u64 0, .int .u64 0] 40)).alloc (.cells #[.int .u64 0, .int .u64 0, .int .u64 0, .int .u64 0] 40)).alloc (.cells (bitsA 0#256) 128)) (w.heap.size + 1 + 1) 0#256 := by
  have := BoxA.new ((w.alloc (.cells #[.int .u64 0, .int .u64 0, .int .u64 0, .int .u64 0] 40)).alloc (.cells #[.int .u64 0, .int .u64 0, .int .u64 0, .int .u64 0] 40)) 0#256
  simpa using this
 have R0 := Lib.hid (rc_new w)
 have q91 : ((p[i]'hi).toNat : Int) = 91 := by rw [← bt_at hi, h91]; rfl
 have l0 : ¬ (i : Int) < 0 := by omega
 have l1 : ¬ (i : Int) ≥ (p.size : Int) := by omega
 clear hA hai ha
 go_enter Tryz.func78, Tryz.ntmps78
 go_wp2_with fail
 with_reducible refine (HSt.out (i + 1) _ 94 _ (by omega) (by omega)).mono ?_
 rw [show (bt p (i + 1) == (94 : UInt8).toNat) = true from hoth]
 rintro e w0 ⟨rfl, rfl⟩
 go_wp2_with (refine storeA rfl _ _ rfl (w.heap.size + 1 + 1) _ _ rfl rfl hb10 ?_)
 clear hb10 l0 l1 q91
 generalize World.setRow _ _ _ = W0 at R0 ⊢
 rw [← haz]
 clear haz
 go_loopw [9, 11] (fun s9 s11 wr => ∃ (k m : Nat) (S : BitVec 256), s9 = .int .i64 k ∧ s11 = .int .i64 m ∧ k ≤ p.size ∧ ClsI p a k S ∧ (m = 0 ↔ k = a) ∧ m ≤ k ∧ RC w wr S) (fun s9 _ _ => p.size - (intOf s9).toNat)
 case atStart => exact ⟨a, 0, 0#256, rfl, rfl, hap, HA.out, by simp, by omega, R0.out⟩
 case round =>
  obtain ⟨k, m, S, rfl, rfl, hk, hc, hmk, hle, hr⟩ := hrel
  have HC := Lib.hid hc
  have R0 := Lib.hid hr
  clear hc hr
  by_cases hm0 : m = 0
  ·have q1 : ((m : Int) == 0) = true := by simp; omega
   have HD := Lib.hid (show bt p k ≠ 93 ∨ k = a from .inr (hmk.1 hm0))
   go_wp2_with fail
   with_reducible refine (HIt.out k _ _ rfl hk).mono ?_
   rintro e w1 ⟨rfl, hb1⟩
   have R1 := Lib.hid (R0.out.call hb1)
   clear hb1
   obtain ⟨X, hX⟩ : ∃ X, X = itemZ p k := ⟨_, rfl⟩
   rw [← hX]
   have HX := Lib.hid hX
   clear hX
   have hak := HC.out.1
   have hg12 : w.heap.size + 1 + 1 < w1.heap.size := R1.out.s.lt
   by_cases x0 : X.2 = 0
   ·have q0 : (((X.2 : Nat) : Int) == 0) = true := by simp; omega
    have HB := Lib.hid (cls_bad HC.out hk HD.out (by rw [span_eq, ← HX.out, if_pos x0]; decide))
    go_wp2_with (refine storeNewA rfl _ _ rfl w1 0#256 X.1 rfl rfl rfl ?_; intro W1 bx1 nb1; refine stopE ?_)
    unfold StopE
    have RR := Lib.hid (R1.out.call nb1.out)
    go_wp2_with (first | (refine loadZ rfl _ rfl (w.heap.size + 1) rfl RR.out.z7 ?_) | (refine storeZ rfl _ _ rfl w.heap.size 0 0 0 0 rfl rfl RR.out.z4 ?_))
    refine bodyPost_ret (resZ3 (p := 4) (u := 5) (u2 := 6) (v := .int .i64 0) (v2 := .int .i64 3) rfl _ (g := w.heap.size) rfl rfl rfl (RR.out.z4.rowSame 0 0 0 0)) rfl ?_
    refine ⟨?_, below_row RR.out.b (Nat.le_refl _) _⟩
    rw [HE.out, HB.out, ← setV_zero]
    rfl
   ·have q0 : (((X.2 : Nat) : Int) == 0) = false := by simp; omega
    have hu := (itemZ_up p k).resolve_left (by rw [← HX.out]; exact x0)
    rw [← HX.out] at hu
    have h93 : bt p k ≠ 93 := fun h => x0 (by rw [HX.out]; unfold itemZ; rw [if_pos (by omega)])
    go_wp2_with (refine storeNewA rfl _ _ rfl w1 0#256 X.1 rfl rfl rfl ?_; intro W1 bx1 nb1; refine stopE ?_)
    unfold StopE
    have R2 := Lib.hid (R1.out.call nb1.out)
    go_wp2_with fail
    with_reducible refine (HSt.out X.2 _ 45 _ rfl hu.2).mono ?_
    rintro e w2 ⟨rfl, rfl⟩
    cases hd : (bt p X.2 == (45 : UInt8).toNat) with
    | false =>
      have hd' : bt p X.2 ≠ 45 := by simpa using hd
      have hN := cls_next HC.out hk h93 (by rw [span_eq, ← HX.out, if_neg x0, if_pos hd'])
      rw [span_eq, ← HX.out, if_neg x0, if_pos hd'] at hN
      have HN := Lib.hid hN
      clear hN
      go_wp2_with (first | (refine loadA rfl _ rfl (w.heap.size + 1 + 1) S rfl R2.out.s ?_) | (refine loadA rfl _ rfl w1.heap.size X.1 rfl bx1.out ?_))
      with_reducible refine (ror_any S X.1 _).mono ?_
      rintro e w9 ⟨rfl, hb9⟩
      have RN0 := Lib.hid (R2.out.call hb9)
      clear hb9
      go_wp2_with (refine storeA rfl _ _ rfl (w.heap.size + 1 + 1) S _ rfl rfl RN0.out.s ?_)
      have RN := RN0.out.set (ofPred fun n => mem S n || mem X.1 n)
      have HN2 := HN.out
      rw [← or_eq] at HN2
      go_roundw
      case rel => exact ⟨X.2, m + 1, _, rfl, by go_num, by omega, HN2, by omega, by omega, RN⟩
      case measure => simp [intOf]; omega
    | true =>
      have hd' : bt p X.2 = 45 := by simpa using hd
      have hx2 : X.2 < p.size := bt_in (by omega)
      go_wp2_with fail
      with_reducible refine (HIt.out (X.2 + 1) _ _ (by omega) (by omega)).mono ?_
      rintro e w3 ⟨rfl, hb3⟩
      have R3 := Lib.hid (R2.out.call hb3)
      have bxa3 := Lib.hid (bx1.out.below hb3 bx1.out.lt)
      clear hb3
      obtain ⟨Y, hY⟩ : ∃ Y, Y = itemZ p (X.2 + 1) := ⟨_, rfl⟩
      rw [← hY]
      have HY := Lib.hid hY
      clear hY
      obtain ⟨a1, f1, hm1, hl1, ha1⟩ := min_form X.1
      obtain ⟨a2, f2, hm2, hl2, ha2⟩ := min_form Y.1
      go_wp2_with (refine storeNewA rfl _ _ rfl w3 0#256 Y.1 rfl rfl rfl ?_; intro W4 bx4 nb4; refine stopE ?_)
      unfold StopE
      have R4 := Lib.hid (R3.out.call nb4.out)
      have bxa4 := Lib.hid (bxa3.out.below nb4.out bxa3.out.lt)
      go_wp2_with (first | (refine loadA rfl _ rfl w1.heap.size X.1 rfl bxa4.out ?_))
      with_reducible refine (rmin_any X.1 _).mono ?_
      rw [hm1]
      rintro e w5 ⟨rfl, hb5⟩
      have R5 := Lib.hid (R4.out.call hb5)
      have bxa5 := Lib.hid (bxa4.out.below hb5 bxa4.out.lt)
      have bxb5 := Lib.hid (bx4.out.below hb5 bx4.out.lt)
      clear hb5
      go_wp2_with (first | (refine loadA rfl _ rfl w3.heap.size Y.1 rfl bxb5.out ?_))
      with_reducible refine (rmin_any Y.1 _).mono ?_
      rw [hm2]
      rintro e w6 ⟨rfl, hb6⟩
      have R6 := Lib.hid (R5.out.call hb6)
      have bxa6 := Lib.hid (bxa5.out.below hb6 bxa5.out.lt)
      have bxb6 := Lib.hid (bxb5.out.below hb6 bxb5.out.lt)
      clear hb6 hm1 hm2
      by_cases y0 : Y.2 = 0
      ·have r0 : (((Y.2 : Nat) : Int) == 0) = true := by simp; omega
       have HB := Lib.hid (cls_bad HC.out hk HD.out (by rw [span_eq, ← HX.out, if_neg x0, if_neg (fun h => h hd'), ← HY.out, if_pos y0]; decide))
       have RR := R6
       go_wp2_with (first | (refine loadZ rfl _ rfl (w.heap.size + 1) rfl RR.out.z7 ?_) | (refine storeZ rfl _ _ rfl w.heap.size 0 0 0 0 rfl rfl RR.out.z4 ?_))
       refine bodyPost_ret (resZ3 (p := 4) (u := 5) (u2 := 6) (v := .int .i64 0) (v2 := .int .i64 3) rfl _ (g := w.heap.size) rfl rfl rfl (RR.out.z4.rowSame 0 0 0 0)) rfl ?_
       refine ⟨?_, below_row RR.out.b (Nat.le_refl _) _⟩
       rw [HE.out, HB.out, ← setV_zero]
       rfl
      ·have r0 : (((Y.2 : Nat) : Int) == 0) = false := by simp; omega
       go_wp2_with (refine loadAg (by rfl) _ rfl w1.heap.size X.1 rfl bxa6.out ?_)
       with_reducible refine (rlen_any X.1 _).mono ?_
       rintro e w7 ⟨rfl, hb7⟩
       have R7 := Lib.hid (R6.out.call hb7)
       have bxa7 := Lib.hid (bxa6.out.below hb7 bxa6.out.lt)
       have bxb7 := Lib.hid (bxb6.out.below hb7 bxb6.out.lt)
       clear hb7
       by_cases x1 : lenS X.1 ≠ 1
       ·have r1 : (((lenS X.1 : Nat) : Int) != 1) = true := by simp; omega
        have HB := Lib.hid (cls_bad HC.out hk HD.out (by rw [span_eq, ← HX.out, if_neg x0, if_neg (fun h => h hd'), ← HY.out, if_neg y0, if_pos (.inl x1)]; decide))
        have RR := R7
        go_wp2_with (first | (refine loadZ rfl _ rfl (w.heap.size + 1) rfl RR.out.z7 ?_) | (refine storeZ rfl _ _ rfl w.heap.size 0 0 0 0 rfl rfl RR.out.z4 ?_))
        refine bodyPost_ret (resZ3 (p := 4) (u := 5) (u2 := 6) (v := .int .i64 0) (v2 := .int .i64 3) rfl _ (g := w.heap.size) rfl rfl rfl (RR.out.z4.rowSame 0 0 0 0)) rfl ?_
        refine ⟨?_, below_row RR.out.b (Nat.le_refl _) _⟩
        rw [HE.out, HB.out, ← setV_zero]
        rfl
       ·have r1 : (((lenS X.1 : Nat) : Int) != 1) = false := by simp; omega
        go_wp2_with (refine loadAg (by rfl) _ rfl w3.heap.size Y.1 rfl bxb7.out ?_)
        with_reducible refine (rlen_any Y.1 _).mono ?_
        rintro e w8 ⟨rfl, hb8⟩
        have R8 := Lib.hid (R7.out.call hb8)
        have bxa8 := Lib.hid (bxa7.out.below hb8 bxa7.out.lt)
        clear hb8
        by_cases y1 : lenS Y.1 ≠ 1
        ·have r2 : (((lenS Y.1 : Nat) : Int) != 1) = true := by simp; omega
         have HB := Lib.hid (cls_bad HC.out hk HD.out (by rw [span_eq, ← HX.out, if_neg x0, if_neg (fun h => h hd'), ← HY.out, if_neg y0, if_pos (.inr (.inl y1))]; decide))
         have RR := R8
         go_wp2_with (first | (refine loadZ rfl _ rfl (w.heap.size + 1) rfl RR.out.z7 ?_) | (refine storeZ rfl _ _ rfl w.heap.size 0 0 0 0 rfl rfl RR.out.z4 ?_))
         refine bodyPost_ret (resZ3 (p := 4) (u := 5) (u2 := 6) (v := .int .i64 0) (v2 := .int .i64 3) rfl _ (g := w.heap.size) rfl rfl rfl (RR.out.z4.rowSame 0 0 0 0)) rfl ?_
         refine ⟨?_, below_row RR.out.b (Nat.le_refl _) _⟩
         rw [HE.out, HB.out, ← setV_zero]
         rfl
        ·have r2 : (((lenS Y.1 : Nat) : Int) != 1) = false := by simp; omega
         have e1 := ha1 (by omega)
         have e2 := ha2 (by omega)
         by_cases hlt : a2 < a1
         ·have r3 : decide ((a2 : Int) < (a1 : Int)) = true := decide_eq_true (by omega)
          have HB := Lib.hid (cls_bad HC.out hk HD.out (by rw [span_eq, ← HX.out, if_neg x0, if_neg (fun h => h hd'), ← HY.out, if_neg y0, if_pos (.inr (.inr (by omega)))]; decide))
          have RR := R8
          clear e1 e2 ha1 ha2
          go_wp2_with (first | (refine loadZ rfl _ rfl (w.heap.size + 1) rfl RR.out.z7 ?_) | (refine storeZ rfl _ _ rfl w.heap.size 0 0 0 0 rfl rfl RR.out.z4 ?_))
          refine bodyPost_ret (resZ3 (p := 4) (u := 5) (u2 := 6) (v := .int .i64 0) (v2 := .int .i64 3) rfl _ (g := w.heap.size) rfl rfl rfl (RR.out.z4.rowSame 0 0 0 0)) rfl ?_
          refine ⟨?_, below_row RR.out.b (Nat.le_refl _) _⟩
          rw [HE.out, HB.out, ← setV_zero]
          rfl
         ·have r3 : decide ((a2 : Int) < (a1 : Int)) = false := decide_eq_false (by omega)
          have hcond : ¬ (lenS X.1 ≠ 1 ∨ lenS Y.1 ≠ 1 ∨ minS Y.1 < minS X.1) := by omega
          have hN := cls_next HC.out hk h93 (by rw [span_eq, ← HX.out, if_neg x0, if_neg (fun h => h hd'), ← HY.out, if_neg y0, if_neg hcond])
          rw [span_eq, ← HX.out, if_neg x0, if_neg (fun h => h hd'), ← HY.out, if_neg y0, if_neg hcond, ← e1, ← e2] at hN
          have HN := Lib.hid hN
          have hv := (itemZ_up p (X.2 + 1)).resolve_left (by rw [← HY.out]; exact y0)
          rw [← HY.out] at hv
          clear hN e1 e2 ha1 ha2 hcond
          go_wp2_with fail
          with_reducible refine (rrange_any a1 a2 _ hl1 hl2).mono ?_
          rintro e wa ⟨rfl, hba⟩
          have Ra := Lib.hid (R8.out.call hba)
          have bxaa := Lib.hid (bxa8.out.below hba bxa8.out.lt)
          clear hba
          obtain ⟨Z, hZ⟩ : ∃ Z, Z = span a1 (a2 + 1) := ⟨_, rfl⟩
          rw [← hZ] at HN ⊢
          clear hZ
          go_wp2_with (refine storeA rfl _ _ rfl w1.heap.size X.1 Z rfl rfl bxaa.out ?_; refine stopE ?_)
          unfold StopE
          have Rb := Lib.hid (Ra.out.row (bitsA Z) hg12)
          have bxz := Lib.hid (bxaa.out.rowSame Z)
          go_wp2_with (first | (refine loadA rfl _ rfl (w.heap.size + 1 + 1) S rfl Rb.out.s ?_) | (refine loadA rfl _ rfl w1.heap.size Z rfl bxz.out ?_))
          with_reducible refine (ror_any S Z _).mono ?_
          rintro e w9 ⟨rfl, hb9⟩
          have RN0 := Lib.hid (Rb.out.call hb9)
          clear hb9
          go_wp2_with (refine storeA rfl _ _ rfl (w.heap.size + 1 + 1) S _ rfl rfl RN0.out.s ?_)
          have RN := RN0.out.set (ofPred fun n => mem S n || mem Z n)
          have HN2 := HN.out
          rw [← or_eq] at HN2
          go_roundw
          case rel => exact ⟨Y.2, m + 1, _, rfl, by go_num, by omega, HN2, by omega, by omega, RN⟩
          case measure => simp [intOf]; omega
  ·have q1 : ((m : Int) == 0) = false := by simp; omega
   have hka : k ≠ a := fun h => hm0 (hmk.2 h)
   go_wp2_with fail
   with_reducible refine (HSt.out k _ 93 _ rfl hk).mono ?_
   rintro e wz ⟨rfl, rfl⟩
   cases hb93 : (bt p k == (93 : UInt8).toNat) with
   | false =>
     have HD := Lib.hid (show bt p k ≠ 93 ∨ k = a from .inl (by simpa using hb93))
     go_wp2_with fail
     with_reducible refine (HIt.out k _ _ rfl hk).mono ?_
     rintro e w1 ⟨rfl, hb1⟩
     have R1 := Lib.hid (R0.out.call hb1)
     clear hb1
     obtain ⟨X, hX⟩ : ∃ X, X = itemZ p k := ⟨_, rfl⟩
     rw [← hX]
     have HX := Lib.hid hX
     clear hX
     have hak := HC.out.1
     have hg12 : w.heap.size + 1 + 1 < w1.heap.size := R1.out.s.lt
     by_cases x0 : X.2 = 0
     ·have q0 : (((X.2 : Nat) : Int) == 0) = true := by simp; omega
      have HB := Lib.hid (cls_bad HC.out hk HD.out (by rw [span_eq, ← HX.out, if_pos x0]; decide))
      go_wp2_with (refine storeNewA rfl _ _ rfl w1 0#256 X.1 rfl rfl rfl ?_; intro W1 bx1 nb1; refine stopE ?_)
      unfold StopE
      have RR := Lib.hid (R1.out.call nb1.out)
      go_wp2_with (first | (refine loadZ rfl _ rfl (w.heap.size + 1) rfl RR.out.z7 ?_) | (refine storeZ rfl _ _ rfl w.heap.size 0 0 0 0 rfl rfl RR.out.z4 ?_))
      refine bodyPost_ret (resZ3 (p := 4) (u := 5) (u2 := 6) (v := .int .i64 0) (v2 := .int .i64 3) rfl _ (g := w.heap.size) rfl rfl rfl (RR.out.z4.rowSame 0 0 0 0)) rfl ?_
      refine ⟨?_, below_row RR.out.b (Nat.le_refl _) _⟩
      rw [HE.out, HB.out, ← setV_zero]
      rfl
     ·have q0 : (((X.2 : Nat) : Int) == 0) = false := by simp; omega
      have hu := (itemZ_up p k).resolve_left (by rw [← HX.out]; exact x0)
      rw [← HX.out] at hu
      have h93 : bt p k ≠ 93 := fun h => x0 (by rw [HX.out]; unfold itemZ; rw [if_pos (by omega)])
      go_wp2_with (refine storeNewA rfl _ _ rfl w1 0#256 X.1 rfl rfl rfl ?_; intro W1 bx1 nb1; refine stopE ?_)
      unfold StopE
      have R2 := Lib.hid (R1.out.call nb1.out)
      go_wp2_with fail
      with_reducible refine (HSt.out X.2 _ 45 _ rfl hu.2).mono ?_
      rintro e w2 ⟨rfl, rfl⟩
      cases hd : (bt p X.2 == (45 : UInt8).toNat) with
      | false =>
        have hd' : bt p X.2 ≠ 45 := by simpa using hd
        have hN := cls_next HC.out hk h93 (by rw [span_eq, ← HX.out, if_neg x0, if_pos hd'])
        rw [span_eq, ← HX.out, if_neg x0, if_pos hd'] at hN
        have HN := Lib.hid hN
        clear hN
        go_wp2_with (first | (refine loadA rfl _ rfl (w.heap.size + 1 + 1) S rfl R2.out.s ?_) | (refine loadA rfl _ rfl w1.heap.size X.1 rfl bx1.out ?_))
        with_reducible refine (ror_any S X.1 _).mono ?_
        rintro e w9 ⟨rfl, hb9⟩
        have RN0 := Lib.hid (R2.out.call hb9)
        clear hb9
        go_wp2_with (refine storeA rfl _ _ rfl (w.heap.size + 1 + 1) S _ rfl rfl RN0.out.s ?_)
        have RN := RN0.out.set (ofPred fun n => mem S n || mem X.1 n)
        have HN2 := HN.out
        rw [← or_eq] at HN2
        go_roundw
        case rel => exact ⟨X.2, m + 1, _, rfl, by go_num, by omega, HN2, by omega, by omega, RN⟩
        case measure => simp [intOf]; omega
      | true =>
        have hd' : bt p X.2 = 45 := by simpa using hd
        have hx2 : X.2 < p.size := bt_in (by omega)
        go_wp2_with fail
        with_reducible refine (HIt.out (X.2 + 1) _ _ (by omega) (by omega)).mono ?_
        rintro e w3 ⟨rfl, hb3⟩
        have R3 := Lib.hid (R2.out.call hb3)
        have bxa3 := Lib.hid (bx1.out.below hb3 bx1.out.lt)
        clear hb3
        obtain ⟨Y, hY⟩ : ∃ Y, Y = itemZ p (X.2 + 1) := ⟨_, rfl⟩
        rw [← hY]
        have HY := Lib.hid hY
        clear hY
        obtain ⟨a1, f1, hm1, hl1, ha1⟩ := min_form X.1
        obtain ⟨a2, f2, hm2, hl2, ha2⟩ := min_form Y.1
        go_wp2_with (refine storeNewA rfl _ _ rfl w3 0#256 Y.1 rfl rfl rfl ?_; intro W4 bx4 nb4; refine stopE ?_)
        unfold StopE
        have R4 := Lib.hid (R3.out.call nb4.out)
        have bxa4 := Lib.hid (bxa3.out.below nb4.out bxa3.out.lt)
        go_wp2_with (first | (refine loadA rfl _ rfl w1.heap.size X.1 rfl bxa4.out ?_))
        with_reducible refine (rmin_any X.1 _).mono ?_
        rw [hm1]
        rintro e w5 ⟨rfl, hb5⟩
        have R5 := Lib.hid (R4.out.call hb5)
        have bxa5 := Lib.hid (bxa4.out.below hb5 bxa4.out.lt)
        have bxb5 := Lib.hid (bx4.out.below hb5 bx4.out.lt)
        clear hb5
        go_wp2_with (first | (refine loadA rfl _ rfl w3.heap.size Y.1 rfl bxb5.out ?_))
        with_reducible refine (rmin_any Y.1 _).mono ?_
        rw [hm2]
        rintro e w6 ⟨rfl, hb6⟩
        have R6 := Lib.hid (R5.out.call hb6)
        have bxa6 := Lib.hid (bxa5.out.below hb6 bxa5.out.lt)
        have bxb6 := Lib.hid (bxb5.out.below hb6 bxb5.out.lt)
        clear hb6 hm1 hm2
        by_cases y0 : Y.2 = 0
        ·have r0 : (((Y.2 : Nat) : Int) == 0) = true := by simp; omega
         have HB := Lib.hid (cls_bad HC.out hk HD.out (by rw [span_eq, ← HX.out, if_neg x0, if_neg (fun h => h hd'), ← HY.out, if_pos y0]; decide))
         have RR := R6
         go_wp2_with (first | (refine loadZ rfl _ rfl (w.heap.size + 1) rfl RR.out.z7 ?_) | (refine storeZ rfl _ _ rfl w.heap.size 0 0 0 0 rfl rfl RR.out.z4 ?_))
         refine bodyPost_ret (resZ3 (p := 4) (u := 5) (u2 := 6) (v := .int .i64 0) (v2 := .int .i64 3) rfl _ (g := w.heap.size) rfl rfl rfl (RR.out.z4.rowSame 0 0 0 0)) rfl ?_
         refine ⟨?_, below_row RR.out.b (Nat.le_refl _) _⟩
         rw [HE.out, HB.out, ← setV_zero]
         rfl
        ·have r0 : (((Y.2 : Nat) : Int) == 0) = false := by simp; omega
         go_wp2_with (refine loadAg (by rfl) _ rfl w1.heap.size X.1 rfl bxa6.out ?_)
         with_reducible refine (rlen_any X.1 _).mono ?_
         rintro e w7 ⟨rfl, hb7⟩
         have R7 := Lib.hid (R6.out.call hb7)
         have bxa7 := Lib.hid (bxa6.out.below hb7 bxa6.out.lt)
         have bxb7 := Lib.hid (bxb6.out.below hb7 bxb6.out.lt)
         clear hb7
         by_cases x1 : lenS X.1 ≠ 1
         ·have r1 : (((lenS X.1 : Nat) : Int) != 1) = true := by simp; omega
          have HB := Lib.hid (cls_bad HC.out hk HD.out (by rw [span_eq, ← HX.out, if_neg x0, if_neg (fun h => h hd'), ← HY.out, if_neg y0, if_pos (.inl x1)]; decide))
          have RR := R7
          go_wp2_with (first | (refine loadZ rfl _ rfl (w.heap.size + 1) rfl RR.out.z7 ?_) | (refine storeZ rfl _ _ rfl w.heap.size 0 0 0 0 rfl rfl RR.out.z4 ?_))
          refine bodyPost_ret (resZ3 (p := 4) (u := 5) (u2 := 6) (v := .int .i64 0) (v2 := .int .i64 3) rfl _ (g := w.heap.size) rfl rfl rfl (RR.out.z4.rowSame 0 0 0 0)) rfl ?_
          refine ⟨?_, below_row RR.out.b (Nat.le_refl _) _⟩
          rw [HE.out, HB.out, ← setV_zero]
          rfl
         ·have r1 : (((lenS X.1 : Nat) : Int) != 1) = false := by simp; omega
          go_wp2_with (refine loadAg (by rfl) _ rfl w3.heap.size Y.1 rfl bxb7.out ?_)
          with_reducible refine (rlen_any Y.1 _).mono ?_
          rintro e w8 ⟨rfl, hb8⟩
          have R8 := Lib.hid (R7.out.call hb8)
          have bxa8 := Lib.hid (bxa7.out.below hb8 bxa7.out.lt)
          clear hb8
          by_cases y1 : lenS Y.1 ≠ 1
          ·have r2 : (((lenS Y.1 : Nat) : Int) != 1) = true := by simp; omega
           have HB := Lib.hid (cls_bad HC.out hk HD.out (by rw [span_eq, ← HX.out, if_neg x0, if_neg (fun h => h hd'), ← HY.out, if_neg y0, if_pos (.inr (.inl y1))]; decide))
           have RR := R8
           go_wp2_with (first | (refine loadZ rfl _ rfl (w.heap.size + 1) rfl RR.out.z7 ?_) | (refine storeZ rfl _ _ rfl w.heap.size 0 0 0 0 rfl rfl RR.out.z4 ?_))
           refine bodyPost_ret (resZ3 (p := 4) (u := 5) (u2 := 6) (v := .int .i64 0) (v2 := .int .i64 3) rfl _ (g := w.heap.size) rfl rfl rfl (RR.out.z4.rowSame 0 0 0 0)) rfl ?_
           refine ⟨?_, below_row RR.out.b (Nat.le_refl _) _⟩
           rw [HE.out, HB.out, ← setV_zero]
           rfl
          ·have r2 : (((lenS Y.1 : Nat) : Int) != 1) = false := by simp; omega
           have e1 := ha1 (by omega)
           have e2 := ha2 (by omega)
           by_cases hlt : a2 < a1
           ·have r3 : decide ((a2 : Int) < (a1 : Int)) = true := decide_eq_true (by omega)
            have HB := Lib.hid (cls_bad HC.out hk HD.out (by rw [span_eq, ← HX.out, if_neg x0, if_neg (fun h => h hd'), ← HY.out, if_neg y0, if_pos (.inr (.inr (by omega)))]; decide))
            have RR := R8
            clear e1 e2 ha1 ha2
            go_wp2_with (first | (refine loadZ rfl _ rfl (w.heap.size + 1) rfl RR.out.z7 ?_) | (refine storeZ rfl _ _ rfl w.heap.size 0 0 0 0 rfl rfl RR.out.z4 ?_))
            refine bodyPost_ret (resZ3 (p := 4) (u := 5) (u2 := 6) (v := .int .i64 0) (v2 := .int .i64 3) rfl _ (g := w.heap.size) rfl rfl rfl (RR.out.z4.rowSame 0 0 0 0)) rfl ?_
            refine ⟨?_, below_row RR.out.b (Nat.le_refl _) _⟩
            rw [HE.out, HB.out, ← setV_zero]
            rfl
           ·have r3 : decide ((a2 : Int) < (a1 : Int)) = false := decide_eq_false (by omega)
            have hcond : ¬ (lenS X.1 ≠ 1 ∨ lenS Y.1 ≠ 1 ∨ minS Y.1 < minS X.1) := by omega
            have hN := cls_next HC.out hk h93 (by rw [span_eq, ← HX.out, if_neg x0, if_neg (fun h => h hd'), ← HY.out, if_neg y0, if_neg hcond])
            rw [span_eq, ← HX.out, if_neg x0, if_neg (fun h => h hd'), ← HY.out, if_neg y0, if_neg hcond, ← e1, ← e2] at hN
            have HN := Lib.hid hN
            have hv := (itemZ_up p (X.2 + 1)).resolve_left (by rw [← HY.out]; exact y0)
            rw [← HY.out] at hv
            clear hN e1 e2 ha1 ha2 hcond
            go_wp2_with fail
            with_reducible refine (rrange_any a1 a2 _ hl1 hl2).mono ?_
            rintro e wa ⟨rfl, hba⟩
            have Ra := Lib.hid (R8.out.call hba)
            have bxaa := Lib.hid (bxa8.out.below hba bxa8.out.lt)
            clear hba
            obtain ⟨Z, hZ⟩ : ∃ Z, Z = span a1 (a2 + 1) := ⟨_, rfl⟩
            rw [← hZ] at HN ⊢
            clear hZ
            go_wp2_with (refine storeA rfl _ _ rfl w1.heap.size X.1 Z rfl rfl bxaa.out ?_; refine stopE ?_)
            unfold StopE
            have Rb := Lib.hid (Ra.out.row (bitsA Z) hg12)
            have bxz := Lib.hid (bxaa.out.rowSame Z)
            go_wp2_with (first | (refine loadA rfl _ rfl (w.heap.size + 1 + 1) S rfl Rb.out.s ?_) | (refine loadA rfl _ rfl w1.heap.size Z rfl bxz.out ?_))
            with_reducible refine (ror_any S Z _).mono ?_
            rintro e w9 ⟨rfl, hb9⟩
            have RN0 := Lib.hid (Rb.out.call hb9)
            clear hb9
            go_wp2_with (refine storeA rfl _ _ rfl (w.heap.size + 1 + 1) S _ rfl rfl RN0.out.s ?_)
            have RN := RN0.out.set (ofPred fun n => mem S n || mem Z n)
            have HN2 := HN.out
            rw [← or_eq] at HN2
            go_roundw
            case rel => exact ⟨Y.2, m + 1, _, rfl, by go_num, by omega, HN2, by omega, by omega, RN⟩
            case measure => simp [intOf]; omega
   | true =>
     have h93 : bt p k = 93 := by simpa using hb93
     have HB := Lib.hid (cls_done HC.out hk h93 hka)
     have hk93 : k < p.size := bt_in (by omega)
     go_wp2_with (refine loadA rfl _ rfl (w.heap.size + 1 + 1) S rfl R0.out.s ?_)
     with_reducible refine (rnot_any S _).mono ?_
     rintro e wn ⟨rfl, hbn⟩
     have RN := R0.out.call hbn
     have RM := RN.set (ofPred fun n => !mem S n)
     go_wp2_with (first | (refine storeA rfl _ _ rfl (w.heap.size + 1 + 1) S _ rfl rfl RN.s ?_) | (refine loadA rfl _ rfl (w.heap.size + 1 + 1) _ rfl RM.s ?_))
     with_reducible refine (rwords_any (ofPred fun n => !mem S n) _).mono ?_
     rintro e wy ⟨rfl, hby⟩
     have RY := RM.call hby
     go_wp2_with (refine storeZ rfl _ _ rfl w.heap.size (W (ofPred fun n => !mem S n) 0) (W (ofPred fun n => !mem S n) 1) (W (ofPred fun n => !mem S n) 2) (W (ofPred fun n => !mem S n) 3) rfl rfl RY.z4 ?_)
     refine bodyPost_ret (resZ3 (p := 4) (u := 5) (u2 := 6) (v := .int .i64 ((k : Int) + 1)) (v2 := .int .i64 0) rfl _ (g := w.heap.size) rfl rfl rfl (RY.z4.rowSame _ _ _ _)) rfl ?_
     refine ⟨?_, below_row RY.b (Nat.le_refl _) _⟩
     rw [HE.out, HB.out]
     show _ = Ending.returned (.tuple #[setV (~~~S), .int .i64 ((k + 1 : Nat) : Int), .int .i64 0])
     rw [not_eq]
     rfl
theorem rclass_any (p : ByteArray) (i : Nat) (w : World) (hp : p.size ≤ 1000000) (hi : i < p.size) (h91 : bt p i = 91) : Calls Tryz.prog 78 #[.string p, .int .i64 (i : Int)] w fun e w' => e = .returned (.tuple #[setV (classZ p i).1, .int .i64 ((classZ p i).2.1 : Nat), .int .i64 (classZ p i).2.2]) ∧ Below w.heap.size w w' := by
 cases h : bt p (i + 1) == 94 with
 | false => exact rclass_own p i w hp hi h91 h
 | true => exact rclass_oth p i w hp hi h91 h
end Go.Proofs.YtdnbpbngoiahlaaGreatDoor
