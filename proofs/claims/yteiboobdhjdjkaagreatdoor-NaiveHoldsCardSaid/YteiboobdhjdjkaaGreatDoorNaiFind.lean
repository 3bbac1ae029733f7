import Derived.Test.YteiboobdhjdjkaaGreatDoorNaiAllM
import Derived.LoopIn
import Derived.Test.YteiboobdhjdjkaaGreatDoorMz
namespace Go.Proofs.YteiboobdhjdjkaaGreatDoor.Nai
open Go.RowKit
open Ast (Nd At12 NodesAt Nodes siz rightZ)
open Cap (Cp cpC zrC BoxV)
attribute [local go_sem] Oper.semAt_some
set_option maxRecDepth 100000 in
set_option maxHeartbeats 4000000 in
theorem nfind_any (hS : Ast.SortOk) (hN : Ast.SortNone) (hlib : Cap.LibOk) (b o n cap : Nat) (l : Nat → Nd) (s : ByteArray) (w : World) (hl : NodesAt w b o n l) (hr : rightZ l n = 0) (hn : n ≤ 1000000) (hs : s.size ≤ 10000)
  (hw : ∀ i, i < n → WdsN (l i)) (hli : (reT l n n).lite s.size) (M : Option (Nat × Sp)) (hM : findF s (reT l n n) (s.size + 1) 0 = M) :
  Calls Tryz.prog 20 #[.agg #[.slice (some ⟨b, o, none⟩) n cap], .string s] w fun e w' => e = .returned (.tuple #[.agg (mtA M), .bool M.isSome, .int .i64 0]) ∧ Below w.heap.size w w' := by
 refine (callsIn_wide (n := 0)).1 ?_
 refine callsIn_of_wp_marks Tryz.func20 rfl trivial ?_ rfl
 simp only [Tryz.ntmps20, List.size_toArray, List.length_cons, List.length_nil, Nat.reduceAdd, Nat.reduceSub, Array.replicate_succ, Array.replicate_zero, List.push_toArray, List.append_toArray, List.nil_append, List.cons_append]
 have hz : Ast.shapeZ l n = 0 := by
  unfold rightZ at hr
  by_cases h : Ast.shapeZ l n ≠ 0
  ·rw [if_pos h] at hr; exact absurd hr h
  ·omega
 obtain ⟨hpos, hsz⟩ : 0 < n ∧ siz l n = n := (Ast.form_0 (Ast.shape_0 hz).1).2
 have hmay : mayZ l n s.size = 0 := by unfold mayZ; rw [if_neg (by omega), if_neg (by omega)]
 have hNs : Nodes w (some ⟨b, o, none⟩) n l := fun i hi => ⟨b, o, rfl, hl.1, hl.2 i hi⟩
 obtain ⟨W1, hW1⟩ : ∃ W1, (((w.alloc (.cells #[.slice (some ⟨b, o, none⟩) n cap] 24)).alloc (.cells #[.int .i64 0, .int .i64 0, .bool false, .bool false, .bool false, .bool false, .bool false, .bool false, .bool false, .bool false, .bool false, .int .i64 0, .int .i64 0, .int .i64 0, .int .i64 0, .int .i64 0, .int .i64 0, .int .i64 0, .int .i64 0, .int .i64 0, .int .i64 0, .int .i64 0, .int .i64 0, .int .i64 0, .int .i64 0, .int .i64 0, .int .i64 0, .int .i64 0, .int .i64 0] 46)).alloc (.cells #[.bool false] 4)).alloc (.cells #[.int .i64 0] 30) = W1 := ⟨_, rfl⟩
 have hB1 : Below w.heap.size w W1 := by rw [← hW1]; go_grown
 have hs1 : W1.heap.size = w.heap.size + 4 := by rw [← hW1]; simp
 have ht1 : BoxV 24 W1 w.heap.size #[.slice (some ⟨b, o, none⟩) n cap] := by rw [← hW1]; exact (((BoxV.new _ _).alloc _).alloc _).alloc _
 have hm1 : BoxV 46 W1 (w.heap.size + 1) (mtA none) := by
  rw [← hW1]
  have := BoxV.new (T := 46) (w.alloc (.cells #[.slice (some ⟨b, o, none⟩) n cap] 24)) (mtA none)
  rw [World.size_alloc] at this
  exact (this.alloc _).alloc _
 have hb1 : BoxV 4 W1 (w.heap.size + 1 + 1) #[.bool false] := by
  rw [← hW1]
  have := BoxV.new (T := 4) ((w.alloc (.cells #[.slice (some ⟨b, o, none⟩) n cap] 24)).alloc (.cells (mtA none) 46)) #[.bool false]
  rw [World.size_alloc, World.size_alloc] at this
  exact this.alloc _
 have he1 : BoxV 30 W1 (w.heap.size + 1 + 1 + 1) #[.int .i64 0] := by
  rw [← hW1]
  have := BoxV.new (T := 30) (((w.alloc (.cells #[.slice (some ⟨b, o, none⟩) n cap] 24)).alloc (.cells (mtA none) 46)).alloc (.cells #[.bool false] 4)) #[.int .i64 0]
  rw [World.size_alloc, World.size_alloc, World.size_alloc] at this
  exact this
 have HMay := Lib.hid (mayRead_any hS hN (some ⟨b, o, none⟩) n cap l s W1 hn (hNs.below hB1 (Nat.le_refl _)) (by omega))
 have HT1 := Lib.hid ht1
 have HM1 := Lib.hid (And.intro hm1 (And.intro hb1 he1))
 have HS1 := Lib.hid hs1
 have HB1 := Lib.hid hB1
 have HZ := Lib.hid (And.intro hz (And.intro hpos hsz))
 have HNs := Lib.hid hNs
 have HL := Lib.hid hl
 have HLL := Lib.hid hM
 have HSz := Lib.hid hs
 have HA := Lib.hid (And.intro hw hli)
 have c0 := ht1.get 0 rfl
 rw [hmay] at HMay
 clear hS hN hz hpos hsz hmay hNs hB1 hs1 ht1 hm1 hb1 he1 hl hr hM hs hw hli
 gi_wp2
 refine ⟨trivial, rfl, (callsIn_wide.2 HMay.out).mono ?_⟩
 rintro e w2 ⟨rfl, hb2⟩
 rename_i K hK
 refine hK _ _ ?_
 clear hK K c0 HMay hW1
 have hlt := HT1.out.lt
 have c0 := (HT1.out.below hb2 HT1.out.lt).get 0 rfl
 have HMZ := Lib.hid (And.intro (HM1.out.1.below hb2 HM1.out.1.lt) (And.intro (HM1.out.2.1.below hb2 HM1.out.2.1.lt) (HM1.out.2.2.below hb2 HM1.out.2.2.lt)))
 have HB2 := Lib.hid (HB1.out.trans (hb2.mono HB1.out.size))
 have HS2 := Lib.hid (show w.heap.size + 4 ≤ w2.heap.size by have := hb2.size; have := HS1.out; omega)
 clear hb2
 gi_wp2
 refine ⟨trivial, rfl, (callsIn_wide.2 (newReader_any (some ⟨b, o, none⟩) n cap l s w2 hn HZ.out.2.2 HZ.out.1 (HNs.out.below HB2.out (Nat.le_refl _)))).mono ?_⟩
 rintro e w4 ⟨rb, kb, rfl, hb4, hrb, hkb, hrd, hrow⟩
 rename_i K hK
 refine hK _ _ ?_
 clear hK K c0
 obtain ⟨q, hq⟩ : ∃ q, n = q + 1 := ⟨n - 1, by have := HZ.out.2.1; omega⟩
 have HRD := Lib.hid hrd
 have HROW := Lib.hid hrow
 have HB4 := Lib.hid (And.intro hb4 (And.intro hrb hkb))
 have HQ := Lib.hid hq
 have hs64 : (s.size : Int) ≤ 10000 := by have := HSz.out; omega
 clear hrd hrow hb4 hrb hkb hq hlt
 gi_wp2
 refine wpIn_loop (fun a u => ∃ (k : Nat) (v9 v25 v26 v27 v28 v29 v39 : Value) (ds : List Deferred), a = { tmps := #[.agg #[.slice (some ⟨b, o, none⟩) n cap], .string s, ptr w.heap.size, undef, ptr (w.heap.size + 1), ptr (w.heap.size + 1 + 1), ptr (w.heap.size + 1 + 1 + 1), .int .i64 0, ptr rb, v9, undef, .agg #[.slice (some ⟨b, o, none⟩) n cap], .string s, .int .i64 0, .int .i64 0, .bool false, undef, undef, .agg #[.slice (some ⟨b, o, none⟩) n cap], .string s, ptr rb, .string s, .int .i64 (s.size : Int), .int .i64 ((s.size : Int) + 1), .int .i64 (k : Int), v25, v26, v27, v28, v29, undef, undef, undef, undef, undef, undef, undef, undef, undef, v39, undef], defers := ds } ∧ k ≤ s.size + 1 ∧ findF s (reT l n n) (s.size + 1 - k) k = M ∧ Below w4.heap.size w4 u ∧ DefOk w4.heap.size u ds)
  (fun a _ => s.size + 1 - (intOf (a.tmps.getD 24 undef)).toNat) ⟨0, _, _, _, _, _, _, _, [], rfl, Nat.zero_le _, HLL.out, Below.refl _ _, trivial⟩ ?_
 rintro _ wr ⟨k, v9, v25, v26, v27, v28, v29, v39, ds, rfl, hk, hF, hbr, hds⟩
 obtain ⟨hb4, hrb, hkb⟩ := HB4.out
 have HBR := Lib.hid hbr
 have HDS := Lib.hid hds
 have HF := Lib.hid hF
 have HG := Lib.hid (And.intro HS2.out (And.intro hb4.size (And.intro hbr.size (And.intro hrb hkb))))
 have HMW := Lib.hid (show FndB w.heap.size none wr from (FndB.same (u := w2) ⟨HMZ.out.1, HMZ.out.2.1, HMZ.out.2.2⟩ fun c hc => (hbr.block c (by have := HS2.out; have := hb4.size; omega)).trans (hb4.block c (by have := HS2.out; omega))))
 have HRW := Lib.hid (And.intro (HRD.out.below hbr HRD.out.lt) (And.intro HRD.out.lt (And.intro HROW.out.lt (fun i (hi : i < n) => (hbr.cell (p := ⟨kb, i, none⟩) HROW.out.lt).trans (HROW.out.cell hi)))))
 have HNW := Lib.hid (show NodesAt wr b o n l from ⟨Nat.lt_of_lt_of_le HL.out.1 (by have := HB2.out.size; have := hb4.size; have := hbr.size; omega), fun i hi => (HL.out.2 i hi).keep fun j => (hbr.cell (p := ⟨b, j, none⟩) (show b < w4.heap.size by have := HL.out.1; have := HB2.out.size; have := hb4.size; omega)).trans ((hb4.cell (p := ⟨b, j, none⟩) (show b < w2.heap.size by have := HL.out.1; have := HB2.out.size; omega)).trans (HB2.out.cell (p := ⟨b, j, none⟩) HL.out.1))⟩)
 clear hbr hds hF hb4 hrb hkb
 by_cases hlt : k < s.size + 1
 ·have hlt2 : (k : Int) < (s.size : Int) + 1 := by omega
  obtain ⟨wa, hwa⟩ : ∃ wa, wr.alloc (.cells #[.int .i64 (k : Int)] 3) = wa := ⟨_, rfl⟩
  have hra : BoxV 3 wa wr.heap.size #[.int .i64 (k : Int)] := by rw [← hwa]; exact BoxV.new _ _
  have hBa : Below wr.heap.size wr wa := by rw [← hwa]; go_grown
  have hsa : wa.heap.size = wr.heap.size + 1 := by rw [← hwa]; simp
  have ca := hra.get 0 rfl
  have HRA := Lib.hid (And.intro hra (And.intro hBa hsa))
  have HLT := Lib.hid hlt
  clear hra hBa hsa hlt
  gi_wp2
  refine ⟨trivial, rfl, (callsIn_wide.2 (matches_any rb b o n cap q _ _ (k : Int) wa hn HQ.out (HRW.out.1.below HRA.out.2.1 HRW.out.1.lt))).mono ?_⟩
  rintro e w5 ⟨rfl, hw5⟩
  rename_i K hK
  refine hK _ _ ?_
  clear hK K ca hwa
  have HW5 := Lib.hid hw5
  clear hw5
  gi_wp2
  obtain ⟨hm1b, hm1s, hmC, hmR, hmN, hmX⟩ := mtW_is rb b (o + q * 12) (k : Int) wa
  rw [← HW5.out] at hm1b hm1s hmC hmR hmN hmX
  obtain ⟨hS2, h24, h4r, hrb, hkb⟩ := HG.out
  obtain ⟨hra, hBa, hsa⟩ := HRA.out
  obtain ⟨hrdw, hrdl, hrowl, hrowc⟩ := HRW.out
  have hmw := HMW.out
  have hnw := HNW.out
  have hF := HF.out
  have hlt := HLT.out
  have hbw0 := HL.out.1
  obtain ⟨g, hg⟩ : ∃ g, w.heap.size = g := ⟨_, rfl⟩
  obtain ⟨k9, hk9⟩ : ∃ k9, wr.heap.size = k9 := ⟨_, rfl⟩
  obtain ⟨D, hD⟩ : ∃ D, w5.heap.size = D := ⟨_, rfl⟩
  rw [hg] at hmw
  rw [hk9] at hra
  generalize houts : outs (outsE s (reT l n n) (k, zrC)) = Lk
  refine range_law (σ := Unit) rfl (enters_of Tryz.func98 (by kernel_rfl) rfl) (fun _ u => Lk = [] ∧ Below wr.heap.size wr u)
   (fun c _ u => c = .ret ∧ ∃ v, Lk.head? = some v ∧ FndB g (some (k, v)) u ∧ Below g w u ∧ ∀ c, c < k9 → c ≠ g + 1 → c ≠ g + 1 + 1 → c ≠ g + 1 + 1 + 1 → u.heap[c]? = wr.heap[c]?) ?_ ?_ ?_ ?_ ?_
  ·rintro _ u o2 ⟨h1, h2⟩
   exact ⟨h1, below_put h2 (by omega) o2⟩
  ·rintro c _ u o2 ⟨h0, v, h1, h2, h3, h4⟩
   exact ⟨h0, v, h1, h2.same fun c hc => World.putObj_heap_other (by omega), below_put h3 (by omega) o2, fun c k1 k2 k3 k4 => (World.putObj_heap_other (by omega)).trans (h4 c k1 k2 k3 k4)⟩
  ·intro fn
   rw [hD]
   generalize hr1' : recL D fn _ _ _ _ .ready none = rr1
   have C : Cons { rb := rb, nb := b, no := o, n := n, cap := cap, kb := kb, kc := n, l := l, bk := backN l n, s := s, N := 3 * n } (D + 1) (FndJ g k9 D k rr1 { rr1 with state := .done, pending := some .ret }) := by
    refine ⟨FndJ.told _ _ _ _ _ _, ?_⟩
    rintro pre O u y2 q2 ⟨hO, h2, rfl, h1, h3⟩ hc2 hnq hy2
    subst hr1'
    have hO4 := (hO (D + 1)).2 (by simp)
    refine yield_mono (round_law (D := D) rfl (fun _ => False) (FndX g k9 k O y2 u) (fun _ _ h => h) (fun c v o2 h => h.put hO4 (by omega) (by omega) o2) h1 ?_) ?_
    ·subst hg
     subst hk9
     have H1 := Lib.hid h1
     have H2 := Lib.hid h2
     have H3 := Lib.hid h3
     have HC2 := Lib.hid hc2
     have HQ2 := Lib.hid hnq
     have HOO := Lib.hid hO
     have HSZ := Lib.hid (show wr.heap.size + 5 = D ∧ w.heap.size + 4 ≤ wr.heap.size by omega)
     clear h1 h2 h3 hc2 hnq hy2 hO hO4 hm1b hm1s hmC hmR hmN hmX hS2 h24 h4r hrb hkb hra hBa hsa hrdw hrdl hrowl hrowc hmw hnw hF hlt hbw0 hD houts hs64 hlt2 hk
     gi_wp2
     have hl0 := (Array.getElem?_eq_some_iff.1 H1.out.dfr).1
     have hl1 := (Array.getElem?_eq_some_iff.1 H1.out.lp).1
     refine ⟨H1.out.keep (Below.heap_alloc _ _ _ hl0) (Below.heap_alloc _ _ _ hl1), ?_⟩
     generalize hrb : recL D fn _ _ _ _ LoopState.busy none = rb'
     obtain ⟨u1, hu1⟩ : ∃ u1, (u.alloc (.cells #[.int .i64 (y2.1 : Int), .pointer (some ⟨q2, 0, none⟩)] 93)).putObj (D + 1) (.loop rb') = u1 := ⟨_, rfl⟩
     have hsz := HSZ.out
     have hO1 := (HOO.out (w.heap.size + 1)).2 (by simp)
     have hO2 := (HOO.out (w.heap.size + 1 + 1)).2 (by simp)
     have hO3 := (HOO.out (w.heap.size + 1 + 1 + 1)).2 (by simp)
     have hO4 := (HOO.out (D + 1)).2 (by simp)
     have k0 : RecAt D rb' u1 := by
      rw [← hu1]
      exact (H1.out.keep (Below.heap_alloc _ _ _ hl0) (Below.heap_alloc _ _ _ hl1)).put rb'
     have k1 : BoxV 93 u1 u.heap.size (spA (y2.1 : Int) (some ⟨q2, 0, none⟩)) := by rw [← hu1]; exact box_put (BoxV.new _ _) (by omega) _
     have k2 : BoxV 3 u1 wr.heap.size #[.int .i64 (k : Int)] := by rw [← hu1]; exact box_put (H2.out.alloc _) (by omega) _
     have k3 : FndB w.heap.size none u1 := by
      rw [← hu1]
      exact H3.out.same fun c hc => (World.putObj_heap_other (by omega)).trans (Below.heap_alloc _ _ _ (by omega))
     have k4 : BoxV 44 u1 q2 (cpC y2.2) := by rw [← hu1]; exact box_put (HC2.out.alloc _) (fun e => HQ2.out (e ▸ hO4)) _
     have k5 : ExtO O O u u1 := by rw [← hu1]; exact (ExtO.call ((Below.refl _ _).alloc (Nat.le_refl _) _)).put hO4 _
     have hq1 : q2 ≠ w.heap.size + 1 := fun e => HQ2.out (by rw [e]; exact hO1)
     have hq2 : q2 ≠ w.heap.size + 1 + 1 := fun e => HQ2.out (by rw [e]; exact hO2)
     have hq3 : q2 ≠ w.heap.size + 1 + 1 + 1 := fun e => HQ2.out (by rw [e]; exact hO3)
     obtain ⟨ur, hur⟩ : ∃ ur, ur = u1.drew.setRow (w.heap.size + 1) (mtA (some (k, y2))) := ⟨_, rfl⟩
     obtain ⟨u9, hu9⟩ : ∃ u9, (ur.setCell ⟨w.heap.size + 1 + 1, 0, none⟩ (.bool true)).setCell ⟨w.heap.size + 1 + 1 + 1, 0, none⟩ (.int .i64 0) = u9 := ⟨_, rfl⟩
     have far1 : ∀ c, c ≠ w.heap.size + 1 → ur.heap[c]? = u1.heap[c]? := fun c hc => by rw [hur]; exact setRow_other _ _ _ _ hc
     have j1 : BoxV 46 ur (w.heap.size + 1) (mtA (some (k, y2))) := by rw [hur]; exact setRow_heap _ _ _ _ _ _ k3.m
     have j2 : BoxV 4 ur (w.heap.size + 1 + 1) #[.bool false] := (far1 _ (by omega)).trans k3.b
     have j3 : BoxV 30 ur (w.heap.size + 1 + 1 + 1) #[.int .i64 0] := (far1 _ (by omega)).trans k3.e
     have j4 : BoxV 30 (ur.setCell ⟨w.heap.size + 1 + 1, 0, none⟩ (.bool true)) (w.heap.size + 1 + 1 + 1) #[.int .i64 0] := (heap_setCell_other _ _ _ _ (show w.heap.size + 1 + 1 + 1 ≠ w.heap.size + 1 + 1 by omega)).trans j3
     have far2 : ∀ c, c ≠ w.heap.size + 1 → c ≠ w.heap.size + 1 + 1 → (ur.setCell ⟨w.heap.size + 1 + 1, 0, none⟩ (.bool true)).heap[c]? = u1.heap[c]? := fun c h1 h2 => (heap_setCell_other _ _ _ _ h2).trans (far1 c h1)
     have far : ∀ c, c ≠ w.heap.size + 1 → c ≠ w.heap.size + 1 + 1 → c ≠ w.heap.size + 1 + 1 + 1 → u9.heap[c]? = u1.heap[c]? := fun c h1 h2 h3 => by rw [← hu9]; exact (heap_setCell_other _ _ _ _ h3).trans (far2 c h1 h2)
     have P0 := Lib.hid (show RecAt D rb' u9 from k0.keep (far _ (by omega) (by omega) (by omega)) (far _ (by omega) (by omega) (by omega)))
     have P1 := Lib.hid (show ExtO O O u u9 by
      rw [← hu9, hur]
      exact (((k5.trans (ExtO.call (below_drewN (Below.refl _ u1) 1))).row hO1 _).cell (j := 0) hO2 (.bool true)).cell (j := 0) hO3 (.int .i64 0))
     have P2 := Lib.hid (show FndB w.heap.size (some (k, y2)) u9 from ⟨by rw [← hu9]; exact (heap_setCell_other _ _ _ _ (show w.heap.size + 1 ≠ w.heap.size + 1 + 1 + 1 by omega)).trans ((heap_setCell_other _ _ _ _ (show w.heap.size + 1 ≠ w.heap.size + 1 + 1 by omega)).trans j1), by rw [← hu9]; exact (heap_setCell_other _ _ _ _ (show w.heap.size + 1 + 1 ≠ w.heap.size + 1 + 1 + 1 by omega)).trans (j2.put 0 (.bool true)), by rw [← hu9]; exact j4.put 0 (.int .i64 0)⟩)
     have P3 := Lib.hid (show BoxV 3 u9 wr.heap.size #[.int .i64 (k : Int)] from (far _ (by omega) (by omega) (by omega)).trans k2)
     have hS : BoxV 3 u1.drew wr.heap.size #[.int .i64 (k : Int)] ∧ BoxV 93 u1.drew u.heap.size (spA (y2.1 : Int) (some ⟨q2, 0, none⟩)) ∧ BoxV 44 u1.drew q2 (cpC y2.2) := ⟨k2, k1, k4⟩
     have hS2 : BoxV 3 (u1.drew.setRow (w.heap.size + 1) (mtA (some (k, y2)))) wr.heap.size #[.int .i64 (k : Int)] ∧ BoxV 93 (u1.drew.setRow (w.heap.size + 1) (mtA (some (k, y2)))) u.heap.size (spA (y2.1 : Int) (some ⟨q2, 0, none⟩)) ∧ BoxV 44 (u1.drew.setRow (w.heap.size + 1) (mtA (some (k, y2)))) q2 (cpC y2.2) := by
      rw [← hur]
      exact ⟨(far1 _ (by omega)).trans k2, (far1 _ (by omega)).trans k1, (far1 _ hq1).trans k4⟩
     have hS3 : BoxV 3 (ur.setCell ⟨w.heap.size + 1 + 1, 0, none⟩ (.bool true)) wr.heap.size #[.int .i64 (k : Int)] ∧ BoxV 93 (ur.setCell ⟨w.heap.size + 1 + 1, 0, none⟩ (.bool true)) u.heap.size (spA (y2.1 : Int) (some ⟨q2, 0, none⟩)) ∧ BoxV 44 (ur.setCell ⟨w.heap.size + 1 + 1, 0, none⟩ (.bool true)) q2 (cpC y2.2) := ⟨(far2 _ (by omega) (by omega)).trans k2, (far2 _ (by omega) (by omega)).trans k1, (far2 _ hq1 hq2).trans k4⟩
     have hS4 : BoxV 3 u9 wr.heap.size #[.int .i64 (k : Int)] ∧ BoxV 93 u9 u.heap.size (spA (y2.1 : Int) (some ⟨q2, 0, none⟩)) ∧ BoxV 44 u9 q2 (cpC y2.2) := ⟨(far _ (by omega) (by omega) (by omega)).trans k2, (far _ (by omega) (by omega) (by omega)).trans k1, (far _ hq1 hq2 hq3).trans k4⟩
     rw [hu1]
     clear hsz hl0 hl1 far far1 far2 j1 j3 hq1 hq2 hq3
     gi_wp2
     refine region_in (S := fun u' => BoxV 3 u' wr.heap.size #[.int .i64 (k : Int)] ∧ BoxV 93 u' u.heap.size (spA (y2.1 : Int) (some ⟨q2, 0, none⟩)) ∧ BoxV 44 u' q2 (cpC y2.2)) (by kernel_rfl) (no_defer (by kernel_rfl)) (by rintro ⟨_, _, h⟩; exact h) ?_
     refine takeAt 0 31 (.int .i64 (k : Int)) rfl rfl (by kernel_rfl) (by kernel_rfl) (by kernel_rfl) (fun _ _ _ h => h) (ldI_y wr.heap.size 0 _ (fun _ h => h.1.get 0 rfl) rfl rfl (by rfl)) hS ?_
     simp only [Act.put, sA, s0, sS]
     refine takeAt 1 32 (ptr u.heap.size) rfl rfl (by kernel_rfl) (by kernel_rfl) (by kernel_rfl) (fun _ _ _ h => h) (yields (by rfl) (fun w => by kernel_rfl)) hS ?_
     simp only [Act.put, sA, s0, sS]
     refine takeAt 2 33 (.int .i64 (y2.1 : Int)) rfl rfl (by kernel_rfl) (by kernel_rfl) (by kernel_rfl) (fun _ _ _ h => h) (ldI_y u.heap.size 0 _ (fun _ h => h.2.1.get 0 rfl) rfl rfl (by rfl)) hS ?_
     simp only [Act.put, sA, s0, sS]
     refine takeAt 3 34 (.pointer (some ⟨u.heap.size, 1, none⟩)) rfl rfl (by kernel_rfl) (by kernel_rfl) (by kernel_rfl) (fun _ _ _ h => h) (yields (by rfl) (fun w => by kernel_rfl)) hS ?_
     simp only [Act.put, sA, s0, sS]
     refine takeAt 4 35 (ptr q2) rfl rfl (by kernel_rfl) (by kernel_rfl) (by kernel_rfl) (fun _ _ _ h => h) (ldPC_y u.heap.size 1 _ (fun _ h => h.2.1.get 1 rfl) rfl rfl (by rfl)) hS ?_
     simp only [Act.put, sA, s0, sS]
     refine takeAt 5 36 (ptr q2) rfl rfl (by kernel_rfl) (by kernel_rfl) (by kernel_rfl) (fun _ _ _ h => h) (yields (by rfl) (fun w => by kernel_rfl)) hS ?_
     simp only [Act.put, sA, s0, sS]
     refine takeAt 6 37 (.agg (cpC y2.2)) rfl rfl (by kernel_rfl) (by kernel_rfl) (by kernel_rfl) (fun _ _ _ h => h) (ldC_y q2 y2.2 (fun _ h => h.2.2) rfl rfl (by rfl)) hS ?_
     simp only [Act.put, sA, s0, sS]
     refine takeAt 7 38 (.agg (mtA (some (k, y2)))) rfl rfl (by kernel_rfl) (by kernel_rfl) (by kernel_rfl) (fun _ _ _ h => h) (yields (by rfl) (fun w => by kernel_rfl)) hS ?_
     simp only [Act.put, sA, s0, sS]
     refine rowAt 8 46 (w.heap.size + 1) (mtA none) (mtA (some (k, y2))) rfl rfl rfl (by kernel_rfl) (by rfl) rfl rfl k3.m (sizeMt.trans (by rw [mtA_size])) (by rw [mtA_size, mtA_size]) (mtA_one _) hS2 ?_
     refine Cap.skipAt 9 (ur.setCell ⟨w.heap.size + 1 + 1, 0, none⟩ (.bool true)) rfl rfl (by kernel_rfl) (by rfl) (by rw [← hur]; exact stB_run _ _ j2 rfl rfl rfl) hS3 ?_
     refine Cap.skipAt 10 u9 rfl rfl (by kernel_rfl) (by rfl) (by rw [← hu9]; exact stE_run _ _ j4 rfl rfl rfl) hS4 ?_
     refine wpAnyH_done (by kernel_rfl) ?_ _
     clear hS hS2 hS3 hS4 j2 j4 k0 k1 k2 k3 k4 k5 hu9 hur hu1
     gi_wp2
     exact ⟨P0.out, rfl, P1.out, P2.out, P3.out⟩
    ·rintro e v (⟨-, -, h⟩ | ⟨c, rfl, k0, rfl, k1, k2, k3⟩)
     ·exact h.elim
     ·exact ⟨false, O, rfl, ⟨hO, k3, y2, rfl, k0, k2⟩, k1⟩
   obtain ⟨W, hW⟩ : ∃ W, (w5.alloc (.deferred (some []))).alloc (.loop rr1) = W := ⟨_, rfl⟩
   have hB : Below w5.heap.size w5 W := by rw [← hW]; go_grown
   have hrec : RecAt D rr1 W := by
    rw [← hW, ← hD]
    constructor
    ·have : (w5.alloc (.deferred (some []))).heap.size = w5.heap.size + 1 := by simp
     rw [← this]
     exact heap_alloc_new _ _
    ·exact (Below.heap_alloc _ _ _ (by simp)).trans (heap_alloc_new _ _)
   rw [hW]
   have hBwa : Below wa.heap.size wa W := hm1b.trans (hB.mono hm1b.size)
   have hBwr : Below wr.heap.size wr W := hBa.trans (hBwa.mono hBa.size)
   obtain ⟨Y, hY⟩ : ∃ Y : Nat → Prop, Y = fun c => c = g + 1 ∨ c = g + 1 + 1 ∨ c = g + 1 + 1 + 1 ∨ c = k9 ∨ c = D ∨ c = D + 1 := ⟨_, rfl⟩
   have hYn : ∀ c, c ≠ g + 1 → c ≠ g + 1 + 1 → c ≠ g + 1 + 1 + 1 → c ≠ k9 → c ≠ D → c ≠ D + 1 → ¬ Y c := fun c h1 h2 h3 h4 h5 h6 => by
    rw [hY]
    rintro (e | e | e | e | e | e)
    ·exact h1 e
    ·exact h2 e
    ·exact h3 e
    ·exact h4 e
    ·exact h5 e
    ·exact h6 e
   have hYb : ¬ Y b := hYn b (by omega) (by omega) (by omega) (by omega) (by omega) (by omega)
   have hsz0 := (show siz l n ≠ 0 by have h0 := HZ.out.2.1; rw [HZ.out.2.2]; omega)
   have hs := HSz.out
   have hR : RdAt { rb := rb, nb := b, no := o, n := n, cap := cap, kb := kb, kc := n, l := l, bk := backN l n, s := s, N := 3 * n } Y W := {
    box := ⟨hrdw.below hBwr hrdw.lt, hYn rb (by omega) (by omega) (by omega) (by omega) (by omega) (by omega)⟩
    nod := ⟨Nat.lt_of_lt_of_le hnw.1 hBwr.size, fun i hi => (hnw.2 i hi).keep fun j => hBwr.cell (p := ⟨b, j, none⟩) hnw.1⟩
    nodX := hYb
    bkl := Nat.lt_of_lt_of_le hrowl (by have := hBwr.size; omega)
    bkX := hYn kb (by omega) (by omega) (by omega) (by omega) (by omega) (by omega)
    bkc := fun i hi => (hBwr.cell (p := ⟨kb, i, none⟩) (show kb < wr.heap.size by omega)).trans (hrowc i hi) }
   refine Calls.mono (iter_any (r := reT l n n) (given_any _ (by show s.size ≤ _; omega) (fun i hi => by
     show backN l n i ≤ _
     unfold backN
     split
     ·rename_i hi1
      have := Ast.len_bd l (i + 1) (Ast.siz_of_whole HZ.out.2.2 hi)
      omega
     ·omega) hlib) ⟨reT_is n (Nat.le_refl _) hsz0, reT_fine HA.out.1 n (Nat.le_refl _) hsz0, by show (reT l n n).sz ≤ 3 * n; have := reT_sz (n := n) n hsz0; have := Ast.siz_le l n; omega⟩ HA.out.2 C Y W (k, zrC) wa.heap.size b (o + q * 12) (wa.heap.size + 1) (wa.heap.size + 1 + 1) (wa.heap.size + 1 + 1 + 1) Y
    ⟨hmR.below hB hmR.lt, hYn _ (by omega) (by omega) (by omega) (by omega) (by omega) (by omega)⟩ ⟨hmN.below hB hmN.lt, hYn _ (by omega) (by omega) (by omega) (by omega) (by omega) (by omega)⟩ ⟨hmX.below hB hmX.lt, hYn _ (by omega) (by omega) (by omega) (by omega) (by omega) (by omega)⟩
    (Nat.lt_of_lt_of_le hnw.1 hBwr.size) hYb ?_ ⟨hmC.below hB hmC.lt, hYn _ (by omega) (by omega) (by omega) (by omega) (by omega) (by omega)⟩ (by show k ≤ s.size; omega) hR ?_ (fun _ h => h) ?_) ?_
   ·have hqn := HQ.out
    have := hR.nod.2 q (by show q < n; omega)
    rw [show q = n - 1 by omega] at this ⊢
    rw [← reT_at n (siz_ne hsz0)]
    exact this
   ·refine ⟨fun c => by rw [hY], hra.below hBwa (by omega), rfl, hrec, hmw.same fun c hc => hBwr.block c (by omega)⟩
   ·intro c h
    rw [hY] at h
    have h1 := (Array.getElem?_eq_some_iff.1 hrec.lp).1
    have h2 := hBwr.size
    rcases h with e | e | e | e | e | e <;> omega
   ·rintro e w' ⟨hv, told, m', O', X', hJ, hE, h1, h2⟩
    refine ⟨hv, ?_⟩
    have hfar : ∀ c, c < k9 → c ≠ g + 1 → c ≠ g + 1 + 1 → c ≠ g + 1 + 1 + 1 → w'.heap[c]? = wr.heap[c]? := fun c k1 k2 k3 k4 =>
     (hE.keep c (by have := hBwr.size; omega) (hYn c k2 k3 k4 (by omega) (by omega) (by omega))).1.trans (hBwr.block c (by omega))
    have hos : Below 0 wr w' := (hBwr.mono (Nat.zero_le _)).trans hE.below
    obtain ⟨k0, k1, k2⟩ := hJ
    cases m' with
    | true =>
      obtain ⟨rfl, k3, k4⟩ := k2
      subst hr1'
      refine .inl ⟨(), k3, by rw [← houts]; exact (h1 rfl).symm, hos.os, hos.tape, hos.output, hos.size, fun c hc => ?_⟩
      by_cases e1 : c = g + 1
      ·rw [e1]; exact k4.m.trans hmw.m.symm
      ·by_cases e2 : c = g + 1 + 1
       ·rw [e2]; exact k4.b.trans hmw.b.symm
       ·by_cases e3 : c = g + 1 + 1 + 1
        ·rw [e3]; exact k4.e.trans hmw.e.symm
        ·exact hfar c (by omega) e1 e2 e3
    | false =>
      obtain ⟨v, rfl, k3, k4⟩ := k2
      subst hr1'
      refine .inr ⟨.ret, (), k3, rfl, v, ?_, k4, ?_, hfar⟩
      ·obtain ⟨t, ht⟩ := h2
       rw [houts] at ht
       rw [← ht]
       rfl
      ·have hbw : Below g w wr := by
        rw [← hg]
        exact (HB2.out.trans (HB4.out.1.mono HB2.out.size)).trans (HBR.out.mono (by omega))
       exact hbw.trans ⟨hos.os, hos.tape, hos.output, hos.size, fun c hc => hfar c (by omega) (by omega) (by omega) (by omega)⟩
  ·rintro _ u ⟨h1, h2⟩ hd
   have H1 := Lib.hid h1
   have H2 := Lib.hid h2
   have HDD := Lib.hid hD
   have HOU := Lib.hid houts
   have HFF := Lib.hid hF
   have HLL2 := Lib.hid (show k ≤ s.size by omega)
   have HSZ := Lib.hid (show w5.heap.size = wr.heap.size + 5 by omega)
   clear h1 h2 hm1b hm1s hmC hmR hmN hmX hS2 h24 h4r hrb hkb hra hBa hsa hrdw hrdl hrowl hrowc hmw hnw hF hlt hbw0 hg hk9 hD houts
   gi_wp2
   rw [show ((k : Int) + 1) = ((k + 1 : Nat) : Int) by omega]
   have hlt2 := HLL2.out
   have hsz := HSZ.out
   have hg := HG.out
   refine ⟨⟨k + 1, _, _, _, _, _, _, _, _, rfl, by omega, ?_, HBR.out.trans (H2.out.mono hg.2.2.1), ?_⟩, ?_⟩
   ·have hF := HFF.out
    rw [show s.size + 1 - k = (s.size + 1 - (k + 1)) + 1 by omega, findF_none (by rw [HOU.out]; exact H1.out)] at hF
    exact hF
   ·refine (HDS.out.keep fun D' hD' => H2.out.block D' (Array.getElem?_eq_some_iff.1 hD').1).cons (by omega) hd ?_
    intro d hdm k' e
    obtain ⟨D', h1, h2, h3⟩ := HDS.out.lt d hdm
    have h4 := (Array.getElem?_eq_some_iff.1 h3).1
    rw [h1] at e
    injection e with e
    injection e with e
    omega
   ·simp [intOf]
    omega
  ·rintro c _ u ⟨rfl, v, h1, h2, h3, h4⟩ hd
   have PM := Lib.hid (show M = some (k, v) by
    rw [← hF, show s.size + 1 - k = (s.size - k) + 1 by omega]
    exact findF_some (by rw [houts]; exact h1))
   have PD := Lib.hid (show DefOk w4.heap.size u ({ target := .collected D, args := #[] } :: ds) by
    refine (HDS.out.keep fun D' hD' => ?_).cons (by omega) (by rw [← hD]; exact hd) ?_
    ·have hx : ∀ c, c = g + 1 ∨ c = g + 1 + 1 ∨ c = g + 1 + 1 + 1 → D' ≠ c := by
      rintro c hc rfl
      rcases hc with rfl | rfl | rfl
      ·exact absurd (hmw.m.symm.trans hD') (by simp)
      ·exact absurd (hmw.b.symm.trans hD') (by simp)
      ·exact absurd (hmw.e.symm.trans hD') (by simp)
     exact h4 D' (by have := (Array.getElem?_eq_some_iff.1 hD').1; omega) (hx _ (.inl rfl)) (hx _ (.inr (.inl rfl))) (hx _ (.inr (.inr rfl)))
    ·intro d hdm k' e
     obtain ⟨D', h1, h2, h3⟩ := HDS.out.lt d hdm
     have h4 := (Array.getElem?_eq_some_iff.1 h3).1
     rw [h1] at e
     injection e with e
     injection e with e
     omega)
   have P2 := Lib.hid (show FndB w.heap.size (some (k, v)) u by rw [hg]; exact h2)
   have P3 := Lib.hid (show Below w.heap.size w u by rw [hg]; exact h3)
   have HDD := Lib.hid hD
   clear h1 h2 h3 h4 hd hm1b hm1s hmC hmR hmN hmX hS2 h24 h4r hrb hkb hra hBa hsa hrdw hrdl hrowl hrowc hmw hnw hF hlt hbw0 hg hk9 hD houts
   gi_wp2
   rw [PM.out, HDD.out]
   exact find_leaves rfl rfl rfl rfl (by have := HG.out; omega) _ u PD.out P3.out P2.out
 ·have hlt2 : ¬ ((k : Int) < (s.size : Int) + 1) := by omega
  obtain rfl : k = s.size + 1 := by omega
  have hmw := HMW.out
  have k1 : BoxV 46 (wr.setRow (w.heap.size + 1) (mtA none)) (w.heap.size + 1) (mtA none) := setRow_heap _ _ _ _ _ _ hmw.m
  have k2 : BoxV 4 (wr.setRow (w.heap.size + 1) (mtA none)) (w.heap.size + 1 + 1) #[.bool false] := (setRow_other _ _ _ _ (by omega)).trans hmw.b
  have k3 : BoxV 30 (wr.setRow (w.heap.size + 1) (mtA none)) (w.heap.size + 1 + 1 + 1) #[.int .i64 0] := (setRow_other _ _ _ _ (by omega)).trans hmw.e
  have kb : Below w.heap.size wr (wr.setRow (w.heap.size + 1) (mtA none)) := (setRow_below _ _ _).mono (by omega)
  have kd : ∀ c, c ≠ w.heap.size + 1 → (wr.setRow (w.heap.size + 1) (mtA none)).heap[c]? = wr.heap[c]? := fun c hc => setRow_other _ _ _ _ hc
  obtain ⟨wz, hwz⟩ : ∃ wz, wr.setRow (w.heap.size + 1) (mtA none) = wz := ⟨_, rfl⟩
  rw [hwz] at k1 k2 k3 kb kd
  have e2 := k2.get 0 rfl
  have f2 := k2.free 0
  have k4 : BoxV 30 (wz.setCell ⟨w.heap.size + 1 + 1, 0, none⟩ (.bool false)) (w.heap.size + 1 + 1 + 1) #[.int .i64 0] := (heap_setCell_other _ _ _ _ (show w.heap.size + 1 + 1 + 1 ≠ w.heap.size + 1 + 1 by omega)).trans k3
  have e3 := k4.get 0 rfl
  have f3 := k4.free 0
  obtain ⟨wy, hwy⟩ : ∃ wy, (wz.setCell ⟨w.heap.size + 1 + 1, 0, none⟩ (.bool false)).setCell ⟨w.heap.size + 1 + 1 + 1, 0, none⟩ (.int .i64 0) = wy := ⟨_, rfl⟩
  have far : ∀ c, c ≠ w.heap.size + 1 + 1 → c ≠ w.heap.size + 1 + 1 + 1 → wy.heap[c]? = wz.heap[c]? := fun c h1 h2 => by rw [← hwy]; exact (heap_setCell_other _ _ _ _ h2).trans (heap_setCell_other _ _ _ _ h1)
  have P0 := Lib.hid (show FndB w.heap.size none wy from ⟨(far _ (by omega) (by omega)).trans k1, by rw [← hwy]; exact (heap_setCell_other _ _ _ _ (show w.heap.size + 1 + 1 ≠ w.heap.size + 1 + 1 + 1 by omega)).trans (k2.put 0 (.bool false)), by rw [← hwy]; exact k4.put 0 (.int .i64 0)⟩)
  have P1 := Lib.hid (show Below w.heap.size w wy by
   have hg := HG.out
   have hb4 := HB4.out.1
   rw [← hwy]
   exact ((((HB2.out.trans (hb4.mono HB2.out.size)).trans (HBR.out.mono (by omega))).trans kb).setCell (show w.heap.size ≤ w.heap.size + 1 + 1 by omega) _).setCell (show w.heap.size ≤ w.heap.size + 1 + 1 + 1 by omega) _)
  have P2 := Lib.hid (show DefOk w4.heap.size wy ds from HDS.out.keep fun D hD => by
   have hx : ∀ c, c = w.heap.size + 1 ∨ c = w.heap.size + 1 + 1 ∨ c = w.heap.size + 1 + 1 + 1 → D ≠ c := by
    rintro c hc rfl
    rcases hc with rfl | rfl | rfl
    ·exact absurd (hmw.m.symm.trans hD) (by simp)
    ·exact absurd (hmw.b.symm.trans hD) (by simp)
    ·exact absurd (hmw.e.symm.trans hD) (by simp)
   exact (far D (hx _ (.inr (.inl rfl))) (hx _ (.inr (.inr rfl)))).trans (kd D (hx _ (.inl rfl))))
  have PM := Lib.hid (show M = none by rw [← HF.out]; simp [findF])
  clear hmw k1 k2 k3 kb kd k4 far
  gi_wp2_with (refine storeRowIn rfl 46 _ _ rfl (w.heap.size + 1) (mtA none) rfl (by kernel_rfl) 46 (mtA none) HMW.out.m (sizeMt.trans (by rw [mtA_size])) rfl (mtA_one none) ?_)
  rw [PM.out]
  exact find_leaves rfl rfl rfl rfl (by have := HG.out; omega) ds wy P2.out P1.out P0.out
end Go.Proofs.YteiboobdhjdjkaaGreatDoor.Nai
