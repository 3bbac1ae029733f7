import Derived.Test.YteiboobdhjdjkaaGreatDoorNaiPushM
import Derived.Test.YteiboobdhjdjkaaGreatDoorMz
namespace Go.Proofs.YteiboobdhjdjkaaGreatDoor.Nai
open Go.RowKit
open Ast (Nd At12 NodesAt kidsZ)
open Cap (Cp withZ cpC BoxV)
set_option maxRecDepth 100000 in
set_option maxHeartbeats 400000 in
theorem kon_cat {R : Rd} {g : Nat} {rv : Value} {J : List Sp → Bool → (Nat → Prop) → World → Prop} (hJ : Told J) (hrv : ∃ f cs, rv = fnV f cs ∧ Ent f) {rb2 : Re} {k : Kon} (hA : TellOk R g rv J rb2 k) : KonOk R g rv J (.cat rb2 k) := by
 intro X w S pre y q f cs hc hy hv hr hbig
 obtain ⟨s, n, t, x, tv, h1, hs, hn, hkid, hok, hlt, ht, hk⟩ := hv
 cases h1
 obtain ⟨p, hnb, b, o, rfl, hbl, hbX, hbn⟩ := hn
 obtain ⟨f2, cs2, rfl, hent⟩ := hk.form hrv
 obtain ⟨i, hi, hi1, hi2⟩ := hkid
 have HI := Lib.hid hi1
 have hBw : Below w.heap.size w (w.alloc (.cells #[.int .i64 (y.1 : Int), ptr q] 93)) := (Below.refl _ _).alloc (Nat.le_refl _) _
 have hxb : BoxI X (w.alloc (.cells #[.int .i64 (y.1 : Int), ptr q] 93)) 93 w.heap.size #[.int .i64 (y.1 : Int), ptr q] := BoxI.new hr.xlt _ _
 go_enter Tryz.func136, Tryz.ntmps136
 go_wp2_with fail
 obtain ⟨W1, hW1⟩ : ∃ W1, w.alloc (.cells #[.int .i64 (y.1 : Int), ptr q] 93) = W1 := ⟨_, rfl⟩
 rw [hW1] at hBw hxb ⊢
 clear hW1
 have hE1 := Ext.call (X := X) hBw
 have HR := hr.call hJ hBw
 have HT : TBx R g s n w.heap.size t b o q x y (fnV f2 cs2) X W1 := ⟨hs.ext hE1, hnb.ext hE1, hxb, ht.ext hE1, hc.ext hE1, Nat.lt_of_lt_of_le hbl hBw.size, hbX, hbn.keep fun j => cell_ext hE1 hbl hbX j, HR.rd, HR.cell0⟩
 have HK := hk.ext hE1
 have hBd : Below W1.heap.size W1 W1.drew := below_drewN (Below.refl _ _) 1
 have HD := HT.ext (Ext.call hBd) HT.gc
 have HRd := HR.call hJ hBd
 have hS : TBs R g s n w.heap.size t b o q x y (fnV f2 cs2) W1.drew := ⟨_, HD⟩
 refine wp_region_held (S := fun u => TBs R g s n w.heap.size t b o q x y (fnV f2 cs2) u) (by kernel_rfl) ?_
 change wpAnyH _ _ _ _ _ _ _ _ W1.drew
 refine takeAt 0 5 (.pointer (some ⟨g, 0, none⟩)) rfl rfl (by kernel_rfl) (by kernel_rfl) (by kernel_rfl) (fun _ _ _ h => h) (ldPS_y s 0 _ (fun _ h => tbs_s h) rfl rfl (by rfl)) hS ?_
 simp only [Act.put, sA, s0, sS]
 refine takeAt 1 6 (.pointer (some ⟨g, 0, none⟩)) rfl rfl (by kernel_rfl) (by kernel_rfl) (by kernel_rfl) (fun _ _ _ h => h) (ldPS_y s 0 _ (fun _ h => tbs_s h) rfl rfl (by rfl)) hS ?_
 simp only [Act.put, sA, s0, sS]
 refine takeAt 2 7 (.pointer (some ⟨g, 0, none⟩)) rfl rfl (by kernel_rfl) (by kernel_rfl) (by kernel_rfl) (fun _ _ _ h => h) (yields (by rfl) (fun w => by kernel_rfl)) hS ?_
 simp only [Act.put, sA, s0, sS]
 refine takeAt 3 8 (.pointer (some ⟨g, 0, none⟩)) rfl rfl (by kernel_rfl) (by kernel_rfl) (by kernel_rfl) (fun _ _ _ h => h) (yields (by rfl) (fun w => by kernel_rfl)) hS ?_
 simp only [Act.put, sA, s0, sS]
 refine takeAt 4 9 (.pointer (some ⟨R.rb, 0, none⟩)) rfl rfl (by kernel_rfl) (by kernel_rfl) (by kernel_rfl) (fun _ _ _ h => h) (ldPR_y g 0 _ (fun _ h => tbs_g h) rfl rfl (by rfl)) hS ?_
 simp only [Act.put, sA, s0, sS]
 refine takeAt 5 10 (.pointer (some ⟨R.rb, 0, none⟩)) rfl rfl (by kernel_rfl) (by kernel_rfl) (by kernel_rfl) (fun _ _ _ h => h) (yields (by rfl) (fun w => by kernel_rfl)) hS ?_
 simp only [Act.put, sA, s0, sS]
 refine takeAt 6 11 (.pointer (some ⟨R.rb, 0, none⟩)) rfl rfl (by kernel_rfl) (by kernel_rfl) (by kernel_rfl) (fun _ _ _ h => h) (yields (by rfl) (fun w => by kernel_rfl)) hS ?_
 simp only [Act.put, sA, s0, sS]
 refine takeAt 7 12 (.slice (some ⟨R.nb, R.no, none⟩) R.n R.cap) rfl rfl (by kernel_rfl) (by kernel_rfl) (by kernel_rfl) (fun _ _ _ h => h) (ldSN_y R.rb 0 _ _ _ (fun _ h => tbs_r h) rfl rfl (by rfl)) hS ?_
 simp only [Act.put, sA, s0, sS]
 refine takeAt 8 13 (.pointer (some ⟨b, o, none⟩)) rfl rfl (by kernel_rfl) (by kernel_rfl) (by kernel_rfl) (fun _ _ _ h => h) (ldPN_y n 0 _ (fun _ h => tbs_n h) rfl rfl (by rfl)) hS ?_
 simp only [Act.put, sA, s0, sS]
 refine takeAt 9 14 (.pointer (some ⟨b, o, none⟩)) rfl rfl (by kernel_rfl) (by kernel_rfl) (by kernel_rfl) (fun _ _ _ h => h) (yields (by rfl) (fun w => by kernel_rfl)) hS ?_
 simp only [Act.put, sA, s0, sS]
 refine takeAt 10 15 (.pointer (some ⟨b, o + 2, none⟩)) rfl rfl (by kernel_rfl) (by kernel_rfl) (by kernel_rfl) (fun _ _ _ h => h) (yields (by rfl) (fun w => by kernel_rfl)) hS ?_
 simp only [Act.put, sA, s0, sS]
 refine takeAt 11 16 (.int .i64 (i : Int)) rfl rfl (by kernel_rfl) (by kernel_rfl) (by kernel_rfl) (fun _ _ _ h => h) (ldI_y b (o + 2) _ (fun _ h => tbs_c h 2 _ (fun _ h => by rw [h.2.2.1, HI.out])) rfl rfl (by rfl)) hS ?_
 simp only [Act.put, sA, s0, sS]
 refine takeAt 12 17 (.pointer (some ⟨R.nb, R.no + i * 12, none⟩)) rfl rfl (by kernel_rfl) (by kernel_rfl) (by kernel_rfl) (fun _ _ _ h => h) (ixN_y R.nb R.n R.cap R.no i hi rfl rfl rfl (by rfl)) hS ?_
 simp only [Act.put, sA, s0, sS]
 refine takeAt 13 18 (.agg #[.int .i64 (y.1 : Int), .pointer (some ⟨q, 0, none⟩)]) rfl rfl (by kernel_rfl) (by kernel_rfl) (by kernel_rfl) (fun _ _ _ h => h) (ldX_y w.heap.size _ _ (fun _ h => tbs_x h) rfl rfl (by rfl)) hS ?_
 simp only [Act.put, sA, s0, sS]
 refine takeAt 14 19 (fnV f2 cs2) rfl rfl (by kernel_rfl) (by kernel_rfl) (by kernel_rfl) (fun _ _ _ h => h) (ldF_y t 0 _ _ _ (fun _ h => tbs_t h) rfl rfl (by rfl)) hS ?_
 simp only [Act.put, sA, s0, sS]
 refine callAt 15 20 rfl rfl (by kernel_rfl) (by rfl) (by kernel_rfl) (hA _ W1.drew S pre y q R.nb (R.no + i * 12) f2 cs2 HD.rd.nod.1 HD.rd.nodX (by rw [← hi2]; exact HD.rd.nod.2 i hi) HD.cb hy ?_ HRd hbig) ?_
 ·exact HK.ext (Ext.call hBd)
 ·rintro e w' hD
  obtain ⟨X', T, o2, m, ⟨z, rfl⟩, hE', hR', h4, h5⟩ := hD
  refine ⟨_, rfl, ⟨X', HD.ext hE' hR'.cell0⟩, ?_⟩
  simp only [Act.put, sA, s0, sS]
  refine wpAnyH_done (by kernel_rfl) ?_ _
  clear hA hS
  go_wp2_with fail
  go_end0
  exact ⟨X', T, o2, m, ⟨_, rfl⟩, (hE1.trans (Ext.call hBd)).trans hE', hR', h4, h5⟩
def TasOk (R : Rd) (g : Nat) (rv : Value) (J : List Sp → Bool → (Nat → Prop) → World → Prop) (t : Tas) : Prop :=
 ∀ (X : Nat → Prop) (w : World) (S : List Tas) (pre : List Sp) (f : FuncId) (cs : Array Value), TAt R g rv X w t (fnV f cs) → Run R g rv J X w S pre true → S.length + (tE R.s t).length ≤ Big → Calls Tryz.prog f cs w (Does R g rv J X w S pre (tE R.s t))
set_option maxRecDepth 100000 in
set_option maxHeartbeats 400000 in
theorem tas_tell {R : Rd} {g : Nat} {rv : Value} {J : List Sp → Bool → (Nat → Prop) → World → Prop} (hJ : Told J) (hrv : ∃ f cs, rv = fnV f cs ∧ Ent f) {r : Re} {y : Sp} {k : Kon} (hA : TellOk R g rv J r k) : TasOk R g rv J (.tell r y k) := by
 intro X w S pre f cs hv hr hbig
 obtain ⟨s, n, xb, t, x, tv, h1, hs, hn, hkid, hok, hlt, hx, hy, ht, hk⟩ := hv
 cases h1
 obtain ⟨p, hnb, b, o, rfl, hbl, hbX, hbn⟩ := hn
 obtain ⟨f2, cs2, rfl, hent⟩ := hk.form hrv
 obtain ⟨q, hxb, hc⟩ := hx
 obtain ⟨i, hi, hi1, hi2⟩ := hkid
 have HI := Lib.hid hi1
 have HT : TBx R g s n xb t b o q x y (fnV f2 cs2) X w := ⟨hs, hnb, hxb, ht, hc, hbl, hbX, hbn, hr.rd, hr.cell0⟩
 go_enter Tryz.func138, Tryz.ntmps138
 go_wp2_with fail
 have hBd : Below w.heap.size w w.drew := below_drewN (Below.refl _ _) 1
 have HD := HT.ext (Ext.call hBd) HT.gc
 have HRd := hr.call hJ hBd
 have hS : TBs R g s n xb t b o q x y (fnV f2 cs2) w.drew := ⟨_, HD⟩
 refine wp_region_held (S := fun u => TBs R g s n xb t b o q x y (fnV f2 cs2) u) (by kernel_rfl) ?_
 change wpAnyH _ _ _ _ _ _ _ _ w.drew
 refine takeAt 0 4 (.pointer (some ⟨g, 0, none⟩)) rfl rfl (by kernel_rfl) (by kernel_rfl) (by kernel_rfl) (fun _ _ _ h => h) (ldPS_y s 0 _ (fun _ h => tbs_s h) rfl rfl (by rfl)) hS ?_
 simp only [Act.put, sA, s0, sS]
 refine takeAt 1 5 (.pointer (some ⟨g, 0, none⟩)) rfl rfl (by kernel_rfl) (by kernel_rfl) (by kernel_rfl) (fun _ _ _ h => h) (ldPS_y s 0 _ (fun _ h => tbs_s h) rfl rfl (by rfl)) hS ?_
 simp only [Act.put, sA, s0, sS]
 refine takeAt 2 6 (.pointer (some ⟨g, 0, none⟩)) rfl rfl (by kernel_rfl) (by kernel_rfl) (by kernel_rfl) (fun _ _ _ h => h) (yields (by rfl) (fun w => by kernel_rfl)) hS ?_
 simp only [Act.put, sA, s0, sS]
 refine takeAt 3 7 (.pointer (some ⟨g, 0, none⟩)) rfl rfl (by kernel_rfl) (by kernel_rfl) (by kernel_rfl) (fun _ _ _ h => h) (yields (by rfl) (fun w => by kernel_rfl)) hS ?_
 simp only [Act.put, sA, s0, sS]
 refine takeAt 4 8 (.pointer (some ⟨R.rb, 0, none⟩)) rfl rfl (by kernel_rfl) (by kernel_rfl) (by kernel_rfl) (fun _ _ _ h => h) (ldPR_y g 0 _ (fun _ h => tbs_g h) rfl rfl (by rfl)) hS ?_
 simp only [Act.put, sA, s0, sS]
 refine takeAt 5 9 (.pointer (some ⟨R.rb, 0, none⟩)) rfl rfl (by kernel_rfl) (by kernel_rfl) (by kernel_rfl) (fun _ _ _ h => h) (yields (by rfl) (fun w => by kernel_rfl)) hS ?_
 simp only [Act.put, sA, s0, sS]
 refine takeAt 6 10 (.pointer (some ⟨R.rb, 0, none⟩)) rfl rfl (by kernel_rfl) (by kernel_rfl) (by kernel_rfl) (fun _ _ _ h => h) (yields (by rfl) (fun w => by kernel_rfl)) hS ?_
 simp only [Act.put, sA, s0, sS]
 refine takeAt 7 11 (.slice (some ⟨R.nb, R.no, none⟩) R.n R.cap) rfl rfl (by kernel_rfl) (by kernel_rfl) (by kernel_rfl) (fun _ _ _ h => h) (ldSN_y R.rb 0 _ _ _ (fun _ h => tbs_r h) rfl rfl (by rfl)) hS ?_
 simp only [Act.put, sA, s0, sS]
 refine takeAt 8 12 (.pointer (some ⟨b, o, none⟩)) rfl rfl (by kernel_rfl) (by kernel_rfl) (by kernel_rfl) (fun _ _ _ h => h) (ldPN_y n 0 _ (fun _ h => tbs_n h) rfl rfl (by rfl)) hS ?_
 simp only [Act.put, sA, s0, sS]
 refine takeAt 9 13 (.pointer (some ⟨b, o, none⟩)) rfl rfl (by kernel_rfl) (by kernel_rfl) (by kernel_rfl) (fun _ _ _ h => h) (yields (by rfl) (fun w => by kernel_rfl)) hS ?_
 simp only [Act.put, sA, s0, sS]
 refine takeAt 10 14 (.pointer (some ⟨b, o + 2, none⟩)) rfl rfl (by kernel_rfl) (by kernel_rfl) (by kernel_rfl) (fun _ _ _ h => h) (yields (by rfl) (fun w => by kernel_rfl)) hS ?_
 simp only [Act.put, sA, s0, sS]
 refine takeAt 11 15 (.int .i64 (i : Int)) rfl rfl (by kernel_rfl) (by kernel_rfl) (by kernel_rfl) (fun _ _ _ h => h) (ldI_y b (o + 2) _ (fun _ h => tbs_c h 2 _ (fun _ h => by rw [h.2.2.1, HI.out])) rfl rfl (by rfl)) hS ?_
 simp only [Act.put, sA, s0, sS]
 refine takeAt 12 16 (.pointer (some ⟨R.nb, R.no + i * 12, none⟩)) rfl rfl (by kernel_rfl) (by kernel_rfl) (by kernel_rfl) (fun _ _ _ h => h) (ixN_y R.nb R.n R.cap R.no i hi rfl rfl rfl (by rfl)) hS ?_
 simp only [Act.put, sA, s0, sS]
 refine takeAt 13 17 (.agg #[.int .i64 (y.1 : Int), .pointer (some ⟨q, 0, none⟩)]) rfl rfl (by kernel_rfl) (by kernel_rfl) (by kernel_rfl) (fun _ _ _ h => h) (ldX_y xb _ _ (fun _ h => tbs_x h) rfl rfl (by rfl)) hS ?_
 simp only [Act.put, sA, s0, sS]
 refine takeAt 14 18 (fnV f2 cs2) rfl rfl (by kernel_rfl) (by kernel_rfl) (by kernel_rfl) (fun _ _ _ h => h) (ldF_y t 0 _ _ _ (fun _ h => tbs_t h) rfl rfl (by rfl)) hS ?_
 simp only [Act.put, sA, s0, sS]
 refine callAt 15 19 rfl rfl (by kernel_rfl) (by rfl) (by kernel_rfl) (hA _ w.drew S pre y q R.nb (R.no + i * 12) f2 cs2 HD.rd.nod.1 HD.rd.nodX (by rw [← hi2]; exact HD.rd.nod.2 i hi) HD.cb hy ?_ HRd hbig) ?_
 ·exact hk.ext (Ext.call hBd)
 ·rintro e w' hD
  obtain ⟨X', T, o2, m, ⟨z, rfl⟩, hE', hR', h4, h5⟩ := hD
  refine ⟨_, rfl, ⟨X', HD.ext hE' hR'.cell0⟩, ?_⟩
  simp only [Act.put, sA, s0, sS]
  refine wpAnyH_done (by kernel_rfl) ?_ _
  clear hA hS
  go_wp2_with fail
  go_end0
  exact ⟨X', T, o2, m, ⟨_, rfl⟩, (Ext.call hBd).trans hE', hR', h4, h5⟩
set_option maxRecDepth 100000 in
set_option maxHeartbeats 400000 in
theorem tas_on {R : Rd} {g : Nat} {rv : Value} {J : List Sp → Bool → (Nat → Prop) → World → Prop} (hJ : Told J) (hrv : ∃ f cs, rv = fnV f cs ∧ Ent f) {x : Nd} {ra : Re} {j : Nat} {y : Sp} {k : Kon} (hA : TellOk R g rv J ra (.turn x ra j y.1 k)) : TasOk R g rv J (.on x ra j y k) := by
 intro X w S pre f cs hv hr hbig
 obtain ⟨s, n, yb, kb, bb, tv, h1, hs, hn, hx, hkb, hbb, hrep, hmx, hk⟩ := hv
 cases h1
 obtain ⟨p, hnb, b, o, rfl, hbl, hbX, hbn⟩ := hn
 obtain ⟨f2, cs2, rfl, hent⟩ := hk.form hrv
 obtain ⟨q, hxb, hc⟩ := id hx
 obtain ⟨hk10, hmd, hkid, hok, hlt, hrest⟩ := id hrep
 have hy : y.1 ≤ R.s.size := hrest.2.2.2
 obtain ⟨s2, n2, t2, hbb1, hbb2, hbb3, ht⟩ := id hbb
 obtain ⟨i, hi, hi1, hi2⟩ := hkid
 have HI := Lib.hid hi1
 have HT : TBx R g s n yb t2 b o q x y (fnV f2 cs2) X w := ⟨hs, hnb, hxb, ht, hc, hbl, hbX, hbn, hr.rd, hr.cell0⟩
 go_enter Tryz.func173, Tryz.ntmps173
 go_wp2_with fail
 have hBd : Below w.heap.size w w.drew := below_drewN (Below.refl _ _) 1
 have HD := HT.ext (Ext.call hBd) HT.gc
 have HRd := hr.call hJ hBd
 have hS : TBs R g s n yb t2 b o q x y (fnV f2 cs2) w.drew := ⟨_, HD⟩
 refine wp_region_held (S := fun u => TBs R g s n yb t2 b o q x y (fnV f2 cs2) u) (by kernel_rfl) ?_
 change wpAnyH _ _ _ _ _ _ _ _ w.drew
 refine takeAt 0 5 (.pointer (some ⟨g, 0, none⟩)) rfl rfl (by kernel_rfl) (by kernel_rfl) (by kernel_rfl) (fun _ _ _ h => h) (ldPS_y s 0 _ (fun _ h => tbs_s h) rfl rfl (by rfl)) hS ?_
 simp only [Act.put, sA, s0, sS]
 refine takeAt 1 6 (.pointer (some ⟨g, 0, none⟩)) rfl rfl (by kernel_rfl) (by kernel_rfl) (by kernel_rfl) (fun _ _ _ h => h) (ldPS_y s 0 _ (fun _ h => tbs_s h) rfl rfl (by rfl)) hS ?_
 simp only [Act.put, sA, s0, sS]
 refine takeAt 2 7 (.pointer (some ⟨g, 0, none⟩)) rfl rfl (by kernel_rfl) (by kernel_rfl) (by kernel_rfl) (fun _ _ _ h => h) (yields (by rfl) (fun w => by kernel_rfl)) hS ?_
 simp only [Act.put, sA, s0, sS]
 refine takeAt 3 8 (.pointer (some ⟨g, 0, none⟩)) rfl rfl (by kernel_rfl) (by kernel_rfl) (by kernel_rfl) (fun _ _ _ h => h) (yields (by rfl) (fun w => by kernel_rfl)) hS ?_
 simp only [Act.put, sA, s0, sS]
 refine takeAt 4 9 (.pointer (some ⟨R.rb, 0, none⟩)) rfl rfl (by kernel_rfl) (by kernel_rfl) (by kernel_rfl) (fun _ _ _ h => h) (ldPR_y g 0 _ (fun _ h => tbs_g h) rfl rfl (by rfl)) hS ?_
 simp only [Act.put, sA, s0, sS]
 refine takeAt 5 10 (.pointer (some ⟨R.rb, 0, none⟩)) rfl rfl (by kernel_rfl) (by kernel_rfl) (by kernel_rfl) (fun _ _ _ h => h) (yields (by rfl) (fun w => by kernel_rfl)) hS ?_
 simp only [Act.put, sA, s0, sS]
 refine takeAt 6 11 (.pointer (some ⟨R.rb, 0, none⟩)) rfl rfl (by kernel_rfl) (by kernel_rfl) (by kernel_rfl) (fun _ _ _ h => h) (yields (by rfl) (fun w => by kernel_rfl)) hS ?_
 simp only [Act.put, sA, s0, sS]
 refine takeAt 7 12 (.slice (some ⟨R.nb, R.no, none⟩) R.n R.cap) rfl rfl (by kernel_rfl) (by kernel_rfl) (by kernel_rfl) (fun _ _ _ h => h) (ldSN_y R.rb 0 _ _ _ (fun _ h => tbs_r h) rfl rfl (by rfl)) hS ?_
 simp only [Act.put, sA, s0, sS]
 refine takeAt 8 13 (.pointer (some ⟨b, o, none⟩)) rfl rfl (by kernel_rfl) (by kernel_rfl) (by kernel_rfl) (fun _ _ _ h => h) (ldPN_y n 0 _ (fun _ h => tbs_n h) rfl rfl (by rfl)) hS ?_
 simp only [Act.put, sA, s0, sS]
 refine takeAt 9 14 (.pointer (some ⟨b, o, none⟩)) rfl rfl (by kernel_rfl) (by kernel_rfl) (by kernel_rfl) (fun _ _ _ h => h) (yields (by rfl) (fun w => by kernel_rfl)) hS ?_
 simp only [Act.put, sA, s0, sS]
 refine takeAt 10 15 (.pointer (some ⟨b, o + 1, none⟩)) rfl rfl (by kernel_rfl) (by kernel_rfl) (by kernel_rfl) (fun _ _ _ h => h) (yields (by rfl) (fun w => by kernel_rfl)) hS ?_
 simp only [Act.put, sA, s0, sS]
 refine takeAt 11 16 (.int .i64 (i : Int)) rfl rfl (by kernel_rfl) (by kernel_rfl) (by kernel_rfl) (fun _ _ _ h => h) (ldI_y b (o + 1) _ (fun _ h => tbs_c h 1 _ (fun _ h => by rw [h.2.1, HI.out])) rfl rfl (by rfl)) hS ?_
 simp only [Act.put, sA, s0, sS]
 refine takeAt 12 17 (.pointer (some ⟨R.nb, R.no + i * 12, none⟩)) rfl rfl (by kernel_rfl) (by kernel_rfl) (by kernel_rfl) (fun _ _ _ h => h) (ixN_y R.nb R.n R.cap R.no i hi rfl rfl rfl (by rfl)) hS ?_
 simp only [Act.put, sA, s0, sS]
 refine takeAt 13 18 (.agg #[.int .i64 (y.1 : Int), .pointer (some ⟨q, 0, none⟩)]) rfl rfl (by kernel_rfl) (by kernel_rfl) (by kernel_rfl) (fun _ _ _ h => h) (ldX_y yb _ _ (fun _ h => tbs_x h) rfl rfl (by rfl)) hS ?_
 simp only [Act.put, sA, s0, sS]
 refine takeAt 14 19 (.func (.func 174) #[] #[ptr kb, ptr n, ptr yb, ptr bb]) rfl rfl (by kernel_rfl) (by kernel_rfl) (by kernel_rfl) (fun _ _ _ h => h) (yields (by rfl) (fun w => by kernel_rfl)) hS ?_
 simp only [Act.put, sA, s0, sS]
 refine callAt 15 20 rfl rfl (by kernel_rfl) (by rfl) (by kernel_rfl) (hA _ w.drew S pre y q R.nb (R.no + i * 12) 174 #[ptr kb, ptr n, ptr yb, ptr bb] HD.rd.nod.1 HD.rd.nodX (by rw [← hi2]; exact HD.rd.nod.2 i hi) HD.cb hy ?_ HRd hbig) ?_
 ·exact ⟨_, _, _, _, y, fnV f2 cs2, rfl, hkb.ext (Ext.call hBd), HD.nbox, HD.xbox, rfl, hbb.ext (Ext.call hBd), hrep, hmx, hk.ext (Ext.call hBd)⟩
 ·rintro e w' hD
  obtain ⟨X', T, o2, m, ⟨z, rfl⟩, hE', hR', h4, h5⟩ := hD
  refine ⟨_, rfl, ⟨X', HD.ext hE' hR'.cell0⟩, ?_⟩
  simp only [Act.put, sA, s0, sS]
  refine wpAnyH_done (by kernel_rfl) ?_ _
  clear hA hS
  go_wp2_with fail
  go_end0
  exact ⟨X', T, o2, m, ⟨_, rfl⟩, (Ext.call hBd).trans hE', hR', h4, h5⟩
set_option maxRecDepth 100000 in
set_option maxHeartbeats 400000 in
theorem tas_fin {R : Rd} {g : Nat} {rv : Value} {J : List Sp → Bool → (Nat → Prop) → World → Prop} (_ : Told J) (hrv : ∃ f cs, rv = fnV f cs ∧ Ent f) {y : Sp} {k : Kon} (hA : KonOk R g rv J k) : TasOk R g rv J (.fin y k) := by
 intro X w S pre f cs hv hr hbig
 obtain ⟨t, yb, tv, h1, ht, hk, ⟨q, hxb, hc⟩, hy⟩ := hv
 cases h1
 obtain ⟨f2, cs2, rfl, hent⟩ := hk.form hrv
 have c0 := ht.box.get 0 rfl
 have c1 := hxb.box.get 0 rfl
 have c2 := hxb.box.get 1 rfl
 go_enter Tryz.func175, Tryz.ntmps175
 go_wp2_with fail
 have HA := hA X w S pre y q f2 cs2 hc hy hk hr hbig
 rw [hent, Oper.upon_enter]
 with_reducible refine HA.mono ?_
 rintro e w' ⟨X', T, o2, m, ⟨z, rfl⟩, hE', hR', h4, h5⟩
 clear hA HA hent c0 c1 c2
 go_wp2_with fail
 go_end0
 exact ⟨X', T, o2, m, ⟨_, rfl⟩, hE', hR', h4, h5⟩
end Go.Proofs.YteiboobdhjdjkaaGreatDoor.Nai
namespace Go.Proofs.YteiboobdhjdjkaaGreatDoor.Nai
open Go.RowKit
open Ast (Nd At12 NodesAt kidsZ)
open Cap (Cp withZ cpC BoxV)
section
variable {ops : Array Oper} {R : World → Prop} {a : Act} {o : Oper} {x y : Operand}
theorem lt_y (m n : Int) (b : Bool) (hb : decide (m < n) = b) (ho : o.op = .binOp .lss 3 x y 3) (hx : a.eval x = .int .i64 m) (hy : a.eval y = .int .i64 n) (hw : Region.wanted o (yielded ops a.tmps) = true) : YieldsIf Tryz.prog ops R o (.bool b) a := by
 refine Or.inl ⟨hw, fun u _ => ?_⟩
 subst hb
 unfold execOp
 simp only [ho, hx, hy]
 go_simp
theorem gt_y (m n : Int) (b : Bool) (hb : decide (n < m) = b) (ho : o.op = .binOp .gtr 3 x y 3) (hx : a.eval x = .int .i64 m) (hy : a.eval y = .int .i64 n) (hw : Region.wanted o (yielded ops a.tmps) = true) : YieldsIf Tryz.prog ops R o (.bool b) a := by
 refine Or.inl ⟨hw, fun u _ => ?_⟩
 subst hb
 unfold execOp
 simp only [ho, hx, hy]
 go_simp
theorem eq_y (m n : Int) (b : Bool) (hb : decide (m = n) = b) (ho : o.op = .binOp .eql 3 x y 3) (hx : a.eval x = .int .i64 m) (hy : a.eval y = .int .i64 n) (hw : Region.wanted o (yielded ops a.tmps) = true) : YieldsIf Tryz.prog ops R o (.bool b) a := by
 refine Or.inl ⟨hw, fun u _ => ?_⟩
 subst hb
 unfold execOp
 simp only [ho, hx, hy]
 go_simp
 rfl
end
abbrev lzB (x : Nd) : Bool := decide (x.md = 1)
def BehOk (R : Rd) (g : Nat) (rv : Value) (J : List Sp → Bool → (Nat → Prop) → World → Prop) (x : Nd) (a : Re) (k : Kon) : Prop :=
 ∀ (X : Nat → Prop) (w : World) (S : List Tas) (pre : List Sp) (y : Sp) (q j s n bb t : Nat) (tv : Value), BoxI X w 44 q (cpC y.2) → RepA R x a j y.1 → SBox X w g s → NBox X w n x → FBox X w t tv → KAt R g rv X w k tv →
   BoxI X w 238 bb #[fnV 172 #[ptr s, ptr n, ptr bb, ptr t]] → Run R g rv J X w S pre true → S.length + (evB (turnE R.s.size (outsE R.s a) x.mn x.mx (lzB x) j y) (kE R.s k)).length ≤ Big →
   Calls Tryz.prog 172 #[.int .i64 (j : Int), spV y q, ptr s, ptr n, ptr bb, ptr t] w (Does R g rv J X w S pre (evB (turnE R.s.size (outsE R.s a) x.mn x.mx (lzB x) j y) (kE R.s k)))
structure BBx (bk bn b o : Nat) (x : Nd) (j : Nat) (u : World) : Prop where
 kb : u.cell? ⟨bk, 0, none⟩ = some (.int .i64 (j : Int))
 nb : u.cell? ⟨bn, 0, none⟩ = some (.pointer (some ⟨b, o, none⟩))
 nd : At12 u b o x
set_option maxRecDepth 100000 in
set_option maxHeartbeats 400000 in
theorem beh_any {R : Rd} {g : Nat} {rv : Value} {J : List Sp → Bool → (Nat → Prop) → World → Prop} (hJ : Told J) (hrv : ∃ f cs, rv = fnV f cs ∧ Ent f) {x : Nd} {ra : Re} {k : Kon} (hK : KonOk R g rv J k) : BehOk R g rv J x ra k := by
 intro X w S pre y q j s n bb t tv hc hrep hs hn ht hk hbb hr hbig
 obtain ⟨p, hnb, b, o, rfl, hbl, hbX, hbn⟩ := hn
 obtain ⟨f2, cs2, rfl, hent⟩ := hk.form hrv
 obtain ⟨hk10, hmd, hkid, hok, hlite, hnum, hjm, hj, hy⟩ := id hrep
 have hstep := turn_step (outsE_fwd R.s ra) x.mn x.mx (lzB x) j y hy
 obtain ⟨W1, hW1⟩ : ∃ W1, (w.alloc (.cells #[.int .i64 (j : Int)] 3)).alloc (.cells #[.int .i64 (y.1 : Int), ptr q] 93) = W1 := ⟨_, rfl⟩
 have hB1 : Below w.heap.size w W1 := by rw [← hW1]; go_grown
 have hs1 : W1.heap.size = w.heap.size + 1 + 1 := by rw [← hW1]; simp
 have hE1 := Ext.call (X := X) hB1
 have hR1 := hr.call hJ hB1
 have hkb : BoxI X W1 3 w.heap.size #[.int .i64 (j : Int)] := by rw [← hW1]; exact (BoxI.new hr.xlt _ _).ext (Ext.alloc X _ _)
 have hxb : BoxI X W1 93 (w.heap.size + 1) #[.int .i64 (y.1 : Int), ptr q] := by rw [← hW1]; have := BoxI.new (X := X) (w := w.alloc (.cells #[.int .i64 (j : Int)] 3)) (fun b e => by have := hr.xlt b e; simp; omega) 93 #[.int .i64 (y.1 : Int), ptr q]; rwa [World.size_alloc] at this
 have hnd1 : At12 W1 b o x := hbn.keep fun j => cell_ext hE1 hbl hbX j
 have hS0 : BBx w.heap.size n b o x j W1 := ⟨hkb.box.get 0 rfl, (hnb.ext hE1).box.get 0 rfl, hnd1⟩
 have hon : (0 ≤ x.mx → (j : Int) < x.mx) → TAt R g rv X W1 (.on x ra j y k) (fnV 173 #[ptr s, ptr n, ptr (w.heap.size + 1), ptr w.heap.size, ptr bb]) := fun hq => ⟨_, _, _, _, _, fnV f2 cs2, rfl, hs.ext hE1, ⟨_, hnb.ext hE1, b, o, rfl, Nat.lt_of_lt_of_le hbl hB1.size, hbX, hnd1⟩, ⟨q, hxb, hc.ext hE1⟩, hkb, ⟨_, _, _, hbb.ext hE1, hs.ext hE1, ⟨_, hnb.ext hE1, b, o, rfl, Nat.lt_of_lt_of_le hbl hB1.size, hbX, hnd1⟩, ht.ext hE1⟩, hrep, hq, hk.ext hE1⟩
 have hen : TAt R g rv X W1 (.fin y k) (fnV 175 #[ptr t, ptr (w.heap.size + 1)]) := ⟨_, _, fnV f2 cs2, rfl, ht.ext hE1, hk.ext hE1, ⟨q, hxb, hc.ext hE1⟩, hy⟩
 have hKE : kE R.s (.turn x ra j y.1 k) = fun z => evB (onE R.s.size (outsE R.s ra) x.mn x.mx (lzB x) j y.1 z) (kE R.s k) := rfl
 by_cases h1 : (j : Int) < x.mn
 ·rw [if_pos h1] at hstep
  have hsc : W1.drew.cell? ⟨s, 0, none⟩ = some (ptr g) := (hs.ext hE1).box.get 0 rfl
  rw [hstep, evB_none, evB_assoc] at hbig ⊢
  have hT0 := hon (fun _ => by have := hnum.1; unfold RepOk at this; omega)
  have hd1 : decide ((j : Int) < x.mn) = true := decide_eq_true h1
  clear hon hen hstep h1
  go_enter Tryz.func172, Tryz.ntmps172
  go_wp2_with fail
  try rw [hW1]
  refine wp_region_held (S := BBx w.heap.size n b o x j) (by kernel_rfl) ?_
  change wpAnyH _ _ _ _ _ _ _ _ W1.drew
  have hSa : BBx w.heap.size n b o x j W1.drew := ⟨hS0.kb, hS0.nb, hS0.nd⟩
  refine takeAt 0 18 (.int .i64 (j : Int)) rfl rfl (by kernel_rfl) (by kernel_rfl) (by kernel_rfl) (fun _ _ _ h => h) (ldI_y w.heap.size 0 _ (fun _ h => BBx.kb h) rfl rfl (by rfl)) hSa ?_
  simp only [Act.put, sA, s0, sS]
  refine takeAt 1 19 (.pointer (some ⟨b, o, none⟩)) rfl rfl (by kernel_rfl) (by kernel_rfl) (by kernel_rfl) (fun _ _ _ h => h) (ldPN_y n 0 _ (fun _ h => BBx.nb h) rfl rfl (by rfl)) hSa ?_
  simp only [Act.put, sA, s0, sS]
  refine takeAt 2 20 (.pointer (some ⟨b, o, none⟩)) rfl rfl (by kernel_rfl) (by kernel_rfl) (by kernel_rfl) (fun _ _ _ h => h) (yields (by rfl) (fun w => by kernel_rfl)) hSa ?_
  simp only [Act.put, sA, s0, sS]
  refine takeAt 3 21 (.pointer (some ⟨b, o + 7, none⟩)) rfl rfl (by kernel_rfl) (by kernel_rfl) (by kernel_rfl) (fun _ _ _ h => h) (yields (by rfl) (fun w => by kernel_rfl)) hSa ?_
  simp only [Act.put, sA, s0, sS]
  refine takeAt 4 22 (.int .i64 x.mn) rfl rfl (by kernel_rfl) (by kernel_rfl) (by kernel_rfl) (fun _ _ _ h => h) (ldI_y b (o + 7) _ (fun _ h => h.nd.2.2.2.2.2.2.2.1) rfl rfl (by rfl)) hSa ?_
  simp only [Act.put, sA, s0, sS]
  refine takeAt 5 23 (.bool true) rfl rfl (by kernel_rfl) (by kernel_rfl) (by kernel_rfl) (fun _ _ _ h => h) (lt_y _ _ true hd1 rfl rfl rfl (by rfl)) hSa ?_
  simp only [Act.put, sA, s0, sS]
  refine takeAt 6 17 (.bool true) rfl rfl (by kernel_rfl) (by kernel_rfl) (by kernel_rfl) (fun _ _ _ h => h) (yields (by rfl) (fun w => by kernel_rfl)) hSa ?_
  simp only [Act.put, sA, s0, sS]
  refine wpAnyH_done (by kernel_rfl) ?_ _
  go_wp2_with fail
  have hBd : Below W1.heap.size W1 W1.drew := below_drewN (Below.refl _ _) 1
  have hRw := hR1.call hJ hBd
  replace hT0 := hT0.ext (Ext.call (X := X) hBd)
  obtain ⟨W2, hW2⟩ : ∃ W2, W1.drew.alloc (.cells #[fnV 173 #[ptr s, ptr n, ptr (w.heap.size + 1), ptr w.heap.size, ptr bb]] 1) = W2 := ⟨_, rfl⟩
  have hB2 : Below W1.drew.heap.size W1.drew W2 := by rw [← hW2]; exact (Below.refl _ _).alloc (Nat.le_refl _) _
  have hn2 : BoxI X W2 1 (w.heap.size + 1 + 1) #[fnV 173 #[ptr s, ptr n, ptr (w.heap.size + 1), ptr w.heap.size, ptr bb]] := by rw [← hW2, ← (show W1.drew.heap.size = w.heap.size + 1 + 1 from hs1)]; exact BoxI.new hRw.xlt _ _
  have hR2 := hRw.call hJ hB2
  have hW3 : (W1.alloc (.cells #[fnV 173 #[ptr s, ptr n, ptr (w.heap.size + 1), ptr w.heap.size, ptr bb]] 1)).drew = W2 := hW2
  rw [hW3]
  clear hW3
  have HL := later_any hJ hR2 [.on x ra j y k] 1 1 (w.heap.size + 1 + 1) (fun i => 173) (fun i => #[ptr s, ptr n, ptr (w.heap.size + 1), ptr w.heap.size, ptr bb]) rfl (by omega) (by have h := hbig; unfold Big at h; simp only [List.length_cons] at h; omega) (by exact ⟨hT0.ext (Ext.call hB2), trivial⟩) (by
   intro i hi
   match i, hi with
   | 0, _ => exact hn2.box.get 0 rfl
   ) hn2.not hn2.box.lt
  with_reducible refine HL.mono ?_
  rintro e W3 ⟨X3, ⟨z3, rfl⟩, hE3, HR3⟩
  clear HL hn2 hW2
  go_wp2_with fail
  go_end0
  refine ⟨X3, [.on x ra j y k], none, true, ⟨_, rfl⟩, ((hE1.trans (Ext.call hBd)).trans (Ext.call hB2)).trans hE3, by simpa using HR3, fun _ => rfl, ?_⟩
  rw [sE_cons, sE_nil, List.append_nil]; rfl
 ·rw [if_neg h1] at hstep
  have hd1 : decide ((j : Int) < x.mn) = false := decide_eq_false h1
  by_cases h2 : (j : Int) = x.mx
  ·rw [if_pos h2] at hstep
   rw [hstep, evB_some, evB_nil, List.append_nil] at hbig ⊢
   have hd2 : decide ((j : Int) = x.mx) = true := decide_eq_true h2
   clear hon hstep h1 h2
   go_enter Tryz.func172, Tryz.ntmps172
   go_wp2_with fail
   try rw [hW1]
   refine wp_region_held (S := BBx w.heap.size n b o x j) (by kernel_rfl) ?_
   change wpAnyH _ _ _ _ _ _ _ _ W1.drew
   have hSa : BBx w.heap.size n b o x j W1.drew := ⟨hS0.kb, hS0.nb, hS0.nd⟩
   refine takeAt 0 18 (.int .i64 (j : Int)) rfl rfl (by kernel_rfl) (by kernel_rfl) (by kernel_rfl) (fun _ _ _ h => h) (ldI_y w.heap.size 0 _ (fun _ h => BBx.kb h) rfl rfl (by rfl)) hSa ?_
   simp only [Act.put, sA, s0, sS]
   refine takeAt 1 19 (.pointer (some ⟨b, o, none⟩)) rfl rfl (by kernel_rfl) (by kernel_rfl) (by kernel_rfl) (fun _ _ _ h => h) (ldPN_y n 0 _ (fun _ h => BBx.nb h) rfl rfl (by rfl)) hSa ?_
   simp only [Act.put, sA, s0, sS]
   refine takeAt 2 20 (.pointer (some ⟨b, o, none⟩)) rfl rfl (by kernel_rfl) (by kernel_rfl) (by kernel_rfl) (fun _ _ _ h => h) (yields (by rfl) (fun w => by kernel_rfl)) hSa ?_
   simp only [Act.put, sA, s0, sS]
   refine takeAt 3 21 (.pointer (some ⟨b, o + 7, none⟩)) rfl rfl (by kernel_rfl) (by kernel_rfl) (by kernel_rfl) (fun _ _ _ h => h) (yields (by rfl) (fun w => by kernel_rfl)) hSa ?_
   simp only [Act.put, sA, s0, sS]
   refine takeAt 4 22 (.int .i64 x.mn) rfl rfl (by kernel_rfl) (by kernel_rfl) (by kernel_rfl) (fun _ _ _ h => h) (ldI_y b (o + 7) _ (fun _ h => h.nd.2.2.2.2.2.2.2.1) rfl rfl (by rfl)) hSa ?_
   simp only [Act.put, sA, s0, sS]
   refine takeAt 5 23 (.bool false) rfl rfl (by kernel_rfl) (by kernel_rfl) (by kernel_rfl) (fun _ _ _ h => h) (lt_y _ _ false hd1 rfl rfl rfl (by rfl)) hSa ?_
   simp only [Act.put, sA, s0, sS]
   refine takeAt 6 17 (.bool false) rfl rfl (by kernel_rfl) (by kernel_rfl) (by kernel_rfl) (fun _ _ _ h => h) (yields (by rfl) (fun w => by kernel_rfl)) hSa ?_
   simp only [Act.put, sA, s0, sS]
   refine wpAnyH_done (by kernel_rfl) ?_ _
   go_wp2_with fail
   refine wp_region_held (S := BBx w.heap.size n b o x j) (by kernel_rfl) ?_
   change wpAnyH _ _ _ _ _ _ _ _ W1.drew.drew
   have hSb : BBx w.heap.size n b o x j W1.drew.drew := ⟨hS0.kb, hS0.nb, hS0.nd⟩
   refine takeAt 0 29 (.int .i64 (j : Int)) rfl rfl (by kernel_rfl) (by kernel_rfl) (by kernel_rfl) (fun _ _ _ h => h) (ldI_y w.heap.size 0 _ (fun _ h => BBx.kb h) rfl rfl (by rfl)) hSb ?_
   simp only [Act.put, sA, s0, sS]
   refine takeAt 1 30 (.pointer (some ⟨b, o, none⟩)) rfl rfl (by kernel_rfl) (by kernel_rfl) (by kernel_rfl) (fun _ _ _ h => h) (ldPN_y n 0 _ (fun _ h => BBx.nb h) rfl rfl (by rfl)) hSb ?_
   simp only [Act.put, sA, s0, sS]
   refine takeAt 2 31 (.pointer (some ⟨b, o, none⟩)) rfl rfl (by kernel_rfl) (by kernel_rfl) (by kernel_rfl) (fun _ _ _ h => h) (yields (by rfl) (fun w => by kernel_rfl)) hSb ?_
   simp only [Act.put, sA, s0, sS]
   refine takeAt 3 32 (.pointer (some ⟨b, o + 8, none⟩)) rfl rfl (by kernel_rfl) (by kernel_rfl) (by kernel_rfl) (fun _ _ _ h => h) (yields (by rfl) (fun w => by kernel_rfl)) hSb ?_
   simp only [Act.put, sA, s0, sS]
   refine takeAt 4 33 (.int .i64 x.mx) rfl rfl (by kernel_rfl) (by kernel_rfl) (by kernel_rfl) (fun _ _ _ h => h) (ldI_y b (o + 8) _ (fun _ h => h.nd.2.2.2.2.2.2.2.2.1) rfl rfl (by rfl)) hSb ?_
   simp only [Act.put, sA, s0, sS]
   refine takeAt 5 34 (.bool true) rfl rfl (by kernel_rfl) (by kernel_rfl) (by kernel_rfl) (fun _ _ _ h => h) (eq_y _ _ true hd2 rfl rfl rfl (by rfl)) hSb ?_
   simp only [Act.put, sA, s0, sS]
   refine takeAt 6 28 (.bool true) rfl rfl (by kernel_rfl) (by kernel_rfl) (by kernel_rfl) (fun _ _ _ h => h) (yields (by rfl) (fun w => by kernel_rfl)) hSb ?_
   simp only [Act.put, sA, s0, sS]
   refine wpAnyH_done (by kernel_rfl) ?_ _
   go_wp2_with fail
   have hBd : Below W1.heap.size W1 W1.drew.drew := below_drewN (Below.refl _ _) 2
   have hRw := hR1.call hJ hBd
   have HF := tas_fin hJ hrv hK X W1.drew.drew S pre _ _ (hen.ext (Ext.call (X := X) hBd)) hRw hbig
   with_reducible refine HF.mono ?_
   rintro e W3 ⟨X', T, o2, m, ⟨z, rfl⟩, hE', hR', h4, h5⟩
   clear HF
   go_wp2_with fail
   go_end0
   exact ⟨X', T, o2, m, ⟨_, rfl⟩, (hE1.trans (Ext.call hBd)).trans hE', hR', h4, h5⟩
  ·rw [if_neg h2] at hstep
   have hd2 : decide ((j : Int) = x.mx) = false := decide_eq_false h2
   have hT9 := hon (fun h => by have := hjm h; omega)
   by_cases h3 : x.md = 1
   ·have hlz : lzB x = true := decide_eq_true h3
    rw [hlz] at hstep
    rw [if_pos rfl] at hstep
    have hmdc : W1.drew.drew.cell? ⟨b, o + 9, none⟩ = some (.int .i64 x.md) := hnd1.2.2.2.2.2.2.2.2.2.1
    have hnbc : W1.drew.drew.cell? ⟨n, 0, none⟩ = some (.pointer (some ⟨b, o, none⟩)) := hS0.nb
    have hsc : W1.drew.drew.cell? ⟨s, 0, none⟩ = some (ptr g) := (hs.ext hE1).box.get 0 rfl
    rw [h3] at hmdc
    rw [hlz, hstep, evB_none, evB_some, evB_none, evB_assoc] at hbig ⊢
    rw [hlz] at hKE
    clear hon hstep h1 h2
    go_enter Tryz.func172, Tryz.ntmps172
    go_wp2_with fail
    try rw [hW1]
    refine wp_region_held (S := BBx w.heap.size n b o x j) (by kernel_rfl) ?_
    change wpAnyH _ _ _ _ _ _ _ _ W1.drew
    have hSa : BBx w.heap.size n b o x j W1.drew := ⟨hS0.kb, hS0.nb, hS0.nd⟩
    refine takeAt 0 18 (.int .i64 (j : Int)) rfl rfl (by kernel_rfl) (by kernel_rfl) (by kernel_rfl) (fun _ _ _ h => h) (ldI_y w.heap.size 0 _ (fun _ h => BBx.kb h) rfl rfl (by rfl)) hSa ?_
    simp only [Act.put, sA, s0, sS]
    refine takeAt 1 19 (.pointer (some ⟨b, o, none⟩)) rfl rfl (by kernel_rfl) (by kernel_rfl) (by kernel_rfl) (fun _ _ _ h => h) (ldPN_y n 0 _ (fun _ h => BBx.nb h) rfl rfl (by rfl)) hSa ?_
    simp only [Act.put, sA, s0, sS]
    refine takeAt 2 20 (.pointer (some ⟨b, o, none⟩)) rfl rfl (by kernel_rfl) (by kernel_rfl) (by kernel_rfl) (fun _ _ _ h => h) (yields (by rfl) (fun w => by kernel_rfl)) hSa ?_
    simp only [Act.put, sA, s0, sS]
    refine takeAt 3 21 (.pointer (some ⟨b, o + 7, none⟩)) rfl rfl (by kernel_rfl) (by kernel_rfl) (by kernel_rfl) (fun _ _ _ h => h) (yields (by rfl) (fun w => by kernel_rfl)) hSa ?_
    simp only [Act.put, sA, s0, sS]
    refine takeAt 4 22 (.int .i64 x.mn) rfl rfl (by kernel_rfl) (by kernel_rfl) (by kernel_rfl) (fun _ _ _ h => h) (ldI_y b (o + 7) _ (fun _ h => h.nd.2.2.2.2.2.2.2.1) rfl rfl (by rfl)) hSa ?_
    simp only [Act.put, sA, s0, sS]
    refine takeAt 5 23 (.bool false) rfl rfl (by kernel_rfl) (by kernel_rfl) (by kernel_rfl) (fun _ _ _ h => h) (lt_y _ _ false hd1 rfl rfl rfl (by rfl)) hSa ?_
    simp only [Act.put, sA, s0, sS]
    refine takeAt 6 17 (.bool false) rfl rfl (by kernel_rfl) (by kernel_rfl) (by kernel_rfl) (fun _ _ _ h => h) (yields (by rfl) (fun w => by kernel_rfl)) hSa ?_
    simp only [Act.put, sA, s0, sS]
    refine wpAnyH_done (by kernel_rfl) ?_ _
    go_wp2_with fail
    refine wp_region_held (S := BBx w.heap.size n b o x j) (by kernel_rfl) ?_
    change wpAnyH _ _ _ _ _ _ _ _ W1.drew.drew
    have hSb : BBx w.heap.size n b o x j W1.drew.drew := ⟨hS0.kb, hS0.nb, hS0.nd⟩
    refine takeAt 0 29 (.int .i64 (j : Int)) rfl rfl (by kernel_rfl) (by kernel_rfl) (by kernel_rfl) (fun _ _ _ h => h) (ldI_y w.heap.size 0 _ (fun _ h => BBx.kb h) rfl rfl (by rfl)) hSb ?_
    simp only [Act.put, sA, s0, sS]
    refine takeAt 1 30 (.pointer (some ⟨b, o, none⟩)) rfl rfl (by kernel_rfl) (by kernel_rfl) (by kernel_rfl) (fun _ _ _ h => h) (ldPN_y n 0 _ (fun _ h => BBx.nb h) rfl rfl (by rfl)) hSb ?_
    simp only [Act.put, sA, s0, sS]
    refine takeAt 2 31 (.pointer (some ⟨b, o, none⟩)) rfl rfl (by kernel_rfl) (by kernel_rfl) (by kernel_rfl) (fun _ _ _ h => h) (yields (by rfl) (fun w => by kernel_rfl)) hSb ?_
    simp only [Act.put, sA, s0, sS]
    refine takeAt 3 32 (.pointer (some ⟨b, o + 8, none⟩)) rfl rfl (by kernel_rfl) (by kernel_rfl) (by kernel_rfl) (fun _ _ _ h => h) (yields (by rfl) (fun w => by kernel_rfl)) hSb ?_
    simp only [Act.put, sA, s0, sS]
    refine takeAt 4 33 (.int .i64 x.mx) rfl rfl (by kernel_rfl) (by kernel_rfl) (by kernel_rfl) (fun _ _ _ h => h) (ldI_y b (o + 8) _ (fun _ h => h.nd.2.2.2.2.2.2.2.2.1) rfl rfl (by rfl)) hSb ?_
    simp only [Act.put, sA, s0, sS]
    refine takeAt 5 34 (.bool false) rfl rfl (by kernel_rfl) (by kernel_rfl) (by kernel_rfl) (fun _ _ _ h => h) (eq_y _ _ false hd2 rfl rfl rfl (by rfl)) hSb ?_
    simp only [Act.put, sA, s0, sS]
    refine takeAt 6 28 (.bool false) rfl rfl (by kernel_rfl) (by kernel_rfl) (by kernel_rfl) (fun _ _ _ h => h) (yields (by rfl) (fun w => by kernel_rfl)) hSb ?_
    simp only [Act.put, sA, s0, sS]
    refine wpAnyH_done (by kernel_rfl) ?_ _
    go_wp2_with fail
    have hBd : Below W1.heap.size W1 W1.drew.drew := below_drewN (Below.refl _ _) 2
    have hRw := hR1.call hJ hBd
    have hT1 := hT9.ext (Ext.call (X := X) hBd)
    have hT0 := hen.ext (Ext.call (X := X) hBd)
    obtain ⟨W2, hW2⟩ : ∃ W2, W1.drew.drew.alloc (.cells #[fnV 175 #[ptr t, ptr (w.heap.size + 1)], fnV 173 #[ptr s, ptr n, ptr (w.heap.size + 1), ptr w.heap.size, ptr bb]] 1) = W2 := ⟨_, rfl⟩
    have hB2 : Below W1.drew.drew.heap.size W1.drew.drew W2 := by rw [← hW2]; exact (Below.refl _ _).alloc (Nat.le_refl _) _
    have hn2 : BoxI X W2 1 (w.heap.size + 1 + 1) #[fnV 175 #[ptr t, ptr (w.heap.size + 1)], fnV 173 #[ptr s, ptr n, ptr (w.heap.size + 1), ptr w.heap.size, ptr bb]] := by rw [← hW2, ← (show W1.drew.drew.heap.size = w.heap.size + 1 + 1 from hs1)]; exact BoxI.new hRw.xlt _ _
    have hR2 := hRw.call hJ hB2
    have hW3 : (W1.alloc (.cells #[fnV 175 #[ptr t, ptr (w.heap.size + 1)], fnV 173 #[ptr s, ptr n, ptr (w.heap.size + 1), ptr w.heap.size, ptr bb]] 1)).drew.drew = W2 := hW2
    rw [hW3]
    clear hW3
    have HL := later_any hJ hR2 [.fin y k, .on x ra j y k] 2 2 (w.heap.size + 1 + 1) (fun i => if i = 0 then 175 else 173) (fun i => if i = 0 then #[ptr t, ptr (w.heap.size + 1)] else #[ptr s, ptr n, ptr (w.heap.size + 1), ptr w.heap.size, ptr bb]) rfl (by omega) (by have h := hbig; unfold Big at h; simp only [List.length_append, List.length_cons] at h; omega) (by exact ⟨hT0.ext (Ext.call hB2), hT1.ext (Ext.call hB2), trivial⟩) (by
     intro i hi
     match i, hi with
     | 0, _ => exact hn2.box.get 0 rfl
     | 1, _ => exact hn2.box.get 1 rfl
     ) hn2.not hn2.box.lt
    with_reducible refine HL.mono ?_
    rintro e W3 ⟨X3, ⟨z3, rfl⟩, hE3, HR3⟩
    clear HL hn2 hW2
    go_wp2_with fail
    go_end0
    refine ⟨X3, [.fin y k, .on x ra j y k], none, true, ⟨_, rfl⟩, ((hE1.trans (Ext.call hBd)).trans (Ext.call hB2)).trans hE3, by simpa using HR3, fun _ => rfl, ?_⟩
    rw [sE_cons, sE_cons, sE_nil, List.append_nil]
    rw [show tE R.s (.on x ra j y k) = evB (outsE R.s ra y) (kE R.s (.turn x ra j y.1 k)) from rfl, hKE]
    simp [tE]
   ·have hlz : lzB x = false := decide_eq_false h3
    rw [hlz] at hstep
    rw [if_neg (by decide)] at hstep
    have hmdc : W1.drew.drew.cell? ⟨b, o + 9, none⟩ = some (.int .i64 x.md) := hnd1.2.2.2.2.2.2.2.2.2.1
    have hnbc : W1.drew.drew.cell? ⟨n, 0, none⟩ = some (.pointer (some ⟨b, o, none⟩)) := hS0.nb
    have hsc : W1.drew.drew.cell? ⟨s, 0, none⟩ = some (ptr g) := (hs.ext hE1).box.get 0 rfl
    have q3 : (x.md == 1) = false := beq_eq_false_iff_ne.2 h3
    rw [hlz, hstep, evB_none, evB_app, evB_assoc, evB_none, evB_some, evB_nil, List.append_nil] at hbig ⊢
    rw [hlz] at hKE
    clear hon hstep h1 h2
    go_enter Tryz.func172, Tryz.ntmps172
    go_wp2_with fail
    try rw [hW1]
    refine wp_region_held (S := BBx w.heap.size n b o x j) (by kernel_rfl) ?_
    change wpAnyH _ _ _ _ _ _ _ _ W1.drew
    have hSa : BBx w.heap.size n b o x j W1.drew := ⟨hS0.kb, hS0.nb, hS0.nd⟩
    refine takeAt 0 18 (.int .i64 (j : Int)) rfl rfl (by kernel_rfl) (by kernel_rfl) (by kernel_rfl) (fun _ _ _ h => h) (ldI_y w.heap.size 0 _ (fun _ h => BBx.kb h) rfl rfl (by rfl)) hSa ?_
    simp only [Act.put, sA, s0, sS]
    refine takeAt 1 19 (.pointer (some ⟨b, o, none⟩)) rfl rfl (by kernel_rfl) (by kernel_rfl) (by kernel_rfl) (fun _ _ _ h => h) (ldPN_y n 0 _ (fun _ h => BBx.nb h) rfl rfl (by rfl)) hSa ?_
    simp only [Act.put, sA, s0, sS]
    refine takeAt 2 20 (.pointer (some ⟨b, o, none⟩)) rfl rfl (by kernel_rfl) (by kernel_rfl) (by kernel_rfl) (fun _ _ _ h => h) (yields (by rfl) (fun w => by kernel_rfl)) hSa ?_
    simp only [Act.put, sA, s0, sS]
    refine takeAt 3 21 (.pointer (some ⟨b, o + 7, none⟩)) rfl rfl (by kernel_rfl) (by kernel_rfl) (by kernel_rfl) (fun _ _ _ h => h) (yields (by rfl) (fun w => by kernel_rfl)) hSa ?_
    simp only [Act.put, sA, s0, sS]
    refine takeAt 4 22 (.int .i64 x.mn) rfl rfl (by kernel_rfl) (by kernel_rfl) (by kernel_rfl) (fun _ _ _ h => h) (ldI_y b (o + 7) _ (fun _ h => h.nd.2.2.2.2.2.2.2.1) rfl rfl (by rfl)) hSa ?_
    simp only [Act.put, sA, s0, sS]
    refine takeAt 5 23 (.bool false) rfl rfl (by kernel_rfl) (by kernel_rfl) (by kernel_rfl) (fun _ _ _ h => h) (lt_y _ _ false hd1 rfl rfl rfl (by rfl)) hSa ?_
    simp only [Act.put, sA, s0, sS]
    refine takeAt 6 17 (.bool false) rfl rfl (by kernel_rfl) (by kernel_rfl) (by kernel_rfl) (fun _ _ _ h => h) (yields (by rfl) (fun w => by kernel_rfl)) hSa ?_
    simp only [Act.put, sA, s0, sS]
    refine wpAnyH_done (by kernel_rfl) ?_ _
    go_wp2_with fail
    refine wp_region_held (S := BBx w.heap.size n b o x j) (by kernel_rfl) ?_
    change wpAnyH _ _ _ _ _ _ _ _ W1.drew.drew
    have hSb : BBx w.heap.size n b o x j W1.drew.drew := ⟨hS0.kb, hS0.nb, hS0.nd⟩
    refine takeAt 0 29 (.int .i64 (j : Int)) rfl rfl (by kernel_rfl) (by kernel_rfl) (by kernel_rfl) (fun _ _ _ h => h) (ldI_y w.heap.size 0 _ (fun _ h => BBx.kb h) rfl rfl (by rfl)) hSb ?_
    simp only [Act.put, sA, s0, sS]
    refine takeAt 1 30 (.pointer (some ⟨b, o, none⟩)) rfl rfl (by kernel_rfl) (by kernel_rfl) (by kernel_rfl) (fun _ _ _ h => h) (ldPN_y n 0 _ (fun _ h => BBx.nb h) rfl rfl (by rfl)) hSb ?_
    simp only [Act.put, sA, s0, sS]
    refine takeAt 2 31 (.pointer (some ⟨b, o, none⟩)) rfl rfl (by kernel_rfl) (by kernel_rfl) (by kernel_rfl) (fun _ _ _ h => h) (yields (by rfl) (fun w => by kernel_rfl)) hSb ?_
    simp only [Act.put, sA, s0, sS]
    refine takeAt 3 32 (.pointer (some ⟨b, o + 8, none⟩)) rfl rfl (by kernel_rfl) (by kernel_rfl) (by kernel_rfl) (fun _ _ _ h => h) (yields (by rfl) (fun w => by kernel_rfl)) hSb ?_
    simp only [Act.put, sA, s0, sS]
    refine takeAt 4 33 (.int .i64 x.mx) rfl rfl (by kernel_rfl) (by kernel_rfl) (by kernel_rfl) (fun _ _ _ h => h) (ldI_y b (o + 8) _ (fun _ h => h.nd.2.2.2.2.2.2.2.2.1) rfl rfl (by rfl)) hSb ?_
    simp only [Act.put, sA, s0, sS]
    refine takeAt 5 34 (.bool false) rfl rfl (by kernel_rfl) (by kernel_rfl) (by kernel_rfl) (fun _ _ _ h => h) (eq_y _ _ false hd2 rfl rfl rfl (by rfl)) hSb ?_
    simp only [Act.put, sA, s0, sS]
    refine takeAt 6 28 (.bool false) rfl rfl (by kernel_rfl) (by kernel_rfl) (by kernel_rfl) (fun _ _ _ h => h) (yields (by rfl) (fun w => by kernel_rfl)) hSb ?_
    simp only [Act.put, sA, s0, sS]
    refine wpAnyH_done (by kernel_rfl) ?_ _
    go_wp2_with fail
    have hBd : Below W1.heap.size W1 W1.drew.drew := below_drewN (Below.refl _ _) 2
    have hRw := hR1.call hJ hBd
    have hT0 := hT9.ext (Ext.call (X := X) hBd)
    have hT1 := hen.ext (Ext.call (X := X) hBd)
    obtain ⟨W2, hW2⟩ : ∃ W2, W1.drew.drew.alloc (.cells #[fnV 173 #[ptr s, ptr n, ptr (w.heap.size + 1), ptr w.heap.size, ptr bb], fnV 175 #[ptr t, ptr (w.heap.size + 1)]] 1) = W2 := ⟨_, rfl⟩
    have hB2 : Below W1.drew.drew.heap.size W1.drew.drew W2 := by rw [← hW2]; exact (Below.refl _ _).alloc (Nat.le_refl _) _
    have hn2 : BoxI X W2 1 (w.heap.size + 1 + 1) #[fnV 173 #[ptr s, ptr n, ptr (w.heap.size + 1), ptr w.heap.size, ptr bb], fnV 175 #[ptr t, ptr (w.heap.size + 1)]] := by rw [← hW2, ← (show W1.drew.drew.heap.size = w.heap.size + 1 + 1 from hs1)]; exact BoxI.new hRw.xlt _ _
    have hR2 := hRw.call hJ hB2
    have hW3 : (W1.alloc (.cells #[fnV 173 #[ptr s, ptr n, ptr (w.heap.size + 1), ptr w.heap.size, ptr bb], fnV 175 #[ptr t, ptr (w.heap.size + 1)]] 1)).drew.drew = W2 := hW2
    rw [hW3]
    clear hW3
    have HL := later_any hJ hR2 [.on x ra j y k, .fin y k] 2 2 (w.heap.size + 1 + 1) (fun i => if i = 0 then 173 else 175) (fun i => if i = 0 then #[ptr s, ptr n, ptr (w.heap.size + 1), ptr w.heap.size, ptr bb] else #[ptr t, ptr (w.heap.size + 1)]) rfl (by omega) (by have h := hbig; unfold Big at h; simp only [List.length_append, List.length_cons] at h; omega) (by exact ⟨hT0.ext (Ext.call hB2), hT1.ext (Ext.call hB2), trivial⟩) (by
     intro i hi
     match i, hi with
     | 0, _ => exact hn2.box.get 0 rfl
     | 1, _ => exact hn2.box.get 1 rfl
     ) hn2.not hn2.box.lt
    with_reducible refine HL.mono ?_
    rintro e W3 ⟨X3, ⟨z3, rfl⟩, hE3, HR3⟩
    clear HL hn2 hW2
    go_wp2_with fail
    go_end0
    refine ⟨X3, [.on x ra j y k, .fin y k], none, true, ⟨_, rfl⟩, ((hE1.trans (Ext.call hBd)).trans (Ext.call hB2)).trans hE3, by simpa using HR3, fun _ => rfl, ?_⟩
    rw [sE_cons, sE_cons, sE_nil, List.append_nil]
    rw [show tE R.s (.on x ra j y k) = evB (outsE R.s ra y) (kE R.s (.turn x ra j y.1 k)) from rfl, hKE]
    simp [tE]
end Go.Proofs.YteiboobdhjdjkaaGreatDoor.Nai
