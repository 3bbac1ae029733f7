import Derived.Test.YteggpecbeagohaaGreatDoorStpSt
import Derived.Test.YteggpecbeagohaaGreatDoorAstH
import Derived.Maps.AppendAt
namespace Go.Proofs.YteggpecbeagohaaGreatDoor.Stp
open Go.RowKit
open Go.Maps (Keyed IsMap Tidy)
open Frm (Fr Pl frC frL frI dpI putF zF Wf mayF idF I64 BoxV ptr slc plL plC MapOf owns_block owns_cell flat_get addr_add loadFr storeFr resFB getF sizeFr lawF zeroI keyF)
theorem infoPl : (Tryz.prog.info? 112).map (fun i => (i.zero, i.size, i.bytes)) = some (some (.agg (plC (zF, 0))), 6, 48) := by kernel_rfl
theorem plL_one (y : Pl) : ∀ u ∈ plL y, u.oneCell' = true := by
 intro u hu
 simp [plL] at hu
 rcases hu with rfl | rfl | rfl | rfl | rfl | rfl <;> rfl
theorem pls_one (M : List Pl) : ∀ u ∈ M.flatMap plL, u.oneCell' = true := fun u hu => by
 obtain ⟨y, -, h⟩ := List.mem_flatMap.1 hu
 exact plL_one y u h
theorem pls_len (M : List Pl) : (M.flatMap plL).length = M.length * 6 := by
 induction M with
 | nil => rfl
 | cons y M ih => rw [List.flatMap_cons, List.length_append, ih, List.length_cons]; simp [plL]; omega
set_option maxHeartbeats 1000000 in
theorem cloneP_any (b c : Nat) (M : List Pl) (w : World) (hn : M.length ≤ 1000000) (h : w.ownsRow 0 112 6 (slc b M.length c) M.length (M.flatMap plL)) :
  Calls Tryz.prog 93 #[slc b M.length c] w fun e w' => ∃ v, e = .returned v ∧ w'.ownsRow w.heap.size 112 6 v M.length (M.flatMap plL) ∧ Below w.heap.size w w' := by
 obtain ⟨i0, hi, hz0, hz1, hz2⟩ := info_parts infoPl
 have HI := Lib.hid (And.intro hi (And.intro hz0 (And.intro hz1 hz2)))
 have HC := Lib.hid (show ∀ j u, (M.flatMap plL)[j]? = some u → (w.alloc (.cells #[] 112)).cell? ((⟨b, 0, none⟩ : Addr).add j) = some u from fun j u hu => (h.alloc _).cells rfl j u hu)
 have HN := Lib.hid hn
 obtain ⟨n, en⟩ : ∃ n, M.length = n := ⟨_, rfl⟩
 have HL := Lib.hid (show (M.flatMap plL).length = n * 6 by rw [pls_len, en])
 rw [en] at HN ⊢
 have he : ∀ w, (binOp .eql 80 (slc b n c) (.slice none 0 0)).run Tryz.prog w = .ok (.bool false) w := fun w => Lib.run_eql_slice_nil (P := Tryz.prog) w 80 112 (some ⟨b, 0, none⟩) n c 0 0 Tryz.underlying80
 clear hi hz0 hz1 hz2 h hn en
 go_enter Tryz.func93, Tryz.ntmps93
 go_wp2_with (at_builtin; refine wpList_append_own _ rfl _ _ 80 rfl w.heap.size 112 i0 _ 6 48 Tryz.underlying80 HI.out.1 HI.out.2.1 HI.out.2.2.1 HI.out.2.2.2 rfl (by decide) _ _ _ rfl (Ast.own_empty w 112 6 w.heap.size (Nat.le_refl _)) ⟨b, 0, none⟩ n c (M.flatMap plL) rfl HL.out HC.out (pls_one M) (by have := HN.out; unfold maxLen; omega) (by have := HN.out; omega) (by simp) ?_)
 intro v2 w2 hown2 hgrow2 _
 have HO := Lib.hid (show w2.ownsRow w.heap.size 112 6 v2 n (M.flatMap plL) by simpa using hown2)
 have HB := Lib.hid (((Below.refl w.heap.size w).alloc (Nat.le_refl _) (.cells #[] 112)).grown hgrow2 (by simp) (fun g hg => by simp [Value.ownBlock] at hg; omega))
 clear hown2 hgrow2
 go_wp2_with fail
 go_ret
 exact ⟨_, rfl, HO.out, HB.out⟩
set_option maxHeartbeats 1000000 in
theorem owns_yes (p b m : Nat) (K : Mq) (M : List Pl) (w : World) (h : Ms w p b m K none M) :
  Calls Tryz.prog 61 #[fp p] w fun e w' => e = .returned (.bool true) ∧ Below w.heap.size w w' := by
 have H := Lib.hid h
 have HL := Lib.hid (len_any p b m K none M w h)
 obtain ⟨c, hb, -⟩ := h.box
 obtain ⟨D, hm, hD⟩ := h.map
 have h2 := hb.get 5 rfl
 have h3 := hb.get 6 rfl
 have heq : ∀ w', (binOp .eql 67 (fp p) (fp p)).run Tryz.prog w' = .ok (.bool true) w' := fun w' => by
  obtain ⟨j, hj⟩ : ∃ j, Tryz.prog.info? 83 = some j := Option.isSome_iff_exists.1 (by kernel_rfl)
  exact run_eql_ptr_same w' ⟨p, 3, none⟩ Tryz.underlying67 hj
 have h0 := h.wf.len
 have hlen := hm.len Tryz.underlying81 3
 rw [show ((Maps.size D : Nat) : Int) = (M.length : Int) - 1 by rw [hD.size]; omega] at hlen
 clear h hb hm hD h0
 go_enter Tryz.func61, Tryz.ntmps61
 go_wp2_with fail
 refine HL.out.mono ?_
 rintro e w1 ⟨rfl, hB⟩
 have BB := Lib.hid hB
 clear hB hlen heq
 go_wp2_with fail
 go_ret
 exact ⟨rfl, BB.out⟩
set_option maxHeartbeats 1000000 in
theorem owns_no (p b m q : Nat) (K : Mq) (M : List Pl) (w : World) (h : Ms w p b m K (some q) M) :
  Calls Tryz.prog 61 #[fp p] w fun e w' => e = .returned (.bool false) ∧ Below w.heap.size w w' := by
 obtain ⟨c, hb, -⟩ := h.box
 obtain ⟨hq, ⟨cs, T, hc⟩, -⟩ := h.old q rfl
 have h3 := hb.get 6 rfl
 have heq : (binOp .eql 67 (ptr q) (fp p)).run Tryz.prog w = .ok (.bool false) w := by
  obtain ⟨j, hj⟩ : ∃ j, Tryz.prog.info? 83 = some j := Option.isSome_iff_exists.1 (by kernel_rfl)
  have hsz : j.size ≠ 0 := by
   have : (Tryz.prog.info? 83).map (·.size) = some 4 := by kernel_rfl
   rw [hj] at this
   simp at this
   omega
  exact run_eql_ptr_other w Tryz.underlying67 hj hsz (fun e => hq (by injection e)) hc hb
 clear h hb hq hc
 go_enter Tryz.func61, Tryz.ntmps61
 go_wp2_with fail
 go_ret
 exact ⟨rfl, Below.refl _ _⟩
structure ButS (p b m : Nat) (w w' : World) : Prop where
 low : Below 0 w w'
 keep : ∀ j, j < w.heap.size → j ≠ p → j ≠ b → j ≠ m → w'.heap[j]? = w.heap[j]?
theorem ButS.of_below {p b m : Nat} {w w' : World} (h : Below w.heap.size w w') : ButS p b m w w' := ⟨h.mono (Nat.zero_le _), fun j hj _ _ _ => h.block j hj⟩
theorem ButS.size {p b m : Nat} {w w' : World} (h : ButS p b m w w') : w.heap.size ≤ w'.heap.size := h.low.size
theorem ButS.next {p b m : Nat} {w u v : World} (h : ButS p b m w u) (k : Below u.heap.size u v) : ButS p b m w v := ⟨h.low.trans (k.mono (Nat.zero_le _)), fun j hj h1 h2 h3 => (k.block j (by have := h.size; omega)).trans (h.keep j hj h1 h2 h3)⟩
theorem ButS.first {p b m : Nat} {w u v : World} (h : Below w.heap.size w u) (k : ButS p b m u v) : ButS p b m w v := ⟨(h.mono (Nat.zero_le _)).trans k.low, fun j hj h1 h2 h3 => (k.keep j (by have := h.size; omega) h1 h2 h3).trans (h.block j hj)⟩
theorem map_to {w w' : World} {m n : Nat} {D : DataW Unit} (h : w.ownsMap Tryz.prog 90 (plainElem Tryz.prog 3) m n D) (hk : w'.heap[m]? = w.heap[m]?) : w'.ownsMap Tryz.prog 90 (plainElem Tryz.prog 3) m n D := by
 obtain ⟨es, cl, h3, h4⟩ := h
 exact ⟨es, cl, hk.trans h3, h4⟩
theorem owns_to {w w' : World} {base base' T s b n c k : Nat} {xs : List Value} (h : w.ownsRow base T s (slc b n c) k xs) (hb : base' ≤ base) (hk : w'.heap[b]? = w.heap[b]?) : w'.ownsRow base' T s (slc b n c) k xs := by
 refine ⟨h.1, ?_⟩
 rcases h.2 with ⟨e, -⟩ | ⟨g, cap, cur, e, h0, h6, h7⟩
 ·cases e
 ·have e1 : g = b := by injection e with e1; injection e1 with e1; injection e1 with e1; exact e1.symm
  subst e1
  exact .inr ⟨g, cap, cur, e, Nat.le_trans hb h0, hk.trans h6, h7⟩
set_option maxRecDepth 100000 in
set_option maxHeartbeats 4000000 in
theorem part_any (p b m q : Nat) (K : Mq) (M : List Pl) (w : World) (h : Ms w p b m K (some q) M) :
  Calls Tryz.prog 62 #[fp p] w fun e w' => e = .returned (.tuple #[]) ∧ ∃ b' m', Ms w' p b' m' K none M ∧ w.heap.size ≤ b' ∧ w.heap.size ≤ m' ∧ ButS p b m w w' := by
 obtain ⟨-, -, rfl⟩ := h.old q rfl
 have H := Lib.hid h
 obtain ⟨c, hb, how⟩ := h.box
 have h1 := hb.get 4 rfl
 have HC := Lib.hid (cloneP_any b c _ w (by simp) how)
 have hmm : ∀ u, (Instr.makeMap 81 (some (.int .i64 0))).run Tryz.prog u = .ok (.map (some u.heap.size)) (u.alloc (.map #[] 0)) := fun u => by
  simp [Instr.makeMap, run_underlying Tryz.underlying81, asInt, asIntOf, Result.andThen]
 simp only [List.length_cons, List.length_nil, Nat.zero_add] at HC h1
 clear h hb how
 go_enter Tryz.func62, Tryz.ntmps62
 go_wp2_with fail
 refine HC.out.mono ?_
 rintro e w1 ⟨v, rfl, ho, hB⟩
 obtain ⟨b', c', rfl⟩ : ∃ b' c', v = slc b' 1 c' := by
  rcases ho.2 with ⟨-, e⟩ | ⟨g, cap, cur, e, -⟩
  ·omega
  ·exact ⟨g, cap, e⟩
 have hb' : w.heap.size ≤ b' ∧ b' < w1.heap.size := ho.lt b' rfl
 obtain ⟨c1, hb1, -⟩ := (H.out.below hB (Nat.le_refl _)).box
 have hf := hb1.free 4
 have hc := hb1.get 4 rfl
 obtain ⟨c1, hb1, -⟩ := (H.out.below hB (Nat.le_refl _)).box
 obtain ⟨w2, hw2⟩ : ∃ w2, w1.setCell ⟨p, 4, none⟩ (slc b' 1 c') = w2 := ⟨_, rfl⟩
 have HO1 := Lib.hid (And.intro hB (And.intro ho hb'))
 have M1 := Lib.hid (H.out.below hB (Nat.le_refl _))
 have hp := H.out.apart.1
 have k2 : ∀ j, j ≠ p → w2.heap[j]? = w1.heap[j]? := fun j hj => by rw [← hw2]; exact heap_setCell_other _ _ _ _ (fun e => hj e)
 have s2 : w2.heap.size = w1.heap.size := by rw [← hw2]; simp [World.setCell]
 have M2 := Lib.hid (show Ms w2 p b' m K (some q) [(zF, 0)] by
  obtain ⟨D, hm, hD⟩ := M1.out.map
  have ap := M1.out.apart
  refine ⟨⟨c', by rw [← hw2]; exact hb1.put 4 _, owns_to ho (Nat.zero_le _) (k2 b' (by omega))⟩, ⟨D, map_to hm (k2 m (by omega)), hD⟩, fun x hx => ?_, M1.out.wf, M1.out.len, M1.out.most⟩
  obtain ⟨e1, ⟨cs, T, e2⟩, e3⟩ := M1.out.old x hx
  exact ⟨e1, ⟨cs, T, (k2 x e1).trans e2⟩, e3⟩)
 have K2 := Lib.hid (And.intro k2 s2)
 have HW2 := Lib.hid hw2
 have HP := Lib.hid hp
 clear hB ho hb' HC k2 s2 hb1 hw2 hp
 go_wp2_with fail
 rw [HW2.out]
 refine (len_any p b' m K (some q) _ w2 M2.out).mono ?_
 rintro e w3 ⟨rfl, hB3⟩
 rw [show (([(zF, 0)] : List Pl).length : Int) - 1 = 0 from rfl]
 have M3 := Lib.hid (M2.out.below hB3 (Nat.le_refl _))
 obtain ⟨c3, hb3, ho3⟩ := M3.out.box
 obtain ⟨w4, hw4⟩ : ∃ w4, (w3.alloc (.map #[] 0)).setCell ⟨p, 5, none⟩ (.map (some w3.heap.size)) = w4 := ⟨_, rfl⟩
 have hb4 : BoxV 85 w4 p (mcC K b' w3.heap.size 1 c3 (ptr q)) := by rw [← hw4]; exact (hb3.alloc _).put 5 _
 have a5 := (hb3.alloc (.map #[] 0)).free 5
 have a5c := (hb3.alloc (.map #[] 0)).get 5 rfl
 have a4c := hb4.get 4 rfl
 have a6 := hb4.free 6
 have a6c := hb4.get 6 rfl
 have HH3 := Lib.hid (And.intro hB3 (And.intro ho3 (And.intro hb3 (And.intro hw4 hb4))))
 clear hB3 ho3 hb3 hb4
 go_wp2_with fail
 all_goals
  go_loopw [24] (fun i wr => i = .int .i64 0 ∧ RowKit.Hid (wr = w4)) (fun i _ => 0)
  case atStart => exact ⟨rfl, Lib.hid rfl⟩
  case round =>
   obtain ⟨rfl, e⟩ := hrel
   obtain rfl := e.out
   clear e
   go_wp2_with fail
   go_end0
   obtain ⟨hB3, ho3, hb3, hw4, hb4⟩ := HH3.out
   obtain ⟨hB, ho, hb'⟩ := HO1.out
   obtain ⟨k2, s2⟩ := K2.out
   have hp := HP.out
   have s3 := hB3.size
   have s1 := hB.size
   have ap3 := M3.out.apart
   have k4 : ∀ j, j ≠ p → wr.heap[j]? = (w3.alloc (.map #[] 0)).heap[j]? := fun j hj => by rw [← hw4]; exact heap_setCell_other _ _ _ _ (fun e => hj e)
   have k5 : ∀ j, j ≠ p → (wr.setCell ⟨p, 6, none⟩ (fp p)).heap[j]? = wr.heap[j]? := fun j hj => heap_setCell_other _ _ _ _ (fun e => hj e)
   have k43 : ∀ j, j ≠ p → j < w3.heap.size → (wr.setCell ⟨p, 6, none⟩ (fp p)).heap[j]? = w3.heap[j]? := fun j h1 h2 => (k5 j h1).trans ((k4 j h1).trans (Below.heap_alloc _ _ _ h2))
   refine ⟨rfl, b', w3.heap.size, ⟨⟨c3, hb4.put 6 _, owns_to ho3 (Nat.le_refl _) (k43 b' (by omega) (by omega))⟩, ⟨.map [], ⟨#[], 0, ?_, ⟨by simp, MapKept.stamped_empty 0, by simp⟩, Nat.zero_le _, rfl⟩, .made⟩, (fun x hx => nomatch hx), M3.out.wf, M3.out.len, M3.out.most⟩, hb'.1, by omega, ?_, fun j j1 j2 j3 j4 => ?_⟩
   ·rw [k5 _ (by omega), k4 _ (by omega)]
    exact heap_alloc_new _ _
   ·have h4 : Below 0 w3 wr := hw4 ▸ ((Below.refl 0 w3).alloc (Nat.zero_le _) _).setCell (Nat.zero_le _) _
    have h2 : Below 0 w1 w2 := HW2.out ▸ (Below.refl 0 w1).setCell (Nat.zero_le _) _
    exact (hB.mono (Nat.zero_le _)).trans (h2.trans ((hB3.mono (Nat.zero_le _)).trans (h4.trans ((Below.refl 0 wr).setCell (Nat.zero_le _) _))))
   ·rw [k43 j j2 (by omega), hB3.block j (by omega), k2 j j2, hB.block j j1]
end Go.Proofs.YteggpecbeagohaaGreatDoor.Stp
