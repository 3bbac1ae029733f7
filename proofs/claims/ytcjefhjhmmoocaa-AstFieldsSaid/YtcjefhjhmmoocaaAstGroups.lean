/-
  Layer 5: what the landed package ast does: groupsAsTheyBegin.
-/
import Derived.Test.YtcjefhjhmmoocaaAstSortDef
import Derived.Test.YtcjefhjhmmoocaaAstNums
namespace Go.Proofs.Ytcjefhjhmmoocaa
open Go.RowKit

/-- A slice reads as places. -/
def IdxS (w : World) (A : Option Addr) (L : List Nat) : Prop := ∀ j, j < L.length → ∃ g, A = some ⟨g, 0, none⟩ ∧ g < w.heap.size ∧ w.cell? ⟨g, j, none⟩ = some (.int .i64 (L.getD j 0 : Nat))
theorem IdxS.call {w u : World} {A : Option Addr} {L : List Nat} (h : IdxS w A L) (hb : Below w.heap.size w u) : IdxS u A L := fun j hj => by
  obtain ⟨g, h1, h2, h3⟩ := h j hj
  exact ⟨g, h1, Nat.lt_of_lt_of_le h2 hb.size, (hb.cell (p := ⟨g, j, none⟩) h2).trans h3⟩
theorem idx_succ (l : Nat → Nd) (k : Nat) (h : (l k).k = 11) : idxL (gix l (k + 1)) = idxL (gix l k) ++ [.int .i64 (k : Int)] := by
  unfold idxL
  show ((gix l k ++ (if (l k).k = 11 then [k] else [])).map _) = _
  rw [if_pos h, List.map_append]
  rfl
theorem idx_same (l : Nat → Nd) (k : Nat) (h : (l k).k ≠ 11) : gix l (k + 1) = gix l k := by
  show gix l k ++ (if (l k).k = 11 then [k] else []) = _
  rw [if_neg h, List.append_nil]
theorem idx_len (L : List Nat) : (idxL L).length = L.length := List.length_map _
theorem grp_gix {l : Nat → Nd} {n : Nat} (hs : siz l n = n) (h0 : 0 < n) : (grp l n).length = (gix l n).length := by
  have hg := gix_perm l n (by omega)
  rw [hs, show n - n = 0 by omega] at hg
  have := hg.length_eq
  simpa [gix] using this.symm
def GrpPost (l : Nat → Nd) (n : Nat) (w : World) (e : Ending) (w' : World) : Prop := ∃ A cap, e = .returned (.slice A (grp l n).length cap) ∧ IdxS w' A (grp l n) ∧ Below w.heap.size w w'

set_option maxHeartbeats 4000000 in
theorem groupsBegin_any (hS : SortOk) (hN : SortNone) (A : Option Addr) (n cap : Nat) (l : Nat → Nd) (w : World) (hn : n ≤ 1000000) (h0 : 0 < n) (hs : siz l n = n) (hl : Nodes w A n l) :
    Calls Try.prog 46 #[.slice A n cap] w (GrpPost l n w) := by
  have HL := Lib.hid hl
  have HS := Lib.hid hs
  have HH := Lib.hid hS
  have HN := Lib.hid hN
  have H0 := Lib.hid h0
  obtain ⟨i0, hi, hz0, hz1, hz2⟩ := info_parts infoI
  have HI := Lib.hid (And.intro hi (And.intro hz0 (And.intro hz1 hz2)))
  clear hl hs hS hN hi hz0 hz1 hz2
  go_enter Try.func46, Try.ntmps46
  go_wp2_with fail
  go_loopw [3, 10] (fun v i wr => ∃ k : Nat, k ≤ n ∧ i = .int .i64 k ∧ wr.ownsRow w.heap.size 3 1 v (gix l k).length (idxL (gix l k)) ∧ Below w.heap.size w wr) (fun _ i _ => n - (intOf i).toNat)
  case atStart => exact ⟨0, Nat.zero_le _, rfl, World.ownsRow_nil _ _ _ _, Below.refl _ _⟩
  case round =>
    obtain ⟨k, hk, rfl, hown, hb⟩ := hrel
    have HO := Lib.hid hown
    have HB := Lib.hid hb
    clear hown hb
    by_cases hlt : k < n
    · obtain ⟨b, o, rfl, hx⟩ := (HL.out.below HB.out (Nat.le_refl _)).at_ (by omega)
      obtain ⟨c0, c1, c2, c3, c4, c5, c6, c7, c8, c9, c10, c11⟩ := hx.2 k hlt
      clear hx
      by_cases h11 : (l k).k = 11
      · have HE := Lib.hid (idx_succ l k h11)
        have HLN := Lib.hid (gix_len l k)
        have HL1 := Lib.hid (show (gix l (k + 1)).length = (gix l k).length + 1 by have := congrArg List.length (idx_succ l k h11); simpa [idxL] using this)
        rw [h11] at c0
        clear h11
        go_wp2_with (at_builtin; refine wpList_append_own _ rfl _ _ 62 rfl w.heap.size 3 i0 _ 1 8 Try.underlying62 HI.out.1 HI.out.2.1 HI.out.2.2.1 HI.out.2.2.2 rfl (by decide) _ _ _ rfl ((HO.out.alloc _).alloc _) ⟨wr.heap.size + 1, 0, none⟩ 1 1 [.int .i64 (k : Int)] rfl rfl (by simpa using nums_one (wr.alloc _) (k : Int)) (by intro u hu; simp at hu; subst hu; rfl) (by unfold maxLen; have := HLN.out; omega) (by have := HLN.out; omega) (by have := HB.out.size; simp; omega) ?_)
        intro v2 w2 hown2 hgrow2 _
        have HO2 := Lib.hid (show w2.ownsRow w.heap.size 3 1 v2 (gix l (k + 1)).length (idxL (gix l (k + 1))) by rw [HE.out, HL1.out]; exact hown2)
        have HB2 := Lib.hid (((HB.out.alloc HB.out.size _).alloc (by simp; have := HB.out.size; omega) _).grown hgrow2 (by simp; have := HB.out.size; omega) (fun g hg => (HO.out.lt g hg).1))
        clear hown2 hgrow2
        go_wp2_with fail
        go_roundw
        case rel => exact ⟨k + 1, by omega, by go_num, HO2.out, HB2.out⟩
        case measure => simp [intOf]; omega
      · have q : ((l k).k == 11) = false := by simpa using h11
        have HE := Lib.hid (idx_same l k h11)
        clear h11
        go_wp2_with fail
        go_roundw
        case rel => exact ⟨k + 1, by omega, by go_num, by rw [HE.out]; exact HO.out.alloc _, HB.out.alloc HB.out.size _⟩
        case measure => simp [intOf]; omega
    · obtain rfl : n = k := by omega
      go_wp2_with fail
      (with_reducible refine (begins_any A n cap l _ hn (HL.out.below HB.out (Nat.le_refl _))).mono ?_)
      rintro e w1 ⟨hb1, h⟩
      have hg : goodB l n = true := by unfold goodB; simp; exact ⟨h0, HS.out⟩
      rcases h with ⟨-, rfl, hrow⟩ | ⟨hg', -⟩
      · have B1 := Lib.hid (thenB HB.out hb1 HB.out.size)
        have O1 := Lib.hid (own_call HO.out hb1)
        have R1 := Lib.hid (hrow.alloc (.cells #[.slice (some ⟨wr.heap.size, 0, none⟩) n n] 62))
        have HLT := Lib.hid (show ∀ k, u3.ownBlock = some k → w.heap.size ≤ k ∧ k < wr.heap.size from HO.out.lt)
        have HLT1 := Lib.hid (show wr.heap.size < w1.heap.size from hrow.lt)
        clear hb1 hrow hg
        have BL := Lib.hid (show Below w.heap.size w (w1.alloc (.cells #[.slice (some ⟨wr.heap.size, 0, none⟩) n n] 62)) from B1.out.alloc B1.out.size _)
        have GG := Lib.hid (grp_gix HS.out h0)
        rcases HO.out.2 with ⟨rfl, hz⟩ | ⟨g, cp, cur, rfl, hbase, -⟩
        · go_wp2_with fail
          refine (HN.out none 0 _ _).mono ?_
          rintro e w2 ⟨rfl, rfl⟩
          go_wp2_with fail
          go_ret
          exact ⟨none, 0, by rw [GG.out, hz]; rfl, fun j hj => by rw [GG.out, hz] at hj; omega, BL.out⟩
        · have hgl : g < wr.heap.size := (HLT.out g rfl).2
          have O2 := Lib.hid (O1.out.alloc (.cells #[.slice (some ⟨wr.heap.size, 0, none⟩) n n] 62))
          have CON := Lib.hid (HH.out l n w1.heap.size wr.heap.size g cp (w1.alloc (.cells #[.slice (some ⟨wr.heap.size, 0, none⟩) n n] 62)) h0 hn HS.out (by simp) (cell_of_one (heap_alloc_new w1 _)) R1.out (by have := HLT1.out; simp; omega) (by have := HLT1.out; omega) (by omega) (fun j hj => ⟨O2.out.cellAt j (by omega), O2.out.frozenAt j⟩))
          go_wp2_with fail
          refine CON.out.mono ?_
          rintro e w2 ⟨rfl, hgr, hcell⟩
          have B2 := Lib.hid (BL.out.grown hgr BL.out.size (fun k hk => by cases hk; exact hbase))
          have SZ := Lib.hid (show w1.heap.size < w2.heap.size by have := hgr.size; simp at this; omega)
          have HC := Lib.hid hcell
          clear hgr hcell
          go_wp2_with fail
          go_ret
          refine ⟨some ⟨g, 0, none⟩, cp, by rw [GG.out]; rfl, fun j hj => ⟨g, rfl, by have := SZ.out; have := HLT1.out; omega, ?_⟩, B2.out⟩
          rw [HC.out j (by rw [← GG.out]; exact hj)]
          unfold idxL
          rw [List.getElem?_map, List.getElem?_eq_getElem hj]
          simp only [List.getD, List.getElem?_eq_getElem hj]
          rfl
      · rw [hg] at hg'; cases hg'
end Go.Proofs.Ytcjefhjhmmoocaa
