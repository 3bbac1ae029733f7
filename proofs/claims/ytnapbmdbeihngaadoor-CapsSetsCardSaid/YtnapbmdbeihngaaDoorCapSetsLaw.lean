/-
  Layer 10, the statement CapsSets: its walk.
-/
import Derived.Test.YtnapbmdbeihngaaDoorCapOrderLaw
namespace Go.Proofs.YtnapbmdbeihngaaDoor
open Go.RowKit

/-- A slice of three bytes each. -/
structure Tri where
  u : Nat
  x : Nat
  y : Nat
def TriAt (w : World) (b o : Nat) (t : Tri) : Prop := w.cell? ⟨b, o, none⟩ = some (.int .u8 (t.u : Int)) ∧ w.cell? ⟨b, o + 1, none⟩ = some (.int .u8 (t.x : Int)) ∧ w.cell? ⟨b, o + 2, none⟩ = some (.int .u8 (t.y : Int)) ∧ t.u < 256 ∧ t.x < 256 ∧ t.y < 256
def Tris (w : World) (A : Option Addr) (n : Nat) (l : Nat → Tri) : Prop := ∀ i, i < n → ∃ b o, A = some ⟨b, o, none⟩ ∧ b < w.heap.size ∧ TriAt w b (o + i * 3) (l i)
theorem Tris.below {w u : World} {A : Option Addr} {n : Nat} {l : Nat → Tri} (h : Tris w A n l) (hb : Below w.heap.size w u) : Tris u A n l := fun i hi => by
  obtain ⟨b, o, h1, h2, h3, h4, h5, h6⟩ := h i hi
  have hk : ∀ j, u.cell? ⟨b, j, none⟩ = w.cell? ⟨b, j, none⟩ := fun j => hb.cell (p := ⟨b, j, none⟩) h2
  exact ⟨b, o, h1, Nat.lt_of_lt_of_le h2 hb.size, by rw [hk]; exact h3, by rw [hk]; exact h4, by rw [hk]; exact h5, h6⟩
theorem get_set (c : Cp) (u : Nat) (a b : Int) : getZ (c.set (u % 9) a b) (1 + (u : Int) % 9) = some (a, b) := by
  unfold getZ
  have e : (1 + (u : Int) % 9 - 1).toNat = u % 9 := by omega
  rw [e, if_pos ⟨⟨by omega, by omega⟩, by rw [set_is, if_pos rfl]⟩]
  unfold Cp.set
  simp
theorem get_else (c : Cp) (u : Nat) (a b : Int) (j : Nat) (hj : (j : Int) ≠ 1 + (u : Int) % 9) : getZ (c.set (u % 9) a b) (j : Int) = getZ c (j : Int) := by
  unfold getZ
  by_cases hg : grpP (j : Int)
  · have hne : ((j : Int) - 1).toNat ≠ u % 9 := by obtain ⟨g1, g2⟩ := hg; omega
    generalize ((j : Int) - 1).toNat = k at hne
    rw [set_is, if_neg hne]
    unfold Cp.set
    simp [hne]
  · rw [if_neg (fun e => hg e.1), if_neg (fun e => hg e.1)]
/-- What stays, and the box of the groups. -/
def SSt2 (C : Cp) (w0 w : World) : Prop := Below w0.heap.size w0 w ∧ BoxV 26 w w0.heap.size (cpC C)
theorem SSt2.call {C : Cp} {w0 w w' : World} (h : SSt2 C w0 w) (hb : Below w.heap.size w w') : SSt2 C w0 w' :=
  ⟨thenB h.1 hb h.1.size, h.2.below hb h.2.lt⟩
set_option maxRecDepth 100000 in
set_option maxHeartbeats 16000000 in
theorem capsSets_any (L : LibOk) (A : Option Addr) (n cap : Nat) (l : Nat → Tri) (w : World) (hl : Tris w A n l) (hw : PowOk w) :
    Calls Tryd.prog 4 #[.slice A n cap] w fun e w' => e = .returned (.bool true) ∧ Below w.heap.size w w' := by
  have HWI := Lib.hid (fun (c : Cp) (u x y : Nat) (hx : x < 256) (hy : y < 256) w => (show Calls Tryd.prog 9 #[.agg (cpC c), .int .i64 (1 + (u : Int) % 9), .int .i64 (x : Int), .int .i64 ((x : Int) + (y : Int))] w fun e w' => e = .returned (capE (c.set (u % 9) x ((x : Int) + (y : Int))) 0) ∧ Below w.heap.size w w' from by
    have h := with_any c (1 + (u : Int) % 9) (x : Int) ((x : Int) + (y : Int)) w
    rw [withZ_in c u x y hx hy] at h
    exact h))
  have HG := Lib.hid (fun (c : Cp) (g x y : Int) (b : Bool) (hx : plX c g = x) (hy : plY c g = y) (hb : plB c g = b) w => (show Calls Tryd.prog 11 #[.agg (cpC c), .int .i64 g] w fun e w' => e = .returned (.tuple #[.int .i64 x, .int .i64 y, .bool b]) ∧ Below w.heap.size w w' from by
    have h := get_any c g w
    rw [hx, hy, hb] at h
    exact h))
  have HF := Lib.hid (fun w h => fixed_any L w h)
  have HL := Lib.hid hl
  have HW := Lib.hid hw
  clear hw hl L
  go_enter Tryd.func4, Tryd.ntmps4
  go_wp2_with (refine storeC rfl _ _ rfl w.heap.size zrC (cpC zrC) rfl rfl (by rfl) (BoxV.new w _) ?_; intro u0 hu hbu ho; refine StopS.out ?_)
  have HS := Lib.hid (show SSt2 zrC w u0 from ⟨((Below.refl w.heap.size w).alloc (Nat.le_refl _) _).trans (hbu.out w.heap.size (Nat.le_refl _)), hu.out⟩)
  clear hu hbu ho
  refine ⟨?_⟩
  go_wp2_with fail
  go_loopw [4, 5] (fun e i wr => ∃ (k : Nat) (C : Cp), k ≤ n ∧ i = .int .i64 (k : Int) ∧ e = .int .i64 0 ∧ Hid (SSt2 C w wr)) (fun _ i _ => n - (intOf i).toNat)
  case atStart => exact ⟨0, zrC, Nat.zero_le _, rfl, rfl, HS⟩
  case round =>
    obtain ⟨k, C, hk, rfl, rfl, HSR⟩ := hrel
    by_cases hlt : k < n ∧ k < 20
    · obtain ⟨hkn, hk20⟩ := hlt
      obtain ⟨b, o, rfl, hbl, c0, c1, c2, hu, hx, hy⟩ := (HL.out.below HSR.out.1) k hkn
      have HD := Lib.hid (HWI.out C (l k).u (l k).x (l k).y hx hy)
      have HGD := Lib.hid (fun w => HG.out (C.set ((l k).u % 9) ((l k).x : Int) (((l k).x : Int) + ((l k).y : Int))) (1 + ((l k).u : Int) % 9) ((l k).x : Int) (((l k).x : Int) + ((l k).y : Int)) true (by unfold plX; rw [get_set]) (by unfold plY; rw [get_set]) (by unfold plB; rw [get_set]; rfl) w)
      have HGE := Lib.hid (fun (j : Nat) (hj : (j : Int) ≠ 1 + ((l k).u : Int) % 9) w => HG.out (C.set ((l k).u % 9) ((l k).x : Int) (((l k).x : Int) + ((l k).y : Int))) (j : Int) (plX C (j : Int)) (plY C (j : Int)) (plB C (j : Int)) (by unfold plX; rw [get_else _ _ _ _ _ hj]) (by unfold plY; rw [get_else _ _ _ _ _ hj]) (by unfold plB; rw [get_else _ _ _ _ _ hj]) w)
      have HGC := Lib.hid (fun (j : Nat) w => HG.out C (j : Int) _ _ _ rfl rfl rfl w)
      have HGA := Lib.hid (fun (j : Nat) w => HG.out (C.set ((l k).u % 9) ((l k).x : Int) (((l k).x : Int) + ((l k).y : Int))) (j : Int) _ _ _ rfl rfl rfl w)
      generalize C.set ((l k).u % 9) ((l k).x : Int) (((l k).x : Int) + ((l k).y : Int)) = D at HD HGD HGE HGA
      generalize (l k).u = u at c0 hu HD HGD HGE
      generalize (l k).x = x at c1 hx HD HGD
      generalize (l k).y = y at c2 hy HD HGD
      clear hbl
      go_wp2_with fail
      go_quiet (fail)
      generalize hg : World.drewN _ _ = v0
      replace HSR := Lib.hid (show SSt2 C w v0 by rw [← hg]; exact ⟨below_drewN HSR.out.1 _, HSR.out.2⟩)
      have hcell : ∀ j, v0.cell? ⟨b, j, none⟩ = wr.cell? ⟨b, j, none⟩ := fun j => by rw [← hg]; rfl
      rw [← hcell] at c0 c1 c2
      clear hcell hg
      go_wp2_with (refine loadC rfl _ rfl w.heap.size C rfl HSR.out.2 ?_)
      refine (HD.out _).mono ?_
      rintro e w1 ⟨rfl, hb⟩
      replace HSR := Lib.hid (HSR.out.call hb)
      clear hb HD c0 c1 c2
      go_wp2_with (refine storeC rfl _ _ rfl w1.heap.size D (cpC zrC) rfl rfl (by rfl) (BoxV.new w1 _) ?_; intro u1 hu1 hbu ho; refine StopS.out ?_)
      have hb := ((Below.refl w1.heap.size w1).alloc (Nat.le_refl _) _).trans (hbu.out _ (Nat.le_refl _))
      have hgd : w.heap.size ≠ w1.heap.size := by have := HSR.out.2.lt; omega
      have HGD1 := Lib.hid hgd
      replace HSR := Lib.hid (HSR.out.call hb)
      have HDB := Lib.hid hu1.out
      clear hb hu1 hbu ho hgd
      refine ⟨?_⟩
      go_wp2_with (refine loadC rfl _ rfl w1.heap.size D rfl HDB.out ?_)
      refine (HGD.out _).mono ?_
      rintro e w2 ⟨rfl, hb⟩
      replace HSR := Lib.hid (HSR.out.call hb)
      replace HDB := Lib.hid (HDB.out.below hb HDB.out.lt)
      clear hb HGD
      go_wp2_with fail
      go_loopw [14] (fun i wr => ∃ j : Nat, 1 ≤ j ∧ j ≤ 10 ∧ i = .int .i64 (j : Int) ∧ Hid (SSt2 C w wr) ∧ Hid (BoxV 26 wr w1.heap.size (cpC D))) (fun i _ => 10 - (intOf i).toNat)
      case atStart => exact ⟨1, by omega, by omega, rfl, HSR, HDB⟩
      case round =>
        obtain ⟨j, hj1, hj10, rfl, HSI, HDI⟩ := hrel
        by_cases hj : j ≤ 9
        · go_wp2_with (refine loadC rfl _ rfl w.heap.size C rfl HSI.out.2 ?_)
          refine (HGC.out j _).mono ?_
          rintro e w3 ⟨rfl, hb⟩
          replace HSI := Lib.hid (HSI.out.call hb)
          replace HDI := Lib.hid (HDI.out.below hb HDI.out.lt)
          clear hb
          by_cases hg : (j : Int) = 1 + (u : Int) % 9
          · have hq : ((j : Int) != 1 + (u : Int) % 9) = false := by rw [bne_eq_false_iff_eq]; exact hg
            clear hg
            go_wp2_with (refine loadC rfl _ rfl w1.heap.size D rfl HDI.out ?_)
            refine (HGA.out j _).mono ?_
            rintro e w4 ⟨rfl, hb⟩
            replace HSI := Lib.hid (HSI.out.call hb)
            replace HDI := Lib.hid (HDI.out.below hb HDI.out.lt)
            clear hb
            go_wp2_with fail
            go_roundw
            case rel => exact ⟨j + 1, by omega, by omega, by go_num, HSI, HDI⟩
            case measure => simp [intOf]; omega
          · have hq : ((j : Int) != 1 + (u : Int) % 9) = true := by rw [bne_iff_ne]; exact hg
            have HGJ := Lib.hid (HGE.out j hg)
            clear hg
            go_wp2_with (refine loadC rfl _ rfl w1.heap.size D rfl HDI.out ?_)
            refine (HGJ.out _).mono ?_
            rintro e w4 ⟨rfl, hb⟩
            replace HSI := Lib.hid (HSI.out.call hb)
            replace HDI := Lib.hid (HDI.out.below hb HDI.out.lt)
            clear hb HGJ
            go_wp2_with fail
            go_roundw
            case rel => exact ⟨j + 1, by omega, by omega, by go_num, HSI, HDI⟩
            case measure => simp [intOf]; omega
        · go_wp2_with (first | (refine loadC rfl _ rfl w1.heap.size D rfl HDI.out ?_) | (refine storeC rfl _ _ rfl w.heap.size D (cpC C) rfl rfl (by rfl) HSI.out.2 ?_; intro u5 hu5 hbu ho; refine StopS.out ?_))
          have HS5 := Lib.hid (show SSt2 D w u5 from ⟨HSI.out.1.trans (hbu.out _ (Nat.le_refl _)), hu5.out⟩)
          clear hu5 hbu ho
          refine ⟨?_⟩
          go_wp2_with fail
          go_roundw
          case rel => exact ⟨k + 1, D, by omega, by go_num, rfl, HS5⟩
          case measure => simp [intOf]; omega
    · have hfin : ¬ k < n ∨ k < n ∧ ¬ k < 20 := by omega
      clear hlt
      rcases hfin with h | ⟨h, h2⟩
      all_goals
        go_wp2_with fail
        refine (HF.out _ (HW.out.call HSR.out.1)).mono ?_
        rintro e w6 ⟨rfl, hb⟩
        replace HSR := Lib.hid (HSR.out.call hb)
        clear hb
        go_wp2_with fail
        go_ret
        exact ⟨rfl, HSR.out.1⟩
end Go.Proofs.YtnapbmdbeihngaaDoor
