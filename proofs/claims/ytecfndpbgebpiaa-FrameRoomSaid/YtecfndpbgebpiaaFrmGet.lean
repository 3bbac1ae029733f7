/-
  Layer 12: the landed calls that only read: Get, mayBe, owns.
-/
import Derived.Test.YtecfndpbgebpiaaFrmSt
import Derived.Laws.ResultCell
import Derived.LaidEqlPtr
namespace Go.Proofs.Ytecfndpbgebpiaa
open Go.RowKit
open Go.Maps (Keyed IsMap Tidy)

theorem resFB {fn : Func} {p q : Tmp} {b : Bool} {f : Fr} {w : World} (h : fn.results = #[.cell p 33, .tmp q]) (tmps : Array Value) {g : Nat} (hp : tmps.getD p undef = ptr g) (hq : tmps.getD q undef = .bool b) (hg : BoxV 33 w g (frC f)) :
    (results fn tmps).run Try.prog w = .ok (.tuple #[.agg (frC f), .bool b]) w := by
  rw [results_cell_tmp h, hp, hq]
  have hl := run_loadVar_row (P := Try.prog) w g 33 33 (frC f) (0, 0) _ hg Try.underlying33 rfl sizeFr
  simp [asAddr, hl, Result.andThen]

set_option maxHeartbeats 1000000 in
theorem get_any (p b m : Nat) (most : Int) (M : List Pl) (z : Int) (w : World) (h : St w p b m most M) :
    Calls Try.prog 13 #[ptr p, .int .i64 z] w fun e w' => e = .returned (.tuple #[.agg (frC (getF M z)), .bool (decide (0 ≤ z ∧ z < M.length))]) ∧ Below w.heap.size w w' := by
  obtain ⟨wa, hwa⟩ : ∃ wa, w.alloc (.cells #[.int .i64 0, .int .i64 0, .int .i64 0, .int .i64 0, .int .i64 0] 33) = wa := ⟨_, rfl⟩
  have hB0 : Below w.heap.size w wa := hwa ▸ (Below.refl _ w).alloc (Nat.le_refl _) _
  have hz0 : BoxV 33 wa w.heap.size (frC zF) := hwa ▸ BoxV.new w _
  have H := Lib.hid (h.below hB0 (Nat.le_refl _))
  have B0 := Lib.hid hB0
  have Z0 := Lib.hid hz0
  have HS := Lib.hid (show wa.heap.size = w.heap.size + 1 by rw [← hwa]; simp)
  clear h hB0 hz0
  by_cases k : 0 ≤ z ∧ z < M.length
  · obtain ⟨i, rfl⟩ : ∃ i : Nat, z = i := ⟨z.toNat, by omega⟩
    have hi : i < M.length := by omega
    have ev : getF M (i : Int) = frI M i := by unfold getF; rw [if_pos k]; rfl
    have dk : decide (0 ≤ (i : Int) ∧ (i : Int) < M.length) = true := decide_eq_true k
    rw [ev, dk]
    have hc := has_any p b m most M (i : Int) wa H.out
    rw [dk] at hc
    have HC := Lib.hid hc
    clear hc dk ev k
    go_enter Try.func13, Try.ntmps13
    go_wp2_with fail
    try rw [hwa]
    refine HC.out.mono ?_
    rintro e w1 ⟨rfl, hB⟩
    have H1 := Lib.hid (H.out.below hB (Nat.le_refl _))
    have BB := Lib.hid (thenB B0.out hB (by have := HS.out; omega))
    have Z1 := Lib.hid (Z0.out.below hB (by have := HS.out; omega))
    have FR := Lib.hid (H1.out.frame hi)
    obtain ⟨c1, hb1, -⟩ := H1.out.box
    have h1 := hb1.get 1 rfl
    clear hb1 hB hwa
    have i0 : (0 : Int) ≤ i := by omega
    have i1 : (i : Int) < M.length := by omega
    go_wp2_with (first | (refine loadFr rfl _ rfl b _ (frI M i) rfl FR.out ?_) | (refine storeFr rfl _ _ rfl w.heap.size zF (frI M i) rfl rfl Z1.out ?_; intro u HZ HB))
    refine bodyPost_ret (resFB (b := true) (f := frI M i) rfl _ (g := w.heap.size) rfl rfl HZ.out) rfl ?_
    exact ⟨rfl, BB.out.trans (HB.out _ (Nat.le_refl _))⟩
  · have ev : getF M z = zF := by unfold getF; rw [if_neg k]
    have dk : decide (0 ≤ z ∧ z < M.length) = false := decide_eq_false k
    rw [ev, dk]
    have hc := has_any p b m most M z wa H.out
    rw [dk] at hc
    have HC := Lib.hid hc
    clear hc dk ev k
    go_enter Try.func13, Try.ntmps13
    go_wp2_with fail
    try rw [hwa]
    refine HC.out.mono ?_
    rintro e w1 ⟨rfl, hB⟩
    have BB := Lib.hid (thenB B0.out hB (by have := HS.out; omega))
    have Z1 := Lib.hid (Z0.out.below hB (by have := HS.out; omega))
    clear hB hwa
    go_wp2_with (refine storeFr rfl _ _ rfl w.heap.size zF zF rfl rfl Z1.out ?_; intro u HZ HB)
    refine bodyPost_ret (resFB (b := false) (f := zF) rfl _ (g := w.heap.size) rfl rfl HZ.out) rfl ?_
    exact ⟨rfl, BB.out.trans (HB.out _ (Nat.le_refl _))⟩

set_option maxHeartbeats 2000000 in
theorem mayBe_any (p b m : Nat) (most : Int) (M : List Pl) (f : Fr) (w : World) (h : St w p b m most M) :
    Calls Try.prog 19 #[ptr p, .agg (frC f)] w fun e w' => e = .returned (.bool (mayF M.length f)) ∧ Below w.heap.size w w' := by
  obtain ⟨k, n, t, fr, x⟩ := f
  obtain ⟨r, hr⟩ : ∃ r, r = mayF M.length ⟨k, n, t, fr, x⟩ := ⟨_, rfl⟩
  obtain ⟨wa, hwa⟩ : ∃ wa, w.alloc (.cells #[.int .i64 k, .int .i64 n, .int .i64 t, .int .i64 fr, .int .i64 x] 33) = wa := ⟨_, rfl⟩
  have hB0 : Below w.heap.size w wa := hwa ▸ (Below.refl _ w).alloc (Nat.le_refl _) _
  have H := Lib.hid (h.below hB0 (Nat.le_refl _))
  have HC := Lib.hid (has_any p b m most M x wa H.out)
  have B0 := Lib.hid hB0
  have HS := Lib.hid (show wa.heap.size = w.heap.size + 1 by rw [← hwa]; simp)
  have HR := Lib.hid hr
  have BN := Lib.hid (show Below w.heap.size w (w.alloc (.cells #[.int .i64 k, .int .i64 n, .int .i64 t, .int .i64 fr, .int .i64 x] 33)) from (Below.refl _ w).alloc (Nat.le_refl _) _)
  have RF : RowKit.Hid (¬ ((k = 1 ∨ k = 2 ∨ k = 3) ∧ 0 ≤ n ∧ 0 ≤ t ∧ 0 ≤ fr) → r = false) := Lib.hid fun q => by
    rw [hr]; unfold mayF; exact decide_eq_false fun q2 => q ⟨q2.1, q2.2.1, q2.2.2.1, q2.2.2.2.1⟩
  have RT : RowKit.Hid ((k = 1 ∨ k = 2 ∨ k = 3) ∧ 0 ≤ n ∧ 0 ≤ t ∧ 0 ≤ fr → r = decide (0 ≤ x ∧ x < M.length)) := Lib.hid fun q => by
    rw [hr]; unfold mayF; exact decide_eq_decide.2 ⟨fun q2 => q2.2.2.2.2, fun q2 => ⟨q.1, q.2.1, q.2.2.1, q.2.2.2, q2⟩⟩
  have HWA := Lib.hid hwa
  rw [← hr]
  clear h hB0 hr hwa
  by_cases hk : k = 1 ∨ k = 2 ∨ k = 3
  · have HK := Lib.hid hk
    by_cases h1 : 0 ≤ n
    · by_cases h2 : 0 ≤ t
      · by_cases h3 : 0 ≤ fr
        · have RV := Lib.hid (RT.out ⟨hk, h1, h2, h3⟩)
          rcases hk with rfl | rfl | rfl
          all_goals
            go_enter Try.func19, Try.ntmps19
            go_wp2_with fail
            rw [HWA.out]
            refine HC.out.mono ?_
            rintro e w1 ⟨rfl, hB⟩
            rw [← RV.out]
            have BB := Lib.hid (thenB B0.out hB (by have := HS.out; omega))
            clear hB
            clear RV RT RF HR H HC
            cases r
            all_goals
              go_wp2_with fail
              go_ret
              exact ⟨rfl, BB.out⟩
        · have RV := Lib.hid (RF.out (fun q => h3 q.2.2.2))
          rcases hk with rfl | rfl | rfl
          all_goals
            rw [RV.out]
            go_enter Try.func19, Try.ntmps19
            go_wp2_with fail
            go_ret
            exact ⟨rfl, BN.out⟩
      · have RV := Lib.hid (RF.out (fun q => h2 q.2.2.1))
        rcases hk with rfl | rfl | rfl
        all_goals
          rw [RV.out]
          go_enter Try.func19, Try.ntmps19
          go_wp2_with fail
          go_ret
          exact ⟨rfl, BN.out⟩
    · have RV := Lib.hid (RF.out (fun q => h1 q.2.1))
      rcases hk with rfl | rfl | rfl
      all_goals
        rw [RV.out]
        go_enter Try.func19, Try.ntmps19
        go_wp2_with fail
        go_ret
        exact ⟨rfl, BN.out⟩
  · have RV := Lib.hid (RF.out (fun q => hk q.1))
    rw [RV.out]
    have k1 : (k != 1) = true := by simp; omega
    have k2 : (k != 2) = true := by simp; omega
    have k3 : (k != 3) = true := by simp; omega
    clear hk RV RT RF HR H HC
    go_enter Try.func19, Try.ntmps19
    go_wp2_with fail
    go_ret
    exact ⟨rfl, BN.out⟩

set_option maxHeartbeats 1000000 in
theorem owns_any (p b m : Nat) (most : Int) (M : List Pl) (w : World) (h : St w p b m most M) :
    Calls Try.prog 20 #[ptr p] w fun e w' => e = .returned (.bool true) ∧ Below w.heap.size w w' := by
  have H := Lib.hid h
  have HL := Lib.hid (len_any p b m most M w h)
  obtain ⟨c, hb, -⟩ := h.box
  obtain ⟨D, hm, hD⟩ := h.map
  have h2 := hb.get 2 rfl
  have h3 := hb.get 3 rfl
  have heq : ∀ w', (binOp .eql 23 (ptr p) (ptr p)).run Try.prog w' = .ok (.bool true) w' := fun w' => by
    obtain ⟨j, hj⟩ : ∃ j, Try.prog.info? 57 = some j := ⟨_, rfl⟩
    exact run_eql_ptr_same w' ⟨p, 0, none⟩ Try.underlying23 hj
  have h0 := h.wf.len
  have hlen := hm.len Try.underlying55 3
  rw [show ((Maps.size D : Nat) : Int) = (M.length : Int) - 1 by rw [hD.size]; omega] at hlen
  clear h hb hm hD h0
  go_enter Try.func20, Try.ntmps20
  go_wp2_with fail
  refine HL.out.mono ?_
  rintro e w1 ⟨rfl, hB⟩
  have BB := Lib.hid hB
  clear hB hlen heq
  go_wp2_with fail
  go_ret
  exact ⟨rfl, BB.out⟩
end Go.Proofs.Ytecfndpbgebpiaa
