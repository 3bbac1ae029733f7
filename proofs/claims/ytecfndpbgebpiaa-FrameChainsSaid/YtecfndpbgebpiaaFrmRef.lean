/-
  Layer 12: the document's store, and its calls but Put.
-/
import Derived.Test.YtecfndpbgebpiaaFrmNew
namespace Go.Proofs.Ytecfndpbgebpiaa
open Go.RowKit
open Go.Maps (Keyed IsMap Tidy)

def rL (y : Pl) : List Value := frL y.1
/-- Block q is the document's store with room for most, that has the frames M: in a row in block c. -/
structure Rf (w : World) (q c : Nat) (most : Int) (M : List Pl) : Prop where
  box : ∃ k, BoxV 44 w q #[slc c M.length k, .int .i64 most] ∧ w.ownsRow 0 35 5 (slc c M.length k) M.length (M.flatMap rL)
  wf : Wf M
  len : M.length ≤ 1000000
  most : 0 ≤ most ∧ most ≤ 1048576
theorem flat_getR : ∀ (M : List Pl) (i j : Nat), i < M.length → j < 5 → (M.flatMap rL)[i * 5 + j]? = (frL (frI M i))[j]?
  | [], i, j, h, _ => by simp at h
  | y :: r, 0, j, _, hj => by
    rw [List.flatMap_cons, List.getElem?_append_left (by simp [rL]; omega)]
    simp [rL, frI]
  | y :: r, i + 1, j, h, hj => by
    rw [List.flatMap_cons, List.getElem?_append_right (by simp [rL]; omega)]
    have := flat_getR r i j (by simpa using h) hj
    rw [show (i + 1) * 5 + j - (rL y).length = i * 5 + j by simp [rL]; omega, this]
    simp [frI]
section
variable {w w' : World} {q c : Nat} {most : Int} {M : List Pl}
theorem Rf.cell (h : Rf w q c most M) {i j : Nat} (hi : i < M.length) (hj : j < 5) : w.cell? ⟨c, i * 5 + j, none⟩ = (frL (frI M i))[j]? := by
  obtain ⟨k, -, h2⟩ := h.box
  obtain ⟨v, hv⟩ : ∃ v, (frL (frI M i))[j]? = some v := ⟨_, List.getElem?_eq_getElem (by simp; omega)⟩
  have := h2.cells (g := c) rfl (i * 5 + j) v (by rw [flat_getR M i j hi hj, hv])
  rw [addr_add, Nat.zero_add] at this
  rw [this, hv]
theorem Rf.apart (h : Rf w q c most M) : q < w.heap.size ∧ c < w.heap.size ∧ q ≠ c := by
  obtain ⟨k, h1, h2⟩ := h.box
  obtain ⟨cur, h4⟩ := owns_block h2
  refine ⟨h1.lt, lt_of_block h4, ?_⟩
  rintro rfl
  rw [h1] at h4
  injection h4 with h4; injection h4 with _ h4
  exact absurd h4 (by decide)
theorem Rf.keep (h : Rf w q c most M) (hk : ∀ j, j = q ∨ j = c → w'.heap[j]? = w.heap[j]?) : Rf w' q c most M := by
  obtain ⟨k, h1, h2⟩ := h.box
  refine ⟨⟨k, (hk q (.inl rfl)).trans h1, h2.1, ?_⟩, h.wf, h.len, h.most⟩
  rcases h2.2 with ⟨e, -⟩ | ⟨g, cap, cur, e, h0, h6, h7⟩
  · cases e
  · have e1 : g = c := by injection e with e1; injection e1 with e1; injection e1 with e1; exact e1.symm
    exact .inr ⟨g, cap, cur, e, h0, (hk g (.inr e1)).trans h6, h7⟩
theorem Rf.below {B : Nat} (h : Rf w q c most M) (hb : Below B w w') (hB : w.heap.size ≤ B) : Rf w' q c most M :=
  h.keep fun j hj => hb.block j (by have := h.apart; rcases hj with rfl | rfl <;> omega)
theorem Rf.frame (h : Rf w q c most M) {i : Nat} (hi : i < M.length) : w.rangeAt c (i * 5) (frL (frI M i)) := fun j v hv => by
  have hj : j < 5 := by
    rcases Nat.lt_or_ge j 5 with q | q
    · exact q
    · rw [List.getElem?_eq_none (by simpa using q)] at hv; cases hv
  rw [h.cell hi hj, ← hv]
end
theorem sizeRr : (Try.prog.info? 35).map (·.size) = some 5 := by kernel_rfl
section
variable {ops : Array Oper} {rest : List Oper} {o : Oper} {a : Act} {w : World} {Q : Exit → Act → World → Prop}
theorem loadRr (hgd : o.guard = none) (x : Operand) (ho : o.op = .load 35 x) (b k : Nat) (f : Fr) (hx : a.eval x = .pointer (some ⟨b, k, none⟩)) (hg : w.rangeAt b k (frL f))
    (h : wpList Try.prog ops Q rest (a.put o.dst (.agg (frC f))) w) : wpList Try.prog ops Q (o :: rest) a w :=
  wpList_load_mid hgd 35 x ho b k hx (frL f) _ hg Try.underlying35 rfl sizeRr h
theorem BoxV.rr {g : Nat} {f : Fr} (h : BoxV 35 w g (frC f)) : w.rangeAt g 0 (frL f) := fun j v hv => by
  rw [Nat.zero_add]
  exact h.get j (by simpa using hv)
theorem storeRr (hgd : o.guard = none) (x y : Operand) (ho : o.op = .store 35 x y) (g : Nat) (f0 f : Fr) (hx : a.eval x = .pointer (some ⟨g, 0, none⟩)) (hy : a.eval y = .agg (frC f)) (hg : BoxV 35 w g (frC f0))
    (h : ∀ u : World, Hid (BoxV 35 u g (frC f)) → Hid (∀ B, B ≤ g → Below B w u) → wpList Try.prog ops Q rest (a.put o.dst undef) u) : wpList Try.prog ops Q (o :: rest) a w := by
  refine wpList_store_row hgd 35 x y ho g _ hx hy _ _ hg sizeRr rfl (by simp [Value.oneCell']) ?_
  exact h _ (Lib.hid (setRow_heap w g _ _ _ _ hg)) (Lib.hid fun B hB => (Below.refl _ w).trans ⟨rfl, rfl, rfl, by simp, fun k hk => setRow_other w g k _ (by omega)⟩)
end
theorem resRB {fn : Func} {p q : Tmp} {b : Bool} {f : Fr} {w : World} (h : fn.results = #[.cell p 35, .tmp q]) (tmps : Array Value) {g : Nat} (hp : tmps.getD p undef = ptr g) (hq : tmps.getD q undef = .bool b) (hg : BoxV 35 w g (frC f)) :
    (results fn tmps).run Try.prog w = .ok (.tuple #[.agg (frC f), .bool b]) w := by
  rw [results_cell_tmp h, hp, hq]
  have hl := run_loadVar_row (P := Try.prog) w g 35 35 (frC f) (0, 0) _ hg Try.underlying35 rfl sizeRr
  simp [asAddr, hl, Result.andThen]

set_option maxHeartbeats 1000000 in
theorem ref_any (f : Fr) (w : World) : Calls Try.prog 12 #[.agg (frC f)] w fun e w' => e = .returned (.agg (frC f)) ∧ Below w.heap.size w w' := by
  obtain ⟨k, n, t, fr, x⟩ := f
  have hz : BoxV 35 ((w.alloc (.cells #[.int .i64 k, .int .i64 n, .int .i64 t, .int .i64 fr, .int .i64 x] 33)).alloc (.cells #[.int .i64 0, .int .i64 0, .int .i64 0, .int .i64 0, .int .i64 0] 35)) (w.heap.size + 1) (frC zF) := by
    have := BoxV.new (T := 35) (w.alloc (.cells #[.int .i64 k, .int .i64 n, .int .i64 t, .int .i64 fr, .int .i64 x] 33)) (frC zF)
    rwa [World.size_alloc] at this
  have Z := Lib.hid hz
  have BB := Lib.hid (show Below w.heap.size w ((w.alloc (.cells #[.int .i64 k, .int .i64 n, .int .i64 t, .int .i64 fr, .int .i64 x] 33)).alloc (.cells #[.int .i64 0, .int .i64 0, .int .i64 0, .int .i64 0, .int .i64 0] 35)) from ((Below.refl _ w).alloc (Nat.le_refl _) _).alloc (by simp) _)
  clear hz
  go_enter Try.func12, Try.ntmps12
  go_wp2_with (refine storeRr rfl _ _ rfl (w.heap.size + 1) zF ⟨k, n, t, fr, x⟩ rfl rfl Z.out ?_; intro u HZ HB)
  refine bodyPost_ret (results_cell_row rfl _ _ (w.heap.size + 1) _ _ _ _ rfl HZ.out Try.underlying35 rfl sizeRr) rfl ?_
  exact ⟨rfl, BB.out.trans (HB.out _ (by omega))⟩

set_option maxHeartbeats 2000000 in
theorem rnew_any (most : Int) (w : World) :
    Calls Try.prog 9 #[.int .i64 most] w fun e w' => Below w.heap.size w w' ∧ ((0 ≤ most ∧ most ≤ 1048576 ∧ ∃ q c, e = .returned (.tuple #[ptr q, .int .i64 0]) ∧ w.heap.size ≤ q ∧ w.heap.size ≤ c ∧ Rf w' q c most [(zF, 0)]) ∨
      (¬ (0 ≤ most ∧ most ≤ 1048576) ∧ e = .returned (.tuple #[.pointer none, .int .i64 1]))) := by
  by_cases h0 : 0 ≤ most
  · by_cases h1 : most ≤ 1048576
    · go_enter Try.func9, Try.ntmps9
      go_wp2_with fail
      go_ret2
      obtain ⟨W, hW⟩ : ∃ W, ((w.alloc (.cells (frC zF) 35)).alloc (.cells #[slc w.heap.size 1 1, .int .i64 most] 44)) = W := ⟨_, rfl⟩
      have hB : Below w.heap.size w W := hW ▸ ((Below.refl _ w).alloc (Nat.le_refl _) _).alloc (by simp) _
      have h1b : BoxV 35 W w.heap.size (frC zF) := hW ▸ (BoxV.new w _).alloc _
      have h3b : BoxV 44 W (w.heap.size + 1) #[slc w.heap.size 1 1, .int .i64 most] := by
        have := BoxV.new (T := 44) (w.alloc (.cells (frC zF) 35)) #[slc w.heap.size 1 1, .int .i64 most]
        rw [World.size_alloc] at this
        exact hW ▸ this
      rw [show (w.alloc (.cells #[.int .i64 0, .int .i64 0, .int .i64 0, .int .i64 0, .int .i64 0] 35)).alloc (.cells #[slc w.heap.size 1 1, .int .i64 most] 44) = W from hW]
      refine ⟨hB, .inl ⟨h0, h1, _, w.heap.size, rfl, by omega, Nat.le_refl _, ⟨1, h3b, rfl, .inr ⟨w.heap.size, 1, _, rfl, Nat.zero_le _, h1b, Nat.le_refl _, by decide, rfl, rfl⟩⟩, .made, by simp, h0, h1⟩⟩
    · have h2 : 1048576 < most := by omega
      clear h1
      go_enter Try.func9, Try.ntmps9
      go_wp2_with fail
      go_ret2
      exact ⟨by go_grown, .inr (by first | rfl | exact ⟨by omega, rfl⟩)⟩
  · go_enter Try.func9, Try.ntmps9
    go_wp2_with fail
    go_ret2
    exact ⟨by go_grown, .inr (by first | rfl | exact ⟨by omega, rfl⟩)⟩

set_option maxHeartbeats 1000000 in
theorem rget_any (q c : Nat) (most : Int) (M : List Pl) (z : Int) (w : World) (h : Rf w q c most M) :
    Calls Try.prog 14 #[ptr q, .int .i64 z] w fun e w' => e = .returned (.tuple #[.agg (frC (getF M z)), .bool (decide (0 ≤ z ∧ z < M.length))]) ∧ Below w.heap.size w w' := by
  obtain ⟨wa, hwa⟩ : ∃ wa, w.alloc (.cells #[.int .i64 0, .int .i64 0, .int .i64 0, .int .i64 0, .int .i64 0] 35) = wa := ⟨_, rfl⟩
  have hB0 : Below w.heap.size w wa := hwa ▸ (Below.refl _ w).alloc (Nat.le_refl _) _
  have hz0 : BoxV 35 wa w.heap.size (frC zF) := hwa ▸ BoxV.new w _
  have H := Lib.hid (h.below hB0 (Nat.le_refl _))
  have B0 := Lib.hid hB0
  have Z0 := Lib.hid hz0
  obtain ⟨k0, hb, -⟩ := H.out.box
  have h1 := hb.get 0 rfl
  have hl := h.len
  have n1 : (M.length : Int) ≤ 1000000 := by omega
  clear h hB0 hz0 hb hl
  by_cases k : 0 ≤ z ∧ z < M.length
  · obtain ⟨i, rfl⟩ : ∃ i : Nat, z = i := ⟨z.toNat, by omega⟩
    have hi : i < M.length := by omega
    have ev : getF M (i : Int) = frI M i := by unfold getF; rw [if_pos k]; rfl
    have dk : decide (0 ≤ (i : Int) ∧ (i : Int) < M.length) = true := decide_eq_true k
    rw [ev, dk]
    have FR := Lib.hid (H.out.frame hi)
    have i0 : (0 : Int) ≤ i := by omega
    have i1 : (i : Int) < M.length := by omega
    clear dk ev k hi
    go_enter Try.func14, Try.ntmps14
    go_wp2_with (first | (refine loadRr rfl _ rfl c _ (frI M i) rfl FR.out ?_) | (refine storeRr rfl _ _ rfl w.heap.size zF (frI M i) rfl rfl Z0.out ?_; intro u HZ HB))
    refine bodyPost_ret (resRB (b := true) (f := frI M i) rfl _ (g := w.heap.size) rfl rfl HZ.out) rfl ?_
    exact ⟨rfl, B0.out.trans (HB.out _ (Nat.le_refl _))⟩
  · have ev : getF M z = zF := by unfold getF; rw [if_neg k]
    have dk : decide (0 ≤ z ∧ z < M.length) = false := decide_eq_false k
    rw [ev, dk]
    clear dk ev
    by_cases hz : z < 0
    · clear k
      go_enter Try.func14, Try.ntmps14
      go_wp2_with (refine storeRr rfl _ _ rfl w.heap.size zF zF rfl rfl Z0.out ?_; intro u HZ HB)
      refine bodyPost_ret (resRB (b := false) (f := zF) rfl _ (g := w.heap.size) rfl rfl HZ.out) rfl ?_
      exact ⟨rfl, B0.out.trans (HB.out _ (Nat.le_refl _))⟩
    · have hz0 : 0 ≤ z := by omega
      have hz1 : (M.length : Int) ≤ z := by omega
      clear k hz
      go_enter Try.func14, Try.ntmps14
      go_wp2_with (refine storeRr rfl _ _ rfl w.heap.size zF zF rfl rfl Z0.out ?_; intro u HZ HB)
      refine bodyPost_ret (resRB (b := false) (f := zF) rfl _ (g := w.heap.size) rfl rfl HZ.out) rfl ?_
      exact ⟨rfl, B0.out.trans (HB.out _ (Nat.le_refl _))⟩

set_option maxHeartbeats 1000000 in
theorem rdeep_any (q c : Nat) (most : Int) (M : List Pl) : ∀ (d : Nat) (z : Int) (w : World), z.toNat ≤ d → Rf w q c most M →
    Calls Try.prog 17 #[ptr q, .int .i64 z] w fun e w' => e = .returned (.int .i64 (dpF M z : Int)) ∧ Below w.heap.size w w' := by
  intro d
  induction d with
  | zero =>
    intro z w hz h
    have ev : dpF M z = 0 := by
      unfold dpF
      split
      · rw [show z.toNat = 0 by omega]; exact h.wf.zero.2
      · rfl
    rw [ev]
    have h1 : z < 1 := by omega
    clear h hz ev
    go_enter Try.func17, Try.ntmps17
    go_wp2_with fail
    go_ret
    exact ⟨rfl, by go_grown⟩
  | succ d ih =>
    intro z w hz h
    obtain ⟨k0, hb, -⟩ := h.box
    have hb0 := hb.get 0 rfl
    have hl := h.len
    have n1 : (M.length : Int) ≤ 1000000 := by omega
    by_cases h1 : z < 1
    · have ev : dpF M z = 0 := by
        unfold dpF
        split
        · rw [show z.toNat = 0 by omega]; exact h.wf.zero.2
        · rfl
      rw [ev]
      clear h hz ev hb hb0 ih
      go_enter Try.func17, Try.ntmps17
      go_wp2_with fail
      go_ret
      exact ⟨rfl, by go_grown⟩
    · by_cases h2 : z < M.length
      · obtain ⟨i, rfl⟩ : ∃ i : Nat, z = i := ⟨z.toNat, by omega⟩
        have hi : i < M.length := by omega
        have h1' : 1 ≤ i := by omega
        obtain ⟨k1, k2, k3⟩ := h.wf.may i h1' hi
        have hx := mayF_x k1
        obtain ⟨x, hxx⟩ : ∃ x : Nat, (frI M i).x = (x : Int) := ⟨(frI M i).x.toNat, by omega⟩
        have ev : dpF M (i : Int) = 1 + dpI M x := by unfold dpF; rw [if_pos ⟨by omega, h2⟩, Int.toNat_natCast, k3, hxx]; simp; omega
        have ev2 : dpF M (x : Int) = dpI M x := by unfold dpF; rw [if_pos ⟨by omega, by omega⟩]; rfl
        have dl := h.wf.deep x x (Nat.le_refl _)
        rw [ev]
        have IH := Lib.hid (ih (x : Int) w (by omega) h)
        have hc := h.cell hi (j := 4) (by omega)
        have hcc : w.cell? ⟨c, i * 5 + 4, none⟩ = some (.int .i64 (x : Int)) := by rw [hc, ← hxx]; rfl
        have i0 : (0 : Int) ≤ i := by omega
        have i1 : (1 : Int) ≤ i := by omega
        have d0 : (0 : Int) ≤ (dpI M x : Int) := by omega
        have d1 : (dpI M x : Int) ≤ 1000000 := by omega
        rw [ev2] at IH
        clear h hz ev ev2 hb ih k1 k2 k3 hx hc dl hl
        go_enter Try.func17, Try.ntmps17
        go_wp2_with fail
        refine IH.out.mono ?_
        rintro e w1 ⟨rfl, hB⟩
        have BB := Lib.hid hB
        clear hB
        go_wp2_with fail
        go_ret
        exact ⟨by first | rfl | (congr 2; go_num), BB.out⟩
      · have ev : dpF M z = 0 := by unfold dpF; rw [if_neg (by omega)]
        rw [ev]
        have h2' : (M.length : Int) ≤ z := by omega
        have h1' : 1 ≤ z := by omega
        clear h hz ev hb ih h1 h2 hl
        go_enter Try.func17, Try.ntmps17
        go_wp2_with fail
        go_ret
        exact ⟨rfl, by go_grown⟩
end Go.Proofs.Ytecfndpbgebpiaa
