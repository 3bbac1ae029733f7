/-
  Layer 5: nodes in a row of the call's own; the law's own copy of a tree (Ref), a tree cut (Cut).
-/
import Derived.Test.YtcjefhjhmmoocaaAstBox
import Derived.OwnWalk
import Derived.Laws.OwnMore
namespace Go.Proofs.Ytcjefhjhmmoocaa
open Go.RowKit

/-- A node's cells. -/
def ndC (x : Nd) : List Value := [.int .i64 x.k, .int .i64 x.a, .int .i64 x.b, .int .u64 x.s0, .int .u64 x.s1, .int .u64 x.s2, .int .u64 x.s3, .int .i64 x.mn, .int .i64 x.mx, .int .i64 x.md, .int .i64 x.n, .bool x.f]
/-- The first nodes' cells. -/
def cellsL (l : Nat → Nd) (n : Nat) : List Value := (List.range n).flatMap fun i => ndC (l i)
theorem cellsL_zero (l : Nat → Nd) : cellsL l 0 = [] := rfl
theorem cellsL_succ (l : Nat → Nd) (n : Nat) : cellsL l (n + 1) = cellsL l n ++ ndC (l n) := by
  unfold cellsL
  rw [List.range_succ, List.flatMap_append]
  simp
theorem cellsL_length (l : Nat → Nd) (n : Nat) : (cellsL l n).length = n * 12 := by
  induction n with
  | zero => rfl
  | succ n ih => rw [cellsL_succ, List.length_append, ih]; show n * 12 + 12 = _; omega
theorem cellsL_get (l : Nat → Nd) (n i j : Nat) (hi : i < n) (hj : j < 12) : (cellsL l n)[i * 12 + j]? = (ndC (l i))[j]? := by
  induction n with
  | zero => omega
  | succ n ih =>
    rw [cellsL_succ]
    by_cases h : i < n
    · rw [List.getElem?_append_left (by rw [cellsL_length]; omega)]
      exact ih h
    · obtain rfl : i = n := by omega
      rw [List.getElem?_append_right (by rw [cellsL_length]; omega), cellsL_length]
      congr 1
      omega
theorem cellsL_congr {l l' : Nat → Nd} {n : Nat} (h : ∀ i, i < n → l i = l' i) : cellsL l n = cellsL l' n := by
  induction n with
  | zero => rfl
  | succ n ih => rw [cellsL_succ, cellsL_succ, ih (fun i hi => h i (by omega)), h n (by omega)]

/-- Cells that lie in a row read as a node. -/
theorem at12_of {w : World} {b o : Nat} {x : Nd} (h : ∀ j, j < 12 → w.cell? ⟨b, o + j, none⟩ = (ndC x)[j]?) : At12 w b o x :=
  ⟨h 0 (by decide), h 1 (by decide), h 2 (by decide), h 3 (by decide), h 4 (by decide), h 5 (by decide), h 6 (by decide), h 7 (by decide), h 8 (by decide), h 9 (by decide), h 10 (by decide), h 11 (by decide)⟩
theorem At12.get {w : World} {b o : Nat} {x : Nd} (h : At12 w b o x) (j : Nat) (hj : j < 12) : w.cell? ⟨b, o + j, none⟩ = (ndC x)[j]? := by
  obtain ⟨h0, h1, h2, h3, h4, h5, h6, h7, h8, h9, h10, h11⟩ := h
  match j, hj with
  | 0, _ => exact h0
  | 1, _ => exact h1
  | 2, _ => exact h2
  | 3, _ => exact h3
  | 4, _ => exact h4
  | 5, _ => exact h5
  | 6, _ => exact h6
  | 7, _ => exact h7
  | 8, _ => exact h8
  | 9, _ => exact h9
  | 10, _ => exact h10
  | 11, _ => exact h11
theorem own_nodes {w : World} {base : Nat} {T : TypeId} {v : Value} {n : Nat} {l : Nat → Nd} (h : w.ownsRow base T 12 v n (cellsL l n)) : ∃ A cap, v = .slice A n cap ∧ n ≤ cap ∧ Nodes w A n l ∧ (∀ a, A = some a → base ≤ a.block) := by
  rcases h.2 with ⟨rfl, rfl⟩ | ⟨g, cap, cur, rfl, hb, hg, hn, -, hsz, hcur⟩
  · exact ⟨none, 0, rfl, Nat.le_refl _, fun i hi => by omega, fun a ha => by cases ha⟩
  · refine ⟨some ⟨g, 0, none⟩, cap, rfl, hn, fun i hi => ⟨g, 0, rfl, (Array.getElem?_eq_some_iff.1 hg).1, at12_of fun j hj => ?_⟩, fun a ha => by cases ha; exact hb⟩
    rw [← cellsL_get l n i j hi hj, ← hcur, List.getElem?_take, if_pos (by omega)]
    show w.cell? ⟨g, 0 + i * 12 + j, none⟩ = _
    unfold World.cell?
    simp [hg]
theorem own_call {w w' : World} {base : Nat} {T : TypeId} {size : Nat} {v : Value} {n : Nat} {xs : List Value} (h : w.ownsRow base T size v n xs) (hb : Below w.heap.size w w') : w'.ownsRow base T size v n xs := by
  refine ⟨h.1, ?_⟩
  rcases h.2 with h2 | ⟨r, cap, cur, hv, hr, hh, rest⟩
  · exact .inl h2
  · exact .inr ⟨r, cap, cur, hv, hr, (hb.block r (Array.getElem?_eq_some_iff.1 hh).1).trans hh, rest⟩
theorem own_empty (w : World) (T : TypeId) (size base : Nat) (hb : base ≤ w.heap.size) : (w.alloc (.cells #[] T)).ownsRow base T size (.slice (some ⟨w.heap.size, 0, none⟩) 0 0) 0 [] :=
  ⟨by simp, .inr ⟨w.heap.size, 0, #[], rfl, hb, heap_alloc_new w _, Nat.le_refl _, by unfold maxLen; omega, by simp, by simp⟩⟩
theorem ndC_one (x : Nd) : ∀ u ∈ ndC x, u.oneCell' = true := by
  intro u hu
  simp only [ndC, List.mem_cons, List.not_mem_nil, or_false] at hu
  rcases hu with rfl | rfl | rfl | rfl | rfl | rfl | rfl | rfl | rfl | rfl | rfl | rfl <;> rfl
theorem info53 : (Try.prog.info? 53).map (fun i => (i.zero, i.size, i.bytes)) = some (some (.agg #[.int .i64 0, .int .i64 0, .int .i64 0, .int .u64 0, .int .u64 0, .int .u64 0, .int .u64 0, .int .i64 0, .int .i64 0, .int .i64 0, .int .i64 0, .bool false]), 12, 96) := by kernel_rfl
theorem info45 : (Try.prog.info? 45).map (fun i => (i.zero, i.size, i.bytes)) = some (some (.agg #[.int .i64 0, .int .i64 0, .int .i64 0, .int .u64 0, .int .u64 0, .int .u64 0, .int .u64 0, .int .i64 0, .int .i64 0, .int .i64 0, .int .i64 0, .bool false]), 12, 96) := by kernel_rfl
/-- A node in a new block is found there. -/
theorem new_cells (w : World) (T : TypeId) (x : Nd) : ∀ j u, (ndC x)[j]? = some u → (w.alloc (.cells #[.int .i64 x.k, .int .i64 x.a, .int .i64 x.b, .int .u64 x.s0, .int .u64 x.s1, .int .u64 x.s2, .int .u64 x.s3, .int .i64 x.mn, .int .i64 x.mx, .int .i64 x.md, .int .i64 x.n, .bool x.f] T)).cell? (Addr.add ⟨w.heap.size, 0, none⟩ j) = some u := by
  intro j u hu
  rw [Addr.add_lit, ← hu]
  unfold World.cell?
  rw [heap_alloc_new]
  simp [ndC]

set_option maxHeartbeats 2000000 in
theorem ref_any (A : Option Addr) (n cap : Nat) (l : Nat → Nd) (w : World) (hn : n ≤ 1000) (hl : Nodes w A n l) :
    Calls Try.prog 10 #[.agg #[.slice A n cap]] w fun e w' => ∃ A' cap', e = .returned (.slice A' n cap') ∧ Nodes w' A' n l ∧ Below w.heap.size w w' := by
  obtain ⟨i0, hi, hz0, hz1, hz2⟩ := info_parts info53
  have HL := Lib.hid hl
  have HI := Lib.hid (And.intro hi (And.intro hz0 (And.intro hz1 hz2)))
  clear hl hi hz0 hz1 hz2
  go_enter Try.func10, Try.ntmps10
  go_wp2_with fail
  go_loopw [3, 4] (fun v i wr => ∃ k : Nat, k ≤ n ∧ i = .int .i64 k ∧ wr.ownsRow (w.heap.size + 1) 53 12 v k (cellsL l k) ∧ Below w.heap.size w wr ∧ wr.heap[w.heap.size]? = some (.cells #[.slice A n cap] 24 (0, 0))) (fun _ i _ => n - (intOf i).toNat)
  case atStart => exact ⟨0, Nat.zero_le _, rfl, by rw [cellsL_zero]; simpa using own_empty (w.alloc (.cells #[.slice A n cap] 24)) 53 12 (w.heap.size + 1) (by simp), by go_grown, (Below.heap_alloc _ _ _ (by simp)).trans (heap_alloc_new _ _)⟩
  case round =>
    obtain ⟨k, hk, rfl, hown, hb, hbox⟩ := hrel
    have hc := cell_of_one hbox
    have HO := Lib.hid hown
    have HB := Lib.hid hb
    have HX := Lib.hid hbox
    clear hown hb hbox
    have HSZ := Lib.hid (show w.heap.size + 1 ≤ wr.heap.size from (Array.getElem?_eq_some_iff.1 HX.out).1)
    by_cases hlt : k < n
    · obtain ⟨b, o, rfl, hbw, hx⟩ := (HL.out.below HB.out (Nat.le_refl _)) k hlt
      obtain ⟨c0, c1, c2, c3, c4, c5, c6, c7, c8, c9, c10, c11⟩ := hx
      go_wp2_with fail
      refine (one_any (l k) _).mono ?_
      rintro e w1 ⟨rfl, hb⟩
      have HO1 := Lib.hid (own_call HO.out hb)
      have HB1 := Lib.hid (thenB HB.out hb HB.out.size)
      have HX1 := Lib.hid ((hb.block w.heap.size (by have := HSZ.out; omega)).trans HX.out)
      have HS1 := Lib.hid (Nat.le_trans HSZ.out hb.size)
      clear hb hc c0 c1 c2 c3 c4 c5 c6 c7 c8 c9 c10 c11
      go_wp2_with (at_builtin; refine wpList_append_own _ rfl _ _ 26 rfl (w.heap.size + 1) 53 i0 _ 12 96 Try.underlying26 HI.out.1 HI.out.2.1 HI.out.2.2.1 HI.out.2.2.2 rfl (by decide) _ _ _ rfl (HO1.out.alloc _) ⟨w1.heap.size, 0, none⟩ 1 1 (ndC (l k)) rfl rfl (new_cells w1 _ (l k)) (ndC_one _) (by unfold maxLen; omega) (by omega) (by have := HS1.out; simp; omega) ?_)
      intro v2 w2 hown2 hgrow2 _
      rw [← cellsL_succ] at hown2
      have HO2 := Lib.hid hown2
      have hown : ∀ g, u3.ownBlock = some g → w.heap.size + 1 ≤ g := fun g hg => (HO1.out.lt g hg).1
      have HB2 := Lib.hid ((HB1.out.alloc HB1.out.size _).grown hgrow2 (Nat.le_trans HB1.out.size (by simp)) (fun g hg => by have := hown g hg; omega))
      have HX2 := Lib.hid ((hgrow2.block w.heap.size (by have := HS1.out; simp; omega) (fun e => by have := hown _ e.symm; omega)).trans ((Below.heap_alloc _ _ _ (by have := HS1.out; omega)).trans HX1.out))
      clear hown2 hgrow2 hown
      go_wp2_with fail
      go_roundw
      case rel => exact ⟨k + 1, by omega, by go_num, HO2.out, HB2.out, HX2.out⟩
      case measure => simp [intOf]; omega
    · obtain rfl : k = n := by omega
      go_wp2_with fail
      go_ret
      obtain ⟨A', cap', rfl, -, hN, -⟩ := own_nodes HO.out
      exact ⟨A', cap', rfl, hN, HB.out⟩
end Go.Proofs.Ytcjefhjhmmoocaa
