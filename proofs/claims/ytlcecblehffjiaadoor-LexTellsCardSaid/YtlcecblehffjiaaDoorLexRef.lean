/-
  Layer 6: the statements' own Ref (tokens as the document has them), and the document's Same, of the same tokens.
-/
import Derived.Test.YtlcecblehffjiaaDoorLexToks
import Derived.BigQuiet
namespace Go.Proofs.YtlcecblehffjiaaDoor
open Go.RowKit

theorem infoTok6 : (Tryd.prog.info? 61).map (fun i => (i.zero, i.size, i.bytes)) = some (some (.agg #[.int .i64 0, .int .u64 0, .int .u64 0, .int .u64 0, .int .u64 0, .int .i64 0, .int .i64 0, .int .i64 0, .int .i64 0, .string ⟨#[]⟩]), 10, 88) := by kernel_rfl
/-- A goal that the walk leaves alone. -/
def StopR (p : Prop) : Prop := p
theorem stopR {p : Prop} (h : StopR p) : p := h
section
variable {ops : Array Oper} {rest : List Oper} {o : Oper} {a : Act} {w : World} {Q : Exit → Act → World → Prop}
/-- A token is stored in a new block: all of its cells. -/
theorem storeNewT (hgd : o.guard = none) (x y : Operand) (ho : o.op = .store 46 x y) (wr : World) (s t : Tok) (hx : a.eval x = .pointer (some ⟨wr.heap.size, 0, none⟩)) (cs : Array Value) (hy : a.eval y = .agg cs) (hcs : cs = tokC t) (hw : w = wr.alloc (.cells (tokC s) 46))
    (h : ∀ u : World, u.cell? ⟨wr.heap.size, 0, none⟩ = some (.int .i64 t.k) → u.cell? ⟨wr.heap.size, 1, none⟩ = some (.int .u64 (W t.S 0)) → u.cell? ⟨wr.heap.size, 2, none⟩ = some (.int .u64 (W t.S 1)) → u.cell? ⟨wr.heap.size, 3, none⟩ = some (.int .u64 (W t.S 2)) → u.cell? ⟨wr.heap.size, 4, none⟩ = some (.int .u64 (W t.S 3)) → u.cell? ⟨wr.heap.size, 5, none⟩ = some (.int .i64 t.mn) → u.cell? ⟨wr.heap.size, 6, none⟩ = some (.int .i64 t.mx) → u.cell? ⟨wr.heap.size, 7, none⟩ = some (.int .i64 t.md) → u.cell? ⟨wr.heap.size, 8, none⟩ = some (.int .i64 t.n) → u.cell? ⟨wr.heap.size, 9, none⟩ = some (.string t.f) →
      Hid (Below wr.heap.size wr u) → wpList Tryd.prog ops Q rest (a.put o.dst undef) u) : wpList Tryd.prog ops Q (o :: rest) a w := by
  subst hw
  have hg : BoxT 46 (wr.alloc (.cells (tokC s) 46)) wr.heap.size s := BoxT.new _ _
  refine storeT hgd x y ho wr.heap.size s t hx cs hy hcs hg ?_
  have hc (j : Nat) := cell_of_row ((wr.alloc (.cells (tokC s) 46)).setRow wr.heap.size (tokC t)) wr.heap.size j _ _ _ (hg.rowSame t)
  exact h _ (hc 0) (hc 1) (hc 2) (hc 3) (hc 4) (hc 5) (hc 6) (hc 7) (hc 8) (hc 9) (Lib.hid (below_row ((Below.refl _ wr).alloc (Nat.le_refl _) _) (Nat.le_refl _) _))
end
/-- What Ref answers: the same cells in a row of its own. -/
def GotRef (w : World) (l : List Tok) (e : Ending) (w' : World) : Prop := ∃ v, e = .returned v ∧ w'.ownsRow w.heap.size 61 10 v l.length (toksC l) ∧ v ≠ .slice none 0 0 ∧ Below w.heap.size w w'
set_option maxRecDepth 100000 in
set_option maxHeartbeats 8000000 in
theorem ref_tok (A : Option Addr) (cap : Nat) (l : List Tok) (w : World) (hl : l.length ≤ 2000) (htk : Toks w A l) : Calls Tryd.prog 13 #[.slice A l.length cap] w (GotRef w l) := by
  have HT := Lib.hid htk
  clear htk
  obtain ⟨i0, hi, hz0, hz1, hz2⟩ := info_parts infoTok6
  have HI := Lib.hid (And.intro hi (And.intro hz0 (And.intro hz1 hz2)))
  clear hi hz0 hz1 hz2
  have hll : (l.length : Int) ≤ 2000 := by omega
  go_enter Tryd.func13, Tryd.ntmps13
  go_wp2_with fail
  go_loopw [3, 4] (fun s3 s4 wr => ∃ k : Nat, s4 = .int .i64 k ∧ k ≤ l.length ∧ wr.ownsRow w.heap.size 61 10 s3 k (toksC (l.take k)) ∧ s3 ≠ .slice none 0 0 ∧ Below w.heap.size w wr) (fun _ s4 _ => l.length - (intOf s4).toNat)
  case atStart => exact ⟨0, rfl, by omega, World.ownsRow_made _ #[] 0 (Nat.le_refl _) (by decide) rfl, (fun h => by cases h), (Below.refl _ w).alloc (Nat.le_refl _) _⟩
  case round =>
    obtain ⟨k, rfl, hk, hown, hne, hb⟩ := hrel
    have HO := Lib.hid hown
    have HB := Lib.hid hb
    have HNE0 := Lib.hid hne
    clear hown hb hne
    by_cases hlt : k < l.length
    · have r1 : (k : Int) < (l.length : Int) := by omega
      obtain ⟨t, ht⟩ : ∃ t, l[k]? = some t := ⟨_, List.getElem?_eq_getElem hlt⟩
      obtain ⟨b, o, rfl, hbw, hx⟩ := (HT.out.below HB.out (Nat.le_refl _)) k t ht
      obtain ⟨c0, c1, c2, c3, c4, c5, c6, c7, c8, c9⟩ := hx
      have HTk := Lib.hid (show l.take (k + 1) = l.take k ++ [t] by rw [List.take_add_one, ht]; rfl)
      clear ht hbw
      go_wp2_with (refine storeNewT rfl _ _ rfl wr (tok0 0) t rfl _ rfl rfl (by simp [tokC, tok0, W_zero]; rfl) ?_; intro wt d0 d1 d2 d3 d4 d5 d6 d7 d8 d9 hN; clear c0 c1 c2 c3 c4 c5 c6 c7 c8 c9; refine stopR ?_)
      unfold StopR
      have HOx := Lib.hid (own_call HO.out (hN.out.mono (Nat.le_refl _)))
      have HBx := Lib.hid (thenB HB.out hN.out HB.out.size)
      have HSx := Lib.hid HBx.out.size
      go_wp2_with (at_builtin; refine wpList_append_own _ rfl _ _ 26 rfl w.heap.size 61 i0 _ 10 88 Tryd.underlying26 HI.out.1 HI.out.2.1 HI.out.2.2.1 HI.out.2.2.2 rfl (by decide) _ _ _ rfl (HOx.out.alloc _) ⟨wt.heap.size, 0, none⟩ 1 1 (tokC t).toList rfl rfl (tok_cells wt _ t) (tok_one t) (by unfold maxLen; omega) (by omega) (by have := HSx.out; simp; omega) ?_)
      intro v3 w3 hown3 hgrow3 hne3
      have HNE := Lib.hid hne3
      clear hne3
      have hown : ∀ g, Value.ownBlock u3 = some g → w.heap.size ≤ g := fun g hg => (HOx.out.lt g hg).1
      have HB3 := Lib.hid ((HBx.out.alloc HSx.out _).grown hgrow3 (Nat.le_trans HSx.out (by simp)) hown)
      rw [← toksC_one, ← HTk.out] at hown3
      have HO3 := Lib.hid hown3
      clear hown3 hgrow3 hown
      go_wp2_with fail
      go_roundw
      case rel => exact ⟨k + 1, by go_num, by omega, HO3.out, HNE.out, HB3.out⟩
      case measure => simp [intOf]; omega
    · obtain rfl : k = l.length := by omega
      rw [List.take_length] at HO
      go_wp2_with fail
      go_ret
      exact ⟨_, rfl, HO.out, HNE0.out, HB.out⟩
@[go_sem 10000] theorem neqTokSame (k s0 s1 s2 s3 mn mx md n : Int) (f : ByteArray) (w : World) : (binOp .neq 61 (.agg #[.int .i64 k, .int .u64 s0, .int .u64 s1, .int .u64 s2, .int .u64 s3, .int .i64 mn, .int .i64 mx, .int .i64 md, .int .i64 n, .string f]) (.agg #[.int .i64 k, .int .u64 s0, .int .u64 s1, .int .u64 s2, .int .u64 s3, .int .i64 mn, .int .i64 mx, .int .i64 md, .int .i64 n, .string f])).run Tryd.prog w = .ok (.bool false) w := by
  have h : (Op.equalIn 10000 61 (.agg #[.int .i64 k, .int .u64 s0, .int .u64 s1, .int .u64 s2, .int .u64 s3, .int .i64 mn, .int .i64 mx, .int .i64 md, .int .i64 n, .string f]) (.agg #[.int .i64 k, .int .u64 s0, .int .u64 s1, .int .u64 s2, .int .u64 s3, .int .i64 mn, .int .i64 mx, .int .i64 md, .int .i64 n, .string f])).run Tryd.prog w = .ok true w := by simp [go_sem]
  rw [run_neq_struct, h]
  rfl
/-- Tokens in a row of a call's own, as the document has them. -/
theorem own_toks6 {w : World} {base : Nat} {v : Value} {l : List Tok} (h : w.ownsRow base 61 10 v l.length (toksC l)) : ∃ A cap, v = .slice A l.length cap ∧ Toks w A l := by
  rcases h.2 with ⟨h1, h2⟩ | ⟨g, cap, cur, h1, -, h2, -, -, -, -⟩
  · refine ⟨none, 0, by rw [h1, h2], fun i t hi => ?_⟩
    rw [List.length_eq_zero_iff.1 h2] at hi
    cases hi
  · refine ⟨some ⟨g, 0, none⟩, cap, h1, fun i t hi => ⟨g, 0, rfl, (Array.getElem?_eq_some_iff.1 h2).1, at10_of (fun j u hu => ?_) hi⟩⟩
    have := h.cells (g := g) (by rw [h1]; rfl) j u hu
    rw [Addr.add_lit] at this
    exact this
set_option maxRecDepth 100000 in
set_option maxHeartbeats 8000000 in
theorem same_tok (A A' : Option Addr) (cap cap' : Nat) (l : List Tok) (w : World) (hl : l.length ≤ 2000) (h1 : Toks w A l) (h2 : Toks w A' l) : Calls Tryd.prog 12 #[.slice A l.length cap, .slice A' l.length cap'] w fun e w' => e = .returned (.bool true) ∧ Below w.heap.size w w' := by
  have H1 := Lib.hid h1
  have H2 := Lib.hid h2
  clear h1 h2
  have hll : (l.length : Int) ≤ 2000 := by omega
  have q1 : ((l.length : Int) != (l.length : Int)) = false := by simp
  go_enter Tryd.func12, Tryd.ntmps12
  go_wp2_with fail
  go_loopw [5] (fun s5 wr => ∃ k q : Nat, k ≤ l.length ∧ s5 = .int .i64 k ∧ wr = w.drewN q) (fun s5 _ => l.length - (intOf s5).toNat)
  case atStart => exact ⟨0, 0, Nat.zero_le _, rfl, rfl⟩
  case round =>
    obtain ⟨k, q, hk, rfl, rfl⟩ := hrel
    by_cases hlt : k < l.length
    · have r1 : (k : Int) < (l.length : Int) := by omega
      obtain ⟨t, ht⟩ : ∃ t, l[k]? = some t := ⟨_, List.getElem?_eq_getElem hlt⟩
      obtain ⟨b, o, rfl, -, c0, c1, c2, c3, c4, c5, c6, c7, c8, c9⟩ := H1.out k t ht
      obtain ⟨b', o', rfl, -, d0, d1, d2, d3, d4, d5, d6, d7, d8, d9⟩ := H2.out k t ht
      clear ht
      go_wp2_with fail
      go_quiet (fail)
      go_wp2_with fail
      go_roundw
      case rel => exact ⟨k + 1, _, by omega, by go_num, rfl⟩
      case measure => simp [intOf]; omega
    · obtain rfl : k = l.length := by omega
      go_wp2_with fail
      go_ret
      exact ⟨rfl, below_drewN (Below.refl _ w) q⟩
end Go.Proofs.YtlcecblehffjiaaDoor
