/-
  What is proved: the statement LimitCounts holds for every input.
  Condition: none.
-/
import Derived.Test.YtaobbdmkkehpnaaRows
import Derived.Test.YtaobbdmkkehpnaaLimOpen
import Derived.Test.YtaobbdmkkehpnaaLimCountsLaw
import Derived.Test.YtaobbdmkkehpnaaLimCodeE
import Derived.ProofKit
import Derived.OpenShut
import Derived.Deep.Grids
namespace Go.Proofs.Ytaobbdmkkehpnaa.limitCounts
open Go.ChangeShapes Go.WideShapes Go.ChangeAt Go.RowKit
open Go.ChangeMaps (open_string shut_string)

theorem own : ownKnob Try.prog.godebug = none := by kernel_rfl

/-- A slice of ints: what a walk wants of it, and how it reads behind. -/
theorem openI {H : Type} {enc : TypeId × Value → H} {W : World} {fuel : Nat} {ao : Option Addr} {len cap : Nat} {x : DataW H × List MemPlace}
    (h : DataW.trod enc Try.prog W 0 (fun _ => true) true fuel 40 [.slice ao len cap] = some x) :
    ∃ z : Nat → Int, (∀ i, i < len → -9223372036854775808 ≤ z i ∧ z i < 9223372036854775808) ∧ (∀ i, i < len → ∃ b off, ao = some ⟨b, off, none⟩ ∧ b < W.heap.size ∧ W.cell? ⟨b, off + i, none⟩ = some (.int .i64 (z i))) ∧
      ∀ W', Below W.heap.size W W' → DataW.Trod enc Try.prog W' 0 (fun b => decide (b < W.heap.size)) true 40 (.slice ao len cap) x.1 x.2 := by
  rcases open_ints Try.underlying40 Try.underlying3 (by kernel_rfl) h with ⟨hcs, hx⟩ | ⟨a, len', cap', zs, hcs, _, hl, hm, hz, hx, hcell, hwz⟩
  · simp only [List.cons.injEq, Value.slice.injEq, and_true] at hcs
    obtain ⟨rfl, rfl, rfl⟩ := hcs
    subst hx
    exact ⟨fun _ => 0, fun i hi => by omega, fun i hi => by omega, fun W' hb => shut_slice_nil Try.underlying40⟩
  · simp only [List.cons.injEq, Value.slice.injEq, and_true] at hcs
    obtain ⟨rfl, rfl, rfl⟩ := hcs
    subst hx
    simp only [if_true] at hz
    refine ⟨fun i => zs.getD i 0, fun i hi => ?_, slice_cells (by omega) hcell, fun W' hb => shutInts Try.underlying40 Try.underlying3 (by kernel_rfl) hb hl hm hz hcell hwz⟩
    have hw := wf_getD hwz (i := i) (by omega)
    show -9223372036854775808 ≤ zs.getD i 0 ∧ zs.getD i 0 < 9223372036854775808
    generalize zs.getD i 0 = z at hw ⊢
    simp [Lit.wf, IntKind.min, IntKind.max, IntKind.signed, IntKind.bits] at hw
    omega
/-- A slice of bools: what a walk wants of it, and how it reads behind. -/
theorem openB {H : Type} {enc : TypeId × Value → H} {W : World} {fuel : Nat} {ao : Option Addr} {len cap : Nat} {x : DataW H × List MemPlace}
    (h : DataW.trod enc Try.prog W 0 (fun _ => true) true fuel 41 [.slice ao len cap] = some x) :
    ∃ z : Nat → Bool, (∀ i, i < len → ∃ b off, ao = some ⟨b, off, none⟩ ∧ b < W.heap.size ∧ W.cell? ⟨b, off + i, none⟩ = some (.bool (z i))) ∧
      ∀ W', Below W.heap.size W W' → DataW.Trod enc Try.prog W' 0 (fun b => decide (b < W.heap.size)) true 41 (.slice ao len cap) x.1 x.2 := by
  rcases Go.Deep.open_bools Try.underlying41 Try.underlying4 (by kernel_rfl) h with ⟨hcs, hx⟩ | ⟨a, len', cap', B, hcs, _, hl, hm, hx, hcell⟩
  · simp only [List.cons.injEq, Value.slice.injEq, and_true] at hcs
    obtain ⟨rfl, rfl, rfl⟩ := hcs
    subst hx
    exact ⟨fun _ => false, fun i hi => by omega, fun W' hb => shut_slice_nil Try.underlying41⟩
  · simp only [List.cons.injEq, Value.slice.injEq, and_true] at hcs
    obtain ⟨rfl, rfl, rfl⟩ := hcs
    subst hx
    clear h
    by_cases h0 : cap = 0
    · subst h0
      obtain rfl : len = 0 := by omega
      refine ⟨B, fun i hi => by omega, fun W' hb => ?_⟩
      cases hsp : decide (a.block < W.heap.size)
      · have h := Go.Deep.shut_slice (enc := enc) (P := Try.prog) (w := W') (base := 0) (spare := fun b => decide (b < W.heap.size)) (held := true) (t := 41) (a := a) (len := 0) (cap := 0) Try.underlying41 (Nat.zero_le _) (Nat.le_refl _) hm hsp (fun _ => .nil) (fun _ => []) (fun i hi => by omega)
        simpa [Go.Deep.boolRow] using h
      · have h := Go.Deep.shut_slice_whole (enc := enc) (P := Try.prog) (w := W') (base := 0) (spare := fun b => decide (b < W.heap.size)) (held := true) (t := 41) (a := a) (len := 0) (cap := 0) Try.underlying41 (Nat.zero_le _) (Nat.le_refl _) hm hsp (fun _ => .nil) (fun _ => []) (fun i hi => by omega)
        simpa [Go.Deep.boolRow] using h
    · obtain ⟨b, off, spot⟩ := a
      have hspot : spot = none := by simpa [Addr.add] using World.cell?_spot (hcell 0 (by omega))
      subst hspot
      have hc : ∀ i, i < cap → W.cell? ⟨b, off + i, none⟩ = some (.bool (B i)) := fun i hi => by rw [← Go.WideShapes.add_plain]; exact hcell i hi
      have hlt : b < W.heap.size := block_lt_of_cell (hc 0 (by omega))
      refine ⟨B, fun i hi => ⟨b, off, rfl, hlt, hc i (by omega)⟩, fun W' hb => ?_⟩
      have h := Go.Deep.shut_slice_whole1 (enc := enc) (P := Try.prog) (w := W') (base := 0) (spare := fun b => decide (b < W.heap.size)) (held := true) (t := 41) Try.underlying41 (show Try.prog.cellsOf 4 = 1 by kernel_rfl) (Nat.zero_le b) hl hm (by simpa using hlt) (fun i => .bool (B i)) (fun i => .lit (.bool (B i))) (fun _ => []) (fun i hi => (hb.cell (p := ⟨b, off + i, none⟩) hlt).trans (hc i hi)) (fun i _ => ⟨1, by simp [DataW.trod, Try.underlying4]⟩)
      rw [Go.Deep.flatMap_nil_range, List.append_nil] at h
      exact h

set_option maxRecDepth 100000 in
theorem lifted (L : LimOk) (os : Os) (started : os.Started) (H : Type) (enc : TypeId × Value → H) :
    ReturnsInHanded {} Try.checked os 4 .any (Rows.limitCountsSpec.pre6 enc Try.prog Try.f4 Rows.limitCountsRow.domain false) (Rows.limitCountsSpec.post enc Try.prog Try.f4 false true false false) := by
  refine returnsInHanded_of_change (C := Try.checked) own started (by kernel_rfl) Try.func4
    (ChangeSpec.witness6 (enc := enc) (C := Try.checked) false ⟨#[], #[.agg #[.float .f64 0, .float .f64 0], .slice none 0 0, .slice none 0 0], []⟩ 8 (by kernel_rfl) (by kernel_rfl) (by kernel_rfl) (by kernel_rfl)) ?_
  intro W base args ds gs before hval0 hW hcnd _
  have hval : ∀ (j : Nat) t v, Try.f4.params[j]? = some t → args[j]? = some v → Value.okWide Try.prog W .any base t v := hval0
  have hW' := hW
  obtain ⟨p, q, hA0, hV, rfl, hfz, hnd⟩ := hW
  have hA : DataW.TrodAll enc Try.prog W 0 (fun _ => true) true Try.f4.params.toList args.toList ds p := hA0
  rw [Try.params4] at hA hval
  obtain ⟨v0, vs0, d0, ds0, p0, q0, hargs, rfl, rfl, h0, r0⟩ := trodAll_cons hA
  obtain ⟨v1, vs1, d1, ds1, p1, q1, rfl, rfl, rfl, h1, r1⟩ := trodAll_cons r0
  obtain ⟨v2, vs2, d2, ds2, p2, q2, rfl, rfl, rfl, h2, r2⟩ := trodAll_cons r1
  obtain ⟨rfl, rfl, rfl⟩ := trodAll_nil r2
  obtain rfl : args = #[v0, v1, v2] := by cases args; simp_all
  obtain ⟨rfl, rfl⟩ := trodVars_none hV
  obtain ⟨x0, y0, rfl, rfl, rfl, wx0, wy0⟩ := openBud (hval 0 24 v0 rfl rfl) h0
  obtain ⟨a1, len1, cap1, rfl⟩ := okWide_slice Try.underlying40 (hval 1 40 v1 rfl rfl)
  obtain ⟨a2, len2, cap2, rfl⟩ := okWide_slice Try.underlying41 (hval 2 41 v2 rfl rfl)
  obtain ⟨fuel1, hf1⟩ := h1
  obtain ⟨fuel2, hf2⟩ := h2
  obtain ⟨z, hz, hc, hs1⟩ := openI hf1
  obtain ⟨bs, hc2, hs2⟩ := openB hf2
  clear hA0 hval0
  simp only [List.append_nil, List.nil_append] at hW'
  refine (limitCounts_walk L x0 y0 a1 a2 len1 cap1 len2 cap2 z bs W (float_bd wx0) (float_bd wy0) hz hc hc2).mono fun e W' ⟨he, hb⟩ => ?_
  subst he
  exact ⟨_, rfl, _, _, _, [], _, [], hW', trodAll_cons_mk (shut_bool Try.underlying4 _) trodAll_mk0, trodAll_cons_mk (shutBud wx0 wy0) (trodAll_cons_mk (hs1 W' hb) (trodAll_cons_mk (hs2 W' hb) (trodAll_mk0))), rfl, hb.frame _, fun h => by cases h⟩

theorem said (L : LimOk) : Rows.LimitCountsSaid :=
  OpenClaim.holds_of_wide 4 Try.f4 rfl rfl rfl rfl rfl rfl rfl ⟨rfl, rfl, rfl, rfl, rfl⟩ rfl rfl rfl rfl rfl (by kernel_rfl) Try.func4 (by kernel_rfl)
    (of_decide_eq_true (by kernel_rfl)) (by unfold Func.isWrapper; first | (rw [if_pos (by decide +kernel)]; kernel_rfl) | (rw [if_neg (by decide +kernel)]; exact ⟨rfl, rfl⟩))
    (fun os started H enc _ => lifted L os started H enc)
theorem holds : Rows.LimitCountsSaid := said limOk
end Go.Proofs.Ytaobbdmkkehpnaa.limitCounts
