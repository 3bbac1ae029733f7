/-
  What is proved: the statement LimitGrows holds for every input.
  Condition: none.
-/
import Derived.Test.YtaobbdmkkehpnaaRows
import Derived.Test.YtaobbdmkkehpnaaLimOpen
import Derived.Test.YtaobbdmkkehpnaaLimGrowsLaw
import Derived.Test.YtaobbdmkkehpnaaLimCodeE
import Derived.ProofKit
import Derived.OpenShut
namespace Go.Proofs.Ytaobbdmkkehpnaa.limitGrows
open Go.ChangeShapes Go.WideShapes Go.ChangeAt Go.RowKit
open Go.ChangeMaps (open_string shut_string)

theorem own : ownKnob Try.prog.godebug = none := by kernel_rfl

set_option maxRecDepth 100000 in
theorem lifted (L : LimOk) (os : Os) (started : os.Started) (H : Type) (enc : TypeId × Value → H) :
    ReturnsInHanded {} Try.checked os 5 .any (Rows.limitGrowsSpec.pre6 enc Try.prog Try.f5 Rows.limitGrowsRow.domain false) (Rows.limitGrowsSpec.post enc Try.prog Try.f5 false true false false) := by
  refine returnsInHanded_of_change (C := Try.checked) own started (by kernel_rfl) Try.func5
    (ChangeSpec.witness6 (enc := enc) (C := Try.checked) false ⟨#[], #[.agg #[.float .f64 0, .float .f64 0], .agg #[.float .f64 0, .float .f64 0], .slice none 0 0], []⟩ 8 (by kernel_rfl) (by kernel_rfl) (by kernel_rfl) (by kernel_rfl)) ?_
  intro W base args ds gs before hval0 hW hcnd _
  have hval : ∀ (j : Nat) t v, Try.f5.params[j]? = some t → args[j]? = some v → Value.okWide Try.prog W .any base t v := hval0
  have hW' := hW
  obtain ⟨p, q, hA0, hV, rfl, hfz, hnd⟩ := hW
  have hA : DataW.TrodAll enc Try.prog W 0 (fun _ => true) true Try.f5.params.toList args.toList ds p := hA0
  rw [Try.params5] at hA hval
  obtain ⟨v0, vs0, d0, ds0, p0, q0, hargs, rfl, rfl, h0, r0⟩ := trodAll_cons hA
  obtain ⟨v1, vs1, d1, ds1, p1, q1, rfl, rfl, rfl, h1, r1⟩ := trodAll_cons r0
  obtain ⟨v2, vs2, d2, ds2, p2, q2, rfl, rfl, rfl, h2, r2⟩ := trodAll_cons r1
  obtain ⟨rfl, rfl, rfl⟩ := trodAll_nil r2
  obtain rfl : args = #[v0, v1, v2] := by cases args; simp_all
  obtain ⟨rfl, rfl⟩ := trodVars_none hV
  obtain ⟨x0, y0, rfl, rfl, rfl, wx0, wy0⟩ := openBud (hval 0 24 v0 rfl rfl) h0
  obtain ⟨x1, y1, rfl, rfl, rfl, wx1, wy1⟩ := openBud (hval 1 24 v1 rfl rfl) h1
  obtain ⟨a0, len, cap, rfl⟩ := okWide_slice Try.underlying55 (hval 2 55 v2 rfl rfl)
  obtain ⟨fuel, hf⟩ := h2
  rcases open_ints Try.underlying55 Try.underlying56 (by kernel_rfl) hf with ⟨hcs, hx⟩ | ⟨a, len', cap', zs, hcs, _, hl, hm, hz, hx, hcell, hwz⟩
  · simp only [Value.cells, List.cons.injEq, Value.slice.injEq, and_true] at hcs
    obtain ⟨rfl, rfl, rfl⟩ := hcs
    simp only [Prod.mk.injEq] at hx
    obtain ⟨rfl, rfl⟩ := hx
    clear hA0 hval0
    simp only [List.append_nil] at hW'
    refine (limitGrows_walk L x0 y0 x1 y1 none 0 0 (fun _ => 0) W (float_bd wx0) (float_bd wy0) (float_bd wx1) (float_bd wy1) (fun i hi => by omega) (fun i hi => by omega)).mono fun e W' ⟨he, hb⟩ => ?_
    subst he
    exact ⟨_, rfl, _, _, _, [], [], [], hW', trodAll_cons_mk (shut_bool Try.underlying4 _) trodAll_mk0, trodAll_cons_mk (shutBud wx0 wy0) (trodAll_cons_mk (shutBud wx1 wy1) (trodAll_cons_mk (shut_slice_nil Try.underlying55) (trodAll_mk0))), rfl, hb.frame _, fun h => by cases h⟩
  · simp only [Value.cells, List.cons.injEq, Value.slice.injEq, and_true] at hcs
    obtain ⟨rfl, rfl, rfl⟩ := hcs
    simp only [Prod.mk.injEq] at hx
    obtain ⟨rfl, rfl⟩ := hx
    simp only [if_true] at hz
    clear hA0 hval0
    simp only [List.append_nil, List.nil_append] at hW'
    refine (limitGrows_walk L x0 y0 x1 y1 (some a) len cap (fun i => zs.getD i 0) W (float_bd wx0) (float_bd wy0) (float_bd wx1) (float_bd wy1) (fun i hi => by
      have hw := wf_getD hwz (i := i) (by omega)
      show 0 ≤ zs.getD i 0 ∧ zs.getD i 0 < 65536
      generalize zs.getD i 0 = z at hw ⊢
      simp [Lit.wf, IntKind.min, IntKind.max, IntKind.signed, IntKind.bits] at hw
      omega) (slice_cells (by omega) hcell)).mono fun e W' ⟨he, hb⟩ => ?_
    subst he
    exact ⟨_, rfl, _, _, _, [], _, [], hW', trodAll_cons_mk (shut_bool Try.underlying4 _) trodAll_mk0, trodAll_cons_mk (shutBud wx0 wy0) (trodAll_cons_mk (shutBud wx1 wy1) (trodAll_cons_mk (shutInts Try.underlying55 Try.underlying56 (by kernel_rfl) hb hl hm hz hcell hwz) (trodAll_mk0))), rfl, hb.frame _, fun h => by cases h⟩

theorem said (L : LimOk) : Rows.LimitGrowsSaid :=
  OpenClaim.holds_of_wide 5 Try.f5 rfl rfl rfl rfl rfl rfl rfl ⟨rfl, rfl, rfl, rfl, rfl⟩ rfl rfl rfl rfl rfl (by kernel_rfl) Try.func5 (by kernel_rfl)
    (of_decide_eq_true (by kernel_rfl)) (by unfold Func.isWrapper; first | (rw [if_pos (by decide +kernel)]; kernel_rfl) | (rw [if_neg (by decide +kernel)]; exact ⟨rfl, rfl⟩))
    (fun os started H enc _ => lifted L os started H enc)
theorem holds : Rows.LimitGrowsSaid := said limOk
end Go.Proofs.Ytaobbdmkkehpnaa.limitGrows
