/-
  What is proved: the statement LimitPeak holds for every input.
  Condition: none.
-/
import Derived.Test.YtaobbdmkkehpnaaRows
import Derived.Test.YtaobbdmkkehpnaaLimOpen
import Derived.Test.YtaobbdmkkehpnaaLimPeakLaw
import Derived.Test.YtaobbdmkkehpnaaLimCodeE
import Derived.ProofKit
import Derived.OpenShut
namespace Go.Proofs.Ytaobbdmkkehpnaa.limitPeak
open Go.ChangeShapes Go.WideShapes Go.ChangeAt Go.RowKit
open Go.ChangeMaps (open_string shut_string)

theorem own : ownKnob Try.prog.godebug = none := by kernel_rfl

set_option maxRecDepth 100000 in
theorem lifted (L : LimOk) (os : Os) (started : os.Started) (H : Type) (enc : TypeId × Value → H) :
    ReturnsInHanded {} Try.checked os 8 .any (Rows.limitPeakSpec.pre6 enc Try.prog Try.f8 Rows.limitPeakRow.domain false) (Rows.limitPeakSpec.post enc Try.prog Try.f8 false true false false) := by
  refine returnsInHanded_of_change (C := Try.checked) own started (by kernel_rfl) Try.func8
    (ChangeSpec.witness6 (enc := enc) (C := Try.checked) false ⟨#[], #[.slice none 0 0], []⟩ 8 (by kernel_rfl) (by kernel_rfl) (by kernel_rfl) (by kernel_rfl)) ?_
  intro W base args ds gs before hval0 hW hcnd _
  have hval : ∀ (j : Nat) t v, Try.f8.params[j]? = some t → args[j]? = some v → Value.okWide Try.prog W .any base t v := hval0
  have hW' := hW
  obtain ⟨p, q, hA0, hV, rfl, hfz, hnd⟩ := hW
  have hA : DataW.TrodAll enc Try.prog W 0 (fun _ => true) true Try.f8.params.toList args.toList ds p := hA0
  rw [Try.params8] at hA hval
  obtain ⟨v0, vs0, d0, ds0, p0, q0, hargs, rfl, rfl, h0, r0⟩ := trodAll_cons hA
  obtain ⟨rfl, rfl, rfl⟩ := trodAll_nil r0
  obtain rfl : args = #[v0] := by cases args; simp_all
  obtain ⟨rfl, rfl⟩ := trodVars_none hV

  obtain ⟨a0, len, cap, rfl⟩ := okWide_slice Try.underlying63 (hval 0 63 v0 rfl rfl)
  obtain ⟨fuel, hf⟩ := h0
  rcases open_ints Try.underlying63 Try.underlying64 (by kernel_rfl) hf with ⟨hcs, hx⟩ | ⟨a, len', cap', zs, hcs, _, hl, hm, hz, hx, hcell, hwz⟩
  · simp only [Value.cells, List.cons.injEq, Value.slice.injEq, and_true] at hcs
    obtain ⟨rfl, rfl, rfl⟩ := hcs
    simp only [Prod.mk.injEq] at hx
    obtain ⟨rfl, rfl⟩ := hx
    clear hA0 hval0
    simp only [List.append_nil] at hW'
    refine (limitPeak_walk L  none 0 0 (fun _ => 0) W  (fun i hi => by omega) (fun i hi => by omega)).mono fun e W' ⟨he, hb⟩ => ?_
    subst he
    exact ⟨_, rfl, _, _, _, [], [], [], hW', trodAll_cons_mk (shut_bool Try.underlying4 _) trodAll_mk0, trodAll_cons_mk (shut_slice_nil Try.underlying63) (trodAll_mk0), rfl, hb.frame _, fun h => by cases h⟩
  · simp only [Value.cells, List.cons.injEq, Value.slice.injEq, and_true] at hcs
    obtain ⟨rfl, rfl, rfl⟩ := hcs
    simp only [Prod.mk.injEq] at hx
    obtain ⟨rfl, rfl⟩ := hx
    simp only [if_true] at hz
    clear hA0 hval0
    simp only [List.append_nil] at hW'
    refine (limitPeak_walk L  (some a) len cap (fun i => zs.getD i 0) W  (fun i hi => by
      have hw := wf_getD hwz (i := i) (by omega)
      show -128 ≤ zs.getD i 0 ∧ zs.getD i 0 ≤ 127
      generalize zs.getD i 0 = z at hw ⊢
      simp [Lit.wf, IntKind.min, IntKind.max, IntKind.signed, IntKind.bits] at hw
      omega) (slice_cells (by omega) hcell)).mono fun e W' ⟨he, hb⟩ => ?_
    subst he
    exact ⟨_, rfl, _, _, _, [], _, [], hW', trodAll_cons_mk (shut_bool Try.underlying4 _) trodAll_mk0, trodAll_cons_mk (shutInts Try.underlying63 Try.underlying64 (by kernel_rfl) hb hl hm hz hcell hwz) (trodAll_mk0), rfl, hb.frame _, fun h => by cases h⟩

theorem said (L : LimOk) : Rows.LimitPeakSaid :=
  OpenClaim.holds_of_wide 8 Try.f8 rfl rfl rfl rfl rfl rfl rfl ⟨rfl, rfl, rfl, rfl, rfl⟩ rfl rfl rfl rfl rfl (by kernel_rfl) Try.func8 (by kernel_rfl)
    (of_decide_eq_true (by kernel_rfl)) (by unfold Func.isWrapper; first | (rw [if_pos (by decide +kernel)]; kernel_rfl) | (rw [if_neg (by decide +kernel)]; exact ⟨rfl, rfl⟩))
    (fun os started H enc _ => lifted L os started H enc)
theorem holds : Rows.LimitPeakSaid := said limOk
end Go.Proofs.Ytaobbdmkkehpnaa.limitPeak
