/-
  What is proved: the statement LexFlags holds for every input (its card: where the listed variable clew/lex.openings and five of the library is as the program's text lays it).
  Condition: none but the card's own: the listed variable is as its initialiser lays it, tied to the program's text.
-/
import Derived.Test.YtlcecblehffjiaaDoorCards
import Derived.Test.YtlcecblehffjiaaDoorTie
import Derived.Test.YtlcecblehffjiaaDoorLexOpen
import Derived.Test.YtlcecblehffjiaaDoorLexFlagsLaw
namespace Go.Proofs.YtlcecblehffjiaaDoor.lexFlags
open Go.ChangeShapes Go.WideShapes Go.ChangeAt Go.RowKit
open Go.ChangeMaps (open_string shut_string)

theorem rOf_lt {a b c : Nat} (ha : a < 256) (hb : b < 256) (hc : c < 256) : ∀ i, i < 3 → rOf a b c i < 256 := fun i hi => by
  rcases (show i = 0 ∨ i = 1 ∨ i = 2 by omega) with rfl | rfl | rfl
  · exact ha
  · exact hb
  · exact hc
theorem cellsU8' : Tryd.prog.cellsOf 5 = 1 := by kernel_rfl
theorem cellsThree : Tryd.prog.cellsOf 54 = 3 := by kernel_rfl
theorem wf_u8' (n : Nat) (h : n < 256) : (Lit.int .u8 (n : Int)).wf = true := by
  simp [Lit.wf, IntKind.min, IntKind.max, IntKind.signed, IntKind.bits]; omega
set_option maxRecDepth 100000 in
theorem shutThree {H : Type} {enc : TypeId × Value → H} {w : World} {base : Nat} {spare : Nat → Bool} {held : Bool} {a b c : Nat} (ha : a < 256) (hb : b < 256) (hc : c < 256) :
    DataW.Trod enc Tryd.prog w base spare held 54 (.agg #[.int .u8 (a : Int), .int .u8 (b : Int), .int .u8 (c : Int)]) (.agg [.lit (.int .u8 (a : Int)), .lit (.int .u8 (b : Int)), .lit (.int .u8 (c : Int))]) [] := by
  have w0 := wf_u8' _ ha
  have w1 := wf_u8' _ hb
  have w2 := wf_u8' _ hc
  refine ⟨2, ?_⟩
  have hr : List.range 3 = [0, 1, 2] := by decide
  simp [DataW.trod, Tryd.underlying54, Tryd.underlying5, cellsThree, cellsU8', Value.cells, hr, w0, w1, w2]
set_option maxRecDepth 100000 in
theorem openThree {H : Type} {enc : TypeId × Value → H} {w : World} {base b0 : Nat} {r : Reach} {spare : Nat → Bool} {held : Bool} {v : Value} {d : DataW H} {p : List MemPlace}
    (hv : Value.okWide Tryd.prog w r b0 54 v) (h : DataW.Trod enc Tryd.prog w base spare held 54 v d p) :
    ∃ a b c : Nat, a < 256 ∧ b < 256 ∧ c < 256 ∧ v = .agg #[.int .u8 (a : Int), .int .u8 (b : Int), .int .u8 (c : Int)] ∧ d = .agg [.lit (.int .u8 (a : Int)), .lit (.int .u8 (b : Int)), .lit (.int .u8 (c : Int))] ∧ p = [] := by
  obtain ⟨cs, rfl, hsz⟩ : ∃ cs, v = .agg cs ∧ cs.size = Tryd.prog.cellsOf 54 := by
    simp only [Value.okWide, Tryd.underlying54] at hv
    obtain ⟨cs, h1, h2, _⟩ := hv
    exact ⟨cs, h1, h2⟩
  rw [cellsThree] at hsz
  obtain ⟨fuel, hf⟩ := h
  obtain ⟨xs, m, _, hx2, _, hlen, he⟩ := DataW.trod_array Tryd.underlying54 hf
  match xs, hlen, cs, hsz with
  | [x0, x1, x2], _, ⟨[c0, c1, c2]⟩, _ =>
    have e0 := he 0 (by decide)
    have e1 := he 1 (by decide)
    have e2 := he 2 (by decide)
    simp [cellsU8', Value.cells] at e0 e1 e2
    obtain ⟨n0, f0, rfl, g0⟩ := DataW.trod_int Tryd.underlying5 e0
    obtain ⟨n1, f1, rfl, g1⟩ := DataW.trod_int Tryd.underlying5 e1
    obtain ⟨n2, f2, rfl, g2⟩ := DataW.trod_int Tryd.underlying5 e2
    simp at f0 f1 f2
    subst f0 f1 f2
    obtain ⟨k0, rfl, l0⟩ := byte_bd g0
    obtain ⟨k1, rfl, l1⟩ := byte_bd g1
    obtain ⟨k2, rfl, l2⟩ := byte_bd g2
    refine ⟨k0, k1, k2, l0, l1, l2, rfl, ?_, ?_⟩
    · simp at hx2
      exact hx2.1
    · simp at hx2
      exact hx2.2

set_option maxRecDepth 100000 in
theorem contract (H : Type) (enc : TypeId × Value → H) (W : World) (base : Nat) (args : Array Value) (ds gs : List (DataW H)) (before : List MemPlace)
    (hval : ∀ (j : Nat) t v, Tryd.f8.params[j]? = some t → args[j]? = some v → Value.okWide Tryd.prog W .any base t v)
    (hW : DataW.Whole enc Tryd.prog Tryd.f8.params.toList Rows.lexFlagsSpec.vars false W args.toList ds gs before) (hL : laidMetH Tryd.prog Rows.lexFlagsRow.laid W) :
    Calls Tryd.prog 8 args W fun e W' => ∃ v, e = .returned v ∧ Rows.lexFlagsSpec.post enc Tryd.prog Tryd.f8 false true false false W args v W' := by
  have hW' := hW
  obtain ⟨p, q, hA0, hV, rfl, hfz, hnd⟩ := hW
  have hA : DataW.TrodAll enc Tryd.prog W 0 (fun _ => true) true Tryd.f8.params.toList args.toList ds p := hA0
  rw [Tryd.params8] at hA hval
  obtain ⟨v0, vs0, d0, ds0, p0, q0, hargs, rfl, rfl, h0, r0⟩ := trodAll_cons hA
  obtain ⟨v1, vs1, d1, ds1, p1, q1, rfl, rfl, rfl, h1, r1⟩ := trodAll_cons r0
  obtain ⟨rfl, rfl, rfl⟩ := trodAll_nil r1
  obtain rfl : args = #[v0, v1] := by cases args; simp_all
  obtain ⟨rfl, rfl⟩ := trodVars_none hV
  obtain ⟨a0, b0, e0, la0, lb0, le0, rfl, rfl, rfl⟩ := openThree (hval 0 54 v0 rfl rfl) h0
  obtain ⟨x1, rfl, rfl, rfl, wx1⟩ := open_int Tryd.underlying5 (hval 1 5 v1 rfl rfl) h1
  obtain ⟨c1, rfl, lc1⟩ := byte_bd wx1
  clear hA0
  simp only [List.append_nil] at hW'
  refine (lexFlags_any errs_ok clone_ok (rOf a0 b0 e0) c1 W (rOf_lt la0 lb0 le0) lc1 (tab_of hL)).mono fun e W' ⟨he, hb⟩ => ?_
  subst he
  exact ⟨_, rfl, _, _, _, [], [], [], hW', trodAll_cons_mk (shut_bool Tryd.underlying4 _) trodAll_mk0, trodAll_cons_mk (shutThree la0 lb0 le0) (trodAll_cons_mk (shut_int Tryd.underlying5 wx1) (trodAll_mk0)), rfl, hb.frame _, fun h => by cases h⟩

theorem laid_met (os : Os) : laidMet Tryd.prog Rows.lexFlagsRow.laid ((laidWorld os).forCall (fun _ _ => 0) ⟨#[], #[.agg #[.int .u8 0, .int .u8 0, .int .u8 0], .int .u8 0], []⟩).memory :=
  laidMet_laidAll _ (by kernel_rfl) (by kernel_rfl)
theorem reads (os : Os) {H : Type} (enc : TypeId × Value → H) : ∃ places, DataW.whole enc Tryd.prog ((laidWorld os).forCall (fun _ _ => 0) ⟨#[], #[.agg #[.int .u8 0, .int .u8 0, .int .u8 0], .int .u8 0], []⟩).memory Tryd.f8.params.toList Rows.lexFlagsSpec.vars false (#[.agg #[.int .u8 0, .int .u8 0, .int .u8 0], .int .u8 0] : Array Value).toList 8 = some ([.agg [.lit (.int .u8 0), .lit (.int .u8 0), .lit (.int .u8 0)], .lit (.int .u8 0)], [], places) :=
  ⟨[], by kernel_rfl⟩

set_option maxRecDepth 100000 in
theorem lifted (os : Os) (started : os.Started) (H : Type) (enc : TypeId × Value → H) (F : Stop.Interp) :
    ReturnsInHanded {} Tryd.checked os 8 .any ((OpenSpec.ofChange Rows.lexFlagsSpec).preRow enc Tryd.prog Tryd.f8 Rows.lexFlagsRow.domain false Rows.lexFlagsRow.laid) (((OpenSpec.ofChange Rows.lexFlagsSpec).at F).post enc Tryd.prog Tryd.f8 false true false false) := by
  obtain ⟨places, hx⟩ := reads os enc
  refine returnsInHanded_of_row (C := Tryd.checked) (s := OpenSpec.ofChange Rows.lexFlagsSpec) own started (by kernel_rfl) Tryd.func8
    (witness_row_at (enc := enc) (C := Tryd.checked) false (laidWorld os) #[.agg #[.int .u8 0, .int .u8 0, .int .u8 0], .int .u8 0] rfl (by kernel_rfl) (by kernel_rfl) (by kernel_rfl)
      (OpenSpec.preRow_of_cond 8 hx (by kernel_rfl) (fun k hk => by cases hk) (by kernel_rfl) (laid_met os))) ?_
  intro W base args ds gs before hval hW _ _ _ hL _ _
  exact contract H enc W base args ds gs before hval hW hL

set_option maxRecDepth 100000 in
theorem said : Rows.LexFlagsSaid :=
  OpenClaim.holds_of_cond 8 Tryd.f8 rfl rfl rfl rfl rfl rfl rfl ⟨rfl, rfl, rfl, rfl, rfl⟩ rfl rfl rfl rfl rfl (by kernel_rfl) Tryd.func8 (by kernel_rfl)
    (of_decide_eq_true (by kernel_rfl)) (by unfold Func.isWrapper; first | (rw [if_pos (by decide +kernel)]; kernel_rfl) | (rw [if_neg (by decide +kernel)]; exact ⟨rfl, rfl⟩))
    (fun os started H enc _ F => by rw [OpenClaim.pre_eq_preRow]; exact lifted os started H enc F)

set_option maxRecDepth 100000 in
theorem plain (f : FuncId) (fn : Func) (hf : Tryd.pinned.checked.prog.funcNamed "clew/clewlaw06.LexFlags" = some f) (hfn : Tryd.pinned.checked.prog.funcs[f]? = some fn) :
    true = Tryd.pinned.checked.prog.looks [] ∧ ∀ (j : Nat) t, fn.params[j]? = some t → Tryd.pinned.checked.prog.wantsStandIn t = false := by
  obtain rfl : f = 8 := Option.some.inj ((show Tryd.prog.funcNamed "clew/clewlaw06.LexFlags" = some 8 by kernel_rfl).symm.trans hf) |>.symm
  obtain rfl : fn = Tryd.f8 := (Option.some.inj (Tryd.func8.symm.trans hfn)).symm
  refine ⟨by kernel_rfl, fun j t ht => ?_⟩
  rw [Tryd.params8] at ht
  have hm := Array.mem_of_getElem? ht
  simp at hm
  repeat' (first | (rcases hm with rfl | hm) | subst hm)
  all_goals first | exact (show Tryd.prog.wantsStandIn 54 = false by kernel_rfl) | exact (show Tryd.prog.wantsStandIn 5 = false by kernel_rfl)

/-- The card. -/
theorem card : Rows.LexFlagsCardSaid :=
  Claim7.holds_tied_plain_at .later [] _ _ _ _ said (fun _ h => by cases h) (by kernel_rfl) (fun _ h => by cases h) lexFlags_row_tie rfl ⟨rfl, rfl⟩ (by kernel_rfl) rfl plain (by kernel_rfl)
end Go.Proofs.YtlcecblehffjiaaDoor.lexFlags
