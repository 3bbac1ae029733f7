/-
  The statement AstTells: what its walk comes to.
-/
import Derived.Test.YtcjefhjhmmoocaaAstLawKit
import Derived.Test.YtcjefhjhmmoocaaAstRefE
namespace Go.Proofs.Ytcjefhjhmmoocaa
open Go.RowKit

/-- The tree that is told of, and the document's copy of it. -/
def Tell (w0 : World) (A A' : Option Addr) (m cap g : Nat) (l : Nat → Nd) (u : World) : Prop := Below w0.heap.size w0 u ∧ TreeBox u g A m cap ∧ Nodes u A m l ∧ Nodes u A' m l
theorem Tell.call {w0 u v : World} {A A' : Option Addr} {m cap g : Nat} {l : Nat → Nd} (h : Tell w0 A A' m cap g l u) (hb : Below u.heap.size u v) : Tell w0 A A' m cap g l v := ⟨thenB h.1 hb h.1.size, h.2.1.call hb, h.2.2.1.call hb, h.2.2.2.call hb⟩

set_option maxRecDepth 20000 in
set_option maxHeartbeats 4000000 in
theorem astTells_walk (hS : SortOk) (hN : SortNone) (A : Option Addr) (n cap : Nat) (l : Nat → Nd) (i : Int) (w : World) (hc : n ≤ cap) (hcap : cap ≤ 9223372036854775807) (h0 : A = none → n = 0 ∧ cap = 0) (hl : Nodes w A n l) :
    Calls Try.prog 3 #[.agg #[.slice A n cap], .int .i64 i] w fun e w' => e = .returned (.bool true) ∧ Below w.heap.size w w' := by
  have HSN := Lib.hid (And.intro hS hN)
  have HL := Lib.hid hl
  clear hS hN hl
  go_enter Try.func3, Try.ntmps3
  go_wp2_with fail
  refine (cut_any A n cap 60 _ hc hcap h0 (by omega)).mono ?_
  rintro e w1 ⟨rfl, hb⟩
  have HX := Lib.hid (show Below w.heap.size w (World.alloc w (.cells #[.slice A n cap] 24)) by go_grown)
  have HT1 := Lib.hid ((TreeBox.new w A n cap).call hb)
  have HB1 := Lib.hid (thenB HX.out hb HX.out.size)
  have hz := HT1.out
  unfold TreeBox at hz
  have c2 := HT1.out.cell
  have fz := HT1.out.free
  clear hb HX
  have hm : min n 60 ≤ 60 := by omega
  have HL0 := Lib.hid (HL.out.take (min n 60) (by omega))
  generalize min n 60 = m at hm HL0 ⊢
  go_wp2_with fail
  have HB2 := Lib.hid (below_store HB1.out (Nat.le_refl _) (.slice A m cap))
  have HT2 := Lib.hid (HT1.out.store A m cap)
  have HL2 := Lib.hid (HL0.out.below HB2.out (Nat.le_refl _))
  clear HL HL0 HB1 HT1 hz c2 fz
  refine (ref_any A m cap l _ (by omega) HL2.out).mono ?_
  rintro e w2 ⟨A', cap', rfl, hr, hb⟩
  have HF0 := Lib.hid (show Tell w A A' m cap w.heap.size l w2 from ⟨thenB HB2.out hb HB2.out.size, HT2.out.call hb, HL2.out.call hb, hr⟩)
  clear hr hb HB2 HT2 HL2
  have c2 := HF0.out.2.1.cell
  go_wp2_with fail
  refine (lenZ_any A m cap l i _ (by omega) HF0.out.2.2.1).mono ?_
  rintro e v0 ⟨rfl, hb⟩
  have HF1 := Lib.hid (HF0.out.call hb)
  clear hb HF0 c2
  have c2 := HF1.out.2.1.cell
  go_wp2_with fail
  refine (rlenZ_any A' m cap' l i _ (by omega) HF1.out.2.2.2).mono ?_
  rintro e v1 ⟨rfl, hb⟩
  have HF2 := Lib.hid (HF1.out.call hb)
  clear hb HF1 c2
  have c2 := HF2.out.2.1.cell
  go_wp2_with fail
  refine (right_any HSN.out.1 HSN.out.2 A m cap l _ (by omega) HF2.out.2.2.1).mono ?_
  rintro e v2 ⟨rfl, hb⟩
  have HF3 := Lib.hid (HF2.out.call hb)
  clear hb HF2 c2
  have c2 := HF3.out.2.1.cell
  go_wp2_with fail
  refine (rright_any A' m cap' l _ (by omega) HF3.out.2.2.2).mono ?_
  rintro e v3 ⟨rfl, hb⟩
  have HF4 := Lib.hid (HF3.out.call hb)
  clear hb HF3 c2
  have c2 := HF4.out.2.1.cell
  go_wp2_with fail
  refine (deep_any A m cap l _ (by omega) HF4.out.2.2.1).mono ?_
  rintro e v4 ⟨rfl, hb⟩
  have HF5 := Lib.hid (HF4.out.call hb)
  clear hb HF4 c2
  have c2 := HF5.out.2.1.cell
  go_wp2_with fail
  refine (rdeepZ_any A' m cap' l _ (by omega) HF5.out.2.2.2).mono ?_
  rintro e v5 ⟨rfl, hb⟩
  have HF6 := Lib.hid (HF5.out.call hb)
  clear hb HF5 c2
  have c2 := HF6.out.2.1.cell
  go_wp2_with fail
  refine (groups_any A m cap l _ (by omega) HF6.out.2.2.1).mono ?_
  rintro e v6 ⟨rfl, hb⟩
  have HF7 := Lib.hid (HF6.out.call hb)
  clear hb HF6 c2
  have c2 := HF7.out.2.1.cell
  go_wp2_with fail
  refine (rgroups_any A' m cap' l _ (by omega) HF7.out.2.2.2).mono ?_
  rintro e v7 ⟨rfl, rfl⟩
  have HF8 := HF7
  clear HF7
  go_wp2_with fail
  refine (fixed_any HSN.out.1 HSN.out.2 _).mono ?_
  rintro e v8 ⟨rfl, hb⟩
  have HF9 := Lib.hid (HF8.out.call hb)
  clear hb HF8 c2
  have c2 := HF9.out.2.1.cell
  go_wp2_with fail
  go_ret
  exact ⟨rfl, HF9.out.1⟩
end Go.Proofs.Ytcjefhjhmmoocaa
