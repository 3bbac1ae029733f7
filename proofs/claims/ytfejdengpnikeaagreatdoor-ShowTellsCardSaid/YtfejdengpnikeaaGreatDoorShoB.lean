/-
  ShoMap, ShoNode, ShoKind, ShoTree
-/
import Derived.Test.YtfejdengpnikeaaGreatDoorShoA
import Derived.Maps.Own
import Derived.Maps.Keyed
import Derived.Maps.Views
import Derived.Test.YtfejdengpnikeaaGreatDoorAstB
import Derived.Test.YtfejdengpnikeaaGreatDoorAstG
import Derived.Laws.MakeOwn
namespace Go.Proofs.YtfejdengpnikeaaGreatDoor
open Go.RowKit
open Go.Maps (Keyed)

/-- How a value of the map reads: as itself. -/
def RV (v : Value) : Option (DataW Value × List MemPlace) := some (.held v, [])
/-- 'm[k] = v' in a map's literal, at the operation. -/
theorem wpList_insert_own {P : Program} (w : World) {ops : Array Oper} {rest : List Oper} {o : Oper} {a : Act} {Q : Exit → Act → World → Prop}
    (hg : o.guard = none) (m x v : Operand) (t : TypeId) (hop : o.op = Op.insert t m x v)
    (k e : TypeId) (K : Keyed P k) (ht : P.underlying t = some (.map k e)) (b n : Nat) (D : DataW Value)
    (hm : a.eval m = .map (some b)) (hown : w.ownsMap P k RV b n D) (hn : n < maxLen) (key val : Value) (kl : Lit) (hx : a.eval x = key) (hv : a.eval v = val) (hkey : keyOf P k key = some kl)
    (hK : ∀ w', w'.ownsMap P k RV b (n + 1) (D.put kl (.held val)) → w.grownBy w' (some b) → wpList P ops Q rest (a.put o.dst undef) w') :
    wpList P ops Q (o :: rest) a w := by
  refine wpList_plain hg fun K' hK' => ?_
  obtain ⟨w', hrun, r1, r2⟩ := hown.update K ht hn hkey (show RV val = some (.held val, []) from rfl)
  unfold Oper.wp
  simp [execOp, hop, hm, hx, hv, hrun, Result.andThen]
  exact hK' _ _ (hK w' r1 r2)
theorem keyInt : Keyed Tryz.prog 3 := Go.Maps.int_keyed Tryz.underlying3

/-- What a kind's text function is. -/
abbrev alwaysV (g : Nat) : Value := .func (.func 87) #[] #[.pointer (some ⟨g, 0, none⟩)]
abbrev openedV (g : Nat) : Value := .func (.func 91) #[] #[.pointer (some ⟨g, 0, none⟩)]
theorem always_any (s : ByteArray) (w : World) : Calls Tryz.prog 49 #[.string s] w fun e w' => e = .returned (alwaysV w.heap.size) ∧ w' = w.alloc (.cells #[.string s] 9) := by
  have hmf : ∀ (fn : Fn) (first cap : Array Value) (w : World), (Instr.makeFunc fn first cap).run Tryz.prog w = .ok (.func fn first cap) w := fun _ _ _ _ => rfl
  go_enter Tryz.func49, Tryz.ntmps49
  go_wp2
  go_ret
  exact ⟨rfl, rfl⟩
theorem opened_any (s : ByteArray) (w : World) : Calls Tryz.prog 54 #[.string s] w fun e w' => e = .returned (openedV w.heap.size) ∧ w' = w.alloc (.cells #[.string s] 9) := by
  have hmf : ∀ (fn : Fn) (first cap : Array Value) (w : World), (Instr.makeFunc fn first cap).run Tryz.prog w = .ok (.func fn first cap) w := fun _ _ _ _ => rfl
  go_enter Tryz.func54, Tryz.ntmps54
  go_wp2
  go_ret
  exact ⟨rfl, rfl⟩
/-- What is built of the map so far. -/
structure LkSt (w0 w : World) (B n : Nat) (D : DataW Value) (T : List (Nat × ByteArray)) : Prop where
  own : w.ownsMap Tryz.prog 3 RV B n D
  txt : ∀ p ∈ T, p.1 < w.heap.size ∧ p.1 ≠ B ∧ w.cell? ⟨p.1, 0, none⟩ = some (.string p.2)
  below : Below w0.heap.size w0 w
  lo : w0.heap.size ≤ B
theorem LkSt.text {w0 w : World} {B n : Nat} {D : DataW Value} {T : List (Nat × ByteArray)} (h : LkSt w0 w B n D T) (s : ByteArray) (g : Nat) (hg : w.heap.size = g) : LkSt w0 (w.alloc (.cells #[.string s] 9)) B n D ((g, s) :: T) := by
  subst hg
  refine ⟨h.own.alloc _, fun p hp => ?_, h.below.alloc h.below.size _, h.lo⟩
  have hB := h.own.lt
  rcases List.mem_cons.1 hp with rfl | hp
  · exact ⟨by simp, by omega, cell_of_one (heap_alloc_new _ _)⟩
  · obtain ⟨h1, h2, h3⟩ := h.txt p hp
    exact ⟨by simp; omega, h2, (((Below.refl _ w).alloc (Nat.le_refl _) _).cell (p := ⟨p.1, 0, none⟩) h1).trans h3⟩
theorem LkSt.put {w0 w w1 : World} {B n : Nat} {D D' : DataW Value} {T : List (Nat × ByteArray)} (h : LkSt w0 w B n D T) (ho : w1.ownsMap Tryz.prog 3 RV B (n + 1) D') (hg : w.grownBy w1 (some B)) : LkSt w0 w1 B (n + 1) D' T := by
  refine ⟨ho, fun p hp => ?_, h.below.grown hg h.below.size (fun k hk => by cases hk; exact h.lo), h.lo⟩
  obtain ⟨h1, h2, h3⟩ := h.txt p hp
  refine ⟨Nat.lt_of_lt_of_le h1 hg.size, h2, ?_⟩
  have hb := hg.block p.1 h1 (fun e => h2 (Option.some.inj e))
  rw [← h3]
  unfold World.cell?
  simp only []
  rw [hb]
/-- Here the walk stops. -/
structure StopS (p : Prop) : Prop where
  out : p
/-- The map, by where its texts lie. -/
def lookD (G : Nat → Nat) : DataW Value := (DataW.put ((DataW.put ((DataW.put ((DataW.put ((DataW.put ((DataW.put ((DataW.put ((DataW.put ((DataW.put ((DataW.put ((DataW.put ((DataW.put ((DataW.put ((DataW.put ((DataW.put ((DataW.put ((DataW.put ((DataW.put (.map []) (.int .i64 0) (.held (.agg #[alwaysV (G 0)])))) (.int .i64 1) (.held (.agg #[.func (.func 50) #[] #[]])))) (.int .i64 2) (.held (.agg #[alwaysV (G 2)])))) (.int .i64 3) (.held (.agg #[alwaysV (G 3)])))) (.int .i64 4) (.held (.agg #[alwaysV (G 4)])))) (.int .i64 5) (.held (.agg #[alwaysV (G 5)])))) (.int .i64 6) (.held (.agg #[alwaysV (G 6)])))) (.int .i64 7) (.held (.agg #[alwaysV (G 7)])))) (.int .i64 8) (.held (.agg #[.func (.func 51) #[] #[]])))) (.int .i64 9) (.held (.agg #[.func (.func 52) #[] #[]])))) (.int .i64 10) (.held (.agg #[.func (.func 53) #[] #[]])))) (.int .i64 11) (.held (.agg #[openedV (G 11)])))) (.int .i64 12) (.held (.agg #[.func (.func 55) #[] #[]])))) (.int .i64 13) (.held (.agg #[openedV (G 13)])))) (.int .i64 14) (.held (.agg #[openedV (G 14)])))) (.int .i64 15) (.held (.agg #[openedV (G 15)])))) (.int .i64 16) (.held (.agg #[openedV (G 16)])))) (.int .i64 17) (.held (.agg #[openedV (G 17)])))
def textL (G : Nat → Nat) : List (Nat × ByteArray) := [(G 17, ⟨#[40, 63, 62]⟩), (G 16, ⟨#[40, 63, 60, 33]⟩), (G 15, ⟨#[40, 63, 60, 61]⟩), (G 14, ⟨#[40, 63, 33]⟩), (G 13, ⟨#[40, 63, 61]⟩), (G 11, ⟨#[40]⟩), (G 7, ⟨#[92, 66]⟩), (G 6, ⟨#[92, 98]⟩), (G 5, ⟨#[40, 63, 109, 58, 36, 41]⟩), (G 4, ⟨#[40, 63, 109, 58, 94, 41]⟩), (G 3, ⟨#[36]⟩), (G 2, ⟨#[94]⟩), (G 0, ⟨#[40, 63, 58, 41]⟩)]
/-- The map of looks. -/
def LooksAt (w : World) (B : Nat) (G : Nat → Nat) : Prop := w.ownsMap Tryz.prog 3 RV B 18 (lookD G) ∧ ∀ p ∈ textL G, p.1 < w.heap.size ∧ w.cell? ⟨p.1, 0, none⟩ = some (.string p.2)
set_option maxRecDepth 20000 in
set_option maxHeartbeats 800000 in
theorem looks_any (w : World) : Calls Tryz.prog 18 #[] w fun e w' => ∃ B G, e = .returned (.map (some B)) ∧ LooksAt w' B G ∧ Below w.heap.size w w' := by
  have hmm := @run_makeMap Tryz.prog
  have hmp := Tryz.underlying51
  go_enter Tryz.func18, Tryz.ntmps18
  have HS : Hid (LkSt w (w.alloc (.map #[] 0)) w.heap.size 0 (.map []) []) := Lib.hid ⟨World.ownsMap_made _ _ _ _, (fun p hp => by cases hp), (Below.refl _ w).alloc (Nat.le_refl _) _, Nat.le_refl _⟩
  go_wp2_with fail
  refine (always_any _ _).mono ?_
  rintro e t0 ⟨rfl, rfl⟩
  simp only [alwaysV]
  replace HS := Lib.hid (HS.out.text ⟨#[40, 63, 58, 41]⟩ (w.heap.size + 1) (by simp))
  go_wp2_with (refine wpList_insert_own _ (by rfl) _ _ _ 51 (by rfl) 3 58 keyInt hmp w.heap.size 0 _ (by rfl) HS.out.own (by unfold maxLen; omega) (.int .i64 0) (.agg #[alwaysV (w.heap.size + 1)]) (.int .i64 0) (by rfl) (by rfl) (Go.Maps.keyOf_int_mk Tryz.underlying3 (by decide)) ?_; intro w0 own0 grow0; refine StopS.out ?_)
  refine ⟨?_⟩
  replace HS := Lib.hid (HS.out.put own0 grow0)
  clear own0 grow0
  go_wp2_with (refine wpList_insert_own _ (by rfl) _ _ _ 51 (by rfl) 3 58 keyInt hmp w.heap.size 1 _ (by rfl) HS.out.own (by unfold maxLen; omega) (.int .i64 1) (.agg #[.func (.func 50) #[] #[]]) (.int .i64 1) (by rfl) (by rfl) (Go.Maps.keyOf_int_mk Tryz.underlying3 (by decide)) ?_; intro w1 own1 grow1; refine StopS.out ?_)
  refine ⟨?_⟩
  replace HS := Lib.hid (HS.out.put own1 grow1)
  clear own1 grow1
  go_wp2_with fail
  refine (always_any _ _).mono ?_
  rintro e t2 ⟨rfl, rfl⟩
  simp only [alwaysV]
  replace HS := Lib.hid (HS.out.text ⟨#[94]⟩ w1.heap.size (by simp))
  go_wp2_with (refine wpList_insert_own _ (by rfl) _ _ _ 51 (by rfl) 3 58 keyInt hmp w.heap.size 2 _ (by rfl) HS.out.own (by unfold maxLen; omega) (.int .i64 2) (.agg #[alwaysV w1.heap.size]) (.int .i64 2) (by rfl) (by rfl) (Go.Maps.keyOf_int_mk Tryz.underlying3 (by decide)) ?_; intro w2 own2 grow2; refine StopS.out ?_)
  refine ⟨?_⟩
  replace HS := Lib.hid (HS.out.put own2 grow2)
  clear own2 grow2
  go_wp2_with fail
  refine (always_any _ _).mono ?_
  rintro e t3 ⟨rfl, rfl⟩
  simp only [alwaysV]
  replace HS := Lib.hid (HS.out.text ⟨#[36]⟩ w2.heap.size (by simp))
  go_wp2_with (refine wpList_insert_own _ (by rfl) _ _ _ 51 (by rfl) 3 58 keyInt hmp w.heap.size 3 _ (by rfl) HS.out.own (by unfold maxLen; omega) (.int .i64 3) (.agg #[alwaysV w2.heap.size]) (.int .i64 3) (by rfl) (by rfl) (Go.Maps.keyOf_int_mk Tryz.underlying3 (by decide)) ?_; intro w3 own3 grow3; refine StopS.out ?_)
  refine ⟨?_⟩
  replace HS := Lib.hid (HS.out.put own3 grow3)
  clear own3 grow3
  go_wp2_with fail
  refine (always_any _ _).mono ?_
  rintro e t4 ⟨rfl, rfl⟩
  simp only [alwaysV]
  replace HS := Lib.hid (HS.out.text ⟨#[40, 63, 109, 58, 94, 41]⟩ w3.heap.size (by simp))
  go_wp2_with (refine wpList_insert_own _ (by rfl) _ _ _ 51 (by rfl) 3 58 keyInt hmp w.heap.size 4 _ (by rfl) HS.out.own (by unfold maxLen; omega) (.int .i64 4) (.agg #[alwaysV w3.heap.size]) (.int .i64 4) (by rfl) (by rfl) (Go.Maps.keyOf_int_mk Tryz.underlying3 (by decide)) ?_; intro w4 own4 grow4; refine StopS.out ?_)
  refine ⟨?_⟩
  replace HS := Lib.hid (HS.out.put own4 grow4)
  clear own4 grow4
  go_wp2_with fail
  refine (always_any _ _).mono ?_
  rintro e t5 ⟨rfl, rfl⟩
  simp only [alwaysV]
  replace HS := Lib.hid (HS.out.text ⟨#[40, 63, 109, 58, 36, 41]⟩ w4.heap.size (by simp))
  go_wp2_with (refine wpList_insert_own _ (by rfl) _ _ _ 51 (by rfl) 3 58 keyInt hmp w.heap.size 5 _ (by rfl) HS.out.own (by unfold maxLen; omega) (.int .i64 5) (.agg #[alwaysV w4.heap.size]) (.int .i64 5) (by rfl) (by rfl) (Go.Maps.keyOf_int_mk Tryz.underlying3 (by decide)) ?_; intro w5 own5 grow5; refine StopS.out ?_)
  refine ⟨?_⟩
  replace HS := Lib.hid (HS.out.put own5 grow5)
  clear own5 grow5
  go_wp2_with fail
  refine (always_any _ _).mono ?_
  rintro e t6 ⟨rfl, rfl⟩
  simp only [alwaysV]
  replace HS := Lib.hid (HS.out.text ⟨#[92, 98]⟩ w5.heap.size (by simp))
  go_wp2_with (refine wpList_insert_own _ (by rfl) _ _ _ 51 (by rfl) 3 58 keyInt hmp w.heap.size 6 _ (by rfl) HS.out.own (by unfold maxLen; omega) (.int .i64 6) (.agg #[alwaysV w5.heap.size]) (.int .i64 6) (by rfl) (by rfl) (Go.Maps.keyOf_int_mk Tryz.underlying3 (by decide)) ?_; intro w6 own6 grow6; refine StopS.out ?_)
  refine ⟨?_⟩
  replace HS := Lib.hid (HS.out.put own6 grow6)
  clear own6 grow6
  go_wp2_with fail
  refine (always_any _ _).mono ?_
  rintro e t7 ⟨rfl, rfl⟩
  simp only [alwaysV]
  replace HS := Lib.hid (HS.out.text ⟨#[92, 66]⟩ w6.heap.size (by simp))
  go_wp2_with (refine wpList_insert_own _ (by rfl) _ _ _ 51 (by rfl) 3 58 keyInt hmp w.heap.size 7 _ (by rfl) HS.out.own (by unfold maxLen; omega) (.int .i64 7) (.agg #[alwaysV w6.heap.size]) (.int .i64 7) (by rfl) (by rfl) (Go.Maps.keyOf_int_mk Tryz.underlying3 (by decide)) ?_; intro w7 own7 grow7; refine StopS.out ?_)
  refine ⟨?_⟩
  replace HS := Lib.hid (HS.out.put own7 grow7)
  clear own7 grow7
  go_wp2_with (refine wpList_insert_own _ (by rfl) _ _ _ 51 (by rfl) 3 58 keyInt hmp w.heap.size 8 _ (by rfl) HS.out.own (by unfold maxLen; omega) (.int .i64 8) (.agg #[.func (.func 51) #[] #[]]) (.int .i64 8) (by rfl) (by rfl) (Go.Maps.keyOf_int_mk Tryz.underlying3 (by decide)) ?_; intro w8 own8 grow8; refine StopS.out ?_)
  refine ⟨?_⟩
  replace HS := Lib.hid (HS.out.put own8 grow8)
  clear own8 grow8
  go_wp2_with (refine wpList_insert_own _ (by rfl) _ _ _ 51 (by rfl) 3 58 keyInt hmp w.heap.size 9 _ (by rfl) HS.out.own (by unfold maxLen; omega) (.int .i64 9) (.agg #[.func (.func 52) #[] #[]]) (.int .i64 9) (by rfl) (by rfl) (Go.Maps.keyOf_int_mk Tryz.underlying3 (by decide)) ?_; intro w9 own9 grow9; refine StopS.out ?_)
  refine ⟨?_⟩
  replace HS := Lib.hid (HS.out.put own9 grow9)
  clear own9 grow9
  go_wp2_with (refine wpList_insert_own _ (by rfl) _ _ _ 51 (by rfl) 3 58 keyInt hmp w.heap.size 10 _ (by rfl) HS.out.own (by unfold maxLen; omega) (.int .i64 10) (.agg #[.func (.func 53) #[] #[]]) (.int .i64 10) (by rfl) (by rfl) (Go.Maps.keyOf_int_mk Tryz.underlying3 (by decide)) ?_; intro w10 own10 grow10; refine StopS.out ?_)
  refine ⟨?_⟩
  replace HS := Lib.hid (HS.out.put own10 grow10)
  clear own10 grow10
  go_wp2_with fail
  refine (opened_any _ _).mono ?_
  rintro e t11 ⟨rfl, rfl⟩
  simp only [openedV]
  replace HS := Lib.hid (HS.out.text ⟨#[40]⟩ w10.heap.size (by simp))
  go_wp2_with (refine wpList_insert_own _ (by rfl) _ _ _ 51 (by rfl) 3 58 keyInt hmp w.heap.size 11 _ (by rfl) HS.out.own (by unfold maxLen; omega) (.int .i64 11) (.agg #[openedV w10.heap.size]) (.int .i64 11) (by rfl) (by rfl) (Go.Maps.keyOf_int_mk Tryz.underlying3 (by decide)) ?_; intro w11 own11 grow11; refine StopS.out ?_)
  refine ⟨?_⟩
  replace HS := Lib.hid (HS.out.put own11 grow11)
  clear own11 grow11
  go_wp2_with (refine wpList_insert_own _ (by rfl) _ _ _ 51 (by rfl) 3 58 keyInt hmp w.heap.size 12 _ (by rfl) HS.out.own (by unfold maxLen; omega) (.int .i64 12) (.agg #[.func (.func 55) #[] #[]]) (.int .i64 12) (by rfl) (by rfl) (Go.Maps.keyOf_int_mk Tryz.underlying3 (by decide)) ?_; intro w12 own12 grow12; refine StopS.out ?_)
  refine ⟨?_⟩
  replace HS := Lib.hid (HS.out.put own12 grow12)
  clear own12 grow12
  go_wp2_with fail
  refine (opened_any _ _).mono ?_
  rintro e t13 ⟨rfl, rfl⟩
  simp only [openedV]
  replace HS := Lib.hid (HS.out.text ⟨#[40, 63, 61]⟩ w12.heap.size (by simp))
  go_wp2_with (refine wpList_insert_own _ (by rfl) _ _ _ 51 (by rfl) 3 58 keyInt hmp w.heap.size 13 _ (by rfl) HS.out.own (by unfold maxLen; omega) (.int .i64 13) (.agg #[openedV w12.heap.size]) (.int .i64 13) (by rfl) (by rfl) (Go.Maps.keyOf_int_mk Tryz.underlying3 (by decide)) ?_; intro w13 own13 grow13; refine StopS.out ?_)
  refine ⟨?_⟩
  replace HS := Lib.hid (HS.out.put own13 grow13)
  clear own13 grow13
  go_wp2_with fail
  refine (opened_any _ _).mono ?_
  rintro e t14 ⟨rfl, rfl⟩
  simp only [openedV]
  replace HS := Lib.hid (HS.out.text ⟨#[40, 63, 33]⟩ w13.heap.size (by simp))
  go_wp2_with (refine wpList_insert_own _ (by rfl) _ _ _ 51 (by rfl) 3 58 keyInt hmp w.heap.size 14 _ (by rfl) HS.out.own (by unfold maxLen; omega) (.int .i64 14) (.agg #[openedV w13.heap.size]) (.int .i64 14) (by rfl) (by rfl) (Go.Maps.keyOf_int_mk Tryz.underlying3 (by decide)) ?_; intro w14 own14 grow14; refine StopS.out ?_)
  refine ⟨?_⟩
  replace HS := Lib.hid (HS.out.put own14 grow14)
  clear own14 grow14
  go_wp2_with fail
  refine (opened_any _ _).mono ?_
  rintro e t15 ⟨rfl, rfl⟩
  simp only [openedV]
  replace HS := Lib.hid (HS.out.text ⟨#[40, 63, 60, 61]⟩ w14.heap.size (by simp))
  go_wp2_with (refine wpList_insert_own _ (by rfl) _ _ _ 51 (by rfl) 3 58 keyInt hmp w.heap.size 15 _ (by rfl) HS.out.own (by unfold maxLen; omega) (.int .i64 15) (.agg #[openedV w14.heap.size]) (.int .i64 15) (by rfl) (by rfl) (Go.Maps.keyOf_int_mk Tryz.underlying3 (by decide)) ?_; intro w15 own15 grow15; refine StopS.out ?_)
  refine ⟨?_⟩
  replace HS := Lib.hid (HS.out.put own15 grow15)
  clear own15 grow15
  go_wp2_with fail
  refine (opened_any _ _).mono ?_
  rintro e t16 ⟨rfl, rfl⟩
  simp only [openedV]
  replace HS := Lib.hid (HS.out.text ⟨#[40, 63, 60, 33]⟩ w15.heap.size (by simp))
  go_wp2_with (refine wpList_insert_own _ (by rfl) _ _ _ 51 (by rfl) 3 58 keyInt hmp w.heap.size 16 _ (by rfl) HS.out.own (by unfold maxLen; omega) (.int .i64 16) (.agg #[openedV w15.heap.size]) (.int .i64 16) (by rfl) (by rfl) (Go.Maps.keyOf_int_mk Tryz.underlying3 (by decide)) ?_; intro w16 own16 grow16; refine StopS.out ?_)
  refine ⟨?_⟩
  replace HS := Lib.hid (HS.out.put own16 grow16)
  clear own16 grow16
  go_wp2_with fail
  refine (opened_any _ _).mono ?_
  rintro e t17 ⟨rfl, rfl⟩
  simp only [openedV]
  replace HS := Lib.hid (HS.out.text ⟨#[40, 63, 62]⟩ w16.heap.size (by simp))
  go_wp2_with (refine wpList_insert_own _ (by rfl) _ _ _ 51 (by rfl) 3 58 keyInt hmp w.heap.size 17 _ (by rfl) HS.out.own (by unfold maxLen; omega) (.int .i64 17) (.agg #[openedV w16.heap.size]) (.int .i64 17) (by rfl) (by rfl) (Go.Maps.keyOf_int_mk Tryz.underlying3 (by decide)) ?_; intro w17 own17 grow17; refine StopS.out ?_)
  refine ⟨?_⟩
  replace HS := Lib.hid (HS.out.put own17 grow17)
  clear own17 grow17
  go_wp2
  go_ret
  refine ⟨w.heap.size, fun n => if n = 0 then (w.heap.size + 1) else if n = 2 then w1.heap.size else if n = 3 then w2.heap.size else if n = 4 then w3.heap.size else if n = 5 then w4.heap.size else if n = 6 then w5.heap.size else if n = 7 then w6.heap.size else if n = 11 then w10.heap.size else if n = 13 then w12.heap.size else if n = 14 then w13.heap.size else if n = 15 then w14.heap.size else if n = 16 then w15.heap.size else w16.heap.size, rfl, ⟨HS.out.own, fun p hp => ?_⟩, HS.out.below⟩
  have h := HS.out.txt p hp
  exact ⟨h.1, h.2.2⟩
/-- What stands in the map at a kind. -/
def kindV (G : Nat → Nat) (k : Nat) : Value := if k = 0 then alwaysV (G 0) else if k = 1 then .func (.func 50) #[] #[] else if k = 2 then alwaysV (G 2) else if k = 3 then alwaysV (G 3) else if k = 4 then alwaysV (G 4) else if k = 5 then alwaysV (G 5) else if k = 6 then alwaysV (G 6) else if k = 7 then alwaysV (G 7) else if k = 8 then .func (.func 51) #[] #[] else if k = 9 then .func (.func 52) #[] #[] else if k = 10 then .func (.func 53) #[] #[] else if k = 11 then openedV (G 11) else if k = 12 then .func (.func 55) #[] #[] else if k = 13 then openedV (G 13) else if k = 14 then openedV (G 14) else if k = 15 then openedV (G 15) else if k = 16 then openedV (G 16) else openedV (G 17)
def lookN (G : Nat → Nat) : Nat → DataW Value
  | 0 => .map []
  | n + 1 => (lookN G n).put (.int .i64 (n : Int)) (.held (.agg #[kindV G n]))
theorem look_map (G : Nat → Nat) : ∀ n, Go.Maps.IsMap (lookN G n)
  | 0 => ⟨[], rfl⟩
  | n + 1 => by
    obtain ⟨es, h⟩ := look_map G n
    rw [lookN, h]
    exact ⟨_, rfl⟩
theorem look_keyN (G : Nat → Nat) (z : DataW Value) : ∀ n k : Nat, k < n → (lookN G n).atKey (.int .i64 (k : Int)) z = .held (.agg #[kindV G k])
  | 0, k, h => absurd h (Nat.not_lt_zero _)
  | n + 1, k, h => by
    by_cases e : k = n
    · subst e
      exact Go.Maps.atKey_put_same (look_map G k) (show WideAt.IsKeyLit (.int .i64 (k : Int)) by unfold WideAt.IsKeyLit; trivial) _ _
    · rw [lookN, Go.Maps.atKey_put_other (by simp; omega), look_keyN G z n k (by omega)]
theorem look_key (G : Nat → Nat) (k : Nat) (hk : k ≤ 17) (z : DataW Value) : (lookD G).atKey (.int .i64 (k : Int)) z = .held (.agg #[kindV G k]) := by
  rw [show lookD G = lookN G 18 from rfl]
  exact look_keyN G z 18 k (by omega)
theorem look_run {w : World} {B : Nat} {G : Nat → Nat} (h : LooksAt w B G) (k : Nat) (hk : k ≤ 17) : (Instr.lookup 51 (.map (some B)) (.int .i64 (k : Int)) false).run Tryz.prog w = .ok (.agg #[kindV G k]) w := by
  obtain ⟨v, ps, hr, hv⟩ := h.1.lookup keyInt Tryz.underlying51 (show (zeroValue 58).run Tryz.prog w = .ok (.agg #[.nilFunc]) w by kernel_rfl) (show RV (.agg #[.nilFunc]) = some (.held (.agg #[.nilFunc]), []) from rfl) (kl := .int .i64 (k : Int)) (Go.Maps.keyOf_int_mk Tryz.underlying3 (by simp [Lit.wf, IntKind.min, IntKind.max, IntKind.signed, IntKind.bits]; omega))
  rw [look_key G k hk] at hv
  have : v = .agg #[kindV G k] := by
    have := congrArg Prod.fst (Option.some.inj hv)
    exact DataW.held.inj this
  rw [hr, this]
theorem LooksAt.call {w w1 : World} {B : Nat} {G : Nat → Nat} (h : LooksAt w B G) (hb : Below w.heap.size w w1) : LooksAt w1 B G := by
  refine ⟨?_, fun p hp => ?_⟩
  · obtain ⟨es, clock, h1, h2⟩ := h.1
    exact ⟨es, clock, (hb.block B h.1.lt).trans h1, h2⟩
  · obtain ⟨h1, h2⟩ := h.2 p hp
    exact ⟨Nat.lt_of_lt_of_le h1 hb.size, (hb.cell (p := ⟨p.1, 0, none⟩) h1).trans h2⟩
end Go.Proofs.YtfejdengpnikeaaGreatDoor

namespace Go.Proofs.YtfejdengpnikeaaGreatDoor
open Go.RowKit
open Ast (Nd ndV ndC At12)

/-- The parts of the first nodes, as they lie: a kind and a text each. -/
def PartsAt (w : World) (r n : Nat) (f : Nat → Int × ByteArray) : Prop := r < w.heap.size ∧ ∀ i, i < n → w.cell? ⟨r, i * 2, none⟩ = some (.int .i64 (f i).1) ∧ w.cell? ⟨r, i * 2 + 1, none⟩ = some (.string (f i).2)
theorem PartsAt.call {w w' : World} {r n : Nat} {f : Nat → Int × ByteArray} (h : PartsAt w r n f) (hb : Below w.heap.size w w') : PartsAt w' r n f :=
  ⟨Nat.lt_of_lt_of_le h.1 hb.size, fun i hi => ⟨(hb.cell (p := ⟨r, i * 2, none⟩) h.1).trans (h.2 i hi).1, (hb.cell (p := ⟨r, i * 2 + 1, none⟩) h.1).trans (h.2 i hi).2⟩⟩
section
variable {ops : Array Oper} {R : World → Prop} {a : Act} {o : Oper} {x y : Operand}
theorem loadI_y {b j : Nat} (z : Int) (hR : ∀ u, R u → u.cell? ⟨b, j, none⟩ = some (.int .i64 z)) (ho : o.op = .load 3 x) (hx : a.eval x = .pointer (some ⟨b, j, none⟩)) (hw : Region.wanted o (yielded ops a.tmps) = true) : YieldsIf Tryz.prog ops R o (.int .i64 z) a := by
  refine Or.inl ⟨hw, fun u h => ?_⟩
  have hc := hR u h
  unfold execOp
  simp only [ho, hx]
  simp [go_sem, hc]
theorem loadS_y {b j : Nat} (s : ByteArray) (hR : ∀ u, R u → u.cell? ⟨b, j, none⟩ = some (.string s)) (ho : o.op = .load 9 x) (hx : a.eval x = .pointer (some ⟨b, j, none⟩)) (hw : Region.wanted o (yielded ops a.tmps) = true) : YieldsIf Tryz.prog ops R o (.string s) a := by
  refine Or.inl ⟨hw, fun u h => ?_⟩
  have hc := hR u h
  unfold execOp
  simp only [ho, hx]
  simp [go_sem, hc]
theorem loadP_y {b j : Nat} (z : Int) (s : ByteArray) (hR : ∀ u, R u → u.cell? ⟨b, j, none⟩ = some (.int .i64 z) ∧ u.cell? ⟨b, j + 1, none⟩ = some (.string s)) (ho : o.op = .load 60 x) (hx : a.eval x = .pointer (some ⟨b, j, none⟩)) (hw : Region.wanted o (yielded ops a.tmps) = true) : YieldsIf Tryz.prog ops R o (.agg #[.int .i64 z, .string s]) a := by
  refine Or.inl ⟨hw, fun u h => ?_⟩
  obtain ⟨h0, h1⟩ := hR u h
  unfold execOp
  simp only [ho, hx]
  simp [go_sem, h0, h1]
theorem idxP_y {r n cap i : Nat} (hi : i < n) (ho : o.op = .indexAddr 53 x y) (hx : a.eval x = .slice (some ⟨r, 0, none⟩) n cap) (hy : a.eval y = .int .i64 (i : Int)) (hw : Region.wanted o (yielded ops a.tmps) = true) : YieldsIf Tryz.prog ops R o (.pointer (some ⟨r, i * 2, none⟩)) a := by
  refine Or.inl ⟨hw, fun u _ => ?_⟩
  have i0 : (0 : Int) ≤ i := by omega
  have i1 : (i : Int) < n := by omega
  unfold execOp
  simp only [ho, hx, hy]
  go_simp
theorem catB_y (A B : ByteArray) (hz : A.size + B.size ≤ 100000000) (ho : o.op = .binOp .add 9 x y 9) (hx : a.eval x = .string A) (hy : a.eval y = .string B) (hw : Region.wanted o (yielded ops a.tmps) = true) : YieldsIf Tryz.prog ops R o (.string (A ++ B)) a := by
  refine Or.inl ⟨hw, fun w _ => ?_⟩
  have h : (Op.stringOp .add A B).run Tryz.prog w = .ok (.string (A ++ B)) w := run_string_add_sum w A B (by omega)
  unfold execOp
  simp only [ho, hx, hy]
  simp [go_sem, h]
end
theorem nodeBox (w : World) (x : Nd) : At12 (w.alloc (.cells (ndC x).toArray 55)) w.heap.size 0 x := by
  have h := heap_alloc_new w (.cells (ndC x).toArray 55)
  refine ⟨?_, ?_, ?_, ?_, ?_, ?_, ?_, ?_, ?_, ?_, ?_, ?_⟩ <;> exact (cell_of_row _ _ _ _ _ _ h).trans rfl
theorem has9 (k : Int) : ([9] : List Int).contains k = is9 k := by unfold is9; by_cases h : k = 9 <;> simp [h]
theorem has89 (k : Int) : ([8, 9] : List Int).contains k = is89 k := by unfold is89; by_cases h : k = 8 <;> by_cases h2 : k = 9 <;> simp [h, h2]
theorem has8a (k : Int) : ([8, 9, 10] : List Int).contains k = is8a k := by unfold is8a; by_cases h : k = 8 <;> by_cases h2 : k = 9 <;> by_cases h3 : k = 10 <;> simp [h, h2, h3]
theorem inB_size (b : Bool) (s : ByteArray) : (inB b s).size ≤ s.size + 4 := by
  unfold inB
  split
  · rw [ByteArray.size_append, ByteArray.size_append]; show 3 + s.size + 1 ≤ _; omega
  · omega
theorem often_size (mn mx : Int) : (oftenB mn mx).size ≤ 10 := by
  have h1 := num_size mn.toNat
  have h2 := num_size mx.toNat
  unfold oftenB
  repeat' split
  all_goals first
    | (show 1 ≤ 10; decide)
    | (simp only [ByteArray.size_append]; show 1 + _ + 1 + _ + 1 ≤ 10; omega)
    | (simp only [ByteArray.size_append]; show 1 + _ + 2 ≤ 10; omega)
    | (simp only [ByteArray.size_append]; show 1 + _ + 1 ≤ 10; omega)
theorem manner_size (md : Int) : (mannerB md).size ≤ 1 := by
  unfold mannerB
  repeat' split
  all_goals decide
theorem always1_any (s : ByteArray) (g : Nat) (x : Nd) (v : Value) (w : World) (hc : w.cell? ⟨g, 0, none⟩ = some (.string s)) (hg : g < w.heap.size) : Calls Tryz.prog 87 #[ndV x, v, .pointer (some ⟨g, 0, none⟩)] w fun e w' => e = .returned (.string s) ∧ Below w.heap.size w w' := by
  have hc2 := fun o => (((Below.refl w.heap.size w).alloc (Nat.le_refl _) o).cell (p := ⟨g, 0, none⟩) hg).trans hc
  clear hc hg
  go_enter Tryz.func87, Tryz.ntmps87
  go_wp2
  go_ret
  exact ⟨rfl, (Below.refl _ w).alloc (Nat.le_refl _) _⟩
theorem setOf_words {x : Nd} (h : x.s0 = W (setOf x) 0 ∧ x.s1 = W (setOf x) 1 ∧ x.s2 = W (setOf x) 2 ∧ x.s3 = W (setOf x) 3) : Value.agg #[.int .u64 x.s0, .int .u64 x.s1, .int .u64 x.s2, .int .u64 x.s3] = setV (setOf x) := by rw [h.1, h.2.1, h.2.2.1, h.2.2.2]
theorem bytes_any (x : Nd) (v : Value) (w : World) (hx : x.s0 = W (setOf x) 0 ∧ x.s1 = W (setOf x) 1 ∧ x.s2 = W (setOf x) 2 ∧ x.s3 = W (setOf x) 3) (ht : TabOk w) : Calls Tryz.prog 50 #[ndV x, v] w fun e w' => e = .returned (.string (setP (setOf x))) ∧ Below w.heap.size w w' := by
  have HS := Lib.hid (fun w h => set_any (setOf x) w h)
  have HT := Lib.hid ht
  generalize setOf x = S at hx HS ⊢
  obtain ⟨k, xa, xb, s0, s1, s2, s3, mn, mx, md, n, f⟩ := x
  obtain ⟨rfl, rfl, rfl, rfl⟩ := hx
  clear ht
  simp only [ndV]
  go_enter Tryz.func50, Tryz.ntmps50
  go_wp2_with fail
  refine (HS.out _ (HT.out.alloc _)).mono ?_
  rintro e w1 ⟨rfl, h1⟩
  have HB := Lib.hid (((Below.refl _ w).alloc (Nat.le_refl _) _).trans (h1.mono (by simp)))
  clear h1
  go_wp2
  go_ret
  exact ⟨rfl, HB.out⟩
set_option maxHeartbeats 1000000 in
theorem back_any (x : Nd) (v : Value) (w : World) (h1 : 1 ≤ x.n) (h9 : x.n ≤ 9) (hp : PowOk w) : Calls Tryz.prog 55 #[ndV x, v] w fun e w' => e = .returned (.string (if x.f = true then (⟨#[40, 63, 105, 58]⟩ ++ backT x) ++ ⟨#[41]⟩ else backT x)) ∧ Below w.heap.size w w' := by
  obtain ⟨m, hm⟩ : ∃ m : Nat, x.n = (m : Int) := ⟨x.n.toNat, by omega⟩
  have HI := Lib.hid (fun w h => itoa_any m (by omega) w h)
  have HP := Lib.hid hp
  have sz := num_size m
  unfold backT
  rw [hm, Int.toNat_natCast]
  generalize numT m = X at HI sz ⊢
  have s1 : ¬ 1 + X.size > 9223372036854775807 := by omega
  have s2 : ¬ 4 + (1 + X.size) > 9223372036854775807 := by omega
  have s3 : ¬ 4 + (1 + X.size) + 1 > 9223372036854775807 := by omega
  have HA := Lib.hid (nodeBox w x)
  have HBw := Lib.hid ((Below.refl w.heap.size w).alloc (Nat.le_refl _) (.cells (ndC x).toArray 55))
  obtain ⟨k, xa, xb, t0, t1, t2, t3, mn, mx, md, n, f⟩ := x
  simp only [] at hm
  subst hm
  clear hp h1 h9 sz
  simp only [ndV, ndC] at HA HBw ⊢
  cases f with
  | true =>
    rw [if_pos rfl]
    go_enter Tryz.func55, Tryz.ntmps55
    go_wp2_with fail
    refine (HI.out _ (HP.out.call HBw.out)).mono ?_
    rintro e w1 ⟨rfl, h1⟩
    have HB := Lib.hid (HBw.out.trans (h1.mono (by simp)))
    have hc : w1.cell? ⟨w.heap.size, 11, none⟩ = some (.bool true) := (h1.cell (p := ⟨w.heap.size, 11, none⟩) (by simp)).trans HA.out.2.2.2.2.2.2.2.2.2.2.2
    clear h1
    go_wp2
    go_ret
    exact ⟨rfl, HB.out⟩
  | false =>
    rw [if_neg (by decide)]
    go_enter Tryz.func55, Tryz.ntmps55
    go_wp2_with fail
    refine (HI.out _ (HP.out.call HBw.out)).mono ?_
    rintro e w1 ⟨rfl, h1⟩
    have HB := Lib.hid (HBw.out.trans (h1.mono (by simp)))
    have hc : w1.cell? ⟨w.heap.size, 11, none⟩ = some (.bool false) := (h1.cell (p := ⟨w.heap.size, 11, none⟩) (by simp)).trans HA.out.2.2.2.2.2.2.2.2.2.2.2
    clear h1
    go_wp2
    go_ret
    exact ⟨rfl, HB.out⟩
set_option maxRecDepth 20000 in
set_option maxHeartbeats 4000000 in
theorem opened1_any (x : Nd) (r cap n : Nat) (f : Nat → Int × ByteArray) (A : Nat) (w : World) (hxa : x.a = (A : Int)) (hA : A < n) (hP : PartsAt w r n f) (hsA : (f A).2.size ≤ 2000000) (s0 : ByteArray) (g : Nat) (hc : w.cell? ⟨g, 0, none⟩ = some (.string s0)) (hg : g < w.heap.size) (hs0 : s0.size ≤ 100) : Calls Tryz.prog 91 #[ndV x, .slice (some ⟨r, 0, none⟩) n cap, .pointer (some ⟨g, 0, none⟩)] w fun e w' => e = .returned (.string ((s0 ++ (f A).2) ++ ⟨#[41]⟩)) ∧ Below w.heap.size w w' := by
  have HA := Lib.hid (nodeBox w x)
  have HBw := Lib.hid ((Below.refl w.heap.size w).alloc (Nat.le_refl _) (.cells (ndC x).toArray 55))
  have HP := hP.call HBw.out
  have hr := HP.1
  have hgx : w.heap.size < (w.alloc (.cells (ndC x).toArray 55)).heap.size := by simp
  have hW : w.heap.size ≤ (w.alloc (.cells (ndC x).toArray 55)).heap.size := by simp
  obtain ⟨cA, dA⟩ := HP.2 A hA
  obtain ⟨kA, sA⟩ : ∃ k : Int × ByteArray, k = f A := ⟨_, rfl⟩
  rw [← sA] at cA dA hsA ⊢
  clear sA
  obtain ⟨kA, sA⟩ := kA
  replace hsA : sA.size ≤ 2000000 := hsA
  have cG := (HBw.out.cell (p := ⟨g, 0, none⟩) hg).trans hc
  have hgW := Nat.lt_of_lt_of_le hg hW
  clear hc hg
  obtain ⟨W0, hW0⟩ : ∃ W0, W0 = w.alloc (.cells (ndC x).toArray 55) := ⟨_, rfl⟩
  rw [← hW0] at HA HBw cA dA hr hgx hW cG hgW
  obtain ⟨k, xa, xb, t0, t1, t2, t3, mn, mx, md, nn, ff⟩ := x
  simp only [] at hxa cA dA ⊢
  subst hxa
  clear hP HP
  have HC := Lib.hid (And.intro cA (And.intro dA cG))
  clear cA dA cG
  simp only [ndV, ndC] at hW0 ⊢
  go_enter Tryz.func91, Tryz.ntmps91
  go_wp2_with fail
  rw [← hW0]
  obtain ⟨cA, dA, cG⟩ := HC.out
  refine wp_region_held_drew (S := fun u => Below W0.heap.size W0 u) (by kernel_rfl) (show _ from (Below.refl _ _).drew) (fun hS => ?_)
  generalize World.drew W0 = u0 at hS ⊢
  refine takeAt 0 6 (.string s0) rfl rfl (by kernel_rfl) (by kernel_rfl) (by kernel_rfl) (fun _ _ _ h => h) (loadS_y s0 (fun u h => (h.cell (p := ⟨g, 0, none⟩) hgW).trans cG) rfl rfl (by rfl)) hS ?_
  simp only [Act.put, List.setIfInBounds_toArray, List.set_cons_zero, List.set_cons_succ]
  refine takeAt 1 7 (.slice (some ⟨r, 0, none⟩) n cap) rfl rfl (by kernel_rfl) (by kernel_rfl) (by kernel_rfl) (fun _ _ _ h => h) (yields (by rfl) (fun w => by kernel_rfl)) hS ?_
  simp only [Act.put, List.setIfInBounds_toArray, List.set_cons_zero, List.set_cons_succ]
  refine takeAt 2 8 (.pointer (some ⟨w.heap.size, 1, none⟩)) rfl rfl (by kernel_rfl) (by kernel_rfl) (by kernel_rfl) (fun _ _ _ h => h) (yields (by rfl) (fun w => by kernel_rfl)) hS ?_
  simp only [Act.put, List.setIfInBounds_toArray, List.set_cons_zero, List.set_cons_succ]
  refine takeAt 3 9 (.int .i64 (A : Int)) rfl rfl (by kernel_rfl) (by kernel_rfl) (by kernel_rfl) (fun _ _ _ h => h) (loadI_y (A : Int) (fun u h => (h.cell (p := ⟨w.heap.size, 1, none⟩) hgx).trans HA.out.2.1) rfl rfl (by rfl)) hS ?_
  simp only [Act.put, List.setIfInBounds_toArray, List.set_cons_zero, List.set_cons_succ]
  refine takeAt 4 10 (.pointer (some ⟨r, A * 2, none⟩)) rfl rfl (by kernel_rfl) (by kernel_rfl) (by kernel_rfl) (fun _ _ _ h => h) (idxP_y hA rfl rfl rfl (by rfl)) hS ?_
  simp only [Act.put, List.setIfInBounds_toArray, List.set_cons_zero, List.set_cons_succ]
  refine takeAt 5 11 (.pointer (some ⟨r, A * 2 + 1, none⟩)) rfl rfl (by kernel_rfl) (by kernel_rfl) (by kernel_rfl) (fun _ _ _ h => h) (yields (by rfl) (fun w => by kernel_rfl)) hS ?_
  simp only [Act.put, List.setIfInBounds_toArray, List.set_cons_zero, List.set_cons_succ]
  refine takeAt 6 12 (.string sA) rfl rfl (by kernel_rfl) (by kernel_rfl) (by kernel_rfl) (fun _ _ _ h => h) (loadS_y sA (fun u h => (h.cell (p := ⟨r, A * 2 + 1, none⟩) hr).trans dA) rfl rfl (by rfl)) hS ?_
  simp only [Act.put, List.setIfInBounds_toArray, List.set_cons_zero, List.set_cons_succ]
  refine takeAt 7 13 (.string (s0 ++ sA)) rfl rfl (by kernel_rfl) (by kernel_rfl) (by kernel_rfl) (fun _ _ _ h => h) (catB_y s0 sA (by omega) rfl rfl rfl (by rfl)) hS ?_
  simp only [Act.put, List.setIfInBounds_toArray, List.set_cons_zero, List.set_cons_succ]
  refine takeAt 8 14 (.string ((s0 ++ sA) ++ ⟨#[41]⟩)) rfl rfl (by kernel_rfl) (by kernel_rfl) (by kernel_rfl) (fun _ _ _ h => h) (catB_y (s0 ++ sA) ⟨#[41]⟩ (by rw [ByteArray.size_append]; show s0.size + sA.size + 1 ≤ _; omega) rfl rfl rfl (by rfl)) hS ?_
  simp only [Act.put, List.setIfInBounds_toArray, List.set_cons_zero, List.set_cons_succ]
  refine takeAt 9 5 (.string ((s0 ++ sA) ++ ⟨#[41]⟩)) rfl rfl (by kernel_rfl) (by kernel_rfl) (by kernel_rfl) (fun _ _ _ h => h) (yields (by rfl) (fun w => by kernel_rfl)) hS ?_
  simp only [Act.put, List.setIfInBounds_toArray, List.set_cons_zero, List.set_cons_succ]
  refine wpAnyH_done (by kernel_rfl) ?_ _
  go_wp2
  go_ret
  exact ⟨rfl, HBw.out.trans (hS.mono hW)⟩
set_option maxRecDepth 20000 in
set_option maxHeartbeats 4000000 in
theorem cat_any (x : Nd) (r cap n : Nat) (f : Nat → Int × ByteArray) (A B : Nat) (w : World) (hxa : x.a = (A : Int)) (hxb : x.b = (B : Int)) (hA : A < n) (hB : B < n) (hP : PartsAt w r n f) (hsA : (f A).2.size ≤ 2000000) (hsB : (f B).2.size ≤ 2000000) : Calls Tryz.prog 51 #[ndV x, .slice (some ⟨r, 0, none⟩) n cap] w fun e w' => e = .returned (.string (inB (is9 (f A).1) (f A).2 ++ inB (is89 (f B).1) (f B).2)) ∧ Below w.heap.size w w' := by
  have HA := Lib.hid (nodeBox w x)
  have HBw := Lib.hid ((Below.refl w.heap.size w).alloc (Nat.le_refl _) (.cells (ndC x).toArray 55))
  have HP := hP.call HBw.out
  have hr := HP.1
  have hgx : w.heap.size < (w.alloc (.cells (ndC x).toArray 55)).heap.size := by simp
  have hW : w.heap.size ≤ (w.alloc (.cells (ndC x).toArray 55)).heap.size := by simp
  obtain ⟨cA, dA⟩ := HP.2 A hA
  obtain ⟨cB, dB⟩ := HP.2 B hB
  obtain ⟨kA, sA⟩ : ∃ k : Int × ByteArray, k = f A := ⟨_, rfl⟩
  rw [← sA] at cA dA hsA ⊢
  clear sA
  obtain ⟨kA, sA⟩ := kA
  replace hsA : sA.size ≤ 2000000 := hsA
  obtain ⟨kB, sB⟩ : ∃ k : Int × ByteArray, k = f B := ⟨_, rfl⟩
  rw [← sB] at cB dB hsB ⊢
  clear sB
  obtain ⟨kB, sB⟩ := kB
  replace hsB : sB.size ≤ 2000000 := hsB
  obtain ⟨W0, hW0⟩ : ∃ W0, W0 = w.alloc (.cells (ndC x).toArray 55) := ⟨_, rfl⟩
  rw [← hW0] at HA HBw cA dA cB dB hr hgx hW
  obtain ⟨k, xa, xb, t0, t1, t2, t3, mn, mx, md, nn, ff⟩ := x
  simp only [] at hxa hxb cA dA cB dB ⊢
  subst hxa hxb
  clear hP HP
  have HC := Lib.hid (And.intro cA (And.intro dA (And.intro cB dB)))
  clear cA dA cB dB
  simp only [ndV, ndC] at hW0 ⊢
  go_enter Tryz.func51, Tryz.ntmps51
  go_wp2_with fail
  rw [← hW0]
  obtain ⟨cA, dA, cB, dB⟩ := HC.out
  refine wp_region_held_drew (S := fun u => Below W0.heap.size W0 u) (by kernel_rfl) (show _ from (Below.refl _ _).drew) (fun hS => ?_)
  generalize World.drew W0 = u0 at hS ⊢
  refine takeAt 0 5 (.slice (some ⟨r, 0, none⟩) n cap) rfl rfl (by kernel_rfl) (by kernel_rfl) (by kernel_rfl) (fun _ _ _ h => h) (yields (by rfl) (fun w => by kernel_rfl)) hS ?_
  simp only [Act.put, List.setIfInBounds_toArray, List.set_cons_zero, List.set_cons_succ]
  refine takeAt 1 6 (.pointer (some ⟨w.heap.size, 1, none⟩)) rfl rfl (by kernel_rfl) (by kernel_rfl) (by kernel_rfl) (fun _ _ _ h => h) (yields (by rfl) (fun w => by kernel_rfl)) hS ?_
  simp only [Act.put, List.setIfInBounds_toArray, List.set_cons_zero, List.set_cons_succ]
  refine takeAt 2 7 (.int .i64 (A : Int)) rfl rfl (by kernel_rfl) (by kernel_rfl) (by kernel_rfl) (fun _ _ _ h => h) (loadI_y (A : Int) (fun u h => (h.cell (p := ⟨w.heap.size, 1, none⟩) hgx).trans HA.out.2.1) rfl rfl (by rfl)) hS ?_
  simp only [Act.put, List.setIfInBounds_toArray, List.set_cons_zero, List.set_cons_succ]
  refine takeAt 3 8 (.pointer (some ⟨r, A * 2, none⟩)) rfl rfl (by kernel_rfl) (by kernel_rfl) (by kernel_rfl) (fun _ _ _ h => h) (idxP_y hA rfl rfl rfl (by rfl)) hS ?_
  simp only [Act.put, List.setIfInBounds_toArray, List.set_cons_zero, List.set_cons_succ]
  refine takeAt 4 9 (.agg #[.int .i64 kA, .string sA]) rfl rfl (by kernel_rfl) (by kernel_rfl) (by kernel_rfl) (fun _ _ _ h => h) (loadP_y kA sA (fun u h => ⟨(h.cell (p := ⟨r, A * 2, none⟩) hr).trans cA, (h.cell (p := ⟨r, A * 2 + 1, none⟩) hr).trans dA⟩) rfl rfl (by rfl)) hS ?_
  simp only [Act.put, List.setIfInBounds_toArray, List.set_cons_zero, List.set_cons_succ]
  refine takeAt 7 12 (.slice (some ⟨r, 0, none⟩) n cap) rfl rfl (by kernel_rfl) (by kernel_rfl) (by kernel_rfl) (fun _ _ _ h => h) (yields (by rfl) (fun w => by kernel_rfl)) hS ?_
  simp only [Act.put, List.setIfInBounds_toArray, List.set_cons_zero, List.set_cons_succ]
  refine takeAt 8 13 (.pointer (some ⟨w.heap.size, 2, none⟩)) rfl rfl (by kernel_rfl) (by kernel_rfl) (by kernel_rfl) (fun _ _ _ h => h) (yields (by rfl) (fun w => by kernel_rfl)) hS ?_
  simp only [Act.put, List.setIfInBounds_toArray, List.set_cons_zero, List.set_cons_succ]
  refine takeAt 9 14 (.int .i64 (B : Int)) rfl rfl (by kernel_rfl) (by kernel_rfl) (by kernel_rfl) (fun _ _ _ h => h) (loadI_y (B : Int) (fun u h => (h.cell (p := ⟨w.heap.size, 2, none⟩) hgx).trans HA.out.2.2.1) rfl rfl (by rfl)) hS ?_
  simp only [Act.put, List.setIfInBounds_toArray, List.set_cons_zero, List.set_cons_succ]
  refine takeAt 10 15 (.pointer (some ⟨r, B * 2, none⟩)) rfl rfl (by kernel_rfl) (by kernel_rfl) (by kernel_rfl) (fun _ _ _ h => h) (idxP_y hB rfl rfl rfl (by rfl)) hS ?_
  simp only [Act.put, List.setIfInBounds_toArray, List.set_cons_zero, List.set_cons_succ]
  refine takeAt 11 16 (.agg #[.int .i64 kB, .string sB]) rfl rfl (by kernel_rfl) (by kernel_rfl) (by kernel_rfl) (fun _ _ _ h => h) (loadP_y kB sB (fun u h => ⟨(h.cell (p := ⟨r, B * 2, none⟩) hr).trans cB, (h.cell (p := ⟨r, B * 2 + 1, none⟩) hr).trans dB⟩) rfl rfl (by rfl)) hS ?_
  simp only [Act.put, List.setIfInBounds_toArray, List.set_cons_zero, List.set_cons_succ]
  refine wpAnyH_ready (rs := [5, 12]) (by kernel_rfl) (by simp) (AllReadyH.cons rfl ?_ (AllReadyH.cons rfl ?_ AllReadyH.nil))
  · refine valStep 5 10 (.slice (some ⟨(u0).heap.size, 0, none⟩) 1 1) (World.alloc u0 (.cells #[.int .i64 9] 3)) rfl (by rfl) (by kernel_rfl) (hS.alloc hS.size _) ?_
    simp only [Act.put, List.setIfInBounds_toArray, List.set_cons_zero, List.set_cons_succ]
    obtain ⟨v1, hv1⟩ : ∃ v, v = (World.alloc u0 (.cells #[.int .i64 9] 3)) := ⟨_, rfl⟩
    have hI5 : IntsAt v1 (u0).heap.size [9] := by rw [hv1]; exact IntsAt.new u0 [9] 3
    have hS : Below W0.heap.size W0 v1 := by rw [hv1]; exact hS.alloc hS.size _
    obtain ⟨g1, hg1⟩ : ∃ g, g = (u0).heap.size := ⟨_, rfl⟩
    rw [← hv1]
    rw [← hg1] at hI5 ⊢
    clear hv1 hg1
    refine wpAnyH_ready (rs := [6, 12]) (by kernel_rfl) (by simp) (AllReadyH.cons rfl ?_ (AllReadyH.cons rfl ?_ AllReadyH.nil))
    · refine callStep 6 11 rfl (by rfl) (by kernel_rfl) (but_any kA sA g1 [9] 1 1 (is9 kA) _ hI5 rfl (by decide) (has9 kA) (by omega)) ?_
      rintro e v2 ⟨rfl, hb⟩
      have hI5 := hI5.call hb
      have hS := thenB hS hb hS.size
      refine ⟨_, rfl, hS, ?_⟩
      simp only [Act.put, List.setIfInBounds_toArray, List.set_cons_zero, List.set_cons_succ]
      clear hb
      refine valAt 12 17 (.slice (some ⟨(v2).heap.size, 0, none⟩) 2 2) (World.alloc v2 (.cells #[.int .i64 8, .int .i64 9] 3)) rfl rfl (by kernel_rfl) (by rfl) (by kernel_rfl) (hS.alloc hS.size _) ?_
      simp only [Act.put, List.setIfInBounds_toArray, List.set_cons_zero, List.set_cons_succ]
      obtain ⟨v3, hv3⟩ : ∃ v, v = (World.alloc v2 (.cells #[.int .i64 8, .int .i64 9] 3)) := ⟨_, rfl⟩
      have hI12 : IntsAt v3 (v2).heap.size [8, 9] := by rw [hv3]; exact IntsAt.new v2 [8, 9] 3
      have hI5 : IntsAt v3 g1 [9] := by rw [hv3]; exact hI5.alloc _
      have hS : Below W0.heap.size W0 v3 := by rw [hv3]; exact hS.alloc hS.size _
      obtain ⟨g3, hg3⟩ : ∃ g, g = (v2).heap.size := ⟨_, rfl⟩
      rw [← hv3]
      rw [← hg3] at hI12 ⊢
      clear hv3 hg3
      refine callAt 13 18 rfl rfl (by kernel_rfl) (by rfl) (by kernel_rfl) (but_any kB sB g3 [8, 9] 2 2 (is89 kB) _ hI12 rfl (by decide) (has89 kB) (by omega)) ?_
      rintro e v4 ⟨rfl, hb⟩
      have hI5 := hI5.call hb
      have hI12 := hI12.call hb
      have hS := thenB hS hb hS.size
      refine ⟨_, rfl, hS, ?_⟩
      simp only [Act.put, List.setIfInBounds_toArray, List.set_cons_zero, List.set_cons_succ]
      clear hb
      refine takeAt 14 19 (.string (inB (is9 kA) sA ++ inB (is89 kB) sB)) rfl rfl (by kernel_rfl) (by kernel_rfl) (by kernel_rfl) (fun _ _ _ h => h) (catB_y _ _ (by have a1 := inB_size (is9 kA) sA; have a2 := inB_size (is89 kB) sB; omega) rfl rfl rfl (by rfl)) hS ?_
      simp only [Act.put, List.setIfInBounds_toArray, List.set_cons_zero, List.set_cons_succ]
      refine takeAt 15 4 (.string (inB (is9 kA) sA ++ inB (is89 kB) sB)) rfl rfl (by kernel_rfl) (by kernel_rfl) (by kernel_rfl) (fun _ _ _ h => h) (yields (by rfl) (fun w => by kernel_rfl)) hS ?_
      simp only [Act.put, List.setIfInBounds_toArray, List.set_cons_zero, List.set_cons_succ]
      refine wpAnyH_done (by kernel_rfl) ?_ _
      go_wp2
      go_ret
      exact ⟨rfl, HBw.out.trans (hS.mono hW)⟩
    · refine valStep 12 17 (.slice (some ⟨(v1).heap.size, 0, none⟩) 2 2) (World.alloc v1 (.cells #[.int .i64 8, .int .i64 9] 3)) rfl (by rfl) (by kernel_rfl) (hS.alloc hS.size _) ?_
      simp only [Act.put, List.setIfInBounds_toArray, List.set_cons_zero, List.set_cons_succ]
      obtain ⟨v5, hv5⟩ : ∃ v, v = (World.alloc v1 (.cells #[.int .i64 8, .int .i64 9] 3)) := ⟨_, rfl⟩
      have hI12 : IntsAt v5 (v1).heap.size [8, 9] := by rw [hv5]; exact IntsAt.new v1 [8, 9] 3
      have hI5 : IntsAt v5 g1 [9] := by rw [hv5]; exact hI5.alloc _
      have hS : Below W0.heap.size W0 v5 := by rw [hv5]; exact hS.alloc hS.size _
      obtain ⟨g5, hg5⟩ : ∃ g, g = (v1).heap.size := ⟨_, rfl⟩
      rw [← hv5]
      rw [← hg5] at hI12 ⊢
      clear hv5 hg5
      refine callAt 6 11 rfl rfl (by kernel_rfl) (by rfl) (by kernel_rfl) (but_any kA sA g1 [9] 1 1 (is9 kA) _ hI5 rfl (by decide) (has9 kA) (by omega)) ?_
      rintro e v6 ⟨rfl, hb⟩
      have hI5 := hI5.call hb
      have hI12 := hI12.call hb
      have hS := thenB hS hb hS.size
      refine ⟨_, rfl, hS, ?_⟩
      simp only [Act.put, List.setIfInBounds_toArray, List.set_cons_zero, List.set_cons_succ]
      clear hb
      refine callAt 13 18 rfl rfl (by kernel_rfl) (by rfl) (by kernel_rfl) (but_any kB sB g5 [8, 9] 2 2 (is89 kB) _ hI12 rfl (by decide) (has89 kB) (by omega)) ?_
      rintro e v7 ⟨rfl, hb⟩
      have hI5 := hI5.call hb
      have hI12 := hI12.call hb
      have hS := thenB hS hb hS.size
      refine ⟨_, rfl, hS, ?_⟩
      simp only [Act.put, List.setIfInBounds_toArray, List.set_cons_zero, List.set_cons_succ]
      clear hb
      refine takeAt 14 19 (.string (inB (is9 kA) sA ++ inB (is89 kB) sB)) rfl rfl (by kernel_rfl) (by kernel_rfl) (by kernel_rfl) (fun _ _ _ h => h) (catB_y _ _ (by have a1 := inB_size (is9 kA) sA; have a2 := inB_size (is89 kB) sB; omega) rfl rfl rfl (by rfl)) hS ?_
      simp only [Act.put, List.setIfInBounds_toArray, List.set_cons_zero, List.set_cons_succ]
      refine takeAt 15 4 (.string (inB (is9 kA) sA ++ inB (is89 kB) sB)) rfl rfl (by kernel_rfl) (by kernel_rfl) (by kernel_rfl) (fun _ _ _ h => h) (yields (by rfl) (fun w => by kernel_rfl)) hS ?_
      simp only [Act.put, List.setIfInBounds_toArray, List.set_cons_zero, List.set_cons_succ]
      refine wpAnyH_done (by kernel_rfl) ?_ _
      go_wp2
      go_ret
      exact ⟨rfl, HBw.out.trans (hS.mono hW)⟩
  · refine valStep 12 17 (.slice (some ⟨(u0).heap.size, 0, none⟩) 2 2) (World.alloc u0 (.cells #[.int .i64 8, .int .i64 9] 3)) rfl (by rfl) (by kernel_rfl) (hS.alloc hS.size _) ?_
    simp only [Act.put, List.setIfInBounds_toArray, List.set_cons_zero, List.set_cons_succ]
    obtain ⟨v8, hv8⟩ : ∃ v, v = (World.alloc u0 (.cells #[.int .i64 8, .int .i64 9] 3)) := ⟨_, rfl⟩
    have hI12 : IntsAt v8 (u0).heap.size [8, 9] := by rw [hv8]; exact IntsAt.new u0 [8, 9] 3
    have hS : Below W0.heap.size W0 v8 := by rw [hv8]; exact hS.alloc hS.size _
    obtain ⟨g8, hg8⟩ : ∃ g, g = (u0).heap.size := ⟨_, rfl⟩
    rw [← hv8]
    rw [← hg8] at hI12 ⊢
    clear hv8 hg8
    refine valAt 5 10 (.slice (some ⟨(v8).heap.size, 0, none⟩) 1 1) (World.alloc v8 (.cells #[.int .i64 9] 3)) rfl rfl (by kernel_rfl) (by rfl) (by kernel_rfl) (hS.alloc hS.size _) ?_
    simp only [Act.put, List.setIfInBounds_toArray, List.set_cons_zero, List.set_cons_succ]
    obtain ⟨v9, hv9⟩ : ∃ v, v = (World.alloc v8 (.cells #[.int .i64 9] 3)) := ⟨_, rfl⟩
    have hI5 : IntsAt v9 (v8).heap.size [9] := by rw [hv9]; exact IntsAt.new v8 [9] 3
    have hI12 : IntsAt v9 g8 [8, 9] := by rw [hv9]; exact hI12.alloc _
    have hS : Below W0.heap.size W0 v9 := by rw [hv9]; exact hS.alloc hS.size _
    obtain ⟨g9, hg9⟩ : ∃ g, g = (v8).heap.size := ⟨_, rfl⟩
    rw [← hv9]
    rw [← hg9] at hI5 ⊢
    clear hv9 hg9
    refine callAt 6 11 rfl rfl (by kernel_rfl) (by rfl) (by kernel_rfl) (but_any kA sA g9 [9] 1 1 (is9 kA) _ hI5 rfl (by decide) (has9 kA) (by omega)) ?_
    rintro e v10 ⟨rfl, hb⟩
    have hI12 := hI12.call hb
    have hI5 := hI5.call hb
    have hS := thenB hS hb hS.size
    refine ⟨_, rfl, hS, ?_⟩
    simp only [Act.put, List.setIfInBounds_toArray, List.set_cons_zero, List.set_cons_succ]
    clear hb
    refine callAt 13 18 rfl rfl (by kernel_rfl) (by rfl) (by kernel_rfl) (but_any kB sB g8 [8, 9] 2 2 (is89 kB) _ hI12 rfl (by decide) (has89 kB) (by omega)) ?_
    rintro e v11 ⟨rfl, hb⟩
    have hI12 := hI12.call hb
    have hI5 := hI5.call hb
    have hS := thenB hS hb hS.size
    refine ⟨_, rfl, hS, ?_⟩
    simp only [Act.put, List.setIfInBounds_toArray, List.set_cons_zero, List.set_cons_succ]
    clear hb
    refine takeAt 14 19 (.string (inB (is9 kA) sA ++ inB (is89 kB) sB)) rfl rfl (by kernel_rfl) (by kernel_rfl) (by kernel_rfl) (fun _ _ _ h => h) (catB_y _ _ (by have a1 := inB_size (is9 kA) sA; have a2 := inB_size (is89 kB) sB; omega) rfl rfl rfl (by rfl)) hS ?_
    simp only [Act.put, List.setIfInBounds_toArray, List.set_cons_zero, List.set_cons_succ]
    refine takeAt 15 4 (.string (inB (is9 kA) sA ++ inB (is89 kB) sB)) rfl rfl (by kernel_rfl) (by kernel_rfl) (by kernel_rfl) (fun _ _ _ h => h) (yields (by rfl) (fun w => by kernel_rfl)) hS ?_
    simp only [Act.put, List.setIfInBounds_toArray, List.set_cons_zero, List.set_cons_succ]
    refine wpAnyH_done (by kernel_rfl) ?_ _
    go_wp2
    go_ret
    exact ⟨rfl, HBw.out.trans (hS.mono hW)⟩
set_option maxRecDepth 20000 in
set_option maxHeartbeats 4000000 in
theorem alt_any (x : Nd) (r cap n : Nat) (f : Nat → Int × ByteArray) (A B : Nat) (w : World) (hxa : x.a = (A : Int)) (hxb : x.b = (B : Int)) (hA : A < n) (hB : B < n) (hP : PartsAt w r n f) (hsA : (f A).2.size ≤ 2000000) (hsB : (f B).2.size ≤ 2000000) : Calls Tryz.prog 52 #[ndV x, .slice (some ⟨r, 0, none⟩) n cap] w fun e w' => e = .returned (.string (((f A).2 ++ ⟨#[124]⟩) ++ inB (is9 (f B).1) (f B).2)) ∧ Below w.heap.size w w' := by
  have HA := Lib.hid (nodeBox w x)
  have HBw := Lib.hid ((Below.refl w.heap.size w).alloc (Nat.le_refl _) (.cells (ndC x).toArray 55))
  have HP := hP.call HBw.out
  have hr := HP.1
  have hgx : w.heap.size < (w.alloc (.cells (ndC x).toArray 55)).heap.size := by simp
  have hW : w.heap.size ≤ (w.alloc (.cells (ndC x).toArray 55)).heap.size := by simp
  obtain ⟨cA, dA⟩ := HP.2 A hA
  obtain ⟨cB, dB⟩ := HP.2 B hB
  obtain ⟨kA, sA⟩ : ∃ k : Int × ByteArray, k = f A := ⟨_, rfl⟩
  rw [← sA] at cA dA hsA ⊢
  clear sA
  obtain ⟨kA, sA⟩ := kA
  replace hsA : sA.size ≤ 2000000 := hsA
  obtain ⟨kB, sB⟩ : ∃ k : Int × ByteArray, k = f B := ⟨_, rfl⟩
  rw [← sB] at cB dB hsB ⊢
  clear sB
  obtain ⟨kB, sB⟩ := kB
  replace hsB : sB.size ≤ 2000000 := hsB
  obtain ⟨W0, hW0⟩ : ∃ W0, W0 = w.alloc (.cells (ndC x).toArray 55) := ⟨_, rfl⟩
  rw [← hW0] at HA HBw cA dA cB dB hr hgx hW
  obtain ⟨k, xa, xb, t0, t1, t2, t3, mn, mx, md, nn, ff⟩ := x
  simp only [] at hxa hxb cA dA cB dB ⊢
  subst hxa hxb
  clear hP HP
  have HC := Lib.hid (And.intro cA (And.intro dA (And.intro cB dB)))
  clear cA dA cB dB
  simp only [ndV, ndC] at hW0 ⊢
  go_enter Tryz.func52, Tryz.ntmps52
  go_wp2_with fail
  rw [← hW0]
  obtain ⟨cA, dA, cB, dB⟩ := HC.out
  refine wp_region_held_drew (S := fun u => Below W0.heap.size W0 u) (by kernel_rfl) (show _ from (Below.refl _ _).drew) (fun hS => ?_)
  generalize World.drew W0 = u0 at hS ⊢
  refine takeAt 0 5 (.slice (some ⟨r, 0, none⟩) n cap) rfl rfl (by kernel_rfl) (by kernel_rfl) (by kernel_rfl) (fun _ _ _ h => h) (yields (by rfl) (fun w => by kernel_rfl)) hS ?_
  simp only [Act.put, List.setIfInBounds_toArray, List.set_cons_zero, List.set_cons_succ]
  refine takeAt 1 6 (.pointer (some ⟨w.heap.size, 1, none⟩)) rfl rfl (by kernel_rfl) (by kernel_rfl) (by kernel_rfl) (fun _ _ _ h => h) (yields (by rfl) (fun w => by kernel_rfl)) hS ?_
  simp only [Act.put, List.setIfInBounds_toArray, List.set_cons_zero, List.set_cons_succ]
  refine takeAt 2 7 (.int .i64 (A : Int)) rfl rfl (by kernel_rfl) (by kernel_rfl) (by kernel_rfl) (fun _ _ _ h => h) (loadI_y (A : Int) (fun u h => (h.cell (p := ⟨w.heap.size, 1, none⟩) hgx).trans HA.out.2.1) rfl rfl (by rfl)) hS ?_
  simp only [Act.put, List.setIfInBounds_toArray, List.set_cons_zero, List.set_cons_succ]
  refine takeAt 3 8 (.pointer (some ⟨r, A * 2, none⟩)) rfl rfl (by kernel_rfl) (by kernel_rfl) (by kernel_rfl) (fun _ _ _ h => h) (idxP_y hA rfl rfl rfl (by rfl)) hS ?_
  simp only [Act.put, List.setIfInBounds_toArray, List.set_cons_zero, List.set_cons_succ]
  refine takeAt 4 9 (.pointer (some ⟨r, A * 2 + 1, none⟩)) rfl rfl (by kernel_rfl) (by kernel_rfl) (by kernel_rfl) (fun _ _ _ h => h) (yields (by rfl) (fun w => by kernel_rfl)) hS ?_
  simp only [Act.put, List.setIfInBounds_toArray, List.set_cons_zero, List.set_cons_succ]
  refine takeAt 5 10 (.string sA) rfl rfl (by kernel_rfl) (by kernel_rfl) (by kernel_rfl) (fun _ _ _ h => h) (loadS_y sA (fun u h => (h.cell (p := ⟨r, A * 2 + 1, none⟩) hr).trans dA) rfl rfl (by rfl)) hS ?_
  simp only [Act.put, List.setIfInBounds_toArray, List.set_cons_zero, List.set_cons_succ]
  refine takeAt 6 11 (.string (sA ++ ⟨#[124]⟩)) rfl rfl (by kernel_rfl) (by kernel_rfl) (by kernel_rfl) (fun _ _ _ h => h) (catB_y sA ⟨#[124]⟩ (by show sA.size + 1 ≤ _; omega) rfl rfl rfl (by rfl)) hS ?_
  simp only [Act.put, List.setIfInBounds_toArray, List.set_cons_zero, List.set_cons_succ]
  refine takeAt 7 12 (.slice (some ⟨r, 0, none⟩) n cap) rfl rfl (by kernel_rfl) (by kernel_rfl) (by kernel_rfl) (fun _ _ _ h => h) (yields (by rfl) (fun w => by kernel_rfl)) hS ?_
  simp only [Act.put, List.setIfInBounds_toArray, List.set_cons_zero, List.set_cons_succ]
  refine takeAt 8 13 (.pointer (some ⟨w.heap.size, 2, none⟩)) rfl rfl (by kernel_rfl) (by kernel_rfl) (by kernel_rfl) (fun _ _ _ h => h) (yields (by rfl) (fun w => by kernel_rfl)) hS ?_
  simp only [Act.put, List.setIfInBounds_toArray, List.set_cons_zero, List.set_cons_succ]
  refine takeAt 9 14 (.int .i64 (B : Int)) rfl rfl (by kernel_rfl) (by kernel_rfl) (by kernel_rfl) (fun _ _ _ h => h) (loadI_y (B : Int) (fun u h => (h.cell (p := ⟨w.heap.size, 2, none⟩) hgx).trans HA.out.2.2.1) rfl rfl (by rfl)) hS ?_
  simp only [Act.put, List.setIfInBounds_toArray, List.set_cons_zero, List.set_cons_succ]
  refine takeAt 10 15 (.pointer (some ⟨r, B * 2, none⟩)) rfl rfl (by kernel_rfl) (by kernel_rfl) (by kernel_rfl) (fun _ _ _ h => h) (idxP_y hB rfl rfl rfl (by rfl)) hS ?_
  simp only [Act.put, List.setIfInBounds_toArray, List.set_cons_zero, List.set_cons_succ]
  refine takeAt 11 16 (.agg #[.int .i64 kB, .string sB]) rfl rfl (by kernel_rfl) (by kernel_rfl) (by kernel_rfl) (fun _ _ _ h => h) (loadP_y kB sB (fun u h => ⟨(h.cell (p := ⟨r, B * 2, none⟩) hr).trans cB, (h.cell (p := ⟨r, B * 2 + 1, none⟩) hr).trans dB⟩) rfl rfl (by rfl)) hS ?_
  simp only [Act.put, List.setIfInBounds_toArray, List.set_cons_zero, List.set_cons_succ]
  refine valAt 12 17 (.slice (some ⟨(u0).heap.size, 0, none⟩) 1 1) (World.alloc u0 (.cells #[.int .i64 9] 3)) rfl rfl (by kernel_rfl) (by rfl) (by kernel_rfl) (hS.alloc hS.size _) ?_
  simp only [Act.put, List.setIfInBounds_toArray, List.set_cons_zero, List.set_cons_succ]
  obtain ⟨v1, hv1⟩ : ∃ v, v = (World.alloc u0 (.cells #[.int .i64 9] 3)) := ⟨_, rfl⟩
  have hI12 : IntsAt v1 (u0).heap.size [9] := by rw [hv1]; exact IntsAt.new u0 [9] 3
  have hS : Below W0.heap.size W0 v1 := by rw [hv1]; exact hS.alloc hS.size _
  obtain ⟨g1, hg1⟩ : ∃ g, g = (u0).heap.size := ⟨_, rfl⟩
  rw [← hv1]
  rw [← hg1] at hI12 ⊢
  clear hv1 hg1
  refine callAt 13 18 rfl rfl (by kernel_rfl) (by rfl) (by kernel_rfl) (but_any kB sB g1 [9] 1 1 (is9 kB) _ hI12 rfl (by decide) (has9 kB) (by omega)) ?_
  rintro e v2 ⟨rfl, hb⟩
  have hI12 := hI12.call hb
  have hS := thenB hS hb hS.size
  refine ⟨_, rfl, hS, ?_⟩
  simp only [Act.put, List.setIfInBounds_toArray, List.set_cons_zero, List.set_cons_succ]
  clear hb
  refine takeAt 14 19 (.string ((sA ++ ⟨#[124]⟩) ++ inB (is9 kB) sB)) rfl rfl (by kernel_rfl) (by kernel_rfl) (by kernel_rfl) (fun _ _ _ h => h) (catB_y _ _ (by have a2 := inB_size (is9 kB) sB; rw [ByteArray.size_append]; show sA.size + 1 + _ ≤ _; omega) rfl rfl rfl (by rfl)) hS ?_
  simp only [Act.put, List.setIfInBounds_toArray, List.set_cons_zero, List.set_cons_succ]
  refine takeAt 15 4 (.string ((sA ++ ⟨#[124]⟩) ++ inB (is9 kB) sB)) rfl rfl (by kernel_rfl) (by kernel_rfl) (by kernel_rfl) (fun _ _ _ h => h) (yields (by rfl) (fun w => by kernel_rfl)) hS ?_
  simp only [Act.put, List.setIfInBounds_toArray, List.set_cons_zero, List.set_cons_succ]
  refine wpAnyH_done (by kernel_rfl) ?_ _
  go_wp2
  go_ret
  exact ⟨rfl, HBw.out.trans (hS.mono hW)⟩
set_option maxRecDepth 20000 in
set_option maxHeartbeats 4000000 in
theorem repeat_any (x : Nd) (r cap n : Nat) (f : Nat → Int × ByteArray) (A : Nat) (w : World) (hxa : x.a = (A : Int)) (hA : A < n) (hP : PartsAt w r n f) (hsA : (f A).2.size ≤ 2000000) (hf : 0 ≤ x.mn ∧ x.mn ≤ 100 ∧ x.mx ≤ 100 ∧ (x.mx = -1 ∨ x.mn ≤ x.mx) ∧ 0 ≤ x.md ∧ x.md ≤ 2) (hp : PowOk w) : Calls Tryz.prog 53 #[ndV x, .slice (some ⟨r, 0, none⟩) n cap] w fun e w' => e = .returned (.string ((inB (is8a (f A).1) (f A).2 ++ oftenB x.mn x.mx) ++ mannerB x.md)) ∧ Below w.heap.size w w' := by
  have HA := Lib.hid (nodeBox w x)
  have HBw := Lib.hid ((Below.refl w.heap.size w).alloc (Nat.le_refl _) (.cells (ndC x).toArray 55))
  have HP := hP.call HBw.out
  have hr := HP.1
  have hgx : w.heap.size < (w.alloc (.cells (ndC x).toArray 55)).heap.size := by simp
  have hW : w.heap.size ≤ (w.alloc (.cells (ndC x).toArray 55)).heap.size := by simp
  obtain ⟨cA, dA⟩ := HP.2 A hA
  obtain ⟨kA, sA⟩ : ∃ k : Int × ByteArray, k = f A := ⟨_, rfl⟩
  rw [← sA] at cA dA hsA ⊢
  clear sA
  obtain ⟨kA, sA⟩ := kA
  replace hsA : sA.size ≤ 2000000 := hsA
  have HO := Lib.hid (fun w h => often_any x.mn x.mx ⟨hf.1, hf.2.1, hf.2.2.1, hf.2.2.2.1⟩ w h)
  have HM := Lib.hid (fun w => manner_any x.md hf.2.2.2.2.1 hf.2.2.2.2.2 w)
  have HPw := Lib.hid (hp.call HBw.out)
  have so := often_size x.mn x.mx
  have sm := manner_size x.md
  clear hf hp
  obtain ⟨W0, hW0⟩ : ∃ W0, W0 = w.alloc (.cells (ndC x).toArray 55) := ⟨_, rfl⟩
  rw [← hW0] at HA HBw cA dA hr hgx hW HPw
  obtain ⟨k, xa, xb, t0, t1, t2, t3, mn, mx, md, nn, ff⟩ := x
  simp only [] at hxa cA dA HO HM so sm ⊢
  subst hxa
  clear hP HP
  have HC := Lib.hid (And.intro cA (And.intro dA trivial))
  clear cA dA
  simp only [ndV, ndC] at hW0 ⊢
  go_enter Tryz.func53, Tryz.ntmps53
  go_wp2_with fail
  rw [← hW0]
  obtain ⟨cA, dA, -⟩ := HC.out
  refine wp_region_held_drew (S := fun u => Below W0.heap.size W0 u) (by kernel_rfl) (show _ from (Below.refl _ _).drew) (fun hS => ?_)
  generalize World.drew W0 = u0 at hS ⊢
  refine takeAt 0 5 (.slice (some ⟨r, 0, none⟩) n cap) rfl rfl (by kernel_rfl) (by kernel_rfl) (by kernel_rfl) (fun _ _ _ h => h) (yields (by rfl) (fun w => by kernel_rfl)) hS ?_
  simp only [Act.put, List.setIfInBounds_toArray, List.set_cons_zero, List.set_cons_succ]
  refine takeAt 1 6 (.pointer (some ⟨w.heap.size, 1, none⟩)) rfl rfl (by kernel_rfl) (by kernel_rfl) (by kernel_rfl) (fun _ _ _ h => h) (yields (by rfl) (fun w => by kernel_rfl)) hS ?_
  simp only [Act.put, List.setIfInBounds_toArray, List.set_cons_zero, List.set_cons_succ]
  refine takeAt 2 7 (.int .i64 (A : Int)) rfl rfl (by kernel_rfl) (by kernel_rfl) (by kernel_rfl) (fun _ _ _ h => h) (loadI_y (A : Int) (fun u h => (h.cell (p := ⟨w.heap.size, 1, none⟩) hgx).trans HA.out.2.1) rfl rfl (by rfl)) hS ?_
  simp only [Act.put, List.setIfInBounds_toArray, List.set_cons_zero, List.set_cons_succ]
  refine takeAt 3 8 (.pointer (some ⟨r, A * 2, none⟩)) rfl rfl (by kernel_rfl) (by kernel_rfl) (by kernel_rfl) (fun _ _ _ h => h) (idxP_y hA rfl rfl rfl (by rfl)) hS ?_
  simp only [Act.put, List.setIfInBounds_toArray, List.set_cons_zero, List.set_cons_succ]
  refine takeAt 4 9 (.agg #[.int .i64 kA, .string sA]) rfl rfl (by kernel_rfl) (by kernel_rfl) (by kernel_rfl) (fun _ _ _ h => h) (loadP_y kA sA (fun u h => ⟨(h.cell (p := ⟨r, A * 2, none⟩) hr).trans cA, (h.cell (p := ⟨r, A * 2 + 1, none⟩) hr).trans dA⟩) rfl rfl (by rfl)) hS ?_
  simp only [Act.put, List.setIfInBounds_toArray, List.set_cons_zero, List.set_cons_succ]
  refine takeAt 7 12 (.pointer (some ⟨w.heap.size, 7, none⟩)) rfl rfl (by kernel_rfl) (by kernel_rfl) (by kernel_rfl) (fun _ _ _ h => h) (yields (by rfl) (fun w => by kernel_rfl)) hS ?_
  simp only [Act.put, List.setIfInBounds_toArray, List.set_cons_zero, List.set_cons_succ]
  refine takeAt 8 13 (.int .i64 mn) rfl rfl (by kernel_rfl) (by kernel_rfl) (by kernel_rfl) (fun _ _ _ h => h) (loadI_y mn (fun u h => (h.cell (p := ⟨w.heap.size, 7, none⟩) hgx).trans HA.out.2.2.2.2.2.2.2.1) rfl rfl (by rfl)) hS ?_
  simp only [Act.put, List.setIfInBounds_toArray, List.set_cons_zero, List.set_cons_succ]
  refine takeAt 9 14 (.pointer (some ⟨w.heap.size, 8, none⟩)) rfl rfl (by kernel_rfl) (by kernel_rfl) (by kernel_rfl) (fun _ _ _ h => h) (yields (by rfl) (fun w => by kernel_rfl)) hS ?_
  simp only [Act.put, List.setIfInBounds_toArray, List.set_cons_zero, List.set_cons_succ]
  refine takeAt 10 15 (.int .i64 mx) rfl rfl (by kernel_rfl) (by kernel_rfl) (by kernel_rfl) (fun _ _ _ h => h) (loadI_y mx (fun u h => (h.cell (p := ⟨w.heap.size, 8, none⟩) hgx).trans HA.out.2.2.2.2.2.2.2.2.1) rfl rfl (by rfl)) hS ?_
  simp only [Act.put, List.setIfInBounds_toArray, List.set_cons_zero, List.set_cons_succ]
  refine takeAt 13 18 (.pointer (some ⟨w.heap.size, 9, none⟩)) rfl rfl (by kernel_rfl) (by kernel_rfl) (by kernel_rfl) (fun _ _ _ h => h) (yields (by rfl) (fun w => by kernel_rfl)) hS ?_
  simp only [Act.put, List.setIfInBounds_toArray, List.set_cons_zero, List.set_cons_succ]
  refine takeAt 14 19 (.int .i64 md) rfl rfl (by kernel_rfl) (by kernel_rfl) (by kernel_rfl) (fun _ _ _ h => h) (loadI_y md (fun u h => (h.cell (p := ⟨w.heap.size, 9, none⟩) hgx).trans HA.out.2.2.2.2.2.2.2.2.2.1) rfl rfl (by rfl)) hS ?_
  simp only [Act.put, List.setIfInBounds_toArray, List.set_cons_zero, List.set_cons_succ]
  refine valAt 5 10 (.slice (some ⟨(u0).heap.size, 0, none⟩) 3 3) (World.alloc u0 (.cells #[.int .i64 8, .int .i64 9, .int .i64 10] 3)) rfl rfl (by kernel_rfl) (by rfl) (by kernel_rfl) (hS.alloc hS.size _) ?_
  simp only [Act.put, List.setIfInBounds_toArray, List.set_cons_zero, List.set_cons_succ]
  obtain ⟨v1, hv1⟩ : ∃ v, v = (World.alloc u0 (.cells #[.int .i64 8, .int .i64 9, .int .i64 10] 3)) := ⟨_, rfl⟩
  have hI5 : IntsAt v1 (u0).heap.size [8, 9, 10] := by rw [hv1]; exact IntsAt.new u0 [8, 9, 10] 3
  have hS : Below W0.heap.size W0 v1 := by rw [hv1]; exact hS.alloc hS.size _
  obtain ⟨g1, hg1⟩ : ∃ g, g = (u0).heap.size := ⟨_, rfl⟩
  rw [← hv1]
  rw [← hg1] at hI5 ⊢
  clear hv1 hg1
  refine callAt 6 11 rfl rfl (by kernel_rfl) (by rfl) (by kernel_rfl) (but_any kA sA g1 [8, 9, 10] 3 3 (is8a kA) _ hI5 rfl (by decide) (has8a kA) (by omega)) ?_
  rintro e v2 ⟨rfl, hb⟩
  have hI5 := hI5.call hb
  have hS := thenB hS hb hS.size
  refine ⟨_, rfl, hS, ?_⟩
  simp only [Act.put, List.setIfInBounds_toArray, List.set_cons_zero, List.set_cons_succ]
  clear hb
  refine callAt 11 16 rfl rfl (by kernel_rfl) (by rfl) (by kernel_rfl) (HO.out _ (HPw.out.call hS)) ?_
  rintro e v3 ⟨rfl, hb⟩
  have hI5 := hI5.call hb
  have hS := thenB hS hb hS.size
  refine ⟨_, rfl, hS, ?_⟩
  simp only [Act.put, List.setIfInBounds_toArray, List.set_cons_zero, List.set_cons_succ]
  clear hb
  refine takeAt 12 17 (.string (inB (is8a kA) sA ++ oftenB mn mx)) rfl rfl (by kernel_rfl) (by kernel_rfl) (by kernel_rfl) (fun _ _ _ h => h) (catB_y _ _ (by have a2 := inB_size (is8a kA) sA; omega) rfl rfl rfl (by rfl)) hS ?_
  simp only [Act.put, List.setIfInBounds_toArray, List.set_cons_zero, List.set_cons_succ]
  refine callAt 15 20 rfl rfl (by kernel_rfl) (by rfl) (by kernel_rfl) (HM.out _) ?_
  rintro e v4 ⟨rfl, hb⟩
  have hI5 := hI5.call hb
  have hS := thenB hS hb hS.size
  refine ⟨_, rfl, hS, ?_⟩
  simp only [Act.put, List.setIfInBounds_toArray, List.set_cons_zero, List.set_cons_succ]
  clear hb
  refine takeAt 16 21 (.string ((inB (is8a kA) sA ++ oftenB mn mx) ++ mannerB md)) rfl rfl (by kernel_rfl) (by kernel_rfl) (by kernel_rfl) (fun _ _ _ h => h) (catB_y _ _ (by have a2 := inB_size (is8a kA) sA; rw [ByteArray.size_append]; omega) rfl rfl rfl (by rfl)) hS ?_
  simp only [Act.put, List.setIfInBounds_toArray, List.set_cons_zero, List.set_cons_succ]
  refine takeAt 17 4 (.string ((inB (is8a kA) sA ++ oftenB mn mx) ++ mannerB md)) rfl rfl (by kernel_rfl) (by kernel_rfl) (by kernel_rfl) (fun _ _ _ h => h) (yields (by rfl) (fun w => by kernel_rfl)) hS ?_
  simp only [Act.put, List.setIfInBounds_toArray, List.set_cons_zero, List.set_cons_succ]
  refine wpAnyH_done (by kernel_rfl) ?_ _
  go_wp2
  go_ret
  exact ⟨rfl, HBw.out.trans (hS.mono hW)⟩
end Go.Proofs.YtfejdengpnikeaaGreatDoor

namespace Go.Proofs.YtfejdengpnikeaaGreatDoor
open Go.RowKit
open Ast (Nd ndV ndC siz kidsZ fitsB siz_pos)

def partF (l : Nat → Nd) (i : Nat) : Int × ByteArray := ((l i).k, showT l (i + 1))
def partC (f : Nat → Int × ByteArray) (k : Nat) : List Value := (List.range k).flatMap fun i => [.int .i64 (f i).1, .string (f i).2]
theorem partC_succ (f : Nat → Int × ByteArray) (k : Nat) : partC f (k + 1) = partC f k ++ [.int .i64 (f k).1, .string (f k).2] := by
  unfold partC
  rw [List.range_succ, List.flatMap_append]
  rfl
theorem partC_len (f : Nat → Int × ByteArray) : ∀ k, (partC f k).length = k * 2
  | 0 => rfl
  | k + 1 => by rw [partC_succ, List.length_append, partC_len f k]; show k * 2 + 2 = _; omega
theorem partC_at (f : Nat → Int × ByteArray) : ∀ k i, i < k → (partC f k)[i * 2]? = some (.int .i64 (f i).1) ∧ (partC f k)[i * 2 + 1]? = some (.string (f i).2)
  | 0, i, h => absurd h (Nat.not_lt_zero _)
  | k + 1, i, h => by
    have hl := partC_len f k
    rw [partC_succ]
    by_cases e : i = k
    · subst e
      rw [List.getElem?_append_right (by omega), List.getElem?_append_right (by omega), hl]
      exact ⟨by rw [show i * 2 - i * 2 = 0 by omega]; rfl, by rw [show i * 2 + 1 - i * 2 = 1 by omega]; rfl⟩
    · rw [List.getElem?_append_left (by omega), List.getElem?_append_left (by omega)]
      exact partC_at f k i (by omega)
theorem PartsAt.of_own {w : World} {base : Nat} {v : Value} {k : Nat} {f : Nat → Int × ByteArray} (h : w.ownsRow base 60 2 v k (partC f k)) (hk : 0 < k) : ∃ r cap, v = .slice (some ⟨r, 0, none⟩) k cap ∧ PartsAt w r k f := by
  obtain ⟨h1, h2⟩ := h
  rcases h2 with ⟨-, h0⟩ | ⟨r, cap, cur, rfl, _, hr, _, _, hsz, hcur⟩
  · omega
  · refine ⟨r, cap, rfl, (Array.getElem?_eq_some_iff.1 hr).1, fun i hi => ?_⟩
    have hc := partC_at f k i hi
    rw [← hcur, List.getElem?_take_of_lt (by omega), List.getElem?_take_of_lt (by omega), Array.getElem?_toList, Array.getElem?_toList] at hc
    rw [cell_of_row w r _ _ _ _ hr, cell_of_row w r _ _ _ _ hr]
    exact hc

theorem setP_size (S : BitVec 256) : (setP S).size ≤ 2400 := by
  unfold setP
  split
  · decide
  · split
    · have := text_size (minS S); omega
    · have h1 := runsB_size (runs S)
      have h2 : (runs S).length ≤ 256 := runsTo_length S 256
      have h3 : ((⟨#[91]⟩ ++ runsB (runs S)) ++ (⟨#[93]⟩ : ByteArray)).size = 1 + (runsB (runs S)).size + 1 := by rw [ByteArray.size_append, ByteArray.size_append]; rfl
      omega
theorem backT_size (x : Nd) : (backT x).size ≤ 4 := by
  have := num_size x.n.toNat
  unfold backT
  rw [ByteArray.size_append]
  show 1 + _ ≤ 4
  omega
theorem leaf_size (x : Nd) : (leafB x).size ≤ 2400 := by
  have h1 := setP_size (setOf x)
  have h2 := backT_size x
  unfold leafB
  repeat' split
  all_goals first
    | exact h1
    | (rw [ByteArray.size_append, ByteArray.size_append]; show 4 + _ + 1 ≤ 2400; omega)
    | omega
    | (show 1 ≤ 2400; decide)
    | (show 2 ≤ 2400; decide)
    | (show 4 ≤ 2400; decide)
    | (show 6 ≤ 2400; decide)
theorem open_size (k : Int) : (openB k).size ≤ 4 := by
  unfold openB
  repeat' split
  all_goals decide
variable {l : Nat → Nd}
theorem show_size : ∀ (m j : Nat), j ≤ m → siz l j ≠ 0 → (showT l j).size ≤ 3000 * siz l j := by
  intro m
  induction m with
  | zero => intro j hj h; obtain rfl : j = 0 := by omega
            exact absurd (by simp [siz, Ast.sizF]) h
  | succ m ih =>
    intro j hj h
    cases j with
    | zero => exact absurd (by simp [siz, Ast.sizF]) h
    | succ j =>
      obtain ⟨hf, ⟨hk, -, -, hs⟩ | ⟨hk, h0, -, -, hs⟩ | ⟨hk, h0, h1, -, -, hs⟩⟩ := siz_pos h
      · have := leaf_size (l j)
        rw [show_k0 hk, hs]; omega
      · have i0 := ih j (by omega) h0
        have a1 := inB_size (is8a (l (j - 1)).k) (showT l j)
        have a2 := often_size (l j).mn (l j).mx
        have a3 := manner_size (l j).md
        have a4 := open_size (l j).k
        rw [show_k1 hk, hs]
        split
        · rw [ByteArray.size_append, ByteArray.size_append]; omega
        · rw [ByteArray.size_append, ByteArray.size_append]
          show _ + 1 ≤ _
          omega
      · have i0 := ih j (by omega) h0
        have i1 := ih (j - siz l j) (by omega) h1
        have a1 := inB_size (is9 (l (j - siz l j - 1)).k) (showT l (j - siz l j))
        have a2 := inB_size (is89 (l (j - 1)).k) (showT l j)
        have a3 := inB_size (is9 (l (j - 1)).k) (showT l j)
        rw [show_k2 hk, hs]
        split
        · rw [ByteArray.size_append]; omega
        · rw [ByteArray.size_append, ByteArray.size_append]
          show _ + 1 + _ ≤ _
          omega

/-- A function that a call comes into. -/
def Enters (f : FuncId) : Prop := ∀ args w, (callFunc f args).run Tryz.prog w = .ok (.enter f args) w
/-- The words of each Bytes node are a set's. -/
def LitOkS (l : Nat → Nd) (j : Nat) : Prop := ∀ i, i < j → (l i).k = 1 → (l i).s0 = W (setOf (l i)) 0 ∧ (l i).s1 = W (setOf (l i)) 1 ∧ (l i).s2 = W (setOf (l i)) 2 ∧ (l i).s3 = W (setOf (l i)) 3
def BackOk (l : Nat → Nd) (j : Nat) : Prop := ∀ i, i < j → (l i).k = 12 → 1 ≤ (l i).n ∧ (l i).n ≤ 9
theorem kidsS_1 {k : Int} (h : kidsZ k = 1) : k = 10 ∨ k = 11 ∨ k = 13 ∨ k = 14 ∨ k = 15 ∨ k = 16 ∨ k = 17 := by
  unfold kidsZ at h
  split at h
  · exact absurd h (by decide)
  · split at h
    · omega
    · exact absurd h (by decide)
theorem kidsS_2 {k : Int} (h : kidsZ k = 2) : k = 8 ∨ k = 9 := by
  unfold kidsZ at h
  split at h
  · assumption
  · split at h <;> exact absurd h (by decide)
theorem kidsS_0 {x : Nd} (h : kidsZ x.k = 0) (hf : fitsB x = true) : x.k = 0 ∨ x.k = 1 ∨ x.k = 2 ∨ x.k = 3 ∨ x.k = 4 ∨ x.k = 5 ∨ x.k = 6 ∨ x.k = 7 ∨ x.k = 12 := by
  unfold fitsB at hf
  simp only [decide_eq_true_eq] at hf
  have h0 := hf.1
  have h1 := hf.2.1
  unfold kidsZ at h
  split at h
  · exact absurd h (by decide)
  · split at h
    · exact absurd h (by decide)
    · omega
theorem kind_le {x : Nd} (hf : fitsB x = true) : 0 ≤ x.k ∧ x.k ≤ 17 := by
  unfold fitsB at hf
  simp only [decide_eq_true_eq] at hf
  exact ⟨hf.1, hf.2.1⟩
set_option maxRecDepth 20000 in
set_option maxHeartbeats 2000000 in
theorem kind_fn (n j : Nat) (hn : n ≤ 500) (hj : j < n) (hs : siz l (j + 1) ≠ 0) (hL : LitOkS l n) (hB : BackOk l n) (base B : Nat) (G : Nat → Nat) (v : Value) (w : World) (hM : LooksAt w B G) (hv : w.ownsRow base 60 2 v j (partC (partF l) j)) (ht : TabOk w) (hp : PowOk w) :
    ∃ fid caps, kindV G (l j).k.toNat = .func (.func fid) #[] caps ∧ Enters fid ∧ Calls Tryz.prog fid (#[ndV (l j), v] ++ caps) w fun e w' => e = .returned (.string (showT l (j + 1))) ∧ Below w.heap.size w w' := by
  have text : ∀ (k : Nat) (s : ByteArray), (G k, s) ∈ textL G → G k < w.heap.size ∧ w.cell? ⟨G k, 0, none⟩ = some (.string s) := fun k s h => hM.2 (G k, s) h
  obtain ⟨hf, ⟨hk, -⟩ | ⟨hk, h0, ha, hb, -⟩ | ⟨hk, h0, h1, ha, hb, -⟩⟩ := siz_pos hs
  · rw [show_k0 hk]
    rcases kidsS_0 hk hf with e | e | e | e | e | e | e | e | e
    · obtain ⟨t1, t2⟩ := text 0 ⟨#[40, 63, 58, 41]⟩ (List.mem_of_getElem? (i := 12) rfl)
      refine ⟨_, _, by rw [e]; rfl, fun _ _ => by kernel_rfl, ?_⟩
      rw [show leafB (l j) = ⟨#[40, 63, 58, 41]⟩ by unfold leafB; rw [e]; rfl]
      exact always1_any _ (G 0) (l j) v w t2 t1
    · refine ⟨_, _, by rw [e]; rfl, fun _ _ => by kernel_rfl, ?_⟩
      rw [show leafB (l j) = setP (setOf (l j)) by unfold leafB; rw [e]; rfl]
      exact bytes_any (l j) v w (hL j hj e) ht
    · obtain ⟨t1, t2⟩ := text 2 ⟨#[94]⟩ (List.mem_of_getElem? (i := 11) rfl)
      refine ⟨_, _, by rw [e]; rfl, fun _ _ => by kernel_rfl, ?_⟩
      rw [show leafB (l j) = ⟨#[94]⟩ by unfold leafB; rw [e]; rfl]
      exact always1_any _ (G 2) (l j) v w t2 t1
    · obtain ⟨t1, t2⟩ := text 3 ⟨#[36]⟩ (List.mem_of_getElem? (i := 10) rfl)
      refine ⟨_, _, by rw [e]; rfl, fun _ _ => by kernel_rfl, ?_⟩
      rw [show leafB (l j) = ⟨#[36]⟩ by unfold leafB; rw [e]; rfl]
      exact always1_any _ (G 3) (l j) v w t2 t1
    · obtain ⟨t1, t2⟩ := text 4 ⟨#[40, 63, 109, 58, 94, 41]⟩ (List.mem_of_getElem? (i := 9) rfl)
      refine ⟨_, _, by rw [e]; rfl, fun _ _ => by kernel_rfl, ?_⟩
      rw [show leafB (l j) = ⟨#[40, 63, 109, 58, 94, 41]⟩ by unfold leafB; rw [e]; rfl]
      exact always1_any _ (G 4) (l j) v w t2 t1
    · obtain ⟨t1, t2⟩ := text 5 ⟨#[40, 63, 109, 58, 36, 41]⟩ (List.mem_of_getElem? (i := 8) rfl)
      refine ⟨_, _, by rw [e]; rfl, fun _ _ => by kernel_rfl, ?_⟩
      rw [show leafB (l j) = ⟨#[40, 63, 109, 58, 36, 41]⟩ by unfold leafB; rw [e]; rfl]
      exact always1_any _ (G 5) (l j) v w t2 t1
    · obtain ⟨t1, t2⟩ := text 6 ⟨#[92, 98]⟩ (List.mem_of_getElem? (i := 7) rfl)
      refine ⟨_, _, by rw [e]; rfl, fun _ _ => by kernel_rfl, ?_⟩
      rw [show leafB (l j) = ⟨#[92, 98]⟩ by unfold leafB; rw [e]; rfl]
      exact always1_any _ (G 6) (l j) v w t2 t1
    · obtain ⟨t1, t2⟩ := text 7 ⟨#[92, 66]⟩ (List.mem_of_getElem? (i := 6) rfl)
      refine ⟨_, _, by rw [e]; rfl, fun _ _ => by kernel_rfl, ?_⟩
      rw [show leafB (l j) = ⟨#[92, 66]⟩ by unfold leafB; rw [e]; rfl]
      exact always1_any _ (G 7) (l j) v w t2 t1
    · have h12 := hB j hj e
      refine ⟨_, _, by rw [e]; rfl, fun _ _ => by kernel_rfl, ?_⟩
      rw [show leafB (l j) = if (l j).f = true then (⟨#[40, 63, 105, 58]⟩ ++ backT (l j)) ++ ⟨#[41]⟩ else backT (l j) by unfold leafB; rw [e]; rfl]
      exact back_any (l j) v w h12.1 h12.2 hp
  · have hj0 : 0 < j := by have := Ast.siz_le l j; omega
    obtain ⟨r, cap, rfl, hP⟩ := PartsAt.of_own hv hj0
    have hxa : (l j).a = ((j - 1 : Nat) : Int) := by omega
    have hfA : partF l (j - 1) = ((l (j - 1)).k, showT l j) := by unfold partF; rw [show j - 1 + 1 = j by omega]
    have hsz := show_size (l := l) j j (Nat.le_refl _) h0
    have hle := Ast.siz_le l j
    have hsA : (partF l (j - 1)).2.size ≤ 2000000 := by rw [hfA]; simp only []; omega
    rw [show_k1 hk]
    have key : ∀ k : Nat, (l j).k = (k : Int) → (G k, openB (k : Int)) ∈ textL G → Calls Tryz.prog 91 #[ndV (l j), .slice (some ⟨r, 0, none⟩) j cap, .pointer (some ⟨G k, 0, none⟩)] w fun e w' => e = .returned (.string ((openB (l j).k ++ showT l j) ++ ⟨#[41]⟩)) ∧ Below w.heap.size w w' := fun k e hm => by
      obtain ⟨t1, t2⟩ := text k _ hm
      have h := opened1_any (l j) r cap j (partF l) (j - 1) w hxa (by omega) hP hsA (openB (k : Int)) (G k) t2 t1 (Nat.le_trans (open_size _) (by decide))
      rw [hfA] at h
      rw [e]
      exact h
    rcases kidsS_1 hk with e | e | e | e | e | e | e
    · rw [if_pos e]
      refine ⟨_, _, by rw [e]; rfl, fun _ _ => by kernel_rfl, ?_⟩
      have hx : 0 ≤ (l j).mn ∧ (l j).mn ≤ 100 ∧ (l j).mx ≤ 100 ∧ ((l j).mx = -1 ∨ (l j).mn ≤ (l j).mx) ∧ 0 ≤ (l j).md ∧ (l j).md ≤ 2 := by
        unfold fitsB at hf
        simp only [decide_eq_true_eq] at hf
        exact hf.2.2.2.2.2.2.resolve_left (fun h => h e)
      have h := repeat_any (l j) r cap j (partF l) (j - 1) w hxa (by omega) hP hsA hx hp
      rw [hfA] at h
      exact h
    all_goals rw [if_neg (by rw [e]; decide)]
    · refine ⟨_, _, by rw [e]; rfl, fun _ _ => by kernel_rfl, ?_⟩
      exact key 11 e (List.mem_of_getElem? (i := 5) rfl)
    · refine ⟨_, _, by rw [e]; rfl, fun _ _ => by kernel_rfl, ?_⟩
      exact key 13 e (List.mem_of_getElem? (i := 4) rfl)
    · refine ⟨_, _, by rw [e]; rfl, fun _ _ => by kernel_rfl, ?_⟩
      exact key 14 e (List.mem_of_getElem? (i := 3) rfl)
    · refine ⟨_, _, by rw [e]; rfl, fun _ _ => by kernel_rfl, ?_⟩
      exact key 15 e (List.mem_of_getElem? (i := 2) rfl)
    · refine ⟨_, _, by rw [e]; rfl, fun _ _ => by kernel_rfl, ?_⟩
      exact key 16 e (List.mem_of_getElem? (i := 1) rfl)
    · refine ⟨_, _, by rw [e]; rfl, fun _ _ => by kernel_rfl, ?_⟩
      exact key 17 e (List.mem_of_getElem? (i := 0) rfl)
  · have hle := Ast.siz_le l j
    have hle2 := Ast.siz_le l (j - siz l j)
    have hj0 : 0 < j := by omega
    obtain ⟨r, cap, rfl, hP⟩ := PartsAt.of_own hv hj0
    have hxa : (l j).a = ((j - siz l j - 1 : Nat) : Int) := by omega
    have hxb : (l j).b = ((j - 1 : Nat) : Int) := by omega
    have hfA : partF l (j - siz l j - 1) = ((l (j - siz l j - 1)).k, showT l (j - siz l j)) := by unfold partF; rw [show j - siz l j - 1 + 1 = j - siz l j by omega]
    have hfB : partF l (j - 1) = ((l (j - 1)).k, showT l j) := by unfold partF; rw [show j - 1 + 1 = j by omega]
    have z0 := show_size (l := l) j j (Nat.le_refl _) h0
    have z1 := show_size (l := l) j (j - siz l j) (by omega) h1
    have hsA : (partF l (j - siz l j - 1)).2.size ≤ 2000000 := by rw [hfA]; simp only []; omega
    have hsB : (partF l (j - 1)).2.size ≤ 2000000 := by rw [hfB]; simp only []; omega
    rw [show_k2 hk]
    rcases kidsS_2 hk with e | e
    · rw [if_pos e]
      refine ⟨_, _, by rw [e]; rfl, fun _ _ => by kernel_rfl, ?_⟩
      have h := cat_any (l j) r cap j (partF l) (j - siz l j - 1) (j - 1) w hxa hxb (by omega) (by omega) hP hsA hsB
      rw [hfA, hfB] at h
      exact h
    · rw [if_neg (by rw [e]; decide)]
      refine ⟨_, _, by rw [e]; rfl, fun _ _ => by kernel_rfl, ?_⟩
      have h := alt_any (l j) r cap j (partF l) (j - siz l j - 1) (j - 1) w hxa hxb (by omega) (by omega) hP hsA hsB
      rw [hfA, hfB] at h
      exact h
end Go.Proofs.YtfejdengpnikeaaGreatDoor

namespace Go.Proofs.YtfejdengpnikeaaGreatDoor
open Go.RowKit
open Ast (Nd ndV ndC siz Nodes rightZ)

section
variable {ops : Array Oper} {R : World → Prop} {a : Act} {o : Oper} {x y : Operand}
theorem look_y {B K : Nat} {G : Nat → Nat} {fv : Value} (hK : K ≤ 17) (hv : kindV G K = fv) (hR : ∀ u, R u → LooksAt u B G) (ho : o.op = .lookup 51 x y false) (hx : a.eval x = .map (some B)) (hy : a.eval y = .int .i64 (K : Int)) (hw : Region.wanted o (yielded ops a.tmps) = true) : YieldsIf Tryz.prog ops R o (.agg #[fv]) a := by
  refine Or.inl ⟨hw, fun u h => ?_⟩
  have hr := look_run (hR u h) K hK
  rw [hv] at hr
  unfold execOp
  simp only [ho, hx, hy]
  simp [go_sem, hr]
theorem loadN_y {b : Nat} (x' : Nd) (hR : ∀ u, R u → Ast.At12 u b 0 x') (ho : o.op = .load 55 x) (hx : a.eval x = .pointer (some ⟨b, 0, none⟩)) (hw : Region.wanted o (yielded ops a.tmps) = true) : YieldsIf Tryz.prog ops R o (ndV x') a := by
  refine Or.inl ⟨hw, fun u h => ?_⟩
  obtain ⟨c0, c1, c2, c3, c4, c5, c6, c7, c8, c9, c10, c11⟩ := hR u h
  unfold execOp
  simp only [ho, hx]
  simp [go_sem, c0, c1, c2, c3, c4, c5, c6, c7, c8, c9, c10, c11]
theorem callV_run {w : World} {fid : FuncId} {caps : Array Value} {v0 v1 : Value} {i j k : Nat} {ts : Array TypeId} (hen : Enters fid) (ho : o.op = .call { callee := .value (.tmp i), args := #[.tmp j, .tmp k], argTypes := ts }) (hf : a.tmps.getD i undef = .func (.func fid) #[] caps) (h0 : a.tmps.getD j undef = v0) (h1 : a.tmps.getD k undef = v1) :
    (execOp a.eval o).run Tryz.prog w = .ok (.enter fid (#[v0, v1] ++ caps)) w := by
  have he := hen (#[v0, v1] ++ caps) w
  unfold execOp
  simp only [ho]
  simp [go_sem, hf, h0, h1, he]
theorem append_run {w w' : World} {s t : Operand} {T : TypeId} {v v' z : Value} (ho : o.op = .call { callee := .builtin .append, args := #[s, t], argTypes := #[T, T] }) (hs : a.eval s = v) (hx : a.eval t = z) (hr : (Builtin.append_ #[T, T] o.type #[v, z]).run Tryz.prog w = .ok v' w') : (execOp a.eval o).run Tryz.prog w = .ok (.value v') w' := by
  unfold execOp
  simp only [ho, resolve, invoke, builtin, Sem.run_bind, Sem.run_pure, Result.andThen_ok, List.map_toArray, List.map_cons, List.map_nil, hs, hx, hr]
end
theorem grown_of {w u : World} (h : Below w.heap.size w u) (row : Option Nat) : w.grownBy u row := ⟨h.os, h.tape, h.output, h.size, fun i hi _ => h.block i hi⟩
theorem grown_call {w u v : World} {row : Option Nat} (h : w.grownBy u row) (hb : Below u.heap.size u v) : w.grownBy v row := ⟨hb.os.trans h.os, hb.tape.trans h.tape, hb.output.trans h.output, Nat.le_trans h.size hb.size, fun i hi hr => (hb.block i (Nat.lt_of_lt_of_le hi h.size)).trans (h.block i hi hr)⟩
theorem _root_.Go.Proofs.YtfejdengpnikeaaGreatDoor.Ast.At12.keepG {W u : World} {b : Nat} {x : Nd} {row : Option Nat} (h : Ast.At12 W b 0 x) (hg : W.grownBy u row) (hlt : b < W.heap.size) (hr : some b ≠ row) : Ast.At12 u b 0 x := h.keep fun j => by
  unfold World.cell?
  simp only []
  rw [hg.block b hlt hr]
theorem siz_fits {l : Nat → Nd} {j : Nat} (h : siz l (j + 1) ≠ 0) : Ast.fitsB (l j) = true := (Ast.siz_pos h).1
theorem part_cells (w : World) (z : Int) (s : ByteArray) : ∀ j u, ([.int .i64 z, .string s] : List Value)[j]? = some u → (w.alloc (.cells #[.int .i64 z, .string s] 60)).cell? (Addr.add ⟨w.heap.size, 0, none⟩ j) = some u := by
  intro j u hj
  rw [Addr.add_lit, ← hj]
  unfold World.cell?
  rw [heap_alloc_new]
  simp
theorem infoPart : (Tryz.prog.info? 60).map (fun i => (i.zero, i.size, i.bytes)) = some (some (.agg #[.int .i64 0, .string ⟨#[]⟩]), 2, 24) := by kernel_rfl
theorem make_parts (n : Nat) (hn : n ≤ 1000000) : ∃ Z : Array Value, Z.size = n * 2 ∧ ∀ w, (Instr.makeSlice 53 (.int .i64 0) (.int .i64 (n : Int))).run Tryz.prog w = .ok (.slice (some ⟨w.heap.size, 0, none⟩) 0 n) (w.alloc (.cells Z 60)) := by
  obtain ⟨i, hi, hz, hs, hb⟩ := info_parts infoPart
  refine ⟨madeCells (Value.agg #[.int .i64 0, .string ⟨#[]⟩]).cells (n * 2), size_madeCells _ _, fun w => ?_⟩
  have hr := run_make (P := Tryz.prog) w 53 60 i _ Tryz.underlying53 hi hz .i64 .i64 0 (n : Int) (by omega) (by omega) (by rw [hb]; omega) (by omega)
  rw [hs] at hr
  exact hr
set_option maxRecDepth 20000 in
set_option maxHeartbeats 4000000 in
theorem show_any (hS : Ast.SortOk) (hN : Ast.SortNone) (A : Option Addr) (n cap : Nat) (l : Nat → Nd) (w : World) (hn : n ≤ 1000000) (hl : Nodes w A n l) (hL : LitOkS l n) (hB : rightZ l n = 0 → BackOk l n) (ht : TabOk w) (hp : PowOk w) :
    Calls Tryz.prog 8 #[.agg #[.slice A n cap]] w fun e w' => e = .returned (.string (if rightZ l n = 0 then showT l n else ByteArray.empty)) ∧ Below w.heap.size w w' := by
  have HR := Lib.hid (fun w h => Ast.right_any hS hN A n cap l w hn h)
  have HL := Lib.hid hl
  have HT := Lib.hid ht
  have HP := Lib.hid hp
  have HBw := Lib.hid ((Below.refl w.heap.size w).alloc (Nat.le_refl _) (.cells #[.slice A n cap] 24))
  have hcw : (w.alloc (.cells #[.slice A n cap] 24)).cell? ⟨w.heap.size, 0, none⟩ = some (.slice A n cap) := cell_of_one (heap_alloc_new _ _)
  have HCw := Lib.hid hcw
  clear hS hN hl ht hp hcw
  by_cases h0 : rightZ l n = 0
  · rw [if_pos h0]
    rw [h0] at HR
    have HBk := Lib.hid (hB h0)
    obtain ⟨hpos, hsz, hn5⟩ : 0 < n ∧ siz l n = n ∧ n ≤ 500 := by
      have h1 : Ast.shapeZ l n = 0 := by
        unfold rightZ at h0
        by_cases h : Ast.shapeZ l n ≠ 0
        · rw [if_pos h] at h0; exact h0
        · omega
      have h2 : Ast.formZ l n = 0 := by unfold Ast.shapeZ at h1; split at h1 <;> omega
      have h3 := Ast.form_0 h2
      exact ⟨h3.2.1, h3.2.2, h3.1⟩
    have HSz := Lib.hid (fun j (hj : j < n) => Ast.siz_of_whole hsz hj)
    obtain ⟨Z, hZ, hmk⟩ := make_parts n hn
    obtain ⟨ip, hip⟩ : ∃ i, Hid (Tryz.prog.info? 60 = some i ∧ i.zero = some (.agg #[.int .i64 0, .string ⟨#[]⟩]) ∧ i.size = 2 ∧ i.bytes = 24) := by
      obtain ⟨i, h⟩ := info_parts infoPart
      exact ⟨i, h⟩
    clear h0 hB hsz
    go_enter Tryz.func8, Tryz.ntmps8
    go_wp2_with fail
    refine (HR.out _ (HL.out.below HBw.out (Nat.le_refl _))).mono ?_
    rintro e w1 ⟨rfl, h1⟩
    have HB1 := Lib.hid (thenB HBw.out h1 HBw.out.size)
    have HC1 := Lib.hid ((h1.cell (p := ⟨w.heap.size, 0, none⟩) (by simp)).trans HCw.out)
    clear h1
    go_wp2_with fail
    refine (looks_any _).mono ?_
    rintro e w2 ⟨B, G, rfl, hM, h2⟩
    have HM := Lib.hid hM
    have HB2 := Lib.hid (thenB HB1.out h2 HB1.out.size)
    have hc2 : w2.cell? ⟨w.heap.size, 0, none⟩ = some (.slice A n cap) := (h2.cell (p := ⟨w.heap.size, 0, none⟩) (block_lt_of_cell HC1.out)).trans HC1.out
    have hlt2 : w.heap.size < w2.heap.size := block_lt_of_cell hc2
    have hc3 := fun o => (((Below.refl w2.heap.size w2).alloc (Nat.le_refl _) o).cell (p := ⟨w.heap.size, 0, none⟩) hlt2).trans hc2
    clear h2 hM
    have HO := Lib.hid (World.ownsRow_made (base := w2.heap.size) (e := 60) (size := 2) w2 Z n (Nat.le_refl _) (by unfold maxLen; omega) hZ)
    go_wp2_with fail
    go_loopw [4, 18] (fun s4 s18 wr => ∃ k : Nat, s18 = .int .i64 k ∧ k ≤ n ∧ wr.ownsRow w2.heap.size 60 2 s4 k (partC (partF l) k) ∧ Below w2.heap.size w2 wr) (fun _ s18 _ => n - (intOf s18).toNat)
    case atStart => exact ⟨0, rfl, Nat.zero_le _, HO.out, (Below.refl _ w2).alloc (Nat.le_refl _) _⟩
    case round =>
      obtain ⟨k, rfl, hk, hown, hb⟩ := hrel
      have HOw := Lib.hid hown
      have HBr := Lib.hid hb
      have HNr := Lib.hid (HL.out.below (HB2.out.trans (hb.mono HB2.out.size)) (Nat.le_refl _))
      clear hown hb
      by_cases hlt : k < n
      · obtain ⟨b, o, rfl, hbw, hx⟩ := HNr.out k hlt
        have r1 : (k : Int) < (n : Int) := by omega
        obtain ⟨c0, c1, c2, c3, c4, c5, c6, c7, c8, c9, c10, c11⟩ := hx
        clear hbw
        go_wp2_with fail
        obtain ⟨W0, hW0⟩ : ∃ W0, W0 = wr.alloc (.cells (ndC (l k)).toArray 55) := ⟨_, rfl⟩
        have HX0 := nodeBox wr (l k)
        have hbw0 : Below wr.heap.size wr W0 := by rw [hW0]; exact (Below.refl _ wr).alloc (Nat.le_refl _) _
        have hg0 : wr.heap.size < W0.heap.size := by rw [hW0]; simp
        rw [← hW0] at HX0
        have HX := Lib.hid HX0
        have HBr0 := Lib.hid (thenB HBr.out hbw0 HBr.out.size)
        have HO0 := Lib.hid (ownS_call HOw.out hbw0)
        have HM0 := Lib.hid ((HM.out.call HBr.out).call hbw0)
        have HBall := Lib.hid (HB2.out.trans (HBr0.out.mono HB2.out.size))
        have hfl := kind_le (siz_fits (HSz.out k hlt))
        obtain ⟨fid, caps, hkv, hen, hcall⟩ : ∃ fid caps, kindV G (l k).k.toNat = .func (.func fid) #[] caps ∧ Enters fid ∧ ∀ u, Below W0.heap.size W0 u → Calls Tryz.prog fid (#[ndV (l k), u4] ++ caps) u fun e w' => e = .returned (.string (showT l (k + 1))) ∧ Below u.heap.size u w' := by
          obtain ⟨fid, caps, h1, h2, -⟩ := kind_fn n k hn5 hlt (HSz.out k hlt) hL HBk.out w2.heap.size B G u4 W0 HM0.out HO0.out (HT.out.call HBall.out) (HP.out.call HBall.out)
          refine ⟨fid, caps, h1, h2, fun u hu => ?_⟩
          obtain ⟨fid', caps', h1', -, h3'⟩ := kind_fn n k hn5 hlt (HSz.out k hlt) hL HBk.out w2.heap.size B G u4 u (HM0.out.call hu) (ownS_call HO0.out hu) (HT.out.call (thenB HBall.out hu HBall.out.size)) (HP.out.call (thenB HBall.out hu HBall.out.size))
          rw [h1] at h1'
          cases h1'
          exact h3'
        have HCl := Lib.hid hcall
        have HT1 := Lib.hid (partC_succ (partF l) k)
        have HT2 : Hid (partF l k = ((l k).k, showT l (k + 1))) := Lib.hid rfl
        generalize showT l (k + 1) = sk at HCl HT2
        clear hcall HX0 c0 c1 c2 c3 c4 c5 c6 c7 c8 c9 c10 c11
        obtain ⟨K, hKk⟩ : ∃ K : Nat, (l k).k = (K : Int) := ⟨(l k).k.toNat, by omega⟩
        have hK17 : K ≤ 17 := by omega
        have hKn : (l k).k.toNat = K := by omega
        rw [hKn] at hkv
        rw [hKk] at HT2
        obtain ⟨x, hx⟩ : ∃ x, x = l k := ⟨_, rfl⟩
        rw [← hx] at HX HCl hW0 hKk ⊢
        clear hx hfl hKn
        obtain ⟨xk, xa, xb, t0, t1, t2, t3, mn, mx, md, nn, ff⟩ := x
        simp only [] at hKk
        subst hKk
        simp only [ndC] at hW0
        rw [← hW0]
        clear hW0
        obtain ⟨x, hx⟩ : ∃ x : Nd, x = ⟨(K : Int), xa, xb, t0, t1, t2, t3, mn, mx, md, nn, ff⟩ := ⟨_, rfl⟩
        have hown : ∀ g, Value.ownBlock u4 = some g → w2.heap.size ≤ g ∧ g < wr.heap.size := fun g hg => HOw.out.lt g hg
        have hSg : ∀ u, W0.grownBy u (Value.ownBlock u4) → Below w2.heap.size w2 u := fun u h => HBr0.out.grown h HBr0.out.size (fun g hg => (hown g hg).1)
        rw [← hx] at HX HCl
        have hSx : ∀ u, W0.grownBy u (Value.ownBlock u4) → Ast.At12 u wr.heap.size 0 x := fun u h => HX.out.keepG h hg0 (fun e => absurd (hown _ e.symm).2 (Nat.lt_irrefl _))
        refine wp_region_held_drew (S := fun u => W0.grownBy u (Value.ownBlock u4)) (by kernel_rfl) (show _ from grown_of (Below.refl _ W0).drew _) (fun hS => ?_)
        have hD : Below W0.heap.size W0 W0.drew := (Below.refl _ W0).drew
        generalize World.drew W0 = u0 at hS hD ⊢
        refine takeAt 0 22 (u4) rfl rfl (by kernel_rfl) (by kernel_rfl) (by kernel_rfl) (fun _ _ _ h => h) (yields (by rfl) (fun w => by kernel_rfl)) hS ?_
        simp only [Act.put, List.setIfInBounds_toArray, List.set_cons_zero, List.set_cons_succ]
        refine takeAt 1 23 (.pointer (some ⟨wr.heap.size, 0, none⟩)) rfl rfl (by kernel_rfl) (by kernel_rfl) (by kernel_rfl) (fun _ _ _ h => h) (yields (by rfl) (fun w => by kernel_rfl)) hS ?_
        simp only [Act.put, List.setIfInBounds_toArray, List.set_cons_zero, List.set_cons_succ]
        refine takeAt 2 24 (.int .i64 (K : Int)) rfl rfl (by kernel_rfl) (by kernel_rfl) (by kernel_rfl) (fun _ _ _ h => h) (loadI_y (K : Int) (fun u h => by have := (hSx u h).1; rw [hx] at this; exact this) rfl rfl (by rfl)) hS ?_
        simp only [Act.put, List.setIfInBounds_toArray, List.set_cons_zero, List.set_cons_succ]
        refine takeAt 3 25 (.map (some B)) rfl rfl (by kernel_rfl) (by kernel_rfl) (by kernel_rfl) (fun _ _ _ h => h) (yields (by rfl) (fun w => by kernel_rfl)) hS ?_
        simp only [Act.put, List.setIfInBounds_toArray, List.set_cons_zero, List.set_cons_succ]
        refine takeAt 4 26 (.pointer (some ⟨wr.heap.size, 0, none⟩)) rfl rfl (by kernel_rfl) (by kernel_rfl) (by kernel_rfl) (fun _ _ _ h => h) (yields (by rfl) (fun w => by kernel_rfl)) hS ?_
        simp only [Act.put, List.setIfInBounds_toArray, List.set_cons_zero, List.set_cons_succ]
        refine takeAt 5 27 (.int .i64 (K : Int)) rfl rfl (by kernel_rfl) (by kernel_rfl) (by kernel_rfl) (fun _ _ _ h => h) (loadI_y (K : Int) (fun u h => by have := (hSx u h).1; rw [hx] at this; exact this) rfl rfl (by rfl)) hS ?_
        simp only [Act.put, List.setIfInBounds_toArray, List.set_cons_zero, List.set_cons_succ]
        refine takeAt 6 28 (.agg #[.func (.func fid) #[] caps]) rfl rfl (by kernel_rfl) (by kernel_rfl) (by kernel_rfl) (fun _ _ _ h => h) (look_y hK17 hkv (fun u h => HM.out.call (hSg u h)) rfl rfl rfl (by rfl)) hS ?_
        simp only [Act.put, List.setIfInBounds_toArray, List.set_cons_zero, List.set_cons_succ]
        refine takeAt 7 29 (.func (.func fid) #[] caps) rfl rfl (by kernel_rfl) (by kernel_rfl) (by kernel_rfl) (fun _ _ _ h => h) (yields (by rfl) (fun w => by kernel_rfl)) hS ?_
        simp only [Act.put, List.setIfInBounds_toArray, List.set_cons_zero, List.set_cons_succ]
        refine takeAt 8 30 (ndV x) rfl rfl (by kernel_rfl) (by kernel_rfl) (by kernel_rfl) (fun _ _ _ h => h) (loadN_y x hSx rfl rfl (by rfl)) hS ?_
        simp only [Act.put, List.setIfInBounds_toArray, List.set_cons_zero, List.set_cons_succ]
        refine takeAt 9 31 (u4) rfl rfl (by kernel_rfl) (by kernel_rfl) (by kernel_rfl) (fun _ _ _ h => h) (yields (by rfl) (fun w => by kernel_rfl)) hS ?_
        simp only [Act.put, List.setIfInBounds_toArray, List.set_cons_zero, List.set_cons_succ]
        refine callAt 10 32 rfl rfl (by kernel_rfl) (by rfl) (callV_run hen rfl rfl rfl rfl) (HCl.out u0 hD) ?_
        rintro e u1 ⟨rfl, hb⟩
        have hS := grown_call hS hb
        have hD := thenB hD hb hD.size
        refine ⟨_, rfl, hS, ?_⟩
        simp only [Act.put, List.setIfInBounds_toArray, List.set_cons_zero, List.set_cons_succ]
        clear hb
        refine takeAt 11 33 (.agg #[.int .i64 (K : Int), .string sk]) rfl rfl (by kernel_rfl) (by kernel_rfl) (by kernel_rfl) (fun _ _ _ h => h) (yields (by rfl) (fun w => by kernel_rfl)) hS ?_
        simp only [Act.put, List.setIfInBounds_toArray, List.set_cons_zero, List.set_cons_succ]
        have hSa : Below W0.heap.size W0 (u1.alloc (.cells #[.int .i64 (K : Int), .string sk] 60)) := hD.alloc hD.size _
        refine valAt 12 34 (.slice (some ⟨u1.heap.size, 0, none⟩) 1 1) (u1.alloc (.cells #[.int .i64 (K : Int), .string sk] 60)) rfl rfl (by kernel_rfl) (by rfl) (by kernel_rfl) (grown_of hSa _) ?_
        simp only [Act.put, List.setIfInBounds_toArray, List.set_cons_zero, List.set_cons_succ]
        have hOa := ownS_call HO0.out hSa
        obtain ⟨v2, w3, hrun, hown2, hgr, -⟩ := run_append_own (w := u1.alloc (.cells #[.int .i64 (K : Int), .string sk] 60)) w2.heap.size 53 53 60 ip _ 2 24 Tryz.underlying53 hip.out.1 hip.out.2.1 hip.out.2.2.1 hip.out.2.2.2 rfl (by decide) u4 k (partC (partF l) k) hOa ⟨u1.heap.size, 0, none⟩ 1 1 [.int .i64 (K : Int), .string sk] rfl
          (part_cells u1 _ _) (by intro v hv; simp at hv; rcases hv with rfl | rfl <;> rfl) (by unfold maxLen; omega) (by omega) (Nat.le_trans HBr0.out.size hSa.size)
        have hS2 : Below w2.heap.size w2 w3 := (HBr0.out.trans (hSa.mono HBr0.out.size)).grown hgr (Nat.le_trans HBr0.out.size hSa.size) (fun g hg => (hown g hg).1)
        have hS3 : W0.grownBy w3 (Value.ownBlock u4) := (grown_of hSa _).trans hgr
        refine valAt 13 35 v2 w3 rfl rfl (by kernel_rfl) (by rfl) (append_run rfl rfl rfl hrun) hS3 ?_
        simp only [Act.put, List.setIfInBounds_toArray, List.set_cons_zero, List.set_cons_succ]
        refine takeAt 14 4 v2 rfl rfl (by kernel_rfl) (by kernel_rfl) (by kernel_rfl) (fun _ _ _ h => h) (yields (by rfl) (fun w => by kernel_rfl)) hS3 ?_
        simp only [Act.put, List.setIfInBounds_toArray, List.set_cons_zero, List.set_cons_succ]
        refine wpAnyH_done (by kernel_rfl) ?_ _
        have HS2 := Lib.hid hS2
        have HO2 := Lib.hid (show w3.ownsRow w2.heap.size 60 2 v2 (k + 1) (partC (partF l) (k + 1)) by rw [HT1.out, HT2.out]; exact hown2)
        clear hS2 hS3 hown2 hgr hrun hOa hSa hS hD hSx hSg hown hen hkv
        go_wp2_with fail
        refine ⟨⟨k + 1, rfl, hlt, HO2.out, HS2.out⟩, ?_⟩
        simp [intOf]; omega
      · obtain rfl : k = n := by omega
        obtain ⟨r, cp, hv, hP⟩ := PartsAt.of_own HOw.out hpos
        subst hv
        obtain ⟨d0, d1⟩ := hP.2 (k - 1) (by omega)
        have hF : partF l (k - 1) = ((l (k - 1)).k, showT l k) := by unfold partF; rw [show k - 1 + 1 = k by omega]
        rw [hF] at d1
        simp only [] at d1
        have q1 : (k : Int) - 1 = ((k - 1 : Nat) : Int) := by omega
        have HBe := Lib.hid (HB2.out.trans (HBr.out.mono HB2.out.size))
        clear d0 hF hP
        go_wp2_with fail
        go_ret
        exact ⟨rfl, HBe.out⟩
  · rw [if_neg h0]
    have q : (rightZ l n == 0) = false := beq_eq_false_iff_ne.2 h0
    generalize rightZ l n = z at HR q
    clear h0 hB
    go_enter Tryz.func8, Tryz.ntmps8
    go_wp2_with fail
    refine (HR.out _ (HL.out.below HBw.out (Nat.le_refl _))).mono ?_
    rintro e w1 ⟨rfl, h1⟩
    have HB1 := Lib.hid (thenB HBw.out h1 HBw.out.size)
    clear h1
    go_wp2
    go_ret
    exact ⟨rfl, HB1.out⟩
end Go.Proofs.YtfejdengpnikeaaGreatDoor
