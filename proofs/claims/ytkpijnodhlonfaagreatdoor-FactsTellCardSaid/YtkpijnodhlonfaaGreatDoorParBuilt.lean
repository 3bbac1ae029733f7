/-
  Layer 7, the landed code: built, with its deferred call.
-/
import Derived.Test.YtkpijnodhlonfaaGreatDoorParScan
import Derived.Test.YtkpijnodhlonfaaGreatDoorParD
import Derived.Test.YtkpijnodhlonfaaGreatDoorParA
import Derived.Defers
import Derived.Recover
namespace Go.Proofs.YtkpijnodhlonfaaGreatDoor
open Go.RowKit
open Ast (Nd ndV joinL wrapL deepZ rightZ Nodes)

section
variable {ops : Array Oper} {rest : List Oper} {o : Oper} {a : Act} {w : World} {Q : Exit → Act → World → Prop}
theorem storeEr (hgd : o.guard = none) (x y : Operand) (ho : o.op = .store 32 x y) (g : Nat) (z n : Int) (hx : a.eval x = .pointer (some ⟨g, 0, none⟩)) (hy : a.eval y = .int .i64 n) (hg : BoxV 32 w g #[.int .i64 z])
    (h : ∀ v : World, Hid (BoxV 32 v g #[.int .i64 n]) → Hid (ButR g w.heap.size w v) → Hid (∀ B, B ≤ g → Below B w v) → wpList Tryz.prog ops Q rest (a.put o.dst undef) v) : wpList Tryz.prog ops Q (o :: rest) a w := by
  have hc : w.cell? ⟨g, 0, none⟩ = some (.int .i64 z) := (cell_of_row w g 0 _ _ _ hg).trans rfl
  have hf := frozen_of_row w g 0 _ _ hg
  have hv := h (w.setCell ⟨g, 0, none⟩ (.int .i64 n)) (Lib.hid (heap_setCell_same _ g 0 _ _ (.int .i64 n) hg)) (Lib.hid ((ButR.refl g _ w).setCell 0 _)) (Lib.hid fun B hB => (Below.refl B w).setCell (p := ⟨g, 0, none⟩) hB _)
  refine wpList_plain hgd fun K hK => ?_
  unfold Oper.wp execOp
  simp only [ho, hx, hy]
  simp [go_sem, hc, hf]
  exact hK _ _ hv
end
theorem catch_idle (p q : Addr) (w : World) :
    CallsD Tryz.prog 94 #[.pointer (some p), .pointer (some q)] .returning w fun e u' w' => e = .returned (.tuple #[]) ∧ u' = .returning ∧ w' = w := by
  have hq : ∀ w : World, (binOp .eql 20 .nilIface .nilIface).run Tryz.prog w = .ok (.bool true) w := fun _ => by kernel_rfl
  refine callsD_of_wpS Tryz.func94 rfl fun c₀ cs hu => ?_
  apply wpS_seq
  apply wpS_region
  simp [wpOpsS, go_sem, recoverD, hu, Tryz.ntmps94, Exit.thenS]
  refine wpS_of_wp ?_
  change Code.wp _ _ _ ⟨#[.pointer (some p), .pointer (some q), undef, undef, undef, .nilIface, undef, undef, undef, undef, undef, undef], []⟩ _
  go_wp2_with fail
  cases c₀
  simp_all [bodyPostS, results, Tryz.results94]
set_option maxRecDepth 100000 in
theorem catch_deep (g h : Nat) (older : List PanicEntry) (w : World) (A : Option Addr) (n cap : Nat) (z : Int) (hg : BoxV 24 w g (trC A n cap)) (hh : BoxV 32 w h #[.int .i64 z]) (hne : g ≠ h) :
    CallsD Tryz.prog 94 #[.pointer (some ⟨g, 0, none⟩), .pointer (some ⟨h, 0, none⟩)] (.panicking ({ v := .iface 135 (.agg #[]), recovered := false } :: older)) w fun e u' w' =>
      e = .returned (.tuple #[]) ∧ u' = .panicking ({ v := .iface 135 (.agg #[]), recovered := true } :: older) ∧ BoxV 24 w' g (trC none 0 0) ∧ BoxV 32 w' h #[.int .i64 4] ∧ (∀ B, B ≤ g → B ≤ h → B ≤ w.heap.size → Below B w w') := by
  have hq : ∀ w : World, (binOp .eql 20 (.iface 135 (.agg #[])) .nilIface).run Tryz.prog w = .ok (.bool false) w := fun _ => by kernel_rfl
  have hta : ∀ w : World, (Instr.typeAssert (.iface 135 (.agg #[])) 20 135 true).run Tryz.prog w = .ok (.tuple #[.agg #[], .bool true]) w := fun _ => by kernel_rfl
  refine callsD_of_wpS Tryz.func94 rfl fun c₀ cs hu => ?_
  apply wpS_seq
  apply wpS_region
  simp [wpOpsS, go_sem, recoverD, hu, Tryz.ntmps94, Exit.thenS]
  refine wpS_of_wp ?_
  change Code.wp _ _ _ ⟨#[.pointer (some ⟨g, 0, none⟩), .pointer (some ⟨h, 0, none⟩), undef, undef, undef, .iface 135 (.agg #[]), undef, undef, undef, undef, undef, undef], []⟩ _
  have HG := Lib.hid (hg.alloc (.cells #[] 135))
  have HH := Lib.hid ((hh.alloc (.cells #[] 135)).row (trC none 0 0) (fun e => hne e.symm))
  have HNe := Lib.hid hne
  clear hg hh hne
  go_wp2_with (first | (refine storeTr rfl _ _ rfl g _ none 0 0 rfl rfl rfl HG.out ?_) | (refine storeEr rfl _ _ rfl h z 4 rfl rfl HH.out ?_; intro v hv hb hb2; refine stopP ?_))
  unfold StopP
  go_wp2_with fail
  have h1 := (HG.out.rowSame (trC none 0 0)).but hb.out (by have := HG.out.lt; simpa using this) HNe.out
  exact ⟨rfl, _, rfl, .tuple #[], by simp [results, Tryz.results94], rfl, rfl, h1, hv.out, fun B b1 b2 b3 => (below_row ((Below.refl B w).alloc b3 _) b1 _).trans (hb2.out B b2)⟩
theorem resTE {fn : Func} {p q : Tmp} (h : fn.results = #[.cell p 24, .cell q 32]) (tmps : Array Value) {w : World} {g k : Nat} {A : Option Addr} {n cap : Nat} {z : Int} (hp : tmps.getD p undef = .pointer (some ⟨g, 0, none⟩)) (hq : tmps.getD q undef = .pointer (some ⟨k, 0, none⟩)) (hg : BoxV 24 w g (trC A n cap)) (hk : BoxV 32 w k #[.int .i64 z]) :
    (results fn tmps).run Tryz.prog w = .ok (.tuple #[.agg (trC A n cap), .int .i64 z]) w := by
  have hp' : tmps[p]?.getD undef = .pointer (some ⟨g, 0, none⟩) := by simpa using hp
  have hq' : tmps[q]?.getD undef = .pointer (some ⟨k, 0, none⟩) := by simpa using hq
  have hl : w.cell? ⟨g, 0, none⟩ = some (.slice A n cap) := (cell_of_row w g 0 _ _ _ hg).trans rfl
  have hc : w.cell? ⟨k, 0, none⟩ = some (.int .i64 z) := (cell_of_row w k 0 _ _ _ hk).trans rfl
  simp [results, h, hp', hq', asAddr, hl, go_sem, hc]
/-- What the tree of tokens comes to. -/
def builtZ (l : List Tok) : Tr × Int := match altF (6 * l.length + 6) ByteArray.empty 0 l with
  | .out => ((0, fun _ => nd0 0), 4)
  | .deep => ((0, fun _ => nd0 0), 4)
  | .got t _ _ => (t, 0)
set_option maxRecDepth 100000 in
set_option maxHeartbeats 8000000 in
theorem built_any (hH : HasOk) (A : Option Addr) (cap : Nat) (l : List Tok) (w : World) (hF : Fl ByteArray.empty 0 l) (hcap : l.length ≤ cap) (htk : Toks w A l) (hsc : scanF l 0 false = true) : Calls Tryz.prog 76 #[.slice A l.length cap] w fun e w' => ∃ B n cap2, e = .returned (.tuple #[.agg (trC B n cap2), .int .i64 (builtZ l).2]) ∧ n = (builtZ l).1.1 ∧ TreeAt w w' B cap2 (builtZ l).1 ∧ Below w.heap.size w w' := by
  have hmf : ∀ (fn : Fn) (first cap : Array Value) (w : World), (Instr.makeFunc fn first cap).run Tryz.prog w = .ok (.func fn first cap) w := fun _ _ _ _ => rfl
  have HO := Lib.hid (alt_in hsc ByteArray.empty 0)
  have HA := Lib.hid (fun w0 w g (hS : RSt w0 g w ByteArray.empty 0 l) => (read_all hH (6 * l.length + 6)).1 w0 w g ByteArray.empty 0 l hF hS HO.out)
  have HT := Lib.hid htk
  have HC := Lib.hid hcap
  obtain ⟨X, hX⟩ : ∃ X, X = altF (6 * l.length + 6) ByteArray.empty 0 l := ⟨_, rfl⟩
  unfold builtZ
  rw [← hX] at HA HO ⊢
  clear hX htk hcap hsc hF hH
  go_enter_defers Tryz.func76, Tryz.ntmps76
  go_wp2_with fail
  obtain ⟨w0, hw0⟩ : ∃ w0, w0 = (w.alloc (.cells (trC none 0 0) 24)).alloc (.cells #[.int .i64 0] 32) := ⟨_, rfl⟩
  have hsz : w0.heap.size = w.heap.size + 1 + 1 := by rw [hw0]; simp
  have hG : BoxV 24 w0 w.heap.size (trC none 0 0) := by rw [hw0]; exact (BoxV.new _ _).alloc _
  have hE : BoxV 32 w0 (w.heap.size + 1) #[.int .i64 0] := by
    have h := BoxV.new (T := 32) (w.alloc (.cells (trC none 0 0) 24)) #[.int .i64 0]
    rw [hw0]
    simpa using h
  have hB0 : Below w.heap.size w w0 := by rw [hw0]; exact ((Below.refl _ w).alloc (Nat.le_refl _) _).alloc (by simp) _
  have HG := Lib.hid hG
  have HE := Lib.hid hE
  have HB0 := Lib.hid hB0
  have HSz := Lib.hid hsz
  have hS : RSt w0 (w.heap.size + 1 + 1) (w0.alloc (.cells #[.slice A l.length cap, .string ⟨#[]⟩, .int .i64 0] 138)) ByteArray.empty 0 l := by
    refine ⟨by omega, ⟨A, cap, ?_, HT.out.below hB0 (Nat.le_refl _), HC.out⟩, (Below.refl _ w0).alloc (Nat.le_refl _) _⟩
    rw [← hsz]
    exact heap_alloc_new _ _
  have HAA := HA.out w0 _ _ hS
  clear hG hE hB0 hsz hS HA HT HC
  rw [hw0] at HAA
  with_reducible refine HAA.mono ?_
  rw [← hw0]
  clear hw0 HAA
  cases X with
  | out => exact absurd rfl HO.out
  | deep =>
    rintro e w1 ⟨rfl, hb⟩
    refine leaves_cons (f := 94) (args := #[.pointer (some ⟨w.heap.size, 0, none⟩), .pointer (some ⟨w.heap.size + 1, 0, none⟩)]) (by simp) (by simp [go_sem]) ?_
    have hG1 := HG.out.below hb (by have := HSz.out; omega)
    have hE1 := HE.out.below hb (by have := HSz.out; omega)
    refine (catch_deep w.heap.size (w.heap.size + 1) [] w1 _ _ _ _ hG1 hE1 (by omega)).mono ?_
    rintro e u' w'' ⟨rfl, rfl, h1, h2, h3⟩
    refine ⟨_, resTE (p := 2) (q := 3) rfl _ rfl rfl h1 h2, ?_⟩
    refine ⟨none, 0, 0, rfl, rfl, ⟨fun i hi => absurd hi (Nat.not_lt_zero i), fun _ => ⟨rfl, rfl⟩, fun a ha => by cases ha⟩, ?_⟩
    exact (HB0.out.trans (hb.mono (by have := HSz.out; omega))).trans (h3 _ (Nat.le_refl _) (by omega) (by have := hb.size; have := HSz.out; omega))
  | got t c l1 =>
    rintro e w1 ⟨B, cap2, rfl, ht, hs, hb⟩
    have hBb := hb.below (C := w0.heap.size) (by simp) (by have := HSz.out; omega)
    have hG1 := (HG.out.alloc (.cells #[.slice A l.length cap, .string ⟨#[]⟩, .int .i64 0] 138)).but hb (by have := HSz.out; simp; omega) (by omega)
    have hE1 := ((HE.out.alloc (.cells #[.slice A l.length cap, .string ⟨#[]⟩, .int .i64 0] 138)).but hb (by have := HSz.out; simp; omega) (by omega)).row (trC B t.1 cap2) (show w.heap.size + 1 ≠ w.heap.size by omega)
    have HG1 := Lib.hid hG1
    have HE1 := Lib.hid hE1
    have HT1 := Lib.hid ht
    have HB1 := Lib.hid (HB0.out.trans ((((Below.refl w.heap.size w0).alloc (by have := HSz.out; omega) (.cells #[.slice A l.length cap, .string ⟨#[]⟩, .int .i64 0] 138))).trans (hb.below (C := w.heap.size) (by have := HSz.out; simp; omega) (by omega))))
    clear ht hs hb hBb hG1 hE1
    go_wp2_with (first | (refine storeTr rfl _ _ rfl w.heap.size _ B t.1 cap2 rfl rfl rfl HG1.out ?_) | (refine storeEr rfl _ _ rfl (w.heap.size + 1) 0 0 rfl rfl HE1.out ?_; intro v hv hb hb2; refine stopP ?_))
    unfold StopP
    have HV := Lib.hid hv.out
    have HVG := Lib.hid ((HG1.out.rowSame (trC B t.1 cap2)).but hb.out (by have := HG1.out.lt; simpa using this) (by omega))
    have HVT := Lib.hid ((HT1.out.row (k := w.heap.size) (by have := HSz.out; simp; omega) (trC B t.1 cap2)).but hb.out (by have := HSz.out; simp; omega))
    have HVB := Lib.hid ((below_row HB1.out (Nat.le_refl _) (trC B t.1 cap2)).trans (hb2.out w.heap.size (by omega)))
    clear hv hb hb2
    go_wp2_with fail
    refine leaves_cons (f := 94) (args := #[.pointer (some ⟨w.heap.size, 0, none⟩), .pointer (some ⟨w.heap.size + 1, 0, none⟩)]) (by simp) (by simp [go_sem]) ?_
    refine (catch_idle _ _ _).mono ?_
    rintro e u' w'' ⟨rfl, rfl, rfl⟩
    refine ⟨_, resTE (p := 2) (q := 3) rfl _ rfl rfl HVG.out HV.out, ?_⟩
    exact ⟨B, t.1, cap2, rfl, rfl, HVT.out.old (by have := HSz.out; simp; omega), HVB.out⟩
end Go.Proofs.YtkpijnodhlonfaaGreatDoor
