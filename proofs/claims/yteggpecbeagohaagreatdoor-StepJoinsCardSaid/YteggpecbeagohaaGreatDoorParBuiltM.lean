import Derived.Test.YteggpecbeagohaaGreatDoorParDM
import Derived.Test.YteggpecbeagohaaGreatDoorParAM
import Derived.Defers
import Derived.Recover
import Derived.Test.YteggpecbeagohaaGreatDoorLexUpM
import Derived.Test.YteggpecbeagohaaGreatDoorClassMM
import Derived.Test.YteggpecbeagohaaGreatDoorAstD
import Derived.Test.YteggpecbeagohaaGreatDoorAstH
import Derived.Test.YteggpecbeagohaaGreatDoorAstG
namespace Go.Proofs.YteggpecbeagohaaGreatDoor
open Go.RowKit
open Ast (Nd ndV joinL wrapL deepZ rightZ Nodes)
section
variable {ops : Array Oper} {rest : List Oper} {o : Oper} {a : Act} {w : World} {Q : Exit → Act → World → Prop}
theorem storeEr (hgd : o.guard = none) (x y : Operand) (ho : o.op = .store 46 x y) (g : Nat) (z n : Int) (hx : a.eval x = .pointer (some ⟨g, 0, none⟩)) (hy : a.eval y = .int .i64 n) (hg : BoxV 46 w g #[.int .i64 z])
  (h : ∀ v : World, Hid (BoxV 46 v g #[.int .i64 n]) → Hid (ButR g w.heap.size w v) → Hid (∀ B, B ≤ g → Below B w v) → wpList Tryz.prog ops Q rest (a.put o.dst undef) v) : wpList Tryz.prog ops Q (o :: rest) a w := by
 have hc : w.cell? ⟨g, 0, none⟩ = some (.int .i64 z) := (cell_of_row w g 0 _ _ _ hg).trans rfl
 have hf := frozen_of_row w g 0 _ _ hg
 have hv := h (w.setCell ⟨g, 0, none⟩ (.int .i64 n)) (Lib.hid (heap_setCell_same _ g 0 _ _ (.int .i64 n) hg)) (Lib.hid ((ButR.refl g _ w).setCell 0 _)) (Lib.hid fun B hB => (Below.refl B w).setCell (p := ⟨g, 0, none⟩) hB _)
 refine wpList_plain hgd fun K hK => ?_
 unfold Oper.wp execOp
 simp only [ho, hx, hy]
 simp [go_sem, hc, hf]
 exact hK _ _ hv
end
theorem catch_idle (p q : Addr) (w : World) :
  CallsD Tryz.prog 53 #[.pointer (some p), .pointer (some q)] .returning w fun e u' w' => e = .returned (.tuple #[]) ∧ u' = .returning ∧ w' = w := by
 have hq : ∀ w : World, (binOp .eql 20 .nilIface .nilIface).run Tryz.prog w = .ok (.bool true) w := fun _ => by kernel_rfl
 refine callsD_of_wpS Tryz.func53 rfl fun c₀ cs hu => ?_
 apply wpS_seq
 apply wpS_region
 simp [wpOpsS, go_sem, recoverD, hu, Tryz.ntmps53, Exit.thenS]
 refine wpS_of_wp ?_
 change Code.wp _ _ _ ⟨#[.pointer (some p), .pointer (some q), undef, undef, undef, .nilIface, undef, undef, undef, undef, undef, undef], []⟩ _
 go_wp2_with fail
 cases c₀
 simp_all [bodyPostS, results, Tryz.results53]
set_option maxRecDepth 100000 in
theorem catch_deep (g h : Nat) (older : List PanicEntry) (w : World) (A : Option Addr) (n cap : Nat) (z : Int) (hg : BoxV 43 w g (trC A n cap)) (hh : BoxV 46 w h #[.int .i64 z]) (hne : g ≠ h) :
  CallsD Tryz.prog 53 #[.pointer (some ⟨g, 0, none⟩), .pointer (some ⟨h, 0, none⟩)] (.panicking ({ v := .iface 123 (.agg #[]), recovered := false } :: older)) w fun e u' w' =>
   e = .returned (.tuple #[]) ∧ u' = .panicking ({ v := .iface 123 (.agg #[]), recovered := true } :: older) ∧ BoxV 43 w' g (trC none 0 0) ∧ BoxV 46 w' h #[.int .i64 4] ∧ (∀ B, B ≤ g → B ≤ h → B ≤ w.heap.size → Below B w w') := by
 have hq : ∀ w : World, (binOp .eql 20 (.iface 123 (.agg #[])) .nilIface).run Tryz.prog w = .ok (.bool false) w := fun _ => by kernel_rfl
 have hta : ∀ w : World, (Instr.typeAssert (.iface 123 (.agg #[])) 20 123 true).run Tryz.prog w = .ok (.tuple #[.agg #[], .bool true]) w := fun _ => by kernel_rfl
 refine callsD_of_wpS Tryz.func53 rfl fun c₀ cs hu => ?_
 apply wpS_seq
 apply wpS_region
 simp [wpOpsS, go_sem, recoverD, hu, Tryz.ntmps53, Exit.thenS]
 refine wpS_of_wp ?_
 change Code.wp _ _ _ ⟨#[.pointer (some ⟨g, 0, none⟩), .pointer (some ⟨h, 0, none⟩), undef, undef, undef, .iface 123 (.agg #[]), undef, undef, undef, undef, undef, undef], []⟩ _
 have HG := Lib.hid (hg.alloc (.cells #[] 123))
 have HH := Lib.hid ((hh.alloc (.cells #[] 123)).row (trC none 0 0) (fun e => hne e.symm))
 have HNe := Lib.hid hne
 clear hg hh hne
 go_wp2_with (first | (refine storeTr rfl _ _ rfl g _ none 0 0 rfl rfl rfl HG.out ?_) | (refine storeEr rfl _ _ rfl h z 4 rfl rfl HH.out ?_; intro v hv hb hb2; refine stopP ?_))
 unfold StopP
 go_wp2_with fail
 have h1 := (HG.out.rowSame (trC none 0 0)).but hb.out (by have := HG.out.lt; simpa using this) HNe.out
 exact ⟨rfl, _, rfl, .tuple #[], by simp [results, Tryz.results53], rfl, rfl, h1, hv.out, fun B b1 b2 b3 => (below_row ((Below.refl B w).alloc b3 _) b1 _).trans (hb2.out B b2)⟩
theorem resTE {fn : Func} {p q : Tmp} (h : fn.results = #[.cell p 43, .cell q 46]) (tmps : Array Value) {w : World} {g k : Nat} {A : Option Addr} {n cap : Nat} {z : Int} (hp : tmps.getD p undef = .pointer (some ⟨g, 0, none⟩)) (hq : tmps.getD q undef = .pointer (some ⟨k, 0, none⟩)) (hg : BoxV 43 w g (trC A n cap)) (hk : BoxV 46 w k #[.int .i64 z]) :
  (results fn tmps).run Tryz.prog w = .ok (.tuple #[.agg (trC A n cap), .int .i64 z]) w := by
 have hp' : tmps[p]?.getD undef = .pointer (some ⟨g, 0, none⟩) := by simpa using hp
 have hq' : tmps[q]?.getD undef = .pointer (some ⟨k, 0, none⟩) := by simpa using hq
 have hl : w.cell? ⟨g, 0, none⟩ = some (.slice A n cap) := (cell_of_row w g 0 _ _ _ hg).trans rfl
 have hc : w.cell? ⟨k, 0, none⟩ = some (.int .i64 z) := (cell_of_row w k 0 _ _ _ hk).trans rfl
 simp [results, h, hp', hq', asAddr, hl, go_sem, hc]
def builtZ (l : List Tok) : Tr × Int := match altF (6 * l.length + 6) ByteArray.empty 0 l with
 | .out => ((0, fun _ => nd0 0), 4)
 | .deep => ((0, fun _ => nd0 0), 4)
 | .got t _ _ => (t, 0)
set_option maxRecDepth 100000 in
set_option maxHeartbeats 8000000 in
theorem built_any (hH : HasOk) (A : Option Addr) (cap : Nat) (l : List Tok) (w : World) (hF : Fl ByteArray.empty 0 l) (hcap : l.length ≤ cap) (htk : Toks w A l) (hsc : scanF l 0 false = true) : Calls Tryz.prog 34 #[.slice A l.length cap] w fun e w' => ∃ B n cap2, e = .returned (.tuple #[.agg (trC B n cap2), .int .i64 (builtZ l).2]) ∧ n = (builtZ l).1.1 ∧ TreeAt w w' B cap2 (builtZ l).1 ∧ Below w.heap.size w w' := by
 have hmf : ∀ (fn : Fn) (first cap : Array Value) (w : World), (Instr.makeFunc fn first cap).run Tryz.prog w = .ok (.func fn first cap) w := fun _ _ _ _ => rfl
 have HO := Lib.hid (alt_in hsc ByteArray.empty 0)
 have HA := Lib.hid (fun w0 w g (hS : RSt w0 g w ByteArray.empty 0 l) => (read_all hH (6 * l.length + 6)).1 w0 w g ByteArray.empty 0 l hF hS HO.out)
 have HT := Lib.hid htk
 have HC := Lib.hid hcap
 obtain ⟨X, hX⟩ : ∃ X, X = altF (6 * l.length + 6) ByteArray.empty 0 l := ⟨_, rfl⟩
 unfold builtZ
 rw [← hX] at HA HO ⊢
 clear hX htk hcap hsc hF hH
 go_enter_defers Tryz.func34, Tryz.ntmps34
 go_wp2_with fail
 obtain ⟨w0, hw0⟩ : ∃ w0, w0 = (w.alloc (.cells (trC none 0 0) 43)).alloc (.cells #[.int .i64 0] 46) := ⟨_, rfl⟩
 have hsz : w0.heap.size = w.heap.size + 1 + 1 := by rw [hw0]; simp
 have hG : BoxV 43 w0 w.heap.size (trC none 0 0) := by rw [hw0]; exact (BoxV.new _ _).alloc _
 have hE : BoxV 46 w0 (w.heap.size + 1) #[.int .i64 0] := by
  have h := BoxV.new (T := 46) (w.alloc (.cells (trC none 0 0) 43)) #[.int .i64 0]
  rw [hw0]
  simpa using h
 have hB0 : Below w.heap.size w w0 := by rw [hw0]; exact ((Below.refl _ w).alloc (Nat.le_refl _) _).alloc (by simp) _
 have HG := Lib.hid hG
 have HE := Lib.hid hE
 have HB0 := Lib.hid hB0
 have HSz := Lib.hid hsz
 have hS : RSt w0 (w.heap.size + 1 + 1) (w0.alloc (.cells #[.slice A l.length cap, .string ⟨#[]⟩, .int .i64 0] 126)) ByteArray.empty 0 l := by
  refine ⟨by omega, ⟨A, cap, ?_, HT.out.below hB0 (Nat.le_refl _), HC.out⟩, (Below.refl _ w0).alloc (Nat.le_refl _) _⟩
  rw [← hsz]
  exact heap_alloc_new _ _
 have HAA := HA.out w0 _ _ hS
 clear hG hE hB0 hsz hS HA HT HC
 rw [hw0] at HAA
 with_reducible refine HAA.mono ?_
 rw [← hw0]
 clear hw0 HAA
 cases X with
 | out => exact absurd rfl HO.out
 | deep =>
   rintro e w1 ⟨rfl, hb⟩
   refine leaves_cons (f := 53) (args := #[.pointer (some ⟨w.heap.size, 0, none⟩), .pointer (some ⟨w.heap.size + 1, 0, none⟩)]) (by simp) (by simp [go_sem]) ?_
   have hG1 := HG.out.below hb (by have := HSz.out; omega)
   have hE1 := HE.out.below hb (by have := HSz.out; omega)
   refine (catch_deep w.heap.size (w.heap.size + 1) [] w1 _ _ _ _ hG1 hE1 (by omega)).mono ?_
   rintro e u' w'' ⟨rfl, rfl, h1, h2, h3⟩
   refine ⟨_, resTE (p := 2) (q := 3) rfl _ rfl rfl h1 h2, ?_⟩
   refine ⟨none, 0, 0, rfl, rfl, ⟨fun i hi => absurd hi (Nat.not_lt_zero i), fun _ => ⟨rfl, rfl⟩, fun a ha => by cases ha⟩, ?_⟩
   exact (HB0.out.trans (hb.mono (by have := HSz.out; omega))).trans (h3 _ (Nat.le_refl _) (by omega) (by have := hb.size; have := HSz.out; omega))
 | got t c l1 =>
   rintro e w1 ⟨B, cap2, rfl, ht, hs, hb⟩
   have hBb := hb.below (C := w0.heap.size) (by simp) (by have := HSz.out; omega)
   have hG1 := (HG.out.alloc (.cells #[.slice A l.length cap, .string ⟨#[]⟩, .int .i64 0] 126)).but hb (by have := HSz.out; simp; omega) (by omega)
   have hE1 := ((HE.out.alloc (.cells #[.slice A l.length cap, .string ⟨#[]⟩, .int .i64 0] 126)).but hb (by have := HSz.out; simp; omega) (by omega)).row (trC B t.1 cap2) (show w.heap.size + 1 ≠ w.heap.size by omega)
   have HG1 := Lib.hid hG1
   have HE1 := Lib.hid hE1
   have HT1 := Lib.hid ht
   have HB1 := Lib.hid (HB0.out.trans ((((Below.refl w.heap.size w0).alloc (by have := HSz.out; omega) (.cells #[.slice A l.length cap, .string ⟨#[]⟩, .int .i64 0] 126))).trans (hb.below (C := w.heap.size) (by have := HSz.out; simp; omega) (by omega))))
   clear ht hs hb hBb hG1 hE1
   go_wp2_with (first | (refine storeTr rfl _ _ rfl w.heap.size _ B t.1 cap2 rfl rfl rfl HG1.out ?_) | (refine storeEr rfl _ _ rfl (w.heap.size + 1) 0 0 rfl rfl HE1.out ?_; intro v hv hb hb2; refine stopP ?_))
   unfold StopP
   have HV := Lib.hid hv.out
   have HVG := Lib.hid ((HG1.out.rowSame (trC B t.1 cap2)).but hb.out (by have := HG1.out.lt; simpa using this) (by omega))
   have HVT := Lib.hid ((HT1.out.row (k := w.heap.size) (by have := HSz.out; simp; omega) (trC B t.1 cap2)).but hb.out (by have := HSz.out; simp; omega))
   have HVB := Lib.hid ((below_row HB1.out (Nat.le_refl _) (trC B t.1 cap2)).trans (hb2.out w.heap.size (by omega)))
   clear hv hb hb2
   go_wp2_with fail
   refine leaves_cons (f := 53) (args := #[.pointer (some ⟨w.heap.size, 0, none⟩), .pointer (some ⟨w.heap.size + 1, 0, none⟩)]) (by simp) (by simp [go_sem]) ?_
   refine (catch_idle _ _ _).mono ?_
   rintro e u' w'' ⟨rfl, rfl, rfl⟩
   refine ⟨_, resTE (p := 2) (q := 3) rfl _ rfl rfl HVG.out HV.out, ?_⟩
   exact ⟨B, t.1, cap2, rfl, rfl, HVT.out.old (by have := HSz.out; simp; omega), HVB.out⟩
end Go.Proofs.YteggpecbeagohaaGreatDoor
namespace Go.Proofs.YteggpecbeagohaaGreatDoor
open Go.RowKit
open Ast (Nd ndV joinL wrapL deepZ rightZ Nodes)
theorem flags_f (p : ByteArray) : ∀ (f i : Nat) (s : List UInt8), s.length ≤ i → i ≤ p.size → (flagsF p f i s).1.f.size ≤ p.size := by
 intro f
 induction f with
 | zero => intro i s _ _; exact Nat.zero_le _
 | succ f ih =>
   intro i s h1 h2
   unfold flagsF
   split
   ·rename_i hi
    split
    ·show s.toArray.size ≤ p.size
     simp
     omega
    ·split
     ·exact Nat.zero_le _
     ·split
      ·exact Nat.zero_le _
      ·exact ih (i + 1) _ (by rw [List.length_append]; show s.length + 1 ≤ i + 1; omega) hi
   ·exact Nat.zero_le _
theorem head_f (p : ByteArray) (i : Nat) : ∀ (l : List (List Nat × Int)) x, headF p i l = some x → x.1.f.size = 0
 | [], x, h => by cases h
 | y :: l, x, h => by
   rw [headF] at h
   split at h
   ·cases h
    rfl
   ·exact head_f p i l x h
theorem mode_f (p : ByteArray) (x : TokR) : (modeZ p x).1.f = x.1.f := by
 unfold modeZ
 split
 ·rfl
 ·split <;> rfl
theorem brace_f (p : ByteArray) (i : Nat) : (bracesZ p i).1.f.size = 0 := by
 unfold bracesZ
 simp only []
 split
 ·rfl
 ·generalize (ite (bt p (countZ p (i + 1)).2 = 44) _ _ : Int × Nat) = b
  split
  ·rfl
  ·split
   ·rfl
   ·split <;> rfl
theorem quant_f (p : ByteArray) (i : Nat) : (quantZ p i).1.f.size = 0 := by
 unfold quantZ
 split
 ·split
  ·rw [mode_f]; exact brace_f p i
  ·rfl
 ·rw [mode_f]; rfl
theorem tok_f (p : ByteArray) (i : Nat) : (tokZ p i).1.f.size ≤ p.size := by
 unfold tokZ
 split
 ·rename_i x hx
  rw [head_f p i _ x hx]
  exact Nat.zero_le _
 ·split
  ·rename_i hq
   have h2 : bt p (i + 1) = 63 := by
    simp [headB] at hq
    exact hq.2
   have := bt_in (p := p) (i := i + 1) (by omega)
   exact flags_f p _ (i + 2) [] (Nat.zero_le _) (by omega)
  ·split
   ·exact Nat.zero_le _
   ·split
    ·rw [quant_f]; exact Nat.zero_le _
    ·split
     ·exact Nat.zero_le _
     ·split
      ·exact Nat.zero_le _
      ·split
       ·exact Nat.zero_le _
       ·split
        ·exact Nat.zero_le _
        ·split <;> exact Nat.zero_le _
theorem toks_f (p : ByteArray) : ∀ t ∈ (lexZ p).1, t.f.size ≤ 1000 := by
 unfold lexZ
 split
 ·intro t ht; cases ht
 ·rename_i hp
  have H : ∀ (f i : Nat) (l : List Tok), (∀ t ∈ l, t.f.size ≤ 1000) → ∀ t ∈ (lexF p f i l).1, t.f.size ≤ 1000 := by
   intro f
   induction f with
   | zero => intro i l h; exact h
   | succ f ih =>
     intro i l h
     rw [lexF]
     split
     ·exact h
     ·split
      ·intro t ht; cases ht
      ·refine ih _ _ fun t ht => ?_
       rcases List.mem_append.1 ht with h1 | h1
       ·exact h t h1
       ·obtain rfl : t = (tokZ p i).1 := by simpa using h1
        exact Nat.le_trans (tok_f p i) (by omega)
  exact H _ _ _ (fun t ht => by cases ht)
theorem toks_le (p : ByteArray) : (lexZ p).1.length ≤ 1000 := by
 by_cases h : 1000 < p.size
 ·unfold lexZ
  rw [if_pos h]
  exact Nat.zero_le _
 ·exact toks_len p (by omega)
theorem fl_lex (p : ByteArray) : Fl ByteArray.empty 0 (lexZ p).1 :=
 ⟨by have := toks_le p; omega, by have := toks_le p; omega, by have := toks_le p; show 0 + _ ≤ _; omega, toks_f p⟩
theorem own_cap {w : World} {base : Nat} {A : Option Addr} {n cap : Nat} {T : TypeId} {xs : List Value} {size : Nat} (h : w.ownsRow base T size (.slice A n cap) n xs) : n ≤ cap := by
 rcases h.2 with ⟨h1, h2⟩ | ⟨g, c, cur, h1, -, -, h3, -⟩
 ·omega
 ·cases h1
  exact h3
theorem treeZ_no {l : List Tok} (h : scanF l 0 false = false) : treeZ l = ((0, fun _ => nd0 0), 3) := by unfold treeZ; rw [if_pos h]
theorem treeZ_yes {l : List Tok} (h : scanF l 0 false = true) : treeZ l = if (builtZ l).2 ≠ 0 then ((0, fun _ => nd0 0), (builtZ l).2) else if rightZ (builtZ l).1.2 (builtZ l).1.1 = 0 then builtZ l else ((0, fun _ => nd0 0), rightZ (builtZ l).1.2 (builtZ l).1.1) := by
 unfold treeZ builtZ
 rw [if_neg (by rw [h]; decide)]
 cases altF (6 * l.length + 6) ByteArray.empty 0 l with
 | out => rfl
 | deep => rfl
 | got t g l => rfl
theorem builtZ_le (l : List Tok) : (builtZ l).1.1 ≤ 2 * l.length + 1 := by
 unfold builtZ
 cases h : altF (6 * l.length + 6) ByteArray.empty 0 l with
 | out => exact Nat.zero_le _
 | deep => exact Nat.zero_le _
 | got t g l1 =>
   have := ((rd_part _).1 _ _ _ _ _ _ h).len
   show t.1 ≤ _
   omega
structure PKit : Prop where
 errs : ErrsOk
 clone : CloneOk
 has : HasOk
 sort : Ast.SortOk
 none : Ast.SortNone
def GotTree (w : World) (R : Tr × Int) (e : Ending) (w' : World) : Prop := ∃ B cap, e = .returned (.tuple #[.agg (trC B R.1.1 cap), .int .i64 R.2]) ∧ TreeAt w w' B cap R.1 ∧ Below w.heap.size w w'
theorem resTI {fn : Func} {p q : Tmp} (h : fn.results = #[.cell p 43, .tmp q]) (tmps : Array Value) {w : World} {g : Nat} {A : Option Addr} {n cap : Nat} {v : Value} (hp : tmps.getD p undef = .pointer (some ⟨g, 0, none⟩)) (hq : tmps.getD q undef = v) (hg : BoxV 43 w g (trC A n cap)) :
  (results fn tmps).run Tryz.prog w = .ok (.tuple #[.agg (trC A n cap), v]) w := by
 have hp' : tmps[p]?.getD undef = .pointer (some ⟨g, 0, none⟩) := by simpa using hp
 have hq' : tmps[q]?.getD undef = v := by simpa using hq
 have hl : w.cell? ⟨g, 0, none⟩ = some (.slice A n cap) := (cell_of_row w g 0 _ _ _ hg).trans rfl
 simp [results, h, hp', hq', asAddr, go_sem, hl]
theorem none_tree (w w' : World) (f : Nat → Nd) : TreeAt w w' none 0 (0, f) := ⟨fun i hi => absurd hi (Nat.not_lt_zero i), fun _ => ⟨rfl, rfl⟩, fun a ha => by cases ha⟩
set_option maxRecDepth 100000 in
set_option maxHeartbeats 8000000 in
theorem parse_any (K : PKit) (p : ByteArray) (w : World) (hw : Tabs w) : Calls Tryz.prog 17 #[.string p] w (GotTree w (parseZ p)) := by
 have HZ : Hid (BoxV 43 (zTr w) w.heap.size (trC none 0 0)) := Lib.hid (BoxV.new _ _)
 have HL := Lib.hid (lex_any K.errs K.clone p (zTr w) (hw.alloc _).err (hw.alloc _).tab (hw.alloc _).op)
 have HFl := Lib.hid (fl_lex p)
 have HK := Lib.hid K
 unfold parseZ
 obtain ⟨Z, hZ⟩ : ∃ Z, Z = lexZ p := ⟨_, rfl⟩
 rw [← hZ] at HL HFl ⊢
 clear hZ hw K
 obtain ⟨l, er⟩ := Z
 simp only [] at HFl ⊢
 go_enter Tryz.func17, Tryz.ntmps17
 go_wp2_with fail
 with_reducible refine HL.out.mono ?_
 rintro e w1 ⟨v1, rfl, ho1, hb⟩
 obtain ⟨A, cap, rfl, htk, -⟩ := own_toks ho1
 have HC := Lib.hid (own_cap ho1)
 have HT1 := Lib.hid htk
 have HZ1 := Lib.hid (HZ.out.below hb HZ.out.lt)
 have HB1 := Lib.hid (((Below.refl w.heap.size w).alloc (Nat.le_refl _) (.cells (trC none 0 0) 43)).trans (hb.mono (by simp)))
 clear ho1 htk hb HL
 simp only [] at HC HT1 ⊢
 by_cases he : er = 0
 ·subst he
  have HSc := Lib.hid (scan_any A cap l w1 HFl.out.len HT1.out)
  cases hs : scanF l 0 false with
  | false =>
    have HR := Lib.hid (treeZ_no hs)
    rw [hs] at HSc
    go_wp2_with fail
    with_reducible refine HSc.out.mono ?_
    rintro e w2 ⟨rfl, hb⟩
    have HZ2 := Lib.hid (HZ1.out.below hb HZ1.out.lt)
    have HB2 := Lib.hid (thenB HB1.out hb HB1.out.size)
    clear hb
    go_wp2_with (refine storeTr rfl _ _ rfl w.heap.size _ none 0 0 rfl rfl rfl HZ2.out ?_)
    refine bodyPost_ret (resTI (p := 2) (q := 3) (A := none) (n := 0) (cap := 0) (v := .int .i64 3) rfl _ (g := w.heap.size) rfl rfl (HZ2.out.rowSame _)) rfl ?_
    unfold GotTree
    rw [HR.out]
    exact ⟨none, 0, rfl, none_tree _ _ _, below_row HB2.out (Nat.le_refl _) _⟩
  | true =>
    have HR := Lib.hid (treeZ_yes hs)
    have hbl := builtZ_le l
    have HBu := Lib.hid (fun u (hu : Toks u A l) => built_any HK.out.has A cap l u HFl.out HC.out hu hs)
    rw [hs] at HSc
    clear hs
    obtain ⟨X, hX⟩ : ∃ X, X = builtZ l := ⟨_, rfl⟩
    rw [← hX] at HR HBu hbl
    clear hX
    have HBl := Lib.hid (show X.1.1 ≤ 4001 by have := HFl.out.len; omega)
    clear hbl
    go_wp2_with fail
    with_reducible refine HSc.out.mono ?_
    rintro e w2 ⟨rfl, hb⟩
    have HZ2 := Lib.hid (HZ1.out.below hb HZ1.out.lt)
    have HB2 := Lib.hid (thenB HB1.out hb HB1.out.size)
    have HT2 := Lib.hid (HT1.out.below hb (Nat.le_refl _))
    clear hb
    go_wp2_with fail
    with_reducible refine (HBu.out _ HT2.out).mono ?_
    obtain ⟨t, eb⟩ := X
    rintro e w3 ⟨B, n, cap3, rfl, rfl, ht, hb⟩
    have HT3 := Lib.hid ht
    have HZ3 := Lib.hid (HZ2.out.below hb HZ2.out.lt)
    have HB3 := Lib.hid (thenB HB2.out hb HB2.out.size)
    have hw2 : w.heap.size < w2.heap.size := HZ2.out.lt
    clear hb ht
    simp only [] at HT3 HR HBl ⊢
    go_wp2_with (refine storeNewTr rfl _ _ rfl w3 B t.1 cap3 rfl rfl rfl ?_; intro w4 hx hN; refine stopP ?_)
    unfold StopP
    have HT4 := Lib.hid (HT3.out.but (ButR.of (g := w.heap.size) hN.out) hw2)
    have HZ4 := Lib.hid (HZ3.out.below hN.out HZ3.out.lt)
    have HB4 := Lib.hid (thenB HB3.out hN.out HB3.out.size)
    have HX4 := Lib.hid hx.out
    clear hx hN
    by_cases hb0 : eb = 0
    ·subst hb0
     go_wp2_with (refine loadTr rfl _ rfl w3.heap.size B t.1 cap3 rfl HX4.out ?_)
     refine (Ast.right_any HK.out.sort HK.out.none B t.1 cap3 t.2 _ (by have := HBl.out; omega) HT4.out.nodes).mono ?_
     rintro e w5 ⟨rfl, hb⟩
     have HT5 := Lib.hid (HT4.out.but (ButR.of (g := w.heap.size) hb) hw2)
     have HZ5 := Lib.hid (HZ4.out.below hb HZ4.out.lt)
     have HB5 := Lib.hid (thenB HB4.out hb HB4.out.size)
     have HX5 := Lib.hid (HX4.out.below hb HX4.out.lt)
     have hw3 : w.heap.size < w3.heap.size := HZ3.out.lt
     clear hb
     obtain ⟨z, hz⟩ : ∃ z, z = rightZ t.2 t.1 := ⟨_, rfl⟩
     rw [← hz] at HR ⊢
     clear hz
     by_cases hz0 : z = 0
     ·subst hz0
      have HRz := Lib.hid (HR.out.trans (show (if (0 : Int) ≠ 0 then ((0, fun _ => nd0 0), (0 : Int)) else if (0 : Int) = 0 then (t, (0 : Int)) else ((0, fun _ => nd0 0), 0)) = (t, 0) from rfl))
      go_wp2_with (first | (refine loadTr rfl _ rfl w3.heap.size B t.1 cap3 rfl HX5.out ?_) | (refine storeTr rfl _ _ rfl w.heap.size _ B t.1 cap3 rfl rfl rfl HZ5.out ?_))
      refine bodyPost_ret (resTI (p := 2) (q := 3) (A := B) (n := t.1) (cap := cap3) (v := .int .i64 0) rfl _ (g := w.heap.size) rfl rfl (HZ5.out.rowSame _)) rfl ?_
      unfold GotTree
      rw [HRz.out]
      exact ⟨B, cap3, rfl, (HT5.out.row hw2 _).old (by omega), below_row HB5.out (Nat.le_refl _) _⟩
     ·have HRz := Lib.hid (HR.out.trans (show (if (0 : Int) ≠ 0 then ((0, fun _ => nd0 0), (0 : Int)) else if z = 0 then (t, (0 : Int)) else ((0, fun _ => nd0 0), z)) = ((0, fun _ => nd0 0), z) by rw [if_neg (by decide), if_neg hz0]))
      go_wp2_with (refine storeTr rfl _ _ rfl w.heap.size _ none 0 0 rfl rfl rfl HZ5.out ?_)
      refine bodyPost_ret (resTI (p := 2) (q := 3) (A := none) (n := 0) (cap := 0) (v := .int .i64 z) rfl _ (g := w.heap.size) rfl rfl (HZ5.out.rowSame _)) rfl ?_
      unfold GotTree
      rw [HRz.out]
      exact ⟨none, 0, rfl, none_tree _ _ _, below_row HB5.out (Nat.le_refl _) _⟩
    ·have HRz := Lib.hid (HR.out.trans (if_pos hb0))
     go_wp2_with (refine storeTr rfl _ _ rfl w.heap.size _ none 0 0 rfl rfl rfl HZ4.out ?_)
     refine bodyPost_ret (resTI (p := 2) (q := 3) (A := none) (n := 0) (cap := 0) (v := .int .i64 eb) rfl _ (g := w.heap.size) rfl rfl (HZ4.out.rowSame _)) rfl ?_
     unfold GotTree
     rw [HRz.out]
     exact ⟨none, 0, rfl, none_tree _ _ _, below_row HB4.out (Nat.le_refl _) _⟩
 ·clear HC HT1
  go_wp2_with (refine storeTr rfl _ _ rfl w.heap.size _ none 0 0 rfl rfl rfl HZ1.out ?_)
  refine bodyPost_ret (resTI (p := 2) (q := 3) (A := none) (n := 0) (cap := 0) (v := .int .i64 er) rfl _ (g := w.heap.size) rfl rfl (HZ1.out.rowSame _)) rfl ?_
  unfold GotTree
  exact ⟨none, 0, rfl, none_tree _ _ _, below_row HB1.out (Nat.le_refl _) _⟩
end Go.Proofs.YteggpecbeagohaaGreatDoor
namespace Go.Proofs.YteggpecbeagohaaGreatDoor
open Go.RowKit
open Ast (Nd ndV joinL wrapL deepZ rightZ Nodes)
theorem parse_at (K : PKit) (p : ByteArray) (n : Nat) (z : Int) (L : Nat → Nd) (h : parseZ p = ((n, L), z)) (w : World) (hw : Tabs w) : Calls Tryz.prog 17 #[.string p] w fun e w' => ∃ B cap, e = .returned (.tuple #[.agg (trC B n cap), .int .i64 z]) ∧ TreeAt w w' B cap (n, L) ∧ Below w.heap.size w w' := by
 have hc := parse_any K p w hw
 unfold GotTree at hc
 rw [h] at hc
 exact hc
end Go.Proofs.YteggpecbeagohaaGreatDoor
