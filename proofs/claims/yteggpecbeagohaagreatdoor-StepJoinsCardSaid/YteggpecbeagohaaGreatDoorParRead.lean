import Derived.Test.YteggpecbeagohaaGreatDoorParAM
import Derived.Test.YteggpecbeagohaaGreatDoorMz
namespace Go.Proofs.YteggpecbeagohaaGreatDoor
open Go.RowKit
open Ast (Nd ndV joinL wrapL deepZ rightZ Nodes)
theorem anotherRow_any {w0 w : World} {g c : Nat} {f : ByteArray} {l : List Tok} (h : RSt w0 g w f c l) (hl : l.length ≤ 2000) : Calls Tryz.prog 83 #[.pointer (some ⟨g, 0, none⟩)] w fun e w' => e = .returned (.bool (decide (kindZ l = 6))) ∧ RSt w0 g w' f c (if kindZ l = 6 then l.tail else l) ∧ ButR g w.heap.size w w' := by
 have HN := Lib.hid (next_any h hl)
 by_cases h6 : kindZ l = 6
 ·rw [decide_eq_true h6, if_pos h6]
  cases l with
  | nil => exact absurd h6 (by decide)
  | cons t l =>
    have HT := Lib.hid (take_any h (by rw [List.length_cons] at hl; omega))
    rw [h6] at HN
    clear h h6
    go_enter Tryz.func83, Tryz.ntmps83
    go_wp2_with fail
    with_reducible refine HN.out.mono ?_
    rintro e w1 ⟨rfl, rfl⟩
    go_wp2_with fail
    with_reducible refine HT.out.mono ?_
    rintro e w1 ⟨rfl, hr, hb⟩
    have HR := Lib.hid (And.intro hr hb)
    clear hr hb
    go_wp2_with fail
    go_ret
    exact ⟨rfl, HR.out.1, HR.out.2⟩
 ·rw [decide_eq_false h6, if_neg h6]
  have HR := Lib.hid h
  obtain ⟨k, hk⟩ : ∃ k, k = kindZ l := ⟨_, rfl⟩
  rw [← hk] at HN h6
  clear h hk
  have q : (k == 6) = false := by simpa using h6
  clear h6
  go_enter Tryz.func83, Tryz.ntmps83
  go_wp2_with fail
  with_reducible refine HN.out.mono ?_
  rintro e w1 ⟨rfl, rfl⟩
  go_wp2_with fail
  go_ret
  exact ⟨rfl, HR.out, ButR.refl _ _ _⟩
structure TreeAt (w w' : World) (A : Option Addr) (cap : Nat) (t : Tr) : Prop where
 nodes : Nodes w' A t.1 t.2
 none : A = none → t.1 = 0 ∧ cap = 0
 new : ∀ a, A = some a → w.heap.size ≤ a.block
theorem TreeAt.but {w u v : World} {A : Option Addr} {cap g : Nat} {t : Tr} (h : TreeAt w u A cap t) (hb : ButR g u.heap.size u v) (hg : g < w.heap.size) : TreeAt w v A cap t :=
 ⟨fun i hi => by
  obtain ⟨b, o, h1, h2, h3⟩ := h.nodes i hi
  have hn := h.new _ h1
  exact ⟨b, o, h1, Nat.lt_of_lt_of_le h2 hb.size, h3.keep fun j => World.cell?_of_block (w := u) (hb.block b h2 (by have : w.heap.size ≤ b := hn; omega))⟩, h.none, h.new⟩
theorem TreeAt.old {w0 w u : World} {A : Option Addr} {cap : Nat} {t : Tr} (h : TreeAt w u A cap t) (hs : w0.heap.size ≤ w.heap.size) : TreeAt w0 u A cap t := ⟨h.nodes, h.none, fun a ha => Nat.le_trans hs (h.new a ha)⟩
theorem TreeAt.row {w u : World} {A : Option Addr} {cap : Nat} {t : Tr} (h : TreeAt w u A cap t) {k : Nat} (hk : k < w.heap.size) (cs : Array Value) : TreeAt w (u.setRow k cs) A cap t :=
 ⟨fun i hi => by
  obtain ⟨b, o, h1, h2, h3⟩ := h.nodes i hi
  have hn : w.heap.size ≤ b := h.new _ h1
  exact ⟨b, o, h1, by simpa using h2, h3.keep fun j => World.cell?_of_block (w := u) (setRow_other u k b cs (by omega))⟩, h.none, h.new⟩
theorem TreeAt.drew {w u : World} {A : Option Addr} {cap : Nat} {t : Tr} (h : TreeAt w u A cap t) : TreeAt w u.drew A cap t := ⟨h.nodes, h.none, h.new⟩
theorem RSt.drew {w0 w : World} {g c : Nat} {f : ByteArray} {l : List Tok} (h : RSt w0 g w f c l) : RSt w0 g w.drew f c l := h.call (Below.refl _ w).drew
theorem ButR.drew {g B : Nat} {w u : World} (h : ButR g B w u) : ButR g B w u.drew := ⟨h.os, h.tape, h.output, h.size, h.block⟩
theorem ButR.row {g B : Nat} {w u : World} (h : ButR g B w u) {k : Nat} (hk : B ≤ k) (cs : Array Value) : ButR g B w (u.setRow k cs) := h.trans (ButR.of (below_row (Below.refl B u) hk cs))
theorem loadTr_run {a : Act} {o : Oper} {x : Operand} {u : World} (g : Nat) (A : Option Addr) (n cap : Nat) (hg : BoxV 43 u g (trC A n cap)) (ho : o.op = .load 43 x) (hx : a.eval x = .pointer (some ⟨g, 0, none⟩)) : (execOp a.eval o).run Tryz.prog u = .ok (.value (.agg (trC A n cap))) u := by
 unfold execOp
 simp only [ho, hx, Instr.loadAt, Instr.sureAddr, Sem.run_bind, Sem.run_pure, Result.andThen_ok, run_loadVar_row u g _ _ _ _ _ hg Tryz.underlying43 rfl sizeTr]
theorem shal_deep {t : Tr} {g : Nat} {l : List Tok} (h : 40 < deepZ t.2 t.1) (f : Tr → Nat → List Tok → Rd) : (shal t g l).next f = .deep := by unfold shal; rw [if_pos h]; rfl
theorem shal_ok {t : Tr} {g : Nat} {l : List Tok} (h : ¬ 40 < deepZ t.2 t.1) (f : Tr → Nat → List Tok → Rd) : (shal t g l).next f = f t g l := by unfold shal; rw [if_neg h]; rfl
theorem tree_res {w w' : World} {l : Nat → Nd} {n : Nat} {e : Ending} (h : Ast.TreeRes l n w e w') (h1 : 1 ≤ n) : ∃ A cap, e = .returned (.agg (trC A n cap)) ∧ TreeAt w w' A cap (n, l) ∧ Below w.heap.size w w' := by
 obtain ⟨A, cap, rfl, ho, hb⟩ := h
 obtain ⟨A', cap', he, hle, hn, hnew⟩ := Ast.own_nodes ho
 cases he
 refine ⟨A, cap, rfl, ⟨hn, fun h0 => ?_, hnew⟩, hb⟩
 subst h0
 obtain ⟨b, o, h2, -⟩ := hn 0 h1
 cases h2
def RPost (w0 : World) (g : Nat) (w : World) (f : ByteArray) : Rd → Ending → World → Prop
 | .out, _, _ => True
 | .deep, e, w' => e = deepP ∧ Below w0.heap.size w0 w'
 | .got t c l, e, w' => ∃ A cap, e = .returned (.agg (trC A t.1 cap)) ∧ TreeAt w w' A cap t ∧ RSt w0 g w' f c l ∧ ButR g w.heap.size w w'
structure Fl (f : ByteArray) (c : Nat) (l : List Tok) : Prop where
 len : l.length ≤ 2000
 grp : c + l.length ≤ 5000
 fl : f.size + 1000 * l.length ≤ 100000000
 tok : ∀ t ∈ l, t.f.size ≤ 1000
theorem Fl.suf {f : ByteArray} {c c' : Nat} {l l' : List Tok} (h : Fl f c l) (hs : l' <:+ l) (hc : c' + l'.length ≤ c + l.length) : Fl f c' l' :=
 ⟨Nat.le_trans hs.length_le h.len, Nat.le_trans hc h.grp, by have := hs.length_le; have := h.fl; omega, fun t ht => h.tok t (hs.subset ht)⟩
def RowOk (n : Nat) : Prop := ∀ (w0 w : World) (g : Nat) (f : ByteArray) (c : Nat) (l : List Tok), Fl f c l → RSt w0 g w f c l → rowF n f c l ≠ .out → Calls Tryz.prog 82 #[.pointer (some ⟨g, 0, none⟩)] w (RPost w0 g w f (rowF n f c l))
theorem tail_len {l : List Tok} (h : kindZ l = 6) : l.tail.length + 1 = l.length := by
 cases l with
 | nil => exact absurd h (by decide)
 | cons x r => rfl
def leftN (g : Nat) (w : World) : Nat := match w.cell? ⟨g, 0, none⟩ with | some (.slice _ n _) => n | _ => 0
theorem leftN_of {w0 w : World} {g c : Nat} {f : ByteArray} {l : List Tok} (h : RSt w0 g w f c l) : leftN g w = l.length := by
 obtain ⟨A, cap, h1, -, -⟩ := h.cells
 unfold leftN
 rw [cell_of_row w g 0 _ _ _ h1]
 rfl
section
variable {P : Program} {ops : Array Oper} {Q : Exit → Act → World → Prop} {md : Region.Mode} {S : World → Prop} {fuel : Nat} {listed : Array Bool} {a : Act} {w : World}
theorem callAtP (i d : Nat) {f : FuncId} {vs : Array Value} {oi : Oper} {post : Ending → World → Prop} (hi : ops[i]? = some oi) (hd : oi.dst = some d) (hr : Region.ready md ops listed = [i]) (hw : Region.wanted oi (yielded ops a.tmps) = true)
  (hrun : (execOp a.eval oi).run P w = .ok (.enter f vs) w) (hc : Calls P f vs w post)
  (hp : ∀ e w', post e w' → (∃ v, e = .returned v ∧ S w' ∧ wpAnyH P md ops Q S fuel (listed.setIfInBounds i true) (a.put (some d) v) w') ∨ (∃ ch, e = .panicked ch ∧ Q (.panic ch) a w')) : wpAnyH P md ops Q S (fuel + 1) listed a w := by
 refine wpAnyH_ready (rs := [i]) hr (by simp) (AllReadyH.cons hi (fun K hK => ?_) AllReadyH.nil)
 rw [if_pos hw]
 unfold Oper.wp
 rw [hrun, Oper.upon_enter]
 refine hc.mono fun e w' h => ?_
 rcases hp e w' h with ⟨v, rfl, hS, hgo⟩ | ⟨ch, rfl, hq⟩
 ·rw [hd]
  exact hK.out _ _ hS (fun _ => hgo)
 ·exact hq
theorem callStepP (i d : Nat) {f : FuncId} {vs : Array Value} {oi : Oper} {post : Ending → World → Prop} (hd : oi.dst = some d) (hw : Region.wanted oi (yielded ops a.tmps) = true)
  (hrun : (execOp a.eval oi).run P w = .ok (.enter f vs) w) (hc : Calls P f vs w post)
  (hp : ∀ e w', post e w' → (∃ v, e = .returned v ∧ S w' ∧ wpAnyH P md ops Q S fuel (listed.setIfInBounds i true) (a.put (some d) v) w') ∨ (∃ ch, e = .panicked ch ∧ Q (.panic ch) a w')) :
  ∀ K' : Act → World → Prop, Shut (∀ a w, S w → (S w → wpAnyH P md ops Q S fuel (listed.setIfInBounds i true) a w) → K' a w) → if Region.wanted oi (yielded ops a.tmps) = true then Oper.wp P oi a w K' Q else K' (a.put oi.dst undef) w := by
 intro K hK
 rw [if_pos hw]
 unfold Oper.wp
 rw [hrun, Oper.upon_enter]
 refine hc.mono fun e w' h => ?_
 rcases hp e w' h with ⟨v, rfl, hS, hgo⟩ | ⟨ch, rfl, hq⟩
 ·rw [hd]
  exact hK.out _ _ hS (fun _ => hgo)
 ·exact hq
end
section
variable {ops : Array Oper} {rest : List Oper} {o : Oper} {a : Act} {w : World} {Q : Exit → Act → World → Prop}
theorem storeNewTr (hgd : o.guard = none) (x y : Operand) (ho : o.op = .store 43 x y) (wr : World) (A : Option Addr) (n cap : Nat) (hx : a.eval x = .pointer (some ⟨wr.heap.size, 0, none⟩)) (hy : a.eval y = .agg (trC A n cap)) (hw : w = wr.alloc (.cells (trC none 0 0) 43))
  (h : ∀ u : World, Hid (BoxV 43 u wr.heap.size (trC A n cap)) → Hid (Below wr.heap.size wr u) → wpList Tryz.prog ops Q rest (a.put o.dst undef) u) : wpList Tryz.prog ops Q (o :: rest) a w := by
 subst hw
 have hg : BoxV 43 (wr.alloc (.cells (trC none 0 0) 43)) wr.heap.size (trC none 0 0) := BoxV.new _ _
 refine storeTr hgd x y ho wr.heap.size _ A n cap hx hy rfl hg ?_
 exact h _ (Lib.hid (hg.rowSame _)) (Lib.hid (below_row ((Below.refl _ wr).alloc (Nat.le_refl _) _) (Nat.le_refl _) _))
end
set_option maxRecDepth 100000 in
set_option maxHeartbeats 16000000 in
theorem joined_row (n : Nat) (hR : ∀ m, m ≤ n → RowOk m) (w0 w : World) (g : Nat) (f : ByteArray) (c : Nat) (l : List Tok) (hF : Fl f c l) (hS : RSt w0 g w f c l) (R : Rd) (hRR : R = (rowF n f c l).next fun t c l => altsF n f t c l) (ho : R ≠ .out) :
  Calls Tryz.prog 81 #[.func (.func 82) #[.pointer (some ⟨g, 0, none⟩)] #[], .func (.func 83) #[.pointer (some ⟨g, 0, none⟩)] #[], .int .i64 9] w (RPost w0 g w f R) := by
 have HR0 := Lib.hid hR
 have hgl := hS.lt
 have hw0 := hS.below.size
 have HS := Lib.hid (hS.call ((Below.refl _ w).alloc (Nat.le_refl _) (.cells (trC none 0 0) 43)))
 have HZ : Hid (BoxV 43 (w.alloc (.cells (trC none 0 0) 43)) w.heap.size (trC none 0 0)) := Lib.hid (BoxV.new _ _)
 have HFl := Lib.hid hF
 have HO := Lib.hid ho
 have HRR := Lib.hid hRR
 clear hR hS hF ho hRR
 have HC := Lib.hid (HR0.out n (Nat.le_refl _) w0 (w.alloc (.cells (trC none 0 0) 43)) g f c l HFl.out HS.out (fun h => HO.out (by rw [HRR.out, h]; rfl)))
 have HPt := Lib.hid (fun t c1 l1 (h : rowF n f c l = .got t c1 l1) => (rd_part n).2.2.1 f c l t c1 l1 h)
 obtain ⟨X, hX⟩ : ∃ X, X = rowF n f c l := ⟨_, rfl⟩
 rw [← hX] at HRR HC HPt
 clear hX
 go_enter Tryz.func81, Tryz.ntmps81
 go_wp2_with fail
 with_reducible refine HC.out.mono ?_
 clear HC
 cases X with
 | out => exact absurd HRR.out HO.out
 | deep =>
   rintro e w1 ⟨rfl, hb⟩
   refine And.intro rfl ?_
   rw [show R = .deep from HRR.out]
   exact ⟨rfl, hb⟩
 | got t c1 l1 =>
   rintro e w1 ⟨A, cap, rfl, ht, hs, hb⟩
   have hp := HPt.out t c1 l1 rfl
   have HT1 := Lib.hid ht
   have HS1 := Lib.hid hs
   have HZ1 := Lib.hid (HZ.out.but hb HZ.out.lt (by omega))
   have HB1 := Lib.hid (((ButR.of (g := g) ((Below.refl w.heap.size w).alloc (Nat.le_refl _) (.cells (trC none 0 0) 43))).trans (hb.mono (by simp))))
   have hw1 : w.heap.size < w1.heap.size := HZ1.out.lt
   have HF1 := Lib.hid (HFl.out.suf hp.suf hp.grp)
   have HRl := Lib.hid (show R = altsF n f t c1 l1 from HRR.out)
   have h1 := hp.one
   have h2 : t.1 + 2 * l1.length ≤ 4001 := by have := hp.len; have := HFl.out.len; omega
   clear ht hs hb hp HRR HPt HS HZ HFl
   go_wp2_with (refine storeNewTr rfl _ _ rfl w1 A t.1 cap rfl rfl rfl ?_; intro w2 hx hN; refine stopP ?_)
   unfold StopP
   have HS2 := Lib.hid (HS1.out.call hN.out)
   have HT2 := Lib.hid (HT1.out.but (ButR.of (g := g) hN.out) (by simp; omega))
   have HZ2 := Lib.hid (HZ1.out.below hN.out HZ1.out.lt)
   have HB2 := Lib.hid (HB1.out.then (ButR.of hN.out) (by omega))
   have HX2 := Lib.hid hx.out
   have HL2 := Lib.hid (And.intro h1 h2)
   clear hx hN HS1 HT1 HZ1 HB1 h1 h2
   go_wp2_with fail
   go_loopw [10] (fun _ wr => ∃ (m : Nat) (t : Tr) (c1 : Nat) (l1 : List Tok) (A : Option Addr) (cap : Nat), m ≤ n ∧ R = altsF m f t c1 l1 ∧ 1 ≤ t.1 ∧ t.1 + 2 * l1.length ≤ 4001 ∧ Fl f c1 l1 ∧ RSt w0 g wr f c1 l1 ∧ TreeAt (w.alloc (.cells (trC none 0 0) 43)) wr A cap t ∧ BoxV 43 wr w1.heap.size (trC A t.1 cap) ∧ BoxV 43 wr w.heap.size (trC none 0 0) ∧ ButR g w.heap.size w wr) (fun _ wr => leftN g wr)
   case atStart => exact ⟨n, t, c1, l1, A, cap, Nat.le_refl _, HRl.out, HL2.out.1, HL2.out.2, HF1.out, HS2.out, HT2.out, HX2.out, HZ2.out, HB2.out⟩
   case round =>
    clear HS2 HT2 HZ2 HB2 HX2 HL2 HRl HF1
    obtain ⟨m, t, c1, l1, A, cap, hm, hr, h1, h2, hf, hs, ht, hx, hz, hb⟩ := hrel
    have HM := Lib.hid hm
    have HRl := Lib.hid hr
    have HL := Lib.hid (And.intro h1 h2)
    have HF1 := Lib.hid hf
    have HS1 := Lib.hid hs
    have HT1 := Lib.hid ht
    have HX1 := Lib.hid hx
    have HZ1 := Lib.hid hz
    have HB1 := Lib.hid hb
    have hln := leftN_of hs
    clear hm hr h1 h2 hf hs ht hx hz hb
    cases m with
    | zero => exact absurd (HRl.out.trans (by rw [altsF])) HO.out
    | succ m =>
      have HMo := Lib.hid (anotherRow_any HS1.out (HF1.out.len))
      have HRm := Lib.hid (HRl.out.trans (by rw [altsF]))
      clear HRl
      by_cases hk : kindZ l1 = 6
      ·rw [decide_eq_true hk, if_pos hk] at HMo
       rw [if_pos hk] at HRm
       have HFa := Lib.hid (HF1.out.suf (c' := c1) (List.tail_suffix l1) (by have : l1.tail.length ≤ l1.length := (List.tail_suffix l1).length_le; omega))
       have HC := Lib.hid (fun u (hu : RSt w0 g u f c1 l1.tail) => HR0.out m (by have := HM.out; omega) w0 u g f c1 l1.tail HFa.out hu (fun h => HO.out (by rw [HRm.out, h]; rfl)))
       have HPt := Lib.hid (fun t c2 l2 (h : rowF m f c1 l1.tail = .got t c2 l2) => (rd_part m).2.2.1 f c1 l1.tail t c2 l2 h)
       obtain ⟨X, hX⟩ : ∃ X, X = rowF m f c1 l1.tail := ⟨_, rfl⟩
       rw [← hX] at HRm HC HPt
       clear hX
       go_wp2_with fail
       with_reducible refine HMo.out.mono ?_
       clear HMo
       rintro e wa ⟨rfl, hs, hb⟩
       have HS3 := Lib.hid hs.drew
       have HT3 := Lib.hid (HT1.out.but hb (by simp; omega)).drew
       have HX3 := Lib.hid (HX1.out.but hb HX1.out.lt (by omega)).drew
       have HZ3 := Lib.hid (HZ1.out.but hb HZ1.out.lt (by omega)).drew
       have HB3 := Lib.hid (HB1.out.then hb HB1.out.size).drew
       clear hs hb HS1 HT1 HX1 HZ1 HB1
       go_wp2_with fail
       cases X with
       | out => exact absurd HRm.out HO.out
       | deep =>
         have HRd := Lib.hid (show R = .deep from HRm.out)
         refine wp_region_held_drew (S := fun _ => True) (by kernel_rfl) trivial (fun hS => ?_)
         generalize World.drew wa = u0 at HS3 HT3 HX3 HZ3 HB3 ⊢
         refine takeAt 1 13 (.func (.func 82) #[.pointer (some ⟨g, 0, none⟩)] #[]) rfl rfl (by kernel_rfl) (by kernel_rfl) (by kernel_rfl) i_ (yields (by rfl) (fun w => by kernel_rfl)) hS ?_
         simp only [Act.put, sA_, s0_, sS_]
         refine takeAt 3 15 (.int .i64 9) rfl rfl (by kernel_rfl) (by kernel_rfl) (by kernel_rfl) i_ (yields (by rfl) (fun w => by kernel_rfl)) hS ?_
         simp only [Act.put, sA_, s0_, sS_]
         refine wpAnyH_ready (rs := [0, 2]) (by kernel_rfl) (by simp) ?_
         refine AllReadyH.cons rfl ?_ (AllReadyH.cons rfl ?_ AllReadyH.nil)
         ·refine valStep 0 12 (.agg (trC A t.1 cap)) u0 rfl (by rfl) (loadTr_run w1.heap.size A t.1 cap HX3.out rfl rfl) trivial ?_
          simp only [Act.put, sA_, s0_, sS_]
          refine callAtP 2 14 rfl rfl (by kernel_rfl) (by rfl) (by kernel_rfl) (HC.out u0 HS3.out) ?_
          rintro e u1 ⟨rfl, hb2⟩
          refine .inr ⟨_, rfl, And.intro rfl ?_⟩
          rw [HRd.out]
          exact ⟨rfl, hb2⟩
         ·refine callStepP 2 14 rfl (by rfl) (by kernel_rfl) (HC.out u0 HS3.out) ?_
          rintro e u1 ⟨rfl, hb2⟩
          refine .inr ⟨_, rfl, And.intro rfl ?_⟩
          rw [HRd.out]
          exact ⟨rfl, hb2⟩
       | got t2 c2 l2 =>
         have hp := HPt.out t2 c2 l2 rfl
         have hone := HL.out.1
         have HP2 := Lib.hid (show 1 ≤ t2.1 ∧ t2.1 + 1 + 2 * l2.length ≤ 2 * l1.length ∧ t2.1 ≤ 5000 ∧ l2.length < l1.length by have a := hp.len; have b := hp.one; have hl := tail_len hk; have d := HF1.out.len; omega)
         have HF2 := Lib.hid (HFa.out.suf hp.suf hp.grp)
         clear hp
         have HRn := Lib.hid (show R = (shal (joinT t t2 9) c2 l2).next fun t c l => altsF m f t c l from HRm.out)
         by_cases hd : 40 < deepZ (joinL t.2 t.1 t2.2 t2.1 9) (t.1 + t2.1 + 1)
         ·have HRd := Lib.hid (HRn.out.trans (shal_deep (t := joinT t t2 9) hd _))
          refine wp_region_held_drew (S := fun _ => True) (by kernel_rfl) trivial (fun hS => ?_)
          generalize World.drew wa = u0 at HS3 HT3 HX3 HZ3 HB3 ⊢
          refine takeAt 1 13 (.func (.func 82) #[.pointer (some ⟨g, 0, none⟩)] #[]) rfl rfl (by kernel_rfl) (by kernel_rfl) (by kernel_rfl) i_ (yields (by rfl) (fun w => by kernel_rfl)) hS ?_
          simp only [Act.put, sA_, s0_, sS_]
          refine takeAt 3 15 (.int .i64 9) rfl rfl (by kernel_rfl) (by kernel_rfl) (by kernel_rfl) i_ (yields (by rfl) (fun w => by kernel_rfl)) hS ?_
          simp only [Act.put, sA_, s0_, sS_]
          refine wpAnyH_ready (rs := [0, 2]) (by kernel_rfl) (by simp) ?_
          refine AllReadyH.cons rfl ?_ (AllReadyH.cons rfl ?_ AllReadyH.nil)
          ·refine valStep 0 12 (.agg (trC A t.1 cap)) u0 rfl (by rfl) (loadTr_run w1.heap.size A t.1 cap HX3.out rfl rfl) trivial ?_
           simp only [Act.put, sA_, s0_, sS_]
           refine callAtP 2 14 rfl rfl (by kernel_rfl) (by rfl) (by kernel_rfl) (HC.out u0 HS3.out) ?_
           rintro e u1 ⟨A2, cap2, rfl, ht2, hs2, hb2⟩
           have HS4 := Lib.hid hs2
           have HT4 := Lib.hid (HT3.out.but hb2 (by simp; omega))
           have HX4 := Lib.hid (HX3.out.but hb2 HX3.out.lt (by omega))
           have HZ4 := Lib.hid (HZ3.out.but hb2 HZ3.out.lt (by omega))
           have HB4 := Lib.hid (HB3.out.then hb2 HB3.out.size)
           clear hs2 hb2
           refine .inl ⟨_, rfl, trivial, ?_⟩
           simp only [Act.put, sA_, s0_, sS_]
           refine callAtP 4 16 rfl rfl (by kernel_rfl) (by rfl) (by kernel_rfl) (Ast.join_any A t.1 cap t.2 A2 t2.1 cap2 t2.2 9 u1 (by have := HL.out; omega) (by have := HP2.out; omega) HT4.out.none ht2.none HT4.out.nodes ht2.nodes) ?_
           intro e u2 hres
           obtain ⟨A3, cap3, rfl, ht3, hb3⟩ := tree_res hres (by omega)
           have HT5 := Lib.hid ht3
           have HB5 := Lib.hid hb3
           clear hres ht3 hb3
           refine .inl ⟨_, rfl, trivial, ?_⟩
           simp only [Act.put, sA_, s0_, sS_]
           refine callAtP 5 17 rfl rfl (by kernel_rfl) (by rfl) (by kernel_rfl) (shallow_any A3 (t.1 + t2.1 + 1) cap3 (joinL t.2 t.1 t2.2 t2.1 9) u2 (by have := HL.out; have := HP2.out; omega) HT5.out.nodes) ?_
           rintro e u3 ⟨he, hb4⟩
           rw [if_pos hd] at he
           subst he
           refine .inr ⟨_, rfl, And.intro rfl ?_⟩
           rw [HRd.out]
           exact ⟨rfl, ((HS4.out.below.trans (HB5.out.mono HS4.out.below.size)).trans (hb4.mono (by have := HB5.out.size; have := HS4.out.below.size; omega)))⟩
          ·refine callStepP 2 14 rfl (by rfl) (by kernel_rfl) (HC.out u0 HS3.out) ?_
           rintro e u1 ⟨A2, cap2, rfl, ht2, hs2, hb2⟩
           have HS4 := Lib.hid hs2
           have HT4 := Lib.hid (HT3.out.but hb2 (by simp; omega))
           have HX4 := Lib.hid (HX3.out.but hb2 HX3.out.lt (by omega))
           have HZ4 := Lib.hid (HZ3.out.but hb2 HZ3.out.lt (by omega))
           have HB4 := Lib.hid (HB3.out.then hb2 HB3.out.size)
           clear hs2 hb2
           refine .inl ⟨_, rfl, trivial, ?_⟩
           simp only [Act.put, sA_, s0_, sS_]
           refine valAt 0 12 (.agg (trC A t.1 cap)) u1 rfl rfl (by kernel_rfl) (by rfl) (loadTr_run w1.heap.size A t.1 cap HX4.out rfl rfl) trivial ?_
           simp only [Act.put, sA_, s0_, sS_]
           refine callAtP 4 16 rfl rfl (by kernel_rfl) (by rfl) (by kernel_rfl) (Ast.join_any A t.1 cap t.2 A2 t2.1 cap2 t2.2 9 u1 (by have := HL.out; omega) (by have := HP2.out; omega) HT4.out.none ht2.none HT4.out.nodes ht2.nodes) ?_
           intro e u2 hres
           obtain ⟨A3, cap3, rfl, ht3, hb3⟩ := tree_res hres (by omega)
           have HT5 := Lib.hid ht3
           have HB5 := Lib.hid hb3
           clear hres ht3 hb3
           refine .inl ⟨_, rfl, trivial, ?_⟩
           simp only [Act.put, sA_, s0_, sS_]
           refine callAtP 5 17 rfl rfl (by kernel_rfl) (by rfl) (by kernel_rfl) (shallow_any A3 (t.1 + t2.1 + 1) cap3 (joinL t.2 t.1 t2.2 t2.1 9) u2 (by have := HL.out; have := HP2.out; omega) HT5.out.nodes) ?_
           rintro e u3 ⟨he, hb4⟩
           rw [if_pos hd] at he
           subst he
           refine .inr ⟨_, rfl, And.intro rfl ?_⟩
           rw [HRd.out]
           exact ⟨rfl, ((HS4.out.below.trans (HB5.out.mono HS4.out.below.size)).trans (hb4.mono (by have := HB5.out.size; have := HS4.out.below.size; omega)))⟩
         ·have HRd := Lib.hid (HRn.out.trans (shal_ok (t := joinT t t2 9) hd _))
          refine wp_region_held_drew (S := fun _ => True) (by kernel_rfl) trivial (fun hS => ?_)
          generalize World.drew wa = u0 at HS3 HT3 HX3 HZ3 HB3 ⊢
          refine takeAt 1 13 (.func (.func 82) #[.pointer (some ⟨g, 0, none⟩)] #[]) rfl rfl (by kernel_rfl) (by kernel_rfl) (by kernel_rfl) i_ (yields (by rfl) (fun w => by kernel_rfl)) hS ?_
          simp only [Act.put, sA_, s0_, sS_]
          refine takeAt 3 15 (.int .i64 9) rfl rfl (by kernel_rfl) (by kernel_rfl) (by kernel_rfl) i_ (yields (by rfl) (fun w => by kernel_rfl)) hS ?_
          simp only [Act.put, sA_, s0_, sS_]
          refine wpAnyH_ready (rs := [0, 2]) (by kernel_rfl) (by simp) ?_
          refine AllReadyH.cons rfl ?_ (AllReadyH.cons rfl ?_ AllReadyH.nil)
          ·refine valStep 0 12 (.agg (trC A t.1 cap)) u0 rfl (by rfl) (loadTr_run w1.heap.size A t.1 cap HX3.out rfl rfl) trivial ?_
           simp only [Act.put, sA_, s0_, sS_]
           refine callAtP 2 14 rfl rfl (by kernel_rfl) (by rfl) (by kernel_rfl) (HC.out u0 HS3.out) ?_
           rintro e u1 ⟨A2, cap2, rfl, ht2, hs2, hb2⟩
           have HS4 := Lib.hid hs2
           have HT4 := Lib.hid (HT3.out.but hb2 (by simp; omega))
           have HX4 := Lib.hid (HX3.out.but hb2 HX3.out.lt (by omega))
           have HZ4 := Lib.hid (HZ3.out.but hb2 HZ3.out.lt (by omega))
           have HB4 := Lib.hid (HB3.out.then hb2 HB3.out.size)
           clear hs2 hb2
           refine .inl ⟨_, rfl, trivial, ?_⟩
           simp only [Act.put, sA_, s0_, sS_]
           refine callAtP 4 16 rfl rfl (by kernel_rfl) (by rfl) (by kernel_rfl) (Ast.join_any A t.1 cap t.2 A2 t2.1 cap2 t2.2 9 u1 (by have := HL.out; omega) (by have := HP2.out; omega) HT4.out.none ht2.none HT4.out.nodes ht2.nodes) ?_
           intro e u2 hres
           obtain ⟨A3, cap3, rfl, ht3, hb3⟩ := tree_res hres (by omega)
           have HT5 := Lib.hid ht3
           have HB5 := Lib.hid hb3
           clear hres ht3 hb3
           refine .inl ⟨_, rfl, trivial, ?_⟩
           simp only [Act.put, sA_, s0_, sS_]
           refine callAtP 5 17 rfl rfl (by kernel_rfl) (by rfl) (by kernel_rfl) (shallow_any A3 (t.1 + t2.1 + 1) cap3 (joinL t.2 t.1 t2.2 t2.1 9) u2 (by have := HL.out; have := HP2.out; omega) HT5.out.nodes) ?_
           rintro e u3 ⟨he, hb4⟩
           rw [if_neg hd] at he
           subst he
           have hsz : u1.heap.size ≤ u2.heap.size := HB5.out.size
           have hB := Lib.hid ((ButR.of (g := g) HB5.out).then (ButR.of hb4) hsz)
           have HS6 := Lib.hid ((HS4.out.call HB5.out).call hb4)
           have HT6 := Lib.hid (HT5.out.but (ButR.of (g := g) hb4) (by have := HZ4.out.lt; omega))
           have HX6 := Lib.hid (HX4.out.but hB.out HX4.out.lt (by omega))
           have HZ6 := Lib.hid (HZ4.out.but hB.out HZ4.out.lt (by omega))
           have HB6 := Lib.hid (HB4.out.then hB.out HB4.out.size)
           clear hb4 hB hsz
           refine .inl ⟨_, rfl, trivial, ?_⟩
           simp only [Act.put, sA_, s0_, sS_]
           refine rowAt 6 43 w1.heap.size (trC A t.1 cap) (trC A3 (t.1 + t2.1 + 1) cap3) rfl rfl rfl (by kernel_rfl) (by rfl) rfl rfl HX6.out sizeTr rfl (by simp [Value.oneCell']) trivial ?_
           refine wpAnyH_done (by kernel_rfl) ?_ _
           go_wp2_with fail
           have hsF := HS6.out.row (k := w1.heap.size) (by omega) (by omega) (trC A3 (t.1 + t2.1 + 1) cap3)
           go_roundw
           case rel => exact ⟨m, joinT t t2 9, c2, l2, A3, cap3, by have := HM.out; omega, HRd.out, (by show 1 ≤ t.1 + t2.1 + 1; omega), (by show t.1 + t2.1 + 1 + 2 * l2.length ≤ 4001; have := HL.out; have := HP2.out; omega), HF2.out, hsF, (HT6.out.row HX4.out.lt _).old (by have := HZ4.out.lt; simp; omega), HX6.out.rowSame _, HZ6.out.row _ (by omega), HB6.out.row (by omega) _⟩
           case measure => rw [leftN_of hsF, hln]; have := HP2.out; omega
          ·refine callStepP 2 14 rfl (by rfl) (by kernel_rfl) (HC.out u0 HS3.out) ?_
           rintro e u1 ⟨A2, cap2, rfl, ht2, hs2, hb2⟩
           have HS4 := Lib.hid hs2
           have HT4 := Lib.hid (HT3.out.but hb2 (by simp; omega))
           have HX4 := Lib.hid (HX3.out.but hb2 HX3.out.lt (by omega))
           have HZ4 := Lib.hid (HZ3.out.but hb2 HZ3.out.lt (by omega))
           have HB4 := Lib.hid (HB3.out.then hb2 HB3.out.size)
           clear hs2 hb2
           refine .inl ⟨_, rfl, trivial, ?_⟩
           simp only [Act.put, sA_, s0_, sS_]
           refine valAt 0 12 (.agg (trC A t.1 cap)) u1 rfl rfl (by kernel_rfl) (by rfl) (loadTr_run w1.heap.size A t.1 cap HX4.out rfl rfl) trivial ?_
           simp only [Act.put, sA_, s0_, sS_]
           refine callAtP 4 16 rfl rfl (by kernel_rfl) (by rfl) (by kernel_rfl) (Ast.join_any A t.1 cap t.2 A2 t2.1 cap2 t2.2 9 u1 (by have := HL.out; omega) (by have := HP2.out; omega) HT4.out.none ht2.none HT4.out.nodes ht2.nodes) ?_
           intro e u2 hres
           obtain ⟨A3, cap3, rfl, ht3, hb3⟩ := tree_res hres (by omega)
           have HT5 := Lib.hid ht3
           have HB5 := Lib.hid hb3
           clear hres ht3 hb3
           refine .inl ⟨_, rfl, trivial, ?_⟩
           simp only [Act.put, sA_, s0_, sS_]
           refine callAtP 5 17 rfl rfl (by kernel_rfl) (by rfl) (by kernel_rfl) (shallow_any A3 (t.1 + t2.1 + 1) cap3 (joinL t.2 t.1 t2.2 t2.1 9) u2 (by have := HL.out; have := HP2.out; omega) HT5.out.nodes) ?_
           rintro e u3 ⟨he, hb4⟩
           rw [if_neg hd] at he
           subst he
           have hsz : u1.heap.size ≤ u2.heap.size := HB5.out.size
           have hB := Lib.hid ((ButR.of (g := g) HB5.out).then (ButR.of hb4) hsz)
           have HS6 := Lib.hid ((HS4.out.call HB5.out).call hb4)
           have HT6 := Lib.hid (HT5.out.but (ButR.of (g := g) hb4) (by have := HZ4.out.lt; omega))
           have HX6 := Lib.hid (HX4.out.but hB.out HX4.out.lt (by omega))
           have HZ6 := Lib.hid (HZ4.out.but hB.out HZ4.out.lt (by omega))
           have HB6 := Lib.hid (HB4.out.then hB.out HB4.out.size)
           clear hb4 hB hsz
           refine .inl ⟨_, rfl, trivial, ?_⟩
           simp only [Act.put, sA_, s0_, sS_]
           refine rowAt 6 43 w1.heap.size (trC A t.1 cap) (trC A3 (t.1 + t2.1 + 1) cap3) rfl rfl rfl (by kernel_rfl) (by rfl) rfl rfl HX6.out sizeTr rfl (by simp [Value.oneCell']) trivial ?_
           refine wpAnyH_done (by kernel_rfl) ?_ _
           go_wp2_with fail
           have hsF := HS6.out.row (k := w1.heap.size) (by omega) (by omega) (trC A3 (t.1 + t2.1 + 1) cap3)
           go_roundw
           case rel => exact ⟨m, joinT t t2 9, c2, l2, A3, cap3, by have := HM.out; omega, HRd.out, (by show 1 ≤ t.1 + t2.1 + 1; omega), (by show t.1 + t2.1 + 1 + 2 * l2.length ≤ 4001; have := HL.out; have := HP2.out; omega), HF2.out, hsF, (HT6.out.row HX4.out.lt _).old (by have := HZ4.out.lt; simp; omega), HX6.out.rowSame _, HZ6.out.row _ (by omega), HB6.out.row (by omega) _⟩
           case measure => rw [leftN_of hsF, hln]; have := HP2.out; omega
      ·rw [decide_eq_false hk, if_neg hk] at HMo
       rw [if_neg hk] at HRm
       go_wp2_with fail
       with_reducible refine HMo.out.mono ?_
       clear HMo
       rintro e wa ⟨rfl, hs, hb⟩
       have HSa := Lib.hid hs
       have HTa := Lib.hid (HT1.out.but hb (by simp; omega))
       have HXa := Lib.hid (HX1.out.but hb HX1.out.lt (by omega))
       have HZa := Lib.hid (HZ1.out.but hb HZ1.out.lt (by omega))
       have HBa := Lib.hid (HB1.out.then hb HB1.out.size)
       clear hs hb
       go_wp2_with (first | (refine loadTr rfl _ rfl w1.heap.size A t.1 cap rfl HXa.out ?_) | (refine storeTr rfl _ _ rfl w.heap.size _ A t.1 cap rfl rfl rfl HZa.out ?_))
       refine bodyPost_ret (resTr (p := 6) (A := A) (n := t.1) (cap := cap) rfl _ (g := w.heap.size) rfl (HZa.out.rowSame _)) rfl ?_
       rw [HRm.out]
       exact ⟨A, cap, rfl, (HTa.out.row (by simp) _).old (by simp), HSa.out.row (by omega) (by omega) _, HBa.out.row (Nat.le_refl _) _⟩
def ItemOk (n : Nat) : Prop := ∀ (w0 w : World) (g : Nat) (f : ByteArray) (c : Nat) (l : List Tok), Fl f c l → RSt w0 g w f c l → itemF n f c l ≠ .out → Calls Tryz.prog 115 #[.pointer (some ⟨g, 0, none⟩)] w (RPost w0 g w f (itemF n f c l))
set_option maxRecDepth 100000 in
set_option maxHeartbeats 16000000 in
theorem joined_item (n : Nat) (hR : ∀ m, m ≤ n → ItemOk m) (w0 w : World) (g : Nat) (f : ByteArray) (c : Nat) (l : List Tok) (hF : Fl f c l) (hS : RSt w0 g w f c l) (R : Rd) (hRR : R = (itemF n f c l).next fun t c l => itemsF n f t c l) (ho : R ≠ .out) :
  Calls Tryz.prog 81 #[.func (.func 115) #[.pointer (some ⟨g, 0, none⟩)] #[], .func (.func 113) #[.pointer (some ⟨g, 0, none⟩)] #[], .int .i64 8] w (RPost w0 g w f R) := by
 have HR0 := Lib.hid hR
 have hgl := hS.lt
 have hw0 := hS.below.size
 have HS := Lib.hid (hS.call ((Below.refl _ w).alloc (Nat.le_refl _) (.cells (trC none 0 0) 43)))
 have HZ : Hid (BoxV 43 (w.alloc (.cells (trC none 0 0) 43)) w.heap.size (trC none 0 0)) := Lib.hid (BoxV.new _ _)
 have HFl := Lib.hid hF
 have HO := Lib.hid ho
 have HRR := Lib.hid hRR
 clear hR hS hF ho hRR
 have HC := Lib.hid (HR0.out n (Nat.le_refl _) w0 (w.alloc (.cells (trC none 0 0) 43)) g f c l HFl.out HS.out (fun h => HO.out (by rw [HRR.out, h]; rfl)))
 have HPt := Lib.hid (fun t c1 l1 (h : itemF n f c l = .got t c1 l1) => (rd_part n).2.2.2.2.1 f c l t c1 l1 h)
 obtain ⟨X, hX⟩ : ∃ X, X = itemF n f c l := ⟨_, rfl⟩
 rw [← hX] at HRR HC HPt
 clear hX
 go_enter Tryz.func81, Tryz.ntmps81
 go_wp2_with fail
 with_reducible refine HC.out.mono ?_
 clear HC
 cases X with
 | out => exact absurd HRR.out HO.out
 | deep =>
   rintro e w1 ⟨rfl, hb⟩
   refine And.intro rfl ?_
   rw [show R = .deep from HRR.out]
   exact ⟨rfl, hb⟩
 | got t c1 l1 =>
   rintro e w1 ⟨A, cap, rfl, ht, hs, hb⟩
   have hp := HPt.out t c1 l1 rfl
   have HT1 := Lib.hid ht
   have HS1 := Lib.hid hs
   have HZ1 := Lib.hid (HZ.out.but hb HZ.out.lt (by omega))
   have HB1 := Lib.hid (((ButR.of (g := g) ((Below.refl w.heap.size w).alloc (Nat.le_refl _) (.cells (trC none 0 0) 43))).trans (hb.mono (by simp))))
   have hw1 : w.heap.size < w1.heap.size := HZ1.out.lt
   have HF1 := Lib.hid (HFl.out.suf hp.suf hp.grp)
   have HRl := Lib.hid (show R = itemsF n f t c1 l1 from HRR.out)
   have h1 := hp.one
   have h2 : t.1 + 2 * l1.length ≤ 4001 := by have := hp.len; have := HFl.out.len; omega
   clear ht hs hb hp HRR HPt HS HZ HFl
   go_wp2_with (refine storeNewTr rfl _ _ rfl w1 A t.1 cap rfl rfl rfl ?_; intro w2 hx hN; refine stopP ?_)
   unfold StopP
   have HS2 := Lib.hid (HS1.out.call hN.out)
   have HT2 := Lib.hid (HT1.out.but (ButR.of (g := g) hN.out) (by simp; omega))
   have HZ2 := Lib.hid (HZ1.out.below hN.out HZ1.out.lt)
   have HB2 := Lib.hid (HB1.out.then (ButR.of hN.out) (by omega))
   have HX2 := Lib.hid hx.out
   have HL2 := Lib.hid (And.intro h1 h2)
   clear hx hN HS1 HT1 HZ1 HB1 h1 h2
   go_wp2_with fail
   go_loopw [10] (fun _ wr => ∃ (m : Nat) (t : Tr) (c1 : Nat) (l1 : List Tok) (A : Option Addr) (cap : Nat), m ≤ n ∧ R = itemsF m f t c1 l1 ∧ 1 ≤ t.1 ∧ t.1 + 2 * l1.length ≤ 4001 ∧ Fl f c1 l1 ∧ RSt w0 g wr f c1 l1 ∧ TreeAt (w.alloc (.cells (trC none 0 0) 43)) wr A cap t ∧ BoxV 43 wr w1.heap.size (trC A t.1 cap) ∧ BoxV 43 wr w.heap.size (trC none 0 0) ∧ ButR g w.heap.size w wr) (fun _ wr => leftN g wr)
   case atStart => exact ⟨n, t, c1, l1, A, cap, Nat.le_refl _, HRl.out, HL2.out.1, HL2.out.2, HF1.out, HS2.out, HT2.out, HX2.out, HZ2.out, HB2.out⟩
   case round =>
    clear HS2 HT2 HZ2 HB2 HX2 HL2 HRl HF1
    obtain ⟨m, t, c1, l1, A, cap, hm, hr, h1, h2, hf, hs, ht, hx, hz, hb⟩ := hrel
    have HM := Lib.hid hm
    have HRl := Lib.hid hr
    have HL := Lib.hid (And.intro h1 h2)
    have HF1 := Lib.hid hf
    have HS1 := Lib.hid hs
    have HT1 := Lib.hid ht
    have HX1 := Lib.hid hx
    have HZ1 := Lib.hid hz
    have HB1 := Lib.hid hb
    have hln := leftN_of hs
    clear hm hr h1 h2 hf hs ht hx hz hb
    cases m with
    | zero => exact absurd (HRl.out.trans (by rw [itemsF])) HO.out
    | succ m =>
      have HMo := Lib.hid (anotherItem_any HS1.out (HF1.out.len))
      have HRm := Lib.hid (HRl.out.trans (by rw [itemsF]))
      clear HRl
      by_cases hk : ¬ (kindZ l1 = 6 ∨ kindZ l1 = 15)
      ·rw [decide_eq_false hk, Bool.not_false] at HMo
       rw [if_neg hk] at HRm
       have HFa := Lib.hid (HF1.out)
       have HC := Lib.hid (fun u (hu : RSt w0 g u f c1 l1) => HR0.out m (by have := HM.out; omega) w0 u g f c1 l1 HFa.out hu (fun h => HO.out (by rw [HRm.out, h]; rfl)))
       have HPt := Lib.hid (fun t c2 l2 (h : itemF m f c1 l1 = .got t c2 l2) => (rd_part m).2.2.2.2.1 f c1 l1 t c2 l2 h)
       obtain ⟨X, hX⟩ : ∃ X, X = itemF m f c1 l1 := ⟨_, rfl⟩
       rw [← hX] at HRm HC HPt
       clear hX
       go_wp2_with fail
       with_reducible refine HMo.out.mono ?_
       clear HMo
       rintro e wa ⟨rfl, hwa⟩
       have hs : RSt w0 g wa f c1 l1 := hwa ▸ HS1.out
       have hb : ButR g wr.heap.size wr wa := hwa ▸ ButR.refl _ _ _
       clear hwa
       have HS3 := Lib.hid hs.drew
       have HT3 := Lib.hid (HT1.out.but hb (by simp; omega)).drew
       have HX3 := Lib.hid (HX1.out.but hb HX1.out.lt (by omega)).drew
       have HZ3 := Lib.hid (HZ1.out.but hb HZ1.out.lt (by omega)).drew
       have HB3 := Lib.hid (HB1.out.then hb HB1.out.size).drew
       clear hs hb HS1 HT1 HX1 HZ1 HB1
       go_wp2_with fail
       cases X with
       | out => exact absurd HRm.out HO.out
       | deep =>
         have HRd := Lib.hid (show R = .deep from HRm.out)
         refine wp_region_held_drew (S := fun _ => True) (by kernel_rfl) trivial (fun hS => ?_)
         generalize World.drew wa = u0 at HS3 HT3 HX3 HZ3 HB3 ⊢
         refine takeAt 1 13 (.func (.func 115) #[.pointer (some ⟨g, 0, none⟩)] #[]) rfl rfl (by kernel_rfl) (by kernel_rfl) (by kernel_rfl) i_ (yields (by rfl) (fun w => by kernel_rfl)) hS ?_
         simp only [Act.put, sA_, s0_, sS_]
         refine takeAt 3 15 (.int .i64 8) rfl rfl (by kernel_rfl) (by kernel_rfl) (by kernel_rfl) i_ (yields (by rfl) (fun w => by kernel_rfl)) hS ?_
         simp only [Act.put, sA_, s0_, sS_]
         refine wpAnyH_ready (rs := [0, 2]) (by kernel_rfl) (by simp) ?_
         refine AllReadyH.cons rfl ?_ (AllReadyH.cons rfl ?_ AllReadyH.nil)
         ·refine valStep 0 12 (.agg (trC A t.1 cap)) u0 rfl (by rfl) (loadTr_run w1.heap.size A t.1 cap HX3.out rfl rfl) trivial ?_
          simp only [Act.put, sA_, s0_, sS_]
          refine callAtP 2 14 rfl rfl (by kernel_rfl) (by rfl) (by kernel_rfl) (HC.out u0 HS3.out) ?_
          rintro e u1 ⟨rfl, hb2⟩
          refine .inr ⟨_, rfl, And.intro rfl ?_⟩
          rw [HRd.out]
          exact ⟨rfl, hb2⟩
         ·refine callStepP 2 14 rfl (by rfl) (by kernel_rfl) (HC.out u0 HS3.out) ?_
          rintro e u1 ⟨rfl, hb2⟩
          refine .inr ⟨_, rfl, And.intro rfl ?_⟩
          rw [HRd.out]
          exact ⟨rfl, hb2⟩
       | got t2 c2 l2 =>
         have hp := HPt.out t2 c2 l2 rfl
         have hone := HL.out.1
         have HP2 := Lib.hid (show 1 ≤ t2.1 ∧ t2.1 + 1 + 2 * l2.length ≤ 2 * l1.length ∧ t2.1 ≤ 5000 ∧ l2.length < l1.length by have a := hp.len; have b := hp.one; have d := HF1.out.len; omega)
         have HF2 := Lib.hid (HFa.out.suf hp.suf hp.grp)
         clear hp
         have HRn := Lib.hid (show R = (shal (joinT t t2 8) c2 l2).next fun t c l => itemsF m f t c l from HRm.out)
         by_cases hd : 40 < deepZ (joinL t.2 t.1 t2.2 t2.1 8) (t.1 + t2.1 + 1)
         ·have HRd := Lib.hid (HRn.out.trans (shal_deep (t := joinT t t2 8) hd _))
          refine wp_region_held_drew (S := fun _ => True) (by kernel_rfl) trivial (fun hS => ?_)
          generalize World.drew wa = u0 at HS3 HT3 HX3 HZ3 HB3 ⊢
          refine takeAt 1 13 (.func (.func 115) #[.pointer (some ⟨g, 0, none⟩)] #[]) rfl rfl (by kernel_rfl) (by kernel_rfl) (by kernel_rfl) i_ (yields (by rfl) (fun w => by kernel_rfl)) hS ?_
          simp only [Act.put, sA_, s0_, sS_]
          refine takeAt 3 15 (.int .i64 8) rfl rfl (by kernel_rfl) (by kernel_rfl) (by kernel_rfl) i_ (yields (by rfl) (fun w => by kernel_rfl)) hS ?_
          simp only [Act.put, sA_, s0_, sS_]
          refine wpAnyH_ready (rs := [0, 2]) (by kernel_rfl) (by simp) ?_
          refine AllReadyH.cons rfl ?_ (AllReadyH.cons rfl ?_ AllReadyH.nil)
          ·refine valStep 0 12 (.agg (trC A t.1 cap)) u0 rfl (by rfl) (loadTr_run w1.heap.size A t.1 cap HX3.out rfl rfl) trivial ?_
           simp only [Act.put, sA_, s0_, sS_]
           refine callAtP 2 14 rfl rfl (by kernel_rfl) (by rfl) (by kernel_rfl) (HC.out u0 HS3.out) ?_
           rintro e u1 ⟨A2, cap2, rfl, ht2, hs2, hb2⟩
           have HS4 := Lib.hid hs2
           have HT4 := Lib.hid (HT3.out.but hb2 (by simp; omega))
           have HX4 := Lib.hid (HX3.out.but hb2 HX3.out.lt (by omega))
           have HZ4 := Lib.hid (HZ3.out.but hb2 HZ3.out.lt (by omega))
           have HB4 := Lib.hid (HB3.out.then hb2 HB3.out.size)
           clear hs2 hb2
           refine .inl ⟨_, rfl, trivial, ?_⟩
           simp only [Act.put, sA_, s0_, sS_]
           refine callAtP 4 16 rfl rfl (by kernel_rfl) (by rfl) (by kernel_rfl) (Ast.join_any A t.1 cap t.2 A2 t2.1 cap2 t2.2 8 u1 (by have := HL.out; omega) (by have := HP2.out; omega) HT4.out.none ht2.none HT4.out.nodes ht2.nodes) ?_
           intro e u2 hres
           obtain ⟨A3, cap3, rfl, ht3, hb3⟩ := tree_res hres (by omega)
           have HT5 := Lib.hid ht3
           have HB5 := Lib.hid hb3
           clear hres ht3 hb3
           refine .inl ⟨_, rfl, trivial, ?_⟩
           simp only [Act.put, sA_, s0_, sS_]
           refine callAtP 5 17 rfl rfl (by kernel_rfl) (by rfl) (by kernel_rfl) (shallow_any A3 (t.1 + t2.1 + 1) cap3 (joinL t.2 t.1 t2.2 t2.1 8) u2 (by have := HL.out; have := HP2.out; omega) HT5.out.nodes) ?_
           rintro e u3 ⟨he, hb4⟩
           rw [if_pos hd] at he
           subst he
           refine .inr ⟨_, rfl, And.intro rfl ?_⟩
           rw [HRd.out]
           exact ⟨rfl, ((HS4.out.below.trans (HB5.out.mono HS4.out.below.size)).trans (hb4.mono (by have := HB5.out.size; have := HS4.out.below.size; omega)))⟩
          ·refine callStepP 2 14 rfl (by rfl) (by kernel_rfl) (HC.out u0 HS3.out) ?_
           rintro e u1 ⟨A2, cap2, rfl, ht2, hs2, hb2⟩
           have HS4 := Lib.hid hs2
           have HT4 := Lib.hid (HT3.out.but hb2 (by simp; omega))
           have HX4 := Lib.hid (HX3.out.but hb2 HX3.out.lt (by omega))
           have HZ4 := Lib.hid (HZ3.out.but hb2 HZ3.out.lt (by omega))
           have HB4 := Lib.hid (HB3.out.then hb2 HB3.out.size)
           clear hs2 hb2
           refine .inl ⟨_, rfl, trivial, ?_⟩
           simp only [Act.put, sA_, s0_, sS_]
           refine valAt 0 12 (.agg (trC A t.1 cap)) u1 rfl rfl (by kernel_rfl) (by rfl) (loadTr_run w1.heap.size A t.1 cap HX4.out rfl rfl) trivial ?_
           simp only [Act.put, sA_, s0_, sS_]
           refine callAtP 4 16 rfl rfl (by kernel_rfl) (by rfl) (by kernel_rfl) (Ast.join_any A t.1 cap t.2 A2 t2.1 cap2 t2.2 8 u1 (by have := HL.out; omega) (by have := HP2.out; omega) HT4.out.none ht2.none HT4.out.nodes ht2.nodes) ?_
           intro e u2 hres
           obtain ⟨A3, cap3, rfl, ht3, hb3⟩ := tree_res hres (by omega)
           have HT5 := Lib.hid ht3
           have HB5 := Lib.hid hb3
           clear hres ht3 hb3
           refine .inl ⟨_, rfl, trivial, ?_⟩
           simp only [Act.put, sA_, s0_, sS_]
           refine callAtP 5 17 rfl rfl (by kernel_rfl) (by rfl) (by kernel_rfl) (shallow_any A3 (t.1 + t2.1 + 1) cap3 (joinL t.2 t.1 t2.2 t2.1 8) u2 (by have := HL.out; have := HP2.out; omega) HT5.out.nodes) ?_
           rintro e u3 ⟨he, hb4⟩
           rw [if_pos hd] at he
           subst he
           refine .inr ⟨_, rfl, And.intro rfl ?_⟩
           rw [HRd.out]
           exact ⟨rfl, ((HS4.out.below.trans (HB5.out.mono HS4.out.below.size)).trans (hb4.mono (by have := HB5.out.size; have := HS4.out.below.size; omega)))⟩
         ·have HRd := Lib.hid (HRn.out.trans (shal_ok (t := joinT t t2 8) hd _))
          refine wp_region_held_drew (S := fun _ => True) (by kernel_rfl) trivial (fun hS => ?_)
          generalize World.drew wa = u0 at HS3 HT3 HX3 HZ3 HB3 ⊢
          refine takeAt 1 13 (.func (.func 115) #[.pointer (some ⟨g, 0, none⟩)] #[]) rfl rfl (by kernel_rfl) (by kernel_rfl) (by kernel_rfl) i_ (yields (by rfl) (fun w => by kernel_rfl)) hS ?_
          simp only [Act.put, sA_, s0_, sS_]
          refine takeAt 3 15 (.int .i64 8) rfl rfl (by kernel_rfl) (by kernel_rfl) (by kernel_rfl) i_ (yields (by rfl) (fun w => by kernel_rfl)) hS ?_
          simp only [Act.put, sA_, s0_, sS_]
          refine wpAnyH_ready (rs := [0, 2]) (by kernel_rfl) (by simp) ?_
          refine AllReadyH.cons rfl ?_ (AllReadyH.cons rfl ?_ AllReadyH.nil)
          ·refine valStep 0 12 (.agg (trC A t.1 cap)) u0 rfl (by rfl) (loadTr_run w1.heap.size A t.1 cap HX3.out rfl rfl) trivial ?_
           simp only [Act.put, sA_, s0_, sS_]
           refine callAtP 2 14 rfl rfl (by kernel_rfl) (by rfl) (by kernel_rfl) (HC.out u0 HS3.out) ?_
           rintro e u1 ⟨A2, cap2, rfl, ht2, hs2, hb2⟩
           have HS4 := Lib.hid hs2
           have HT4 := Lib.hid (HT3.out.but hb2 (by simp; omega))
           have HX4 := Lib.hid (HX3.out.but hb2 HX3.out.lt (by omega))
           have HZ4 := Lib.hid (HZ3.out.but hb2 HZ3.out.lt (by omega))
           have HB4 := Lib.hid (HB3.out.then hb2 HB3.out.size)
           clear hs2 hb2
           refine .inl ⟨_, rfl, trivial, ?_⟩
           simp only [Act.put, sA_, s0_, sS_]
           refine callAtP 4 16 rfl rfl (by kernel_rfl) (by rfl) (by kernel_rfl) (Ast.join_any A t.1 cap t.2 A2 t2.1 cap2 t2.2 8 u1 (by have := HL.out; omega) (by have := HP2.out; omega) HT4.out.none ht2.none HT4.out.nodes ht2.nodes) ?_
           intro e u2 hres
           obtain ⟨A3, cap3, rfl, ht3, hb3⟩ := tree_res hres (by omega)
           have HT5 := Lib.hid ht3
           have HB5 := Lib.hid hb3
           clear hres ht3 hb3
           refine .inl ⟨_, rfl, trivial, ?_⟩
           simp only [Act.put, sA_, s0_, sS_]
           refine callAtP 5 17 rfl rfl (by kernel_rfl) (by rfl) (by kernel_rfl) (shallow_any A3 (t.1 + t2.1 + 1) cap3 (joinL t.2 t.1 t2.2 t2.1 8) u2 (by have := HL.out; have := HP2.out; omega) HT5.out.nodes) ?_
           rintro e u3 ⟨he, hb4⟩
           rw [if_neg hd] at he
           subst he
           have hsz : u1.heap.size ≤ u2.heap.size := HB5.out.size
           have hB := Lib.hid ((ButR.of (g := g) HB5.out).then (ButR.of hb4) hsz)
           have HS6 := Lib.hid ((HS4.out.call HB5.out).call hb4)
           have HT6 := Lib.hid (HT5.out.but (ButR.of (g := g) hb4) (by have := HZ4.out.lt; omega))
           have HX6 := Lib.hid (HX4.out.but hB.out HX4.out.lt (by omega))
           have HZ6 := Lib.hid (HZ4.out.but hB.out HZ4.out.lt (by omega))
           have HB6 := Lib.hid (HB4.out.then hB.out HB4.out.size)
           clear hb4 hB hsz
           refine .inl ⟨_, rfl, trivial, ?_⟩
           simp only [Act.put, sA_, s0_, sS_]
           refine rowAt 6 43 w1.heap.size (trC A t.1 cap) (trC A3 (t.1 + t2.1 + 1) cap3) rfl rfl rfl (by kernel_rfl) (by rfl) rfl rfl HX6.out sizeTr rfl (by simp [Value.oneCell']) trivial ?_
           refine wpAnyH_done (by kernel_rfl) ?_ _
           go_wp2_with fail
           have hsF := HS6.out.row (k := w1.heap.size) (by omega) (by omega) (trC A3 (t.1 + t2.1 + 1) cap3)
           go_roundw
           case rel => exact ⟨m, joinT t t2 8, c2, l2, A3, cap3, by have := HM.out; omega, HRd.out, (by show 1 ≤ t.1 + t2.1 + 1; omega), (by show t.1 + t2.1 + 1 + 2 * l2.length ≤ 4001; have := HL.out; have := HP2.out; omega), HF2.out, hsF, (HT6.out.row HX4.out.lt _).old (by have := HZ4.out.lt; simp; omega), HX6.out.rowSame _, HZ6.out.row _ (by omega), HB6.out.row (by omega) _⟩
           case measure => rw [leftN_of hsF, hln]; have := HP2.out; omega
          ·refine callStepP 2 14 rfl (by rfl) (by kernel_rfl) (HC.out u0 HS3.out) ?_
           rintro e u1 ⟨A2, cap2, rfl, ht2, hs2, hb2⟩
           have HS4 := Lib.hid hs2
           have HT4 := Lib.hid (HT3.out.but hb2 (by simp; omega))
           have HX4 := Lib.hid (HX3.out.but hb2 HX3.out.lt (by omega))
           have HZ4 := Lib.hid (HZ3.out.but hb2 HZ3.out.lt (by omega))
           have HB4 := Lib.hid (HB3.out.then hb2 HB3.out.size)
           clear hs2 hb2
           refine .inl ⟨_, rfl, trivial, ?_⟩
           simp only [Act.put, sA_, s0_, sS_]
           refine valAt 0 12 (.agg (trC A t.1 cap)) u1 rfl rfl (by kernel_rfl) (by rfl) (loadTr_run w1.heap.size A t.1 cap HX4.out rfl rfl) trivial ?_
           simp only [Act.put, sA_, s0_, sS_]
           refine callAtP 4 16 rfl rfl (by kernel_rfl) (by rfl) (by kernel_rfl) (Ast.join_any A t.1 cap t.2 A2 t2.1 cap2 t2.2 8 u1 (by have := HL.out; omega) (by have := HP2.out; omega) HT4.out.none ht2.none HT4.out.nodes ht2.nodes) ?_
           intro e u2 hres
           obtain ⟨A3, cap3, rfl, ht3, hb3⟩ := tree_res hres (by omega)
           have HT5 := Lib.hid ht3
           have HB5 := Lib.hid hb3
           clear hres ht3 hb3
           refine .inl ⟨_, rfl, trivial, ?_⟩
           simp only [Act.put, sA_, s0_, sS_]
           refine callAtP 5 17 rfl rfl (by kernel_rfl) (by rfl) (by kernel_rfl) (shallow_any A3 (t.1 + t2.1 + 1) cap3 (joinL t.2 t.1 t2.2 t2.1 8) u2 (by have := HL.out; have := HP2.out; omega) HT5.out.nodes) ?_
           rintro e u3 ⟨he, hb4⟩
           rw [if_neg hd] at he
           subst he
           have hsz : u1.heap.size ≤ u2.heap.size := HB5.out.size
           have hB := Lib.hid ((ButR.of (g := g) HB5.out).then (ButR.of hb4) hsz)
           have HS6 := Lib.hid ((HS4.out.call HB5.out).call hb4)
           have HT6 := Lib.hid (HT5.out.but (ButR.of (g := g) hb4) (by have := HZ4.out.lt; omega))
           have HX6 := Lib.hid (HX4.out.but hB.out HX4.out.lt (by omega))
           have HZ6 := Lib.hid (HZ4.out.but hB.out HZ4.out.lt (by omega))
           have HB6 := Lib.hid (HB4.out.then hB.out HB4.out.size)
           clear hb4 hB hsz
           refine .inl ⟨_, rfl, trivial, ?_⟩
           simp only [Act.put, sA_, s0_, sS_]
           refine rowAt 6 43 w1.heap.size (trC A t.1 cap) (trC A3 (t.1 + t2.1 + 1) cap3) rfl rfl rfl (by kernel_rfl) (by rfl) rfl rfl HX6.out sizeTr rfl (by simp [Value.oneCell']) trivial ?_
           refine wpAnyH_done (by kernel_rfl) ?_ _
           go_wp2_with fail
           have hsF := HS6.out.row (k := w1.heap.size) (by omega) (by omega) (trC A3 (t.1 + t2.1 + 1) cap3)
           go_roundw
           case rel => exact ⟨m, joinT t t2 8, c2, l2, A3, cap3, by have := HM.out; omega, HRd.out, (by show 1 ≤ t.1 + t2.1 + 1; omega), (by show t.1 + t2.1 + 1 + 2 * l2.length ≤ 4001; have := HL.out; have := HP2.out; omega), HF2.out, hsF, (HT6.out.row HX4.out.lt _).old (by have := HZ4.out.lt; simp; omega), HX6.out.rowSame _, HZ6.out.row _ (by omega), HB6.out.row (by omega) _⟩
           case measure => rw [leftN_of hsF, hln]; have := HP2.out; omega
      ·rw [decide_eq_true (Classical.not_not.1 hk), Bool.not_true] at HMo
       rw [if_pos <| Classical.not_not.1 hk] at HRm
       go_wp2_with fail
       with_reducible refine HMo.out.mono ?_
       clear HMo
       rintro e wa ⟨rfl, hwa⟩
       have hs : RSt w0 g wa f c1 l1 := hwa ▸ HS1.out
       have hb : ButR g wr.heap.size wr wa := hwa ▸ ButR.refl _ _ _
       clear hwa
       have HSa := Lib.hid hs
       have HTa := Lib.hid (HT1.out.but hb (by simp; omega))
       have HXa := Lib.hid (HX1.out.but hb HX1.out.lt (by omega))
       have HZa := Lib.hid (HZ1.out.but hb HZ1.out.lt (by omega))
       have HBa := Lib.hid (HB1.out.then hb HB1.out.size)
       clear hs hb
       go_wp2_with (first | (refine loadTr rfl _ rfl w1.heap.size A t.1 cap rfl HXa.out ?_) | (refine storeTr rfl _ _ rfl w.heap.size _ A t.1 cap rfl rfl rfl HZa.out ?_))
       refine bodyPost_ret (resTr (p := 6) (A := A) (n := t.1) (cap := cap) rfl _ (g := w.heap.size) rfl (HZa.out.rowSame _)) rfl ?_
       rw [HRm.out]
       exact ⟨A, cap, rfl, (HTa.out.row (by simp) _).old (by simp), HSa.out.row (by omega) (by omega) _, HBa.out.row (Nat.le_refl _) _⟩
end Go.Proofs.YteggpecbeagohaaGreatDoor
