import Derived.Test.YteiboobdhjdjkaaGreatDoorNaiTonlyM
namespace Go.Proofs.YteiboobdhjdjkaaGreatDoor.Nai
open Go.RowKit
open Ast (Nd At12 NodesAt kidsZ)
open Cap (Cp withZ cpC BoxV)
attribute [local go_sem] Oper.semAt_some
theorem outcomes_any (rb b o q : Nat) (z : Int) (w : World) : Calls Tryz.prog 63 #[ptr rb, .pointer (some ⟨b, o, none⟩), .agg (spA z (some ⟨q, 0, none⟩))] w fun e w' => e = .returned (.func (.func 98) #[] #[ptr w.heap.size, ptr (w.heap.size + 1), ptr (w.heap.size + 1 + 1)]) ∧
  w' = ((w.alloc (.cells #[ptr rb] 88)).alloc (.cells #[.pointer (some ⟨b, o, none⟩)] 129)).alloc (.cells (spA z (some ⟨q, 0, none⟩)) 93) := by
 go_enter Tryz.func63, Tryz.ntmps63
 go_wp2
 go_ret
 exact ⟨rfl, rfl⟩
theorem resXX {fn : Func} {p q : Tmp} {b : Bool} {z : Int} {p2 : Option Addr} {w : World} (h : fn.results = #[.cell p 93, .cell q 4]) (tmps : Array Value) {g g2 : Nat} (hp : tmps.getD p undef = .pointer (some ⟨g, 0, none⟩)) (hq : tmps.getD q undef = .pointer (some ⟨g2, 0, none⟩)) (hg : BoxV 93 w g (spA z p2)) (hg2 : BoxV 4 w g2 #[.bool b]) :
  (results fn tmps).run Tryz.prog w = .ok (.tuple #[.agg (spA z p2), .bool b]) w := by
 have hp' : tmps[p]?.getD undef = .pointer (some ⟨g, 0, none⟩) := by simpa using hp
 have hq' : tmps[q]?.getD undef = .pointer (some ⟨g2, 0, none⟩) := by simpa using hq
 have c0 := hg.get 0 rfl
 have c1 := hg.get 1 rfl
 have hc := hg2.get 0 rfl
 simp [results, h, hp', hq', asAddr, go_sem, c0, c1, hc]
theorem box_put {T : TypeId} {u : World} {g l : Nat} {cs : Array Value} (h : BoxV T u g cs) (hl : g ≠ l) (o : Obj) : BoxV T (u.putObj l o) g cs := (World.putObj_heap_other hl).trans h
theorem below_put {B l : Nat} {w u : World} (h : Below B w u) (hl : B ≤ l) (o : Obj) : Below B w (u.putObj l o) := h.trans ⟨rfl, rfl, rfl, by simp [World.putObj], fun k hk => World.putObj_heap_other (by omega)⟩
theorem caps_ne {u : World} {q mb : Nat} {c : Cp} {b : Value} (h : BoxV 44 u q (cpC c)) (k : BoxV 4 u mb #[b]) : q ≠ mb := by
 rintro rfl
 have e : some (Obj.cells (cpC c) 44 (0, 0)) = some (.cells #[b] 4 (0, 0)) := h.symm.trans k
 injection e with e
 injection e with _ e
 exact absurd e (by decide)
theorem RecAt.keep {D : Nat} {r : Loop} {u u' : World} (h : RecAt D r u) (h0 : u'.heap[D]? = u.heap[D]?) (h1 : u'.heap[D + 1]? = u.heap[D + 1]?) : RecAt D r u' := ⟨h1.trans h.lp, h0.trans h.dfr⟩
def FirJ (X : Nat → Prop) (w : World) (D : Nat) (r1 r2 : Loop) (pre : List Sp) (m : Bool) (O : Nat → Prop) (u : World) : Prop :=
 (∀ c, O c ↔ X c ∨ c = w.heap.size + 1 ∨ c = w.heap.size + 2 ∨ c = D ∨ c = D + 1) ∧ (∀ c, X c → c < u.heap.size ∧ u.heap[c]? = w.heap[c]?) ∧
 if m = true then pre = [] ∧ RecAt D r1 u ∧ BoxV 93 u (w.heap.size + 1) (spA 0 none) ∧ BoxV 4 u (w.heap.size + 2) #[.bool false]
 else ∃ v q, pre = [v] ∧ RecAt D r2 u ∧ BoxV 93 u (w.heap.size + 1) (spA (v.1 : Int) (some ⟨q, 0, none⟩)) ∧ BoxV 4 u (w.heap.size + 2) #[.bool true] ∧ BoxV 44 u q (cpC v.2) ∧ ¬ O q
theorem FirJ.told (X : Nat → Prop) (w : World) (D : Nat) (r1 r2 : Loop) : Told (FirJ X w D r1 r2) where
 own := by
  rintro pre m O u ⟨hO, hX, h⟩ c hc
  cases m with
  | true =>
    obtain ⟨-, h1, h2, h3⟩ := h
    rcases (hO c).1 hc with e | rfl | rfl | rfl | rfl
    ·exact (hX c e).1
    ·exact h2.lt
    ·exact h3.lt
    ·exact (Array.getElem?_eq_some_iff.1 h1.dfr).1
    ·exact (Array.getElem?_eq_some_iff.1 h1.lp).1
  | false =>
    obtain ⟨v, q, -, h1, h2, h3, -⟩ := h
    rcases (hO c).1 hc with e | rfl | rfl | rfl | rfl
    ·exact (hX c e).1
    ·exact h2.lt
    ·exact h3.lt
    ·exact (Array.getElem?_eq_some_iff.1 h1.dfr).1
    ·exact (Array.getElem?_eq_some_iff.1 h1.lp).1
 keep := by
  rintro pre O u u' ⟨hO, hX, h0, h1, h2, h3⟩ hB hs
  exact ⟨hO, fun c e => ⟨Nat.lt_of_lt_of_le (hX c e).1 hB.size, (hs c ((hO _).2 (.inl e))).trans (hX c e).2⟩, h0, h1.keep (hs _ ((hO _).2 (.inr (.inr (.inr (.inl rfl)))))) (hs _ ((hO _).2 (.inr (.inr (.inr (.inr rfl)))))), (hs _ ((hO _).2 (.inr (.inl rfl)))).trans h2, (hs _ ((hO _).2 (.inr (.inr (.inl rfl))))).trans h3⟩
 cell := by
  rintro pre m O u mb b0 b ⟨hO, hX, h⟩ hb hn
  have n1 : ∀ c, O c → c ≠ mb := fun c hc e => hn (e ▸ hc)
  have k : ∀ c, c ≠ mb → (u.setCell ⟨mb, 0, none⟩ (.bool b)).heap[c]? = u.heap[c]? := fun c hc => heap_setCell_other _ _ _ _ hc
  have hX' : ∀ c, X c → c < (u.setCell ⟨mb, 0, none⟩ (.bool b)).heap.size ∧ (u.setCell ⟨mb, 0, none⟩ (.bool b)).heap[c]? = w.heap[c]? := fun c e => ⟨by have := (hX c e).1; simpa [World.setCell] using this, (k c (n1 c ((hO c).2 (.inl e)))).trans (hX c e).2⟩
  have o1 := k _ (n1 _ ((hO _).2 (.inr (.inl rfl))))
  have o2 := k _ (n1 _ ((hO _).2 (.inr (.inr (.inl rfl)))))
  have o3 := k _ (n1 _ ((hO _).2 (.inr (.inr (.inr (.inl rfl))))))
  have o4 := k _ (n1 _ ((hO _).2 (.inr (.inr (.inr (.inr rfl))))))
  cases m with
  | true =>
    obtain ⟨h0, h1, h2, h3⟩ := h
    exact ⟨hO, hX', h0, h1.keep o3 o4, o1.trans h2, o2.trans h3⟩
  | false =>
    obtain ⟨v, q, h0, h1, h2, h3, h4, h5⟩ := h
    exact ⟨hO, hX', v, q, h0, h1.keep o3 o4, o1.trans h2, o2.trans h3, (k _ (caps_ne h4 hb)).trans h4, h5⟩
theorem ExtO.put {O : Nat → Prop} {u v : World} (h : ExtO O O u v) {l : Nat} (hl : O l) (o : Obj) : ExtO O O u (v.putObj l o) :=
 ⟨h.below.trans ⟨rfl, rfl, rfl, by simp [World.putObj], fun k hk => absurd hk (by omega)⟩, fun b hb hn => ⟨(World.putObj_heap_other (by rintro rfl; exact hn hl)).trans (h.keep b hb hn).1, hn⟩⟩
theorem ExtO.call {O : Nat → Prop} {u v : World} (h : Below u.heap.size u v) : ExtO O O u v := ⟨h.mono (Nat.zero_le _), fun b hb hn => ⟨h.block b hb, hn⟩⟩
theorem ExtO.trans {O : Nat → Prop} {u v z : World} (h : ExtO O O u v) (k : ExtO O O v z) : ExtO O O u z :=
 ⟨h.below.trans k.below, fun b hb hn => ⟨(k.keep b (Nat.lt_of_lt_of_le hb h.below.size) hn).1.trans (h.keep b hb hn).1, hn⟩⟩
theorem ExtO.cell {O : Nat → Prop} {u v : World} (h : ExtO O O u v) {b j : Nat} (hl : O b) (x : Value) : ExtO O O u (v.setCell ⟨b, j, none⟩ x) := by
 refine h.trans ⟨(Below.refl 0 v).setCell (Nat.zero_le _) x, fun c _ hn => ⟨heap_setCell_other _ _ _ _ (fun e => hn ?_), hn⟩⟩
 have e : c = b := e
 rw [e]
 exact hl
def FirX (X : Nat → Prop) (w : World) (O : Nat → Prop) (y : Sp) (q : Nat) (u : World) (c : Code) (v : World) : Prop :=
 c = .ret ∧ ExtO O O u v ∧ BoxV 93 v (w.heap.size + 1) (spA (y.1 : Int) (some ⟨q, 0, none⟩)) ∧ BoxV 4 v (w.heap.size + 2) #[.bool true] ∧ BoxV 44 v q (cpC y.2) ∧ ∀ c, X c → v.heap[c]? = u.heap[c]?
set_option maxRecDepth 100000 in
theorem first_any {R : Rd} {r : Re} (G : Given R) (hok : r.ok R) (hl : r.lite R.s.size) : FirstOk R r := by
 intro X w y q b o hb hbX hn hc hq hy hR hx
 refine (callsIn_wide (n := 0)).1 ?_
 refine callsIn_of_wp_marks Tryz.func178 rfl trivial ?_ rfl
 simp only [Tryz.ntmps178, List.size_toArray, List.length_cons, List.length_nil, Nat.reduceAdd, Nat.reduceSub, Array.replicate_succ, Array.replicate_zero, List.push_toArray, List.append_toArray, List.nil_append, List.cons_append]
 obtain ⟨W1, hW1⟩ : ∃ W1, ((w.alloc (.cells (spA (y.1 : Int) (some ⟨q, 0, none⟩)) 93)).alloc (.cells (spA 0 none) 93)).alloc (.cells #[.bool false] 4) = W1 := ⟨_, rfl⟩
 have hB1 : Below w.heap.size w W1 := by rw [← hW1]; go_grown
 have hs1 : W1.heap.size = w.heap.size + 3 := by rw [← hW1]; simp
 have hx1 : BoxV 93 W1 w.heap.size (spA (y.1 : Int) (some ⟨q, 0, none⟩)) := by rw [← hW1]; exact ((BoxV.new _ _).alloc _).alloc _
 have hr1 : BoxV 93 W1 (w.heap.size + 1) (spA 0 none) := by
  rw [← hW1]
  have := BoxV.new (T := 93) (w.alloc (.cells (spA (y.1 : Int) (some ⟨q, 0, none⟩)) 93)) (spA 0 none)
  rw [World.size_alloc] at this
  exact this.alloc _
 have hr2 : BoxV 4 W1 (w.heap.size + 2) #[.bool false] := by
  rw [← hW1]
  have := BoxV.new (T := 4) ((w.alloc (.cells (spA (y.1 : Int) (some ⟨q, 0, none⟩)) 93)).alloc (.cells (spA 0 none) 93)) #[.bool false]
  simpa using this
 have c0 := hx1.get 0 rfl
 have c1 := hx1.get 1 rfl
 have HX1 := Lib.hid hx1
 have HR1 := Lib.hid hr1
 have HR2 := Lib.hid hr2
 have HS := Lib.hid hs1
 clear hx1 hr1 hr2 hs1
 gi_wp2
 refine ⟨trivial, rfl, (callsIn_wide.2 (outcomes_any _ _ _ _ _ _)).mono ?_⟩
 rintro e w2 ⟨rfl, rfl⟩
 rename_i K hK
 refine hK _ _ ?_
 clear hK K
 gi_wp2
 obtain ⟨W2, hW2⟩ : ∃ W2, ((W1.alloc (.cells #[ptr R.rb] 88)).alloc (.cells #[.pointer (some ⟨b, o, none⟩)] 129)).alloc (.cells (spA (y.1 : Int) (some ⟨q, 0, none⟩)) 93) = W2 := ⟨_, rfl⟩
 have hs1 := HS.out
 have hB2' : Below W1.heap.size W1 W2 := by rw [← hW2]; go_grown
 have hB2 : Below w.heap.size w W2 := hB1.trans (hB2'.mono hB1.size)
 have hs2 : W2.heap.size = w.heap.size + 6 := by rw [← hW2]; simp [hs1]
 have hrb : BoxV 88 W2 W1.heap.size #[ptr R.rb] := by rw [← hW2]; exact ((BoxV.new _ _).alloc _).alloc _
 have hnb : BoxV 129 W2 (W1.heap.size + 1) #[.pointer (some ⟨b, o, none⟩)] := by
  rw [← hW2]
  have := BoxV.new (T := 129) (W1.alloc (.cells #[ptr R.rb] 88)) #[.pointer (some ⟨b, o, none⟩)]
  rw [World.size_alloc] at this
  exact this.alloc _
 have hxb : BoxV 93 W2 (W1.heap.size + 1 + 1) (spA (y.1 : Int) (some ⟨q, 0, none⟩)) := by
  rw [← hW2]
  have := BoxV.new (T := 93) ((W1.alloc (.cells #[ptr R.rb] 88)).alloc (.cells #[.pointer (some ⟨b, o, none⟩)] 129)) (spA (y.1 : Int) (some ⟨q, 0, none⟩))
  simpa using this
 rw [hW2]
 have hr1 := HR1.out.below hB2' HR1.out.lt
 have hr2 := HR2.out.below hB2' HR2.out.lt
 clear hW2 hW1 c0 c1 HX1 HR1 HR2
 obtain ⟨D, hD⟩ : ∃ D, W2.heap.size = D := ⟨_, rfl⟩
 generalize houts : outs (outsE R.s r y) = L
 refine range_law (σ := Unit) rfl (enters_of Tryz.func98 (by kernel_rfl) rfl) (fun _ u => L = [] ∧ Below w.heap.size w u ∧ BoxV 93 u (w.heap.size + 1) (spA 0 none) ∧ BoxV 4 u (w.heap.size + 2) #[.bool false])
  (fun c _ u => c = .ret ∧ ∃ v q, L.head? = some v ∧ Below w.heap.size w u ∧ BoxV 93 u (w.heap.size + 1) (spA (v.1 : Int) (some ⟨q, 0, none⟩)) ∧ BoxV 4 u (w.heap.size + 2) #[.bool true] ∧ BoxV 44 u q (cpC v.2) ∧ ¬ X q ∧ q ≠ D ∧ q ≠ D + 1) ?_ ?_ ?_ ?_ ?_
 ·rintro _ u o2 ⟨h1, h2, h3, h4⟩
  exact ⟨h1, below_put h2 (by omega) _, box_put h3 (by omega) _, box_put h4 (by omega) _⟩
 ·rintro c _ u o2 ⟨h0, v, q2, h1, h2, h3, h4, h5, h6, h7, h8⟩
  exact ⟨h0, v, q2, h1, below_put h2 (by omega) _, box_put h3 (by omega) _, box_put h4 (by omega) _, box_put h5 (by rw [hD]; exact h8) _, h6, h7, h8⟩
 ·intro fn
  generalize hr1' : recL W2.heap.size fn _ _ _ _ .ready none = rr1
  have C : Cons R (W2.heap.size + 1) (FirJ X w W2.heap.size rr1 { rr1 with state := .done, pending := some .ret }) := by
   refine ⟨FirJ.told _ _ _ _ _, ?_⟩
   rintro pre O u y2 q2 ⟨hO, hXs, rfl, h1, h2, h3⟩ hc2 hnq hy2
   subst hr1'
   refine yield_mono (round_law (D := W2.heap.size) rfl (fun _ => False) (FirX X w O y2 q2 u) (fun _ _ h => h) ?_ h1 ?_) ?_
   ·rintro c v o2 ⟨k0, k1, k2, k3, k4, k5⟩
    have hOl := (hO (W2.heap.size + 1)).2 (.inr (.inr (.inr (.inr rfl))))
    exact ⟨k0, k1.put hOl _, box_put k2 (by omega) _, box_put k3 (by omega) _, box_put k4 (fun e => hnq (e ▸ hOl)) _, fun c e => (World.putObj_heap_other (by have := hx c e; omega)).trans (k5 c e)⟩
   ·have H1 := Lib.hid h1
    have S1 := Lib.hid hs1
    have S2 := Lib.hid hs2
    have SD := Lib.hid hD
    have SX := Lib.hid hx
    clear hD h1 hs1 hs2 hrb hnb hxb hr1 hr2 hb hbX hn hc hq hy hR hx hok hl G
    gi_wp2
    have hl0 := (Array.getElem?_eq_some_iff.1 H1.out.dfr).1
    have hl1 := (Array.getElem?_eq_some_iff.1 H1.out.lp).1
    refine ⟨H1.out.keep (Below.heap_alloc _ _ _ hl0) (Below.heap_alloc _ _ _ hl1), ?_⟩
    generalize hrb : recL W2.heap.size fn _ _ _ _ LoopState.busy none = rb
    obtain ⟨u1, hu1⟩ : ∃ u1, (u.alloc (.cells #[.int .i64 (y2.1 : Int), .pointer (some ⟨q2, 0, none⟩)] 93)).putObj (W2.heap.size + 1) (.loop rb) = u1 := ⟨_, rfl⟩
    have hO1 := (hO (w.heap.size + 1)).2 (.inr (.inl rfl))
    have hO2 := (hO (w.heap.size + 1 + 1)).2 (.inr (.inr (.inl rfl)))
    have hO4 := (hO (W2.heap.size + 1)).2 (.inr (.inr (.inr (.inr rfl))))
    have hs2 := S2.out
    have k0 : RecAt W2.heap.size rb u1 := by
     rw [← hu1]
     exact (H1.out.keep (Below.heap_alloc _ _ _ hl0) (Below.heap_alloc _ _ _ hl1)).put rb
    have k1 : BoxV 93 u1 u.heap.size (spA (y2.1 : Int) (some ⟨q2, 0, none⟩)) := by rw [← hu1]; exact box_put (BoxV.new _ _) (by omega) _
    have k2 : BoxV 93 u1 (w.heap.size + 1) (spA 0 none) := by rw [← hu1]; exact box_put (h2.alloc _) (by omega) _
    have k3 : BoxV 4 u1 (w.heap.size + 1 + 1) #[.bool false] := by rw [← hu1]; exact box_put (h3.alloc _) (by omega) _
    have k4 : BoxV 44 u1 q2 (cpC y2.2) := by rw [← hu1]; exact box_put (hc2.alloc _) (fun e => hnq (e ▸ hO4)) _
    have k5 : ExtO O O u u1 := by rw [← hu1]; exact (ExtO.call ((Below.refl _ _).alloc (Nat.le_refl _) _)).put hO4 _
    rw [hu1]
    have p1 := k2.put 0 (.int .i64 (y2.1 : Int))
    have p2 := p1.put 1 (.pointer (some ⟨q2, 0, none⟩))
    have c0 := k1.get 0 rfl
    have c1 := k1.get 1 rfl
    have e0 := k2.get 0 rfl
    have f0 := k2.free 0
    have e1 := p1.get 1 rfl
    have f1 := p1.free 1
    have q3 : BoxV 4 ((u1.setCell ⟨w.heap.size + 1, 0, none⟩ (.int .i64 (y2.1 : Int))).setCell ⟨w.heap.size + 1, 1, none⟩ (.pointer (some ⟨q2, 0, none⟩))) (w.heap.size + 1 + 1) #[.bool false] := (heap_setCell_other _ _ _ _ (show w.heap.size + 1 + 1 ≠ w.heap.size + 1 by omega)).trans ((heap_setCell_other _ _ _ _ (show w.heap.size + 1 + 1 ≠ w.heap.size + 1 by omega)).trans k3)
    have e3 := q3.get 0 rfl
    have f3 := q3.free 0
    have q4 := q3.put 0 (.bool true)
    have p3 : BoxV 93 (((u1.setCell ⟨w.heap.size + 1, 0, none⟩ (.int .i64 (y2.1 : Int))).setCell ⟨w.heap.size + 1, 1, none⟩ (.pointer (some ⟨q2, 0, none⟩))).setCell ⟨w.heap.size + 1 + 1, 0, none⟩ (.bool true)) (w.heap.size + 1) (spA (y2.1 : Int) (some ⟨q2, 0, none⟩)) := (heap_setCell_other _ _ _ _ (show w.heap.size + 1 ≠ w.heap.size + 1 + 1 by omega)).trans p2
    have k6 := ((k5.cell (j := 0) hO1 (.int .i64 (y2.1 : Int))).cell (j := 1) hO1 (.pointer (some ⟨q2, 0, none⟩))).cell (j := 0) hO2 (.bool true)
    have far : ∀ c, c ≠ w.heap.size + 1 → c ≠ w.heap.size + 1 + 1 → (((u1.setCell ⟨w.heap.size + 1, 0, none⟩ (.int .i64 (y2.1 : Int))).setCell ⟨w.heap.size + 1, 1, none⟩ (.pointer (some ⟨q2, 0, none⟩))).setCell ⟨w.heap.size + 1 + 1, 0, none⟩ (.bool true)).heap[c]? = u1.heap[c]? := fun c h1 h2 => (heap_setCell_other _ _ _ _ h2).trans ((heap_setCell_other _ _ _ _ h1).trans (heap_setCell_other _ _ _ _ h1))
    have P0 := Lib.hid (k0.keep (far _ (by omega) (by omega)) (far _ (by omega) (by omega)))
    have P1 := Lib.hid p3
    have P2 := Lib.hid q4
    have P3 := Lib.hid ((far q2 (fun e => hnq (e ▸ hO1)) (fun e => hnq (e ▸ hO2))).trans k4)
    have P4 := Lib.hid k6
    have P5 : Hid (∀ c, X c → (((u1.setCell ⟨w.heap.size + 1, 0, none⟩ (.int .i64 (y2.1 : Int))).setCell ⟨w.heap.size + 1, 1, none⟩ (.pointer (some ⟨q2, 0, none⟩))).setCell ⟨w.heap.size + 1 + 1, 0, none⟩ (.bool true)).heap[c]? = u.heap[c]?) := Lib.hid (fun c e => by
     have hc := SX.out c e
     refine (far c (by omega) (by omega)).trans ?_
     rw [← hu1]
     exact (World.putObj_heap_other (by omega)).trans (Below.heap_alloc _ _ _ (hXs c e).1))
    clear hs2 p1 p2 q3 q4 p3 k0 k1 k2 k3 k4 k5 k6 far hrb hu1
    gi_wp2
    exact ⟨P0.out, rfl, P4.out, P1.out, P2.out, P3.out, P5.out⟩
   ·rintro e v (⟨-, -, h⟩ | ⟨c, rfl, k0, rfl, k1, k2, k3, k4, k5⟩)
    ·exact h.elim
    ·exact ⟨false, O, rfl, ⟨hO, fun c e => ⟨Nat.lt_of_lt_of_le (hXs c e).1 k1.below.size, (k5 c e).trans (hXs c e).2⟩, y2, q2, rfl, k0, k2, k3, k4, hnq⟩, k1⟩
  obtain ⟨W3, hW3⟩ : ∃ W3, (W2.alloc (.deferred (some []))).alloc (.loop rr1) = W3 := ⟨_, rfl⟩
  have hB3 : Below W2.heap.size W2 W3 := by rw [← hW3]; go_grown
  have hr3 : RecAt W2.heap.size rr1 W3 := by
   rw [← hW3]
   constructor
   ·have : (W2.alloc (.deferred (some []))).heap.size = W2.heap.size + 1 := by simp
    rw [← this]
    exact heap_alloc_new _ _
   ·exact (Below.heap_alloc _ _ _ (by simp)).trans (heap_alloc_new _ _)
  rw [hW3]
  have hB3' : Below w.heap.size w W3 := hB2.trans (hB3.mono hB2.size)
  obtain ⟨Y, hY⟩ : ∃ Y : Nat → Prop, Y = fun c => X c ∨ c = w.heap.size + 1 ∨ c = w.heap.size + 2 ∨ c = W2.heap.size ∨ c = W2.heap.size + 1 := ⟨_, rfl⟩
  have hYn : ∀ c, ¬ X c → c ≠ w.heap.size + 1 → c ≠ w.heap.size + 2 → c ≠ W2.heap.size → c ≠ W2.heap.size + 1 → ¬ Y c := fun c h1 h2 h3 h4 h5 => by
   rw [hY]
   rintro (e | e | e | e | e)
   ·exact h1 e
   ·exact h2 e
   ·exact h3 e
   ·exact h4 e
   ·exact h5 e
  have hXn : ∀ c, w.heap.size ≤ c → ¬ X c := fun c h1 h2 => by have := hx c h2; omega
  have hXY : Ext X Y w W3 := by
   refine ⟨hB3'.mono (Nat.zero_le _), fun c h1 h2 => ⟨hB3'.block c h1, hYn c h2 (by omega) (by omega) (by omega) (by omega)⟩, fun c h => by rw [hY]; exact .inl h⟩
  refine Calls.mono (iter_any G hok hl C Y W3 y q b o W1.heap.size (W1.heap.size + 1) (W1.heap.size + 1 + 1) Y ⟨hrb.below hB3 hrb.lt, hYn _ (hXn _ (by omega)) (by omega) (by omega) (by omega) (by omega)⟩ ⟨hnb.below hB3 hnb.lt, hYn _ (hXn _ (by omega)) (by omega) (by omega) (by omega) (by omega)⟩ ⟨hxb.below hB3 hxb.lt, hYn _ (hXn _ (by omega)) (by omega) (by omega) (by omega) (by omega)⟩
   (Nat.lt_of_lt_of_le hb hB3'.size) (hXY.keep b hb hbX).2 (hn.keep fun j => cell_ext hXY hb hbX j) (BoxI.ext ⟨hc, hq⟩ hXY) hy (hR.ext hXY) ?_ (fun _ h => h) ?_) ?_
  ·exact ⟨fun c => by rw [hY], fun c e => ⟨Nat.lt_of_lt_of_le (hx c e) hB3'.size, hB3'.block c (hx c e)⟩, rfl, hr3, hr1.below hB3 hr1.lt, hr2.below hB3 hr2.lt⟩
  ·intro c h
   rw [hY] at h
   have h1 := (Array.getElem?_eq_some_iff.1 hr3.lp).1
   rcases h with e | e | e | e | e
   ·exact Nat.lt_of_lt_of_le (hx c e) hB3'.size
   ·omega
   ·omega
   ·omega
   ·omega
  ·rintro e w' ⟨hv, told, m, O', X', ⟨hO', hX', hJ⟩, hE, h1, h2⟩
   refine ⟨hv, ?_⟩
   have hBw : Below w.heap.size w w' := by
    refine ⟨hE.below.os.trans hB3'.os, hE.below.tape.trans hB3'.tape, hE.below.output.trans hB3'.output, Nat.le_trans hB3'.size hE.below.size, fun c hcl => ?_⟩
    by_cases hXc : X c
    ·exact (hX' c hXc).2
    ·exact (hE.keep c (Nat.lt_of_lt_of_le hcl hB3'.size) (hYn c hXc (by omega) (by omega) (by omega) (by omega))).1.trans (hB3'.block c hcl)
   cases m with
   | true =>
     obtain ⟨rfl, k1, k2, k3⟩ := hJ
     subst hr1'
     exact .inl ⟨(), k1, by rw [← houts]; exact (h1 rfl).symm, hBw, k2, k3⟩
   | false =>
     obtain ⟨v, q2, rfl, k1, k2, k3, k4, k5⟩ := hJ
     subst hr1'
     refine .inr ⟨.ret, (), k1, rfl, v, q2, ?_, hBw, k2, k3, k4, fun e => k5 ((hO' _).2 (.inl e)), fun e => k5 ((hO' _).2 (.inr (.inr (.inr (.inl (e.trans hD.symm)))))), fun e => k5 ((hO' _).2 (.inr (.inr (.inr (.inr (e.trans (by rw [hD])))))))⟩
     obtain ⟨t, ht⟩ := h2
     rw [houts] at ht
     rw [← ht]
     rfl
 ·rintro _ u ⟨rfl, h1, h2, h3⟩ hd
  have p1 := h2.put 0 (.int .i64 0)
  have p2 := p1.put 1 (.pointer none)
  have e0 := h2.get 0 rfl
  have f0 := h2.free 0
  have e1 := p1.get 1 rfl
  have f1 := p1.free 1
  have q3 : BoxV 4 ((u.setCell ⟨w.heap.size + 1, 0, none⟩ (.int .i64 0)).setCell ⟨w.heap.size + 1, 1, none⟩ (.pointer none)) (w.heap.size + 1 + 1) #[.bool false] := (heap_setCell_other _ _ _ _ (show w.heap.size + 1 + 1 ≠ w.heap.size + 1 by omega)).trans ((heap_setCell_other _ _ _ _ (show w.heap.size + 1 + 1 ≠ w.heap.size + 1 by omega)).trans h3)
  have e3 := q3.get 0 rfl
  have f3 := q3.free 0
  have q4 := q3.put 0 (.bool false)
  have p3 : BoxV 93 (((u.setCell ⟨w.heap.size + 1, 0, none⟩ (.int .i64 0)).setCell ⟨w.heap.size + 1, 1, none⟩ (.pointer none)).setCell ⟨w.heap.size + 1 + 1, 0, none⟩ (.bool false)) (w.heap.size + 1) (spA 0 none) := (heap_setCell_other _ _ _ _ (show w.heap.size + 1 ≠ w.heap.size + 1 + 1 by omega)).trans p2
  have hb9 : Below w.heap.size w (((u.setCell ⟨w.heap.size + 1, 0, none⟩ (.int .i64 0)).setCell ⟨w.heap.size + 1, 1, none⟩ (.pointer none)).setCell ⟨w.heap.size + 1 + 1, 0, none⟩ (.bool false)) := ((h1.setCell (by show _ ≤ w.heap.size + 1; omega) _).setCell (by show _ ≤ w.heap.size + 1; omega) _).setCell (by show _ ≤ w.heap.size + 1 + 1; omega) _
  have hd9 : (((u.setCell ⟨w.heap.size + 1, 0, none⟩ (.int .i64 0)).setCell ⟨w.heap.size + 1, 1, none⟩ (.pointer none)).setCell ⟨w.heap.size + 1 + 1, 0, none⟩ (.bool false)).heap[W2.heap.size]? = some (.deferred (some [])) := (heap_setCell_other _ _ _ _ (show W2.heap.size ≠ w.heap.size + 1 + 1 by omega)).trans ((heap_setCell_other _ _ _ _ (show W2.heap.size ≠ w.heap.size + 1 by omega)).trans ((heap_setCell_other _ _ _ _ (show W2.heap.size ≠ w.heap.size + 1 by omega)).trans hd))
  have P3 := Lib.hid p3
  have Q4 := Lib.hid q4
  have B9 := Lib.hid hb9
  have D9 := Lib.hid hd9
  have S2 := Lib.hid hs2
  clear p1 p2 q3 q4 p3 hb9 hd9 h1 h2 h3 hs1 hs2 hD
  gi_wp2
  refine ⟨by simp, .inl ⟨_, _, rfl, run_takeDeferred D9.out, ?_⟩⟩
  have hs2 := S2.out
  refine ⟨_, resXX rfl _ rfl rfl (box_put P3.out (by omega) _) (box_put Q4.out (by omega) _), 0, none, false, rfl, below_put B9.out (by omega) _, ?_⟩
  rw [houts]
  rfl
 ·rintro c _ u ⟨rfl, v, q2, h0, h1, h2, h3, h4, h5, h6, h7⟩ hd
  gi_wp2
  refine ⟨by simp, .inl ⟨_, _, rfl, run_takeDeferred hd, ?_⟩⟩
  refine ⟨_, resXX rfl _ rfl rfl (box_put h2 (by omega) _) (box_put h3 (by omega) _), (v.1 : Int), some ⟨q2, 0, none⟩, true, rfl, below_put h1 (by omega) _, ?_⟩
  rw [h0]
  exact ⟨rfl, q2, rfl, rfl, box_put h4 (by omega) _, h5⟩
end Go.Proofs.YteiboobdhjdjkaaGreatDoor.Nai
