import Derived.Test.YteiboobdhjdjkaaGreatDoorNaiRootM
import Derived.Maps.AppendAt
import Derived.Test.YteiboobdhjdjkaaGreatDoorCapWithM
import Derived.Test.YteiboobdhjdjkaaGreatDoorMz
namespace Go.Proofs.YteiboobdhjdjkaaGreatDoor.Nai
open Go.RowKit
open Cap (Cp cpC BoxV)
section
variable {R : Rd} {g : Nat} {rv : Value} {J : List Sp → Bool → (Nat → Prop) → World → Prop} {X : Nat → Prop} {w : World} {S : List Tas} {pre : List Sp} {v : Value} {O : Nat → Prop} {cs : List Value}
theorem Ext.put {l : Nat} (h : X l) (o : Obj) : Ext X X w (w.putObj l o) :=
 ⟨⟨rfl, rfl, rfl, by simp [World.putObj], fun k hk => absurd hk (by omega)⟩, fun b hb hx => ⟨World.putObj_heap_other (fun e => hx (e ▸ h)), hx⟩, fun _ h => h⟩
theorem RunO.put (hJ : Told J) (h : RunO R g rv J X w S pre true v O cs) {l : Nat} (hl : X l) (h1 : l ≠ g) (h2 : v.ownBlock ≠ some l) (h3 : ¬ O l) (o : Obj) : RunO R g rv J X (w.putObj l o) S pre true v O cs :=
 h.ext hJ (.put hl o) (fun b e => World.putObj_heap_other (by
  rintro rfl
  rcases e with e | e | e
  ·exact h1 e
  ·exact h2 e
  ·exact h3 e)) (fun b e => by simpa [World.putObj] using h.xlt b e)
theorem RunO.push (hJ : Told J) (h : RunO R g rv J X w S pre true v O cs) {t : Tas} {f : Value} (ht : TAt R g rv X w t f) {u w3 : World} {v' : Value} (hu : Below w.heap.size w u) (hgr : u.grownBy w3 v.ownBlock)
  (hown : w3.ownsRow 0 1 1 v' (S.length + 1) (cs ++ [f])) (hv : v'.ownBlock = v.ownBlock ∨ v'.ownBlock = some u.heap.size) :
  Ext X (fun b => X b ∨ v'.ownBlock = some b) w (w3.setCell ⟨g, 1, none⟩ v') ∧ RunO R g rv J (fun b => X b ∨ v'.ownBlock = some b) (w3.setCell ⟨g, 1, none⟩ v') (t :: S) pre true v' O (cs ++ [f]) := by
 have hlt := h.lt hJ
 have hsz : w.heap.size ≤ u.heap.size := hu.size
 have keep : ∀ b, b < w.heap.size → b ≠ g → v.ownBlock ≠ some b → (w3.setCell ⟨g, 1, none⟩ v').heap[b]? = w.heap[b]? := fun b hb h1 h2 =>
  (heap_setCell_other _ _ _ _ h1).trans ((hgr.block b (by omega) (fun e => h2 e.symm)).trans (hu.block b hb))
 have hb0 : Below 0 w (w3.setCell ⟨g, 1, none⟩ v') := ((hu.mono (Nat.zero_le _)).trans ⟨hgr.os, hgr.tape, hgr.output, hgr.size, fun k hk => absurd hk (by omega)⟩).setCell (Nat.zero_le _) _
 have hE : Ext X (fun b => X b ∨ v'.ownBlock = some b) w (w3.setCell ⟨g, 1, none⟩ v') := by
  refine ⟨hb0, fun b hb hx => ⟨keep b hb (fun e => hx (e ▸ h.gX)) (fun e => hx (h.vX b e).1), ?_⟩, fun _ h => .inl h⟩
  rintro (e | e)
  ·exact hx e
  ·rcases hv with hv | hv
   ·exact hx (h.vX b (hv ▸ e)).1
   ·rw [hv] at e; injection e with e; omega
 have hg3 : BoxV 172 w3 g #[ptr R.rb, v] := ((hgr.block g (by have := h.box.lt; omega) (fun e => (h.vX g e.symm).2.1 rfl)).trans (hu.block g h.box.lt)).trans h.box
 have hvg : ∀ b, v'.ownBlock = some b → b ≠ g ∧ ¬ O b := by
  intro b e
  rcases hv with hv | hv
  ·exact (h.vX b (hv ▸ e)).2
  ·rw [hv] at e; injection e with e
   exact ⟨by have := hlt g (.inl rfl); omega, fun o => by have := hlt b (.inr (.inr o)); omega⟩
 refine ⟨hE, ?_⟩
 exact {
  rd := h.rd.ext hE
  gX := .inl h.gX
  box := hg3.put 1 v'
  own := by
   refine ⟨hown.1, ?_⟩
   rcases hown.2 with e | ⟨b, cap, cur, e, h0, h1, h2⟩
   ·exact .inl e
   ·exact .inr ⟨b, cap, cur, e, h0, (heap_setCell_other _ _ _ _ (hvg b (by rw [e]; rfl)).1).trans h1, h2⟩
  vX := fun b hb => ⟨.inr hb, hvg b hb⟩
  ts := by
   rw [List.reverse_append]
   exact ⟨ht.ext hE, h.ts.ext hE⟩
  told := hJ.keep h.told hb0 fun b hb => keep b (hlt b (.inr (.inr hb))) (fun e => h.og (e ▸ hb)) (fun e => (h.vX b e).2.2 hb)
  oX := fun b hb => .inl (h.oX b hb)
  og := h.og
  xlt := by
   rintro b (e | e)
   ·exact Nat.lt_of_lt_of_le (h.xlt b e) hb0.size
   ·exact Nat.lt_of_lt_of_le (hown.lt b e).2 (by simp [World.setCell]) }
end
end Go.Proofs.YteiboobdhjdjkaaGreatDoor.Nai
namespace Go.Proofs.YteiboobdhjdjkaaGreatDoor.Nai
open Go.RowKit
open Cap (Cp cpC BoxV)
@[go_sem] theorem run_store_fn {P : Program} {w : World} {m : Mode} {a : Addr} (f : Fn) (vs ws : Array Value) : (store a (.func f vs ws) m).run P w = stored P w a (.func f vs ws) m := run_store P w a _ m rfl
@[go_sem] theorem run_store_nofn {P : Program} {w : World} {m : Mode} {a : Addr} : (store a .nilFunc m).run P w = stored P w a .nilFunc m := run_store P w a _ m rfl
section
variable {ops : Array Oper} {R : World → Prop} {a : Act} {o : Oper} {x y : Operand} {w : World}
theorem ldPS_y (b j : Nat) (p : Option Addr) (hR : ∀ u, R u → u.cell? ⟨b, j, none⟩ = some (.pointer p)) (ho : o.op = .load 169 x) (hx : a.eval x = .pointer (some ⟨b, j, none⟩)) (hw : Region.wanted o (yielded ops a.tmps) = true) : YieldsIf Tryz.prog ops R o (.pointer p) a := by
 refine Or.inl ⟨hw, fun u h => ?_⟩
 have hc := hR u h
 unfold execOp
 simp only [ho, hx]
 go_simp
theorem ldPN_y (b j : Nat) (p : Option Addr) (hR : ∀ u, R u → u.cell? ⟨b, j, none⟩ = some (.pointer p)) (ho : o.op = .load 129 x) (hx : a.eval x = .pointer (some ⟨b, j, none⟩)) (hw : Region.wanted o (yielded ops a.tmps) = true) : YieldsIf Tryz.prog ops R o (.pointer p) a := by
 refine Or.inl ⟨hw, fun u h => ?_⟩
 have hc := hR u h
 unfold execOp
 simp only [ho, hx]
 go_simp
theorem ldPR_y (b j : Nat) (p : Option Addr) (hR : ∀ u, R u → u.cell? ⟨b, j, none⟩ = some (.pointer p)) (ho : o.op = .load 88 x) (hx : a.eval x = .pointer (some ⟨b, j, none⟩)) (hw : Region.wanted o (yielded ops a.tmps) = true) : YieldsIf Tryz.prog ops R o (.pointer p) a := by
 refine Or.inl ⟨hw, fun u h => ?_⟩
 have hc := hR u h
 unfold execOp
 simp only [ho, hx]
 go_simp
theorem ldPC_y (b j : Nat) (p : Option Addr) (hR : ∀ u, R u → u.cell? ⟨b, j, none⟩ = some (.pointer p)) (ho : o.op = .load 91 x) (hx : a.eval x = .pointer (some ⟨b, j, none⟩)) (hw : Region.wanted o (yielded ops a.tmps) = true) : YieldsIf Tryz.prog ops R o (.pointer p) a := by
 refine Or.inl ⟨hw, fun u h => ?_⟩
 have hc := hR u h
 unfold execOp
 simp only [ho, hx]
 go_simp
theorem ldSN_y (b j : Nat) (A : Option Addr) (n c : Nat) (hR : ∀ u, R u → u.cell? ⟨b, j, none⟩ = some (.slice A n c)) (ho : o.op = .load 22 x) (hx : a.eval x = .pointer (some ⟨b, j, none⟩)) (hw : Region.wanted o (yielded ops a.tmps) = true) : YieldsIf Tryz.prog ops R o (.slice A n c) a := by
 refine Or.inl ⟨hw, fun u h => ?_⟩
 have hc := hR u h
 unfold execOp
 simp only [ho, hx]
 go_simp
theorem ldSI_y (b j : Nat) (A : Option Addr) (n c : Nat) (hR : ∀ u, R u → u.cell? ⟨b, j, none⟩ = some (.slice A n c)) (ho : o.op = .load 123 x) (hx : a.eval x = .pointer (some ⟨b, j, none⟩)) (hw : Region.wanted o (yielded ops a.tmps) = true) : YieldsIf Tryz.prog ops R o (.slice A n c) a := by
 refine Or.inl ⟨hw, fun u h => ?_⟩
 have hc := hR u h
 unfold execOp
 simp only [ho, hx]
 go_simp
theorem ldI_y (b j : Nat) (n : Int) (hR : ∀ u, R u → u.cell? ⟨b, j, none⟩ = some (.int .i64 n)) (ho : o.op = .load 3 x) (hx : a.eval x = .pointer (some ⟨b, j, none⟩)) (hw : Region.wanted o (yielded ops a.tmps) = true) : YieldsIf Tryz.prog ops R o (.int .i64 n) a := by
 refine Or.inl ⟨hw, fun u h => ?_⟩
 have hc := hR u h
 unfold execOp
 simp only [ho, hx]
 go_simp
theorem ldB_y (b j : Nat) (b2 : Bool) (hR : ∀ u, R u → u.cell? ⟨b, j, none⟩ = some (.bool b2)) (ho : o.op = .load 4 x) (hx : a.eval x = .pointer (some ⟨b, j, none⟩)) (hw : Region.wanted o (yielded ops a.tmps) = true) : YieldsIf Tryz.prog ops R o (.bool b2) a := by
 refine Or.inl ⟨hw, fun u h => ?_⟩
 have hc := hR u h
 unfold execOp
 simp only [ho, hx]
 go_simp
theorem ldT_y (b j : Nat) (s : ByteArray) (hR : ∀ u, R u → u.cell? ⟨b, j, none⟩ = some (.string s)) (ho : o.op = .load 9 x) (hx : a.eval x = .pointer (some ⟨b, j, none⟩)) (hw : Region.wanted o (yielded ops a.tmps) = true) : YieldsIf Tryz.prog ops R o (.string s) a := by
 refine Or.inl ⟨hw, fun u h => ?_⟩
 have hc := hR u h
 unfold execOp
 simp only [ho, hx]
 go_simp
theorem ldF_y (b j : Nat) (f : Fn) (vs ws : Array Value) (hR : ∀ u, R u → u.cell? ⟨b, j, none⟩ = some (.func f vs ws)) (ho : o.op = .load 174 x) (hx : a.eval x = .pointer (some ⟨b, j, none⟩)) (hw : Region.wanted o (yielded ops a.tmps) = true) : YieldsIf Tryz.prog ops R o (.func f vs ws) a := by
 refine Or.inl ⟨hw, fun u h => ?_⟩
 have hc := hR u h
 unfold execOp
 simp only [ho, hx]
 go_simp
theorem ldX_y (b : Nat) (z : Int) (q : Nat) (hR : ∀ u, R u → BoxV 93 u b #[.int .i64 z, ptr q]) (ho : o.op = .load 93 x) (hx : a.eval x = .pointer (some ⟨b, 0, none⟩)) (hw : Region.wanted o (yielded ops a.tmps) = true) : YieldsIf Tryz.prog ops R o (.agg #[.int .i64 z, ptr q]) a := by
 refine Or.inl ⟨hw, fun u hu => ?_⟩
 have c0 := (hR u hu).get 0 rfl
 have c1 := (hR u hu).get 1 rfl
 unfold execOp
 simp only [ho, hx]
 go_simp
theorem ixN_y (b n c o2 : Nat) (i : Nat) (hi : i < n) (ho : o.op = .indexAddr 22 x y) (hx : a.eval x = .slice (some ⟨b, o2, none⟩) n c) (hy : a.eval y = .int .i64 (i : Int)) (hw : Region.wanted o (yielded ops a.tmps) = true) : YieldsIf Tryz.prog ops R o (.pointer (some ⟨b, o2 + i * 12, none⟩)) a := by
 refine Or.inl ⟨hw, fun u _ => ?_⟩
 have i0 : (0 : Int) ≤ i := by omega
 have i1 : (i : Int) < n := by omega
 unfold execOp
 simp only [ho, hx, hy]
 go_simp
theorem ldSF_run (b j : Nat) (A : Option Addr) (n c : Nat) (hc : w.cell? ⟨b, j, none⟩ = some (.slice A n c)) (ho : o.op = .load 170 x) (hx : a.eval x = .pointer (some ⟨b, j, none⟩)) : (execOp a.eval o).run Tryz.prog w = .ok (.value (.slice A n c)) w := by
 unfold execOp
 simp only [ho, hx]
 go_simp
theorem stSF_run (g : Nat) (T : TypeId) (p v : Value) (A : Option Addr) (n c : Nat) (hg : BoxV T w g #[p, v]) (ho : o.op = .store 170 x y) (hx : a.eval x = .pointer (some ⟨g, 1, none⟩)) (hy : a.eval y = .slice A n c) : (execOp a.eval o).run Tryz.prog w = .ok .skip (w.setCell ⟨g, 1, none⟩ (.slice A n c)) := by
 have hf := hg.free 1
 have hc := hg.get 1 rfl
 unfold execOp
 simp only [ho, hx, hy]
 simp [go_sem, hf, hc]
theorem append_run {w' : World} {s t : Operand} {T : TypeId} {v v' z : Value} (ho : o.op = .call { callee := .builtin .append, args := #[s, t], argTypes := #[T, T] }) (hs : a.eval s = v) (hx : a.eval t = z) (hr : (Builtin.append_ #[T, T] o.type #[v, z]).run Tryz.prog w = .ok v' w') : (execOp a.eval o).run Tryz.prog w = .ok (.value v') w' := by
 unfold execOp
 simp only [ho, resolve, invoke, builtin, Sem.run_bind, Sem.run_pure, Result.andThen_ok, List.map_toArray, List.map_cons, List.map_nil, hs, hx, hr]
theorem owns_slice {base : Nat} {e : TypeId} {size n : Nat} {v : Value} {xs : List Value} (h : w.ownsRow base e size v n xs) : ∃ A m c, v = .slice A m c := by
 rcases h.2 with ⟨rfl, _⟩ | ⟨b, cap, cur, rfl, _⟩
 ·exact ⟨_, _, _, rfl⟩
 ·exact ⟨_, _, _, rfl⟩
end
theorem infoF0 : (Tryz.prog.info? 1).map (fun i => (i.zero, i.size, i.bytes)) = some (some .nilFunc, 1, 8) := by kernel_rfl
end Go.Proofs.YteiboobdhjdjkaaGreatDoor.Nai
namespace Go.Proofs.YteiboobdhjdjkaaGreatDoor.Nai
open Go.RowKit
open Cap (Cp cpC BoxV)
attribute [local go_sem] Oper.semAt_some
theorem backward_any (s n cap : Nat) (w : World) : Calls Tryz.prog 171 #[.slice (some ⟨s, 0, none⟩) n cap] w fun e w' => e = .returned (.func (.func 194) #[] #[ptr w.heap.size]) ∧ w' = w.alloc (.cells #[.slice (some ⟨s, 0, none⟩) n cap] 170) := by
 go_enter Tryz.func171, Tryz.ntmps171
 go_wp2
 go_ret
 exact ⟨rfl, rfl⟩
def LaterI (R : Rd) (g : Nat) (rv : Value) (J : List Sp → Bool → (Nat → Prop) → World → Prop) (X : Nat → Prop) (w : World) (S T : List Tas) (n : Nat) (pre : List Sp) (O : Nat → Prop) (vb cap : Nat) (i : Nat) (u : World) : Prop :=
 ∃ X' v cs, Ext X X' w u ∧ RunO R g rv J X' u (T.drop (n - i) ++ S) pre true v O cs ∧ BoxI X' u 169 w.heap.size #[ptr g] ∧ BoxI X' u 170 (w.heap.size + 1) #[.slice (some ⟨vb, 0, none⟩) n cap] ∧ X' (w.heap.size + 2) ∧ X' (w.heap.size + 3) ∧ v.ownBlock ≠ some (w.heap.size + 2) ∧ v.ownBlock ≠ some (w.heap.size + 3)
theorem Ts.get {R : Rd} {g : Nat} {rv : Value} {X : Nat → Prop} {w : World} : ∀ {ts : List Tas} {cs : List Value}, Ts R g rv X w ts cs → ∀ (i : Nat) (hi : i < ts.length) (hj : i < cs.length), TAt R g rv X w ts[i] cs[i]
 | _ :: _, _ :: _, h, 0, _, _ => h.1
 | _ :: _, _ :: _, h, i + 1, hi, hj => Ts.get h.2 i (by simpa using hi) (by simpa using hj)
set_option maxRecDepth 100000 in
theorem later_any {R : Rd} {g : Nat} {rv : Value} {J : List Sp → Bool → (Nat → Prop) → World → Prop} (hJ : Told J) {X : Nat → Prop} {w : World} {S : List Tas} {pre : List Sp}
  (h : Run R g rv J X w S pre true) (T : List Tas) (n cap vb : Nat) (vf : Nat → FuncId) (vc : Nat → Array Value) (hT : T.length = n) (hn : n ≤ 1000) (hS : S.length + n ≤ 1000000000)
  (hts : Ts R g rv X w T ((List.range n).map fun j => .func (.func (vf j)) #[] (vc j))) (hv : ∀ j, j < n → w.cell? ⟨vb, j, none⟩ = some (.func (.func (vf j)) #[] (vc j))) (hvX : ¬ X vb) (hvl : vb < w.heap.size) :
  Calls Tryz.prog 137 #[ptr g, .slice (some ⟨vb, 0, none⟩) n cap] w fun e w' => ∃ X', (∃ v, e = .returned v) ∧ Ext X X' w w' ∧ Run R g rv J X' w' (T ++ S) pre true := by
 refine (callsIn_wide (n := 0)).1 ?_
 refine callsIn_of_wp_marks Tryz.func137 rfl trivial ?_ rfl
 simp only [Tryz.ntmps137, List.size_toArray, List.length_cons, List.length_nil, Nat.reduceAdd, Nat.reduceSub, Array.replicate_succ, Array.replicate_zero, List.push_toArray, List.append_toArray, List.nil_append, List.cons_append]
 obtain ⟨v, O, cs, h⟩ := h
 have HB := Lib.hid ((Below.refl w.heap.size w).alloc (Nat.le_refl _) (.cells #[ptr g] 169))
 gi_wp2
 refine ⟨trivial, rfl, (callsIn_wide.2 (backward_any _ _ _ _)).mono ?_⟩
 rintro e w' ⟨rfl, rfl⟩
 rename_i K hK
 refine hK _ _ ?_
 clear hK K
 gi_wp2
 obtain ⟨W0, hW0⟩ : ∃ W0, (w.alloc (.cells #[ptr g] 169)).alloc (.cells #[.slice (some ⟨vb, 0, none⟩) n cap] 170) = W0 := ⟨_, rfl⟩
 have hz : W0.heap.size = w.heap.size + 2 := by rw [← hW0]; simp
 have hb0 : Below w.heap.size w W0 := by rw [← hW0]; exact HB.out.alloc (by simp) _
 have hs0 : BoxV 169 W0 w.heap.size #[ptr g] := by rw [← hW0]; exact (BoxV.new _ _).alloc _
 have hs1 : BoxV 170 W0 (w.heap.size + 1) #[.slice (some ⟨vb, 0, none⟩) n cap] := by rw [← hW0]; have := BoxV.new (T := 170) (w.alloc (.cells #[ptr g] 169)) #[.slice (some ⟨vb, 0, none⟩) n cap]; simpa using this
 rw [hW0, show (w.alloc (.cells #[ptr g] 169)).heap.size = w.heap.size + 1 by simp]
 clear hW0 HB
 have hlt := h.lt hJ
 have sn : ∀ i u o, LaterI R g rv J X w S T n pre O vb cap i u → LaterI R g rv J X w S T n pre O vb cap i (u.putObj (W0.heap.size + 1) o) := by
  rintro i u o ⟨X', v1, cs1, h1, h2, h3, h4, h5, h6, h7, h8⟩
  rw [hz]
  exact ⟨X', v1, cs1, h1.trans (.put h6 o), h2.put hJ h6 (fun e => by have := hlt g (.inl rfl); omega) h8 (fun e => by have := hlt _ (.inr (.inr e)); omega) o, h3.ext (.put h6 o), h4.ext (.put h6 o), h5, h6, h7, h8⟩
 refine range_law (σ := Unit) rfl (enters_of Tryz.func194 (by kernel_rfl) rfl) (fun _ u => LaterI R g rv J X w S T n pre O vb cap n u) (fun _ _ _ => False) (fun _ => sn n) (fun _ _ _ _ h => h) ?_ ?_ (fun _ _ _ h => h.elim)
 ·intro fn
  generalize hrr : recL W0.heap.size fn _ _ _ _ .ready none = rr
  refine (bw_any (W0.heap.size + 1) (w.heap.size + 1) vb n cap hn vf vc (fun i u => RecAt W0.heap.size rr u ∧ LaterI R g rv J X w S T n pre O vb cap i u) ?_ ?_ _ ?_).mono ?_
  ·rintro i u ⟨_, X', v1, cs1, h1, h2, h3, h4, h5, h6, h7, h8⟩
   exact ⟨h4.box.get 0 rfl, fun j hj => (cell_ext h1 hvl hvX j).trans (hv j hj)⟩
  ·rintro i u hi ⟨hr, hL⟩
   subst hrr
   refine yield_mono (round_law rfl (fun u => LaterI R g rv J X w S T n pre O vb cap (i + 1) u) (fun _ _ => False) (sn (i + 1)) (fun _ _ _ h => h) hr ?_) ?_
   ·have Hz := Lib.hid hz
    clear hz
    gi_wp2
    generalize hrb : recL W0.heap.size fn _ _ _ _ LoopState.busy none = rb
    have hL' := sn i u (.loop rb) hL
    have hr' := hr.put rb
    clear hr hL
    revert hL' hr'
    generalize u.putObj (W0.heap.size + 1) _ = u1
    intro hL' hr'
    obtain ⟨X', v1, cs1, h1, h2, h3, h4, h5, h6, h7, h8⟩ := hL'
    have hft := hts
    obtain ⟨F, hF⟩ : ∃ F, F = vf (n - 1 - i) := ⟨_, rfl⟩
    obtain ⟨C, hC⟩ : ∃ C, C = vc (n - 1 - i) := ⟨_, rfl⟩
    rw [← hF, ← hC]
    have HH := Lib.hid (And.intro hF hC)
    clear hF hC
    refine region_in (S := fun u => BoxV 169 u w.heap.size #[ptr g]) (by kernel_rfl) (no_defer (by kernel_rfl)) (by rintro ⟨_, _, h⟩; exact h) ?_
    have hS : BoxV 169 u1.drew w.heap.size #[ptr g] := h3.box
    refine takeAt 0 10 (ptr g) rfl rfl (by kernel_rfl) (by kernel_rfl) (by kernel_rfl) (fun _ _ _ h => h) (ldPS_y w.heap.size 0 _ (fun _ h => h.get 0 rfl) rfl rfl (by rfl)) hS ?_
    simp only [Act.put, sA, s0, sS]
    refine takeAt 1 11 (ptr g) rfl rfl (by kernel_rfl) (by kernel_rfl) (by kernel_rfl) (fun _ _ _ h => h) (ldPS_y w.heap.size 0 _ (fun _ h => h.get 0 rfl) rfl rfl (by rfl)) hS ?_
    simp only [Act.put, sA, s0, sS]
    refine takeAt 2 12 (ptr g) rfl rfl (by kernel_rfl) (by kernel_rfl) (by kernel_rfl) (fun _ _ _ h => h) (yields (by rfl) (fun w => by kernel_rfl)) hS ?_
    simp only [Act.put, sA, s0, sS]
    refine takeAt 3 13 (.pointer (some ⟨g, 1, none⟩)) rfl rfl (by kernel_rfl) (by kernel_rfl) (by kernel_rfl) (fun _ _ _ h => h) (yields (by rfl) (fun w => by kernel_rfl)) hS ?_
    simp only [Act.put, sA, s0, sS]
    refine takeAt 5 15 (.func (.func F) #[] C) rfl rfl (by kernel_rfl) (by kernel_rfl) (by kernel_rfl) (fun _ _ _ h => h) (yields (by rfl) (fun w => by kernel_rfl)) hS ?_
    simp only [Act.put, sA, s0, sS]
    obtain ⟨A1, n1, c1, rfl⟩ := owns_slice h2.own
    have hsz : u1.drew.heap.size = u1.heap.size := rfl
    obtain ⟨u2, hu2⟩ : ∃ u2, u1.drew.alloc (.cells #[.func (.func F) #[] C] 1) = u2 := ⟨_, rfl⟩
    have hB2 : Below u1.heap.size u1 u2 := by rw [← hu2]; exact (below_drewN (Below.refl _ u1) 1).alloc (Nat.le_refl _) _
    have hO2 : u2.ownsRow 0 1 1 (.slice A1 n1 c1) (T.drop (n - i) ++ S).length cs1 := (h2.call hJ hB2).own
    obtain ⟨ip, hip, hp1, hp2, hp3⟩ := info_parts infoF0
    obtain ⟨v', w3, hrun, hown, hgr, -, hv'⟩ := run_append_own_at (P := Tryz.prog) (w := u2) 0 170 170 1 ip _ 1 8 Tryz.underlying170 hip hp1 hp2 hp3 rfl (by decide) (.slice A1 n1 c1) _ cs1 hO2 ⟨u1.heap.size, 0, none⟩ 1 1 [.func (.func F) #[] C] rfl
     (by
      intro j u hj
      cases j with
      | zero => simp at hj; subst hj; rw [← hu2]; exact (BoxV.new (T := 1) u1.drew #[.func (.func F) #[] C]).get 0 rfl
      | succ j => simp at hj) (by intro v hv; simp at hv; subst hv; rfl) (by unfold maxLen; simp; omega) (by simp; omega) (Nat.zero_le _)
    obtain ⟨A2, n2, c2, rfl⟩ := owns_slice hown
    obtain ⟨hE, hR⟩ := h2.push hJ (t := T[n - 1 - i]'(by omega)) (f := .func (.func F) #[] C) (by
      have ht := hft.get (n - 1 - i) (by omega) (by simp; omega)
      simp only [List.getElem_map, List.getElem_range, ← HH.out.1, ← HH.out.2] at ht
      exact ht.ext h1) hB2 hgr (by simpa using hown) hv'
    have hg3 : BoxV 172 w3 g #[ptr R.rb, .slice A1 n1 c1] := (hgr.block g (Nat.lt_of_lt_of_le h2.box.lt hB2.size) (fun e => (h2.vX g e.symm).2.1 rfl)).trans (h2.box.below hB2 h2.box.lt)
    have hS2 : BoxV 169 u2 w.heap.size #[ptr g] := h3.box.below hB2 h3.box.lt
    have hS3 : BoxV 169 w3 w.heap.size #[ptr g] := (hgr.block _ (Nat.lt_of_lt_of_le h3.box.lt hB2.size) (fun e => h3.not (h2.vX _ e.symm).1)).trans hS2
    have hS4 : BoxV 169 (w3.setCell ⟨g, 1, none⟩ (.slice A2 n2 c2)) w.heap.size #[ptr g] := (h3.ext hE).box
    have hfar : ∀ b o, u1.heap[b]? = some o → b ≠ g → Value.ownBlock (.slice A1 n1 c1) ≠ some b → (w3.setCell ⟨g, 1, none⟩ (.slice A2 n2 c2)).heap[b]? = some o := fun b o hb h1 h2 => by
     have hbl := (Array.getElem?_eq_some_iff.1 hb).1
     exact (heap_setCell_other _ _ _ _ h1).trans ((hgr.block b (Nat.lt_of_lt_of_le hbl hB2.size) (fun e => h2 e.symm)).trans ((hB2.block b hbl).trans hb))
    have hgw := hlt g (.inl rfl)
    have hrec : RecAt W0.heap.size rb (w3.setCell ⟨g, 1, none⟩ (.slice A2 n2 c2)) := by
     have hz := Hz.out
     refine ⟨hfar _ _ hr'.lp (by omega) (by rw [hz]; exact h8), hfar _ _ hr'.dfr (by omega) (by rw [hz]; exact h7)⟩
    have hfin : LaterI R g rv J X w S T n pre O vb cap (i + 1) (w3.setCell ⟨g, 1, none⟩ (.slice A2 n2 c2)) := by
     have hd : T.drop (n - (i + 1)) = T[n - 1 - i]'(by omega) :: T.drop (n - i) := by
      rw [show n - (i + 1) = n - 1 - i by omega, List.drop_eq_getElem_cons (by omega), show n - 1 - i + 1 = n - i by omega]
     have hz := Hz.out
     have hl2 : W0.heap.size + 1 < u2.heap.size := Nat.lt_of_lt_of_le (Array.getElem?_eq_some_iff.1 hr'.lp).1 hB2.size
     refine ⟨_, _, _, h1.trans hE, by rw [hd]; exact hR, h3.ext hE, h4.ext hE, .inl h5, .inl h6, fun e => ?_, fun e => ?_⟩
     ·rcases hv' with q | q
      ·exact h7 (q ▸ e)
      ·rw [q] at e; injection e with e; omega
     ·rcases hv' with q | q
      ·exact h8 (q ▸ e)
      ·rw [q] at e; injection e with e; omega
    refine wpAnyH_ready (rs := [4, 6]) (by kernel_rfl) (by simp) (AllReadyH.cons rfl (valStep 4 14 (.slice A1 n1 c1) u1.drew rfl (by rfl) (ldSF_run g 1 A1 n1 c1 (h2.box.get 1 rfl) rfl rfl) hS ?_) (AllReadyH.cons rfl (valStep 6 16 (.slice (some ⟨u1.heap.size, 0, none⟩) 1 1) u2 rfl (by rfl) (by rw [← hu2]; kernel_rfl) hS2 ?_) AllReadyH.nil))
    ·simp only [Act.put, sA, s0, sS]
     refine valAt 6 16 (.slice (some ⟨u1.heap.size, 0, none⟩) 1 1) u2 rfl rfl (by kernel_rfl) (by rfl) (by rw [← hu2]; kernel_rfl) hS2 ?_
     simp only [Act.put, sA, s0, sS]
     refine valAt 7 17 (.slice A2 n2 c2) w3 rfl rfl (by kernel_rfl) (by rfl) (append_run rfl rfl rfl hrun) hS3 ?_
     simp only [Act.put, sA, s0, sS]
     refine takeAt 8 18 (ptr g) rfl rfl (by kernel_rfl) (by kernel_rfl) (by kernel_rfl) (fun _ _ _ h => h) (yields (by rfl) (fun w => by kernel_rfl)) hS3 ?_
     simp only [Act.put, sA, s0, sS]
     refine takeAt 9 19 (.pointer (some ⟨g, 1, none⟩)) rfl rfl (by kernel_rfl) (by kernel_rfl) (by kernel_rfl) (fun _ _ _ h => h) (yields (by rfl) (fun w => by kernel_rfl)) hS3 ?_
     simp only [Act.put, sA, s0, sS]
     refine Cap.skipAt 10 (w3.setCell ⟨g, 1, none⟩ (.slice A2 n2 c2)) rfl rfl (by kernel_rfl) (by rfl) (stSF_run g _ _ _ A2 n2 c2 hg3 rfl rfl rfl) hS4 ?_
     refine wpAnyH_done (by kernel_rfl) ?_ _
     exact ⟨by rw [hrb]; exact hrec, hfin⟩
    ·simp only [Act.put, sA, s0, sS]
     refine valAt 4 14 (.slice A1 n1 c1) u2 rfl rfl (by kernel_rfl) (by rfl) (ldSF_run g 1 A1 n1 c1 ((h2.box.below hB2 h2.box.lt).get 1 rfl) rfl rfl) hS2 ?_
     simp only [Act.put, sA, s0, sS]
     refine valAt 7 17 (.slice A2 n2 c2) w3 rfl rfl (by kernel_rfl) (by rfl) (append_run rfl rfl rfl hrun) hS3 ?_
     simp only [Act.put, sA, s0, sS]
     refine takeAt 8 18 (ptr g) rfl rfl (by kernel_rfl) (by kernel_rfl) (by kernel_rfl) (fun _ _ _ h => h) (yields (by rfl) (fun w => by kernel_rfl)) hS3 ?_
     simp only [Act.put, sA, s0, sS]
     refine takeAt 9 19 (.pointer (some ⟨g, 1, none⟩)) rfl rfl (by kernel_rfl) (by kernel_rfl) (by kernel_rfl) (fun _ _ _ h => h) (yields (by rfl) (fun w => by kernel_rfl)) hS3 ?_
     simp only [Act.put, sA, s0, sS]
     refine Cap.skipAt 10 (w3.setCell ⟨g, 1, none⟩ (.slice A2 n2 c2)) rfl rfl (by kernel_rfl) (by rfl) (stSF_run g _ _ _ A2 n2 c2 hg3 rfl rfl rfl) hS4 ?_
     refine wpAnyH_done (by kernel_rfl) ?_ _
     exact ⟨by rw [hrb]; exact hrec, hfin⟩
   ·rintro e u' (⟨rfl, k1, k2⟩ | ⟨c, _, _, k⟩)
    ·exact ⟨rfl, k1, k2⟩
    ·exact k.elim
  ·obtain ⟨W1, hW1⟩ : ∃ W1, (W0.alloc (.deferred (some []))).alloc (.loop rr) = W1 := ⟨_, rfl⟩
   have hB1 : Below w.heap.size w W1 := by rw [← hW1]; exact (hb0.alloc (by omega) _).alloc (by simp; omega) _
   have hB0 : Below W0.heap.size W0 W1 := by rw [← hW1]; exact ((Below.refl _ W0).alloc (Nat.le_refl _) _).alloc (by simp) _
   have hr1 : RecAt W0.heap.size rr W1 := by
    refine ⟨?_, ?_⟩
    ·rw [← hW1]; have := World.alloc_heap_new (W0.alloc (.deferred (some []))) (.loop rr); rwa [World.size_alloc] at this
    ·rw [← hW1]; exact (Below.heap_alloc _ _ _ (by simp)).trans (World.alloc_heap_new W0 _)
   rw [hW1]
   refine ⟨hr1, ?_⟩
   have hsz1 : W1.heap.size = w.heap.size + 4 := by rw [← hW1]; simp [hz]
   have hX : Ext X (fun b => X b ∨ (b = w.heap.size + 2 ∨ b = w.heap.size + 3)) w W1 :=
    (Ext.more X (fun b => b = w.heap.size + 2 ∨ b = w.heap.size + 3) w (fun b hb => .inl (by omega))).trans (.call hB1)
   refine ⟨_, v, cs, hX, ?_, ⟨hs0.below hB0 (by omega), ?_⟩, ⟨hs1.below hB0 (by omega), ?_⟩, .inr (.inl rfl), .inr (.inr rfl), fun e => by have := hlt _ (.inr (.inl e)); omega, fun e => by have := hlt _ (.inr (.inl e)); omega⟩
   ·rw [Nat.sub_zero, List.drop_of_length_le (by omega), List.nil_append]
    refine h.ext hJ hX (fun b e => hB1.block b (hlt b e)) ?_
    rintro b (e | e)
    ·have := h.xlt b e; omega
    ·omega
   ·rintro (e | e)
    ·have := h.xlt _ e; omega
    ·omega
   ·rintro (e | e)
    ·have := h.xlt _ e; omega
    ·omega
  ·rintro e u ⟨h1, h2, h3⟩
   exact ⟨h1, .inl ⟨(), h2, h3⟩⟩
 ·rintro _ u ⟨X', v1, cs1, h1, h2, h3, h4, h5, h6, h7, h8⟩ hd
  rw [Nat.sub_self, List.drop_zero] at h2
  rw [hz] at hd
  rw [hz]
  refine ⟨by simp, .inl ⟨_, _, rfl, run_takeDeferred hd, ?_⟩⟩
  refine ⟨_, results_none rfl _ _ _, X', ⟨_, rfl⟩, h1.trans (.put h5 _), v1, O, cs1, h2.put hJ h5 (fun e => by have := hlt g (.inl rfl); omega) h7 (fun e => by have := hlt _ (.inr (.inr e)); omega) _⟩
end Go.Proofs.YteiboobdhjdjkaaGreatDoor.Nai
namespace Go.Proofs.YteiboobdhjdjkaaGreatDoor.Nai
open Go.RowKit
open Ast (Nd At12 NodesAt kidsZ)
open Cap (Cp withZ cpC BoxV)
abbrev fnV (f : FuncId) (cs : Array Value) : Value := .func (.func f) #[] cs
abbrev Big : Nat := 1000000000
def KonOk (R : Rd) (g : Nat) (rv : Value) (J : List Sp → Bool → (Nat → Prop) → World → Prop) (k : Kon) : Prop :=
 ∀ (X : Nat → Prop) (w : World) (S : List Tas) (pre : List Sp) (y : Sp) (q : Nat) (f : FuncId) (cs : Array Value), BoxI X w 44 q (cpC y.2) → y.1 ≤ R.s.size → KAt R g rv X w k (fnV f cs) → Run R g rv J X w S pre true →
   S.length + (kE R.s k y).length ≤ Big → Calls Tryz.prog f (#[spV y q] ++ cs) w (Does R g rv J X w S pre (kE R.s k y))
def TellOk (R : Rd) (g : Nat) (rv : Value) (J : List Sp → Bool → (Nat → Prop) → World → Prop) (r : Re) (k : Kon) : Prop :=
 ∀ (X : Nat → Prop) (w : World) (S : List Tas) (pre : List Sp) (y : Sp) (q b o : Nat) (f : FuncId) (cs : Array Value), b < w.heap.size → ¬ X b → At12 w b o r.root → BoxI X w 44 q (cpC y.2) → y.1 ≤ R.s.size → KAt R g rv X w k (fnV f cs) → Run R g rv J X w S pre true →
   S.length + (evB (outsE R.s r y) (kE R.s k)).length ≤ Big → Calls Tryz.prog 99 #[ptr g, .pointer (some ⟨b, o, none⟩), spV y q, fnV f cs] w (Does R g rv J X w S pre (evB (outsE R.s r y) (kE R.s k)))
def Ent (f : FuncId) : Prop := ∀ args w, (callFunc f args).run Tryz.prog w = .ok (.enter f args) w
theorem KAt.form {R : Rd} {g : Nat} {rv : Value} (hrv : ∃ f cs, rv = fnV f cs ∧ Ent f) {X : Nat → Prop} {w : World} : ∀ {k : Kon} {v : Value}, KAt R g rv X w k v → ∃ f cs, v = fnV f cs ∧ Ent f
 | .root, v, h => by rw [show v = rv from h]; exact hrv
 | .cat _ _, _, ⟨_, _, _, _, _, h, _⟩ => ⟨_, _, h, enters_of Tryz.func136 (by kernel_rfl) rfl⟩
 | .grp _ _ _, _, ⟨_, _, _, _, _, _, h, _⟩ => ⟨_, _, h, enters_of Tryz.func139 (by kernel_rfl) rfl⟩
 | .turn _ _ _ _ _, _, ⟨_, _, _, _, _, _, h, _⟩ => ⟨_, _, h, enters_of Tryz.func174 (by kernel_rfl) rfl⟩
theorem TAt.form {R : Rd} {g : Nat} {rv : Value} {X : Nat → Prop} {w : World} : ∀ {t : Tas} {v : Value}, TAt R g rv X w t v → ∃ f cs, v = fnV f cs ∧ Ent f
 | .tell _ _ _, _, ⟨_, _, _, _, _, _, h, _⟩ => ⟨_, _, h, enters_of Tryz.func138 (by kernel_rfl) rfl⟩
 | .on _ _ _ _ _, _, ⟨_, _, _, _, _, _, h, _⟩ => ⟨_, _, h, enters_of Tryz.func173 (by kernel_rfl) rfl⟩
 | .fin _ _, _, ⟨_, _, _, h, _⟩ => ⟨_, _, h, enters_of Tryz.func175 (by kernel_rfl) rfl⟩
section
variable {R : Rd} {g : Nat} {rv : Value} {J : List Sp → Bool → (Nat → Prop) → World → Prop} {X : Nat → Prop} {w w' : World} {S : List Tas} {pre : List Sp}
theorem Does.before {E : Ev} {e : Ending} (hb : Below w.heap.size w w') {u : World} (h : Does R g rv J X w' S pre E e u) : Does R g rv J X w S pre E e u := by
 obtain ⟨X', T, o, m, h1, h2, h3⟩ := h
 exact ⟨X', T, o, m, h1, (Ext.call hb).trans h2, h3⟩
theorem Does.behind {E E' : Ev} {T : List Tas} {Y : Nat → Prop} {u : World} {e : Ending} (k : Ext X Y w u) {u' : World} (hd : Does R g rv J Y u (T ++ S) pre E e u') (hE : E' = E ++ sE R.s T) : Does R g rv J X w S pre E' e u' := by
 obtain ⟨X', T', o, m, h1, h2, h3, h4, h5⟩ := hd
 refine ⟨X', T' ++ T, o, m, h1, k.trans h2, by rw [List.append_assoc]; exact h3, h4, ?_⟩
 rw [hE, h5, sE_app, List.append_assoc]
structure TBx (R : Rd) (g bs bn bx bt b o q : Nat) (x : Nd) (y : Sp) (tv : Value) (X : Nat → Prop) (u : World) : Prop where
 sb : BoxI X u 169 bs #[ptr g]
 nb : BoxI X u 129 bn #[.pointer (some ⟨b, o, none⟩)]
 xb : BoxI X u 93 bx #[.int .i64 (y.1 : Int), ptr q]
 tb : BoxI X u 174 bt #[tv]
 cb : BoxI X u 44 q (cpC y.2)
 nl : b < u.heap.size
 nX : ¬ X b
 nd : At12 u b o x
 rd : RdAt R X u
 gc : u.cell? ⟨g, 0, none⟩ = some (ptr R.rb)
theorem TBx.ext {bs bn bx bt b o q : Nat} {x : Nd} {y : Sp} {tv : Value} {Y : Nat → Prop} {u u' : World} (h : TBx R g bs bn bx bt b o q x y tv X u) (k : Ext X Y u u') (hg : u'.cell? ⟨g, 0, none⟩ = some (ptr R.rb)) : TBx R g bs bn bx bt b o q x y tv Y u' where
 sb := h.sb.ext k
 nb := h.nb.ext k
 xb := h.xb.ext k
 tb := h.tb.ext k
 cb := h.cb.ext k
 nl := Nat.lt_of_lt_of_le h.nl k.below.size
 nX := (k.keep _ h.nl h.nX).2
 nd := h.nd.keep fun j => cell_ext k h.nl h.nX j
 rd := h.rd.ext k
 gc := hg
def TBs (R : Rd) (g bs bn bx bt b o q : Nat) (x : Nd) (y : Sp) (tv : Value) (u : World) : Prop := ∃ X, TBx R g bs bn bx bt b o q x y tv X u
variable {bs bn bx bt b o q : Nat} {x : Nd} {y : Sp} {tv : Value} {u : World}
theorem tbs_s (h : TBs R g bs bn bx bt b o q x y tv u) : u.cell? ⟨bs, 0, none⟩ = some (ptr g) := by obtain ⟨_, h⟩ := h; exact h.sb.box.get 0 rfl
theorem tbs_n (h : TBs R g bs bn bx bt b o q x y tv u) : u.cell? ⟨bn, 0, none⟩ = some (.pointer (some ⟨b, o, none⟩)) := by obtain ⟨_, h⟩ := h; exact h.nb.box.get 0 rfl
theorem tbs_x (h : TBs R g bs bn bx bt b o q x y tv u) : BoxV 93 u bx #[.int .i64 (y.1 : Int), ptr q] := by obtain ⟨_, h⟩ := h; exact h.xb.box
theorem tbs_t (h : TBs R g bs bn bx bt b o q x y tv u) : u.cell? ⟨bt, 0, none⟩ = some tv := by obtain ⟨_, h⟩ := h; exact h.tb.box.get 0 rfl
theorem tbs_g (h : TBs R g bs bn bx bt b o q x y tv u) : u.cell? ⟨g, 0, none⟩ = some (ptr R.rb) := by obtain ⟨_, h⟩ := h; exact h.gc
theorem tbs_r (h : TBs R g bs bn bx bt b o q x y tv u) : u.cell? ⟨R.rb, 0, none⟩ = some (.slice (some ⟨R.nb, R.no, none⟩) R.n R.cap) := by obtain ⟨_, h⟩ := h; exact h.rd.box.box.get 0 rfl
theorem tbs_c (h : TBs R g bs bn bx bt b o q x y tv u) (j : Nat) (v : Value) (hj : ∀ u', At12 u' b o x → u'.cell? ⟨b, o + j, none⟩ = some v) : u.cell? ⟨b, o + j, none⟩ = some v := by obtain ⟨_, h⟩ := h; exact hj _ h.nd
theorem Run.cell0 {m : Bool} (h : Run R g rv J X w S pre m) : w.cell? ⟨g, 0, none⟩ = some (ptr R.rb) := by obtain ⟨_, _, _, h⟩ := h; exact h.box.get 0 rfl
theorem Run.rd {m : Bool} (h : Run R g rv J X w S pre m) : RdAt R X w := by obtain ⟨_, _, _, h⟩ := h; exact h.rd
theorem Run.xlt {m : Bool} (h : Run R g rv J X w S pre m) : ∀ b, X b → b < w.heap.size := by obtain ⟨_, _, _, h⟩ := h; exact h.xlt
theorem TBx.nbox (h : TBx R g bs bn bx bt b o q x y tv X u) : NBox X u bn x := ⟨_, h.nb, b, o, rfl, h.nl, h.nX, h.nd⟩
theorem TBx.xbox (h : TBx R g bs bn bx bt b o q x y tv X u) : XBox X u bx y := ⟨q, h.xb, h.cb⟩
theorem BoxI.new (hx : ∀ b, X b → b < w.heap.size) (T : TypeId) (cs : Array Value) : BoxI X (w.alloc (.cells cs T)) T w.heap.size cs := ⟨BoxV.new _ _, fun e => by have := hx _ e; omega⟩
theorem TBx.new (h : Run R g rv J X w S pre true) (hJ : Told J) (hb : b < w.heap.size) (hX : ¬ X b) (hn : At12 w b o x) (hc : BoxI X w 44 q (cpC y.2)) :
  TBx R g w.heap.size (w.heap.size + 1) (w.heap.size + 1 + 1) (w.heap.size + 1 + 1 + 1) b o q x y tv X ((((w.alloc (.cells #[ptr g] 169)).alloc (.cells #[.pointer (some ⟨b, o, none⟩)] 129)).alloc (.cells #[.int .i64 (y.1 : Int), ptr q] 93)).alloc (.cells #[tv] 174)) := by
 have hx := h.xlt
 have hB : Below w.heap.size w ((((w.alloc (.cells #[ptr g] 169)).alloc (.cells #[.pointer (some ⟨b, o, none⟩)] 129)).alloc (.cells #[.int .i64 (y.1 : Int), ptr q] 93)).alloc (.cells #[tv] 174)) := by go_grown
 have hE := Ext.call (X := X) hB
 have far : ∀ k, ¬ X (w.heap.size + k) := fun k e => by have := hx _ e; omega
 have hR := h.call hJ hB
 exact {
  sb := ⟨(((BoxV.new _ _).alloc _).alloc _).alloc _, far 0⟩
  nb := ⟨by have := BoxV.new (T := 129) (w.alloc (.cells #[ptr g] 169)) #[.pointer (some ⟨b, o, none⟩)]; rw [World.size_alloc] at this; exact (this.alloc _).alloc _, far 1⟩
  xb := ⟨by have := BoxV.new (T := 93) ((w.alloc (.cells #[ptr g] 169)).alloc (.cells #[.pointer (some ⟨b, o, none⟩)] 129)) #[.int .i64 (y.1 : Int), ptr q]; rw [World.size_alloc, World.size_alloc] at this; exact this.alloc _, far 2⟩
  tb := ⟨by have := BoxV.new (T := 174) (((w.alloc (.cells #[ptr g] 169)).alloc (.cells #[.pointer (some ⟨b, o, none⟩)] 129)).alloc (.cells #[.int .i64 (y.1 : Int), ptr q] 93)) #[tv]; rw [World.size_alloc, World.size_alloc, World.size_alloc] at this; exact this, far 3⟩
  cb := hc.ext hE
  nl := Nat.lt_of_lt_of_le hb hB.size
  nX := hX
  nd := hn.keep fun j => cell_ext hE hb hX j
  rd := hR.rd
  gc := hR.cell0 }
end
end Go.Proofs.YteiboobdhjdjkaaGreatDoor.Nai
namespace Go.Proofs.YteiboobdhjdjkaaGreatDoor.Nai
open Go.RowKit
open Ast (Nd At12 NodesAt kidsZ)
open Cap (Cp withZ cpC BoxV)
set_option maxRecDepth 100000 in
set_option maxHeartbeats 400000 in
theorem tell_cat {R : Rd} {g : Nat} {rv : Value} {J : List Sp → Bool → (Nat → Prop) → World → Prop} (hJ : Told J) {x : Nd} {ra rb2 : Re} {k : Kon} (hk : x.k = 8) (hok : (Re.two x ra rb2).ok R) (hl : (Re.two x ra rb2).lite R.s.size) (hA : TellOk R g rv J ra (.cat rb2 k)) : TellOk R g rv J (.two x ra rb2) k := by
 intro X w S pre y q b o f cs hb hX hn hc hy hv hr hbig
 obtain ⟨-, ⟨i, hi, hi1, hi2⟩, hia, hib, hib2⟩ := hok.is
 have hE : evB (outsE R.s (.two x ra rb2) y) (kE R.s k) = evB (outsE R.s ra y) (kE R.s (.cat rb2 k)) := by
  rw [show outsE R.s (.two x ra rb2) y = evB (outsE R.s ra y) (outsE R.s rb2) by rw [outsE, if_pos hk], evB_assoc]; rfl
 rw [hE] at hbig ⊢
 have HI := Lib.hid hi1
 have HT := TBx.new (tv := fnV f cs) hr hJ hb hX hn hc
 have HT2 := Lib.hid HT
 have hk8 := HT.nd.1
 rw [show (Re.two x ra rb2).root = x from rfl, hk] at hk8
 clear HT hn
 go_enter Tryz.func99, Tryz.ntmps99
 go_wp2_with fail
 obtain ⟨W1, hW1⟩ : ∃ W1, ((((w.alloc (.cells #[ptr g] 169)).alloc (.cells #[.pointer (some ⟨b, o, none⟩)] 129)).alloc (.cells #[.int .i64 (y.1 : Int), ptr q] 93)).alloc (.cells #[fnV f cs] 174)) = W1 := ⟨_, rfl⟩
 have hB1 : Below w.heap.size w W1 := by rw [← hW1]; go_grown
 have HT := HT2.out
 rw [hW1] at HT ⊢
 have HR := hr.call hJ hB1
 have HK := hv.ext (Ext.call (X := X) hB1)
 clear hk8 hW1 HT2
 have hBd : Below W1.heap.size W1 W1.drew := below_drewN (Below.refl _ _) 1
 have HD := HT.ext (Ext.call hBd) HT.gc
 have HRd := HR.call hJ hBd
 have hS : TBs R g w.heap.size (w.heap.size + 1) (w.heap.size + 1 + 1) (w.heap.size + 1 + 1 + 1) b o q x y (fnV f cs) W1.drew := ⟨_, HD⟩
 refine wp_region_held (S := fun u => TBs R g w.heap.size (w.heap.size + 1) (w.heap.size + 1 + 1) (w.heap.size + 1 + 1 + 1) b o q x y (fnV f cs) u) (by kernel_rfl) ?_
 change wpAnyH _ _ _ _ _ _ _ _ W1.drew
 refine takeAt 0 30 (.pointer (some ⟨g, 0, none⟩)) rfl rfl (by kernel_rfl) (by kernel_rfl) (by kernel_rfl) (fun _ _ _ h => h) (ldPS_y w.heap.size 0 _ (fun _ h => tbs_s h) rfl rfl (by rfl)) hS ?_
 simp only [Act.put, sA, s0, sS]
 refine takeAt 1 31 (.pointer (some ⟨g, 0, none⟩)) rfl rfl (by kernel_rfl) (by kernel_rfl) (by kernel_rfl) (fun _ _ _ h => h) (ldPS_y w.heap.size 0 _ (fun _ h => tbs_s h) rfl rfl (by rfl)) hS ?_
 simp only [Act.put, sA, s0, sS]
 refine takeAt 2 32 (.pointer (some ⟨g, 0, none⟩)) rfl rfl (by kernel_rfl) (by kernel_rfl) (by kernel_rfl) (fun _ _ _ h => h) (yields (by rfl) (fun w => by kernel_rfl)) hS ?_
 simp only [Act.put, sA, s0, sS]
 refine takeAt 3 33 (.pointer (some ⟨g, 0, none⟩)) rfl rfl (by kernel_rfl) (by kernel_rfl) (by kernel_rfl) (fun _ _ _ h => h) (yields (by rfl) (fun w => by kernel_rfl)) hS ?_
 simp only [Act.put, sA, s0, sS]
 refine takeAt 4 34 (.pointer (some ⟨R.rb, 0, none⟩)) rfl rfl (by kernel_rfl) (by kernel_rfl) (by kernel_rfl) (fun _ _ _ h => h) (ldPR_y g 0 _ (fun _ h => tbs_g h) rfl rfl (by rfl)) hS ?_
 simp only [Act.put, sA, s0, sS]
 refine takeAt 5 35 (.pointer (some ⟨R.rb, 0, none⟩)) rfl rfl (by kernel_rfl) (by kernel_rfl) (by kernel_rfl) (fun _ _ _ h => h) (yields (by rfl) (fun w => by kernel_rfl)) hS ?_
 simp only [Act.put, sA, s0, sS]
 refine takeAt 6 36 (.pointer (some ⟨R.rb, 0, none⟩)) rfl rfl (by kernel_rfl) (by kernel_rfl) (by kernel_rfl) (fun _ _ _ h => h) (yields (by rfl) (fun w => by kernel_rfl)) hS ?_
 simp only [Act.put, sA, s0, sS]
 refine takeAt 7 37 (.slice (some ⟨R.nb, R.no, none⟩) R.n R.cap) rfl rfl (by kernel_rfl) (by kernel_rfl) (by kernel_rfl) (fun _ _ _ h => h) (ldSN_y R.rb 0 _ _ _ (fun _ h => tbs_r h) rfl rfl (by rfl)) hS ?_
 simp only [Act.put, sA, s0, sS]
 refine takeAt 8 38 (.pointer (some ⟨b, o, none⟩)) rfl rfl (by kernel_rfl) (by kernel_rfl) (by kernel_rfl) (fun _ _ _ h => h) (ldPN_y (w.heap.size + 1) 0 _ (fun _ h => tbs_n h) rfl rfl (by rfl)) hS ?_
 simp only [Act.put, sA, s0, sS]
 refine takeAt 9 39 (.pointer (some ⟨b, o, none⟩)) rfl rfl (by kernel_rfl) (by kernel_rfl) (by kernel_rfl) (fun _ _ _ h => h) (yields (by rfl) (fun w => by kernel_rfl)) hS ?_
 simp only [Act.put, sA, s0, sS]
 refine takeAt 10 40 (.pointer (some ⟨b, o + 1, none⟩)) rfl rfl (by kernel_rfl) (by kernel_rfl) (by kernel_rfl) (fun _ _ _ h => h) (yields (by rfl) (fun w => by kernel_rfl)) hS ?_
 simp only [Act.put, sA, s0, sS]
 refine takeAt 11 41 (.int .i64 (i : Int)) rfl rfl (by kernel_rfl) (by kernel_rfl) (by kernel_rfl) (fun _ _ _ h => h) (ldI_y b (o + 1) _ (fun _ h => tbs_c h 1 _ (fun _ h => by rw [h.2.1, HI.out])) rfl rfl (by rfl)) hS ?_
 simp only [Act.put, sA, s0, sS]
 refine takeAt 12 42 (.pointer (some ⟨R.nb, R.no + i * 12, none⟩)) rfl rfl (by kernel_rfl) (by kernel_rfl) (by kernel_rfl) (fun _ _ _ h => h) (ixN_y R.nb R.n R.cap R.no i hi rfl rfl rfl (by rfl)) hS ?_
 simp only [Act.put, sA, s0, sS]
 refine takeAt 13 43 (.agg #[.int .i64 (y.1 : Int), .pointer (some ⟨q, 0, none⟩)]) rfl rfl (by kernel_rfl) (by kernel_rfl) (by kernel_rfl) (fun _ _ _ h => h) (ldX_y (w.heap.size + 1 + 1) _ _ (fun _ h => tbs_x h) rfl rfl (by rfl)) hS ?_
 simp only [Act.put, sA, s0, sS]
 refine takeAt 14 44 (.func (.func 136) #[] #[ptr w.heap.size, ptr (w.heap.size + 1), ptr (w.heap.size + 1 + 1 + 1)]) rfl rfl (by kernel_rfl) (by kernel_rfl) (by kernel_rfl) (fun _ _ _ h => h) (yields (by rfl) (fun w => by kernel_rfl)) hS ?_
 simp only [Act.put, sA, s0, sS]
 refine callAt 15 45 rfl rfl (by kernel_rfl) (by rfl) (by kernel_rfl) (hA _ W1.drew S pre y q R.nb (R.no + i * 12) 136 #[ptr w.heap.size, ptr (w.heap.size + 1), ptr (w.heap.size + 1 + 1 + 1)] HD.rd.nod.1 HD.rd.nodX (by rw [← hi2]; exact HD.rd.nod.2 i hi) HD.cb hy ?_ HRd hbig) ?_
 ·exact ⟨_, _, _, x, fnV f cs, rfl, HD.sb, HD.nbox, hib, ⟨hib2, hok.fine.2, by have := hok.sz; simp only [Re.sz] at this; omega⟩, hl.2.1, HD.tb, HK.ext (Ext.call hBd)⟩
 ·rintro e w' hD
  obtain ⟨X', T, o2, m, ⟨z, rfl⟩, hE', hR', h4, h5⟩ := hD
  refine ⟨_, rfl, ⟨X', HD.ext hE' hR'.cell0⟩, ?_⟩
  simp only [Act.put, sA, s0, sS]
  refine wpAnyH_done (by kernel_rfl) ?_ _
  clear hA hS
  go_wp2_with fail
  go_end0
  exact ⟨X', T, o2, m, ⟨_, rfl⟩, ((Ext.call hB1).trans (Ext.call hBd)).trans hE', hR', h4, h5⟩
set_option maxRecDepth 100000 in
set_option maxHeartbeats 400000 in
theorem tell_alt {R : Rd} {g : Nat} {rv : Value} {J : List Sp → Bool → (Nat → Prop) → World → Prop} (hJ : Told J) {x : Nd} {ra rb2 : Re} {k : Kon} (hk : x.k = 9) (hok : (Re.two x ra rb2).ok R) (hl : (Re.two x ra rb2).lite R.s.size) (hA : TellOk R g rv J ra k) : TellOk R g rv J (.two x ra rb2) k := by
 intro X w S pre y q b o f cs hb hX hn hc hy hv hr hbig
 obtain ⟨-, ⟨i, hi, hi1, hi2⟩, hia, hib, hib2⟩ := hok.is
 have hE : evB (outsE R.s (.two x ra rb2) y) (kE R.s k) = evB (outsE R.s ra y) (kE R.s k) ++ sE R.s [.tell rb2 y k] := by
  rw [show outsE R.s (.two x ra rb2) y = outsE R.s ra y ++ none :: outsE R.s rb2 y by rw [outsE, if_neg (by omega)], evB_app, evB_none, sE_cons, sE_nil, List.append_nil]; rfl
 rw [hE] at hbig ⊢
 have HI := Lib.hid hi1
 have hl1 : S.length + 1 ≤ Big ∧ ([Tas.tell rb2 y k] ++ S).length + (evB (outsE R.s ra y) (kE R.s k)).length ≤ Big := by
  rw [List.length_append] at hbig
  have := sE_len R.s [.tell rb2 y k]
  simp only [List.length_append, List.length_cons, List.length_nil] at this ⊢; omega
 have HT := TBx.new (tv := fnV f cs) hr hJ hb hX hn hc
 have HT2 := Lib.hid HT
 have hk8 := HT.nd.1
 rw [show (Re.two x ra rb2).root = x from rfl, hk] at hk8
 clear HT hn
 go_enter Tryz.func99, Tryz.ntmps99
 go_wp2_with fail
 obtain ⟨W1, hW1⟩ : ∃ W1, ((((w.alloc (.cells #[ptr g] 169)).alloc (.cells #[.pointer (some ⟨b, o, none⟩)] 129)).alloc (.cells #[.int .i64 (y.1 : Int), ptr q] 93)).alloc (.cells #[fnV f cs] 174)) = W1 := ⟨_, rfl⟩
 have hB1 : Below w.heap.size w W1 := by rw [← hW1]; go_grown
 have HT := HT2.out
 rw [hW1] at HT ⊢
 have HR := hr.call hJ hB1
 have HK := hv.ext (Ext.call (X := X) hB1)
 have hT : TAt R g rv X W1 (.tell rb2 y k) (fnV 138 #[ptr w.heap.size, ptr (w.heap.size + 1), ptr (w.heap.size + 1 + 1), ptr (w.heap.size + 1 + 1 + 1)]) :=
  ⟨_, _, _, _, x, fnV f cs, rfl, HT.sb, HT.nbox, hib, ⟨hib2, hok.fine.2, by have := hok.sz; simp only [Re.sz] at this; omega⟩, hl.2.1, HT.xbox, hy, HT.tb, HK⟩
 have hs1 : W1.heap.size = w.heap.size + 1 + 1 + 1 + 1 := by rw [← hW1]; simp
 obtain ⟨W2, hW2⟩ : ∃ W2, W1.alloc (.cells #[fnV 138 #[ptr w.heap.size, ptr (w.heap.size + 1), ptr (w.heap.size + 1 + 1), ptr (w.heap.size + 1 + 1 + 1)]] 1) = W2 := ⟨_, rfl⟩
 have hB2 : Below W1.heap.size W1 W2 := by rw [← hW2]; exact (Below.refl _ _).alloc (Nat.le_refl _) _
 have hn2 : BoxI X W2 1 (w.heap.size + 1 + 1 + 1 + 1) #[fnV 138 #[ptr w.heap.size, ptr (w.heap.size + 1), ptr (w.heap.size + 1 + 1), ptr (w.heap.size + 1 + 1 + 1)]] := by rw [← hW2, ← hs1]; exact BoxI.new HR.xlt _ _
 have HR2 := HR.call hJ hB2
 rw [hW2]
 with_reducible refine (later_any hJ HR2 [.tell rb2 y k] 1 1 (w.heap.size + 1 + 1 + 1 + 1) (fun _ => 138) (fun _ => #[ptr w.heap.size, ptr (w.heap.size + 1), ptr (w.heap.size + 1 + 1), ptr (w.heap.size + 1 + 1 + 1)]) rfl (by omega) hl1.1 ?_ ?_ hn2.not hn2.box.lt).mono ?_
 ·exact ⟨hT.ext (Ext.call hB2), trivial⟩
 ·intro j hj
  obtain rfl : j = 0 := by omega
  exact hn2.box.get 0 rfl
 rintro e W3 ⟨X3, ⟨z3, rfl⟩, hE3, HR3⟩
 have HT3 := (HT.ext (Ext.call hB2) HR2.cell0).ext hE3 HR3.cell0
 have HK3 := (HK.ext (Ext.call hB2)).ext hE3
 clear hk8 hT hn2 hW1 hW2
 go_wp2_with fail
 have hBd : Below W3.heap.size W3 W3.drew := below_drewN (Below.refl _ _) 1
 have HD := HT3.ext (Ext.call hBd) HT3.gc
 have HRd := HR3.call hJ hBd
 have hS : TBs R g w.heap.size (w.heap.size + 1) (w.heap.size + 1 + 1) (w.heap.size + 1 + 1 + 1) b o q x y (fnV f cs) W3.drew := ⟨_, HD⟩
 refine wp_region_held (S := fun u => TBs R g w.heap.size (w.heap.size + 1) (w.heap.size + 1 + 1) (w.heap.size + 1 + 1 + 1) b o q x y (fnV f cs) u) (by kernel_rfl) ?_
 change wpAnyH _ _ _ _ _ _ _ _ W3.drew
 refine takeAt 0 56 (.pointer (some ⟨g, 0, none⟩)) rfl rfl (by kernel_rfl) (by kernel_rfl) (by kernel_rfl) (fun _ _ _ h => h) (ldPS_y w.heap.size 0 _ (fun _ h => tbs_s h) rfl rfl (by rfl)) hS ?_
 simp only [Act.put, sA, s0, sS]
 refine takeAt 1 57 (.pointer (some ⟨g, 0, none⟩)) rfl rfl (by kernel_rfl) (by kernel_rfl) (by kernel_rfl) (fun _ _ _ h => h) (ldPS_y w.heap.size 0 _ (fun _ h => tbs_s h) rfl rfl (by rfl)) hS ?_
 simp only [Act.put, sA, s0, sS]
 refine takeAt 2 58 (.pointer (some ⟨g, 0, none⟩)) rfl rfl (by kernel_rfl) (by kernel_rfl) (by kernel_rfl) (fun _ _ _ h => h) (yields (by rfl) (fun w => by kernel_rfl)) hS ?_
 simp only [Act.put, sA, s0, sS]
 refine takeAt 3 59 (.pointer (some ⟨g, 0, none⟩)) rfl rfl (by kernel_rfl) (by kernel_rfl) (by kernel_rfl) (fun _ _ _ h => h) (yields (by rfl) (fun w => by kernel_rfl)) hS ?_
 simp only [Act.put, sA, s0, sS]
 refine takeAt 4 60 (.pointer (some ⟨R.rb, 0, none⟩)) rfl rfl (by kernel_rfl) (by kernel_rfl) (by kernel_rfl) (fun _ _ _ h => h) (ldPR_y g 0 _ (fun _ h => tbs_g h) rfl rfl (by rfl)) hS ?_
 simp only [Act.put, sA, s0, sS]
 refine takeAt 5 61 (.pointer (some ⟨R.rb, 0, none⟩)) rfl rfl (by kernel_rfl) (by kernel_rfl) (by kernel_rfl) (fun _ _ _ h => h) (yields (by rfl) (fun w => by kernel_rfl)) hS ?_
 simp only [Act.put, sA, s0, sS]
 refine takeAt 6 62 (.pointer (some ⟨R.rb, 0, none⟩)) rfl rfl (by kernel_rfl) (by kernel_rfl) (by kernel_rfl) (fun _ _ _ h => h) (yields (by rfl) (fun w => by kernel_rfl)) hS ?_
 simp only [Act.put, sA, s0, sS]
 refine takeAt 7 63 (.slice (some ⟨R.nb, R.no, none⟩) R.n R.cap) rfl rfl (by kernel_rfl) (by kernel_rfl) (by kernel_rfl) (fun _ _ _ h => h) (ldSN_y R.rb 0 _ _ _ (fun _ h => tbs_r h) rfl rfl (by rfl)) hS ?_
 simp only [Act.put, sA, s0, sS]
 refine takeAt 8 64 (.pointer (some ⟨b, o, none⟩)) rfl rfl (by kernel_rfl) (by kernel_rfl) (by kernel_rfl) (fun _ _ _ h => h) (ldPN_y (w.heap.size + 1) 0 _ (fun _ h => tbs_n h) rfl rfl (by rfl)) hS ?_
 simp only [Act.put, sA, s0, sS]
 refine takeAt 9 65 (.pointer (some ⟨b, o, none⟩)) rfl rfl (by kernel_rfl) (by kernel_rfl) (by kernel_rfl) (fun _ _ _ h => h) (yields (by rfl) (fun w => by kernel_rfl)) hS ?_
 simp only [Act.put, sA, s0, sS]
 refine takeAt 10 66 (.pointer (some ⟨b, o + 1, none⟩)) rfl rfl (by kernel_rfl) (by kernel_rfl) (by kernel_rfl) (fun _ _ _ h => h) (yields (by rfl) (fun w => by kernel_rfl)) hS ?_
 simp only [Act.put, sA, s0, sS]
 refine takeAt 11 67 (.int .i64 (i : Int)) rfl rfl (by kernel_rfl) (by kernel_rfl) (by kernel_rfl) (fun _ _ _ h => h) (ldI_y b (o + 1) _ (fun _ h => tbs_c h 1 _ (fun _ h => by rw [h.2.1, HI.out])) rfl rfl (by rfl)) hS ?_
 simp only [Act.put, sA, s0, sS]
 refine takeAt 12 68 (.pointer (some ⟨R.nb, R.no + i * 12, none⟩)) rfl rfl (by kernel_rfl) (by kernel_rfl) (by kernel_rfl) (fun _ _ _ h => h) (ixN_y R.nb R.n R.cap R.no i hi rfl rfl rfl (by rfl)) hS ?_
 simp only [Act.put, sA, s0, sS]
 refine takeAt 13 69 (.agg #[.int .i64 (y.1 : Int), .pointer (some ⟨q, 0, none⟩)]) rfl rfl (by kernel_rfl) (by kernel_rfl) (by kernel_rfl) (fun _ _ _ h => h) (ldX_y (w.heap.size + 1 + 1) _ _ (fun _ h => tbs_x h) rfl rfl (by rfl)) hS ?_
 simp only [Act.put, sA, s0, sS]
 refine takeAt 14 70 (fnV f cs) rfl rfl (by kernel_rfl) (by kernel_rfl) (by kernel_rfl) (fun _ _ _ h => h) (ldF_y (w.heap.size + 1 + 1 + 1) 0 _ _ _ (fun _ h => tbs_t h) rfl rfl (by rfl)) hS ?_
 simp only [Act.put, sA, s0, sS]
 refine callAt 15 71 rfl rfl (by kernel_rfl) (by rfl) (by kernel_rfl) (hA _ W3.drew ([Tas.tell rb2 y k] ++ S) pre y q R.nb (R.no + i * 12) f cs HD.rd.nod.1 HD.rd.nodX (by rw [← hi2]; exact HD.rd.nod.2 i hi) HD.cb hy ?_ HRd hl1.2) ?_
 ·exact HK3.ext (Ext.call hBd)
 ·rintro e w' hD
  obtain ⟨X', T, o2, m, ⟨z, rfl⟩, hE', hR', h4, h5⟩ := hD
  refine ⟨_, rfl, ⟨X', HD.ext hE' hR'.cell0⟩, ?_⟩
  simp only [Act.put, sA, s0, sS]
  refine wpAnyH_done (by kernel_rfl) ?_ _
  clear hA hS
  go_wp2_with fail
  go_end0
  refine Does.behind ((((Ext.call hB1).trans (Ext.call hB2)).trans hE3).trans (Ext.call hBd)) ⟨X', T, o2, m, ⟨_, rfl⟩, hE', hR', h4, h5⟩ rfl
set_option maxRecDepth 100000 in
set_option maxHeartbeats 400000 in
theorem tell_grp {R : Rd} {g : Nat} {rv : Value} {J : List Sp → Bool → (Nat → Prop) → World → Prop} (hJ : Told J) {x : Nd} {bk : Nat} {ra : Re} {k : Kon} (hk : x.k = 11) (hok : (Re.one x bk ra).ok R) (hA : ∀ p, TellOk R g rv J ra (.grp x.n p k)) : TellOk R g rv J (.one x bk ra) k := by
 intro X w S pre y q b o f cs hb hX hn hc hy hv hr hbig
 obtain ⟨-, ⟨i, hi, hi1, hi2, -⟩, hia⟩ := hok.is
 have hE : evB (outsE R.s (.one x bk ra) y) (kE R.s k) = evB (outsE R.s ra y) (kE R.s (.grp x.n y.1 k)) := by
  rw [show outsE R.s (.one x bk ra) y = evB (outsE R.s ra y) (fun z => [some (z.1, (withZ z.2 x.n y.1 z.1).1)]) by rw [outsE, if_pos hk], evB_assoc]
  refine evB_congr fun z _ => ?_
  rw [evB_some, evB_nil, List.append_nil]; rfl
 rw [hE] at hbig ⊢
 have HI := Lib.hid hi1
 have HT := TBx.new (tv := fnV f cs) hr hJ hb hX hn hc
 have HT2 := Lib.hid HT
 have hk8 := HT.nd.1
 rw [show (Re.one x bk ra).root = x from rfl, hk] at hk8
 clear HT hn
 go_enter Tryz.func99, Tryz.ntmps99
 go_wp2_with fail
 obtain ⟨W1, hW1⟩ : ∃ W1, ((((w.alloc (.cells #[ptr g] 169)).alloc (.cells #[.pointer (some ⟨b, o, none⟩)] 129)).alloc (.cells #[.int .i64 (y.1 : Int), ptr q] 93)).alloc (.cells #[fnV f cs] 174)) = W1 := ⟨_, rfl⟩
 have hB1 : Below w.heap.size w W1 := by rw [← hW1]; go_grown
 have HT := HT2.out
 rw [hW1] at HT ⊢
 have HR := hr.call hJ hB1
 have HK := hv.ext (Ext.call (X := X) hB1)
 clear hk8 hW1 HT2
 have hBd : Below W1.heap.size W1 W1.drew := below_drewN (Below.refl _ _) 1
 have HD := HT.ext (Ext.call hBd) HT.gc
 have HRd := HR.call hJ hBd
 have hS : TBs R g w.heap.size (w.heap.size + 1) (w.heap.size + 1 + 1) (w.heap.size + 1 + 1 + 1) b o q x y (fnV f cs) W1.drew := ⟨_, HD⟩
 refine wp_region_held (S := fun u => TBs R g w.heap.size (w.heap.size + 1) (w.heap.size + 1 + 1) (w.heap.size + 1 + 1 + 1) b o q x y (fnV f cs) u) (by kernel_rfl) ?_
 change wpAnyH _ _ _ _ _ _ _ _ W1.drew
 refine takeAt 0 78 (.pointer (some ⟨g, 0, none⟩)) rfl rfl (by kernel_rfl) (by kernel_rfl) (by kernel_rfl) (fun _ _ _ h => h) (ldPS_y w.heap.size 0 _ (fun _ h => tbs_s h) rfl rfl (by rfl)) hS ?_
 simp only [Act.put, sA, s0, sS]
 refine takeAt 1 79 (.pointer (some ⟨g, 0, none⟩)) rfl rfl (by kernel_rfl) (by kernel_rfl) (by kernel_rfl) (fun _ _ _ h => h) (ldPS_y w.heap.size 0 _ (fun _ h => tbs_s h) rfl rfl (by rfl)) hS ?_
 simp only [Act.put, sA, s0, sS]
 refine takeAt 2 80 (.pointer (some ⟨g, 0, none⟩)) rfl rfl (by kernel_rfl) (by kernel_rfl) (by kernel_rfl) (fun _ _ _ h => h) (yields (by rfl) (fun w => by kernel_rfl)) hS ?_
 simp only [Act.put, sA, s0, sS]
 refine takeAt 3 81 (.pointer (some ⟨g, 0, none⟩)) rfl rfl (by kernel_rfl) (by kernel_rfl) (by kernel_rfl) (fun _ _ _ h => h) (yields (by rfl) (fun w => by kernel_rfl)) hS ?_
 simp only [Act.put, sA, s0, sS]
 refine takeAt 4 82 (.pointer (some ⟨R.rb, 0, none⟩)) rfl rfl (by kernel_rfl) (by kernel_rfl) (by kernel_rfl) (fun _ _ _ h => h) (ldPR_y g 0 _ (fun _ h => tbs_g h) rfl rfl (by rfl)) hS ?_
 simp only [Act.put, sA, s0, sS]
 refine takeAt 5 83 (.pointer (some ⟨R.rb, 0, none⟩)) rfl rfl (by kernel_rfl) (by kernel_rfl) (by kernel_rfl) (fun _ _ _ h => h) (yields (by rfl) (fun w => by kernel_rfl)) hS ?_
 simp only [Act.put, sA, s0, sS]
 refine takeAt 6 84 (.pointer (some ⟨R.rb, 0, none⟩)) rfl rfl (by kernel_rfl) (by kernel_rfl) (by kernel_rfl) (fun _ _ _ h => h) (yields (by rfl) (fun w => by kernel_rfl)) hS ?_
 simp only [Act.put, sA, s0, sS]
 refine takeAt 7 85 (.slice (some ⟨R.nb, R.no, none⟩) R.n R.cap) rfl rfl (by kernel_rfl) (by kernel_rfl) (by kernel_rfl) (fun _ _ _ h => h) (ldSN_y R.rb 0 _ _ _ (fun _ h => tbs_r h) rfl rfl (by rfl)) hS ?_
 simp only [Act.put, sA, s0, sS]
 refine takeAt 8 86 (.pointer (some ⟨b, o, none⟩)) rfl rfl (by kernel_rfl) (by kernel_rfl) (by kernel_rfl) (fun _ _ _ h => h) (ldPN_y (w.heap.size + 1) 0 _ (fun _ h => tbs_n h) rfl rfl (by rfl)) hS ?_
 simp only [Act.put, sA, s0, sS]
 refine takeAt 9 87 (.pointer (some ⟨b, o, none⟩)) rfl rfl (by kernel_rfl) (by kernel_rfl) (by kernel_rfl) (fun _ _ _ h => h) (yields (by rfl) (fun w => by kernel_rfl)) hS ?_
 simp only [Act.put, sA, s0, sS]
 refine takeAt 10 88 (.pointer (some ⟨b, o + 1, none⟩)) rfl rfl (by kernel_rfl) (by kernel_rfl) (by kernel_rfl) (fun _ _ _ h => h) (yields (by rfl) (fun w => by kernel_rfl)) hS ?_
 simp only [Act.put, sA, s0, sS]
 refine takeAt 11 89 (.int .i64 (i : Int)) rfl rfl (by kernel_rfl) (by kernel_rfl) (by kernel_rfl) (fun _ _ _ h => h) (ldI_y b (o + 1) _ (fun _ h => tbs_c h 1 _ (fun _ h => by rw [h.2.1, HI.out])) rfl rfl (by rfl)) hS ?_
 simp only [Act.put, sA, s0, sS]
 refine takeAt 12 90 (.pointer (some ⟨R.nb, R.no + i * 12, none⟩)) rfl rfl (by kernel_rfl) (by kernel_rfl) (by kernel_rfl) (fun _ _ _ h => h) (ixN_y R.nb R.n R.cap R.no i hi rfl rfl rfl (by rfl)) hS ?_
 simp only [Act.put, sA, s0, sS]
 refine takeAt 13 91 (.agg #[.int .i64 (y.1 : Int), .pointer (some ⟨q, 0, none⟩)]) rfl rfl (by kernel_rfl) (by kernel_rfl) (by kernel_rfl) (fun _ _ _ h => h) (ldX_y (w.heap.size + 1 + 1) _ _ (fun _ h => tbs_x h) rfl rfl (by rfl)) hS ?_
 simp only [Act.put, sA, s0, sS]
 refine takeAt 14 92 (.func (.func 139) #[] #[ptr (w.heap.size + 1), ptr (w.heap.size + 1 + 1), ptr (w.heap.size + 1 + 1 + 1)]) rfl rfl (by kernel_rfl) (by kernel_rfl) (by kernel_rfl) (fun _ _ _ h => h) (yields (by rfl) (fun w => by kernel_rfl)) hS ?_
 simp only [Act.put, sA, s0, sS]
 refine callAt 15 93 rfl rfl (by kernel_rfl) (by rfl) (by kernel_rfl) (hA y.1 _ W1.drew S pre y q R.nb (R.no + i * 12) 139 #[ptr (w.heap.size + 1), ptr (w.heap.size + 1 + 1), ptr (w.heap.size + 1 + 1 + 1)] HD.rd.nod.1 HD.rd.nodX (by rw [← hi2]; exact HD.rd.nod.2 i hi) HD.cb hy ?_ HRd hbig) ?_
 ·exact ⟨_, _, _, x, y, fnV f cs, rfl, HD.nbox, rfl, HD.xbox, rfl, hy, HD.tb, HK.ext (Ext.call hBd)⟩
 ·rintro e w' hD
  obtain ⟨X', T, o2, m, ⟨z, rfl⟩, hE', hR', h4, h5⟩ := hD
  refine ⟨_, rfl, ⟨X', HD.ext hE' hR'.cell0⟩, ?_⟩
  simp only [Act.put, sA, s0, sS]
  refine wpAnyH_done (by kernel_rfl) ?_ _
  clear hA hS
  go_wp2_with fail
  go_end0
  exact ⟨X', T, o2, m, ⟨_, rfl⟩, ((Ext.call hB1).trans (Ext.call hBd)).trans hE', hR', h4, h5⟩
end Go.Proofs.YteiboobdhjdjkaaGreatDoor.Nai
