/-
  What is held of the blocks of sets, and of the table, while a statement runs in whatever order; how a read, and a step that reads nothing, is taken first.
-/
import Derived.Test.YtobhhhopkkcdiaaDoorLawKit
namespace Go.Proofs.YtobhhhopkkcdiaaDoor
open Go.RowKit

/-- The blocks of the sets in the list hold them; nothing that was in w0 has turned; the table is there. -/
def Held (w0 : World) (bs : List (Nat × BitVec 256)) (w : World) : Prop := (∀ p ∈ bs, Box w p.1 p.2) ∧ Below w0.heap.size w0 w ∧ TabOk w
theorem Held.call {w0 u v : World} {bs : List (Nat × BitVec 256)} (h : Held w0 bs u) (hb : Below u.heap.size u v) : Held w0 bs v :=
  ⟨fun p hp => (h.1 p hp).call hb, thenB h.2.1 hb h.2.1.size, h.2.2.call hb⟩
theorem Held.alloc {w0 u : World} {bs : List (Nat × BitVec 256)} (h : Held w0 bs u) (o : Obj) : Held w0 bs (u.alloc o) := h.call ((Below.refl _ u).alloc (Nat.le_refl _) o)
theorem Held.drew {w0 u : World} {bs : List (Nat × BitVec 256)} (h : Held w0 bs u) : Held w0 bs u.drew := h.call (Below.refl _ u).drew
theorem Held.start {w0 : World} (h : TabOk w0) : Held w0 [] w0 := ⟨fun p hp => by simp at hp, Below.refl _ _, h⟩
/-- A set that is laid into a new block is held, too. -/
theorem Held.new {w0 u : World} {bs : List (Nat × BitVec 256)} (h : Held w0 bs u) (S : BitVec 256) : Held w0 ((u.heap.size, S) :: bs) (u.alloc (.cells #[.int .u64 (W S 0), .int .u64 (W S 1), .int .u64 (W S 2), .int .u64 (W S 3)] 25)) :=
  ⟨fun p hp => by
    rcases List.mem_cons.1 hp with rfl | hp
    · exact Box.new u S
    · exact (h.1 p hp).alloc _, h.2.1.alloc h.2.1.size _, h.2.2.alloc _⟩

/-- What is told of the calls whose answers the document fixes. -/
def FixedOk : Prop := ∀ w : World, TabOk w → Calls Tryd.prog 28 #[] w fun e w' => e = .returned (.bool true) ∧ Below w.heap.size w w'
theorem Held.fix {w0 u : World} {bs : List (Nat × BitVec 256)} (h : Held w0 bs u) (hf : FixedOk) : Calls Tryd.prog 28 #[] u fun e w' => e = .returned (.bool true) ∧ Below u.heap.size u w' := hf u h.2.2

section
variable {P : Program} {ops : Array Oper} {Q : Exit → Act → World → Prop} {md : Region.Mode} {S : World → Prop} {fuel : Nat} {listed : Array Bool} {a : Act} {w : World}
/-- Operation number i, whose answer goes to slot d, is taken first. -/
theorem takeAt (i d : Nat) (v : Value) {oi : Oper} (hi : ops[i]? = some oi) (hd : oi.dst = some d) (hs : Region.noSelect ops = true) (hf : Region.free md ops listed i = true) (hr : (Region.ready md ops listed).contains i = true)
    (hQ : ∀ c a w, Q (.panic c) (a.put (some d) v) w → Q (.panic c) a w) (hy : YieldsIf P ops S oi v a) (hS : S w)
    (h : wpAnyH P md ops Q S fuel (listed.setIfInBounds i true) (a.put (some d) v) w) : wpAnyH P md ops Q S (fuel + 1) listed a w :=
  wpAnyH_take hi hs hf hr (by rw [hd]; exact hQ) hy hS (by rw [hd]; exact h)
/-- Operation number i is a call, and nothing else can come up. -/
theorem callAt (i d : Nat) {f : FuncId} {vs : Array Value} {oi : Oper} {post : Ending → World → Prop} (hi : ops[i]? = some oi) (hd : oi.dst = some d) (hr : Region.ready md ops listed = [i]) (hw : Region.wanted oi (yielded ops a.tmps) = true)
    (hrun : (execOp a.eval oi).run P w = .ok (.enter f vs) w) (hc : Calls P f vs w post)
    (hp : ∀ e w', post e w' → ∃ v, e = .returned v ∧ S w' ∧ wpAnyH P md ops Q S fuel (listed.setIfInBounds i true) (a.put (some d) v) w') : wpAnyH P md ops Q S (fuel + 1) listed a w := by
  refine wpAnyH_ready (rs := [i]) hr (by simp) (AllReadyH.cons hi (fun K hK => ?_) AllReadyH.nil)
  rw [if_pos hw]
  unfold Oper.wp
  rw [hrun, Oper.upon_enter]
  refine hc.mono fun e w' h => ?_
  obtain ⟨v, rfl, hS, hgo⟩ := hp e w' h
  rw [hd]
  exact hK.out _ _ hS (fun _ => hgo)
/-- One of several that can come up: a call. -/
theorem callStep (i d : Nat) {f : FuncId} {vs : Array Value} {oi : Oper} {post : Ending → World → Prop} (hd : oi.dst = some d) (hw : Region.wanted oi (yielded ops a.tmps) = true)
    (hrun : (execOp a.eval oi).run P w = .ok (.enter f vs) w) (hc : Calls P f vs w post)
    (hp : ∀ e w', post e w' → ∃ v, e = .returned v ∧ S w' ∧ wpAnyH P md ops Q S fuel (listed.setIfInBounds i true) (a.put (some d) v) w') :
    ∀ K' : Act → World → Prop, Shut (∀ a w, S w → (S w → wpAnyH P md ops Q S fuel (listed.setIfInBounds i true) a w) → K' a w) → if Region.wanted oi (yielded ops a.tmps) = true then Oper.wp P oi a w K' Q else K' (a.put oi.dst undef) w := by
  intro K hK
  rw [if_pos hw]
  unfold Oper.wp
  rw [hrun, Oper.upon_enter]
  refine hc.mono fun e w' h => ?_
  obtain ⟨v, rfl, hS, hgo⟩ := hp e w' h
  rw [hd]
  exact hK.out _ _ hS (fun _ => hgo)
/-- One of several that can come up: an operation that answers a value and leaves another world. -/
theorem valStep (i d : Nat) (v : Value) (w' : World) {oi : Oper} (hd : oi.dst = some d) (hw : Region.wanted oi (yielded ops a.tmps) = true)
    (hrun : (execOp a.eval oi).run P w = .ok (.value v) w') (hS : S w') (hgo : wpAnyH P md ops Q S fuel (listed.setIfInBounds i true) (a.put (some d) v) w') :
    ∀ K' : Act → World → Prop, Shut (∀ a w, S w → (S w → wpAnyH P md ops Q S fuel (listed.setIfInBounds i true) a w) → K' a w) → if Region.wanted oi (yielded ops a.tmps) = true then Oper.wp P oi a w K' Q else K' (a.put oi.dst undef) w := by
  intro K hK
  rw [if_pos hw]
  unfold Oper.wp
  rw [hrun, Oper.upon_value, hd]
  exact hK.out _ _ hS (fun _ => hgo)
theorem yields {oi : Oper} {v : Value} (hw : Region.wanted oi (yielded ops a.tmps) = true) (h : ∀ w, (execOp a.eval oi).run P w = .ok (.value v) w) : YieldsIf P ops S oi v a := Or.inl ⟨hw, fun w _ => h w⟩
theorem skipped {oi : Oper} (hw : Region.wanted oi (yielded ops a.tmps) = false) : YieldsIf P ops S oi undef a := Or.inr ⟨hw, rfl⟩
end

/-- A set is read: its value in every world in which it is held. -/
theorem load_yields {ops : Array Oper} {a : Act} {o : Oper} {x : Operand} {g : Nat} {T : BitVec 256} {w0 : World} {bs : List (Nat × BitVec 256)} (ho : o.op = .load 25 x) (hx : a.eval x = .pointer (some ⟨g, 0, none⟩)) (hm : (g, T) ∈ bs)
    (hw : Region.wanted o (yielded ops a.tmps) = true) : YieldsIf Tryd.prog ops (Held w0 bs) o (setV T) a := by
  refine Or.inl ⟨hw, fun w h => ?_⟩
  have hb : Box w g T := h.1 _ hm
  unfold execOp
  simp only [ho, hx, Instr.loadAt, Instr.sureAddr, Sem.run_bind, Sem.run_pure, Result.andThen_ok, run_loadVar_row w g _ _ _ _ _ hb Tryd.underlying25 rfl (by kernel_rfl)]

/-- Two sets, compared. -/
theorem eq_yields {ops : Array Oper} {a : Act} {o : Oper} {x y : Operand} {A B : BitVec 256} {R : World → Prop} (b : Bool) (ho : o.op = .binOp .eql 25 x y 25) (hx : a.eval x = setV A) (hy : a.eval y = setV B) (he : eqS A B = b)
    (hw : Region.wanted o (yielded ops a.tmps) = true) : YieldsIf Tryd.prog ops R o (.bool b) a := by
  refine Or.inl ⟨hw, fun w _ => ?_⟩
  unfold execOp
  simp only [ho, hx, hy]
  have h := eqSet A B w
  rw [he] at h
  go_simp

theorem lenZ_k (S : BitVec 256) (n : Int) (w : World) (hn : (lenS S : Int) = n) : Calls Tryd.prog 14 #[setV S] w fun e w' => e = .returned (.int .i64 n) ∧ Below w.heap.size w w' := by
  have h := len_any S w
  rwa [hn] at h
theorem has_k (S : BitVec 256) (n : Int) (m : Nat) (b : Bool) (w : World) (hn : n = m) (hm : m < 256) (hb : mem S m = b) : Calls Tryd.prog 13 #[setV S, .int .u8 n] w fun e w' => e = .returned (.bool b) ∧ Below w.heap.size w w' := by
  subst hn hb
  have h := has_any S (m : Int) w (by omega) (by omega)
  simpa using h
theorem len_k (S : BitVec 256) (n : Nat) (w : World) (hn : lenS S = n) : Calls Tryd.prog 14 #[setV S] w fun e w' => e = .returned (.int .i64 n) ∧ Below w.heap.size w w' := by
  have h := len_any S w
  rwa [hn] at h
theorem range_k (a b : Int) (x y : Nat) (w : World) (ha : a = x) (hb : b = y) (hx : x < 256) (hy : y < 256) : Calls Tryd.prog 31 #[.int .u8 a, .int .u8 b] w fun e w' => e = .returned (setV (span x (y + 1))) ∧ Below w.heap.size w w' := by
  subst ha hb
  have h := range_any (x : Int) (y : Int) w (by omega) (by omega) (by omega) (by omega)
  simpa using h
theorem oneAt_k (n : Int) (m : Nat) (w : World) (h : n = m) (hm : m < 256) :
    Calls Tryd.prog 33 #[.int .u8 n] w fun e w' => e = .returned (setV (oneS m)) ∧ Below w.heap.size w w' := one_at n m w h hm
end Go.Proofs.YtobhhhopkkcdiaaDoor
