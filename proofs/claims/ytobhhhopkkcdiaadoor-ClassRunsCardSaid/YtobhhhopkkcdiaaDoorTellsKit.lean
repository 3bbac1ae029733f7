/-
  For the statement ClassTells: what is held of both kinds of sets while a statement runs in whatever order; reads of both kinds.
-/
import Derived.Test.YtobhhhopkkcdiaaDoorRegionB
import Derived.Test.YtobhhhopkkcdiaaDoorRefF
namespace Go.Proofs.YtobhhhopkkcdiaaDoor
open Go.RowKit

theorem ror_k (S T : BitVec 256) (w : World) : Calls Tryd.prog 21 #[.agg (bitsA S), .agg (bitsA T)] w fun e w' => e = .returned (.agg (bitsA (orS S T))) ∧ Below w.heap.size w w' := by
  have h := ror_any S T w
  rwa [show (ofPred fun n => mem S n || mem T n) = orS S T from ext_bit fun k hk => by rw [ofPred_bit]; simp [hk, orS, mem]] at h
theorem rand_k (S T : BitVec 256) (w : World) : Calls Tryd.prog 23 #[.agg (bitsA S), .agg (bitsA T)] w fun e w' => e = .returned (.agg (bitsA (andS S T))) ∧ Below w.heap.size w w' := by
  have h := rand_any S T w
  rwa [show (ofPred fun n => mem S n && mem T n) = andS S T from ext_bit fun k hk => by rw [ofPred_bit]; simp [hk, andS, mem]] at h
theorem rnot_k (S : BitVec 256) (w : World) : Calls Tryd.prog 25 #[.agg (bitsA S)] w fun e w' => e = .returned (.agg (bitsA (notS S))) ∧ Below w.heap.size w w' := by
  have h := rnot_any S w
  rwa [show (ofPred fun n => !mem S n) = notS S from ext_bit fun k hk => by rw [ofPred_bit]; simp [hk, notS, mem]] at h
theorem runs_same (w : World) (u v : Value) (S : BitVec 256) (hu : Reads w u (runs S)) (hv : Reads w v (runs S)) : Calls Tryd.prog 16 #[u, v] w fun e w' => e = .returned (.bool true) ∧ Below w.heap.size w w' := by
  have h := runs_any w u v (runs S) (runs S) hu hv (Nat.le_trans (runsTo_length S 256) (by decide))
  simpa using h
theorem eqS_self (S : BitVec 256) : eqS S S = true := by simp [eqS]

/-- Both kinds of both sets are held. -/
def HeldT (w0 : World) (S T : BitVec 256) (ga gb : Nat) (w : World) : Prop := Held w0 [(w0.heap.size + 1, T), (w0.heap.size, S)] w ∧ BoxA w ga S ∧ BoxA w gb T
theorem HeldT.call {w0 u v : World} {S T : BitVec 256} {ga gb : Nat} (h : HeldT w0 S T ga gb u) (hb : Below u.heap.size u v) : HeldT w0 S T ga gb v :=
  ⟨h.1.call hb, h.2.1.below hb h.2.1.lt, h.2.2.below hb h.2.2.lt⟩
theorem HeldT.drew {w0 u : World} {S T : BitVec 256} {ga gb : Nat} (h : HeldT w0 S T ga gb u) : HeldT w0 S T ga gb u.drew := h.call (Below.refl _ u).drew
theorem HeldT.fix {w0 u : World} {S T : BitVec 256} {ga gb : Nat} (h : HeldT w0 S T ga gb u) (hf : FixedOk) : Calls Tryd.prog 28 #[] u fun e w' => e = .returned (.bool true) ∧ Below u.heap.size u w' := hf u h.1.2.2
theorem Held.row {w0 u : World} {bs : List (Nat × BitVec 256)} (h : Held w0 bs u) (g : Nat) (cs : Array Value) (h0 : 0 < w0.heap.size) (hg : w0.heap.size ≤ g) (hn : ∀ p ∈ bs, p.1 ≠ g) : Held w0 bs (u.setRow g cs) :=
  ⟨fun p hp => (setRow_other u g p.1 cs (hn p hp)).trans (h.1 p hp), below_row h.2.1 hg cs, fun j hj => (cell_setRow_other u g cs ⟨_, j, none⟩ (by show 0 ≠ g; omega)).trans (h.2.2 j hj)⟩

section
variable {ops : Array Oper} {a : Act} {o : Oper} {x y : Operand} {w0 : World} {S T : BitVec 256} {ga gb : Nat}
theorem loadS_t (ho : o.op = .load 25 x) (hx : a.eval x = .pointer (some ⟨w0.heap.size, 0, none⟩)) (hw : Region.wanted o (yielded ops a.tmps) = true) : YieldsIf Tryd.prog ops (HeldT w0 S T ga gb) o (setV S) a := by
  rcases load_yields (w0 := w0) (bs := [(w0.heap.size + 1, T), (w0.heap.size, S)]) ho hx (List.mem_cons_of_mem _ List.mem_cons_self) hw with h | h
  · exact Or.inl ⟨hw, fun w hh => h.2 w hh.1⟩
  · exact Or.inr h
theorem loadT_t (ho : o.op = .load 25 x) (hx : a.eval x = .pointer (some ⟨w0.heap.size + 1, 0, none⟩)) (hw : Region.wanted o (yielded ops a.tmps) = true) : YieldsIf Tryd.prog ops (HeldT w0 S T ga gb) o (setV T) a := by
  rcases load_yields (w0 := w0) (bs := [(w0.heap.size + 1, T), (w0.heap.size, S)]) ho hx List.mem_cons_self hw with h | h
  · exact Or.inl ⟨hw, fun w hh => h.2 w hh.1⟩
  · exact Or.inr h
theorem loadRef {R : World → Prop} {g : Nat} {U : BitVec 256} (ho : o.op = .load 28 x) (hx : a.eval x = .pointer (some ⟨g, 0, none⟩)) (hw : Region.wanted o (yielded ops a.tmps) = true) (hR : ∀ w, R w → BoxA w g U) : YieldsIf Tryd.prog ops R o (.agg (bitsA U)) a := by
  refine Or.inl ⟨hw, fun w h => ?_⟩
  have hb := hR w h
  unfold execOp
  simp only [ho, hx, Instr.loadAt, Instr.sureAddr, Sem.run_bind, Sem.run_pure, Result.andThen_ok, run_loadVar_row w g _ _ _ _ _ hb Tryd.underlying28 rfl (by rw [bitsA_size]; exact sizeRef)]
theorem loadA_t (ho : o.op = .load 28 x) (hx : a.eval x = .pointer (some ⟨ga, 0, none⟩)) (hw : Region.wanted o (yielded ops a.tmps) = true) : YieldsIf Tryd.prog ops (HeldT w0 S T ga gb) o (.agg (bitsA S)) a := loadRef ho hx hw fun _ h => h.2.1
theorem loadB_t (ho : o.op = .load 28 x) (hx : a.eval x = .pointer (some ⟨gb, 0, none⟩)) (hw : Region.wanted o (yielded ops a.tmps) = true) : YieldsIf Tryd.prog ops (HeldT w0 S T ga gb) o (.agg (bitsA T)) a := loadRef ho hx hw fun _ h => h.2.2
theorem cell_t (c : Nat) (b : Bool) (hc : c < 256) (hb : mem S c = b) (ho : o.op = .load 4 x) (hx : a.eval x = .pointer (some ⟨ga, c, none⟩)) (hw : Region.wanted o (yielded ops a.tmps) = true) : YieldsIf Tryd.prog ops (HeldT w0 S T ga gb) o (.bool b) a := by
  refine Or.inl ⟨hw, fun w h => ?_⟩
  have hcell := h.2.1.cell c hc
  rw [hb] at hcell
  unfold execOp
  simp only [ho, hx]
  go_simp
theorem index_t {R : World → Prop} (g c : Nat) (hc : c < 256) (ho : o.op = .indexAddr 26 x y) (hx : a.eval x = .pointer (some ⟨g, 0, none⟩)) (hy : a.eval y = .int .u8 (c : Int)) (hw : Region.wanted o (yielded ops a.tmps) = true) : YieldsIf Tryd.prog ops R o (.pointer (some ⟨g, c, none⟩)) a := by
  refine Or.inl ⟨hw, fun w _ => ?_⟩
  have c0 : (0 : Int) ≤ c := by omega
  have c1 : (c : Int) < 256 := by omega
  unfold execOp
  simp only [ho, hx, hy]
  go_simp
theorem neq64_y {R : World → Prop} {m n : Int} (b : Bool) (ho : o.op = .binOp .neq 3 x y 3) (hx : a.eval x = .int .i64 m) (hy : a.eval y = .int .i64 n) (hb : (m != n) = b) (hw : Region.wanted o (yielded ops a.tmps) = true) : YieldsIf Tryd.prog ops R o (.bool b) a := by
  refine Or.inl ⟨hw, fun w _ => ?_⟩
  unfold execOp
  simp only [ho, hx, hy]
  go_simp
theorem neq8_y {R : World → Prop} {m n : Int} (b : Bool) (ho : o.op = .binOp .neq 5 x y 5) (hx : a.eval x = .int .u8 m) (hy : a.eval y = .int .u8 n) (hb : (m != n) = b) (hw : Region.wanted o (yielded ops a.tmps) = true) : YieldsIf Tryd.prog ops R o (.bool b) a := by
  refine Or.inl ⟨hw, fun w _ => ?_⟩
  unfold execOp
  simp only [ho, hx, hy]
  go_simp
theorem eqW_y {R : World → Prop} (A : BitVec 256) (ho : o.op = .binOp .eql 23 x y 23) (hx : a.eval x = setV A) (hy : a.eval y = setV A) (hw : Region.wanted o (yielded ops a.tmps) = true) : YieldsIf Tryd.prog ops R o (.bool true) a := by
  refine Or.inl ⟨hw, fun w _ => ?_⟩
  unfold execOp
  simp only [ho, hx, hy]
  go_simp
/-- The four words of a set are read as an array. -/
theorem load23_y {w0 : World} {bs : List (Nat × BitVec 256)} {g : Nat} {U : BitVec 256} (ho : o.op = .load 23 x) (hx : a.eval x = .pointer (some ⟨g, 0, none⟩)) (hm : (g, U) ∈ bs) (hw : Region.wanted o (yielded ops a.tmps) = true) : YieldsIf Tryd.prog ops (Held w0 bs) o (setV U) a := by
  refine Or.inl ⟨hw, fun w h => ?_⟩
  have hb : Box w g U := h.1 _ hm
  unfold execOp
  simp only [ho, hx, Instr.loadAt, Instr.sureAddr, Sem.run_bind, Sem.run_pure, Result.andThen_ok, run_loadVar_row w g _ _ _ _ _ hb Tryd.underlying23 rfl (by kernel_rfl)]
end

section
variable {ops : Array Oper} {Q : Exit → Act → World → Prop} {md : Region.Mode} {S : World → Prop} {fuel : Nat} {listed : Array Bool} {a : Act} {w : World}
/-- One of several that can come up: a store of a whole set. -/
theorem storeStep (i : Nat) {oi : Oper} {x y : Operand} (g : Nat) (U V : BitVec 256) (hd : oi.dst = none) (ho : oi.op = .store 28 x y) (hw : Region.wanted oi (yielded ops a.tmps) = true)
    (hx : a.eval x = .pointer (some ⟨g, 0, none⟩)) (hy : a.eval y = .agg (bitsA V)) (hg : BoxA w g U) (hS : S (w.setRow g (bitsA V)))
    (hgo : wpAnyH Tryd.prog md ops Q S fuel (listed.setIfInBounds i true) a (w.setRow g (bitsA V))) :
    ∀ K' : Act → World → Prop, Shut (∀ a w, S w → (S w → wpAnyH Tryd.prog md ops Q S fuel (listed.setIfInBounds i true) a w) → K' a w) → if Region.wanted oi (yielded ops a.tmps) = true then Oper.wp Tryd.prog oi a w K' Q else K' (a.put oi.dst undef) w := by
  intro K hK
  rw [if_pos hw]
  refine wp_store_row 28 x y ho g (bitsA V) hx hy _ (bitsA U) hg (by rw [bitsA_size]; exact sizeRef) (by rw [bitsA_size, bitsA_size]) (bitsA_one V) ?_
  rw [hd]
  exact hK.out _ _ hS (fun _ => hgo)
end
end Go.Proofs.YtobhhhopkkcdiaaDoor
