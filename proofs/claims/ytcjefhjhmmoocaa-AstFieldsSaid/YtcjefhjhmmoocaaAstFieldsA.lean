/-
  The statement AstFields: what its walk comes to.
-/
import Derived.Test.YtcjefhjhmmoocaaAstCopiesLaw
namespace Go.Proofs.Ytcjefhjhmmoocaa
open Go.RowKit

def nd0 : Nd := ⟨0, 0, 0, 0, 0, 0, 0, 0, 0, 0, 0, false⟩
def lZ : Nat → Nd := fun _ => nd0
section
variable {u : World} {Ty : TypeId} {g : Nat} {k a b s0 s1 s2 s3 mn mx md n : Int} {f : Bool}
theorem Box12.set5 (h : Box12 u Ty g k a b s0 s1 s2 s3 mn mx md n f) (x : Int) : Box12 (u.setCell ⟨g, 5, none⟩ (.int .u64 x)) Ty g k a b s0 s1 x s3 mn mx md n f := by
  unfold Box12 at h ⊢
  rw [setCell_eq_setRow u g 5 _ _ _ _ h]
  exact setRow_heap u g _ _ _ _ h
theorem Box12.set8 (h : Box12 u Ty g k a b s0 s1 s2 s3 mn mx md n f) (x : Int) : Box12 (u.setCell ⟨g, 8, none⟩ (.int .i64 x)) Ty g k a b s0 s1 s2 s3 mn x md n f := by
  unfold Box12 at h ⊢
  rw [setCell_eq_setRow u g 8 _ _ _ _ h]
  exact setRow_heap u g _ _ _ _ h
theorem Box12.set10 (h : Box12 u Ty g k a b s0 s1 s2 s3 mn mx md n f) (x : Int) : Box12 (u.setCell ⟨g, 10, none⟩ (.int .i64 x)) Ty g k a b s0 s1 s2 s3 mn mx md x f := by
  unfold Box12 at h ⊢
  rw [setCell_eq_setRow u g 10 _ _ _ _ h]
  exact setRow_heap u g _ _ _ _ h
theorem Box12.set11 (h : Box12 u Ty g k a b s0 s1 s2 s3 mn mx md n f) (x : Bool) : Box12 (u.setCell ⟨g, 11, none⟩ (.bool x)) Ty g k a b s0 s1 s2 s3 mn mx md n x := by
  unfold Box12 at h ⊢
  rw [setCell_eq_setRow u g 11 _ _ _ _ h]
  exact setRow_heap u g _ _ _ _ h
end
theorem Box12.past {u : World} {Ty : TypeId} {g : Nat} {k a b s0 s1 s2 s3 mn mx md n : Int} {f : Bool} (h : Box12 u Ty g k a b s0 s1 s2 s3 mn mx md n f) {c : Nat} (hc : g ≠ c) (j : Nat) (v : Value) : Box12 (u.setCell ⟨c, j, none⟩ v) Ty g k a b s0 s1 s2 s3 mn mx md n f := (heap_setCell_other _ ⟨c, j, none⟩ g v hc).trans h
/-- A root that is no node leaves no tree. -/
theorem bad_top {l : Nat → Nd} {n : Nat} (h : fitsB (l n) = false) (hn : n < 500) : rightZ l (n + 1) = 3 := by
  have hs : siz l (n + 1) = 0 := by rw [siz_succ, h]; rfl
  have hf : formZ l (n + 1) = 3 := by
    unfold formZ goodB
    rw [if_neg (by omega), hs]
    simp
  have h3 : shapeZ l (n + 1) = 3 := by
    unfold shapeZ
    rw [if_neg (by omega), hf]
  unfold rightZ
  rw [h3]
  simp
theorem cell_past {w : World} {b g : Nat} (h : b ≠ g) (i : Nat) (v : Value) (j : Nat) : (w.setCell ⟨g, i, none⟩ v).cell? ⟨b, j, none⟩ = w.cell? ⟨b, j, none⟩ := by
  have ho := heap_setCell_other w ⟨g, i, none⟩ b v h
  unfold World.cell?
  rw [ho]
theorem at_of {w : World} {z n : Nat} {l : Nat → Nd} (h : Nodes w (some ⟨z, 0, none⟩) n l) (i : Nat) (hi : i < n) : At12 w z (i * 12) (l i) := by
  obtain ⟨b, o, e, _, h3⟩ := h i hi
  cases e
  rwa [Nat.zero_add] at h3
theorem RowZ.read {u : World} {z N : Nat} (h : RowZ u z N) {i j : Nat} (hj : j < N * 12) (v : Value) : (u.setCell ⟨z, j, none⟩ v).cell? ⟨z, i, none⟩ = bif Nat.beq i j then some v else u.cell? ⟨z, i, none⟩ := by
  obtain ⟨cur, h1, h2⟩ := h
  have h3 : (u.setCell ⟨z, j, none⟩ v).heap[z]? = some (.cells (cur.setIfInBounds j v) 45 (0, 0)) := by
    rw [setCell_eq_setRow u z j _ _ _ v h1]
    exact setRow_heap u z _ _ _ _ h1
  unfold World.cell?
  simp only [h1, h3]
  by_cases e : i = j
  · subst e
    rw [show Nat.beq i i = true from Nat.beq_refl i, cond_true]
    show (cur.setIfInBounds i v)[i]? = some v
    rw [Array.getElem?_setIfInBounds]
    simp
    omega
  · rw [show Nat.beq i j = false from by rw [Bool.eq_false_iff]; intro h; exact e (Nat.eq_of_beq_eq_true h), cond_false]
    show (cur.setIfInBounds j v)[i]? = cur[i]?
    rw [Array.getElem?_setIfInBounds]
    simp [Ne.symm e]
/-- Three nodes' cells, one by one. -/
def Rd (u : World) (z : Nat) (F : Nat → Value) : Prop := RowZ u z 3 ∧ ∀ i, i < 36 → u.cell? ⟨z, i, none⟩ = some (F i)
theorem Rd.set {u : World} {z : Nat} {F : Nat → Value} (h : Rd u z F) (j : Nat) (hj : j < 36) (v : Value) : Rd (u.setCell ⟨z, j, none⟩ v) z (fun i => bif Nat.beq i j then v else F i) := by
  refine ⟨h.1.set j v, fun i hi => ?_⟩
  rw [h.1.read hj, h.2 i hi]
  show _ = some (bif Nat.beq i j then v else F i)
  cases Nat.beq i j <;> rfl
theorem Rd.past {u : World} {z k : Nat} {F : Nat → Value} (h : Rd u z F) (hk : z ≠ k) (j : Nat) (v : Value) : Rd (u.setCell ⟨k, j, none⟩ v) z F :=
  ⟨h.1.other hk j v, fun i hi => (cell_past hk j v i).trans (h.2 i hi)⟩
theorem rd_of {u : World} {z : Nat} {l : Nat → Nd} (h : Nodes u (some ⟨z, 0, none⟩) 3 l) (hr : RowZ u z 3) : Rd u z (fun i => (ndC (l (i / 12))).getD (i % 12) undef) := by
  refine ⟨hr, fun i hi => ?_⟩
  have h1 := (at_of h (i / 12) (by omega)).get (i % 12) (by omega)
  rw [show i / 12 * 12 + i % 12 = i by omega] at h1
  rw [h1]
  have hl : (ndC (l (i / 12))).length = 12 := rfl
  show _ = some ((ndC (l (i / 12))).getD (i % 12) undef)
  rw [List.getD_eq_getElem?_getD, List.getElem?_eq_getElem (by omega)]
  rfl
theorem Rd.nodes {u : World} {z : Nat} {F : Nat → Value} (h : Rd u z F) (l : Nat → Nd) (e : ∀ i, i < 3 → ndC (l i) = [F (i * 12), F (i * 12 + 1), F (i * 12 + 2), F (i * 12 + 3), F (i * 12 + 4), F (i * 12 + 5), F (i * 12 + 6), F (i * 12 + 7), F (i * 12 + 8), F (i * 12 + 9), F (i * 12 + 10), F (i * 12 + 11)]) : Nodes u (some ⟨z, 0, none⟩) 3 l := fun i hi => by
  refine ⟨z, 0, rfl, h.1.lt, at12_of fun j hj => ?_⟩
  rw [e i hi, Nat.zero_add, h.2 (i * 12 + j) (by omega)]
  match j, hj with
  | 0, _ | 1, _ | 2, _ | 3, _ | 4, _ | 5, _ | 6, _ | 7, _ | 8, _ | 9, _ | 10, _ | 11, _ => rfl
theorem nodes_past {w : World} {A : Option Addr} {n : Nat} {l : Nat → Nd} (h : Nodes w A n l) {g : Nat} (hg : ∀ a, A = some a → a.block ≠ g) (j : Nat) (v : Value) : Nodes (w.setCell ⟨g, j, none⟩ v) A n l := fun i hi => by
  obtain ⟨b, o, e, hb, h3⟩ := h i hi
  have hne : b ≠ g := hg _ e
  have ho := heap_setCell_other w ⟨g, j, none⟩ b v hne
  refine ⟨b, o, e, ?_, h3.keep fun j => ?_⟩
  · have h1 : w.heap[b]? = some w.heap[b] := Array.getElem?_eq_getElem hb
    exact heap_lt (ho.trans h1)
  · unfold World.cell?
    rw [ho]

set_option maxRecDepth 20000 in
set_option maxHeartbeats 4000000 in
theorem fields_0a (hS : SortOk) (hN : SortNone) (k f : Nat) (w : World) (hk : k < 256) (h0 : f % 4 = 0) (h8 : k % 18 ≠ 8) (h9 : k % 18 ≠ 9) (h10 : k % 18 ≠ 10) (h11 : k % 18 ≠ 11) (h13 : k % 18 < 13) (hx : k % 18 ≠ 1) :
    Calls Try.prog 7 #[.int .u8 (k : Int), .int .u8 (f : Int)] w fun e w' => e = .returned (.bool true) ∧ Below w.heap.size w w' := by
  have HSN := Lib.hid (And.intro hS hN)
  clear hS hN
  have hfz : (f : Int) % 4 = 0 := by omega
  clear h0
  go_enter Try.func7, Try.ntmps7
  go_wp2_with fail
  obtain ⟨q, hq⟩ : ∃ q : Int, q = (k : Int) % 18 := ⟨_, rfl⟩
  rw [← hq]
  have g8 : ¬ q = 8 := by omega
  have g8e : (q == 8) = false := by simp; omega
  have g8n : (q != 8) = true := by simp; omega
  have g9 : ¬ q = 9 := by omega
  have g9e : (q == 9) = false := by simp; omega
  have g9n : (q != 9) = true := by simp; omega
  have g10 : ¬ q = 10 := by omega
  have g10e : (q == 10) = false := by simp; omega
  have g10n : (q != 10) = true := by simp; omega
  have g11 : ¬ q = 11 := by omega
  have g11e : (q == 11) = false := by simp; omega
  have g11n : (q != 11) = true := by simp; omega
  have g13 : q < 13 := by omega
  have g1 : ¬ q = 1 := by omega
  have g1e : (q == 1) = false := by simp; omega
  have g1n : (q != 1) = true := by simp; omega
  have hqr : 0 ≤ q ∧ q ≤ 17 := by omega
  clear hq hk h8 h9 h10 h11 h13 hx
  refine (leaf_any nd0 _).mono ?_
  rintro e w1 ⟨A6, n6, rfl, ho, hb⟩
  obtain ⟨A6, m6, e', -, h6, h6b⟩ := own_nodes ho
  cases e'
  have HB := Lib.hid (Box12.new w 45 q 0 0 0 0 0 0 0 0 0 0 false |>.call hb)
  have cc := fun o => (HB.out.alloc o).cells
  have c0 := fun o => (cc o).1
  have c1 := fun o => (cc o).2.1
  have c2 := fun o => (cc o).2.2.1
  have c3 := fun o => (cc o).2.2.2.1
  have c4 := fun o => (cc o).2.2.2.2.1
  have c5 := fun o => (cc o).2.2.2.2.2.1
  have c6 := fun o => (cc o).2.2.2.2.2.2.1
  have c7 := fun o => (cc o).2.2.2.2.2.2.2.1
  have c8 := fun o => (cc o).2.2.2.2.2.2.2.2.1
  have c9 := fun o => (cc o).2.2.2.2.2.2.2.2.2.1
  have c10 := fun o => (cc o).2.2.2.2.2.2.2.2.2.2.1
  have c11 := fun o => (cc o).2.2.2.2.2.2.2.2.2.2.2
  clear cc
  have fz := fun o j => (HB.out.alloc o).free j
  have hz : ∀ o, (World.alloc w1 o).heap[w.heap.size]? = some (.cells #[.int .i64 q, .int .i64 0, .int .i64 0, .int .u64 0, .int .u64 0, .int .u64 0, .int .u64 0, .int .i64 0, .int .i64 0, .int .i64 0, .int .i64 0, .bool false] 45 (0, 0)) := fun o => HB.out.alloc o
  have HW := Lib.hid (thenB (show Below w.heap.size w (World.alloc w (.cells #[.int .i64 q, .int .i64 0, .int .i64 0, .int .u64 0, .int .u64 0, .int .u64 0, .int .u64 0, .int .i64 0, .int .i64 0, .int .i64 0, .int .i64 0, .bool false] 45)) by go_grown) hb (by simp))
  have H6 := Lib.hid (show Nodes w1 A6 1 lZ from h6)
  clear ho hb h6
  go_wp2_with fail
  clear c0 c1 c2 c3 c4 c5 c6 c7 c8 c9 c10 c11
  clear fz hz
  have hgl := HB.out.lt
  obtain ⟨V, hV⟩ : ∃ V, V = (World.alloc w1 (.cells #[.slice A6 1 n6] 24)).setCell ⟨w.heap.size, 5, none⟩ (.int .u64 9) := ⟨_, rfl⟩
  rw [← hV]
  have HV : Below w.heap.size w V := by rw [hV]; exact (HW.out.trans (show Below w.heap.size w1 (World.alloc w1 (.cells #[.slice A6 1 n6] 24)) from Below.mono (show Below w1.heap.size w1 _ by go_grown) (by omega))).setCell (p := ⟨w.heap.size, 5, none⟩) (Nat.le_refl _) _
  have HBV := Lib.hid (show Box12 V 45 (w.heap.size) q 0 0 0 0 9 0 0 0 0 0 false by rw [hV]; exact (HB.out.alloc _).set5 _)
  have HTV := Lib.hid (show TreeBox V w1.heap.size A6 1 n6 by rw [hV]; exact (heap_setCell_other _ ⟨w.heap.size, 5, none⟩ w1.heap.size _ (by show w1.heap.size ≠ w.heap.size; omega)).trans (TreeBox.new w1 A6 1 n6))
  have HNV := Lib.hid (show Nodes V A6 1 lZ by
    rw [hV]
    exact nodes_past (H6.out.call (show Below w1.heap.size w1 _ by go_grown)) (fun a ha => by have := h6b a ha; simp at this; omega) _ _)
  clear hV HB H6 HW hgl h6b
  refine (wrap_any A6 1 n6 lZ ⟨q, 0, 0, 0, 0, 9, 0, 0, 0, 0, 0, false⟩ _ (by omega) (not_none HNV.out (by omega)) HNV.out).mono ?_
  rintro e w2 ⟨A7, n7, rfl, ho, hb⟩
  obtain ⟨A7, m7, e', -, h7, -⟩ := own_nodes ho
  cases e'
  have HB2 := Lib.hid (HBV.out.call hb)
  have HW2 := Lib.hid (thenB HV hb HV.size)
  have cc := fun o => (HB2.out.alloc o).cells
  have c0 := fun o => (cc o).1
  have c1 := fun o => (cc o).2.1
  have c2 := fun o => (cc o).2.2.1
  have c3 := fun o => (cc o).2.2.2.1
  have c4 := fun o => (cc o).2.2.2.2.1
  have c5 := fun o => (cc o).2.2.2.2.2.1
  have c6 := fun o => (cc o).2.2.2.2.2.2.1
  have c7 := fun o => (cc o).2.2.2.2.2.2.2.1
  have c8 := fun o => (cc o).2.2.2.2.2.2.2.2.1
  have c9 := fun o => (cc o).2.2.2.2.2.2.2.2.2.1
  have c10 := fun o => (cc o).2.2.2.2.2.2.2.2.2.2.1
  have c11 := fun o => (cc o).2.2.2.2.2.2.2.2.2.2.2
  clear cc
  clear ho hb h7 HBV HTV HNV HV
  go_wp2_with fail
  clear c0 c1 c2 c3 c4 c5 c6 c7 c8 c9 c10 c11
  refine (leaf_any ⟨q, 0, 0, 0, 0, 9, 0, 0, 0, 0, 0, false⟩ _).mono ?_
  rintro e w3 ⟨A8, n8, rfl, ho, hb⟩
  obtain ⟨A8, m8, e', -, h8, h8b⟩ := own_nodes ho
  cases e'
  have hg2 := HB2.out.lt
  have HX := Lib.hid (show Below w2.heap.size w2 (World.alloc w2 (.cells #[.slice A7 2 n7] 24)) by go_grown)
  have HT9 := Lib.hid ((TreeBox.new w2 A7 2 n7).call hb)
  have HB3 := Lib.hid ((HB2.out.call HX.out).call hb)
  have HW3 := Lib.hid (thenB (thenB HW2.out HX.out HW2.out.size) hb (by have h1 := HW2.out.size; have h2 := HX.out.size; omega))
  have hz := HT9.out
  unfold TreeBox at hz
  have c9 := HT9.out.cell
  have fz := HT9.out.free
  have c0 := fun v => (HB3.out.past (c := w2.heap.size) (by omega) 0 v).cells.1
  clear ho hb HX HB2 HW2
  go_wp2_with fail
  have HW4 := Lib.hid (below_store HW3.out (show w.heap.size ≤ w2.heap.size by omega) (.slice A8 1 n8))
  have HN4 := Lib.hid (show Nodes _ A8 1 (fun _ => ⟨q, 0, 0, 0, 0, 9, 0, 0, 0, 0, 0, false⟩) from nodes_past h8 (fun a ha => by have := h8b a ha; simp at this; show a.block ≠ w2.heap.size; omega) 0 (.slice A8 1 n8))
  clear c0 c9 fz hz HT9 HB3 HW3 h8 h8b hg2
  refine (right_any HSN.out.1 HSN.out.2 A8 1 n8 (fun _ => ⟨q, 0, 0, 0, 0, 9, 0, 0, 0, 0, 0, false⟩) _ (by omega) HN4.out).mono ?_
  rintro e w5 ⟨rfl, hb⟩
  have HW5 := Lib.hid (thenB HW4.out hb HW4.out.size)
  clear hb HW4 HN4
  rw [bad_top (l := (fun _ => ⟨q, 0, 0, 0, 0, 9, 0, 0, 0, 0, 0, false⟩)) (n := 0) (by unfold fitsB; simp; omega) (by omega)]
  go_wp2_with fail
  refine (fixed_any HSN.out.1 HSN.out.2 _).mono ?_
  rintro e w9 ⟨rfl, hb⟩
  have HZ := Lib.hid (thenB HW5.out hb HW5.out.size)
  clear hb HW5
  go_wp2_with fail
  go_ret
  exact ⟨rfl, HZ.out⟩

set_option maxRecDepth 20000 in
set_option maxHeartbeats 4000000 in
theorem fields_0b (hS : SortOk) (hN : SortNone) (k f : Nat) (w : World) (hk : k < 256) (h0 : f % 4 = 0) (hx : k % 18 = 1) :
    Calls Try.prog 7 #[.int .u8 (k : Int), .int .u8 (f : Int)] w fun e w' => e = .returned (.bool true) ∧ Below w.heap.size w w' := by
  have HSN := Lib.hid (And.intro hS hN)
  clear hS hN
  have hfz : (f : Int) % 4 = 0 := by omega
  clear h0
  go_enter Try.func7, Try.ntmps7
  go_wp2_with fail
  rw [show ((k : Int) % 18) = 1 by omega]
  clear hk hx
  refine (leaf_any nd0 _).mono ?_
  rintro e w1 ⟨A6, n6, rfl, ho, hb⟩
  obtain ⟨A6, m6, e', -, h6, h6b⟩ := own_nodes ho
  cases e'
  have HB := Lib.hid (Box12.new w 45 1 0 0 0 0 0 0 0 0 0 0 false |>.call hb)
  have cc := fun o => (HB.out.alloc o).cells
  have c0 := fun o => (cc o).1
  have c1 := fun o => (cc o).2.1
  have c2 := fun o => (cc o).2.2.1
  have c3 := fun o => (cc o).2.2.2.1
  have c4 := fun o => (cc o).2.2.2.2.1
  have c5 := fun o => (cc o).2.2.2.2.2.1
  have c6 := fun o => (cc o).2.2.2.2.2.2.1
  have c7 := fun o => (cc o).2.2.2.2.2.2.2.1
  have c8 := fun o => (cc o).2.2.2.2.2.2.2.2.1
  have c9 := fun o => (cc o).2.2.2.2.2.2.2.2.2.1
  have c10 := fun o => (cc o).2.2.2.2.2.2.2.2.2.2.1
  have c11 := fun o => (cc o).2.2.2.2.2.2.2.2.2.2.2
  clear cc
  have fz := fun o j => (HB.out.alloc o).free j
  have hz : ∀ o, (World.alloc w1 o).heap[w.heap.size]? = some (.cells #[.int .i64 1, .int .i64 0, .int .i64 0, .int .u64 0, .int .u64 0, .int .u64 0, .int .u64 0, .int .i64 0, .int .i64 0, .int .i64 0, .int .i64 0, .bool false] 45 (0, 0)) := fun o => HB.out.alloc o
  have HW := Lib.hid (thenB (show Below w.heap.size w (World.alloc w (.cells #[.int .i64 1, .int .i64 0, .int .i64 0, .int .u64 0, .int .u64 0, .int .u64 0, .int .u64 0, .int .i64 0, .int .i64 0, .int .i64 0, .int .i64 0, .bool false] 45)) by go_grown) hb (by simp))
  have H6 := Lib.hid (show Nodes w1 A6 1 lZ from h6)
  clear ho hb h6
  go_wp2_with fail
  clear c0 c1 c2 c3 c4 c5 c6 c7 c8 c9 c10 c11
  clear fz hz
  have hgl := HB.out.lt
  obtain ⟨V, hV⟩ : ∃ V, V = (World.alloc w1 (.cells #[.slice A6 1 n6] 24)).setCell ⟨w.heap.size, 5, none⟩ (.int .u64 9) := ⟨_, rfl⟩
  rw [← hV]
  have HV : Below w.heap.size w V := by rw [hV]; exact (HW.out.trans (show Below w.heap.size w1 (World.alloc w1 (.cells #[.slice A6 1 n6] 24)) from Below.mono (show Below w1.heap.size w1 _ by go_grown) (by omega))).setCell (p := ⟨w.heap.size, 5, none⟩) (Nat.le_refl _) _
  have HBV := Lib.hid (show Box12 V 45 (w.heap.size) 1 0 0 0 0 9 0 0 0 0 0 false by rw [hV]; exact (HB.out.alloc _).set5 _)
  have HTV := Lib.hid (show TreeBox V w1.heap.size A6 1 n6 by rw [hV]; exact (heap_setCell_other _ ⟨w.heap.size, 5, none⟩ w1.heap.size _ (by show w1.heap.size ≠ w.heap.size; omega)).trans (TreeBox.new w1 A6 1 n6))
  have HNV := Lib.hid (show Nodes V A6 1 lZ by
    rw [hV]
    exact nodes_past (H6.out.call (show Below w1.heap.size w1 _ by go_grown)) (fun a ha => by have := h6b a ha; simp at this; omega) _ _)
  clear hV HB H6 HW hgl h6b
  refine (wrap_any A6 1 n6 lZ ⟨1, 0, 0, 0, 0, 9, 0, 0, 0, 0, 0, false⟩ _ (by omega) (not_none HNV.out (by omega)) HNV.out).mono ?_
  rintro e w2 ⟨A7, n7, rfl, ho, hb⟩
  obtain ⟨A7, m7, e', -, h7, -⟩ := own_nodes ho
  cases e'
  have HB2 := Lib.hid (HBV.out.call hb)
  have HW2 := Lib.hid (thenB HV hb HV.size)
  have cc := fun o => (HB2.out.alloc o).cells
  have c0 := fun o => (cc o).1
  have c1 := fun o => (cc o).2.1
  have c2 := fun o => (cc o).2.2.1
  have c3 := fun o => (cc o).2.2.2.1
  have c4 := fun o => (cc o).2.2.2.2.1
  have c5 := fun o => (cc o).2.2.2.2.2.1
  have c6 := fun o => (cc o).2.2.2.2.2.2.1
  have c7 := fun o => (cc o).2.2.2.2.2.2.2.1
  have c8 := fun o => (cc o).2.2.2.2.2.2.2.2.1
  have c9 := fun o => (cc o).2.2.2.2.2.2.2.2.2.1
  have c10 := fun o => (cc o).2.2.2.2.2.2.2.2.2.2.1
  have c11 := fun o => (cc o).2.2.2.2.2.2.2.2.2.2.2
  clear cc
  clear ho hb h7 HBV HTV HNV HV
  go_wp2_with fail
  clear c0 c1 c2 c3 c4 c5 c6 c7 c8 c9 c10 c11
  refine (leaf_any ⟨1, 0, 0, 0, 0, 9, 0, 0, 0, 0, 0, false⟩ _).mono ?_
  rintro e w3 ⟨A8, n8, rfl, ho, hb⟩
  obtain ⟨A8, m8, e', -, h8, h8b⟩ := own_nodes ho
  cases e'
  have hg2 := HB2.out.lt
  have HX := Lib.hid (show Below w2.heap.size w2 (World.alloc w2 (.cells #[.slice A7 2 n7] 24)) by go_grown)
  have HT9 := Lib.hid ((TreeBox.new w2 A7 2 n7).call hb)
  have HB3 := Lib.hid ((HB2.out.call HX.out).call hb)
  have HW3 := Lib.hid (thenB (thenB HW2.out HX.out HW2.out.size) hb (by have h1 := HW2.out.size; have h2 := HX.out.size; omega))
  have hz := HT9.out
  unfold TreeBox at hz
  have c9 := HT9.out.cell
  have fz := HT9.out.free
  have c0 := fun v => (HB3.out.past (c := w2.heap.size) (by omega) 0 v).cells.1
  clear ho hb HX HB2 HW2
  go_wp2_with fail
  have HW4 := Lib.hid (below_store HW3.out (show w.heap.size ≤ w2.heap.size by omega) (.slice A8 1 n8))
  have HN4 := Lib.hid (show Nodes _ A8 1 (fun _ => ⟨1, 0, 0, 0, 0, 9, 0, 0, 0, 0, 0, false⟩) from nodes_past h8 (fun a ha => by have := h8b a ha; simp at this; show a.block ≠ w2.heap.size; omega) 0 (.slice A8 1 n8))
  clear c0 c9 fz hz HT9 HB3 HW3 h8 h8b hg2
  refine (right_any HSN.out.1 HSN.out.2 A8 1 n8 (fun _ => ⟨1, 0, 0, 0, 0, 9, 0, 0, 0, 0, 0, false⟩) _ (by omega) HN4.out).mono ?_
  rintro e w5 ⟨rfl, hb⟩
  have HW5 := Lib.hid (thenB HW4.out hb HW4.out.size)
  clear hb HW4 HN4
  have hr : rightZ (fun _ => ⟨1, 0, 0, 0, 0, 9, 0, 0, 0, 0, 0, false⟩) 1 = 0 := by decide
  rw [hr]
  go_wp2_with fail
  refine (fixed_any HSN.out.1 HSN.out.2 _).mono ?_
  rintro e w9 ⟨rfl, hb⟩
  have HZ := Lib.hid (thenB HW5.out hb HW5.out.size)
  clear hb HW5
  go_wp2_with fail
  go_ret
  exact ⟨rfl, HZ.out⟩

set_option maxRecDepth 20000 in
set_option maxHeartbeats 4000000 in
theorem fields_0c (hS : SortOk) (hN : SortNone) (k f : Nat) (w : World) (hk : k < 256) (h0 : f % 4 = 0) (hx : k % 18 = 10) :
    Calls Try.prog 7 #[.int .u8 (k : Int), .int .u8 (f : Int)] w fun e w' => e = .returned (.bool true) ∧ Below w.heap.size w w' := by
  have HSN := Lib.hid (And.intro hS hN)
  clear hS hN
  have hfz : (f : Int) % 4 = 0 := by omega
  clear h0
  go_enter Try.func7, Try.ntmps7
  go_wp2_with fail
  rw [show ((k : Int) % 18) = 10 by omega]
  clear hk hx
  refine (leaf_any nd0 _).mono ?_
  rintro e w1 ⟨A6, n6, rfl, ho, hb⟩
  obtain ⟨A6, m6, e', -, h6, h6b⟩ := own_nodes ho
  cases e'
  have HB := Lib.hid (Box12.new w 45 10 0 0 0 0 0 0 0 0 0 0 false |>.call hb)
  have cc := fun o => (HB.out.alloc o).cells
  have c0 := fun o => (cc o).1
  have c1 := fun o => (cc o).2.1
  have c2 := fun o => (cc o).2.2.1
  have c3 := fun o => (cc o).2.2.2.1
  have c4 := fun o => (cc o).2.2.2.2.1
  have c5 := fun o => (cc o).2.2.2.2.2.1
  have c6 := fun o => (cc o).2.2.2.2.2.2.1
  have c7 := fun o => (cc o).2.2.2.2.2.2.2.1
  have c8 := fun o => (cc o).2.2.2.2.2.2.2.2.1
  have c9 := fun o => (cc o).2.2.2.2.2.2.2.2.2.1
  have c10 := fun o => (cc o).2.2.2.2.2.2.2.2.2.2.1
  have c11 := fun o => (cc o).2.2.2.2.2.2.2.2.2.2.2
  clear cc
  have fz := fun o j => (HB.out.alloc o).free j
  have hz : ∀ o, (World.alloc w1 o).heap[w.heap.size]? = some (.cells #[.int .i64 10, .int .i64 0, .int .i64 0, .int .u64 0, .int .u64 0, .int .u64 0, .int .u64 0, .int .i64 0, .int .i64 0, .int .i64 0, .int .i64 0, .bool false] 45 (0, 0)) := fun o => HB.out.alloc o
  have HW := Lib.hid (thenB (show Below w.heap.size w (World.alloc w (.cells #[.int .i64 10, .int .i64 0, .int .i64 0, .int .u64 0, .int .u64 0, .int .u64 0, .int .u64 0, .int .i64 0, .int .i64 0, .int .i64 0, .int .i64 0, .bool false] 45)) by go_grown) hb (by simp))
  have H6 := Lib.hid (show Nodes w1 A6 1 lZ from h6)
  clear ho hb h6
  go_wp2_with fail
  clear c0 c1 c2 c3 c4 c5 c6 c7 c8 c9 c10 c11
  clear fz hz
  have hgl := HB.out.lt
  obtain ⟨V, hV⟩ : ∃ V, V = (World.alloc w1 (.cells #[.slice A6 1 n6] 24)).setCell ⟨w.heap.size, 5, none⟩ (.int .u64 9) := ⟨_, rfl⟩
  rw [← hV]
  have HV : Below w.heap.size w V := by rw [hV]; exact (HW.out.trans (show Below w.heap.size w1 (World.alloc w1 (.cells #[.slice A6 1 n6] 24)) from Below.mono (show Below w1.heap.size w1 _ by go_grown) (by omega))).setCell (p := ⟨w.heap.size, 5, none⟩) (Nat.le_refl _) _
  have HBV := Lib.hid (show Box12 V 45 (w.heap.size) 10 0 0 0 0 9 0 0 0 0 0 false by rw [hV]; exact (HB.out.alloc _).set5 _)
  have HTV := Lib.hid (show TreeBox V w1.heap.size A6 1 n6 by rw [hV]; exact (heap_setCell_other _ ⟨w.heap.size, 5, none⟩ w1.heap.size _ (by show w1.heap.size ≠ w.heap.size; omega)).trans (TreeBox.new w1 A6 1 n6))
  have HNV := Lib.hid (show Nodes V A6 1 lZ by
    rw [hV]
    exact nodes_past (H6.out.call (show Below w1.heap.size w1 _ by go_grown)) (fun a ha => by have := h6b a ha; simp at this; omega) _ _)
  clear hV HB H6 HW hgl h6b
  refine (wrap_any A6 1 n6 lZ ⟨10, 0, 0, 0, 0, 9, 0, 0, 0, 0, 0, false⟩ _ (by omega) (not_none HNV.out (by omega)) HNV.out).mono ?_
  rintro e w2 ⟨A7, n7, rfl, ho, hb⟩
  obtain ⟨A7, m7, e', -, h7, -⟩ := own_nodes ho
  cases e'
  have HB2 := Lib.hid (HBV.out.call hb)
  have HW2 := Lib.hid (thenB HV hb HV.size)
  have cc := fun o => (HB2.out.alloc o).cells
  have c0 := fun o => (cc o).1
  have c1 := fun o => (cc o).2.1
  have c2 := fun o => (cc o).2.2.1
  have c3 := fun o => (cc o).2.2.2.1
  have c4 := fun o => (cc o).2.2.2.2.1
  have c5 := fun o => (cc o).2.2.2.2.2.1
  have c6 := fun o => (cc o).2.2.2.2.2.2.1
  have c7 := fun o => (cc o).2.2.2.2.2.2.2.1
  have c8 := fun o => (cc o).2.2.2.2.2.2.2.2.1
  have c9 := fun o => (cc o).2.2.2.2.2.2.2.2.2.1
  have c10 := fun o => (cc o).2.2.2.2.2.2.2.2.2.2.1
  have c11 := fun o => (cc o).2.2.2.2.2.2.2.2.2.2.2
  clear cc
  have h7 : Nodes w2 A7 2 (wrapL lZ 1 ⟨10, 0, 0, 0, 0, 9, 0, 0, 0, 0, 0, false⟩) := h7
  have H7 := Lib.hid h7
  clear ho hb h7 HBV HTV HNV HV
  go_wp2_with fail
  clear c0 c1 c2 c3 c4 c5 c6 c7 c8 c9 c10 c11
  have hg2 := HB2.out.lt
  have HX := Lib.hid (show Below w2.heap.size w2 (World.alloc w2 (.cells #[.slice A7 2 n7] 24)) by go_grown)
  have HW4 := Lib.hid (thenB HW2.out HX.out HW2.out.size)
  have HN4 := Lib.hid (H7.out.call HX.out)
  clear H7 HX HW2 HB2 hg2
  refine (right_any HSN.out.1 HSN.out.2 A7 2 n7 (wrapL lZ 1 ⟨10, 0, 0, 0, 0, 9, 0, 0, 0, 0, 0, false⟩) _ (by omega) HN4.out).mono ?_
  rintro e w5 ⟨rfl, hb⟩
  have HW5 := Lib.hid (thenB HW4.out hb HW4.out.size)
  clear hb HW4 HN4
  rw [bad_top (l := (wrapL lZ 1 ⟨10, 0, 0, 0, 0, 9, 0, 0, 0, 0, 0, false⟩)) (n := 1) (by decide) (by omega)]
  go_wp2_with fail
  refine (fixed_any HSN.out.1 HSN.out.2 _).mono ?_
  rintro e w9 ⟨rfl, hb⟩
  have HZ := Lib.hid (thenB HW5.out hb HW5.out.size)
  clear hb HW5
  go_wp2_with fail
  go_ret
  exact ⟨rfl, HZ.out⟩

set_option maxRecDepth 20000 in
set_option maxHeartbeats 4000000 in
theorem fields_0d (hS : SortOk) (hN : SortNone) (k f : Nat) (w : World) (hk : k < 256) (h0 : f % 4 = 0) (hx : k % 18 = 11) :
    Calls Try.prog 7 #[.int .u8 (k : Int), .int .u8 (f : Int)] w fun e w' => e = .returned (.bool true) ∧ Below w.heap.size w w' := by
  have HSN := Lib.hid (And.intro hS hN)
  clear hS hN
  have hfz : (f : Int) % 4 = 0 := by omega
  clear h0
  go_enter Try.func7, Try.ntmps7
  go_wp2_with fail
  rw [show ((k : Int) % 18) = 11 by omega]
  clear hk hx
  refine (leaf_any nd0 _).mono ?_
  rintro e w1 ⟨A6, n6, rfl, ho, hb⟩
  obtain ⟨A6, m6, e', -, h6, h6b⟩ := own_nodes ho
  cases e'
  have HB := Lib.hid (Box12.new w 45 11 0 0 0 0 0 0 0 0 0 0 false |>.call hb)
  have cc := fun o => (HB.out.alloc o).cells
  have c0 := fun o => (cc o).1
  have c1 := fun o => (cc o).2.1
  have c2 := fun o => (cc o).2.2.1
  have c3 := fun o => (cc o).2.2.2.1
  have c4 := fun o => (cc o).2.2.2.2.1
  have c5 := fun o => (cc o).2.2.2.2.2.1
  have c6 := fun o => (cc o).2.2.2.2.2.2.1
  have c7 := fun o => (cc o).2.2.2.2.2.2.2.1
  have c8 := fun o => (cc o).2.2.2.2.2.2.2.2.1
  have c9 := fun o => (cc o).2.2.2.2.2.2.2.2.2.1
  have c10 := fun o => (cc o).2.2.2.2.2.2.2.2.2.2.1
  have c11 := fun o => (cc o).2.2.2.2.2.2.2.2.2.2.2
  clear cc
  have fz := fun o j => (HB.out.alloc o).free j
  have hz : ∀ o, (World.alloc w1 o).heap[w.heap.size]? = some (.cells #[.int .i64 11, .int .i64 0, .int .i64 0, .int .u64 0, .int .u64 0, .int .u64 0, .int .u64 0, .int .i64 0, .int .i64 0, .int .i64 0, .int .i64 0, .bool false] 45 (0, 0)) := fun o => HB.out.alloc o
  have HW := Lib.hid (thenB (show Below w.heap.size w (World.alloc w (.cells #[.int .i64 11, .int .i64 0, .int .i64 0, .int .u64 0, .int .u64 0, .int .u64 0, .int .u64 0, .int .i64 0, .int .i64 0, .int .i64 0, .int .i64 0, .bool false] 45)) by go_grown) hb (by simp))
  have H6 := Lib.hid (show Nodes w1 A6 1 lZ from h6)
  clear ho hb h6
  go_wp2_with fail
  clear c0 c1 c2 c3 c4 c5 c6 c7 c8 c9 c10 c11
  clear fz hz
  have hgl := HB.out.lt
  obtain ⟨V, hV⟩ : ∃ V, V = (World.alloc w1 (.cells #[.slice A6 1 n6] 24)).setCell ⟨w.heap.size, 5, none⟩ (.int .u64 9) := ⟨_, rfl⟩
  rw [← hV]
  have HV : Below w.heap.size w V := by rw [hV]; exact (HW.out.trans (show Below w.heap.size w1 (World.alloc w1 (.cells #[.slice A6 1 n6] 24)) from Below.mono (show Below w1.heap.size w1 _ by go_grown) (by omega))).setCell (p := ⟨w.heap.size, 5, none⟩) (Nat.le_refl _) _
  have HBV := Lib.hid (show Box12 V 45 (w.heap.size) 11 0 0 0 0 9 0 0 0 0 0 false by rw [hV]; exact (HB.out.alloc _).set5 _)
  have HTV := Lib.hid (show TreeBox V w1.heap.size A6 1 n6 by rw [hV]; exact (heap_setCell_other _ ⟨w.heap.size, 5, none⟩ w1.heap.size _ (by show w1.heap.size ≠ w.heap.size; omega)).trans (TreeBox.new w1 A6 1 n6))
  have HNV := Lib.hid (show Nodes V A6 1 lZ by
    rw [hV]
    exact nodes_past (H6.out.call (show Below w1.heap.size w1 _ by go_grown)) (fun a ha => by have := h6b a ha; simp at this; omega) _ _)
  clear hV HB H6 HW hgl h6b
  refine (wrap_any A6 1 n6 lZ ⟨11, 0, 0, 0, 0, 9, 0, 0, 0, 0, 0, false⟩ _ (by omega) (not_none HNV.out (by omega)) HNV.out).mono ?_
  rintro e w2 ⟨A7, n7, rfl, ho, hb⟩
  obtain ⟨A7, m7, e', -, h7, -⟩ := own_nodes ho
  cases e'
  have HB2 := Lib.hid (HBV.out.call hb)
  have HW2 := Lib.hid (thenB HV hb HV.size)
  have cc := fun o => (HB2.out.alloc o).cells
  have c0 := fun o => (cc o).1
  have c1 := fun o => (cc o).2.1
  have c2 := fun o => (cc o).2.2.1
  have c3 := fun o => (cc o).2.2.2.1
  have c4 := fun o => (cc o).2.2.2.2.1
  have c5 := fun o => (cc o).2.2.2.2.2.1
  have c6 := fun o => (cc o).2.2.2.2.2.2.1
  have c7 := fun o => (cc o).2.2.2.2.2.2.2.1
  have c8 := fun o => (cc o).2.2.2.2.2.2.2.2.1
  have c9 := fun o => (cc o).2.2.2.2.2.2.2.2.2.1
  have c10 := fun o => (cc o).2.2.2.2.2.2.2.2.2.2.1
  have c11 := fun o => (cc o).2.2.2.2.2.2.2.2.2.2.2
  clear cc
  have h7 : Nodes w2 A7 2 (wrapL lZ 1 ⟨11, 0, 0, 0, 0, 9, 0, 0, 0, 0, 0, false⟩) := h7
  have H7 := Lib.hid h7
  clear ho hb h7 HBV HTV HNV HV
  go_wp2_with fail
  clear c0 c1 c2 c3 c4 c5 c6 c7 c8 c9 c10 c11
  have hg2 := HB2.out.lt
  have HX := Lib.hid (show Below w2.heap.size w2 (World.alloc w2 (.cells #[.slice A7 2 n7] 24)) by go_grown)
  have HW4 := Lib.hid (thenB HW2.out HX.out HW2.out.size)
  have HN4 := Lib.hid (H7.out.call HX.out)
  clear H7 HX HW2 HB2 hg2
  refine (right_any HSN.out.1 HSN.out.2 A7 2 n7 (wrapL lZ 1 ⟨11, 0, 0, 0, 0, 9, 0, 0, 0, 0, 0, false⟩) _ (by omega) HN4.out).mono ?_
  rintro e w5 ⟨rfl, hb⟩
  have HW5 := Lib.hid (thenB HW4.out hb HW4.out.size)
  clear hb HW4 HN4
  rw [bad_top (l := (wrapL lZ 1 ⟨11, 0, 0, 0, 0, 9, 0, 0, 0, 0, 0, false⟩)) (n := 1) (by decide) (by omega)]
  go_wp2_with fail
  refine (fixed_any HSN.out.1 HSN.out.2 _).mono ?_
  rintro e w9 ⟨rfl, hb⟩
  have HZ := Lib.hid (thenB HW5.out hb HW5.out.size)
  clear hb HW5
  go_wp2_with fail
  go_ret
  exact ⟨rfl, HZ.out⟩

set_option maxRecDepth 20000 in
set_option maxHeartbeats 4000000 in
theorem fields_0e (hS : SortOk) (hN : SortNone) (k f : Nat) (w : World) (hk : k < 256) (h0 : f % 4 = 0) (hx : 13 ≤ k % 18) :
    Calls Try.prog 7 #[.int .u8 (k : Int), .int .u8 (f : Int)] w fun e w' => e = .returned (.bool true) ∧ Below w.heap.size w w' := by
  have HSN := Lib.hid (And.intro hS hN)
  clear hS hN
  have hfz : (f : Int) % 4 = 0 := by omega
  clear h0
  go_enter Try.func7, Try.ntmps7
  go_wp2_with fail
  obtain ⟨q, hq⟩ : ∃ q : Int, q = (k : Int) % 18 := ⟨_, rfl⟩
  rw [← hq]
  have g1 : ¬ q = 1 := by omega
  have g1e : (q == 1) = false := by simp; omega
  have g1n : (q != 1) = true := by simp; omega
  have g8 : ¬ q = 8 := by omega
  have g8e : (q == 8) = false := by simp; omega
  have g8n : (q != 8) = true := by simp; omega
  have g9 : ¬ q = 9 := by omega
  have g9e : (q == 9) = false := by simp; omega
  have g9n : (q != 9) = true := by simp; omega
  have g10 : ¬ q = 10 := by omega
  have g10e : (q == 10) = false := by simp; omega
  have g10n : (q != 10) = true := by simp; omega
  have g11 : ¬ q = 11 := by omega
  have g11e : (q == 11) = false := by simp; omega
  have g11n : (q != 11) = true := by simp; omega
  have g12 : ¬ q = 12 := by omega
  have g12e : (q == 12) = false := by simp; omega
  have g12n : (q != 12) = true := by simp; omega
  have g13 : ¬ q < 13 := by omega
  have hqr : 0 ≤ q ∧ q ≤ 17 := by omega
  clear hq hk hx
  refine (leaf_any nd0 _).mono ?_
  rintro e w1 ⟨A6, n6, rfl, ho, hb⟩
  obtain ⟨A6, m6, e', -, h6, h6b⟩ := own_nodes ho
  cases e'
  have HB := Lib.hid (Box12.new w 45 q 0 0 0 0 0 0 0 0 0 0 false |>.call hb)
  have cc := fun o => (HB.out.alloc o).cells
  have c0 := fun o => (cc o).1
  have c1 := fun o => (cc o).2.1
  have c2 := fun o => (cc o).2.2.1
  have c3 := fun o => (cc o).2.2.2.1
  have c4 := fun o => (cc o).2.2.2.2.1
  have c5 := fun o => (cc o).2.2.2.2.2.1
  have c6 := fun o => (cc o).2.2.2.2.2.2.1
  have c7 := fun o => (cc o).2.2.2.2.2.2.2.1
  have c8 := fun o => (cc o).2.2.2.2.2.2.2.2.1
  have c9 := fun o => (cc o).2.2.2.2.2.2.2.2.2.1
  have c10 := fun o => (cc o).2.2.2.2.2.2.2.2.2.2.1
  have c11 := fun o => (cc o).2.2.2.2.2.2.2.2.2.2.2
  clear cc
  have fz := fun o j => (HB.out.alloc o).free j
  have hz : ∀ o, (World.alloc w1 o).heap[w.heap.size]? = some (.cells #[.int .i64 q, .int .i64 0, .int .i64 0, .int .u64 0, .int .u64 0, .int .u64 0, .int .u64 0, .int .i64 0, .int .i64 0, .int .i64 0, .int .i64 0, .bool false] 45 (0, 0)) := fun o => HB.out.alloc o
  have HW := Lib.hid (thenB (show Below w.heap.size w (World.alloc w (.cells #[.int .i64 q, .int .i64 0, .int .i64 0, .int .u64 0, .int .u64 0, .int .u64 0, .int .u64 0, .int .i64 0, .int .i64 0, .int .i64 0, .int .i64 0, .bool false] 45)) by go_grown) hb (by simp))
  have H6 := Lib.hid (show Nodes w1 A6 1 lZ from h6)
  clear ho hb h6
  go_wp2_with fail
  clear c0 c1 c2 c3 c4 c5 c6 c7 c8 c9 c10 c11
  clear fz hz
  have hgl := HB.out.lt
  obtain ⟨V, hV⟩ : ∃ V, V = (World.alloc w1 (.cells #[.slice A6 1 n6] 24)).setCell ⟨w.heap.size, 5, none⟩ (.int .u64 9) := ⟨_, rfl⟩
  rw [← hV]
  have HV : Below w.heap.size w V := by rw [hV]; exact (HW.out.trans (show Below w.heap.size w1 (World.alloc w1 (.cells #[.slice A6 1 n6] 24)) from Below.mono (show Below w1.heap.size w1 _ by go_grown) (by omega))).setCell (p := ⟨w.heap.size, 5, none⟩) (Nat.le_refl _) _
  have HBV := Lib.hid (show Box12 V 45 (w.heap.size) q 0 0 0 0 9 0 0 0 0 0 false by rw [hV]; exact (HB.out.alloc _).set5 _)
  have HTV := Lib.hid (show TreeBox V w1.heap.size A6 1 n6 by rw [hV]; exact (heap_setCell_other _ ⟨w.heap.size, 5, none⟩ w1.heap.size _ (by show w1.heap.size ≠ w.heap.size; omega)).trans (TreeBox.new w1 A6 1 n6))
  have HNV := Lib.hid (show Nodes V A6 1 lZ by
    rw [hV]
    exact nodes_past (H6.out.call (show Below w1.heap.size w1 _ by go_grown)) (fun a ha => by have := h6b a ha; simp at this; omega) _ _)
  clear hV HB H6 HW hgl h6b
  refine (wrap_any A6 1 n6 lZ ⟨q, 0, 0, 0, 0, 9, 0, 0, 0, 0, 0, false⟩ _ (by omega) (not_none HNV.out (by omega)) HNV.out).mono ?_
  rintro e w2 ⟨A7, n7, rfl, ho, hb⟩
  obtain ⟨A7, m7, e', -, h7, -⟩ := own_nodes ho
  cases e'
  have HB2 := Lib.hid (HBV.out.call hb)
  have HW2 := Lib.hid (thenB HV hb HV.size)
  have cc := fun o => (HB2.out.alloc o).cells
  have c0 := fun o => (cc o).1
  have c1 := fun o => (cc o).2.1
  have c2 := fun o => (cc o).2.2.1
  have c3 := fun o => (cc o).2.2.2.1
  have c4 := fun o => (cc o).2.2.2.2.1
  have c5 := fun o => (cc o).2.2.2.2.2.1
  have c6 := fun o => (cc o).2.2.2.2.2.2.1
  have c7 := fun o => (cc o).2.2.2.2.2.2.2.1
  have c8 := fun o => (cc o).2.2.2.2.2.2.2.2.1
  have c9 := fun o => (cc o).2.2.2.2.2.2.2.2.2.1
  have c10 := fun o => (cc o).2.2.2.2.2.2.2.2.2.2.1
  have c11 := fun o => (cc o).2.2.2.2.2.2.2.2.2.2.2
  clear cc
  have h7 : Nodes w2 A7 2 (wrapL lZ 1 ⟨q, 0, 0, 0, 0, 9, 0, 0, 0, 0, 0, false⟩) := h7
  have H7 := Lib.hid h7
  clear ho hb h7 HBV HTV HNV HV
  go_wp2_with fail
  clear c0 c1 c2 c3 c4 c5 c6 c7 c8 c9 c10 c11
  have hg2 := HB2.out.lt
  have HX := Lib.hid (show Below w2.heap.size w2 (World.alloc w2 (.cells #[.slice A7 2 n7] 24)) by go_grown)
  have HW4 := Lib.hid (thenB HW2.out HX.out HW2.out.size)
  have HN4 := Lib.hid (H7.out.call HX.out)
  clear H7 HX HW2 HB2 hg2
  refine (right_any HSN.out.1 HSN.out.2 A7 2 n7 (wrapL lZ 1 ⟨q, 0, 0, 0, 0, 9, 0, 0, 0, 0, 0, false⟩) _ (by omega) HN4.out).mono ?_
  rintro e w5 ⟨rfl, hb⟩
  have HW5 := Lib.hid (thenB HW4.out hb HW4.out.size)
  clear hb HW4 HN4
  rw [bad_top (l := (wrapL lZ 1 ⟨q, 0, 0, 0, 0, 9, 0, 0, 0, 0, 0, false⟩)) (n := 1) (by show fitsB (wrapL lZ 1 ⟨q, 0, 0, 0, 0, 9, 0, 0, 0, 0, 0, false⟩ 1) = false; rw [wrap_top]; unfold fitsB; simp; omega) (by omega)]
  go_wp2_with fail
  refine (fixed_any HSN.out.1 HSN.out.2 _).mono ?_
  rintro e w9 ⟨rfl, hb⟩
  have HZ := Lib.hid (thenB HW5.out hb HW5.out.size)
  clear hb HW5
  go_wp2_with fail
  go_ret
  exact ⟨rfl, HZ.out⟩

set_option maxRecDepth 20000 in
set_option maxHeartbeats 4000000 in
theorem fields_0f (hS : SortOk) (hN : SortNone) (k f : Nat) (w : World) (hk : k < 256) (h0 : f % 4 = 0) (hx : k % 18 = 8) :
    Calls Try.prog 7 #[.int .u8 (k : Int), .int .u8 (f : Int)] w fun e w' => e = .returned (.bool true) ∧ Below w.heap.size w w' := by
  have HSN := Lib.hid (And.intro hS hN)
  clear hS hN
  have hfz : (f : Int) % 4 = 0 := by omega
  clear h0
  go_enter Try.func7, Try.ntmps7
  go_wp2_with fail
  rw [show ((k : Int) % 18) = 8 by omega]
  clear hk hx
  refine (leaf_any nd0 _).mono ?_
  rintro e w1 ⟨A6, n6, rfl, ho, hb⟩
  obtain ⟨A6, m6, e', -, h6, h6b⟩ := own_nodes ho
  cases e'
  have HB := Lib.hid (Box12.new w 45 8 0 0 0 0 0 0 0 0 0 0 false |>.call hb)
  have cc := fun o => (HB.out.alloc o).cells
  have c0 := fun o => (cc o).1
  have c1 := fun o => (cc o).2.1
  have c2 := fun o => (cc o).2.2.1
  have c3 := fun o => (cc o).2.2.2.1
  have c4 := fun o => (cc o).2.2.2.2.1
  have c5 := fun o => (cc o).2.2.2.2.2.1
  have c6 := fun o => (cc o).2.2.2.2.2.2.1
  have c7 := fun o => (cc o).2.2.2.2.2.2.2.1
  have c8 := fun o => (cc o).2.2.2.2.2.2.2.2.1
  have c9 := fun o => (cc o).2.2.2.2.2.2.2.2.2.1
  have c10 := fun o => (cc o).2.2.2.2.2.2.2.2.2.2.1
  have c11 := fun o => (cc o).2.2.2.2.2.2.2.2.2.2.2
  clear cc
  have fz := fun o j => (HB.out.alloc o).free j
  have hz : ∀ o, (World.alloc w1 o).heap[w.heap.size]? = some (.cells #[.int .i64 8, .int .i64 0, .int .i64 0, .int .u64 0, .int .u64 0, .int .u64 0, .int .u64 0, .int .i64 0, .int .i64 0, .int .i64 0, .int .i64 0, .bool false] 45 (0, 0)) := fun o => HB.out.alloc o
  have HW := Lib.hid (thenB (show Below w.heap.size w (World.alloc w (.cells #[.int .i64 8, .int .i64 0, .int .i64 0, .int .u64 0, .int .u64 0, .int .u64 0, .int .u64 0, .int .i64 0, .int .i64 0, .int .i64 0, .int .i64 0, .bool false] 45)) by go_grown) hb (by simp))
  have H6 := Lib.hid (show Nodes w1 A6 1 lZ from h6)
  clear ho hb h6
  go_wp2_with fail
  clear c0 c1 c2 c3 c4 c5 c6 c7 c8 c9 c10 c11
  clear fz hz
  have hgl := HB.out.lt
  obtain ⟨V, hV⟩ : ∃ V, V = (World.alloc w1 (.cells #[.slice A6 1 n6] 24)).setCell ⟨w.heap.size, 5, none⟩ (.int .u64 9) := ⟨_, rfl⟩
  rw [← hV]
  have HV : Below w.heap.size w V := by rw [hV]; exact (HW.out.trans (show Below w.heap.size w1 (World.alloc w1 (.cells #[.slice A6 1 n6] 24)) from Below.mono (show Below w1.heap.size w1 _ by go_grown) (by omega))).setCell (p := ⟨w.heap.size, 5, none⟩) (Nat.le_refl _) _
  have HBV := Lib.hid (show Box12 V 45 (w.heap.size) 8 0 0 0 0 9 0 0 0 0 0 false by rw [hV]; exact (HB.out.alloc _).set5 _)
  have HTV := Lib.hid (show TreeBox V w1.heap.size A6 1 n6 by rw [hV]; exact (heap_setCell_other _ ⟨w.heap.size, 5, none⟩ w1.heap.size _ (by show w1.heap.size ≠ w.heap.size; omega)).trans (TreeBox.new w1 A6 1 n6))
  have HNV := Lib.hid (show Nodes V A6 1 lZ by
    rw [hV]
    exact nodes_past (H6.out.call (show Below w1.heap.size w1 _ by go_grown)) (fun a ha => by have := h6b a ha; simp at this; omega) _ _)
  clear hV HB H6 HW hgl h6b
  refine (wrap_any A6 1 n6 lZ ⟨8, 0, 0, 0, 0, 9, 0, 0, 0, 0, 0, false⟩ _ (by omega) (not_none HNV.out (by omega)) HNV.out).mono ?_
  rintro e w2 ⟨A7, n7, rfl, ho, hb⟩
  obtain ⟨A7, m7, e', -, h7, -⟩ := own_nodes ho
  cases e'
  have HB2 := Lib.hid (HBV.out.call hb)
  have HW2 := Lib.hid (thenB HV hb HV.size)
  have cc := fun o => (HB2.out.alloc o).cells
  have c0 := fun o => (cc o).1
  have c1 := fun o => (cc o).2.1
  have c2 := fun o => (cc o).2.2.1
  have c3 := fun o => (cc o).2.2.2.1
  have c4 := fun o => (cc o).2.2.2.2.1
  have c5 := fun o => (cc o).2.2.2.2.2.1
  have c6 := fun o => (cc o).2.2.2.2.2.2.1
  have c7 := fun o => (cc o).2.2.2.2.2.2.2.1
  have c8 := fun o => (cc o).2.2.2.2.2.2.2.2.1
  have c9 := fun o => (cc o).2.2.2.2.2.2.2.2.2.1
  have c10 := fun o => (cc o).2.2.2.2.2.2.2.2.2.2.1
  have c11 := fun o => (cc o).2.2.2.2.2.2.2.2.2.2.2
  clear cc
  have hg6 := (HTV.out.call hb).lt
  have c6 := fun o => ((HTV.out.call hb).call (show Below w2.heap.size w2 (World.alloc w2 o) by go_grown)).cell
  have HN2 := Lib.hid (HNV.out.call hb)
  clear ho hb h7 HBV HTV HNV HV
  go_wp2_with fail
  have HX := Lib.hid (show Below w2.heap.size w2 (World.alloc w2 (.cells #[.slice A7 2 n7] 24)) by go_grown)
  have hg2 := HB2.out.lt
  have HN3 := Lib.hid (HN2.out.call HX.out)
  refine (join_any A6 1 n6 lZ A6 1 n6 lZ 8 _ (by omega) (by omega) (not_none HN3.out (by omega)) (not_none HN3.out (by omega)) HN3.out HN3.out).mono ?_
  rintro e w3 ⟨A8, n8, rfl, ho, hb⟩
  obtain ⟨z, rfl, hz0, hrow⟩ := row_of_own ho (by omega)
  obtain ⟨A8, m8, e', -, h8, -⟩ := own_nodes ho
  cases e'
  have h8 : Nodes w3 (some ⟨z, 0, none⟩) 3 (joinL lZ 1 lZ 1 8) := h8
  rw [World.size_alloc] at hz0
  have HT9 := Lib.hid ((TreeBox.new w2 A7 2 n7).call hb)
  have HB3 := Lib.hid ((HB2.out.call HX.out).call hb)
  have HW3 := Lib.hid (thenB (thenB HW2.out HX.out HW2.out.size) hb (by have h1 := HW2.out.size; have h2 := HX.out.size; omega))
  have HR3 := Lib.hid hrow
  have H8 := Lib.hid h8
  clear c0 c1 c2 c3 c4 c5 c6 c7 c8 c9 c10 c11
  clear ho hb HX HB2 HW2 HN2 HN3 c6 hrow h8
  have hz := HT9.out
  unfold TreeBox at hz
  have c9x := HT9.out.cell
  have fz := HT9.out.free
  have cc := fun v => (HB3.out.past (c := w2.heap.size) (by omega) 0 v).cells
  have c0 := fun o => (cc o).1
  have c1 := fun o => (cc o).2.1
  have c2 := fun o => (cc o).2.2.1
  have c3 := fun o => (cc o).2.2.2.1
  have c4 := fun o => (cc o).2.2.2.2.1
  have c5 := fun o => (cc o).2.2.2.2.2.1
  have c6 := fun o => (cc o).2.2.2.2.2.2.1
  have c7 := fun o => (cc o).2.2.2.2.2.2.2.1
  have c8 := fun o => (cc o).2.2.2.2.2.2.2.2.1
  have c9 := fun o => (cc o).2.2.2.2.2.2.2.2.2.1
  have c10 := fun o => (cc o).2.2.2.2.2.2.2.2.2.2.1
  have c11 := fun o => (cc o).2.2.2.2.2.2.2.2.2.2.2
  clear cc
  have hcz : ∀ v, At12 (w3.setCell ⟨w2.heap.size, 0, none⟩ v) z 24 ⟨8, 0, 1, 0, 0, 0, 0, 0, 0, 0, 0, false⟩ := fun v => At12.keep (show At12 w3 z 24 ⟨8, 0, 1, 0, 0, 0, 0, 0, 0, 0, 0, false⟩ from at_of H8.out 2 (by omega)) fun j => cell_past (by omega) 0 v j
  have fzz := fun v j => (HR3.out.other (k := w2.heap.size) (by omega) 0 v).free j
  have d3 : ∀ v, (w3.setCell ⟨w2.heap.size, 0, none⟩ v).cell? ⟨z, 27, none⟩ = some (.int .u64 0) := fun v => (hcz v).2.2.2.1
  have d4 : ∀ v, (w3.setCell ⟨w2.heap.size, 0, none⟩ v).cell? ⟨z, 28, none⟩ = some (.int .u64 0) := fun v => (hcz v).2.2.2.2.1
  have d5 : ∀ v, (w3.setCell ⟨w2.heap.size, 0, none⟩ v).cell? ⟨z, 29, none⟩ = some (.int .u64 0) := fun v => (hcz v).2.2.2.2.2.1
  have d6 : ∀ v, (w3.setCell ⟨w2.heap.size, 0, none⟩ v).cell? ⟨z, 30, none⟩ = some (.int .u64 0) := fun v => (hcz v).2.2.2.2.2.2.1
  have d7 : ∀ v, (w3.setCell ⟨w2.heap.size, 0, none⟩ v).cell? ⟨z, 31, none⟩ = some (.int .i64 0) := fun v => (hcz v).2.2.2.2.2.2.2.1
  have d8 : ∀ v, (w3.setCell ⟨w2.heap.size, 0, none⟩ v).cell? ⟨z, 32, none⟩ = some (.int .i64 0) := fun v => (hcz v).2.2.2.2.2.2.2.2.1
  have d9 : ∀ v, (w3.setCell ⟨w2.heap.size, 0, none⟩ v).cell? ⟨z, 33, none⟩ = some (.int .i64 0) := fun v => (hcz v).2.2.2.2.2.2.2.2.2.1
  have d10 : ∀ v, (w3.setCell ⟨w2.heap.size, 0, none⟩ v).cell? ⟨z, 34, none⟩ = some (.int .i64 0) := fun v => (hcz v).2.2.2.2.2.2.2.2.2.2.1
  have d11 : ∀ v, (w3.setCell ⟨w2.heap.size, 0, none⟩ v).cell? ⟨z, 35, none⟩ = some (.bool false) := fun v => (hcz v).2.2.2.2.2.2.2.2.2.2.2
  clear hcz
  go_wp2_with fail
  have HW4 := Lib.hid ((((((((below_store HW3.out (show w.heap.size ≤ w2.heap.size by omega) (.slice (some ⟨z, 0, none⟩) 3 n8)).setCell (p := ⟨z, 27, none⟩) (show w.heap.size ≤ z by omega) (.int .u64 0)).setCell (p := ⟨z, 28, none⟩) (show w.heap.size ≤ z by omega) (.int .u64 0)).setCell (p := ⟨z, 29, none⟩) (show w.heap.size ≤ z by omega) (.int .u64 9)).setCell (p := ⟨z, 30, none⟩) (show w.heap.size ≤ z by omega) (.int .u64 0)).setCell (p := ⟨z, 32, none⟩) (show w.heap.size ≤ z by omega) (.int .i64 0)).setCell (p := ⟨z, 34, none⟩) (show w.heap.size ≤ z by omega) (.int .i64 0)).setCell (p := ⟨z, 35, none⟩) (show w.heap.size ≤ z by omega) (.bool false))
  have hRd := ((((((((rd_of H8.out HR3.out).past (show z ≠ w2.heap.size by omega) 0 (.slice (some ⟨z, 0, none⟩) 3 n8)).set 27 (by omega) (.int .u64 0)).set 28 (by omega) (.int .u64 0)).set 29 (by omega) (.int .u64 9)).set 30 (by omega) (.int .u64 0)).set 32 (by omega) (.int .i64 0)).set 34 (by omega) (.int .i64 0)).set 35 (by omega) (.bool false)
  have HN4 := Lib.hid (hRd.nodes (fun i => if i < 2 then nd0 else ⟨8, 0, 1, 0, 0, 9, 0, 0, 0, 0, 0, false⟩) fun i hi => by rcases (show i = 0 ∨ i = 1 ∨ i = 2 by omega) with rfl | rfl | rfl <;> rfl)
  clear hRd H8 HR3 HB3 HT9 HW3 hz c9x fz fzz d3 d4 d5 d6 d7 d8 d9 d10 d11
  clear c0 c1 c2 c3 c4 c5 c6 c7 c8 c9 c10 c11
  refine (right_any HSN.out.1 HSN.out.2 (some ⟨z, 0, none⟩) 3 n8 (fun i => if i < 2 then nd0 else ⟨8, 0, 1, 0, 0, 9, 0, 0, 0, 0, 0, false⟩) _ (by omega) HN4.out).mono ?_
  rintro e w5 ⟨rfl, hb⟩
  have HW5 := Lib.hid (thenB HW4.out hb HW4.out.size)
  clear hb HW4 HN4
  rw [bad_top (l := (fun i => if i < 2 then nd0 else ⟨8, 0, 1, 0, 0, 9, 0, 0, 0, 0, 0, false⟩)) (n := 2) (by decide) (by omega)]
  go_wp2_with fail
  refine (fixed_any HSN.out.1 HSN.out.2 _).mono ?_
  rintro e w9 ⟨rfl, hb⟩
  have HZ := Lib.hid (thenB HW5.out hb HW5.out.size)
  clear hb HW5
  go_wp2_with fail
  go_ret
  exact ⟨rfl, HZ.out⟩

set_option maxRecDepth 20000 in
set_option maxHeartbeats 4000000 in
theorem fields_0g (hS : SortOk) (hN : SortNone) (k f : Nat) (w : World) (hk : k < 256) (h0 : f % 4 = 0) (hx : k % 18 = 9) :
    Calls Try.prog 7 #[.int .u8 (k : Int), .int .u8 (f : Int)] w fun e w' => e = .returned (.bool true) ∧ Below w.heap.size w w' := by
  have HSN := Lib.hid (And.intro hS hN)
  clear hS hN
  have hfz : (f : Int) % 4 = 0 := by omega
  clear h0
  go_enter Try.func7, Try.ntmps7
  go_wp2_with fail
  rw [show ((k : Int) % 18) = 9 by omega]
  clear hk hx
  refine (leaf_any nd0 _).mono ?_
  rintro e w1 ⟨A6, n6, rfl, ho, hb⟩
  obtain ⟨A6, m6, e', -, h6, h6b⟩ := own_nodes ho
  cases e'
  have HB := Lib.hid (Box12.new w 45 9 0 0 0 0 0 0 0 0 0 0 false |>.call hb)
  have cc := fun o => (HB.out.alloc o).cells
  have c0 := fun o => (cc o).1
  have c1 := fun o => (cc o).2.1
  have c2 := fun o => (cc o).2.2.1
  have c3 := fun o => (cc o).2.2.2.1
  have c4 := fun o => (cc o).2.2.2.2.1
  have c5 := fun o => (cc o).2.2.2.2.2.1
  have c6 := fun o => (cc o).2.2.2.2.2.2.1
  have c7 := fun o => (cc o).2.2.2.2.2.2.2.1
  have c8 := fun o => (cc o).2.2.2.2.2.2.2.2.1
  have c9 := fun o => (cc o).2.2.2.2.2.2.2.2.2.1
  have c10 := fun o => (cc o).2.2.2.2.2.2.2.2.2.2.1
  have c11 := fun o => (cc o).2.2.2.2.2.2.2.2.2.2.2
  clear cc
  have fz := fun o j => (HB.out.alloc o).free j
  have hz : ∀ o, (World.alloc w1 o).heap[w.heap.size]? = some (.cells #[.int .i64 9, .int .i64 0, .int .i64 0, .int .u64 0, .int .u64 0, .int .u64 0, .int .u64 0, .int .i64 0, .int .i64 0, .int .i64 0, .int .i64 0, .bool false] 45 (0, 0)) := fun o => HB.out.alloc o
  have HW := Lib.hid (thenB (show Below w.heap.size w (World.alloc w (.cells #[.int .i64 9, .int .i64 0, .int .i64 0, .int .u64 0, .int .u64 0, .int .u64 0, .int .u64 0, .int .i64 0, .int .i64 0, .int .i64 0, .int .i64 0, .bool false] 45)) by go_grown) hb (by simp))
  have H6 := Lib.hid (show Nodes w1 A6 1 lZ from h6)
  clear ho hb h6
  go_wp2_with fail
  clear c0 c1 c2 c3 c4 c5 c6 c7 c8 c9 c10 c11
  clear fz hz
  have hgl := HB.out.lt
  obtain ⟨V, hV⟩ : ∃ V, V = (World.alloc w1 (.cells #[.slice A6 1 n6] 24)).setCell ⟨w.heap.size, 5, none⟩ (.int .u64 9) := ⟨_, rfl⟩
  rw [← hV]
  have HV : Below w.heap.size w V := by rw [hV]; exact (HW.out.trans (show Below w.heap.size w1 (World.alloc w1 (.cells #[.slice A6 1 n6] 24)) from Below.mono (show Below w1.heap.size w1 _ by go_grown) (by omega))).setCell (p := ⟨w.heap.size, 5, none⟩) (Nat.le_refl _) _
  have HBV := Lib.hid (show Box12 V 45 (w.heap.size) 9 0 0 0 0 9 0 0 0 0 0 false by rw [hV]; exact (HB.out.alloc _).set5 _)
  have HTV := Lib.hid (show TreeBox V w1.heap.size A6 1 n6 by rw [hV]; exact (heap_setCell_other _ ⟨w.heap.size, 5, none⟩ w1.heap.size _ (by show w1.heap.size ≠ w.heap.size; omega)).trans (TreeBox.new w1 A6 1 n6))
  have HNV := Lib.hid (show Nodes V A6 1 lZ by
    rw [hV]
    exact nodes_past (H6.out.call (show Below w1.heap.size w1 _ by go_grown)) (fun a ha => by have := h6b a ha; simp at this; omega) _ _)
  clear hV HB H6 HW hgl h6b
  refine (wrap_any A6 1 n6 lZ ⟨9, 0, 0, 0, 0, 9, 0, 0, 0, 0, 0, false⟩ _ (by omega) (not_none HNV.out (by omega)) HNV.out).mono ?_
  rintro e w2 ⟨A7, n7, rfl, ho, hb⟩
  obtain ⟨A7, m7, e', -, h7, -⟩ := own_nodes ho
  cases e'
  have HB2 := Lib.hid (HBV.out.call hb)
  have HW2 := Lib.hid (thenB HV hb HV.size)
  have cc := fun o => (HB2.out.alloc o).cells
  have c0 := fun o => (cc o).1
  have c1 := fun o => (cc o).2.1
  have c2 := fun o => (cc o).2.2.1
  have c3 := fun o => (cc o).2.2.2.1
  have c4 := fun o => (cc o).2.2.2.2.1
  have c5 := fun o => (cc o).2.2.2.2.2.1
  have c6 := fun o => (cc o).2.2.2.2.2.2.1
  have c7 := fun o => (cc o).2.2.2.2.2.2.2.1
  have c8 := fun o => (cc o).2.2.2.2.2.2.2.2.1
  have c9 := fun o => (cc o).2.2.2.2.2.2.2.2.2.1
  have c10 := fun o => (cc o).2.2.2.2.2.2.2.2.2.2.1
  have c11 := fun o => (cc o).2.2.2.2.2.2.2.2.2.2.2
  clear cc
  have hg6 := (HTV.out.call hb).lt
  have c6 := fun o => ((HTV.out.call hb).call (show Below w2.heap.size w2 (World.alloc w2 o) by go_grown)).cell
  have HN2 := Lib.hid (HNV.out.call hb)
  clear ho hb h7 HBV HTV HNV HV
  go_wp2_with fail
  have HX := Lib.hid (show Below w2.heap.size w2 (World.alloc w2 (.cells #[.slice A7 2 n7] 24)) by go_grown)
  have hg2 := HB2.out.lt
  have HN3 := Lib.hid (HN2.out.call HX.out)
  refine (join_any A6 1 n6 lZ A6 1 n6 lZ 9 _ (by omega) (by omega) (not_none HN3.out (by omega)) (not_none HN3.out (by omega)) HN3.out HN3.out).mono ?_
  rintro e w3 ⟨A8, n8, rfl, ho, hb⟩
  obtain ⟨z, rfl, hz0, hrow⟩ := row_of_own ho (by omega)
  obtain ⟨A8, m8, e', -, h8, -⟩ := own_nodes ho
  cases e'
  have h8 : Nodes w3 (some ⟨z, 0, none⟩) 3 (joinL lZ 1 lZ 1 9) := h8
  rw [World.size_alloc] at hz0
  have HT9 := Lib.hid ((TreeBox.new w2 A7 2 n7).call hb)
  have HB3 := Lib.hid ((HB2.out.call HX.out).call hb)
  have HW3 := Lib.hid (thenB (thenB HW2.out HX.out HW2.out.size) hb (by have h1 := HW2.out.size; have h2 := HX.out.size; omega))
  have HR3 := Lib.hid hrow
  have H8 := Lib.hid h8
  clear c0 c1 c2 c3 c4 c5 c6 c7 c8 c9 c10 c11
  clear ho hb HX HB2 HW2 HN2 HN3 c6 hrow h8
  have hz := HT9.out
  unfold TreeBox at hz
  have c9x := HT9.out.cell
  have fz := HT9.out.free
  have cc := fun v => (HB3.out.past (c := w2.heap.size) (by omega) 0 v).cells
  have c0 := fun o => (cc o).1
  have c1 := fun o => (cc o).2.1
  have c2 := fun o => (cc o).2.2.1
  have c3 := fun o => (cc o).2.2.2.1
  have c4 := fun o => (cc o).2.2.2.2.1
  have c5 := fun o => (cc o).2.2.2.2.2.1
  have c6 := fun o => (cc o).2.2.2.2.2.2.1
  have c7 := fun o => (cc o).2.2.2.2.2.2.2.1
  have c8 := fun o => (cc o).2.2.2.2.2.2.2.2.1
  have c9 := fun o => (cc o).2.2.2.2.2.2.2.2.2.1
  have c10 := fun o => (cc o).2.2.2.2.2.2.2.2.2.2.1
  have c11 := fun o => (cc o).2.2.2.2.2.2.2.2.2.2.2
  clear cc
  have hcz : ∀ v, At12 (w3.setCell ⟨w2.heap.size, 0, none⟩ v) z 24 ⟨9, 0, 1, 0, 0, 0, 0, 0, 0, 0, 0, false⟩ := fun v => At12.keep (show At12 w3 z 24 ⟨9, 0, 1, 0, 0, 0, 0, 0, 0, 0, 0, false⟩ from at_of H8.out 2 (by omega)) fun j => cell_past (by omega) 0 v j
  have fzz := fun v j => (HR3.out.other (k := w2.heap.size) (by omega) 0 v).free j
  have d3 : ∀ v, (w3.setCell ⟨w2.heap.size, 0, none⟩ v).cell? ⟨z, 27, none⟩ = some (.int .u64 0) := fun v => (hcz v).2.2.2.1
  have d4 : ∀ v, (w3.setCell ⟨w2.heap.size, 0, none⟩ v).cell? ⟨z, 28, none⟩ = some (.int .u64 0) := fun v => (hcz v).2.2.2.2.1
  have d5 : ∀ v, (w3.setCell ⟨w2.heap.size, 0, none⟩ v).cell? ⟨z, 29, none⟩ = some (.int .u64 0) := fun v => (hcz v).2.2.2.2.2.1
  have d6 : ∀ v, (w3.setCell ⟨w2.heap.size, 0, none⟩ v).cell? ⟨z, 30, none⟩ = some (.int .u64 0) := fun v => (hcz v).2.2.2.2.2.2.1
  have d7 : ∀ v, (w3.setCell ⟨w2.heap.size, 0, none⟩ v).cell? ⟨z, 31, none⟩ = some (.int .i64 0) := fun v => (hcz v).2.2.2.2.2.2.2.1
  have d8 : ∀ v, (w3.setCell ⟨w2.heap.size, 0, none⟩ v).cell? ⟨z, 32, none⟩ = some (.int .i64 0) := fun v => (hcz v).2.2.2.2.2.2.2.2.1
  have d9 : ∀ v, (w3.setCell ⟨w2.heap.size, 0, none⟩ v).cell? ⟨z, 33, none⟩ = some (.int .i64 0) := fun v => (hcz v).2.2.2.2.2.2.2.2.2.1
  have d10 : ∀ v, (w3.setCell ⟨w2.heap.size, 0, none⟩ v).cell? ⟨z, 34, none⟩ = some (.int .i64 0) := fun v => (hcz v).2.2.2.2.2.2.2.2.2.2.1
  have d11 : ∀ v, (w3.setCell ⟨w2.heap.size, 0, none⟩ v).cell? ⟨z, 35, none⟩ = some (.bool false) := fun v => (hcz v).2.2.2.2.2.2.2.2.2.2.2
  clear hcz
  go_wp2_with fail
  have HW4 := Lib.hid ((((((((below_store HW3.out (show w.heap.size ≤ w2.heap.size by omega) (.slice (some ⟨z, 0, none⟩) 3 n8)).setCell (p := ⟨z, 27, none⟩) (show w.heap.size ≤ z by omega) (.int .u64 0)).setCell (p := ⟨z, 28, none⟩) (show w.heap.size ≤ z by omega) (.int .u64 0)).setCell (p := ⟨z, 29, none⟩) (show w.heap.size ≤ z by omega) (.int .u64 9)).setCell (p := ⟨z, 30, none⟩) (show w.heap.size ≤ z by omega) (.int .u64 0)).setCell (p := ⟨z, 32, none⟩) (show w.heap.size ≤ z by omega) (.int .i64 0)).setCell (p := ⟨z, 34, none⟩) (show w.heap.size ≤ z by omega) (.int .i64 0)).setCell (p := ⟨z, 35, none⟩) (show w.heap.size ≤ z by omega) (.bool false))
  have hRd := ((((((((rd_of H8.out HR3.out).past (show z ≠ w2.heap.size by omega) 0 (.slice (some ⟨z, 0, none⟩) 3 n8)).set 27 (by omega) (.int .u64 0)).set 28 (by omega) (.int .u64 0)).set 29 (by omega) (.int .u64 9)).set 30 (by omega) (.int .u64 0)).set 32 (by omega) (.int .i64 0)).set 34 (by omega) (.int .i64 0)).set 35 (by omega) (.bool false)
  have HN4 := Lib.hid (hRd.nodes (fun i => if i < 2 then nd0 else ⟨9, 0, 1, 0, 0, 9, 0, 0, 0, 0, 0, false⟩) fun i hi => by rcases (show i = 0 ∨ i = 1 ∨ i = 2 by omega) with rfl | rfl | rfl <;> rfl)
  clear hRd H8 HR3 HB3 HT9 HW3 hz c9x fz fzz d3 d4 d5 d6 d7 d8 d9 d10 d11
  clear c0 c1 c2 c3 c4 c5 c6 c7 c8 c9 c10 c11
  refine (right_any HSN.out.1 HSN.out.2 (some ⟨z, 0, none⟩) 3 n8 (fun i => if i < 2 then nd0 else ⟨9, 0, 1, 0, 0, 9, 0, 0, 0, 0, 0, false⟩) _ (by omega) HN4.out).mono ?_
  rintro e w5 ⟨rfl, hb⟩
  have HW5 := Lib.hid (thenB HW4.out hb HW4.out.size)
  clear hb HW4 HN4
  rw [bad_top (l := (fun i => if i < 2 then nd0 else ⟨9, 0, 1, 0, 0, 9, 0, 0, 0, 0, 0, false⟩)) (n := 2) (by decide) (by omega)]
  go_wp2_with fail
  refine (fixed_any HSN.out.1 HSN.out.2 _).mono ?_
  rintro e w9 ⟨rfl, hb⟩
  have HZ := Lib.hid (thenB HW5.out hb HW5.out.size)
  clear hb HW5
  go_wp2_with fail
  go_ret
  exact ⟨rfl, HZ.out⟩

theorem fields_all0 (hS : SortOk) (hN : SortNone) (k f : Nat) (w : World) (hk : k < 256) (h0 : f % 4 = 0) :
    Calls Try.prog 7 #[.int .u8 (k : Int), .int .u8 (f : Int)] w fun e w' => e = .returned (.bool true) ∧ Below w.heap.size w w' := by
  by_cases hx : k % 18 = 1
  · exact fields_0b hS hN k f w hk h0 hx
  by_cases hc : k % 18 = 10
  · exact fields_0c hS hN k f w hk h0 hc
  by_cases hd : k % 18 = 11
  · exact fields_0d hS hN k f w hk h0 hd
  by_cases hf : k % 18 = 8
  · exact fields_0f hS hN k f w hk h0 hf
  by_cases hg : k % 18 = 9
  · exact fields_0g hS hN k f w hk h0 hg
  by_cases he : 13 ≤ k % 18
  · exact fields_0e hS hN k f w hk h0 he
  exact fields_0a hS hN k f w hk h0 hf hg hc hd (by omega) hx
end Go.Proofs.Ytcjefhjhmmoocaa
