/-
  The statement AstCopies: what its walk comes to.
-/
import Derived.Test.YtcjefhjhmmoocaaAstLawKit
import Derived.Test.YtcjefhjhmmoocaaAstSame
namespace Go.Proofs.Ytcjefhjhmmoocaa
open Go.RowKit

/-- A row of nodes that a call has made, whatever they are. -/
def RowZ (u : World) (z N : Nat) : Prop := ∃ cur : Array Value, u.heap[z]? = some (.cells cur 45 (0, 0)) ∧ N * 12 ≤ cur.size
theorem RowZ.lt {u : World} {z N : Nat} (h : RowZ u z N) : z < u.heap.size := by
  obtain ⟨cur, h1, _⟩ := h
  exact heap_lt h1
theorem RowZ.call {u v : World} {z N : Nat} (h : RowZ u z N) (hb : Below u.heap.size u v) : RowZ v z N := by
  have hl := h.lt
  obtain ⟨cur, h1, h2⟩ := h
  exact ⟨cur, (hb.block _ hl).trans h1, h2⟩
theorem RowZ.cell {u : World} {z N : Nat} (h : RowZ u z N) {j : Nat} (hj : j < N * 12) : ∃ v, u.cell? ⟨z, j, none⟩ = some v := by
  obtain ⟨cur, h1, h2⟩ := h
  refine ⟨cur[j]'(by omega), ?_⟩
  unfold World.cell?
  simp only [h1]
  exact Array.getElem?_eq_getElem (by omega)
theorem RowZ.free {u : World} {z N : Nat} (h : RowZ u z N) (j : Nat) : u.frozen? ⟨z, j, none⟩ = false := by
  obtain ⟨cur, h1, _⟩ := h
  exact frozen_of_row u z j _ _ h1
theorem RowZ.set {u : World} {z N : Nat} (h : RowZ u z N) (j : Nat) (v : Value) : RowZ (u.setCell ⟨z, j, none⟩ v) z N := by
  obtain ⟨cur, h1, h2⟩ := h
  rw [setCell_eq_setRow u z j _ _ _ v h1]
  exact ⟨_, setRow_heap u z _ _ _ _ h1, by simpa using h2⟩
theorem RowZ.other {u : World} {z N k : Nat} (h : RowZ u z N) (hk : z ≠ k) (j : Nat) (v : Value) : RowZ (u.setCell ⟨k, j, none⟩ v) z N := by
  obtain ⟨cur, h1, h2⟩ := h
  exact ⟨cur, (heap_setCell_other _ ⟨k, j, none⟩ z v hk).trans h1, h2⟩
theorem TreeBox.otherAt {u : World} {g : Nat} {A : Option Addr} {n cap : Nat} (h : TreeBox u g A n cap) {k : Nat} (hk : g ≠ k) (j : Nat) (v : Value) : TreeBox (u.setCell ⟨k, j, none⟩ v) g A n cap := (heap_setCell_other _ ⟨k, j, none⟩ g v hk).trans h
theorem row_of_own {w : World} {base N : Nat} {A : Option Addr} {cap : Nat} {xs : List Value} (h : w.ownsRow base 45 12 (.slice A N cap) N xs) (h0 : 0 < N) : ∃ z, A = some ⟨z, 0, none⟩ ∧ base ≤ z ∧ RowZ w z N := by
  rcases h.2 with ⟨_, h2⟩ | ⟨g, cap', cur, e, hb, hg, hn, -, hsz, -⟩
  · omega
  · cases e
    exact ⟨g, rfl, hb, cur, hg, by omega⟩
/-- The two trees made, that nothing else holds. -/
def Cop (b0 : World) (z z' g7 g8 N N' n7 n8 : Nat) (v : World) : Prop := Below b0.heap.size b0 v ∧ (TreeBox v g7 (some ⟨z, 0, none⟩) N n7 ∧ RowZ v z N) ∧ TreeBox v g8 (some ⟨z', 0, none⟩) N' n8 ∧ RowZ v z' N'
theorem Cop.set {b0 : World} {z z' g7 g8 N N' n7 n8 : Nat} {v : World} (h : Cop b0 z z' g7 g8 N N' n7 n8 v) (hb : b0.heap.size ≤ z) (h1 : z < g7) (h2 : g7 < z') (h3 : z' < g8) (j : Nat) (x : Value) : Cop b0 z z' g7 g8 N N' n7 n8 (v.setCell ⟨z, j, none⟩ x) :=
  ⟨h.1.setCell (p := ⟨z, j, none⟩) hb x, ⟨h.2.1.1.otherAt (by omega) j x, h.2.1.2.set j x⟩, h.2.2.1.otherAt (by omega) j x, h.2.2.2.other (by omega) j x⟩
theorem Cop.set' {b0 : World} {z z' g7 g8 N N' n7 n8 : Nat} {v : World} (h : Cop b0 z z' g7 g8 N N' n7 n8 v) (hb : b0.heap.size ≤ z) (h1 : z < g7) (h2 : g7 < z') (h3 : z' < g8) (j : Nat) (x : Value) : Cop b0 z z' g7 g8 N N' n7 n8 (v.setCell ⟨z', j, none⟩ x) :=
  ⟨h.1.setCell (p := ⟨z', j, none⟩) (show b0.heap.size ≤ z' by omega) x, ⟨h.2.1.1.otherAt (by omega) j x, h.2.1.2.other (by omega) j x⟩, h.2.2.1.otherAt (by omega) j x, h.2.2.2.set j x⟩
/-- The trees, and the copies that the document has of them. -/
def Quad (w0 : World) (A : Option Addr) (m cap g : Nat) (l : Nat → Nd) (B : Option Addr) (k cap' g' : Nat) (l' : Nat → Nd) (A5 A6 : Option Addr) (u : World) : Prop := Duo w0 A m cap g l B k cap' g' l' u ∧ Nodes u A5 m l ∧ Nodes u A6 k l'
theorem Quad.call {w0 u v : World} {A : Option Addr} {m cap g : Nat} {l : Nat → Nd} {B : Option Addr} {k cap' g' : Nat} {l' : Nat → Nd} {A5 A6 : Option Addr} (h : Quad w0 A m cap g l B k cap' g' l' A5 A6 u) (hb : Below u.heap.size u v) : Quad w0 A m cap g l B k cap' g' l' A5 A6 v :=
  ⟨h.1.call hb, h.2.1.call hb, h.2.2.call hb⟩
theorem same_self (l : Nat → Nd) (n : Nat) : sameZ l n l n = true := (sameZ_iff l n l n).2 ⟨rfl, fun _ _ => rfl⟩

set_option maxRecDepth 20000 in
set_option maxHeartbeats 4000000 in
theorem astCopies_walk (hS : SortOk) (hN : SortNone) (A : Option Addr) (n cap : Nat) (l : Nat → Nd) (B : Option Addr) (n' cap' : Nat) (l' : Nat → Nd) (w : World) (hc : n ≤ cap) (hcap : cap ≤ 9223372036854775807) (h0 : A = none → n = 0 ∧ cap = 0) (hl : Nodes w A n l)
    (hc' : n' ≤ cap') (hcap' : cap' ≤ 9223372036854775807) (h0' : B = none → n' = 0 ∧ cap' = 0) (hl' : Nodes w B n' l') :
    Calls Try.prog 6 #[.agg #[.slice A n cap], .agg #[.slice B n' cap']] w fun e w' => e = .returned (.bool true) ∧ Below w.heap.size w w' := by
  have HSN := Lib.hid (And.intro hS hN)
  have HL := Lib.hid hl
  have HL' := Lib.hid hl'
  clear hS hN hl hl'
  have HM := Lib.hid (show A = none → min n 40 = 0 ∧ cap = 0 from fun h => by obtain ⟨h1, h2⟩ := h0 h; omega)
  have HM' := Lib.hid (show B = none → min n' 40 = 0 ∧ cap' = 0 from fun h => by obtain ⟨h1, h2⟩ := h0' h; omega)
  go_enter Try.func6, Try.ntmps6
  go_wp2_with fail
  refine (cut_any A n cap 40 _ hc hcap h0 (by omega)).mono ?_
  rintro e w1 ⟨rfl, hb⟩
  have HX := Lib.hid (show Below w.heap.size w (World.alloc (World.alloc w (.cells #[.slice A n cap] 24)) (.cells #[.slice B n' cap'] 24)) by go_grown)
  have HX1 := Lib.hid (show Below (World.alloc w (.cells #[.slice A n cap] 24)).heap.size (World.alloc w (.cells #[.slice A n cap] 24)) (World.alloc (World.alloc w (.cells #[.slice A n cap] 24)) (.cells #[.slice B n' cap'] 24)) by go_grown)
  have HT1 := Lib.hid (((TreeBox.new w A n cap).call HX1.out).call hb)
  have HU1 := Lib.hid (show TreeBox w1 (w.heap.size + 1) B n' cap' from (show TreeBox _ (w.heap.size + 1) B n' cap' by have h := TreeBox.new (World.alloc w (.cells #[.slice A n cap] 24)) B n' cap'; rw [World.size_alloc] at h; exact h).call hb)
  have HB1 := Lib.hid (thenB HX.out hb HX.out.size)
  have hz := HT1.out
  unfold TreeBox at hz
  have c2 := HT1.out.cell
  have fz := HT1.out.free
  have c3 := fun v => (HU1.out.other (k := w.heap.size) (by omega) v).cell
  clear hb HX HX1 h0
  have hm : min n 40 ≤ 40 := by omega
  have HL0 := Lib.hid (HL.out.take (min n 40) (by omega))
  generalize min n 40 = m at hm HL0 HM ⊢
  go_wp2_with fail
  refine (cut_any B n' cap' 40 _ hc' hcap' h0' (by omega)).mono ?_
  rintro e w2 ⟨rfl, hb⟩
  have HB2 := Lib.hid (thenB (below_store HB1.out (Nat.le_refl _) (.slice A m cap)) hb (below_store HB1.out (Nat.le_refl _) (.slice A m cap)).size)
  have HT2 := Lib.hid ((HT1.out.store A m cap).call hb)
  have HU2 := Lib.hid ((HU1.out.other (k := w.heap.size) (by omega) (.slice A m cap)).call hb)
  clear hb hz c2 fz c3 HB1 HT1 HU1 h0'
  have hz := HU2.out
  unfold TreeBox at hz
  have c3 := HU2.out.cell
  have fz := HU2.out.free
  have c2 := fun v => (HT2.out.other (k := w.heap.size + 1) (by omega) v).cell
  have hm' : min n' 40 ≤ 40 := by omega
  have HL1 := Lib.hid (HL'.out.take (min n' 40) (by omega))
  generalize min n' 40 = k at hm' HL1 HM' ⊢
  go_wp2_with fail
  have HB3 := Lib.hid (below_store HB2.out (show w.heap.size ≤ w.heap.size + 1 by omega) (.slice B k cap'))
  have HF0 := Lib.hid (show Duo w A m cap w.heap.size l B k cap' (w.heap.size + 1) l' _ from ⟨HB3.out, ⟨HT2.out.other (k := w.heap.size + 1) (by omega) (.slice B k cap'), HL0.out.below HB3.out (Nat.le_refl _)⟩, HU2.out.store B k cap', HL1.out.below HB3.out (Nat.le_refl _)⟩)
  clear HL HL' HL0 HL1 HB2 HT2 HU2 hz c2 c3 fz HB3
  rename_i K hK
  obtain ⟨U, hU⟩ : ∃ U, U = w2.setCell ⟨w.heap.size + 1, 0, none⟩ (.slice B k cap') := ⟨_, rfl⟩
  rw [← hU] at HF0 ⊢
  clear hU
  have hS : Duo w A m cap w.heap.size l B k cap' (w.heap.size + 1) l' U.drew := HF0.out.call (by go_grown)
  clear HF0
  refine wp_region_held_drew (S := Duo w A m cap w.heap.size l B k cap' (w.heap.size + 1) l') (by kernel_rfl) hS (fun _ => ?_)
  generalize U.drew = u0 at hS ⊢
  refine takeAt 0 15 (.agg #[.slice A m cap]) rfl rfl (by kernel_rfl) (by kernel_rfl) (by kernel_rfl) (fun _ _ _ h => h) (loadT_y w.heap.size A m cap (fun _ h => h.2.1.1) rfl rfl (by rfl)) hS ?_
  simp only [Act.put, List.setIfInBounds_toArray, List.set_cons_zero, List.set_cons_succ]
  refine takeAt 2 17 (.agg #[.slice B k cap']) rfl rfl (by kernel_rfl) (by kernel_rfl) (by kernel_rfl) (fun _ _ _ h => h) (loadT_y (w.heap.size + 1) B k cap' (fun _ h => h.2.2.1) rfl rfl (by rfl)) hS ?_
  simp only [Act.put, List.setIfInBounds_toArray, List.set_cons_zero, List.set_cons_succ]
  refine callAt 1 16 rfl rfl (by kernel_rfl) (by rfl) (by kernel_rfl) (ref_any A m cap l _ (by omega) hS.2.1.2) ?_
  rintro e u1 ⟨A5, c5, rfl, h5, hb⟩
  refine ⟨_, rfl, hS.call hb, ?_⟩
  have hS1 := hS.call hb
  clear hS hb
  simp only [Act.put, List.setIfInBounds_toArray, List.set_cons_zero, List.set_cons_succ]
  refine callAt 3 18 rfl rfl (by kernel_rfl) (by rfl) (by kernel_rfl) (ref_any B k cap' l' _ (by omega) hS1.2.2.2) ?_
  rintro e u2 ⟨A6, c6, rfl, h6, hb⟩
  refine ⟨_, rfl, hS1.call hb, ?_⟩
  have hS2 := hS1.call hb
  have HQ0 := Lib.hid (show Quad w A m cap w.heap.size l B k cap' (w.heap.size + 1) l' A5 A6 u2 from ⟨hS2, h5.call hb, h6⟩)
  clear hS1 hb h5 h6
  simp only [Act.put, List.setIfInBounds_toArray, List.set_cons_zero, List.set_cons_succ]
  refine takeAt 4 5 (.slice A5 m c5) rfl rfl (by kernel_rfl) (by kernel_rfl) (by kernel_rfl) (fun _ _ _ h => h) (yields (by rfl) (fun w => by kernel_rfl)) hS2 ?_
  simp only [Act.put, List.setIfInBounds_toArray, List.set_cons_zero, List.set_cons_succ]
  refine takeAt 5 6 (.slice A6 k c6) rfl rfl (by kernel_rfl) (by kernel_rfl) (by kernel_rfl) (fun _ _ _ h => h) (yields (by rfl) (fun w => by kernel_rfl)) hS2 ?_
  simp only [Act.put, List.setIfInBounds_toArray, List.set_cons_zero, List.set_cons_succ]
  refine wpAnyH_done (by kernel_rfl) ?_ _
  clear hS2
  apply hK
  clear hK
  have c2 := HQ0.out.1.2.1.1.cell
  have c3 := HQ0.out.1.2.2.1.cell
  go_wp2_with fail
  refine (join_any A m cap l B k cap' l' 9 _ (by omega) (by omega) HM.out HM'.out HQ0.out.1.2.1.2 HQ0.out.1.2.2.2).mono ?_
  rintro e w5 ⟨A7, n7, rfl, ho, hb⟩
  obtain ⟨z, rfl, hz0, hrow⟩ := row_of_own ho (by omega)
  have HQ1 := Lib.hid (HQ0.out.call hb)
  have HB1 := Lib.hid hb
  have HR1 := Lib.hid hrow
  have HXa := Lib.hid (show ∀ o, Below w5.heap.size w5 (World.alloc w5 o) from fun o => by go_grown)
  have hzl := hrow.lt
  clear c2 c3 ho hb hrow
  have c3 := fun o => (HQ1.out.call (HXa.out o)).1.2.2.1.cell
  go_wp2_with fail
  obtain ⟨V, hV⟩ : ∃ V, V = World.alloc w5 (.cells #[.slice (some ⟨z, 0, none⟩) (m + k + 1) n7] 24) := ⟨_, rfl⟩
  have hXV : Below w5.heap.size w5 V := by rw [hV]; exact HXa.out _
  have ht7 : TreeBox V w5.heap.size (some ⟨z, 0, none⟩) (m + k + 1) n7 := by rw [hV]; exact TreeBox.new w5 _ _ _
  rw [← hV]
  have HQ2 := Lib.hid (HQ1.out.call hXV)
  have HB2 := Lib.hid (thenB HB1.out hXV HB1.out.size)
  have HR2 := Lib.hid (HR1.out.call hXV)
  have HT7 := Lib.hid ht7
  have hl7 := ht7.lt
  clear c3 hV hXV HXa HQ1 HB1 HR1 ht7
  refine (wrap_any B k cap' l' ⟨11, 0, 0, 0, 0, 0, 0, 0, 0, 0, 3, false⟩ _ (by omega) HM'.out HQ2.out.1.2.2.2).mono ?_
  rintro e w6 ⟨A8, n8, rfl, ho, hb⟩
  obtain ⟨z', rfl, hz0', hrow⟩ := row_of_own ho (by omega)
  have hz7 : w5.heap.size < z' := by omega
  have hz8 := hrow.lt
  have HB3 := Lib.hid (thenB HB2.out hb HB2.out.size)
  have HR3 := Lib.hid (HR2.out.call hb)
  have HT3 := Lib.hid (HT7.out.call hb)
  have HR4 := Lib.hid hrow
  have HXa := Lib.hid (show ∀ o, Below w6.heap.size w6 (World.alloc w6 o) from fun o => by go_grown)
  clear ho hb hrow HB2 HR2 HT7 HQ2 hl7
  have hstart : Cop u2 z z' w5.heap.size w6.heap.size (m + k + 1) (k + 1) n7 n8 (World.alloc w6 (.cells #[.slice (some ⟨z', 0, none⟩) (k + 1) n8] 24)) :=
    ⟨thenB HB3.out (HXa.out _) HB3.out.size, ⟨HT3.out.call (HXa.out _), HR3.out.call (HXa.out _)⟩, TreeBox.new w6 _ _ _, HR4.out.call (HXa.out _)⟩
  have HS := Lib.hid hstart
  clear hstart HB3 HR3 HT3 HR4 HXa hz0'
  go_wp2_with fail
  go_loopw [9] (fun i wr => ∃ q : Nat, q ≤ m + k + 1 ∧ i = .int .i64 q ∧ Cop u2 z z' w5.heap.size w6.heap.size (m + k + 1) (k + 1) n7 n8 wr) (fun i _ => (m + k + 1) - (intOf i).toNat)
  case atStart => exact ⟨0, Nat.zero_le _, rfl, HS.out⟩
  case round =>
    obtain ⟨q, hq, rfl, hcop⟩ := hrel
    have HC := Lib.hid hcop
    clear hcop
    have c7 := HC.out.2.1.1.cell
    by_cases hlt : q < m + k + 1
    · obtain ⟨x, hx⟩ := HC.out.2.1.2.cell (show q * 12 + 10 < (m + k + 1) * 12 by omega)
      have fz := HC.out.2.1.2.free (q * 12 + 10)
      have hzw := HC.out.2.1.2.lt
      have hlt' : (q : Int) < (m : Int) + (k : Int) + 1 := by omega
      go_wp2_with fail
      go_roundw
      case rel => exact ⟨q + 1, by omega, by go_num, HC.out.set hz0 hzl hz7 hz8 (q * 12 + 10) _⟩
      case measure => simp [intOf]; omega
    · have hge : ¬ (q : Int) < (m : Int) + (k : Int) + 1 := by omega
      clear hq hlt HS
      go_wp2_with fail
      clear c7 hge
      go_loopw [10] (fun i wr => ∃ q : Nat, q ≤ k + 1 ∧ i = .int .i64 q ∧ Cop u2 z z' w5.heap.size w6.heap.size (m + k + 1) (k + 1) n7 n8 wr) (fun i _ => (k + 1) - (intOf i).toNat)
      case atStart => exact ⟨0, Nat.zero_le _, rfl, HC.out⟩
      case round =>
        rename_i wr0 _ _ _
        clear HC
        obtain ⟨q', hq', rfl, hcop⟩ := hrel
        have HC := Lib.hid hcop
        clear hcop
        have c8 := HC.out.2.2.1.cell
        by_cases hlt : q' < k + 1
        · obtain ⟨x, hx⟩ := HC.out.2.2.2.cell (show q' * 12 + 10 < (k + 1) * 12 by omega)
          have fz := HC.out.2.2.2.free (q' * 12 + 10)
          have hzw := HC.out.2.2.2.lt
          have hlt' : (q' : Int) < (k : Int) + 1 := by omega
          go_wp2_with fail
          go_roundw
          case rel => exact ⟨q' + 1, by omega, by go_num, HC.out.set' hz0 hzl hz7 hz8 (q' * 12 + 10) _⟩
          case measure => simp [intOf]; omega
        · have hge : ¬ (q' : Int) < (k : Int) + 1 := by omega
          clear hq' hlt
          have c7 := HC.out.2.1.1.cell
          have HV := Lib.hid (HQ0.out.call HC.out.1)
          have c2 := HV.out.1.2.1.1.cell
          have c3 := HV.out.1.2.2.1.cell
          have HP0 := Lib.hid (And.intro HV.out HC.out.2.1.1)
          clear HV HC
          go_wp2_with fail
          refine (ref_any A m cap l _ (by omega) HP0.out.1.1.2.1.2).mono ?_
          rintro e v1 ⟨A9, c9, rfl, h9, hb⟩
          have HP1 := Lib.hid (And.intro (HP0.out.1.call hb) (HP0.out.2.call hb))
          have H9 := Lib.hid h9
          clear h9 hb HP0 c2 c3 c7 c8 hge
          have c3 := HP1.out.1.1.2.2.1.cell
          go_wp2_with fail
          refine (rsame_any A9 A5 m m c9 c5 l l _ (by omega) (by omega) H9.out HP1.out.1.2.1).mono ?_
          rintro e v2 ⟨rfl, qv2, rfl⟩
          rw [same_self]
          have hb := below_drewN (Below.refl v1.heap.size v1) qv2
          have HP2 := Lib.hid (And.intro (HP1.out.1.call hb) (HP1.out.2.call hb))
          clear hb HP1 c3 H9
          have c3 := HP2.out.1.1.2.2.1.cell
          go_wp2_with fail
          refine (ref_any B k cap' l' _ (by omega) HP2.out.1.1.2.2.2).mono ?_
          rintro e v3 ⟨A10, c10, rfl, h9, hb⟩
          have HP3 := Lib.hid (And.intro (HP2.out.1.call hb) (HP2.out.2.call hb))
          have H9 := Lib.hid h9
          clear h9 hb HP2 c3
          have c2 := HP3.out.1.1.2.1.1.cell
          go_wp2_with fail
          refine (rsame_any A10 A6 k k c10 c6 l' l' _ (by omega) (by omega) H9.out HP3.out.1.2.2).mono ?_
          rintro e v4 ⟨rfl, qv4, rfl⟩
          rw [same_self]
          have hb := below_drewN (Below.refl v3.heap.size v3) qv4
          have HP4 := Lib.hid (And.intro (HP3.out.1.call hb) (HP3.out.2.call hb))
          clear hb HP3 c2 H9
          have c2 := HP4.out.1.1.2.1.1.cell
          go_wp2_with fail
          refine (same_any A A m m cap cap l l _ (by omega) (by omega) HP4.out.1.1.2.1.2 HP4.out.1.1.2.1.2).mono ?_
          rintro e v5 ⟨rfl, hb⟩
          rw [same_self]
          have HP5 := Lib.hid (And.intro (HP4.out.1.call hb) (HP4.out.2.call hb))
          clear hb HP4 c2
          have c2 := HP5.out.1.1.2.1.1.cell
          have c3 := HP5.out.1.1.2.2.1.cell
          have c7 := HP5.out.2.cell
          go_wp2_with fail
          refine (fixed_any HSN.out.1 HSN.out.2 _).mono ?_
          rintro e v6 ⟨rfl, hb⟩
          have HP6 := Lib.hid (HP5.out.1.call hb)
          clear hb HP5 c2 c3 c7
          go_wp2_with fail
          go_ret
          exact ⟨rfl, HP6.out.1.1⟩
end Go.Proofs.Ytcjefhjhmmoocaa
