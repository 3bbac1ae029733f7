/-
  What the landed package limit does: Scale.
-/
import Derived.Test.YtaobbdmkkehpnaaLimCodeB
namespace Go.Proofs.Ytaobbdmkkehpnaa
open Go.RowKit

/-- A budget lies in block g. -/
def RowC (u : World) (g x y : Nat) : Prop := u.heap[g]? = some (.cells #[.float .f64 x, .float .f64 y] 24 (0, 0))
theorem RowC.lt {u : World} {g x y : Nat} (h : RowC u g x y) : g < u.heap.size := (Array.getElem?_eq_some_iff.1 h).1
theorem RowC.cells {u : World} {g x y : Nat} (h : RowC u g x y) : u.cell? ⟨g, 0, none⟩ = some (.float .f64 x) ∧ u.cell? ⟨g, 1, none⟩ = some (.float .f64 y) := by
  unfold RowC at h
  unfold World.cell?
  simp [h]
theorem RowC.free {u : World} {g x y : Nat} (h : RowC u g x y) (j : Nat) : u.frozen? ⟨g, j, none⟩ = false := frozen_of_row u g j _ _ h
theorem RowC.call {u v : World} {g x y : Nat} (h : RowC u g x y) (hb : Below u.heap.size u v) : RowC v g x y := (hb.block g h.lt).trans h
theorem RowC.new (u : World) (g x y : Nat) (hg : g = u.heap.size) : RowC (u.alloc (.cells #[.float .f64 x, .float .f64 y] 24)) g x y := by subst hg; exact heap_alloc_new _ _
theorem RowC.alloc {u : World} {g x y : Nat} (h : RowC u g x y) (o : Obj) : RowC (u.alloc o) g x y := (Below.heap_alloc _ _ _ h.lt).trans h
theorem RowC.set {u : World} {g x y : Nat} (h : RowC u g x y) (x' y' : Nat) : RowC ((u.setCell ⟨g, 0, none⟩ (.float .f64 x')).setCell ⟨g, 1, none⟩ (.float .f64 y')) g x' y' := by
  unfold RowC at h ⊢
  have h1 := heap_setCell_same u g 0 _ _ (.float .f64 x') h
  have h2 := heap_setCell_same _ g 1 _ _ (.float .f64 y') h1
  rw [h2]
  rfl
theorem RowC.other {u : World} {g x y k : Nat} (h : RowC u g x y) (hk : g ≠ k) (i j : Nat) (v v' : Value) : RowC ((u.setCell ⟨k, i, none⟩ v).setCell ⟨k, j, none⟩ v') g x y :=
  (heap_setCell_other _ ⟨k, j, none⟩ g v' hk).trans ((heap_setCell_other _ ⟨k, i, none⟩ g v hk).trans h)

theorem RowC.results {fn : Func} {p u : Tmp} (h : fn.results = #[.cell p 24, .tmp u]) (tmps : Array Value) {w : World} {g x y : Nat} (hp : tmps.getD p undef = .pointer (some ⟨g, 0, none⟩)) (hR : RowC w g x y) :
    (results fn tmps).run Try.prog w = .ok (.tuple #[bud x y, tmps.getD u undef]) w := by
  rw [results_cell_tmp h, hp]
  simp only [asAddr, Sem.run_pure, Result.andThen_ok, run_loadVar_row w g _ _ _ _ _ hR Try.underlying24 rfl info28]
theorem RowC.stored {w W : World} {g : Nat} (hb : Below w.heap.size w W) (hg : w.heap.size ≤ g) (i j : Nat) (v v' : Value) : Below w.heap.size w ((W.setCell ⟨g, i, none⟩ v).setCell ⟨g, j, none⟩ v') := (hb.setCell hg v).setCell hg v'
theorem scale_rows (w : World) (a b r1 r2 : Nat) :
    RowC (((w.alloc (.cells #[.float .f64 a, .float .f64 b] 24)).alloc (.cells #[.float .f64 0, .float .f64 0] 24)).alloc (.cells #[.float .f64 r1, .float .f64 r2] 24)) (w.heap.size + 1 + 1) r1 r2 ∧
    RowC (((w.alloc (.cells #[.float .f64 a, .float .f64 b] 24)).alloc (.cells #[.float .f64 0, .float .f64 0] 24)).alloc (.cells #[.float .f64 r1, .float .f64 r2] 24)) (w.heap.size + 1) 0 0 ∧
    Below w.heap.size w (((w.alloc (.cells #[.float .f64 a, .float .f64 b] 24)).alloc (.cells #[.float .f64 0, .float .f64 0] 24)).alloc (.cells #[.float .f64 r1, .float .f64 r2] 24)) :=
  ⟨RowC.new _ _ _ _ (by simp), (RowC.new _ _ _ _ (by simp)).alloc _, by go_grown⟩

set_option maxHeartbeats 2000000 in
theorem scale_any (a b x : Nat) (w : World) (ha : a < 18446744073709551616) (hb : b < 18446744073709551616) :
    Calls Try.prog 9 #[bud a b, .float .f64 x] w fun e w' => e = .returned (.tuple #[scV a b x, .int .i64 (scE a b x)]) ∧ Below w.heap.size w w' := by
  obtain ⟨r1, w1, m1, hw1, l1, f1⟩ := mul_run 22 a x ((w.alloc (.cells #[.float .f64 a, .float .f64 b] 24)).alloc (.cells #[.float .f64 0, .float .f64 0] 24))
  obtain ⟨r2, w2, m2, hw2, l2, f2⟩ := mul_run 22 b x w1
  obtain ⟨k1, v1⟩ := mul_facts f1
  obtain ⟨k2, v2⟩ := mul_facts f2
  have L1 := Lib.hid l1
  have L2 := Lib.hid l2
  have V1 := Lib.hid v1
  have V2 := Lib.hid v2
  have K1 := Lib.hid k1
  have K2 := Lib.hid k2
  clear l1 l2 v1 v2 k1 k2 f1 f2
  obtain ⟨q1, q2, q3⟩ := scale_rows w a b r1 r2
  have Q1 := Lib.hid q1
  have Q2 := Lib.hid q2
  have Q3 := Lib.hid q3
  clear q1 q2 q3
  cases hab : (okW a && okW b)
  · have hv : scOk a b x = false := by unfold scOk; rw [hab]; rfl
    have hv1 : scV a b x = bud 0 0 := by unfold scV; rw [hv]; rfl
    have hv2 : scE a b x = 1 := by unfold scE; rw [hv]; rfl
    rw [hv1, hv2]
    clear hv hv1 hv2
    rcases hw1 with rfl | rfl <;> rcases hw2 with rfl | rfl
    all_goals
      go_enter Try.func9, Try.ntmps9
      go_wp2_with fail
      refine (right_any a b _ ha hb).mono ?_
      rintro e w3 ⟨rfl, hb3⟩
      have hb4 : Below (((w.alloc (.cells #[.float .f64 a, .float .f64 b] 24)).alloc (.cells #[.float .f64 0, .float .f64 0] 24)).alloc (.cells #[.float .f64 r1, .float .f64 r2] 24)).heap.size (((w.alloc (.cells #[.float .f64 a, .float .f64 b] 24)).alloc (.cells #[.float .f64 0, .float .f64 0] 24)).alloc (.cells #[.float .f64 r1, .float .f64 r2] 24)) w3 := ⟨hb3.os, hb3.tape, hb3.output, hb3.size, hb3.block⟩
      have R1 := Lib.hid (Q1.out.call hb4)
      have R2 := Lib.hid (Q2.out.call hb4)
      have B3 := Lib.hid (thenB Q3.out hb4 Q3.out.size)
      clear hb3 hb4 Q1 Q2 Q3 m1 m2
      rw [hab]
      obtain ⟨c1, c2⟩ := R1.out.cells
      obtain ⟨c3, c4⟩ := R2.out.cells
      have f3 := R2.out.free
      have R3 := Lib.hid (R2.out.set 0 0)
      go_wp2_with fail
      exact bodyPost_ret (R3.out.results rfl _ rfl) rfl ⟨rfl, RowC.stored B3.out (by omega) 0 1 _ _⟩
  · cases hm : (mulOk a x && mulOk b x)
    · have hv : scOk a b x = false := by unfold scOk; rw [hab, hm]; rfl
      have hv1 : scV a b x = bud 0 0 := by unfold scV; rw [hv]; rfl
      have hv2 : scE a b x = 1 := by unfold scE; rw [hv]; rfl
      rw [hv1, hv2]
      have HM := Lib.hid (show (okW r1 && okW r2) = false by rw [K1.out, K2.out]; exact hm)
      clear hv hv1 hv2 hm
      rcases hw1 with rfl | rfl <;> rcases hw2 with rfl | rfl
      all_goals
        go_enter Try.func9, Try.ntmps9
        go_wp2_with fail
        refine (right_any a b _ ha hb).mono ?_
        rintro e w3 ⟨rfl, hb3⟩
        have hb4 : Below (((w.alloc (.cells #[.float .f64 a, .float .f64 b] 24)).alloc (.cells #[.float .f64 0, .float .f64 0] 24)).alloc (.cells #[.float .f64 r1, .float .f64 r2] 24)).heap.size (((w.alloc (.cells #[.float .f64 a, .float .f64 b] 24)).alloc (.cells #[.float .f64 0, .float .f64 0] 24)).alloc (.cells #[.float .f64 r1, .float .f64 r2] 24)) w3 := ⟨hb3.os, hb3.tape, hb3.output, hb3.size, hb3.block⟩
        have R1 := Lib.hid (Q1.out.call hb4)
        have R2 := Lib.hid (Q2.out.call hb4)
        have B3 := Lib.hid (thenB Q3.out hb4 Q3.out.size)
        clear hb3 hb4 Q1 Q2 Q3 m1 m2
        rw [hab]
        obtain ⟨c1, c2⟩ := R1.out.cells
        obtain ⟨c3, c4⟩ := R2.out.cells
        have f3 := R2.out.free
        go_wp2_with fail
        refine (right_any r1 r2 _ L1.out L2.out).mono ?_
        rintro e w4 ⟨rfl, hb5⟩
        have S2 := Lib.hid (R2.out.call hb5)
        have B4 := Lib.hid (thenB B3.out hb5 B3.out.size)
        clear hb5 c1 c2 c3 c4 f3
        rw [HM.out]
        obtain ⟨d3, d4⟩ := S2.out.cells
        have f4 := S2.out.free
        have R3 := Lib.hid (S2.out.set 0 0)
        go_wp2_with fail
        exact bodyPost_ret (R3.out.results rfl _ rfl) rfl ⟨rfl, RowC.stored B4.out (by omega) 0 1 _ _⟩
    · have hv : scOk a b x = true := by unfold scOk; rw [hab, hm]; rfl
      have hm2 : mulOk a x = true ∧ mulOk b x = true := by simpa using hm
      have hv1 : scV a b x = bud r1 r2 := by unfold scV; rw [hv, V1.out hm2.1, V2.out hm2.2]; rfl
      have hv2 : scE a b x = 0 := by unfold scE; rw [hv]; rfl
      rw [hv1, hv2]
      have HM := Lib.hid (show (okW r1 && okW r2) = true by rw [K1.out, K2.out]; exact hm)
      clear hv hv1 hv2 hm hm2
      rcases hw1 with rfl | rfl <;> rcases hw2 with rfl | rfl
      all_goals
        go_enter Try.func9, Try.ntmps9
        go_wp2_with fail
        refine (right_any a b _ ha hb).mono ?_
        rintro e w3 ⟨rfl, hb3⟩
        have hb4 : Below (((w.alloc (.cells #[.float .f64 a, .float .f64 b] 24)).alloc (.cells #[.float .f64 0, .float .f64 0] 24)).alloc (.cells #[.float .f64 r1, .float .f64 r2] 24)).heap.size (((w.alloc (.cells #[.float .f64 a, .float .f64 b] 24)).alloc (.cells #[.float .f64 0, .float .f64 0] 24)).alloc (.cells #[.float .f64 r1, .float .f64 r2] 24)) w3 := ⟨hb3.os, hb3.tape, hb3.output, hb3.size, hb3.block⟩
        have R1 := Lib.hid (Q1.out.call hb4)
        have R2 := Lib.hid (Q2.out.call hb4)
        have B3 := Lib.hid (thenB Q3.out hb4 Q3.out.size)
        clear hb3 hb4 Q1 Q2 Q3 m1 m2
        rw [hab]
        obtain ⟨c1, c2⟩ := R1.out.cells
        obtain ⟨c3, c4⟩ := R2.out.cells
        have f3 := R2.out.free
        go_wp2_with fail
        refine (right_any r1 r2 _ L1.out L2.out).mono ?_
        rintro e w4 ⟨rfl, hb5⟩
        have S1 := Lib.hid (R1.out.call hb5)
        have S2 := Lib.hid (R2.out.call hb5)
        have B4 := Lib.hid (thenB B3.out hb5 B3.out.size)
        clear hb5 c1 c2 c3 c4 f3
        rw [HM.out]
        obtain ⟨d1, d2⟩ := S1.out.cells
        obtain ⟨d3, d4⟩ := S2.out.cells
        have f4 := S2.out.free
        have R3 := Lib.hid (S2.out.set r1 r2)
        go_wp2_with fail
        exact bodyPost_ret (R3.out.results rfl _ rfl) rfl ⟨rfl, RowC.stored B4.out (by omega) 0 1 _ _⟩
end Go.Proofs.Ytaobbdmkkehpnaa
