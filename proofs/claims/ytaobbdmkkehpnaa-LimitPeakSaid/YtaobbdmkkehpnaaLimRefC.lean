/-
  What the document's own answers for layer 4 do: Scale.
-/
import Derived.Test.YtaobbdmkkehpnaaLimRefB
import Derived.Laws.FloatArith
import Derived.Laws.ResultCell
namespace Go.Proofs.Ytaobbdmkkehpnaa
open Go.RowKit

theorem mul_run (t : TypeId) (x y : Nat) (w : World) : ∃ r w', (binOp .mul t (.float .f64 x) (.float .f64 y)).run Try.prog w = .ok (.float .f64 r) w' ∧ (w' = w ∨ w' = w.drew) ∧ r < 18446744073709551616 ∧ (Ieee.double.mul x y = some r ∨ (Ieee.double.mul x y = none ∧ nanW r = true)) := by
  cases h : Ieee.double.mul x y with
  | some r =>
    refine ⟨r, w, ?_, Or.inl rfl, ?_, Or.inl rfl⟩
    · exact run_float_arith w .mul t .f64 x y r (show Ieee.double.mul x y = some r from h)
    · have := Ieee.Format.mul_lt _ h
      have e : 2 ^ Ieee.double.width = 18446744073709551616 := by decide
      rw [e] at this
      exact this
  | none =>
    have h2 : FloatKind.f64.format.mul x y = none := h
    refine ⟨(Question.nanBits .f64 x y).cut (w.tape w.drawn (.nanBits .f64 x y)), w.drew, ?_, Or.inr rfl, ?_, Or.inr ⟨rfl, ?_⟩⟩
    · simp [binOp, Op.floatArith, h2, Question.forced]
    · generalize w.tape w.drawn (.nanBits .f64 x y) = k
      simp only [Question.cut]
      omega
    · generalize w.tape w.drawn (.nanBits .f64 x y) = k
      apply decide_eq_true
      show 2047 * 2 ^ 52 < (k % 2 * 2 ^ 63 + 0x7ff0000000000000 + 1 + k / 2 % (2 ^ 52 - 1)) % 2 ^ 63
      have h3 : k / 2 % (2 ^ 52 - 1) < 2 ^ 52 - 1 := Nat.mod_lt _ (by decide)
      generalize k / 2 % (2 ^ 52 - 1) = q at h3
      rcases (show k % 2 = 0 ∨ k % 2 = 1 by omega) with e | e <;> rw [e] <;> omega
theorem ok_nan (x : Nat) (h : nanW x = true) : okW x = false := by
  unfold okW kindZ
  rw [h]
  rfl
/-- What times what may be, and is. -/
def mulOk (x y : Nat) : Bool := match Ieee.double.mul x y with
  | some r => okW r
  | none => false
def mulV (x y : Nat) : Nat := (Ieee.double.mul x y).getD 0
theorem mul_facts {x y r : Nat} (h : Ieee.double.mul x y = some r ∨ (Ieee.double.mul x y = none ∧ nanW r = true)) : okW r = mulOk x y ∧ (mulOk x y = true → r = mulV x y) := by
  unfold mulOk mulV
  rcases h with h | ⟨h, hn⟩
  · rw [h]
    exact ⟨rfl, fun _ => rfl⟩
  · rw [h]
    exact ⟨ok_nan r hn, fun hc => by simp at hc⟩
/-- What a budget times a number is; and the error's number. -/
def scOk (a b x : Nat) : Bool := okW a && okW b && (mulOk a x && mulOk b x)
def scV (a b x : Nat) : Value := if scOk a b x then bud (mulV a x) (mulV b x) else bud 0 0
def scE (a b x : Nat) : Int := if scOk a b x then 0 else 1

/-- A budget lies in block g. -/
def Row (u : World) (g x y : Nat) : Prop := u.heap[g]? = some (.cells #[.float .f64 x, .float .f64 y] 28 (0, 0))
theorem Row.lt {u : World} {g x y : Nat} (h : Row u g x y) : g < u.heap.size := (Array.getElem?_eq_some_iff.1 h).1
theorem Row.cells {u : World} {g x y : Nat} (h : Row u g x y) : u.cell? ⟨g, 0, none⟩ = some (.float .f64 x) ∧ u.cell? ⟨g, 1, none⟩ = some (.float .f64 y) := by
  unfold Row at h
  unfold World.cell?
  simp [h]
theorem Row.free {u : World} {g x y : Nat} (h : Row u g x y) (j : Nat) : u.frozen? ⟨g, j, none⟩ = false := frozen_of_row u g j _ _ h
theorem Row.call {u v : World} {g x y : Nat} (h : Row u g x y) (hb : Below u.heap.size u v) : Row v g x y := (hb.block g h.lt).trans h
theorem Row.new (u : World) (g x y : Nat) (hg : g = u.heap.size) : Row (u.alloc (.cells #[.float .f64 x, .float .f64 y] 28)) g x y := by subst hg; exact heap_alloc_new _ _
theorem Row.alloc {u : World} {g x y : Nat} (h : Row u g x y) (o : Obj) : Row (u.alloc o) g x y := (Below.heap_alloc _ _ _ h.lt).trans h
theorem Row.set {u : World} {g x y : Nat} (h : Row u g x y) (x' y' : Nat) : Row ((u.setCell ⟨g, 0, none⟩ (.float .f64 x')).setCell ⟨g, 1, none⟩ (.float .f64 y')) g x' y' := by
  unfold Row at h ⊢
  have h1 := heap_setCell_same u g 0 _ _ (.float .f64 x') h
  have h2 := heap_setCell_same _ g 1 _ _ (.float .f64 y') h1
  rw [h2]
  rfl
theorem Row.other {u : World} {g x y k : Nat} (h : Row u g x y) (hk : g ≠ k) (i j : Nat) (v v' : Value) : Row ((u.setCell ⟨k, i, none⟩ v).setCell ⟨k, j, none⟩ v') g x y :=
  (heap_setCell_other _ ⟨k, j, none⟩ g v' hk).trans ((heap_setCell_other _ ⟨k, i, none⟩ g v hk).trans h)

theorem Row.results {fn : Func} {p u : Tmp} (h : fn.results = #[.cell p 28, .tmp u]) (tmps : Array Value) {w : World} {g x y : Nat} (hp : tmps.getD p undef = .pointer (some ⟨g, 0, none⟩)) (hR : Row w g x y) :
    (results fn tmps).run Try.prog w = .ok (.tuple #[bud x y, tmps.getD u undef]) w := by
  rw [results_cell_tmp h, hp]
  simp only [asAddr, Sem.run_pure, Result.andThen_ok, run_loadVar_row w g _ _ _ _ _ hR Try.underlying28 rfl info28]
theorem Row.stored {w W : World} {g : Nat} (hb : Below w.heap.size w W) (hg : w.heap.size ≤ g) (i j : Nat) (v v' : Value) : Below w.heap.size w ((W.setCell ⟨g, i, none⟩ v).setCell ⟨g, j, none⟩ v') := (hb.setCell hg v).setCell hg v'
theorem rscale_rows (w : World) (a b r1 r2 : Nat) :
    Row (((w.alloc (.cells #[.float .f64 a, .float .f64 b] 28)).alloc (.cells #[.float .f64 0, .float .f64 0] 28)).alloc (.cells #[.float .f64 r1, .float .f64 r2] 28)) (w.heap.size + 1 + 1) r1 r2 ∧
    Row (((w.alloc (.cells #[.float .f64 a, .float .f64 b] 28)).alloc (.cells #[.float .f64 0, .float .f64 0] 28)).alloc (.cells #[.float .f64 r1, .float .f64 r2] 28)) (w.heap.size + 1) 0 0 ∧
    Below w.heap.size w (((w.alloc (.cells #[.float .f64 a, .float .f64 b] 28)).alloc (.cells #[.float .f64 0, .float .f64 0] 28)).alloc (.cells #[.float .f64 r1, .float .f64 r2] 28)) :=
  ⟨Row.new _ _ _ _ (by simp), (Row.new _ _ _ _ (by simp)).alloc _, by go_grown⟩

set_option maxHeartbeats 2000000 in
theorem rscale_any (a b x : Nat) (w : World) (ha : a < 18446744073709551616) (hb : b < 18446744073709551616) :
    Calls Try.prog 10 #[bud a b, .float .f64 x] w fun e w' => e = .returned (.tuple #[scV a b x, .int .i64 (scE a b x)]) ∧ Below w.heap.size w w' := by
  obtain ⟨r1, w1, m1, hw1, l1, f1⟩ := mul_run 22 a x ((w.alloc (.cells #[.float .f64 a, .float .f64 b] 28)).alloc (.cells #[.float .f64 0, .float .f64 0] 28))
  obtain ⟨r2, w2, m2, hw2, l2, f2⟩ := mul_run 22 b x w1
  obtain ⟨k1, v1⟩ := mul_facts f1
  obtain ⟨k2, v2⟩ := mul_facts f2
  have L1 := Lib.hid l1
  have L2 := Lib.hid l2
  have V1 := Lib.hid v1
  have V2 := Lib.hid v2
  have K1 := Lib.hid k1
  have K2 := Lib.hid k2
  clear l1 l2 v1 v2 k1 k2 f1 f2
  obtain ⟨q1, q2, q3⟩ := rscale_rows w a b r1 r2
  have Q1 := Lib.hid q1
  have Q2 := Lib.hid q2
  have Q3 := Lib.hid q3
  clear q1 q2 q3
  cases hab : (okW a && okW b)
  · have hv : scOk a b x = false := by unfold scOk; rw [hab]; rfl
    have hv1 : scV a b x = bud 0 0 := by unfold scV; rw [hv]; rfl
    have hv2 : scE a b x = 1 := by unfold scE; rw [hv]; rfl
    rw [hv1, hv2]
    clear hv hv1 hv2
    rcases hw1 with rfl | rfl <;> rcases hw2 with rfl | rfl
    all_goals
      go_enter Try.func10, Try.ntmps10
      go_wp2_with fail
      refine (rright_any a b _ ha hb).mono ?_
      rintro e w3 ⟨rfl, hb3⟩
      have hb4 : Below (((w.alloc (.cells #[.float .f64 a, .float .f64 b] 28)).alloc (.cells #[.float .f64 0, .float .f64 0] 28)).alloc (.cells #[.float .f64 r1, .float .f64 r2] 28)).heap.size (((w.alloc (.cells #[.float .f64 a, .float .f64 b] 28)).alloc (.cells #[.float .f64 0, .float .f64 0] 28)).alloc (.cells #[.float .f64 r1, .float .f64 r2] 28)) w3 := ⟨hb3.os, hb3.tape, hb3.output, hb3.size, hb3.block⟩
      have R1 := Lib.hid (Q1.out.call hb4)
      have R2 := Lib.hid (Q2.out.call hb4)
      have B3 := Lib.hid (thenB Q3.out hb4 Q3.out.size)
      clear hb3 hb4 Q1 Q2 Q3 m1 m2
      rw [hab]
      obtain ⟨c1, c2⟩ := R1.out.cells
      obtain ⟨c3, c4⟩ := R2.out.cells
      have f3 := R2.out.free
      have R3 := Lib.hid (R2.out.set 0 0)
      go_wp2_with fail
      exact bodyPost_ret (R3.out.results rfl _ rfl) rfl ⟨rfl, Row.stored B3.out (by omega) 0 1 _ _⟩
  · cases hm : (mulOk a x && mulOk b x)
    · have hv : scOk a b x = false := by unfold scOk; rw [hab, hm]; rfl
      have hv1 : scV a b x = bud 0 0 := by unfold scV; rw [hv]; rfl
      have hv2 : scE a b x = 1 := by unfold scE; rw [hv]; rfl
      rw [hv1, hv2]
      have HM := Lib.hid (show (okW r1 && okW r2) = false by rw [K1.out, K2.out]; exact hm)
      clear hv hv1 hv2 hm
      rcases hw1 with rfl | rfl <;> rcases hw2 with rfl | rfl
      all_goals
        go_enter Try.func10, Try.ntmps10
        go_wp2_with fail
        refine (rright_any a b _ ha hb).mono ?_
        rintro e w3 ⟨rfl, hb3⟩
        have hb4 : Below (((w.alloc (.cells #[.float .f64 a, .float .f64 b] 28)).alloc (.cells #[.float .f64 0, .float .f64 0] 28)).alloc (.cells #[.float .f64 r1, .float .f64 r2] 28)).heap.size (((w.alloc (.cells #[.float .f64 a, .float .f64 b] 28)).alloc (.cells #[.float .f64 0, .float .f64 0] 28)).alloc (.cells #[.float .f64 r1, .float .f64 r2] 28)) w3 := ⟨hb3.os, hb3.tape, hb3.output, hb3.size, hb3.block⟩
        have R1 := Lib.hid (Q1.out.call hb4)
        have R2 := Lib.hid (Q2.out.call hb4)
        have B3 := Lib.hid (thenB Q3.out hb4 Q3.out.size)
        clear hb3 hb4 Q1 Q2 Q3 m1 m2
        rw [hab]
        obtain ⟨c1, c2⟩ := R1.out.cells
        obtain ⟨c3, c4⟩ := R2.out.cells
        have f3 := R2.out.free
        go_wp2_with fail
        refine (rright_any r1 r2 _ L1.out L2.out).mono ?_
        rintro e w4 ⟨rfl, hb5⟩
        have S2 := Lib.hid (R2.out.call hb5)
        have B4 := Lib.hid (thenB B3.out hb5 B3.out.size)
        clear hb5 c1 c2 c3 c4 f3
        rw [HM.out]
        obtain ⟨d3, d4⟩ := S2.out.cells
        have f4 := S2.out.free
        have R3 := Lib.hid (S2.out.set 0 0)
        go_wp2_with fail
        exact bodyPost_ret (R3.out.results rfl _ rfl) rfl ⟨rfl, Row.stored B4.out (by omega) 0 1 _ _⟩
    · have hv : scOk a b x = true := by unfold scOk; rw [hab, hm]; rfl
      have hm2 : mulOk a x = true ∧ mulOk b x = true := by simpa using hm
      have hv1 : scV a b x = bud r1 r2 := by unfold scV; rw [hv, V1.out hm2.1, V2.out hm2.2]; rfl
      have hv2 : scE a b x = 0 := by unfold scE; rw [hv]; rfl
      rw [hv1, hv2]
      have HM := Lib.hid (show (okW r1 && okW r2) = true by rw [K1.out, K2.out]; exact hm)
      clear hv hv1 hv2 hm hm2
      rcases hw1 with rfl | rfl <;> rcases hw2 with rfl | rfl
      all_goals
        go_enter Try.func10, Try.ntmps10
        go_wp2_with fail
        refine (rright_any a b _ ha hb).mono ?_
        rintro e w3 ⟨rfl, hb3⟩
        have hb4 : Below (((w.alloc (.cells #[.float .f64 a, .float .f64 b] 28)).alloc (.cells #[.float .f64 0, .float .f64 0] 28)).alloc (.cells #[.float .f64 r1, .float .f64 r2] 28)).heap.size (((w.alloc (.cells #[.float .f64 a, .float .f64 b] 28)).alloc (.cells #[.float .f64 0, .float .f64 0] 28)).alloc (.cells #[.float .f64 r1, .float .f64 r2] 28)) w3 := ⟨hb3.os, hb3.tape, hb3.output, hb3.size, hb3.block⟩
        have R1 := Lib.hid (Q1.out.call hb4)
        have R2 := Lib.hid (Q2.out.call hb4)
        have B3 := Lib.hid (thenB Q3.out hb4 Q3.out.size)
        clear hb3 hb4 Q1 Q2 Q3 m1 m2
        rw [hab]
        obtain ⟨c1, c2⟩ := R1.out.cells
        obtain ⟨c3, c4⟩ := R2.out.cells
        have f3 := R2.out.free
        go_wp2_with fail
        refine (rright_any r1 r2 _ L1.out L2.out).mono ?_
        rintro e w4 ⟨rfl, hb5⟩
        have S1 := Lib.hid (R1.out.call hb5)
        have S2 := Lib.hid (R2.out.call hb5)
        have B4 := Lib.hid (thenB B3.out hb5 B3.out.size)
        clear hb5 c1 c2 c3 c4 f3
        rw [HM.out]
        obtain ⟨d1, d2⟩ := S1.out.cells
        obtain ⟨d3, d4⟩ := S2.out.cells
        have f4 := S2.out.free
        have R3 := Lib.hid (S2.out.set r1 r2)
        go_wp2_with fail
        exact bodyPost_ret (R3.out.results rfl _ rfl) rfl ⟨rfl, Row.stored B4.out (by omega) 0 1 _ _⟩
end Go.Proofs.Ytaobbdmkkehpnaa
