/-
  The statement LimitGrows: what its walk comes to, if package limit's calls do what the document says.
-/
import Derived.Test.YtaobbdmkkehpnaaLimCountsLaw
import Derived.Test.YtaobbdmkkehpnaaLimEndsLaw
namespace Go.Proofs.Ytaobbdmkkehpnaa
open Go.RowKit

theorem nan_ok {x : Nat} (h : okW x = true) : nanW x = false := by
  cases e : nanW x
  · rfl
  · rw [ok_nan x e] at h; simp at h
theorem allow_iff (n b : Nat) (hb : nanW b = false) : allowB n b = decide (sv (fl n) ≤ sv b) := by
  by_cases h : sv (fl n) ≤ sv b
  · rw [allow_sv n b hb h]; simp [h]
  · rw [allow_sv_not n b hb (by omega)]; simp [h]
theorem less_sv (a b : Nat) (ha : nanW a = false) (hb : nanW b = false) : nanW (lessW a b) = false ∧ sv (lessW a b) = min (sv a) (sv b) := by
  unfold lessW
  have e : FloatKind.f64.format.order b a = some (compare (sv b) (sv a)) := order_sv b a hb ha
  rw [e]
  by_cases h : sv b < sv a
  · rw [if_pos (by rw [Int.compare_eq_lt.2 h])]
    exact ⟨hb, by omega⟩
  · rw [if_neg (by intro hc; exact h (Int.compare_eq_lt.1 (Option.some.inj hc)))]
    exact ⟨ha, by omega⟩
theorem allow_less (n a b : Nat) (ha : nanW a = false) (hb : nanW b = false) : allowB n (lessW a b) = (allowB n a && allowB n b) := by
  obtain ⟨h1, h2⟩ := less_sv a b ha hb
  rw [allow_iff n _ h1, allow_iff n a ha, allow_iff n b hb, h2, Bool.eq_iff_iff]
  simp
  omega
theorem allow_mono (m n b : Nat) (hb : nanW b = false) (h : m ≤ n) (hf : allowB m b = false) : allowB n b = false := by
  rw [allow_iff _ b hb] at hf ⊢
  have := fl_sv_mono m n h
  simp at hf ⊢
  omega
/-- Is one budget as great as another one? -/
def gB (a b : Nat) : Bool := FloatKind.f64.format.order a b == some .gt || FloatKind.f64.format.order a b == some .eq
theorem allow_ge (n a b : Nat) (ha : nanW a = false) (hb : nanW b = false) (hx : allowB n a = false) (hy : allowB n b = true) : gB a b = false := by
  rw [allow_iff n a ha] at hx
  rw [allow_iff n b hb] at hy
  simp at hx hy
  unfold gB
  have e : FloatKind.f64.format.order a b = some (compare (sv a) (sv b)) := order_sv a b ha hb
  rw [e, Int.compare_eq_lt.2 (by omega)]
  rfl
theorem okW_iff (x : Nat) : okW x = true → nanW x = false := nan_ok
theorem ok_less (a b : Nat) (ha : okW a = true) (hb : okW b = true) : okW (lessW a b) = true := by
  unfold lessW
  split
  · exact hb
  · exact ha
theorem stepN_q {st q : Nat} {x : Int} (h : stepN st x = q) (hs : st ≤ 4611686018427387904) : q ≤ 4611686018427387904 := by rw [← h]; exact stepN_le st x hs

/-- What stays while the steps are made. -/
def KG (w0 : World) (a1 a2 b1 b2 : Nat) (u : World) : Prop := Below w0.heap.size w0 u ∧ RowL u w0.heap.size a1 a2 ∧ RowL u (w0.heap.size + 1) b1 b2
theorem KG.but {w0 u v : World} {a1 a2 b1 b2 p : Nat} (h : KG w0 a1 a2 b1 b2 u) (hb : But p u v) (hp : w0.heap.size + 2 ≤ p) : KG w0 a1 a2 b1 b2 v :=
  ⟨But.below h.1 hb h.1.size (by omega), h.2.1.but hb (by omega), h.2.2.but hb (by omega)⟩
theorem KG.call {w0 u v : World} {a1 a2 b1 b2 : Nat} (h : KG w0 a1 a2 b1 b2 u) (hb : Below u.heap.size u v) : KG w0 a1 a2 b1 b2 v :=
  ⟨thenB h.1 hb h.1.size, h.2.1.call hb, h.2.2.call hb⟩
theorem KG.drew {w0 u : World} {a1 a2 b1 b2 : Nat} (h : KG w0 a1 a2 b1 b2 u) : KG w0 a1 a2 b1 b2 u.drew := ⟨h.1.drew, h.2.1, h.2.2⟩
theorem KG.new (w : World) (a1 a2 b1 b2 : Nat) : KG w a1 a2 b1 b2 ((w.alloc (.cells #[.float .f64 a1, .float .f64 a2] 24)).alloc (.cells #[.float .f64 b1, .float .f64 b2] 24)) :=
  ⟨by go_grown, (RowL.new w w.heap.size a1 a2 rfl).alloc _, RowL.new _ _ b1 b2 (by simp)⟩
section
variable {ops : Array Oper} {a : Act} {o : Oper} {x y : Operand} {R : World → Prop}
theorem idxH_y (b off n cap k : Nat) (hk : k < n) (ho : o.op = .indexAddr 55 x y) (hx : a.eval x = .slice (some ⟨b, off, none⟩) n cap) (hy : a.eval y = .int .i64 (k : Int)) (hw : Region.wanted o (yielded ops a.tmps) = true) : YieldsIf Try.prog ops R o (.pointer (some ⟨b, off + k, none⟩)) a := by
  refine Or.inl ⟨hw, fun w _ => ?_⟩
  have k0 : (0 : Int) ≤ k := by omega
  have k1 : (k : Int) < n := by omega
  unfold execOp
  simp only [ho, hx, hy]
  go_simp
theorem loadH_y (g k : Nat) (n : Int) (hR : ∀ u, R u → u.cell? ⟨g, k, none⟩ = some (.int .u16 n)) (ho : o.op = .load 56 x) (hx : a.eval x = .pointer (some ⟨g, k, none⟩)) (hw : Region.wanted o (yielded ops a.tmps) = true) : YieldsIf Try.prog ops R o (.int .u16 n) a := by
  refine Or.inl ⟨hw, fun u h => ?_⟩
  have hc := hR u h
  unfold execOp
  simp only [ho, hx]
  go_simp
theorem convH_y {m : Int} (m0 : 0 ≤ m) (m1 : m < 65536) (ho : o.op = .convert 56 3 x) (hx : a.eval x = .int .u16 m) (hw : Region.wanted o (yielded ops a.tmps) = true) : YieldsIf Try.prog ops R o (.int .i64 m) a := by
  refine Or.inl ⟨hw, fun w _ => ?_⟩
  unfold execOp
  simp only [ho, hx]
  go_simp
  rw [IntKind.wrap_i64]; omega
end

set_option maxHeartbeats 8000000 in
set_option maxRecDepth 100000 in
theorem limitGrows_yes (L : LimOk) (a1 a2 b1 b2 : Nat) (ao : Option Addr) (n cap : Nat) (z : Nat → Int) (w : World) (ha1 : a1 < 18446744073709551616) (ha2 : a2 < 18446744073709551616) (hb1 : b1 < 18446744073709551616) (hb2 : b2 < 18446744073709551616)
    (oa : (okW a1 && okW a2) = true) (ob : (okW b1 && okW b2) = true) (hl1 : lessW a1 b1 < 18446744073709551616) (hl2 : lessW a2 b2 < 18446744073709551616)
    (hz : ∀ i, i < n → 0 ≤ z i ∧ z i < 65536) (hc : ∀ i, i < n → ∃ b off, ao = some ⟨b, off, none⟩ ∧ b < w.heap.size ∧ w.cell? ⟨b, off + i, none⟩ = some (.int .u16 (z i))) :
    Calls Try.prog 5 #[bud a1 a2, bud b1 b2, .slice ao n cap] w fun e w' => e = .returned (.bool true) ∧ Below w.heap.size w w' := by
  have HZ := Lib.hid hz
  have HC := Lib.hid hc
  have OA := Lib.hid oa
  have OB := Lib.hid ob
  have oaa : okW a1 = true ∧ okW a2 = true := by simpa using oa
  have obb : okW b1 = true ∧ okW b2 = true := by simpa using ob
  have OL := Lib.hid (show (okW (lessW a1 b1) && okW (lessW a2 b2)) = true by rw [ok_less a1 b1 oaa.1 obb.1, ok_less a2 b2 oaa.2 obb.2]; rfl)
  have NA := Lib.hid (nan_ok oaa.1)
  have NB := Lib.hid (nan_ok obb.1)
  have HL := Lib.hid (show lessW a1 b1 < 18446744073709551616 ∧ lessW a2 b2 < 18446744073709551616 from ⟨hl1, hl2⟩)
  have K0 := Lib.hid (KG.new w a1 a2 b1 b2)
  clear hz hc oa ob oaa obb hl1 hl2
  go_enter Try.func5, Try.ntmps5
  go_wp2_with fail
  refine (L.new_yes _ _ _ ha1 ha2 OA.out).mono ?_
  rintro e w1 ⟨p, rfl, hp, hm, hb⟩
  have HP := Lib.hid (show w.heap.size + 2 ≤ p by simp at hp; omega)
  have M1 := Lib.hid hm
  have K1 := Lib.hid (K0.out.call hb)
  clear hm hb hp K0
  obtain ⟨c0, c1⟩ := K1.out.2.2.cells
  go_wp2_with fail
  refine (L.new_yes _ _ _ hb1 hb2 OB.out).mono ?_
  rintro e w2 ⟨q, rfl, hq, hm, hb⟩
  have PQ := Lib.hid (show p ≠ q by have := L.lt M1.out; omega)
  have HQW := Lib.hid (show w.heap.size + 2 ≤ q by have := K1.out.2.2.lt; omega)
  have M2 := Lib.hid (L.call M1.out hb)
  have N2 := Lib.hid hm
  have K2 := Lib.hid (K1.out.call hb)
  clear hm hb hq M1 K1 c0 c1
  obtain ⟨c0, c1⟩ := K2.out.2.1.cells
  obtain ⟨e0, e1⟩ := K2.out.2.2.cells
  go_wp2_with fail
  refine (L.least a1 a2 b1 b2 _).mono ?_
  rintro e w3 ⟨rfl, hb⟩
  have M3 := Lib.hid (L.call M2.out hb)
  have N3 := Lib.hid (L.call N2.out hb)
  have K3 := Lib.hid (K2.out.call hb)
  clear hb M2 N2 K2 c0 c1 e0 e1
  go_wp2_with fail
  refine (L.new_yes _ _ _ HL.out.1 HL.out.2 OL.out).mono ?_
  rintro e w4 ⟨o, rfl, hq, hm, hb⟩
  have PO := Lib.hid (show p ≠ o by have := L.lt M3.out; omega)
  have QO := Lib.hid (show q ≠ o by have := L.lt N3.out; omega)
  have HOW := Lib.hid (show w.heap.size + 2 ≤ o by have := K3.out.2.2.lt; omega)
  have M4 := Lib.hid (L.call M3.out hb)
  have N4 := Lib.hid (L.call N3.out hb)
  have O4 := Lib.hid hm
  have K4 := Lib.hid (K3.out.call hb)
  clear hm hb hq M3 N3 K3
  obtain ⟨c0, c1⟩ := K4.out.2.1.cells
  go_wp2_with fail
  refine (L.right_k _ _ _ _ ha1 ha2 OA.out).mono ?_
  rintro e w5 ⟨rfl, hb⟩
  have M5 := Lib.hid (L.call M4.out hb)
  have N5 := Lib.hid (L.call N4.out hb)
  have O5 := Lib.hid (L.call O4.out hb)
  have K5 := Lib.hid (K4.out.call hb)
  clear hb M4 N4 O4 K4 c0 c1
  obtain ⟨c0, c1⟩ := K5.out.2.2.cells
  go_wp2_with fail
  refine (L.right_k _ _ _ _ hb1 hb2 OB.out).mono ?_
  rintro e w6 ⟨rfl, hb⟩
  have M6 := Lib.hid (L.call M5.out hb)
  have N6 := Lib.hid (L.call N5.out hb)
  have O6 := Lib.hid (L.call O5.out hb)
  have K6 := Lib.hid (K5.out.call hb)
  clear hb M5 N5 O5 K5 c0 c1
  go_wp2_with fail
  go_loopw [13, 14] (fun rfv i wr => ∃ (k st : Nat) (rf : Bool), i = .int .i64 k ∧ rfv = .bool rf ∧ k ≤ 40 ∧ st ≤ 4611686018427387904 ∧ (rf = true → allowB st a1 = false) ∧ L.Met wr p a1 a2 st 0 0 ∧ L.Met wr q b1 b2 st 0 0 ∧ L.Met wr o (lessW a1 b1) (lessW a2 b2) st 0 0 ∧ KG w a1 a2 b1 b2 wr) (fun _ i _ => 40 - (intOf i).toNat)
  case atStart => exact ⟨0, 0, false, rfl, rfl, by omega, by omega, fun h => by simp at h, M6.out, N6.out, O6.out, K6.out⟩
  case round =>
    obtain ⟨k, st, rf, rfl, rfl, hk, h1, h2, hm, hn, ho, hkg⟩ := hrel
    have MM := Lib.hid hm
    have NN := Lib.hid hn
    have OO := Lib.hid ho
    have KK := Lib.hid hkg
    have HST := Lib.hid h1
    have HRF := Lib.hid h2
    clear hm hn ho hkg h1 h2 M6 N6 O6 K6
    have kk : (0 : Int) ≤ k := by omega
    by_cases hlt : k < n
    · by_cases h40 : k < 40
      · obtain ⟨b, off, rfl, hbw, hcell⟩ := HC.out k hlt
        obtain ⟨x0, x1⟩ := HZ.out k hlt
        generalize z k = x at hcell x0 x1
        have X0 := Lib.hid x0
        have X1 := Lib.hid x1
        have HCELL := Lib.hid hcell
        have HBW := Lib.hid hbw
        obtain ⟨q1, hq1⟩ : ∃ q1, stepN st x = q1 := ⟨_, rfl⟩
        obtain ⟨cx, hcx⟩ : ∃ cx, allowB q1 a1 = cx := ⟨_, rfl⟩
        obtain ⟨cy, hcy⟩ : ∃ cy, allowB q1 b1 = cy := ⟨_, rfl⟩
        have CX := Lib.hid hcx
        have CY := Lib.hid hcy
        have CW := Lib.hid (show allowB q1 (lessW a1 b1) = (cx && cy) by rw [allow_less q1 a1 b1 NA.out NB.out, hcx, hcy])
        have HQ := Lib.hid hq1
        have RX := Lib.hid (show rf = true → cx = false from fun h => by
          rw [← hcx]
          exact allow_mono st q1 a1 NA.out (by rw [← hq1]; unfold stepN; have := HST.out; split <;> omega) (HRF.out h))
        have GG := Lib.hid (show cx = false → cy = true → gB a1 b1 = false from fun h h' => allow_ge q1 a1 b1 NA.out NB.out (hcx.trans h) (hcy.trans h'))
        clear x0 x1 hcell hbw hq1 hcx hcy
        go_wp2_with fail
        have hcell := HCELL.out
        have hbw := HBW.out
        have hS : KG w a1 a2 b1 b2 wr.drew := KK.out.drew
        have MD := Lib.hid (show L.Met wr.drew p a1 a2 st 0 0 from L.of_block MM.out rfl)
        have ND := Lib.hid (show L.Met wr.drew q b1 b2 st 0 0 from L.of_block NN.out rfl)
        have OD := Lib.hid (show L.Met wr.drew o (lessW a1 b1) (lessW a2 b2) st 0 0 from L.of_block OO.out rfl)
        refine wp_region_held_drew (S := KG w a1 a2 b1 b2) (by kernel_rfl) hS (fun _ => ?_)
        refine takeAt 0 88 (.pointer (some ⟨p, 0, none⟩)) rfl rfl (by kernel_rfl) (by kernel_rfl) (by kernel_rfl) (fun _ _ _ h => h) (yields (by rfl) (fun w => by kernel_rfl)) hS ?_
        simp only [Act.put, List.setIfInBounds_toArray, List.set_cons_zero, List.set_cons_succ]
        refine takeAt 1 89 (.slice (some ⟨b, off, none⟩) n cap) rfl rfl (by kernel_rfl) (by kernel_rfl) (by kernel_rfl) (fun _ _ _ h => h) (yields (by rfl) (fun w => by kernel_rfl)) hS ?_
        simp only [Act.put, List.setIfInBounds_toArray, List.set_cons_zero, List.set_cons_succ]
        refine takeAt 2 90 (.int .i64 (k : Int)) rfl rfl (by kernel_rfl) (by kernel_rfl) (by kernel_rfl) (fun _ _ _ h => h) (yields (by rfl) (fun w => by kernel_rfl)) hS ?_
        simp only [Act.put, List.setIfInBounds_toArray, List.set_cons_zero, List.set_cons_succ]
        refine takeAt 3 91 (.pointer (some ⟨b, off + k, none⟩)) rfl rfl (by kernel_rfl) (by kernel_rfl) (by kernel_rfl) (fun _ _ _ h => h) (idxH_y b off n cap k hlt rfl rfl rfl (by rfl)) hS ?_
        simp only [Act.put, List.setIfInBounds_toArray, List.set_cons_zero, List.set_cons_succ]
        refine takeAt 4 92 (.int .u16 x) rfl rfl (by kernel_rfl) (by kernel_rfl) (by kernel_rfl) (fun _ _ _ h => h) (loadH_y b (off + k) x (fun u h => (h.1.cell (p := ⟨b, off + k, none⟩) hbw).trans hcell) rfl rfl (by rfl)) hS ?_
        simp only [Act.put, List.setIfInBounds_toArray, List.set_cons_zero, List.set_cons_succ]
        refine takeAt 5 93 (.int .i64 x) rfl rfl (by kernel_rfl) (by kernel_rfl) (by kernel_rfl) (fun _ _ _ h => h) (convH_y X0.out X1.out rfl rfl (by rfl)) hS ?_
        simp only [Act.put, List.setIfInBounds_toArray, List.set_cons_zero, List.set_cons_succ]
        refine takeAt 7 95 (.pointer (some ⟨q, 0, none⟩)) rfl rfl (by kernel_rfl) (by kernel_rfl) (by kernel_rfl) (fun _ _ _ h => h) (yields (by rfl) (fun w => by kernel_rfl)) hS ?_
        simp only [Act.put, List.setIfInBounds_toArray, List.set_cons_zero, List.set_cons_succ]
        refine takeAt 8 96 (.slice (some ⟨b, off, none⟩) n cap) rfl rfl (by kernel_rfl) (by kernel_rfl) (by kernel_rfl) (fun _ _ _ h => h) (yields (by rfl) (fun w => by kernel_rfl)) hS ?_
        simp only [Act.put, List.setIfInBounds_toArray, List.set_cons_zero, List.set_cons_succ]
        refine takeAt 9 97 (.int .i64 (k : Int)) rfl rfl (by kernel_rfl) (by kernel_rfl) (by kernel_rfl) (fun _ _ _ h => h) (yields (by rfl) (fun w => by kernel_rfl)) hS ?_
        simp only [Act.put, List.setIfInBounds_toArray, List.set_cons_zero, List.set_cons_succ]
        refine takeAt 10 98 (.pointer (some ⟨b, off + k, none⟩)) rfl rfl (by kernel_rfl) (by kernel_rfl) (by kernel_rfl) (fun _ _ _ h => h) (idxH_y b off n cap k hlt rfl rfl rfl (by rfl)) hS ?_
        simp only [Act.put, List.setIfInBounds_toArray, List.set_cons_zero, List.set_cons_succ]
        refine takeAt 11 99 (.int .u16 x) rfl rfl (by kernel_rfl) (by kernel_rfl) (by kernel_rfl) (fun _ _ _ h => h) (loadH_y b (off + k) x (fun u h => (h.1.cell (p := ⟨b, off + k, none⟩) hbw).trans hcell) rfl rfl (by rfl)) hS ?_
        simp only [Act.put, List.setIfInBounds_toArray, List.set_cons_zero, List.set_cons_succ]
        refine takeAt 12 100 (.int .i64 x) rfl rfl (by kernel_rfl) (by kernel_rfl) (by kernel_rfl) (fun _ _ _ h => h) (convH_y X0.out X1.out rfl rfl (by rfl)) hS ?_
        simp only [Act.put, List.setIfInBounds_toArray, List.set_cons_zero, List.set_cons_succ]
        refine takeAt 14 102 (.pointer (some ⟨o, 0, none⟩)) rfl rfl (by kernel_rfl) (by kernel_rfl) (by kernel_rfl) (fun _ _ _ h => h) (yields (by rfl) (fun w => by kernel_rfl)) hS ?_
        simp only [Act.put, List.setIfInBounds_toArray, List.set_cons_zero, List.set_cons_succ]
        refine takeAt 15 103 (.slice (some ⟨b, off, none⟩) n cap) rfl rfl (by kernel_rfl) (by kernel_rfl) (by kernel_rfl) (fun _ _ _ h => h) (yields (by rfl) (fun w => by kernel_rfl)) hS ?_
        simp only [Act.put, List.setIfInBounds_toArray, List.set_cons_zero, List.set_cons_succ]
        refine takeAt 16 104 (.int .i64 (k : Int)) rfl rfl (by kernel_rfl) (by kernel_rfl) (by kernel_rfl) (fun _ _ _ h => h) (yields (by rfl) (fun w => by kernel_rfl)) hS ?_
        simp only [Act.put, List.setIfInBounds_toArray, List.set_cons_zero, List.set_cons_succ]
        refine takeAt 17 105 (.pointer (some ⟨b, off + k, none⟩)) rfl rfl (by kernel_rfl) (by kernel_rfl) (by kernel_rfl) (fun _ _ _ h => h) (idxH_y b off n cap k hlt rfl rfl rfl (by rfl)) hS ?_
        simp only [Act.put, List.setIfInBounds_toArray, List.set_cons_zero, List.set_cons_succ]
        refine takeAt 18 106 (.int .u16 x) rfl rfl (by kernel_rfl) (by kernel_rfl) (by kernel_rfl) (fun _ _ _ h => h) (loadH_y b (off + k) x (fun u h => (h.1.cell (p := ⟨b, off + k, none⟩) hbw).trans hcell) rfl rfl (by rfl)) hS ?_
        simp only [Act.put, List.setIfInBounds_toArray, List.set_cons_zero, List.set_cons_succ]
        refine takeAt 19 107 (.int .i64 x) rfl rfl (by kernel_rfl) (by kernel_rfl) (by kernel_rfl) (fun _ _ _ h => h) (convH_y X0.out X1.out rfl rfl (by rfl)) hS ?_
        simp only [Act.put, List.setIfInBounds_toArray, List.set_cons_zero, List.set_cons_succ]
        refine callAt 6 94 rfl rfl (by kernel_rfl) (by rfl) (by kernel_rfl) (L.step_k p a1 a2 st 0 0 q1 cx x _ MD.out HST.out (by have := X0.out; omega) (by have := X1.out; omega) HQ.out CX.out) ?_
        rintro e w2 ⟨rfl, m2, hb2⟩
        have hS2 := hS.but hb2 HP.out
        refine ⟨_, rfl, hS2, ?_⟩
        have n2 := L.but ND.out hb2 PQ.out.symm
        have o2 := L.but OD.out hb2 PO.out.symm
        simp only [Act.put, List.setIfInBounds_toArray, List.set_cons_zero, List.set_cons_succ]
        refine callAt 13 101 rfl rfl (by kernel_rfl) (by rfl) (by kernel_rfl) (L.step_k q b1 b2 st 0 0 q1 cy x _ n2 HST.out (by have := X0.out; omega) (by have := X1.out; omega) HQ.out CY.out) ?_
        rintro e w3 ⟨rfl, n3, hb3⟩
        have hS3 := hS2.but hb3 HQW.out
        refine ⟨_, rfl, hS3, ?_⟩
        have m3 := L.but m2 hb3 PQ.out
        have o3 := L.but o2 hb3 QO.out.symm
        simp only [Act.put, List.setIfInBounds_toArray, List.set_cons_zero, List.set_cons_succ]
        refine callAt 20 108 rfl rfl (by kernel_rfl) (by rfl) (by kernel_rfl) (L.step_k o (lessW a1 b1) (lessW a2 b2) st 0 0 q1 (cx && cy) x _ o3 HST.out (by have := X0.out; omega) (by have := X1.out; omega) HQ.out CW.out) ?_
        rintro e w4 ⟨rfl, o4, hb4⟩
        have hS4 := hS3.but hb4 HOW.out
        refine ⟨_, rfl, hS4, ?_⟩
        have m4 := L.but m3 hb4 PO.out
        have n4 := L.but n3 hb4 QO.out
        simp only [Act.put, List.setIfInBounds_toArray, List.set_cons_zero, List.set_cons_succ]
        refine takeAt 21 15 (.bool cx) rfl rfl (by kernel_rfl) (by kernel_rfl) (by kernel_rfl) (fun _ _ _ h => h) (yields (by rfl) (fun w => by kernel_rfl)) hS4 ?_
        simp only [Act.put, List.setIfInBounds_toArray, List.set_cons_zero, List.set_cons_succ]
        refine takeAt 22 16 (.bool cy) rfl rfl (by kernel_rfl) (by kernel_rfl) (by kernel_rfl) (fun _ _ _ h => h) (yields (by rfl) (fun w => by kernel_rfl)) hS4 ?_
        simp only [Act.put, List.setIfInBounds_toArray, List.set_cons_zero, List.set_cons_succ]
        refine takeAt 23 17 (.bool (cx && cy)) rfl rfl (by kernel_rfl) (by kernel_rfl) (by kernel_rfl) (fun _ _ _ h => h) (yields (by rfl) (fun w => by kernel_rfl)) hS4 ?_
        simp only [Act.put, List.setIfInBounds_toArray, List.set_cons_zero, List.set_cons_succ]
        refine wpAnyH_done (by kernel_rfl) ?_ _
        have M4 := Lib.hid m4
        have N4 := Lib.hid n4
        have O4 := Lib.hid o4
        have S4 := Lib.hid hS4
        clear m2 hb2 hS2 n2 o2 n3 hb3 hS3 m3 o3 o4 hb4 hS4 m4 n4 hS hcell hbw
        obtain ⟨c0, c1⟩ := S4.out.2.1.cells
        obtain ⟨e0, e1⟩ := S4.out.2.2.cells
        cases rf
        · cases cx
          · cases cy
            · skip
              cases hg : gB a1 b1
              · unfold gB at hg
                go_wp2_with fail
                go_roundw
                case rel => exact ⟨k + 1, q1, true, by go_num, rfl, by omega, stepN_q HQ.out HST.out, fun _ => CX.out, M4.out, N4.out, O4.out, S4.out⟩
                case measure => simp [intOf]; omega
              · unfold gB at hg
                go_wp2_with fail
                go_roundw
                case rel => exact ⟨k + 1, q1, true, by go_num, rfl, by omega, stepN_q HQ.out HST.out, fun _ => CX.out, M4.out, N4.out, O4.out, S4.out⟩
                case measure => simp [intOf]; omega
            · have gg := GG.out
              replace gg := gg rfl rfl
              unfold gB at gg
              go_wp2_with fail
              go_roundw
              case rel => exact ⟨k + 1, q1, true, by go_num, rfl, by omega, stepN_q HQ.out HST.out, fun _ => CX.out, M4.out, N4.out, O4.out, S4.out⟩
              case measure => simp [intOf]; omega
          · cases cy
            · skip
              cases hg : gB a1 b1
              · unfold gB at hg
                go_wp2_with fail
                go_roundw
                case rel => exact ⟨k + 1, q1, false, by go_num, rfl, by omega, stepN_q HQ.out HST.out, fun h => by simp at h, M4.out, N4.out, O4.out, S4.out⟩
                case measure => simp [intOf]; omega
              · unfold gB at hg
                go_wp2_with fail
                go_roundw
                case rel => exact ⟨k + 1, q1, false, by go_num, rfl, by omega, stepN_q HQ.out HST.out, fun h => by simp at h, M4.out, N4.out, O4.out, S4.out⟩
                case measure => simp [intOf]; omega
            · skip
              cases hg : gB a1 b1
              · unfold gB at hg
                go_wp2_with fail
                go_roundw
                case rel => exact ⟨k + 1, q1, false, by go_num, rfl, by omega, stepN_q HQ.out HST.out, fun h => by simp at h, M4.out, N4.out, O4.out, S4.out⟩
                case measure => simp [intOf]; omega
              · unfold gB at hg
                go_wp2_with fail
                go_roundw
                case rel => exact ⟨k + 1, q1, false, by go_num, rfl, by omega, stepN_q HQ.out HST.out, fun h => by simp at h, M4.out, N4.out, O4.out, S4.out⟩
                case measure => simp [intOf]; omega
        · cases cx
          · cases cy
            · skip
              cases hg : gB a1 b1
              · unfold gB at hg
                go_wp2_with fail
                go_roundw
                case rel => exact ⟨k + 1, q1, true, by go_num, rfl, by omega, stepN_q HQ.out HST.out, fun _ => CX.out, M4.out, N4.out, O4.out, S4.out⟩
                case measure => simp [intOf]; omega
              · unfold gB at hg
                go_wp2_with fail
                go_roundw
                case rel => exact ⟨k + 1, q1, true, by go_num, rfl, by omega, stepN_q HQ.out HST.out, fun _ => CX.out, M4.out, N4.out, O4.out, S4.out⟩
                case measure => simp [intOf]; omega
            · have gg := GG.out
              replace gg := gg rfl rfl
              unfold gB at gg
              go_wp2_with fail
              go_roundw
              case rel => exact ⟨k + 1, q1, true, by go_num, rfl, by omega, stepN_q HQ.out HST.out, fun _ => CX.out, M4.out, N4.out, O4.out, S4.out⟩
              case measure => simp [intOf]; omega
          · have hcon := RX.out rfl
            simp at hcon
      · have h40' := Lib.hid h40
        go_wp2_with fail
        refine (fixed_any L _).mono ?_
        rintro e w2 ⟨rfl, hb⟩
        have B2 := Lib.hid (thenB KK.out.1 hb KK.out.1.size)
        clear hb
        go_wp2_with fail
        go_ret
        exact ⟨rfl, B2.out⟩
    · have hlt' := Lib.hid hlt
      go_wp2_with fail
      refine (fixed_any L _).mono ?_
      rintro e w2 ⟨rfl, hb⟩
      have B2 := Lib.hid (thenB KK.out.1 hb KK.out.1.size)
      clear hb
      go_wp2_with fail
      go_ret
      exact ⟨rfl, B2.out⟩

set_option maxHeartbeats 4000000 in
theorem limitGrows_nnn (L : LimOk) (a1 a2 b1 b2 : Nat) (ao : Option Addr) (n cap : Nat) (w : World) (ha1 : a1 < 18446744073709551616) (ha2 : a2 < 18446744073709551616) (hb1 : b1 < 18446744073709551616) (hb2 : b2 < 18446744073709551616)
    (oa : (okW a1 && okW a2) = false) (ob : (okW b1 && okW b2) = false) (ol : (okW (lessW a1 b1) && okW (lessW a2 b2)) = false) (hl1 : lessW a1 b1 < 18446744073709551616) (hl2 : lessW a2 b2 < 18446744073709551616) :
    Calls Try.prog 5 #[bud a1 a2, bud b1 b2, .slice ao n cap] w fun e w' => e = .returned (.bool true) ∧ Below w.heap.size w w' := by
  have OA := Lib.hid oa
  have OB := Lib.hid ob
  have OL := Lib.hid ol
  have K0 := Lib.hid (KG.new w a1 a2 b1 b2)
  clear oa ob ol
  go_enter Try.func5, Try.ntmps5
  go_wp2_with fail
  refine (L.new_no _ _ _ ha1 ha2 OA.out).mono ?_
  rintro e w1 ⟨rfl, hb⟩
  have K1 := Lib.hid (K0.out.call hb)
  clear hb K0
  obtain ⟨c0, c1⟩ := K1.out.2.2.cells
  go_wp2_with fail
  refine (L.new_no _ _ _ hb1 hb2 OB.out).mono ?_
  rintro e w2 ⟨rfl, hb⟩
  have K2 := Lib.hid (K1.out.call hb)
  clear hb K1 c0 c1
  obtain ⟨c0, c1⟩ := K2.out.2.1.cells
  obtain ⟨e0, e1⟩ := K2.out.2.2.cells
  go_wp2_with fail
  refine (L.least a1 a2 b1 b2 _).mono ?_
  rintro e w3 ⟨rfl, hb⟩
  have K3 := Lib.hid (K2.out.call hb)
  clear hb K2 c0 c1 e0 e1
  go_wp2_with fail
  refine (L.new_no _ _ _ hl1 hl2 OL.out).mono ?_
  rintro e w4 ⟨rfl, hb⟩
  have K4 := Lib.hid (K3.out.call hb)
  clear hb K3
  obtain ⟨c0, c1⟩ := K4.out.2.1.cells
  go_wp2_with fail
  refine (L.right_k _ _ _ _ ha1 ha2 OA.out).mono ?_
  rintro e w5 ⟨rfl, hb⟩
  have K5 := Lib.hid (K4.out.call hb)
  clear hb K4 c0 c1
  obtain ⟨c0, c1⟩ := K5.out.2.2.cells
  go_wp2_with fail
  refine (L.right_k _ _ _ _ hb1 hb2 OB.out).mono ?_
  rintro e w6 ⟨rfl, hb⟩
  have KK := Lib.hid (K5.out.call hb)
  clear hb K5 c0 c1
  go_wp2_with fail
  refine (fixed_any L _).mono ?_
  rintro e w7 ⟨rfl, hb⟩
  have B2 := Lib.hid (thenB KK.out.1 hb KK.out.1.size)
  clear hb
  go_wp2_with fail
  go_ret
  exact ⟨rfl, B2.out⟩

set_option maxHeartbeats 4000000 in
theorem limitGrows_nny (L : LimOk) (a1 a2 b1 b2 : Nat) (ao : Option Addr) (n cap : Nat) (w : World) (ha1 : a1 < 18446744073709551616) (ha2 : a2 < 18446744073709551616) (hb1 : b1 < 18446744073709551616) (hb2 : b2 < 18446744073709551616)
    (oa : (okW a1 && okW a2) = false) (ob : (okW b1 && okW b2) = false) (ol : (okW (lessW a1 b1) && okW (lessW a2 b2)) = true) (hl1 : lessW a1 b1 < 18446744073709551616) (hl2 : lessW a2 b2 < 18446744073709551616) :
    Calls Try.prog 5 #[bud a1 a2, bud b1 b2, .slice ao n cap] w fun e w' => e = .returned (.bool true) ∧ Below w.heap.size w w' := by
  have OA := Lib.hid oa
  have OB := Lib.hid ob
  have OL := Lib.hid ol
  have K0 := Lib.hid (KG.new w a1 a2 b1 b2)
  clear oa ob ol
  go_enter Try.func5, Try.ntmps5
  go_wp2_with fail
  refine (L.new_no _ _ _ ha1 ha2 OA.out).mono ?_
  rintro e w1 ⟨rfl, hb⟩
  have K1 := Lib.hid (K0.out.call hb)
  clear hb K0
  obtain ⟨c0, c1⟩ := K1.out.2.2.cells
  go_wp2_with fail
  refine (L.new_no _ _ _ hb1 hb2 OB.out).mono ?_
  rintro e w2 ⟨rfl, hb⟩
  have K2 := Lib.hid (K1.out.call hb)
  clear hb K1 c0 c1
  obtain ⟨c0, c1⟩ := K2.out.2.1.cells
  obtain ⟨e0, e1⟩ := K2.out.2.2.cells
  go_wp2_with fail
  refine (L.least a1 a2 b1 b2 _).mono ?_
  rintro e w3 ⟨rfl, hb⟩
  have K3 := Lib.hid (K2.out.call hb)
  clear hb K2 c0 c1 e0 e1
  go_wp2_with fail
  refine (L.new_yes _ _ _ hl1 hl2 OL.out).mono ?_
  rintro e w4 ⟨p4, rfl, -, -, hb⟩
  have K4 := Lib.hid (K3.out.call hb)
  clear hb K3
  obtain ⟨c0, c1⟩ := K4.out.2.1.cells
  go_wp2_with fail
  refine (L.right_k _ _ _ _ ha1 ha2 OA.out).mono ?_
  rintro e w5 ⟨rfl, hb⟩
  have K5 := Lib.hid (K4.out.call hb)
  clear hb K4 c0 c1
  obtain ⟨c0, c1⟩ := K5.out.2.2.cells
  go_wp2_with fail
  refine (L.right_k _ _ _ _ hb1 hb2 OB.out).mono ?_
  rintro e w6 ⟨rfl, hb⟩
  have KK := Lib.hid (K5.out.call hb)
  clear hb K5 c0 c1
  go_wp2_with fail
  refine (fixed_any L _).mono ?_
  rintro e w7 ⟨rfl, hb⟩
  have B2 := Lib.hid (thenB KK.out.1 hb KK.out.1.size)
  clear hb
  go_wp2_with fail
  go_ret
  exact ⟨rfl, B2.out⟩

set_option maxHeartbeats 4000000 in
theorem limitGrows_nyn (L : LimOk) (a1 a2 b1 b2 : Nat) (ao : Option Addr) (n cap : Nat) (w : World) (ha1 : a1 < 18446744073709551616) (ha2 : a2 < 18446744073709551616) (hb1 : b1 < 18446744073709551616) (hb2 : b2 < 18446744073709551616)
    (oa : (okW a1 && okW a2) = false) (ob : (okW b1 && okW b2) = true) (ol : (okW (lessW a1 b1) && okW (lessW a2 b2)) = false) (hl1 : lessW a1 b1 < 18446744073709551616) (hl2 : lessW a2 b2 < 18446744073709551616) :
    Calls Try.prog 5 #[bud a1 a2, bud b1 b2, .slice ao n cap] w fun e w' => e = .returned (.bool true) ∧ Below w.heap.size w w' := by
  have OA := Lib.hid oa
  have OB := Lib.hid ob
  have OL := Lib.hid ol
  have K0 := Lib.hid (KG.new w a1 a2 b1 b2)
  clear oa ob ol
  go_enter Try.func5, Try.ntmps5
  go_wp2_with fail
  refine (L.new_no _ _ _ ha1 ha2 OA.out).mono ?_
  rintro e w1 ⟨rfl, hb⟩
  have K1 := Lib.hid (K0.out.call hb)
  clear hb K0
  obtain ⟨c0, c1⟩ := K1.out.2.2.cells
  go_wp2_with fail
  refine (L.new_yes _ _ _ hb1 hb2 OB.out).mono ?_
  rintro e w2 ⟨p2, rfl, -, -, hb⟩
  have K2 := Lib.hid (K1.out.call hb)
  clear hb K1 c0 c1
  obtain ⟨c0, c1⟩ := K2.out.2.1.cells
  obtain ⟨e0, e1⟩ := K2.out.2.2.cells
  go_wp2_with fail
  refine (L.least a1 a2 b1 b2 _).mono ?_
  rintro e w3 ⟨rfl, hb⟩
  have K3 := Lib.hid (K2.out.call hb)
  clear hb K2 c0 c1 e0 e1
  go_wp2_with fail
  refine (L.new_no _ _ _ hl1 hl2 OL.out).mono ?_
  rintro e w4 ⟨rfl, hb⟩
  have K4 := Lib.hid (K3.out.call hb)
  clear hb K3
  obtain ⟨c0, c1⟩ := K4.out.2.1.cells
  go_wp2_with fail
  refine (L.right_k _ _ _ _ ha1 ha2 OA.out).mono ?_
  rintro e w5 ⟨rfl, hb⟩
  have K5 := Lib.hid (K4.out.call hb)
  clear hb K4 c0 c1
  obtain ⟨c0, c1⟩ := K5.out.2.2.cells
  go_wp2_with fail
  refine (L.right_k _ _ _ _ hb1 hb2 OB.out).mono ?_
  rintro e w6 ⟨rfl, hb⟩
  have KK := Lib.hid (K5.out.call hb)
  clear hb K5 c0 c1
  go_wp2_with fail
  refine (fixed_any L _).mono ?_
  rintro e w7 ⟨rfl, hb⟩
  have B2 := Lib.hid (thenB KK.out.1 hb KK.out.1.size)
  clear hb
  go_wp2_with fail
  go_ret
  exact ⟨rfl, B2.out⟩

set_option maxHeartbeats 4000000 in
theorem limitGrows_nyy (L : LimOk) (a1 a2 b1 b2 : Nat) (ao : Option Addr) (n cap : Nat) (w : World) (ha1 : a1 < 18446744073709551616) (ha2 : a2 < 18446744073709551616) (hb1 : b1 < 18446744073709551616) (hb2 : b2 < 18446744073709551616)
    (oa : (okW a1 && okW a2) = false) (ob : (okW b1 && okW b2) = true) (ol : (okW (lessW a1 b1) && okW (lessW a2 b2)) = true) (hl1 : lessW a1 b1 < 18446744073709551616) (hl2 : lessW a2 b2 < 18446744073709551616) :
    Calls Try.prog 5 #[bud a1 a2, bud b1 b2, .slice ao n cap] w fun e w' => e = .returned (.bool true) ∧ Below w.heap.size w w' := by
  have OA := Lib.hid oa
  have OB := Lib.hid ob
  have OL := Lib.hid ol
  have K0 := Lib.hid (KG.new w a1 a2 b1 b2)
  clear oa ob ol
  go_enter Try.func5, Try.ntmps5
  go_wp2_with fail
  refine (L.new_no _ _ _ ha1 ha2 OA.out).mono ?_
  rintro e w1 ⟨rfl, hb⟩
  have K1 := Lib.hid (K0.out.call hb)
  clear hb K0
  obtain ⟨c0, c1⟩ := K1.out.2.2.cells
  go_wp2_with fail
  refine (L.new_yes _ _ _ hb1 hb2 OB.out).mono ?_
  rintro e w2 ⟨p2, rfl, -, -, hb⟩
  have K2 := Lib.hid (K1.out.call hb)
  clear hb K1 c0 c1
  obtain ⟨c0, c1⟩ := K2.out.2.1.cells
  obtain ⟨e0, e1⟩ := K2.out.2.2.cells
  go_wp2_with fail
  refine (L.least a1 a2 b1 b2 _).mono ?_
  rintro e w3 ⟨rfl, hb⟩
  have K3 := Lib.hid (K2.out.call hb)
  clear hb K2 c0 c1 e0 e1
  go_wp2_with fail
  refine (L.new_yes _ _ _ hl1 hl2 OL.out).mono ?_
  rintro e w4 ⟨p4, rfl, -, -, hb⟩
  have K4 := Lib.hid (K3.out.call hb)
  clear hb K3
  obtain ⟨c0, c1⟩ := K4.out.2.1.cells
  go_wp2_with fail
  refine (L.right_k _ _ _ _ ha1 ha2 OA.out).mono ?_
  rintro e w5 ⟨rfl, hb⟩
  have K5 := Lib.hid (K4.out.call hb)
  clear hb K4 c0 c1
  obtain ⟨c0, c1⟩ := K5.out.2.2.cells
  go_wp2_with fail
  refine (L.right_k _ _ _ _ hb1 hb2 OB.out).mono ?_
  rintro e w6 ⟨rfl, hb⟩
  have KK := Lib.hid (K5.out.call hb)
  clear hb K5 c0 c1
  go_wp2_with fail
  refine (fixed_any L _).mono ?_
  rintro e w7 ⟨rfl, hb⟩
  have B2 := Lib.hid (thenB KK.out.1 hb KK.out.1.size)
  clear hb
  go_wp2_with fail
  go_ret
  exact ⟨rfl, B2.out⟩

set_option maxHeartbeats 4000000 in
theorem limitGrows_ynn (L : LimOk) (a1 a2 b1 b2 : Nat) (ao : Option Addr) (n cap : Nat) (w : World) (ha1 : a1 < 18446744073709551616) (ha2 : a2 < 18446744073709551616) (hb1 : b1 < 18446744073709551616) (hb2 : b2 < 18446744073709551616)
    (oa : (okW a1 && okW a2) = true) (ob : (okW b1 && okW b2) = false) (ol : (okW (lessW a1 b1) && okW (lessW a2 b2)) = false) (hl1 : lessW a1 b1 < 18446744073709551616) (hl2 : lessW a2 b2 < 18446744073709551616) :
    Calls Try.prog 5 #[bud a1 a2, bud b1 b2, .slice ao n cap] w fun e w' => e = .returned (.bool true) ∧ Below w.heap.size w w' := by
  have OA := Lib.hid oa
  have OB := Lib.hid ob
  have OL := Lib.hid ol
  have K0 := Lib.hid (KG.new w a1 a2 b1 b2)
  clear oa ob ol
  go_enter Try.func5, Try.ntmps5
  go_wp2_with fail
  refine (L.new_yes _ _ _ ha1 ha2 OA.out).mono ?_
  rintro e w1 ⟨p1, rfl, -, -, hb⟩
  have K1 := Lib.hid (K0.out.call hb)
  clear hb K0
  obtain ⟨c0, c1⟩ := K1.out.2.2.cells
  go_wp2_with fail
  refine (L.new_no _ _ _ hb1 hb2 OB.out).mono ?_
  rintro e w2 ⟨rfl, hb⟩
  have K2 := Lib.hid (K1.out.call hb)
  clear hb K1 c0 c1
  obtain ⟨c0, c1⟩ := K2.out.2.1.cells
  obtain ⟨e0, e1⟩ := K2.out.2.2.cells
  go_wp2_with fail
  refine (L.least a1 a2 b1 b2 _).mono ?_
  rintro e w3 ⟨rfl, hb⟩
  have K3 := Lib.hid (K2.out.call hb)
  clear hb K2 c0 c1 e0 e1
  go_wp2_with fail
  refine (L.new_no _ _ _ hl1 hl2 OL.out).mono ?_
  rintro e w4 ⟨rfl, hb⟩
  have K4 := Lib.hid (K3.out.call hb)
  clear hb K3
  obtain ⟨c0, c1⟩ := K4.out.2.1.cells
  go_wp2_with fail
  refine (L.right_k _ _ _ _ ha1 ha2 OA.out).mono ?_
  rintro e w5 ⟨rfl, hb⟩
  have K5 := Lib.hid (K4.out.call hb)
  clear hb K4 c0 c1
  obtain ⟨c0, c1⟩ := K5.out.2.2.cells
  go_wp2_with fail
  refine (L.right_k _ _ _ _ hb1 hb2 OB.out).mono ?_
  rintro e w6 ⟨rfl, hb⟩
  have KK := Lib.hid (K5.out.call hb)
  clear hb K5 c0 c1
  go_wp2_with fail
  refine (fixed_any L _).mono ?_
  rintro e w7 ⟨rfl, hb⟩
  have B2 := Lib.hid (thenB KK.out.1 hb KK.out.1.size)
  clear hb
  go_wp2_with fail
  go_ret
  exact ⟨rfl, B2.out⟩

set_option maxHeartbeats 4000000 in
theorem limitGrows_yny (L : LimOk) (a1 a2 b1 b2 : Nat) (ao : Option Addr) (n cap : Nat) (w : World) (ha1 : a1 < 18446744073709551616) (ha2 : a2 < 18446744073709551616) (hb1 : b1 < 18446744073709551616) (hb2 : b2 < 18446744073709551616)
    (oa : (okW a1 && okW a2) = true) (ob : (okW b1 && okW b2) = false) (ol : (okW (lessW a1 b1) && okW (lessW a2 b2)) = true) (hl1 : lessW a1 b1 < 18446744073709551616) (hl2 : lessW a2 b2 < 18446744073709551616) :
    Calls Try.prog 5 #[bud a1 a2, bud b1 b2, .slice ao n cap] w fun e w' => e = .returned (.bool true) ∧ Below w.heap.size w w' := by
  have OA := Lib.hid oa
  have OB := Lib.hid ob
  have OL := Lib.hid ol
  have K0 := Lib.hid (KG.new w a1 a2 b1 b2)
  clear oa ob ol
  go_enter Try.func5, Try.ntmps5
  go_wp2_with fail
  refine (L.new_yes _ _ _ ha1 ha2 OA.out).mono ?_
  rintro e w1 ⟨p1, rfl, -, -, hb⟩
  have K1 := Lib.hid (K0.out.call hb)
  clear hb K0
  obtain ⟨c0, c1⟩ := K1.out.2.2.cells
  go_wp2_with fail
  refine (L.new_no _ _ _ hb1 hb2 OB.out).mono ?_
  rintro e w2 ⟨rfl, hb⟩
  have K2 := Lib.hid (K1.out.call hb)
  clear hb K1 c0 c1
  obtain ⟨c0, c1⟩ := K2.out.2.1.cells
  obtain ⟨e0, e1⟩ := K2.out.2.2.cells
  go_wp2_with fail
  refine (L.least a1 a2 b1 b2 _).mono ?_
  rintro e w3 ⟨rfl, hb⟩
  have K3 := Lib.hid (K2.out.call hb)
  clear hb K2 c0 c1 e0 e1
  go_wp2_with fail
  refine (L.new_yes _ _ _ hl1 hl2 OL.out).mono ?_
  rintro e w4 ⟨p4, rfl, -, -, hb⟩
  have K4 := Lib.hid (K3.out.call hb)
  clear hb K3
  obtain ⟨c0, c1⟩ := K4.out.2.1.cells
  go_wp2_with fail
  refine (L.right_k _ _ _ _ ha1 ha2 OA.out).mono ?_
  rintro e w5 ⟨rfl, hb⟩
  have K5 := Lib.hid (K4.out.call hb)
  clear hb K4 c0 c1
  obtain ⟨c0, c1⟩ := K5.out.2.2.cells
  go_wp2_with fail
  refine (L.right_k _ _ _ _ hb1 hb2 OB.out).mono ?_
  rintro e w6 ⟨rfl, hb⟩
  have KK := Lib.hid (K5.out.call hb)
  clear hb K5 c0 c1
  go_wp2_with fail
  refine (fixed_any L _).mono ?_
  rintro e w7 ⟨rfl, hb⟩
  have B2 := Lib.hid (thenB KK.out.1 hb KK.out.1.size)
  clear hb
  go_wp2_with fail
  go_ret
  exact ⟨rfl, B2.out⟩

theorem less_lt (a b : Nat) (ha : a < 18446744073709551616) (hb : b < 18446744073709551616) : lessW a b < 18446744073709551616 := by
  unfold lessW
  split
  · exact hb
  · exact ha
theorem limitGrows_walk (L : LimOk) (a1 a2 b1 b2 : Nat) (ao : Option Addr) (n cap : Nat) (z : Nat → Int) (w : World) (ha1 : a1 < 18446744073709551616) (ha2 : a2 < 18446744073709551616) (hb1 : b1 < 18446744073709551616) (hb2 : b2 < 18446744073709551616)
    (hz : ∀ i, i < n → 0 ≤ z i ∧ z i < 65536) (hc : ∀ i, i < n → ∃ b off, ao = some ⟨b, off, none⟩ ∧ b < w.heap.size ∧ w.cell? ⟨b, off + i, none⟩ = some (.int .u16 (z i))) :
    Calls Try.prog 5 #[bud a1 a2, bud b1 b2, .slice ao n cap] w fun e w' => e = .returned (.bool true) ∧ Below w.heap.size w w' := by
  have h1 := less_lt a1 b1 ha1 hb1
  have h2 := less_lt a2 b2 ha2 hb2
  cases oa : (okW a1 && okW a2) <;> cases ob : (okW b1 && okW b2) <;> cases ol : (okW (lessW a1 b1) && okW (lessW a2 b2))
  · exact limitGrows_nnn L a1 a2 b1 b2 ao n cap w ha1 ha2 hb1 hb2 oa ob ol h1 h2
  · exact limitGrows_nny L a1 a2 b1 b2 ao n cap w ha1 ha2 hb1 hb2 oa ob ol h1 h2
  · exact limitGrows_nyn L a1 a2 b1 b2 ao n cap w ha1 ha2 hb1 hb2 oa ob ol h1 h2
  · exact limitGrows_nyy L a1 a2 b1 b2 ao n cap w ha1 ha2 hb1 hb2 oa ob ol h1 h2
  · exact limitGrows_ynn L a1 a2 b1 b2 ao n cap w ha1 ha2 hb1 hb2 oa ob ol h1 h2
  · exact limitGrows_yny L a1 a2 b1 b2 ao n cap w ha1 ha2 hb1 hb2 oa ob ol h1 h2
  · exact limitGrows_yes L a1 a2 b1 b2 ao n cap z w ha1 ha2 hb1 hb2 oa ob h1 h2 hz hc
  · exact limitGrows_yes L a1 a2 b1 b2 ao n cap z w ha1 ha2 hb1 hb2 oa ob h1 h2 hz hc
end Go.Proofs.Ytaobbdmkkehpnaa
