/-
  Layer 6, the landed code: itemAt.
-/
import Derived.Test.YtlcecblehffjiaaDoorLexItem
namespace Go.Proofs.YtlcecblehffjiaaDoor
open Go.RowKit

theorem min_k (S : BitVec 256) (w : World) (ht : TabOk w) : Calls Tryd.prog 51 #[setV S] w fun e w' => (∃ b, e = .returned (.tuple #[.int .u8 ((minS S : Nat) : Int), .bool b])) ∧ Below w.heap.size w w' := by
  by_cases h : S = 0#256
  · refine (min_no S w h).mono ?_
    rintro e w1 ⟨rfl, hb⟩
    exact ⟨⟨false, by rw [min_none S h]; rfl⟩, hb⟩
  · refine (min_yes S w h ht).mono ?_
    rintro e w1 ⟨rfl, hb⟩
    exact ⟨⟨true, rfl⟩, hb⟩
theorem minS_lt (S : BitVec 256) : minS S < 256 := by
  unfold minS
  cases h : (List.range 256).find? S.getLsbD with
  | none => decide
  | some k => exact List.mem_range.1 (List.mem_of_find?_eq_some h)
/-- A class's item at a place, spans among them. -/
def spanZ (p : ByteArray) (i : Nat) : BitVec 256 × Nat × Int :=
  if (endZ p i).2.2 ≠ 0 then (0#256, 0, 3) else if bt p (endZ p i).2.1 ≠ 45 then endZ p i
  else if (endZ p ((endZ p i).2.1 + 1)).2.2 ≠ 0 then (0#256, 0, 3)
  else if lenS (endZ p i).1 ≠ 1 ∨ lenS (endZ p ((endZ p i).2.1 + 1)).1 ≠ 1 ∨ minS (endZ p ((endZ p i).2.1 + 1)).1 < minS (endZ p i).1 then (0#256, 0, 3)
  else (span (minS (endZ p i).1) (minS (endZ p ((endZ p i).2.1 + 1)).1 + 1), (endZ p ((endZ p i).2.1 + 1)).2.1, 0)
theorem end_up (p : ByteArray) (i : Nat) : endZ p i = (0#256, 0, 3) ∨ ((endZ p i).2.2 = 0 ∧ i + 1 ≤ (endZ p i).2.1 ∧ (endZ p i).2.1 ≤ p.size) := by
  unfold endZ
  split
  · exact .inl rfl
  · have := itemZ_up p i
    exact .inr ⟨rfl, by simp only []; omega, by simp only []; omega⟩
/-- A world with a set in a block, and a zero set at the result's place; and another set. -/
structure Hold2 (w W : World) (g : Nat) (D : BitVec 256) (k : Nat) (E : BitVec 256) : Prop where
  one : Hold w W g D
  two : Box W k E
theorem Hold2.call {w W W' : World} {g k : Nat} {D E : BitVec 256} (h : Hold2 w W g D k E) (hb : Below W.heap.size W W') : Hold2 w W' g D k E := ⟨h.one.call hb, h.two.call hb⟩
set_option maxRecDepth 20000 in
set_option maxHeartbeats 4000000 in
theorem itemA (p : ByteArray) (i b : Nat) (e : Int) (F : BitVec 256) (w : World) (hW : ErrW w) (hbs : b ≤ p.size) (_hp : p.size ≤ 1000000)
    (hE1 : ∀ w, ErrW w → Calls Tryd.prog 50 #[.string p, .int .i64 (i : Int)] w fun x w' => x = .returned (.tuple #[setV F, .int .i64 (b : Int), .int .i64 e]) ∧ Below w.heap.size w w')
    (he : e ≠ 0)
    : Calls Tryd.prog 30 #[.string p, .int .i64 (i : Int)] w fun x w' => x = .returned (.tuple #[setV (F), .int .i64 ((b : Int)), .int .i64 (e)]) ∧ Below w.heap.size w w' := by
  have HW := Lib.hid hW
  have HE1 := Lib.hid hE1
  have g1 : (0 : Int) ≤ (b : Int) := by omega
  have g2 : (b : Int) ≤ (p.size : Int) := by omega
  clear hW hE1
  go_enter Tryd.func30, Tryd.ntmps30
  go_wp2_with fail
  with_reducible refine (HE1.out _ (HW.out.alloc _)).mono ?_
  rintro x w1 ⟨rfl, hb1⟩
  have HB1 := Lib.hid (((Below.refl _ w).alloc (Nat.le_refl _) _).trans (hb1.mono (by simp)))
  have HY := Lib.hid (Box.call (Box.zero (heap_alloc_new _ _)) hb1)
  clear hb1
  have HH := Lib.hid (show Hold w (w1.alloc (.cells #[.int .u64 (W F 0), .int .u64 (W F 1), .int .u64 (W F 2), .int .u64 (W F 3)] 36)) w1.heap.size F from ⟨Box.new _ _, HY.out.alloc _, HB1.out.alloc HB1.out.size _⟩)
  have z0 := fun o => (HY.out.alloc o).cells.1
  have z1 := fun o => (HY.out.alloc o).cells.2.1
  have z2 := fun o => (HY.out.alloc o).cells.2.2.1
  have z3 := fun o => (HY.out.alloc o).cells.2.2.2
  have zf := fun o => (HY.out.alloc o).free
  go_wp2_with fail
  exact bodyPost_ret (resS3 (p := 4) (u := 5) (u2 := 6) (S := F) (v := .int .i64 (b : Int)) (v2 := .int .i64 e) rfl _ (g := w.heap.size) rfl rfl rfl (HH.out.zero.set _)) rfl ⟨rfl, below_setW HH.out.below (Nat.le_refl _) _⟩
set_option maxRecDepth 20000 in
set_option maxHeartbeats 4000000 in
theorem itemB (p : ByteArray) (i b : Nat) (F : BitVec 256) (w : World) (hW : ErrW w) (hbs : b ≤ p.size) (_hp : p.size ≤ 1000000)
    (hE1 : ∀ w, ErrW w → Calls Tryd.prog 50 #[.string p, .int .i64 (i : Int)] w fun x w' => x = .returned (.tuple #[setV F, .int .i64 (b : Int), .int .i64 0]) ∧ Below w.heap.size w w')
    (hP : ∀ w, Calls Tryd.prog 29 #[.string (p.extract b p.size), .string ⟨#[45]⟩] w fun x w' => x = .returned (.bool false) ∧ w = w')
    
    : Calls Tryd.prog 30 #[.string p, .int .i64 (i : Int)] w fun x w' => x = .returned (.tuple #[setV (F), .int .i64 ((b : Int)), .int .i64 (0)]) ∧ Below w.heap.size w w' := by
  have HW := Lib.hid hW
  have HE1 := Lib.hid hE1
  have HP := Lib.hid hP
  have g1 : (0 : Int) ≤ (b : Int) := by omega
  have g2 : (b : Int) ≤ (p.size : Int) := by omega
  clear hW hE1 hP
  go_enter Tryd.func30, Tryd.ntmps30
  go_wp2_with fail
  with_reducible refine (HE1.out _ (HW.out.alloc _)).mono ?_
  rintro x w1 ⟨rfl, hb1⟩
  have HB1 := Lib.hid (((Below.refl _ w).alloc (Nat.le_refl _) _).trans (hb1.mono (by simp)))
  have HY := Lib.hid (Box.call (Box.zero (heap_alloc_new _ _)) hb1)
  clear hb1
  have HH := Lib.hid (show Hold w (w1.alloc (.cells #[.int .u64 (W F 0), .int .u64 (W F 1), .int .u64 (W F 2), .int .u64 (W F 3)] 36)) w1.heap.size F from ⟨Box.new _ _, HY.out.alloc _, HB1.out.alloc HB1.out.size _⟩)
  have z0 := fun o => (HY.out.alloc o).cells.1
  have z1 := fun o => (HY.out.alloc o).cells.2.1
  have z2 := fun o => (HY.out.alloc o).cells.2.2.1
  have z3 := fun o => (HY.out.alloc o).cells.2.2.2
  have zf := fun o => (HY.out.alloc o).free
  go_wp2_with fail
  with_reducible refine (HP.out _).mono ?_
  rintro x w2 ⟨rfl, rfl⟩
  go_wp2_with fail
  exact bodyPost_ret (resS3 (p := 4) (u := 5) (u2 := 6) (S := F) (v := .int .i64 (b : Int)) (v2 := .int .i64 0) rfl _ (g := w.heap.size) rfl rfl rfl (HH.out.zero.set _)) rfl ⟨rfl, below_setW HH.out.below (Nat.le_refl _) _⟩
set_option maxRecDepth 20000 in
set_option maxHeartbeats 4000000 in
theorem itemC (p : ByteArray) (i b c : Nat) (e e2 : Int) (F T Sp : BitVec 256) (m1 m2 n1 n2 : Nat) (hd : Bool) (w : World) (hW : ErrW w) (hT : TabOk w) (hbs : b ≤ p.size) (hp : p.size ≤ 1000000)
    (hE1 : ∀ w, ErrW w → Calls Tryd.prog 50 #[.string p, .int .i64 (i : Int)] w fun x w' => x = .returned (.tuple #[setV F, .int .i64 (b : Int), .int .i64 e]) ∧ Below w.heap.size w w')
    (hP : ∀ w, Calls Tryd.prog 29 #[.string (p.extract b p.size), .string ⟨#[45]⟩] w fun x w' => x = .returned (.bool hd) ∧ w = w')
    (hE2 : ∀ w, ErrW w → Calls Tryd.prog 50 #[.string p, .int .i64 ((b : Int) + 1)] w fun x w' => x = .returned (.tuple #[setV T, .int .i64 (c : Int), .int .i64 e2]) ∧ Below w.heap.size w w')
    (hM1 : ∀ w, TabOk w → Calls Tryd.prog 51 #[setV F] w fun x w' => (∃ k, x = .returned (.tuple #[.int .u8 (m1 : Int), .bool k])) ∧ Below w.heap.size w w')
    (hM2 : ∀ w, TabOk w → Calls Tryd.prog 51 #[setV T] w fun x w' => (∃ k, x = .returned (.tuple #[.int .u8 (m2 : Int), .bool k])) ∧ Below w.heap.size w w')
    (hL1 : ∀ w, Calls Tryd.prog 52 #[setV F] w fun x w' => x = .returned (.int .i64 (n1 : Int)) ∧ Below w.heap.size w w')
    (hL2 : ∀ w, Calls Tryd.prog 52 #[setV T] w fun x w' => x = .returned (.int .i64 (n2 : Int)) ∧ Below w.heap.size w w')
    (hR : ∀ w, Calls Tryd.prog 20 #[.int .u8 (m1 : Int), .int .u8 (m2 : Int)] w fun x w' => x = .returned (setV Sp) ∧ Below w.heap.size w w')
    (he : e = 0) (hh : hd = true) (he2 : e2 ≠ 0)
    : Calls Tryd.prog 30 #[.string p, .int .i64 (i : Int)] w fun x w' => x = .returned (.tuple #[setV (0#256), .int .i64 (0), .int .i64 (e2)]) ∧ Below w.heap.size w w' := by
  have HW := Lib.hid hW
  have HT := Lib.hid hT
  have HE1 := Lib.hid hE1
  have HP := Lib.hid hP
  have HE2 := Lib.hid hE2
  have HM1 := Lib.hid hM1
  have HM2 := Lib.hid hM2
  have HL1 := Lib.hid hL1
  have HL2 := Lib.hid hL2
  have HR := Lib.hid hR
  have g1 : (0 : Int) ≤ (b : Int) := by omega
  have g2 : (b : Int) ≤ (p.size : Int) := by omega
  clear hW hT hE1 hP hE2 hM1 hM2 hL1 hL2 hR
  subst he hh
  go_enter Tryd.func30, Tryd.ntmps30
  go_wp2_with fail
  with_reducible refine (HE1.out _ (HW.out.alloc _)).mono ?_
  rintro x w1 ⟨rfl, hb1⟩
  have HB1 := Lib.hid (((Below.refl _ w).alloc (Nat.le_refl _) _).trans (hb1.mono (by simp)))
  have HY := Lib.hid (Box.call (Box.zero (heap_alloc_new _ _)) hb1)
  clear hb1
  have HH := Lib.hid (show Hold w (w1.alloc (.cells #[.int .u64 (W F 0), .int .u64 (W F 1), .int .u64 (W F 2), .int .u64 (W F 3)] 36)) w1.heap.size F from ⟨Box.new _ _, HY.out.alloc _, HB1.out.alloc HB1.out.size _⟩)
  go_wp2_with fail
  with_reducible refine (HP.out _).mono ?_
  rintro x w2 ⟨rfl, rfl⟩
  go_wp2_with fail
  with_reducible refine (HE2.out _ (HW.out.call HH.out.below)).mono ?_
  rintro x w2 ⟨rfl, hb⟩
  have HH := Lib.hid (HH.out.call hb)
  clear hb
  have H2 := Lib.hid (show Hold2 w (w2.alloc (.cells #[.int .u64 (W T 0), .int .u64 (W T 1), .int .u64 (W T 2), .int .u64 (W T 3)] 36)) w1.heap.size F w2.heap.size T from ⟨HH.out.alloc _, Box.new _ _⟩)
  have y0 := fun o => (HH.out.alloc o).box.cells.1
  have y1 := fun o => (HH.out.alloc o).box.cells.2.1
  have y2 := fun o => (HH.out.alloc o).box.cells.2.2.1
  have y3 := fun o => (HH.out.alloc o).box.cells.2.2.2
  have z0 := fun o => (HH.out.alloc o).zero.cells.1
  have z1 := fun o => (HH.out.alloc o).zero.cells.2.1
  have z2 := fun o => (HH.out.alloc o).zero.cells.2.2.1
  have z3 := fun o => (HH.out.alloc o).zero.cells.2.2.2
  have zf := fun o => (HH.out.alloc o).zero.free
  go_wp2_with fail
  have hZ := H2.out.one.zero.set 0#256
  have hZb := below_setW H2.out.one.below (Nat.le_refl _) 0#256
  simp only [setW, W_zero] at hZ hZb
  exact bodyPost_ret (resS3 (p := 4) (u := 5) (u2 := 6) (S := 0#256) (v := .int .i64 0) (v2 := .int .i64 e2) rfl _ (g := w.heap.size) rfl rfl rfl hZ) rfl ⟨rfl, hZb⟩
set_option maxRecDepth 20000 in
set_option maxHeartbeats 4000000 in
theorem itemD1 (p : ByteArray) (i b c : Nat) (e e2 : Int) (F T Sp : BitVec 256) (m1 m2 n1 n2 : Nat) (hd : Bool) (w : World) (hW : ErrW w) (hT : TabOk w) (hbs : b ≤ p.size) (hp : p.size ≤ 1000000)
    (hE1 : ∀ w, ErrW w → Calls Tryd.prog 50 #[.string p, .int .i64 (i : Int)] w fun x w' => x = .returned (.tuple #[setV F, .int .i64 (b : Int), .int .i64 e]) ∧ Below w.heap.size w w')
    (hP : ∀ w, Calls Tryd.prog 29 #[.string (p.extract b p.size), .string ⟨#[45]⟩] w fun x w' => x = .returned (.bool hd) ∧ w = w')
    (hE2 : ∀ w, ErrW w → Calls Tryd.prog 50 #[.string p, .int .i64 ((b : Int) + 1)] w fun x w' => x = .returned (.tuple #[setV T, .int .i64 (c : Int), .int .i64 e2]) ∧ Below w.heap.size w w')
    (hM1 : ∀ w, TabOk w → Calls Tryd.prog 51 #[setV F] w fun x w' => (∃ k, x = .returned (.tuple #[.int .u8 (m1 : Int), .bool k])) ∧ Below w.heap.size w w')
    (hM2 : ∀ w, TabOk w → Calls Tryd.prog 51 #[setV T] w fun x w' => (∃ k, x = .returned (.tuple #[.int .u8 (m2 : Int), .bool k])) ∧ Below w.heap.size w w')
    (hL1 : ∀ w, Calls Tryd.prog 52 #[setV F] w fun x w' => x = .returned (.int .i64 (n1 : Int)) ∧ Below w.heap.size w w')
    (hL2 : ∀ w, Calls Tryd.prog 52 #[setV T] w fun x w' => x = .returned (.int .i64 (n2 : Int)) ∧ Below w.heap.size w w')
    (hR : ∀ w, Calls Tryd.prog 20 #[.int .u8 (m1 : Int), .int .u8 (m2 : Int)] w fun x w' => x = .returned (setV Sp) ∧ Below w.heap.size w w')
    (he : e = 0) (hh : hd = true) (he2 : e2 = 0) (hn : ¬ (n1 : Int) = 1)
    : Calls Tryd.prog 30 #[.string p, .int .i64 (i : Int)] w fun x w' => x = .returned (.tuple #[setV (0#256), .int .i64 (0), .int .i64 (3)]) ∧ Below w.heap.size w w' := by
  have HW := Lib.hid hW
  have HT := Lib.hid hT
  have HE1 := Lib.hid hE1
  have HP := Lib.hid hP
  have HE2 := Lib.hid hE2
  have HM1 := Lib.hid hM1
  have HM2 := Lib.hid hM2
  have HL1 := Lib.hid hL1
  have HL2 := Lib.hid hL2
  have HR := Lib.hid hR
  have g1 : (0 : Int) ≤ (b : Int) := by omega
  have g2 : (b : Int) ≤ (p.size : Int) := by omega
  clear hW hT hE1 hP hE2 hM1 hM2 hL1 hL2 hR
  subst he hh he2
  go_enter Tryd.func30, Tryd.ntmps30
  go_wp2_with fail
  with_reducible refine (HE1.out _ (HW.out.alloc _)).mono ?_
  rintro x w1 ⟨rfl, hb1⟩
  have HB1 := Lib.hid (((Below.refl _ w).alloc (Nat.le_refl _) _).trans (hb1.mono (by simp)))
  have HY := Lib.hid (Box.call (Box.zero (heap_alloc_new _ _)) hb1)
  clear hb1
  have HH := Lib.hid (show Hold w (w1.alloc (.cells #[.int .u64 (W F 0), .int .u64 (W F 1), .int .u64 (W F 2), .int .u64 (W F 3)] 36)) w1.heap.size F from ⟨Box.new _ _, HY.out.alloc _, HB1.out.alloc HB1.out.size _⟩)
  go_wp2_with fail
  with_reducible refine (HP.out _).mono ?_
  rintro x w2 ⟨rfl, rfl⟩
  go_wp2_with fail
  with_reducible refine (HE2.out _ (HW.out.call HH.out.below)).mono ?_
  rintro x w2 ⟨rfl, hb⟩
  have HH := Lib.hid (HH.out.call hb)
  clear hb
  have H2 := Lib.hid (show Hold2 w (w2.alloc (.cells #[.int .u64 (W T 0), .int .u64 (W T 1), .int .u64 (W T 2), .int .u64 (W T 3)] 36)) w1.heap.size F w2.heap.size T from ⟨HH.out.alloc _, Box.new _ _⟩)
  have y0 := fun o => (HH.out.alloc o).box.cells.1
  have y1 := fun o => (HH.out.alloc o).box.cells.2.1
  have y2 := fun o => (HH.out.alloc o).box.cells.2.2.1
  have y3 := fun o => (HH.out.alloc o).box.cells.2.2.2
  have z0 := fun o => (HH.out.alloc o).zero.cells.1
  have z1 := fun o => (HH.out.alloc o).zero.cells.2.1
  have z2 := fun o => (HH.out.alloc o).zero.cells.2.2.1
  have z3 := fun o => (HH.out.alloc o).zero.cells.2.2.2
  have zf := fun o => (HH.out.alloc o).zero.free
  go_wp2_with fail
  with_reducible refine (HM1.out _ (HT.out.call H2.out.one.below)).mono ?_
  rintro x w3 ⟨⟨k3, rfl⟩, hb⟩
  have H2 := Lib.hid (H2.out.call hb)
  clear hb
  obtain ⟨d0, d1, d2, d3⟩ := H2.out.one.box.cells
  obtain ⟨e0, e1, e2', e3⟩ := H2.out.two.cells
  obtain ⟨z0, z1, z2, z3⟩ := H2.out.one.zero.cells
  have zf := H2.out.one.zero.free
  go_wp2_with fail
  with_reducible refine (HM2.out _ (HT.out.call H2.out.one.below)).mono ?_
  rintro x w4 ⟨⟨k4, rfl⟩, hb⟩
  have H2 := Lib.hid (H2.out.call hb)
  clear hb
  obtain ⟨d0, d1, d2, d3⟩ := H2.out.one.box.cells
  obtain ⟨e0, e1, e2', e3⟩ := H2.out.two.cells
  obtain ⟨z0, z1, z2, z3⟩ := H2.out.one.zero.cells
  have zf := H2.out.one.zero.free
  go_wp2_with fail
  with_reducible refine (HL1.out _).mono ?_
  rintro x w5 ⟨rfl, hb⟩
  have H2 := Lib.hid (H2.out.call hb)
  clear hb
  obtain ⟨d0, d1, d2, d3⟩ := H2.out.one.box.cells
  obtain ⟨e0, e1, e2', e3⟩ := H2.out.two.cells
  obtain ⟨z0, z1, z2, z3⟩ := H2.out.one.zero.cells
  have zf := H2.out.one.zero.free
  go_wp2_with fail
  have hZ := H2.out.one.zero.set 0#256
  have hZb := below_setW H2.out.one.below (Nat.le_refl _) 0#256
  simp only [setW, W_zero] at hZ hZb
  exact bodyPost_ret (resS3 (p := 4) (u := 5) (u2 := 6) (S := 0#256) (v := .int .i64 0) (v2 := .int .i64 3) rfl _ (g := w.heap.size) rfl rfl rfl hZ) rfl ⟨rfl, hZb⟩
set_option maxRecDepth 20000 in
set_option maxHeartbeats 4000000 in
theorem itemD2 (p : ByteArray) (i b c : Nat) (e e2 : Int) (F T Sp : BitVec 256) (m1 m2 n1 n2 : Nat) (hd : Bool) (w : World) (hW : ErrW w) (hT : TabOk w) (hbs : b ≤ p.size) (hp : p.size ≤ 1000000)
    (hE1 : ∀ w, ErrW w → Calls Tryd.prog 50 #[.string p, .int .i64 (i : Int)] w fun x w' => x = .returned (.tuple #[setV F, .int .i64 (b : Int), .int .i64 e]) ∧ Below w.heap.size w w')
    (hP : ∀ w, Calls Tryd.prog 29 #[.string (p.extract b p.size), .string ⟨#[45]⟩] w fun x w' => x = .returned (.bool hd) ∧ w = w')
    (hE2 : ∀ w, ErrW w → Calls Tryd.prog 50 #[.string p, .int .i64 ((b : Int) + 1)] w fun x w' => x = .returned (.tuple #[setV T, .int .i64 (c : Int), .int .i64 e2]) ∧ Below w.heap.size w w')
    (hM1 : ∀ w, TabOk w → Calls Tryd.prog 51 #[setV F] w fun x w' => (∃ k, x = .returned (.tuple #[.int .u8 (m1 : Int), .bool k])) ∧ Below w.heap.size w w')
    (hM2 : ∀ w, TabOk w → Calls Tryd.prog 51 #[setV T] w fun x w' => (∃ k, x = .returned (.tuple #[.int .u8 (m2 : Int), .bool k])) ∧ Below w.heap.size w w')
    (hL1 : ∀ w, Calls Tryd.prog 52 #[setV F] w fun x w' => x = .returned (.int .i64 (n1 : Int)) ∧ Below w.heap.size w w')
    (hL2 : ∀ w, Calls Tryd.prog 52 #[setV T] w fun x w' => x = .returned (.int .i64 (n2 : Int)) ∧ Below w.heap.size w w')
    (hR : ∀ w, Calls Tryd.prog 20 #[.int .u8 (m1 : Int), .int .u8 (m2 : Int)] w fun x w' => x = .returned (setV Sp) ∧ Below w.heap.size w w')
    (he : e = 0) (hh : hd = true) (he2 : e2 = 0) (hn : n1 = 1) (hn2 : ¬ (n2 : Int) = 1)
    : Calls Tryd.prog 30 #[.string p, .int .i64 (i : Int)] w fun x w' => x = .returned (.tuple #[setV (0#256), .int .i64 (0), .int .i64 (3)]) ∧ Below w.heap.size w w' := by
  have HW := Lib.hid hW
  have HT := Lib.hid hT
  have HE1 := Lib.hid hE1
  have HP := Lib.hid hP
  have HE2 := Lib.hid hE2
  have HM1 := Lib.hid hM1
  have HM2 := Lib.hid hM2
  have HL1 := Lib.hid hL1
  have HL2 := Lib.hid hL2
  have HR := Lib.hid hR
  have g1 : (0 : Int) ≤ (b : Int) := by omega
  have g2 : (b : Int) ≤ (p.size : Int) := by omega
  clear hW hT hE1 hP hE2 hM1 hM2 hL1 hL2 hR
  subst he hh he2 hn
  go_enter Tryd.func30, Tryd.ntmps30
  go_wp2_with fail
  with_reducible refine (HE1.out _ (HW.out.alloc _)).mono ?_
  rintro x w1 ⟨rfl, hb1⟩
  have HB1 := Lib.hid (((Below.refl _ w).alloc (Nat.le_refl _) _).trans (hb1.mono (by simp)))
  have HY := Lib.hid (Box.call (Box.zero (heap_alloc_new _ _)) hb1)
  clear hb1
  have HH := Lib.hid (show Hold w (w1.alloc (.cells #[.int .u64 (W F 0), .int .u64 (W F 1), .int .u64 (W F 2), .int .u64 (W F 3)] 36)) w1.heap.size F from ⟨Box.new _ _, HY.out.alloc _, HB1.out.alloc HB1.out.size _⟩)
  go_wp2_with fail
  with_reducible refine (HP.out _).mono ?_
  rintro x w2 ⟨rfl, rfl⟩
  go_wp2_with fail
  with_reducible refine (HE2.out _ (HW.out.call HH.out.below)).mono ?_
  rintro x w2 ⟨rfl, hb⟩
  have HH := Lib.hid (HH.out.call hb)
  clear hb
  have H2 := Lib.hid (show Hold2 w (w2.alloc (.cells #[.int .u64 (W T 0), .int .u64 (W T 1), .int .u64 (W T 2), .int .u64 (W T 3)] 36)) w1.heap.size F w2.heap.size T from ⟨HH.out.alloc _, Box.new _ _⟩)
  have y0 := fun o => (HH.out.alloc o).box.cells.1
  have y1 := fun o => (HH.out.alloc o).box.cells.2.1
  have y2 := fun o => (HH.out.alloc o).box.cells.2.2.1
  have y3 := fun o => (HH.out.alloc o).box.cells.2.2.2
  have z0 := fun o => (HH.out.alloc o).zero.cells.1
  have z1 := fun o => (HH.out.alloc o).zero.cells.2.1
  have z2 := fun o => (HH.out.alloc o).zero.cells.2.2.1
  have z3 := fun o => (HH.out.alloc o).zero.cells.2.2.2
  have zf := fun o => (HH.out.alloc o).zero.free
  go_wp2_with fail
  with_reducible refine (HM1.out _ (HT.out.call H2.out.one.below)).mono ?_
  rintro x w3 ⟨⟨k3, rfl⟩, hb⟩
  have H2 := Lib.hid (H2.out.call hb)
  clear hb
  obtain ⟨d0, d1, d2, d3⟩ := H2.out.one.box.cells
  obtain ⟨e0, e1, e2', e3⟩ := H2.out.two.cells
  obtain ⟨z0, z1, z2, z3⟩ := H2.out.one.zero.cells
  have zf := H2.out.one.zero.free
  go_wp2_with fail
  with_reducible refine (HM2.out _ (HT.out.call H2.out.one.below)).mono ?_
  rintro x w4 ⟨⟨k4, rfl⟩, hb⟩
  have H2 := Lib.hid (H2.out.call hb)
  clear hb
  obtain ⟨d0, d1, d2, d3⟩ := H2.out.one.box.cells
  obtain ⟨e0, e1, e2', e3⟩ := H2.out.two.cells
  obtain ⟨z0, z1, z2, z3⟩ := H2.out.one.zero.cells
  have zf := H2.out.one.zero.free
  go_wp2_with fail
  with_reducible refine (HL1.out _).mono ?_
  rintro x w5 ⟨rfl, hb⟩
  have H2 := Lib.hid (H2.out.call hb)
  clear hb
  obtain ⟨d0, d1, d2, d3⟩ := H2.out.one.box.cells
  obtain ⟨e0, e1, e2', e3⟩ := H2.out.two.cells
  obtain ⟨z0, z1, z2, z3⟩ := H2.out.one.zero.cells
  have zf := H2.out.one.zero.free
  go_wp2_with fail
  with_reducible refine (HL2.out _).mono ?_
  rintro x w6 ⟨rfl, hb⟩
  have H2 := Lib.hid (H2.out.call hb)
  clear hb
  obtain ⟨d0, d1, d2, d3⟩ := H2.out.one.box.cells
  obtain ⟨e0, e1, e2', e3⟩ := H2.out.two.cells
  obtain ⟨z0, z1, z2, z3⟩ := H2.out.one.zero.cells
  have zf := H2.out.one.zero.free
  go_wp2_with fail
  have hZ := H2.out.one.zero.set 0#256
  have hZb := below_setW H2.out.one.below (Nat.le_refl _) 0#256
  simp only [setW, W_zero] at hZ hZb
  exact bodyPost_ret (resS3 (p := 4) (u := 5) (u2 := 6) (S := 0#256) (v := .int .i64 0) (v2 := .int .i64 3) rfl _ (g := w.heap.size) rfl rfl rfl hZ) rfl ⟨rfl, hZb⟩
set_option maxRecDepth 20000 in
set_option maxHeartbeats 4000000 in
theorem itemD3 (p : ByteArray) (i b c : Nat) (e e2 : Int) (F T Sp : BitVec 256) (m1 m2 n1 n2 : Nat) (hd : Bool) (w : World) (hW : ErrW w) (hT : TabOk w) (hbs : b ≤ p.size) (hp : p.size ≤ 1000000)
    (hE1 : ∀ w, ErrW w → Calls Tryd.prog 50 #[.string p, .int .i64 (i : Int)] w fun x w' => x = .returned (.tuple #[setV F, .int .i64 (b : Int), .int .i64 e]) ∧ Below w.heap.size w w')
    (hP : ∀ w, Calls Tryd.prog 29 #[.string (p.extract b p.size), .string ⟨#[45]⟩] w fun x w' => x = .returned (.bool hd) ∧ w = w')
    (hE2 : ∀ w, ErrW w → Calls Tryd.prog 50 #[.string p, .int .i64 ((b : Int) + 1)] w fun x w' => x = .returned (.tuple #[setV T, .int .i64 (c : Int), .int .i64 e2]) ∧ Below w.heap.size w w')
    (hM1 : ∀ w, TabOk w → Calls Tryd.prog 51 #[setV F] w fun x w' => (∃ k, x = .returned (.tuple #[.int .u8 (m1 : Int), .bool k])) ∧ Below w.heap.size w w')
    (hM2 : ∀ w, TabOk w → Calls Tryd.prog 51 #[setV T] w fun x w' => (∃ k, x = .returned (.tuple #[.int .u8 (m2 : Int), .bool k])) ∧ Below w.heap.size w w')
    (hL1 : ∀ w, Calls Tryd.prog 52 #[setV F] w fun x w' => x = .returned (.int .i64 (n1 : Int)) ∧ Below w.heap.size w w')
    (hL2 : ∀ w, Calls Tryd.prog 52 #[setV T] w fun x w' => x = .returned (.int .i64 (n2 : Int)) ∧ Below w.heap.size w w')
    (hR : ∀ w, Calls Tryd.prog 20 #[.int .u8 (m1 : Int), .int .u8 (m2 : Int)] w fun x w' => x = .returned (setV Sp) ∧ Below w.heap.size w w')
    (he : e = 0) (hh : hd = true) (he2 : e2 = 0) (hn : n1 = 1) (hn2 : n2 = 1) (hm : (m2 : Int) < (m1 : Int))
    : Calls Tryd.prog 30 #[.string p, .int .i64 (i : Int)] w fun x w' => x = .returned (.tuple #[setV (0#256), .int .i64 (0), .int .i64 (3)]) ∧ Below w.heap.size w w' := by
  have HW := Lib.hid hW
  have HT := Lib.hid hT
  have HE1 := Lib.hid hE1
  have HP := Lib.hid hP
  have HE2 := Lib.hid hE2
  have HM1 := Lib.hid hM1
  have HM2 := Lib.hid hM2
  have HL1 := Lib.hid hL1
  have HL2 := Lib.hid hL2
  have HR := Lib.hid hR
  have g1 : (0 : Int) ≤ (b : Int) := by omega
  have g2 : (b : Int) ≤ (p.size : Int) := by omega
  clear hW hT hE1 hP hE2 hM1 hM2 hL1 hL2 hR
  subst he hh he2 hn hn2
  go_enter Tryd.func30, Tryd.ntmps30
  go_wp2_with fail
  with_reducible refine (HE1.out _ (HW.out.alloc _)).mono ?_
  rintro x w1 ⟨rfl, hb1⟩
  have HB1 := Lib.hid (((Below.refl _ w).alloc (Nat.le_refl _) _).trans (hb1.mono (by simp)))
  have HY := Lib.hid (Box.call (Box.zero (heap_alloc_new _ _)) hb1)
  clear hb1
  have HH := Lib.hid (show Hold w (w1.alloc (.cells #[.int .u64 (W F 0), .int .u64 (W F 1), .int .u64 (W F 2), .int .u64 (W F 3)] 36)) w1.heap.size F from ⟨Box.new _ _, HY.out.alloc _, HB1.out.alloc HB1.out.size _⟩)
  go_wp2_with fail
  with_reducible refine (HP.out _).mono ?_
  rintro x w2 ⟨rfl, rfl⟩
  go_wp2_with fail
  with_reducible refine (HE2.out _ (HW.out.call HH.out.below)).mono ?_
  rintro x w2 ⟨rfl, hb⟩
  have HH := Lib.hid (HH.out.call hb)
  clear hb
  have H2 := Lib.hid (show Hold2 w (w2.alloc (.cells #[.int .u64 (W T 0), .int .u64 (W T 1), .int .u64 (W T 2), .int .u64 (W T 3)] 36)) w1.heap.size F w2.heap.size T from ⟨HH.out.alloc _, Box.new _ _⟩)
  have y0 := fun o => (HH.out.alloc o).box.cells.1
  have y1 := fun o => (HH.out.alloc o).box.cells.2.1
  have y2 := fun o => (HH.out.alloc o).box.cells.2.2.1
  have y3 := fun o => (HH.out.alloc o).box.cells.2.2.2
  have z0 := fun o => (HH.out.alloc o).zero.cells.1
  have z1 := fun o => (HH.out.alloc o).zero.cells.2.1
  have z2 := fun o => (HH.out.alloc o).zero.cells.2.2.1
  have z3 := fun o => (HH.out.alloc o).zero.cells.2.2.2
  have zf := fun o => (HH.out.alloc o).zero.free
  go_wp2_with fail
  with_reducible refine (HM1.out _ (HT.out.call H2.out.one.below)).mono ?_
  rintro x w3 ⟨⟨k3, rfl⟩, hb⟩
  have H2 := Lib.hid (H2.out.call hb)
  clear hb
  obtain ⟨d0, d1, d2, d3⟩ := H2.out.one.box.cells
  obtain ⟨e0, e1, e2', e3⟩ := H2.out.two.cells
  obtain ⟨z0, z1, z2, z3⟩ := H2.out.one.zero.cells
  have zf := H2.out.one.zero.free
  go_wp2_with fail
  with_reducible refine (HM2.out _ (HT.out.call H2.out.one.below)).mono ?_
  rintro x w4 ⟨⟨k4, rfl⟩, hb⟩
  have H2 := Lib.hid (H2.out.call hb)
  clear hb
  obtain ⟨d0, d1, d2, d3⟩ := H2.out.one.box.cells
  obtain ⟨e0, e1, e2', e3⟩ := H2.out.two.cells
  obtain ⟨z0, z1, z2, z3⟩ := H2.out.one.zero.cells
  have zf := H2.out.one.zero.free
  go_wp2_with fail
  with_reducible refine (HL1.out _).mono ?_
  rintro x w5 ⟨rfl, hb⟩
  have H2 := Lib.hid (H2.out.call hb)
  clear hb
  obtain ⟨d0, d1, d2, d3⟩ := H2.out.one.box.cells
  obtain ⟨e0, e1, e2', e3⟩ := H2.out.two.cells
  obtain ⟨z0, z1, z2, z3⟩ := H2.out.one.zero.cells
  have zf := H2.out.one.zero.free
  go_wp2_with fail
  with_reducible refine (HL2.out _).mono ?_
  rintro x w6 ⟨rfl, hb⟩
  have H2 := Lib.hid (H2.out.call hb)
  clear hb
  obtain ⟨d0, d1, d2, d3⟩ := H2.out.one.box.cells
  obtain ⟨e0, e1, e2', e3⟩ := H2.out.two.cells
  obtain ⟨z0, z1, z2, z3⟩ := H2.out.one.zero.cells
  have zf := H2.out.one.zero.free
  go_wp2_with fail
  have hZ := H2.out.one.zero.set 0#256
  have hZb := below_setW H2.out.one.below (Nat.le_refl _) 0#256
  simp only [setW, W_zero] at hZ hZb
  exact bodyPost_ret (resS3 (p := 4) (u := 5) (u2 := 6) (S := 0#256) (v := .int .i64 0) (v2 := .int .i64 3) rfl _ (g := w.heap.size) rfl rfl rfl hZ) rfl ⟨rfl, hZb⟩
set_option maxRecDepth 20000 in
set_option maxHeartbeats 4000000 in
theorem itemE (p : ByteArray) (i b c : Nat) (e e2 : Int) (F T Sp : BitVec 256) (m1 m2 n1 n2 : Nat) (hd : Bool) (w : World) (hW : ErrW w) (hT : TabOk w) (hbs : b ≤ p.size) (hp : p.size ≤ 1000000)
    (hE1 : ∀ w, ErrW w → Calls Tryd.prog 50 #[.string p, .int .i64 (i : Int)] w fun x w' => x = .returned (.tuple #[setV F, .int .i64 (b : Int), .int .i64 e]) ∧ Below w.heap.size w w')
    (hP : ∀ w, Calls Tryd.prog 29 #[.string (p.extract b p.size), .string ⟨#[45]⟩] w fun x w' => x = .returned (.bool hd) ∧ w = w')
    (hE2 : ∀ w, ErrW w → Calls Tryd.prog 50 #[.string p, .int .i64 ((b : Int) + 1)] w fun x w' => x = .returned (.tuple #[setV T, .int .i64 (c : Int), .int .i64 e2]) ∧ Below w.heap.size w w')
    (hM1 : ∀ w, TabOk w → Calls Tryd.prog 51 #[setV F] w fun x w' => (∃ k, x = .returned (.tuple #[.int .u8 (m1 : Int), .bool k])) ∧ Below w.heap.size w w')
    (hM2 : ∀ w, TabOk w → Calls Tryd.prog 51 #[setV T] w fun x w' => (∃ k, x = .returned (.tuple #[.int .u8 (m2 : Int), .bool k])) ∧ Below w.heap.size w w')
    (hL1 : ∀ w, Calls Tryd.prog 52 #[setV F] w fun x w' => x = .returned (.int .i64 (n1 : Int)) ∧ Below w.heap.size w w')
    (hL2 : ∀ w, Calls Tryd.prog 52 #[setV T] w fun x w' => x = .returned (.int .i64 (n2 : Int)) ∧ Below w.heap.size w w')
    (hR : ∀ w, Calls Tryd.prog 20 #[.int .u8 (m1 : Int), .int .u8 (m2 : Int)] w fun x w' => x = .returned (setV Sp) ∧ Below w.heap.size w w')
    (he : e = 0) (hh : hd = true) (he2 : e2 = 0) (hn : n1 = 1) (hn2 : n2 = 1) (hm : ¬ (m2 : Int) < (m1 : Int))
    : Calls Tryd.prog 30 #[.string p, .int .i64 (i : Int)] w fun x w' => x = .returned (.tuple #[setV (Sp), .int .i64 ((c : Int)), .int .i64 (0)]) ∧ Below w.heap.size w w' := by
  have HW := Lib.hid hW
  have HT := Lib.hid hT
  have HE1 := Lib.hid hE1
  have HP := Lib.hid hP
  have HE2 := Lib.hid hE2
  have HM1 := Lib.hid hM1
  have HM2 := Lib.hid hM2
  have HL1 := Lib.hid hL1
  have HL2 := Lib.hid hL2
  have HR := Lib.hid hR
  have g1 : (0 : Int) ≤ (b : Int) := by omega
  have g2 : (b : Int) ≤ (p.size : Int) := by omega
  clear hW hT hE1 hP hE2 hM1 hM2 hL1 hL2 hR
  subst he hh he2 hn hn2
  go_enter Tryd.func30, Tryd.ntmps30
  go_wp2_with fail
  with_reducible refine (HE1.out _ (HW.out.alloc _)).mono ?_
  rintro x w1 ⟨rfl, hb1⟩
  have HB1 := Lib.hid (((Below.refl _ w).alloc (Nat.le_refl _) _).trans (hb1.mono (by simp)))
  have HY := Lib.hid (Box.call (Box.zero (heap_alloc_new _ _)) hb1)
  clear hb1
  have HH := Lib.hid (show Hold w (w1.alloc (.cells #[.int .u64 (W F 0), .int .u64 (W F 1), .int .u64 (W F 2), .int .u64 (W F 3)] 36)) w1.heap.size F from ⟨Box.new _ _, HY.out.alloc _, HB1.out.alloc HB1.out.size _⟩)
  go_wp2_with fail
  with_reducible refine (HP.out _).mono ?_
  rintro x w2 ⟨rfl, rfl⟩
  go_wp2_with fail
  with_reducible refine (HE2.out _ (HW.out.call HH.out.below)).mono ?_
  rintro x w2 ⟨rfl, hb⟩
  have HH := Lib.hid (HH.out.call hb)
  clear hb
  have H2 := Lib.hid (show Hold2 w (w2.alloc (.cells #[.int .u64 (W T 0), .int .u64 (W T 1), .int .u64 (W T 2), .int .u64 (W T 3)] 36)) w1.heap.size F w2.heap.size T from ⟨HH.out.alloc _, Box.new _ _⟩)
  have y0 := fun o => (HH.out.alloc o).box.cells.1
  have y1 := fun o => (HH.out.alloc o).box.cells.2.1
  have y2 := fun o => (HH.out.alloc o).box.cells.2.2.1
  have y3 := fun o => (HH.out.alloc o).box.cells.2.2.2
  have z0 := fun o => (HH.out.alloc o).zero.cells.1
  have z1 := fun o => (HH.out.alloc o).zero.cells.2.1
  have z2 := fun o => (HH.out.alloc o).zero.cells.2.2.1
  have z3 := fun o => (HH.out.alloc o).zero.cells.2.2.2
  have zf := fun o => (HH.out.alloc o).zero.free
  go_wp2_with fail
  with_reducible refine (HM1.out _ (HT.out.call H2.out.one.below)).mono ?_
  rintro x w3 ⟨⟨k3, rfl⟩, hb⟩
  have H2 := Lib.hid (H2.out.call hb)
  clear hb
  obtain ⟨d0, d1, d2, d3⟩ := H2.out.one.box.cells
  obtain ⟨e0, e1, e2', e3⟩ := H2.out.two.cells
  obtain ⟨z0, z1, z2, z3⟩ := H2.out.one.zero.cells
  have zf := H2.out.one.zero.free
  go_wp2_with fail
  with_reducible refine (HM2.out _ (HT.out.call H2.out.one.below)).mono ?_
  rintro x w4 ⟨⟨k4, rfl⟩, hb⟩
  have H2 := Lib.hid (H2.out.call hb)
  clear hb
  obtain ⟨d0, d1, d2, d3⟩ := H2.out.one.box.cells
  obtain ⟨e0, e1, e2', e3⟩ := H2.out.two.cells
  obtain ⟨z0, z1, z2, z3⟩ := H2.out.one.zero.cells
  have zf := H2.out.one.zero.free
  go_wp2_with fail
  with_reducible refine (HL1.out _).mono ?_
  rintro x w5 ⟨rfl, hb⟩
  have H2 := Lib.hid (H2.out.call hb)
  clear hb
  obtain ⟨d0, d1, d2, d3⟩ := H2.out.one.box.cells
  obtain ⟨e0, e1, e2', e3⟩ := H2.out.two.cells
  obtain ⟨z0, z1, z2, z3⟩ := H2.out.one.zero.cells
  have zf := H2.out.one.zero.free
  go_wp2_with fail
  with_reducible refine (HL2.out _).mono ?_
  rintro x w6 ⟨rfl, hb⟩
  have H2 := Lib.hid (H2.out.call hb)
  clear hb
  obtain ⟨d0, d1, d2, d3⟩ := H2.out.one.box.cells
  obtain ⟨e0, e1, e2', e3⟩ := H2.out.two.cells
  obtain ⟨z0, z1, z2, z3⟩ := H2.out.one.zero.cells
  have zf := H2.out.one.zero.free
  go_wp2_with fail
  with_reducible refine (HR.out _).mono ?_
  rintro x w7 ⟨rfl, hb⟩
  have H2 := Lib.hid (H2.out.call hb)
  clear hb
  obtain ⟨d0, d1, d2, d3⟩ := H2.out.one.box.cells
  obtain ⟨e0, e1, e2', e3⟩ := H2.out.two.cells
  obtain ⟨z0, z1, z2, z3⟩ := H2.out.one.zero.cells
  have zf := H2.out.one.zero.free
  go_wp2_with fail
  exact bodyPost_ret (resS3 (p := 4) (u := 5) (u2 := 6) (S := Sp) (v := .int .i64 (c : Int)) (v2 := .int .i64 0) rfl _ (g := w.heap.size) rfl rfl rfl (H2.out.one.zero.set _)) rfl ⟨rfl, below_setW H2.out.one.below (Nat.le_refl _) _⟩
theorem itemAt_any (hE : ErrsOk) (p : ByteArray) (i : Nat) (w : World) (hp : p.size ≤ 1000000) (hi : i ≤ p.size) (hw : ErrW w) (ht : TabOk w) : Calls Tryd.prog 30 #[.string p, .int .i64 (i : Int)] w fun e w' => e = .returned (.tuple #[setV (spanZ p i).1, .int .i64 ((spanZ p i).2.1 : Nat), .int .i64 (spanZ p i).2.2]) ∧ Below w.heap.size w w' := by
  have hE1 := fun w h => endAt_any hE p i w hp hi h
  have hup := end_up p i
  have hsp : spanZ p i = spanZ p i := rfl
  have hbs : (endZ p i).2.1 ≤ p.size := by rcases hup with h | h; rw [h]; exact Nat.zero_le _; exact h.2.2
  have hP : ∀ w, Calls Tryd.prog 29 #[.string (p.extract (endZ p i).2.1 p.size), .string ⟨#[45]⟩] w fun x w' => x = .returned (.bool (bt p (endZ p i).2.1 == 45)) ∧ w = w' := fun w => by
    have := prefix_any (p.extract (endZ p i).2.1 p.size) ⟨#[45]⟩ [45] w rfl
    rwa [head_ext hbs, show headB p ((endZ p i).2.1 + 0) [45] = (bt p (endZ p i).2.1 == 45) by simp [headB]] at this
  by_cases he : (endZ p i).2.2 = 0
  · by_cases h45 : bt p (endZ p i).2.1 = 45
    · have hlt : (endZ p i).2.1 < p.size := bt_in (by omega)
      have hE2 : ∀ w, ErrW w → Calls Tryd.prog 50 #[.string p, .int .i64 (((endZ p i).2.1 : Int) + 1)] w fun x w' => x = .returned (.tuple #[setV (endZ p ((endZ p i).2.1 + 1)).1, .int .i64 ((endZ p ((endZ p i).2.1 + 1)).2.1 : Nat), .int .i64 (endZ p ((endZ p i).2.1 + 1)).2.2]) ∧ Below w.heap.size w w' := fun w h => endAt_any hE p ((endZ p i).2.1 + 1) w hp (by omega) h
      rw [beq_iff_eq.2 h45] at hP
      have hs : spanZ p i = if (endZ p ((endZ p i).2.1 + 1)).2.2 ≠ 0 then (0#256, 0, 3)
          else if lenS (endZ p i).1 ≠ 1 ∨ lenS (endZ p ((endZ p i).2.1 + 1)).1 ≠ 1 ∨ minS (endZ p ((endZ p i).2.1 + 1)).1 < minS (endZ p i).1 then (0#256, 0, 3)
          else (span (minS (endZ p i).1) (minS (endZ p ((endZ p i).2.1 + 1)).1 + 1), (endZ p ((endZ p i).2.1 + 1)).2.1, 0) := by
        unfold spanZ
        rw [if_neg (by simp [he]), if_neg (by simp [h45])]
      have hup2 := end_up p ((endZ p i).2.1 + 1)
      rw [hs]
      generalize endZ p ((endZ p i).2.1 + 1) = Y at hE2 hup2 ⊢
      generalize endZ p i = X at hE1 hP hE2 he hbs ⊢
      obtain ⟨F, b, e⟩ := X
      obtain ⟨T, c, e2⟩ := Y
      simp only [] at hE1 hP hE2 he hbs hup2 ⊢
      subst he
      have hM1 := fun w h => min_k F w h
      have hM2 := fun w h => min_k T w h
      have hL1 := fun w => len_any F w
      have hL2 := fun w => len_any T w
      have hR := fun w => range_any ((minS F : Nat) : Int) ((minS T : Nat) : Int) w (by omega) (by have := minS_lt F; omega) (by omega) (by have := minS_lt T; omega)
      rw [show ((minS F : Nat) : Int).toNat = minS F from rfl, show ((minS T : Nat) : Int).toNat = minS T from rfl] at hR
      by_cases he2 : e2 = 0
      · rw [if_neg (by simp [he2])]
        by_cases hn : lenS F = 1
        · by_cases hn2 : lenS T = 1
          · by_cases hm : minS T < minS F
            · rw [if_pos (by omega)]
              exact itemD3 p i b c 0 e2 F T _ _ _ _ _ true w hw ht hbs hp hE1 hP hE2 hM1 hM2 hL1 hL2 hR rfl rfl he2 hn hn2 (by omega)
            · rw [if_neg (by omega)]
              exact itemE p i b c 0 e2 F T _ _ _ _ _ true w hw ht hbs hp hE1 hP hE2 hM1 hM2 hL1 hL2 hR rfl rfl he2 hn hn2 (by omega)
          · rw [if_pos (by omega)]
            exact itemD2 p i b c 0 e2 F T _ _ _ _ _ true w hw ht hbs hp hE1 hP hE2 hM1 hM2 hL1 hL2 hR rfl rfl he2 hn (by omega)
        · rw [if_pos (by omega)]
          exact itemD1 p i b c 0 e2 F T _ _ _ _ _ true w hw ht hbs hp hE1 hP hE2 hM1 hM2 hL1 hL2 hR rfl rfl he2 (by omega)
      · rw [if_pos he2]
        have h3 : e2 = 3 := by
          rcases hup2 with h | h
          · exact congrArg (fun x => x.2.2) h
          · exact absurd h.1 he2
        subst h3
        exact itemC p i b c 0 3 F T _ _ _ _ _ true w hw ht hbs hp hE1 hP hE2 hM1 hM2 hL1 hL2 hR rfl rfl (by decide)
    · rw [beq_eq_false_iff_ne.2 h45] at hP
      rw [show spanZ p i = endZ p i by unfold spanZ; rw [if_neg (by simp [he]), if_pos h45]]
      generalize endZ p i = X at hE1 hP he hbs ⊢
      obtain ⟨F, b, e⟩ := X
      simp only [] at hE1 hP he hbs ⊢
      subst he
      exact itemB p i b F w hw hbs hp hE1 hP
  · have h3 : endZ p i = (0#256, 0, 3) := by
      rcases hup with h | h
      · exact h
      · exact absurd h.1 he
    rw [show spanZ p i = (0#256, 0, 3) by unfold spanZ; rw [if_pos he]]
    rw [h3] at hE1
    exact itemA p i 0 3 0#256 w hw (Nat.zero_le _) hp hE1 (by decide)
end Go.Proofs.YtlcecblehffjiaaDoor
