/-
  LexTwo, LexTwoD
-/
import Derived.Test.YtkpijnodhlonfaaGreatDoorLexParse
import Derived.Test.YtkpijnodhlonfaaGreatDoorClassM
import Derived.Deep.RegionWith
namespace Go.Proofs.YtkpijnodhlonfaaGreatDoor
open Go.RowKit

/-- The sentinel of the library is there. -/
def ErrW (w : World) : Prop := ∃ te pe, w.cell? ⟨3, 0, none⟩ = some (.iface te pe)
theorem ErrW.lt {w : World} (h : ErrW w) : 3 < w.heap.size := by obtain ⟨te, pe, h⟩ := h; exact block_lt_of_cell h
theorem ErrW.call {w w' : World} (h : ErrW w) (hb : Below w.heap.size w w') : ErrW w' := by
  have hl := h.lt
  obtain ⟨te, pe, h⟩ := h
  exact ⟨te, pe, (hb.cell (p := ⟨3, 0, none⟩) hl).trans h⟩
theorem ErrW.alloc {w : World} (h : ErrW w) (o : Obj) : ErrW (w.alloc o) := by
  have hl := h.lt
  obtain ⟨te, pe, h⟩ := h
  exact ⟨te, pe, (World.cell?_alloc_past (w := w) o _ 0 hl).trans h⟩
/-- What the library's toError does with the inner package's fault. -/
def ErrsOk : Prop := ∀ (fn s : ByteArray) (w : World), s.size ≤ 281474976710656 → ErrW w → Calls Tryz.prog 153 #[.string fn, .string s, .int .i64 16, .int .i64 8, .iface 198 (.int .i64 2)] w fun e w' => (∃ N, e = .returned (.iface 201 (.pointer (some ⟨N, 0, none⟩)))) ∧ Below w.heap.size w w'
/-- What ParseUint answers. -/
def SParsR (x y : Int) (e : Ending) : Prop := (0 ≤ x ∧ 0 ≤ y → e = .returned (.tuple #[.int .u64 (16 * x + y), .nilIface])) ∧ (¬ (0 ≤ x ∧ 0 ≤ y) → ∃ N, e = .returned (.tuple #[.int .u64 0, .iface 201 (.pointer (some ⟨N, 0, none⟩))]))
theorem sparse_any (hE : ErrsOk) (s : ByteArray) (a b : Nat) (w : World) (hw : ErrW w) (hs : s.size = 2) (ha : bt s 0 = a) (hb : bt s 1 = b) (ha2 : a < 256) (hb2 : b < 256) : Calls Tryz.prog 143 #[.string s, .int .i64 16, .int .i64 8] w fun e w' => SParsR (hexZ a) (hexZ b) e ∧ Below w.heap.size w w' := by
  have HI := Lib.hid (iparse_any s a b w hs ha hb ha2 hb2)
  have HE := Lib.hid (fun (fn : ByteArray) (w : World) (h : ErrW w) => hE fn s w (by omega) h)
  have HW := Lib.hid hw
  clear ha hb ha2 hb2 hs hE hw
  revert HI
  generalize hexZ a = x
  generalize hexZ b = y
  intro HI
  by_cases h : 0 ≤ x ∧ 0 ≤ y
  · rw [pars_ok h] at HI
    have HG := Lib.hid h
    clear h
    go_enter Tryz.func143, Tryz.ntmps143
    go_wp2_with fail
    refine HI.out.mono ?_
    rintro e w1 ⟨rfl, hb1⟩
    have HB1 := Lib.hid hb1
    clear hb1
    go_wp2_with fail
    go_ret2
    exact ⟨⟨fun _ => rfl, fun h => absurd HG.out h⟩, HB1.out⟩
  · rw [pars_bad h] at HI
    have HG := Lib.hid h
    clear h
    go_enter Tryz.func143, Tryz.ntmps143
    go_wp2_with fail
    refine HI.out.mono ?_
    rintro e w1 ⟨rfl, hb1⟩
    have HB1 := Lib.hid hb1
    clear hb1
    go_wp2_with fail
    refine (HE.out _ _ (HW.out.call HB1.out)).mono ?_
    rintro e w2 ⟨⟨N, rfl⟩, hb2⟩
    have HB2 := Lib.hid (thenB HB1.out hb2 HB1.out.size)
    clear hb2
    go_wp2_with fail
    go_ret2
    exact ⟨⟨fun h => absurd h HG.out, fun _ => ⟨N, rfl⟩⟩, HB2.out⟩
end Go.Proofs.YtkpijnodhlonfaaGreatDoor

namespace Go.Proofs.YtkpijnodhlonfaaGreatDoor
open Go.RowKit

theorem one_eq {n : Nat} (_h : n < 256) : addB 0#256 n = oneS n := by
  apply BitVec.eq_of_getLsbD_eq
  intro i hi
  unfold addB oneS span
  rw [ofPred_bit, BitVec.getLsbD_or, BitVec.getLsbD_twoPow]
  by_cases e : n = i
  · subst e; simp [hi]
  · have h2 : (decide (n ≤ i) && decide (i < n + 1)) = false := by simp; omega
    simp [e, h2]
/-- The two digits at the head of a text: what byte they tell. -/
def twoS (x y : Int) : BitVec 256 := if 0 ≤ x ∧ 0 ≤ y then oneS (16 * x + y).toNat else oneS 0
def twoB (s : ByteArray) : Bool := decide (2 ≤ s.size ∧ 0 ≤ hexZ (bt s 0) ∧ 0 ≤ hexZ (bt s 1))
set_option maxRecDepth 20000 in
set_option maxHeartbeats 4000000 in
theorem two_any (hE : ErrsOk) (s : ByteArray) (w : World) (hs : s.size ≤ 1000000) (hw : ErrW w) : Calls Tryz.prog 125 #[.string s] w fun e w' => (∃ S, e = .returned (.tuple #[setV S, .bool (twoB s)]) ∧ (twoB s = true → S = oneS (16 * hexZ (bt s 0) + hexZ (bt s 1)).toNat)) ∧ Below w.heap.size w w' := by
  by_cases h2 : s.size < 2
  · have hb : twoB s = false := decide_eq_false (by omega)
    rw [hb]
    have q : (s.size : Int) < 2 := by omega
    clear hb hw hE h2
    go_enter Tryz.func125, Tryz.ntmps125
    go_wp2_with fail
    have hZ : Box (World.alloc w (.cells #[.int .u64 0, .int .u64 0, .int .u64 0, .int .u64 0] 29)) w.heap.size 0#256 := Box.zero (heap_alloc_new _ _)
    exact bodyPost_ret (resS2 (p := 2) (u := 3) (S := 0#256) (v := .bool false) rfl _ (g := w.heap.size) rfl rfl hZ) rfl ⟨⟨0#256, rfl, fun h => by cases h⟩, (Below.refl _ w).alloc (Nat.le_refl _) _⟩
  · have q : ¬ (s.size : Int) < 2 := by omega
    have q2 : (2 : Int) ≤ (s.size : Int) := by omega
    have h0 : bt (s.extract 0 2) 0 = bt s 0 := bt_ext2 (by omega) (by omega)
    have h1 : bt (s.extract 0 2) 1 = bt s 1 := bt_ext2 (by omega) (by omega)
    have HS := Lib.hid (fun (w : World) (h : ErrW w) => sparse_any hE (s.extract 0 2) (bt s 0) (bt s 1) w h (by rw [ext_size (by omega)]) h0 h1 (bt_lt (by omega)) (bt_lt (by omega)))
    have hx := hexZ_lt (bt s 0)
    have hy := hexZ_lt (bt s 1)
    have hb : twoB s = decide (0 ≤ hexZ (bt s 0) ∧ 0 ≤ hexZ (bt s 1)) := by unfold twoB; congr 1; apply propext; omega
    rw [hb]
    have HW := Lib.hid hw
    clear hb h0 h1 h2 hE hw
    revert HS hx hy
    generalize hexZ (bt s 0) = x
    generalize hexZ (bt s 1) = y
    intro HS hx hy
    by_cases hg : 0 ≤ x ∧ 0 ≤ y
    · rw [decide_eq_true hg]
      have r1 : (0 : Int) ≤ 16 * x + y := by omega
      have r2 : 16 * x + y < 256 := by omega
      have HG := Lib.hid hg
      have hwr : IntKind.u8.wrap (16 * x + y) = 16 * x + y := by rw [IntKind.wrap_u8]; omega
      have HO : Hid (∀ w, Calls Tryz.prog 31 #[.int .u8 (IntKind.u8.wrap (16 * x + y))] w fun e w' => e = .returned (setV (addB 0#256 (16 * x + y).toNat)) ∧ Below w.heap.size w w') := Lib.hid (fun w => by rw [hwr]; exact one_any (16 * x + y) w r1 r2)
      have HQ := Lib.hid (one_eq (n := (16 * x + y).toNat) (by omega))
      clear hg hwr
      go_enter Tryz.func125, Tryz.ntmps125
      go_wp2_with fail
      refine (HS.out _ (HW.out.alloc _)).mono ?_
      rintro e w1 ⟨he, hb1⟩
      obtain rfl := he.1 HG.out
      clear he
      obtain ⟨hc, hf⟩ := bcell hb1
      have HB1 := Lib.hid hb1
      have HZ := Lib.hid (Box.call (Box.zero (heap_alloc_new _ _)) hb1)
      clear hb1
      go_wp2_with fail
      go_region_with (refine (HO.out _).mono ?_; rintro e w2 ⟨rfl, hb2⟩; have HZ2 := Lib.hid (Box.call (w := World.drew _) HZ.out hb2); obtain ⟨z0, z1, z2, z3⟩ := HZ2.out.cells; have zf := HZ2.out.free; have HB2 := Lib.hid (thenB (HB1.out.drew) hb2 HB1.out.size); clear hb2)
      all_goals
        go_wp2_with fail
        refine bodyPost_ret (resS2 (p := 2) (u := 3) (S := addB 0#256 (16 * x + y).toNat) (v := .bool true) rfl _ (g := w.heap.size) rfl rfl (HZ2.out.set _)) rfl ⟨⟨_, rfl, fun _ => HQ.out⟩, ?_⟩
        exact below_setW (((Below.refl _ w).alloc (Nat.le_refl _) _).trans (HB2.out.mono (by simp))) (Nat.le_refl _) _
    · rw [decide_eq_false hg]
      have HG := Lib.hid hg
      have HO := Lib.hid (fun w => one_any 0 w (by decide) (by decide))
      clear hg
      go_enter Tryz.func125, Tryz.ntmps125
      go_wp2_with fail
      refine (HS.out _ (HW.out.alloc _)).mono ?_
      rintro e w1 ⟨he, hb1⟩
      obtain ⟨N, rfl⟩ := he.2 HG.out
      clear he
      obtain ⟨hc, hf⟩ := bcell hb1
      have HB1 := Lib.hid hb1
      have HZ := Lib.hid (Box.call (Box.zero (heap_alloc_new _ _)) hb1)
      clear hb1
      go_wp2_with fail
      go_region_with (refine (HO.out _).mono ?_; rintro e w2 ⟨rfl, hb2⟩; have HZ2 := Lib.hid (Box.call (w := World.drew _) HZ.out hb2); obtain ⟨z0, z1, z2, z3⟩ := HZ2.out.cells; have zf := HZ2.out.free; have HB2 := Lib.hid (thenB (HB1.out.drew) hb2 HB1.out.size); clear hb2)
      all_goals
        go_wp2_with fail
        refine bodyPost_ret (resS2 (p := 2) (u := 3) (S := addB 0#256 (0 : Int).toNat) (v := .bool false) rfl _ (g := w.heap.size) rfl rfl (HZ2.out.set _)) rfl ⟨⟨_, rfl, fun h => by cases h⟩, ?_⟩
        exact below_setW (((Below.refl _ w).alloc (Nat.le_refl _) _).trans (HB2.out.mono (by simp))) (Nat.le_refl _) _
end Go.Proofs.YtkpijnodhlonfaaGreatDoor
