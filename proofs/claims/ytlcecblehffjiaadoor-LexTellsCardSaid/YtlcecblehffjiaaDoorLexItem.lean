/-
  Layer 6, the landed code: bytesAt, endAt, itemAt.
-/
import Derived.Test.YtlcecblehffjiaaDoorLexEscd
namespace Go.Proofs.YtlcecblehffjiaaDoor
open Go.RowKit

/-- The set of an escape, or of a byte. -/
def byteZ (p : ByteArray) (i : Nat) : BitVec 256 × Nat × Int := if bt p i = 92 then (if (escZ p i).2 = 0 then (0#256, 0, 3) else ((escZ p i).1, (escZ p i).2, 0)) else (oneS (bt p i), i + 1, 0)
theorem ret_s3 {S T : BitVec 256} {a b c d : Int} (h : S = T) (h2 : a = b) (h3 : c = d) : Ending.returned (.tuple #[setV S, .int .i64 a, .int .i64 c]) = .returned (.tuple #[setV T, .int .i64 b, .int .i64 d]) := by rw [h, h2, h3]
set_option maxRecDepth 20000 in
set_option maxHeartbeats 4000000 in
theorem bytesAt_any (hE : ErrsOk) (p : ByteArray) (i : Nat) (w : World) (hp : p.size ≤ 1000000) (hi : i < p.size) (hw : ErrW w) : Calls Tryd.prog 26 #[.string p, .int .i64 (i : Int)] w fun e w' => e = .returned (.tuple #[setV (byteZ p i).1, .int .i64 ((byteZ p i).2.1 : Nat), .int .i64 (byteZ p i).2.2]) ∧ Below w.heap.size w w' := by
  have hii : (i : Int) < (p.size : Int) := by omega
  have hb : bt p i = (p[i]'hi).toNat := bt_at hi
  have h256 : bt p i < 256 := bt_lt hi
  have HW := Lib.hid hw
  by_cases h92 : bt p i = 92
  · have q : ((p[i]'hi).toNat : Int) = 92 := by omega
    have q2 : (i : Int) + 1 ≤ (p.size : Int) := by omega
    have HX := Lib.hid (fun w h => escaped_any hE p (p.extract (i + 1) p.size) i w rfl hp hi h)
    have hz : ∀ S k b, (b = true → escZ p i = (S, i + 1 + k)) → (b = false → escZ p i = (0#256, 0)) → byteZ p i = if b = true then (S, i + 1 + k, 0) else (0#256, 0, 3) := fun S k b h1 h2 => by
      unfold byteZ
      rw [if_pos h92]
      cases b with
      | true => rw [h1 rfl, if_neg (show ¬ (S, i + 1 + k).2 = 0 by simp), if_pos rfl]
      | false => rw [h2 rfl, if_pos rfl]; rfl
    have HZ := Lib.hid hz
    clear hz h92 hb h256 hE hw
    revert HZ
    generalize byteZ p i = R
    intro HZ
    go_enter Tryd.func26, Tryd.ntmps26
    go_wp2_with fail
    refine (HX.out _ (HW.out.alloc _)).mono ?_
    rintro e w1 ⟨⟨S, k, b, rfl, hk, h1, h2⟩, hb1⟩
    have HR := Lib.hid (HZ.out S k b h1 h2)
    clear h1 h2
    have HB1 := Lib.hid (((Below.refl _ w).alloc (Nat.le_refl _) _).trans (hb1.mono (by simp)))
    have HY := Lib.hid (Box.call (Box.zero (heap_alloc_new _ _)) hb1)
    clear hb1
    have z0 := fun o => (HY.out.alloc o).cells.1
    have z1 := fun o => (HY.out.alloc o).cells.2.1
    have z2 := fun o => (HY.out.alloc o).cells.2.2.1
    have z3 := fun o => (HY.out.alloc o).cells.2.2.2
    have zf := fun o => (HY.out.alloc o).free
    cases b with
    | true =>
      go_wp2_with fail
      refine bodyPost_ret (resS3 (p := 4) (u := 5) (u2 := 6) (S := S) (v := .int .i64 ((i : Int) + 1 + (k : Int))) (v2 := .int .i64 0) rfl _ (g := w.heap.size) rfl rfl rfl ((HY.out.alloc _).set _)) rfl ⟨?_, below_setW (HB1.out.alloc HB1.out.size _) (Nat.le_refl _) _⟩
      rw [HR.out]
      first | rw [if_pos trivial] | rw [if_pos rfl]
      exact ret_s3 rfl (by first | omega | (simp only []; omega)) rfl
    | false =>
      go_wp2_with fail
      have hZ := (HY.out.alloc (.cells #[.int .u64 (W S 0), .int .u64 (W S 1), .int .u64 (W S 2), .int .u64 (W S 3)] 36)).set 0#256
      have hZb := below_setW (HB1.out.alloc HB1.out.size (.cells #[.int .u64 (W S 0), .int .u64 (W S 1), .int .u64 (W S 2), .int .u64 (W S 3)] 36)) (g := w.heap.size) (Nat.le_refl _) 0#256
      simp only [setW, W_zero] at hZ hZb
      refine bodyPost_ret (resS3 (p := 4) (u := 5) (u2 := 6) (S := 0#256) (v := .int .i64 0) (v2 := .int .i64 3) rfl _ (g := w.heap.size) rfl rfl rfl hZ) rfl ⟨?_, hZb⟩
      rw [HR.out, if_neg (by decide)]
      rfl
  · have q : ¬ ((p[i]'hi).toNat : Int) = 92 := by omega
    rw [show byteZ p i = (oneS (bt p i), i + 1, 0) by unfold byteZ; rw [if_neg h92]]
    have HO := Lib.hid (fun w => one_any ((bt p i : Nat) : Int) w (by omega) (by omega))
    rw [show ((bt p i : Nat) : Int).toNat = bt p i from rfl, one_eq h256] at HO
    generalize oneS (bt p i) = O at HO ⊢
    rw [hb] at HO
    clear h92 hb h256 hE hw
    go_enter Tryd.func26, Tryd.ntmps26
    go_wp2_with fail
    refine (HO.out _).mono ?_
    rintro e w1 ⟨rfl, hb1⟩
    have HB1 := Lib.hid (((Below.refl _ w).alloc (Nat.le_refl _) _).trans (hb1.mono (by simp)))
    have HY := Lib.hid (Box.call (Box.zero (heap_alloc_new _ _)) hb1)
    clear hb1
    obtain ⟨z0, z1, z2, z3⟩ := HY.out.cells
    have zf := HY.out.free
    go_wp2_with fail
    exact bodyPost_ret (resS3 (p := 4) (u := 5) (u2 := 6) (S := O) (v := .int .i64 ((i : Int) + 1)) (v2 := .int .i64 0) rfl _ (g := w.heap.size) rfl rfl rfl (HY.out.set _)) rfl ⟨ret_s3 rfl (by first | omega | (simp only []; omega)) rfl, below_setW HB1.out (Nat.le_refl _) _⟩

/-- What the class's item is at a place, as an answer. -/
def endZ (p : ByteArray) (i : Nat) : BitVec 256 × Nat × Int := if (itemZ p i).2 = 0 then (0#256, 0, 3) else ((itemZ p i).1, (itemZ p i).2, 0)
abbrev odT : ByteArray := ⟨#[91, 93, 45]⟩
theorem od_is (c : Nat) : decide (∃ j, j < odT.size ∧ bt odT j = c) = (c == 91 || c == 93 || c == 45) := by
  have e : odT.size = 3 := rfl
  by_cases a : c = 91
  · subst a; rw [decide_eq_true ⟨0, by decide, rfl⟩]; rfl
  · by_cases b : c = 93
    · subst b; rw [decide_eq_true ⟨1, by decide, rfl⟩]; rfl
    · by_cases d : c = 45
      · subst d; rw [decide_eq_true ⟨2, by decide, rfl⟩]; rfl
      · rw [decide_eq_false]
        · simp [a, b, d]
        · rintro ⟨j, hj, h⟩
          rw [e] at hj
          rcases (show j = 0 ∨ j = 1 ∨ j = 2 by omega) with rfl | rfl | rfl
          · exact a h.symm
          · exact b h.symm
          · exact d h.symm
theorem end_byte {p : ByteArray} {i : Nat} (hi : i < p.size) (h : (bt p i == 91 || bt p i == 93 || bt p i == 45) = false) : endZ p i = byteZ p i := by
  simp only [Bool.or_eq_false_iff, beq_eq_false_iff_ne] at h
  obtain ⟨⟨h1, h2⟩, h3⟩ := h
  have hz : itemZ p i = if bt p i = 92 then escZ p i else (oneS (bt p i), i + 1) := by unfold itemZ; rw [if_neg (by omega)]
  unfold endZ byteZ
  rw [hz]
  by_cases h92 : bt p i = 92
  · rw [if_pos h92, if_pos h92]
  · rw [if_neg h92, if_neg h92]
    rfl
theorem end_no {p : ByteArray} {i : Nat} (h : p.size ≤ i ∨ (bt p i == 91 || bt p i == 93 || bt p i == 45) = true) : endZ p i = (0#256, 0, 3) := by
  have hz : itemZ p i = (0#256, 0) := by
    unfold itemZ
    rw [if_pos]
    rcases h with h | h
    · exact .inl h
    · simp only [Bool.or_eq_true, beq_iff_eq] at h
      omega
  unfold endZ
  rw [hz, if_pos rfl]
set_option maxRecDepth 20000 in
set_option maxHeartbeats 4000000 in
theorem endAt_any (hE : ErrsOk) (p : ByteArray) (i : Nat) (w : World) (hp : p.size ≤ 1000000) (hi : i ≤ p.size) (hw : ErrW w) : Calls Tryd.prog 50 #[.string p, .int .i64 (i : Int)] w fun e w' => e = .returned (.tuple #[setV (endZ p i).1, .int .i64 ((endZ p i).2.1 : Nat), .int .i64 (endZ p i).2.2]) ∧ Below w.heap.size w w' := by
  have HW := Lib.hid hw
  by_cases he : i = p.size
  · rw [end_no (.inl (by omega))]
    have q : (i : Int) = (p.size : Int) := by omega
    rw [he]
    clear he hE hw hi q HW
    go_enter Tryd.func50, Tryd.ntmps50
    go_wp2_with fail
    have hZ : Box (World.alloc w (.cells #[.int .u64 0, .int .u64 0, .int .u64 0, .int .u64 0] 36)) w.heap.size 0#256 := Box.zero (heap_alloc_new _ _)
    exact bodyPost_ret (resS3 (p := 4) (u := 5) (u2 := 6) (S := 0#256) (v := .int .i64 0) (v2 := .int .i64 3) rfl _ (g := w.heap.size) rfl rfl rfl hZ) rfl ⟨rfl, (Below.refl _ w).alloc (Nat.le_refl _) _⟩
  · have hlt : i < p.size := by omega
    have q : ¬ (i : Int) = (p.size : Int) := by omega
    have q2 : (i : Int) < (p.size : Int) := by omega
    have hb : bt p i = (p[i]'hlt).toNat := bt_at hlt
    have HI := Lib.hid (fun w => indexByte_any odT ((bt p i : Nat) : Int) w)
    have HF := Lib.hid (first_nonneg odT (bt p i).toUInt8)
    have HM := Lib.hid (show firstIdx odT (bt p i).toUInt8 = -1 ∨ 0 ≤ firstIdx odT (bt p i).toUInt8 by rcases first_cases odT (bt p i).toUInt8 with ⟨h, -⟩ | ⟨k, h, -⟩; exact .inl h; exact .inr (by omega))
    have h256 := bt_lt hlt
    rw [show (bt p i).toUInt8.toNat = bt p i by simp; omega, od_is] at HF
    rw [show ((bt p i : Nat) : Int).toNat = bt p i from rfl] at HI
    have HBy := Lib.hid (fun w h => bytesAt_any hE p i w hp hlt h)
    have HN := Lib.hid (fun h => end_byte hlt h)
    have HO := Lib.hid (fun h => end_no (p := p) (i := i) (.inr h))
    clear he hE hw hi
    revert HI HF HM HN HO HBy
    generalize (bt p i == 91 || bt p i == 93 || bt p i == 45) = b
    generalize firstIdx odT (bt p i).toUInt8 = f
    generalize byteZ p i = R
    generalize endZ p i = E
    rw [hb]
    clear hb h256
    intro HI HF HM HBy HN HO
    cases b with
    | true =>
      obtain rfl := HO.out rfl
      have q3 := of_decide_eq_true HF.out
      clear HF HM HN HO
      go_enter Tryd.func50, Tryd.ntmps50
      go_wp2_with fail
      refine (HI.out _).mono ?_
      rintro e w1 ⟨rfl, rfl⟩
      go_wp2_with fail
      have hZ : Box (World.alloc w (.cells #[.int .u64 0, .int .u64 0, .int .u64 0, .int .u64 0] 36)) w.heap.size 0#256 := Box.zero (heap_alloc_new _ _)
      exact bodyPost_ret (resS3 (p := 4) (u := 5) (u2 := 6) (S := 0#256) (v := .int .i64 0) (v2 := .int .i64 3) rfl _ (g := w.heap.size) rfl rfl rfl hZ) rfl ⟨rfl, (Below.refl _ w).alloc (Nat.le_refl _) _⟩
    | false =>
      obtain rfl := HN.out rfl
      have q3 : f = -1 := by
        rcases HM.out with h | h
        · exact h
        · exact absurd h (of_decide_eq_false HF.out)
      subst q3
      clear HF HM HN HO
      go_enter Tryd.func50, Tryd.ntmps50
      go_wp2_with fail
      refine (HI.out _).mono ?_
      rintro e w1 ⟨rfl, rfl⟩
      go_wp2_with fail
      refine (HBy.out _ (HW.out.alloc _)).mono ?_
      rintro e w1 ⟨rfl, hb1⟩
      have HB1 := Lib.hid (((Below.refl _ w).alloc (Nat.le_refl _) _).trans (hb1.mono (by simp)))
      have HY := Lib.hid (Box.call (Box.zero (heap_alloc_new _ _)) hb1)
      clear hb1
      obtain ⟨z0, z1, z2, z3⟩ := HY.out.cells
      have zf := HY.out.free
      go_wp2_with fail
      exact bodyPost_ret (resS3 (p := 4) (u := 5) (u2 := 6) (S := E.1) (v := .int .i64 (E.2.1 : Nat)) (v2 := .int .i64 E.2.2) rfl _ (g := w.heap.size) rfl rfl rfl (HY.out.set _)) rfl ⟨rfl, below_setW HB1.out (Nat.le_refl _) _⟩
end Go.Proofs.YtlcecblehffjiaaDoor
