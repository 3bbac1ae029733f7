import Derived.Test.YteggpecbeagohaaGreatDoorLexNamed
import Derived.Test.YteggpecbeagohaaGreatDoorMz
namespace Go.Proofs.YteggpecbeagohaaGreatDoor
open Go.RowKit
def plainC : BitVec 256 := ~~~(foldS (span 97 123) ||| span 48 58)
theorem plain_eq (c : Nat) (h : c < 256) : mem plainC c = (decide (c = 95) || !mem wordS c) := by
 have H : ∀ c : Fin 256, mem plainC c.val = (decide (c.val = 95) || !mem wordS c.val) := by decide +kernel
 exact H ⟨c, h⟩
def EscR (p : ByteArray) (i : Nat) (e : Ending) : Prop := ∃ S k b, e = .returned (.tuple #[setV S, .int .i64 ((k : Nat) : Int), .bool b]) ∧ k ≤ 3 ∧ (b = true → escZ p i = (S, i + 1 + k)) ∧ (b = false → escZ p i = (0#256, 0))
section
variable {p : ByteArray} {i : Nat}
theorem esc_no (h : p.size ≤ i + 1) : escZ p i = (0#256, 0) := by unfold escZ; rw [if_pos h]
theorem esc_named {S : BitVec 256} (h : ¬ p.size ≤ i + 1) (hn : nameS (bt p (i + 1)) = some S) : escZ p i = (S, i + 2) := by unfold escZ; rw [if_neg h, hn]
theorem esc_x (h : ¬ p.size ≤ i + 1) (hc : bt p (i + 1) = 120) : escZ p i = if i + 3 < p.size ∧ 0 ≤ hexZ (bt p (i + 2)) ∧ 0 ≤ hexZ (bt p (i + 3)) then (oneS (16 * hexZ (bt p (i + 2)) + hexZ (bt p (i + 3))).toNat, i + 4) else (0#256, 0) := by
 unfold escZ
 rw [if_neg h, hc]
 simp only [show nameS 120 = none from rfl]
 by_cases h2 : i + 3 < p.size ∧ 0 ≤ hexZ (bt p (i + 2)) ∧ 0 ≤ hexZ (bt p (i + 3))
 ·rw [if_pos ⟨trivial, h2⟩, if_pos h2]
 ·rw [if_neg (fun h => h2 h.2), if_neg h2, if_neg]
  have : mem wordS 120 = true := by decide +kernel
  rw [this]
  simp
theorem esc_plain (h : ¬ p.size ≤ i + 1) (hn : nameS (bt p (i + 1)) = none) (hx : bt p (i + 1) ≠ 120) (hb : bt p (i + 1) < 256) : escZ p i = if mem plainC (bt p (i + 1)) = true then (oneS (bt p (i + 1)), i + 2) else (0#256, 0) := by
 unfold escZ
 rw [if_neg h, hn, plain_eq _ hb]
 simp only []
 rw [if_neg (fun h => hx h.1)]
 congr 1
 simp
theorem two_ext (h : i + 2 ≤ p.size) : twoB (p.extract (i + 2) p.size) = decide (i + 3 < p.size ∧ 0 ≤ hexZ (bt p (i + 2)) ∧ 0 ≤ hexZ (bt p (i + 3))) := by
 unfold twoB
 rw [bt_ext _ h, bt_ext _ h, ext_size (Nat.le_refl _)]
 congr 1
 apply propext
 rw [Nat.add_zero, show i + 2 + 1 = i + 3 from rfl]
 omega
end
theorem idx0_y {ops : Array Oper} {a : Act} {o : Oper} {x y : Operand} {S : World → Prop} (s : ByteArray) (h0 : 0 < s.size) (ho : o.op = .index 9 x y) (hx : a.eval x = .string s) (hy : a.eval y = .int .i64 0)
  (hw : Region.wanted o (yielded ops a.tmps) = true) : YieldsIf Tryz.prog ops S o (.int .u8 (((s[0]'h0).toNat : Nat) : Int)) a := by
 refine Or.inl ⟨hw, fun w _ => ?_⟩
 unfold execOp
 simp only [ho, hx, hy]
 rw [Sem.run_bind, run_index_string w 9 s .i64 0 Tryz.underlying9, dif_pos ⟨by decide, by omega⟩]
 rfl
set_option maxRecDepth 100000 in
set_option maxHeartbeats 8000000 in
theorem escaped_any (hE : ErrsOk) (p s : ByteArray) (i : Nat) (w : World) (hs : s = p.extract (i + 1) p.size) (hp : p.size ≤ 1000000) (hi : i < p.size) (hw : ErrW w) : Calls Tryz.prog 80 #[.string s] w fun e w' => EscR p i e ∧ Below w.heap.size w w' := by
 have hsz : s.size = p.size - (i + 1) := by rw [hs]; exact ext_size (Nat.le_refl _)
 by_cases h1 : p.size ≤ i + 1
 ·have he := esc_no h1
  have hem0 := str_empty (s := s) (by omega)
  clear hs
  subst hem0
  have hR : EscR p i (.returned (.tuple #[setV 0#256, .int .i64 0, .bool false])) := ⟨0#256, 0, false, rfl, by omega, (fun h => by cases h), fun _ => he⟩
  have HR := Lib.hid hR
  clear hsz he hR hE hw h1
  have hem : (ByteArray.empty.toList == []) = true := by rw [ByteArray.toList_eq]; rfl
  go_enter Tryz.func80, Tryz.ntmps80
  go_wp2_with fail
  have hZ : Box (World.alloc w (.cells #[.int .u64 0, .int .u64 0, .int .u64 0, .int .u64 0] 74)) w.heap.size 0#256 := Box.zero (heap_alloc_new _ _)
  exact bodyPost_ret (resS3 (p := 2) (u := 3) (u2 := 4) (S := 0#256) (v := .int .i64 0) (v2 := .bool false) rfl _ (g := w.heap.size) rfl rfl rfl hZ) rfl ⟨HR.out, (Below.refl _ w).alloc (Nat.le_refl _) _⟩
 ·have hne := str_ne (s := s) (by omega)
  have h0 : 0 < s.size := by omega
  have hbs : ∀ j, bt s j = bt p (i + 1 + j) := fun j => by rw [hs, bt_ext _ (by omega)]
  have hb : bt p (i + 1) = (s[0]'h0).toNat := by rw [← bt_at h0, hbs]
  have h256 : bt p (i + 1) < 256 := by rw [hb]; exact (s[0]'h0).toNat_lt
  have HW := Lib.hid hw
  by_cases hx : bt p (i + 1) = 120
  ·have q : ((s[0]'h0).toNat : Int) = 120 := by omega
   have q2 : (1 : Int) ≤ (s.size : Int) := by omega
   have hx2 : s.extract 1 s.size = p.extract (i + 2) p.size := by rw [hsz, hs, ByteArray.extract_extract]; congr 1; omega
   have HT := Lib.hid (fun w h => two_any hE (s.extract 1 s.size) w (by rw [hx2, ext_size (Nat.le_refl _)]; omega) h)
   have hr : ∀ S, (twoB (s.extract 1 s.size) = true → S = oneS (16 * hexZ (bt (s.extract 1 s.size) 0) + hexZ (bt (s.extract 1 s.size) 1)).toNat) → EscR p i (.returned (.tuple #[setV S, .int .i64 3, .bool (twoB (s.extract 1 s.size))])) := fun S hS => by
    rw [hx2] at hS ⊢
    refine ⟨S, 3, twoB (p.extract (i + 2) p.size), rfl, Nat.le_refl _, fun h => ?_, fun h => ?_⟩
    ·have h' := h
     rw [two_ext (by omega)] at h'
     rw [esc_x h1 hx, if_pos (of_decide_eq_true h'), hS h, bt_ext _ (by omega), bt_ext _ (by omega)]
    ·rw [two_ext (by omega)] at h
     rw [esc_x h1 hx, if_neg (of_decide_eq_false h)]
   revert HT hr
   generalize hexZ (bt (s.extract 1 s.size) 0) = x
   generalize hexZ (bt (s.extract 1 s.size) 1) = y
   generalize twoB (s.extract 1 s.size) = b
   intro HT hr
   have HR := Lib.hid hr
   clear hr hb hx h1 hE hw h256 hx2 hbs hsz hs
   go_enter Tryz.func80, Tryz.ntmps80
   go_wp2_with fail
   refine (HT.out _ (HW.out.alloc _)).mono ?_
   rintro e w1 ⟨⟨S, rfl, hS⟩, hb1⟩
   have HR2 := Lib.hid (HR.out S hS)
   obtain ⟨hc, hf⟩ := bcell hb1
   have HB1 := Lib.hid hb1
   have HZ := Lib.hid (Box.call (Box.zero (heap_alloc_new _ _)) hb1)
   have z0 := fun o => (HZ.out.alloc o).cells.1
   have z1 := fun o => (HZ.out.alloc o).cells.2.1
   have z2 := fun o => (HZ.out.alloc o).cells.2.2.1
   have z3 := fun o => (HZ.out.alloc o).cells.2.2.2
   have zf := fun o => (HZ.out.alloc o).free
   clear hb1 hS
   go_wp2_with fail
   refine bodyPost_ret (resS3 (p := 2) (u := 3) (u2 := 4) (S := S) (v := .int .i64 3) (v2 := .bool b) rfl _ (g := w.heap.size) rfl rfl rfl ((HZ.out.alloc _).set _)) rfl ⟨HR2.out, ?_⟩
   exact below_setW ((((Below.refl _ w).alloc (Nat.le_refl _) _).trans (HB1.out.mono (by simp))).alloc (Nat.le_of_lt HZ.out.lt) _) (Nat.le_refl _) _
  ·have q : ¬ ((s[0]'h0).toNat : Int) = 120 := by omega
   have HNm := Lib.hid (fun w => named_any (s[0]'h0).toNat w (s[0]'h0).toNat_lt)
   rw [← hb] at HNm
   cases hn : nameS (bt p (i + 1)) with
   | some S =>
     have he := esc_named h1 hn
     rw [hn] at HNm
     rw [hb] at HNm
     have HR := Lib.hid (show EscR p i (.returned (.tuple #[setV S, .int .i64 1, .bool true])) from ⟨S, 1, true, rfl, by omega, fun _ => he, (fun h => by cases h)⟩)
     clear he hn hbs hb h256 hx h1 hE hw hsz hs
     go_enter Tryz.func80, Tryz.ntmps80
     go_wp2_with fail
     refine (HNm.out _).mono ?_
     rintro e w1 ⟨rfl, hb1⟩
     obtain ⟨hc, hf⟩ := bcell hb1
     have HB1 := Lib.hid hb1
     have HZ := Lib.hid (Box.call (Box.zero (heap_alloc_new _ _)) hb1)
     have z0 := fun o => (HZ.out.alloc o).cells.1
     have z1 := fun o => (HZ.out.alloc o).cells.2.1
     have z2 := fun o => (HZ.out.alloc o).cells.2.2.1
     have z3 := fun o => (HZ.out.alloc o).cells.2.2.2
     have zf := fun o => (HZ.out.alloc o).free
     clear hb1
     go_wp2_with fail
     refine bodyPost_ret (resS3 (p := 2) (u := 3) (u2 := 4) (S := S) (v := .int .i64 1) (v2 := .bool true) rfl _ (g := w.heap.size) rfl rfl rfl ((HZ.out.alloc _).set _)) rfl ⟨HR.out, ?_⟩
     exact below_setW ((((Below.refl _ w).alloc (Nat.le_refl _) _).trans (HB1.out.mono (by simp))).alloc (Nat.le_of_lt HZ.out.lt) _) (Nat.le_refl _) _
   | none =>
     have he := esc_plain h1 hn hx h256
     rw [hn] at HNm
     rw [show (none : Option (BitVec 256)).isSome = false from rfl] at HNm
     generalize (none : Option (BitVec 256)).getD 0#256 = N0 at HNm
     have hr : EscR p i (.returned (.tuple #[setV (oneS (bt p (i + 1))), .int .i64 1, .bool (mem plainC (bt p (i + 1)))])) := by
      refine ⟨oneS (bt p (i + 1)), 1, _, rfl, by omega, fun h => ?_, fun h => ?_⟩
      ·rw [he, if_pos h]
      ·rw [he, if_neg (by rw [h]; decide)]
     have HOn := Lib.hid (fun w => one_any ((bt p (i + 1) : Nat) : Int) w (by omega) (by omega))
     rw [show ((bt p (i + 1) : Nat) : Int).toNat = bt p (i + 1) from rfl, one_eq h256] at HOn
     have HHs := Lib.hid (fun w => has_any plainC ((bt p (i + 1) : Nat) : Int) w (by omega) (by omega))
     rw [show ((bt p (i + 1) : Nat) : Int).toNat = bt p (i + 1) from rfl] at HHs
     revert hr HOn HHs
     generalize oneS (bt p (i + 1)) = O
     generalize mem plainC (bt p (i + 1)) = m
     intro hr HOn HHs
     rw [hb] at HNm HOn HHs
     have HR := Lib.hid hr
     clear he hr hn hbs hb h256 hx h1 hE hw hsz hs
     have HR1 := Lib.hid (fun w => range_any 48 57 w (by decide) (by decide) (by decide) (by decide))
     have HR2 := Lib.hid (fun w => range_any 97 122 w (by decide) (by decide) (by decide) (by decide))
     have HF := Lib.hid (fun w => fold_any (span 97 123) w)
     have HO1 := Lib.hid (fun w => or_any (foldS (span 97 123)) (span 48 58) w)
     have HNt := Lib.hid (fun w => not_any (foldS (span 97 123) ||| span 48 58) w)
     rw [show span (48 : Int).toNat ((57 : Int).toNat + 1) = span 48 58 from rfl] at HR1
     rw [show span (97 : Int).toNat ((122 : Int).toNat + 1) = span 97 123 from rfl] at HR2
     rw [show ~~~(foldS (span 97 123) ||| span 48 58) = plainC from rfl] at HNt
     revert HHs HR1 HR2 HF HO1 HNt
     generalize foldS (span 97 123) ||| span 48 58 = G
     generalize foldS (span 97 123) = F
     generalize span 97 123 = A
     generalize span 48 58 = D
     generalize plainC = P
     intro HHs HR1 HR2 HF HO1 HNt
     go_enter Tryz.func80, Tryz.ntmps80
     go_wp2_with fail
     refine (HNm.out _).mono ?_
     rintro e w1 ⟨rfl, hb1⟩
     have HB1 := Lib.hid (((Below.refl _ w).alloc (Nat.le_refl _) _).trans (hb1.mono (by simp)))
     have HZ := Lib.hid (Box.call (Box.zero (heap_alloc_new _ _)) hb1)
     clear hb1
     go_wp2_with fail
     have HH := Lib.hid (show Hold w (w1.alloc (.cells #[.int .u64 (W N0 0), .int .u64 (W N0 1), .int .u64 (W N0 2), .int .u64 (W N0 3)] 74)) w1.heap.size N0 from ⟨Box.new _ _, HZ.out.alloc _, HB1.out.alloc HB1.out.size _⟩)
     refine (HR2.out _).mono ?_
     rintro e w2 ⟨rfl, hb2⟩
     have HH := Lib.hid (HH.out.call hb2)
     clear hb2
     go_wp2_with fail
     refine (HF.out _).mono ?_
     rintro e w3 ⟨rfl, hb3⟩
     have HH := Lib.hid (HH.out.call hb3)
     clear hb3
     go_wp2_with fail
     refine (HR1.out _).mono ?_
     rintro e w4 ⟨rfl, hb4⟩
     have HH := Lib.hid (HH.out.call hb4)
     clear hb4
     go_wp2_with fail
     refine (HO1.out _).mono ?_
     rintro e w5 ⟨rfl, hb5⟩
     have HH := Lib.hid (HH.out.call hb5)
     clear hb5
     go_wp2_with fail
     refine (HNt.out _).mono ?_
     rintro e w6 ⟨rfl, hb6⟩
     have HH := Lib.hid (HH.out.call hb6)
     clear hb6
     go_wp2_with fail
     have hX := (show Hold w (w6.alloc (.cells #[.int .u64 (W P 0), .int .u64 (W P 1), .int .u64 (W P 2), .int .u64 (W P 3)] 74)) w6.heap.size P from ⟨Box.new _ _, HH.out.zero.alloc _, HH.out.below.alloc HH.out.below.size _⟩).drew
     have hz0 := hX.zero
     have hS0 : Box (World.drew (w6.alloc (.cells #[.int .u64 (W P 0), .int .u64 (W P 1), .int .u64 (W P 2), .int .u64 (W P 3)] 74))) w6.heap.size P ∧ Below w.heap.size w (World.drew (w6.alloc (.cells #[.int .u64 (W P 0), .int .u64 (W P 1), .int .u64 (W P 2), .int .u64 (W P 3)] 74))) := ⟨hX.box, hX.below⟩
     have hlt := HH.out.zero.lt
     refine wp_region_held_drew (S := fun u => Box u w6.heap.size P ∧ Below w.heap.size w u) (by kernel_rfl) hS0 (fun _ => ?_)
     generalize World.drew (World.alloc w6 _) = u0 at hS0 hz0 ⊢
     clear hX
     refine takeAt 0 37 (.string s) rfl rfl (by kernel_rfl) (by kernel_rfl) (by kernel_rfl) i_ (yields (by rfl) (fun w => by kernel_rfl)) hS0 ?_
     simp only [Act.put, sA_, s0_, sS_]
     refine takeAt 1 38 (.int .u8 (((s[0]'h0).toNat : Nat) : Int)) rfl rfl (by kernel_rfl) (by kernel_rfl) (by kernel_rfl) i_ (idx0_y s h0 rfl rfl rfl (by rfl)) hS0 ?_
     simp only [Act.put, sA_, s0_, sS_]
     refine takeAt 3 40 (setV P) rfl rfl (by kernel_rfl) (by kernel_rfl) (by kernel_rfl) i_ (loadB_yields w6.heap.size P rfl rfl (fun _ h => h.1) (by rfl)) hS0 ?_
     simp only [Act.put, sA_, s0_, sS_]
     refine takeAt 4 41 (.string s) rfl rfl (by kernel_rfl) (by kernel_rfl) (by kernel_rfl) i_ (yields (by rfl) (fun w => by kernel_rfl)) hS0 ?_
     simp only [Act.put, sA_, s0_, sS_]
     refine takeAt 5 42 (.int .u8 (((s[0]'h0).toNat : Nat) : Int)) rfl rfl (by kernel_rfl) (by kernel_rfl) (by kernel_rfl) i_ (idx0_y s h0 rfl rfl rfl (by rfl)) hS0 ?_
     simp only [Act.put, sA_, s0_, sS_]
     refine callAt 2 39 rfl rfl (by kernel_rfl) (by rfl) (by kernel_rfl) (HOn.out _) ?_
     rintro e u1 ⟨rfl, hb⟩
     have hS1 : Box u1 w6.heap.size P ∧ Below w.heap.size w u1 := ⟨hS0.1.call hb, thenB hS0.2 hb hS0.2.size⟩
     have hz1 := Box.call hz0 hb
     clear hb
     refine ⟨_, rfl, hS1, ?_⟩
     simp only [Act.put, sA_, s0_, sS_]
     refine callAt 6 43 rfl rfl (by kernel_rfl) (by rfl) (by kernel_rfl) (HHs.out _) ?_
     rintro e u2 ⟨rfl, hb⟩
     have hS2 : Box u2 w6.heap.size P ∧ Below w.heap.size w u2 := ⟨hS1.1.call hb, thenB hS1.2 hb hS1.2.size⟩
     have hz2 := Box.call hz1 hb
     clear hb
     refine ⟨_, rfl, hS2, ?_⟩
     simp only [Act.put, sA_, s0_, sS_]
     have hS3 : Box (u2.setRow w.heap.size #[.int .u64 (W O 0), .int .u64 (W O 1), .int .u64 (W O 2), .int .u64 (W O 3)]) w6.heap.size P ∧ Below w.heap.size w (u2.setRow w.heap.size #[.int .u64 (W O 0), .int .u64 (W O 1), .int .u64 (W O 2), .int .u64 (W O 3)]) := ⟨(setRow_other u2 w.heap.size w6.heap.size _ (Nat.ne_of_gt hlt)).trans hS2.1, below_row hS2.2 (Nat.le_refl _) _⟩
     refine rowAt 7 74 w.heap.size #[.int .u64 (W 0#256 0), .int .u64 (W 0#256 1), .int .u64 (W 0#256 2), .int .u64 (W 0#256 3)] #[.int .u64 (W O 0), .int .u64 (W O 1), .int .u64 (W O 2), .int .u64 (W O 3)] rfl rfl rfl (by kernel_rfl) (by rfl) rfl rfl hz2 sizeSet rfl (by simp [Value.oneCell']) hS3 ?_
     refine takeAt 8 3 (.int .i64 1) rfl rfl (by kernel_rfl) (by kernel_rfl) (by kernel_rfl) i_ (yields (by rfl) (fun w => by kernel_rfl)) hS3 ?_
     simp only [Act.put, sA_, s0_, sS_]
     refine takeAt 9 4 (.bool m) rfl rfl (by kernel_rfl) (by kernel_rfl) (by kernel_rfl) i_ (yields (by rfl) (fun w => by kernel_rfl)) hS3 ?_
     simp only [Act.put, sA_, s0_, sS_]
     refine wpAnyH_done (by kernel_rfl) ?_ _
     go_wp2_with fail
     have hZ : Box (u2.setRow w.heap.size #[.int .u64 (W O 0), .int .u64 (W O 1), .int .u64 (W O 2), .int .u64 (W O 3)]) w.heap.size O := setRow_heap _ w.heap.size _ _ _ _ hz2
     refine bodyPost_ret (resS3 (p := 2) (u := 3) (u2 := 4) (S := O) (v := .int .i64 1) (v2 := .bool m) rfl _ (g := w.heap.size) rfl rfl rfl hZ) rfl ⟨HR.out, hS3.2⟩
end Go.Proofs.YteggpecbeagohaaGreatDoor
namespace Go.Proofs.YteggpecbeagohaaGreatDoor
open Go.RowKit
def byteZ (p : ByteArray) (i : Nat) : BitVec 256 × Nat × Int := if bt p i = 92 then (if (escZ p i).2 = 0 then (0#256, 0, 3) else ((escZ p i).1, (escZ p i).2, 0)) else (oneS (bt p i), i + 1, 0)
theorem ret_s3 {S T : BitVec 256} {a b c d : Int} (h : S = T) (h2 : a = b) (h3 : c = d) : Ending.returned (.tuple #[setV S, .int .i64 a, .int .i64 c]) = .returned (.tuple #[setV T, .int .i64 b, .int .i64 d]) := by rw [h, h2, h3]
set_option maxRecDepth 20000 in
set_option maxHeartbeats 4000000 in
theorem bytesAt_any (hE : ErrsOk) (p : ByteArray) (i : Nat) (w : World) (hp : p.size ≤ 1000000) (hi : i < p.size) (hw : ErrW w) : Calls Tryz.prog 51 #[.string p, .int .i64 (i : Int)] w fun e w' => e = .returned (.tuple #[setV (byteZ p i).1, .int .i64 ((byteZ p i).2.1 : Nat), .int .i64 (byteZ p i).2.2]) ∧ Below w.heap.size w w' := by
 have hii : (i : Int) < (p.size : Int) := by omega
 have hb : bt p i = (p[i]'hi).toNat := bt_at hi
 have h256 : bt p i < 256 := bt_lt hi
 have HW := Lib.hid hw
 by_cases h92 : bt p i = 92
 ·have q : ((p[i]'hi).toNat : Int) = 92 := by omega
  have q2 : (i : Int) + 1 ≤ (p.size : Int) := by omega
  have HX := Lib.hid (fun w h => escaped_any hE p (p.extract (i + 1) p.size) i w rfl hp hi h)
  have hz : ∀ S k b, (b = true → escZ p i = (S, i + 1 + k)) → (b = false → escZ p i = (0#256, 0)) → byteZ p i = if b = true then (S, i + 1 + k, 0) else (0#256, 0, 3) := fun S k b h1 h2 => by
   unfold byteZ
   rw [if_pos h92]
   cases b with
   | true => rw [h1 rfl, if_neg (show ¬ (S, i + 1 + k).2 = 0 by simp), if_pos rfl]
   | false => rw [h2 rfl, if_pos rfl]; rfl
  have HZ := Lib.hid hz
  clear hz h92 hb h256 hE hw
  revert HZ
  generalize byteZ p i = R
  intro HZ
  go_enter Tryz.func51, Tryz.ntmps51
  go_wp2_with fail
  refine (HX.out _ (HW.out.alloc _)).mono ?_
  rintro e w1 ⟨⟨S, k, b, rfl, hk, h1, h2⟩, hb1⟩
  have HR := Lib.hid (HZ.out S k b h1 h2)
  clear h1 h2
  have HB1 := Lib.hid (((Below.refl _ w).alloc (Nat.le_refl _) _).trans (hb1.mono (by simp)))
  have HY := Lib.hid (Box.call (Box.zero (heap_alloc_new _ _)) hb1)
  clear hb1
  have z0 := fun o => (HY.out.alloc o).cells.1
  have z1 := fun o => (HY.out.alloc o).cells.2.1
  have z2 := fun o => (HY.out.alloc o).cells.2.2.1
  have z3 := fun o => (HY.out.alloc o).cells.2.2.2
  have zf := fun o => (HY.out.alloc o).free
  cases b with
  | true =>
    go_wp2_with fail
    refine bodyPost_ret (resS3 (p := 4) (u := 5) (u2 := 6) (S := S) (v := .int .i64 ((i : Int) + 1 + (k : Int))) (v2 := .int .i64 0) rfl _ (g := w.heap.size) rfl rfl rfl ((HY.out.alloc _).set _)) rfl ⟨?_, below_setW (HB1.out.alloc HB1.out.size _) (Nat.le_refl _) _⟩
    rw [HR.out]
    first | rw [if_pos trivial] | rw [if_pos rfl]
    exact ret_s3 rfl (by first | omega | (simp only []; omega)) rfl
  | false =>
    go_wp2_with fail
    have hZ := (HY.out.alloc (.cells #[.int .u64 (W S 0), .int .u64 (W S 1), .int .u64 (W S 2), .int .u64 (W S 3)] 74)).set 0#256
    have hZb := below_setW (HB1.out.alloc HB1.out.size (.cells #[.int .u64 (W S 0), .int .u64 (W S 1), .int .u64 (W S 2), .int .u64 (W S 3)] 74)) (g := w.heap.size) (Nat.le_refl _) 0#256
    simp only [setW, W_zero] at hZ hZb
    refine bodyPost_ret (resS3 (p := 4) (u := 5) (u2 := 6) (S := 0#256) (v := .int .i64 0) (v2 := .int .i64 3) rfl _ (g := w.heap.size) rfl rfl rfl hZ) rfl ⟨?_, hZb⟩
    rw [HR.out, if_neg (by decide)]
    rfl
 ·have q : ¬ ((p[i]'hi).toNat : Int) = 92 := by omega
  rw [show byteZ p i = (oneS (bt p i), i + 1, 0) by unfold byteZ; rw [if_neg h92]]
  have HO := Lib.hid (fun w => one_any ((bt p i : Nat) : Int) w (by omega) (by omega))
  rw [show ((bt p i : Nat) : Int).toNat = bt p i from rfl, one_eq h256] at HO
  generalize oneS (bt p i) = O at HO ⊢
  rw [hb] at HO
  clear h92 hb h256 hE hw
  go_enter Tryz.func51, Tryz.ntmps51
  go_wp2_with fail
  refine (HO.out _).mono ?_
  rintro e w1 ⟨rfl, hb1⟩
  have HB1 := Lib.hid (((Below.refl _ w).alloc (Nat.le_refl _) _).trans (hb1.mono (by simp)))
  have HY := Lib.hid (Box.call (Box.zero (heap_alloc_new _ _)) hb1)
  clear hb1
  obtain ⟨z0, z1, z2, z3⟩ := HY.out.cells
  have zf := HY.out.free
  go_wp2_with fail
  exact bodyPost_ret (resS3 (p := 4) (u := 5) (u2 := 6) (S := O) (v := .int .i64 ((i : Int) + 1)) (v2 := .int .i64 0) rfl _ (g := w.heap.size) rfl rfl rfl (HY.out.set _)) rfl ⟨ret_s3 rfl (by first | omega | (simp only []; omega)) rfl, below_setW HB1.out (Nat.le_refl _) _⟩
def endZ (p : ByteArray) (i : Nat) : BitVec 256 × Nat × Int := if (itemZ p i).2 = 0 then (0#256, 0, 3) else ((itemZ p i).1, (itemZ p i).2, 0)
abbrev odT : ByteArray := ⟨#[91, 93, 45]⟩
theorem od_is (c : Nat) : decide (∃ j, j < odT.size ∧ bt odT j = c) = (c == 91 || c == 93 || c == 45) := by
 have e : odT.size = 3 := rfl
 by_cases a : c = 91
 ·subst a; rw [decide_eq_true ⟨0, by decide, rfl⟩]; rfl
 ·by_cases b : c = 93
  ·subst b; rw [decide_eq_true ⟨1, by decide, rfl⟩]; rfl
  ·by_cases d : c = 45
   ·subst d; rw [decide_eq_true ⟨2, by decide, rfl⟩]; rfl
   ·rw [decide_eq_false]
    ·simp [a, b, d]
    ·rintro ⟨j, hj, h⟩
     rw [e] at hj
     rcases (show j = 0 ∨ j = 1 ∨ j = 2 by omega) with rfl | rfl | rfl
     ·exact a h.symm
     ·exact b h.symm
     ·exact d h.symm
theorem end_byte {p : ByteArray} {i : Nat} (hi : i < p.size) (h : (bt p i == 91 || bt p i == 93 || bt p i == 45) = false) : endZ p i = byteZ p i := by
 simp only [Bool.or_eq_false_iff, beq_eq_false_iff_ne] at h
 obtain ⟨⟨h1, h2⟩, h3⟩ := h
 have hz : itemZ p i = if bt p i = 92 then escZ p i else (oneS (bt p i), i + 1) := by unfold itemZ; rw [if_neg (by omega)]
 unfold endZ byteZ
 rw [hz]
 by_cases h92 : bt p i = 92
 ·rw [if_pos h92, if_pos h92]
 ·rw [if_neg h92, if_neg h92]
  rfl
theorem end_no {p : ByteArray} {i : Nat} (h : p.size ≤ i ∨ (bt p i == 91 || bt p i == 93 || bt p i == 45) = true) : endZ p i = (0#256, 0, 3) := by
 have hz : itemZ p i = (0#256, 0) := by
  unfold itemZ
  rw [if_pos]
  rcases h with h | h
  ·exact .inl h
  ·simp only [Bool.or_eq_true, beq_iff_eq] at h
   omega
 unfold endZ
 rw [hz, if_pos rfl]
set_option maxRecDepth 20000 in
set_option maxHeartbeats 4000000 in
theorem endAt_any (hE : ErrsOk) (p : ByteArray) (i : Nat) (w : World) (hp : p.size ≤ 1000000) (hi : i ≤ p.size) (hw : ErrW w) : Calls Tryz.prog 103 #[.string p, .int .i64 (i : Int)] w fun e w' => e = .returned (.tuple #[setV (endZ p i).1, .int .i64 ((endZ p i).2.1 : Nat), .int .i64 (endZ p i).2.2]) ∧ Below w.heap.size w w' := by
 have HW := Lib.hid hw
 by_cases he : i = p.size
 ·rw [end_no (.inl (by omega))]
  have q : (i : Int) = (p.size : Int) := by omega
  rw [he]
  clear he hE hw hi q HW
  go_enter Tryz.func103, Tryz.ntmps103
  go_wp2_with fail
  have hZ : Box (World.alloc w (.cells #[.int .u64 0, .int .u64 0, .int .u64 0, .int .u64 0] 74)) w.heap.size 0#256 := Box.zero (heap_alloc_new _ _)
  exact bodyPost_ret (resS3 (p := 4) (u := 5) (u2 := 6) (S := 0#256) (v := .int .i64 0) (v2 := .int .i64 3) rfl _ (g := w.heap.size) rfl rfl rfl hZ) rfl ⟨rfl, (Below.refl _ w).alloc (Nat.le_refl _) _⟩
 ·have hlt : i < p.size := by omega
  have q : ¬ (i : Int) = (p.size : Int) := by omega
  have q2 : (i : Int) < (p.size : Int) := by omega
  have hb : bt p i = (p[i]'hlt).toNat := bt_at hlt
  have HI := Lib.hid (fun w => indexByte_any odT ((bt p i : Nat) : Int) w)
  have HF := Lib.hid (first_nonneg odT (bt p i).toUInt8)
  have HM := Lib.hid (show firstIdx odT (bt p i).toUInt8 = -1 ∨ 0 ≤ firstIdx odT (bt p i).toUInt8 by rcases first_cases odT (bt p i).toUInt8 with ⟨h, -⟩ | ⟨k, h, -⟩; exact .inl h; exact .inr (by omega))
  have h256 := bt_lt hlt
  rw [show (bt p i).toUInt8.toNat = bt p i by simp; omega, od_is] at HF
  rw [show ((bt p i : Nat) : Int).toNat = bt p i from rfl] at HI
  have HBy := Lib.hid (fun w h => bytesAt_any hE p i w hp hlt h)
  have HN := Lib.hid (fun h => end_byte hlt h)
  have HO := Lib.hid (fun h => end_no (p := p) (i := i) (.inr h))
  clear he hE hw hi
  revert HI HF HM HN HO HBy
  generalize (bt p i == 91 || bt p i == 93 || bt p i == 45) = b
  generalize firstIdx odT (bt p i).toUInt8 = f
  generalize byteZ p i = R
  generalize endZ p i = E
  rw [hb]
  clear hb h256
  intro HI HF HM HBy HN HO
  cases b with
  | true =>
    obtain rfl := HO.out rfl
    have q3 := of_decide_eq_true HF.out
    clear HF HM HN HO
    go_enter Tryz.func103, Tryz.ntmps103
    go_wp2_with fail
    refine (HI.out _).mono ?_
    rintro e w1 ⟨rfl, rfl⟩
    go_wp2_with fail
    have hZ : Box (World.alloc w (.cells #[.int .u64 0, .int .u64 0, .int .u64 0, .int .u64 0] 74)) w.heap.size 0#256 := Box.zero (heap_alloc_new _ _)
    exact bodyPost_ret (resS3 (p := 4) (u := 5) (u2 := 6) (S := 0#256) (v := .int .i64 0) (v2 := .int .i64 3) rfl _ (g := w.heap.size) rfl rfl rfl hZ) rfl ⟨rfl, (Below.refl _ w).alloc (Nat.le_refl _) _⟩
  | false =>
    obtain rfl := HN.out rfl
    have q3 : f = -1 := by
     rcases HM.out with h | h
     ·exact h
     ·exact absurd h (of_decide_eq_false HF.out)
    subst q3
    clear HF HM HN HO
    go_enter Tryz.func103, Tryz.ntmps103
    go_wp2_with fail
    refine (HI.out _).mono ?_
    rintro e w1 ⟨rfl, rfl⟩
    go_wp2_with fail
    refine (HBy.out _ (HW.out.alloc _)).mono ?_
    rintro e w1 ⟨rfl, hb1⟩
    have HB1 := Lib.hid (((Below.refl _ w).alloc (Nat.le_refl _) _).trans (hb1.mono (by simp)))
    have HY := Lib.hid (Box.call (Box.zero (heap_alloc_new _ _)) hb1)
    clear hb1
    obtain ⟨z0, z1, z2, z3⟩ := HY.out.cells
    have zf := HY.out.free
    go_wp2_with fail
    exact bodyPost_ret (resS3 (p := 4) (u := 5) (u2 := 6) (S := E.1) (v := .int .i64 (E.2.1 : Nat)) (v2 := .int .i64 E.2.2) rfl _ (g := w.heap.size) rfl rfl rfl (HY.out.set _)) rfl ⟨rfl, below_setW HB1.out (Nat.le_refl _) _⟩
end Go.Proofs.YteggpecbeagohaaGreatDoor
namespace Go.Proofs.YteggpecbeagohaaGreatDoor
open Go.RowKit
theorem min_k (S : BitVec 256) (w : World) (ht : TabOk w) : Calls Tryz.prog 104 #[setV S] w fun e w' => (∃ b, e = .returned (.tuple #[.int .u8 ((minS S : Nat) : Int), .bool b])) ∧ Below w.heap.size w w' := by
 by_cases h : S = 0#256
 ·refine (min_no S w h).mono ?_
  rintro e w1 ⟨rfl, hb⟩
  exact ⟨⟨false, by rw [min_none S h]; rfl⟩, hb⟩
 ·refine (min_yes S w h ht).mono ?_
  rintro e w1 ⟨rfl, hb⟩
  exact ⟨⟨true, rfl⟩, hb⟩
theorem minS_lt (S : BitVec 256) : minS S < 256 := by
 unfold minS
 cases h : (List.range 256).find? S.getLsbD with
 | none => decide
 | some k => exact List.mem_range.1 (List.mem_of_find?_eq_some h)
def spanZ (p : ByteArray) (i : Nat) : BitVec 256 × Nat × Int :=
 if (endZ p i).2.2 ≠ 0 then (0#256, 0, 3) else if bt p (endZ p i).2.1 ≠ 45 then endZ p i
 else if (endZ p ((endZ p i).2.1 + 1)).2.2 ≠ 0 then (0#256, 0, 3)
 else if lenS (endZ p i).1 ≠ 1 ∨ lenS (endZ p ((endZ p i).2.1 + 1)).1 ≠ 1 ∨ minS (endZ p ((endZ p i).2.1 + 1)).1 < minS (endZ p i).1 then (0#256, 0, 3)
 else (span (minS (endZ p i).1) (minS (endZ p ((endZ p i).2.1 + 1)).1 + 1), (endZ p ((endZ p i).2.1 + 1)).2.1, 0)
theorem end_up (p : ByteArray) (i : Nat) : endZ p i = (0#256, 0, 3) ∨ ((endZ p i).2.2 = 0 ∧ i + 1 ≤ (endZ p i).2.1 ∧ (endZ p i).2.1 ≤ p.size) := by
 unfold endZ
 split
 ·exact .inl rfl
 ·have := itemZ_up p i
  exact .inr ⟨rfl, by simp only []; omega, by simp only []; omega⟩
structure Hold2 (w W : World) (g : Nat) (D : BitVec 256) (k : Nat) (E : BitVec 256) : Prop where
 one : Hold w W g D
 two : Box W k E
theorem Hold2.call {w W W' : World} {g k : Nat} {D E : BitVec 256} (h : Hold2 w W g D k E) (hb : Below W.heap.size W W') : Hold2 w W' g D k E := ⟨h.one.call hb, h.two.call hb⟩
set_option maxRecDepth 20000 in
set_option maxHeartbeats 4000000 in
theorem itemA (p : ByteArray) (i b : Nat) (e : Int) (F : BitVec 256) (w : World) (hW : ErrW w) (hbs : b ≤ p.size) (_hp : p.size ≤ 1000000)
  (hE1 : ∀ w, ErrW w → Calls Tryz.prog 103 #[.string p, .int .i64 (i : Int)] w fun x w' => x = .returned (.tuple #[setV F, .int .i64 (b : Int), .int .i64 e]) ∧ Below w.heap.size w w')
  (he : e ≠ 0)
  : Calls Tryz.prog 76 #[.string p, .int .i64 (i : Int)] w fun x w' => x = .returned (.tuple #[setV (F), .int .i64 ((b : Int)), .int .i64 (e)]) ∧ Below w.heap.size w w' := by
 have HW := Lib.hid hW
 have HE1 := Lib.hid hE1
 have g1 : (0 : Int) ≤ (b : Int) := by omega
 have g2 : (b : Int) ≤ (p.size : Int) := by omega
 clear hW hE1
 go_enter Tryz.func76, Tryz.ntmps76
 go_wp2_with fail
 with_reducible refine (HE1.out _ (HW.out.alloc _)).mono ?_
 rintro x w1 ⟨rfl, hb1⟩
 have HB1 := Lib.hid (((Below.refl _ w).alloc (Nat.le_refl _) _).trans (hb1.mono (by simp)))
 have HY := Lib.hid (Box.call (Box.zero (heap_alloc_new _ _)) hb1)
 clear hb1
 have HH := Lib.hid (show Hold w (w1.alloc (.cells #[.int .u64 (W F 0), .int .u64 (W F 1), .int .u64 (W F 2), .int .u64 (W F 3)] 74)) w1.heap.size F from ⟨Box.new _ _, HY.out.alloc _, HB1.out.alloc HB1.out.size _⟩)
 have z0 := fun o => (HY.out.alloc o).cells.1
 have z1 := fun o => (HY.out.alloc o).cells.2.1
 have z2 := fun o => (HY.out.alloc o).cells.2.2.1
 have z3 := fun o => (HY.out.alloc o).cells.2.2.2
 have zf := fun o => (HY.out.alloc o).free
 go_wp2_with fail
 exact bodyPost_ret (resS3 (p := 4) (u := 5) (u2 := 6) (S := F) (v := .int .i64 (b : Int)) (v2 := .int .i64 e) rfl _ (g := w.heap.size) rfl rfl rfl (HH.out.zero.set _)) rfl ⟨rfl, below_setW HH.out.below (Nat.le_refl _) _⟩
set_option maxRecDepth 20000 in
set_option maxHeartbeats 4000000 in
theorem itemB (p : ByteArray) (i b : Nat) (F : BitVec 256) (w : World) (hW : ErrW w) (hbs : b ≤ p.size) (_hp : p.size ≤ 1000000)
  (hE1 : ∀ w, ErrW w → Calls Tryz.prog 103 #[.string p, .int .i64 (i : Int)] w fun x w' => x = .returned (.tuple #[setV F, .int .i64 (b : Int), .int .i64 0]) ∧ Below w.heap.size w w')
  (hP : ∀ w, Calls Tryz.prog 71 #[.string (p.extract b p.size), .string ⟨#[45]⟩] w fun x w' => x = .returned (.bool false) ∧ w = w')
  : Calls Tryz.prog 76 #[.string p, .int .i64 (i : Int)] w fun x w' => x = .returned (.tuple #[setV (F), .int .i64 ((b : Int)), .int .i64 (0)]) ∧ Below w.heap.size w w' := by
 have HW := Lib.hid hW
 have HE1 := Lib.hid hE1
 have HP := Lib.hid hP
 have g1 : (0 : Int) ≤ (b : Int) := by omega
 have g2 : (b : Int) ≤ (p.size : Int) := by omega
 clear hW hE1 hP
 go_enter Tryz.func76, Tryz.ntmps76
 go_wp2_with fail
 with_reducible refine (HE1.out _ (HW.out.alloc _)).mono ?_
 rintro x w1 ⟨rfl, hb1⟩
 have HB1 := Lib.hid (((Below.refl _ w).alloc (Nat.le_refl _) _).trans (hb1.mono (by simp)))
 have HY := Lib.hid (Box.call (Box.zero (heap_alloc_new _ _)) hb1)
 clear hb1
 have HH := Lib.hid (show Hold w (w1.alloc (.cells #[.int .u64 (W F 0), .int .u64 (W F 1), .int .u64 (W F 2), .int .u64 (W F 3)] 74)) w1.heap.size F from ⟨Box.new _ _, HY.out.alloc _, HB1.out.alloc HB1.out.size _⟩)
 have z0 := fun o => (HY.out.alloc o).cells.1
 have z1 := fun o => (HY.out.alloc o).cells.2.1
 have z2 := fun o => (HY.out.alloc o).cells.2.2.1
 have z3 := fun o => (HY.out.alloc o).cells.2.2.2
 have zf := fun o => (HY.out.alloc o).free
 go_wp2_with fail
 with_reducible refine (HP.out _).mono ?_
 rintro x w2 ⟨rfl, rfl⟩
 go_wp2_with fail
 exact bodyPost_ret (resS3 (p := 4) (u := 5) (u2 := 6) (S := F) (v := .int .i64 (b : Int)) (v2 := .int .i64 0) rfl _ (g := w.heap.size) rfl rfl rfl (HH.out.zero.set _)) rfl ⟨rfl, below_setW HH.out.below (Nat.le_refl _) _⟩
set_option maxRecDepth 20000 in
set_option maxHeartbeats 4000000 in
theorem itemC (p : ByteArray) (i b c : Nat) (e e2 : Int) (F T Sp : BitVec 256) (m1 m2 n1 n2 : Nat) (hd : Bool) (w : World) (hW : ErrW w) (hT : TabOk w) (hbs : b ≤ p.size) (hp : p.size ≤ 1000000)
  (hE1 : ∀ w, ErrW w → Calls Tryz.prog 103 #[.string p, .int .i64 (i : Int)] w fun x w' => x = .returned (.tuple #[setV F, .int .i64 (b : Int), .int .i64 e]) ∧ Below w.heap.size w w')
  (hP : ∀ w, Calls Tryz.prog 71 #[.string (p.extract b p.size), .string ⟨#[45]⟩] w fun x w' => x = .returned (.bool hd) ∧ w = w')
  (hE2 : ∀ w, ErrW w → Calls Tryz.prog 103 #[.string p, .int .i64 ((b : Int) + 1)] w fun x w' => x = .returned (.tuple #[setV T, .int .i64 (c : Int), .int .i64 e2]) ∧ Below w.heap.size w w')
  (hM1 : ∀ w, TabOk w → Calls Tryz.prog 104 #[setV F] w fun x w' => (∃ k, x = .returned (.tuple #[.int .u8 (m1 : Int), .bool k])) ∧ Below w.heap.size w w')
  (hM2 : ∀ w, TabOk w → Calls Tryz.prog 104 #[setV T] w fun x w' => (∃ k, x = .returned (.tuple #[.int .u8 (m2 : Int), .bool k])) ∧ Below w.heap.size w w')
  (hL1 : ∀ w, Calls Tryz.prog 105 #[setV F] w fun x w' => x = .returned (.int .i64 (n1 : Int)) ∧ Below w.heap.size w w')
  (hL2 : ∀ w, Calls Tryz.prog 105 #[setV T] w fun x w' => x = .returned (.int .i64 (n2 : Int)) ∧ Below w.heap.size w w')
  (hR : ∀ w, Calls Tryz.prog 106 #[.int .u8 (m1 : Int), .int .u8 (m2 : Int)] w fun x w' => x = .returned (setV Sp) ∧ Below w.heap.size w w')
  (he : e = 0) (hh : hd = true) (he2 : e2 ≠ 0)
  : Calls Tryz.prog 76 #[.string p, .int .i64 (i : Int)] w fun x w' => x = .returned (.tuple #[setV (0#256), .int .i64 (0), .int .i64 (e2)]) ∧ Below w.heap.size w w' := by
 have HW := Lib.hid hW
 have HT := Lib.hid hT
 have HE1 := Lib.hid hE1
 have HP := Lib.hid hP
 have HE2 := Lib.hid hE2
 have HM1 := Lib.hid hM1
 have HM2 := Lib.hid hM2
 have HL1 := Lib.hid hL1
 have HL2 := Lib.hid hL2
 have HR := Lib.hid hR
 have g1 : (0 : Int) ≤ (b : Int) := by omega
 have g2 : (b : Int) ≤ (p.size : Int) := by omega
 clear hW hT hE1 hP hE2 hM1 hM2 hL1 hL2 hR
 subst he hh
 go_enter Tryz.func76, Tryz.ntmps76
 go_wp2_with fail
 with_reducible refine (HE1.out _ (HW.out.alloc _)).mono ?_
 rintro x w1 ⟨rfl, hb1⟩
 have HB1 := Lib.hid (((Below.refl _ w).alloc (Nat.le_refl _) _).trans (hb1.mono (by simp)))
 have HY := Lib.hid (Box.call (Box.zero (heap_alloc_new _ _)) hb1)
 clear hb1
 have HH := Lib.hid (show Hold w (w1.alloc (.cells #[.int .u64 (W F 0), .int .u64 (W F 1), .int .u64 (W F 2), .int .u64 (W F 3)] 74)) w1.heap.size F from ⟨Box.new _ _, HY.out.alloc _, HB1.out.alloc HB1.out.size _⟩)
 go_wp2_with fail
 with_reducible refine (HP.out _).mono ?_
 rintro x w2 ⟨rfl, rfl⟩
 go_wp2_with fail
 with_reducible refine (HE2.out _ (HW.out.call HH.out.below)).mono ?_
 rintro x w2 ⟨rfl, hb⟩
 have HH := Lib.hid (HH.out.call hb)
 clear hb
 have H2 := Lib.hid (show Hold2 w (w2.alloc (.cells #[.int .u64 (W T 0), .int .u64 (W T 1), .int .u64 (W T 2), .int .u64 (W T 3)] 74)) w1.heap.size F w2.heap.size T from ⟨HH.out.alloc _, Box.new _ _⟩)
 have y0 := fun o => (HH.out.alloc o).box.cells.1
 have y1 := fun o => (HH.out.alloc o).box.cells.2.1
 have y2 := fun o => (HH.out.alloc o).box.cells.2.2.1
 have y3 := fun o => (HH.out.alloc o).box.cells.2.2.2
 have z0 := fun o => (HH.out.alloc o).zero.cells.1
 have z1 := fun o => (HH.out.alloc o).zero.cells.2.1
 have z2 := fun o => (HH.out.alloc o).zero.cells.2.2.1
 have z3 := fun o => (HH.out.alloc o).zero.cells.2.2.2
 have zf := fun o => (HH.out.alloc o).zero.free
 go_wp2_with fail
 have hZ := H2.out.one.zero.set 0#256
 have hZb := below_setW H2.out.one.below (Nat.le_refl _) 0#256
 simp only [setW, W_zero] at hZ hZb
 exact bodyPost_ret (resS3 (p := 4) (u := 5) (u2 := 6) (S := 0#256) (v := .int .i64 0) (v2 := .int .i64 e2) rfl _ (g := w.heap.size) rfl rfl rfl hZ) rfl ⟨rfl, hZb⟩
set_option maxRecDepth 20000 in
set_option maxHeartbeats 4000000 in
theorem itemD1 (p : ByteArray) (i b c : Nat) (e e2 : Int) (F T Sp : BitVec 256) (m1 m2 n1 n2 : Nat) (hd : Bool) (w : World) (hW : ErrW w) (hT : TabOk w) (hbs : b ≤ p.size) (hp : p.size ≤ 1000000)
  (hE1 : ∀ w, ErrW w → Calls Tryz.prog 103 #[.string p, .int .i64 (i : Int)] w fun x w' => x = .returned (.tuple #[setV F, .int .i64 (b : Int), .int .i64 e]) ∧ Below w.heap.size w w')
  (hP : ∀ w, Calls Tryz.prog 71 #[.string (p.extract b p.size), .string ⟨#[45]⟩] w fun x w' => x = .returned (.bool hd) ∧ w = w')
  (hE2 : ∀ w, ErrW w → Calls Tryz.prog 103 #[.string p, .int .i64 ((b : Int) + 1)] w fun x w' => x = .returned (.tuple #[setV T, .int .i64 (c : Int), .int .i64 e2]) ∧ Below w.heap.size w w')
  (hM1 : ∀ w, TabOk w → Calls Tryz.prog 104 #[setV F] w fun x w' => (∃ k, x = .returned (.tuple #[.int .u8 (m1 : Int), .bool k])) ∧ Below w.heap.size w w')
  (hM2 : ∀ w, TabOk w → Calls Tryz.prog 104 #[setV T] w fun x w' => (∃ k, x = .returned (.tuple #[.int .u8 (m2 : Int), .bool k])) ∧ Below w.heap.size w w')
  (hL1 : ∀ w, Calls Tryz.prog 105 #[setV F] w fun x w' => x = .returned (.int .i64 (n1 : Int)) ∧ Below w.heap.size w w')
  (hL2 : ∀ w, Calls Tryz.prog 105 #[setV T] w fun x w' => x = .returned (.int .i64 (n2 : Int)) ∧ Below w.heap.size w w')
  (hR : ∀ w, Calls Tryz.prog 106 #[.int .u8 (m1 : Int), .int .u8 (m2 : Int)] w fun x w' => x = .returned (setV Sp) ∧ Below w.heap.size w w')
  (he : e = 0) (hh : hd = true) (he2 : e2 = 0) (hn : ¬ (n1 : Int) = 1)
  : Calls Tryz.prog 76 #[.string p, .int .i64 (i : Int)] w fun x w' => x = .returned (.tuple #[setV (0#256), .int .i64 (0), .int .i64 (3)]) ∧ Below w.heap.size w w' := by
 have HW := Lib.hid hW
 have HT := Lib.hid hT
 have HE1 := Lib.hid hE1
 have HP := Lib.hid hP
 have HE2 := Lib.hid hE2
 have HM1 := Lib.hid hM1
 have HM2 := Lib.hid hM2
 have HL1 := Lib.hid hL1
 have HL2 := Lib.hid hL2
 have HR := Lib.hid hR
 have g1 : (0 : Int) ≤ (b : Int) := by omega
 have g2 : (b : Int) ≤ (p.size : Int) := by omega
 clear hW hT hE1 hP hE2 hM1 hM2 hL1 hL2 hR
 subst he hh he2
 go_enter Tryz.func76, Tryz.ntmps76
 go_wp2_with fail
 with_reducible refine (HE1.out _ (HW.out.alloc _)).mono ?_
 rintro x w1 ⟨rfl, hb1⟩
 have HB1 := Lib.hid (((Below.refl _ w).alloc (Nat.le_refl _) _).trans (hb1.mono (by simp)))
 have HY := Lib.hid (Box.call (Box.zero (heap_alloc_new _ _)) hb1)
 clear hb1
 have HH := Lib.hid (show Hold w (w1.alloc (.cells #[.int .u64 (W F 0), .int .u64 (W F 1), .int .u64 (W F 2), .int .u64 (W F 3)] 74)) w1.heap.size F from ⟨Box.new _ _, HY.out.alloc _, HB1.out.alloc HB1.out.size _⟩)
 go_wp2_with fail
 with_reducible refine (HP.out _).mono ?_
 rintro x w2 ⟨rfl, rfl⟩
 go_wp2_with fail
 with_reducible refine (HE2.out _ (HW.out.call HH.out.below)).mono ?_
 rintro x w2 ⟨rfl, hb⟩
 have HH := Lib.hid (HH.out.call hb)
 clear hb
 have H2 := Lib.hid (show Hold2 w (w2.alloc (.cells #[.int .u64 (W T 0), .int .u64 (W T 1), .int .u64 (W T 2), .int .u64 (W T 3)] 74)) w1.heap.size F w2.heap.size T from ⟨HH.out.alloc _, Box.new _ _⟩)
 have y0 := fun o => (HH.out.alloc o).box.cells.1
 have y1 := fun o => (HH.out.alloc o).box.cells.2.1
 have y2 := fun o => (HH.out.alloc o).box.cells.2.2.1
 have y3 := fun o => (HH.out.alloc o).box.cells.2.2.2
 have z0 := fun o => (HH.out.alloc o).zero.cells.1
 have z1 := fun o => (HH.out.alloc o).zero.cells.2.1
 have z2 := fun o => (HH.out.alloc o).zero.cells.2.2.1
 have z3 := fun o => (HH.out.alloc o).zero.cells.2.2.2
 have zf := fun o => (HH.out.alloc o).zero.free
 go_wp2_with fail
 with_reducible refine (HM1.out _ (HT.out.call H2.out.one.below)).mono ?_
 rintro x w3 ⟨⟨k3, rfl⟩, hb⟩
 have H2 := Lib.hid (H2.out.call hb)
 clear hb
 obtain ⟨d0, d1, d2, d3⟩ := H2.out.one.box.cells
 obtain ⟨e0, e1, e2', e3⟩ := H2.out.two.cells
 obtain ⟨z0, z1, z2, z3⟩ := H2.out.one.zero.cells
 have zf := H2.out.one.zero.free
 go_wp2_with fail
 with_reducible refine (HM2.out _ (HT.out.call H2.out.one.below)).mono ?_
 rintro x w4 ⟨⟨k4, rfl⟩, hb⟩
 have H2 := Lib.hid (H2.out.call hb)
 clear hb
 obtain ⟨d0, d1, d2, d3⟩ := H2.out.one.box.cells
 obtain ⟨e0, e1, e2', e3⟩ := H2.out.two.cells
 obtain ⟨z0, z1, z2, z3⟩ := H2.out.one.zero.cells
 have zf := H2.out.one.zero.free
 go_wp2_with fail
 with_reducible refine (HL1.out _).mono ?_
 rintro x w5 ⟨rfl, hb⟩
 have H2 := Lib.hid (H2.out.call hb)
 clear hb
 obtain ⟨d0, d1, d2, d3⟩ := H2.out.one.box.cells
 obtain ⟨e0, e1, e2', e3⟩ := H2.out.two.cells
 obtain ⟨z0, z1, z2, z3⟩ := H2.out.one.zero.cells
 have zf := H2.out.one.zero.free
 go_wp2_with fail
 have hZ := H2.out.one.zero.set 0#256
 have hZb := below_setW H2.out.one.below (Nat.le_refl _) 0#256
 simp only [setW, W_zero] at hZ hZb
 exact bodyPost_ret (resS3 (p := 4) (u := 5) (u2 := 6) (S := 0#256) (v := .int .i64 0) (v2 := .int .i64 3) rfl _ (g := w.heap.size) rfl rfl rfl hZ) rfl ⟨rfl, hZb⟩
set_option maxRecDepth 20000 in
set_option maxHeartbeats 4000000 in
theorem itemD2 (p : ByteArray) (i b c : Nat) (e e2 : Int) (F T Sp : BitVec 256) (m1 m2 n1 n2 : Nat) (hd : Bool) (w : World) (hW : ErrW w) (hT : TabOk w) (hbs : b ≤ p.size) (hp : p.size ≤ 1000000)
  (hE1 : ∀ w, ErrW w → Calls Tryz.prog 103 #[.string p, .int .i64 (i : Int)] w fun x w' => x = .returned (.tuple #[setV F, .int .i64 (b : Int), .int .i64 e]) ∧ Below w.heap.size w w')
  (hP : ∀ w, Calls Tryz.prog 71 #[.string (p.extract b p.size), .string ⟨#[45]⟩] w fun x w' => x = .returned (.bool hd) ∧ w = w')
  (hE2 : ∀ w, ErrW w → Calls Tryz.prog 103 #[.string p, .int .i64 ((b : Int) + 1)] w fun x w' => x = .returned (.tuple #[setV T, .int .i64 (c : Int), .int .i64 e2]) ∧ Below w.heap.size w w')
  (hM1 : ∀ w, TabOk w → Calls Tryz.prog 104 #[setV F] w fun x w' => (∃ k, x = .returned (.tuple #[.int .u8 (m1 : Int), .bool k])) ∧ Below w.heap.size w w')
  (hM2 : ∀ w, TabOk w → Calls Tryz.prog 104 #[setV T] w fun x w' => (∃ k, x = .returned (.tuple #[.int .u8 (m2 : Int), .bool k])) ∧ Below w.heap.size w w')
  (hL1 : ∀ w, Calls Tryz.prog 105 #[setV F] w fun x w' => x = .returned (.int .i64 (n1 : Int)) ∧ Below w.heap.size w w')
  (hL2 : ∀ w, Calls Tryz.prog 105 #[setV T] w fun x w' => x = .returned (.int .i64 (n2 : Int)) ∧ Below w.heap.size w w')
  (hR : ∀ w, Calls Tryz.prog 106 #[.int .u8 (m1 : Int), .int .u8 (m2 : Int)] w fun x w' => x = .returned (setV Sp) ∧ Below w.heap.size w w')
  (he : e = 0) (hh : hd = true) (he2 : e2 = 0) (hn : n1 = 1) (hn2 : ¬ (n2 : Int) = 1)
  : Calls Tryz.prog 76 #[.string p, .int .i64 (i : Int)] w fun x w' => x = .returned (.tuple #[setV (0#256), .int .i64 (0), .int .i64 (3)]) ∧ Below w.heap.size w w' := by
 have HW := Lib.hid hW
 have HT := Lib.hid hT
 have HE1 := Lib.hid hE1
 have HP := Lib.hid hP
 have HE2 := Lib.hid hE2
 have HM1 := Lib.hid hM1
 have HM2 := Lib.hid hM2
 have HL1 := Lib.hid hL1
 have HL2 := Lib.hid hL2
 have HR := Lib.hid hR
 have g1 : (0 : Int) ≤ (b : Int) := by omega
 have g2 : (b : Int) ≤ (p.size : Int) := by omega
 clear hW hT hE1 hP hE2 hM1 hM2 hL1 hL2 hR
 subst he hh he2 hn
 go_enter Tryz.func76, Tryz.ntmps76
 go_wp2_with fail
 with_reducible refine (HE1.out _ (HW.out.alloc _)).mono ?_
 rintro x w1 ⟨rfl, hb1⟩
 have HB1 := Lib.hid (((Below.refl _ w).alloc (Nat.le_refl _) _).trans (hb1.mono (by simp)))
 have HY := Lib.hid (Box.call (Box.zero (heap_alloc_new _ _)) hb1)
 clear hb1
 have HH := Lib.hid (show Hold w (w1.alloc (.cells #[.int .u64 (W F 0), .int .u64 (W F 1), .int .u64 (W F 2), .int .u64 (W F 3)] 74)) w1.heap.size F from ⟨Box.new _ _, HY.out.alloc _, HB1.out.alloc HB1.out.size _⟩)
 go_wp2_with fail
 with_reducible refine (HP.out _).mono ?_
 rintro x w2 ⟨rfl, rfl⟩
 go_wp2_with fail
 with_reducible refine (HE2.out _ (HW.out.call HH.out.below)).mono ?_
 rintro x w2 ⟨rfl, hb⟩
 have HH := Lib.hid (HH.out.call hb)
 clear hb
 have H2 := Lib.hid (show Hold2 w (w2.alloc (.cells #[.int .u64 (W T 0), .int .u64 (W T 1), .int .u64 (W T 2), .int .u64 (W T 3)] 74)) w1.heap.size F w2.heap.size T from ⟨HH.out.alloc _, Box.new _ _⟩)
 have y0 := fun o => (HH.out.alloc o).box.cells.1
 have y1 := fun o => (HH.out.alloc o).box.cells.2.1
 have y2 := fun o => (HH.out.alloc o).box.cells.2.2.1
 have y3 := fun o => (HH.out.alloc o).box.cells.2.2.2
 have z0 := fun o => (HH.out.alloc o).zero.cells.1
 have z1 := fun o => (HH.out.alloc o).zero.cells.2.1
 have z2 := fun o => (HH.out.alloc o).zero.cells.2.2.1
 have z3 := fun o => (HH.out.alloc o).zero.cells.2.2.2
 have zf := fun o => (HH.out.alloc o).zero.free
 go_wp2_with fail
 with_reducible refine (HM1.out _ (HT.out.call H2.out.one.below)).mono ?_
 rintro x w3 ⟨⟨k3, rfl⟩, hb⟩
 have H2 := Lib.hid (H2.out.call hb)
 clear hb
 obtain ⟨d0, d1, d2, d3⟩ := H2.out.one.box.cells
 obtain ⟨e0, e1, e2', e3⟩ := H2.out.two.cells
 obtain ⟨z0, z1, z2, z3⟩ := H2.out.one.zero.cells
 have zf := H2.out.one.zero.free
 go_wp2_with fail
 with_reducible refine (HM2.out _ (HT.out.call H2.out.one.below)).mono ?_
 rintro x w4 ⟨⟨k4, rfl⟩, hb⟩
 have H2 := Lib.hid (H2.out.call hb)
 clear hb
 obtain ⟨d0, d1, d2, d3⟩ := H2.out.one.box.cells
 obtain ⟨e0, e1, e2', e3⟩ := H2.out.two.cells
 obtain ⟨z0, z1, z2, z3⟩ := H2.out.one.zero.cells
 have zf := H2.out.one.zero.free
 go_wp2_with fail
 with_reducible refine (HL1.out _).mono ?_
 rintro x w5 ⟨rfl, hb⟩
 have H2 := Lib.hid (H2.out.call hb)
 clear hb
 obtain ⟨d0, d1, d2, d3⟩ := H2.out.one.box.cells
 obtain ⟨e0, e1, e2', e3⟩ := H2.out.two.cells
 obtain ⟨z0, z1, z2, z3⟩ := H2.out.one.zero.cells
 have zf := H2.out.one.zero.free
 go_wp2_with fail
 with_reducible refine (HL2.out _).mono ?_
 rintro x w6 ⟨rfl, hb⟩
 have H2 := Lib.hid (H2.out.call hb)
 clear hb
 obtain ⟨d0, d1, d2, d3⟩ := H2.out.one.box.cells
 obtain ⟨e0, e1, e2', e3⟩ := H2.out.two.cells
 obtain ⟨z0, z1, z2, z3⟩ := H2.out.one.zero.cells
 have zf := H2.out.one.zero.free
 go_wp2_with fail
 have hZ := H2.out.one.zero.set 0#256
 have hZb := below_setW H2.out.one.below (Nat.le_refl _) 0#256
 simp only [setW, W_zero] at hZ hZb
 exact bodyPost_ret (resS3 (p := 4) (u := 5) (u2 := 6) (S := 0#256) (v := .int .i64 0) (v2 := .int .i64 3) rfl _ (g := w.heap.size) rfl rfl rfl hZ) rfl ⟨rfl, hZb⟩
set_option maxRecDepth 20000 in
set_option maxHeartbeats 4000000 in
theorem itemD3 (p : ByteArray) (i b c : Nat) (e e2 : Int) (F T Sp : BitVec 256) (m1 m2 n1 n2 : Nat) (hd : Bool) (w : World) (hW : ErrW w) (hT : TabOk w) (hbs : b ≤ p.size) (hp : p.size ≤ 1000000)
  (hE1 : ∀ w, ErrW w → Calls Tryz.prog 103 #[.string p, .int .i64 (i : Int)] w fun x w' => x = .returned (.tuple #[setV F, .int .i64 (b : Int), .int .i64 e]) ∧ Below w.heap.size w w')
  (hP : ∀ w, Calls Tryz.prog 71 #[.string (p.extract b p.size), .string ⟨#[45]⟩] w fun x w' => x = .returned (.bool hd) ∧ w = w')
  (hE2 : ∀ w, ErrW w → Calls Tryz.prog 103 #[.string p, .int .i64 ((b : Int) + 1)] w fun x w' => x = .returned (.tuple #[setV T, .int .i64 (c : Int), .int .i64 e2]) ∧ Below w.heap.size w w')
  (hM1 : ∀ w, TabOk w → Calls Tryz.prog 104 #[setV F] w fun x w' => (∃ k, x = .returned (.tuple #[.int .u8 (m1 : Int), .bool k])) ∧ Below w.heap.size w w')
  (hM2 : ∀ w, TabOk w → Calls Tryz.prog 104 #[setV T] w fun x w' => (∃ k, x = .returned (.tuple #[.int .u8 (m2 : Int), .bool k])) ∧ Below w.heap.size w w')
  (hL1 : ∀ w, Calls Tryz.prog 105 #[setV F] w fun x w' => x = .returned (.int .i64 (n1 : Int)) ∧ Below w.heap.size w w')
  (hL2 : ∀ w, Calls Tryz.prog 105 #[setV T] w fun x w' => x = .returned (.int .i64 (n2 : Int)) ∧ Below w.heap.size w w')
  (hR : ∀ w, Calls Tryz.prog 106 #[.int .u8 (m1 : Int), .int .u8 (m2 : Int)] w fun x w' => x = .returned (setV Sp) ∧ Below w.heap.size w w')
  (he : e = 0) (hh : hd = true) (he2 : e2 = 0) (hn : n1 = 1) (hn2 : n2 = 1) (hm : (m2 : Int) < (m1 : Int))
  : Calls Tryz.prog 76 #[.string p, .int .i64 (i : Int)] w fun x w' => x = .returned (.tuple #[setV (0#256), .int .i64 (0), .int .i64 (3)]) ∧ Below w.heap.size w w' := by
 have HW := Lib.hid hW
 have HT := Lib.hid hT
 have HE1 := Lib.hid hE1
 have HP := Lib.hid hP
 have HE2 := Lib.hid hE2
 have HM1 := Lib.hid hM1
 have HM2 := Lib.hid hM2
 have HL1 := Lib.hid hL1
 have HL2 := Lib.hid hL2
 have HR := Lib.hid hR
 have g1 : (0 : Int) ≤ (b : Int) := by omega
 have g2 : (b : Int) ≤ (p.size : Int) := by omega
 clear hW hT hE1 hP hE2 hM1 hM2 hL1 hL2 hR
 subst he hh he2 hn hn2
 go_enter Tryz.func76, Tryz.ntmps76
 go_wp2_with fail
 with_reducible refine (HE1.out _ (HW.out.alloc _)).mono ?_
 rintro x w1 ⟨rfl, hb1⟩
 have HB1 := Lib.hid (((Below.refl _ w).alloc (Nat.le_refl _) _).trans (hb1.mono (by simp)))
 have HY := Lib.hid (Box.call (Box.zero (heap_alloc_new _ _)) hb1)
 clear hb1
 have HH := Lib.hid (show Hold w (w1.alloc (.cells #[.int .u64 (W F 0), .int .u64 (W F 1), .int .u64 (W F 2), .int .u64 (W F 3)] 74)) w1.heap.size F from ⟨Box.new _ _, HY.out.alloc _, HB1.out.alloc HB1.out.size _⟩)
 go_wp2_with fail
 with_reducible refine (HP.out _).mono ?_
 rintro x w2 ⟨rfl, rfl⟩
 go_wp2_with fail
 with_reducible refine (HE2.out _ (HW.out.call HH.out.below)).mono ?_
 rintro x w2 ⟨rfl, hb⟩
 have HH := Lib.hid (HH.out.call hb)
 clear hb
 have H2 := Lib.hid (show Hold2 w (w2.alloc (.cells #[.int .u64 (W T 0), .int .u64 (W T 1), .int .u64 (W T 2), .int .u64 (W T 3)] 74)) w1.heap.size F w2.heap.size T from ⟨HH.out.alloc _, Box.new _ _⟩)
 have y0 := fun o => (HH.out.alloc o).box.cells.1
 have y1 := fun o => (HH.out.alloc o).box.cells.2.1
 have y2 := fun o => (HH.out.alloc o).box.cells.2.2.1
 have y3 := fun o => (HH.out.alloc o).box.cells.2.2.2
 have z0 := fun o => (HH.out.alloc o).zero.cells.1
 have z1 := fun o => (HH.out.alloc o).zero.cells.2.1
 have z2 := fun o => (HH.out.alloc o).zero.cells.2.2.1
 have z3 := fun o => (HH.out.alloc o).zero.cells.2.2.2
 have zf := fun o => (HH.out.alloc o).zero.free
 go_wp2_with fail
 with_reducible refine (HM1.out _ (HT.out.call H2.out.one.below)).mono ?_
 rintro x w3 ⟨⟨k3, rfl⟩, hb⟩
 have H2 := Lib.hid (H2.out.call hb)
 clear hb
 obtain ⟨d0, d1, d2, d3⟩ := H2.out.one.box.cells
 obtain ⟨e0, e1, e2', e3⟩ := H2.out.two.cells
 obtain ⟨z0, z1, z2, z3⟩ := H2.out.one.zero.cells
 have zf := H2.out.one.zero.free
 go_wp2_with fail
 with_reducible refine (HM2.out _ (HT.out.call H2.out.one.below)).mono ?_
 rintro x w4 ⟨⟨k4, rfl⟩, hb⟩
 have H2 := Lib.hid (H2.out.call hb)
 clear hb
 obtain ⟨d0, d1, d2, d3⟩ := H2.out.one.box.cells
 obtain ⟨e0, e1, e2', e3⟩ := H2.out.two.cells
 obtain ⟨z0, z1, z2, z3⟩ := H2.out.one.zero.cells
 have zf := H2.out.one.zero.free
 go_wp2_with fail
 with_reducible refine (HL1.out _).mono ?_
 rintro x w5 ⟨rfl, hb⟩
 have H2 := Lib.hid (H2.out.call hb)
 clear hb
 obtain ⟨d0, d1, d2, d3⟩ := H2.out.one.box.cells
 obtain ⟨e0, e1, e2', e3⟩ := H2.out.two.cells
 obtain ⟨z0, z1, z2, z3⟩ := H2.out.one.zero.cells
 have zf := H2.out.one.zero.free
 go_wp2_with fail
 with_reducible refine (HL2.out _).mono ?_
 rintro x w6 ⟨rfl, hb⟩
 have H2 := Lib.hid (H2.out.call hb)
 clear hb
 obtain ⟨d0, d1, d2, d3⟩ := H2.out.one.box.cells
 obtain ⟨e0, e1, e2', e3⟩ := H2.out.two.cells
 obtain ⟨z0, z1, z2, z3⟩ := H2.out.one.zero.cells
 have zf := H2.out.one.zero.free
 go_wp2_with fail
 have hZ := H2.out.one.zero.set 0#256
 have hZb := below_setW H2.out.one.below (Nat.le_refl _) 0#256
 simp only [setW, W_zero] at hZ hZb
 exact bodyPost_ret (resS3 (p := 4) (u := 5) (u2 := 6) (S := 0#256) (v := .int .i64 0) (v2 := .int .i64 3) rfl _ (g := w.heap.size) rfl rfl rfl hZ) rfl ⟨rfl, hZb⟩
set_option maxRecDepth 20000 in
set_option maxHeartbeats 4000000 in
theorem itemE (p : ByteArray) (i b c : Nat) (e e2 : Int) (F T Sp : BitVec 256) (m1 m2 n1 n2 : Nat) (hd : Bool) (w : World) (hW : ErrW w) (hT : TabOk w) (hbs : b ≤ p.size) (hp : p.size ≤ 1000000)
  (hE1 : ∀ w, ErrW w → Calls Tryz.prog 103 #[.string p, .int .i64 (i : Int)] w fun x w' => x = .returned (.tuple #[setV F, .int .i64 (b : Int), .int .i64 e]) ∧ Below w.heap.size w w')
  (hP : ∀ w, Calls Tryz.prog 71 #[.string (p.extract b p.size), .string ⟨#[45]⟩] w fun x w' => x = .returned (.bool hd) ∧ w = w')
  (hE2 : ∀ w, ErrW w → Calls Tryz.prog 103 #[.string p, .int .i64 ((b : Int) + 1)] w fun x w' => x = .returned (.tuple #[setV T, .int .i64 (c : Int), .int .i64 e2]) ∧ Below w.heap.size w w')
  (hM1 : ∀ w, TabOk w → Calls Tryz.prog 104 #[setV F] w fun x w' => (∃ k, x = .returned (.tuple #[.int .u8 (m1 : Int), .bool k])) ∧ Below w.heap.size w w')
  (hM2 : ∀ w, TabOk w → Calls Tryz.prog 104 #[setV T] w fun x w' => (∃ k, x = .returned (.tuple #[.int .u8 (m2 : Int), .bool k])) ∧ Below w.heap.size w w')
  (hL1 : ∀ w, Calls Tryz.prog 105 #[setV F] w fun x w' => x = .returned (.int .i64 (n1 : Int)) ∧ Below w.heap.size w w')
  (hL2 : ∀ w, Calls Tryz.prog 105 #[setV T] w fun x w' => x = .returned (.int .i64 (n2 : Int)) ∧ Below w.heap.size w w')
  (hR : ∀ w, Calls Tryz.prog 106 #[.int .u8 (m1 : Int), .int .u8 (m2 : Int)] w fun x w' => x = .returned (setV Sp) ∧ Below w.heap.size w w')
  (he : e = 0) (hh : hd = true) (he2 : e2 = 0) (hn : n1 = 1) (hn2 : n2 = 1) (hm : ¬ (m2 : Int) < (m1 : Int))
  : Calls Tryz.prog 76 #[.string p, .int .i64 (i : Int)] w fun x w' => x = .returned (.tuple #[setV (Sp), .int .i64 ((c : Int)), .int .i64 (0)]) ∧ Below w.heap.size w w' := by
 have HW := Lib.hid hW
 have HT := Lib.hid hT
 have HE1 := Lib.hid hE1
 have HP := Lib.hid hP
 have HE2 := Lib.hid hE2
 have HM1 := Lib.hid hM1
 have HM2 := Lib.hid hM2
 have HL1 := Lib.hid hL1
 have HL2 := Lib.hid hL2
 have HR := Lib.hid hR
 have g1 : (0 : Int) ≤ (b : Int) := by omega
 have g2 : (b : Int) ≤ (p.size : Int) := by omega
 clear hW hT hE1 hP hE2 hM1 hM2 hL1 hL2 hR
 subst he hh he2 hn hn2
 go_enter Tryz.func76, Tryz.ntmps76
 go_wp2_with fail
 with_reducible refine (HE1.out _ (HW.out.alloc _)).mono ?_
 rintro x w1 ⟨rfl, hb1⟩
 have HB1 := Lib.hid (((Below.refl _ w).alloc (Nat.le_refl _) _).trans (hb1.mono (by simp)))
 have HY := Lib.hid (Box.call (Box.zero (heap_alloc_new _ _)) hb1)
 clear hb1
 have HH := Lib.hid (show Hold w (w1.alloc (.cells #[.int .u64 (W F 0), .int .u64 (W F 1), .int .u64 (W F 2), .int .u64 (W F 3)] 74)) w1.heap.size F from ⟨Box.new _ _, HY.out.alloc _, HB1.out.alloc HB1.out.size _⟩)
 go_wp2_with fail
 with_reducible refine (HP.out _).mono ?_
 rintro x w2 ⟨rfl, rfl⟩
 go_wp2_with fail
 with_reducible refine (HE2.out _ (HW.out.call HH.out.below)).mono ?_
 rintro x w2 ⟨rfl, hb⟩
 have HH := Lib.hid (HH.out.call hb)
 clear hb
 have H2 := Lib.hid (show Hold2 w (w2.alloc (.cells #[.int .u64 (W T 0), .int .u64 (W T 1), .int .u64 (W T 2), .int .u64 (W T 3)] 74)) w1.heap.size F w2.heap.size T from ⟨HH.out.alloc _, Box.new _ _⟩)
 have y0 := fun o => (HH.out.alloc o).box.cells.1
 have y1 := fun o => (HH.out.alloc o).box.cells.2.1
 have y2 := fun o => (HH.out.alloc o).box.cells.2.2.1
 have y3 := fun o => (HH.out.alloc o).box.cells.2.2.2
 have z0 := fun o => (HH.out.alloc o).zero.cells.1
 have z1 := fun o => (HH.out.alloc o).zero.cells.2.1
 have z2 := fun o => (HH.out.alloc o).zero.cells.2.2.1
 have z3 := fun o => (HH.out.alloc o).zero.cells.2.2.2
 have zf := fun o => (HH.out.alloc o).zero.free
 go_wp2_with fail
 with_reducible refine (HM1.out _ (HT.out.call H2.out.one.below)).mono ?_
 rintro x w3 ⟨⟨k3, rfl⟩, hb⟩
 have H2 := Lib.hid (H2.out.call hb)
 clear hb
 obtain ⟨d0, d1, d2, d3⟩ := H2.out.one.box.cells
 obtain ⟨e0, e1, e2', e3⟩ := H2.out.two.cells
 obtain ⟨z0, z1, z2, z3⟩ := H2.out.one.zero.cells
 have zf := H2.out.one.zero.free
 go_wp2_with fail
 with_reducible refine (HM2.out _ (HT.out.call H2.out.one.below)).mono ?_
 rintro x w4 ⟨⟨k4, rfl⟩, hb⟩
 have H2 := Lib.hid (H2.out.call hb)
 clear hb
 obtain ⟨d0, d1, d2, d3⟩ := H2.out.one.box.cells
 obtain ⟨e0, e1, e2', e3⟩ := H2.out.two.cells
 obtain ⟨z0, z1, z2, z3⟩ := H2.out.one.zero.cells
 have zf := H2.out.one.zero.free
 go_wp2_with fail
 with_reducible refine (HL1.out _).mono ?_
 rintro x w5 ⟨rfl, hb⟩
 have H2 := Lib.hid (H2.out.call hb)
 clear hb
 obtain ⟨d0, d1, d2, d3⟩ := H2.out.one.box.cells
 obtain ⟨e0, e1, e2', e3⟩ := H2.out.two.cells
 obtain ⟨z0, z1, z2, z3⟩ := H2.out.one.zero.cells
 have zf := H2.out.one.zero.free
 go_wp2_with fail
 with_reducible refine (HL2.out _).mono ?_
 rintro x w6 ⟨rfl, hb⟩
 have H2 := Lib.hid (H2.out.call hb)
 clear hb
 obtain ⟨d0, d1, d2, d3⟩ := H2.out.one.box.cells
 obtain ⟨e0, e1, e2', e3⟩ := H2.out.two.cells
 obtain ⟨z0, z1, z2, z3⟩ := H2.out.one.zero.cells
 have zf := H2.out.one.zero.free
 go_wp2_with fail
 with_reducible refine (HR.out _).mono ?_
 rintro x w7 ⟨rfl, hb⟩
 have H2 := Lib.hid (H2.out.call hb)
 clear hb
 obtain ⟨d0, d1, d2, d3⟩ := H2.out.one.box.cells
 obtain ⟨e0, e1, e2', e3⟩ := H2.out.two.cells
 obtain ⟨z0, z1, z2, z3⟩ := H2.out.one.zero.cells
 have zf := H2.out.one.zero.free
 go_wp2_with fail
 exact bodyPost_ret (resS3 (p := 4) (u := 5) (u2 := 6) (S := Sp) (v := .int .i64 (c : Int)) (v2 := .int .i64 0) rfl _ (g := w.heap.size) rfl rfl rfl (H2.out.one.zero.set _)) rfl ⟨rfl, below_setW H2.out.one.below (Nat.le_refl _) _⟩
theorem itemAt_any (hE : ErrsOk) (p : ByteArray) (i : Nat) (w : World) (hp : p.size ≤ 1000000) (hi : i ≤ p.size) (hw : ErrW w) (ht : TabOk w) : Calls Tryz.prog 76 #[.string p, .int .i64 (i : Int)] w fun e w' => e = .returned (.tuple #[setV (spanZ p i).1, .int .i64 ((spanZ p i).2.1 : Nat), .int .i64 (spanZ p i).2.2]) ∧ Below w.heap.size w w' := by
 have hE1 := fun w h => endAt_any hE p i w hp hi h
 have hup := end_up p i
 have hsp : spanZ p i = spanZ p i := rfl
 have hbs : (endZ p i).2.1 ≤ p.size := by rcases hup with h | h; rw [h]; exact Nat.zero_le _; exact h.2.2
 have hP : ∀ w, Calls Tryz.prog 71 #[.string (p.extract (endZ p i).2.1 p.size), .string ⟨#[45]⟩] w fun x w' => x = .returned (.bool (bt p (endZ p i).2.1 == 45)) ∧ w = w' := fun w => by
  have := prefix_any (p.extract (endZ p i).2.1 p.size) ⟨#[45]⟩ [45] w rfl
  rwa [head_ext hbs, show headB p ((endZ p i).2.1 + 0) [45] = (bt p (endZ p i).2.1 == 45) by simp [headB]] at this
 by_cases he : (endZ p i).2.2 = 0
 ·by_cases h45 : bt p (endZ p i).2.1 = 45
  ·have hlt : (endZ p i).2.1 < p.size := bt_in (by omega)
   have hE2 : ∀ w, ErrW w → Calls Tryz.prog 103 #[.string p, .int .i64 (((endZ p i).2.1 : Int) + 1)] w fun x w' => x = .returned (.tuple #[setV (endZ p ((endZ p i).2.1 + 1)).1, .int .i64 ((endZ p ((endZ p i).2.1 + 1)).2.1 : Nat), .int .i64 (endZ p ((endZ p i).2.1 + 1)).2.2]) ∧ Below w.heap.size w w' := fun w h => endAt_any hE p ((endZ p i).2.1 + 1) w hp (by omega) h
   rw [beq_iff_eq.2 h45] at hP
   have hs : spanZ p i = if (endZ p ((endZ p i).2.1 + 1)).2.2 ≠ 0 then (0#256, 0, 3)
     else if lenS (endZ p i).1 ≠ 1 ∨ lenS (endZ p ((endZ p i).2.1 + 1)).1 ≠ 1 ∨ minS (endZ p ((endZ p i).2.1 + 1)).1 < minS (endZ p i).1 then (0#256, 0, 3)
     else (span (minS (endZ p i).1) (minS (endZ p ((endZ p i).2.1 + 1)).1 + 1), (endZ p ((endZ p i).2.1 + 1)).2.1, 0) := by
    unfold spanZ
    rw [if_neg (by simp [he]), if_neg (by simp [h45])]
   have hup2 := end_up p ((endZ p i).2.1 + 1)
   rw [hs]
   generalize endZ p ((endZ p i).2.1 + 1) = Y at hE2 hup2 ⊢
   generalize endZ p i = X at hE1 hP hE2 he hbs ⊢
   obtain ⟨F, b, e⟩ := X
   obtain ⟨T, c, e2⟩ := Y
   simp only [] at hE1 hP hE2 he hbs hup2 ⊢
   subst he
   have hM1 := fun w h => min_k F w h
   have hM2 := fun w h => min_k T w h
   have hL1 := fun w => len_any F w
   have hL2 := fun w => len_any T w
   have hR := fun w => range_any ((minS F : Nat) : Int) ((minS T : Nat) : Int) w (by omega) (by have := minS_lt F; omega) (by omega) (by have := minS_lt T; omega)
   rw [show ((minS F : Nat) : Int).toNat = minS F from rfl, show ((minS T : Nat) : Int).toNat = minS T from rfl] at hR
   by_cases he2 : e2 = 0
   ·rw [if_neg (by simp [he2])]
    by_cases hn : lenS F = 1
    ·by_cases hn2 : lenS T = 1
     ·by_cases hm : minS T < minS F
      ·rw [if_pos (by omega)]
       exact itemD3 p i b c 0 e2 F T _ _ _ _ _ true w hw ht hbs hp hE1 hP hE2 hM1 hM2 hL1 hL2 hR rfl rfl he2 hn hn2 (by omega)
      ·rw [if_neg (by omega)]
       exact itemE p i b c 0 e2 F T _ _ _ _ _ true w hw ht hbs hp hE1 hP hE2 hM1 hM2 hL1 hL2 hR rfl rfl he2 hn hn2 (by omega)
     ·rw [if_pos (by omega)]
      exact itemD2 p i b c 0 e2 F T _ _ _ _ _ true w hw ht hbs hp hE1 hP hE2 hM1 hM2 hL1 hL2 hR rfl rfl he2 hn (by omega)
    ·rw [if_pos (by omega)]
     exact itemD1 p i b c 0 e2 F T _ _ _ _ _ true w hw ht hbs hp hE1 hP hE2 hM1 hM2 hL1 hL2 hR rfl rfl he2 (by omega)
   ·rw [if_pos he2]
    have h3 : e2 = 3 := by
     rcases hup2 with h | h
     ·exact congrArg (fun x => x.2.2) h
     ·exact absurd h.1 he2
    subst h3
    exact itemC p i b c 0 3 F T _ _ _ _ _ true w hw ht hbs hp hE1 hP hE2 hM1 hM2 hL1 hL2 hR rfl rfl (by decide)
  ·rw [beq_eq_false_iff_ne.2 h45] at hP
   rw [show spanZ p i = endZ p i by unfold spanZ; rw [if_neg (by simp [he]), if_pos h45]]
   generalize endZ p i = X at hE1 hP he hbs ⊢
   obtain ⟨F, b, e⟩ := X
   simp only [] at hE1 hP he hbs ⊢
   subst he
   exact itemB p i b F w hw hbs hp hE1 hP
 ·have h3 : endZ p i = (0#256, 0, 3) := by
   rcases hup with h | h
   ·exact h
   ·exact absurd h.1 he
  rw [show spanZ p i = (0#256, 0, 3) by unfold spanZ; rw [if_pos he]]
  rw [h3] at hE1
  exact itemA p i 0 3 0#256 w hw (Nat.zero_le _) hp hE1 (by decide)
end Go.Proofs.YteggpecbeagohaaGreatDoor
namespace Go.Proofs.YteggpecbeagohaaGreatDoor
open Go.RowKit
theorem or_eq (S T : BitVec 256) : (ofPred fun n => mem S n || mem T n) = S ||| T := by
 apply BitVec.eq_of_getLsbD_eq
 intro i hi
 rw [ofPred_bit, BitVec.getLsbD_or, decide_eq_true hi, Bool.true_and]
 rfl
theorem span_eq (p : ByteArray) (i : Nat) : spanZ p i = if (itemZ p i).2 = 0 then (0#256, 0, 3) else if bt p (itemZ p i).2 ≠ 45 then ((itemZ p i).1, (itemZ p i).2, 0)
  else if (itemZ p ((itemZ p i).2 + 1)).2 = 0 then (0#256, 0, 3) else if lenS (itemZ p i).1 ≠ 1 ∨ lenS (itemZ p ((itemZ p i).2 + 1)).1 ≠ 1 ∨ minS (itemZ p ((itemZ p i).2 + 1)).1 < minS (itemZ p i).1 then (0#256, 0, 3)
  else (span (minS (itemZ p i).1) (minS (itemZ p ((itemZ p i).2 + 1)).1 + 1), (itemZ p ((itemZ p i).2 + 1)).2, 0) := by
 by_cases h0 : (itemZ p i).2 = 0
 ·have hx : endZ p i = (0#256, 0, 3) := by unfold endZ; rw [if_pos h0]
  rw [if_pos h0]
  unfold spanZ
  rw [hx, if_pos (by decide)]
 ·have hx : endZ p i = ((itemZ p i).1, (itemZ p i).2, 0) := by unfold endZ; rw [if_neg h0]
  rw [if_neg h0]
  unfold spanZ
  rw [hx]
  show (if (0 : Int) ≠ 0 then _ else if bt p (itemZ p i).2 ≠ 45 then _ else if (endZ p ((itemZ p i).2 + 1)).2.2 ≠ 0 then _ else if lenS (itemZ p i).1 ≠ 1 ∨ lenS (endZ p ((itemZ p i).2 + 1)).1 ≠ 1 ∨ minS (endZ p ((itemZ p i).2 + 1)).1 < minS (itemZ p i).1 then _ else _) = _
  rw [if_neg (by decide)]
  by_cases h45 : bt p (itemZ p i).2 ≠ 45
  ·rw [if_pos h45, if_pos h45]
  ·rw [if_neg h45, if_neg h45]
   by_cases hy0 : (itemZ p ((itemZ p i).2 + 1)).2 = 0
   ·have hy : endZ p ((itemZ p i).2 + 1) = (0#256, 0, 3) := by unfold endZ; rw [if_pos hy0]
    rw [hy, if_pos (by decide), if_pos hy0]
   ·have hy : endZ p ((itemZ p i).2 + 1) = ((itemZ p ((itemZ p i).2 + 1)).1, (itemZ p ((itemZ p i).2 + 1)).2, 0) := by unfold endZ; rw [if_neg hy0]
    rw [hy, if_neg (show ¬ (0 : Int) ≠ 0 by decide), if_neg hy0]
theorem cls_step (p : ByteArray) (f i : Nat) (s : BitVec 256) (first : Bool) (h : ¬ (first = false ∧ bt p i = 93)) : clsF p (f + 1) i s first = if (spanZ p i).2.2 ≠ 0 then none else clsF p f (spanZ p i).2.1 (s ||| (spanZ p i).1) false := by
 rw [clsF, if_neg h, span_eq]
 generalize itemZ p i = X
 simp only []
 by_cases h0 : X.2 = 0
 ·rw [if_pos h0, if_pos h0, if_pos (by decide)]
 ·rw [if_neg h0, if_neg h0]
  by_cases h45 : bt p X.2 = 45
  ·rw [if_pos h45, if_neg (show ¬ bt p X.2 ≠ 45 from fun h => h h45)]
   generalize itemZ p (X.2 + 1) = Y
   by_cases hy0 : Y.2 = 0
   ·rw [if_pos (.inl hy0), if_pos hy0, if_pos (by decide)]
   ·rw [if_neg hy0]
    by_cases hc : lenS X.1 ≠ 1 ∨ lenS Y.1 ≠ 1 ∨ minS Y.1 < minS X.1
    ·rw [if_pos (.inr hc), if_pos hc, if_pos (by decide)]
    ·rw [if_neg (show ¬ (Y.2 = 0 ∨ lenS X.1 ≠ 1 ∨ lenS Y.1 ≠ 1 ∨ minS Y.1 < minS X.1) from fun h => h.elim hy0 hc), if_neg hc, if_neg (show ¬ (0 : Int) ≠ 0 by decide), or_eq]
  ·rw [if_neg h45, if_pos h45, if_neg (show ¬ (0 : Int) ≠ 0 by decide), or_eq]
theorem cls_end (p : ByteArray) (f i : Nat) (s : BitVec 256) (h : bt p i = 93) : clsF p (f + 1) i s false = some (s, i) := by rw [clsF, if_pos ⟨rfl, h⟩]
theorem span_up (p : ByteArray) (i : Nat) : spanZ p i = (0#256, 0, 3) ∨ ((spanZ p i).2.2 = 0 ∧ i + 1 ≤ (spanZ p i).2.1 ∧ (spanZ p i).2.1 ≤ p.size) := by
 have h1 := end_up p i
 have h2 := end_up p ((endZ p i).2.1 + 1)
 unfold spanZ
 split
 ·exact .inl rfl
 ·rename_i h0
  have h1' : (endZ p i).2.2 = 0 ∧ i + 1 ≤ (endZ p i).2.1 ∧ (endZ p i).2.1 ≤ p.size := by
   rcases h1 with h | h
   ·rw [h] at h0; simp at h0
   ·exact h
  split
  ·exact .inr h1'
  ·split
   ·exact .inl rfl
   ·rename_i h3
    have h2' := h2.resolve_left (fun h => by rw [h] at h3; simp at h3)
    split
    ·exact .inl rfl
    ·exact .inr ⟨rfl, by simp only []; omega, h2'.2.2⟩
theorem span_no (p : ByteArray) (i : Nat) (h : p.size ≤ i ∨ bt p i = 93) : spanZ p i = (0#256, 0, 3) := by
 have := end_no (p := p) (i := i) (by rcases h with h | h; exact .inl h; exact .inr (by simp [h]))
 unfold spanZ
 rw [this, if_pos (by simp)]
def ClsI (p : ByteArray) (a k : Nat) (S : BitVec 256) : Prop := a ≤ k ∧ ∃ f, p.size + 1 ≤ f + k ∧ clsF p (p.size + 1) a 0#256 true = clsF p f k S (decide (k = a))
theorem cls_0 (p : ByteArray) (a : Nat) : ClsI p a a 0#256 := ⟨Nat.le_refl _, p.size + 1, by omega, by rw [decide_eq_true rfl]⟩
section
variable {p : ByteArray} {a k : Nat} {S : BitVec 256}
theorem cls_bad (hI : ClsI p a k S) (hk : k ≤ p.size) (h : bt p k ≠ 93 ∨ k = a) (hs : (spanZ p k).2.2 ≠ 0) : clsF p (p.size + 1) a 0#256 true = none := by
 obtain ⟨-, f, hf, he⟩ := hI
 obtain ⟨f, rfl⟩ : ∃ g, f = g + 1 := ⟨f - 1, by omega⟩
 rw [he, cls_step _ _ _ _ _ (by rintro ⟨h1, h2⟩; rcases h with h | h; exact h h2; rw [decide_eq_true h] at h1; cases h1), if_pos hs]
theorem cls_next (hI : ClsI p a k S) (hk : k ≤ p.size) (h : bt p k ≠ 93) (hs : (spanZ p k).2.2 = 0) : ClsI p a (spanZ p k).2.1 (S ||| (spanZ p k).1) := by
 obtain ⟨ha, f, hf, he⟩ := hI
 obtain ⟨f, rfl⟩ : ∃ g, f = g + 1 := ⟨f - 1, by omega⟩
 have hu := (span_up p k).resolve_left (fun h => by rw [h] at hs; simp at hs)
 refine ⟨by omega, f, by omega, ?_⟩
 rw [he, cls_step _ _ _ _ _ (fun h2 => h h2.2), if_neg (by simp [hs]), decide_eq_false (by omega)]
theorem cls_done (hI : ClsI p a k S) (hk : k ≤ p.size) (h : bt p k = 93) (hne : k ≠ a) : clsF p (p.size + 1) a 0#256 true = some (S, k) := by
 obtain ⟨-, f, hf, he⟩ := hI
 obtain ⟨f, rfl⟩ : ∃ g, f = g + 1 := ⟨f - 1, by omega⟩
 rw [he, decide_eq_false hne, cls_end _ _ _ _ h]
end
def clsR (oth : Bool) : Option (BitVec 256 × Nat) → BitVec 256 × Nat × Int
 | none => (0#256, 0, 3)
 | some x => (bif oth then ~~~x.1 else x.1, x.2 + 1, 0)
theorem class_eq {p : ByteArray} {i : Nat} (hi : i < p.size) (h : bt p i = 91) : classZ p i = clsR (bt p (i + 1) == 94) (clsF p (p.size + 1) (if bt p (i + 1) = 94 then i + 2 else i + 1) 0#256 true) := by
 unfold classZ
 rw [if_neg (by omega)]
 split
 ·rename_i h1; rw [h1]; rfl
 ·rename_i x h1
  rw [h1]
  show _ = (bif (bt p (i + 1) == 94) then ~~~x.1 else x.1, x.2 + 1, 0)
  by_cases h94 : bt p (i + 1) = 94
  ·rw [if_pos h94, beq_iff_eq.2 h94, cond_true, not_eq]
  ·rw [if_neg h94, beq_eq_false_iff_ne.2 h94, cond_false]
end Go.Proofs.YteggpecbeagohaaGreatDoor
namespace Go.Proofs.YteggpecbeagohaaGreatDoor
open Go.RowKit
set_option maxRecDepth 20000 in
set_option maxHeartbeats 8000000 in
theorem class_own (hE : ErrsOk) (p : ByteArray) (i : Nat) (w : World) (hp : p.size ≤ 1000000) (hi : i < p.size) (h91 : bt p i = 91) (h94 : (bt p (i + 1) == 94) = false) (hw : ErrW w) (ht : TabOk w) : Calls Tryz.prog 49 #[.string p, .int .i64 (i : Int)] w fun e w' => e = .returned (.tuple #[setV (clsR false (clsF p (p.size + 1) (i + 1) 0#256 true)).1, .int .i64 ((clsR false (clsF p (p.size + 1) (i + 1) 0#256 true)).2.1 : Nat), .int .i64 (clsR false (clsF p (p.size + 1) (i + 1) 0#256 true)).2.2]) ∧ Below w.heap.size w w' := by
 have hb : bt p i = (p[i]'hi).toNat := bt_at hi
 have q1 : ((p[i]'hi).toNat : Int) = 91 := by omega
 have q2 : ¬ (i : Int) < 0 := by omega
 have q3 : ¬ (p.size : Int) ≤ (i : Int) := by omega
 have q4 : (i : Int) + 1 ≤ (p.size : Int) := by omega
 have HP := Lib.hid (fun w => prefix_any (p.extract (i + 1) p.size) ⟨#[94]⟩ [94] w rfl)
 rw [head_ext (by omega), show headB p (i + 1 + 0) [94] = (bt p (i + 1) == 94) by simp [headB], h94] at HP
 have HI := Lib.hid (fun k hk w h h2 => itemAt_any hE p k w hp hk h h2)
 have HW := Lib.hid hw
 have HT := Lib.hid ht
 have h0 := cls_0 p (i + 1)
 obtain ⟨C, hC⟩ : ∃ C, C = clsF p (p.size + 1) (i + 1) 0#256 true := ⟨_, rfl⟩
 rw [← hC]
 have HC := Lib.hid hC
 have hi0 : i + 1 ≤ p.size := by omega
 have ha : ((i + 1 : Nat) : Int) = (i : Int) + 1 := by omega
 have HA := Lib.hid ha
 have HAp := Lib.hid hi0
 clear hC hb h91 h94 hE hw ht hi0 ha
 revert h0 HC HA HAp
 generalize i + 1 = a
 intro h0 HC HA HAp
 have H0 := Lib.hid h0
 clear h0
 go_enter Tryz.func49, Tryz.ntmps49
 go_wp2_with fail
 with_reducible refine (HP.out _).mono ?_
 rintro e w1 ⟨rfl, rfl⟩
 go_wp2_with fail
 have HH := Lib.hid (show Hold w ((w.alloc (.cells #[.int .u64 0, .int .u64 0, .int .u64 0, .int .u64 0] 74)).alloc (.cells #[.int .u64 0, .int .u64 0, .int .u64 0, .int .u64 0] 74)) (w.heap.size + 1) 0#256 from ⟨Box.zero (heap_alloc2_new _ _ _), (Box.zero (heap_alloc_new _ _)).alloc _, below2 w _ _⟩)
 go_loopw [1] (fun s1 wr => ∃ (k : Nat) (S : BitVec 256), s1 = .int .i64 k ∧ k ≤ p.size ∧ ClsI p a k S ∧ Hold w wr (w.heap.size + 1) S) (fun s1 _ => p.size - (intOf s1).toNat)
 case atStart => exact ⟨a, 0#256, by rw [HA.out], HAp.out, H0.out, HH.out⟩
 case round =>
  obtain ⟨k, S, rfl, hk, hI, hH⟩ := hrel
  have HCI := Lib.hid hI
  have HH2 := Lib.hid hH
  have hne0 := hH.box.lt
  clear hI hH HH H0
  have HAk := Lib.hid (show k = a ↔ (k : Int) = (i : Int) + 1 by rw [← HA.out]; omega)
  obtain ⟨d0, d1, d2, d3⟩ := HH2.out.box.cells
  obtain ⟨z0, z1, z2, z3⟩ := HH2.out.zero.cells
  have zf := HH2.out.zero.free
  have df := HH2.out.box.free
  clear hne0
  by_cases hlt : k < p.size
  ·have r1 : (k : Int) < (p.size : Int) := by omega
   have hbk : bt p k = (p[k]'hlt).toNat := bt_at hlt
   have r3 : ¬ (k : Int) = (p.size : Int) := by omega
   by_cases h93 : bt p k = 93
   ·have r2 : ((p[k]'hlt).toNat : Int) = 93 := by omega
    by_cases hka : k = a
    ·have HN := Lib.hid (cls_bad HCI.out hk (.inr hka) (by rw [span_no p k (.inr h93)]; decide))
     have hki : k = i + 1 := by have := HAk.out.1 hka; omega
     clear hka hbk h93 HAk HCI
     subst hki
     go_wp2_with fail
     have hZ := HH2.out.zero.set 0#256
     have hZb := below_setW HH2.out.below (Nat.le_refl _) 0#256
     simp only [setW, W_zero] at hZ hZb
     refine bodyPost_ret (resS3 (p := 4) (u := 5) (u2 := 6) (S := 0#256) (v := .int .i64 0) (v2 := .int .i64 3) rfl _ (g := w.heap.size) rfl rfl rfl hZ) rfl ⟨?_, hZb⟩
     rw [HC.out, HN.out]
     rfl
    ·have HN := Lib.hid (cls_done HCI.out hk h93 hka)
     have r4 : ¬ (k : Int) = (i : Int) + 1 := fun h => hka (HAk.out.2 h)
     have r5 : ((k : Int) == (i : Int) + 1) = false := beq_eq_false_iff_ne.2 r4
     have r6 : ¬ k = i + 1 := by omega
     clear hka hbk h93
     go_wp2_with fail
     refine bodyPost_ret (resS3 (p := 4) (u := 5) (u2 := 6) (S := S) (v := .int .i64 ((k : Int) + 1)) (v2 := .int .i64 0) rfl _ (g := w.heap.size) rfl rfl rfl (HH2.out.zero.set S)) rfl ⟨?_, below_setW HH2.out.below (Nat.le_refl _) _⟩
     rw [HC.out, HN.out]
     rfl
   ·have r2 : ¬ ((p[k]'hlt).toNat : Int) = 93 := by omega
    have HIt := Lib.hid (fun w h h2 => HI.out k hk w h h2)
    have HBad := Lib.hid (fun h => cls_bad HCI.out hk (.inl h93) h)
    have HNext := Lib.hid (fun h => cls_next HCI.out hk h93 h)
    have HUp := Lib.hid (span_up p k)
    clear hbk h93
    revert HIt HBad HNext HUp
    generalize spanZ p k = X
    intro HIt HBad HNext HUp
    obtain ⟨Z, b, e⟩ := X
    simp only [] at HIt HBad HNext HUp
    by_cases he : e = 0
    ·subst he
     have HN := Lib.hid (HNext.out rfl)
     have hub : k + 1 ≤ b ∧ b ≤ p.size := by
      rcases HUp.out with h | h
      ·cases h
      ·exact h.2
     have HO := Lib.hid (fun w => or_any S Z w)
     clear HBad HNext HUp
     go_wp2_with fail
     with_reducible refine (HIt.out _ (HW.out.call HH2.out.below) (HT.out.call HH2.out.below)).mono ?_
     rintro x w2 ⟨rfl, hb⟩
     have HH3 := Lib.hid (HH2.out.call hb)
     clear hb
     have y0 := fun o => (HH3.out.alloc o).box.cells.1
     have y1 := fun o => (HH3.out.alloc o).box.cells.2.1
     have y2 := fun o => (HH3.out.alloc o).box.cells.2.2.1
     have y3 := fun o => (HH3.out.alloc o).box.cells.2.2.2
     go_wp2_with fail
     with_reducible refine (HO.out _).mono ?_
     rintro x w3 ⟨rfl, hb⟩
     have HH4 := Lib.hid ((HH3.out.alloc _).call hb)
     clear hb
     obtain ⟨x0, x1, x2, x3⟩ := HH4.out.box.cells
     have xf := HH4.out.box.free
     go_wp2_with fail
     go_roundw
     case rel => exact ⟨b, S ||| Z, rfl, hub.2, HN.out, ⟨HH4.out.box.set _, HH4.out.zero.others _ (by omega), below_setW HH4.out.below (by omega) _⟩⟩
     case measure => simp [intOf]; omega
    ·have HN := Lib.hid (HBad.out he)
     have h3 : e = 3 := by
      rcases HUp.out with h | h
      ·exact congrArg (fun x => x.2.2) h
      ·exact absurd h.1 he
     subst h3
     clear HBad HNext HUp he
     go_wp2_with fail
     with_reducible refine (HIt.out _ (HW.out.call HH2.out.below) (HT.out.call HH2.out.below)).mono ?_
     rintro x w2 ⟨rfl, hb⟩
     have HH3 := Lib.hid (HH2.out.call hb)
     clear hb
     have y0 := fun o => (HH3.out.alloc o).zero.cells.1
     have y1 := fun o => (HH3.out.alloc o).zero.cells.2.1
     have y2 := fun o => (HH3.out.alloc o).zero.cells.2.2.1
     have y3 := fun o => (HH3.out.alloc o).zero.cells.2.2.2
     have yf := fun o => (HH3.out.alloc o).zero.free
     go_wp2_with fail
     have hZ := (HH3.out.alloc (.cells #[.int .u64 (W Z 0), .int .u64 (W Z 1), .int .u64 (W Z 2), .int .u64 (W Z 3)] 74)).zero.set 0#256
     have hZb := below_setW (HH3.out.alloc (.cells #[.int .u64 (W Z 0), .int .u64 (W Z 1), .int .u64 (W Z 2), .int .u64 (W Z 3)] 74)).below (Nat.le_refl _) 0#256
     simp only [setW, W_zero] at hZ hZb
     refine bodyPost_ret (resS3 (p := 4) (u := 5) (u2 := 6) (S := 0#256) (v := .int .i64 0) (v2 := .int .i64 3) rfl _ (g := w.heap.size) rfl rfl rfl hZ) rfl ⟨?_, hZb⟩
     rw [HC.out, HN.out]
     rfl
  ·have hks : k = p.size := by omega
   have HN := Lib.hid (cls_bad HCI.out hk (.inl (by rw [bt_no (by omega)]; decide)) (by rw [span_no p k (.inl (by omega))]; decide))
   clear HAk HCI hlt
   subst hks
   go_wp2_with fail
   have hZ := HH2.out.zero.set 0#256
   have hZb := below_setW HH2.out.below (Nat.le_refl _) 0#256
   simp only [setW, W_zero] at hZ hZb
   refine bodyPost_ret (resS3 (p := 4) (u := 5) (u2 := 6) (S := 0#256) (v := .int .i64 0) (v2 := .int .i64 3) rfl _ (g := w.heap.size) rfl rfl rfl hZ) rfl ⟨?_, hZb⟩
   rw [HC.out, HN.out]
   rfl
set_option maxRecDepth 20000 in
set_option maxHeartbeats 8000000 in
theorem class_oth (hE : ErrsOk) (p : ByteArray) (i : Nat) (w : World) (hp : p.size ≤ 1000000) (hi : i < p.size) (h91 : bt p i = 91) (h94 : (bt p (i + 1) == 94) = true) (hw : ErrW w) (ht : TabOk w) : Calls Tryz.prog 49 #[.string p, .int .i64 (i : Int)] w fun e w' => e = .returned (.tuple #[setV (clsR true (clsF p (p.size + 1) (i + 2) 0#256 true)).1, .int .i64 ((clsR true (clsF p (p.size + 1) (i + 2) 0#256 true)).2.1 : Nat), .int .i64 (clsR true (clsF p (p.size + 1) (i + 2) 0#256 true)).2.2]) ∧ Below w.heap.size w w' := by
 have hb : bt p i = (p[i]'hi).toNat := bt_at hi
 have q1 : ((p[i]'hi).toNat : Int) = 91 := by omega
 have q2 : ¬ (i : Int) < 0 := by omega
 have q3 : ¬ (p.size : Int) ≤ (i : Int) := by omega
 have q4 : (i : Int) + 1 ≤ (p.size : Int) := by omega
 have HP := Lib.hid (fun w => prefix_any (p.extract (i + 1) p.size) ⟨#[94]⟩ [94] w rfl)
 rw [head_ext (by omega), show headB p (i + 1 + 0) [94] = (bt p (i + 1) == 94) by simp [headB], h94] at HP
 have HI := Lib.hid (fun k hk w h h2 => itemAt_any hE p k w hp hk h h2)
 have HW := Lib.hid hw
 have HT := Lib.hid ht
 have h0 := cls_0 p (i + 2)
 obtain ⟨C, hC⟩ : ∃ C, C = clsF p (p.size + 1) (i + 2) 0#256 true := ⟨_, rfl⟩
 rw [← hC]
 have HC := Lib.hid hC
 have hi0 : i + 2 ≤ p.size := by have := bt_in (p := p) (i := i + 1) (by simp at h94; omega); omega
 have ha : ((i + 2 : Nat) : Int) = (i : Int) + 1 + 1 := by omega
 have HA := Lib.hid ha
 have HAp := Lib.hid hi0
 clear hC hb h91 h94 hE hw ht hi0 ha
 revert h0 HC HA HAp
 generalize i + 2 = a
 intro h0 HC HA HAp
 have H0 := Lib.hid h0
 clear h0
 go_enter Tryz.func49, Tryz.ntmps49
 go_wp2_with fail
 with_reducible refine (HP.out _).mono ?_
 rintro e w1 ⟨rfl, rfl⟩
 go_wp2_with fail
 have HH := Lib.hid (show Hold w ((w.alloc (.cells #[.int .u64 0, .int .u64 0, .int .u64 0, .int .u64 0] 74)).alloc (.cells #[.int .u64 0, .int .u64 0, .int .u64 0, .int .u64 0] 74)) (w.heap.size + 1) 0#256 from ⟨Box.zero (heap_alloc2_new _ _ _), (Box.zero (heap_alloc_new _ _)).alloc _, below2 w _ _⟩)
 go_loopw [1] (fun s1 wr => ∃ (k : Nat) (S : BitVec 256), s1 = .int .i64 k ∧ k ≤ p.size ∧ ClsI p a k S ∧ Hold w wr (w.heap.size + 1) S) (fun s1 _ => p.size - (intOf s1).toNat)
 case atStart => exact ⟨a, 0#256, by rw [HA.out], HAp.out, H0.out, HH.out⟩
 case round =>
  obtain ⟨k, S, rfl, hk, hI, hH⟩ := hrel
  have HCI := Lib.hid hI
  have HH2 := Lib.hid hH
  have hne0 := hH.box.lt
  clear hI hH HH H0
  have HAk := Lib.hid (show k = a ↔ (k : Int) = (i : Int) + 1 + 1 by rw [← HA.out]; omega)
  obtain ⟨d0, d1, d2, d3⟩ := HH2.out.box.cells
  obtain ⟨z0, z1, z2, z3⟩ := HH2.out.zero.cells
  have zf := HH2.out.zero.free
  have df := HH2.out.box.free
  clear hne0
  by_cases hlt : k < p.size
  ·have r1 : (k : Int) < (p.size : Int) := by omega
   have hbk : bt p k = (p[k]'hlt).toNat := bt_at hlt
   have r3 : ¬ (k : Int) = (p.size : Int) := by omega
   by_cases h93 : bt p k = 93
   ·have r2 : ((p[k]'hlt).toNat : Int) = 93 := by omega
    by_cases hka : k = a
    ·have HN := Lib.hid (cls_bad HCI.out hk (.inr hka) (by rw [span_no p k (.inr h93)]; decide))
     have hki : k = i + 1 + 1 := by have := HAk.out.1 hka; omega
     clear hka hbk h93 HAk HCI
     subst hki
     go_wp2_with fail
     have hZ := HH2.out.zero.set 0#256
     have hZb := below_setW HH2.out.below (Nat.le_refl _) 0#256
     simp only [setW, W_zero] at hZ hZb
     refine bodyPost_ret (resS3 (p := 4) (u := 5) (u2 := 6) (S := 0#256) (v := .int .i64 0) (v2 := .int .i64 3) rfl _ (g := w.heap.size) rfl rfl rfl hZ) rfl ⟨?_, hZb⟩
     rw [HC.out, HN.out]
     rfl
    ·have HN := Lib.hid (cls_done HCI.out hk h93 hka)
     have r4 : ¬ (k : Int) = (i : Int) + 1 + 1 := fun h => hka (HAk.out.2 h)
     have r5 : ((k : Int) == (i : Int) + 1 + 1) = false := beq_eq_false_iff_ne.2 r4
     have r6 : ¬ k = i + 1 + 1 := by omega
     clear hka hbk h93
     have HNt := Lib.hid (fun w => not_any S w)
     go_wp2_with fail
     with_reducible refine (HNt.out _).mono ?_
     rintro e w2 ⟨rfl, hb⟩
     have HH3 := Lib.hid (HH2.out.call hb)
     clear hb
     obtain ⟨x0, x1, x2, x3⟩ := HH3.out.box.cells
     obtain ⟨y0, y1, y2, y3⟩ := HH3.out.zero.cells
     have yf := HH3.out.zero.free
     have xf := HH3.out.box.free
     go_wp2_with fail
     have hz := HH3.out.zero.others (~~~S) (k := w.heap.size + 1) (by omega)
     have hzb := below_setW HH3.out.below (g := w.heap.size + 1) (by omega) (~~~S)
     refine bodyPost_ret (resS3 (p := 4) (u := 5) (u2 := 6) (S := ~~~S) (v := .int .i64 ((k : Int) + 1)) (v2 := .int .i64 0) rfl _ (g := w.heap.size) rfl rfl rfl (hz.set (~~~S))) rfl ⟨?_, below_setW hzb (Nat.le_refl _) _⟩
     rw [HC.out, HN.out]
     rfl
   ·have r2 : ¬ ((p[k]'hlt).toNat : Int) = 93 := by omega
    have HIt := Lib.hid (fun w h h2 => HI.out k hk w h h2)
    have HBad := Lib.hid (fun h => cls_bad HCI.out hk (.inl h93) h)
    have HNext := Lib.hid (fun h => cls_next HCI.out hk h93 h)
    have HUp := Lib.hid (span_up p k)
    clear hbk h93
    revert HIt HBad HNext HUp
    generalize spanZ p k = X
    intro HIt HBad HNext HUp
    obtain ⟨Z, b, e⟩ := X
    simp only [] at HIt HBad HNext HUp
    by_cases he : e = 0
    ·subst he
     have HN := Lib.hid (HNext.out rfl)
     have hub : k + 1 ≤ b ∧ b ≤ p.size := by
      rcases HUp.out with h | h
      ·cases h
      ·exact h.2
     have HO := Lib.hid (fun w => or_any S Z w)
     clear HBad HNext HUp
     go_wp2_with fail
     with_reducible refine (HIt.out _ (HW.out.call HH2.out.below) (HT.out.call HH2.out.below)).mono ?_
     rintro x w2 ⟨rfl, hb⟩
     have HH3 := Lib.hid (HH2.out.call hb)
     clear hb
     have y0 := fun o => (HH3.out.alloc o).box.cells.1
     have y1 := fun o => (HH3.out.alloc o).box.cells.2.1
     have y2 := fun o => (HH3.out.alloc o).box.cells.2.2.1
     have y3 := fun o => (HH3.out.alloc o).box.cells.2.2.2
     go_wp2_with fail
     with_reducible refine (HO.out _).mono ?_
     rintro x w3 ⟨rfl, hb⟩
     have HH4 := Lib.hid ((HH3.out.alloc _).call hb)
     clear hb
     obtain ⟨x0, x1, x2, x3⟩ := HH4.out.box.cells
     have xf := HH4.out.box.free
     go_wp2_with fail
     go_roundw
     case rel => exact ⟨b, S ||| Z, rfl, hub.2, HN.out, ⟨HH4.out.box.set _, HH4.out.zero.others _ (by omega), below_setW HH4.out.below (by omega) _⟩⟩
     case measure => simp [intOf]; omega
    ·have HN := Lib.hid (HBad.out he)
     have h3 : e = 3 := by
      rcases HUp.out with h | h
      ·exact congrArg (fun x => x.2.2) h
      ·exact absurd h.1 he
     subst h3
     clear HBad HNext HUp he
     go_wp2_with fail
     with_reducible refine (HIt.out _ (HW.out.call HH2.out.below) (HT.out.call HH2.out.below)).mono ?_
     rintro x w2 ⟨rfl, hb⟩
     have HH3 := Lib.hid (HH2.out.call hb)
     clear hb
     have y0 := fun o => (HH3.out.alloc o).zero.cells.1
     have y1 := fun o => (HH3.out.alloc o).zero.cells.2.1
     have y2 := fun o => (HH3.out.alloc o).zero.cells.2.2.1
     have y3 := fun o => (HH3.out.alloc o).zero.cells.2.2.2
     have yf := fun o => (HH3.out.alloc o).zero.free
     go_wp2_with fail
     have hZ := (HH3.out.alloc (.cells #[.int .u64 (W Z 0), .int .u64 (W Z 1), .int .u64 (W Z 2), .int .u64 (W Z 3)] 74)).zero.set 0#256
     have hZb := below_setW (HH3.out.alloc (.cells #[.int .u64 (W Z 0), .int .u64 (W Z 1), .int .u64 (W Z 2), .int .u64 (W Z 3)] 74)).below (Nat.le_refl _) 0#256
     simp only [setW, W_zero] at hZ hZb
     refine bodyPost_ret (resS3 (p := 4) (u := 5) (u2 := 6) (S := 0#256) (v := .int .i64 0) (v2 := .int .i64 3) rfl _ (g := w.heap.size) rfl rfl rfl hZ) rfl ⟨?_, hZb⟩
     rw [HC.out, HN.out]
     rfl
  ·have hks : k = p.size := by omega
   have HN := Lib.hid (cls_bad HCI.out hk (.inl (by rw [bt_no (by omega)]; decide)) (by rw [span_no p k (.inl (by omega))]; decide))
   clear HAk HCI hlt
   subst hks
   go_wp2_with fail
   have hZ := HH2.out.zero.set 0#256
   have hZb := below_setW HH2.out.below (Nat.le_refl _) 0#256
   simp only [setW, W_zero] at hZ hZb
   refine bodyPost_ret (resS3 (p := 4) (u := 5) (u2 := 6) (S := 0#256) (v := .int .i64 0) (v2 := .int .i64 3) rfl _ (g := w.heap.size) rfl rfl rfl hZ) rfl ⟨?_, hZb⟩
   rw [HC.out, HN.out]
   rfl
theorem class_any (hE : ErrsOk) (p : ByteArray) (i : Nat) (w : World) (hp : p.size ≤ 1000000) (hi : i < p.size) (h91 : bt p i = 91) (hw : ErrW w) (ht : TabOk w) : Calls Tryz.prog 49 #[.string p, .int .i64 (i : Int)] w fun e w' => e = .returned (.tuple #[setV (classZ p i).1, .int .i64 ((classZ p i).2.1 : Nat), .int .i64 (classZ p i).2.2]) ∧ Below w.heap.size w w' := by
 rw [class_eq hi h91]
 by_cases h94 : bt p (i + 1) = 94
 ·rw [if_pos h94, beq_iff_eq.2 h94]
  exact class_oth hE p i w hp hi h91 (beq_iff_eq.2 h94) hw ht
 ·rw [if_neg h94, beq_eq_false_iff_ne.2 h94]
  exact class_own hE p i w hp hi h91 (beq_eq_false_iff_ne.2 h94) hw ht
end Go.Proofs.YteggpecbeagohaaGreatDoor
