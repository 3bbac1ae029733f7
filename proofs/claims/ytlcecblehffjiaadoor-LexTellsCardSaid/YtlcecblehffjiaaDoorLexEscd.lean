/-
  Layer 6, the landed code: escaped.
-/
import Derived.Test.YtlcecblehffjiaaDoorLexNamed
namespace Go.Proofs.YtlcecblehffjiaaDoor
open Go.RowKit

def plainC : BitVec 256 := ~~~(foldS (span 97 123) ||| span 48 58)
theorem plain_eq (c : Nat) (h : c < 256) : mem plainC c = (decide (c = 95) || !mem wordS c) := by
  have H : ∀ c : Fin 256, mem plainC c.val = (decide (c.val = 95) || !mem wordS c.val) := by decide +kernel
  exact H ⟨c, h⟩
/-- What an escape's answer says of the document's. -/
def EscR (p : ByteArray) (i : Nat) (e : Ending) : Prop := ∃ S k b, e = .returned (.tuple #[setV S, .int .i64 ((k : Nat) : Int), .bool b]) ∧ k ≤ 3 ∧ (b = true → escZ p i = (S, i + 1 + k)) ∧ (b = false → escZ p i = (0#256, 0))
section
variable {p : ByteArray} {i : Nat}
theorem esc_no (h : p.size ≤ i + 1) : escZ p i = (0#256, 0) := by unfold escZ; rw [if_pos h]
theorem esc_named {S : BitVec 256} (h : ¬ p.size ≤ i + 1) (hn : nameS (bt p (i + 1)) = some S) : escZ p i = (S, i + 2) := by unfold escZ; rw [if_neg h, hn]
theorem esc_x (h : ¬ p.size ≤ i + 1) (hc : bt p (i + 1) = 120) : escZ p i = if i + 3 < p.size ∧ 0 ≤ hexZ (bt p (i + 2)) ∧ 0 ≤ hexZ (bt p (i + 3)) then (oneS (16 * hexZ (bt p (i + 2)) + hexZ (bt p (i + 3))).toNat, i + 4) else (0#256, 0) := by
  unfold escZ
  rw [if_neg h, hc]
  simp only [show nameS 120 = none from rfl]
  by_cases h2 : i + 3 < p.size ∧ 0 ≤ hexZ (bt p (i + 2)) ∧ 0 ≤ hexZ (bt p (i + 3))
  · rw [if_pos ⟨trivial, h2⟩, if_pos h2]
  · rw [if_neg (fun h => h2 h.2), if_neg h2, if_neg]
    have : mem wordS 120 = true := by decide +kernel
    rw [this]
    simp
theorem esc_plain (h : ¬ p.size ≤ i + 1) (hn : nameS (bt p (i + 1)) = none) (hx : bt p (i + 1) ≠ 120) (hb : bt p (i + 1) < 256) : escZ p i = if mem plainC (bt p (i + 1)) = true then (oneS (bt p (i + 1)), i + 2) else (0#256, 0) := by
  unfold escZ
  rw [if_neg h, hn, plain_eq _ hb]
  simp only []
  rw [if_neg (fun h => hx h.1)]
  congr 1
  simp
theorem two_ext (h : i + 2 ≤ p.size) : twoB (p.extract (i + 2) p.size) = decide (i + 3 < p.size ∧ 0 ≤ hexZ (bt p (i + 2)) ∧ 0 ≤ hexZ (bt p (i + 3))) := by
  unfold twoB
  rw [bt_ext _ h, bt_ext _ h, ext_size (Nat.le_refl _)]
  congr 1
  apply propext
  rw [Nat.add_zero, show i + 2 + 1 = i + 3 from rfl]
  omega
end
/-- A text's first byte, read. -/
theorem idx0_y {ops : Array Oper} {a : Act} {o : Oper} {x y : Operand} {S : World → Prop} (s : ByteArray) (h0 : 0 < s.size) (ho : o.op = .index 9 x y) (hx : a.eval x = .string s) (hy : a.eval y = .int .i64 0)
    (hw : Region.wanted o (yielded ops a.tmps) = true) : YieldsIf Tryd.prog ops S o (.int .u8 (((s[0]'h0).toNat : Nat) : Int)) a := by
  refine Or.inl ⟨hw, fun w _ => ?_⟩
  unfold execOp
  simp only [ho, hx, hy]
  rw [Sem.run_bind, run_index_string w 9 s .i64 0 Tryd.underlying9, dif_pos ⟨by decide, by omega⟩]
  rfl
set_option maxRecDepth 100000 in
set_option maxHeartbeats 8000000 in
theorem escaped_any (hE : ErrsOk) (p s : ByteArray) (i : Nat) (w : World) (hs : s = p.extract (i + 1) p.size) (hp : p.size ≤ 1000000) (hi : i < p.size) (hw : ErrW w) : Calls Tryd.prog 44 #[.string s] w fun e w' => EscR p i e ∧ Below w.heap.size w w' := by
  have hsz : s.size = p.size - (i + 1) := by rw [hs]; exact ext_size (Nat.le_refl _)
  by_cases h1 : p.size ≤ i + 1
  · have he := esc_no h1
    have hem0 := str_empty (s := s) (by omega)
    clear hs
    subst hem0
    have hR : EscR p i (.returned (.tuple #[setV 0#256, .int .i64 0, .bool false])) := ⟨0#256, 0, false, rfl, by omega, (fun h => by cases h), fun _ => he⟩
    have HR := Lib.hid hR
    clear hsz he hR hE hw h1
    have hem : (ByteArray.empty.toList == []) = true := by rw [ByteArray.toList_eq]; rfl
    go_enter Tryd.func44, Tryd.ntmps44
    go_wp2_with fail
    have hZ : Box (World.alloc w (.cells #[.int .u64 0, .int .u64 0, .int .u64 0, .int .u64 0] 36)) w.heap.size 0#256 := Box.zero (heap_alloc_new _ _)
    exact bodyPost_ret (resS3 (p := 2) (u := 3) (u2 := 4) (S := 0#256) (v := .int .i64 0) (v2 := .bool false) rfl _ (g := w.heap.size) rfl rfl rfl hZ) rfl ⟨HR.out, (Below.refl _ w).alloc (Nat.le_refl _) _⟩
  · have hne := str_ne (s := s) (by omega)
    have h0 : 0 < s.size := by omega
    have hbs : ∀ j, bt s j = bt p (i + 1 + j) := fun j => by rw [hs, bt_ext _ (by omega)]
    have hb : bt p (i + 1) = (s[0]'h0).toNat := by rw [← bt_at h0, hbs]
    have h256 : bt p (i + 1) < 256 := by rw [hb]; exact (s[0]'h0).toNat_lt
    have HW := Lib.hid hw
    by_cases hx : bt p (i + 1) = 120
    · have q : ((s[0]'h0).toNat : Int) = 120 := by omega
      have q2 : (1 : Int) ≤ (s.size : Int) := by omega
      have hx2 : s.extract 1 s.size = p.extract (i + 2) p.size := by rw [hsz, hs, ByteArray.extract_extract]; congr 1; omega
      have HT := Lib.hid (fun w h => two_any hE (s.extract 1 s.size) w (by rw [hx2, ext_size (Nat.le_refl _)]; omega) h)
      have hr : ∀ S, (twoB (s.extract 1 s.size) = true → S = oneS (16 * hexZ (bt (s.extract 1 s.size) 0) + hexZ (bt (s.extract 1 s.size) 1)).toNat) → EscR p i (.returned (.tuple #[setV S, .int .i64 3, .bool (twoB (s.extract 1 s.size))])) := fun S hS => by
        rw [hx2] at hS ⊢
        refine ⟨S, 3, twoB (p.extract (i + 2) p.size), rfl, Nat.le_refl _, fun h => ?_, fun h => ?_⟩
        · have h' := h
          rw [two_ext (by omega)] at h'
          rw [esc_x h1 hx, if_pos (of_decide_eq_true h'), hS h, bt_ext _ (by omega), bt_ext _ (by omega)]
        · rw [two_ext (by omega)] at h
          rw [esc_x h1 hx, if_neg (of_decide_eq_false h)]
      revert HT hr
      generalize hexZ (bt (s.extract 1 s.size) 0) = x
      generalize hexZ (bt (s.extract 1 s.size) 1) = y
      generalize twoB (s.extract 1 s.size) = b
      intro HT hr
      have HR := Lib.hid hr
      clear hr hb hx h1 hE hw h256 hx2 hbs hsz hs
      go_enter Tryd.func44, Tryd.ntmps44
      go_wp2_with fail
      refine (HT.out _ (HW.out.alloc _)).mono ?_
      rintro e w1 ⟨⟨S, rfl, hS⟩, hb1⟩
      have HR2 := Lib.hid (HR.out S hS)
      obtain ⟨hc, hf⟩ := bcell hb1
      have HB1 := Lib.hid hb1
      have HZ := Lib.hid (Box.call (Box.zero (heap_alloc_new _ _)) hb1)
      have z0 := fun o => (HZ.out.alloc o).cells.1
      have z1 := fun o => (HZ.out.alloc o).cells.2.1
      have z2 := fun o => (HZ.out.alloc o).cells.2.2.1
      have z3 := fun o => (HZ.out.alloc o).cells.2.2.2
      have zf := fun o => (HZ.out.alloc o).free
      clear hb1 hS
      go_wp2_with fail
      refine bodyPost_ret (resS3 (p := 2) (u := 3) (u2 := 4) (S := S) (v := .int .i64 3) (v2 := .bool b) rfl _ (g := w.heap.size) rfl rfl rfl ((HZ.out.alloc _).set _)) rfl ⟨HR2.out, ?_⟩
      exact below_setW ((((Below.refl _ w).alloc (Nat.le_refl _) _).trans (HB1.out.mono (by simp))).alloc (Nat.le_of_lt HZ.out.lt) _) (Nat.le_refl _) _
    · have q : ¬ ((s[0]'h0).toNat : Int) = 120 := by omega
      have HNm := Lib.hid (fun w => named_any (s[0]'h0).toNat w (s[0]'h0).toNat_lt)
      rw [← hb] at HNm
      cases hn : nameS (bt p (i + 1)) with
      | some S =>
        have he := esc_named h1 hn
        rw [hn] at HNm
        rw [hb] at HNm
        have HR := Lib.hid (show EscR p i (.returned (.tuple #[setV S, .int .i64 1, .bool true])) from ⟨S, 1, true, rfl, by omega, fun _ => he, (fun h => by cases h)⟩)
        clear he hn hbs hb h256 hx h1 hE hw hsz hs
        go_enter Tryd.func44, Tryd.ntmps44
        go_wp2_with fail
        refine (HNm.out _).mono ?_
        rintro e w1 ⟨rfl, hb1⟩
        obtain ⟨hc, hf⟩ := bcell hb1
        have HB1 := Lib.hid hb1
        have HZ := Lib.hid (Box.call (Box.zero (heap_alloc_new _ _)) hb1)
        have z0 := fun o => (HZ.out.alloc o).cells.1
        have z1 := fun o => (HZ.out.alloc o).cells.2.1
        have z2 := fun o => (HZ.out.alloc o).cells.2.2.1
        have z3 := fun o => (HZ.out.alloc o).cells.2.2.2
        have zf := fun o => (HZ.out.alloc o).free
        clear hb1
        go_wp2_with fail
        refine bodyPost_ret (resS3 (p := 2) (u := 3) (u2 := 4) (S := S) (v := .int .i64 1) (v2 := .bool true) rfl _ (g := w.heap.size) rfl rfl rfl ((HZ.out.alloc _).set _)) rfl ⟨HR.out, ?_⟩
        exact below_setW ((((Below.refl _ w).alloc (Nat.le_refl _) _).trans (HB1.out.mono (by simp))).alloc (Nat.le_of_lt HZ.out.lt) _) (Nat.le_refl _) _
      | none =>
        have he := esc_plain h1 hn hx h256
        rw [hn] at HNm
        rw [show (none : Option (BitVec 256)).isSome = false from rfl] at HNm
        generalize (none : Option (BitVec 256)).getD 0#256 = N0 at HNm
        have hr : EscR p i (.returned (.tuple #[setV (oneS (bt p (i + 1))), .int .i64 1, .bool (mem plainC (bt p (i + 1)))])) := by
          refine ⟨oneS (bt p (i + 1)), 1, _, rfl, by omega, fun h => ?_, fun h => ?_⟩
          · rw [he, if_pos h]
          · rw [he, if_neg (by rw [h]; decide)]
        have HOn := Lib.hid (fun w => one_any ((bt p (i + 1) : Nat) : Int) w (by omega) (by omega))
        rw [show ((bt p (i + 1) : Nat) : Int).toNat = bt p (i + 1) from rfl, one_eq h256] at HOn
        have HHs := Lib.hid (fun w => has_any plainC ((bt p (i + 1) : Nat) : Int) w (by omega) (by omega))
        rw [show ((bt p (i + 1) : Nat) : Int).toNat = bt p (i + 1) from rfl] at HHs
        revert hr HOn HHs
        generalize oneS (bt p (i + 1)) = O
        generalize mem plainC (bt p (i + 1)) = m
        intro hr HOn HHs
        rw [hb] at HNm HOn HHs
        have HR := Lib.hid hr
        clear he hr hn hbs hb h256 hx h1 hE hw hsz hs
        have HR1 := Lib.hid (fun w => range_any 48 57 w (by decide) (by decide) (by decide) (by decide))
        have HR2 := Lib.hid (fun w => range_any 97 122 w (by decide) (by decide) (by decide) (by decide))
        have HF := Lib.hid (fun w => fold_any (span 97 123) w)
        have HO1 := Lib.hid (fun w => or_any (foldS (span 97 123)) (span 48 58) w)
        have HNt := Lib.hid (fun w => not_any (foldS (span 97 123) ||| span 48 58) w)
        rw [show span (48 : Int).toNat ((57 : Int).toNat + 1) = span 48 58 from rfl] at HR1
        rw [show span (97 : Int).toNat ((122 : Int).toNat + 1) = span 97 123 from rfl] at HR2
        rw [show ~~~(foldS (span 97 123) ||| span 48 58) = plainC from rfl] at HNt
        revert HHs HR1 HR2 HF HO1 HNt
        generalize foldS (span 97 123) ||| span 48 58 = G
        generalize foldS (span 97 123) = F
        generalize span 97 123 = A
        generalize span 48 58 = D
        generalize plainC = P
        intro HHs HR1 HR2 HF HO1 HNt
        go_enter Tryd.func44, Tryd.ntmps44
        go_wp2_with fail
        refine (HNm.out _).mono ?_
        rintro e w1 ⟨rfl, hb1⟩
        have HB1 := Lib.hid (((Below.refl _ w).alloc (Nat.le_refl _) _).trans (hb1.mono (by simp)))
        have HZ := Lib.hid (Box.call (Box.zero (heap_alloc_new _ _)) hb1)
        clear hb1
        go_wp2_with fail
        have HH := Lib.hid (show Hold w (w1.alloc (.cells #[.int .u64 (W N0 0), .int .u64 (W N0 1), .int .u64 (W N0 2), .int .u64 (W N0 3)] 36)) w1.heap.size N0 from ⟨Box.new _ _, HZ.out.alloc _, HB1.out.alloc HB1.out.size _⟩)
        refine (HR2.out _).mono ?_
        rintro e w2 ⟨rfl, hb2⟩
        have HH := Lib.hid (HH.out.call hb2)
        clear hb2
        go_wp2_with fail
        refine (HF.out _).mono ?_
        rintro e w3 ⟨rfl, hb3⟩
        have HH := Lib.hid (HH.out.call hb3)
        clear hb3
        go_wp2_with fail
        refine (HR1.out _).mono ?_
        rintro e w4 ⟨rfl, hb4⟩
        have HH := Lib.hid (HH.out.call hb4)
        clear hb4
        go_wp2_with fail
        refine (HO1.out _).mono ?_
        rintro e w5 ⟨rfl, hb5⟩
        have HH := Lib.hid (HH.out.call hb5)
        clear hb5
        go_wp2_with fail
        refine (HNt.out _).mono ?_
        rintro e w6 ⟨rfl, hb6⟩
        have HH := Lib.hid (HH.out.call hb6)
        clear hb6
        go_wp2_with fail
        have hX := (show Hold w (w6.alloc (.cells #[.int .u64 (W P 0), .int .u64 (W P 1), .int .u64 (W P 2), .int .u64 (W P 3)] 36)) w6.heap.size P from ⟨Box.new _ _, HH.out.zero.alloc _, HH.out.below.alloc HH.out.below.size _⟩).drew
        have hz0 := hX.zero
        have hS0 : Box (World.drew (w6.alloc (.cells #[.int .u64 (W P 0), .int .u64 (W P 1), .int .u64 (W P 2), .int .u64 (W P 3)] 36))) w6.heap.size P ∧ Below w.heap.size w (World.drew (w6.alloc (.cells #[.int .u64 (W P 0), .int .u64 (W P 1), .int .u64 (W P 2), .int .u64 (W P 3)] 36))) := ⟨hX.box, hX.below⟩
        have hlt := HH.out.zero.lt
        refine wp_region_held_drew (S := fun u => Box u w6.heap.size P ∧ Below w.heap.size w u) (by kernel_rfl) hS0 (fun _ => ?_)
        generalize World.drew (World.alloc w6 _) = u0 at hS0 hz0 ⊢
        clear hX
        refine takeAt 0 37 (.string s) rfl rfl (by kernel_rfl) (by kernel_rfl) (by kernel_rfl) (fun _ _ _ h => h) (yields (by rfl) (fun w => by kernel_rfl)) hS0 ?_
        simp only [Act.put, List.setIfInBounds_toArray, List.set_cons_zero, List.set_cons_succ]
        refine takeAt 1 38 (.int .u8 (((s[0]'h0).toNat : Nat) : Int)) rfl rfl (by kernel_rfl) (by kernel_rfl) (by kernel_rfl) (fun _ _ _ h => h) (idx0_y s h0 rfl rfl rfl (by rfl)) hS0 ?_
        simp only [Act.put, List.setIfInBounds_toArray, List.set_cons_zero, List.set_cons_succ]
        refine takeAt 3 40 (setV P) rfl rfl (by kernel_rfl) (by kernel_rfl) (by kernel_rfl) (fun _ _ _ h => h) (loadB_yields w6.heap.size P rfl rfl (fun _ h => h.1) (by rfl)) hS0 ?_
        simp only [Act.put, List.setIfInBounds_toArray, List.set_cons_zero, List.set_cons_succ]
        refine takeAt 4 41 (.string s) rfl rfl (by kernel_rfl) (by kernel_rfl) (by kernel_rfl) (fun _ _ _ h => h) (yields (by rfl) (fun w => by kernel_rfl)) hS0 ?_
        simp only [Act.put, List.setIfInBounds_toArray, List.set_cons_zero, List.set_cons_succ]
        refine takeAt 5 42 (.int .u8 (((s[0]'h0).toNat : Nat) : Int)) rfl rfl (by kernel_rfl) (by kernel_rfl) (by kernel_rfl) (fun _ _ _ h => h) (idx0_y s h0 rfl rfl rfl (by rfl)) hS0 ?_
        simp only [Act.put, List.setIfInBounds_toArray, List.set_cons_zero, List.set_cons_succ]
        refine callAt 2 39 rfl rfl (by kernel_rfl) (by rfl) (by kernel_rfl) (HOn.out _) ?_
        rintro e u1 ⟨rfl, hb⟩
        have hS1 : Box u1 w6.heap.size P ∧ Below w.heap.size w u1 := ⟨hS0.1.call hb, thenB hS0.2 hb hS0.2.size⟩
        have hz1 := Box.call hz0 hb
        clear hb
        refine ⟨_, rfl, hS1, ?_⟩
        simp only [Act.put, List.setIfInBounds_toArray, List.set_cons_zero, List.set_cons_succ]
        refine callAt 6 43 rfl rfl (by kernel_rfl) (by rfl) (by kernel_rfl) (HHs.out _) ?_
        rintro e u2 ⟨rfl, hb⟩
        have hS2 : Box u2 w6.heap.size P ∧ Below w.heap.size w u2 := ⟨hS1.1.call hb, thenB hS1.2 hb hS1.2.size⟩
        have hz2 := Box.call hz1 hb
        clear hb
        refine ⟨_, rfl, hS2, ?_⟩
        simp only [Act.put, List.setIfInBounds_toArray, List.set_cons_zero, List.set_cons_succ]
        have hS3 : Box (u2.setRow w.heap.size #[.int .u64 (W O 0), .int .u64 (W O 1), .int .u64 (W O 2), .int .u64 (W O 3)]) w6.heap.size P ∧ Below w.heap.size w (u2.setRow w.heap.size #[.int .u64 (W O 0), .int .u64 (W O 1), .int .u64 (W O 2), .int .u64 (W O 3)]) := ⟨(setRow_other u2 w.heap.size w6.heap.size _ (Nat.ne_of_gt hlt)).trans hS2.1, below_row hS2.2 (Nat.le_refl _) _⟩
        refine rowAt 7 36 w.heap.size #[.int .u64 (W 0#256 0), .int .u64 (W 0#256 1), .int .u64 (W 0#256 2), .int .u64 (W 0#256 3)] #[.int .u64 (W O 0), .int .u64 (W O 1), .int .u64 (W O 2), .int .u64 (W O 3)] rfl rfl rfl (by kernel_rfl) (by rfl) rfl rfl hz2 sizeSet rfl (by simp [Value.oneCell']) hS3 ?_
        refine takeAt 8 3 (.int .i64 1) rfl rfl (by kernel_rfl) (by kernel_rfl) (by kernel_rfl) (fun _ _ _ h => h) (yields (by rfl) (fun w => by kernel_rfl)) hS3 ?_
        simp only [Act.put, List.setIfInBounds_toArray, List.set_cons_zero, List.set_cons_succ]
        refine takeAt 9 4 (.bool m) rfl rfl (by kernel_rfl) (by kernel_rfl) (by kernel_rfl) (fun _ _ _ h => h) (yields (by rfl) (fun w => by kernel_rfl)) hS3 ?_
        simp only [Act.put, List.setIfInBounds_toArray, List.set_cons_zero, List.set_cons_succ]
        refine wpAnyH_done (by kernel_rfl) ?_ _
        go_wp2_with fail
        have hZ : Box (u2.setRow w.heap.size #[.int .u64 (W O 0), .int .u64 (W O 1), .int .u64 (W O 2), .int .u64 (W O 3)]) w.heap.size O := setRow_heap _ w.heap.size _ _ _ _ hz2
        refine bodyPost_ret (resS3 (p := 2) (u := 3) (u2 := 4) (S := O) (v := .int .i64 1) (v2 := .bool m) rfl _ (g := w.heap.size) rfl rfl rfl hZ) rfl ⟨HR.out, hS3.2⟩
end Go.Proofs.YtlcecblehffjiaaDoor
