import Derived.Test.YteggpecbeagohaaGreatDoorLexRuneM
namespace Go.Proofs.YteggpecbeagohaaGreatDoor
open Go.RowKit
def opT (j : Nat) : ByteArray := [⟨#[40, 63, 58]⟩, ⟨#[40, 63, 61]⟩, ⟨#[40, 63, 33]⟩, ⟨#[40, 63, 60, 61]⟩, ⟨#[40, 63, 60, 33]⟩, ⟨#[40, 63, 62]⟩].getD j ByteArray.empty
abbrev opA : Value := .agg #[.string (opT 0), .int .i64 8, .string (opT 1), .int .i64 9, .string (opT 2), .int .i64 10, .string (opT 3), .int .i64 11, .string (opT 4), .int .i64 12, .string (opT 5), .int .i64 13]
theorem idx0 (W : World) : (Instr.index 149 opA (.int .i64 0)).run Tryz.prog W = .ok (.agg #[.string (opT 0), .int .i64 8]) W := by kernel_rfl
theorem idx1 (W : World) : (Instr.index 149 opA (.int .i64 1)).run Tryz.prog W = .ok (.agg #[.string (opT 1), .int .i64 9]) W := by kernel_rfl
theorem idx2 (W : World) : (Instr.index 149 opA (.int .i64 2)).run Tryz.prog W = .ok (.agg #[.string (opT 2), .int .i64 10]) W := by kernel_rfl
theorem idx3 (W : World) : (Instr.index 149 opA (.int .i64 3)).run Tryz.prog W = .ok (.agg #[.string (opT 3), .int .i64 11]) W := by kernel_rfl
theorem idx4 (W : World) : (Instr.index 149 opA (.int .i64 4)).run Tryz.prog W = .ok (.agg #[.string (opT 4), .int .i64 12]) W := by kernel_rfl
theorem idx5 (W : World) : (Instr.index 149 opA (.int .i64 5)).run Tryz.prog W = .ok (.agg #[.string (opT 5), .int .i64 13]) W := by kernel_rfl
def OpOk (w : World) : Prop := ∀ j, j < 6 → w.cell? ⟨0, 2 * j, none⟩ = some (.string (opT j)) ∧ w.cell? ⟨0, 2 * j + 1, none⟩ = some (.int .i64 (8 + (j : Int)))
theorem OpOk.lt {w : World} (h : OpOk w) : 0 < w.heap.size := block_lt_of_cell (h 0 (by decide)).1
theorem OpOk.call {w w' : World} (h : OpOk w) (hb : Below w.heap.size w w') : OpOk w' := fun j hj => ⟨(hb.cell (p := ⟨0, 2 * j, none⟩) h.lt).trans (h j hj).1, (hb.cell (p := ⟨0, 2 * j + 1, none⟩) h.lt).trans (h j hj).2⟩
theorem OpOk.alloc {w : World} (h : OpOk w) (o : Obj) : OpOk (w.alloc o) := fun j hj => ⟨(World.cell?_alloc_past (w := w) o _ (2 * j) h.lt).trans (h j hj).1, (World.cell?_alloc_past (w := w) o _ (2 * j + 1) h.lt).trans (h j hj).2⟩
theorem BoxT.drew {T : TypeId} {w : World} {g : Nat} {t : Tok} (h : BoxT T w g t) : BoxT T w.drew g t := h
theorem flags_form (p : ByteArray) : ∀ (f i : Nat) (l : List UInt8), flagsF p f i l = wrongT 3 ∨ ∃ L : List UInt8, flagsF p f i l = ({ tok0 14 with f := ⟨L.toArray⟩ }, i + (L.length - l.length) + 1, 0) ∧ l.length ≤ L.length ∧ i + (L.length - l.length) < p.size
 | 0, i, l => .inl rfl
 | f + 1, i, l => by
   by_cases hi : i < p.size
   ·by_cases h58 : bt p i = 58
    ·by_cases hl : l = []
     ·subst hl; exact .inl (flags_colon0 h58)
     ·exact .inr ⟨l, by rw [flags_colon hi h58 hl, Nat.sub_self, Nat.add_zero], Nat.le_refl _, by omega⟩
    ·cases hb : isF (bt p i) with
     | false => exact .inl (flags_bad hb h58)
     | true =>
       by_cases hm : p[i] ∈ l
       ·exact .inl (flags_twice hi h58 hm)
       ·rw [flags_next hi hb hm]
        rcases flags_form p f (i + 1) (l ++ [p[i]]) with h | ⟨L, h, h2, h3⟩
        ·exact .inl h
        ·refine .inr ⟨L, ?_, ?_, ?_⟩
         ·rw [h]
          rw [List.length_append, List.length_singleton] at h2 ⊢
          rw [show i + 1 + (L.length - (l.length + 1)) + 1 = i + (L.length - l.length) + 1 by omega]
         ·rw [List.length_append, List.length_singleton] at h2; omega
         ·rw [List.length_append, List.length_singleton] at h2 h3; omega
   ·exact .inl (flags_end (by omega))
set_option maxRecDepth 20000 in
set_option maxHeartbeats 4000000 in
theorem opening_any (hC : CloneOk) (p : ByteArray) (i : Nat) (w : World) (hp : p.size ≤ 1000000) (hi : i < p.size) (hb : bt p i = 40) (hO : OpOk w) :
  Calls Tryz.prog 47 #[.string p, .int .i64 (i : Int)] w fun e w' => e = .returned (.tuple #[tokV (tokZ p i).1, .int .i64 ((tokZ p i).2.1 : Nat), .int .i64 (tokZ p i).2.2]) ∧ Below w.heap.size w w' := by
 have g1 : (0 : Int) ≤ (i : Int) := by omega
 have g2 : (i : Int) ≤ (p.size : Int) := by omega
 by_cases h63 : bt p (i + 1) = 63
 ·have hw : ∀ l, headB (p.extract i p.size) 0 l = headB p i l := fun l => by rw [head_ext (by omega)]; rfl
  have HP := Lib.hid (fun w => prefix_any (p.extract i p.size) ⟨#[40, 63]⟩ [40, 63] w rfl)
  have H0 := Lib.hid (fun w => prefix_any (p.extract i p.size) (opT 0) [40, 63, 58] w rfl)
  have H1 := Lib.hid (fun w => prefix_any (p.extract i p.size) (opT 1) [40, 63, 61] w rfl)
  have H2 := Lib.hid (fun w => prefix_any (p.extract i p.size) (opT 2) [40, 63, 33] w rfl)
  have H3 := Lib.hid (fun w => prefix_any (p.extract i p.size) (opT 3) [40, 63, 60, 61] w rfl)
  have H4 := Lib.hid (fun w => prefix_any (p.extract i p.size) (opT 4) [40, 63, 60, 33] w rfl)
  have H5 := Lib.hid (fun w => prefix_any (p.extract i p.size) (opT 5) [40, 63, 62] w rfl)
  rw [hw] at HP H0 H1 H2 H3 H4 H5
  rw [show headB p i [40, 63] = true by simp [headB, hb, h63]] at HP
  rw [show headB p i [40, 63, 58] = (bt p (i + 2) == 58) by simp [headB, hb, h63]] at H0
  rw [show headB p i [40, 63, 61] = (bt p (i + 2) == 61) by simp [headB, hb, h63]] at H1
  rw [show headB p i [40, 63, 33] = (bt p (i + 2) == 33) by simp [headB, hb, h63]] at H2
  rw [show headB p i [40, 63, 60, 61] = (bt p (i + 2) == 60 && bt p (i + 3) == 61) by simp [headB, hb, h63]] at H3
  rw [show headB p i [40, 63, 60, 33] = (bt p (i + 2) == 60 && bt p (i + 3) == 33) by simp [headB, hb, h63]] at H4
  rw [show headB p i [40, 63, 62] = (bt p (i + 2) == 62) by simp [headB, hb, h63]] at H5
  have o0 := (hO 0 (by decide)).1
  have o1 := (hO 0 (by decide)).2
  have o2 := (hO 1 (by decide)).1
  have o3 := (hO 1 (by decide)).2
  have o4 := (hO 2 (by decide)).1
  have o5 := (hO 2 (by decide)).2
  have o6 := (hO 3 (by decide)).1
  have o7 := (hO 3 (by decide)).2
  have o8 := (hO 4 (by decide)).1
  have o9 := (hO 4 (by decide)).2
  have o10 := (hO 5 (by decide)).1
  have o11 := (hO 5 (by decide)).2
  have hlt := hO.lt
  rw [tok_open2 hb h63]
  have hi1 : i + 1 < p.size := bt_in (by omega)
  clear hw hb h63 hO
  simp only [Nat.reduceMul, Nat.reduceAdd] at o0 o1 o2 o3 o4 o5 o6 o7 o8 o9 o10 o11
  by_cases b0 : bt p (i + 2) = 58
  ·rw [if_pos b0]
   rw [beq_iff_eq.2 b0] at H0
   clear b0 H1 H2 H3 H4 H5
   have hl : ((opT 0).size : Int) = 3 := rfl
   go_enter Tryz.func47, Tryz.ntmps47
   go_wp2_with fail
   refine (HP.out _).mono ?_
   rintro e w1 ⟨rfl, rfl⟩
   go_wp2_with fail
   refine wp_loop_rounds 1 ?_
   have hx0 := idx0
   rw [rounds_succ]; go_wp2_with fail
   clear hx0
   refine (H0.out _).mono ?_
   rintro e w1 ⟨rfl, rfl⟩
   go_wp2_with fail
   go_region
   all_goals go_wp2_with fail
   refine bodyPost_ret (resT3 (p := 4) (u := 5) (u2 := 6) (t := tok0 8) (v := .int .i64 ((i : Int) + 3)) (v2 := .int .i64 0) rfl _ (g := w.heap.size) rfl rfl rfl (BoxT.drew ((newT (by simp [tokC, tok0, W_zero]; rfl)).alloc _))) rfl ⟨rfl, (((Below.refl _ w).alloc (Nat.le_refl _) _).alloc (by simp <;> omega) _).drew⟩
  ·rw [if_neg b0]
   rw [beq_eq_false_iff_ne.2 b0] at H0
   by_cases b1 : bt p (i + 2) = 61
   ·rw [if_pos b1]
    rw [beq_iff_eq.2 b1] at H1
    clear b1 H2 H3 H4 H5
    have hl : ((opT 1).size : Int) = 3 := rfl
    go_enter Tryz.func47, Tryz.ntmps47
    go_wp2_with fail
    refine (HP.out _).mono ?_
    rintro e w1 ⟨rfl, rfl⟩
    go_wp2_with fail
    refine wp_loop_rounds 2 ?_
    have hx0 := idx0
    rw [rounds_succ]; go_wp2_with fail
    clear hx0
    refine (H0.out _).mono ?_
    rintro e w1 ⟨rfl, rfl⟩
    go_wp2_with fail
    have hx1 := idx1
    rw [rounds_succ]; go_wp2_with fail
    clear hx1
    refine (H1.out _).mono ?_
    rintro e w1 ⟨rfl, rfl⟩
    go_wp2_with fail
    go_region
    all_goals go_wp2_with fail
    refine bodyPost_ret (resT3 (p := 4) (u := 5) (u2 := 6) (t := tok0 9) (v := .int .i64 ((i : Int) + 3)) (v2 := .int .i64 0) rfl _ (g := w.heap.size) rfl rfl rfl (BoxT.drew (((newT (by simp [tokC, tok0, W_zero]; rfl)).alloc _).alloc _))) rfl ⟨rfl, ((((Below.refl _ w).alloc (Nat.le_refl _) _).alloc (by simp <;> omega) _).alloc (by simp <;> omega) _).drew⟩
   ·rw [if_neg b1]
    rw [beq_eq_false_iff_ne.2 b1] at H1
    by_cases b2 : bt p (i + 2) = 33
    ·rw [if_pos b2]
     rw [beq_iff_eq.2 b2] at H2
     clear b2 H3 H4 H5
     have hl : ((opT 2).size : Int) = 3 := rfl
     go_enter Tryz.func47, Tryz.ntmps47
     go_wp2_with fail
     refine (HP.out _).mono ?_
     rintro e w1 ⟨rfl, rfl⟩
     go_wp2_with fail
     refine wp_loop_rounds 3 ?_
     have hx0 := idx0
     rw [rounds_succ]; go_wp2_with fail
     clear hx0
     refine (H0.out _).mono ?_
     rintro e w1 ⟨rfl, rfl⟩
     go_wp2_with fail
     have hx1 := idx1
     rw [rounds_succ]; go_wp2_with fail
     clear hx1
     refine (H1.out _).mono ?_
     rintro e w1 ⟨rfl, rfl⟩
     go_wp2_with fail
     have hx2 := idx2
     rw [rounds_succ]; go_wp2_with fail
     clear hx2
     refine (H2.out _).mono ?_
     rintro e w1 ⟨rfl, rfl⟩
     go_wp2_with fail
     go_region
     all_goals go_wp2_with fail
     refine bodyPost_ret (resT3 (p := 4) (u := 5) (u2 := 6) (t := tok0 10) (v := .int .i64 ((i : Int) + 3)) (v2 := .int .i64 0) rfl _ (g := w.heap.size) rfl rfl rfl (BoxT.drew ((((newT (by simp [tokC, tok0, W_zero]; rfl)).alloc _).alloc _).alloc _))) rfl ⟨rfl, (((((Below.refl _ w).alloc (Nat.le_refl _) _).alloc (by simp <;> omega) _).alloc (by simp <;> omega) _).alloc (by simp <;> omega) _).drew⟩
    ·rw [if_neg b2]
     rw [beq_eq_false_iff_ne.2 b2] at H2
     by_cases b3 : bt p (i + 2) = 60 ∧ bt p (i + 3) = 61
     ·rw [if_pos b3]
      rw [show (bt p (i + 2) == 60 && bt p (i + 3) == 61) = true by rw [b3.1, b3.2]; rfl] at H3
      clear b3 H4 H5
      have hl : ((opT 3).size : Int) = 4 := rfl
      go_enter Tryz.func47, Tryz.ntmps47
      go_wp2_with fail
      refine (HP.out _).mono ?_
      rintro e w1 ⟨rfl, rfl⟩
      go_wp2_with fail
      refine wp_loop_rounds 4 ?_
      have hx0 := idx0
      rw [rounds_succ]; go_wp2_with fail
      clear hx0
      refine (H0.out _).mono ?_
      rintro e w1 ⟨rfl, rfl⟩
      go_wp2_with fail
      have hx1 := idx1
      rw [rounds_succ]; go_wp2_with fail
      clear hx1
      refine (H1.out _).mono ?_
      rintro e w1 ⟨rfl, rfl⟩
      go_wp2_with fail
      have hx2 := idx2
      rw [rounds_succ]; go_wp2_with fail
      clear hx2
      refine (H2.out _).mono ?_
      rintro e w1 ⟨rfl, rfl⟩
      go_wp2_with fail
      have hx3 := idx3
      rw [rounds_succ]; go_wp2_with fail
      clear hx3
      refine (H3.out _).mono ?_
      rintro e w1 ⟨rfl, rfl⟩
      go_wp2_with fail
      go_region
      all_goals go_wp2_with fail
      refine bodyPost_ret (resT3 (p := 4) (u := 5) (u2 := 6) (t := tok0 11) (v := .int .i64 ((i : Int) + 4)) (v2 := .int .i64 0) rfl _ (g := w.heap.size) rfl rfl rfl (BoxT.drew (((((newT (by simp [tokC, tok0, W_zero]; rfl)).alloc _).alloc _).alloc _).alloc _))) rfl ⟨rfl, ((((((Below.refl _ w).alloc (Nat.le_refl _) _).alloc (by simp <;> omega) _).alloc (by simp <;> omega) _).alloc (by simp <;> omega) _).alloc (by simp <;> omega) _).drew⟩
     ·rw [if_neg b3]
      rw [show (bt p (i + 2) == 60 && bt p (i + 3) == 61) = false by simp; exact fun h h2 => b3 ⟨h, h2⟩] at H3
      by_cases b4 : bt p (i + 2) = 60 ∧ bt p (i + 3) = 33
      ·rw [if_pos b4]
       rw [show (bt p (i + 2) == 60 && bt p (i + 3) == 33) = true by rw [b4.1, b4.2]; rfl] at H4
       clear b4 H5
       have hl : ((opT 4).size : Int) = 4 := rfl
       go_enter Tryz.func47, Tryz.ntmps47
       go_wp2_with fail
       refine (HP.out _).mono ?_
       rintro e w1 ⟨rfl, rfl⟩
       go_wp2_with fail
       refine wp_loop_rounds 5 ?_
       have hx0 := idx0
       rw [rounds_succ]; go_wp2_with fail
       clear hx0
       refine (H0.out _).mono ?_
       rintro e w1 ⟨rfl, rfl⟩
       go_wp2_with fail
       have hx1 := idx1
       rw [rounds_succ]; go_wp2_with fail
       clear hx1
       refine (H1.out _).mono ?_
       rintro e w1 ⟨rfl, rfl⟩
       go_wp2_with fail
       have hx2 := idx2
       rw [rounds_succ]; go_wp2_with fail
       clear hx2
       refine (H2.out _).mono ?_
       rintro e w1 ⟨rfl, rfl⟩
       go_wp2_with fail
       have hx3 := idx3
       rw [rounds_succ]; go_wp2_with fail
       clear hx3
       refine (H3.out _).mono ?_
       rintro e w1 ⟨rfl, rfl⟩
       go_wp2_with fail
       have hx4 := idx4
       rw [rounds_succ]; go_wp2_with fail
       clear hx4
       refine (H4.out _).mono ?_
       rintro e w1 ⟨rfl, rfl⟩
       go_wp2_with fail
       go_region
       all_goals go_wp2_with fail
       refine bodyPost_ret (resT3 (p := 4) (u := 5) (u2 := 6) (t := tok0 12) (v := .int .i64 ((i : Int) + 4)) (v2 := .int .i64 0) rfl _ (g := w.heap.size) rfl rfl rfl (BoxT.drew ((((((newT (by simp [tokC, tok0, W_zero]; rfl)).alloc _).alloc _).alloc _).alloc _).alloc _))) rfl ⟨rfl, (((((((Below.refl _ w).alloc (Nat.le_refl _) _).alloc (by simp <;> omega) _).alloc (by simp <;> omega) _).alloc (by simp <;> omega) _).alloc (by simp <;> omega) _).alloc (by simp <;> omega) _).drew⟩
      ·rw [if_neg b4]
       rw [show (bt p (i + 2) == 60 && bt p (i + 3) == 33) = false by simp; exact fun h h2 => b4 ⟨h, h2⟩] at H4
       by_cases b5 : bt p (i + 2) = 62
       ·rw [if_pos b5]
        rw [beq_iff_eq.2 b5] at H5
        clear b5
        have hl : ((opT 5).size : Int) = 3 := rfl
        go_enter Tryz.func47, Tryz.ntmps47
        go_wp2_with fail
        refine (HP.out _).mono ?_
        rintro e w1 ⟨rfl, rfl⟩
        go_wp2_with fail
        refine wp_loop_rounds 6 ?_
        have hx0 := idx0
        rw [rounds_succ]; go_wp2_with fail
        clear hx0
        refine (H0.out _).mono ?_
        rintro e w1 ⟨rfl, rfl⟩
        go_wp2_with fail
        have hx1 := idx1
        rw [rounds_succ]; go_wp2_with fail
        clear hx1
        refine (H1.out _).mono ?_
        rintro e w1 ⟨rfl, rfl⟩
        go_wp2_with fail
        have hx2 := idx2
        rw [rounds_succ]; go_wp2_with fail
        clear hx2
        refine (H2.out _).mono ?_
        rintro e w1 ⟨rfl, rfl⟩
        go_wp2_with fail
        have hx3 := idx3
        rw [rounds_succ]; go_wp2_with fail
        clear hx3
        refine (H3.out _).mono ?_
        rintro e w1 ⟨rfl, rfl⟩
        go_wp2_with fail
        have hx4 := idx4
        rw [rounds_succ]; go_wp2_with fail
        clear hx4
        refine (H4.out _).mono ?_
        rintro e w1 ⟨rfl, rfl⟩
        go_wp2_with fail
        have hx5 := idx5
        rw [rounds_succ]; go_wp2_with fail
        clear hx5
        refine (H5.out _).mono ?_
        rintro e w1 ⟨rfl, rfl⟩
        go_wp2_with fail
        go_region
        all_goals go_wp2_with fail
        refine bodyPost_ret (resT3 (p := 4) (u := 5) (u2 := 6) (t := tok0 13) (v := .int .i64 ((i : Int) + 3)) (v2 := .int .i64 0) rfl _ (g := w.heap.size) rfl rfl rfl (BoxT.drew (((((((newT (by simp [tokC, tok0, W_zero]; rfl)).alloc _).alloc _).alloc _).alloc _).alloc _).alloc _))) rfl ⟨rfl, ((((((((Below.refl _ w).alloc (Nat.le_refl _) _).alloc (by simp <;> omega) _).alloc (by simp <;> omega) _).alloc (by simp <;> omega) _).alloc (by simp <;> omega) _).alloc (by simp <;> omega) _).alloc (by simp <;> omega) _).drew⟩
       ·rw [if_neg b5]
        rw [beq_eq_false_iff_ne.2 b5] at H5
        have hs2 : (p.extract i p.size).size = p.size - i := ext_size (Nat.le_refl _)
        have hx2 : (p.extract i p.size).extract 2 (p.size - i) = p.extract (i + 2) p.size := by rw [ByteArray.extract_extract]; congr 1; omega
        have HL := Lib.hid (fun w => lead_any hC p (p.extract (i + 2) p.size) (i + 2) w rfl hp (by omega) (by rw [bt_ext _ (by omega)]; exact b0))
        rw [← hx2] at HL
        have hF := flags_form p (p.size + 1) (i + 2) []
        clear b0 b1 b2 b3 b4 b5 hx2
        have c1 : (2 : Int) ≤ ((p.extract i p.size).size : Int) := by omega
        revert HL hF
        generalize flagsF p (p.size + 1) (i + 2) [] = R
        intro HL hF
        rcases hF with hF | ⟨L, hF, hL, hL2⟩
        ·subst hF
         rw [show leadT (wrongT 3) = (ByteArray.empty, false) from rfl] at HL
         go_enter Tryz.func47, Tryz.ntmps47
         go_wp2_with fail
         refine (HP.out _).mono ?_
         rintro e w1 ⟨rfl, rfl⟩
         go_wp2_with fail
         refine wp_loop_rounds 7 ?_
         have hx0 := idx0
         rw [rounds_succ]; go_wp2_with fail
         clear hx0
         refine (H0.out _).mono ?_
         rintro e w1 ⟨rfl, rfl⟩
         go_wp2_with fail
         have hx1 := idx1
         rw [rounds_succ]; go_wp2_with fail
         clear hx1
         refine (H1.out _).mono ?_
         rintro e w1 ⟨rfl, rfl⟩
         go_wp2_with fail
         have hx2 := idx2
         rw [rounds_succ]; go_wp2_with fail
         clear hx2
         refine (H2.out _).mono ?_
         rintro e w1 ⟨rfl, rfl⟩
         go_wp2_with fail
         have hx3 := idx3
         rw [rounds_succ]; go_wp2_with fail
         clear hx3
         refine (H3.out _).mono ?_
         rintro e w1 ⟨rfl, rfl⟩
         go_wp2_with fail
         have hx4 := idx4
         rw [rounds_succ]; go_wp2_with fail
         clear hx4
         refine (H4.out _).mono ?_
         rintro e w1 ⟨rfl, rfl⟩
         go_wp2_with fail
         have hx5 := idx5
         rw [rounds_succ]; go_wp2_with fail
         clear hx5
         refine (H5.out _).mono ?_
         rintro e w1 ⟨rfl, rfl⟩
         go_wp2_with fail
         rw [rounds_succ]; go_wp2_with fail
         refine (HL.out _).mono ?_
         rintro e w1 ⟨rfl, hb1⟩
         obtain ⟨hc, hf⟩ := bcell hb1
         have HB1 := Lib.hid hb1
         clear hb1
         go_wp2_with fail
         have h0 : BoxT 115 w1 w.heap.size (tok0 0) := by
          refine BoxT.below (((((((newT (by simp [tokC, tok0, W_zero]; rfl)).alloc _).alloc _).alloc _).alloc _).alloc _).alloc _) HB1.out ?_
          simp <;> omega
         refine bodyPost_ret (resT3 (p := 4) (u := 5) (u2 := 6) (t := tok0 0) (v := .int .i64 0) (v2 := .int .i64 3) rfl _ (g := w.heap.size) rfl rfl rfl (h0.ten (by simp [tokC, tok0, W_zero]; rfl))) rfl ⟨rfl, ?_⟩
         exact below_ten (((((((((Below.refl _ w).alloc (Nat.le_refl _) _).alloc (by simp <;> omega) _).alloc (by simp <;> omega) _).alloc (by simp <;> omega) _).alloc (by simp <;> omega) _).alloc (by simp <;> omega) _).alloc (by simp <;> omega) _).trans (HB1.out.mono (by simp <;> omega))) (Nat.le_refl _) _ _ _ _ _ _ _ _ _ _
        ·subst hF
         rw [show leadT ({ tok0 14 with f := ⟨L.toArray⟩ }, i + 2 + (L.length - [].length) + 1, 0) = (⟨L.toArray⟩, true) from rfl] at HL
         have hfs : (ByteArray.mk L.toArray).size = L.length := rfl
         have hN : L.length ≤ 1000000 := by simp at hL2; omega
         simp only [List.length_nil, Nat.sub_zero]
         generalize ByteArray.mk L.toArray = F at HL hfs ⊢
         generalize L.length = n at hfs hN ⊢
         clear hL hL2
         rw [show ((i + 2 + n + 1 : Nat) : Int) = (i : Int) + 2 + (n : Int) + 1 by omega]
         have hfs' : (F.size : Int) = (n : Int) := by omega
         clear hfs
         go_enter Tryz.func47, Tryz.ntmps47
         go_wp2_with fail
         refine (HP.out _).mono ?_
         rintro e w1 ⟨rfl, rfl⟩
         go_wp2_with fail
         refine wp_loop_rounds 7 ?_
         have hx0 := idx0
         rw [rounds_succ]; go_wp2_with fail
         clear hx0
         refine (H0.out _).mono ?_
         rintro e w1 ⟨rfl, rfl⟩
         go_wp2_with fail
         have hx1 := idx1
         rw [rounds_succ]; go_wp2_with fail
         clear hx1
         refine (H1.out _).mono ?_
         rintro e w1 ⟨rfl, rfl⟩
         go_wp2_with fail
         have hx2 := idx2
         rw [rounds_succ]; go_wp2_with fail
         clear hx2
         refine (H2.out _).mono ?_
         rintro e w1 ⟨rfl, rfl⟩
         go_wp2_with fail
         have hx3 := idx3
         rw [rounds_succ]; go_wp2_with fail
         clear hx3
         refine (H3.out _).mono ?_
         rintro e w1 ⟨rfl, rfl⟩
         go_wp2_with fail
         have hx4 := idx4
         rw [rounds_succ]; go_wp2_with fail
         clear hx4
         refine (H4.out _).mono ?_
         rintro e w1 ⟨rfl, rfl⟩
         go_wp2_with fail
         have hx5 := idx5
         rw [rounds_succ]; go_wp2_with fail
         clear hx5
         refine (H5.out _).mono ?_
         rintro e w1 ⟨rfl, rfl⟩
         go_wp2_with fail
         rw [rounds_succ]; go_wp2_with fail
         refine (HL.out _).mono ?_
         rintro e w1 ⟨rfl, hb1⟩
         obtain ⟨hc, hf⟩ := bcell hb1
         have HB1 := Lib.hid hb1
         clear hb1
         go_wp2_with fail
         have h0 : BoxT 115 w1 w.heap.size (tok0 0) := by
          refine BoxT.below (((((((newT (by simp [tokC, tok0, W_zero]; rfl)).alloc _).alloc _).alloc _).alloc _).alloc _).alloc _) HB1.out ?_
          simp <;> omega
         refine bodyPost_ret (resT3 (p := 4) (u := 5) (u2 := 6) (t := { tok0 14 with f := F }) (v := .int .i64 ((i : Int) + 2 + (n : Int) + 1)) (v2 := .int .i64 0) rfl _ (g := w.heap.size) rfl rfl rfl (h0.ten (by simp [tokC, tok0, W_zero]))) rfl ⟨rfl, ?_⟩
         exact below_ten (((((((((Below.refl _ w).alloc (Nat.le_refl _) _).alloc (by simp <;> omega) _).alloc (by simp <;> omega) _).alloc (by simp <;> omega) _).alloc (by simp <;> omega) _).alloc (by simp <;> omega) _).alloc (by simp <;> omega) _).trans (HB1.out.mono (by simp <;> omega))) (Nat.le_refl _) _ _ _ _ _ _ _ _ _ _
 ·rw [tok_open hb h63]
  have HP := Lib.hid (fun w => prefix_any (p.extract i p.size) ⟨#[40, 63]⟩ [40, 63] w rfl)
  rw [show headB (p.extract i p.size) 0 [40, 63] = false by rw [head_ext (by omega)]; simp [headB, h63]] at HP
  clear h63 hb
  go_enter Tryz.func47, Tryz.ntmps47
  go_wp2_with fail
  refine (HP.out _).mono ?_
  rintro e w1 ⟨rfl, rfl⟩
  go_wp2_with fail
  refine bodyPost_ret (resT3 (p := 4) (u := 5) (u2 := 6) (t := tok0 7) (v := .int .i64 ((i : Int) + 1)) (v2 := .int .i64 0) rfl _ (g := w.heap.size) rfl rfl rfl (newT (by simp [tokC, tok0, W_zero]; rfl))) rfl ⟨rfl, (Below.refl _ w).alloc (Nat.le_refl _) _⟩
end Go.Proofs.YteggpecbeagohaaGreatDoor
