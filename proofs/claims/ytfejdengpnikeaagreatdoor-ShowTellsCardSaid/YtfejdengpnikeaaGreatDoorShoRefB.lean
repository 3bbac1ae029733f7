/-
  Layer 8, the document's answer: how often.
-/
import Derived.Test.YtfejdengpnikeaaGreatDoorShoRefA
import Derived.Test.YtfejdengpnikeaaGreatDoorShoB
namespace Go.Proofs.YtfejdengpnikeaaGreatDoor
open Go.RowKit
open Ast (Nd ndV ndC At12)

theorem refBox (w : World) (x : Nd) : At12 (w.alloc (.cells (ndC x).toArray 64)) w.heap.size 0 x := by
  have h := heap_alloc_new w (.cells (ndC x).toArray 64)
  refine ⟨?_, ?_, ?_, ?_, ?_, ?_, ?_, ?_, ?_, ?_, ?_, ?_⟩ <;> exact (cell_of_row _ _ _ _ _ _ h).trans rfl
theorem at12_on {w u : World} {b : Nat} {x : Nd} {B : Nat} (h : At12 w b 0 x) (hb : Below B w u) (hg : b < B) : At12 u b 0 x := h.keep fun j => hb.cell (p := ⟨b, j, none⟩) hg
set_option maxRecDepth 20000 in
set_option maxHeartbeats 16000000 in
theorem oft8_any (x : Nd) (w : World) (h0 : 0 ≤ x.mn) (h1 : x.mn ≤ 100) (h2 : x.mx ≤ 100) (h3 : x.mx = -1 ∨ x.mn ≤ x.mx) (h4 : 0 ≤ x.md) (h5 : x.md ≤ 2) : Calls Tryz.prog 60 #[ndV x] w fun e w' => e = .returned (.string (oftenB x.mn x.mx ++ mannerB x.md)) ∧ Below w.heap.size w w' := by
  obtain ⟨m, hm⟩ : ∃ m : Nat, x.mn = (m : Int) := ⟨x.mn.toNat, by omega⟩
  have HI := Lib.hid (fun w => num8_any m (by omega) w)
  have HX := Lib.hid (refBox w x)
  have hlt : w.heap.size < (w.alloc (.cells (ndC x).toArray 64)).heap.size := by simp
  have HB := Lib.hid ((Below.refl w.heap.size w).alloc (Nat.le_refl _) (.cells (ndC x).toArray 64))
  obtain ⟨W0, hW0⟩ : ∃ W0, W0 = w.alloc (.cells (ndC x).toArray 64) := ⟨_, rfl⟩
  rw [← hW0] at HX HB hlt
  obtain ⟨xk, xa, xb, s0, s1, s2, s3, mn, mx, md, nn, ff⟩ := x
  simp only [] at *
  subst hm
  simp only [ndC] at hW0
  simp only [ndV]
  have c0 := HX.out
  clear c0
  have hX : (numT m).size ≤ 3 := num_size m
  rcases h3 with rfl | h3
  · have HE := Lib.hid (show oftenB (m : Int) (-1) = if m = 0 then ⟨#[42]⟩ else if m = 1 then ⟨#[43]⟩ else (⟨#[123]⟩ ++ numT m) ++ ⟨#[44, 125]⟩ by
      unfold oftenB
      by_cases e0 : m = 0
      · subst e0; rfl
      · by_cases e1 : m = 1
        · subst e1; rfl
        · rw [if_neg (by omega), if_neg (by omega), if_neg (by omega), if_neg (by omega), if_pos rfl, if_neg e0, if_neg e1, Int.toNat_natCast])
    by_cases e0 : m = 0
    · have HE := Lib.hid (HE.out.trans (if_pos e0))
      have q0 : ((m : Int) == 0) = true := by simp; omega
      have q1 : ((m : Int) == 1) = false := beq_eq_false_iff_ne.2 (by omega)
      rw [HE.out]
      generalize numT m = X at HI hX
      clear e0 h2 HE
      have z1 : ¬ 1 + X.size > 9223372036854775807 := by omega
      have z2 : ¬ 1 + X.size + 1 > 9223372036854775807 := by omega
      have z3 : ¬ 1 + X.size + 2 > 9223372036854775807 := by omega
      have z4 : ¬ 1 + X.size + 1 + 1 > 9223372036854775807 := by omega
      have z5 : ¬ 1 + X.size + 2 + 1 > 9223372036854775807 := by omega
      rcases (show md = 0 ∨ md = 1 ∨ md = 2 by omega) with rfl | rfl | rfl
      · obtain ⟨-, -, -, -, -, -, -, c7, c8, c9, -⟩ := HX.out
        have c7' : W0.cell? ⟨w.heap.size, 7, none⟩ = some (.int .i64 (m : Int)) := c7
        rw [hW0] at c7'
        clear c8 c9 c7
        go_enter Tryz.func60, Tryz.ntmps60
        go_wp2_with fail
        clear c7'
        rw [← hW0]
        refine (HI.out _).mono ?_
        rintro e w1 ⟨rfl, hb⟩
        have c0 := at12_on HX.out hb hlt
        have HB1 := Lib.hid (thenB HB.out hb HB.out.size)
        clear hb HX HB hW0
        have HX := Lib.hid c0
        have hlt1 : w.heap.size < w1.heap.size := block_lt_of_cell c0.1
        obtain ⟨-, -, -, -, -, -, -, c7, c8, c9, -⟩ := c0
        have d7 : w1.cell? ⟨w.heap.size, 7, none⟩ = some (.int .i64 (m : Int)) := c7
        have d8 : w1.cell? ⟨w.heap.size, 8, none⟩ = some (.int .i64 (-1)) := c8
        have d9 : w1.cell? ⟨w.heap.size, 9, none⟩ = some (.int .i64 0) := c9
        have hl : w.heap.size < w1.heap.size := block_lt_of_cell d9
        have e9 : ∀ o, (World.alloc w1 o).cell? ⟨w.heap.size, 9, none⟩ = some (.int .i64 0) := fun o => (((Below.refl w1.heap.size w1).alloc (Nat.le_refl _) o).cell (p := ⟨w.heap.size, 9, none⟩) hl).trans d9
        clear c7 c8 c9
        go_wp2_with fail
        go_ret
        exact ⟨ret_str (by rfl), HB1.out.alloc HB1.out.size _⟩
      · obtain ⟨-, -, -, -, -, -, -, c7, c8, c9, -⟩ := HX.out
        have c7' : W0.cell? ⟨w.heap.size, 7, none⟩ = some (.int .i64 (m : Int)) := c7
        rw [hW0] at c7'
        clear c8 c9 c7
        go_enter Tryz.func60, Tryz.ntmps60
        go_wp2_with fail
        clear c7'
        rw [← hW0]
        refine (HI.out _).mono ?_
        rintro e w1 ⟨rfl, hb⟩
        have c0 := at12_on HX.out hb hlt
        have HB1 := Lib.hid (thenB HB.out hb HB.out.size)
        clear hb HX HB hW0
        have HX := Lib.hid c0
        have hlt1 : w.heap.size < w1.heap.size := block_lt_of_cell c0.1
        obtain ⟨-, -, -, -, -, -, -, c7, c8, c9, -⟩ := c0
        have d7 : w1.cell? ⟨w.heap.size, 7, none⟩ = some (.int .i64 (m : Int)) := c7
        have d8 : w1.cell? ⟨w.heap.size, 8, none⟩ = some (.int .i64 (-1)) := c8
        have d9 : w1.cell? ⟨w.heap.size, 9, none⟩ = some (.int .i64 1) := c9
        have hl : w.heap.size < w1.heap.size := block_lt_of_cell d9
        have e9 : ∀ o, (World.alloc w1 o).cell? ⟨w.heap.size, 9, none⟩ = some (.int .i64 1) := fun o => (((Below.refl w1.heap.size w1).alloc (Nat.le_refl _) o).cell (p := ⟨w.heap.size, 9, none⟩) hl).trans d9
        clear c7 c8 c9
        go_wp2_with fail
        go_ret
        exact ⟨ret_str (by rfl), HB1.out.alloc HB1.out.size _⟩
      · obtain ⟨-, -, -, -, -, -, -, c7, c8, c9, -⟩ := HX.out
        have c7' : W0.cell? ⟨w.heap.size, 7, none⟩ = some (.int .i64 (m : Int)) := c7
        rw [hW0] at c7'
        clear c8 c9 c7
        go_enter Tryz.func60, Tryz.ntmps60
        go_wp2_with fail
        clear c7'
        rw [← hW0]
        refine (HI.out _).mono ?_
        rintro e w1 ⟨rfl, hb⟩
        have c0 := at12_on HX.out hb hlt
        have HB1 := Lib.hid (thenB HB.out hb HB.out.size)
        clear hb HX HB hW0
        have HX := Lib.hid c0
        have hlt1 : w.heap.size < w1.heap.size := block_lt_of_cell c0.1
        obtain ⟨-, -, -, -, -, -, -, c7, c8, c9, -⟩ := c0
        have d7 : w1.cell? ⟨w.heap.size, 7, none⟩ = some (.int .i64 (m : Int)) := c7
        have d8 : w1.cell? ⟨w.heap.size, 8, none⟩ = some (.int .i64 (-1)) := c8
        have d9 : w1.cell? ⟨w.heap.size, 9, none⟩ = some (.int .i64 2) := c9
        have hl : w.heap.size < w1.heap.size := block_lt_of_cell d9
        have e9 : ∀ o, (World.alloc w1 o).cell? ⟨w.heap.size, 9, none⟩ = some (.int .i64 2) := fun o => (((Below.refl w1.heap.size w1).alloc (Nat.le_refl _) o).cell (p := ⟨w.heap.size, 9, none⟩) hl).trans d9
        clear c7 c8 c9
        go_wp2_with fail
        go_ret
        exact ⟨ret_str (by rfl), HB1.out.alloc HB1.out.size _⟩
    · by_cases e1 : m = 1
      · have HE := Lib.hid (HE.out.trans ((if_neg e0).trans (if_pos e1)))
        have q0 : ((m : Int) == 0) = false := beq_eq_false_iff_ne.2 (by omega)
        have q1 : ((m : Int) == 1) = true := by simp; omega
        rw [HE.out]
        generalize numT m = X at HI hX
        clear e0 e1 h2 HE
        have z1 : ¬ 1 + X.size > 9223372036854775807 := by omega
        have z2 : ¬ 1 + X.size + 1 > 9223372036854775807 := by omega
        have z3 : ¬ 1 + X.size + 2 > 9223372036854775807 := by omega
        have z4 : ¬ 1 + X.size + 1 + 1 > 9223372036854775807 := by omega
        have z5 : ¬ 1 + X.size + 2 + 1 > 9223372036854775807 := by omega
        rcases (show md = 0 ∨ md = 1 ∨ md = 2 by omega) with rfl | rfl | rfl
        · obtain ⟨-, -, -, -, -, -, -, c7, c8, c9, -⟩ := HX.out
          have c7' : W0.cell? ⟨w.heap.size, 7, none⟩ = some (.int .i64 (m : Int)) := c7
          rw [hW0] at c7'
          clear c8 c9 c7
          go_enter Tryz.func60, Tryz.ntmps60
          go_wp2_with fail
          clear c7'
          rw [← hW0]
          refine (HI.out _).mono ?_
          rintro e w1 ⟨rfl, hb⟩
          have c0 := at12_on HX.out hb hlt
          have HB1 := Lib.hid (thenB HB.out hb HB.out.size)
          clear hb HX HB hW0
          have HX := Lib.hid c0
          have hlt1 : w.heap.size < w1.heap.size := block_lt_of_cell c0.1
          obtain ⟨-, -, -, -, -, -, -, c7, c8, c9, -⟩ := c0
          have d7 : w1.cell? ⟨w.heap.size, 7, none⟩ = some (.int .i64 (m : Int)) := c7
          have d8 : w1.cell? ⟨w.heap.size, 8, none⟩ = some (.int .i64 (-1)) := c8
          have d9 : w1.cell? ⟨w.heap.size, 9, none⟩ = some (.int .i64 0) := c9
          have hl : w.heap.size < w1.heap.size := block_lt_of_cell d9
          have e9 : ∀ o, (World.alloc w1 o).cell? ⟨w.heap.size, 9, none⟩ = some (.int .i64 0) := fun o => (((Below.refl w1.heap.size w1).alloc (Nat.le_refl _) o).cell (p := ⟨w.heap.size, 9, none⟩) hl).trans d9
          clear c7 c8 c9
          go_wp2_with fail
          go_ret
          exact ⟨ret_str (by rfl), HB1.out.alloc HB1.out.size _⟩
        · obtain ⟨-, -, -, -, -, -, -, c7, c8, c9, -⟩ := HX.out
          have c7' : W0.cell? ⟨w.heap.size, 7, none⟩ = some (.int .i64 (m : Int)) := c7
          rw [hW0] at c7'
          clear c8 c9 c7
          go_enter Tryz.func60, Tryz.ntmps60
          go_wp2_with fail
          clear c7'
          rw [← hW0]
          refine (HI.out _).mono ?_
          rintro e w1 ⟨rfl, hb⟩
          have c0 := at12_on HX.out hb hlt
          have HB1 := Lib.hid (thenB HB.out hb HB.out.size)
          clear hb HX HB hW0
          have HX := Lib.hid c0
          have hlt1 : w.heap.size < w1.heap.size := block_lt_of_cell c0.1
          obtain ⟨-, -, -, -, -, -, -, c7, c8, c9, -⟩ := c0
          have d7 : w1.cell? ⟨w.heap.size, 7, none⟩ = some (.int .i64 (m : Int)) := c7
          have d8 : w1.cell? ⟨w.heap.size, 8, none⟩ = some (.int .i64 (-1)) := c8
          have d9 : w1.cell? ⟨w.heap.size, 9, none⟩ = some (.int .i64 1) := c9
          have hl : w.heap.size < w1.heap.size := block_lt_of_cell d9
          have e9 : ∀ o, (World.alloc w1 o).cell? ⟨w.heap.size, 9, none⟩ = some (.int .i64 1) := fun o => (((Below.refl w1.heap.size w1).alloc (Nat.le_refl _) o).cell (p := ⟨w.heap.size, 9, none⟩) hl).trans d9
          clear c7 c8 c9
          go_wp2_with fail
          go_ret
          exact ⟨ret_str (by rfl), HB1.out.alloc HB1.out.size _⟩
        · obtain ⟨-, -, -, -, -, -, -, c7, c8, c9, -⟩ := HX.out
          have c7' : W0.cell? ⟨w.heap.size, 7, none⟩ = some (.int .i64 (m : Int)) := c7
          rw [hW0] at c7'
          clear c8 c9 c7
          go_enter Tryz.func60, Tryz.ntmps60
          go_wp2_with fail
          clear c7'
          rw [← hW0]
          refine (HI.out _).mono ?_
          rintro e w1 ⟨rfl, hb⟩
          have c0 := at12_on HX.out hb hlt
          have HB1 := Lib.hid (thenB HB.out hb HB.out.size)
          clear hb HX HB hW0
          have HX := Lib.hid c0
          have hlt1 : w.heap.size < w1.heap.size := block_lt_of_cell c0.1
          obtain ⟨-, -, -, -, -, -, -, c7, c8, c9, -⟩ := c0
          have d7 : w1.cell? ⟨w.heap.size, 7, none⟩ = some (.int .i64 (m : Int)) := c7
          have d8 : w1.cell? ⟨w.heap.size, 8, none⟩ = some (.int .i64 (-1)) := c8
          have d9 : w1.cell? ⟨w.heap.size, 9, none⟩ = some (.int .i64 2) := c9
          have hl : w.heap.size < w1.heap.size := block_lt_of_cell d9
          have e9 : ∀ o, (World.alloc w1 o).cell? ⟨w.heap.size, 9, none⟩ = some (.int .i64 2) := fun o => (((Below.refl w1.heap.size w1).alloc (Nat.le_refl _) o).cell (p := ⟨w.heap.size, 9, none⟩) hl).trans d9
          clear c7 c8 c9
          go_wp2_with fail
          go_ret
          exact ⟨ret_str (by rfl), HB1.out.alloc HB1.out.size _⟩
      · have HE := Lib.hid (HE.out.trans ((if_neg e0).trans (if_neg e1)))
        have q0 : ((m : Int) == 0) = false := beq_eq_false_iff_ne.2 (by omega)
        have q1 : ((m : Int) == 1) = false := beq_eq_false_iff_ne.2 (by omega)
        rw [HE.out]
        clear HE
        generalize numT m = X at HI hX
        clear e0 e1 h2
        have z1 : ¬ 1 + X.size > 9223372036854775807 := by omega
        have z2 : ¬ 1 + X.size + 1 > 9223372036854775807 := by omega
        have z3 : ¬ 1 + X.size + 2 > 9223372036854775807 := by omega
        have z4 : ¬ 1 + X.size + 1 + 1 > 9223372036854775807 := by omega
        have z5 : ¬ 1 + X.size + 2 + 1 > 9223372036854775807 := by omega
        rcases (show md = 0 ∨ md = 1 ∨ md = 2 by omega) with rfl | rfl | rfl
        · obtain ⟨-, -, -, -, -, -, -, c7, c8, c9, -⟩ := HX.out
          have c7' : W0.cell? ⟨w.heap.size, 7, none⟩ = some (.int .i64 (m : Int)) := c7
          rw [hW0] at c7'
          clear c8 c9 c7
          go_enter Tryz.func60, Tryz.ntmps60
          go_wp2_with fail
          clear c7'
          rw [← hW0]
          refine (HI.out _).mono ?_
          rintro e w1 ⟨rfl, hb⟩
          have c0 := at12_on HX.out hb hlt
          have HB1 := Lib.hid (thenB HB.out hb HB.out.size)
          clear hb HX HB hW0
          have HX := Lib.hid c0
          have hlt1 : w.heap.size < w1.heap.size := block_lt_of_cell c0.1
          obtain ⟨-, -, -, -, -, -, -, c7, c8, c9, -⟩ := c0
          have d7 : w1.cell? ⟨w.heap.size, 7, none⟩ = some (.int .i64 (m : Int)) := c7
          have d8 : w1.cell? ⟨w.heap.size, 8, none⟩ = some (.int .i64 (-1)) := c8
          have d9 : w1.cell? ⟨w.heap.size, 9, none⟩ = some (.int .i64 0) := c9
          have hl : w.heap.size < w1.heap.size := block_lt_of_cell d9
          have e9 : ∀ o, (World.alloc w1 o).cell? ⟨w.heap.size, 9, none⟩ = some (.int .i64 0) := fun o => (((Below.refl w1.heap.size w1).alloc (Nat.le_refl _) o).cell (p := ⟨w.heap.size, 9, none⟩) hl).trans d9
          clear c7 c8 c9
          go_wp2_with fail
          go_ret
          exact ⟨ret_str (by rfl), HB1.out.alloc HB1.out.size _⟩
        · obtain ⟨-, -, -, -, -, -, -, c7, c8, c9, -⟩ := HX.out
          have c7' : W0.cell? ⟨w.heap.size, 7, none⟩ = some (.int .i64 (m : Int)) := c7
          rw [hW0] at c7'
          clear c8 c9 c7
          go_enter Tryz.func60, Tryz.ntmps60
          go_wp2_with fail
          clear c7'
          rw [← hW0]
          refine (HI.out _).mono ?_
          rintro e w1 ⟨rfl, hb⟩
          have c0 := at12_on HX.out hb hlt
          have HB1 := Lib.hid (thenB HB.out hb HB.out.size)
          clear hb HX HB hW0
          have HX := Lib.hid c0
          have hlt1 : w.heap.size < w1.heap.size := block_lt_of_cell c0.1
          obtain ⟨-, -, -, -, -, -, -, c7, c8, c9, -⟩ := c0
          have d7 : w1.cell? ⟨w.heap.size, 7, none⟩ = some (.int .i64 (m : Int)) := c7
          have d8 : w1.cell? ⟨w.heap.size, 8, none⟩ = some (.int .i64 (-1)) := c8
          have d9 : w1.cell? ⟨w.heap.size, 9, none⟩ = some (.int .i64 1) := c9
          have hl : w.heap.size < w1.heap.size := block_lt_of_cell d9
          have e9 : ∀ o, (World.alloc w1 o).cell? ⟨w.heap.size, 9, none⟩ = some (.int .i64 1) := fun o => (((Below.refl w1.heap.size w1).alloc (Nat.le_refl _) o).cell (p := ⟨w.heap.size, 9, none⟩) hl).trans d9
          clear c7 c8 c9
          go_wp2_with fail
          go_ret
          exact ⟨ret_str (by rfl), HB1.out.alloc HB1.out.size _⟩
        · obtain ⟨-, -, -, -, -, -, -, c7, c8, c9, -⟩ := HX.out
          have c7' : W0.cell? ⟨w.heap.size, 7, none⟩ = some (.int .i64 (m : Int)) := c7
          rw [hW0] at c7'
          clear c8 c9 c7
          go_enter Tryz.func60, Tryz.ntmps60
          go_wp2_with fail
          clear c7'
          rw [← hW0]
          refine (HI.out _).mono ?_
          rintro e w1 ⟨rfl, hb⟩
          have c0 := at12_on HX.out hb hlt
          have HB1 := Lib.hid (thenB HB.out hb HB.out.size)
          clear hb HX HB hW0
          have HX := Lib.hid c0
          have hlt1 : w.heap.size < w1.heap.size := block_lt_of_cell c0.1
          obtain ⟨-, -, -, -, -, -, -, c7, c8, c9, -⟩ := c0
          have d7 : w1.cell? ⟨w.heap.size, 7, none⟩ = some (.int .i64 (m : Int)) := c7
          have d8 : w1.cell? ⟨w.heap.size, 8, none⟩ = some (.int .i64 (-1)) := c8
          have d9 : w1.cell? ⟨w.heap.size, 9, none⟩ = some (.int .i64 2) := c9
          have hl : w.heap.size < w1.heap.size := block_lt_of_cell d9
          have e9 : ∀ o, (World.alloc w1 o).cell? ⟨w.heap.size, 9, none⟩ = some (.int .i64 2) := fun o => (((Below.refl w1.heap.size w1).alloc (Nat.le_refl _) o).cell (p := ⟨w.heap.size, 9, none⟩) hl).trans d9
          clear c7 c8 c9
          go_wp2_with fail
          go_ret
          exact ⟨ret_str (by rfl), HB1.out.alloc HB1.out.size _⟩
  · obtain ⟨k, hk⟩ : ∃ k : Nat, mx = (k : Int) := ⟨mx.toNat, by omega⟩
    subst hk
    have hmk : m ≤ k := by omega
    have q9 : ¬ (k : Int) < 0 := by omega
    by_cases ek : k = m
    · subst ek
      have HE := Lib.hid (show oftenB (k : Int) (k : Int) = (⟨#[123]⟩ ++ numT k) ++ ⟨#[125]⟩ by
        unfold oftenB
        rw [if_neg (by omega), if_neg (by omega), if_neg (by omega), if_pos rfl, Int.toNat_natCast])
      rw [HE.out]
      clear HE
      generalize numT k = X at HI hX
      by_cases e1 : k = 1
      · have q1 : ((k : Int) == 1) = true := by simp; omega
        have q0 : ((k : Int) == 0) = false := beq_eq_false_iff_ne.2 (by omega)
        clear e1 h2 hmk h3
        have z1 : ¬ 1 + X.size > 9223372036854775807 := by omega
        have z2 : ¬ 1 + X.size + 1 > 9223372036854775807 := by omega
        have z3 : ¬ 1 + X.size + 2 > 9223372036854775807 := by omega
        have z4 : ¬ 1 + X.size + 1 + 1 > 9223372036854775807 := by omega
        have z5 : ¬ 1 + X.size + 2 + 1 > 9223372036854775807 := by omega
        rcases (show md = 0 ∨ md = 1 ∨ md = 2 by omega) with rfl | rfl | rfl
        · obtain ⟨-, -, -, -, -, -, -, c7, c8, c9, -⟩ := HX.out
          have c7' : W0.cell? ⟨w.heap.size, 7, none⟩ = some (.int .i64 (k : Int)) := c7
          rw [hW0] at c7'
          clear c8 c9 c7
          go_enter Tryz.func60, Tryz.ntmps60
          go_wp2_with fail
          clear c7'
          rw [← hW0]
          refine (HI.out _).mono ?_
          rintro e w1 ⟨rfl, hb⟩
          have c0 := at12_on HX.out hb hlt
          have HB1 := Lib.hid (thenB HB.out hb HB.out.size)
          clear hb HX HB hW0
          have HX := Lib.hid c0
          have hlt1 : w.heap.size < w1.heap.size := block_lt_of_cell c0.1
          obtain ⟨-, -, -, -, -, -, -, c7, c8, c9, -⟩ := c0
          have d7 : w1.cell? ⟨w.heap.size, 7, none⟩ = some (.int .i64 (k : Int)) := c7
          have d8 : w1.cell? ⟨w.heap.size, 8, none⟩ = some (.int .i64 (k : Int)) := c8
          have d9 : w1.cell? ⟨w.heap.size, 9, none⟩ = some (.int .i64 0) := c9
          have hl : w.heap.size < w1.heap.size := block_lt_of_cell d9
          have e9 : ∀ o, (World.alloc w1 o).cell? ⟨w.heap.size, 9, none⟩ = some (.int .i64 0) := fun o => (((Below.refl w1.heap.size w1).alloc (Nat.le_refl _) o).cell (p := ⟨w.heap.size, 9, none⟩) hl).trans d9
          clear c7 c8 c9
          go_wp2_with fail
          go_ret
          exact ⟨ret_str (by rfl), HB1.out.alloc HB1.out.size _⟩
        · obtain ⟨-, -, -, -, -, -, -, c7, c8, c9, -⟩ := HX.out
          have c7' : W0.cell? ⟨w.heap.size, 7, none⟩ = some (.int .i64 (k : Int)) := c7
          rw [hW0] at c7'
          clear c8 c9 c7
          go_enter Tryz.func60, Tryz.ntmps60
          go_wp2_with fail
          clear c7'
          rw [← hW0]
          refine (HI.out _).mono ?_
          rintro e w1 ⟨rfl, hb⟩
          have c0 := at12_on HX.out hb hlt
          have HB1 := Lib.hid (thenB HB.out hb HB.out.size)
          clear hb HX HB hW0
          have HX := Lib.hid c0
          have hlt1 : w.heap.size < w1.heap.size := block_lt_of_cell c0.1
          obtain ⟨-, -, -, -, -, -, -, c7, c8, c9, -⟩ := c0
          have d7 : w1.cell? ⟨w.heap.size, 7, none⟩ = some (.int .i64 (k : Int)) := c7
          have d8 : w1.cell? ⟨w.heap.size, 8, none⟩ = some (.int .i64 (k : Int)) := c8
          have d9 : w1.cell? ⟨w.heap.size, 9, none⟩ = some (.int .i64 1) := c9
          have hl : w.heap.size < w1.heap.size := block_lt_of_cell d9
          have e9 : ∀ o, (World.alloc w1 o).cell? ⟨w.heap.size, 9, none⟩ = some (.int .i64 1) := fun o => (((Below.refl w1.heap.size w1).alloc (Nat.le_refl _) o).cell (p := ⟨w.heap.size, 9, none⟩) hl).trans d9
          clear c7 c8 c9
          go_wp2_with fail
          go_ret
          exact ⟨ret_str (by rfl), HB1.out.alloc HB1.out.size _⟩
        · obtain ⟨-, -, -, -, -, -, -, c7, c8, c9, -⟩ := HX.out
          have c7' : W0.cell? ⟨w.heap.size, 7, none⟩ = some (.int .i64 (k : Int)) := c7
          rw [hW0] at c7'
          clear c8 c9 c7
          go_enter Tryz.func60, Tryz.ntmps60
          go_wp2_with fail
          clear c7'
          rw [← hW0]
          refine (HI.out _).mono ?_
          rintro e w1 ⟨rfl, hb⟩
          have c0 := at12_on HX.out hb hlt
          have HB1 := Lib.hid (thenB HB.out hb HB.out.size)
          clear hb HX HB hW0
          have HX := Lib.hid c0
          have hlt1 : w.heap.size < w1.heap.size := block_lt_of_cell c0.1
          obtain ⟨-, -, -, -, -, -, -, c7, c8, c9, -⟩ := c0
          have d7 : w1.cell? ⟨w.heap.size, 7, none⟩ = some (.int .i64 (k : Int)) := c7
          have d8 : w1.cell? ⟨w.heap.size, 8, none⟩ = some (.int .i64 (k : Int)) := c8
          have d9 : w1.cell? ⟨w.heap.size, 9, none⟩ = some (.int .i64 2) := c9
          have hl : w.heap.size < w1.heap.size := block_lt_of_cell d9
          have e9 : ∀ o, (World.alloc w1 o).cell? ⟨w.heap.size, 9, none⟩ = some (.int .i64 2) := fun o => (((Below.refl w1.heap.size w1).alloc (Nat.le_refl _) o).cell (p := ⟨w.heap.size, 9, none⟩) hl).trans d9
          clear c7 c8 c9
          go_wp2_with fail
          go_ret
          exact ⟨ret_str (by rfl), HB1.out.alloc HB1.out.size _⟩
      · have q1 : ((k : Int) == 1) = false := beq_eq_false_iff_ne.2 (by omega)
        clear e1 h2 hmk h3
        have z1 : ¬ 1 + X.size > 9223372036854775807 := by omega
        have z2 : ¬ 1 + X.size + 1 > 9223372036854775807 := by omega
        have z3 : ¬ 1 + X.size + 2 > 9223372036854775807 := by omega
        have z4 : ¬ 1 + X.size + 1 + 1 > 9223372036854775807 := by omega
        have z5 : ¬ 1 + X.size + 2 + 1 > 9223372036854775807 := by omega
        rcases (show md = 0 ∨ md = 1 ∨ md = 2 by omega) with rfl | rfl | rfl
        · obtain ⟨-, -, -, -, -, -, -, c7, c8, c9, -⟩ := HX.out
          have c7' : W0.cell? ⟨w.heap.size, 7, none⟩ = some (.int .i64 (k : Int)) := c7
          rw [hW0] at c7'
          clear c8 c9 c7
          go_enter Tryz.func60, Tryz.ntmps60
          go_wp2_with fail
          clear c7'
          rw [← hW0]
          refine (HI.out _).mono ?_
          rintro e w1 ⟨rfl, hb⟩
          have c0 := at12_on HX.out hb hlt
          have HB1 := Lib.hid (thenB HB.out hb HB.out.size)
          clear hb HX HB hW0
          have HX := Lib.hid c0
          have hlt1 : w.heap.size < w1.heap.size := block_lt_of_cell c0.1
          obtain ⟨-, -, -, -, -, -, -, c7, c8, c9, -⟩ := c0
          have d7 : w1.cell? ⟨w.heap.size, 7, none⟩ = some (.int .i64 (k : Int)) := c7
          have d8 : w1.cell? ⟨w.heap.size, 8, none⟩ = some (.int .i64 (k : Int)) := c8
          have d9 : w1.cell? ⟨w.heap.size, 9, none⟩ = some (.int .i64 0) := c9
          have hl : w.heap.size < w1.heap.size := block_lt_of_cell d9
          have e9 : ∀ o, (World.alloc w1 o).cell? ⟨w.heap.size, 9, none⟩ = some (.int .i64 0) := fun o => (((Below.refl w1.heap.size w1).alloc (Nat.le_refl _) o).cell (p := ⟨w.heap.size, 9, none⟩) hl).trans d9
          clear c7 c8 c9
          go_wp2_with fail
          go_ret
          exact ⟨ret_str (by rfl), HB1.out.alloc HB1.out.size _⟩
        · obtain ⟨-, -, -, -, -, -, -, c7, c8, c9, -⟩ := HX.out
          have c7' : W0.cell? ⟨w.heap.size, 7, none⟩ = some (.int .i64 (k : Int)) := c7
          rw [hW0] at c7'
          clear c8 c9 c7
          go_enter Tryz.func60, Tryz.ntmps60
          go_wp2_with fail
          clear c7'
          rw [← hW0]
          refine (HI.out _).mono ?_
          rintro e w1 ⟨rfl, hb⟩
          have c0 := at12_on HX.out hb hlt
          have HB1 := Lib.hid (thenB HB.out hb HB.out.size)
          clear hb HX HB hW0
          have HX := Lib.hid c0
          have hlt1 : w.heap.size < w1.heap.size := block_lt_of_cell c0.1
          obtain ⟨-, -, -, -, -, -, -, c7, c8, c9, -⟩ := c0
          have d7 : w1.cell? ⟨w.heap.size, 7, none⟩ = some (.int .i64 (k : Int)) := c7
          have d8 : w1.cell? ⟨w.heap.size, 8, none⟩ = some (.int .i64 (k : Int)) := c8
          have d9 : w1.cell? ⟨w.heap.size, 9, none⟩ = some (.int .i64 1) := c9
          have hl : w.heap.size < w1.heap.size := block_lt_of_cell d9
          have e9 : ∀ o, (World.alloc w1 o).cell? ⟨w.heap.size, 9, none⟩ = some (.int .i64 1) := fun o => (((Below.refl w1.heap.size w1).alloc (Nat.le_refl _) o).cell (p := ⟨w.heap.size, 9, none⟩) hl).trans d9
          clear c7 c8 c9
          go_wp2_with fail
          go_ret
          exact ⟨ret_str (by rfl), HB1.out.alloc HB1.out.size _⟩
        · obtain ⟨-, -, -, -, -, -, -, c7, c8, c9, -⟩ := HX.out
          have c7' : W0.cell? ⟨w.heap.size, 7, none⟩ = some (.int .i64 (k : Int)) := c7
          rw [hW0] at c7'
          clear c8 c9 c7
          go_enter Tryz.func60, Tryz.ntmps60
          go_wp2_with fail
          clear c7'
          rw [← hW0]
          refine (HI.out _).mono ?_
          rintro e w1 ⟨rfl, hb⟩
          have c0 := at12_on HX.out hb hlt
          have HB1 := Lib.hid (thenB HB.out hb HB.out.size)
          clear hb HX HB hW0
          have HX := Lib.hid c0
          have hlt1 : w.heap.size < w1.heap.size := block_lt_of_cell c0.1
          obtain ⟨-, -, -, -, -, -, -, c7, c8, c9, -⟩ := c0
          have d7 : w1.cell? ⟨w.heap.size, 7, none⟩ = some (.int .i64 (k : Int)) := c7
          have d8 : w1.cell? ⟨w.heap.size, 8, none⟩ = some (.int .i64 (k : Int)) := c8
          have d9 : w1.cell? ⟨w.heap.size, 9, none⟩ = some (.int .i64 2) := c9
          have hl : w.heap.size < w1.heap.size := block_lt_of_cell d9
          have e9 : ∀ o, (World.alloc w1 o).cell? ⟨w.heap.size, 9, none⟩ = some (.int .i64 2) := fun o => (((Below.refl w1.heap.size w1).alloc (Nat.le_refl _) o).cell (p := ⟨w.heap.size, 9, none⟩) hl).trans d9
          clear c7 c8 c9
          go_wp2_with fail
          go_ret
          exact ⟨ret_str (by rfl), HB1.out.alloc HB1.out.size _⟩
    · have HJ := Lib.hid (fun w => num8_any k (by omega) w)
      have hY : (numT k).size ≤ 3 := num_size k
      have qm : ((k : Int) == (m : Int)) = false := beq_eq_false_iff_ne.2 (by omega)
      by_cases e1 : k = 1
      · have HE := Lib.hid (show oftenB (m : Int) (k : Int) = ⟨#[63]⟩ by
          unfold oftenB
          rw [if_neg (by omega), if_neg (by omega), if_pos (by omega)])
        have q1 : ((k : Int) == 1) = true := by simp; omega
        have q0 : ((m : Int) == 0) = true := by simp; omega
        rw [HE.out]
        clear HE
        generalize numT m = X at HI hX
        generalize numT k = Y at HJ hY
        clear e1 ek h2 hmk h3
        have z1 : ¬ 1 + X.size > 9223372036854775807 := by omega
        have z2 : ¬ 1 + X.size + 1 > 9223372036854775807 := by omega
        have z3 : ¬ 1 + X.size + 2 > 9223372036854775807 := by omega
        have z4 : ¬ 1 + X.size + 1 + 1 > 9223372036854775807 := by omega
        have z5 : ¬ 1 + X.size + 2 + 1 > 9223372036854775807 := by omega
        have y1 : ¬ 1 + Y.size > 9223372036854775807 := by omega
        have y2 : ¬ 1 + Y.size + 1 > 9223372036854775807 := by omega
        have y3 : ¬ 1 + X.size + (1 + Y.size + 1) > 9223372036854775807 := by omega
        have y4 : ¬ 1 + X.size + (1 + Y.size + 1) + 1 > 9223372036854775807 := by omega
        rcases (show md = 0 ∨ md = 1 ∨ md = 2 by omega) with rfl | rfl | rfl
        · obtain ⟨-, -, -, -, -, -, -, c7, c8, c9, -⟩ := HX.out
          have c7' : W0.cell? ⟨w.heap.size, 7, none⟩ = some (.int .i64 (m : Int)) := c7
          rw [hW0] at c7'
          clear c8 c9 c7
          go_enter Tryz.func60, Tryz.ntmps60
          go_wp2_with fail
          clear c7'
          rw [← hW0]
          refine (HI.out _).mono ?_
          rintro e w1 ⟨rfl, hb⟩
          have c0 := at12_on HX.out hb hlt
          have HB1 := Lib.hid (thenB HB.out hb HB.out.size)
          clear hb HX HB hW0
          have HX := Lib.hid c0
          have hlt1 : w.heap.size < w1.heap.size := block_lt_of_cell c0.1
          obtain ⟨-, -, -, -, -, -, -, c7, c8, c9, -⟩ := c0
          have d7 : w1.cell? ⟨w.heap.size, 7, none⟩ = some (.int .i64 (m : Int)) := c7
          have d8 : w1.cell? ⟨w.heap.size, 8, none⟩ = some (.int .i64 (k : Int)) := c8
          have d9 : w1.cell? ⟨w.heap.size, 9, none⟩ = some (.int .i64 0) := c9
          have hl : w.heap.size < w1.heap.size := block_lt_of_cell d9
          have e9 : ∀ o, (World.alloc w1 o).cell? ⟨w.heap.size, 9, none⟩ = some (.int .i64 0) := fun o => (((Below.refl w1.heap.size w1).alloc (Nat.le_refl _) o).cell (p := ⟨w.heap.size, 9, none⟩) hl).trans d9
          clear c7 c8 c9
          go_wp2_with fail
          clear d7 d8 d9 hl e9
          refine (HJ.out _).mono ?_
          rintro e w2 ⟨rfl, hb⟩
          have c0 := at12_on HX.out hb hlt1
          have HB2 := Lib.hid (thenB HB1.out hb HB1.out.size)
          clear hb HX
          obtain ⟨-, -, -, -, -, -, -, c7, c8, c9, -⟩ := c0
          have d7 : w2.cell? ⟨w.heap.size, 7, none⟩ = some (.int .i64 (m : Int)) := c7
          have d8 : w2.cell? ⟨w.heap.size, 8, none⟩ = some (.int .i64 (k : Int)) := c8
          have d9 : w2.cell? ⟨w.heap.size, 9, none⟩ = some (.int .i64 0) := c9
          have hl : w.heap.size < w2.heap.size := block_lt_of_cell d9
          have e9 : ∀ o, (World.alloc w2 o).cell? ⟨w.heap.size, 9, none⟩ = some (.int .i64 0) := fun o => (((Below.refl w2.heap.size w2).alloc (Nat.le_refl _) o).cell (p := ⟨w.heap.size, 9, none⟩) hl).trans d9
          clear c7 c8 c9
          go_wp2_with fail
          go_ret
          exact ⟨ret_str (by rfl), HB2.out.alloc HB2.out.size _⟩
        · obtain ⟨-, -, -, -, -, -, -, c7, c8, c9, -⟩ := HX.out
          have c7' : W0.cell? ⟨w.heap.size, 7, none⟩ = some (.int .i64 (m : Int)) := c7
          rw [hW0] at c7'
          clear c8 c9 c7
          go_enter Tryz.func60, Tryz.ntmps60
          go_wp2_with fail
          clear c7'
          rw [← hW0]
          refine (HI.out _).mono ?_
          rintro e w1 ⟨rfl, hb⟩
          have c0 := at12_on HX.out hb hlt
          have HB1 := Lib.hid (thenB HB.out hb HB.out.size)
          clear hb HX HB hW0
          have HX := Lib.hid c0
          have hlt1 : w.heap.size < w1.heap.size := block_lt_of_cell c0.1
          obtain ⟨-, -, -, -, -, -, -, c7, c8, c9, -⟩ := c0
          have d7 : w1.cell? ⟨w.heap.size, 7, none⟩ = some (.int .i64 (m : Int)) := c7
          have d8 : w1.cell? ⟨w.heap.size, 8, none⟩ = some (.int .i64 (k : Int)) := c8
          have d9 : w1.cell? ⟨w.heap.size, 9, none⟩ = some (.int .i64 1) := c9
          have hl : w.heap.size < w1.heap.size := block_lt_of_cell d9
          have e9 : ∀ o, (World.alloc w1 o).cell? ⟨w.heap.size, 9, none⟩ = some (.int .i64 1) := fun o => (((Below.refl w1.heap.size w1).alloc (Nat.le_refl _) o).cell (p := ⟨w.heap.size, 9, none⟩) hl).trans d9
          clear c7 c8 c9
          go_wp2_with fail
          clear d7 d8 d9 hl e9
          refine (HJ.out _).mono ?_
          rintro e w2 ⟨rfl, hb⟩
          have c0 := at12_on HX.out hb hlt1
          have HB2 := Lib.hid (thenB HB1.out hb HB1.out.size)
          clear hb HX
          obtain ⟨-, -, -, -, -, -, -, c7, c8, c9, -⟩ := c0
          have d7 : w2.cell? ⟨w.heap.size, 7, none⟩ = some (.int .i64 (m : Int)) := c7
          have d8 : w2.cell? ⟨w.heap.size, 8, none⟩ = some (.int .i64 (k : Int)) := c8
          have d9 : w2.cell? ⟨w.heap.size, 9, none⟩ = some (.int .i64 1) := c9
          have hl : w.heap.size < w2.heap.size := block_lt_of_cell d9
          have e9 : ∀ o, (World.alloc w2 o).cell? ⟨w.heap.size, 9, none⟩ = some (.int .i64 1) := fun o => (((Below.refl w2.heap.size w2).alloc (Nat.le_refl _) o).cell (p := ⟨w.heap.size, 9, none⟩) hl).trans d9
          clear c7 c8 c9
          go_wp2_with fail
          go_ret
          exact ⟨ret_str (by rfl), HB2.out.alloc HB2.out.size _⟩
        · obtain ⟨-, -, -, -, -, -, -, c7, c8, c9, -⟩ := HX.out
          have c7' : W0.cell? ⟨w.heap.size, 7, none⟩ = some (.int .i64 (m : Int)) := c7
          rw [hW0] at c7'
          clear c8 c9 c7
          go_enter Tryz.func60, Tryz.ntmps60
          go_wp2_with fail
          clear c7'
          rw [← hW0]
          refine (HI.out _).mono ?_
          rintro e w1 ⟨rfl, hb⟩
          have c0 := at12_on HX.out hb hlt
          have HB1 := Lib.hid (thenB HB.out hb HB.out.size)
          clear hb HX HB hW0
          have HX := Lib.hid c0
          have hlt1 : w.heap.size < w1.heap.size := block_lt_of_cell c0.1
          obtain ⟨-, -, -, -, -, -, -, c7, c8, c9, -⟩ := c0
          have d7 : w1.cell? ⟨w.heap.size, 7, none⟩ = some (.int .i64 (m : Int)) := c7
          have d8 : w1.cell? ⟨w.heap.size, 8, none⟩ = some (.int .i64 (k : Int)) := c8
          have d9 : w1.cell? ⟨w.heap.size, 9, none⟩ = some (.int .i64 2) := c9
          have hl : w.heap.size < w1.heap.size := block_lt_of_cell d9
          have e9 : ∀ o, (World.alloc w1 o).cell? ⟨w.heap.size, 9, none⟩ = some (.int .i64 2) := fun o => (((Below.refl w1.heap.size w1).alloc (Nat.le_refl _) o).cell (p := ⟨w.heap.size, 9, none⟩) hl).trans d9
          clear c7 c8 c9
          go_wp2_with fail
          clear d7 d8 d9 hl e9
          refine (HJ.out _).mono ?_
          rintro e w2 ⟨rfl, hb⟩
          have c0 := at12_on HX.out hb hlt1
          have HB2 := Lib.hid (thenB HB1.out hb HB1.out.size)
          clear hb HX
          obtain ⟨-, -, -, -, -, -, -, c7, c8, c9, -⟩ := c0
          have d7 : w2.cell? ⟨w.heap.size, 7, none⟩ = some (.int .i64 (m : Int)) := c7
          have d8 : w2.cell? ⟨w.heap.size, 8, none⟩ = some (.int .i64 (k : Int)) := c8
          have d9 : w2.cell? ⟨w.heap.size, 9, none⟩ = some (.int .i64 2) := c9
          have hl : w.heap.size < w2.heap.size := block_lt_of_cell d9
          have e9 : ∀ o, (World.alloc w2 o).cell? ⟨w.heap.size, 9, none⟩ = some (.int .i64 2) := fun o => (((Below.refl w2.heap.size w2).alloc (Nat.le_refl _) o).cell (p := ⟨w.heap.size, 9, none⟩) hl).trans d9
          clear c7 c8 c9
          go_wp2_with fail
          go_ret
          exact ⟨ret_str (by rfl), HB2.out.alloc HB2.out.size _⟩
      · have HE := Lib.hid (show oftenB (m : Int) (k : Int) = (((⟨#[123]⟩ ++ numT m) ++ ⟨#[44]⟩) ++ numT k) ++ ⟨#[125]⟩ by
          unfold oftenB
          rw [if_neg (by omega), if_neg (by omega), if_neg (by omega), if_neg (by omega), if_neg (by omega), Int.toNat_natCast, Int.toNat_natCast])
        have q1 : ((k : Int) == 1) = false := beq_eq_false_iff_ne.2 (by omega)
        rw [HE.out]
        clear HE
        generalize numT m = X at HI hX
        generalize numT k = Y at HJ hY
        rw [show ((((⟨#[123]⟩ : ByteArray) ++ X) ++ ⟨#[44]⟩) ++ Y) ++ ⟨#[125]⟩ = (⟨#[123]⟩ ++ X) ++ ((⟨#[44]⟩ ++ Y) ++ ⟨#[125]⟩) by simp only [ByteArray.append_assoc]]
        clear e1 ek h2 hmk h3
        have z1 : ¬ 1 + X.size > 9223372036854775807 := by omega
        have z2 : ¬ 1 + X.size + 1 > 9223372036854775807 := by omega
        have z3 : ¬ 1 + X.size + 2 > 9223372036854775807 := by omega
        have z4 : ¬ 1 + X.size + 1 + 1 > 9223372036854775807 := by omega
        have z5 : ¬ 1 + X.size + 2 + 1 > 9223372036854775807 := by omega
        have y1 : ¬ 1 + Y.size > 9223372036854775807 := by omega
        have y2 : ¬ 1 + Y.size + 1 > 9223372036854775807 := by omega
        have y3 : ¬ 1 + X.size + (1 + Y.size + 1) > 9223372036854775807 := by omega
        have y4 : ¬ 1 + X.size + (1 + Y.size + 1) + 1 > 9223372036854775807 := by omega
        rcases (show md = 0 ∨ md = 1 ∨ md = 2 by omega) with rfl | rfl | rfl
        · obtain ⟨-, -, -, -, -, -, -, c7, c8, c9, -⟩ := HX.out
          have c7' : W0.cell? ⟨w.heap.size, 7, none⟩ = some (.int .i64 (m : Int)) := c7
          rw [hW0] at c7'
          clear c8 c9 c7
          go_enter Tryz.func60, Tryz.ntmps60
          go_wp2_with fail
          clear c7'
          rw [← hW0]
          refine (HI.out _).mono ?_
          rintro e w1 ⟨rfl, hb⟩
          have c0 := at12_on HX.out hb hlt
          have HB1 := Lib.hid (thenB HB.out hb HB.out.size)
          clear hb HX HB hW0
          have HX := Lib.hid c0
          have hlt1 : w.heap.size < w1.heap.size := block_lt_of_cell c0.1
          obtain ⟨-, -, -, -, -, -, -, c7, c8, c9, -⟩ := c0
          have d7 : w1.cell? ⟨w.heap.size, 7, none⟩ = some (.int .i64 (m : Int)) := c7
          have d8 : w1.cell? ⟨w.heap.size, 8, none⟩ = some (.int .i64 (k : Int)) := c8
          have d9 : w1.cell? ⟨w.heap.size, 9, none⟩ = some (.int .i64 0) := c9
          have hl : w.heap.size < w1.heap.size := block_lt_of_cell d9
          have e9 : ∀ o, (World.alloc w1 o).cell? ⟨w.heap.size, 9, none⟩ = some (.int .i64 0) := fun o => (((Below.refl w1.heap.size w1).alloc (Nat.le_refl _) o).cell (p := ⟨w.heap.size, 9, none⟩) hl).trans d9
          clear c7 c8 c9
          go_wp2_with fail
          clear d7 d8 d9 hl e9
          refine (HJ.out _).mono ?_
          rintro e w2 ⟨rfl, hb⟩
          have c0 := at12_on HX.out hb hlt1
          have HB2 := Lib.hid (thenB HB1.out hb HB1.out.size)
          clear hb HX
          obtain ⟨-, -, -, -, -, -, -, c7, c8, c9, -⟩ := c0
          have d7 : w2.cell? ⟨w.heap.size, 7, none⟩ = some (.int .i64 (m : Int)) := c7
          have d8 : w2.cell? ⟨w.heap.size, 8, none⟩ = some (.int .i64 (k : Int)) := c8
          have d9 : w2.cell? ⟨w.heap.size, 9, none⟩ = some (.int .i64 0) := c9
          have hl : w.heap.size < w2.heap.size := block_lt_of_cell d9
          have e9 : ∀ o, (World.alloc w2 o).cell? ⟨w.heap.size, 9, none⟩ = some (.int .i64 0) := fun o => (((Below.refl w2.heap.size w2).alloc (Nat.le_refl _) o).cell (p := ⟨w.heap.size, 9, none⟩) hl).trans d9
          clear c7 c8 c9
          go_wp2_with fail
          go_ret
          exact ⟨ret_str (by rfl), HB2.out.alloc HB2.out.size _⟩
        · obtain ⟨-, -, -, -, -, -, -, c7, c8, c9, -⟩ := HX.out
          have c7' : W0.cell? ⟨w.heap.size, 7, none⟩ = some (.int .i64 (m : Int)) := c7
          rw [hW0] at c7'
          clear c8 c9 c7
          go_enter Tryz.func60, Tryz.ntmps60
          go_wp2_with fail
          clear c7'
          rw [← hW0]
          refine (HI.out _).mono ?_
          rintro e w1 ⟨rfl, hb⟩
          have c0 := at12_on HX.out hb hlt
          have HB1 := Lib.hid (thenB HB.out hb HB.out.size)
          clear hb HX HB hW0
          have HX := Lib.hid c0
          have hlt1 : w.heap.size < w1.heap.size := block_lt_of_cell c0.1
          obtain ⟨-, -, -, -, -, -, -, c7, c8, c9, -⟩ := c0
          have d7 : w1.cell? ⟨w.heap.size, 7, none⟩ = some (.int .i64 (m : Int)) := c7
          have d8 : w1.cell? ⟨w.heap.size, 8, none⟩ = some (.int .i64 (k : Int)) := c8
          have d9 : w1.cell? ⟨w.heap.size, 9, none⟩ = some (.int .i64 1) := c9
          have hl : w.heap.size < w1.heap.size := block_lt_of_cell d9
          have e9 : ∀ o, (World.alloc w1 o).cell? ⟨w.heap.size, 9, none⟩ = some (.int .i64 1) := fun o => (((Below.refl w1.heap.size w1).alloc (Nat.le_refl _) o).cell (p := ⟨w.heap.size, 9, none⟩) hl).trans d9
          clear c7 c8 c9
          go_wp2_with fail
          clear d7 d8 d9 hl e9
          refine (HJ.out _).mono ?_
          rintro e w2 ⟨rfl, hb⟩
          have c0 := at12_on HX.out hb hlt1
          have HB2 := Lib.hid (thenB HB1.out hb HB1.out.size)
          clear hb HX
          obtain ⟨-, -, -, -, -, -, -, c7, c8, c9, -⟩ := c0
          have d7 : w2.cell? ⟨w.heap.size, 7, none⟩ = some (.int .i64 (m : Int)) := c7
          have d8 : w2.cell? ⟨w.heap.size, 8, none⟩ = some (.int .i64 (k : Int)) := c8
          have d9 : w2.cell? ⟨w.heap.size, 9, none⟩ = some (.int .i64 1) := c9
          have hl : w.heap.size < w2.heap.size := block_lt_of_cell d9
          have e9 : ∀ o, (World.alloc w2 o).cell? ⟨w.heap.size, 9, none⟩ = some (.int .i64 1) := fun o => (((Below.refl w2.heap.size w2).alloc (Nat.le_refl _) o).cell (p := ⟨w.heap.size, 9, none⟩) hl).trans d9
          clear c7 c8 c9
          go_wp2_with fail
          go_ret
          exact ⟨ret_str (by rfl), HB2.out.alloc HB2.out.size _⟩
        · obtain ⟨-, -, -, -, -, -, -, c7, c8, c9, -⟩ := HX.out
          have c7' : W0.cell? ⟨w.heap.size, 7, none⟩ = some (.int .i64 (m : Int)) := c7
          rw [hW0] at c7'
          clear c8 c9 c7
          go_enter Tryz.func60, Tryz.ntmps60
          go_wp2_with fail
          clear c7'
          rw [← hW0]
          refine (HI.out _).mono ?_
          rintro e w1 ⟨rfl, hb⟩
          have c0 := at12_on HX.out hb hlt
          have HB1 := Lib.hid (thenB HB.out hb HB.out.size)
          clear hb HX HB hW0
          have HX := Lib.hid c0
          have hlt1 : w.heap.size < w1.heap.size := block_lt_of_cell c0.1
          obtain ⟨-, -, -, -, -, -, -, c7, c8, c9, -⟩ := c0
          have d7 : w1.cell? ⟨w.heap.size, 7, none⟩ = some (.int .i64 (m : Int)) := c7
          have d8 : w1.cell? ⟨w.heap.size, 8, none⟩ = some (.int .i64 (k : Int)) := c8
          have d9 : w1.cell? ⟨w.heap.size, 9, none⟩ = some (.int .i64 2) := c9
          have hl : w.heap.size < w1.heap.size := block_lt_of_cell d9
          have e9 : ∀ o, (World.alloc w1 o).cell? ⟨w.heap.size, 9, none⟩ = some (.int .i64 2) := fun o => (((Below.refl w1.heap.size w1).alloc (Nat.le_refl _) o).cell (p := ⟨w.heap.size, 9, none⟩) hl).trans d9
          clear c7 c8 c9
          go_wp2_with fail
          clear d7 d8 d9 hl e9
          refine (HJ.out _).mono ?_
          rintro e w2 ⟨rfl, hb⟩
          have c0 := at12_on HX.out hb hlt1
          have HB2 := Lib.hid (thenB HB1.out hb HB1.out.size)
          clear hb HX
          obtain ⟨-, -, -, -, -, -, -, c7, c8, c9, -⟩ := c0
          have d7 : w2.cell? ⟨w.heap.size, 7, none⟩ = some (.int .i64 (m : Int)) := c7
          have d8 : w2.cell? ⟨w.heap.size, 8, none⟩ = some (.int .i64 (k : Int)) := c8
          have d9 : w2.cell? ⟨w.heap.size, 9, none⟩ = some (.int .i64 2) := c9
          have hl : w.heap.size < w2.heap.size := block_lt_of_cell d9
          have e9 : ∀ o, (World.alloc w2 o).cell? ⟨w.heap.size, 9, none⟩ = some (.int .i64 2) := fun o => (((Below.refl w2.heap.size w2).alloc (Nat.le_refl _) o).cell (p := ⟨w.heap.size, 9, none⟩) hl).trans d9
          clear c7 c8 c9
          go_wp2_with fail
          go_ret
          exact ⟨ret_str (by rfl), HB2.out.alloc HB2.out.size _⟩
end Go.Proofs.YtfejdengpnikeaaGreatDoor
