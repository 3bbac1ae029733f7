/-
  Layer 8, the document's answer: a node's pattern: leaves, a Back, a node around another one.
-/
import Derived.Test.YtfejdengpnikeaaGreatDoorShoRefD
namespace Go.Proofs.YtfejdengpnikeaaGreatDoor
open Go.RowKit
open Ast (Nd ndV ndC siz Nodes At12)

section
variable {ops : Array Oper} {a : Act} {o : Oper} {x : Operand}
theorem loadStr_run {w : World} {p : Addr} {s : ByteArray} (ho : o.op = .load 9 x) (hx : a.eval x = .pointer (some p)) (hc : w.cell? p = some (.string s)) : (execOp a.eval o).run Tryz.prog w = .ok (.value (.string s)) w := by
  unfold execOp
  simp only [ho, hx]
  simp [go_sem, hc]
end
set_option maxRecDepth 20000 in
set_option maxHeartbeats 8000000 in
theorem node8_leaf0 (A : Option Addr) (n cap : Nat) (l : Nat → Nd) (i : Nat) (hi : i < n) (hn : n ≤ 500) (hk : (l i).k = 0) : Node8 A n cap l i ⟨#[40, 63, 58, 41]⟩ := by
  intro w hl
  obtain ⟨b, o, rfl, hN⟩ := hl.at_ (show 0 < n by omega)
  have r1 : (i : Int) < (n : Int) := by omega
  obtain ⟨c0, c1, c2, c3, c4, c5, c6, c7, c8, c9, c10, c11⟩ := hN.2 i hi
  obtain ⟨V, hV⟩ : ∃ V, V = w.alloc (.cells (ndC (l i)).toArray 64) := ⟨_, rfl⟩
  have HX := Lib.hid (show At12 V w.heap.size 0 (l i) by rw [hV]; exact refBox w (l i))
  have HB := Lib.hid (show Below w.heap.size w V by rw [hV]; exact (Below.refl _ w).alloc (Nat.le_refl _) _)
  have HN := Lib.hid (hl.below HB.out (Nat.le_refl _))
  simp only [ndC] at hV
  rw [hk] at c0 hV
  clear hl hN
  go_enter Tryz.func20, Tryz.ntmps20
  go_wp2_with fail
  rw [← hV]
  clear c0 c1 c2 c3 c4 c5 c6 c7 c8 c9 c10 c11 hV
  have HC := Lib.hid (show V.cell? ⟨w.heap.size, 0, none⟩ = some (.int .i64 0) from by rw [← hk]; exact HX.out.1)
  have hg : w.heap.size < V.heap.size := block_lt_of_cell HC.out
  clear hk
  refine (Ast.rkids_any _ _).mono ?_
  rintro e u1 ⟨rfl, rfl⟩
  rw [show Ast.kidsZ 0 = 0 from rfl]
  have HV := Lib.hid (Below.refl V.heap.size V)
  have hs1 : (convert 71 9 (.slice (some ⟨V.heap.size, 0, none⟩) 2 2)).run Tryz.prog (V.alloc (.cells #[.int .u8 92, .int .u8 98] 5)) = .ok (.string ⟨#[92, 98]⟩) (V.alloc (.cells #[.int .u8 92, .int .u8 98] 5)) := strOf V [92, 98]
  have hs2 : (convert 71 9 (.slice (some ⟨V.heap.size + 1, 0, none⟩) 2 2)).run Tryz.prog ((V.alloc (.cells #[.int .u8 92, .int .u8 98] 5)).alloc (.cells #[.int .u8 92, .int .u8 66] 5)) = .ok (.string ⟨#[92, 66]⟩) ((V.alloc (.cells #[.int .u8 92, .int .u8 98] 5)).alloc (.cells #[.int .u8 92, .int .u8 66] 5)) := by have h := strOf (V.alloc (.cells #[.int .u8 92, .int .u8 98] 5)) [92, 66]; rw [World.size_alloc] at h; exact h
  have k0 : ∀ o1 o2 o3, (((V.alloc o1).alloc o2).alloc o3).cell? ⟨w.heap.size, 0, none⟩ = some (.int .i64 0) := fun o1 o2 o3 => ((((Below.refl V.heap.size V).alloc (Nat.le_refl _) o1).alloc (by simp) o2).alloc (by simp; omega) o3).cell (p := ⟨w.heap.size, 0, none⟩) hg |>.trans HC.out
  go_wp2_with fail
  go_ret
  exact ⟨rfl, HB.out.trans ((show Below V.heap.size V _ by go_grown).mono HB.out.size)⟩
set_option maxRecDepth 20000 in
set_option maxHeartbeats 8000000 in
theorem node8_leaf2 (A : Option Addr) (n cap : Nat) (l : Nat → Nd) (i : Nat) (hi : i < n) (hn : n ≤ 500) (hk : (l i).k = 2) : Node8 A n cap l i ⟨#[94]⟩ := by
  intro w hl
  obtain ⟨b, o, rfl, hN⟩ := hl.at_ (show 0 < n by omega)
  have r1 : (i : Int) < (n : Int) := by omega
  obtain ⟨c0, c1, c2, c3, c4, c5, c6, c7, c8, c9, c10, c11⟩ := hN.2 i hi
  obtain ⟨V, hV⟩ : ∃ V, V = w.alloc (.cells (ndC (l i)).toArray 64) := ⟨_, rfl⟩
  have HX := Lib.hid (show At12 V w.heap.size 0 (l i) by rw [hV]; exact refBox w (l i))
  have HB := Lib.hid (show Below w.heap.size w V by rw [hV]; exact (Below.refl _ w).alloc (Nat.le_refl _) _)
  have HN := Lib.hid (hl.below HB.out (Nat.le_refl _))
  simp only [ndC] at hV
  rw [hk] at c0 hV
  clear hl hN
  go_enter Tryz.func20, Tryz.ntmps20
  go_wp2_with fail
  rw [← hV]
  clear c0 c1 c2 c3 c4 c5 c6 c7 c8 c9 c10 c11 hV
  have HC := Lib.hid (show V.cell? ⟨w.heap.size, 0, none⟩ = some (.int .i64 2) from by rw [← hk]; exact HX.out.1)
  have hg : w.heap.size < V.heap.size := block_lt_of_cell HC.out
  clear hk
  refine (Ast.rkids_any _ _).mono ?_
  rintro e u1 ⟨rfl, rfl⟩
  rw [show Ast.kidsZ 2 = 0 from rfl]
  have HV := Lib.hid (Below.refl V.heap.size V)
  have hs1 : (convert 71 9 (.slice (some ⟨V.heap.size, 0, none⟩) 2 2)).run Tryz.prog (V.alloc (.cells #[.int .u8 92, .int .u8 98] 5)) = .ok (.string ⟨#[92, 98]⟩) (V.alloc (.cells #[.int .u8 92, .int .u8 98] 5)) := strOf V [92, 98]
  have hs2 : (convert 71 9 (.slice (some ⟨V.heap.size + 1, 0, none⟩) 2 2)).run Tryz.prog ((V.alloc (.cells #[.int .u8 92, .int .u8 98] 5)).alloc (.cells #[.int .u8 92, .int .u8 66] 5)) = .ok (.string ⟨#[92, 66]⟩) ((V.alloc (.cells #[.int .u8 92, .int .u8 98] 5)).alloc (.cells #[.int .u8 92, .int .u8 66] 5)) := by have h := strOf (V.alloc (.cells #[.int .u8 92, .int .u8 98] 5)) [92, 66]; rw [World.size_alloc] at h; exact h
  have k0 : ∀ o1 o2 o3, (((V.alloc o1).alloc o2).alloc o3).cell? ⟨w.heap.size, 0, none⟩ = some (.int .i64 2) := fun o1 o2 o3 => ((((Below.refl V.heap.size V).alloc (Nat.le_refl _) o1).alloc (by simp) o2).alloc (by simp; omega) o3).cell (p := ⟨w.heap.size, 0, none⟩) hg |>.trans HC.out
  go_wp2_with fail
  go_ret
  exact ⟨rfl, HB.out.trans ((show Below V.heap.size V _ by go_grown).mono HB.out.size)⟩
set_option maxRecDepth 20000 in
set_option maxHeartbeats 8000000 in
theorem node8_leaf3 (A : Option Addr) (n cap : Nat) (l : Nat → Nd) (i : Nat) (hi : i < n) (hn : n ≤ 500) (hk : (l i).k = 3) : Node8 A n cap l i ⟨#[36]⟩ := by
  intro w hl
  obtain ⟨b, o, rfl, hN⟩ := hl.at_ (show 0 < n by omega)
  have r1 : (i : Int) < (n : Int) := by omega
  obtain ⟨c0, c1, c2, c3, c4, c5, c6, c7, c8, c9, c10, c11⟩ := hN.2 i hi
  obtain ⟨V, hV⟩ : ∃ V, V = w.alloc (.cells (ndC (l i)).toArray 64) := ⟨_, rfl⟩
  have HX := Lib.hid (show At12 V w.heap.size 0 (l i) by rw [hV]; exact refBox w (l i))
  have HB := Lib.hid (show Below w.heap.size w V by rw [hV]; exact (Below.refl _ w).alloc (Nat.le_refl _) _)
  have HN := Lib.hid (hl.below HB.out (Nat.le_refl _))
  simp only [ndC] at hV
  rw [hk] at c0 hV
  clear hl hN
  go_enter Tryz.func20, Tryz.ntmps20
  go_wp2_with fail
  rw [← hV]
  clear c0 c1 c2 c3 c4 c5 c6 c7 c8 c9 c10 c11 hV
  have HC := Lib.hid (show V.cell? ⟨w.heap.size, 0, none⟩ = some (.int .i64 3) from by rw [← hk]; exact HX.out.1)
  have hg : w.heap.size < V.heap.size := block_lt_of_cell HC.out
  clear hk
  refine (Ast.rkids_any _ _).mono ?_
  rintro e u1 ⟨rfl, rfl⟩
  rw [show Ast.kidsZ 3 = 0 from rfl]
  have HV := Lib.hid (Below.refl V.heap.size V)
  have hs1 : (convert 71 9 (.slice (some ⟨V.heap.size, 0, none⟩) 2 2)).run Tryz.prog (V.alloc (.cells #[.int .u8 92, .int .u8 98] 5)) = .ok (.string ⟨#[92, 98]⟩) (V.alloc (.cells #[.int .u8 92, .int .u8 98] 5)) := strOf V [92, 98]
  have hs2 : (convert 71 9 (.slice (some ⟨V.heap.size + 1, 0, none⟩) 2 2)).run Tryz.prog ((V.alloc (.cells #[.int .u8 92, .int .u8 98] 5)).alloc (.cells #[.int .u8 92, .int .u8 66] 5)) = .ok (.string ⟨#[92, 66]⟩) ((V.alloc (.cells #[.int .u8 92, .int .u8 98] 5)).alloc (.cells #[.int .u8 92, .int .u8 66] 5)) := by have h := strOf (V.alloc (.cells #[.int .u8 92, .int .u8 98] 5)) [92, 66]; rw [World.size_alloc] at h; exact h
  have k0 : ∀ o1 o2 o3, (((V.alloc o1).alloc o2).alloc o3).cell? ⟨w.heap.size, 0, none⟩ = some (.int .i64 3) := fun o1 o2 o3 => ((((Below.refl V.heap.size V).alloc (Nat.le_refl _) o1).alloc (by simp) o2).alloc (by simp; omega) o3).cell (p := ⟨w.heap.size, 0, none⟩) hg |>.trans HC.out
  go_wp2_with fail
  go_ret
  exact ⟨rfl, HB.out.trans ((show Below V.heap.size V _ by go_grown).mono HB.out.size)⟩
set_option maxRecDepth 20000 in
set_option maxHeartbeats 8000000 in
theorem node8_leaf4 (A : Option Addr) (n cap : Nat) (l : Nat → Nd) (i : Nat) (hi : i < n) (hn : n ≤ 500) (hk : (l i).k = 4) : Node8 A n cap l i ⟨#[40, 63, 109, 58, 94, 41]⟩ := by
  intro w hl
  obtain ⟨b, o, rfl, hN⟩ := hl.at_ (show 0 < n by omega)
  have r1 : (i : Int) < (n : Int) := by omega
  obtain ⟨c0, c1, c2, c3, c4, c5, c6, c7, c8, c9, c10, c11⟩ := hN.2 i hi
  obtain ⟨V, hV⟩ : ∃ V, V = w.alloc (.cells (ndC (l i)).toArray 64) := ⟨_, rfl⟩
  have HX := Lib.hid (show At12 V w.heap.size 0 (l i) by rw [hV]; exact refBox w (l i))
  have HB := Lib.hid (show Below w.heap.size w V by rw [hV]; exact (Below.refl _ w).alloc (Nat.le_refl _) _)
  have HN := Lib.hid (hl.below HB.out (Nat.le_refl _))
  simp only [ndC] at hV
  rw [hk] at c0 hV
  clear hl hN
  go_enter Tryz.func20, Tryz.ntmps20
  go_wp2_with fail
  rw [← hV]
  clear c0 c1 c2 c3 c4 c5 c6 c7 c8 c9 c10 c11 hV
  have HC := Lib.hid (show V.cell? ⟨w.heap.size, 0, none⟩ = some (.int .i64 4) from by rw [← hk]; exact HX.out.1)
  have hg : w.heap.size < V.heap.size := block_lt_of_cell HC.out
  clear hk
  refine (Ast.rkids_any _ _).mono ?_
  rintro e u1 ⟨rfl, rfl⟩
  rw [show Ast.kidsZ 4 = 0 from rfl]
  have HV := Lib.hid (Below.refl V.heap.size V)
  have hs1 : (convert 71 9 (.slice (some ⟨V.heap.size, 0, none⟩) 2 2)).run Tryz.prog (V.alloc (.cells #[.int .u8 92, .int .u8 98] 5)) = .ok (.string ⟨#[92, 98]⟩) (V.alloc (.cells #[.int .u8 92, .int .u8 98] 5)) := strOf V [92, 98]
  have hs2 : (convert 71 9 (.slice (some ⟨V.heap.size + 1, 0, none⟩) 2 2)).run Tryz.prog ((V.alloc (.cells #[.int .u8 92, .int .u8 98] 5)).alloc (.cells #[.int .u8 92, .int .u8 66] 5)) = .ok (.string ⟨#[92, 66]⟩) ((V.alloc (.cells #[.int .u8 92, .int .u8 98] 5)).alloc (.cells #[.int .u8 92, .int .u8 66] 5)) := by have h := strOf (V.alloc (.cells #[.int .u8 92, .int .u8 98] 5)) [92, 66]; rw [World.size_alloc] at h; exact h
  have k0 : ∀ o1 o2 o3, (((V.alloc o1).alloc o2).alloc o3).cell? ⟨w.heap.size, 0, none⟩ = some (.int .i64 4) := fun o1 o2 o3 => ((((Below.refl V.heap.size V).alloc (Nat.le_refl _) o1).alloc (by simp) o2).alloc (by simp; omega) o3).cell (p := ⟨w.heap.size, 0, none⟩) hg |>.trans HC.out
  go_wp2_with fail
  go_ret
  exact ⟨rfl, HB.out.trans ((show Below V.heap.size V _ by go_grown).mono HB.out.size)⟩
set_option maxRecDepth 20000 in
set_option maxHeartbeats 8000000 in
theorem node8_leaf5 (A : Option Addr) (n cap : Nat) (l : Nat → Nd) (i : Nat) (hi : i < n) (hn : n ≤ 500) (hk : (l i).k = 5) : Node8 A n cap l i ⟨#[40, 63, 109, 58, 36, 41]⟩ := by
  intro w hl
  obtain ⟨b, o, rfl, hN⟩ := hl.at_ (show 0 < n by omega)
  have r1 : (i : Int) < (n : Int) := by omega
  obtain ⟨c0, c1, c2, c3, c4, c5, c6, c7, c8, c9, c10, c11⟩ := hN.2 i hi
  obtain ⟨V, hV⟩ : ∃ V, V = w.alloc (.cells (ndC (l i)).toArray 64) := ⟨_, rfl⟩
  have HX := Lib.hid (show At12 V w.heap.size 0 (l i) by rw [hV]; exact refBox w (l i))
  have HB := Lib.hid (show Below w.heap.size w V by rw [hV]; exact (Below.refl _ w).alloc (Nat.le_refl _) _)
  have HN := Lib.hid (hl.below HB.out (Nat.le_refl _))
  simp only [ndC] at hV
  rw [hk] at c0 hV
  clear hl hN
  go_enter Tryz.func20, Tryz.ntmps20
  go_wp2_with fail
  rw [← hV]
  clear c0 c1 c2 c3 c4 c5 c6 c7 c8 c9 c10 c11 hV
  have HC := Lib.hid (show V.cell? ⟨w.heap.size, 0, none⟩ = some (.int .i64 5) from by rw [← hk]; exact HX.out.1)
  have hg : w.heap.size < V.heap.size := block_lt_of_cell HC.out
  clear hk
  refine (Ast.rkids_any _ _).mono ?_
  rintro e u1 ⟨rfl, rfl⟩
  rw [show Ast.kidsZ 5 = 0 from rfl]
  have HV := Lib.hid (Below.refl V.heap.size V)
  have hs1 : (convert 71 9 (.slice (some ⟨V.heap.size, 0, none⟩) 2 2)).run Tryz.prog (V.alloc (.cells #[.int .u8 92, .int .u8 98] 5)) = .ok (.string ⟨#[92, 98]⟩) (V.alloc (.cells #[.int .u8 92, .int .u8 98] 5)) := strOf V [92, 98]
  have hs2 : (convert 71 9 (.slice (some ⟨V.heap.size + 1, 0, none⟩) 2 2)).run Tryz.prog ((V.alloc (.cells #[.int .u8 92, .int .u8 98] 5)).alloc (.cells #[.int .u8 92, .int .u8 66] 5)) = .ok (.string ⟨#[92, 66]⟩) ((V.alloc (.cells #[.int .u8 92, .int .u8 98] 5)).alloc (.cells #[.int .u8 92, .int .u8 66] 5)) := by have h := strOf (V.alloc (.cells #[.int .u8 92, .int .u8 98] 5)) [92, 66]; rw [World.size_alloc] at h; exact h
  have k0 : ∀ o1 o2 o3, (((V.alloc o1).alloc o2).alloc o3).cell? ⟨w.heap.size, 0, none⟩ = some (.int .i64 5) := fun o1 o2 o3 => ((((Below.refl V.heap.size V).alloc (Nat.le_refl _) o1).alloc (by simp) o2).alloc (by simp; omega) o3).cell (p := ⟨w.heap.size, 0, none⟩) hg |>.trans HC.out
  go_wp2_with fail
  go_ret
  exact ⟨rfl, HB.out.trans ((show Below V.heap.size V _ by go_grown).mono HB.out.size)⟩
set_option maxRecDepth 20000 in
set_option maxHeartbeats 8000000 in
theorem node8_leaf6 (A : Option Addr) (n cap : Nat) (l : Nat → Nd) (i : Nat) (hi : i < n) (hn : n ≤ 500) (hk : (l i).k = 6) : Node8 A n cap l i ⟨#[92, 98]⟩ := by
  intro w hl
  obtain ⟨b, o, rfl, hN⟩ := hl.at_ (show 0 < n by omega)
  have r1 : (i : Int) < (n : Int) := by omega
  obtain ⟨c0, c1, c2, c3, c4, c5, c6, c7, c8, c9, c10, c11⟩ := hN.2 i hi
  obtain ⟨V, hV⟩ : ∃ V, V = w.alloc (.cells (ndC (l i)).toArray 64) := ⟨_, rfl⟩
  have HX := Lib.hid (show At12 V w.heap.size 0 (l i) by rw [hV]; exact refBox w (l i))
  have HB := Lib.hid (show Below w.heap.size w V by rw [hV]; exact (Below.refl _ w).alloc (Nat.le_refl _) _)
  have HN := Lib.hid (hl.below HB.out (Nat.le_refl _))
  simp only [ndC] at hV
  rw [hk] at c0 hV
  clear hl hN
  go_enter Tryz.func20, Tryz.ntmps20
  go_wp2_with fail
  rw [← hV]
  clear c0 c1 c2 c3 c4 c5 c6 c7 c8 c9 c10 c11 hV
  have HC := Lib.hid (show V.cell? ⟨w.heap.size, 0, none⟩ = some (.int .i64 6) from by rw [← hk]; exact HX.out.1)
  have hg : w.heap.size < V.heap.size := block_lt_of_cell HC.out
  clear hk
  refine (Ast.rkids_any _ _).mono ?_
  rintro e u1 ⟨rfl, rfl⟩
  rw [show Ast.kidsZ 6 = 0 from rfl]
  have HV := Lib.hid (Below.refl V.heap.size V)
  have hs1 : (convert 71 9 (.slice (some ⟨V.heap.size, 0, none⟩) 2 2)).run Tryz.prog (V.alloc (.cells #[.int .u8 92, .int .u8 98] 5)) = .ok (.string ⟨#[92, 98]⟩) (V.alloc (.cells #[.int .u8 92, .int .u8 98] 5)) := strOf V [92, 98]
  have hs2 : (convert 71 9 (.slice (some ⟨V.heap.size + 1, 0, none⟩) 2 2)).run Tryz.prog ((V.alloc (.cells #[.int .u8 92, .int .u8 98] 5)).alloc (.cells #[.int .u8 92, .int .u8 66] 5)) = .ok (.string ⟨#[92, 66]⟩) ((V.alloc (.cells #[.int .u8 92, .int .u8 98] 5)).alloc (.cells #[.int .u8 92, .int .u8 66] 5)) := by have h := strOf (V.alloc (.cells #[.int .u8 92, .int .u8 98] 5)) [92, 66]; rw [World.size_alloc] at h; exact h
  have k0 : ∀ o1 o2 o3, (((V.alloc o1).alloc o2).alloc o3).cell? ⟨w.heap.size, 0, none⟩ = some (.int .i64 6) := fun o1 o2 o3 => ((((Below.refl V.heap.size V).alloc (Nat.le_refl _) o1).alloc (by simp) o2).alloc (by simp; omega) o3).cell (p := ⟨w.heap.size, 0, none⟩) hg |>.trans HC.out
  go_wp2_with fail
  go_ret
  exact ⟨rfl, HB.out.trans ((show Below V.heap.size V _ by go_grown).mono HB.out.size)⟩
set_option maxRecDepth 20000 in
set_option maxHeartbeats 8000000 in
theorem node8_leaf7 (A : Option Addr) (n cap : Nat) (l : Nat → Nd) (i : Nat) (hi : i < n) (hn : n ≤ 500) (hk : (l i).k = 7) : Node8 A n cap l i ⟨#[92, 66]⟩ := by
  intro w hl
  obtain ⟨b, o, rfl, hN⟩ := hl.at_ (show 0 < n by omega)
  have r1 : (i : Int) < (n : Int) := by omega
  obtain ⟨c0, c1, c2, c3, c4, c5, c6, c7, c8, c9, c10, c11⟩ := hN.2 i hi
  obtain ⟨V, hV⟩ : ∃ V, V = w.alloc (.cells (ndC (l i)).toArray 64) := ⟨_, rfl⟩
  have HX := Lib.hid (show At12 V w.heap.size 0 (l i) by rw [hV]; exact refBox w (l i))
  have HB := Lib.hid (show Below w.heap.size w V by rw [hV]; exact (Below.refl _ w).alloc (Nat.le_refl _) _)
  have HN := Lib.hid (hl.below HB.out (Nat.le_refl _))
  simp only [ndC] at hV
  rw [hk] at c0 hV
  clear hl hN
  go_enter Tryz.func20, Tryz.ntmps20
  go_wp2_with fail
  rw [← hV]
  clear c0 c1 c2 c3 c4 c5 c6 c7 c8 c9 c10 c11 hV
  have HC := Lib.hid (show V.cell? ⟨w.heap.size, 0, none⟩ = some (.int .i64 7) from by rw [← hk]; exact HX.out.1)
  have hg : w.heap.size < V.heap.size := block_lt_of_cell HC.out
  clear hk
  refine (Ast.rkids_any _ _).mono ?_
  rintro e u1 ⟨rfl, rfl⟩
  rw [show Ast.kidsZ 7 = 0 from rfl]
  have HV := Lib.hid (Below.refl V.heap.size V)
  have hs1 : (convert 71 9 (.slice (some ⟨V.heap.size, 0, none⟩) 2 2)).run Tryz.prog (V.alloc (.cells #[.int .u8 92, .int .u8 98] 5)) = .ok (.string ⟨#[92, 98]⟩) (V.alloc (.cells #[.int .u8 92, .int .u8 98] 5)) := strOf V [92, 98]
  have hs2 : (convert 71 9 (.slice (some ⟨V.heap.size + 1, 0, none⟩) 2 2)).run Tryz.prog ((V.alloc (.cells #[.int .u8 92, .int .u8 98] 5)).alloc (.cells #[.int .u8 92, .int .u8 66] 5)) = .ok (.string ⟨#[92, 66]⟩) ((V.alloc (.cells #[.int .u8 92, .int .u8 98] 5)).alloc (.cells #[.int .u8 92, .int .u8 66] 5)) := by have h := strOf (V.alloc (.cells #[.int .u8 92, .int .u8 98] 5)) [92, 66]; rw [World.size_alloc] at h; exact h
  have k0 : ∀ o1 o2 o3, (((V.alloc o1).alloc o2).alloc o3).cell? ⟨w.heap.size, 0, none⟩ = some (.int .i64 7) := fun o1 o2 o3 => ((((Below.refl V.heap.size V).alloc (Nat.le_refl _) o1).alloc (by simp) o2).alloc (by simp; omega) o3).cell (p := ⟨w.heap.size, 0, none⟩) hg |>.trans HC.out
  go_wp2_with fail
  go_ret
  exact ⟨rfl, HB.out.trans ((show Below V.heap.size V _ by go_grown).mono HB.out.size)⟩
set_option maxRecDepth 20000 in
set_option maxHeartbeats 8000000 in
theorem node8_open11 (A : Option Addr) (n cap : Nat) (l : Nat → Nd) (i : Nat) (hi : i < n) (hn : n ≤ 500) (hk : (l i).k = 11) (ja : Nat) (ha : (l i).a = (ja : Int)) (_hja : ja < i) (sa : ByteArray) (za : sa.size ≤ 3000000) (NA : Node8 A n cap l ja sa) : Node8 A n cap l i ((⟨#[40]⟩ ++ sa) ++ ⟨#[41]⟩) := by
  intro w hl
  have W1 := Lib.hid NA
  have y1 : ((⟨#[40]⟩ : ByteArray) ++ sa).size ≤ sa.size + 4 := by rw [ByteArray.size_append]; show 1 + sa.size ≤ _; omega
  clear NA
  obtain ⟨b, o, rfl, hN⟩ := hl.at_ (show 0 < n by omega)
  have r1 : (i : Int) < (n : Int) := by omega
  obtain ⟨c0, c1, c2, c3, c4, c5, c6, c7, c8, c9, c10, c11⟩ := hN.2 i hi
  obtain ⟨V, hV⟩ : ∃ V, V = w.alloc (.cells (ndC (l i)).toArray 64) := ⟨_, rfl⟩
  have HX := Lib.hid (show At12 V w.heap.size 0 (l i) by rw [hV]; exact refBox w (l i))
  have HB := Lib.hid (show Below w.heap.size w V by rw [hV]; exact (Below.refl _ w).alloc (Nat.le_refl _) _)
  have HN := Lib.hid (hl.below HB.out (Nat.le_refl _))
  simp only [ndC] at hV
  rw [hk] at c0 hV
  rw [ha] at c1 hV
  clear hl hN
  go_enter Tryz.func20, Tryz.ntmps20
  go_wp2_with fail
  rw [← hV]
  clear c0 c1 c2 c3 c4 c5 c6 c7 c8 c9 c10 c11 hV
  obtain ⟨c0, c1, c2, c3, c4, c5, c6, c7, c8, c9, c10, c11⟩ := HX.out
  have hg : w.heap.size < V.heap.size := block_lt_of_cell c0
  rw [hk] at c0
  rw [ha] at c1
  have D0 := Lib.hid c0
  have D1 := Lib.hid c1
  clear c0 c1 c2 c3 c4 c5 c6 c7 c8 c9 c10 c11 ha hk
  refine (Ast.rkids_any _ _).mono ?_
  rintro e u1 ⟨rfl, rfl⟩
  rw [show Ast.kidsZ 11 = 1 from rfl]
  go_wp2_with fail
  refine wp_region_held_drew (S := fun u => Below V.heap.size V u) (by kernel_rfl) (show _ from (Below.refl _ V).drew) (fun hS => ?_)
  generalize World.drew V = u0 at hS ⊢
  refine takeAt 1 115 (.pointer (some ⟨w.heap.size, 0, none⟩)) rfl rfl (by kernel_rfl) (by kernel_rfl) (by kernel_rfl) (fun _ _ _ h => h) (yields (by rfl) (fun w => by kernel_rfl)) hS ?_
  simp only [Act.put, List.setIfInBounds_toArray, List.set_cons_zero, List.set_cons_succ]
  refine takeAt 2 116 (.int .i64 11) rfl rfl (by kernel_rfl) (by kernel_rfl) (by kernel_rfl) (fun _ _ _ h => h) (loadI_y (11 : Int) (fun u h => (h.cell (p := ⟨w.heap.size, 0, none⟩) hg).trans D0.out) rfl rfl (by rfl)) hS ?_
  simp only [Act.put, List.setIfInBounds_toArray, List.set_cons_zero, List.set_cons_succ]
  refine takeAt 3 117 (.int .i64 0) rfl rfl (by kernel_rfl) (by kernel_rfl) (by kernel_rfl) (fun _ _ _ h => h) (yields (by rfl) (fun w => by kernel_rfl)) hS ?_
  simp only [Act.put, List.setIfInBounds_toArray, List.set_cons_zero, List.set_cons_succ]
  refine takeAt 6 120 (.slice (some ⟨b, o, none⟩) n cap) rfl rfl (by kernel_rfl) (by kernel_rfl) (by kernel_rfl) (fun _ _ _ h => h) (yields (by rfl) (fun w => by kernel_rfl)) hS ?_
  simp only [Act.put, List.setIfInBounds_toArray, List.set_cons_zero, List.set_cons_succ]
  refine takeAt 7 121 (.pointer (some ⟨w.heap.size, 1, none⟩)) rfl rfl (by kernel_rfl) (by kernel_rfl) (by kernel_rfl) (fun _ _ _ h => h) (yields (by rfl) (fun w => by kernel_rfl)) hS ?_
  simp only [Act.put, List.setIfInBounds_toArray, List.set_cons_zero, List.set_cons_succ]
  refine takeAt 8 122 (.int .i64 (ja : Int)) rfl rfl (by kernel_rfl) (by kernel_rfl) (by kernel_rfl) (fun _ _ _ h => h) (loadI_y (ja : Int) (fun u h => (h.cell (p := ⟨w.heap.size, 1, none⟩) hg).trans D1.out) rfl rfl (by rfl)) hS ?_
  simp only [Act.put, List.setIfInBounds_toArray, List.set_cons_zero, List.set_cons_succ]
  refine wpAnyH_ready (rs := [0, 9]) (by kernel_rfl) (by simp) (AllReadyH.cons rfl ?_ (AllReadyH.cons rfl ?_ AllReadyH.nil))
  · refine valStep 0 114 (.slice (some ⟨(u0).heap.size, 0, none⟩) 7 7) (World.alloc u0 (.cells #[.string ⟨#[40]⟩, .string ⟨#[]⟩, .string ⟨#[40, 63, 61]⟩, .string ⟨#[40, 63, 33]⟩, .string ⟨#[40, 63, 60, 61]⟩, .string ⟨#[40, 63, 60, 33]⟩, .string ⟨#[40, 63, 62]⟩] 9)) rfl (by rfl) (by kernel_rfl) (hS.alloc hS.size _) ?_
    simp only [Act.put, List.setIfInBounds_toArray, List.set_cons_zero, List.set_cons_succ]
    have hc : (World.alloc u0 (.cells #[.string ⟨#[40]⟩, .string ⟨#[]⟩, .string ⟨#[40, 63, 61]⟩, .string ⟨#[40, 63, 33]⟩, .string ⟨#[40, 63, 60, 61]⟩, .string ⟨#[40, 63, 60, 33]⟩, .string ⟨#[40, 63, 62]⟩] 9)).cell? ⟨(u0).heap.size, 0, none⟩ = some (.string ⟨#[40]⟩) := (cell_of_row _ _ _ _ _ _ (heap_alloc_new u0 _)).trans rfl
    have hS := hS.alloc hS.size (.cells #[.string ⟨#[40]⟩, .string ⟨#[]⟩, .string ⟨#[40, 63, 61]⟩, .string ⟨#[40, 63, 33]⟩, .string ⟨#[40, 63, 60, 61]⟩, .string ⟨#[40, 63, 60, 33]⟩, .string ⟨#[40, 63, 62]⟩] 9)
    obtain ⟨U, hU⟩ : ∃ U, U = (World.alloc u0 (.cells #[.string ⟨#[40]⟩, .string ⟨#[]⟩, .string ⟨#[40, 63, 61]⟩, .string ⟨#[40, 63, 33]⟩, .string ⟨#[40, 63, 60, 61]⟩, .string ⟨#[40, 63, 60, 33]⟩, .string ⟨#[40, 63, 62]⟩] 9)) := ⟨_, rfl⟩
    rw [← hU] at hS hc ⊢
    obtain ⟨g, hgg⟩ : ∃ g, g = u0.heap.size := ⟨_, rfl⟩
    rw [← hgg] at hc ⊢
    have hgl : g < U.heap.size := block_lt_of_cell hc
    clear hU hgg
    refine takeAt 4 118 (.pointer (some ⟨g, 0, none⟩)) rfl rfl (by kernel_rfl) (by kernel_rfl) (by kernel_rfl) (fun _ _ _ h => h) (yields (by rfl) (fun w => by kernel_rfl)) hS ?_
    simp only [Act.put, List.setIfInBounds_toArray, List.set_cons_zero, List.set_cons_succ]
    refine wpAnyH_ready (rs := [5, 9]) (by kernel_rfl) (by simp) (AllReadyH.cons rfl ?_ (AllReadyH.cons rfl ?_ AllReadyH.nil))
    · refine valStep 5 119 (.string ⟨#[40]⟩) U rfl (by rfl) (loadStr_run rfl rfl hc) hS ?_
      simp only [Act.put, List.setIfInBounds_toArray, List.set_cons_zero, List.set_cons_succ]
      refine callAt 9 123 rfl rfl (by kernel_rfl) (by rfl) (by kernel_rfl) (W1.out _ (HN.out.below hS (Nat.le_refl _))) ?_
      rintro e v1 ⟨rfl, hb⟩
      have hS := thenB hS hb hS.size
      refine ⟨_, rfl, hS, ?_⟩
      simp only [Act.put, List.setIfInBounds_toArray, List.set_cons_zero, List.set_cons_succ]
      clear hb
      refine takeAt 10 124 (.string (⟨#[40]⟩ ++ sa)) rfl rfl (by kernel_rfl) (by kernel_rfl) (by kernel_rfl) (fun _ _ _ h => h) (catB_y _ _ (by show 1 + sa.size ≤ 100000000; omega) rfl rfl rfl (by rfl)) hS ?_
      simp only [Act.put, List.setIfInBounds_toArray, List.set_cons_zero, List.set_cons_succ]
      refine takeAt 11 125 (.string ((⟨#[40]⟩ ++ sa) ++ ⟨#[41]⟩)) rfl rfl (by kernel_rfl) (by kernel_rfl) (by kernel_rfl) (fun _ _ _ h => h) (catB_y _ _ (by show _ + 1 ≤ 100000000; omega) rfl rfl rfl (by rfl)) hS ?_
      simp only [Act.put, List.setIfInBounds_toArray, List.set_cons_zero, List.set_cons_succ]
      refine takeAt 12 4 (.string ((⟨#[40]⟩ ++ sa) ++ ⟨#[41]⟩)) rfl rfl (by kernel_rfl) (by kernel_rfl) (by kernel_rfl) (fun _ _ _ h => h) (yields (by rfl) (fun w => by kernel_rfl)) hS ?_
      simp only [Act.put, List.setIfInBounds_toArray, List.set_cons_zero, List.set_cons_succ]
      refine wpAnyH_done (by kernel_rfl) ?_ _
      go_wp2_with fail
      go_ret
      exact ⟨rfl, HB.out.trans (hS.mono HB.out.size)⟩
    · refine callStep 9 123 rfl (by rfl) (by kernel_rfl) (W1.out _ (HN.out.below hS (Nat.le_refl _))) ?_
      rintro e v1 ⟨rfl, hb⟩
      have hS := thenB hS hb hS.size
      refine ⟨_, rfl, hS, ?_⟩
      simp only [Act.put, List.setIfInBounds_toArray, List.set_cons_zero, List.set_cons_succ]
      have hc := (hb.cell (p := ⟨g, 0, none⟩) hgl).trans hc
      clear hb
      refine valAt 5 119 (.string ⟨#[40]⟩) v1 rfl rfl (by kernel_rfl) (by rfl) (loadStr_run rfl rfl hc) hS ?_
      simp only [Act.put, List.setIfInBounds_toArray, List.set_cons_zero, List.set_cons_succ]
      refine takeAt 10 124 (.string (⟨#[40]⟩ ++ sa)) rfl rfl (by kernel_rfl) (by kernel_rfl) (by kernel_rfl) (fun _ _ _ h => h) (catB_y _ _ (by show 1 + sa.size ≤ 100000000; omega) rfl rfl rfl (by rfl)) hS ?_
      simp only [Act.put, List.setIfInBounds_toArray, List.set_cons_zero, List.set_cons_succ]
      refine takeAt 11 125 (.string ((⟨#[40]⟩ ++ sa) ++ ⟨#[41]⟩)) rfl rfl (by kernel_rfl) (by kernel_rfl) (by kernel_rfl) (fun _ _ _ h => h) (catB_y _ _ (by show _ + 1 ≤ 100000000; omega) rfl rfl rfl (by rfl)) hS ?_
      simp only [Act.put, List.setIfInBounds_toArray, List.set_cons_zero, List.set_cons_succ]
      refine takeAt 12 4 (.string ((⟨#[40]⟩ ++ sa) ++ ⟨#[41]⟩)) rfl rfl (by kernel_rfl) (by kernel_rfl) (by kernel_rfl) (fun _ _ _ h => h) (yields (by rfl) (fun w => by kernel_rfl)) hS ?_
      simp only [Act.put, List.setIfInBounds_toArray, List.set_cons_zero, List.set_cons_succ]
      refine wpAnyH_done (by kernel_rfl) ?_ _
      go_wp2_with fail
      go_ret
      exact ⟨rfl, HB.out.trans (hS.mono HB.out.size)⟩
  · refine callStep 9 123 rfl (by rfl) (by kernel_rfl) (W1.out _ (HN.out.below hS (Nat.le_refl _))) ?_
    rintro e v1 ⟨rfl, hb⟩
    have hS := thenB hS hb hS.size
    refine ⟨_, rfl, hS, ?_⟩
    simp only [Act.put, List.setIfInBounds_toArray, List.set_cons_zero, List.set_cons_succ]
    clear hb
    refine valAt 0 114 (.slice (some ⟨(v1).heap.size, 0, none⟩) 7 7) (World.alloc v1 (.cells #[.string ⟨#[40]⟩, .string ⟨#[]⟩, .string ⟨#[40, 63, 61]⟩, .string ⟨#[40, 63, 33]⟩, .string ⟨#[40, 63, 60, 61]⟩, .string ⟨#[40, 63, 60, 33]⟩, .string ⟨#[40, 63, 62]⟩] 9)) rfl rfl (by kernel_rfl) (by rfl) (by kernel_rfl) (hS.alloc hS.size _) ?_
    simp only [Act.put, List.setIfInBounds_toArray, List.set_cons_zero, List.set_cons_succ]
    have hc : (World.alloc v1 (.cells #[.string ⟨#[40]⟩, .string ⟨#[]⟩, .string ⟨#[40, 63, 61]⟩, .string ⟨#[40, 63, 33]⟩, .string ⟨#[40, 63, 60, 61]⟩, .string ⟨#[40, 63, 60, 33]⟩, .string ⟨#[40, 63, 62]⟩] 9)).cell? ⟨(v1).heap.size, 0, none⟩ = some (.string ⟨#[40]⟩) := (cell_of_row _ _ _ _ _ _ (heap_alloc_new v1 _)).trans rfl
    have hS := hS.alloc hS.size (.cells #[.string ⟨#[40]⟩, .string ⟨#[]⟩, .string ⟨#[40, 63, 61]⟩, .string ⟨#[40, 63, 33]⟩, .string ⟨#[40, 63, 60, 61]⟩, .string ⟨#[40, 63, 60, 33]⟩, .string ⟨#[40, 63, 62]⟩] 9)
    obtain ⟨U, hU⟩ : ∃ U, U = (World.alloc v1 (.cells #[.string ⟨#[40]⟩, .string ⟨#[]⟩, .string ⟨#[40, 63, 61]⟩, .string ⟨#[40, 63, 33]⟩, .string ⟨#[40, 63, 60, 61]⟩, .string ⟨#[40, 63, 60, 33]⟩, .string ⟨#[40, 63, 62]⟩] 9)) := ⟨_, rfl⟩
    rw [← hU] at hS hc ⊢
    refine takeAt 4 118 (.pointer (some ⟨(v1).heap.size, 0, none⟩)) rfl rfl (by kernel_rfl) (by kernel_rfl) (by kernel_rfl) (fun _ _ _ h => h) (yields (by rfl) (fun w => by kernel_rfl)) hS ?_
    simp only [Act.put, List.setIfInBounds_toArray, List.set_cons_zero, List.set_cons_succ]
    refine valAt 5 119 (.string ⟨#[40]⟩) U rfl rfl (by kernel_rfl) (by rfl) (loadStr_run rfl rfl hc) hS ?_
    simp only [Act.put, List.setIfInBounds_toArray, List.set_cons_zero, List.set_cons_succ]
    refine takeAt 10 124 (.string (⟨#[40]⟩ ++ sa)) rfl rfl (by kernel_rfl) (by kernel_rfl) (by kernel_rfl) (fun _ _ _ h => h) (catB_y _ _ (by show 1 + sa.size ≤ 100000000; omega) rfl rfl rfl (by rfl)) hS ?_
    simp only [Act.put, List.setIfInBounds_toArray, List.set_cons_zero, List.set_cons_succ]
    refine takeAt 11 125 (.string ((⟨#[40]⟩ ++ sa) ++ ⟨#[41]⟩)) rfl rfl (by kernel_rfl) (by kernel_rfl) (by kernel_rfl) (fun _ _ _ h => h) (catB_y _ _ (by show _ + 1 ≤ 100000000; omega) rfl rfl rfl (by rfl)) hS ?_
    simp only [Act.put, List.setIfInBounds_toArray, List.set_cons_zero, List.set_cons_succ]
    refine takeAt 12 4 (.string ((⟨#[40]⟩ ++ sa) ++ ⟨#[41]⟩)) rfl rfl (by kernel_rfl) (by kernel_rfl) (by kernel_rfl) (fun _ _ _ h => h) (yields (by rfl) (fun w => by kernel_rfl)) hS ?_
    simp only [Act.put, List.setIfInBounds_toArray, List.set_cons_zero, List.set_cons_succ]
    refine wpAnyH_done (by kernel_rfl) ?_ _
    go_wp2_with fail
    go_ret
    exact ⟨rfl, HB.out.trans (hS.mono HB.out.size)⟩
set_option maxRecDepth 20000 in
set_option maxHeartbeats 8000000 in
theorem node8_open13 (A : Option Addr) (n cap : Nat) (l : Nat → Nd) (i : Nat) (hi : i < n) (hn : n ≤ 500) (hk : (l i).k = 13) (ja : Nat) (ha : (l i).a = (ja : Int)) (_hja : ja < i) (sa : ByteArray) (za : sa.size ≤ 3000000) (NA : Node8 A n cap l ja sa) : Node8 A n cap l i ((⟨#[40, 63, 61]⟩ ++ sa) ++ ⟨#[41]⟩) := by
  intro w hl
  have W1 := Lib.hid NA
  have y1 : ((⟨#[40, 63, 61]⟩ : ByteArray) ++ sa).size ≤ sa.size + 4 := by rw [ByteArray.size_append]; show 3 + sa.size ≤ _; omega
  clear NA
  obtain ⟨b, o, rfl, hN⟩ := hl.at_ (show 0 < n by omega)
  have r1 : (i : Int) < (n : Int) := by omega
  obtain ⟨c0, c1, c2, c3, c4, c5, c6, c7, c8, c9, c10, c11⟩ := hN.2 i hi
  obtain ⟨V, hV⟩ : ∃ V, V = w.alloc (.cells (ndC (l i)).toArray 64) := ⟨_, rfl⟩
  have HX := Lib.hid (show At12 V w.heap.size 0 (l i) by rw [hV]; exact refBox w (l i))
  have HB := Lib.hid (show Below w.heap.size w V by rw [hV]; exact (Below.refl _ w).alloc (Nat.le_refl _) _)
  have HN := Lib.hid (hl.below HB.out (Nat.le_refl _))
  simp only [ndC] at hV
  rw [hk] at c0 hV
  rw [ha] at c1 hV
  clear hl hN
  go_enter Tryz.func20, Tryz.ntmps20
  go_wp2_with fail
  rw [← hV]
  clear c0 c1 c2 c3 c4 c5 c6 c7 c8 c9 c10 c11 hV
  obtain ⟨c0, c1, c2, c3, c4, c5, c6, c7, c8, c9, c10, c11⟩ := HX.out
  have hg : w.heap.size < V.heap.size := block_lt_of_cell c0
  rw [hk] at c0
  rw [ha] at c1
  have D0 := Lib.hid c0
  have D1 := Lib.hid c1
  clear c0 c1 c2 c3 c4 c5 c6 c7 c8 c9 c10 c11 ha hk
  refine (Ast.rkids_any _ _).mono ?_
  rintro e u1 ⟨rfl, rfl⟩
  rw [show Ast.kidsZ 13 = 1 from rfl]
  go_wp2_with fail
  refine wp_region_held_drew (S := fun u => Below V.heap.size V u) (by kernel_rfl) (show _ from (Below.refl _ V).drew) (fun hS => ?_)
  generalize World.drew V = u0 at hS ⊢
  refine takeAt 1 115 (.pointer (some ⟨w.heap.size, 0, none⟩)) rfl rfl (by kernel_rfl) (by kernel_rfl) (by kernel_rfl) (fun _ _ _ h => h) (yields (by rfl) (fun w => by kernel_rfl)) hS ?_
  simp only [Act.put, List.setIfInBounds_toArray, List.set_cons_zero, List.set_cons_succ]
  refine takeAt 2 116 (.int .i64 13) rfl rfl (by kernel_rfl) (by kernel_rfl) (by kernel_rfl) (fun _ _ _ h => h) (loadI_y (13 : Int) (fun u h => (h.cell (p := ⟨w.heap.size, 0, none⟩) hg).trans D0.out) rfl rfl (by rfl)) hS ?_
  simp only [Act.put, List.setIfInBounds_toArray, List.set_cons_zero, List.set_cons_succ]
  refine takeAt 3 117 (.int .i64 2) rfl rfl (by kernel_rfl) (by kernel_rfl) (by kernel_rfl) (fun _ _ _ h => h) (yields (by rfl) (fun w => by kernel_rfl)) hS ?_
  simp only [Act.put, List.setIfInBounds_toArray, List.set_cons_zero, List.set_cons_succ]
  refine takeAt 6 120 (.slice (some ⟨b, o, none⟩) n cap) rfl rfl (by kernel_rfl) (by kernel_rfl) (by kernel_rfl) (fun _ _ _ h => h) (yields (by rfl) (fun w => by kernel_rfl)) hS ?_
  simp only [Act.put, List.setIfInBounds_toArray, List.set_cons_zero, List.set_cons_succ]
  refine takeAt 7 121 (.pointer (some ⟨w.heap.size, 1, none⟩)) rfl rfl (by kernel_rfl) (by kernel_rfl) (by kernel_rfl) (fun _ _ _ h => h) (yields (by rfl) (fun w => by kernel_rfl)) hS ?_
  simp only [Act.put, List.setIfInBounds_toArray, List.set_cons_zero, List.set_cons_succ]
  refine takeAt 8 122 (.int .i64 (ja : Int)) rfl rfl (by kernel_rfl) (by kernel_rfl) (by kernel_rfl) (fun _ _ _ h => h) (loadI_y (ja : Int) (fun u h => (h.cell (p := ⟨w.heap.size, 1, none⟩) hg).trans D1.out) rfl rfl (by rfl)) hS ?_
  simp only [Act.put, List.setIfInBounds_toArray, List.set_cons_zero, List.set_cons_succ]
  refine wpAnyH_ready (rs := [0, 9]) (by kernel_rfl) (by simp) (AllReadyH.cons rfl ?_ (AllReadyH.cons rfl ?_ AllReadyH.nil))
  · refine valStep 0 114 (.slice (some ⟨(u0).heap.size, 0, none⟩) 7 7) (World.alloc u0 (.cells #[.string ⟨#[40]⟩, .string ⟨#[]⟩, .string ⟨#[40, 63, 61]⟩, .string ⟨#[40, 63, 33]⟩, .string ⟨#[40, 63, 60, 61]⟩, .string ⟨#[40, 63, 60, 33]⟩, .string ⟨#[40, 63, 62]⟩] 9)) rfl (by rfl) (by kernel_rfl) (hS.alloc hS.size _) ?_
    simp only [Act.put, List.setIfInBounds_toArray, List.set_cons_zero, List.set_cons_succ]
    have hc : (World.alloc u0 (.cells #[.string ⟨#[40]⟩, .string ⟨#[]⟩, .string ⟨#[40, 63, 61]⟩, .string ⟨#[40, 63, 33]⟩, .string ⟨#[40, 63, 60, 61]⟩, .string ⟨#[40, 63, 60, 33]⟩, .string ⟨#[40, 63, 62]⟩] 9)).cell? ⟨(u0).heap.size, 2, none⟩ = some (.string ⟨#[40, 63, 61]⟩) := (cell_of_row _ _ _ _ _ _ (heap_alloc_new u0 _)).trans rfl
    have hS := hS.alloc hS.size (.cells #[.string ⟨#[40]⟩, .string ⟨#[]⟩, .string ⟨#[40, 63, 61]⟩, .string ⟨#[40, 63, 33]⟩, .string ⟨#[40, 63, 60, 61]⟩, .string ⟨#[40, 63, 60, 33]⟩, .string ⟨#[40, 63, 62]⟩] 9)
    obtain ⟨U, hU⟩ : ∃ U, U = (World.alloc u0 (.cells #[.string ⟨#[40]⟩, .string ⟨#[]⟩, .string ⟨#[40, 63, 61]⟩, .string ⟨#[40, 63, 33]⟩, .string ⟨#[40, 63, 60, 61]⟩, .string ⟨#[40, 63, 60, 33]⟩, .string ⟨#[40, 63, 62]⟩] 9)) := ⟨_, rfl⟩
    rw [← hU] at hS hc ⊢
    obtain ⟨g, hgg⟩ : ∃ g, g = u0.heap.size := ⟨_, rfl⟩
    rw [← hgg] at hc ⊢
    have hgl : g < U.heap.size := block_lt_of_cell hc
    clear hU hgg
    refine takeAt 4 118 (.pointer (some ⟨g, 2, none⟩)) rfl rfl (by kernel_rfl) (by kernel_rfl) (by kernel_rfl) (fun _ _ _ h => h) (yields (by rfl) (fun w => by kernel_rfl)) hS ?_
    simp only [Act.put, List.setIfInBounds_toArray, List.set_cons_zero, List.set_cons_succ]
    refine wpAnyH_ready (rs := [5, 9]) (by kernel_rfl) (by simp) (AllReadyH.cons rfl ?_ (AllReadyH.cons rfl ?_ AllReadyH.nil))
    · refine valStep 5 119 (.string ⟨#[40, 63, 61]⟩) U rfl (by rfl) (loadStr_run rfl rfl hc) hS ?_
      simp only [Act.put, List.setIfInBounds_toArray, List.set_cons_zero, List.set_cons_succ]
      refine callAt 9 123 rfl rfl (by kernel_rfl) (by rfl) (by kernel_rfl) (W1.out _ (HN.out.below hS (Nat.le_refl _))) ?_
      rintro e v1 ⟨rfl, hb⟩
      have hS := thenB hS hb hS.size
      refine ⟨_, rfl, hS, ?_⟩
      simp only [Act.put, List.setIfInBounds_toArray, List.set_cons_zero, List.set_cons_succ]
      clear hb
      refine takeAt 10 124 (.string (⟨#[40, 63, 61]⟩ ++ sa)) rfl rfl (by kernel_rfl) (by kernel_rfl) (by kernel_rfl) (fun _ _ _ h => h) (catB_y _ _ (by show 3 + sa.size ≤ 100000000; omega) rfl rfl rfl (by rfl)) hS ?_
      simp only [Act.put, List.setIfInBounds_toArray, List.set_cons_zero, List.set_cons_succ]
      refine takeAt 11 125 (.string ((⟨#[40, 63, 61]⟩ ++ sa) ++ ⟨#[41]⟩)) rfl rfl (by kernel_rfl) (by kernel_rfl) (by kernel_rfl) (fun _ _ _ h => h) (catB_y _ _ (by show _ + 1 ≤ 100000000; omega) rfl rfl rfl (by rfl)) hS ?_
      simp only [Act.put, List.setIfInBounds_toArray, List.set_cons_zero, List.set_cons_succ]
      refine takeAt 12 4 (.string ((⟨#[40, 63, 61]⟩ ++ sa) ++ ⟨#[41]⟩)) rfl rfl (by kernel_rfl) (by kernel_rfl) (by kernel_rfl) (fun _ _ _ h => h) (yields (by rfl) (fun w => by kernel_rfl)) hS ?_
      simp only [Act.put, List.setIfInBounds_toArray, List.set_cons_zero, List.set_cons_succ]
      refine wpAnyH_done (by kernel_rfl) ?_ _
      go_wp2_with fail
      go_ret
      exact ⟨rfl, HB.out.trans (hS.mono HB.out.size)⟩
    · refine callStep 9 123 rfl (by rfl) (by kernel_rfl) (W1.out _ (HN.out.below hS (Nat.le_refl _))) ?_
      rintro e v1 ⟨rfl, hb⟩
      have hS := thenB hS hb hS.size
      refine ⟨_, rfl, hS, ?_⟩
      simp only [Act.put, List.setIfInBounds_toArray, List.set_cons_zero, List.set_cons_succ]
      have hc := (hb.cell (p := ⟨g, 2, none⟩) hgl).trans hc
      clear hb
      refine valAt 5 119 (.string ⟨#[40, 63, 61]⟩) v1 rfl rfl (by kernel_rfl) (by rfl) (loadStr_run rfl rfl hc) hS ?_
      simp only [Act.put, List.setIfInBounds_toArray, List.set_cons_zero, List.set_cons_succ]
      refine takeAt 10 124 (.string (⟨#[40, 63, 61]⟩ ++ sa)) rfl rfl (by kernel_rfl) (by kernel_rfl) (by kernel_rfl) (fun _ _ _ h => h) (catB_y _ _ (by show 3 + sa.size ≤ 100000000; omega) rfl rfl rfl (by rfl)) hS ?_
      simp only [Act.put, List.setIfInBounds_toArray, List.set_cons_zero, List.set_cons_succ]
      refine takeAt 11 125 (.string ((⟨#[40, 63, 61]⟩ ++ sa) ++ ⟨#[41]⟩)) rfl rfl (by kernel_rfl) (by kernel_rfl) (by kernel_rfl) (fun _ _ _ h => h) (catB_y _ _ (by show _ + 1 ≤ 100000000; omega) rfl rfl rfl (by rfl)) hS ?_
      simp only [Act.put, List.setIfInBounds_toArray, List.set_cons_zero, List.set_cons_succ]
      refine takeAt 12 4 (.string ((⟨#[40, 63, 61]⟩ ++ sa) ++ ⟨#[41]⟩)) rfl rfl (by kernel_rfl) (by kernel_rfl) (by kernel_rfl) (fun _ _ _ h => h) (yields (by rfl) (fun w => by kernel_rfl)) hS ?_
      simp only [Act.put, List.setIfInBounds_toArray, List.set_cons_zero, List.set_cons_succ]
      refine wpAnyH_done (by kernel_rfl) ?_ _
      go_wp2_with fail
      go_ret
      exact ⟨rfl, HB.out.trans (hS.mono HB.out.size)⟩
  · refine callStep 9 123 rfl (by rfl) (by kernel_rfl) (W1.out _ (HN.out.below hS (Nat.le_refl _))) ?_
    rintro e v1 ⟨rfl, hb⟩
    have hS := thenB hS hb hS.size
    refine ⟨_, rfl, hS, ?_⟩
    simp only [Act.put, List.setIfInBounds_toArray, List.set_cons_zero, List.set_cons_succ]
    clear hb
    refine valAt 0 114 (.slice (some ⟨(v1).heap.size, 0, none⟩) 7 7) (World.alloc v1 (.cells #[.string ⟨#[40]⟩, .string ⟨#[]⟩, .string ⟨#[40, 63, 61]⟩, .string ⟨#[40, 63, 33]⟩, .string ⟨#[40, 63, 60, 61]⟩, .string ⟨#[40, 63, 60, 33]⟩, .string ⟨#[40, 63, 62]⟩] 9)) rfl rfl (by kernel_rfl) (by rfl) (by kernel_rfl) (hS.alloc hS.size _) ?_
    simp only [Act.put, List.setIfInBounds_toArray, List.set_cons_zero, List.set_cons_succ]
    have hc : (World.alloc v1 (.cells #[.string ⟨#[40]⟩, .string ⟨#[]⟩, .string ⟨#[40, 63, 61]⟩, .string ⟨#[40, 63, 33]⟩, .string ⟨#[40, 63, 60, 61]⟩, .string ⟨#[40, 63, 60, 33]⟩, .string ⟨#[40, 63, 62]⟩] 9)).cell? ⟨(v1).heap.size, 2, none⟩ = some (.string ⟨#[40, 63, 61]⟩) := (cell_of_row _ _ _ _ _ _ (heap_alloc_new v1 _)).trans rfl
    have hS := hS.alloc hS.size (.cells #[.string ⟨#[40]⟩, .string ⟨#[]⟩, .string ⟨#[40, 63, 61]⟩, .string ⟨#[40, 63, 33]⟩, .string ⟨#[40, 63, 60, 61]⟩, .string ⟨#[40, 63, 60, 33]⟩, .string ⟨#[40, 63, 62]⟩] 9)
    obtain ⟨U, hU⟩ : ∃ U, U = (World.alloc v1 (.cells #[.string ⟨#[40]⟩, .string ⟨#[]⟩, .string ⟨#[40, 63, 61]⟩, .string ⟨#[40, 63, 33]⟩, .string ⟨#[40, 63, 60, 61]⟩, .string ⟨#[40, 63, 60, 33]⟩, .string ⟨#[40, 63, 62]⟩] 9)) := ⟨_, rfl⟩
    rw [← hU] at hS hc ⊢
    refine takeAt 4 118 (.pointer (some ⟨(v1).heap.size, 2, none⟩)) rfl rfl (by kernel_rfl) (by kernel_rfl) (by kernel_rfl) (fun _ _ _ h => h) (yields (by rfl) (fun w => by kernel_rfl)) hS ?_
    simp only [Act.put, List.setIfInBounds_toArray, List.set_cons_zero, List.set_cons_succ]
    refine valAt 5 119 (.string ⟨#[40, 63, 61]⟩) U rfl rfl (by kernel_rfl) (by rfl) (loadStr_run rfl rfl hc) hS ?_
    simp only [Act.put, List.setIfInBounds_toArray, List.set_cons_zero, List.set_cons_succ]
    refine takeAt 10 124 (.string (⟨#[40, 63, 61]⟩ ++ sa)) rfl rfl (by kernel_rfl) (by kernel_rfl) (by kernel_rfl) (fun _ _ _ h => h) (catB_y _ _ (by show 3 + sa.size ≤ 100000000; omega) rfl rfl rfl (by rfl)) hS ?_
    simp only [Act.put, List.setIfInBounds_toArray, List.set_cons_zero, List.set_cons_succ]
    refine takeAt 11 125 (.string ((⟨#[40, 63, 61]⟩ ++ sa) ++ ⟨#[41]⟩)) rfl rfl (by kernel_rfl) (by kernel_rfl) (by kernel_rfl) (fun _ _ _ h => h) (catB_y _ _ (by show _ + 1 ≤ 100000000; omega) rfl rfl rfl (by rfl)) hS ?_
    simp only [Act.put, List.setIfInBounds_toArray, List.set_cons_zero, List.set_cons_succ]
    refine takeAt 12 4 (.string ((⟨#[40, 63, 61]⟩ ++ sa) ++ ⟨#[41]⟩)) rfl rfl (by kernel_rfl) (by kernel_rfl) (by kernel_rfl) (fun _ _ _ h => h) (yields (by rfl) (fun w => by kernel_rfl)) hS ?_
    simp only [Act.put, List.setIfInBounds_toArray, List.set_cons_zero, List.set_cons_succ]
    refine wpAnyH_done (by kernel_rfl) ?_ _
    go_wp2_with fail
    go_ret
    exact ⟨rfl, HB.out.trans (hS.mono HB.out.size)⟩
set_option maxRecDepth 20000 in
set_option maxHeartbeats 8000000 in
theorem node8_open14 (A : Option Addr) (n cap : Nat) (l : Nat → Nd) (i : Nat) (hi : i < n) (hn : n ≤ 500) (hk : (l i).k = 14) (ja : Nat) (ha : (l i).a = (ja : Int)) (_hja : ja < i) (sa : ByteArray) (za : sa.size ≤ 3000000) (NA : Node8 A n cap l ja sa) : Node8 A n cap l i ((⟨#[40, 63, 33]⟩ ++ sa) ++ ⟨#[41]⟩) := by
  intro w hl
  have W1 := Lib.hid NA
  have y1 : ((⟨#[40, 63, 33]⟩ : ByteArray) ++ sa).size ≤ sa.size + 4 := by rw [ByteArray.size_append]; show 3 + sa.size ≤ _; omega
  clear NA
  obtain ⟨b, o, rfl, hN⟩ := hl.at_ (show 0 < n by omega)
  have r1 : (i : Int) < (n : Int) := by omega
  obtain ⟨c0, c1, c2, c3, c4, c5, c6, c7, c8, c9, c10, c11⟩ := hN.2 i hi
  obtain ⟨V, hV⟩ : ∃ V, V = w.alloc (.cells (ndC (l i)).toArray 64) := ⟨_, rfl⟩
  have HX := Lib.hid (show At12 V w.heap.size 0 (l i) by rw [hV]; exact refBox w (l i))
  have HB := Lib.hid (show Below w.heap.size w V by rw [hV]; exact (Below.refl _ w).alloc (Nat.le_refl _) _)
  have HN := Lib.hid (hl.below HB.out (Nat.le_refl _))
  simp only [ndC] at hV
  rw [hk] at c0 hV
  rw [ha] at c1 hV
  clear hl hN
  go_enter Tryz.func20, Tryz.ntmps20
  go_wp2_with fail
  rw [← hV]
  clear c0 c1 c2 c3 c4 c5 c6 c7 c8 c9 c10 c11 hV
  obtain ⟨c0, c1, c2, c3, c4, c5, c6, c7, c8, c9, c10, c11⟩ := HX.out
  have hg : w.heap.size < V.heap.size := block_lt_of_cell c0
  rw [hk] at c0
  rw [ha] at c1
  have D0 := Lib.hid c0
  have D1 := Lib.hid c1
  clear c0 c1 c2 c3 c4 c5 c6 c7 c8 c9 c10 c11 ha hk
  refine (Ast.rkids_any _ _).mono ?_
  rintro e u1 ⟨rfl, rfl⟩
  rw [show Ast.kidsZ 14 = 1 from rfl]
  go_wp2_with fail
  refine wp_region_held_drew (S := fun u => Below V.heap.size V u) (by kernel_rfl) (show _ from (Below.refl _ V).drew) (fun hS => ?_)
  generalize World.drew V = u0 at hS ⊢
  refine takeAt 1 115 (.pointer (some ⟨w.heap.size, 0, none⟩)) rfl rfl (by kernel_rfl) (by kernel_rfl) (by kernel_rfl) (fun _ _ _ h => h) (yields (by rfl) (fun w => by kernel_rfl)) hS ?_
  simp only [Act.put, List.setIfInBounds_toArray, List.set_cons_zero, List.set_cons_succ]
  refine takeAt 2 116 (.int .i64 14) rfl rfl (by kernel_rfl) (by kernel_rfl) (by kernel_rfl) (fun _ _ _ h => h) (loadI_y (14 : Int) (fun u h => (h.cell (p := ⟨w.heap.size, 0, none⟩) hg).trans D0.out) rfl rfl (by rfl)) hS ?_
  simp only [Act.put, List.setIfInBounds_toArray, List.set_cons_zero, List.set_cons_succ]
  refine takeAt 3 117 (.int .i64 3) rfl rfl (by kernel_rfl) (by kernel_rfl) (by kernel_rfl) (fun _ _ _ h => h) (yields (by rfl) (fun w => by kernel_rfl)) hS ?_
  simp only [Act.put, List.setIfInBounds_toArray, List.set_cons_zero, List.set_cons_succ]
  refine takeAt 6 120 (.slice (some ⟨b, o, none⟩) n cap) rfl rfl (by kernel_rfl) (by kernel_rfl) (by kernel_rfl) (fun _ _ _ h => h) (yields (by rfl) (fun w => by kernel_rfl)) hS ?_
  simp only [Act.put, List.setIfInBounds_toArray, List.set_cons_zero, List.set_cons_succ]
  refine takeAt 7 121 (.pointer (some ⟨w.heap.size, 1, none⟩)) rfl rfl (by kernel_rfl) (by kernel_rfl) (by kernel_rfl) (fun _ _ _ h => h) (yields (by rfl) (fun w => by kernel_rfl)) hS ?_
  simp only [Act.put, List.setIfInBounds_toArray, List.set_cons_zero, List.set_cons_succ]
  refine takeAt 8 122 (.int .i64 (ja : Int)) rfl rfl (by kernel_rfl) (by kernel_rfl) (by kernel_rfl) (fun _ _ _ h => h) (loadI_y (ja : Int) (fun u h => (h.cell (p := ⟨w.heap.size, 1, none⟩) hg).trans D1.out) rfl rfl (by rfl)) hS ?_
  simp only [Act.put, List.setIfInBounds_toArray, List.set_cons_zero, List.set_cons_succ]
  refine wpAnyH_ready (rs := [0, 9]) (by kernel_rfl) (by simp) (AllReadyH.cons rfl ?_ (AllReadyH.cons rfl ?_ AllReadyH.nil))
  · refine valStep 0 114 (.slice (some ⟨(u0).heap.size, 0, none⟩) 7 7) (World.alloc u0 (.cells #[.string ⟨#[40]⟩, .string ⟨#[]⟩, .string ⟨#[40, 63, 61]⟩, .string ⟨#[40, 63, 33]⟩, .string ⟨#[40, 63, 60, 61]⟩, .string ⟨#[40, 63, 60, 33]⟩, .string ⟨#[40, 63, 62]⟩] 9)) rfl (by rfl) (by kernel_rfl) (hS.alloc hS.size _) ?_
    simp only [Act.put, List.setIfInBounds_toArray, List.set_cons_zero, List.set_cons_succ]
    have hc : (World.alloc u0 (.cells #[.string ⟨#[40]⟩, .string ⟨#[]⟩, .string ⟨#[40, 63, 61]⟩, .string ⟨#[40, 63, 33]⟩, .string ⟨#[40, 63, 60, 61]⟩, .string ⟨#[40, 63, 60, 33]⟩, .string ⟨#[40, 63, 62]⟩] 9)).cell? ⟨(u0).heap.size, 3, none⟩ = some (.string ⟨#[40, 63, 33]⟩) := (cell_of_row _ _ _ _ _ _ (heap_alloc_new u0 _)).trans rfl
    have hS := hS.alloc hS.size (.cells #[.string ⟨#[40]⟩, .string ⟨#[]⟩, .string ⟨#[40, 63, 61]⟩, .string ⟨#[40, 63, 33]⟩, .string ⟨#[40, 63, 60, 61]⟩, .string ⟨#[40, 63, 60, 33]⟩, .string ⟨#[40, 63, 62]⟩] 9)
    obtain ⟨U, hU⟩ : ∃ U, U = (World.alloc u0 (.cells #[.string ⟨#[40]⟩, .string ⟨#[]⟩, .string ⟨#[40, 63, 61]⟩, .string ⟨#[40, 63, 33]⟩, .string ⟨#[40, 63, 60, 61]⟩, .string ⟨#[40, 63, 60, 33]⟩, .string ⟨#[40, 63, 62]⟩] 9)) := ⟨_, rfl⟩
    rw [← hU] at hS hc ⊢
    obtain ⟨g, hgg⟩ : ∃ g, g = u0.heap.size := ⟨_, rfl⟩
    rw [← hgg] at hc ⊢
    have hgl : g < U.heap.size := block_lt_of_cell hc
    clear hU hgg
    refine takeAt 4 118 (.pointer (some ⟨g, 3, none⟩)) rfl rfl (by kernel_rfl) (by kernel_rfl) (by kernel_rfl) (fun _ _ _ h => h) (yields (by rfl) (fun w => by kernel_rfl)) hS ?_
    simp only [Act.put, List.setIfInBounds_toArray, List.set_cons_zero, List.set_cons_succ]
    refine wpAnyH_ready (rs := [5, 9]) (by kernel_rfl) (by simp) (AllReadyH.cons rfl ?_ (AllReadyH.cons rfl ?_ AllReadyH.nil))
    · refine valStep 5 119 (.string ⟨#[40, 63, 33]⟩) U rfl (by rfl) (loadStr_run rfl rfl hc) hS ?_
      simp only [Act.put, List.setIfInBounds_toArray, List.set_cons_zero, List.set_cons_succ]
      refine callAt 9 123 rfl rfl (by kernel_rfl) (by rfl) (by kernel_rfl) (W1.out _ (HN.out.below hS (Nat.le_refl _))) ?_
      rintro e v1 ⟨rfl, hb⟩
      have hS := thenB hS hb hS.size
      refine ⟨_, rfl, hS, ?_⟩
      simp only [Act.put, List.setIfInBounds_toArray, List.set_cons_zero, List.set_cons_succ]
      clear hb
      refine takeAt 10 124 (.string (⟨#[40, 63, 33]⟩ ++ sa)) rfl rfl (by kernel_rfl) (by kernel_rfl) (by kernel_rfl) (fun _ _ _ h => h) (catB_y _ _ (by show 3 + sa.size ≤ 100000000; omega) rfl rfl rfl (by rfl)) hS ?_
      simp only [Act.put, List.setIfInBounds_toArray, List.set_cons_zero, List.set_cons_succ]
      refine takeAt 11 125 (.string ((⟨#[40, 63, 33]⟩ ++ sa) ++ ⟨#[41]⟩)) rfl rfl (by kernel_rfl) (by kernel_rfl) (by kernel_rfl) (fun _ _ _ h => h) (catB_y _ _ (by show _ + 1 ≤ 100000000; omega) rfl rfl rfl (by rfl)) hS ?_
      simp only [Act.put, List.setIfInBounds_toArray, List.set_cons_zero, List.set_cons_succ]
      refine takeAt 12 4 (.string ((⟨#[40, 63, 33]⟩ ++ sa) ++ ⟨#[41]⟩)) rfl rfl (by kernel_rfl) (by kernel_rfl) (by kernel_rfl) (fun _ _ _ h => h) (yields (by rfl) (fun w => by kernel_rfl)) hS ?_
      simp only [Act.put, List.setIfInBounds_toArray, List.set_cons_zero, List.set_cons_succ]
      refine wpAnyH_done (by kernel_rfl) ?_ _
      go_wp2_with fail
      go_ret
      exact ⟨rfl, HB.out.trans (hS.mono HB.out.size)⟩
    · refine callStep 9 123 rfl (by rfl) (by kernel_rfl) (W1.out _ (HN.out.below hS (Nat.le_refl _))) ?_
      rintro e v1 ⟨rfl, hb⟩
      have hS := thenB hS hb hS.size
      refine ⟨_, rfl, hS, ?_⟩
      simp only [Act.put, List.setIfInBounds_toArray, List.set_cons_zero, List.set_cons_succ]
      have hc := (hb.cell (p := ⟨g, 3, none⟩) hgl).trans hc
      clear hb
      refine valAt 5 119 (.string ⟨#[40, 63, 33]⟩) v1 rfl rfl (by kernel_rfl) (by rfl) (loadStr_run rfl rfl hc) hS ?_
      simp only [Act.put, List.setIfInBounds_toArray, List.set_cons_zero, List.set_cons_succ]
      refine takeAt 10 124 (.string (⟨#[40, 63, 33]⟩ ++ sa)) rfl rfl (by kernel_rfl) (by kernel_rfl) (by kernel_rfl) (fun _ _ _ h => h) (catB_y _ _ (by show 3 + sa.size ≤ 100000000; omega) rfl rfl rfl (by rfl)) hS ?_
      simp only [Act.put, List.setIfInBounds_toArray, List.set_cons_zero, List.set_cons_succ]
      refine takeAt 11 125 (.string ((⟨#[40, 63, 33]⟩ ++ sa) ++ ⟨#[41]⟩)) rfl rfl (by kernel_rfl) (by kernel_rfl) (by kernel_rfl) (fun _ _ _ h => h) (catB_y _ _ (by show _ + 1 ≤ 100000000; omega) rfl rfl rfl (by rfl)) hS ?_
      simp only [Act.put, List.setIfInBounds_toArray, List.set_cons_zero, List.set_cons_succ]
      refine takeAt 12 4 (.string ((⟨#[40, 63, 33]⟩ ++ sa) ++ ⟨#[41]⟩)) rfl rfl (by kernel_rfl) (by kernel_rfl) (by kernel_rfl) (fun _ _ _ h => h) (yields (by rfl) (fun w => by kernel_rfl)) hS ?_
      simp only [Act.put, List.setIfInBounds_toArray, List.set_cons_zero, List.set_cons_succ]
      refine wpAnyH_done (by kernel_rfl) ?_ _
      go_wp2_with fail
      go_ret
      exact ⟨rfl, HB.out.trans (hS.mono HB.out.size)⟩
  · refine callStep 9 123 rfl (by rfl) (by kernel_rfl) (W1.out _ (HN.out.below hS (Nat.le_refl _))) ?_
    rintro e v1 ⟨rfl, hb⟩
    have hS := thenB hS hb hS.size
    refine ⟨_, rfl, hS, ?_⟩
    simp only [Act.put, List.setIfInBounds_toArray, List.set_cons_zero, List.set_cons_succ]
    clear hb
    refine valAt 0 114 (.slice (some ⟨(v1).heap.size, 0, none⟩) 7 7) (World.alloc v1 (.cells #[.string ⟨#[40]⟩, .string ⟨#[]⟩, .string ⟨#[40, 63, 61]⟩, .string ⟨#[40, 63, 33]⟩, .string ⟨#[40, 63, 60, 61]⟩, .string ⟨#[40, 63, 60, 33]⟩, .string ⟨#[40, 63, 62]⟩] 9)) rfl rfl (by kernel_rfl) (by rfl) (by kernel_rfl) (hS.alloc hS.size _) ?_
    simp only [Act.put, List.setIfInBounds_toArray, List.set_cons_zero, List.set_cons_succ]
    have hc : (World.alloc v1 (.cells #[.string ⟨#[40]⟩, .string ⟨#[]⟩, .string ⟨#[40, 63, 61]⟩, .string ⟨#[40, 63, 33]⟩, .string ⟨#[40, 63, 60, 61]⟩, .string ⟨#[40, 63, 60, 33]⟩, .string ⟨#[40, 63, 62]⟩] 9)).cell? ⟨(v1).heap.size, 3, none⟩ = some (.string ⟨#[40, 63, 33]⟩) := (cell_of_row _ _ _ _ _ _ (heap_alloc_new v1 _)).trans rfl
    have hS := hS.alloc hS.size (.cells #[.string ⟨#[40]⟩, .string ⟨#[]⟩, .string ⟨#[40, 63, 61]⟩, .string ⟨#[40, 63, 33]⟩, .string ⟨#[40, 63, 60, 61]⟩, .string ⟨#[40, 63, 60, 33]⟩, .string ⟨#[40, 63, 62]⟩] 9)
    obtain ⟨U, hU⟩ : ∃ U, U = (World.alloc v1 (.cells #[.string ⟨#[40]⟩, .string ⟨#[]⟩, .string ⟨#[40, 63, 61]⟩, .string ⟨#[40, 63, 33]⟩, .string ⟨#[40, 63, 60, 61]⟩, .string ⟨#[40, 63, 60, 33]⟩, .string ⟨#[40, 63, 62]⟩] 9)) := ⟨_, rfl⟩
    rw [← hU] at hS hc ⊢
    refine takeAt 4 118 (.pointer (some ⟨(v1).heap.size, 3, none⟩)) rfl rfl (by kernel_rfl) (by kernel_rfl) (by kernel_rfl) (fun _ _ _ h => h) (yields (by rfl) (fun w => by kernel_rfl)) hS ?_
    simp only [Act.put, List.setIfInBounds_toArray, List.set_cons_zero, List.set_cons_succ]
    refine valAt 5 119 (.string ⟨#[40, 63, 33]⟩) U rfl rfl (by kernel_rfl) (by rfl) (loadStr_run rfl rfl hc) hS ?_
    simp only [Act.put, List.setIfInBounds_toArray, List.set_cons_zero, List.set_cons_succ]
    refine takeAt 10 124 (.string (⟨#[40, 63, 33]⟩ ++ sa)) rfl rfl (by kernel_rfl) (by kernel_rfl) (by kernel_rfl) (fun _ _ _ h => h) (catB_y _ _ (by show 3 + sa.size ≤ 100000000; omega) rfl rfl rfl (by rfl)) hS ?_
    simp only [Act.put, List.setIfInBounds_toArray, List.set_cons_zero, List.set_cons_succ]
    refine takeAt 11 125 (.string ((⟨#[40, 63, 33]⟩ ++ sa) ++ ⟨#[41]⟩)) rfl rfl (by kernel_rfl) (by kernel_rfl) (by kernel_rfl) (fun _ _ _ h => h) (catB_y _ _ (by show _ + 1 ≤ 100000000; omega) rfl rfl rfl (by rfl)) hS ?_
    simp only [Act.put, List.setIfInBounds_toArray, List.set_cons_zero, List.set_cons_succ]
    refine takeAt 12 4 (.string ((⟨#[40, 63, 33]⟩ ++ sa) ++ ⟨#[41]⟩)) rfl rfl (by kernel_rfl) (by kernel_rfl) (by kernel_rfl) (fun _ _ _ h => h) (yields (by rfl) (fun w => by kernel_rfl)) hS ?_
    simp only [Act.put, List.setIfInBounds_toArray, List.set_cons_zero, List.set_cons_succ]
    refine wpAnyH_done (by kernel_rfl) ?_ _
    go_wp2_with fail
    go_ret
    exact ⟨rfl, HB.out.trans (hS.mono HB.out.size)⟩
set_option maxRecDepth 20000 in
set_option maxHeartbeats 8000000 in
theorem node8_open15 (A : Option Addr) (n cap : Nat) (l : Nat → Nd) (i : Nat) (hi : i < n) (hn : n ≤ 500) (hk : (l i).k = 15) (ja : Nat) (ha : (l i).a = (ja : Int)) (_hja : ja < i) (sa : ByteArray) (za : sa.size ≤ 3000000) (NA : Node8 A n cap l ja sa) : Node8 A n cap l i ((⟨#[40, 63, 60, 61]⟩ ++ sa) ++ ⟨#[41]⟩) := by
  intro w hl
  have W1 := Lib.hid NA
  have y1 : ((⟨#[40, 63, 60, 61]⟩ : ByteArray) ++ sa).size ≤ sa.size + 4 := by rw [ByteArray.size_append]; show 4 + sa.size ≤ _; omega
  clear NA
  obtain ⟨b, o, rfl, hN⟩ := hl.at_ (show 0 < n by omega)
  have r1 : (i : Int) < (n : Int) := by omega
  obtain ⟨c0, c1, c2, c3, c4, c5, c6, c7, c8, c9, c10, c11⟩ := hN.2 i hi
  obtain ⟨V, hV⟩ : ∃ V, V = w.alloc (.cells (ndC (l i)).toArray 64) := ⟨_, rfl⟩
  have HX := Lib.hid (show At12 V w.heap.size 0 (l i) by rw [hV]; exact refBox w (l i))
  have HB := Lib.hid (show Below w.heap.size w V by rw [hV]; exact (Below.refl _ w).alloc (Nat.le_refl _) _)
  have HN := Lib.hid (hl.below HB.out (Nat.le_refl _))
  simp only [ndC] at hV
  rw [hk] at c0 hV
  rw [ha] at c1 hV
  clear hl hN
  go_enter Tryz.func20, Tryz.ntmps20
  go_wp2_with fail
  rw [← hV]
  clear c0 c1 c2 c3 c4 c5 c6 c7 c8 c9 c10 c11 hV
  obtain ⟨c0, c1, c2, c3, c4, c5, c6, c7, c8, c9, c10, c11⟩ := HX.out
  have hg : w.heap.size < V.heap.size := block_lt_of_cell c0
  rw [hk] at c0
  rw [ha] at c1
  have D0 := Lib.hid c0
  have D1 := Lib.hid c1
  clear c0 c1 c2 c3 c4 c5 c6 c7 c8 c9 c10 c11 ha hk
  refine (Ast.rkids_any _ _).mono ?_
  rintro e u1 ⟨rfl, rfl⟩
  rw [show Ast.kidsZ 15 = 1 from rfl]
  go_wp2_with fail
  refine wp_region_held_drew (S := fun u => Below V.heap.size V u) (by kernel_rfl) (show _ from (Below.refl _ V).drew) (fun hS => ?_)
  generalize World.drew V = u0 at hS ⊢
  refine takeAt 1 115 (.pointer (some ⟨w.heap.size, 0, none⟩)) rfl rfl (by kernel_rfl) (by kernel_rfl) (by kernel_rfl) (fun _ _ _ h => h) (yields (by rfl) (fun w => by kernel_rfl)) hS ?_
  simp only [Act.put, List.setIfInBounds_toArray, List.set_cons_zero, List.set_cons_succ]
  refine takeAt 2 116 (.int .i64 15) rfl rfl (by kernel_rfl) (by kernel_rfl) (by kernel_rfl) (fun _ _ _ h => h) (loadI_y (15 : Int) (fun u h => (h.cell (p := ⟨w.heap.size, 0, none⟩) hg).trans D0.out) rfl rfl (by rfl)) hS ?_
  simp only [Act.put, List.setIfInBounds_toArray, List.set_cons_zero, List.set_cons_succ]
  refine takeAt 3 117 (.int .i64 4) rfl rfl (by kernel_rfl) (by kernel_rfl) (by kernel_rfl) (fun _ _ _ h => h) (yields (by rfl) (fun w => by kernel_rfl)) hS ?_
  simp only [Act.put, List.setIfInBounds_toArray, List.set_cons_zero, List.set_cons_succ]
  refine takeAt 6 120 (.slice (some ⟨b, o, none⟩) n cap) rfl rfl (by kernel_rfl) (by kernel_rfl) (by kernel_rfl) (fun _ _ _ h => h) (yields (by rfl) (fun w => by kernel_rfl)) hS ?_
  simp only [Act.put, List.setIfInBounds_toArray, List.set_cons_zero, List.set_cons_succ]
  refine takeAt 7 121 (.pointer (some ⟨w.heap.size, 1, none⟩)) rfl rfl (by kernel_rfl) (by kernel_rfl) (by kernel_rfl) (fun _ _ _ h => h) (yields (by rfl) (fun w => by kernel_rfl)) hS ?_
  simp only [Act.put, List.setIfInBounds_toArray, List.set_cons_zero, List.set_cons_succ]
  refine takeAt 8 122 (.int .i64 (ja : Int)) rfl rfl (by kernel_rfl) (by kernel_rfl) (by kernel_rfl) (fun _ _ _ h => h) (loadI_y (ja : Int) (fun u h => (h.cell (p := ⟨w.heap.size, 1, none⟩) hg).trans D1.out) rfl rfl (by rfl)) hS ?_
  simp only [Act.put, List.setIfInBounds_toArray, List.set_cons_zero, List.set_cons_succ]
  refine wpAnyH_ready (rs := [0, 9]) (by kernel_rfl) (by simp) (AllReadyH.cons rfl ?_ (AllReadyH.cons rfl ?_ AllReadyH.nil))
  · refine valStep 0 114 (.slice (some ⟨(u0).heap.size, 0, none⟩) 7 7) (World.alloc u0 (.cells #[.string ⟨#[40]⟩, .string ⟨#[]⟩, .string ⟨#[40, 63, 61]⟩, .string ⟨#[40, 63, 33]⟩, .string ⟨#[40, 63, 60, 61]⟩, .string ⟨#[40, 63, 60, 33]⟩, .string ⟨#[40, 63, 62]⟩] 9)) rfl (by rfl) (by kernel_rfl) (hS.alloc hS.size _) ?_
    simp only [Act.put, List.setIfInBounds_toArray, List.set_cons_zero, List.set_cons_succ]
    have hc : (World.alloc u0 (.cells #[.string ⟨#[40]⟩, .string ⟨#[]⟩, .string ⟨#[40, 63, 61]⟩, .string ⟨#[40, 63, 33]⟩, .string ⟨#[40, 63, 60, 61]⟩, .string ⟨#[40, 63, 60, 33]⟩, .string ⟨#[40, 63, 62]⟩] 9)).cell? ⟨(u0).heap.size, 4, none⟩ = some (.string ⟨#[40, 63, 60, 61]⟩) := (cell_of_row _ _ _ _ _ _ (heap_alloc_new u0 _)).trans rfl
    have hS := hS.alloc hS.size (.cells #[.string ⟨#[40]⟩, .string ⟨#[]⟩, .string ⟨#[40, 63, 61]⟩, .string ⟨#[40, 63, 33]⟩, .string ⟨#[40, 63, 60, 61]⟩, .string ⟨#[40, 63, 60, 33]⟩, .string ⟨#[40, 63, 62]⟩] 9)
    obtain ⟨U, hU⟩ : ∃ U, U = (World.alloc u0 (.cells #[.string ⟨#[40]⟩, .string ⟨#[]⟩, .string ⟨#[40, 63, 61]⟩, .string ⟨#[40, 63, 33]⟩, .string ⟨#[40, 63, 60, 61]⟩, .string ⟨#[40, 63, 60, 33]⟩, .string ⟨#[40, 63, 62]⟩] 9)) := ⟨_, rfl⟩
    rw [← hU] at hS hc ⊢
    obtain ⟨g, hgg⟩ : ∃ g, g = u0.heap.size := ⟨_, rfl⟩
    rw [← hgg] at hc ⊢
    have hgl : g < U.heap.size := block_lt_of_cell hc
    clear hU hgg
    refine takeAt 4 118 (.pointer (some ⟨g, 4, none⟩)) rfl rfl (by kernel_rfl) (by kernel_rfl) (by kernel_rfl) (fun _ _ _ h => h) (yields (by rfl) (fun w => by kernel_rfl)) hS ?_
    simp only [Act.put, List.setIfInBounds_toArray, List.set_cons_zero, List.set_cons_succ]
    refine wpAnyH_ready (rs := [5, 9]) (by kernel_rfl) (by simp) (AllReadyH.cons rfl ?_ (AllReadyH.cons rfl ?_ AllReadyH.nil))
    · refine valStep 5 119 (.string ⟨#[40, 63, 60, 61]⟩) U rfl (by rfl) (loadStr_run rfl rfl hc) hS ?_
      simp only [Act.put, List.setIfInBounds_toArray, List.set_cons_zero, List.set_cons_succ]
      refine callAt 9 123 rfl rfl (by kernel_rfl) (by rfl) (by kernel_rfl) (W1.out _ (HN.out.below hS (Nat.le_refl _))) ?_
      rintro e v1 ⟨rfl, hb⟩
      have hS := thenB hS hb hS.size
      refine ⟨_, rfl, hS, ?_⟩
      simp only [Act.put, List.setIfInBounds_toArray, List.set_cons_zero, List.set_cons_succ]
      clear hb
      refine takeAt 10 124 (.string (⟨#[40, 63, 60, 61]⟩ ++ sa)) rfl rfl (by kernel_rfl) (by kernel_rfl) (by kernel_rfl) (fun _ _ _ h => h) (catB_y _ _ (by show 4 + sa.size ≤ 100000000; omega) rfl rfl rfl (by rfl)) hS ?_
      simp only [Act.put, List.setIfInBounds_toArray, List.set_cons_zero, List.set_cons_succ]
      refine takeAt 11 125 (.string ((⟨#[40, 63, 60, 61]⟩ ++ sa) ++ ⟨#[41]⟩)) rfl rfl (by kernel_rfl) (by kernel_rfl) (by kernel_rfl) (fun _ _ _ h => h) (catB_y _ _ (by show _ + 1 ≤ 100000000; omega) rfl rfl rfl (by rfl)) hS ?_
      simp only [Act.put, List.setIfInBounds_toArray, List.set_cons_zero, List.set_cons_succ]
      refine takeAt 12 4 (.string ((⟨#[40, 63, 60, 61]⟩ ++ sa) ++ ⟨#[41]⟩)) rfl rfl (by kernel_rfl) (by kernel_rfl) (by kernel_rfl) (fun _ _ _ h => h) (yields (by rfl) (fun w => by kernel_rfl)) hS ?_
      simp only [Act.put, List.setIfInBounds_toArray, List.set_cons_zero, List.set_cons_succ]
      refine wpAnyH_done (by kernel_rfl) ?_ _
      go_wp2_with fail
      go_ret
      exact ⟨rfl, HB.out.trans (hS.mono HB.out.size)⟩
    · refine callStep 9 123 rfl (by rfl) (by kernel_rfl) (W1.out _ (HN.out.below hS (Nat.le_refl _))) ?_
      rintro e v1 ⟨rfl, hb⟩
      have hS := thenB hS hb hS.size
      refine ⟨_, rfl, hS, ?_⟩
      simp only [Act.put, List.setIfInBounds_toArray, List.set_cons_zero, List.set_cons_succ]
      have hc := (hb.cell (p := ⟨g, 4, none⟩) hgl).trans hc
      clear hb
      refine valAt 5 119 (.string ⟨#[40, 63, 60, 61]⟩) v1 rfl rfl (by kernel_rfl) (by rfl) (loadStr_run rfl rfl hc) hS ?_
      simp only [Act.put, List.setIfInBounds_toArray, List.set_cons_zero, List.set_cons_succ]
      refine takeAt 10 124 (.string (⟨#[40, 63, 60, 61]⟩ ++ sa)) rfl rfl (by kernel_rfl) (by kernel_rfl) (by kernel_rfl) (fun _ _ _ h => h) (catB_y _ _ (by show 4 + sa.size ≤ 100000000; omega) rfl rfl rfl (by rfl)) hS ?_
      simp only [Act.put, List.setIfInBounds_toArray, List.set_cons_zero, List.set_cons_succ]
      refine takeAt 11 125 (.string ((⟨#[40, 63, 60, 61]⟩ ++ sa) ++ ⟨#[41]⟩)) rfl rfl (by kernel_rfl) (by kernel_rfl) (by kernel_rfl) (fun _ _ _ h => h) (catB_y _ _ (by show _ + 1 ≤ 100000000; omega) rfl rfl rfl (by rfl)) hS ?_
      simp only [Act.put, List.setIfInBounds_toArray, List.set_cons_zero, List.set_cons_succ]
      refine takeAt 12 4 (.string ((⟨#[40, 63, 60, 61]⟩ ++ sa) ++ ⟨#[41]⟩)) rfl rfl (by kernel_rfl) (by kernel_rfl) (by kernel_rfl) (fun _ _ _ h => h) (yields (by rfl) (fun w => by kernel_rfl)) hS ?_
      simp only [Act.put, List.setIfInBounds_toArray, List.set_cons_zero, List.set_cons_succ]
      refine wpAnyH_done (by kernel_rfl) ?_ _
      go_wp2_with fail
      go_ret
      exact ⟨rfl, HB.out.trans (hS.mono HB.out.size)⟩
  · refine callStep 9 123 rfl (by rfl) (by kernel_rfl) (W1.out _ (HN.out.below hS (Nat.le_refl _))) ?_
    rintro e v1 ⟨rfl, hb⟩
    have hS := thenB hS hb hS.size
    refine ⟨_, rfl, hS, ?_⟩
    simp only [Act.put, List.setIfInBounds_toArray, List.set_cons_zero, List.set_cons_succ]
    clear hb
    refine valAt 0 114 (.slice (some ⟨(v1).heap.size, 0, none⟩) 7 7) (World.alloc v1 (.cells #[.string ⟨#[40]⟩, .string ⟨#[]⟩, .string ⟨#[40, 63, 61]⟩, .string ⟨#[40, 63, 33]⟩, .string ⟨#[40, 63, 60, 61]⟩, .string ⟨#[40, 63, 60, 33]⟩, .string ⟨#[40, 63, 62]⟩] 9)) rfl rfl (by kernel_rfl) (by rfl) (by kernel_rfl) (hS.alloc hS.size _) ?_
    simp only [Act.put, List.setIfInBounds_toArray, List.set_cons_zero, List.set_cons_succ]
    have hc : (World.alloc v1 (.cells #[.string ⟨#[40]⟩, .string ⟨#[]⟩, .string ⟨#[40, 63, 61]⟩, .string ⟨#[40, 63, 33]⟩, .string ⟨#[40, 63, 60, 61]⟩, .string ⟨#[40, 63, 60, 33]⟩, .string ⟨#[40, 63, 62]⟩] 9)).cell? ⟨(v1).heap.size, 4, none⟩ = some (.string ⟨#[40, 63, 60, 61]⟩) := (cell_of_row _ _ _ _ _ _ (heap_alloc_new v1 _)).trans rfl
    have hS := hS.alloc hS.size (.cells #[.string ⟨#[40]⟩, .string ⟨#[]⟩, .string ⟨#[40, 63, 61]⟩, .string ⟨#[40, 63, 33]⟩, .string ⟨#[40, 63, 60, 61]⟩, .string ⟨#[40, 63, 60, 33]⟩, .string ⟨#[40, 63, 62]⟩] 9)
    obtain ⟨U, hU⟩ : ∃ U, U = (World.alloc v1 (.cells #[.string ⟨#[40]⟩, .string ⟨#[]⟩, .string ⟨#[40, 63, 61]⟩, .string ⟨#[40, 63, 33]⟩, .string ⟨#[40, 63, 60, 61]⟩, .string ⟨#[40, 63, 60, 33]⟩, .string ⟨#[40, 63, 62]⟩] 9)) := ⟨_, rfl⟩
    rw [← hU] at hS hc ⊢
    refine takeAt 4 118 (.pointer (some ⟨(v1).heap.size, 4, none⟩)) rfl rfl (by kernel_rfl) (by kernel_rfl) (by kernel_rfl) (fun _ _ _ h => h) (yields (by rfl) (fun w => by kernel_rfl)) hS ?_
    simp only [Act.put, List.setIfInBounds_toArray, List.set_cons_zero, List.set_cons_succ]
    refine valAt 5 119 (.string ⟨#[40, 63, 60, 61]⟩) U rfl rfl (by kernel_rfl) (by rfl) (loadStr_run rfl rfl hc) hS ?_
    simp only [Act.put, List.setIfInBounds_toArray, List.set_cons_zero, List.set_cons_succ]
    refine takeAt 10 124 (.string (⟨#[40, 63, 60, 61]⟩ ++ sa)) rfl rfl (by kernel_rfl) (by kernel_rfl) (by kernel_rfl) (fun _ _ _ h => h) (catB_y _ _ (by show 4 + sa.size ≤ 100000000; omega) rfl rfl rfl (by rfl)) hS ?_
    simp only [Act.put, List.setIfInBounds_toArray, List.set_cons_zero, List.set_cons_succ]
    refine takeAt 11 125 (.string ((⟨#[40, 63, 60, 61]⟩ ++ sa) ++ ⟨#[41]⟩)) rfl rfl (by kernel_rfl) (by kernel_rfl) (by kernel_rfl) (fun _ _ _ h => h) (catB_y _ _ (by show _ + 1 ≤ 100000000; omega) rfl rfl rfl (by rfl)) hS ?_
    simp only [Act.put, List.setIfInBounds_toArray, List.set_cons_zero, List.set_cons_succ]
    refine takeAt 12 4 (.string ((⟨#[40, 63, 60, 61]⟩ ++ sa) ++ ⟨#[41]⟩)) rfl rfl (by kernel_rfl) (by kernel_rfl) (by kernel_rfl) (fun _ _ _ h => h) (yields (by rfl) (fun w => by kernel_rfl)) hS ?_
    simp only [Act.put, List.setIfInBounds_toArray, List.set_cons_zero, List.set_cons_succ]
    refine wpAnyH_done (by kernel_rfl) ?_ _
    go_wp2_with fail
    go_ret
    exact ⟨rfl, HB.out.trans (hS.mono HB.out.size)⟩
set_option maxRecDepth 20000 in
set_option maxHeartbeats 8000000 in
theorem node8_open16 (A : Option Addr) (n cap : Nat) (l : Nat → Nd) (i : Nat) (hi : i < n) (hn : n ≤ 500) (hk : (l i).k = 16) (ja : Nat) (ha : (l i).a = (ja : Int)) (_hja : ja < i) (sa : ByteArray) (za : sa.size ≤ 3000000) (NA : Node8 A n cap l ja sa) : Node8 A n cap l i ((⟨#[40, 63, 60, 33]⟩ ++ sa) ++ ⟨#[41]⟩) := by
  intro w hl
  have W1 := Lib.hid NA
  have y1 : ((⟨#[40, 63, 60, 33]⟩ : ByteArray) ++ sa).size ≤ sa.size + 4 := by rw [ByteArray.size_append]; show 4 + sa.size ≤ _; omega
  clear NA
  obtain ⟨b, o, rfl, hN⟩ := hl.at_ (show 0 < n by omega)
  have r1 : (i : Int) < (n : Int) := by omega
  obtain ⟨c0, c1, c2, c3, c4, c5, c6, c7, c8, c9, c10, c11⟩ := hN.2 i hi
  obtain ⟨V, hV⟩ : ∃ V, V = w.alloc (.cells (ndC (l i)).toArray 64) := ⟨_, rfl⟩
  have HX := Lib.hid (show At12 V w.heap.size 0 (l i) by rw [hV]; exact refBox w (l i))
  have HB := Lib.hid (show Below w.heap.size w V by rw [hV]; exact (Below.refl _ w).alloc (Nat.le_refl _) _)
  have HN := Lib.hid (hl.below HB.out (Nat.le_refl _))
  simp only [ndC] at hV
  rw [hk] at c0 hV
  rw [ha] at c1 hV
  clear hl hN
  go_enter Tryz.func20, Tryz.ntmps20
  go_wp2_with fail
  rw [← hV]
  clear c0 c1 c2 c3 c4 c5 c6 c7 c8 c9 c10 c11 hV
  obtain ⟨c0, c1, c2, c3, c4, c5, c6, c7, c8, c9, c10, c11⟩ := HX.out
  have hg : w.heap.size < V.heap.size := block_lt_of_cell c0
  rw [hk] at c0
  rw [ha] at c1
  have D0 := Lib.hid c0
  have D1 := Lib.hid c1
  clear c0 c1 c2 c3 c4 c5 c6 c7 c8 c9 c10 c11 ha hk
  refine (Ast.rkids_any _ _).mono ?_
  rintro e u1 ⟨rfl, rfl⟩
  rw [show Ast.kidsZ 16 = 1 from rfl]
  go_wp2_with fail
  refine wp_region_held_drew (S := fun u => Below V.heap.size V u) (by kernel_rfl) (show _ from (Below.refl _ V).drew) (fun hS => ?_)
  generalize World.drew V = u0 at hS ⊢
  refine takeAt 1 115 (.pointer (some ⟨w.heap.size, 0, none⟩)) rfl rfl (by kernel_rfl) (by kernel_rfl) (by kernel_rfl) (fun _ _ _ h => h) (yields (by rfl) (fun w => by kernel_rfl)) hS ?_
  simp only [Act.put, List.setIfInBounds_toArray, List.set_cons_zero, List.set_cons_succ]
  refine takeAt 2 116 (.int .i64 16) rfl rfl (by kernel_rfl) (by kernel_rfl) (by kernel_rfl) (fun _ _ _ h => h) (loadI_y (16 : Int) (fun u h => (h.cell (p := ⟨w.heap.size, 0, none⟩) hg).trans D0.out) rfl rfl (by rfl)) hS ?_
  simp only [Act.put, List.setIfInBounds_toArray, List.set_cons_zero, List.set_cons_succ]
  refine takeAt 3 117 (.int .i64 5) rfl rfl (by kernel_rfl) (by kernel_rfl) (by kernel_rfl) (fun _ _ _ h => h) (yields (by rfl) (fun w => by kernel_rfl)) hS ?_
  simp only [Act.put, List.setIfInBounds_toArray, List.set_cons_zero, List.set_cons_succ]
  refine takeAt 6 120 (.slice (some ⟨b, o, none⟩) n cap) rfl rfl (by kernel_rfl) (by kernel_rfl) (by kernel_rfl) (fun _ _ _ h => h) (yields (by rfl) (fun w => by kernel_rfl)) hS ?_
  simp only [Act.put, List.setIfInBounds_toArray, List.set_cons_zero, List.set_cons_succ]
  refine takeAt 7 121 (.pointer (some ⟨w.heap.size, 1, none⟩)) rfl rfl (by kernel_rfl) (by kernel_rfl) (by kernel_rfl) (fun _ _ _ h => h) (yields (by rfl) (fun w => by kernel_rfl)) hS ?_
  simp only [Act.put, List.setIfInBounds_toArray, List.set_cons_zero, List.set_cons_succ]
  refine takeAt 8 122 (.int .i64 (ja : Int)) rfl rfl (by kernel_rfl) (by kernel_rfl) (by kernel_rfl) (fun _ _ _ h => h) (loadI_y (ja : Int) (fun u h => (h.cell (p := ⟨w.heap.size, 1, none⟩) hg).trans D1.out) rfl rfl (by rfl)) hS ?_
  simp only [Act.put, List.setIfInBounds_toArray, List.set_cons_zero, List.set_cons_succ]
  refine wpAnyH_ready (rs := [0, 9]) (by kernel_rfl) (by simp) (AllReadyH.cons rfl ?_ (AllReadyH.cons rfl ?_ AllReadyH.nil))
  · refine valStep 0 114 (.slice (some ⟨(u0).heap.size, 0, none⟩) 7 7) (World.alloc u0 (.cells #[.string ⟨#[40]⟩, .string ⟨#[]⟩, .string ⟨#[40, 63, 61]⟩, .string ⟨#[40, 63, 33]⟩, .string ⟨#[40, 63, 60, 61]⟩, .string ⟨#[40, 63, 60, 33]⟩, .string ⟨#[40, 63, 62]⟩] 9)) rfl (by rfl) (by kernel_rfl) (hS.alloc hS.size _) ?_
    simp only [Act.put, List.setIfInBounds_toArray, List.set_cons_zero, List.set_cons_succ]
    have hc : (World.alloc u0 (.cells #[.string ⟨#[40]⟩, .string ⟨#[]⟩, .string ⟨#[40, 63, 61]⟩, .string ⟨#[40, 63, 33]⟩, .string ⟨#[40, 63, 60, 61]⟩, .string ⟨#[40, 63, 60, 33]⟩, .string ⟨#[40, 63, 62]⟩] 9)).cell? ⟨(u0).heap.size, 5, none⟩ = some (.string ⟨#[40, 63, 60, 33]⟩) := (cell_of_row _ _ _ _ _ _ (heap_alloc_new u0 _)).trans rfl
    have hS := hS.alloc hS.size (.cells #[.string ⟨#[40]⟩, .string ⟨#[]⟩, .string ⟨#[40, 63, 61]⟩, .string ⟨#[40, 63, 33]⟩, .string ⟨#[40, 63, 60, 61]⟩, .string ⟨#[40, 63, 60, 33]⟩, .string ⟨#[40, 63, 62]⟩] 9)
    obtain ⟨U, hU⟩ : ∃ U, U = (World.alloc u0 (.cells #[.string ⟨#[40]⟩, .string ⟨#[]⟩, .string ⟨#[40, 63, 61]⟩, .string ⟨#[40, 63, 33]⟩, .string ⟨#[40, 63, 60, 61]⟩, .string ⟨#[40, 63, 60, 33]⟩, .string ⟨#[40, 63, 62]⟩] 9)) := ⟨_, rfl⟩
    rw [← hU] at hS hc ⊢
    obtain ⟨g, hgg⟩ : ∃ g, g = u0.heap.size := ⟨_, rfl⟩
    rw [← hgg] at hc ⊢
    have hgl : g < U.heap.size := block_lt_of_cell hc
    clear hU hgg
    refine takeAt 4 118 (.pointer (some ⟨g, 5, none⟩)) rfl rfl (by kernel_rfl) (by kernel_rfl) (by kernel_rfl) (fun _ _ _ h => h) (yields (by rfl) (fun w => by kernel_rfl)) hS ?_
    simp only [Act.put, List.setIfInBounds_toArray, List.set_cons_zero, List.set_cons_succ]
    refine wpAnyH_ready (rs := [5, 9]) (by kernel_rfl) (by simp) (AllReadyH.cons rfl ?_ (AllReadyH.cons rfl ?_ AllReadyH.nil))
    · refine valStep 5 119 (.string ⟨#[40, 63, 60, 33]⟩) U rfl (by rfl) (loadStr_run rfl rfl hc) hS ?_
      simp only [Act.put, List.setIfInBounds_toArray, List.set_cons_zero, List.set_cons_succ]
      refine callAt 9 123 rfl rfl (by kernel_rfl) (by rfl) (by kernel_rfl) (W1.out _ (HN.out.below hS (Nat.le_refl _))) ?_
      rintro e v1 ⟨rfl, hb⟩
      have hS := thenB hS hb hS.size
      refine ⟨_, rfl, hS, ?_⟩
      simp only [Act.put, List.setIfInBounds_toArray, List.set_cons_zero, List.set_cons_succ]
      clear hb
      refine takeAt 10 124 (.string (⟨#[40, 63, 60, 33]⟩ ++ sa)) rfl rfl (by kernel_rfl) (by kernel_rfl) (by kernel_rfl) (fun _ _ _ h => h) (catB_y _ _ (by show 4 + sa.size ≤ 100000000; omega) rfl rfl rfl (by rfl)) hS ?_
      simp only [Act.put, List.setIfInBounds_toArray, List.set_cons_zero, List.set_cons_succ]
      refine takeAt 11 125 (.string ((⟨#[40, 63, 60, 33]⟩ ++ sa) ++ ⟨#[41]⟩)) rfl rfl (by kernel_rfl) (by kernel_rfl) (by kernel_rfl) (fun _ _ _ h => h) (catB_y _ _ (by show _ + 1 ≤ 100000000; omega) rfl rfl rfl (by rfl)) hS ?_
      simp only [Act.put, List.setIfInBounds_toArray, List.set_cons_zero, List.set_cons_succ]
      refine takeAt 12 4 (.string ((⟨#[40, 63, 60, 33]⟩ ++ sa) ++ ⟨#[41]⟩)) rfl rfl (by kernel_rfl) (by kernel_rfl) (by kernel_rfl) (fun _ _ _ h => h) (yields (by rfl) (fun w => by kernel_rfl)) hS ?_
      simp only [Act.put, List.setIfInBounds_toArray, List.set_cons_zero, List.set_cons_succ]
      refine wpAnyH_done (by kernel_rfl) ?_ _
      go_wp2_with fail
      go_ret
      exact ⟨rfl, HB.out.trans (hS.mono HB.out.size)⟩
    · refine callStep 9 123 rfl (by rfl) (by kernel_rfl) (W1.out _ (HN.out.below hS (Nat.le_refl _))) ?_
      rintro e v1 ⟨rfl, hb⟩
      have hS := thenB hS hb hS.size
      refine ⟨_, rfl, hS, ?_⟩
      simp only [Act.put, List.setIfInBounds_toArray, List.set_cons_zero, List.set_cons_succ]
      have hc := (hb.cell (p := ⟨g, 5, none⟩) hgl).trans hc
      clear hb
      refine valAt 5 119 (.string ⟨#[40, 63, 60, 33]⟩) v1 rfl rfl (by kernel_rfl) (by rfl) (loadStr_run rfl rfl hc) hS ?_
      simp only [Act.put, List.setIfInBounds_toArray, List.set_cons_zero, List.set_cons_succ]
      refine takeAt 10 124 (.string (⟨#[40, 63, 60, 33]⟩ ++ sa)) rfl rfl (by kernel_rfl) (by kernel_rfl) (by kernel_rfl) (fun _ _ _ h => h) (catB_y _ _ (by show 4 + sa.size ≤ 100000000; omega) rfl rfl rfl (by rfl)) hS ?_
      simp only [Act.put, List.setIfInBounds_toArray, List.set_cons_zero, List.set_cons_succ]
      refine takeAt 11 125 (.string ((⟨#[40, 63, 60, 33]⟩ ++ sa) ++ ⟨#[41]⟩)) rfl rfl (by kernel_rfl) (by kernel_rfl) (by kernel_rfl) (fun _ _ _ h => h) (catB_y _ _ (by show _ + 1 ≤ 100000000; omega) rfl rfl rfl (by rfl)) hS ?_
      simp only [Act.put, List.setIfInBounds_toArray, List.set_cons_zero, List.set_cons_succ]
      refine takeAt 12 4 (.string ((⟨#[40, 63, 60, 33]⟩ ++ sa) ++ ⟨#[41]⟩)) rfl rfl (by kernel_rfl) (by kernel_rfl) (by kernel_rfl) (fun _ _ _ h => h) (yields (by rfl) (fun w => by kernel_rfl)) hS ?_
      simp only [Act.put, List.setIfInBounds_toArray, List.set_cons_zero, List.set_cons_succ]
      refine wpAnyH_done (by kernel_rfl) ?_ _
      go_wp2_with fail
      go_ret
      exact ⟨rfl, HB.out.trans (hS.mono HB.out.size)⟩
  · refine callStep 9 123 rfl (by rfl) (by kernel_rfl) (W1.out _ (HN.out.below hS (Nat.le_refl _))) ?_
    rintro e v1 ⟨rfl, hb⟩
    have hS := thenB hS hb hS.size
    refine ⟨_, rfl, hS, ?_⟩
    simp only [Act.put, List.setIfInBounds_toArray, List.set_cons_zero, List.set_cons_succ]
    clear hb
    refine valAt 0 114 (.slice (some ⟨(v1).heap.size, 0, none⟩) 7 7) (World.alloc v1 (.cells #[.string ⟨#[40]⟩, .string ⟨#[]⟩, .string ⟨#[40, 63, 61]⟩, .string ⟨#[40, 63, 33]⟩, .string ⟨#[40, 63, 60, 61]⟩, .string ⟨#[40, 63, 60, 33]⟩, .string ⟨#[40, 63, 62]⟩] 9)) rfl rfl (by kernel_rfl) (by rfl) (by kernel_rfl) (hS.alloc hS.size _) ?_
    simp only [Act.put, List.setIfInBounds_toArray, List.set_cons_zero, List.set_cons_succ]
    have hc : (World.alloc v1 (.cells #[.string ⟨#[40]⟩, .string ⟨#[]⟩, .string ⟨#[40, 63, 61]⟩, .string ⟨#[40, 63, 33]⟩, .string ⟨#[40, 63, 60, 61]⟩, .string ⟨#[40, 63, 60, 33]⟩, .string ⟨#[40, 63, 62]⟩] 9)).cell? ⟨(v1).heap.size, 5, none⟩ = some (.string ⟨#[40, 63, 60, 33]⟩) := (cell_of_row _ _ _ _ _ _ (heap_alloc_new v1 _)).trans rfl
    have hS := hS.alloc hS.size (.cells #[.string ⟨#[40]⟩, .string ⟨#[]⟩, .string ⟨#[40, 63, 61]⟩, .string ⟨#[40, 63, 33]⟩, .string ⟨#[40, 63, 60, 61]⟩, .string ⟨#[40, 63, 60, 33]⟩, .string ⟨#[40, 63, 62]⟩] 9)
    obtain ⟨U, hU⟩ : ∃ U, U = (World.alloc v1 (.cells #[.string ⟨#[40]⟩, .string ⟨#[]⟩, .string ⟨#[40, 63, 61]⟩, .string ⟨#[40, 63, 33]⟩, .string ⟨#[40, 63, 60, 61]⟩, .string ⟨#[40, 63, 60, 33]⟩, .string ⟨#[40, 63, 62]⟩] 9)) := ⟨_, rfl⟩
    rw [← hU] at hS hc ⊢
    refine takeAt 4 118 (.pointer (some ⟨(v1).heap.size, 5, none⟩)) rfl rfl (by kernel_rfl) (by kernel_rfl) (by kernel_rfl) (fun _ _ _ h => h) (yields (by rfl) (fun w => by kernel_rfl)) hS ?_
    simp only [Act.put, List.setIfInBounds_toArray, List.set_cons_zero, List.set_cons_succ]
    refine valAt 5 119 (.string ⟨#[40, 63, 60, 33]⟩) U rfl rfl (by kernel_rfl) (by rfl) (loadStr_run rfl rfl hc) hS ?_
    simp only [Act.put, List.setIfInBounds_toArray, List.set_cons_zero, List.set_cons_succ]
    refine takeAt 10 124 (.string (⟨#[40, 63, 60, 33]⟩ ++ sa)) rfl rfl (by kernel_rfl) (by kernel_rfl) (by kernel_rfl) (fun _ _ _ h => h) (catB_y _ _ (by show 4 + sa.size ≤ 100000000; omega) rfl rfl rfl (by rfl)) hS ?_
    simp only [Act.put, List.setIfInBounds_toArray, List.set_cons_zero, List.set_cons_succ]
    refine takeAt 11 125 (.string ((⟨#[40, 63, 60, 33]⟩ ++ sa) ++ ⟨#[41]⟩)) rfl rfl (by kernel_rfl) (by kernel_rfl) (by kernel_rfl) (fun _ _ _ h => h) (catB_y _ _ (by show _ + 1 ≤ 100000000; omega) rfl rfl rfl (by rfl)) hS ?_
    simp only [Act.put, List.setIfInBounds_toArray, List.set_cons_zero, List.set_cons_succ]
    refine takeAt 12 4 (.string ((⟨#[40, 63, 60, 33]⟩ ++ sa) ++ ⟨#[41]⟩)) rfl rfl (by kernel_rfl) (by kernel_rfl) (by kernel_rfl) (fun _ _ _ h => h) (yields (by rfl) (fun w => by kernel_rfl)) hS ?_
    simp only [Act.put, List.setIfInBounds_toArray, List.set_cons_zero, List.set_cons_succ]
    refine wpAnyH_done (by kernel_rfl) ?_ _
    go_wp2_with fail
    go_ret
    exact ⟨rfl, HB.out.trans (hS.mono HB.out.size)⟩
set_option maxRecDepth 20000 in
set_option maxHeartbeats 8000000 in
theorem node8_open17 (A : Option Addr) (n cap : Nat) (l : Nat → Nd) (i : Nat) (hi : i < n) (hn : n ≤ 500) (hk : (l i).k = 17) (ja : Nat) (ha : (l i).a = (ja : Int)) (_hja : ja < i) (sa : ByteArray) (za : sa.size ≤ 3000000) (NA : Node8 A n cap l ja sa) : Node8 A n cap l i ((⟨#[40, 63, 62]⟩ ++ sa) ++ ⟨#[41]⟩) := by
  intro w hl
  have W1 := Lib.hid NA
  have y1 : ((⟨#[40, 63, 62]⟩ : ByteArray) ++ sa).size ≤ sa.size + 4 := by rw [ByteArray.size_append]; show 3 + sa.size ≤ _; omega
  clear NA
  obtain ⟨b, o, rfl, hN⟩ := hl.at_ (show 0 < n by omega)
  have r1 : (i : Int) < (n : Int) := by omega
  obtain ⟨c0, c1, c2, c3, c4, c5, c6, c7, c8, c9, c10, c11⟩ := hN.2 i hi
  obtain ⟨V, hV⟩ : ∃ V, V = w.alloc (.cells (ndC (l i)).toArray 64) := ⟨_, rfl⟩
  have HX := Lib.hid (show At12 V w.heap.size 0 (l i) by rw [hV]; exact refBox w (l i))
  have HB := Lib.hid (show Below w.heap.size w V by rw [hV]; exact (Below.refl _ w).alloc (Nat.le_refl _) _)
  have HN := Lib.hid (hl.below HB.out (Nat.le_refl _))
  simp only [ndC] at hV
  rw [hk] at c0 hV
  rw [ha] at c1 hV
  clear hl hN
  go_enter Tryz.func20, Tryz.ntmps20
  go_wp2_with fail
  rw [← hV]
  clear c0 c1 c2 c3 c4 c5 c6 c7 c8 c9 c10 c11 hV
  obtain ⟨c0, c1, c2, c3, c4, c5, c6, c7, c8, c9, c10, c11⟩ := HX.out
  have hg : w.heap.size < V.heap.size := block_lt_of_cell c0
  rw [hk] at c0
  rw [ha] at c1
  have D0 := Lib.hid c0
  have D1 := Lib.hid c1
  clear c0 c1 c2 c3 c4 c5 c6 c7 c8 c9 c10 c11 ha hk
  refine (Ast.rkids_any _ _).mono ?_
  rintro e u1 ⟨rfl, rfl⟩
  rw [show Ast.kidsZ 17 = 1 from rfl]
  go_wp2_with fail
  refine wp_region_held_drew (S := fun u => Below V.heap.size V u) (by kernel_rfl) (show _ from (Below.refl _ V).drew) (fun hS => ?_)
  generalize World.drew V = u0 at hS ⊢
  refine takeAt 1 115 (.pointer (some ⟨w.heap.size, 0, none⟩)) rfl rfl (by kernel_rfl) (by kernel_rfl) (by kernel_rfl) (fun _ _ _ h => h) (yields (by rfl) (fun w => by kernel_rfl)) hS ?_
  simp only [Act.put, List.setIfInBounds_toArray, List.set_cons_zero, List.set_cons_succ]
  refine takeAt 2 116 (.int .i64 17) rfl rfl (by kernel_rfl) (by kernel_rfl) (by kernel_rfl) (fun _ _ _ h => h) (loadI_y (17 : Int) (fun u h => (h.cell (p := ⟨w.heap.size, 0, none⟩) hg).trans D0.out) rfl rfl (by rfl)) hS ?_
  simp only [Act.put, List.setIfInBounds_toArray, List.set_cons_zero, List.set_cons_succ]
  refine takeAt 3 117 (.int .i64 6) rfl rfl (by kernel_rfl) (by kernel_rfl) (by kernel_rfl) (fun _ _ _ h => h) (yields (by rfl) (fun w => by kernel_rfl)) hS ?_
  simp only [Act.put, List.setIfInBounds_toArray, List.set_cons_zero, List.set_cons_succ]
  refine takeAt 6 120 (.slice (some ⟨b, o, none⟩) n cap) rfl rfl (by kernel_rfl) (by kernel_rfl) (by kernel_rfl) (fun _ _ _ h => h) (yields (by rfl) (fun w => by kernel_rfl)) hS ?_
  simp only [Act.put, List.setIfInBounds_toArray, List.set_cons_zero, List.set_cons_succ]
  refine takeAt 7 121 (.pointer (some ⟨w.heap.size, 1, none⟩)) rfl rfl (by kernel_rfl) (by kernel_rfl) (by kernel_rfl) (fun _ _ _ h => h) (yields (by rfl) (fun w => by kernel_rfl)) hS ?_
  simp only [Act.put, List.setIfInBounds_toArray, List.set_cons_zero, List.set_cons_succ]
  refine takeAt 8 122 (.int .i64 (ja : Int)) rfl rfl (by kernel_rfl) (by kernel_rfl) (by kernel_rfl) (fun _ _ _ h => h) (loadI_y (ja : Int) (fun u h => (h.cell (p := ⟨w.heap.size, 1, none⟩) hg).trans D1.out) rfl rfl (by rfl)) hS ?_
  simp only [Act.put, List.setIfInBounds_toArray, List.set_cons_zero, List.set_cons_succ]
  refine wpAnyH_ready (rs := [0, 9]) (by kernel_rfl) (by simp) (AllReadyH.cons rfl ?_ (AllReadyH.cons rfl ?_ AllReadyH.nil))
  · refine valStep 0 114 (.slice (some ⟨(u0).heap.size, 0, none⟩) 7 7) (World.alloc u0 (.cells #[.string ⟨#[40]⟩, .string ⟨#[]⟩, .string ⟨#[40, 63, 61]⟩, .string ⟨#[40, 63, 33]⟩, .string ⟨#[40, 63, 60, 61]⟩, .string ⟨#[40, 63, 60, 33]⟩, .string ⟨#[40, 63, 62]⟩] 9)) rfl (by rfl) (by kernel_rfl) (hS.alloc hS.size _) ?_
    simp only [Act.put, List.setIfInBounds_toArray, List.set_cons_zero, List.set_cons_succ]
    have hc : (World.alloc u0 (.cells #[.string ⟨#[40]⟩, .string ⟨#[]⟩, .string ⟨#[40, 63, 61]⟩, .string ⟨#[40, 63, 33]⟩, .string ⟨#[40, 63, 60, 61]⟩, .string ⟨#[40, 63, 60, 33]⟩, .string ⟨#[40, 63, 62]⟩] 9)).cell? ⟨(u0).heap.size, 6, none⟩ = some (.string ⟨#[40, 63, 62]⟩) := (cell_of_row _ _ _ _ _ _ (heap_alloc_new u0 _)).trans rfl
    have hS := hS.alloc hS.size (.cells #[.string ⟨#[40]⟩, .string ⟨#[]⟩, .string ⟨#[40, 63, 61]⟩, .string ⟨#[40, 63, 33]⟩, .string ⟨#[40, 63, 60, 61]⟩, .string ⟨#[40, 63, 60, 33]⟩, .string ⟨#[40, 63, 62]⟩] 9)
    obtain ⟨U, hU⟩ : ∃ U, U = (World.alloc u0 (.cells #[.string ⟨#[40]⟩, .string ⟨#[]⟩, .string ⟨#[40, 63, 61]⟩, .string ⟨#[40, 63, 33]⟩, .string ⟨#[40, 63, 60, 61]⟩, .string ⟨#[40, 63, 60, 33]⟩, .string ⟨#[40, 63, 62]⟩] 9)) := ⟨_, rfl⟩
    rw [← hU] at hS hc ⊢
    obtain ⟨g, hgg⟩ : ∃ g, g = u0.heap.size := ⟨_, rfl⟩
    rw [← hgg] at hc ⊢
    have hgl : g < U.heap.size := block_lt_of_cell hc
    clear hU hgg
    refine takeAt 4 118 (.pointer (some ⟨g, 6, none⟩)) rfl rfl (by kernel_rfl) (by kernel_rfl) (by kernel_rfl) (fun _ _ _ h => h) (yields (by rfl) (fun w => by kernel_rfl)) hS ?_
    simp only [Act.put, List.setIfInBounds_toArray, List.set_cons_zero, List.set_cons_succ]
    refine wpAnyH_ready (rs := [5, 9]) (by kernel_rfl) (by simp) (AllReadyH.cons rfl ?_ (AllReadyH.cons rfl ?_ AllReadyH.nil))
    · refine valStep 5 119 (.string ⟨#[40, 63, 62]⟩) U rfl (by rfl) (loadStr_run rfl rfl hc) hS ?_
      simp only [Act.put, List.setIfInBounds_toArray, List.set_cons_zero, List.set_cons_succ]
      refine callAt 9 123 rfl rfl (by kernel_rfl) (by rfl) (by kernel_rfl) (W1.out _ (HN.out.below hS (Nat.le_refl _))) ?_
      rintro e v1 ⟨rfl, hb⟩
      have hS := thenB hS hb hS.size
      refine ⟨_, rfl, hS, ?_⟩
      simp only [Act.put, List.setIfInBounds_toArray, List.set_cons_zero, List.set_cons_succ]
      clear hb
      refine takeAt 10 124 (.string (⟨#[40, 63, 62]⟩ ++ sa)) rfl rfl (by kernel_rfl) (by kernel_rfl) (by kernel_rfl) (fun _ _ _ h => h) (catB_y _ _ (by show 3 + sa.size ≤ 100000000; omega) rfl rfl rfl (by rfl)) hS ?_
      simp only [Act.put, List.setIfInBounds_toArray, List.set_cons_zero, List.set_cons_succ]
      refine takeAt 11 125 (.string ((⟨#[40, 63, 62]⟩ ++ sa) ++ ⟨#[41]⟩)) rfl rfl (by kernel_rfl) (by kernel_rfl) (by kernel_rfl) (fun _ _ _ h => h) (catB_y _ _ (by show _ + 1 ≤ 100000000; omega) rfl rfl rfl (by rfl)) hS ?_
      simp only [Act.put, List.setIfInBounds_toArray, List.set_cons_zero, List.set_cons_succ]
      refine takeAt 12 4 (.string ((⟨#[40, 63, 62]⟩ ++ sa) ++ ⟨#[41]⟩)) rfl rfl (by kernel_rfl) (by kernel_rfl) (by kernel_rfl) (fun _ _ _ h => h) (yields (by rfl) (fun w => by kernel_rfl)) hS ?_
      simp only [Act.put, List.setIfInBounds_toArray, List.set_cons_zero, List.set_cons_succ]
      refine wpAnyH_done (by kernel_rfl) ?_ _
      go_wp2_with fail
      go_ret
      exact ⟨rfl, HB.out.trans (hS.mono HB.out.size)⟩
    · refine callStep 9 123 rfl (by rfl) (by kernel_rfl) (W1.out _ (HN.out.below hS (Nat.le_refl _))) ?_
      rintro e v1 ⟨rfl, hb⟩
      have hS := thenB hS hb hS.size
      refine ⟨_, rfl, hS, ?_⟩
      simp only [Act.put, List.setIfInBounds_toArray, List.set_cons_zero, List.set_cons_succ]
      have hc := (hb.cell (p := ⟨g, 6, none⟩) hgl).trans hc
      clear hb
      refine valAt 5 119 (.string ⟨#[40, 63, 62]⟩) v1 rfl rfl (by kernel_rfl) (by rfl) (loadStr_run rfl rfl hc) hS ?_
      simp only [Act.put, List.setIfInBounds_toArray, List.set_cons_zero, List.set_cons_succ]
      refine takeAt 10 124 (.string (⟨#[40, 63, 62]⟩ ++ sa)) rfl rfl (by kernel_rfl) (by kernel_rfl) (by kernel_rfl) (fun _ _ _ h => h) (catB_y _ _ (by show 3 + sa.size ≤ 100000000; omega) rfl rfl rfl (by rfl)) hS ?_
      simp only [Act.put, List.setIfInBounds_toArray, List.set_cons_zero, List.set_cons_succ]
      refine takeAt 11 125 (.string ((⟨#[40, 63, 62]⟩ ++ sa) ++ ⟨#[41]⟩)) rfl rfl (by kernel_rfl) (by kernel_rfl) (by kernel_rfl) (fun _ _ _ h => h) (catB_y _ _ (by show _ + 1 ≤ 100000000; omega) rfl rfl rfl (by rfl)) hS ?_
      simp only [Act.put, List.setIfInBounds_toArray, List.set_cons_zero, List.set_cons_succ]
      refine takeAt 12 4 (.string ((⟨#[40, 63, 62]⟩ ++ sa) ++ ⟨#[41]⟩)) rfl rfl (by kernel_rfl) (by kernel_rfl) (by kernel_rfl) (fun _ _ _ h => h) (yields (by rfl) (fun w => by kernel_rfl)) hS ?_
      simp only [Act.put, List.setIfInBounds_toArray, List.set_cons_zero, List.set_cons_succ]
      refine wpAnyH_done (by kernel_rfl) ?_ _
      go_wp2_with fail
      go_ret
      exact ⟨rfl, HB.out.trans (hS.mono HB.out.size)⟩
  · refine callStep 9 123 rfl (by rfl) (by kernel_rfl) (W1.out _ (HN.out.below hS (Nat.le_refl _))) ?_
    rintro e v1 ⟨rfl, hb⟩
    have hS := thenB hS hb hS.size
    refine ⟨_, rfl, hS, ?_⟩
    simp only [Act.put, List.setIfInBounds_toArray, List.set_cons_zero, List.set_cons_succ]
    clear hb
    refine valAt 0 114 (.slice (some ⟨(v1).heap.size, 0, none⟩) 7 7) (World.alloc v1 (.cells #[.string ⟨#[40]⟩, .string ⟨#[]⟩, .string ⟨#[40, 63, 61]⟩, .string ⟨#[40, 63, 33]⟩, .string ⟨#[40, 63, 60, 61]⟩, .string ⟨#[40, 63, 60, 33]⟩, .string ⟨#[40, 63, 62]⟩] 9)) rfl rfl (by kernel_rfl) (by rfl) (by kernel_rfl) (hS.alloc hS.size _) ?_
    simp only [Act.put, List.setIfInBounds_toArray, List.set_cons_zero, List.set_cons_succ]
    have hc : (World.alloc v1 (.cells #[.string ⟨#[40]⟩, .string ⟨#[]⟩, .string ⟨#[40, 63, 61]⟩, .string ⟨#[40, 63, 33]⟩, .string ⟨#[40, 63, 60, 61]⟩, .string ⟨#[40, 63, 60, 33]⟩, .string ⟨#[40, 63, 62]⟩] 9)).cell? ⟨(v1).heap.size, 6, none⟩ = some (.string ⟨#[40, 63, 62]⟩) := (cell_of_row _ _ _ _ _ _ (heap_alloc_new v1 _)).trans rfl
    have hS := hS.alloc hS.size (.cells #[.string ⟨#[40]⟩, .string ⟨#[]⟩, .string ⟨#[40, 63, 61]⟩, .string ⟨#[40, 63, 33]⟩, .string ⟨#[40, 63, 60, 61]⟩, .string ⟨#[40, 63, 60, 33]⟩, .string ⟨#[40, 63, 62]⟩] 9)
    obtain ⟨U, hU⟩ : ∃ U, U = (World.alloc v1 (.cells #[.string ⟨#[40]⟩, .string ⟨#[]⟩, .string ⟨#[40, 63, 61]⟩, .string ⟨#[40, 63, 33]⟩, .string ⟨#[40, 63, 60, 61]⟩, .string ⟨#[40, 63, 60, 33]⟩, .string ⟨#[40, 63, 62]⟩] 9)) := ⟨_, rfl⟩
    rw [← hU] at hS hc ⊢
    refine takeAt 4 118 (.pointer (some ⟨(v1).heap.size, 6, none⟩)) rfl rfl (by kernel_rfl) (by kernel_rfl) (by kernel_rfl) (fun _ _ _ h => h) (yields (by rfl) (fun w => by kernel_rfl)) hS ?_
    simp only [Act.put, List.setIfInBounds_toArray, List.set_cons_zero, List.set_cons_succ]
    refine valAt 5 119 (.string ⟨#[40, 63, 62]⟩) U rfl rfl (by kernel_rfl) (by rfl) (loadStr_run rfl rfl hc) hS ?_
    simp only [Act.put, List.setIfInBounds_toArray, List.set_cons_zero, List.set_cons_succ]
    refine takeAt 10 124 (.string (⟨#[40, 63, 62]⟩ ++ sa)) rfl rfl (by kernel_rfl) (by kernel_rfl) (by kernel_rfl) (fun _ _ _ h => h) (catB_y _ _ (by show 3 + sa.size ≤ 100000000; omega) rfl rfl rfl (by rfl)) hS ?_
    simp only [Act.put, List.setIfInBounds_toArray, List.set_cons_zero, List.set_cons_succ]
    refine takeAt 11 125 (.string ((⟨#[40, 63, 62]⟩ ++ sa) ++ ⟨#[41]⟩)) rfl rfl (by kernel_rfl) (by kernel_rfl) (by kernel_rfl) (fun _ _ _ h => h) (catB_y _ _ (by show _ + 1 ≤ 100000000; omega) rfl rfl rfl (by rfl)) hS ?_
    simp only [Act.put, List.setIfInBounds_toArray, List.set_cons_zero, List.set_cons_succ]
    refine takeAt 12 4 (.string ((⟨#[40, 63, 62]⟩ ++ sa) ++ ⟨#[41]⟩)) rfl rfl (by kernel_rfl) (by kernel_rfl) (by kernel_rfl) (fun _ _ _ h => h) (yields (by rfl) (fun w => by kernel_rfl)) hS ?_
    simp only [Act.put, List.setIfInBounds_toArray, List.set_cons_zero, List.set_cons_succ]
    refine wpAnyH_done (by kernel_rfl) ?_ _
    go_wp2_with fail
    go_ret
    exact ⟨rfl, HB.out.trans (hS.mono HB.out.size)⟩
set_option maxRecDepth 20000 in
set_option maxHeartbeats 8000000 in
theorem node8_back (A : Option Addr) (n cap : Nat) (l : Nat → Nd) (i : Nat) (hi : i < n) (hn : n ≤ 500) (hk : (l i).k = 12) (m : Nat) (hm : (l i).n = (m : Int)) (h1 : 1 ≤ m) (h9 : m ≤ 9) : Node8 A n cap l i (if (l i).f = true then (⟨#[40, 63, 105, 58]⟩ ++ ⟨#[92, digB m]⟩) ++ ⟨#[41]⟩ else ⟨#[92, digB m]⟩) := by
  intro w hl
  have h2 : IntKind.u8.wrap (48 + (m : Int)) = 48 + (m : Int) := by rw [IntKind.wrap_u8]; omega
  have h4 : IntKind.i64.wrap (48 + (m : Int)) = 48 + (m : Int) := by rw [IntKind.wrap_i64]; omega
  cases hf : (l i).f with
  | true =>
    obtain ⟨b, o, rfl, hN⟩ := hl.at_ (show 0 < n by omega)
    have r1 : (i : Int) < (n : Int) := by omega
    obtain ⟨c0, c1, c2, c3, c4, c5, c6, c7, c8, c9, c10, c11⟩ := hN.2 i hi
    obtain ⟨V, hV⟩ : ∃ V, V = w.alloc (.cells (ndC (l i)).toArray 64) := ⟨_, rfl⟩
    have HX := Lib.hid (show At12 V w.heap.size 0 (l i) by rw [hV]; exact refBox w (l i))
    have HB := Lib.hid (show Below w.heap.size w V by rw [hV]; exact (Below.refl _ w).alloc (Nat.le_refl _) _)
    have HN := Lib.hid (hl.below HB.out (Nat.le_refl _))
    simp only [ndC] at hV
    rw [hk] at c0 hV
    rw [hm] at c10 hV
    rw [hf] at c11 hV
    have hs : (convert 71 9 (.slice (some ⟨w.heap.size + 1, 0, none⟩) 2 2)).run Tryz.prog (V.alloc (.cells #[.int .u8 92, .int .u8 (48 + (m : Int))] 5)) = .ok (.string ⟨#[92, digB m]⟩) (V.alloc (.cells #[.int .u8 92, .int .u8 (48 + (m : Int))] 5)) := by
      have h := strOf V [92, digB m]
      have e : (((digB m).toNat : Nat) : Int) = 48 + (m : Int) := by unfold digB; simp; omega
      have e2 : V.heap.size = w.heap.size + 1 := by rw [hV]; exact World.size_alloc _ _
      simp only [List.map_cons, List.map_nil, List.length_cons, List.length_nil, e] at h
      rw [e2] at h
      exact h
    rw [hV] at hs
    clear hl hN
    go_enter Tryz.func20, Tryz.ntmps20
    go_wp2_with fail
    go_ret
    exact ⟨rfl, by go_grown⟩
  | false =>
    obtain ⟨b, o, rfl, hN⟩ := hl.at_ (show 0 < n by omega)
    have r1 : (i : Int) < (n : Int) := by omega
    obtain ⟨c0, c1, c2, c3, c4, c5, c6, c7, c8, c9, c10, c11⟩ := hN.2 i hi
    obtain ⟨V, hV⟩ : ∃ V, V = w.alloc (.cells (ndC (l i)).toArray 64) := ⟨_, rfl⟩
    have HX := Lib.hid (show At12 V w.heap.size 0 (l i) by rw [hV]; exact refBox w (l i))
    have HB := Lib.hid (show Below w.heap.size w V by rw [hV]; exact (Below.refl _ w).alloc (Nat.le_refl _) _)
    have HN := Lib.hid (hl.below HB.out (Nat.le_refl _))
    simp only [ndC] at hV
    rw [hk] at c0 hV
    rw [hm] at c10 hV
    rw [hf] at c11 hV
    have hs : (convert 71 9 (.slice (some ⟨w.heap.size + 1, 0, none⟩) 2 2)).run Tryz.prog (V.alloc (.cells #[.int .u8 92, .int .u8 (48 + (m : Int))] 5)) = .ok (.string ⟨#[92, digB m]⟩) (V.alloc (.cells #[.int .u8 92, .int .u8 (48 + (m : Int))] 5)) := by
      have h := strOf V [92, digB m]
      have e : (((digB m).toNat : Nat) : Int) = 48 + (m : Int) := by unfold digB; simp; omega
      have e2 : V.heap.size = w.heap.size + 1 := by rw [hV]; exact World.size_alloc _ _
      simp only [List.map_cons, List.map_nil, List.length_cons, List.length_nil, e] at h
      rw [e2] at h
      exact h
    rw [hV] at hs
    clear hl hN
    go_enter Tryz.func20, Tryz.ntmps20
    go_wp2_with fail
    go_ret
    exact ⟨rfl, by go_grown⟩
end Go.Proofs.YtfejdengpnikeaaGreatDoor
