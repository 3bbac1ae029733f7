import Derived.Test.YteiboobdhjdjkaaGreatDoorNaiTurnBM
import Derived.Test.YteiboobdhjdjkaaGreatDoorClassMM
import Derived.Test.YteiboobdhjdjkaaGreatDoorMz
namespace Go.Proofs.YteiboobdhjdjkaaGreatDoor.Nai
open Go.RowKit
open Ast (Nd At12 NodesAt kidsZ)
open Cap (Cp withZ cpC BoxV zrC byB byB_eq agN agB)
section
variable {ops : Array Oper} {R : World → Prop} {a : Act} {o : Oper} {x y : Operand} {w : World} {rest : List Oper} {Q : Exit → Act → World → Prop}
theorem ldW_y (b j : Nat) (n : Nd) (hn : WdsN n) (hR : ∀ u, R u → At12 u b j n) (ho : o.op = .load 67 x) (hx : a.eval x = .pointer (some ⟨b, j + 3, none⟩)) (hw : Region.wanted o (yielded ops a.tmps) = true) : YieldsIf Tryz.prog ops R o (setV (setN n)) a := by
 refine Or.inl ⟨hw, fun u h => ?_⟩
 obtain ⟨h0, h1, h2, c0, c1, c2, c3, -⟩ := hR u h
 obtain ⟨e0, e1, e2, e3⟩ := hn
 rw [e0] at c0
 rw [e1] at c1
 rw [e2] at c2
 rw [e3] at c3
 unfold execOp
 simp only [ho, hx]
 go_simp
theorem ixS_y (s : ByteArray) (p : Nat) (hp : p < s.size) (ho : o.op = .index 9 x y) (hx : a.eval x = .string s) (hy : a.eval y = .int .i64 (p : Int)) (hw : Region.wanted o (yielded ops a.tmps) = true) : YieldsIf Tryz.prog ops R o (.int .u8 (byB s p : Nat)) a := by
 refine Or.inl ⟨hw, fun u _ => ?_⟩
 have i0 : (0 : Int) ≤ p := by omega
 have i1 : (p : Int) < s.size := by omega
 rw [byB_eq hp]
 unfold execOp
 simp only [ho, hx, hy]
 go_simp
theorem len_y (s : ByteArray) (ho : o.op = .call { callee := .builtin .len, args := #[x], argTypes := #[9] }) (hx : a.eval x = .string s) (hw : Region.wanted o (yielded ops a.tmps) = true) : YieldsIf Tryz.prog ops R o (.int .i64 (s.size : Int)) a := by
 refine Or.inl ⟨hw, fun u _ => ?_⟩
 unfold execOp
 simp only [ho, resolve, invoke, builtin, Sem.run_bind, Sem.run_pure, Result.andThen_ok, List.map_toArray, List.map_cons, List.map_nil, hx]
 go_simp
end
set_option maxRecDepth 100000 in
set_option maxHeartbeats 400000 in
theorem only_0 {R : Rd} {X : Nat → Prop} {x : Nd} (hk : x.k = 0) (w : World) (y : Sp) (q b o : Nat) (hb : b < w.heap.size) (hn : At12 w b o x) (hc : BoxV 44 w q (cpC y.2)) (_hy : y.1 ≤ R.s.size) (hR : RdAt R X w) (hq : ¬ X q) (_hxl : ∀ c, X c → c < w.heap.size) :
  Calls Tryz.prog 141 #[ptr R.rb, .pointer (some ⟨b, o, none⟩), spV y q] w (SpRes X w (leafE R.s x y)) := by
 have H0 := LBx.new hb hn hc hR
 obtain ⟨W1, hW1⟩ : ∃ W1, (w.alloc (.cells (spA (y.1 : Int) (some ⟨q, 0, none⟩)) 93)).alloc (.cells (spA 0 none) 93) = W1 := ⟨_, rfl⟩
 have hB1 : Below w.heap.size w W1 := by rw [← hW1]; go_grown
 have H1 : LBx R X b o q w.heap.size x y W1 := by rw [← hW1]; exact H0.call ((Below.refl _ _).alloc (Nat.le_refl _) _)
 have hres : BoxV 93 W1 (w.heap.size + 1) (spA 0 none) := by rw [← hW1]; have := BoxV.new (T := 93) (w.alloc (.cells (spA (y.1 : Int) (some ⟨q, 0, none⟩)) 93)) (spA 0 none); rwa [World.size_alloc] at this
 have hsz : W1.heap.size = w.heap.size + 2 := by rw [← hW1]; simp
 have Hsz := Lib.hid hsz
 have lq := hc.lt
 have lr := hR.box.box.lt
 have ln := hR.nod.1
 have lk := hR.bkl
 have hk0 := H1.nd.1
 have hx0 := H1.xb.get 0 rfl
 have hx1 := H1.xb.get 1 rfl
 have HL := Lib.hid H1
 have HRs := Lib.hid hres
 clear H0 hn hc hsz H1 hres
 rw [hk] at hk0
 rw [show leafE R.s x y = some y by unfold leafE; rw [if_pos hk]]
 go_enter Tryz.func141, Tryz.ntmps141
 go_wp2_with (first | (refine loadX rfl _ rfl w.heap.size _ _ rfl HL.out.xb ?_) | (refine storeX rfl _ _ rfl (w.heap.size + 1) (y.1 : Int) (some ⟨q, 0, none⟩) _ rfl rfl rfl HRs.out ?_))
 refine bodyPost_ret (resXB (p := 6) (q := 7) rfl _ (g := w.heap.size + 1) rfl rfl (setRow_heap _ _ _ _ _ _ HRs.out)) rfl (SpRes.fin hB1 ?_ HRs.out (by omega))
 exact ⟨rfl, q, rfl, rfl, HL.out.cb, hq⟩
set_option maxRecDepth 100000 in
set_option maxHeartbeats 400000 in
theorem only_hold {R : Rd} {X : Nat → Prop} {x : Nd} (hs : R.s.size ≤ 100000000) (hk : x.k ≠ 0 ∧ x.k ≠ 1 ∧ x.k ≠ 12 ∧ x.k ≠ 13 ∧ x.k ≠ 14 ∧ x.k ≠ 15 ∧ x.k ≠ 16 ∧ x.k ≠ 17 ∧ x.k ≠ 10) (w : World) (y : Sp) (q b o : Nat) (hb : b < w.heap.size) (hn : At12 w b o x) (hc : BoxV 44 w q (cpC y.2)) (hy : y.1 ≤ R.s.size) (hR : RdAt R X w) (hq : ¬ X q) (_hxl : ∀ c, X c → c < w.heap.size) :
  Calls Tryz.prog 141 #[ptr R.rb, .pointer (some ⟨b, o, none⟩), spV y q] w (SpRes X w (leafE R.s x y)) := by
 have H0 := LBx.new hb hn hc hR
 obtain ⟨W1, hW1⟩ : ∃ W1, (w.alloc (.cells (spA (y.1 : Int) (some ⟨q, 0, none⟩)) 93)).alloc (.cells (spA 0 none) 93) = W1 := ⟨_, rfl⟩
 have hB1 : Below w.heap.size w W1 := by rw [← hW1]; go_grown
 have H1 : LBx R X b o q w.heap.size x y W1 := by rw [← hW1]; exact H0.call ((Below.refl _ _).alloc (Nat.le_refl _) _)
 have hres : BoxV 93 W1 (w.heap.size + 1) (spA 0 none) := by rw [← hW1]; have := BoxV.new (T := 93) (w.alloc (.cells (spA (y.1 : Int) (some ⟨q, 0, none⟩)) 93)) (spA 0 none); rwa [World.size_alloc] at this
 have hsz : W1.heap.size = w.heap.size + 2 := by rw [← hW1]; simp
 have Hsz := Lib.hid hsz
 have lq := hc.lt
 have lr := hR.box.box.lt
 have ln := hR.nod.1
 have lk := hR.bkl
 have hk0 := H1.nd.1
 have hx0 := H1.xb.get 0 rfl
 have hx1 := H1.xb.get 1 rfl
 have HL := Lib.hid H1
 have HRs := Lib.hid hres
 clear H0 hn hc hsz H1 hres
 have HH := Lib.hid (fun u => hold_any x.k R.s y.1 hy (by omega) u)
 have hle : leafE R.s x y = if holdB R.s x.k y.1 = true then some y else none := by unfold leafE; rw [if_neg (by omega), if_neg (by omega), if_neg (by omega)]
 rw [hle]
 generalize hB : holdB R.s x.k y.1 = bb at HH ⊢
 clear hB hle
 generalize hQ : (if bb = true then some y else none) = rr
 have HQ := Lib.hid hQ
 clear hQ
 have q0 : (x.k == 0) = false := beq_eq_false_iff_ne.2 (by omega)
 have q1 : (x.k == 1) = false := beq_eq_false_iff_ne.2 (by omega)
 have q2 : (x.k == 12) = false := beq_eq_false_iff_ne.2 (by omega)
 have q3 : (x.k == 13) = false := beq_eq_false_iff_ne.2 (by omega)
 have q4 : (x.k == 14) = false := beq_eq_false_iff_ne.2 (by omega)
 have q5 : (x.k == 15) = false := beq_eq_false_iff_ne.2 (by omega)
 have q6 : (x.k == 16) = false := beq_eq_false_iff_ne.2 (by omega)
 have q7 : (x.k == 17) = false := beq_eq_false_iff_ne.2 (by omega)
 have q8 : (x.k == 10) = false := beq_eq_false_iff_ne.2 (by omega)
 clear hk
 go_enter Tryz.func141, Tryz.ntmps141
 go_wp2_with fail
 try rw [hW1]
 clear hW1
 refine wp_region_held (S := LBx R X b o q w.heap.size x y) (by kernel_rfl) ?_
 change wpAnyH _ _ _ _ _ _ _ _ W1.drew
 have hS : LBx R X b o q w.heap.size x y W1.drew := HL.out.call (below_drewN (Below.refl _ _) 1)
 have hBd : Below W1.heap.size W1 W1.drew := below_drewN (Below.refl _ _) 1
 have hr1 : BoxV 93 W1.drew (w.heap.size + 1) (spA 0 none) := HRs.out
 have hB2 := hB1.trans (hBd.mono hB1.size)
 refine takeAt 0 142 (.agg (spA (y.1 : Int) (some ⟨q, 0, none⟩))) rfl rfl (by kernel_rfl) (by kernel_rfl) (by kernel_rfl) (fun _ _ _ h => h) (ldX_y w.heap.size _ _ (fun _ h => h.xb) rfl rfl (by rfl)) hS ?_
 simp only [Act.put, sA, s0, sS]
 refine takeAt 1 143 (.pointer (some ⟨b, o, none⟩)) rfl rfl (by kernel_rfl) (by kernel_rfl) (by kernel_rfl) (fun _ _ _ h => h) (yields (by rfl) (fun w => by kernel_rfl)) hS ?_
 simp only [Act.put, sA, s0, sS]
 refine takeAt 2 144 (.pointer (some ⟨b, o, none⟩)) rfl rfl (by kernel_rfl) (by kernel_rfl) (by kernel_rfl) (fun _ _ _ h => h) (yields (by rfl) (fun w => by kernel_rfl)) hS ?_
 simp only [Act.put, sA, s0, sS]
 refine takeAt 3 145 (.pointer (some ⟨b, o, none⟩)) rfl rfl (by kernel_rfl) (by kernel_rfl) (by kernel_rfl) (fun _ _ _ h => h) (yields (by rfl) (fun w => by kernel_rfl)) hS ?_
 simp only [Act.put, sA, s0, sS]
 refine takeAt 4 146 (.int .i64 x.k) rfl rfl (by kernel_rfl) (by kernel_rfl) (by kernel_rfl) (fun _ _ _ h => h) (ldI_y b o _ (fun _ h => h.nd.1) rfl rfl (by rfl)) hS ?_
 simp only [Act.put, sA, s0, sS]
 refine takeAt 5 147 (.pointer (some ⟨R.rb, 0, none⟩)) rfl rfl (by kernel_rfl) (by kernel_rfl) (by kernel_rfl) (fun _ _ _ h => h) (yields (by rfl) (fun w => by kernel_rfl)) hS ?_
 simp only [Act.put, sA, s0, sS]
 refine takeAt 6 148 (.pointer (some ⟨R.rb, 0, none⟩)) rfl rfl (by kernel_rfl) (by kernel_rfl) (by kernel_rfl) (fun _ _ _ h => h) (yields (by rfl) (fun w => by kernel_rfl)) hS ?_
 simp only [Act.put, sA, s0, sS]
 refine takeAt 7 149 (.pointer (some ⟨R.rb, 2, none⟩)) rfl rfl (by kernel_rfl) (by kernel_rfl) (by kernel_rfl) (fun _ _ _ h => h) (yields (by rfl) (fun w => by kernel_rfl)) hS ?_
 simp only [Act.put, sA, s0, sS]
 refine takeAt 8 150 (.string R.s) rfl rfl (by kernel_rfl) (by kernel_rfl) (by kernel_rfl) (fun _ _ _ h => h) (ldT_y R.rb 2 _ (fun _ h => h.rd.box.box.get 2 rfl) rfl rfl (by rfl)) hS ?_
 simp only [Act.put, sA, s0, sS]
 refine takeAt 9 151 (.pointer (some ⟨w.heap.size, 0, none⟩)) rfl rfl (by kernel_rfl) (by kernel_rfl) (by kernel_rfl) (fun _ _ _ h => h) (yields (by rfl) (fun w => by kernel_rfl)) hS ?_
 simp only [Act.put, sA, s0, sS]
 refine takeAt 10 152 (.int .i64 (y.1 : Int)) rfl rfl (by kernel_rfl) (by kernel_rfl) (by kernel_rfl) (fun _ _ _ h => h) (ldI_y w.heap.size 0 _ (fun _ h => h.xb.get 0 rfl) rfl rfl (by rfl)) hS ?_
 simp only [Act.put, sA, s0, sS]
 refine callAt 11 153 rfl rfl (by kernel_rfl) (by rfl) (by kernel_rfl) (HH.out _) ?_
 rintro e w3 ⟨rfl, rfl⟩
 refine ⟨_, rfl, hS, ?_⟩
 simp only [Act.put, sA, s0, sS]
 have hS4 : LBx R X b o q w.heap.size x y (W1.drew.setRow (w.heap.size + 1) (spA (y.1 : Int) (some ⟨q, 0, none⟩))) := hS.row (by omega) (by omega) (by omega) (by omega) (by omega) (by omega) _
 refine rowAt 12 93 (w.heap.size + 1) (spA 0 none) (spA (y.1 : Int) (some ⟨q, 0, none⟩)) rfl rfl rfl (by kernel_rfl) (by rfl) rfl rfl hr1 sizeX rfl (by simp [Value.oneCell']) hS4 ?_
 refine takeAt 13 7 (.bool bb) rfl rfl (by kernel_rfl) (by kernel_rfl) (by kernel_rfl) (fun _ _ _ h => h) (yields (by rfl) (fun w => by kernel_rfl)) hS4 ?_
 simp only [Act.put, sA, s0, sS]
 refine wpAnyH_done (by kernel_rfl) ?_ _
 have HS := Lib.hid hS
 clear hS hS4
 go_wp2_with fail
 refine bodyPost_ret (resXB (p := 6) (q := 7) rfl _ (g := w.heap.size + 1) rfl rfl (setRow_heap _ _ _ _ _ _ hr1)) rfl (SpRes.fin hB2 ?_ hr1 (by omega))
 rw [← HQ.out]
 cases bb with
 | true => exact ⟨rfl, q, rfl, rfl, HS.out.cb, hq⟩
 | false => rfl
set_option maxRecDepth 100000 in
set_option maxHeartbeats 400000 in
theorem only_1 {R : Rd} {X : Nat → Prop} {x : Nd} (hs : R.s.size ≤ 100000000) (hk : x.k = 1) (hwd : WdsN x) (w : World) (y : Sp) (q b o : Nat) (hb : b < w.heap.size) (hn : At12 w b o x) (hc : BoxV 44 w q (cpC y.2)) (hy : y.1 ≤ R.s.size) (hR : RdAt R X w) (hq : ¬ X q) (_hxl : ∀ c, X c → c < w.heap.size) :
  Calls Tryz.prog 141 #[ptr R.rb, .pointer (some ⟨b, o, none⟩), spV y q] w (SpRes X w (leafE R.s x y)) := by
 have H0 := LBx.new hb hn hc hR
 obtain ⟨W1, hW1⟩ : ∃ W1, (w.alloc (.cells (spA (y.1 : Int) (some ⟨q, 0, none⟩)) 93)).alloc (.cells (spA 0 none) 93) = W1 := ⟨_, rfl⟩
 have hB1 : Below w.heap.size w W1 := by rw [← hW1]; go_grown
 have H1 : LBx R X b o q w.heap.size x y W1 := by rw [← hW1]; exact H0.call ((Below.refl _ _).alloc (Nat.le_refl _) _)
 have hres : BoxV 93 W1 (w.heap.size + 1) (spA 0 none) := by rw [← hW1]; have := BoxV.new (T := 93) (w.alloc (.cells (spA (y.1 : Int) (some ⟨q, 0, none⟩)) 93)) (spA 0 none); rwa [World.size_alloc] at this
 have hsz : W1.heap.size = w.heap.size + 2 := by rw [← hW1]; simp
 have Hsz := Lib.hid hsz
 have lq := hc.lt
 have lr := hR.box.box.lt
 have ln := hR.nod.1
 have lk := hR.bkl
 have hk0 := H1.nd.1
 have hx0 := H1.xb.get 0 rfl
 have hx1 := H1.xb.get 1 rfl
 have HL := Lib.hid H1
 have HRs := Lib.hid hres
 clear H0 hn hc hsz H1 hres
 rw [hk] at hk0
 have hle : leafE R.s x y = if y.1 < R.s.size ∧ hasN x (byB R.s y.1) = true then some (y.1 + 1, y.2) else none := by unfold leafE; rw [if_neg (by omega), if_pos hk]
 rw [hle]
 have hyz : (y.1 : Int) ≤ 100000000 := by omega
 clear hle
 by_cases hlt2 : y.1 < R.s.size
 ·have hlt : decide ((y.1 : Int) < (R.s.size : Int)) = true := decide_eq_true (by omega)
  have HH : Hid (∀ u, Calls Tryz.prog 52 #[setV (setN x), .int .u8 (byB R.s y.1 : Nat)] u fun e u2 => e = .returned (.bool (hasN x (byB R.s y.1))) ∧ Below u.heap.size u u2) := Lib.hid (fun u => has_any (setN x) _ u (by omega) (by rw [byB_eq hlt2]; have := R.s[y.1].toNat_lt; omega))
  have hif : (if y.1 < R.s.size ∧ hasN x (byB R.s y.1) = true then some (y.1 + 1, y.2) else none) = if hasN x (byB R.s y.1) = true then some (y.1 + 1, y.2) else none := by simp [hlt2]
  rw [hif]
  clear hif
  generalize hasN x (byB R.s y.1) = bb at HH ⊢
  generalize hQ : (if bb = true then some (y.1 + 1, y.2) else none) = rr
  have HQ := Lib.hid hQ
  clear hQ
  go_enter Tryz.func141, Tryz.ntmps141
  go_wp2_with fail
  try rw [hW1]
  clear hW1
  refine wp_region_held (S := LBx R X b o q w.heap.size x y) (by kernel_rfl) ?_
  change wpAnyH _ _ _ _ _ _ _ _ W1.drew
  have hS : LBx R X b o q w.heap.size x y W1.drew := HL.out.call (below_drewN (Below.refl _ _) 1)
  have hBd : Below W1.heap.size W1 W1.drew := below_drewN (Below.refl _ _) 1
  have hr1 : BoxV 93 W1.drew (w.heap.size + 1) (spA 0 none) := HRs.out
  have hB2 := hB1.trans (hBd.mono hB1.size)
  refine takeAt 0 25 (.pointer (some ⟨w.heap.size, 0, none⟩)) rfl rfl (by kernel_rfl) (by kernel_rfl) (by kernel_rfl) (fun _ _ _ h => h) (yields (by rfl) (fun w => by kernel_rfl)) hS ?_
  simp only [Act.put, sA, s0, sS]
  refine takeAt 1 26 (.int .i64 (y.1 : Int)) rfl rfl (by kernel_rfl) (by kernel_rfl) (by kernel_rfl) (fun _ _ _ h => h) (ldI_y w.heap.size 0 _ (fun _ h => h.xb.get 0 rfl) rfl rfl (by rfl)) hS ?_
  simp only [Act.put, sA, s0, sS]
  refine takeAt 2 27 (.pointer (some ⟨R.rb, 0, none⟩)) rfl rfl (by kernel_rfl) (by kernel_rfl) (by kernel_rfl) (fun _ _ _ h => h) (yields (by rfl) (fun w => by kernel_rfl)) hS ?_
  simp only [Act.put, sA, s0, sS]
  refine takeAt 3 28 (.pointer (some ⟨R.rb, 0, none⟩)) rfl rfl (by kernel_rfl) (by kernel_rfl) (by kernel_rfl) (fun _ _ _ h => h) (yields (by rfl) (fun w => by kernel_rfl)) hS ?_
  simp only [Act.put, sA, s0, sS]
  refine takeAt 4 29 (.pointer (some ⟨R.rb, 2, none⟩)) rfl rfl (by kernel_rfl) (by kernel_rfl) (by kernel_rfl) (fun _ _ _ h => h) (yields (by rfl) (fun w => by kernel_rfl)) hS ?_
  simp only [Act.put, sA, s0, sS]
  refine takeAt 5 30 (.string R.s) rfl rfl (by kernel_rfl) (by kernel_rfl) (by kernel_rfl) (fun _ _ _ h => h) (ldT_y R.rb 2 _ (fun _ h => h.rd.box.box.get 2 rfl) rfl rfl (by rfl)) hS ?_
  simp only [Act.put, sA, s0, sS]
  refine takeAt 6 31 (.int .i64 (R.s.size : Int)) rfl rfl (by kernel_rfl) (by kernel_rfl) (by kernel_rfl) (fun _ _ _ h => h) (len_y R.s rfl rfl (by rfl)) hS ?_
  simp only [Act.put, sA, s0, sS]
  refine takeAt 7 32 (.bool true) rfl rfl (by kernel_rfl) (by kernel_rfl) (by kernel_rfl) (fun _ _ _ h => h) (lt_y _ _ true hlt rfl rfl rfl (by rfl)) hS ?_
  simp only [Act.put, sA, s0, sS]
  refine takeAt 8 33 (.bool true) rfl rfl (by kernel_rfl) (by kernel_rfl) (by kernel_rfl) (fun _ _ _ h => h) (yields (by rfl) (fun w => by kernel_rfl)) hS ?_
  simp only [Act.put, sA, s0, sS]
  refine takeAt 9 34 (.pointer (some ⟨b, o, none⟩)) rfl rfl (by kernel_rfl) (by kernel_rfl) (by kernel_rfl) (fun _ _ _ h => h) (yields (by rfl) (fun w => by kernel_rfl)) hS ?_
  simp only [Act.put, sA, s0, sS]
  refine takeAt 10 35 (.pointer (some ⟨b, o, none⟩)) rfl rfl (by kernel_rfl) (by kernel_rfl) (by kernel_rfl) (fun _ _ _ h => h) (yields (by rfl) (fun w => by kernel_rfl)) hS ?_
  simp only [Act.put, sA, s0, sS]
  refine takeAt 11 36 (.pointer (some ⟨b, o + 3, none⟩)) rfl rfl (by kernel_rfl) (by kernel_rfl) (by kernel_rfl) (fun _ _ _ h => h) (yields (by rfl) (fun w => by kernel_rfl)) hS ?_
  simp only [Act.put, sA, s0, sS]
  refine takeAt 12 37 (setV (setN x)) rfl rfl (by kernel_rfl) (by kernel_rfl) (by kernel_rfl) (fun _ _ _ h => h) (ldW_y b o x hwd (fun _ h => h.nd) rfl rfl (by rfl)) hS ?_
  simp only [Act.put, sA, s0, sS]
  refine takeAt 13 38 (.pointer (some ⟨R.rb, 0, none⟩)) rfl rfl (by kernel_rfl) (by kernel_rfl) (by kernel_rfl) (fun _ _ _ h => h) (yields (by rfl) (fun w => by kernel_rfl)) hS ?_
  simp only [Act.put, sA, s0, sS]
  refine takeAt 14 39 (.pointer (some ⟨R.rb, 0, none⟩)) rfl rfl (by kernel_rfl) (by kernel_rfl) (by kernel_rfl) (fun _ _ _ h => h) (yields (by rfl) (fun w => by kernel_rfl)) hS ?_
  simp only [Act.put, sA, s0, sS]
  refine takeAt 15 40 (.pointer (some ⟨R.rb, 2, none⟩)) rfl rfl (by kernel_rfl) (by kernel_rfl) (by kernel_rfl) (fun _ _ _ h => h) (yields (by rfl) (fun w => by kernel_rfl)) hS ?_
  simp only [Act.put, sA, s0, sS]
  refine takeAt 16 41 (.string R.s) rfl rfl (by kernel_rfl) (by kernel_rfl) (by kernel_rfl) (fun _ _ _ h => h) (ldT_y R.rb 2 _ (fun _ h => h.rd.box.box.get 2 rfl) rfl rfl (by rfl)) hS ?_
  simp only [Act.put, sA, s0, sS]
  refine takeAt 17 42 (.pointer (some ⟨w.heap.size, 0, none⟩)) rfl rfl (by kernel_rfl) (by kernel_rfl) (by kernel_rfl) (fun _ _ _ h => h) (yields (by rfl) (fun w => by kernel_rfl)) hS ?_
  simp only [Act.put, sA, s0, sS]
  refine takeAt 18 43 (.int .i64 (y.1 : Int)) rfl rfl (by kernel_rfl) (by kernel_rfl) (by kernel_rfl) (fun _ _ _ h => h) (ldI_y w.heap.size 0 _ (fun _ h => h.xb.get 0 rfl) rfl rfl (by rfl)) hS ?_
  simp only [Act.put, sA, s0, sS]
  refine takeAt 19 44 (.int .u8 (byB R.s y.1 : Nat)) rfl rfl (by kernel_rfl) (by kernel_rfl) (by kernel_rfl) (fun _ _ _ h => h) (ixS_y R.s y.1 hlt2 rfl rfl rfl (by rfl)) hS ?_
  simp only [Act.put, sA, s0, sS]
  refine callAt 20 45 rfl rfl (by kernel_rfl) (by rfl) (by kernel_rfl) (HH.out _) ?_
  rintro e w3 ⟨rfl, hbb⟩
  have hS3 := hS.call hbb
  refine ⟨_, rfl, hS3, ?_⟩
  simp only [Act.put, sA, s0, sS]
  refine takeAt 21 46 (.bool bb) rfl rfl (by kernel_rfl) (by kernel_rfl) (by kernel_rfl) (fun _ _ _ h => h) (yields (by rfl) (fun w => by kernel_rfl)) hS3 ?_
  simp only [Act.put, sA, s0, sS]
  refine takeAt 22 8 (.bool bb) rfl rfl (by kernel_rfl) (by kernel_rfl) (by kernel_rfl) (fun _ _ _ h => h) (yields (by rfl) (fun w => by kernel_rfl)) hS3 ?_
  simp only [Act.put, sA, s0, sS]
  refine wpAnyH_done (by kernel_rfl) ?_ _
  have HS := Lib.hid hS3
  have hrw : BoxV 93 w3 (w.heap.size + 1) (spA 0 none) := hr1.below hbb (by have := Hsz.out; show _ < W1.heap.size; omega)
  have hB3 := hB2.trans (hbb.mono hB2.size)
  have hx3 := hS3.xb.get 0 rfl
  have hx4 := hS3.xb.get 1 rfl
  clear hS hS3
  go_wp2_with (refine storeX rfl _ _ rfl (w.heap.size + 1) ((y.1 : Int) + 1) (some ⟨q, 0, none⟩) _ rfl rfl rfl hrw ?_)
  refine bodyPost_ret (resXB (p := 6) (q := 7) rfl _ (g := w.heap.size + 1) rfl rfl (setRow_heap _ _ _ _ _ _ hrw)) rfl (SpRes.fin hB3 ?_ hrw (by omega))
  rw [← HQ.out]
  cases bb with
  | true => exact ⟨rfl, q, rfl, rfl, HS.out.cb, hq⟩
  | false => rfl
 ·have hlt : decide ((y.1 : Int) < (R.s.size : Int)) = false := decide_eq_false (by omega)
  rw [if_neg (fun h => hlt2 h.1)]
  go_enter Tryz.func141, Tryz.ntmps141
  go_wp2_with fail
  try rw [hW1]
  clear hW1
  refine wp_region_held (S := LBx R X b o q w.heap.size x y) (by kernel_rfl) ?_
  change wpAnyH _ _ _ _ _ _ _ _ W1.drew
  have hS : LBx R X b o q w.heap.size x y W1.drew := HL.out.call (below_drewN (Below.refl _ _) 1)
  have hBd : Below W1.heap.size W1 W1.drew := below_drewN (Below.refl _ _) 1
  have hr1 : BoxV 93 W1.drew (w.heap.size + 1) (spA 0 none) := HRs.out
  have hB2 := hB1.trans (hBd.mono hB1.size)
  refine takeAt 0 25 (.pointer (some ⟨w.heap.size, 0, none⟩)) rfl rfl (by kernel_rfl) (by kernel_rfl) (by kernel_rfl) (fun _ _ _ h => h) (yields (by rfl) (fun w => by kernel_rfl)) hS ?_
  simp only [Act.put, sA, s0, sS]
  refine takeAt 1 26 (.int .i64 (y.1 : Int)) rfl rfl (by kernel_rfl) (by kernel_rfl) (by kernel_rfl) (fun _ _ _ h => h) (ldI_y w.heap.size 0 _ (fun _ h => h.xb.get 0 rfl) rfl rfl (by rfl)) hS ?_
  simp only [Act.put, sA, s0, sS]
  refine takeAt 2 27 (.pointer (some ⟨R.rb, 0, none⟩)) rfl rfl (by kernel_rfl) (by kernel_rfl) (by kernel_rfl) (fun _ _ _ h => h) (yields (by rfl) (fun w => by kernel_rfl)) hS ?_
  simp only [Act.put, sA, s0, sS]
  refine takeAt 3 28 (.pointer (some ⟨R.rb, 0, none⟩)) rfl rfl (by kernel_rfl) (by kernel_rfl) (by kernel_rfl) (fun _ _ _ h => h) (yields (by rfl) (fun w => by kernel_rfl)) hS ?_
  simp only [Act.put, sA, s0, sS]
  refine takeAt 4 29 (.pointer (some ⟨R.rb, 2, none⟩)) rfl rfl (by kernel_rfl) (by kernel_rfl) (by kernel_rfl) (fun _ _ _ h => h) (yields (by rfl) (fun w => by kernel_rfl)) hS ?_
  simp only [Act.put, sA, s0, sS]
  refine takeAt 5 30 (.string R.s) rfl rfl (by kernel_rfl) (by kernel_rfl) (by kernel_rfl) (fun _ _ _ h => h) (ldT_y R.rb 2 _ (fun _ h => h.rd.box.box.get 2 rfl) rfl rfl (by rfl)) hS ?_
  simp only [Act.put, sA, s0, sS]
  refine takeAt 6 31 (.int .i64 (R.s.size : Int)) rfl rfl (by kernel_rfl) (by kernel_rfl) (by kernel_rfl) (fun _ _ _ h => h) (len_y R.s rfl rfl (by rfl)) hS ?_
  simp only [Act.put, sA, s0, sS]
  refine takeAt 7 32 (.bool false) rfl rfl (by kernel_rfl) (by kernel_rfl) (by kernel_rfl) (fun _ _ _ h => h) (lt_y _ _ false hlt rfl rfl rfl (by rfl)) hS ?_
  simp only [Act.put, sA, s0, sS]
  refine takeAt 8 33 (.bool false) rfl rfl (by kernel_rfl) (by kernel_rfl) (by kernel_rfl) (fun _ _ _ h => h) (yields (by rfl) (fun w => by kernel_rfl)) hS ?_
  simp only [Act.put, sA, s0, sS]
  refine takeAt 9 34 (undef) rfl rfl (by kernel_rfl) (by kernel_rfl) (by kernel_rfl) (fun _ _ _ h => h) (skipped (by rfl)) hS ?_
  simp only [Act.put, sA, s0, sS]
  refine takeAt 10 35 (undef) rfl rfl (by kernel_rfl) (by kernel_rfl) (by kernel_rfl) (fun _ _ _ h => h) (skipped (by rfl)) hS ?_
  simp only [Act.put, sA, s0, sS]
  refine takeAt 11 36 (undef) rfl rfl (by kernel_rfl) (by kernel_rfl) (by kernel_rfl) (fun _ _ _ h => h) (skipped (by rfl)) hS ?_
  simp only [Act.put, sA, s0, sS]
  refine takeAt 12 37 (undef) rfl rfl (by kernel_rfl) (by kernel_rfl) (by kernel_rfl) (fun _ _ _ h => h) (skipped (by rfl)) hS ?_
  simp only [Act.put, sA, s0, sS]
  refine takeAt 13 38 (undef) rfl rfl (by kernel_rfl) (by kernel_rfl) (by kernel_rfl) (fun _ _ _ h => h) (skipped (by rfl)) hS ?_
  simp only [Act.put, sA, s0, sS]
  refine takeAt 14 39 (undef) rfl rfl (by kernel_rfl) (by kernel_rfl) (by kernel_rfl) (fun _ _ _ h => h) (skipped (by rfl)) hS ?_
  simp only [Act.put, sA, s0, sS]
  refine takeAt 15 40 (undef) rfl rfl (by kernel_rfl) (by kernel_rfl) (by kernel_rfl) (fun _ _ _ h => h) (skipped (by rfl)) hS ?_
  simp only [Act.put, sA, s0, sS]
  refine takeAt 16 41 (undef) rfl rfl (by kernel_rfl) (by kernel_rfl) (by kernel_rfl) (fun _ _ _ h => h) (skipped (by rfl)) hS ?_
  simp only [Act.put, sA, s0, sS]
  refine takeAt 17 42 (undef) rfl rfl (by kernel_rfl) (by kernel_rfl) (by kernel_rfl) (fun _ _ _ h => h) (skipped (by rfl)) hS ?_
  simp only [Act.put, sA, s0, sS]
  refine takeAt 18 43 (undef) rfl rfl (by kernel_rfl) (by kernel_rfl) (by kernel_rfl) (fun _ _ _ h => h) (skipped (by rfl)) hS ?_
  simp only [Act.put, sA, s0, sS]
  refine takeAt 19 44 (undef) rfl rfl (by kernel_rfl) (by kernel_rfl) (by kernel_rfl) (fun _ _ _ h => h) (skipped (by rfl)) hS ?_
  simp only [Act.put, sA, s0, sS]
  refine takeAt 20 45 (undef) rfl rfl (by kernel_rfl) (by kernel_rfl) (by kernel_rfl) (fun _ _ _ h => h) (skipped (by rfl)) hS ?_
  simp only [Act.put, sA, s0, sS]
  refine takeAt 21 46 (.bool false) rfl rfl (by kernel_rfl) (by kernel_rfl) (by kernel_rfl) (fun _ _ _ h => h) (yields (by rfl) (fun w => by kernel_rfl)) hS ?_
  simp only [Act.put, sA, s0, sS]
  refine takeAt 22 8 (.bool false) rfl rfl (by kernel_rfl) (by kernel_rfl) (by kernel_rfl) (fun _ _ _ h => h) (yields (by rfl) (fun w => by kernel_rfl)) hS ?_
  simp only [Act.put, sA, s0, sS]
  refine wpAnyH_done (by kernel_rfl) ?_ _
  have HS := Lib.hid hS
  have hx3 := hS.xb.get 0 rfl
  have hx4 := hS.xb.get 1 rfl
  clear hS
  go_wp2_with (refine storeX rfl _ _ rfl (w.heap.size + 1) ((y.1 : Int) + 1) (some ⟨q, 0, none⟩) _ rfl rfl rfl hr1 ?_)
  refine bodyPost_ret (resXB (p := 6) (q := 7) rfl _ (g := w.heap.size + 1) rfl rfl (setRow_heap _ _ _ _ _ _ hr1)) rfl (SpRes.fin hB2 ?_ hr1 (by omega))
  rfl
end Go.Proofs.YteiboobdhjdjkaaGreatDoor.Nai
namespace Go.Proofs.YteiboobdhjdjkaaGreatDoor.Nai
open Go.RowKit
open Ast (Nd At12 NodesAt kidsZ)
open Cap (Cp withZ cpC BoxV zrC byB byB_eq agN agB)
abbrev ndA (x : Nd) : Array Value := #[.int .i64 x.k, .int .i64 x.a, .int .i64 x.b, .int .u64 x.s0, .int .u64 x.s1, .int .u64 x.s2, .int .u64 x.s3, .int .i64 x.mn, .int .i64 x.mx, .int .i64 x.md, .int .i64 x.n, .bool x.f]
theorem sizeN : (Tryz.prog.info? 69).map (·.size) = some 12 := by kernel_rfl
theorem At12.row {w : World} {g : Nat} {x : Nd} (h : BoxV 69 w g (ndA x)) : At12 w g 0 x := ⟨h.get 0 rfl, h.get 1 rfl, h.get 2 rfl, h.get 3 rfl, h.get 4 rfl, h.get 5 rfl, h.get 6 rfl, h.get 7 rfl, h.get 8 rfl, h.get 9 rfl, h.get 10 rfl, h.get 11 rfl⟩
section
variable {ops : Array Oper} {R S : World → Prop} {a : Act} {o : Oper} {x y : Operand} {w : World} {rest : List Oper} {Q : Exit → Act → World → Prop} {P : Program}
theorem lineN (v : Value) (hy : YieldsIf P ops S o v a) (hS : S w) (h : wpList P ops Q rest (a.put o.dst v) w) : wpList P ops Q (o :: rest) a w := by
 rcases hy with ⟨hw, hr⟩ | ⟨hw, rfl⟩
 ·refine wpList_step fun K hK => ?_
  rw [if_pos hw]
  unfold Oper.wp
  rw [hr w hS, Oper.upon_value]
  exact hK _ _ h
 ·exact wpList_skip hw h
theorem ldN_y (b j : Nat) (n : Nd) (hR : ∀ u, R u → At12 u b j n) (ho : o.op = .load 69 x) (hx : a.eval x = .pointer (some ⟨b, j, none⟩)) (hw : Region.wanted o (yielded ops a.tmps) = true) : YieldsIf Tryz.prog ops R o (.agg (ndA n)) a := by
 refine Or.inl ⟨hw, fun u h => ?_⟩
 obtain ⟨c0, c1, c2, c3, c4, c5, c6, c7, c8, c9, c10, c11⟩ := hR u h
 unfold execOp
 simp only [ho, hx]
 go_simp
theorem storeXc (hgd : o.guard = none) (x y : Operand) (ho : o.op = .store 93 x y) (g : Nat) (z : Int) (p : Option Addr) (cs : Array Value) (hx : a.eval x = .pointer (some ⟨g, 0, none⟩)) (hy : a.eval y = .agg (spA z p)) (hs : cs.size = 2) (hg : BoxV 93 w g cs)
  (h : ∀ u, Hid (BoxV 93 u g (spA z p)) → Hid (Below g w u) → wpList Tryz.prog ops Q rest (a.put o.dst undef) u) : wpList Tryz.prog ops Q (o :: rest) a w :=
 storeX hgd x y ho g z p cs hx hy hs hg (h _ (Lib.hid (setRow_heap _ _ _ _ _ _ hg)) (Lib.hid (setRow_below _ _ _)))
theorem storeNc (hgd : o.guard = none) (x y : Operand) (ho : o.op = .store 69 x y) (g : Nat) (n : Nd) (cs : Array Value) (hx : a.eval x = .pointer (some ⟨g, 0, none⟩)) (hy : a.eval y = .agg (ndA n)) (hs : cs.size = 12) (hg : BoxV 69 w g cs)
  (h : ∀ u, Hid (BoxV 69 u g (ndA n)) → Hid (Below g w u) → wpList Tryz.prog ops Q rest (a.put o.dst undef) u) : wpList Tryz.prog ops Q (o :: rest) a w :=
 wpList_store_row hgd 69 x y ho g _ hx hy _ _ hg sizeN (by rw [hs]; rfl) (by simp [Value.oneCell']) (h _ (Lib.hid (setRow_heap _ _ _ _ _ _ hg)) (Lib.hid (setRow_below _ _ _)))
end
structure StopS2 (p : Prop) : Prop where
 out : p
set_option maxRecDepth 100000 in
set_option maxHeartbeats 400000 in
theorem only_12 {R : Rd} {X : Nat → Prop} {x : Nd} (hs : R.s.size ≤ 100000000) (L : Cap.LibOk) (hk : x.k = 12) (w : World) (y : Sp) (q b o : Nat) (hb : b < w.heap.size) (hn : At12 w b o x) (hc : BoxV 44 w q (cpC y.2)) (hy : y.1 ≤ R.s.size) (hR : RdAt R X w) (hq : ¬ X q) (_hxl : ∀ c, X c → c < w.heap.size) :
  Calls Tryz.prog 141 #[ptr R.rb, .pointer (some ⟨b, o, none⟩), spV y q] w (SpRes X w (leafE R.s x y)) := by
 have H0 := LBx.new hb hn hc hR
 obtain ⟨W1, hW1⟩ : ∃ W1, (w.alloc (.cells (spA (y.1 : Int) (some ⟨q, 0, none⟩)) 93)).alloc (.cells (spA 0 none) 93) = W1 := ⟨_, rfl⟩
 have hB1 : Below w.heap.size w W1 := by rw [← hW1]; go_grown
 have H1 : LBx R X b o q w.heap.size x y W1 := by rw [← hW1]; exact H0.call ((Below.refl _ _).alloc (Nat.le_refl _) _)
 have hres : BoxV 93 W1 (w.heap.size + 1) (spA 0 none) := by rw [← hW1]; have := BoxV.new (T := 93) (w.alloc (.cells (spA (y.1 : Int) (some ⟨q, 0, none⟩)) 93)) (spA 0 none); rwa [World.size_alloc] at this
 have hsz : W1.heap.size = w.heap.size + 2 := by rw [← hW1]; simp
 have Hsz := Lib.hid hsz
 have lq := hc.lt
 have lr := hR.box.box.lt
 have ln := hR.nod.1
 have lk := hR.bkl
 have hk0 := H1.nd.1
 have hx0 := H1.xb.get 0 rfl
 have hx1 := H1.xb.get 1 rfl
 have HL := Lib.hid H1
 have HRs := Lib.hid hres
 clear H0 hn hc hsz H1 hres
 rw [hk] at hk0
 have hle : leafE R.s x y = if agB y.2 R.s x.n y.1 x.f = true then some (y.1 + (agN y.2 R.s x.n y.1 x.f).toNat, y.2) else none := by unfold leafE; rw [if_neg (by omega), if_neg (by omega), if_pos hk]
 rw [hle]
 clear hle
 have hag : 0 ≤ agN y.2 R.s x.n y.1 x.f ∧ agN y.2 R.s x.n y.1 x.f ≤ 100000000 := by
  cases hb : agB y.2 R.s x.n y.1 x.f with
  | true => have := ag_le y.2 R.s x.n y.1 x.f hb; omega
  | false => unfold Cap.agN; rw [hb]; simp
 have HH := Lib.hid (fun u => Cap.again_any L y.2 R.s (by omega) x.n (y.1 : Int) x.f u)
 generalize agN y.2 R.s x.n y.1 x.f = N at HH hag ⊢
 generalize agB y.2 R.s x.n y.1 x.f = bb at HH ⊢
 generalize hQ : (if bb = true then some (y.1 + N.toNat, y.2) else none) = rr
 have HQ := Lib.hid hQ
 clear hQ L hk
 obtain ⟨hag1, hag2⟩ := hag
 have hyz : (y.1 : Int) ≤ 100000000 := by omega
 go_enter Tryz.func141, Tryz.ntmps141
 go_wp2_with fail
 try rw [hW1]
 clear hW1
 refine wp_region_held (S := LBx R X b o q w.heap.size x y) (by kernel_rfl) ?_
 change wpAnyH _ _ _ _ _ _ _ _ W1.drew
 have hS : LBx R X b o q w.heap.size x y W1.drew := HL.out.call (below_drewN (Below.refl _ _) 1)
 have hBd : Below W1.heap.size W1 W1.drew := below_drewN (Below.refl _ _) 1
 have hr1 : BoxV 93 W1.drew (w.heap.size + 1) (spA 0 none) := HRs.out
 have hB2 := hB1.trans (hBd.mono hB1.size)
 refine takeAt 0 57 (.pointer (some ⟨w.heap.size, 1, none⟩)) rfl rfl (by kernel_rfl) (by kernel_rfl) (by kernel_rfl) (fun _ _ _ h => h) (yields (by rfl) (fun w => by kernel_rfl)) hS ?_
 simp only [Act.put, sA, s0, sS]
 refine takeAt 1 58 (.pointer (some ⟨q, 0, none⟩)) rfl rfl (by kernel_rfl) (by kernel_rfl) (by kernel_rfl) (fun _ _ _ h => h) (ldPC_y w.heap.size 1 _ (fun _ h => h.xb.get 1 rfl) rfl rfl (by rfl)) hS ?_
 simp only [Act.put, sA, s0, sS]
 refine takeAt 2 59 (.pointer (some ⟨q, 0, none⟩)) rfl rfl (by kernel_rfl) (by kernel_rfl) (by kernel_rfl) (fun _ _ _ h => h) (yields (by rfl) (fun w => by kernel_rfl)) hS ?_
 simp only [Act.put, sA, s0, sS]
 refine takeAt 3 60 (.agg (cpC y.2)) rfl rfl (by kernel_rfl) (by kernel_rfl) (by kernel_rfl) (fun _ _ _ h => h) (ldC_y q y.2 (fun _ h => h.cb) rfl rfl (by rfl)) hS ?_
 simp only [Act.put, sA, s0, sS]
 refine takeAt 4 61 (.pointer (some ⟨R.rb, 0, none⟩)) rfl rfl (by kernel_rfl) (by kernel_rfl) (by kernel_rfl) (fun _ _ _ h => h) (yields (by rfl) (fun w => by kernel_rfl)) hS ?_
 simp only [Act.put, sA, s0, sS]
 refine takeAt 5 62 (.pointer (some ⟨R.rb, 0, none⟩)) rfl rfl (by kernel_rfl) (by kernel_rfl) (by kernel_rfl) (fun _ _ _ h => h) (yields (by rfl) (fun w => by kernel_rfl)) hS ?_
 simp only [Act.put, sA, s0, sS]
 refine takeAt 6 63 (.pointer (some ⟨R.rb, 2, none⟩)) rfl rfl (by kernel_rfl) (by kernel_rfl) (by kernel_rfl) (fun _ _ _ h => h) (yields (by rfl) (fun w => by kernel_rfl)) hS ?_
 simp only [Act.put, sA, s0, sS]
 refine takeAt 7 64 (.string R.s) rfl rfl (by kernel_rfl) (by kernel_rfl) (by kernel_rfl) (fun _ _ _ h => h) (ldT_y R.rb 2 _ (fun _ h => h.rd.box.box.get 2 rfl) rfl rfl (by rfl)) hS ?_
 simp only [Act.put, sA, s0, sS]
 refine takeAt 8 65 (.pointer (some ⟨b, o, none⟩)) rfl rfl (by kernel_rfl) (by kernel_rfl) (by kernel_rfl) (fun _ _ _ h => h) (yields (by rfl) (fun w => by kernel_rfl)) hS ?_
 simp only [Act.put, sA, s0, sS]
 refine takeAt 9 66 (.pointer (some ⟨b, o, none⟩)) rfl rfl (by kernel_rfl) (by kernel_rfl) (by kernel_rfl) (fun _ _ _ h => h) (yields (by rfl) (fun w => by kernel_rfl)) hS ?_
 simp only [Act.put, sA, s0, sS]
 refine takeAt 10 67 (.pointer (some ⟨b, o + 10, none⟩)) rfl rfl (by kernel_rfl) (by kernel_rfl) (by kernel_rfl) (fun _ _ _ h => h) (yields (by rfl) (fun w => by kernel_rfl)) hS ?_
 simp only [Act.put, sA, s0, sS]
 refine takeAt 11 68 (.int .i64 x.n) rfl rfl (by kernel_rfl) (by kernel_rfl) (by kernel_rfl) (fun _ _ _ h => h) (ldI_y b (o + 10) _ (fun _ h => h.nd.2.2.2.2.2.2.2.2.2.2.1) rfl rfl (by rfl)) hS ?_
 simp only [Act.put, sA, s0, sS]
 refine takeAt 12 69 (.pointer (some ⟨w.heap.size, 0, none⟩)) rfl rfl (by kernel_rfl) (by kernel_rfl) (by kernel_rfl) (fun _ _ _ h => h) (yields (by rfl) (fun w => by kernel_rfl)) hS ?_
 simp only [Act.put, sA, s0, sS]
 refine takeAt 13 70 (.int .i64 (y.1 : Int)) rfl rfl (by kernel_rfl) (by kernel_rfl) (by kernel_rfl) (fun _ _ _ h => h) (ldI_y w.heap.size 0 _ (fun _ h => h.xb.get 0 rfl) rfl rfl (by rfl)) hS ?_
 simp only [Act.put, sA, s0, sS]
 refine takeAt 14 71 (.pointer (some ⟨b, o, none⟩)) rfl rfl (by kernel_rfl) (by kernel_rfl) (by kernel_rfl) (fun _ _ _ h => h) (yields (by rfl) (fun w => by kernel_rfl)) hS ?_
 simp only [Act.put, sA, s0, sS]
 refine takeAt 15 72 (.pointer (some ⟨b, o, none⟩)) rfl rfl (by kernel_rfl) (by kernel_rfl) (by kernel_rfl) (fun _ _ _ h => h) (yields (by rfl) (fun w => by kernel_rfl)) hS ?_
 simp only [Act.put, sA, s0, sS]
 refine takeAt 16 73 (.pointer (some ⟨b, o + 11, none⟩)) rfl rfl (by kernel_rfl) (by kernel_rfl) (by kernel_rfl) (fun _ _ _ h => h) (yields (by rfl) (fun w => by kernel_rfl)) hS ?_
 simp only [Act.put, sA, s0, sS]
 refine takeAt 17 74 (.bool x.f) rfl rfl (by kernel_rfl) (by kernel_rfl) (by kernel_rfl) (fun _ _ _ h => h) (ldB_y b (o + 11) _ (fun _ h => h.nd.2.2.2.2.2.2.2.2.2.2.2) rfl rfl (by rfl)) hS ?_
 simp only [Act.put, sA, s0, sS]
 refine callAt 18 75 rfl rfl (by kernel_rfl) (by rfl) (by kernel_rfl) (HH.out _) ?_
 rintro e w3 ⟨rfl, hbb⟩
 have hS3 := hS.call hbb
 refine ⟨_, rfl, hS3, ?_⟩
 simp only [Act.put, sA, s0, sS]
 refine takeAt 19 56 (.tuple #[.int .i64 N, .bool bb]) rfl rfl (by kernel_rfl) (by kernel_rfl) (by kernel_rfl) (fun _ _ _ h => h) (yields (by rfl) (fun w => by kernel_rfl)) hS3 ?_
 simp only [Act.put, sA, s0, sS]
 refine takeAt 20 76 (.int .i64 N) rfl rfl (by kernel_rfl) (by kernel_rfl) (by kernel_rfl) (fun _ _ _ h => h) (yields (by rfl) (fun w => by kernel_rfl)) hS3 ?_
 simp only [Act.put, sA, s0, sS]
 refine takeAt 21 77 (.bool bb) rfl rfl (by kernel_rfl) (by kernel_rfl) (by kernel_rfl) (fun _ _ _ h => h) (yields (by rfl) (fun w => by kernel_rfl)) hS3 ?_
 simp only [Act.put, sA, s0, sS]
 refine takeAt 22 9 (.int .i64 N) rfl rfl (by kernel_rfl) (by kernel_rfl) (by kernel_rfl) (fun _ _ _ h => h) (yields (by rfl) (fun w => by kernel_rfl)) hS3 ?_
 simp only [Act.put, sA, s0, sS]
 refine takeAt 23 10 (.bool bb) rfl rfl (by kernel_rfl) (by kernel_rfl) (by kernel_rfl) (fun _ _ _ h => h) (yields (by rfl) (fun w => by kernel_rfl)) hS3 ?_
 simp only [Act.put, sA, s0, sS]
 refine wpAnyH_done (by kernel_rfl) ?_ _
 have HS := Lib.hid hS3
 have hrw : BoxV 93 w3 (w.heap.size + 1) (spA 0 none) := hr1.below hbb (by have := Hsz.out; show _ < W1.heap.size; omega)
 have hB3 := hB2.trans (hbb.mono hB2.size)
 have hx3 := hS3.xb.get 0 rfl
 have hx4 := hS3.xb.get 1 rfl
 clear hS hS3
 go_wp2_with (refine storeX rfl _ _ rfl (w.heap.size + 1) ((y.1 : Int) + N) (some ⟨q, 0, none⟩) _ rfl rfl rfl hrw ?_)
 refine bodyPost_ret (resXB (p := 6) (q := 7) rfl _ (g := w.heap.size + 1) rfl rfl (setRow_heap _ _ _ _ _ _ hrw)) rfl (SpRes.fin hB3 ?_ hrw (by omega))
 rw [← HQ.out]
 cases bb with
 | true => exact ⟨rfl, q, by simp only []; omega, rfl, HS.out.cb, hq⟩
 | false => rfl
set_option maxRecDepth 100000 in
set_option maxHeartbeats 400000 in
theorem only_pos {R : Rd} {X : Nat → Prop} {x : Nd} (hs : R.s.size ≤ 100000000) {a : Re} {i bk : Nat} (hi : i < R.n) (hi1 : x.a = (i : Int)) (hi2 : R.l i = a.root) (hbk : R.bk i = bk) (hbl : bk ≤ 100000000) (hF : FirstOk R a) (hk : x.k = 13 ∨ x.k = 15) (w : World) (y : Sp) (q b o : Nat) (hb : b < w.heap.size) (hn : At12 w b o x) (hc : BoxV 44 w q (cpC y.2)) (hy : y.1 ≤ R.s.size) (hR : RdAt R X w) (hq : ¬ X q) (hxl : ∀ c, X c → c < w.heap.size) :
  Calls Tryz.prog 141 #[ptr R.rb, .pointer (some ⟨b, o, none⟩), spV y q] w (SpRes X w (onlyE R.s.size (outsE R.s a) x bk y)) := by
 have H0 := LBx.new hb hn hc hR
 obtain ⟨W1, hW1⟩ : ∃ W1, (w.alloc (.cells (spA (y.1 : Int) (some ⟨q, 0, none⟩)) 93)).alloc (.cells (spA 0 none) 93) = W1 := ⟨_, rfl⟩
 have hB1 : Below w.heap.size w W1 := by rw [← hW1]; go_grown
 have H1 : LBx R X b o q w.heap.size x y W1 := by rw [← hW1]; exact H0.call ((Below.refl _ _).alloc (Nat.le_refl _) _)
 have hres : BoxV 93 W1 (w.heap.size + 1) (spA 0 none) := by rw [← hW1]; have := BoxV.new (T := 93) (w.alloc (.cells (spA (y.1 : Int) (some ⟨q, 0, none⟩)) 93)) (spA 0 none); rwa [World.size_alloc] at this
 have hsz : W1.heap.size = w.heap.size + 2 := by rw [← hW1]; simp
 have Hsz := Lib.hid hsz
 have lq := hc.lt
 have lr := hR.box.box.lt
 have ln := hR.nod.1
 have lk := hR.bkl
 have hk0 := H1.nd.1
 have hx0 := H1.xb.get 0 rfl
 have hx1 := H1.xb.get 1 rfl
 have HL := Lib.hid H1
 have HRs := Lib.hid hres
 clear H0 hn hc hsz H1 hres
 have HLK := Lib.hid (fun u hb hn hc hR hxl => look_any (X := X) hs hi hi1 hi2 hbk hbl hF u y q b o hb hn hc hy hR hq hxl)
 have hle : onlyE R.s.size (outsE R.s a) x bk y = (lookE (outsE R.s a) bk y).map fun z => (y.1, z.2) := by unfold onlyE; rw [if_neg (by omega), if_neg (by omega), if_pos (by omega)]
 rw [hle]
 clear hle hF hi hi1 hi2 hbk
 generalize lookE (outsE R.s a) bk y = lr at HLK ⊢
 generalize hQ : (lr.map fun z => ((y.1, z.2) : Sp)) = rr
 have HQ := Lib.hid hQ
 clear hQ
 rcases hk with hk | hk
 ·rw [hk] at hk0
  clear hk
  go_enter Tryz.func141, Tryz.ntmps141
  go_wp2_with fail
  try rw [hW1]
  clear hW1
  refine (HLK.out W1 (Nat.lt_of_lt_of_le hb hB1.size) HL.out.nd HL.out.cb HL.out.rd (fun c hc => Nat.lt_of_lt_of_le (hxl c hc) hB1.size)).mono ?_
  rintro e w3 ⟨z, p, bb, rfl, hbb, hm⟩
  have HM := Lib.hid hm
  have HB := Lib.hid hbb
  have HLw := Lib.hid (HL.out.call hbb)
  have hrw : BoxV 93 w3 (w.heap.size + 1) (spA 0 none) := HRs.out.below hbb (by have := Hsz.out; omega)
  have HRw := Lib.hid hrw
  clear hm hbb hrw
  go_wp2_with (refine storeXc rfl _ _ rfl w3.heap.size z p _ rfl rfl rfl (BoxV.new _ _) ?_; intro u Hu HBu; refine StopS2.out ?_)
  refine ⟨?_⟩
  have hBu : Below w3.heap.size w3 u := ((Below.refl _ w3).alloc (Nat.le_refl _) _).trans HBu.out
  have HLu := HLw.out.call hBu
  have hru : BoxV 93 u (w.heap.size + 1) (spA 0 none) := HRw.out.below hBu HRw.out.lt
  have hx3 := HLu.xb.get 0 rfl
  have hx4 := HLu.xb.get 1 rfl
  have hx5 := Hu.out.get 1 rfl
  have hBt : Below w.heap.size w u := (hB1.trans (HB.out.mono hB1.size)).trans (hBu.mono (Nat.le_trans hB1.size HB.out.size))
  have HLu2 := Lib.hid HLu
  clear HLu
  go_wp2_with (refine storeX rfl _ _ rfl (w.heap.size + 1) (y.1 : Int) (p) _ rfl rfl rfl hru ?_)
  refine bodyPost_ret (resXB (p := 6) (q := 7) rfl _ (g := w.heap.size + 1) rfl rfl (setRow_heap _ _ _ _ _ _ hru)) rfl (SpRes.fin hBt ?_ hru (by omega))
  rw [← HQ.out]
  have hm := HM.out
  cases lr with
  | none => exact hm
  | some v =>
    obtain ⟨e1, q2, e2, e3, e4, e5⟩ := hm
    exact ⟨e1, q2, rfl, e3, e4.below hBu e4.lt, e5⟩
 ·rw [hk] at hk0
  clear hk
  go_enter Tryz.func141, Tryz.ntmps141
  go_wp2_with fail
  try rw [hW1]
  clear hW1
  refine (HLK.out W1 (Nat.lt_of_lt_of_le hb hB1.size) HL.out.nd HL.out.cb HL.out.rd (fun c hc => Nat.lt_of_lt_of_le (hxl c hc) hB1.size)).mono ?_
  rintro e w3 ⟨z, p, bb, rfl, hbb, hm⟩
  have HM := Lib.hid hm
  have HB := Lib.hid hbb
  have HLw := Lib.hid (HL.out.call hbb)
  have hrw : BoxV 93 w3 (w.heap.size + 1) (spA 0 none) := HRs.out.below hbb (by have := Hsz.out; omega)
  have HRw := Lib.hid hrw
  clear hm hbb hrw
  go_wp2_with (refine storeXc rfl _ _ rfl w3.heap.size z p _ rfl rfl rfl (BoxV.new _ _) ?_; intro u Hu HBu; refine StopS2.out ?_)
  refine ⟨?_⟩
  have hBu : Below w3.heap.size w3 u := ((Below.refl _ w3).alloc (Nat.le_refl _) _).trans HBu.out
  have HLu := HLw.out.call hBu
  have hru : BoxV 93 u (w.heap.size + 1) (spA 0 none) := HRw.out.below hBu HRw.out.lt
  have hx3 := HLu.xb.get 0 rfl
  have hx4 := HLu.xb.get 1 rfl
  have hx5 := Hu.out.get 1 rfl
  have hBt : Below w.heap.size w u := (hB1.trans (HB.out.mono hB1.size)).trans (hBu.mono (Nat.le_trans hB1.size HB.out.size))
  have HLu2 := Lib.hid HLu
  clear HLu
  go_wp2_with (refine storeX rfl _ _ rfl (w.heap.size + 1) (y.1 : Int) (p) _ rfl rfl rfl hru ?_)
  refine bodyPost_ret (resXB (p := 6) (q := 7) rfl _ (g := w.heap.size + 1) rfl rfl (setRow_heap _ _ _ _ _ _ hru)) rfl (SpRes.fin hBt ?_ hru (by omega))
  rw [← HQ.out]
  have hm := HM.out
  cases lr with
  | none => exact hm
  | some v =>
    obtain ⟨e1, q2, e2, e3, e4, e5⟩ := hm
    exact ⟨e1, q2, rfl, e3, e4.below hBu e4.lt, e5⟩
set_option maxRecDepth 100000 in
set_option maxHeartbeats 400000 in
theorem only_neg {R : Rd} {X : Nat → Prop} {x : Nd} (hs : R.s.size ≤ 100000000) {a : Re} {i bk : Nat} (hi : i < R.n) (hi1 : x.a = (i : Int)) (hi2 : R.l i = a.root) (hbk : R.bk i = bk) (hbl : bk ≤ 100000000) (hF : FirstOk R a) (hk : x.k = 14 ∨ x.k = 16) (w : World) (y : Sp) (q b o : Nat) (hb : b < w.heap.size) (hn : At12 w b o x) (hc : BoxV 44 w q (cpC y.2)) (hy : y.1 ≤ R.s.size) (hR : RdAt R X w) (hq : ¬ X q) (hxl : ∀ c, X c → c < w.heap.size) :
  Calls Tryz.prog 141 #[ptr R.rb, .pointer (some ⟨b, o, none⟩), spV y q] w (SpRes X w (onlyE R.s.size (outsE R.s a) x bk y)) := by
 have H0 := LBx.new hb hn hc hR
 obtain ⟨W1, hW1⟩ : ∃ W1, (w.alloc (.cells (spA (y.1 : Int) (some ⟨q, 0, none⟩)) 93)).alloc (.cells (spA 0 none) 93) = W1 := ⟨_, rfl⟩
 have hB1 : Below w.heap.size w W1 := by rw [← hW1]; go_grown
 have H1 : LBx R X b o q w.heap.size x y W1 := by rw [← hW1]; exact H0.call ((Below.refl _ _).alloc (Nat.le_refl _) _)
 have hres : BoxV 93 W1 (w.heap.size + 1) (spA 0 none) := by rw [← hW1]; have := BoxV.new (T := 93) (w.alloc (.cells (spA (y.1 : Int) (some ⟨q, 0, none⟩)) 93)) (spA 0 none); rwa [World.size_alloc] at this
 have hsz : W1.heap.size = w.heap.size + 2 := by rw [← hW1]; simp
 have Hsz := Lib.hid hsz
 have lq := hc.lt
 have lr := hR.box.box.lt
 have ln := hR.nod.1
 have lk := hR.bkl
 have hk0 := H1.nd.1
 have hx0 := H1.xb.get 0 rfl
 have hx1 := H1.xb.get 1 rfl
 have HL := Lib.hid H1
 have HRs := Lib.hid hres
 clear H0 hn hc hsz H1 hres
 have HLK := Lib.hid (fun u hb hn hc hR hxl => look_any (X := X) hs hi hi1 hi2 hbk hbl hF u y q b o hb hn hc hy hR hq hxl)
 have hle : onlyE R.s.size (outsE R.s a) x bk y = notE (lookE (outsE R.s a) bk y) y := by unfold onlyE; rw [if_neg (by omega), if_neg (by omega), if_neg (by omega)]
 rw [hle]
 clear hle hF hi hi1 hi2 hbk
 generalize lookE (outsE R.s a) bk y = lr at HLK ⊢
 generalize hQ : notE lr y = rr
 have HQ := Lib.hid hQ
 clear hQ
 rcases hk with hk | hk
 ·rw [hk] at hk0
  clear hk
  go_enter Tryz.func141, Tryz.ntmps141
  go_wp2_with fail
  try rw [hW1]
  clear hW1
  refine (HLK.out W1 (Nat.lt_of_lt_of_le hb hB1.size) HL.out.nd HL.out.cb HL.out.rd (fun c hc => Nat.lt_of_lt_of_le (hxl c hc) hB1.size)).mono ?_
  rintro e w3 ⟨z, p, bb, rfl, hbb, hm⟩
  have HM := Lib.hid hm
  have HB := Lib.hid hbb
  have HLw := Lib.hid (HL.out.call hbb)
  have hrw : BoxV 93 w3 (w.heap.size + 1) (spA 0 none) := HRs.out.below hbb (by have := Hsz.out; omega)
  have HRw := Lib.hid hrw
  clear hm hbb hrw
  go_wp2_with (refine storeXc rfl _ _ rfl w3.heap.size z p _ rfl rfl rfl (BoxV.new _ _) ?_; intro u Hu HBu; refine StopS2.out ?_)
  refine ⟨?_⟩
  have hBu : Below w3.heap.size w3 u := ((Below.refl _ w3).alloc (Nat.le_refl _) _).trans HBu.out
  have HLu := HLw.out.call hBu
  have hru : BoxV 93 u (w.heap.size + 1) (spA 0 none) := HRw.out.below hBu HRw.out.lt
  have hx3 := HLu.xb.get 0 rfl
  have hx4 := HLu.xb.get 1 rfl
  have hBt : Below w.heap.size w u := (hB1.trans (HB.out.mono hB1.size)).trans (hBu.mono (Nat.le_trans hB1.size HB.out.size))
  have HLu2 := Lib.hid HLu
  clear HLu
  go_wp2_with (refine storeX rfl _ _ rfl (w.heap.size + 1) (y.1 : Int) (some ⟨q, 0, none⟩) _ rfl rfl rfl hru ?_)
  refine bodyPost_ret (resXB (p := 6) (q := 7) rfl _ (g := w.heap.size + 1) rfl rfl (setRow_heap _ _ _ _ _ _ hru)) rfl (SpRes.fin hBt ?_ hru (by omega))
  rw [← HQ.out]
  have hm := HM.out
  cases lr with
  | none =>
    obtain rfl : bb = false := hm
    exact ⟨rfl, q, rfl, rfl, HLu2.out.cb, hq⟩
  | some v =>
    obtain ⟨rfl, -⟩ := hm
    rfl
 ·rw [hk] at hk0
  clear hk
  go_enter Tryz.func141, Tryz.ntmps141
  go_wp2_with fail
  try rw [hW1]
  clear hW1
  refine (HLK.out W1 (Nat.lt_of_lt_of_le hb hB1.size) HL.out.nd HL.out.cb HL.out.rd (fun c hc => Nat.lt_of_lt_of_le (hxl c hc) hB1.size)).mono ?_
  rintro e w3 ⟨z, p, bb, rfl, hbb, hm⟩
  have HM := Lib.hid hm
  have HB := Lib.hid hbb
  have HLw := Lib.hid (HL.out.call hbb)
  have hrw : BoxV 93 w3 (w.heap.size + 1) (spA 0 none) := HRs.out.below hbb (by have := Hsz.out; omega)
  have HRw := Lib.hid hrw
  clear hm hbb hrw
  go_wp2_with (refine storeXc rfl _ _ rfl w3.heap.size z p _ rfl rfl rfl (BoxV.new _ _) ?_; intro u Hu HBu; refine StopS2.out ?_)
  refine ⟨?_⟩
  have hBu : Below w3.heap.size w3 u := ((Below.refl _ w3).alloc (Nat.le_refl _) _).trans HBu.out
  have HLu := HLw.out.call hBu
  have hru : BoxV 93 u (w.heap.size + 1) (spA 0 none) := HRw.out.below hBu HRw.out.lt
  have hx3 := HLu.xb.get 0 rfl
  have hx4 := HLu.xb.get 1 rfl
  have hBt : Below w.heap.size w u := (hB1.trans (HB.out.mono hB1.size)).trans (hBu.mono (Nat.le_trans hB1.size HB.out.size))
  have HLu2 := Lib.hid HLu
  clear HLu
  go_wp2_with (refine storeX rfl _ _ rfl (w.heap.size + 1) (y.1 : Int) (some ⟨q, 0, none⟩) _ rfl rfl rfl hru ?_)
  refine bodyPost_ret (resXB (p := 6) (q := 7) rfl _ (g := w.heap.size + 1) rfl rfl (setRow_heap _ _ _ _ _ _ hru)) rfl (SpRes.fin hBt ?_ hru (by omega))
  rw [← HQ.out]
  have hm := HM.out
  cases lr with
  | none =>
    obtain rfl : bb = false := hm
    exact ⟨rfl, q, rfl, rfl, HLu2.out.cb, hq⟩
  | some v =>
    obtain ⟨rfl, -⟩ := hm
    rfl
set_option maxRecDepth 100000 in
set_option maxHeartbeats 400000 in
theorem only_17 {R : Rd} {X : Nat → Prop} {x : Nd} {a : Re} {i bk : Nat} (hi : i < R.n) (hi1 : x.a = (i : Int)) (hi2 : R.l i = a.root) (hF : FirstOk R a) (hk : x.k = 17) (w : World) (y : Sp) (q b o : Nat) (hb : b < w.heap.size) (hn : At12 w b o x) (hc : BoxV 44 w q (cpC y.2)) (hy : y.1 ≤ R.s.size) (hR : RdAt R X w) (hq : ¬ X q) (hxl : ∀ c, X c → c < w.heap.size) :
  Calls Tryz.prog 141 #[ptr R.rb, .pointer (some ⟨b, o, none⟩), spV y q] w (SpRes X w (onlyE R.s.size (outsE R.s a) x bk y)) := by
 have H0 := LBx.new hb hn hc hR
 obtain ⟨W1, hW1⟩ : ∃ W1, (w.alloc (.cells (spA (y.1 : Int) (some ⟨q, 0, none⟩)) 93)).alloc (.cells (spA 0 none) 93) = W1 := ⟨_, rfl⟩
 have hB1 : Below w.heap.size w W1 := by rw [← hW1]; go_grown
 have H1 : LBx R X b o q w.heap.size x y W1 := by rw [← hW1]; exact H0.call ((Below.refl _ _).alloc (Nat.le_refl _) _)
 have hres : BoxV 93 W1 (w.heap.size + 1) (spA 0 none) := by rw [← hW1]; have := BoxV.new (T := 93) (w.alloc (.cells (spA (y.1 : Int) (some ⟨q, 0, none⟩)) 93)) (spA 0 none); rwa [World.size_alloc] at this
 have hsz : W1.heap.size = w.heap.size + 2 := by rw [← hW1]; simp
 have Hsz := Lib.hid hsz
 have lq := hc.lt
 have lr := hR.box.box.lt
 have ln := hR.nod.1
 have lk := hR.bkl
 have hk0 := H1.nd.1
 have hx0 := H1.xb.get 0 rfl
 have hx1 := H1.xb.get 1 rfl
 have HL := Lib.hid H1
 have HRs := Lib.hid hres
 clear H0 hn hc hsz H1 hres
 rw [hk] at hk0
 have HI := Lib.hid hi1
 clear hi1
 have hle : onlyE R.s.size (outsE R.s a) x bk y = (outs (outsE R.s a y)).head? := by unfold onlyE; rw [if_neg (by omega), if_pos hk]
 rw [hle]
 clear hle hk
 go_enter Tryz.func141, Tryz.ntmps141
 go_wp2_with fail
 try rw [hW1]
 clear hW1
 refine wp_region_held (S := LBx R X b o q w.heap.size x y) (by kernel_rfl) ?_
 change wpAnyH _ _ _ _ _ _ _ _ W1.drew
 have hS : LBx R X b o q w.heap.size x y W1.drew := HL.out.call (below_drewN (Below.refl _ _) 1)
 have hBd : Below W1.heap.size W1 W1.drew := below_drewN (Below.refl _ _) 1
 have hr1 : BoxV 93 W1.drew (w.heap.size + 1) (spA 0 none) := HRs.out
 have hB2 := hB1.trans (hBd.mono hB1.size)
 refine takeAt 0 117 (.pointer (some ⟨R.rb, 0, none⟩)) rfl rfl (by kernel_rfl) (by kernel_rfl) (by kernel_rfl) (fun _ _ _ h => h) (yields (by rfl) (fun w => by kernel_rfl)) hS ?_
 simp only [Act.put, sA, s0, sS]
 refine takeAt 1 118 (.pointer (some ⟨R.rb, 0, none⟩)) rfl rfl (by kernel_rfl) (by kernel_rfl) (by kernel_rfl) (fun _ _ _ h => h) (yields (by rfl) (fun w => by kernel_rfl)) hS ?_
 simp only [Act.put, sA, s0, sS]
 refine takeAt 2 119 (.pointer (some ⟨R.rb, 0, none⟩)) rfl rfl (by kernel_rfl) (by kernel_rfl) (by kernel_rfl) (fun _ _ _ h => h) (yields (by rfl) (fun w => by kernel_rfl)) hS ?_
 simp only [Act.put, sA, s0, sS]
 refine takeAt 3 120 (.pointer (some ⟨R.rb, 0, none⟩)) rfl rfl (by kernel_rfl) (by kernel_rfl) (by kernel_rfl) (fun _ _ _ h => h) (yields (by rfl) (fun w => by kernel_rfl)) hS ?_
 simp only [Act.put, sA, s0, sS]
 refine takeAt 4 121 (.slice (some ⟨R.nb, R.no, none⟩) R.n R.cap) rfl rfl (by kernel_rfl) (by kernel_rfl) (by kernel_rfl) (fun _ _ _ h => h) (ldSN_y R.rb 0 _ _ _ (fun _ h => h.rd.box.box.get 0 rfl) rfl rfl (by rfl)) hS ?_
 simp only [Act.put, sA, s0, sS]
 refine takeAt 5 122 (.pointer (some ⟨b, o, none⟩)) rfl rfl (by kernel_rfl) (by kernel_rfl) (by kernel_rfl) (fun _ _ _ h => h) (yields (by rfl) (fun w => by kernel_rfl)) hS ?_
 simp only [Act.put, sA, s0, sS]
 refine takeAt 6 123 (.pointer (some ⟨b, o, none⟩)) rfl rfl (by kernel_rfl) (by kernel_rfl) (by kernel_rfl) (fun _ _ _ h => h) (yields (by rfl) (fun w => by kernel_rfl)) hS ?_
 simp only [Act.put, sA, s0, sS]
 refine takeAt 7 124 (.pointer (some ⟨b, o + 1, none⟩)) rfl rfl (by kernel_rfl) (by kernel_rfl) (by kernel_rfl) (fun _ _ _ h => h) (yields (by rfl) (fun w => by kernel_rfl)) hS ?_
 simp only [Act.put, sA, s0, sS]
 refine takeAt 8 125 (.int .i64 (i : Int)) rfl rfl (by kernel_rfl) (by kernel_rfl) (by kernel_rfl) (fun _ _ _ h => h) (ldI_y b (o + 1) _ (fun _ h => by rw [h.nd.2.1, HI.out]) rfl rfl (by rfl)) hS ?_
 simp only [Act.put, sA, s0, sS]
 refine takeAt 9 126 (.pointer (some ⟨R.nb, R.no + i * 12, none⟩)) rfl rfl (by kernel_rfl) (by kernel_rfl) (by kernel_rfl) (fun _ _ _ h => h) (ixN_y R.nb R.n R.cap R.no i hi rfl rfl rfl (by rfl)) hS ?_
 simp only [Act.put, sA, s0, sS]
 refine takeAt 10 127 (.agg (spA (y.1 : Int) (some ⟨q, 0, none⟩))) rfl rfl (by kernel_rfl) (by kernel_rfl) (by kernel_rfl) (fun _ _ _ h => h) (ldX_y w.heap.size _ _ (fun _ h => h.xb) rfl rfl (by rfl)) hS ?_
 simp only [Act.put, sA, s0, sS]
 refine callAt 11 128 rfl rfl (by kernel_rfl) (by rfl) (by kernel_rfl) (hF X W1.drew y q R.nb (R.no + i * 12) hS.rd.nod.1 hS.rd.nodX (by rw [← hi2]; exact hS.rd.nod.2 i hi) hS.cb hq hy hS.rd (fun c hc => Nat.lt_of_lt_of_le (hxl c hc) hB2.size)) ?_
 rintro e w3 ⟨z, p, bb, rfl, hbb, hm⟩
 have hS3 := hS.call hbb
 refine ⟨_, rfl, hS3, ?_⟩
 simp only [Act.put, sA, s0, sS]
 refine takeAt 12 129 (.agg (spA z p)) rfl rfl (by kernel_rfl) (by kernel_rfl) (by kernel_rfl) (fun _ _ _ h => h) (yields (by rfl) (fun w => by kernel_rfl)) hS3 ?_
 simp only [Act.put, sA, s0, sS]
 refine takeAt 13 130 (.bool bb) rfl rfl (by kernel_rfl) (by kernel_rfl) (by kernel_rfl) (fun _ _ _ h => h) (yields (by rfl) (fun w => by kernel_rfl)) hS3 ?_
 simp only [Act.put, sA, s0, sS]
 have hrw : BoxV 93 w3 (w.heap.size + 1) (spA 0 none) := hr1.below hbb (by have := Hsz.out; show _ < W1.heap.size; omega)
 have hS4 : LBx R X b o q w.heap.size x y (w3.setRow (w.heap.size + 1) (spA z p)) := hS3.row (by omega) (by omega) (by omega) (by omega) (by omega) (by omega) _
 refine rowAt 14 93 (w.heap.size + 1) (spA 0 none) (spA z p) rfl rfl rfl (by kernel_rfl) (by rfl) rfl rfl hrw sizeX rfl (by simp [Value.oneCell']) hS4 ?_
 refine takeAt 15 7 (.bool bb) rfl rfl (by kernel_rfl) (by kernel_rfl) (by kernel_rfl) (fun _ _ _ h => h) (yields (by rfl) (fun w => by kernel_rfl)) hS4 ?_
 simp only [Act.put, sA, s0, sS]
 refine wpAnyH_done (by kernel_rfl) ?_ _
 have HM := Lib.hid hm
 have hB3 := hB2.trans (hbb.mono hB2.size)
 clear hS hS3 hS4 hm
 go_wp2_with fail
 refine bodyPost_ret (resXB (p := 6) (q := 7) rfl _ (g := w.heap.size + 1) rfl rfl (setRow_heap _ _ _ _ _ _ hrw)) rfl (SpRes.fin hB3 ?_ hrw (by omega))
 have hm := HM.out
 generalize (outs (outsE R.s a y)).head? = hh at hm ⊢
 cases hh with
 | none => exact hm
 | some v =>
   obtain ⟨e1, q2, e2, e3, e4, e5⟩ := hm
   exact ⟨e1, q2, e2, e3, e4, e5⟩
set_option maxRecDepth 100000 in
set_option maxHeartbeats 400000 in
theorem only_10 {R : Rd} {X : Nat → Prop} {x : Nd} {a : Re} {bk : Nat} (hF : FirstOk R (.one { x with md := 0 } bk a)) (hk : x.k = 10) (w : World) (y : Sp) (q b o : Nat) (hb : b < w.heap.size) (hn : At12 w b o x) (hc : BoxV 44 w q (cpC y.2)) (hy : y.1 ≤ R.s.size) (hR : RdAt R X w) (hq : ¬ X q) (hxl : ∀ c, X c → c < w.heap.size) :
  Calls Tryz.prog 141 #[ptr R.rb, .pointer (some ⟨b, o, none⟩), spV y q] w (SpRes X w (onlyE R.s.size (outsE R.s a) x bk y)) := by
 have H0 := LBx.new hb hn hc hR
 obtain ⟨W1, hW1⟩ : ∃ W1, (w.alloc (.cells (spA (y.1 : Int) (some ⟨q, 0, none⟩)) 93)).alloc (.cells (spA 0 none) 93) = W1 := ⟨_, rfl⟩
 have hB1 : Below w.heap.size w W1 := by rw [← hW1]; go_grown
 have H1 : LBx R X b o q w.heap.size x y W1 := by rw [← hW1]; exact H0.call ((Below.refl _ _).alloc (Nat.le_refl _) _)
 have hres : BoxV 93 W1 (w.heap.size + 1) (spA 0 none) := by rw [← hW1]; have := BoxV.new (T := 93) (w.alloc (.cells (spA (y.1 : Int) (some ⟨q, 0, none⟩)) 93)) (spA 0 none); rwa [World.size_alloc] at this
 have hsz : W1.heap.size = w.heap.size + 2 := by rw [← hW1]; simp
 have Hsz := Lib.hid hsz
 have lq := hc.lt
 have lr := hR.box.box.lt
 have ln := hR.nod.1
 have lk := hR.bkl
 have hk0 := H1.nd.1
 have hx0 := H1.xb.get 0 rfl
 have hx1 := H1.xb.get 1 rfl
 have HL := Lib.hid H1
 have HRs := Lib.hid hres
 clear H0 hn hc hsz H1 hres
 rw [hk] at hk0
 have hle : onlyE R.s.size (outsE R.s a) x bk y = (outs (outsE R.s (.one { x with md := 0 } bk a) y)).head? := by
  unfold onlyE
  rw [if_pos hk]
  rw [show outsE R.s (.one { x with md := 0 } bk a) y = turnE R.s.size (outsE R.s a) x.mn x.mx (decide ((0 : Int) = 1)) 0 y by rw [outsE, if_neg (by show ¬ x.k = 11; omega), if_pos ⟨hk, by show (0 : Int) ≠ 2; decide⟩]]
  rfl
 rw [hle]
 clear hle
 go_enter Tryz.func141, Tryz.ntmps141
 go_wp2_with (refine lineN (S := fun u => At12 u b o x) (.agg (ndA x)) (ldN_y b o x (fun _ h => h) rfl rfl (by rfl)) HL.out.nd ?_; refine StopS2.out ?_)
 refine ⟨?_⟩
 try rw [hW1]
 clear hW1
 try simp only [Act.put, sA, s0, sS]
 have hm0 := BoxV.new (T := 69) W1 (ndA ⟨0, 0, 0, 0, 0, 0, 0, 0, 0, 0, 0, false⟩)
 go_wp2_with (refine storeNc rfl _ _ rfl W1.heap.size x _ rfl rfl rfl hm0 ?_; intro u Hu HBu; refine StopS2.out ?_)
 refine ⟨?_⟩
 have hc9 := Hu.out.get 9 rfl
 have hf9 := Hu.out.free 9
 have hBu : Below W1.heap.size W1 (u.setCell ⟨W1.heap.size, 9, none⟩ (.int .i64 0)) := (((Below.refl _ W1).alloc (Nat.le_refl _) _).trans HBu.out).setCell (Nat.le_refl _) _
 have hnb : BoxV 69 (u.setCell ⟨W1.heap.size, 9, none⟩ (.int .i64 0)) W1.heap.size (ndA { x with md := 0 }) := Hu.out.put 9 (.int .i64 0)
 have HLu := Lib.hid (HL.out.call hBu)
 have hx3 := HLu.out.xb.get 0 rfl
 have hx4 := HLu.out.xb.get 1 rfl
 have hru : BoxV 93 (u.setCell ⟨W1.heap.size, 9, none⟩ (.int .i64 0)) (w.heap.size + 1) (spA 0 none) := HRs.out.below hBu HRs.out.lt
 have HF := Lib.hid (hF X (u.setCell ⟨W1.heap.size, 9, none⟩ (.int .i64 0)) y q W1.heap.size 0 hnb.lt (fun e => by have := hxl _ e; have := hB1.size; omega) (At12.row hnb) HLu.out.cb hq hy HLu.out.rd (fun c hc => Nat.lt_of_lt_of_le (hxl c hc) (Nat.le_trans hB1.size hBu.size)))
 have HB := Lib.hid hBu
 have HRu := Lib.hid hru
 clear hF hnb hBu hru
 go_wp2_with fail
 refine HF.out.mono ?_
 rintro e w3 ⟨z, p, bb, rfl, hbb, hm⟩
 have HM := Lib.hid hm
 have hrw := HRu.out.below hbb HRu.out.lt
 have hBt : Below w.heap.size w w3 := (hB1.trans (HB.out.mono hB1.size)).trans (hbb.mono (Nat.le_trans hB1.size HB.out.size))
 have hle3 := HB.out.size
 clear hm hbb
 go_wp2_with (refine storeX rfl _ _ rfl (w.heap.size + 1) (z) (p) _ rfl rfl rfl hrw ?_)
 refine bodyPost_ret (resXB (p := 6) (q := 7) rfl _ (g := w.heap.size + 1) rfl rfl (setRow_heap _ _ _ _ _ _ hrw)) rfl (SpRes.fin hBt ?_ hrw (by omega))
 have hm := HM.out
 generalize (outs (outsE R.s (.one { x with md := 0 } bk a) y)).head? = hh at hm ⊢
 cases hh with
 | none => exact hm
 | some v =>
   obtain ⟨e1, q2, e2, e3, e4, e5⟩ := hm
   exact ⟨e1, q2, e2, e3, e4, e5⟩
end Go.Proofs.YteiboobdhjdjkaaGreatDoor.Nai
