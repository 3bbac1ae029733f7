/-
  Layer 6: the walk of the statement on counts.
-/
import Derived.Test.YtlcecblehffjiaaDoorLexDigs
namespace Go.Proofs.YtlcecblehffjiaaDoor
open Go.RowKit

section
variable {ops : Array Oper} {a : Act} {o : Oper} {x y : Operand} {S : World → Prop}
theorem rem3_y (m k : Nat) (hk : m % 3 = k) (ho : o.op = .binOp .rem 3 x y 3) (hx : a.eval x = .int .i64 (m : Int)) (hy : a.eval y = .int .i64 3) (hm : m < 256) (hw : Region.wanted o (yielded ops a.tmps) = true) : YieldsIf Tryd.prog ops S o (.int .i64 (k : Int)) a := by
  refine Or.inl ⟨hw, fun w _ => ?_⟩
  have h : (m : Int).tmod 3 = (k : Int) := by rw [Int.tmod_eq_emod_of_nonneg (by omega)]; omega
  unfold execOp
  simp only [ho, hx, hy]
  simp [go_sem, h]
theorem conv8_y (m : Nat) (ho : o.op = .convert 5 3 x) (hx : a.eval x = .int .u8 (m : Int)) (hm : m < 256) (hw : Region.wanted o (yielded ops a.tmps) = true) : YieldsIf Tryd.prog ops S o (.int .i64 (m : Int)) a := by
  refine Or.inl ⟨hw, fun w _ => ?_⟩
  unfold execOp
  simp only [ho, hx]
  simp [go_sem]
  rw [IntKind.wrap_i64]
  omega
theorem cat_y (R A B : ByteArray) (hs : Hid (R = A ++ B ∧ A.size + B.size ≤ 1000)) (ho : o.op = .binOp .add 9 x y 9) (hx : a.eval x = .string A) (hy : a.eval y = .string B) (hw : Region.wanted o (yielded ops a.tmps) = true) : YieldsIf Tryd.prog ops S o (.string R) a := by
  refine Or.inl ⟨hw, fun w _ => ?_⟩
  have h : (Op.stringOp .add A B).run Tryd.prog w = .ok (.string R) w := by rw [hs.out.1]; exact run_string_add_sum w A B (by have := hs.out.2; omega)
  unfold execOp
  simp only [ho, hx, hy]
  simp [go_sem, h]
theorem load_run {u : World} {g off : Nat} {v : Value} {T : TypeId} (ho : o.op = .load T x) (hx : a.eval x = .pointer (some ⟨g, off, none⟩)) (hT : T = 9) (hc : u.cell? ⟨g, off, none⟩ = some v) : (execOp a.eval o).run Tryd.prog u = .ok (.value v) u := by
  subst hT
  unfold execOp
  simp only [ho, hx]
  simp [go_sem, hc]
end
@[go_sem 10000] theorem eqlTokSame (k s0 s1 s2 s3 mn mx md n : Int) (f : ByteArray) (w : World) : (binOp .eql 46 (.agg #[.int .i64 k, .int .u64 s0, .int .u64 s1, .int .u64 s2, .int .u64 s3, .int .i64 mn, .int .i64 mx, .int .i64 md, .int .i64 n, .string f]) (.agg #[.int .i64 k, .int .u64 s0, .int .u64 s1, .int .u64 s2, .int .u64 s3, .int .i64 mn, .int .i64 mx, .int .i64 md, .int .i64 n, .string f])).run Tryd.prog w = .ok (.bool true) w := by
  have h : (Op.equalIn 10000 46 (.agg #[.int .i64 k, .int .u64 s0, .int .u64 s1, .int .u64 s2, .int .u64 s3, .int .i64 mn, .int .i64 mx, .int .i64 md, .int .i64 n, .string f]) (.agg #[.int .i64 k, .int .u64 s0, .int .u64 s1, .int .u64 s2, .int .u64 s3, .int .i64 mn, .int .i64 mx, .int .i64 md, .int .i64 n, .string f])).run Tryd.prog w = .ok true w := by simp [go_sem]
  rw [run_eql_struct, h]
  rfl
theorem sl_cell (u : World) (k : Nat) (v : Value) (h : (#[.string ⟨#[]⟩, .string ⟨#[63]⟩, .string ⟨#[43]⟩] : Array Value)[0 + k]? = some v) : (World.alloc u (.cells #[.string ⟨#[]⟩, .string ⟨#[63]⟩, .string ⟨#[43]⟩] 9)).cell? ⟨u.heap.size, k, none⟩ = some v := by
  rw [Nat.zero_add] at h
  unfold World.cell?
  rw [heap_alloc_new]
  exact h
theorem ccat (A B : List UInt8) (C D : ByteArray) (hA : C = ⟨A.toArray⟩) (hB : D = ⟨B.toArray⟩) : C ++ D = ⟨(A ++ B).toArray⟩ := by rw [hA, hB]; exact bytes_append A B

set_option maxRecDepth 100000 in
set_option maxHeartbeats 16000000 in
theorem lexCounts_0 (hE : ErrsOk) (hC : CloneOk) (a b m : Nat) (w : World) (ha : a < 256) (hb : b < 256) (hm : m < 256) (hk : m % 3 = 0) (hw : Tabs w) : Calls Tryd.prog 7 #[.int .u8 (a : Int), .int .u8 (b : Int), .int .u8 (m : Int)] w fun e w' => e = .returned (.bool true) ∧ Below w.heap.size w w' := by
  have HF := Lib.hid (fun w (h : Tabs w) => fixed_any hE hC w h)
  have HL0 := Lib.hid (fun p w (h : Tabs w) => lex_any hE hC p w h.err h.tab h.op)
  have HT := Lib.hid hw
  have HA := Lib.hid (fun w => digits_any a w (by omega))
  have HB := Lib.hid (fun w => digits_any b w (by omega))
  have HK := Lib.hid hk
  clear hw hE hC hk
  obtain ⟨DA, hDA⟩ : ∃ D : ByteArray, D = ⟨(dgL a).toArray⟩ := ⟨_, rfl⟩
  obtain ⟨DB, hDB⟩ : ∃ D : ByteArray, D = ⟨(dgL b).toArray⟩ := ⟨_, rfl⟩
  have hz1 : DA.size ≤ 3 := by rw [hDA]; show (dgL a).toArray.size ≤ 3; simp; exact (dg_len _).2
  have hz2 : DB.size ≤ 3 := by rw [hDB]; show (dgL b).toArray.size ≤ 3; simp; exact (dg_len _).2
  rw [← hDA] at HA
  rw [← hDB] at HB
  obtain ⟨P1, h1⟩ : ∃ P : ByteArray, P = ⟨#[120, 123]⟩ ++ DA := ⟨_, rfl⟩
  obtain ⟨P2, h2⟩ : ∃ P : ByteArray, P = P1 ++ ⟨#[44]⟩ := ⟨_, rfl⟩
  obtain ⟨P3, h3⟩ : ∃ P : ByteArray, P = P2 ++ DB := ⟨_, rfl⟩
  obtain ⟨P4, h4⟩ : ∃ P : ByteArray, P = P3 ++ ⟨#[125]⟩ := ⟨_, rfl⟩
  obtain ⟨E, h5⟩ : ∃ P : ByteArray, P = P4 ++ ⟨#[]⟩ := ⟨_, rfl⟩
  have z0 : (⟨#[120, 123]⟩ : ByteArray).size = 2 ∧ (⟨#[44]⟩ : ByteArray).size = 1 ∧ (⟨#[125]⟩ : ByteArray).size = 1 ∧ (⟨#[]⟩ : ByteArray).size ≤ 1 := ⟨rfl, rfl, rfl, by decide⟩
  have z1 : P1.size ≤ 5 := by rw [h1, ByteArray.size_append]; omega
  have z2 : P2.size ≤ 6 := by rw [h2, ByteArray.size_append]; omega
  have z3 : P3.size ≤ 9 := by rw [h3, ByteArray.size_append]; omega
  have z4 : P4.size ≤ 10 := by rw [h4, ByteArray.size_append]; omega
  have Q1 := Lib.hid (And.intro h1 (show (⟨#[120, 123]⟩ : ByteArray).size + DA.size ≤ 1000 by omega))
  have Q2 := Lib.hid (And.intro h2 (show P1.size + (⟨#[44]⟩ : ByteArray).size ≤ 1000 by omega))
  have Q3 := Lib.hid (And.intro h3 (show P2.size + DB.size ≤ 1000 by omega))
  have Q4 := Lib.hid (And.intro h4 (show P3.size + (⟨#[125]⟩ : ByteArray).size ≤ 1000 by omega))
  have Q5 := Lib.hid (And.intro h5 (show P4.size + (⟨#[]⟩ : ByteArray).size ≤ 1000 by omega))
  have hcp : E = cntP a b 0 := by
    rw [h5, h4, h3, h2, h1, hDA, hDB]
    rw [show (⟨#[120, 123]⟩ : ByteArray) = ⟨([120, 123] : List UInt8).toArray⟩ from rfl, show (⟨#[44]⟩ : ByteArray) = ⟨([44] : List UInt8).toArray⟩ from rfl, show (⟨#[125]⟩ : ByteArray) = ⟨([125] : List UInt8).toArray⟩ from rfl, show (⟨#[]⟩ : ByteArray) = ⟨(mdL 0).toArray⟩ from rfl]
    simp only [bytes_append]
    unfold cntP cntL
    simp only [List.append_assoc]
  have HL := Lib.hid (fun w h => HL0.out E w h)
  have hlx : lexZ E = if 100 < a ∨ 100 < b then ([], 4) else if b < a then ([], 3) else ([⟨0, oneS 120, 0, 0, 0, 0, ByteArray.empty⟩, cntT a b 0], 0) := by rw [hcp]; exact lex_cnt a b 0 (by omega) (by omega) (by omega)
  rw [hlx] at HL
  clear hcp hlx hDA hDB HL0 hz1 hz2 h1 h2 h3 h4 h5 z0 z1 z2 z3 z4
  go_enter Tryd.func7, Tryd.ntmps7
  go_wp2_with fail
  rename_i K hK
  have rest : ∀ (u : World) (g : Nat), Below w.heap.size w u → K { tmps := #[.int .u8 (a : Int), .int .u8 (b : Int), .int .u8 (m : Int), undef, undef, undef, .bool false, .int .i64 (a : Int), .int .i64 (b : Int), .string E, undef, undef, .int .u8 (a : Int), .int .i64 (a : Int), .int .u8 (b : Int), .int .i64 (b : Int), .int .i64 (a : Int), .string DA, .string P1, .string P2, .int .i64 (b : Int), .string DB, .string P3, .string P4, .slice (some ⟨g, 0, none⟩) 3 3, .int .u8 (m : Int), .int .i64 (m : Int), .int .i64 0, .pointer (some ⟨g, 0, none⟩), .string ⟨#[]⟩, .string E, undef, undef, undef, undef, undef, undef, undef, undef, undef, undef, undef, undef, undef, undef, undef, undef, undef, undef, undef, undef, undef, undef, undef, undef, undef, undef, undef, undef, undef, undef, undef, undef, undef, undef, undef, undef, undef, undef, undef, undef, undef, undef, undef, undef, undef, undef], defers := [] } u := by
    intro u g hbu
    have HB0 := Lib.hid hbu
    clear hbu
    apply hK
    clear HA HB Q1 Q2 Q3 Q4 Q5
    by_cases h1 : 100 < a ∨ 100 < b
    · rw [if_pos h1] at HL
      by_cases ha1 : 100 < a
      · have d1 : (100 : Int) < (a : Int) := by omega
        go_wp2_with fail
        with_reducible refine (HL.out _ (HT.out.call HB0.out)).mono ?_
        rintro e w1 ⟨v1, rfl, ho1, hb1⟩
        have HB1 := Lib.hid (thenB HB0.out hb1 HB0.out.size)
        clear hb1
        clear ho1
        go_wp2_with fail
        with_reducible refine (HF.out _ (HT.out.call HB1.out)).mono ?_
        rintro e w2 ⟨rfl, hb2⟩
        have HB2 := Lib.hid (thenB HB1.out hb2 HB1.out.size)
        clear hb2
        go_wp2_with fail
        go_ret
        exact ⟨rfl, HB2.out⟩
      · have d1 : ¬ (100 : Int) < (a : Int) := by omega
        have d2 : (100 : Int) < (b : Int) := by omega
        go_wp2_with fail
        with_reducible refine (HL.out _ (HT.out.call HB0.out)).mono ?_
        rintro e w1 ⟨v1, rfl, ho1, hb1⟩
        have HB1 := Lib.hid (thenB HB0.out hb1 HB0.out.size)
        clear hb1
        clear ho1
        go_wp2_with fail
        with_reducible refine (HF.out _ (HT.out.call HB1.out)).mono ?_
        rintro e w2 ⟨rfl, hb2⟩
        have HB2 := Lib.hid (thenB HB1.out hb2 HB1.out.size)
        clear hb2
        go_wp2_with fail
        go_ret
        exact ⟨rfl, HB2.out⟩
    · rw [if_neg h1] at HL
      by_cases h2 : b < a
      · rw [if_pos h2] at HL
        have d1 : ¬ (100 : Int) < (a : Int) := by omega
        have d2 : ¬ (100 : Int) < (b : Int) := by omega
        have d3 : (b : Int) < (a : Int) := by omega
        go_wp2_with fail
        with_reducible refine (HL.out _ (HT.out.call HB0.out)).mono ?_
        rintro e w1 ⟨v1, rfl, ho1, hb1⟩
        have HB1 := Lib.hid (thenB HB0.out hb1 HB0.out.size)
        clear hb1
        clear ho1
        go_wp2_with fail
        with_reducible refine (HF.out _ (HT.out.call HB1.out)).mono ?_
        rintro e w2 ⟨rfl, hb2⟩
        have HB2 := Lib.hid (thenB HB1.out hb2 HB1.out.size)
        clear hb2
        go_wp2_with fail
        go_ret
        exact ⟨rfl, HB2.out⟩
      · rw [if_neg h2] at HL
        have d1 : ¬ (100 : Int) < (a : Int) := by omega
        have d2 : ¬ (100 : Int) < (b : Int) := by omega
        have d3 : ¬ (b : Int) < (a : Int) := by omega
        have d4 : (m : Int) % 3 = 0 := by have := HK.out; omega
        go_wp2_with fail
        with_reducible refine (HL.out _ (HT.out.call HB0.out)).mono ?_
        rintro e w1 ⟨v1, rfl, ho1, hb1⟩
        have HB1 := Lib.hid (thenB HB0.out hb1 HB0.out.size)
        clear hb1
        obtain ⟨A, cap, rfl, htk, -⟩ := own_toks ho1
        clear ho1
        obtain ⟨g1, o1, rfl, -, c0, c1, c2, c3, c4, c5, c6, c7, c8, c9⟩ := htk 1 (cntT a b 0) rfl
        clear htk
        have c0' : w1.cell? ⟨g1, o1 + 10, none⟩ = some (.int .i64 16) := c0
        have c1' : w1.cell? ⟨g1, o1 + 10 + 1, none⟩ = some (.int .u64 0) := c1.trans (by show _ = _; simp [cntT, W_zero])
        have c2' : w1.cell? ⟨g1, o1 + 10 + 2, none⟩ = some (.int .u64 0) := c2.trans (by show _ = _; simp [cntT, W_zero])
        have c3' : w1.cell? ⟨g1, o1 + 10 + 3, none⟩ = some (.int .u64 0) := c3.trans (by show _ = _; simp [cntT, W_zero])
        have c4' : w1.cell? ⟨g1, o1 + 10 + 4, none⟩ = some (.int .u64 0) := c4.trans (by show _ = _; simp [cntT, W_zero])
        have c5' : w1.cell? ⟨g1, o1 + 10 + 5, none⟩ = some (.int .i64 (a : Int)) := c5
        have c6' : w1.cell? ⟨g1, o1 + 10 + 6, none⟩ = some (.int .i64 (b : Int)) := c6
        have c7' : w1.cell? ⟨g1, o1 + 10 + 7, none⟩ = some (.int .i64 0) := c7
        have c8' : w1.cell? ⟨g1, o1 + 10 + 8, none⟩ = some (.int .i64 0) := c8
        have c9' : w1.cell? ⟨g1, o1 + 10 + 9, none⟩ = some (.string ByteArray.empty) := c9
        clear c0 c1 c2 c3 c4 c5 c6 c7 c8 c9
        go_wp2_with fail
        with_reducible refine (HF.out _ (HT.out.call HB1.out)).mono ?_
        rintro e w2 ⟨rfl, hb2⟩
        have HB2 := Lib.hid (thenB HB1.out hb2 HB1.out.size)
        clear hb2
        go_wp2_with fail
        go_ret
        exact ⟨rfl, HB2.out⟩
  have hS0 : Below w.heap.size w w := Below.refl _ _
  refine wp_region_held_drew (S := fun u => Below w.heap.size w u) (by kernel_rfl) hS0.drew (fun hS0 => ?_)
  generalize w.drew = u0 at hS0 ⊢
  refine takeAt 0 16 (.int .i64 (a : Int)) rfl rfl (by kernel_rfl) (by kernel_rfl) (by kernel_rfl) (fun _ _ _ h => h) (yields (by rfl) (fun w => by kernel_rfl)) hS0 ?_
  simp only [Act.put, List.setIfInBounds_toArray, List.set_cons_zero, List.set_cons_succ]
  refine takeAt 4 20 (.int .i64 (b : Int)) rfl rfl (by kernel_rfl) (by kernel_rfl) (by kernel_rfl) (fun _ _ _ h => h) (yields (by rfl) (fun w => by kernel_rfl)) hS0 ?_
  simp only [Act.put, List.setIfInBounds_toArray, List.set_cons_zero, List.set_cons_succ]
  refine takeAt 9 25 (.int .u8 (m : Int)) rfl rfl (by kernel_rfl) (by kernel_rfl) (by kernel_rfl) (fun _ _ _ h => h) (yields (by rfl) (fun w => by kernel_rfl)) hS0 ?_
  simp only [Act.put, List.setIfInBounds_toArray, List.set_cons_zero, List.set_cons_succ]
  refine takeAt 10 26 (.int .i64 (m : Int)) rfl rfl (by kernel_rfl) (by kernel_rfl) (by kernel_rfl) (fun _ _ _ h => h) (conv8_y m rfl rfl hm (by rfl)) hS0 ?_
  simp only [Act.put, List.setIfInBounds_toArray, List.set_cons_zero, List.set_cons_succ]
  refine takeAt 11 27 (.int .i64 0) rfl rfl (by kernel_rfl) (by kernel_rfl) (by kernel_rfl) (fun _ _ _ h => h) (rem3_y m 0 HK.out rfl rfl rfl hm (by rfl)) hS0 ?_
  simp only [Act.put, List.setIfInBounds_toArray, List.set_cons_zero, List.set_cons_succ]
  refine wpAnyH_ready (rs := [1, 8]) (by kernel_rfl) (by simp) (AllReadyH.cons rfl (callStep 1 17 rfl (by rfl) (by kernel_rfl) (HA.out _) ?_) (AllReadyH.cons rfl (valStep 8 24 (.slice (some ⟨u0.heap.size, 0, none⟩) 3 3) (World.alloc u0 (.cells #[.string ⟨#[]⟩, .string ⟨#[63]⟩, .string ⟨#[43]⟩] 9)) rfl (by rfl) (by kernel_rfl) (hS0.alloc hS0.size _) ?_) (AllReadyH.nil)))
  · rintro e u1 ⟨rfl, hb2⟩
    have h3 := thenB hS0 hb2 hS0.size
    refine ⟨_, rfl, h3, ?_⟩
    clear hb2
    simp only [Act.put, List.setIfInBounds_toArray, List.set_cons_zero, List.set_cons_succ]
    refine takeAt 2 18 (.string P1) rfl rfl (by kernel_rfl) (by kernel_rfl) (by kernel_rfl) (fun _ _ _ h => h) (cat_y P1 ⟨#[120, 123]⟩ DA Q1 rfl rfl rfl (by rfl)) h3 ?_
    simp only [Act.put, List.setIfInBounds_toArray, List.set_cons_zero, List.set_cons_succ]
    refine takeAt 3 19 (.string P2) rfl rfl (by kernel_rfl) (by kernel_rfl) (by kernel_rfl) (fun _ _ _ h => h) (cat_y P2 P1 ⟨#[44]⟩ Q2 rfl rfl rfl (by rfl)) h3 ?_
    simp only [Act.put, List.setIfInBounds_toArray, List.set_cons_zero, List.set_cons_succ]
    refine wpAnyH_ready (rs := [5, 8]) (by kernel_rfl) (by simp) (AllReadyH.cons rfl (callStep 5 21 rfl (by rfl) (by kernel_rfl) (HB.out _) ?_) (AllReadyH.cons rfl (valStep 8 24 (.slice (some ⟨u1.heap.size, 0, none⟩) 3 3) (World.alloc u1 (.cells #[.string ⟨#[]⟩, .string ⟨#[63]⟩, .string ⟨#[43]⟩] 9)) rfl (by rfl) (by kernel_rfl) (h3.alloc h3.size _) ?_) (AllReadyH.nil)))
    · rintro e u4 ⟨rfl, hb5⟩
      have h6 := thenB h3 hb5 h3.size
      refine ⟨_, rfl, h6, ?_⟩
      clear hb5
      simp only [Act.put, List.setIfInBounds_toArray, List.set_cons_zero, List.set_cons_succ]
      refine takeAt 6 22 (.string P3) rfl rfl (by kernel_rfl) (by kernel_rfl) (by kernel_rfl) (fun _ _ _ h => h) (cat_y P3 P2 DB Q3 rfl rfl rfl (by rfl)) h6 ?_
      simp only [Act.put, List.setIfInBounds_toArray, List.set_cons_zero, List.set_cons_succ]
      refine takeAt 7 23 (.string P4) rfl rfl (by kernel_rfl) (by kernel_rfl) (by kernel_rfl) (fun _ _ _ h => h) (cat_y P4 P3 ⟨#[125]⟩ Q4 rfl rfl rfl (by rfl)) h6 ?_
      simp only [Act.put, List.setIfInBounds_toArray, List.set_cons_zero, List.set_cons_succ]
      refine valAt 8 24 (.slice (some ⟨u4.heap.size, 0, none⟩) 3 3) (World.alloc u4 (.cells #[.string ⟨#[]⟩, .string ⟨#[63]⟩, .string ⟨#[43]⟩] 9)) rfl rfl (by kernel_rfl) (by rfl) (by kernel_rfl) (h6.alloc h6.size _) ?_
      have h7 := h6.alloc h6.size (.cells #[.string ⟨#[]⟩, .string ⟨#[63]⟩, .string ⟨#[43]⟩] 9)
      have cc8 := sl_cell u4 0 (.string ⟨#[]⟩) rfl
      have lt9 : u4.heap.size < (World.alloc u4 (.cells #[.string ⟨#[]⟩, .string ⟨#[63]⟩, .string ⟨#[43]⟩] 9)).heap.size := by simp
      simp only [Act.put, List.setIfInBounds_toArray, List.set_cons_zero, List.set_cons_succ]
      refine takeAt 12 28 (.pointer (some ⟨u4.heap.size, 0, none⟩)) rfl rfl (by kernel_rfl) (by kernel_rfl) (by kernel_rfl) (fun _ _ _ h => h) (yields (by rfl) (fun w => by kernel_rfl)) h7 ?_
      simp only [Act.put, List.setIfInBounds_toArray, List.set_cons_zero, List.set_cons_succ]
      generalize hgu10 : u4.heap.size = gu10 at cc8 lt9 ⊢
      generalize (World.alloc u4 (.cells #[.string ⟨#[]⟩, .string ⟨#[63]⟩, .string ⟨#[43]⟩] 9)) = u10 at h7 cc8 lt9 ⊢
      refine valAt 13 29 (.string ⟨#[]⟩) u10 rfl rfl (by kernel_rfl) (by rfl) (load_run rfl rfl rfl cc8) h7 ?_
      simp only [Act.put, List.setIfInBounds_toArray, List.set_cons_zero, List.set_cons_succ]
      refine takeAt 14 30 (.string E) rfl rfl (by kernel_rfl) (by kernel_rfl) (by kernel_rfl) (fun _ _ _ h => h) (cat_y E P4 ⟨#[]⟩ Q5 rfl rfl rfl (by rfl)) h7 ?_
      simp only [Act.put, List.setIfInBounds_toArray, List.set_cons_zero, List.set_cons_succ]
      refine takeAt 15 9 (.string E) rfl rfl (by kernel_rfl) (by kernel_rfl) (by kernel_rfl) (fun _ _ _ h => h) (yields (by rfl) (fun w => by kernel_rfl)) h7 ?_
      simp only [Act.put, List.setIfInBounds_toArray, List.set_cons_zero, List.set_cons_succ]
      refine wpAnyH_done (by kernel_rfl) ?_ _
      exact rest _ (gu10) h7
    · have h11 := h3.alloc h3.size (.cells #[.string ⟨#[]⟩, .string ⟨#[63]⟩, .string ⟨#[43]⟩] 9)
      have cc12 := sl_cell u1 0 (.string ⟨#[]⟩) rfl
      have lt13 : u1.heap.size < (World.alloc u1 (.cells #[.string ⟨#[]⟩, .string ⟨#[63]⟩, .string ⟨#[43]⟩] 9)).heap.size := by simp
      simp only [Act.put, List.setIfInBounds_toArray, List.set_cons_zero, List.set_cons_succ]
      refine takeAt 12 28 (.pointer (some ⟨u1.heap.size, 0, none⟩)) rfl rfl (by kernel_rfl) (by kernel_rfl) (by kernel_rfl) (fun _ _ _ h => h) (yields (by rfl) (fun w => by kernel_rfl)) h11 ?_
      simp only [Act.put, List.setIfInBounds_toArray, List.set_cons_zero, List.set_cons_succ]
      generalize hgu14 : u1.heap.size = gu14 at cc12 lt13 ⊢
      generalize (World.alloc u1 (.cells #[.string ⟨#[]⟩, .string ⟨#[63]⟩, .string ⟨#[43]⟩] 9)) = u14 at h11 cc12 lt13 ⊢
      refine wpAnyH_ready (rs := [5, 13]) (by kernel_rfl) (by simp) (AllReadyH.cons rfl (callStep 5 21 rfl (by rfl) (by kernel_rfl) (HB.out _) ?_) (AllReadyH.cons rfl (valStep 13 29 (.string ⟨#[]⟩) u14 rfl (by rfl) (load_run rfl rfl rfl cc12) h11 ?_) (AllReadyH.nil)))
      · rintro e u15 ⟨rfl, hb16⟩
        have h17 := thenB h11 hb16 h11.size
        have cc18 := (hb16.cell (p := ⟨gu14, 0, none⟩) lt13).trans cc12
        have lt19 := Nat.lt_of_lt_of_le lt13 hb16.size
        refine ⟨_, rfl, h17, ?_⟩
        clear hb16
        simp only [Act.put, List.setIfInBounds_toArray, List.set_cons_zero, List.set_cons_succ]
        refine takeAt 6 22 (.string P3) rfl rfl (by kernel_rfl) (by kernel_rfl) (by kernel_rfl) (fun _ _ _ h => h) (cat_y P3 P2 DB Q3 rfl rfl rfl (by rfl)) h17 ?_
        simp only [Act.put, List.setIfInBounds_toArray, List.set_cons_zero, List.set_cons_succ]
        refine takeAt 7 23 (.string P4) rfl rfl (by kernel_rfl) (by kernel_rfl) (by kernel_rfl) (fun _ _ _ h => h) (cat_y P4 P3 ⟨#[125]⟩ Q4 rfl rfl rfl (by rfl)) h17 ?_
        simp only [Act.put, List.setIfInBounds_toArray, List.set_cons_zero, List.set_cons_succ]
        refine valAt 13 29 (.string ⟨#[]⟩) u15 rfl rfl (by kernel_rfl) (by rfl) (load_run rfl rfl rfl cc18) h17 ?_
        simp only [Act.put, List.setIfInBounds_toArray, List.set_cons_zero, List.set_cons_succ]
        refine takeAt 14 30 (.string E) rfl rfl (by kernel_rfl) (by kernel_rfl) (by kernel_rfl) (fun _ _ _ h => h) (cat_y E P4 ⟨#[]⟩ Q5 rfl rfl rfl (by rfl)) h17 ?_
        simp only [Act.put, List.setIfInBounds_toArray, List.set_cons_zero, List.set_cons_succ]
        refine takeAt 15 9 (.string E) rfl rfl (by kernel_rfl) (by kernel_rfl) (by kernel_rfl) (fun _ _ _ h => h) (yields (by rfl) (fun w => by kernel_rfl)) h17 ?_
        simp only [Act.put, List.setIfInBounds_toArray, List.set_cons_zero, List.set_cons_succ]
        refine wpAnyH_done (by kernel_rfl) ?_ _
        exact rest _ (gu14) h17
      · simp only [Act.put, List.setIfInBounds_toArray, List.set_cons_zero, List.set_cons_succ]
        refine callAt 5 21 rfl rfl (by kernel_rfl) (by rfl) (by kernel_rfl) (HB.out _) ?_
        rintro e u20 ⟨rfl, hb21⟩
        have h22 := thenB h11 hb21 h11.size
        refine ⟨_, rfl, h22, ?_⟩
        clear hb21
        simp only [Act.put, List.setIfInBounds_toArray, List.set_cons_zero, List.set_cons_succ]
        refine takeAt 6 22 (.string P3) rfl rfl (by kernel_rfl) (by kernel_rfl) (by kernel_rfl) (fun _ _ _ h => h) (cat_y P3 P2 DB Q3 rfl rfl rfl (by rfl)) h22 ?_
        simp only [Act.put, List.setIfInBounds_toArray, List.set_cons_zero, List.set_cons_succ]
        refine takeAt 7 23 (.string P4) rfl rfl (by kernel_rfl) (by kernel_rfl) (by kernel_rfl) (fun _ _ _ h => h) (cat_y P4 P3 ⟨#[125]⟩ Q4 rfl rfl rfl (by rfl)) h22 ?_
        simp only [Act.put, List.setIfInBounds_toArray, List.set_cons_zero, List.set_cons_succ]
        refine takeAt 14 30 (.string E) rfl rfl (by kernel_rfl) (by kernel_rfl) (by kernel_rfl) (fun _ _ _ h => h) (cat_y E P4 ⟨#[]⟩ Q5 rfl rfl rfl (by rfl)) h22 ?_
        simp only [Act.put, List.setIfInBounds_toArray, List.set_cons_zero, List.set_cons_succ]
        refine takeAt 15 9 (.string E) rfl rfl (by kernel_rfl) (by kernel_rfl) (by kernel_rfl) (fun _ _ _ h => h) (yields (by rfl) (fun w => by kernel_rfl)) h22 ?_
        simp only [Act.put, List.setIfInBounds_toArray, List.set_cons_zero, List.set_cons_succ]
        refine wpAnyH_done (by kernel_rfl) ?_ _
        exact rest _ (gu14) h22
  · have h23 := hS0.alloc hS0.size (.cells #[.string ⟨#[]⟩, .string ⟨#[63]⟩, .string ⟨#[43]⟩] 9)
    have cc24 := sl_cell u0 0 (.string ⟨#[]⟩) rfl
    have lt25 : u0.heap.size < (World.alloc u0 (.cells #[.string ⟨#[]⟩, .string ⟨#[63]⟩, .string ⟨#[43]⟩] 9)).heap.size := by simp
    simp only [Act.put, List.setIfInBounds_toArray, List.set_cons_zero, List.set_cons_succ]
    refine takeAt 12 28 (.pointer (some ⟨u0.heap.size, 0, none⟩)) rfl rfl (by kernel_rfl) (by kernel_rfl) (by kernel_rfl) (fun _ _ _ h => h) (yields (by rfl) (fun w => by kernel_rfl)) h23 ?_
    simp only [Act.put, List.setIfInBounds_toArray, List.set_cons_zero, List.set_cons_succ]
    generalize hgu26 : u0.heap.size = gu26 at cc24 lt25 ⊢
    generalize (World.alloc u0 (.cells #[.string ⟨#[]⟩, .string ⟨#[63]⟩, .string ⟨#[43]⟩] 9)) = u26 at h23 cc24 lt25 ⊢
    refine wpAnyH_ready (rs := [1, 13]) (by kernel_rfl) (by simp) (AllReadyH.cons rfl (callStep 1 17 rfl (by rfl) (by kernel_rfl) (HA.out _) ?_) (AllReadyH.cons rfl (valStep 13 29 (.string ⟨#[]⟩) u26 rfl (by rfl) (load_run rfl rfl rfl cc24) h23 ?_) (AllReadyH.nil)))
    · rintro e u27 ⟨rfl, hb28⟩
      have h29 := thenB h23 hb28 h23.size
      have cc30 := (hb28.cell (p := ⟨gu26, 0, none⟩) lt25).trans cc24
      have lt31 := Nat.lt_of_lt_of_le lt25 hb28.size
      refine ⟨_, rfl, h29, ?_⟩
      clear hb28
      simp only [Act.put, List.setIfInBounds_toArray, List.set_cons_zero, List.set_cons_succ]
      refine takeAt 2 18 (.string P1) rfl rfl (by kernel_rfl) (by kernel_rfl) (by kernel_rfl) (fun _ _ _ h => h) (cat_y P1 ⟨#[120, 123]⟩ DA Q1 rfl rfl rfl (by rfl)) h29 ?_
      simp only [Act.put, List.setIfInBounds_toArray, List.set_cons_zero, List.set_cons_succ]
      refine takeAt 3 19 (.string P2) rfl rfl (by kernel_rfl) (by kernel_rfl) (by kernel_rfl) (fun _ _ _ h => h) (cat_y P2 P1 ⟨#[44]⟩ Q2 rfl rfl rfl (by rfl)) h29 ?_
      simp only [Act.put, List.setIfInBounds_toArray, List.set_cons_zero, List.set_cons_succ]
      refine wpAnyH_ready (rs := [5, 13]) (by kernel_rfl) (by simp) (AllReadyH.cons rfl (callStep 5 21 rfl (by rfl) (by kernel_rfl) (HB.out _) ?_) (AllReadyH.cons rfl (valStep 13 29 (.string ⟨#[]⟩) u27 rfl (by rfl) (load_run rfl rfl rfl cc30) h29 ?_) (AllReadyH.nil)))
      · rintro e u32 ⟨rfl, hb33⟩
        have h34 := thenB h29 hb33 h29.size
        have cc35 := (hb33.cell (p := ⟨gu26, 0, none⟩) lt31).trans cc30
        have lt36 := Nat.lt_of_lt_of_le lt31 hb33.size
        refine ⟨_, rfl, h34, ?_⟩
        clear hb33
        simp only [Act.put, List.setIfInBounds_toArray, List.set_cons_zero, List.set_cons_succ]
        refine takeAt 6 22 (.string P3) rfl rfl (by kernel_rfl) (by kernel_rfl) (by kernel_rfl) (fun _ _ _ h => h) (cat_y P3 P2 DB Q3 rfl rfl rfl (by rfl)) h34 ?_
        simp only [Act.put, List.setIfInBounds_toArray, List.set_cons_zero, List.set_cons_succ]
        refine takeAt 7 23 (.string P4) rfl rfl (by kernel_rfl) (by kernel_rfl) (by kernel_rfl) (fun _ _ _ h => h) (cat_y P4 P3 ⟨#[125]⟩ Q4 rfl rfl rfl (by rfl)) h34 ?_
        simp only [Act.put, List.setIfInBounds_toArray, List.set_cons_zero, List.set_cons_succ]
        refine valAt 13 29 (.string ⟨#[]⟩) u32 rfl rfl (by kernel_rfl) (by rfl) (load_run rfl rfl rfl cc35) h34 ?_
        simp only [Act.put, List.setIfInBounds_toArray, List.set_cons_zero, List.set_cons_succ]
        refine takeAt 14 30 (.string E) rfl rfl (by kernel_rfl) (by kernel_rfl) (by kernel_rfl) (fun _ _ _ h => h) (cat_y E P4 ⟨#[]⟩ Q5 rfl rfl rfl (by rfl)) h34 ?_
        simp only [Act.put, List.setIfInBounds_toArray, List.set_cons_zero, List.set_cons_succ]
        refine takeAt 15 9 (.string E) rfl rfl (by kernel_rfl) (by kernel_rfl) (by kernel_rfl) (fun _ _ _ h => h) (yields (by rfl) (fun w => by kernel_rfl)) h34 ?_
        simp only [Act.put, List.setIfInBounds_toArray, List.set_cons_zero, List.set_cons_succ]
        refine wpAnyH_done (by kernel_rfl) ?_ _
        exact rest _ (gu26) h34
      · simp only [Act.put, List.setIfInBounds_toArray, List.set_cons_zero, List.set_cons_succ]
        refine callAt 5 21 rfl rfl (by kernel_rfl) (by rfl) (by kernel_rfl) (HB.out _) ?_
        rintro e u37 ⟨rfl, hb38⟩
        have h39 := thenB h29 hb38 h29.size
        refine ⟨_, rfl, h39, ?_⟩
        clear hb38
        simp only [Act.put, List.setIfInBounds_toArray, List.set_cons_zero, List.set_cons_succ]
        refine takeAt 6 22 (.string P3) rfl rfl (by kernel_rfl) (by kernel_rfl) (by kernel_rfl) (fun _ _ _ h => h) (cat_y P3 P2 DB Q3 rfl rfl rfl (by rfl)) h39 ?_
        simp only [Act.put, List.setIfInBounds_toArray, List.set_cons_zero, List.set_cons_succ]
        refine takeAt 7 23 (.string P4) rfl rfl (by kernel_rfl) (by kernel_rfl) (by kernel_rfl) (fun _ _ _ h => h) (cat_y P4 P3 ⟨#[125]⟩ Q4 rfl rfl rfl (by rfl)) h39 ?_
        simp only [Act.put, List.setIfInBounds_toArray, List.set_cons_zero, List.set_cons_succ]
        refine takeAt 14 30 (.string E) rfl rfl (by kernel_rfl) (by kernel_rfl) (by kernel_rfl) (fun _ _ _ h => h) (cat_y E P4 ⟨#[]⟩ Q5 rfl rfl rfl (by rfl)) h39 ?_
        simp only [Act.put, List.setIfInBounds_toArray, List.set_cons_zero, List.set_cons_succ]
        refine takeAt 15 9 (.string E) rfl rfl (by kernel_rfl) (by kernel_rfl) (by kernel_rfl) (fun _ _ _ h => h) (yields (by rfl) (fun w => by kernel_rfl)) h39 ?_
        simp only [Act.put, List.setIfInBounds_toArray, List.set_cons_zero, List.set_cons_succ]
        refine wpAnyH_done (by kernel_rfl) ?_ _
        exact rest _ (gu26) h39
    · simp only [Act.put, List.setIfInBounds_toArray, List.set_cons_zero, List.set_cons_succ]
      refine callAt 1 17 rfl rfl (by kernel_rfl) (by rfl) (by kernel_rfl) (HA.out _) ?_
      rintro e u40 ⟨rfl, hb41⟩
      have h42 := thenB h23 hb41 h23.size
      refine ⟨_, rfl, h42, ?_⟩
      clear hb41
      simp only [Act.put, List.setIfInBounds_toArray, List.set_cons_zero, List.set_cons_succ]
      refine takeAt 2 18 (.string P1) rfl rfl (by kernel_rfl) (by kernel_rfl) (by kernel_rfl) (fun _ _ _ h => h) (cat_y P1 ⟨#[120, 123]⟩ DA Q1 rfl rfl rfl (by rfl)) h42 ?_
      simp only [Act.put, List.setIfInBounds_toArray, List.set_cons_zero, List.set_cons_succ]
      refine takeAt 3 19 (.string P2) rfl rfl (by kernel_rfl) (by kernel_rfl) (by kernel_rfl) (fun _ _ _ h => h) (cat_y P2 P1 ⟨#[44]⟩ Q2 rfl rfl rfl (by rfl)) h42 ?_
      simp only [Act.put, List.setIfInBounds_toArray, List.set_cons_zero, List.set_cons_succ]
      refine callAt 5 21 rfl rfl (by kernel_rfl) (by rfl) (by kernel_rfl) (HB.out _) ?_
      rintro e u43 ⟨rfl, hb44⟩
      have h45 := thenB h42 hb44 h42.size
      refine ⟨_, rfl, h45, ?_⟩
      clear hb44
      simp only [Act.put, List.setIfInBounds_toArray, List.set_cons_zero, List.set_cons_succ]
      refine takeAt 6 22 (.string P3) rfl rfl (by kernel_rfl) (by kernel_rfl) (by kernel_rfl) (fun _ _ _ h => h) (cat_y P3 P2 DB Q3 rfl rfl rfl (by rfl)) h45 ?_
      simp only [Act.put, List.setIfInBounds_toArray, List.set_cons_zero, List.set_cons_succ]
      refine takeAt 7 23 (.string P4) rfl rfl (by kernel_rfl) (by kernel_rfl) (by kernel_rfl) (fun _ _ _ h => h) (cat_y P4 P3 ⟨#[125]⟩ Q4 rfl rfl rfl (by rfl)) h45 ?_
      simp only [Act.put, List.setIfInBounds_toArray, List.set_cons_zero, List.set_cons_succ]
      refine takeAt 14 30 (.string E) rfl rfl (by kernel_rfl) (by kernel_rfl) (by kernel_rfl) (fun _ _ _ h => h) (cat_y E P4 ⟨#[]⟩ Q5 rfl rfl rfl (by rfl)) h45 ?_
      simp only [Act.put, List.setIfInBounds_toArray, List.set_cons_zero, List.set_cons_succ]
      refine takeAt 15 9 (.string E) rfl rfl (by kernel_rfl) (by kernel_rfl) (by kernel_rfl) (fun _ _ _ h => h) (yields (by rfl) (fun w => by kernel_rfl)) h45 ?_
      simp only [Act.put, List.setIfInBounds_toArray, List.set_cons_zero, List.set_cons_succ]
      refine wpAnyH_done (by kernel_rfl) ?_ _
      exact rest _ (gu26) h45

set_option maxRecDepth 100000 in
set_option maxHeartbeats 16000000 in
theorem lexCounts_1 (hE : ErrsOk) (hC : CloneOk) (a b m : Nat) (w : World) (ha : a < 256) (hb : b < 256) (hm : m < 256) (hk : m % 3 = 1) (hw : Tabs w) : Calls Tryd.prog 7 #[.int .u8 (a : Int), .int .u8 (b : Int), .int .u8 (m : Int)] w fun e w' => e = .returned (.bool true) ∧ Below w.heap.size w w' := by
  have HF := Lib.hid (fun w (h : Tabs w) => fixed_any hE hC w h)
  have HL0 := Lib.hid (fun p w (h : Tabs w) => lex_any hE hC p w h.err h.tab h.op)
  have HT := Lib.hid hw
  have HA := Lib.hid (fun w => digits_any a w (by omega))
  have HB := Lib.hid (fun w => digits_any b w (by omega))
  have HK := Lib.hid hk
  clear hw hE hC hk
  obtain ⟨DA, hDA⟩ : ∃ D : ByteArray, D = ⟨(dgL a).toArray⟩ := ⟨_, rfl⟩
  obtain ⟨DB, hDB⟩ : ∃ D : ByteArray, D = ⟨(dgL b).toArray⟩ := ⟨_, rfl⟩
  have hz1 : DA.size ≤ 3 := by rw [hDA]; show (dgL a).toArray.size ≤ 3; simp; exact (dg_len _).2
  have hz2 : DB.size ≤ 3 := by rw [hDB]; show (dgL b).toArray.size ≤ 3; simp; exact (dg_len _).2
  rw [← hDA] at HA
  rw [← hDB] at HB
  obtain ⟨P1, h1⟩ : ∃ P : ByteArray, P = ⟨#[120, 123]⟩ ++ DA := ⟨_, rfl⟩
  obtain ⟨P2, h2⟩ : ∃ P : ByteArray, P = P1 ++ ⟨#[44]⟩ := ⟨_, rfl⟩
  obtain ⟨P3, h3⟩ : ∃ P : ByteArray, P = P2 ++ DB := ⟨_, rfl⟩
  obtain ⟨P4, h4⟩ : ∃ P : ByteArray, P = P3 ++ ⟨#[125]⟩ := ⟨_, rfl⟩
  obtain ⟨E, h5⟩ : ∃ P : ByteArray, P = P4 ++ ⟨#[63]⟩ := ⟨_, rfl⟩
  have z0 : (⟨#[120, 123]⟩ : ByteArray).size = 2 ∧ (⟨#[44]⟩ : ByteArray).size = 1 ∧ (⟨#[125]⟩ : ByteArray).size = 1 ∧ (⟨#[63]⟩ : ByteArray).size ≤ 1 := ⟨rfl, rfl, rfl, by decide⟩
  have z1 : P1.size ≤ 5 := by rw [h1, ByteArray.size_append]; omega
  have z2 : P2.size ≤ 6 := by rw [h2, ByteArray.size_append]; omega
  have z3 : P3.size ≤ 9 := by rw [h3, ByteArray.size_append]; omega
  have z4 : P4.size ≤ 10 := by rw [h4, ByteArray.size_append]; omega
  have Q1 := Lib.hid (And.intro h1 (show (⟨#[120, 123]⟩ : ByteArray).size + DA.size ≤ 1000 by omega))
  have Q2 := Lib.hid (And.intro h2 (show P1.size + (⟨#[44]⟩ : ByteArray).size ≤ 1000 by omega))
  have Q3 := Lib.hid (And.intro h3 (show P2.size + DB.size ≤ 1000 by omega))
  have Q4 := Lib.hid (And.intro h4 (show P3.size + (⟨#[125]⟩ : ByteArray).size ≤ 1000 by omega))
  have Q5 := Lib.hid (And.intro h5 (show P4.size + (⟨#[63]⟩ : ByteArray).size ≤ 1000 by omega))
  have hcp : E = cntP a b 1 := by
    rw [h5, h4, h3, h2, h1, hDA, hDB]
    rw [show (⟨#[120, 123]⟩ : ByteArray) = ⟨([120, 123] : List UInt8).toArray⟩ from rfl, show (⟨#[44]⟩ : ByteArray) = ⟨([44] : List UInt8).toArray⟩ from rfl, show (⟨#[125]⟩ : ByteArray) = ⟨([125] : List UInt8).toArray⟩ from rfl, show (⟨#[63]⟩ : ByteArray) = ⟨(mdL 1).toArray⟩ from rfl]
    simp only [bytes_append]
    unfold cntP cntL
    simp only [List.append_assoc]
  have HL := Lib.hid (fun w h => HL0.out E w h)
  have hlx : lexZ E = if 100 < a ∨ 100 < b then ([], 4) else if b < a then ([], 3) else ([⟨0, oneS 120, 0, 0, 0, 0, ByteArray.empty⟩, cntT a b 1], 0) := by rw [hcp]; exact lex_cnt a b 1 (by omega) (by omega) (by omega)
  rw [hlx] at HL
  clear hcp hlx hDA hDB HL0 hz1 hz2 h1 h2 h3 h4 h5 z0 z1 z2 z3 z4
  go_enter Tryd.func7, Tryd.ntmps7
  go_wp2_with fail
  rename_i K hK
  have rest : ∀ (u : World) (g : Nat), Below w.heap.size w u → K { tmps := #[.int .u8 (a : Int), .int .u8 (b : Int), .int .u8 (m : Int), undef, undef, undef, .bool false, .int .i64 (a : Int), .int .i64 (b : Int), .string E, undef, undef, .int .u8 (a : Int), .int .i64 (a : Int), .int .u8 (b : Int), .int .i64 (b : Int), .int .i64 (a : Int), .string DA, .string P1, .string P2, .int .i64 (b : Int), .string DB, .string P3, .string P4, .slice (some ⟨g, 0, none⟩) 3 3, .int .u8 (m : Int), .int .i64 (m : Int), .int .i64 1, .pointer (some ⟨g, 1, none⟩), .string ⟨#[63]⟩, .string E, undef, undef, undef, undef, undef, undef, undef, undef, undef, undef, undef, undef, undef, undef, undef, undef, undef, undef, undef, undef, undef, undef, undef, undef, undef, undef, undef, undef, undef, undef, undef, undef, undef, undef, undef, undef, undef, undef, undef, undef, undef, undef, undef, undef, undef, undef], defers := [] } u := by
    intro u g hbu
    have HB0 := Lib.hid hbu
    clear hbu
    apply hK
    clear HA HB Q1 Q2 Q3 Q4 Q5
    by_cases h1 : 100 < a ∨ 100 < b
    · rw [if_pos h1] at HL
      by_cases ha1 : 100 < a
      · have d1 : (100 : Int) < (a : Int) := by omega
        go_wp2_with fail
        with_reducible refine (HL.out _ (HT.out.call HB0.out)).mono ?_
        rintro e w1 ⟨v1, rfl, ho1, hb1⟩
        have HB1 := Lib.hid (thenB HB0.out hb1 HB0.out.size)
        clear hb1
        clear ho1
        go_wp2_with fail
        with_reducible refine (HF.out _ (HT.out.call HB1.out)).mono ?_
        rintro e w2 ⟨rfl, hb2⟩
        have HB2 := Lib.hid (thenB HB1.out hb2 HB1.out.size)
        clear hb2
        go_wp2_with fail
        go_ret
        exact ⟨rfl, HB2.out⟩
      · have d1 : ¬ (100 : Int) < (a : Int) := by omega
        have d2 : (100 : Int) < (b : Int) := by omega
        go_wp2_with fail
        with_reducible refine (HL.out _ (HT.out.call HB0.out)).mono ?_
        rintro e w1 ⟨v1, rfl, ho1, hb1⟩
        have HB1 := Lib.hid (thenB HB0.out hb1 HB0.out.size)
        clear hb1
        clear ho1
        go_wp2_with fail
        with_reducible refine (HF.out _ (HT.out.call HB1.out)).mono ?_
        rintro e w2 ⟨rfl, hb2⟩
        have HB2 := Lib.hid (thenB HB1.out hb2 HB1.out.size)
        clear hb2
        go_wp2_with fail
        go_ret
        exact ⟨rfl, HB2.out⟩
    · rw [if_neg h1] at HL
      by_cases h2 : b < a
      · rw [if_pos h2] at HL
        have d1 : ¬ (100 : Int) < (a : Int) := by omega
        have d2 : ¬ (100 : Int) < (b : Int) := by omega
        have d3 : (b : Int) < (a : Int) := by omega
        go_wp2_with fail
        with_reducible refine (HL.out _ (HT.out.call HB0.out)).mono ?_
        rintro e w1 ⟨v1, rfl, ho1, hb1⟩
        have HB1 := Lib.hid (thenB HB0.out hb1 HB0.out.size)
        clear hb1
        clear ho1
        go_wp2_with fail
        with_reducible refine (HF.out _ (HT.out.call HB1.out)).mono ?_
        rintro e w2 ⟨rfl, hb2⟩
        have HB2 := Lib.hid (thenB HB1.out hb2 HB1.out.size)
        clear hb2
        go_wp2_with fail
        go_ret
        exact ⟨rfl, HB2.out⟩
      · rw [if_neg h2] at HL
        have d1 : ¬ (100 : Int) < (a : Int) := by omega
        have d2 : ¬ (100 : Int) < (b : Int) := by omega
        have d3 : ¬ (b : Int) < (a : Int) := by omega
        have d4 : (m : Int) % 3 = 1 := by have := HK.out; omega
        go_wp2_with fail
        with_reducible refine (HL.out _ (HT.out.call HB0.out)).mono ?_
        rintro e w1 ⟨v1, rfl, ho1, hb1⟩
        have HB1 := Lib.hid (thenB HB0.out hb1 HB0.out.size)
        clear hb1
        obtain ⟨A, cap, rfl, htk, -⟩ := own_toks ho1
        clear ho1
        obtain ⟨g1, o1, rfl, -, c0, c1, c2, c3, c4, c5, c6, c7, c8, c9⟩ := htk 1 (cntT a b 1) rfl
        clear htk
        have c0' : w1.cell? ⟨g1, o1 + 10, none⟩ = some (.int .i64 16) := c0
        have c1' : w1.cell? ⟨g1, o1 + 10 + 1, none⟩ = some (.int .u64 0) := c1.trans (by show _ = _; simp [cntT, W_zero])
        have c2' : w1.cell? ⟨g1, o1 + 10 + 2, none⟩ = some (.int .u64 0) := c2.trans (by show _ = _; simp [cntT, W_zero])
        have c3' : w1.cell? ⟨g1, o1 + 10 + 3, none⟩ = some (.int .u64 0) := c3.trans (by show _ = _; simp [cntT, W_zero])
        have c4' : w1.cell? ⟨g1, o1 + 10 + 4, none⟩ = some (.int .u64 0) := c4.trans (by show _ = _; simp [cntT, W_zero])
        have c5' : w1.cell? ⟨g1, o1 + 10 + 5, none⟩ = some (.int .i64 (a : Int)) := c5
        have c6' : w1.cell? ⟨g1, o1 + 10 + 6, none⟩ = some (.int .i64 (b : Int)) := c6
        have c7' : w1.cell? ⟨g1, o1 + 10 + 7, none⟩ = some (.int .i64 1) := c7
        have c8' : w1.cell? ⟨g1, o1 + 10 + 8, none⟩ = some (.int .i64 0) := c8
        have c9' : w1.cell? ⟨g1, o1 + 10 + 9, none⟩ = some (.string ByteArray.empty) := c9
        clear c0 c1 c2 c3 c4 c5 c6 c7 c8 c9
        go_wp2_with fail
        with_reducible refine (HF.out _ (HT.out.call HB1.out)).mono ?_
        rintro e w2 ⟨rfl, hb2⟩
        have HB2 := Lib.hid (thenB HB1.out hb2 HB1.out.size)
        clear hb2
        go_wp2_with fail
        go_ret
        exact ⟨rfl, HB2.out⟩
  have hS0 : Below w.heap.size w w := Below.refl _ _
  refine wp_region_held_drew (S := fun u => Below w.heap.size w u) (by kernel_rfl) hS0.drew (fun hS0 => ?_)
  generalize w.drew = u0 at hS0 ⊢
  refine takeAt 0 16 (.int .i64 (a : Int)) rfl rfl (by kernel_rfl) (by kernel_rfl) (by kernel_rfl) (fun _ _ _ h => h) (yields (by rfl) (fun w => by kernel_rfl)) hS0 ?_
  simp only [Act.put, List.setIfInBounds_toArray, List.set_cons_zero, List.set_cons_succ]
  refine takeAt 4 20 (.int .i64 (b : Int)) rfl rfl (by kernel_rfl) (by kernel_rfl) (by kernel_rfl) (fun _ _ _ h => h) (yields (by rfl) (fun w => by kernel_rfl)) hS0 ?_
  simp only [Act.put, List.setIfInBounds_toArray, List.set_cons_zero, List.set_cons_succ]
  refine takeAt 9 25 (.int .u8 (m : Int)) rfl rfl (by kernel_rfl) (by kernel_rfl) (by kernel_rfl) (fun _ _ _ h => h) (yields (by rfl) (fun w => by kernel_rfl)) hS0 ?_
  simp only [Act.put, List.setIfInBounds_toArray, List.set_cons_zero, List.set_cons_succ]
  refine takeAt 10 26 (.int .i64 (m : Int)) rfl rfl (by kernel_rfl) (by kernel_rfl) (by kernel_rfl) (fun _ _ _ h => h) (conv8_y m rfl rfl hm (by rfl)) hS0 ?_
  simp only [Act.put, List.setIfInBounds_toArray, List.set_cons_zero, List.set_cons_succ]
  refine takeAt 11 27 (.int .i64 1) rfl rfl (by kernel_rfl) (by kernel_rfl) (by kernel_rfl) (fun _ _ _ h => h) (rem3_y m 1 HK.out rfl rfl rfl hm (by rfl)) hS0 ?_
  simp only [Act.put, List.setIfInBounds_toArray, List.set_cons_zero, List.set_cons_succ]
  refine wpAnyH_ready (rs := [1, 8]) (by kernel_rfl) (by simp) (AllReadyH.cons rfl (callStep 1 17 rfl (by rfl) (by kernel_rfl) (HA.out _) ?_) (AllReadyH.cons rfl (valStep 8 24 (.slice (some ⟨u0.heap.size, 0, none⟩) 3 3) (World.alloc u0 (.cells #[.string ⟨#[]⟩, .string ⟨#[63]⟩, .string ⟨#[43]⟩] 9)) rfl (by rfl) (by kernel_rfl) (hS0.alloc hS0.size _) ?_) (AllReadyH.nil)))
  · rintro e u46 ⟨rfl, hb47⟩
    have h48 := thenB hS0 hb47 hS0.size
    refine ⟨_, rfl, h48, ?_⟩
    clear hb47
    simp only [Act.put, List.setIfInBounds_toArray, List.set_cons_zero, List.set_cons_succ]
    refine takeAt 2 18 (.string P1) rfl rfl (by kernel_rfl) (by kernel_rfl) (by kernel_rfl) (fun _ _ _ h => h) (cat_y P1 ⟨#[120, 123]⟩ DA Q1 rfl rfl rfl (by rfl)) h48 ?_
    simp only [Act.put, List.setIfInBounds_toArray, List.set_cons_zero, List.set_cons_succ]
    refine takeAt 3 19 (.string P2) rfl rfl (by kernel_rfl) (by kernel_rfl) (by kernel_rfl) (fun _ _ _ h => h) (cat_y P2 P1 ⟨#[44]⟩ Q2 rfl rfl rfl (by rfl)) h48 ?_
    simp only [Act.put, List.setIfInBounds_toArray, List.set_cons_zero, List.set_cons_succ]
    refine wpAnyH_ready (rs := [5, 8]) (by kernel_rfl) (by simp) (AllReadyH.cons rfl (callStep 5 21 rfl (by rfl) (by kernel_rfl) (HB.out _) ?_) (AllReadyH.cons rfl (valStep 8 24 (.slice (some ⟨u46.heap.size, 0, none⟩) 3 3) (World.alloc u46 (.cells #[.string ⟨#[]⟩, .string ⟨#[63]⟩, .string ⟨#[43]⟩] 9)) rfl (by rfl) (by kernel_rfl) (h48.alloc h48.size _) ?_) (AllReadyH.nil)))
    · rintro e u49 ⟨rfl, hb50⟩
      have h51 := thenB h48 hb50 h48.size
      refine ⟨_, rfl, h51, ?_⟩
      clear hb50
      simp only [Act.put, List.setIfInBounds_toArray, List.set_cons_zero, List.set_cons_succ]
      refine takeAt 6 22 (.string P3) rfl rfl (by kernel_rfl) (by kernel_rfl) (by kernel_rfl) (fun _ _ _ h => h) (cat_y P3 P2 DB Q3 rfl rfl rfl (by rfl)) h51 ?_
      simp only [Act.put, List.setIfInBounds_toArray, List.set_cons_zero, List.set_cons_succ]
      refine takeAt 7 23 (.string P4) rfl rfl (by kernel_rfl) (by kernel_rfl) (by kernel_rfl) (fun _ _ _ h => h) (cat_y P4 P3 ⟨#[125]⟩ Q4 rfl rfl rfl (by rfl)) h51 ?_
      simp only [Act.put, List.setIfInBounds_toArray, List.set_cons_zero, List.set_cons_succ]
      refine valAt 8 24 (.slice (some ⟨u49.heap.size, 0, none⟩) 3 3) (World.alloc u49 (.cells #[.string ⟨#[]⟩, .string ⟨#[63]⟩, .string ⟨#[43]⟩] 9)) rfl rfl (by kernel_rfl) (by rfl) (by kernel_rfl) (h51.alloc h51.size _) ?_
      have h52 := h51.alloc h51.size (.cells #[.string ⟨#[]⟩, .string ⟨#[63]⟩, .string ⟨#[43]⟩] 9)
      have cc53 := sl_cell u49 1 (.string ⟨#[63]⟩) rfl
      have lt54 : u49.heap.size < (World.alloc u49 (.cells #[.string ⟨#[]⟩, .string ⟨#[63]⟩, .string ⟨#[43]⟩] 9)).heap.size := by simp
      simp only [Act.put, List.setIfInBounds_toArray, List.set_cons_zero, List.set_cons_succ]
      refine takeAt 12 28 (.pointer (some ⟨u49.heap.size, 1, none⟩)) rfl rfl (by kernel_rfl) (by kernel_rfl) (by kernel_rfl) (fun _ _ _ h => h) (yields (by rfl) (fun w => by kernel_rfl)) h52 ?_
      simp only [Act.put, List.setIfInBounds_toArray, List.set_cons_zero, List.set_cons_succ]
      generalize hgu55 : u49.heap.size = gu55 at cc53 lt54 ⊢
      generalize (World.alloc u49 (.cells #[.string ⟨#[]⟩, .string ⟨#[63]⟩, .string ⟨#[43]⟩] 9)) = u55 at h52 cc53 lt54 ⊢
      refine valAt 13 29 (.string ⟨#[63]⟩) u55 rfl rfl (by kernel_rfl) (by rfl) (load_run rfl rfl rfl cc53) h52 ?_
      simp only [Act.put, List.setIfInBounds_toArray, List.set_cons_zero, List.set_cons_succ]
      refine takeAt 14 30 (.string E) rfl rfl (by kernel_rfl) (by kernel_rfl) (by kernel_rfl) (fun _ _ _ h => h) (cat_y E P4 ⟨#[63]⟩ Q5 rfl rfl rfl (by rfl)) h52 ?_
      simp only [Act.put, List.setIfInBounds_toArray, List.set_cons_zero, List.set_cons_succ]
      refine takeAt 15 9 (.string E) rfl rfl (by kernel_rfl) (by kernel_rfl) (by kernel_rfl) (fun _ _ _ h => h) (yields (by rfl) (fun w => by kernel_rfl)) h52 ?_
      simp only [Act.put, List.setIfInBounds_toArray, List.set_cons_zero, List.set_cons_succ]
      refine wpAnyH_done (by kernel_rfl) ?_ _
      exact rest _ (gu55) h52
    · have h56 := h48.alloc h48.size (.cells #[.string ⟨#[]⟩, .string ⟨#[63]⟩, .string ⟨#[43]⟩] 9)
      have cc57 := sl_cell u46 1 (.string ⟨#[63]⟩) rfl
      have lt58 : u46.heap.size < (World.alloc u46 (.cells #[.string ⟨#[]⟩, .string ⟨#[63]⟩, .string ⟨#[43]⟩] 9)).heap.size := by simp
      simp only [Act.put, List.setIfInBounds_toArray, List.set_cons_zero, List.set_cons_succ]
      refine takeAt 12 28 (.pointer (some ⟨u46.heap.size, 1, none⟩)) rfl rfl (by kernel_rfl) (by kernel_rfl) (by kernel_rfl) (fun _ _ _ h => h) (yields (by rfl) (fun w => by kernel_rfl)) h56 ?_
      simp only [Act.put, List.setIfInBounds_toArray, List.set_cons_zero, List.set_cons_succ]
      generalize hgu59 : u46.heap.size = gu59 at cc57 lt58 ⊢
      generalize (World.alloc u46 (.cells #[.string ⟨#[]⟩, .string ⟨#[63]⟩, .string ⟨#[43]⟩] 9)) = u59 at h56 cc57 lt58 ⊢
      refine wpAnyH_ready (rs := [5, 13]) (by kernel_rfl) (by simp) (AllReadyH.cons rfl (callStep 5 21 rfl (by rfl) (by kernel_rfl) (HB.out _) ?_) (AllReadyH.cons rfl (valStep 13 29 (.string ⟨#[63]⟩) u59 rfl (by rfl) (load_run rfl rfl rfl cc57) h56 ?_) (AllReadyH.nil)))
      · rintro e u60 ⟨rfl, hb61⟩
        have h62 := thenB h56 hb61 h56.size
        have cc63 := (hb61.cell (p := ⟨gu59, 1, none⟩) lt58).trans cc57
        have lt64 := Nat.lt_of_lt_of_le lt58 hb61.size
        refine ⟨_, rfl, h62, ?_⟩
        clear hb61
        simp only [Act.put, List.setIfInBounds_toArray, List.set_cons_zero, List.set_cons_succ]
        refine takeAt 6 22 (.string P3) rfl rfl (by kernel_rfl) (by kernel_rfl) (by kernel_rfl) (fun _ _ _ h => h) (cat_y P3 P2 DB Q3 rfl rfl rfl (by rfl)) h62 ?_
        simp only [Act.put, List.setIfInBounds_toArray, List.set_cons_zero, List.set_cons_succ]
        refine takeAt 7 23 (.string P4) rfl rfl (by kernel_rfl) (by kernel_rfl) (by kernel_rfl) (fun _ _ _ h => h) (cat_y P4 P3 ⟨#[125]⟩ Q4 rfl rfl rfl (by rfl)) h62 ?_
        simp only [Act.put, List.setIfInBounds_toArray, List.set_cons_zero, List.set_cons_succ]
        refine valAt 13 29 (.string ⟨#[63]⟩) u60 rfl rfl (by kernel_rfl) (by rfl) (load_run rfl rfl rfl cc63) h62 ?_
        simp only [Act.put, List.setIfInBounds_toArray, List.set_cons_zero, List.set_cons_succ]
        refine takeAt 14 30 (.string E) rfl rfl (by kernel_rfl) (by kernel_rfl) (by kernel_rfl) (fun _ _ _ h => h) (cat_y E P4 ⟨#[63]⟩ Q5 rfl rfl rfl (by rfl)) h62 ?_
        simp only [Act.put, List.setIfInBounds_toArray, List.set_cons_zero, List.set_cons_succ]
        refine takeAt 15 9 (.string E) rfl rfl (by kernel_rfl) (by kernel_rfl) (by kernel_rfl) (fun _ _ _ h => h) (yields (by rfl) (fun w => by kernel_rfl)) h62 ?_
        simp only [Act.put, List.setIfInBounds_toArray, List.set_cons_zero, List.set_cons_succ]
        refine wpAnyH_done (by kernel_rfl) ?_ _
        exact rest _ (gu59) h62
      · simp only [Act.put, List.setIfInBounds_toArray, List.set_cons_zero, List.set_cons_succ]
        refine callAt 5 21 rfl rfl (by kernel_rfl) (by rfl) (by kernel_rfl) (HB.out _) ?_
        rintro e u65 ⟨rfl, hb66⟩
        have h67 := thenB h56 hb66 h56.size
        refine ⟨_, rfl, h67, ?_⟩
        clear hb66
        simp only [Act.put, List.setIfInBounds_toArray, List.set_cons_zero, List.set_cons_succ]
        refine takeAt 6 22 (.string P3) rfl rfl (by kernel_rfl) (by kernel_rfl) (by kernel_rfl) (fun _ _ _ h => h) (cat_y P3 P2 DB Q3 rfl rfl rfl (by rfl)) h67 ?_
        simp only [Act.put, List.setIfInBounds_toArray, List.set_cons_zero, List.set_cons_succ]
        refine takeAt 7 23 (.string P4) rfl rfl (by kernel_rfl) (by kernel_rfl) (by kernel_rfl) (fun _ _ _ h => h) (cat_y P4 P3 ⟨#[125]⟩ Q4 rfl rfl rfl (by rfl)) h67 ?_
        simp only [Act.put, List.setIfInBounds_toArray, List.set_cons_zero, List.set_cons_succ]
        refine takeAt 14 30 (.string E) rfl rfl (by kernel_rfl) (by kernel_rfl) (by kernel_rfl) (fun _ _ _ h => h) (cat_y E P4 ⟨#[63]⟩ Q5 rfl rfl rfl (by rfl)) h67 ?_
        simp only [Act.put, List.setIfInBounds_toArray, List.set_cons_zero, List.set_cons_succ]
        refine takeAt 15 9 (.string E) rfl rfl (by kernel_rfl) (by kernel_rfl) (by kernel_rfl) (fun _ _ _ h => h) (yields (by rfl) (fun w => by kernel_rfl)) h67 ?_
        simp only [Act.put, List.setIfInBounds_toArray, List.set_cons_zero, List.set_cons_succ]
        refine wpAnyH_done (by kernel_rfl) ?_ _
        exact rest _ (gu59) h67
  · have h68 := hS0.alloc hS0.size (.cells #[.string ⟨#[]⟩, .string ⟨#[63]⟩, .string ⟨#[43]⟩] 9)
    have cc69 := sl_cell u0 1 (.string ⟨#[63]⟩) rfl
    have lt70 : u0.heap.size < (World.alloc u0 (.cells #[.string ⟨#[]⟩, .string ⟨#[63]⟩, .string ⟨#[43]⟩] 9)).heap.size := by simp
    simp only [Act.put, List.setIfInBounds_toArray, List.set_cons_zero, List.set_cons_succ]
    refine takeAt 12 28 (.pointer (some ⟨u0.heap.size, 1, none⟩)) rfl rfl (by kernel_rfl) (by kernel_rfl) (by kernel_rfl) (fun _ _ _ h => h) (yields (by rfl) (fun w => by kernel_rfl)) h68 ?_
    simp only [Act.put, List.setIfInBounds_toArray, List.set_cons_zero, List.set_cons_succ]
    generalize hgu71 : u0.heap.size = gu71 at cc69 lt70 ⊢
    generalize (World.alloc u0 (.cells #[.string ⟨#[]⟩, .string ⟨#[63]⟩, .string ⟨#[43]⟩] 9)) = u71 at h68 cc69 lt70 ⊢
    refine wpAnyH_ready (rs := [1, 13]) (by kernel_rfl) (by simp) (AllReadyH.cons rfl (callStep 1 17 rfl (by rfl) (by kernel_rfl) (HA.out _) ?_) (AllReadyH.cons rfl (valStep 13 29 (.string ⟨#[63]⟩) u71 rfl (by rfl) (load_run rfl rfl rfl cc69) h68 ?_) (AllReadyH.nil)))
    · rintro e u72 ⟨rfl, hb73⟩
      have h74 := thenB h68 hb73 h68.size
      have cc75 := (hb73.cell (p := ⟨gu71, 1, none⟩) lt70).trans cc69
      have lt76 := Nat.lt_of_lt_of_le lt70 hb73.size
      refine ⟨_, rfl, h74, ?_⟩
      clear hb73
      simp only [Act.put, List.setIfInBounds_toArray, List.set_cons_zero, List.set_cons_succ]
      refine takeAt 2 18 (.string P1) rfl rfl (by kernel_rfl) (by kernel_rfl) (by kernel_rfl) (fun _ _ _ h => h) (cat_y P1 ⟨#[120, 123]⟩ DA Q1 rfl rfl rfl (by rfl)) h74 ?_
      simp only [Act.put, List.setIfInBounds_toArray, List.set_cons_zero, List.set_cons_succ]
      refine takeAt 3 19 (.string P2) rfl rfl (by kernel_rfl) (by kernel_rfl) (by kernel_rfl) (fun _ _ _ h => h) (cat_y P2 P1 ⟨#[44]⟩ Q2 rfl rfl rfl (by rfl)) h74 ?_
      simp only [Act.put, List.setIfInBounds_toArray, List.set_cons_zero, List.set_cons_succ]
      refine wpAnyH_ready (rs := [5, 13]) (by kernel_rfl) (by simp) (AllReadyH.cons rfl (callStep 5 21 rfl (by rfl) (by kernel_rfl) (HB.out _) ?_) (AllReadyH.cons rfl (valStep 13 29 (.string ⟨#[63]⟩) u72 rfl (by rfl) (load_run rfl rfl rfl cc75) h74 ?_) (AllReadyH.nil)))
      · rintro e u77 ⟨rfl, hb78⟩
        have h79 := thenB h74 hb78 h74.size
        have cc80 := (hb78.cell (p := ⟨gu71, 1, none⟩) lt76).trans cc75
        have lt81 := Nat.lt_of_lt_of_le lt76 hb78.size
        refine ⟨_, rfl, h79, ?_⟩
        clear hb78
        simp only [Act.put, List.setIfInBounds_toArray, List.set_cons_zero, List.set_cons_succ]
        refine takeAt 6 22 (.string P3) rfl rfl (by kernel_rfl) (by kernel_rfl) (by kernel_rfl) (fun _ _ _ h => h) (cat_y P3 P2 DB Q3 rfl rfl rfl (by rfl)) h79 ?_
        simp only [Act.put, List.setIfInBounds_toArray, List.set_cons_zero, List.set_cons_succ]
        refine takeAt 7 23 (.string P4) rfl rfl (by kernel_rfl) (by kernel_rfl) (by kernel_rfl) (fun _ _ _ h => h) (cat_y P4 P3 ⟨#[125]⟩ Q4 rfl rfl rfl (by rfl)) h79 ?_
        simp only [Act.put, List.setIfInBounds_toArray, List.set_cons_zero, List.set_cons_succ]
        refine valAt 13 29 (.string ⟨#[63]⟩) u77 rfl rfl (by kernel_rfl) (by rfl) (load_run rfl rfl rfl cc80) h79 ?_
        simp only [Act.put, List.setIfInBounds_toArray, List.set_cons_zero, List.set_cons_succ]
        refine takeAt 14 30 (.string E) rfl rfl (by kernel_rfl) (by kernel_rfl) (by kernel_rfl) (fun _ _ _ h => h) (cat_y E P4 ⟨#[63]⟩ Q5 rfl rfl rfl (by rfl)) h79 ?_
        simp only [Act.put, List.setIfInBounds_toArray, List.set_cons_zero, List.set_cons_succ]
        refine takeAt 15 9 (.string E) rfl rfl (by kernel_rfl) (by kernel_rfl) (by kernel_rfl) (fun _ _ _ h => h) (yields (by rfl) (fun w => by kernel_rfl)) h79 ?_
        simp only [Act.put, List.setIfInBounds_toArray, List.set_cons_zero, List.set_cons_succ]
        refine wpAnyH_done (by kernel_rfl) ?_ _
        exact rest _ (gu71) h79
      · simp only [Act.put, List.setIfInBounds_toArray, List.set_cons_zero, List.set_cons_succ]
        refine callAt 5 21 rfl rfl (by kernel_rfl) (by rfl) (by kernel_rfl) (HB.out _) ?_
        rintro e u82 ⟨rfl, hb83⟩
        have h84 := thenB h74 hb83 h74.size
        refine ⟨_, rfl, h84, ?_⟩
        clear hb83
        simp only [Act.put, List.setIfInBounds_toArray, List.set_cons_zero, List.set_cons_succ]
        refine takeAt 6 22 (.string P3) rfl rfl (by kernel_rfl) (by kernel_rfl) (by kernel_rfl) (fun _ _ _ h => h) (cat_y P3 P2 DB Q3 rfl rfl rfl (by rfl)) h84 ?_
        simp only [Act.put, List.setIfInBounds_toArray, List.set_cons_zero, List.set_cons_succ]
        refine takeAt 7 23 (.string P4) rfl rfl (by kernel_rfl) (by kernel_rfl) (by kernel_rfl) (fun _ _ _ h => h) (cat_y P4 P3 ⟨#[125]⟩ Q4 rfl rfl rfl (by rfl)) h84 ?_
        simp only [Act.put, List.setIfInBounds_toArray, List.set_cons_zero, List.set_cons_succ]
        refine takeAt 14 30 (.string E) rfl rfl (by kernel_rfl) (by kernel_rfl) (by kernel_rfl) (fun _ _ _ h => h) (cat_y E P4 ⟨#[63]⟩ Q5 rfl rfl rfl (by rfl)) h84 ?_
        simp only [Act.put, List.setIfInBounds_toArray, List.set_cons_zero, List.set_cons_succ]
        refine takeAt 15 9 (.string E) rfl rfl (by kernel_rfl) (by kernel_rfl) (by kernel_rfl) (fun _ _ _ h => h) (yields (by rfl) (fun w => by kernel_rfl)) h84 ?_
        simp only [Act.put, List.setIfInBounds_toArray, List.set_cons_zero, List.set_cons_succ]
        refine wpAnyH_done (by kernel_rfl) ?_ _
        exact rest _ (gu71) h84
    · simp only [Act.put, List.setIfInBounds_toArray, List.set_cons_zero, List.set_cons_succ]
      refine callAt 1 17 rfl rfl (by kernel_rfl) (by rfl) (by kernel_rfl) (HA.out _) ?_
      rintro e u85 ⟨rfl, hb86⟩
      have h87 := thenB h68 hb86 h68.size
      refine ⟨_, rfl, h87, ?_⟩
      clear hb86
      simp only [Act.put, List.setIfInBounds_toArray, List.set_cons_zero, List.set_cons_succ]
      refine takeAt 2 18 (.string P1) rfl rfl (by kernel_rfl) (by kernel_rfl) (by kernel_rfl) (fun _ _ _ h => h) (cat_y P1 ⟨#[120, 123]⟩ DA Q1 rfl rfl rfl (by rfl)) h87 ?_
      simp only [Act.put, List.setIfInBounds_toArray, List.set_cons_zero, List.set_cons_succ]
      refine takeAt 3 19 (.string P2) rfl rfl (by kernel_rfl) (by kernel_rfl) (by kernel_rfl) (fun _ _ _ h => h) (cat_y P2 P1 ⟨#[44]⟩ Q2 rfl rfl rfl (by rfl)) h87 ?_
      simp only [Act.put, List.setIfInBounds_toArray, List.set_cons_zero, List.set_cons_succ]
      refine callAt 5 21 rfl rfl (by kernel_rfl) (by rfl) (by kernel_rfl) (HB.out _) ?_
      rintro e u88 ⟨rfl, hb89⟩
      have h90 := thenB h87 hb89 h87.size
      refine ⟨_, rfl, h90, ?_⟩
      clear hb89
      simp only [Act.put, List.setIfInBounds_toArray, List.set_cons_zero, List.set_cons_succ]
      refine takeAt 6 22 (.string P3) rfl rfl (by kernel_rfl) (by kernel_rfl) (by kernel_rfl) (fun _ _ _ h => h) (cat_y P3 P2 DB Q3 rfl rfl rfl (by rfl)) h90 ?_
      simp only [Act.put, List.setIfInBounds_toArray, List.set_cons_zero, List.set_cons_succ]
      refine takeAt 7 23 (.string P4) rfl rfl (by kernel_rfl) (by kernel_rfl) (by kernel_rfl) (fun _ _ _ h => h) (cat_y P4 P3 ⟨#[125]⟩ Q4 rfl rfl rfl (by rfl)) h90 ?_
      simp only [Act.put, List.setIfInBounds_toArray, List.set_cons_zero, List.set_cons_succ]
      refine takeAt 14 30 (.string E) rfl rfl (by kernel_rfl) (by kernel_rfl) (by kernel_rfl) (fun _ _ _ h => h) (cat_y E P4 ⟨#[63]⟩ Q5 rfl rfl rfl (by rfl)) h90 ?_
      simp only [Act.put, List.setIfInBounds_toArray, List.set_cons_zero, List.set_cons_succ]
      refine takeAt 15 9 (.string E) rfl rfl (by kernel_rfl) (by kernel_rfl) (by kernel_rfl) (fun _ _ _ h => h) (yields (by rfl) (fun w => by kernel_rfl)) h90 ?_
      simp only [Act.put, List.setIfInBounds_toArray, List.set_cons_zero, List.set_cons_succ]
      refine wpAnyH_done (by kernel_rfl) ?_ _
      exact rest _ (gu71) h90

set_option maxRecDepth 100000 in
set_option maxHeartbeats 16000000 in
theorem lexCounts_2 (hE : ErrsOk) (hC : CloneOk) (a b m : Nat) (w : World) (ha : a < 256) (hb : b < 256) (hm : m < 256) (hk : m % 3 = 2) (hw : Tabs w) : Calls Tryd.prog 7 #[.int .u8 (a : Int), .int .u8 (b : Int), .int .u8 (m : Int)] w fun e w' => e = .returned (.bool true) ∧ Below w.heap.size w w' := by
  have HF := Lib.hid (fun w (h : Tabs w) => fixed_any hE hC w h)
  have HL0 := Lib.hid (fun p w (h : Tabs w) => lex_any hE hC p w h.err h.tab h.op)
  have HT := Lib.hid hw
  have HA := Lib.hid (fun w => digits_any a w (by omega))
  have HB := Lib.hid (fun w => digits_any b w (by omega))
  have HK := Lib.hid hk
  clear hw hE hC hk
  obtain ⟨DA, hDA⟩ : ∃ D : ByteArray, D = ⟨(dgL a).toArray⟩ := ⟨_, rfl⟩
  obtain ⟨DB, hDB⟩ : ∃ D : ByteArray, D = ⟨(dgL b).toArray⟩ := ⟨_, rfl⟩
  have hz1 : DA.size ≤ 3 := by rw [hDA]; show (dgL a).toArray.size ≤ 3; simp; exact (dg_len _).2
  have hz2 : DB.size ≤ 3 := by rw [hDB]; show (dgL b).toArray.size ≤ 3; simp; exact (dg_len _).2
  rw [← hDA] at HA
  rw [← hDB] at HB
  obtain ⟨P1, h1⟩ : ∃ P : ByteArray, P = ⟨#[120, 123]⟩ ++ DA := ⟨_, rfl⟩
  obtain ⟨P2, h2⟩ : ∃ P : ByteArray, P = P1 ++ ⟨#[44]⟩ := ⟨_, rfl⟩
  obtain ⟨P3, h3⟩ : ∃ P : ByteArray, P = P2 ++ DB := ⟨_, rfl⟩
  obtain ⟨P4, h4⟩ : ∃ P : ByteArray, P = P3 ++ ⟨#[125]⟩ := ⟨_, rfl⟩
  obtain ⟨E, h5⟩ : ∃ P : ByteArray, P = P4 ++ ⟨#[43]⟩ := ⟨_, rfl⟩
  have z0 : (⟨#[120, 123]⟩ : ByteArray).size = 2 ∧ (⟨#[44]⟩ : ByteArray).size = 1 ∧ (⟨#[125]⟩ : ByteArray).size = 1 ∧ (⟨#[43]⟩ : ByteArray).size ≤ 1 := ⟨rfl, rfl, rfl, by decide⟩
  have z1 : P1.size ≤ 5 := by rw [h1, ByteArray.size_append]; omega
  have z2 : P2.size ≤ 6 := by rw [h2, ByteArray.size_append]; omega
  have z3 : P3.size ≤ 9 := by rw [h3, ByteArray.size_append]; omega
  have z4 : P4.size ≤ 10 := by rw [h4, ByteArray.size_append]; omega
  have Q1 := Lib.hid (And.intro h1 (show (⟨#[120, 123]⟩ : ByteArray).size + DA.size ≤ 1000 by omega))
  have Q2 := Lib.hid (And.intro h2 (show P1.size + (⟨#[44]⟩ : ByteArray).size ≤ 1000 by omega))
  have Q3 := Lib.hid (And.intro h3 (show P2.size + DB.size ≤ 1000 by omega))
  have Q4 := Lib.hid (And.intro h4 (show P3.size + (⟨#[125]⟩ : ByteArray).size ≤ 1000 by omega))
  have Q5 := Lib.hid (And.intro h5 (show P4.size + (⟨#[43]⟩ : ByteArray).size ≤ 1000 by omega))
  have hcp : E = cntP a b 2 := by
    rw [h5, h4, h3, h2, h1, hDA, hDB]
    rw [show (⟨#[120, 123]⟩ : ByteArray) = ⟨([120, 123] : List UInt8).toArray⟩ from rfl, show (⟨#[44]⟩ : ByteArray) = ⟨([44] : List UInt8).toArray⟩ from rfl, show (⟨#[125]⟩ : ByteArray) = ⟨([125] : List UInt8).toArray⟩ from rfl, show (⟨#[43]⟩ : ByteArray) = ⟨(mdL 2).toArray⟩ from rfl]
    simp only [bytes_append]
    unfold cntP cntL
    simp only [List.append_assoc]
  have HL := Lib.hid (fun w h => HL0.out E w h)
  have hlx : lexZ E = if 100 < a ∨ 100 < b then ([], 4) else if b < a then ([], 3) else ([⟨0, oneS 120, 0, 0, 0, 0, ByteArray.empty⟩, cntT a b 2], 0) := by rw [hcp]; exact lex_cnt a b 2 (by omega) (by omega) (by omega)
  rw [hlx] at HL
  clear hcp hlx hDA hDB HL0 hz1 hz2 h1 h2 h3 h4 h5 z0 z1 z2 z3 z4
  go_enter Tryd.func7, Tryd.ntmps7
  go_wp2_with fail
  rename_i K hK
  have rest : ∀ (u : World) (g : Nat), Below w.heap.size w u → K { tmps := #[.int .u8 (a : Int), .int .u8 (b : Int), .int .u8 (m : Int), undef, undef, undef, .bool false, .int .i64 (a : Int), .int .i64 (b : Int), .string E, undef, undef, .int .u8 (a : Int), .int .i64 (a : Int), .int .u8 (b : Int), .int .i64 (b : Int), .int .i64 (a : Int), .string DA, .string P1, .string P2, .int .i64 (b : Int), .string DB, .string P3, .string P4, .slice (some ⟨g, 0, none⟩) 3 3, .int .u8 (m : Int), .int .i64 (m : Int), .int .i64 2, .pointer (some ⟨g, 2, none⟩), .string ⟨#[43]⟩, .string E, undef, undef, undef, undef, undef, undef, undef, undef, undef, undef, undef, undef, undef, undef, undef, undef, undef, undef, undef, undef, undef, undef, undef, undef, undef, undef, undef, undef, undef, undef, undef, undef, undef, undef, undef, undef, undef, undef, undef, undef, undef, undef, undef, undef, undef, undef], defers := [] } u := by
    intro u g hbu
    have HB0 := Lib.hid hbu
    clear hbu
    apply hK
    clear HA HB Q1 Q2 Q3 Q4 Q5
    by_cases h1 : 100 < a ∨ 100 < b
    · rw [if_pos h1] at HL
      by_cases ha1 : 100 < a
      · have d1 : (100 : Int) < (a : Int) := by omega
        go_wp2_with fail
        with_reducible refine (HL.out _ (HT.out.call HB0.out)).mono ?_
        rintro e w1 ⟨v1, rfl, ho1, hb1⟩
        have HB1 := Lib.hid (thenB HB0.out hb1 HB0.out.size)
        clear hb1
        clear ho1
        go_wp2_with fail
        with_reducible refine (HF.out _ (HT.out.call HB1.out)).mono ?_
        rintro e w2 ⟨rfl, hb2⟩
        have HB2 := Lib.hid (thenB HB1.out hb2 HB1.out.size)
        clear hb2
        go_wp2_with fail
        go_ret
        exact ⟨rfl, HB2.out⟩
      · have d1 : ¬ (100 : Int) < (a : Int) := by omega
        have d2 : (100 : Int) < (b : Int) := by omega
        go_wp2_with fail
        with_reducible refine (HL.out _ (HT.out.call HB0.out)).mono ?_
        rintro e w1 ⟨v1, rfl, ho1, hb1⟩
        have HB1 := Lib.hid (thenB HB0.out hb1 HB0.out.size)
        clear hb1
        clear ho1
        go_wp2_with fail
        with_reducible refine (HF.out _ (HT.out.call HB1.out)).mono ?_
        rintro e w2 ⟨rfl, hb2⟩
        have HB2 := Lib.hid (thenB HB1.out hb2 HB1.out.size)
        clear hb2
        go_wp2_with fail
        go_ret
        exact ⟨rfl, HB2.out⟩
    · rw [if_neg h1] at HL
      by_cases h2 : b < a
      · rw [if_pos h2] at HL
        have d1 : ¬ (100 : Int) < (a : Int) := by omega
        have d2 : ¬ (100 : Int) < (b : Int) := by omega
        have d3 : (b : Int) < (a : Int) := by omega
        go_wp2_with fail
        with_reducible refine (HL.out _ (HT.out.call HB0.out)).mono ?_
        rintro e w1 ⟨v1, rfl, ho1, hb1⟩
        have HB1 := Lib.hid (thenB HB0.out hb1 HB0.out.size)
        clear hb1
        clear ho1
        go_wp2_with fail
        with_reducible refine (HF.out _ (HT.out.call HB1.out)).mono ?_
        rintro e w2 ⟨rfl, hb2⟩
        have HB2 := Lib.hid (thenB HB1.out hb2 HB1.out.size)
        clear hb2
        go_wp2_with fail
        go_ret
        exact ⟨rfl, HB2.out⟩
      · rw [if_neg h2] at HL
        have d1 : ¬ (100 : Int) < (a : Int) := by omega
        have d2 : ¬ (100 : Int) < (b : Int) := by omega
        have d3 : ¬ (b : Int) < (a : Int) := by omega
        have d4 : (m : Int) % 3 = 2 := by have := HK.out; omega
        go_wp2_with fail
        with_reducible refine (HL.out _ (HT.out.call HB0.out)).mono ?_
        rintro e w1 ⟨v1, rfl, ho1, hb1⟩
        have HB1 := Lib.hid (thenB HB0.out hb1 HB0.out.size)
        clear hb1
        obtain ⟨A, cap, rfl, htk, -⟩ := own_toks ho1
        clear ho1
        obtain ⟨g1, o1, rfl, -, c0, c1, c2, c3, c4, c5, c6, c7, c8, c9⟩ := htk 1 (cntT a b 2) rfl
        clear htk
        have c0' : w1.cell? ⟨g1, o1 + 10, none⟩ = some (.int .i64 16) := c0
        have c1' : w1.cell? ⟨g1, o1 + 10 + 1, none⟩ = some (.int .u64 0) := c1.trans (by show _ = _; simp [cntT, W_zero])
        have c2' : w1.cell? ⟨g1, o1 + 10 + 2, none⟩ = some (.int .u64 0) := c2.trans (by show _ = _; simp [cntT, W_zero])
        have c3' : w1.cell? ⟨g1, o1 + 10 + 3, none⟩ = some (.int .u64 0) := c3.trans (by show _ = _; simp [cntT, W_zero])
        have c4' : w1.cell? ⟨g1, o1 + 10 + 4, none⟩ = some (.int .u64 0) := c4.trans (by show _ = _; simp [cntT, W_zero])
        have c5' : w1.cell? ⟨g1, o1 + 10 + 5, none⟩ = some (.int .i64 (a : Int)) := c5
        have c6' : w1.cell? ⟨g1, o1 + 10 + 6, none⟩ = some (.int .i64 (b : Int)) := c6
        have c7' : w1.cell? ⟨g1, o1 + 10 + 7, none⟩ = some (.int .i64 2) := c7
        have c8' : w1.cell? ⟨g1, o1 + 10 + 8, none⟩ = some (.int .i64 0) := c8
        have c9' : w1.cell? ⟨g1, o1 + 10 + 9, none⟩ = some (.string ByteArray.empty) := c9
        clear c0 c1 c2 c3 c4 c5 c6 c7 c8 c9
        go_wp2_with fail
        with_reducible refine (HF.out _ (HT.out.call HB1.out)).mono ?_
        rintro e w2 ⟨rfl, hb2⟩
        have HB2 := Lib.hid (thenB HB1.out hb2 HB1.out.size)
        clear hb2
        go_wp2_with fail
        go_ret
        exact ⟨rfl, HB2.out⟩
  have hS0 : Below w.heap.size w w := Below.refl _ _
  refine wp_region_held_drew (S := fun u => Below w.heap.size w u) (by kernel_rfl) hS0.drew (fun hS0 => ?_)
  generalize w.drew = u0 at hS0 ⊢
  refine takeAt 0 16 (.int .i64 (a : Int)) rfl rfl (by kernel_rfl) (by kernel_rfl) (by kernel_rfl) (fun _ _ _ h => h) (yields (by rfl) (fun w => by kernel_rfl)) hS0 ?_
  simp only [Act.put, List.setIfInBounds_toArray, List.set_cons_zero, List.set_cons_succ]
  refine takeAt 4 20 (.int .i64 (b : Int)) rfl rfl (by kernel_rfl) (by kernel_rfl) (by kernel_rfl) (fun _ _ _ h => h) (yields (by rfl) (fun w => by kernel_rfl)) hS0 ?_
  simp only [Act.put, List.setIfInBounds_toArray, List.set_cons_zero, List.set_cons_succ]
  refine takeAt 9 25 (.int .u8 (m : Int)) rfl rfl (by kernel_rfl) (by kernel_rfl) (by kernel_rfl) (fun _ _ _ h => h) (yields (by rfl) (fun w => by kernel_rfl)) hS0 ?_
  simp only [Act.put, List.setIfInBounds_toArray, List.set_cons_zero, List.set_cons_succ]
  refine takeAt 10 26 (.int .i64 (m : Int)) rfl rfl (by kernel_rfl) (by kernel_rfl) (by kernel_rfl) (fun _ _ _ h => h) (conv8_y m rfl rfl hm (by rfl)) hS0 ?_
  simp only [Act.put, List.setIfInBounds_toArray, List.set_cons_zero, List.set_cons_succ]
  refine takeAt 11 27 (.int .i64 2) rfl rfl (by kernel_rfl) (by kernel_rfl) (by kernel_rfl) (fun _ _ _ h => h) (rem3_y m 2 HK.out rfl rfl rfl hm (by rfl)) hS0 ?_
  simp only [Act.put, List.setIfInBounds_toArray, List.set_cons_zero, List.set_cons_succ]
  refine wpAnyH_ready (rs := [1, 8]) (by kernel_rfl) (by simp) (AllReadyH.cons rfl (callStep 1 17 rfl (by rfl) (by kernel_rfl) (HA.out _) ?_) (AllReadyH.cons rfl (valStep 8 24 (.slice (some ⟨u0.heap.size, 0, none⟩) 3 3) (World.alloc u0 (.cells #[.string ⟨#[]⟩, .string ⟨#[63]⟩, .string ⟨#[43]⟩] 9)) rfl (by rfl) (by kernel_rfl) (hS0.alloc hS0.size _) ?_) (AllReadyH.nil)))
  · rintro e u91 ⟨rfl, hb92⟩
    have h93 := thenB hS0 hb92 hS0.size
    refine ⟨_, rfl, h93, ?_⟩
    clear hb92
    simp only [Act.put, List.setIfInBounds_toArray, List.set_cons_zero, List.set_cons_succ]
    refine takeAt 2 18 (.string P1) rfl rfl (by kernel_rfl) (by kernel_rfl) (by kernel_rfl) (fun _ _ _ h => h) (cat_y P1 ⟨#[120, 123]⟩ DA Q1 rfl rfl rfl (by rfl)) h93 ?_
    simp only [Act.put, List.setIfInBounds_toArray, List.set_cons_zero, List.set_cons_succ]
    refine takeAt 3 19 (.string P2) rfl rfl (by kernel_rfl) (by kernel_rfl) (by kernel_rfl) (fun _ _ _ h => h) (cat_y P2 P1 ⟨#[44]⟩ Q2 rfl rfl rfl (by rfl)) h93 ?_
    simp only [Act.put, List.setIfInBounds_toArray, List.set_cons_zero, List.set_cons_succ]
    refine wpAnyH_ready (rs := [5, 8]) (by kernel_rfl) (by simp) (AllReadyH.cons rfl (callStep 5 21 rfl (by rfl) (by kernel_rfl) (HB.out _) ?_) (AllReadyH.cons rfl (valStep 8 24 (.slice (some ⟨u91.heap.size, 0, none⟩) 3 3) (World.alloc u91 (.cells #[.string ⟨#[]⟩, .string ⟨#[63]⟩, .string ⟨#[43]⟩] 9)) rfl (by rfl) (by kernel_rfl) (h93.alloc h93.size _) ?_) (AllReadyH.nil)))
    · rintro e u94 ⟨rfl, hb95⟩
      have h96 := thenB h93 hb95 h93.size
      refine ⟨_, rfl, h96, ?_⟩
      clear hb95
      simp only [Act.put, List.setIfInBounds_toArray, List.set_cons_zero, List.set_cons_succ]
      refine takeAt 6 22 (.string P3) rfl rfl (by kernel_rfl) (by kernel_rfl) (by kernel_rfl) (fun _ _ _ h => h) (cat_y P3 P2 DB Q3 rfl rfl rfl (by rfl)) h96 ?_
      simp only [Act.put, List.setIfInBounds_toArray, List.set_cons_zero, List.set_cons_succ]
      refine takeAt 7 23 (.string P4) rfl rfl (by kernel_rfl) (by kernel_rfl) (by kernel_rfl) (fun _ _ _ h => h) (cat_y P4 P3 ⟨#[125]⟩ Q4 rfl rfl rfl (by rfl)) h96 ?_
      simp only [Act.put, List.setIfInBounds_toArray, List.set_cons_zero, List.set_cons_succ]
      refine valAt 8 24 (.slice (some ⟨u94.heap.size, 0, none⟩) 3 3) (World.alloc u94 (.cells #[.string ⟨#[]⟩, .string ⟨#[63]⟩, .string ⟨#[43]⟩] 9)) rfl rfl (by kernel_rfl) (by rfl) (by kernel_rfl) (h96.alloc h96.size _) ?_
      have h97 := h96.alloc h96.size (.cells #[.string ⟨#[]⟩, .string ⟨#[63]⟩, .string ⟨#[43]⟩] 9)
      have cc98 := sl_cell u94 2 (.string ⟨#[43]⟩) rfl
      have lt99 : u94.heap.size < (World.alloc u94 (.cells #[.string ⟨#[]⟩, .string ⟨#[63]⟩, .string ⟨#[43]⟩] 9)).heap.size := by simp
      simp only [Act.put, List.setIfInBounds_toArray, List.set_cons_zero, List.set_cons_succ]
      refine takeAt 12 28 (.pointer (some ⟨u94.heap.size, 2, none⟩)) rfl rfl (by kernel_rfl) (by kernel_rfl) (by kernel_rfl) (fun _ _ _ h => h) (yields (by rfl) (fun w => by kernel_rfl)) h97 ?_
      simp only [Act.put, List.setIfInBounds_toArray, List.set_cons_zero, List.set_cons_succ]
      generalize hgu100 : u94.heap.size = gu100 at cc98 lt99 ⊢
      generalize (World.alloc u94 (.cells #[.string ⟨#[]⟩, .string ⟨#[63]⟩, .string ⟨#[43]⟩] 9)) = u100 at h97 cc98 lt99 ⊢
      refine valAt 13 29 (.string ⟨#[43]⟩) u100 rfl rfl (by kernel_rfl) (by rfl) (load_run rfl rfl rfl cc98) h97 ?_
      simp only [Act.put, List.setIfInBounds_toArray, List.set_cons_zero, List.set_cons_succ]
      refine takeAt 14 30 (.string E) rfl rfl (by kernel_rfl) (by kernel_rfl) (by kernel_rfl) (fun _ _ _ h => h) (cat_y E P4 ⟨#[43]⟩ Q5 rfl rfl rfl (by rfl)) h97 ?_
      simp only [Act.put, List.setIfInBounds_toArray, List.set_cons_zero, List.set_cons_succ]
      refine takeAt 15 9 (.string E) rfl rfl (by kernel_rfl) (by kernel_rfl) (by kernel_rfl) (fun _ _ _ h => h) (yields (by rfl) (fun w => by kernel_rfl)) h97 ?_
      simp only [Act.put, List.setIfInBounds_toArray, List.set_cons_zero, List.set_cons_succ]
      refine wpAnyH_done (by kernel_rfl) ?_ _
      exact rest _ (gu100) h97
    · have h101 := h93.alloc h93.size (.cells #[.string ⟨#[]⟩, .string ⟨#[63]⟩, .string ⟨#[43]⟩] 9)
      have cc102 := sl_cell u91 2 (.string ⟨#[43]⟩) rfl
      have lt103 : u91.heap.size < (World.alloc u91 (.cells #[.string ⟨#[]⟩, .string ⟨#[63]⟩, .string ⟨#[43]⟩] 9)).heap.size := by simp
      simp only [Act.put, List.setIfInBounds_toArray, List.set_cons_zero, List.set_cons_succ]
      refine takeAt 12 28 (.pointer (some ⟨u91.heap.size, 2, none⟩)) rfl rfl (by kernel_rfl) (by kernel_rfl) (by kernel_rfl) (fun _ _ _ h => h) (yields (by rfl) (fun w => by kernel_rfl)) h101 ?_
      simp only [Act.put, List.setIfInBounds_toArray, List.set_cons_zero, List.set_cons_succ]
      generalize hgu104 : u91.heap.size = gu104 at cc102 lt103 ⊢
      generalize (World.alloc u91 (.cells #[.string ⟨#[]⟩, .string ⟨#[63]⟩, .string ⟨#[43]⟩] 9)) = u104 at h101 cc102 lt103 ⊢
      refine wpAnyH_ready (rs := [5, 13]) (by kernel_rfl) (by simp) (AllReadyH.cons rfl (callStep 5 21 rfl (by rfl) (by kernel_rfl) (HB.out _) ?_) (AllReadyH.cons rfl (valStep 13 29 (.string ⟨#[43]⟩) u104 rfl (by rfl) (load_run rfl rfl rfl cc102) h101 ?_) (AllReadyH.nil)))
      · rintro e u105 ⟨rfl, hb106⟩
        have h107 := thenB h101 hb106 h101.size
        have cc108 := (hb106.cell (p := ⟨gu104, 2, none⟩) lt103).trans cc102
        have lt109 := Nat.lt_of_lt_of_le lt103 hb106.size
        refine ⟨_, rfl, h107, ?_⟩
        clear hb106
        simp only [Act.put, List.setIfInBounds_toArray, List.set_cons_zero, List.set_cons_succ]
        refine takeAt 6 22 (.string P3) rfl rfl (by kernel_rfl) (by kernel_rfl) (by kernel_rfl) (fun _ _ _ h => h) (cat_y P3 P2 DB Q3 rfl rfl rfl (by rfl)) h107 ?_
        simp only [Act.put, List.setIfInBounds_toArray, List.set_cons_zero, List.set_cons_succ]
        refine takeAt 7 23 (.string P4) rfl rfl (by kernel_rfl) (by kernel_rfl) (by kernel_rfl) (fun _ _ _ h => h) (cat_y P4 P3 ⟨#[125]⟩ Q4 rfl rfl rfl (by rfl)) h107 ?_
        simp only [Act.put, List.setIfInBounds_toArray, List.set_cons_zero, List.set_cons_succ]
        refine valAt 13 29 (.string ⟨#[43]⟩) u105 rfl rfl (by kernel_rfl) (by rfl) (load_run rfl rfl rfl cc108) h107 ?_
        simp only [Act.put, List.setIfInBounds_toArray, List.set_cons_zero, List.set_cons_succ]
        refine takeAt 14 30 (.string E) rfl rfl (by kernel_rfl) (by kernel_rfl) (by kernel_rfl) (fun _ _ _ h => h) (cat_y E P4 ⟨#[43]⟩ Q5 rfl rfl rfl (by rfl)) h107 ?_
        simp only [Act.put, List.setIfInBounds_toArray, List.set_cons_zero, List.set_cons_succ]
        refine takeAt 15 9 (.string E) rfl rfl (by kernel_rfl) (by kernel_rfl) (by kernel_rfl) (fun _ _ _ h => h) (yields (by rfl) (fun w => by kernel_rfl)) h107 ?_
        simp only [Act.put, List.setIfInBounds_toArray, List.set_cons_zero, List.set_cons_succ]
        refine wpAnyH_done (by kernel_rfl) ?_ _
        exact rest _ (gu104) h107
      · simp only [Act.put, List.setIfInBounds_toArray, List.set_cons_zero, List.set_cons_succ]
        refine callAt 5 21 rfl rfl (by kernel_rfl) (by rfl) (by kernel_rfl) (HB.out _) ?_
        rintro e u110 ⟨rfl, hb111⟩
        have h112 := thenB h101 hb111 h101.size
        refine ⟨_, rfl, h112, ?_⟩
        clear hb111
        simp only [Act.put, List.setIfInBounds_toArray, List.set_cons_zero, List.set_cons_succ]
        refine takeAt 6 22 (.string P3) rfl rfl (by kernel_rfl) (by kernel_rfl) (by kernel_rfl) (fun _ _ _ h => h) (cat_y P3 P2 DB Q3 rfl rfl rfl (by rfl)) h112 ?_
        simp only [Act.put, List.setIfInBounds_toArray, List.set_cons_zero, List.set_cons_succ]
        refine takeAt 7 23 (.string P4) rfl rfl (by kernel_rfl) (by kernel_rfl) (by kernel_rfl) (fun _ _ _ h => h) (cat_y P4 P3 ⟨#[125]⟩ Q4 rfl rfl rfl (by rfl)) h112 ?_
        simp only [Act.put, List.setIfInBounds_toArray, List.set_cons_zero, List.set_cons_succ]
        refine takeAt 14 30 (.string E) rfl rfl (by kernel_rfl) (by kernel_rfl) (by kernel_rfl) (fun _ _ _ h => h) (cat_y E P4 ⟨#[43]⟩ Q5 rfl rfl rfl (by rfl)) h112 ?_
        simp only [Act.put, List.setIfInBounds_toArray, List.set_cons_zero, List.set_cons_succ]
        refine takeAt 15 9 (.string E) rfl rfl (by kernel_rfl) (by kernel_rfl) (by kernel_rfl) (fun _ _ _ h => h) (yields (by rfl) (fun w => by kernel_rfl)) h112 ?_
        simp only [Act.put, List.setIfInBounds_toArray, List.set_cons_zero, List.set_cons_succ]
        refine wpAnyH_done (by kernel_rfl) ?_ _
        exact rest _ (gu104) h112
  · have h113 := hS0.alloc hS0.size (.cells #[.string ⟨#[]⟩, .string ⟨#[63]⟩, .string ⟨#[43]⟩] 9)
    have cc114 := sl_cell u0 2 (.string ⟨#[43]⟩) rfl
    have lt115 : u0.heap.size < (World.alloc u0 (.cells #[.string ⟨#[]⟩, .string ⟨#[63]⟩, .string ⟨#[43]⟩] 9)).heap.size := by simp
    simp only [Act.put, List.setIfInBounds_toArray, List.set_cons_zero, List.set_cons_succ]
    refine takeAt 12 28 (.pointer (some ⟨u0.heap.size, 2, none⟩)) rfl rfl (by kernel_rfl) (by kernel_rfl) (by kernel_rfl) (fun _ _ _ h => h) (yields (by rfl) (fun w => by kernel_rfl)) h113 ?_
    simp only [Act.put, List.setIfInBounds_toArray, List.set_cons_zero, List.set_cons_succ]
    generalize hgu116 : u0.heap.size = gu116 at cc114 lt115 ⊢
    generalize (World.alloc u0 (.cells #[.string ⟨#[]⟩, .string ⟨#[63]⟩, .string ⟨#[43]⟩] 9)) = u116 at h113 cc114 lt115 ⊢
    refine wpAnyH_ready (rs := [1, 13]) (by kernel_rfl) (by simp) (AllReadyH.cons rfl (callStep 1 17 rfl (by rfl) (by kernel_rfl) (HA.out _) ?_) (AllReadyH.cons rfl (valStep 13 29 (.string ⟨#[43]⟩) u116 rfl (by rfl) (load_run rfl rfl rfl cc114) h113 ?_) (AllReadyH.nil)))
    · rintro e u117 ⟨rfl, hb118⟩
      have h119 := thenB h113 hb118 h113.size
      have cc120 := (hb118.cell (p := ⟨gu116, 2, none⟩) lt115).trans cc114
      have lt121 := Nat.lt_of_lt_of_le lt115 hb118.size
      refine ⟨_, rfl, h119, ?_⟩
      clear hb118
      simp only [Act.put, List.setIfInBounds_toArray, List.set_cons_zero, List.set_cons_succ]
      refine takeAt 2 18 (.string P1) rfl rfl (by kernel_rfl) (by kernel_rfl) (by kernel_rfl) (fun _ _ _ h => h) (cat_y P1 ⟨#[120, 123]⟩ DA Q1 rfl rfl rfl (by rfl)) h119 ?_
      simp only [Act.put, List.setIfInBounds_toArray, List.set_cons_zero, List.set_cons_succ]
      refine takeAt 3 19 (.string P2) rfl rfl (by kernel_rfl) (by kernel_rfl) (by kernel_rfl) (fun _ _ _ h => h) (cat_y P2 P1 ⟨#[44]⟩ Q2 rfl rfl rfl (by rfl)) h119 ?_
      simp only [Act.put, List.setIfInBounds_toArray, List.set_cons_zero, List.set_cons_succ]
      refine wpAnyH_ready (rs := [5, 13]) (by kernel_rfl) (by simp) (AllReadyH.cons rfl (callStep 5 21 rfl (by rfl) (by kernel_rfl) (HB.out _) ?_) (AllReadyH.cons rfl (valStep 13 29 (.string ⟨#[43]⟩) u117 rfl (by rfl) (load_run rfl rfl rfl cc120) h119 ?_) (AllReadyH.nil)))
      · rintro e u122 ⟨rfl, hb123⟩
        have h124 := thenB h119 hb123 h119.size
        have cc125 := (hb123.cell (p := ⟨gu116, 2, none⟩) lt121).trans cc120
        have lt126 := Nat.lt_of_lt_of_le lt121 hb123.size
        refine ⟨_, rfl, h124, ?_⟩
        clear hb123
        simp only [Act.put, List.setIfInBounds_toArray, List.set_cons_zero, List.set_cons_succ]
        refine takeAt 6 22 (.string P3) rfl rfl (by kernel_rfl) (by kernel_rfl) (by kernel_rfl) (fun _ _ _ h => h) (cat_y P3 P2 DB Q3 rfl rfl rfl (by rfl)) h124 ?_
        simp only [Act.put, List.setIfInBounds_toArray, List.set_cons_zero, List.set_cons_succ]
        refine takeAt 7 23 (.string P4) rfl rfl (by kernel_rfl) (by kernel_rfl) (by kernel_rfl) (fun _ _ _ h => h) (cat_y P4 P3 ⟨#[125]⟩ Q4 rfl rfl rfl (by rfl)) h124 ?_
        simp only [Act.put, List.setIfInBounds_toArray, List.set_cons_zero, List.set_cons_succ]
        refine valAt 13 29 (.string ⟨#[43]⟩) u122 rfl rfl (by kernel_rfl) (by rfl) (load_run rfl rfl rfl cc125) h124 ?_
        simp only [Act.put, List.setIfInBounds_toArray, List.set_cons_zero, List.set_cons_succ]
        refine takeAt 14 30 (.string E) rfl rfl (by kernel_rfl) (by kernel_rfl) (by kernel_rfl) (fun _ _ _ h => h) (cat_y E P4 ⟨#[43]⟩ Q5 rfl rfl rfl (by rfl)) h124 ?_
        simp only [Act.put, List.setIfInBounds_toArray, List.set_cons_zero, List.set_cons_succ]
        refine takeAt 15 9 (.string E) rfl rfl (by kernel_rfl) (by kernel_rfl) (by kernel_rfl) (fun _ _ _ h => h) (yields (by rfl) (fun w => by kernel_rfl)) h124 ?_
        simp only [Act.put, List.setIfInBounds_toArray, List.set_cons_zero, List.set_cons_succ]
        refine wpAnyH_done (by kernel_rfl) ?_ _
        exact rest _ (gu116) h124
      · simp only [Act.put, List.setIfInBounds_toArray, List.set_cons_zero, List.set_cons_succ]
        refine callAt 5 21 rfl rfl (by kernel_rfl) (by rfl) (by kernel_rfl) (HB.out _) ?_
        rintro e u127 ⟨rfl, hb128⟩
        have h129 := thenB h119 hb128 h119.size
        refine ⟨_, rfl, h129, ?_⟩
        clear hb128
        simp only [Act.put, List.setIfInBounds_toArray, List.set_cons_zero, List.set_cons_succ]
        refine takeAt 6 22 (.string P3) rfl rfl (by kernel_rfl) (by kernel_rfl) (by kernel_rfl) (fun _ _ _ h => h) (cat_y P3 P2 DB Q3 rfl rfl rfl (by rfl)) h129 ?_
        simp only [Act.put, List.setIfInBounds_toArray, List.set_cons_zero, List.set_cons_succ]
        refine takeAt 7 23 (.string P4) rfl rfl (by kernel_rfl) (by kernel_rfl) (by kernel_rfl) (fun _ _ _ h => h) (cat_y P4 P3 ⟨#[125]⟩ Q4 rfl rfl rfl (by rfl)) h129 ?_
        simp only [Act.put, List.setIfInBounds_toArray, List.set_cons_zero, List.set_cons_succ]
        refine takeAt 14 30 (.string E) rfl rfl (by kernel_rfl) (by kernel_rfl) (by kernel_rfl) (fun _ _ _ h => h) (cat_y E P4 ⟨#[43]⟩ Q5 rfl rfl rfl (by rfl)) h129 ?_
        simp only [Act.put, List.setIfInBounds_toArray, List.set_cons_zero, List.set_cons_succ]
        refine takeAt 15 9 (.string E) rfl rfl (by kernel_rfl) (by kernel_rfl) (by kernel_rfl) (fun _ _ _ h => h) (yields (by rfl) (fun w => by kernel_rfl)) h129 ?_
        simp only [Act.put, List.setIfInBounds_toArray, List.set_cons_zero, List.set_cons_succ]
        refine wpAnyH_done (by kernel_rfl) ?_ _
        exact rest _ (gu116) h129
    · simp only [Act.put, List.setIfInBounds_toArray, List.set_cons_zero, List.set_cons_succ]
      refine callAt 1 17 rfl rfl (by kernel_rfl) (by rfl) (by kernel_rfl) (HA.out _) ?_
      rintro e u130 ⟨rfl, hb131⟩
      have h132 := thenB h113 hb131 h113.size
      refine ⟨_, rfl, h132, ?_⟩
      clear hb131
      simp only [Act.put, List.setIfInBounds_toArray, List.set_cons_zero, List.set_cons_succ]
      refine takeAt 2 18 (.string P1) rfl rfl (by kernel_rfl) (by kernel_rfl) (by kernel_rfl) (fun _ _ _ h => h) (cat_y P1 ⟨#[120, 123]⟩ DA Q1 rfl rfl rfl (by rfl)) h132 ?_
      simp only [Act.put, List.setIfInBounds_toArray, List.set_cons_zero, List.set_cons_succ]
      refine takeAt 3 19 (.string P2) rfl rfl (by kernel_rfl) (by kernel_rfl) (by kernel_rfl) (fun _ _ _ h => h) (cat_y P2 P1 ⟨#[44]⟩ Q2 rfl rfl rfl (by rfl)) h132 ?_
      simp only [Act.put, List.setIfInBounds_toArray, List.set_cons_zero, List.set_cons_succ]
      refine callAt 5 21 rfl rfl (by kernel_rfl) (by rfl) (by kernel_rfl) (HB.out _) ?_
      rintro e u133 ⟨rfl, hb134⟩
      have h135 := thenB h132 hb134 h132.size
      refine ⟨_, rfl, h135, ?_⟩
      clear hb134
      simp only [Act.put, List.setIfInBounds_toArray, List.set_cons_zero, List.set_cons_succ]
      refine takeAt 6 22 (.string P3) rfl rfl (by kernel_rfl) (by kernel_rfl) (by kernel_rfl) (fun _ _ _ h => h) (cat_y P3 P2 DB Q3 rfl rfl rfl (by rfl)) h135 ?_
      simp only [Act.put, List.setIfInBounds_toArray, List.set_cons_zero, List.set_cons_succ]
      refine takeAt 7 23 (.string P4) rfl rfl (by kernel_rfl) (by kernel_rfl) (by kernel_rfl) (fun _ _ _ h => h) (cat_y P4 P3 ⟨#[125]⟩ Q4 rfl rfl rfl (by rfl)) h135 ?_
      simp only [Act.put, List.setIfInBounds_toArray, List.set_cons_zero, List.set_cons_succ]
      refine takeAt 14 30 (.string E) rfl rfl (by kernel_rfl) (by kernel_rfl) (by kernel_rfl) (fun _ _ _ h => h) (cat_y E P4 ⟨#[43]⟩ Q5 rfl rfl rfl (by rfl)) h135 ?_
      simp only [Act.put, List.setIfInBounds_toArray, List.set_cons_zero, List.set_cons_succ]
      refine takeAt 15 9 (.string E) rfl rfl (by kernel_rfl) (by kernel_rfl) (by kernel_rfl) (fun _ _ _ h => h) (yields (by rfl) (fun w => by kernel_rfl)) h135 ?_
      simp only [Act.put, List.setIfInBounds_toArray, List.set_cons_zero, List.set_cons_succ]
      refine wpAnyH_done (by kernel_rfl) ?_ _
      exact rest _ (gu116) h135
theorem lexCounts_any (hE : ErrsOk) (hC : CloneOk) (a b m : Nat) (w : World) (ha : a < 256) (hb : b < 256) (hm : m < 256) (hw : Tabs w) : Calls Tryd.prog 7 #[.int .u8 (a : Int), .int .u8 (b : Int), .int .u8 (m : Int)] w fun e w' => e = .returned (.bool true) ∧ Below w.heap.size w w' := by
  rcases (show m % 3 = 0 ∨ m % 3 = 1 ∨ m % 3 = 2 by omega) with h | h | h
  · exact lexCounts_0 hE hC a b m w ha hb hm h hw
  · exact lexCounts_1 hE hC a b m w ha hb hm h hw
  · exact lexCounts_2 hE hC a b m w ha hb hm h hw
end Go.Proofs.YtlcecblehffjiaaDoor
