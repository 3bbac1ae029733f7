/-
  Layer 10, the statement CapsShows: its walk.
-/
import Derived.Test.YtnapbmdbeihngaaDoorCapFix
namespace Go.Proofs.YtnapbmdbeihngaaDoor
open Go.RowKit

/-- How many commas the first bytes have. -/
def cntC (s : ByteArray) (j : Nat) : Nat := (s.data.toList.take j).count 44
theorem cntC_succ (s : ByteArray) (j : Nat) (h : j < s.size) : cntC s (j + 1) = cntC s j + if s[j].toNat = 44 then 1 else 0 := by
  unfold cntC
  have hl : j < s.data.toList.length := by simpa using h
  rw [List.take_succ_eq_append_getElem hl, List.count_append]
  congr 1
  have e : s.data.toList[j] = s[j] := rfl
  rw [e, List.count_singleton]
  by_cases h4 : s[j] = 44
  · rw [h4]; rfl
  · have : ¬ s[j].toNat = 44 := fun e => h4 (UInt8.toNat_inj.1 (by rw [e]; rfl))
    rw [if_neg this, if_neg (by simpa using h4)]
theorem cntC_all (s : ByteArray) : cntC s s.size = s.data.toList.count 44 := by
  unfold cntC
  rw [List.take_of_length_le (by simp)]
theorem cntC_le (s : ByteArray) (j : Nat) : cntC s j ≤ j := by
  unfold cntC
  exact Nat.le_trans List.count_le_length (List.length_take_le _ _)
theorem dec_44 : ∀ u : Nat, (Lib.decDigits u).count 44 = 0 := by
  intro u
  induction u using Nat.strongRecOn with
  | _ u ih =>
    have hd : ∀ d, d < 10 → ([UInt8.ofNat (48 + d)] : List UInt8).count 44 = 0 := by decide +kernel
    rw [Lib.decDigits]
    by_cases h : u < 10
    · rw [dif_pos h]; exact hd u h
    · rw [dif_neg h, List.count_append, ih (u / 10) (by omega), hd (u % 10) (by omega)]
theorem itS_44 (n : Int) : (itS n).data.toList.count 44 = 0 := by
  unfold itS Lib.itoa
  show (List.toArray _).toList.count 44 = 0
  split
  · rw [List.count_cons, dec_44]; rfl
  · exact dec_44 _
theorem count_app (a b : ByteArray) : (a ++ b).data.toList.count 44 = a.data.toList.count 44 + b.data.toList.count 44 := by
  rw [ByteArray.data_append, Array.toList_append, List.count_append]
theorem partS_44 (c : Cp) (k : Nat) : (partS c k).data.toList.count 44 = 0 := by
  unfold partS
  split
  · rw [count_app, count_app, itS_44, itS_44]; rfl
  · rfl
theorem showS_44 (c : Cp) : ∀ m, (showS c (m + 1)).data.toList.count 44 = m
  | 0 => by
    rw [showS_succ, if_pos rfl, count_app, partS_44]; rfl
  | m + 1 => by
    rw [showS_succ, if_neg (by omega), count_app, count_app, partS_44, showS_44 c m]; rfl
theorem partS_pos (c : Cp) (k : Nat) : 1 ≤ (partS c k).size := by
  unfold partS
  split
  · rw [ByteArray.size_append, ByteArray.size_append, show (⟨#[45]⟩ : ByteArray).size = 1 from rfl]; omega
  · exact (show (1 : Nat) ≤ 1 by decide)
theorem showS_pos (c : Cp) (m : Nat) : 1 ≤ (showS c (m + 1)).size := by
  rw [showS_succ, ByteArray.size_append]
  have := partS_pos c m
  omega
theorem pre_app (a b : ByteArray) : (a ++ b).extract 0 a.size = a := by
  apply ByteArray.ext
  rw [ByteArray.data_extract, ByteArray.data_append]
  simp
theorem pre_app3 (a b c : ByteArray) : (a ++ b ++ c).extract 0 a.size = a := by
  apply ByteArray.ext
  simp [ByteArray.data_extract, ByteArray.data_append, Array.append_assoc]
theorem isEmpty_of {s : ByteArray} (h : 1 ≤ s.size) : s.toList.isEmpty = false := by
  rw [ByteArray.toList_eq]
  have : s.data.toList.length = s.size := by simp
  cases hd : s.data.toList with
  | nil => rw [hd] at this; simp at this; omega
  | cons a b => rfl
/-- The box of groups, and the table. -/
def CBx (c : Cp) (w0 w : World) : Prop := Below w0.heap.size w0 w ∧ BoxV 26 w w0.heap.size (cpC c) ∧ PowOk w
theorem CBx.call {c : Cp} {w0 w w' : World} (h : CBx c w0 w) (hb : Below w.heap.size w w') : CBx c w0 w' := ⟨thenB h.1 hb h.1.size, h.2.1.below hb h.2.1.lt, h.2.2.call hb⟩
section
variable {ops : Array Oper} {R : World → Prop} {a : Act} {o : Oper} {x y : Operand} {w : World}
theorem loadC_y (g : Nat) (c : Cp) (hR : ∀ u, R u → BoxV 26 u g (cpC c)) (ho : o.op = .load 26 x) (hx : a.eval x = .pointer (some ⟨g, 0, none⟩)) (hw : Region.wanted o (yielded ops a.tmps) = true) : YieldsIf Tryd.prog ops R o (.agg (cpC c)) a := by
  refine Or.inl ⟨hw, fun u hu => ?_⟩
  have hl := run_loadVar_row u g _ 26 _ _ _ (hR u hu) Tryd.underlying26 rfl sizeCaps
  unfold execOp
  simp only [ho, hx, Instr.loadAt, Instr.sureAddr, Sem.run_bind, Sem.run_pure, Result.andThen_ok, hl]
theorem addI_y (m n : Int) (h : IntKind.i64.wrap (m + n) = m + n) (ho : o.op = .binOp .add 3 x y 3) (hx : a.eval x = .int .i64 m) (hy : a.eval y = .int .i64 n) (hw : Region.wanted o (yielded ops a.tmps) = true) : YieldsIf Tryd.prog ops R o (.int .i64 (m + n)) a := by
  refine Or.inl ⟨hw, fun u _ => ?_⟩
  unfold execOp
  simp only [ho, hx, hy]
  go_simp
end
/-! The walk. -/
/-- What the two texts are like. -/
structure ShP (k : Nat) (X Y : ByteArray) : Prop where
  sx : X.size ≤ 1000
  sy : Y.size ≤ 1000
  le : X.size ≤ Y.size
  pre : Y.extract 0 X.size = X
  emp : X.toList.isEmpty = decide (k = 0)
  cnt : cntC X X.size + (if k = 0 then 0 else 1) = min k 9
  same : 9 ≤ k → X = Y
theorem shp (c : Cp) (hc : c.fits) (k : Nat) (_hk : k < 12) : ShP k (showS c (min k 9)) (showS c (min (k + 1) 9)) := by
  have hsz := showS_size c hc
  have h1 := hsz (min k 9) (by omega)
  have h2 := hsz (min (k + 1) 9) (by omega)
  have hpre : (showS c (min (k + 1) 9)).extract 0 (showS c (min k 9)).size = showS c (min k 9) ∧ (showS c (min k 9)).size ≤ (showS c (min (k + 1) 9)).size := by
    by_cases h9 : 9 ≤ k
    · rw [show min k 9 = 9 by omega, show min (k + 1) 9 = 9 by omega]
      exact ⟨by apply ByteArray.ext; simp, Nat.le_refl _⟩
    · rw [show min k 9 = k by omega, show min (k + 1) 9 = k + 1 by omega, showS_succ]
      by_cases h0 : k = 0
      · rw [if_pos h0]; exact ⟨pre_app _ _, by rw [ByteArray.size_append]; omega⟩
      · rw [if_neg h0]; exact ⟨pre_app3 _ _ _, by rw [ByteArray.size_append, ByteArray.size_append]; omega⟩
  refine ⟨by omega, by omega, hpre.2, hpre.1, ?_, ?_, fun h9 => by rw [show min k 9 = 9 by omega, show min (k + 1) 9 = 9 by omega]⟩
  · cases k with
    | zero => rw [show min 0 9 = 0 from rfl, ByteArray.toList_eq]; rfl
    | succ k =>
      obtain ⟨m, hm⟩ : ∃ m, min (k + 1) 9 = m + 1 := ⟨min k 8, by omega⟩
      rw [hm, isEmpty_of (showS_pos c m)]
      simp
  · rw [cntC_all]
    cases k with
    | zero => rfl
    | succ k =>
      obtain ⟨m, hm⟩ : ∃ m, min (k + 1) 9 = m + 1 := ⟨min k 8, by omega⟩
      rw [hm, showS_44, if_neg (by omega)]
set_option maxRecDepth 100000 in
set_option maxHeartbeats 8000000 in
theorem capsShows_core (L : LibOk) (c : Cp) (n k : Nat) (hk : k < 12) (hn : (n : Int) % 12 = (k : Int)) (hn2 : n < 256) (X Y : ByteArray) (hP : ShP k X Y)
    (HX : Hid (∀ w, PowOk w → Calls Tryd.prog 15 #[.agg (cpC c), .int .i64 (k : Int)] w fun e w' => e = .returned (.string X) ∧ Below w.heap.size w w'))
    (HY : Hid (∀ w, PowOk w → Calls Tryd.prog 15 #[.agg (cpC c), .int .i64 ((k : Int) + 1)] w fun e w' => e = .returned (.string Y) ∧ Below w.heap.size w w'))
    (HN : Hid (∀ w, PowOk w → Calls Tryd.prog 15 #[.agg (cpC c), .int .i64 (-(k : Int))] w fun e w' => e = .returned (.string ⟨#[]⟩) ∧ Below w.heap.size w w'))
    (w : World) (hw : PowOk w) :
    Calls Tryd.prog 7 #[.agg (cpC c), .int .u8 (n : Int)] w fun e w' => e = .returned (.bool true) ∧ Below w.heap.size w w' := by
  have HF := Lib.hid (fun w h => fixed_any L w h)
  have HB0 := Lib.hid (show CBx c w (w.alloc (.cells (cpC c) 26)) from ⟨(Below.refl w.heap.size w).alloc (Nat.le_refl _) _, BoxV.new w _, hw.call ((Below.refl w.heap.size w).alloc (Nat.le_refl _) _)⟩)
  have HP := Lib.hid hP
  have sx := hP.sx
  have sy := hP.sy
  have sle := hP.le
  have HNN := Lib.hid hn
  clear hP hw L hn
  go_enter Tryd.func7, Tryd.ntmps7
  go_wp2_with fail
  rw [HNN.out]
  have HS1 := Lib.hid (HB0.out.call (Below.refl _ _).drew)
  refine wp_region_held_drew (S := fun u => CBx c w u) (by kernel_rfl) (show _ from HS1.out) (fun hS => ?_)
  clear HS1
  generalize World.drew _ = v0 at hS ⊢
  refine takeAt 0 13 (.agg (cpC c)) rfl rfl (by kernel_rfl) (by kernel_rfl) (by kernel_rfl) (fun _ _ _ h => h) (loadC_y w.heap.size c (fun _ h => h.2.1) rfl rfl (by rfl)) hS ?_
  simp only [Act.put, List.setIfInBounds_toArray, List.set_cons_zero, List.set_cons_succ]
  refine takeAt 1 14 (.int .i64 (k : Int)) rfl rfl (by kernel_rfl) (by kernel_rfl) (by kernel_rfl) (fun _ _ _ h => h) (yields (by rfl) (fun w => by kernel_rfl)) hS ?_
  simp only [Act.put, List.setIfInBounds_toArray, List.set_cons_zero, List.set_cons_succ]
  refine takeAt 3 16 (.agg (cpC c)) rfl rfl (by kernel_rfl) (by kernel_rfl) (by kernel_rfl) (fun _ _ _ h => h) (loadC_y w.heap.size c (fun _ h => h.2.1) rfl rfl (by rfl)) hS ?_
  simp only [Act.put, List.setIfInBounds_toArray, List.set_cons_zero, List.set_cons_succ]
  refine takeAt 4 17 (.int .i64 (k : Int)) rfl rfl (by kernel_rfl) (by kernel_rfl) (by kernel_rfl) (fun _ _ _ h => h) (yields (by rfl) (fun w => by kernel_rfl)) hS ?_
  simp only [Act.put, List.setIfInBounds_toArray, List.set_cons_zero, List.set_cons_succ]
  refine takeAt 5 18 (.int .i64 ((k : Int) + 1)) rfl rfl (by kernel_rfl) (by kernel_rfl) (by kernel_rfl) (fun _ _ _ h => h) (addI_y (k : Int) 1 (IntWalk.i64_in _ (by omega)) rfl rfl rfl (by rfl)) hS ?_
  simp only [Act.put, List.setIfInBounds_toArray, List.set_cons_zero, List.set_cons_succ]
  refine callAt 2 15 rfl rfl (by kernel_rfl) (by rfl) (by kernel_rfl) (HX.out _ hS.2.2) ?_
  rintro e v1 ⟨rfl, hb⟩
  have hS := hS.call hb
  clear hb
  refine ⟨_, rfl, hS, ?_⟩
  simp only [Act.put, List.setIfInBounds_toArray, List.set_cons_zero, List.set_cons_succ]
  refine callAt 6 19 rfl rfl (by kernel_rfl) (by rfl) (by kernel_rfl) (HY.out _ hS.2.2) ?_
  rintro e v2 ⟨rfl, hb⟩
  have hS := hS.call hb
  clear hb
  refine ⟨_, rfl, hS, ?_⟩
  simp only [Act.put, List.setIfInBounds_toArray, List.set_cons_zero, List.set_cons_succ]
  refine takeAt 7 6 (.string X) rfl rfl (by kernel_rfl) (by kernel_rfl) (by kernel_rfl) (fun _ _ _ h => h) (yields (by rfl) (fun w => by kernel_rfl)) hS ?_
  simp only [Act.put, List.setIfInBounds_toArray, List.set_cons_zero, List.set_cons_succ]
  refine takeAt 8 7 (.string Y) rfl rfl (by kernel_rfl) (by kernel_rfl) (by kernel_rfl) (fun _ _ _ h => h) (yields (by rfl) (fun w => by kernel_rfl)) hS ?_
  simp only [Act.put, List.setIfInBounds_toArray, List.set_cons_zero, List.set_cons_succ]
  refine wpAnyH_done (by kernel_rfl) ?_ _
  have HS := Lib.hid hS
  clear hS HX HY HB0
  go_wp2_with fail
  go_loop [8, 9] (fun p i => ∃ j : Nat, j ≤ X.size ∧ i = .int .i64 (j : Int) ∧ p = .int .i64 ((cntC X j : Nat) : Int)) (fun _ i => X.size - (intOf i).toNat)
  case atStart => exact ⟨0, Nat.zero_le _, rfl, rfl⟩
  case round =>
    obtain ⟨j, hj, rfl, rfl⟩ := hrel
    have hle := cntC_le X j
    by_cases hlt : j < X.size
    · have hsu := Lib.hid (cntC_succ X j hlt)
      by_cases h44 : X[j].toNat = 44
      · have h1 := Lib.hid (show cntC X (j + 1) = cntC X j + 1 by rw [hsu.out, if_pos h44])
        have q : ((X[j].toNat : Int) == 44) = true := by rw [h44]; rfl
        clear h44 hsu
        go_wp2_with fail
        go_round
        case rel => exact ⟨j + 1, by omega, by go_num, by rw [h1.out]; go_num⟩
        case measure => simp [intOf]; omega
      · have h1 := Lib.hid (show cntC X (j + 1) = cntC X j by rw [hsu.out, if_neg h44]; rfl)
        have q : ((X[j].toNat : Int) == 44) = false := by rw [beq_eq_false_iff_ne]; omega
        clear h44 hsu
        go_wp2_with fail
        go_round
        case rel => exact ⟨j + 1, by omega, by go_num, by rw [h1.out]⟩
        case measure => simp [intOf]; omega
    · have hje : j = X.size := by omega
      subst hje
      have hcnt := HP.out.cnt
      have hemp := HP.out.emp
      have hpre := HP.out.pre
      generalize cntC X X.size = N at hle hcnt ⊢
      have HSA := Lib.hid HP.out.same
      clear hlt HP hS HNN
      rcases Nat.lt_or_ge k 1 with h0 | h0
      · have hq : ((N : Int) != (k : Int)) = false := by rw [if_pos (by omega)] at hcnt; rw [bne_eq_false_iff_eq]; omega
        rw [decide_eq_true (by omega)] at hemp
        clear hcnt
        go_wp2_with (refine loadCg (by rfl) _ rfl w.heap.size c rfl HS.out.2.1 ?_)
        refine (HN.out _ HS.out.2.2).mono ?_
        rintro e w3 ⟨rfl, hb⟩
        replace HS := Lib.hid (HS.out.call hb)
        clear hb
        go_wp2_with fail
        refine (HF.out _ HS.out.2.2).mono ?_
        rintro e w4 ⟨rfl, hb⟩
        replace HS := Lib.hid (HS.out.call hb)
        clear hb
        go_wp2_with fail
        go_ret
        exact ⟨rfl, HS.out.1⟩
      · rw [if_neg (by omega)] at hcnt
        rw [decide_eq_false (by omega)] at hemp
        rcases Nat.lt_or_ge k 9 with h1 | h1
        · have hq : ((N : Int) + 1 != (k : Int)) = false := by rw [bne_eq_false_iff_eq]; omega
          clear hcnt
          go_wp2_with (refine loadCg (by rfl) _ rfl w.heap.size c rfl HS.out.2.1 ?_)
          refine (HN.out _ HS.out.2.2).mono ?_
          rintro e w3 ⟨rfl, hb⟩
          replace HS := Lib.hid (HS.out.call hb)
          clear hb
          go_wp2_with fail
          refine (HF.out _ HS.out.2.2).mono ?_
          rintro e w4 ⟨rfl, hb⟩
          replace HS := Lib.hid (HS.out.call hb)
          clear hb
          go_wp2_with fail
          go_ret
          exact ⟨rfl, HS.out.1⟩
        · have hq : ((N : Int) + 1 != 9) = false := by rw [bne_eq_false_iff_eq]; omega
          obtain rfl := HSA.out h1
          have hq9 : decide ((k : Int) < 9) = false := decide_eq_false (by omega)
          have hq2 : ((N : Int) + 1 != (k : Int)) = decide (9 < k) := by
            by_cases h9 : 9 < k
            · rw [decide_eq_true h9, bne_iff_ne]; omega
            · rw [decide_eq_false h9, bne_eq_false_iff_eq]; omega
          have hor : 9 < k ∨ k ≤ 9 := by omega
          clear hcnt HSA
          rcases hor with h9 | h9
          all_goals
           first
           | rw [decide_eq_true h9] at hq2
           | rw [decide_eq_false (by omega)] at hq2
           go_wp2_with (refine loadCg (by rfl) _ rfl w.heap.size c rfl HS.out.2.1 ?_)
           refine (HN.out _ HS.out.2.2).mono ?_
           rintro e w3 ⟨rfl, hb⟩
           replace HS := Lib.hid (HS.out.call hb)
           clear hb
           go_wp2_with fail
           refine (HF.out _ HS.out.2.2).mono ?_
           rintro e w4 ⟨rfl, hb⟩
           replace HS := Lib.hid (HS.out.call hb)
           clear hb
           go_wp2_with fail
           go_ret
           exact ⟨rfl, HS.out.1⟩
theorem capsShows_any (L : LibOk) (c : Cp) (hc : c.fits) (n : Nat) (hn : n < 256) (w : World) (hw : PowOk w) :
    Calls Tryd.prog 7 #[.agg (cpC c), .int .u8 (n : Int)] w fun e w' => e = .returned (.bool true) ∧ Below w.heap.size w w' := by
  have hk : n % 12 < 12 := Nat.mod_lt _ (by decide)
  refine capsShows_core L c n (n % 12) hk (by omega) hn _ _ (shp c hc (n % 12) hk) (Lib.hid fun w h => ?_) (Lib.hid fun w h => ?_) (Lib.hid fun w h => ?_) w hw
  · exact shows_any L c hc _ _ (by omega) (by omega) w h
  · exact shows_any L c hc _ _ (by omega) (by omega) w h
  · exact shows_any L c hc _ 0 (by omega) (by omega) w h
end Go.Proofs.YtnapbmdbeihngaaDoor
