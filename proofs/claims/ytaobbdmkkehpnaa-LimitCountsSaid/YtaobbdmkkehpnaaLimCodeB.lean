/-
  What the landed package limit does: Kind, Right, Least.
-/
import Derived.Test.YtaobbdmkkehpnaaLimCode
namespace Go.Proofs.Ytaobbdmkkehpnaa
open Go.RowKit

theorem kind_nan (x : Nat) (w : World) (hn : nanW x = true)  : Calls Try.prog 12 #[.float .f64 x] w fun e w' => e = .returned (.int .i64 0) ∧ w = w' := by
  have c0 := fun w => isnan_any x true hn w
  clear hn
  go_enter Try.func12, Try.ntmps12
  go_wp2_with fail
  refine (c0 _).mono ?_
  rintro e w1 ⟨rfl, rfl⟩
  go_wp2_with fail
  go_ret
  exact ⟨rfl, rfl⟩
theorem kind_ninf (x : Nat) (w : World) (hx : x < 18446744073709551616) (hn : nanW x = false) (hg : negW x = true) (hr : rungW x = 9218868437227405312) : Calls Try.prog 12 #[.float .f64 x] w fun e w' => e = .returned (.int .i64 1) ∧ w = w' := by
  have c0 := fun w => isnan_any x false hn w
  have c1 := fun w => isninf_any x hx true (by rw [hn, hg, hr]; rfl) w
  clear hn hx hg hr
  go_enter Try.func12, Try.ntmps12
  go_wp2_with fail
  refine (c0 _).mono ?_
  rintro e w1 ⟨rfl, rfl⟩
  go_wp2_with fail
  refine (c1 _).mono ?_
  rintro e w1 ⟨rfl, rfl⟩
  go_wp2_with fail
  go_ret
  exact ⟨rfl, rfl⟩
theorem kind_neg (x : Nat) (w : World) (hx : x < 18446744073709551616) (hn : nanW x = false) (hg : negW x = true) (hr : rungW x ≠ 9218868437227405312) (h0 : rungW x ≠ 0) : Calls Try.prog 12 #[.float .f64 x] w fun e w' => e = .returned (.int .i64 2) ∧ w = w' := by
  have c0 := fun w => isnan_any x false hn w
  have c1 := fun w => isninf_any x hx false (by rw [hn, hg]; simp [hr]) w
  have ol : (FloatKind.f64.format.order x 0 == some .lt) = true := by rw [order_below x hn, hg]; simp [h0]
  have oz : (FloatKind.f64.format.order x 0 == some .eq) = false := by rw [order_zero x hn]; simp [h0]
  clear hn hx hg hr h0
  go_enter Try.func12, Try.ntmps12
  go_wp2_with fail
  refine (c0 _).mono ?_
  rintro e w1 ⟨rfl, rfl⟩
  go_wp2_with fail
  refine (c1 _).mono ?_
  rintro e w1 ⟨rfl, rfl⟩
  go_wp2_with fail
  go_ret
  exact ⟨rfl, rfl⟩
theorem kind_nzero (x : Nat) (w : World) (hx : x < 18446744073709551616) (hn : nanW x = false) (hg : negW x = true) (hr : rungW x = 0) : Calls Try.prog 12 #[.float .f64 x] w fun e w' => e = .returned (.int .i64 3) ∧ w = w' := by
  have c0 := fun w => isnan_any x false hn w
  have c1 := fun w => isninf_any x hx false (by rw [hn, hg, hr]; rfl) w
  have c2 := fun w => signbit_any x hx true hg w
  have ol : (FloatKind.f64.format.order x 0 == some .lt) = false := by rw [order_below x hn, hg, hr]; rfl
  have oz : (FloatKind.f64.format.order x 0 == some .eq) = true := by rw [order_zero x hn, hr]; rfl
  clear hn hx hg hr
  go_enter Try.func12, Try.ntmps12
  go_wp2_with fail
  refine (c0 _).mono ?_
  rintro e w1 ⟨rfl, rfl⟩
  go_wp2_with fail
  refine (c1 _).mono ?_
  rintro e w1 ⟨rfl, rfl⟩
  go_wp2_with fail
  refine (c2 _).mono ?_
  rintro e w1 ⟨rfl, rfl⟩
  go_wp2_with fail
  go_ret
  exact ⟨rfl, rfl⟩
theorem kind_zero (x : Nat) (w : World) (hx : x < 18446744073709551616) (hn : nanW x = false) (hg : negW x = false) (hr : rungW x = 0) : Calls Try.prog 12 #[.float .f64 x] w fun e w' => e = .returned (.int .i64 4) ∧ w = w' := by
  have c0 := fun w => isnan_any x false hn w
  have c1 := fun w => isninf_any x hx false (by rw [hn, hg, hr]; rfl) w
  have c2 := fun w => signbit_any x hx false hg w
  have ol : (FloatKind.f64.format.order x 0 == some .lt) = false := by rw [order_below x hn, hg, hr]; rfl
  have oz : (FloatKind.f64.format.order x 0 == some .eq) = true := by rw [order_zero x hn, hr]; rfl
  clear hn hx hg hr
  go_enter Try.func12, Try.ntmps12
  go_wp2_with fail
  refine (c0 _).mono ?_
  rintro e w1 ⟨rfl, rfl⟩
  go_wp2_with fail
  refine (c1 _).mono ?_
  rintro e w1 ⟨rfl, rfl⟩
  go_wp2_with fail
  refine (c2 _).mono ?_
  rintro e w1 ⟨rfl, rfl⟩
  go_wp2_with fail
  go_ret
  exact ⟨rfl, rfl⟩
theorem kind_inf (x : Nat) (w : World) (hx : x < 18446744073709551616) (hn : nanW x = false) (hg : negW x = false) (hr : rungW x = 9218868437227405312) : Calls Try.prog 12 #[.float .f64 x] w fun e w' => e = .returned (.int .i64 6) ∧ w = w' := by
  have c0 := fun w => isnan_any x false hn w
  have c1 := fun w => isninf_any x hx false (by rw [hn, hg]; rfl) w
  have c2 := fun w => isinf_any x true (by rw [hn, hg, hr]; rfl) w
  have ol : (FloatKind.f64.format.order x 0 == some .lt) = false := by rw [order_below x hn, hg, hr]; rfl
  have oz : (FloatKind.f64.format.order x 0 == some .eq) = false := by rw [order_zero x hn, hr]; rfl
  clear hn hx hg hr
  go_enter Try.func12, Try.ntmps12
  go_wp2_with fail
  refine (c0 _).mono ?_
  rintro e w1 ⟨rfl, rfl⟩
  go_wp2_with fail
  refine (c1 _).mono ?_
  rintro e w1 ⟨rfl, rfl⟩
  go_wp2_with fail
  refine (c2 _).mono ?_
  rintro e w1 ⟨rfl, rfl⟩
  go_wp2_with fail
  go_ret
  exact ⟨rfl, rfl⟩
theorem kind_pos (x : Nat) (w : World) (hx : x < 18446744073709551616) (hn : nanW x = false) (hg : negW x = false) (hr : rungW x ≠ 9218868437227405312) (h0 : rungW x ≠ 0) : Calls Try.prog 12 #[.float .f64 x] w fun e w' => e = .returned (.int .i64 5) ∧ w = w' := by
  have c0 := fun w => isnan_any x false hn w
  have c1 := fun w => isninf_any x hx false (by rw [hn, hg]; rfl) w
  have c2 := fun w => isinf_any x false (by rw [hn, hg]; simp [hr]) w
  have ol : (FloatKind.f64.format.order x 0 == some .lt) = false := by rw [order_below x hn, hg]; rfl
  have oz : (FloatKind.f64.format.order x 0 == some .eq) = false := by rw [order_zero x hn]; simp [h0]
  clear hn hx hg hr h0
  go_enter Try.func12, Try.ntmps12
  go_wp2_with fail
  refine (c0 _).mono ?_
  rintro e w1 ⟨rfl, rfl⟩
  go_wp2_with fail
  refine (c1 _).mono ?_
  rintro e w1 ⟨rfl, rfl⟩
  go_wp2_with fail
  refine (c2 _).mono ?_
  rintro e w1 ⟨rfl, rfl⟩
  go_wp2_with fail
  go_ret
  exact ⟨rfl, rfl⟩
theorem kind_any (x : Nat) (w : World) (hx : x < 18446744073709551616) : Calls Try.prog 12 #[.float .f64 x] w fun e w' => e = .returned (.int .i64 (kindZ x)) ∧ w = w' := by
  unfold kindZ sizeK
  cases hn : nanW x
  · cases hg : negW x
    · by_cases h0 : rungW x = 0
      · simpa [h0] using kind_zero x w hx hn hg h0
      · by_cases hr : rungW x = 9218868437227405312
        · simpa [hr] using kind_inf x w hx hn hg hr
        · simpa [hr, h0] using kind_pos x w hx hn hg hr h0
    · by_cases h0 : rungW x = 0
      · simpa [h0] using kind_nzero x w hx hn hg h0
      · by_cases hr : rungW x = 9218868437227405312
        · simpa [hr] using kind_ninf x w hx hn hg hr
        · simpa [hr, h0] using kind_neg x w hx hn hg hr h0
  · exact kind_nan x w hn
theorem may_any (x : Nat) (w : World) (hx : x < 18446744073709551616) (b : Bool) (hb : okW x = b) : Calls Try.prog 33 #[.float .f64 x] w fun e w' => e = .returned (.bool b) ∧ w = w' := by
  have ck := fun w => kind_any x w hx
  unfold okW at hb
  generalize kindZ x = k at ck hb
  clear hx
  go_enter Try.func33, Try.ntmps33
  go_wp2_with fail
  refine (ck _).mono ?_
  rintro e w1 ⟨rfl, rfl⟩
  go_wp2_with fail
  go_ret
  exact ⟨rfl, rfl⟩
set_option maxHeartbeats 1000000 in
theorem right_any (a b : Nat) (w : World) (ha : a < 18446744073709551616) (hb : b < 18446744073709551616) :
    Calls Try.prog 14 #[bud a b] w fun e w' => e = .returned (.bool (okW a && okW b)) ∧ Below w.heap.size w w' := by
  cases oa : okW a
  · go_enter Try.func14, Try.ntmps14
    go_wp2_with fail
    refine (may_any a _ ha false oa).mono ?_
    rintro e w1 ⟨rfl, rfl⟩
    go_wp2
    go_ret
    exact ⟨rfl, by go_grown⟩
  · go_enter Try.func14, Try.ntmps14
    go_wp2_with fail
    refine (may_any a _ ha true oa).mono ?_
    rintro e w1 ⟨rfl, rfl⟩
    go_wp2_with fail
    refine (may_any b _ hb _ rfl).mono ?_
    rintro e w1 ⟨rfl, rfl⟩
    go_wp2
    go_ret
    exact ⟨rfl, by go_grown⟩
theorem lesser_any (a b : Nat) (w : World) :
    Calls Try.prog 35 #[.float .f64 a, .float .f64 b] w fun e w' => e = .returned (.float .f64 (lessW a b)) ∧ w = w' := by
  unfold lessW
  by_cases h : FloatKind.f64.format.order b a = some .lt
  · rw [if_pos h]
    have hb : (FloatKind.f64.format.order b a == some .lt) = true := by rw [h]; rfl
    clear h
    go_enter Try.func35, Try.ntmps35
    go_wp2
    go_ret
    exact ⟨rfl, rfl⟩
  · rw [if_neg h]
    have hb : (FloatKind.f64.format.order b a == some .lt) = false := by rw [beq_eq_false_iff_ne]; exact h
    clear h
    go_enter Try.func35, Try.ntmps35
    go_wp2
    go_ret
    exact ⟨rfl, rfl⟩
/-- Two budgets lie in blocks g and h. -/
def TwoL (g h a b c d : Nat) (u : World) : Prop := u.heap[g]? = some (.cells #[.float .f64 a, .float .f64 b] 24 (0, 0)) ∧ u.heap[h]? = some (.cells #[.float .f64 c, .float .f64 d] 24 (0, 0))
theorem twoL_new (w : World) (a b c d : Nat) (o : Obj) : TwoL w.heap.size (w.heap.size + 1) a b c d (((w.alloc (.cells #[.float .f64 a, .float .f64 b] 24)).alloc (.cells #[.float .f64 c, .float .f64 d] 24)).alloc o) := by
  refine ⟨?_, ?_⟩
  · rw [Below.heap_alloc _ _ _ (by simp; omega), Below.heap_alloc _ _ _ (by simp)]
    exact heap_alloc_new _ _
  · rw [Below.heap_alloc _ _ _ (by simp)]
    have h := heap_alloc_new (w.alloc (.cells #[.float .f64 a, .float .f64 b] 24)) (.cells #[.float .f64 c, .float .f64 d] 24)
    simpa using h
theorem TwoL.row {g h a b c d k : Nat} {u : World} (hT : TwoL g h a b c d u) (cs : Array Value) (h1 : g ≠ k) (h2 : h ≠ k) : TwoL g h a b c d (u.setRow k cs) := ⟨(setRow_other u k g cs h1).trans hT.1, (setRow_other u k h cs h2).trans hT.2⟩
theorem infoL : (Try.prog.info? 24).map (·.size) = some 2 := by kernel_rfl

set_option maxHeartbeats 1000000 in
theorem least_any (a b c d : Nat) (w : World) :
    Calls Try.prog 17 #[bud a b, bud c d] w fun e w' => e = .returned (bud (lessW a c) (lessW b d)) ∧ Below w.heap.size w w' := by
  go_enter Try.func17, Try.ntmps17
  go_wp2_with fail
  have hS : TwoL w.heap.size (w.heap.size + 1) a b c d _ := twoL_new w a b c d (.cells #[.float .f64 0, .float .f64 0] 24)
  have hN : (((w.alloc (.cells #[.float .f64 a, .float .f64 b] 24)).alloc (.cells #[.float .f64 c, .float .f64 d] 24)).alloc (.cells #[.float .f64 0, .float .f64 0] 24)).drew.heap[w.heap.size + 1 + 1]? = some (.cells #[.float .f64 0, .float .f64 0] 24 (0, 0)) := by
    have h := heap_alloc_new ((w.alloc (.cells #[.float .f64 a, .float .f64 b] 24)).alloc (.cells #[.float .f64 c, .float .f64 d] 24)) (.cells #[.float .f64 0, .float .f64 0] 24)
    rw [show ((w.alloc (.cells #[.float .f64 a, .float .f64 b] 24)).alloc (.cells #[.float .f64 c, .float .f64 d] 24)).heap.size = w.heap.size + 1 + 1 by simp] at h
    exact h
  have hB : Below w.heap.size w (((w.alloc (.cells #[.float .f64 a, .float .f64 b] 24)).alloc (.cells #[.float .f64 c, .float .f64 d] 24)).alloc (.cells #[.float .f64 0, .float .f64 0] 24)).drew := by go_grown
  refine wp_region_held_drew (S := TwoL w.heap.size (w.heap.size + 1) a b c d) (by kernel_rfl) hS (fun _ => ?_)
  refine takeAt 0 5 (.pointer (some ⟨w.heap.size, 0, none⟩)) rfl rfl (by kernel_rfl) (by kernel_rfl) (by kernel_rfl) (fun _ _ _ h => h) (yields (by rfl) (fun w => by kernel_rfl)) hS ?_
  simp only [Act.put, List.setIfInBounds_toArray, List.set_cons_zero, List.set_cons_succ]
  refine takeAt 1 6 (.float .f64 a) rfl rfl (by kernel_rfl) (by kernel_rfl) (by kernel_rfl) (fun _ _ _ h => h) (loadF_y w.heap.size 0 a _ _ (fun _ h => h.1) rfl rfl rfl (by rfl)) hS ?_
  simp only [Act.put, List.setIfInBounds_toArray, List.set_cons_zero, List.set_cons_succ]
  refine takeAt 2 7 (.pointer (some ⟨w.heap.size + 1, 0, none⟩)) rfl rfl (by kernel_rfl) (by kernel_rfl) (by kernel_rfl) (fun _ _ _ h => h) (yields (by rfl) (fun w => by kernel_rfl)) hS ?_
  simp only [Act.put, List.setIfInBounds_toArray, List.set_cons_zero, List.set_cons_succ]
  refine takeAt 3 8 (.float .f64 c) rfl rfl (by kernel_rfl) (by kernel_rfl) (by kernel_rfl) (fun _ _ _ h => h) (loadF_y (w.heap.size + 1) 0 c _ _ (fun _ h => h.2) rfl rfl rfl (by rfl)) hS ?_
  simp only [Act.put, List.setIfInBounds_toArray, List.set_cons_zero, List.set_cons_succ]
  refine takeAt 5 10 (.pointer (some ⟨w.heap.size, 1, none⟩)) rfl rfl (by kernel_rfl) (by kernel_rfl) (by kernel_rfl) (fun _ _ _ h => h) (yields (by rfl) (fun w => by kernel_rfl)) hS ?_
  simp only [Act.put, List.setIfInBounds_toArray, List.set_cons_zero, List.set_cons_succ]
  refine takeAt 6 11 (.float .f64 b) rfl rfl (by kernel_rfl) (by kernel_rfl) (by kernel_rfl) (fun _ _ _ h => h) (loadF_y w.heap.size 1 b _ _ (fun _ h => h.1) rfl rfl rfl (by rfl)) hS ?_
  simp only [Act.put, List.setIfInBounds_toArray, List.set_cons_zero, List.set_cons_succ]
  refine takeAt 7 12 (.pointer (some ⟨w.heap.size + 1, 1, none⟩)) rfl rfl (by kernel_rfl) (by kernel_rfl) (by kernel_rfl) (fun _ _ _ h => h) (yields (by rfl) (fun w => by kernel_rfl)) hS ?_
  simp only [Act.put, List.setIfInBounds_toArray, List.set_cons_zero, List.set_cons_succ]
  refine takeAt 8 13 (.float .f64 d) rfl rfl (by kernel_rfl) (by kernel_rfl) (by kernel_rfl) (fun _ _ _ h => h) (loadF_y (w.heap.size + 1) 1 d _ _ (fun _ h => h.2) rfl rfl rfl (by rfl)) hS ?_
  simp only [Act.put, List.setIfInBounds_toArray, List.set_cons_zero, List.set_cons_succ]
  refine callAt 4 9 rfl rfl (by kernel_rfl) (by rfl) (by kernel_rfl) (lesser_any a c _) ?_
  rintro e w' ⟨rfl, rfl⟩
  refine ⟨_, rfl, hS, ?_⟩
  simp only [Act.put, List.setIfInBounds_toArray, List.set_cons_zero, List.set_cons_succ]
  refine callAt 9 14 rfl rfl (by kernel_rfl) (by rfl) (by kernel_rfl) (lesser_any b d _) ?_
  rintro e w' ⟨rfl, rfl⟩
  refine ⟨_, rfl, hS, ?_⟩
  simp only [Act.put, List.setIfInBounds_toArray, List.set_cons_zero, List.set_cons_succ]
  refine takeAt 10 15 (bud (lessW a c) (lessW b d)) rfl rfl (by kernel_rfl) (by kernel_rfl) (by kernel_rfl) (fun _ _ _ h => h) (yields (by rfl) (fun w => by kernel_rfl)) hS ?_
  simp only [Act.put, List.setIfInBounds_toArray, List.set_cons_zero, List.set_cons_succ]
  refine rowAt 11 24 (w.heap.size + 1 + 1) _ #[.float .f64 (lessW a c), .float .f64 (lessW b d)] rfl rfl rfl (by kernel_rfl) (by rfl) rfl rfl hN infoL rfl (by simp [Value.oneCell']) (hS.row _ (by omega) (by omega)) ?_
  refine wpAnyH_done (by kernel_rfl) ?_ _
  have HN := Lib.hid (setRow_heap _ (w.heap.size + 1 + 1) _ #[.float .f64 (lessW a c), .float .f64 (lessW b d)] _ _ hN)
  have HB := Lib.hid (below_row hB (g := w.heap.size + 1 + 1) (by omega) #[.float .f64 (lessW a c), .float .f64 (lessW b d)])
  clear hS hN hB
  go_wp2
  exact bodyPost_ret (results_cell_row rfl _ _ (w.heap.size + 1 + 1) _ _ _ _ rfl HN.out Try.underlying24 rfl infoL) rfl ⟨rfl, HB.out⟩
end Go.Proofs.Ytaobbdmkkehpnaa
