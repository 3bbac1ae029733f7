import Derived.Test.YtdnbpbngoiahlaaGreatDoorAstD
import Derived.Test.YtdnbpbngoiahlaaGreatDoorAstH
import Derived.Test.YtdnbpbngoiahlaaGreatDoorAstG
namespace Go.Proofs.YtdnbpbngoiahlaaGreatDoor.Ast
open Go.RowKit
theorem eqNode53 (x y : Nd) (w : World) : (Op.equalIn 10000 65 (ndV x) (ndV y)).run Tryz.prog w = .ok (decide (x = y)) w := by
 have hs : decide (x = y) = decide (x.k = y.k ∧ x.a = y.a ∧ x.b = y.b ∧ (x.s0 = y.s0 ∧ x.s1 = y.s1 ∧ x.s2 = y.s2 ∧ x.s3 = y.s3) ∧ x.mn = y.mn ∧ x.mx = y.mx ∧ x.md = y.md ∧ x.n = y.n ∧ x.f = y.f) := by simp only [Nd.ext_iff' x y]
 rw [hs]
 simp [go_sem]
 rcases Decidable.em (x.k = y.k) with h1 | h1
 ·rcases Decidable.em (x.a = y.a) with h2 | h2
  ·rcases Decidable.em (x.b = y.b) with h3 | h3
   ·rcases Decidable.em (x.s0 = y.s0 ∧ x.s1 = y.s1 ∧ x.s2 = y.s2 ∧ x.s3 = y.s3) with h4 | h4
    ·simp [h1, h2, h3, h4]
     by_cases h5 : x.mn = y.mn <;> by_cases h6 : x.mx = y.mx <;> by_cases h7 : x.md = y.md <;> by_cases h8 : x.n = y.n <;> by_cases h9 : x.f = y.f <;> simp [h5, h6, h7, h8, h9]
    ·have h5 : decide (x.s0 = y.s0 ∧ x.s1 = y.s1 ∧ x.s2 = y.s2 ∧ x.s3 = y.s3) = false := decide_eq_false h4
     have h6 : x.s0 = y.s0 → x.s1 = y.s1 → x.s2 = y.s2 → ¬x.s3 = y.s3 := fun a b c d => h4 ⟨a, b, c, d⟩
     rw [if_pos h1, if_pos h2, if_pos h3, if_pos h6]
     simp only [Bool.decide_and] at h5
     rw [h5]
     simp
   ·simp [h1, h2, h3]
  ·simp [h1, h2]
 ·simp [h1]
@[go_sem 10000] theorem neqNode53 (k a b s0 s1 s2 s3 mn mx md n k' a' b' s0' s1' s2' s3' mn' mx' md' n' : Int) (f f' : Bool) (w : World) :
  (binOp .neq 65 (.agg #[.int .i64 k, .int .i64 a, .int .i64 b, .int .u64 s0, .int .u64 s1, .int .u64 s2, .int .u64 s3, .int .i64 mn, .int .i64 mx, .int .i64 md, .int .i64 n, .bool f]) (.agg #[.int .i64 k', .int .i64 a', .int .i64 b', .int .u64 s0', .int .u64 s1', .int .u64 s2', .int .u64 s3', .int .i64 mn', .int .i64 mx', .int .i64 md', .int .i64 n', .bool f'])).run Tryz.prog w =
   .ok (.bool (!eqN ⟨k, a, b, s0, s1, s2, s3, mn, mx, md, n, f⟩ ⟨k', a', b', s0', s1', s2', s3', mn', mx', md', n', f'⟩)) w := by
 rw [run_neq_struct]
 have h := eqNode53 ⟨k, a, b, s0, s1, s2, s3, mn, mx, md, n, f⟩ ⟨k', a', b', s0', s1', s2', s3', mn', mx', md', n', f'⟩ w
 rw [h]
 rfl
def sameB (l l' : Nat → Nd) : Nat → Bool
 | 0 => true
 | k + 1 => sameB l l' k && eqN (l k) (l' k)
def sameZ (l : Nat → Nd) (n : Nat) (l' : Nat → Nd) (n' : Nat) : Bool := decide (n = n') && sameB l l' n
theorem sameB_iff (l l' : Nat → Nd) (n : Nat) : sameB l l' n = true ↔ ∀ i, i < n → l i = l' i := by
 induction n with
 | zero => exact ⟨fun _ i _h => by omega, fun _ => rfl⟩
 | succ n ih =>
   unfold sameB eqN
   rw [Bool.and_eq_true, ih, decide_eq_true_eq]
   constructor
   ·rintro ⟨h1, h2⟩ i hi
    by_cases e : i = n
    ·subst e; exact h2
    ·exact h1 i (by omega)
   ·intro h
    exact ⟨fun i hi => h i (by omega), h n (by omega)⟩
theorem same_no {l l' : Nat → Nd} {k n : Nat} (_h : sameB l l' k = true) (hk : k < n) (he : eqN (l k) (l' k) = false) : sameB l l' n = false := by
 cases hh : sameB l l' n with
 | false => rfl
 | true =>
   have := (sameB_iff l l' n).1 hh k hk
   unfold eqN at he
   simp [this] at he
set_option maxHeartbeats 2000000 in
theorem equal_any (A A' : Option Addr) (n n' cap cap' : Nat) (l l' : Nat → Nd) (w : World) (hn : n ≤ 1000000) (hn' : n' ≤ 1000000) (hl : Nodes w A n l) (hl' : Nodes w A' n' l') :
  Calls Tryz.prog 37 #[.slice A n cap, .slice A' n' cap'] w fun e w' => e = .returned (.bool (sameZ l n l' n')) ∧ ∃ q, w' = w.drewN q := by
 have HL := Lib.hid hl
 have HL' := Lib.hid hl'
 clear hl hl'
 by_cases hnn : n = n'
 ·subst hnn
  have HV := Lib.hid (show sameZ l n l' n = sameB l l' n by unfold sameZ; simp)
  go_enter Tryz.func37, Tryz.ntmps37
  go_wp2_with fail
  go_loopw [13] (fun i wr => ∃ k q : Nat, k ≤ n ∧ i = .int .i64 k ∧ sameB l l' k = true ∧ wr = w.drewN q) (fun i _ => n - (intOf i).toNat)
  case atStart => exact ⟨0, 0, Nat.zero_le _, rfl, rfl, rfl⟩
  case round =>
   obtain ⟨k, q, hk, rfl, hsame, rfl⟩ := hrel
   have HU := Lib.hid hsame
   clear hsame
   by_cases hlt : k < n
   ·obtain ⟨b, o, rfl, hx⟩ := HL.out.at_ (by omega)
    obtain ⟨b', o', rfl, hx'⟩ := HL'.out.at_ (by omega)
    obtain ⟨c0, c1, c2, c3, c4, c5, c6, c7, c8, c9, c10, c11⟩ := hx.2 k hlt
    obtain ⟨d0, d1, d2, d3, d4, d5, d6, d7, d8, d9, d10, d11⟩ := hx'.2 k hlt
    have k0 : (0 : Int) ≤ (k : Int) := by omega
    have k1 : (k : Int) < (n : Int) := by omega
    clear hx hx'
    cases he : eqN (l k) (l' k) with
    | true =>
      have HZ := Lib.hid (show sameB l l' (k + 1) = true by show (sameB l l' k && eqN (l k) (l' k)) = true; rw [HU.out, he]; rfl)
      go_wp2_with fail
      go_quiet (fail)
      go_wp2_with fail
      go_roundw
      case rel => exact ⟨k + 1, _, by omega, by go_num, HZ.out, rfl⟩
      case measure => simp [intOf]; omega
    | false =>
      have HZ := Lib.hid (same_no HU.out hlt he)
      go_wp2_with fail
      go_quiet (fail)
      go_wp2_with fail
      go_ret
      exact ⟨by rw [HV.out, HZ.out]; rfl, _, by rw [World.drewN_drewN]⟩
   ·obtain rfl : n = k := by omega
    go_wp2_with fail
    go_ret
    exact ⟨by rw [HV.out, HU.out]; rfl, _, rfl⟩
 ·have HV := Lib.hid (show sameZ l n l' n' = false by unfold sameZ; simp [hnn])
  have q1 : ((n : Int) != (n' : Int)) = true := by simp; omega
  have q2 : ((n : Int) == (n' : Int)) = false := by simp; omega
  have q3 : (n == n') = false := by simpa using hnn
  go_enter Tryz.func37, Tryz.ntmps37
  go_wp2_with fail
  go_ret
  exact ⟨by rw [HV.out]; rfl, 0, rfl⟩
set_option maxHeartbeats 2000000 in
theorem rsame_any (A A' : Option Addr) (n n' cap cap' : Nat) (l l' : Nat → Nd) (w : World) (hn : n ≤ 1000000) (hn' : n' ≤ 1000000) (hl : Nodes w A n l) (hl' : Nodes w A' n' l') :
  Calls Tryz.prog 12 #[.slice A n cap, .slice A' n' cap'] w fun e w' => e = .returned (.bool (sameZ l n l' n')) ∧ ∃ q, w' = w.drewN q := by
 have HL := Lib.hid hl
 have HL' := Lib.hid hl'
 clear hl hl'
 by_cases hnn : n = n'
 ·subst hnn
  have HV := Lib.hid (show sameZ l n l' n = sameB l l' n by unfold sameZ; simp)
  go_enter Tryz.func12, Tryz.ntmps12
  go_wp2_with fail
  go_loopw [5] (fun i wr => ∃ k q : Nat, k ≤ n ∧ i = .int .i64 k ∧ sameB l l' k = true ∧ wr = w.drewN q) (fun i _ => n - (intOf i).toNat)
  case atStart => exact ⟨0, 0, Nat.zero_le _, rfl, rfl, rfl⟩
  case round =>
   obtain ⟨k, q, hk, rfl, hsame, rfl⟩ := hrel
   have HU := Lib.hid hsame
   clear hsame
   by_cases hlt : k < n
   ·obtain ⟨b, o, rfl, hx⟩ := HL.out.at_ (by omega)
    obtain ⟨b', o', rfl, hx'⟩ := HL'.out.at_ (by omega)
    obtain ⟨c0, c1, c2, c3, c4, c5, c6, c7, c8, c9, c10, c11⟩ := hx.2 k hlt
    obtain ⟨d0, d1, d2, d3, d4, d5, d6, d7, d8, d9, d10, d11⟩ := hx'.2 k hlt
    have k0 : (0 : Int) ≤ (k : Int) := by omega
    have k1 : (k : Int) < (n : Int) := by omega
    clear hx hx'
    cases he : eqN (l k) (l' k) with
    | true =>
      have HZ := Lib.hid (show sameB l l' (k + 1) = true by show (sameB l l' k && eqN (l k) (l' k)) = true; rw [HU.out, he]; rfl)
      go_wp2_with fail
      go_quiet (fail)
      go_wp2_with fail
      go_roundw
      case rel => exact ⟨k + 1, _, by omega, by go_num, HZ.out, rfl⟩
      case measure => simp [intOf]; omega
    | false =>
      have HZ := Lib.hid (same_no HU.out hlt he)
      go_wp2_with fail
      go_quiet (fail)
      go_wp2_with fail
      go_ret
      exact ⟨by rw [HV.out, HZ.out]; rfl, _, by rw [World.drewN_drewN]⟩
   ·obtain rfl : n = k := by omega
    go_wp2_with fail
    go_ret
    exact ⟨by rw [HV.out, HU.out]; rfl, _, rfl⟩
 ·have HV := Lib.hid (show sameZ l n l' n' = false by unfold sameZ; simp [hnn])
  have q1 : ((n : Int) != (n' : Int)) = true := by simp; omega
  have q2 : ((n : Int) == (n' : Int)) = false := by simp; omega
  have q3 : (n == n') = false := by simpa using hnn
  go_enter Tryz.func12, Tryz.ntmps12
  go_wp2_with fail
  go_ret
  exact ⟨by rw [HV.out]; rfl, 0, rfl⟩
set_option maxHeartbeats 1000000 in
theorem same_any (A A' : Option Addr) (n n' cap cap' : Nat) (l l' : Nat → Nd) (w : World) (hn : n ≤ 1000000) (hn' : n' ≤ 1000000) (hl : Nodes w A n l) (hl' : Nodes w A' n' l') :
  Calls Tryz.prog 17 #[.agg #[.slice A n cap], .agg #[.slice A' n' cap']] w fun e w' => e = .returned (.bool (sameZ l n l' n')) ∧ Below w.heap.size w w' := by
 have HL := Lib.hid hl
 have HL' := Lib.hid hl'
 clear hl hl'
 go_enter Tryz.func17, Tryz.ntmps17
 go_wp2_with fail
 refine (equal_any A A' n n' cap cap' l l' _ hn hn' (HL.out.below (B := w.heap.size) (by go_grown) (Nat.le_refl _)) (HL'.out.below (B := w.heap.size) (by go_grown) (Nat.le_refl _))).mono ?_
 rintro e w1 ⟨rfl, q, rfl⟩
 go_wp2_with fail
 go_ret
 exact ⟨rfl, below_drewN (by go_grown) _⟩
end Go.Proofs.YtdnbpbngoiahlaaGreatDoor.Ast
namespace Go.Proofs.YtdnbpbngoiahlaaGreatDoor.Ast
open Go.RowKit
def Sh (l' : Nat → Nd) (c : Nat) (l : Nat → Nd) (m : Nat) : Prop := ∀ i, i < m → siz l (i + 1) ≠ 0 →
 l' (c + i) = { l i with a := if kidsZ (l i).k = 0 then (l i).a else (l i).a + (c : Int), b := if kidsZ (l i).k = 2 then (l i).b + (c : Int) else (l i).b }
theorem sh_join_a (la lb : Nat → Nd) (n m : Nat) (kind : Int) : Sh (joinL la n lb m kind) 0 la n := by
 intro i hi _
 rw [Nat.zero_add, join_a la n lb m kind hi]
 obtain ⟨k, a, b, s0, s1, s2, s3, mn, mx, md, nn, f⟩ := la i
 simp
theorem sh_wrap (l : Nat → Nd) (n : Nat) (x : Nd) : Sh (wrapL l n x) 0 l n := by
 intro i hi _
 rw [Nat.zero_add, wrapL, if_pos hi]
 obtain ⟨k, a, b, s0, s1, s2, s3, mn, mx, md, nn, f⟩ := l i
 simp
theorem wr_id {x : Int} (h : -4611686018427387904 ≤ x) (h' : x ≤ 4611686018427387903) : wrap64 x = x := by rw [wrap64]; omega
theorem sh_join_b (la lb : Nat → Nd) (n m : Nat) (kind : Int) (hn : n ≤ 1000000) (hm : m ≤ 1000000) : Sh (joinL la n lb m kind) n lb m := by
 intro i hi hs
 rw [join_b la n lb m kind hi]
 have hle := siz_le lb i
 obtain ⟨_, ⟨hk, ha, hb, _⟩ | ⟨hk, _, ha, hb, _⟩ | ⟨hk, _, _, ha, hb, _⟩⟩ := siz_pos hs
 ·unfold mvN
  rw [if_neg (by omega), if_neg (by omega), if_pos hk, if_neg (by omega)]
 ·unfold mvN
  rw [if_neg (by omega), if_pos hk, if_neg (by omega), if_neg (by omega), wr_id (x := (lb i).a + (n : Int)) (by omega) (by omega)]
 ·unfold mvN
  rw [if_pos hk, if_neg (by omega), if_pos hk, wr_id (x := (lb i).a + (n : Int)) (by omega) (by omega), wr_id (x := (lb i).b + (n : Int)) (by omega) (by omega)]
theorem sh_siz {l' l : Nat → Nd} {c m : Nat} (h : Sh l' c l m) : ∀ j, j ≤ m → siz l j ≠ 0 → siz l' (c + j) = siz l j := by
 intro j
 induction j using Nat.strongRecOn with
 | _ j ih =>
   intro hj hs
   cases j with
   | zero => exact absurd (siz_zero l) hs
   | succ k =>
     have hx := h k (by omega) hs
     have hle := siz_le l k
     obtain ⟨hf, ⟨hk, ha, hb, he⟩ | ⟨hk, h0, ha, hb, he⟩ | ⟨hk, h0, h1, ha, hb, he⟩⟩ := siz_pos hs
     ·rw [hk, if_pos rfl, if_neg (by decide)] at hx
      have hf' : fitsB (l' (c + k)) = true := by rw [hx]; exact hf
      have hk' : kidsZ (l' (c + k)).k = 0 := by rw [hx]; exact hk
      have ha' : (l' (c + k)).a = 0 := by rw [hx]; exact ha
      have hb' : (l' (c + k)).b = 0 := by rw [hx]; exact hb
      rw [show c + (k + 1) = c + k + 1 by omega, siz_succ, if_pos hf', if_pos hk', if_pos ⟨ha', hb'⟩, he]
     ·rw [hk, if_neg (by decide), if_neg (by decide)] at hx
      have hf' : fitsB (l' (c + k)) = true := by rw [hx]; exact hf
      have hk' : kidsZ (l' (c + k)).k = 1 := by rw [hx]; exact hk
      have ha' : (l' (c + k)).a = (l k).a + c := by rw [hx]
      have hb' : (l' (c + k)).b = 0 := by rw [hx]; exact hb
      have h2 := ih k (by omega) (by omega) h0
      rw [show c + (k + 1) = c + k + 1 by omega, siz_succ, if_pos hf', if_neg (by omega), h2, if_neg h0, if_pos hk', if_pos ⟨by omega, hb'⟩, he]
     ·rw [hk, if_neg (by decide), if_pos rfl] at hx
      have hf' : fitsB (l' (c + k)) = true := by rw [hx]; exact hf
      have hk' : kidsZ (l' (c + k)).k = 2 := by rw [hx]; exact hk
      have ha' : (l' (c + k)).a = (l k).a + c := by rw [hx]
      have hb' : (l' (c + k)).b = (l k).b + c := by rw [hx]
      have h2 := ih k (by omega) (by omega) h0
      have h3 := ih (k - siz l k) (by omega) (by omega) h1
      rw [show c + (k + 1) = c + k + 1 by omega, siz_succ, if_pos hf', if_neg (by omega), h2, if_neg h0, if_neg (by omega), show c + k - siz l k = c + (k - siz l k) by omega, h3, if_neg h1, if_pos ⟨by omega, by omega⟩, he]
theorem sh_fold {α : Type} {l' l : Nat → Nd} {c m : Nat} (h : Sh l' c l m) (z : α) (g0 g0' : Nat → α) (g1 g1' : Nat → α → α) (g2 g2' : Nat → α → α → α)
  (e0 : ∀ i, i < m → siz l (i + 1) ≠ 0 → g0' (c + i) = g0 i) (e1 : ∀ i x, i < m → siz l (i + 1) ≠ 0 → g1' (c + i) x = g1 i x) (e2 : ∀ i x y, i < m → siz l (i + 1) ≠ 0 → g2' (c + i) x y = g2 i x y) :
  ∀ j, j ≤ m → siz l j ≠ 0 → foldT l' z g0' g1' g2' (c + j) = foldT l z g0 g1 g2 j := by
 intro j
 induction j using Nat.strongRecOn with
 | _ j ih =>
   intro hj hs
   cases j with
   | zero => exact absurd (siz_zero l) hs
   | succ k =>
     have hx := h k (by omega) hs
     have hk' : (l' (c + k)).k = (l k).k := by rw [hx]
     rw [show c + (k + 1) = c + k + 1 by omega, foldT_succ, foldT_succ, hk']
     obtain ⟨hf, ⟨hk, ha, hb, he⟩ | ⟨hk, h0, ha, hb, he⟩ | ⟨hk, h0, h1, ha, hb, he⟩⟩ := siz_pos hs
     ·rw [hk, if_pos rfl, if_pos rfl, e0 k (by omega) hs]
     ·rw [hk]
      simp only [show ¬ (1 : Int) = 0 by decide, if_false, if_true]
      rw [ih k (by omega) (by omega) h0, e1 k _ (by omega) hs]
     ·have hle := siz_le l k
      rw [hk]
      simp only [show ¬ (2 : Int) = 0 by decide, show ¬ (2 : Int) = 1 by decide, if_false]
      rw [sh_siz h k (by omega) h0, show c + k - siz l k = c + (k - siz l k) by omega, ih k (by omega) (by omega) h0, ih (k - siz l k) (by omega) (by omega) h1, e2 k _ _ (by omega) hs]
theorem sh_dep {l' l : Nat → Nd} {c m : Nat} (h : Sh l' c l m) (j : Nat) (hj : j ≤ m) (hs : siz l j ≠ 0) : dep l' (c + j) = dep l j :=
 sh_fold h 0 _ _ _ _ _ _ (fun _ _ _ => rfl) (fun _ _ _ _ => rfl) (fun _ _ _ _ _ => rfl) j hj hs
theorem join_in {la lb : Nat → Nd} {n m : Nat} {kind : Int} (hk : kind = 8 ∨ kind = 9) (hn : n ≤ 1000) (hm : m ≤ 1000) (h0 : 0 < n) (h1 : 0 < m) (ha : siz la n = n) (hb : siz lb m = m) :
  siz (joinL la n lb m kind) (n + m) = m ∧ siz (joinL la n lb m kind) n = n ∧ siz (joinL la n lb m kind) (n + m + 1) = n + m + 1 := by
 have e1 := sh_siz (sh_join_b la lb n m kind (by omega) (by omega)) m (Nat.le_refl _) (by omega)
 have e2 := sh_siz (sh_join_a la lb n m kind) n (Nat.le_refl _) (by omega)
 rw [Nat.zero_add] at e2
 rw [hb] at e1
 rw [ha] at e2
 refine ⟨e1, e2, ?_⟩
 have ht := join_top la n lb m kind
 rw [if_neg (by omega)] at ht
 have hf : fitsB (joinL la n lb m kind (n + m)) = true := by
  rw [ht]; unfold fitsB; rcases hk with rfl | rfl <;> simp
 have hk2 : kidsZ (joinL la n lb m kind (n + m)).k = 2 := by
  rw [ht]; unfold kidsZ; rcases hk with rfl | rfl <;> simp
 have hA : (joinL la n lb m kind (n + m)).a = (n : Int) - 1 := by rw [ht]
 have hB : (joinL la n lb m kind (n + m)).b = (n : Int) + m - 1 := by rw [ht]
 rw [siz_succ, if_pos hf, if_neg (by omega), e1, if_neg (by omega), if_neg (by omega), show n + m - m = n by omega, e2, if_neg (by omega), if_pos ⟨by omega, by omega⟩]
theorem join_dep {la lb : Nat → Nd} {n m : Nat} {kind : Int} (hk : kind = 8 ∨ kind = 9) (hn : n ≤ 1000) (hm : m ≤ 1000) (h0 : 0 < n) (h1 : 0 < m) (ha : siz la n = n) (hb : siz lb m = m) :
  dep (joinL la n lb m kind) (n + m + 1) = 1 + max (dep la n) (dep lb m) := by
 obtain ⟨e1, e2, -⟩ := join_in hk hn hm h0 h1 ha hb
 have ht := join_top la n lb m kind
 have d1 := sh_dep (sh_join_b la lb n m kind (by omega) (by omega)) m (Nat.le_refl _) (by omega)
 have d2 := sh_dep (sh_join_a la lb n m kind) n (Nat.le_refl _) (by omega)
 rw [Nat.zero_add] at d2
 have hk2 : kidsZ (joinL la n lb m kind (n + m)).k = 2 := by
  rw [ht]; unfold kidsZ; rcases hk with rfl | rfl <;> simp
 rw [dep_succ, hk2, if_neg (by decide), if_neg (by decide), e1, show n + m - m = n by omega, d1, d2]
theorem wrap_top (l : Nat → Nd) (n : Nat) (x : Nd) : wrapL l n x n = { x with a := (n : Int) - 1, b := 0 } := if_neg (Nat.lt_irrefl n)
theorem wrap_in {l : Nat → Nd} {n : Nat} {x : Nd} (hk : kidsZ x.k = 1) (hf : fitsB x = true) (h0 : 0 < n) (h : siz l n = n) :
  siz (wrapL l n x) n = n ∧ siz (wrapL l n x) (n + 1) = n + 1 := by
 have e2 := sh_siz (sh_wrap l n x) n (Nat.le_refl _) (by omega)
 rw [Nat.zero_add, h] at e2
 refine ⟨e2, ?_⟩
 have ht := wrap_top l n x
 have hf' : fitsB (wrapL l n x n) = true := by rw [ht]; exact hf
 have hk2 : kidsZ (wrapL l n x n).k = 1 := by rw [ht]; exact hk
 have hA : (wrapL l n x n).a = (n : Int) - 1 := by rw [ht]
 have hB : (wrapL l n x n).b = 0 := by rw [ht]
 rw [siz_succ, if_pos hf', if_neg (by omega), e2, if_neg (by omega), if_pos hk2, if_pos ⟨by omega, hB⟩]
theorem wrap_dep {l : Nat → Nd} {n : Nat} {x : Nd} (hk : kidsZ x.k = 1) (h0 : 0 < n) (h : siz l n = n) : dep (wrapL l n x) (n + 1) = 1 + dep l n := by
 have d2 := sh_dep (sh_wrap l n x) n (Nat.le_refl _) (by omega)
 rw [Nat.zero_add] at d2
 have hk2 : kidsZ (wrapL l n x n).k = 1 := by rw [wrap_top]; exact hk
 rw [dep_succ, hk2, if_neg (by decide), if_pos rfl, d2]
end Go.Proofs.YtdnbpbngoiahlaaGreatDoor.Ast
namespace Go.Proofs.YtdnbpbngoiahlaaGreatDoor.Ast
end Go.Proofs.YtdnbpbngoiahlaaGreatDoor.Ast
namespace Go.Proofs.YtdnbpbngoiahlaaGreatDoor.Ast
theorem deep_form {l : Nat → Nd} {m : Nat} (h : deepZ l m ≠ 0) : formZ l m = 0 ∧ dep l m = deepZ l m ∧ 0 < m ∧ siz l m = m := by
 have hf : formZ l m = 0 := by
  rcases form_or l m with h1 | h1 | h1
  ·exact h1
  ·exact absurd (deep_0.2 (by omega)) h
  ·exact absurd (deep_0.2 (by omega)) h
 obtain ⟨_, h0, hs⟩ := form_0 hf
 refine ⟨hf, ?_, h0, hs⟩
 unfold deepZ
 rw [if_pos hf]
theorem right_bad {l : Nat → Nd} {m : Nat} (h : deepZ l m = 0) : rightZ l m ≠ 0 := by
 have h1 := deep_0.1 h
 have h2 : shapeZ l m ≠ 0 := by
  intro h3
  exact h1 (shape_0 h3).1
 unfold rightZ
 rw [if_pos h2]
 exact h2
end Go.Proofs.YtdnbpbngoiahlaaGreatDoor.Ast
namespace Go.Proofs.YtdnbpbngoiahlaaGreatDoor.Ast
theorem right_0 {l : Nat → Nd} {n : Nat} (h : rightZ l n = 0) : shapeZ l n = 0 ∧ groupsB l n = true ∧ behB l n = true := by
 unfold rightZ at h
 split at h
 ·omega
 ·rename_i h1
  split at h
  ·omega
  ·rename_i h2
   split at h
   ·omega
   ·rename_i h3
    exact ⟨by omega, by simpa using h2, by simpa using h3⟩
theorem right_deep {l : Nat → Nd} {n : Nat} (h : rightZ l n = 0) : deepZ l n ≠ 0 := by
 intro h0
 exact right_bad h0 h
end Go.Proofs.YtdnbpbngoiahlaaGreatDoor.Ast
