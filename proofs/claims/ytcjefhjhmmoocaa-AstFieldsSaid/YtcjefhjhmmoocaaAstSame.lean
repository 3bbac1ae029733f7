/-
  Layer 5: are two trees the same (slices.Equal, ast.Same, the document's Same)?
-/
import Derived.Test.YtcjefhjhmmoocaaAstBeg
import Derived.Test.YtcjefhjhmmoocaaAstForm
namespace Go.Proofs.Ytcjefhjhmmoocaa
open Go.RowKit

theorem eqNode53 (x y : Nd) (w : World) : (Op.equalIn 10000 53 (ndV x) (ndV y)).run Try.prog w = .ok (decide (x = y)) w := by
  have hs : decide (x = y) = decide (x.k = y.k ∧ x.a = y.a ∧ x.b = y.b ∧ (x.s0 = y.s0 ∧ x.s1 = y.s1 ∧ x.s2 = y.s2 ∧ x.s3 = y.s3) ∧ x.mn = y.mn ∧ x.mx = y.mx ∧ x.md = y.md ∧ x.n = y.n ∧ x.f = y.f) := by simp only [Nd.ext_iff' x y]
  rw [hs]
  simp [go_sem]
  rcases Decidable.em (x.k = y.k) with h1 | h1
  · rcases Decidable.em (x.a = y.a) with h2 | h2
    · rcases Decidable.em (x.b = y.b) with h3 | h3
      · rcases Decidable.em (x.s0 = y.s0 ∧ x.s1 = y.s1 ∧ x.s2 = y.s2 ∧ x.s3 = y.s3) with h4 | h4
        · simp [h1, h2, h3, h4]
          by_cases h5 : x.mn = y.mn <;> by_cases h6 : x.mx = y.mx <;> by_cases h7 : x.md = y.md <;> by_cases h8 : x.n = y.n <;> by_cases h9 : x.f = y.f <;> simp [h5, h6, h7, h8, h9]
        · have h5 : decide (x.s0 = y.s0 ∧ x.s1 = y.s1 ∧ x.s2 = y.s2 ∧ x.s3 = y.s3) = false := decide_eq_false h4
          have h6 : x.s0 = y.s0 → x.s1 = y.s1 → x.s2 = y.s2 → ¬x.s3 = y.s3 := fun a b c d => h4 ⟨a, b, c, d⟩
          rw [if_pos h1, if_pos h2, if_pos h3, if_pos h6]
          simp only [Bool.decide_and] at h5
          rw [h5]
          simp
      · simp [h1, h2, h3]
    · simp [h1, h2]
  · simp [h1]
@[go_sem 10000] theorem neqNode53 (k a b s0 s1 s2 s3 mn mx md n k' a' b' s0' s1' s2' s3' mn' mx' md' n' : Int) (f f' : Bool) (w : World) :
    (binOp .neq 53 (.agg #[.int .i64 k, .int .i64 a, .int .i64 b, .int .u64 s0, .int .u64 s1, .int .u64 s2, .int .u64 s3, .int .i64 mn, .int .i64 mx, .int .i64 md, .int .i64 n, .bool f]) (.agg #[.int .i64 k', .int .i64 a', .int .i64 b', .int .u64 s0', .int .u64 s1', .int .u64 s2', .int .u64 s3', .int .i64 mn', .int .i64 mx', .int .i64 md', .int .i64 n', .bool f'])).run Try.prog w =
      .ok (.bool (!eqN ⟨k, a, b, s0, s1, s2, s3, mn, mx, md, n, f⟩ ⟨k', a', b', s0', s1', s2', s3', mn', mx', md', n', f'⟩)) w := by
  rw [run_neq_struct]
  have h := eqNode53 ⟨k, a, b, s0, s1, s2, s3, mn, mx, md, n, f⟩ ⟨k', a', b', s0', s1', s2', s3', mn', mx', md', n', f'⟩ w
  rw [h]
  rfl

/-- Are the first nodes the same? -/
def sameB (l l' : Nat → Nd) : Nat → Bool
  | 0 => true
  | k + 1 => sameB l l' k && eqN (l k) (l' k)
def sameZ (l : Nat → Nd) (n : Nat) (l' : Nat → Nd) (n' : Nat) : Bool := decide (n = n') && sameB l l' n
theorem sameB_iff (l l' : Nat → Nd) (n : Nat) : sameB l l' n = true ↔ ∀ i, i < n → l i = l' i := by
  induction n with
  | zero => exact ⟨fun _ i _h => by omega, fun _ => rfl⟩
  | succ n ih =>
    unfold sameB eqN
    rw [Bool.and_eq_true, ih, decide_eq_true_eq]
    constructor
    · rintro ⟨h1, h2⟩ i hi
      by_cases e : i = n
      · subst e; exact h2
      · exact h1 i (by omega)
    · intro h
      exact ⟨fun i hi => h i (by omega), h n (by omega)⟩
theorem sameZ_iff (l : Nat → Nd) (n : Nat) (l' : Nat → Nd) (n' : Nat) : sameZ l n l' n' = true ↔ n = n' ∧ ∀ i, i < n → l i = l' i := by
  unfold sameZ
  rw [Bool.and_eq_true, decide_eq_true_eq, sameB_iff]
theorem same_no {l l' : Nat → Nd} {k n : Nat} (_h : sameB l l' k = true) (hk : k < n) (he : eqN (l k) (l' k) = false) : sameB l l' n = false := by
  cases hh : sameB l l' n with
  | false => rfl
  | true =>
    have := (sameB_iff l l' n).1 hh k hk
    unfold eqN at he
    simp [this] at he

set_option maxHeartbeats 2000000 in
theorem equal_any (A A' : Option Addr) (n n' cap cap' : Nat) (l l' : Nat → Nd) (w : World) (hn : n ≤ 1000000) (hn' : n' ≤ 1000000) (hl : Nodes w A n l) (hl' : Nodes w A' n' l') :
    Calls Try.prog 41 #[.slice A n cap, .slice A' n' cap'] w fun e w' => e = .returned (.bool (sameZ l n l' n')) ∧ ∃ q, w' = w.drewN q := by
  have HL := Lib.hid hl
  have HL' := Lib.hid hl'
  clear hl hl'
  by_cases hnn : n = n'
  · subst hnn
    have HV := Lib.hid (show sameZ l n l' n = sameB l l' n by unfold sameZ; simp)
    go_enter Try.func41, Try.ntmps41
    go_wp2_with fail
    go_loopw [13] (fun i wr => ∃ k q : Nat, k ≤ n ∧ i = .int .i64 k ∧ sameB l l' k = true ∧ wr = w.drewN q) (fun i _ => n - (intOf i).toNat)
    case atStart => exact ⟨0, 0, Nat.zero_le _, rfl, rfl, rfl⟩
    case round =>
      obtain ⟨k, q, hk, rfl, hsame, rfl⟩ := hrel
      have HU := Lib.hid hsame
      clear hsame
      by_cases hlt : k < n
      · obtain ⟨b, o, rfl, hx⟩ := HL.out.at_ (by omega)
        obtain ⟨b', o', rfl, hx'⟩ := HL'.out.at_ (by omega)
        obtain ⟨c0, c1, c2, c3, c4, c5, c6, c7, c8, c9, c10, c11⟩ := hx.2 k hlt
        obtain ⟨d0, d1, d2, d3, d4, d5, d6, d7, d8, d9, d10, d11⟩ := hx'.2 k hlt
        have k0 : (0 : Int) ≤ (k : Int) := by omega
        have k1 : (k : Int) < (n : Int) := by omega
        clear hx hx'
        cases he : eqN (l k) (l' k) with
        | true =>
          have HZ := Lib.hid (show sameB l l' (k + 1) = true by show (sameB l l' k && eqN (l k) (l' k)) = true; rw [HU.out, he]; rfl)
          go_wp2_with fail
          go_quiet (fail)
          go_wp2_with fail
          go_roundw
          case rel => exact ⟨k + 1, _, by omega, by go_num, HZ.out, rfl⟩
          case measure => simp [intOf]; omega
        | false =>
          have HZ := Lib.hid (same_no HU.out hlt he)
          go_wp2_with fail
          go_quiet (fail)
          go_wp2_with fail
          go_ret
          exact ⟨by rw [HV.out, HZ.out]; rfl, _, by rw [World.drewN_drewN]⟩
      · obtain rfl : n = k := by omega
        go_wp2_with fail
        go_ret
        exact ⟨by rw [HV.out, HU.out]; rfl, _, rfl⟩
  · have HV := Lib.hid (show sameZ l n l' n' = false by unfold sameZ; simp [hnn])
    have q1 : ((n : Int) != (n' : Int)) = true := by simp; omega
    have q2 : ((n : Int) == (n' : Int)) = false := by simp; omega
    have q3 : (n == n') = false := by simpa using hnn
    go_enter Try.func41, Try.ntmps41
    go_wp2_with fail
    go_ret
    exact ⟨by rw [HV.out]; rfl, 0, rfl⟩
set_option maxHeartbeats 2000000 in
theorem rsame_any (A A' : Option Addr) (n n' cap cap' : Nat) (l l' : Nat → Nd) (w : World) (hn : n ≤ 1000000) (hn' : n' ≤ 1000000) (hl : Nodes w A n l) (hl' : Nodes w A' n' l') :
    Calls Try.prog 23 #[.slice A n cap, .slice A' n' cap'] w fun e w' => e = .returned (.bool (sameZ l n l' n')) ∧ ∃ q, w' = w.drewN q := by
  have HL := Lib.hid hl
  have HL' := Lib.hid hl'
  clear hl hl'
  by_cases hnn : n = n'
  · subst hnn
    have HV := Lib.hid (show sameZ l n l' n = sameB l l' n by unfold sameZ; simp)
    go_enter Try.func23, Try.ntmps23
    go_wp2_with fail
    go_loopw [5] (fun i wr => ∃ k q : Nat, k ≤ n ∧ i = .int .i64 k ∧ sameB l l' k = true ∧ wr = w.drewN q) (fun i _ => n - (intOf i).toNat)
    case atStart => exact ⟨0, 0, Nat.zero_le _, rfl, rfl, rfl⟩
    case round =>
      obtain ⟨k, q, hk, rfl, hsame, rfl⟩ := hrel
      have HU := Lib.hid hsame
      clear hsame
      by_cases hlt : k < n
      · obtain ⟨b, o, rfl, hx⟩ := HL.out.at_ (by omega)
        obtain ⟨b', o', rfl, hx'⟩ := HL'.out.at_ (by omega)
        obtain ⟨c0, c1, c2, c3, c4, c5, c6, c7, c8, c9, c10, c11⟩ := hx.2 k hlt
        obtain ⟨d0, d1, d2, d3, d4, d5, d6, d7, d8, d9, d10, d11⟩ := hx'.2 k hlt
        have k0 : (0 : Int) ≤ (k : Int) := by omega
        have k1 : (k : Int) < (n : Int) := by omega
        clear hx hx'
        cases he : eqN (l k) (l' k) with
        | true =>
          have HZ := Lib.hid (show sameB l l' (k + 1) = true by show (sameB l l' k && eqN (l k) (l' k)) = true; rw [HU.out, he]; rfl)
          go_wp2_with fail
          go_quiet (fail)
          go_wp2_with fail
          go_roundw
          case rel => exact ⟨k + 1, _, by omega, by go_num, HZ.out, rfl⟩
          case measure => simp [intOf]; omega
        | false =>
          have HZ := Lib.hid (same_no HU.out hlt he)
          go_wp2_with fail
          go_quiet (fail)
          go_wp2_with fail
          go_ret
          exact ⟨by rw [HV.out, HZ.out]; rfl, _, by rw [World.drewN_drewN]⟩
      · obtain rfl : n = k := by omega
        go_wp2_with fail
        go_ret
        exact ⟨by rw [HV.out, HU.out]; rfl, _, rfl⟩
  · have HV := Lib.hid (show sameZ l n l' n' = false by unfold sameZ; simp [hnn])
    have q1 : ((n : Int) != (n' : Int)) = true := by simp; omega
    have q2 : ((n : Int) == (n' : Int)) = false := by simp; omega
    have q3 : (n == n') = false := by simpa using hnn
    go_enter Try.func23, Try.ntmps23
    go_wp2_with fail
    go_ret
    exact ⟨by rw [HV.out]; rfl, 0, rfl⟩

set_option maxHeartbeats 1000000 in
theorem same_any (A A' : Option Addr) (n n' cap cap' : Nat) (l l' : Nat → Nd) (w : World) (hn : n ≤ 1000000) (hn' : n' ≤ 1000000) (hl : Nodes w A n l) (hl' : Nodes w A' n' l') :
    Calls Try.prog 24 #[.agg #[.slice A n cap], .agg #[.slice A' n' cap']] w fun e w' => e = .returned (.bool (sameZ l n l' n')) ∧ Below w.heap.size w w' := by
  have HL := Lib.hid hl
  have HL' := Lib.hid hl'
  clear hl hl'
  go_enter Try.func24, Try.ntmps24
  go_wp2_with fail
  refine (equal_any A A' n n' cap cap' l l' _ hn hn' (HL.out.below (B := w.heap.size) (by go_grown) (Nat.le_refl _)) (HL'.out.below (B := w.heap.size) (by go_grown) (Nat.le_refl _))).mono ?_
  rintro e w1 ⟨rfl, q, rfl⟩
  go_wp2_with fail
  go_ret
  exact ⟨rfl, below_drewN (by go_grown) _⟩
end Go.Proofs.Ytcjefhjhmmoocaa
