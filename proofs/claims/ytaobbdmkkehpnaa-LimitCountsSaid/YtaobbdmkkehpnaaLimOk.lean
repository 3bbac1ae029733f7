/-
  What package limit's calls are to do, as one bundle: what the statements of layer 4 lean on. And the numbers of package math that they name.
-/
import Derived.Test.YtaobbdmkkehpnaaLimRefE
namespace Go.Proofs.Ytaobbdmkkehpnaa
open Go.RowKit

/-- The calls of package limit do what the document says; a meter lies in one block. -/
structure LimOk where
  Met : World → Nat → Nat → Nat → Nat → Nat → Nat → Prop
  lt : ∀ {u : World} {p s r st h pk : Nat}, Met u p s r st h pk → p < u.heap.size
  of_block : ∀ {u v : World} {p s r st h pk : Nat}, Met u p s r st h pk → v.heap[p]? = u.heap[p]? → Met v p s r st h pk
  kind : ∀ (x : Nat) (w : World), x < 18446744073709551616 → Calls Try.prog 12 #[.float .f64 x] w fun e w' => e = .returned (.int .i64 (kindZ x)) ∧ Below w.heap.size w w'
  right : ∀ (a b : Nat) (w : World), a < 18446744073709551616 → b < 18446744073709551616 → Calls Try.prog 14 #[bud a b] w fun e w' => e = .returned (.bool (okW a && okW b)) ∧ Below w.heap.size w w'
  least : ∀ (a b c d : Nat) (w : World), Calls Try.prog 17 #[bud a b, bud c d] w fun e w' => e = .returned (bud (lessW a c) (lessW b d)) ∧ Below w.heap.size w w'
  scale : ∀ (a b x : Nat) (w : World), a < 18446744073709551616 → b < 18446744073709551616 → x < 18446744073709551616 → Calls Try.prog 9 #[bud a b, .float .f64 x] w fun e w' => e = .returned (.tuple #[scV a b x, .int .i64 (scE a b x)]) ∧ Below w.heap.size w w'
  new_yes : ∀ (s r : Nat) (w : World), s < 18446744073709551616 → r < 18446744073709551616 → (okW s && okW r) = true → Calls Try.prog 20 #[bud s r] w fun e w' => ∃ p, e = .returned (.tuple #[.pointer (some ⟨p, 0, none⟩), .int .i64 0]) ∧ w.heap.size ≤ p ∧ Met w' p s r 0 0 0 ∧ Below w.heap.size w w'
  new_no : ∀ (s r : Nat) (w : World), s < 18446744073709551616 → r < 18446744073709551616 → (okW s && okW r) = false → Calls Try.prog 20 #[bud s r] w fun e w' => e = .returned (.tuple #[.pointer none, .int .i64 1]) ∧ Below w.heap.size w w'
  step : ∀ (p s r st h pk : Nat) (n : Int) (w : World), Met w p s r st h pk → st ≤ 4611686018427387904 → -9223372036854775808 ≤ n → n < 9223372036854775808 →
    Calls Try.prog 22 #[.pointer (some ⟨p, 0, none⟩), .int .i64 n] w fun e w' => e = .returned (.bool (allowB (stepN st n) s)) ∧ Met w' p s r (stepN st n) h pk ∧ But p w w'
  hold : ∀ (p s r st h pk : Nat) (n : Int) (w : World), Met w p s r st h pk → h ≤ 4611686018427387904 → -9223372036854775808 ≤ n → n < 9223372036854775808 →
    Calls Try.prog 24 #[.pointer (some ⟨p, 0, none⟩), .int .i64 n] w fun e w' => e = .returned (.bool (allowB (holdN h n) r)) ∧ Met w' p s r st (holdN h n) (max pk (holdN h n)) ∧ But p w w'
  used : ∀ (p s r st h pk : Nat) (w : World), Met w p s r st h pk → Calls Try.prog 26 #[.pointer (some ⟨p, 0, none⟩)] w fun e w' => e = .returned (.tuple #[.int .u64 (st : Int), .int .u64 (pk : Int)]) ∧ Below w.heap.size w w'

theorem LimOk.call (L : LimOk) {u v : World} {p s r st h pk : Nat} (m : L.Met u p s r st h pk) (hb : Below u.heap.size u v) : L.Met v p s r st h pk := L.of_block m (hb.block p (L.lt m))
theorem LimOk.but (L : LimOk) {u v : World} {p q s r st h pk : Nat} (m : L.Met u p s r st h pk) (hb : But q u v) (hq : p ≠ q) : L.Met v p s r st h pk := L.of_block m (hb.block p (L.lt m) hq)
theorem But.below {B p : Nat} {w u v : World} (h : Below B w u) (hb : But p u v) (hB : B ≤ u.heap.size) (hp : B ≤ p) : Below B w v :=
  ⟨hb.os.trans h.os, hb.tape.trans h.tape, hb.output.trans h.output, Nat.le_trans h.size hb.size, fun k hk => (hb.block k (by omega) (by omega)).trans (h.block k hk)⟩

/-- The calls, their answers given. -/
theorem LimOk.step_k (L : LimOk) (p s r st h pk q : Nat) (b : Bool) (n : Int) (w : World) (m : L.Met w p s r st h pk) (hst : st ≤ 4611686018427387904) (n0 : -9223372036854775808 ≤ n) (n1 : n < 9223372036854775808) (hq : stepN st n = q) (hb : allowB q s = b) :
    Calls Try.prog 22 #[.pointer (some ⟨p, 0, none⟩), .int .i64 n] w fun e w' => e = .returned (.bool b) ∧ L.Met w' p s r q h pk ∧ But p w w' := by
  subst hq hb; exact L.step p s r st h pk n w m hst n0 n1
theorem LimOk.hold_k (L : LimOk) (p s r st h pk q pk' : Nat) (b : Bool) (n : Int) (w : World) (m : L.Met w p s r st h pk) (hh : h ≤ 4611686018427387904) (n0 : -9223372036854775808 ≤ n) (n1 : n < 9223372036854775808) (hq : holdN h n = q) (hp : max pk q = pk') (hb : allowB q r = b) :
    Calls Try.prog 24 #[.pointer (some ⟨p, 0, none⟩), .int .i64 n] w fun e w' => e = .returned (.bool b) ∧ L.Met w' p s r st q pk' ∧ But p w w' := by
  subst hq hp hb; exact L.hold p s r st h pk n w m hh n0 n1
theorem LimOk.scale_k (L : LimOk) (a b x : Nat) (v : Value) (er : Int) (w : World) (ha : a < 18446744073709551616) (hb : b < 18446744073709551616) (hx : x < 18446744073709551616) (hv : scV a b x = v) (he : scE a b x = er) :
    Calls Try.prog 9 #[bud a b, .float .f64 x] w fun e w' => e = .returned (.tuple #[v, .int .i64 er]) ∧ Below w.heap.size w w' := by
  subst hv he; exact L.scale a b x w ha hb hx
theorem LimOk.kind_k (L : LimOk) (x : Nat) (k : Int) (w : World) (hx : x < 18446744073709551616) (hk : kindZ x = k) : Calls Try.prog 12 #[.float .f64 x] w fun e w' => e = .returned (.int .i64 k) ∧ Below w.heap.size w w' := by
  subst hk; exact L.kind x w hx
theorem LimOk.right_k (L : LimOk) (a b : Nat) (c : Bool) (w : World) (ha : a < 18446744073709551616) (hb : b < 18446744073709551616) (hc : (okW a && okW b) = c) : Calls Try.prog 14 #[bud a b] w fun e w' => e = .returned (.bool c) ∧ Below w.heap.size w w' := by
  subst hc; exact L.right a b w ha hb
theorem LimOk.least_k (L : LimOk) (a b c d x y : Nat) (w : World) (hx : lessW a c = x) (hy : lessW b d = y) : Calls Try.prog 17 #[bud a b, bud c d] w fun e w' => e = .returned (bud x y) ∧ Below w.heap.size w w' := by
  subst hx hy; exact L.least a b c d w

theorem inf_any (w : World) : Calls Try.prog 27 #[.int .i64 1] w fun e w' => e = .returned (.float .f64 9218868437227405312) ∧ w = w' := by
  have br := frombits_run 9218868437227405312
  go_enter Try.func27, Try.ntmps27
  go_wp2
  go_ret
  exact ⟨rfl, rfl⟩
theorem nan_any (w : World) : Calls Try.prog 37 #[] w fun e w' => e = .returned (.float .f64 9221120237041090561) ∧ w = w' := by
  have br := frombits_run 9221120237041090561
  go_enter Try.func37, Try.ntmps37
  go_wp2
  go_ret
  exact ⟨rfl, rfl⟩
theorem sign_any (w : World) : Calls Try.prog 28 #[.float .f64 0, .float .f64 13830554455654793216] w fun e w' => e = .returned (.float .f64 9223372036854775808) ∧ w = w' := by
  have br := frombits_run 9223372036854775808
  have b0 := bits_run 0
  have b1 := bits_run 13830554455654793216
  have e1 : bits .andNot .u64 0 9223372036854775808 = 0 := by decide +kernel
  have e2 : bits .and .u64 13830554455654793216 9223372036854775808 = 9223372036854775808 := by decide +kernel
  have e3 : bits .or .u64 0 9223372036854775808 = 9223372036854775808 := by decide +kernel
  go_enter Try.func28, Try.ntmps28
  go_wp2_with fail
  go_ret
  exact ⟨rfl, rfl⟩
end Go.Proofs.Ytaobbdmkkehpnaa
