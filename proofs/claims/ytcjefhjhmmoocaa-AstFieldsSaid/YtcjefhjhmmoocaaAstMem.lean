/-
  Layer 5: nodes in memory: a slice that reads as nodes.
-/
import Derived.Test.YtcjefhjhmmoocaaAstNode
namespace Go.Proofs.Ytcjefhjhmmoocaa
open Go.RowKit

/-- A node's twelve cells. -/
def At12 (w : World) (b o : Nat) (x : Nd) : Prop :=
  w.cell? ⟨b, o, none⟩ = some (.int .i64 x.k) ∧ w.cell? ⟨b, o + 1, none⟩ = some (.int .i64 x.a) ∧ w.cell? ⟨b, o + 2, none⟩ = some (.int .i64 x.b) ∧
  w.cell? ⟨b, o + 3, none⟩ = some (.int .u64 x.s0) ∧ w.cell? ⟨b, o + 4, none⟩ = some (.int .u64 x.s1) ∧ w.cell? ⟨b, o + 5, none⟩ = some (.int .u64 x.s2) ∧ w.cell? ⟨b, o + 6, none⟩ = some (.int .u64 x.s3) ∧
  w.cell? ⟨b, o + 7, none⟩ = some (.int .i64 x.mn) ∧ w.cell? ⟨b, o + 8, none⟩ = some (.int .i64 x.mx) ∧ w.cell? ⟨b, o + 9, none⟩ = some (.int .i64 x.md) ∧ w.cell? ⟨b, o + 10, none⟩ = some (.int .i64 x.n) ∧ w.cell? ⟨b, o + 11, none⟩ = some (.bool x.f)
theorem At12.keep {w u : World} {b o : Nat} {x : Nd} (h : At12 w b o x) (hk : ∀ j, u.cell? ⟨b, j, none⟩ = w.cell? ⟨b, j, none⟩) : At12 u b o x := by
  unfold At12 at h ⊢
  simp only [hk]
  exact h
/-- The nodes l 0 to l (n - 1) lie where A leads. -/
def Nodes (w : World) (A : Option Addr) (n : Nat) (l : Nat → Nd) : Prop := ∀ i, i < n → ∃ b o, A = some ⟨b, o, none⟩ ∧ b < w.heap.size ∧ At12 w b (o + i * 12) (l i)
theorem Nodes.below {w u : World} {A : Option Addr} {n : Nat} {l : Nat → Nd} {B : Nat} (h : Nodes w A n l) (hb : Below B w u) (hB : w.heap.size ≤ B) : Nodes u A n l := fun i hi => by
  obtain ⟨b, o, h1, h2, h3⟩ := h i hi
  exact ⟨b, o, h1, Nat.lt_of_lt_of_le h2 hb.size, h3.keep fun j => hb.cell (p := ⟨b, j, none⟩) (Nat.lt_of_lt_of_le h2 hB)⟩

/-- The same, where it is known that there is one. -/
def NodesAt (w : World) (b o n : Nat) (l : Nat → Nd) : Prop := b < w.heap.size ∧ ∀ i, i < n → At12 w b (o + i * 12) (l i)
theorem Nodes.at_ {w : World} {A : Option Addr} {n : Nat} {l : Nat → Nd} (h : Nodes w A n l) (h0 : 0 < n) : ∃ b o, A = some ⟨b, o, none⟩ ∧ NodesAt w b o n l := by
  obtain ⟨b, o, rfl, hb, _⟩ := h 0 h0
  refine ⟨b, o, rfl, hb, fun i hi => ?_⟩
  obtain ⟨b', o', e, _, h3⟩ := h i hi
  cases e
  exact h3
theorem NodesAt.nodes {w : World} {b o n : Nat} {l : Nat → Nd} (h : NodesAt w b o n l) : Nodes w (some ⟨b, o, none⟩) n l := fun i hi => ⟨b, o, rfl, h.1, h.2 i hi⟩
theorem NodesAt.below {w u : World} {b o n : Nat} {l : Nat → Nd} {B : Nat} (h : NodesAt w b o n l) (hb : Below B w u) (hB : w.heap.size ≤ B) : NodesAt u b o n l :=
  ⟨Nat.lt_of_lt_of_le h.1 hb.size, fun i hi => (h.2 i hi).keep fun j => hb.cell (p := ⟨b, j, none⟩) (Nat.lt_of_lt_of_le h.1 hB)⟩

/-- How many groups there are among the first. -/
def cntG (l : Nat → Nd) : Nat → Nat
  | 0 => 0
  | k + 1 => cntG l k + if (l k).k = 11 then 1 else 0
theorem cntG_le (l : Nat → Nd) (k : Nat) : cntG l k ≤ k := by
  induction k with
  | zero => exact Nat.le_refl _
  | succ k ih => unfold cntG; split <;> omega

set_option maxHeartbeats 1000000 in
theorem groups_any (A : Option Addr) (n cap : Nat) (l : Nat → Nd) (w : World) (hn : n ≤ 4611686018427387904) (hl : Nodes w A n l) :
    Calls Try.prog 17 #[.agg #[.slice A n cap]] w fun e w' => e = .returned (.int .i64 (cntG l n : Nat)) ∧ Below w.heap.size w w' := by
  have HL := Lib.hid hl
  clear hl
  go_enter Try.func17, Try.ntmps17
  go_wp2_with fail
  go_loopw [3, 9] (fun c i wr => ∃ k : Nat, k ≤ n ∧ i = .int .i64 k ∧ c = .int .i64 (cntG l k : Nat) ∧ Below w.heap.size w wr) (fun _ i _ => n - (intOf i).toNat)
  case atStart => exact ⟨0, Nat.zero_le _, rfl, rfl, by go_grown⟩
  case round =>
    obtain ⟨k, hk, rfl, rfl, hb⟩ := hrel
    have BB := Lib.hid hb
    by_cases hlt : k < n
    · obtain ⟨b, o, rfl, hbw, hx⟩ := (HL.out.below hb (Nat.le_refl _)) k hlt
      have HX := Lib.hid (show cntG l (k + 1) = cntG l k + if (l k).k = 11 then 1 else 0 from rfl)
      obtain ⟨c0, c1, c2, c3, c4, c5, c6, c7, c8, c9, c10, c11⟩ := hx
      have hc := cntG_le l k
      have hcz : (cntG l k : Int) ≤ 4611686018427387904 := by omega
      have hc0 : (0 : Int) ≤ (cntG l k : Int) := by omega
      clear hb hc
      by_cases h11 : (l k).k = 11
      · rw [h11] at c0
        rw [if_pos h11] at HX
        go_wp2_with fail
        go_roundw
        case rel => exact ⟨k + 1, by omega, by go_num, by rw [HX.out]; go_num, BB.out.alloc BB.out.size _⟩
        case measure => simp [intOf]; omega
      · have q : ((l k).k == 11) = false := by simpa using h11
        rw [if_neg h11, Nat.add_zero] at HX
        clear h11
        go_wp2_with fail
        go_roundw
        case rel => exact ⟨k + 1, by omega, by go_num, by rw [HX.out, Nat.add_zero], BB.out.alloc BB.out.size _⟩
        case measure => simp [intOf]; omega
    · obtain rfl : k = n := by omega
      go_wp2_with fail
      go_ret
      exact ⟨rfl, BB.out⟩
set_option maxHeartbeats 1000000 in
theorem rgroups_any (A : Option Addr) (n cap : Nat) (l : Nat → Nd) (w : World) (hn : n ≤ 4611686018427387904) (hl : Nodes w A n l) :
    Calls Try.prog 18 #[.slice A n cap] w fun e w' => e = .returned (.int .i64 (cntG l n : Nat)) ∧ w = w' := by
  have HL := Lib.hid hl
  clear hl
  go_enter Try.func18, Try.ntmps18
  go_wp2_with fail
  go_loop [3, 4] (fun c i => ∃ k : Nat, k ≤ n ∧ i = .int .i64 k ∧ c = .int .i64 (cntG l k : Nat)) (fun _ i => n - (intOf i).toNat)
  case atStart => exact ⟨0, Nat.zero_le _, rfl, rfl⟩
  case round =>
    obtain ⟨k, hk, rfl, rfl⟩ := hrel
    by_cases hlt : k < n
    · obtain ⟨b, o, rfl, hbw, hx⟩ := HL.out k hlt
      have HX := Lib.hid (show cntG l (k + 1) = cntG l k + if (l k).k = 11 then 1 else 0 from rfl)
      have c0 := hx.1
      clear hx
      have hc := cntG_le l k
      have hcz : (cntG l k : Int) ≤ 4611686018427387904 := by omega
      have hc0 : (0 : Int) ≤ (cntG l k : Int) := by omega
      clear hc
      by_cases h11 : (l k).k = 11
      · rw [h11] at c0
        rw [if_pos h11] at HX
        go_wp2_with fail
        go_round
        case rel => exact ⟨k + 1, by omega, by go_num, by rw [HX.out]; go_num⟩
        case measure => simp [intOf]; omega
      · have q : ((l k).k == 11) = false := by simpa using h11
        rw [if_neg h11, Nat.add_zero] at HX
        clear h11
        go_wp2_with fail
        go_round
        case rel => exact ⟨k + 1, by omega, by go_num, by rw [HX.out, Nat.add_zero]⟩
        case measure => simp [intOf]; omega
    · obtain rfl : k = n := by omega
      go_wp2_with fail
      go_ret
      exact ⟨rfl, rfl⟩
end Go.Proofs.Ytcjefhjhmmoocaa
