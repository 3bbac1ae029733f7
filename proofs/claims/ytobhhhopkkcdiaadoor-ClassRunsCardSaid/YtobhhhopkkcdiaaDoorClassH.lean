/-
  What the statements' own Runs says of two lists of runs: whether they are the same.
-/
import Derived.Test.YtobhhhopkkcdiaaDoorClassG
namespace Go.Proofs.YtobhhhopkkcdiaaDoor
open Go.RowKit

theorem cellsU8 : Tryd.prog.cellsOf 5 = 1 := by kernel_rfl
theorem infoU8 : ∃ i, Tryd.prog.info? 5 = some i := by
  cases h : Tryd.prog.info? 5 with
  | none => exact absurd (show (Tryd.prog.info? 5).isSome = true by kernel_rfl) (by simp [h])
  | some i => exact ⟨i, rfl⟩

/-- Two pairs of bytes, compared. -/
@[go_sem] theorem eqPair (d : Nat) (a b a' b' : Int) (w : World) : (Op.equalIn (d + 2) 53 (.agg #[.int .u8 a, .int .u8 b]) (.agg #[.int .u8 a', .int .u8 b'])).run Tryd.prog w = .ok ((a == a') && (b == b')) w := by
  obtain ⟨i, hi⟩ := infoU8
  rw [run_equalIn_array w (d + 1) _ _ Tryd.underlying53 hi, cellsU8]
  have hr : List.range 2 = [0, 1] := by decide
  rw [hr]
  have hp : ∀ (xs : Array Value) (j : Nat) (k : IntKind) (n : Int), xs[j]? = some (.int k n) → (part 5 xs j).run Tryd.prog w = .ok (.int k n) w := by
    intro xs j k n h
    simp [part, isAgg, run_underlying Tryd.underlying5, h]
  have he : ∀ m n : Int, (Op.equalIn (d + 1) 5 (.int .u8 m) (.int .u8 n)).run Tryd.prog w = .ok (m == n) w := fun m n => run_equalIn_int (P := Tryd.prog) w d 5 .u8 .u8 m n Tryd.underlying5
  have p0 : ∀ a b : Int, (part 5 #[.int .u8 a, .int .u8 b] 0).run Tryd.prog w = .ok (.int .u8 a) w := fun a b => hp _ 0 .u8 a (by rfl)
  have p1 : ∀ a b : Int, (part 5 #[.int .u8 a, .int .u8 b] 1).run Tryd.prog w = .ok (.int .u8 b) w := fun a b => hp _ 1 .u8 b (by rfl)
  simp only [Op.eqItems, Nat.mul_one, Sem.run_bind, p0, Result.andThen_ok, he]
  cases ha : a == a' <;> cases hb : b == b' <;> simp [he, p1, hb]

/-- From place i on, are the lists the same? -/
theorem drop_step (l m : List (Nat × Nat)) (i : Nat) (p q : Nat × Nat) (h1 : l[i]? = some p) (h2 : m[i]? = some q) : decide (l.drop i = m.drop i) = (((p.1 : Int) == (q.1 : Int) && (p.2 : Int) == (q.2 : Int)) && decide (l.drop (i + 1) = m.drop (i + 1))) := by
  obtain ⟨hl, rfl⟩ := List.getElem?_eq_some_iff.1 h1
  obtain ⟨hm, rfl⟩ := List.getElem?_eq_some_iff.1 h2
  rw [List.drop_eq_getElem_cons hl, List.drop_eq_getElem_cons hm, Bool.eq_iff_iff]
  simp only [decide_eq_true_eq, Bool.and_eq_true, beq_iff_eq, List.cons.injEq, Prod.ext_iff, Int.natCast_inj]

set_option maxHeartbeats 1000000 in
theorem runs_unlike (w : World) (u v : Value) (l m : List (Nat × Nat)) (hu : Reads w u l) (hv : Reads w v m) (hne : l.length ≠ m.length) :
    Calls Tryd.prog 16 #[u, v] w fun e w' => e = .returned (.bool false) ∧ Below w.heap.size w w' := by
  obtain ⟨ao, cap, rfl, _⟩ := hu
  obtain ⟨bo, cap', rfl, _⟩ := hv
  generalize l.length = n at *
  generalize m.length = k at *
  have h1 : ((n : Int) != (k : Int)) = true := by rw [bne_iff_ne]; omega
  clear hne
  go_enter Tryd.func16, Tryd.ntmps16
  go_wp2
  go_ret
  exact ⟨rfl, Below.refl _ _⟩

set_option maxHeartbeats 1000000 in
theorem runs_empty (w : World) (ao bo : Option Addr) (cap cap' : Nat) :
    Calls Tryd.prog 16 #[.slice ao 0 cap, .slice bo 0 cap'] w fun e w' => e = .returned (.bool true) ∧ Below w.heap.size w w' := by
  go_enter Tryd.func16, Tryd.ntmps16
  go_wp2
  refine wp_loop_rounds 1 ?_
  rw [rounds_succ]; go_wp2
  go_ret
  exact ⟨rfl, Below.refl _ _⟩

set_option maxHeartbeats 1000000 in
theorem runs_full (w : World) (r s n cap cap' : Nat) (l m : List (Nat × Nat)) (hl : l.length = n) (hm : m.length = n) (hn : n ≤ 300)
    (h1 : ∀ i p, l[i]? = some p → w.cell? ⟨r, i * 2, none⟩ = some (.int .u8 (p.1 : Int)) ∧ w.cell? ⟨r, i * 2 + 1, none⟩ = some (.int .u8 (p.2 : Int)))
    (h2 : ∀ i p, m[i]? = some p → w.cell? ⟨s, i * 2, none⟩ = some (.int .u8 (p.1 : Int)) ∧ w.cell? ⟨s, i * 2 + 1, none⟩ = some (.int .u8 (p.2 : Int))) :
    Calls Tryd.prog 16 #[.slice (some ⟨r, 0, none⟩) n cap, .slice (some ⟨s, 0, none⟩) n cap'] w fun e w' => e = .returned (.bool (decide (l = m))) ∧ Below w.heap.size w w' := by
  have H1 := Lib.hid h1
  have H2 := Lib.hid h2
  have HL := Lib.hid hl
  have HM := Lib.hid hm
  clear h1 h2 hl hm
  go_enter Tryd.func16, Tryd.ntmps16
  go_wp2
  go_loopw [5] (fun v wr => ∃ i : Nat, v = .int .i64 i ∧ i ≤ n ∧ decide (l = m) = decide (l.drop i = m.drop i) ∧ Below w.heap.size w wr ∧ (∀ a, wr.cell? a = w.cell? a)) (fun v _ => n - (intOf v).toNat)
  case atStart => exact ⟨0, rfl, Nat.zero_le _, by simp, Below.refl _ _, fun _ => rfl⟩
  case round =>
    obtain ⟨i, rfl, hi, hd, hb, hcc⟩ := hrel
    have HD := Lib.hid hd
    have HB := Lib.hid hb
    have HC := Lib.hid hcc
    clear hd hb hcc
    by_cases hlt : i < n
    · obtain ⟨p, hp⟩ : ∃ p, l[i]? = some p := ⟨_, List.getElem?_eq_getElem (by have := HL.out; omega)⟩
      obtain ⟨q, hq⟩ : ∃ q, m[i]? = some q := ⟨_, List.getElem?_eq_getElem (by have := HM.out; omega)⟩
      have c1 := (HC.out _).trans (H1.out i p hp).1
      have c2 := (HC.out _).trans (H1.out i p hp).2
      have c3 := (HC.out _).trans (H2.out i q hq).1
      have c4 := (HC.out _).trans (H2.out i q hq).2
      have HS := Lib.hid (drop_step l m i p q hp hq)
      clear hp hq
      have i0 : (0 : Int) ≤ i := by omega
      have i1 : (i : Int) < n := by omega
      by_cases he : ((p.1 : Int) == (q.1 : Int) && (p.2 : Int) == (q.2 : Int)) = true
      · go_wp2
        go_quiet (fail)
        go_wp2
        go_roundw
        case rel => exact ⟨i + 1, by go_num, by omega, by rw [HD.out, HS.out, he, Bool.true_and], below_drewN HB.out _, fun a => by simpa using HC.out a⟩
        case measure => simp [intOf]; omega
      · have he' : ((p.1 : Int) == (q.1 : Int) && (p.2 : Int) == (q.2 : Int)) = false := by simpa using he
        clear he
        go_wp2
        go_quiet (fail)
        go_wp2
        go_ret
        refine ⟨by rw [HD.out, HS.out, he', Bool.false_and]; rfl, below_drewN HB.out _⟩
    · obtain rfl : i = n := by omega
      have e : decide (l = m) = true := by
        rw [HD.out, List.drop_of_length_le (by have := HL.out; omega), List.drop_of_length_le (by have := HM.out; omega)]; simp
      have E := Lib.hid e
      clear e
      go_wp2
      go_ret
      exact ⟨by rw [E.out]; rfl, HB.out⟩

/-- Whether two lists of runs are the same. -/
theorem runs_any (w : World) (u v : Value) (l m : List (Nat × Nat)) (hu : Reads w u l) (hv : Reads w v m) (hl : l.length ≤ 300) :
    Calls Tryd.prog 16 #[u, v] w fun e w' => e = .returned (.bool (decide (l = m))) ∧ Below w.heap.size w w' := by
  by_cases hne : l.length = m.length
  · obtain ⟨ao, cap, rfl, hu⟩ := hu
    obtain ⟨bo, cap', rfl, hv⟩ := hv
    rcases hu with rfl | ⟨r, _, rfl, h1⟩
    · obtain rfl : m = [] := List.length_eq_zero_iff.1 (by simpa using hne.symm)
      exact runs_empty w ao bo cap cap'
    · rcases hv with rfl | ⟨s, _, rfl, h2⟩
      · obtain rfl : l = [] := List.length_eq_zero_iff.1 (by simpa using hne)
        exact runs_empty w _ bo cap cap'
      · rw [← hne]
        exact runs_full w r s l.length cap cap' l m rfl hne.symm hl h1 h2
  · have e : decide (l = m) = false := by
      simp only [decide_eq_false_iff_not]
      intro e
      exact hne (by rw [e])
    rw [e]
    exact runs_unlike w u v l m hu hv hne
end Go.Proofs.YtobhhhopkkcdiaaDoor
