/-
  Layer 10: Again, of the landed code; the document's Text and Again.
-/
import Derived.Test.YtnapbmdbeihngaaDoorCapText
import Derived.IntWalk
namespace Go.Proofs.YtnapbmdbeihngaaDoor
open Go.RowKit

/-- Do the piece's bytes stand at the place? -/
def agB (c : Cp) (s : ByteArray) (g z : Int) (fold : Bool) : Bool := pcB c s g && (decide (0 ≤ z) && (decide (z ≤ s.size) && begB fold (s.extract z.toNat s.size) (pcS c s g)))
def agN (c : Cp) (s : ByteArray) (g z : Int) (fold : Bool) : Int := if agB c s g z fold = true then ((pcS c s g).size : Int) else 0
theorem pcS_le (c : Cp) (s : ByteArray) (g : Int) : (pcS c s g).size ≤ s.size := by
  unfold pcS
  cases pieceZ c s.size g with
  | none => exact Nat.zero_le _
  | some p => obtain ⟨a, b⟩ := p; simp; omega
set_option maxRecDepth 20000 in
theorem again_any (L : LibOk) (c : Cp) (s : ByteArray) (hs : s.size ≤ 140737488355328) (g z : Int) (fold : Bool) (w : World) : Calls Tryd.prog 17 #[.agg (cpC c), .string s, .int .i64 g, .int .i64 z, .bool fold] w fun e w' => e = .returned (.tuple #[.int .i64 (agN c s g z fold), .bool (agB c s g z fold)]) ∧ Below w.heap.size w w' := by
  have HX := Lib.hid (BoxV.new (T := 26) w (cpC c))
  have HP := Lib.hid (fun w => piece_any c s (by unfold maxLen; omega) g w)
  have hz := pcS_le c s g
  have HG := Lib.hid (fun t w => begins_any L fold (s.extract t s.size) (pcS c s g) (by simp; unfold maxLen; omega) w)
  unfold agN agB
  generalize pcS c s g = t at HP HG hz ⊢
  generalize pcB c s g = b at HP ⊢
  clear L
  cases b with
  | false =>
    simp only [Bool.false_and, Bool.false_eq_true, if_false]
    go_enter Tryd.func17, Tryd.ntmps17
    go_wp2_with (refine loadC rfl _ rfl w.heap.size c rfl HX.out ?_)
    refine (HP.out _).mono ?_
    rintro e w1 ⟨rfl, hb⟩
    have HB := Lib.hid (afterBox hb)
    clear hb
    go_wp2_with fail
    go_ret2
    exact ⟨rfl, HB.out⟩
  | true =>
    simp only [Bool.true_and]
    by_cases h0 : 0 ≤ z
    · by_cases h1 : z ≤ (s.size : Int)
      · obtain ⟨n, rfl⟩ : ∃ n : Nat, z = (n : Int) := ⟨z.toNat, by omega⟩
        rw [decide_eq_true h0, decide_eq_true h1]
        simp only [Bool.true_and, Int.toNat_natCast]
        have HN := Lib.hid (HG.out n)
        clear HG
        generalize begB fold (s.extract n s.size) t = x at HN ⊢
        have h2 : decide ((n : Int) < 0) = false := decide_eq_false (by omega)
        have h3 : decide ((s.size : Int) < (n : Int)) = false := decide_eq_false (by omega)
        cases x with
        | false =>
          simp only [Bool.false_eq_true, if_false]
          go_enter Tryd.func17, Tryd.ntmps17
          go_wp2_with (refine loadC rfl _ rfl w.heap.size c rfl HX.out ?_)
          refine (HP.out _).mono ?_
          rintro e w1 ⟨rfl, hb⟩
          have HB := Lib.hid (afterBox hb)
          clear hb
          go_wp2_with fail
          refine (HN.out _).mono ?_
          rintro e w2 ⟨rfl, hb⟩
          have HB2 := Lib.hid (thenB HB.out hb HB.out.size)
          clear hb
          go_wp2_with fail
          go_ret2
          exact ⟨rfl, HB2.out⟩
        | true =>
          simp only [if_true]
          go_enter Tryd.func17, Tryd.ntmps17
          go_wp2_with (refine loadC rfl _ rfl w.heap.size c rfl HX.out ?_)
          refine (HP.out _).mono ?_
          rintro e w1 ⟨rfl, hb⟩
          have HB := Lib.hid (afterBox hb)
          clear hb
          go_wp2_with fail
          refine (HN.out _).mono ?_
          rintro e w2 ⟨rfl, hb⟩
          have HB2 := Lib.hid (thenB HB.out hb HB.out.size)
          clear hb
          go_wp2_with fail
          go_ret2
          exact ⟨rfl, HB2.out⟩
      · rw [decide_eq_false h1]
        simp only [Bool.false_and, Bool.and_false, Bool.false_eq_true, if_false]
        have h2 : decide (z < 0) = false := decide_eq_false (by omega)
        have h3 : (s.size : Int) < z := by omega
        clear h1
        go_enter Tryd.func17, Tryd.ntmps17
        go_wp2_with (refine loadC rfl _ rfl w.heap.size c rfl HX.out ?_)
        refine (HP.out _).mono ?_
        rintro e w1 ⟨rfl, hb⟩
        have HB := Lib.hid (afterBox hb)
        clear hb
        go_wp2_with fail
        go_ret2
        exact ⟨rfl, HB.out⟩
    · rw [decide_eq_false h0]
      simp only [Bool.false_and, Bool.false_eq_true, if_false]
      have h2 : z < 0 := by omega
      clear h0
      go_enter Tryd.func17, Tryd.ntmps17
      go_wp2_with (refine loadC rfl _ rfl w.heap.size c rfl HX.out ?_)
      refine (HP.out _).mono ?_
      rintro e w1 ⟨rfl, hb⟩
      have HB := Lib.hid (afterBox hb)
      clear hb
      go_wp2_with fail
      go_ret2
      exact ⟨rfl, HB.out⟩
set_option maxRecDepth 20000 in
theorem rtext_any (c : Cp) (s : ByteArray) (g : Int) (w : World) : Calls Tryd.prog 14 #[.agg (cpC c), .string s, .int .i64 g] w fun e w' => e = .returned (.tuple #[.string (pcS c s g), .bool (pcB c s g)]) ∧ Below w.heap.size w w' := by
  have HX := Lib.hid (BoxV.new (T := 28) w (cpC c))
  have HP0 := fun w => rget_any c g w
  unfold plX plY plB at HP0
  unfold pcS pcB
  cases hp : pieceZ c s.size g with
  | some p =>
    obtain ⟨a, b⟩ := p
    obtain ⟨hg, h1, h2, h3⟩ := pieceZ_some hp
    rw [hg] at HP0
    have HP := Lib.hid HP0
    have HM := Lib.hid (fun w => may_yes (a : Int) (b : Int) ⟨by omega, by omega, by omega⟩ w)
    have h4 : decide ((s.size : Int) < (b : Int)) = false := decide_eq_false (by omega)
    clear hp hg HP0
    go_enter Tryd.func14, Tryd.ntmps14
    go_wp2_with (refine loadR rfl _ rfl w.heap.size c rfl HX.out ?_)
    refine (HP.out _).mono ?_
    rintro e w1 ⟨rfl, hb⟩
    have HB := Lib.hid (afterBox hb)
    clear hb
    go_wp2_with fail
    refine (HM.out _).mono ?_
    rintro e w2 ⟨rfl, rfl⟩
    go_wp2_with fail
    go_ret2
    exact ⟨rfl, HB.out⟩
  | none =>
    rcases pieceZ_none hp with hg | ⟨x, y, hg, hn⟩
    · rw [hg] at HP0
      have HP := Lib.hid HP0
      clear hp hg HP0
      go_enter Tryd.func14, Tryd.ntmps14
      go_wp2_with (refine loadR rfl _ rfl w.heap.size c rfl HX.out ?_)
      refine (HP.out _).mono ?_
      rintro e w1 ⟨rfl, hb⟩
      have HB := Lib.hid (afterBox hb)
      clear hb
      go_wp2_with fail
      go_ret2
      exact ⟨rfl, HB.out⟩
    · rw [hg] at HP0
      have HP := Lib.hid HP0
      clear hp hg HP0
      by_cases hm : mayP x y
      · have h4 : (s.size : Int) < y := by
          rcases Int.lt_or_le (s.size : Int) y with h | h
          · exact h
          · exact absurd ⟨hm, h⟩ hn
        have HM := Lib.hid (fun w => may_yes x y hm w)
        clear hm hn
        go_enter Tryd.func14, Tryd.ntmps14
        go_wp2_with (refine loadR rfl _ rfl w.heap.size c rfl HX.out ?_)
        refine (HP.out _).mono ?_
        rintro e w1 ⟨rfl, hb⟩
        have HB := Lib.hid (afterBox hb)
        clear hb
        go_wp2_with fail
        refine (HM.out _).mono ?_
        rintro e w2 ⟨rfl, rfl⟩
        go_wp2_with fail
        go_ret2
        exact ⟨rfl, HB.out⟩
      · have HM := Lib.hid (fun w => may_no x y hm w)
        clear hm hn
        go_enter Tryd.func14, Tryd.ntmps14
        go_wp2_with (refine loadR rfl _ rfl w.heap.size c rfl HX.out ?_)
        refine (HP.out _).mono ?_
        rintro e w1 ⟨rfl, hb⟩
        have HB := Lib.hid (afterBox hb)
        clear hb
        go_wp2_with fail
        refine (HM.out _).mono ?_
        rintro e w2 ⟨rfl, rfl⟩
        go_wp2_with fail
        go_ret2
        exact ⟨rfl, HB.out⟩
theorem byB_extract {s : ByteArray} {n j : Nat} (h : n + j < s.size) : byB (s.extract n s.size) j = s[n + j].toNat := by
  rw [byB_eq (by simp; omega)]
  simp [ByteArray.getElem_extract]
theorem eqB_comm (f : Bool) (a b : Nat) : eqB f a b = eqB f b a := by
  unfold eqB
  rw [Bool.eq_iff_iff]
  simp only [Bool.or_eq_true, Bool.and_eq_true, beq_iff_eq]
  exact ⟨fun h => h.elim (fun e => .inl e.symm) (fun e => .inr ⟨e.1, e.2.symm⟩), fun h => h.elim (fun e => .inl e.symm) (fun e => .inr ⟨e.1, e.2.symm⟩)⟩
theorem begin_no (c : Cp) (s : ByteArray) (g z : Int) (fold : Bool) (h : pcB c s g = false ∨ z < 0 ∨ (s.size : Int) < z ∨ (s.size : Int) - z < (pcS c s g).size) : agB c s g z fold = false := by
  unfold agB
  rcases h with h | h | h | h
  · rw [h]; rfl
  · rw [decide_eq_false (show ¬ 0 ≤ z by omega)]; simp
  · rw [decide_eq_false (show ¬ z ≤ (s.size : Int) by omega)]; simp
  · by_cases h0 : 0 ≤ z
    · by_cases h1 : z ≤ (s.size : Int)
      · rw [begB_no (fun e => by have := e.1; rw [ByteArray.size_extract, Nat.min_self] at this; omega)]; simp
      · rw [decide_eq_false h1]; simp
    · rw [decide_eq_false h0]; simp
theorem rlower_w (n : Nat) (h : n < 256) (w : World) : Calls Tryd.prog 30 #[.int .u8 (n : Int)] w fun e w' => e = .returned (.int .u8 (lowN n : Nat)) ∧ w = w' := rlower_any n h w
set_option maxRecDepth 20000 in
theorem ragain_any (c : Cp) (s : ByteArray) (hs : s.size ≤ 140737488355328) (g z : Int) (fold : Bool) (w : World) : Calls Tryd.prog 18 #[.agg (cpC c), .string s, .int .i64 g, .int .i64 z, .bool fold] w fun e w' => e = .returned (.tuple #[.int .i64 (agN c s g z fold), .bool (agB c s g z fold)]) ∧ Below w.heap.size w w' := by
  have HX := Lib.hid (BoxV.new (T := 28) w (cpC c))
  have HP := Lib.hid (fun w => rtext_any c s g w)
  have hz := pcS_le c s g
  by_cases hno : pcB c s g = false ∨ z < 0 ∨ (s.size : Int) < z ∨ (s.size : Int) - z < (pcS c s g).size
  · have hB := begin_no c s g z fold hno
    unfold agN
    rw [hB]
    simp only [Bool.false_eq_true, if_false]
    generalize pcS c s g = t at HP hno hz ⊢
    generalize pcB c s g = b at HP hno ⊢
    clear hB
    cases b with
    | false =>
      clear hno
      go_enter Tryd.func18, Tryd.ntmps18
      go_wp2_with (refine loadR rfl _ rfl w.heap.size c rfl HX.out ?_)
      refine (HP.out _).mono ?_
      rintro e w1 ⟨rfl, hb⟩
      have HB := Lib.hid (afterBox hb)
      clear hb
      go_wp2_with fail
      go_ret2
      exact ⟨rfl, HB.out⟩
    | true =>
      have hno2 : z < 0 ∨ (decide (z < 0) = false ∧ (s.size : Int) < z) ∨ decide (z < 0) = false ∧ decide ((s.size : Int) < z) = false ∧ 0 ≤ z ∧ z ≤ s.size ∧ (s.size : Int) - z < t.size := by
        by_cases h0 : z < 0
        · exact .inl h0
        · by_cases h1 : (s.size : Int) < z
          · exact .inr (.inl ⟨decide_eq_false h0, h1⟩)
          · exact .inr (.inr ⟨decide_eq_false h0, decide_eq_false h1, by omega, by omega, hno.elim (fun e => by cases e) (fun e => e.elim (fun e => absurd e h0) (fun e => e.elim (fun e => absurd e h1) id))⟩)
      clear hno
      rcases hno2 with h | ⟨h, h1⟩ | ⟨h, h1, h2, h3, h4⟩
      all_goals
        go_enter Tryd.func18, Tryd.ntmps18
        go_wp2_with (refine loadR rfl _ rfl w.heap.size c rfl HX.out ?_)
        refine (HP.out _).mono ?_
        rintro e w1 ⟨rfl, hb⟩
        have HB := Lib.hid (afterBox hb)
        clear hb
        go_wp2_with fail
        go_ret2
        exact ⟨rfl, HB.out⟩
  · obtain ⟨n, rfl⟩ : ∃ n : Nat, z = (n : Int) := ⟨z.toNat, by omega⟩
    have hB : agB c s g (n : Int) fold = begB fold (s.extract n s.size) (pcS c s g) := by
      unfold agB
      rw [show pcB c s g = true from by cases h : pcB c s g with | true => rfl | false => exact absurd (.inl h) hno, decide_eq_true (show 0 ≤ (n : Int) by omega), decide_eq_true (show (n : Int) ≤ (s.size : Int) by omega)]
      rfl
    have hpB : pcB c s g = true := by cases h : pcB c s g with | true => rfl | false => exact absurd (.inl h) hno
    unfold agN
    rw [hB]
    rw [hpB] at HP
    clear hB hpB
    have hn1 : n + (pcS c s g).size ≤ s.size := by omega
    clear hno
    generalize pcS c s g = t at HP hn1 hz ⊢
    have h2 : decide ((n : Int) < 0) = false := decide_eq_false (by omega)
    have h3 : decide (s.size < n) = false := decide_eq_false (by omega)
    have h4 : decide ((s.size : Int) - (n : Int) < (t.size : Int)) = false := decide_eq_false (by omega)
    have hyes : Hid (∀ j, j < t.size → eqB fold (byB s (n + j)) (byB t j) = true) → begB fold (s.extract n s.size) t = true := fun H => (begB_iff _ _ _).2 ⟨by rw [ByteArray.size_extract]; omega, fun j hj => by
      rw [byB_extract (by omega), ← byB_eq]; exact H.out j hj⟩
    have hnot : ∀ j, j < t.size → eqB fold (byB s (n + j)) (byB t j) = false → begB fold (s.extract n s.size) t = false := fun j hj hf => begB_no fun e => by
      have := e.2 j hj
      rw [byB_extract (by omega), ← byB_eq, hf] at this
      cases this
    have HY := Lib.hid hyes
    have HN := Lib.hid hnot
    clear hyes hnot
    generalize begB fold (s.extract n s.size) t = x at HY HN ⊢
    go_enter Tryd.func18, Tryd.ntmps18
    go_wp2_with (refine loadR rfl _ rfl w.heap.size c rfl HX.out ?_)
    refine (HP.out _).mono ?_
    rintro e w1 ⟨rfl, hb⟩
    have HB := Lib.hid (afterBox hb)
    clear hb
    go_wp2_with fail
    clear h2 h3 h4
    go_loopw [14] (fun i wr => ∃ k : Nat, k ≤ t.size ∧ i = .int .i64 k ∧ Hid (∀ j, j < k → eqB fold (byB s (n + j)) (byB t j) = true) ∧ Hid (Below w.heap.size w wr)) (fun i _ => t.size - (intOf i).toNat)
    case atStart => exact ⟨0, Nat.zero_le _, rfl, Lib.hid (fun j h => by omega), HB⟩
    case round =>
      obtain ⟨k, hk, rfl, HA, HB2⟩ := hrel
      by_cases hlt : k < t.size
      · have hks : n + k < s.size := by omega
        have b1 : t[k].toNat < 256 := t[k].toNat_lt
        have b2 : s[n + k].toNat < 256 := s[n + k].toNat_lt
        have e1 := byB_eq hks
        have e2 := byB_eq hlt
        have hk2 : (n : Int) + (k : Int) < (s.size : Int) := by omega
        have hstep : ∀ wr' : World, eqB fold (byB s (n + k)) (byB t k) = true → Below w.heap.size w wr' → (∃ k_1 : Nat, k_1 ≤ t.size ∧ Value.int IntKind.i64 ((k : Int) + 1) = .int .i64 k_1 ∧ Hid (∀ j, j < k_1 → eqB fold (byB s (n + j)) (byB t j) = true) ∧ Hid (Below w.heap.size w wr')) ∧ t.size - (intOf (.int .i64 ((k : Int) + 1))).toNat < t.size - (intOf (.int .i64 (k : Int))).toNat := fun wr' hq hw =>
          ⟨⟨k + 1, by omega, by go_num, Lib.hid (fun j hj => by
            rcases Nat.lt_or_ge j k with h | h
            · exact HA.out j h
            · obtain rfl : j = k := by omega
              exact hq), Lib.hid hw⟩, by simp [intOf]; omega⟩
        have HST := Lib.hid hstep
        have HE1 := Lib.hid e1
        have HE2 := Lib.hid e2
        clear hstep e1 e2
        by_cases he : t[k].toNat = s[n + k].toNat
        · have hq := Lib.hid (show eqB fold (byB s (n + k)) (byB t k) = true by rw [HE1.out, HE2.out, he]; unfold eqB; simp)
          have he2 : ((t[k].toNat : Int) != (s[n + k].toNat : Int)) = false := by rw [he]; simp
          clear he
          have S1 : IntKind.i64.wrap ((n : Int) + (k : Int)) = (n : Int) + (k : Int) := IntWalk.i64_in _ (by omega)
          have S2 : (0 : Int) ≤ (n : Int) + (k : Int) := by omega
          have S3 : ((n : Int) + (k : Int)).toNat = n + k := by omega
          go_wp2_with fail
          go_quiet (fail)
          go_wp2_with fail
          exact HST.out _ hq.out (below_drewN HB2.out _)
        · have he2 : ((t[k].toNat : Int) != (s[n + k].toNat : Int)) = true := by rw [bne_iff_ne]; exact fun e => he (Int.ofNat.inj e)
          have HNE := Lib.hid he
          clear he
          cases fold with
          | false =>
            have hq := Lib.hid (show x = false from HN.out k hlt (by rw [HE1.out, HE2.out]; unfold eqB; simp; exact fun e => HNE.out e.symm))
            have S1 : IntKind.i64.wrap ((n : Int) + (k : Int)) = (n : Int) + (k : Int) := IntWalk.i64_in _ (by omega)
            have S2 : (0 : Int) ≤ (n : Int) + (k : Int) := by omega
            have S3 : ((n : Int) + (k : Int)).toNat = n + k := by omega
            go_wp2_with fail
            go_quiet (fail)
            go_wp2_with fail
            all_goals
             go_ret2
             first | exact ⟨rfl, below_drewN HB2.out _⟩ | (have hf := hq.out; simp_all)
          | true =>
            by_cases hf : lowN t[k].toNat = lowN s[n + k].toNat
            · have hq := Lib.hid (show eqB true (byB s (n + k)) (byB t k) = true by rw [HE1.out, HE2.out, eqB_fold, hf]; simp)
              have hf2 : ((lowN t[k].toNat : Int) == (lowN s[n + k].toNat : Int)) = true := by rw [hf]; simp
              clear hf
              have S1 : IntKind.i64.wrap ((n : Int) + (k : Int)) = (n : Int) + (k : Int) := IntWalk.i64_in _ (by omega)
              have S2 : (0 : Int) ≤ (n : Int) + (k : Int) := by omega
              have S3 : ((n : Int) + (k : Int)).toNat = n + k := by omega
              go_wp2_with fail
              go_quiet (fail)
              go_wp2_with ((with_reducible refine (rlower_w _ (by assumption) _).mono ?_); rintro e w' ⟨rfl, rfl⟩)
              exact HST.out _ hq.out (below_drewN HB2.out _)
            · have hq := Lib.hid (show x = false from HN.out k hlt (by rw [HE1.out, HE2.out, eqB_fold, beq_eq_false_iff_ne]; exact fun e => hf e.symm))
              have hf2 : ((lowN t[k].toNat : Int) == (lowN s[n + k].toNat : Int)) = false := by rw [beq_eq_false_iff_ne]; exact fun e => hf (Int.ofNat.inj e)
              clear hf
              have S1 : IntKind.i64.wrap ((n : Int) + (k : Int)) = (n : Int) + (k : Int) := IntWalk.i64_in _ (by omega)
              have S2 : (0 : Int) ≤ (n : Int) + (k : Int) := by omega
              have S3 : ((n : Int) + (k : Int)).toNat = n + k := by omega
              go_wp2_with fail
              go_quiet (fail)
              go_wp2_with ((with_reducible refine (rlower_w _ (by assumption) _).mono ?_); rintro e w' ⟨rfl, rfl⟩)
              all_goals
               go_ret2
               first | exact ⟨rfl, below_drewN HB2.out _⟩ | (have hf := hq.out; simp_all)
      · have hke : k = t.size := by omega
        have hy : x = true := HY.out (Lib.hid fun j hj => HA.out j (by omega))
        have HYY := Lib.hid hy
        clear hy hke
        go_wp2_with fail
        go_ret2
        first | exact ⟨rfl, HB2.out⟩ | (have hf := HYY.out; simp_all)
end Go.Proofs.YtnapbmdbeihngaaDoor
