/-
  FacMath, FacLawKit
-/
import Derived.Test.YtkpijnodhlonfaaGreatDoorFacA
import Derived.Test.YtkpijnodhlonfaaGreatDoorAstI
import Derived.Test.YtkpijnodhlonfaaGreatDoorFacC
import Derived.Test.YtkpijnodhlonfaaGreatDoorAstCut
import Derived.Test.YtkpijnodhlonfaaGreatDoorRows
import Derived.ProofKit
import Derived.OpenShut
import Derived.Carry
namespace Go.Proofs.YtkpijnodhlonfaaGreatDoor
open Ast (Nd siz kidsZ siz_pos siz_le len len_succ len_bd timesZ plusZ moreZ rightZ deepZ cntG joinL wrapL Sh dep backB behB groupsB)
variable {l l' la lb : Nat → Nd} {c m n : Nat}

theorem cnt_none9 : ∀ n, cntTo (fun _ => false) n = 0
  | 0 => rfl
  | n + 1 => by simp [cntTo, cnt_none9 n]
/-- Some byte is in a set that is not empty: the least one. -/
theorem min_in9 {S : BitVec 256} (h : lenS S = 1) : minS S < 256 ∧ S.getLsbD (minS S) = true := by
  unfold minS
  cases hf : (List.range 256).find? S.getLsbD with
  | none =>
    exfalso
    have h1 := List.find?_eq_none.1 hf
    have h2 : cntTo S.getLsbD 256 = 0 := by
      rw [cntTo_congr (g := fun _ => false) 256 fun k hk => by simpa using h1 k (List.mem_range.2 hk)]
      exact cnt_none9 256
    unfold lenS at h
    omega
  | some x =>
    have h1 := List.find?_some hf
    have h2 := List.mem_range.1 (List.mem_of_find?_eq_some hf)
    exact ⟨h2, h1⟩
/-- The first byte of a prefix is one of the first ones. -/
def Heads (k : FK) : Prop := ∀ c t, k.pr.data.toList = c :: t → k.F.getLsbD c.toNat = true
theorem heads_or {S T : BitVec 256} {n : Nat} (h : S.getLsbD n = true ∨ T.getLsbD n = true) : (S ||| T).getLsbD n = true := by
  rw [BitVec.getLsbD_or]
  rcases h with h | h <;> simp [h]
theorem app_list (a b : ByteArray) : (a ++ b).data.toList = a.data.toList ++ b.data.toList := by
  rw [ByteArray.data_append, Array.toList_append]
theorem size_list (a : ByteArray) : a.size = a.data.toList.length := by cases a; rfl
theorem cut_head {k : FK} (h : Heads k) : Heads (cutK k) := by
  unfold cutK
  split
  · intro c t he
    refine h c (k.pr.data.toList.tail) ?_
    have h2 : (k.pr.extract 0 100).data.toList = k.pr.data.toList.take 100 := by
      rw [ByteArray.data_extract]; simp
    have he2 : k.pr.data.toList.take 100 = c :: t := by rw [← h2]; exact he
    cases hL : k.pr.data.toList with
    | nil => rw [hL] at he2; exact absurd he2 (by simp)
    | cons x y => rw [hL] at he2; simp at he2; rw [he2.1]; rfl
  · exact h
/-- What goes through all nodes. -/
structure Inv9 (k : FK) (L : Int × Int) : Prop where
  low : k.op = false → 1 ≤ L.1
  none : L.2 = 0 → k.op = true
  size : (k.pr.size : Int) ≤ L.1
  whole : k.wh = true → k.pr.size = 0 → k.op = true
  heads : Heads k
theorem heads_nil {k : FK} (h : k.pr = ByteArray.empty) : Heads k := by
  intro c t he
  rw [h] at he
  cases (show ([] : List UInt8) = c :: t from he)
theorem inv_em (a : Int) (ha : 0 ≤ a) (b : Int) : Inv9 emK (a, b) := ⟨fun h => tf h, fun _ => rfl, ha, fun _ _ => rfl, heads_nil rfl⟩
theorem inv_cat {z : Bool} {a b : FK} {p q p' q' : Int} (ha : Inv9 a (p, p')) (hb : Inv9 b (q, q')) (h1 : 0 ≤ p ∧ -1 ≤ p') (h2 : 0 ≤ q ∧ -1 ≤ q') (hs : a.pr.size ≤ 100) : Inv9 (catK z a b) (plusZ p q, plusZ p' q') := by
  have hop : (catK z a b).op = (a.op && b.op) := by unfold catK cutK; (repeat' split) <;> rfl
  have hF : (catK z a b).F = firK a b := by unfold catK cutK; (repeat' split) <;> rfl
  have a1 := ha.low
  have a2 := ha.none
  have a3 := ha.size
  have b1 := hb.low
  have b2 := hb.none
  have b3 := hb.size
  simp only at a1 a2 a3 b1 b2 b3
  have hp : plusZ p q = min (p + q) 1048576 := by unfold plusZ; rw [if_neg (by omega)]
  refine ⟨fun h => ?_, fun h => ?_, ?_, fun h h' => ?_, ?_⟩
  · rw [hop] at h
    show 1 ≤ plusZ p q
    rw [hp]
    rcases Bool.and_eq_false_iff.1 h with h | h
    · have := a1 h; omega
    · have := b1 h; omega
  · have h' : plusZ p' q' = 0 := h
    unfold plusZ at h'
    rw [hop]
    split at h'
    · omega
    · rw [a2 (by omega), b2 (by omega)]; rfl
  · show ((catK z a b).pr.size : Int) ≤ plusZ p q
    rw [hp]
    unfold catK
    split
    · unfold cutK
      split
      · rename_i h100
        simp only [size_app] at h100 ⊢
        rw [ByteArray.size_extract, size_app]
        omega
      · simp only [size_app] at *
        omega
    · show ((a.pr.size : Nat) : Int) ≤ _
      omega
  · rw [hop]
    unfold catK at h h'
    split at h
    · rename_i hw
      rw [if_pos hw] at h'
      unfold cutK at h h'
      split at h
      · exact ft h
      · rename_i h100
        rw [if_neg h100] at h'
        simp only [size_app] at h h'
        rw [ha.whole hw (by omega), hb.whole h (by omega)]
        rfl
    · exact ft h
  · unfold catK
    split
    · rename_i hw
      refine cut_head ?_
      intro c t he
      simp only [app_list] at he
      unfold firK
      cases hL : a.pr.data.toList with
      | nil =>
        rw [hL, List.nil_append] at he
        have h0 : a.pr.size = 0 := by rw [size_list, hL]; rfl
        rw [if_pos (ha.whole hw h0)]
        exact heads_or (.inr (hb.heads c t he))
      | cons x y =>
        rw [hL, List.cons_append, List.cons.injEq] at he
        have := ha.heads x y hL
        rw [he.1] at this
        show (if a.op = true then a.F ||| b.F else a.F).getLsbD c.toNat = true
        split
        · exact heads_or (.inl this)
        · exact this
    · intro c t he
      have := ha.heads c t he
      show (firK a b).getLsbD c.toNat = true
      unfold firK
      split
      · exact heads_or (.inl this)
      · exact this
theorem inv_all (l : Nat → Nd) : ∀ j, siz l j ≠ 0 → Inv9 (factZ l j) (len l j) := by
  intro j
  induction j using Nat.strongRecOn with
  | _ j ih =>
    intro hs
    cases j with
    | zero => exact absurd (by simp [siz, Ast.sizF]) hs
    | succ i =>
      have hle := siz_le l i
      obtain ⟨hf, ⟨hk, ha, hb, hz⟩ | ⟨hk, h0, ha, hb, hz⟩ | ⟨hk, h0, h1, ha, hb, hz⟩⟩ := siz_pos hs
      · rw [fact_k0 hk, len_succ, if_pos hk]
        unfold leafK
        by_cases h1 : (l i).k = 1
        · rw [if_pos h1, if_pos h1]
          unfold bytK
          by_cases hl : lenS (setOf (l i)) = 1
          · rw [if_pos hl]
            refine ⟨fun _ => by decide, fun h => absurd h (by decide), (show ((1 : Nat) : Int) ≤ 1 by decide), fun _ h => absurd h (Nat.succ_ne_zero 0), ?_⟩
            intro c t he
            obtain ⟨m1, m2⟩ := min_in9 hl
            have e : UInt8.ofNat (minS (setOf (l i))) = c := (List.cons.inj he).1
            show (setOf (l i)).getLsbD c.toNat = true
            rw [← e, show (UInt8.ofNat (minS (setOf (l i)))).toNat = minS (setOf (l i)) by simp [Nat.mod_eq_of_lt m1]]
            exact m2
          · rw [if_neg hl]
            exact ⟨fun _ => by decide, fun h => absurd h (by decide), (show ((0 : Nat) : Int) ≤ 1 by decide), fun h => ft h, heads_nil rfl⟩
        · rw [if_neg h1, if_neg h1]
          by_cases h2 : (l i).k = 2
          · rw [if_pos h2, if_neg (by omega)]
            exact ⟨fun h => tf h, fun _ => rfl, by decide, fun _ _ => rfl, heads_nil rfl⟩
          · rw [if_neg h2]
            by_cases h12 : (l i).k = 12
            · rw [if_pos h12, if_pos h12]
              exact ⟨fun h => tf h, fun _ => rfl, by decide, fun h => ft h, heads_nil rfl⟩
            · rw [if_neg h12, if_neg h12]
              exact inv_em 0 (by decide) 0
      · rw [fact_k1 hk, len_succ, if_neg (by omega), if_pos hk]
        have hi := ih i (by omega) h0
        have hb2 := len_bd l i h0
        have hsz := fact_le l i
        unfold oneK
        by_cases h10 : (l i).k = 10
        · rw [if_pos h10, if_pos h10]
          have hf' : 0 ≤ (l i).mn ∧ (l i).mn ≤ 100 ∧ (l i).mx ≤ 100 ∧ ((l i).mx = -1 ∨ (l i).mn ≤ (l i).mx) := by
            unfold Ast.fitsB at hf
            have := of_decide_eq_true hf
            omega
          have t0 : 0 ≤ timesZ (len l i).1 (l i).mn := by
            unfold timesZ
            split
            · exact Int.le_refl _
            · split
              · omega
              · have : 0 ≤ (len l i).1 * (l i).mn := Int.mul_nonneg hb2.1.1 hf'.1
                omega
          unfold repK
          by_cases hm : (l i).mx = 0
          · rw [if_pos hm]
            exact inv_em _ t0 _
          · rw [if_neg hm]
            by_cases hn : (l i).mn = 0
            · rw [if_pos hn]
              exact ⟨fun h => tf h, fun _ => rfl, t0, fun h => ft h, heads_nil rfl⟩
            · rw [if_neg hn]
              have tl : (len l i).1 = 0 ∨ min (len l i).1 1048576 ≤ timesZ (len l i).1 (l i).mn := by
                by_cases hz : (len l i).1 = 0
                · exact .inl hz
                · right
                  unfold timesZ
                  rw [if_neg (by omega), if_neg (by omega)]
                  have : (len l i).1 * 1 ≤ (len l i).1 * (l i).mn := Int.mul_le_mul_of_nonneg_left (by omega) hb2.1.1
                  omega
              have i1 := hi.low
              have i3 := hi.size
              refine ⟨fun h => ?_, fun h => ?_, ?_, fun h h' => ?_, ?_⟩
              · have := i1 h
                show 1 ≤ timesZ (len l i).1 (l i).mn
                omega
              · have h' : timesZ (len l i).2 (l i).mx = 0 := h
                refine hi.none ?_
                unfold timesZ at h'
                by_cases hz : (len l i).2 = 0
                · exact hz
                · rw [if_neg (by omega)] at h'
                  split at h'
                  · omega
                  · rename_i hng
                    have : (len l i).2 * 1 ≤ (len l i).2 * (l i).mx := Int.mul_le_mul_of_nonneg_left (by omega) (by omega)
                    omega
              · show ((factZ l i).pr.size : Int) ≤ timesZ (len l i).1 (l i).mn
                omega
              · simp only [Bool.and_eq_true] at h
                exact hi.whole h.1.1 h'
              · exact hi.heads
        · rw [if_neg h10, if_neg h10]
          by_cases h11 : (l i).k = 11 ∨ (l i).k = 17
          · rw [if_pos h11, if_pos h11]
            exact hi
          · rw [if_neg h11, if_neg h11]
            exact inv_em 0 (by decide) 0
      · rw [fact_k2 hk, len_succ, if_neg (by omega), if_neg (by omega)]
        have hi := ih i (by omega) h0
        have hj := ih (i - siz l i) (by omega) h1
        have b1 := len_bd l i h0
        have b2 := len_bd l (i - siz l i) h1
        unfold twoK
        by_cases h8 : (l i).k = 8
        · rw [if_pos h8, if_pos h8]
          exact inv_cat hj hi ⟨b2.1.1, b2.2.1⟩ ⟨b1.1.1, b1.2.1⟩ (fact_le l _)
        · rw [if_neg h8, if_neg h8]
          have j1 := hj.low
          have j2 := hj.none
          have i1 := hi.low
          have i2 := hi.none
          refine ⟨fun h => ?_, fun h => ?_, ?_, fun h _ => ft h, heads_nil rfl⟩
          · have h' : ((factZ l (i - siz l i)).op || (factZ l i).op) = false := h
            rw [Bool.or_eq_false_iff] at h'
            have := j1 h'.1
            have := i1 h'.2
            show 1 ≤ min _ _
            omega
          · have h' : moreZ (len l (i - siz l i)).2 (len l i).2 = 0 := h
            unfold moreZ at h'
            split at h'
            · omega
            · have e1 := b1.2.1
              have e2 := b2.2.1
              show ((factZ l (i - siz l i)).op || (factZ l i).op) = true
              rw [j2 (by omega)]
              rfl
          · show ((0 : Nat) : Int) ≤ min _ _
            omega

/-! Trees that are joined, and wrapped. -/
theorem leaf_same9 (x : Nd) (a b : Int) : leafK { x with a := a, b := b } = leafK x := rfl
theorem one_same9 (x : Nd) (a b : Int) (k : FK) : oneK { x with a := a, b := b } k = oneK x k := rfl
theorem sh_fact (h : Sh l' c l m) : ∀ j, j ≤ m → siz l j ≠ 0 → factZ l' (c + j) = factZ l j := by
  intro j
  induction j using Nat.strongRecOn with
  | _ j ih =>
    intro hj hs
    cases j with
    | zero => exact absurd (by simp [siz, Ast.sizF]) hs
    | succ k =>
      have hx := h k (by omega) hs
      have hk' : (l' (c + k)).k = (l k).k := by rw [hx]
      have hle := siz_le l k
      rw [show c + (k + 1) = c + k + 1 by omega]
      obtain ⟨hf, ⟨hk, ha, hb, he⟩ | ⟨hk, h0, ha, hb, he⟩ | ⟨hk, h0, h1, ha, hb, he⟩⟩ := siz_pos hs
      · rw [fact_k0 (by rw [hk']; exact hk), fact_k0 hk, hx]
        exact leaf_same9 _ _ _
      · rw [fact_k1 (by rw [hk']; exact hk), fact_k1 hk, ih k (by omega) (by omega) h0, hx]
        exact one_same9 _ _ _ _
      · rw [fact_k2 (by rw [hk']; exact hk), fact_k2 hk, hk', Ast.sh_siz h k (by omega) h0, show c + k - siz l k = c + (k - siz l k) by omega, ih k (by omega) (by omega) h0, ih (k - siz l k) (by omega) (by omega) h1, Ast.sh_len h (k - siz l k) (by omega) h1]
theorem fact_joined {k : Int} (hk : k = 8 ∨ k = 9) (hn : n ≤ 1000) (hm : m ≤ 1000) (h0 : 0 < n) (h1 : 0 < m) (ha : siz la n = n) (hb : siz lb m = m) : factZ (joinL la n lb m k) (n + m + 1) = twoK k (decide ((len la n).2 = 0)) (factZ la n) (factZ lb m) := by
  obtain ⟨e1, e2, -⟩ := Ast.join_in (kind := k) hk hn hm h0 h1 ha hb
  have ht := Ast.join_top la n lb m k
  have hkk : (joinL la n lb m k (n + m)).k = k := by rw [ht]
  have hk2 : kidsZ (joinL la n lb m k (n + m)).k = 2 := by rw [hkk]; unfold kidsZ; rw [if_pos hk]
  have s1 := sh_fact (Ast.sh_join_b la lb n m k (by omega) (by omega)) m (Nat.le_refl _) (by omega)
  have s2 := sh_fact (Ast.sh_join_a la lb n m k) n (Nat.le_refl _) (by omega)
  have s3 := Ast.sh_len (Ast.sh_join_a la lb n m k) n (Nat.le_refl _) (by omega)
  rw [Nat.zero_add] at s2 s3
  rw [fact_k2 hk2, hkk, e1, show n + m - m = n by omega, s1, s2, s3]
theorem fact_around {x : Nd} (hk : kidsZ x.k = 1) (h0 : 0 < n) (h : siz l n = n) : factZ (wrapL l n x) (n + 1) = oneK x (factZ l n) := by
  have s2 := sh_fact (Ast.sh_wrap l n x) n (Nat.le_refl _) (by omega)
  rw [Nat.zero_add] at s2
  have ht := Ast.wrap_top l n x
  have hk1 : kidsZ (wrapL l n x n).k = 1 := by rw [ht]; exact hk
  rw [fact_k1 hk1, s2, ht]
  exact one_same9 _ _ _ _
theorem whole9 (hr : rightZ l n = 0) : 0 < n ∧ siz l n = n ∧ n ≤ 500 := by
  have h1 : Ast.shapeZ l n = 0 := (Ast.right_0 hr).1
  have h2 : Ast.formZ l n = 0 := by unfold Ast.shapeZ at h1; split at h1 <;> omega
  have h3 := Ast.form_0 h2
  exact ⟨h3.2.1, h3.2.2, h3.1⟩
theorem whole_dep9 (h : rightZ l n = 0) : dep l n = deepZ l n := (Ast.deep_form (Ast.right_deep h)).2.1
theorem right_joined {k : Int} (hk : k = 8 ∨ k = 9) (ha : rightZ la n = 0) (hb : rightZ lb m = 0) (hg : cntG la n + cntG lb m = 0) (hd : deepZ la n < 40) (hd' : deepZ lb m < 40) (hn : n ≤ 60) (hm : m ≤ 60) : rightZ (joinL la n lb m k) (n + m + 1) = 0 := by
  obtain ⟨h1, z1, -⟩ := whole9 ha
  obtain ⟨h2, z2, -⟩ := whole9 hb
  have d1 := whole_dep9 ha
  have d2 := whole_dep9 hb
  obtain ⟨-, g1, b1⟩ := Ast.right_0 ha
  obtain ⟨-, g2, b2⟩ := Ast.right_0 hb
  have j3 := (Ast.join_in (kind := k) hk (by omega) (by omega) h1 h2 z1 z2).2.2
  have jd := Ast.join_dep (kind := k) hk (by omega) (by omega) h1 h2 z1 z2
  have k1 := Ast.back_shift (l := la) (l' := joinL la n lb m k) (c := 0) (mm := 0) n fun i hi => by rw [Nat.zero_add, Ast.join_a la n lb m k hi]; exact ⟨rfl, rfl⟩
  have k2 := Ast.beh_shift (Ast.sh_join_a la lb n m k) (fun i hi => Ast.siz_of_whole z1 hi) n (Nat.le_refl _)
  rw [Nat.zero_add] at k1 k2
  have hk11 : k ≠ 11 := by omega
  have hk12 : ¬ k = 12 := by omega
  have hk15 : ¬ (k = 15 ∨ k = 16) := by omega
  refine Ast.right_of (Ast.shape_of j3 (by omega) (by omega) (by rw [jd, d1, d2]; omega)) ?_ ?_
  · rw [Ast.groups_none (by rw [Ast.join_cnt _ _ _ _ _ hk11]; exact hg)]
    rw [Ast.groups_none (by omega)] at g1 g2
    rw [backB, Ast.back_shift (l := lb) m fun i hi => by rw [Ast.join_b la n lb m k hi]; exact ⟨Ast.mvN_k _ _, Ast.mvN_n _ _⟩, k1, g1, g2, Ast.join_top]
    simp [backB, hk12]
  · rw [behB, Ast.beh_shift (Ast.sh_join_b la lb n m k (by omega) (by omega)) (fun i hi => Ast.siz_of_whole z2 hi) m (Nat.le_refl _), k2, b1, b2, Ast.join_top]
    simp [behB, hk15]
/-- A repeat. -/
abbrev ndR (mn mx : Int) : Nd := ⟨10, 0, 0, 0, 0, 0, 0, mn, mx, 0, 0, false⟩
theorem back_top {x : Nd} (hx : x.k = 10) (mm : Nat) : backB (wrapL l n x) mm (n + 1) = backB l mm n := by
  have hb1 := Ast.back_shift (l := l) (l' := wrapL l n x) (c := 0) (mm := mm) n fun i hi => by rw [Nat.zero_add]; unfold wrapL; rw [if_pos hi]; exact ⟨rfl, rfl⟩
  rw [Nat.zero_add] at hb1
  rw [backB, hb1, Ast.wrap_top]
  simp [backB, hx]
theorem num_up {L : List Nat} (hL : ∀ i ∈ L, i < n) (hl : ∀ i, i < n → l' i = l i) : ∀ k, k ≤ L.length → Ast.numB l' L k = Ast.numB l L k
  | 0, _ => rfl
  | k + 1, h => by
    have hm : L.getD k 0 ∈ L := by
      rw [List.getD_eq_getElem?_getD, List.getElem?_eq_getElem (by omega)]
      exact List.getElem_mem _
    rw [Ast.numB, Ast.numB, num_up hL hl k (by omega), hl _ (hL _ hm)]
theorem right_turned {mn mx : Int} (hf : Ast.fitsB (ndR mn mx) = true) (h : rightZ l n = 0) (hd : deepZ l n < 40) (hn : n ≤ 60) : rightZ (wrapL l n (ndR mn mx)) (n + 1) = 0 := by
  obtain ⟨h1, z1, -⟩ := whole9 h
  have d1 := whole_dep9 h
  obtain ⟨-, g1, b1⟩ := Ast.right_0 h
  have hk : Ast.kidsZ (ndR mn mx).k = 1 := by show Ast.kidsZ 10 = 1; decide
  obtain ⟨w1, w2⟩ := Ast.wrap_in hk hf h1 z1
  have wd := Ast.wrap_dep (x := ndR mn mx) hk h1 z1
  have ht := Ast.wrap_top l n (ndR mn mx)
  have hgr : Ast.grp (wrapL l n (ndR mn mx)) (n + 1) = Ast.grp l n := by
    have hk1 : Ast.kidsZ (wrapL l n (ndR mn mx) n).k = 1 := by rw [ht]; exact hk
    have e : Ast.grp (wrapL l n (ndR mn mx)) (0 + n) = Ast.grp l n :=
      Ast.sh_fold (Ast.sh_wrap l n (ndR mn mx)) [] _ _ _ _ _ _ (fun _ _ _ => rfl) (fun i x hi _ => by rw [Nat.zero_add, show wrapL l n (ndR mn mx) i = l i from if_pos hi]) (fun _ _ _ _ _ => rfl) n (Nat.le_refl _) (by omega)
    rw [Nat.zero_add] at e
    rw [Ast.grp_succ, if_neg (by omega), if_pos hk1, e, if_neg (by rw [ht]; show ¬ (10 : Int) = 11; decide)]
  have hbh := Ast.beh_shift (Ast.sh_wrap l n (ndR mn mx)) (fun i hi => Ast.siz_of_whole z1 hi) n (Nat.le_refl _)
  rw [Nat.zero_add] at hbh
  refine Ast.right_of (Ast.shape_of w2 (by omega) (by omega) (by rw [wd, d1]; omega)) ?_ ?_
  · unfold Ast.groupsB at g1 ⊢
    rw [hgr, back_top rfl, num_up (n := n) (l := l) (l' := wrapL l n (ndR mn mx)) (fun i hi => (Ast.grp_mem l n (by omega) i hi).2.1) (fun i hi => if_pos hi) _ (Nat.le_refl _)]
    exact g1
  · rw [behB, hbh, b1, ht]
    simp [behB]
end Go.Proofs.YtkpijnodhlonfaaGreatDoor

namespace Go.Proofs.YtkpijnodhlonfaaGreatDoor
open Go.ChangeShapes Go.WideShapes Go.ChangeAt Go.RowKit
open Ast (Nd ndV Nodes rightZ siz len)

theorem cellsNode9 : Tryz.prog.cellsOf 59 = 12 := by kernel_rfl
theorem cellsSet9 : Tryz.prog.cellsOf 29 = 4 := by kernel_rfl
theorem cellsArr9 : Tryz.prog.cellsOf 27 = 4 := by kernel_rfl
theorem cellsU649 : Tryz.prog.cellsOf 26 = 1 := by kernel_rfl
theorem cellsInt9 : Tryz.prog.cellsOf 3 = 1 := by kernel_rfl
theorem cellsBool9 : Tryz.prog.cellsOf 4 = 1 := by kernel_rfl
theorem cellsTree9 : Tryz.prog.cellsOf 24 = 1 := by kernel_rfl
theorem cellsSl9 : Tryz.prog.cellsOf 22 = 1 := by kernel_rfl
/-- A word. -/
def Wd (z : Int) : Prop := 0 ≤ z ∧ z < 18446744073709551616
theorem wd_of {n : Int} (h : (Lit.int .u64 n).wf = true) : Wd n := by
  simp [Lit.wf, IntKind.min, IntKind.max, IntKind.signed, IntKind.bits] at h
  exact ⟨h.1, by omega⟩
/-- The words of a node's set. -/
def Wds (x : Nd) : Prop := Wd x.s0 ∧ Wd x.s1 ∧ Wd x.s2 ∧ Wd x.s3
theorem words9_of {x : Nd} (h : Wds x) : x.s0 = W (setOf x) 0 ∧ x.s1 = W (setOf x) 1 ∧ x.s2 = W (setOf x) 2 ∧ x.s3 = W (setOf x) 3 := by
  obtain ⟨⟨a0, a1⟩, ⟨b0, b1⟩, ⟨c0, c1⟩, d0, d1⟩ := h
  have e : setOf x = ofWords x.s0.toNat x.s1.toNat x.s2.toNat x.s3.toNat := by unfold setOf ofWords; rw [Nat.mul_comm (2 ^ 64), Nat.mul_comm (2 ^ 128), Nat.mul_comm (2 ^ 192)]
  have hW := W_ofWords (a := x.s0.toNat) (b := x.s1.toNat) (c := x.s2.toNat) (d := x.s3.toNat) (by omega) (by omega) (by omega) (by omega)
  rw [e, hW.1, hW.2.1, hW.2.2.1, hW.2.2.2]
  omega
section
variable {H : Type} {enc : TypeId × Value → H} {w : World} {base : Nat} {spare : Nat → Bool} {held : Bool}
set_option maxRecDepth 100000 in
theorem setCells9 {n : Nat} {cs : List Value} {x : DataW H × List MemPlace} (h : DataW.trod enc Tryz.prog w base spare held n 29 cs = some x) :
    ∃ a b c d : Int, cs = [.int .u64 a, .int .u64 b, .int .u64 c, .int .u64 d] ∧ Wd a ∧ Wd b ∧ Wd c ∧ Wd d := by
  obtain ⟨ys, m, -, -, hl, hsz, hf⟩ := DataW.trod_struct Tryz.underlying29 h
  rw [cellsSet9] at hl
  match cs, hl with
  | [c0, c1, c2, c3], _ =>
    have e : DataW.trod enc Tryz.prog w base spare held m 27 (List.take (Tryz.prog.cellsOf 27) (List.drop 0 [c0, c1, c2, c3])) = ys[0]? := hf 0 _ rfl
    rw [cellsArr9] at e
    simp only [List.drop_zero, List.take_succ_cons, List.take_zero] at e
    match ys, hsz with
    | [y0], _ =>
      simp only [List.getElem?_cons_zero] at e
      obtain ⟨xs, k, -, -, -, hlen, he⟩ := DataW.trod_array Tryz.underlying27 e
      match xs, hlen with
      | [x0, x1, x2, x3], _ =>
        have e0 := he 0 (by decide)
        have e1 := he 1 (by decide)
        have e2 := he 2 (by decide)
        have e3 := he 3 (by decide)
        simp [cellsU649] at e0 e1 e2 e3
        obtain ⟨n0, f0, -, w0⟩ := DataW.trod_int Tryz.underlying26 e0
        obtain ⟨n1, f1, -, w1⟩ := DataW.trod_int Tryz.underlying26 e1
        obtain ⟨n2, f2, -, w2⟩ := DataW.trod_int Tryz.underlying26 e2
        obtain ⟨n3, f3, -, w3⟩ := DataW.trod_int Tryz.underlying26 e3
        simp at f0 f1 f2 f3
        subst f0 f1 f2 f3
        exact ⟨_, _, _, _, rfl, wd_of w0, wd_of w1, wd_of w2, wd_of w3⟩
set_option maxRecDepth 100000 in
theorem nodeCells9 {n : Nat} {cs : List Value} {x : DataW H × List MemPlace} (h : DataW.trod enc Tryz.prog w base spare held n 59 cs = some x) : ∃ y : Nd, cs = Ast.ndC y ∧ Wds y := by
  obtain ⟨ys, m, -, -, hl, hsz, hf⟩ := DataW.trod_struct Tryz.underlying59 h
  rw [cellsNode9] at hl
  match cs, hl with
  | [c0, c1, c2, c3, c4, c5, c6, c7, c8, c9, c10, c11], _ =>
    match ys, hsz with
    | [y0, y1, y2, y3, y4, y5, y6, y7, y8], _ =>
      have e0 := hf 0 _ rfl
      have e1 := hf 1 _ rfl
      have e2 := hf 2 _ rfl
      have e3 := hf 3 _ rfl
      have e4 := hf 4 _ rfl
      have e5 := hf 5 _ rfl
      have e6 := hf 6 _ rfl
      have e7 := hf 7 _ rfl
      have e8 := hf 8 _ rfl
      simp [cellsInt9, cellsBool9, cellsSet9] at e0 e1 e2 e3 e4 e5 e6 e7 e8
      obtain ⟨n0, f0, -, -⟩ := DataW.trod_int Tryz.underlying3 e0
      obtain ⟨n1, f1, -, -⟩ := DataW.trod_int Tryz.underlying3 e1
      obtain ⟨n2, f2, -, -⟩ := DataW.trod_int Tryz.underlying3 e2
      obtain ⟨s0, s1, s2, s3, f3, k0, k1, k2, k3⟩ := setCells9 e3
      obtain ⟨n4, f4, -, -⟩ := DataW.trod_int Tryz.underlying3 e4
      obtain ⟨n5, f5, -, -⟩ := DataW.trod_int Tryz.underlying3 e5
      obtain ⟨n6, f6, -, -⟩ := DataW.trod_int Tryz.underlying3 e6
      obtain ⟨n7, f7, -, -⟩ := DataW.trod_int Tryz.underlying3 e7
      obtain ⟨n8, f8, -⟩ := DataW.trod_bool Tryz.underlying4 e8
      simp at f0 f1 f2 f3 f4 f5 f6 f7 f8
      obtain ⟨g0, g1, g2, g3⟩ := f3
      subst f0 f1 f2 f4 f5 f6 f7 f8 g0 g1 g2 g3
      exact ⟨⟨n0, n1, n2, s0, s1, s2, s3, n4, n5, n6, n7, n8⟩, rfl, k0, k1, k2, k3⟩
end
set_option maxRecDepth 100000 in
/-- A tree that came in. -/
theorem openTree9 {H : Type} {enc : TypeId × Value → H} {w : World} {base b0 : Nat} {r : Reach} {spare : Nat → Bool} {held : Bool} {v : Value} {d : DataW H} {p : List MemPlace}
    (hv : Value.okWide Tryz.prog w r b0 24 v) (h : DataW.Trod enc Tryz.prog w base spare held 24 v d p) :
    ∃ (A : Option Addr) (n cap : Nat) (l : Nat → Nd), v = .agg #[.slice A n cap] ∧ n ≤ cap ∧ cap ≤ maxLen ∧ (A = none → n = 0 ∧ cap = 0) ∧ Nodes w A n l ∧ ∀ i, i < n → Wds (l i) := by
  obtain ⟨cs, rfl, hsz⟩ := okWide_struct Tryz.underlying24 hv
  rw [cellsTree9] at hsz
  obtain ⟨fuel, hf⟩ := h
  obtain ⟨ys, m, -, -, -, hys, hfl⟩ := DataW.trod_struct Tryz.underlying24 hf
  match cs, hsz with
  | ⟨[c0]⟩, _ =>
    match ys, hys with
    | [y0], _ =>
      have e : DataW.trod enc Tryz.prog w base spare held m 22 (List.take (Tryz.prog.cellsOf 22) (List.drop 0 [c0])) = [y0][0]? := hfl 0 _ rfl
      rw [cellsSl9] at e
      simp only [List.drop_zero, List.take_succ_cons, List.take_zero, List.getElem?_cons_zero] at e
      rcases DataW.trod_slice Tryz.underlying22 e with ⟨h1, -⟩ | ⟨a, len, cap, elems, rest, k, -, h1, -, hb, hle, hmax, hlen, hel, -, -⟩
      · cases h1
        exact ⟨none, 0, 0, fun _ => ⟨0, 0, 0, 0, 0, 0, 0, 0, 0, 0, 0, false⟩, rfl, Nat.le_refl _, Nat.zero_le _, fun _ => ⟨rfl, rfl⟩, fun i hi => by omega, fun i hi => by omega⟩
      · cases h1
        rw [cellsNode9] at hel
        have hnd : ∀ i, i < len → ∃ y : Nd, w.cells? base (a.add (i * 12)) 12 = some (Ast.ndC y) ∧ Wds y := fun i hi => by
          have h2 := hel i hi
          rw [List.getElem?_eq_getElem (by omega)] at h2
          obtain ⟨cs, h3, h4⟩ := Option.bind_eq_some_iff.1 h2
          obtain ⟨y, rfl, hw⟩ := nodeCells9 h4
          exact ⟨y, h3, hw⟩
        obtain ⟨l, hL⟩ : ∃ l : Nat → Nd, ∀ i, i < len → w.cells? base (a.add (i * 12)) 12 = some (Ast.ndC (l i)) ∧ Wds (l i) :=
          ⟨fun i => if hi : i < len then Classical.choose (hnd i hi) else ⟨0, 0, 0, 0, 0, 0, 0, 0, 0, 0, 0, false⟩, fun i hi => by
            simp only [dif_pos hi]; exact Classical.choose_spec (hnd i hi)⟩
        refine ⟨some a, len, cap, l, rfl, hle, hmax, (fun h => by cases h), fun i hi => ?_, fun i hi => (hL i hi).2⟩
        obtain ⟨-, -, hc⟩ := World.cells?_some (hL i hi).1
        obtain ⟨b, off, spot⟩ := a
        have hspot : spot = none := by
          obtain ⟨-, -, hc0⟩ := World.cells?_some (hL 0 (by omega)).1
          have h1 : w.cell? (((⟨b, off, spot⟩ : Addr).add (0 * 12)).add 0) = some (.int .i64 (l 0).k) := hc0 0 (by decide)
          simpa [Addr.add] using World.cell?_spot h1
        subst hspot
        have hcell : ∀ j, j < 12 → w.cell? ⟨b, off + i * 12 + j, none⟩ = (Ast.ndC (l i))[j]? := fun j hj => by
          rw [← hc j hj, add_plain, add_plain]
        exact ⟨b, off, rfl, block_lt_of_cell (hcell 0 (by decide)), Ast.at12_of hcell⟩
set_option maxRecDepth 100000 in
/-- It reads behind the call as before it. -/
theorem againTree9 {H : Type} {enc : TypeId × Value → H} {W W' : World} {v : Value} {d : DataW H} {ps : List MemPlace} (h : DataW.Trod enc Tryz.prog W 0 (fun _ => true) true 24 v d ps) (hb : Below W.heap.size W W') (hlt : ∀ x ∈ ps, x.block < W.heap.size) :
    DataW.Trod enc Tryz.prog W' 0 (fun b => decide (b < W.heap.size)) true 24 v d ps := Below.trod (by kernel_rfl) (by kernel_rfl) (of_decide_eq_true (by kernel_rfl)) h hb hlt
theorem lit9_of {l : Nat → Nd} {n : Nat} (h : ∀ i, i < n → Wds (l i)) : LitOk9 l n := fun i hi _ => words9_of (h i hi)
theorem cellsFacts9 : Tryz.prog.cellsOf 31 = 7 := by kernel_rfl
theorem cellsStr9 : Tryz.prog.cellsOf 9 = 1 := by kernel_rfl
set_option maxRecDepth 100000 in
/-- Facts that came in. -/
theorem openFacts9 {H : Type} {enc : TypeId × Value → H} {w : World} {base b0 : Nat} {r : Reach} {spare : Nat → Bool} {held : Bool} {v : Value} {d : DataW H} {p : List MemPlace}
    (hv : Value.okWide Tryz.prog w r b0 31 v) (h : DataW.Trod enc Tryz.prog w base spare held 31 v d p) : ∃ k : FK, v = .agg (facC k) := by
  obtain ⟨cs, rfl, hsz⟩ := okWide_struct Tryz.underlying31 hv
  obtain ⟨fuel, hf⟩ := h
  obtain ⟨ys, m, -, -, hl, hys, hfl⟩ := DataW.trod_struct Tryz.underlying31 hf
  rw [cellsFacts9] at hl
  match cs, hl with
  | ⟨[c0, c1, c2, c3, c4, c5, c6]⟩, _ =>
    match ys, hys with
    | [y0, y1, y2, y3], _ =>
      have e0 := hfl 0 _ rfl
      have e1 := hfl 1 _ rfl
      have e2 := hfl 2 _ rfl
      have e3 := hfl 3 _ rfl
      try simp [cellsSet9] at e0
      try simp [cellsBool9] at e1
      try simp [cellsBool9] at e2
      try simp [cellsStr9] at e3
      obtain ⟨s0, s1, s2, s3, f0, k0, k1, k2, k3⟩ := setCells9 e0
      obtain ⟨b1, f1, -⟩ := DataW.trod_bool Tryz.underlying4 e1
      obtain ⟨b2, f2, -⟩ := DataW.trod_bool Tryz.underlying4 e2
      obtain ⟨t, f3, -, -⟩ := DataW.trod_string Tryz.underlying9 e3
      have r0 : [c0, c1, c2, c3] = [Value.int .u64 s0, .int .u64 s1, .int .u64 s2, .int .u64 s3] := f0
      have r1 : [c4] = [Value.bool b1] := f1
      have r2 : [c5] = [Value.bool b2] := f2
      have r3 : [c6] = [Value.string t] := f3
      simp at r0 r1 r2 r3
      obtain ⟨g0, g1, g2, g3⟩ := r0
      subst g0 g1 g2 g3 r1 r2 r3
      obtain ⟨a0, a1⟩ := k0
      obtain ⟨b0, b1'⟩ := k1
      obtain ⟨c0, c1'⟩ := k2
      obtain ⟨d0, d1'⟩ := k3
      have hW := W_ofWords (a := s0.toNat) (b := s1.toNat) (c := s2.toNat) (d := s3.toNat) (by omega) (by omega) (by omega) (by omega)
      refine ⟨⟨ofWords s0.toNat s1.toNat s2.toNat s3.toNat, b1, b2, t, false⟩, ?_⟩
      show _ = Value.agg #[.int .u64 (W _ 0 : Nat), .int .u64 (W _ 1 : Nat), .int .u64 (W _ 2 : Nat), .int .u64 (W _ 3 : Nat), .bool b1, .bool b2, .string t]
      rw [hW.1, hW.2.1, hW.2.2.1, hW.2.2.2, Int.toNat_of_nonneg a0, Int.toNat_of_nonneg b0, Int.toNat_of_nonneg c0, Int.toNat_of_nonneg d0]
set_option maxRecDepth 100000 in
theorem againFacts9 {H : Type} {enc : TypeId × Value → H} {W W' : World} {v : Value} {d : DataW H} {ps : List MemPlace} (h : DataW.Trod enc Tryz.prog W 0 (fun _ => true) true 31 v d ps) (hb : Below W.heap.size W W') (hlt : ∀ x ∈ ps, x.block < W.heap.size) :
    DataW.Trod enc Tryz.prog W' 0 (fun b => decide (b < W.heap.size)) true 31 v d ps := Below.trod (by kernel_rfl) (by kernel_rfl) (of_decide_eq_true (by kernel_rfl)) h hb hlt
theorem BoxF.zr {w : World} {g : Nat} (h : BoxF w g zrK) : BoxV 31 w g #[.int .u64 0, .int .u64 0, .int .u64 0, .int .u64 0, .bool false, .bool false, .string ⟨#[]⟩] := by
  rw [← zrF]; exact h
theorem BoxF.c4 {w : World} {g : Nat} {k : FK} (h : BoxF w g k) : w.cell? ⟨g, 4, none⟩ = some (.bool k.op) := BoxV.get h 4 rfl
/-! The opening of a walk over a tree. -/
/-- The first tree's box, and the tree. -/
structure LBx (w0 : World) (A : Option Addr) (m cap : Nat) (l : Nat → Nd) (w : World) : Prop where
  below : Below w0.heap.size w0 w
  tree : BoxV 24 w w0.heap.size (trC A m cap)
  nodes : Nodes w A m l
  tabs : Tabs w
theorem LBx.call {w0 w w' : World} {A : Option Addr} {m cap : Nat} {l : Nat → Nd} (h : LBx w0 A m cap l w) (hb : Below w.heap.size w w') : LBx w0 A m cap l w' :=
  ⟨thenB h.below hb h.below.size, h.tree.below hb h.tree.lt, h.nodes.below hb (Nat.le_refl _), h.tabs.call hb⟩
section
variable {ops : Array Oper} {rest : List Oper} {o : Oper} {a : Act} {w : World} {Q : Exit → Act → World → Prop}
theorem storeTr9 (hgd : o.guard = none) (x y : Operand) (ho : o.op = .store 24 x y) (g : Nat) (cs : Array Value) (A : Option Addr) (n cap : Nat) (hx : a.eval x = .pointer (some ⟨g, 0, none⟩)) (hy : a.eval y = .agg (trC A n cap)) (hs : cs.size = 1) (hg : BoxV 24 w g cs)
    (h : ∀ u : World, Hid (BoxV 24 u g (trC A n cap)) → Hid (∀ B, B ≤ g → Below B w u) → wpList Tryz.prog ops Q rest (a.put o.dst undef) u) : wpList Tryz.prog ops Q (o :: rest) a w := by
  refine wpList_store_row hgd 24 x y ho g _ hx hy _ _ hg sizeTr (by rw [hs]; rfl) (by simp [Value.oneCell']) ?_
  exact h _ (Lib.hid (setRow_heap w g _ _ _ _ hg)) (Lib.hid fun B hB => (Below.refl _ w).trans ⟨rfl, rfl, rfl, by simp, fun k hk => setRow_other w g k _ (by omega)⟩)
theorem loadFcs (hgd : o.guard = none) (x : Operand) (ho : o.op = .load 31 x) (g : Nat) (cs : Array Value) (hs : cs.size = 7) (hx : a.eval x = .pointer (some ⟨g, 0, none⟩)) (hg : BoxV 31 w g cs)
    (h : wpList Tryz.prog ops Q rest (a.put o.dst (.agg cs)) w) : wpList Tryz.prog ops Q (o :: rest) a w :=
  wpList_load_row hgd 31 x ho g hx _ _ _ _ hg Tryz.underlying31 rfl (by rw [hs]; exact sizeFc) h
theorem storeF9n (hgd : o.guard = none) (x y : Operand) (ho : o.op = .store 31 x y) (wr : World) (k : FK) (hx : a.eval x = .pointer (some ⟨wr.heap.size, 0, none⟩)) (hy : a.eval y = .agg (facC k)) (hw : w = wr.alloc (.cells #[.int .u64 0, .int .u64 0, .int .u64 0, .int .u64 0, .bool false, .bool false, .string ⟨#[]⟩] 31))
    (h : ∀ u : World, Hid (BoxF u wr.heap.size k) → Hid (Below wr.heap.size wr u) → wpList Tryz.prog ops Q rest (a.put o.dst undef) u) : wpList Tryz.prog ops Q (o :: rest) a w := by
  subst hw
  refine storeFc hgd x y ho wr.heap.size k _ hx hy (by rfl) (BoxV.new _ _) fun u h1 h2 _ => ?_
  exact h u h1 (Lib.hid (((Below.refl _ wr).alloc (Nat.le_refl _) _).trans (h2.out _ (Nat.le_refl _))))
end
end Go.Proofs.YtkpijnodhlonfaaGreatDoor
