import Derived.Test.YteggpecbeagohaaGreatDoorCapWithM
namespace Go.Proofs.YteggpecbeagohaaGreatDoor.Cap
open Go.RowKit
def lowN (n : Nat) : Nat := if 65 ≤ n ∧ n ≤ 90 then n + 32 else n
theorem lower_any (n : Nat) (h : n < 256) (w : World) : Calls Tryz.prog 148 #[.int .u8 (n : Int)] w fun e w' => e = .returned (.int .u8 (lowN n : Nat)) ∧ w = w' := by
 unfold lowN
 by_cases h1 : 65 ≤ n
 ·by_cases h2 : n ≤ 90
  ·rw [if_pos ⟨h1, h2⟩]
   go_enter Tryz.func148, Tryz.ntmps148
   go_wp2
   go_ret
   exact ⟨rfl, rfl⟩
  ·rw [if_neg (by omega)]
   have h3 : decide ((n : Int) ≤ 90) = false := decide_eq_false (by omega)
   go_enter Tryz.func148, Tryz.ntmps148
   go_wp2
   go_ret
   exact ⟨rfl, rfl⟩
 ·rw [if_neg (by omega)]
  have h3 : decide (65 ≤ (n : Int)) = false := decide_eq_false (by omega)
  go_enter Tryz.func148, Tryz.ntmps148
  go_wp2
  go_ret
  exact ⟨rfl, rfl⟩
theorem lower_q (n : Nat) (h : n < 256) (w : World) : Calls Tryz.prog 148 #[.int .u8 (n : Int)] w fun e w' => e = .returned (.int .u8 (lowN n : Nat)) ∧ w' = w :=
 (lower_any n h w).mono fun _ _ h => ⟨h.1, h.2.symm⟩
def byB (s : ByteArray) (i : Nat) : Nat := if h : i < s.size then s[i].toNat else 0
theorem byB_eq {s : ByteArray} {i : Nat} (h : i < s.size) : byB s i = s[i].toNat := by unfold byB; rw [dif_pos h]
def eqB (fold : Bool) (a b : Nat) : Bool := a == b || (fold && lowN a == lowN b)
theorem eqB_fold (a b : Nat) : eqB true a b = (lowN a == lowN b) := by
 unfold eqB
 by_cases h : a = b
 ·subst h; simp
 ·simp [h]
def begB (fold : Bool) (s p : ByteArray) : Bool := decide (p.size ≤ s.size) && (List.range p.size).all fun i => eqB fold (byB s i) (byB p i)
theorem begB_iff (fold : Bool) (s p : ByteArray) : begB fold s p = true ↔ p.size ≤ s.size ∧ ∀ i, i < p.size → eqB fold (byB s i) (byB p i) = true := by
 unfold begB
 rw [Bool.and_eq_true, decide_eq_true_eq, List.all_eq_true]
 simp only [List.mem_range]
theorem begB_no {fold : Bool} {s p : ByteArray} (h : ¬ (p.size ≤ s.size ∧ ∀ i, i < p.size → eqB fold (byB s i) (byB p i) = true)) : begB fold s p = false := by
 cases hb : begB fold s p with
 | false => rfl
 | true => exact absurd ((begB_iff _ _ _).1 hb) h
set_option maxRecDepth 20000 in
theorem begins_fold (s p : ByteArray) (hs : s.size ≤ maxLen) (w : World) : Calls Tryz.prog 124 #[.string s, .string p, .bool true] w fun e w' => e = .returned (.bool (begB true s p)) ∧ Below w.heap.size w w' := by
 unfold maxLen at hs
 by_cases hz : s.size < p.size
 ·rw [begB_no (fun e => by omega)]
  go_enter Tryz.func124, Tryz.ntmps124
  go_wp2
  go_ret
  exact ⟨rfl, Below.refl _ _⟩
 ·go_enter Tryz.func124, Tryz.ntmps124
  go_wp2
  go_loopw [20] (fun i wr => ∃ k : Nat, k ≤ p.size ∧ i = .int .i64 k ∧ Hid (∀ j, j < k → lowN (byB s j) = lowN (byB p j)) ∧ Hid (Below w.heap.size w wr)) (fun i _ => p.size - (intOf i).toNat)
  case atStart => exact ⟨0, Nat.zero_le _, rfl, Lib.hid (fun j h => by omega), Lib.hid (Below.refl _ _)⟩
  case round =>
   obtain ⟨k, hk, rfl, HA, HB⟩ := hrel
   by_cases hlt : k < p.size
   ·have hks : k < s.size := by omega
    have b1 : s[k].toNat < 256 := s[k].toNat_lt
    have b2 : p[k].toNat < 256 := p[k].toNat_lt
    by_cases he : lowN s[k].toNat = lowN p[k].toNat
    ·have he2 : ((lowN s[k].toNat : Int) == (lowN p[k].toNat : Int)) = true := by rw [he]; simp
     have HE := Lib.hid he
     clear he
     go_wp2_with fail
     go_quiet ((go_at_call 148; exact Calls.quiet_of_same (lower_q _ (by assumption) _)))
     go_wp2_with fail
     have e1 := byB_eq hks
     have e2 := byB_eq hlt
     exact ⟨⟨k + 1, by omega, by go_num, Lib.hid (fun j hj => by
      rcases Nat.lt_or_ge j k with h | h
      ·exact HA.out j h
      ·obtain rfl : j = k := by omega
       rw [e1, e2]; exact HE.out), Lib.hid (below_drewN HB.out nq)⟩, by simp [intOf]; omega⟩
    ·have he2 : ((lowN s[k].toNat : Int) != (lowN p[k].toNat : Int)) = true := by
      rw [bne_iff_ne]; intro e; exact he (Int.ofNat.inj e)
     have hn : begB true s p = false := begB_no (fun e => he (by
      have := e.2 k hlt
      rw [eqB_fold, beq_iff_eq, byB_eq hks, byB_eq hlt] at this
      exact this))
     have HN := Lib.hid hn
     clear he hn
     go_wp2_with fail
     go_quiet ((go_at_call 148; exact Calls.quiet_of_same (lower_q _ (by assumption) _)))
     go_wp2_with fail
     go_ret
     exact ⟨ret_b HN.out.symm, below_drewN HB.out _⟩
   ·have hke : k = p.size := by omega
    have hy : begB true s p = true := (begB_iff _ _ _).2 ⟨by omega, fun j hj => by rw [eqB_fold, beq_iff_eq]; exact HA.out j (by omega)⟩
    have HY := Lib.hid hy
    clear hy hke
    go_wp2_with fail
    go_ret
    exact ⟨ret_b HY.out.symm, HB.out⟩
theorem byB_list {s : ByteArray} {i : Nat} (h : i < s.data.toList.length) : byB s i = (s.data.toList[i]).toNat := by
 rw [byB_eq (by simpa using h)]
 rfl
theorem prefix_eq (s p : ByteArray) : Lib.hasPrefix s.data.toList p.data.toList = begB false s p := by
 rw [Bool.eq_iff_iff, begB_iff]
 unfold Lib.hasPrefix
 rw [List.isPrefixOf_iff_prefix]
 have eb : ∀ i, eqB false (byB s i) (byB p i) = true ↔ byB s i = byB p i := fun i => by unfold eqB; simp
 have ls : s.data.toList.length = s.size := by simp
 have lp : p.data.toList.length = p.size := by simp
 constructor
 ·rintro ⟨t, ht⟩
  have hl : p.size ≤ s.size := by rw [← ls, ← lp, ← ht]; simp
  refine ⟨hl, fun i hi => (eb i).2 ?_⟩
  rw [byB_list (by omega), byB_list (by omega)]
  congr 1
  rw [← Option.some_inj, ← List.getElem?_eq_getElem, ← List.getElem?_eq_getElem, ← ht, List.getElem?_append_left (by omega)]
 ·rintro ⟨hl, h⟩
  rw [List.prefix_iff_eq_take]
  refine List.ext_getElem (by simp; omega) fun i h1 h2 => ?_
  have e := (eb i).1 (h i (by omega))
  rw [byB_list (by omega), byB_list h1] at e
  rw [List.getElem_take]
  exact (UInt8.toNat_inj.1 e).symm
theorem begins_any (L : LibA) (fold : Bool) (s p : ByteArray) (hs : s.size ≤ maxLen) (w : World) : Calls Tryz.prog 124 #[.string s, .string p, .bool fold] w fun e w' => e = .returned (.bool (begB fold s p)) ∧ Below w.heap.size w w' := by
 cases fold with
 | true => exact begins_fold s p hs w
 | false =>
   have HP := Lib.hid (fun w => L.pre s p w)
   rw [← prefix_eq]
   generalize Lib.hasPrefix s.data.toList p.data.toList = X at HP ⊢
   clear L
   go_enter Tryz.func124, Tryz.ntmps124
   go_wp2_with fail
   refine (HP.out _).mono ?_
   rintro e w1 ⟨rfl, rfl⟩
   go_wp2_with fail
   go_ret
   exact ⟨rfl, Below.refl _ _⟩
end Go.Proofs.YteggpecbeagohaaGreatDoor.Cap
