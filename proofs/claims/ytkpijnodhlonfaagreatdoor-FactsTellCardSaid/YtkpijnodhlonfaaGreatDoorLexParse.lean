/-
  Layer 6, the library's strconv.ParseUint of two bytes to the base 16.
-/
import Derived.Test.YtkpijnodhlonfaaGreatDoorLexLead
import Derived.Lib.ConvBytes
namespace Go.Proofs.YtkpijnodhlonfaaGreatDoor
open Go.RowKit

theorem or_u8 (c : Nat) (hc : c < 256) : bits BinOp.or IntKind.u8 (c : Int) 32 = ((c ||| 32 : Nat) : Int) := by
  have h : ∀ c : Fin 256, bits BinOp.or IntKind.u8 ((c.val : Nat) : Int) 32 = ((c.val ||| 32 : Nat) : Int) := by decide +kernel
  exact h ⟨c, hc⟩
theorem lower_any (c : Nat) (w : World) (hc : c < 256) : Calls Tryz.prog 159 #[.int .u8 (c : Int)] w fun e w' => e = .returned (.int .u8 ((c ||| 32 : Nat) : Int)) ∧ w = w' := by
  have H := Lib.hid (or_u8 c hc)
  go_enter Tryz.func159, Tryz.ntmps159
  go_wp2_with fail
  go_ret
  exact ⟨by rw [← H.out]; rfl, rfl⟩
/-- How a byte is read: as a digit, as a letter that is one, as another letter, as none. -/
inductive Kd (a L : Nat) : Int → Prop
  | dig : 48 ≤ a → a ≤ 57 → Kd a L ((a : Int) - 48)
  | low : 57 < a → 97 ≤ L → L ≤ 102 → a ≠ 95 → Kd a L ((L : Int) - 87)
  | high : 57 < a → 103 ≤ L → L ≤ 122 → a ≠ 95 → Kd a L (-1)
  | un1 : a < 48 → L < 97 → Kd a L (-1)
  | un2 : 57 < a → L < 97 → a ≠ 95 → Kd a L (-1)
  | over : 57 < a → 122 < L → a ≠ 95 → Kd a L (-1)
  | line : a = 95 → L = 127 → Kd a L (-1)
theorem hex_low (a : Nat) (h : a < 256) : (57 < a → 97 ≤ a ||| 32 → a ||| 32 ≤ 102 → hexZ a = ((a ||| 32 : Nat) : Int) - 87 ∧ a ≠ 95) ∧ ((a < 48 ∨ 57 < a) → (a ||| 32 < 97 ∨ 102 < a ||| 32) → hexZ a = -1) ∧ (a ||| 32 ≤ 122 → a ≠ 95) ∧ (a < 48 → a ||| 32 < 97) := by
  have H : ∀ a : Fin 256, (57 < a.val → 97 ≤ a.val ||| 32 → a.val ||| 32 ≤ 102 → hexZ a.val = ((a.val ||| 32 : Nat) : Int) - 87 ∧ a.val ≠ 95) ∧ ((a.val < 48 ∨ 57 < a.val) → (a.val ||| 32 < 97 ∨ 102 < a.val ||| 32) → hexZ a.val = -1) ∧ (a.val ||| 32 ≤ 122 → a.val ≠ 95) ∧ (a.val < 48 → a.val ||| 32 < 97) := by decide +kernel
  exact H ⟨a, h⟩
theorem kd_of (a : Nat) (h : a < 256) : Kd a (a ||| 32) (hexZ a) := by
  obtain ⟨h1, h2, h3, h4⟩ := hex_low a h
  by_cases hd : 48 ≤ a ∧ a ≤ 57
  · rw [show hexZ a = (a : Int) - 48 by unfold hexZ; rw [if_pos hd]]
    exact .dig hd.1 hd.2
  · by_cases h48 : a < 48
    · rw [h2 (.inl h48) (.inl (h4 h48))]; exact .un1 h48 (h4 h48)
    · have h57 : 57 < a := by omega
      by_cases hl : a ||| 32 < 97
      · rw [h2 (.inr h57) (.inl hl)]; exact .un2 h57 hl (h3 (by omega))
      · by_cases hm : a ||| 32 ≤ 102
        · rw [(h1 h57 (by omega) hm).1]; exact .low h57 (by omega) hm (h3 (by omega))
        · rw [h2 (.inr h57) (.inr (by omega))]
          by_cases hu : a = 95
          · exact .line hu (by subst hu; rfl)
          · by_cases hk : a ||| 32 ≤ 122
            · exact .high h57 (by omega) hk hu
            · exact .over h57 (by omega) hu
theorem parse_open (s : ByteArray) (a b : Nat) (w : World) (hs : s.size = 2) (ha : bt s 0 = a) (hb : bt s 1 = b) :
    ∃ cap W, (convert 9 97 (.string s)).run Tryz.prog w = .ok (.slice (some ⟨w.heap.size, 0, none⟩) 2 cap) W ∧ W.cell? ⟨w.heap.size, 0, none⟩ = some (.int .u8 (a : Int)) ∧ W.cell? ⟨w.heap.size, 1, none⟩ = some (.int .u8 (b : Int)) ∧ Below w.heap.size w W := by
  have hg : ∀ j, j < s.size → (s.data.toList.getD j 0).toNat = bt s j := fun j hj => by
    rw [bt_at hj, List.getD_eq_getElem?_getD, Array.getElem?_toList]
    rw [Array.getElem?_eq_getElem (show j < s.data.size from hj)]
    rfl
  refine ⟨grownCap w s.size 0 5, Lib.bytesWorld w 5 s, ?_, ?_, ?_, ?_⟩
  · rw [Lib.run_convert_string_bytes w 9 97 5 s Tryz.underlying9 Tryz.underlying97 Tryz.underlying5, hs]
  · rw [Lib.bytesWorld_cell w _ s 0 (by omega), hg 0 (by omega), ha]
  · rw [Lib.bytesWorld_cell w _ s 1 (by omega), hg 1 (by omega), hb]
  · unfold Lib.bytesWorld
    have h1 := ((Below.refl w.heap.size w).drew).alloc (Nat.le_refl _) (.cells (Lib.bytesCells w 5 s) 5)
    refine h1.trans ?_
    unfold World.freeze
    split
    · exact Below.refl _ _
    · exact ⟨rfl, rfl, rfl, by simp, fun k hk => by
        simp only [Array.getElem?_modify]
        rw [if_neg (by omega)]⟩
/-- What the library's ParseUint answers. -/
def ParsR (x y : Int) : Value := if 0 ≤ x ∧ 0 ≤ y then .tuple #[.int .u64 (16 * x + y), .nilIface] else .tuple #[.int .u64 0, .iface 198 (.int .i64 2)]
theorem pars_bad {x y : Int} (h : ¬ (0 ≤ x ∧ 0 ≤ y)) : ParsR x y = .tuple #[.int .u64 0, .iface 198 (.int .i64 2)] := if_neg h
theorem pars_ok {x y : Int} (h : 0 ≤ x ∧ 0 ≤ y) : ParsR x y = .tuple #[.int .u64 (16 * x + y), .nilIface] := if_pos h
theorem ret_pn {a b : Int} (h : a = b) : Ending.returned (.tuple #[.int .u64 a, .nilIface]) = .returned (.tuple #[.int .u64 b, .nilIface]) := by rw [h]
theorem ret_v {v u : Value} (h : v = u) : Ending.returned v = .returned u := by rw [h]
set_option maxRecDepth 100000 in
set_option maxHeartbeats 8000000 in
theorem iparse_dig (s : ByteArray) (a b L M : Nat) (w : World) (hs : s.size = 2) (ha : bt s 0 = a) (hb : bt s 1 = b) (ha2 : a < 256) (hb2 : b < 256) (hL2 : L < 256) (hM2 : M < 256) (y : Int)
    (HLa : ∀ w, Calls Tryz.prog 159 #[.int .u8 (a : Int)] w fun e w' => e = .returned (.int .u8 (L : Int)) ∧ w = w') (HMb : ∀ w, Calls Tryz.prog 159 #[.int .u8 (b : Int)] w fun e w' => e = .returned (.int .u8 (M : Int)) ∧ w = w')
    (f0 : (48 : Int) ≤ (a : Int))
    (f1 : (a : Int) ≤ 57)
    (f2 : ¬ (a : Int) = 95)
    (hk : Kd b M y)
    : Calls Tryz.prog 152 #[.string s, .int .i64 16, .int .i64 8] w fun e w' => e = .returned (ParsR ((a : Int) - 48) y) ∧ Below w.heap.size w w' := by
  have hu : a < 256 ∧ b < 256 ∧ L < 256 ∧ M < 256 := ⟨ha2, hb2, hL2, hM2⟩
  clear hu
  have h0 : 0 < s.size := by omega
  have h1 : 1 < s.size := by omega
  have hz : (s.size : Int) = 2 := by omega
  have hne := str_ne (s := s) (by omega)
  obtain ⟨cap, W, hcv, c0, c1, hbw⟩ := parse_open s a b w hs ha hb
  have HB := Lib.hid hbw
  have HL := Lib.hid HLa
  have HM := Lib.hid HMb
  clear hbw ha hb HLa HMb hs
  cases hk with
  | dig g0 g1 =>
    have k0 : (48 : Int) ≤ (b : Int) := by omega
    have k1 : (b : Int) ≤ 57 := by omega
    have k2 : ¬ (b : Int) = 95 := by omega
    clear g0 g1
    rw [pars_ok (by omega)]
    go_enter Tryz.func152, Tryz.ntmps152
    go_wp2_with fail
    refine wp_loop_rounds 3 ?_
    rw [rounds_succ]; go_wp2_with fail
    rw [rounds_succ]; go_wp2_with fail
    rw [rounds_succ]; go_wp2_with fail
    go_ret2
    exact ⟨ret_pn (by omega), HB.out⟩
  | low g0 g1 g2 g3 =>
    have k0 : (48 : Int) ≤ (b : Int) := by omega
    have k1 : ¬ (b : Int) ≤ 57 := by omega
    have k2 : ¬ (b : Int) = 95 := by omega
    have k3 : (97 : Int) ≤ (M : Int) := by omega
    have k4 : (M : Int) ≤ 122 := by omega
    have k5 : (M : Int) ≤ 102 := by omega
    clear g0 g1 g2 g3
    rw [pars_ok (by omega)]
    go_enter Tryz.func152, Tryz.ntmps152
    go_wp2_with fail
    refine wp_loop_rounds 3 ?_
    rw [rounds_succ]; go_wp2_with fail
    rw [rounds_succ]; go_wp2_with fail
    refine (HM.out _).mono ?_
    rintro e w1 ⟨rfl, rfl⟩
    go_wp2_with fail
    refine (HM.out _).mono ?_
    rintro e w1 ⟨rfl, rfl⟩
    go_wp2_with fail
    refine (HM.out _).mono ?_
    rintro e w1 ⟨rfl, rfl⟩
    go_wp2_with fail
    rw [rounds_succ]; go_wp2_with fail
    go_ret2
    exact ⟨ret_pn (by omega), HB.out⟩
  | high g0 g1 g2 g3 =>
    have k0 : (48 : Int) ≤ (b : Int) := by omega
    have k1 : ¬ (b : Int) ≤ 57 := by omega
    have k2 : ¬ (b : Int) = 95 := by omega
    have k3 : (97 : Int) ≤ (M : Int) := by omega
    have k4 : (M : Int) ≤ 122 := by omega
    have k5 : (103 : Int) ≤ (M : Int) := by omega
    clear g0 g1 g2 g3
    rw [pars_bad (by omega)]
    go_enter Tryz.func152, Tryz.ntmps152
    go_wp2_with fail
    refine wp_loop_rounds 3 ?_
    rw [rounds_succ]; go_wp2_with fail
    rw [rounds_succ]; go_wp2_with fail
    refine (HM.out _).mono ?_
    rintro e w1 ⟨rfl, rfl⟩
    go_wp2_with fail
    refine (HM.out _).mono ?_
    rintro e w1 ⟨rfl, rfl⟩
    go_wp2_with fail
    refine (HM.out _).mono ?_
    rintro e w1 ⟨rfl, rfl⟩
    go_wp2_with fail
    go_ret2
    exact ⟨rfl, HB.out⟩
  | un1 g0 g1 =>
    have k0 : ¬ (48 : Int) ≤ (b : Int) := by omega
    have k1 : ¬ (b : Int) = 95 := by omega
    have k2 : ¬ (97 : Int) ≤ (M : Int) := by omega
    clear g0 g1
    rw [pars_bad (by omega)]
    go_enter Tryz.func152, Tryz.ntmps152
    go_wp2_with fail
    refine wp_loop_rounds 3 ?_
    rw [rounds_succ]; go_wp2_with fail
    rw [rounds_succ]; go_wp2_with fail
    refine (HM.out _).mono ?_
    rintro e w1 ⟨rfl, rfl⟩
    go_wp2_with fail
    go_ret2
    exact ⟨rfl, HB.out⟩
  | un2 g0 g1 g2 =>
    have k0 : (48 : Int) ≤ (b : Int) := by omega
    have k1 : ¬ (b : Int) ≤ 57 := by omega
    have k2 : ¬ (b : Int) = 95 := by omega
    have k3 : ¬ (97 : Int) ≤ (M : Int) := by omega
    clear g0 g1 g2
    rw [pars_bad (by omega)]
    go_enter Tryz.func152, Tryz.ntmps152
    go_wp2_with fail
    refine wp_loop_rounds 3 ?_
    rw [rounds_succ]; go_wp2_with fail
    rw [rounds_succ]; go_wp2_with fail
    refine (HM.out _).mono ?_
    rintro e w1 ⟨rfl, rfl⟩
    go_wp2_with fail
    go_ret2
    exact ⟨rfl, HB.out⟩
  | over g0 g1 g2 =>
    have k0 : (48 : Int) ≤ (b : Int) := by omega
    have k1 : ¬ (b : Int) ≤ 57 := by omega
    have k2 : ¬ (b : Int) = 95 := by omega
    have k3 : (97 : Int) ≤ (M : Int) := by omega
    have k4 : ¬ (M : Int) ≤ 122 := by omega
    clear g0 g1 g2
    rw [pars_bad (by omega)]
    go_enter Tryz.func152, Tryz.ntmps152
    go_wp2_with fail
    refine wp_loop_rounds 3 ?_
    rw [rounds_succ]; go_wp2_with fail
    rw [rounds_succ]; go_wp2_with fail
    refine (HM.out _).mono ?_
    rintro e w1 ⟨rfl, rfl⟩
    go_wp2_with fail
    refine (HM.out _).mono ?_
    rintro e w1 ⟨rfl, rfl⟩
    go_wp2_with fail
    go_ret2
    exact ⟨rfl, HB.out⟩
  | line g0 g1 =>
    subst g0 g1
    have HM : Hid (∀ w, Calls Tryz.prog 159 #[.int .u8 95] w fun e w' => e = .returned (.int .u8 127) ∧ w = w') := HM
    clear hb2 hM2
    rw [pars_bad (by omega)]
    go_enter Tryz.func152, Tryz.ntmps152
    go_wp2_with fail
    refine wp_loop_rounds 3 ?_
    rw [rounds_succ]; go_wp2_with fail
    rw [rounds_succ]; go_wp2_with fail
    refine (HM.out _).mono ?_
    rintro e w1 ⟨rfl, rfl⟩
    go_wp2_with fail
    refine (HM.out _).mono ?_
    rintro e w1 ⟨rfl, rfl⟩
    go_wp2_with fail
    go_ret2
    exact ⟨rfl, HB.out⟩
set_option maxRecDepth 100000 in
set_option maxHeartbeats 8000000 in
theorem iparse_low (s : ByteArray) (a b L M : Nat) (w : World) (hs : s.size = 2) (ha : bt s 0 = a) (hb : bt s 1 = b) (ha2 : a < 256) (hb2 : b < 256) (hL2 : L < 256) (hM2 : M < 256) (y : Int)
    (HLa : ∀ w, Calls Tryz.prog 159 #[.int .u8 (a : Int)] w fun e w' => e = .returned (.int .u8 (L : Int)) ∧ w = w') (HMb : ∀ w, Calls Tryz.prog 159 #[.int .u8 (b : Int)] w fun e w' => e = .returned (.int .u8 (M : Int)) ∧ w = w')
    (f0 : (48 : Int) ≤ (a : Int))
    (f1 : ¬ (a : Int) ≤ 57)
    (f2 : ¬ (a : Int) = 95)
    (f3 : (97 : Int) ≤ (L : Int))
    (f4 : (L : Int) ≤ 122)
    (f5 : (L : Int) ≤ 102)
    (hk : Kd b M y)
    : Calls Tryz.prog 152 #[.string s, .int .i64 16, .int .i64 8] w fun e w' => e = .returned (ParsR ((L : Int) - 87) y) ∧ Below w.heap.size w w' := by
  have hu : a < 256 ∧ b < 256 ∧ L < 256 ∧ M < 256 := ⟨ha2, hb2, hL2, hM2⟩
  clear hu
  have h0 : 0 < s.size := by omega
  have h1 : 1 < s.size := by omega
  have hz : (s.size : Int) = 2 := by omega
  have hne := str_ne (s := s) (by omega)
  obtain ⟨cap, W, hcv, c0, c1, hbw⟩ := parse_open s a b w hs ha hb
  have HB := Lib.hid hbw
  have HL := Lib.hid HLa
  have HM := Lib.hid HMb
  clear hbw ha hb HLa HMb hs
  cases hk with
  | dig g0 g1 =>
    have k0 : (48 : Int) ≤ (b : Int) := by omega
    have k1 : (b : Int) ≤ 57 := by omega
    have k2 : ¬ (b : Int) = 95 := by omega
    clear g0 g1
    rw [pars_ok (by omega)]
    go_enter Tryz.func152, Tryz.ntmps152
    go_wp2_with fail
    refine wp_loop_rounds 3 ?_
    rw [rounds_succ]; go_wp2_with fail
    refine (HL.out _).mono ?_
    rintro e w1 ⟨rfl, rfl⟩
    go_wp2_with fail
    refine (HL.out _).mono ?_
    rintro e w1 ⟨rfl, rfl⟩
    go_wp2_with fail
    refine (HL.out _).mono ?_
    rintro e w1 ⟨rfl, rfl⟩
    go_wp2_with fail
    rw [rounds_succ]; go_wp2_with fail
    rw [rounds_succ]; go_wp2_with fail
    go_ret2
    exact ⟨ret_pn (by omega), HB.out⟩
  | low g0 g1 g2 g3 =>
    have k0 : (48 : Int) ≤ (b : Int) := by omega
    have k1 : ¬ (b : Int) ≤ 57 := by omega
    have k2 : ¬ (b : Int) = 95 := by omega
    have k3 : (97 : Int) ≤ (M : Int) := by omega
    have k4 : (M : Int) ≤ 122 := by omega
    have k5 : (M : Int) ≤ 102 := by omega
    clear g0 g1 g2 g3
    rw [pars_ok (by omega)]
    go_enter Tryz.func152, Tryz.ntmps152
    go_wp2_with fail
    refine wp_loop_rounds 3 ?_
    rw [rounds_succ]; go_wp2_with fail
    refine (HL.out _).mono ?_
    rintro e w1 ⟨rfl, rfl⟩
    go_wp2_with fail
    refine (HL.out _).mono ?_
    rintro e w1 ⟨rfl, rfl⟩
    go_wp2_with fail
    refine (HL.out _).mono ?_
    rintro e w1 ⟨rfl, rfl⟩
    go_wp2_with fail
    rw [rounds_succ]; go_wp2_with fail
    refine (HM.out _).mono ?_
    rintro e w1 ⟨rfl, rfl⟩
    go_wp2_with fail
    refine (HM.out _).mono ?_
    rintro e w1 ⟨rfl, rfl⟩
    go_wp2_with fail
    refine (HM.out _).mono ?_
    rintro e w1 ⟨rfl, rfl⟩
    go_wp2_with fail
    rw [rounds_succ]; go_wp2_with fail
    go_ret2
    exact ⟨ret_pn (by omega), HB.out⟩
  | high g0 g1 g2 g3 =>
    have k0 : (48 : Int) ≤ (b : Int) := by omega
    have k1 : ¬ (b : Int) ≤ 57 := by omega
    have k2 : ¬ (b : Int) = 95 := by omega
    have k3 : (97 : Int) ≤ (M : Int) := by omega
    have k4 : (M : Int) ≤ 122 := by omega
    have k5 : (103 : Int) ≤ (M : Int) := by omega
    clear g0 g1 g2 g3
    rw [pars_bad (by omega)]
    go_enter Tryz.func152, Tryz.ntmps152
    go_wp2_with fail
    refine wp_loop_rounds 3 ?_
    rw [rounds_succ]; go_wp2_with fail
    refine (HL.out _).mono ?_
    rintro e w1 ⟨rfl, rfl⟩
    go_wp2_with fail
    refine (HL.out _).mono ?_
    rintro e w1 ⟨rfl, rfl⟩
    go_wp2_with fail
    refine (HL.out _).mono ?_
    rintro e w1 ⟨rfl, rfl⟩
    go_wp2_with fail
    rw [rounds_succ]; go_wp2_with fail
    refine (HM.out _).mono ?_
    rintro e w1 ⟨rfl, rfl⟩
    go_wp2_with fail
    refine (HM.out _).mono ?_
    rintro e w1 ⟨rfl, rfl⟩
    go_wp2_with fail
    refine (HM.out _).mono ?_
    rintro e w1 ⟨rfl, rfl⟩
    go_wp2_with fail
    go_ret2
    exact ⟨rfl, HB.out⟩
  | un1 g0 g1 =>
    have k0 : ¬ (48 : Int) ≤ (b : Int) := by omega
    have k1 : ¬ (b : Int) = 95 := by omega
    have k2 : ¬ (97 : Int) ≤ (M : Int) := by omega
    clear g0 g1
    rw [pars_bad (by omega)]
    go_enter Tryz.func152, Tryz.ntmps152
    go_wp2_with fail
    refine wp_loop_rounds 3 ?_
    rw [rounds_succ]; go_wp2_with fail
    refine (HL.out _).mono ?_
    rintro e w1 ⟨rfl, rfl⟩
    go_wp2_with fail
    refine (HL.out _).mono ?_
    rintro e w1 ⟨rfl, rfl⟩
    go_wp2_with fail
    refine (HL.out _).mono ?_
    rintro e w1 ⟨rfl, rfl⟩
    go_wp2_with fail
    rw [rounds_succ]; go_wp2_with fail
    refine (HM.out _).mono ?_
    rintro e w1 ⟨rfl, rfl⟩
    go_wp2_with fail
    go_ret2
    exact ⟨rfl, HB.out⟩
  | un2 g0 g1 g2 =>
    have k0 : (48 : Int) ≤ (b : Int) := by omega
    have k1 : ¬ (b : Int) ≤ 57 := by omega
    have k2 : ¬ (b : Int) = 95 := by omega
    have k3 : ¬ (97 : Int) ≤ (M : Int) := by omega
    clear g0 g1 g2
    rw [pars_bad (by omega)]
    go_enter Tryz.func152, Tryz.ntmps152
    go_wp2_with fail
    refine wp_loop_rounds 3 ?_
    rw [rounds_succ]; go_wp2_with fail
    refine (HL.out _).mono ?_
    rintro e w1 ⟨rfl, rfl⟩
    go_wp2_with fail
    refine (HL.out _).mono ?_
    rintro e w1 ⟨rfl, rfl⟩
    go_wp2_with fail
    refine (HL.out _).mono ?_
    rintro e w1 ⟨rfl, rfl⟩
    go_wp2_with fail
    rw [rounds_succ]; go_wp2_with fail
    refine (HM.out _).mono ?_
    rintro e w1 ⟨rfl, rfl⟩
    go_wp2_with fail
    go_ret2
    exact ⟨rfl, HB.out⟩
  | over g0 g1 g2 =>
    have k0 : (48 : Int) ≤ (b : Int) := by omega
    have k1 : ¬ (b : Int) ≤ 57 := by omega
    have k2 : ¬ (b : Int) = 95 := by omega
    have k3 : (97 : Int) ≤ (M : Int) := by omega
    have k4 : ¬ (M : Int) ≤ 122 := by omega
    clear g0 g1 g2
    rw [pars_bad (by omega)]
    go_enter Tryz.func152, Tryz.ntmps152
    go_wp2_with fail
    refine wp_loop_rounds 3 ?_
    rw [rounds_succ]; go_wp2_with fail
    refine (HL.out _).mono ?_
    rintro e w1 ⟨rfl, rfl⟩
    go_wp2_with fail
    refine (HL.out _).mono ?_
    rintro e w1 ⟨rfl, rfl⟩
    go_wp2_with fail
    refine (HL.out _).mono ?_
    rintro e w1 ⟨rfl, rfl⟩
    go_wp2_with fail
    rw [rounds_succ]; go_wp2_with fail
    refine (HM.out _).mono ?_
    rintro e w1 ⟨rfl, rfl⟩
    go_wp2_with fail
    refine (HM.out _).mono ?_
    rintro e w1 ⟨rfl, rfl⟩
    go_wp2_with fail
    go_ret2
    exact ⟨rfl, HB.out⟩
  | line g0 g1 =>
    subst g0 g1
    have HM : Hid (∀ w, Calls Tryz.prog 159 #[.int .u8 95] w fun e w' => e = .returned (.int .u8 127) ∧ w = w') := HM
    clear hb2 hM2
    rw [pars_bad (by omega)]
    go_enter Tryz.func152, Tryz.ntmps152
    go_wp2_with fail
    refine wp_loop_rounds 3 ?_
    rw [rounds_succ]; go_wp2_with fail
    refine (HL.out _).mono ?_
    rintro e w1 ⟨rfl, rfl⟩
    go_wp2_with fail
    refine (HL.out _).mono ?_
    rintro e w1 ⟨rfl, rfl⟩
    go_wp2_with fail
    refine (HL.out _).mono ?_
    rintro e w1 ⟨rfl, rfl⟩
    go_wp2_with fail
    rw [rounds_succ]; go_wp2_with fail
    refine (HM.out _).mono ?_
    rintro e w1 ⟨rfl, rfl⟩
    go_wp2_with fail
    refine (HM.out _).mono ?_
    rintro e w1 ⟨rfl, rfl⟩
    go_wp2_with fail
    go_ret2
    exact ⟨rfl, HB.out⟩
set_option maxRecDepth 100000 in
set_option maxHeartbeats 8000000 in
theorem iparse_high (s : ByteArray) (a b L M : Nat) (w : World) (hs : s.size = 2) (ha : bt s 0 = a) (hb : bt s 1 = b) (ha2 : a < 256) (hb2 : b < 256) (hL2 : L < 256) (hM2 : M < 256) (y : Int)
    (HLa : ∀ w, Calls Tryz.prog 159 #[.int .u8 (a : Int)] w fun e w' => e = .returned (.int .u8 (L : Int)) ∧ w = w') (HMb : ∀ w, Calls Tryz.prog 159 #[.int .u8 (b : Int)] w fun e w' => e = .returned (.int .u8 (M : Int)) ∧ w = w')
    (f0 : (48 : Int) ≤ (a : Int))
    (f1 : ¬ (a : Int) ≤ 57)
    (f2 : ¬ (a : Int) = 95)
    (f3 : (97 : Int) ≤ (L : Int))
    (f4 : (L : Int) ≤ 122)
    (f5 : (103 : Int) ≤ (L : Int))
    : Calls Tryz.prog 152 #[.string s, .int .i64 16, .int .i64 8] w fun e w' => e = .returned (ParsR (-1) y) ∧ Below w.heap.size w w' := by
  have hu : a < 256 ∧ b < 256 ∧ L < 256 ∧ M < 256 := ⟨ha2, hb2, hL2, hM2⟩
  clear hu
  have h0 : 0 < s.size := by omega
  have h1 : 1 < s.size := by omega
  have hz : (s.size : Int) = 2 := by omega
  have hne := str_ne (s := s) (by omega)
  obtain ⟨cap, W, hcv, c0, c1, hbw⟩ := parse_open s a b w hs ha hb
  have HB := Lib.hid hbw
  have HL := Lib.hid HLa
  have HM := Lib.hid HMb
  clear hbw ha hb HLa HMb hs
  rw [pars_bad (by omega)]
  go_enter Tryz.func152, Tryz.ntmps152
  go_wp2_with fail
  refine wp_loop_rounds 3 ?_
  rw [rounds_succ]; go_wp2_with fail
  refine (HL.out _).mono ?_
  rintro e w1 ⟨rfl, rfl⟩
  go_wp2_with fail
  refine (HL.out _).mono ?_
  rintro e w1 ⟨rfl, rfl⟩
  go_wp2_with fail
  refine (HL.out _).mono ?_
  rintro e w1 ⟨rfl, rfl⟩
  go_wp2_with fail
  go_ret2
  exact ⟨rfl, HB.out⟩
set_option maxRecDepth 100000 in
set_option maxHeartbeats 8000000 in
theorem iparse_un1 (s : ByteArray) (a b L M : Nat) (w : World) (hs : s.size = 2) (ha : bt s 0 = a) (hb : bt s 1 = b) (ha2 : a < 256) (hb2 : b < 256) (hL2 : L < 256) (hM2 : M < 256) (y : Int)
    (HLa : ∀ w, Calls Tryz.prog 159 #[.int .u8 (a : Int)] w fun e w' => e = .returned (.int .u8 (L : Int)) ∧ w = w') (HMb : ∀ w, Calls Tryz.prog 159 #[.int .u8 (b : Int)] w fun e w' => e = .returned (.int .u8 (M : Int)) ∧ w = w')
    (f0 : ¬ (48 : Int) ≤ (a : Int))
    (f1 : ¬ (a : Int) = 95)
    (f2 : ¬ (97 : Int) ≤ (L : Int))
    : Calls Tryz.prog 152 #[.string s, .int .i64 16, .int .i64 8] w fun e w' => e = .returned (ParsR (-1) y) ∧ Below w.heap.size w w' := by
  have hu : a < 256 ∧ b < 256 ∧ L < 256 ∧ M < 256 := ⟨ha2, hb2, hL2, hM2⟩
  clear hu
  have h0 : 0 < s.size := by omega
  have h1 : 1 < s.size := by omega
  have hz : (s.size : Int) = 2 := by omega
  have hne := str_ne (s := s) (by omega)
  obtain ⟨cap, W, hcv, c0, c1, hbw⟩ := parse_open s a b w hs ha hb
  have HB := Lib.hid hbw
  have HL := Lib.hid HLa
  have HM := Lib.hid HMb
  clear hbw ha hb HLa HMb hs
  rw [pars_bad (by omega)]
  go_enter Tryz.func152, Tryz.ntmps152
  go_wp2_with fail
  refine wp_loop_rounds 3 ?_
  rw [rounds_succ]; go_wp2_with fail
  refine (HL.out _).mono ?_
  rintro e w1 ⟨rfl, rfl⟩
  go_wp2_with fail
  go_ret2
  exact ⟨rfl, HB.out⟩
set_option maxRecDepth 100000 in
set_option maxHeartbeats 8000000 in
theorem iparse_un2 (s : ByteArray) (a b L M : Nat) (w : World) (hs : s.size = 2) (ha : bt s 0 = a) (hb : bt s 1 = b) (ha2 : a < 256) (hb2 : b < 256) (hL2 : L < 256) (hM2 : M < 256) (y : Int)
    (HLa : ∀ w, Calls Tryz.prog 159 #[.int .u8 (a : Int)] w fun e w' => e = .returned (.int .u8 (L : Int)) ∧ w = w') (HMb : ∀ w, Calls Tryz.prog 159 #[.int .u8 (b : Int)] w fun e w' => e = .returned (.int .u8 (M : Int)) ∧ w = w')
    (f0 : (48 : Int) ≤ (a : Int))
    (f1 : ¬ (a : Int) ≤ 57)
    (f2 : ¬ (a : Int) = 95)
    (f3 : ¬ (97 : Int) ≤ (L : Int))
    : Calls Tryz.prog 152 #[.string s, .int .i64 16, .int .i64 8] w fun e w' => e = .returned (ParsR (-1) y) ∧ Below w.heap.size w w' := by
  have hu : a < 256 ∧ b < 256 ∧ L < 256 ∧ M < 256 := ⟨ha2, hb2, hL2, hM2⟩
  clear hu
  have h0 : 0 < s.size := by omega
  have h1 : 1 < s.size := by omega
  have hz : (s.size : Int) = 2 := by omega
  have hne := str_ne (s := s) (by omega)
  obtain ⟨cap, W, hcv, c0, c1, hbw⟩ := parse_open s a b w hs ha hb
  have HB := Lib.hid hbw
  have HL := Lib.hid HLa
  have HM := Lib.hid HMb
  clear hbw ha hb HLa HMb hs
  rw [pars_bad (by omega)]
  go_enter Tryz.func152, Tryz.ntmps152
  go_wp2_with fail
  refine wp_loop_rounds 3 ?_
  rw [rounds_succ]; go_wp2_with fail
  refine (HL.out _).mono ?_
  rintro e w1 ⟨rfl, rfl⟩
  go_wp2_with fail
  go_ret2
  exact ⟨rfl, HB.out⟩
set_option maxRecDepth 100000 in
set_option maxHeartbeats 8000000 in
theorem iparse_over (s : ByteArray) (a b L M : Nat) (w : World) (hs : s.size = 2) (ha : bt s 0 = a) (hb : bt s 1 = b) (ha2 : a < 256) (hb2 : b < 256) (hL2 : L < 256) (hM2 : M < 256) (y : Int)
    (HLa : ∀ w, Calls Tryz.prog 159 #[.int .u8 (a : Int)] w fun e w' => e = .returned (.int .u8 (L : Int)) ∧ w = w') (HMb : ∀ w, Calls Tryz.prog 159 #[.int .u8 (b : Int)] w fun e w' => e = .returned (.int .u8 (M : Int)) ∧ w = w')
    (f0 : (48 : Int) ≤ (a : Int))
    (f1 : ¬ (a : Int) ≤ 57)
    (f2 : ¬ (a : Int) = 95)
    (f3 : (97 : Int) ≤ (L : Int))
    (f4 : ¬ (L : Int) ≤ 122)
    : Calls Tryz.prog 152 #[.string s, .int .i64 16, .int .i64 8] w fun e w' => e = .returned (ParsR (-1) y) ∧ Below w.heap.size w w' := by
  have hu : a < 256 ∧ b < 256 ∧ L < 256 ∧ M < 256 := ⟨ha2, hb2, hL2, hM2⟩
  clear hu
  have h0 : 0 < s.size := by omega
  have h1 : 1 < s.size := by omega
  have hz : (s.size : Int) = 2 := by omega
  have hne := str_ne (s := s) (by omega)
  obtain ⟨cap, W, hcv, c0, c1, hbw⟩ := parse_open s a b w hs ha hb
  have HB := Lib.hid hbw
  have HL := Lib.hid HLa
  have HM := Lib.hid HMb
  clear hbw ha hb HLa HMb hs
  rw [pars_bad (by omega)]
  go_enter Tryz.func152, Tryz.ntmps152
  go_wp2_with fail
  refine wp_loop_rounds 3 ?_
  rw [rounds_succ]; go_wp2_with fail
  refine (HL.out _).mono ?_
  rintro e w1 ⟨rfl, rfl⟩
  go_wp2_with fail
  refine (HL.out _).mono ?_
  rintro e w1 ⟨rfl, rfl⟩
  go_wp2_with fail
  go_ret2
  exact ⟨rfl, HB.out⟩
set_option maxRecDepth 100000 in
set_option maxHeartbeats 8000000 in
theorem iparse_line (s : ByteArray) (b : Nat) (w : World) (hs : s.size = 2) (ha : bt s 0 = 95) (hb : bt s 1 = b) (y : Int)
    (HLa : ∀ w, Calls Tryz.prog 159 #[.int .u8 95] w fun e w' => e = .returned (.int .u8 127) ∧ w = w')
    : Calls Tryz.prog 152 #[.string s, .int .i64 16, .int .i64 8] w fun e w' => e = .returned (ParsR (-1) y) ∧ Below w.heap.size w w' := by
  have h0 : 0 < s.size := by omega
  have h1 : 1 < s.size := by omega
  have hz : (s.size : Int) = 2 := by omega
  have hne := str_ne (s := s) (by omega)
  obtain ⟨cap, W, hcv, c0, -, hbw⟩ := parse_open s 95 b w hs ha hb
  have HB := Lib.hid hbw
  have HL := Lib.hid HLa
  clear hbw ha hb HLa hs
  rw [pars_bad (by omega)]
  go_enter Tryz.func152, Tryz.ntmps152
  go_wp2_with fail
  refine wp_loop_rounds 3 ?_
  rw [rounds_succ]; go_wp2_with fail
  refine (HL.out _).mono ?_
  rintro e w1 ⟨rfl, rfl⟩
  go_wp2_with fail
  refine (HL.out _).mono ?_
  rintro e w1 ⟨rfl, rfl⟩
  go_wp2_with fail
  go_ret2
  exact ⟨rfl, HB.out⟩
theorem iparse_any (s : ByteArray) (a b : Nat) (w : World) (hs : s.size = 2) (ha : bt s 0 = a) (hb : bt s 1 = b) (ha2 : a < 256) (hb2 : b < 256) : Calls Tryz.prog 152 #[.string s, .int .i64 16, .int .i64 8] w fun e w' => e = .returned (ParsR (hexZ a) (hexZ b)) ∧ Below w.heap.size w w' := by
  have hk := kd_of b hb2
  have hL : a ||| 32 < 256 := Nat.or_lt_two_pow (n := 8) ha2 (by decide)
  have hM : b ||| 32 < 256 := Nat.or_lt_two_pow (n := 8) hb2 (by decide)
  have HL := fun w => lower_any a w ha2
  have HM := fun w => lower_any b w hb2
  have ha' := kd_of a ha2
  revert hL HL ha'
  generalize a ||| 32 = L
  generalize hexZ a = x
  intro hL HL ha'
  cases ha' with
  | dig g0 g1 => exact iparse_dig s a b L _ w hs ha hb ha2 hb2 hL hM _ HL HM (by omega) (by omega) (by omega) hk
  | low g0 g1 g2 g3 => exact iparse_low s a b L _ w hs ha hb ha2 hb2 hL hM _ HL HM (by omega) (by omega) (by omega) (by omega) (by omega) (by omega) hk
  | high g0 g1 g2 g3 => exact iparse_high s a b L _ w hs ha hb ha2 hb2 hL hM _ HL HM (by omega) (by omega) (by omega) (by omega) (by omega) (by omega)
  | un1 g0 g1 => exact iparse_un1 s a b L _ w hs ha hb ha2 hb2 hL hM _ HL HM (by omega) (by omega) (by omega)
  | un2 g0 g1 g2 => exact iparse_un2 s a b L _ w hs ha hb ha2 hb2 hL hM _ HL HM (by omega) (by omega) (by omega) (by omega)
  | over g0 g1 g2 => exact iparse_over s a b L _ w hs ha hb ha2 hb2 hL hM _ HL HM (by omega) (by omega) (by omega) (by omega) (by omega)
  | line g0 g1 => subst g0 g1; exact iparse_line s b w hs ha hb _ HL
end Go.Proofs.YtkpijnodhlonfaaGreatDoor
