/-
  AstRefE
-/
import Derived.Test.YtkpijnodhlonfaaGreatDoorAstG
namespace Go.Proofs.YtkpijnodhlonfaaGreatDoor.Ast
open Go.RowKit

theorem nums_get (l : Nat → Nd) (n k : Nat) (hk : k < (grp l n).length) : (nums l n)[k]? = some (.int .i64 (l ((grp l n).getD k 0)).n) := by
  unfold nums
  rw [List.getElem?_map, List.getElem?_eq_getElem hk]
  simp [List.getD, hk]

set_option maxRecDepth 100000 in
set_option maxHeartbeats 4000000 in
theorem rright_any (A : Option Addr) (n cap : Nat) (l : Nat → Nd) (w : World) (hn : n ≤ 1000000) (hl : Nodes w A n l) :
    Calls Tryz.prog 26 #[.slice A n cap] w fun e w' => e = .returned (.int .i64 (rightZ l n)) ∧ Below w.heap.size w w' := by
  have HL := Lib.hid hl
  clear hl
  go_enter Tryz.func26, Tryz.ntmps26
  go_wp2_with fail
  refine (formed_any A n cap l _ hn HL.out).mono ?_
  rintro e w1 ⟨rfl, hb⟩
  have B1 := Lib.hid hb
  clear hb
  by_cases h0 : shapeZ l n = 0
  · obtain ⟨h5, hpos, hs⟩ := form_0 (shape_0 h0).1
    have HV := Lib.hid (show rightZ l n = if groupsB l n = false then 6 else if behB l n = false then 7 else 0 by unfold rightZ; rw [if_neg (by omega)])
    have HS := Lib.hid hs
    have HSN := Lib.hid (show siz l n ≠ 0 by omega)
    have n1 : (1 : Int) ≤ (n : Int) := by omega
    rw [h0]
    clear h0 hs
    go_wp2_with fail
    (with_reducible refine (numbers_any A n cap l hn n (Nat.le_refl _) HSN.out ((n : Int) - 1) rfl _ (HL.out.call B1.out)).mono ?_)
    rintro e w2 ⟨v, rfl, hi, hb⟩
    have B2 := Lib.hid (thenB B1.out hb B1.out.size)
    obtain ⟨g, gc, rfl, hown⟩ := hi
    have HCL := Lib.hid (show ∀ k, k < (grp l n).length → w2.cell? ⟨g, k, none⟩ = some (.int .i64 (l ((grp l n).getD k 0)).n) from fun k hk => by
      rw [hown.cellAt k (by unfold nums; rw [List.length_map]; omega), nums_get l n k hk])
    have HLE := Lib.hid (show (grp l n).length ≤ n by have := grp_len l n HSN.out; have := siz_le l n; omega)
    have HNO1 := Lib.hid (show ∀ k, numB l (grp l n) k = false → k ≤ (grp l n).length → rightZ l n = 6 from fun k h1 h2 => by rw [HV.out, if_pos (groups_no1 h1 h2)])
    have HNO2 := Lib.hid (show ∀ k, backB l (grp l n).length k = false → k ≤ n → rightZ l n = 6 from fun k h1 h2 => by rw [HV.out, if_pos (groups_no2 h1 h2)])
    have HNO3 := Lib.hid (show 9 < (grp l n).length → rightZ l n = 6 from fun h => by
      rw [HV.out, if_pos (by unfold groupsB; rw [show decide ((grp l n).length ≤ 9) = false by simp; omega]; simp)])
    have HYES := Lib.hid (show (grp l n).length ≤ 9 → numB l (grp l n) (grp l n).length = true → backB l (grp l n).length n = true → rightZ l n = if behB l n = false then 7 else 0 from fun h1 h2 h3 => by
      rw [HV.out, if_neg (by unfold groupsB; rw [h2, h3]; simp; omega)])
    rw [show (nums l n).length = (grp l n).length from List.length_map _]
    clear hb hown HV
    generalize hrz : rightZ l n = rz at HNO1 HNO2 HNO3 HYES
    generalize grp l n = L at HCL HLE HNO1 HNO2 HNO3 HYES
    obtain ⟨m, hm⟩ : ∃ m, m = L.length := ⟨_, rfl⟩
    rw [← hm] at HLE HCL HNO1 HNO2 HNO3 HYES
    rw [← hm]
    have HRZ := Lib.hid hrz
    clear hm hrz
    have mle : m ≤ 1000000 := by have := HLE.out; omega
    by_cases h9 : 9 < m
    · have HZ := Lib.hid (HNO3.out h9)
      have hz9 : (9 : Int) < (m : Int) := by omega
      clear h9
      go_wp2_with fail
      go_ret
      exact ⟨by rw [HRZ.out, HZ.out]; rfl, B2.out⟩
    · have hz9 : ¬ (9 : Int) < (m : Int) := by omega
      have H9 := Lib.hid (show m ≤ 9 by omega)
      clear h9
      go_wp2_with fail
      go_loop [5] (fun i => ∃ k : Nat, k ≤ m ∧ i = .int .i64 k ∧ numB l L k = true) (fun i => m - (intOf i).toNat)
      case atStart => exact ⟨0, Nat.zero_le _, rfl, rfl⟩
      case round =>
        obtain ⟨k, hk, rfl, hnum⟩ := hrel
        have HU := Lib.hid hnum
        clear hnum
        by_cases hlt : k < m
        · have hgc := HCL.out k hlt
          obtain ⟨i, hi⟩ : ∃ i, i = L.getD k 0 := ⟨_, rfl⟩
          rw [← hi] at hgc
          have HX := Lib.hid (show numB l L (k + 1) = decide ((l i).n = (k : Int) + 1) by
            show (numB l L k && decide ((l (L.getD k 0)).n = (k : Int) + 1)) = _
            rw [HU.out, ← hi]; rfl)
          clear hi
          by_cases he : (l i).n = (k : Int) + 1
          · have HZ := Lib.hid (show numB l L (k + 1) = true by rw [HX.out]; simpa using he)
            rw [he] at hgc
            clear he
            go_wp2_with fail
            go_round
            case rel => exact ⟨k + 1, by omega, by go_num, HZ.out⟩
            case measure => simp [intOf]; omega
          · have HZ := Lib.hid (HNO1.out (k + 1) (by rw [HX.out]; simpa using he) (by omega))
            have q1 : ((l i).n != (k : Int) + 1) = true := by simpa using he
            have q2 : ((l i).n == (k : Int) + 1) = false := by simpa using he
            have q3 : decide ((l i).n = (k : Int) + 1) = false := by simpa using he
            go_wp2_with fail
            go_ret
            exact ⟨by rw [HRZ.out, HZ.out]; rfl, B2.out⟩
        · obtain rfl : m = k := by omega
          have HUN := Lib.hid HU.out
          clear HU
          go_wp2_with fail
          go_loop [6] (fun i => ∃ k : Nat, k ≤ n ∧ i = .int .i64 k ∧ backB l m k = true) (fun i => n - (intOf i).toNat)
          case atStart => exact ⟨0, Nat.zero_le _, rfl, rfl⟩
          case round =>
            obtain ⟨k, hk, rfl, hbk⟩ := hrel
            have HU := Lib.hid hbk
            clear hbk
            by_cases hlt2 : k < n
            · obtain ⟨b, o, rfl, hx⟩ := (HL.out.below B2.out (Nat.le_refl _)).at_ (by omega)
              obtain ⟨c0, -, -, -, -, -, -, -, -, -, c10, -⟩ := hx.2 k hlt2
              have HX := Lib.hid (show backB l m (k + 1) = (if (l k).k = 12 then decide (1 ≤ (l k).n ∧ (l k).n ≤ (m : Int)) else true) by
                show (backB l m k && _) = _
                rw [HU.out]; rfl)
              clear hx
              by_cases h12 : (l k).k = 12
              · rw [if_pos h12] at HX
                rw [h12] at c0
                clear h12
                by_cases hlo : (l k).n < 1
                · have HZ := Lib.hid (HNO2.out (k + 1) (by rw [HX.out]; simp; omega) (by omega))
                  go_wp2_with fail
                  go_ret
                  exact ⟨by rw [HRZ.out, HZ.out]; rfl, B2.out⟩
                · by_cases hhi : (m : Int) < (l k).n
                  · have HZ := Lib.hid (HNO2.out (k + 1) (by rw [HX.out]; simp; omega) (by omega))
                    go_wp2_with fail
                    go_ret
                    exact ⟨by rw [HRZ.out, HZ.out]; rfl, B2.out⟩
                  · have HZ := Lib.hid (show backB l m (k + 1) = true by rw [HX.out]; simp; omega)
                    go_wp2_with fail
                    go_round
                    case rel => exact ⟨k + 1, by omega, by go_num, HZ.out⟩
                    case measure => simp [intOf]; omega
              · have HZ := Lib.hid (show backB l m (k + 1) = true by rw [HX.out, if_neg h12])
                have q : ((l k).k == 12) = false := by simpa using h12
                clear h12
                go_wp2_with fail
                go_round
                case rel => exact ⟨k + 1, by omega, by go_num, HZ.out⟩
                case measure => simp [intOf]; omega
            · obtain rfl : n = k := by omega
              have HVB := Lib.hid (HYES.out H9.out HUN.out HU.out)
              clear HU HUN HYES HNO1 HNO2 HNO3 HCL
              go_wp2_with fail
              go_loopw [7] (fun i wr => ∃ k : Nat, k ≤ n ∧ i = .int .i64 k ∧ behB l k = true ∧ Below w.heap.size w wr) (fun i _ => n - (intOf i).toNat)
              case atStart => exact ⟨0, Nat.zero_le _, rfl, rfl, B2.out⟩
              case round =>
                obtain ⟨k, hk, rfl, hbeh, hb⟩ := hrel
                have HB := Lib.hid hb
                have HH := Lib.hid hbeh
                clear hb hbeh
                by_cases hlt3 : k < n
                · obtain ⟨b, o, rfl, hx⟩ := (HL.out.below HB.out (Nat.le_refl _)).at_ (by omega)
                  obtain ⟨c0, c1, -⟩ := hx.2 k hlt3
                  have hsz := siz_of_whole HS.out hlt3
                  obtain ⟨-, hp⟩ := siz_pos hsz
                  have HX := Lib.hid (show behB l (k + 1) = (behB l k && (if (l k).k = 15 ∨ (l k).k = 16 then decide ((len l k).1 = (len l k).2 ∧ (len l k).2 ≤ 255) else true)) from rfl)
                  clear hx hsz
                  by_cases hkk : (l k).k = 15 ∨ (l k).k = 16
                  · have hk1 : kidsZ (l k).k = 1 := by unfold kidsZ; rw [if_neg (by omega), if_pos (by omega)]
                    obtain ⟨h1, ha⟩ : siz l k ≠ 0 ∧ (l k).a = (k : Int) - 1 := by
                      rcases hp with ⟨h, -⟩ | ⟨-, h1, ha, -⟩ | ⟨h, -⟩
                      · omega
                      · exact ⟨h1, ha⟩
                      · omega
                    rw [ha] at c1
                    have HX' := Lib.hid (show behB l (k + 1) = decide ((len l k).1 = (len l k).2 ∧ (len l k).2 ≤ 255) by rw [HX.out, HH.out, if_pos hkk]; simp)
                    have C := Lib.hid (rlens_any (some ⟨b, o, none⟩) n cap l (by omega) k (by omega) h1 ((k : Int) - 1) rfl wr (HL.out.below HB.out (Nat.le_refl _)))
                    clear hp hk1 h1 ha
                    generalize (len l k).1 = x at C HX'
                    generalize (len l k).2 = y at C HX'
                    by_cases exy : x = y
                    · subst exy
                      by_cases e5 : x ≤ 255
                      · have HZ := Lib.hid (show behB l (k + 1) = true by rw [HX'.out]; simp; exact e5)
                        have e6 : ¬ 255 < x := by omega
                        rcases hkk with e | e
                        all_goals
                          rw [e] at c0
                          clear e
                          go_wp2_with fail
                          (with_reducible refine C.out.mono ?_)
                          rintro e w3 ⟨rfl, hb⟩
                          have B3 := Lib.hid (thenB HB.out hb HB.out.size)
                          clear hb c0 c1
                          go_wp2_with fail
                          go_roundw
                          case rel => exact ⟨k + 1, by omega, by go_num, HZ.out, B3.out⟩
                          case measure => simp [intOf]; omega
                      · have HZ := Lib.hid (show rz = 7 by rw [HVB.out, if_pos (beh_none (k := k + 1) (by rw [HX'.out]; simp; omega) (by omega))])
                        have e6 : 255 < x := by omega
                        clear e5
                        rcases hkk with e | e
                        all_goals
                          rw [e] at c0
                          clear e
                          go_wp2_with fail
                          (with_reducible refine C.out.mono ?_)
                          rintro e w3 ⟨rfl, hb⟩
                          have B3 := Lib.hid (thenB HB.out hb HB.out.size)
                          clear hb c0 c1
                          go_wp2_with fail
                          go_ret
                          exact ⟨by rw [HRZ.out, HZ.out]; rfl, B3.out⟩
                    · have HZ := Lib.hid (show rz = 7 by rw [HVB.out, if_pos (beh_none (k := k + 1) (by rw [HX'.out]; simp [exy]) (by omega))])
                      have e6 : (x != y) = true := by simpa using exy
                      have e7 : (x == y) = false := by simpa using exy
                      have e8 : decide (x = y) = false := by simpa using exy
                      rcases hkk with e | e
                      all_goals
                        rw [e] at c0
                        clear e
                        go_wp2_with fail
                        (with_reducible refine C.out.mono ?_)
                        rintro e w3 ⟨rfl, hb⟩
                        have B3 := Lib.hid (thenB HB.out hb HB.out.size)
                        clear hb c0 c1
                        go_wp2_with fail
                        go_ret
                        exact ⟨by rw [HRZ.out, HZ.out]; rfl, B3.out⟩
                  · have HZ := Lib.hid (show behB l (k + 1) = true by rw [HX.out, HH.out, if_neg hkk]; rfl)
                    have n15 : ¬ (l k).k = 15 := by omega
                    have n16 : ¬ (l k).k = 16 := by omega
                    have q3 : ((l k).k == 15) = false := by simpa using n15
                    have q4 : ((l k).k == 16) = false := by simpa using n16
                    clear hkk hp
                    go_wp2_with fail
                    go_roundw
                    case rel => exact ⟨k + 1, by omega, by go_num, HZ.out, HB.out⟩
                    case measure => simp [intOf]; omega
                · obtain rfl : n = k := by omega
                  have HZ := Lib.hid (show rz = 0 by rw [HVB.out, if_neg (by rw [HH.out]; decide)])
                  go_wp2_with fail
                  go_ret
                  exact ⟨by rw [HRZ.out, HZ.out]; rfl, HB.out⟩
  · have HV := Lib.hid (show rightZ l n = shapeZ l n by unfold rightZ; rw [if_pos h0])
    have q1 : (shapeZ l n != 0) = true := by simpa using h0
    have q : (shapeZ l n == 0) = false := by simpa using h0
    clear h0
    go_wp2_with fail
    go_ret
    exact ⟨by rw [HV.out]; rfl, B1.out⟩
end Go.Proofs.YtkpijnodhlonfaaGreatDoor.Ast
