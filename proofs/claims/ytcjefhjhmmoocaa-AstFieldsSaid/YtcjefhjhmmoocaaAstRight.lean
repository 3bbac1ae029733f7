/-
  Layer 5: what the landed package ast does: rightGroups, Right.
-/
import Derived.Test.YtcjefhjhmmoocaaAstGroups
import Derived.Test.YtcjefhjhmmoocaaAstLen
namespace Go.Proofs.Ytcjefhjhmmoocaa
open Go.RowKit

/-- Have the first groups the numbers 1, 2, ..? -/
def numB (l : Nat → Nd) (L : List Nat) : Nat → Bool
  | 0 => true
  | k + 1 => numB l L k && decide ((l (L.getD k 0)).n = (k : Int) + 1)
/-- Has each Back among the first nodes a group, of m? -/
def backB (l : Nat → Nd) (m : Nat) : Nat → Bool
  | 0 => true
  | k + 1 => backB l m k && (if (l k).k = 12 then decide (1 ≤ (l k).n ∧ (l k).n ≤ (m : Int)) else true)
/-- Are the groups few enough, and numbered as they begin, and has each Back one? -/
def groupsB (l : Nat → Nd) (n : Nat) : Bool := numB l (grp l n) (grp l n).length && backB l (grp l n).length n && decide ((grp l n).length ≤ 9)
theorem num_none {l : Nat → Nd} {L : List Nat} {k : Nat} (h : numB l L k = false) : ∀ d, numB l L (k + d) = false
  | 0 => h
  | d + 1 => by rw [← Nat.add_assoc, numB, num_none h d]; rfl
theorem back_none {l : Nat → Nd} {m k : Nat} (h : backB l m k = false) : ∀ d, backB l m (k + d) = false
  | 0 => h
  | d + 1 => by rw [← Nat.add_assoc, backB, back_none h d]; rfl
theorem groups_no1 {l : Nat → Nd} {n k : Nat} (h : numB l (grp l n) k = false) (hk : k ≤ (grp l n).length) : groupsB l n = false := by
  have := num_none h ((grp l n).length - k)
  rw [show k + ((grp l n).length - k) = (grp l n).length by omega] at this
  unfold groupsB; rw [this]; rfl
theorem groups_no2 {l : Nat → Nd} {n k : Nat} (h : backB l (grp l n).length k = false) (hk : k ≤ n) : groupsB l n = false := by
  have := back_none h (n - k)
  rw [show k + (n - k) = n by omega] at this
  unfold groupsB; rw [this]; simp

set_option maxHeartbeats 4000000 in
theorem rightGroups_any (hS : SortOk) (hN : SortNone) (A : Option Addr) (n cap : Nat) (l : Nat → Nd) (w : World) (hn : n ≤ 1000000) (h0 : 0 < n) (hs : siz l n = n) (hl : Nodes w A n l) :
    Calls Try.prog 31 #[.slice A n cap] w fun e w' => e = .returned (.bool (groupsB l n)) ∧ Below w.heap.size w w' := by
  have HL := Lib.hid hl
  have HS := Lib.hid hs
  have HC := Lib.hid (show ∀ w, Nodes w A n l → Calls Try.prog 46 #[.slice A n cap] w (GrpPost l n w) from fun w hw => groupsBegin_any hS hN A n cap l w hn h0 hs hw)
  have HM := Lib.hid (show ∀ x, x ∈ grp l n → x < n from fun x hx => (grp_mem l n (by omega) x hx).2.1)
  have HLE := Lib.hid (show (grp l n).length ≤ n by have := grp_len l n (by omega); omega)
  have HNO1 := Lib.hid (show ∀ k, numB l (grp l n) k = false → k ≤ (grp l n).length → groupsB l n = false from fun k => groups_no1)
  have HNO2 := Lib.hid (show ∀ k, backB l (grp l n).length k = false → k ≤ n → groupsB l n = false from fun k => groups_no2)
  have HGB := Lib.hid (show groupsB l n = (numB l (grp l n) (grp l n).length && backB l (grp l n).length n && decide ((grp l n).length ≤ 9)) from rfl)
  clear hl hs hS hN
  go_enter Try.func31, Try.ntmps31
  go_wp2_with fail
  refine (HC.out _ HL.out).mono ?_
  rintro e w0 ⟨G, gc, rfl, hix, hb0⟩
  have I0 := Lib.hid hix
  have B0 := Lib.hid hb0
  clear hix hb0 HC
  generalize hgg : groupsB l n = gb at HGB HNO1 HNO2
  generalize grp l n = L at HM HLE HNO1 HNO2 HGB I0
  obtain ⟨m, hm⟩ : ∃ m, m = L.length := ⟨_, rfl⟩
  rw [← hm] at HLE HNO1 HNO2 HGB
  have HML := Lib.hid hm
  rw [show L.length = m from hm.symm]
  have HGG := Lib.hid hgg
  clear hm hgg
  have mle : m ≤ 1000000 := by have := HLE.out; omega
  go_wp2_with fail
  go_loopw [12] (fun i wr => ∃ k : Nat, k ≤ m ∧ i = .int .i64 k ∧ numB l L k = true ∧ IdxS wr G L ∧ Below w.heap.size w wr) (fun i _ => m - (intOf i).toNat)
  case atStart => exact ⟨0, Nat.zero_le _, rfl, rfl, I0.out, B0.out⟩
  case round =>
    obtain ⟨k, hk, rfl, hnum, hix, hb⟩ := hrel
    have HU := Lib.hid hnum
    have HB := Lib.hid hb
    have HIX := Lib.hid hix
    clear hnum hb hix I0 B0
    by_cases hlt : k < m
    · obtain ⟨g, rfl, hgl, hgc⟩ := HIX.out k (by have := HML.out; omega)
      obtain ⟨i, hi⟩ : ∃ i, i = L.getD k 0 := ⟨_, rfl⟩
      rw [← hi] at hgc
      have hin : i < n := HM.out i (by
        rw [hi]
        have hk' : k < L.length := by have := HML.out; omega
        rw [show L.getD k 0 = L[k] by simp [List.getD, hk']]
        exact List.getElem_mem hk')
      have HX := Lib.hid (show numB l L (k + 1) = decide ((l i).n = (k : Int) + 1) by
        show (numB l L k && decide ((l (L.getD k 0)).n = (k : Int) + 1)) = _
        rw [HU.out, ← hi]; rfl)
      obtain ⟨b, o, rfl, hx⟩ := (HL.out.below HB.out (Nat.le_refl _)).at_ (by omega)
      obtain ⟨-, -, -, -, -, -, -, -, -, -, c10, -⟩ := hx.2 i hin
      have i0 : (0 : Int) ≤ (i : Int) := by omega
      have i1 : (i : Int) < (n : Int) := by omega
      clear hx hi
      by_cases he : (l i).n = (k : Int) + 1
      · have HZ := Lib.hid (show numB l L (k + 1) = true by rw [HX.out]; simpa using he)
        rw [he] at c10
        clear he
        go_wp2_with fail
        go_roundw
        case rel => exact ⟨k + 1, by omega, by go_num, HZ.out, HIX.out, HB.out⟩
        case measure => simp [intOf]; omega
      · have HZ := Lib.hid (show gb = false from HNO1.out (k + 1) (by rw [HX.out]; simpa using he) (by omega))
        have q1 : ((l i).n != (k : Int) + 1) = true := by simpa using he
        have q2 : ((l i).n == (k : Int) + 1) = false := by simpa using he
        have q3 : decide ((l i).n = (k : Int) + 1) = false := by simpa using he
        go_wp2_with fail
        go_ret
        exact ⟨by rw [HGG.out, HZ.out]; rfl, HB.out⟩
    · obtain rfl : m = k := by omega
      have HUN := Lib.hid HU.out
      clear HU HIX
      go_wp2_with fail
      go_loopw [28] (fun i ws => ∃ k : Nat, k ≤ n ∧ i = .int .i64 k ∧ backB l m k = true ∧ Below w.heap.size w ws) (fun i _ => n - (intOf i).toNat)
      case atStart => exact ⟨0, Nat.zero_le _, rfl, rfl, HB.out⟩
      case round =>
        obtain ⟨k, hk, rfl, hbk, hb⟩ := hrel
        have HU := Lib.hid hbk
        have HB2 := Lib.hid hb
        clear hbk hb HB
        by_cases hlt2 : k < n
        · obtain ⟨b, o, rfl, hx⟩ := (HL.out.below HB2.out (Nat.le_refl _)).at_ (by omega)
          obtain ⟨c0, c1, c2, c3, c4, c5, c6, c7, c8, c9, c10, c11⟩ := hx.2 k hlt2
          have HX := Lib.hid (show backB l m (k + 1) = (if (l k).k = 12 then decide (1 ≤ (l k).n ∧ (l k).n ≤ (m : Int)) else true) by
            show (backB l m k && _) = _
            rw [HU.out]; rfl)
          clear hx
          by_cases h12 : (l k).k = 12
          · rw [if_pos h12] at HX
            rw [h12] at c0
            clear h12
            by_cases hlo : (l k).n < 1
            · have HZ := Lib.hid (show gb = false from HNO2.out (k + 1) (by rw [HX.out]; simp; omega) (by omega))
              go_wp2_with fail
              go_ret
              exact ⟨by rw [HGG.out, HZ.out]; rfl, HB2.out.alloc HB2.out.size _⟩
            · by_cases hhi : (m : Int) < (l k).n
              · have HZ := Lib.hid (show gb = false from HNO2.out (k + 1) (by rw [HX.out]; simp; omega) (by omega))
                go_wp2_with fail
                go_ret
                exact ⟨by rw [HGG.out, HZ.out]; rfl, HB2.out.alloc HB2.out.size _⟩
              · have HZ := Lib.hid (show backB l m (k + 1) = true by rw [HX.out]; simp; omega)
                go_wp2_with fail
                go_roundw
                case rel => exact ⟨k + 1, by omega, by go_num, HZ.out, HB2.out.alloc HB2.out.size _⟩
                case measure => simp [intOf]; omega
          · have HZ := Lib.hid (show backB l m (k + 1) = true by rw [HX.out, if_neg h12])
            have q : ((l k).k == 12) = false := by simpa using h12
            clear h12
            go_wp2_with fail
            go_roundw
            case rel => exact ⟨k + 1, by omega, by go_num, HZ.out, HB2.out.alloc HB2.out.size _⟩
            case measure => simp [intOf]; omega
        · obtain rfl : n = k := by omega
          have HV := Lib.hid (show gb = decide (m ≤ 9) by rw [HGB.out, HUN.out, HU.out]; rfl)
          go_wp2_with fail
          go_ret
          exact ⟨ret_b (by rw [HGG.out, HV.out]; exact decide_eq_decide.2 (by omega)), HB2.out⟩

/-- What is wrong with a tree. -/
def rightZ (l : Nat → Nd) (n : Nat) : Int := if shapeZ l n ≠ 0 then shapeZ l n else if groupsB l n = false then 6 else if behB l n = false then 7 else 0

set_option maxHeartbeats 1000000 in
theorem right_any (hS : SortOk) (hN : SortNone) (A : Option Addr) (n cap : Nat) (l : Nat → Nd) (w : World) (hn : n ≤ 1000000) (hl : Nodes w A n l) :
    Calls Try.prog 13 #[.agg #[.slice A n cap]] w fun e w' => e = .returned (.int .i64 (rightZ l n)) ∧ Below w.heap.size w w' := by
  have HL := Lib.hid hl
  have HH := Lib.hid (And.intro hS hN)
  clear hl hS hN
  go_enter Try.func13, Try.ntmps13
  go_wp2_with fail
  refine (rightShape_any A n cap l _ hn (HL.out.below (B := w.heap.size) (by go_grown) (Nat.le_refl _))).mono ?_
  rintro e w1 ⟨rfl, hb⟩
  have T1 := Lib.hid ((TreeBox.new w A n cap).call hb)
  have B1 := Lib.hid (thenB (B := w.heap.size) (w := w) (by go_grown) hb (by simp))
  clear hb
  have c0 := T1.out.cell
  by_cases h0 : shapeZ l n = 0
  · obtain ⟨h5, hpos, hs⟩ := form_0 (shape_0 h0).1
    have HV := Lib.hid (show rightZ l n = if groupsB l n = false then 6 else if behB l n = false then 7 else 0 by unfold rightZ; rw [if_neg (by omega)])
    have HS := Lib.hid hs
    rw [h0]
    clear h0 hs
    go_wp2_with fail
    refine (rightGroups_any HH.out.1 HH.out.2 A n cap l _ hn hpos HS.out (HL.out.below B1.out (Nat.le_refl _))).mono ?_
    rintro e w2 ⟨rfl, hb⟩
    have T2 := Lib.hid (T1.out.call hb)
    have B2 := Lib.hid (thenB B1.out hb B1.out.size)
    clear hb c0
    have c0 := T2.out.cell
    cases hg : groupsB l n with
    | false =>
      have HV' := Lib.hid (show rightZ l n = 6 by rw [HV.out, if_pos hg])
      clear hg HV
      go_wp2_with fail
      go_ret
      exact ⟨by rw [HV'.out]; rfl, B2.out⟩
    | true =>
      have HV1 := Lib.hid (show rightZ l n = if behB l n = false then 7 else 0 by rw [HV.out, if_neg (by rw [hg]; decide)])
      clear hg HV
      go_wp2_with fail
      refine (rightBehinds_any A n cap l _ hn HS.out (HL.out.below B2.out (Nat.le_refl _))).mono ?_
      rintro e w3 ⟨rfl, hb⟩
      have B3 := Lib.hid (thenB B2.out hb B2.out.size)
      clear hb c0
      cases hbh : behB l n with
      | false =>
        have HV' := Lib.hid (show rightZ l n = 7 by rw [HV1.out, if_pos hbh])
        clear hbh HV1
        go_wp2_with fail
        go_ret
        exact ⟨by rw [HV'.out]; rfl, B3.out⟩
      | true =>
        have HV' := Lib.hid (show rightZ l n = 0 by rw [HV1.out, if_neg (by rw [hbh]; decide)])
        clear hbh HV1
        go_wp2_with fail
        go_ret
        exact ⟨by rw [HV'.out]; rfl, B3.out⟩
  · have HV := Lib.hid (show rightZ l n = shapeZ l n by unfold rightZ; rw [if_pos h0])
    have q1 : (shapeZ l n != 0) = true := by simpa using h0
    have q : (shapeZ l n == 0) = false := by simpa using h0
    clear h0
    go_wp2_with fail
    go_ret
    exact ⟨by rw [HV.out]; rfl, B1.out⟩
end Go.Proofs.Ytcjefhjhmmoocaa
