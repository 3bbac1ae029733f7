/-
  Layer 6: the walk of the statement on flags.
-/
import Derived.Test.YtlcecblehffjiaaDoorLexToks
import Derived.Test.YtlcecblehffjiaaDoorLexFlgMath
import Derived.BigQuiet
namespace Go.Proofs.YtlcecblehffjiaaDoor
open Go.RowKit

/-- The three bytes, boxed. -/
def Three (n : Nat → Nat) (g : Nat) (w : World) : Prop := ∀ i, i < 3 → w.cell? ⟨g, i, none⟩ = some (.int .u8 (n i : Int))
theorem Three.call {n : Nat → Nat} {g : Nat} {w u : World} {B : Nat} (h : Three n g w) (hb : Below B w u) (hg : g < B) : Three n g u := fun i hi => (hb.cell (p := ⟨g, i, none⟩) hg).trans (h i hi)
theorem mk_append (A B : List UInt8) : (⟨A.toArray⟩ : ByteArray) ++ ⟨B.toArray⟩ = ⟨(A ++ B).toArray⟩ := by
  apply ByteArray.ext
  simp
theorem flL_len (r : Nat → Nat) : ∀ i, (flL r i).length = i
  | 0 => rfl
  | i + 1 => by rw [flL, List.length_append, flL_len r i]; rfl
theorem rOf_at {n : Nat → Nat} {i : Nat} (hi : i < 3) : rOf (n 0 % 3) (n 1 % 3) (n 2 % 3) i = n i % 3 := by
  rcases (show i = 0 ∨ i = 1 ∨ i = 2 by omega) with rfl | rfl | rfl <;> rfl
theorem flg_all {a b c q : Nat} (ha : a < 3) (hb : b < 3) (hc : c < 3) (hq : 1 ≤ q ∧ q ≤ 3) : FlgOk a b c q := by
  rcases (show q = 1 ∨ q = 2 ∨ q = 3 by omega) with rfl | rfl | rfl
  · exact flg_1 ha
  · exact flg_2 ha hb
  · exact flg_3 ha hb hc
@[go_sem 10000] theorem eqlTokSame (k s0 s1 s2 s3 mn mx md n : Int) (f : ByteArray) (w : World) : (binOp .eql 46 (.agg #[.int .i64 k, .int .u64 s0, .int .u64 s1, .int .u64 s2, .int .u64 s3, .int .i64 mn, .int .i64 mx, .int .i64 md, .int .i64 n, .string f]) (.agg #[.int .i64 k, .int .u64 s0, .int .u64 s1, .int .u64 s2, .int .u64 s3, .int .i64 mn, .int .i64 mx, .int .i64 md, .int .i64 n, .string f])).run Tryd.prog w = .ok (.bool true) w := by
  have h : (Op.equalIn 10000 46 (.agg #[.int .i64 k, .int .u64 s0, .int .u64 s1, .int .u64 s2, .int .u64 s3, .int .i64 mn, .int .i64 mx, .int .i64 md, .int .i64 n, .string f]) (.agg #[.int .i64 k, .int .u64 s0, .int .u64 s1, .int .u64 s2, .int .u64 s3, .int .i64 mn, .int .i64 mx, .int .i64 md, .int .i64 n, .string f])).run Tryd.prog w = .ok true w := by simp [go_sem]
  rw [run_eql_struct, h]
  rfl
theorem three_new (n : Nat → Nat) (w : World) : Three n w.heap.size (w.alloc (.cells #[.int .u8 (n 0 : Int), .int .u8 (n 1 : Int), .int .u8 (n 2 : Int)] 54)) := fun i hi => by
  unfold World.cell?
  rw [heap_alloc_new]
  rcases (show i = 0 ∨ i = 1 ∨ i = 2 by omega) with rfl | rfl | rfl <;> rfl
set_option maxRecDepth 100000 in
set_option maxHeartbeats 16000000 in
theorem lexFlags_any (hE : ErrsOk) (hC : CloneOk) (n : Nat → Nat) (m : Nat) (w : World) (hn : ∀ i, i < 3 → n i < 256) (hm : m < 256) (hw : Tabs w) : Calls Tryd.prog 8 #[.agg #[.int .u8 (n 0 : Int), .int .u8 (n 1 : Int), .int .u8 (n 2 : Int)], .int .u8 (m : Int)] w fun e w' => e = .returned (.bool true) ∧ Below w.heap.size w w' := by
  have HF := Lib.hid (fun w (h : Tabs w) => fixed_any hE hC w h)
  have HL0 := Lib.hid (fun p w (h : Tabs w) => lex_any hE hC p w h.err h.tab h.op)
  have HT := Lib.hid hw
  have HN := Lib.hid hn
  clear hw hE hC hn
  obtain ⟨q, hq⟩ : ∃ q, q = 1 + m % 3 := ⟨_, rfl⟩
  have hq1 : 1 ≤ q ∧ q ≤ 3 := by omega
  have hqm : 1 + (m : Int) % 3 = (q : Int) := by omega
  clear hq
  obtain ⟨r, hr⟩ : ∃ r, r = rOf (n 0 % 3) (n 1 % 3) (n 2 % 3) := ⟨_, rfl⟩
  have HR := Lib.hid hr
  clear hr
  go_enter Tryd.func8, Tryd.ntmps8
  go_wp2_with fail
  go_loopw [5, 6, 8] (fun s5 s6 s8 wr => ∃ (i : Nat) (S : ByteArray), i ≤ q ∧ s5 = .string S ∧ S = ⟨(flL r i).toArray⟩ ∧ s6 = .bool (dupA r i) ∧ s8 = .int .i64 i ∧ Below w.heap.size w wr ∧ Three n w.heap.size wr ∧ w.heap.size < wr.heap.size) (fun _ _ s8 _ => q - (intOf s8).toNat)
  case atStart => exact ⟨0, _, by omega, rfl, rfl, rfl, rfl, (Below.refl _ w).alloc (Nat.le_refl _) _, three_new n w, by simp⟩
  case round =>
    obtain ⟨i, S, hi, rfl, hS, rfl, rfl, hb, h3, hlt⟩ := hrel
    have HS := Lib.hid hS
    have HB := Lib.hid hb
    have H3 := Lib.hid h3
    have HLT := Lib.hid hlt
    clear hS hb h3 hlt
    by_cases hiq : i < q
    · have e1 : (i : Int) < (q : Int) := by omega
      go_wp2_with fail
      go_loopw [6, 9] (fun s6 s9 wx => ∃ (j : Nat) (d : Bool), j ≤ i ∧ s6 = .bool d ∧ d = (dupA r i || dupI r i j) ∧ s9 = .int .i64 j ∧ Below w.heap.size w wx ∧ Three n w.heap.size wx ∧ w.heap.size < wx.heap.size) (fun _ s9 _ => i - (intOf s9).toNat)
      case atStart => exact ⟨0, dupA r i, by omega, rfl, (Bool.or_false _).symm, rfl, HB.out, H3.out, HLT.out⟩
      case round =>
        obtain ⟨j, d, hj, rfl, hd, rfl, hb, h3, hlt⟩ := hrel
        have HD := Lib.hid hd
        have HBx := Lib.hid hb
        have H3x := Lib.hid h3
        have HLx := Lib.hid hlt
        clear hd hb h3 hlt
        by_cases hji : j < i
        · have e2 : (j : Int) < (i : Int) := by omega
          have ci := H3x.out i (by omega)
          have cj := H3x.out j (by omega)
          have i3 : (i : Int) < 3 := by omega
          have j3 : (j : Int) < 3 := by omega
          have li := HN.out i (by omega)
          have lj := HN.out j (by omega)
          cases d with
          | true =>
            have HD2 := Lib.hid (show true = (dupA r i || dupI r i (j + 1)) by rw [dupI, ← Bool.or_assoc, ← HD.out]; rfl)
            go_wp2_with fail
            go_quiet (fail)
            go_wp2_with fail
            go_roundw
            case rel => exact ⟨j + 1, true, by omega, rfl, HD2.out, by go_num, below_drewN HBx.out _, H3x.out, HLx.out⟩
            case measure => simp [intOf]; omega
          | false =>
            have hdd : (r i = r j) ↔ n i % 3 = n j % 3 := by rw [HR.out, rOf_at (by omega), rOf_at (by omega)]
            by_cases he : n i % 3 = n j % 3
            · have e3 : ((n i : Int) % 3 == (n j : Int) % 3) = true := by simp; omega
              have HD2 := Lib.hid (show true = (dupA r i || dupI r i (j + 1)) by rw [dupI, ← Bool.or_assoc, ← HD.out, decide_eq_true (hdd.2 he)]; rfl)
              clear hdd he
              go_wp2_with fail
              go_quiet (fail)
              go_wp2_with fail
              go_roundw
              case rel => exact ⟨j + 1, true, by omega, rfl, HD2.out, by go_num, below_drewN HBx.out _, H3x.out, HLx.out⟩
              case measure => simp [intOf]; omega
            · have e3 : ((n i : Int) % 3 == (n j : Int) % 3) = false := by simp; omega
              have HD2 := Lib.hid (show false = (dupA r i || dupI r i (j + 1)) by rw [dupI, ← Bool.or_assoc, ← HD.out, decide_eq_false (fun h => he (hdd.1 h))]; rfl)
              clear hdd he
              go_wp2_with fail
              go_quiet (fail)
              go_wp2_with fail
              go_roundw
              case rel => exact ⟨j + 1, false, by omega, rfl, HD2.out, by go_num, below_drewN HBx.out _, H3x.out, HLx.out⟩
              case measure => simp [intOf]; omega
        · obtain rfl : j = i := by omega
          have cj := fun o : Obj => (H3x.out.call ((Below.refl _ _).alloc (Nat.le_refl _) o) HLx.out) j (by omega)
          have j3 : (j : Int) < 3 := by omega
          have lj := HN.out j (by omega)
          have hr : r j = n j % 3 := by rw [HR.out]; exact rOf_at (by omega)
          have hsz : S.size ≤ 3 := by rw [HS.out]; show (flL r j).toArray.size ≤ 3; rw [List.size_toArray, flL_len]; omega
          have HDA := Lib.hid (show d = dupA r (j + 1) by rw [HD.out]; rfl)
          rcases (show n j % 3 = 0 ∨ n j % 3 = 1 ∨ n j % 3 = 2 by omega) with h | h | h
          · have HS2 := Lib.hid (show S ++ ⟨#[105]⟩ = ⟨(flL r (j + 1)).toArray⟩ by rw [HS.out, flL, show flB (r j) = 105 by rw [hr, h]; rfl]; exact mk_append _ _)
            have e3 : (n j : Int) % 3 = 0 := by omega
            have hsum : ¬ S.size + (⟨#[105]⟩ : ByteArray).size > 9223372036854775807 := by show ¬ S.size + 1 > _; omega
            clear hr h hsz
            go_wp2_with fail
            go_roundw
            case rel => exact ⟨j + 1, _, by omega, rfl, HS2.out, by rw [HDA.out], by go_num, HBx.out.alloc HBx.out.size _, H3x.out.call ((Below.refl _ wr).alloc (Nat.le_refl _) _) HLx.out, by simp; have := HLx.out; omega⟩
            case measure => simp [intOf]; omega
          · have HS2 := Lib.hid (show S ++ ⟨#[109]⟩ = ⟨(flL r (j + 1)).toArray⟩ by rw [HS.out, flL, show flB (r j) = 109 by rw [hr, h]; rfl]; exact mk_append _ _)
            have e3 : (n j : Int) % 3 = 1 := by omega
            have hsum : ¬ S.size + (⟨#[109]⟩ : ByteArray).size > 9223372036854775807 := by show ¬ S.size + 1 > _; omega
            clear hr h hsz
            go_wp2_with fail
            go_roundw
            case rel => exact ⟨j + 1, _, by omega, rfl, HS2.out, by rw [HDA.out], by go_num, HBx.out.alloc HBx.out.size _, H3x.out.call ((Below.refl _ wr).alloc (Nat.le_refl _) _) HLx.out, by simp; have := HLx.out; omega⟩
            case measure => simp [intOf]; omega
          · have HS2 := Lib.hid (show S ++ ⟨#[115]⟩ = ⟨(flL r (j + 1)).toArray⟩ by rw [HS.out, flL, show flB (r j) = 115 by rw [hr, h]; rfl]; exact mk_append _ _)
            have e3 : (n j : Int) % 3 = 2 := by omega
            have hsum : ¬ S.size + (⟨#[115]⟩ : ByteArray).size > 9223372036854775807 := by show ¬ S.size + 1 > _; omega
            clear hr h hsz
            go_wp2_with fail
            go_roundw
            case rel => exact ⟨j + 1, _, by omega, rfl, HS2.out, by rw [HDA.out], by go_num, HBx.out.alloc HBx.out.size _, H3x.out.call ((Below.refl _ wr).alloc (Nat.le_refl _) _) HLx.out, by simp; have := HLx.out; omega⟩
            case measure => simp [intOf]; omega
    · obtain rfl : i = q := by omega
      have e1 : ¬ (i : Int) < (i : Int) := by omega
      have hok : FlgOk (n 0 % 3) (n 1 % 3) (n 2 % 3) i := flg_all (by omega) (by omega) (by omega) hq1
      unfold FlgOk at hok
      rw [← HR.out] at hok
      have hz : S.size ≤ 3 := by rw [HS.out]; show (flL r i).toArray.size ≤ 3; rw [List.size_toArray, flL_len]; omega
      have sA : (⟨#[40, 63]⟩ : ByteArray) ++ S ++ ⟨#[58]⟩ = flA (flL r i) := by rw [HS.out]; unfold flA; rw [← mk_append, ← mk_append]
      have sX : (⟨#[40, 63]⟩ : ByteArray) ++ S ++ ⟨#[120, 58]⟩ = flX (flL r i) := by rw [HS.out]; unfold flX; rw [← mk_append, ← mk_append]
      have sC : (⟨#[40, 63]⟩ : ByteArray) ++ S ++ ⟨#[41]⟩ = flC (flL r i) := by rw [HS.out]; unfold flC; rw [← mk_append, ← mk_append]
      have n2 : (⟨#[40, 63]⟩ : ByteArray).size = 2 := rfl
      have zP : ((⟨#[40, 63]⟩ : ByteArray) ++ S).size ≤ 5 := by rw [ByteArray.size_append, n2]; omega
      have p0 : ¬ (⟨#[40, 63]⟩ : ByteArray).size + S.size > 9223372036854775807 := by rw [n2]; omega
      have p1 : ¬ ((⟨#[40, 63]⟩ : ByteArray) ++ S).size + (⟨#[58]⟩ : ByteArray).size > 9223372036854775807 := by show ¬ _ + 1 > _; omega
      have p2 : ¬ ((⟨#[40, 63]⟩ : ByteArray) ++ S).size + (⟨#[120, 58]⟩ : ByteArray).size > 9223372036854775807 := by show ¬ _ + 2 > _; omega
      have p3 : ¬ ((⟨#[40, 63]⟩ : ByteArray) ++ S).size + (⟨#[41]⟩ : ByteArray).size > 9223372036854775807 := by show ¬ _ + 1 > _; omega
      have hLA := fun w h => HL0.out ((⟨#[40, 63]⟩ : ByteArray) ++ S ++ ⟨#[58]⟩) w h
      have hLX := fun w h => HL0.out ((⟨#[40, 63]⟩ : ByteArray) ++ S ++ ⟨#[120, 58]⟩) w h
      have hLC := fun w h => HL0.out ((⟨#[40, 63]⟩ : ByteArray) ++ S ++ ⟨#[41]⟩) w h
      have hLA : ∀ w, Tabs w → Calls Tryd.prog 10 #[.string ((⟨#[40, 63]⟩ : ByteArray) ++ S ++ ⟨#[58]⟩)] w (GotToks w (if dupA r i = true then ([], 3) else ([flT (flL r i)], 0))) := fun w h => by have := hLA w h; rw [show lexZ ((⟨#[40, 63]⟩ : ByteArray) ++ S ++ ⟨#[58]⟩) = _ from (congrArg lexZ sA).trans hok.1] at this; exact this
      have hLX : ∀ w, Tabs w → Calls Tryd.prog 10 #[.string ((⟨#[40, 63]⟩ : ByteArray) ++ S ++ ⟨#[120, 58]⟩)] w (GotToks w (lexZ (flX (flL r i)))) := fun w h => by have := hLX w h; rw [show lexZ ((⟨#[40, 63]⟩ : ByteArray) ++ S ++ ⟨#[120, 58]⟩) = _ from congrArg lexZ sX] at this; exact this
      have hLC : ∀ w, Tabs w → Calls Tryd.prog 10 #[.string ((⟨#[40, 63]⟩ : ByteArray) ++ S ++ ⟨#[41]⟩)] w (GotToks w (lexZ (flC (flL r i)))) := fun w h => by have := hLC w h; rw [show lexZ ((⟨#[40, 63]⟩ : ByteArray) ++ S ++ ⟨#[41]⟩) = _ from congrArg lexZ sC] at this; exact this
      generalize lexZ (flX (flL r i)) = RX at hok hLX
      generalize lexZ (flC (flL r i)) = RC at hok hLC
      obtain ⟨lX, eX⟩ := RX
      obtain ⟨lC, eC⟩ := RC
      obtain ⟨-, h2, h3⟩ := hok
      obtain rfl : eX = 3 := h2
      obtain rfl : eC = 3 := h3
      have HLA := Lib.hid hLA
      have HLX := Lib.hid hLX
      have HLC := Lib.hid hLC
      clear hLA hLX hLC sA sX sC hz zP n2
      cases hdup : dupA r i with
      | true =>
        rw [if_pos hdup] at HLA
        go_wp2_with fail
        with_reducible refine (HLA.out _ (HT.out.call HB.out)).mono ?_
        rintro e w1 ⟨v1, rfl, ho1, hb1⟩
        have HB1 := Lib.hid (thenB HB.out hb1 HB.out.size)
        clear ho1
        go_wp2_with fail
        with_reducible refine (HLX.out _ (HT.out.call HB1.out)).mono ?_
        rintro e w2 ⟨v2, rfl, ho2, hb2⟩
        have HB2 := Lib.hid (thenB HB1.out hb2 HB1.out.size)
        clear ho2
        go_wp2_with fail
        with_reducible refine (HLC.out _ (HT.out.call HB2.out)).mono ?_
        rintro e w3 ⟨v3, rfl, ho3, hb3⟩
        have HB3 := Lib.hid (thenB HB2.out hb3 HB2.out.size)
        clear ho3
        go_wp2_with fail
        with_reducible refine (HF.out _ (HT.out.call HB3.out)).mono ?_
        rintro e w4 ⟨rfl, hb4⟩
        have HB4 := Lib.hid (thenB HB3.out hb4 HB3.out.size)
        clear hb4
        go_wp2_with fail
        go_ret
        exact ⟨rfl, HB4.out⟩
      | false =>
        rw [if_neg (by rw [hdup]; decide)] at HLA
        go_wp2_with fail
        with_reducible refine (HLA.out _ (HT.out.call HB.out)).mono ?_
        rintro e w1 ⟨v1, rfl, ho1, hb1⟩
        have HB1 := Lib.hid (thenB HB.out hb1 HB.out.size)
        obtain ⟨A, cap, rfl, htk, -⟩ := own_toks ho1
        clear ho1
        have HTK := Lib.hid htk
        clear htk
        go_wp2_with fail
        with_reducible refine (HLX.out _ (HT.out.call HB1.out)).mono ?_
        rintro e w2 ⟨v2, rfl, ho2, hb2⟩
        have HB2 := Lib.hid (thenB HB1.out hb2 HB1.out.size)
        clear ho2
        have HTK2 := Lib.hid (HTK.out.below hb2 (Nat.le_refl _))
        go_wp2_with fail
        with_reducible refine (HLC.out _ (HT.out.call HB2.out)).mono ?_
        rintro e w3 ⟨v3, rfl, ho3, hb3⟩
        have HB3 := Lib.hid (thenB HB2.out hb3 HB2.out.size)
        clear ho3
        have htk := HTK2.out.below hb3 (Nat.le_refl _)
        obtain ⟨g1, o1, rfl, -, c0, c1, c2, c3, c4, c5, c6, c7, c8, c9⟩ := htk 0 (flT (flL r i)) rfl
        clear htk hb1 hb2 hb3
        have c0' : w3.cell? ⟨g1, o1, none⟩ = some (.int .i64 14) := c0
        have c1' : w3.cell? ⟨g1, o1 + 1, none⟩ = some (.int .u64 0) := c1.trans (by simp [flT, W_zero])
        have c2' : w3.cell? ⟨g1, o1 + 2, none⟩ = some (.int .u64 0) := c2.trans (by simp [flT, W_zero])
        have c3' : w3.cell? ⟨g1, o1 + 3, none⟩ = some (.int .u64 0) := c3.trans (by simp [flT, W_zero])
        have c4' : w3.cell? ⟨g1, o1 + 4, none⟩ = some (.int .u64 0) := c4.trans (by simp [flT, W_zero])
        have c5' : w3.cell? ⟨g1, o1 + 5, none⟩ = some (.int .i64 0) := c5
        have c6' : w3.cell? ⟨g1, o1 + 6, none⟩ = some (.int .i64 0) := c6
        have c7' : w3.cell? ⟨g1, o1 + 7, none⟩ = some (.int .i64 0) := c7
        have c8' : w3.cell? ⟨g1, o1 + 8, none⟩ = some (.int .i64 0) := c8
        have c9' : w3.cell? ⟨g1, o1 + 9, none⟩ = some (.string S) := c9.trans (by rw [HS.out]; rfl)
        clear c0 c1 c2 c3 c4 c5 c6 c7 c8 c9
        go_wp2_with fail
        with_reducible refine (HF.out _ (HT.out.call HB3.out)).mono ?_
        rintro e w4 ⟨rfl, hb4⟩
        have HB4 := Lib.hid (thenB HB3.out hb4 HB3.out.size)
        clear hb4
        go_wp2_with fail
        go_ret
        exact ⟨rfl, HB4.out⟩
end Go.Proofs.YtlcecblehffjiaaDoor
