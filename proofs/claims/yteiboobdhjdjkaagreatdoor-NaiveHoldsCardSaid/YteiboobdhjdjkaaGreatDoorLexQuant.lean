import Derived.Test.YteiboobdhjdjkaaGreatDoorLexKitM
namespace Go.Proofs.YteiboobdhjdjkaaGreatDoor
open Go.RowKit
theorem quant_63 {p : ByteArray} {i : Nat} (h : bt p i = 63) : quantZ p i = ({ tok0 16 with mx := 1, md := mdV (bt p (i + 1)) }, i + 1 + mdN (bt p (i + 1)), 0) := by
 unfold quantZ
 rw [if_neg (by omega), mode_eq _ _ _ rfl, if_neg (by omega), if_pos h]
 rfl
theorem quant_43 {p : ByteArray} {i : Nat} (h : bt p i = 43) : quantZ p i = ({ tok0 16 with mn := 1, mx := -1, md := mdV (bt p (i + 1)) }, i + 1 + mdN (bt p (i + 1)), 0) := by
 unfold quantZ
 rw [if_neg (by omega), mode_eq _ _ _ rfl, if_pos h, if_neg (by omega)]
theorem quant_42 {p : ByteArray} {i : Nat} (h : bt p i = 42) : quantZ p i = ({ tok0 16 with mx := -1, md := mdV (bt p (i + 1)) }, i + 1 + mdN (bt p (i + 1)), 0) := by
 unfold quantZ
 rw [if_neg (by omega), mode_eq _ _ _ rfl, if_neg (by omega), if_neg (by omega)]
 rfl
abbrev tenW (w : World) (g : Nat) (v0 v1 v2 v3 v4 v5 v6 v7 v8 v9 : Value) : World := (((((((((w.setCell ⟨g, 0, none⟩ v0).setCell ⟨g, 1, none⟩ v1).setCell ⟨g, 2, none⟩ v2).setCell ⟨g, 3, none⟩ v3).setCell ⟨g, 4, none⟩ v4).setCell ⟨g, 5, none⟩ v5).setCell ⟨g, 6, none⟩ v6).setCell ⟨g, 7, none⟩ v7).setCell ⟨g, 8, none⟩ v8).setCell ⟨g, 9, none⟩ v9
theorem ten_set {cs : Array Value} (h : cs.size = 10) (v0 v1 v2 v3 v4 v5 v6 v7 v8 v9 : Value) :
  (((((((((cs.setIfInBounds 0 v0).setIfInBounds 1 v1).setIfInBounds 2 v2).setIfInBounds 3 v3).setIfInBounds 4 v4).setIfInBounds 5 v5).setIfInBounds 6 v6).setIfInBounds 7 v7).setIfInBounds 8 v8).setIfInBounds 9 v9 = #[v0, v1, v2, v3, v4, v5, v6, v7, v8, v9] := by
 cases cs with
 | mk l => match l, h with
   | [a0, a1, a2, a3, a4, a5, a6, a7, a8, a9], _ => simp
theorem row_ten {T : TypeId} {w : World} {g : Nat} {cs : Array Value} (hs : cs.size = 10) (h : w.heap[g]? = some (.cells cs T (0, 0))) (v0 v1 v2 v3 v4 v5 v6 v7 v8 v9 : Value) : (tenW w g v0 v1 v2 v3 v4 v5 v6 v7 v8 v9).heap[g]? = some (.cells #[v0, v1, v2, v3, v4, v5, v6, v7, v8, v9] T (0, 0)) := by
 rw [← ten_set hs v0 v1 v2 v3 v4 v5 v6 v7 v8 v9]
 exact heap_setCell_same _ g 9 _ _ v9 (heap_setCell_same _ g 8 _ _ v8 (heap_setCell_same _ g 7 _ _ v7 (heap_setCell_same _ g 6 _ _ v6 (heap_setCell_same _ g 5 _ _ v5 (heap_setCell_same _ g 4 _ _ v4 (heap_setCell_same _ g 3 _ _ v3 (heap_setCell_same _ g 2 _ _ v2 (heap_setCell_same _ g 1 _ _ v1 (heap_setCell_same _ g 0 _ _ v0 h)))))))))
theorem BoxT.ten {T : TypeId} {w : World} {g : Nat} {t u : Tok} {v0 v1 v2 v3 v4 v5 v6 v7 v8 v9 : Value} (h : BoxT T w g t) (hu : #[v0, v1, v2, v3, v4, v5, v6, v7, v8, v9] = tokC u) : BoxT T (tenW w g v0 v1 v2 v3 v4 v5 v6 v7 v8 v9) g u := by
 unfold BoxT
 rw [← hu]
 exact row_ten (tokC_size t) h _ _ _ _ _ _ _ _ _ _
theorem below_ten {B : Nat} {a w : World} (h : Below B a w) {g : Nat} (hg : B ≤ g) (v0 v1 v2 v3 v4 v5 v6 v7 v8 v9 : Value) : Below B a (tenW w g v0 v1 v2 v3 v4 v5 v6 v7 v8 v9) :=
 (((((((((h.setCell (p := ⟨g, 0, none⟩) hg _).setCell (p := ⟨g, 1, none⟩) hg _).setCell (p := ⟨g, 2, none⟩) hg _).setCell (p := ⟨g, 3, none⟩) hg _).setCell (p := ⟨g, 4, none⟩) hg _).setCell (p := ⟨g, 5, none⟩) hg _).setCell (p := ⟨g, 6, none⟩) hg _).setCell (p := ⟨g, 7, none⟩) hg _).setCell (p := ⟨g, 8, none⟩) hg _).setCell (p := ⟨g, 9, none⟩) hg _
theorem BoxT.cell {T : TypeId} {w : World} {g k : Nat} {t : Tok} (h : BoxT T w g t) (v : Value) (hg : g ≠ k) (j : Nat) : BoxT T (w.setCell ⟨k, j, none⟩ v) g t := (heap_setCell_other w ⟨k, j, none⟩ g v hg).trans h
theorem quant_brace {p : ByteArray} {i e : Nat} {C : Int × Int × Int} (h : bt p i = 123) (he : bracesZ p i = braceT C e) : quantZ p i = if C.2.2 = 0 then ({ tok0 16 with mn := C.1, mx := C.2.1, md := mdV (bt p (e + 1)) }, e + 1 + mdN (bt p (e + 1)), 0) else wrongT C.2.2 := by
 obtain ⟨a, b, c⟩ := C
 unfold quantZ
 rw [if_pos h, he]
 by_cases h0 : c = 0
 ·subst h0
  have h1 : braceT (a, b, 0) e = ({ tok0 16 with mn := a, mx := b }, e + 1, 0) := by unfold braceT; rw [if_neg (by simp)]
  rw [h1, if_pos rfl, mode_eq _ _ _ rfl, if_pos rfl]
 ·have h1 : braceT (a, b, c) e = wrongT c := by unfold braceT; rw [if_pos h0]
  rw [h1, if_neg (show ¬ (wrongT c).2.2 = 0 from h0), if_neg (show ¬ (a, b, c).2.2 = 0 from h0)]
  rfl
theorem newT2 {w : World} {cs : Array Value} {t : Tok} {o : Obj} (h : cs = tokC t) : BoxT 147 ((w.alloc (.cells cs 147)).alloc o) w.heap.size t := (newT h).alloc o
theorem below2 (w : World) (a b : Obj) : Below w.heap.size w ((w.alloc a).alloc b) := ((Below.refl _ w).alloc (Nat.le_refl _) _).alloc (by simp) _
set_option maxHeartbeats 2000000 in
theorem quant_any (p : ByteArray) (i : Nat) (w : World) (hp : p.size ≤ 1000000) (hi : i < p.size) (hq : bt p i = 42 ∨ bt p i = 43 ∨ bt p i = 63 ∨ bt p i = 123) :
  Calls Tryz.prog 86 #[.string p, .int .i64 (i : Int)] w fun e w' => e = .returned (.tuple #[tokV (quantZ p i).1, .int .i64 ((quantZ p i).2.1 : Nat), .int .i64 (quantZ p i).2.2]) ∧ Below w.heap.size w w' := by
 have hii : (i : Int) < (p.size : Int) := by omega
 have hbt : bt p i = (p[i]'hi).toNat := bt_at hi
 rcases hq with h | h | h | h
 ·have HM : Hid (∀ w, Calls Tryz.prog 121 #[.string p, .int .i64 ((i : Int) + 1)] w fun e w' => e = .returned (.tuple #[.int .i64 (mdV (bt p (i + 1))), .int .i64 ((i : Int) + 1 + (mdN (bt p (i + 1)) : Nat))]) ∧ w = w') := Lib.hid (fun w => modeAt_any p (i + 1) w hp (by omega))
  rw [quant_42 h]
  rw [hbt] at h
  have q : ((p[i]'hi).toNat : Int) = 42 := by omega
  clear h hbt
  simp only []
  revert HM
  generalize mdV (bt p (i + 1)) = mv
  generalize mdN (bt p (i + 1)) = mn
  intro HM
  go_enter Tryz.func86, Tryz.ntmps86
  go_wp2_with fail
  refine (HM.out _).mono ?_
  rintro e w1 ⟨rfl, rfl⟩
  go_wp2_with fail
  refine bodyPost_ret (resT3 (p := 4) (u := 5) (u2 := 6) (t := { tok0 16 with mx := -1, md := mv }) (v := .int .i64 ((i : Int) + 1 + (mn : Nat))) (v2 := .int .i64 0) rfl _ (g := w.heap.size) rfl rfl rfl (newT2 (by simp [tokC, tok0, W_zero]; rfl))) rfl ⟨rfl, below2 w _ _⟩
 ·have HM : Hid (∀ w, Calls Tryz.prog 121 #[.string p, .int .i64 ((i : Int) + 1)] w fun e w' => e = .returned (.tuple #[.int .i64 (mdV (bt p (i + 1))), .int .i64 ((i : Int) + 1 + (mdN (bt p (i + 1)) : Nat))]) ∧ w = w') := Lib.hid (fun w => modeAt_any p (i + 1) w hp (by omega))
  rw [quant_43 h]
  rw [hbt] at h
  have q : ((p[i]'hi).toNat : Int) = 43 := by omega
  clear h hbt
  simp only []
  revert HM
  generalize mdV (bt p (i + 1)) = mv
  generalize mdN (bt p (i + 1)) = mn
  intro HM
  go_enter Tryz.func86, Tryz.ntmps86
  go_wp2_with fail
  refine (HM.out _).mono ?_
  rintro e w1 ⟨rfl, rfl⟩
  go_wp2_with fail
  refine bodyPost_ret (resT3 (p := 4) (u := 5) (u2 := 6) (t := { tok0 16 with mn := 1, mx := -1, md := mv }) (v := .int .i64 ((i : Int) + 1 + (mn : Nat))) (v2 := .int .i64 0) rfl _ (g := w.heap.size) rfl rfl rfl (newT2 (by simp [tokC, tok0, W_zero]; rfl))) rfl ⟨rfl, below2 w _ _⟩
 ·have HM : Hid (∀ w, Calls Tryz.prog 121 #[.string p, .int .i64 ((i : Int) + 1)] w fun e w' => e = .returned (.tuple #[.int .i64 (mdV (bt p (i + 1))), .int .i64 ((i : Int) + 1 + (mdN (bt p (i + 1)) : Nat))]) ∧ w = w') := Lib.hid (fun w => modeAt_any p (i + 1) w hp (by omega))
  rw [quant_63 h]
  rw [hbt] at h
  have q : ((p[i]'hi).toNat : Int) = 63 := by omega
  clear h hbt
  simp only []
  revert HM
  generalize mdV (bt p (i + 1)) = mv
  generalize mdN (bt p (i + 1)) = mn
  intro HM
  go_enter Tryz.func86, Tryz.ntmps86
  go_wp2_with fail
  refine (HM.out _).mono ?_
  rintro e w1 ⟨rfl, rfl⟩
  go_wp2_with fail
  refine bodyPost_ret (resT3 (p := 4) (u := 5) (u2 := 6) (t := { tok0 16 with mx := 1, md := mv }) (v := .int .i64 ((i : Int) + 1 + (mn : Nat))) (v2 := .int .i64 0) rfl _ (g := w.heap.size) rfl rfl rfl (newT2 (by simp [tokC, tok0, W_zero]; rfl))) rfl ⟨rfl, below2 w _ _⟩
 ·have hB := first_cases (p.extract (i + 1) p.size) 125
  rw [hbt] at h
  have q : ((p[i]'hi).toNat : Int) = 123 := by omega
  rw [← hbt] at h
  clear hbt
  have hes : (p.extract (i + 1) p.size).size = p.size - (i + 1) := ext_size (Nat.le_refl _)
  rcases hB with ⟨-, hn⟩ | ⟨k, -, hk, hbk, hn⟩
  ·have hz : quantZ p i = wrongT 3 := by
    unfold quantZ
    rw [if_pos h, braces_no (fun j hj => by have := hn (j - (i + 1)); rw [bt_ext _ (by omega), show i + 1 + (j - (i + 1)) = j by omega] at this; exact this)]
    rfl
   rw [hz]
   have HC := Lib.hid (fun w => cut_no (p.extract (i + 1) p.size) 125 w hn)
   have g3 : (0 : Int) ≤ (i : Int) + 1 := by omega
   have g4 : (i : Int) + 1 ≤ (p.size : Int) := by omega
   clear hz hn h hes
   go_enter Tryz.func86, Tryz.ntmps86
   go_wp2_with fail
   refine (HC.out _).mono ?_
   rintro e w1 ⟨rfl, hb1⟩
   obtain ⟨hc, hf⟩ := bcell hb1
   have HB1 := Lib.hid hb1
   clear hb1
   go_wp2_with fail
   have h0 : BoxT 147 w1 w.heap.size (tok0 0) := by
    refine BoxT.below (newT2 ?_) HB1.out ?_
    ·simp [tokC, tok0, W_zero]; rfl
    ·simp; omega
   refine bodyPost_ret (resT3 (p := 4) (u := 5) (u2 := 6) (t := tok0 0) (v := .int .i64 0) (v2 := .int .i64 3) rfl _ (g := w.heap.size) rfl rfl rfl (h0.ten (by simp [tokC, tok0, W_zero]; rfl))) rfl ⟨rfl, ?_⟩
   exact below_ten ((below2 w _ _).trans (HB1.out.mono (by simp; omega))) (Nat.le_refl _) _ _ _ _ _ _ _ _ _ _
  ·rw [hes] at hk
   have hbk' : bt p (i + 1 + k) = 125 := by rw [← bt_ext _ (by omega)]; exact hbk
   have he := braces_eq (p := p) (i := i) (e := i + 1 + k) (by omega) (by omega) hbk' (fun j h1 h2 => by have := hn (j - (i + 1)) (by omega); rw [bt_ext _ (by omega), show i + 1 + (j - (i + 1)) = j by omega] at this; exact this)
   have hx : (p.extract (i + 1) p.size).extract 0 k = p.extract (i + 1) (i + 1 + k) := by
    rw [ByteArray.extract_extract]; congr 1; omega
   have HC := Lib.hid (fun w => cut_at (p.extract (i + 1) p.size) 125 k w (by omega) (by omega) hbk hn)
   rw [hx] at HC
   have hins : (p.extract (i + 1) (i + 1 + k)).size = k := by rw [ext_size (by omega)]; omega
   have HN := Lib.hid (fun w => counts_any (p.extract (i + 1) (i + 1 + k)) w (by omega))
   have hz := quant_brace h he
   rw [hz]
   have HM : Hid (∀ w, Calls Tryz.prog 121 #[.string p, .int .i64 ((i : Int) + 1 + ((k : Int) + 1))] w fun e w' => e = .returned (.tuple #[.int .i64 (mdV (bt p (i + 1 + k + 1))), .int .i64 ((i : Int) + 1 + (k + 1) + (mdN (bt p (i + 1 + k + 1)) : Nat))]) ∧ w = w') := Lib.hid (fun w => by
    have := modeAt_any p (i + 1 + k + 1) w hp (by omega)
    rwa [show ((i + 1 + k + 1 + mdN (bt p (i + 1 + k + 1)) : Nat) : Int) = (i : Int) + 1 + (k + 1) + (mdN (bt p (i + 1 + k + 1)) : Nat) by omega, show ((i + 1 + k + 1 : Nat) : Int) = (i : Int) + 1 + ((k : Int) + 1) by omega] at this)
   clear hz hx he hbk hbk' hn h hes
   have hb0 : (mdN (bt p (i + 1 + k + 1))) ≤ 1 := by unfold mdN; split <;> omega
   revert HM HN HC hins hb0
   generalize mdV (bt p (i + 1 + k + 1)) = mv
   generalize mdN (bt p (i + 1 + k + 1)) = mn
   generalize cntsZ (p.extract (i + 1) (i + 1 + k)) = C
   generalize p.extract (i + 1) (i + 1 + k) = ins
   generalize (p.extract (i + 1) p.size).extract (k + 1) (p.extract (i + 1) p.size).size = rest
   intro HC hins HN HM hb0
   obtain ⟨a, b, e⟩ := C
   simp only [] at HN ⊢
   have g3 : (0 : Int) ≤ (i : Int) + 1 := by omega
   have g4 : (i : Int) + 1 ≤ (p.size : Int) := by omega
   have hki : k + 1 + i ≤ 1000000 := by omega
   by_cases h0 : e = 0
   ·rw [if_pos h0]
    subst h0
    have hx : ((i + 1 + k + 1 + mn : Nat) : Int) = (i : Int) + 1 + (k + 1) + (mn : Nat) := by omega
    rw [hx]
    clear hx
    go_enter Tryz.func86, Tryz.ntmps86
    go_wp2_with fail
    refine (HC.out _).mono ?_
    rintro e w1 ⟨rfl, hb1⟩
    obtain ⟨hc, hf⟩ := bcell hb1
    have HB1 := Lib.hid hb1
    clear hb1
    go_wp2_with fail
    refine (HN.out _).mono ?_
    rintro e w2 ⟨rfl, hb2⟩
    obtain ⟨hc2, hf2⟩ := bcell (thenB HB1.out hb2 HB1.out.size)
    have HB2 := Lib.hid (thenB HB1.out hb2 HB1.out.size)
    clear hb2 hc hf
    go_wp2_with fail
    refine (HM.out _).mono ?_
    rintro e w3 ⟨rfl, rfl⟩
    go_wp2_with fail
    have h0 : BoxT 147 w2 w.heap.size (tok0 0) := by
     refine BoxT.below (newT2 ?_) HB2.out ?_
     ·simp [tokC, tok0, W_zero]; rfl
     ·simp; omega
    have h1 := ((h0.cell (.int .i64 a) (show w.heap.size ≠ w.heap.size + 1 by omega) 5).cell (.int .i64 b) (show w.heap.size ≠ w.heap.size + 1 by omega) 6).cell (.int .i64 mv) (show w.heap.size ≠ w.heap.size + 1 by omega) 7
    refine bodyPost_ret (resT3 (p := 4) (u := 5) (u2 := 6) (t := { tok0 16 with mn := a, mx := b, md := mv }) (v := .int .i64 ((i : Int) + 1 + ((k : Int) + 1) + (mn : Nat))) (v2 := .int .i64 0) rfl _ (g := w.heap.size) rfl rfl rfl (h1.ten (by simp [tokC, tok0, W_zero]; rfl))) rfl ⟨rfl, ?_⟩
    exact below_ten (((((below2 w _ _).trans (HB2.out.mono (by simp; omega))).setCell (p := ⟨w.heap.size + 1, 5, none⟩) (by simp) _).setCell (p := ⟨w.heap.size + 1, 6, none⟩) (by simp) _).setCell (p := ⟨w.heap.size + 1, 7, none⟩) (by simp) _) (Nat.le_refl _) _ _ _ _ _ _ _ _ _ _
   ·rw [if_neg h0]
    go_enter Tryz.func86, Tryz.ntmps86
    go_wp2_with fail
    refine (HC.out _).mono ?_
    rintro e w1 ⟨rfl, hb1⟩
    obtain ⟨hc, hf⟩ := bcell hb1
    have HB1 := Lib.hid hb1
    clear hb1
    go_wp2_with fail
    refine (HN.out _).mono ?_
    rintro e w2 ⟨rfl, hb2⟩
    obtain ⟨hc2, hf2⟩ := bcell (thenB HB1.out hb2 HB1.out.size)
    have HB2 := Lib.hid (thenB HB1.out hb2 HB1.out.size)
    clear hb2 hc hf
    go_wp2_with fail
    have h0 : BoxT 147 w2 w.heap.size (tok0 0) := by
     refine BoxT.below (newT2 ?_) HB2.out ?_
     ·simp [tokC, tok0, W_zero]; rfl
     ·simp; omega
    have h1 := (h0.cell (.int .i64 a) (show w.heap.size ≠ w.heap.size + 1 by omega) 5).cell (.int .i64 b) (show w.heap.size ≠ w.heap.size + 1 by omega) 6
    refine bodyPost_ret (resT3 (p := 4) (u := 5) (u2 := 6) (t := tok0 0) (v := .int .i64 0) (v2 := .int .i64 e) rfl _ (g := w.heap.size) rfl rfl rfl (h1.ten (by simp [tokC, tok0, W_zero]; rfl))) rfl ⟨rfl, ?_⟩
    exact below_ten ((((below2 w _ _).trans (HB2.out.mono (by simp; omega))).setCell (p := ⟨w.heap.size + 1, 5, none⟩) (by simp) _).setCell (p := ⟨w.heap.size + 1, 6, none⟩) (by simp) _) (Nat.le_refl _) _ _ _ _ _ _ _ _ _ _
end Go.Proofs.YteiboobdhjdjkaaGreatDoor
