/-
  Layer 6, the landed code: Lex.
-/
import Derived.Test.YtkpijnodhlonfaaGreatDoorLexClass
import Derived.Test.YtkpijnodhlonfaaGreatDoorLexUp
import Derived.Deep.DeepCutAuto
import Derived.Deep.CutBlock
import Derived.WalkMore
namespace Go.Proofs.YtkpijnodhlonfaaGreatDoor
open Go.RowKit

/-- The cells of a token, as a list; of tokens. -/
def toksC : List Tok → List Value
  | [] => []
  | t :: r => (tokC t).toList ++ toksC r
theorem toksC_snoc (t : Tok) : ∀ l, toksC (l ++ [t]) = toksC l ++ (tokC t).toList
  | [] => by simp [toksC]
  | x :: l => by rw [List.cons_append, toksC, toksC, toksC_snoc t l, List.append_assoc]
theorem toksC_one (l : List Tok) (t : Tok) : toksC (l ++ [t]) = toksC l ++ (tokC t).toList := toksC_snoc t l
theorem toksC_len : ∀ l, (toksC l).length = l.length * 10
  | [] => rfl
  | x :: l => by rw [toksC, List.length_append, toksC_len l, List.length_cons, Nat.succ_mul, Nat.add_comm]; rfl
/-- How far the pattern has been gone through. -/
def LexI (p : ByteArray) (k : Nat) (l : List Tok) : Prop := ∃ f, p.size + 1 ≤ f + k ∧ lexF p (p.size + 1) 0 [] = lexF p f k l
theorem lex_0 (p : ByteArray) : LexI p 0 [] := ⟨p.size + 1, by omega, rfl⟩
theorem lex_bad {p : ByteArray} {k : Nat} {l : List Tok} (hI : LexI p k l) (hk : k < p.size) (h : (tokZ p k).2.2 ≠ 0) : lexF p (p.size + 1) 0 [] = ([], (tokZ p k).2.2) := by
  obtain ⟨f, hf, he⟩ := hI
  obtain ⟨f, rfl⟩ : ∃ g, f = g + 1 := ⟨f - 1, by omega⟩
  rw [he, lexF, if_neg (by omega), if_pos h]
theorem lex_end {p : ByteArray} {k : Nat} {l : List Tok} (hI : LexI p k l) (hk : p.size ≤ k) : lexF p (p.size + 1) 0 [] = (l, 0) := by
  obtain ⟨f, hf, he⟩ := hI
  rw [he]
  cases f with
  | zero => rfl
  | succ f => rw [lexF, if_pos hk]
theorem lex_next {p : ByteArray} {k : Nat} {l : List Tok} (hI : LexI p k l) (hk : k < p.size) (h : (tokZ p k).2.2 = 0) (hu : k + 1 ≤ (tokZ p k).2.1) : LexI p (tokZ p k).2.1 (l ++ [(tokZ p k).1]) := by
  obtain ⟨f, hf, he⟩ := hI
  obtain ⟨f, rfl⟩ : ∃ g, f = g + 1 := ⟨f - 1, by omega⟩
  exact ⟨f, by omega, by rw [he, lexF, if_neg (by omega), if_neg (by simp [h])]⟩
theorem tok_ask {p : ByteArray} {i : Nat} (h : bt p i = 92) (ha : (askT (bt p (i + 1))).2 = true) : tokZ p i = ((askT (bt p (i + 1))).1, i + 2, 0) := by
  rw [tok_esc h]
  unfold askT at ha ⊢
  by_cases a : bt p (i + 1) = 98
  · rw [if_pos a, if_pos a]
  · rw [if_neg a, if_neg a]
    rw [if_neg a] at ha
    by_cases b : bt p (i + 1) = 66
    · rw [if_pos b, if_pos b]
    · rw [if_neg b, if_neg b]
      rw [if_neg b] at ha
      by_cases c : 49 ≤ bt p (i + 1) ∧ bt p (i + 1) ≤ 57
      · rw [if_pos c, if_pos c]
      · rw [if_neg c] at ha
        cases ha
theorem tok_noask {p : ByteArray} {i : Nat} (h : bt p i = 92) (ha : (askT (bt p (i + 1))).2 = false) : tokZ p i = ({ tok0 0 with S := (byteZ p i).1 }, (byteZ p i).2.1, (byteZ p i).2.2) := by
  rw [tok_esc h]
  unfold askT at ha
  by_cases a : bt p (i + 1) = 98
  · rw [if_pos a] at ha; cases ha
  · rw [if_neg a] at ha ⊢
    by_cases b : bt p (i + 1) = 66
    · rw [if_pos b] at ha; cases ha
    · rw [if_neg b] at ha ⊢
      by_cases c : 49 ≤ bt p (i + 1) ∧ bt p (i + 1) ≤ 57
      · rw [if_pos c] at ha; cases ha
      · rw [if_neg c]
        unfold byteZ
        rw [if_pos h]
        split <;> rfl
theorem tok_bytes {p : ByteArray} {i : Nat} (h : ∀ c ∈ [46, 94, 36, 124, 41, 40, 42, 43, 63, 123, 91, 93, 125, 92], bt p i ≠ c) : tokZ p i = ({ tok0 0 with S := (byteZ p i).1 }, (byteZ p i).2.1, (byteZ p i).2.2) := by
  rw [tok_byte h]
  unfold byteZ
  rw [if_neg (h 92 (by decide))]
theorem infoTok : (Tryz.prog.info? 126).map (fun i => (i.zero, i.size, i.bytes)) = some (some (.agg #[.int .i64 0, .int .u64 0, .int .u64 0, .int .u64 0, .int .u64 0, .int .i64 0, .int .i64 0, .int .i64 0, .int .i64 0, .string ⟨#[]⟩]), 10, 88) := by kernel_rfl
/-- A token in a new block is found there. -/
theorem tok_cells (w : World) (T : TypeId) (t : Tok) : ∀ j u, (tokC t).toList[j]? = some u → (w.alloc (.cells (tokC t) T)).cell? (Addr.add ⟨w.heap.size, 0, none⟩ j) = some u := by
  intro j u hu
  rw [Addr.add_lit, ← hu]
  unfold World.cell?
  rw [heap_alloc_new]
  simp
theorem tok_one (t : Tok) : ∀ u ∈ (tokC t).toList, u.oneCell' = true := by
  intro u hu
  simp only [tokC, List.mem_cons, List.not_mem_nil, or_false] at hu
  rcases hu with rfl | rfl | rfl | rfl | rfl | rfl | rfl | rfl | rfl | rfl <;> rfl
theorem own_call {w w' : World} {base : Nat} {T : TypeId} {size : Nat} {v : Value} {n : Nat} {xs : List Value} (h : w.ownsRow base T size v n xs) (hb : Below w.heap.size w w') : w'.ownsRow base T size v n xs := by
  refine ⟨h.1, ?_⟩
  rcases h.2 with h2 | ⟨r, cap, cur, hv, hr, hh, rest⟩
  · exact .inl h2
  · exact .inr ⟨r, cap, cur, hv, hr, (hb.block r (Array.getElem?_eq_some_iff.1 hh).1).trans hh, rest⟩
theorem BoxT.reads {T : TypeId} {w : World} {g : Nat} {t : Tok} (h : BoxT T w g t) (j : Nat) : w.cell? ⟨g, j, none⟩ = (tokC t)[j]? := cell_of_row w g j _ _ _ h
theorem BoxT.c {T : TypeId} {w : World} {g : Nat} {t : Tok} (h : BoxT T w g t) : w.cell? ⟨g, 0, none⟩ = some (.int .i64 t.k) ∧ w.cell? ⟨g, 1, none⟩ = some (.int .u64 (W t.S 0)) ∧ w.cell? ⟨g, 2, none⟩ = some (.int .u64 (W t.S 1)) ∧ w.cell? ⟨g, 3, none⟩ = some (.int .u64 (W t.S 2)) ∧ w.cell? ⟨g, 4, none⟩ = some (.int .u64 (W t.S 3)) ∧ w.cell? ⟨g, 5, none⟩ = some (.int .i64 t.mn) ∧ w.cell? ⟨g, 6, none⟩ = some (.int .i64 t.mx) ∧ w.cell? ⟨g, 7, none⟩ = some (.int .i64 t.md) ∧ w.cell? ⟨g, 8, none⟩ = some (.int .i64 t.n) ∧ w.cell? ⟨g, 9, none⟩ = some (.string t.f) := by
  refine ⟨?_, ?_, ?_, ?_, ?_, ?_, ?_, ?_, ?_, ?_⟩ <;> (rw [cell_of_row w g _ _ _ _ h]; rfl)
/-- The set of a token, stored. -/
theorem BoxT.set4 {T : TypeId} {w : World} {g : Nat} {t : Tok} (h : BoxT T w g t) (S : BitVec 256) : BoxT T ((((w.setCell ⟨g, 1, none⟩ (.int .u64 (W S 0))).setCell ⟨g, 2, none⟩ (.int .u64 (W S 1))).setCell ⟨g, 3, none⟩ (.int .u64 (W S 2))).setCell ⟨g, 4, none⟩ (.int .u64 (W S 3))) g { t with S := S } := by
  unfold BoxT at h ⊢
  have h4 := heap_setCell_same _ g 4 _ _ (.int .u64 (W S 3)) (heap_setCell_same _ g 3 _ _ (.int .u64 (W S 2)) (heap_setCell_same _ g 2 _ _ (.int .u64 (W S 1)) (heap_setCell_same w g 1 _ _ (.int .u64 (W S 0)) h)))
  rw [h4]
  simp [tokC]
theorem below_four {B : Nat} {a w : World} (h : Below B a w) {g : Nat} (hg : B ≤ g) (v1 v2 v3 v4 : Value) : Below B a ((((w.setCell ⟨g, 1, none⟩ v1).setCell ⟨g, 2, none⟩ v2).setCell ⟨g, 3, none⟩ v3).setCell ⟨g, 4, none⟩ v4) :=
  (((h.setCell (p := ⟨g, 1, none⟩) hg _).setCell (p := ⟨g, 2, none⟩) hg _).setCell (p := ⟨g, 3, none⟩) hg _).setCell (p := ⟨g, 4, none⟩) hg _
/-- What the reading of a token leaves. -/
def Cut37 (X : TokR) (wr : World) (s5 s8 : Value) (wx : World) : Prop := ∃ (t : Tok) (b : Int), s5 = .int .i64 X.2.2 ∧ s8 = .int .i64 b ∧ (X.2.2 = 0 → t = X.1 ∧ b = (X.2.1 : Nat)) ∧ BoxT 126 wx wr.heap.size t ∧ Below wr.heap.size wr wx
/-- The tokens as they lie in a world. -/
def GotToks (w : World) (R : List Tok × Int) (e : Ending) (w' : World) : Prop := ∃ v, e = .returned (.tuple #[v, .int .i64 R.2]) ∧ w'.ownsRow w.heap.size 126 10 v R.1.length (toksC R.1) ∧ Below w.heap.size w w'
set_option maxRecDepth 100000 in
set_option maxHeartbeats 16000000 in
theorem lex_any (hE : ErrsOk) (hC : CloneOk) (p : ByteArray) (w : World) (hw : ErrW w) (ht : TabOk w) (ho : OpOk w) : Calls Tryz.prog 74 #[.string p] w (GotToks w (lexZ p)) := by
  by_cases hsz : 1000 < p.size
  · rw [show lexZ p = ([], 4) by unfold lexZ; rw [if_pos hsz]]
    have q : (1000 : Int) < (p.size : Int) := by omega
    clear hsz hw ht ho hE hC
    go_enter Tryz.func74, Tryz.ntmps74
    go_wp2_with fail
    go_step3
    go_wp2_with fail
    rw [Exit.noGoto_ret]
    go_ret2
    exact ⟨_, rfl, ⟨rfl, .inl ⟨rfl, rfl⟩⟩, Below.refl _ _⟩
  · rw [show lexZ p = lexF p (p.size + 1) 0 [] by unfold lexZ; rw [if_neg hsz]]
    have q : ¬ (1000 : Int) < (p.size : Int) := by omega
    have hps : p.size ≤ 1000 := by omega
    have H0 := Lib.hid (lex_0 p)
    have HW := Lib.hid hw
    have HT := Lib.hid ht
    have HO := Lib.hid ho
    have HE := Lib.hid hE
    have HC := Lib.hid hC
    obtain ⟨R, hR⟩ : ∃ R, R = lexF p (p.size + 1) 0 [] := ⟨_, rfl⟩
    rw [← hR]
    have HR := Lib.hid hR
    clear hR hw ht ho hE hC hsz
    obtain ⟨i0, hi, hz0, hz1, hz2⟩ := info_parts infoTok
    have HI := Lib.hid (And.intro hi (And.intro hz0 (And.intro hz1 hz2)))
    clear hi hz0 hz1 hz2
    go_enter Tryz.func74, Tryz.ntmps74
    go_wp2_with fail
    go_step3
    go_wp2_with fail
    go_step3
    go_wp2_with fail
    go_loopw [4, 5, 6] (fun s4 s5 s6 wr => ∃ (k : Nat) (l : List Tok), s6 = .int .i64 k ∧ s5 = .int .i64 0 ∧ k ≤ p.size ∧ l.length ≤ k ∧ LexI p k l ∧ wr.ownsRow w.heap.size 126 10 s4 l.length (toksC l) ∧ Below w.heap.size w wr) (fun _ _ s6 _ => p.size - (intOf s6).toNat)
    case atStart => exact ⟨0, [], rfl, rfl, by omega, Nat.le_refl _, H0.out, World.ownsRow_nil _ _ _ _, Below.refl _ _⟩
    case round =>
      obtain ⟨k, l, rfl, rfl, hk, hlk, hI, hown, hb⟩ := hrel
      have HL := Lib.hid hI
      have HOw := Lib.hid hown
      have HB := Lib.hid hb
      clear hI hown hb
      by_cases hlt : k < p.size
      · have r1 : (k : Int) < (p.size : Int) := by omega
        obtain ⟨X, hX⟩ : ∃ X, X = tokZ p k := ⟨_, rfl⟩
        have HX := Lib.hid hX
        clear hX
        go_upto_block 2 with fail
        go_cut [5, 8, 22] (fun s5 s8 _ wx => Cut37 X wr s5 s8 wx)
        case first =>
          have hb : bt p k = (p[k]'hlt).toNat := bt_at hlt
          have hBz : BoxT 126 (World.alloc wr (.cells #[.int .i64 0, .int .u64 0, .int .u64 0, .int .u64 0, .int .u64 0, .int .i64 0, .int .i64 0, .int .i64 0, .int .i64 0, .string ⟨#[]⟩] 126)) wr.heap.size (tok0 0) := newT (by simp [tokC, tok0, W_zero]; rfl)
          have HBz := Lib.hid hBz
          clear hBz
          rename_i h9 K0 a3 Q1 K1 a2 J1 K2 a1 a0
          clear_value Q1
          clear a2 K1 a3 K0 H0 HR HL HOw HI
          by_cases h46 : bt p k = 46
          · have q : ((p[k]'hlt).toNat : Int) = 46 := by omega
            as_aux_lemma =>
              have hx := HX.out.trans (tok_46 h46)
              clear hb h46
              subst hx
              go_wp2_with fail
              go_meet
              exact ⟨tok0 1, (k : Int) + 1, rfl, rfl, fun _ => ⟨rfl, by show _ = ((k + 1 : Nat) : Int); omega⟩, newT (by simp [tokC, tok0, W_zero]; rfl), (Below.refl _ wr).alloc (Nat.le_refl _) _⟩
          · skip
            by_cases h94 : bt p k = 94
            · have q : ((p[k]'hlt).toNat : Int) = 94 := by omega
              as_aux_lemma =>
                have hx := HX.out.trans (tok_94 h94)
                clear hb h94
                subst hx
                go_wp2_with fail
                go_meet
                exact ⟨tok0 2, (k : Int) + 1, rfl, rfl, fun _ => ⟨rfl, by show _ = ((k + 1 : Nat) : Int); omega⟩, newT (by simp [tokC, tok0, W_zero]; rfl), (Below.refl _ wr).alloc (Nat.le_refl _) _⟩
            · skip
              by_cases h36 : bt p k = 36
              · have q : ((p[k]'hlt).toNat : Int) = 36 := by omega
                as_aux_lemma =>
                  have hx := HX.out.trans (tok_36 h36)
                  clear hb h36
                  subst hx
                  go_wp2_with fail
                  go_meet
                  exact ⟨tok0 3, (k : Int) + 1, rfl, rfl, fun _ => ⟨rfl, by show _ = ((k + 1 : Nat) : Int); omega⟩, newT (by simp [tokC, tok0, W_zero]; rfl), (Below.refl _ wr).alloc (Nat.le_refl _) _⟩
              · skip
                by_cases h124 : bt p k = 124
                · have q : ((p[k]'hlt).toNat : Int) = 124 := by omega
                  as_aux_lemma =>
                    have hx := HX.out.trans (tok_124 h124)
                    clear hb h124
                    subst hx
                    go_wp2_with fail
                    go_meet
                    exact ⟨tok0 6, (k : Int) + 1, rfl, rfl, fun _ => ⟨rfl, by show _ = ((k + 1 : Nat) : Int); omega⟩, newT (by simp [tokC, tok0, W_zero]; rfl), (Below.refl _ wr).alloc (Nat.le_refl _) _⟩
                · skip
                  by_cases h41 : bt p k = 41
                  · have q : ((p[k]'hlt).toNat : Int) = 41 := by omega
                    as_aux_lemma =>
                      have hx := HX.out.trans (tok_41 h41)
                      clear hb h41
                      subst hx
                      go_wp2_with fail
                      go_meet
                      exact ⟨tok0 15, (k : Int) + 1, rfl, rfl, fun _ => ⟨rfl, by show _ = ((k + 1 : Nat) : Int); omega⟩, newT (by simp [tokC, tok0, W_zero]; rfl), (Below.refl _ wr).alloc (Nat.le_refl _) _⟩
                  · skip
                    by_cases h40 : bt p k = 40
                    · have q : ((p[k]'hlt).toNat : Int) = 40 := by omega
                      as_aux_lemma =>
                        have HC2 := Lib.hid (fun w h => opening_any HC.out p k w (by omega) hlt h40 h)
                        rw [← HX.out] at HC2
                        clear hb h40
                        go_wp2_with fail
                        with_reducible refine (HC2.out _ ((HO.out.call HB.out).alloc _)).mono ?_
                        rintro e w2 ⟨rfl, hb2⟩
                        obtain ⟨hc, hf⟩ := bcell hb2
                        have HB2 := Lib.hid (((Below.refl _ wr).alloc (Nat.le_refl _) _).trans (hb2.mono (show wr.heap.size ≤ _ by simp)))
                        have HY := Lib.hid (HBz.out.below hb2 (by simp))
                        clear hb2
                        go_wp2_with (refine storeT rfl _ _ rfl wr.heap.size (tok0 0) X.1 rfl _ rfl rfl HY.out ?_)
                        go_meet
                        exact ⟨X.1, _, rfl, rfl, fun _ => ⟨rfl, rfl⟩, HY.out.rowSame X.1, below_row HB2.out (Nat.le_refl _) _⟩
                    · skip
                      by_cases h42 : bt p k = 42
                      · have q : ((p[k]'hlt).toNat : Int) = 42 := by omega
                        as_aux_lemma =>
                          have hqc : bt p k = 42 ∨ bt p k = 43 ∨ bt p k = 63 ∨ bt p k = 123 := by omega
                          have HC2 := Lib.hid (fun w => quant_any p k w (by omega) hlt hqc)
                          rw [← HX.out.trans (tok_quant hqc)] at HC2
                          clear hb h42 hqc
                          go_wp2_with fail
                          with_reducible refine (HC2.out _).mono ?_
                          rintro e w2 ⟨rfl, hb2⟩
                          obtain ⟨hc, hf⟩ := bcell hb2
                          have HB2 := Lib.hid (((Below.refl _ wr).alloc (Nat.le_refl _) _).trans (hb2.mono (show wr.heap.size ≤ _ by simp)))
                          have HY := Lib.hid (HBz.out.below hb2 (by simp))
                          clear hb2
                          go_wp2_with (refine storeT rfl _ _ rfl wr.heap.size (tok0 0) X.1 rfl _ rfl rfl HY.out ?_)
                          go_meet
                          exact ⟨X.1, _, rfl, rfl, fun _ => ⟨rfl, rfl⟩, HY.out.rowSame X.1, below_row HB2.out (Nat.le_refl _) _⟩
                      · skip
                        by_cases h43 : bt p k = 43
                        · have q : ((p[k]'hlt).toNat : Int) = 43 := by omega
                          as_aux_lemma =>
                            have hqc : bt p k = 42 ∨ bt p k = 43 ∨ bt p k = 63 ∨ bt p k = 123 := by omega
                            have HC2 := Lib.hid (fun w => quant_any p k w (by omega) hlt hqc)
                            rw [← HX.out.trans (tok_quant hqc)] at HC2
                            clear hb h43 hqc
                            go_wp2_with fail
                            with_reducible refine (HC2.out _).mono ?_
                            rintro e w2 ⟨rfl, hb2⟩
                            obtain ⟨hc, hf⟩ := bcell hb2
                            have HB2 := Lib.hid (((Below.refl _ wr).alloc (Nat.le_refl _) _).trans (hb2.mono (show wr.heap.size ≤ _ by simp)))
                            have HY := Lib.hid (HBz.out.below hb2 (by simp))
                            clear hb2
                            go_wp2_with (refine storeT rfl _ _ rfl wr.heap.size (tok0 0) X.1 rfl _ rfl rfl HY.out ?_)
                            go_meet
                            exact ⟨X.1, _, rfl, rfl, fun _ => ⟨rfl, rfl⟩, HY.out.rowSame X.1, below_row HB2.out (Nat.le_refl _) _⟩
                        · skip
                          by_cases h63 : bt p k = 63
                          · have q : ((p[k]'hlt).toNat : Int) = 63 := by omega
                            as_aux_lemma =>
                              have hqc : bt p k = 42 ∨ bt p k = 43 ∨ bt p k = 63 ∨ bt p k = 123 := by omega
                              have HC2 := Lib.hid (fun w => quant_any p k w (by omega) hlt hqc)
                              rw [← HX.out.trans (tok_quant hqc)] at HC2
                              clear hb h63 hqc
                              go_wp2_with fail
                              with_reducible refine (HC2.out _).mono ?_
                              rintro e w2 ⟨rfl, hb2⟩
                              obtain ⟨hc, hf⟩ := bcell hb2
                              have HB2 := Lib.hid (((Below.refl _ wr).alloc (Nat.le_refl _) _).trans (hb2.mono (show wr.heap.size ≤ _ by simp)))
                              have HY := Lib.hid (HBz.out.below hb2 (by simp))
                              clear hb2
                              go_wp2_with (refine storeT rfl _ _ rfl wr.heap.size (tok0 0) X.1 rfl _ rfl rfl HY.out ?_)
                              go_meet
                              exact ⟨X.1, _, rfl, rfl, fun _ => ⟨rfl, rfl⟩, HY.out.rowSame X.1, below_row HB2.out (Nat.le_refl _) _⟩
                          · skip
                            by_cases h123 : bt p k = 123
                            · have q : ((p[k]'hlt).toNat : Int) = 123 := by omega
                              as_aux_lemma =>
                                have hqc : bt p k = 42 ∨ bt p k = 43 ∨ bt p k = 63 ∨ bt p k = 123 := by omega
                                have HC2 := Lib.hid (fun w => quant_any p k w (by omega) hlt hqc)
                                rw [← HX.out.trans (tok_quant hqc)] at HC2
                                clear hb h123 hqc
                                go_wp2_with fail
                                with_reducible refine (HC2.out _).mono ?_
                                rintro e w2 ⟨rfl, hb2⟩
                                obtain ⟨hc, hf⟩ := bcell hb2
                                have HB2 := Lib.hid (((Below.refl _ wr).alloc (Nat.le_refl _) _).trans (hb2.mono (show wr.heap.size ≤ _ by simp)))
                                have HY := Lib.hid (HBz.out.below hb2 (by simp))
                                clear hb2
                                go_wp2_with (refine storeT rfl _ _ rfl wr.heap.size (tok0 0) X.1 rfl _ rfl rfl HY.out ?_)
                                go_meet
                                exact ⟨X.1, _, rfl, rfl, fun _ => ⟨rfl, rfl⟩, HY.out.rowSame X.1, below_row HB2.out (Nat.le_refl _) _⟩
                            · skip
                              by_cases h91 : bt p k = 91
                              · have q : ((p[k]'hlt).toNat : Int) = 91 := by omega
                                as_aux_lemma =>
                                  have HC2 := Lib.hid (fun w h h2 => class_any HE.out p k w (by omega) hlt h91 h h2)
                                  have hx := HX.out.trans (tok_91 h91)
                                  clear hb h91
                                  subst hx
                                  go_wp2_with fail
                                  with_reducible refine (HC2.out _ ((HW.out.call HB.out).alloc _) ((HT.out.call HB.out).alloc _)).mono ?_
                                  rintro e w2 ⟨rfl, hb2⟩
                                  obtain ⟨hc, hf⟩ := bcell hb2
                                  have HB2 := Lib.hid (((Below.refl _ wr).alloc (Nat.le_refl _) _).trans (hb2.mono (show wr.heap.size ≤ _ by simp)))
                                  have HY := Lib.hid (HBz.out.below hb2 (by simp))
                                  clear hb2
                                  go_wp2_with fail
                                  go_meet
                                  exact ⟨{ tok0 0 with S := (classZ p k).1 }, _, rfl, rfl, fun _ => ⟨rfl, rfl⟩, HY.out.set4 (classZ p k).1, below_four HB2.out (Nat.le_refl _) _ _ _ _⟩
                              · skip
                                by_cases h93 : bt p k = 93
                                · have q : ((p[k]'hlt).toNat : Int) = 93 := by omega
                                  as_aux_lemma =>
                                    have hx := HX.out.trans (tok_93 h93)
                                    clear hb h93
                                    subst hx
                                    go_wp2_with fail
                                    go_meet
                                    exact ⟨tok0 0, _, rfl, rfl, (fun h => by cases h), HBz.out, (Below.refl _ wr).alloc (Nat.le_refl _) _⟩
                                · skip
                                  by_cases h125 : bt p k = 125
                                  · have q : ((p[k]'hlt).toNat : Int) = 125 := by omega
                                    as_aux_lemma =>
                                      have hx := HX.out.trans (tok_125 h125)
                                      clear hb h125
                                      subst hx
                                      go_wp2_with fail
                                      go_meet
                                      exact ⟨tok0 0, _, rfl, rfl, (fun h => by cases h), HBz.out, (Below.refl _ wr).alloc (Nat.le_refl _) _⟩
                                  · skip
                                    by_cases h92 : bt p k = 92
                                    · have q : ((p[k]'hlt).toNat : Int) = 92 := by omega
                                      have HAs := Lib.hid (fun w => asking_any (p.extract (k + 1) p.size) w (by rw [ext_size (Nat.le_refl _)]; omega))
                                      rw [bt_ext _ (by omega)] at HAs
                                      have g2 : (k : Int) + 1 ≤ (p.size : Int) := by omega
                                      have HC2 := Lib.hid (fun w h => bytesAt_any HE.out p k w (by omega) hlt h)
                                      have HYes := Lib.hid (fun h => HX.out.trans (tok_ask h92 h))
                                      have HNo := Lib.hid (fun h => HX.out.trans (tok_noask h92 h))
                                      rw [show k + 1 + 0 = k + 1 from rfl] at HAs
                                      clear hb h92
                                      revert HAs HYes HNo
                                      generalize askT (bt p (k + 1)) = Y
                                      intro HAs HYes HNo
                                      obtain ⟨u, b⟩ := Y
                                      simp only [] at HAs HYes HNo
                                      have HAq : Hid (∀ w, Calls Tryz.prog 91 #[.string (p.extract (k + 1) p.size)] w fun e w' => e = .returned (.tuple #[.agg #[.int .i64 u.k, .int .u64 (W u.S 0), .int .u64 (W u.S 1), .int .u64 (W u.S 2), .int .u64 (W u.S 3), .int .i64 u.mn, .int .i64 u.mx, .int .i64 u.md, .int .i64 u.n, .string u.f], .bool b]) ∧ Below w.heap.size w w') := HAs
                                      clear HAs
                                      go_wp2_with fail
                                      with_reducible refine (HAq.out _).mono ?_
                                      rintro e w2 ⟨rfl, hb2⟩
                                      have HB2 := Lib.hid (((Below.refl _ wr).alloc (Nat.le_refl _) _).trans (hb2.mono (show wr.heap.size ≤ _ by simp)))
                                      have HY := Lib.hid (HBz.out.below hb2 (by simp))
                                      clear hb2
                                      cases b with
                                      | true =>
                                        have hx := HYes.out rfl
                                        clear HYes HNo HC2
                                        subst hx
                                        have y0 := fun o => (HY.out.alloc o).c.1
                                        have y1 := fun o => (HY.out.alloc o).c.2.1
                                        have y2 := fun o => (HY.out.alloc o).c.2.2.1
                                        have y3 := fun o => (HY.out.alloc o).c.2.2.2.1
                                        have y4 := fun o => (HY.out.alloc o).c.2.2.2.2.1
                                        have y5 := fun o => (HY.out.alloc o).c.2.2.2.2.2.1
                                        have y6 := fun o => (HY.out.alloc o).c.2.2.2.2.2.2.1
                                        have y7 := fun o => (HY.out.alloc o).c.2.2.2.2.2.2.2.1
                                        have y8 := fun o => (HY.out.alloc o).c.2.2.2.2.2.2.2.2.1
                                        have y9 := fun o => (HY.out.alloc o).c.2.2.2.2.2.2.2.2.2
                                        have yf := fun o j => frozen_of_row (w2.alloc o) wr.heap.size j _ _ (HY.out.alloc o)
                                        go_wp2_with fail
                                        go_meet
                                        exact ⟨u, _, rfl, rfl, fun _ => ⟨rfl, by show _ = ((k + 2 : Nat) : Int); omega⟩, (HY.out.alloc _).ten rfl, below_ten (HB2.out.alloc HB2.out.size _) (Nat.le_refl _) _ _ _ _ _ _ _ _ _ _⟩
                                      | false =>
                                        have hx := HNo.out rfl
                                        clear HYes HNo
                                        subst hx
                                        go_wp2_with fail
                                        with_reducible refine (HC2.out _ ((HW.out.call (HB.out.trans (HB2.out.mono HB.out.size))).alloc _)).mono ?_
                                        rintro e w3 ⟨rfl, hb2⟩
                                        have HY3 := Lib.hid ((HY.out.alloc _).below hb2 (HY.out.alloc _).lt)
                                        have HB3 := Lib.hid (thenB (HB2.out.alloc HB2.out.size _) hb2 (HB2.out.alloc HB2.out.size _).size)
                                        clear hb2
                                        obtain ⟨y0, y1, y2, y3, y4, y5, y6, y7, y8, y9⟩ := HY3.out.c
                                        have yf := fun j => frozen_of_row w3 wr.heap.size j _ _ HY3.out
                                        go_wp2_with fail
                                        go_meet
                                        exact ⟨{ tok0 0 with S := (byteZ p k).1 }, _, rfl, rfl, fun _ => ⟨rfl, rfl⟩, HY3.out.set4 (byteZ p k).1, below_four HB3.out (Nat.le_refl _) _ _ _ _⟩
                                    · have hx := HX.out.trans (tok_bytes (by simp only [List.mem_cons, List.mem_nil_iff, or_false, forall_eq_or_imp, forall_eq]; exact ⟨h46, h94, h36, h124, h41, h40, h42, h43, h63, h123, h91, h93, h125, h92⟩))
                                      have q46 : ¬ ((p[k]'hlt).toNat : Int) = 46 := by omega
                                      have q94 : ¬ ((p[k]'hlt).toNat : Int) = 94 := by omega
                                      have q36 : ¬ ((p[k]'hlt).toNat : Int) = 36 := by omega
                                      have q124 : ¬ ((p[k]'hlt).toNat : Int) = 124 := by omega
                                      have q41 : ¬ ((p[k]'hlt).toNat : Int) = 41 := by omega
                                      have q40 : ¬ ((p[k]'hlt).toNat : Int) = 40 := by omega
                                      have q42 : ¬ ((p[k]'hlt).toNat : Int) = 42 := by omega
                                      have q43 : ¬ ((p[k]'hlt).toNat : Int) = 43 := by omega
                                      have q63 : ¬ ((p[k]'hlt).toNat : Int) = 63 := by omega
                                      have q123 : ¬ ((p[k]'hlt).toNat : Int) = 123 := by omega
                                      have q91 : ¬ ((p[k]'hlt).toNat : Int) = 91 := by omega
                                      have q93 : ¬ ((p[k]'hlt).toNat : Int) = 93 := by omega
                                      have q125 : ¬ ((p[k]'hlt).toNat : Int) = 125 := by omega
                                      have q92 : ¬ ((p[k]'hlt).toNat : Int) = 92 := by omega
                                      have HC2 := Lib.hid (fun w h => bytesAt_any HE.out p k w (by omega) hlt h)
                                      clear hb h46 h94 h36 h124 h41 h40 h42 h43 h63 h123 h91 h93 h125 h92
                                      as_aux_lemma =>
                                        subst hx
                                        go_wp2_with fail
                                        with_reducible refine (HC2.out _ ((HW.out.call HB.out).alloc _)).mono ?_
                                        rintro e w2 ⟨rfl, hb2⟩
                                        obtain ⟨hc, hf⟩ := bcell hb2
                                        have HB2 := Lib.hid (((Below.refl _ wr).alloc (Nat.le_refl _) _).trans (hb2.mono (show wr.heap.size ≤ _ by simp)))
                                        have HY := Lib.hid (HBz.out.below hb2 (by simp))
                                        clear hb2
                                        go_wp2_with fail
                                        go_meet
                                        exact ⟨{ tok0 0 with S := (byteZ p k).1 }, _, rfl, rfl, fun _ => ⟨rfl, rfl⟩, HY.out.set4 (byteZ p k).1, below_four HB2.out (Nat.le_refl _) _ _ _ _⟩
        case rest =>
          obtain ⟨t, b, rfl, rfl, htb, hBx, hBl⟩ := hcut
          have HOx := Lib.hid (own_call HOw.out (hBl.mono (Nat.le_refl _)))
          have HBx := Lib.hid (HB.out.trans (hBl.mono HB.out.size))
          have hsx := HBx.out.size
          have HSx := Lib.hid hsx
          clear hsx
          obtain ⟨y0, y1, y2, y3, y4, y5, y6, y7, y8, y9⟩ := hBx.c
          have HBox := Lib.hid hBx
          clear hBl hBx
          obtain ⟨u, c, e⟩ := X
          simp only [] at htb
          by_cases he : e = 0
          · subst he
            obtain ⟨rfl, rfl⟩ := htb rfl
            have hup := tok_up p k hlt (by rw [← HX.out])
            have HN := Lib.hid (lex_next HL.out hlt (by rw [← HX.out]) hup.1)
            rw [← HX.out] at HN hup
            simp only [] at HN hup
            clear htb
            go_wp2_with (at_builtin; refine wpList_append_own _ rfl _ _ 114 rfl w.heap.size 126 i0 _ 10 88 Tryz.underlying114 HI.out.1 HI.out.2.1 HI.out.2.2.1 HI.out.2.2.2 rfl (by decide) _ _ _ rfl (HOx.out.alloc _) ⟨wc.heap.size, 0, none⟩ 1 1 (tokC t).toList rfl rfl (tok_cells wc _ t) (tok_one t) (by unfold maxLen; omega) (by omega) (by have := HSx.out; simp; omega) ?_)
            intro v3 w3 hown3 hgrow3 _
            have hown : ∀ g, Value.ownBlock u4 = some g → w.heap.size ≤ g := fun g hg => (HOx.out.lt g hg).1
            have HB3 := Lib.hid ((HBx.out.alloc HSx.out _).grown hgrow3 (Nat.le_trans HSx.out (by simp)) hown)
            rw [← toksC_one l t] at hown3
            have HO3 := Lib.hid hown3
            clear hown3 hgrow3 hown
            go_wp2_with fail
            go_roundw
            case rel => exact ⟨c, l ++ [t], rfl, rfl, hup.2, by simp; omega, HN.out, by rw [List.length_append]; exact HO3.out, HB3.out⟩
            case measure => simp [intOf]; omega
          · have HN := Lib.hid (lex_bad HL.out hlt (by rw [← HX.out]; exact he))
            rw [← HX.out] at HN
            obtain rfl := HR.out.trans HN.out
            clear htb HN
            go_wp2_with fail
            go_ret2
            exact ⟨_, rfl, World.ownsRow_nil _ _ _ _, HBx.out⟩
      · have hks : k = p.size := by omega
        have HN := Lib.hid (lex_end HL.out (by omega))
        obtain rfl := HR.out.trans HN.out
        clear HL hlt hk HN
        subst hks
        go_wp2_with fail
        rw [Exit.noGoto_ret]
        go_ret2
        exact ⟨_, rfl, HOw.out, HB.out⟩
end Go.Proofs.YtkpijnodhlonfaaGreatDoor
