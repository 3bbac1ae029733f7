import Derived.Test.YteggpecbeagohaaGreatDoorLexOpening
import Derived.Test.YteggpecbeagohaaGreatDoorLexItemMM
import Derived.Deep.DeepCutAuto
import Derived.Deep.CutBlock
import Derived.WalkMore
import Derived.Test.YteggpecbeagohaaGreatDoorClassMM
namespace Go.Proofs.YteggpecbeagohaaGreatDoor
theorem mdN_up (p : ByteArray) (j : Nat) (hj : j ≤ p.size) : j + mdN (bt p j) ≤ p.size := by
 unfold mdN
 split
 ·rename_i h
  have := bt_in (p := p) (i := j) (by omega)
  omega
 ·omega
theorem cls_up (p : ByteArray) : ∀ (f a : Nat) (s : BitVec 256) (b : Bool) (x : BitVec 256 × Nat), a ≤ p.size → clsF p f a s b = some x → a ≤ x.2 ∧ x.2 < p.size
 | 0, a, s, b, x, _, h => by cases h
 | f + 1, a, s, b, x, ha, h => by
   by_cases hb : b = false ∧ bt p a = 93
   ·rw [clsF, if_pos hb] at h
    cases h
    exact ⟨Nat.le_refl _, bt_in (p := p) (i := a) (by rw [hb.2]; decide)⟩
   ·rw [cls_step _ _ _ _ _ hb] at h
    by_cases hs : (spanZ p a).2.2 ≠ 0
    ·rw [if_pos hs] at h; cases h
    ·rw [if_neg hs] at h
     have hu := (span_up p a).resolve_left (fun h2 => by rw [h2] at hs; simp at hs)
     have := cls_up p f _ _ _ x hu.2.2 h
     omega
theorem brace_up (p : ByteArray) (i : Nat) (hi : i < p.size) (hb : bt p i = 123) (h : (quantZ p i).2.2 = 0) : i + 1 ≤ (quantZ p i).2.1 ∧ (quantZ p i).2.1 ≤ p.size := by
 have hes : (p.extract (i + 1) p.size).size = p.size - (i + 1) := ext_size (Nat.le_refl _)
 rcases first_cases (p.extract (i + 1) p.size) 125 with ⟨-, hn⟩ | ⟨k, -, hk, hbk, hn⟩
 ·have hz : quantZ p i = wrongT 3 := by
   unfold quantZ
   rw [if_pos hb, braces_no (fun j hj => by have := hn (j - (i + 1)); rw [bt_ext _ (by omega), show i + 1 + (j - (i + 1)) = j by omega] at this; exact this)]
   rfl
  rw [hz] at h
  exact absurd (show (3 : Int) = 0 from h) (by decide)
 ·rw [hes] at hk
  have hbk' : bt p (i + 1 + k) = 125 := by rw [← bt_ext _ (by omega)]; exact hbk
  have he := braces_eq (p := p) (i := i) (e := i + 1 + k) (by omega) (by omega) hbk' (fun j h1 h2 => by have := hn (j - (i + 1)) (by omega); rw [bt_ext _ (by omega), show i + 1 + (j - (i + 1)) = j by omega] at this; exact this)
  have hz := quant_brace hb he
  rw [hz] at h ⊢
  clear hz he
  generalize cntsZ (p.extract (i + 1) (i + 1 + k)) = C at h ⊢
  by_cases h0 : C.2.2 = 0
  ·rw [if_pos h0]
   have := mdN_up p (i + 1 + k + 1) (by omega)
   exact ⟨by simp only []; omega, by simp only []; omega⟩
  ·rw [if_neg h0] at h
   exact absurd h h0
theorem up1 {p : ByteArray} {i : Nat} {t : Tok} {e : Int} (hi : i < p.size) : i + 1 ≤ ((t, i + 1, e) : TokR).2.1 ∧ ((t, i + 1, e) : TokR).2.1 ≤ p.size := ⟨Nat.le_refl _, hi⟩
theorem tok_up (p : ByteArray) (i : Nat) (hi : i < p.size) (h : (tokZ p i).2.2 = 0) : i + 1 ≤ (tokZ p i).2.1 ∧ (tokZ p i).2.1 ≤ p.size := by
 by_cases h46 : bt p i = 46
 ·rw [tok_46 h46]; exact up1 hi
 by_cases h94 : bt p i = 94
 ·rw [tok_94 h94]; exact up1 hi
 by_cases h36 : bt p i = 36
 ·rw [tok_36 h36]; exact up1 hi
 by_cases h124 : bt p i = 124
 ·rw [tok_124 h124]; exact up1 hi
 by_cases h41 : bt p i = 41
 ·rw [tok_41 h41]; exact up1 hi
 by_cases h93 : bt p i = 93
 ·rw [tok_93 h93] at h; exact absurd (show (3 : Int) = 0 from h) (by decide)
 by_cases h125 : bt p i = 125
 ·rw [tok_125 h125] at h; exact absurd (show (3 : Int) = 0 from h) (by decide)
 by_cases h91 : bt p i = 91
 ·rw [tok_91 h91] at h ⊢
  have hc := class_eq hi h91
  have h' : (classZ p i).2.2 = 0 := h
  show i + 1 ≤ (classZ p i).2.1 ∧ (classZ p i).2.1 ≤ p.size
  rw [hc] at h' ⊢
  have ha : (if bt p (i + 1) = 94 then i + 2 else i + 1) ≤ p.size ∧ i + 1 ≤ (if bt p (i + 1) = 94 then i + 2 else i + 1) := by
   split
   ·rename_i h2
    have := bt_in (p := p) (i := i + 1) (by omega)
    omega
   ·omega
  have hu := fun x => cls_up p (p.size + 1) (if bt p (i + 1) = 94 then i + 2 else i + 1) 0#256 true x ha.1
  revert h' hu
  generalize clsF p (p.size + 1) (if bt p (i + 1) = 94 then i + 2 else i + 1) 0#256 true = C
  intro h' hu
  cases C with
  | none => exact absurd (show (3 : Int) = 0 from h') (by decide)
  | some x =>
    have := hu x rfl
    show i + 1 ≤ x.2 + 1 ∧ x.2 + 1 ≤ p.size
    omega
 by_cases h40 : bt p i = 40
 ·by_cases h63 : bt p (i + 1) = 63
  ·rw [tok_open2 h40 h63] at h ⊢
   have h1 := bt_in (p := p) (i := i + 1) (by omega)
   have h2 : bt p (i + 2) ≠ 256 → i + 2 < p.size := bt_in
   have h3 : bt p (i + 3) ≠ 256 → i + 3 < p.size := bt_in
   split
   ·exact ⟨by simp only []; omega, by simp only []; omega⟩
   ·split
    ·exact ⟨by simp only []; omega, by simp only []; omega⟩
    ·split
     ·exact ⟨by simp only []; omega, by simp only []; omega⟩
     ·split
      ·exact ⟨by simp only []; omega, by simp only []; omega⟩
      ·split
       ·exact ⟨by simp only []; omega, by simp only []; omega⟩
       ·split
        ·exact ⟨by simp only []; omega, by simp only []; omega⟩
        ·rename_i a b c d e f
         rw [if_neg a, if_neg b, if_neg c, if_neg d, if_neg e, if_neg f] at h
         rcases flags_form p (p.size + 1) (i + 2) [] with hf | ⟨L, hf, hL, hL2⟩
         ·rw [hf] at h; exact absurd (show (3 : Int) = 0 from h) (by decide)
         ·rw [hf]
          simp only [List.length_nil, Nat.sub_zero] at hL2 ⊢
          omega
  ·rw [tok_open h40 h63]; exact up1 hi
 by_cases hq : bt p i = 42 ∨ bt p i = 43 ∨ bt p i = 63 ∨ bt p i = 123
 ·rw [tok_quant hq] at h ⊢
  have hm := mdN_up p (i + 1) (by omega)
  rcases hq with hq | hq | hq | hq
  ·rw [quant_42 hq]; exact ⟨by simp only []; omega, by simp only []; omega⟩
  ·rw [quant_43 hq]; exact ⟨by simp only []; omega, by simp only []; omega⟩
  ·rw [quant_63 hq]; exact ⟨by simp only []; omega, by simp only []; omega⟩
  ·exact brace_up p i hi hq h
 by_cases h92 : bt p i = 92
 ·rw [tok_esc h92] at h ⊢
  have h1 : bt p (i + 1) ≠ 256 → i + 1 < p.size := bt_in
  have hu := escZ_up p i
  split
  ·exact ⟨by simp only []; omega, by simp only []; omega⟩
  ·split
   ·exact ⟨by simp only []; omega, by simp only []; omega⟩
   ·split
    ·exact ⟨by simp only []; omega, by simp only []; omega⟩
    ·rename_i a b c
     rw [if_neg a, if_neg b, if_neg c] at h
     split
     ·rename_i d
      rw [if_pos d] at h
      exact absurd (show (3 : Int) = 0 from h) (by decide)
     ·exact ⟨by simp only []; omega, by simp only []; omega⟩
 ·rw [tok_byte (by simp only [List.mem_cons, List.mem_nil_iff, or_false, forall_eq_or_imp, forall_eq]; omega)]
  exact up1 hi
end Go.Proofs.YteggpecbeagohaaGreatDoor
namespace Go.Proofs.YteggpecbeagohaaGreatDoor
open Go.RowKit
def toksC : List Tok → List Value
 | [] => []
 | t :: r => (tokC t).toList ++ toksC r
theorem toksC_snoc (t : Tok) : ∀ l, toksC (l ++ [t]) = toksC l ++ (tokC t).toList
 | [] => by simp [toksC]
 | x :: l => by rw [List.cons_append, toksC, toksC, toksC_snoc t l, List.append_assoc]
theorem toksC_one (l : List Tok) (t : Tok) : toksC (l ++ [t]) = toksC l ++ (tokC t).toList := toksC_snoc t l
def LexI (p : ByteArray) (k : Nat) (l : List Tok) : Prop := ∃ f, p.size + 1 ≤ f + k ∧ lexF p (p.size + 1) 0 [] = lexF p f k l
theorem lex_0 (p : ByteArray) : LexI p 0 [] := ⟨p.size + 1, by omega, rfl⟩
theorem lex_bad {p : ByteArray} {k : Nat} {l : List Tok} (hI : LexI p k l) (hk : k < p.size) (h : (tokZ p k).2.2 ≠ 0) : lexF p (p.size + 1) 0 [] = ([], (tokZ p k).2.2) := by
 obtain ⟨f, hf, he⟩ := hI
 obtain ⟨f, rfl⟩ : ∃ g, f = g + 1 := ⟨f - 1, by omega⟩
 rw [he, lexF, if_neg (by omega), if_pos h]
theorem lex_end {p : ByteArray} {k : Nat} {l : List Tok} (hI : LexI p k l) (hk : p.size ≤ k) : lexF p (p.size + 1) 0 [] = (l, 0) := by
 obtain ⟨f, hf, he⟩ := hI
 rw [he]
 cases f with
 | zero => rfl
 | succ f => rw [lexF, if_pos hk]
theorem lex_next {p : ByteArray} {k : Nat} {l : List Tok} (hI : LexI p k l) (hk : k < p.size) (h : (tokZ p k).2.2 = 0) (hu : k + 1 ≤ (tokZ p k).2.1) : LexI p (tokZ p k).2.1 (l ++ [(tokZ p k).1]) := by
 obtain ⟨f, hf, he⟩ := hI
 obtain ⟨f, rfl⟩ : ∃ g, f = g + 1 := ⟨f - 1, by omega⟩
 exact ⟨f, by omega, by rw [he, lexF, if_neg (by omega), if_neg (by simp [h])]⟩
theorem tok_ask {p : ByteArray} {i : Nat} (h : bt p i = 92) (ha : (askT (bt p (i + 1))).2 = true) : tokZ p i = ((askT (bt p (i + 1))).1, i + 2, 0) := by
 rw [tok_esc h]
 unfold askT at ha ⊢
 by_cases a : bt p (i + 1) = 98
 ·rw [if_pos a, if_pos a]
 ·rw [if_neg a, if_neg a]
  rw [if_neg a] at ha
  by_cases b : bt p (i + 1) = 66
  ·rw [if_pos b, if_pos b]
  ·rw [if_neg b, if_neg b]
   rw [if_neg b] at ha
   by_cases c : 49 ≤ bt p (i + 1) ∧ bt p (i + 1) ≤ 57
   ·rw [if_pos c, if_pos c]
   ·rw [if_neg c] at ha
    cases ha
theorem tok_noask {p : ByteArray} {i : Nat} (h : bt p i = 92) (ha : (askT (bt p (i + 1))).2 = false) : tokZ p i = ({ tok0 0 with S := (byteZ p i).1 }, (byteZ p i).2.1, (byteZ p i).2.2) := by
 rw [tok_esc h]
 unfold askT at ha
 by_cases a : bt p (i + 1) = 98
 ·rw [if_pos a] at ha; cases ha
 ·rw [if_neg a] at ha ⊢
  by_cases b : bt p (i + 1) = 66
  ·rw [if_pos b] at ha; cases ha
  ·rw [if_neg b] at ha ⊢
   by_cases c : 49 ≤ bt p (i + 1) ∧ bt p (i + 1) ≤ 57
   ·rw [if_pos c] at ha; cases ha
   ·rw [if_neg c]
    unfold byteZ
    rw [if_pos h]
    split <;> rfl
theorem tok_bytes {p : ByteArray} {i : Nat} (h : ∀ c ∈ [46, 94, 36, 124, 41, 40, 42, 43, 63, 123, 91, 93, 125, 92], bt p i ≠ c) : tokZ p i = ({ tok0 0 with S := (byteZ p i).1 }, (byteZ p i).2.1, (byteZ p i).2.2) := by
 rw [tok_byte h]
 unfold byteZ
 rw [if_neg (h 92 (by decide))]
theorem infoTok : (Tryz.prog.info? 115).map (fun i => (i.zero, i.size, i.bytes)) = some (some (.agg #[.int .i64 0, .int .u64 0, .int .u64 0, .int .u64 0, .int .u64 0, .int .i64 0, .int .i64 0, .int .i64 0, .int .i64 0, .string ⟨#[]⟩]), 10, 88) := by kernel_rfl
theorem tok_cells (w : World) (T : TypeId) (t : Tok) : ∀ j u, (tokC t).toList[j]? = some u → (w.alloc (.cells (tokC t) T)).cell? (Addr.add ⟨w.heap.size, 0, none⟩ j) = some u := by
 intro j u hu
 rw [Addr.add_lit, ← hu]
 unfold World.cell?
 rw [heap_alloc_new]
 simp
theorem tok_one (t : Tok) : ∀ u ∈ (tokC t).toList, u.oneCell' = true := by
 intro u hu
 simp only [tokC, List.mem_cons, List.not_mem_nil, or_false] at hu
 rcases hu with rfl | rfl | rfl | rfl | rfl | rfl | rfl | rfl | rfl | rfl <;> rfl
theorem own_call {w w' : World} {base : Nat} {T : TypeId} {size : Nat} {v : Value} {n : Nat} {xs : List Value} (h : w.ownsRow base T size v n xs) (hb : Below w.heap.size w w') : w'.ownsRow base T size v n xs := by
 refine ⟨h.1, ?_⟩
 rcases h.2 with h2 | ⟨r, cap, cur, hv, hr, hh, rest⟩
 ·exact .inl h2
 ·exact .inr ⟨r, cap, cur, hv, hr, (hb.block r (Array.getElem?_eq_some_iff.1 hh).1).trans hh, rest⟩
theorem BoxT.c {T : TypeId} {w : World} {g : Nat} {t : Tok} (h : BoxT T w g t) : w.cell? ⟨g, 0, none⟩ = some (.int .i64 t.k) ∧ w.cell? ⟨g, 1, none⟩ = some (.int .u64 (W t.S 0)) ∧ w.cell? ⟨g, 2, none⟩ = some (.int .u64 (W t.S 1)) ∧ w.cell? ⟨g, 3, none⟩ = some (.int .u64 (W t.S 2)) ∧ w.cell? ⟨g, 4, none⟩ = some (.int .u64 (W t.S 3)) ∧ w.cell? ⟨g, 5, none⟩ = some (.int .i64 t.mn) ∧ w.cell? ⟨g, 6, none⟩ = some (.int .i64 t.mx) ∧ w.cell? ⟨g, 7, none⟩ = some (.int .i64 t.md) ∧ w.cell? ⟨g, 8, none⟩ = some (.int .i64 t.n) ∧ w.cell? ⟨g, 9, none⟩ = some (.string t.f) := by
 refine ⟨?_, ?_, ?_, ?_, ?_, ?_, ?_, ?_, ?_, ?_⟩ <;> (rw [cell_of_row w g _ _ _ _ h]; rfl)
theorem BoxT.set4 {T : TypeId} {w : World} {g : Nat} {t : Tok} (h : BoxT T w g t) (S : BitVec 256) : BoxT T ((((w.setCell ⟨g, 1, none⟩ (.int .u64 (W S 0))).setCell ⟨g, 2, none⟩ (.int .u64 (W S 1))).setCell ⟨g, 3, none⟩ (.int .u64 (W S 2))).setCell ⟨g, 4, none⟩ (.int .u64 (W S 3))) g { t with S := S } := by
 unfold BoxT at h ⊢
 have h4 := heap_setCell_same _ g 4 _ _ (.int .u64 (W S 3)) (heap_setCell_same _ g 3 _ _ (.int .u64 (W S 2)) (heap_setCell_same _ g 2 _ _ (.int .u64 (W S 1)) (heap_setCell_same w g 1 _ _ (.int .u64 (W S 0)) h)))
 rw [h4]
 simp [tokC]
theorem below_four {B : Nat} {a w : World} (h : Below B a w) {g : Nat} (hg : B ≤ g) (v1 v2 v3 v4 : Value) : Below B a ((((w.setCell ⟨g, 1, none⟩ v1).setCell ⟨g, 2, none⟩ v2).setCell ⟨g, 3, none⟩ v3).setCell ⟨g, 4, none⟩ v4) :=
 (((h.setCell (p := ⟨g, 1, none⟩) hg _).setCell (p := ⟨g, 2, none⟩) hg _).setCell (p := ⟨g, 3, none⟩) hg _).setCell (p := ⟨g, 4, none⟩) hg _
def Cut37 (X : TokR) (wr : World) (s5 s8 : Value) (wx : World) : Prop := ∃ (t : Tok) (b : Int), s5 = .int .i64 X.2.2 ∧ s8 = .int .i64 b ∧ (X.2.2 = 0 → t = X.1 ∧ b = (X.2.1 : Nat)) ∧ BoxT 115 wx wr.heap.size t ∧ Below wr.heap.size wr wx
def GotToks (w : World) (R : List Tok × Int) (e : Ending) (w' : World) : Prop := ∃ v, e = .returned (.tuple #[v, .int .i64 R.2]) ∧ w'.ownsRow w.heap.size 115 10 v R.1.length (toksC R.1) ∧ Below w.heap.size w w'
set_option maxRecDepth 100000 in
set_option maxHeartbeats 16000000 in
theorem lex_any (hE : ErrsOk) (hC : CloneOk) (p : ByteArray) (w : World) (hw : ErrW w) (ht : TabOk w) (ho : OpOk w) : Calls Tryz.prog 32 #[.string p] w (GotToks w (lexZ p)) := by
 by_cases hsz : 1000 < p.size
 ·rw [show lexZ p = ([], 4) by unfold lexZ; rw [if_pos hsz]]
  have q : (1000 : Int) < (p.size : Int) := by omega
  clear hsz hw ht ho hE hC
  go_enter Tryz.func32, Tryz.ntmps32
  go_wp2_with fail
  go_step3
  go_wp2_with fail
  rw [Exit.noGoto_ret]
  go_ret2
  exact ⟨_, rfl, ⟨rfl, .inl ⟨rfl, rfl⟩⟩, Below.refl _ _⟩
 ·rw [show lexZ p = lexF p (p.size + 1) 0 [] by unfold lexZ; rw [if_neg hsz]]
  have q : ¬ (1000 : Int) < (p.size : Int) := by omega
  have hps : p.size ≤ 1000 := by omega
  have H0 := Lib.hid (lex_0 p)
  have HW := Lib.hid hw
  have HT := Lib.hid ht
  have HO := Lib.hid ho
  have HE := Lib.hid hE
  have HC := Lib.hid hC
  obtain ⟨R, hR⟩ : ∃ R, R = lexF p (p.size + 1) 0 [] := ⟨_, rfl⟩
  rw [← hR]
  have HR := Lib.hid hR
  clear hR hw ht ho hE hC hsz
  obtain ⟨i0, hi, hz0, hz1, hz2⟩ := info_parts infoTok
  have HI := Lib.hid (And.intro hi (And.intro hz0 (And.intro hz1 hz2)))
  clear hi hz0 hz1 hz2
  go_enter Tryz.func32, Tryz.ntmps32
  go_wp2_with fail
  go_step3
  go_wp2_with fail
  go_step3
  go_wp2_with fail
  go_loopw [4, 5, 6] (fun s4 s5 s6 wr => ∃ (k : Nat) (l : List Tok), s6 = .int .i64 k ∧ s5 = .int .i64 0 ∧ k ≤ p.size ∧ l.length ≤ k ∧ LexI p k l ∧ wr.ownsRow w.heap.size 115 10 s4 l.length (toksC l) ∧ Below w.heap.size w wr) (fun _ _ s6 _ => p.size - (intOf s6).toNat)
  case atStart => exact ⟨0, [], rfl, rfl, by omega, Nat.le_refl _, H0.out, World.ownsRow_nil _ _ _ _, Below.refl _ _⟩
  case round =>
   obtain ⟨k, l, rfl, rfl, hk, hlk, hI, hown, hb⟩ := hrel
   have HL := Lib.hid hI
   have HOw := Lib.hid hown
   have HB := Lib.hid hb
   clear hI hown hb
   by_cases hlt : k < p.size
   ·have r1 : (k : Int) < (p.size : Int) := by omega
    obtain ⟨X, hX⟩ : ∃ X, X = tokZ p k := ⟨_, rfl⟩
    have HX := Lib.hid hX
    clear hX
    go_upto_block 2 with fail
    go_cut [5, 8, 22] (fun s5 s8 _ wx => Cut37 X wr s5 s8 wx)
    case first =>
     have hb : bt p k = (p[k]'hlt).toNat := bt_at hlt
     have hBz : BoxT 115 (World.alloc wr (.cells #[.int .i64 0, .int .u64 0, .int .u64 0, .int .u64 0, .int .u64 0, .int .i64 0, .int .i64 0, .int .i64 0, .int .i64 0, .string ⟨#[]⟩] 115)) wr.heap.size (tok0 0) := newT (by simp [tokC, tok0, W_zero]; rfl)
     have HBz := Lib.hid hBz
     clear hBz
     rename_i h9 K0 a3 Q1 K1 a2 J1 K2 a1 a0
     clear_value Q1
     clear a2 K1 a3 K0 H0 HR HL HOw HI
     by_cases h46 : bt p k = 46
     ·have q : ((p[k]'hlt).toNat : Int) = 46 := by omega
      as_aux_lemma =>
       have hx := HX.out.trans (tok_46 h46)
       clear hb h46
       subst hx
       go_wp2_with fail
       go_meet
       exact ⟨tok0 1, (k : Int) + 1, rfl, rfl, fun _ => ⟨rfl, by show _ = ((k + 1 : Nat) : Int); omega⟩, newT (by simp [tokC, tok0, W_zero]; rfl), (Below.refl _ wr).alloc (Nat.le_refl _) _⟩
     ·skip
      by_cases h94 : bt p k = 94
      ·have q : ((p[k]'hlt).toNat : Int) = 94 := by omega
       as_aux_lemma =>
        have hx := HX.out.trans (tok_94 h94)
        clear hb h94
        subst hx
        go_wp2_with fail
        go_meet
        exact ⟨tok0 2, (k : Int) + 1, rfl, rfl, fun _ => ⟨rfl, by show _ = ((k + 1 : Nat) : Int); omega⟩, newT (by simp [tokC, tok0, W_zero]; rfl), (Below.refl _ wr).alloc (Nat.le_refl _) _⟩
      ·skip
       by_cases h36 : bt p k = 36
       ·have q : ((p[k]'hlt).toNat : Int) = 36 := by omega
        as_aux_lemma =>
         have hx := HX.out.trans (tok_36 h36)
         clear hb h36
         subst hx
         go_wp2_with fail
         go_meet
         exact ⟨tok0 3, (k : Int) + 1, rfl, rfl, fun _ => ⟨rfl, by show _ = ((k + 1 : Nat) : Int); omega⟩, newT (by simp [tokC, tok0, W_zero]; rfl), (Below.refl _ wr).alloc (Nat.le_refl _) _⟩
       ·skip
        by_cases h124 : bt p k = 124
        ·have q : ((p[k]'hlt).toNat : Int) = 124 := by omega
         as_aux_lemma =>
          have hx := HX.out.trans (tok_124 h124)
          clear hb h124
          subst hx
          go_wp2_with fail
          go_meet
          exact ⟨tok0 6, (k : Int) + 1, rfl, rfl, fun _ => ⟨rfl, by show _ = ((k + 1 : Nat) : Int); omega⟩, newT (by simp [tokC, tok0, W_zero]; rfl), (Below.refl _ wr).alloc (Nat.le_refl _) _⟩
        ·skip
         by_cases h41 : bt p k = 41
         ·have q : ((p[k]'hlt).toNat : Int) = 41 := by omega
          as_aux_lemma =>
           have hx := HX.out.trans (tok_41 h41)
           clear hb h41
           subst hx
           go_wp2_with fail
           go_meet
           exact ⟨tok0 15, (k : Int) + 1, rfl, rfl, fun _ => ⟨rfl, by show _ = ((k + 1 : Nat) : Int); omega⟩, newT (by simp [tokC, tok0, W_zero]; rfl), (Below.refl _ wr).alloc (Nat.le_refl _) _⟩
         ·skip
          by_cases h40 : bt p k = 40
          ·have q : ((p[k]'hlt).toNat : Int) = 40 := by omega
           as_aux_lemma =>
            have HC2 := Lib.hid (fun w h => opening_any HC.out p k w (by omega) hlt h40 h)
            rw [← HX.out] at HC2
            clear hb h40
            go_wp2_with fail
            with_reducible refine (HC2.out _ ((HO.out.call HB.out).alloc _)).mono ?_
            rintro e w2 ⟨rfl, hb2⟩
            obtain ⟨hc, hf⟩ := bcell hb2
            have HB2 := Lib.hid (((Below.refl _ wr).alloc (Nat.le_refl _) _).trans (hb2.mono (show wr.heap.size ≤ _ by simp)))
            have HY := Lib.hid (HBz.out.below hb2 (by simp))
            clear hb2
            go_wp2_with (refine storeT rfl _ _ rfl wr.heap.size (tok0 0) X.1 rfl _ rfl rfl HY.out ?_)
            go_meet
            exact ⟨X.1, _, rfl, rfl, fun _ => ⟨rfl, rfl⟩, HY.out.rowSame X.1, below_row HB2.out (Nat.le_refl _) _⟩
          ·skip
           by_cases h42 : bt p k = 42
           ·have q : ((p[k]'hlt).toNat : Int) = 42 := by omega
            as_aux_lemma =>
             have hqc : bt p k = 42 ∨ bt p k = 43 ∨ bt p k = 63 ∨ bt p k = 123 := by omega
             have HC2 := Lib.hid (fun w => quant_any p k w (by omega) hlt hqc)
             rw [← HX.out.trans (tok_quant hqc)] at HC2
             clear hb h42 hqc
             go_wp2_with fail
             with_reducible refine (HC2.out _).mono ?_
             rintro e w2 ⟨rfl, hb2⟩
             obtain ⟨hc, hf⟩ := bcell hb2
             have HB2 := Lib.hid (((Below.refl _ wr).alloc (Nat.le_refl _) _).trans (hb2.mono (show wr.heap.size ≤ _ by simp)))
             have HY := Lib.hid (HBz.out.below hb2 (by simp))
             clear hb2
             go_wp2_with (refine storeT rfl _ _ rfl wr.heap.size (tok0 0) X.1 rfl _ rfl rfl HY.out ?_)
             go_meet
             exact ⟨X.1, _, rfl, rfl, fun _ => ⟨rfl, rfl⟩, HY.out.rowSame X.1, below_row HB2.out (Nat.le_refl _) _⟩
           ·skip
            by_cases h43 : bt p k = 43
            ·have q : ((p[k]'hlt).toNat : Int) = 43 := by omega
             as_aux_lemma =>
              have hqc : bt p k = 42 ∨ bt p k = 43 ∨ bt p k = 63 ∨ bt p k = 123 := by omega
              have HC2 := Lib.hid (fun w => quant_any p k w (by omega) hlt hqc)
              rw [← HX.out.trans (tok_quant hqc)] at HC2
              clear hb h43 hqc
              go_wp2_with fail
              with_reducible refine (HC2.out _).mono ?_
              rintro e w2 ⟨rfl, hb2⟩
              obtain ⟨hc, hf⟩ := bcell hb2
              have HB2 := Lib.hid (((Below.refl _ wr).alloc (Nat.le_refl _) _).trans (hb2.mono (show wr.heap.size ≤ _ by simp)))
              have HY := Lib.hid (HBz.out.below hb2 (by simp))
              clear hb2
              go_wp2_with (refine storeT rfl _ _ rfl wr.heap.size (tok0 0) X.1 rfl _ rfl rfl HY.out ?_)
              go_meet
              exact ⟨X.1, _, rfl, rfl, fun _ => ⟨rfl, rfl⟩, HY.out.rowSame X.1, below_row HB2.out (Nat.le_refl _) _⟩
            ·skip
             by_cases h63 : bt p k = 63
             ·have q : ((p[k]'hlt).toNat : Int) = 63 := by omega
              as_aux_lemma =>
               have hqc : bt p k = 42 ∨ bt p k = 43 ∨ bt p k = 63 ∨ bt p k = 123 := by omega
               have HC2 := Lib.hid (fun w => quant_any p k w (by omega) hlt hqc)
               rw [← HX.out.trans (tok_quant hqc)] at HC2
               clear hb h63 hqc
               go_wp2_with fail
               with_reducible refine (HC2.out _).mono ?_
               rintro e w2 ⟨rfl, hb2⟩
               obtain ⟨hc, hf⟩ := bcell hb2
               have HB2 := Lib.hid (((Below.refl _ wr).alloc (Nat.le_refl _) _).trans (hb2.mono (show wr.heap.size ≤ _ by simp)))
               have HY := Lib.hid (HBz.out.below hb2 (by simp))
               clear hb2
               go_wp2_with (refine storeT rfl _ _ rfl wr.heap.size (tok0 0) X.1 rfl _ rfl rfl HY.out ?_)
               go_meet
               exact ⟨X.1, _, rfl, rfl, fun _ => ⟨rfl, rfl⟩, HY.out.rowSame X.1, below_row HB2.out (Nat.le_refl _) _⟩
             ·skip
              by_cases h123 : bt p k = 123
              ·have q : ((p[k]'hlt).toNat : Int) = 123 := by omega
               as_aux_lemma =>
                have hqc : bt p k = 42 ∨ bt p k = 43 ∨ bt p k = 63 ∨ bt p k = 123 := by omega
                have HC2 := Lib.hid (fun w => quant_any p k w (by omega) hlt hqc)
                rw [← HX.out.trans (tok_quant hqc)] at HC2
                clear hb h123 hqc
                go_wp2_with fail
                with_reducible refine (HC2.out _).mono ?_
                rintro e w2 ⟨rfl, hb2⟩
                obtain ⟨hc, hf⟩ := bcell hb2
                have HB2 := Lib.hid (((Below.refl _ wr).alloc (Nat.le_refl _) _).trans (hb2.mono (show wr.heap.size ≤ _ by simp)))
                have HY := Lib.hid (HBz.out.below hb2 (by simp))
                clear hb2
                go_wp2_with (refine storeT rfl _ _ rfl wr.heap.size (tok0 0) X.1 rfl _ rfl rfl HY.out ?_)
                go_meet
                exact ⟨X.1, _, rfl, rfl, fun _ => ⟨rfl, rfl⟩, HY.out.rowSame X.1, below_row HB2.out (Nat.le_refl _) _⟩
              ·skip
               by_cases h91 : bt p k = 91
               ·have q : ((p[k]'hlt).toNat : Int) = 91 := by omega
                as_aux_lemma =>
                 have HC2 := Lib.hid (fun w h h2 => class_any HE.out p k w (by omega) hlt h91 h h2)
                 have hx := HX.out.trans (tok_91 h91)
                 clear hb h91
                 subst hx
                 go_wp2_with fail
                 with_reducible refine (HC2.out _ ((HW.out.call HB.out).alloc _) ((HT.out.call HB.out).alloc _)).mono ?_
                 rintro e w2 ⟨rfl, hb2⟩
                 obtain ⟨hc, hf⟩ := bcell hb2
                 have HB2 := Lib.hid (((Below.refl _ wr).alloc (Nat.le_refl _) _).trans (hb2.mono (show wr.heap.size ≤ _ by simp)))
                 have HY := Lib.hid (HBz.out.below hb2 (by simp))
                 clear hb2
                 go_wp2_with fail
                 go_meet
                 exact ⟨{ tok0 0 with S := (classZ p k).1 }, _, rfl, rfl, fun _ => ⟨rfl, rfl⟩, HY.out.set4 (classZ p k).1, below_four HB2.out (Nat.le_refl _) _ _ _ _⟩
               ·skip
                by_cases h93 : bt p k = 93
                ·have q : ((p[k]'hlt).toNat : Int) = 93 := by omega
                 as_aux_lemma =>
                  have hx := HX.out.trans (tok_93 h93)
                  clear hb h93
                  subst hx
                  go_wp2_with fail
                  go_meet
                  exact ⟨tok0 0, _, rfl, rfl, (fun h => by cases h), HBz.out, (Below.refl _ wr).alloc (Nat.le_refl _) _⟩
                ·skip
                 by_cases h125 : bt p k = 125
                 ·have q : ((p[k]'hlt).toNat : Int) = 125 := by omega
                  as_aux_lemma =>
                   have hx := HX.out.trans (tok_125 h125)
                   clear hb h125
                   subst hx
                   go_wp2_with fail
                   go_meet
                   exact ⟨tok0 0, _, rfl, rfl, (fun h => by cases h), HBz.out, (Below.refl _ wr).alloc (Nat.le_refl _) _⟩
                 ·skip
                  by_cases h92 : bt p k = 92
                  ·have q : ((p[k]'hlt).toNat : Int) = 92 := by omega
                   have HAs := Lib.hid (fun w => asking_any (p.extract (k + 1) p.size) w (by rw [ext_size (Nat.le_refl _)]; omega))
                   rw [bt_ext _ (by omega)] at HAs
                   have g2 : (k : Int) + 1 ≤ (p.size : Int) := by omega
                   have HC2 := Lib.hid (fun w h => bytesAt_any HE.out p k w (by omega) hlt h)
                   have HYes := Lib.hid (fun h => HX.out.trans (tok_ask h92 h))
                   have HNo := Lib.hid (fun h => HX.out.trans (tok_noask h92 h))
                   rw [show k + 1 + 0 = k + 1 from rfl] at HAs
                   clear hb h92
                   revert HAs HYes HNo
                   generalize askT (bt p (k + 1)) = Y
                   intro HAs HYes HNo
                   obtain ⟨u, b⟩ := Y
                   simp only [] at HAs HYes HNo
                   have HAq : Hid (∀ w, Calls Tryz.prog 50 #[.string (p.extract (k + 1) p.size)] w fun e w' => e = .returned (.tuple #[.agg #[.int .i64 u.k, .int .u64 (W u.S 0), .int .u64 (W u.S 1), .int .u64 (W u.S 2), .int .u64 (W u.S 3), .int .i64 u.mn, .int .i64 u.mx, .int .i64 u.md, .int .i64 u.n, .string u.f], .bool b]) ∧ Below w.heap.size w w') := HAs
                   clear HAs
                   go_wp2_with fail
                   with_reducible refine (HAq.out _).mono ?_
                   rintro e w2 ⟨rfl, hb2⟩
                   have HB2 := Lib.hid (((Below.refl _ wr).alloc (Nat.le_refl _) _).trans (hb2.mono (show wr.heap.size ≤ _ by simp)))
                   have HY := Lib.hid (HBz.out.below hb2 (by simp))
                   clear hb2
                   cases b with
                   | true =>
                     have hx := HYes.out rfl
                     clear HYes HNo HC2
                     subst hx
                     have y0 := fun o => (HY.out.alloc o).c.1
                     have y1 := fun o => (HY.out.alloc o).c.2.1
                     have y2 := fun o => (HY.out.alloc o).c.2.2.1
                     have y3 := fun o => (HY.out.alloc o).c.2.2.2.1
                     have y4 := fun o => (HY.out.alloc o).c.2.2.2.2.1
                     have y5 := fun o => (HY.out.alloc o).c.2.2.2.2.2.1
                     have y6 := fun o => (HY.out.alloc o).c.2.2.2.2.2.2.1
                     have y7 := fun o => (HY.out.alloc o).c.2.2.2.2.2.2.2.1
                     have y8 := fun o => (HY.out.alloc o).c.2.2.2.2.2.2.2.2.1
                     have y9 := fun o => (HY.out.alloc o).c.2.2.2.2.2.2.2.2.2
                     have yf := fun o j => frozen_of_row (w2.alloc o) wr.heap.size j _ _ (HY.out.alloc o)
                     go_wp2_with fail
                     go_meet
                     exact ⟨u, _, rfl, rfl, fun _ => ⟨rfl, by show _ = ((k + 2 : Nat) : Int); omega⟩, (HY.out.alloc _).ten rfl, below_ten (HB2.out.alloc HB2.out.size _) (Nat.le_refl _) _ _ _ _ _ _ _ _ _ _⟩
                   | false =>
                     have hx := HNo.out rfl
                     clear HYes HNo
                     subst hx
                     go_wp2_with fail
                     with_reducible refine (HC2.out _ ((HW.out.call (HB.out.trans (HB2.out.mono HB.out.size))).alloc _)).mono ?_
                     rintro e w3 ⟨rfl, hb2⟩
                     have HY3 := Lib.hid ((HY.out.alloc _).below hb2 (HY.out.alloc _).lt)
                     have HB3 := Lib.hid (thenB (HB2.out.alloc HB2.out.size _) hb2 (HB2.out.alloc HB2.out.size _).size)
                     clear hb2
                     obtain ⟨y0, y1, y2, y3, y4, y5, y6, y7, y8, y9⟩ := HY3.out.c
                     have yf := fun j => frozen_of_row w3 wr.heap.size j _ _ HY3.out
                     go_wp2_with fail
                     go_meet
                     exact ⟨{ tok0 0 with S := (byteZ p k).1 }, _, rfl, rfl, fun _ => ⟨rfl, rfl⟩, HY3.out.set4 (byteZ p k).1, below_four HB3.out (Nat.le_refl _) _ _ _ _⟩
                  ·have hx := HX.out.trans (tok_bytes (by simp only [List.mem_cons, List.mem_nil_iff, or_false, forall_eq_or_imp, forall_eq]; exact ⟨h46, h94, h36, h124, h41, h40, h42, h43, h63, h123, h91, h93, h125, h92⟩))
                   have q46 : ¬ ((p[k]'hlt).toNat : Int) = 46 := by omega
                   have q94 : ¬ ((p[k]'hlt).toNat : Int) = 94 := by omega
                   have q36 : ¬ ((p[k]'hlt).toNat : Int) = 36 := by omega
                   have q124 : ¬ ((p[k]'hlt).toNat : Int) = 124 := by omega
                   have q41 : ¬ ((p[k]'hlt).toNat : Int) = 41 := by omega
                   have q40 : ¬ ((p[k]'hlt).toNat : Int) = 40 := by omega
                   have q42 : ¬ ((p[k]'hlt).toNat : Int) = 42 := by omega
                   have q43 : ¬ ((p[k]'hlt).toNat : Int) = 43 := by omega
                   have q63 : ¬ ((p[k]'hlt).toNat : Int) = 63 := by omega
                   have q123 : ¬ ((p[k]'hlt).toNat : Int) = 123 := by omega
                   have q91 : ¬ ((p[k]'hlt).toNat : Int) = 91 := by omega
                   have q93 : ¬ ((p[k]'hlt).toNat : Int) = 93 := by omega
                   have q125 : ¬ ((p[k]'hlt).toNat : Int) = 125 := by omega
                   have q92 : ¬ ((p[k]'hlt).toNat : Int) = 92 := by omega
                   have HC2 := Lib.hid (fun w h => bytesAt_any HE.out p k w (by omega) hlt h)
                   clear hb h46 h94 h36 h124 h41 h40 h42 h43 h63 h123 h91 h93 h125 h92
                   as_aux_lemma =>
                    subst hx
                    go_wp2_with fail
                    with_reducible refine (HC2.out _ ((HW.out.call HB.out).alloc _)).mono ?_
                    rintro e w2 ⟨rfl, hb2⟩
                    obtain ⟨hc, hf⟩ := bcell hb2
                    have HB2 := Lib.hid (((Below.refl _ wr).alloc (Nat.le_refl _) _).trans (hb2.mono (show wr.heap.size ≤ _ by simp)))
                    have HY := Lib.hid (HBz.out.below hb2 (by simp))
                    clear hb2
                    go_wp2_with fail
                    go_meet
                    exact ⟨{ tok0 0 with S := (byteZ p k).1 }, _, rfl, rfl, fun _ => ⟨rfl, rfl⟩, HY.out.set4 (byteZ p k).1, below_four HB2.out (Nat.le_refl _) _ _ _ _⟩
    case rest =>
     obtain ⟨t, b, rfl, rfl, htb, hBx, hBl⟩ := hcut
     have HOx := Lib.hid (own_call HOw.out (hBl.mono (Nat.le_refl _)))
     have HBx := Lib.hid (HB.out.trans (hBl.mono HB.out.size))
     have hsx := HBx.out.size
     have HSx := Lib.hid hsx
     clear hsx
     obtain ⟨y0, y1, y2, y3, y4, y5, y6, y7, y8, y9⟩ := hBx.c
     have HBox := Lib.hid hBx
     clear hBl hBx
     obtain ⟨u, c, e⟩ := X
     simp only [] at htb
     by_cases he : e = 0
     ·subst he
      obtain ⟨rfl, rfl⟩ := htb rfl
      have hup := tok_up p k hlt (by rw [← HX.out])
      have HN := Lib.hid (lex_next HL.out hlt (by rw [← HX.out]) hup.1)
      rw [← HX.out] at HN hup
      simp only [] at HN hup
      clear htb
      go_wp2_with (at_builtin; refine wpList_append_own _ rfl _ _ 99 rfl w.heap.size 115 i0 _ 10 88 Tryz.underlying99 HI.out.1 HI.out.2.1 HI.out.2.2.1 HI.out.2.2.2 rfl (by decide) _ _ _ rfl (HOx.out.alloc _) ⟨wc.heap.size, 0, none⟩ 1 1 (tokC t).toList rfl rfl (tok_cells wc _ t) (tok_one t) (by unfold maxLen; omega) (by omega) (by have := HSx.out; simp; omega) ?_)
      intro v3 w3 hown3 hgrow3 _
      have hown : ∀ g, Value.ownBlock u4 = some g → w.heap.size ≤ g := fun g hg => (HOx.out.lt g hg).1
      have HB3 := Lib.hid ((HBx.out.alloc HSx.out _).grown hgrow3 (Nat.le_trans HSx.out (by simp)) hown)
      rw [← toksC_one l t] at hown3
      have HO3 := Lib.hid hown3
      clear hown3 hgrow3 hown
      go_wp2_with fail
      go_roundw
      case rel => exact ⟨c, l ++ [t], rfl, rfl, hup.2, by simp; omega, HN.out, by rw [List.length_append]; exact HO3.out, HB3.out⟩
      case measure => simp [intOf]; omega
     ·have HN := Lib.hid (lex_bad HL.out hlt (by rw [← HX.out]; exact he))
      rw [← HX.out] at HN
      obtain rfl := HR.out.trans HN.out
      clear htb HN
      go_wp2_with fail
      go_ret2
      exact ⟨_, rfl, World.ownsRow_nil _ _ _ _, HBx.out⟩
   ·have hks : k = p.size := by omega
    have HN := Lib.hid (lex_end HL.out (by omega))
    obtain rfl := HR.out.trans HN.out
    clear HL hlt hk HN
    subst hks
    go_wp2_with fail
    rw [Exit.noGoto_ret]
    go_ret2
    exact ⟨_, rfl, HOw.out, HB.out⟩
end Go.Proofs.YteggpecbeagohaaGreatDoor
namespace Go.Proofs.YteggpecbeagohaaGreatDoor
def setA : BitVec 256 := ~~~(ofBytes [98, 99, 100, 65])
def toksA : List Tok := [⟨0, addB 0#256 97, 0, 0, 0, 0, ByteArray.empty⟩, ⟨16, 0#256, 1, -1, 1, 0, ByteArray.empty⟩, ⟨14, 0#256, 0, 0, 0, 0, ⟨#[105]⟩⟩, ⟨0, setA, 0, 0, 0, 0, ByteArray.empty⟩, tok0 6, ⟨17, 0#256, 0, 0, 0, 2, ByteArray.empty⟩, tok0 15, ⟨16, 0#256, 2, 3, 2, 0, ByteArray.empty⟩]
end Go.Proofs.YteggpecbeagohaaGreatDoor
namespace Go.Proofs.YteggpecbeagohaaGreatDoor
open Go.RowKit
structure Tabs (w : World) : Prop where
 tab : TabOk w
 err : ErrW w
 op : OpOk w
theorem Tabs.call {w w' : World} (h : Tabs w) (hb : Below w.heap.size w w') : Tabs w' := ⟨h.tab.call hb, h.err.call hb, h.op.call hb⟩
theorem Tabs.alloc {w : World} (h : Tabs w) (o : Obj) : Tabs (w.alloc o) := ⟨h.tab.alloc o, h.err.alloc o, h.op.alloc o⟩
structure FixS (w0 w : World) (g g2 : Nat) (SC : BitVec 256) : Prop where
 row : w.rangeAt g 0 (toksC toksA)
 lt : g < w.heap.size
 box : Box w g2 SC
 below : Below w0.heap.size w0 w
theorem FixS.at {w0 w : World} {g g2 : Nat} {SC : BitVec 256} (h : FixS w0 w g g2 SC) (k : Nat) (t : Tok) (he : ((toksC toksA).drop (10 * k)).take 10 = (tokC t).toList) : w.rangeAt g (10 * k) (tokC t).toList := fun j v hv => by
 rw [← he] at hv
 have hj : j < 10 := by
  have := (List.getElem?_eq_some_iff.1 hv).1
  rw [List.length_take] at this
  omega
 rw [List.getElem?_take_of_lt hj, List.getElem?_drop] at hv
 have := h.row (10 * k + j) v hv
 rwa [Nat.zero_add] at this
end Go.Proofs.YteggpecbeagohaaGreatDoor
namespace Go.Proofs.YteggpecbeagohaaGreatDoor
open Go.RowKit
def At10 (w : World) (b o : Nat) (t : Tok) : Prop :=
 w.cell? ⟨b, o, none⟩ = some (.int .i64 t.k) ∧ w.cell? ⟨b, o + 1, none⟩ = some (.int .u64 (W t.S 0)) ∧ w.cell? ⟨b, o + 2, none⟩ = some (.int .u64 (W t.S 1)) ∧ w.cell? ⟨b, o + 3, none⟩ = some (.int .u64 (W t.S 2)) ∧ w.cell? ⟨b, o + 4, none⟩ = some (.int .u64 (W t.S 3)) ∧
 w.cell? ⟨b, o + 5, none⟩ = some (.int .i64 t.mn) ∧ w.cell? ⟨b, o + 6, none⟩ = some (.int .i64 t.mx) ∧ w.cell? ⟨b, o + 7, none⟩ = some (.int .i64 t.md) ∧ w.cell? ⟨b, o + 8, none⟩ = some (.int .i64 t.n) ∧ w.cell? ⟨b, o + 9, none⟩ = some (.string t.f)
theorem At10.keep {w u : World} {b o : Nat} {t : Tok} (h : At10 w b o t) (hk : ∀ j, u.cell? ⟨b, j, none⟩ = w.cell? ⟨b, j, none⟩) : At10 u b o t := by
 unfold At10 at h ⊢
 simp only [hk]
 exact h
def Toks (w : World) (A : Option Addr) (l : List Tok) : Prop := ∀ i t, l[i]? = some t → ∃ b o, A = some ⟨b, o, none⟩ ∧ b < w.heap.size ∧ At10 w b (o + i * 10) t
theorem Toks.below {w u : World} {A : Option Addr} {l : List Tok} {B : Nat} (h : Toks w A l) (hb : Below B w u) (hB : w.heap.size ≤ B) : Toks u A l := fun i t hi => by
 obtain ⟨b, o, h1, h2, h3⟩ := h i t hi
 exact ⟨b, o, h1, Nat.lt_of_lt_of_le h2 hb.size, h3.keep fun j => hb.cell (p := ⟨b, j, none⟩) (Nat.lt_of_lt_of_le h2 hB)⟩
theorem toksC_get : ∀ (l : List Tok) (i j : Nat) (t : Tok), l[i]? = some t → j < 10 → (toksC l)[i * 10 + j]? = (tokC t)[j]?
 | [], i, j, t, h, _ => by cases h
 | x :: r, 0, j, t, h, hj => by
   obtain rfl : x = t := Option.some.inj h
   rw [Nat.zero_mul, Nat.zero_add, toksC, List.getElem?_append_left (by rw [Array.length_toList, tokC_size]; exact hj), Array.getElem?_toList]
 | x :: r, i + 1, j, t, h, hj => by
   rw [toksC, List.getElem?_append_right (by rw [Array.length_toList, tokC_size]; omega), Array.length_toList, tokC_size, show (i + 1) * 10 + j - 10 = i * 10 + j by omega]
   exact toksC_get r i j t h hj
theorem at10_of {w : World} {g i : Nat} {l : List Tok} {t : Tok} (h : w.rangeAt g 0 (toksC l)) (hi : l[i]? = some t) : At10 w g (0 + i * 10) t := by
 have H : ∀ j v, j < 10 → (tokC t)[j]? = some v → w.cell? ⟨g, 0 + i * 10 + j, none⟩ = some v := fun j v hj hv => by
  have := h (i * 10 + j) v (by rw [toksC_get l i j t hi hj]; exact hv)
  rw [show 0 + i * 10 + j = 0 + (i * 10 + j) by omega]
  exact this
 exact ⟨H 0 _ (by decide) rfl, H 1 _ (by decide) rfl, H 2 _ (by decide) rfl, H 3 _ (by decide) rfl, H 4 _ (by decide) rfl, H 5 _ (by decide) rfl, H 6 _ (by decide) rfl, H 7 _ (by decide) rfl, H 8 _ (by decide) rfl, H 9 _ (by decide) rfl⟩
theorem own_toks {w : World} {base : Nat} {v : Value} {l : List Tok} (h : w.ownsRow base 115 10 v l.length (toksC l)) : ∃ A cap, v = .slice A l.length cap ∧ Toks w A l ∧ ∀ a, A = some a → base ≤ a.block := by
 rcases h.2 with ⟨h1, h2⟩ | ⟨g, cap, cur, h1, h0, h2, -, -, -, -⟩
 ·refine ⟨none, 0, by rw [h1, h2], fun i t hi => ?_, fun a ha => by cases ha⟩
  rw [List.length_eq_zero_iff.1 h2] at hi
  cases hi
 ·refine ⟨some ⟨g, 0, none⟩, cap, h1, fun i t hi => ⟨g, 0, rfl, (Array.getElem?_eq_some_iff.1 h2).1, at10_of (fun j u hu => ?_) hi⟩, fun a ha => by cases ha; exact h0⟩
  have := h.cells (g := g) (by rw [h1]; rfl) j u hu
  rw [Addr.add_lit] at this
  exact this
section
variable {ops : Array Oper} {rest : List Oper} {o : Oper} {a : Act} {w : World} {Q : Exit → Act → World → Prop}
end
theorem toks_len (p : ByteArray) (hp : p.size ≤ 1000) : (lexZ p).1.length ≤ 1000 := by
 unfold lexZ
 rw [if_neg (by omega)]
 have H : ∀ (f i : Nat) (l : List Tok), l.length ≤ i → i ≤ p.size → (lexF p f i l).1.length ≤ p.size := by
  intro f
  induction f with
  | zero => intro i l h1 h2; exact Nat.le_trans h1 h2
  | succ f ih =>
    intro i l h1 h2
    rw [lexF]
    split
    ·exact Nat.le_trans h1 h2
    ·rename_i hi
     split
     ·exact Nat.zero_le _
     ·rename_i he
      have hu := tok_up p i (by omega) (by omega)
      exact ih _ _ (by simp; omega) (by omega)
 have := H (p.size + 1) 0 [] (by simp) (by omega)
 omega
end Go.Proofs.YteggpecbeagohaaGreatDoor
