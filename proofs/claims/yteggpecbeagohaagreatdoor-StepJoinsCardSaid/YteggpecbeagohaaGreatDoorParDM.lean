import Derived.Test.YteggpecbeagohaaGreatDoorParRead
import Derived.Test.YteggpecbeagohaaGreatDoorMz
namespace Go.Proofs.YteggpecbeagohaaGreatDoor
open Go.RowKit
open Ast (Nd ndV joinL wrapL deepZ rightZ Nodes)
abbrev zTr (w : World) : World := w.alloc (.cells (trC none 0 0) 43)
theorem zTr_but (g : Nat) (w : World) : ButR g w.heap.size w (zTr w) := ButR.of ((Below.refl _ w).alloc (Nat.le_refl _) _)
set_option maxRecDepth 100000 in
set_option maxHeartbeats 8000000 in
theorem row_step (n : Nat) (hI : ∀ m, m ≤ n → ItemOk m) : RowOk (n + 1) := by
 intro w0 w g f c l hF hS ho
 have hgl := hS.lt
 have hw0 := hS.below.size
 have HS : Hid (RSt w0 g (zTr w) f c l) := Lib.hid (hS.call ((Below.refl _ w).alloc (Nat.le_refl _) _))
 have HZ : Hid (BoxV 43 (zTr w) w.heap.size (trC none 0 0)) := Lib.hid (BoxV.new _ _)
 have HA := Lib.hid (anotherItem_any HS.out hF.len)
 by_cases hk : kindZ l = 6 ∨ kindZ l = 15
 ·rw [decide_eq_true hk, Bool.not_true] at HA
  rw [rowF, if_pos hk]
  clear hS ho hI hk hF
  go_enter Tryz.func82, Tryz.ntmps82
  go_wp2_with fail
  with_reducible refine HA.out.mono ?_
  rintro e w1 ⟨rfl, rfl⟩
  go_wp2_with fail
  refine (Ast.leaf_any (nd0 0) _).mono ?_
  intro e w1 hres
  obtain ⟨A, cap, rfl, ht, hb⟩ := tree_res hres (Nat.le_refl 1)
  have HT1 := Lib.hid ht
  have HS1 := Lib.hid (HS.out.call hb)
  have HZ1 := Lib.hid (HZ.out.below hb HZ.out.lt)
  have HB1 := Lib.hid ((zTr_but g w).then (ButR.of hb) (by simp))
  clear ht hb hres
  go_wp2_with (refine storeTr rfl _ _ rfl w.heap.size _ A 1 cap rfl rfl rfl HZ1.out ?_)
  refine bodyPost_ret (resTr (p := 2) (A := A) (n := 1) (cap := cap) rfl _ (g := w.heap.size) rfl (HZ1.out.rowSame _)) rfl ?_
  exact ⟨A, cap, rfl, (HT1.out.row (by simp) _).old (by simp), HS1.out.row (by omega) (by omega) _, HB1.out.row (Nat.le_refl _) _⟩
 ·rw [decide_eq_false hk, Bool.not_false] at HA
  have ho' := ho
  rw [rowF, if_neg hk] at ho' ⊢
  obtain ⟨R, hR⟩ : ∃ R, R = (itemF n f c l).next fun t g l => itemsF n f t g l := ⟨_, rfl⟩
  have HJ := Lib.hid (joined_item n hI w0 (zTr w) g f c l hF HS.out R hR (by rw [hR]; exact ho'))
  rw [← hR] at ho' ⊢
  clear hS ho hI hk hF hR
  go_enter Tryz.func82, Tryz.ntmps82
  go_wp2_with fail
  with_reducible refine HA.out.mono ?_
  rintro e w1 ⟨rfl, rfl⟩
  go_wp2_with fail
  with_reducible refine HJ.out.mono ?_
  clear HJ
  cases R with
  | out => exact absurd rfl ho'
  | deep =>
    rintro e w1 ⟨rfl, hb⟩
    exact And.intro rfl ⟨rfl, hb⟩
  | got t c1 l1 =>
    rintro e w1 ⟨A, cap, rfl, ht, hs, hb⟩
    have HT1 := Lib.hid ht
    have HS1 := Lib.hid hs
    have HZ1 := Lib.hid (HZ.out.but hb HZ.out.lt (by omega))
    have HB1 := Lib.hid ((zTr_but g w).then hb (by simp))
    clear ht hb hs
    go_wp2_with (refine storeTr rfl _ _ rfl w.heap.size _ A t.1 cap rfl rfl rfl HZ1.out ?_)
    refine bodyPost_ret (resTr (p := 2) (A := A) (n := t.1) (cap := cap) rfl _ (g := w.heap.size) rfl (HZ1.out.rowSame _)) rfl ?_
    exact ⟨A, cap, rfl, (HT1.out.row (by simp) _).old (by simp), HS1.out.row (by omega) (by omega) _, HB1.out.row (Nat.le_refl _) _⟩
def AltOk (n : Nat) : Prop := ∀ (w0 w : World) (g : Nat) (f : ByteArray) (c : Nat) (l : List Tok), Fl f c l → RSt w0 g w f c l → altF n f c l ≠ .out → Calls Tryz.prog 54 #[.pointer (some ⟨g, 0, none⟩)] w (RPost w0 g w f (altF n f c l))
set_option maxRecDepth 100000 in
set_option maxHeartbeats 8000000 in
theorem alt_step (n : Nat) (hI : ∀ m, m ≤ n → RowOk m) : AltOk (n + 1) := by
 intro w0 w g f c l hF hS ho
 have hgl := hS.lt
 have hw0 := hS.below.size
 have HS : Hid (RSt w0 g (zTr w) f c l) := Lib.hid (hS.call ((Below.refl _ w).alloc (Nat.le_refl _) _))
 have HZ : Hid (BoxV 43 (zTr w) w.heap.size (trC none 0 0)) := Lib.hid (BoxV.new _ _)
 have ho' := ho
 rw [altF] at ho' ⊢
 obtain ⟨R, hR⟩ : ∃ R, R = (rowF n f c l).next fun t g l => altsF n f t g l := ⟨_, rfl⟩
 have HJ := Lib.hid (joined_row n hI w0 (zTr w) g f c l hF HS.out R hR (by rw [hR]; exact ho'))
 rw [← hR] at ho' ⊢
 clear hS ho hI hF hR
 go_enter Tryz.func54, Tryz.ntmps54
 go_wp2_with fail
 with_reducible refine HJ.out.mono ?_
 clear HJ
 cases R with
 | out => exact absurd rfl ho'
 | deep =>
   rintro e w1 ⟨rfl, hb⟩
   exact And.intro rfl ⟨rfl, hb⟩
 | got t c1 l1 =>
   rintro e w1 ⟨A, cap, rfl, ht, hs, hb⟩
   have HT1 := Lib.hid ht
   have HS1 := Lib.hid hs
   have HZ1 := Lib.hid (HZ.out.but hb HZ.out.lt (by omega))
   have HB1 := Lib.hid ((zTr_but g w).then hb (by simp))
   clear ht hb hs
   go_wp2_with (refine storeTr rfl _ _ rfl w.heap.size _ A t.1 cap rfl rfl rfl HZ1.out ?_)
   refine bodyPost_ret (resTr (p := 2) (A := A) (n := t.1) (cap := cap) rfl _ (g := w.heap.size) rfl (HZ1.out.rowSame _)) rfl ?_
   exact ⟨A, cap, rfl, (HT1.out.row (by simp) _).old (by simp), HS1.out.row (by omega) (by omega) _, HB1.out.row (Nat.le_refl _) _⟩
def WithOk (n : Nat) : Prop := ∀ (w0 w : World) (g : Nat) (f fl : ByteArray) (c : Nat) (l : List Tok), fl.size ≤ 1000 → f.size ≤ 100000000 → Fl (f ++ fl) c l → RSt w0 g w f c l → withF n (f ++ fl) c l ≠ .out → Calls Tryz.prog 158 #[.pointer (some ⟨g, 0, none⟩), .string fl] w (RPost w0 g w f (withF n (f ++ fl) c l))
set_option maxRecDepth 100000 in
set_option maxHeartbeats 8000000 in
theorem with_step (n : Nat) (hA : AltOk n) : WithOk (n + 1) := by
 intro w0 w g f fl c l hfl hf hF hS ho
 have hgl := hS.lt
 have hw0 := hS.below.size
 have HS : Hid (RSt w0 g (zTr w) f c l) := Lib.hid (hS.call ((Below.refl _ w).alloc (Nat.le_refl _) _))
 have HZ : Hid (BoxV 43 (zTr w) w.heap.size (trC none 0 0)) := Lib.hid (BoxV.new _ _)
 obtain ⟨A0, cap0, h1, h2, h3⟩ := HS.out.cells
 have hc1 : (zTr w).cell? ⟨g, 1, none⟩ = some (.string f) := (cell_of_row _ g 1 _ _ _ h1).trans rfl
 have H1 := Lib.hid (And.intro h1 (And.intro h2 h3))
 have hsum : ¬ f.size + fl.size > 9223372036854775807 := by omega
 obtain ⟨F, hFF⟩ : ∃ F, F = f ++ fl := ⟨_, rfl⟩
 rw [← hFF] at ho hF ⊢
 have HFF := Lib.hid hFF
 have ho' := ho
 rw [withF] at ho' ⊢
 have HA := Lib.hid (fun u (hu : RSt w0 g u F c l) h => hA w0 u g F c l hF hu h)
 have HPt := Lib.hid (fun t c1 l1 (h : altF n F c l = .got t c1 l1) => (rd_part n).1 F c l t c1 l1 h)
 obtain ⟨X, hX⟩ : ∃ X, X = altF n F c l := ⟨_, rfl⟩
 rw [← hX] at ho' HA HPt ⊢
 have HLn := Lib.hid hF.len
 clear hS ho hF hX hFF h1 h2 h3 hA hfl hf
 go_enter Tryz.func158, Tryz.ntmps158
 go_wp2_with (refine storeRf rfl _ _ rfl g F rfl (by show Value.string _ = Value.string _; rw [HFF.out]) H1.out.1 ?_; intro v hv hbv; refine stopP ?_)
 unfold StopP
 clear hc1 hsum
 have HSv : Hid (RSt w0 g v F c l) := Lib.hid ⟨HS.out.base, ⟨A0, cap0, hv.out, H1.out.2.1, H1.out.2.2⟩, HS.out.below.trans (hbv.out.below HS.out.below.size HS.out.base)⟩
 have HZv := Lib.hid (HZ.out.but hbv.out HZ.out.lt (by omega))
 have HBv := Lib.hid ((zTr_but g w).then hbv.out (by simp))
 go_wp2_with fail
 have HA2 := HA.out v HSv.out (fun h => ho' (by rw [h]; rfl))
 with_reducible refine HA2.mono ?_
 clear HA2
 clear HA
 cases X with
 | out => exact absurd rfl ho'
 | deep =>
   rintro e w1 ⟨rfl, hb⟩
   exact And.intro rfl ⟨rfl, hb⟩
 | got t c1 l1 =>
   cases l1 with
   | nil => exact absurd rfl ho'
   | cons x r =>
     have hp := HPt.out t c1 (x :: r) rfl
     have HLr := Lib.hid (show r.length ≤ 2000 by have := hp.lenle; have := HLn.out; rw [List.length_cons] at *; omega)
     clear hp HPt
     rintro e w1 ⟨A, cap, rfl, ht, hs, hb⟩
     have HT1 := Lib.hid ht
     have HS1 := Lib.hid hs
     have HZ1 := Lib.hid (HZv.out.but hb HZv.out.lt (by omega))
     have HB1 := Lib.hid (HBv.out.then hb HBv.out.size)
     have hsv : w.heap.size < v.heap.size := HZv.out.lt
     clear ht hb hs
     go_wp2_with (refine storeNewTr rfl _ _ rfl w1 A t.1 cap rfl rfl rfl ?_; intro w2 hx hN; refine stopP ?_)
     unfold StopP
     have HS2 := Lib.hid (HS1.out.call hN.out)
     have HT2 := Lib.hid (HT1.out.but (ButR.of (g := g) hN.out) (by omega))
     have HZ2 := Lib.hid (HZ1.out.below hN.out HZ1.out.lt)
     have HB2 := Lib.hid (HB1.out.then (ButR.of hN.out) HB1.out.size)
     have HX2 := Lib.hid hx.out
     have hw1 : w.heap.size < w1.heap.size := HZ1.out.lt
     clear hx hN
     obtain ⟨A2, cap2, g1, g2, g3⟩ := HS2.out.cells
     go_wp2_with (refine storeRf rfl _ _ rfl g f rfl rfl g1 ?_; intro u hu hbu; refine stopP ?_)
     unfold StopP
     have HSu : Hid (RSt w0 g u f c1 (x :: r)) := Lib.hid ⟨HS2.out.base, ⟨A2, cap2, hu.out, g2, g3⟩, HS2.out.below.trans (hbu.out.below HS2.out.below.size HS2.out.base)⟩
     have HTu := Lib.hid (HT2.out.but hbu.out (by omega))
     have HZu := Lib.hid (HZ2.out.but hbu.out HZ2.out.lt (by omega))
     have HXu := Lib.hid (HX2.out.but hbu.out HX2.out.lt (by omega))
     have HBu := Lib.hid (HB2.out.then hbu.out HB2.out.size)
     clear g1 g2 g3 hu hbu
     go_wp2_with fail
     with_reducible refine (take_any HSu.out HLr.out).mono ?_
     rintro e w3 ⟨rfl, hs, hb⟩
     have HS3 := Lib.hid hs
     have HT3 := Lib.hid (HTu.out.but hb (by omega))
     have HZ3 := Lib.hid (HZu.out.but hb HZu.out.lt (by omega))
     have HX3 := Lib.hid (HXu.out.but hb HXu.out.lt (by omega))
     have HB3 := Lib.hid (HBu.out.then hb HBu.out.size)
     clear hs hb
     go_wp2_with (first | (refine loadTr rfl _ rfl w1.heap.size A t.1 cap rfl HX3.out ?_) | (refine storeTr rfl _ _ rfl w.heap.size _ A t.1 cap rfl rfl rfl HZ3.out ?_))
     refine bodyPost_ret (resTr (p := 4) (A := A) (n := t.1) (cap := cap) rfl _ (g := w.heap.size) rfl (HZ3.out.rowSame _)) rfl ?_
     exact ⟨A, cap, rfl, (HT3.out.row hsv _).old (by omega), HS3.out.row (by omega) (by omega) _, HB3.out.row (Nat.le_refl _) _⟩
end Go.Proofs.YteggpecbeagohaaGreatDoor
namespace Go.Proofs.YteggpecbeagohaaGreatDoor
open Go.RowKit
open Ast (Nd ndV joinL wrapL deepZ rightZ Nodes)
def PieceOk (n : Nat) : Prop := ∀ (w0 w : World) (g : Nat) (f : ByteArray) (c : Nat) (l : List Tok), Fl f c l → RSt w0 g w f c l → pieceF n f c l ≠ .out → Calls Tryz.prog 136 #[.pointer (some ⟨g, 0, none⟩)] w (RPost w0 g w f (pieceF n f c l))
theorem kind16 {l : List Tok} (h : kindZ l = 16) : ∃ x r, l = x :: r ∧ x.k = 16 := by
 cases l with
 | nil => exact absurd h (by decide)
 | cons x r => exact ⟨x, r, rfl, h⟩
def quantT (t : Tr) (g : Nat) (l : List Tok) : Rd := match l with
 | [] => .got t g []
 | x :: r => if x.k = 16 then shal (wrapT t (repN x)) g r else .got t g (x :: r)
theorem quantT_no {t : Tr} {g : Nat} {l : List Tok} (h : ¬ kindZ l = 16) : quantT t g l = .got t g l := by
 cases l with
 | nil => rfl
 | cons x r => exact if_neg h
theorem item_eq (n : Nat) (f : ByteArray) (g : Nat) (l : List Tok) : itemF (n + 1) f g l = (pieceF n f g l).next quantT := by
 rw [itemF]
 rfl
theorem BoxT.cl {T : TypeId} {w : World} {g : Nat} {t : Tok} (h : BoxT T w g t) (j : Nat) : w.cell? ⟨g, j, none⟩ = (tokC t)[j]? := cell_of_row w g j _ _ _ h
set_option maxRecDepth 100000 in
set_option maxHeartbeats 8000000 in
theorem item_step (n : Nat) (hP : PieceOk n) : ItemOk (n + 1) := by
 intro w0 w g f c l hF hS ho
 have hgl := hS.lt
 have hw0 := hS.below.size
 have HS : Hid (RSt w0 g (zTr w) f c l) := Lib.hid (hS.call ((Below.refl _ w).alloc (Nat.le_refl _) _))
 have HZ : Hid (BoxV 43 (zTr w) w.heap.size (trC none 0 0)) := Lib.hid (BoxV.new _ _)
 have ho' := ho
 rw [item_eq] at ho' ⊢
 have HA := Lib.hid (fun h => hP w0 (zTr w) g f c l hF HS.out h)
 have HPt := Lib.hid (fun t c1 l1 (h : pieceF n f c l = .got t c1 l1) => (rd_part n).2.2.2.2.2.1 f c l t c1 l1 h)
 obtain ⟨X, hX⟩ : ∃ X, X = pieceF n f c l := ⟨_, rfl⟩
 rw [← hX] at ho' HA HPt ⊢
 have HFl := Lib.hid hF
 clear hS ho hF hX hP
 have HA2 := Lib.hid (HA.out (fun h => ho' (by rw [h]; rfl)))
 clear HA
 go_enter Tryz.func115, Tryz.ntmps115
 go_wp2_with fail
 with_reducible refine HA2.out.mono ?_
 clear HA2
 cases X with
 | out => exact absurd rfl ho'
 | deep =>
   rintro e w1 ⟨rfl, hb⟩
   exact And.intro rfl ⟨rfl, hb⟩
 | got t c1 l1 =>
   have hp := HPt.out t c1 l1 rfl
   have HP := Lib.hid (show 1 ≤ t.1 ∧ t.1 ≤ 5000 ∧ l1.length ≤ 2000 by have a := hp.len; have b := hp.one; have d := hp.lenle; have e := HFl.out.len; omega)
   clear hp HPt ho'
   rintro e w1 ⟨A, cap, rfl, ht, hs, hb⟩
   have HT1 := Lib.hid ht
   have HS1 := Lib.hid hs
   have HZ1 := Lib.hid (HZ.out.but hb HZ.out.lt (by omega))
   have HB1 := Lib.hid ((zTr_but g w).then hb (by simp))
   have hw1 : w.heap.size < w1.heap.size := HZ1.out.lt
   clear ht hb hs
   go_wp2_with (refine storeNewTr rfl _ _ rfl w1 A t.1 cap rfl rfl rfl ?_; intro w2 hx hN; refine stopP ?_)
   unfold StopP
   have HS2 := Lib.hid (HS1.out.call hN.out)
   have HT2 := Lib.hid (HT1.out.but (ButR.of (g := g) hN.out) (by simp; omega))
   have HZ2 := Lib.hid (HZ1.out.below hN.out HZ1.out.lt)
   have HB2 := Lib.hid (HB1.out.then (ButR.of hN.out) HB1.out.size)
   have HX2 := Lib.hid hx.out
   clear hx hN
   have HN := Lib.hid (next_any HS2.out HP.out.2.2)
   by_cases hk : kindZ l1 = 16
   ·rw [hk] at HN
    obtain ⟨x, r, rfl, hx16⟩ := kind16 hk
    have HTk := Lib.hid (take_any HS2.out (by have := HP.out.2.2; rw [List.length_cons] at this; omega))
    have HR := Lib.hid (show (Rd.got t c1 (x :: r)).next quantT = shal (wrapT t (repN x)) c1 r from if_pos hx16)
    clear hk hx16
    go_wp2_with fail
    with_reducible refine HN.out.mono ?_
    rintro e wa ⟨rfl, rfl⟩
    go_wp2_with fail
    with_reducible refine HTk.out.mono ?_
    rintro e w3 ⟨rfl, hs, hb⟩
    have HS3 := Lib.hid hs
    have HT3 := Lib.hid (HT2.out.but hb (by simp; omega))
    have HZ3 := Lib.hid (HZ2.out.but hb HZ2.out.lt (by omega))
    have HX3 := Lib.hid (HX2.out.but hb HX2.out.lt (by omega))
    have HB3 := Lib.hid (HB2.out.then hb HB2.out.size)
    clear hs hb
    go_wp2_with (refine storeNewB rfl _ _ rfl w3 w3.heap.size rfl x rfl _ rfl rfl _ tok10 rfl ?_; intro w4 hx hN; refine stopP ?_)
    unfold StopP
    have HS4 := Lib.hid (HS3.out.call hN.out)
    have HT4 := Lib.hid (HT3.out.but (ButR.of (g := g) hN.out) (by simp; omega))
    have HZ4 := Lib.hid (HZ3.out.below hN.out HZ3.out.lt)
    have HX4 := Lib.hid (HX3.out.below hN.out HX3.out.lt)
    have HB4 := Lib.hid (HB3.out.then (ButR.of hN.out) HB3.out.size)
    have c5 : w4.cell? ⟨w3.heap.size, 5, none⟩ = some (.int .i64 x.mn) := (hx.out.cl 5).trans rfl
    have c6 : w4.cell? ⟨w3.heap.size, 6, none⟩ = some (.int .i64 x.mx) := (hx.out.cl 6).trans rfl
    have c7 : w4.cell? ⟨w3.heap.size, 7, none⟩ = some (.int .i64 x.md) := (hx.out.cl 7).trans rfl
    clear hx hN
    go_wp2_with (refine loadTr rfl _ rfl w1.heap.size A t.1 cap rfl HX4.out ?_)
    refine (Ast.wrap_any A t.1 cap t.2 (repN x) _ (by have := HP.out; omega) HT4.out.none HT4.out.nodes).mono ?_
    intro e w5 hres
    obtain ⟨A5, cap5, rfl, ht, hb⟩ := tree_res hres (by omega)
    have HS5 := Lib.hid (HS4.out.call hb)
    have HT5 := Lib.hid ht
    have HZ5 := Lib.hid (HZ4.out.below hb HZ4.out.lt)
    have HB5 := Lib.hid (HB4.out.then (ButR.of hb) HB4.out.size)
    have hw4 : w.heap.size < w4.heap.size := HZ4.out.lt
    clear hres ht hb c5 c6 c7
    go_wp2_with fail
    with_reducible refine (shallow_any A5 (t.1 + 1) cap5 (wrapL t.2 t.1 (repN x)) _ (by have := HP.out; omega) HT5.out.nodes).mono ?_
    rintro e w6 ⟨he, hb⟩
    by_cases hd : 40 < deepZ (wrapL t.2 t.1 (repN x)) (t.1 + 1)
    ·rw [if_pos hd] at he
     subst he
     refine And.intro rfl ?_
     rw [HR.out, show shal (wrapT t (repN x)) c1 r = .deep from if_pos hd]
     exact ⟨rfl, HS5.out.below.trans (hb.mono HS5.out.below.size)⟩
    ·rw [if_neg hd] at he
     subst he
     have HRg := Lib.hid (HR.out.trans (show shal (wrapT t (repN x)) c1 r = .got (wrapT t (repN x)) c1 r from if_neg hd))
     have HS6 := Lib.hid (HS5.out.call hb)
     have HT6 := Lib.hid (HT5.out.but (ButR.of (g := g) hb) (by omega))
     have HZ6 := Lib.hid (HZ5.out.below hb HZ5.out.lt)
     have HB6 := Lib.hid (HB5.out.then (ButR.of hb) HB5.out.size)
     clear hb hd
     go_wp2_with (refine storeTr rfl _ _ rfl w.heap.size _ A5 (t.1 + 1) cap5 rfl rfl rfl HZ6.out ?_)
     refine bodyPost_ret (resTr (p := 2) (A := A5) (n := t.1 + 1) (cap := cap5) rfl _ (g := w.heap.size) rfl (HZ6.out.rowSame _)) rfl ?_
     rw [HRg.out]
     exact ⟨A5, cap5, rfl, (HT6.out.row hw4 _).old (by omega), HS6.out.row (by omega) (by omega) _, HB6.out.row (Nat.le_refl _) _⟩
   ·have HR := Lib.hid (show (Rd.got t c1 l1).next quantT = .got t c1 l1 from quantT_no hk)
    obtain ⟨k, hkk⟩ : ∃ k, k = kindZ l1 := ⟨_, rfl⟩
    rw [← hkk] at HN hk
    clear hkk
    go_wp2_with fail
    with_reducible refine HN.out.mono ?_
    rintro e wa ⟨rfl, rfl⟩
    go_wp2_with (first | (refine loadTr rfl _ rfl w1.heap.size A t.1 cap rfl HX2.out ?_) | (refine storeTr rfl _ _ rfl w.heap.size _ A t.1 cap rfl rfl rfl HZ2.out ?_))
    refine bodyPost_ret (resTr (p := 2) (A := A) (n := t.1) (cap := cap) rfl _ (g := w.heap.size) rfl (HZ2.out.rowSame _)) rfl ?_
    rw [HR.out]
    exact ⟨A, cap, rfl, (HT2.out.row (by simp) _).old (by simp), HS2.out.row (by omega) (by omega) _, HB2.out.row (Nat.le_refl _) _⟩
end Go.Proofs.YteggpecbeagohaaGreatDoor
namespace Go.Proofs.YteggpecbeagohaaGreatDoor
open Go.RowKit
open Ast (Nd ndV joinL wrapL deepZ rightZ Nodes)
section
variable {ops : Array Oper} {rest : List Oper} {o : Oper} {a : Act} {w : World} {Q : Exit → Act → World → Prop}
theorem storeNewNd (hgd : o.guard = none) (x y : Operand) (ho : o.op = .store 76 x y) (wr : World) (v : Nd) (hx : a.eval x = .pointer (some ⟨wr.heap.size, 0, none⟩)) (cs : Array Value) (hy : a.eval y = .agg cs) (hcs : cs = ndC v) (hw : w = wr.alloc (.cells (ndC (nd0 0)) 76))
  (h : ∀ u : World, Hid (BoxV 76 u wr.heap.size (ndC v)) → Hid (Below wr.heap.size wr u) → wpList Tryz.prog ops Q rest (a.put o.dst undef) u) : wpList Tryz.prog ops Q (o :: rest) a w := by
 subst hw
 have hg : BoxV 76 (wr.alloc (.cells (ndC (nd0 0)) 76)) wr.heap.size (ndC (nd0 0)) := BoxV.new _ _
 refine storeNd hgd x y ho wr.heap.size (nd0 0) v hx cs hy hcs hg ?_
 exact h _ (Lib.hid (hg.rowSame _)) (Lib.hid (below_row ((Below.refl _ wr).alloc (Nat.le_refl _) _) (Nat.le_refl _) _))
end
section
variable {ops : Array Oper} {o : Oper} {a : Act} {x : Operand} {R : World → Prop}
theorem loadS7 (g k : Nat) (s : ByteArray) (hR : ∀ u, R u → u.cell? ⟨g, k, none⟩ = some (.string s)) (ho : o.op = .load 9 x) (hx : a.eval x = .pointer (some ⟨g, k, none⟩)) (hw : Region.wanted o (yielded ops a.tmps) = true) : YieldsIf Tryz.prog ops R o (.string s) a := by
 refine Or.inl ⟨hw, fun w h => ?_⟩
 have h2 := hR w h
 unfold execOp
 simp only [ho, hx]
 go_simp
theorem loadN7 (g : Nat) (v : Nd) (hR : ∀ u, R u → BoxV 76 u g (ndC v)) (ho : o.op = .load 76 x) (hx : a.eval x = .pointer (some ⟨g, 0, none⟩)) (hw : Region.wanted o (yielded ops a.tmps) = true) : YieldsIf Tryz.prog ops R o (ndV v) a := by
 refine Or.inl ⟨hw, fun w h => ?_⟩
 unfold execOp
 simp only [ho, hx, Instr.loadAt, Instr.sureAddr, Sem.run_bind, Sem.run_pure, Result.andThen_ok, run_loadVar_row w g _ _ _ _ _ (hR w h) Tryz.underlying76 rfl sizeNd]
end
theorem Fl.within {f : ByteArray} {c c' : Nat} {t : Tok} {r : List Tok} (h : Fl f c (t :: r)) (hc : c' ≤ c + 1) : Fl (f ++ t.f) c' r := by
 have h1 := h.len
 have h2 := h.grp
 have h3 := h.fl
 have h4 := h.tok t (List.mem_cons_self ..)
 rw [List.length_cons] at h1 h2 h3
 exact ⟨by omega, by omega, by rw [ByteArray.size_append]; omega, fun x hx => h.tok x (List.mem_cons_of_mem _ hx)⟩
theorem piece_1 (n : Nat) (f : ByteArray) (g : Nat) (t : Tok) (l : List Tok) (h : opens t.k = false) : pieceF (n + 1) f g (t :: l) = .got (leafT (leafN f t)) g l := by
 rw [pieceF, if_pos h]
theorem piece_2 (n : Nat) (f : ByteArray) (g : Nat) (t : Tok) (l : List Tok) (h : opens t.k = true) (h2 : t.k = 8 ∨ t.k = 14) : pieceF (n + 1) f g (t :: l) = withF n (f ++ t.f) g l := by
 rw [pieceF, if_neg (by rw [h]; decide), if_pos h2]
theorem piece_3 (n : Nat) (f : ByteArray) (g : Nat) (t : Tok) (l : List Tok) (h : opens t.k = true) (h2 : ¬ (t.k = 8 ∨ t.k = 14)) : pieceF (n + 1) f g (t :: l) = (withF n (f ++ t.f) (aroundG t.k g) l).next fun u g' l' => shal (wrapT u (aroundN t.k g)) g' l' := by
 rw [pieceF, if_neg (by rw [h]; decide), if_neg h2]
set_option maxRecDepth 100000 in
set_option maxHeartbeats 8000000 in
theorem piece_leaf (hH : HasOk) (n : Nat) (w0 w : World) (g : Nat) (f : ByteArray) (c : Nat) (t : Tok) (r : List Tok) (hF : Fl f c (t :: r)) (hS : RSt w0 g w f c (t :: r)) (hop : opens t.k = false) : Calls Tryz.prog 136 #[.pointer (some ⟨g, 0, none⟩)] w (RPost w0 g w f (pieceF (n + 1) f c (t :: r))) := by
 have hgl := hS.lt
 have hw0 := hS.below.size
 have HS : Hid (RSt w0 g (zTr w) f c (t :: r)) := Lib.hid (hS.call ((Below.refl _ w).alloc (Nat.le_refl _) _))
 have HZ : Hid (BoxV 43 (zTr w) w.heap.size (trC none 0 0)) := Lib.hid (BoxV.new _ _)
 have HFl := Lib.hid hF
 have HTk := Lib.hid (take_any HS.out (by have := hF.len; rw [List.length_cons] at this; omega))
 rw [piece_1 n f c t r hop]
 clear hS hF
 go_enter Tryz.func136, Tryz.ntmps136
 go_wp2_with fail
 with_reducible refine HTk.out.mono ?_
 clear HTk
 rintro e w1 ⟨rfl, hs, hb⟩
 have HS1 := Lib.hid hs
 have HZ1 := Lib.hid (HZ.out.but hb HZ.out.lt (by omega))
 have HB1 := Lib.hid ((zTr_but g w).then hb (by simp))
 have hw1 : w.heap.size < w1.heap.size := HZ1.out.lt
 clear hb hs
 go_wp2_with (refine storeNewB rfl _ _ rfl w1 w1.heap.size rfl t rfl _ rfl rfl _ tok10 rfl ?_; intro w2 hx hN; refine stopP ?_)
 unfold StopP
 have HS2 := Lib.hid (HS1.out.call hN.out)
 have HZ2 := Lib.hid (HZ1.out.below hN.out HZ1.out.lt)
 have HB2 := Lib.hid (HB1.out.then (ButR.of hN.out) HB1.out.size)
 have HX2 := Lib.hid hx.out
 clear hx hN HS1 HZ1 HB1
 have c0 : w2.cell? ⟨w1.heap.size, 0, none⟩ = some (.int .i64 t.k) := (HX2.out.cl 0).trans rfl
 go_wp2_with fail
 with_reducible refine (opens_any t.k _).mono ?_
 rw [hop]
 rintro e wa ⟨rfl, rfl⟩
 have HLf := Lib.hid (pleaf_any hH HS2.out t)
 clear c0 hop
 go_wp2_with (refine loadT rfl _ rfl w1.heap.size t rfl HX2.out ?_)
 with_reducible refine HLf.out.mono ?_
 rintro e w3 ⟨rfl, hb⟩
 have HS3 := Lib.hid (HS2.out.call hb)
 have HZ3 := Lib.hid (HZ2.out.below hb HZ2.out.lt)
 have HB3 := Lib.hid (HB2.out.then (ButR.of hb) HB2.out.size)
 clear hb
 obtain ⟨x, hx⟩ : ∃ x, x = leafN f t := ⟨_, rfl⟩
 have HX := Lib.hid hx
 rw [← hx]
 clear hx
 go_wp2_with fail
 with_reducible refine (Ast.leaf_any x _).mono ?_
 intro e w4 hres
 obtain ⟨A, cap, rfl, ht, hb⟩ := tree_res hres (Nat.le_refl 1)
 have HT4 := Lib.hid ht
 have HS4 := Lib.hid (HS3.out.call hb)
 have HZ4 := Lib.hid (HZ3.out.below hb HZ3.out.lt)
 have HB4 := Lib.hid (HB3.out.then (ButR.of hb) HB3.out.size)
 have hw3 : w.heap.size < w3.heap.size := HZ3.out.lt
 clear ht hb hres
 go_wp2_with (refine storeTr rfl _ _ rfl w.heap.size _ A 1 cap rfl rfl rfl HZ4.out ?_)
 refine bodyPost_ret (resTr (p := 2) (A := A) (n := 1) (cap := cap) rfl _ (g := w.heap.size) rfl (HZ4.out.rowSame _)) rfl ?_
 rw [← HX.out]
 exact ⟨A, cap, rfl, (HT4.out.row hw3 _).old (by omega), HS4.out.row (by omega) (by omega) _, HB4.out.row (Nat.le_refl _) _⟩
set_option maxRecDepth 100000 in
set_option maxHeartbeats 8000000 in
theorem piece_plain (n : Nat) (hW : WithOk n) (w0 w : World) (g : Nat) (f : ByteArray) (c : Nat) (t : Tok) (r : List Tok) (hF : Fl f c (t :: r)) (hS : RSt w0 g w f c (t :: r)) (hop : opens t.k = true) (hk : t.k = 8 ∨ t.k = 14) (ho : pieceF (n + 1) f c (t :: r) ≠ .out) : Calls Tryz.prog 136 #[.pointer (some ⟨g, 0, none⟩)] w (RPost w0 g w f (pieceF (n + 1) f c (t :: r))) := by
 have hgl := hS.lt
 have hw0 := hS.below.size
 have HS : Hid (RSt w0 g (zTr w) f c (t :: r)) := Lib.hid (hS.call ((Below.refl _ w).alloc (Nat.le_refl _) _))
 have HZ : Hid (BoxV 43 (zTr w) w.heap.size (trC none 0 0)) := Lib.hid (BoxV.new _ _)
 have HFl := Lib.hid hF
 have HTk := Lib.hid (take_any HS.out (by have := hF.len; rw [List.length_cons] at this; omega))
 rw [piece_2 n f c t r hop hk] at ho ⊢
 have HW := Lib.hid (fun u (hu : RSt w0 g u f c r) => hW w0 u g f t.f c r (hF.tok t (List.mem_cons_self ..)) (by have := hF.fl; omega) (hF.within (by omega)) hu ho)
 obtain ⟨X, hX⟩ : ∃ X, X = withF n (f ++ t.f) c r := ⟨_, rfl⟩
 rw [← hX] at HW ho ⊢
 have HO := Lib.hid ho
 have q : (t.k == 8) = true ∨ (t.k == 8) = false ∧ (t.k == 14) = true := by
  rcases hk with h | h
  ·exact .inl (by simp [h])
  ·exact .inr ⟨by simp [h], by simp [h]⟩
 clear hS hF hX hW ho hk
 go_enter Tryz.func136, Tryz.ntmps136
 go_wp2_with fail
 with_reducible refine HTk.out.mono ?_
 clear HTk
 rintro e w1 ⟨rfl, hs, hb⟩
 have HS1 := Lib.hid hs
 have HZ1 := Lib.hid (HZ.out.but hb HZ.out.lt (by omega))
 have HB1 := Lib.hid ((zTr_but g w).then hb (by simp))
 have hw1 : w.heap.size < w1.heap.size := HZ1.out.lt
 clear hb hs
 go_wp2_with (refine storeNewB rfl _ _ rfl w1 w1.heap.size rfl t rfl _ rfl rfl _ tok10 rfl ?_; intro w2 hx hN; refine stopP ?_)
 unfold StopP
 have HS2 := Lib.hid (HS1.out.call hN.out)
 have HZ2 := Lib.hid (HZ1.out.below hN.out HZ1.out.lt)
 have HB2 := Lib.hid (HB1.out.then (ButR.of hN.out) HB1.out.size)
 have HX2 := Lib.hid hx.out
 clear hx hN HS1 HZ1 HB1
 have c0 : w2.cell? ⟨w1.heap.size, 0, none⟩ = some (.int .i64 t.k) := (HX2.out.cl 0).trans rfl
 go_wp2_with fail
 with_reducible refine (opens_any t.k _).mono ?_
 rw [hop]
 rintro e wa ⟨rfl, rfl⟩
 have c9 : w2.cell? ⟨w1.heap.size, 9, none⟩ = some (.string t.f) := (HX2.out.cl 9).trans rfl
 have HW2 := Lib.hid (HW.out w2 HS2.out)
 clear HW hop
 rcases q with q8 | ⟨q8, q14⟩
 ·go_wp2_with fail
  with_reducible refine HW2.out.mono ?_
  cases X with
  | out => exact absurd rfl HO.out
  | deep =>
    rintro e w3 ⟨rfl, hb⟩
    exact And.intro rfl ⟨rfl, hb⟩
  | got t2 c2 l2 =>
    rintro e w3 ⟨A, cap, rfl, ht, hs, hb⟩
    have HT3 := Lib.hid ht
    have HS3 := Lib.hid hs
    have HZ3 := Lib.hid (HZ2.out.but hb HZ2.out.lt (by omega))
    have HB3 := Lib.hid (HB2.out.then hb HB2.out.size)
    have hw2 : w.heap.size < w2.heap.size := HZ2.out.lt
    clear ht hs hb c0 c9
    go_wp2_with (refine storeTr rfl _ _ rfl w.heap.size _ A t2.1 cap rfl rfl rfl HZ3.out ?_)
    refine bodyPost_ret (resTr (p := 2) (A := A) (n := t2.1) (cap := cap) rfl _ (g := w.heap.size) rfl (HZ3.out.rowSame _)) rfl ?_
    exact ⟨A, cap, rfl, (HT3.out.row hw2 _).old (by omega), HS3.out.row (by omega) (by omega) _, HB3.out.row (Nat.le_refl _) _⟩
 ·go_wp2_with fail
  with_reducible refine HW2.out.mono ?_
  cases X with
  | out => exact absurd rfl HO.out
  | deep =>
    rintro e w3 ⟨rfl, hb⟩
    exact And.intro rfl ⟨rfl, hb⟩
  | got t2 c2 l2 =>
    rintro e w3 ⟨A, cap, rfl, ht, hs, hb⟩
    have HT3 := Lib.hid ht
    have HS3 := Lib.hid hs
    have HZ3 := Lib.hid (HZ2.out.but hb HZ2.out.lt (by omega))
    have HB3 := Lib.hid (HB2.out.then hb HB2.out.size)
    have hw2 : w.heap.size < w2.heap.size := HZ2.out.lt
    clear ht hs hb c0 c9
    go_wp2_with (refine storeTr rfl _ _ rfl w.heap.size _ A t2.1 cap rfl rfl rfl HZ3.out ?_)
    refine bodyPost_ret (resTr (p := 2) (A := A) (n := t2.1) (cap := cap) rfl _ (g := w.heap.size) rfl (HZ3.out.rowSame _)) rfl ?_
    exact ⟨A, cap, rfl, (HT3.out.row hw2 _).old (by omega), HS3.out.row (by omega) (by omega) _, HB3.out.row (Nat.le_refl _) _⟩
set_option maxRecDepth 100000 in
set_option maxHeartbeats 16000000 in
theorem piece_group (n : Nat) (hW : WithOk n) (w0 w : World) (g : Nat) (f : ByteArray) (c : Nat) (t : Tok) (r : List Tok) (hF : Fl f c (t :: r)) (hS : RSt w0 g w f c (t :: r)) (hop : opens t.k = true) (hk : ¬ (t.k = 8 ∨ t.k = 14)) (ho : pieceF (n + 1) f c (t :: r) ≠ .out) : Calls Tryz.prog 136 #[.pointer (some ⟨g, 0, none⟩)] w (RPost w0 g w f (pieceF (n + 1) f c (t :: r))) := by
 have hgl := hS.lt
 have hw0 := hS.below.size
 have HS : Hid (RSt w0 g (zTr w) f c (t :: r)) := Lib.hid (hS.call ((Below.refl _ w).alloc (Nat.le_refl _) _))
 have HZ : Hid (BoxV 43 (zTr w) w.heap.size (trC none 0 0)) := Lib.hid (BoxV.new _ _)
 have HFl := Lib.hid hF
 have HTk := Lib.hid (take_any HS.out (by have := hF.len; rw [List.length_cons] at this; omega))
 have ho' := ho
 rw [piece_3 n f c t r hop hk] at ho' ⊢
 obtain ⟨R, hR⟩ : ∃ R, R = (withF n (f ++ t.f) (aroundG t.k c) r).next fun u g' l' => shal (wrapT u (aroundN t.k c)) g' l' := ⟨_, rfl⟩
 have hWo : withF n (f ++ t.f) (aroundG t.k c) r ≠ .out := fun h => ho' (by rw [h]; rfl)
 have HW := Lib.hid (fun u (hu : RSt w0 g u f (aroundG t.k c) r) => hW w0 u g f t.f (aroundG t.k c) r (hF.tok t (List.mem_cons_self ..)) (by have := hF.fl; omega) (hF.within (around_le t.k c)) hu hWo)
 rw [← hR]
 have HPt := Lib.hid (fun t1 c1 l1 (h : withF n (f ++ t.f) (aroundG t.k c) r = .got t1 c1 l1) => (rd_part n).2.2.2.2.2.2 (f ++ t.f) (aroundG t.k c) r t1 c1 l1 h)
 obtain ⟨X, hX⟩ : ∃ X, X = withF n (f ++ t.f) (aroundG t.k c) r := ⟨_, rfl⟩
 rw [← hX] at HW hWo hR HPt
 have HO := Lib.hid hWo
 have HRR := Lib.hid hR
 have q8 : (t.k == 8) = false := by simp; omega
 have q14 : (t.k == 14) = false := by simp; omega
 clear hS hF hX hW ho ho' hk hR hWo
 go_enter Tryz.func136, Tryz.ntmps136
 go_wp2_with fail
 with_reducible refine HTk.out.mono ?_
 clear HTk
 rintro e w1 ⟨rfl, hs, hb⟩
 have HS1 := Lib.hid hs
 have HZ1 := Lib.hid (HZ.out.but hb HZ.out.lt (by omega))
 have HB1 := Lib.hid ((zTr_but g w).then hb (by simp))
 have hw1 : w.heap.size < w1.heap.size := HZ1.out.lt
 clear hb hs
 go_wp2_with (refine storeNewB rfl _ _ rfl w1 w1.heap.size rfl t rfl _ rfl rfl _ tok10 rfl ?_; intro w2 hx hN; refine stopP ?_)
 unfold StopP
 have HS2 := Lib.hid (HS1.out.call hN.out)
 have HZ2 := Lib.hid (HZ1.out.below hN.out HZ1.out.lt)
 have HB2 := Lib.hid (HB1.out.then (ButR.of hN.out) HB1.out.size)
 have HX2 := Lib.hid hx.out
 clear hx hN HS1 HZ1 HB1
 have c0 : w2.cell? ⟨w1.heap.size, 0, none⟩ = some (.int .i64 t.k) := (HX2.out.cl 0).trans rfl
 go_wp2_with fail
 with_reducible refine (opens_any t.k _).mono ?_
 rw [hop]
 rintro e wa ⟨rfl, rfl⟩
 clear hop
 have HAr := Lib.hid (around_any HS2.out (by have := HFl.out.grp; omega) t.k)
 obtain ⟨x, hx⟩ : ∃ x, x = aroundN t.k c := ⟨_, rfl⟩
 rw [← hx] at HAr HRR
 clear hx
 go_wp2_with fail
 with_reducible refine HAr.out.mono ?_
 rintro e w3 ⟨rfl, hs, hb⟩
 have HS3 := Lib.hid hs
 have HZ3 := Lib.hid (HZ2.out.but hb HZ2.out.lt (by omega))
 have HB3 := Lib.hid (HB2.out.then hb HB2.out.size)
 have HX3 := Lib.hid (HX2.out.but hb HX2.out.lt (by omega))
 have hw3 : w.heap.size < w3.heap.size := HZ3.out.lt
 clear hs hb c0 q8 q14
 go_wp2_with (refine storeNewNd rfl _ _ rfl w3 x rfl _ rfl rfl rfl ?_; intro w4 hx hN; refine stopP ?_)
 unfold StopP
 have HS4 := Lib.hid (HS3.out.call hN.out).drew
 have HZ4 := Lib.hid (HZ3.out.below hN.out HZ3.out.lt).drew
 have HB4 := Lib.hid (HB3.out.then (ButR.of hN.out) HB3.out.size).drew
 have HX4 : Hid (BoxT 115 w4.drew w1.heap.size t) := Lib.hid (show BoxT 115 w4 w1.heap.size t from HX3.out.below hN.out HX3.out.lt)
 have HN4 := Lib.hid hx.out
 clear hx hN
 go_wp2_with fail
 cases X with
 | out => exact absurd rfl HO.out
 | deep =>
   have HRd := Lib.hid (show R = .deep from HRR.out)
   refine wp_region_held_drew (S := fun u => BoxT 115 u w1.heap.size t ∧ BoxV 76 u w3.heap.size (ndC x)) (by kernel_rfl) (show _ from ⟨HX4.out, HN4.out.drew⟩) (fun hSS => ?_)
   generalize World.drew w4 = u0 at HS4 HZ4 HB4 hSS ⊢
   refine takeAt 0 31 (.pointer (some ⟨g, 0, none⟩)) rfl rfl (by kernel_rfl) (by kernel_rfl) (by kernel_rfl) i_ (yields (by rfl) (fun w => by kernel_rfl)) hSS ?_
   simp only [Act.put, sA_, s0_, sS_]
   refine takeAt 1 32 (.pointer (some ⟨w1.heap.size, 9, none⟩)) rfl rfl (by kernel_rfl) (by kernel_rfl) (by kernel_rfl) i_ (yields (by rfl) (fun w => by kernel_rfl)) hSS ?_
   simp only [Act.put, sA_, s0_, sS_]
   refine takeAt 2 33 (.string t.f) rfl rfl (by kernel_rfl) (by kernel_rfl) (by kernel_rfl) i_ (loadS7 w1.heap.size 9 t.f (fun u h => (h.1.cl 9).trans rfl) rfl rfl (by rfl)) hSS ?_
   simp only [Act.put, sA_, s0_, sS_]
   refine takeAt 4 35 (ndV x) rfl rfl (by kernel_rfl) (by kernel_rfl) (by kernel_rfl) i_ (loadN7 w3.heap.size x (fun _ h => h.2) rfl rfl (by rfl)) hSS ?_
   simp only [Act.put, sA_, s0_, sS_]
   refine callAtP 3 34 rfl rfl (by kernel_rfl) (by rfl) (by kernel_rfl) (HW.out u0 HS4.out) ?_
   rintro e u1 ⟨rfl, hb2⟩
   refine .inr ⟨_, rfl, And.intro rfl ?_⟩
   rw [HRd.out]
   exact ⟨rfl, hb2⟩
 | got t2 c2 l2 =>
   have hp := HPt.out t2 c2 l2 rfl
   have HP2 := Lib.hid (show 1 ≤ t2.1 ∧ t2.1 ≤ 5000 by have a := hp.len; have b := hp.one; have d := HFl.out.len; rw [List.length_cons] at d; omega)
   have HRn := Lib.hid (show R = shal (wrapT t2 x) c2 l2 from HRR.out)
   clear hp HPt
   by_cases hd : 40 < deepZ (wrapL t2.2 t2.1 x) (t2.1 + 1)
   ·have HRd := Lib.hid (HRn.out.trans (show shal (wrapT t2 x) c2 l2 = .deep from if_pos hd))
    refine wp_region_held_drew (S := fun u => BoxT 115 u w1.heap.size t ∧ BoxV 76 u w3.heap.size (ndC x)) (by kernel_rfl) (show _ from ⟨HX4.out, HN4.out.drew⟩) (fun hSS => ?_)
    generalize World.drew w4 = u0 at HS4 HZ4 HB4 hSS ⊢
    refine takeAt 0 31 (.pointer (some ⟨g, 0, none⟩)) rfl rfl (by kernel_rfl) (by kernel_rfl) (by kernel_rfl) i_ (yields (by rfl) (fun w => by kernel_rfl)) hSS ?_
    simp only [Act.put, sA_, s0_, sS_]
    refine takeAt 1 32 (.pointer (some ⟨w1.heap.size, 9, none⟩)) rfl rfl (by kernel_rfl) (by kernel_rfl) (by kernel_rfl) i_ (yields (by rfl) (fun w => by kernel_rfl)) hSS ?_
    simp only [Act.put, sA_, s0_, sS_]
    refine takeAt 2 33 (.string t.f) rfl rfl (by kernel_rfl) (by kernel_rfl) (by kernel_rfl) i_ (loadS7 w1.heap.size 9 t.f (fun u h => (h.1.cl 9).trans rfl) rfl rfl (by rfl)) hSS ?_
    simp only [Act.put, sA_, s0_, sS_]
    refine takeAt 4 35 (ndV x) rfl rfl (by kernel_rfl) (by kernel_rfl) (by kernel_rfl) i_ (loadN7 w3.heap.size x (fun _ h => h.2) rfl rfl (by rfl)) hSS ?_
    simp only [Act.put, sA_, s0_, sS_]
    refine callAtP 3 34 rfl rfl (by kernel_rfl) (by rfl) (by kernel_rfl) (HW.out u0 HS4.out) ?_
    rintro e u1 ⟨A, cap, rfl, ht, hs, hb⟩
    have hwu : w.heap.size < u0.heap.size := HZ4.out.lt
    have HT5 := Lib.hid ht
    have HS5 := Lib.hid hs
    have HZ5 := Lib.hid (HZ4.out.but hb HZ4.out.lt (by omega))
    have HB5 := Lib.hid (HB4.out.then hb HB4.out.size)
    have hSS : BoxT 115 u1 w1.heap.size t ∧ BoxV 76 u1 w3.heap.size (ndC x) := ⟨hSS.1.but hb hSS.1.lt (by omega), hSS.2.but hb hSS.2.lt (by have := HB3.out.size; omega)⟩
    clear ht hs hb
    refine .inl ⟨_, rfl, hSS, ?_⟩
    simp only [Act.put, sA_, s0_, sS_]
    refine callAtP 5 36 rfl rfl (by kernel_rfl) (by rfl) (by kernel_rfl) (Ast.wrap_any A t2.1 cap t2.2 x u1 (by have := HP2.out; omega) HT5.out.none HT5.out.nodes) ?_
    intro e u2 hres
    obtain ⟨A6, cap6, rfl, ht, hb⟩ := tree_res hres (by omega)
    have hw5 : w.heap.size < u1.heap.size := HZ5.out.lt
    have HT6 := Lib.hid ht
    have HS6 := Lib.hid (HS5.out.call hb)
    have HZ6 := Lib.hid (HZ5.out.below hb HZ5.out.lt)
    have HB6 := Lib.hid (HB5.out.then (ButR.of hb) HB5.out.size)
    have hSS : BoxT 115 u2 w1.heap.size t ∧ BoxV 76 u2 w3.heap.size (ndC x) := ⟨hSS.1.below hb hSS.1.lt, hSS.2.below hb hSS.2.lt⟩
    clear ht hres hb
    refine .inl ⟨_, rfl, hSS, ?_⟩
    simp only [Act.put, sA_, s0_, sS_]
    refine callAtP 6 37 rfl rfl (by kernel_rfl) (by rfl) (by kernel_rfl) (shallow_any A6 (t2.1 + 1) cap6 (wrapL t2.2 t2.1 x) u2 (by have := HP2.out; omega) HT6.out.nodes) ?_
    rintro e u3 ⟨he, hb⟩
    rw [if_pos hd] at he
    subst he
    refine .inr ⟨_, rfl, And.intro rfl ?_⟩
    rw [HRd.out]
    exact ⟨rfl, HS6.out.below.trans (hb.mono HS6.out.below.size)⟩
   ·have HRd := Lib.hid (HRn.out.trans (show shal (wrapT t2 x) c2 l2 = .got (wrapT t2 x) c2 l2 from if_neg hd))
    refine wp_region_held_drew (S := fun u => BoxT 115 u w1.heap.size t ∧ BoxV 76 u w3.heap.size (ndC x)) (by kernel_rfl) (show _ from ⟨HX4.out, HN4.out.drew⟩) (fun hSS => ?_)
    generalize World.drew w4 = u0 at HS4 HZ4 HB4 hSS ⊢
    refine takeAt 0 31 (.pointer (some ⟨g, 0, none⟩)) rfl rfl (by kernel_rfl) (by kernel_rfl) (by kernel_rfl) i_ (yields (by rfl) (fun w => by kernel_rfl)) hSS ?_
    simp only [Act.put, sA_, s0_, sS_]
    refine takeAt 1 32 (.pointer (some ⟨w1.heap.size, 9, none⟩)) rfl rfl (by kernel_rfl) (by kernel_rfl) (by kernel_rfl) i_ (yields (by rfl) (fun w => by kernel_rfl)) hSS ?_
    simp only [Act.put, sA_, s0_, sS_]
    refine takeAt 2 33 (.string t.f) rfl rfl (by kernel_rfl) (by kernel_rfl) (by kernel_rfl) i_ (loadS7 w1.heap.size 9 t.f (fun u h => (h.1.cl 9).trans rfl) rfl rfl (by rfl)) hSS ?_
    simp only [Act.put, sA_, s0_, sS_]
    refine takeAt 4 35 (ndV x) rfl rfl (by kernel_rfl) (by kernel_rfl) (by kernel_rfl) i_ (loadN7 w3.heap.size x (fun _ h => h.2) rfl rfl (by rfl)) hSS ?_
    simp only [Act.put, sA_, s0_, sS_]
    refine callAtP 3 34 rfl rfl (by kernel_rfl) (by rfl) (by kernel_rfl) (HW.out u0 HS4.out) ?_
    rintro e u1 ⟨A, cap, rfl, ht, hs, hb⟩
    have hwu : w.heap.size < u0.heap.size := HZ4.out.lt
    have HT5 := Lib.hid ht
    have HS5 := Lib.hid hs
    have HZ5 := Lib.hid (HZ4.out.but hb HZ4.out.lt (by omega))
    have HB5 := Lib.hid (HB4.out.then hb HB4.out.size)
    have hSS : BoxT 115 u1 w1.heap.size t ∧ BoxV 76 u1 w3.heap.size (ndC x) := ⟨hSS.1.but hb hSS.1.lt (by omega), hSS.2.but hb hSS.2.lt (by have := HB3.out.size; omega)⟩
    clear ht hs hb
    refine .inl ⟨_, rfl, hSS, ?_⟩
    simp only [Act.put, sA_, s0_, sS_]
    refine callAtP 5 36 rfl rfl (by kernel_rfl) (by rfl) (by kernel_rfl) (Ast.wrap_any A t2.1 cap t2.2 x u1 (by have := HP2.out; omega) HT5.out.none HT5.out.nodes) ?_
    intro e u2 hres
    obtain ⟨A6, cap6, rfl, ht, hb⟩ := tree_res hres (by omega)
    have hw5 : w.heap.size < u1.heap.size := HZ5.out.lt
    have HT6 := Lib.hid ht
    have HS6 := Lib.hid (HS5.out.call hb)
    have HZ6 := Lib.hid (HZ5.out.below hb HZ5.out.lt)
    have HB6 := Lib.hid (HB5.out.then (ButR.of hb) HB5.out.size)
    have hSS : BoxT 115 u2 w1.heap.size t ∧ BoxV 76 u2 w3.heap.size (ndC x) := ⟨hSS.1.below hb hSS.1.lt, hSS.2.below hb hSS.2.lt⟩
    clear ht hres hb
    refine .inl ⟨_, rfl, hSS, ?_⟩
    simp only [Act.put, sA_, s0_, sS_]
    refine callAtP 6 37 rfl rfl (by kernel_rfl) (by rfl) (by kernel_rfl) (shallow_any A6 (t2.1 + 1) cap6 (wrapL t2.2 t2.1 x) u2 (by have := HP2.out; omega) HT6.out.nodes) ?_
    rintro e u3 ⟨he, hb⟩
    rw [if_neg hd] at he
    subst he
    have HT7 := Lib.hid (HT6.out.but (ButR.of (g := g) hb) (by omega))
    have HS7 := Lib.hid (HS6.out.call hb)
    have HZ7 := Lib.hid (HZ6.out.below hb HZ6.out.lt)
    have HB7 := Lib.hid (HB6.out.then (ButR.of hb) HB6.out.size)
    have hSS : BoxT 115 u3 w1.heap.size t ∧ BoxV 76 u3 w3.heap.size (ndC x) := ⟨hSS.1.below hb hSS.1.lt, hSS.2.below hb hSS.2.lt⟩
    clear hb
    refine .inl ⟨_, rfl, hSS, ?_⟩
    simp only [Act.put, sA_, s0_, sS_]
    refine rowAt 7 43 w.heap.size (trC none 0 0) (trC A6 (t2.1 + 1) cap6) rfl rfl rfl (by kernel_rfl) (by rfl) rfl rfl HZ7.out sizeTr rfl (by simp [Value.oneCell']) ⟨hSS.1.row _ (by omega), hSS.2.row _ (by have := HB3.out.size; omega)⟩ ?_
    refine wpAnyH_done (by kernel_rfl) ?_ _
    go_wp2_with fail
    refine bodyPost_ret (resTr (p := 2) (A := A6) (n := t2.1 + 1) (cap := cap6) rfl _ (g := w.heap.size) rfl (HZ7.out.rowSame _)) rfl ?_
    rw [HRd.out]
    exact ⟨A6, cap6, rfl, (HT7.out.row hw5 _).old (by omega), HS7.out.row (by omega) (by omega) _, HB7.out.row (Nat.le_refl _) _⟩
theorem piece_step (hH : HasOk) (n : Nat) (hW : WithOk n) : PieceOk (n + 1) := by
 intro w0 w g f c l hF hS ho
 cases l with
 | nil => exact absurd (by rw [pieceF]) ho
 | cons t r =>
   cases hop : opens t.k with
   | false => exact piece_leaf hH n w0 w g f c t r hF hS hop
   | true =>
     by_cases hk : t.k = 8 ∨ t.k = 14
     ·exact piece_plain n hW w0 w g f c t r hF hS hop hk ho
     ·exact piece_group n hW w0 w g f c t r hF hS hop hk ho
theorem read_all (hH : HasOk) : ∀ n, AltOk n ∧ RowOk n ∧ ItemOk n ∧ PieceOk n ∧ WithOk n := by
 intro n
 induction n using Nat.strongRecOn with
 | _ n ih =>
   cases n with
   | zero => exact ⟨fun _ _ _ _ _ _ _ _ h => absurd (by rw [altF]) h, fun _ _ _ _ _ _ _ _ h => absurd (by rw [rowF]) h, fun _ _ _ _ _ _ _ _ h => absurd (by rw [itemF]) h, fun _ _ _ _ _ _ _ _ h => absurd (by rw [pieceF]) h, fun _ _ _ _ _ _ _ _ _ _ _ h => absurd (by rw [withF]) h⟩
   | succ n =>
     have h := fun m (hm : m ≤ n) => ih m (by omega)
     exact ⟨alt_step n fun m hm => (h m hm).2.1, row_step n fun m hm => (h m hm).2.2.1, item_step n (h n (Nat.le_refl n)).2.2.2.1, piece_step hH n (h n (Nat.le_refl n)).2.2.2.2, with_step n (h n (Nat.le_refl n)).1⟩
end Go.Proofs.YteggpecbeagohaaGreatDoor
namespace Go.Proofs.YteggpecbeagohaaGreatDoor
open Go.RowKit
section
variable {t : Tok} {l : List Tok} {o : Nat} {b : Bool}
theorem scan_no1 (h : t.k = 16) : scanF (t :: l) o false = false := by rw [scanF, if_pos (.inl ⟨h, rfl⟩)]
theorem scan_no2 (h : t.k = 15) : scanF (t :: l) 0 b = false := by rw [scanF, if_pos (.inr ⟨h, rfl⟩)]
theorem scan_16 (h : t.k = 16) : scanF (t :: l) o true = scanF l o false := by simp [scanF, h, opens]
theorem scan_15 (h : t.k = 15) (ho : o ≠ 0) : scanF (t :: l) o b = scanF l (o - 1) true := by simp [scanF, h, opens, ho]
theorem scan_op (h : opens t.k = true) : scanF (t :: l) o b = scanF l (o + 1) false := by
 have h2 := of_decide_eq_true h
 have h16 : ¬ t.k = 16 := by omega
 have h15 : ¬ t.k = 15 := by omega
 simp [scanF, h, h15, h16]
theorem scan_6 (h : t.k = 6) : scanF (t :: l) o b = scanF l o false := by simp [scanF, h, opens]
theorem scan_el (h : opens t.k = false) (h6 : t.k ≠ 6) (h15 : t.k ≠ 15) (h16 : t.k ≠ 16) : scanF (t :: l) o b = scanF l o true := by simp [scanF, h, h6, h15, h16]
end
set_option maxRecDepth 100000 in
set_option maxHeartbeats 8000000 in
theorem scan_any (A : Option Addr) (cap : Nat) (l : List Tok) (w : World) (hl : l.length ≤ 2000) (htk : Toks w A l) : Calls Tryz.prog 33 #[.slice A l.length cap] w fun e w' => e = .returned (.bool (scanF l 0 false)) ∧ Below w.heap.size w w' := by
 have HT := Lib.hid htk
 clear htk
 obtain ⟨R, hR⟩ : ∃ R, R = scanF l 0 false := ⟨_, rfl⟩
 rw [← hR]
 have HR := Lib.hid hR
 clear hR
 have hll : (l.length : Int) ≤ 2000 := by omega
 go_enter Tryz.func33, Tryz.ntmps33
 go_wp2_with fail
 go_loopw [3, 4, 9] (fun s3 s4 s9 wr => ∃ (k o : Nat) (b : Bool), s3 = .int .i64 o ∧ s4 = .bool b ∧ s9 = .int .i64 k ∧ k ≤ l.length ∧ o ≤ k ∧ R = scanF (l.drop k) o b ∧ Below w.heap.size w wr) (fun _ _ s9 _ => l.length - (intOf s9).toNat)
 case atStart => exact ⟨0, 0, false, rfl, rfl, rfl, Nat.zero_le _, Nat.le_refl _, HR.out, Below.refl _ _⟩
 case round =>
  obtain ⟨k, o, b, rfl, rfl, rfl, hk, hok, hr, hb⟩ := hrel
  have HRk := Lib.hid hr
  have HB := Lib.hid hb
  clear hr hb
  by_cases hlt : k < l.length
  ·have r1 : (k : Int) < (l.length : Int) := by omega
   obtain ⟨t, ht⟩ : ∃ t, l[k]? = some t := ⟨_, List.getElem?_eq_getElem hlt⟩
   have hd : l.drop k = t :: l.drop (k + 1) := by
    rw [List.drop_eq_getElem_cons hlt]
    congr 1
    rw [List.getElem?_eq_getElem hlt] at ht
    exact Option.some.inj ht
   rw [hd] at HRk
   obtain ⟨bb, oo, rfl, hbw, hx⟩ := (HT.out.below HB.out (Nat.le_refl _)) k t ht
   obtain ⟨c0, c1, c2, c3, c4, c5, c6, c7, c8, c9⟩ := hx
   clear ht hd hbw
   go_wp2_with (refine storeNewB rfl _ _ rfl wr wr.heap.size rfl t rfl _ rfl rfl _ tok10 rfl ?_; intro w2 hx hN; clear c0 c1 c2 c3 c4 c5 c6 c7 c8 c9; refine stopP ?_)
   unfold StopP
   have c0 : w2.cell? ⟨wr.heap.size, 0, none⟩ = some (.int .i64 t.k) := (hx.out.cl 0).trans rfl
   have HB2 := Lib.hid (thenB HB.out hN.out HB.out.size)
   clear hx hN
   have hoi : (o : Int) ≤ 2000 := by omega
   by_cases hk16 : t.k = 16
   ·cases b with
    | false =>
      have HE := Lib.hid (HRk.out.trans (scan_no1 hk16))
      rw [hk16] at c0
      go_wp2_with fail
      go_ret
      exact ⟨by rw [HE.out]; rfl, HB2.out⟩
    | true =>
      have HE := Lib.hid (HRk.out.trans (scan_16 hk16))
      rw [hk16] at c0
      clear hk16
      go_wp2_with fail
      with_reducible refine (opens_any _ _).mono ?_
      rw [show opens 16 = false from rfl]
      rintro e wa ⟨rfl, rfl⟩
      go_wp2_with fail
      go_roundw
      case rel => exact ⟨k + 1, o, false, by go_num, rfl, by go_num, by omega, by omega, HE.out, HB2.out⟩
      case measure => simp [intOf]; omega
   by_cases hk15 : t.k = 15
   ·by_cases h0 : o = 0
    ·subst h0
     have HE := Lib.hid (HRk.out.trans (scan_no2 hk15))
     rw [hk15] at c0
     go_wp2_with fail
     go_ret
     exact ⟨by rw [HE.out]; rfl, HB2.out⟩
    ·have HE := Lib.hid (HRk.out.trans (scan_15 hk15 h0))
     have q : ((o : Int) == 0) = false := by simp; omega
     have hoz : (0 : Int) < (o : Int) := by omega
     rw [hk15] at c0
     clear hk15 hk16
     go_wp2_with fail
     with_reducible refine (opens_any _ _).mono ?_
     rw [show opens 15 = false from rfl]
     rintro e wa ⟨rfl, rfl⟩
     go_wp2_with fail
     go_roundw
     case rel => exact ⟨k + 1, o - 1, true, (by rw [show ((o - 1 : Nat) : Int) = (o : Int) - 1 by omega]), rfl, by go_num, by omega, by omega, HE.out, HB2.out⟩
     case measure => simp [intOf]; omega
   have q16 : (t.k == 16) = false := by simpa using hk16
   have q15 : (t.k == 15) = false := by simpa using hk15
   have p16 : (t.k != 16) = true := by simpa using hk16
   cases hop : opens t.k with
   | true =>
     have hk6 : t.k ≠ 6 := by have := of_decide_eq_true hop; omega
     have p6 : (t.k != 6) = true := by simpa using hk6
     have HE := Lib.hid (HRk.out.trans (scan_op hop))
     clear hk16 hk15 hk6
     go_wp2_with fail
     with_reducible refine (opens_any _ _).mono ?_
     rw [hop]
     rintro e wa ⟨rfl, rfl⟩
     go_wp2_with fail
     go_roundw
     case rel => exact ⟨k + 1, o + 1, false, by go_num, rfl, by go_num, by omega, by omega, HE.out, HB2.out⟩
     case measure => simp [intOf]; omega
   | false =>
     by_cases hk6 : t.k = 6
     ·have HE := Lib.hid (HRk.out.trans (scan_6 hk6))
      have p6 : (t.k != 6) = false := by simp [hk6]
      clear hk16 hk15 hk6
      go_wp2_with fail
      with_reducible refine (opens_any _ _).mono ?_
      rw [hop]
      rintro e wa ⟨rfl, rfl⟩
      go_wp2_with fail
      go_roundw
      case rel => exact ⟨k + 1, o, false, by go_num, rfl, by go_num, by omega, by omega, HE.out, HB2.out⟩
      case measure => simp [intOf]; omega
     ·have HE := Lib.hid (HRk.out.trans (scan_el hop hk6 hk15 hk16))
      have p6 : (t.k != 6) = true := by simpa using hk6
      clear hk16 hk15 hk6
      go_wp2_with fail
      with_reducible refine (opens_any _ _).mono ?_
      rw [hop]
      rintro e wa ⟨rfl, rfl⟩
      go_wp2_with fail
      go_roundw
      case rel => exact ⟨k + 1, o, true, by go_num, rfl, by go_num, by omega, by omega, HE.out, HB2.out⟩
      case measure => simp [intOf]; omega
  ·obtain rfl : k = l.length := by omega
   rw [List.drop_length] at HRk
   have HE := Lib.hid (show R = (o == 0) from HRk.out)
   by_cases h0 : o = 0
   ·subst h0
    have HE2 := Lib.hid (show R = true from HE.out)
    go_wp2_with fail
    go_ret
    exact ⟨by rw [HE2.out]; rfl, HB.out⟩
   ·have HE2 := Lib.hid (show R = false by rw [HE.out]; simpa using h0)
    have q : ((o : Int) == 0) = false := by simp; omega
    have q2 : ¬ (o : Int) = 0 := by omega
    go_wp2_with fail
    go_ret
    exact ⟨by rw [HE2.out]; rfl, HB.out⟩
end Go.Proofs.YteggpecbeagohaaGreatDoor
