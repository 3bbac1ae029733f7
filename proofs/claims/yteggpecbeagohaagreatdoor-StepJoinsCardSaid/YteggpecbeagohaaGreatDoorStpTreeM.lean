import Derived.Test.YteggpecbeagohaaGreatDoorStpNew
import Derived.Test.YteggpecbeagohaaGreatDoorParE
import Derived.Test.YteggpecbeagohaaGreatDoorStpLoopM
import Derived.Test.YteggpecbeagohaaGreatDoorCapWithM
import Derived.Test.YteggpecbeagohaaGreatDoorMz
import Derived.Test.YteggpecbeagohaaGreatDoorCapDefM
import Derived.Laws.StructEq
namespace Go.Proofs.YteggpecbeagohaaGreatDoor.Stp
open Go.RowKit
open Ast (Nd kidsZ siz siz_pos siz_le len rightZ fitsB joinL wrapL mvN)
open Nai (RepOk)
theorem fits_rep {x : Nd} (h : fitsB x = true) (hk : x.k = 10) : RepOk x.mn x.mx ∧ 0 ≤ x.mn ∧ x.mn ≤ 100 ∧ x.mx ≤ 100 ∧ 0 ≤ x.md ∧ x.md ≤ 2 := by
 unfold fitsB at h
 have h := of_decide_eq_true h
 obtain ⟨-, -, -, -, -, -, h⟩ := h
 rcases h with h | ⟨h1, h2, h3, h4, h5, h6⟩
 ·exact absurd hk h
 ·refine ⟨?_, h1, h2, h3, h5, h6⟩
  rcases h4 with e | e
  ·exact .inl (by omega)
  ·exact .inr e
theorem beh_at {l : Nat → Nd} {n k : Nat} (h : Ast.behB l n = true) (hk : k < n) (hb : (l k).k = 15 ∨ (l k).k = 16) : (len l k).1 = (len l k).2 ∧ (len l k).2 ≤ 255 := by
 have h1 : Ast.behB l (k + 1) = true := by
  cases h2 : Ast.behB l (k + 1) with
  | true => rfl
  | false => rw [Ast.beh_none h2 (by omega)] at h; cases h
 unfold Ast.behB at h1
 rw [Bool.and_eq_true, if_pos hb] at h1
 exact of_decide_eq_true h1.2
theorem tok_of {l : Nat → Nd} {n : Nat} {s : ByteArray} {most : Int} (h : rightZ l n = 0) (hs : s.size ≤ 10000) : TOk ⟨l, n, fun i => (backN l n i : Int), s, most⟩ := by
 have hsh : Ast.shapeZ l n = 0 := by
  unfold rightZ at h
  split at h
  ·omega
  ·omega
 have hbe : Ast.behB l n = true := by
  unfold rightZ at h
  cases hb : Ast.behB l n with
  | true => rfl
  | false =>
    rw [if_neg (by omega), if_pos hb] at h
    split at h <;> omega
 have hf : Ast.formZ l n = 0 := by
  unfold Ast.shapeZ at hsh
  split at hsh
  ·omega
  ·exact hsh
 obtain ⟨hn1, hn0, hsz⟩ := Ast.form_0 hf
 have hp : ∀ i, i < n → _ := fun i hi => siz_pos (Ast.siz_of_whole hsz hi)
 refine ⟨hn0, hn1, fun i hi hk => ?_, fun i hi hk => ?_, fun i hi hk => ?_, fun i _ => ?_, hs⟩
 ·obtain ⟨-, q | ⟨q, q1, q2, -⟩ | q⟩ := hp i hi
  ·have hk' : kidsZ (l i).k = 1 := hk
   omega
  ·have := siz_ne q1
   have hi' : i < n := hi
   show 0 ≤ (l i).a ∧ (l i).a < n
   omega
  ·have hk' : kidsZ (l i).k = 1 := hk
   omega
 ·obtain ⟨-, q | q | ⟨q, q1, q2, q3, q4, -⟩⟩ := hp i hi
  ·have hk' : kidsZ (l i).k = 2 := hk
   omega
  ·have hk' : kidsZ (l i).k = 2 := hk
   omega
  ·have := siz_ne q1
   have := siz_ne q2
   have := siz_le l i
   have hi' : i < n := hi
   show 0 ≤ (l i).a ∧ (l i).a < n ∧ 0 ≤ (l i).b ∧ (l i).b < n
   omega
 ·obtain ⟨h1, h2, h3, h4, -⟩ := fits_rep (hp i hi).1 hk
  refine ⟨h2, h3, h4, ?_⟩
  obtain ⟨hff, -⟩ := hp i hi
  unfold fitsB at hff
  have hff := of_decide_eq_true hff
  obtain ⟨-, -, -, -, -, -, hff⟩ := hff
  rcases hff with q | ⟨-, -, -, q, -⟩
  ·exact absurd hk q
  ·show (l i).mx = -1 ∨ (l i).mn ≤ (l i).mx
   omega
 ·show (0 : Int) ≤ (backN l n i : Int) ∧ (backN l n i : Int) ≤ 1000000
  unfold backN
  split
  ·rename_i q
   obtain ⟨e1, e2⟩ := beh_at hbe q.1 q.2
   omega
  ·omega
theorem words_set (S : BitVec 256) : BitVec.ofNat 256 (W S 0 + 2 ^ 64 * W S 1 + 2 ^ 128 * W S 2 + 2 ^ 192 * W S 3) = S := by
 apply BitVec.eq_of_toNat_eq
 have h := S.isLt
 rw [BitVec.toNat_ofNat]
 unfold W
 generalize S.toNat = n at h ⊢
 simp only [Nat.mul_zero, Nat.pow_zero, Nat.div_one, Nat.mul_one]
 have e1 : n / 2 ^ (64 * 2) = n / 2 ^ 64 / 2 ^ 64 := by rw [Nat.div_div_eq_div_mul, ← Nat.pow_add]
 have e2 : n / 2 ^ (64 * 3) = n / 2 ^ 64 / 2 ^ 64 / 2 ^ 64 := by rw [Nat.div_div_eq_div_mul, Nat.div_div_eq_div_mul, ← Nat.pow_add, ← Nat.pow_add]
 rw [e1, e2]
 omega
theorem wds_set (S : BitVec 256) : WdsN (Go.Proofs.YteggpecbeagohaaGreatDoor.setN S) := by
 have e : Nai.setN (Go.Proofs.YteggpecbeagohaaGreatDoor.setN S) = S := by
  unfold Nai.setN Go.Proofs.YteggpecbeagohaaGreatDoor.setN
  simp only [Int.toNat_natCast]
  exact words_set S
 unfold WdsN
 rw [e]
 exact ⟨rfl, rfl, rfl, rfl⟩
theorem wds_zero {x : Nd} (h0 : x.s0 = 0) (h1 : x.s1 = 0) (h2 : x.s2 = 0) (h3 : x.s3 = 0) : WdsN x := by
 have e : Nai.setN x = 0#256 := by
  unfold Nai.setN
  rw [h0, h1, h2, h3]
  rfl
 unfold WdsN
 rw [e, h0, h1, h2, h3]
 exact ⟨rfl, rfl, rfl, rfl⟩
theorem wds_same {x y : Nd} (h : WdsN x) (h0 : y.s0 = x.s0) (h1 : y.s1 = x.s1) (h2 : y.s2 = x.s2) (h3 : y.s3 = x.s3) : WdsN y := by
 have e : Nai.setN y = Nai.setN x := by unfold Nai.setN; rw [h0, h1, h2, h3]
 unfold WdsN at h ⊢
 rw [e, h0, h1, h2, h3]
 exact h
theorem mv_sets (x : Nd) (n : Int) : (mvN x n).s0 = x.s0 ∧ (mvN x n).s1 = x.s1 ∧ (mvN x n).s2 = x.s2 ∧ (mvN x n).s3 = x.s3 := by
 unfold mvN
 split
 ·exact ⟨rfl, rfl, rfl, rfl⟩
 ·split <;> exact ⟨rfl, rfl, rfl, rfl⟩
def WdT (t : Tr) : Prop := ∀ i, i < t.1 → WdsN (t.2 i)
theorem WdT.leaf {x : Nd} (h : WdsN x) : WdT (leafT x) := fun _ _ => h
theorem WdT.join {a b : Tr} (ha : WdT a) (hb : WdT b) (k : Int) : WdT (joinT a b k) := fun i hi => by
 have hi' : i < a.1 + b.1 + 1 := hi
 show WdsN (joinL a.2 a.1 b.2 b.1 k i)
 unfold joinL
 split
 ·exact ha i (by assumption)
 ·split
  ·obtain ⟨q0, q1, q2, q3⟩ := mv_sets (b.2 (i - a.1)) a.1
   exact wds_same (hb (i - a.1) (by omega)) q0 q1 q2 q3
  ·exact wds_zero rfl rfl rfl rfl
theorem WdT.wrap {a : Tr} (ha : WdT a) {x : Nd} (hx : WdsN x) : WdT (wrapT a x) := fun i _ => by
 show WdsN (wrapL a.2 a.1 x i)
 unfold wrapL
 split
 ·exact ha i (by assumption)
 ·exact wds_same hx rfl rfl rfl rfl
theorem wds_nd0 (k : Int) : WdsN (nd0 k) := wds_zero rfl rfl rfl rfl
theorem wds_leaf (f : ByteArray) (t : Tok) : WdsN (leafN f t) := by
 unfold leafN
 split
 ·exact wds_set _
 ·split
  ·exact wds_nd0 _
  ·split
   ·exact wds_nd0 _
   ·split
    ·exact wds_nd0 _
    ·split
     ·exact wds_nd0 _
     ·split
      ·exact wds_zero rfl rfl rfl rfl
      ·exact wds_set _
theorem wds_around (k : Int) (g : Nat) : WdsN (aroundN k g) := by
 unfold aroundN
 split
 ·exact wds_nd0 _
 ·exact wds_zero rfl rfl rfl rfl
theorem wds_rep (t : Tok) : WdsN (repN t) := wds_zero rfl rfl rfl rfl
theorem rd_words : ∀ n,
  (∀ f g l t g' l', altF n f g l = .got t g' l' → WdT t) ∧
  (∀ f t0 g l t g' l', WdT t0 → altsF n f t0 g l = .got t g' l' → WdT t) ∧
  (∀ f g l t g' l', rowF n f g l = .got t g' l' → WdT t) ∧
  (∀ f t0 g l t g' l', WdT t0 → itemsF n f t0 g l = .got t g' l' → WdT t) ∧
  (∀ f g l t g' l', itemF n f g l = .got t g' l' → WdT t) ∧
  (∀ f g l t g' l', pieceF n f g l = .got t g' l' → WdT t) ∧
  (∀ f g l t g' l', withF n f g l = .got t g' l' → WdT t) := by
 intro n
 induction n with
 | zero => refine ⟨?_, ?_, ?_, ?_, ?_, ?_, ?_⟩ <;> (intros; rename_i h; first | (simp only [altF] at h; cases h) | (simp only [altsF] at h; cases h) | (simp only [rowF] at h; cases h) | (simp only [itemsF] at h; cases h) | (simp only [itemF] at h; cases h) | (simp only [pieceF] at h; cases h) | (simp only [withF] at h; cases h))
 | succ n ih =>
   obtain ⟨i1, i2, i3, i4, i5, i6, i7⟩ := ih
   refine ⟨?_, ?_, ?_, ?_, ?_, ?_, ?_⟩
   ·intro f g l t g' l' h
    rw [altF] at h
    obtain ⟨t1, g1, l1, h1, h2⟩ := next_got h
    exact i2 _ _ _ _ _ _ _ (i3 _ _ _ _ _ _ h1) h2
   ·intro f t0 g l t g' l' h0 h
    rw [altsF] at h
    split at h
    ·obtain ⟨t1, g1, l1, h1, h2⟩ := next_got h
     obtain ⟨t2, g2, l2, h3, h4⟩ := next_got h2
     obtain ⟨rfl, rfl, rfl⟩ := shal_got h3
     exact i2 _ _ _ _ _ _ _ (h0.join (i3 _ _ _ _ _ _ h1) 9) h4
    ·cases h
     exact h0
   ·intro f g l t g' l' h
    rw [rowF] at h
    split at h
    ·cases h
     exact .leaf (wds_nd0 0)
    ·obtain ⟨t1, g1, l1, h1, h2⟩ := next_got h
     exact i4 _ _ _ _ _ _ _ (i5 _ _ _ _ _ _ h1) h2
   ·intro f t0 g l t g' l' h0 h
    rw [itemsF] at h
    split at h
    ·cases h
     exact h0
    ·obtain ⟨t1, g1, l1, h1, h2⟩ := next_got h
     obtain ⟨t2, g2, l2, h3, h4⟩ := next_got h2
     obtain ⟨rfl, rfl, rfl⟩ := shal_got h3
     exact i4 _ _ _ _ _ _ _ (h0.join (i5 _ _ _ _ _ _ h1) 8) h4
   ·intro f g l t g' l' h
    rw [itemF] at h
    obtain ⟨t1, g1, l1, h1, h2⟩ := next_got h
    have a := i6 _ _ _ _ _ _ h1
    cases l1 with
    | nil =>
      cases h2
      exact a
    | cons x r =>
      simp only [] at h2
      split at h2
      ·obtain ⟨rfl, rfl, rfl⟩ := shal_got h2
       exact a.wrap (wds_rep x)
      ·cases h2
       exact a
   ·intro f g l t g' l' h
    cases l with
    | nil => rw [pieceF] at h; cases h
    | cons x r =>
      rw [pieceF] at h
      split at h
      ·cases h
       exact .leaf (wds_leaf f x)
      ·split at h
       ·exact i7 _ _ _ _ _ _ h
       ·obtain ⟨t1, g1, l1, h1, h2⟩ := next_got h
        obtain ⟨rfl, rfl, rfl⟩ := shal_got h2
        exact (i7 _ _ _ _ _ _ h1).wrap (wds_around x.k g)
   ·intro f g l t g' l' h
    rw [withF] at h
    obtain ⟨t1, g1, l1, h1, h2⟩ := next_got h
    have a := i1 _ _ _ _ _ _ h1
    cases l1 with
    | nil => cases h2
    | cons x r =>
      cases h2
      exact a
theorem parse_words {p : ByteArray} (h : (parseZ p).2 = 0) : WdT (parseZ p).1 := by
 unfold parseZ at h ⊢
 by_cases he : (lexZ p).2 ≠ 0
 ·rw [if_pos he] at h
  exact absurd h he
 ·rw [if_neg he] at h ⊢
  unfold treeZ at h ⊢
  by_cases hs : scanF (lexZ p).1 0 false = false
  ·rw [if_pos hs] at h; cases h
  ·rw [if_neg hs] at h ⊢
   cases ha : altF (6 * (lexZ p).1.length + 6) ByteArray.empty 0 (lexZ p).1 with
   | out => rw [ha] at h; cases h
   | deep => rw [ha] at h; cases h
   | got t g l' =>
     rw [ha] at h
     simp only [] at h ⊢
     by_cases hr : rightZ t.2 t.1 = 0
     ·rw [if_pos hr]
      exact (rd_words _).1 _ _ _ _ _ _ ha
     ·rw [if_neg hr] at h
      exact absurd h hr
end Go.Proofs.YteggpecbeagohaaGreatDoor.Stp
namespace Go.Proofs.YteggpecbeagohaaGreatDoor.Stp
open Go.RowKit
open Frm (Fr Pl frC frL frI dpI putF zF Wf mayF idF I64 BoxV ptr slc plL plC loadFr storeFr resFB getF sizeFr owns_block)
open Cap (Cp cpC zrC withZ agN agB byB)
open Ast (Nd At12 NodesAt kidsZ)
theorem Mch.but {w u : World} {H : Wh} {C : Mx} {b m p' b' m' : Nat} {o : Option Nat} {M : List Pl} (h : Mch w H C b m o M) (k : ButS p' b' m' w u)
  (a : ∀ j, j = H.p ∨ j = b ∨ j = m ∨ j = H.g ∨ j = H.h ∨ o = some j → j ≠ p' ∧ j ≠ b' ∧ j ≠ m') : Mch u H C b m o M := by
 obtain ⟨l1, l2, l3, l4, l5⟩ := h.low
 have q : ∀ j, j < w.heap.size → (j = H.p ∨ j = b ∨ j = m ∨ j = H.g ∨ j = H.h ∨ o = some j) → u.heap[j]? = w.heap[j]? := fun j hj hh => by
  obtain ⟨a1, a2, a3⟩ := a j hh
  exact k.keep j hj a1 a2 a3
 refine ⟨h.ms.keep fun j hj => q j ?_ ?_, nodes_to h.nds (q _ l4 (by simp)) k.size, ⟨Nat.lt_of_lt_of_le l5 k.size, fun i hi => (cell_of_hp (q _ l5 (by simp)) i).trans (h.bks.2 i hi)⟩, h.ap⟩
 ·rcases hj with rfl | rfl | rfl | e
  ·exact l1
  ·exact l2
  ·exact l3
  ·obtain ⟨-, ⟨cs, T, e2⟩, -⟩ := h.ms.old j e
   exact lt_of_block e2
 ·rcases hj with e | e | e | e
  ·exact .inl e
  ·exact .inr (.inl e)
  ·exact .inr (.inr (.inl e))
  ·exact .inr (.inr (.inr (.inr (.inr e))))
def Apt (p b m : Nat) (H : Wh) (b2 m2 : Nat) (o2 : Option Nat) : Prop := ∀ j, j = H.p ∨ j = b2 ∨ j = m2 ∨ j = H.g ∨ j = H.h ∨ o2 = some j → j ≠ p ∧ j ≠ b ∧ j ≠ m
structure Pair (w0 : World) (t : Nat) (H1 H2 : Wh) (C1 C2 : Mx) (o1 o2 : Option Nat) (M1 M2 : List Pl) (w : World) : Prop where
 low : Below w0.heap.size w0 w
 top : t ≤ w.heap.size ∧ w0.heap.size ≤ t ∧ H1.p < t ∧ H2.p < t ∧ H1.g < t ∧ H1.h < t ∧ H2.g < t ∧ H2.h < t ∧ (∀ q, o1 = some q → q < t) ∧ (∀ q, o2 = some q → q < t)
 two : ∃ b1 m1 b2 m2, Mch w H1 C1 b1 m1 o1 M1 ∧ Mch w H2 C2 b2 m2 o2 M2 ∧ (w0.heap.size ≤ H1.p ∧ w0.heap.size ≤ b1 ∧ w0.heap.size ≤ m1) ∧ (w0.heap.size ≤ H2.p ∧ w0.heap.size ≤ b2 ∧ w0.heap.size ≤ m2) ∧ Apt H1.p b1 m1 H2 b2 m2 o2 ∧ Apt H2.p b2 m2 H1 b1 m1 o1
section
variable {w0 w u : World} {t : Nat} {H1 H2 : Wh} {C1 C2 : Mx} {o1 o2 : Option Nat} {M1 M2 M' : List Pl}
theorem Pair.swap (h : Pair w0 t H1 H2 C1 C2 o1 o2 M1 M2 w) : Pair w0 t H2 H1 C2 C1 o2 o1 M2 M1 w := by
 obtain ⟨h1, ⟨t0, t1, t2, t3, t4, t5, t6, t7, t8, t9⟩, b1, m1, b2, m2, k1, k2, k3, k4, k5, k6⟩ := h
 exact ⟨h1, ⟨t0, t1, t3, t2, t6, t7, t4, t5, t9, t8⟩, b2, m2, b1, m1, k2, k1, k4, k3, k6, k5⟩
theorem Pair.below (h : Pair w0 t H1 H2 C1 C2 o1 o2 M1 M2 w) (k : Below w.heap.size w u) : Pair w0 t H1 H2 C1 C2 o1 o2 M1 M2 u := by
 obtain ⟨h1, h2, b1, m1, b2, m2, k1, k2, k3, k4, k5, k6⟩ := h
 have := k.size
 exact ⟨h1.trans (k.mono h1.size), ⟨by omega, h2.2⟩, b1, m1, b2, m2, k1.below k (Nat.le_refl _), k2.below k (Nat.le_refl _), k3, k4, k5, k6⟩
theorem Pair.sizes (h : Pair w0 t H1 H2 C1 C2 o1 o2 M1 M2 w) : w0.heap.size ≤ t ∧ t ≤ w.heap.size := ⟨h.top.2.1, h.top.1⟩
theorem Pair.go (h : Pair w0 t H1 H2 C1 C2 o1 o2 M1 M2 w) {b1 m1 b2 m2 : Nat} (_ : Mch w H1 C1 b1 m1 o1 M1) (hm2 : Mch w H2 C2 b2 m2 o2 M2) (hb1 : w0.heap.size ≤ H1.p ∧ w0.heap.size ≤ b1 ∧ w0.heap.size ≤ m1) (hb2 : w0.heap.size ≤ H2.p ∧ w0.heap.size ≤ b2 ∧ w0.heap.size ≤ m2)
  (ha : Apt H1.p b1 m1 H2 b2 m2 o2) (hc : Apt H2.p b2 m2 H1 b1 m1 o1) (g : Goes w H1 C1 b1 m1 M' u) : Pair w0 t H1 H2 C1 C2 none o2 M' M2 u := by
 obtain ⟨b', m', g1, g2, g3⟩ := g
 obtain ⟨t0, t1, t2, t3, t4, t5, t6, t7, t8, t9⟩ := h.top
 have s := g3.size
 have hz := h.low.size
 have l2 := hm2.low
 have lo : ∀ q, o2 = some q → q < w.heap.size := fun q e => Nat.lt_of_lt_of_le (t9 q e) t0
 unfold Grows at g2
 refine ⟨h.low.trans ⟨g3.low.os, g3.low.tape, g3.low.output, g3.low.size, fun j hj => g3.keep j (by omega) (by omega) (by omega) (by omega)⟩, ⟨by omega, t1, t2, t3, t4, t5, t6, t7, (fun q e => by cases e), t9⟩,
  b', m', b2, m2, g1, hm2.but g3 ha, ⟨hb1.1, by omega, by omega⟩, hb2, fun j hj => ?_, fun j hj => ?_⟩
 ·obtain ⟨e1, e2, e3⟩ := ha j hj
  have hj' : j < w.heap.size := by
   rcases hj with rfl | rfl | rfl | rfl | rfl | e
   ·exact l2.1
   ·exact l2.2.1
   ·exact l2.2.2.1
   ·exact l2.2.2.2.1
   ·exact l2.2.2.2.2
   ·exact lo j e
  omega
 ·rcases hj with rfl | rfl | rfl | rfl | rfl | e
  ·exact hc _ (.inl rfl)
  ·rcases g2.1 with e | e
   ·exact hc _ (.inr (.inl e))
   ·omega
  ·rcases g2.2 with e | e
   ·exact hc _ (.inr (.inr (.inl e)))
   ·omega
  ·exact hc _ (.inr (.inr (.inr (.inl rfl))))
  ·exact hc _ (.inr (.inr (.inr (.inr (.inl rfl)))))
  ·cases e
theorem Pair.act (h : Pair w0 t H1 H2 C1 C2 o1 o2 M1 M2 w) {f : Nat} {args : Array Value} {E : Ending}
  (k : ∀ b m, Mch w H1 C1 b m o1 M1 → Calls Tryz.prog f args w fun e w' => e = E ∧ Goes w H1 C1 b m M' w') :
  Calls Tryz.prog f args w fun e w' => e = E ∧ Pair w0 t H1 H2 C1 C2 none o2 M' M2 w' ∧ w.heap.size ≤ w'.heap.size ∧ ∀ L, Own L → Has L w → Has L w' := by
 obtain ⟨b1, m1, b2, m2, k1, k2, k3, k4, k5, k6⟩ := h.two
 refine (k b1 m1 k1).mono ?_
 rintro e w' ⟨rfl, g⟩
 exact ⟨rfl, h.go k1 k2 k3 k4 k5 k6 g, g.size, fun L hL hh => hh.go g k1 hL⟩
theorem Pair.rm (h : Pair w0 t H1 H2 C1 C2 o1 o2 M1 M2 w) : Rm C1 H1 w := by
 obtain ⟨b1, m1, b2, m2, k1, -⟩ := h.two
 exact k1.rm
theorem Pair.put (h : Pair w0 t H1 H2 C1 C2 o1 o2 M1 M2 w) {T : TypeId} {g : Nat} {cs cs0 : Array Value} (hb : BoxV T w g cs0) (hT : T ≠ 112 ∧ T ≠ 85) (hg : t ≤ g) (k : Put T g cs w u) : Pair w0 t H1 H2 C1 C2 o1 o2 M1 M2 u := by
 obtain ⟨h1, ⟨t0, t1, t2, t3, t4, t5, t6, t7, t8, t9⟩, b1, m1, b2, m2, k1, k2, k3, k4, k5, k6⟩ := h
 have s := k.size
 have n1 := k1.not_box hb hT.1
 have n2 := k2.not_box hb hT.1
 have q : ∀ (H : Wh) (C : Mx) (b m : Nat) (o : Option Nat) (M : List Pl), Mch w H C b m o M → H.p < t → H.g < t → H.h < t → (∀ q, o = some q → q < t) → g ≠ b ∧ g ≠ m → Mch u H C b m o M := fun H C b m o M km e1 e2 e3 e4 e5 => by
  obtain ⟨l1, l2, l3, l4, l5⟩ := km.low
  refine ⟨km.ms.keep fun j hj => k.other j ?_, nodes_to km.nds (k.other _ (by omega)) s, ⟨by omega, fun i hi => (cell_of_hp (k.other _ (by omega)) i).trans (km.bks.2 i hi)⟩, km.ap⟩
  rcases hj with rfl | rfl | rfl | e
  ·omega
  ·omega
  ·omega
  ·have := e4 j e; omega
 exact ⟨h1.trans (k.low _ (by omega)), ⟨by omega, t1, t2, t3, t4, t5, t6, t7, t8, t9⟩, b1, m1, b2, m2, q _ _ _ _ _ _ k1 t2 t4 t5 t8 n1, q _ _ _ _ _ _ k2 t3 t6 t7 t9 n2, k3, k4, k5, k6⟩
theorem Pair.begin_no (h : Pair w0 t H1 H2 C1 C2 o1 o2 M1 M2 w) (hT : TOk C1) (z : Int) (hz : ¬ (0 ≤ z ∧ z ≤ C1.s.size)) :
  Calls Tryz.prog 12 #[ptr H1.p, .int .i64 z] w fun e w' => e = .returned (.tuple #[.agg (cfA zCf), .int .i64 1]) ∧ Below w.heap.size w w' :=
 Stp.begin_no H1 C1 z w h.rm hT.sz hz
theorem Pair.begins (h : Pair w0 t H1 H2 C1 C2 o1 o2 M1 M2 w) (hT : TOk C1) (hl : M1.length ≤ 900000) (z : Int) (hz : 0 ≤ z ∧ z ≤ C1.s.size) :
  Calls Tryz.prog 12 #[ptr H1.p, .int .i64 z] w fun e w' => e = .returned (.tuple #[.agg (cfA (beginZ C1 M1 z).1), .int .i64 (beginZ C1 M1 z).2.1]) ∧ Pair w0 t H1 H2 C1 C2 none o2 (beginZ C1 M1 z).2.2 M2 w' ∧ w.heap.size ≤ w'.heap.size ∧ ∀ L, Own L → Has L w → Has L w' :=
 h.act fun b m k => begin_yes H1 C1 b m o1 M1 z w k hT hl hz
structure Sane (C : Mx) (M : List Pl) : Prop where
 ok : TOk C
 wd : ∀ j, j < C.n → (C.l j).k = 1 → WdsN (C.l j)
 frs : FrsOk C M
 wf : Wf M
theorem Pair.next (hLib : Cap.LibA) (h : Pair w0 t H1 H2 C1 C2 none o2 M1 M2 w) (hS : Sane C1 M1) (hl : M1.length ≤ 900000) (x : Cf) :
  Calls Tryz.prog 13 #[ptr H1.p, .agg (cfA x)] w fun e w' => e = .returned (.tuple #[.agg (sqA (nextZ C1 M1 x).1), .int .i64 (nextZ C1 M1 x).2.1]) ∧ Pair w0 t H1 H2 C1 C2 none o2 (nextZ C1 M1 x).2.2 M2 w' ∧ w.heap.size ≤ w'.heap.size ∧ ∀ L, Own L → Has L w → Has L w' :=
 h.act fun b m k => next_any hLib H1 C1 b m M1 x w k hS.ok hS.wd hS.frs hl
theorem Pair.run (hLib : Cap.LibA) (h : Pair w0 t H1 H2 C1 C2 none o2 M1 M2 w) (hS : Sane C1 M1) (f : Nat) (hl : M1.length + 2 * f ≤ 800000) (x : Cf) :
  Calls Tryz.prog 18 #[ptr H1.p, .agg (cfA x), .int .i64 (f : Int)] w fun e w' => e = .returned (.tuple #[.agg (cfA (runF C1 f M1 x f).1.1), .bool (runF C1 f M1 x f).1.2.1, .int .i64 (runF C1 f M1 x f).1.2.2]) ∧ Pair w0 t H1 H2 C1 C2 none o2 (runF C1 f M1 x f).2 M2 w' ∧ w.heap.size ≤ w'.heap.size ∧ ∀ L, Own L → Has L w → Has L w' :=
 h.act fun b m k => run_any hLib H1 C1 hS.ok hS.wd f f (Nat.le_refl _) f b m M1 x w (Nat.le_refl _) k hS.frs hl
theorem Pair.len (h : Pair w0 t H1 H2 C1 C2 o1 o2 M1 M2 w) :
  Calls Tryz.prog 14 #[ptr H1.p] w fun e w' => e = .returned (.int .i64 ((M1.length : Int) - 1)) ∧ Below w.heap.size w w' := by
 obtain ⟨b1, m1, b2, m2, k1, -⟩ := h.two
 exact mlen_any H1 C1 b1 m1 o1 M1 w k1
end
theorem Sane.next {C : Mx} {M : List Pl} (h : Sane C M) (hl : M.length ≤ 900000) (x : Cf) : Sane C (nextZ C M x).2.2 ∧ (nextZ C M x).2.2.length ≤ M.length + 2 := by
 have k := next_keeps h.ok h.wf h.frs hl x
 exact ⟨⟨h.ok, h.wd, k.frs, k.wf⟩, k.len⟩
theorem Sane.run {C : Mx} {M : List Pl} (h : Sane C M) (f : Nat) (hl : M.length + 2 * f ≤ 900000) (x : Cf) : Sane C (runF C f M x f).2 ∧ (runF C f M x f).2.length ≤ M.length + 2 * f := by
 have k := run_ok h.ok f M x f h.wf h.frs hl
 exact ⟨⟨h.ok, h.wd, k.frs, k.wf⟩, k.len⟩
theorem Sane.first {C : Mx} (h : TOk C) (hw : ∀ j, j < C.n → (C.l j).k = 1 → WdsN (C.l j)) : Sane C [(zF, 0)] := ⟨h, hw, fun i h1 h2 => by simp at h2; omega, Frm.Wf.made⟩
theorem begin_res {C : Mx} {M : List Pl} (h : Sane C M) (hl : M.length ≤ 900000) (z : Int) (hz : 0 ≤ z ∧ z ≤ C.s.size) :
  (∃ M1 i, beginZ C M z = (⟨i, z, zrC⟩, 0, M1) ∧ PutsOk M M1 0 [toDo ((C.n : Int) - 1)] i ∧ Sane C M1 ∧ CfOk C M1 ⟨i, z, zrC⟩) ∨ ∃ M1, beginZ C M z = (zCf, 4, M1) ∧ Fails C M M1 := by
 have hT := h.ok
 have hn := hT.n0
 have hwl := h.wf.len
 have fo : FOk C (toDo ((C.n : Int) - 1)) := do_ok (by omega)
 rcases puts_res hT h.wf h.frs (by omega) [toDo ((C.n : Int) - 1)] 0 (fun g hg => by simp at hg; rw [hg]; exact fo) (by simp) (Int.le_refl _) (by omega) with ⟨M1, i, e, k, kf⟩ | ⟨M1, e, k⟩
 ·refine .inl ⟨M1, i, by unfold beginZ; rw [if_pos hz, e]; rfl, k, ⟨hT, h.wd, kf, k.wf⟩, ⟨k.lo, k.hi, hz.1, hz.2, k.lk.ch .zero (fun g hg => by simp at hg; rw [hg]; exact hz.1)⟩⟩
 ·exact .inr ⟨M1, by unfold beginZ; rw [if_pos hz, e]; rfl, k⟩
end Go.Proofs.YteggpecbeagohaaGreatDoor.Stp
namespace Go.Proofs.YteggpecbeagohaaGreatDoor.Stp
open Go.RowKit
open Frm (Fr Pl frC frL frI dpI putF zF Wf mayF idF I64 ptr slc plL plC loadFr storeFr resFB getF sizeFr owns_block)
open Cap (Cp cpC zrC withZ agN agB byB)
open Ast (Nd At12 NodesAt kidsZ)
theorem sizeRf : (Tryz.prog.info? 34).map (·.size) = some 29 := by kernel_rfl
theorem sizeRp : (Tryz.prog.info? 32).map (·.size) = some 27 := by kernel_rfl
section
variable {ops : Array Oper} {rest : List Oper} {o : Oper} {a : Act} {w : World} {Q : Exit → Act → World → Prop} {x y z : Operand} {R : World → Prop}
theorem boxRf (x : Operand) (ho : o.op = .box 34 x) (c : Cf) (hx : a.eval x = .agg (cfA c)) (hw : Region.wanted o (yielded ops a.tmps) = true)
  (h : ∀ u, Hid (New 34 (cfA c) w u) → wpList Tryz.prog ops Q rest (a.put o.dst (.pointer (some ⟨w.heap.size, 0, none⟩))) u) : wpList Tryz.prog ops Q (o :: rest) a w :=
 lineW _ _ hw (by unfold execOp; simp only [ho, hx]; rfl) (h _ (Lib.hid (New.of _ _ _)))
theorem allocRf (ho : o.op = .alloc 34) (hw : Region.wanted o (yielded ops a.tmps) = true)
  (h : ∀ u, Hid (New 34 (cfA zCf) w u) → wpList Tryz.prog ops Q rest (a.put o.dst (.pointer (some ⟨w.heap.size, 0, none⟩))) u) : wpList Tryz.prog ops Q (o :: rest) a w :=
 lineW _ (w.alloc (.cells (cfA zCf) 34)) hw (by unfold execOp; simp only [ho]; kernel_rfl) (h _ (Lib.hid (New.of _ _ _)))
theorem loadRf (hgd : o.guard = none) (x : Operand) (ho : o.op = .load 34 x) (g : Nat) (c : Cf) (hx : a.eval x = .pointer (some ⟨g, 0, none⟩)) (hg : Frm.BoxV 34 w g (cfA c))
  (h : wpList Tryz.prog ops Q rest (a.put o.dst (.agg (cfA c))) w) : wpList Tryz.prog ops Q (o :: rest) a w :=
 wpList_load_row hgd 34 x ho g hx _ _ _ _ hg Tryz.underlying34 rfl sizeRf h
theorem loadRp (hgd : o.guard = none) (x : Operand) (ho : o.op = .load 32 x) (g : Nat) (c : Cf) (hx : a.eval x = .pointer (some ⟨g, 2, none⟩)) (hg : Frm.BoxV 34 w g (cfA c))
  (h : wpList Tryz.prog ops Q rest (a.put o.dst (.agg (cpC c.c))) w) : wpList Tryz.prog ops Q (o :: rest) a w := by
 refine wpList_load_mid hgd 32 x ho g 2 hx (cpC c.c).toList _ (fun i v hv => hg.get _ ?_) Tryz.underlying32 rfl sizeRp h
 rw [cfA, List.getElem?_toArray, Nat.add_comm]
 exact hv
theorem putRf (hgd : o.guard = none) (x y : Operand) (ho : o.op = .store 34 x y) (g : Nat) (c : Cf) (cs : Array Value) (hx : a.eval x = .pointer (some ⟨g, 0, none⟩)) (hy : a.eval y = .agg (cfA c)) (hs : cs.size = 29) (hg : Frm.BoxV 34 w g cs)
  (h : ∀ u, Hid (Put 34 g (cfA c) w u) → wpList Tryz.prog ops Q rest (a.put o.dst undef) u) : wpList Tryz.prog ops Q (o :: rest) a w := by
 refine wpList_store_row hgd 34 x y ho g _ hx hy _ _ hg sizeRf (by rw [hs, cfA_size]) (cfA_one c) ?_
 exact h _ (Lib.hid ⟨setRow_heap w g _ _ _ _ hg, fun B hB => (Below.refl _ w).trans ⟨rfl, rfl, rfl, by simp, fun k hk => setRow_other w g k _ (by omega)⟩, fun k hk => setRow_other w g k _ hk⟩)
theorem bRf (c : Cf) (ho : o.op = .build 34 #[(0, x), (1, y), (2, z)]) (hx : a.eval x = .int .i64 c.f) (hy : a.eval y = .int .i64 c.p) (hz : a.eval z = .agg (cpC c.c)) : (execOp a.eval o).run Tryz.prog w = .ok (.value (.agg (cfA c))) w := by
 unfold execOp
 simp only [ho]
 rw [show (#[(0, x), (1, y), (2, z)] : Array (Nat × Operand)).map (fun (z : Nat × Operand) => match z with | (i, t) => (i, a.eval t)) = #[(0, .int .i64 c.f), (1, .int .i64 c.p), (2, .agg (cpC c.c))] by simp [hx, hy, hz]]
 kernel_rfl
theorem bRf0 (ho : o.op = .build 34 #[]) : (execOp a.eval o).run Tryz.prog w = .ok (.value (.agg (cfA zCf))) w := by
 unfold execOp
 simp only [ho]
 kernel_rfl
theorem bRf_y (c : Cf) (ho : o.op = .build 34 #[(0, x), (1, y), (2, z)]) (hx : a.eval x = .int .i64 c.f) (hy : a.eval y = .int .i64 c.p) (hz : a.eval z = .agg (cpC c.c)) (hw : Region.wanted o (yielded ops a.tmps) = true) : YieldsIf Tryz.prog ops R o (.agg (cfA c)) a :=
 Or.inl ⟨hw, fun _ _ => bRf c ho hx hy hz⟩
theorem resR {fn : Func} {p : Tmp} (h : fn.results = #[.cell p 34]) (tmps : Array Value) {w : World} {g : Nat} {c : Cf} (hp : tmps.getD p undef = .pointer (some ⟨g, 0, none⟩)) (hg : Frm.BoxV 34 w g (cfA c)) :
  (results fn tmps).run Tryz.prog w = .ok (.agg (cfA c)) w := by
 have hp' : tmps[p]?.getD undef = .pointer (some ⟨g, 0, none⟩) := by simpa using hp
 have hl := run_loadVar_row w g _ 34 _ _ _ hg Tryz.underlying34 rfl sizeRf
 simp [results, h, hp', asAddr, hl]
theorem resRE {fn : Func} {p q : Tmp} {v : Value} (h : fn.results = #[.cell p 34, .tmp q]) (tmps : Array Value) {w : World} {g : Nat} {c : Cf} (hp : tmps.getD p undef = .pointer (some ⟨g, 0, none⟩)) (hq : tmps.getD q undef = v) (hg : Frm.BoxV 34 w g (cfA c)) :
  (results fn tmps).run Tryz.prog w = .ok (.tuple #[.agg (cfA c), v]) w := by
 have hp' : tmps[p]?.getD undef = .pointer (some ⟨g, 0, none⟩) := by simpa using hp
 have hq' : tmps[q]?.getD undef = v := by simpa using hq
 have hl := run_loadVar_row w g _ 34 _ _ _ hg Tryz.underlying34 rfl sizeRf
 simp [results, h, hp', hq', asAddr, hl]
end
set_option maxRecDepth 100000 in
theorem stRf_run (g : Nat) (x c : Cf) {w : World} (hg : Frm.BoxV 34 w g (cfA x)) :
  ∃ u, (∀ (o : Oper) (a : Act) (y z : Operand), o.op = .store 34 y z → a.eval y = .pointer (some ⟨g, 0, none⟩) → a.eval z = .agg (cfA c) → (execOp a.eval o).run Tryz.prog w = .ok .skip u) ∧ Put 34 g (cfA c) w u := by
 refine ⟨w.setRow g (cfA c), fun o a y z ho hy hz => ?_, ⟨setRow_heap w g _ _ _ _ hg, fun B hB => (Below.refl _ w).trans ⟨rfl, rfl, rfl, by simp, fun k hk => setRow_other w g k _ (by omega)⟩, fun k hk => setRow_other w g k _ hk⟩⟩
 unfold execOp
 simp only [ho, hy, hz, Instr.storeAt, Instr.sureAddr, Sem.run_bind, Sem.run_pure, Result.andThen_ok, run_storeVar_row w g _ 34 _ (cfA c) hg (by rw [cfA_size]; exact sizeRf) (by rw [cfA_size, cfA_size]) (cfA_one c)]
set_option maxRecDepth 100000 in
set_option maxHeartbeats 4000000 in
theorem conf_any (c : Cf) (w : World) : Calls Tryz.prog 8 #[.agg (cfA c)] w fun e w' => e = .returned (.agg (cfA c)) ∧ Below w.heap.size w w' := by
 go_enter Tryz.func8, Tryz.ntmps8
 go_wp2_with (refine boxCf _ rfl c rfl (by rfl) ?_)
 intro u1 X1
 go_wp2_with (refine allocRf rfl (by rfl) ?_)
 intro u2 X2
 have SZ := Lib.hid X1.out.size
 have L3 := Lib.hid (show Below w.heap.size w u2.drew from (X1.out.low.trans (X2.out.low.mono (by have := SZ.out; omega))).trans ((Below.refl u2.heap.size u2).drew.mono (by have := X1.out.size; have := X2.out.size; omega)))
 have V1 := X1.out.box.below X2.out.low (by have := SZ.out; omega)
 have V2 := X2.out.box
 have hS : (fun u => Frm.BoxV 28 u w.heap.size (cfA c) ∧ ∃ d, Frm.BoxV 34 u u1.heap.size (cfA d)) u2.drew := ⟨V1, zCf, V2⟩
 clear V1 V2
 clear X1 X2
 go_wp2_with fail
 refine wp_region_held_drew (S := (fun u => Frm.BoxV 28 u w.heap.size (cfA c) ∧ ∃ d, Frm.BoxV 34 u u1.heap.size (cfA d))) (by kernel_rfl) hS (fun _ => ?_)
 refine takeAt 0 3 (.pointer (some ⟨w.heap.size, 0, none⟩)) rfl rfl (by kernel_rfl) (by kernel_rfl) (by kernel_rfl) i_ (yields (by rfl) (fun w => by kernel_rfl)) hS ?_
 simp only [Act.put, sA_, s0_, sS_]
 refine takeAt 1 4 (.int .i64 c.f) rfl rfl (by kernel_rfl) (by kernel_rfl) (by kernel_rfl) i_ (ldI_y w.heap.size 0 _ (fun _ h => h.1.get 0 (cf_get0 c)) rfl rfl (by rfl)) hS ?_
 simp only [Act.put, sA_, s0_, sS_]
 refine takeAt 2 5 (.pointer (some ⟨w.heap.size, 1, none⟩)) rfl rfl (by kernel_rfl) (by kernel_rfl) (by kernel_rfl) i_ (yields (by rfl) (fun w => by kernel_rfl)) hS ?_
 simp only [Act.put, sA_, s0_, sS_]
 refine takeAt 3 6 (.int .i64 c.p) rfl rfl (by kernel_rfl) (by kernel_rfl) (by kernel_rfl) i_ (ldI_y w.heap.size 1 _ (fun _ h => h.1.get 1 (cf_get1 c)) rfl rfl (by rfl)) hS ?_
 simp only [Act.put, sA_, s0_, sS_]
 refine takeAt 4 7 (.pointer (some ⟨w.heap.size, 2, none⟩)) rfl rfl (by kernel_rfl) (by kernel_rfl) (by kernel_rfl) i_ (yields (by rfl) (fun w => by kernel_rfl)) hS ?_
 simp only [Act.put, sA_, s0_, sS_]
 refine takeAt 5 8 (.agg (cpC c.c)) rfl rfl (by kernel_rfl) (by kernel_rfl) (by kernel_rfl) i_ (ldCp_y w.heap.size c (fun _ h => h.1) rfl rfl (by rfl)) hS ?_
 simp only [Act.put, sA_, s0_, sS_]
 refine callAt 6 9 rfl rfl (by kernel_rfl) (by rfl) (by kernel_rfl) (Cap.ref_any c.c _) ?_
 rintro e u4 ⟨rfl, hB⟩
 have hS4 : (fun u => Frm.BoxV 28 u w.heap.size (cfA c) ∧ ∃ d, Frm.BoxV 34 u u1.heap.size (cfA d)) u4 := ⟨hS.1.below hB hS.1.lt, hS.2.elim fun d hd => ⟨d, hd.below hB hd.lt⟩⟩
 have L4 := Lib.hid (L3.out.trans (hB.mono L3.out.size))
 clear hB
 refine ⟨_, rfl, hS4, ?_⟩
 simp only [Act.put, sA_, s0_, sS_]
 refine takeAt 7 10 (.agg (cfA c)) rfl rfl (by kernel_rfl) (by kernel_rfl) (by kernel_rfl) i_ (bRf_y c rfl rfl rfl rfl (by rfl)) hS4 ?_
 simp only [Act.put, sA_, s0_, sS_]
 obtain ⟨d, hd⟩ := hS4.2
 obtain ⟨u5, e5, P5⟩ := stRf_run u1.heap.size d c hd
 have hS5 : (fun u => Frm.BoxV 28 u w.heap.size (cfA c) ∧ ∃ d, Frm.BoxV 34 u u1.heap.size (cfA d)) u5 := ⟨(P5.other _ (by have := SZ.out; omega)).trans hS4.1, c, P5.box⟩
 refine skipAt 8 u5 rfl rfl (by kernel_rfl) (by rfl) (e5 _ _ _ _ rfl rfl rfl) hS5 ?_
 refine wpAnyH_done (by kernel_rfl) ?_ _
 go_wp2_with fail
 refine bodyPost_ret (resR rfl _ (g := u1.heap.size) rfl P5.box) rfl ⟨rfl, ?_⟩
 exact L4.out.trans (P5.low _ (by have := SZ.out; omega))
set_option maxRecDepth 100000 in
set_option maxHeartbeats 8000000 in
theorem rjoin_any (h : Int) (b x : Cf) (i : Bool) (w : World) : Calls Tryz.prog 7 #[.int .i64 h, .agg (cfA b), .agg (cfA x), .bool i] w fun e w' => e = .returned (.tuple #[.agg (cfA (joinZ h b x i).1), .bool (joinZ h b x i).2]) ∧ Below w.heap.size w w' := by
 go_enter Tryz.func7, Tryz.ntmps7
 go_wp2_with (refine boxRf _ rfl b rfl (by rfl) ?_)
 intro u1 X1
 go_wp2_with (refine boxRf _ rfl x rfl (by rfl) ?_)
 intro u2 X2
 go_wp2_with (refine allocRf rfl (by rfl) ?_)
 intro u3 X3
 have s1 := Lib.hid X1.out.size
 have s2 := Lib.hid X2.out.size
 have L3 := Lib.hid (show Below w.heap.size w u3 from (X1.out.low.trans (X2.out.low.mono (by have := s1.out; omega))).trans (X3.out.low.mono (by have := s1.out; have := s2.out; omega)))
 have B3 := Lib.hid ((X1.out.box.below X2.out.low (by have := s1.out; omega)).below X3.out.low (by have := s1.out; have := s2.out; omega))
 have C3 := Lib.hid (X2.out.box.below X3.out.low (by have := s2.out; omega))
 have T3 := Lib.hid X3.out.box
 have SZ := Lib.hid (And.intro s1.out s2.out)
 clear s1 s2 X1 X2 X3
 have b0 := B3.out.get 0 (cf_get0 b)
 have b1 := B3.out.get 1 (cf_get1 b)
 have x1 := C3.out.get 1 (cf_get1 x)
 by_cases h0 : h = 0 ∧ i = true
 ·obtain ⟨rfl, rfl⟩ := h0
  go_wp2_with (first | refine loadRp rfl _ rfl u1.heap.size x rfl C3.out ?_ | refine lineW _ _ (by rfl) (bRf (x.on b.f) rfl rfl rfl rfl) ?_ | refine putRf rfl _ _ rfl u2.heap.size (x.on b.f) (cfA zCf) rfl rfl (cfA_size _) T3.out ?_)
  intro u5 X5
  clear b0 b1 x1
  go_wp2_with fail
  refine bodyPost_ret (resRE rfl _ (g := u2.heap.size) rfl rfl X5.out.box) rfl ⟨rfl, L3.out.trans (X5.out.low _ (by have := SZ.out; omega))⟩
 ·by_cases h1 : h = 1 ∧ i = true
  ·obtain ⟨rfl, rfl⟩ := h1
   clear h0
   go_wp2_with (first | refine loadRp rfl _ rfl u1.heap.size x rfl C3.out ?_ | refine lineW _ _ (by rfl) (bRf ⟨b.f, b.p, x.c⟩ rfl rfl rfl rfl) ?_ | refine putRf rfl _ _ rfl u2.heap.size ⟨b.f, b.p, x.c⟩ (cfA zCf) rfl rfl (cfA_size _) T3.out ?_)
   intro u5 X5
   clear b0 b1 x1
   go_wp2_with fail
   refine bodyPost_ret (resRE rfl _ (g := u2.heap.size) rfl rfl X5.out.box) rfl ⟨rfl, L3.out.trans (X5.out.low _ (by have := SZ.out; omega))⟩
  ·by_cases h2 : h = 2 ∧ i = false
   ·obtain ⟨rfl, rfl⟩ := h2
    clear h0 h1 b0 b1 x1
    go_wp2_with (first | refine loadRf rfl _ rfl w.heap.size b rfl B3.out ?_ | refine putRf rfl _ _ rfl u2.heap.size b (cfA zCf) rfl rfl (cfA_size _) T3.out ?_)
    intro u5 X5
    go_wp2_with fail
    refine bodyPost_ret (resRE rfl _ (g := u2.heap.size) rfl rfl X5.out.box) rfl ⟨rfl, L3.out.trans (X5.out.low _ (by have := SZ.out; omega))⟩
   ·have EZ := Lib.hid (joinZ_no h0 h1 h2 b x)
    have k0 : (h == 0) = false ∨ i = false := by
     by_cases e : h = 0
     ·exact .inr (by cases i <;> simp_all)
     ·exact .inl (by simpa using e)
    have k1 : (h == 1) = false ∨ i = false := by
     by_cases e : h = 1
     ·exact .inr (by cases i <;> simp_all)
     ·exact .inl (by simpa using e)
    have k2 : (h == 2) = false ∨ i = true := by
     by_cases e : h = 2
     ·exact .inr (by cases i <;> simp_all)
     ·exact .inl (by simpa using e)
    clear h0 h1 h2 b0 b1 x1
    cases i with
    | true =>
      replace k0 : (h == 0) = false := k0.elim id (fun e => by cases e)
      replace k1 : (h == 1) = false := k1.elim id (fun e => by cases e)
      clear k2
      cases hk : (h == 2)
      all_goals
       go_wp2_with (first | refine lineW _ _ (by rfl) (bRf0 rfl) ?_ | refine putRf rfl _ _ rfl u2.heap.size zCf (cfA zCf) rfl rfl (cfA_size _) T3.out ?_)
       intro u5 X5
       go_wp2_with fail
       refine bodyPost_ret (resRE rfl _ (g := u2.heap.size) rfl rfl X5.out.box) rfl ⟨?_, L3.out.trans (X5.out.low _ (by have := SZ.out; omega))⟩
       rw [EZ.out]; rfl
    | false =>
      replace k2 : (h == 2) = false := k2.elim id (fun e => by cases e)
      clear k0 k1
      cases hk : (h == 0) <;> cases hk1 : (h == 1)
      all_goals
       go_wp2_with (first | refine lineW _ _ (by rfl) (bRf0 rfl) ?_ | refine putRf rfl _ _ rfl u2.heap.size zCf (cfA zCf) rfl rfl (cfA_size _) T3.out ?_)
       intro u5 X5
       go_wp2_with fail
       refine bodyPost_ret (resRE rfl _ (g := u2.heap.size) rfl rfl X5.out.box) rfl ⟨?_, L3.out.trans (X5.out.low _ (by have := SZ.out; omega))⟩
       rw [EZ.out]; rfl
end Go.Proofs.YteggpecbeagohaaGreatDoor.Stp
namespace Go.Proofs.YteggpecbeagohaaGreatDoor.Stp
open Go.RowKit
open Frm (Fr Pl frC frL frI dpI putF zF)
open Cap (Cp cpC zrC eqIs eqAt)
theorem eqFlds_same {P : Program} (w : World) (d : Nat) (xs : Array Value) : ∀ fs : List Field, (∀ f, f ∈ fs → ∃ a, (part f.type xs f.offset).run P w = .ok a w ∧ (Op.equalIn d f.type a a).run P w = .ok true w) → (Op.eqFields d xs xs fs).run P w = .ok true w
 | [], _ => by simp [Op.eqFields]
 | f :: r, h => by
   obtain ⟨a, h1, h2⟩ := h f (by simp)
   have ih := eqFlds_same w d xs r fun g hg => h g (by simp [hg])
   by_cases hf : f.name = "_"
   ·simp [Op.eqFields, hf, ih]
   ·simp [Op.eqFields, hf, Sem.run_bind, h1, h2, Result.andThen_ok, ih]
theorem part_sub {T : TypeId} {k : Nat} (xs ys : Array Value) (o : Nat) (w : World) (h1 : (Tryz.prog.info? T).map (·.size) = some k) (h2 : ∃ fs, Tryz.prog.underlying T = some (.struct fs)) (h3 : xs.extract o (o + k) = ys) : (part T xs o).run Tryz.prog w = .ok (.agg ys) w := by
 obtain ⟨fs, h2⟩ := h2
 obtain ⟨i, hi⟩ : ∃ i, Tryz.prog.info? T = some i := by
  cases h : Tryz.prog.info? T with
  | none => rw [h] at h1; cases h1
  | some i => exact ⟨i, rfl⟩
 have e : Tryz.prog.cellsOf T = k := by
  unfold Program.cellsOf
  rw [hi] at h1 ⊢
  simpa using h1
 simp [part, isAgg, run_underlying h2, run_sizeOf w hi, Result.andThen_ok, go_sem, e, h3]
theorem part_arr {T E : TypeId} {n k : Nat} (xs ys : Array Value) (o : Nat) (w : World) (h1 : (Tryz.prog.info? T).map (·.size) = some k) (h2 : Tryz.prog.underlying T = some (.array n E)) (h3 : xs.extract o (o + k) = ys) : (part T xs o).run Tryz.prog w = .ok (.agg ys) w := by
 obtain ⟨i, hi⟩ : ∃ i, Tryz.prog.info? T = some i := by
  cases h : Tryz.prog.info? T with
  | none => rw [h] at h1; cases h1
  | some i => exact ⟨i, rfl⟩
 have e : Tryz.prog.cellsOf T = k := by
  unfold Program.cellsOf
  rw [hi] at h1 ⊢
  simpa using h1
 simp [part, isAgg, run_underlying h2, run_sizeOf w hi, Result.andThen_ok, go_sem, e, h3]
theorem size2 : (Tryz.prog.info? 22).map (·.size) = some 9 := by kernel_rfl
theorem size3 : (Tryz.prog.info? 24).map (·.size) = some 18 := by kernel_rfl
def isA (c : Cp) : Array Value := #[.bool (c.is 0), .bool (c.is 1), .bool (c.is 2), .bool (c.is 3), .bool (c.is 4), .bool (c.is 5), .bool (c.is 6), .bool (c.is 7), .bool (c.is 8)]
def atA (c : Cp) : Array Value := #[.int .i64 (c.fr 0), .int .i64 (c.to 0), .int .i64 (c.fr 1), .int .i64 (c.to 1), .int .i64 (c.fr 2), .int .i64 (c.to 2), .int .i64 (c.fr 3), .int .i64 (c.to 3), .int .i64 (c.fr 4), .int .i64 (c.to 4), .int .i64 (c.fr 5), .int .i64 (c.to 5), .int .i64 (c.fr 6), .int .i64 (c.to 6), .int .i64 (c.fr 7), .int .i64 (c.to 7), .int .i64 (c.fr 8), .int .i64 (c.to 8)]
theorem all_same9 (f : Nat → Bool) : ((List.range 9).all fun j => f j == f j) = true := by simp
theorem all_sameA (f g : Nat → Int) : ((List.range 9).all fun j => f j == f j && g j == g j) = true := by simp
theorem eqCp_same (T : TypeId) (hT : T = 26 ∨ T = 32) (m : Nat) (c : Cp) (w : World) : (Op.equalIn (m + 4) T (.agg (cpC c)) (.agg (cpC c))).run Tryz.prog w = .ok true w := by
 have hF : (Tryz.prog.fieldsOf T).toList.map (fun f => (f.type, f.offset)) = [(22, 0), (24, 9)] := by rcases hT with rfl | rfl <;> kernel_rfl
 rw [show m + 4 = (m + 3) + 1 from rfl]
 refine (run_equalIn_agg w (m + 3) T _ _ (by rcases hT with rfl | rfl <;> kernel_rfl) (by rcases hT with rfl | rfl <;> kernel_rfl)).trans (eqFlds_same w _ _ _ fun f hf => ?_)
 have hm := List.mem_map_of_mem (f := fun f : Field => (f.type, f.offset)) hf
 rw [hF] at hm
 simp only [List.mem_cons, List.not_mem_nil, or_false, Prod.mk.injEq] at hm
 rcases hm with ⟨e1, e2⟩ | ⟨e1, e2⟩
 ·rw [e1, e2]
  refine ⟨.agg (isA c), part_arr _ _ _ w size2 Tryz.underlying22 (by kernel_rfl), ?_⟩
  exact (eqIs (m + 1) c.is c.is w).trans (by rw [all_same9])
 ·rw [e1, e2]
  refine ⟨.agg (atA c), part_arr _ _ _ w size3 Tryz.underlying24 (by kernel_rfl), ?_⟩
  exact (eqAt m c.fr c.to c.fr c.to w).trans (by rw [all_sameA])
theorem int_part (xs : Array Value) (o : Nat) (n : Int) (w : World) (h : xs[o]? = some (.int .i64 n)) : (part 3 xs o).run Tryz.prog w = .ok (.int .i64 n) w :=
 run_part_plain (P := Tryz.prog) w (e := 3) (by kernel_rfl) h
theorem cap_ext (c : Cf) : (cfA c).extract 2 (2 + 27) = cpC c.c := by kernel_rfl
theorem sizeC1 : (Tryz.prog.info? 26).map (·.size) = some 27 := by kernel_rfl
theorem sizeC2 : (Tryz.prog.info? 32).map (·.size) = some 27 := by kernel_rfl
theorem eqCf_same (T U : TypeId) (hT : T = 28 ∧ U = 26 ∨ T = 34 ∧ U = 32) (m : Nat) (c : Cf) (w : World) : (Op.equalIn (m + 5) T (.agg (cfA c)) (.agg (cfA c))).run Tryz.prog w = .ok true w := by
 have hF : (Tryz.prog.fieldsOf T).toList.map (fun f => (f.type, f.offset)) = [(3, 0), (3, 1), (U, 2)] := by rcases hT with ⟨rfl, rfl⟩ | ⟨rfl, rfl⟩ <;> kernel_rfl
 rw [show m + 5 = (m + 4) + 1 from rfl]
 refine (run_equalIn_agg w (m + 4) T _ _ (by rcases hT with ⟨rfl, rfl⟩ | ⟨rfl, rfl⟩ <;> kernel_rfl) (by rcases hT with ⟨rfl, rfl⟩ | ⟨rfl, rfl⟩ <;> kernel_rfl)).trans (eqFlds_same w _ _ _ fun f hf => ?_)
 have hm := List.mem_map_of_mem (f := fun f : Field => (f.type, f.offset)) hf
 rw [hF] at hm
 simp only [List.mem_cons, List.not_mem_nil, or_false, Prod.mk.injEq] at hm
 rcases hm with ⟨e1, e2⟩ | ⟨e1, e2⟩ | ⟨e1, e2⟩
 ·rw [e1, e2]
  exact ⟨_, int_part _ _ _ w (cf_get0 c), (run_equalIn_int w (m + 3) _ _ _ _ _ Tryz.underlying3).trans (by simp)⟩
 ·rw [e1, e2]
  exact ⟨_, int_part _ _ _ w (cf_get1 c), (run_equalIn_int w (m + 3) _ _ _ _ _ Tryz.underlying3).trans (by simp)⟩
 ·rw [e1, e2]
  refine ⟨.agg (cpC c.c), ?_, eqCp_same U (hT.elim (fun h => .inl h.2) (fun h => .inr h.2)) m c.c w⟩
  rcases hT with ⟨-, rfl⟩ | ⟨-, rfl⟩
  ·exact part_sub _ _ _ w sizeC1 ⟨_, Tryz.underlying26⟩ (cap_ext c)
  ·exact part_sub _ _ _ w sizeC2 ⟨_, Tryz.underlying32⟩ (cap_ext c)
theorem eqlRf (c : Cf) (w : World) : (binOp .eql 34 (.agg (cfA c)) (.agg (cfA c))).run Tryz.prog w = .ok (.bool true) w := by
 rw [run_eql_struct, eqCf_same _ _ (.inr ⟨rfl, rfl⟩) 9995]
 rfl
end Go.Proofs.YteggpecbeagohaaGreatDoor.Stp
