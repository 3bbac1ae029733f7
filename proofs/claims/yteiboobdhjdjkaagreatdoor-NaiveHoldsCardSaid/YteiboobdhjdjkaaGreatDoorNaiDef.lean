import Derived.Test.YteiboobdhjdjkaaGreatDoorNaiMathM
namespace Go.Proofs.YteiboobdhjdjkaaGreatDoor.Nai
open Go.RowKit
open Ast (Nd At12 NodesAt kidsZ)
open Cap (Cp withZ cpC BoxV)
inductive Kon where
 | root
 | cat (b : Re) (k : Kon)
 | grp (g : Int) (p : Nat) (k : Kon)
 | turn (x : Nd) (a : Re) (j p : Nat) (k : Kon)
inductive Tas where
 | tell (r : Re) (y : Sp) (k : Kon)
 | on (x : Nd) (a : Re) (j : Nat) (y : Sp) (k : Kon)
 | fin (y : Sp) (k : Kon)
def kE (s : ByteArray) : Kon → Sp → Ev
 | .root, y => [some y]
 | .cat b k, y => evB (outsE s b y) (kE s k)
 | .grp g p k, y => kE s k (y.1, (withZ y.2 g p y.1).1)
 | .turn x a j p k, z => evB (onE s.size (outsE s a) x.mn x.mx (decide (x.md = 1)) j p z) (kE s k)
def tE (s : ByteArray) : Tas → Ev
 | .tell r y k => evB (outsE s r y) (kE s k)
 | .on x a j y k => evB (outsE s a y) (kE s (.turn x a j y.1 k))
 | .fin y k => kE s k y
def sE (s : ByteArray) (l : List Tas) : Ev := l.flatMap fun t => none :: tE s t
theorem sE_nil (s : ByteArray) : sE s [] = [] := rfl
theorem sE_cons (s : ByteArray) (t : Tas) (l : List Tas) : sE s (t :: l) = none :: (tE s t ++ sE s l) := by simp [sE]
theorem sE_app (s : ByteArray) (k l : List Tas) : sE s (k ++ l) = sE s k ++ sE s l := by simp [sE]
theorem sE_len (s : ByteArray) (l : List Tas) : l.length ≤ (sE s l).length := by
 induction l with
 | nil => exact Nat.le_refl _
 | cons t l ih => rw [sE_cons]; simp only [List.length_cons, List.length_append]; omega
def Re.root : Re → Nd
 | .leaf x => x
 | .one x _ _ => x
 | .two x _ _ => x
def IsRe (l : Nat → Nd) (bk : Nat → Nat) (n : Nat) : Re → Prop
 | .leaf x => kidsZ x.k = 0
 | .one x b a => kidsZ x.k = 1 ∧ (∃ i, i < n ∧ x.a = (i : Int) ∧ l i = a.root ∧ (x.k = 13 ∨ x.k = 14 ∨ x.k = 15 ∨ x.k = 16 → bk i = b)) ∧ IsRe l bk n a
 | .two x a b => kidsZ x.k = 2 ∧ (∃ i, i < n ∧ x.a = (i : Int) ∧ l i = a.root) ∧ IsRe l bk n a ∧ (∃ i, i < n ∧ x.b = (i : Int) ∧ l i = b.root) ∧ IsRe l bk n b
def WdsN (x : Nd) : Prop := x.s0 = W (setN x) 0 ∧ x.s1 = W (setN x) 1 ∧ x.s2 = W (setN x) 2 ∧ x.s3 = W (setN x) 3
def Re.fine : Re → Prop
 | .leaf x => x.k = 1 → WdsN x
 | .two _ a b => a.fine ∧ b.fine
 | .one x _ a => (x.k = 10 → RepOk x.mn x.mx ∧ 0 ≤ x.mn ∧ x.mn ≤ 100 ∧ x.mx ≤ 100 ∧ 0 ≤ x.md ∧ x.md ≤ 2) ∧ a.fine
theorem Re.fine.reps : ∀ {r : Re}, r.fine → r.reps
 | .leaf _, _ => trivial
 | .two _ _ _, h => ⟨Re.fine.reps h.1, Re.fine.reps h.2⟩
 | .one _ _ _, h => ⟨fun e => (h.1 e).1, Re.fine.reps h.2⟩
def Re.sz : Re → Nat
 | .leaf _ => 1
 | .two _ a b => a.sz + b.sz + 3
 | .one x _ a => a.sz + (if x.k = 10 ∧ x.md = 2 then 3 else 2)
def Re.lite (n : Nat) : Re → Prop
 | .leaf _ => True
 | .two x a b => a.lite n ∧ b.lite n ∧ (work n (.two x a b)).1 ≤ 1000000
 | .one x bk a => (¬ (x.k = 10 ∧ x.mx = 0) → a.lite n) ∧ (work n (.one x bk a)).1 ≤ 1000000
theorem work_out (n : Nat) : ∀ r : Re, 1 ≤ (work n r).2 ∧ (work n r).2 ≤ (work n r).1
 | .leaf _ => ⟨Nat.le_refl _, Nat.le_refl _⟩
 | .two x a b => by
   have ha := work_out n a
   have hb := work_out n b
   unfold work
   split
   ·refine ⟨Nat.mul_pos ha.1 hb.1, ?_⟩
    have := Nat.mul_le_mul_left (work n a).2 hb.2
    simp only []; omega
   ·simp only []; omega
 | .one x bk a => by
   have ha := work_out n a
   rw [work_one]
   split
   ·rename_i hk
    have hp := pows_pos (work n a).2 (most n x.mn x.mx)
    have hle : pows (work n a).2 (most n x.mn x.mx + 1) ≤ 1 + ((work n a).1 + 1) * pows (work n a).2 (tries n x.mn x.mx) := by
     have hm : most n x.mn x.mx ≤ tries n x.mn x.mx := by unfold most tries; split <;> omega
     have h1 := Nat.mul_le_mul (Nat.le_succ_of_le ha.2) (pows_mono (work n a).2 _ _ hm)
     rw [show pows (work n a).2 (most n x.mn x.mx + 1) = 1 + (work n a).2 * pows (work n a).2 (most n x.mn x.mx) from rfl]
     exact Nat.add_le_add_left h1 1
    refine ⟨?_, ?_⟩
    ·show 1 ≤ if x.md = 2 then 1 else _
     split
     ·exact Nat.le_refl _
     ·exact hp
    ·show (if x.md = 2 then 1 else _) ≤ _
     split
     ·exact Nat.le_add_right _ _
     ·exact hle
   ·split
    ·simp only []; omega
    ·simp only []; omega
theorem lite_of (n : Nat) : ∀ r : Re, (∀ x bk a, r = .one x bk a → True) → r.reps → (work n r).1 ≤ 1000000 → r.lite n
 | .leaf _, _, _, _ => trivial
 | .two x a b, _, hr, h => by
   have ha := work_out n a
   have hb := work_out n b
   refine ⟨lite_of n a (fun _ _ _ _ => trivial) hr.1 ?_, lite_of n b (fun _ _ _ _ => trivial) hr.2 ?_, h⟩
   ·unfold work at h; split at h <;> (simp only [] at h; omega)
   ·unfold work at h
    split at h
    ·have := Nat.mul_le_mul_right (work n b).1 ha.1
     simp only [] at h; omega
    ·simp only [] at h; omega
 | .one x bk a, _, hr, h => by
   refine ⟨fun hc => lite_of n a (fun _ _ _ _ => trivial) hr.2 ?_, h⟩
   rw [work_one] at h
   split at h
   ·rename_i hk
    have ht : ∃ t, tries n x.mn x.mx = t + 1 := by
     have := hr.1 hk
     unfold RepOk at this
     refine ⟨tries n x.mn x.mx - 1, ?_⟩
     unfold tries
     split
     ·have : x.mx ≠ 0 := fun e => hc ⟨hk, e⟩
      omega
     ·omega
    obtain ⟨t, ht⟩ := ht
    rw [ht] at h
    have hp := pows_pos (work n a).2 t
    have := Nat.mul_le_mul_left ((work n a).1 + 1) hp
    simp only [] at h; omega
   ·split at h <;> (simp only [] at h; omega)
theorem lite_work {n : Nat} : ∀ {r : Re}, r.lite n → (work n r).1 ≤ 1000000
 | .leaf _, _ => by show 1 ≤ _; omega
 | .two _ _ _, h => h.2.2
 | .one _ _ _, h => h.2
def Kon.sz : Kon → Nat
 | .root => 0
 | .cat b k => b.sz + k.sz + 1
 | .grp _ _ k => k.sz + 1
 | .turn _ _ _ _ k => k.sz + 1
structure Ext (X Y : Nat → Prop) (w w' : World) : Prop where
 below : Below 0 w w'
 keep : ∀ b, b < w.heap.size → ¬ X b → w'.heap[b]? = w.heap[b]? ∧ ¬ Y b
 mono : ∀ b, X b → Y b
theorem Ext.refl (X : Nat → Prop) (w : World) : Ext X X w w := ⟨Below.refl _ _, fun _ _ h => ⟨rfl, h⟩, fun _ h => h⟩
theorem Ext.trans {X Y Z : Nat → Prop} {u v w : World} (h : Ext X Y u v) (k : Ext Y Z v w) : Ext X Z u w :=
 ⟨h.below.trans (k.below.mono (Nat.zero_le _)), fun b hb hx => by
  obtain ⟨h1, h2⟩ := h.keep b hb hx
  obtain ⟨k1, k2⟩ := k.keep b (Nat.lt_of_lt_of_le hb h.below.size) h2
  exact ⟨k1.trans h1, k2⟩, fun b hb => k.mono b (h.mono b hb)⟩
theorem Ext.call {X : Nat → Prop} {w w' : World} (h : Below w.heap.size w w') : Ext X X w w' := ⟨h.mono (Nat.zero_le _), fun b hb hx => ⟨h.block b hb, hx⟩, fun _ h => h⟩
theorem Ext.more (X Z : Nat → Prop) (w : World) (h : ∀ b, Z b → w.heap.size ≤ b ∨ X b) : Ext X (fun b => X b ∨ Z b) w w :=
 ⟨Below.refl _ _, fun b hb hx => ⟨rfl, fun e => by
  rcases e with e | e
  ·exact hx e
  ·rcases h b e with h1 | h1
   ·omega
   ·exact hx h1⟩, fun _ h => .inl h⟩
theorem Ext.alloc (X : Nat → Prop) (w : World) (o : Obj) : Ext X X w (w.alloc o) := .call ((Below.refl _ w).alloc (Nat.le_refl _) o)
structure BoxI (X : Nat → Prop) (w : World) (T : TypeId) (b : Nat) (cs : Array Value) : Prop where
 box : BoxV T w b cs
 not : ¬ X b
section
variable {X Y : Nat → Prop} {w w' : World} {T : TypeId} {b : Nat} {cs : Array Value}
theorem BoxI.ext (h : BoxI X w T b cs) (k : Ext X Y w w') : BoxI Y w' T b cs := ⟨(k.keep b h.box.lt h.not).1.trans h.box, (k.keep b h.box.lt h.not).2⟩
end
def NdP (X : Nat → Prop) (w : World) (p : Addr) (x : Nd) : Prop := ∃ b o, p = ⟨b, o, none⟩ ∧ b < w.heap.size ∧ ¬ X b ∧ At12 w b o x
theorem cell_ext {X Y : Nat → Prop} {w w' : World} (k : Ext X Y w w') {b : Nat} (hb : b < w.heap.size) (hx : ¬ X b) (j : Nat) : w'.cell? ⟨b, j, none⟩ = w.cell? ⟨b, j, none⟩ := by
 unfold World.cell?
 rw [show (⟨b, j, none⟩ : Addr).block = b from rfl, (k.keep b hb hx).1]
theorem NdP.ext {X Y : Nat → Prop} {w w' : World} {p : Addr} {x : Nd} (h : NdP X w p x) (k : Ext X Y w w') : NdP Y w' p x := by
 obtain ⟨b, o, rfl, h1, h2, h3⟩ := h
 exact ⟨b, o, rfl, Nat.lt_of_lt_of_le h1 k.below.size, (k.keep b h1 h2).2, h3.keep fun j => cell_ext k h1 h2 j⟩
abbrev ptr (b : Nat) : Value := .pointer (some ⟨b, 0, none⟩)
abbrev spV (y : Sp) (q : Nat) : Value := .agg #[.int .i64 (y.1 : Int), ptr q]
def SpAt (X : Nat → Prop) (w : World) (v : Value) (y : Sp) : Prop := ∃ q, v = spV y q ∧ BoxI X w 44 q (cpC y.2)
def XBox (X : Nat → Prop) (w : World) (b : Nat) (y : Sp) : Prop := ∃ q, BoxI X w 93 b #[.int .i64 (y.1 : Int), ptr q] ∧ BoxI X w 44 q (cpC y.2)
def NBox (X : Nat → Prop) (w : World) (b : Nat) (x : Nd) : Prop := ∃ p, BoxI X w 129 b #[.pointer (some p)] ∧ NdP X w p x
def SBox (X : Nat → Prop) (w : World) (g b : Nat) : Prop := BoxI X w 169 b #[ptr g]
def FBox (X : Nat → Prop) (w : World) (b : Nat) (v : Value) : Prop := BoxI X w 174 b #[v]
section
variable {X Y : Nat → Prop} {w w' : World} {b g : Nat} {y : Sp} {x : Nd} {v : Value}
theorem SpAt.ext (h : SpAt X w v y) (k : Ext X Y w w') : SpAt Y w' v y := by obtain ⟨q, h1, h2⟩ := h; exact ⟨q, h1, h2.ext k⟩
theorem XBox.ext (h : XBox X w b y) (k : Ext X Y w w') : XBox Y w' b y := by obtain ⟨q, h1, h2⟩ := h; exact ⟨q, h1.ext k, h2.ext k⟩
theorem NBox.ext (h : NBox X w b x) (k : Ext X Y w w') : NBox Y w' b x := by obtain ⟨q, h1, h2⟩ := h; exact ⟨q, h1.ext k, h2.ext k⟩
theorem SBox.ext (h : SBox X w g b) (k : Ext X Y w w') : SBox Y w' g b := BoxI.ext h k
theorem FBox.ext (h : FBox X w b v) (k : Ext X Y w w') : FBox Y w' b v := BoxI.ext h k
end
structure Rd where
 rb : Nat
 nb : Nat
 no : Nat
 n : Nat
 cap : Nat
 kb : Nat
 kc : Nat
 l : Nat → Nd
 bk : Nat → Nat
 s : ByteArray
 N : Nat
structure RdAt (R : Rd) (X : Nat → Prop) (w : World) : Prop where
 box : BoxI X w 127 R.rb #[.slice (some ⟨R.nb, R.no, none⟩) R.n R.cap, .slice (some ⟨R.kb, 0, none⟩) R.n R.kc, .string R.s]
 nod : NodesAt w R.nb R.no R.n R.l
 nodX : ¬ X R.nb
 bkl : R.kb < w.heap.size
 bkX : ¬ X R.kb
 bkc : ∀ i, i < R.n → w.cell? ⟨R.kb, i, none⟩ = some (.int .i64 (R.bk i : Int))
theorem RdAt.ext {R : Rd} {X Y : Nat → Prop} {w w' : World} (h : RdAt R X w) (k : Ext X Y w w') : RdAt R Y w' where
 box := h.box.ext k
 nod := ⟨Nat.lt_of_lt_of_le h.nod.1 k.below.size, fun i hi => (h.nod.2 i hi).keep fun j => cell_ext k h.nod.1 h.nodX j⟩
 nodX := (k.keep _ h.nod.1 h.nodX).2
 bkl := Nat.lt_of_lt_of_le h.bkl k.below.size
 bkX := (k.keep _ h.bkl h.bkX).2
 bkc := fun i hi => (cell_ext k h.bkl h.bkX i).trans (h.bkc i hi)
def Kid (R : Rd) (z : Int) (r : Re) : Prop := ∃ i, i < R.n ∧ z = (i : Int) ∧ R.l i = r.root
structure Re.ok (R : Rd) (r : Re) : Prop where
 is : IsRe R.l R.bk R.n r
 fine : r.fine
 sz : r.sz ≤ R.N
def RepA (R : Rd) (x : Nd) (a : Re) (j p : Nat) : Prop := x.k = 10 ∧ x.md ≠ 2 ∧ Kid R x.a a ∧ a.ok R ∧ (x.mx ≠ 0 → a.lite R.s.size) ∧ (RepOk x.mn x.mx ∧ 0 ≤ x.mn ∧ x.mn ≤ 100 ∧ x.mx ≤ 100 ∧ 0 ≤ x.md ∧ x.md ≤ 2) ∧ (0 ≤ x.mx → (j : Int) ≤ x.mx) ∧ j ≤ x.mn.toNat + p ∧ p ≤ R.s.size
def BBox (X : Nat → Prop) (w : World) (g bb : Nat) (x : Nd) (tv : Value) : Prop :=
 ∃ s n t, BoxI X w 238 bb #[.func (.func 172) #[] #[ptr s, ptr n, ptr bb, ptr t]] ∧ SBox X w g s ∧ NBox X w n x ∧ FBox X w t tv
theorem BBox.ext {X Y : Nat → Prop} {w w' : World} {g bb : Nat} {x : Nd} {tv : Value} (h : BBox X w g bb x tv) (k : Ext X Y w w') : BBox Y w' g bb x tv := by
 obtain ⟨s, n, t, h1, h2, h3, h4⟩ := h; exact ⟨s, n, t, h1.ext k, h2.ext k, h3.ext k, h4.ext k⟩
def KAt (R : Rd) (g : Nat) (rv : Value) (X : Nat → Prop) (w : World) : Kon → Value → Prop
 | .root, v => v = rv
 | .cat b k, v => ∃ s n t x tv, v = .func (.func 136) #[] #[ptr s, ptr n, ptr t] ∧ SBox X w g s ∧ NBox X w n x ∧ Kid R x.b b ∧ b.ok R ∧ b.lite R.s.size ∧ FBox X w t tv ∧ KAt R g rv X w k tv
 | .grp gn p k, v => ∃ n yb t x y tv, v = .func (.func 139) #[] #[ptr n, ptr yb, ptr t] ∧ NBox X w n x ∧ x.n = gn ∧ XBox X w yb y ∧ y.1 = p ∧ p ≤ R.s.size ∧ FBox X w t tv ∧ KAt R g rv X w k tv
 | .turn x a j p k, v => ∃ kb n yb bb y tv, v = .func (.func 174) #[] #[ptr kb, ptr n, ptr yb, ptr bb] ∧ BoxI X w 3 kb #[.int .i64 (j : Int)] ∧ NBox X w n x ∧ XBox X w yb y ∧ y.1 = p ∧ BBox X w g bb x tv ∧ RepA R x a j p ∧ (0 ≤ x.mx → (j : Int) < x.mx) ∧ KAt R g rv X w k tv
def TAt (R : Rd) (g : Nat) (rv : Value) (X : Nat → Prop) (w : World) : Tas → Value → Prop
 | .tell r y k, v => ∃ s n xb t x tv, v = .func (.func 138) #[] #[ptr s, ptr n, ptr xb, ptr t] ∧ SBox X w g s ∧ NBox X w n x ∧ Kid R x.b r ∧ r.ok R ∧ r.lite R.s.size ∧ XBox X w xb y ∧ y.1 ≤ R.s.size ∧ FBox X w t tv ∧ KAt R g rv X w k tv
 | .on x a j y k, v => ∃ s n yb kb bb tv, v = .func (.func 173) #[] #[ptr s, ptr n, ptr yb, ptr kb, ptr bb] ∧ SBox X w g s ∧ NBox X w n x ∧ XBox X w yb y ∧ BoxI X w 3 kb #[.int .i64 (j : Int)] ∧ BBox X w g bb x tv ∧ RepA R x a j y.1 ∧ (0 ≤ x.mx → (j : Int) < x.mx) ∧ KAt R g rv X w k tv
 | .fin y k, v => ∃ t yb tv, v = .func (.func 175) #[] #[ptr t, ptr yb] ∧ FBox X w t tv ∧ KAt R g rv X w k tv ∧ XBox X w yb y ∧ y.1 ≤ R.s.size
theorem KAt.ext {R : Rd} {g : Nat} {rv : Value} {X Y : Nat → Prop} {w w' : World} (e : Ext X Y w w') : ∀ {k : Kon} {v : Value}, KAt R g rv X w k v → KAt R g rv Y w' k v
 | .root, _, h => h
 | .cat b k, v, h => by
   obtain ⟨s, n, t, x, tv, h1, h2, h3, h4, h5, h0, h6, h7⟩ := h
   exact ⟨s, n, t, x, tv, h1, h2.ext e, h3.ext e, h4, h5, h0, h6.ext e, KAt.ext e h7⟩
 | .grp gn p k, v, h => by
   obtain ⟨n, yb, t, x, y, tv, h1, h2, h3, h4, h5, h6, h7, h8⟩ := h
   exact ⟨n, yb, t, x, y, tv, h1, h2.ext e, h3, h4.ext e, h5, h6, h7.ext e, KAt.ext e h8⟩
 | .turn x a j p k, v, h => by
   obtain ⟨kb, n, yb, bb, y, tv, h1, h2, h3, h4, h5, h6, h7, h0, h8⟩ := h
   exact ⟨kb, n, yb, bb, y, tv, h1, h2.ext e, h3.ext e, h4.ext e, h5, h6.ext e, h7, h0, KAt.ext e h8⟩
theorem TAt.ext {R : Rd} {g : Nat} {rv : Value} {X Y : Nat → Prop} {w w' : World} (e : Ext X Y w w') : ∀ {k : Tas} {v : Value}, TAt R g rv X w k v → TAt R g rv Y w' k v
 | .tell r y k, v, h => by
   obtain ⟨s, n, xb, t, x, tv, h1, h2, h3, h4, h5, h0, h6, h7, h8, h9⟩ := h
   exact ⟨s, n, xb, t, x, tv, h1, h2.ext e, h3.ext e, h4, h5, h0, h6.ext e, h7, h8.ext e, KAt.ext e h9⟩
 | .on x a j y k, v, h => by
   obtain ⟨s, n, yb, kb, bb, tv, h1, h2, h3, h4, h5, h6, h7, h0, h8⟩ := h
   exact ⟨s, n, yb, kb, bb, tv, h1, h2.ext e, h3.ext e, h4.ext e, h5.ext e, h6.ext e, h7, h0, KAt.ext e h8⟩
 | .fin y k, v, h => by
   obtain ⟨t, yb, tv, h1, h2, h3, h4, h5⟩ := h
   exact ⟨t, yb, tv, h1, h2.ext e, KAt.ext e h3, h4.ext e, h5⟩
def Ts (R : Rd) (g : Nat) (rv : Value) (X : Nat → Prop) (w : World) : List Tas → List Value → Prop
 | [], [] => True
 | t :: ts, c :: cs => TAt R g rv X w t c ∧ Ts R g rv X w ts cs
 | _, _ => False
theorem Ts.ext {R : Rd} {g : Nat} {rv : Value} {X Y : Nat → Prop} {w w' : World} (e : Ext X Y w w') : ∀ {ts : List Tas} {cs : List Value}, Ts R g rv X w ts cs → Ts R g rv Y w' ts cs
 | [], [], _ => trivial
 | _ :: _, _ :: _, h => ⟨TAt.ext e h.1, Ts.ext e h.2⟩
theorem Ts.len {R : Rd} {g : Nat} {rv : Value} {X : Nat → Prop} {w : World} : ∀ {ts : List Tas} {cs : List Value}, Ts R g rv X w ts cs → ts.length = cs.length
 | [], [], _ => rfl
 | _ :: _, _ :: _, h => by simp [Ts.len h.2]
structure Told (J : List Sp → Bool → (Nat → Prop) → World → Prop) : Prop where
 own : ∀ {pre m O w}, J pre m O w → ∀ b, O b → b < w.heap.size
 keep : ∀ {pre O w w'}, J pre true O w → Below 0 w w' → (∀ b, O b → w'.heap[b]? = w.heap[b]?) → J pre true O w'
 cell : ∀ {pre m O w mb b0} (b : Bool), J pre m O w → BoxV 4 w mb #[.bool b0] → ¬ O mb → J pre m O (w.setCell ⟨mb, 0, none⟩ (.bool b))
structure RunO (R : Rd) (g : Nat) (rv : Value) (J : List Sp → Bool → (Nat → Prop) → World → Prop) (X : Nat → Prop) (w : World) (S : List Tas) (pre : List Sp) (m : Bool) (v : Value) (O : Nat → Prop) (cs : List Value) : Prop where
 rd : RdAt R X w
 gX : X g
 box : BoxV 172 w g #[ptr R.rb, v]
 own : w.ownsRow 0 1 1 v S.length cs
 vX : ∀ b, v.ownBlock = some b → X b ∧ b ≠ g ∧ ¬ O b
 ts : Ts R g rv X w S cs.reverse
 told : J pre m O w
 oX : ∀ b, O b → X b
 og : ¬ O g
 xlt : ∀ b, X b → b < w.heap.size
def Run (R : Rd) (g : Nat) (rv : Value) (J : List Sp → Bool → (Nat → Prop) → World → Prop) (X : Nat → Prop) (w : World) (S : List Tas) (pre : List Sp) (m : Bool) : Prop := ∃ v O cs, RunO R g rv J X w S pre m v O cs
theorem RunO.ext {R : Rd} {g : Nat} {rv : Value} {J : List Sp → Bool → (Nat → Prop) → World → Prop} (hJ : Told J) {X Y : Nat → Prop} {w w' : World} {S : List Tas} {pre : List Sp} {v : Value} {O : Nat → Prop} {cs : List Value}
  (h : RunO R g rv J X w S pre true v O cs) (k : Ext X Y w w') (same : ∀ b, b = g ∨ v.ownBlock = some b ∨ O b → w'.heap[b]? = w.heap[b]?) (hY : ∀ b, Y b → b < w'.heap.size) : RunO R g rv J Y w' S pre true v O cs where
 rd := h.rd.ext k
 gX := k.mono _ h.gX
 box := (same g (.inl rfl)).trans h.box
 own := by
  refine ⟨h.own.1, ?_⟩
  rcases h.own.2 with e | ⟨b, cap, cur, e, h0, h1, h2⟩
  ·exact .inl e
  ·exact .inr ⟨b, cap, cur, e, h0, (same b (.inr (.inl (by rw [e]; rfl)))).trans h1, h2⟩
 vX := fun b hb => ⟨k.mono _ (h.vX b hb).1, (h.vX b hb).2⟩
 ts := h.ts.ext k
 told := hJ.keep h.told k.below (fun b hb => same b (.inr (.inr hb)))
 oX := fun b hb => k.mono _ (h.oX b hb)
 og := h.og
 xlt := hY
theorem RunO.lt {R : Rd} {g : Nat} {rv : Value} {J : List Sp → Bool → (Nat → Prop) → World → Prop} (hJ : Told J) {X : Nat → Prop} {w : World} {S : List Tas} {pre : List Sp} {m : Bool} {v : Value} {O : Nat → Prop} {cs : List Value}
  (h : RunO R g rv J X w S pre m v O cs) : ∀ b, b = g ∨ v.ownBlock = some b ∨ O b → b < w.heap.size := by
 rintro b (rfl | hb | hb)
 ·exact h.box.lt
 ·exact (h.own.lt b hb).2
 ·exact hJ.own h.told b hb
theorem RunO.call {R : Rd} {g : Nat} {rv : Value} {J : List Sp → Bool → (Nat → Prop) → World → Prop} (hJ : Told J) {X : Nat → Prop} {w w' : World} {S : List Tas} {pre : List Sp} {v : Value} {O : Nat → Prop} {cs : List Value}
  (h : RunO R g rv J X w S pre true v O cs) (hb : Below w.heap.size w w') : RunO R g rv J X w' S pre true v O cs := h.ext hJ (.call hb) (fun b e => hb.block b (h.lt hJ b e)) (fun b e => Nat.lt_of_lt_of_le (h.xlt b e) hb.size)
theorem Run.call {R : Rd} {g : Nat} {rv : Value} {J : List Sp → Bool → (Nat → Prop) → World → Prop} (hJ : Told J) {X : Nat → Prop} {w w' : World} {S : List Tas} {pre : List Sp}
  (h : Run R g rv J X w S pre true) (hb : Below w.heap.size w w') : Run R g rv J X w' S pre true := by
 obtain ⟨v, O, cs, h⟩ := h
 exact ⟨v, O, cs, h.call hJ hb⟩
def Does (R : Rd) (g : Nat) (rv : Value) (J : List Sp → Bool → (Nat → Prop) → World → Prop) (X : Nat → Prop) (w : World) (S : List Tas) (pre : List Sp) (E : Ev) (e : Ending) (w' : World) : Prop :=
 ∃ (X' : Nat → Prop) (T : List Tas) (o : Option Sp) (m : Bool), (∃ v, e = .returned v) ∧ Ext X X' w w' ∧ Run R g rv J X' w' (T ++ S) (pre ++ o.toList) m ∧ (o = none → m = true) ∧ E = o.toList.map some ++ sE R.s T
end Go.Proofs.YteiboobdhjdjkaaGreatDoor.Nai
