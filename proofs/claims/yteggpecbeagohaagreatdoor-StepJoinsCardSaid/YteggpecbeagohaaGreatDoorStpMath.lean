import Derived.Test.YteggpecbeagohaaGreatDoorStpDef
namespace Go.Proofs.YteggpecbeagohaaGreatDoor.Stp
open Go.RowKit
open Frm (Fr Pl frC frL frI dpI putF zF Wf mayF idF I64 idF_some idF_none frI_push mayF_x)
open Cap (Cp cpC zrC withZ agN agB)
open Ast (Nd kidsZ siz len)
def Ext (M M1 : List Pl) : Prop := ∃ K, M1 = M ++ K
theorem Ext.refl (M : List Pl) : Ext M M := ⟨[], by simp⟩
theorem Ext.trans {a b c : List Pl} (h : Ext a b) (k : Ext b c) : Ext a c := by
 obtain ⟨x, rfl⟩ := h
 obtain ⟨y, rfl⟩ := k
 exact ⟨x ++ y, by simp⟩
theorem Ext.len {a b : List Pl} (h : Ext a b) : a.length ≤ b.length := by
 obtain ⟨x, rfl⟩ := h
 simp
theorem Ext.get {a b : List Pl} (h : Ext a b) {i : Nat} (hi : i < a.length) : frI b i = frI a i := by
 obtain ⟨x, rfl⟩ := h
 unfold frI
 rw [List.getD_eq_getElem?_getD, List.getD_eq_getElem?_getD, List.getElem?_append_left hi]
theorem mayF_mono {i N : Nat} {a : Fr} (h : mayF i a = true) (hi : i ≤ N) : mayF N a = true := by
 simp only [mayF, decide_eq_true_eq] at h ⊢
 omega
theorem put_found {M : List Pl} (hW : Wf M) {f : Fr} {i : Nat} (h1 : 1 ≤ i) (h2 : i < M.length) (h3 : frI M i = f) (most : Int) : putF most M f = (M, i, 0) := by
 obtain ⟨k1, -, -⟩ := hW.may i h1 h2
 rw [h3] at k1
 have hm := mayF_mono k1 (Nat.le_of_lt h2)
 have hne : idF M f ≠ 0 := fun e => idF_none e i h1 h2 h3
 obtain ⟨j1, j2, j3, -⟩ := idF_some hne
 have e := hW.one _ _ j1 j2 h1 h2 (j3.trans h3.symm)
 unfold putF
 rw [if_pos hm, if_pos hne, e]
structure PutOk (M M1 : List Pl) (f : Fr) (i : Nat) : Prop where
 ext : Ext M M1
 wf : Wf M1
 pos : 1 ≤ i
 lt : i < M1.length
 is : frI M1 i = f
 len : M1.length ≤ M.length + 1
 new : ∀ j, M.length ≤ j → j < M1.length → frI M1 j = f
theorem putF_cases {M : List Pl} (hW : Wf M) {f : Fr} (hi : f.i64) (hm : mayF M.length f = true) (most : Int) :
  (∃ M1 i, putF most M f = (M1, i, 0) ∧ PutOk M M1 f i) ∨ (putF most M f = (M, 0, 4) ∧ (M.length : Int) - 1 = most) := by
 have hl := hW.len
 by_cases h0 : idF M f = 0
 ·by_cases h1 : (M.length : Int) - 1 = most
  ·refine .inr ⟨?_, h1⟩
   unfold putF
   rw [if_pos hm, if_neg (by simpa using h0), if_pos h1]
  ·refine .inl ⟨M ++ [(f, dpI M f.x.toNat + 1)], M.length, ?_, ⟨_, rfl⟩, hW.push hm hi h0, hl, by simp, by rw [frI_push, if_neg (by omega), if_pos rfl], by simp, fun j h2 h3 => ?_⟩
   ·unfold putF
    rw [if_pos hm, if_neg (by simpa using h0), if_neg h1]
   ·simp at h3
    rw [frI_push, if_neg (by omega), if_pos (by omega)]
 ·obtain ⟨j1, j2, j3, -⟩ := idF_some h0
  refine .inl ⟨M, idF M f, put_found hW j1 j2 j3 most, .refl M, hW, j1, j2, j3, by omega, fun j h2 h3 => absurd h3 (by omega)⟩
structure OkF (f : Fr) : Prop where
 k : f.k = 1 ∨ f.k = 2 ∨ f.k = 3
 n : 0 ≤ f.n ∧ f.n ≤ 1000000
 t : 0 ≤ f.t ∧ f.t ≤ 1000000
 f : 0 ≤ f.f ∧ f.f ≤ 1000000
def withX (f : Fr) (x : Int) : Fr := ⟨f.k, f.n, f.t, f.f, x⟩
theorem OkF.may {f : Fr} (h : OkF f) {x : Int} {N : Nat} (h0 : 0 ≤ x) (h1 : x < N) : mayF N (withX f x) = true := by
 exact decide_eq_true ⟨h.k, h.n.1, h.t.1, h.f.1, h0, h1⟩
theorem OkF.i64 {f : Fr} (h : OkF f) {x : Int} (h0 : 0 ≤ x) (h1 : x ≤ 1000000) : (withX f x).i64 := by
 have := h.k; have := h.n; have := h.t; have := h.f
 unfold Fr.i64 I64 withX
 dsimp only
 omega
def Lk (M : List Pl) : Int → List Fr → Int → Prop
 | x, [], i => i = x
 | x, f :: r, i => ∃ j : Nat, 1 ≤ j ∧ j < M.length ∧ frI M j = withX f x ∧ Lk M j r i
theorem Lk.ext {M M1 : List Pl} (h : Ext M M1) : ∀ {fs x i}, Lk M x fs i → Lk M1 x fs i
 | [], _, _, k => k
 | _ :: _, _, _, ⟨j, k1, k2, k3, k4⟩ => ⟨j, k1, Nat.lt_of_lt_of_le k2 h.len, (h.get k2).trans k3, Lk.ext h k4⟩
theorem putsF_cons (most : Int) (M : List Pl) (x : Int) (f : Fr) (r : List Fr) : putsF most M x (f :: r) = if (putF most M (withX f x)).2.2 = 0 then putsF most (putF most M (withX f x)).1 ((putF most M (withX f x)).2.1 : Int) r else ((putF most M (withX f x)).1, 0, (putF most M (withX f x)).2.2) := rfl
structure PutsOk (M M1 : List Pl) (x : Int) (fs : List Fr) (i : Int) : Prop where
 ext : Ext M M1
 wf : Wf M1
 lk : Lk M1 x fs i
 lo : 0 ≤ i
 hi : i < M1.length
 len : M1.length ≤ M.length + fs.length
 new : ∀ j, M.length ≤ j → j < M1.length → ∃ f, f ∈ fs ∧ ∃ y, frI M1 j = withX f y
structure PutsNo (M M1 : List Pl) (most : Int) (fs : List Fr) : Prop where
 ext : Ext M M1
 wf : Wf M1
 len : (M1.length : Int) - 1 = most
 new : ∀ j, M.length ≤ j → j < M1.length → ∃ f, f ∈ fs ∧ ∃ y, frI M1 j = withX f y
theorem putsF_cases (most : Int) : ∀ (fs : List Fr) (M : List Pl) (x : Int), Wf M → (∀ f, f ∈ fs → OkF f) → 0 ≤ x → x < M.length → M.length + fs.length ≤ 1000000 →
  (∃ M1 i, putsF most M x fs = (M1, i, 0) ∧ PutsOk M M1 x fs i) ∨ (∃ M1, putsF most M x fs = (M1, 0, 4) ∧ PutsNo M M1 most fs)
 | [], M, x, hW, _, h0, h1, _ => .inl ⟨M, x, rfl, .refl M, hW, rfl, h0, h1, by simp, fun j h2 h3 => absurd h3 (by omega)⟩
 | f :: r, M, x, hW, hf, h0, h1, hl => by
   rw [putsF_cons]
   simp only [List.length_cons] at hl
   have hf0 := hf f (by simp)
   rcases putF_cases hW (hf0.i64 h0 (by omega)) (hf0.may h0 h1) most with ⟨M1, i, e, k⟩ | ⟨e, k⟩
   ·rw [e, if_pos rfl]
    have hle := k.len
    rcases putsF_cases most r M1 i k.wf (fun g hg => hf g (by simp [hg])) (by omega) (by have := k.lt; omega) (by omega) with ⟨M2, i2, e2, k2⟩ | ⟨M2, e2, k2⟩
    ·refine .inl ⟨M2, i2, e2, k.ext.trans k2.ext, k2.wf, ⟨i, k.pos, Nat.lt_of_lt_of_le k.lt k2.ext.len, (k2.ext.get k.lt).trans k.is, k2.lk⟩, k2.lo, k2.hi, by have := k2.len; simp; omega, fun j h2 h3 => ?_⟩
     by_cases h4 : j < M1.length
     ·exact ⟨f, by simp, x, (k2.ext.get h4).trans (k.new j h2 h4)⟩
     ·obtain ⟨g, hg, y, hy⟩ := k2.new j (by omega) h3
      exact ⟨g, by simp [hg], y, hy⟩
    ·refine .inr ⟨M2, e2, k.ext.trans k2.ext, k2.wf, k2.len, fun j h2 h3 => ?_⟩
     by_cases h4 : j < M1.length
     ·exact ⟨f, by simp, x, (k2.ext.get h4).trans (k.new j h2 h4)⟩
     ·obtain ⟨g, hg, y, hy⟩ := k2.new j (by omega) h3
      exact ⟨g, by simp [hg], y, hy⟩
   ·rw [e, if_neg (by simp)]
    exact .inr ⟨M, rfl, .refl M, hW, k, fun j h2 h3 => absurd h3 (by omega)⟩
theorem putsF_len (most : Int) : ∀ (fs : List Fr) (M : List Pl) (x : Int), M.length ≤ (putsF most M x fs).1.length ∧ (putsF most M x fs).1.length ≤ M.length + fs.length
 | [], M, x => ⟨Nat.le_refl _, Nat.le_refl _⟩
 | f :: r, M, x => by
   have h1 := Frm.put_len most M (withX f x)
   rw [putsF_cons]
   split
   ·have h2 := putsF_len most r (putF most M (withX f x)).1 ((putF most M (withX f x)).2.1 : Int)
    simp only [List.length_cons]
    omega
   ·simp only [List.length_cons]
    omega
end Go.Proofs.YteggpecbeagohaaGreatDoor.Stp
