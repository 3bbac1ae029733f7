import Derived.Test.YteggpecbeagohaaGreatDoorStpOk
namespace Go.Proofs.YteggpecbeagohaaGreatDoor.Stp
open Go.RowKit
open Frm (Fr Pl frC frL frI dpI putF zF Wf mayF idF I64 idF_some idF_none frI_push mayF_x)
open Cap (Cp cpC zrC withZ agN agB)
open Ast (Nd kidsZ siz len)
open Nai (holdB setN)
structure Keeps (C : Mx) (M M1 : List Pl) : Prop where
 ext : Ext M M1
 wf : Wf M1
 frs : FrsOk C M1
 len : M1.length ≤ M.length + 2
section
variable {C : Mx} {M : List Pl} (hT : TOk C) (hW : Wf M) (hF : FrsOk C M) (hl : M.length ≤ 900000)
include hW hF
theorem keeps_refl : Keeps C M M := ⟨.refl M, hW, hF, by omega⟩
include hT hl
theorem puts_keeps (fs : List Fr) (y : Int) (hf : ∀ f, f ∈ fs → FOk C f) (hfs : fs.length ≤ 2) (h0 : 0 ≤ y) (h1 : y < M.length) : Keeps C M (putsF C.most M y fs).1 := by
 have hle := (putsF_len C.most fs M y).2
 rcases puts_res hT hW hF (by omega) fs y hf hfs h0 h1 with ⟨M1, i, e, k, kf⟩ | ⟨M1, e, k⟩
 ·rw [e] at hle ⊢
  exact ⟨k.ext, k.wf, kf, by dsimp only at hle ⊢; omega⟩
 ·rw [e] at hle ⊢
  exact ⟨k.ext, k.wf, k.frs, by dsimp only at hle ⊢; omega⟩
theorem goOn_keeps (y : Cf) (fs : List Fr) (hf : ∀ f, f ∈ fs → FOk C f) (hfs : fs.length ≤ 2) (h0 : 0 ≤ y.f) (h1 : y.f < M.length) : Keeps C M (goOnZ C M y fs).2.2 := by
 have := puts_keeps hT hW hF hl fs y.f hf hfs h0 h1
 unfold goOnZ
 split <;> exact this
theorem within_keeps (y z : Cf) (i : Int) (f : Fr) (hf : FOk C f) : Keeps C M (withinZ C M i f y z).2.2 := by
 have hwl := hW.len
 have := puts_keeps hT hW hF hl [f] 0 (fun g hg => by simp at hg; rw [hg]; exact hf) (by simp) (Int.le_refl _) (by omega)
 unfold withinZ
 split <;> exact this
theorem either_keeps (y : Cf) (nd : Nd) (ha : 0 ≤ nd.a ∧ nd.a < C.n) (hb : 0 ≤ nd.b ∧ nd.b < C.n) (h0 : 0 ≤ y.f) (h1 : y.f < M.length) : Keeps C M (eitherZ C M nd y).2.2 := by
 have k1 := puts_keeps hT hW hF hl [toDo nd.a] y.f (fun g hg => by simp at hg; rw [hg]; exact do_ok ha) (by simp) h0 h1
 have l1 := (putsF_len C.most [toDo nd.a] M y.f)
 simp at l1
 unfold eitherZ
 split
 ·have l2 := (putsF_len C.most [toDo nd.b] (putsF C.most M y.f [toDo nd.a]).1 y.f)
  simp at l2
  have k2 : Keeps C M (putsF C.most (putsF C.most M y.f [toDo nd.a]).1 y.f [toDo nd.b]).1 := by
   rcases puts_res hT k1.wf k1.frs (by omega) [toDo nd.b] y.f (fun g hg => by simp at hg; rw [hg]; exact do_ok hb) (by simp) h0 (by omega) with ⟨M2, j, e, k, kf⟩ | ⟨M2, e, k⟩
   ·rw [e] at l2 ⊢
    exact ⟨k1.ext.trans k.ext, k.wf, kf, by dsimp only at l2 ⊢; omega⟩
   ·rw [e] at l2 ⊢
    exact ⟨k1.ext.trans k.ext, k.wf, k.frs, by dsimp only at l2 ⊢; omega⟩
  split <;> exact k2
 ·exact k1
theorem look_keeps (y : Cf) (i : Int) (nd : Nd) (ha : 0 ≤ nd.a ∧ nd.a < C.n) : Keeps C M (lookZ C M i nd y).2.2 := by
 unfold lookZ
 split
 ·exact keeps_refl hW hF
 ·exact within_keeps hT hW hF hl _ _ _ _ (do_ok ha)
omit hW hF hl in
theorem turn_ok {f : Fr} (h : FOk C f) (h2 : f.k = 2) {p : Int} (h0 : 0 ≤ p) (h1 : p ≤ C.s.size) (hne : f.t ≠ (C.l f.n.toNat).mx) : FOk C ⟨2, f.n, tK (C.l f.n.toNat) f.t, p, 0⟩ := by
 obtain ⟨hk, hm1, hm2⟩ : (C.l f.n.toNat).k = 10 ∧ ((C.l f.n.toNat).mx = -1 → f.t ≤ (C.l f.n.toNat).mn + 1) ∧ ((C.l f.n.toNat).mx ≠ -1 → f.t ≤ (C.l f.n.toNat).mx) := by
  rcases h.k with e | e | e
  ·omega
  ·exact e.2
  ·omega
 have hr := hT.rep f.n.toNat (by have := h.n; omega) hk
 have ht := h.t
 refine ⟨h.n, .inr (.inl ⟨rfl, hk, fun e => ?_, fun e => ?_⟩), ?_, ⟨h0, h1⟩⟩
 ·show tK (C.l f.n.toNat) f.t ≤ (C.l f.n.toNat).mn + 1
  unfold tK; rw [if_pos e]; omega
 ·show tK (C.l f.n.toNat) f.t ≤ (C.l f.n.toNat).mx
  unfold tK; rw [if_neg e]; have := hm2 e; omega
 ·show 0 ≤ tK (C.l f.n.toNat) f.t ∧ tK (C.l f.n.toNat) f.t ≤ 1000
  unfold tK
  split
  ·have := hm1 (by assumption); omega
  ·have := hm2 (by assumption); omega
omit hW hF hl in
theorem first_ok {i : Int} (hi : 0 ≤ i ∧ i < C.n) {k : Int} (hk : k = 2 ∧ (C.l i.toNat).k = 10 ∨ k = 3 ∧ (C.l i.toNat).k = 11) {p : Int} (h0 : 0 ≤ p) (h1 : p ≤ C.s.size) : FOk C ⟨k, i, 0, p, 0⟩ := by
 refine ⟨hi, ?_, ⟨Int.le_refl _, by show (0 : Int) ≤ 1000; omega⟩, ⟨h0, h1⟩⟩
 rcases hk with ⟨rfl, hk⟩ | ⟨rfl, hk⟩
 ·have hr := hT.rep i.toNat (by omega) hk
  exact .inr (.inl ⟨rfl, hk, fun _ => by show (0 : Int) ≤ (C.l i.toNat).mn + 1; omega, fun e => by have e2 : (C.l i.toNat).mx ≠ -1 := e; show (0 : Int) ≤ (C.l i.toNat).mx; omega⟩)
 ·exact .inr (.inr ⟨rfl, hk⟩)
theorem next_keeps (x : Cf) : Keeps C M (nextZ C M x).2.2 := by
 unfold nextZ
 split
 ·rename_i hc
  obtain ⟨h0, h1, hm⟩ := hc
  have hp := of_decide_eq_true (show decide _ = true from hm)
  split
  ·exact keeps_refl hW hF
  ·rename_i hk0
   have hi : 1 ≤ x.f.toNat := by
    rcases Nat.eq_zero_or_pos x.f.toNat with e | e
    ·exact absurd (by rw [e, hW.zero.1]; rfl) hk0
    ·exact e
   have hfo := hF x.f.toNat hi (by omega)
   have hfx := mayF_x (hW.may x.f.toNat hi (by omega)).1
   have hn := hfo.n
   split
   ·unfold doZ
    split
    ·rename_i hk
     have := hT.two (frI M x.f.toNat).n.toNat (by omega) (by rw [hk]; rfl)
     exact goOn_keeps hT hW hF hl _ _ (fun g hg => by simp at hg; rcases hg with rfl | rfl <;> exact do_ok (by omega)) (by simp) hfx.1 (by show (frI M x.f.toNat).x < _; omega)
    ·split
     ·rename_i hk
      have := hT.two (frI M x.f.toNat).n.toNat (by omega) (by rw [hk]; rfl)
      exact either_keeps hT hW hF hl _ _ (by omega) (by omega) hfx.1 (by show (frI M x.f.toNat).x < _; omega)
     ·split
      ·rename_i hk
       have := hT.one (frI M x.f.toNat).n.toNat (by omega) (by rw [hk]; rfl)
       exact goOn_keeps hT hW hF hl _ _ (fun g hg => by
        simp at hg
        rcases hg with rfl | rfl
        ·exact first_ok hT hn (.inr ⟨rfl, hk⟩) hp.1 hp.2.1
        ·exact do_ok (by omega)) (by simp) hfx.1 (by show (frI M x.f.toNat).x < _; omega)
      ·split
       ·rename_i hk
        split
        ·exact within_keeps hT hW hF hl _ _ _ _ (first_ok hT hn (.inl ⟨rfl, hk⟩) hp.1 hp.2.1)
        ·exact goOn_keeps hT hW hF hl _ _ (fun g hg => by simp at hg; rw [hg]; exact first_ok hT hn (.inl ⟨rfl, hk⟩) hp.1 hp.2.1) (by simp) hfx.1 (by show (frI M x.f.toNat).x < _; omega)
       ·split
        ·rename_i hk
         have := hT.one (frI M x.f.toNat).n.toNat (by omega) (by rw [hk]; rfl)
         exact within_keeps hT hW hF hl _ _ _ _ (do_ok (by omega))
        ·split
         ·rename_i hk
          have := hT.one (frI M x.f.toNat).n.toNat (by omega) (by rcases hk with e | e <;> (rw [e]; rfl))
          exact look_keeps hT hW hF hl _ _ _ (by omega)
         ·split
          ·rename_i hk
           have := hT.one (frI M x.f.toNat).n.toNat (by omega) (by rcases hk with e | e <;> (rw [e]; rfl))
           exact look_keeps hT hW hF hl _ _ _ (by omega)
          ·exact keeps_refl hW hF
   ·split
    ·rename_i hk2
     unfold turnZ
     split
     ·exact keeps_refl hW hF
     ·split
      ·exact keeps_refl hW hF
      ·rename_i hne
       have ha : 0 ≤ (C.l (frI M x.f.toNat).n.toNat).a ∧ (C.l (frI M x.f.toNat).n.toNat).a < C.n := hT.one _ (by omega) (by
        rcases hfo.k with e | e | e
        ·omega
        ·rw [e.2.1]; rfl
        ·omega)
       have := puts_keeps hT hW hF hl [⟨2, (frI M x.f.toNat).n, tK (C.l (frI M x.f.toNat).n.toNat) (frI M x.f.toNat).t, x.p, 0⟩, toDo (C.l (frI M x.f.toNat).n.toNat).a] (frI M x.f.toNat).x (fun g hg => by
        simp at hg
        rcases hg with rfl | rfl
        ·exact turn_ok hT hfo hk2 hp.1 hp.2.1 hne
        ·exact do_ok ha) (by simp) hfx.1 (by omega)
       split <;> exact this
    ·exact keeps_refl hW hF
 ·exact keeps_refl hW hF
end
theorem Res.congr {C : Mx} {M : List Pl} {x : Cf} {A A' : Ans} {R R' : Int → List Pl → Ans} (h : Res C M x A R) (hA : A' = A) (hR : ∀ m M2, R' m M2 = R m M2) : Res C M x A' R' := by
 rw [hA]
 rcases h with ⟨q, M1, e, g, k⟩ | h
 ·exact .inl ⟨q, M1, e, g, fun m M2 h1 h2 => (hR m M2).trans (k m M2 h1 h2)⟩
 ·exact .inr h
section
variable {C : Mx} {M : List Pl} (hT : TOk C) (hW : Wf M) (hF : FrsOk C M) (hl : M.length ≤ 900000)
include hT hW hF hl
end
def Alike (A B : Ans) : Prop := A.2.1 = 0 → B.2.1 = 0 → A = B
theorem Alike.ite {c : Prop} [Decidable c] {A A' B B' : Ans} (h1 : c → Alike A B) (h2 : ¬ c → Alike A' B') : Alike (if c then A else A') (if c then B else B') := by
 by_cases h : c
 ·rw [if_pos h, if_pos h]; exact h1 h
 ·rw [if_neg h, if_neg h]; exact h2 h
end Go.Proofs.YteggpecbeagohaaGreatDoor.Stp
