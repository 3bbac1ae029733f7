import Derived.Test.YteggpecbeagohaaGreatDoorTakeG
import Derived.Maps.OwnSet
import Derived.Maps.AppendAt
import Derived.DeepKeys4
import Derived.Carry
namespace Go.Proofs.YteggpecbeagohaaGreatDoor.Frm
open Go.RowKit
open Go.Maps (Keyed IsMap Tidy)
structure Fr where
 k : Int
 n : Int
 t : Int
 f : Int
 x : Int
deriving DecidableEq
abbrev frC (a : Fr) : Array Value := #[.int .i64 a.k, .int .i64 a.n, .int .i64 a.t, .int .i64 a.f, .int .i64 a.x]
abbrev frL (a : Fr) : List Value := [.int .i64 a.k, .int .i64 a.n, .int .i64 a.t, .int .i64 a.f, .int .i64 a.x]
def zF : Fr := ⟨0, 0, 0, 0, 0⟩
def I64 (n : Int) : Prop := -9223372036854775808 ≤ n ∧ n ≤ 9223372036854775807
def Fr.i64 (a : Fr) : Prop := I64 a.k ∧ I64 a.n ∧ I64 a.t ∧ I64 a.f ∧ I64 a.x
abbrev Pl := Fr × Nat
abbrev plC (y : Pl) : Array Value := #[.int .i64 y.1.k, .int .i64 y.1.n, .int .i64 y.1.t, .int .i64 y.1.f, .int .i64 y.1.x, .int .i64 (y.2 : Int)]
def plL (y : Pl) : List Value := [.int .i64 y.1.k, .int .i64 y.1.n, .int .i64 y.1.t, .int .i64 y.1.f, .int .i64 y.1.x, .int .i64 (y.2 : Int)]
def frI (M : List Pl) (i : Nat) : Fr := (M.getD i (zF, 0)).1
def dpI (M : List Pl) (i : Nat) : Nat := (M.getD i (zF, 0)).2
def mayF (N : Nat) (a : Fr) : Bool := decide ((a.k = 1 ∨ a.k = 2 ∨ a.k = 3) ∧ 0 ≤ a.n ∧ 0 ≤ a.t ∧ 0 ≤ a.f ∧ 0 ≤ a.x ∧ a.x < N)
def idG (a : Fr) : Nat → List Pl → Nat
 | _, [] => 0
 | i, y :: r => if y.1 = a then i else idG a (i + 1) r
def idF (M : List Pl) (a : Fr) : Nat := idG a 1 M.tail
theorem idG_spec (a : Fr) : ∀ (M : List Pl) (i : Nat), (idG a (i + 1) M = 0 ∧ ∀ j, j < M.length → frI M j ≠ a) ∨ ∃ j, idG a (i + 1) M = i + 1 + j ∧ j < M.length ∧ frI M j = a ∧ ∀ h, h < j → frI M h ≠ a
 | [], i => .inl ⟨rfl, fun j hj => by simp at hj⟩
 | y :: r, i => by
   unfold idG
   by_cases h : y.1 = a
   ·rw [if_pos h]
    exact .inr ⟨0, by omega, by simp, by simpa [frI] using h, fun h hh => by omega⟩
   ·rw [if_neg h]
    rcases idG_spec a r (i + 1) with ⟨e, k⟩ | ⟨j, e, k1, k2, k3⟩
    ·refine .inl ⟨e, fun j hj => ?_⟩
     cases j with
     | zero => simpa [frI] using h
     | succ j => have := k j (by simpa using hj); simpa [frI] using this
    ·refine .inr ⟨j + 1, by omega, by simp; omega, by simpa [frI] using k2, fun g hg => ?_⟩
     cases g with
     | zero => simpa [frI] using h
     | succ g => have := k3 g (by omega); simpa [frI] using this
theorem frI_tail (M : List Pl) (j : Nat) : frI M.tail j = frI M (j + 1) := by
 cases M <;> simp [frI]
theorem idF_none {M : List Pl} {a : Fr} (h : idF M a = 0) : ∀ i, 1 ≤ i → i < M.length → frI M i ≠ a := fun i h1 h2 => by
 rcases idG_spec a M.tail 0 with ⟨-, k⟩ | ⟨j, e, -⟩
 ·have := k (i - 1) (by simp; omega)
  rw [frI_tail, show i - 1 + 1 = i by omega] at this
  exact this
 ·have e' : idG a 1 M.tail = 0 + 1 + j := e
  unfold idF at h; omega
theorem idF_some {M : List Pl} {a : Fr} (h : idF M a ≠ 0) : 1 ≤ idF M a ∧ idF M a < M.length ∧ frI M (idF M a) = a ∧ ∀ i, 1 ≤ i → i < idF M a → frI M i ≠ a := by
 rcases idG_spec a M.tail 0 with ⟨e, -⟩ | ⟨j, e, k1, k2, k3⟩
 ·exact absurd e h
 ·have e' : idF M a = j + 1 := by
   have e1 : idG a 1 M.tail = 0 + 1 + j := e
   unfold idF; omega
  rw [frI_tail] at k2
  simp at k1
  refine ⟨by omega, by omega, by rw [e']; exact k2, fun i h1 h2 => ?_⟩
  have := k3 (i - 1) (by omega)
  rw [frI_tail, show i - 1 + 1 = i by omega] at this
  exact this
def putF (most : Int) (M : List Pl) (a : Fr) : List Pl × Nat × Int :=
 if mayF M.length a = true then
  if idF M a ≠ 0 then (M, idF M a, 0)
  else if (M.length : Int) - 1 = most then (M, 0, 4)
  else (M ++ [(a, dpI M a.x.toNat + 1)], M.length, 0)
 else (M, 0, 1)
structure Wf (M : List Pl) : Prop where
 len : 1 ≤ M.length
 zero : frI M 0 = zF ∧ dpI M 0 = 0
 may : ∀ i, 1 ≤ i → i < M.length → mayF i (frI M i) = true ∧ (frI M i).i64 ∧ dpI M i = dpI M (frI M i).x.toNat + 1
 one : ∀ i j, 1 ≤ i → i < M.length → 1 ≤ j → j < M.length → frI M i = frI M j → i = j
theorem Wf.made : Wf [(zF, 0)] := ⟨by simp, ⟨rfl, rfl⟩, fun i h1 h2 => by simp at h2; omega, fun i j h1 h2 => by simp at h2; omega⟩
theorem mayF_x {N : Nat} {a : Fr} (h : mayF N a = true) : 0 ≤ a.x ∧ a.x < N := by simp only [mayF, decide_eq_true_eq] at h; exact ⟨h.2.2.2.2.1, h.2.2.2.2.2⟩
theorem frI_push (M : List Pl) (y : Pl) (i : Nat) : frI (M ++ [y]) i = if i < M.length then frI M i else if i = M.length then y.1 else zF := by
 unfold frI
 simp only [List.getD_eq_getElem?_getD, List.getElem?_append]
 split
 ·rfl
 ·split
  ·subst_vars; simp
  ·rw [List.getElem?_eq_none (by simp; omega)]; rfl
theorem dpI_push (M : List Pl) (y : Pl) (i : Nat) : dpI (M ++ [y]) i = if i < M.length then dpI M i else if i = M.length then y.2 else 0 := by
 unfold dpI
 simp only [List.getD_eq_getElem?_getD, List.getElem?_append]
 split
 ·rfl
 ·split
  ·subst_vars; simp
  ·rw [List.getElem?_eq_none (by simp; omega)]; rfl
theorem Wf.push {M : List Pl} (h : Wf M) {a : Fr} (hm : mayF M.length a = true) (hi : a.i64) (hn : idF M a = 0) : Wf (M ++ [(a, dpI M a.x.toNat + 1)]) := by
 have hx := mayF_x hm
 have h1 := h.len
 have hno := idF_none hn
 refine ⟨by simp, ⟨by rw [frI_push, if_pos (by omega)]; exact h.zero.1, by rw [dpI_push, if_pos (by omega)]; exact h.zero.2⟩, fun i i1 i2 => ?_, fun i j i1 i2 j1 j2 e => ?_⟩
 ·simp at i2
  by_cases e : i < M.length
  ·obtain ⟨k1, k2, k3⟩ := h.may i i1 e
   have hx' := mayF_x k1
   rw [frI_push, if_pos e, dpI_push, if_pos e, dpI_push, if_pos (by omega)]
   exact ⟨k1, k2, k3⟩
  ·obtain rfl : i = M.length := by omega
   rw [frI_push, if_neg e, if_pos rfl, dpI_push, if_neg e, if_pos rfl]
   dsimp only
   rw [dpI_push, if_pos (by omega)]
   exact ⟨hm, hi, rfl⟩
 ·simp at i2 j2
  rw [frI_push, frI_push] at e
  by_cases ei : i < M.length
  ·by_cases ej : j < M.length
   ·rw [if_pos ei, if_pos ej] at e
    exact h.one i j i1 ei j1 ej e
   ·rw [if_pos ei, if_neg ej, if_pos (by omega)] at e
    exact absurd e (hno i i1 ei)
  ·by_cases ej : j < M.length
   ·rw [if_neg ei, if_pos (by omega), if_pos ej] at e
    exact absurd e.symm (hno j j1 ej)
   ·omega
theorem put_len (most : Int) (M : List Pl) (a : Fr) : M.length ≤ (putF most M a).1.length ∧ (putF most M a).1.length ≤ M.length + 1 := by
 unfold putF
 split
 ·split
  ·simp
  ·split <;> simp
 ·simp
theorem Wf.deep {M : List Pl} (h : Wf M) : ∀ n i, i ≤ n → dpI M i ≤ i
 | 0, i, hi => by obtain rfl : i = 0 := by omega
                  rw [h.zero.2]; exact Nat.le_refl _
 | n + 1, i, hi => by
   by_cases h1 : 1 ≤ i
   ·by_cases h2 : i < M.length
    ·obtain ⟨k1, -, k3⟩ := h.may i h1 h2
     have hx := mayF_x k1
     have := h.deep n (frI M i).x.toNat (by omega)
     omega
    ·unfold dpI
     rw [List.getD_eq_getElem?_getD, List.getElem?_eq_none (by omega)]
     exact Nat.zero_le _
   ·obtain rfl : i = 0 := by omega
    rw [h.zero.2]; exact Nat.le_refl _
theorem rowF : (90 : TypeId) < Tryz.prog.types.size := of_decide_eq_true (by kernel_rfl)
set_option maxRecDepth 100000 in
theorem laidOutF : laidOutB Tryz.prog = true := by kernel_rfl
theorem wideF : (match Tryz.prog.underlying 90 with | some (.array _ _) | some (.struct _) => true | _ => false) = true := by kernel_rfl
set_option maxRecDepth 100000 in
theorem lawF : Keyed Tryz.prog 90 := .of_law (deep_law_laid laidOutF (m := 2) (by omega) rowF (by kernel_rfl) wideF)
theorem zeroI (w : World) : (zeroValue 3).run Tryz.prog w = .ok (.int .i64 0) w := by kernel_rfl
def fK (a : Fr) : Lit := .string (keyBytes [.int .i64 a.k, .int .i64 a.n, .int .i64 a.t, .int .i64 a.f, .int .i64 a.x])
theorem wf_i {n : Int} (h : I64 n) : (Lit.int .i64 n).wf = true := by
 obtain ⟨h1, h2⟩ := h
 simp [Lit.wf, IntKind.min, IntKind.max, IntKind.signed, IntKind.bits]
 omega
theorem cellsF : Tryz.prog.cellsOf 90 = 5 := by kernel_rfl
theorem cellsI : Tryz.prog.cellsOf 3 = 1 := by kernel_rfl
theorem keyTyF : Tryz.prog.keyType 90 = true := by kernel_rfl
set_option maxRecDepth 100000 in
theorem sizeTy : ∃ m, Tryz.prog.types.size = m + 1 := ⟨_, (Nat.succ_pred_eq_of_pos (Nat.lt_of_le_of_lt (Nat.zero_le _) rowF)).symm⟩
set_option maxRecDepth 100000 in
theorem keyF {a : Fr} (h : a.i64) : keyOf Tryz.prog 90 (.agg (frC a)) = some (fK a) := by
 obtain ⟨h1, h2, h3, h4, h5⟩ := h
 obtain ⟨m, hm⟩ := sizeTy
 have one : ∀ n, I64 n → Tryz.prog.keyLits (m + 1) 3 [.int .i64 n] = some [.int .i64 n] := fun n hn => by
  unfold Program.keyLits
  simp [Tryz.underlying3, wf_i hn]
 unfold keyOf
 simp only [Tryz.underlying90]
 rw [if_pos (by simp [keyTyF, Value.formed, Tryz.underlying90, cellsF]), hm]
 unfold Program.keyLits
 simp only [Tryz.underlying90, Value.cells]
 rw [if_pos ⟨by rw [cellsF]; rfl, by kernel_rfl⟩]
 simp [List.mapM_cons, cellsI, one _ h1, one _ h2, one _ h3, one _ h4, one _ h5, fK]
theorem fK_inj {a b : Fr} (ha : a.i64) (hb : b.i64) (h : fK a = fK b) : a = b := by
 have := lawF.inj (keyF ha) (h ▸ keyF hb)
 obtain ⟨k, n, t, f, x⟩ := a
 obtain ⟨k', n', t', f', x'⟩ := b
 simp at this
 simp [this]
structure MapOf (D : DataW Unit) (M : List Pl) : Prop where
 tidy : Tidy D
 size : Maps.size D = M.length - 1
 get : ∀ i, 1 ≤ i → i < M.length → Maps.has D (fK (frI M i)) = true ∧ D.atKey (fK (frI M i)) (.lit (.int .i64 0)) = .lit (.int .i64 (i : Int))
 no : ∀ a : Fr, a.i64 → (∀ i, 1 ≤ i → i < M.length → frI M i ≠ a) → Maps.has D (fK a) = false
theorem MapOf.made : MapOf (.map []) [(zF, 0)] := ⟨Maps.tidy_empty, rfl, fun i h1 h2 => by simp at h2; omega, fun _ _ _ => rfl⟩
theorem MapOf.push {D : DataW Unit} {M : List Pl} (h : MapOf D M) (hw : Wf M) {a : Fr} (hi : a.i64) (hn : idF M a = 0) (d : Nat) : MapOf (D.put (fK a) (.lit (.int .i64 (M.length : Int)))) (M ++ [(a, d)]) := by
 have hno := idF_none hn
 have hk := lawF.key (keyF hi)
 have h0 := h.no a hi hno
 have hl := hw.len
 refine ⟨h.tidy.put hk _, by rw [Maps.size_put h.tidy, if_neg (by simp [h0]), h.size]; simp; omega, fun i i1 i2 => ?_, fun b hb hb2 => ?_⟩
 ·simp at i2
  by_cases e : i < M.length
  ·have ne : fK (frI M i) ≠ fK a := fun q => hno i i1 e (fK_inj (hw.may i i1 e).2.1 hi q)
   rw [frI_push, if_pos e, Maps.has_put_other ne, Maps.atKey_put_other ne]
   exact h.get i i1 e
  ·obtain rfl : i = M.length := by omega
   rw [frI_push, if_neg e, if_pos rfl]
   exact ⟨Maps.has_put_same h.tidy.isMap hk _, Maps.atKey_put_same h.tidy.isMap hk _ _⟩
 ·have ne : fK b ≠ fK a := fun q => by
   have := fK_inj hb hi q
   have h3 := hb2 M.length (by omega) (by simp)
   rw [frI_push, if_neg (by omega), if_pos rfl] at h3
   exact h3 this.symm
  rw [Maps.has_put_other ne]
  refine h.no b hb fun i i1 i2 => ?_
  have := hb2 i i1 (by simp; omega)
  rwa [frI_push, if_pos i2] at this
end Go.Proofs.YteggpecbeagohaaGreatDoor.Frm
