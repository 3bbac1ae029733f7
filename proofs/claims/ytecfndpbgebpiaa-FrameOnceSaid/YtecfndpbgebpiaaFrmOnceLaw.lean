/-
  The statement FrameOnce: its walk.
-/
import Derived.Test.YtecfndpbgebpiaaFrmTwo
namespace Go.Proofs.Ytecfndpbgebpiaa
open Go.RowKit

/-- What two calls of Put of the same frame do. -/
theorem put_once {M : List Pl} {f : Fr} (hw : Wf M) (hf : f.i64) (hn : M.length ≤ 900) :
    (putF 1000 M f = (M, 0, 1)) ∨ ∃ M' a, putF 1000 M f = (M', a, 0) ∧ putF 1000 M' f = (M', a, 0) ∧ 1 ≤ a ∧ a < M'.length ∧ frI M' a = f ∧ (∀ i, i < M.length → frI M' i = frI M i) ∧ M.length ≤ M'.length ∧ M'.length ≤ M.length + 1 ∧ Wf M' := by
  cases hm : mayF M.length f with
  | false => exact .inl (put_bad hm)
  | true =>
    by_cases hi : idF M f = 0
    · have hr : (M.length : Int) - 1 ≠ 1000 := by omega
      have h1 := put_new hm hi hr
      have hw' := hw.push hm hf hi
      have hm' : mayF (M ++ [(f, dpI M f.x.toNat + 1)]).length f = true := by
        simp only [mayF, decide_eq_true_eq] at hm ⊢
        refine ⟨hm.1, hm.2.1, hm.2.2.1, hm.2.2.2.1, hm.2.2.2.2.1, ?_⟩
        simp
        omega
      have hlt : M.length < (M ++ [(f, dpI M f.x.toNat + 1)]).length := by simp
      have hfr : frI (M ++ [(f, dpI M f.x.toNat + 1)]) M.length = f := by rw [frI_push, if_neg (by omega), if_pos rfl]
      have h1n := hw.len
      have hid : idF (M ++ [(f, dpI M f.x.toNat + 1)]) f = M.length := by
        by_cases e : idF (M ++ [(f, dpI M f.x.toNat + 1)]) f = 0
        · exact absurd hfr (idF_none e _ h1n hlt)
        · obtain ⟨k1, k2, k3, -⟩ := idF_some e
          exact hw'.one _ _ k1 k2 h1n hlt (k3.trans hfr.symm)
      refine .inr ⟨_, _, h1, ?_, h1n, hlt, hfr, fun i hi2 => by rw [frI_push, if_pos hi2], by simp, by simp, hw'⟩
      rw [put_is hm' (by rw [hid]; omega), hid]
    · obtain ⟨k1, k2, k3, -⟩ := idF_some hi
      exact .inr ⟨_, _, put_is hm hi, put_is hm hi, k1, k2, k3, fun _ _ => rfl, Nat.le_refl _, by omega, hw⟩
theorem own_none (w : World) (e : TypeId) (size base : Nat) (h : base ≤ w.heap.size) : (w.alloc (.cells #[] e)).ownsRow base e size (.slice (some ⟨w.heap.size, 0, none⟩) 0 0) 0 [] :=
  ⟨by simp, .inr ⟨w.heap.size, 0, #[], rfl, h, heap_alloc_new _ _, Nat.le_refl _, by decide, by simp, by simp⟩⟩
theorem infoI : (Try.prog.info? 3).map (fun i => (i.zero, i.size, i.bytes)) = some (some (.int .i64 0), 1, 8) := by kernel_rfl
/-- The numbers told so far. -/
def idV (L : List Nat) : List Value := L.map fun (a : Nat) => Value.int .i64 (a : Int)
theorem idV_one (L : List Nat) : ∀ u ∈ idV L, u.oneCell' = true := by
  intro u hu
  simp only [idV, List.mem_map] at hu
  obtain ⟨a, -, rfl⟩ := hu
  rfl
/-- What is known of them. -/
def Told (M : List Pl) (l : Nat → Fr) (L : List Nat) : Prop := ∀ k, k < L.length → L.getD k 0 ≠ 0 → 1 ≤ L.getD k 0 ∧ L.getD k 0 < M.length ∧ frI M (L.getD k 0) = l k

theorem put_both {M : List Pl} {f : Fr} (hw : Wf M) (hf : f.i64) (hn : M.length ≤ 900) : ∃ M' a er, putF 1000 M f = (M', a, er) ∧ putF 1000 M' f = (M', a, er) ∧ (er = 1 ∧ a = 0 ∨ er = 0 ∧ 1 ≤ a ∧ a < M'.length ∧ frI M' a = f) ∧ (∀ i, i < M.length → frI M' i = frI M i) ∧ M.length ≤ M'.length ∧ M'.length ≤ M.length + 1 ∧ Wf M' := by
  rcases put_once hw hf hn with h | ⟨M', a, h1, h2, h3, h4, h5, h6, h7, h8, h9⟩
  · exact ⟨M, 0, 1, h, h, .inl ⟨rfl, rfl⟩, fun _ _ => rfl, Nat.le_refl _, by omega, hw⟩
  · exact ⟨M', a, 0, h1, h2, .inr ⟨rfl, h3, h4, h5⟩, h6, h7, h8, h9⟩
theorem Told.more {M M' : List Pl} {l : Nat → Fr} {L : List Nat} {a : Nat} (h : Told M l L) (hk : ∀ i, i < M.length → frI M' i = frI M i) (hl : M.length ≤ M'.length) (ha : a ≠ 0 → 1 ≤ a ∧ a < M'.length ∧ frI M' a = l L.length) : Told M' l (L ++ [a]) := by
  intro k h1 h2
  simp only [List.getD_eq_getElem?_getD, List.getElem?_append] at h2 ⊢
  simp at h1
  by_cases e : k < L.length
  · rw [if_pos e] at h2 ⊢
    have := h k e
    simp only [List.getD_eq_getElem?_getD] at this
    obtain ⟨k1, k2, k3⟩ := this h2
    exact ⟨k1, by omega, by rw [hk _ k2]; exact k3⟩
  · have e2 : k = L.length := by omega
    subst e2
    simp at h2 ⊢
    exact ha h2
theorem SG.append {v v' : Value} {w0 w u w' : World} {p m : Nat} {most : Int} {M : List Pl} (h : SG (fun x => v.ownBlock = some x) w0 w p m most M) (hb : Below w.heap.size w u) (hg : u.grownBy w' v.ownBlock) (hloc : v'.ownBlock = v.ownBlock ∨ v'.ownBlock = some u.heap.size)
    (hv : ∀ x, v.ownBlock = some x → w0.heap.size ≤ x) (hlt : ∀ x, v'.ownBlock = some x → x < w'.heap.size) : SG (fun x => v'.ownBlock = some x) w0 w' p m most M := by
  obtain ⟨b, h1, h2, h3⟩ := h.st
  have ap := h1.apart
  have hs := hb.size
  have hs2 := hg.size
  have hs0 := h.low.size
  have kp : ∀ j, j < w.heap.size → v.ownBlock ≠ some j → w'.heap[j]? = w.heap[j]? := fun j k1 k2 => (hg.block j (by omega) (fun e => k2 e.symm)).trans (hb.block j k1)
  have nb : ∀ j, j < w.heap.size → v.ownBlock ≠ some j → v'.ownBlock ≠ some j := fun j k1 k2 e => by
    rcases hloc with q | q
    · exact k2 (q ▸ e)
    · rw [q] at e; injection e with e; omega
  refine ⟨⟨b, h1.keep fun j hj => by rcases hj with rfl | rfl | rfl; exact kp _ ap.1 h.no.1; exact kp _ ap.2.1 h3; exact kp _ ap.2.2.1 h.no.2, h2, nb b ap.2.1 h3⟩, ?_, h.le, ⟨nb p ap.1 h.no.1, nb m ap.2.2.1 h.no.2⟩, hlt⟩
  exact h.low.trans ⟨hg.os.trans hb.os, hg.tape.trans hb.tape, hg.output.trans hb.output, by omega, fun j hj => kp j (by omega) (fun e => by have := hv j e; omega)⟩
theorem own_keep {w w' : World} {base n : Nat} {v : Value} {xs : List Value} {T : TypeId} {s : Nat} (h : w.ownsRow base T s v n xs) (hk : ∀ x, v.ownBlock = some x → w'.heap[x]? = w.heap[x]?) : w'.ownsRow base T s v n xs := by
  refine ⟨h.1, ?_⟩
  rcases h.2 with e | ⟨g, cap, cur, rfl, h0, h1, h2⟩
  · exact .inl e
  · exact .inr ⟨g, cap, cur, rfl, h0, (hk g rfl).trans h1, h2⟩
theorem idV_get {L : List Nat} {k : Nat} (h : k < L.length) : (idV L)[k]? = some (.int .i64 ((L.getD k 0 : Nat) : Int)) := by
  simp [idV, h]
theorem own_word {w : World} {base n : Nat} {v : Value} {L : List Nat} (h : w.ownsRow base 3 1 v n (idV L)) (hn : 0 < n) (hL : L.length = n) : ∃ g c, v = .slice (some ⟨g, 0, none⟩) n c ∧ base ≤ g ∧ g < w.heap.size ∧ ∀ k, k < n → w.cell? ⟨g, k, none⟩ = some (.int .i64 ((L.getD k 0 : Nat) : Int)) := by
  rcases h.2 with ⟨-, e⟩ | ⟨g, cap, cur, rfl, h0, h1, h2⟩
  · omega
  · refine ⟨g, cap, rfl, h0, lt_of_block h1, fun k hk => ?_⟩
    have := h.cells (g := g) rfl k _ (idV_get (L := L) (by omega))
    rwa [addr_add, Nat.zero_add] at this
section
variable {ops : Array Oper} {R : World → Prop} {a : Act} {o : Oper} {x y : Operand} {w : World}
theorem eqE_y (z c : Int) (b : Bool) (hb : decide (z = c) = b) (ho : o.op = .binOp .eql 24 x y 24) (hx : a.eval x = .int .i64 z) (hy : a.eval y = .int .i64 c) (hw : Region.wanted o (yielded ops a.tmps) = true) : YieldsIf Try.prog ops R o (.bool b) a := by
  subst hb
  refine Or.inl ⟨hw, fun u _ => ?_⟩
  unfold execOp
  simp only [ho, hx, hy]
  go_simp
  rfl
theorem neE_y (z c : Int) (b : Bool) (hb : (!decide (z = c)) = b) (ho : o.op = .binOp .neq 24 x y 24) (hx : a.eval x = .int .i64 z) (hy : a.eval y = .int .i64 c) (hw : Region.wanted o (yielded ops a.tmps) = true) : YieldsIf Try.prog ops R o (.bool b) a := by
  subst hb
  refine Or.inl ⟨hw, fun u _ => ?_⟩
  unfold execOp
  simp only [ho, hx, hy]
  go_simp
  rfl
theorem eqIb_y (z c : Int) (b : Bool) (hb : decide (z = c) = b) (ho : o.op = .binOp .eql 3 x y 3) (hx : a.eval x = .int .i64 z) (hy : a.eval y = .int .i64 c) (hw : Region.wanted o (yielded ops a.tmps) = true) : YieldsIf Try.prog ops R o (.bool b) a := by
  subst hb
  refine Or.inl ⟨hw, fun u _ => ?_⟩
  unfold execOp
  simp only [ho, hx, hy]
  go_simp
  rfl
theorem eqFr_y (f g : Fr) (b : Bool) (hb : decide (f = g) = b) (ho : o.op = .binOp .eql 33 x y 33) (hx : a.eval x = .agg (frC f)) (hy : a.eval y = .agg (frC g)) (hw : Region.wanted o (yielded ops a.tmps) = true) : YieldsIf Try.prog ops R o (.bool b) a := by
  subst hb
  refine Or.inl ⟨hw, fun u _ => ?_⟩
  obtain ⟨k, n, t, f, x1⟩ := f
  obtain ⟨k', n', t', f', x'⟩ := g
  unfold execOp
  simp only [ho, hx, hy]
  simp [go_sem]
  by_cases h1 : k = k' <;> by_cases h2 : n = n' <;> by_cases h3 : t = t' <;> by_cases h4 : f = f' <;> by_cases h5 : x1 = x' <;> simp [h1, h2, h3, h4, h5]
end

set_option maxRecDepth 100000 in
set_option maxHeartbeats 16000000 in
theorem frameOnce_walk (A : Option Addr) (N cap : Nat) (l : Nat → Fr) (w : World) (hl : Frames w A N l) :
    Calls Try.prog 4 #[.slice A N cap] w fun e w' => e = .returned (.bool true) ∧ Below w.heap.size w w' := by
  have HLS := Lib.hid hl
  clear hl
  obtain ⟨i0, hi, hz0, hz1, hz2⟩ := info_parts infoI
  have HI0 := Lib.hid (And.intro hi (And.intro hz0 (And.intro hz1 hz2)))
  clear hi hz0 hz1 hz2
  go_enter Try.func4, Try.ntmps4
  go_wp2_with fail
  refine (xnew 1000 w (by decide)).mono ?_
  rintro e w1 ⟨p, m, rfl, hst⟩
  have H1 := Lib.hid hst
  clear hst
  go_wp2_with fail
  have hz : (w1.alloc (.cells #[] 3)).ownsRow w.heap.size 3 1 (.slice (some ⟨w1.heap.size, 0, none⟩) 0 0) 0 (idV []) := own_none w1 3 1 w.heap.size H1.out.low.size
  have hg : SG (fun x => (Value.slice (some ⟨w1.heap.size, 0, none⟩) 0 0).ownBlock = some x) w (w1.alloc (.cells #[] 3)) p m 1000 [(zF, 0)] := H1.out.guard ((Below.refl _ w1).alloc (Nat.le_refl _) _) _ (fun j hj => by
    have : w1.heap.size = j := by injection hj
    subst this
    simp)
  have Z1 := Lib.hid hz
  have G1 := Lib.hid hg
  clear hz hg H1
  go_loopw [5, 6] (fun v i wr => ∃ (j : Nat) (M : List Pl) (L : List Nat), i = .int .i64 (j : Int) ∧ j ≤ 40 ∧ j ≤ N ∧ SG (fun x => v.ownBlock = some x) w wr p m 1000 M ∧ wr.ownsRow w.heap.size 3 1 v j (idV L) ∧ L.length = j ∧ Told M l L ∧ M.length ≤ j + 1) (fun _ i _ => 40 - (intOf i).toNat)
  case atStart => exact ⟨0, [(zF, 0)], [], rfl, by omega, Nat.zero_le _, G1.out, Z1.out, rfl, fun k hk => by simp at hk, Nat.le_refl _⟩
  case round =>
    rename_i v i
    obtain ⟨j, M, L, rfl, hj40, hjN, hs, hown, hLj, htold, hML⟩ := hrel
    have HS := Lib.hid hs
    have OW := Lib.hid hown
    have LJ := Lib.hid hLj
    have TD := Lib.hid htold
    have ML := Lib.hid hML
    have j0 : (0 : Int) ≤ j := by omega
    clear hs hown hLj htold hML
    by_cases hlt : j < N
    · by_cases h40 : j < 40
      · have jN : (j : Int) < N := by omega
        have j4 : (j : Int) < 40 := by omega
        have J4 := Lib.hid h40
        have JN := Lib.hid hlt
        obtain ⟨bb, oo, rfl, hbb, hrg, hi64⟩ := HLS.out j hlt
        have HI := Lib.hid hi64
        have BBL := Lib.hid hbb
        have RG := Lib.hid hrg
        have R0 := Lib.hid (show wr.rangeAt bb (oo + j * 5) (frL (l j)) from fun i v hv => (HS.out.low.cell (p := ⟨bb, oo + j * 5 + i, none⟩) BBL.out).trans (RG.out i v hv))
        clear hrg hi64 hbb h40 hlt hj40 hjN
        obtain ⟨M', a, er, hp1, hp2, hcase, hext, hle1, hle2, hwf⟩ := put_both HS.out.sx.wf HI.out (show M.length ≤ 900 by have := ML.out; have := J4.out; omega)
        have P1 := Lib.hid (And.intro hp1 hp2)
        have CS := Lib.hid hcase
        have EX := Lib.hid (And.intro hext (And.intro hle1 (And.intro hle2 hwf)))
        clear hp1 hp2 hcase hext hle1 hle2 hwf
        go_wp2_with (refine loadFr rfl _ rfl bb (oo + j * 5) (l j) rfl R0.out ?_)
        refine (gput (l j) HS.out HI.out (by have := ML.out; have := J4.out; omega)).mono ?_
        rintro e w3 ⟨rfl, hst, hk3, hs3⟩
        rw [P1.out.1] at hst ⊢
        dsimp only at hst ⊢
        have H3 := Lib.hid hst
        have O3 := Lib.hid (own_keep OW.out hk3)
        have R3 := Lib.hid (show w3.rangeAt bb (oo + j * 5) (frL (l j)) from fun i v hv => (hst.low.cell (p := ⟨bb, oo + j * 5 + i, none⟩) BBL.out).trans (RG.out i v hv))
        clear hst hk3 hs3 HS OW R0
        go_wp2_with (refine loadFr rfl _ rfl bb (oo + j * 5) (l j) rfl R3.out ?_)
        refine (gput (l j) H3.out HI.out (by have := ML.out; have := EX.out.2.2.1; have := J4.out; omega)).mono ?_
        rintro e w5 ⟨rfl, hst, hk5, hs5⟩
        rw [P1.out.2] at hst ⊢
        dsimp only at hst ⊢
        have H5 := Lib.hid hst
        have O5 := Lib.hid (own_keep O3.out hk5)
        clear hst hk5 hs5 H3 O3 R3
        go_wp2_with (at_builtin; refine wpList_append_own_at _ rfl _ _ 48 rfl w.heap.size 3 i0 _ 1 8 Try.underlying48 HI0.out.1 HI0.out.2.1 HI0.out.2.2.1 HI0.out.2.2.2 rfl (by decide) _ _ _ rfl (O5.out.alloc _) ⟨w5.heap.size, 0, none⟩ 1 1 [.int .i64 (a : Int)] rfl rfl (cell_one_new _ _ _) (fun u hu => by rw [List.mem_singleton] at hu; rw [hu]; rfl) (by unfold maxLen; have := J4.out; omega) (by have := J4.out; omega) (by rw [World.size_alloc]; have := H5.out.low.size; omega) ?_; intro v' w6 hown6 hgr6 _ hloc6)
        have L6 := Lib.hid (show w6.ownsRow w.heap.size 3 1 v' (j + 1) (idV (L ++ [a])) by
          have : idV (L ++ [a]) = idV L ++ [.int .i64 (a : Int)] := by simp [idV]
          rw [this]; exact hown6)
        have H6 := Lib.hid (H5.out.append ((Below.refl _ w5).alloc (Nat.le_refl _) _) hgr6 hloc6 (fun x hx => (O5.out.lt x hx).1) (fun x hx => (hown6.lt x hx).2))
        have LL := Lib.hid (show (L ++ [a]).length = j + 1 by rw [List.length_append, LJ.out]; rfl)
        have TM := Lib.hid (show Told M' l (L ++ [a]) from TD.out.more EX.out.1 EX.out.2.1 (fun hne => by
          rcases CS.out with ⟨-, e⟩ | ⟨-, k1, k2, k3⟩
          · exact absurd e hne
          · exact ⟨k1, k2, by rw [LJ.out]; exact k3⟩))
        clear hown6 hgr6 hloc6 H5 O5
        obtain ⟨g, c2, rfl, hg0, hg1, hgc⟩ := own_word L6.out (by omega) LL.out
        have hr6 : w6.rangeAt bb (oo + j * 5) (frL (l j)) := fun i v hv => (H6.out.low.cell (p := ⟨bb, oo + j * 5 + i, none⟩) BBL.out).trans (RG.out i v hv)
        have hbw : bb < w6.heap.size := Nat.lt_of_lt_of_le BBL.out H6.out.low.size
        have hS : Below w6.heap.size w6 w6.drew := (Below.refl _ w6).drew
        obtain ⟨b6, hst6, -⟩ := H6.out.st
        have rgS : ∀ u, Below w6.heap.size w6 u → u.rangeAt bb (oo + j * 5) (frL (l j)) := fun u hu i v hv => (hu.cell (p := ⟨bb, oo + j * 5 + i, none⟩) hbw).trans (hr6 i v hv)
        have xS : ∀ u, Below w6.heap.size w6 u → u.cell? ⟨bb, oo + j * 5 + 4, none⟩ = some (.int .i64 (l j).x) := fun u hu => rgS u hu 4 _ rfl
        rcases CS.out with ⟨rfl, rfl⟩ | ⟨rfl, ha1, ha2, ha3⟩
        · skip
          refine wp_region_held_drew (S := Below w6.heap.size w6) (by kernel_rfl) hS (fun _ => ?_)
          refine takeAt 0 55 (.int .i64 1) rfl rfl (by kernel_rfl) (by kernel_rfl) (by kernel_rfl) (fun _ _ _ h => h) (yields (by rfl) (fun w => by kernel_rfl)) hS ?_
          simp only [Act.put, List.setIfInBounds_toArray, List.set_cons_zero, List.set_cons_succ]
          refine takeAt 1 56 (.int .i64 1) rfl rfl (by kernel_rfl) (by kernel_rfl) (by kernel_rfl) (fun _ _ _ h => h) (yields (by rfl) (fun w => by kernel_rfl)) hS ?_
          simp only [Act.put, List.setIfInBounds_toArray, List.set_cons_zero, List.set_cons_succ]
          refine takeAt 2 57 (.bool false) rfl rfl (by kernel_rfl) (by kernel_rfl) (by kernel_rfl) (fun _ _ _ h => h) (neqE_y 1 rfl rfl rfl (by rfl)) hS ?_
          simp only [Act.put, List.setIfInBounds_toArray, List.set_cons_zero, List.set_cons_succ]
          refine takeAt 3 58 (.bool false) rfl rfl (by kernel_rfl) (by kernel_rfl) (by kernel_rfl) (fun _ _ _ h => h) (yields (by rfl) (fun w => by kernel_rfl)) hS ?_
          simp only [Act.put, List.setIfInBounds_toArray, List.set_cons_zero, List.set_cons_succ]
          refine takeAt 4 59 (.int .i64 ((0 : Nat) : Int)) rfl rfl (by kernel_rfl) (by kernel_rfl) (by kernel_rfl) (fun _ _ _ h => h) (yields (by rfl) (fun w => by kernel_rfl)) hS ?_
          simp only [Act.put, List.setIfInBounds_toArray, List.set_cons_zero, List.set_cons_succ]
          refine takeAt 5 60 (.int .i64 ((0 : Nat) : Int)) rfl rfl (by kernel_rfl) (by kernel_rfl) (by kernel_rfl) (fun _ _ _ h => h) (yields (by rfl) (fun w => by kernel_rfl)) hS ?_
          simp only [Act.put, List.setIfInBounds_toArray, List.set_cons_zero, List.set_cons_succ]
          refine takeAt 6 61 (.bool false) rfl rfl (by kernel_rfl) (by kernel_rfl) (by kernel_rfl) (fun _ _ _ h => h) (neqI_y ((0 : Nat) : Int) rfl rfl rfl (by rfl)) hS ?_
          simp only [Act.put, List.setIfInBounds_toArray, List.set_cons_zero, List.set_cons_succ]
          refine takeAt 7 62 (.bool false) rfl rfl (by kernel_rfl) (by kernel_rfl) (by kernel_rfl) (fun _ _ _ h => h) (yields (by rfl) (fun w => by kernel_rfl)) hS ?_
          simp only [Act.put, List.setIfInBounds_toArray, List.set_cons_zero, List.set_cons_succ]
          refine takeAt 8 63 (.bool false) rfl rfl (by kernel_rfl) (by kernel_rfl) (by kernel_rfl) (fun _ _ _ h => h) (yields (by rfl) (fun w => by kernel_rfl)) hS ?_
          simp only [Act.put, List.setIfInBounds_toArray, List.set_cons_zero, List.set_cons_succ]
          refine takeAt 9 64 (.int .i64 1) rfl rfl (by kernel_rfl) (by kernel_rfl) (by kernel_rfl) (fun _ _ _ h => h) (yields (by rfl) (fun w => by kernel_rfl)) hS ?_
          simp only [Act.put, List.setIfInBounds_toArray, List.set_cons_zero, List.set_cons_succ]
          refine takeAt 10 65 (.bool true) rfl rfl (by kernel_rfl) (by kernel_rfl) (by kernel_rfl) (fun _ _ _ h => h) (neE_y 1 0 true (by decide) rfl rfl rfl (by rfl)) hS ?_
          simp only [Act.put, List.setIfInBounds_toArray, List.set_cons_zero, List.set_cons_succ]
          refine takeAt 11 66 (.bool true) rfl rfl (by kernel_rfl) (by kernel_rfl) (by kernel_rfl) (fun _ _ _ h => h) (yields (by rfl) (fun w => by kernel_rfl)) hS ?_
          simp only [Act.put, List.setIfInBounds_toArray, List.set_cons_zero, List.set_cons_succ]
          refine takeAt 12 67 (.int .i64 1) rfl rfl (by kernel_rfl) (by kernel_rfl) (by kernel_rfl) (fun _ _ _ h => h) (yields (by rfl) (fun w => by kernel_rfl)) hS ?_
          simp only [Act.put, List.setIfInBounds_toArray, List.set_cons_zero, List.set_cons_succ]
          refine takeAt 13 68 (.bool false) rfl rfl (by kernel_rfl) (by kernel_rfl) (by kernel_rfl) (fun _ _ _ h => h) (neE_y 1 1 false (by decide) rfl rfl rfl (by rfl)) hS ?_
          simp only [Act.put, List.setIfInBounds_toArray, List.set_cons_zero, List.set_cons_succ]
          refine takeAt 14 69 (.bool false) rfl rfl (by kernel_rfl) (by kernel_rfl) (by kernel_rfl) (fun _ _ _ h => h) (yields (by rfl) (fun w => by kernel_rfl)) hS ?_
          simp only [Act.put, List.setIfInBounds_toArray, List.set_cons_zero, List.set_cons_succ]
          refine takeAt 15 70 (.bool false) rfl rfl (by kernel_rfl) (by kernel_rfl) (by kernel_rfl) (fun _ _ _ h => h) (yields (by rfl) (fun w => by kernel_rfl)) hS ?_
          simp only [Act.put, List.setIfInBounds_toArray, List.set_cons_zero, List.set_cons_succ]
          refine takeAt 16 71 (.bool false) rfl rfl (by kernel_rfl) (by kernel_rfl) (by kernel_rfl) (fun _ _ _ h => h) (yields (by rfl) (fun w => by kernel_rfl)) hS ?_
          simp only [Act.put, List.setIfInBounds_toArray, List.set_cons_zero, List.set_cons_succ]
          refine takeAt 17 72 (.int .i64 1) rfl rfl (by kernel_rfl) (by kernel_rfl) (by kernel_rfl) (fun _ _ _ h => h) (yields (by rfl) (fun w => by kernel_rfl)) hS ?_
          simp only [Act.put, List.setIfInBounds_toArray, List.set_cons_zero, List.set_cons_succ]
          refine takeAt 18 73 (.bool false) rfl rfl (by kernel_rfl) (by kernel_rfl) (by kernel_rfl) (fun _ _ _ h => h) (eqE_y 1 0 false (by decide) rfl rfl rfl (by rfl)) hS ?_
          simp only [Act.put, List.setIfInBounds_toArray, List.set_cons_zero, List.set_cons_succ]
          refine takeAt 19 74 (.bool false) rfl rfl (by kernel_rfl) (by kernel_rfl) (by kernel_rfl) (fun _ _ _ h => h) (yields (by rfl) (fun w => by kernel_rfl)) hS ?_
          simp only [Act.put, List.setIfInBounds_toArray, List.set_cons_zero, List.set_cons_succ]
          refine takeAt 20 75 (undef) rfl rfl (by kernel_rfl) (by kernel_rfl) (by kernel_rfl) (fun _ _ _ h => h) (skipped (by rfl)) hS ?_
          simp only [Act.put, List.setIfInBounds_toArray, List.set_cons_zero, List.set_cons_succ]
          refine takeAt 21 76 (undef) rfl rfl (by kernel_rfl) (by kernel_rfl) (by kernel_rfl) (fun _ _ _ h => h) (skipped (by rfl)) hS ?_
          simp only [Act.put, List.setIfInBounds_toArray, List.set_cons_zero, List.set_cons_succ]
          refine takeAt 22 77 (undef) rfl rfl (by kernel_rfl) (by kernel_rfl) (by kernel_rfl) (fun _ _ _ h => h) (skipped (by rfl)) hS ?_
          simp only [Act.put, List.setIfInBounds_toArray, List.set_cons_zero, List.set_cons_succ]
          refine takeAt 23 78 (undef) rfl rfl (by kernel_rfl) (by kernel_rfl) (by kernel_rfl) (fun _ _ _ h => h) (skipped (by rfl)) hS ?_
          simp only [Act.put, List.setIfInBounds_toArray, List.set_cons_zero, List.set_cons_succ]
          refine takeAt 24 79 (undef) rfl rfl (by kernel_rfl) (by kernel_rfl) (by kernel_rfl) (fun _ _ _ h => h) (skipped (by rfl)) hS ?_
          simp only [Act.put, List.setIfInBounds_toArray, List.set_cons_zero, List.set_cons_succ]
          refine takeAt 25 80 (undef) rfl rfl (by kernel_rfl) (by kernel_rfl) (by kernel_rfl) (fun _ _ _ h => h) (skipped (by rfl)) hS ?_
          simp only [Act.put, List.setIfInBounds_toArray, List.set_cons_zero, List.set_cons_succ]
          refine takeAt 26 81 (undef) rfl rfl (by kernel_rfl) (by kernel_rfl) (by kernel_rfl) (fun _ _ _ h => h) (skipped (by rfl)) hS ?_
          simp only [Act.put, List.setIfInBounds_toArray, List.set_cons_zero, List.set_cons_succ]
          refine takeAt 27 82 (undef) rfl rfl (by kernel_rfl) (by kernel_rfl) (by kernel_rfl) (fun _ _ _ h => h) (skipped (by rfl)) hS ?_
          simp only [Act.put, List.setIfInBounds_toArray, List.set_cons_zero, List.set_cons_succ]
          refine takeAt 28 83 (undef) rfl rfl (by kernel_rfl) (by kernel_rfl) (by kernel_rfl) (fun _ _ _ h => h) (skipped (by rfl)) hS ?_
          simp only [Act.put, List.setIfInBounds_toArray, List.set_cons_zero, List.set_cons_succ]
          refine takeAt 29 84 (undef) rfl rfl (by kernel_rfl) (by kernel_rfl) (by kernel_rfl) (fun _ _ _ h => h) (skipped (by rfl)) hS ?_
          simp only [Act.put, List.setIfInBounds_toArray, List.set_cons_zero, List.set_cons_succ]
          refine takeAt 30 85 (undef) rfl rfl (by kernel_rfl) (by kernel_rfl) (by kernel_rfl) (fun _ _ _ h => h) (skipped (by rfl)) hS ?_
          simp only [Act.put, List.setIfInBounds_toArray, List.set_cons_zero, List.set_cons_succ]
          refine takeAt 31 86 (undef) rfl rfl (by kernel_rfl) (by kernel_rfl) (by kernel_rfl) (fun _ _ _ h => h) (skipped (by rfl)) hS ?_
          simp only [Act.put, List.setIfInBounds_toArray, List.set_cons_zero, List.set_cons_succ]
          refine takeAt 32 87 (undef) rfl rfl (by kernel_rfl) (by kernel_rfl) (by kernel_rfl) (fun _ _ _ h => h) (skipped (by rfl)) hS ?_
          simp only [Act.put, List.setIfInBounds_toArray, List.set_cons_zero, List.set_cons_succ]
          refine takeAt 33 88 (undef) rfl rfl (by kernel_rfl) (by kernel_rfl) (by kernel_rfl) (fun _ _ _ h => h) (skipped (by rfl)) hS ?_
          simp only [Act.put, List.setIfInBounds_toArray, List.set_cons_zero, List.set_cons_succ]
          refine takeAt 34 89 (undef) rfl rfl (by kernel_rfl) (by kernel_rfl) (by kernel_rfl) (fun _ _ _ h => h) (skipped (by rfl)) hS ?_
          simp only [Act.put, List.setIfInBounds_toArray, List.set_cons_zero, List.set_cons_succ]
          refine takeAt 35 90 (undef) rfl rfl (by kernel_rfl) (by kernel_rfl) (by kernel_rfl) (fun _ _ _ h => h) (skipped (by rfl)) hS ?_
          simp only [Act.put, List.setIfInBounds_toArray, List.set_cons_zero, List.set_cons_succ]
          refine takeAt 36 91 (undef) rfl rfl (by kernel_rfl) (by kernel_rfl) (by kernel_rfl) (fun _ _ _ h => h) (skipped (by rfl)) hS ?_
          simp only [Act.put, List.setIfInBounds_toArray, List.set_cons_zero, List.set_cons_succ]
          refine takeAt 37 92 (undef) rfl rfl (by kernel_rfl) (by kernel_rfl) (by kernel_rfl) (fun _ _ _ h => h) (skipped (by rfl)) hS ?_
          simp only [Act.put, List.setIfInBounds_toArray, List.set_cons_zero, List.set_cons_succ]
          refine takeAt 38 93 (undef) rfl rfl (by kernel_rfl) (by kernel_rfl) (by kernel_rfl) (fun _ _ _ h => h) (skipped (by rfl)) hS ?_
          simp only [Act.put, List.setIfInBounds_toArray, List.set_cons_zero, List.set_cons_succ]
          refine takeAt 39 94 (undef) rfl rfl (by kernel_rfl) (by kernel_rfl) (by kernel_rfl) (fun _ _ _ h => h) (skipped (by rfl)) hS ?_
          simp only [Act.put, List.setIfInBounds_toArray, List.set_cons_zero, List.set_cons_succ]
          refine takeAt 40 95 (undef) rfl rfl (by kernel_rfl) (by kernel_rfl) (by kernel_rfl) (fun _ _ _ h => h) (skipped (by rfl)) hS ?_
          simp only [Act.put, List.setIfInBounds_toArray, List.set_cons_zero, List.set_cons_succ]
          refine takeAt 41 96 (undef) rfl rfl (by kernel_rfl) (by kernel_rfl) (by kernel_rfl) (fun _ _ _ h => h) (skipped (by rfl)) hS ?_
          simp only [Act.put, List.setIfInBounds_toArray, List.set_cons_zero, List.set_cons_succ]
          refine takeAt 42 97 (undef) rfl rfl (by kernel_rfl) (by kernel_rfl) (by kernel_rfl) (fun _ _ _ h => h) (skipped (by rfl)) hS ?_
          simp only [Act.put, List.setIfInBounds_toArray, List.set_cons_zero, List.set_cons_succ]
          refine takeAt 43 98 (undef) rfl rfl (by kernel_rfl) (by kernel_rfl) (by kernel_rfl) (fun _ _ _ h => h) (skipped (by rfl)) hS ?_
          simp only [Act.put, List.setIfInBounds_toArray, List.set_cons_zero, List.set_cons_succ]
          refine takeAt 44 99 (undef) rfl rfl (by kernel_rfl) (by kernel_rfl) (by kernel_rfl) (fun _ _ _ h => h) (skipped (by rfl)) hS ?_
          simp only [Act.put, List.setIfInBounds_toArray, List.set_cons_zero, List.set_cons_succ]
          refine takeAt 45 100 (undef) rfl rfl (by kernel_rfl) (by kernel_rfl) (by kernel_rfl) (fun _ _ _ h => h) (skipped (by rfl)) hS ?_
          simp only [Act.put, List.setIfInBounds_toArray, List.set_cons_zero, List.set_cons_succ]
          refine takeAt 46 101 (undef) rfl rfl (by kernel_rfl) (by kernel_rfl) (by kernel_rfl) (fun _ _ _ h => h) (skipped (by rfl)) hS ?_
          simp only [Act.put, List.setIfInBounds_toArray, List.set_cons_zero, List.set_cons_succ]
          refine takeAt 47 102 (.bool false) rfl rfl (by kernel_rfl) (by kernel_rfl) (by kernel_rfl) (fun _ _ _ h => h) (yields (by rfl) (fun w => by kernel_rfl)) hS ?_
          simp only [Act.put, List.setIfInBounds_toArray, List.set_cons_zero, List.set_cons_succ]
          refine takeAt 48 103 (.bool false) rfl rfl (by kernel_rfl) (by kernel_rfl) (by kernel_rfl) (fun _ _ _ h => h) (yields (by rfl) (fun w => by kernel_rfl)) hS ?_
          simp only [Act.put, List.setIfInBounds_toArray, List.set_cons_zero, List.set_cons_succ]
          refine takeAt 49 104 (.bool false) rfl rfl (by kernel_rfl) (by kernel_rfl) (by kernel_rfl) (fun _ _ _ h => h) (yields (by rfl) (fun w => by kernel_rfl)) hS ?_
          simp only [Act.put, List.setIfInBounds_toArray, List.set_cons_zero, List.set_cons_succ]
          refine takeAt 50 105 (.int .i64 1) rfl rfl (by kernel_rfl) (by kernel_rfl) (by kernel_rfl) (fun _ _ _ h => h) (yields (by rfl) (fun w => by kernel_rfl)) hS ?_
          simp only [Act.put, List.setIfInBounds_toArray, List.set_cons_zero, List.set_cons_succ]
          refine takeAt 51 106 (.bool true) rfl rfl (by kernel_rfl) (by kernel_rfl) (by kernel_rfl) (fun _ _ _ h => h) (neE_y 1 0 true (by decide) rfl rfl rfl (by rfl)) hS ?_
          simp only [Act.put, List.setIfInBounds_toArray, List.set_cons_zero, List.set_cons_succ]
          refine takeAt 52 107 (.bool true) rfl rfl (by kernel_rfl) (by kernel_rfl) (by kernel_rfl) (fun _ _ _ h => h) (yields (by rfl) (fun w => by kernel_rfl)) hS ?_
          simp only [Act.put, List.setIfInBounds_toArray, List.set_cons_zero, List.set_cons_succ]
          refine takeAt 53 108 (.int .i64 ((0 : Nat) : Int)) rfl rfl (by kernel_rfl) (by kernel_rfl) (by kernel_rfl) (fun _ _ _ h => h) (yields (by rfl) (fun w => by kernel_rfl)) hS ?_
          simp only [Act.put, List.setIfInBounds_toArray, List.set_cons_zero, List.set_cons_succ]
          refine takeAt 54 109 (.bool false) rfl rfl (by kernel_rfl) (by kernel_rfl) (by kernel_rfl) (fun _ _ _ h => h) (neqI_y ((0 : Nat) : Int) rfl rfl rfl (by rfl)) hS ?_
          simp only [Act.put, List.setIfInBounds_toArray, List.set_cons_zero, List.set_cons_succ]
          refine takeAt 55 110 (.bool false) rfl rfl (by kernel_rfl) (by kernel_rfl) (by kernel_rfl) (fun _ _ _ h => h) (yields (by rfl) (fun w => by kernel_rfl)) hS ?_
          simp only [Act.put, List.setIfInBounds_toArray, List.set_cons_zero, List.set_cons_succ]
          refine takeAt 56 111 (.bool false) rfl rfl (by kernel_rfl) (by kernel_rfl) (by kernel_rfl) (fun _ _ _ h => h) (yields (by rfl) (fun w => by kernel_rfl)) hS ?_
          simp only [Act.put, List.setIfInBounds_toArray, List.set_cons_zero, List.set_cons_succ]
          refine wpAnyH_done (by kernel_rfl) ?_ _
          have B7 := Lib.hid hS
          have GC := Lib.hid (And.intro hg1 hgc)
          have G0 := Lib.hid hbw
          clear hS
          clear hst6 rgS xS hr6 hg0 hg1 hgc hbw
          go_wp2_with fail
          go_loopw [11] (fun kk wr => ∃ k : Nat, kk = .int .i64 (k : Int) ∧ k ≤ j ∧ Below w6.heap.size w6 wr) (fun kk _ => j - (intOf kk).toNat)
          case atStart => exact ⟨0, rfl, Nat.zero_le _, B7.out⟩
          case round =>
            obtain ⟨k, rfl, hkj, hb⟩ := hrel
            have BB := Lib.hid hb
            have k0 : (0 : Int) ≤ k := by omega
            clear hb
            by_cases hlt : k < j
            · have kj : (k : Int) < j := by omega
              have KJ := Lib.hid hlt
              clear hlt hkj
              go_wp2_with fail
              have hS : wr.drew = wr.drew := rfl
              refine wp_region_held_drew (S := (· = wr.drew)) (by kernel_rfl) hS (fun _ => ?_)
              refine takeAt 0 117 (.int .i64 ((0 : Nat) : Int)) rfl rfl (by kernel_rfl) (by kernel_rfl) (by kernel_rfl) (fun _ _ _ h => h) (yields (by rfl) (fun w => by kernel_rfl)) hS ?_
              simp only [Act.put, List.setIfInBounds_toArray, List.set_cons_zero, List.set_cons_succ]
              refine takeAt 1 118 (.bool false) rfl rfl (by kernel_rfl) (by kernel_rfl) (by kernel_rfl) (fun _ _ _ h => h) (gtr_y ((0 : Nat) : Int) 0 false (by decide) rfl rfl rfl (by rfl)) hS ?_
              simp only [Act.put, List.setIfInBounds_toArray, List.set_cons_zero, List.set_cons_succ]
              refine takeAt 2 119 (.bool false) rfl rfl (by kernel_rfl) (by kernel_rfl) (by kernel_rfl) (fun _ _ _ h => h) (yields (by rfl) (fun w => by kernel_rfl)) hS ?_
              simp only [Act.put, List.setIfInBounds_toArray, List.set_cons_zero, List.set_cons_succ]
              refine takeAt 3 120 (undef) rfl rfl (by kernel_rfl) (by kernel_rfl) (by kernel_rfl) (fun _ _ _ h => h) (skipped (by rfl)) hS ?_
              simp only [Act.put, List.setIfInBounds_toArray, List.set_cons_zero, List.set_cons_succ]
              refine takeAt 4 121 (undef) rfl rfl (by kernel_rfl) (by kernel_rfl) (by kernel_rfl) (fun _ _ _ h => h) (skipped (by rfl)) hS ?_
              simp only [Act.put, List.setIfInBounds_toArray, List.set_cons_zero, List.set_cons_succ]
              refine takeAt 5 122 (undef) rfl rfl (by kernel_rfl) (by kernel_rfl) (by kernel_rfl) (fun _ _ _ h => h) (skipped (by rfl)) hS ?_
              simp only [Act.put, List.setIfInBounds_toArray, List.set_cons_zero, List.set_cons_succ]
              refine takeAt 6 123 (undef) rfl rfl (by kernel_rfl) (by kernel_rfl) (by kernel_rfl) (fun _ _ _ h => h) (skipped (by rfl)) hS ?_
              simp only [Act.put, List.setIfInBounds_toArray, List.set_cons_zero, List.set_cons_succ]
              refine takeAt 7 124 (undef) rfl rfl (by kernel_rfl) (by kernel_rfl) (by kernel_rfl) (fun _ _ _ h => h) (skipped (by rfl)) hS ?_
              simp only [Act.put, List.setIfInBounds_toArray, List.set_cons_zero, List.set_cons_succ]
              refine takeAt 8 125 (undef) rfl rfl (by kernel_rfl) (by kernel_rfl) (by kernel_rfl) (fun _ _ _ h => h) (skipped (by rfl)) hS ?_
              simp only [Act.put, List.setIfInBounds_toArray, List.set_cons_zero, List.set_cons_succ]
              refine takeAt 9 126 (undef) rfl rfl (by kernel_rfl) (by kernel_rfl) (by kernel_rfl) (fun _ _ _ h => h) (skipped (by rfl)) hS ?_
              simp only [Act.put, List.setIfInBounds_toArray, List.set_cons_zero, List.set_cons_succ]
              refine takeAt 10 127 (undef) rfl rfl (by kernel_rfl) (by kernel_rfl) (by kernel_rfl) (fun _ _ _ h => h) (skipped (by rfl)) hS ?_
              simp only [Act.put, List.setIfInBounds_toArray, List.set_cons_zero, List.set_cons_succ]
              refine takeAt 11 128 (undef) rfl rfl (by kernel_rfl) (by kernel_rfl) (by kernel_rfl) (fun _ _ _ h => h) (skipped (by rfl)) hS ?_
              simp only [Act.put, List.setIfInBounds_toArray, List.set_cons_zero, List.set_cons_succ]
              refine takeAt 12 129 (undef) rfl rfl (by kernel_rfl) (by kernel_rfl) (by kernel_rfl) (fun _ _ _ h => h) (skipped (by rfl)) hS ?_
              simp only [Act.put, List.setIfInBounds_toArray, List.set_cons_zero, List.set_cons_succ]
              refine takeAt 13 130 (undef) rfl rfl (by kernel_rfl) (by kernel_rfl) (by kernel_rfl) (fun _ _ _ h => h) (skipped (by rfl)) hS ?_
              simp only [Act.put, List.setIfInBounds_toArray, List.set_cons_zero, List.set_cons_succ]
              refine takeAt 14 131 (undef) rfl rfl (by kernel_rfl) (by kernel_rfl) (by kernel_rfl) (fun _ _ _ h => h) (skipped (by rfl)) hS ?_
              simp only [Act.put, List.setIfInBounds_toArray, List.set_cons_zero, List.set_cons_succ]
              refine takeAt 15 132 (undef) rfl rfl (by kernel_rfl) (by kernel_rfl) (by kernel_rfl) (fun _ _ _ h => h) (skipped (by rfl)) hS ?_
              simp only [Act.put, List.setIfInBounds_toArray, List.set_cons_zero, List.set_cons_succ]
              refine takeAt 16 133 (undef) rfl rfl (by kernel_rfl) (by kernel_rfl) (by kernel_rfl) (fun _ _ _ h => h) (skipped (by rfl)) hS ?_
              simp only [Act.put, List.setIfInBounds_toArray, List.set_cons_zero, List.set_cons_succ]
              refine takeAt 17 134 (undef) rfl rfl (by kernel_rfl) (by kernel_rfl) (by kernel_rfl) (fun _ _ _ h => h) (skipped (by rfl)) hS ?_
              simp only [Act.put, List.setIfInBounds_toArray, List.set_cons_zero, List.set_cons_succ]
              refine takeAt 18 135 (undef) rfl rfl (by kernel_rfl) (by kernel_rfl) (by kernel_rfl) (fun _ _ _ h => h) (skipped (by rfl)) hS ?_
              simp only [Act.put, List.setIfInBounds_toArray, List.set_cons_zero, List.set_cons_succ]
              refine takeAt 19 136 (undef) rfl rfl (by kernel_rfl) (by kernel_rfl) (by kernel_rfl) (fun _ _ _ h => h) (skipped (by rfl)) hS ?_
              simp only [Act.put, List.setIfInBounds_toArray, List.set_cons_zero, List.set_cons_succ]
              refine takeAt 20 137 (undef) rfl rfl (by kernel_rfl) (by kernel_rfl) (by kernel_rfl) (fun _ _ _ h => h) (skipped (by rfl)) hS ?_
              simp only [Act.put, List.setIfInBounds_toArray, List.set_cons_zero, List.set_cons_succ]
              refine takeAt 21 138 (undef) rfl rfl (by kernel_rfl) (by kernel_rfl) (by kernel_rfl) (fun _ _ _ h => h) (skipped (by rfl)) hS ?_
              simp only [Act.put, List.setIfInBounds_toArray, List.set_cons_zero, List.set_cons_succ]
              refine takeAt 22 139 (undef) rfl rfl (by kernel_rfl) (by kernel_rfl) (by kernel_rfl) (fun _ _ _ h => h) (skipped (by rfl)) hS ?_
              simp only [Act.put, List.setIfInBounds_toArray, List.set_cons_zero, List.set_cons_succ]
              refine takeAt 23 140 (undef) rfl rfl (by kernel_rfl) (by kernel_rfl) (by kernel_rfl) (fun _ _ _ h => h) (skipped (by rfl)) hS ?_
              simp only [Act.put, List.setIfInBounds_toArray, List.set_cons_zero, List.set_cons_succ]
              refine takeAt 24 141 (undef) rfl rfl (by kernel_rfl) (by kernel_rfl) (by kernel_rfl) (fun _ _ _ h => h) (skipped (by rfl)) hS ?_
              simp only [Act.put, List.setIfInBounds_toArray, List.set_cons_zero, List.set_cons_succ]
              refine takeAt 25 142 (undef) rfl rfl (by kernel_rfl) (by kernel_rfl) (by kernel_rfl) (fun _ _ _ h => h) (skipped (by rfl)) hS ?_
              simp only [Act.put, List.setIfInBounds_toArray, List.set_cons_zero, List.set_cons_succ]
              refine takeAt 26 143 (.bool false) rfl rfl (by kernel_rfl) (by kernel_rfl) (by kernel_rfl) (fun _ _ _ h => h) (yields (by rfl) (fun w => by kernel_rfl)) hS ?_
              simp only [Act.put, List.setIfInBounds_toArray, List.set_cons_zero, List.set_cons_succ]
              refine wpAnyH_done (by kernel_rfl) ?_ _
              clear hS
              go_wp2_with fail
              go_roundw
              case rel => exact ⟨k + 1, by go_num, by have := KJ.out; omega, BB.out.drew⟩
              case measure => simp [intOf]; have := KJ.out; omega
            · obtain rfl : k = j := by omega
              clear hlt hkj
              go_wp2_with fail
              go_roundw
              case rel => exact ⟨k + 1, M', L ++ [0], by go_num, by have := J4.out; omega, by have := JN.out; omega, H6.out.call BB.out, own_keep L6.out (fun x hx => BB.out.block x (L6.out.lt x hx).2), LL.out, TM.out, by have := ML.out; have := EX.out.2.2.1; omega⟩
              case measure => simp [intOf]; have := J4.out; omega
        · have hmx := EX.out.2.2.2.may a ha1 ha2
          rw [ha3] at hmx
          have hxx := mayF_x hmx.1
          have hxa : ¬ ((a : Int) ≤ (l j).x) := by omega
          have hdd : dpF M' (a : Int) = dpF M' (l j).x + 1 := by
            unfold dpF
            rw [if_pos (by omega), if_pos (by omega), Int.toNat_natCast]
            exact hmx.2.2
          have hdm : dpF M' (l j).x ≤ 1000000 := by
            unfold dpF
            split
            · have := EX.out.2.2.2.deep (l j).x.toNat (l j).x.toNat (Nat.le_refl _)
              have := ML.out; have := EX.out.2.2.1; have := J4.out
              omega
            · omega
          have dA : ∀ u, Below w6.heap.size w6 u → Calls Try.prog 16 #[ptr p, .int .i64 (a : Int)] u fun e w' => e = .returned (.int .i64 ((dpF M' (l j).x + 1 : Nat) : Int)) ∧ Below u.heap.size u w' := fun u hu => by
            have := deep_any p b6 m 1000 M' (a : Int) u (hst6.below hu (Nat.le_refl _))
            rwa [hdd] at this
          clear hxx
          refine wp_region_held_drew (S := Below w6.heap.size w6) (by kernel_rfl) hS (fun _ => ?_)
          refine takeAt 0 55 (.int .i64 0) rfl rfl (by kernel_rfl) (by kernel_rfl) (by kernel_rfl) (fun _ _ _ h => h) (yields (by rfl) (fun w => by kernel_rfl)) hS ?_
          simp only [Act.put, List.setIfInBounds_toArray, List.set_cons_zero, List.set_cons_succ]
          refine takeAt 1 56 (.int .i64 0) rfl rfl (by kernel_rfl) (by kernel_rfl) (by kernel_rfl) (fun _ _ _ h => h) (yields (by rfl) (fun w => by kernel_rfl)) hS ?_
          simp only [Act.put, List.setIfInBounds_toArray, List.set_cons_zero, List.set_cons_succ]
          refine takeAt 2 57 (.bool false) rfl rfl (by kernel_rfl) (by kernel_rfl) (by kernel_rfl) (fun _ _ _ h => h) (neqE_y 0 rfl rfl rfl (by rfl)) hS ?_
          simp only [Act.put, List.setIfInBounds_toArray, List.set_cons_zero, List.set_cons_succ]
          refine takeAt 3 58 (.bool false) rfl rfl (by kernel_rfl) (by kernel_rfl) (by kernel_rfl) (fun _ _ _ h => h) (yields (by rfl) (fun w => by kernel_rfl)) hS ?_
          simp only [Act.put, List.setIfInBounds_toArray, List.set_cons_zero, List.set_cons_succ]
          refine takeAt 4 59 (.int .i64 (a : Int)) rfl rfl (by kernel_rfl) (by kernel_rfl) (by kernel_rfl) (fun _ _ _ h => h) (yields (by rfl) (fun w => by kernel_rfl)) hS ?_
          simp only [Act.put, List.setIfInBounds_toArray, List.set_cons_zero, List.set_cons_succ]
          refine takeAt 5 60 (.int .i64 (a : Int)) rfl rfl (by kernel_rfl) (by kernel_rfl) (by kernel_rfl) (fun _ _ _ h => h) (yields (by rfl) (fun w => by kernel_rfl)) hS ?_
          simp only [Act.put, List.setIfInBounds_toArray, List.set_cons_zero, List.set_cons_succ]
          refine takeAt 6 61 (.bool false) rfl rfl (by kernel_rfl) (by kernel_rfl) (by kernel_rfl) (fun _ _ _ h => h) (neqI_y (a : Int) rfl rfl rfl (by rfl)) hS ?_
          simp only [Act.put, List.setIfInBounds_toArray, List.set_cons_zero, List.set_cons_succ]
          refine takeAt 7 62 (.bool false) rfl rfl (by kernel_rfl) (by kernel_rfl) (by kernel_rfl) (fun _ _ _ h => h) (yields (by rfl) (fun w => by kernel_rfl)) hS ?_
          simp only [Act.put, List.setIfInBounds_toArray, List.set_cons_zero, List.set_cons_succ]
          refine takeAt 8 63 (.bool false) rfl rfl (by kernel_rfl) (by kernel_rfl) (by kernel_rfl) (fun _ _ _ h => h) (yields (by rfl) (fun w => by kernel_rfl)) hS ?_
          simp only [Act.put, List.setIfInBounds_toArray, List.set_cons_zero, List.set_cons_succ]
          refine takeAt 9 64 (.int .i64 0) rfl rfl (by kernel_rfl) (by kernel_rfl) (by kernel_rfl) (fun _ _ _ h => h) (yields (by rfl) (fun w => by kernel_rfl)) hS ?_
          simp only [Act.put, List.setIfInBounds_toArray, List.set_cons_zero, List.set_cons_succ]
          refine takeAt 10 65 (.bool false) rfl rfl (by kernel_rfl) (by kernel_rfl) (by kernel_rfl) (fun _ _ _ h => h) (neE_y 0 0 false (by decide) rfl rfl rfl (by rfl)) hS ?_
          simp only [Act.put, List.setIfInBounds_toArray, List.set_cons_zero, List.set_cons_succ]
          refine takeAt 11 66 (.bool false) rfl rfl (by kernel_rfl) (by kernel_rfl) (by kernel_rfl) (fun _ _ _ h => h) (yields (by rfl) (fun w => by kernel_rfl)) hS ?_
          simp only [Act.put, List.setIfInBounds_toArray, List.set_cons_zero, List.set_cons_succ]
          refine takeAt 12 67 (undef) rfl rfl (by kernel_rfl) (by kernel_rfl) (by kernel_rfl) (fun _ _ _ h => h) (skipped (by rfl)) hS ?_
          simp only [Act.put, List.setIfInBounds_toArray, List.set_cons_zero, List.set_cons_succ]
          refine takeAt 13 68 (undef) rfl rfl (by kernel_rfl) (by kernel_rfl) (by kernel_rfl) (fun _ _ _ h => h) (skipped (by rfl)) hS ?_
          simp only [Act.put, List.setIfInBounds_toArray, List.set_cons_zero, List.set_cons_succ]
          refine takeAt 14 69 (.bool false) rfl rfl (by kernel_rfl) (by kernel_rfl) (by kernel_rfl) (fun _ _ _ h => h) (yields (by rfl) (fun w => by kernel_rfl)) hS ?_
          simp only [Act.put, List.setIfInBounds_toArray, List.set_cons_zero, List.set_cons_succ]
          refine takeAt 15 70 (.bool false) rfl rfl (by kernel_rfl) (by kernel_rfl) (by kernel_rfl) (fun _ _ _ h => h) (yields (by rfl) (fun w => by kernel_rfl)) hS ?_
          simp only [Act.put, List.setIfInBounds_toArray, List.set_cons_zero, List.set_cons_succ]
          refine takeAt 16 71 (.bool false) rfl rfl (by kernel_rfl) (by kernel_rfl) (by kernel_rfl) (fun _ _ _ h => h) (yields (by rfl) (fun w => by kernel_rfl)) hS ?_
          simp only [Act.put, List.setIfInBounds_toArray, List.set_cons_zero, List.set_cons_succ]
          refine takeAt 17 72 (.int .i64 0) rfl rfl (by kernel_rfl) (by kernel_rfl) (by kernel_rfl) (fun _ _ _ h => h) (yields (by rfl) (fun w => by kernel_rfl)) hS ?_
          simp only [Act.put, List.setIfInBounds_toArray, List.set_cons_zero, List.set_cons_succ]
          refine takeAt 18 73 (.bool true) rfl rfl (by kernel_rfl) (by kernel_rfl) (by kernel_rfl) (fun _ _ _ h => h) (eqE_y 0 0 true (by decide) rfl rfl rfl (by rfl)) hS ?_
          simp only [Act.put, List.setIfInBounds_toArray, List.set_cons_zero, List.set_cons_succ]
          refine takeAt 19 74 (.bool true) rfl rfl (by kernel_rfl) (by kernel_rfl) (by kernel_rfl) (fun _ _ _ h => h) (yields (by rfl) (fun w => by kernel_rfl)) hS ?_
          simp only [Act.put, List.setIfInBounds_toArray, List.set_cons_zero, List.set_cons_succ]
          refine takeAt 20 75 (.slice (some ⟨bb, oo, none⟩) N cap) rfl rfl (by kernel_rfl) (by kernel_rfl) (by kernel_rfl) (fun _ _ _ h => h) (yields (by rfl) (fun w => by kernel_rfl)) hS ?_
          simp only [Act.put, List.setIfInBounds_toArray, List.set_cons_zero, List.set_cons_succ]
          refine takeAt 21 76 (.int .i64 (j : Int)) rfl rfl (by kernel_rfl) (by kernel_rfl) (by kernel_rfl) (fun _ _ _ h => h) (yields (by rfl) (fun w => by kernel_rfl)) hS ?_
          simp only [Act.put, List.setIfInBounds_toArray, List.set_cons_zero, List.set_cons_succ]
          refine takeAt 22 77 (.pointer (some ⟨bb, oo + j * 5, none⟩)) rfl rfl (by kernel_rfl) (by kernel_rfl) (by kernel_rfl) (fun _ _ _ h => h) (Or.inl ⟨by rfl, fun u _ => by unfold execOp; go_simp⟩) hS ?_
          simp only [Act.put, List.setIfInBounds_toArray, List.set_cons_zero, List.set_cons_succ]
          refine takeAt 23 78 (.pointer (some ⟨bb, oo + j * 5 + 4, none⟩)) rfl rfl (by kernel_rfl) (by kernel_rfl) (by kernel_rfl) (fun _ _ _ h => h) (yields (by rfl) (fun w => by kernel_rfl)) hS ?_
          simp only [Act.put, List.setIfInBounds_toArray, List.set_cons_zero, List.set_cons_succ]
          refine takeAt 24 79 (.int .i64 (l j).x) rfl rfl (by kernel_rfl) (by kernel_rfl) (by kernel_rfl) (fun _ _ _ h => h) (ldI_y bb (oo + j * 5 + 4) _ xS rfl rfl (by rfl)) hS ?_
          simp only [Act.put, List.setIfInBounds_toArray, List.set_cons_zero, List.set_cons_succ]
          refine takeAt 25 80 (.int .i64 (a : Int)) rfl rfl (by kernel_rfl) (by kernel_rfl) (by kernel_rfl) (fun _ _ _ h => h) (yields (by rfl) (fun w => by kernel_rfl)) hS ?_
          simp only [Act.put, List.setIfInBounds_toArray, List.set_cons_zero, List.set_cons_succ]
          refine takeAt 26 81 (.bool false) rfl rfl (by kernel_rfl) (by kernel_rfl) (by kernel_rfl) (fun _ _ _ h => h) (geq_y (l j).x (a : Int) false (decide_eq_false hxa) rfl rfl rfl (by rfl)) hS ?_
          simp only [Act.put, List.setIfInBounds_toArray, List.set_cons_zero, List.set_cons_succ]
          refine takeAt 27 82 (.bool false) rfl rfl (by kernel_rfl) (by kernel_rfl) (by kernel_rfl) (fun _ _ _ h => h) (yields (by rfl) (fun w => by kernel_rfl)) hS ?_
          simp only [Act.put, List.setIfInBounds_toArray, List.set_cons_zero, List.set_cons_succ]
          refine takeAt 28 83 (ptr p) rfl rfl (by kernel_rfl) (by kernel_rfl) (by kernel_rfl) (fun _ _ _ h => h) (yields (by rfl) (fun w => by kernel_rfl)) hS ?_
          simp only [Act.put, List.setIfInBounds_toArray, List.set_cons_zero, List.set_cons_succ]
          refine takeAt 29 84 (.int .i64 (a : Int)) rfl rfl (by kernel_rfl) (by kernel_rfl) (by kernel_rfl) (fun _ _ _ h => h) (yields (by rfl) (fun w => by kernel_rfl)) hS ?_
          simp only [Act.put, List.setIfInBounds_toArray, List.set_cons_zero, List.set_cons_succ]
          refine takeAt 31 86 (ptr p) rfl rfl (by kernel_rfl) (by kernel_rfl) (by kernel_rfl) (fun _ _ _ h => h) (yields (by rfl) (fun w => by kernel_rfl)) hS ?_
          simp only [Act.put, List.setIfInBounds_toArray, List.set_cons_zero, List.set_cons_succ]
          refine takeAt 32 87 (.slice (some ⟨bb, oo, none⟩) N cap) rfl rfl (by kernel_rfl) (by kernel_rfl) (by kernel_rfl) (fun _ _ _ h => h) (yields (by rfl) (fun w => by kernel_rfl)) hS ?_
          simp only [Act.put, List.setIfInBounds_toArray, List.set_cons_zero, List.set_cons_succ]
          refine takeAt 33 88 (.int .i64 (j : Int)) rfl rfl (by kernel_rfl) (by kernel_rfl) (by kernel_rfl) (fun _ _ _ h => h) (yields (by rfl) (fun w => by kernel_rfl)) hS ?_
          simp only [Act.put, List.setIfInBounds_toArray, List.set_cons_zero, List.set_cons_succ]
          refine takeAt 34 89 (.pointer (some ⟨bb, oo + j * 5, none⟩)) rfl rfl (by kernel_rfl) (by kernel_rfl) (by kernel_rfl) (fun _ _ _ h => h) (Or.inl ⟨by rfl, fun u _ => by unfold execOp; go_simp⟩) hS ?_
          simp only [Act.put, List.setIfInBounds_toArray, List.set_cons_zero, List.set_cons_succ]
          refine takeAt 35 90 (.pointer (some ⟨bb, oo + j * 5 + 4, none⟩)) rfl rfl (by kernel_rfl) (by kernel_rfl) (by kernel_rfl) (fun _ _ _ h => h) (yields (by rfl) (fun w => by kernel_rfl)) hS ?_
          simp only [Act.put, List.setIfInBounds_toArray, List.set_cons_zero, List.set_cons_succ]
          refine takeAt 36 91 (.int .i64 (l j).x) rfl rfl (by kernel_rfl) (by kernel_rfl) (by kernel_rfl) (fun _ _ _ h => h) (ldI_y bb (oo + j * 5 + 4) _ xS rfl rfl (by rfl)) hS ?_
          simp only [Act.put, List.setIfInBounds_toArray, List.set_cons_zero, List.set_cons_succ]
          refine callAt 30 85 rfl rfl (by kernel_rfl) (by rfl) (by kernel_rfl) (dA _ hS) ?_
          rintro e u1 ⟨rfl, hB⟩
          have hS1 := thenB hS hB hS.size
          clear hB
          refine ⟨_, rfl, hS1, ?_⟩
          simp only [Act.put, List.setIfInBounds_toArray, List.set_cons_zero, List.set_cons_succ]
          refine callAt 37 92 rfl rfl (by kernel_rfl) (by rfl) (by kernel_rfl) (deep_any p b6 m 1000 M' (l j).x _ (hst6.below hS1 (Nat.le_refl _))) ?_
          rintro e u2 ⟨rfl, hB⟩
          have hS2 := thenB hS1 hB hS1.size
          clear hB
          refine ⟨_, rfl, hS2, ?_⟩
          simp only [Act.put, List.setIfInBounds_toArray, List.set_cons_zero, List.set_cons_succ]
          refine takeAt 38 93 (.int .i64 ((dpF M' (l j).x + 1 : Nat) : Int)) rfl rfl (by kernel_rfl) (by kernel_rfl) (by kernel_rfl) (fun _ _ _ h => h) (addI_y (dpF M' (l j).x) hdm rfl rfl rfl (by rfl)) hS2 ?_
          simp only [Act.put, List.setIfInBounds_toArray, List.set_cons_zero, List.set_cons_succ]
          refine takeAt 39 94 (.bool false) rfl rfl (by kernel_rfl) (by kernel_rfl) (by kernel_rfl) (fun _ _ _ h => h) (neqI_y ((dpF M' (l j).x + 1 : Nat) : Int) rfl rfl rfl (by rfl)) hS2 ?_
          simp only [Act.put, List.setIfInBounds_toArray, List.set_cons_zero, List.set_cons_succ]
          refine takeAt 40 95 (.bool false) rfl rfl (by kernel_rfl) (by kernel_rfl) (by kernel_rfl) (fun _ _ _ h => h) (yields (by rfl) (fun w => by kernel_rfl)) hS2 ?_
          simp only [Act.put, List.setIfInBounds_toArray, List.set_cons_zero, List.set_cons_succ]
          refine takeAt 41 96 (.bool false) rfl rfl (by kernel_rfl) (by kernel_rfl) (by kernel_rfl) (fun _ _ _ h => h) (yields (by rfl) (fun w => by kernel_rfl)) hS2 ?_
          simp only [Act.put, List.setIfInBounds_toArray, List.set_cons_zero, List.set_cons_succ]
          refine takeAt 42 97 (.int .i64 (a : Int)) rfl rfl (by kernel_rfl) (by kernel_rfl) (by kernel_rfl) (fun _ _ _ h => h) (yields (by rfl) (fun w => by kernel_rfl)) hS2 ?_
          simp only [Act.put, List.setIfInBounds_toArray, List.set_cons_zero, List.set_cons_succ]
          refine takeAt 43 98 (ptr p) rfl rfl (by kernel_rfl) (by kernel_rfl) (by kernel_rfl) (fun _ _ _ h => h) (yields (by rfl) (fun w => by kernel_rfl)) hS2 ?_
          simp only [Act.put, List.setIfInBounds_toArray, List.set_cons_zero, List.set_cons_succ]
          refine callAt 44 99 rfl rfl (by kernel_rfl) (by rfl) (by kernel_rfl) (len_any p b6 m 1000 M' _ (hst6.below hS2 (Nat.le_refl _))) ?_
          rintro e u3 ⟨rfl, hB⟩
          have hS3 := thenB hS2 hB hS2.size
          clear hB
          refine ⟨_, rfl, hS3, ?_⟩
          simp only [Act.put, List.setIfInBounds_toArray, List.set_cons_zero, List.set_cons_succ]
          refine takeAt 45 100 (.bool false) rfl rfl (by kernel_rfl) (by kernel_rfl) (by kernel_rfl) (fun _ _ _ h => h) (gtr_y (a : Int) ((M'.length : Int) - 1) false (decide_eq_false (by omega)) rfl rfl rfl (by rfl)) hS3 ?_
          simp only [Act.put, List.setIfInBounds_toArray, List.set_cons_zero, List.set_cons_succ]
          refine takeAt 46 101 (.bool false) rfl rfl (by kernel_rfl) (by kernel_rfl) (by kernel_rfl) (fun _ _ _ h => h) (yields (by rfl) (fun w => by kernel_rfl)) hS3 ?_
          simp only [Act.put, List.setIfInBounds_toArray, List.set_cons_zero, List.set_cons_succ]
          refine takeAt 47 102 (.bool false) rfl rfl (by kernel_rfl) (by kernel_rfl) (by kernel_rfl) (fun _ _ _ h => h) (yields (by rfl) (fun w => by kernel_rfl)) hS3 ?_
          simp only [Act.put, List.setIfInBounds_toArray, List.set_cons_zero, List.set_cons_succ]
          refine takeAt 48 103 (.bool false) rfl rfl (by kernel_rfl) (by kernel_rfl) (by kernel_rfl) (fun _ _ _ h => h) (yields (by rfl) (fun w => by kernel_rfl)) hS3 ?_
          simp only [Act.put, List.setIfInBounds_toArray, List.set_cons_zero, List.set_cons_succ]
          refine takeAt 49 104 (.bool false) rfl rfl (by kernel_rfl) (by kernel_rfl) (by kernel_rfl) (fun _ _ _ h => h) (yields (by rfl) (fun w => by kernel_rfl)) hS3 ?_
          simp only [Act.put, List.setIfInBounds_toArray, List.set_cons_zero, List.set_cons_succ]
          refine takeAt 50 105 (.int .i64 0) rfl rfl (by kernel_rfl) (by kernel_rfl) (by kernel_rfl) (fun _ _ _ h => h) (yields (by rfl) (fun w => by kernel_rfl)) hS3 ?_
          simp only [Act.put, List.setIfInBounds_toArray, List.set_cons_zero, List.set_cons_succ]
          refine takeAt 51 106 (.bool false) rfl rfl (by kernel_rfl) (by kernel_rfl) (by kernel_rfl) (fun _ _ _ h => h) (neE_y 0 0 false (by decide) rfl rfl rfl (by rfl)) hS3 ?_
          simp only [Act.put, List.setIfInBounds_toArray, List.set_cons_zero, List.set_cons_succ]
          refine takeAt 52 107 (.bool false) rfl rfl (by kernel_rfl) (by kernel_rfl) (by kernel_rfl) (fun _ _ _ h => h) (yields (by rfl) (fun w => by kernel_rfl)) hS3 ?_
          simp only [Act.put, List.setIfInBounds_toArray, List.set_cons_zero, List.set_cons_succ]
          refine takeAt 53 108 (undef) rfl rfl (by kernel_rfl) (by kernel_rfl) (by kernel_rfl) (fun _ _ _ h => h) (skipped (by rfl)) hS3 ?_
          simp only [Act.put, List.setIfInBounds_toArray, List.set_cons_zero, List.set_cons_succ]
          refine takeAt 54 109 (undef) rfl rfl (by kernel_rfl) (by kernel_rfl) (by kernel_rfl) (fun _ _ _ h => h) (skipped (by rfl)) hS3 ?_
          simp only [Act.put, List.setIfInBounds_toArray, List.set_cons_zero, List.set_cons_succ]
          refine takeAt 55 110 (.bool false) rfl rfl (by kernel_rfl) (by kernel_rfl) (by kernel_rfl) (fun _ _ _ h => h) (yields (by rfl) (fun w => by kernel_rfl)) hS3 ?_
          simp only [Act.put, List.setIfInBounds_toArray, List.set_cons_zero, List.set_cons_succ]
          refine takeAt 56 111 (.bool false) rfl rfl (by kernel_rfl) (by kernel_rfl) (by kernel_rfl) (fun _ _ _ h => h) (yields (by rfl) (fun w => by kernel_rfl)) hS3 ?_
          simp only [Act.put, List.setIfInBounds_toArray, List.set_cons_zero, List.set_cons_succ]
          refine wpAnyH_done (by kernel_rfl) ?_ _
          have B7 := Lib.hid hS3
          have GC := Lib.hid (And.intro hg1 hgc)
          have G0 := Lib.hid hbw
          have A1 := Lib.hid (And.intro ha1 (And.intro ha2 ha3))
          clear hS hS1 hS2 hS3 dA hdd hxa hdm hmx ha1 ha2 ha3
          clear hst6 rgS xS hr6 hg0 hg1 hgc hbw
          go_wp2_with fail
          go_loopw [11] (fun kk wr => ∃ k : Nat, kk = .int .i64 (k : Int) ∧ k ≤ j ∧ Below w6.heap.size w6 wr) (fun kk _ => j - (intOf kk).toNat)
          case atStart => exact ⟨0, rfl, Nat.zero_le _, B7.out⟩
          case round =>
            obtain ⟨k, rfl, hkj, hb⟩ := hrel
            have BB := Lib.hid hb
            have k0 : (0 : Int) ≤ k := by omega
            clear hb
            by_cases hlt : k < j
            · have kj : (k : Int) < j := by omega
              have KJ := Lib.hid hlt
              have hLk : (L ++ [a]).getD k 0 = L.getD k 0 := by
                simp only [List.getD_eq_getElem?_getD]
                rw [List.getElem?_append_left (by rw [LJ.out]; exact hlt)]
              obtain ⟨y, hy⟩ : ∃ y : Nat, (L ++ [a]).getD k 0 = y := ⟨_, rfl⟩
              have hck := (BB.out.cell (p := ⟨g, k, none⟩) GC.out.1).trans (GC.out.2 k (by omega))
              rw [hy] at hck
              obtain ⟨b2, o2, he2, hbb2, hrg2, -⟩ := HLS.out k (by have := JN.out; omega)
              obtain ⟨rfl, rfl⟩ : bb = b2 ∧ oo = o2 := by injection he2 with he2; injection he2 with e1 e2; exact ⟨e1, e2⟩
              have rk : wr.drew.rangeAt bb (oo + k * 5) (frL (l k)) := fun i v hv => ((BB.out.cell (p := ⟨bb, oo + k * 5 + i, none⟩) G0.out).trans (H6.out.low.cell (p := ⟨bb, oo + k * 5 + i, none⟩) BBL.out)).trans (hrg2 i v hv)
              have rj : wr.drew.rangeAt bb (oo + j * 5) (frL (l j)) := fun i v hv => ((BB.out.cell (p := ⟨bb, oo + j * 5 + i, none⟩) G0.out).trans (H6.out.low.cell (p := ⟨bb, oo + j * 5 + i, none⟩) BBL.out)).trans (RG.out i v hv)
              have ckd : wr.drew.cell? ⟨g, k, none⟩ = some (.int .i64 (y : Int)) := hck
              have KJ := Lib.hid hlt
              have ty := TM.out k (by rw [LL.out]; omega)
              rw [hy] at ty
              have an0 := A1.out.1
              have a0 : (0 : Int) < (a : Int) := by omega
              have kjN : (k : Int) < N := by have := JN.out; omega
              have kj1 : (k : Int) < (j : Int) + 1 := by omega
              by_cases hfe : l k = l j
              · obtain ⟨b1, hb1⟩ : ∃ b1, decide ((y : Int) = (a : Int)) = b1 := ⟨_, rfl⟩
                have hb3 : decide ((0 : Int) < (y : Int)) = b1 := by
                  rw [← hb1]
                  refine decide_eq_decide.2 ⟨fun hp => ?_, fun hp => by omega⟩
                  obtain ⟨q1, q2, q3⟩ := ty (by omega)
                  have := EX.out.2.2.2.one y a q1 q2 A1.out.1 A1.out.2.1 (by rw [q3, A1.out.2.2]; exact hfe)
                  omega
                have E2 := Lib.hid hfe
                clear hlt hkj hrg2 he2 hbb2 hck ty hLk hy an0
                go_wp2_with fail
                have hS : wr.drew = wr.drew := rfl
                refine wp_region_held_drew (S := (· = wr.drew)) (by kernel_rfl) hS (fun _ => ?_)
                refine takeAt 0 117 (.int .i64 (a : Int)) rfl rfl (by kernel_rfl) (by kernel_rfl) (by kernel_rfl) (fun _ _ _ h => h) (yields (by rfl) (fun w => by kernel_rfl)) hS ?_
                simp only [Act.put, List.setIfInBounds_toArray, List.set_cons_zero, List.set_cons_succ]
                refine takeAt 1 118 (.bool true) rfl rfl (by kernel_rfl) (by kernel_rfl) (by kernel_rfl) (fun _ _ _ h => h) (gtr_y (a : Int) 0 true (decide_eq_true a0) rfl rfl rfl (by rfl)) hS ?_
                simp only [Act.put, List.setIfInBounds_toArray, List.set_cons_zero, List.set_cons_succ]
                refine takeAt 2 119 (.bool true) rfl rfl (by kernel_rfl) (by kernel_rfl) (by kernel_rfl) (fun _ _ _ h => h) (yields (by rfl) (fun w => by kernel_rfl)) hS ?_
                simp only [Act.put, List.setIfInBounds_toArray, List.set_cons_zero, List.set_cons_succ]
                refine takeAt 3 120 (.slice (some ⟨g, 0, none⟩) (j + 1) c2) rfl rfl (by kernel_rfl) (by kernel_rfl) (by kernel_rfl) (fun _ _ _ h => h) (yields (by rfl) (fun w => by kernel_rfl)) hS ?_
                simp only [Act.put, List.setIfInBounds_toArray, List.set_cons_zero, List.set_cons_succ]
                refine takeAt 4 121 (.int .i64 (k : Int)) rfl rfl (by kernel_rfl) (by kernel_rfl) (by kernel_rfl) (fun _ _ _ h => h) (yields (by rfl) (fun w => by kernel_rfl)) hS ?_
                simp only [Act.put, List.setIfInBounds_toArray, List.set_cons_zero, List.set_cons_succ]
                refine takeAt 5 122 (.pointer (some ⟨g, k, none⟩)) rfl rfl (by kernel_rfl) (by kernel_rfl) (by kernel_rfl) (fun _ _ _ h => h) (Or.inl ⟨by rfl, fun u _ => by unfold execOp; first | (go_simp; done) | (go_simp; exact fun h9 => absurd h9 (by omega))⟩) hS ?_
                simp only [Act.put, List.setIfInBounds_toArray, List.set_cons_zero, List.set_cons_succ]
                refine takeAt 6 123 (.int .i64 (y : Int)) rfl rfl (by kernel_rfl) (by kernel_rfl) (by kernel_rfl) (fun _ _ _ h => h) (ldI_y g k _ (fun _ h => by rw [h]; exact ckd) rfl rfl (by rfl)) hS ?_
                simp only [Act.put, List.setIfInBounds_toArray, List.set_cons_zero, List.set_cons_succ]
                refine takeAt 7 124 (.int .i64 (a : Int)) rfl rfl (by kernel_rfl) (by kernel_rfl) (by kernel_rfl) (fun _ _ _ h => h) (yields (by rfl) (fun w => by kernel_rfl)) hS ?_
                simp only [Act.put, List.setIfInBounds_toArray, List.set_cons_zero, List.set_cons_succ]
                refine takeAt 8 125 (.bool b1) rfl rfl (by kernel_rfl) (by kernel_rfl) (by kernel_rfl) (fun _ _ _ h => h) (eqIb_y (y : Int) (a : Int) b1 hb1 rfl rfl rfl (by rfl)) hS ?_
                simp only [Act.put, List.setIfInBounds_toArray, List.set_cons_zero, List.set_cons_succ]
                refine takeAt 9 126 (.slice (some ⟨bb, oo, none⟩) N cap) rfl rfl (by kernel_rfl) (by kernel_rfl) (by kernel_rfl) (fun _ _ _ h => h) (yields (by rfl) (fun w => by kernel_rfl)) hS ?_
                simp only [Act.put, List.setIfInBounds_toArray, List.set_cons_zero, List.set_cons_succ]
                refine takeAt 10 127 (.int .i64 (k : Int)) rfl rfl (by kernel_rfl) (by kernel_rfl) (by kernel_rfl) (fun _ _ _ h => h) (yields (by rfl) (fun w => by kernel_rfl)) hS ?_
                simp only [Act.put, List.setIfInBounds_toArray, List.set_cons_zero, List.set_cons_succ]
                refine takeAt 11 128 (.pointer (some ⟨bb, oo + k * 5, none⟩)) rfl rfl (by kernel_rfl) (by kernel_rfl) (by kernel_rfl) (fun _ _ _ h => h) (Or.inl ⟨by rfl, fun u _ => by unfold execOp; go_simp⟩) hS ?_
                simp only [Act.put, List.setIfInBounds_toArray, List.set_cons_zero, List.set_cons_succ]
                refine takeAt 12 129 (.agg (frC (l k))) rfl rfl (by kernel_rfl) (by kernel_rfl) (by kernel_rfl) (fun _ _ _ h => h) (ldFm_y bb (oo + k * 5) (l k) (fun _ h => by rw [h]; exact rk) rfl rfl (by rfl)) hS ?_
                simp only [Act.put, List.setIfInBounds_toArray, List.set_cons_zero, List.set_cons_succ]
                refine takeAt 13 130 (.slice (some ⟨bb, oo, none⟩) N cap) rfl rfl (by kernel_rfl) (by kernel_rfl) (by kernel_rfl) (fun _ _ _ h => h) (yields (by rfl) (fun w => by kernel_rfl)) hS ?_
                simp only [Act.put, List.setIfInBounds_toArray, List.set_cons_zero, List.set_cons_succ]
                refine takeAt 14 131 (.int .i64 (j : Int)) rfl rfl (by kernel_rfl) (by kernel_rfl) (by kernel_rfl) (fun _ _ _ h => h) (yields (by rfl) (fun w => by kernel_rfl)) hS ?_
                simp only [Act.put, List.setIfInBounds_toArray, List.set_cons_zero, List.set_cons_succ]
                refine takeAt 15 132 (.pointer (some ⟨bb, oo + j * 5, none⟩)) rfl rfl (by kernel_rfl) (by kernel_rfl) (by kernel_rfl) (fun _ _ _ h => h) (Or.inl ⟨by rfl, fun u _ => by unfold execOp; go_simp⟩) hS ?_
                simp only [Act.put, List.setIfInBounds_toArray, List.set_cons_zero, List.set_cons_succ]
                refine takeAt 16 133 (.agg (frC (l j))) rfl rfl (by kernel_rfl) (by kernel_rfl) (by kernel_rfl) (fun _ _ _ h => h) (ldFm_y bb (oo + j * 5) (l j) (fun _ h => by rw [h]; exact rj) rfl rfl (by rfl)) hS ?_
                simp only [Act.put, List.setIfInBounds_toArray, List.set_cons_zero, List.set_cons_succ]
                refine takeAt 17 134 (.bool true) rfl rfl (by kernel_rfl) (by kernel_rfl) (by kernel_rfl) (fun _ _ _ h => h) (eqFr_y (l k) (l j) true (decide_eq_true E2.out) rfl rfl rfl (by rfl)) hS ?_
                simp only [Act.put, List.setIfInBounds_toArray, List.set_cons_zero, List.set_cons_succ]
                refine takeAt 18 135 (.bool true) rfl rfl (by kernel_rfl) (by kernel_rfl) (by kernel_rfl) (fun _ _ _ h => h) (yields (by rfl) (fun w => by kernel_rfl)) hS ?_
                simp only [Act.put, List.setIfInBounds_toArray, List.set_cons_zero, List.set_cons_succ]
                refine takeAt 19 136 (.slice (some ⟨g, 0, none⟩) (j + 1) c2) rfl rfl (by kernel_rfl) (by kernel_rfl) (by kernel_rfl) (fun _ _ _ h => h) (yields (by rfl) (fun w => by kernel_rfl)) hS ?_
                simp only [Act.put, List.setIfInBounds_toArray, List.set_cons_zero, List.set_cons_succ]
                refine takeAt 20 137 (.int .i64 (k : Int)) rfl rfl (by kernel_rfl) (by kernel_rfl) (by kernel_rfl) (fun _ _ _ h => h) (yields (by rfl) (fun w => by kernel_rfl)) hS ?_
                simp only [Act.put, List.setIfInBounds_toArray, List.set_cons_zero, List.set_cons_succ]
                refine takeAt 21 138 (.pointer (some ⟨g, k, none⟩)) rfl rfl (by kernel_rfl) (by kernel_rfl) (by kernel_rfl) (fun _ _ _ h => h) (Or.inl ⟨by rfl, fun u _ => by unfold execOp; first | (go_simp; done) | (go_simp; exact fun h9 => absurd h9 (by omega))⟩) hS ?_
                simp only [Act.put, List.setIfInBounds_toArray, List.set_cons_zero, List.set_cons_succ]
                refine takeAt 22 139 (.int .i64 (y : Int)) rfl rfl (by kernel_rfl) (by kernel_rfl) (by kernel_rfl) (fun _ _ _ h => h) (ldI_y g k _ (fun _ h => by rw [h]; exact ckd) rfl rfl (by rfl)) hS ?_
                simp only [Act.put, List.setIfInBounds_toArray, List.set_cons_zero, List.set_cons_succ]
                refine takeAt 23 140 (.bool b1) rfl rfl (by kernel_rfl) (by kernel_rfl) (by kernel_rfl) (fun _ _ _ h => h) (gtr_y (y : Int) 0 b1 hb3 rfl rfl rfl (by rfl)) hS ?_
                simp only [Act.put, List.setIfInBounds_toArray, List.set_cons_zero, List.set_cons_succ]
                refine takeAt 24 141 (.bool b1) rfl rfl (by kernel_rfl) (by kernel_rfl) (by kernel_rfl) (fun _ _ _ h => h) (yields (by rfl) (fun w => by kernel_rfl)) hS ?_
                simp only [Act.put, List.setIfInBounds_toArray, List.set_cons_zero, List.set_cons_succ]
                refine takeAt 25 142 (.bool false) rfl rfl (by kernel_rfl) (by kernel_rfl) (by kernel_rfl) (fun _ _ _ h => h) (neqB_y b1 rfl rfl rfl (by rfl)) hS ?_
                simp only [Act.put, List.setIfInBounds_toArray, List.set_cons_zero, List.set_cons_succ]
                refine takeAt 26 143 (.bool false) rfl rfl (by kernel_rfl) (by kernel_rfl) (by kernel_rfl) (fun _ _ _ h => h) (yields (by rfl) (fun w => by kernel_rfl)) hS ?_
                simp only [Act.put, List.setIfInBounds_toArray, List.set_cons_zero, List.set_cons_succ]
                refine wpAnyH_done (by kernel_rfl) ?_ _
                clear hS rk rj ckd hb1
                go_wp2_with fail
                go_roundw
                case rel => exact ⟨k + 1, by go_num, by have := KJ.out; omega, BB.out.drew⟩
                case measure => simp [intOf]; have := KJ.out; omega
              · have hb1 : decide ((y : Int) = (a : Int)) = false := by
                  refine decide_eq_false fun e => hfe ?_
                  obtain ⟨q1, q2, q3⟩ := ty (by omega)
                  have : y = a := by omega
                  rw [← q3, this, A1.out.2.2]
                have E2 := Lib.hid hfe
                clear hlt hkj hrg2 he2 hbb2 hck ty hLk hy an0
                go_wp2_with fail
                have hS : wr.drew = wr.drew := rfl
                refine wp_region_held_drew (S := (· = wr.drew)) (by kernel_rfl) hS (fun _ => ?_)
                refine takeAt 0 117 (.int .i64 (a : Int)) rfl rfl (by kernel_rfl) (by kernel_rfl) (by kernel_rfl) (fun _ _ _ h => h) (yields (by rfl) (fun w => by kernel_rfl)) hS ?_
                simp only [Act.put, List.setIfInBounds_toArray, List.set_cons_zero, List.set_cons_succ]
                refine takeAt 1 118 (.bool true) rfl rfl (by kernel_rfl) (by kernel_rfl) (by kernel_rfl) (fun _ _ _ h => h) (gtr_y (a : Int) 0 true (decide_eq_true a0) rfl rfl rfl (by rfl)) hS ?_
                simp only [Act.put, List.setIfInBounds_toArray, List.set_cons_zero, List.set_cons_succ]
                refine takeAt 2 119 (.bool true) rfl rfl (by kernel_rfl) (by kernel_rfl) (by kernel_rfl) (fun _ _ _ h => h) (yields (by rfl) (fun w => by kernel_rfl)) hS ?_
                simp only [Act.put, List.setIfInBounds_toArray, List.set_cons_zero, List.set_cons_succ]
                refine takeAt 3 120 (.slice (some ⟨g, 0, none⟩) (j + 1) c2) rfl rfl (by kernel_rfl) (by kernel_rfl) (by kernel_rfl) (fun _ _ _ h => h) (yields (by rfl) (fun w => by kernel_rfl)) hS ?_
                simp only [Act.put, List.setIfInBounds_toArray, List.set_cons_zero, List.set_cons_succ]
                refine takeAt 4 121 (.int .i64 (k : Int)) rfl rfl (by kernel_rfl) (by kernel_rfl) (by kernel_rfl) (fun _ _ _ h => h) (yields (by rfl) (fun w => by kernel_rfl)) hS ?_
                simp only [Act.put, List.setIfInBounds_toArray, List.set_cons_zero, List.set_cons_succ]
                refine takeAt 5 122 (.pointer (some ⟨g, k, none⟩)) rfl rfl (by kernel_rfl) (by kernel_rfl) (by kernel_rfl) (fun _ _ _ h => h) (Or.inl ⟨by rfl, fun u _ => by unfold execOp; first | (go_simp; done) | (go_simp; exact fun h9 => absurd h9 (by omega))⟩) hS ?_
                simp only [Act.put, List.setIfInBounds_toArray, List.set_cons_zero, List.set_cons_succ]
                refine takeAt 6 123 (.int .i64 (y : Int)) rfl rfl (by kernel_rfl) (by kernel_rfl) (by kernel_rfl) (fun _ _ _ h => h) (ldI_y g k _ (fun _ h => by rw [h]; exact ckd) rfl rfl (by rfl)) hS ?_
                simp only [Act.put, List.setIfInBounds_toArray, List.set_cons_zero, List.set_cons_succ]
                refine takeAt 7 124 (.int .i64 (a : Int)) rfl rfl (by kernel_rfl) (by kernel_rfl) (by kernel_rfl) (fun _ _ _ h => h) (yields (by rfl) (fun w => by kernel_rfl)) hS ?_
                simp only [Act.put, List.setIfInBounds_toArray, List.set_cons_zero, List.set_cons_succ]
                refine takeAt 8 125 (.bool false) rfl rfl (by kernel_rfl) (by kernel_rfl) (by kernel_rfl) (fun _ _ _ h => h) (eqIb_y (y : Int) (a : Int) false hb1 rfl rfl rfl (by rfl)) hS ?_
                simp only [Act.put, List.setIfInBounds_toArray, List.set_cons_zero, List.set_cons_succ]
                refine takeAt 9 126 (.slice (some ⟨bb, oo, none⟩) N cap) rfl rfl (by kernel_rfl) (by kernel_rfl) (by kernel_rfl) (fun _ _ _ h => h) (yields (by rfl) (fun w => by kernel_rfl)) hS ?_
                simp only [Act.put, List.setIfInBounds_toArray, List.set_cons_zero, List.set_cons_succ]
                refine takeAt 10 127 (.int .i64 (k : Int)) rfl rfl (by kernel_rfl) (by kernel_rfl) (by kernel_rfl) (fun _ _ _ h => h) (yields (by rfl) (fun w => by kernel_rfl)) hS ?_
                simp only [Act.put, List.setIfInBounds_toArray, List.set_cons_zero, List.set_cons_succ]
                refine takeAt 11 128 (.pointer (some ⟨bb, oo + k * 5, none⟩)) rfl rfl (by kernel_rfl) (by kernel_rfl) (by kernel_rfl) (fun _ _ _ h => h) (Or.inl ⟨by rfl, fun u _ => by unfold execOp; go_simp⟩) hS ?_
                simp only [Act.put, List.setIfInBounds_toArray, List.set_cons_zero, List.set_cons_succ]
                refine takeAt 12 129 (.agg (frC (l k))) rfl rfl (by kernel_rfl) (by kernel_rfl) (by kernel_rfl) (fun _ _ _ h => h) (ldFm_y bb (oo + k * 5) (l k) (fun _ h => by rw [h]; exact rk) rfl rfl (by rfl)) hS ?_
                simp only [Act.put, List.setIfInBounds_toArray, List.set_cons_zero, List.set_cons_succ]
                refine takeAt 13 130 (.slice (some ⟨bb, oo, none⟩) N cap) rfl rfl (by kernel_rfl) (by kernel_rfl) (by kernel_rfl) (fun _ _ _ h => h) (yields (by rfl) (fun w => by kernel_rfl)) hS ?_
                simp only [Act.put, List.setIfInBounds_toArray, List.set_cons_zero, List.set_cons_succ]
                refine takeAt 14 131 (.int .i64 (j : Int)) rfl rfl (by kernel_rfl) (by kernel_rfl) (by kernel_rfl) (fun _ _ _ h => h) (yields (by rfl) (fun w => by kernel_rfl)) hS ?_
                simp only [Act.put, List.setIfInBounds_toArray, List.set_cons_zero, List.set_cons_succ]
                refine takeAt 15 132 (.pointer (some ⟨bb, oo + j * 5, none⟩)) rfl rfl (by kernel_rfl) (by kernel_rfl) (by kernel_rfl) (fun _ _ _ h => h) (Or.inl ⟨by rfl, fun u _ => by unfold execOp; go_simp⟩) hS ?_
                simp only [Act.put, List.setIfInBounds_toArray, List.set_cons_zero, List.set_cons_succ]
                refine takeAt 16 133 (.agg (frC (l j))) rfl rfl (by kernel_rfl) (by kernel_rfl) (by kernel_rfl) (fun _ _ _ h => h) (ldFm_y bb (oo + j * 5) (l j) (fun _ h => by rw [h]; exact rj) rfl rfl (by rfl)) hS ?_
                simp only [Act.put, List.setIfInBounds_toArray, List.set_cons_zero, List.set_cons_succ]
                refine takeAt 17 134 (.bool false) rfl rfl (by kernel_rfl) (by kernel_rfl) (by kernel_rfl) (fun _ _ _ h => h) (eqFr_y (l k) (l j) false (decide_eq_false E2.out) rfl rfl rfl (by rfl)) hS ?_
                simp only [Act.put, List.setIfInBounds_toArray, List.set_cons_zero, List.set_cons_succ]
                refine takeAt 18 135 (.bool false) rfl rfl (by kernel_rfl) (by kernel_rfl) (by kernel_rfl) (fun _ _ _ h => h) (yields (by rfl) (fun w => by kernel_rfl)) hS ?_
                simp only [Act.put, List.setIfInBounds_toArray, List.set_cons_zero, List.set_cons_succ]
                refine takeAt 19 136 (undef) rfl rfl (by kernel_rfl) (by kernel_rfl) (by kernel_rfl) (fun _ _ _ h => h) (skipped (by rfl)) hS ?_
                simp only [Act.put, List.setIfInBounds_toArray, List.set_cons_zero, List.set_cons_succ]
                refine takeAt 20 137 (undef) rfl rfl (by kernel_rfl) (by kernel_rfl) (by kernel_rfl) (fun _ _ _ h => h) (skipped (by rfl)) hS ?_
                simp only [Act.put, List.setIfInBounds_toArray, List.set_cons_zero, List.set_cons_succ]
                refine takeAt 21 138 (undef) rfl rfl (by kernel_rfl) (by kernel_rfl) (by kernel_rfl) (fun _ _ _ h => h) (skipped (by rfl)) hS ?_
                simp only [Act.put, List.setIfInBounds_toArray, List.set_cons_zero, List.set_cons_succ]
                refine takeAt 22 139 (undef) rfl rfl (by kernel_rfl) (by kernel_rfl) (by kernel_rfl) (fun _ _ _ h => h) (skipped (by rfl)) hS ?_
                simp only [Act.put, List.setIfInBounds_toArray, List.set_cons_zero, List.set_cons_succ]
                refine takeAt 23 140 (undef) rfl rfl (by kernel_rfl) (by kernel_rfl) (by kernel_rfl) (fun _ _ _ h => h) (skipped (by rfl)) hS ?_
                simp only [Act.put, List.setIfInBounds_toArray, List.set_cons_zero, List.set_cons_succ]
                refine takeAt 24 141 (.bool false) rfl rfl (by kernel_rfl) (by kernel_rfl) (by kernel_rfl) (fun _ _ _ h => h) (yields (by rfl) (fun w => by kernel_rfl)) hS ?_
                simp only [Act.put, List.setIfInBounds_toArray, List.set_cons_zero, List.set_cons_succ]
                refine takeAt 25 142 (.bool false) rfl rfl (by kernel_rfl) (by kernel_rfl) (by kernel_rfl) (fun _ _ _ h => h) (neqB_y false rfl rfl rfl (by rfl)) hS ?_
                simp only [Act.put, List.setIfInBounds_toArray, List.set_cons_zero, List.set_cons_succ]
                refine takeAt 26 143 (.bool false) rfl rfl (by kernel_rfl) (by kernel_rfl) (by kernel_rfl) (fun _ _ _ h => h) (yields (by rfl) (fun w => by kernel_rfl)) hS ?_
                simp only [Act.put, List.setIfInBounds_toArray, List.set_cons_zero, List.set_cons_succ]
                refine wpAnyH_done (by kernel_rfl) ?_ _
                clear hS rk rj ckd hb1
                go_wp2_with fail
                go_roundw
                case rel => exact ⟨k + 1, by go_num, by have := KJ.out; omega, BB.out.drew⟩
                case measure => simp [intOf]; have := KJ.out; omega
            · obtain rfl : k = j := by omega
              clear hlt hkj
              go_wp2_with fail
              go_roundw
              case rel => exact ⟨k + 1, M', L ++ [a], by go_num, by have := J4.out; omega, by have := JN.out; omega, H6.out.call BB.out, own_keep L6.out (fun x hx => BB.out.block x (L6.out.lt x hx).2), LL.out, TM.out, by have := ML.out; have := EX.out.2.2.1; omega⟩
              case measure => simp [intOf]; have := J4.out; omega
      · have h40' : j = 40 := by omega
        subst h40'
        go_wp2_with fail
        refine (fixed_any wr).mono ?_
        rintro e w2 ⟨rfl, hB⟩
        have B2 := Lib.hid (thenB HS.out.low hB HS.out.low.size)
        clear hB
        go_wp2_with fail
        go_ret
        exact ⟨rfl, B2.out⟩
    · obtain rfl : j = N := by omega
      go_wp2_with fail
      refine (fixed_any wr).mono ?_
      rintro e w2 ⟨rfl, hB⟩
      have B2 := Lib.hid (thenB HS.out.low hB HS.out.low.size)
      clear hB
      go_wp2_with fail
      go_ret
      exact ⟨rfl, B2.out⟩
end Go.Proofs.Ytecfndpbgebpiaa
