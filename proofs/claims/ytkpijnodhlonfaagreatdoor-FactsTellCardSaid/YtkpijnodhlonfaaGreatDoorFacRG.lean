/-
  FacRefG, FacRefH, FacRefI, FacRefJ, FacTellLaw
-/
import Derived.Test.YtkpijnodhlonfaaGreatDoorFacRD
import Derived.Test.YtkpijnodhlonfaaGreatDoorAstC
import Derived.Test.YtkpijnodhlonfaaGreatDoorAstF
import Derived.Test.YtkpijnodhlonfaaGreatDoorFacB
import Derived.Test.YtkpijnodhlonfaaGreatDoorParV
import Derived.Test.YtkpijnodhlonfaaGreatDoorFacRB
import Derived.ChangeKeysEq
import Derived.Laws.StructEq
import Derived.Test.YtkpijnodhlonfaaGreatDoorFacRefA
import Derived.Test.YtkpijnodhlonfaaGreatDoorFacC
import Derived.Test.YtkpijnodhlonfaaGreatDoorRefM
import Derived.Test.YtkpijnodhlonfaaGreatDoorFacE
import Derived.Test.YtkpijnodhlonfaaGreatDoorAstB
namespace Go.Proofs.YtkpijnodhlonfaaGreatDoor
open Go.RowKit
open Ast (Nd ndV Nodes NodesAt At12 siz len kidsZ fitsB)

theorem cat_lit (z : Bool) (a b : FK) : catK z a b = ⟨bif a.op then a.F ||| b.F else a.F, a.op && b.op, a.fa || (b.fa && z), if a.wh = true then (if 100 < (a.pr ++ b.pr).size then (a.pr ++ b.pr).extract 0 100 else a.pr ++ b.pr) else a.pr, if a.wh = true then (if 100 < (a.pr ++ b.pr).size then false else b.wh) else false⟩ := by
  obtain ⟨F, op, fa, pr, wh⟩ := a
  unfold catK firK cutK
  cases wh
  · cases op <;> rfl
  · rw [if_pos rfl, if_pos rfl, if_pos rfl]
    dsimp only
    by_cases h : 100 < (pr ++ b.pr).size
    · rw [if_pos h, if_pos h, if_pos h]
      cases op <;> rfl
    · rw [if_neg h, if_neg h, if_neg h]
      cases op <;> rfl
theorem minV_is (S : BitVec 256) : ∃ (z : Nat) (b : Bool), minV S = .tuple #[.int .u8 (z : Int), .bool b] ∧ (lenS S = 1 → z = minS S) := by
  unfold minV
  by_cases h : S = 0#256
  · rw [if_pos h]
    refine ⟨0, false, rfl, fun h1 => ?_⟩
    subst h
    exact absurd h1 (by decide +kernel)
  · rw [if_neg h]
    exact ⟨minS S, true, rfl, fun _ => rfl⟩
theorem NodeQ.at {V : Value} {z : Int} {R : Array Value} {b : Bool} {w u : World} (h : NodeQ V z R b w) (hu : Below w.heap.size w u) : NodeQ V z R b u := fun v hv => h v (thenB hu hv hu.size)
theorem rnode_any (A : Option Addr) (n cap : Nat) (l : Nat → Nd) (hn : n ≤ 1000000) (hL : LitOk9 l n) : ∀ j, j ≤ n → siz l j ≠ 0 → ∀ (z : Int), z = (j : Int) - 1 → ∀ w, Nodes w A n l →
    Calls Tryz.prog 27 #[.slice A n cap, .int .i64 z] w fun e w' => e = .returned (.tuple #[.agg (rfC (factZ l j)), .bool (factZ l j).wh]) ∧ Below w.heap.size w w' := by
  intro j
  induction j using Nat.strongRecOn with
  | _ j ih =>
  intro hj hs z hz w hl
  cases j with
  | zero => exact absurd (Ast.siz_zero l) hs
  | succ m =>
    obtain rfl : z = (m : Int) := by omega
    have hm : m < n := by omega
    have hl0 := hl
    obtain ⟨b, o, rfl, hN⟩ := hl.at_ (by omega)
    have hbw := hN.1
    have hx := hN.2 m hm
    have hle := Ast.siz_le l m
    have ne : ∀ {a b : Int}, ¬ a = b → (a == b) = false := fun h => beq_eq_false_iff_ne.2 h
    have hQ : ∀ q, q ≤ m → siz l q ≠ 0 → ∀ zz : Int, zz = (q : Int) - 1 → NodeQ (.slice (some ⟨b, o, none⟩) n cap) zz (rfC (factZ l q)) (factZ l q).wh w := fun q hq hs zz hz u hb => ih q (by omega) (by omega) hs zz hz u (hl0.call hb)
    have fin : ∀ (K : FK) (wh : Bool) (R : Array Value), factZ l (m + 1) = K → R = rfC K → wh = K.wh → NodeC b o n cap m w R wh → Calls Tryz.prog 27 #[.slice (some ⟨b, o, none⟩) n cap, .int .i64 (m : Int)] w fun e w' => e = .returned (.tuple #[.agg (rfC (factZ l (m + 1))), .bool (factZ l (m + 1)).wh]) ∧ Below w.heap.size w w' := by
      intro K wh R e1 e2 e3 h
      rw [e1, ← e2, ← e3]
      exact h
    obtain ⟨hf, hp⟩ := Ast.siz_pos hs
    have hki := Ast.fits_kind hf
    have hLm := hL m hm
    have hR10 := fun h => Ast.fits_rep_of hf h
    have f0 := fact_k0 (l := l) (j := m)
    have f1 := fact_k1 (l := l) (j := m)
    have f2 := fact_k2 (l := l) (j := m)
    clear ih hf
    rcases hy : l m with ⟨xk, xa, xb, t0, t1, t2, t3, mn, mx, md, nn, ff⟩
    rw [hy] at hx hp hki hLm hR10 f0 f1 f2
    dsimp only at hp hki hLm hR10 f0 f1 f2
    rcases hp with ⟨hk, -⟩ | ⟨hk, h0, ha, hb, -⟩ | ⟨hk, h0, h1, ha, hb, -⟩
    · have f := f0 hk
      unfold leafK at f
      dsimp only at f
      obtain ⟨q8, q9, q10, q11, q17⟩ := Ast.kids0 hk hki
      by_cases e1 : xk = 1
      · subst e1
        rw [if_pos rfl] at f
        obtain ⟨z0, z1, z2, z3⟩ := hLm rfl
        generalize setOf ⟨1, xa, xb, t0, t1, t2, t3, mn, mx, md, nn, ff⟩ = S at f z0 z1 z2 z3
        subst z0 z1 z2 z3
        obtain ⟨zm, b0, hM, hZ⟩ := minV_is S
        have hlt := minS_lt S
        unfold bytK at f
        by_cases e : lenS S = 1
        · rw [if_pos e, ← hZ e] at f
          exact fin _ _ _ f rfl rfl (rnode_1a b o n cap m hm w xa xb mn mx md nn ff hbw S hx zm b0 hM e (by rw [hZ e]; exact hlt) _ (Lib.hid rfl))
        · rw [if_neg e] at f
          exact fin _ _ _ f rfl rfl (rnode_1b b o n cap m hm w xa xb mn mx md nn ff hbw S hx zm b0 hM e _ (Lib.hid rfl))
      · rw [if_neg e1] at f
        by_cases e2 : xk = 2
        · subst e2
          rw [if_pos rfl] at f
          exact fin _ _ _ f rfl rfl (rnode_2 b o n cap m hm w xa xb t0 t1 t2 t3 mn mx md nn ff hbw hx _ (Lib.hid rfl))
        · rw [if_neg e2] at f
          by_cases e12 : xk = 12
          · subst e12
            rw [if_pos rfl] at f
            exact fin _ _ _ f rfl rfl (rnode_12 b o n cap m hm w xa xb t0 t1 t2 t3 mn mx md nn ff hbw hx _ (Lib.hid rfl))
          · rw [if_neg e12] at f
            exact fin _ _ _ f rfl rfl (rnode_else b o n cap m hm w xa xb t0 t1 t2 t3 mn mx md nn ff xk hbw hx (ne e1) (ne e2) q8 q9 q10 q11 (ne e12) q17 _ (Lib.hid rfl))
    · have f := f1 hk
      have hA := hQ m (Nat.le_refl _) h0 xa ha
      generalize factZ l m = a at f hA
      obtain ⟨F1, op1, fa1, pr1, wh1⟩ := a
      obtain ⟨q1, q12, q8, q9⟩ := Ast.kids1 hk
      have q2 : (xk == 2) = false := by
        apply ne
        rintro rfl
        exact absurd hk (by decide)
      unfold oneK at f
      dsimp only at f
      by_cases e10 : xk = 10
      · subst e10
        rw [if_pos rfl] at f
        obtain ⟨r0, -⟩ := hR10 rfl
        unfold repK at f
        dsimp only at f
        by_cases ex : mx = 0
        · rw [if_pos ex] at f
          exact fin _ _ _ f rfl rfl (rnode_10z b o n cap m hm w xa xb t0 t1 t2 t3 mn mx md nn ff F1 op1 fa1 pr1 wh1 _ (Lib.hid rfl) hA hbw hx ex _ (Lib.hid rfl))
        · rw [if_neg ex] at f
          by_cases em : mn = 0
          · rw [if_pos em] at f
            refine fin _ (wh1 && false && (mx == 1)) _ f rfl (by simp) (rnode_10n b o n cap m hm w xa xb t0 t1 t2 t3 mn mx md nn ff F1 op1 fa1 pr1 wh1 _ (Lib.hid rfl) hA hbw hx true false (mx == 1) (by simpa using em) (by simpa using (by omega : mn ≤ 0)) (by simpa using (by omega : ¬ mn = 1)) rfl (ne ex) ⟨#[]⟩ rfl _ (Lib.hid ?_))
            unfold rfC
            simp only [Bool.or_true, Bool.not_true, Bool.and_false]
            rfl
          · rw [if_neg em] at f
            refine fin _ (wh1 && (mn == 1) && (mx == 1)) _ f rfl (by rw [Bool.eq_iff_iff]; simp) (rnode_10n b o n cap m hm w xa xb t0 t1 t2 t3 mn mx md nn ff F1 op1 fa1 pr1 wh1 _ (Lib.hid rfl) hA hbw hx false (mn == 1) (mx == 1) (ne em) (by simpa using (by omega : 0 < mn)) rfl rfl (ne ex) pr1 rfl _ (Lib.hid ?_))
            unfold rfC
            simp only [Bool.or_false, Bool.not_false, Bool.and_true]
      · rw [if_neg e10] at f
        by_cases e11 : xk = 11
        · subst e11
          rw [if_pos (.inl rfl)] at f
          exact fin _ _ _ f rfl rfl (rnode_11 b o n cap m hm w xa xb t0 t1 t2 t3 mn mx md nn ff ⟨F1, op1, fa1, pr1, wh1⟩ hbw hx wh1 _ hA (Lib.hid rfl))
        · by_cases e17 : xk = 17
          · subst e17
            rw [if_pos (.inr rfl)] at f
            exact fin _ _ _ f rfl rfl (rnode_17 b o n cap m hm w xa xb t0 t1 t2 t3 mn mx md nn ff ⟨F1, op1, fa1, pr1, wh1⟩ hbw hx wh1 _ hA (Lib.hid rfl))
          · rw [if_neg (by omega)] at f
            exact fin _ _ _ f rfl rfl (rnode_else b o n cap m hm w xa xb t0 t1 t2 t3 mn mx md nn ff xk hbw hx q1 q2 q8 q9 (ne e10) (ne e11) q12 (ne e17) _ (Lib.hid rfl))
    · have f := f2 hk
      have hB := hQ m (Nat.le_refl _) h0 xb hb
      have hA := hQ (m - siz l m) (by omega) h1 xa (by omega)
      have sA := fact_le l (m - siz l m)
      have sB := fact_le l m
      have hLn : ∀ u, Below w.heap.size w u → Calls Tryz.prog 49 #[.slice (some ⟨b, o, none⟩) n cap, .int .i64 xa] u fun e w' => e = .returned (.tuple #[.int .i64 (len l (m - siz l m)).1, .int .i64 (len l (m - siz l m)).2]) ∧ Below u.heap.size u w' := fun u hu => Ast.rlens_any _ n cap l (by omega) (m - siz l m) (by omega) h1 xa (by omega) u (hl0.call hu)
      generalize factZ l m = B at f hB sB
      generalize factZ l (m - siz l m) = A at f hA sA
      generalize len l (m - siz l m) = L at f hLn
      obtain ⟨F1, op1, fa1, pr1, wh1⟩ := A
      obtain ⟨F2, op2, fa2, pr2, wh2⟩ := B
      dsimp only at sA sB
      unfold twoK at f
      rcases Ast.kids2 hk with rfl | rfl
      · rw [if_pos rfl] at f
        refine fin _ _ _ f rfl rfl (rnode_8 b o n cap m hm w xa xb t0 t1 t2 t3 mn mx md nn ff _ hbw hx _ _ (fun u hu => ?_) (Lib.hid rfl))
        rw [cat_lit]
        exact rtwo_cat _ xa xb t0 t1 t2 t3 mn mx md nn ff F1 F2 op1 op2 fa1 fa2 pr1 pr2 wh1 wh2 _ _ _ u (Lib.hid rfl) (Lib.hid rfl) (hA.at hu) (hB.at hu) L.1 L.2 _ (by rw [Bool.eq_iff_iff]; simp) sA sB (fun v hv => hLn v (thenB hu hv hu.size)) _ _
          (fun h v => by
            subst h
            have := rcut9_any (pr1 ++ pr2) wh2 v (by rw [size_app]; omega)
            exact this)
          (fun h => by subst h; exact ⟨rfl, rfl⟩) (Lib.hid rfl)
      · rw [if_neg (by decide)] at f
        exact fin _ _ _ f rfl rfl (rnode_9 b o n cap m hm w xa xb t0 t1 t2 t3 mn mx md nn ff _ hbw hx _ _ (fun u hu => rtwo_alt _ xa xb t0 t1 t2 t3 mn mx md nn ff F1 F2 op1 op2 fa1 fa2 pr1 pr2 wh1 wh2 _ _ _ u (Lib.hid rfl) (Lib.hid rfl) (hA.at hu) (hB.at hu) (Lib.hid rfl)) (Lib.hid rfl))
end Go.Proofs.YtkpijnodhlonfaaGreatDoor

namespace Go.Proofs.YtkpijnodhlonfaaGreatDoor
open Go.RowKit
open Ast (Nd ndV Nodes NodesAt At12 siz len kidsZ fitsB rightZ)

section
variable {ops : Array Oper} {rest : List Oper} {o : Oper} {a : Act} {w : World} {Q : Exit → Act → World → Prop}
theorem loadRfQ (hgd : o.guard = none) (x : Operand) (ho : o.op = .load 39 x) (g : Nat) (k : FK) (R : Array Value) (hR : Hid (rfC k = R)) (hx : a.eval x = .pointer (some ⟨g, 0, none⟩)) (hg : BoxR w g k)
    (h : wpList Tryz.prog ops Q rest (a.put o.dst (.agg R)) w) : wpList Tryz.prog ops Q (o :: rest) a w := by
  obtain ⟨rfl⟩ := hR.out
  exact loadRf9 hgd x ho g k hx hg h
end
set_option maxRecDepth 100000 in
set_option maxHeartbeats 8000000 in
theorem rof9_bad (A : Option Addr) (n cap : Nat) (l : Nat → Nd) (w : World) (hn : n ≤ 1000000) (hl : Nodes w A n l) (R : Array Value) (hR : Hid (rfC zrK = R)) (hz : rightZ l n ≠ 0) :
    Calls Tryz.prog 11 #[.slice A n cap] w fun e w' => e = .returned (.tuple #[.agg R, .int .i64 (rightZ l n)]) ∧ Below w.heap.size w w' := by
  have HRI := Lib.hid (fun w h => Ast.rright_any A n cap l w hn h)
  have HL := Lib.hid hl
  have hq : ((rightZ l n) == 0) = false := beq_eq_false_iff_ne.2 hz
  generalize rightZ l n = q at HRI hq ⊢
  clear hl hz
  have HB := Lib.hid (show Below w.heap.size w (w.alloc (.cells (rfC zrK) 39)) by go_grown)
  have HR0 := Lib.hid (show BoxR (w.alloc (.cells (rfC zrK) 39)) w.heap.size zrK from BoxV.new _ _)
  go_enter Tryz.func11, Tryz.ntmps11
  go_wp2_with fail
  refine (HRI.out _ (HL.out.call HB.out)).mono ?_
  rintro e u1 ⟨rfl, hb⟩
  replace HB := Lib.hid (thenB HB.out hb HB.out.size)
  replace HR0 := Lib.hid (HR0.out.below hb HR0.out.lt)
  clear hb
  go_wp2_with (refine storeRfQ rfl _ _ rfl w.heap.size zrK zrK (rfC zrK) (Lib.hid rfl) rfl rfl HR0.out ?_; intro u9 hx9 hB9 _; refine StopS.out ?_)
  refine ⟨?_⟩
  go_wp2_with fail
  refine bodyPost_ret (by rw [← hR.out]; exact resRb9 (p := 2) (q := 3) rfl _ (g := w.heap.size) rfl rfl hx9.out) rfl ⟨rfl, ?_⟩
  exact HB.out.trans (hB9.out _ (Nat.le_refl _))
set_option maxRecDepth 100000 in
set_option maxHeartbeats 8000000 in
theorem rof9_good (A : Option Addr) (n cap : Nat) (l : Nat → Nd) (w : World) (hn : n ≤ 1000000) (hl : Nodes w A n l) (hL : LitOk9 l n) (R : Array Value) (hR : Hid (rfC (factZ l n) = R)) (hz : rightZ l n = 0) :
    Calls Tryz.prog 11 #[.slice A n cap] w fun e w' => e = .returned (.tuple #[.agg R, .int .i64 0]) ∧ Below w.heap.size w w' := by
  have hz0 : Ast.shapeZ l n = 0 := by
    have h0 := hz
    unfold rightZ at h0
    by_cases h : Ast.shapeZ l n ≠ 0
    · rw [if_pos h] at h0; exact absurd h0 h
    · omega
  obtain ⟨hpos, hsz⟩ : 0 < n ∧ siz l n = n := by
    have h2 : Ast.formZ l n = 0 := by have h1 := hz0; unfold Ast.shapeZ at h1; split at h1 <;> omega
    have h3 := Ast.form_0 h2
    exact ⟨h3.2.1, h3.2.2⟩
  have HRI := Lib.hid (fun w h => Ast.rright_any A n cap l w hn h)
  have HN := Lib.hid (fun w h => rnode_any A n cap l hn hL n (Nat.le_refl _) (by omega) ((n : Int) - 1) rfl w h)
  have HL := Lib.hid hl
  rw [hz] at HRI
  have n1 : (1 : Int) ≤ (n : Int) := by omega
  have n2 : (n : Int) ≤ 1000000 := by omega
  generalize hK : factZ l n = K at HN hR
  obtain ⟨F, op, fa, pr, wh⟩ := K
  rw [hR.out] at HN
  dsimp only at HN
  clear hl hz hz0 hpos hsz hL hK
  have HB := Lib.hid (show Below w.heap.size w (w.alloc (.cells (rfC zrK) 39)) by go_grown)
  have HR0 := Lib.hid (show BoxR (w.alloc (.cells (rfC zrK) 39)) w.heap.size zrK from BoxV.new _ _)
  go_enter Tryz.func11, Tryz.ntmps11
  go_wp2_with fail
  refine (HRI.out _ (HL.out.call HB.out)).mono ?_
  rintro e u1 ⟨rfl, hb⟩
  replace HB := Lib.hid (thenB HB.out hb HB.out.size)
  replace HR0 := Lib.hid (HR0.out.below hb HR0.out.lt)
  clear hb
  go_wp2_with fail
  refine (HN.out _ (HL.out.call HB.out)).mono ?_
  rintro e u2 ⟨rfl, hb⟩
  replace HB := Lib.hid (thenB HB.out hb HB.out.size)
  replace HR0 := Lib.hid (HR0.out.below hb HR0.out.lt)
  clear hb
  go_wp2_with (refine storeRnQ rfl _ _ rfl u2 ⟨F, op, fa, pr, wh⟩ R hR rfl rfl rfl ?_; intro u3 hx hN; refine StopS.out ?_)
  refine ⟨?_⟩
  replace HB := Lib.hid (thenB HB.out hN.out HB.out.size)
  replace HR0 := Lib.hid (HR0.out.below hN.out HR0.out.lt)
  clear hN
  go_wp2_with (first | (refine loadRfQ rfl _ rfl u2.heap.size ⟨F, op, fa, pr, wh⟩ R hR rfl hx.out ?_) | (refine storeRfQ rfl _ _ rfl w.heap.size _ zrK R hR rfl rfl HR0.out ?_; intro u9 hx9 hB9 _; refine StopS.out ?_))
  refine ⟨?_⟩
  go_wp2_with fail
  refine bodyPost_ret (by rw [← hR.out]; exact resRb9 (p := 2) (q := 3) rfl _ (g := w.heap.size) rfl rfl hx9.out) rfl ⟨rfl, ?_⟩
  exact HB.out.trans (hB9.out _ (Nat.le_refl _))
end Go.Proofs.YtkpijnodhlonfaaGreatDoor

namespace Go.Proofs.YtkpijnodhlonfaaGreatDoor
open Go.RowKit

theorem cellsB1 : Tryz.prog.cellsOf 4 = 1 := by kernel_rfl
theorem cellsRow : Tryz.prog.cellsOf 35 = 256 := by kernel_rfl
theorem eqArr9 (m : Nat) (S : BitVec 256) (w : World) : (Op.equalIn (m + 2) 35 (.agg (bitsA S)) (.agg (bitsA S))).run Tryz.prog w = .ok true w := by
  obtain ⟨i, hi⟩ : ∃ i, Tryz.prog.info? 4 = some i := Option.isSome_iff_exists.1 (by kernel_rfl)
  rw [show m + 2 = (m + 1) + 1 from rfl, run_equalIn_array w (m + 1) _ _ Tryz.underlying35 hi, cellsB1]
  have h : ∀ is : List Nat, (∀ i, i ∈ is → i < 256) → (Op.eqItems (m + 1) 4 1 (bitsA S) (bitsA S) is).run Tryz.prog w = .ok true w := by
    intro is
    induction is with
    | nil => intro _; simp [Op.eqItems]
    | cons j js ih =>
      intro hj
      have h1 : (bitsA S)[j * 1]? = some (.bool (mem S j)) := by rw [Nat.mul_one]; exact bitsA_get S j (hj j (by simp))
      have p := run_part_plain (P := Tryz.prog) w (e := 4) (by kernel_rfl) h1
      have q := run_equalIn_bool (P := Tryz.prog) w m 4 (mem S j) (mem S j) Tryz.underlying4
      simp only [Op.eqItems, Sem.run_bind, p, q, Result.andThen_ok, beq_self_eq_true, Bool.not_true, Bool.false_eq_true, if_false]
      exact ih fun i hi => hj i (by simp [hi])
  exact h _ fun i hi => List.mem_range.1 hi
theorem eqFields_true {P : Program} (w : World) (d : Nat) (xs : Array Value) : ∀ fs : List Field, (∀ f, f ∈ fs → ∃ a, (part f.type xs f.offset).run P w = .ok a w ∧ (Op.equalIn d f.type a a).run P w = .ok true w) → (Op.eqFields d xs xs fs).run P w = .ok true w
  | [], _ => by simp [Op.eqFields]
  | f :: fs, h => by
    have ih := eqFields_true w d xs fs fun g hg => h g (by simp [hg])
    obtain ⟨a, p, q⟩ := h f (by simp)
    unfold Op.eqFields
    split
    · simp only [Sem.run_bind, p, q, Result.andThen_ok, Bool.not_true, Bool.false_eq_true, if_false]
      exact ih
    · exact ih
theorem part_row (S : BitVec 256) (w : World) : (part 35 (bitsA S) 0).run Tryz.prog w = .ok (.agg (bitsA S)) w := by
  obtain ⟨i, hi⟩ : ∃ i, Tryz.prog.info? 35 = some i := Option.isSome_iff_exists.1 (by kernel_rfl)
  have e : (bitsA S).extract 0 256 = bitsA S := by
    rw [show 256 = (bitsA S).size from (bitsA_size _).symm]
    simp
  simp [part, isAgg, run_underlying Tryz.underlying35, go_sem, e]
theorem eqRs (m : Nat) (S : BitVec 256) (w : World) : (Op.equalIn (m + 3) 37 (.agg (bitsA S)) (.agg (bitsA S))).run Tryz.prog w = .ok true w := by
  refine (run_equalIn_agg w (m + 2) _ _ _ (by kernel_rfl) (by kernel_rfl)).trans ?_
  have hF : (Tryz.prog.fieldsOf 37).toList.map (fun f => (f.type, f.offset)) = [(35, 0)] := by kernel_rfl
  refine eqFields_true w _ _ _ fun f hf => ?_
  have hm : (f.type, f.offset) ∈ (Tryz.prog.fieldsOf 37).toList.map (fun f => (f.type, f.offset)) := List.mem_map.2 ⟨f, hf, rfl⟩
  rw [hF] at hm
  clear hF hf
  simp only [List.mem_cons, Prod.mk.injEq, List.not_mem_nil, or_false] at hm
  obtain ⟨e1, e2⟩ := hm
  rw [e1, e2]
  exact ⟨_, part_row S w, eqArr9 m S w⟩
theorem rfC_set (k : FK) : (rfC k).extract 0 256 = bitsA k.F := by
  unfold rfC
  rw [show 256 = (bitsA k.F).size from (bitsA_size _).symm]
  simp
theorem part_set (k : FK) (w : World) : (part 37 (rfC k) 0).run Tryz.prog w = .ok (.agg (bitsA k.F)) w := by
  obtain ⟨i, hi⟩ : ∃ i, Tryz.prog.info? 37 = some i := Option.isSome_iff_exists.1 (by kernel_rfl)
  simp [part, isAgg, run_underlying Tryz.underlying37, go_sem, rfC_set]
theorem eqRf (k : FK) (w : World) : (Op.equalIn 10000 39 (.agg (rfC k)) (.agg (rfC k))).run Tryz.prog w = .ok true w := by
  refine (run_equalIn_agg w 9999 _ _ _ (by kernel_rfl) (by kernel_rfl)).trans ?_
  have hF : (Tryz.prog.fieldsOf 39).toList.map (fun f => (f.type, f.offset)) = [(37, 0), (4, 256), (4, 257), (9, 258)] := by kernel_rfl
  refine eqFields_true w _ _ _ fun f hf => ?_
  have hm : (f.type, f.offset) ∈ (Tryz.prog.fieldsOf 39).toList.map (fun f => (f.type, f.offset)) := List.mem_map.2 ⟨f, hf, rfl⟩
  rw [hF] at hm
  clear hF hf
  simp only [List.mem_cons, Prod.mk.injEq, List.not_mem_nil, or_false] at hm
  rcases hm with ⟨e1, e2⟩ | ⟨e1, e2⟩ | ⟨e1, e2⟩ | ⟨e1, e2⟩ <;> rw [e1, e2]
  · exact ⟨_, part_set k w, eqRs 9996 k.F w⟩
  · exact ⟨_, run_part_plain (P := Tryz.prog) w (e := 4) (by kernel_rfl) (rfC_op k), (run_equalIn_bool w 9998 _ _ _ Tryz.underlying4).trans (by simp)⟩
  · exact ⟨_, run_part_plain (P := Tryz.prog) w (e := 4) (by kernel_rfl) (rfC_fa k), (run_equalIn_bool w 9998 _ _ _ Tryz.underlying4).trans (by simp)⟩
  · exact ⟨_, run_part_plain (P := Tryz.prog) w (e := 9) (by kernel_rfl) (rfC_pr k), (run_equalIn_string w 9998 _ _ _ Tryz.underlying9).trans (by simp)⟩
theorem eqlRf (k : FK) (w : World) : (binOp .eql 39 (.agg (rfC k)) (.agg (rfC k))).run Tryz.prog w = .ok (.bool true) w := by
  rw [run_eql_struct, eqRf]
  rfl
section
variable {ops : Array Oper} {R : World → Prop} {a : Act} {o : Oper} {x y : Operand}
theorem eqRf_y (k : FK) (RR : Array Value) (hR : Hid (rfC k = RR)) (ho : o.op = .binOp .eql 39 x y 39) (hx : a.eval x = .agg RR) (hy : a.eval y = .agg RR) (hw : Region.wanted o (yielded ops a.tmps) = true) : YieldsIf Tryz.prog ops R o (.bool true) a := by
  obtain ⟨rfl⟩ := hR.out
  refine Or.inl ⟨hw, fun u _ => ?_⟩
  have hg := run_eqGuard_agg (P := Tryz.prog) u .eql 39 x y (rfC k) (rfC k) (by kernel_rfl)
  have he := eqlRf k u
  unfold execOp
  simp only [ho, hx, hy, Sem.run_bind, hg, he, Result.andThen_ok, Sem.run_pure]
theorem loadRfQ_y (g : Nat) (k : FK) (RR : Array Value) (hRR : Hid (rfC k = RR)) (hR : ∀ u, R u → BoxR u g k) (ho : o.op = .load 39 x) (hx : a.eval x = .pointer (some ⟨g, 0, none⟩)) (hw : Region.wanted o (yielded ops a.tmps) = true) : YieldsIf Tryz.prog ops R o (.agg RR) a := by
  obtain ⟨rfl⟩ := hRR.out
  refine Or.inl ⟨hw, fun u h => ?_⟩
  have hl := run_loadVar_row u g 39 39 (rfC k) (0, 0) _ (hR u h) Tryz.underlying39 rfl (by rw [rfC_size]; exact sizeRf)
  unfold execOp
  simp only [ho, hx, Instr.loadAt, Instr.sureAddr, Sem.run_bind, Sem.run_pure, Result.andThen_ok, hl]
end
end Go.Proofs.YtkpijnodhlonfaaGreatDoor

namespace Go.Proofs.YtkpijnodhlonfaaGreatDoor
open Go.RowKit

section
variable {ops : Array Oper} {R : World → Prop} {a : Act} {o : Oper} {x y : Operand}
theorem buildRK_y {x0 x1 x2 x3 : Operand} (S : BitVec 256) (b c : Bool) (s : ByteArray) (d : Bool) (K : FK) (hK : (⟨S, b, c, s, d⟩ : FK) = K) (ho : o.op = .build 39 #[(0, x0), (1, x1), (2, x2), (3, x3)]) (h0 : a.eval x0 = .agg (bitsA S)) (h1 : a.eval x1 = .bool b) (h2 : a.eval x2 = .bool c) (h3 : a.eval x3 = .string s) (hw : Region.wanted o (yielded ops a.tmps) = true) : YieldsIf Tryz.prog ops R o (.agg (rfC K)) a := by
  subst hK
  refine Or.inl ⟨hw, fun u _ => ?_⟩
  have h := buildRf S b c s u
  have e : rfC ⟨S, b, c, s, d⟩ = rfC ⟨S, b, c, s, false⟩ := by unfold rfC; rfl
  rw [e]
  unfold execOp
  simp only [ho, List.map_toArray, List.map_cons, List.map_nil, h0, h1, h2, h3, Sem.run_bind, h, Result.andThen_ok, Sem.run_pure]
theorem loadW9_y (g : Nat) (k : FK) (hR : ∀ u, R u → BoxF u g k) (ho : o.op = .load 27 x) (hx : a.eval x = .pointer (some ⟨g, 0, none⟩)) (hw : Region.wanted o (yielded ops a.tmps) = true) : YieldsIf Tryz.prog ops R o (setV k.F) a := by
  refine Or.inl ⟨hw, fun u h => ?_⟩
  have c0 : u.cell? ⟨g, 0, none⟩ = some (.int .u64 (W k.F 0 : Nat)) := BoxV.get (hR u h) 0 rfl
  have c1 : u.cell? ⟨g, 1, none⟩ = some (.int .u64 (W k.F 1 : Nat)) := BoxV.get (hR u h) 1 rfl
  have c2 : u.cell? ⟨g, 2, none⟩ = some (.int .u64 (W k.F 2 : Nat)) := BoxV.get (hR u h) 2 rfl
  have c3 : u.cell? ⟨g, 3, none⟩ = some (.int .u64 (W k.F 3 : Nat)) := BoxV.get (hR u h) 3 rfl
  unfold execOp
  simp only [ho, hx]
  simp [go_sem, c0, c1, c2, c3]
theorem putRf_run {w : World} {g : Nat} {K k' : FK} (hg : BoxR w g k') (ho : o.op = .store 39 x y) (hx : a.eval x = .pointer (some ⟨g, 0, none⟩)) (hy : a.eval y = .agg (rfC K)) : (execOp a.eval o).run Tryz.prog w = .ok .skip (w.setRow g (rfC K)) := by
  unfold execOp
  simp only [ho, hx, hy, Instr.storeAt, Instr.sureAddr, Sem.run_bind, Sem.run_pure, Result.andThen_ok, run_storeVar_row w g _ 39 _ _ hg (by rw [rfC_size]; exact sizeRf) (by rw [rfC_size, rfC_size]) (rfC_one K)]
end
theorem resR1 {fn : Func} {p : Tmp} {k : FK} (h : fn.results = #[.cell p 39]) (tmps : Array Value) {w : World} {g : Nat} (hp : tmps.getD p undef = .pointer (some ⟨g, 0, none⟩)) (hg : BoxR w g k) :
    (results fn tmps).run Tryz.prog w = .ok (.agg (rfC k)) w := by
  have hp' : tmps[p]?.getD undef = .pointer (some ⟨g, 0, none⟩) := by simpa using hp
  have hl := run_loadVar_row w g 39 39 (rfC k) (0, 0) _ hg Tryz.underlying39 rfl (by rw [rfC_size]; exact sizeRf)
  simp [results, h, hp', asAddr, hl]
theorem BoxF.c4r {w : World} {g : Nat} {k : FK} (h : BoxF w g k) : w.cell? ⟨g, 4, none⟩ = some (.bool k.op) := BoxV.get h 4 rfl
set_option maxRecDepth 100000 in
set_option maxHeartbeats 8000000 in
theorem rref_any (k : FK) (w : World) : Calls Tryz.prog 13 #[.agg (facC k)] w fun e w' => e = .returned (.agg (rfC k)) ∧ Below w.heap.size w w' := by
  have HO := Lib.hid (fun w => rof_any k.F w)
  have hS : (fun u => Below w.heap.size w u ∧ BoxF u w.heap.size k ∧ ∃ z, BoxR u (w.heap.size + 1) z) ((w.alloc (.cells (facC k) 31)).alloc (.cells (rfC zrK) 39)) := ⟨by go_grown, (BoxV.new _ _).alloc _, _, BoxV.new2 _ _ _⟩
  have HS := Lib.hid hS
  clear hS
  go_enter Tryz.func13, Tryz.ntmps13
  go_wp2_with fail
  refine wp_region_held_drew (S := fun u => Below w.heap.size w u ∧ BoxF u w.heap.size k ∧ ∃ z, BoxR u (w.heap.size + 1) z) (by kernel_rfl) (show _ from ⟨HS.out.1.trans ((Below.refl _ _).drew.mono HS.out.1.size), HS.out.2.1.drew, HS.out.2.2.imp fun _ h => h.drew⟩) (fun hS => ?_)
  clear HS
  generalize World.drew _ = v0 at hS ⊢
  refine takeAt 0 3 (.pointer (some ⟨w.heap.size, 0, none⟩)) rfl rfl (by kernel_rfl) (by kernel_rfl) (by kernel_rfl) (fun _ _ _ h => h) (yields (by rfl) (fun w => by kernel_rfl)) hS ?_
  simp only [Act.put, List.setIfInBounds_toArray, List.set_cons_zero, List.set_cons_succ]
  refine takeAt 1 4 (.pointer (some ⟨w.heap.size, 0, none⟩)) rfl rfl (by kernel_rfl) (by kernel_rfl) (by kernel_rfl) (fun _ _ _ h => h) (yields (by rfl) (fun w => by kernel_rfl)) hS ?_
  simp only [Act.put, List.setIfInBounds_toArray, List.set_cons_zero, List.set_cons_succ]
  refine takeAt 2 5 (setV k.F) rfl rfl (by kernel_rfl) (by kernel_rfl) (by kernel_rfl) (fun _ _ _ h => h) (loadW9_y w.heap.size k (fun _ h => h.2.1) rfl rfl (by rfl)) hS ?_
  simp only [Act.put, List.setIfInBounds_toArray, List.set_cons_zero, List.set_cons_succ]
  refine takeAt 4 7 (.pointer (some ⟨w.heap.size, 4, none⟩)) rfl rfl (by kernel_rfl) (by kernel_rfl) (by kernel_rfl) (fun _ _ _ h => h) (yields (by rfl) (fun w => by kernel_rfl)) hS ?_
  simp only [Act.put, List.setIfInBounds_toArray, List.set_cons_zero, List.set_cons_succ]
  refine takeAt 5 8 (.bool k.op) rfl rfl (by kernel_rfl) (by kernel_rfl) (by kernel_rfl) (fun _ _ _ h => h) (loadB9_y w.heap.size 4 k.op (fun _ h => BoxF.c4r h.2.1) rfl rfl (by rfl)) hS ?_
  simp only [Act.put, List.setIfInBounds_toArray, List.set_cons_zero, List.set_cons_succ]
  refine takeAt 6 9 (.pointer (some ⟨w.heap.size, 5, none⟩)) rfl rfl (by kernel_rfl) (by kernel_rfl) (by kernel_rfl) (fun _ _ _ h => h) (yields (by rfl) (fun w => by kernel_rfl)) hS ?_
  simp only [Act.put, List.setIfInBounds_toArray, List.set_cons_zero, List.set_cons_succ]
  refine takeAt 7 10 (.bool k.fa) rfl rfl (by kernel_rfl) (by kernel_rfl) (by kernel_rfl) (fun _ _ _ h => h) (loadB9_y w.heap.size 5 k.fa (fun _ h => BoxF.c5 h.2.1) rfl rfl (by rfl)) hS ?_
  simp only [Act.put, List.setIfInBounds_toArray, List.set_cons_zero, List.set_cons_succ]
  refine takeAt 8 11 (.pointer (some ⟨w.heap.size, 6, none⟩)) rfl rfl (by kernel_rfl) (by kernel_rfl) (by kernel_rfl) (fun _ _ _ h => h) (yields (by rfl) (fun w => by kernel_rfl)) hS ?_
  simp only [Act.put, List.setIfInBounds_toArray, List.set_cons_zero, List.set_cons_succ]
  refine takeAt 9 12 (.string k.pr) rfl rfl (by kernel_rfl) (by kernel_rfl) (by kernel_rfl) (fun _ _ _ h => h) (loadP9_y w.heap.size 6 k.pr (fun _ h => BoxF.c6 h.2.1) rfl rfl (by rfl)) hS ?_
  simp only [Act.put, List.setIfInBounds_toArray, List.set_cons_zero, List.set_cons_succ]
  refine callAt 3 6 rfl rfl (by kernel_rfl) (by rfl) (by kernel_rfl) (HO.out _) ?_
  rintro e v1 ⟨rfl, hb⟩
  have hS := And.intro (thenB hS.1 hb hS.1.size) (And.intro (hS.2.1.below hb hS.2.1.lt) (hS.2.2.imp fun _ h => h.below hb h.lt))
  clear hb
  refine ⟨_, rfl, hS, ?_⟩
  simp only [Act.put, List.setIfInBounds_toArray, List.set_cons_zero, List.set_cons_succ]
  refine takeAt 10 13 (.agg (rfC k)) rfl rfl (by kernel_rfl) (by kernel_rfl) (by kernel_rfl) (fun _ _ _ h => h) (buildRK_y k.F k.op k.fa k.pr k.wh k rfl rfl rfl rfl rfl rfl (by rfl)) hS ?_
  simp only [Act.put, List.setIfInBounds_toArray, List.set_cons_zero, List.set_cons_succ]
  obtain ⟨h1, h2, zz, h3⟩ := hS
  refine skipAt 11 (v1.setRow (w.heap.size + 1) (rfC k)) rfl rfl (by kernel_rfl) (by rfl) (putRf_run h3 rfl rfl rfl) ⟨h1.trans ⟨rfl, rfl, rfl, by simp, fun j hj => setRow_other v1 (w.heap.size + 1) j _ (by omega)⟩, (setRow_other v1 (w.heap.size + 1) w.heap.size _ (by omega)).trans h2, k, setRow_heap v1 (w.heap.size + 1) _ _ _ _ h3⟩ ?_
  refine wpAnyH_done (by kernel_rfl) ?_ _
  go_wp2
  refine bodyPost_ret (resR1 (p := 2) rfl _ (g := w.heap.size + 1) rfl (setRow_heap v1 (w.heap.size + 1) _ _ _ _ h3)) rfl ⟨rfl, ?_⟩
  exact h1.trans ⟨rfl, rfl, rfl, by simp, fun j hj => setRow_other v1 (w.heap.size + 1) j _ (by omega)⟩
end Go.Proofs.YtkpijnodhlonfaaGreatDoor

namespace Go.Proofs.YtkpijnodhlonfaaGreatDoor
open Go.RowKit
open Ast (Nd Nodes rightZ siz len)

section
variable {ops : Array Oper} {R : World → Prop} {a : Act} {o : Oper} {x y : Operand}
theorem eqlI9e_y (m : Int) (ho : o.op = .binOp .eql 32 x y 32) (hx : a.eval x = .int .i64 m) (hy : a.eval y = .int .i64 m) (hw : Region.wanted o (yielded ops a.tmps) = true) : YieldsIf Tryz.prog ops R o (.bool true) a := by
  refine Or.inl ⟨hw, fun w _ => ?_⟩
  unfold execOp
  simp only [ho, hx, hy]
  go_simp
end
theorem rof9_any (A : Option Addr) (n cap : Nat) (l : Nat → Nd) (w : World) (hn : n ≤ 1000000) (hl : Nodes w A n l) (hL : LitOk9 l n) (R : Array Value) (hR : Hid (rfC (if rightZ l n = 0 then factZ l n else zrK) = R)) :
    Calls Tryz.prog 11 #[.slice A n cap] w fun e w' => e = .returned (.tuple #[.agg R, .int .i64 (rightZ l n)]) ∧ Below w.heap.size w w' := by
  by_cases h : rightZ l n = 0
  · rw [if_pos h] at hR
    rw [h]
    exact rof9_good A n cap l w hn hl hL R hR h
  · rw [if_neg h] at hR
    exact rof9_bad A n cap l w hn hl R hR h

set_option maxRecDepth 100000 in
set_option maxHeartbeats 16000000 in
theorem factsTell_any (K : PKit) (A : Option Addr) (n cap : Nat) (l : Nat → Nd) (w : World) (hc : n ≤ cap) (hcap : cap ≤ 9223372036854775807) (h0 : A = none → n = 0 ∧ cap = 0) (hl : Nodes w A n l) (hWd : ∀ i, i < n → Wds (l i)) (hw : Tabs w) :
    Calls Tryz.prog 3 #[.agg (trC A n cap)] w fun e w' => e = .returned (.bool true) ∧ Below w.heap.size w w' := by
  obtain ⟨m, hm⟩ : ∃ m, m = min n 60 := ⟨_, rfl⟩
  have HC := Lib.hid (fun w => Ast.cut_any A n cap 60 w hc hcap h0 (by omega))
  rw [← hm] at HC
  have hm60 : m ≤ 60 := by omega
  have hmn : m ≤ n := by omega
  have HLm := Lib.hid (show Nodes w A m l from fun i hi => hl i (by omega))
  have hLit : LitOk9 l m := lit9_of fun i hi => hWd i (by omega)
  have HO := Lib.hid (fun u h t => of9_any K.sort K.none A m cap l u (by omega) h hLit t)
  unfold ofV at HO
  have HOr := Lib.hid (fun A' cap' u h R hR => rof9_any A' m cap' l u (by omega) h hLit R hR)
  have HRf := Lib.hid (fun u h => Ast.ref_any A m cap l u (by omega) h)
  have HFix := Lib.hid (fun w h => fixed9_any K w h)
  have HT := Lib.hid hw
  clear hm hl hWd hw h0 hc hcap hmn hLit K
  generalize (if rightZ l m = 0 then factZ l m else zrK) = k at HO HOr
  generalize rightZ l m = q at HO HOr
  obtain ⟨F, op, fa, pr, wh⟩ := k
  have RR := Lib.hid (fun w => rref_any ⟨F, op, fa, pr, wh⟩ w)
  generalize hR : rfC ⟨F, op, fa, pr, wh⟩ = R at RR HOr
  have HR := Lib.hid hR
  have HQ := Lib.hid (fun A' cap' u h => HOr.out A' cap' u h R (Lib.hid rfl))
  clear hR HOr
  go_enter Tryz.func3, Tryz.ntmps3
  go_wp2_with fail
  refine (HC.out _).mono ?_
  rintro e u0 ⟨rfl, hb⟩
  have HX0 := Lib.hid (show BoxV 24 u0 w.heap.size (trC A n cap) from BoxV.below (BoxV.new _ _) hb (by simp))
  have HB0 := Lib.hid (show Below w.heap.size w u0 from (show Below w.heap.size w _ by go_grown).trans (hb.mono (by simp)))
  clear hb HC
  go_wp2_with (refine storeTr9 rfl _ _ rfl w.heap.size _ A m cap rfl rfl (by rfl) HX0.out ?_; intro u1 hx hB; refine StopS.out ?_)
  refine ⟨?_⟩
  have HB1 := Lib.hid (HB0.out.trans (hB.out _ (Nat.le_refl _)))
  have HL := Lib.hid (show LBx w A m cap l u1 from ⟨HB1.out, hx.out, HLm.out.below HB1.out (Nat.le_refl _), HT.out.call HB1.out⟩)
  clear HX0 HB0 HB1 hx hB HLm HT
  have c0 : u1.cell? ⟨w.heap.size, 0, none⟩ = some (.slice A m cap) := HL.out.tree.get 0 rfl
  go_wp2_with fail
  refine (HO.out _ HL.out.nodes HL.out.tabs.tab).mono ?_
  rintro e u2 ⟨rfl, hb⟩
  replace HL := Lib.hid (HL.out.call hb)
  clear hb c0
  go_wp2_with (refine storeF9n rfl _ _ rfl u2 ⟨F, op, fa, pr, wh⟩ rfl rfl rfl ?_; intro u3 hx hN; refine StopS.out ?_)
  refine ⟨?_⟩
  replace HL := Lib.hid (show LBx w A m cap l u3 from ⟨HL.out.below.trans (hN.out.mono HL.out.below.size), HL.out.tree.below hN.out HL.out.tree.lt, HL.out.nodes.below hN.out (Nat.le_refl _), HL.out.tabs.call hN.out⟩)
  have HF := Lib.hid hx.out
  clear hx hN
  have c0 : u3.cell? ⟨w.heap.size, 0, none⟩ = some (.slice A m cap) := HL.out.tree.get 0 rfl
  go_wp2_with fail
  refine (HRf.out _ HL.out.nodes).mono ?_
  rintro e u4 ⟨A', cap', rfl, hnod, hb⟩
  have HN := Lib.hid hnod
  replace HL := Lib.hid (HL.out.call hb)
  replace HF := Lib.hid (HF.out.below hb HF.out.lt)
  clear hb c0 hnod
  go_wp2_with fail
  refine (HQ.out _ _ _ HN.out).mono ?_
  rintro e u5 ⟨rfl, hb⟩
  replace HL := Lib.hid (HL.out.call hb)
  replace HF := Lib.hid (HF.out.below hb HF.out.lt)
  clear hb HN
  go_wp2_with (refine storeRnQ rfl _ _ rfl u5 ⟨F, op, fa, pr, wh⟩ R HR rfl rfl rfl ?_; intro u6 hx hN; refine StopS.out ?_)
  refine ⟨?_⟩
  replace HL := Lib.hid (show LBx w A m cap l u6 from ⟨HL.out.below.trans (hN.out.mono HL.out.below.size), HL.out.tree.below hN.out HL.out.tree.lt, HL.out.nodes.below hN.out (Nat.le_refl _), HL.out.tabs.call hN.out⟩)
  replace HF := Lib.hid (HF.out.below hN.out HF.out.lt)
  have HG := Lib.hid hx.out
  clear hx hN
  go_wp2_with fail
  refine wp_region_held_drew (S := fun u => LBx w A m cap l u ∧ BoxF u u2.heap.size ⟨F, op, fa, pr, wh⟩ ∧ BoxR u u5.heap.size ⟨F, op, fa, pr, wh⟩) (by kernel_rfl) (show _ from ⟨HL.out.call (Below.refl _ _).drew, HF.out.drew, HG.out.drew⟩) (fun hS => ?_)
  clear HL HF HG
  generalize World.drew _ = v0 at hS ⊢
  refine takeAt 0 20 (.agg (facC ⟨F, op, fa, pr, wh⟩)) rfl rfl (by kernel_rfl) (by kernel_rfl) (by kernel_rfl) (fun _ _ _ h => h) (loadF_y u2.heap.size ⟨F, op, fa, pr, wh⟩ (fun _ h => h.2.1) rfl rfl (by rfl)) hS ?_
  simp only [Act.put, List.setIfInBounds_toArray, List.set_cons_zero, List.set_cons_succ]
  refine takeAt 2 22 (.agg R) rfl rfl (by kernel_rfl) (by kernel_rfl) (by kernel_rfl) (fun _ _ _ h => h) (loadRfQ_y u5.heap.size ⟨F, op, fa, pr, wh⟩ R HR (fun _ h => h.2.2) rfl rfl (by rfl)) hS ?_
  simp only [Act.put, List.setIfInBounds_toArray, List.set_cons_zero, List.set_cons_succ]
  refine callAt 1 21 rfl rfl (by kernel_rfl) (by rfl) (by kernel_rfl) (RR.out _) ?_
  rintro e v1 ⟨rfl, hb⟩
  have hS := And.intro (hS.1.call hb) (And.intro (hS.2.1.below hb hS.2.1.lt) (hS.2.2.below hb hS.2.2.lt))
  clear hb
  refine ⟨_, rfl, hS, ?_⟩
  simp only [Act.put, List.setIfInBounds_toArray, List.set_cons_zero, List.set_cons_succ]
  refine takeAt 3 23 (.bool true) rfl rfl (by kernel_rfl) (by kernel_rfl) (by kernel_rfl) (fun _ _ _ h => h) (eqRf_y ⟨F, op, fa, pr, wh⟩ R HR rfl rfl rfl (by rfl)) hS ?_
  simp only [Act.put, List.setIfInBounds_toArray, List.set_cons_zero, List.set_cons_succ]
  refine takeAt 4 24 (.bool true) rfl rfl (by kernel_rfl) (by kernel_rfl) (by kernel_rfl) (fun _ _ _ h => h) (yields (by rfl) (fun w => by kernel_rfl)) hS ?_
  simp only [Act.put, List.setIfInBounds_toArray, List.set_cons_zero, List.set_cons_succ]
  refine takeAt 5 25 (.int .i64 q) rfl rfl (by kernel_rfl) (by kernel_rfl) (by kernel_rfl) (fun _ _ _ h => h) (yields (by rfl) (fun w => by kernel_rfl)) hS ?_
  simp only [Act.put, List.setIfInBounds_toArray, List.set_cons_zero, List.set_cons_succ]
  refine takeAt 6 26 (.int .i64 q) rfl rfl (by kernel_rfl) (by kernel_rfl) (by kernel_rfl) (fun _ _ _ h => h) (yields (by rfl) (fun w => by kernel_rfl)) hS ?_
  simp only [Act.put, List.setIfInBounds_toArray, List.set_cons_zero, List.set_cons_succ]
  refine takeAt 7 27 (.bool true) rfl rfl (by kernel_rfl) (by kernel_rfl) (by kernel_rfl) (fun _ _ _ h => h) (eqlI9e_y q rfl rfl rfl (by rfl)) hS ?_
  simp only [Act.put, List.setIfInBounds_toArray, List.set_cons_zero, List.set_cons_succ]
  refine takeAt 8 28 (.bool true) rfl rfl (by kernel_rfl) (by kernel_rfl) (by kernel_rfl) (fun _ _ _ h => h) (yields (by rfl) (fun w => by kernel_rfl)) hS ?_
  simp only [Act.put, List.setIfInBounds_toArray, List.set_cons_zero, List.set_cons_succ]
  refine takeAt 9 29 (.bool true) rfl rfl (by kernel_rfl) (by kernel_rfl) (by kernel_rfl) (fun _ _ _ h => h) (yields (by rfl) (fun w => by kernel_rfl)) hS ?_
  simp only [Act.put, List.setIfInBounds_toArray, List.set_cons_zero, List.set_cons_succ]
  refine callAt 10 30 rfl rfl (by kernel_rfl) (by rfl) (by kernel_rfl) (HFix.out _ hS.1.tabs) ?_
  rintro e v1 ⟨rfl, hb⟩
  have hS := And.intro (hS.1.call hb) (And.intro (hS.2.1.below hb hS.2.1.lt) (hS.2.2.below hb hS.2.2.lt))
  clear hb
  refine ⟨_, rfl, hS, ?_⟩
  simp only [Act.put, List.setIfInBounds_toArray, List.set_cons_zero, List.set_cons_succ]
  refine takeAt 11 31 (.bool true) rfl rfl (by kernel_rfl) (by kernel_rfl) (by kernel_rfl) (fun _ _ _ h => h) (yields (by rfl) (fun w => by kernel_rfl)) hS ?_
  simp only [Act.put, List.setIfInBounds_toArray, List.set_cons_zero, List.set_cons_succ]
  refine takeAt 12 2 (.bool true) rfl rfl (by kernel_rfl) (by kernel_rfl) (by kernel_rfl) (fun _ _ _ h => h) (yields (by rfl) (fun w => by kernel_rfl)) hS ?_
  simp only [Act.put, List.setIfInBounds_toArray, List.set_cons_zero, List.set_cons_succ]
  refine wpAnyH_done (by kernel_rfl) ?_ _
  have HS := Lib.hid hS.1
  clear hS
  go_wp2
  go_ret
  exact ⟨rfl, HS.out.below⟩
end Go.Proofs.YtkpijnodhlonfaaGreatDoor
