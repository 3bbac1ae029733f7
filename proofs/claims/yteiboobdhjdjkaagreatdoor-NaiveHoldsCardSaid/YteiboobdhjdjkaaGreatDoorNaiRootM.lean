import Derived.Test.YteiboobdhjdjkaaGreatDoorNaiDef
import Derived.RangeFuncLeaves
import Derived.RangeFuncCalls
import Derived.RangeFuncNested
import Derived.Shelf.Abstract
import Derived.WalkKit
import Derived.OwnWalkIn
import Derived.TacticsInMore
import Derived.LoopNIn
import Derived.LoopIn
namespace Go.Proofs.YteiboobdhjdjkaaGreatDoor.Nai
open Go.RowKit
open Cap (Cp cpC BoxV)
attribute [local go_sem] Oper.semAt_some
theorem root_any (l yb mb q : Nat) (y : Sp) (w : World) (R : Bool → World → Prop)
  (hy : BoxV 168 w yb #[.func (.yield l) #[] #[]])
  (hY : YieldAt Fence.wide 0 Tryz.prog l #[spV y q] (w.alloc (.cells #[.int .i64 (y.1 : Int), ptr q] 93)) (fun e W' => ∃ b b0, e = .returned (.bool b) ∧ BoxV 4 W' mb #[.bool b0] ∧ R b W')) :
  Calls Tryz.prog 100 #[spV y q, ptr yb, ptr mb] w fun e w' => (∃ v, e = .returned v) ∧ ∃ b W', R b W' ∧ w' = W'.setCell ⟨mb, 0, none⟩ (.bool b) := by
 refine (callsIn_wide (n := 0)).1 ?_
 have hy2 := (hy.alloc (.cells #[.int .i64 (y.1 : Int), ptr q] 93)).get 0 rfl
 refine callsIn_of_wp Tryz.func100 rfl trivial ?_ rfl
 simp only [Tryz.ntmps100, List.size_toArray, List.length_cons, List.length_nil, Nat.reduceAdd, Nat.reduceSub, Array.replicate_succ, Array.replicate_zero, List.push_toArray, List.append_toArray, List.nil_append, List.cons_append]
 obtain ⟨fn, tmps, assign, body, hy3, hR⟩ := hY
 gi_wp2
 refine ⟨rfl, hR.mono ?_⟩
 rintro e W' ⟨b, b0, rfl, hm, hr⟩
 have hc := hm.get 0 rfl
 have hf := hm.free 0
 rename_i K hK
 refine hK _ _ ?_
 gi_wp2
 go_end0
 exact ⟨⟨_, rfl⟩, b, W', hr, rfl⟩
end Go.Proofs.YteiboobdhjdjkaaGreatDoor.Nai
namespace Go.Proofs.YteiboobdhjdjkaaGreatDoor.Nai
open Go.RowKit
open Cap (Cp cpC BoxV)
attribute [local go_sem] Oper.semAt_some
set_option maxHeartbeats 1000000 in
theorem bw_any (l b1 vb n cap : Nat) (hn : n ≤ 1000) (vf : Nat → FuncId) (vc : Nat → Array Value) (J : Nat → World → Prop)
  (hJ : ∀ i W, J i W → W.cell? ⟨b1, 0, none⟩ = some (.slice (some ⟨vb, 0, none⟩) n cap) ∧ ∀ j, j < n → W.cell? ⟨vb, j, none⟩ = some (.func (.func (vf j)) #[] (vc j)))
  (hR : ∀ (i : Nat) W, i < n → J i W → YieldAt Fence.wide 0 Tryz.prog l #[.int .i64 ((n : Int) - 1 - i), .func (.func (vf (n - 1 - i))) #[] (vc (n - 1 - i))] W fun e W' => e = .returned (.bool true) ∧ J (i + 1) W') (w : World) (h0 : J 0 w) :
  Calls Tryz.prog 194 #[.func (.yield l) #[] #[], ptr b1] w fun e w' => (∃ v, e = .returned v) ∧ J n w' := by
 refine (callsIn_wide (n := 0)).1 ?_
 obtain ⟨hb, hv⟩ := hJ 0 w h0
 refine callsIn_of_wp Tryz.func194 rfl trivial ?_ rfl
 simp only [Tryz.ntmps194, List.size_toArray, List.length_cons, List.length_nil, Nat.reduceAdd, Nat.reduceSub, Array.replicate_succ, Array.replicate_zero, List.push_toArray, List.append_toArray, List.nil_append, List.cons_append]
 gi_wp2
 gi_loopw [3] (fun p wr => ∃ i : Nat, i ≤ n ∧ p = .int .i64 ((n : Int) - 1 - i) ∧ J i wr) (fun p wr => (intOf p + 1).toNat)
 case atStart => exact ⟨0, Nat.zero_le _, by simp, h0⟩
 case round =>
  obtain ⟨i, hi, rfl, hJi⟩ := hrel
  by_cases hlt : i < n
  ·obtain ⟨hb2, hv2⟩ := hJ i wr hJi
   have hv3 := hv2 (n - 1 - i) (by omega)
   obtain ⟨j, hj⟩ : ∃ j : Nat, j = n - 1 - i := ⟨_, rfl⟩
   have hij : (n : Int) - 1 - i = (j : Int) := by omega
   obtain ⟨fn, tmps, assign, body, hy3, hRd⟩ := hR i wr hlt hJi
   rw [← hj, hij] at hy3
   rw [← hj] at hv3
   rw [hij]
   have hj2 : j < n := by omega
   have Hj := Lib.hid (And.intro hj hij)
   clear hv hv2 hj hij
   gi_wp2
   refine ⟨rfl, hRd.mono ?_⟩
   rintro e W' ⟨rfl, hJ2⟩
   rename_i K hK
   refine hK _ _ ?_
   gi_wp2
   go_roundw
   case rel => exact ⟨i + 1, by omega, by have := Hj.out; congr 1; omega, hJ2⟩
   case measure => simp [intOf]
  ·obtain rfl : i = n := by omega
   have q : (i : Int) - 1 - i = -1 := by omega
   rw [q]
   gi_wp2
   go_end0
   exact ⟨⟨_, rfl⟩, hJi⟩
end Go.Proofs.YteiboobdhjdjkaaGreatDoor.Nai
namespace Go.Proofs.YteiboobdhjdjkaaGreatDoor.Nai
section
variable {P : Program} {ops : Array Oper} {Q : Exit → Act → World → Prop} {md : Region.Mode} {l n : Nat}
theorem op_in {o : Oper} (ho : ∀ c, o.op ≠ .defer c) {a : Act} {w : World} {K K' : Act → World → Prop} (hK : ∀ a w, K a w → K' a w) (h : o.wp P a w K Q) : o.wpIn (Fence.wide.inRound l) n P a w K' Q := by
 unfold Oper.wp at h
 unfold Oper.wpIn
 refine ⟨fun _ _ => trivial, ?_⟩
 rw [show (Fence.wide.inRound l).round = some l from rfl, Oper.semAt_some l a.eval o ho]
 generalize (execOp a.eval o).run P w = r at h ⊢
 cases r with
 | ok x w' =>
   cases x with
   | value v => exact hK _ _ h
   | skip => exact hK _ _ h
   | defer d => exact hK _ _ h
   | enter f args =>
     refine ⟨fun e => Bool.noConfusion (show false = true from e), CallsIn.inRound l (callsIn_wide.2 ?_)⟩
     refine Calls.mono h fun e w'' he => ?_
     cases e with
     | returned v => exact hK _ _ he
     | panicked c => exact he
     | outgrown => exact he
   | row r args =>
     refine ⟨fun e => Bool.noConfusion (show false = true from e), fun c cs hroom => ?_⟩
     obtain ⟨v, w'', hv, hs⟩ := h c cs
     exact ⟨v, w'', hK _ _ hv, stepsIn_wide.2 hs⟩
   | round => exact h.elim
   | _ => exact h.elim
 | halt x w' => cases x <;> first | exact h | exact h.elim
theorem any_in (hd : ∀ (i : Nat) o, ops[i]? = some o → ∀ c, o.op ≠ .defer c) (hq : ¬ LetsOut Q) : ∀ (fuel : Nat) (listed : Array Bool) (a : Act) (w : World), wpAny P md ops Q fuel listed a w → wpAnyIn (Fence.wide.inRound l) n P md ops Q fuel listed a w := by
 intro fuel
 induction fuel with
 | zero => exact fun _ _ _ h => h
 | succ fuel ih =>
   intro listed a w h
   refine ⟨h.1, fun i hi => ?_⟩
   have h1 := h.2 i hi
   unfold wpOp at h1
   unfold wpOpIn
   cases ho : ops[i]? with
   | none => simp only [ho] at h1 ⊢; exact ih _ _ _ h1
   | some o =>
     simp only [ho] at h1 ⊢
     split at h1
     ·rename_i hw
      rw [if_pos hw]
      rcases h1 with h1 | h1
      ·exact op_in (hd i o ho) (fun a w hh => ih _ _ _ hh) h1
      ·exact absurd h1.2 hq
     ·rename_i hw
      rw [if_neg hw]
      exact ⟨fun _ _ => trivial, ih _ _ _ h1⟩
theorem region_in {S : World → Prop} {id : Nat} {a : Act} {w : World} (hm : P.follows .mixedOrders = true) (hd : ∀ (i : Nat) o, ops[i]? = some o → ∀ c, o.op ≠ .defer c) (hq : ¬ LetsOut Q)
  (h : wpAnyH P .any ops Q S ops.size (Array.replicate ops.size false) a w.drew) : (Code.region id ops true).wpIn (Fence.wide.inRound l) n P Q a w :=
 wpIn_region_any hm (any_in hd hq _ _ _ _ (wpAny_of_held _ _ _ _ h))
theorem no_defer (h : (ops.all fun o => match o.op with | .defer _ => false | _ => true) = true) : ∀ (i : Nat) o, ops[i]? = some o → ∀ c, o.op ≠ .defer c := by
 intro i o ho c e
 have := (Array.all_eq_true_iff_forall_mem.1 h) o (Array.mem_of_getElem? ho)
 rw [e] at this
 cases this
end
end Go.Proofs.YteiboobdhjdjkaaGreatDoor.Nai
namespace Go.Proofs.YteiboobdhjdjkaaGreatDoor.Nai
open Go.RowKit
theorem yield_mono {F : Fence} {k : Nat} {P : Program} {l : Nat} {args : Array Value} {W : World} {R R' : Ending → World → Prop} (h : YieldAt F k P l args W R) (hr : ∀ e w, R e w → R' e w) : YieldAt F k P l args W R' := by
 obtain ⟨fn, tmps, assign, body, hy, hR⟩ := h
 exact ⟨fn, tmps, assign, body, hy, hR.mono hr⟩
def recL (D : Nat) (fn : FuncId) (tmps : Array Value) (ps : Array Tmp) (assign body : Code) (st : LoopState) (pe : Option Code) : Loop :=
 { state := st, pending := pe, fn, tmps, params := ps, assign, body, defers := D }
structure RecAt (D : Nat) (r : Loop) (w : World) : Prop where
 lp : w.heap[D + 1]? = some (.loop r)
 dfr : w.heap[D]? = some (.deferred (some []))
theorem RecAt.put {D : Nat} {r : Loop} {w : World} (h : RecAt D r w) (r' : Loop) : RecAt D r' (w.putObj (D + 1) (.loop r')) :=
 ⟨World.putObj_heap_same (Array.getElem?_eq_some_iff.1 h.lp).1, (World.putObj_heap_other (by omega)).trans h.dfr⟩
section
variable {P : Program} {σ : Type} {D : Nat} {fn : FuncId} {tmps : Array Value} {ps : Array Tmp} {assign body : Code}
def rndPost (D : Nat) (r : Loop) (Jn : World → Prop) (Jx : Code → World → Prop) : Exit → Act → World → Prop
 | .normal, _, w => RecAt D r w ∧ Jn w
 | .ret, _, w => RecAt D r w ∧ Jx .ret w
 | .exit id, _, w => RecAt D r w ∧ Jx (.exit id) w
 | .goto t, _, w => RecAt D r w ∧ Jx (.goto t) w
 | .panic _, _, _ => False
 | .outgrown, _, _ => False
theorem round_law {args : Array Value} {W : World} (hs : args.size = ps.size) (Jn : World → Prop) (Jx : Code → World → Prop)
  (sn : ∀ w o, Jn w → Jn (w.putObj (D + 1) o)) (sx : ∀ c w o, Jx c w → Jx c (w.putObj (D + 1) o)) (hr : RecAt D (recL D fn tmps ps assign body .ready none) W)
  (hw : assign.wpIn (Fence.wide.inRound (D + 1)) 0 P (Exit.then (fun a1 w1 => RecAt D (recL D fn tmps ps assign body .ready none) w1 ∧
      body.wpIn (Fence.wide.inRound (D + 1)) 0 P (rndPost D (recL D fn tmps ps assign body .busy none) Jn Jx) a1 (w1.putObj (D + 1) (.loop (recL D fn tmps ps assign body .busy none)))) (fun _ _ _ => False))
   { tmps := (ps.zip args).foldl (fun t (p, v) => t.setIfInBounds p v) tmps, defers := [] } W) :
  YieldAt Fence.wide 0 P (D + 1) args W fun e W' => (e = .returned (.bool true) ∧ RecAt D (recL D fn tmps ps assign body .ready none) W' ∧ Jn W') ∨ ∃ c, e = .returned (.bool false) ∧ RecAt D (recL D fn tmps ps assign body .done (some c)) W' ∧ Jx c W' := by
 have hy := run_yield (P := P) (args := args) hr.lp hs
 refine ⟨_, _, _, _, hy, roundIn_of_wpIn trivial (wpIn_mono hw ?_)⟩
 rintro e a1 w1 h
 cases e with
 | normal =>
   obtain ⟨h1, h2⟩ := h
   refine ⟨_, run_beginRound h1.lp rfl, wpIn_mono h2 ?_⟩
   rintro e a3 w3 hp
   cases e with
   | normal =>
     obtain ⟨k1, k2⟩ := hp
     exact ⟨_, _, run_endRound none k1.lp, .inl ⟨rfl, k1.put _, sn _ _ k2⟩⟩
   | ret =>
     obtain ⟨k1, k2⟩ := hp
     exact ⟨_, _, run_endRound (some .ret) k1.lp, .inr ⟨_, rfl, k1.put _, sx _ _ _ k2⟩⟩
   | exit id =>
     obtain ⟨k1, k2⟩ := hp
     exact ⟨_, _, run_endRound (some (.exit id)) k1.lp, .inr ⟨_, rfl, k1.put _, sx _ _ _ k2⟩⟩
   | goto t =>
     obtain ⟨k1, k2⟩ := hp
     exact ⟨_, _, run_endRound (some (.goto t)) k1.lp, .inr ⟨_, rfl, k1.put _, sx _ _ _ k2⟩⟩
   | panic c => exact hp.elim
   | outgrown => exact hp.elim
 | _ => exact h.elim
theorem range_law {g : Operand} {Q : Exit → Act → World → Prop} {a : Act} {w : World} {gf : Nat} {lb : Array Value} (hg : a.eval g = .func (.func gf) #[] lb) (eg : ∀ args w, (callFunc gf args).run P w = .ok (.enter gf args) w)
  (Jn : σ → World → Prop) (Jx : Code → σ → World → Prop) (sn : ∀ s u o, Jn s u → Jn s (u.putObj (w.heap.size + 1) o)) (sx : ∀ c s u o, Jx c s u → Jx c s (u.putObj (w.heap.size + 1) o))
  (call : ∀ fn, Calls P gf (#[.func (.yield (w.heap.size + 1)) #[] #[]] ++ lb) ((w.alloc (.deferred (some []))).alloc (.loop (recL w.heap.size fn a.tmps ps assign body .ready none)))
   fun e w' => (∃ v, e = .returned v) ∧ ((∃ s, RecAt w.heap.size (recL w.heap.size fn a.tmps ps assign body .ready none) w' ∧ Jn s w') ∨ ∃ c s, RecAt w.heap.size (recL w.heap.size fn a.tmps ps assign body .done (some c)) w' ∧ Jx c s w'))
  (done : ∀ s u, Jn s u → u.heap[w.heap.size]? = some (.deferred (some [])) → Q .normal { a with defers := { target := .collected w.heap.size, args := #[] } :: a.defers } u)
  (stop : ∀ c s u, Jx c s u → u.heap[w.heap.size]? = some (.deferred (some [])) → c.wpIn Fence.wide 0 P Q { a with defers := { target := .collected w.heap.size, args := #[] } :: a.defers } u) :
  (Code.rangeFunc g ps assign body).wpIn Fence.wide 0 P Q a w := by
 refine wpIn_rangeFunc ?_
 intro fn _
 obtain ⟨W1, hW1⟩ : ∃ W1, (w.alloc (.deferred (some []))).alloc (.loop (recL w.heap.size fn a.tmps ps assign body .ready none)) = W1 := ⟨_, rfl⟩
 have hen := run_enterLoop_outer (P := P) (w := w) fn a.tmps ps assign body
 rw [show (w.alloc (.deferred (some []))).alloc (.loop { state := .ready, pending := none, fn, tmps := a.tmps, params := ps, assign, body, defers := w.heap.size }) = W1 from hW1] at hen
 have hcall := call fn
 rw [hW1] at hcall
 refine ⟨w.heap.size + 1, [{ target := .collected w.heap.size, args := #[] }], W1, { target := .fn (.func gf) lb, args := #[.func (.yield (w.heap.size + 1)) #[] #[]] }, W1, gf,
  #[.func (.yield (w.heap.size + 1)) #[] #[]] ++ lb, W1, hen, ?_, fun _ _ => trivial, ?_, fun e => Bool.noConfusion (show false = true from e), ?_⟩
 ·simp only [resolve, hg]
  simp [go_sem]
 ·simp [invoke, go_sem, eg]
 ·refine (callsIn_wide.2 hcall).mono ?_
  rintro e w2 ⟨⟨v, rfl⟩, ⟨s, h1, h2⟩ | ⟨c, s, h1, h2⟩⟩
  ·exact ⟨none, _, run_endLoop h1.lp (by simp [recL]), done s _ (sn _ _ _ h2) ((World.putObj_heap_other (by omega)).trans h1.dfr)⟩
  ·exact ⟨some c, _, run_endLoop h1.lp (by simp [recL]), stop c s _ (sx _ _ _ _ h2) ((World.putObj_heap_other (by omega)).trans h1.dfr)⟩
end
end Go.Proofs.YteiboobdhjdjkaaGreatDoor.Nai
