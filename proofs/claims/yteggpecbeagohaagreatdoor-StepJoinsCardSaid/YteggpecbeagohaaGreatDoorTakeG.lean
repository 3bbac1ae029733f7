import Derived.Test.YteggpecbeagohaaGreatDoorProg
import Derived.WalkSpells
import Derived.WalkLawsBesides
import Derived.Handy
import Derived.Lib.Hide
import Derived.Deep.RegionWith
import Derived.Deep.RegionHeld3
import Derived.Laws.AppendOwn
import Derived.Laws.Rows
namespace Go.Proofs.YteggpecbeagohaaGreatDoor
open Go.RowKit
section
variable {P : Program} {ops : Array Oper} {Q : Exit → Act → World → Prop} {md : Region.Mode} {S : World → Prop} {fuel : Nat} {listed : Array Bool} {a : Act} {w : World}
theorem takeAt (i d : Nat) (v : Value) {oi : Oper} (hi : ops[i]? = some oi) (hd : oi.dst = some d) (hs : Region.noSelect ops = true) (hf : Region.free md ops listed i = true) (hr : (Region.ready md ops listed).contains i = true)
  (hQ : ∀ c a w, Q (.panic c) (a.put (some d) v) w → Q (.panic c) a w) (hy : YieldsIf P ops S oi v a) (hS : S w)
  (h : wpAnyH P md ops Q S fuel (listed.setIfInBounds i true) (a.put (some d) v) w) : wpAnyH P md ops Q S (fuel + 1) listed a w :=
 wpAnyH_take hi hs hf hr (by rw [hd]; exact hQ) hy hS (by rw [hd]; exact h)
theorem callAt (i d : Nat) {f : FuncId} {vs : Array Value} {oi : Oper} {post : Ending → World → Prop} (hi : ops[i]? = some oi) (hd : oi.dst = some d) (hr : Region.ready md ops listed = [i]) (hw : Region.wanted oi (yielded ops a.tmps) = true)
  (hrun : (execOp a.eval oi).run P w = .ok (.enter f vs) w) (hc : Calls P f vs w post)
  (hp : ∀ e w', post e w' → ∃ v, e = .returned v ∧ S w' ∧ wpAnyH P md ops Q S fuel (listed.setIfInBounds i true) (a.put (some d) v) w') : wpAnyH P md ops Q S (fuel + 1) listed a w := by
 refine wpAnyH_ready (rs := [i]) hr (by simp) (AllReadyH.cons hi (fun K hK => ?_) AllReadyH.nil)
 rw [if_pos hw]
 unfold Oper.wp
 rw [hrun, Oper.upon_enter]
 refine hc.mono fun e w' h => ?_
 obtain ⟨v, rfl, hS, hgo⟩ := hp e w' h
 rw [hd]
 exact hK.out _ _ hS (fun _ => hgo)
theorem valAt (i d : Nat) (v : Value) (w' : World) {oi : Oper} (hi : ops[i]? = some oi) (hd : oi.dst = some d) (hr : Region.ready md ops listed = [i]) (hw : Region.wanted oi (yielded ops a.tmps) = true)
  (hrun : (execOp a.eval oi).run P w = .ok (.value v) w') (hS : S w') (hgo : wpAnyH P md ops Q S fuel (listed.setIfInBounds i true) (a.put (some d) v) w') : wpAnyH P md ops Q S (fuel + 1) listed a w := by
 refine wpAnyH_ready (rs := [i]) hr (by simp) (AllReadyH.cons hi (fun K hK => ?_) AllReadyH.nil)
 rw [if_pos hw]
 unfold Oper.wp
 rw [hrun, Oper.upon_value, hd]
 exact hK.out _ _ hS (fun _ => hgo)
theorem rowAt (i : Nat) {oi : Oper} {x y : Operand} (T : TypeId) (g : Nat) (old new : Array Value) (hi : ops[i]? = some oi) (hd : oi.dst = none) (ho : oi.op = .store T x y) (hr : Region.ready md ops listed = [i]) (hw : Region.wanted oi (yielded ops a.tmps) = true)
  (hx : a.eval x = .pointer (some ⟨g, 0, none⟩)) (hy : a.eval y = .agg new) (hg : w.heap[g]? = some (.cells old T (0, 0))) (hT : (P.info? T).map (·.size) = some new.size) (hsz : old.size = new.size) (hone : (new.all fun x => x.oneCell') = true) (hS : S (w.setRow g new))
  (hgo : wpAnyH P md ops Q S fuel (listed.setIfInBounds i true) a (w.setRow g new)) : wpAnyH P md ops Q S (fuel + 1) listed a w := by
 refine wpAnyH_ready (rs := [i]) hr (by simp) (AllReadyH.cons hi (fun K hK => ?_) AllReadyH.nil)
 rw [if_pos hw]
 refine wp_store_row T x y ho g new hx hy _ old hg hT hsz hone ?_
 rw [hd]
 exact hK.out _ _ hS (fun _ => hgo)
theorem callStep (i d : Nat) {f : FuncId} {vs : Array Value} {oi : Oper} {post : Ending → World → Prop} (hd : oi.dst = some d) (hw : Region.wanted oi (yielded ops a.tmps) = true)
  (hrun : (execOp a.eval oi).run P w = .ok (.enter f vs) w) (hc : Calls P f vs w post)
  (hp : ∀ e w', post e w' → ∃ v, e = .returned v ∧ S w' ∧ wpAnyH P md ops Q S fuel (listed.setIfInBounds i true) (a.put (some d) v) w') :
  ∀ K' : Act → World → Prop, Shut (∀ a w, S w → (S w → wpAnyH P md ops Q S fuel (listed.setIfInBounds i true) a w) → K' a w) → if Region.wanted oi (yielded ops a.tmps) = true then Oper.wp P oi a w K' Q else K' (a.put oi.dst undef) w := by
 intro K hK
 rw [if_pos hw]
 unfold Oper.wp
 rw [hrun, Oper.upon_enter]
 refine hc.mono fun e w' h => ?_
 obtain ⟨v, rfl, hS, hgo⟩ := hp e w' h
 rw [hd]
 exact hK.out _ _ hS (fun _ => hgo)
theorem valStep (i d : Nat) (v : Value) (w' : World) {oi : Oper} (hd : oi.dst = some d) (hw : Region.wanted oi (yielded ops a.tmps) = true)
  (hrun : (execOp a.eval oi).run P w = .ok (.value v) w') (hS : S w') (hgo : wpAnyH P md ops Q S fuel (listed.setIfInBounds i true) (a.put (some d) v) w') :
  ∀ K' : Act → World → Prop, Shut (∀ a w, S w → (S w → wpAnyH P md ops Q S fuel (listed.setIfInBounds i true) a w) → K' a w) → if Region.wanted oi (yielded ops a.tmps) = true then Oper.wp P oi a w K' Q else K' (a.put oi.dst undef) w := by
 intro K hK
 rw [if_pos hw]
 unfold Oper.wp
 rw [hrun, Oper.upon_value, hd]
 exact hK.out _ _ hS (fun _ => hgo)
theorem yields {oi : Oper} {v : Value} (hw : Region.wanted oi (yielded ops a.tmps) = true) (h : ∀ w, (execOp a.eval oi).run P w = .ok (.value v) w) : YieldsIf P ops S oi v a := Or.inl ⟨hw, fun w _ => h w⟩
theorem skipped {oi : Oper} (hw : Region.wanted oi (yielded ops a.tmps) = false) : YieldsIf P ops S oi undef a := Or.inr ⟨hw, rfl⟩
end
end Go.Proofs.YteggpecbeagohaaGreatDoor
