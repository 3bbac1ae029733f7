/-
  Layer 5: slices.SortFunc does what is asked of it, by the library's own contract.
-/
import Derived.Test.YtcjefhjhmmoocaaAstSort
import Derived.Test.YtcjefhjhmmoocaaAstSortDef
namespace Go.Proofs.Ytcjefhjhmmoocaa
open Go.Shelf Go.RowKit Go.Lib Go.Sort

theorem sort_block {α : Type} [Inhabited α] (enc : α → Value) (w : World) (b off m : Nat) (dk : Array α) (os : Array Obj) {k : Nat} (hk : k < w.heap.size) (hb : k ≠ b) : (sortWorld enc w b off m dk os).heap[k]? = w.heap[k]? := by
  unfold sortWorld
  rw [heap_grow_old _ _ (by rw [size_putRow]; exact hk)]
  unfold putRow mapBlock
  show (w.heap.modify b _)[k]? = _
  rw [Array.getElem?_modify, if_neg (Ne.symm hb)]
theorem sort_grown {α : Type} [Inhabited α] (enc : α → Value) (w : World) (b off m : Nat) (dk : Array α) (os : Array Obj) : w.grownBy (sortWorld enc w b off m dk os) (some b) :=
  ⟨rfl, rfl, rfl, SW.le (enc := enc) (blk := b) (off := off) (dk := dk) ⟨m, os, rfl⟩, fun k hk hne => sort_block enc w b off m dk os hk (fun e => hne (by rw [e]))⟩

theorem sort_ok : SortOk := by
  intro l n L g b cap w h0 hn hs hL cL hrow hb hbL hbg hcell
  haveI : Inhabited (Fin n) := ⟨⟨0, h0⟩⟩
  let enc : Fin n → Value := fun i => .int .i64 (i.val : Int)
  let toF : Nat → Fin n := fun x => ⟨x % n, Nat.mod_lt _ h0⟩
  let cf : Fin n → Fin n → Int := fun i j => grpZ l i.val j.val
  have hlt : ∀ x y : Fin n, ltOf cf x y = decide (ahead l x.val y.val) := fun x y => by
    unfold ltOf
    exact decide_eq_decide.2 (grpZ_neg l x.val y.val)
  let d : Array (Fin n) := ((gix l n).map toF).toArray
  have hd : d.size = (gix l n).length := by simp [d]
  have hval : d.toList.map Fin.val = gix l n := by
    show (((gix l n).map toF).toArray.toList).map Fin.val = gix l n
    rw [List.toList_toArray, List.map_map]
    conv => rhs; rw [← List.map_id (gix l n)]
    refine List.map_congr_left fun x hx => ?_
    exact Nat.mod_eq_of_lt (gix_lt l n x hx).1
  have hO : SWO (ltOf cf) := by
    refine ⟨fun x => ?_, fun x y z h1 h2 => ?_, fun x y z h1 h2 => ?_⟩
    · rw [hlt]; unfold ahead; simp
    · rw [hlt] at h1 h2 ⊢
      simp only [decide_eq_true_eq] at h1 h2 ⊢
      unfold ahead at h1 h2 ⊢
      omega
    · rw [hlt] at h1 h2 ⊢
      simp only [decide_eq_false_iff_not] at h1 h2 ⊢
      unfold ahead at h1 h2 ⊢
      omega
  have hget : ∀ j, j < (gix l n).length → ∀ v : Array (Fin n), v.size = (gix l n).length → (idxL (v.toList.map Fin.val))[j]? = some (enc v[j]!) := by
    intro j hj v hv
    unfold idxL
    rw [List.map_map, List.getElem?_map, Array.getElem?_toList, Array.getElem?_eq_getElem (by omega), getElem!_pos v j (by omega)]
    rfl
  have hH : Holds enc w b 0 d := by
    intro j hj
    rw [hd] at hj
    obtain ⟨h1, h2⟩ := hcell j hj
    rw [Nat.zero_add]
    refine ⟨?_, h2⟩
    rw [h1, ← hval]
    exact hget j hj d hd
  have eg : ∀ args w, (callFunc 53 args).run Try.prog w = .ok (.enter 53 args) w := enters_of Try.func53 (by kernel_rfl) rfl
  have hcmp : CmpLays1 Try.prog 53 #[.pointer (some ⟨L, 0, none⟩)] enc cf b 0 d.size w := by
    intro m os dk _ x y
    have e1 := sort_block enc w b 0 m dk os hL (Ne.symm hbL)
    have e2 := sort_block enc w b 0 m dk os hrow.lt (Ne.symm hbg)
    have hsz := (sort_grown enc w b 0 m dk os).size
    have hr := hrow.of_block e2
    have hx := hr.cell x.isLt
    have hy := hr.cell y.isLt
    unfold begV at hx hy
    rw [if_pos x.isLt] at hx
    rw [if_pos y.isLt] at hy
    exact closure_any L g n x.val y.val l _ x.isLt y.isLt (Nat.lt_of_lt_of_le hL hsz) hr.lt ((World.cell?_of_block (a := ⟨L, 0, none⟩) e1).trans cL) hx hy
  have hS := Any.slices_SortFunc sort_lays enc (fun _ => rfl) cf hO 53 #[.pointer (some ⟨L, 0, none⟩)] b 0 cap d w eg hcmp hH hb (by rw [hd]; have := gix_len l n; omega)
  rw [hd] at hS
  refine Calls.mono hS ?_
  rintro e w' ⟨rfl, d', n', os, ⟨hsz, -, hperm⟩, hso, rfl⟩
  refine ⟨rfl, sort_grown enc w b 0 n' d' os, fun j hj => ?_⟩
  have hsz' : d'.size = (gix l n).length := by rw [hsz, hd]
  have hL2 : d'.toList.map Fin.val = grp l n := by
    refine grp_unique hs h0 ?_ ?_
    · have e1 : d'.extract 0 (gix l n).length = d' := by rw [← hsz']; exact Array.extract_size
      have e2 : d.extract 0 (gix l n).length = d := by rw [← hd]; exact Array.extract_size
      rw [e1, e2] at hperm
      rw [← hval]
      exact hperm.map _
    · rw [List.pairwise_map, List.pairwise_iff_getElem]
      intro i j hi hj hij
      have h := hso i j (Nat.zero_le _) hij (by simpa [hsz'] using hj)
      rw [hlt] at h
      simp only [decide_eq_false_iff_not] at h
      rw [getElem!_pos d' i (by simpa using hi), getElem!_pos d' j (by simpa using hj)] at h
      exact h
  have hh := holds_sortWorld enc w b 0 n' d d' os hb hH hsz j (by rw [hsz']; exact hj)
  rw [Nat.zero_add] at hh
  rw [hh.1, ← hL2, hget j hj d' hsz']
theorem sort_none : SortNone := fun A cap f w => by
  have h := AnyF.slices_SortFunc_none (P := Try.prog) (ρ := renS) { sort_lays with } A cap f w
  exact Calls.mono h fun e w' h => ⟨h.1, h.2.symm⟩
end Go.Proofs.Ytcjefhjhmmoocaa
