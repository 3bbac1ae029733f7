import Derived.Test.YteggpecbeagohaaGreatDoorProg
import Derived.Shelf.SlSortCmp.NoneTotal
import Derived.Test.YteggpecbeagohaaGreatDoorAstG
namespace Go.Proofs.YteggpecbeagohaaGreatDoor.Ast
open Go.Shelf
def renS : Shelf.Ren where
 f := fun x => match x with
   | 6 => 86
   | 15 => 121
   | 14 => 120
   | 28 => 146
   | 29 => 147
   | 20 => 138
   | 21 => 139
   | 22 => 140
   | 23 => 141
   | 24 => 142
   | 25 => 143
   | 26 => 144
   | 27 => 145
   | 46 => 160
   | 47 => 161
   | 48 => 162
   | 49 => 163
   | 50 => 164
   | 57 => 176
   | n => n
 t := fun x => match x with
   | 22 => 77
   | 24 => 3
   | 25 => 168
   | 3 => 3
   | 39 => 191
   | 0 => 0
   | 53 => 214
   | 55 => 71
   | 4 => 4
   | 46 => 208
   | 45 => 207
   | 50 => 136
   | 5 => 5
   | 9 => 9
   | 66 => 221
   | 70 => 225
   | 76 => 234
   | 77 => 155
   | n => n
 g := fun n => n
theorem bears_of {P : Program} {f : FuncId} {F B : Func} (h : P.funcs[f]? = some F) (e : F = { B with name := F.name }) (hn : (F.name == "runtime.NumGoroutine") = false) : Bears P f B := ⟨F.name, hn, by rw [h, ← e]⟩
theorem sort_lays : SlLaysF.n6 Tryz.prog renS where
 mixed := by kernel_rfl
 f6 := bears_of Tryz.func86 (by kernel_rfl) (by kernel_rfl)
 f14 := bears_of Tryz.func120 (by kernel_rfl) (by kernel_rfl)
 f15 := by kernel_rfl
 f20 := bears_of Tryz.func138 (by kernel_rfl) (by kernel_rfl)
 f21 := bears_of Tryz.func139 (by kernel_rfl) (by kernel_rfl)
 f22 := bears_of Tryz.func140 (by kernel_rfl) (by kernel_rfl)
 f23 := bears_of Tryz.func141 (by kernel_rfl) (by kernel_rfl)
 f24 := bears_of Tryz.func142 (by kernel_rfl) (by kernel_rfl)
 f25 := bears_of Tryz.func143 (by kernel_rfl) (by kernel_rfl)
 f26 := bears_of Tryz.func144 (by kernel_rfl) (by kernel_rfl)
 f27 := bears_of Tryz.func145 (by kernel_rfl) (by kernel_rfl)
 f28 := by kernel_rfl
 f29 := by kernel_rfl
 f46 := bears_of Tryz.func160 (by kernel_rfl) (by kernel_rfl)
 f47 := by kernel_rfl
 f48 := by kernel_rfl
 f49 := bears_of Tryz.func163 (by kernel_rfl) (by kernel_rfl)
 f50 := bears_of Tryz.func164 (by kernel_rfl) (by kernel_rfl)
 f57 := bears_of Tryz.func176 (by kernel_rfl) (by kernel_rfl)
 t0 := by kernel_rfl
 a0 := fun _ => by kernel_rfl
 z0 := fun _ => by kernel_rfl
 v0 := fun _ => by kernel_rfl
 t3 := by kernel_rfl
 a3 := fun _ => by kernel_rfl
 z3 := fun _ => by kernel_rfl
 v3 := fun _ => by kernel_rfl
 t4 := by kernel_rfl
 a4 := fun _ => by kernel_rfl
 z4 := fun _ => by kernel_rfl
 v4 := fun _ => by kernel_rfl
 t5 := by kernel_rfl
 a5 := fun _ => by kernel_rfl
 z5 := fun _ => by kernel_rfl
 v5 := fun _ => by kernel_rfl
 t9 := by kernel_rfl
 a9 := fun _ => by kernel_rfl
 z9 := fun _ => by kernel_rfl
 v9 := fun _ => by kernel_rfl
 t22 := by kernel_rfl
 a22 := fun _ => by kernel_rfl
 z22 := fun _ => by kernel_rfl
 v22 := fun _ => by kernel_rfl
 a24 := fun _ => by kernel_rfl
 z24 := fun _ => by kernel_rfl
 t25 := by kernel_rfl
 a25 := fun _ => by kernel_rfl
 z25 := fun _ => by kernel_rfl
 v25 := fun _ => by kernel_rfl
 t39 := by kernel_rfl
 a39 := fun _ => by kernel_rfl
 z39 := fun _ => by kernel_rfl
 v39 := fun _ => by kernel_rfl
 t45 := by kernel_rfl
 a45 := fun _ => by kernel_rfl
 z45 := fun _ => by kernel_rfl
 v45 := fun _ => by kernel_rfl
 t46 := by kernel_rfl
 a46 := fun _ => by kernel_rfl
 z46 := fun _ => by kernel_rfl
 v46 := fun _ => by kernel_rfl
 t50 := by kernel_rfl
 a50 := fun _ => by kernel_rfl
 z50 := fun _ => by kernel_rfl
 v50 := fun _ => by kernel_rfl
 t53 := by kernel_rfl
 a53 := fun _ => by kernel_rfl
 z53 := fun _ => by kernel_rfl
 v53 := fun _ => by kernel_rfl
 t55 := by kernel_rfl
 a55 := fun _ => by kernel_rfl
 z55 := fun _ => by kernel_rfl
 v55 := fun _ => by kernel_rfl
 t66 := by kernel_rfl
 a66 := fun _ => by kernel_rfl
 z66 := fun _ => by kernel_rfl
 v66 := fun _ => by kernel_rfl
 t70 := by kernel_rfl
 a70 := fun _ => by kernel_rfl
 z70 := fun _ => by kernel_rfl
 v70 := fun _ => by kernel_rfl
 t76 := by kernel_rfl
 a76 := fun _ => by kernel_rfl
 z76 := fun _ => by kernel_rfl
 v76 := fun _ => by kernel_rfl
 t77 := by kernel_rfl
 a77 := fun _ => by kernel_rfl
 z77 := fun _ => by kernel_rfl
 v77 := fun _ => by kernel_rfl
end Go.Proofs.YteggpecbeagohaaGreatDoor.Ast
namespace Go.Proofs.YteggpecbeagohaaGreatDoor.Ast
open Go.Shelf Go.RowKit Go.Lib Go.Sort
theorem sort_block {α : Type} [Inhabited α] (enc : α → Value) (w : World) (b off m : Nat) (dk : Array α) (os : Array Obj) {k : Nat} (hk : k < w.heap.size) (hb : k ≠ b) : (sortWorld enc w b off m dk os).heap[k]? = w.heap[k]? := by
 unfold sortWorld
 rw [heap_grow_old _ _ (by rw [size_putRow]; exact hk)]
 unfold putRow mapBlock
 show (w.heap.modify b _)[k]? = _
 rw [Array.getElem?_modify, if_neg (Ne.symm hb)]
theorem sort_grown {α : Type} [Inhabited α] (enc : α → Value) (w : World) (b off m : Nat) (dk : Array α) (os : Array Obj) : w.grownBy (sortWorld enc w b off m dk os) (some b) :=
 ⟨rfl, rfl, rfl, SW.le (enc := enc) (blk := b) (off := off) (dk := dk) ⟨m, os, rfl⟩, fun k hk hne => sort_block enc w b off m dk os hk (fun e => hne (by rw [e]))⟩
theorem sort_ok : SortOk := by
 intro l n L g b cap w h0 hn hs hL cL hrow hb hbL hbg hcell
 haveI : Inhabited (Fin n) := ⟨⟨0, h0⟩⟩
 let enc : Fin n → Value := fun i => .int .i64 (i.val : Int)
 let toF : Nat → Fin n := fun x => ⟨x % n, Nat.mod_lt _ h0⟩
 let cf : Fin n → Fin n → Int := fun i j => grpZ l i.val j.val
 have hlt : ∀ x y : Fin n, ltOf cf x y = decide (ahead l x.val y.val) := fun x y => by
  unfold ltOf
  exact decide_eq_decide.2 (grpZ_neg l x.val y.val)
 let d : Array (Fin n) := ((gix l n).map toF).toArray
 have hd : d.size = (gix l n).length := by simp [d]
 have hval : d.toList.map Fin.val = gix l n := by
  show (((gix l n).map toF).toArray.toList).map Fin.val = gix l n
  rw [List.toList_toArray, List.map_map]
  conv => rhs; rw [← List.map_id (gix l n)]
  refine List.map_congr_left fun x hx => ?_
  exact Nat.mod_eq_of_lt (gix_lt l n x hx).1
 have hO : SWO (ltOf cf) := by
  refine ⟨fun x => ?_, fun x y z h1 h2 => ?_, fun x y z h1 h2 => ?_⟩
  ·rw [hlt]; unfold ahead; simp
  ·rw [hlt] at h1 h2 ⊢
   simp only [decide_eq_true_eq] at h1 h2 ⊢
   unfold ahead at h1 h2 ⊢
   omega
  ·rw [hlt] at h1 h2 ⊢
   simp only [decide_eq_false_iff_not] at h1 h2 ⊢
   unfold ahead at h1 h2 ⊢
   omega
 have hget : ∀ j, j < (gix l n).length → ∀ v : Array (Fin n), v.size = (gix l n).length → (idxL (v.toList.map Fin.val))[j]? = some (enc v[j]!) := by
  intro j hj v hv
  unfold idxL
  rw [List.map_map, List.getElem?_map, Array.getElem?_toList, Array.getElem?_eq_getElem (by omega), getElem!_pos v j (by omega)]
  rfl
 have hH : Holds enc w b 0 d := by
  intro j hj
  rw [hd] at hj
  obtain ⟨h1, h2⟩ := hcell j hj
  rw [Nat.zero_add]
  refine ⟨?_, h2⟩
  rw [h1, ← hval]
  exact hget j hj d hd
 have eg : ∀ args w, (callFunc 87 args).run Tryz.prog w = .ok (.enter 87 args) w := enters_of Tryz.func87 (by kernel_rfl) rfl
 have hcmp : CmpLays1 Tryz.prog 87 #[.pointer (some ⟨L, 0, none⟩)] enc cf b 0 d.size w := by
  intro m os dk _ x y
  have e1 := sort_block enc w b 0 m dk os hL (Ne.symm hbL)
  have e2 := sort_block enc w b 0 m dk os hrow.lt (Ne.symm hbg)
  have hsz := (sort_grown enc w b 0 m dk os).size
  have hr := hrow.of_block e2
  have hx := hr.cell x.isLt
  have hy := hr.cell y.isLt
  unfold begV at hx hy
  rw [if_pos x.isLt] at hx
  rw [if_pos y.isLt] at hy
  exact closure_any L g n x.val y.val l _ x.isLt y.isLt (Nat.lt_of_lt_of_le hL hsz) hr.lt ((World.cell?_of_block (a := ⟨L, 0, none⟩) e1).trans cL) hx hy
 have hS := Any.slices_SortFunc sort_lays enc (fun _ => rfl) cf hO 87 #[.pointer (some ⟨L, 0, none⟩)] b 0 cap d w eg hcmp hH hb (by rw [hd]; have := gix_len l n; omega)
 rw [hd] at hS
 refine Calls.mono hS ?_
 rintro e w' ⟨rfl, d', n', os, ⟨hsz, -, hperm⟩, hso, rfl⟩
 refine ⟨rfl, sort_grown enc w b 0 n' d' os, fun j hj => ?_⟩
 have hsz' : d'.size = (gix l n).length := by rw [hsz, hd]
 have hL2 : d'.toList.map Fin.val = grp l n := by
  refine grp_unique hs h0 ?_ ?_
  ·have e1 : d'.extract 0 (gix l n).length = d' := by rw [← hsz']; exact Array.extract_size
   have e2 : d.extract 0 (gix l n).length = d := by rw [← hd]; exact Array.extract_size
   rw [e1, e2] at hperm
   rw [← hval]
   exact hperm.map _
  ·rw [List.pairwise_map, List.pairwise_iff_getElem]
   intro i j hi hj hij
   have h := hso i j (Nat.zero_le _) hij (by simpa [hsz'] using hj)
   rw [hlt] at h
   simp only [decide_eq_false_iff_not] at h
   rw [getElem!_pos d' i (by simpa using hi), getElem!_pos d' j (by simpa using hj)] at h
   exact h
 have hh := holds_sortWorld enc w b 0 n' d d' os hb hH hsz j (by rw [hsz']; exact hj)
 rw [Nat.zero_add] at hh
 rw [hh.1, ← hL2, hget j hj d' hsz']
theorem sort_none : SortNone := fun A cap f w => by
 have h := AnyF.slices_SortFunc_none (P := Tryz.prog) (ρ := renS) { sort_lays with } A cap f w
 exact Calls.mono h fun e w' h => ⟨h.1, h.2.symm⟩
end Go.Proofs.YteggpecbeagohaaGreatDoor.Ast
