/-
  FacDef, FacKit, FacReg
-/
import Derived.Test.YtkpijnodhlonfaaGreatDoorClassM
import Derived.Test.YtkpijnodhlonfaaGreatDoorAstC
import Derived.Test.YtkpijnodhlonfaaGreatDoorParB
import Derived.Test.YtkpijnodhlonfaaGreatDoorLexItemM
import Derived.ScopeJumps
namespace Go.Proofs.YtkpijnodhlonfaaGreatDoor
open Ast (Nd siz foldT foldT_succ kidsZ len len_succ siz_pos siz_le timesZ plusZ moreZ)

/-- The set of a node's words. -/
def setOf (x : Nd) : BitVec 256 := BitVec.ofNat 256 (x.s0.toNat + 2 ^ 64 * x.s1.toNat + 2 ^ 128 * x.s2.toNat + 2 ^ 192 * x.s3.toNat)
/-- What is known of a tree: its first bytes, whether it is open, whether it is fast, its prefix, whether that is whole. -/
structure FK where
  F : BitVec 256
  op : Bool
  fa : Bool
  pr : ByteArray
  wh : Bool
/-- Of what takes no byte. -/
def emK : FK := ⟨0#256, true, false, ByteArray.empty, true⟩
/-- A prefix cut. -/
def cutK (k : FK) : FK := if 100 < k.pr.size then ⟨k.F, k.op, k.fa, k.pr.extract 0 100, false⟩ else k
def bytK (S : BitVec 256) : FK := if lenS S = 1 then ⟨S, false, false, ⟨#[UInt8.ofNat (minS S)]⟩, true⟩ else ⟨S, false, false, ByteArray.empty, false⟩
def leafK (x : Nd) : FK := if x.k = 1 then bytK (setOf x) else if x.k = 2 then ⟨0#256, true, true, ByteArray.empty, true⟩ else if x.k = 12 then ⟨~~~0#256, true, false, ByteArray.empty, false⟩ else emK
def repK (mn mx : Int) (a : FK) : FK := if mx = 0 then emK else if mn = 0 then ⟨a.F, true, false, ByteArray.empty, false⟩ else ⟨a.F, a.op, a.fa, a.pr, a.wh && decide (mn = 1) && decide (mx = 1)⟩
def oneK (x : Nd) (a : FK) : FK := if x.k = 10 then repK x.mn x.mx a else if x.k = 11 ∨ x.k = 17 then a else emK
def firK (a b : FK) : BitVec 256 := if a.op = true then a.F ||| b.F else a.F
/-- Of one behind the other; z: the first one takes no byte. -/
def catK (z : Bool) (a b : FK) : FK := if a.wh = true then cutK ⟨firK a b, a.op && b.op, a.fa || b.fa && z, a.pr ++ b.pr, b.wh⟩ else ⟨firK a b, a.op && b.op, a.fa || b.fa && z, a.pr, false⟩
def altK (a b : FK) : FK := ⟨a.F ||| b.F, a.op || b.op, a.fa && b.fa, ByteArray.empty, false⟩
def twoK (k : Int) (z : Bool) (a b : FK) : FK := if k = 8 then catK z a b else altK a b
/-- Of the tree of node j - 1. -/
def factZ (l : Nat → Nd) (j : Nat) : FK :=
  foldT l emK (fun i => leafK (l i)) (fun i a => oneK (l i) a) (fun i a b => twoK (l i).k (decide ((len l (i - siz l i)).2 = 0)) a b) j
variable {l : Nat → Nd}
theorem fact_k0 {j : Nat} (hk : kidsZ (l j).k = 0) : factZ l (j + 1) = leafK (l j) := by unfold factZ; rw [foldT_succ, if_pos hk]
theorem fact_k1 {j : Nat} (hk : kidsZ (l j).k = 1) : factZ l (j + 1) = oneK (l j) (factZ l j) := by
  unfold factZ; rw [foldT_succ, if_neg (by rw [hk]; decide), if_pos hk]
theorem fact_k2 {j : Nat} (hk : kidsZ (l j).k = 2) : factZ l (j + 1) = twoK (l j).k (decide ((len l (j - siz l j)).2 = 0)) (factZ l (j - siz l j)) (factZ l j) := by
  unfold factZ; rw [foldT_succ, if_neg (by rw [hk]; decide), if_neg (by rw [hk]; decide)]

theorem tf {p : Prop} (h : true = false) : p := Bool.noConfusion h
theorem ft {p : Prop} (h : false = true) : p := Bool.noConfusion h
theorem size_app (a b : ByteArray) : (a ++ b).size = a.size + b.size := ByteArray.size_append
theorem empty_of {a : ByteArray} (h : a.size = 0) : a = ByteArray.empty := by
  cases a with
  | mk d =>
    have : d = #[] := Array.eq_empty_of_size_eq_zero h
    rw [this]; rfl
theorem cut_le (k : FK) : (cutK k).pr.size ≤ 100 := by
  unfold cutK
  split
  · rw [ByteArray.size_extract]; show min 100 _ - 0 ≤ 100; omega
  · omega
theorem cut_id {k : FK} (h : k.pr.size ≤ 100) : cutK k = k := by unfold cutK; rw [if_neg (by omega)]
theorem byt_le (S : BitVec 256) : (bytK S).pr.size ≤ 100 := by
  unfold bytK
  split
  · show 1 ≤ 100; omega
  · show 0 ≤ 100; omega
theorem one_le {x : Nd} {a : FK} (h : a.pr.size ≤ 100) : (oneK x a).pr.size ≤ 100 := by
  unfold oneK repK
  (repeat' split) <;> first | exact h | exact Nat.zero_le _
theorem two_le {k : Int} {z : Bool} {a b : FK} (h : a.pr.size ≤ 100) : (twoK k z a b).pr.size ≤ 100 := by
  unfold twoK catK
  split
  · split
    · exact cut_le _
    · exact h
  · exact Nat.zero_le _
/-- A prefix has at most 100 bytes. -/
theorem fact_le (l : Nat → Nd) : ∀ j, (factZ l j).pr.size ≤ 100 := by
  intro j
  induction j using Nat.strongRecOn with
  | _ j ih =>
    cases j with
    | zero => exact Nat.zero_le _
    | succ i =>
      have hle := siz_le l i
      rcases Ast.kids_cases (l i).k with hk | hk | hk
      · rw [fact_k0 hk]
        unfold leafK
        (repeat' split) <;> first | exact byt_le _ | exact Nat.zero_le _
      · rw [fact_k1 hk]
        exact one_le (ih i (by omega))
      · rw [fact_k2 hk]
        exact two_le (ih (i - siz l i) (by omega))

/-! What is known as nothing is takes no byte. -/
theorem FK.eta (a : FK) (h1 : a.F = 0#256) (h2 : a.op = true) (h3 : a.fa = false) (h4 : a.pr.size = 0) (h5 : a.wh = true) : a = emK := by
  cases a
  simp only at h1 h2 h3 h4 h5
  rw [h1, h2, h3, empty_of h4, h5]
  rfl
theorem byt_op (S : BitVec 256) : (bytK S).op = false := by unfold bytK; split <;> rfl
theorem or_zero {S T : BitVec 256} (h : S ||| T = 0#256) : S = 0#256 ∧ T = 0#256 := by
  constructor
  · refine ext_bit fun k hk => ?_
    have := congrArg (fun x => x.getLsbD k) h
    simp at this
    simp [this.1]
  · refine ext_bit fun k hk => ?_
    have := congrArg (fun x => x.getLsbD k) h
    simp at this
    simp [this.2]
theorem cat_em {z : Bool} {a b : FK} (h : catK z a b = emK) : a = emK ∧ (z = true → b = emK) := by
  have hF : (catK z a b).F = 0#256 := by rw [h]; rfl
  have hop : (catK z a b).op = true := by rw [h]; rfl
  have hfa : (catK z a b).fa = false := by rw [h]; rfl
  have hpr : (catK z a b).pr.size = 0 := by rw [h]; rfl
  have hwh : (catK z a b).wh = true := by rw [h]; rfl
  clear h
  unfold catK at hF hop hfa hpr hwh
  by_cases hw : a.wh = true
  · rw [if_pos hw] at hF hop hfa hpr hwh
    by_cases hc : 100 < (a.pr ++ b.pr).size
    · unfold cutK at hwh
      rw [if_pos hc] at hwh
      exact ft hwh
    · unfold cutK at hF hop hfa hpr hwh
      rw [if_neg hc] at hF hop hfa hpr hwh
      simp only at hF hop hfa hpr hwh
      rw [Bool.and_eq_true] at hop
      rw [Bool.or_eq_false_iff] at hfa
      rw [size_app] at hpr
      unfold firK at hF
      rw [if_pos hop.1] at hF
      obtain ⟨f1, f2⟩ := or_zero hF
      refine ⟨FK.eta a f1 hop.1 hfa.1 (by omega) hw, fun hz => FK.eta b f2 hop.2 ?_ (by omega) hwh⟩
      have := hfa.2
      rw [hz, Bool.and_true] at this
      exact this
  · rw [if_neg hw] at hwh
    exact ft hwh
theorem fact_em (l : Nat → Nd) : ∀ j, siz l j ≠ 0 → factZ l j = emK → (len l j).2 = 0 := by
  intro j
  induction j using Nat.strongRecOn with
  | _ j ih =>
    intro hs he
    cases j with
    | zero => exact absurd (by simp [siz, Ast.sizF]) hs
    | succ i =>
      have hle := siz_le l i
      obtain ⟨hf, ⟨hk, ha, hb, hz⟩ | ⟨hk, h0, ha, hb, hz⟩ | ⟨hk, h0, h1, ha, hb, hz⟩⟩ := siz_pos hs
      · rw [fact_k0 hk] at he
        rw [len_succ, if_pos hk]
        unfold leafK at he
        by_cases h1 : (l i).k = 1
        · rw [if_pos h1] at he
          have := byt_op (setOf (l i))
          rw [he] at this
          exact tf this
        · rw [if_neg h1]
          by_cases h12 : (l i).k = 12
          · rw [if_neg h1, if_neg (by omega), if_pos h12] at he
            exact ft (congrArg FK.wh he)
          · rw [if_neg h12]
      · rw [fact_k1 hk] at he
        rw [len_succ, if_neg (by omega), if_pos hk]
        unfold oneK at he
        by_cases h10 : (l i).k = 10
        · rw [if_pos h10] at he ⊢
          show timesZ (len l i).2 (l i).mx = 0
          unfold repK at he
          by_cases hm : (l i).mx = 0
          · rw [hm]; unfold timesZ; rw [if_pos (.inr rfl)]
          · rw [if_neg hm] at he
            by_cases hn : (l i).mn = 0
            · rw [if_pos hn] at he
              exact ft (congrArg FK.wh he)
            · rw [if_neg hn] at he
              have h5 : ((factZ l i).wh && decide ((l i).mn = 1) && decide ((l i).mx = 1)) = true := congrArg FK.wh he
              rw [Bool.and_eq_true, Bool.and_eq_true] at h5
              have e : factZ l i = emK := FK.eta _ (congrArg FK.F he) (congrArg FK.op he) (congrArg FK.fa he) (by rw [show (factZ l i).pr = ByteArray.empty from congrArg FK.pr he]; rfl) h5.1.1
              rw [ih i (by omega) h0 e]
              unfold timesZ; rw [if_pos (.inl rfl)]
        · rw [if_neg h10] at he ⊢
          by_cases h11 : (l i).k = 11 ∨ (l i).k = 17
          · rw [if_pos h11] at he ⊢
            exact ih i (by omega) h0 he
          · rw [if_neg h11]
      · rw [fact_k2 hk] at he
        rw [len_succ, if_neg (by omega), if_neg (by omega)]
        unfold twoK at he
        by_cases h8 : (l i).k = 8
        · rw [if_pos h8] at he ⊢
          obtain ⟨e1, e2⟩ := cat_em he
          have z1 := ih (i - siz l i) (by omega) h1 e1
          have z2 := ih i (by omega) h0 (e2 (decide_eq_true z1))
          show plusZ _ _ = 0
          rw [z1, z2]
          rfl
        · rw [if_neg h8] at he
          exact ft (congrArg FK.wh he)

/-! What the code does of two. -/
theorem em_first {z : Bool} {b : FK} (hz : z = true) : catK z emK b = cutK b := by
  subst hz
  unfold catK emK firK
  rw [if_pos rfl, if_pos rfl]
  rw [BitVec.zero_or, Bool.true_and, Bool.false_or, Bool.and_true, ByteArray.empty_append]
theorem em_second {z : Bool} {a : FK} (h : a.pr.size ≤ 100) : catK z a emK = cutK a := by
  unfold catK
  have e : firK a emK = a.F := by unfold firK emK; split <;> simp
  have e2 : (a.fa || emK.fa && z) = a.fa := by simp [emK]
  have e3 : (a.op && emK.op) = a.op := by simp [emK]
  have e4 : a.pr ++ emK.pr = a.pr := ByteArray.append_empty
  rw [e, e2, e3, e4]
  cases a with
  | mk F op fa pr wh =>
    cases wh
    · rw [if_neg (fun h => ft h), cut_id h]
    · rw [if_pos rfl]; rfl
end Go.Proofs.YtkpijnodhlonfaaGreatDoor

namespace Go.Proofs.YtkpijnodhlonfaaGreatDoor
open Go.RowKit
open Ast (Nd ndV Nodes siz len)

/-- The cells of what is known; of facts. -/
abbrev facC (k : FK) : Array Value := #[.int .u64 (W k.F 0 : Nat), .int .u64 (W k.F 1 : Nat), .int .u64 (W k.F 2 : Nat), .int .u64 (W k.F 3 : Nat), .bool k.op, .bool k.fa, .string k.pr]
abbrev knoC (k : FK) : Array Value := #[.int .u64 (W k.F 0 : Nat), .int .u64 (W k.F 1 : Nat), .int .u64 (W k.F 2 : Nat), .int .u64 (W k.F 3 : Nat), .bool k.op, .bool k.fa, .string k.pr, .bool k.wh]
/-- Of nothing, of zero. -/
def zrK : FK := ⟨0#256, false, false, ByteArray.empty, false⟩
theorem knoC_F (S : BitVec 256) (h : S = 0#256) (a b c : Bool) (s : ByteArray) : knoC ⟨S, a, b, s, c⟩ = #[.int .u64 0, .int .u64 0, .int .u64 0, .int .u64 0, .bool a, .bool b, .string s, .bool c] := by
  subst h
  show (#[_, _, _, _, _, _, _, _] : Array Value) = _
  rw [W_zero, W_zero, W_zero, W_zero]
  rfl
theorem emC : knoC emK = #[.int .u64 0, .int .u64 0, .int .u64 0, .int .u64 0, .bool true, .bool false, .string ⟨#[]⟩, .bool true] := knoC_F _ rfl _ _ _ _
theorem zrC : knoC zrK = #[.int .u64 0, .int .u64 0, .int .u64 0, .int .u64 0, .bool false, .bool false, .string ⟨#[]⟩, .bool false] := knoC_F _ rfl _ _ _ _
theorem sizeKn : (Tryz.prog.info? 64).map (·.size) = some 8 := by kernel_rfl
theorem sizeFc : (Tryz.prog.info? 31).map (·.size) = some 7 := by kernel_rfl
theorem BoxV.new2 {T : TypeId} (w : World) (A : Obj) (cs : Array Value) : BoxV T ((w.alloc A).alloc (.cells cs T)) (w.heap.size + 1) cs := by have h := BoxV.new (T := T) (w.alloc A) cs; rwa [World.size_alloc] at h
theorem BoxV.new3 {T : TypeId} (w : World) (A B : Obj) (cs : Array Value) : BoxV T (((w.alloc A).alloc B).alloc (.cells cs T)) (w.heap.size + 1 + 1) cs := by have h := BoxV.new (T := T) ((w.alloc A).alloc B) cs; rwa [World.size_alloc, World.size_alloc] at h
abbrev BoxK (w : World) (g : Nat) (k : FK) : Prop := BoxV 64 w g (knoC k)
abbrev BoxF (w : World) (g : Nat) (k : FK) : Prop := BoxV 31 w g (facC k)
section
variable {ops : Array Oper} {rest : List Oper} {o : Oper} {a : Act} {w : World} {Q : Exit → Act → World → Prop}
theorem loadKn (hgd : o.guard = none) (x : Operand) (ho : o.op = .load 64 x) (g : Nat) (k : FK) (hx : a.eval x = .pointer (some ⟨g, 0, none⟩)) (hg : BoxK w g k)
    (h : wpList Tryz.prog ops Q rest (a.put o.dst (.agg (knoC k))) w) : wpList Tryz.prog ops Q (o :: rest) a w :=
  wpList_load_row hgd 64 x ho g hx _ _ _ _ hg Tryz.underlying64 rfl sizeKn h
theorem storeKn (hgd : o.guard = none) (x y : Operand) (ho : o.op = .store 64 x y) (g : Nat) (k : FK) (cs : Array Value) (hx : a.eval x = .pointer (some ⟨g, 0, none⟩)) (hy : a.eval y = .agg (knoC k)) (hs : cs.size = 8) (hg : BoxV 64 w g cs)
    (h : ∀ u : World, Hid (BoxK u g k) → Hid (∀ B, B ≤ g → Below B w u) → Hid (∀ j, j ≠ g → u.heap[j]? = w.heap[j]?) → wpList Tryz.prog ops Q rest (a.put o.dst undef) u) : wpList Tryz.prog ops Q (o :: rest) a w := by
  refine wpList_store_row hgd 64 x y ho g _ hx hy _ _ hg sizeKn (by rw [hs]; rfl) (by simp [Value.oneCell']) ?_
  exact h _ (Lib.hid (setRow_heap w g _ _ _ _ hg)) (Lib.hid fun B hB => (Below.refl _ w).trans ⟨rfl, rfl, rfl, by simp, fun k hk => setRow_other w g k _ (by omega)⟩) (Lib.hid fun k hk => setRow_other w g k _ hk)
end
section
variable {T : TypeId} {w : World} {g : Nat} {cs : Array Value}
theorem BoxV.get (h : BoxV T w g cs) (i : Nat) {v : Value} (hv : cs[i]? = some v) : w.cell? ⟨g, i, none⟩ = some v := by rw [cell_of_row w g _ _ _ _ h, hv]
theorem BoxV.free (h : BoxV T w g cs) (i : Nat) : w.frozen? ⟨g, i, none⟩ = false := frozen_of_row w g i _ _ h
theorem BoxV.put (h : BoxV T w g cs) (i : Nat) (v : Value) : BoxV T (w.setCell ⟨g, i, none⟩ v) g (cs.setIfInBounds i v) := heap_setCell_same w g i _ _ _ h
end
/-- Where a walk stops. -/
structure StopS (p : Prop) : Prop where
  out : p
section
variable {ops : Array Oper} {rest : List Oper} {o : Oper} {a : Act} {w : World} {Q : Exit → Act → World → Prop} {T : TypeId}
/-- A field's store: a string, a bool, a set. -/
theorem storeP9 (hgd : o.guard = none) (x y : Operand) (ho : o.op = .store 9 x y) (g j : Nat) (cs cs' : Array Value) (z n : ByteArray) (hx : a.eval x = .pointer (some ⟨g, j, none⟩)) (hy : a.eval y = .string n) (hg : BoxV T w g cs) (hz : cs[j]? = some (.string z)) (he : cs.set! j (.string n) = cs')
    (h : ∀ u : World, Hid (BoxV T u g cs') → Hid (ButR g w.heap.size w u) → wpList Tryz.prog ops Q rest (a.put o.dst undef) u) : wpList Tryz.prog ops Q (o :: rest) a w := by
  have hf := frozen_of_row w g j _ _ hg
  have c := (cell_of_row w g j _ _ _ hg).trans hz
  have e1 := heap_setCell_same w g j _ _ (.string n) hg
  have e2 : BoxV T (w.setCell ⟨g, j, none⟩ (.string n)) g cs' := by rw [← he]; exact e1
  have hu := h _ (Lib.hid e2) (Lib.hid ((ButR.refl g w.heap.size w).setCell j (.string n)))
  refine wpList_plain hgd fun K hK => ?_
  unfold Oper.wp execOp
  simp only [ho, hx, hy]
  simp [go_sem, c, hf]
  exact hK _ _ hu
theorem storeB9 (hgd : o.guard = none) (x y : Operand) (ho : o.op = .store 4 x y) (g j : Nat) (cs cs' : Array Value) (z n : Bool) (hx : a.eval x = .pointer (some ⟨g, j, none⟩)) (hy : a.eval y = .bool n) (hg : BoxV T w g cs) (hz : cs[j]? = some (.bool z)) (he : cs.set! j (.bool n) = cs')
    (h : ∀ u : World, Hid (BoxV T u g cs') → Hid (ButR g w.heap.size w u) → wpList Tryz.prog ops Q rest (a.put o.dst undef) u) : wpList Tryz.prog ops Q (o :: rest) a w := by
  have hf := frozen_of_row w g j _ _ hg
  have c := (cell_of_row w g j _ _ _ hg).trans hz
  have e1 := heap_setCell_same w g j _ _ (.bool n) hg
  have e2 : BoxV T (w.setCell ⟨g, j, none⟩ (.bool n)) g cs' := by rw [← he]; exact e1
  have hu := h _ (Lib.hid e2) (Lib.hid ((ButR.refl g w.heap.size w).setCell j (.bool n)))
  refine wpList_plain hgd fun K hK => ?_
  unfold Oper.wp execOp
  simp only [ho, hx, hy]
  simp [go_sem, c, hf]
  exact hK _ _ hu
end
theorem resV {cs : Array Value} {fn : Func} {p : Tmp} (h : fn.results = #[.cell p 64]) (tmps : Array Value) {w : World} {g : Nat} (hp : tmps.getD p undef = .pointer (some ⟨g, 0, none⟩)) (hs : cs.size = 8) (hg : BoxV 64 w g cs) :
    (results fn tmps).run Tryz.prog w = .ok (.agg cs) w := results_cell_row h tmps w g _ _ _ _ hp hg Tryz.underlying64 rfl (by rw [hs]; exact sizeKn)
set_option maxHeartbeats 1000000 in
theorem empty9_any (w : World) : Calls Tryz.prog 46 #[] w fun e w' => e = .returned (.agg (knoC emK)) ∧ Below w.heap.size w w' := by
  rw [emC]
  go_enter Tryz.func46, Tryz.ntmps46
  go_wp2
  refine bodyPost_ret (resV (p := 0) rfl _ (g := w.heap.size) rfl (by rfl) (heap_alloc_new _ _)) rfl ⟨rfl, ?_⟩
  go_grown
set_option maxHeartbeats 1000000 in
theorem cut_any9 (k : FK) (w : World) (hs : k.pr.size ≤ 1000000) : Calls Tryz.prog 67 #[.agg (knoC k)] w fun e w' => e = .returned (.agg (knoC (cutK k))) ∧ Below w.heap.size w w' := by
  unfold cutK
  by_cases h : 100 < k.pr.size
  · rw [if_pos h]
    go_enter Tryz.func67, Tryz.ntmps67
    go_wp2
    refine bodyPost_ret (resV (p := 2) rfl _ (g := w.heap.size + 1) rfl (by rfl) (heap_alloc2_new _ _ _)) rfl ⟨rfl, ?_⟩
    go_grown
  · rw [if_neg h]
    go_enter Tryz.func67, Tryz.ntmps67
    go_wp2
    refine bodyPost_ret (resV (p := 2) rfl _ (g := w.heap.size + 1) rfl (by rfl) (heap_alloc2_new _ _ _)) rfl ⟨rfl, ?_⟩
    go_grown
set_option maxRecDepth 20000 in
theorem strOf9 (w : World) (cs : List UInt8) : (convert 97 9 (.slice (some ⟨w.heap.size, 0, none⟩) cs.length cs.length)).run Tryz.prog (w.alloc (.cells (cs.map fun c => Value.int .u8 ((c.toNat : Nat) : Int)).toArray 5)) = .ok (.string ⟨cs.toArray⟩) (w.alloc (.cells (cs.map fun c => Value.int .u8 ((c.toNat : Nat) : Int)).toArray 5)) := by
  have h := run_convert_bytes_back (P := Tryz.prog) (w.alloc (.cells (cs.map fun c => Value.int .u8 ((c.toNat : Nat) : Int)).toArray 5)) 97 9 5 ⟨w.heap.size, 0, none⟩ cs.length cs Tryz.underlying97 Tryz.underlying5 Tryz.underlying9 (fun j hj => by
    rw [Addr.add_lit]
    unfold World.cell?
    rw [heap_alloc_new]
    simp [hj])
  exact h
theorem strOne (c : Nat) (hc : c < 256) (w : World) : (convert 97 9 (.slice (some ⟨w.heap.size, 0, none⟩) 1 1)).run Tryz.prog (w.alloc (.cells #[.int .u8 (c : Int)] 5)) = .ok (.string ⟨#[UInt8.ofNat c]⟩) (w.alloc (.cells #[.int .u8 (c : Int)] 5)) := by
  have h := strOf9 w [UInt8.ofNat c]
  have e : (UInt8.ofNat c).toNat = c := by simp; omega
  simp only [List.map_cons, List.map_nil, List.length_cons, List.length_nil, e] at h
  exact h
abbrev setC (S : BitVec 256) : Array Value := #[.int .u64 (W S 0 : Nat), .int .u64 (W S 1 : Nat), .int .u64 (W S 2 : Nat), .int .u64 (W S 3 : Nat)]
/-- The three boxes of ofBytes. -/
def StB (S : BitVec 256) (w0 w : World) : Prop := Below w0.heap.size w0 w ∧ BoxV 29 w w0.heap.size (setC S) ∧ BoxV 64 w (w0.heap.size + 1) (knoC zrK) ∧ BoxK w (w0.heap.size + 1 + 1) ⟨S, false, false, ByteArray.empty, false⟩
theorem StB.call {S : BitVec 256} {w0 w w' : World} (h : StB S w0 w) (hb : Below w.heap.size w w') : StB S w0 w' :=
  ⟨thenB h.1 hb h.1.size, h.2.1.below hb h.2.1.lt, h.2.2.1.below hb h.2.2.1.lt, h.2.2.2.below hb h.2.2.2.lt⟩
set_option maxHeartbeats 4000000 in
set_option maxRecDepth 20000 in
theorem bytes9_any (S : BitVec 256) (w : World) (ht : TabOk w) : Calls Tryz.prog 42 #[setV S] w fun e w' => e = .returned (.agg (knoC (bytK S))) ∧ Below w.heap.size w w' := by
  have HM := Lib.hid (fun w h => min_k S w h)
  have HL := Lib.hid (fun w => len_any S w)
  have hm := minS_lt S
  have HT := Lib.hid ht
  have HS := Lib.hid (show StB S w (((w.alloc (.cells (setC S) 29)).alloc (.cells (knoC zrK) 64)).alloc (.cells (knoC ⟨S, false, false, ByteArray.empty, false⟩) 64)) from
    ⟨by go_grown, ((BoxV.new _ _).alloc _).alloc _, by have h := (BoxV.new (T := 64) (w.alloc (.cells (setC S) 29)) (knoC zrK)).alloc (.cells (knoC ⟨S, false, false, ByteArray.empty, false⟩) 64); simpa using h, by have h := BoxV.new (T := 64) ((w.alloc (.cells (setC S) 29)).alloc (.cells (knoC zrK) 64)) (knoC ⟨S, false, false, ByteArray.empty, false⟩); simpa using h⟩)
  rw [zrC] at HS
  have e0 : (knoC ⟨S, false, false, ByteArray.empty, false⟩) = #[.int .u64 (W S 0 : Nat), .int .u64 (W S 1 : Nat), .int .u64 (W S 2 : Nat), .int .u64 (W S 3 : Nat), .bool false, .bool false, .string ⟨#[]⟩, .bool false] := rfl
  unfold bytK
  clear ht
  by_cases h1 : lenS S = 1
  · rw [if_pos h1]
    rw [h1] at HL
    generalize minS S = m at HM hm ⊢
    clear h1
    go_enter Tryz.func42, Tryz.ntmps42
    go_wp2_with fail
    refine (HM.out _ (HT.out.call (by go_grown))).mono ?_
    rintro e w1 ⟨⟨b, rfl⟩, hb⟩
    have HS1 := Lib.hid (HS.out.call hb)
    have z0 := HS1.out.2.1.get 0 rfl
    have z1 := HS1.out.2.1.get 1 rfl
    have z2 := HS1.out.2.1.get 2 rfl
    have z3 := HS1.out.2.1.get 3 rfl
    clear hb HS
    go_wp2_with fail
    refine (HL.out _).mono ?_
    rintro e w2 ⟨rfl, hb⟩
    have HS2 := Lib.hid (HS1.out.call hb)
    clear hb HS1 z0 z1 z2 z3
    have hs := strOne m hm w2
    have HB0 := Lib.hid (show BoxK (w2.alloc (.cells #[.int .u8 (m : Int)] 5)) (w.heap.size + 1 + 1) ⟨S, false, false, ByteArray.empty, false⟩ from HS2.out.2.2.2.alloc _)
    clear hm
    go_wp2_with (refine storeP9 rfl _ _ rfl (w.heap.size + 1 + 1) 6 _ (knoC ⟨S, false, false, ⟨#[UInt8.ofNat m]⟩, false⟩) _ _ rfl rfl HB0.out rfl rfl ?_; intro u1 hx hN; refine StopS.out ?_)
    refine ⟨?_⟩
    go_wp2_with (refine storeB9 rfl _ _ rfl (w.heap.size + 1 + 1) 7 _ (knoC ⟨S, false, false, ⟨#[UInt8.ofNat m]⟩, true⟩) _ _ rfl rfl hx.out rfl rfl ?_; intro u2 hx2 hN2; refine StopS.out ?_)
    refine ⟨?_⟩
    have hlt := HS2.out.2.2.2.lt
    have HZ := Lib.hid ((((HS2.out.2.2.1.alloc (.cells #[.int .u8 (m : Int)] 5)).but hN.out (by simp; omega) (by omega)).but hN2.out (Nat.lt_of_lt_of_le (by simp; omega) hN.out.size) (by omega)))
    have HB1 := Lib.hid (show Below w.heap.size w u2 from ((HS2.out.1.alloc HS2.out.1.size _).trans (hN.out.below (Nat.le_trans HS2.out.1.size (by simp)) (by omega))).trans (hN2.out.below (Nat.le_trans (Nat.le_trans HS2.out.1.size (by simp)) hN.out.size) (by omega)))
    clear HS2 hN hN2 hx HB0 hlt
    go_wp2_with (refine loadKn rfl _ rfl (w.heap.size + 1 + 1) ⟨S, false, false, ⟨#[UInt8.ofNat m]⟩, true⟩ rfl hx2.out (StopS.out ?_))
    refine ⟨?_⟩
    go_wp2_with (refine storeKn rfl _ _ rfl (w.heap.size + 1) ⟨S, false, false, ⟨#[UInt8.ofNat m]⟩, true⟩ _ rfl rfl (by rfl) HZ.out ?_; intro u3 hx3 hB3 _; refine StopS.out ?_)
    refine ⟨?_⟩
    go_wp2
    refine bodyPost_ret (resV (p := 2) rfl _ (g := w.heap.size + 1) rfl (by rfl) hx3.out) rfl ⟨rfl, ?_⟩
    exact HB1.out.trans (hB3.out _ (by omega))
  · rw [if_neg h1]
    have q1 : (((lenS S : Nat) : Int) == 1) = false := by rw [beq_eq_false_iff_ne]; omega
    generalize lenS S = n at HL q1
    clear h1
    go_enter Tryz.func42, Tryz.ntmps42
    go_wp2_with fail
    refine (HM.out _ (HT.out.call (by go_grown))).mono ?_
    rintro e w1 ⟨⟨b, rfl⟩, hb⟩
    have HS1 := Lib.hid (HS.out.call hb)
    have z0 := HS1.out.2.1.get 0 rfl
    have z1 := HS1.out.2.1.get 1 rfl
    have z2 := HS1.out.2.1.get 2 rfl
    have z3 := HS1.out.2.1.get 3 rfl
    clear hb HS
    go_wp2_with fail
    refine (HL.out _).mono ?_
    rintro e w2 ⟨rfl, hb⟩
    have HS2 := Lib.hid (HS1.out.call hb)
    clear hb HS1 z0 z1 z2 z3
    go_wp2_with (refine loadKn rfl _ rfl (w.heap.size + 1 + 1) ⟨S, false, false, ByteArray.empty, false⟩ rfl HS2.out.2.2.2 (StopS.out ?_))
    refine ⟨?_⟩
    go_wp2_with (refine storeKn rfl _ _ rfl (w.heap.size + 1) ⟨S, false, false, ByteArray.empty, false⟩ _ rfl rfl (by rfl) HS2.out.2.2.1 ?_; intro u3 hx3 hB3 _; refine StopS.out ?_)
    refine ⟨?_⟩
    go_wp2
    refine bodyPost_ret (resV (p := 2) rfl _ (g := w.heap.size + 1) rfl (by rfl) hx3.out) rfl ⟨rfl, ?_⟩
    exact HS2.out.1.trans (hB3.out _ (by omega))
/-! What repeats. -/
theorem rep_wh {mn mx : Int} (h1 : ¬ mx = 0) (h2 : ¬ mn = 0) (S : BitVec 256) (op fa : Bool) (pr : ByteArray) (wh c : Bool) (hc : (wh && decide (mn = 1) && decide (mx = 1)) = c) : repK mn mx ⟨S, op, fa, pr, wh⟩ = ⟨S, op, fa, pr, c⟩ := by
  unfold repK
  rw [if_neg h1, if_neg h2, ← hc]
set_option maxRecDepth 20000 in
set_option maxHeartbeats 4000000 in
theorem rep9_any (x : Nd) (k : FK) (w : World) : Calls Tryz.prog 45 #[.agg (ndC x), .agg (knoC k)] w fun e w' => e = .returned (.agg (knoC (repK x.mn x.mx k))) ∧ Below w.heap.size w w' := by
  obtain ⟨S, op, fa, pr, wh⟩ := k
  obtain ⟨xk, xa, xb, t0, t1, t2, t3, mn, mx, md, nn, ff⟩ := x
  simp only
  by_cases h1 : mx = 0
  · rw [show repK mn mx ⟨S, op, fa, pr, wh⟩ = emK from if_pos h1]
    subst h1
    have HE := Lib.hid (fun w => empty9_any w)
    go_enter Tryz.func45, Tryz.ntmps45
    go_wp2_with fail
    refine (HE.out _).mono ?_
    rintro e w1 ⟨rfl, hb⟩
    have HZ := Lib.hid (show BoxK w1 (w.heap.size + 1 + 1) zrK from BoxV.below (by rw [zrC]; exact BoxV.new3 _ _ _ _) hb (by simp))
    have HB := Lib.hid (show Below w.heap.size w w1 from (show Below w.heap.size w _ by go_grown).trans (hb.mono (by simp; omega)))
    clear hb
    go_wp2_with (refine storeKn rfl _ _ rfl (w.heap.size + 1 + 1) emK _ rfl rfl (by rfl) HZ.out ?_; intro u3 hx3 hB3 _; refine StopS.out ?_)
    refine ⟨?_⟩
    go_wp2
    refine bodyPost_ret (resV (p := 4) rfl _ (g := w.heap.size + 1 + 1) rfl (by rfl) hx3.out) rfl ⟨rfl, ?_⟩
    exact HB.out.trans (hB3.out _ (by omega))
  · have q1 : (mx == 0) = false := by simpa using h1
    by_cases h2 : mn = 0
    · rw [show repK mn mx ⟨S, op, fa, pr, wh⟩ = ⟨S, true, false, ByteArray.empty, false⟩ by unfold repK; rw [if_neg h1, if_pos h2]]
      subst h2
      clear h1
      go_enter Tryz.func45, Tryz.ntmps45
      go_wp2
      refine bodyPost_ret (resV (p := 4) rfl _ (g := w.heap.size + 1 + 1) rfl (by rfl) (BoxV.new3 _ _ _ _)) rfl ⟨rfl, ?_⟩
      go_grown
    · have q2 : (mn == 0) = false := by simpa using h2
      cases wh with
      | false =>
        rw [rep_wh h1 h2 S op fa pr false false rfl]
        clear h1 h2
        go_enter Tryz.func45, Tryz.ntmps45
        go_wp2
        refine bodyPost_ret (resV (p := 4) rfl _ (g := w.heap.size + 1 + 1) rfl (by rfl) (BoxV.new3 _ _ _ _)) rfl ⟨rfl, ?_⟩
        go_grown
      | true =>
        by_cases h3 : mn = 1
        · subst h3
          by_cases h4 : mx = 1
          · rw [rep_wh h1 h2 S op fa pr true true (by rw [h4]; rfl)]
            subst h4
            clear h1 h2 q1 q2
            go_enter Tryz.func45, Tryz.ntmps45
            go_wp2
            refine bodyPost_ret (resV (p := 4) rfl _ (g := w.heap.size + 1 + 1) rfl (by rfl) (BoxV.new3 _ _ _ _)) rfl ⟨rfl, ?_⟩
            go_grown
          · rw [rep_wh h1 h2 S op fa pr true false (by rw [decide_eq_false h4]; rfl)]
            have q4 : (mx == 1) = false := by simpa using h4
            clear h1 h2 h4 q2
            go_enter Tryz.func45, Tryz.ntmps45
            go_wp2
            refine bodyPost_ret (resV (p := 4) rfl _ (g := w.heap.size + 1 + 1) rfl (by rfl) (BoxV.new3 _ _ _ _)) rfl ⟨rfl, ?_⟩
            go_grown
        · rw [rep_wh h1 h2 S op fa pr true false (by rw [decide_eq_false h3]; rfl)]
          have q4 : (mn == 1) = false := by simpa using h3
          clear h1 h2 h3
          go_enter Tryz.func45, Tryz.ntmps45
          go_wp2
          refine bodyPost_ret (resV (p := 4) rfl _ (g := w.heap.size + 1 + 1) rfl (by rfl) (BoxV.new3 _ _ _ _)) rfl ⟨rfl, ?_⟩
          go_grown
end Go.Proofs.YtkpijnodhlonfaaGreatDoor

namespace Go.Proofs.YtkpijnodhlonfaaGreatDoor
open Go.RowKit
open Ast (Nd ndV)

/-- A scope in which the run jumps ahead to one label. -/
theorem wp_scope_once {P : Program} {a : Act} {w : World} {Q : Exit → Act → World → Prop} {c rest : Code} (l : Nat) (hf : findLabel c l = some rest)
    (first : c.wp P (Exit.jump l (fun a w => rest.wp P (Exit.jump l (fun _ _ => False) Q) a w) Q) a w) : (Code.scope c).wp P Q a w :=
  wp_scope_jumps l (fun a w => rest.wp P (Exit.jump l (fun _ _ => False) Q) a w) (fun _ _ => 0) hf first fun _ _ h => wp_mono h fun e _ _ he => by
    cases e with
    | goto l' => exact ⟨he.1, he.2.elim⟩
    | normal => exact he
    | exit _ => exact he
    | ret => exact he
    | panic _ => exact he
    | outgrown => exact he
section
variable {P : Program} {ops : Array Oper} {Q : Exit → Act → World → Prop} {md : Region.Mode} {S : World → Prop} {fuel : Nat} {listed : Array Bool} {a : Act} {w : World}
/-- Operation number i leaves another world and no value, and nothing else can come up. -/
theorem skipAt (i : Nat) (w' : World) {oi : Oper} (hi : ops[i]? = some oi) (hd : oi.dst = none) (hr : Region.ready md ops listed = [i]) (hw : Region.wanted oi (yielded ops a.tmps) = true)
    (hrun : (execOp a.eval oi).run P w = .ok .skip w') (hS : S w') (hgo : wpAnyH P md ops Q S fuel (listed.setIfInBounds i true) a w') : wpAnyH P md ops Q S (fuel + 1) listed a w := by
  refine wpAnyH_ready (rs := [i]) hr (by simp) (AllReadyH.cons hi (fun K hK => ?_) AllReadyH.nil)
  rw [if_pos hw]
  have hK2 := Lib.hid (hK.out _ _ hS (fun _ => hgo))
  unfold Oper.wp
  rw [hrun]
  unfold Oper.upon
  rw [hd]
  exact hK2.out
end
section
variable {ops : Array Oper} {R : World → Prop} {a : Act} {o : Oper} {x y : Operand} {w : World} {T : TypeId} {cs : Array Value}
theorem loadK_y (g : Nat) (k : FK) (hR : ∀ u, R u → BoxK u g k) (ho : o.op = .load 64 x) (hx : a.eval x = .pointer (some ⟨g, 0, none⟩)) (hw : Region.wanted o (yielded ops a.tmps) = true) : YieldsIf Tryz.prog ops R o (.agg (knoC k)) a := by
  refine Or.inl ⟨hw, fun u h => ?_⟩
  unfold execOp
  simp only [ho, hx, Instr.loadAt, Instr.sureAddr, Sem.run_bind, Sem.run_pure, Result.andThen_ok, run_loadVar_row u g _ _ _ _ _ (hR u h) Tryz.underlying64 rfl sizeKn]
theorem loadF_y (g : Nat) (k : FK) (hR : ∀ u, R u → BoxF u g k) (ho : o.op = .load 31 x) (hx : a.eval x = .pointer (some ⟨g, 0, none⟩)) (hw : Region.wanted o (yielded ops a.tmps) = true) : YieldsIf Tryz.prog ops R o (.agg (facC k)) a := by
  refine Or.inl ⟨hw, fun u h => ?_⟩
  unfold execOp
  simp only [ho, hx, Instr.loadAt, Instr.sureAddr, Sem.run_bind, Sem.run_pure, Result.andThen_ok, run_loadVar_row u g _ _ _ _ _ (hR u h) Tryz.underlying31 rfl sizeFc]
theorem loadN9_y (g : Nat) (v : Nd) (hR : ∀ u, R u → BoxV 59 u g (ndC v)) (ho : o.op = .load 59 x) (hx : a.eval x = .pointer (some ⟨g, 0, none⟩)) (hw : Region.wanted o (yielded ops a.tmps) = true) : YieldsIf Tryz.prog ops R o (.agg (ndC v)) a := by
  refine Or.inl ⟨hw, fun u h => ?_⟩
  unfold execOp
  simp only [ho, hx, Instr.loadAt, Instr.sureAddr, Sem.run_bind, Sem.run_pure, Result.andThen_ok, run_loadVar_row u g _ _ _ _ _ (hR u h) Tryz.underlying59 rfl sizeNd]
theorem loadT9_y (g : Nat) (A : Option Addr) (n cap : Nat) (hR : ∀ u, R u → BoxV 24 u g (trC A n cap)) (ho : o.op = .load 24 x) (hx : a.eval x = .pointer (some ⟨g, 0, none⟩)) (hw : Region.wanted o (yielded ops a.tmps) = true) : YieldsIf Tryz.prog ops R o (.agg (trC A n cap)) a := by
  refine Or.inl ⟨hw, fun u h => ?_⟩
  unfold execOp
  simp only [ho, hx, Instr.loadAt, Instr.sureAddr, Sem.run_bind, Sem.run_pure, Result.andThen_ok, run_loadVar_row u g _ _ _ _ _ (hR u h) Tryz.underlying24 rfl sizeTr]
theorem loadB9_y (g j : Nat) (b : Bool) (hR : ∀ u, R u → u.cell? ⟨g, j, none⟩ = some (.bool b)) (ho : o.op = .load 4 x) (hx : a.eval x = .pointer (some ⟨g, j, none⟩)) (hw : Region.wanted o (yielded ops a.tmps) = true) : YieldsIf Tryz.prog ops R o (.bool b) a := by
  refine Or.inl ⟨hw, fun u h => ?_⟩
  have hc := hR u h
  unfold execOp
  simp only [ho, hx]
  go_simp
theorem loadI9_y (g j : Nat) (n : Int) (hR : ∀ u, R u → u.cell? ⟨g, j, none⟩ = some (.int .i64 n)) (ho : o.op = .load 3 x) (hx : a.eval x = .pointer (some ⟨g, j, none⟩)) (hw : Region.wanted o (yielded ops a.tmps) = true) : YieldsIf Tryz.prog ops R o (.int .i64 n) a := by
  refine Or.inl ⟨hw, fun u h => ?_⟩
  have hc := hR u h
  unfold execOp
  simp only [ho, hx]
  go_simp
theorem loadP9_y (g j : Nat) (s : ByteArray) (hR : ∀ u, R u → u.cell? ⟨g, j, none⟩ = some (.string s)) (ho : o.op = .load 9 x) (hx : a.eval x = .pointer (some ⟨g, j, none⟩)) (hw : Region.wanted o (yielded ops a.tmps) = true) : YieldsIf Tryz.prog ops R o (.string s) a := by
  refine Or.inl ⟨hw, fun u h => ?_⟩
  have hc := hR u h
  unfold execOp
  simp only [ho, hx]
  go_simp
theorem addP9_y (s t : ByteArray) (hs : s.size + t.size ≤ 1000000) (ho : o.op = .binOp .add 9 x y 9) (hx : a.eval x = .string s) (hy : a.eval y = .string t) (hw : Region.wanted o (yielded ops a.tmps) = true) : YieldsIf Tryz.prog ops R o (.string (s ++ t)) a := by
  refine Or.inl ⟨hw, fun u h => ?_⟩
  have q : ¬ s.size + t.size > 9223372036854775807 := by omega
  unfold execOp
  simp only [ho, hx, hy]
  go_simp
/-- The store of a bool, of a string, into a field. -/
theorem putB_run {g j : Nat} {z n : Bool} (hg : BoxV T w g cs) (hz : cs[j]? = some (.bool z)) (ho : o.op = .store 4 x y) (hx : a.eval x = .pointer (some ⟨g, j, none⟩)) (hy : a.eval y = .bool n) : (execOp a.eval o).run Tryz.prog w = .ok .skip (w.setCell ⟨g, j, none⟩ (.bool n)) := by
  have hf := frozen_of_row w g j _ _ hg
  have c := (cell_of_row w g j _ _ _ hg).trans hz
  unfold execOp
  simp only [ho, hx, hy]
  simp [go_sem, c, hf]
theorem putP_run {g j : Nat} {z n : ByteArray} (hg : BoxV T w g cs) (hz : cs[j]? = some (.string z)) (ho : o.op = .store 9 x y) (hx : a.eval x = .pointer (some ⟨g, j, none⟩)) (hy : a.eval y = .string n) : (execOp a.eval o).run Tryz.prog w = .ok .skip (w.setCell ⟨g, j, none⟩ (.string n)) := by
  have hf := frozen_of_row w g j _ _ hg
  have c := (cell_of_row w g j _ _ _ hg).trans hz
  unfold execOp
  simp only [ho, hx, hy]
  simp [go_sem, c, hf]
end
section
variable {ops : Array Oper} {rest : List Oper} {o : Oper} {a : Act} {w : World} {Q : Exit → Act → World → Prop} {T : TypeId}
/-- A set is stored in a field ahead of all. -/
theorem storeS9 (hgd : o.guard = none) (x y : Operand) (ho : o.op = .store 29 x y) (g : Nat) (cs cs' : Array Value) (S U : BitVec 256) (hx : a.eval x = .pointer (some ⟨g, 0, none⟩)) (hy : a.eval y = setV S) (hg : BoxV T w g cs)
    (h0 : cs[0]? = some (.int .u64 (W U 0 : Nat))) (h1 : cs[1]? = some (.int .u64 (W U 1 : Nat))) (h2 : cs[2]? = some (.int .u64 (W U 2 : Nat))) (h3 : cs[3]? = some (.int .u64 (W U 3 : Nat)))
    (he : (((cs.setIfInBounds 0 (.int .u64 (W S 0 : Nat))).setIfInBounds 1 (.int .u64 (W S 1 : Nat))).setIfInBounds 2 (.int .u64 (W S 2 : Nat))).setIfInBounds 3 (.int .u64 (W S 3 : Nat)) = cs')
    (h : ∀ u : World, Hid (BoxV T u g cs') → Hid (ButR g w.heap.size w u) → wpList Tryz.prog ops Q rest (a.put o.dst undef) u) : wpList Tryz.prog ops Q (o :: rest) a w := by
  have f0 := frozen_of_row w g 0 _ _ hg
  have f1 := frozen_of_row w g 1 _ _ hg
  have f2 := frozen_of_row w g 2 _ _ hg
  have f3 := frozen_of_row w g 3 _ _ hg
  have c0 := (cell_of_row w g 0 _ _ _ hg).trans h0
  have c1 := (cell_of_row w g 1 _ _ _ hg).trans h1
  have c2 := (cell_of_row w g 2 _ _ _ hg).trans h2
  have c3 := (cell_of_row w g 3 _ _ _ hg).trans h3
  have e1 := heap_setCell_same w g 0 _ _ (.int .u64 (W S 0 : Nat)) hg
  have e2 := heap_setCell_same _ g 1 _ _ (.int .u64 (W S 1 : Nat)) e1
  have e3 := heap_setCell_same _ g 2 _ _ (.int .u64 (W S 2 : Nat)) e2
  have e4 := heap_setCell_same _ g 3 _ _ (.int .u64 (W S 3 : Nat)) e3
  rw [he] at e4
  have hu := h _ (Lib.hid e4) (Lib.hid (((((ButR.refl g w.heap.size w).setCell 0 (.int .u64 (W S 0 : Nat))).setCell 1 (.int .u64 (W S 1 : Nat))).setCell 2 (.int .u64 (W S 2 : Nat))).setCell 3 (.int .u64 (W S 3 : Nat))))
  refine wpList_plain hgd fun K hK => ?_
  unfold Oper.wp execOp
  simp only [ho, hx, hy]
  simp [go_sem, c0, c1, c2, c3, f0, f1, f2, f3]
  exact hK _ _ hu
end
section
variable {w : World} {g : Nat} {k : FK}
theorem BoxK.c0 (h : BoxK w g k) : w.cell? ⟨g, 0, none⟩ = some (.int .u64 (W k.F 0 : Nat)) := BoxV.get h 0 rfl
theorem BoxK.c1 (h : BoxK w g k) : w.cell? ⟨g, 1, none⟩ = some (.int .u64 (W k.F 1 : Nat)) := BoxV.get h 1 rfl
theorem BoxK.c2 (h : BoxK w g k) : w.cell? ⟨g, 2, none⟩ = some (.int .u64 (W k.F 2 : Nat)) := BoxV.get h 2 rfl
theorem BoxK.c3 (h : BoxK w g k) : w.cell? ⟨g, 3, none⟩ = some (.int .u64 (W k.F 3 : Nat)) := BoxV.get h 3 rfl
theorem BoxK.c4 (h : BoxK w g k) : w.cell? ⟨g, 4, none⟩ = some (.bool k.op) := BoxV.get h 4 rfl
theorem BoxK.c5 (h : BoxK w g k) : w.cell? ⟨g, 5, none⟩ = some (.bool k.fa) := BoxV.get h 5 rfl
theorem BoxK.c6 (h : BoxK w g k) : w.cell? ⟨g, 6, none⟩ = some (.string k.pr) := BoxV.get h 6 rfl
theorem BoxK.c7 (h : BoxK w g k) : w.cell? ⟨g, 7, none⟩ = some (.bool k.wh) := BoxV.get h 7 rfl
end
section
variable {P : Program} {ops : Array Oper} {rest : List Oper} {o : Oper} {a : Act} {w : World} {Q : Exit → Act → World → Prop} {S : World → Prop}
/-- The next operation, in a region that draws no order: it yields v, or it is not wanted. -/
theorem lineY (v : Value) (hy : YieldsIf P ops S o v a) (hS : S w) (h : wpList P ops Q rest (a.put o.dst v) w) : wpList P ops Q (o :: rest) a w := by
  rcases hy with ⟨hw, hr⟩ | ⟨hw, rfl⟩
  · refine wpList_step fun K hK => ?_
    rw [if_pos hw]
    unfold Oper.wp
    rw [hr w hS, Oper.upon_value]
    exact hK _ _ h
  · exact wpList_skip hw h
/-- The next operation is a call, if it is wanted. -/
theorem lineCall (c : Bool) (z : Value) {f : FuncId} {vs : Array Value} (hw : Region.wanted o (yielded ops a.tmps) = c) (hrun : c = true → (execOp a.eval o).run P w = .ok (.enter f vs) w)
    (hc : Calls P f vs w fun e w' => e = .returned z ∧ Below w.heap.size w w') (h : ∀ w', Below w.heap.size w w' → wpList P ops Q rest (a.put o.dst (cond c z undef)) w') : wpList P ops Q (o :: rest) a w := by
  cases c with
  | true =>
    refine wpList_step fun K hK => ?_
    rw [if_pos hw]
    unfold Oper.wp
    rw [hrun rfl, Oper.upon_enter]
    refine hc.mono fun e w' ⟨he, hb⟩ => ?_
    subst he
    exact hK _ _ (h w' hb)
  | false => exact wpList_skip hw (h w (Below.refl _ w))
end
/-- Is it what is known of nothing? -/
def isEm (a : FK) : Bool := decide (a.F = 0#256) && a.op && !a.fa && decide (a.pr.size = 0) && a.wh
theorem isEm_eq {a : FK} (h : isEm a = true) : a = emK := by
  unfold isEm at h
  simp only [Bool.and_eq_true, decide_eq_true_eq, Bool.not_eq_true'] at h
  exact FK.eta a h.1.1.1.1 h.1.1.1.2 h.1.1.2 h.1.2 h.2
theorem toList_size (s : ByteArray) : s.toList = [] ↔ s.size = 0 := by
  rw [ByteArray.toList_eq s]
  cases s with
  | mk d => show d.toList = [] ↔ d.size = 0; simp
section
variable {ops : Array Oper} {R : World → Prop} {a : Act} {o : Oper} {x y : Operand} {rest : List Oper} {w : World} {P : Program} {Q : Exit → Act → World → Prop}
theorem eqK_y (k : FK) (b : Bool) (hb : isEm k = b) (ho : o.op = .binOp .eql 64 x y 64) (hx : a.eval x = .agg (knoC k)) (hy : a.eval y = .agg (knoC emK)) (hw : Region.wanted o (yielded ops a.tmps) = true) : YieldsIf Tryz.prog ops R o (.bool b) a := by
  subst hb
  refine Or.inl ⟨hw, fun u _ => ?_⟩
  rw [emC] at hy
  unfold execOp
  simp only [ho, hx, hy]
  go_simp
  obtain ⟨F, op, fa, pr, wh⟩ := k
  unfold isEm
  simp only
  by_cases hF : F = 0#256
  · subst hF
    simp only [W_zero]
    by_cases hp : pr.size = 0
    · rw [if_pos (show pr.toList = [] from (toList_size pr).2 hp)]
      cases op <;> cases fa <;> cases wh <;> simp [hp]
    · have h2 : ¬ pr.toList = [] := fun h => hp ((toList_size pr).1 h)
      rw [if_neg h2]
      cases op <;> cases fa <;> cases wh <;> simp [hp]
  · rw [if_pos (fun h0 h1 h2 h3 => hF (eq_of_W (by rw [h0, W_zero]) (by rw [h1, W_zero]) (by rw [h2, W_zero]) (by rw [h3, W_zero])))]
    simp [hF]
end
end Go.Proofs.YtkpijnodhlonfaaGreatDoor
