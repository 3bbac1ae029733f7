/-
  The statement CrcLinear: what its walk comes to.
-/
import Derived.Test.YtdpdokjoinhjpaaDoorCrcFixed
import Derived.Test.YtdpdokjoinhjpaaDoorTake
import Derived.Laws.BytesArg
namespace Go.Proofs.YtdpdokjoinhjpaaDoor
open Go.RowKit

theorem over_snoc : ∀ (l m n : List UInt8) (x y z : UInt8), l.length = m.length → m.length = n.length → over (l ++ [x]) (m ++ [y]) (n ++ [z]) = over l m n ++ [x ^^^ y ^^^ z]
  | [], [], [], x, y, z, _, _ => by simp [over]
  | a :: l, b :: m, c :: n, x, y, z, h1, h2 => by
    simp only [List.cons_append, over]
    rw [over_snoc l m n x y z (by simpa using h1) (by simpa using h2)]
/-- Three texts, laid over one another, as far as k. -/
def ovB (a b c : ByteArray) (k : Nat) : List UInt8 := over (a.data.toList.take k) (b.data.toList.take k) (c.data.toList.take k)
theorem take_len (a : ByteArray) (k : Nat) (h : k ≤ a.size) : (a.data.toList.take k).length = k := by
  rw [List.length_take, Array.length_toList]
  exact Nat.min_eq_left h
theorem ovB_succ (a b c : ByteArray) (k : Nat) (ha : k < a.size) (hb : k < b.size) (hc : k < c.size) : ovB a b c (k + 1) = ovB a b c k ++ [a[k] ^^^ b[k] ^^^ c[k]] := by
  unfold ovB
  rw [take_succ' a k ha, take_succ' b k hb, take_succ' c k hc, over_snoc]
  · rw [take_len a k (by omega), take_len b k (by omega)]
  · rw [take_len b k (by omega), take_len c k (by omega)]
theorem ovB_len (a b c : ByteArray) : ∀ (k : Nat), k ≤ a.size → k ≤ b.size → k ≤ c.size → (ovB a b c k).length = k
  | 0, _, _, _ => by simp [ovB, over]
  | k + 1, ha, hb, hc => by rw [ovB_succ a b c k ha hb hc, List.length_append, ovB_len a b c k (by omega) (by omega) (by omega)]; rfl
theorem of_cut (a : ByteArray) (k : Nat) : ofB (a.extract 0 k) = onL 11994318 (a.data.toList.take k) := by
  unfold ofB
  rw [ByteArray.data_extract, Array.toList_extract]
  simp
theorem ovB_of (a b c : ByteArray) (k : Nat) (ha : k ≤ a.size) (hb : k ≤ b.size) (hc : k ≤ c.size) :
    ofB (a.extract 0 k) ^^^ ofB (b.extract 0 k) ^^^ ofB (c.extract 0 k) = ofB ⟨(ovB a b c k).toArray⟩ := by
  rw [of_cut, of_cut, of_cut, onL_over _ _ _ _ _ _ (by decide) (by decide) (by decide) (by rw [take_len a k ha, take_len b k hb]) (by rw [take_len b k hb, take_len c k hc])]
  rfl
theorem xor_u8 (x y : UInt8) : bits .xor .u8 (x.toNat : Int) (y.toNat : Int) = ((x ^^^ y).toNat : Int) := by
  rw [u8_xor_nat _ _ x.toNat_lt y.toNat_lt, UInt8.toNat_xor]
theorem min4 (ts : Array TypeId) (t : TypeId) (a b c : Nat) (w : World) (k : Nat) (hk : k = min (min (min a b) c) 100) :
    (Builtin.min_ ts t #[.int .i64 (a : Int), .int .i64 (b : Int), .int .i64 (c : Int), .int .i64 100]).run Tryd.prog w = .ok (.int .i64 (k : Int)) w := by
  simp [Builtin.min_, Builtin.min2]
  subst hk
  repeat' split
  all_goals omega

/-- The bytes as cells. -/
def ovC (l : List UInt8) : List Value := l.map fun x => .int .u8 (x.toNat : Int)
theorem infoByte : (Tryd.prog.info? 5).map (fun i => (i.zero, i.size, i.bytes)) = some (some (.int .u8 0), 1, 1) := by kernel_rfl
theorem info_parts' {p : Option TypeInfo} {z : Option Value} {s b : Nat} (h : p.map (fun i => (i.zero, i.size, i.bytes)) = some (z, s, b)) : ∃ i, p = some i ∧ i.zero = z ∧ i.size = s ∧ i.bytes = b := by
  cases p with
  | none => simp at h
  | some i => simp at h; exact ⟨i, rfl, h.1, h.2.1, h.2.2⟩

theorem ovC_snoc (l : List UInt8) (z : UInt8) : ovC (l ++ [z]) = ovC l ++ [.int .u8 (z.toNat : Int)] := by simp [ovC]
/-- What is owned stays so, through whatever turns nothing that was there. -/
theorem own_call {w w' : World} {base n : Nat} {v : Value} {xs : List Value} (h : w.ownsRow base 5 1 v n xs) (hb : Below w.heap.size w w') : w'.ownsRow base 5 1 v n xs := by
  obtain ⟨h1, h2⟩ := h
  refine ⟨h1, ?_⟩
  rcases h2 with h2 | ⟨r, cap, cur, hv, hr, hh, rest⟩
  · exact Or.inl h2
  · exact Or.inr ⟨r, cap, cur, hv, hr, (hb.block r (Array.getElem?_eq_some_iff.1 hh).1).trans hh, rest⟩
theorem own_from {w : World} {base n : Nat} {v : Value} {xs : List Value} (h : w.ownsRow base 5 1 v n xs) (k : Nat) (hk : v.ownBlock = some k) : base ≤ k := by
  obtain ⟨_, h2⟩ := h
  rcases h2 with ⟨rfl, _⟩ | ⟨r, cap, cur, rfl, hb, _⟩
  · simp [Value.ownBlock] at hk
  · simp only [Value.ownBlock, Option.some.injEq] at hk
    omega
theorem byte_build {a : Act} {o : Oper} {x : Operand} (w : World) (r : Int) (ho : o.op = .buildSlice 32 1 #[(0, x)]) (hx : a.eval x = .int .u8 r) :
    (execOp a.eval o).run Tryd.prog w = .ok (.value (.slice (some ⟨w.heap.size, 0, none⟩) 1 1)) (w.alloc (.cells #[.int .u8 r] 5)) := by
  unfold execOp
  generalize a.eval = ev at hx ⊢
  simp only [ho]
  go_simp
theorem append_run {a : Act} {o : Oper} {x y : Operand} {w w' : World} {v' : Value} (u v : Value) (ho : o.op = .call { callee := .builtin .append, args := #[x, y], argTypes := #[32, 32] }) (hx : a.eval x = u) (hy : a.eval y = v)
    (h : (Builtin.append_ #[32, 32] o.type #[u, v]).run Tryd.prog w = .ok v' w') : (execOp a.eval o).run Tryd.prog w = .ok (.value v') w' := by
  unfold execOp
  simp only [ho, resolve, invoke, builtin, Sem.run_bind, Sem.run_pure, Result.andThen_ok, List.map_toArray, List.map_cons, List.map_nil, hx, hy, h]

/-- Bytes that are owned, as a text. -/
theorem own_conv {u : World} {base k : Nat} {v : Value} {l : List UInt8} (h : u.ownsRow base 5 1 v k (ovC l)) : (convert 32 9 v).run Tryd.prog u = .ok (.string ⟨l.toArray⟩) u := by
  obtain ⟨h1, h2⟩ := h
  have hl : l.length = k := by simpa [ovC] using h1
  rcases h2 with ⟨rfl, rfl⟩ | ⟨g, cap, cur, rfl, hb, hh, h3, h4, h5, h6⟩
  · obtain rfl : l = [] := List.length_eq_zero_iff.1 hl
    exact run_convert_bytes_nil u 32 5 Tryd.underlying32 Tryd.underlying5 0 0 9 Tryd.underlying9
  · subst hl
    refine run_convert_bytes_back u _ _ _ ⟨g, 0, none⟩ cap l Tryd.underlying32 Tryd.underlying5 Tryd.underlying9 ?_
    intro j hj
    have hc : cur.toList[j]? = some (.int .u8 (l[j].toNat : Int)) := by
      have e : (cur.toList.take (l.length * 1))[j]? = some (.int .u8 (l[j].toNat : Int)) := by
        rw [h6]
        simp [ovC, hj]
      rw [List.getElem?_take, if_pos (by omega)] at e
      exact e
    have ea : Addr.add ⟨g, 0, none⟩ j = ⟨g, j, none⟩ := by simp [Addr.add]; omega
    rw [ea]
    unfold World.cell?
    simp only [hh]
    simpa using hc
/-- What stays while the sums are asked for. -/
def KL (w wr u : World) : Prop := HeldC w u ∧ Below wr.heap.size wr u
theorem KL.call {w wr u v : World} (h : KL w wr u) (hb : Below u.heap.size u v) : KL w wr v := ⟨h.1.call hb, thenB h.2 hb h.2.size⟩
theorem conv_y {ops : Array Oper} {a : Act} {o : Oper} {x : Operand} {w wr : World} {base k : Nat} {v : Value} {l : List UInt8} (h : wr.ownsRow base 5 1 v k (ovC l)) (ho : o.op = .convert 32 9 x) (hx : a.eval x = v)
    (hw : Region.wanted o (yielded ops a.tmps) = true) : YieldsIf Tryd.prog ops (KL w wr) o (.string ⟨l.toArray⟩) a := by
  refine Or.inl ⟨hw, fun u hu => ?_⟩
  have hc := own_conv (own_call h hu.2)
  unfold execOp
  simp only [ho, hx]
  simp [hc]
theorem xor_u32 (p q : Nat) (hp : p < 16777216) (hq : q < 16777216) : bits .xor .u32 (p : Int) (q : Int) = ((p ^^^ q : Nat) : Int) := u32_xor_nat p q (by omega) (by omega)

set_option maxHeartbeats 4000000 in
theorem crcLinear_walk (a b c : ByteArray) (w : World) (ht : TabC w) (ha : a.size ≤ 9223372036854775807) (hb : b.size ≤ 9223372036854775807) (hc : c.size ≤ 9223372036854775807) :
    Calls Tryd.prog 6 #[.string a, .string b, .string c] w fun e w' => e = .returned (.bool true) ∧ Below w.heap.size w w' := by
  have H0 := Lib.hid (HeldC.start ht)
  obtain ⟨i0, hi, hz0, hz1, hz2⟩ := info_parts' infoByte
  obtain ⟨N, hN⟩ : ∃ N, N = min (min (min a.size b.size) c.size) 100 := ⟨_, rfl⟩
  have na : N ≤ a.size := by omega
  have nb : N ≤ b.size := by omega
  have nc : N ≤ c.size := by omega
  have n100 : N ≤ 100 := by omega
  have hm := fun w => min4 #[3, 3, 3, 3] 3 a.size b.size c.size w N hN
  clear ht hN
  go_enter Tryd.func6, Tryd.ntmps6
  go_wp2_with fail
  clear hm
  go_loopw [8, 9] (fun v i wr => ∃ k : Nat, i = .int .i64 k ∧ k ≤ N ∧ wr.ownsRow w.heap.size 5 1 v k (ovC (ovB a b c k)) ∧ HeldC w wr) (fun _ i _ => N - (intOf i).toNat)
  case atStart =>
    refine ⟨0, rfl, Nat.zero_le _, ⟨by simp [ovC, ovB, over], Or.inr ⟨w.heap.size, 0, #[], rfl, Nat.le_refl _, heap_alloc_new _ _, Nat.le_refl _, by decide, rfl, by simp [ovC, ovB, over]⟩⟩, H0.out.call ((Below.refl _ w).alloc (Nat.le_refl _) _)⟩
  case round =>
    obtain ⟨k, rfl, hk, hown, hheld⟩ := hrel
    have HO := Lib.hid hown
    have HH := Lib.hid hheld
    clear hown hheld
    have kk : (0 : Int) ≤ k := by omega
    by_cases hlt : k < N
    · have b1 : decide ((k : Int) < (N : Int)) = true := by simp; omega
      have ka : k < a.size := by omega
      have kb : k < b.size := by omega
      have kc : k < c.size := by omega
      have e1 := xor_u8 a[k] b[k]
      have e2 := xor_u8 (a[k] ^^^ b[k]) c[k]
      have HV := Lib.hid (ovB_succ a b c k ka kb kc)
      go_wp2_with fail
      refine wp_region_held_drew (S := fun _ => True) (by kernel_rfl) trivial (fun _ => ?_)
      refine takeAt 0 23 (u8) rfl rfl (by kernel_rfl) (by kernel_rfl) (by kernel_rfl) (fun _ _ _ h => h) (yields (by rfl) (fun w => by kernel_rfl)) trivial ?_
      simp only [Act.put, List.setIfInBounds_toArray, List.set_cons_zero, List.set_cons_succ]
      refine takeAt 1 24 (.string a) rfl rfl (by kernel_rfl) (by kernel_rfl) (by kernel_rfl) (fun _ _ _ h => h) (yields (by rfl) (fun w => by kernel_rfl)) trivial ?_
      simp only [Act.put, List.setIfInBounds_toArray, List.set_cons_zero, List.set_cons_succ]
      refine takeAt 2 25 (.int .i64 (k : Int)) rfl rfl (by kernel_rfl) (by kernel_rfl) (by kernel_rfl) (fun _ _ _ h => h) (yields (by rfl) (fun w => by kernel_rfl)) trivial ?_
      simp only [Act.put, List.setIfInBounds_toArray, List.set_cons_zero, List.set_cons_succ]
      refine takeAt 3 26 (.int .u8 (a[k].toNat : Int)) rfl rfl (by kernel_rfl) (by kernel_rfl) (by kernel_rfl) (fun _ _ _ h => h) (strIndex_y a k ka rfl rfl rfl (by rfl)) trivial ?_
      simp only [Act.put, List.setIfInBounds_toArray, List.set_cons_zero, List.set_cons_succ]
      refine takeAt 4 27 (.string b) rfl rfl (by kernel_rfl) (by kernel_rfl) (by kernel_rfl) (fun _ _ _ h => h) (yields (by rfl) (fun w => by kernel_rfl)) trivial ?_
      simp only [Act.put, List.setIfInBounds_toArray, List.set_cons_zero, List.set_cons_succ]
      refine takeAt 5 28 (.int .i64 (k : Int)) rfl rfl (by kernel_rfl) (by kernel_rfl) (by kernel_rfl) (fun _ _ _ h => h) (yields (by rfl) (fun w => by kernel_rfl)) trivial ?_
      simp only [Act.put, List.setIfInBounds_toArray, List.set_cons_zero, List.set_cons_succ]
      refine takeAt 6 29 (.int .u8 (b[k].toNat : Int)) rfl rfl (by kernel_rfl) (by kernel_rfl) (by kernel_rfl) (fun _ _ _ h => h) (strIndex_y b k kb rfl rfl rfl (by rfl)) trivial ?_
      simp only [Act.put, List.setIfInBounds_toArray, List.set_cons_zero, List.set_cons_succ]
      refine takeAt 7 30 (.int .u8 ((a[k] ^^^ b[k]).toNat : Int)) rfl rfl (by kernel_rfl) (by kernel_rfl) (by kernel_rfl) (fun _ _ _ h => h) (xor8_y _ rfl rfl rfl e1 (by rfl)) trivial ?_
      simp only [Act.put, List.setIfInBounds_toArray, List.set_cons_zero, List.set_cons_succ]
      refine takeAt 8 31 (.string c) rfl rfl (by kernel_rfl) (by kernel_rfl) (by kernel_rfl) (fun _ _ _ h => h) (yields (by rfl) (fun w => by kernel_rfl)) trivial ?_
      simp only [Act.put, List.setIfInBounds_toArray, List.set_cons_zero, List.set_cons_succ]
      refine takeAt 9 32 (.int .i64 (k : Int)) rfl rfl (by kernel_rfl) (by kernel_rfl) (by kernel_rfl) (fun _ _ _ h => h) (yields (by rfl) (fun w => by kernel_rfl)) trivial ?_
      simp only [Act.put, List.setIfInBounds_toArray, List.set_cons_zero, List.set_cons_succ]
      refine takeAt 10 33 (.int .u8 (c[k].toNat : Int)) rfl rfl (by kernel_rfl) (by kernel_rfl) (by kernel_rfl) (fun _ _ _ h => h) (strIndex_y c k kc rfl rfl rfl (by rfl)) trivial ?_
      simp only [Act.put, List.setIfInBounds_toArray, List.set_cons_zero, List.set_cons_succ]
      refine takeAt 11 34 (.int .u8 ((a[k] ^^^ b[k] ^^^ c[k]).toNat : Int)) rfl rfl (by kernel_rfl) (by kernel_rfl) (by kernel_rfl) (fun _ _ _ h => h) (xor8_y _ rfl rfl rfl e2 (by rfl)) trivial ?_
      simp only [Act.put, List.setIfInBounds_toArray, List.set_cons_zero, List.set_cons_succ]
      clear e1 e2
      generalize a[k] ^^^ b[k] ^^^ c[k] = z at HV ⊢
      refine valAt 12 35 (.slice (some ⟨wr.heap.size, 0, none⟩) 1 1) (wr.drew.alloc (.cells #[.int .u8 (z.toNat : Int)] 5)) rfl rfl (by kernel_rfl) (by rfl) (byte_build wr.drew _ rfl rfl) trivial ?_
      simp only [Act.put, List.setIfInBounds_toArray, List.set_cons_zero, List.set_cons_succ]
      have own1 : (wr.drew.alloc (.cells #[.int .u8 (z.toNat : Int)] 5)).ownsRow w.heap.size 5 1 u8 k (ovC (ovB a b c k)) := own_call HO.out ((Below.refl _ wr).drew.alloc (Nat.le_refl _) _)
      obtain ⟨v', w', hrun, own2, hgrow, -⟩ := run_append_own (P := Tryd.prog) (wr.drew.alloc (.cells #[.int .u8 (z.toNat : Int)] 5)) w.heap.size 32 32 5 i0 (.int .u8 0) 1 1 Tryd.underlying32 hi hz0 hz1 hz2 rfl (by decide) u8 k (ovC (ovB a b c k)) own1 ⟨wr.heap.size, 0, none⟩ 1 1 [.int .u8 (z.toNat : Int)] rfl (by
        intro j u hj
        match j, hj with
        | 0, hj => simp at hj; subst hj; exact World.cell?_alloc_mark wr.drew _ _ _ 0) (by intro u hu; simp at hu; subst hu; rfl) (by unfold maxLen; omega) (by omega) (by have := HH.out.1.size; simp; omega)
      have hb3 : Below w.heap.size w w' := ((HH.out.1.drew.alloc HH.out.1.size _).grown hgrow (by have := HH.out.1.size; simp; omega) (own_from own1))
      refine valAt 13 36 v' w' rfl rfl (by kernel_rfl) (by rfl) (append_run _ _ rfl rfl rfl hrun) trivial ?_
      simp only [Act.put, List.setIfInBounds_toArray, List.set_cons_zero, List.set_cons_succ]
      refine takeAt 14 8 v' rfl rfl (by kernel_rfl) (by kernel_rfl) (by kernel_rfl) (fun _ _ _ h => h) (yields (by rfl) (fun w => by kernel_rfl)) trivial ?_
      simp only [Act.put, List.setIfInBounds_toArray, List.set_cons_zero, List.set_cons_succ]
      refine wpAnyH_done (by kernel_rfl) ?_ _
      have H2 := Lib.hid (show HeldC w w' from ⟨hb3, H0.out.2.call hb3⟩)
      have O2 := Lib.hid own2
      clear own1 own2 hgrow hb3 hrun
      go_wp2_with fail
      go_roundw
      case rel => exact ⟨k + 1, by go_num, by omega, by rw [HV.out, ovC_snoc]; exact O2.out, H2.out⟩
      case measure => simp [intOf]; omega
    · have b1 : decide ((k : Int) < (N : Int)) = false := by simp; omega
      obtain rfl : k = N := by omega
      go_wp2_with fail
      have hS : KL w wr wr.drew := ⟨HH.out.call (Below.refl _ wr).drew, (Below.refl _ wr).drew⟩
      have own := HO.out
      obtain ⟨p, hp⟩ : ∃ p, ofB (a.extract 0 k) = p := ⟨_, rfl⟩
      obtain ⟨q, hq⟩ : ∃ q, ofB (b.extract 0 k) = q := ⟨_, rfl⟩
      obtain ⟨r, hr⟩ : ∃ r, ofB (c.extract 0 k) = r := ⟨_, rfl⟩
      have hov := ovB_of a b c k na nb nc
      rw [hp, hq, hr] at hov
      have pl : p < 16777216 := by rw [← hp]; exact ofB_lt _
      have ql : q < 16777216 := by rw [← hq]; exact ofB_lt _
      have rl : r < 16777216 := by rw [← hr]; exact ofB_lt _
      have e1 := xor_u32 p q pl ql
      have e2 := xor_u32 (p ^^^ q) r (xor_lt p q pl ql) rl
      have hlen := ovB_len a b c k na nb nc
      generalize ovB a b c k = l at own hov hlen
      have sl : (ByteArray.mk l.toArray).size ≤ 1000 := by show l.toArray.size ≤ 1000; simp; omega
      have ea : (a.extract 0 k).size ≤ 1000 := by rw [ByteArray.size_extract]; omega
      have eb : (b.extract 0 k).size ≤ 1000 := by rw [ByteArray.size_extract]; omega
      have ec : (c.extract 0 k).size ≤ 1000 := by rw [ByteArray.size_extract]; omega
      refine wp_region_held_drew (S := KL w wr) (by kernel_rfl) hS (fun _ => ?_)
      refine takeAt 0 37 (.string a) rfl rfl (by kernel_rfl) (by kernel_rfl) (by kernel_rfl) (fun _ _ _ h => h) (yields (by rfl) (fun w => by kernel_rfl)) hS ?_
      simp only [Act.put, List.setIfInBounds_toArray, List.set_cons_zero, List.set_cons_succ]
      refine takeAt 1 38 (.int .i64 (k : Int)) rfl rfl (by kernel_rfl) (by kernel_rfl) (by kernel_rfl) (fun _ _ _ h => h) (yields (by rfl) (fun w => by kernel_rfl)) hS ?_
      simp only [Act.put, List.setIfInBounds_toArray, List.set_cons_zero, List.set_cons_succ]
      refine takeAt 2 39 (.string (a.extract 0 k)) rfl rfl (by kernel_rfl) (by kernel_rfl) (by kernel_rfl) (fun _ _ _ h => h) (strSlice_y a k na rfl rfl rfl (by rfl)) hS ?_
      simp only [Act.put, List.setIfInBounds_toArray, List.set_cons_zero, List.set_cons_succ]
      refine takeAt 4 41 (.string b) rfl rfl (by kernel_rfl) (by kernel_rfl) (by kernel_rfl) (fun _ _ _ h => h) (yields (by rfl) (fun w => by kernel_rfl)) hS ?_
      simp only [Act.put, List.setIfInBounds_toArray, List.set_cons_zero, List.set_cons_succ]
      refine takeAt 5 42 (.int .i64 (k : Int)) rfl rfl (by kernel_rfl) (by kernel_rfl) (by kernel_rfl) (fun _ _ _ h => h) (yields (by rfl) (fun w => by kernel_rfl)) hS ?_
      simp only [Act.put, List.setIfInBounds_toArray, List.set_cons_zero, List.set_cons_succ]
      refine takeAt 6 43 (.string (b.extract 0 k)) rfl rfl (by kernel_rfl) (by kernel_rfl) (by kernel_rfl) (fun _ _ _ h => h) (strSlice_y b k nb rfl rfl rfl (by rfl)) hS ?_
      simp only [Act.put, List.setIfInBounds_toArray, List.set_cons_zero, List.set_cons_succ]
      refine takeAt 9 46 (.string c) rfl rfl (by kernel_rfl) (by kernel_rfl) (by kernel_rfl) (fun _ _ _ h => h) (yields (by rfl) (fun w => by kernel_rfl)) hS ?_
      simp only [Act.put, List.setIfInBounds_toArray, List.set_cons_zero, List.set_cons_succ]
      refine takeAt 10 47 (.int .i64 (k : Int)) rfl rfl (by kernel_rfl) (by kernel_rfl) (by kernel_rfl) (fun _ _ _ h => h) (yields (by rfl) (fun w => by kernel_rfl)) hS ?_
      simp only [Act.put, List.setIfInBounds_toArray, List.set_cons_zero, List.set_cons_succ]
      refine takeAt 11 48 (.string (c.extract 0 k)) rfl rfl (by kernel_rfl) (by kernel_rfl) (by kernel_rfl) (fun _ _ _ h => h) (strSlice_y c k nc rfl rfl rfl (by rfl)) hS ?_
      simp only [Act.put, List.setIfInBounds_toArray, List.set_cons_zero, List.set_cons_succ]
      refine takeAt 14 51 (u8) rfl rfl (by kernel_rfl) (by kernel_rfl) (by kernel_rfl) (fun _ _ _ h => h) (yields (by rfl) (fun w => by kernel_rfl)) hS ?_
      simp only [Act.put, List.setIfInBounds_toArray, List.set_cons_zero, List.set_cons_succ]
      refine takeAt 15 52 (.string ⟨l.toArray⟩) rfl rfl (by kernel_rfl) (by kernel_rfl) (by kernel_rfl) (fun _ _ _ h => h) (conv_y own rfl rfl (by rfl)) hS ?_
      simp only [Act.put, List.setIfInBounds_toArray, List.set_cons_zero, List.set_cons_succ]
      refine callAt 3 40 rfl rfl (by kernel_rfl) (by rfl) (by kernel_rfl) (of_k p (a.extract 0 k) _ hS.1.2 ea hp) ?_
      rintro e w' ⟨rfl, hb⟩
      refine ⟨_, rfl, hS.call hb, ?_⟩
      have hT1 := hS.call hb
      clear hS hb
      simp only [Act.put, List.setIfInBounds_toArray, List.set_cons_zero, List.set_cons_succ]
      refine callAt 7 44 rfl rfl (by kernel_rfl) (by rfl) (by kernel_rfl) (of_k q (b.extract 0 k) _ hT1.1.2 eb hq) ?_
      rintro e w' ⟨rfl, hb⟩
      refine ⟨_, rfl, hT1.call hb, ?_⟩
      have hT2 := hT1.call hb
      clear hT1 hb
      simp only [Act.put, List.setIfInBounds_toArray, List.set_cons_zero, List.set_cons_succ]
      refine takeAt 8 45 (.int .u32 ((p ^^^ q : Nat) : Int)) rfl rfl (by kernel_rfl) (by kernel_rfl) (by kernel_rfl) (fun _ _ _ h => h) (xor32_y _ rfl rfl rfl e1 (by rfl)) hT2 ?_
      simp only [Act.put, List.setIfInBounds_toArray, List.set_cons_zero, List.set_cons_succ]
      refine callAt 12 49 rfl rfl (by kernel_rfl) (by rfl) (by kernel_rfl) (of_k r (c.extract 0 k) _ hT2.1.2 ec hr) ?_
      rintro e w' ⟨rfl, hb⟩
      refine ⟨_, rfl, hT2.call hb, ?_⟩
      have hT3 := hT2.call hb
      clear hT2 hb
      simp only [Act.put, List.setIfInBounds_toArray, List.set_cons_zero, List.set_cons_succ]
      refine takeAt 13 50 (.int .u32 ((p ^^^ q ^^^ r : Nat) : Int)) rfl rfl (by kernel_rfl) (by kernel_rfl) (by kernel_rfl) (fun _ _ _ h => h) (xor32_y _ rfl rfl rfl e2 (by rfl)) hT3 ?_
      simp only [Act.put, List.setIfInBounds_toArray, List.set_cons_zero, List.set_cons_succ]
      refine callAt 16 53 rfl rfl (by kernel_rfl) (by rfl) (by kernel_rfl) (of_k (p ^^^ q ^^^ r) ⟨l.toArray⟩ _ hT3.1.2 sl hov.symm) ?_
      rintro e w' ⟨rfl, hb⟩
      refine ⟨_, rfl, hT3.call hb, ?_⟩
      have hT4 := hT3.call hb
      clear hT3 hb
      simp only [Act.put, List.setIfInBounds_toArray, List.set_cons_zero, List.set_cons_succ]
      refine takeAt 17 54 (.bool true) rfl rfl (by kernel_rfl) (by kernel_rfl) (by kernel_rfl) (fun _ _ _ h => h) (eql32_y true rfl rfl rfl (by simp) (by rfl)) hT4 ?_
      simp only [Act.put, List.setIfInBounds_toArray, List.set_cons_zero, List.set_cons_succ]
      refine takeAt 18 55 (.bool true) rfl rfl (by kernel_rfl) (by kernel_rfl) (by kernel_rfl) (fun _ _ _ h => h) (yields (by rfl) (fun w => by kernel_rfl)) hT4 ?_
      simp only [Act.put, List.setIfInBounds_toArray, List.set_cons_zero, List.set_cons_succ]
      refine callAt 19 56 rfl rfl (by kernel_rfl) (by rfl) (by kernel_rfl) (fixed_any _ hT4.1.2) ?_
      rintro e w' ⟨rfl, hb⟩
      refine ⟨_, rfl, hT4.call hb, ?_⟩
      have hT5 := hT4.call hb
      clear hT4 hb
      simp only [Act.put, List.setIfInBounds_toArray, List.set_cons_zero, List.set_cons_succ]
      refine takeAt 20 57 (.bool true) rfl rfl (by kernel_rfl) (by kernel_rfl) (by kernel_rfl) (fun _ _ _ h => h) (yields (by rfl) (fun w => by kernel_rfl)) hT5 ?_
      simp only [Act.put, List.setIfInBounds_toArray, List.set_cons_zero, List.set_cons_succ]
      refine takeAt 21 6 (.bool true) rfl rfl (by kernel_rfl) (by kernel_rfl) (by kernel_rfl) (fun _ _ _ h => h) (yields (by rfl) (fun w => by kernel_rfl)) hT5 ?_
      simp only [Act.put, List.setIfInBounds_toArray, List.set_cons_zero, List.set_cons_succ]
      refine wpAnyH_done (by kernel_rfl) ?_ _
      go_wp2
      go_ret
      exact ⟨rfl, hT5.1.1⟩
end Go.Proofs.YtdpdokjoinhjpaaDoor
