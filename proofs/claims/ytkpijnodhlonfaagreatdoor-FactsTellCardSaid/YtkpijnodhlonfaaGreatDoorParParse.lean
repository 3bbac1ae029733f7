/-
  Layer 7, the landed code: Parse.
-/
import Derived.Test.YtkpijnodhlonfaaGreatDoorParBuilt
import Derived.Test.YtkpijnodhlonfaaGreatDoorLexToks
namespace Go.Proofs.YtkpijnodhlonfaaGreatDoor
open Go.RowKit
open Ast (Nd ndV joinL wrapL deepZ rightZ Nodes)

theorem flags_f (p : ByteArray) : ∀ (f i : Nat) (s : List UInt8), s.length ≤ i → i ≤ p.size → (flagsF p f i s).1.f.size ≤ p.size := by
  intro f
  induction f with
  | zero => intro i s _ _; exact Nat.zero_le _
  | succ f ih =>
    intro i s h1 h2
    unfold flagsF
    split
    · rename_i hi
      split
      · show s.toArray.size ≤ p.size
        simp
        omega
      · split
        · exact Nat.zero_le _
        · split
          · exact Nat.zero_le _
          · exact ih (i + 1) _ (by rw [List.length_append]; show s.length + 1 ≤ i + 1; omega) hi
    · exact Nat.zero_le _
theorem head_f (p : ByteArray) (i : Nat) : ∀ (l : List (List Nat × Int)) x, headF p i l = some x → x.1.f.size = 0
  | [], x, h => by cases h
  | y :: l, x, h => by
    rw [headF] at h
    split at h
    · cases h
      rfl
    · exact head_f p i l x h
theorem mode_f (p : ByteArray) (x : TokR) : (modeZ p x).1.f = x.1.f := by
  unfold modeZ
  split
  · rfl
  · split <;> rfl
theorem brace_f (p : ByteArray) (i : Nat) : (bracesZ p i).1.f.size = 0 := by
  unfold bracesZ
  simp only []
  split
  · rfl
  · generalize (ite (bt p (countZ p (i + 1)).2 = 44) _ _ : Int × Nat) = b
    split
    · rfl
    · split
      · rfl
      · split <;> rfl
theorem quant_f (p : ByteArray) (i : Nat) : (quantZ p i).1.f.size = 0 := by
  unfold quantZ
  split
  · split
    · rw [mode_f]; exact brace_f p i
    · rfl
  · rw [mode_f]; rfl
theorem tok_f (p : ByteArray) (i : Nat) : (tokZ p i).1.f.size ≤ p.size := by
  unfold tokZ
  split
  · rename_i x hx
    rw [head_f p i _ x hx]
    exact Nat.zero_le _
  · split
    · rename_i hq
      have h2 : bt p (i + 1) = 63 := by
        simp [headB] at hq
        exact hq.2
      have := bt_in (p := p) (i := i + 1) (by omega)
      exact flags_f p _ (i + 2) [] (Nat.zero_le _) (by omega)
    · split
      · exact Nat.zero_le _
      · split
        · rw [quant_f]; exact Nat.zero_le _
        · split
          · exact Nat.zero_le _
          · split
            · exact Nat.zero_le _
            · split
              · exact Nat.zero_le _
              · split
                · exact Nat.zero_le _
                · split <;> exact Nat.zero_le _
theorem toks_f (p : ByteArray) : ∀ t ∈ (lexZ p).1, t.f.size ≤ 1000 := by
  unfold lexZ
  split
  · intro t ht; cases ht
  · rename_i hp
    have H : ∀ (f i : Nat) (l : List Tok), (∀ t ∈ l, t.f.size ≤ 1000) → ∀ t ∈ (lexF p f i l).1, t.f.size ≤ 1000 := by
      intro f
      induction f with
      | zero => intro i l h; exact h
      | succ f ih =>
        intro i l h
        rw [lexF]
        split
        · exact h
        · split
          · intro t ht; cases ht
          · refine ih _ _ fun t ht => ?_
            rcases List.mem_append.1 ht with h1 | h1
            · exact h t h1
            · obtain rfl : t = (tokZ p i).1 := by simpa using h1
              exact Nat.le_trans (tok_f p i) (by omega)
    exact H _ _ _ (fun t ht => by cases ht)
theorem toks_le (p : ByteArray) : (lexZ p).1.length ≤ 1000 := by
  by_cases h : 1000 < p.size
  · unfold lexZ
    rw [if_pos h]
    exact Nat.zero_le _
  · exact toks_len p (by omega)
theorem fl_lex (p : ByteArray) : Fl ByteArray.empty 0 (lexZ p).1 :=
  ⟨by have := toks_le p; omega, by have := toks_le p; omega, by have := toks_le p; show 0 + _ ≤ _; omega, toks_f p⟩
theorem own_cap {w : World} {base : Nat} {A : Option Addr} {n cap : Nat} {T : TypeId} {xs : List Value} {size : Nat} (h : w.ownsRow base T size (.slice A n cap) n xs) : n ≤ cap := by
  rcases h.2 with ⟨h1, h2⟩ | ⟨g, c, cur, h1, -, -, h3, -⟩
  · omega
  · cases h1
    exact h3
theorem treeZ_no {l : List Tok} (h : scanF l 0 false = false) : treeZ l = ((0, fun _ => nd0 0), 3) := by unfold treeZ; rw [if_pos h]
theorem treeZ_yes {l : List Tok} (h : scanF l 0 false = true) : treeZ l = if (builtZ l).2 ≠ 0 then ((0, fun _ => nd0 0), (builtZ l).2) else if rightZ (builtZ l).1.2 (builtZ l).1.1 = 0 then builtZ l else ((0, fun _ => nd0 0), rightZ (builtZ l).1.2 (builtZ l).1.1) := by
  unfold treeZ builtZ
  rw [if_neg (by rw [h]; decide)]
  cases altF (6 * l.length + 6) ByteArray.empty 0 l with
  | out => rfl
  | deep => rfl
  | got t g l => rfl
theorem builtZ_le (l : List Tok) : (builtZ l).1.1 ≤ 2 * l.length + 1 := by
  unfold builtZ
  cases h : altF (6 * l.length + 6) ByteArray.empty 0 l with
  | out => exact Nat.zero_le _
  | deep => exact Nat.zero_le _
  | got t g l1 =>
    have := ((rd_part _).1 _ _ _ _ _ _ h).len
    show t.1 ≤ _
    omega
/-- What the library does. -/
structure PKit : Prop where
  errs : ErrsOk
  clone : CloneOk
  has : HasOk
  sort : Ast.SortOk
  none : Ast.SortNone
/-- A tree and what is wrong. -/
def GotTree (w : World) (R : Tr × Int) (e : Ending) (w' : World) : Prop := ∃ B cap, e = .returned (.tuple #[.agg (trC B R.1.1 cap), .int .i64 R.2]) ∧ TreeAt w w' B cap R.1 ∧ Below w.heap.size w w'
theorem resTI {fn : Func} {p q : Tmp} (h : fn.results = #[.cell p 24, .tmp q]) (tmps : Array Value) {w : World} {g : Nat} {A : Option Addr} {n cap : Nat} {v : Value} (hp : tmps.getD p undef = .pointer (some ⟨g, 0, none⟩)) (hq : tmps.getD q undef = v) (hg : BoxV 24 w g (trC A n cap)) :
    (results fn tmps).run Tryz.prog w = .ok (.tuple #[.agg (trC A n cap), v]) w := by
  have hp' : tmps[p]?.getD undef = .pointer (some ⟨g, 0, none⟩) := by simpa using hp
  have hq' : tmps[q]?.getD undef = v := by simpa using hq
  have hl : w.cell? ⟨g, 0, none⟩ = some (.slice A n cap) := (cell_of_row w g 0 _ _ _ hg).trans rfl
  simp [results, h, hp', hq', asAddr, go_sem, hl]
theorem none_tree (w w' : World) (f : Nat → Nd) : TreeAt w w' none 0 (0, f) := ⟨fun i hi => absurd hi (Nat.not_lt_zero i), fun _ => ⟨rfl, rfl⟩, fun a ha => by cases ha⟩
set_option maxRecDepth 100000 in
set_option maxHeartbeats 8000000 in
theorem parse_any (K : PKit) (p : ByteArray) (w : World) (hw : Tabs w) : Calls Tryz.prog 54 #[.string p] w (GotTree w (parseZ p)) := by
  have HZ : Hid (BoxV 24 (zTr w) w.heap.size (trC none 0 0)) := Lib.hid (BoxV.new _ _)
  have HL := Lib.hid (lex_any K.errs K.clone p (zTr w) (hw.alloc _).err (hw.alloc _).tab (hw.alloc _).op)
  have HFl := Lib.hid (fl_lex p)
  have HK := Lib.hid K
  unfold parseZ
  obtain ⟨Z, hZ⟩ : ∃ Z, Z = lexZ p := ⟨_, rfl⟩
  rw [← hZ] at HL HFl ⊢
  clear hZ hw K
  obtain ⟨l, er⟩ := Z
  simp only [] at HFl ⊢
  go_enter Tryz.func54, Tryz.ntmps54
  go_wp2_with fail
  with_reducible refine HL.out.mono ?_
  rintro e w1 ⟨v1, rfl, ho1, hb⟩
  obtain ⟨A, cap, rfl, htk, -⟩ := own_toks ho1
  have HC := Lib.hid (own_cap ho1)
  have HT1 := Lib.hid htk
  have HZ1 := Lib.hid (HZ.out.below hb HZ.out.lt)
  have HB1 := Lib.hid (((Below.refl w.heap.size w).alloc (Nat.le_refl _) (.cells (trC none 0 0) 24)).trans (hb.mono (by simp)))
  clear ho1 htk hb HL
  simp only [] at HC HT1 ⊢
  by_cases he : er = 0
  · subst he
    have HSc := Lib.hid (scan_any A cap l w1 HFl.out.len HT1.out)
    cases hs : scanF l 0 false with
    | false =>
      have HR := Lib.hid (treeZ_no hs)
      rw [hs] at HSc
      go_wp2_with fail
      with_reducible refine HSc.out.mono ?_
      rintro e w2 ⟨rfl, hb⟩
      have HZ2 := Lib.hid (HZ1.out.below hb HZ1.out.lt)
      have HB2 := Lib.hid (thenB HB1.out hb HB1.out.size)
      clear hb
      go_wp2_with (refine storeTr rfl _ _ rfl w.heap.size _ none 0 0 rfl rfl rfl HZ2.out ?_)
      refine bodyPost_ret (resTI (p := 2) (q := 3) (A := none) (n := 0) (cap := 0) (v := .int .i64 3) rfl _ (g := w.heap.size) rfl rfl (HZ2.out.rowSame _)) rfl ?_
      unfold GotTree
      rw [HR.out]
      exact ⟨none, 0, rfl, none_tree _ _ _, below_row HB2.out (Nat.le_refl _) _⟩
    | true =>
      have HR := Lib.hid (treeZ_yes hs)
      have hbl := builtZ_le l
      have HBu := Lib.hid (fun u (hu : Toks u A l) => built_any HK.out.has A cap l u HFl.out HC.out hu hs)
      rw [hs] at HSc
      clear hs
      obtain ⟨X, hX⟩ : ∃ X, X = builtZ l := ⟨_, rfl⟩
      rw [← hX] at HR HBu hbl
      clear hX
      have HBl := Lib.hid (show X.1.1 ≤ 4001 by have := HFl.out.len; omega)
      clear hbl
      go_wp2_with fail
      with_reducible refine HSc.out.mono ?_
      rintro e w2 ⟨rfl, hb⟩
      have HZ2 := Lib.hid (HZ1.out.below hb HZ1.out.lt)
      have HB2 := Lib.hid (thenB HB1.out hb HB1.out.size)
      have HT2 := Lib.hid (HT1.out.below hb (Nat.le_refl _))
      clear hb
      go_wp2_with fail
      with_reducible refine (HBu.out _ HT2.out).mono ?_
      obtain ⟨t, eb⟩ := X
      rintro e w3 ⟨B, n, cap3, rfl, rfl, ht, hb⟩
      have HT3 := Lib.hid ht
      have HZ3 := Lib.hid (HZ2.out.below hb HZ2.out.lt)
      have HB3 := Lib.hid (thenB HB2.out hb HB2.out.size)
      have hw2 : w.heap.size < w2.heap.size := HZ2.out.lt
      clear hb ht
      simp only [] at HT3 HR HBl ⊢
      go_wp2_with (refine storeNewTr rfl _ _ rfl w3 B t.1 cap3 rfl rfl rfl ?_; intro w4 hx hN; refine stopP ?_)
      unfold StopP
      have HT4 := Lib.hid (HT3.out.but (ButR.of (g := w.heap.size) hN.out) hw2)
      have HZ4 := Lib.hid (HZ3.out.below hN.out HZ3.out.lt)
      have HB4 := Lib.hid (thenB HB3.out hN.out HB3.out.size)
      have HX4 := Lib.hid hx.out
      clear hx hN
      by_cases hb0 : eb = 0
      · subst hb0
        go_wp2_with (refine loadTr rfl _ rfl w3.heap.size B t.1 cap3 rfl HX4.out ?_)
        refine (Ast.right_any HK.out.sort HK.out.none B t.1 cap3 t.2 _ (by have := HBl.out; omega) HT4.out.nodes).mono ?_
        rintro e w5 ⟨rfl, hb⟩
        have HT5 := Lib.hid (HT4.out.but (ButR.of (g := w.heap.size) hb) hw2)
        have HZ5 := Lib.hid (HZ4.out.below hb HZ4.out.lt)
        have HB5 := Lib.hid (thenB HB4.out hb HB4.out.size)
        have HX5 := Lib.hid (HX4.out.below hb HX4.out.lt)
        have hw3 : w.heap.size < w3.heap.size := HZ3.out.lt
        clear hb
        obtain ⟨z, hz⟩ : ∃ z, z = rightZ t.2 t.1 := ⟨_, rfl⟩
        rw [← hz] at HR ⊢
        clear hz
        by_cases hz0 : z = 0
        · subst hz0
          have HRz := Lib.hid (HR.out.trans (show (if (0 : Int) ≠ 0 then ((0, fun _ => nd0 0), (0 : Int)) else if (0 : Int) = 0 then (t, (0 : Int)) else ((0, fun _ => nd0 0), 0)) = (t, 0) from rfl))
          go_wp2_with (first | (refine loadTr rfl _ rfl w3.heap.size B t.1 cap3 rfl HX5.out ?_) | (refine storeTr rfl _ _ rfl w.heap.size _ B t.1 cap3 rfl rfl rfl HZ5.out ?_))
          refine bodyPost_ret (resTI (p := 2) (q := 3) (A := B) (n := t.1) (cap := cap3) (v := .int .i64 0) rfl _ (g := w.heap.size) rfl rfl (HZ5.out.rowSame _)) rfl ?_
          unfold GotTree
          rw [HRz.out]
          exact ⟨B, cap3, rfl, (HT5.out.row hw2 _).old (by omega), below_row HB5.out (Nat.le_refl _) _⟩
        · have HRz := Lib.hid (HR.out.trans (show (if (0 : Int) ≠ 0 then ((0, fun _ => nd0 0), (0 : Int)) else if z = 0 then (t, (0 : Int)) else ((0, fun _ => nd0 0), z)) = ((0, fun _ => nd0 0), z) by rw [if_neg (by decide), if_neg hz0]))
          go_wp2_with (refine storeTr rfl _ _ rfl w.heap.size _ none 0 0 rfl rfl rfl HZ5.out ?_)
          refine bodyPost_ret (resTI (p := 2) (q := 3) (A := none) (n := 0) (cap := 0) (v := .int .i64 z) rfl _ (g := w.heap.size) rfl rfl (HZ5.out.rowSame _)) rfl ?_
          unfold GotTree
          rw [HRz.out]
          exact ⟨none, 0, rfl, none_tree _ _ _, below_row HB5.out (Nat.le_refl _) _⟩
      · have HRz := Lib.hid (HR.out.trans (if_pos hb0))
        go_wp2_with (refine storeTr rfl _ _ rfl w.heap.size _ none 0 0 rfl rfl rfl HZ4.out ?_)
        refine bodyPost_ret (resTI (p := 2) (q := 3) (A := none) (n := 0) (cap := 0) (v := .int .i64 eb) rfl _ (g := w.heap.size) rfl rfl (HZ4.out.rowSame _)) rfl ?_
        unfold GotTree
        rw [HRz.out]
        exact ⟨none, 0, rfl, none_tree _ _ _, below_row HB4.out (Nat.le_refl _) _⟩
  · clear HC HT1
    go_wp2_with (refine storeTr rfl _ _ rfl w.heap.size _ none 0 0 rfl rfl rfl HZ1.out ?_)
    refine bodyPost_ret (resTI (p := 2) (q := 3) (A := none) (n := 0) (cap := 0) (v := .int .i64 er) rfl _ (g := w.heap.size) rfl rfl (HZ1.out.rowSame _)) rfl ?_
    unfold GotTree
    exact ⟨none, 0, rfl, none_tree _ _ _, below_row HB1.out (Nat.le_refl _) _⟩
end Go.Proofs.YtkpijnodhlonfaaGreatDoor
