/-
  What Set.Ranges does: eachRun goes through the bytes and hands each run to the closure, which appends it.
-/
import Derived.Test.YtobhhhopkkcdiaaDoorClassE
import Derived.Test.YtobhhhopkkcdiaaDoorRuns
namespace Go.Proofs.YtobhhhopkkcdiaaDoor
open Go.RowKit

/-- What a call of the closure may turn: the variable in block g, and rows of runs from base on; nothing else that was there. -/
structure Kept (base g : Nat) (w w' : World) : Prop where
  os : w'.os = w.os
  tape : w'.tape = w.tape
  output : w'.output = w.output
  size : w.heap.size ≤ w'.heap.size
  block : ∀ k, k < w.heap.size → k ≠ g → (k < base ∨ ∀ cs fr, w.heap[k]? ≠ some (.cells cs 53 fr)) → w'.heap[k]? = w.heap[k]?
theorem Kept.refl (base g : Nat) (w : World) : Kept base g w w := ⟨rfl, rfl, rfl, Nat.le_refl _, fun _ _ _ _ => rfl⟩
theorem Kept.trans {base g : Nat} {a b c : World} (h : Kept base g a b) (k : Kept base g b c) : Kept base g a c :=
  ⟨k.os.trans h.os, k.tape.trans h.tape, k.output.trans h.output, Nat.le_trans h.size k.size, fun i hi hg ho => by
    have e := h.block i hi hg ho
    have e2 := k.block i (Nat.lt_of_lt_of_le hi h.size) hg (by rw [e]; exact ho)
    exact e2.trans e⟩
theorem Kept.of_below {base g : Nat} {w w' : World} (h : Below w.heap.size w w') : Kept base g w w' := ⟨h.os, h.tape, h.output, h.size, fun k hk _ _ => h.block k hk⟩
theorem Kept.below {base g B : Nat} {w w' : World} (h : Kept base g w w') (hB : B ≤ base) (hg : B ≤ g) (hs : B ≤ w.heap.size) : Below B w w' :=
  ⟨h.os, h.tape, h.output, h.size, fun k hk => h.block k (by omega) (by omega) (Or.inl (by omega))⟩
theorem Kept.box {base g k : Nat} {w w' : World} {S : BitVec 256} (h : Kept base g w w') (hb : Box w k S) (hk : k ≠ g) : Box w' k S :=
  (h.block k hb.lt hk (Or.inr fun cs fr e => by unfold Box at hb; rw [hb] at e; simp at e)).trans hb

theorem infoPair : (Tryd.prog.info? 53).map (fun i => (i.zero, i.size, i.bytes)) = some (some (.agg #[.int .u8 0, .int .u8 0]), 2, 2) := by kernel_rfl

/-- The variable in block g holds a slice that owns the runs l. -/
def Holds (base g : Nat) (w : World) (l : List (Nat × Nat)) : Prop :=
  ∃ v, w.heap[g]? = some (.cells #[v] 37 (0, 0)) ∧ w.ownsRow base 53 2 v l.length (runCells l)

theorem own_ne {w : World} {base g n : Nat} {v : Value} {xs : List Value} {cs : Array Value} {t : TypeId} {fr : Nat × Nat} (hown : w.ownsRow base 53 2 v n xs) (hg : w.heap[g]? = some (.cells cs t fr)) (ht : t ≠ 53) : some g ≠ v.ownBlock := by
  intro e
  obtain ⟨_, h2⟩ := hown
  rcases h2 with ⟨rfl, _⟩ | ⟨r, cap, cur, rfl, _, hr, _⟩
  · simp [Value.ownBlock] at e
  · simp only [Value.ownBlock, Option.some.injEq] at e
    subst e
    rw [hg] at hr
    simp at hr
    exact ht hr.2.1
theorem own_slice {w : World} {base n : Nat} {v : Value} {xs : List Value} (hown : w.ownsRow base 53 2 v n xs) : ∃ ao m c, v = .slice ao m c := by
  obtain ⟨_, h2⟩ := hown
  rcases h2 with ⟨rfl, _⟩ | ⟨r, cap, cur, rfl, _⟩
  · exact ⟨_, _, _, rfl⟩
  · exact ⟨_, _, _, rfl⟩
theorem own_base {w : World} {base n : Nat} {v : Value} {xs : List Value} (hown : w.ownsRow base 53 2 v n xs) (k : Nat) (h : v.ownBlock = some k) : base ≤ k ∧ ∃ cs, w.heap[k]? = some (.cells cs 53 (0, 0)) := by
  obtain ⟨_, h2⟩ := hown
  rcases h2 with ⟨rfl, _⟩ | ⟨r, cap, cur, rfl, hb, hr, _⟩
  · simp [Value.ownBlock] at h
  · simp only [Value.ownBlock, Option.some.injEq] at h
    subst h
    exact ⟨hb, cur, hr⟩
theorem Kept.grown {base g n : Nat} {w w' : World} {v : Value} {xs : List Value} (hown : w.ownsRow base 53 2 v n xs) (h : w.grownBy w' v.ownBlock) : Kept base g w w' :=
  ⟨h.os, h.tape, h.output, h.size, fun k hk _ ho => h.block k hk fun e => by
    obtain ⟨hb, cs, hr⟩ := own_base hown k e.symm
    rcases ho with ho | ho
    · omega
    · exact ho cs _ hr⟩
theorem Kept.setCell {base g : Nat} (w : World) (v : Value) : Kept base g w (w.setCell ⟨g, 0, none⟩ v) :=
  ⟨rfl, rfl, rfl, by simp [World.setCell], fun k _ hg _ => Below.heap_setCell _ _ _ _ hg⟩

set_option maxHeartbeats 1000000 in
theorem tell_any (a b g base : Nat) (l : List (Nat × Nat)) (w : World) (hl : l.length ≤ 300) (hbase : base ≤ w.heap.size) (h : Holds base g w l) :
    Calls Tryd.prog 39 #[.int .u8 a, .int .u8 b, .pointer (some ⟨g, 0, none⟩)] w fun e w' => e = .returned (.tuple #[]) ∧ Holds base g w' (l ++ [(a, b)]) ∧ Kept base g w w' := by
  obtain ⟨v, hg, hown⟩ := h
  have hc := cell_of_one hg
  have hf := free_of_one hg
  have HG := Lib.hid hg
  have HL := Lib.hid hl
  have HBs := Lib.hid hbase
  have HO := Lib.hid hown
  clear hg hl hbase hown
  obtain ⟨i0, hi, hz0, hz1, hz2⟩ := info_parts infoPair
  go_enter Tryd.func39, Tryd.ntmps39
  go_wp2_with (at_builtin; refine wpList_append_own _ rfl _ _ 37 rfl base 53 i0 (.agg #[.int .u8 0, .int .u8 0]) 2 2 Tryd.underlying37 hi hz0 hz1 hz2 rfl (by decide) _ _ _ rfl (HO.out.alloc _) ⟨w.heap.size, 0, none⟩ 1 1 [.int .u8 a, .int .u8 b] rfl rfl ?c1 ?c2 ?c3 ?c4 ?c5 ?_)
  case c1 =>
    intro j u hj
    match j, hj with
    | 0, hj => simp at hj; subst hj; simp [Addr.add]
    | 1, hj => simp at hj; subst hj; simp [Addr.add]
  case c2 => intro u hu; simp at hu; rcases hu with rfl | rfl <;> rfl
  case c3 => have := HL.out; unfold maxLen; omega
  case c4 => have := HL.out; omega
  case c5 => have := HBs.out; simp; omega
  intro v' w1 hown' hgrow _
  obtain ⟨ao, m', c', rfl⟩ := own_slice hown'
  have hga : (w.alloc (.cells #[.int .u8 a, .int .u8 b] 53)).heap[g]? = some (.cells #[v] 37 (0, 0)) := (Below.heap_alloc _ _ _ (lt_of_block HG.out)).trans HG.out
  have hg1 := (hgrow.block g (lt_of_block hga) (own_ne HO.out HG.out (by decide))).trans hga
  have hc1 := cell_of_one hg1
  have hf1 := free_of_one hg1
  have K := Lib.hid ((Kept.of_below (base := base) (g := g) ((Below.refl _ w).alloc (Nat.le_refl _) (.cells #[.int .u8 a, .int .u8 b] 53))).trans (Kept.grown (HO.out.alloc _) hgrow))
  have HO1 := Lib.hid hown'
  have HG1 := Lib.hid hg1
  clear hown' hgrow hga hg1 hc hf
  go_wp2
  go_end0
  refine ⟨rfl, ⟨_, one_setCell HG1.out, ?_⟩, K.out.trans (Kept.setCell _ _)⟩
  rw [runCells_snoc, List.length_append]
  exact ownsRow_setCell_other HO1.out (Ne.symm (own_ne HO1.out HG1.out (by decide))) _

theorem Holds.call {base g : Nat} {w w' : World} {l : List (Nat × Nat)} (h : Holds base g w l) (hb : Below w.heap.size w w') : Holds base g w' l := by
  obtain ⟨v, hg, h1, h2⟩ := h
  refine ⟨v, (hb.block g (lt_of_block hg)).trans hg, h1, ?_⟩
  rcases h2 with h2 | ⟨r, cap, cur, hv, hr, hh, rest⟩
  · exact Or.inl h2
  · exact Or.inr ⟨r, cap, cur, hv, hr, (hb.block r (lt_of_block hh)).trans hh, rest⟩
theorem Holds.lt {base g : Nat} {w : World} {l : List (Nat × Nat)} (h : Holds base g w l) : g < w.heap.size := by
  obtain ⟨v, hg, _⟩ := h
  exact lt_of_block hg

set_option maxHeartbeats 2000000 in
set_option maxRecDepth 100000 in
theorem each_any (S : BitVec 256) (g base : Nat) (w : World) (hbase : base ≤ w.heap.size) (h : Holds base g w []) :
    Calls Tryd.prog 38 #[setV S, .func (.func 39) #[] #[.pointer (some ⟨g, 0, none⟩)]] w fun e w' => e = .returned (.tuple #[]) ∧ Holds base g w' (runs S) ∧ Kept base g w w' := by
  have HBs := Lib.hid hbase
  have HH := Lib.hid h
  clear hbase h
  go_enter Tryd.func38, Tryd.ntmps38
  go_wp2
  go_loopw [4] (fun v wr => ∃ k : Nat, v = .int .i64 k ∧ k ≤ 256 ∧ (mem S k = true → k = 0 ∨ S.getLsbD (k - 1) = false) ∧ Box wr w.heap.size S ∧ Holds base g wr (runsTo S k) ∧ Kept base g w wr) (fun v _ => 256 - (intOf v).toNat)
  case atStart => exact ⟨0, rfl, by omega, fun _ => Or.inl rfl, Box.new w S, HH.out.call ((Below.refl _ w).alloc (Nat.le_refl _) _), Kept.of_below ((Below.refl _ w).alloc (Nat.le_refl _) _)⟩
  case round =>
    obtain ⟨k, rfl, hk, hst, hbx, hho, hke⟩ := hrel
    have HST := Lib.hid hst
    have HO := Lib.hid hho
    have HK := Lib.hid hke
    clear hst hho hke
    by_cases hlt : k < 256
    · obtain ⟨c0, c1, c2, c3⟩ := hbx.cells
      have HX := Lib.hid hbx
      clear hbx
      have b1 : decide ((k : Int) < 256) = true := by simp; omega
      go_wp2_with fail
      refine (has_any S _ _ (by omega) (by omega)).mono ?_
      rintro e w1 ⟨rfl, hb⟩
      rw [Int.toNat_natCast]
      have hx1 := HX.out.call hb
      have hh1 := HO.out.call hb
      have hk1 := HK.out.trans (Kept.of_below hb)
      clear hb HX HO HK c0 c1 c2 c3
      have HO := Lib.hid hh1
      have HK := Lib.hid hk1
      clear hh1 hk1
      by_cases hS : mem S k = true
      · have HX := Lib.hid hx1
        clear hx1
        go_wp2_with fail
        obtain ⟨wo, rfl⟩ : ∃ wo : World, wo = wr := ⟨_, rfl⟩
        go_loopw [4] (fun v wr => ∃ j : Nat, v = .int .i64 j ∧ k ≤ j ∧ j ≤ 255 ∧ (∀ m, k < m → m ≤ j → S.getLsbD m = true) ∧ Box wr w.heap.size S ∧ Holds base g wr (runsTo S k) ∧ Kept base g w wr) (fun v _ => 256 - (intOf v).toNat)
        case atStart => exact ⟨k, rfl, Nat.le_refl _, by omega, fun m a b => by omega, HX.out, HO.out, HK.out⟩
        case round =>
          obtain ⟨j, rfl, hkj, hj, hall, hbx2, hho2, hke2⟩ := hrel
          have HA := Lib.hid hall
          have HO2 := Lib.hid hho2
          have HK2 := Lib.hid hke2
          clear hall hho2 hke2
          by_cases hj2 : j < 255
          · obtain ⟨c0, c1, c2, c3⟩ := hbx2.cells
            have HX2 := Lib.hid hbx2
            clear hbx2
            have b2 : decide ((j : Int) < 255) = true := by simp; omega
            go_wp2_with fail
            refine (has_any S _ _ (by omega) (by omega)).mono ?_
            rintro e w2 ⟨rfl, hb⟩
            rw [show ((j : Int) + 1).toNat = j + 1 by omega]
            have HX3 := Lib.hid (HX2.out.call hb)
            have HO3 := Lib.hid (HO2.out.call hb)
            have HK3 := Lib.hid (HK2.out.trans (Kept.of_below hb))
            clear hb HX2 HO2 HK2 c0 c1 c2 c3
            by_cases hS2 : mem S (j + 1) = true
            · go_wp2_with fail
              go_roundw
              case rel => exact ⟨j + 1, by go_num, by omega, by omega, fun m a b => (by by_cases e : m = j + 1; rw [e]; exact hS2; exact HA.out m a (by omega)), HX3.out, HO3.out, HK3.out⟩
              case measure => simp [intOf]; omega
            · have hS3 : mem S (j + 1) = false := by simpa using hS2
              clear hS2
              go_wp2_with fail
              refine (tell_any k j g base (runsTo S k) _ (by have := runsTo_length S k; omega) (by have := HBs.out; have := HK3.out.size; omega) HO3.out).mono ?_
              rintro e w3 ⟨rfl, hh3, hk3⟩
              have HO4 := Lib.hid hh3
              have HX4 := Lib.hid (hk3.box HX3.out (by have := HH.out.lt; omega))
              have HK4 := Lib.hid (HK3.out.trans hk3)
              clear hh3 hk3
              go_wp2_with fail
              go_roundw
              case rel => exact ⟨j + 1, by go_num, by omega, fun h => absurd h (by simp [hS3]), HX4.out, by rw [runsTo_yes S k j (HST.out hS) hS hkj hj HA.out (fun _ => hS3)]; exact HO4.out, HK4.out⟩
              case measure => simp [intOf]; omega
          · obtain rfl : j = 255 := by omega
            have HX2 := Lib.hid hbx2
            clear hbx2
            go_wp2_with fail
            refine (tell_any k 255 g base (runsTo S k) _ (by have := runsTo_length S k; omega) (by have := HBs.out; have := HK2.out.size; omega) HO2.out).mono ?_
            rintro e w3 ⟨rfl, hh3, hk3⟩
            have HO3 := Lib.hid hh3
            have HX3 := Lib.hid (hk3.box HX2.out (by have := HH.out.lt; omega))
            have HK3 := Lib.hid (HK2.out.trans hk3)
            clear hh3 hk3
            go_wp2_with fail
            go_roundw
            case rel => exact ⟨256, by go_num, by omega, fun h => absurd h (by simp [mem]), HX3.out, by rw [runsTo_yes S k 255 (HST.out hS) hS hkj hj HA.out (fun h => by omega)]; exact HO3.out, HK3.out⟩
            case measure => simp [intOf]; omega
      · have hS' : mem S k = false := by simpa using hS
        clear hS
        have HX := Lib.hid hx1
        clear hx1
        go_wp2_with fail
        go_roundw
        case rel => exact ⟨k + 1, by go_num, by omega, fun _ => Or.inr hS', HX.out, by rw [runsTo_no S k hS']; exact HO.out, HK.out⟩
        case measure => simp [intOf]; omega
    · obtain rfl : k = 256 := by omega
      clear hbx
      go_wp2
      go_end0
      exact ⟨rfl, HO.out, HK.out⟩
end Go.Proofs.YtobhhhopkkcdiaaDoor
