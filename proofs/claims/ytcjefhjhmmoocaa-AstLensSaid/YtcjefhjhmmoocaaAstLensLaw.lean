/-
  The statement AstLens: what its walk comes to.
-/
import Derived.Test.YtcjefhjhmmoocaaAstLawKit
import Derived.Test.YtcjefhjhmmoocaaAstLenMath
namespace Go.Proofs.Ytcjefhjhmmoocaa
open Go.RowKit

/-- The tree, and what repeats it. -/
def Tri (w0 : World) (A : Option Addr) (m cap g : Nat) (l : Nat → Nd) (A3 : Option Addr) (n3 g9 : Nat) (l3 : Nat → Nd) (A4 : Option Addr) (n4 g10 : Nat) (l4 : Nat → Nd) (u : World) : Prop :=
  Sol w0 A m cap g l u ∧ (TreeBox u g9 A3 (m + 1) n3 ∧ Nodes u A3 (m + 1) l3) ∧ TreeBox u g10 A4 (m + 1) n4 ∧ Nodes u A4 (m + 1) l4
theorem Tri.call {w0 u v : World} {A : Option Addr} {m cap g : Nat} {l : Nat → Nd} {A3 : Option Addr} {n3 g9 : Nat} {l3 : Nat → Nd} {A4 : Option Addr} {n4 g10 : Nat} {l4 : Nat → Nd} (h : Tri w0 A m cap g l A3 n3 g9 l3 A4 n4 g10 l4 u) (hb : Below u.heap.size u v) : Tri w0 A m cap g l A3 n3 g9 l3 A4 n4 g10 l4 v :=
  ⟨h.1.call hb, ⟨h.2.1.1.call hb, h.2.1.2.call hb⟩, h.2.2.1.call hb, h.2.2.2.call hb⟩
theorem lens_r {l : Nat → Nd} {m q : Nat} (hsh : shapeZ l m = 0) (hm : m ≤ 60) (hd : dep l m ≤ 39) (hq : q ≤ 99) : lenZ (wrapL l m ⟨10, 0, 0, 0, 0, 0, 0, (q : Int), (q : Int), 0, 0, false⟩) (m + 1) (m : Int) = (timesZ (len l m).1 q, timesZ (len l m).2 q, 0) := by
  obtain ⟨_, h0, hs⟩ := form_0 (shape_0 hsh).1
  have h := lenZ_last (wrap_shape (x := ⟨10, 0, 0, 0, 0, 0, 0, (q : Int), (q : Int), 0, 0, false⟩) (by rfl) (by unfold fitsB; simp; omega) hsh (by omega) hd)
  rw [wrap_len10 rfl h0 hs] at h
  rw [← h]
  congr 1
  omega
theorem lens_s {l : Nat → Nd} {m q : Nat} (hsh : shapeZ l m = 0) (hm : m ≤ 60) (hd : dep l m ≤ 39) (hq : q ≤ 99) : lenZ (wrapL l m ⟨10, 0, 0, 0, 0, 0, 0, (q : Int) + 1, -1, 0, 0, false⟩) (m + 1) (m : Int) = (timesZ (len l m).1 ((q : Int) + 1), timesZ (len l m).2 (-1), 0) := by
  obtain ⟨_, h0, hs⟩ := form_0 (shape_0 hsh).1
  have h := lenZ_last (wrap_shape (x := ⟨10, 0, 0, 0, 0, 0, 0, (q : Int) + 1, -1, 0, 0, false⟩) (by rfl) (by unfold fitsB; simp; omega) hsh (by omega) hd)
  rw [wrap_len10 rfl h0 hs] at h
  rw [← h]
  congr 1
  omega
theorem lens_w {l : Nat → Nd} {m : Nat} (hsh : shapeZ l m = 0) (hm : m ≤ 60) (hd : dep l m ≤ 39) : lenZ (wrapL l m ⟨17, 0, 0, 0, 0, 0, 0, 0, 0, 0, 0, false⟩) (m + 1) (m : Int) = ((len l m).1, (len l m).2, 0) := by
  obtain ⟨_, h0, hs⟩ := form_0 (shape_0 hsh).1
  have h := lenZ_last (wrap_shape (x := ⟨17, 0, 0, 0, 0, 0, 0, 0, 0, 0, 0, false⟩) (by rfl) (by decide) hsh (by omega) hd)
  rw [wrap_len17 rfl h0 hs] at h
  rw [← h]
  congr 1
  omega
theorem lens_facts {l : Nat → Nd} {m q : Nat} (hsh : shapeZ l m = 0) : (0 ≤ (len l m).1 ∧ -1 ≤ (len l m).2 ∧ (0 ≤ (len l m).2 → (len l m).1 ≤ (len l m).2)) ∧ (0 ≤ timesZ (len l m).2 q → timesZ (len l m).1 q ≤ timesZ (len l m).2 q) ∧ timesZ (len l m).1 q ≤ timesZ (len l m).1 ((q : Int) + 1) ∧
    ((len l m).2 = 0 → timesZ (len l m).2 (-1) = 0) ∧ (¬ (len l m).2 = 0 → timesZ (len l m).2 (-1) = -1) := by
  obtain ⟨_, h0, hs⟩ := form_0 (shape_0 hsh).1
  have ho := len_ord l m (by omega)
  obtain ⟨⟨b1, b2⟩, b3, b4⟩ := len_bd l m (by omega)
  refine ⟨⟨b1, b3, fun h => by omega⟩, fun h => ?_, times_mono b1 (Int.le_refl _) (by omega) (by omega), fun h => by rw [times_inf, if_pos h], fun h => by rw [times_inf, if_neg h]⟩
  by_cases hb : (len l m).2 < 0
  · by_cases hq : (q : Int) = 0
    · rw [hq]; simp [timesZ]
    · unfold timesZ at h
      rw [if_neg (by omega), if_pos (by omega)] at h
      omega
  · exact times_mono b1 (by omega) (by omega) (Int.le_refl _)

set_option maxRecDepth 20000 in
set_option maxHeartbeats 4000000 in
theorem astLens_walk (hS : SortOk) (hN : SortNone) (A : Option Addr) (n cap : Nat) (l : Nat → Nd) (k : Nat) (w : World) (hc : n ≤ cap) (hcap : cap ≤ 9223372036854775807) (h0 : A = none → n = 0 ∧ cap = 0) (hl : Nodes w A n l) (hk : k < 256) :
    Calls Try.prog 5 #[.agg #[.slice A n cap], .int .u8 (k : Int)] w fun e w' => e = .returned (.bool true) ∧ Below w.heap.size w w' := by
  have HSN := Lib.hid (And.intro hS hN)
  have HL := Lib.hid hl
  clear hS hN hl
  have h0m : A = none → min n 60 = 0 ∧ cap = 0 := fun h => by obtain ⟨h1, h2⟩ := h0 h; omega
  have HM := Lib.hid h0m
  clear h0m
  go_enter Try.func5, Try.ntmps5
  go_wp2_with fail
  refine (cut_any A n cap 60 _ hc hcap h0 (by omega)).mono ?_
  rintro e w1 ⟨rfl, hb⟩
  have HX := Lib.hid (show Below w.heap.size w (World.alloc w (.cells #[.slice A n cap] 24)) by go_grown)
  have HT1 := Lib.hid ((TreeBox.new w A n cap).call hb)
  have HB1 := Lib.hid (thenB HX.out hb HX.out.size)
  have hz := HT1.out
  unfold TreeBox at hz
  have c2 := HT1.out.cell
  have fz := HT1.out.free
  clear hb HX h0
  have hm : min n 60 ≤ 60 := by omega
  have HL0 := Lib.hid (HL.out.take (min n 60) (by omega))
  generalize min n 60 = m at hm HL0 HM ⊢
  go_wp2_with fail
  have HB2 := Lib.hid (below_store HB1.out (Nat.le_refl _) (.slice A m cap))
  have HF0 := Lib.hid (show Sol w A m cap w.heap.size l _ from ⟨HB2.out, HT1.out.store A m cap, HL0.out.below HB2.out (Nat.le_refl _)⟩)
  clear HL HL0 HB1 HT1 hz c2 fz HB2
  refine (lenZ_any A m cap l _ _ (by omega) HF0.out.2.2).mono ?_
  rintro e w2 ⟨rfl, hb⟩
  have HF1 := Lib.hid (HF0.out.call hb)
  clear hb HF0
  have c2 := HF1.out.2.1.cell
  by_cases hsh : shapeZ l m = 0
  · rw [lenZ_last hsh]
    have HSH := Lib.hid hsh
    clear hsh
    obtain ⟨a, ha⟩ : ∃ a, a = (len l m).1 := ⟨_, rfl⟩
    obtain ⟨b, hb⟩ : ∃ b, b = (len l m).2 := ⟨_, rfl⟩
    rw [← ha, ← hb]
    have HA := Lib.hid (And.intro ha hb)
    clear ha hb
    go_wp2_with fail
    refine (deep_any A m cap l _ (by omega) HF1.out.2.2).mono ?_
    rintro e w3 ⟨rfl, hb⟩
    have HF2 := Lib.hid (HF1.out.call hb)
    clear hb HF1 c2
    have c2 := HF2.out.2.1.cell
    have hd0 := deep_le l m
    generalize hD : deepZ l m = D at hd0
    have HD := Lib.hid hD
    clear hD
    by_cases h39 : 39 ≤ D
    · go_wp2_with fail
      refine (fixed_any HSN.out.1 HSN.out.2 _).mono ?_
      rintro e w4 ⟨rfl, hb⟩
      have HF3 := Lib.hid (HF2.out.call hb)
      clear hb HF2 c2
      go_wp2_with fail
      go_ret
      exact ⟨rfl, HF3.out.1⟩
    · go_wp2_with fail
      rename_i K hK
      obtain ⟨q, hq⟩ : ∃ q : Nat, q = k % 100 := ⟨_, rfl⟩
      have hq99 : q ≤ 99 := by omega
      rw [show ((k : Int) % 100) = (q : Int) by omega]
      clear hq
      have hdd : dep l m ≤ 39 := by have h1 := HD.out; rw [deep_shape HSH.out] at h1; omega
      have FA := Lib.hid (lens_facts (q := q) HSH.out)
      have E1 := Lib.hid (lens_r HSH.out hm hdd hq99)
      have E2 := Lib.hid (lens_s HSH.out hm hdd hq99)
      have E3 := Lib.hid (lens_w HSH.out hm hdd)
      rw [← HA.out.1, ← HA.out.2] at FA E1 E2 E3
      generalize timesZ a q = c at FA E1
      generalize timesZ b q = d at FA E1
      generalize timesZ a ((q : Int) + 1) = u at FA E2
      generalize timesZ b (-1) = vv at FA E2
      clear hdd
      have HS0 := Lib.hid (show Sol w A m cap w.heap.size l w3.drew from HF2.out.call (by go_grown))
      have rest : ∀ (v : World) (g9 g10 : Nat) (A3 A4 : Option Addr) (n3 n4 : Nat) (x0 x1 x3 x7 x8 x21 x22 x23 x24 x25 x26 x27 x28 x29 x30 x31 x32 x33 x34 x35 x36 x37 x38 x39 x40 x41 x42 x43 x44 x45 x46 x47 x48 x49 x50 x51 x52 x53 x54 x55 x56 x57 x58 x59 x60 x61 x62 x63 x64 x65 : Value), Below w3.drew.heap.size w3.drew v → TreeBox v g9 A3 (m + 1) n3 → TreeBox v g10 A4 (m + 1) n4 → Nodes v A3 (m + 1) (wrapL l m ⟨10, 0, 0, 0, 0, 0, 0, (q : Int), (q : Int), 0, 0, false⟩) → Nodes v A4 (m + 1) (wrapL l m ⟨10, 0, 0, 0, 0, 0, 0, (q : Int) + 1, -1, 0, 0, false⟩) →
          K { tmps := #[x0, x1, .pointer (some ⟨w.heap.size, 0, none⟩), x3, .bool false, .int .i64 a, .int .i64 b, x7, x8, .pointer (some ⟨g9, 0, none⟩), .pointer (some ⟨g10, 0, none⟩), undef, undef, undef, undef, undef, undef, undef, undef, undef, undef, x21, x22, x23, x24, x25, x26, x27, x28, x29, x30, x31, x32, x33, x34, x35, x36, x37, x38, x39, x40, x41, x42, x43, x44, x45, x46, x47, x48, x49, x50, x51, x52, x53, x54, x55, x56, x57, x58, x59, x60, x61, x62, x63, x64, x65, undef, undef, undef, undef, undef, undef, undef, undef, undef, undef, undef, undef, undef, undef, undef, undef, undef, undef, undef, undef, undef, undef, undef, undef, undef, undef, undef, undef, undef, undef, undef, undef, undef, undef, undef, undef, undef, undef, undef, undef, undef, undef, undef, undef, undef, undef, undef, undef, undef, undef, undef, undef, undef, undef, undef, undef, undef, undef, undef, undef, undef, undef, undef, undef, undef, undef, undef, undef, undef, undef, undef, undef, undef, undef, undef, undef, undef, undef, undef, undef, undef, undef, undef, undef, undef, undef, undef, undef, undef, undef, undef, undef], defers := [] } v := by
        intro v g9 g10 A3 A4 n3 n4 x0 x1 x3 x7 x8 x21 x22 x23 x24 x25 x26 x27 x28 x29 x30 x31 x32 x33 x34 x35 x36 x37 x38 x39 x40 x41 x42 x43 x44 x45 x46 x47 x48 x49 x50 x51 x52 x53 x54 x55 x56 x57 x58 x59 x60 x61 x62 x63 x64 x65 hv t9 t10 m3 m4
        have HT0 := Lib.hid (show Tri w A m cap w.heap.size l A3 n3 g9 (wrapL l m ⟨10, 0, 0, 0, 0, 0, 0, (q : Int), (q : Int), 0, 0, false⟩) A4 n4 g10 (wrapL l m ⟨10, 0, 0, 0, 0, 0, 0, (q : Int) + 1, -1, 0, 0, false⟩) v from ⟨HS0.out.call hv, ⟨t9, m3⟩, t10, m4⟩)
        clear hv t9 t10 m3 m4 HS0 HF2 c2
        obtain c9 := HT0.out.2.1.1.cell
        obtain c10 := HT0.out.2.2.1.cell
        apply hK
        clear hK
        go_wp2_with fail
        refine (lenZ_any A3 (m + 1) n3 (wrapL l m ⟨10, 0, 0, 0, 0, 0, 0, (q : Int), (q : Int), 0, 0, false⟩) _ _ (by omega) HT0.out.2.1.2).mono ?_
        rintro e v0 ⟨rfl, hb⟩
        have HT1 := Lib.hid (HT0.out.call hb)
        clear hb HT0 c9 c10
        have c9 := HT1.out.2.1.1.cell
        have c10 := HT1.out.2.2.1.cell
        rw [E1.out]
        go_wp2_with fail
        refine (lenZ_any A4 (m + 1) n4 (wrapL l m ⟨10, 0, 0, 0, 0, 0, 0, (q : Int) + 1, -1, 0, 0, false⟩) _ _ (by omega) HT1.out.2.2.2).mono ?_
        rintro e v1 ⟨rfl, hb⟩
        have HT2 := Lib.hid (HT1.out.call hb)
        clear hb HT1 c9 c10
        have c2 := HT2.out.1.2.1.cell
        rw [E2.out]
        go_wp2_with fail
        refine (wrap_any A m cap l ⟨17, 0, 0, 0, 0, 0, 0, 0, 0, 0, 0, false⟩ _ (by omega) HM.out HT2.out.1.2.2).mono ?_
        rintro e v2 ⟨A5, n5, rfl, ho, hb⟩
        obtain ⟨A5, m5, e', -, h5, -⟩ := own_nodes ho
        cases e'
        have HT3 := Lib.hid (HT2.out.1.call hb)
        have H5 := Lib.hid h5
        clear hb HT2 c2 ho h5
        go_wp2_with fail
        obtain ⟨W, hW⟩ : ∃ W, W = World.alloc v2 (.cells #[.slice A5 (m + 1) n5] 24) := ⟨_, rfl⟩
        have hXW : Below v2.heap.size v2 W := by rw [hW]; go_grown
        rw [← hW]
        have HT4 := Lib.hid (HT3.out.call hXW)
        have H6 := Lib.hid (H5.out.call hXW)
        clear hW hXW HT3 H5
        refine (lenZ_any A5 (m + 1) n5 (wrapL l m ⟨17, 0, 0, 0, 0, 0, 0, 0, 0, 0, 0, false⟩) _ _ (by omega) H6.out).mono ?_
        rintro e v3 ⟨rfl, hb⟩
        have HT5 := Lib.hid (HT4.out.call hb)
        clear hb HT4 H6
        rw [E3.out]
        obtain ⟨⟨fa, fb, fab⟩, fcd, fcu, fv0, fv1⟩ := FA.out
        clear FA E1 E2 E3 HSH HA HD
        have f1 : ¬ u < c := by omega
        by_cases hb0 : b = 0
        · have hv := fv0 hb0
          have f3 : a ≤ b := fab (by omega)
          have f4 : ¬ b < a := by omega
          have f5 : 0 ≤ b := by omega
          subst hv
          clear fv0 fv1 fab
          by_cases hd : 0 ≤ d
          · have f2 : ¬ d < c := by have := fcd hd; omega
            clear fcd
            go_wp2_with fail
            refine (fixed_any HSN.out.1 HSN.out.2 _).mono ?_
            rintro e v4 ⟨rfl, hb⟩
            have HT6 := Lib.hid (HT5.out.call hb)
            clear hb HT5
            go_wp2_with fail
            go_ret
            exact ⟨rfl, HT6.out.1⟩
          · clear fcd
            go_wp2_with fail
            refine (fixed_any HSN.out.1 HSN.out.2 _).mono ?_
            rintro e v4 ⟨rfl, hb⟩
            have HT6 := Lib.hid (HT5.out.call hb)
            clear hb HT5
            go_wp2_with fail
            go_ret
            exact ⟨rfl, HT6.out.1⟩
        · have hv := fv1 hb0
          subst hv
          clear fv0 fv1
          by_cases hbp : 0 ≤ b
          · have f4 : ¬ b < a := by have := fab hbp; omega
            clear fab
            by_cases hd : 0 ≤ d
            · have f2 : ¬ d < c := by have := fcd hd; omega
              clear fcd
              go_wp2_with fail
              refine (fixed_any HSN.out.1 HSN.out.2 _).mono ?_
              rintro e v4 ⟨rfl, hb⟩
              have HT6 := Lib.hid (HT5.out.call hb)
              clear hb HT5
              go_wp2_with fail
              go_ret
              exact ⟨ret_b (by simp [hb0]), HT6.out.1⟩
            · clear fcd
              go_wp2_with fail
              refine (fixed_any HSN.out.1 HSN.out.2 _).mono ?_
              rintro e v4 ⟨rfl, hb⟩
              have HT6 := Lib.hid (HT5.out.call hb)
              clear hb HT5
              go_wp2_with fail
              go_ret
              exact ⟨ret_b (by simp [hb0]), HT6.out.1⟩
          · clear fab
            by_cases hd : 0 ≤ d
            · have f2 : ¬ d < c := by have := fcd hd; omega
              clear fcd
              go_wp2_with fail
              refine (fixed_any HSN.out.1 HSN.out.2 _).mono ?_
              rintro e v4 ⟨rfl, hb⟩
              have HT6 := Lib.hid (HT5.out.call hb)
              clear hb HT5
              go_wp2_with fail
              go_ret
              exact ⟨ret_b (by simp [hb0]), HT6.out.1⟩
            · clear fcd
              go_wp2_with fail
              refine (fixed_any HSN.out.1 HSN.out.2 _).mono ?_
              rintro e v4 ⟨rfl, hb⟩
              have HT6 := Lib.hid (HT5.out.call hb)
              clear hb HT5
              go_wp2_with fail
              go_ret
              exact ⟨ret_b (by simp [hb0]), HT6.out.1⟩
      clear hK
      have hS0 := HS0.out
      clear HS0 HF2 c2
      refine wp_region_held_drew (S := Sol w A m cap w.heap.size l) (by kernel_rfl) hS0 (fun _ => ?_)
      generalize w3.drew = u0 at hS0 rest ⊢
      refine takeAt 0 56 (.agg #[.slice A m cap]) rfl rfl (by kernel_rfl) (by kernel_rfl) (by kernel_rfl) (fun _ _ _ h => h) (loadT_y w.heap.size A m cap (fun _ h => h.2.1) rfl rfl (by rfl)) hS0 ?_
      simp only [Act.put, List.setIfInBounds_toArray, List.set_cons_zero, List.set_cons_succ]
      refine takeAt 1 57 (.int .i64 q) rfl rfl (by kernel_rfl) (by kernel_rfl) (by kernel_rfl) (fun _ _ _ h => h) (yields (by rfl) (fun w => by kernel_rfl)) hS0 ?_
      simp only [Act.put, List.setIfInBounds_toArray, List.set_cons_zero, List.set_cons_succ]
      refine takeAt 2 58 (.int .i64 q) rfl rfl (by kernel_rfl) (by kernel_rfl) (by kernel_rfl) (fun _ _ _ h => h) (yields (by rfl) (fun w => by kernel_rfl)) hS0 ?_
      simp only [Act.put, List.setIfInBounds_toArray, List.set_cons_zero, List.set_cons_succ]
      refine takeAt 3 59 (ndV ⟨10, 0, 0, 0, 0, 0, 0, (q : Int), (q : Int), 0, 0, false⟩) rfl rfl (by kernel_rfl) (by kernel_rfl) (by kernel_rfl) (fun _ _ _ h => h) (yields (by rfl) (fun w => by kernel_rfl)) hS0 ?_
      simp only [Act.put, List.setIfInBounds_toArray, List.set_cons_zero, List.set_cons_succ]
      refine takeAt 5 61 (.agg #[.slice A m cap]) rfl rfl (by kernel_rfl) (by kernel_rfl) (by kernel_rfl) (fun _ _ _ h => h) (loadT_y w.heap.size A m cap (fun _ h => h.2.1) rfl rfl (by rfl)) hS0 ?_
      simp only [Act.put, List.setIfInBounds_toArray, List.set_cons_zero, List.set_cons_succ]
      refine takeAt 6 62 (.int .i64 q) rfl rfl (by kernel_rfl) (by kernel_rfl) (by kernel_rfl) (fun _ _ _ h => h) (yields (by rfl) (fun w => by kernel_rfl)) hS0 ?_
      simp only [Act.put, List.setIfInBounds_toArray, List.set_cons_zero, List.set_cons_succ]
      refine takeAt 7 63 (.int .i64 ((q : Int) + 1)) rfl rfl (by kernel_rfl) (by kernel_rfl) (by kernel_rfl) (fun _ _ _ h => h) (addG_y rfl (by omega) (by omega) rfl rfl rfl (by rfl)) hS0 ?_
      simp only [Act.put, List.setIfInBounds_toArray, List.set_cons_zero, List.set_cons_succ]
      refine takeAt 8 64 (ndV ⟨10, 0, 0, 0, 0, 0, 0, (q : Int) + 1, -1, 0, 0, false⟩) rfl rfl (by kernel_rfl) (by kernel_rfl) (by kernel_rfl) (fun _ _ _ h => h) (yields (by rfl) (fun w => by kernel_rfl)) hS0 ?_
      simp only [Act.put, List.setIfInBounds_toArray, List.set_cons_zero, List.set_cons_succ]
      have hB0 : Below u0.heap.size u0 u0 := Below.refl _ u0
      refine wpAnyH_ready (rs := [4, 10, 11]) (by kernel_rfl) (by simp) (AllReadyH.cons rfl (callStep 4 60 rfl (by rfl) (by kernel_rfl) (wrap_any A m cap l ⟨10, 0, 0, 0, 0, 0, 0, (q : Int), (q : Int), 0, 0, false⟩ u0 (by omega) HM.out (hS0.call hB0).2.2) ?_) (AllReadyH.cons rfl (valStep 10 9 (.pointer (some ⟨u0.heap.size, 0, none⟩)) (World.alloc u0 (.cells #[.slice none 0 0] 24)) rfl (by rfl) (by kernel_rfl) (hS0.call (thenB hB0 (show Below u0.heap.size u0 (World.alloc u0 (.cells #[.slice none 0 0] 24)) by go_grown) hB0.size)) ?_) (AllReadyH.cons rfl (valStep 11 10 (.pointer (some ⟨u0.heap.size, 0, none⟩)) (World.alloc u0 (.cells #[.slice none 0 0] 24)) rfl (by rfl) (by kernel_rfl) (hS0.call (thenB hB0 (show Below u0.heap.size u0 (World.alloc u0 (.cells #[.slice none 0 0] 24)) by go_grown) hB0.size)) ?_) (AllReadyH.nil))))
      · rintro e u1 ⟨A3, n4, rfl, ho, hX⟩
        obtain ⟨A3, m7, e', -, N5, b6⟩ := own_nodes ho
        cases e'
        clear ho
        clear b6
        have hB2 := thenB hB0 hX hB0.size
        clear hX
        refine ⟨_, rfl, hS0.call hB2, ?_⟩
        simp only [Act.put, List.setIfInBounds_toArray, List.set_cons_zero, List.set_cons_succ]
        refine wpAnyH_ready (rs := [9, 10, 11]) (by kernel_rfl) (by simp) (AllReadyH.cons rfl (callStep 9 65 rfl (by rfl) (by kernel_rfl) (wrap_any A m cap l ⟨10, 0, 0, 0, 0, 0, 0, (q : Int) + 1, -1, 0, 0, false⟩ u1 (by omega) HM.out (hS0.call hB2).2.2) ?_) (AllReadyH.cons rfl (valStep 10 9 (.pointer (some ⟨u1.heap.size, 0, none⟩)) (World.alloc u1 (.cells #[.slice none 0 0] 24)) rfl (by rfl) (by kernel_rfl) (hS0.call (thenB hB2 (show Below u1.heap.size u1 (World.alloc u1 (.cells #[.slice none 0 0] 24)) by go_grown) hB2.size)) ?_) (AllReadyH.cons rfl (valStep 11 10 (.pointer (some ⟨u1.heap.size, 0, none⟩)) (World.alloc u1 (.cells #[.slice none 0 0] 24)) rfl (by rfl) (by kernel_rfl) (hS0.call (thenB hB2 (show Below u1.heap.size u1 (World.alloc u1 (.cells #[.slice none 0 0] 24)) by go_grown) hB2.size)) ?_) (AllReadyH.nil))))
        · rintro e u8 ⟨A10, n11, rfl, ho, hX⟩
          obtain ⟨A10, m14, e', -, N12, b13⟩ := own_nodes ho
          cases e'
          clear ho
          clear b13
          have N15 := N5.call hX
          have hB9 := thenB hB2 hX hB2.size
          clear hX
          refine ⟨_, rfl, hS0.call hB9, ?_⟩
          simp only [Act.put, List.setIfInBounds_toArray, List.set_cons_zero, List.set_cons_succ]
          refine wpAnyH_ready (rs := [10, 11]) (by kernel_rfl) (by simp) (AllReadyH.cons rfl (valStep 10 9 (.pointer (some ⟨u8.heap.size, 0, none⟩)) (World.alloc u8 (.cells #[.slice none 0 0] 24)) rfl (by rfl) (by kernel_rfl) (hS0.call (thenB hB9 (show Below u8.heap.size u8 (World.alloc u8 (.cells #[.slice none 0 0] 24)) by go_grown) hB9.size)) ?_) (AllReadyH.cons rfl (valStep 11 10 (.pointer (some ⟨u8.heap.size, 0, none⟩)) (World.alloc u8 (.cells #[.slice none 0 0] 24)) rfl (by rfl) (by kernel_rfl) (hS0.call (thenB hB9 (show Below u8.heap.size u8 (World.alloc u8 (.cells #[.slice none 0 0] 24)) by go_grown) hB9.size)) ?_) (AllReadyH.nil)))
          · have hX : Below u8.heap.size u8 (World.alloc u8 (.cells #[.slice none 0 0] 24)) := by go_grown
            have Z18 : (World.alloc u8 (.cells #[.slice none 0 0] 24)).heap[u8.heap.size]? = some (.cells #[.slice none 0 0] 24 (0, 0)) := heap_alloc_new _ _
            generalize World.alloc u8 (.cells #[.slice none 0 0] 24) = u16 at hX Z18 ⊢
            have L19 : u0.heap.size ≤ u8.heap.size := hB9.size
            have D20 : ∀ a, A3 = some a → a.block ≠ u8.heap.size := fun a ha => Nat.ne_of_lt (N15.lt (by omega) a ha)
            have D21 : ∀ a, A10 = some a → a.block ≠ u8.heap.size := fun a ha => Nat.ne_of_lt (N12.lt (by omega) a ha)
            have N22 := N15.call hX
            have N23 := N12.call hX
            have hB17 := thenB hB9 hX hB9.size
            clear hX
            simp only [Act.put, List.setIfInBounds_toArray, List.set_cons_zero, List.set_cons_succ]
            refine wpAnyH_ready (rs := [11]) (by kernel_rfl) (by simp) (AllReadyH.cons rfl (valStep 11 10 (.pointer (some ⟨u16.heap.size, 0, none⟩)) (World.alloc u16 (.cells #[.slice none 0 0] 24)) rfl (by rfl) (by kernel_rfl) (hS0.call (thenB hB17 (show Below u16.heap.size u16 (World.alloc u16 (.cells #[.slice none 0 0] 24)) by go_grown) hB17.size)) ?_) (AllReadyH.nil))
            · have hX : Below u16.heap.size u16 (World.alloc u16 (.cells #[.slice none 0 0] 24)) := by go_grown
              have Z26 : (World.alloc u16 (.cells #[.slice none 0 0] 24)).heap[u16.heap.size]? = some (.cells #[.slice none 0 0] 24 (0, 0)) := heap_alloc_new _ _
              generalize World.alloc u16 (.cells #[.slice none 0 0] 24) = u24 at hX Z26 ⊢
              have L27 : u0.heap.size ≤ u16.heap.size := hB17.size
              have D28 : ∀ a, A3 = some a → a.block ≠ u16.heap.size := fun a ha => Nat.ne_of_lt (N22.lt (by omega) a ha)
              have D29 : ∀ a, A10 = some a → a.block ≠ u16.heap.size := fun a ha => Nat.ne_of_lt (N23.lt (by omega) a ha)
              have D30 : u8.heap.size ≠ u16.heap.size := by have := heap_lt Z18; omega
              have N31 := N22.call hX
              have N32 := N23.call hX
              have Z33 := (hX.block _ (heap_lt Z18)).trans Z18
              have hB25 := thenB hB17 hX hB17.size
              clear hX
              simp only [Act.put, List.setIfInBounds_toArray, List.set_cons_zero, List.set_cons_succ]
              have hne : u8.heap.size ≠ u16.heap.size := D30
              have hw1 : Below u0.heap.size u0 (u24.setRow (u8.heap.size) #[.slice A3 (m + 1) n4]) := below_row hB25 L19 _
              have hw2 : Below u0.heap.size u0 ((u24.setRow (u8.heap.size) #[.slice A3 (m + 1) n4]).setRow (u16.heap.size) #[.slice A10 (m + 1) n11]) := below_row hw1 L27 _
              obtain ⟨t9, t10, m3, m4⟩ := two_rows (n3 := n4) (n4 := n11) Z33 Z26 hne N31 N32 D20 D28 D21 D29
              refine rowAt 12 24 (u8.heap.size) #[.slice none 0 0] #[.slice A3 (m + 1) n4] rfl rfl rfl (by kernel_rfl) (by rfl) rfl rfl Z33 infoT rfl (by simp [Value.oneCell']) (hS0.call hw1) ?_
              refine rowAt 13 24 (u16.heap.size) #[.slice none 0 0] #[.slice A10 (m + 1) n11] rfl rfl rfl (by kernel_rfl) (by rfl) rfl rfl ((setRow_other u24 (u8.heap.size) (u16.heap.size) _ (Ne.symm hne)).trans Z26) infoT rfl (by simp [Value.oneCell']) (hS0.call hw2) ?_
              refine wpAnyH_done (by kernel_rfl) ?_ _
              exact rest _ (u8.heap.size) (u16.heap.size) A3 A10 n4 n11 _ _ _ _ _ _ _ _ _ _ _ _ _ _ _ _ _ _ _ _ _ _ _ _ _ _ _ _ _ _ _ _ _ _ _ _ _ _ _ _ _ _ _ _ _ _ _ _ _ _ hw2 t9 t10 m3 m4
          · have hX : Below u8.heap.size u8 (World.alloc u8 (.cells #[.slice none 0 0] 24)) := by go_grown
            have Z36 : (World.alloc u8 (.cells #[.slice none 0 0] 24)).heap[u8.heap.size]? = some (.cells #[.slice none 0 0] 24 (0, 0)) := heap_alloc_new _ _
            generalize World.alloc u8 (.cells #[.slice none 0 0] 24) = u34 at hX Z36 ⊢
            have L37 : u0.heap.size ≤ u8.heap.size := hB9.size
            have D38 : ∀ a, A3 = some a → a.block ≠ u8.heap.size := fun a ha => Nat.ne_of_lt (N15.lt (by omega) a ha)
            have D39 : ∀ a, A10 = some a → a.block ≠ u8.heap.size := fun a ha => Nat.ne_of_lt (N12.lt (by omega) a ha)
            have N40 := N15.call hX
            have N41 := N12.call hX
            have hB35 := thenB hB9 hX hB9.size
            clear hX
            simp only [Act.put, List.setIfInBounds_toArray, List.set_cons_zero, List.set_cons_succ]
            refine wpAnyH_ready (rs := [10]) (by kernel_rfl) (by simp) (AllReadyH.cons rfl (valStep 10 9 (.pointer (some ⟨u34.heap.size, 0, none⟩)) (World.alloc u34 (.cells #[.slice none 0 0] 24)) rfl (by rfl) (by kernel_rfl) (hS0.call (thenB hB35 (show Below u34.heap.size u34 (World.alloc u34 (.cells #[.slice none 0 0] 24)) by go_grown) hB35.size)) ?_) (AllReadyH.nil))
            · have hX : Below u34.heap.size u34 (World.alloc u34 (.cells #[.slice none 0 0] 24)) := by go_grown
              have Z44 : (World.alloc u34 (.cells #[.slice none 0 0] 24)).heap[u34.heap.size]? = some (.cells #[.slice none 0 0] 24 (0, 0)) := heap_alloc_new _ _
              generalize World.alloc u34 (.cells #[.slice none 0 0] 24) = u42 at hX Z44 ⊢
              have L45 : u0.heap.size ≤ u34.heap.size := hB35.size
              have D46 : ∀ a, A3 = some a → a.block ≠ u34.heap.size := fun a ha => Nat.ne_of_lt (N40.lt (by omega) a ha)
              have D47 : ∀ a, A10 = some a → a.block ≠ u34.heap.size := fun a ha => Nat.ne_of_lt (N41.lt (by omega) a ha)
              have D48 : u34.heap.size ≠ u8.heap.size := by have := heap_lt Z36; omega
              have N49 := N40.call hX
              have N50 := N41.call hX
              have Z51 := (hX.block _ (heap_lt Z36)).trans Z36
              have hB43 := thenB hB35 hX hB35.size
              clear hX
              simp only [Act.put, List.setIfInBounds_toArray, List.set_cons_zero, List.set_cons_succ]
              have hne : u34.heap.size ≠ u8.heap.size := D48
              have hw1 : Below u0.heap.size u0 (u42.setRow (u34.heap.size) #[.slice A3 (m + 1) n4]) := below_row hB43 L45 _
              have hw2 : Below u0.heap.size u0 ((u42.setRow (u34.heap.size) #[.slice A3 (m + 1) n4]).setRow (u8.heap.size) #[.slice A10 (m + 1) n11]) := below_row hw1 L37 _
              obtain ⟨t9, t10, m3, m4⟩ := two_rows (n3 := n4) (n4 := n11) Z44 Z51 hne N49 N50 D46 D38 D47 D39
              refine rowAt 12 24 (u34.heap.size) #[.slice none 0 0] #[.slice A3 (m + 1) n4] rfl rfl rfl (by kernel_rfl) (by rfl) rfl rfl Z44 infoT rfl (by simp [Value.oneCell']) (hS0.call hw1) ?_
              refine rowAt 13 24 (u8.heap.size) #[.slice none 0 0] #[.slice A10 (m + 1) n11] rfl rfl rfl (by kernel_rfl) (by rfl) rfl rfl ((setRow_other u42 (u34.heap.size) (u8.heap.size) _ (Ne.symm hne)).trans Z51) infoT rfl (by simp [Value.oneCell']) (hS0.call hw2) ?_
              refine wpAnyH_done (by kernel_rfl) ?_ _
              exact rest _ (u34.heap.size) (u8.heap.size) A3 A10 n4 n11 _ _ _ _ _ _ _ _ _ _ _ _ _ _ _ _ _ _ _ _ _ _ _ _ _ _ _ _ _ _ _ _ _ _ _ _ _ _ _ _ _ _ _ _ _ _ _ _ _ _ hw2 t9 t10 m3 m4
        · have hX : Below u1.heap.size u1 (World.alloc u1 (.cells #[.slice none 0 0] 24)) := by go_grown
          have Z54 : (World.alloc u1 (.cells #[.slice none 0 0] 24)).heap[u1.heap.size]? = some (.cells #[.slice none 0 0] 24 (0, 0)) := heap_alloc_new _ _
          generalize World.alloc u1 (.cells #[.slice none 0 0] 24) = u52 at hX Z54 ⊢
          have L55 : u0.heap.size ≤ u1.heap.size := hB2.size
          have D56 : ∀ a, A3 = some a → a.block ≠ u1.heap.size := fun a ha => Nat.ne_of_lt (N5.lt (by omega) a ha)
          have N57 := N5.call hX
          have hB53 := thenB hB2 hX hB2.size
          clear hX
          simp only [Act.put, List.setIfInBounds_toArray, List.set_cons_zero, List.set_cons_succ]
          refine wpAnyH_ready (rs := [9, 11]) (by kernel_rfl) (by simp) (AllReadyH.cons rfl (callStep 9 65 rfl (by rfl) (by kernel_rfl) (wrap_any A m cap l ⟨10, 0, 0, 0, 0, 0, 0, (q : Int) + 1, -1, 0, 0, false⟩ u52 (by omega) HM.out (hS0.call hB53).2.2) ?_) (AllReadyH.cons rfl (valStep 11 10 (.pointer (some ⟨u52.heap.size, 0, none⟩)) (World.alloc u52 (.cells #[.slice none 0 0] 24)) rfl (by rfl) (by kernel_rfl) (hS0.call (thenB hB53 (show Below u52.heap.size u52 (World.alloc u52 (.cells #[.slice none 0 0] 24)) by go_grown) hB53.size)) ?_) (AllReadyH.nil)))
          · rintro e u58 ⟨A60, n61, rfl, ho, hX⟩
            obtain ⟨A60, m64, e', -, N62, b63⟩ := own_nodes ho
            cases e'
            clear ho
            have D65 : ∀ a, A60 = some a → a.block ≠ u1.heap.size := fun a ha => by have h1 := b63 a ha; have h2 := heap_lt Z54; omega
            clear b63
            have N66 := N57.call hX
            have Z67 := (hX.block _ (heap_lt Z54)).trans Z54
            have hB59 := thenB hB53 hX hB53.size
            clear hX
            refine ⟨_, rfl, hS0.call hB59, ?_⟩
            simp only [Act.put, List.setIfInBounds_toArray, List.set_cons_zero, List.set_cons_succ]
            refine wpAnyH_ready (rs := [11]) (by kernel_rfl) (by simp) (AllReadyH.cons rfl (valStep 11 10 (.pointer (some ⟨u58.heap.size, 0, none⟩)) (World.alloc u58 (.cells #[.slice none 0 0] 24)) rfl (by rfl) (by kernel_rfl) (hS0.call (thenB hB59 (show Below u58.heap.size u58 (World.alloc u58 (.cells #[.slice none 0 0] 24)) by go_grown) hB59.size)) ?_) (AllReadyH.nil))
            · have hX : Below u58.heap.size u58 (World.alloc u58 (.cells #[.slice none 0 0] 24)) := by go_grown
              have Z70 : (World.alloc u58 (.cells #[.slice none 0 0] 24)).heap[u58.heap.size]? = some (.cells #[.slice none 0 0] 24 (0, 0)) := heap_alloc_new _ _
              generalize World.alloc u58 (.cells #[.slice none 0 0] 24) = u68 at hX Z70 ⊢
              have L71 : u0.heap.size ≤ u58.heap.size := hB59.size
              have D72 : ∀ a, A3 = some a → a.block ≠ u58.heap.size := fun a ha => Nat.ne_of_lt (N66.lt (by omega) a ha)
              have D73 : ∀ a, A60 = some a → a.block ≠ u58.heap.size := fun a ha => Nat.ne_of_lt (N62.lt (by omega) a ha)
              have D74 : u1.heap.size ≠ u58.heap.size := by have := heap_lt Z67; omega
              have N75 := N66.call hX
              have N76 := N62.call hX
              have Z77 := (hX.block _ (heap_lt Z67)).trans Z67
              have hB69 := thenB hB59 hX hB59.size
              clear hX
              simp only [Act.put, List.setIfInBounds_toArray, List.set_cons_zero, List.set_cons_succ]
              have hne : u1.heap.size ≠ u58.heap.size := D74
              have hw1 : Below u0.heap.size u0 (u68.setRow (u1.heap.size) #[.slice A3 (m + 1) n4]) := below_row hB69 L55 _
              have hw2 : Below u0.heap.size u0 ((u68.setRow (u1.heap.size) #[.slice A3 (m + 1) n4]).setRow (u58.heap.size) #[.slice A60 (m + 1) n61]) := below_row hw1 L71 _
              obtain ⟨t9, t10, m3, m4⟩ := two_rows (n3 := n4) (n4 := n61) Z77 Z70 hne N75 N76 D56 D72 D65 D73
              refine rowAt 12 24 (u1.heap.size) #[.slice none 0 0] #[.slice A3 (m + 1) n4] rfl rfl rfl (by kernel_rfl) (by rfl) rfl rfl Z77 infoT rfl (by simp [Value.oneCell']) (hS0.call hw1) ?_
              refine rowAt 13 24 (u58.heap.size) #[.slice none 0 0] #[.slice A60 (m + 1) n61] rfl rfl rfl (by kernel_rfl) (by rfl) rfl rfl ((setRow_other u68 (u1.heap.size) (u58.heap.size) _ (Ne.symm hne)).trans Z70) infoT rfl (by simp [Value.oneCell']) (hS0.call hw2) ?_
              refine wpAnyH_done (by kernel_rfl) ?_ _
              exact rest _ (u1.heap.size) (u58.heap.size) A3 A60 n4 n61 _ _ _ _ _ _ _ _ _ _ _ _ _ _ _ _ _ _ _ _ _ _ _ _ _ _ _ _ _ _ _ _ _ _ _ _ _ _ _ _ _ _ _ _ _ _ _ _ _ _ hw2 t9 t10 m3 m4
          · have hX : Below u52.heap.size u52 (World.alloc u52 (.cells #[.slice none 0 0] 24)) := by go_grown
            have Z80 : (World.alloc u52 (.cells #[.slice none 0 0] 24)).heap[u52.heap.size]? = some (.cells #[.slice none 0 0] 24 (0, 0)) := heap_alloc_new _ _
            generalize World.alloc u52 (.cells #[.slice none 0 0] 24) = u78 at hX Z80 ⊢
            have L81 : u0.heap.size ≤ u52.heap.size := hB53.size
            have D82 : ∀ a, A3 = some a → a.block ≠ u52.heap.size := fun a ha => Nat.ne_of_lt (N57.lt (by omega) a ha)
            have D83 : u1.heap.size ≠ u52.heap.size := by have := heap_lt Z54; omega
            have N84 := N57.call hX
            have Z85 := (hX.block _ (heap_lt Z54)).trans Z54
            have hB79 := thenB hB53 hX hB53.size
            clear hX
            simp only [Act.put, List.setIfInBounds_toArray, List.set_cons_zero, List.set_cons_succ]
            refine wpAnyH_ready (rs := [9]) (by kernel_rfl) (by simp) (AllReadyH.cons rfl (callStep 9 65 rfl (by rfl) (by kernel_rfl) (wrap_any A m cap l ⟨10, 0, 0, 0, 0, 0, 0, (q : Int) + 1, -1, 0, 0, false⟩ u78 (by omega) HM.out (hS0.call hB79).2.2) ?_) (AllReadyH.nil))
            · rintro e u86 ⟨A88, n89, rfl, ho, hX⟩
              obtain ⟨A88, m92, e', -, N90, b91⟩ := own_nodes ho
              cases e'
              clear ho
              have D93 : ∀ a, A88 = some a → a.block ≠ u1.heap.size := fun a ha => by have h1 := b91 a ha; have h2 := heap_lt Z85; omega
              have D94 : ∀ a, A88 = some a → a.block ≠ u52.heap.size := fun a ha => by have h1 := b91 a ha; have h2 := heap_lt Z80; omega
              clear b91
              have N95 := N84.call hX
              have Z96 := (hX.block _ (heap_lt Z85)).trans Z85
              have Z97 := (hX.block _ (heap_lt Z80)).trans Z80
              have hB87 := thenB hB79 hX hB79.size
              clear hX
              refine ⟨_, rfl, hS0.call hB87, ?_⟩
              simp only [Act.put, List.setIfInBounds_toArray, List.set_cons_zero, List.set_cons_succ]
              have hne : u1.heap.size ≠ u52.heap.size := D83
              have hw1 : Below u0.heap.size u0 (u86.setRow (u1.heap.size) #[.slice A3 (m + 1) n4]) := below_row hB87 L55 _
              have hw2 : Below u0.heap.size u0 ((u86.setRow (u1.heap.size) #[.slice A3 (m + 1) n4]).setRow (u52.heap.size) #[.slice A88 (m + 1) n89]) := below_row hw1 L81 _
              obtain ⟨t9, t10, m3, m4⟩ := two_rows (n3 := n4) (n4 := n89) Z96 Z97 hne N95 N90 D56 D82 D93 D94
              refine rowAt 12 24 (u1.heap.size) #[.slice none 0 0] #[.slice A3 (m + 1) n4] rfl rfl rfl (by kernel_rfl) (by rfl) rfl rfl Z96 infoT rfl (by simp [Value.oneCell']) (hS0.call hw1) ?_
              refine rowAt 13 24 (u52.heap.size) #[.slice none 0 0] #[.slice A88 (m + 1) n89] rfl rfl rfl (by kernel_rfl) (by rfl) rfl rfl ((setRow_other u86 (u1.heap.size) (u52.heap.size) _ (Ne.symm hne)).trans Z97) infoT rfl (by simp [Value.oneCell']) (hS0.call hw2) ?_
              refine wpAnyH_done (by kernel_rfl) ?_ _
              exact rest _ (u1.heap.size) (u52.heap.size) A3 A88 n4 n89 _ _ _ _ _ _ _ _ _ _ _ _ _ _ _ _ _ _ _ _ _ _ _ _ _ _ _ _ _ _ _ _ _ _ _ _ _ _ _ _ _ _ _ _ _ _ _ _ _ _ hw2 t9 t10 m3 m4
        · have hX : Below u1.heap.size u1 (World.alloc u1 (.cells #[.slice none 0 0] 24)) := by go_grown
          have Z100 : (World.alloc u1 (.cells #[.slice none 0 0] 24)).heap[u1.heap.size]? = some (.cells #[.slice none 0 0] 24 (0, 0)) := heap_alloc_new _ _
          generalize World.alloc u1 (.cells #[.slice none 0 0] 24) = u98 at hX Z100 ⊢
          have L101 : u0.heap.size ≤ u1.heap.size := hB2.size
          have D102 : ∀ a, A3 = some a → a.block ≠ u1.heap.size := fun a ha => Nat.ne_of_lt (N5.lt (by omega) a ha)
          have N103 := N5.call hX
          have hB99 := thenB hB2 hX hB2.size
          clear hX
          simp only [Act.put, List.setIfInBounds_toArray, List.set_cons_zero, List.set_cons_succ]
          refine wpAnyH_ready (rs := [9, 10]) (by kernel_rfl) (by simp) (AllReadyH.cons rfl (callStep 9 65 rfl (by rfl) (by kernel_rfl) (wrap_any A m cap l ⟨10, 0, 0, 0, 0, 0, 0, (q : Int) + 1, -1, 0, 0, false⟩ u98 (by omega) HM.out (hS0.call hB99).2.2) ?_) (AllReadyH.cons rfl (valStep 10 9 (.pointer (some ⟨u98.heap.size, 0, none⟩)) (World.alloc u98 (.cells #[.slice none 0 0] 24)) rfl (by rfl) (by kernel_rfl) (hS0.call (thenB hB99 (show Below u98.heap.size u98 (World.alloc u98 (.cells #[.slice none 0 0] 24)) by go_grown) hB99.size)) ?_) (AllReadyH.nil)))
          · rintro e u104 ⟨A106, n107, rfl, ho, hX⟩
            obtain ⟨A106, m110, e', -, N108, b109⟩ := own_nodes ho
            cases e'
            clear ho
            have D111 : ∀ a, A106 = some a → a.block ≠ u1.heap.size := fun a ha => by have h1 := b109 a ha; have h2 := heap_lt Z100; omega
            clear b109
            have N112 := N103.call hX
            have Z113 := (hX.block _ (heap_lt Z100)).trans Z100
            have hB105 := thenB hB99 hX hB99.size
            clear hX
            refine ⟨_, rfl, hS0.call hB105, ?_⟩
            simp only [Act.put, List.setIfInBounds_toArray, List.set_cons_zero, List.set_cons_succ]
            refine wpAnyH_ready (rs := [10]) (by kernel_rfl) (by simp) (AllReadyH.cons rfl (valStep 10 9 (.pointer (some ⟨u104.heap.size, 0, none⟩)) (World.alloc u104 (.cells #[.slice none 0 0] 24)) rfl (by rfl) (by kernel_rfl) (hS0.call (thenB hB105 (show Below u104.heap.size u104 (World.alloc u104 (.cells #[.slice none 0 0] 24)) by go_grown) hB105.size)) ?_) (AllReadyH.nil))
            · have hX : Below u104.heap.size u104 (World.alloc u104 (.cells #[.slice none 0 0] 24)) := by go_grown
              have Z116 : (World.alloc u104 (.cells #[.slice none 0 0] 24)).heap[u104.heap.size]? = some (.cells #[.slice none 0 0] 24 (0, 0)) := heap_alloc_new _ _
              generalize World.alloc u104 (.cells #[.slice none 0 0] 24) = u114 at hX Z116 ⊢
              have L117 : u0.heap.size ≤ u104.heap.size := hB105.size
              have D118 : ∀ a, A3 = some a → a.block ≠ u104.heap.size := fun a ha => Nat.ne_of_lt (N112.lt (by omega) a ha)
              have D119 : ∀ a, A106 = some a → a.block ≠ u104.heap.size := fun a ha => Nat.ne_of_lt (N108.lt (by omega) a ha)
              have D120 : u104.heap.size ≠ u1.heap.size := by have := heap_lt Z113; omega
              have N121 := N112.call hX
              have N122 := N108.call hX
              have Z123 := (hX.block _ (heap_lt Z113)).trans Z113
              have hB115 := thenB hB105 hX hB105.size
              clear hX
              simp only [Act.put, List.setIfInBounds_toArray, List.set_cons_zero, List.set_cons_succ]
              have hne : u104.heap.size ≠ u1.heap.size := D120
              have hw1 : Below u0.heap.size u0 (u114.setRow (u104.heap.size) #[.slice A3 (m + 1) n4]) := below_row hB115 L117 _
              have hw2 : Below u0.heap.size u0 ((u114.setRow (u104.heap.size) #[.slice A3 (m + 1) n4]).setRow (u1.heap.size) #[.slice A106 (m + 1) n107]) := below_row hw1 L101 _
              obtain ⟨t9, t10, m3, m4⟩ := two_rows (n3 := n4) (n4 := n107) Z116 Z123 hne N121 N122 D118 D102 D119 D111
              refine rowAt 12 24 (u104.heap.size) #[.slice none 0 0] #[.slice A3 (m + 1) n4] rfl rfl rfl (by kernel_rfl) (by rfl) rfl rfl Z116 infoT rfl (by simp [Value.oneCell']) (hS0.call hw1) ?_
              refine rowAt 13 24 (u1.heap.size) #[.slice none 0 0] #[.slice A106 (m + 1) n107] rfl rfl rfl (by kernel_rfl) (by rfl) rfl rfl ((setRow_other u114 (u104.heap.size) (u1.heap.size) _ (Ne.symm hne)).trans Z123) infoT rfl (by simp [Value.oneCell']) (hS0.call hw2) ?_
              refine wpAnyH_done (by kernel_rfl) ?_ _
              exact rest _ (u104.heap.size) (u1.heap.size) A3 A106 n4 n107 _ _ _ _ _ _ _ _ _ _ _ _ _ _ _ _ _ _ _ _ _ _ _ _ _ _ _ _ _ _ _ _ _ _ _ _ _ _ _ _ _ _ _ _ _ _ _ _ _ _ hw2 t9 t10 m3 m4
          · have hX : Below u98.heap.size u98 (World.alloc u98 (.cells #[.slice none 0 0] 24)) := by go_grown
            have Z126 : (World.alloc u98 (.cells #[.slice none 0 0] 24)).heap[u98.heap.size]? = some (.cells #[.slice none 0 0] 24 (0, 0)) := heap_alloc_new _ _
            generalize World.alloc u98 (.cells #[.slice none 0 0] 24) = u124 at hX Z126 ⊢
            have L127 : u0.heap.size ≤ u98.heap.size := hB99.size
            have D128 : ∀ a, A3 = some a → a.block ≠ u98.heap.size := fun a ha => Nat.ne_of_lt (N103.lt (by omega) a ha)
            have D129 : u98.heap.size ≠ u1.heap.size := by have := heap_lt Z100; omega
            have N130 := N103.call hX
            have Z131 := (hX.block _ (heap_lt Z100)).trans Z100
            have hB125 := thenB hB99 hX hB99.size
            clear hX
            simp only [Act.put, List.setIfInBounds_toArray, List.set_cons_zero, List.set_cons_succ]
            refine wpAnyH_ready (rs := [9]) (by kernel_rfl) (by simp) (AllReadyH.cons rfl (callStep 9 65 rfl (by rfl) (by kernel_rfl) (wrap_any A m cap l ⟨10, 0, 0, 0, 0, 0, 0, (q : Int) + 1, -1, 0, 0, false⟩ u124 (by omega) HM.out (hS0.call hB125).2.2) ?_) (AllReadyH.nil))
            · rintro e u132 ⟨A134, n135, rfl, ho, hX⟩
              obtain ⟨A134, m138, e', -, N136, b137⟩ := own_nodes ho
              cases e'
              clear ho
              have D139 : ∀ a, A134 = some a → a.block ≠ u98.heap.size := fun a ha => by have h1 := b137 a ha; have h2 := heap_lt Z126; omega
              have D140 : ∀ a, A134 = some a → a.block ≠ u1.heap.size := fun a ha => by have h1 := b137 a ha; have h2 := heap_lt Z131; omega
              clear b137
              have N141 := N130.call hX
              have Z142 := (hX.block _ (heap_lt Z126)).trans Z126
              have Z143 := (hX.block _ (heap_lt Z131)).trans Z131
              have hB133 := thenB hB125 hX hB125.size
              clear hX
              refine ⟨_, rfl, hS0.call hB133, ?_⟩
              simp only [Act.put, List.setIfInBounds_toArray, List.set_cons_zero, List.set_cons_succ]
              have hne : u98.heap.size ≠ u1.heap.size := D129
              have hw1 : Below u0.heap.size u0 (u132.setRow (u98.heap.size) #[.slice A3 (m + 1) n4]) := below_row hB133 L127 _
              have hw2 : Below u0.heap.size u0 ((u132.setRow (u98.heap.size) #[.slice A3 (m + 1) n4]).setRow (u1.heap.size) #[.slice A134 (m + 1) n135]) := below_row hw1 L101 _
              obtain ⟨t9, t10, m3, m4⟩ := two_rows (n3 := n4) (n4 := n135) Z142 Z143 hne N141 N136 D128 D102 D139 D140
              refine rowAt 12 24 (u98.heap.size) #[.slice none 0 0] #[.slice A3 (m + 1) n4] rfl rfl rfl (by kernel_rfl) (by rfl) rfl rfl Z142 infoT rfl (by simp [Value.oneCell']) (hS0.call hw1) ?_
              refine rowAt 13 24 (u1.heap.size) #[.slice none 0 0] #[.slice A134 (m + 1) n135] rfl rfl rfl (by kernel_rfl) (by rfl) rfl rfl ((setRow_other u132 (u98.heap.size) (u1.heap.size) _ (Ne.symm hne)).trans Z143) infoT rfl (by simp [Value.oneCell']) (hS0.call hw2) ?_
              refine wpAnyH_done (by kernel_rfl) ?_ _
              exact rest _ (u98.heap.size) (u1.heap.size) A3 A134 n4 n135 _ _ _ _ _ _ _ _ _ _ _ _ _ _ _ _ _ _ _ _ _ _ _ _ _ _ _ _ _ _ _ _ _ _ _ _ _ _ _ _ _ _ _ _ _ _ _ _ _ _ hw2 t9 t10 m3 m4
      · have hX : Below u0.heap.size u0 (World.alloc u0 (.cells #[.slice none 0 0] 24)) := by go_grown
        have Z146 : (World.alloc u0 (.cells #[.slice none 0 0] 24)).heap[u0.heap.size]? = some (.cells #[.slice none 0 0] 24 (0, 0)) := heap_alloc_new _ _
        generalize World.alloc u0 (.cells #[.slice none 0 0] 24) = u144 at hX Z146 ⊢
        have L147 : u0.heap.size ≤ u0.heap.size := hB0.size
        have hB145 := thenB hB0 hX hB0.size
        clear hX
        simp only [Act.put, List.setIfInBounds_toArray, List.set_cons_zero, List.set_cons_succ]
        refine wpAnyH_ready (rs := [4, 11]) (by kernel_rfl) (by simp) (AllReadyH.cons rfl (callStep 4 60 rfl (by rfl) (by kernel_rfl) (wrap_any A m cap l ⟨10, 0, 0, 0, 0, 0, 0, (q : Int), (q : Int), 0, 0, false⟩ u144 (by omega) HM.out (hS0.call hB145).2.2) ?_) (AllReadyH.cons rfl (valStep 11 10 (.pointer (some ⟨u144.heap.size, 0, none⟩)) (World.alloc u144 (.cells #[.slice none 0 0] 24)) rfl (by rfl) (by kernel_rfl) (hS0.call (thenB hB145 (show Below u144.heap.size u144 (World.alloc u144 (.cells #[.slice none 0 0] 24)) by go_grown) hB145.size)) ?_) (AllReadyH.nil)))
        · rintro e u148 ⟨A150, n151, rfl, ho, hX⟩
          obtain ⟨A150, m154, e', -, N152, b153⟩ := own_nodes ho
          cases e'
          clear ho
          have D155 : ∀ a, A150 = some a → a.block ≠ u0.heap.size := fun a ha => by have h1 := b153 a ha; have h2 := heap_lt Z146; omega
          clear b153
          have Z156 := (hX.block _ (heap_lt Z146)).trans Z146
          have hB149 := thenB hB145 hX hB145.size
          clear hX
          refine ⟨_, rfl, hS0.call hB149, ?_⟩
          simp only [Act.put, List.setIfInBounds_toArray, List.set_cons_zero, List.set_cons_succ]
          refine wpAnyH_ready (rs := [9, 11]) (by kernel_rfl) (by simp) (AllReadyH.cons rfl (callStep 9 65 rfl (by rfl) (by kernel_rfl) (wrap_any A m cap l ⟨10, 0, 0, 0, 0, 0, 0, (q : Int) + 1, -1, 0, 0, false⟩ u148 (by omega) HM.out (hS0.call hB149).2.2) ?_) (AllReadyH.cons rfl (valStep 11 10 (.pointer (some ⟨u148.heap.size, 0, none⟩)) (World.alloc u148 (.cells #[.slice none 0 0] 24)) rfl (by rfl) (by kernel_rfl) (hS0.call (thenB hB149 (show Below u148.heap.size u148 (World.alloc u148 (.cells #[.slice none 0 0] 24)) by go_grown) hB149.size)) ?_) (AllReadyH.nil)))
          · rintro e u157 ⟨A159, n160, rfl, ho, hX⟩
            obtain ⟨A159, m163, e', -, N161, b162⟩ := own_nodes ho
            cases e'
            clear ho
            have D164 : ∀ a, A159 = some a → a.block ≠ u0.heap.size := fun a ha => by have h1 := b162 a ha; have h2 := heap_lt Z156; omega
            clear b162
            have N165 := N152.call hX
            have Z166 := (hX.block _ (heap_lt Z156)).trans Z156
            have hB158 := thenB hB149 hX hB149.size
            clear hX
            refine ⟨_, rfl, hS0.call hB158, ?_⟩
            simp only [Act.put, List.setIfInBounds_toArray, List.set_cons_zero, List.set_cons_succ]
            refine wpAnyH_ready (rs := [11]) (by kernel_rfl) (by simp) (AllReadyH.cons rfl (valStep 11 10 (.pointer (some ⟨u157.heap.size, 0, none⟩)) (World.alloc u157 (.cells #[.slice none 0 0] 24)) rfl (by rfl) (by kernel_rfl) (hS0.call (thenB hB158 (show Below u157.heap.size u157 (World.alloc u157 (.cells #[.slice none 0 0] 24)) by go_grown) hB158.size)) ?_) (AllReadyH.nil))
            · have hX : Below u157.heap.size u157 (World.alloc u157 (.cells #[.slice none 0 0] 24)) := by go_grown
              have Z169 : (World.alloc u157 (.cells #[.slice none 0 0] 24)).heap[u157.heap.size]? = some (.cells #[.slice none 0 0] 24 (0, 0)) := heap_alloc_new _ _
              generalize World.alloc u157 (.cells #[.slice none 0 0] 24) = u167 at hX Z169 ⊢
              have L170 : u0.heap.size ≤ u157.heap.size := hB158.size
              have D171 : ∀ a, A150 = some a → a.block ≠ u157.heap.size := fun a ha => Nat.ne_of_lt (N165.lt (by omega) a ha)
              have D172 : ∀ a, A159 = some a → a.block ≠ u157.heap.size := fun a ha => Nat.ne_of_lt (N161.lt (by omega) a ha)
              have D173 : u0.heap.size ≠ u157.heap.size := by have := heap_lt Z166; omega
              have N174 := N165.call hX
              have N175 := N161.call hX
              have Z176 := (hX.block _ (heap_lt Z166)).trans Z166
              have hB168 := thenB hB158 hX hB158.size
              clear hX
              simp only [Act.put, List.setIfInBounds_toArray, List.set_cons_zero, List.set_cons_succ]
              have hne : u0.heap.size ≠ u157.heap.size := D173
              have hw1 : Below u0.heap.size u0 (u167.setRow (u0.heap.size) #[.slice A150 (m + 1) n151]) := below_row hB168 L147 _
              have hw2 : Below u0.heap.size u0 ((u167.setRow (u0.heap.size) #[.slice A150 (m + 1) n151]).setRow (u157.heap.size) #[.slice A159 (m + 1) n160]) := below_row hw1 L170 _
              obtain ⟨t9, t10, m3, m4⟩ := two_rows (n3 := n151) (n4 := n160) Z176 Z169 hne N174 N175 D155 D171 D164 D172
              refine rowAt 12 24 (u0.heap.size) #[.slice none 0 0] #[.slice A150 (m + 1) n151] rfl rfl rfl (by kernel_rfl) (by rfl) rfl rfl Z176 infoT rfl (by simp [Value.oneCell']) (hS0.call hw1) ?_
              refine rowAt 13 24 (u157.heap.size) #[.slice none 0 0] #[.slice A159 (m + 1) n160] rfl rfl rfl (by kernel_rfl) (by rfl) rfl rfl ((setRow_other u167 (u0.heap.size) (u157.heap.size) _ (Ne.symm hne)).trans Z169) infoT rfl (by simp [Value.oneCell']) (hS0.call hw2) ?_
              refine wpAnyH_done (by kernel_rfl) ?_ _
              exact rest _ (u0.heap.size) (u157.heap.size) A150 A159 n151 n160 _ _ _ _ _ _ _ _ _ _ _ _ _ _ _ _ _ _ _ _ _ _ _ _ _ _ _ _ _ _ _ _ _ _ _ _ _ _ _ _ _ _ _ _ _ _ _ _ _ _ hw2 t9 t10 m3 m4
          · have hX : Below u148.heap.size u148 (World.alloc u148 (.cells #[.slice none 0 0] 24)) := by go_grown
            have Z179 : (World.alloc u148 (.cells #[.slice none 0 0] 24)).heap[u148.heap.size]? = some (.cells #[.slice none 0 0] 24 (0, 0)) := heap_alloc_new _ _
            generalize World.alloc u148 (.cells #[.slice none 0 0] 24) = u177 at hX Z179 ⊢
            have L180 : u0.heap.size ≤ u148.heap.size := hB149.size
            have D181 : ∀ a, A150 = some a → a.block ≠ u148.heap.size := fun a ha => Nat.ne_of_lt (N152.lt (by omega) a ha)
            have D182 : u0.heap.size ≠ u148.heap.size := by have := heap_lt Z156; omega
            have N183 := N152.call hX
            have Z184 := (hX.block _ (heap_lt Z156)).trans Z156
            have hB178 := thenB hB149 hX hB149.size
            clear hX
            simp only [Act.put, List.setIfInBounds_toArray, List.set_cons_zero, List.set_cons_succ]
            refine wpAnyH_ready (rs := [9]) (by kernel_rfl) (by simp) (AllReadyH.cons rfl (callStep 9 65 rfl (by rfl) (by kernel_rfl) (wrap_any A m cap l ⟨10, 0, 0, 0, 0, 0, 0, (q : Int) + 1, -1, 0, 0, false⟩ u177 (by omega) HM.out (hS0.call hB178).2.2) ?_) (AllReadyH.nil))
            · rintro e u185 ⟨A187, n188, rfl, ho, hX⟩
              obtain ⟨A187, m191, e', -, N189, b190⟩ := own_nodes ho
              cases e'
              clear ho
              have D192 : ∀ a, A187 = some a → a.block ≠ u0.heap.size := fun a ha => by have h1 := b190 a ha; have h2 := heap_lt Z184; omega
              have D193 : ∀ a, A187 = some a → a.block ≠ u148.heap.size := fun a ha => by have h1 := b190 a ha; have h2 := heap_lt Z179; omega
              clear b190
              have N194 := N183.call hX
              have Z195 := (hX.block _ (heap_lt Z184)).trans Z184
              have Z196 := (hX.block _ (heap_lt Z179)).trans Z179
              have hB186 := thenB hB178 hX hB178.size
              clear hX
              refine ⟨_, rfl, hS0.call hB186, ?_⟩
              simp only [Act.put, List.setIfInBounds_toArray, List.set_cons_zero, List.set_cons_succ]
              have hne : u0.heap.size ≠ u148.heap.size := D182
              have hw1 : Below u0.heap.size u0 (u185.setRow (u0.heap.size) #[.slice A150 (m + 1) n151]) := below_row hB186 L147 _
              have hw2 : Below u0.heap.size u0 ((u185.setRow (u0.heap.size) #[.slice A150 (m + 1) n151]).setRow (u148.heap.size) #[.slice A187 (m + 1) n188]) := below_row hw1 L180 _
              obtain ⟨t9, t10, m3, m4⟩ := two_rows (n3 := n151) (n4 := n188) Z195 Z196 hne N194 N189 D155 D181 D192 D193
              refine rowAt 12 24 (u0.heap.size) #[.slice none 0 0] #[.slice A150 (m + 1) n151] rfl rfl rfl (by kernel_rfl) (by rfl) rfl rfl Z195 infoT rfl (by simp [Value.oneCell']) (hS0.call hw1) ?_
              refine rowAt 13 24 (u148.heap.size) #[.slice none 0 0] #[.slice A187 (m + 1) n188] rfl rfl rfl (by kernel_rfl) (by rfl) rfl rfl ((setRow_other u185 (u0.heap.size) (u148.heap.size) _ (Ne.symm hne)).trans Z196) infoT rfl (by simp [Value.oneCell']) (hS0.call hw2) ?_
              refine wpAnyH_done (by kernel_rfl) ?_ _
              exact rest _ (u0.heap.size) (u148.heap.size) A150 A187 n151 n188 _ _ _ _ _ _ _ _ _ _ _ _ _ _ _ _ _ _ _ _ _ _ _ _ _ _ _ _ _ _ _ _ _ _ _ _ _ _ _ _ _ _ _ _ _ _ _ _ _ _ hw2 t9 t10 m3 m4
        · have hX : Below u144.heap.size u144 (World.alloc u144 (.cells #[.slice none 0 0] 24)) := by go_grown
          have Z199 : (World.alloc u144 (.cells #[.slice none 0 0] 24)).heap[u144.heap.size]? = some (.cells #[.slice none 0 0] 24 (0, 0)) := heap_alloc_new _ _
          generalize World.alloc u144 (.cells #[.slice none 0 0] 24) = u197 at hX Z199 ⊢
          have L200 : u0.heap.size ≤ u144.heap.size := hB145.size
          have D201 : u0.heap.size ≠ u144.heap.size := by have := heap_lt Z146; omega
          have Z202 := (hX.block _ (heap_lt Z146)).trans Z146
          have hB198 := thenB hB145 hX hB145.size
          clear hX
          simp only [Act.put, List.setIfInBounds_toArray, List.set_cons_zero, List.set_cons_succ]
          refine wpAnyH_ready (rs := [4]) (by kernel_rfl) (by simp) (AllReadyH.cons rfl (callStep 4 60 rfl (by rfl) (by kernel_rfl) (wrap_any A m cap l ⟨10, 0, 0, 0, 0, 0, 0, (q : Int), (q : Int), 0, 0, false⟩ u197 (by omega) HM.out (hS0.call hB198).2.2) ?_) (AllReadyH.nil))
          · rintro e u203 ⟨A205, n206, rfl, ho, hX⟩
            obtain ⟨A205, m209, e', -, N207, b208⟩ := own_nodes ho
            cases e'
            clear ho
            have D210 : ∀ a, A205 = some a → a.block ≠ u0.heap.size := fun a ha => by have h1 := b208 a ha; have h2 := heap_lt Z202; omega
            have D211 : ∀ a, A205 = some a → a.block ≠ u144.heap.size := fun a ha => by have h1 := b208 a ha; have h2 := heap_lt Z199; omega
            clear b208
            have Z212 := (hX.block _ (heap_lt Z202)).trans Z202
            have Z213 := (hX.block _ (heap_lt Z199)).trans Z199
            have hB204 := thenB hB198 hX hB198.size
            clear hX
            refine ⟨_, rfl, hS0.call hB204, ?_⟩
            simp only [Act.put, List.setIfInBounds_toArray, List.set_cons_zero, List.set_cons_succ]
            refine wpAnyH_ready (rs := [9]) (by kernel_rfl) (by simp) (AllReadyH.cons rfl (callStep 9 65 rfl (by rfl) (by kernel_rfl) (wrap_any A m cap l ⟨10, 0, 0, 0, 0, 0, 0, (q : Int) + 1, -1, 0, 0, false⟩ u203 (by omega) HM.out (hS0.call hB204).2.2) ?_) (AllReadyH.nil))
            · rintro e u214 ⟨A216, n217, rfl, ho, hX⟩
              obtain ⟨A216, m220, e', -, N218, b219⟩ := own_nodes ho
              cases e'
              clear ho
              have D221 : ∀ a, A216 = some a → a.block ≠ u0.heap.size := fun a ha => by have h1 := b219 a ha; have h2 := heap_lt Z212; omega
              have D222 : ∀ a, A216 = some a → a.block ≠ u144.heap.size := fun a ha => by have h1 := b219 a ha; have h2 := heap_lt Z213; omega
              clear b219
              have N223 := N207.call hX
              have Z224 := (hX.block _ (heap_lt Z212)).trans Z212
              have Z225 := (hX.block _ (heap_lt Z213)).trans Z213
              have hB215 := thenB hB204 hX hB204.size
              clear hX
              refine ⟨_, rfl, hS0.call hB215, ?_⟩
              simp only [Act.put, List.setIfInBounds_toArray, List.set_cons_zero, List.set_cons_succ]
              have hne : u0.heap.size ≠ u144.heap.size := D201
              have hw1 : Below u0.heap.size u0 (u214.setRow (u0.heap.size) #[.slice A205 (m + 1) n206]) := below_row hB215 L147 _
              have hw2 : Below u0.heap.size u0 ((u214.setRow (u0.heap.size) #[.slice A205 (m + 1) n206]).setRow (u144.heap.size) #[.slice A216 (m + 1) n217]) := below_row hw1 L200 _
              obtain ⟨t9, t10, m3, m4⟩ := two_rows (n3 := n206) (n4 := n217) Z224 Z225 hne N223 N218 D210 D211 D221 D222
              refine rowAt 12 24 (u0.heap.size) #[.slice none 0 0] #[.slice A205 (m + 1) n206] rfl rfl rfl (by kernel_rfl) (by rfl) rfl rfl Z224 infoT rfl (by simp [Value.oneCell']) (hS0.call hw1) ?_
              refine rowAt 13 24 (u144.heap.size) #[.slice none 0 0] #[.slice A216 (m + 1) n217] rfl rfl rfl (by kernel_rfl) (by rfl) rfl rfl ((setRow_other u214 (u0.heap.size) (u144.heap.size) _ (Ne.symm hne)).trans Z225) infoT rfl (by simp [Value.oneCell']) (hS0.call hw2) ?_
              refine wpAnyH_done (by kernel_rfl) ?_ _
              exact rest _ (u0.heap.size) (u144.heap.size) A205 A216 n206 n217 _ _ _ _ _ _ _ _ _ _ _ _ _ _ _ _ _ _ _ _ _ _ _ _ _ _ _ _ _ _ _ _ _ _ _ _ _ _ _ _ _ _ _ _ _ _ _ _ _ _ hw2 t9 t10 m3 m4
      · have hX : Below u0.heap.size u0 (World.alloc u0 (.cells #[.slice none 0 0] 24)) := by go_grown
        have Z228 : (World.alloc u0 (.cells #[.slice none 0 0] 24)).heap[u0.heap.size]? = some (.cells #[.slice none 0 0] 24 (0, 0)) := heap_alloc_new _ _
        generalize World.alloc u0 (.cells #[.slice none 0 0] 24) = u226 at hX Z228 ⊢
        have L229 : u0.heap.size ≤ u0.heap.size := hB0.size
        have hB227 := thenB hB0 hX hB0.size
        clear hX
        simp only [Act.put, List.setIfInBounds_toArray, List.set_cons_zero, List.set_cons_succ]
        refine wpAnyH_ready (rs := [4, 10]) (by kernel_rfl) (by simp) (AllReadyH.cons rfl (callStep 4 60 rfl (by rfl) (by kernel_rfl) (wrap_any A m cap l ⟨10, 0, 0, 0, 0, 0, 0, (q : Int), (q : Int), 0, 0, false⟩ u226 (by omega) HM.out (hS0.call hB227).2.2) ?_) (AllReadyH.cons rfl (valStep 10 9 (.pointer (some ⟨u226.heap.size, 0, none⟩)) (World.alloc u226 (.cells #[.slice none 0 0] 24)) rfl (by rfl) (by kernel_rfl) (hS0.call (thenB hB227 (show Below u226.heap.size u226 (World.alloc u226 (.cells #[.slice none 0 0] 24)) by go_grown) hB227.size)) ?_) (AllReadyH.nil)))
        · rintro e u230 ⟨A232, n233, rfl, ho, hX⟩
          obtain ⟨A232, m236, e', -, N234, b235⟩ := own_nodes ho
          cases e'
          clear ho
          have D237 : ∀ a, A232 = some a → a.block ≠ u0.heap.size := fun a ha => by have h1 := b235 a ha; have h2 := heap_lt Z228; omega
          clear b235
          have Z238 := (hX.block _ (heap_lt Z228)).trans Z228
          have hB231 := thenB hB227 hX hB227.size
          clear hX
          refine ⟨_, rfl, hS0.call hB231, ?_⟩
          simp only [Act.put, List.setIfInBounds_toArray, List.set_cons_zero, List.set_cons_succ]
          refine wpAnyH_ready (rs := [9, 10]) (by kernel_rfl) (by simp) (AllReadyH.cons rfl (callStep 9 65 rfl (by rfl) (by kernel_rfl) (wrap_any A m cap l ⟨10, 0, 0, 0, 0, 0, 0, (q : Int) + 1, -1, 0, 0, false⟩ u230 (by omega) HM.out (hS0.call hB231).2.2) ?_) (AllReadyH.cons rfl (valStep 10 9 (.pointer (some ⟨u230.heap.size, 0, none⟩)) (World.alloc u230 (.cells #[.slice none 0 0] 24)) rfl (by rfl) (by kernel_rfl) (hS0.call (thenB hB231 (show Below u230.heap.size u230 (World.alloc u230 (.cells #[.slice none 0 0] 24)) by go_grown) hB231.size)) ?_) (AllReadyH.nil)))
          · rintro e u239 ⟨A241, n242, rfl, ho, hX⟩
            obtain ⟨A241, m245, e', -, N243, b244⟩ := own_nodes ho
            cases e'
            clear ho
            have D246 : ∀ a, A241 = some a → a.block ≠ u0.heap.size := fun a ha => by have h1 := b244 a ha; have h2 := heap_lt Z238; omega
            clear b244
            have N247 := N234.call hX
            have Z248 := (hX.block _ (heap_lt Z238)).trans Z238
            have hB240 := thenB hB231 hX hB231.size
            clear hX
            refine ⟨_, rfl, hS0.call hB240, ?_⟩
            simp only [Act.put, List.setIfInBounds_toArray, List.set_cons_zero, List.set_cons_succ]
            refine wpAnyH_ready (rs := [10]) (by kernel_rfl) (by simp) (AllReadyH.cons rfl (valStep 10 9 (.pointer (some ⟨u239.heap.size, 0, none⟩)) (World.alloc u239 (.cells #[.slice none 0 0] 24)) rfl (by rfl) (by kernel_rfl) (hS0.call (thenB hB240 (show Below u239.heap.size u239 (World.alloc u239 (.cells #[.slice none 0 0] 24)) by go_grown) hB240.size)) ?_) (AllReadyH.nil))
            · have hX : Below u239.heap.size u239 (World.alloc u239 (.cells #[.slice none 0 0] 24)) := by go_grown
              have Z251 : (World.alloc u239 (.cells #[.slice none 0 0] 24)).heap[u239.heap.size]? = some (.cells #[.slice none 0 0] 24 (0, 0)) := heap_alloc_new _ _
              generalize World.alloc u239 (.cells #[.slice none 0 0] 24) = u249 at hX Z251 ⊢
              have L252 : u0.heap.size ≤ u239.heap.size := hB240.size
              have D253 : ∀ a, A232 = some a → a.block ≠ u239.heap.size := fun a ha => Nat.ne_of_lt (N247.lt (by omega) a ha)
              have D254 : ∀ a, A241 = some a → a.block ≠ u239.heap.size := fun a ha => Nat.ne_of_lt (N243.lt (by omega) a ha)
              have D255 : u239.heap.size ≠ u0.heap.size := by have := heap_lt Z248; omega
              have N256 := N247.call hX
              have N257 := N243.call hX
              have Z258 := (hX.block _ (heap_lt Z248)).trans Z248
              have hB250 := thenB hB240 hX hB240.size
              clear hX
              simp only [Act.put, List.setIfInBounds_toArray, List.set_cons_zero, List.set_cons_succ]
              have hne : u239.heap.size ≠ u0.heap.size := D255
              have hw1 : Below u0.heap.size u0 (u249.setRow (u239.heap.size) #[.slice A232 (m + 1) n233]) := below_row hB250 L252 _
              have hw2 : Below u0.heap.size u0 ((u249.setRow (u239.heap.size) #[.slice A232 (m + 1) n233]).setRow (u0.heap.size) #[.slice A241 (m + 1) n242]) := below_row hw1 L229 _
              obtain ⟨t9, t10, m3, m4⟩ := two_rows (n3 := n233) (n4 := n242) Z251 Z258 hne N256 N257 D253 D237 D254 D246
              refine rowAt 12 24 (u239.heap.size) #[.slice none 0 0] #[.slice A232 (m + 1) n233] rfl rfl rfl (by kernel_rfl) (by rfl) rfl rfl Z251 infoT rfl (by simp [Value.oneCell']) (hS0.call hw1) ?_
              refine rowAt 13 24 (u0.heap.size) #[.slice none 0 0] #[.slice A241 (m + 1) n242] rfl rfl rfl (by kernel_rfl) (by rfl) rfl rfl ((setRow_other u249 (u239.heap.size) (u0.heap.size) _ (Ne.symm hne)).trans Z258) infoT rfl (by simp [Value.oneCell']) (hS0.call hw2) ?_
              refine wpAnyH_done (by kernel_rfl) ?_ _
              exact rest _ (u239.heap.size) (u0.heap.size) A232 A241 n233 n242 _ _ _ _ _ _ _ _ _ _ _ _ _ _ _ _ _ _ _ _ _ _ _ _ _ _ _ _ _ _ _ _ _ _ _ _ _ _ _ _ _ _ _ _ _ _ _ _ _ _ hw2 t9 t10 m3 m4
          · have hX : Below u230.heap.size u230 (World.alloc u230 (.cells #[.slice none 0 0] 24)) := by go_grown
            have Z261 : (World.alloc u230 (.cells #[.slice none 0 0] 24)).heap[u230.heap.size]? = some (.cells #[.slice none 0 0] 24 (0, 0)) := heap_alloc_new _ _
            generalize World.alloc u230 (.cells #[.slice none 0 0] 24) = u259 at hX Z261 ⊢
            have L262 : u0.heap.size ≤ u230.heap.size := hB231.size
            have D263 : ∀ a, A232 = some a → a.block ≠ u230.heap.size := fun a ha => Nat.ne_of_lt (N234.lt (by omega) a ha)
            have D264 : u230.heap.size ≠ u0.heap.size := by have := heap_lt Z238; omega
            have N265 := N234.call hX
            have Z266 := (hX.block _ (heap_lt Z238)).trans Z238
            have hB260 := thenB hB231 hX hB231.size
            clear hX
            simp only [Act.put, List.setIfInBounds_toArray, List.set_cons_zero, List.set_cons_succ]
            refine wpAnyH_ready (rs := [9]) (by kernel_rfl) (by simp) (AllReadyH.cons rfl (callStep 9 65 rfl (by rfl) (by kernel_rfl) (wrap_any A m cap l ⟨10, 0, 0, 0, 0, 0, 0, (q : Int) + 1, -1, 0, 0, false⟩ u259 (by omega) HM.out (hS0.call hB260).2.2) ?_) (AllReadyH.nil))
            · rintro e u267 ⟨A269, n270, rfl, ho, hX⟩
              obtain ⟨A269, m273, e', -, N271, b272⟩ := own_nodes ho
              cases e'
              clear ho
              have D274 : ∀ a, A269 = some a → a.block ≠ u230.heap.size := fun a ha => by have h1 := b272 a ha; have h2 := heap_lt Z261; omega
              have D275 : ∀ a, A269 = some a → a.block ≠ u0.heap.size := fun a ha => by have h1 := b272 a ha; have h2 := heap_lt Z266; omega
              clear b272
              have N276 := N265.call hX
              have Z277 := (hX.block _ (heap_lt Z261)).trans Z261
              have Z278 := (hX.block _ (heap_lt Z266)).trans Z266
              have hB268 := thenB hB260 hX hB260.size
              clear hX
              refine ⟨_, rfl, hS0.call hB268, ?_⟩
              simp only [Act.put, List.setIfInBounds_toArray, List.set_cons_zero, List.set_cons_succ]
              have hne : u230.heap.size ≠ u0.heap.size := D264
              have hw1 : Below u0.heap.size u0 (u267.setRow (u230.heap.size) #[.slice A232 (m + 1) n233]) := below_row hB268 L262 _
              have hw2 : Below u0.heap.size u0 ((u267.setRow (u230.heap.size) #[.slice A232 (m + 1) n233]).setRow (u0.heap.size) #[.slice A269 (m + 1) n270]) := below_row hw1 L229 _
              obtain ⟨t9, t10, m3, m4⟩ := two_rows (n3 := n233) (n4 := n270) Z277 Z278 hne N276 N271 D263 D237 D274 D275
              refine rowAt 12 24 (u230.heap.size) #[.slice none 0 0] #[.slice A232 (m + 1) n233] rfl rfl rfl (by kernel_rfl) (by rfl) rfl rfl Z277 infoT rfl (by simp [Value.oneCell']) (hS0.call hw1) ?_
              refine rowAt 13 24 (u0.heap.size) #[.slice none 0 0] #[.slice A269 (m + 1) n270] rfl rfl rfl (by kernel_rfl) (by rfl) rfl rfl ((setRow_other u267 (u230.heap.size) (u0.heap.size) _ (Ne.symm hne)).trans Z278) infoT rfl (by simp [Value.oneCell']) (hS0.call hw2) ?_
              refine wpAnyH_done (by kernel_rfl) ?_ _
              exact rest _ (u230.heap.size) (u0.heap.size) A232 A269 n233 n270 _ _ _ _ _ _ _ _ _ _ _ _ _ _ _ _ _ _ _ _ _ _ _ _ _ _ _ _ _ _ _ _ _ _ _ _ _ _ _ _ _ _ _ _ _ _ _ _ _ _ hw2 t9 t10 m3 m4
        · have hX : Below u226.heap.size u226 (World.alloc u226 (.cells #[.slice none 0 0] 24)) := by go_grown
          have Z281 : (World.alloc u226 (.cells #[.slice none 0 0] 24)).heap[u226.heap.size]? = some (.cells #[.slice none 0 0] 24 (0, 0)) := heap_alloc_new _ _
          generalize World.alloc u226 (.cells #[.slice none 0 0] 24) = u279 at hX Z281 ⊢
          have L282 : u0.heap.size ≤ u226.heap.size := hB227.size
          have D283 : u226.heap.size ≠ u0.heap.size := by have := heap_lt Z228; omega
          have Z284 := (hX.block _ (heap_lt Z228)).trans Z228
          have hB280 := thenB hB227 hX hB227.size
          clear hX
          simp only [Act.put, List.setIfInBounds_toArray, List.set_cons_zero, List.set_cons_succ]
          refine wpAnyH_ready (rs := [4]) (by kernel_rfl) (by simp) (AllReadyH.cons rfl (callStep 4 60 rfl (by rfl) (by kernel_rfl) (wrap_any A m cap l ⟨10, 0, 0, 0, 0, 0, 0, (q : Int), (q : Int), 0, 0, false⟩ u279 (by omega) HM.out (hS0.call hB280).2.2) ?_) (AllReadyH.nil))
          · rintro e u285 ⟨A287, n288, rfl, ho, hX⟩
            obtain ⟨A287, m291, e', -, N289, b290⟩ := own_nodes ho
            cases e'
            clear ho
            have D292 : ∀ a, A287 = some a → a.block ≠ u226.heap.size := fun a ha => by have h1 := b290 a ha; have h2 := heap_lt Z281; omega
            have D293 : ∀ a, A287 = some a → a.block ≠ u0.heap.size := fun a ha => by have h1 := b290 a ha; have h2 := heap_lt Z284; omega
            clear b290
            have Z294 := (hX.block _ (heap_lt Z281)).trans Z281
            have Z295 := (hX.block _ (heap_lt Z284)).trans Z284
            have hB286 := thenB hB280 hX hB280.size
            clear hX
            refine ⟨_, rfl, hS0.call hB286, ?_⟩
            simp only [Act.put, List.setIfInBounds_toArray, List.set_cons_zero, List.set_cons_succ]
            refine wpAnyH_ready (rs := [9]) (by kernel_rfl) (by simp) (AllReadyH.cons rfl (callStep 9 65 rfl (by rfl) (by kernel_rfl) (wrap_any A m cap l ⟨10, 0, 0, 0, 0, 0, 0, (q : Int) + 1, -1, 0, 0, false⟩ u285 (by omega) HM.out (hS0.call hB286).2.2) ?_) (AllReadyH.nil))
            · rintro e u296 ⟨A298, n299, rfl, ho, hX⟩
              obtain ⟨A298, m302, e', -, N300, b301⟩ := own_nodes ho
              cases e'
              clear ho
              have D303 : ∀ a, A298 = some a → a.block ≠ u226.heap.size := fun a ha => by have h1 := b301 a ha; have h2 := heap_lt Z294; omega
              have D304 : ∀ a, A298 = some a → a.block ≠ u0.heap.size := fun a ha => by have h1 := b301 a ha; have h2 := heap_lt Z295; omega
              clear b301
              have N305 := N289.call hX
              have Z306 := (hX.block _ (heap_lt Z294)).trans Z294
              have Z307 := (hX.block _ (heap_lt Z295)).trans Z295
              have hB297 := thenB hB286 hX hB286.size
              clear hX
              refine ⟨_, rfl, hS0.call hB297, ?_⟩
              simp only [Act.put, List.setIfInBounds_toArray, List.set_cons_zero, List.set_cons_succ]
              have hne : u226.heap.size ≠ u0.heap.size := D283
              have hw1 : Below u0.heap.size u0 (u296.setRow (u226.heap.size) #[.slice A287 (m + 1) n288]) := below_row hB297 L282 _
              have hw2 : Below u0.heap.size u0 ((u296.setRow (u226.heap.size) #[.slice A287 (m + 1) n288]).setRow (u0.heap.size) #[.slice A298 (m + 1) n299]) := below_row hw1 L229 _
              obtain ⟨t9, t10, m3, m4⟩ := two_rows (n3 := n288) (n4 := n299) Z306 Z307 hne N305 N300 D292 D293 D303 D304
              refine rowAt 12 24 (u226.heap.size) #[.slice none 0 0] #[.slice A287 (m + 1) n288] rfl rfl rfl (by kernel_rfl) (by rfl) rfl rfl Z306 infoT rfl (by simp [Value.oneCell']) (hS0.call hw1) ?_
              refine rowAt 13 24 (u0.heap.size) #[.slice none 0 0] #[.slice A298 (m + 1) n299] rfl rfl rfl (by kernel_rfl) (by rfl) rfl rfl ((setRow_other u296 (u226.heap.size) (u0.heap.size) _ (Ne.symm hne)).trans Z307) infoT rfl (by simp [Value.oneCell']) (hS0.call hw2) ?_
              refine wpAnyH_done (by kernel_rfl) ?_ _
              exact rest _ (u226.heap.size) (u0.heap.size) A287 A298 n288 n299 _ _ _ _ _ _ _ _ _ _ _ _ _ _ _ _ _ _ _ _ _ _ _ _ _ _ _ _ _ _ _ _ _ _ _ _ _ _ _ _ _ _ _ _ _ _ _ _ _ _ hw2 t9 t10 m3 m4
  · rw [lenZ_bad hsh]
    generalize shapeZ l m = s at hsh
    have hs1 : ¬ (0 : Int) = s := fun h => hsh h.symm
    go_wp2_with fail
    refine (fixed_any HSN.out.1 HSN.out.2 _).mono ?_
    rintro e w4 ⟨rfl, hb⟩
    have HF3 := Lib.hid (HF1.out.call hb)
    clear hb HF1 c2
    go_wp2_with fail
    go_ret
    exact ⟨rfl, HF3.out.1⟩
end Go.Proofs.Ytcjefhjhmmoocaa
