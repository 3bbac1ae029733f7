/-
  Layer 7: the walk of the statement ParseGroups.
-/
import Derived.Test.YtdnbpbngoiahlaaGreatDoorParTakes
import Derived.Test.YtdnbpbngoiahlaaGreatDoorParGroupsM
namespace Go.Proofs.YtdnbpbngoiahlaaGreatDoor
open Go.RowKit
open Ast (Nd ndV joinL wrapL deepZ rightZ cntG Nodes)

theorem ask_bad_at {k b : Nat} (hk : k < 12) (h1 : 1 ≤ b) (h9 : b ≤ 9) (h : 9 < k ∨ k < b) : ∃ L, parseZ (askG k b) = ((0, L), 6) := by
  obtain ⟨e1, e2⟩ := ask_bad hk h1 h9 h
  exact ⟨(parseZ (askG k b)).1.2, by rw [← e1, ← e2]⟩
theorem ask_good_at {k b : Nat} (hk : k < 12) (h1 : 1 ≤ b) (h9 : b ≤ 9) (h : ¬ (9 < k ∨ k < b)) : ∃ n L, parseZ (askG k b) = ((n, L), 0) ∧ cntG L n = k ∧ stG L n = 1 ∧ n ≤ 500 ∧ okG L n = true := by
  obtain ⟨⟨e1, e2, e3, e4⟩, e5⟩ := ask_good hk h1 h9 h
  exact ⟨_, (parseZ (askG k b)).1.2, by rw [← e1], e2, e3, e4, e5⟩
theorem str48 (w : World) (c : Nat) (hc : c ≤ 9) : (convert 50 9 (.slice (some ⟨w.heap.size, 0, none⟩) 1 1)).run Tryz.prog (w.alloc (.cells #[.int .u8 (48 + (c : Int))] 5)) = .ok (.string ⟨#[UInt8.ofNat (48 + c)]⟩) (w.alloc (.cells #[.int .u8 (48 + (c : Int))] 5)) := by
  have h := run_convert_bytes_back (P := Tryz.prog) (w.alloc (.cells #[.int .u8 (48 + (c : Int))] 5)) 50 9 5 ⟨w.heap.size, 0, none⟩ 1 [UInt8.ofNat (48 + c)] Tryz.underlying50 Tryz.underlying5 Tryz.underlying9 (fun j hj => by
    obtain rfl : j = 0 := by simpa using hj
    rw [Addr.add_lit]
    unfold World.cell?
    rw [heap_alloc_new]
    simp
    omega)
  exact h
set_option maxRecDepth 100000 in
set_option maxHeartbeats 32000000 in
theorem parseGroups_any (K : PKit) (a b : Nat) (w : World) (hw : Tabs w) (ha0 : a < 256) (hb0 : b < 256) : Calls Tryz.prog 9 #[.int .u8 (a : Int), .int .u8 (b : Int)] w fun e w' => e = .returned (.bool true) ∧ Below w.heap.size w w' := by
  have HF := Lib.hid (fun w (h : Tabs w) => fixed_any K w h)
  have HP0 := Lib.hid (fun p w (h : Tabs w) => parse_g K p w h)
  have HK := Lib.hid K
  have HT := Lib.hid hw
  clear hw K
  obtain ⟨k, hk⟩ : ∃ k, k = a % 12 := ⟨_, rfl⟩
  obtain ⟨c, hc⟩ : ∃ c, c = 1 + b % 9 := ⟨_, rfl⟩
  have HE1 := Lib.hid (show (a : Int) % 12 = (k : Int) by omega)
  have HE2 := Lib.hid (show 1 + (b : Int) % 9 = (c : Int) by omega)
  have HKB := Lib.hid (show k < 12 ∧ 1 ≤ c ∧ c ≤ 9 by omega)
  clear hk hc
  go_enter Tryz.func9, Tryz.ntmps9
  go_wp2_with fail
  rw [HE1.out, HE2.out]
  clear HE1 HE2 ha0 hb0
  go_loopw [7, 8] (fun s7 s8 wr => ∃ i : Nat, i ≤ k ∧ s8 = .int .i64 i ∧ s7 = .string (patG i) ∧ Below w.heap.size w wr) (fun _ s8 _ => k - (intOf s8).toNat)
  case atStart => exact ⟨0, Nat.zero_le _, rfl, rfl, by go_grown⟩
  case round =>
    obtain ⟨i, hi, rfl, rfl, hb⟩ := hrel
    have HB := Lib.hid hb
    have hsz := patG_size i
    clear hb
    have HP := Lib.hid (show patG (i + 1) = ({ data := #[40, 97] } : ByteArray) ++ patG i ++ ({ data := #[41] } : ByteArray) from rfl)
    have HQ := Lib.hid (show askG i c = patG i ++ ({ data := #[92] } : ByteArray) ++ ⟨#[UInt8.ofNat (48 + c)]⟩ from rfl)
    obtain ⟨P, hP⟩ : ∃ P, P = patG i := ⟨_, rfl⟩
    rw [← hP] at HP HQ hsz ⊢
    clear hP
    by_cases hlt : i < k
    · have r1 : (i : Int) < (k : Int) := by omega
      have hk12 := HKB.out.1
      have z1 : ¬ 2 + P.size > 9223372036854775807 := by omega
      have z2 : ¬ 2 + P.size + 1 > 9223372036854775807 := by omega
      have HI := Lib.hid hlt
      clear hlt hi hsz
      go_wp2_with fail
      go_roundw
      case rel => exact ⟨i + 1, HI.out, by have := HI.out; have := HKB.out.1; go_num, by rw [HP.out], HB.out⟩
      case measure => have := HI.out; have := HKB.out.1; simp [intOf]; omega
    · obtain rfl : k = i := by omega
      obtain ⟨hk12, hc1, hc9⟩ := HKB.out
      have z1 : ¬ P.size + 1 > 9223372036854775807 := by omega
      have z2 : ¬ P.size + 1 + 1 > 9223372036854775807 := by omega
      have r2 : (1 : Int) ≤ (c : Int) := by omega
      have r3 : (c : Int) ≤ 9 := by omega
      have HI := Lib.hid hlt
      clear hlt hi HP hsz
      have hs1 := str48 wr c hc9
      obtain ⟨X, hX⟩ : ∃ X : ByteArray, X = ⟨#[UInt8.ofNat (48 + c)]⟩ := ⟨_, rfl⟩
      have hX1 : X.size = 1 := by rw [hX]; rfl
      rw [← hX] at hs1 HQ
      clear hX
      obtain ⟨Q, hQ⟩ : ∃ Q, Q = askG k c := ⟨_, rfl⟩
      have HQ2 := Lib.hid (hQ.trans HQ.out)
      have hQ0 := hQ
      clear hQ
      have HQ3 := Lib.hid hQ0
      by_cases hbad : 9 < k ∨ k < c
      · have hb9 : (9 : Int) < (k : Int) ∨ ¬ (9 : Int) < (k : Int) ∧ (k : Int) < (c : Int) := by omega
        rcases hb9 with hb9 | ⟨hb9, hb8⟩
        · obtain ⟨L, hL⟩ := ask_bad_at hk12 hc1 hc9 hbad
          rw [← HQ3.out] at hL
          go_wp2_with fail
          rw [← HQ2.out]
          clear hs1
          with_reducible refine (parse_at HK.out Q 0 6 L hL _ (HT.out.call (HB.out.trans (((Below.refl _ wr).alloc (Nat.le_refl _) _).mono HB.out.size)))).mono ?_
          rintro e w1 ⟨B, cap, rfl, ht, hb⟩
          have HNn := Lib.hid ht.nodes
          have HBn := Lib.hid (HB.out.trans ((((Below.refl _ wr).alloc (Nat.le_refl _) _).trans (hb.mono (by simp))).mono HB.out.size))
          clear ht hb
          simp only [] at HNn ⊢
          go_wp2_with (refine storeNewTr rfl _ _ rfl w1 B 0 cap rfl rfl rfl ?_; intro v1 hx hN; refine stopP ?_)
          unfold StopP
          have HX1 := Lib.hid hx.out
          have HB1 := Lib.hid (thenB HBn.out hN.out HBn.out.size)
          have HN1 := Lib.hid (HNn.out.below hN.out (Nat.le_refl _))
  
          have hc1 := tree_cell HX1.out
          clear hx hN HBn HNn
          go_wp2_with fail
          with_reducible refine (HF.out _ (HT.out.call HB1.out)).mono ?_
          rintro e wf3 ⟨rfl, hb⟩
          have HZ := Lib.hid (thenB HB1.out hb HB1.out.size)
          clear hb
          go_wp2_with fail
          go_ret
          exact ⟨rfl, HZ.out⟩
        · obtain ⟨L, hL⟩ := ask_bad_at hk12 hc1 hc9 hbad
          rw [← HQ3.out] at hL
          go_wp2_with fail
          rw [← HQ2.out]
          clear hs1
          with_reducible refine (parse_at HK.out Q 0 6 L hL _ (HT.out.call (HB.out.trans (((Below.refl _ wr).alloc (Nat.le_refl _) _).mono HB.out.size)))).mono ?_
          rintro e w1 ⟨B, cap, rfl, ht, hb⟩
          have HNn := Lib.hid ht.nodes
          have HBn := Lib.hid (HB.out.trans ((((Below.refl _ wr).alloc (Nat.le_refl _) _).trans (hb.mono (by simp))).mono HB.out.size))
          clear ht hb
          simp only [] at HNn ⊢
          go_wp2_with (refine storeNewTr rfl _ _ rfl w1 B 0 cap rfl rfl rfl ?_; intro v1 hx hN; refine stopP ?_)
          unfold StopP
          have HX1 := Lib.hid hx.out
          have HB1 := Lib.hid (thenB HBn.out hN.out HBn.out.size)
          have HN1 := Lib.hid (HNn.out.below hN.out (Nat.le_refl _))
  
          have hc1 := tree_cell HX1.out
          clear hx hN HBn HNn
          go_wp2_with fail
          with_reducible refine (HF.out _ (HT.out.call HB1.out)).mono ?_
          rintro e wf3 ⟨rfl, hb⟩
          have HZ := Lib.hid (thenB HB1.out hb HB1.out.size)
          clear hb
          go_wp2_with fail
          go_ret
          exact ⟨rfl, HZ.out⟩
      · have hb9 : ¬ (9 : Int) < (k : Int) := by omega
        have hb8 : ¬ (k : Int) < (c : Int) := by omega
        obtain ⟨n, L, hL, hcn, hst, hn5, hok⟩ := ask_good_at hk12 hc1 hc9 hbad
        rw [← HQ3.out] at hL
        go_wp2_with fail
        rw [← HQ2.out]
        clear hs1
        with_reducible refine (parse_at HK.out Q n 0 L hL _ (HT.out.call (HB.out.trans (((Below.refl _ wr).alloc (Nat.le_refl _) _).mono HB.out.size)))).mono ?_
        rintro e w1 ⟨B, cap, rfl, ht, hb⟩
        have HNn := Lib.hid ht.nodes
        have HBn := Lib.hid (HB.out.trans ((((Below.refl _ wr).alloc (Nat.le_refl _) _).trans (hb.mono (by simp))).mono HB.out.size))
        clear ht hb
        simp only [] at HNn ⊢
        go_wp2_with (refine storeNewTr rfl _ _ rfl w1 B n cap rfl rfl rfl ?_; intro v1 hx hN; refine stopP ?_)
        unfold StopP
        have HX1 := Lib.hid hx.out
        have HB1 := Lib.hid (thenB HBn.out hN.out HBn.out.size)
        have HN1 := Lib.hid (HNn.out.below hN.out (Nat.le_refl _))

        have hc1 := tree_cell HX1.out
        clear hx hN HBn HNn
        go_wp2_with fail
        refine (Ast.groups_any B n cap L _ (by omega) HN1.out).mono ?_
        rintro e w3 ⟨rfl, hb⟩
        rw [hcn]
        have HBn := Lib.hid (thenB HB1.out hb HB1.out.size)
        clear HB1
        have HB1 := HBn
        clear HBn
        have HX1 := Lib.hid (HX1.out.below hb HX1.out.lt)
        have HN1 := Lib.hid (HN1.out.below hb (Nat.le_refl _))
        clear hb
        have hc1 := tree_cell HX1.out
        have HOK := Lib.hid hok
        clear hok
        go_wp2_with fail
        go_loopw [11, 12] (fun s11 s12 wq => ∃ i : Nat, i ≤ n ∧ s12 = .int .i64 i ∧ s11 = .int .i64 (stG L i) ∧ Below w.heap.size w wq ∧ BoxV 24 wq w1.heap.size (trC B n cap) ∧ Ast.Nodes wq B n L) (fun _ s12 _ => n - (intOf s12).toNat)
        case atStart => exact ⟨0, Nat.zero_le _, rfl, rfl, HB1.out, HX1.out, HN1.out⟩
        case round =>
          obtain ⟨i, hi, rfl, rfl, hb, hbx, hnd⟩ := hrel
          have HBi := Lib.hid hb
          have HXi := Lib.hid hbx
          have HNi := Lib.hid hnd
          have hci := tree_cell hbx
          have HS := Lib.hid (show stG L (i + 1) = if (L i).k = 11 then (L i).n else stG L i from rfl)
          by_cases hlt : i < n
          · obtain ⟨b, o, rfl, hbw, hx⟩ := hnd i hlt
            have HG := Lib.hid (fun h => ok_le HOK.out i hlt h)
            obtain ⟨x, hx0⟩ : ∃ x, x = L i := ⟨_, rfl⟩
            obtain ⟨s, hs0⟩ : ∃ s, s = stG L i := ⟨_, rfl⟩
            rw [← hx0, ← hs0] at HS HG
            rw [← hx0] at hx
            rw [← hs0]
            obtain ⟨c0, c1, c2, c3, c4, c5, c6, c7, c8, c9, c10, c11⟩ := hx
            have HLT := Lib.hid hlt
            have r5 : (i : Int) < (n : Int) := by omega
            clear hx0 hs0 hb hbx hnd hlt hi
            go_wp2_with (refine storeNewNd rfl _ _ rfl wr x rfl _ rfl rfl rfl ?_; intro v hx hN; clear c0 c1 c2 c3 c4 c5 c6 c7 c8 c9 c10 c11; refine stopP ?_)
            unfold StopP
            have HBv := Lib.hid (thenB HBi.out hN.out HBi.out.size)
            have HXv := Lib.hid (HXi.out.below hN.out HXi.out.lt)
            have HNv := Lib.hid (HNi.out.below hN.out (Nat.le_refl _))
            have d0 : v.cell? ⟨wr.heap.size, 0, none⟩ = some (.int .i64 x.k) := (cell_of_row v wr.heap.size 0 _ _ _ hx.out).trans rfl
            have d10 : v.cell? ⟨wr.heap.size, 10, none⟩ = some (.int .i64 x.n) := (cell_of_row v wr.heap.size 10 _ _ _ hx.out).trans rfl
            clear hx hN hci hbw
            by_cases h11 : x.k = 11
            · obtain ⟨g1, g2⟩ := HG.out h11
              rw [if_pos h11] at HS
              rw [h11] at d0
              have g3 : ¬ x.n < 1 := by omega
              have g4 : ¬ s ≤ x.n := by omega
              clear h11
              go_wp2_with fail
              go_roundw
              case rel => exact ⟨i + 1, HLT.out, by go_num, by rw [HS.out], HBv.out, HXv.out, HNv.out⟩
              case measure => have := HLT.out; simp [intOf]; omega
            · have q : (x.k == 11) = false := by simpa using h11
              rw [if_neg h11] at HS
              clear h11
              go_wp2_with fail
              go_roundw
              case rel => exact ⟨i + 1, HLT.out, by go_num, by rw [HS.out], HBv.out, HXv.out, HNv.out⟩
              case measure => have := HLT.out; simp [intOf]; omega
          · obtain rfl : n = i := by omega
            rw [hst]
            clear HS hb hbx hnd hlt hi
            go_wp2_with fail
            with_reducible refine (HF.out _ (HT.out.call HBi.out)).mono ?_
            rintro e wf ⟨rfl, hb⟩
            have HZ := Lib.hid (thenB HBi.out hb HBi.out.size)
            clear hb
            go_wp2_with fail
            go_ret
            exact ⟨rfl, HZ.out⟩
end Go.Proofs.YtdnbpbngoiahlaaGreatDoor
