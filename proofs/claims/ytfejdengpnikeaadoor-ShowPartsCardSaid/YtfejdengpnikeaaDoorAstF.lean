/-
  AstRefD, AstNums, AstLen
-/
import Derived.Test.YtfejdengpnikeaaDoorAstD
import Derived.Test.YtfejdengpnikeaaDoorAstC
import Derived.OwnWalk
import Derived.Test.YtfejdengpnikeaaDoorAstB
import Derived.Test.YtfejdengpnikeaaDoorAstE
namespace Go.Proofs.YtfejdengpnikeaaDoor.Ast
open Go.RowKit

theorem dep_pos (l : Nat → Nd) (j : Nat) : 0 < dep l (j + 1) := by
  rw [dep_succ]
  split
  · omega
  · split <;> omega
theorem deep_0 {l : Nat → Nd} {n : Nat} : deepZ l n = 0 ↔ formZ l n ≠ 0 := by
  unfold deepZ
  constructor
  · intro h h0
    rw [if_pos h0] at h
    obtain ⟨-, hp, -⟩ := form_0 h0
    have := dep_pos l (n - 1)
    rw [show n - 1 + 1 = n by omega] at this
    omega
  · intro h; rw [if_neg h]
theorem deep_le (l : Nat → Nd) (n : Nat) : deepZ l n ≤ n := by unfold deepZ; split; exact dep_le l n; omega
theorem Nodes.call {w u : World} {A : Option Addr} {n : Nat} {l : Nat → Nd} (h : Nodes w A n l) (hb : Below w.heap.size w u) : Nodes u A n l := h.below hb (Nat.le_refl _)

theorem shape_0 {l : Nat → Nd} {n : Nat} (h : shapeZ l n = 0) : formZ l n = 0 ∧ dep l n ≤ 40 := by
  unfold shapeZ at h
  split at h
  · omega
  · rename_i h1
    refine ⟨h, ?_⟩
    rcases Nat.lt_or_ge 40 (dep l n) with h2 | h2
    · exact absurd ⟨h, h2⟩ h1
    · exact h2
/-- How many bytes the tree of node i has, or what is wrong. -/
def lenZ (l : Nat → Nd) (n : Nat) (i : Int) : Int × Int × Int := if shapeZ l n ≠ 0 then (0, 0, shapeZ l n) else if i < 0 ∨ (n : Int) ≤ i then (0, 0, 5) else ((len l (i.toNat + 1)).1, (len l (i.toNat + 1)).2, 0)
abbrev lenV (x : Int × Int × Int) : Value := .tuple #[.int .i64 x.1, .int .i64 x.2.1, .int .i64 x.2.2]
theorem ret_3 {a b c : Int} {x : Int × Int × Int} (h : x = (a, b, c)) : Ending.returned (.tuple #[.int .i64 a, .int .i64 b, .int .i64 c]) = .returned (lenV x) := by rw [h]

end Go.Proofs.YtfejdengpnikeaaDoor.Ast

namespace Go.Proofs.YtfejdengpnikeaaDoor.Ast
open Go.RowKit

theorem grp_len (l : Nat → Nd) : ∀ j, siz l j ≠ 0 → (grp l j).length ≤ siz l j := by
  intro j
  induction j using Nat.strongRecOn with
  | _ j ih =>
    intro hs
    cases j with
    | zero => exact absurd (siz_zero l) hs
    | succ m =>
      obtain ⟨-, hp⟩ := siz_pos hs
      rw [grp_succ]
      rcases hp with ⟨hk, -, -, hz⟩ | ⟨hk, h0, -, -, hz⟩ | ⟨hk, h0, h1, -, -, hz⟩
      · rw [if_pos hk]; simp
      · rw [hk, if_neg (show ¬ (1 : Int) = 0 by decide), if_pos rfl, hz]
        have := ih m (by omega) h0
        split
        · simp; exact this
        · omega
      · rw [hk, if_neg (show ¬ (2 : Int) = 0 by decide), if_neg (show ¬ (2 : Int) = 1 by decide), hz, List.length_append]
        have a := ih m (by omega) h0
        have b := ih (m - siz l m) (by omega) h1
        omega
/-- The groups' numbers. -/
def nums (l : Nat → Nd) (j : Nat) : List Value := (grp l j).map fun i => .int .i64 (l i).n
/-- A slice that is not nil owns these values. -/
def Ints (w : World) (base : Nat) (v : Value) (xs : List Value) : Prop := ∃ g cap, v = .slice (some ⟨g, 0, none⟩) xs.length cap ∧ w.ownsRow base 3 1 v xs.length xs
theorem Ints.call {w w' : World} {base : Nat} {v : Value} {xs : List Value} (h : Ints w base v xs) (hb : Below w.heap.size w w') : Ints w' base v xs := by
  obtain ⟨g, cap, e, ho⟩ := h
  exact ⟨g, cap, e, own_call ho hb⟩
theorem Ints.of_own {w : World} {base n : Nat} {v : Value} {xs : List Value} (h : w.ownsRow base 3 1 v n xs) (hv : v ≠ .slice none 0 0) : Ints w base v xs := by
  have hl : xs.length = n := by simpa using h.1
  subst hl
  rcases h.2 with ⟨e, _⟩ | ⟨g, cap, cur, e, _⟩
  · exact absurd e hv
  · exact ⟨g, cap, e, h⟩
theorem Ints.ne {w : World} {base : Nat} {v : Value} {xs : List Value} (h : Ints w base v xs) : v ≠ .slice none 0 0 := by
  obtain ⟨g, cap, rfl, _⟩ := h
  intro e
  cases e
theorem ints_one (l : List Nat) (f : Nat → Int) : ∀ u ∈ l.map (fun i => Value.int .i64 (f i)), u.oneCell' = true := by
  intro u hu
  obtain ⟨_, _, rfl⟩ := List.mem_map.1 hu
  rfl
theorem Ints.empty (w : World) (base : Nat) (hb : base ≤ w.heap.size) : Ints (w.alloc (.cells #[] 3)) base (.slice (some ⟨w.heap.size, 0, none⟩) 0 0) [] := ⟨w.heap.size, 0, rfl, own_empty w _ _ _ hb⟩
theorem nums_one (w : World) (z : Int) : ∀ j u, [Value.int .i64 z][j]? = some u → (w.alloc (.cells #[.int .i64 z] 3)).cell? (Addr.add ⟨w.heap.size, 0, none⟩ j) = some u := by
  intro j u hu
  match j, hu with
  | 0, hu =>
    simp at hu
    subst hu
    rw [Addr.add_lit]
    unfold World.cell?
    rw [heap_alloc_new]
    rfl

end Go.Proofs.YtfejdengpnikeaaDoor.Ast

namespace Go.Proofs.YtfejdengpnikeaaDoor.Ast
open Go.RowKit

/-- Has what is looked for behind, among the first nodes, one length, that is short enough? -/
def behB (l : Nat → Nd) : Nat → Bool
  | 0 => true
  | k + 1 => behB l k && (if (l k).k = 15 ∨ (l k).k = 16 then decide ((len l k).1 = (len l k).2 ∧ (len l k).2 ≤ 255) else true)
theorem beh_no {l : Nat → Nd} {k : Nat} (h : behB l k = false) : ∀ d, behB l (k + d) = false
  | 0 => h
  | d + 1 => by rw [← Nat.add_assoc, behB, beh_no h d]; rfl
theorem beh_none {l : Nat → Nd} {k n : Nat} (h : behB l k = false) (hk : k ≤ n) : behB l n = false := by
  rw [show n = k + (n - k) by omega]; exact beh_no h _

set_option maxHeartbeats 2000000 in
theorem rightBehinds_any (A : Option Addr) (n cap : Nat) (l : Nat → Nd) (w : World) (hn : n ≤ 1000000) (hs : siz l n = n) (hl : Nodes w A n l) :
    Calls Tryd.prog 15 #[.slice A n cap] w fun e w' => e = .returned (.bool (behB l n)) ∧ Below w.heap.size w w' := by
  have HL := Lib.hid hl
  have HS := Lib.hid hs
  clear hl hs
  go_enter Tryd.func15, Tryd.ntmps15
  go_wp2_with fail
  (with_reducible refine (spans_any A n cap l _ hn HS.out HL.out).mono ?_)
  rintro e w0 ⟨rfl, hr, hb⟩
  have R0 := Lib.hid hr
  have B0 := Lib.hid hb
  clear hr hb
  go_wp2_with fail
  go_loopw [11] (fun i wr => ∃ k : Nat, k ≤ n ∧ i = .int .i64 k ∧ behB l k = true ∧ wr.rowIs w.heap.size 62 (n * 2) (spV l n) ∧ Below w.heap.size w wr) (fun i _ => n - (intOf i).toNat)
  case atStart => exact ⟨0, Nat.zero_le _, rfl, rfl, R0.out, B0.out⟩
  case round =>
    obtain ⟨k, hk, rfl, hbeh, hrow, hb⟩ := hrel
    have HR := Lib.hid hrow
    have HB := Lib.hid hb
    have HH := Lib.hid hbeh
    clear hrow hb hbeh R0 B0
    by_cases hlt : k < n
    · obtain ⟨b, o, rfl, hN⟩ := (HL.out.below HB.out (Nat.le_refl _)).at_ (by omega)
      obtain ⟨c0, c1, c2, c3, c4, c5, c6, c7, c8, c9, c10, c11⟩ := hN.2 k hlt
      have hbw := hN.1
      have hsz := siz_of_whole HS.out hlt
      obtain ⟨hf, hp⟩ := siz_pos hsz
      have lr : w.heap.size < wr.heap.size := HR.out.lt
      have HX := Lib.hid (show behB l (k + 1) = (behB l k && (if (l k).k = 15 ∨ (l k).k = 16 then decide ((len l k).1 = (len l k).2 ∧ (len l k).2 ≤ 255) else true)) from rfl)
      clear hN hsz hf
      by_cases hkk : (l k).k = 15 ∨ (l k).k = 16
      · have hk1 : kidsZ (l k).k = 1 := by unfold kidsZ; rw [if_neg (by omega), if_pos (by omega)]
        obtain ⟨h1, ha⟩ : siz l k ≠ 0 ∧ (l k).a = (k : Int) - 1 := by
          rcases hp with ⟨h, -⟩ | ⟨-, h1, ha, -⟩ | ⟨h, -⟩
          · omega
          · exact ⟨h1, ha⟩
          · omega
        have k0 : k ≠ 0 := by rintro rfl; exact h1 rfl
        rw [ha] at c1
        have r0 := HR.out.cell (i := (k - 1) * 2) (by omega)
        have r1 := HR.out.cell (i := (k - 1) * 2 + 1) (by omega)
        rw [(sp_at l n (k - 1) (by omega)).1, show k - 1 + 1 = k by omega] at r0
        rw [(sp_at l n (k - 1) (by omega)).2, show k - 1 + 1 = k by omega] at r1
        have k1 : (1 : Int) ≤ (k : Int) := by omega
        have HX' := Lib.hid (show behB l (k + 1) = decide ((len l k).1 = (len l k).2 ∧ (len l k).2 ≤ 255) by rw [HX.out, HH.out, if_pos hkk]; simp)
        clear hp hk1 h1 ha k0
        generalize (len l k).1 = x at r0 HX'
        generalize (len l k).2 = y at r1 HX'
        by_cases exy : x = y
        · subst exy
          by_cases e5 : x ≤ 255
          · have HZ := Lib.hid (show behB l (k + 1) = true by rw [HX'.out]; simp; exact e5)
            have e6 : ¬ 255 < x := by omega
            rcases hkk with e | e
            · rw [e] at c0
              clear e
              go_wp2_with fail
              go_roundw
              case rel => exact ⟨k + 1, by omega, by go_num, HZ.out, (HR.out.alloc _).alloc _, (HB.out.alloc HB.out.size _).alloc (by simp; have := HB.out.size; omega) _⟩
              case measure => simp [intOf]; omega
            · rw [e] at c0
              clear e
              go_wp2_with fail
              go_roundw
              case rel => exact ⟨k + 1, by omega, by go_num, HZ.out, (HR.out.alloc _).alloc _, (HB.out.alloc HB.out.size _).alloc (by simp; have := HB.out.size; omega) _⟩
              case measure => simp [intOf]; omega
          · have HZ := Lib.hid (show behB l n = false from beh_none (k := k + 1) (by rw [HX'.out]; simp; omega) (by omega))
            have e6 : 255 < x := by omega
            clear e5
            rcases hkk with e | e
            · rw [e] at c0
              clear e
              go_wp2_with fail
              go_ret
              exact ⟨by rw [HZ.out]; rfl, (HB.out.alloc HB.out.size _).alloc (by simp; have := HB.out.size; omega) _⟩
            · rw [e] at c0
              clear e
              go_wp2_with fail
              go_ret
              exact ⟨by rw [HZ.out]; rfl, (HB.out.alloc HB.out.size _).alloc (by simp; have := HB.out.size; omega) _⟩
        · have HZ := Lib.hid (show behB l n = false from beh_none (k := k + 1) (by rw [HX'.out]; simp [exy]) (by omega))
          have e6 : (x != y) = true := by simpa using exy
          have e7 : (x == y) = false := by simpa using exy
          have e8 : decide (x = y) = false := by simpa using exy
          rcases hkk with e | e
          · rw [e] at c0
            clear e
            go_wp2_with fail
            go_ret
            exact ⟨by rw [HZ.out]; rfl, (HB.out.alloc HB.out.size _).alloc (by simp; have := HB.out.size; omega) _⟩
          · rw [e] at c0
            clear e
            go_wp2_with fail
            go_ret
            exact ⟨by rw [HZ.out]; rfl, (HB.out.alloc HB.out.size _).alloc (by simp; have := HB.out.size; omega) _⟩
      · have HZ := Lib.hid (show behB l (k + 1) = true by rw [HX.out, HH.out, if_neg hkk]; rfl)
        have n15 : ¬ (l k).k = 15 := by omega
        have n16 : ¬ (l k).k = 16 := by omega
        have q1 : ((l k).k != 15) = true := by simpa using n15
        have q2 : ((l k).k != 16) = true := by simpa using n16
        have q3 : ((l k).k == 15) = false := by simpa using n15
        have q4 : ((l k).k == 16) = false := by simpa using n16
        have q5 : decide ((l k).k = 15) = false := by simpa using n15
        have q6 : decide ((l k).k = 16) = false := by simpa using n16
        clear hkk hp
        go_wp2_with fail
        go_roundw
        case rel => exact ⟨k + 1, by omega, by go_num, HZ.out, HR.out.alloc _, HB.out.alloc HB.out.size _⟩
        case measure => simp [intOf]; omega
    · obtain rfl : n = k := by omega
      go_wp2_with fail
      go_ret
      exact ⟨by rw [HH.out]; rfl, HB.out⟩
end Go.Proofs.YtfejdengpnikeaaDoor.Ast
