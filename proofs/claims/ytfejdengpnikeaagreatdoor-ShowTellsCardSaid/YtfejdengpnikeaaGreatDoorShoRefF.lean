/-
  Layer 8, the document's answer: a node's pattern, a tree's.
-/
import Derived.Test.YtfejdengpnikeaaGreatDoorShoRefE
import Derived.Test.YtfejdengpnikeaaGreatDoorParV
import Derived.Test.YtfejdengpnikeaaGreatDoorShoC
namespace Go.Proofs.YtfejdengpnikeaaGreatDoor
open Go.RowKit
open Ast (Nd ndV ndC siz kidsZ Nodes rightZ)

theorem leaf_kinds {x : Nd} (hf : Ast.fitsB x = true) (hk : kidsZ x.k = 0) : x.k = 0 ∨ x.k = 1 ∨ x.k = 2 ∨ x.k = 3 ∨ x.k = 4 ∨ x.k = 5 ∨ x.k = 6 ∨ x.k = 7 ∨ x.k = 12 := by
  have h2 := kind_le hf
  unfold kidsZ at hk
  revert hk
  repeat' split
  all_goals first | (intro h; exact absurd h (by decide)) | (intro _; omega)
theorem two_kinds {x : Nd} (hf : Ast.fitsB x = true) (hk : kidsZ x.k = 2) : x.k = 8 ∨ x.k = 9 := by
  have h2 := kind_le hf
  unfold kidsZ at hk
  revert hk
  repeat' split
  all_goals first | (intro h; exact absurd h (by decide)) | (intro _; omega)
theorem node8_any (A : Option Addr) (n cap : Nat) (l : Nat → Nd) (hn : n ≤ 500) (hL : LitOkS l n) (hB : BackOk l n) : ∀ m i, i < m → i < n → siz l (i + 1) ≠ 0 → Node8 A n cap l i (showT l (i + 1)) := by
  intro m
  induction m with
  | zero => intro i h; omega
  | succ m ih =>
    intro i him hi hs
    have hle := Ast.siz_le l i
    obtain ⟨hf, ⟨hk, -⟩ | ⟨hk, h0, ha, -⟩ | ⟨hk, h0, h1, ha, hb, -⟩⟩ := Ast.siz_pos hs
    · rw [show_k0 hk]
      rcases leaf_kinds hf hk with K | K | K | K | K | K | K | K | K
      · rw [show leafB (l i) = ⟨#[40, 63, 58, 41]⟩ by unfold leafB; rw [K]; rfl]; exact node8_leaf0 A n cap l i hi hn K
      · rw [show leafB (l i) = setP (setOf (l i)) by unfold leafB; rw [K]; rfl]; exact node8_set A n cap l i hi hn K (hL i hi K)
      · rw [show leafB (l i) = ⟨#[94]⟩ by unfold leafB; rw [K]; rfl]; exact node8_leaf2 A n cap l i hi hn K
      · rw [show leafB (l i) = ⟨#[36]⟩ by unfold leafB; rw [K]; rfl]; exact node8_leaf3 A n cap l i hi hn K
      · rw [show leafB (l i) = ⟨#[40, 63, 109, 58, 94, 41]⟩ by unfold leafB; rw [K]; rfl]; exact node8_leaf4 A n cap l i hi hn K
      · rw [show leafB (l i) = ⟨#[40, 63, 109, 58, 36, 41]⟩ by unfold leafB; rw [K]; rfl]; exact node8_leaf5 A n cap l i hi hn K
      · rw [show leafB (l i) = ⟨#[92, 98]⟩ by unfold leafB; rw [K]; rfl]; exact node8_leaf6 A n cap l i hi hn K
      · rw [show leafB (l i) = ⟨#[92, 66]⟩ by unfold leafB; rw [K]; rfl]; exact node8_leaf7 A n cap l i hi hn K
      · obtain ⟨b1, b9⟩ := hB i hi K
        obtain ⟨m, hm⟩ : ∃ m : Nat, (l i).n = (m : Int) := ⟨(l i).n.toNat, by omega⟩
        have hbt : backT (l i) = ⟨#[92, digB m]⟩ := by unfold backT numT; rw [hm, Int.toNat_natCast, if_pos (by omega)]; rfl
        rw [show leafB (l i) = if (l i).f = true then (⟨#[40, 63, 105, 58]⟩ ++ ⟨#[92, digB m]⟩) ++ ⟨#[41]⟩ else ⟨#[92, digB m]⟩ by unfold leafB; rw [hbt, K]; rfl]
        exact node8_back A n cap l i hi hn K m hm (by omega) (by omega)
    · have hp : 0 < i := by
        rcases Nat.eq_zero_or_pos i with e | e
        · rw [e] at h0; exact absurd (by simp [siz, Ast.sizF]) h0
        · exact e
      have e1 : i - 1 + 1 = i := by omega
      have ha' : (l i).a = ((i - 1 : Nat) : Int) := by omega
      have NA := ih (i - 1) (by omega) (by omega) (by rw [e1]; exact h0)
      rw [e1] at NA
      have za : (showT l i).size ≤ 3000000 := by have := show_size (l := l) i i (Nat.le_refl _) h0; omega
      rw [show_k1 hk]
      by_cases h10 : (l i).k = 10
      · rw [if_pos h10, ByteArray.append_assoc]
        have hx : 0 ≤ (l i).mn ∧ (l i).mn ≤ 100 ∧ (l i).mx ≤ 100 ∧ ((l i).mx = -1 ∨ (l i).mn ≤ (l i).mx) ∧ 0 ≤ (l i).md ∧ (l i).md ≤ 2 := by
          unfold Ast.fitsB at hf
          simp only [decide_eq_true_eq] at hf
          exact hf.2.2.2.2.2.2.resolve_left (fun h => h h10)
        have zo : (oftenB (l i).mn (l i).mx ++ mannerB (l i).md).size ≤ 1000 := by
          have a2 := often_size (l i).mn (l i).mx
          have a3 := manner_size (l i).md
          rw [ByteArray.size_append]; omega
        exact node8_rep A n cap l i hi hn h10 (i - 1) ha' (by omega) _ za NA _ zo fun w => oft8_any (l i) w hx.1 hx.2.1 hx.2.2.1 hx.2.2.2.1 hx.2.2.2.2.1 hx.2.2.2.2.2
      · rw [if_neg h10]
        have hkk := kidsS_1 hk
        rcases (show (l i).k = 11 ∨ (l i).k = 13 ∨ (l i).k = 14 ∨ (l i).k = 15 ∨ (l i).k = 16 ∨ (l i).k = 17 by omega) with K | K | K | K | K | K
        · rw [show openB (l i).k = ⟨#[40]⟩ by unfold openB; rw [K]; rfl]; exact node8_open11 A n cap l i hi hn K (i - 1) ha' (by omega) _ za NA
        · rw [show openB (l i).k = ⟨#[40, 63, 61]⟩ by unfold openB; rw [K]; rfl]; exact node8_open13 A n cap l i hi hn K (i - 1) ha' (by omega) _ za NA
        · rw [show openB (l i).k = ⟨#[40, 63, 33]⟩ by unfold openB; rw [K]; rfl]; exact node8_open14 A n cap l i hi hn K (i - 1) ha' (by omega) _ za NA
        · rw [show openB (l i).k = ⟨#[40, 63, 60, 61]⟩ by unfold openB; rw [K]; rfl]; exact node8_open15 A n cap l i hi hn K (i - 1) ha' (by omega) _ za NA
        · rw [show openB (l i).k = ⟨#[40, 63, 60, 33]⟩ by unfold openB; rw [K]; rfl]; exact node8_open16 A n cap l i hi hn K (i - 1) ha' (by omega) _ za NA
        · rw [show openB (l i).k = ⟨#[40, 63, 62]⟩ by unfold openB; rw [K]; rfl]; exact node8_open17 A n cap l i hi hn K (i - 1) ha' (by omega) _ za NA
    · have hp : 0 < i := by
        rcases Nat.eq_zero_or_pos i with e | e
        · rw [e] at h0; exact absurd (by simp [siz, Ast.sizF]) h0
        · exact e
      have hp1 : 0 < i - siz l i := by
        rcases Nat.eq_zero_or_pos (i - siz l i) with e | e
        · rw [e] at h1; exact absurd (by simp [siz, Ast.sizF]) h1
        · exact e
      have e1 : i - 1 + 1 = i := by omega
      have e2 : i - siz l i - 1 + 1 = i - siz l i := by omega
      have ha' : (l i).a = ((i - siz l i - 1 : Nat) : Int) := by omega
      have hb' : (l i).b = ((i - 1 : Nat) : Int) := by omega
      have NB := ih (i - 1) (by omega) (by omega) (by rw [e1]; exact h0)
      have NA := ih (i - siz l i - 1) (by omega) (by omega) (by rw [e2]; exact h1)
      rw [e1] at NB
      rw [e2] at NA
      have zb : (showT l i).size ≤ 3000000 := by have := show_size (l := l) i i (Nat.le_refl _) h0; omega
      have za : (showT l (i - siz l i)).size ≤ 3000000 := by have := show_size (l := l) (i - siz l i) (i - siz l i) (Nat.le_refl _) h1; have := Ast.siz_le l (i - siz l i); omega
      rw [show_k2 hk]
      rcases two_kinds hf hk with K | K
      · rw [if_pos K]
        exact node8_cat A n cap l i hi hn K _ _ ha' hb' (by omega) (by omega) _ _ za zb NA NB
      · rw [if_neg (by omega)]
        exact node8_alt A n cap l i hi hn K _ _ ha' hb' (by omega) (by omega) _ _ za zb NA NB
set_option maxHeartbeats 2000000 in
theorem tree8_any (A : Option Addr) (n cap : Nat) (l : Nat → Nd) (w : World) (hn : n ≤ 500) (hL : LitOkS l n) (hl : Nodes w A n l) : Calls Tryz.prog 9 #[.slice A n cap] w fun e w' => e = .returned (.string (if rightZ l n = 0 then showT l n else ByteArray.empty)) ∧ Below w.heap.size w w' := by
  have HR := Lib.hid (Ast.rright_any A n cap l w (by omega) hl)
  have HL := Lib.hid hl
  clear hl
  by_cases h0 : rightZ l n = 0
  · rw [if_pos h0]
    rw [h0] at HR
    obtain ⟨hpos, hsz⟩ : 0 < n ∧ siz l n = n := by
      have h1 : Ast.shapeZ l n = 0 := by
        unfold rightZ at h0
        by_cases h : Ast.shapeZ l n ≠ 0
        · rw [if_pos h] at h0; exact h0
        · omega
      have h2 : Ast.formZ l n = 0 := by unfold Ast.shapeZ at h1; split at h1 <;> omega
      have h3 := Ast.form_0 h2
      exact ⟨h3.2.1, h3.2.2⟩
    have e1 : n - 1 + 1 = n := by omega
    have HN := Lib.hid (node8_any A n cap l hn hL (like_backs h0) n (n - 1) (by omega) (by omega) (by rw [e1]; omega))
    rw [e1] at HN
    have q1 : (n : Int) - 1 = ((n - 1 : Nat) : Int) := by omega
    clear h0 hL hsz
    go_enter Tryz.func9, Tryz.ntmps9
    go_wp2_with fail
    refine HR.out.mono ?_
    rintro e w1 ⟨rfl, hb⟩
    have HB := Lib.hid hb
    have HL1 := Lib.hid (HL.out.below hb (Nat.le_refl _))
    clear hb
    go_wp2_with fail
    refine (HN.out _ HL1.out).mono ?_
    rintro e w2 ⟨rfl, hb⟩
    have HB2 := Lib.hid (thenB HB.out hb HB.out.size)
    clear hb
    go_wp2_with fail
    go_ret
    exact ⟨rfl, HB2.out⟩
  · rw [if_neg h0]
    have q : (rightZ l n == 0) = false := beq_eq_false_iff_ne.2 h0
    have q2 : (rightZ l n != 0) = true := by rw [bne, q]; rfl
    generalize rightZ l n = z at HR q q2 h0
    clear hL
    go_enter Tryz.func9, Tryz.ntmps9
    go_wp2_with fail
    refine HR.out.mono ?_
    rintro e w1 ⟨rfl, hb⟩
    have HB := Lib.hid hb
    clear hb
    go_wp2_with fail
    go_ret
    exact ⟨rfl, HB.out⟩
end Go.Proofs.YtfejdengpnikeaaGreatDoor
