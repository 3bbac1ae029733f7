/-
  Layer 5: a tree cut (the law's Cut).
-/
import Derived.Test.YtkpijnodhlonfaaGreatDoorAstA
namespace Go.Proofs.YtkpijnodhlonfaaGreatDoor.Ast
open Go.RowKit
set_option maxHeartbeats 1000000 in
theorem cut_any (A : Option Addr) (n cap most : Nat) (w : World) (hc : n ≤ cap) (hcap : cap ≤ 9223372036854775807) (h0 : A = none → n = 0 ∧ cap = 0) (hm : most ≤ 1000) :
    Calls Tryz.prog 9 #[.agg #[.slice A n cap], .int .i64 (most : Int)] w fun e w' => e = .returned (.agg #[.slice A (min n most) cap]) ∧ Below w.heap.size w w' := by
  cases A with
  | none =>
    obtain ⟨rfl, rfl⟩ := h0 rfl
    go_enter Tryz.func9, Tryz.ntmps9
    go_wp2_with fail
    exact bodyPost_ret (v := .agg #[.slice none 0 0]) (by simp [results, Tryz.results9, go_sem]) rfl ⟨by simp, by go_grown⟩
  | some a =>
    clear h0
    by_cases h : n ≤ most
    · have e : min n most = n := by omega
      rw [e]
      have hz : (n : Int) ≤ (most : Int) := by omega
      clear e h
      go_enter Tryz.func9, Tryz.ntmps9
      go_wp2_with fail
      exact bodyPost_ret (v := .agg #[.slice (some a) n cap]) (by simp [results, Tryz.results9, go_sem]) rfl ⟨rfl, by go_grown⟩
    · have e : min n most = most := by omega
      rw [e]
      have hz : (most : Int) < (n : Int) := by omega
      have hq : most ≤ cap := by omega
      clear e h
      go_enter Tryz.func9, Tryz.ntmps9
      go_wp2_with fail
      exact bodyPost_ret (v := .agg #[.slice (some a) most cap]) (by simp [results, Tryz.results9, go_sem]) rfl ⟨rfl, by go_grown⟩
end Go.Proofs.YtkpijnodhlonfaaGreatDoor.Ast
