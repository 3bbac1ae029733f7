/-
  ShoBackK, Sho6
-/
import Derived.Test.YtfejdengpnikeaaGreatDoorShoC
import Derived.Test.YtfejdengpnikeaaGreatDoorShoD
import Derived.Test.YtfejdengpnikeaaGreatDoorParFix
import Derived.Test.YtfejdengpnikeaaGreatDoorParTakes
import Derived.Test.YtfejdengpnikeaaGreatDoorParE
import Derived.Test.YtfejdengpnikeaaGreatDoorParO
namespace Go.Proofs.YtfejdengpnikeaaGreatDoor
open Go.RowKit
open Ast (Nd ndV Nodes TreeBox rightZ)

/-- What the walks ask of a world. -/
def TZ (w : World) : Prop := Tabs w ∧ PowOk w
theorem TZ.call {w w' : World} (h : TZ w) (hb : Below w.heap.size w w') : TZ w' := ⟨h.1.call hb, h.2.call hb⟩
theorem TZ.tabs {w : World} (h : TZ w) : Tabs w := h.1
theorem TZ.tp {w : World} (h : TZ w) : TP w := ⟨h.1.tab, h.2⟩
theorem PKit.sorts (K : PKit) : SortK := ⟨K.sort, K.none⟩
theorem lit_of {l : Nat → Nd} {n : Nat} (h : ∀ i, i < n → Wds (l i)) : LitOkS l n := fun i hi _ => words_of (h i hi)
theorem same_of {l l' : Nat → Nd} {n : Nat} (h : ∀ i, i < n → l' i = l i) : Ast.sameZ l n l' n = true := by
  unfold Ast.sameZ
  rw [decide_eq_true rfl, Bool.true_and]
  exact (Ast.sameB_iff _ _ _).2 fun i hi => (h i hi).symm
theorem right_same {l l' : Nat → Nd} {n : Nat} (h : ∀ i, i < n → l' i = l i) : rightZ l' n = rightZ l n := like_right fun i hi => by rw [h i hi]; exact ⟨rfl, rfl, rfl, rfl, rfl, rfl, rfl⟩
theorem lit_same {l l' : Nat → Nd} {n : Nat} (h : ∀ i, i < n → l' i = l i) (hl : LitOkS l n) : LitOkS l' n := fun i hi hk => by rw [h i hi] at hk ⊢; exact hl i hi hk
/-- A tree that may be, shown in at most 1000 bytes, is parsed as it was. -/
theorem back_at (K : PKit) (n : Nat) (l : Nat → Nd) (hr : rightZ l n = 0) (hL : LitOkS l n) (hs : (showT l n).size ≤ 1000) : ∃ L, (∀ i, i < n → L i = l i) ∧ ∀ (w : World), Tabs w → Calls Tryz.prog 15 #[.string (showT l n)] w fun e w' => ∃ B cap, e = .returned (.tuple #[.agg (trC B n cap), .int .i64 0]) ∧ Nodes w' B n L ∧ Below w.heap.size w w' := by
  obtain ⟨h1, h2, h3, -⟩ := show_back (l := l) hL hr hs
  refine ⟨(subT l n).2, h3, fun w hw => ?_⟩
  refine (parse_at K (showT l n) n 0 (subT l n).2 (by rw [h1]; exact Prod.ext (Prod.ext h2 rfl) rfl) w hw).mono ?_
  rintro e w1 ⟨B, cap, rfl, ht, hb⟩
  exact ⟨B, cap, rfl, ht.nodes, hb⟩
theorem shown_pos {l : Nat → Nd} {n : Nat} (hr : rightZ l n = 0) : 0 < (showT l n).size := by
  obtain ⟨h0, hsz, -, -, -⟩ := right_whole hr
  exact (shown_ok n n (Nat.le_refl _) (backs hr) (by omega)).head.1
end Go.Proofs.YtfejdengpnikeaaGreatDoor

namespace Go.Proofs.YtfejdengpnikeaaGreatDoor
open Go.ChangeShapes Go.WideShapes Go.ChangeAt Go.RowKit

theorem tz_of {w : World} (h : laidMetH Tryz.prog laid6 w) : TZ w := ⟨tab_of h, pow_of8 (h.filter (fun x => x.1 == "internal/strconv.uint64pow10"))⟩
end Go.Proofs.YtfejdengpnikeaaGreatDoor
