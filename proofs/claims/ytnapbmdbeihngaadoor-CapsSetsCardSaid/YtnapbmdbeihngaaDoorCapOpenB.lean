/-
  Layer 10: how a slice of three bytes each reads.
-/
import Derived.Test.YtnapbmdbeihngaaDoorCapOpen
import Derived.Test.YtnapbmdbeihngaaDoorCapSetsLaw
namespace Go.Proofs.YtnapbmdbeihngaaDoor
open Go.ChangeShapes Go.WideShapes Go.ChangeAt Go.RowKit

theorem openRows {H : Type} {enc : TypeId × Value → H} {w : World} {base b0 : Nat} {r : Reach} {spare : Nat → Bool} {held : Bool} {v : Value} {d : DataW H} {p : List MemPlace}
    (hv : Value.okWide Tryd.prog w r b0 48 v) (h : DataW.Trod enc Tryd.prog w base spare held 48 v d p) :
    ∃ (A : Option Addr) (n cap : Nat) (l : Nat → Tri), v = .slice A n cap ∧ n ≤ cap ∧ cap ≤ maxLen ∧ (A = none → n = 0 ∧ cap = 0) ∧ Tris w A n l := by
  obtain ⟨a0, len0, cap0, rfl⟩ := okWide_slice Tryd.underlying48 hv
  obtain ⟨fuel, hf⟩ := h
  rcases DataW.trod_slice Tryd.underlying48 hf with ⟨h1, -⟩ | ⟨a, len, cap, elems, rest, k, -, h1, -, hb, hle, hmax, hlen, hel, -, -⟩
  · cases h1
    exact ⟨none, 0, 0, fun _ => ⟨0, 0, 0⟩, rfl, Nat.le_refl _, Nat.zero_le _, fun _ => ⟨rfl, rfl⟩, fun i hi => by omega⟩
  · cases h1
    rw [nThree] at hel
    have hnd : ∀ i, i < len0 → ∃ y : Tri, w.cells? base (a.add (i * 3)) 3 = some [.int .u8 (y.u : Int), .int .u8 (y.x : Int), .int .u8 (y.y : Int)] ∧ y.u < 256 ∧ y.x < 256 ∧ y.y < 256 := fun i hi => by
      have h2 := hel i hi
      rw [List.getElem?_eq_getElem (by omega)] at h2
      obtain ⟨cs, h3, h4⟩ := Option.bind_eq_some_iff.1 h2
      obtain ⟨p, q, s, rfl, hh⟩ := threeCells h4
      exact ⟨⟨p, q, s⟩, h3, hh⟩
    obtain ⟨l, hL⟩ : ∃ l : Nat → Tri, ∀ i, i < len0 → w.cells? base (a.add (i * 3)) 3 = some [.int .u8 ((l i).u : Int), .int .u8 ((l i).x : Int), .int .u8 ((l i).y : Int)] ∧ (l i).u < 256 ∧ (l i).x < 256 ∧ (l i).y < 256 :=
      ⟨fun i => if hi : i < len0 then Classical.choose (hnd i hi) else ⟨0, 0, 0⟩, fun i hi => by
        simp only [dif_pos hi]; exact Classical.choose_spec (hnd i hi)⟩
    refine ⟨some a, len0, cap0, l, rfl, hle, hmax, (fun h => by cases h), fun i hi => ?_⟩
    obtain ⟨-, -, hc⟩ := World.cells?_some (hL i hi).1
    obtain ⟨b, off, spot⟩ := a
    have hspot : spot = none := by
      obtain ⟨-, -, hc0⟩ := World.cells?_some (hL 0 (by omega)).1
      have h1 : w.cell? (((⟨b, off, spot⟩ : Addr).add (0 * 3)).add 0) = some (.int .u8 ((l 0).u : Int)) := hc0 0 (by decide)
      simpa [Addr.add] using World.cell?_spot h1
    subst hspot
    have hcell : ∀ j, j < 3 → w.cell? ⟨b, off + i * 3 + j, none⟩ = [Value.int .u8 ((l i).u : Int), .int .u8 ((l i).x : Int), .int .u8 ((l i).y : Int)][j]? := fun j hj => by
      rw [← hc j hj, add_plain, add_plain]
    exact ⟨b, off, rfl, block_lt_of_cell (hcell 0 (by decide)), hcell 0 (by decide), hcell 1 (by decide), hcell 2 (by decide), (hL i hi).2⟩
end Go.Proofs.YtnapbmdbeihngaaDoor
