/-
  Layer 12: a store of the call's own, as the statements use it; how frames that came in read.
-/
import Derived.Test.YtecfndpbgebpiaaFrmFix
import Derived.Test.YtecfndpbgebpiaaRows
import Derived.ProofKit
import Derived.OpenShut
namespace Go.Proofs.Ytecfndpbgebpiaa
open Go.ChangeShapes Go.WideShapes Go.ChangeAt Go.RowKit

/-- A store that was made behind w0, and that nothing else knows. -/
structure SX (w0 w : World) (p m : Nat) (most : Int) (M : List Pl) : Prop where
  st : ∃ b, St w p b m most M ∧ w0.heap.size ≤ b
  low : Below w0.heap.size w0 w
  le : w0.heap.size ≤ p ∧ w0.heap.size ≤ m
theorem SX.call {w0 w w' : World} {p m : Nat} {most : Int} {M : List Pl} (h : SX w0 w p m most M) (hb : Below w.heap.size w w') : SX w0 w' p m most M := by
  obtain ⟨b, h1, h2⟩ := h.st
  exact ⟨⟨b, h1.below hb (Nat.le_refl _), h2⟩, thenB h.low hb h.low.size, h.le⟩
theorem SX.alloc {w0 w : World} {p m : Nat} {most : Int} {M : List Pl} (h : SX w0 w p m most M) (o : Obj) : SX w0 (w.alloc o) p m most M := h.call ((Below.refl _ w).alloc (Nat.le_refl _) o)
theorem SX.drew {w0 w : World} {p m : Nat} {most : Int} {M : List Pl} (h : SX w0 w p m most M) : SX w0 w.drew p m most M := h.call (Below.refl _ w).drew
theorem SX.wf {w0 w : World} {p m : Nat} {most : Int} {M : List Pl} (h : SX w0 w p m most M) : Wf M := by obtain ⟨b, h1, -⟩ := h.st; exact h1.wf
/-- A store into a block of the call's own that is none of the store's. -/
theorem SX.put_new {w0 w w' : World} {p m : Nat} {most : Int} {M : List Pl} (h : SX w0 w p m most M) {B : Nat} (hB : ∀ j, j < B → w'.heap[j]? = w.heap[j]?) (hb : Below w0.heap.size w0 w') (hs : ∃ b, St w p b m most M ∧ w0.heap.size ≤ b ∧ p < B ∧ b < B ∧ m < B) : SX w0 w' p m most M := by
  obtain ⟨b, h1, h2, h3, h4, h5⟩ := hs
  exact ⟨⟨b, h1.keep fun j hj => hB j (by rcases hj with rfl | rfl | rfl <;> assumption), h2⟩, hb, h.le⟩

theorem xnew (most : Int) (w : World) (h : 0 ≤ most ∧ most ≤ 1048576) : Calls Try.prog 8 #[.int .i64 most] w fun e w' => ∃ p m, e = .returned (.tuple #[ptr p, .int .i64 0]) ∧ SX w w' p m most [(zF, 0)] := by
  refine (new_any most w).mono ?_
  rintro e w' ⟨hB, ⟨-, -, p, b, m, rfl, hp, hb, hm, hst⟩ | ⟨h2, -⟩⟩
  · exact ⟨p, m, rfl, ⟨b, hst, hb⟩, hB, hp, hm⟩
  · exact absurd h h2
section
variable {w0 w : World} {p m : Nat} {most : Int} {M : List Pl}
theorem xput (f : Fr) (h : SX w0 w p m most M) (hf : f.i64) (hlen : M.length < 1000000) : Calls Try.prog 10 #[ptr p, .agg (frC f)] w fun e w' => e = .returned (.tuple #[.int .i64 ((putF most M f).2.1 : Int), .int .i64 (putF most M f).2.2]) ∧ SX w0 w' p m most (putF most M f).1 := by
  obtain ⟨b, h1, h2⟩ := h.st
  refine (put_any p b m most M f w h1 hf hlen).mono ?_
  rintro e w' ⟨rfl, b', k1, k2, k3⟩
  have hs := h.low.size
  exact ⟨rfl, ⟨b', k1, by rcases k2 with e | e <;> omega⟩, k3.below h.low hs h.le.1 h2 h.le.2, h.le⟩
theorem xlen (h : SX w0 w p m most M) : Calls Try.prog 15 #[ptr p] w fun e w' => e = .returned (.int .i64 ((M.length : Int) - 1)) ∧ SX w0 w' p m most M := by
  obtain ⟨b, h1, h2⟩ := h.st
  exact (len_any p b m most M w h1).mono fun e w' k => ⟨k.1, h.call k.2⟩
theorem xget (z : Int) (h : SX w0 w p m most M) : Calls Try.prog 13 #[ptr p, .int .i64 z] w fun e w' => e = .returned (.tuple #[.agg (frC (getF M z)), .bool (decide (0 ≤ z ∧ z < M.length))]) ∧ SX w0 w' p m most M := by
  obtain ⟨b, h1, h2⟩ := h.st
  exact (get_any p b m most M z w h1).mono fun e w' k => ⟨k.1, h.call k.2⟩
theorem xdeep (z : Int) (h : SX w0 w p m most M) : Calls Try.prog 16 #[ptr p, .int .i64 z] w fun e w' => e = .returned (.int .i64 (dpF M z : Int)) ∧ SX w0 w' p m most M := by
  obtain ⟨b, h1, h2⟩ := h.st
  exact (deep_any p b m most M z w h1).mono fun e w' k => ⟨k.1, h.call k.2⟩
end

/-- .. and these blocks are none of the store's. -/
structure SG (G : Nat → Prop) (w0 w : World) (p m : Nat) (most : Int) (M : List Pl) : Prop where
  st : ∃ b, St w p b m most M ∧ w0.heap.size ≤ b ∧ ¬ G b
  low : Below w0.heap.size w0 w
  le : w0.heap.size ≤ p ∧ w0.heap.size ≤ m
  no : ¬ G p ∧ ¬ G m
  lt : ∀ j, G j → j < w.heap.size
section
variable {G G' : Nat → Prop} {w0 w w' : World} {p m : Nat} {most : Int} {M : List Pl}
theorem SG.sx (h : SG G w0 w p m most M) : SX w0 w p m most M := by
  obtain ⟨b, h1, h2, -⟩ := h.st
  exact ⟨⟨b, h1, h2⟩, h.low, h.le⟩
theorem SG.call (h : SG G w0 w p m most M) (hb : Below w.heap.size w w') : SG G w0 w' p m most M := by
  obtain ⟨b, h1, h2, h3⟩ := h.st
  exact ⟨⟨b, h1.below hb (Nat.le_refl _), h2, h3⟩, thenB h.low hb h.low.size, h.le, h.no, fun j hj => Nat.lt_of_lt_of_le (h.lt j hj) hb.size⟩
/-- Whatever is new is none of the store's. -/
theorem SX.guard (h : SX w0 w p m most M) (hb : Below w.heap.size w w') (G : Nat → Prop) (hG : ∀ j, G j → w.heap.size ≤ j ∧ j < w'.heap.size) : SG G w0 w' p m most M := by
  obtain ⟨b, h1, h2⟩ := h.st
  have ap := h1.apart
  exact ⟨⟨b, h1.below hb (Nat.le_refl _), h2, fun k => by have := (hG b k).1; omega⟩, thenB h.low hb h.low.size, h.le, ⟨fun k => by have := (hG p k).1; omega, fun k => by have := (hG m k).1; omega⟩, fun j hj => (hG j hj).2⟩
/-- Other blocks, that are new or were none of the store's before. -/
theorem SG.more (h : SG G w0 w p m most M) (hb : Below w.heap.size w w') (hG : ∀ j, G' j → j < w'.heap.size ∧ (G j ∨ w.heap.size ≤ j)) : SG G' w0 w' p m most M := by
  obtain ⟨b, h1, h2, h3⟩ := h.st
  have ap := h1.apart
  refine ⟨⟨b, h1.below hb (Nat.le_refl _), h2, fun k => ?_⟩, thenB h.low hb h.low.size, h.le, ⟨fun k => ?_, fun k => ?_⟩, fun j hj => (hG j hj).1⟩
  · rcases (hG b k).2 with e | e
    · exact h3 e
    · omega
  · rcases (hG p k).2 with e | e
    · exact h.no.1 e
    · omega
  · rcases (hG m k).2 with e | e
    · exact h.no.2 e
    · omega
/-- A change of these blocks alone. -/
theorem SG.touch (h : SG G w0 w p m most M) (hb : Below w0.heap.size w0 w') (hs : w.heap.size ≤ w'.heap.size) (hk : ∀ j, j < w.heap.size → ¬ G j → w'.heap[j]? = w.heap[j]?) : SG G w0 w' p m most M := by
  obtain ⟨b, h1, h2, h3⟩ := h.st
  have ap := h1.apart
  exact ⟨⟨b, h1.keep fun j hj => by rcases hj with rfl | rfl | rfl; exact hk _ (by omega) h.no.1; exact hk _ (by omega) h3; exact hk _ (by omega) h.no.2, h2, h3⟩, hb, h.le, h.no, fun j hj => Nat.lt_of_lt_of_le (h.lt j hj) hs⟩
theorem gput (f : Fr) (h : SG G w0 w p m most M) (hf : f.i64) (hlen : M.length < 1000000) : Calls Try.prog 10 #[ptr p, .agg (frC f)] w fun e w' => e = .returned (.tuple #[.int .i64 ((putF most M f).2.1 : Int), .int .i64 (putF most M f).2.2]) ∧ SG G w0 w' p m most (putF most M f).1 ∧ (∀ j, G j → w'.heap[j]? = w.heap[j]?) ∧ w.heap.size ≤ w'.heap.size := by
  obtain ⟨b, h1, h2, h3⟩ := h.st
  refine (put_any p b m most M f w h1 hf hlen).mono ?_
  rintro e w' ⟨rfl, b', k1, k2, k3⟩
  have hs := h.low.size
  refine ⟨rfl, ⟨⟨b', k1, by rcases k2 with e | e <;> omega, fun k => ?_⟩, k3.below h.low hs h.le.1 h2 h.le.2, h.le, h.no, fun j hj => Nat.lt_of_lt_of_le (h.lt j hj) k3.size⟩, fun j hj => k3.keep j (h.lt j hj) (fun e => h.no.1 (e ▸ hj)) (fun e => h3 (e ▸ hj)) (fun e => h.no.2 (e ▸ hj)), k3.size⟩
  rcases k2 with e | e
  · exact h3 (e ▸ k)
  · have := h.lt b' k; omega
end

/-- The frames l 0 to l (n - 1) lie where A leads. -/
def Frames (w : World) (A : Option Addr) (n : Nat) (l : Nat → Fr) : Prop := ∀ i, i < n → ∃ b o, A = some ⟨b, o, none⟩ ∧ b < w.heap.size ∧ w.rangeAt b (o + i * 5) (frL (l i)) ∧ (l i).i64
theorem Frames.below {w u : World} {A : Option Addr} {n : Nat} {l : Nat → Fr} {B : Nat} (h : Frames w A n l) (hb : Below B w u) (hB : w.heap.size ≤ B) : Frames u A n l := fun i hi => by
  obtain ⟨b, o, h1, h2, h3, h4⟩ := h i hi
  exact ⟨b, o, h1, Nat.lt_of_lt_of_le h2 hb.size, fun j v hv => (hb.cell (p := ⟨b, o + i * 5 + j, none⟩) (Nat.lt_of_lt_of_le h2 hB)).trans (h3 j v hv), h4⟩
theorem wf_bd {n : Int} (h : (Lit.int .i64 n).wf = true) : I64 n := by
  simp [Lit.wf, IntKind.min, IntKind.max, IntKind.signed, IntKind.bits] at h
  exact h
theorem cellsSl : Try.prog.cellsOf 22 = 1 := by kernel_rfl
section
variable {H : Type} {enc : TypeId × Value → H} {w : World} {base : Nat} {spare : Nat → Bool} {held : Bool}
theorem frCells {n : Nat} {cs : List Value} {x : DataW H × List MemPlace} (h : DataW.trod enc Try.prog w base spare held n 33 cs = some x) : ∃ y : Fr, cs = frL y ∧ y.i64 := by
  obtain ⟨ys, m, -, -, hl, hsz, hf⟩ := DataW.trod_struct Try.underlying33 h
  rw [cellsF] at hl
  match cs, hl with
  | [c0, c1, c2, c3, c4], _ =>
    match ys, hsz with
    | [y0, y1, y2, y3, y4], _ =>
      have e0 := hf 0 _ rfl
      have e1 := hf 1 _ rfl
      have e2 := hf 2 _ rfl
      have e3 := hf 3 _ rfl
      have e4 := hf 4 _ rfl
      simp [cellsI] at e0 e1 e2 e3 e4
      obtain ⟨n0, f0, -, g0⟩ := DataW.trod_int Try.underlying3 e0
      obtain ⟨n1, f1, -, g1⟩ := DataW.trod_int Try.underlying3 e1
      obtain ⟨n2, f2, -, g2⟩ := DataW.trod_int Try.underlying3 e2
      obtain ⟨n3, f3, -, g3⟩ := DataW.trod_int Try.underlying3 e3
      obtain ⟨n4, f4, -, g4⟩ := DataW.trod_int Try.underlying3 e4
      simp at f0 f1 f2 f3 f4
      subst f0 f1 f2 f3 f4
      exact ⟨⟨n0, n1, n2, n3, n4⟩, rfl, wf_bd g0, wf_bd g1, wf_bd g2, wf_bd g3, wf_bd g4⟩
end
/-- Frames that came in. -/
theorem openFrames {H : Type} {enc : TypeId × Value → H} {w : World} {base b0 : Nat} {r : Reach} {spare : Nat → Bool} {held : Bool} {v : Value} {d : DataW H} {p : List MemPlace}
    (hv : Value.okWide Try.prog w r b0 22 v) (h : DataW.Trod enc Try.prog w base spare held 22 v d p) :
    ∃ (A : Option Addr) (n cap : Nat) (l : Nat → Fr), v = .slice A n cap ∧ n ≤ cap ∧ cap ≤ maxLen ∧ Frames w A n l := by
  obtain ⟨a0, len0, cap0, rfl⟩ := okWide_slice Try.underlying22 hv
  obtain ⟨fuel, hf⟩ := h
  rcases DataW.trod_slice Try.underlying22 hf with ⟨h1, -⟩ | ⟨a, len, cap, elems, rest, k, -, h1, -, hb, hle, hmax, hlen, hel, -, -⟩
  · simp [Value.cells] at h1
    obtain ⟨rfl, rfl, rfl⟩ := h1
    exact ⟨none, 0, 0, fun _ => zF, rfl, Nat.le_refl _, Nat.zero_le _, fun i hi => by omega⟩
  · simp [Value.cells] at h1
    obtain ⟨rfl, rfl, rfl⟩ := h1
    rw [cellsF] at hel
    have hnd : ∀ i, i < len0 → ∃ y : Fr, w.cells? base (a.add (i * 5)) 5 = some (frL y) ∧ y.i64 := fun i hi => by
      have h2 := hel i hi
      rw [List.getElem?_eq_getElem (by omega)] at h2
      obtain ⟨cs, h3, h4⟩ := Option.bind_eq_some_iff.1 h2
      obtain ⟨y, rfl, h5⟩ := frCells h4
      exact ⟨y, h3, h5⟩
    obtain ⟨l, hL⟩ : ∃ l : Nat → Fr, ∀ i, i < len0 → w.cells? base (a.add (i * 5)) 5 = some (frL (l i)) ∧ (l i).i64 :=
      ⟨fun i => if hi : i < len0 then Classical.choose (hnd i hi) else zF, fun i hi => by
        simp only [dif_pos hi]; exact Classical.choose_spec (hnd i hi)⟩
    refine ⟨some a, len0, cap0, l, rfl, hle, hmax, fun i hi => ?_⟩
    obtain ⟨-, -, hc⟩ := World.cells?_some (hL i hi).1
    obtain ⟨b, off, spot⟩ := a
    have hspot : spot = none := by
      obtain ⟨-, -, hc0⟩ := World.cells?_some (hL 0 (by omega)).1
      have h1 : w.cell? (((⟨b, off, spot⟩ : Addr).add (0 * 5)).add 0) = some (.int .i64 (l 0).k) := hc0 0 (by decide)
      simpa [Addr.add] using World.cell?_spot h1
    subst hspot
    have hcell : ∀ j, j < 5 → w.cell? ⟨b, off + i * 5 + j, none⟩ = (frL (l i))[j]? := fun j hj => by
      rw [← hc j hj, Addr.add_mid, Addr.add_mid]
    refine ⟨b, off, rfl, ?_, fun j v hv => ?_, (hL i hi).2⟩
    · have h0 : w.cell? ⟨b, off + i * 5 + 0, none⟩ = some (.int .i64 (l i).k) := hcell 0 (by decide)
      by_cases hlt : b < w.heap.size
      · exact hlt
      · rw [World.cell?] at h0
        simp only [Array.getElem?_eq_none (Nat.le_of_not_lt hlt)] at h0
        cases h0
    · have hj : j < 5 := by
        rcases Nat.lt_or_ge j 5 with q | q
        · exact q
        · rw [List.getElem?_eq_none (by simpa using q)] at hv; cases hv
      rw [hcell j hj, hv]
end Go.Proofs.Ytecfndpbgebpiaa
