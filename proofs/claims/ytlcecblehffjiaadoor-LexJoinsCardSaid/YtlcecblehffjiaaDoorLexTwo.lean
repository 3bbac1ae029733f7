/-
  Layer 6: strconv.ParseUint of two bytes to the base 16, and the landed code's twoDigits.
-/
import Derived.Test.YtlcecblehffjiaaDoorLexParse
import Derived.Test.YtlcecblehffjiaaDoorClassE
import Derived.Deep.RegionWith
namespace Go.Proofs.YtlcecblehffjiaaDoor
open Go.RowKit

/-- The sentinel of the library is there. -/
def ErrW (w : World) : Prop := ∃ te pe, w.cell? ⟨3, 0, none⟩ = some (.iface te pe)
theorem ErrW.lt {w : World} (h : ErrW w) : 3 < w.heap.size := by obtain ⟨te, pe, h⟩ := h; exact block_lt_of_cell h
theorem ErrW.call {w w' : World} (h : ErrW w) (hb : Below w.heap.size w w') : ErrW w' := by
  have hl := h.lt
  obtain ⟨te, pe, h⟩ := h
  exact ⟨te, pe, (hb.cell (p := ⟨3, 0, none⟩) hl).trans h⟩
theorem ErrW.alloc {w : World} (h : ErrW w) (o : Obj) : ErrW (w.alloc o) := by
  have hl := h.lt
  obtain ⟨te, pe, h⟩ := h
  exact ⟨te, pe, (World.cell?_alloc_past (w := w) o _ 0 hl).trans h⟩
/-- What the library's toError does with the inner package's fault. -/
def ErrsOk : Prop := ∀ (fn s : ByteArray) (w : World), s.size ≤ 281474976710656 → ErrW w → Calls Tryd.prog 80 #[.string fn, .string s, .int .i64 16, .int .i64 8, .iface 121 (.int .i64 2)] w fun e w' => (∃ N, e = .returned (.iface 123 (.pointer (some ⟨N, 0, none⟩)))) ∧ Below w.heap.size w w'
/-- What ParseUint answers. -/
def SParsR (x y : Int) (e : Ending) : Prop := (0 ≤ x ∧ 0 ≤ y → e = .returned (.tuple #[.int .u64 (16 * x + y), .nilIface])) ∧ (¬ (0 ≤ x ∧ 0 ≤ y) → ∃ N, e = .returned (.tuple #[.int .u64 0, .iface 123 (.pointer (some ⟨N, 0, none⟩))]))
theorem sparse_any (hE : ErrsOk) (s : ByteArray) (a b : Nat) (w : World) (hw : ErrW w) (hs : s.size = 2) (ha : bt s 0 = a) (hb : bt s 1 = b) (ha2 : a < 256) (hb2 : b < 256) : Calls Tryd.prog 71 #[.string s, .int .i64 16, .int .i64 8] w fun e w' => SParsR (hexZ a) (hexZ b) e ∧ Below w.heap.size w w' := by
  have HI := Lib.hid (iparse_any s a b w hs ha hb ha2 hb2)
  have HE := Lib.hid (fun (fn : ByteArray) (w : World) (h : ErrW w) => hE fn s w (by omega) h)
  have HW := Lib.hid hw
  clear ha hb ha2 hb2 hs hE hw
  revert HI
  generalize hexZ a = x
  generalize hexZ b = y
  intro HI
  by_cases h : 0 ≤ x ∧ 0 ≤ y
  · rw [pars_ok h] at HI
    have HG := Lib.hid h
    clear h
    go_enter Tryd.func71, Tryd.ntmps71
    go_wp2_with fail
    refine HI.out.mono ?_
    rintro e w1 ⟨rfl, hb1⟩
    have HB1 := Lib.hid hb1
    clear hb1
    go_wp2_with fail
    go_ret2
    exact ⟨⟨fun _ => rfl, fun h => absurd HG.out h⟩, HB1.out⟩
  · rw [pars_bad h] at HI
    have HG := Lib.hid h
    clear h
    go_enter Tryd.func71, Tryd.ntmps71
    go_wp2_with fail
    refine HI.out.mono ?_
    rintro e w1 ⟨rfl, hb1⟩
    have HB1 := Lib.hid hb1
    clear hb1
    go_wp2_with fail
    refine (HE.out _ _ (HW.out.call HB1.out)).mono ?_
    rintro e w2 ⟨⟨N, rfl⟩, hb2⟩
    have HB2 := Lib.hid (thenB HB1.out hb2 HB1.out.size)
    clear hb2
    go_wp2_with fail
    go_ret2
    exact ⟨⟨fun h => absurd h HG.out, fun _ => ⟨N, rfl⟩⟩, HB2.out⟩
end Go.Proofs.YtlcecblehffjiaaDoor
