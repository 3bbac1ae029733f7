/-
  What the call of package class does that goes through a text: Of.
-/
import Derived.Test.YtlcecblehffjiaaDoorClassB
namespace Go.Proofs.YtlcecblehffjiaaDoor
open Go.RowKit

set_option maxHeartbeats 2000000 in
theorem of_any (s : ByteArray) (w : World) (hlen : s.size ≤ 9223372036854775807) :
    Calls Tryd.prog 18 #[.string s] w fun e w' => e = .returned (setV (ofBytes s.data.toList)) ∧ Below w.heap.size w w' := by
  go_enter Tryd.func18, Tryd.ntmps18
  go_wp2
  go_loopw [7] (fun v wr => ∃ k : Nat, v = .int .i64 k ∧ k ≤ s.size ∧ Box wr w.heap.size 0#256 ∧ Box wr (w.heap.size + 1) (ofBytes (s.data.toList.take k)) ∧ Below w.heap.size w wr) (fun v _ => s.size - (intOf v).toNat)
  case atStart => exact ⟨0, rfl, Nat.zero_le _, Box.zero (heap_alloc2_old _ _ _), Box.zero (heap_alloc2_new _ _ _), by go_grown⟩
  case round =>
    obtain ⟨k, rfl, hk, hz, hs, hbel⟩ := hrel
    by_cases hlt : k < s.size
    · obtain ⟨c0, c1, c2, c3⟩ := hs.cells
      have hc : (s[k].toNat : Int) < 256 := by have := s[k].toNat_lt; omega
      have HT := Lib.hid (take_snoc s k hlt)
      have HZ := Lib.hid hz
      have HS := Lib.hid hs
      have HB := Lib.hid hbel
      clear hz hs hbel
      have kk : (0 : Int) ≤ k := by omega
      go_wp2
      go_region_with (go_at_call 39; refine (with_any (ofBytes (s.data.toList.take k)) _ _ (by omega) (by omega)).mono ?_; rintro e w1 ⟨rfl, hb⟩; have hs1 := Box.call (w := World.drew _) HS.out hb; obtain ⟨d0, d1, d2, d3⟩ := hs1.cells; have f := hs1.free; have HS1 := Lib.hid hs1; clear hs1)
      all_goals
        go_wp2
        go_roundw
        case rel => exact ⟨k + 1, by go_num, by omega, (Box.call (w := World.drew _) HZ.out hb).others _ (by omega), by rw [HT.out, ofBytes_snoc]; exact HS1.out.set _, below_setW (thenB (u := World.drew _) HB.out.drew hb HB.out.size) (by omega) _⟩
        case measure => simp [intOf]; omega
    · obtain rfl : k = s.size := by omega
      have e : s.data.toList.take s.size = s.data.toList := List.take_of_length_le (by rw [Array.length_toList]; exact Nat.le_refl _)
      rw [e] at hs
      clear e
      obtain ⟨c0, c1, c2, c3⟩ := hs.cells
      obtain ⟨d0, d1, d2, d3⟩ := hz.cells
      have f := hz.free
      have HZ := Lib.hid hz
      have HB := Lib.hid hbel
      clear hz hs hbel
      go_wp2
      refine bodyPost_ret (Box.results rfl _ (g := w.heap.size) rfl (HZ.out.set _)) rfl ⟨rfl, ?_⟩
      exact below_setW HB.out (by omega) _
end Go.Proofs.YtlcecblehffjiaaDoor
