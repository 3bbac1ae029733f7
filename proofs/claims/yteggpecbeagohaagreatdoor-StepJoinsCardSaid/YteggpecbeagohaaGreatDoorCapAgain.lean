import Derived.Test.YteggpecbeagohaaGreatDoorCapText
import Derived.IntWalk
namespace Go.Proofs.YteggpecbeagohaaGreatDoor.Cap
open Go.RowKit
def agB (c : Cp) (s : ByteArray) (g z : Int) (fold : Bool) : Bool := pcB c s g && (decide (0 ≤ z) && (decide (z ≤ s.size) && begB fold (s.extract z.toNat s.size) (pcS c s g)))
def agN (c : Cp) (s : ByteArray) (g z : Int) (fold : Bool) : Int := if agB c s g z fold = true then ((pcS c s g).size : Int) else 0
theorem pcS_le (c : Cp) (s : ByteArray) (g : Int) : (pcS c s g).size ≤ s.size := by
 unfold pcS
 cases pieceZ c s.size g with
 | none => exact Nat.zero_le _
 | some p => obtain ⟨a, b⟩ := p; simp; omega
set_option maxRecDepth 20000 in
theorem again_any (L : LibA) (c : Cp) (s : ByteArray) (hs : s.size ≤ 140737488355328) (g z : Int) (fold : Bool) (w : World) : Calls Tryz.prog 96 #[.agg (cpC c), .string s, .int .i64 g, .int .i64 z, .bool fold] w fun e w' => e = .returned (.tuple #[.int .i64 (agN c s g z fold), .bool (agB c s g z fold)]) ∧ Below w.heap.size w w' := by
 have HX := Lib.hid (BoxV.new (T := 26) w (cpC c))
 have HP := Lib.hid (fun w => piece_any c s (by unfold maxLen; omega) g w)
 have hz := pcS_le c s g
 have HG := Lib.hid (fun t w => begins_any L fold (s.extract t s.size) (pcS c s g) (by simp; unfold maxLen; omega) w)
 unfold agN agB
 generalize pcS c s g = t at HP HG hz ⊢
 generalize pcB c s g = b at HP ⊢
 clear L
 cases b with
 | false =>
   simp only [Bool.false_and, Bool.false_eq_true, if_false]
   go_enter Tryz.func96, Tryz.ntmps96
   go_wp2_with (refine loadC rfl _ rfl w.heap.size c rfl HX.out ?_)
   refine (HP.out _).mono ?_
   rintro e w1 ⟨rfl, hb⟩
   have HB := Lib.hid (afterBox hb)
   clear hb
   go_wp2_with fail
   go_ret2
   exact ⟨rfl, HB.out⟩
 | true =>
   simp only [Bool.true_and]
   by_cases h0 : 0 ≤ z
   ·by_cases h1 : z ≤ (s.size : Int)
    ·obtain ⟨n, rfl⟩ : ∃ n : Nat, z = (n : Int) := ⟨z.toNat, by omega⟩
     rw [decide_eq_true h0, decide_eq_true h1]
     simp only [Bool.true_and, Int.toNat_natCast]
     have HN := Lib.hid (HG.out n)
     clear HG
     generalize begB fold (s.extract n s.size) t = x at HN ⊢
     have h2 : decide ((n : Int) < 0) = false := decide_eq_false (by omega)
     have h3 : decide ((s.size : Int) < (n : Int)) = false := decide_eq_false (by omega)
     cases x with
     | false =>
       simp only [Bool.false_eq_true, if_false]
       go_enter Tryz.func96, Tryz.ntmps96
       go_wp2_with (refine loadC rfl _ rfl w.heap.size c rfl HX.out ?_)
       refine (HP.out _).mono ?_
       rintro e w1 ⟨rfl, hb⟩
       have HB := Lib.hid (afterBox hb)
       clear hb
       go_wp2_with fail
       refine (HN.out _).mono ?_
       rintro e w2 ⟨rfl, hb⟩
       have HB2 := Lib.hid (thenB HB.out hb HB.out.size)
       clear hb
       go_wp2_with fail
       go_ret2
       exact ⟨rfl, HB2.out⟩
     | true =>
       simp only [if_true]
       go_enter Tryz.func96, Tryz.ntmps96
       go_wp2_with (refine loadC rfl _ rfl w.heap.size c rfl HX.out ?_)
       refine (HP.out _).mono ?_
       rintro e w1 ⟨rfl, hb⟩
       have HB := Lib.hid (afterBox hb)
       clear hb
       go_wp2_with fail
       refine (HN.out _).mono ?_
       rintro e w2 ⟨rfl, hb⟩
       have HB2 := Lib.hid (thenB HB.out hb HB.out.size)
       clear hb
       go_wp2_with fail
       go_ret2
       exact ⟨rfl, HB2.out⟩
    ·rw [decide_eq_false h1]
     simp only [Bool.false_and, Bool.and_false, Bool.false_eq_true, if_false]
     have h2 : decide (z < 0) = false := decide_eq_false (by omega)
     have h3 : (s.size : Int) < z := by omega
     clear h1
     go_enter Tryz.func96, Tryz.ntmps96
     go_wp2_with (refine loadC rfl _ rfl w.heap.size c rfl HX.out ?_)
     refine (HP.out _).mono ?_
     rintro e w1 ⟨rfl, hb⟩
     have HB := Lib.hid (afterBox hb)
     clear hb
     go_wp2_with fail
     go_ret2
     exact ⟨rfl, HB.out⟩
   ·rw [decide_eq_false h0]
    simp only [Bool.false_and, Bool.false_eq_true, if_false]
    have h2 : z < 0 := by omega
    clear h0
    go_enter Tryz.func96, Tryz.ntmps96
    go_wp2_with (refine loadC rfl _ rfl w.heap.size c rfl HX.out ?_)
    refine (HP.out _).mono ?_
    rintro e w1 ⟨rfl, hb⟩
    have HB := Lib.hid (afterBox hb)
    clear hb
    go_wp2_with fail
    go_ret2
    exact ⟨rfl, HB.out⟩
end Go.Proofs.YteggpecbeagohaaGreatDoor.Cap
