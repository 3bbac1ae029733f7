/-
  Layer 10, the statement CapsAgain: its walk.
-/
import Derived.Test.YtnapbmdbeihngaaDoorCapAgainLaw
namespace Go.Proofs.YtnapbmdbeihngaaDoor
open Go.RowKit

/-- The bytes that came in, the text, and the groups, once they are made. -/
def AgS (a0 a1 a2 : Nat) (w0 w : World) : Prop := Below w0.heap.size w0 w ∧ BoxV 49 w w0.heap.size #[.int .u8 (a0 : Int), .int .u8 (a1 : Int), .int .u8 (a2 : Int)] ∧ PowOk w
theorem AgS.call {a0 a1 a2 : Nat} {w0 w w' : World} (h : AgS a0 a1 a2 w0 w) (hb : Below w.heap.size w w') : AgS a0 a1 a2 w0 w' := ⟨thenB h.1 hb h.1.size, h.2.1.below hb h.2.1.lt, h.2.2.call hb⟩
set_option maxRecDepth 100000 in
set_option maxHeartbeats 16000000 in
theorem capsAgain_core (L : LibOk) (s t : ByteArray) (hts : t = s.extract 0 (min s.size 60)) (a0 a1 a2 f r : Nat) (h0 : a0 < 256) (h1 : a1 < 256) (h2 : a2 < 256) (hf : a0 % (t.size + 1) = f) (hr : a1 % (t.size - f + 1) = r) (P F : Bool)
    (hP : agB (agC f r) t 3 (a2 : Int) false = P) (hF : agB (agC f r) t 3 (a2 : Int) true = F) (hPF : P = true → F = true ∧ a2 + r ≤ t.size ∧ t.extract a2 (a2 + r) = t.extract f (f + r)) (w : World) (hw : PowOk w) :
    Calls Tryd.prog 5 #[.string s, .agg #[.int .u8 (a0 : Int), .int .u8 (a1 : Int), .int .u8 (a2 : Int)]] w fun e w' => e = .returned (.bool true) ∧ Below w.heap.size w w' := by
  have hmin : min s.size 60 ≤ s.size := Nat.min_le_left _ _
  have htz : t.size ≤ 60 := by rw [hts, ByteArray.size_extract]; omega
  have hfl : f ≤ t.size := by have := Nat.mod_lt a0 (show 0 < t.size + 1 by omega); omega
  have hrl : f + r ≤ t.size := by have := Nat.mod_lt a1 (show 0 < t.size - f + 1 by omega); omega
  have H1 := Lib.hid (fun w => with_any zrC 3 (f : Int) ((f : Int) + (r : Int)) w)
  rw [agC_with f r t.size hrl htz] at H1
  obtain ⟨p1, p2⟩ := agC_s t f r hrl htz
  have hzS : (t.extract f (f + r)).size = r := by rw [ByteArray.size_extract]; omega
  have H2 := Lib.hid (fun w => again_any L (agC f r) t (by omega) 3 (f : Int) false w)
  have H3 := Lib.hid (fun w => again_any L (agC f r) t (by omega) 3 (a2 : Int) false w)
  have H4 := Lib.hid (fun w => again_any L (agC f r) t (by omega) 3 (a2 : Int) true w)
  have H5 := Lib.hid (fun w => text_any L (agC f r) t (by omega) 3 w)
  have e2 : agB (agC f r) t 3 (f : Int) false = true := by rw [agC_b t f r f false hrl htz, decide_eq_true hfl, piece_same t f r hrl]; rfl
  unfold agN at H2 H3 H4
  rw [e2, p1, hzS] at H2
  rw [hP, p1, hzS] at H3
  rw [hF, p1, hzS] at H4
  rw [p1, p2] at H5
  simp only [if_true] at H2
  clear e2 p1 p2 hP hF hzS
  have HF := Lib.hid (fun w h => fixed_any L w h)
  have HS0 := Lib.hid (show AgS a0 a1 a2 w (w.alloc (.cells #[.int .u8 (a0 : Int), .int .u8 (a1 : Int), .int .u8 (a2 : Int)] 49)) from ⟨(Below.refl w.heap.size w).alloc (Nat.le_refl _) _, BoxV.new w _, hw.call ((Below.refl w.heap.size w).alloc (Nat.le_refl _) _)⟩)
  have Ht := Lib.hid hts
  have Hmf := Lib.hid hf
  have Hmr := Lib.hid hr
  have HPF := Lib.hid hPF
  clear hw L hts hPF hf hr
  generalize agC f r = C at H1 H2 H3 H4 H5
  go_enter Tryd.func5, Tryd.ntmps5
  go_wp2_with (refine lineY (S := fun _ => True) (.int .i64 ((min s.size 60 : Nat) : Int)) (min_y s.size 60 rfl rfl (by rfl)) trivial ?_; refine StopS.out ?_)
  refine ⟨?_⟩
  refine lineY (S := fun _ => True) (.string t) (by rw [Ht.out]; exact sliceTo_y s (min s.size 60) hmin rfl rfl rfl (by rfl)) trivial ?_
  clear Ht hmin
  have HR1 := Lib.hid (show RemP a0 (t.size + 1) f ((t.size : Int) + 1) from ⟨by omega, by omega, h0, by omega, Hmf.out⟩)
  have HR2 := Lib.hid (show RemP a1 (t.size - f + 1) r ((t.size : Int) - (f : Int) + 1) from ⟨by omega, by omega, h1, by omega, Hmr.out⟩)
  clear Hmf Hmr
  go_wp2_with (refine lineY (S := fun _ => True) (.int .i64 (f : Int)) (rem_f a0 (t.size + 1) f ((t.size : Int) + 1) HR1 rfl rfl rfl (by rfl)) trivial ?_; refine StopS.out ?_)
  refine ⟨?_⟩
  go_wp2_with (refine lineY (S := fun _ => True) (.int .i64 (r : Int)) (rem_f a1 (t.size - f + 1) r ((t.size : Int) - (f : Int) + 1) HR2 rfl rfl rfl (by rfl)) trivial ?_; refine StopS.out ?_)
  refine ⟨?_⟩
  go_wp2_with fail
  refine (H1.out _).mono ?_
  rintro e w1 ⟨rfl, hb⟩
  have HS1 := Lib.hid (HS0.out.call hb)
  clear hb HS0 H1 HR1 HR2
  go_wp2_with (refine storeC rfl _ _ rfl w1.heap.size C (cpC zrC) rfl rfl (by rfl) (BoxV.new w1 _) ?_; intro u1 hu hb ho; refine StopS.out ?_)
  have hbb := ((Below.refl w1.heap.size w1).alloc (Nat.le_refl _) _).trans (hb.out _ (Nat.le_refl _))
  have HS := Lib.hid (HS1.out.call hbb)
  have HC := Lib.hid hu.out
  clear hb hbb hu ho HS1
  refine ⟨?_⟩
  go_wp2_with (refine loadC rfl _ rfl w1.heap.size C rfl HC.out ?_)
  refine (H2.out _).mono ?_
  rintro e w2 ⟨rfl, hb⟩
  replace HS := Lib.hid (HS.out.call hb)
  replace HC := Lib.hid (HC.out.below hb HC.out.lt)
  clear hb H2
  have hcc : (P = true ∧ F = true) ∨ (P = false ∧ F = true) ∨ (P = false ∧ F = false) := by
    cases P with
    | true => exact .inl ⟨rfl, (HPF.out rfl).1⟩
    | false => cases F with
      | true => exact .inr (.inl ⟨rfl, rfl⟩)
      | false => exact .inr (.inr ⟨rfl, rfl⟩)
  rcases hcc with ⟨rfl, rfl⟩ | ⟨rfl, rfl⟩ | ⟨rfl, rfl⟩
  all_goals
    simp only [if_true, Bool.false_eq_true, if_false] at H3 H4
    have c2 := HS.out.2.1.get 2 rfl
    go_wp2_with (refine loadC rfl _ rfl w1.heap.size C rfl HC.out ?_)
    refine (H3.out _).mono ?_
    rintro e w3 ⟨rfl, hb⟩
    replace HS := Lib.hid (HS.out.call hb)
    replace HC := Lib.hid (HC.out.below hb HC.out.lt)
    clear hb H3 c2
    have c2 := HS.out.2.1.get 2 rfl
    go_wp2_with (refine loadC rfl _ rfl w1.heap.size C rfl HC.out ?_)
    refine (H4.out _).mono ?_
    rintro e w4 ⟨rfl, hb⟩
    replace HS := Lib.hid (HS.out.call hb)
    replace HC := Lib.hid (HC.out.below hb HC.out.lt)
    clear hb H4 c2
    go_wp2_with (refine loadC rfl _ rfl w1.heap.size C rfl HC.out ?_)
    refine (H5.out _).mono ?_
    rintro e w5 ⟨rfl, hb⟩
    replace HS := Lib.hid (HS.out.call hb)
    clear hb H5 HC
    have c2 := HS.out.2.1.get 2 rfl
    have hsub : (f : Int) + (r : Int) - (f : Int) = (r : Int) := by omega
  · obtain ⟨-, hq1, hq2⟩ := HPF.out (by first | rfl | trivial)
    clear HPF
    go_wp2_with fail
    refine (HF.out _ HS.out.2.2).mono ?_
    rintro e w6 ⟨rfl, hb⟩
    replace HS := Lib.hid (HS.out.call hb)
    clear hb
    go_wp2_with fail
    go_ret
    exact ⟨rfl, HS.out.1⟩
  · clear HPF
    go_wp2_with fail
    refine (HF.out _ HS.out.2.2).mono ?_
    rintro e w6 ⟨rfl, hb⟩
    replace HS := Lib.hid (HS.out.call hb)
    clear hb
    go_wp2_with fail
    go_ret
    exact ⟨rfl, HS.out.1⟩
  · clear HPF
    go_wp2_with fail
    refine (HF.out _ HS.out.2.2).mono ?_
    rintro e w6 ⟨rfl, hb⟩
    replace HS := Lib.hid (HS.out.call hb)
    clear hb
    go_wp2_with fail
    go_ret
    exact ⟨rfl, HS.out.1⟩
theorem capsAgain_any (L : LibOk) (s : ByteArray) (a0 a1 a2 : Nat) (hb : a0 < 256 ∧ a1 < 256 ∧ a2 < 256) (w : World) (hw : PowOk w) :
    Calls Tryd.prog 5 #[.string s, .agg #[.int .u8 (a0 : Int), .int .u8 (a1 : Int), .int .u8 (a2 : Int)]] w fun e w' => e = .returned (.bool true) ∧ Below w.heap.size w w' := by
  obtain ⟨h0, h1, h2⟩ := hb
  obtain ⟨t, ht⟩ : ∃ t, t = s.extract 0 (min s.size 60) := ⟨_, rfl⟩
  have htz : t.size ≤ 60 := by rw [ht, ByteArray.size_extract]; omega
  obtain ⟨f, hf⟩ : ∃ f, a0 % (t.size + 1) = f := ⟨_, rfl⟩
  obtain ⟨r, hr⟩ : ∃ r, a1 % (t.size - f + 1) = r := ⟨_, rfl⟩
  have hfl : f ≤ t.size := by have := Nat.mod_lt a0 (show 0 < t.size + 1 by omega); omega
  have hrl : f + r ≤ t.size := by have := Nat.mod_lt a1 (show 0 < t.size - f + 1 by omega); omega
  refine capsAgain_core L s t ht a0 a1 a2 f r h0 h1 h2 hf hr _ _ rfl rfl (fun hP => ?_) w hw
  rw [agC_b t f r a2 false hrl htz, Bool.and_eq_true, decide_eq_true_eq] at hP
  obtain ⟨q1, q2⟩ := piece_at hrl hP.1 hP.2
  refine ⟨?_, q1, q2⟩
  rw [agC_b t f r a2 true hrl htz, decide_eq_true hP.1, begB_mono hP.2]
  rfl
end Go.Proofs.YtnapbmdbeihngaaDoor
