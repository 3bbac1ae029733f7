/-
  The statement FrameUnlike: its walk.
-/
import Derived.Test.YtecfndpbgebpiaaFrmKit
namespace Go.Proofs.Ytecfndpbgebpiaa
open Go.RowKit

abbrev uA (a b c : Nat) : Fr := ⟨2, (a : Int), (b : Int), (c : Int), 0⟩
abbrev uM1 : List Pl := [(zF, 0), (⟨1, 999, 0, 0, 0⟩, 1)]
abbrev uM2 (a b c : Nat) : List Pl := [(zF, 0), (⟨1, 999, 0, 0, 0⟩, 1), (uA a b c, 1)]
theorem u_one (a b c : Nat) : putF 10 uM1 (uA a b c) = (uM2 a b c, 2, 0) := by
  have h1 : mayF 2 (uA a b c) = true := decide_eq_true (by simp)
  have h2 : idF uM1 (uA a b c) = 0 := by simp [idF, idG]
  unfold putF
  rw [show uM1.length = 2 from rfl, if_pos h1, if_neg (by rw [h2]; simp)]
  rfl
theorem u_two (a b c : Nat) (f : Fr) (hk : f.k ≠ 1) (hm : mayF 3 f = true) (hf : f ≠ uA a b c) : putF 10 (uM2 a b c) f = (uM2 a b c ++ [(f, dpI (uM2 a b c) f.x.toNat + 1)], 3, 0) := by
  have h2 : idF (uM2 a b c) f = 0 := by
    have e1 : (⟨1, 999, 0, 0, 0⟩ : Fr) ≠ f := fun e => hk (by rw [← e])
    simp [idF, idG, e1, Ne.symm hf]
  unfold putF
  rw [show (uM2 a b c).length = 3 from rfl, if_pos hm, if_neg (by rw [h2]; simp)]
  rfl
theorem u_three (a b c : Nat) (y : Pl) : putF 10 (uM2 a b c ++ [y]) (uA a b c) = (uM2 a b c ++ [y], 2, 0) := by
  have h1 : mayF 4 (uA a b c) = true := decide_eq_true (by simp)
  have h2 : idF (uM2 a b c ++ [y]) (uA a b c) = 2 := by simp [idF, idG]
  unfold putF
  rw [show (uM2 a b c ++ [y]).length = 4 from rfl, if_pos h1, if_pos (by rw [h2]; simp), h2]
theorem cells_at {w u : World} {g : Nat} {f : Fr} (h : BoxV 33 w g (frC f)) (hk : u.heap[g]? = w.heap[g]?) : BoxV 33 u g (frC f) := hk.trans h

set_option maxRecDepth 100000 in
set_option maxHeartbeats 16000000 in
theorem frameUnlike_walk (a b c d k : Nat) (w : World) (ha : a < 256) (hb : b < 256) (hc : c < 256) (hd : d < 256) (hk : k < 256) :
    Calls Try.prog 7 #[.agg #[.int .u8 (a : Int), .int .u8 (b : Int), .int .u8 (c : Int), .int .u8 (d : Int)], .int .u8 (k : Int)] w fun e w' => e = .returned (.bool true) ∧ Below w.heap.size w w' := by
  obtain ⟨wa, hwa⟩ : ∃ wa, w.alloc (.cells #[.int .u8 (a : Int), .int .u8 (b : Int), .int .u8 (c : Int), .int .u8 (d : Int)] 52) = wa := ⟨_, rfl⟩
  have hBa : Below w.heap.size w wa := hwa ▸ (Below.refl _ w).alloc (Nat.le_refl _) _
  have hxa : BoxV 52 wa w.heap.size #[.int .u8 (a : Int), .int .u8 (b : Int), .int .u8 (c : Int), .int .u8 (d : Int)] := hwa ▸ BoxV.new w _
  have hsa : wa.heap.size = w.heap.size + 1 := by rw [← hwa]; simp
  have HWA := Lib.hid hwa
  have XA := Lib.hid hxa
  have BA := Lib.hid hBa
  have SA := Lib.hid hsa
  have hr : (k : Int) % 5 = 0 ∨ (k : Int) % 5 = 1 ∨ (k : Int) % 5 = 2 ∨ (k : Int) % 5 = 3 ∨ (k : Int) % 5 = 4 := by omega
  have HR := Lib.hid hr
  have RG := Lib.hid (And.intro ha (And.intro hb (And.intro hc hd)))
  clear hwa hxa hBa hsa hr
  go_enter Try.func7, Try.ntmps7
  go_wp2_with fail
  rw [HWA.out]
  refine (xnew 10 wa (by decide)).mono ?_
  rintro e w1 ⟨p, m, rfl, hst⟩
  have H1 := Lib.hid hst
  clear hst HWA
  go_wp2_with fail
  refine (xput ⟨1, 999, 0, 0, 0⟩ H1.out (i64c (by decide)) (by decide)).mono ?_
  rintro e w2 ⟨rfl, hst⟩
  rw [show putF 10 [(zF, 0)] ⟨1, 999, 0, 0, 0⟩ = (uM1, 1, 0) from by decide] at hst ⊢
  have H2 := Lib.hid hst
  have hx2 := XA.out.below hst.low (by have := SA.out; omega)
  have c0 := hx2.get 0 rfl
  have c1 := hx2.get 1 rfl
  have c2 := hx2.get 2 rfl
  have c3 := hx2.get 3 rfl
  have LT := Lib.hid (show w.heap.size < w2.heap.size by have := hst.low.size; have := SA.out; omega)
  have lt := LT.out
  have a0 : (0 : Int) ≤ (a : Int) := by omega
  have a1 : (a : Int) < 256 := by omega
  have b0 : (0 : Int) ≤ (b : Int) := by omega
  have b1 : (b : Int) < 256 := by omega
  have q0 : (0 : Int) ≤ (c : Int) := by omega
  have q1 : (c : Int) < 256 := by omega
  have d0 : (0 : Int) ≤ (d : Int) := by omega
  have d1 : (d : Int) < 256 := by omega
  clear hst H1 hx2 ha hb hc hd XA
  rcases HR.out with hr | hr | hr | hr | hr
  · go_wp2_with fail
    have hW : Below w2.heap.size w2 ((w2.alloc (.cells (frC (uA a b c)) 33)).alloc (.cells (frC ⟨3, (a : Int), (b : Int), (c : Int), 0⟩) 33)) := ((Below.refl _ w2).alloc (Nat.le_refl _) _).alloc (by simp) _
    have hx1 : BoxV 33 ((w2.alloc (.cells (frC (uA a b c)) 33)).alloc (.cells (frC ⟨3, (a : Int), (b : Int), (c : Int), 0⟩) 33)) w2.heap.size (frC (uA a b c)) := (BoxV.new w2 _).alloc _
    have hx2 : BoxV 33 ((w2.alloc (.cells (frC (uA a b c)) 33)).alloc (.cells (frC ⟨3, (a : Int), (b : Int), (c : Int), 0⟩) 33)) (w2.heap.size + 1) (frC ⟨3, (a : Int), (b : Int), (c : Int), 0⟩) := by
      have := BoxV.new (T := 33) (w2.alloc (.cells (frC (uA a b c)) 33)) (frC ⟨3, (a : Int), (b : Int), (c : Int), 0⟩)
      rwa [World.size_alloc] at this
    have HG := H2.out.guard hW (fun j => j = w2.heap.size ∨ j = w2.heap.size + 1) (by rintro j (rfl | rfl) <;> exact ⟨by omega, by simp <;> omega⟩)
    have IA := Lib.hid (show (uA a b c).i64 from by have := RG.out; unfold Fr.i64 I64; dsimp only; omega)
    have IB := Lib.hid (show Fr.i64 ⟨3, (a : Int), (b : Int), (c : Int), 0⟩ from by have := RG.out; unfold Fr.i64 I64; dsimp only; omega)
    have MB := Lib.hid (u_two a b c ⟨3, (a : Int), (b : Int), (c : Int), 0⟩ (by simp) (decide_eq_true (by dsimp only; omega)) (by simp))
    clear c0 c1 c2 c3 lt hr
    refine (gput (uA a b c) HG IA.out (by decide)).mono ?_
    rintro e w3 ⟨rfl, hst, hk3, hs3⟩
    rw [u_one] at hst ⊢
    have X1 := Lib.hid (cells_at hx1 (hk3 _ (.inl rfl)))
    have X2 := Lib.hid (cells_at hx2 (hk3 _ (.inr rfl)))
    have H3 := Lib.hid hst
    clear hst hk3 hs3 HG hW hx1 hx2 H2 a0 a1 b0 b1 q0 q1 d0 d1
    go_wp2_with (refine loadFr rfl _ rfl (w2.heap.size + 1) 0 ⟨3, (a : Int), (b : Int), (c : Int), 0⟩ rfl X2.out.fr ?_)
    refine (gput ⟨3, (a : Int), (b : Int), (c : Int), 0⟩ H3.out IB.out (by simp)).mono ?_
    rintro e w4 ⟨rfl, hst, hk3, hs3⟩
    rw [MB.out] at hst ⊢
    have Y1 := Lib.hid (cells_at X1.out (hk3 _ (.inl rfl)))
    have H4 := Lib.hid hst
    clear hst hk3 hs3 X1 X2 H3
    go_wp2_with (refine loadFr rfl _ rfl w2.heap.size 0 (uA a b c) rfl Y1.out.fr ?_)
    refine (gput (uA a b c) H4.out IA.out (by simp)).mono ?_
    rintro e w5 ⟨rfl, hst, hk3, hs3⟩
    rw [u_three] at hst ⊢
    have H5 := Lib.hid hst
    clear hst hk3 hs3 Y1 H4
    go_wp2_with fail
    refine (xlen H5.out.sx).mono ?_
    rintro e w6 ⟨rfl, hst⟩
    rw [show (((uM2 a b c ++ [_] : List Pl).length : Nat) : Int) - 1 = 3 from rfl]
    have B6 := Lib.hid (BA.out.trans (hst.low.mono (by have := SA.out; omega)))
    have S6 := Lib.hid (show w.heap.size ≤ w6.heap.size from Nat.le_trans (by have := SA.out; omega) hst.low.size)
    clear hst H5
    go_wp2_with fail
    refine (fixed_any w6).mono ?_
    rintro e w7 ⟨rfl, hB⟩
    have B7 := Lib.hid (thenB B6.out hB S6.out)
    clear hB
    go_wp2_with fail
    go_ret
    exact ⟨rfl, B7.out⟩
  · go_wp2_with fail
    have hW : Below w2.heap.size w2 ((w2.alloc (.cells (frC (uA a b c)) 33)).alloc (.cells (frC ⟨2, (a : Int) + 1 + (d : Int), (b : Int), (c : Int), 0⟩) 33)) := ((Below.refl _ w2).alloc (Nat.le_refl _) _).alloc (by simp) _
    have hx1 : BoxV 33 ((w2.alloc (.cells (frC (uA a b c)) 33)).alloc (.cells (frC ⟨2, (a : Int) + 1 + (d : Int), (b : Int), (c : Int), 0⟩) 33)) w2.heap.size (frC (uA a b c)) := (BoxV.new w2 _).alloc _
    have hx2 : BoxV 33 ((w2.alloc (.cells (frC (uA a b c)) 33)).alloc (.cells (frC ⟨2, (a : Int) + 1 + (d : Int), (b : Int), (c : Int), 0⟩) 33)) (w2.heap.size + 1) (frC ⟨2, (a : Int) + 1 + (d : Int), (b : Int), (c : Int), 0⟩) := by
      have := BoxV.new (T := 33) (w2.alloc (.cells (frC (uA a b c)) 33)) (frC ⟨2, (a : Int) + 1 + (d : Int), (b : Int), (c : Int), 0⟩)
      rwa [World.size_alloc] at this
    have HG := H2.out.guard hW (fun j => j = w2.heap.size ∨ j = w2.heap.size + 1) (by rintro j (rfl | rfl) <;> exact ⟨by omega, by simp <;> omega⟩)
    have IA := Lib.hid (show (uA a b c).i64 from by have := RG.out; unfold Fr.i64 I64; dsimp only; omega)
    have IB := Lib.hid (show Fr.i64 ⟨2, (a : Int) + 1 + (d : Int), (b : Int), (c : Int), 0⟩ from by have := RG.out; unfold Fr.i64 I64; dsimp only; omega)
    have MB := Lib.hid (u_two a b c ⟨2, (a : Int) + 1 + (d : Int), (b : Int), (c : Int), 0⟩ (by simp) (decide_eq_true (by dsimp only; omega)) (by simp; omega))
    clear c0 c1 c2 c3 lt hr
    refine (gput (uA a b c) HG IA.out (by decide)).mono ?_
    rintro e w3 ⟨rfl, hst, hk3, hs3⟩
    rw [u_one] at hst ⊢
    have X1 := Lib.hid (cells_at hx1 (hk3 _ (.inl rfl)))
    have X2 := Lib.hid (cells_at hx2 (hk3 _ (.inr rfl)))
    have H3 := Lib.hid hst
    clear hst hk3 hs3 HG hW hx1 hx2 H2 a0 a1 b0 b1 q0 q1 d0 d1
    go_wp2_with (refine loadFr rfl _ rfl (w2.heap.size + 1) 0 ⟨2, (a : Int) + 1 + (d : Int), (b : Int), (c : Int), 0⟩ rfl X2.out.fr ?_)
    refine (gput ⟨2, (a : Int) + 1 + (d : Int), (b : Int), (c : Int), 0⟩ H3.out IB.out (by simp)).mono ?_
    rintro e w4 ⟨rfl, hst, hk3, hs3⟩
    rw [MB.out] at hst ⊢
    have Y1 := Lib.hid (cells_at X1.out (hk3 _ (.inl rfl)))
    have H4 := Lib.hid hst
    clear hst hk3 hs3 X1 X2 H3
    go_wp2_with (refine loadFr rfl _ rfl w2.heap.size 0 (uA a b c) rfl Y1.out.fr ?_)
    refine (gput (uA a b c) H4.out IA.out (by simp)).mono ?_
    rintro e w5 ⟨rfl, hst, hk3, hs3⟩
    rw [u_three] at hst ⊢
    have H5 := Lib.hid hst
    clear hst hk3 hs3 Y1 H4
    go_wp2_with fail
    refine (xlen H5.out.sx).mono ?_
    rintro e w6 ⟨rfl, hst⟩
    rw [show (((uM2 a b c ++ [_] : List Pl).length : Nat) : Int) - 1 = 3 from rfl]
    have B6 := Lib.hid (BA.out.trans (hst.low.mono (by have := SA.out; omega)))
    have S6 := Lib.hid (show w.heap.size ≤ w6.heap.size from Nat.le_trans (by have := SA.out; omega) hst.low.size)
    clear hst H5
    go_wp2_with fail
    refine (fixed_any w6).mono ?_
    rintro e w7 ⟨rfl, hB⟩
    have B7 := Lib.hid (thenB B6.out hB S6.out)
    clear hB
    go_wp2_with fail
    go_ret
    exact ⟨rfl, B7.out⟩
  · go_wp2_with fail
    have hW : Below w2.heap.size w2 ((w2.alloc (.cells (frC (uA a b c)) 33)).alloc (.cells (frC ⟨2, (a : Int), (b : Int) + 1 + (d : Int), (c : Int), 0⟩) 33)) := ((Below.refl _ w2).alloc (Nat.le_refl _) _).alloc (by simp) _
    have hx1 : BoxV 33 ((w2.alloc (.cells (frC (uA a b c)) 33)).alloc (.cells (frC ⟨2, (a : Int), (b : Int) + 1 + (d : Int), (c : Int), 0⟩) 33)) w2.heap.size (frC (uA a b c)) := (BoxV.new w2 _).alloc _
    have hx2 : BoxV 33 ((w2.alloc (.cells (frC (uA a b c)) 33)).alloc (.cells (frC ⟨2, (a : Int), (b : Int) + 1 + (d : Int), (c : Int), 0⟩) 33)) (w2.heap.size + 1) (frC ⟨2, (a : Int), (b : Int) + 1 + (d : Int), (c : Int), 0⟩) := by
      have := BoxV.new (T := 33) (w2.alloc (.cells (frC (uA a b c)) 33)) (frC ⟨2, (a : Int), (b : Int) + 1 + (d : Int), (c : Int), 0⟩)
      rwa [World.size_alloc] at this
    have HG := H2.out.guard hW (fun j => j = w2.heap.size ∨ j = w2.heap.size + 1) (by rintro j (rfl | rfl) <;> exact ⟨by omega, by simp <;> omega⟩)
    have IA := Lib.hid (show (uA a b c).i64 from by have := RG.out; unfold Fr.i64 I64; dsimp only; omega)
    have IB := Lib.hid (show Fr.i64 ⟨2, (a : Int), (b : Int) + 1 + (d : Int), (c : Int), 0⟩ from by have := RG.out; unfold Fr.i64 I64; dsimp only; omega)
    have MB := Lib.hid (u_two a b c ⟨2, (a : Int), (b : Int) + 1 + (d : Int), (c : Int), 0⟩ (by simp) (decide_eq_true (by dsimp only; omega)) (by simp; omega))
    clear c0 c1 c2 c3 lt hr
    refine (gput (uA a b c) HG IA.out (by decide)).mono ?_
    rintro e w3 ⟨rfl, hst, hk3, hs3⟩
    rw [u_one] at hst ⊢
    have X1 := Lib.hid (cells_at hx1 (hk3 _ (.inl rfl)))
    have X2 := Lib.hid (cells_at hx2 (hk3 _ (.inr rfl)))
    have H3 := Lib.hid hst
    clear hst hk3 hs3 HG hW hx1 hx2 H2 a0 a1 b0 b1 q0 q1 d0 d1
    go_wp2_with (refine loadFr rfl _ rfl (w2.heap.size + 1) 0 ⟨2, (a : Int), (b : Int) + 1 + (d : Int), (c : Int), 0⟩ rfl X2.out.fr ?_)
    refine (gput ⟨2, (a : Int), (b : Int) + 1 + (d : Int), (c : Int), 0⟩ H3.out IB.out (by simp)).mono ?_
    rintro e w4 ⟨rfl, hst, hk3, hs3⟩
    rw [MB.out] at hst ⊢
    have Y1 := Lib.hid (cells_at X1.out (hk3 _ (.inl rfl)))
    have H4 := Lib.hid hst
    clear hst hk3 hs3 X1 X2 H3
    go_wp2_with (refine loadFr rfl _ rfl w2.heap.size 0 (uA a b c) rfl Y1.out.fr ?_)
    refine (gput (uA a b c) H4.out IA.out (by simp)).mono ?_
    rintro e w5 ⟨rfl, hst, hk3, hs3⟩
    rw [u_three] at hst ⊢
    have H5 := Lib.hid hst
    clear hst hk3 hs3 Y1 H4
    go_wp2_with fail
    refine (xlen H5.out.sx).mono ?_
    rintro e w6 ⟨rfl, hst⟩
    rw [show (((uM2 a b c ++ [_] : List Pl).length : Nat) : Int) - 1 = 3 from rfl]
    have B6 := Lib.hid (BA.out.trans (hst.low.mono (by have := SA.out; omega)))
    have S6 := Lib.hid (show w.heap.size ≤ w6.heap.size from Nat.le_trans (by have := SA.out; omega) hst.low.size)
    clear hst H5
    go_wp2_with fail
    refine (fixed_any w6).mono ?_
    rintro e w7 ⟨rfl, hB⟩
    have B7 := Lib.hid (thenB B6.out hB S6.out)
    clear hB
    go_wp2_with fail
    go_ret
    exact ⟨rfl, B7.out⟩
  · go_wp2_with fail
    have hW : Below w2.heap.size w2 ((w2.alloc (.cells (frC (uA a b c)) 33)).alloc (.cells (frC ⟨2, (a : Int), (b : Int), (c : Int) + 1 + (d : Int), 0⟩) 33)) := ((Below.refl _ w2).alloc (Nat.le_refl _) _).alloc (by simp) _
    have hx1 : BoxV 33 ((w2.alloc (.cells (frC (uA a b c)) 33)).alloc (.cells (frC ⟨2, (a : Int), (b : Int), (c : Int) + 1 + (d : Int), 0⟩) 33)) w2.heap.size (frC (uA a b c)) := (BoxV.new w2 _).alloc _
    have hx2 : BoxV 33 ((w2.alloc (.cells (frC (uA a b c)) 33)).alloc (.cells (frC ⟨2, (a : Int), (b : Int), (c : Int) + 1 + (d : Int), 0⟩) 33)) (w2.heap.size + 1) (frC ⟨2, (a : Int), (b : Int), (c : Int) + 1 + (d : Int), 0⟩) := by
      have := BoxV.new (T := 33) (w2.alloc (.cells (frC (uA a b c)) 33)) (frC ⟨2, (a : Int), (b : Int), (c : Int) + 1 + (d : Int), 0⟩)
      rwa [World.size_alloc] at this
    have HG := H2.out.guard hW (fun j => j = w2.heap.size ∨ j = w2.heap.size + 1) (by rintro j (rfl | rfl) <;> exact ⟨by omega, by simp <;> omega⟩)
    have IA := Lib.hid (show (uA a b c).i64 from by have := RG.out; unfold Fr.i64 I64; dsimp only; omega)
    have IB := Lib.hid (show Fr.i64 ⟨2, (a : Int), (b : Int), (c : Int) + 1 + (d : Int), 0⟩ from by have := RG.out; unfold Fr.i64 I64; dsimp only; omega)
    have MB := Lib.hid (u_two a b c ⟨2, (a : Int), (b : Int), (c : Int) + 1 + (d : Int), 0⟩ (by simp) (decide_eq_true (by dsimp only; omega)) (by simp; omega))
    clear c0 c1 c2 c3 lt hr
    refine (gput (uA a b c) HG IA.out (by decide)).mono ?_
    rintro e w3 ⟨rfl, hst, hk3, hs3⟩
    rw [u_one] at hst ⊢
    have X1 := Lib.hid (cells_at hx1 (hk3 _ (.inl rfl)))
    have X2 := Lib.hid (cells_at hx2 (hk3 _ (.inr rfl)))
    have H3 := Lib.hid hst
    clear hst hk3 hs3 HG hW hx1 hx2 H2 a0 a1 b0 b1 q0 q1 d0 d1
    go_wp2_with (refine loadFr rfl _ rfl (w2.heap.size + 1) 0 ⟨2, (a : Int), (b : Int), (c : Int) + 1 + (d : Int), 0⟩ rfl X2.out.fr ?_)
    refine (gput ⟨2, (a : Int), (b : Int), (c : Int) + 1 + (d : Int), 0⟩ H3.out IB.out (by simp)).mono ?_
    rintro e w4 ⟨rfl, hst, hk3, hs3⟩
    rw [MB.out] at hst ⊢
    have Y1 := Lib.hid (cells_at X1.out (hk3 _ (.inl rfl)))
    have H4 := Lib.hid hst
    clear hst hk3 hs3 X1 X2 H3
    go_wp2_with (refine loadFr rfl _ rfl w2.heap.size 0 (uA a b c) rfl Y1.out.fr ?_)
    refine (gput (uA a b c) H4.out IA.out (by simp)).mono ?_
    rintro e w5 ⟨rfl, hst, hk3, hs3⟩
    rw [u_three] at hst ⊢
    have H5 := Lib.hid hst
    clear hst hk3 hs3 Y1 H4
    go_wp2_with fail
    refine (xlen H5.out.sx).mono ?_
    rintro e w6 ⟨rfl, hst⟩
    rw [show (((uM2 a b c ++ [_] : List Pl).length : Nat) : Int) - 1 = 3 from rfl]
    have B6 := Lib.hid (BA.out.trans (hst.low.mono (by have := SA.out; omega)))
    have S6 := Lib.hid (show w.heap.size ≤ w6.heap.size from Nat.le_trans (by have := SA.out; omega) hst.low.size)
    clear hst H5
    go_wp2_with fail
    refine (fixed_any w6).mono ?_
    rintro e w7 ⟨rfl, hB⟩
    have B7 := Lib.hid (thenB B6.out hB S6.out)
    clear hB
    go_wp2_with fail
    go_ret
    exact ⟨rfl, B7.out⟩
  · go_wp2_with fail
    have hW : Below w2.heap.size w2 ((w2.alloc (.cells (frC (uA a b c)) 33)).alloc (.cells (frC ⟨2, (a : Int), (b : Int), (c : Int), 1⟩) 33)) := ((Below.refl _ w2).alloc (Nat.le_refl _) _).alloc (by simp) _
    have hx1 : BoxV 33 ((w2.alloc (.cells (frC (uA a b c)) 33)).alloc (.cells (frC ⟨2, (a : Int), (b : Int), (c : Int), 1⟩) 33)) w2.heap.size (frC (uA a b c)) := (BoxV.new w2 _).alloc _
    have hx2 : BoxV 33 ((w2.alloc (.cells (frC (uA a b c)) 33)).alloc (.cells (frC ⟨2, (a : Int), (b : Int), (c : Int), 1⟩) 33)) (w2.heap.size + 1) (frC ⟨2, (a : Int), (b : Int), (c : Int), 1⟩) := by
      have := BoxV.new (T := 33) (w2.alloc (.cells (frC (uA a b c)) 33)) (frC ⟨2, (a : Int), (b : Int), (c : Int), 1⟩)
      rwa [World.size_alloc] at this
    have HG := H2.out.guard hW (fun j => j = w2.heap.size ∨ j = w2.heap.size + 1) (by rintro j (rfl | rfl) <;> exact ⟨by omega, by simp <;> omega⟩)
    have IA := Lib.hid (show (uA a b c).i64 from by have := RG.out; unfold Fr.i64 I64; dsimp only; omega)
    have IB := Lib.hid (show Fr.i64 ⟨2, (a : Int), (b : Int), (c : Int), 1⟩ from by have := RG.out; unfold Fr.i64 I64; dsimp only; omega)
    have MB := Lib.hid (u_two a b c ⟨2, (a : Int), (b : Int), (c : Int), 1⟩ (by simp) (decide_eq_true (by dsimp only; omega)) (by simp))
    clear c0 c1 c2 c3 lt hr
    refine (gput (uA a b c) HG IA.out (by decide)).mono ?_
    rintro e w3 ⟨rfl, hst, hk3, hs3⟩
    rw [u_one] at hst ⊢
    have X1 := Lib.hid (cells_at hx1 (hk3 _ (.inl rfl)))
    have X2 := Lib.hid (cells_at hx2 (hk3 _ (.inr rfl)))
    have H3 := Lib.hid hst
    clear hst hk3 hs3 HG hW hx1 hx2 H2 a0 a1 b0 b1 q0 q1 d0 d1
    go_wp2_with (refine loadFr rfl _ rfl (w2.heap.size + 1) 0 ⟨2, (a : Int), (b : Int), (c : Int), 1⟩ rfl X2.out.fr ?_)
    refine (gput ⟨2, (a : Int), (b : Int), (c : Int), 1⟩ H3.out IB.out (by simp)).mono ?_
    rintro e w4 ⟨rfl, hst, hk3, hs3⟩
    rw [MB.out] at hst ⊢
    have Y1 := Lib.hid (cells_at X1.out (hk3 _ (.inl rfl)))
    have H4 := Lib.hid hst
    clear hst hk3 hs3 X1 X2 H3
    go_wp2_with (refine loadFr rfl _ rfl w2.heap.size 0 (uA a b c) rfl Y1.out.fr ?_)
    refine (gput (uA a b c) H4.out IA.out (by simp)).mono ?_
    rintro e w5 ⟨rfl, hst, hk3, hs3⟩
    rw [u_three] at hst ⊢
    have H5 := Lib.hid hst
    clear hst hk3 hs3 Y1 H4
    go_wp2_with fail
    refine (xlen H5.out.sx).mono ?_
    rintro e w6 ⟨rfl, hst⟩
    rw [show (((uM2 a b c ++ [_] : List Pl).length : Nat) : Int) - 1 = 3 from rfl]
    have B6 := Lib.hid (BA.out.trans (hst.low.mono (by have := SA.out; omega)))
    have S6 := Lib.hid (show w.heap.size ≤ w6.heap.size from Nat.le_trans (by have := SA.out; omega) hst.low.size)
    clear hst H5
    go_wp2_with fail
    refine (fixed_any w6).mono ?_
    rintro e w7 ⟨rfl, hB⟩
    have B7 := Lib.hid (thenB B6.out hB S6.out)
    clear hB
    go_wp2_with fail
    go_ret
    exact ⟨rfl, B7.out⟩
end Go.Proofs.Ytecfndpbgebpiaa
