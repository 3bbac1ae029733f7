import Derived.Test.YtdnbpbngoiahlaaGreatDoorLexToks
import Derived.BigQuiet
import Derived.Test.YtdnbpbngoiahlaaGreatDoorLexRA
import Derived.Test.YtdnbpbngoiahlaaGreatDoorLexRClass
namespace Go.Proofs.YtdnbpbngoiahlaaGreatDoor
open Go.RowKit
theorem infoTok6 : (Tryz.prog.info? 93).map (fun i => (i.zero, i.size, i.bytes)) = some (some (.agg #[.int .i64 0, .int .u64 0, .int .u64 0, .int .u64 0, .int .u64 0, .int .i64 0, .int .i64 0, .int .i64 0, .int .i64 0, .string ⟨#[]⟩]), 10, 88) := by kernel_rfl
section
variable {ops : Array Oper} {rest : List Oper} {o : Oper} {a : Act} {w : World} {Q : Exit → Act → World → Prop}
end
@[go_sem 10000] theorem neqTokSame (k s0 s1 s2 s3 mn mx md n : Int) (f : ByteArray) (w : World) : (binOp .neq 93 (.agg #[.int .i64 k, .int .u64 s0, .int .u64 s1, .int .u64 s2, .int .u64 s3, .int .i64 mn, .int .i64 mx, .int .i64 md, .int .i64 n, .string f]) (.agg #[.int .i64 k, .int .u64 s0, .int .u64 s1, .int .u64 s2, .int .u64 s3, .int .i64 mn, .int .i64 mx, .int .i64 md, .int .i64 n, .string f])).run Tryz.prog w = .ok (.bool false) w := by
 have h : (Op.equalIn 10000 93 (.agg #[.int .i64 k, .int .u64 s0, .int .u64 s1, .int .u64 s2, .int .u64 s3, .int .i64 mn, .int .i64 mx, .int .i64 md, .int .i64 n, .string f]) (.agg #[.int .i64 k, .int .u64 s0, .int .u64 s1, .int .u64 s2, .int .u64 s3, .int .i64 mn, .int .i64 mx, .int .i64 md, .int .i64 n, .string f])).run Tryz.prog w = .ok true w := by simp [go_sem]
 rw [run_neq_struct, h]
 rfl
theorem own_toks6 {w : World} {base : Nat} {v : Value} {l : List Tok} (h : w.ownsRow base 93 10 v l.length (toksC l)) : ∃ A cap, v = .slice A l.length cap ∧ Toks w A l := by
 rcases h.2 with ⟨h1, h2⟩ | ⟨g, cap, cur, h1, -, h2, -, -, -, -⟩
 ·refine ⟨none, 0, by rw [h1, h2], fun i t hi => ?_⟩
  rw [List.length_eq_zero_iff.1 h2] at hi
  cases hi
 ·refine ⟨some ⟨g, 0, none⟩, cap, h1, fun i t hi => ⟨g, 0, rfl, (Array.getElem?_eq_some_iff.1 h2).1, at10_of (fun j u hu => ?_) hi⟩⟩
  have := h.cells (g := g) (by rw [h1]; rfl) j u hu
  rw [Addr.add_lit] at this
  exact this
end Go.Proofs.YtdnbpbngoiahlaaGreatDoor
namespace Go.Proofs.YtdnbpbngoiahlaaGreatDoor
open Go.RowKit
def headsC : Array Value := #[.string ⟨#[46]⟩, .string ⟨#[94]⟩, .string ⟨#[36]⟩, .string ⟨#[92, 98]⟩, .string ⟨#[92, 66]⟩, .string ⟨#[124]⟩, .string ⟨#[40, 63, 58]⟩, .string ⟨#[40, 63, 61]⟩, .string ⟨#[40, 63, 33]⟩, .string ⟨#[40, 63, 60, 61]⟩, .string ⟨#[40, 63, 60, 33]⟩, .string ⟨#[40, 63, 62]⟩, .string ⟨#[41]⟩]
def kindsC : Array Value := #[.int .i64 1, .int .i64 2, .int .i64 3, .int .i64 4, .int .i64 5, .int .i64 6, .int .i64 8, .int .i64 9, .int .i64 10, .int .i64 11, .int .i64 12, .int .i64 13, .int .i64 15]
def hdL (j : Nat) : List Nat := (headsL.getD j ([], 0)).1
def hdS (j : Nat) : ByteArray := ⟨((hdL j).map (·.toUInt8)).toArray⟩
def kdI (j : Nat) : Int := (headsL.getD j ([], 0)).2
theorem heads_at : ∀ j, j < 13 → headsC[j]? = some (.string (hdS j))
 | 0, _ => rfl
 | 1, _ => rfl
 | 2, _ => rfl
 | 3, _ => rfl
 | 4, _ => rfl
 | 5, _ => rfl
 | 6, _ => rfl
 | 7, _ => rfl
 | 8, _ => rfl
 | 9, _ => rfl
 | 10, _ => rfl
 | 11, _ => rfl
 | 12, _ => rfl
 | j + 13, h => absurd h (by omega)
theorem kinds_at : ∀ j, j < 13 → kindsC[j]? = some (.int .i64 (kdI j))
 | 0, _ => rfl
 | 1, _ => rfl
 | 2, _ => rfl
 | 3, _ => rfl
 | 4, _ => rfl
 | 5, _ => rfl
 | 6, _ => rfl
 | 7, _ => rfl
 | 8, _ => rfl
 | 9, _ => rfl
 | 10, _ => rfl
 | 11, _ => rfl
 | 12, _ => rfl
 | j + 13, h => absurd h (by omega)
theorem hd_len : ∀ j, j < 13 → (hdS j).size = (hdL j).length ∧ (hdS j).size ≤ 4 ∧ (hdS j).data.toList.map (·.toNat) = hdL j
 | 0, _ => ⟨rfl, by decide, rfl⟩
 | 1, _ => ⟨rfl, by decide, rfl⟩
 | 2, _ => ⟨rfl, by decide, rfl⟩
 | 3, _ => ⟨rfl, by decide, rfl⟩
 | 4, _ => ⟨rfl, by decide, rfl⟩
 | 5, _ => ⟨rfl, by decide, rfl⟩
 | 6, _ => ⟨rfl, by decide, rfl⟩
 | 7, _ => ⟨rfl, by decide, rfl⟩
 | 8, _ => ⟨rfl, by decide, rfl⟩
 | 9, _ => ⟨rfl, by decide, rfl⟩
 | 10, _ => ⟨rfl, by decide, rfl⟩
 | 11, _ => ⟨rfl, by decide, rfl⟩
 | 12, _ => ⟨rfl, by decide, rfl⟩
 | j + 13, h => absurd h (by omega)
theorem drop_at : ∀ j, j < 13 → headsL.drop j = (hdL j, kdI j) :: headsL.drop (j + 1)
 | 0, _ => rfl
 | 1, _ => rfl
 | 2, _ => rfl
 | 3, _ => rfl
 | 4, _ => rfl
 | 5, _ => rfl
 | 6, _ => rfl
 | 7, _ => rfl
 | 8, _ => rfl
 | 9, _ => rfl
 | 10, _ => rfl
 | 11, _ => rfl
 | 12, _ => rfl
 | j + 13, h => absurd h (by omega)
theorem head_in {p : ByteArray} {i j : Nat} (hI : headF p i headsL = headF p i (headsL.drop j)) (hj : j < 13) (h : startB p i (hdS j) = true) (hi : i ≤ p.size) : tokZ p i = (tok0 (kdI j), i + (hdL j).length, 0) := by
 rw [start_head p (hdS j) i hi, (hd_len j hj).2.2] at h
 unfold tokZ
 rw [hI, drop_at j hj, headF, if_pos h]
theorem head_next {p : ByteArray} {i j : Nat} (hI : headF p i headsL = headF p i (headsL.drop j)) (hj : j < 13) (h : startB p i (hdS j) = false) (hi : i ≤ p.size) : headF p i headsL = headF p i (headsL.drop (j + 1)) := by
 rw [start_head p (hdS j) i hi, (hd_len j hj).2.2] at h
 rw [hI, drop_at j hj, headF, if_neg (by rw [h]; decide)]
def tailZ (p : ByteArray) (i : Nat) : TokR :=
 if headB p i [40, 63] = true then flagsF p (p.size + 1) (i + 2) []
 else if bt p i = 40 then (tok0 7, i + 1, 0)
 else if bt p i = 42 ∨ bt p i = 43 ∨ bt p i = 63 ∨ bt p i = 123 then quantZ p i
 else if bt p i = 91 then ({ tok0 0 with S := (classZ p i).1 }, (classZ p i).2.1, (classZ p i).2.2)
 else if bt p i = 93 ∨ bt p i = 125 then wrongT 3
 else if bt p i ≠ 92 then ({ tok0 0 with S := oneS (bt p i) }, i + 1, 0)
 else if 49 ≤ bt p (i + 1) ∧ bt p (i + 1) ≤ 57 then ({ tok0 17 with n := (bt p (i + 1) : Int) - 48 }, i + 2, 0)
 else if (escZ p i).2 = 0 then wrongT 3
 else ({ tok0 0 with S := (escZ p i).1 }, (escZ p i).2, 0)
theorem tok_tail {p : ByteArray} {i : Nat} (hI : headF p i headsL = headF p i (headsL.drop 13)) : tokZ p i = tailZ p i := by
 unfold tokZ
 rw [hI]
 rfl
structure TkW (w wr : World) (t : Tok) : Prop where
 r : BoxT 93 wr w.heap.size t
 hd : wr.heap[w.heap.size + 1]? = some (.cells headsC 9 (0, 0))
 kd : wr.heap[w.heap.size + 1 + 1]? = some (.cells kindsC 3 (0, 0))
 b : Below w.heap.size w wr
theorem TkW.call {w wr u : World} {t : Tok} (h : TkW w wr t) (hb : Below wr.heap.size wr u) : TkW w u t :=
 ⟨h.r.below hb h.r.lt, (hb.block _ (lt_of_block h.hd)).trans h.hd, (hb.block _ (lt_of_block h.kd)).trans h.kd, thenB h.b hb h.b.size⟩
theorem TkW.row {w wr : World} {s : Tok} (h : TkW w wr s) (t : Tok) : TkW w (wr.setRow w.heap.size (tokC t)) t :=
 ⟨h.r.rowSame t, (setRow_other wr w.heap.size (w.heap.size + 1) _ (by omega)).trans h.hd, (setRow_other wr w.heap.size (w.heap.size + 1 + 1) _ (by omega)).trans h.kd, below_row h.b (Nat.le_refl _) _⟩
theorem TkW.new (w : World) : TkW w (((w.alloc (.cells #[.int .i64 0, .int .u64 0, .int .u64 0, .int .u64 0, .int .u64 0, .int .i64 0, .int .i64 0, .int .i64 0, .int .i64 0, .string ⟨#[]⟩] 93)).alloc (.cells headsC 9)).alloc (.cells kindsC 3)) (tok0 0) := by
 refine ⟨(newR2 zero10).alloc _, ?_, ?_, (((Below.refl _ w).alloc (Nat.le_refl _) _).alloc (by simp) _).alloc (by simp; omega) _⟩
 ·have h := heap_alloc_new (w.alloc (.cells #[.int .i64 0, .int .u64 0, .int .u64 0, .int .u64 0, .int .u64 0, .int .i64 0, .int .i64 0, .int .i64 0, .int .i64 0, .string ⟨#[]⟩] 93)) (.cells headsC 9)
  have h2 := (Below.heap_alloc _ (.cells kindsC 3) _ (lt_of_block h)).trans h
  simpa using h2
 ·have h := heap_alloc_new ((w.alloc (.cells #[.int .i64 0, .int .u64 0, .int .u64 0, .int .u64 0, .int .u64 0, .int .i64 0, .int .i64 0, .int .i64 0, .int .i64 0, .string ⟨#[]⟩] 93)).alloc (.cells headsC 9)) (.cells kindsC 3)
  simpa using h
theorem TkW.hdc {w wr : World} {t : Tok} (h : TkW w wr t) {j : Nat} (hj : j < 13) : wr.cell? ⟨w.heap.size + 1, j, none⟩ = some (.string (hdS j)) := (cell_of_row wr (w.heap.size + 1) j _ _ _ h.hd).trans (heads_at j hj)
theorem TkW.kdc {w wr : World} {t : Tok} (h : TkW w wr t) {j : Nat} (hj : j < 13) : wr.cell? ⟨w.heap.size + 1 + 1, j, none⟩ = some (.int .i64 (kdI j)) := (cell_of_row wr (w.heap.size + 1 + 1) j _ _ _ h.kd).trans (kinds_at j hj)
theorem TkW.drew {w wr : World} {t : Tok} (h : TkW w wr t) : TkW w wr.drew t := ⟨h.r, h.hd, h.kd, h.b.drew⟩
theorem kd_tok (k : Int) : #[.int .i64 k, .int .u64 0, .int .u64 0, .int .u64 0, .int .u64 0, .int .i64 0, .int .i64 0, .int .i64 0, .int .i64 0, .string ⟨#[]⟩] = tokC (tok0 k) := by simp [tokC, tok0, W_zero]; rfl
section
variable {ops : Array Oper} {o : Oper} {a : Act} {x y : Operand} {R : World → Prop}
theorem idxH_y (g n k : Nat) (hk : k < n) (ho : o.op = .indexAddr 48 x y) (hx : a.eval x = .slice (some ⟨g, 0, none⟩) n n) (hy : a.eval y = .int .i64 (k : Int)) (hw : Region.wanted o (yielded ops a.tmps) = true) : YieldsIf Tryz.prog ops R o (.pointer (some ⟨g, k, none⟩)) a := by
 refine Or.inl ⟨hw, fun w _ => ?_⟩
 have h : (k : Int) < (n : Int) := by omega
 unfold execOp
 simp only [ho, hx, hy]
 go_simp
theorem idxK_y (g n k : Nat) (hk : k < n) (ho : o.op = .indexAddr 98 x y) (hx : a.eval x = .slice (some ⟨g, 0, none⟩) n n) (hy : a.eval y = .int .i64 (k : Int)) (hw : Region.wanted o (yielded ops a.tmps) = true) : YieldsIf Tryz.prog ops R o (.pointer (some ⟨g, k, none⟩)) a := by
 refine Or.inl ⟨hw, fun w _ => ?_⟩
 have h : (k : Int) < (n : Int) := by omega
 unfold execOp
 simp only [ho, hx, hy]
 go_simp
theorem loadK_y (g k : Nat) (n : Int) (hR : ∀ u, R u → u.cell? ⟨g, k, none⟩ = some (.int .i64 n)) (ho : o.op = .load 3 x) (hx : a.eval x = .pointer (some ⟨g, k, none⟩)) (hw : Region.wanted o (yielded ops a.tmps) = true) : YieldsIf Tryz.prog ops R o (.int .i64 n) a := by
 refine Or.inl ⟨hw, fun w h => ?_⟩
 have h2 := hR w h
 unfold execOp
 simp only [ho, hx]
 go_simp
theorem loadH_y (g k : Nat) (s : ByteArray) (hR : ∀ u, R u → u.cell? ⟨g, k, none⟩ = some (.string s)) (ho : o.op = .load 9 x) (hx : a.eval x = .pointer (some ⟨g, k, none⟩)) (hw : Region.wanted o (yielded ops a.tmps) = true) : YieldsIf Tryz.prog ops R o (.string s) a := by
 refine Or.inl ⟨hw, fun w h => ?_⟩
 have h2 := hR w h
 unfold execOp
 simp only [ho, hx]
 go_simp
end
theorem set_tok (S : BitVec 256) : #[.int .i64 0, .int .u64 (W S 0), .int .u64 (W S 1), .int .u64 (W S 2), .int .u64 (W S 3), .int .i64 0, .int .i64 0, .int .i64 0, .int .i64 0, .string ⟨#[]⟩] = tokC { tok0 0 with S := S } := by simp [tokC, tok0]; rfl
theorem ask_tok (n : Int) : #[.int .i64 17, .int .u64 0, .int .u64 0, .int .u64 0, .int .u64 0, .int .i64 0, .int .i64 0, .int .i64 0, .int .i64 n, .string ⟨#[]⟩] = tokC { tok0 17 with n := n } := by simp [tokC, tok0, W_zero]; rfl
theorem storeNewZt {ops : Array Oper} {rest : List Oper} {o : Oper} {a : Act} {w : World} {Q : Exit → Act → World → Prop} (hgd : o.guard = none) (p q : Operand) (ho : o.op = .store 40 p q) (wr : World) (S : BitVec 256) (hx : a.eval p = .pointer (some ⟨wr.heap.size, 0, none⟩)) (hy : a.eval q = setV S) (hw : w = wr.alloc (.cells #[.int .u64 0, .int .u64 0, .int .u64 0, .int .u64 0] 40))
  (h : ∀ u : World, Hid (BoxZ u wr.heap.size (W S 0) (W S 1) (W S 2) (W S 3)) → Hid (Below wr.heap.size wr u) → wpList Tryz.prog ops Q rest (a.put o.dst undef) u) : wpList Tryz.prog ops Q (o :: rest) a w := by
 subst hw
 refine wpList_store_row hgd 40 p q ho wr.heap.size _ hx hy _ _ (heap_alloc_new _ _) sizeArr rfl (by simp [Value.oneCell']) ?_
 exact h _ (Lib.hid (setRow_heap _ _ _ _ _ _ (heap_alloc_new _ _))) (Lib.hid (below_row ((Below.refl _ wr).alloc (Nat.le_refl _) _) (Nat.le_refl _) _))
theorem tail_fl {p : ByteArray} {i : Nat} (h : headB p i [40, 63] = true) : tailZ p i = flagsF p (p.size + 1) (i + 2) [] := by
 unfold tailZ
 rw [if_pos h]
section
variable {p : ByteArray} {i : Nat} (h0 : ¬ headB p i [40, 63] = true)
include h0
theorem tail_40 (h : bt p i = 40) : tailZ p i = (tok0 7, i + 1, 0) := by
 unfold tailZ
 rw [if_neg h0, if_pos h]
theorem tail_q (h : bt p i = 42 ∨ bt p i = 43 ∨ bt p i = 63 ∨ bt p i = 123) : tailZ p i = quantZ p i := by
 unfold tailZ
 rw [if_neg h0, if_neg (by omega), if_pos h]
theorem tail_91 (h : bt p i = 91) : tailZ p i = ({ tok0 0 with S := (classZ p i).1 }, (classZ p i).2.1, (classZ p i).2.2) := by
 unfold tailZ
 rw [if_neg h0, if_neg (by omega), if_neg (by omega), if_pos h]
theorem tail_93 (h : bt p i = 93 ∨ bt p i = 125) : tailZ p i = wrongT 3 := by
 unfold tailZ
 rw [if_neg h0, if_neg (by omega), if_neg (by omega), if_neg (by omega), if_pos h]
theorem tail_o (h1 : bt p i ≠ 40) (h2 : ¬ (bt p i = 42 ∨ bt p i = 43 ∨ bt p i = 63 ∨ bt p i = 123)) (h3 : bt p i ≠ 91) (h4 : ¬ (bt p i = 93 ∨ bt p i = 125)) (h5 : bt p i ≠ 92) : tailZ p i = ({ tok0 0 with S := oneS (bt p i) }, i + 1, 0) := by
 unfold tailZ
 rw [if_neg h0, if_neg h1, if_neg h2, if_neg h3, if_neg h4, if_pos h5]
theorem tail_dig (h : bt p i = 92) (hd : 49 ≤ bt p (i + 1) ∧ bt p (i + 1) ≤ 57) : tailZ p i = ({ tok0 17 with n := (bt p (i + 1) : Int) - 48 }, i + 2, 0) := by
 unfold tailZ
 rw [if_neg h0, if_neg (by omega), if_neg (by omega), if_neg (by omega), if_neg (by omega), if_neg (by omega), if_pos hd]
theorem tail_e0 (h : bt p i = 92) (hd : ¬ (49 ≤ bt p (i + 1) ∧ bt p (i + 1) ≤ 57)) (he : (escZ p i).2 = 0) : tailZ p i = wrongT 3 := by
 unfold tailZ
 rw [if_neg h0, if_neg (by omega), if_neg (by omega), if_neg (by omega), if_neg (by omega), if_neg (by omega), if_neg hd, if_pos he]
theorem tail_e1 (h : bt p i = 92) (hd : ¬ (49 ≤ bt p (i + 1) ∧ bt p (i + 1) ≤ 57)) (he : (escZ p i).2 ≠ 0) : tailZ p i = ({ tok0 0 with S := (escZ p i).1 }, (escZ p i).2, 0) := by
 unfold tailZ
 rw [if_neg h0, if_neg (by omega), if_neg (by omega), if_neg (by omega), if_neg (by omega), if_neg (by omega), if_neg hd, if_neg he]
end
set_option maxRecDepth 100000 in
set_option maxHeartbeats 16000000 in
theorem rtoken_any (p : ByteArray) (i : Nat) (w : World) (hp : p.size ≤ 1000000) (hi : i < p.size) : Calls Tryz.prog 52 #[.string p, .int .i64 (i : Int)] w fun e w' => e = .returned (.tuple #[tokV (tokZ p i).1, .int .i64 ((tokZ p i).2.1 : Nat), .int .i64 (tokZ p i).2.2]) ∧ Below w.heap.size w w' := by
 have HSt := Lib.hid (fun (s : ByteArray) w (h : s.size ≤ 1000) => starts_any p s i w hp (show i ≤ 2000000 by omega) h)
 have H0 := Lib.hid (TkW.new w)
 have HI := Lib.hid hi
 obtain ⟨R, hR⟩ : ∃ R, R = tokZ p i := ⟨_, rfl⟩
 rw [← hR]
 have HR := Lib.hid hR
 clear hR
 have hii : (i : Int) < (p.size : Int) := by omega
 go_enter Tryz.func52, Tryz.ntmps52
 go_wp2_with fail
 change Code.wp _ _ _ _ (((w.alloc _).alloc (.cells headsC _)).alloc (.cells kindsC _))
 generalize (((w.alloc _).alloc (.cells headsC _)).alloc (.cells kindsC _)) = W0 at H0 ⊢
 go_loopw [10] (fun s10 wr => ∃ j : Nat, s10 = .int .i64 j ∧ j ≤ 13 ∧ headF p i headsL = headF p i (headsL.drop j) ∧ TkW w wr (tok0 0)) (fun s10 _ => 13 - (intOf s10).toNat)
 case atStart => exact ⟨0, rfl, by omega, rfl, H0.out⟩
 case round =>
  obtain ⟨j, rfl, hj13, hF, hW⟩ := hrel
  have HF := Lib.hid hF
  have HW := Lib.hid hW
  clear hF hW H0
  by_cases hj : j < 13
  ·have jj : (j : Int) < 13 := by omega
   have hc1 := HW.out.hdc hj
   have hl := hd_len j hj
   have hl2 := hl.2.1
   have HL := Lib.hid hl.1
   have h1000 : (hdS j).size ≤ 1000 := by omega
   clear hl
   obtain ⟨s, hs⟩ : ∃ s, s = hdS j := ⟨_, rfl⟩
   rw [← hs] at hc1 hl2 HL h1000
   have HS := Lib.hid hs
   clear hs
   go_wp2_with fail
   with_reducible refine (HSt.out s _ h1000).mono ?_
   rintro x wa ⟨rfl, rfl⟩
   cases hb : startB p i s with
   | true =>
     have HE := Lib.hid (head_in HF.out hj (by rw [← HS.out]; exact hb) (Nat.le_of_lt HI.out))
     have HL2 := HL.out
     clear hc1 hl2 hb
     go_wp2_with fail
     refine wp_region_held_drew (S := fun u => ∃ t, TkW w u t) (by kernel_rfl) (show _ from ⟨_, HW.out.drew⟩) (fun hS => ?_)
     generalize World.drew wr = u0 at hS ⊢
     refine takeAt 0 34 (.slice (some ⟨w.heap.size + 1 + 1, 0, none⟩) 13 13) rfl rfl (by kernel_rfl) (by kernel_rfl) (by kernel_rfl) (fun _ _ _ h => h) (yields (by rfl) (fun w => by kernel_rfl)) hS ?_
     simp only [Act.put, List.setIfInBounds_toArray, List.set_cons_zero, List.set_cons_succ]
     refine takeAt 1 35 (.int .i64 (j : Int)) rfl rfl (by kernel_rfl) (by kernel_rfl) (by kernel_rfl) (fun _ _ _ h => h) (yields (by rfl) (fun w => by kernel_rfl)) hS ?_
     simp only [Act.put, List.setIfInBounds_toArray, List.set_cons_zero, List.set_cons_succ]
     refine takeAt 2 36 (.pointer (some ⟨w.heap.size + 1 + 1, j, none⟩)) rfl rfl (by kernel_rfl) (by kernel_rfl) (by kernel_rfl) (fun _ _ _ h => h) (idxK_y (w.heap.size + 1 + 1) 13 j hj rfl rfl rfl (by rfl)) hS ?_
     simp only [Act.put, List.setIfInBounds_toArray, List.set_cons_zero, List.set_cons_succ]
     refine takeAt 3 37 (.int .i64 (kdI j)) rfl rfl (by kernel_rfl) (by kernel_rfl) (by kernel_rfl) (fun _ _ _ h => h) (loadK_y (w.heap.size + 1 + 1) j (kdI j) (fun _ h => by obtain ⟨t, h⟩ := h; exact h.kdc hj) rfl rfl (by rfl)) hS ?_
     simp only [Act.put, List.setIfInBounds_toArray, List.set_cons_zero, List.set_cons_succ]
     refine takeAt 4 38 (.agg (tokC (tok0 (kdI j)))) rfl rfl (by kernel_rfl) (by kernel_rfl) (by kernel_rfl) (fun _ _ _ h => h) (yields (by rfl) (fun w => by rw [← kd_tok]; kernel_rfl)) hS ?_
     simp only [Act.put, List.setIfInBounds_toArray, List.set_cons_zero, List.set_cons_succ]
     refine takeAt 5 39 (.int .i64 (i : Int)) rfl rfl (by kernel_rfl) (by kernel_rfl) (by kernel_rfl) (fun _ _ _ h => h) (yields (by rfl) (fun w => by kernel_rfl)) hS ?_
     simp only [Act.put, List.setIfInBounds_toArray, List.set_cons_zero, List.set_cons_succ]
     refine takeAt 6 40 (.slice (some ⟨w.heap.size + 1, 0, none⟩) 13 13) rfl rfl (by kernel_rfl) (by kernel_rfl) (by kernel_rfl) (fun _ _ _ h => h) (yields (by rfl) (fun w => by kernel_rfl)) hS ?_
     simp only [Act.put, List.setIfInBounds_toArray, List.set_cons_zero, List.set_cons_succ]
     refine takeAt 7 41 (.int .i64 (j : Int)) rfl rfl (by kernel_rfl) (by kernel_rfl) (by kernel_rfl) (fun _ _ _ h => h) (yields (by rfl) (fun w => by kernel_rfl)) hS ?_
     simp only [Act.put, List.setIfInBounds_toArray, List.set_cons_zero, List.set_cons_succ]
     refine takeAt 8 42 (.pointer (some ⟨w.heap.size + 1, j, none⟩)) rfl rfl (by kernel_rfl) (by kernel_rfl) (by kernel_rfl) (fun _ _ _ h => h) (idxH_y (w.heap.size + 1) 13 j hj rfl rfl rfl (by rfl)) hS ?_
     simp only [Act.put, List.setIfInBounds_toArray, List.set_cons_zero, List.set_cons_succ]
     refine takeAt 9 43 (.string s) rfl rfl (by kernel_rfl) (by kernel_rfl) (by kernel_rfl) (fun _ _ _ h => h) (loadH_y (w.heap.size + 1) j s (fun _ h => by obtain ⟨t, h⟩ := h; rw [HS.out]; exact h.hdc hj) rfl rfl (by rfl)) hS ?_
     simp only [Act.put, List.setIfInBounds_toArray, List.set_cons_zero, List.set_cons_succ]
     refine takeAt 10 44 (.int .i64 (s.size : Int)) rfl rfl (by kernel_rfl) (by kernel_rfl) (by kernel_rfl) (fun _ _ _ h => h) (yields (by rfl) (fun w => by kernel_rfl)) hS ?_
     simp only [Act.put, List.setIfInBounds_toArray, List.set_cons_zero, List.set_cons_succ]
     refine takeAt 11 45 (.int .i64 ((i : Int) + (s.size : Int))) rfl rfl (by kernel_rfl) (by kernel_rfl) (by kernel_rfl) (fun _ _ _ h => h) (addI_y (i : Int) (s.size : Int) _ rfl (by omega) rfl rfl rfl (by rfl)) hS ?_
     simp only [Act.put, List.setIfInBounds_toArray, List.set_cons_zero, List.set_cons_succ]
     obtain ⟨t0, hS0⟩ := hS
     refine rowAt 12 93 w.heap.size (tokC t0) (tokC (tok0 (kdI j))) rfl rfl rfl (by kernel_rfl) (by rfl) rfl rfl hS0.r sizeTokR rfl (tokC_one _) ⟨_, hS0.row _⟩ ?_
     have hS : ∃ t, TkW w (u0.setRow w.heap.size (tokC (tok0 (kdI j)))) t := ⟨_, hS0.row _⟩
     have hS1 := hS0.row (tok0 (kdI j))
     refine takeAt 13 5 (.int .i64 ((i : Int) + (s.size : Int))) rfl rfl (by kernel_rfl) (by kernel_rfl) (by kernel_rfl) (fun _ _ _ h => h) (yields (by rfl) (fun w => by kernel_rfl)) hS ?_
     simp only [Act.put, List.setIfInBounds_toArray, List.set_cons_zero, List.set_cons_succ]
     refine takeAt 14 6 (.int .i64 0) rfl rfl (by kernel_rfl) (by kernel_rfl) (by kernel_rfl) (fun _ _ _ h => h) (yields (by rfl) (fun w => by kernel_rfl)) hS ?_
     simp only [Act.put, List.setIfInBounds_toArray, List.set_cons_zero, List.set_cons_succ]
     refine wpAnyH_done (by kernel_rfl) ?_ _
     go_wp2_with fail
     refine bodyPost_ret (resR3 (p := 4) (u := 5) (u2 := 6) (t := tok0 (kdI j)) (v := .int .i64 ((i : Int) + (s.size : Int))) (v2 := .int .i64 0) rfl _ (g := w.heap.size) rfl rfl rfl hS1.r) rfl ?_
     refine ⟨?_, hS1.b⟩
     rw [HR.out, HE.out, HL2]
     rfl
   | false =>
     have HN := Lib.hid (head_next HF.out hj (by rw [← HS.out]; exact hb) (Nat.le_of_lt HI.out))
     go_wp2_with fail
     go_roundw
     case rel => exact ⟨j + 1, by go_num, by omega, HN.out, HW.out⟩
     case measure => simp [intOf]; omega
  ·obtain rfl : j = 13 := by omega
   have HT := Lib.hid (tok_tail HF.out)
   go_wp2_with fail
   with_reducible refine (HSt.out ⟨#[40, 63]⟩ _ (by decide)).mono ?_
   rintro x wa ⟨rfl, rfl⟩
   have hsb : startB p i ⟨#[40, 63]⟩ = headB p i [40, 63] := by rw [start_head p ⟨#[40, 63]⟩ i (Nat.le_of_lt HI.out)]; rfl
   rw [hsb]
   clear hsb
   by_cases hq : headB p i [40, 63] = true
   ·have hi2 : i + 2 ≤ p.size := by
     have h2 : bt p (i + 1) = 63 := by
      simp [headB] at hq
      exact hq.2
     have := bt_in (p := p) (i := i + 1) (by omega)
     omega
    have HE := Lib.hid (HT.out.trans (tail_fl hq))
    rw [hq]
    go_wp2_with fail
    with_reducible refine (rflags_any p i _ hp hi2).mono ?_
    obtain ⟨F, hF⟩ : ∃ F, F = flagsF p (p.size + 1) (i + 2) [] := ⟨_, rfl⟩
    rw [← hF]
    have HFF := Lib.hid hF
    clear hF
    rintro x wb ⟨rfl, hb⟩
    have HWb := Lib.hid (HW.out.call hb)
    clear hb
    go_wp2_with (refine storeR rfl _ _ rfl w.heap.size (tok0 0) (F.1) rfl _ rfl (rfl) HWb.out.r ?_)
    refine bodyPost_ret (resR3 (p := 4) (u := 5) (u2 := 6) (t := F.1) (v := .int .i64 ((F.2.1 : Nat) : Int)) (v2 := .int .i64 F.2.2) rfl _ (g := w.heap.size) rfl rfl rfl (HWb.out.r.rowSame _)) rfl ?_
    refine ⟨?_, below_row HWb.out.b (Nat.le_refl _) _⟩
    rw [HR.out, HE.out, ← HFF.out]
   ·have hqf : headB p i [40, 63] = false := by simpa using hq
    rw [hqf]
    clear hqf
    by_cases h40 : bt p i = 40
    ·have q : ((p[i]'hi).toNat : Int) = 40 := by rw [← bt_at hi, h40]; rfl
     have HE := Lib.hid (HT.out.trans (tail_40 hq h40))
     go_wp2_with (refine storeR rfl _ _ rfl w.heap.size (tok0 0) (tok0 7) rfl _ rfl (kd_tok 7) HW.out.r ?_)
     refine bodyPost_ret (resR3 (p := 4) (u := 5) (u2 := 6) (t := tok0 7) (v := .int .i64 ((i : Int) + 1)) (v2 := .int .i64 0) rfl _ (g := w.heap.size) rfl rfl rfl (HW.out.r.rowSame _)) rfl ?_
     refine ⟨?_, below_row HW.out.b (Nat.le_refl _) _⟩
     rw [HR.out, HE.out]
     rfl
    by_cases h42 : bt p i = 42
    ·have q : ((p[i]'hi).toNat : Int) = 42 := by rw [← bt_at hi, h42]; rfl
     have HE := Lib.hid (HT.out.trans (tail_q hq (.inl h42)))
     go_wp2_with fail
     with_reducible refine (rquant_any p i _ hp hi (.inl h42)).mono ?_
     obtain ⟨F, hF⟩ : ∃ F, F = quantZ p i := ⟨_, rfl⟩
     rw [← hF]
     have HFF := Lib.hid hF
     clear hF
     rintro x wb ⟨rfl, hb⟩
     have HWb := Lib.hid (HW.out.call hb)
     clear hb
     go_wp2_with (refine storeR rfl _ _ rfl w.heap.size (tok0 0) (F.1) rfl _ rfl (rfl) HWb.out.r ?_)
     refine bodyPost_ret (resR3 (p := 4) (u := 5) (u2 := 6) (t := F.1) (v := .int .i64 ((F.2.1 : Nat) : Int)) (v2 := .int .i64 F.2.2) rfl _ (g := w.heap.size) rfl rfl rfl (HWb.out.r.rowSame _)) rfl ?_
     refine ⟨?_, below_row HWb.out.b (Nat.le_refl _) _⟩
     rw [HR.out, HE.out, ← HFF.out]
    by_cases h43 : bt p i = 43
    ·have q : ((p[i]'hi).toNat : Int) = 43 := by rw [← bt_at hi, h43]; rfl
     have HE := Lib.hid (HT.out.trans (tail_q hq (.inr (.inl h43))))
     go_wp2_with fail
     with_reducible refine (rquant_any p i _ hp hi (.inr (.inl h43))).mono ?_
     obtain ⟨F, hF⟩ : ∃ F, F = quantZ p i := ⟨_, rfl⟩
     rw [← hF]
     have HFF := Lib.hid hF
     clear hF
     rintro x wb ⟨rfl, hb⟩
     have HWb := Lib.hid (HW.out.call hb)
     clear hb
     go_wp2_with (refine storeR rfl _ _ rfl w.heap.size (tok0 0) (F.1) rfl _ rfl (rfl) HWb.out.r ?_)
     refine bodyPost_ret (resR3 (p := 4) (u := 5) (u2 := 6) (t := F.1) (v := .int .i64 ((F.2.1 : Nat) : Int)) (v2 := .int .i64 F.2.2) rfl _ (g := w.heap.size) rfl rfl rfl (HWb.out.r.rowSame _)) rfl ?_
     refine ⟨?_, below_row HWb.out.b (Nat.le_refl _) _⟩
     rw [HR.out, HE.out, ← HFF.out]
    by_cases h63 : bt p i = 63
    ·have q : ((p[i]'hi).toNat : Int) = 63 := by rw [← bt_at hi, h63]; rfl
     have HE := Lib.hid (HT.out.trans (tail_q hq (.inr (.inr (.inl h63)))))
     go_wp2_with fail
     with_reducible refine (rquant_any p i _ hp hi (.inr (.inr (.inl h63)))).mono ?_
     obtain ⟨F, hF⟩ : ∃ F, F = quantZ p i := ⟨_, rfl⟩
     rw [← hF]
     have HFF := Lib.hid hF
     clear hF
     rintro x wb ⟨rfl, hb⟩
     have HWb := Lib.hid (HW.out.call hb)
     clear hb
     go_wp2_with (refine storeR rfl _ _ rfl w.heap.size (tok0 0) (F.1) rfl _ rfl (rfl) HWb.out.r ?_)
     refine bodyPost_ret (resR3 (p := 4) (u := 5) (u2 := 6) (t := F.1) (v := .int .i64 ((F.2.1 : Nat) : Int)) (v2 := .int .i64 F.2.2) rfl _ (g := w.heap.size) rfl rfl rfl (HWb.out.r.rowSame _)) rfl ?_
     refine ⟨?_, below_row HWb.out.b (Nat.le_refl _) _⟩
     rw [HR.out, HE.out, ← HFF.out]
    by_cases h123 : bt p i = 123
    ·have q : ((p[i]'hi).toNat : Int) = 123 := by rw [← bt_at hi, h123]; rfl
     have HE := Lib.hid (HT.out.trans (tail_q hq (.inr (.inr (.inr h123)))))
     go_wp2_with fail
     with_reducible refine (rquant_any p i _ hp hi (.inr (.inr (.inr h123)))).mono ?_
     obtain ⟨F, hF⟩ : ∃ F, F = quantZ p i := ⟨_, rfl⟩
     rw [← hF]
     have HFF := Lib.hid hF
     clear hF
     rintro x wb ⟨rfl, hb⟩
     have HWb := Lib.hid (HW.out.call hb)
     clear hb
     go_wp2_with (refine storeR rfl _ _ rfl w.heap.size (tok0 0) (F.1) rfl _ rfl (rfl) HWb.out.r ?_)
     refine bodyPost_ret (resR3 (p := 4) (u := 5) (u2 := 6) (t := F.1) (v := .int .i64 ((F.2.1 : Nat) : Int)) (v2 := .int .i64 F.2.2) rfl _ (g := w.heap.size) rfl rfl rfl (HWb.out.r.rowSame _)) rfl ?_
     refine ⟨?_, below_row HWb.out.b (Nat.le_refl _) _⟩
     rw [HR.out, HE.out, ← HFF.out]
    by_cases h91 : bt p i = 91
    ·have q : ((p[i]'hi).toNat : Int) = 91 := by rw [← bt_at hi, h91]; rfl
     have HE := Lib.hid (HT.out.trans (tail_91 hq h91))
     go_wp2_with fail
     with_reducible refine (rclass_any p i _ hp hi h91).mono ?_
     obtain ⟨F, hF⟩ : ∃ F, F = classZ p i := ⟨_, rfl⟩
     rw [← hF]
     have HFF := Lib.hid hF
     clear hF
     rintro x wb ⟨rfl, hb⟩
     have HWb := Lib.hid (HW.out.call hb)
     clear hb
     go_wp2_with (refine storeNewZt rfl _ _ rfl wb F.1 rfl rfl rfl ?_; intro wc hx hb2; refine stopQ ?_)
     unfold StopQ
     have HWc := Lib.hid (HWb.out.call hb2.out)
     go_wp2_with (first | (refine loadZ rfl _ rfl wb.heap.size rfl hx.out ?_) | (refine storeR rfl _ _ rfl w.heap.size (tok0 0) ({ tok0 0 with S := F.1 }) rfl _ rfl (set_tok F.1) HWc.out.r ?_))
     refine bodyPost_ret (resR3 (p := 4) (u := 5) (u2 := 6) (t := { tok0 0 with S := F.1 }) (v := .int .i64 ((F.2.1 : Nat) : Int)) (v2 := .int .i64 F.2.2) rfl _ (g := w.heap.size) rfl rfl rfl (HWc.out.r.rowSame _)) rfl ?_
     refine ⟨?_, below_row HWc.out.b (Nat.le_refl _) _⟩
     rw [HR.out, HE.out, ← HFF.out]
    by_cases h93 : bt p i = 93
    ·have q : ((p[i]'hi).toNat : Int) = 93 := by rw [← bt_at hi, h93]; rfl
     have HE := Lib.hid (HT.out.trans (tail_93 hq (.inl h93)))
     go_wp2_with (refine storeR rfl _ _ rfl w.heap.size (tok0 0) (tok0 0) rfl _ rfl (kd_tok 0) HW.out.r ?_)
     refine bodyPost_ret (resR3 (p := 4) (u := 5) (u2 := 6) (t := tok0 0) (v := .int .i64 0) (v2 := .int .i64 3) rfl _ (g := w.heap.size) rfl rfl rfl (HW.out.r.rowSame _)) rfl ?_
     refine ⟨?_, below_row HW.out.b (Nat.le_refl _) _⟩
     rw [HR.out, HE.out]
     rfl
    by_cases h125 : bt p i = 125
    ·have q : ((p[i]'hi).toNat : Int) = 125 := by rw [← bt_at hi, h125]; rfl
     have HE := Lib.hid (HT.out.trans (tail_93 hq (.inr h125)))
     go_wp2_with (refine storeR rfl _ _ rfl w.heap.size (tok0 0) (tok0 0) rfl _ rfl (kd_tok 0) HW.out.r ?_)
     refine bodyPost_ret (resR3 (p := 4) (u := 5) (u2 := 6) (t := tok0 0) (v := .int .i64 0) (v2 := .int .i64 3) rfl _ (g := w.heap.size) rfl rfl rfl (HW.out.r.rowSame _)) rfl ?_
     refine ⟨?_, below_row HW.out.b (Nat.le_refl _) _⟩
     rw [HR.out, HE.out]
     rfl
    by_cases h92 : bt p i = 92
    ·have q : ((p[i]'hi).toNat : Int) = 92 := by rw [← bt_at hi, h92]; rfl
     clear h40 h42 h43 h63 h123 h91 h93 h125
     obtain ⟨n, hn⟩ : ∃ n, n = i + 1 := ⟨_, rfl⟩
     have hnz : (i : Int) + 1 = (n : Int) := by omega
     have HN := Lib.hid hn
     by_cases hnp : n < p.size
     ·have hnp2 : (n : Int) < (p.size : Int) := by omega
      have hnp3 : decide ((n : Int) < (p.size : Int)) = true := decide_eq_true hnp2
      have hbn : bt p (i + 1) = (p[n]'hnp).toNat := by rw [← hn]; exact bt_at hnp
      have hlt : (p[n]'hnp).toNat < 256 := UInt8.toNat_lt _
      clear hn
      by_cases hd : 49 ≤ bt p (i + 1) ∧ bt p (i + 1) ≤ 57
      ·have HE := Lib.hid (HT.out.trans (tail_dig hq h92 hd))
       rw [hbn] at HE hd
       clear hbn h92
       obtain ⟨d1, d2⟩ := hd
       have g1 : decide ((49 : Int) ≤ ((p[n]'hnp).toNat : Int)) = true := decide_eq_true (by omega)
       have g2 : decide (((p[n]'hnp).toNat : Int) ≤ 57) = true := decide_eq_true (by omega)
       go_wp2_with (refine storeR rfl _ _ rfl w.heap.size (tok0 0) ({ tok0 17 with n := ((p[n]'hnp).toNat : Int) - 48 }) rfl _ rfl (ask_tok _) HW.out.r ?_)
       refine bodyPost_ret (resR3 (p := 4) (u := 5) (u2 := 6) (t := { tok0 17 with n := ((p[n]'hnp).toNat : Int) - 48 }) (v := .int .i64 ((i : Int) + 2)) (v2 := .int .i64 0) rfl _ (g := w.heap.size) rfl rfl rfl (HW.out.r.rowSame _)) rfl ?_
       refine ⟨?_, below_row HW.out.b (Nat.le_refl _) _⟩
       rw [HR.out, HE.out]
       rfl
      ·have g : decide ((49 : Int) ≤ ((p[n]'hnp).toNat : Int)) = true ∧ decide (((p[n]'hnp).toNat : Int) ≤ 57) = false ∨ decide ((49 : Int) ≤ ((p[n]'hnp).toNat : Int)) = false := by
        rw [hbn] at hd
        by_cases h49 : 49 ≤ (p[n]'hnp).toNat
        ·exact .inl ⟨decide_eq_true (by omega), decide_eq_false (by omega)⟩
        ·exact .inr (decide_eq_false (by omega))
       have HD := Lib.hid hd
       clear hbn hd
       rcases g with ⟨g1, g2⟩ | g1
       ·skip
        have HE0 := Lib.hid (fun h => HT.out.trans (tail_e0 hq h92 HD.out h))
        have HE1 := Lib.hid (fun h => HT.out.trans (tail_e1 hq h92 HD.out h))
        clear h92
        go_wp2_with fail
        with_reducible refine (esc_any p i _ hp hi).mono ?_
        obtain ⟨E, hE⟩ : ∃ E, E = escZ p i := ⟨_, rfl⟩
        rw [← hE] at HE0 HE1 ⊢
        clear hE
        rintro x wb ⟨rfl, hb⟩
        have HWb := Lib.hid (HW.out.call hb)
        clear hb
        obtain ⟨S, k⟩ := E
        simp only [] at HE0 HE1 ⊢
        go_wp2_with (refine storeNewA rfl _ _ rfl wb 0#256 S rfl rfl rfl ?_; intro wc hx hb2; refine stopQ ?_)
        unfold StopQ
        have HWc := Lib.hid (HWb.out.call hb2.out)
        by_cases he : k = 0
        ·have HE := Lib.hid (HE0.out he)
         have qk : ((k : Nat) : Int) = 0 := by omega
         clear he
         go_wp2_with (refine storeR rfl _ _ rfl w.heap.size (tok0 0) (tok0 0) rfl _ rfl (kd_tok 0) HWc.out.r ?_)
         refine bodyPost_ret (resR3 (p := 4) (u := 5) (u2 := 6) (t := tok0 0) (v := .int .i64 0) (v2 := .int .i64 3) rfl _ (g := w.heap.size) rfl rfl rfl (HWc.out.r.rowSame _)) rfl ?_
         refine ⟨?_, below_row HWc.out.b (Nat.le_refl _) _⟩
         rw [HR.out, HE.out]
         rfl
        ·have HE := Lib.hid (HE1.out he)
         have qk : ¬ ((k : Nat) : Int) = 0 := by omega
         clear he
         go_wp2_with (refine loadA rfl _ rfl wb.heap.size S rfl hx.out ?_)
         with_reducible refine (rwords_any S _).mono ?_
         rintro x wd ⟨rfl, hb⟩
         have HWd := Lib.hid (HWc.out.call hb)
         clear hb
         go_wp2_with (refine storeR rfl _ _ rfl w.heap.size (tok0 0) ({ tok0 0 with S := S }) rfl _ rfl (set_tok S) HWd.out.r ?_)
         refine bodyPost_ret (resR3 (p := 4) (u := 5) (u2 := 6) (t := { tok0 0 with S := S }) (v := .int .i64 ((k : Nat) : Int)) (v2 := .int .i64 0) rfl _ (g := w.heap.size) rfl rfl rfl (HWd.out.r.rowSame _)) rfl ?_
         refine ⟨?_, below_row HWd.out.b (Nat.le_refl _) _⟩
         rw [HR.out, HE.out]
       ·skip
        have HE0 := Lib.hid (fun h => HT.out.trans (tail_e0 hq h92 HD.out h))
        have HE1 := Lib.hid (fun h => HT.out.trans (tail_e1 hq h92 HD.out h))
        clear h92
        go_wp2_with fail
        with_reducible refine (esc_any p i _ hp hi).mono ?_
        obtain ⟨E, hE⟩ : ∃ E, E = escZ p i := ⟨_, rfl⟩
        rw [← hE] at HE0 HE1 ⊢
        clear hE
        rintro x wb ⟨rfl, hb⟩
        have HWb := Lib.hid (HW.out.call hb)
        clear hb
        obtain ⟨S, k⟩ := E
        simp only [] at HE0 HE1 ⊢
        go_wp2_with (refine storeNewA rfl _ _ rfl wb 0#256 S rfl rfl rfl ?_; intro wc hx hb2; refine stopQ ?_)
        unfold StopQ
        have HWc := Lib.hid (HWb.out.call hb2.out)
        by_cases he : k = 0
        ·have HE := Lib.hid (HE0.out he)
         have qk : ((k : Nat) : Int) = 0 := by omega
         clear he
         go_wp2_with (refine storeR rfl _ _ rfl w.heap.size (tok0 0) (tok0 0) rfl _ rfl (kd_tok 0) HWc.out.r ?_)
         refine bodyPost_ret (resR3 (p := 4) (u := 5) (u2 := 6) (t := tok0 0) (v := .int .i64 0) (v2 := .int .i64 3) rfl _ (g := w.heap.size) rfl rfl rfl (HWc.out.r.rowSame _)) rfl ?_
         refine ⟨?_, below_row HWc.out.b (Nat.le_refl _) _⟩
         rw [HR.out, HE.out]
         rfl
        ·have HE := Lib.hid (HE1.out he)
         have qk : ¬ ((k : Nat) : Int) = 0 := by omega
         clear he
         go_wp2_with (refine loadA rfl _ rfl wb.heap.size S rfl hx.out ?_)
         with_reducible refine (rwords_any S _).mono ?_
         rintro x wd ⟨rfl, hb⟩
         have HWd := Lib.hid (HWc.out.call hb)
         clear hb
         go_wp2_with (refine storeR rfl _ _ rfl w.heap.size (tok0 0) ({ tok0 0 with S := S }) rfl _ rfl (set_tok S) HWd.out.r ?_)
         refine bodyPost_ret (resR3 (p := 4) (u := 5) (u2 := 6) (t := { tok0 0 with S := S }) (v := .int .i64 ((k : Nat) : Int)) (v2 := .int .i64 0) rfl _ (g := w.heap.size) rfl rfl rfl (HWd.out.r.rowSame _)) rfl ?_
         refine ⟨?_, below_row HWd.out.b (Nat.le_refl _) _⟩
         rw [HR.out, HE.out]
     ·have hnp2 : ¬ (n : Int) < (p.size : Int) := by omega
      have hnp3 : decide ((n : Int) < (p.size : Int)) = false := decide_eq_false hnp2
      have HD := Lib.hid (show ¬ (49 ≤ bt p (i + 1) ∧ bt p (i + 1) ≤ 57) from fun h => hnp (by rw [hn]; exact bt_in (by omega)))
      clear hn
      have HE0 := Lib.hid (fun h => HT.out.trans (tail_e0 hq h92 HD.out h))
      have HE1 := Lib.hid (fun h => HT.out.trans (tail_e1 hq h92 HD.out h))
      clear h92
      go_wp2_with fail
      with_reducible refine (esc_any p i _ hp hi).mono ?_
      obtain ⟨E, hE⟩ : ∃ E, E = escZ p i := ⟨_, rfl⟩
      rw [← hE] at HE0 HE1 ⊢
      clear hE
      rintro x wb ⟨rfl, hb⟩
      have HWb := Lib.hid (HW.out.call hb)
      clear hb
      obtain ⟨S, k⟩ := E
      simp only [] at HE0 HE1 ⊢
      go_wp2_with (refine storeNewA rfl _ _ rfl wb 0#256 S rfl rfl rfl ?_; intro wc hx hb2; refine stopQ ?_)
      unfold StopQ
      have HWc := Lib.hid (HWb.out.call hb2.out)
      by_cases he : k = 0
      ·have HE := Lib.hid (HE0.out he)
       have qk : ((k : Nat) : Int) = 0 := by omega
       clear he
       go_wp2_with (refine storeR rfl _ _ rfl w.heap.size (tok0 0) (tok0 0) rfl _ rfl (kd_tok 0) HWc.out.r ?_)
       refine bodyPost_ret (resR3 (p := 4) (u := 5) (u2 := 6) (t := tok0 0) (v := .int .i64 0) (v2 := .int .i64 3) rfl _ (g := w.heap.size) rfl rfl rfl (HWc.out.r.rowSame _)) rfl ?_
       refine ⟨?_, below_row HWc.out.b (Nat.le_refl _) _⟩
       rw [HR.out, HE.out]
       rfl
      ·have HE := Lib.hid (HE1.out he)
       have qk : ¬ ((k : Nat) : Int) = 0 := by omega
       clear he
       go_wp2_with (refine loadA rfl _ rfl wb.heap.size S rfl hx.out ?_)
       with_reducible refine (rwords_any S _).mono ?_
       rintro x wd ⟨rfl, hb⟩
       have HWd := Lib.hid (HWc.out.call hb)
       clear hb
       go_wp2_with (refine storeR rfl _ _ rfl w.heap.size (tok0 0) ({ tok0 0 with S := S }) rfl _ rfl (set_tok S) HWd.out.r ?_)
       refine bodyPost_ret (resR3 (p := 4) (u := 5) (u2 := 6) (t := { tok0 0 with S := S }) (v := .int .i64 ((k : Nat) : Int)) (v2 := .int .i64 0) rfl _ (g := w.heap.size) rfl rfl rfl (HWd.out.r.rowSame _)) rfl ?_
       refine ⟨?_, below_row HWd.out.b (Nat.le_refl _) _⟩
       rw [HR.out, HE.out]
    ·have HE := Lib.hid (HT.out.trans (tail_o hq h40 (by omega) h91 (by omega) h92))
     have hb1 := bt_at hi
     rw [hb1] at HE h40 h42 h43 h63 h123 h91 h93 h125 h92
     clear hb1
     have hc : (p[i]'hi).toNat < 256 := UInt8.toNat_lt _
     obtain ⟨c, hcc⟩ : ∃ c, c = (p[i]'hi).toNat := ⟨_, rfl⟩
     rw [← hcc] at HE h40 h42 h43 h63 h123 h91 h93 h125 h92 hc ⊢
     have HCc := Lib.hid hcc.symm
     have qc : (((p[i]'hi).toNat : Nat) : Int) = (c : Int) := by rw [hcc]
     clear hcc
     have q40 : ¬ (c : Int) = 40 := by omega
     have q42 : ((c : Int) == 42) = false := by simp; omega
     have q43 : ((c : Int) == 43) = false := by simp; omega
     have q63 : ((c : Int) == 63) = false := by simp; omega
     have q123 : ((c : Int) == 123) = false := by simp; omega
     have q91 : ¬ (c : Int) = 91 := by omega
     have q93 : ((c : Int) == 93) = false := by simp; omega
     have q125 : ((c : Int) == 125) = false := by simp; omega
     have q92 : ¬ (c : Int) = 92 := by omega
     clear h40 h42 h43 h63 h123 h91 h93 h125 h92
     go_wp2_with fail
     with_reducible refine (rone_any c _ hc).mono ?_
     rintro x wb ⟨rfl, hb⟩
     have HWb := Lib.hid (HW.out.call hb)
     clear hb
     obtain ⟨S, hS⟩ : ∃ S, S = oneS c := ⟨_, rfl⟩
     rw [← hS] at HE ⊢
     clear hS
     go_wp2_with fail
     with_reducible refine (rwords_any S _).mono ?_
     rintro x wc ⟨rfl, hb⟩
     have HWc := Lib.hid (HWb.out.call hb)
     clear hb
     go_wp2_with (refine storeR rfl _ _ rfl w.heap.size (tok0 0) ({ tok0 0 with S := S }) rfl _ rfl (set_tok S) HWc.out.r ?_)
     refine bodyPost_ret (resR3 (p := 4) (u := 5) (u2 := 6) (t := { tok0 0 with S := S }) (v := .int .i64 ((i : Int) + 1)) (v2 := .int .i64 0) rfl _ (g := w.heap.size) rfl rfl rfl (HWc.out.r.rowSame _)) rfl ?_
     refine ⟨?_, below_row HWc.out.b (Nat.le_refl _) _⟩
     rw [HR.out, HE.out]
     rfl
end Go.Proofs.YtdnbpbngoiahlaaGreatDoor
namespace Go.Proofs.YtdnbpbngoiahlaaGreatDoor
open Go.RowKit
def GotToks6 (w : World) (R : List Tok × Int) (e : Ending) (w' : World) : Prop := ∃ v, e = .returned (.tuple #[v, .int .i64 R.2]) ∧ w'.ownsRow w.heap.size 93 10 v R.1.length (toksC R.1) ∧ Below w.heap.size w w'
set_option maxRecDepth 100000 in
set_option maxHeartbeats 16000000 in
theorem rlex_any (p : ByteArray) (w : World) (hp : p.size ≤ 1000000) : Calls Tryz.prog 25 #[.string p] w (GotToks6 w (lexZ p)) := by
 by_cases hsz : 1000 < p.size
 ·rw [show lexZ p = ([], 4) by unfold lexZ; rw [if_pos hsz]]
  have q : (1000 : Int) < (p.size : Int) := by omega
  clear hsz
  go_enter Tryz.func25, Tryz.ntmps25
  go_wp2_with fail
  go_ret2
  exact ⟨_, rfl, ⟨rfl, .inl ⟨rfl, rfl⟩⟩, Below.refl _ _⟩
 ·rw [show lexZ p = lexF p (p.size + 1) 0 [] by unfold lexZ; rw [if_neg hsz]]
  have q : ¬ (1000 : Int) < (p.size : Int) := by omega
  have H0 := Lib.hid (lex_0 p)
  obtain ⟨R, hR⟩ : ∃ R, R = lexF p (p.size + 1) 0 [] := ⟨_, rfl⟩
  rw [← hR]
  have HR := Lib.hid hR
  have HZ := Lib.hid (show p.size ≤ 1000 by omega)
  clear hR hsz
  obtain ⟨i0, hi, hz0, hz1, hz2⟩ := info_parts infoTok6
  have HI := Lib.hid (And.intro hi (And.intro hz0 (And.intro hz1 hz2)))
  clear hi hz0 hz1 hz2
  go_enter Tryz.func25, Tryz.ntmps25
  go_wp2_with fail
  go_loopw [4, 5] (fun s4 s5 wr => ∃ (k : Nat) (l : List Tok), s5 = .int .i64 k ∧ k ≤ p.size ∧ l.length ≤ k ∧ LexI p k l ∧ wr.ownsRow w.heap.size 93 10 s4 l.length (toksC l) ∧ Below w.heap.size w wr) (fun _ s5 _ => p.size - (intOf s5).toNat)
  case atStart => exact ⟨0, [], rfl, by omega, Nat.le_refl _, H0.out, World.ownsRow_made _ #[] 0 (Nat.le_refl _) (by decide) rfl, (Below.refl _ w).alloc (Nat.le_refl _) _⟩
  case round =>
   obtain ⟨k, l, rfl, hk, hlk, hL, hown, hb⟩ := hrel
   have HL := Lib.hid hL
   have HOw := Lib.hid hown
   have HB := Lib.hid hb
   clear hL hown hb
   by_cases hlt : k < p.size
   ·have r1 : (k : Int) < (p.size : Int) := by omega
    have HBad := Lib.hid (fun h => lex_bad HL.out hlt h)
    have HNx := Lib.hid (fun h hu => lex_next HL.out hlt h hu)
    have HUp := Lib.hid (tok_up p k hlt)
    go_wp2_with fail
    with_reducible refine (rtoken_any p k _ hp hlt).mono ?_
    obtain ⟨X, hX⟩ : ∃ X, X = tokZ p k := ⟨_, rfl⟩
    rw [← hX] at HBad HNx HUp ⊢
    clear hX
    obtain ⟨t, z, e⟩ := X
    simp only [] at HBad HNx HUp ⊢
    rintro x wb ⟨rfl, hb⟩
    have HOb := Lib.hid (own_call HOw.out hb)
    have HBb := Lib.hid (thenB HB.out hb HB.out.size)
    clear hb
    go_wp2_with (refine storeNewR rfl _ _ rfl wb wb.heap.size rfl t rfl _ rfl rfl rfl ?_; intro wc hx hb2; refine stopQ ?_)
    unfold StopQ
    have HOc := Lib.hid (own_call HOb.out hb2.out)
    have HBc := Lib.hid (thenB HBb.out hb2.out HBb.out.size)
    by_cases he : e = 0
    ·subst he
     have hu := HUp.out rfl
     have HN := Lib.hid (HNx.out rfl hu.1)
     have HSx := Lib.hid HBc.out.size
     clear HBad HNx HUp
     go_wp2_with (refine loadR rfl _ rfl wb.heap.size t rfl hx.out ?_; refine stopQ ?_)
     unfold StopQ
     clear hx
     simp only [tokV, tokC]
     go_wp2_with (at_builtin; refine wpList_append_own _ rfl _ _ 56 rfl w.heap.size 93 i0 _ 10 88 Tryz.underlying56 HI.out.1 HI.out.2.1 HI.out.2.2.1 HI.out.2.2.2 rfl (by decide) _ _ _ rfl (HOc.out.alloc _) ⟨wc.heap.size, 0, none⟩ 1 1 (tokC t).toList rfl rfl (tok_cells wc _ t) (tok_one t) (by unfold maxLen; have := HZ.out; omega) (by have := HZ.out; omega) (by have := HSx.out; simp; omega) ?_)
     intro v3 w3 hown3 hgrow3 hne3
     have hown : ∀ g, Value.ownBlock u4 = some g → w.heap.size ≤ g := fun g hg => (HOc.out.lt g hg).1
     have HB3 := Lib.hid ((HBc.out.alloc HSx.out _).grown hgrow3 (Nat.le_trans HSx.out (by simp)) hown)
     rw [← toksC_one] at hown3
     have HO3 := Lib.hid hown3
     clear hown3 hgrow3 hne3 hown
     go_wp2_with fail
     go_roundw
     case rel => exact ⟨z, l ++ [t], rfl, hu.2, by rw [List.length_append]; show l.length + 1 ≤ z; omega, HN.out, by rw [List.length_append]; exact HO3.out, HB3.out⟩
     case measure => simp [intOf]; omega
    ·have HE := Lib.hid (HBad.out he)
     clear HBad HNx HUp
     go_wp2_with fail
     go_ret2
     rw [HR.out, HE.out]
     exact ⟨_, rfl, ⟨rfl, .inl ⟨rfl, rfl⟩⟩, HBc.out⟩
   ·have r1 : ¬ (k : Int) < (p.size : Int) := by omega
    have HE := Lib.hid (lex_end HL.out (by omega))
    go_wp2_with fail
    go_ret2
    rw [HR.out, HE.out]
    exact ⟨_, rfl, HOw.out, HB.out⟩
end Go.Proofs.YtdnbpbngoiahlaaGreatDoor
