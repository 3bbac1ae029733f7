/-
  ShoParse, ShoLex, ShoSet, ShoSame, ShoText
-/
import Derived.Test.YtfejdengpnikeaaGreatDoorParE
import Derived.Test.YtfejdengpnikeaaGreatDoorShoA
import Derived.Test.YtfejdengpnikeaaGreatDoorSetsM
import Derived.Test.YtfejdengpnikeaaGreatDoorParFoldM
namespace Go.Proofs.YtfejdengpnikeaaGreatDoor
open Ast (Nd joinL wrapL deepZ rightZ cntG siz dep grp foldT foldT_succ kidsZ fitsB siz_pos)

/-- Within a Plain and its Close, if it is so. -/
def inT (b : Bool) (x : List Tok) : List Tok := if b = true then tok0 8 :: (x ++ [tok0 15]) else x
def flagT (c : UInt8) : Tok := { tok0 14 with f := ⟨#[c]⟩ }
/-- The tokens of a node without children. -/
def leafK (x : Nd) : List Tok :=
  if x.k = 0 then [tok0 8, tok0 15]
  else if x.k = 1 then [{ tok0 0 with S := setOf x }]
  else if x.k = 2 then [tok0 2]
  else if x.k = 3 then [tok0 3]
  else if x.k = 4 then [flagT 109, tok0 2, tok0 15]
  else if x.k = 5 then [flagT 109, tok0 3, tok0 15]
  else if x.k = 6 then [tok0 4]
  else if x.k = 7 then [tok0 5]
  else if x.f = true then [flagT 105, { tok0 17 with n := x.n }, tok0 15] else [{ tok0 17 with n := x.n }]
def quantK (x : Nd) : Tok := { tok0 16 with mn := x.mn, mx := x.mx, md := x.md }
def openK (k : Int) : Int := if k = 11 then 7 else k - 4
/-- The tokens of the tree of node j - 1. -/
def tokT (l : Nat → Nd) (j : Nat) : List Tok :=
  foldT l [] (fun i => leafK (l i))
    (fun i x => if (l i).k = 10 then inT (is8a (l (i - 1)).k) x ++ [quantK (l i)] else tok0 (openK (l i).k) :: (x ++ [tok0 15]))
    (fun i x y => if (l i).k = 8 then inT (is9 (l (i - siz l i - 1)).k) x ++ inT (is89 (l (i - 1)).k) y else x ++ tok0 6 :: inT (is9 (l (i - 1)).k) y) j
/-- The tree of node j - 1, put together. -/
def subT (l : Nat → Nd) (j : Nat) : Tr := foldT l (0, fun _ => nd0 0) (fun i => leafT (l i)) (fun i x => wrapT x (l i)) (fun i x y => joinT x y (l i).k) j
/-- The groups of the tree of node j - 1 have the numbers behind g, in order. -/
def Numb (l : Nat → Nd) (j g : Nat) : Prop := (grp l j).map (fun i => (l i).n) = (List.range' (g + 1) (grp l j).length).map fun q : Nat => (q : Int)
def gN (l : Nat → Nd) (j : Nat) : Nat := (grp l j).length

theorem numb_app {l : Nat → Nd} {x y : List Nat} {g : Nat} (h : (x ++ y).map (fun i => (l i).n) = (List.range' (g + 1) (x ++ y).length).map fun q : Nat => (q : Int)) :
    x.map (fun i => (l i).n) = (List.range' (g + 1) x.length).map (fun q : Nat => (q : Int)) ∧ y.map (fun i => (l i).n) = (List.range' (g + x.length + 1) y.length).map fun q : Nat => (q : Int) := by
  rw [List.length_append, ← List.range'_append, List.map_append, List.map_append] at h
  have := List.append_inj h (by simp)
  refine ⟨this.1, ?_⟩
  rw [this.2]
  congr 2
  omega

/-- The tree that is put together stands in order, and is as deep. -/
theorem sub_in {l : Nat → Nd} : ∀ (m j : Nat), j ≤ m → m ≤ 1000 → siz l j ≠ 0 → (subT l j).1 = siz l j ∧ siz (subT l j).2 (siz l j) = siz l j ∧ dep (subT l j).2 (siz l j) = dep l j := by
  intro m
  induction m with
  | zero => intro j hj _ h; obtain rfl : j = 0 := by omega
            exact absurd (by simp [siz, Ast.sizF]) h
  | succ m ih =>
    intro j hj hm h
    cases j with
    | zero => exact absurd (by simp [siz, Ast.sizF]) h
    | succ j =>
      obtain ⟨hf, hk | hk | hk⟩ := siz_pos h
      · obtain ⟨hk, ha, hb, hs⟩ := hk
        have e : subT l (j + 1) = leafT (l j) := by unfold subT; rw [foldT_succ, if_pos hk]
        rw [e, hs, Ast.dep_succ l j, if_pos hk]
        refine ⟨rfl, ?_, ?_⟩
        · show siz (fun _ => l j) (0 + 1) = 1
          rw [Ast.siz_succ (fun _ => l j) 0, if_pos hf, if_pos hk, if_pos ⟨ha, hb⟩]
        · show dep (fun _ => l j) (0 + 1) = 1
          rw [Ast.dep_succ (fun _ => l j) 0, if_pos hk]
      · obtain ⟨hk, h0, ha, hb, hs⟩ := hk
        obtain ⟨i1, i2, i3⟩ := ih j (by omega) (by omega) h0
        have e : subT l (j + 1) = wrapT (subT l j) (l j) := by unfold subT; rw [foldT_succ, if_neg (by rw [hk]; decide), if_pos hk]
        have hw := Ast.wrap_in (l := (subT l j).2) (x := l j) hk hf (Nat.pos_of_ne_zero h0) i2
        have hd := Ast.wrap_dep (l := (subT l j).2) (x := l j) hk (Nat.pos_of_ne_zero h0) i2
        rw [e, hs, Ast.dep_succ l j, if_neg (by rw [hk]; decide), if_pos hk]
        unfold wrapT
        rw [i1]
        exact ⟨rfl, hw.2, by rw [hd, i3]⟩
      · obtain ⟨hk, h0, h1, ha, hb, hs⟩ := hk
        have hle := Ast.siz_le l j
        have hle2 := Ast.siz_le l (j - siz l j)
        obtain ⟨b1, b2, b3⟩ := ih j (by omega) (by omega) h0
        obtain ⟨a1, a2, a3⟩ := ih (j - siz l j) (by omega) (by omega) h1
        have e : subT l (j + 1) = joinT (subT l (j - siz l j)) (subT l j) (l j).k := by unfold subT; rw [foldT_succ, if_neg (by rw [hk]; decide), if_neg (by rw [hk]; decide)]
        have hk2 : (l j).k = 8 ∨ (l j).k = 9 := by
          unfold kidsZ at hk
          split at hk
          · assumption
          · split at hk <;> exact absurd hk (by decide)
        have hw := Ast.join_in (la := (subT l (j - siz l j)).2) (lb := (subT l j).2) hk2 (n := siz l (j - siz l j)) (m := siz l j) (by omega) (by omega) (Nat.pos_of_ne_zero h1) (Nat.pos_of_ne_zero h0) a2 b2
        have hd := Ast.join_dep (la := (subT l (j - siz l j)).2) (lb := (subT l j).2) hk2 (n := siz l (j - siz l j)) (m := siz l j) (by omega) (by omega) (Nat.pos_of_ne_zero h1) (Nat.pos_of_ne_zero h0) a2 b2
        rw [e, hs, Ast.dep_succ l j, if_neg (by rw [hk]; decide), if_neg (by rw [hk]; decide)]
        unfold joinT
        rw [a1, b1]
        exact ⟨rfl, hw.2.2, by rw [hd, a3, b3]⟩
theorem sub_deep {l : Nat → Nd} {j : Nat} (hj : j ≤ 500) (h : siz l j ≠ 0) : deepZ (subT l j).2 (subT l j).1 = dep l j := by
  obtain ⟨h1, h2, h3⟩ := sub_in j j (Nat.le_refl _) (by omega) h
  have := Ast.siz_le l j
  rw [h1, Ast.form_of h2 (Nat.pos_of_ne_zero h) (by omega), h3]
theorem shal_sub {l : Nat → Nd} {j g : Nat} {y : List Tok} (hj : j ≤ 500) (h : siz l j ≠ 0) (hd : dep l j ≤ 40) : shal (subT l j) g y = .got (subT l j) g y := by
  unfold shal
  rw [if_neg (by rw [sub_deep hj h]; omega)]

section
variable {n m : Nat} {f : ByteArray} {g g' : Nat} {l l' : List Tok} {t u : Tr}
theorem out_ne : Rd.got t g l ≠ .out := fun h => by cases h
theorem alts_lift (h : altsF n f u g l = .got t g' l') (hm : n ≤ m) : altsF m f u g l = .got t g' l' := by
  have H : ∀ d, altsF (n + d) f u g l = .got t g' l' := fun d => by
    induction d with
    | zero => exact h
    | succ d ih => rw [← ih]; exact (rd_more (n + d)).2.1 f u g l (by rw [ih]; exact out_ne)
  have := H (m - n); rwa [show n + (m - n) = m by omega] at this
theorem row_lift (h : rowF n f g l = .got t g' l') (hm : n ≤ m) : rowF m f g l = .got t g' l' := by
  have H : ∀ d, rowF (n + d) f g l = .got t g' l' := fun d => by
    induction d with
    | zero => exact h
    | succ d ih => rw [← ih]; exact (rd_more (n + d)).2.2.1 f g l (by rw [ih]; exact out_ne)
  have := H (m - n); rwa [show n + (m - n) = m by omega] at this
theorem items_lift (h : itemsF n f u g l = .got t g' l') (hm : n ≤ m) : itemsF m f u g l = .got t g' l' := by
  have H : ∀ d, itemsF (n + d) f u g l = .got t g' l' := fun d => by
    induction d with
    | zero => exact h
    | succ d ih => rw [← ih]; exact (rd_more (n + d)).2.2.2.1 f u g l (by rw [ih]; exact out_ne)
  have := H (m - n); rwa [show n + (m - n) = m by omega] at this
theorem item_lift (h : itemF n f g l = .got t g' l') (hm : n ≤ m) : itemF m f g l = .got t g' l' := by
  have H : ∀ d, itemF (n + d) f g l = .got t g' l' := fun d => by
    induction d with
    | zero => exact h
    | succ d ih => rw [← ih]; exact (rd_more (n + d)).2.2.2.2.1 f g l (by rw [ih]; exact out_ne)
  have := H (m - n); rwa [show n + (m - n) = m by omega] at this

/-- Read one way or another: with enough turns. -/
def PieceR (f : ByteArray) (g : Nat) (l : List Tok) (r : Rd) : Prop := ∃ n, pieceF n f g l = r
def ItemR (f : ByteArray) (g : Nat) (l : List Tok) (r : Rd) : Prop := ∃ n, itemF n f g l = r
def ItemsR (f : ByteArray) (u : Tr) (g : Nat) (l : List Tok) (r : Rd) : Prop := ∃ n, itemsF n f u g l = r
def RowR (f : ByteArray) (g : Nat) (l : List Tok) (r : Rd) : Prop := ∃ n, rowF n f g l = r
def AltsR (f : ByteArray) (u : Tr) (g : Nat) (l : List Tok) (r : Rd) : Prop := ∃ n, altsF n f u g l = r
def AltR (f : ByteArray) (g : Nat) (l : List Tok) (r : Rd) : Prop := ∃ n, altF n f g l = r

theorem item_of_piece {y : List Tok} (h : PieceR f g l (.got t g' y)) (hy : kindZ y ≠ 16) : ItemR f g l (.got t g' y) := by
  obtain ⟨n, h⟩ := h
  refine ⟨n + 1, ?_⟩
  rw [itemF_s, h]
  show endQ t g' y = _
  cases y with
  | nil => rfl
  | cons z r => rw [endQ, if_neg (show ¬ z.k = 16 from hy)]
theorem item_of_quant {x : Tok} {y : List Tok} (h : PieceR f g l (.got t g' (x :: y))) (hx : x.k = 16) (hs : shal (wrapT t (repN x)) g' y = .got u g' y) : ItemR f g l (.got u g' y) := by
  obtain ⟨n, h⟩ := h
  refine ⟨n + 1, ?_⟩
  rw [itemF_s, h]
  show endQ t g' (x :: y) = _
  rw [endQ, if_pos hx, hs]
theorem row_of_item {y k : List Tok} {v : Tr} {c : Nat} (hk : ¬ (kindZ l = 6 ∨ kindZ l = 15)) (h : ItemR f g l (.got t g' y)) (h2 : ItemsR f t g' y (.got v c k)) : RowR f g l (.got v c k) := by
  obtain ⟨n, h⟩ := h
  obtain ⟨m, h2⟩ := h2
  refine ⟨n + m + 1, ?_⟩
  rw [rowF_s, if_neg hk, item_lift h (by omega)]
  exact items_lift h2 (by omega)
theorem items_more {y k : List Tok} {v s : Tr} {c : Nat} (hk : ¬ (kindZ l = 6 ∨ kindZ l = 15)) (h : ItemR f g l (.got t g' y)) (hs : shal (joinT u t 8) g' y = .got s g' y) (h2 : ItemsR f s g' y (.got v c k)) : ItemsR f u g l (.got v c k) := by
  obtain ⟨n, h⟩ := h
  obtain ⟨m, h2⟩ := h2
  refine ⟨n + m + 1, ?_⟩
  rw [itemsF_s, if_neg hk, item_lift h (by omega)]
  show (shal (joinT u t 8) g' y).next _ = _
  rw [hs]
  exact items_lift h2 (by omega)
theorem items_end (hy : kindZ l = 6 ∨ kindZ l = 15) : ItemsR f u g l (.got u g l) := ⟨1, by rw [itemsF_s, if_pos hy]⟩
theorem alt_of_row {y k : List Tok} {v : Tr} {c : Nat} (h : RowR f g l (.got t g' y)) (h2 : AltsR f t g' y (.got v c k)) : AltR f g l (.got v c k) := by
  obtain ⟨n, h⟩ := h
  obtain ⟨m, h2⟩ := h2
  refine ⟨n + m + 1, ?_⟩
  rw [altF_s, row_lift h (by omega)]
  exact alts_lift h2 (by omega)
theorem alts_end (hy : kindZ l ≠ 6) : AltsR f u g l (.got u g l) := ⟨1, by rw [altsF_s, if_neg hy]⟩
theorem alts_more {y k : List Tok} {v s : Tr} {c : Nat} (h : RowR f g l (.got t g' y)) (hs : shal (joinT u t 9) g' y = .got s g' y) (h2 : AltsR f s g' y (.got v c k)) : AltsR f u g (tok0 6 :: l) (.got v c k) := by
  obtain ⟨n, h⟩ := h
  obtain ⟨m, h2⟩ := h2
  refine ⟨n + m + 1, ?_⟩
  rw [altsF_s, if_pos (show kindZ (tok0 6 :: l) = 6 from rfl), List.tail_cons, row_lift h (by omega)]
  show (shal (joinT u t 9) g' y).next _ = _
  rw [hs]
  exact alts_lift h2 (by omega)
theorem piece_one {x : Tok} (ho : opens x.k = false) (y : List Tok) : PieceR f g (x :: y) (.got (leafT (leafN f x)) g y) := ⟨1, by rw [pieceF_s, if_pos ho]⟩
theorem piece_within {x z : Tok} {y : List Tok} (h8 : x.k = 8 ∨ x.k = 14) (h : AltR (f ++ x.f) g (l ++ z :: y) (.got t g' (z :: y))) : PieceR f g (x :: (l ++ z :: y)) (.got t g' y) := by
  obtain ⟨n, h⟩ := h
  refine ⟨n + 2, ?_⟩
  rw [pieceF_s, if_neg (by rcases h8 with e | e <;> (rw [e]; decide)), if_pos h8, withF_s, h]
  rfl
theorem piece_around {x z : Tok} {y : List Tok} (ho : opens x.k = true) (h8 : ¬ (x.k = 8 ∨ x.k = 14)) (h : AltR (f ++ x.f) (aroundG x.k g) (l ++ z :: y) (.got t g' (z :: y))) (hs : shal (wrapT t (aroundN x.k g)) g' y = .got u g' y) : PieceR f g (x :: (l ++ z :: y)) (.got u g' y) := by
  obtain ⟨n, h⟩ := h
  refine ⟨n + 2, ?_⟩
  rw [pieceF_s, if_neg (by rw [ho]; decide), if_neg h8, withF_s, h]
  exact hs
end

variable {l : Nat → Nd}
theorem tok_k0 {j : Nat} (hk : kidsZ (l j).k = 0) : tokT l (j + 1) = leafK (l j) := by unfold tokT; rw [foldT_succ, if_pos hk]
theorem tok_k1 {j : Nat} (hk : kidsZ (l j).k = 1) : tokT l (j + 1) = if (l j).k = 10 then inT (is8a (l (j - 1)).k) (tokT l j) ++ [quantK (l j)] else tok0 (openK (l j).k) :: (tokT l j ++ [tok0 15]) := by
  unfold tokT; rw [foldT_succ, if_neg (by rw [hk]; decide), if_pos hk]
theorem tok_k2 {j : Nat} (hk : kidsZ (l j).k = 2) : tokT l (j + 1) = if (l j).k = 8 then inT (is9 (l (j - siz l j - 1)).k) (tokT l (j - siz l j)) ++ inT (is89 (l (j - 1)).k) (tokT l j) else tokT l (j - siz l j) ++ tok0 6 :: inT (is9 (l (j - 1)).k) (tokT l j) := by
  unfold tokT; rw [foldT_succ, if_neg (by rw [hk]; decide), if_neg (by rw [hk]; decide)]
theorem sub_k0 {j : Nat} (hk : kidsZ (l j).k = 0) : subT l (j + 1) = leafT (l j) := by unfold subT; rw [foldT_succ, if_pos hk]
theorem sub_k1 {j : Nat} (hk : kidsZ (l j).k = 1) : subT l (j + 1) = wrapT (subT l j) (l j) := by unfold subT; rw [foldT_succ, if_neg (by rw [hk]; decide), if_pos hk]
theorem sub_k2 {j : Nat} (hk : kidsZ (l j).k = 2) : subT l (j + 1) = joinT (subT l (j - siz l j)) (subT l j) (l j).k := by unfold subT; rw [foldT_succ, if_neg (by rw [hk]; decide), if_neg (by rw [hk]; decide)]
theorem kids_2 {k : Int} (h : kidsZ k = 2) : k = 8 ∨ k = 9 := by
  unfold kidsZ at h
  split at h
  · assumption
  · split at h <;> exact absurd h (by decide)
theorem kids_1 {k : Int} (h : kidsZ k = 1) : k = 10 ∨ k = 11 ∨ 13 ≤ k ∧ k ≤ 17 := by
  unfold kidsZ at h
  split at h
  · exact absurd h (by decide)
  · split at h
    · assumption
    · exact absurd h (by decide)
theorem kids_0 {k : Int} (h : kidsZ k = 0) (h0 : 0 ≤ k) (h1 : k ≤ 17) : k = 0 ∨ k = 1 ∨ k = 2 ∨ k = 3 ∨ k = 4 ∨ k = 5 ∨ k = 6 ∨ k = 7 ∨ k = 12 := by
  unfold kidsZ at h
  split at h
  · exact absurd h (by decide)
  · split at h
    · exact absurd h (by decide)
    · omega
/-- How a pattern's tokens begin: with no Bar, no Close, no Quant. -/
def Heads (x : List Tok) : Prop := ∃ t r, x = t :: r ∧ t.k ≠ 6 ∧ t.k ≠ 15 ∧ t.k ≠ 16
theorem Heads.app {x : List Tok} (h : Heads x) (y : List Tok) : Heads (x ++ y) := by
  obtain ⟨t, r, rfl, h1, h2, h3⟩ := h
  exact ⟨t, r ++ y, rfl, h1, h2, h3⟩
theorem Heads.in_ {x : List Tok} (h : Heads x) (b : Bool) : Heads (inT b x) := by
  cases b with
  | false => exact h
  | true => exact ⟨tok0 8, x ++ [tok0 15], rfl, by decide, by decide, by decide⟩
theorem Heads.kind {x : List Tok} (h : Heads x) : ¬ (kindZ x = 6 ∨ kindZ x = 15) ∧ kindZ x ≠ 16 := by
  obtain ⟨t, r, rfl, h1, h2, h3⟩ := h
  exact ⟨fun e => e.elim h1 h2, h3⟩
theorem leaf_heads (x : Nd) : Heads (leafK x) := by
  unfold leafK
  repeat' split
  all_goals exact ⟨_, _, rfl, by simp [tok0, flagT], by simp [tok0, flagT], by simp [tok0, flagT]⟩
theorem tok_heads : ∀ (m j : Nat), j ≤ m → siz l j ≠ 0 → Heads (tokT l j) := by
  intro m
  induction m with
  | zero => intro j hj h; obtain rfl : j = 0 := by omega
            exact absurd (by simp [siz, Ast.sizF]) h
  | succ m ih =>
    intro j hj h
    cases j with
    | zero => exact absurd (by simp [siz, Ast.sizF]) h
    | succ j =>
      obtain ⟨hf, ⟨hk, -⟩ | ⟨hk, h0, -⟩ | ⟨hk, h0, h1, -⟩⟩ := siz_pos h
      · rw [tok_k0 hk]; exact leaf_heads _
      · rw [tok_k1 hk]
        split
        · exact ((ih j (by omega) h0).in_ _).app _
        · rename_i h10
          refine ⟨_, _, rfl, ?_, ?_, ?_⟩ <;>
          · show openK (l j).k ≠ _
            unfold openK
            have := kids_1 hk
            split <;> omega
      · rw [tok_k2 hk]
        have := ih (j - siz l j) (by omega) h1
        split
        · exact (this.in_ _).app _
        · exact this.app _
theorem fit_nd0 {x : Nd} {c : Int} (hf : fitsB x = true) (ha : x.a = 0) (hb : x.b = 0) (hk : x.k = c) (h1 : c ≠ 1) (h10 : c ≠ 10) (h11 : c ≠ 11) (h12 : c ≠ 12) : x = nd0 c := by
  obtain ⟨k, a, b, s0, s1, s2, s3, mn, mx, md, n, f⟩ := x
  simp only [fitsB, decide_eq_true_eq] at hf
  dsimp only at ha hb hk
  subst ha hb hk
  unfold nd0
  obtain ⟨-, -, g1, g2, g3, g4, -⟩ := hf
  obtain ⟨rfl, rfl, rfl, rfl⟩ := g1.resolve_left h1
  obtain ⟨rfl, rfl, rfl⟩ := g2.resolve_left h10
  obtain rfl := (g3.resolve_left h11).resolve_left h12
  obtain rfl := g4.resolve_left h12
  rfl
theorem wrap_eq (t : Tr) {x y : Nd} (h : ({ x with a := 0, b := 0 } : Nd) = { y with a := 0, b := 0 }) : wrapT t x = wrapT t y := by
  unfold wrapT wrapL
  obtain ⟨k, a, b, s0, s1, s2, s3, mn, mx, md, n, f⟩ := x
  obtain ⟨k', a', b', s0', s1', s2', s3', mn', mx', md', n', f'⟩ := y
  injection h with e1 e2 e3 e4 e5 e6 e7 e8 e9 e10 e11 e12
  subst e1 e4 e5 e6 e7 e8 e9 e10 e11 e12
  rfl
theorem wrap_rep (t : Tr) {x : Nd} (hf : fitsB x = true) (hk : x.k = 10) : wrapT t (repN (quantK x)) = wrapT t x := by
  apply wrap_eq
  obtain ⟨k, a, b, s0, s1, s2, s3, mn, mx, md, n, f⟩ := x
  simp only [fitsB, decide_eq_true_eq] at hf
  dsimp only at hk
  subst hk
  obtain ⟨-, -, g1, g2, g3, g4, -⟩ := hf
  obtain ⟨rfl, rfl, rfl, rfl⟩ := g1.resolve_left (by decide)
  obtain rfl := (g3.resolve_left (by decide)).resolve_left (by decide)
  obtain rfl := g4.resolve_left (by decide)
  rfl
theorem wrap_around (t : Tr) {x : Nd} {g : Nat} (hf : fitsB x = true) (hk : x.k = 11 ∨ 13 ≤ x.k ∧ x.k ≤ 17) (hn : x.k = 11 → x.n = (g : Int) + 1) : wrapT t (aroundN (openK x.k) g) = wrapT t x := by
  apply wrap_eq
  obtain ⟨k, a, b, s0, s1, s2, s3, mn, mx, md, n, f⟩ := x
  simp only [fitsB, decide_eq_true_eq] at hf
  dsimp only at hk hn ⊢
  obtain ⟨-, -, g1, g2, g3, g4, -⟩ := hf
  obtain ⟨rfl, rfl, rfl, rfl⟩ := g1.resolve_left (by omega)
  obtain ⟨rfl, rfl, rfl⟩ := g2.resolve_left (by omega)
  obtain rfl := g4.resolve_left (by omega)
  unfold aroundN openK
  by_cases h11 : k = 11
  · subst h11
    rw [if_pos rfl, if_neg (by omega), hn rfl]
    rfl
  · obtain rfl := (g3.resolve_left h11).resolve_left (by omega)
    rw [if_neg h11, if_pos (by omega), show k - 4 + 4 = k by omega]
    rfl

abbrev E0 : ByteArray := ByteArray.empty
/-- The words of every Bytes node are a set's. -/
def LitOk (l : Nat → Nd) (j : Nat) : Prop := ∀ i, i < j → (l i).k = 1 → (l i).s0 = W (setOf (l i)) 0 ∧ (l i).s1 = W (setOf (l i)) 1 ∧ (l i).s2 = W (setOf (l i)) 2 ∧ (l i).s3 = W (setOf (l i)) 3
/-- The tokens of the tree of node j - 1 are read as it. -/
structure RdOk (l : Nat → Nd) (j : Nat) : Prop where
  piece : ∀ g y, Numb l j g → is8a (l (j - 1)).k = false → PieceR E0 g (tokT l j ++ y) (.got (subT l j) (g + gN l j) y)
  item : ∀ g y, Numb l j g → is89 (l (j - 1)).k = false → kindZ y ≠ 16 → ItemR E0 g (tokT l j ++ y) (.got (subT l j) (g + gN l j) y)
  row : ∀ g y v c k, Numb l j g → is9 (l (j - 1)).k = false → kindZ y ≠ 16 → ItemsR E0 (subT l j) (g + gN l j) y (.got v c k) → RowR E0 g (tokT l j ++ y) (.got v c k)
  alt : ∀ g y v c k, Numb l j g → kindZ y = 6 ∨ kindZ y = 15 → AltsR E0 (subT l j) (g + gN l j) y (.got v c k) → AltR E0 g (tokT l j ++ y) (.got v c k)
theorem is9_89 {k : Int} (h : is89 k = false) : is9 k = false := by simp only [is89, is9, decide_eq_false_iff_not] at h ⊢; omega
theorem is89_8a {k : Int} (h : is8a k = false) : is89 k = false := by simp only [is89, is8a, decide_eq_false_iff_not] at h ⊢; omega
theorem no16 {y : List Tok} (h : kindZ y = 6 ∨ kindZ y = 15) : kindZ y ≠ 16 := by omega
section
variable {j : Nat} (hs : siz l j ≠ 0)
include hs
theorem head_no (y : List Tok) : ¬ (kindZ (tokT l j ++ y) = 6 ∨ kindZ (tokT l j ++ y) = 15) := (((tok_heads j j (Nat.le_refl _) hs).app y).kind).1
theorem head_in (b : Bool) (y : List Tok) : ¬ (kindZ (inT b (tokT l j) ++ y) = 6 ∨ kindZ (inT b (tokT l j) ++ y) = 15) := ((((tok_heads j j (Nat.le_refl _) hs).in_ b).app y).kind).1
theorem head_in16 (b : Bool) (y : List Tok) : kindZ (inT b (tokT l j) ++ y) ≠ 16 := ((((tok_heads j j (Nat.le_refl _) hs).in_ b).app y).kind).2
omit hs in
theorem ok_row (h : ∀ g y v c k, Numb l j g → is9 (l (j - 1)).k = false → kindZ y ≠ 16 → ItemsR E0 (subT l j) (g + gN l j) y (.got v c k) → RowR E0 g (tokT l j ++ y) (.got v c k)) (h9 : is9 (l (j - 1)).k = false)
    (hi : ∀ g y, Numb l j g → is89 (l (j - 1)).k = false → kindZ y ≠ 16 → ItemR E0 g (tokT l j ++ y) (.got (subT l j) (g + gN l j) y))
    (hp : ∀ g y, Numb l j g → is8a (l (j - 1)).k = false → PieceR E0 g (tokT l j ++ y) (.got (subT l j) (g + gN l j) y)) : RdOk l j :=
  ⟨hp, hi, h, fun g y _ _ _ hn hy ha => alt_of_row (h g y _ _ _ hn h9 (no16 hy) (items_end hy)) ha⟩
theorem ok_item (h : ∀ g y, Numb l j g → kindZ y ≠ 16 → ItemR E0 g (tokT l j ++ y) (.got (subT l j) (g + gN l j) y)) (h89 : is89 (l (j - 1)).k = false)
    (hp : ∀ g y, Numb l j g → is8a (l (j - 1)).k = false → PieceR E0 g (tokT l j ++ y) (.got (subT l j) (g + gN l j) y)) : RdOk l j :=
  ok_row (fun g y _ _ _ hn _ hy hI => row_of_item (head_no hs y) (h g y hn hy) hI) (is9_89 h89) (fun g y hn _ hy => h g y hn hy) hp
theorem ok_piece (h : ∀ g y, Numb l j g → PieceR E0 g (tokT l j ++ y) (.got (subT l j) (g + gN l j) y)) (h8 : is8a (l (j - 1)).k = false) : RdOk l j :=
  ok_item hs (fun g y hn hy => item_of_piece (h g y hn) hy) (is89_8a h8) (fun g y hn _ => h g y hn)
end
theorem RdOk.inPiece {j : Nat} (h : RdOk l j) {g : Nat} (hn : Numb l j g) (b : Bool) (hb : b = false → is8a (l (j - 1)).k = false) (y : List Tok) : PieceR E0 g (inT b (tokT l j) ++ y) (.got (subT l j) (g + gN l j) y) := by
  cases b with
  | false => exact h.piece g y hn (hb rfl)
  | true =>
    have := piece_within (f := E0) (g := g) (g' := g + gN l j) (t := subT l j) (x := tok0 8) (z := tok0 15) (l := tokT l j) (y := y) (.inl rfl) (by
      rw [show E0 ++ (tok0 8).f = E0 from app_emp _]
      exact h.alt g _ _ _ _ hn (.inr rfl) (alts_end (by show ¬ (15 : Int) = 6; decide)))
    rw [show inT true (tokT l j) ++ y = tok0 8 :: (tokT l j ++ tok0 15 :: y) by unfold inT; rw [if_pos rfl, List.cons_append, List.append_assoc]; rfl]
    exact this
theorem RdOk.inItem {j : Nat} (h : RdOk l j) {g : Nat} (hn : Numb l j g) (b : Bool) (hb : b = false → is89 (l (j - 1)).k = false) {y : List Tok} (hy : kindZ y ≠ 16) : ItemR E0 g (inT b (tokT l j) ++ y) (.got (subT l j) (g + gN l j) y) := by
  cases b with
  | false => exact h.item g y hn (hb rfl) hy
  | true => exact item_of_piece (h.inPiece hn true (fun h => by cases h) y) hy
theorem RdOk.inRow {j : Nat} (hs : siz l j ≠ 0) (h : RdOk l j) {g : Nat} (hn : Numb l j g) (b : Bool) (hb : b = false → is9 (l (j - 1)).k = false) {y k : List Tok} {v : Tr} {c : Nat} (hy : kindZ y ≠ 16) (hI : ItemsR E0 (subT l j) (g + gN l j) y (.got v c k)) : RowR E0 g (inT b (tokT l j) ++ y) (.got v c k) := by
  cases b with
  | false => exact h.row g y _ _ _ hn (hb rfl) hy hI
  | true => exact row_of_item (head_in hs true y) (h.inItem hn true (fun h => by cases h) hy) hI
/-- One token within a Flags. -/
theorem piece_flag {x : Tok} {c : UInt8} {g : Nat} (ho : opens x.k = false) (h6 : ¬ (x.k = 6 ∨ x.k = 15)) (y : List Tok) : PieceR E0 g (flagT c :: ([x] ++ tok0 15 :: y)) (.got (leafT (leafN ⟨#[c]⟩ x)) g y) :=
  piece_within (f := E0) (x := flagT c) (z := tok0 15) (l := [x]) (.inr rfl) (by
    rw [show E0 ++ (flagT c).f = ⟨#[c]⟩ from emp_app _]
    exact alt_of_row (row_of_item (y := tok0 15 :: y) h6 (item_of_piece (piece_one ho _) (by show ¬ (15 : Int) = 16; decide)) (items_end (.inr rfl))) (alts_end (by show ¬ (15 : Int) = 6; decide)))
theorem has_one (c d : UInt8) : hasF ⟨#[c]⟩ d.toNat = (c == d) := by
  unfold hasF
  simp only [List.any_cons, List.any_nil, Bool.or_false]
  rw [Bool.eq_iff_iff]
  simp only [beq_iff_eq]
  exact UInt8.toNat_inj
theorem set_leaf {x : Nd} (hf : fitsB x = true) (ha : x.a = 0) (hb : x.b = 0) (hk : x.k = 1) (hw : x.s0 = W (setOf x) 0 ∧ x.s1 = W (setOf x) 1 ∧ x.s2 = W (setOf x) 2 ∧ x.s3 = W (setOf x) 3) : setN (setOf x) = x := by
  generalize setOf x = S at hw ⊢
  obtain ⟨k, a, b, s0, s1, s2, s3, mn, mx, md, n, f⟩ := x
  simp only [fitsB, decide_eq_true_eq] at hf
  dsimp only at ha hb hk hw
  subst ha hb hk
  obtain ⟨-, -, -, g2, g3, g4, -⟩ := hf
  obtain ⟨rfl, rfl, rfl⟩ := g2.resolve_left (by decide)
  obtain rfl := (g3.resolve_left (by decide)).resolve_left (by decide)
  obtain rfl := g4.resolve_left (by decide)
  obtain ⟨rfl, rfl, rfl, rfl⟩ := hw
  rfl
theorem back_leaf {x : Nd} (hf : fitsB x = true) (ha : x.a = 0) (hb : x.b = 0) (hk : x.k = 12) : { nd0 12 with n := x.n, f := x.f } = x := by
  obtain ⟨k, a, b, s0, s1, s2, s3, mn, mx, md, n, f⟩ := x
  simp only [fitsB, decide_eq_true_eq] at hf
  dsimp only at ha hb hk ⊢
  subst ha hb hk
  obtain ⟨-, -, g1, g2, g3, g4, -⟩ := hf
  obtain ⟨rfl, rfl, rfl, rfl⟩ := g1.resolve_left (by decide)
  obtain ⟨rfl, rfl, rfl⟩ := g2.resolve_left (by decide)
  rfl

theorem leaf_piece {x : Nd} (hf : fitsB x = true) (ha : x.a = 0) (hb : x.b = 0) (hk : kidsZ x.k = 0) (hw : x.k = 1 → x.s0 = W (setOf x) 0 ∧ x.s1 = W (setOf x) 1 ∧ x.s2 = W (setOf x) 2 ∧ x.s3 = W (setOf x) 3) (g : Nat) (y : List Tok) :
    PieceR E0 g (leafK x ++ y) (.got (leafT x) g y) := by
  have hx := hf
  simp only [fitsB, decide_eq_true_eq] at hx
  rcases kids_0 hk hx.1 hx.2.1 with h | h | h | h | h | h | h | h | h
  · rw [show leafK x = [tok0 8, tok0 15] by unfold leafK; rw [if_pos h], fit_nd0 hf ha hb h (by decide) (by decide) (by decide) (by decide)]
    exact piece_within (f := E0) (x := tok0 8) (z := tok0 15) (l := []) (.inl rfl) (alt_of_row (g' := g) (y := tok0 15 :: y) ⟨1, by rw [rowF_s]; rfl⟩ (alts_end (by show ¬ (15 : Int) = 6; decide)))
  · have := piece_one (f := E0) (g := g) (x := { tok0 0 with S := setOf x }) rfl y
    rw [show leafN E0 { tok0 0 with S := setOf x } = setN (setOf x) from rfl, set_leaf hf ha hb h (hw h)] at this
    rw [show leafK x = [{ tok0 0 with S := setOf x }] by unfold leafK; rw [if_neg (by omega), if_pos h]]
    exact this
  · rw [show leafK x = [tok0 2] by unfold leafK; simp [h], fit_nd0 hf ha hb h (by decide) (by decide) (by decide) (by decide)]
    exact piece_one (by decide) y
  · rw [show leafK x = [tok0 3] by unfold leafK; simp [h], fit_nd0 hf ha hb h (by decide) (by decide) (by decide) (by decide)]
    exact piece_one (by decide) y
  · rw [show leafK x = [flagT 109, tok0 2, tok0 15] by unfold leafK; simp [h], fit_nd0 hf ha hb h (by decide) (by decide) (by decide) (by decide)]
    exact piece_flag (x := tok0 2) (c := 109) (by decide) (by decide) y
  · rw [show leafK x = [flagT 109, tok0 3, tok0 15] by unfold leafK; simp [h], fit_nd0 hf ha hb h (by decide) (by decide) (by decide) (by decide)]
    exact piece_flag (x := tok0 3) (c := 109) (by decide) (by decide) y
  · rw [show leafK x = [tok0 4] by unfold leafK; simp [h], fit_nd0 hf ha hb h (by decide) (by decide) (by decide) (by decide)]
    exact piece_one (by decide) y
  · rw [show leafK x = [tok0 5] by unfold leafK; simp [h], fit_nd0 hf ha hb h (by decide) (by decide) (by decide) (by decide)]
    exact piece_one (by decide) y
  · have hl := back_leaf hf ha hb h
    by_cases hf1 : x.f = true
    · rw [hf1] at hl
      have := piece_flag (g := g) (x := { tok0 17 with n := x.n }) (c := 105) rfl (by show ¬ ((17 : Int) = 6 ∨ (17 : Int) = 15); decide) y
      rw [show leafN ⟨#[105]⟩ { tok0 17 with n := x.n } = { nd0 12 with n := x.n, f := true } from rfl, hl] at this
      rw [show leafK x = [flagT 105, { tok0 17 with n := x.n }, tok0 15] by unfold leafK; simp [h, hf1]]
      exact this
    · replace hf1 : x.f = false := by simpa using hf1
      rw [hf1] at hl
      have := piece_one (f := E0) (g := g) (x := { tok0 17 with n := x.n }) rfl y
      rw [show leafN E0 { tok0 17 with n := x.n } = { nd0 12 with n := x.n, f := false } from rfl, hl] at this
      rw [show leafK x = [{ tok0 17 with n := x.n }] by unfold leafK; simp [h, hf1]]
      exact this
/-- The tokens of a tree in order, not too deep, are read as it. -/
theorem read_ok {n : Nat} (hl : LitOk l n) : ∀ (m j : Nat), j ≤ m → m ≤ 500 → j ≤ n → siz l j ≠ 0 → dep l j ≤ 40 → RdOk l j := by
  intro m
  induction m with
  | zero => intro j hj _ _ h; obtain rfl : j = 0 := by omega
            exact absurd (by simp [siz, Ast.sizF]) h
  | succ m ih =>
    intro j hj hm hn h hd
    cases j with
    | zero => exact absurd (by simp [siz, Ast.sizF]) h
    | succ j =>
      have e1 : j + 1 - 1 = j := rfl
      have hds := Ast.dep_succ l j
      have hgs := Ast.grp_succ l j
      have hsh := fun g (y : List Tok) => shal_sub (g := g) (y := y) (show j + 1 ≤ 500 by omega) h hd
      obtain ⟨hf, ⟨hk, ha, hb, -⟩ | ⟨hk, h0, ha, hb, -⟩ | ⟨hk, h0, h1, ha, hb, -⟩⟩ := siz_pos h
      · rw [if_pos hk] at hgs
        refine ok_piece h (fun g y _ => ?_) ?_
        · rw [tok_k0 hk, sub_k0 hk, show gN l (j + 1) = 0 by unfold gN; rw [hgs]; rfl]
          exact leaf_piece hf ha hb hk (hl j (by omega)) g y
        · rw [e1]
          have hx := hf
          simp only [fitsB, decide_eq_true_eq] at hx
          have := kids_0 hk hx.1 hx.2.1
          simp only [is8a, decide_eq_false_iff_not]
          omega
      · have hk0 : ¬ kidsZ (l j).k = 0 := by omega
        rw [if_neg hk0, if_pos hk] at hgs hds
        have IH := ih j (by omega) (by omega) (by omega) h0 (by omega)
        have hkk := kids_1 hk
        by_cases h10 : (l j).k = 10
        · rw [if_neg (by omega)] at hgs
          refine ok_item h (fun g y hn hy => ?_) (by rw [e1, h10]; decide) (fun g y _ h8 => absurd h8 (by rw [e1, h10]; decide))
          have hn' : Numb l j g := by unfold Numb at hn ⊢; rw [hgs] at hn; exact hn
          rw [tok_k1 hk, if_pos h10, List.append_assoc, show gN l (j + 1) = gN l j by unfold gN; rw [hgs]]
          refine item_of_quant (IH.inPiece hn' _ (fun h => h) ([quantK (l j)] ++ y)) rfl ?_
          rw [wrap_rep _ hf h10, ← sub_k1 hk]
          exact hsh _ _
        · have h11 : (l j).k = 11 ∨ 13 ≤ (l j).k ∧ (l j).k ≤ 17 := by omega
          refine ok_piece h (fun g y hn => ?_) (by rw [e1]; simp only [is8a, decide_eq_false_iff_not]; omega)
          have hn2 : Numb l j (aroundG (openK (l j).k) g) ∧ aroundG (openK (l j).k) g + gN l j = g + gN l (j + 1) ∧ ((l j).k = 11 → (l j).n = (g : Int) + 1) := by
            unfold Numb at hn
            by_cases hB : (l j).k = 11
            · rw [if_pos hB] at hgs
              rw [hgs, List.length_cons, List.range'_succ, List.map_cons, List.map_cons] at hn
              injection hn with hA hB'
              rw [hB, show aroundG (openK 11) g = g + 1 from rfl]
              refine ⟨hB', ?_, fun _ => ?_⟩
              · unfold gN; rw [hgs, List.length_cons]; omega
              · rw [hA]; omega
            · rw [if_neg hB] at hgs
              rw [hgs] at hn
              rw [show aroundG (openK (l j).k) g = g by unfold aroundG openK; rw [if_neg hB, if_pos (by omega)]]
              refine ⟨hn, ?_, fun h => absurd h hB⟩
              unfold gN; rw [hgs]
          rw [tok_k1 hk, if_neg h10, ← hn2.2.1, List.cons_append, List.append_assoc]
          have ho : opens (tok0 (openK (l j).k)).k = true := by
            show opens (openK (l j).k) = true
            unfold opens openK
            simp only [decide_eq_true_eq]
            split <;> omega
          have h8 : ¬ ((tok0 (openK (l j).k)).k = 8 ∨ (tok0 (openK (l j).k)).k = 14) := by
            show ¬ (openK (l j).k = 8 ∨ openK (l j).k = 14)
            unfold openK
            split <;> omega
          refine piece_around (f := E0) (x := tok0 (openK (l j).k)) (z := tok0 15) (t := subT l j) ho h8 ?_ ?_
          · rw [show E0 ++ (tok0 (openK (l j).k)).f = E0 from app_emp _]
            exact IH.alt _ _ _ _ _ hn2.1 (.inr rfl) (alts_end (by show ¬ (15 : Int) = 6; decide))
          · rw [show (tok0 (openK (l j).k)).k = openK (l j).k from rfl, wrap_around _ hf h11 hn2.2.2, ← sub_k1 hk]
            exact hsh _ _
      · have hk0 : ¬ kidsZ (l j).k = 0 := by omega
        have hk1 : ¬ kidsZ (l j).k = 1 := by omega
        rw [if_neg hk0, if_neg hk1] at hgs hds
        have hle := Ast.siz_le l j
        have IB := ih j (by omega) (by omega) (by omega) h0 (by omega)
        have IA := ih (j - siz l j) (by omega) (by omega) (by omega) h1 (by omega)
        have hg : gN l (j + 1) = gN l (j - siz l j) + gN l j := by unfold gN; rw [hgs, List.length_append]
        have hnn : ∀ g, Numb l (j + 1) g → Numb l (j - siz l j) g ∧ Numb l j (g + gN l (j - siz l j)) := fun g hn => by
          unfold Numb at hn
          rw [hgs] at hn
          exact numb_app hn
        rcases kids_2 hk with h8 | h9
        · have hj8 : subT l (j + 1) = joinT (subT l (j - siz l j)) (subT l j) 8 := by rw [sub_k2 hk, h8]
          refine ok_row (fun g y v c k hn _ hy hI => ?_) (by rw [e1, h8]; decide) (fun g y _ h => absurd h (by rw [e1, h8]; decide)) (fun g y _ h => absurd h (by rw [e1, h8]; decide))
          rw [tok_k2 hk, if_pos h8, List.append_assoc]
          rw [hg, ← Nat.add_assoc] at hI
          refine IA.inRow h1 (hnn g hn).1 _ (fun h => h) (head_in16 h0 _ _) (items_more (head_in h0 _ _) (IB.inItem (hnn g hn).2 _ (fun h => h) hy) ?_ hI)
          rw [← hj8]
          exact hsh _ _
        · have hj9 : subT l (j + 1) = joinT (subT l (j - siz l j)) (subT l j) 9 := by rw [sub_k2 hk, h9]
          refine ⟨fun g y _ h => absurd h (by rw [e1, h9]; decide), fun g y _ h => absurd h (by rw [e1, h9]; decide), fun g y _ _ _ _ h => absurd h (by rw [e1, h9]; decide), fun g y v c k hn hy hI => ?_⟩
          rw [tok_k2 hk, if_neg (by omega), List.append_assoc, List.cons_append]
          rw [hg, ← Nat.add_assoc] at hI
          refine IA.alt g _ _ _ _ (hnn g hn).1 (.inl rfl) (alts_more (IB.inRow h0 (hnn g hn).2 _ (fun h => h) (no16 hy) (items_end hy)) ?_ hI)
          rw [← hj9]
          exact hsh _ _
end Go.Proofs.YtfejdengpnikeaaGreatDoor

namespace Go.Proofs.YtfejdengpnikeaaGreatDoor

/-- p is read as a, whatever stands behind it; whatever but a ? or a + stands behind it. -/
def Firm (p : ByteArray) (a : List Tok) : Prop := ∀ q b, p.size + q.size ≤ 1000 → lexZ q = (b, 0) → lexZ (p ++ q) = (a ++ b, 0)
def Loose (p : ByteArray) (a : List Tok) : Prop := ∀ q b, p.size + q.size ≤ 1000 → bt q 0 ≠ 63 → bt q 0 ≠ 43 → lexZ q = (b, 0) → lexZ (p ++ q) = (a ++ b, 0)
theorem Firm.loose {p : ByteArray} {a : List Tok} (h : Firm p a) : Loose p a := fun q b hs _ _ hb => h q b hs hb
theorem loose_of {p : ByteArray} {a : List Tok} (h : lexZ p = (a, 0)) : Loose p a := fun q b hs h1 h2 hb => lex_join p q a b hs h1 h2 h hb
theorem lex_nil : lexZ ByteArray.empty = ([], 0) := by kernel_rfl
theorem Loose.lex {p : ByteArray} {a : List Tok} (h : Loose p a) (hs : p.size ≤ 1000) : lexZ p = (a, 0) := by
  have h0 : bt ByteArray.empty 0 = 256 := bt_no (Nat.le_refl _)
  have := h ByteArray.empty [] (by show p.size + 0 ≤ 1000; omega) (by rw [h0]; decide) (by rw [h0]; decide) lex_nil
  rwa [app_emp, List.append_nil] at this
theorem firm_one {p : ByteArray} {t : Tok} (hp : 0 < p.size) (h : ∀ q, tokZ (p ++ q) 0 = (t, p.size, 0)) : Firm p [t] := by
  intro q b hs hb
  have hz : (p ++ q).size = p.size + q.size := ByteArray.size_append
  have he : bt (p ++ q) (p.size + q.size) = 256 := bt_no (by omega)
  have hq : Lies q (p ++ q) p.size := ⟨fun j _ => bt_right p q j, by rw [he]; decide, by rw [he]; decide, by omega⟩
  unfold lexZ at hb ⊢
  rw [if_neg (by omega)] at hb ⊢
  have s1 := lex_next (lex_0 (p ++ q)) (by omega) (by rw [h]) (by rw [h]; show 0 + 1 ≤ p.size; omega)
  rw [h, List.nil_append] at s1
  have s2 := lex_loc hq [t] (q.size + 1) 0 [] b (Nat.zero_le _) (by omega) hb (by rw [List.append_nil, Nat.add_zero]; exact s1)
  exact lex_end s2 (by omega)
theorem Firm.app {p q : ByteArray} {a b : List Tok} (h : Firm p a) (h2 : Firm q b) : Firm (p ++ q) (a ++ b) := fun r c hs hc => by
  have hz : (p ++ q).size = p.size + q.size := ByteArray.size_append
  have hz2 : (q ++ r).size = q.size + r.size := ByteArray.size_append
  rw [ByteArray.append_assoc, List.append_assoc]
  exact h _ _ (by omega) (h2 r c (by omega) hc)
theorem Loose.app {p q : ByteArray} {a b : List Tok} (h : Loose p a) (h2 : Firm q b) (h0 : 0 < q.size) (h63 : bt q 0 ≠ 63) (h43 : bt q 0 ≠ 43) : Firm (p ++ q) (a ++ b) := fun r c hs hc => by
  have hz : (p ++ q).size = p.size + q.size := ByteArray.size_append
  have hz2 : (q ++ r).size = q.size + r.size := ByteArray.size_append
  rw [ByteArray.append_assoc, List.append_assoc]
  exact h _ _ (by omega) (by rw [bt_left q r h0]; exact h63) (by rw [bt_left q r h0]; exact h43) (h2 r c (by omega) hc)
theorem Loose.app' {p q : ByteArray} {a b : List Tok} (h : Loose p a) (h2 : Loose q b) (h0 : 0 < q.size) (h63 : bt q 0 ≠ 63) (h43 : bt q 0 ≠ 43) : Loose (p ++ q) (a ++ b) := fun r c hs r1 r2 hc => by
  have hz : (p ++ q).size = p.size + q.size := ByteArray.size_append
  have hz2 : (q ++ r).size = q.size + r.size := ByteArray.size_append
  rw [ByteArray.append_assoc, List.append_assoc]
  exact h _ _ (by omega) (by rw [bt_left q r h0]; exact h63) (by rw [bt_left q r h0]; exact h43) (h2 r c (by omega) r1 r2 hc)
theorem Firm.appL {p q : ByteArray} {a b : List Tok} (h : Firm p a) (h2 : Loose q b) : Loose (p ++ q) (a ++ b) := fun r c hs r1 r2 hc => by
  have hz : (p ++ q).size = p.size + q.size := ByteArray.size_append
  have hz2 : (q ++ r).size = q.size + r.size := ByteArray.size_append
  rw [ByteArray.append_assoc, List.append_assoc]
  exact h _ _ (by omega) (h2 r c (by omega) r1 r2 hc)

theorem hex_hex : ∀ n, n < 16 → hexZ (hexD n).toNat = (n : Int) := by decide
/-- A text at a place. -/
def AtB (r : ByteArray) (i : Nat) (x : ByteArray) : Prop := (∀ j, j < x.size → bt r (i + j) = bt x j) ∧ i + x.size ≤ r.size
theorem text_pos (c : Nat) : 0 < (textB c).size := by
  unfold textB
  split
  · exact Nat.zero_lt_one
  · exact Nat.succ_pos 3
/-- A byte's text, read as a class's item. -/
theorem item_text {r : ByteArray} {i c : Nat} (hc : c < 256) (h : AtB r i (textB c)) : itemZ r i = (oneS c, i + (textB c).size) := by
  obtain ⟨h, hs⟩ := h
  unfold textB at h hs ⊢
  by_cases hp : plainB c = true
  · simp only [if_pos hp] at h hs ⊢
    have b0 : bt r i = c := by
      have := h 0 (by show 0 < 1; decide)
      rw [Nat.add_zero] at this
      rw [this]
      show (UInt8.ofNat c).toNat = c
      simp; omega
    have hs1 : i + 1 ≤ r.size := hs
    unfold plainB at hp
    simp only [decide_eq_true_eq] at hp
    unfold itemZ
    rw [b0, if_neg (by omega), if_neg (by omega)]
    rfl
  · simp only [if_neg hp] at h hs ⊢
    have hs1 : i + 4 ≤ r.size := hs
    have b0 : bt r i = 92 := by have := h 0 (by show 0 < 4; decide); rw [Nat.add_zero] at this; rw [this]; rfl
    have b1 : bt r (i + 1) = 120 := by rw [h 1 (by show 1 < 4; decide)]; rfl
    have b2 : bt r (i + 2) = (hexD (c / 16)).toNat := by rw [h 2 (by show 2 < 4; decide)]; rfl
    have b3 : bt r (i + 3) = (hexD (c % 16)).toNat := by rw [h 3 (by show 3 < 4; decide)]; rfl
    have x2 := hex_hex (c / 16) (by omega)
    have x3 := hex_hex (c % 16) (by omega)
    unfold itemZ
    rw [b0, if_neg (by omega), if_pos rfl]
    unfold escZ
    rw [if_neg (by omega), b1, show nameS 120 = none from rfl]
    simp only [b2, b3, x2, x3]
    rw [if_pos ⟨trivial, by omega, by omega, by omega⟩]
    congr 2
    omega
end Go.Proofs.YtfejdengpnikeaaGreatDoor

namespace Go.Proofs.YtfejdengpnikeaaGreatDoor

theorem one_bit (c n : Nat) (hc : c < 256) : (oneS c).getLsbD n = decide (n = c) := by
  unfold oneS
  rw [span_bit]
  by_cases h : n = c
  · subst h; simp [hc]
  · have h2 : ¬ (c ≤ n ∧ n < c + 1) := by omega
    simp only [h, decide_false]
    rw [← Bool.decide_and, decide_eq_false h2, Bool.and_false]
theorem cnt_one {S : BitVec 256} {c : Nat} (h : ∀ n, S.getLsbD n = decide (n = c)) : ∀ m, cntTo S.getLsbD m = if c < m then 1 else 0
  | 0 => rfl
  | m + 1 => by
    simp only [cntTo]
    rw [cnt_one h m, h m]
    by_cases e : m = c
    · subst e; simp
    · simp only [e, decide_false]
      by_cases e2 : c < m
      · rw [if_pos e2, if_pos (by omega)]; rfl
      · rw [if_neg e2, if_neg (by omega)]; rfl
theorem len_one (c : Nat) (hc : c < 256) : lenS (oneS c) = 1 := by
  unfold lenS
  rw [cnt_one (fun n => one_bit c n hc) 256, if_pos hc]
theorem min_one (c : Nat) (hc : c < 256) : minS (oneS c) = c := minS_eq _ c hc (by rw [one_bit c c hc]; simp) fun k hk => by rw [one_bit c k hc]; exact decide_eq_false (by omega)
theorem cnt_le {S : BitVec 256} : ∀ {m n : Nat}, m ≤ n → cntTo S.getLsbD m ≤ cntTo S.getLsbD n
  | m, 0, h => by obtain rfl : m = 0 := by omega
                  exact Nat.le_refl _
  | m, n + 1, h => by
    by_cases e : m = n + 1
    · subst e; exact Nat.le_refl _
    · have := cnt_le (S := S) (m := m) (n := n) (by omega)
      simp only [cntTo]
      omega
theorem cnt_yes {S : BitVec 256} {c : Nat} (h : S.getLsbD c = true) : cntTo S.getLsbD (c + 1) = cntTo S.getLsbD c + 1 := by
  simp only [cntTo]
  rw [h]
  rfl
theorem len_zero {S : BitVec 256} (h : lenS S = 0) : S = 0#256 := by
  apply ext_bit
  intro k hk
  rw [show (0#256).getLsbD k = false by simp]
  cases hS : S.getLsbD k with
  | false => rfl
  | true =>
    have h1 := cnt_yes hS
    have h2 := cnt_le (S := S) (m := k + 1) (n := 256) (by omega)
    unfold lenS at h
    omega
/-- Some byte is in a set that is not empty: the least one. -/
theorem min_in {S : BitVec 256} (h : lenS S ≠ 0) : minS S < 256 ∧ S.getLsbD (minS S) = true := by
  unfold minS
  cases hf : (List.range 256).find? S.getLsbD with
  | none =>
    exfalso
    apply h
    have hz : ∀ m, m ≤ 256 → cntTo S.getLsbD m = 0 := by
      intro m
      induction m with
      | zero => intro _; rfl
      | succ m ih =>
        intro hm
        have hb := List.find?_eq_none.1 hf m (List.mem_range.2 (by omega))
        simp only [cntTo]
        rw [ih (by omega), show S.getLsbD m = false by simpa using hb]
        rfl
    exact hz 256 (Nat.le_refl _)
  | some x =>
    have h1 := List.find?_some hf
    have h2 := List.mem_range.1 (List.mem_of_find?_eq_some hf)
    exact ⟨h2, h1⟩
theorem len_1 {S : BitVec 256} (h : lenS S = 1) : S = oneS (minS S) ∧ minS S < 256 := by
  obtain ⟨hm, hb⟩ := min_in (S := S) (by omega)
  refine ⟨?_, hm⟩
  apply ext_bit
  intro k hk
  rw [one_bit _ _ hm]
  by_cases e : k = minS S
  · rw [e, hb]; simp
  · rw [decide_eq_false e]
    cases hS : S.getLsbD k with
    | false => rfl
    | true =>
      exfalso
      unfold lenS at h
      have a1 := cnt_yes hS
      have a2 := cnt_yes hb
      rcases Nat.lt_or_gt_of_ne e with e1 | e1
      · have b1 := cnt_le (S := S) (m := k + 1) (n := minS S) (by omega)
        have b2 := cnt_le (S := S) (m := minS S + 1) (n := 256) (by omega)
        omega
      · have b1 := cnt_le (S := S) (m := minS S + 1) (n := k) (by omega)
        have b2 := cnt_le (S := S) (m := k + 1) (n := 256) (by omega)
        omega

/-- All of the runs together. -/
def unionF (S : BitVec 256) : List (Nat × Nat) → BitVec 256
  | [] => S
  | r :: l => unionF (S ||| span r.1 (r.2 + 1)) l
theorem union_bit : ∀ (l : List (Nat × Nat)) (S : BitVec 256) (n : Nat), (unionF S l).getLsbD n = (S.getLsbD n || (decide (n < 256) && l.any fun r => decide (r.1 ≤ n) && decide (n < r.2 + 1)))
  | [], S, n => by simp [unionF]
  | r :: l, S, n => by
    rw [unionF, union_bit l, BitVec.getLsbD_or, span_bit, List.any_cons, Bool.or_assoc]
    congr 1
    cases decide (n < 256) <;> simp
/-- The runs are those that begin somewhere. -/
theorem mem_runs {S : BitVec 256} : ∀ (i : Nat) (r : Nat × Nat), r ∈ runsTo S i ↔ r.1 < i ∧ starts S r.1 = true ∧ r.2 = endOf S r.1
  | 0, r => by simp [runsTo]
  | i + 1, r => by
    unfold runsTo
    by_cases hs : starts S i = true
    · rw [if_pos hs, List.mem_append, mem_runs i r, List.mem_singleton]
      constructor
      · rintro (⟨h1, h2⟩ | rfl)
        · exact ⟨by omega, h2⟩
        · exact ⟨Nat.lt_succ_self _, hs, rfl⟩
      · rintro ⟨h1, h2, h3⟩
        by_cases e : r.1 = i
        · right
          obtain ⟨a, b⟩ := r
          simp only [] at e h3 ⊢
          subst e
          rw [h3]
        · exact .inl ⟨by omega, h2, h3⟩
    · rw [if_neg hs, mem_runs i r]
      constructor
      · rintro ⟨h1, h2⟩; exact ⟨by omega, h2⟩
      · rintro ⟨h1, h2, h3⟩
        refine ⟨?_, h2, h3⟩
        by_cases e : r.1 = i
        · rw [e] at h2; exact absurd h2 hs
        · omega
/-- Where the run begins, that a byte is in. -/
theorem run_start {S : BitVec 256} : ∀ n, S.getLsbD n = true → ∃ i, i ≤ n ∧ starts S i = true ∧ ∀ m, i ≤ m → m ≤ n → S.getLsbD m = true
  | 0, h => ⟨0, Nat.le_refl _, by simp [starts, h], fun m _ hm => by obtain rfl : m = 0 := by omega
                                                                     exact h⟩
  | n + 1, h => by
    cases hn : S.getLsbD n with
    | false => exact ⟨n + 1, Nat.le_refl _, by simp [starts, h, hn], fun m h1 h2 => by obtain rfl : m = n + 1 := by omega
                                                                                       exact h⟩
    | true =>
      obtain ⟨i, h1, h2, h3⟩ := run_start n hn
      refine ⟨i, by omega, h2, fun m a b => ?_⟩
      by_cases e : m = n + 1
      · rw [e]; exact h
      · exact h3 m a (by omega)
theorem union_runs (S : BitVec 256) : unionF 0#256 (runs S) = S := by
  apply ext_bit
  intro n hn
  rw [union_bit, show (0#256).getLsbD n = false by simp, Bool.false_or, decide_eq_true hn, Bool.true_and]
  cases hS : S.getLsbD n with
  | true =>
    obtain ⟨i, h1, h2, h3⟩ := run_start n hS
    rw [List.any_eq_true]
    refine ⟨(i, endOf S i), (mem_runs 256 _).2 ⟨by simp only []; omega, h2, rfl⟩, ?_⟩
    obtain ⟨a, b, c, d⟩ := endF_spec S 256 i (by omega) (by omega)
    have hle : n ≤ endOf S i := by
      rcases Nat.lt_or_ge (endOf S i) n with hlt | hge
      · have := d (by show endOf S i < 255; omega)
        rw [h3 _ (by show i ≤ endOf S i + 1; have : i ≤ endOf S i := a; omega) (by show endOf S i + 1 ≤ n; omega)] at this
        cases this
      · exact hge
    simp only [Bool.and_eq_true, decide_eq_true_eq]
    omega
  | false =>
    rw [List.any_eq_false]
    intro r hr
    obtain ⟨h1, h2, h3⟩ := (mem_runs 256 r).1 hr
    obtain ⟨a, b, c, d⟩ := endF_spec S 256 r.1 (by omega) (by omega)
    simp only [Bool.and_eq_true, decide_eq_true_eq, not_and]
    intro h4 h5
    have hb : S.getLsbD r.1 = true := by unfold starts at h2; simp at h2; exact h2.1
    by_cases e : n = r.1
    · rw [e, hb] at hS; cases hS
    · have : S.getLsbD n = true := c n (by omega) (by show n ≤ endOf S r.1; omega)
      rw [hS] at this; cases this

/-! Runs' texts, read as a class's items. -/
theorem AtB.left {r x y : ByteArray} {i : Nat} (h : AtB r i (x ++ y)) : AtB r i x := by
  have hz : (x ++ y).size = x.size + y.size := ByteArray.size_append
  refine ⟨fun j hj => ?_, by have := h.2; omega⟩
  rw [h.1 j (by omega), bt_left x y hj]
theorem AtB.right {r x y : ByteArray} {i : Nat} (h : AtB r i (x ++ y)) : AtB r (i + x.size) y := by
  have hz : (x ++ y).size = x.size + y.size := ByteArray.size_append
  refine ⟨fun j hj => ?_, by have := h.2; omega⟩
  rw [Nat.add_assoc, h.1 (x.size + j) (by omega), bt_right]
theorem AtB.zero (p q : ByteArray) : AtB (p ++ q) 0 p := ⟨fun j hj => by rw [Nat.zero_add]; exact bt_left p q hj, by have : (p ++ q).size = p.size + q.size := ByteArray.size_append
                                                                                                                     omega⟩
theorem AtB.one {r : ByteArray} {i : Nat} {c : UInt8} (h : AtB r i ⟨#[c]⟩) : bt r i = c.toNat := by
  have := h.1 0 (by show 0 < 1; decide)
  rw [Nat.add_zero] at this
  rw [this]
  rfl
/-- The first byte of a byte's text. -/
theorem text_head (c : Nat) (hc : c < 256) : bt (textB c) 0 = 92 ∨ plainB (bt (textB c) 0) = true := by
  unfold textB
  by_cases h : plainB c = true
  · rw [if_pos h]
    right
    have : bt ⟨#[UInt8.ofNat c]⟩ 0 = c := by
      show (UInt8.ofNat c).toNat = c
      simp; omega
    rw [this]; exact h
  · rw [if_neg h]; exact .inl rfl
theorem plain_ne {c : Nat} (h : c = 92 ∨ plainB c = true) : c ≠ 45 ∧ c ≠ 93 ∧ c ≠ 94 ∧ c ≠ 91 ∧ c ≠ 63 ∧ c ≠ 43 := by
  rcases h with rfl | h
  · decide
  · unfold plainB at h
    simp only [decide_eq_true_eq] at h
    omega
theorem at_text {r : ByteArray} {i c : Nat} (hc : c < 256) (h : AtB r i (textB c)) : bt r i = 92 ∨ plainB (bt r i) = true := by
  have := h.1 0 (text_pos c)
  rw [Nat.add_zero] at this
  rw [this]
  exact text_head c hc
theorem run_pos (r : Nat × Nat) : 0 < (runB r).size := by
  have := text_pos r.1
  unfold runB
  split
  · exact this
  · rw [ByteArray.append_assoc, ByteArray.size_append]; omega
theorem at_run {r : ByteArray} {i : Nat} {x : Nat × Nat} (h : AtB r i (runB x)) : AtB r i (textB x.1) := by
  unfold runB at h
  split at h
  · exact h
  · exact h.left.left
/-- A run's text is read as its bytes. -/
theorem span_run {r : ByteArray} {i : Nat} {x : Nat × Nat} (h1 : x.1 ≤ x.2) (h2 : x.2 < 256) (h : AtB r i (runB x)) (hn : bt r (i + (runB x).size) ≠ 45) : spanZ r i = (span x.1 (x.2 + 1), i + (runB x).size, 0) := by
  have ha := item_text (c := x.1) (by omega) (at_run h)
  have hp := text_pos x.1
  rw [span_eq, ha]
  simp only []
  rw [if_neg (by omega)]
  unfold runB at h hn ⊢
  by_cases e : x.1 = x.2
  · rw [if_pos e] at h hn
    simp only [if_pos e]
    rw [if_pos hn, ← e]
    rfl
  · rw [if_neg e] at h hn
    simp only [if_neg e]
    have b45 : bt r (i + (textB x.1).size) = 45 := by rw [AtB.one h.left.right]; rfl
    have hsz : (textB x.1 ++ (⟨#[45]⟩ : ByteArray)).size = (textB x.1).size + 1 := ByteArray.size_append
    have hb := item_text (r := r) (i := i + (textB x.1).size + 1) (c := x.2) h2 (by have := h.right; rw [hsz, ← Nat.add_assoc] at this; exact this)
    rw [if_neg (by rw [b45]; decide), hb]
    simp only []
    have hp2 := text_pos x.2
    rw [len_one _ (by omega), len_one _ h2, min_one x.1 (by omega), min_one x.2 h2, if_neg (by omega), if_neg (by omega)]
    rw [ByteArray.size_append, hsz]
    simp only [Prod.mk.injEq, true_and, and_true]
    omega
theorem cls_runs {r : ByteArray} {a : Nat} : ∀ (l : List (Nat × Nat)) (k : Nat) (S : BitVec 256), (∀ x ∈ l, x.1 ≤ x.2 ∧ x.2 < 256) → AtB r k (runsB l) → bt r (k + (runsB l).size) = 93 → ClsI r a k S → ClsI r a (k + (runsB l).size) (unionF S l)
  | [], k, S, _, _, _, hI => hI
  | x :: l, k, S, hl, h, he, hI => by
    have hx := hl x (List.mem_cons_self ..)
    have hz : (runsB (x :: l)).size = (runB x).size + (runsB l).size := ByteArray.size_append
    have hA : AtB r k (runB x ++ runsB l) := h
    rw [hz, ← Nat.add_assoc] at he
    have hne : bt r (k + (runB x).size) ≠ 45 := by
      cases l with
      | nil =>
        have : bt r (k + (runB x).size + 0) = 93 := he
        rw [Nat.add_zero] at this
        rw [this]; decide
      | cons y l =>
        have hy := hl y (by simp)
        have := at_text (by omega) (at_run (x := y) (AtB.left (x := runB y) (y := runsB l) hA.right))
        exact (plain_ne this).1
    have hs := span_run hx.1 hx.2 hA.left hne
    have hp := run_pos x
    have h2 := hA.2
    have hz2 : (runB x ++ runsB l).size = (runB x).size + (runsB l).size := ByteArray.size_append
    have hb := plain_ne (at_text (by omega) (at_run hA.left))
    have hI2 := cls_next hI (by omega) hb.2.1 (by rw [hs])
    rw [hs] at hI2
    rw [hz, ← Nat.add_assoc]
    exact cls_runs l _ _ (fun y hy => hl y (List.mem_cons_of_mem _ hy)) hA.right he hI2
theorem runs_ok (S : BitVec 256) : ∀ x ∈ runs S, x.1 ≤ x.2 ∧ x.2 < 256 := fun x hx => by
  obtain ⟨h1, h2, h3⟩ := (mem_runs 256 x).1 hx
  obtain ⟨a, b, c, d⟩ := endF_spec S 256 x.1 (by omega) (by omega)
  have a' : x.1 ≤ endOf S x.1 := a
  have b' : endOf S x.1 ≤ 255 := b
  omega
theorem runs_ne {S : BitVec 256} (h : lenS S ≠ 0) : runs S ≠ [] := fun e => by
  obtain ⟨hm, hb⟩ := min_in h
  have := union_runs S
  rw [e] at this
  have h0 : S = 0#256 := this.symm
  rw [h0] at hb
  simp at hb
/-- A byte's text, read as a token. -/
theorem tok_text {c : Nat} (hc : c < 256) (q : ByteArray) : tokZ (textB c ++ q) 0 = ({ tok0 0 with S := oneS c }, (textB c).size, 0) := by
  have hA := AtB.zero (textB c) q
  have hi := item_text hc hA
  have h0 := at_text hc hA
  rw [Nat.zero_add] at hi
  have hp := text_pos c
  unfold itemZ at hi
  have hpn := plain_ne h0
  have hs := hA.2
  rw [if_neg (by omega)] at hi
  by_cases h92 : bt (textB c ++ q) 0 = 92
  · rw [if_pos h92] at hi
    rw [tok_esc h92, hi]
    have b1 : bt (textB c ++ q) 1 = 120 := by
      have hn : ¬ plainB c = true := fun e => by
        have h := hA.1 0 hp
        rw [Nat.add_zero, h92] at h
        unfold textB at h
        rw [if_pos e] at h
        have : bt ⟨#[UInt8.ofNat c]⟩ 0 = c := by
          show (UInt8.ofNat c).toNat = c
          simp; omega
        rw [this] at h
        rw [← h] at e
        exact absurd e (by decide)
      have hz : (textB c).size = 4 := by unfold textB; rw [if_neg hn]; rfl
      have h := hA.1 1 (by omega)
      rw [Nat.zero_add] at h
      rw [h]
      unfold textB
      rw [if_neg hn]
      rfl
    rw [Nat.zero_add, b1, if_neg (by decide), if_neg (by decide), if_neg (by decide), if_neg (by simp only []; omega)]
  · rw [if_neg h92] at hi
    have hpl := h0.resolve_left h92
    unfold plainB at hpl
    simp only [decide_eq_true_eq] at hpl
    rw [tok_byte (by simp only [List.mem_cons, List.mem_nil_iff, or_false, forall_eq_or_imp, forall_eq]; omega)]
    rw [Prod.mk.injEq] at hi
    rw [hi.1, hi.2]
theorem set_pos (S : BitVec 256) : 0 < (setP S).size := by
  unfold setP
  split
  · decide
  · split
    · exact text_pos _
    · rw [ByteArray.append_assoc, ByteArray.size_append]; show 0 < 1 + _; omega
theorem set_head (S : BitVec 256) : bt (setP S) 0 ≠ 63 ∧ bt (setP S) 0 ≠ 43 := by
  unfold setP
  split
  · decide
  · rename_i h0
    split
    · have := plain_ne (text_head (minS S) (min_in h0).1)
      exact ⟨this.2.2.2.2.1, this.2.2.2.2.2⟩
    · have : bt ((⟨#[91]⟩ ++ runsB (runs S)) ++ ⟨#[93]⟩) 0 = 91 := by
        rw [ByteArray.append_assoc, bt_left _ _ (by show 0 < 1; decide)]; rfl
      rw [this]; decide
theorem tok_class {r : ByteArray} {i : Nat} {l : List (Nat × Nat)} {z : Bool} (hl : l ≠ []) (ho : ∀ x ∈ l, x.1 ≤ x.2 ∧ x.2 < 256) (h91 : bt r i = 91) (h94 : if z = true then bt r (i + 1) = 94 else True) (h : AtB r (if z = true then i + 2 else i + 1) (runsB l)) (he : bt r ((if z = true then i + 2 else i + 1) + (runsB l).size) = 93) :
    tokZ r i = ({ tok0 0 with S := bif z then ~~~unionF 0#256 l else unionF 0#256 l }, (if z = true then i + 2 else i + 1) + (runsB l).size + 1, 0) := by
  have hne : 0 < (runsB l).size ∧ (z = false → bt r (i + 1) ≠ 94) := by
    cases l with
    | nil => exact absurd rfl hl
    | cons x l =>
      have hx := ho x (List.mem_cons_self ..)
      have hz : (runsB (x :: l)).size = (runB x).size + (runsB l).size := ByteArray.size_append
      have := run_pos x
      refine ⟨by omega, fun e => ?_⟩
      subst e
      have hA : AtB r (i + 1) (runB x ++ runsB l) := h
      exact (plain_ne (at_text (by omega) (at_run hA.left))).2.2.1
  have hz : (bt r (i + 1) == 94) = z := by
    cases z with
    | true => rw [if_pos rfl] at h94; rw [h94]; rfl
    | false => exact beq_eq_false_iff_ne.2 (hne.2 rfl)
  have ha : (if bt r (i + 1) = 94 then i + 2 else i + 1) = (if z = true then i + 2 else i + 1) := by
    cases z with
    | true => rw [if_pos (by simpa using hz)]; rfl
    | false => rw [if_neg (by simpa using hz)]; rfl
  have hi : i < r.size := bt_in (by omega)
  rw [tok_91 h91, class_eq hi h91, hz, ha]
  generalize (if z = true then i + 2 else i + 1) = a at h he
  have hI := cls_runs l a 0#256 ho h he (cls_0 r a)
  have := cls_done hI h.2 he (by omega)
  rw [this]
  rfl
/-- A set's text is one token, that has the set, whatever stands behind it. -/
theorem set_tok (S : BitVec 256) (q : ByteArray) : tokZ (setP S ++ q) 0 = ({ tok0 0 with S := S }, (setP S).size, 0) := by
  by_cases h0 : lenS S = 0
  · have e : setP S = noneB := by unfold setP; rw [if_pos h0]
    obtain rfl := len_zero h0
    rw [e]
    have hA := AtB.zero noneB q
    have hr : runsB [(0, 255)] = ⟨#[92, 120, 48, 48, 45, 92, 120, 102, 102]⟩ := by kernel_rfl
    have hB : AtB (noneB ++ q) 0 (((⟨#[91, 94]⟩ : ByteArray) ++ runsB [(0, 255)]) ++ ⟨#[93]⟩) := by
      rw [show ((⟨#[91, 94]⟩ : ByteArray) ++ runsB [(0, 255)]) ++ ⟨#[93]⟩ = noneB by rw [hr]; rfl]
      exact hA
    have hsz : ((⟨#[91, 94]⟩ : ByteArray) ++ runsB [(0, 255)]).size = 11 := by rw [hr]; rfl
    have hsr : (runsB [(0, 255)]).size = 9 := by rw [hr]; rfl
    have := tok_class (r := noneB ++ q) (i := 0) (l := [(0, 255)]) (z := true) (by simp) (by simp) (by rw [show bt (noneB ++ q) 0 = bt noneB 0 from bt_left _ _ (by decide)]; rfl)
      (by rw [if_pos rfl, show bt (noneB ++ q) (0 + 1) = bt noneB 1 from bt_left _ _ (by decide)]; rfl)
      (by rw [if_pos rfl]; exact hB.left.right)
      (by rw [if_pos rfl, hsr]; have := hB.right; rw [hsz] at this; rw [AtB.one this]; rfl)
    rw [this, hsr]
    rw [show (bif true then ~~~unionF 0#256 [(0, 255)] else unionF 0#256 [(0, 255)]) = 0#256 from by decide +kernel]
    rfl
  · by_cases h1 : lenS S = 1
    · have e : setP S = textB (minS S) := by unfold setP; rw [if_neg h0, if_pos h1]
      obtain ⟨h2, h3⟩ := len_1 h1
      rw [e, tok_text h3, ← h2]
    · have e : setP S = (⟨#[91]⟩ ++ runsB (runs S)) ++ ⟨#[93]⟩ := by unfold setP; rw [if_neg h0, if_neg h1]
      rw [e]
      have hA := AtB.zero ((⟨#[91]⟩ ++ runsB (runs S)) ++ ⟨#[93]⟩) q
      have hs1 : ((⟨#[91]⟩ : ByteArray) ++ runsB (runs S)).size = 1 + (runsB (runs S)).size := ByteArray.size_append
      have := tok_class (r := ((⟨#[91]⟩ ++ runsB (runs S)) ++ ⟨#[93]⟩) ++ q) (i := 0) (l := runs S) (z := false) (runs_ne h0) (runs_ok S) (by rw [AtB.one hA.left.left]; rfl) (by rw [if_neg (by decide)]; trivial)
        (by rw [if_neg (by decide)]; exact hA.left.right)
        (by rw [if_neg (by decide)]; have := hA.right; rw [hs1, Nat.zero_add] at this; rw [Nat.zero_add, AtB.one this]; rfl)
      rw [this, union_runs, if_neg (by decide), ByteArray.size_append, hs1]
      rw [show (0 + 1 + (runsB (runs S)).size + 1) = 1 + (runsB (runs S)).size + (⟨#[93]⟩ : ByteArray).size from by show _ = 1 + _ + 1; omega]
      rfl
theorem set_firm (S : BitVec 256) : Firm (setP S) [{ tok0 0 with S := S }] := firm_one (set_pos S) (set_tok S)
/-- Unlike sets have unlike texts. -/
theorem set_inj {S T : BitVec 256} (h : setP S = setP T) : S = T := by
  have h1 := set_tok S ByteArray.empty
  rw [h, set_tok T] at h1
  exact (congrArg (fun x : TokR => x.1.S) h1).symm
end Go.Proofs.YtfejdengpnikeaaGreatDoor

namespace Go.Proofs.YtfejdengpnikeaaGreatDoor
open Go.RowKit
open Ast (Nd joinL wrapL deepZ rightZ cntG siz dep grp foldT foldT_succ kidsZ fitsB siz_pos mvN wr_id)

theorem wrap_add (x a b : Int) : wrap64 (wrap64 (x + a) + b) = wrap64 (x + (a + b)) := by
  rw [wrap64, wrap64, wrap64]
  omega
theorem mv_k (x : Nd) (n : Int) : (mvN x n).k = x.k := Ast.mvN_k x n
theorem mv_mv (x : Nd) (a b : Int) : mvN (mvN x a) b = mvN x (a + b) := by
  obtain ⟨k, xa, xb, s0, s1, s2, s3, mn, mx, md, n, f⟩ := x
  unfold mvN
  by_cases h2 : kidsZ k = 2
  · simp only [h2, if_true, wrap_add]
  · by_cases h1 : kidsZ k = 1
    · simp only [h1, if_true, if_false, wrap_add, show ¬ (1 : Int) = 2 by decide]
    · simp only [h1, h2, if_false]
theorem mv_0 {x : Nd} (ha : -1000000 ≤ x.a ∧ x.a ≤ 1000000) (hb : -1000000 ≤ x.b ∧ x.b ≤ 1000000) : mvN x ((0 : Nat) : Int) = x := by
  obtain ⟨k, xa, xb, s0, s1, s2, s3, mn, mx, md, n, f⟩ := x
  dsimp only at ha hb
  unfold mvN
  dsimp only
  rw [wr_id (by omega) (by omega), wr_id (by omega) (by omega), show xa + ((0 : Nat) : Int) = xa by omega, show xb + ((0 : Nat) : Int) = xb by omega]
  repeat' split
  all_goals rfl
theorem sub_eq {l : Nat → Nd} : ∀ (m j : Nat), j ≤ m → m ≤ 1000 → siz l j ≠ 0 → ∀ i, i < siz l j → mvN ((subT l j).2 i) ((j - siz l j : Nat) : Int) = l (j - siz l j + i) := by
  intro m
  induction m with
  | zero => intro j hj _ h; obtain rfl : j = 0 := by omega
            exact absurd (by simp [siz, Ast.sizF]) h
  | succ m ih =>
    intro j hj hm h i hi
    cases j with
    | zero => exact absurd (by simp [siz, Ast.sizF]) h
    | succ j =>
      have hle := Ast.siz_le l j
      obtain ⟨hf, ⟨hk, ha, hb, hs⟩ | ⟨hk, h0, ha, hb, hs⟩ | ⟨hk, h0, h1, ha, hb, hs⟩⟩ := siz_pos h
      · rw [hs] at hi ⊢
        obtain rfl : i = 0 := by omega
        rw [sub_k0 hk, show j + 1 - 1 + 0 = j by omega]
        show mvN (l j) _ = l j
        unfold mvN
        rw [if_neg (by omega), if_neg (by omega)]
      · obtain ⟨i1, -, -⟩ := sub_in j j (Nat.le_refl _) (by omega) h0
        rw [hs] at hi ⊢
        rw [show j + 1 - (siz l j + 1) = j - siz l j by omega, sub_k1 hk]
        unfold wrapT wrapL
        rw [i1]
        dsimp only
        by_cases hlt : i < siz l j
        · rw [if_pos hlt]
          exact ih j (by omega) (by omega) h0 i hlt
        · obtain rfl : i = siz l j := by omega
          rw [if_neg hlt, show j - siz l j + siz l j = j by omega]
          unfold mvN
          dsimp only
          rw [if_neg (by omega), if_pos hk, wr_id (by omega) (by omega), show ((siz l j : Nat) : Int) - 1 + ((j - siz l j : Nat) : Int) = (j : Int) - 1 by omega, ← ha, ← hb]
      · have hle2 := Ast.siz_le l (j - siz l j)
        obtain ⟨b1, -, -⟩ := sub_in j j (Nat.le_refl _) (by omega) h0
        obtain ⟨a1, -, -⟩ := sub_in (j - siz l j) (j - siz l j) (Nat.le_refl _) (by omega) h1
        have hB := ih j (by omega) (by omega) h0
        have hA := ih (j - siz l j) (by omega) (by omega) h1
        generalize hnB : siz l j = nB at *
        generalize hnA : siz l (j - nB) = nA at *
        rw [hs] at hi ⊢
        rw [show j + 1 - (nA + nB + 1) = j - nB - nA by omega, sub_k2 hk, hnB]
        unfold joinT joinL
        rw [a1, b1]
        dsimp only
        by_cases hlt : i < nA
        · rw [if_pos hlt]
          exact hA i hlt
        · rw [if_neg hlt]
          by_cases hlt2 : i < nA + nB
          · rw [if_pos hlt2, mv_mv, show ((nA : Nat) : Int) + ((j - nB - nA : Nat) : Int) = ((j - nB : Nat) : Int) by omega, hB (i - nA) (by omega)]
            congr 1
            omega
          · obtain rfl : i = nA + nB := by omega
            rw [if_neg hlt2, show j - nB - nA + (nA + nB) = j by omega, if_neg (by omega)]
            unfold mvN
            dsimp only
            rw [if_pos hk, wr_id (by omega) (by omega), wr_id (by omega) (by omega), show (nA : Int) - 1 + ((j - nB - nA : Nat) : Int) = (j : Int) - 1 - (nB : Int) by omega, show (nA : Int) + (nB : Int) - 1 + ((j - nB - nA : Nat) : Int) = (j : Int) - 1 by omega, ← ha, ← hb]
            have hkk := kids_2 hk
            clear hA hB ih hs h0 h1 a1 b1 hnA hnB ha hb h hk
            generalize l j = x at hf hkk ⊢
            obtain ⟨k, xa, xb, s0, s1, s2, s3, mn, mx, md, n, f⟩ := x
            simp only [fitsB, decide_eq_true_eq] at hf
            dsimp only at hkk ⊢
            obtain ⟨-, -, g1, g2, g3, g4, -⟩ := hf
            obtain ⟨rfl, rfl, rfl, rfl⟩ := g1.resolve_left (by omega)
            obtain ⟨rfl, rfl, rfl⟩ := g2.resolve_left (by omega)
            obtain rfl := (g3.resolve_left (by omega)).resolve_left (by omega)
            obtain rfl := g4.resolve_left (by omega)
            rfl
/-- The whole tree, put together, is the tree. -/
theorem sub_whole {l : Nat → Nd} {n : Nat} (hn : n ≤ 1000) (h0 : 0 < n) (h : siz l n = n) : (subT l n).1 = n ∧ ∀ i, i < n → (subT l n).2 i = l i := by
  obtain ⟨h1, h2, -⟩ := sub_in n n (Nat.le_refl _) hn (show siz l n ≠ 0 by rw [h]; omega)
  refine ⟨by rw [h1, h], fun i hi => ?_⟩
  have := sub_eq n n (Nat.le_refl _) hn (show siz l n ≠ 0 by rw [h]; omega) i (by rw [h]; exact hi)
  rw [h, show n - n = 0 by omega, Nat.zero_add] at this
  rw [← this]
  rw [h] at h2
  have h3 : siz (subT l n).2 (i + 1) ≠ 0 := fun e => Ast.siz_of_whole h2 hi e
  have hle := Ast.siz_le (subT l n).2 i
  obtain ⟨-, hk⟩ := siz_pos h3
  exact (mv_0 (by omega) (by omega)).symm

theorem num_at {l : Nat → Nd} {L : List Nat} : ∀ {k : Nat}, Ast.numB l L k = true → ∀ q, q < k → (l (L.getD q 0)).n = (q : Int) + 1
  | 0, _, q, hq => absurd hq (Nat.not_lt_zero _)
  | k + 1, h, q, hq => by
    rw [Ast.numB, Bool.and_eq_true] at h
    by_cases e : q = k
    · subst e; exact of_decide_eq_true h.2
    · exact num_at h.1 q (by omega)
theorem numb_of {l : Nat → Nd} {n : Nat} (h : Ast.groupsB l n = true) : Numb l n 0 := by
  unfold Ast.groupsB at h
  rw [Bool.and_eq_true, Bool.and_eq_true] at h
  unfold Numb
  apply List.ext_getElem (by simp)
  intro q h1 h2
  have hq : q < (grp l n).length := by simpa using h1
  have := num_at h.1.1 q hq
  rw [List.getElem_map, List.getElem_map, List.getElem_range']
  rw [List.getD_eq_getElem?_getD, List.getElem?_eq_getElem hq, Option.getD_some] at this
  rw [this]
  omega
/-- Tokens that are closed in themselves; b: is what stands behind them a piece's end? -/
def ScanT (x : List Tok) (b' : Bool) : Prop := ∀ o b y, scanF (x ++ y) o b = scanF y o b'
theorem ScanT.wrap {x : List Tok} {b' : Bool} {t : Tok} (h : ScanT x b') (ho : opens t.k = true) : ScanT (t :: (x ++ [tok0 15])) true := by
  intro o b y
  have h16 : t.k ≠ 16 ∧ t.k ≠ 15 := by
    unfold opens at ho
    simp only [decide_eq_true_eq] at ho
    omega
  rw [List.cons_append, scanF, if_neg (by exact fun e => e.elim (fun e => h16.1 e.1) (fun e => h16.2 e.1)), if_pos ho, List.append_assoc, h]
  show scanF (tok0 15 :: y) (o + 1) b' = _
  rw [scanF, if_neg (by exact fun e => e.elim (fun e => absurd e.1 (by decide)) (fun e => absurd e.2 (by omega))), if_neg (by decide), if_pos (show (tok0 15).k = 15 from rfl), Nat.add_sub_cancel]
theorem ScanT.app {x z : List Tok} {b1 b2 : Bool} (h : ScanT x b1) (h2 : ScanT z b2) : ScanT (x ++ z) b2 := fun o b y => by rw [List.append_assoc, h, h2]
theorem ScanT.in_ {x : List Tok} {b' : Bool} (h : ScanT x b') (b : Bool) : ScanT (inT b x) (if b = true then true else b') := by
  cases b with
  | false => exact h
  | true => exact h.wrap (t := tok0 8) (by decide)
theorem scan_one {t : Tok} (h16 : t.k ≠ 16) (h15 : t.k ≠ 15) (ho : opens t.k = false) (h6 : t.k ≠ 6) : ScanT [t] true := by
  intro o b y
  rw [List.singleton_append, scanF, if_neg (fun e => e.elim (fun e => h16 e.1) (fun e => h15 e.1)), if_neg (by rw [ho]; decide), if_neg h15, decide_eq_true ⟨h16, h6⟩]
theorem scan_bar8 : ScanT [tok0 6] false := fun o b y => by
  rw [List.singleton_append, scanF, if_neg (by rintro (⟨e, -⟩ | ⟨e, -⟩) <;> exact absurd e (by decide)), if_neg (by decide), if_neg (by decide)]
  rfl
theorem ScanT.quant {x : List Tok} (h : ScanT x true) (n : Nd) : ScanT (x ++ [quantK n]) false := fun o b y => by
  rw [List.append_assoc, h, List.singleton_append, scanF, if_neg (by exact fun e => e.elim (fun e => absurd e.2 (by decide)) (fun e => absurd (show (16 : Int) = 15 from e.1) (by decide))), if_neg (show ¬ opens (quantK n).k = true from show ¬ opens 16 = true by decide), if_neg (show ¬ (quantK n).k = 15 from show ¬ (16 : Int) = 15 by decide)]
  rfl
theorem scan_leaf8 (x : Nd) : ScanT (leafK x) true := by
  unfold leafK
  repeat' split
  · intro o b y
    rw [show [tok0 8, tok0 15] ++ y = tok0 8 :: tok0 15 :: y from rfl, scanF, if_neg (by rintro (⟨e, -⟩ | ⟨e, -⟩) <;> exact absurd e (by decide)), if_pos (by decide), scanF, if_neg (by exact fun e => e.elim (fun e => absurd e.1 (by decide)) (fun e => absurd e.2 (by omega))), if_neg (by decide), if_pos (show (tok0 15).k = 15 from rfl), Nat.add_sub_cancel]
  · exact scan_one (by show (0 : Int) ≠ 16; decide) (by show (0 : Int) ≠ 15; decide) rfl (by show (0 : Int) ≠ 6; decide)
  · exact scan_one (by decide) (by decide) rfl (by decide)
  · exact scan_one (by decide) (by decide) rfl (by decide)
  · exact (scan_one (t := tok0 2) (by decide) (by decide) rfl (by decide)).wrap (t := flagT 109) rfl
  · exact (scan_one (t := tok0 3) (by decide) (by decide) rfl (by decide)).wrap (t := flagT 109) rfl
  · exact scan_one (by decide) (by decide) rfl (by decide)
  · exact scan_one (by decide) (by decide) rfl (by decide)
  · exact (scan_one (t := { tok0 17 with n := x.n }) (by show (17 : Int) ≠ 16; decide) (by show (17 : Int) ≠ 15; decide) rfl (by show (17 : Int) ≠ 6; decide)).wrap (t := flagT 105) rfl
  · exact scan_one (t := { tok0 17 with n := x.n }) (by show (17 : Int) ≠ 16; decide) (by show (17 : Int) ≠ 15; decide) rfl (by show (17 : Int) ≠ 6; decide)
theorem scan_tok {l : Nat → Nd} : ∀ (m j : Nat), j ≤ m → siz l j ≠ 0 → ∃ b', ScanT (tokT l j) b' ∧ (is8a (l (j - 1)).k = false → b' = true) := by
  intro m
  induction m with
  | zero => intro j hj h; obtain rfl : j = 0 := by omega
            exact absurd (by simp [siz, Ast.sizF]) h
  | succ m ih =>
    intro j hj h
    cases j with
    | zero => exact absurd (by simp [siz, Ast.sizF]) h
    | succ j =>
      have e1 : j + 1 - 1 = j := rfl
      rw [e1]
      obtain ⟨hf, ⟨hk, -⟩ | ⟨hk, h0, -⟩ | ⟨hk, h0, h1, -⟩⟩ := siz_pos h
      · rw [tok_k0 hk]; exact ⟨true, scan_leaf8 _, fun _ => rfl⟩
      · obtain ⟨b', hb, hb2⟩ := ih j (by omega) h0
        rw [tok_k1 hk]
        by_cases h10 : (l j).k = 10
        · rw [if_pos h10]
          refine ⟨false, ScanT.quant ?_ _, fun h => absurd h (by rw [h10]; decide)⟩
          have := hb.in_ (is8a (l (j - 1)).k)
          cases hx : is8a (l (j - 1)).k with
          | true => rw [hx] at this; exact this
          | false => rw [hx, hb2 hx] at this; exact this
        · rw [if_neg h10]
          refine ⟨true, hb.wrap ?_, fun _ => rfl⟩
          show opens (openK (l j).k) = true
          have := kids_1 hk
          unfold opens openK
          simp only [decide_eq_true_eq]
          split <;> omega
      · obtain ⟨ba, ha, -⟩ := ih (j - siz l j) (by omega) h1
        obtain ⟨bb, hb, -⟩ := ih j (by omega) h0
        rw [tok_k2 hk]
        have hkk := kids_2 hk
        have h8a : ¬ is8a (l j).k = false := by rcases hkk with e | e <;> (rw [e]; decide)
        by_cases h8 : (l j).k = 8
        · rw [if_pos h8]
          exact ⟨_, (ha.in_ _).app (hb.in_ _), fun h => absurd h h8a⟩
        · rw [if_neg h8]
          exact ⟨_, ha.app (z := tok0 6 :: _) (scan_bar8.app (hb.in_ (is9 (l (j - 1)).k))), fun h => absurd h h8a⟩
/-- A pattern whose tokens are those of a tree that may be has that tree. -/
theorem parse_of_tok {l : Nat → Nd} {n : Nat} {p : ByteArray} (hl : LitOk l n) (hr : rightZ l n = 0) (hx : lexZ p = (tokT l n, 0)) : parseZ p = (subT l n, 0) ∧ (subT l n).1 = n ∧ ∀ i, i < n → (subT l n).2 i = l i := by
  obtain ⟨h0, hs, -, hsh, h500⟩ := right_whole hr
  have hne : siz l n ≠ 0 := by omega
  have hsub := sub_whole (by omega) h0 hs
  have hd : dep l n ≤ 40 := by
    have hf : Ast.formZ l n = 0 := by unfold Ast.shapeZ at hsh; split at hsh <;> omega
    unfold Ast.shapeZ at hsh
    by_cases h : 40 < dep l n
    · rw [if_pos ⟨hf, h⟩] at hsh; exact absurd hsh (by decide)
    · omega
  have hg : Ast.groupsB l n = true := by
    unfold rightZ at hr
    rw [if_neg (by rw [hsh]; decide)] at hr
    by_cases h : Ast.groupsB l n = false
    · rw [if_pos h] at hr; exact absurd hr (by decide)
    · simpa using h
  have hR := (read_ok hl n n (Nat.le_refl _) h500 (Nat.le_refl _) hne hd).alt 0 [] _ _ _ (numb_of hg) (.inr rfl) (alts_end (by show ¬ (15 : Int) = 6; decide))
  rw [List.append_nil] at hR
  obtain ⟨N, hR⟩ := hR
  obtain ⟨b', hb, -⟩ := scan_tok n n (Nat.le_refl _) hne
  have hscan : scanF (tokT l n) 0 false = true := by
    have := hb 0 false []
    rw [List.append_nil] at this
    rw [this]
    rfl
  refine ⟨parsed_of hx hscan hR ?_, hsub⟩
  rw [hsub.1, like_right (l := l) (fun i hi => ?_), hr]
  rw [hsub.2 i hi]
  exact ⟨rfl, rfl, rfl, rfl, rfl, rfl, rfl⟩
end Go.Proofs.YtfejdengpnikeaaGreatDoor

namespace Go.Proofs.YtfejdengpnikeaaGreatDoor
open Ast (Nd deepZ rightZ siz dep grp foldT foldT_succ kidsZ fitsB siz_pos)

theorem dig_b (n : Nat) (h : n < 10) : (digB n).toNat = 48 + n := by
  show (UInt8.ofNat (48 + n)).toNat = 48 + n
  simp; omega
theorem num_pos (n : Nat) : 0 < (numT n).size := by
  unfold numT
  repeat' split
  all_goals exact Nat.succ_pos _
theorem count_num {r : ByteArray} {i n : Nat} (hn : n ≤ 100) (h : AtB r i (numT n)) (he : isD r (i + (numT n).size) = false) : countZ r i = (n, i + (numT n).size) := by
  have dg : ∀ {j c : Nat}, bt r (i + j) = 48 + c → c < 10 → isD r (i + j) = true := fun h1 h2 => by unfold isD; rw [h1]; exact decide_eq_true (by omega)
  obtain ⟨h, hs⟩ := h
  unfold numT at h he hs ⊢
  by_cases h1 : n < 10
  · simp only [if_pos h1] at h he hs ⊢
    have b0 : bt r (i + 0) = 48 + n := by rw [h 0 (by show 0 < 1; decide)]; exact dig_b n h1
    rw [count_at (k := 1) (by omega) (fun j hj => by obtain rfl : j = 0 := by omega
                                                     exact dg b0 h1) (.inr he)]
    simp only [cntV, b0]
    refine Prod.ext ?_ rfl
    show 10 * 0 + (48 + n - 48) = n
    omega
  · by_cases h2 : n < 100
    · simp only [if_neg h1, if_pos h2] at h he hs ⊢
      have b0 : bt r (i + 0) = 48 + n / 10 := by rw [h 0 (by show 0 < 2; decide)]; exact dig_b _ (by omega)
      have b1 : bt r (i + 1) = 48 + n % 10 := by rw [h 1 (by show 1 < 2; decide)]; exact dig_b _ (by omega)
      rw [count_at (k := 2) (by omega) (fun j hj => by rcases (show j = 0 ∨ j = 1 by omega) with rfl | rfl
                                                       · exact dg b0 (by omega)
                                                       · exact dg b1 (by omega)) (.inr he)]
      simp only [cntV, b0, b1]
      refine Prod.ext ?_ rfl
      show 10 * (10 * 0 + (48 + n / 10 - 48)) + (48 + n % 10 - 48) = n
      omega
    · simp only [if_neg h1, if_neg h2] at h he hs ⊢
      obtain rfl : n = 100 := by omega
      have b0 : bt r (i + 0) = 48 + 1 := by rw [h 0 (by show 0 < 3; decide)]; exact dig_b 1 (by omega)
      have b1 : bt r (i + 1) = 48 + 0 := by rw [h 1 (by show 1 < 3; decide)]; exact dig_b 0 (by omega)
      have b2 : bt r (i + 2) = 48 + 0 := by rw [h 2 (by show 2 < 3; decide)]; exact dig_b 0 (by omega)
      rw [count_at (k := 3) (by omega) (fun j hj => by rcases (show j = 0 ∨ j = 1 ∨ j = 2 by omega) with rfl | rfl | rfl
                                                       · exact dg b0 (by omega)
                                                       · exact dg b1 (by omega)
                                                       · exact dg b2 (by omega)) (.inl rfl)]
      simp only [cntV, b0, b1, b2]
      rfl
theorem noD {r : ByteArray} {i c : Nat} (h : bt r i = c) (hc : c < 48 ∨ 57 < c) : isD r i = false := by unfold isD; rw [h]; exact decide_eq_false (by omega)
theorem AtB.two {r : ByteArray} {i : Nat} {c d : UInt8} (h : AtB r i ⟨#[c, d]⟩) : bt r i = c.toNat ∧ bt r (i + 1) = d.toNat := by
  have h0 := h.1 0 (by show 0 < 2; decide)
  have h1 := h.1 1 (by show 1 < 2; decide)
  rw [Nat.add_zero] at h0
  exact ⟨h0, h1⟩
/-- What stands within braces. -/
theorem braces_often {r : ByteArray} {i m : Nat} {mx : Int} (hm : m ≤ 100) (hx : mx = -1 ∨ (m : Int) ≤ mx ∧ mx ≤ 100) (hA : AtB r i (if mx = m then (⟨#[123]⟩ ++ numT m) ++ ⟨#[125]⟩ else if mx = -1 then (⟨#[123]⟩ ++ numT m) ++ ⟨#[44, 125]⟩ else (((⟨#[123]⟩ ++ numT m) ++ ⟨#[44]⟩) ++ numT mx.toNat) ++ ⟨#[125]⟩)) :
    bt r i = 123 ∧ bracesZ r i = ({ tok0 16 with mn := (m : Int), mx := mx }, i + (if mx = m then (⟨#[123]⟩ ++ numT m) ++ ⟨#[125]⟩ else if mx = -1 then (⟨#[123]⟩ ++ numT m) ++ ⟨#[44, 125]⟩ else (((⟨#[123]⟩ ++ numT m) ++ ⟨#[44]⟩) ++ numT mx.toNat) ++ ⟨#[125]⟩ : ByteArray).size, 0) := by
  have hz1 : ((⟨#[123]⟩ : ByteArray) ++ numT m).size = 1 + (numT m).size := ByteArray.size_append
  have hp := num_pos m
  have z1 : (⟨#[123]⟩ : ByteArray).size = 1 := rfl
  have z2 : (⟨#[125]⟩ : ByteArray).size = 1 := rfl
  have z3 : (⟨#[44]⟩ : ByteArray).size = 1 := rfl
  have z4 : (⟨#[44, 125]⟩ : ByteArray).size = 2 := rfl
  by_cases h1 : mx = m
  · simp only [if_pos h1] at hA ⊢
    have b0 : bt r i = 123 := by rw [hA.left.left.one]; rfl
    have be : bt r (i + 1 + (numT m).size) = 125 := by have := hA.right; rw [hz1, ← Nat.add_assoc] at this; rw [this.one]; rfl
    have hc := count_num hm (by have := hA.left.right; rw [z1] at this; exact this) (noD be (by omega))
    refine ⟨b0, ?_⟩
    unfold bracesZ
    rw [hc]
    simp only [be]
    rw [if_neg (by omega), if_neg (show ¬ (125 : Nat) = 44 by decide)]
    simp only [be]
    rw [if_neg (by decide), if_neg (by omega), if_neg (by omega), ByteArray.size_append, hz1, z2, h1]
    simp only [Prod.mk.injEq, true_and, and_true]
    omega
  · simp only [if_neg h1] at hA ⊢
    by_cases h2 : mx = -1
    · simp only [if_pos h2] at hA ⊢
      have b0 : bt r i = 123 := by rw [hA.left.left.one]; rfl
      have be := hA.right
      rw [hz1, ← Nat.add_assoc] at be
      obtain ⟨be, be2⟩ := be.two
      have be' : bt r (i + 1 + (numT m).size) = 44 := be
      have be2' : bt r (i + 1 + (numT m).size + 1) = 125 := be2
      have hc := count_num hm (by have := hA.left.right; rw [z1] at this; exact this) (noD be' (by omega))
      have hc2 : countZ r (i + 1 + (numT m).size + 1) = (0, i + 1 + (numT m).size + 1) := by unfold countZ; rw [if_pos (noD be2' (by omega))]
      refine ⟨b0, ?_⟩
      unfold bracesZ
      rw [hc]
      simp only [be', hc2]
      rw [if_neg (by omega), if_pos trivial]
      simp only [if_true, be2']
      rw [if_neg (by decide), if_neg (by omega), if_neg (by omega), ByteArray.size_append, hz1, z4, h2]
      simp only [Prod.mk.injEq, true_and, and_true]
      omega
    · simp only [if_neg h2] at hA ⊢
      obtain ⟨x, rfl⟩ : ∃ x : Nat, mx = (x : Int) := ⟨mx.toNat, by omega⟩
      rw [Int.toNat_natCast] at hA ⊢
      have hp2 := num_pos x
      have hz3 : (((⟨#[123]⟩ : ByteArray) ++ numT m) ++ ⟨#[44]⟩).size = 1 + (numT m).size + 1 := by rw [ByteArray.size_append, hz1, z3]
      have hz4 : ((((⟨#[123]⟩ : ByteArray) ++ numT m) ++ ⟨#[44]⟩) ++ numT x).size = 1 + (numT m).size + 1 + (numT x).size := by rw [ByteArray.size_append, hz3]
      have b0 : bt r i = 123 := by rw [hA.left.left.left.left.one]; rfl
      have be' : bt r (i + 1 + (numT m).size) = 44 := by have := hA.left.left.right; rw [hz1, ← Nat.add_assoc] at this; rw [this.one]; rfl
      have be2' : bt r (i + 1 + (numT m).size + 1 + (numT x).size) = 125 := by have := hA.right; rw [hz4] at this; simp only [← Nat.add_assoc] at this; rw [this.one]; rfl
      have hc := count_num hm (by have := hA.left.left.left.right; rw [z1] at this; exact this) (noD be' (by omega))
      have hc2 := count_num (n := x) (by omega) (by have := hA.left.right; rw [hz3] at this; simp only [← Nat.add_assoc] at this; exact this) (noD be2' (by omega))
      refine ⟨b0, ?_⟩
      unfold bracesZ
      rw [hc]
      simp only [be', hc2]
      rw [if_neg (by omega), if_pos trivial]
      simp only [be2']
      rw [if_neg (show ¬ i + 1 + (numT m).size + 1 + (numT x).size = i + 1 + (numT m).size + 1 by omega)]
      rw [if_neg (by decide), if_neg (by omega), if_neg (by omega), ByteArray.size_append, hz4, z2]
      simp only [Prod.mk.injEq, true_and, and_true]
      omega
/-- How often: what is read of it. -/
theorem quant_often {r : ByteArray} {i : Nat} {mn mx : Int} (h0 : 0 ≤ mn ∧ mn ≤ 100 ∧ mx ≤ 100 ∧ (mx = -1 ∨ mn ≤ mx)) (hA : AtB r i (oftenB mn mx)) :
    tokZ r i = modeZ r ({ tok0 16 with mn := mn, mx := mx }, i + (oftenB mn mx).size, 0) := by
  unfold oftenB at hA ⊢
  by_cases c1 : mn = 0 ∧ mx = -1
  · simp only [if_pos c1] at hA ⊢
    have b : bt r i = 42 := hA.one
    rw [tok_quant (.inl b)]
    unfold quantZ
    rw [b, if_neg (by decide), c1.1, c1.2]
    rfl
  simp only [if_neg c1] at hA ⊢
  by_cases c2 : mn = 1 ∧ mx = -1
  · simp only [if_pos c2] at hA ⊢
    have b : bt r i = 43 := hA.one
    rw [tok_quant (.inr (.inl b))]
    unfold quantZ
    rw [b, if_neg (by decide), c2.1, c2.2]
    rfl
  simp only [if_neg c2] at hA ⊢
  by_cases c3 : mn = 0 ∧ mx = 1
  · simp only [if_pos c3] at hA ⊢
    have b : bt r i = 63 := hA.one
    rw [tok_quant (.inr (.inr (.inl b)))]
    unfold quantZ
    rw [b, if_neg (by decide), c3.1, c3.2]
    rfl
  simp only [if_neg c3] at hA ⊢
  obtain ⟨m, rfl⟩ : ∃ m : Nat, mn = (m : Int) := ⟨mn.toNat, by omega⟩
  rw [Int.toNat_natCast] at hA ⊢
  obtain ⟨b, hb⟩ := braces_often (i := i) (m := m) (mx := mx) (by omega) (by omega) hA
  rw [tok_quant (.inr (.inr (.inr b)))]
  unfold quantZ
  rw [if_pos b, hb]
  rfl
/-- A whole Quant: it is read as it is, if no ? or + follows. -/
theorem loose_often (x : Nd) (hf : fitsB x = true) (h10 : x.k = 10) : Loose (oftenB x.mn x.mx ++ mannerB x.md) [quantK x] := by
  have hx : 0 ≤ x.mn ∧ x.mn ≤ 100 ∧ x.mx ≤ 100 ∧ (x.mx = -1 ∨ x.mn ≤ x.mx) ∧ 0 ≤ x.md ∧ x.md ≤ 2 := by
    unfold fitsB at hf
    simp only [decide_eq_true_eq] at hf
    exact hf.2.2.2.2.2.2.resolve_left (fun h => h h10)
  obtain ⟨h1, h2, h3, h4, h5, h6⟩ := hx
  have hpos : 0 < (oftenB x.mn x.mx ++ mannerB x.md).size := by
    rw [ByteArray.size_append]
    have : 0 < (oftenB x.mn x.mx).size := by
      unfold oftenB
      repeat' split
      all_goals first | (simp only [ByteArray.size_append]; show 0 < _ + 1; omega) | (simp only [ByteArray.size_append]; show 0 < _ + 2; omega) | exact Nat.zero_lt_one
    omega
  intro q b hs r1 r2 hb
  have hz : ((oftenB x.mn x.mx ++ mannerB x.md) ++ q).size = (oftenB x.mn x.mx ++ mannerB x.md).size + q.size := ByteArray.size_append
  have hA := AtB.zero (oftenB x.mn x.mx ++ mannerB x.md) q
  have hn : bt ((oftenB x.mn x.mx ++ mannerB x.md) ++ q) (oftenB x.mn x.mx ++ mannerB x.md).size = bt q 0 := by have := bt_right (oftenB x.mn x.mx ++ mannerB x.md) q 0; rwa [Nat.add_zero] at this
  have hz2 : (oftenB x.mn x.mx ++ mannerB x.md).size = (oftenB x.mn x.mx).size + (mannerB x.md).size := ByteArray.size_append
  have ht : tokZ ((oftenB x.mn x.mx ++ mannerB x.md) ++ q) 0 = (quantK x, (oftenB x.mn x.mx ++ mannerB x.md).size, 0) := by
    rw [quant_often ⟨h1, h2, h3, h4⟩ hA.left, Nat.zero_add, mode_eq _ _ _ rfl]
    have hR := hA.right
    rw [Nat.zero_add] at hR
    rw [hz2] at hn ⊢
    generalize ((oftenB x.mn x.mx ++ mannerB x.md) ++ q) = r at hR hn ⊢
    unfold mannerB at hR hn ⊢
    by_cases m1 : x.md = 1
    · simp only [if_pos m1] at hR hn ⊢
      have b1 : bt r (oftenB x.mn x.mx).size = 63 := hR.one
      rw [b1]
      unfold quantK
      rw [m1]
      rfl
    · by_cases m2 : x.md = 2
      · simp only [if_neg m1, if_pos m2] at hR hn ⊢
        have b1 : bt r (oftenB x.mn x.mx).size = 43 := hR.one
        rw [b1]
        unfold quantK
        rw [m2]
        rfl
      · simp only [if_neg m1, if_neg m2] at hR hn ⊢
        have b1 : bt r (oftenB x.mn x.mx).size = bt q 0 := hn
        have m0 : x.md = 0 := by omega
        rw [b1, show mdV (bt q 0) = 0 from by unfold mdV; rw [if_neg r1, if_neg r2], show mdN (bt q 0) = 0 from by unfold mdN; rw [if_neg (by omega)]]
        unfold quantK
        rw [m0]
        rfl
  generalize (oftenB x.mn x.mx ++ mannerB x.md) = p at *
  have he : bt (p ++ q) (p.size + q.size) = 256 := bt_no (by omega)
  have hq : Lies q (p ++ q) p.size := ⟨fun j _ => bt_right p q j, by rw [he]; decide, by rw [he]; decide, by omega⟩
  unfold lexZ at hb ⊢
  rw [if_neg (by omega)] at hb ⊢
  have s1 := lex_next (lex_0 (p ++ q)) (by omega) (by rw [ht]) (by rw [ht]; show 0 + 1 ≤ p.size; omega)
  rw [ht, List.nil_append] at s1
  have s2 := lex_loc hq [quantK x] (q.size + 1) 0 [] b (Nat.zero_le _) (by omega) hb (by rw [List.append_nil, Nat.add_zero]; exact s1)
  exact lex_end s2 (by omega)

variable {l : Nat → Nd}
theorem firm_open3 {c : UInt8} {t : Tok} (h : ∀ r, bt r 0 = 40 → bt r 1 = 63 → bt r 2 = c.toNat → tokZ r 0 = (t, 3, 0)) : Firm ⟨#[40, 63, c]⟩ [t] :=
  firm_one (by show 0 < 3; decide) fun q => h _ (bt_left ⟨#[40, 63, c]⟩ q (by show 0 < 3; decide)) (bt_left ⟨#[40, 63, c]⟩ q (by show 1 < 3; decide)) (bt_left ⟨#[40, 63, c]⟩ q (by show 2 < 3; decide))
theorem firm_open4 {c d : UInt8} {t : Tok} (h : ∀ r, bt r 0 = 40 → bt r 1 = 63 → bt r 2 = c.toNat → bt r 3 = d.toNat → 4 ≤ r.size → tokZ r 0 = (t, 4, 0)) : Firm ⟨#[40, 63, c, d]⟩ [t] :=
  firm_one (by show 0 < 4; decide) fun q => h _ (bt_left ⟨#[40, 63, c, d]⟩ q (by show 0 < 4; decide)) (bt_left ⟨#[40, 63, c, d]⟩ q (by show 1 < 4; decide)) (bt_left ⟨#[40, 63, c, d]⟩ q (by show 2 < 4; decide)) (bt_left ⟨#[40, 63, c, d]⟩ q (by show 3 < 4; decide)) (by rw [ByteArray.size_append]; show 4 ≤ 4 + _; omega)
theorem firm_plain : Firm ⟨#[40, 63, 58]⟩ [tok0 8] := firm_open3 fun r h0 h1 h2 => by
  rw [tok_open2 h0 h1, if_pos (by simpa using h2)]
theorem firm_close : Firm ⟨#[41]⟩ [tok0 15] := firm_one (by decide) fun q => tok_41 (bt_left ⟨#[41]⟩ q (by decide))
theorem firm_bar : Firm ⟨#[124]⟩ [tok0 6] := firm_one (by decide) fun q => tok_124 (bt_left ⟨#[124]⟩ q (by decide))
theorem firm_begin : Firm ⟨#[94]⟩ [tok0 2] := firm_one (by decide) fun q => tok_94 (bt_left ⟨#[94]⟩ q (by decide))
theorem firm_end : Firm ⟨#[36]⟩ [tok0 3] := firm_one (by decide) fun q => tok_36 (bt_left ⟨#[36]⟩ q (by decide))
/-- One flag. -/
theorem firm_flag {c : UInt8} (hc : c = 105 ∨ c = 109) : Firm ⟨#[40, 63, c, 58]⟩ [flagT c] := firm_open4 fun r h0 h1 h2 h3 hs => by
  have hc2 : c.toNat = 105 ∨ c.toNat = 109 := by rcases hc with rfl | rfl; exact .inl rfl; exact .inr rfl
  have h3' : bt r (2 + 1) = 58 := h3
  have hu : r[2]'(by omega) = c := by
    have := bt_at (p := r) (i := 2) (by omega)
    rw [h2] at this
    exact (UInt8.toNat_inj.1 this).symm
  rw [tok_open2 h0 h1]
  simp only [Nat.zero_add]
  rw [h2, if_neg (by omega), if_neg (by omega), if_neg (by omega), if_neg (by omega), if_neg (by omega), if_neg (by omega)]
  obtain ⟨f, hf⟩ : ∃ f, r.size = f + 1 := ⟨r.size - 1, by omega⟩
  rw [hf, flags_next (by omega) (by rw [h2]; unfold isF; rcases hc2 with e | e <;> (rw [e]; rfl)) (by simp), flags_colon (by omega) h3' (by simp), hu]
  rfl
theorem firm_word {c : UInt8} {t : Tok} (h : ∀ r, bt r 0 = 92 → bt r 1 = c.toNat → tokZ r 0 = (t, 2, 0)) : Firm ⟨#[92, c]⟩ [t] :=
  firm_one (by show 0 < 2; decide) fun q => h _ (bt_left ⟨#[92, c]⟩ q (by show 0 < 2; decide)) (bt_left ⟨#[92, c]⟩ q (by show 1 < 2; decide))
theorem firm_back (x : Nd) (h1 : 1 ≤ x.n) (h9 : x.n ≤ 9) : Firm (backT x) [{ tok0 17 with n := x.n }] := by
  obtain ⟨m, hm⟩ : ∃ m : Nat, x.n = (m : Int) := ⟨x.n.toNat, by omega⟩
  have e : backT x = ⟨#[92, digB m]⟩ := by
    unfold backT numT
    rw [hm, Int.toNat_natCast, if_pos (by omega)]
    rfl
  rw [e, hm]
  exact firm_word fun r a0 a1 => by
    rw [dig_b m (by omega)] at a1
    rw [tok_esc a0]
    simp only [Nat.zero_add]
    rw [a1, if_neg (by omega), if_neg (by omega), if_pos (by omega)]
    congr 2
    omega
theorem leaf_firm (x : Nd) (hk : kidsZ x.k = 0) (hf : fitsB x = true) (hb : x.k = 12 → 1 ≤ x.n ∧ x.n ≤ 9) : Firm (leafB x) (leafK x) := by
  have hk2 : x.k = 0 ∨ x.k = 1 ∨ x.k = 2 ∨ x.k = 3 ∨ x.k = 4 ∨ x.k = 5 ∨ x.k = 6 ∨ x.k = 7 ∨ x.k = 12 := by
    unfold fitsB at hf
    simp only [decide_eq_true_eq] at hf
    exact kids_0 hk hf.1 hf.2.1
  unfold leafB leafK
  by_cases c0 : x.k = 0
  · rw [if_pos c0, if_pos c0]
    exact firm_plain.app firm_close
  rw [if_neg c0, if_neg c0]
  by_cases c1 : x.k = 1
  · rw [if_pos c1, if_pos c1]
    exact set_firm _
  rw [if_neg c1, if_neg c1]
  by_cases c2 : x.k = 2
  · rw [if_pos c2, if_pos c2]
    exact firm_begin
  rw [if_neg c2, if_neg c2]
  by_cases c3 : x.k = 3
  · rw [if_pos c3, if_pos c3]
    exact firm_end
  rw [if_neg c3, if_neg c3]
  by_cases c4 : x.k = 4
  · rw [if_pos c4, if_pos c4]
    exact ((firm_flag (c := 109) (.inr rfl)).app firm_begin).app firm_close
  rw [if_neg c4, if_neg c4]
  by_cases c5 : x.k = 5
  · rw [if_pos c5, if_pos c5]
    exact ((firm_flag (c := 109) (.inr rfl)).app firm_end).app firm_close
  rw [if_neg c5, if_neg c5]
  by_cases c6 : x.k = 6
  · rw [if_pos c6, if_pos c6]
    exact firm_word fun r a0 a1 => by rw [tok_esc a0]; simp only [Nat.zero_add]; rw [a1, if_pos (by decide)]
  rw [if_neg c6, if_neg c6]
  by_cases c7 : x.k = 7
  · rw [if_pos c7, if_pos c7]
    exact firm_word fun r a0 a1 => by rw [tok_esc a0]; simp only [Nat.zero_add]; rw [a1, if_neg (by decide), if_pos (by decide)]
  rw [if_neg c7, if_neg c7]
  have h12 := hb (by omega)
  have hB := firm_back x h12.1 h12.2
  by_cases cf : x.f = true
  · rw [if_pos cf, if_pos cf]
    exact ((firm_flag (c := 105) (.inl rfl)).app hB).app firm_close
  · rw [if_neg cf, if_neg cf]
    exact hB

/-- A text's first byte is no ? and no +. -/
def HeadB (p : ByteArray) : Prop := 0 < p.size ∧ bt p 0 ≠ 63 ∧ bt p 0 ≠ 43
theorem HeadB.app {p : ByteArray} (h : HeadB p) (q : ByteArray) : HeadB (p ++ q) := by
  have hz : (p ++ q).size = p.size + q.size := ByteArray.size_append
  refine ⟨by have := h.1; omega, ?_, ?_⟩ <;> rw [bt_left p q h.1]
  · exact h.2.1
  · exact h.2.2
theorem HeadB.in_ {p : ByteArray} (h : HeadB p) (b : Bool) : HeadB (inB b p) := by
  cases b with
  | false => exact h
  | true => exact HeadB.app (HeadB.app (p := ⟨#[40, 63, 58]⟩) ⟨by decide, by decide, by decide⟩ p) _
theorem open_head (k : Int) : HeadB (openB k) := by
  unfold openB
  repeat' split
  all_goals exact ⟨by decide, by decide, by decide⟩
theorem leaf_head (x : Nd) : HeadB (leafB x) := by
  unfold leafB
  repeat' split
  all_goals first
    | exact ⟨by decide, by decide, by decide⟩
    | exact ⟨set_pos _, set_head _⟩
    | exact HeadB.app (HeadB.app (p := ⟨#[40, 63, 105, 58]⟩) ⟨by decide, by decide, by decide⟩ _) _
    | exact HeadB.app (p := ⟨#[92]⟩) ⟨by decide, by decide, by decide⟩ _
/-- A tree's text is read as its tokens. -/
structure ShownOk (l : Nat → Nd) (j : Nat) : Prop where
  loose : Loose (showT l j) (tokT l j)
  firm : is8a (l (j - 1)).k = false → Firm (showT l j) (tokT l j)
  head : HeadB (showT l j)
theorem Loose.in_ {p : ByteArray} {a : List Tok} (h : Loose p a) : Firm (inB true p) (inT true a) := by
  have h1 : Firm (p ++ ⟨#[41]⟩) (a ++ [tok0 15]) := h.app firm_close (by decide) (by decide) (by decide)
  have h2 := firm_plain.app h1
  rw [← ByteArray.append_assoc] at h2
  exact h2
theorem ShownOk.in_ {j : Nat} (h : ShownOk l j) (b : Bool) : Loose (inB b (showT l j)) (inT b (tokT l j)) := by
  cases b with
  | false => exact h.loose
  | true => exact h.loose.in_.loose
theorem open_loose {k : Int} (hk : k = 11 ∨ 13 ≤ k ∧ k ≤ 17) : Loose (openB k) [tok0 (openK k)] := by
  unfold openB openK
  by_cases c : k = 11
  · rw [if_pos c, if_pos c]
    exact loose_of (by kernel_rfl)
  rw [if_neg c, if_neg c]
  have hk := hk.resolve_left c
  by_cases c : k = 13
  · rw [if_pos c, c]
    exact loose_of (by kernel_rfl)
  rw [if_neg c]
  by_cases c : k = 14
  · rw [if_pos c, c]
    exact loose_of (by kernel_rfl)
  rw [if_neg c]
  by_cases c : k = 15
  · rw [if_pos c, c]
    exact loose_of (by kernel_rfl)
  rw [if_neg c]
  by_cases c : k = 16
  · rw [if_pos c, c]
    exact loose_of (by kernel_rfl)
  rw [if_neg c, show k = 17 by omega]
  exact loose_of (by kernel_rfl)
theorem shown_ok : ∀ (m j : Nat), j ≤ m → (∀ i, i < j → (l i).k = 12 → 1 ≤ (l i).n ∧ (l i).n ≤ 9) → siz l j ≠ 0 → ShownOk l j := by
  intro m
  induction m with
  | zero => intro j hj _ h; obtain rfl : j = 0 := by omega
            exact absurd (by simp [siz, Ast.sizF]) h
  | succ m ih =>
    intro j hj hb h
    cases j with
    | zero => exact absurd (by simp [siz, Ast.sizF]) h
    | succ j =>
      have e1 : j + 1 - 1 = j := rfl
      obtain ⟨hf, ⟨hk, -⟩ | ⟨hk, h0, -⟩ | ⟨hk, h0, h1, -⟩⟩ := siz_pos h
      · have hF := leaf_firm (l j) hk hf (hb j (by omega))
        refine ⟨?_, fun _ => ?_, ?_⟩
        · rw [show_k0 hk, tok_k0 hk]; exact hF.loose
        · rw [show_k0 hk, tok_k0 hk]; exact hF
        · rw [show_k0 hk]; exact leaf_head _
      · have hA := ih j (by omega) (fun i hi => hb i (by omega)) h0
        by_cases h10 : (l j).k = 10
        · have hL := loose_often (l j) hf h10
          have hF : Firm (inB (is8a (l (j - 1)).k) (showT l j)) (inT (is8a (l (j - 1)).k) (tokT l j)) := by
            cases hx : is8a (l (j - 1)).k with
            | true => exact hA.loose.in_
            | false => exact hA.firm hx
          refine ⟨?_, fun h => ?_, ?_⟩
          · rw [show_k1 hk, tok_k1 hk, if_pos h10, if_pos h10, ByteArray.append_assoc]
            exact hF.appL hL
          · rw [e1, h10] at h; exact absurd h (by decide)
          · rw [show_k1 hk, if_pos h10]; exact ((hA.head.in_ _).app _).app _
        · have hkk := kids_1 hk
          have ho := open_loose (k := (l j).k) (by omega)
          have h2 : Firm (showT l j ++ ⟨#[41]⟩) (tokT l j ++ [tok0 15]) := hA.loose.app firm_close (by decide) (by decide) (by decide)
          have h3 := hA.head.app ⟨#[41]⟩
          have h4 := ho.app h2 h3.1 h3.2.1 h3.2.2
          rw [← ByteArray.append_assoc] at h4
          have h5 : Firm (showT l (j + 1)) (tokT l (j + 1)) := by
            rw [show_k1 hk, tok_k1 hk, if_neg h10, if_neg h10]
            exact h4
          refine ⟨h5.loose, fun _ => h5, ?_⟩
          rw [show_k1 hk, if_neg h10]; exact ((open_head _).app _).app _
      · have hB := ih j (by omega) (fun i hi => hb i (by omega)) h0
        have hA := ih (j - siz l j) (by omega) (fun i hi => hb i (by omega)) h1
        have hkk := kids_2 hk
        have hx : ¬ is8a (l (j + 1 - 1)).k = false := by rw [e1]; rcases hkk with e | e <;> (rw [e]; decide)
        refine ⟨?_, fun h => absurd h hx, ?_⟩
        · rw [show_k2 hk, tok_k2 hk]
          by_cases h8 : (l j).k = 8
          · rw [if_pos h8, if_pos h8]
            have hh := hB.head.in_ (is89 (l (j - 1)).k)
            exact (hA.in_ _).app' (hB.in_ _) hh.1 hh.2.1 hh.2.2
          · rw [if_neg h8, if_neg h8]
            have h2 : Firm (showT l (j - siz l j) ++ ⟨#[124]⟩) (tokT l (j - siz l j) ++ [tok0 6]) := hA.loose.app firm_bar (by decide) (by decide) (by decide)
            have h3 := h2.appL (hB.in_ (is9 (l (j - 1)).k))
            rw [List.append_assoc] at h3
            exact h3
        · rw [show_k2 hk]
          by_cases h8 : (l j).k = 8
          · rw [if_pos h8]; exact (hA.head.in_ _).app _
          · rw [if_neg h8]; exact (hA.head.app _).app _
/-- A tree that may be is shown, and parsed as it was. -/
theorem back_of {m : Nat} : ∀ {k : Nat}, Ast.backB l m k = true → ∀ i, i < k → (l i).k = 12 → 1 ≤ (l i).n ∧ (l i).n ≤ (m : Int)
  | 0, _, i, hi, _ => absurd hi (Nat.not_lt_zero _)
  | k + 1, h, i, hi, h12 => by
    rw [Ast.backB, Bool.and_eq_true] at h
    by_cases e : i = k
    · subst e
      have := h.2
      rw [if_pos h12] at this
      exact of_decide_eq_true this
    · exact back_of h.1 i (by omega) h12
theorem backs {n : Nat} (hr : rightZ l n = 0) : ∀ i, i < n → (l i).k = 12 → 1 ≤ (l i).n ∧ (l i).n ≤ 9 := by
  intro i hi h12
  obtain ⟨h0, hs, -, hsh, h500⟩ := right_whole hr
  have hg : Ast.groupsB l n = true := by
    unfold rightZ at hr
    rw [if_neg (by rw [hsh]; decide)] at hr
    by_cases h : Ast.groupsB l n = false
    · rw [if_pos h] at hr; exact absurd hr (by decide)
    · simpa using h
  unfold Ast.groupsB at hg
  rw [Bool.and_eq_true, Bool.and_eq_true] at hg
  have h1 := back_of hg.1.2 i hi h12
  have h2 := of_decide_eq_true hg.2
  omega
theorem show_back {n : Nat} (hl : LitOk l n) (hr : rightZ l n = 0) (hs : (showT l n).size ≤ 1000) : parseZ (showT l n) = (subT l n, 0) ∧ (subT l n).1 = n ∧ (∀ i, i < n → (subT l n).2 i = l i) ∧ 0 < (showT l n).size := by
  obtain ⟨h0, hsz, -, -, -⟩ := right_whole hr
  have hO := shown_ok n n (Nat.le_refl _) (backs hr) (by omega)
  have hx := hO.loose.lex hs
  obtain ⟨h1, h2, h3⟩ := parse_of_tok hl hr hx
  exact ⟨h1, h2, h3, hO.head.1⟩
/-- Trees that are alike, node by node, are shown alike. -/
theorem show_same {l l' : Nat → Nd} {n : Nat} (h : ∀ i, i < n → l' i = l i) : ∀ j, j ≤ n → showT l' j = showT l j := by
  have hL : ∀ i, i < n → Like (l i) (l' i) := fun i hi => by rw [h i hi]; exact ⟨rfl, rfl, rfl, rfl, rfl, rfl, rfl⟩
  intro j
  induction j using Nat.strongRecOn with
  | _ j ih =>
    intro hj
    cases j with
    | zero => rfl
    | succ i =>
      have e1 := ih i (by omega) (by omega)
      have e2 := ih (i - siz l i) (by omega) (by omega)
      have e3 := h i (by omega)
      by_cases k0 : kidsZ (l i).k = 0
      · rw [show_k0 (l := l') (by rw [e3]; exact k0), show_k0 k0, e3]
      · by_cases k1 : kidsZ (l i).k = 1
        · rw [show_k1 (l := l') (by rw [e3]; exact k1), show_k1 k1, e3, h (i - 1) (by omega), e1]
        · have k2 : kidsZ (l i).k = 2 := by
            unfold kidsZ at k0 k1 ⊢
            repeat' split
            all_goals first | rfl | (exfalso; simp_all)
          rw [show_k2 (l := l') (by rw [e3]; exact k2), show_k2 k2, e3, like_siz hL i (by omega), h (i - 1) (by omega), h (i - siz l i - 1) (by omega), e1, e2]
end Go.Proofs.YtfejdengpnikeaaGreatDoor
