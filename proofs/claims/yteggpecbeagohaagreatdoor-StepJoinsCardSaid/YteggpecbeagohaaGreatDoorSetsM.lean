import Derived.WalkKit
import Derived.Laws.BitsAllLaws
import Derived.Laws.Rows
namespace Go.Proofs.YteggpecbeagohaaGreatDoor
def W (S : BitVec 256) (i : Nat) : Nat := S.toNat / 2 ^ (64 * i) % 2 ^ 64
abbrev setV (S : BitVec 256) : Value := .agg #[.int .u64 (W S 0), .int .u64 (W S 1), .int .u64 (W S 2), .int .u64 (W S 3)]
def mem (S : BitVec 256) (n : Nat) : Bool := S.getLsbD n
theorem W_lt (S : BitVec 256) (i : Nat) : W S i < 18446744073709551616 := Nat.mod_lt _ (by decide)
theorem W_bit (S : BitVec 256) (i k : Nat) : (W S i).testBit k = (decide (k < 64) && S.getLsbD (64 * i + k)) := by
 unfold W
 rw [Nat.testBit_mod_two_pow, Nat.testBit_div_two_pow, BitVec.getLsbD, Nat.add_comm k]
theorem bit_W (S : BitVec 256) (n : Nat) : (W S (n / 64)).testBit (n % 64) = S.getLsbD n := by
 rw [W_bit, decide_eq_true (Nat.mod_lt _ (by decide)), Bool.true_and, Nat.div_add_mod]
theorem eq_of_W {S T : BitVec 256} (h0 : W S 0 = W T 0) (h1 : W S 1 = W T 1) (h2 : W S 2 = W T 2) (h3 : W S 3 = W T 3) : S = T := by
 apply BitVec.eq_of_getLsbD_eq
 intro n hn
 rw [← bit_W, ← bit_W]
 rcases (show n / 64 = 0 ∨ n / 64 = 1 ∨ n / 64 = 2 ∨ n / 64 = 3 by omega) with h | h | h | h <;> rw [h]
 ·rw [h0]
 ·rw [h1]
 ·rw [h2]
 ·rw [h3]
theorem W_ext {S : BitVec 256} {i x : Nat} (hx : x < 18446744073709551616) (h : ∀ k, k < 64 → x.testBit k = S.getLsbD (64 * i + k)) : x = W S i := by
 apply Nat.eq_of_testBit_eq
 intro k
 rw [W_bit]
 by_cases hk : k < 64
 ·rw [h k hk]; simp [hk]
 ·have : x.testBit k = false := Nat.testBit_lt_two_pow (Nat.lt_of_lt_of_le hx (Nat.pow_le_pow_right (n := 2) (by decide) (Nat.le_of_not_lt hk)))
  simp [this, hk]
theorem or_lt64 {a b : Nat} (ha : a < 18446744073709551616) (hb : b < 18446744073709551616) : a ||| b < 18446744073709551616 := Nat.or_lt_two_pow (n := 64) ha hb
theorem W_or (S T : BitVec 256) (i : Nat) : bits .or .u64 (W S i : Int) (W T i : Int) = (W (S ||| T) i : Int) := by
 rw [u64_or_nat _ _ (W_lt _ _) (W_lt _ _)]
 congr 1
 exact W_ext (or_lt64 (W_lt _ _) (W_lt _ _)) fun k hk => by simp [W_bit, hk]
theorem W_and (S T : BitVec 256) (i : Nat) : bits .and .u64 (W S i : Int) (W T i : Int) = (W (S &&& T) i : Int) := by
 rw [u64_and_nat _ _ (W_lt _ _) (W_lt _ _)]
 congr 1
 exact W_ext (Nat.lt_of_le_of_lt Nat.and_le_left (W_lt _ _)) fun k hk => by simp [W_bit, hk]
theorem W_not (S : BitVec 256) (i : Nat) (hi : i < 4) : bits .xor .u64 IntKind.u64.max (W S i : Int) = (W (~~~S) i : Int) := by
 have e : IntKind.u64.max = ((18446744073709551615 : Nat) : Int) := by decide
 rw [e, u64_xor_nat _ _ (by decide) (W_lt _ _)]
 congr 1
 refine W_ext (Nat.xor_lt_two_pow (n := 64) (by decide) (W_lt _ _)) fun k hk => ?_
 have hm : (18446744073709551615 : Nat).testBit k = true := by
  have := Nat.testBit_two_pow_sub_one 64 k
  simpa [hk] using this
 rw [Nat.testBit_xor, hm, W_bit]
 simp [hk, show 64 * i + k < 256 by omega]
def addB (S : BitVec 256) (n : Nat) : BitVec 256 := S ||| BitVec.twoPow 256 n
theorem addB_bit (S : BitVec 256) (n k : Nat) (hn : n < 256) : (addB S n).getLsbD k = (S.getLsbD k || decide (n = k)) := by
 simp [addB, BitVec.getLsbD_twoPow, hn]
theorem pow_lt64 (r : Nat) (hr : r < 64) : 2 ^ r < 18446744073709551616 := Nat.pow_lt_pow_right (a := 2) (by decide) hr
theorem wrap_pow (r : Nat) (hr : r < 64) : IntKind.u64.wrap ((2 : Int) ^ r) = ((2 ^ r : Nat) : Int) := by
 rw [IntKind.wrap_u64]
 have h := pow_lt64 r hr
 have e : ((2 : Int) ^ r) = ((2 ^ r : Nat) : Int) := by simp
 rw [e]
 generalize 2 ^ r = x at h
 omega
theorem W_addB (S : BitVec 256) (n : Int) (h0 : 0 ≤ n) (h1 : n < 256) (i : Nat) (hi : n / 64 = i) :
  bits .or .u64 (W S i : Int) (IntKind.u64.wrap (2 ^ (n % 64).toNat)) = (W (addB S n.toNat) i : Int) := by
 rw [wrap_pow _ (by omega), u64_or_nat _ _ (W_lt _ _) (pow_lt64 _ (by omega))]
 congr 1
 refine W_ext (or_lt64 (W_lt _ _) (pow_lt64 _ (by omega))) fun k hk => ?_
 rw [Nat.testBit_or, W_bit, Nat.testBit_two_pow, addB_bit _ _ _ (by omega)]
 simp only [hk, decide_true, Bool.true_and]
 congr 1
 apply decide_eq_decide.2
 omega
theorem W_addB_other (S : BitVec 256) (n : Int) (h0 : 0 ≤ n) (h1 : n < 256) (i : Nat) (hi : n / 64 ≠ i) : W (addB S n.toNat) i = W S i := by
 refine (W_ext (W_lt _ _) fun k hk => ?_).symm
 rw [W_bit, addB_bit _ _ _ (by omega)]
 have : ¬ n.toNat = 64 * i + k := by omega
 simp [hk, this]
theorem has_bit (S : BitVec 256) (n : Int) (h0 : 0 ≤ n) (i : Nat) (hi : n / 64 = i) :
  (bits .and .u64 ((W S i : Int) / 2 ^ (n % 64).toNat) 1 == 1) = S.getLsbD n.toNat := by
 have e : (W S i : Int) / 2 ^ (n % 64).toNat = ((W S i / 2 ^ (n % 64).toNat : Nat) : Int) := by simp
 rw [e, show (1 : Int) = ((1 : Nat) : Int) from rfl, u64_and_nat _ _ (Nat.lt_of_le_of_lt (Nat.div_le_self _ _) (W_lt _ _)) (by decide), nat_mask1]
 have hb : (W S i).testBit (n % 64).toNat = S.getLsbD n.toNat := by
  have h := bit_W S n.toNat
  rw [show n.toNat / 64 = i by omega, show n.toNat % 64 = (n % 64).toNat by omega] at h
  exact h
 rw [← hb, Nat.testBit_eq_decide_div_mod_eq, Bool.eq_iff_iff]
 simp only [beq_iff_eq, decide_eq_true_eq]
 omega
theorem W_zero (i : Nat) : W 0#256 i = 0 := by simp [W]
theorem eq_words (S T : BitVec 256) : (((W S 0 : Int) == (W T 0 : Int)) && ((W S 1 : Int) == (W T 1 : Int)) && ((W S 2 : Int) == (W T 2 : Int)) && ((W S 3 : Int) == (W T 3 : Int))) = decide (S = T) := by
 rw [Bool.eq_iff_iff]
 simp only [Bool.and_eq_true, beq_iff_eq, decide_eq_true_eq]
 constructor
 ·rintro ⟨⟨⟨h0, h1⟩, h2⟩, h3⟩
  exact eq_of_W (by omega) (by omega) (by omega) (by omega)
 ·rintro rfl
  simp
end Go.Proofs.YteggpecbeagohaaGreatDoor
namespace Go.Proofs.YteggpecbeagohaaGreatDoor
def upTo (p : Nat → Bool) : Nat → BitVec 256
 | 0 => 0#256
 | m + 1 => if p m then addB (upTo p m) m else upTo p m
def ofPred (p : Nat → Bool) : BitVec 256 := upTo p 256
theorem upTo_bit (p : Nat → Bool) : ∀ (m : Nat), m ≤ 256 → ∀ k, (upTo p m).getLsbD k = (decide (k < m) && p k)
 | 0, _, k => by simp [upTo]
 | m + 1, h, k => by
   have ih := upTo_bit p m (by omega) k
   unfold upTo
   by_cases hk : m = k
   ·subst hk
    by_cases hp : p m = true
    ·rw [if_pos hp, addB_bit _ _ _ (by omega)]; simp [hp]
    ·rw [if_neg hp, ih]; simp at hp; simp [hp]
   ·have e : decide (k < m + 1) = decide (k < m) := by apply decide_eq_decide.2; omega
    rw [e]
    by_cases hp : p m = true
    ·rw [if_pos hp, addB_bit _ _ _ (by omega), ih]; simp [hk]
    ·rw [if_neg hp, ih]
theorem ofPred_bit (p : Nat → Bool) (k : Nat) : (ofPred p).getLsbD k = (decide (k < 256) && p k) := upTo_bit p 256 (Nat.le_refl _) k
theorem ext_bit {S T : BitVec 256} (h : ∀ k, k < 256 → S.getLsbD k = T.getLsbD k) : S = T := BitVec.eq_of_getLsbD_eq h
def span (a k : Nat) : BitVec 256 := ofPred fun n => decide (a ≤ n) && decide (n < k)
theorem span_bit (a k n : Nat) : (span a k).getLsbD n = (decide (n < 256) && (decide (a ≤ n) && decide (n < k))) := ofPred_bit _ _
theorem span_none (a k : Nat) (h : k ≤ a) : span a k = 0#256 := by
 apply ext_bit
 intro n _
 rw [span_bit]
 by_cases h1 : a ≤ n
 ·have : ¬ n < k := by omega
  simp [this]
 ·simp [h1]
theorem span_add (a k : Nat) (h : a ≤ k) (hk : k < 256) : addB (span a k) k = span a (k + 1) := by
 apply ext_bit
 intro n hn
 rw [addB_bit _ _ _ hk, span_bit, span_bit]
 by_cases e : k = n
 ·subst e; simp [h, hn]
 ·have : decide (n < k + 1) = decide (n < k) := by apply decide_eq_decide.2; omega
  simp [this, e]
def ofBytes (l : List UInt8) : BitVec 256 := l.foldl (fun S c => addB S c.toNat) 0#256
def pair (i : Nat) : BitVec 256 := addB 0#256 (97 + i) ||| addB 0#256 (65 + i)
def foldStep (S : BitVec 256) (F : BitVec 256) (i : Nat) : BitVec 256 := if S &&& pair i = 0#256 then F else F ||| pair i
def foldTo (S : BitVec 256) : Nat → BitVec 256
 | 0 => S
 | i + 1 => foldStep S (foldTo S i) i
def foldS (S : BitVec 256) : BitVec 256 := foldTo S 26
end Go.Proofs.YteggpecbeagohaaGreatDoor
namespace Go.Proofs.YteggpecbeagohaaGreatDoor
def cntTo (f : Nat → Bool) : Nat → Nat
 | 0 => 0
 | n + 1 => cntTo f n + (f n).toNat
theorem cntTo_add (f : Nat → Bool) (a : Nat) : ∀ b, cntTo f (a + b) = cntTo f a + cntTo (fun k => f (a + k)) b
 | 0 => rfl
 | b + 1 => by rw [← Nat.add_assoc]; simp only [cntTo]; rw [cntTo_add f a b]; omega
theorem cntTo_congr {f g : Nat → Bool} : ∀ n, (∀ k, k < n → f k = g k) → cntTo f n = cntTo g n
 | 0, _ => rfl
 | n + 1, h => by simp only [cntTo]; rw [cntTo_congr n (fun k hk => h k (by omega)), h n (by omega)]
theorem cntTo_le (f : Nat → Bool) : ∀ n, cntTo f n ≤ n
 | 0 => Nat.le_refl _
 | n + 1 => by simp only [cntTo]; have := cntTo_le f n; have := Bool.toNat_le (f n); omega
def lanes (B : Nat) : List Nat → Nat
 | [] => 0
 | v :: t => v + B * lanes B t
def bitsOf : Nat → Nat → List Nat
 | 0, _ => []
 | n + 1, x => x % 2 :: bitsOf n (x / 2)
theorem lanes_bits : ∀ (n x : Nat), x < 2 ^ n → lanes 2 (bitsOf n x) = x
 | 0, x, h => by simp at h; simp [bitsOf, lanes, h]
 | n + 1, x, h => by
   simp only [bitsOf, lanes]
   rw [lanes_bits n (x / 2) (by rw [Nat.pow_succ] at h; omega)]
   omega
theorem bitsOf_length : ∀ (n x : Nat), (bitsOf n x).length = n
 | 0, _ => rfl
 | n + 1, x => by simp [bitsOf, bitsOf_length n]
theorem bitsOf_le : ∀ (n x : Nat), ∀ v ∈ bitsOf n x, v ≤ 1
 | 0, _ => by simp [bitsOf]
 | n + 1, x => by
   intro v hv
   simp only [bitsOf, List.mem_cons] at hv
   rcases hv with rfl | hv
   ·omega
   ·exact bitsOf_le n _ v hv
theorem bitsOf_sum : ∀ (n x : Nat), (bitsOf n x).sum = cntTo x.testBit n
 | 0, _ => rfl
 | n + 1, x => by
   simp only [bitsOf, List.sum_cons]
   rw [bitsOf_sum n (x / 2), Nat.add_comm n 1, cntTo_add]
   have e : (fun k => x.testBit (1 + k)) = (x / 2).testBit := by
    funext k; rw [Nat.add_comm, Nat.testBit_succ]
   rw [e]
   simp only [cntTo, Nat.testBit_zero, Nat.zero_add]
   congr 1
   rcases Nat.mod_two_eq_zero_or_one x with h | h <;> simp [h]
def evens : List Nat → List Nat
 | a :: _ :: t => a :: evens t
 | _ => []
def merged : List Nat → List Nat
 | a :: b :: t => (a + b) :: merged t
 | _ => []
def mask (B : Nat) : Nat → Nat
 | 0 => 0
 | n + 1 => (B - 1) + B * B * mask B n
theorem and_split (p u v X M : Nat) (hu : u < 2 ^ p) (hv : v < 2 ^ p) : (u + 2 ^ p * X) &&& (v + 2 ^ p * M) = (u &&& v) + 2 ^ p * (X &&& M) := by
 have hp : 0 < 2 ^ p := Nat.pow_pos (by decide)
 have m1 : (u + 2 ^ p * X) % 2 ^ p = u := by rw [Nat.add_mul_mod_self_left]; exact Nat.mod_eq_of_lt hu
 have m2 : (v + 2 ^ p * M) % 2 ^ p = v := by rw [Nat.add_mul_mod_self_left]; exact Nat.mod_eq_of_lt hv
 have d1 : (u + 2 ^ p * X) / 2 ^ p = X := by rw [Nat.add_mul_div_left _ _ hp, Nat.div_eq_of_lt hu, Nat.zero_add]
 have d2 : (v + 2 ^ p * M) / 2 ^ p = M := by rw [Nat.add_mul_div_left _ _ hp, Nat.div_eq_of_lt hv, Nat.zero_add]
 have h := Nat.mod_add_div ((u + 2 ^ p * X) &&& (v + 2 ^ p * M)) (2 ^ p)
 rw [Nat.and_mod_two_pow, Nat.and_div_two_pow, m1, m2, d1, d2] at h
 exact h.symm
theorem and_mask (b : Nat) : ∀ (n : Nat) (l : List Nat), l.length = 2 * n → (∀ v ∈ l, v < 2 ^ b) → lanes (2 ^ b) l &&& mask (2 ^ b) n = lanes (2 ^ b * 2 ^ b) (evens l)
 | 0, l, h, _ => by
   have : l = [] := List.length_eq_zero_iff.1 (by omega)
   subst this; simp [lanes, mask, evens]
 | n + 1, [], h, _ => by simp at h
 | n + 1, [_], h, _ => by simp at h; omega
 | n + 1, a :: c :: t, h, hv => by
   have ha : a < 2 ^ b := hv a (by simp)
   have hc : c < 2 ^ b := hv c (by simp)
   have ih := and_mask b n t (by simp at h; omega) (fun v hm => hv v (by simp [hm]))
   have hB : 0 < 2 ^ b := Nat.pow_pos (by decide)
   have e1 : lanes (2 ^ b) (a :: c :: t) = (a + 2 ^ b * c) + 2 ^ (b + b) * lanes (2 ^ b) t := by
    simp only [lanes]; rw [Nat.pow_add, Nat.mul_add, Nat.mul_assoc]; omega
   have e2 : mask (2 ^ b) (n + 1) = (2 ^ b - 1) + 2 ^ (b + b) * mask (2 ^ b) n := by simp only [mask]; rw [Nat.pow_add]
   have hu : a + 2 ^ b * c < 2 ^ (b + b) := by
    rw [Nat.pow_add]
    have h1 : 2 ^ b * c ≤ 2 ^ b * (2 ^ b - 1) := Nat.mul_le_mul_left _ (by omega)
    have h2 : 2 ^ b * (2 ^ b - 1) = 2 ^ b * 2 ^ b - 2 ^ b := by rw [Nat.mul_sub, Nat.mul_one]
    have h3 : 2 ^ b ≤ 2 ^ b * 2 ^ b := Nat.le_mul_of_pos_left _ hB
    omega
   have hv' : 2 ^ b - 1 < 2 ^ (b + b) := by
    have : 2 ^ b ≤ 2 ^ (b + b) := Nat.pow_le_pow_right (by decide) (by omega)
    omega
   rw [e1, e2, and_split _ _ _ _ _ hu hv', ih, Nat.and_two_pow_sub_one_eq_mod, Nat.add_mul_mod_self_left, Nat.mod_eq_of_lt ha]
   simp only [evens, lanes]
   rw [Nat.pow_add]
theorem lanes_pad (B : Nat) : ∀ l, lanes B (l ++ [0]) = lanes B l
 | [] => by simp [lanes]
 | v :: t => by simp only [List.cons_append, lanes]; rw [lanes_pad B t]
theorem evens_add (B : Nat) : ∀ (n : Nat) (l : List Nat), l.length = 2 * n → lanes B (evens (l.tail ++ [0])) + lanes B (evens l) = lanes B (merged l)
 | 0, l, h => by
   have : l = [] := List.length_eq_zero_iff.1 (by omega)
   subst this; simp [lanes, evens, merged]
 | n + 1, [], h => by simp at h
 | n + 1, [_], h => by simp at h; omega
 | n + 1, a :: c :: t, h => by
   have ih := evens_add B n t (by simp at h; omega)
   match t, n, h, ih with
   | [], n, _, _ => simp [evens, merged, lanes]; omega
   | d :: t', n, _, ih =>
     simp only [List.tail_cons, List.cons_append, evens, merged, lanes] at ih ⊢
     rw [← ih, Nat.mul_add]
     omega
theorem shift_lanes (B : Nat) (hB : 0 < B) (l : List Nat) (hv : ∀ v ∈ l, v < B) : lanes B l / B = lanes B (l.tail ++ [0]) := by
 rw [lanes_pad]
 cases l with
 | nil => simp [lanes]
 | cons a t =>
   have := hv a (by simp)
   simp only [lanes, List.tail_cons]
   rw [Nat.add_mul_div_left _ _ hB, Nat.div_eq_of_lt this, Nat.zero_add]
theorem tail_pad_length {l : List Nat} {n : Nat} (h : l.length = 2 * n) (hn : 0 < n) : (l.tail ++ [0]).length = 2 * n := by simp; omega
theorem tail_pad_lt {l : List Nat} {B : Nat} (hB : 0 < B) (hv : ∀ v ∈ l, v < B) : ∀ v ∈ l.tail ++ [0], v < B := by
 intro v hm
 rw [List.mem_append] at hm
 rcases hm with hm | hm
 ·exact hv v (List.mem_of_mem_tail hm)
 ·simp at hm; omega
theorem step_pairs (b n : Nat) (hn : 0 < n) (l : List Nat) (hl : l.length = 2 * n) (hv : ∀ v ∈ l, v < 2 ^ b) :
  (lanes (2 ^ b) l / 2 ^ b &&& mask (2 ^ b) n) + (lanes (2 ^ b) l &&& mask (2 ^ b) n) = lanes (2 ^ b * 2 ^ b) (merged l) := by
 have hB : 0 < 2 ^ b := Nat.pow_pos (by decide)
 rw [shift_lanes _ hB _ hv, and_mask b n _ (tail_pad_length hl hn) (tail_pad_lt hB hv), and_mask b n l hl hv, evens_add _ n l hl]
theorem merged_length : ∀ (n : Nat) (l : List Nat), l.length = 2 * n → (merged l).length = n
 | 0, l, h => by
   have : l = [] := List.length_eq_zero_iff.1 (by omega)
   subst this; rfl
 | n + 1, [], h => by simp at h
 | n + 1, [_], h => by simp at h; omega
 | n + 1, _ :: _ :: t, h => by simp [merged, merged_length n t (by simp at h; omega)]
theorem merged_sum : ∀ (n : Nat) (l : List Nat), l.length = 2 * n → (merged l).sum = l.sum
 | 0, l, h => by
   have : l = [] := List.length_eq_zero_iff.1 (by omega)
   subst this; rfl
 | n + 1, [], h => by simp at h
 | n + 1, [_], h => by simp at h; omega
 | n + 1, a :: c :: t, h => by simp only [merged, List.sum_cons]; rw [merged_sum n t (by simp at h; omega)]; omega
theorem merged_le (m : Nat) : ∀ (n : Nat) (l : List Nat), l.length = 2 * n → (∀ v ∈ l, v ≤ m) → ∀ v ∈ merged l, v ≤ m + m
 | 0, l, h, _ => by
   have : l = [] := List.length_eq_zero_iff.1 (by omega)
   subst this; simp [merged]
 | n + 1, [], h, _ => by simp at h
 | n + 1, [_], h, _ => by simp at h; omega
 | n + 1, a :: c :: t, h, hv => by
   intro v hm
   simp only [merged, List.mem_cons] at hm
   have ha := hv a (by simp)
   have hc := hv c (by simp)
   rcases hm with rfl | hm
   ·omega
   ·exact merged_le m n t (by simp at h; omega) (fun v hm => hv v (by simp [hm])) v hm
def zipAdd : List Nat → List Nat → List Nat
 | a :: s, c :: t => (a + c) :: zipAdd s t
 | _, _ => []
theorem lanes_zip (B : Nat) : ∀ (s t : List Nat), s.length = t.length → lanes B s + lanes B t = lanes B (zipAdd s t)
 | [], [], _ => rfl
 | [], _ :: _, h => by simp at h
 | _ :: _, [], h => by simp at h
 | a :: s, c :: t, h => by simp only [lanes, zipAdd]; rw [← lanes_zip B s t (by simpa using h), Nat.mul_add]; omega
theorem zip_length : ∀ (s t : List Nat), s.length = t.length → (zipAdd s t).length = t.length
 | [], [], _ => rfl
 | [], _ :: _, h => by simp at h
 | _ :: _, [], h => by simp at h
 | a :: s, c :: t, h => by simp [zipAdd, zip_length s t (by simpa using h)]
theorem zip_le (m : Nat) : ∀ (s t : List Nat), (∀ v ∈ s, v ≤ m) → (∀ v ∈ t, v ≤ m) → ∀ v ∈ zipAdd s t, v ≤ m + m
 | [], _, _, _ => by simp [zipAdd]
 | _ :: _, [], _, _ => by simp [zipAdd]
 | a :: s, c :: t, hs, ht => by
   intro v hm
   simp only [zipAdd, List.mem_cons] at hm
   have ha := hs a (by simp)
   have hc := ht c (by simp)
   rcases hm with rfl | hm
   ·omega
   ·exact zip_le m s t (fun v h => hs v (by simp [h])) (fun v h => ht v (by simp [h])) v hm
theorem evens_zip : ∀ (n : Nat) (l : List Nat), l.length = 2 * n → evens (zipAdd (l.tail ++ [0]) l) = merged l
 | 0, l, h => by
   have : l = [] := List.length_eq_zero_iff.1 (by omega)
   subst this; simp [zipAdd, evens, merged]
 | n + 1, [], h => by simp at h
 | n + 1, [_], h => by simp at h; omega
 | n + 1, a :: c :: t, h => by
   have ih := evens_zip n t (by simp at h; omega)
   match t, n, h, ih with
   | [], n, _, _ => simp [evens, merged, zipAdd]; omega
   | d :: t', n, _, ih =>
     simp only [List.tail_cons, List.cons_append, zipAdd, evens, merged] at ih ⊢
     rw [ih, Nat.add_comm c a]
theorem step_sum (b n m : Nat) (hn : 0 < n) (l : List Nat) (hl : l.length = 2 * n) (hv : ∀ v ∈ l, v ≤ m) (hm : m + m < 2 ^ b) :
  (lanes (2 ^ b) l / 2 ^ b + lanes (2 ^ b) l) &&& mask (2 ^ b) n = lanes (2 ^ b * 2 ^ b) (merged l) ∧ lanes (2 ^ b) l / 2 ^ b + lanes (2 ^ b) l = lanes (2 ^ b) (zipAdd (l.tail ++ [0]) l) := by
 have hB : 0 < 2 ^ b := Nat.pow_pos (by decide)
 have hv' : ∀ v ∈ l, v < 2 ^ b := fun v h => by have := hv v h; omega
 have len : (l.tail ++ [0]).length = l.length := by rw [tail_pad_length hl hn, hl]
 have e : lanes (2 ^ b) l / 2 ^ b + lanes (2 ^ b) l = lanes (2 ^ b) (zipAdd (l.tail ++ [0]) l) := by
  rw [shift_lanes _ hB _ hv', lanes_zip _ _ _ len]
 refine ⟨?_, e⟩
 rw [e, and_mask b n _ (by rw [zip_length _ _ len, hl]) ?_, evens_zip n l hl]
 intro v h
 have := zip_le m _ _ (fun v h => by
  rw [List.mem_append] at h
  rcases h with h | h
  ·exact hv v (List.mem_of_mem_tail h)
  ·simp at h; omega) hv v h
 omega
theorem lanes_lt (B : Nat) (m : Nat) (hm : m < B) : ∀ (l : List Nat), (∀ v ∈ l, v ≤ m) → lanes B l < B ^ l.length
 | [], _ => by simp [lanes]
 | a :: t, hv => by
   have ih := lanes_lt B m hm t (fun v h => hv v (by simp [h]))
   have ha := hv a (by simp)
   simp only [lanes, List.length_cons]
   rw [Nat.pow_succ, Nat.mul_comm _ B]
   have : B * lanes B t ≤ B * (B ^ t.length - 1) := Nat.mul_le_mul_left _ (by omega)
   have h2 : B * (B ^ t.length - 1) = B * B ^ t.length - B := by rw [Nat.mul_sub, Nat.mul_one]
   have h3 : B ≤ B * B ^ t.length := Nat.le_mul_of_pos_right _ (Nat.pow_pos (by omega))
   omega
def pop (x : Nat) : Nat := cntTo x.testBit 64
def pop1 (x : Nat) : Nat := (x / 2 &&& 6148914691236517205) + (x &&& 6148914691236517205)
def pop2 (x : Nat) : Nat := (x / 4 &&& 3689348814741910323) + (x &&& 3689348814741910323)
def pop3 (x : Nat) : Nat := (x / 16 + x) &&& 1085102592571150095
theorem pop_steps (x : Nat) (hx : x < 18446744073709551616) : ∃ v0 v1 v2 v3 v4 v5 v6 v7 : Nat,
  pop1 x < 18446744073709551616 ∧ pop2 (pop1 x) < 18446744073709551616 ∧ pop2 (pop1 x) / 16 + pop2 (pop1 x) < 18446744073709551616 ∧
  pop3 (pop2 (pop1 x)) = v0 + 256 * (v1 + 256 * (v2 + 256 * (v3 + 256 * (v4 + 256 * (v5 + 256 * (v6 + 256 * v7)))))) ∧
  v0 ≤ 8 ∧ v1 ≤ 8 ∧ v2 ≤ 8 ∧ v3 ≤ 8 ∧ v4 ≤ 8 ∧ v5 ≤ 8 ∧ v6 ≤ 8 ∧ v7 ≤ 8 ∧ v0 + v1 + v2 + v3 + v4 + v5 + v6 + v7 = pop x := by
 have l0 := bitsOf_length 64 x
 have b0 := bitsOf_le 64 x
 have e0 : lanes (2 ^ 1) (bitsOf 64 x) = x := lanes_bits 64 x hx
 have s1 := step_pairs 1 32 (by decide) (bitsOf 64 x) (by omega) (fun v h => by have := b0 v h; omega)
 rw [e0, show mask (2 ^ 1) 32 = 6148914691236517205 by decide +kernel, show (2 : Nat) ^ 1 * 2 ^ 1 = 2 ^ 2 by decide] at s1
 have l1 := merged_length 32 (bitsOf 64 x) (by omega)
 have b1 := merged_le 1 32 (bitsOf 64 x) (by omega) b0
 have t1 := merged_sum 32 (bitsOf 64 x) (by omega)
 have p1 : pop1 x = lanes (2 ^ 2) (merged (bitsOf 64 x)) := s1
 have k1 := lanes_lt (2 ^ 2) 2 (by decide) _ b1
 rw [l1, ← p1] at k1
 have s2 := step_pairs 2 16 (by decide) (merged (bitsOf 64 x)) (by omega) (fun v h => by have := b1 v h; omega)
 rw [← p1, show mask (2 ^ 2) 16 = 3689348814741910323 by decide +kernel, show (2 : Nat) ^ 2 * 2 ^ 2 = 2 ^ 4 by decide] at s2
 have l2 := merged_length 16 (merged (bitsOf 64 x)) (by omega)
 have b2 := merged_le 2 16 (merged (bitsOf 64 x)) (by omega) b1
 have t2 := merged_sum 16 (merged (bitsOf 64 x)) (by omega)
 have p2 : pop2 (pop1 x) = lanes (2 ^ 4) (merged (merged (bitsOf 64 x))) := s2
 have k2 := lanes_lt (2 ^ 4) 4 (by decide) _ b2
 rw [l2, ← p2] at k2
 have s3 := step_sum 4 8 4 (by decide) (merged (merged (bitsOf 64 x))) (by omega) b2 (by decide)
 rw [← p2, show mask (2 ^ 4) 8 = 1085102592571150095 by decide +kernel, show (2 : Nat) ^ 4 * 2 ^ 4 = 256 by decide] at s3
 have l3 := merged_length 8 (merged (merged (bitsOf 64 x))) (by omega)
 have b3 := merged_le 4 8 (merged (merged (bitsOf 64 x))) (by omega) b2
 have t3 := merged_sum 8 (merged (merged (bitsOf 64 x))) (by omega)
 have p3 : pop3 (pop2 (pop1 x)) = lanes 256 (merged (merged (merged (bitsOf 64 x)))) := s3.1
 have k3 : pop2 (pop1 x) / 16 + pop2 (pop1 x) < 18446744073709551616 := by
  have hz := lanes_lt (2 ^ 4) 8 (by decide) (zipAdd ((merged (merged (bitsOf 64 x))).tail ++ [0]) (merged (merged (bitsOf 64 x)))) (zip_le 4 _ _ (fun v h => by
   rw [List.mem_append] at h
   rcases h with h | h
   ·exact b2 v (List.mem_of_mem_tail h)
   ·simp at h; omega) b2)
  have len : ((merged (merged (bitsOf 64 x))).tail ++ [0]).length = (merged (merged (bitsOf 64 x))).length := by rw [tail_pad_length (n := 8) (by omega) (by decide), l2]
  rw [zip_length _ _ len, l2, ← s3.2] at hz
  exact hz
 have tt : (merged (merged (merged (bitsOf 64 x)))).sum = pop x := by rw [t3, t2, t1, bitsOf_sum]; rfl
 rw [p3]
 generalize merged (merged (merged (bitsOf 64 x))) = l at l3 b3 tt
 match l, l3, b3, tt with
 | [v0, v1, v2, v3, v4, v5, v6, v7], _, b3, tt =>
   refine ⟨v0, v1, v2, v3, v4, v5, v6, v7, k1, k2, k3, by simp [lanes], b3 v0 (by simp), b3 v1 (by simp), b3 v2 (by simp), b3 v3 (by simp), b3 v4 (by simp), b3 v5 (by simp), b3 v6 (by simp), b3 v7 (by simp), ?_⟩
   rw [← tt]; simp; omega
end Go.Proofs.YteggpecbeagohaaGreatDoor
namespace Go.Proofs.YteggpecbeagohaaGreatDoor
end Go.Proofs.YteggpecbeagohaaGreatDoor
namespace Go.Proofs.YteggpecbeagohaaGreatDoor
open Go.RowKit
end Go.Proofs.YteggpecbeagohaaGreatDoor
