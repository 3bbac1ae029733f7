/-
  Layer 6, mathematics: the tokens of a pattern, as the document's answer goes through them.
-/
import Derived.Test.YtlcecblehffjiaaDoorLexStart
import Derived.Test.YtlcecblehffjiaaDoorRefE
namespace Go.Proofs.YtlcecblehffjiaaDoor

/-- A token. -/
structure Tok where
  k : Int
  S : BitVec 256
  mn : Int
  mx : Int
  md : Int
  n : Int
  f : ByteArray
def tok0 (k : Int) : Tok := ⟨k, 0#256, 0, 0, 0, 0, ByteArray.empty⟩
/-- A token and the place behind, or what is wrong. -/
abbrev TokR := Tok × Nat × Int
def wrongT (e : Int) : TokR := (tok0 0, 0, e)
def isD (p : ByteArray) (i : Nat) : Bool := decide (48 ≤ bt p i ∧ bt p i ≤ 57)
/-- The number at a place, of at most three digits, and the place behind. -/
def countZ (p : ByteArray) (i : Nat) : Nat × Nat :=
  if isD p i = false then (0, i) else if isD p (i + 1) = false then (bt p i - 48, i + 1)
  else if isD p (i + 2) = false then (10 * (bt p i - 48) + (bt p (i + 1) - 48), i + 2)
  else (10 * (10 * (bt p i - 48) + (bt p (i + 1) - 48)) + (bt p (i + 2) - 48), i + 3)
def bracesZ (p : ByteArray) (i : Nat) : TokR :=
  let a := countZ p (i + 1)
  if a.2 = i + 1 then wrongT 3
  else
    let b : Int × Nat := if bt p a.2 = 44 then (if (countZ p (a.2 + 1)).2 = a.2 + 1 then -1 else ((countZ p (a.2 + 1)).1 : Int), (countZ p (a.2 + 1)).2) else ((a.1 : Int), a.2)
    if bt p b.2 ≠ 125 then wrongT 3
    else if 100 < a.1 ∨ 100 < b.1 then wrongT 4
    else if 0 ≤ b.1 ∧ b.1 < a.1 then wrongT 3
    else ({ tok0 16 with mn := a.1, mx := b.1 }, b.2 + 1, 0)
def modeZ (p : ByteArray) (x : TokR) : TokR :=
  if bt p x.2.1 = 63 then ({ x.1 with md := 1 }, x.2.1 + 1, 0) else if bt p x.2.1 = 43 then ({ x.1 with md := 2 }, x.2.1 + 1, 0) else x
def quantZ (p : ByteArray) (i : Nat) : TokR :=
  if bt p i = 123 then (if (bracesZ p i).2.2 = 0 then modeZ p (bracesZ p i) else wrongT (bracesZ p i).2.2)
  else modeZ p ({ tok0 16 with mn := if bt p i = 43 then 1 else 0, mx := if bt p i = 63 then 1 else -1 }, i + 1, 0)
/-- The flags from place i on, where those of s stand ahead of it. -/
def flagsF (p : ByteArray) : Nat → Nat → List UInt8 → TokR
  | 0, _, _ => wrongT 3
  | f + 1, i, s =>
    if h : i < p.size then
      if bt p i = 58 ∧ s ≠ [] then ({ tok0 14 with f := ⟨s.toArray⟩ }, i + 1, 0)
      else if bt p i ≠ 105 ∧ bt p i ≠ 109 ∧ bt p i ≠ 115 then wrongT 3
      else if p[i] ∈ s then wrongT 3
      else flagsF p f (i + 1) (s ++ [p[i]])
    else wrongT 3
/-- The heads of tokens that are nothing but these, and their kinds. -/
def headsL : List (List Nat × Int) := [([46], 1), ([94], 2), ([36], 3), ([92, 98], 4), ([92, 66], 5), ([124], 6), ([40, 63, 58], 8), ([40, 63, 61], 9), ([40, 63, 33], 10), ([40, 63, 60, 61], 11), ([40, 63, 60, 33], 12), ([40, 63, 62], 13), ([41], 15)]
def headF (p : ByteArray) (i : Nat) : List (List Nat × Int) → Option TokR
  | [] => none
  | x :: r => if headB p i x.1 = true then some (tok0 x.2, i + x.1.length, 0) else headF p i r
/-- A class's items from a place on: the set of all, and where the bracket stands that ends it. -/
def clsF (p : ByteArray) : Nat → Nat → BitVec 256 → Bool → Option (BitVec 256 × Nat)
  | 0, _, _, _ => none
  | f + 1, i, s, first =>
    if first = false ∧ bt p i = 93 then some (s, i)
    else
      let x := itemZ p i
      if x.2 = 0 then none
      else if bt p x.2 = 45 then
        let y := itemZ p (x.2 + 1)
        if y.2 = 0 ∨ lenS x.1 ≠ 1 ∨ lenS y.1 ≠ 1 ∨ minS y.1 < minS x.1 then none
        else clsF p f y.2 (ofPred fun n => mem s n || mem (span (minS x.1) (minS y.1 + 1)) n) false
      else clsF p f x.2 (ofPred fun n => mem s n || mem x.1 n) false
/-- The class at a place: its set, the place behind, what is wrong. -/
def classZ (p : ByteArray) (i : Nat) : BitVec 256 × Nat × Int :=
  if p.size ≤ i ∨ bt p i ≠ 91 then (0#256, 0, 1)
  else match clsF p (p.size + 1) (if bt p (i + 1) = 94 then i + 2 else i + 1) 0#256 true with
    | none => (0#256, 0, 3)
    | some x => (if bt p (i + 1) = 94 then notS' x.1 else x.1, x.2 + 1, 0)
/-- The token at a place. -/
def tokZ (p : ByteArray) (i : Nat) : TokR :=
  match headF p i headsL with
  | some x => x
  | none =>
    if headB p i [40, 63] = true then flagsF p (p.size + 1) (i + 2) []
    else if bt p i = 40 then (tok0 7, i + 1, 0)
    else if bt p i = 42 ∨ bt p i = 43 ∨ bt p i = 63 ∨ bt p i = 123 then quantZ p i
    else if bt p i = 91 then ({ tok0 0 with S := (classZ p i).1 }, (classZ p i).2.1, (classZ p i).2.2)
    else if bt p i = 93 ∨ bt p i = 125 then wrongT 3
    else if bt p i ≠ 92 then ({ tok0 0 with S := oneS (bt p i) }, i + 1, 0)
    else if 49 ≤ bt p (i + 1) ∧ bt p (i + 1) ≤ 57 then ({ tok0 17 with n := (bt p (i + 1) : Int) - 48 }, i + 2, 0)
    else if (escZ p i).2 = 0 then wrongT 3
    else ({ tok0 0 with S := (escZ p i).1 }, (escZ p i).2, 0)
/-- The tokens from a place on. -/
def lexF (p : ByteArray) : Nat → Nat → List Tok → List Tok × Int
  | 0, _, l => (l, 0)
  | f + 1, i, l =>
    if p.size ≤ i then (l, 0)
    else if (tokZ p i).2.2 ≠ 0 then ([], (tokZ p i).2.2)
    else lexF p f (tokZ p i).2.1 (l ++ [(tokZ p i).1])
def lexZ (p : ByteArray) : List Tok × Int := if 1000 < p.size then ([], 4) else lexF p (p.size + 1) 0 []
end Go.Proofs.YtlcecblehffjiaaDoor
