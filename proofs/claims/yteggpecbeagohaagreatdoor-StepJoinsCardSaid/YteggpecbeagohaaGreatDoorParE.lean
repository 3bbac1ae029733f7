import Derived.Test.YteggpecbeagohaaGreatDoorLexUpM
import Derived.Test.YteggpecbeagohaaGreatDoorParAM
import Derived.Test.YteggpecbeagohaaGreatDoorAstD
import Derived.Test.YteggpecbeagohaaGreatDoorAstH
import Derived.Test.YteggpecbeagohaaGreatDoorAstG
namespace Go.Proofs.YteggpecbeagohaaGreatDoor
end Go.Proofs.YteggpecbeagohaaGreatDoor
namespace Go.Proofs.YteggpecbeagohaaGreatDoor
structure Lies (p r : ByteArray) (n : Nat) : Prop where
 at_ : ∀ j, j < p.size → bt r (n + j) = bt p j
 m1 : bt r (n + p.size) ≠ 63
 m2 : bt r (n + p.size) ≠ 43
 sz : n + p.size ≤ r.size
variable {p r : ByteArray} {n : Nat}
theorem Lies.eq (h : Lies p r n) {j c : Nat} (hc : bt p j = c) (hn : c < 256) : bt r (n + j) = c := by
 rw [h.at_ j (bt_in (by omega)), hc]
theorem Lies.md (h : Lies p r n) {j : Nat} (hj : j ≤ p.size) : mdV (bt r (n + j)) = mdV (bt p j) ∧ mdN (bt r (n + j)) = mdN (bt p j) := by
 by_cases hl : j < p.size
 ·rw [h.at_ j hl]
  exact ⟨rfl, rfl⟩
 ·obtain rfl : j = p.size := by omega
  have m1 := h.m1
  have m2 := h.m2
  rw [bt_no (p := p) (Nat.le_refl _)]
  unfold mdV mdN
  refine ⟨?_, ?_⟩
  ·rw [if_neg m1, if_neg m2]; rfl
  ·rw [if_neg (by omega)]; rfl
end Go.Proofs.YteggpecbeagohaaGreatDoor
namespace Go.Proofs.YteggpecbeagohaaGreatDoor
open Ast (Nd joinL wrapL deepZ rightZ cntG)
end Go.Proofs.YteggpecbeagohaaGreatDoor
namespace Go.Proofs.YteggpecbeagohaaGreatDoor
open Ast (Nd joinL wrapL deepZ rightZ cntG backB behB groupsB siz dep)
structure Parsed (p : ByteArray) (t : Tr) (l : List Tok) (g : Nat) : Prop where
 lex : lexZ p = (l, 0)
 scan : scanF l 0 false = true
 alt : altF (6 * l.length + 6) ByteArray.empty 0 l = .got t g []
 right : rightZ t.2 t.1 = 0
end Go.Proofs.YteggpecbeagohaaGreatDoor
namespace Go.Proofs.YteggpecbeagohaaGreatDoor
open Ast (Nd joinL wrapL deepZ rightZ shapeZ formZ)
end Go.Proofs.YteggpecbeagohaaGreatDoor
