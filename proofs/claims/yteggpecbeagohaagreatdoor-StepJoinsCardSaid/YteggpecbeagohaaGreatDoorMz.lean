namespace Go.Proofs.YteggpecbeagohaaGreatDoor
theorem sA_ {α : Type} (l : List α) (i : Nat) (a : α) : l.toArray.setIfInBounds i a = (l.set i a).toArray := List.setIfInBounds_toArray l i a
theorem s0_ {α : Type} (x a : α) (l : List α) : (x :: l).set 0 a = a :: l := rfl
theorem sS_ {α : Type} (x a : α) (l : List α) (n : Nat) : (x :: l).set (n + 1) a = x :: l.set n a := rfl
theorem i_ {A B C : Type} {p : A → B → C → Prop} : ∀ a b c, p a b c → p a b c := fun _ _ _ h => h
end Go.Proofs.YteggpecbeagohaaGreatDoor
