/-
  Layer 6: what the document's answer does: Lex.
-/
import Derived.Test.YtlcecblehffjiaaDoorLexRTok
import Derived.Test.YtlcecblehffjiaaDoorLexRef
namespace Go.Proofs.YtlcecblehffjiaaDoor
open Go.RowKit

/-- The tokens of the document's answer as they lie in a world. -/
def GotToks6 (w : World) (R : List Tok × Int) (e : Ending) (w' : World) : Prop := ∃ v, e = .returned (.tuple #[v, .int .i64 R.2]) ∧ w'.ownsRow w.heap.size 61 10 v R.1.length (toksC R.1) ∧ Below w.heap.size w w'
set_option maxRecDepth 100000 in
set_option maxHeartbeats 16000000 in
theorem rlex_any (p : ByteArray) (w : World) (hp : p.size ≤ 1000000) : Calls Tryd.prog 11 #[.string p] w (GotToks6 w (lexZ p)) := by
  by_cases hsz : 1000 < p.size
  · rw [show lexZ p = ([], 4) by unfold lexZ; rw [if_pos hsz]]
    have q : (1000 : Int) < (p.size : Int) := by omega
    clear hsz
    go_enter Tryd.func11, Tryd.ntmps11
    go_wp2_with fail
    go_ret2
    exact ⟨_, rfl, ⟨rfl, .inl ⟨rfl, rfl⟩⟩, Below.refl _ _⟩
  · rw [show lexZ p = lexF p (p.size + 1) 0 [] by unfold lexZ; rw [if_neg hsz]]
    have q : ¬ (1000 : Int) < (p.size : Int) := by omega
    have H0 := Lib.hid (lex_0 p)
    obtain ⟨R, hR⟩ : ∃ R, R = lexF p (p.size + 1) 0 [] := ⟨_, rfl⟩
    rw [← hR]
    have HR := Lib.hid hR
    have HZ := Lib.hid (show p.size ≤ 1000 by omega)
    clear hR hsz
    obtain ⟨i0, hi, hz0, hz1, hz2⟩ := info_parts infoTok6
    have HI := Lib.hid (And.intro hi (And.intro hz0 (And.intro hz1 hz2)))
    clear hi hz0 hz1 hz2
    go_enter Tryd.func11, Tryd.ntmps11
    go_wp2_with fail
    go_loopw [4, 5] (fun s4 s5 wr => ∃ (k : Nat) (l : List Tok), s5 = .int .i64 k ∧ k ≤ p.size ∧ l.length ≤ k ∧ LexI p k l ∧ wr.ownsRow w.heap.size 61 10 s4 l.length (toksC l) ∧ Below w.heap.size w wr) (fun _ s5 _ => p.size - (intOf s5).toNat)
    case atStart => exact ⟨0, [], rfl, by omega, Nat.le_refl _, H0.out, World.ownsRow_made _ #[] 0 (Nat.le_refl _) (by decide) rfl, (Below.refl _ w).alloc (Nat.le_refl _) _⟩
    case round =>
      obtain ⟨k, l, rfl, hk, hlk, hL, hown, hb⟩ := hrel
      have HL := Lib.hid hL
      have HOw := Lib.hid hown
      have HB := Lib.hid hb
      clear hL hown hb
      by_cases hlt : k < p.size
      · have r1 : (k : Int) < (p.size : Int) := by omega
        have HBad := Lib.hid (fun h => lex_bad HL.out hlt h)
        have HNx := Lib.hid (fun h hu => lex_next HL.out hlt h hu)
        have HUp := Lib.hid (tok_up p k hlt)
        go_wp2_with fail
        with_reducible refine (rtoken_any p k _ hp hlt).mono ?_
        obtain ⟨X, hX⟩ : ∃ X, X = tokZ p k := ⟨_, rfl⟩
        rw [← hX] at HBad HNx HUp ⊢
        clear hX
        obtain ⟨t, z, e⟩ := X
        simp only [] at HBad HNx HUp ⊢
        rintro x wb ⟨rfl, hb⟩
        have HOb := Lib.hid (own_call HOw.out hb)
        have HBb := Lib.hid (thenB HB.out hb HB.out.size)
        clear hb
        go_wp2_with (refine storeNewR rfl _ _ rfl wb wb.heap.size rfl t rfl _ rfl rfl rfl ?_; intro wc hx hb2; refine stopQ ?_)
        unfold StopQ
        have HOc := Lib.hid (own_call HOb.out hb2.out)
        have HBc := Lib.hid (thenB HBb.out hb2.out HBb.out.size)
        by_cases he : e = 0
        · subst he
          have hu := HUp.out rfl
          have HN := Lib.hid (HNx.out rfl hu.1)
          have HSx := Lib.hid HBc.out.size
          clear HBad HNx HUp
          go_wp2_with (refine loadR rfl _ rfl wb.heap.size t rfl hx.out ?_; refine stopQ ?_)
          unfold StopQ
          clear hx
          simp only [tokV, tokC]
          go_wp2_with (at_builtin; refine wpList_append_own _ rfl _ _ 26 rfl w.heap.size 61 i0 _ 10 88 Tryd.underlying26 HI.out.1 HI.out.2.1 HI.out.2.2.1 HI.out.2.2.2 rfl (by decide) _ _ _ rfl (HOc.out.alloc _) ⟨wc.heap.size, 0, none⟩ 1 1 (tokC t).toList rfl rfl (tok_cells wc _ t) (tok_one t) (by unfold maxLen; have := HZ.out; omega) (by have := HZ.out; omega) (by have := HSx.out; simp; omega) ?_)
          intro v3 w3 hown3 hgrow3 hne3
          have hown : ∀ g, Value.ownBlock u4 = some g → w.heap.size ≤ g := fun g hg => (HOc.out.lt g hg).1
          have HB3 := Lib.hid ((HBc.out.alloc HSx.out _).grown hgrow3 (Nat.le_trans HSx.out (by simp)) hown)
          rw [← toksC_one] at hown3
          have HO3 := Lib.hid hown3
          clear hown3 hgrow3 hne3 hown
          go_wp2_with fail
          go_roundw
          case rel => exact ⟨z, l ++ [t], rfl, hu.2, by rw [List.length_append]; show l.length + 1 ≤ z; omega, HN.out, by rw [List.length_append]; exact HO3.out, HB3.out⟩
          case measure => simp [intOf]; omega
        · have HE := Lib.hid (HBad.out he)
          clear HBad HNx HUp
          go_wp2_with fail
          go_ret2
          rw [HR.out, HE.out]
          exact ⟨_, rfl, ⟨rfl, .inl ⟨rfl, rfl⟩⟩, HBc.out⟩
      · have r1 : ¬ (k : Int) < (p.size : Int) := by omega
        have HE := Lib.hid (lex_end HL.out (by omega))
        go_wp2_with fail
        go_ret2
        rw [HR.out, HE.out]
        exact ⟨_, rfl, HOw.out, HB.out⟩
end Go.Proofs.YtlcecblehffjiaaDoor
