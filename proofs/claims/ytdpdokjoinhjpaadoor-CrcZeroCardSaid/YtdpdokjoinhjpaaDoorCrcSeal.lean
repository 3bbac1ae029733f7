/-
  What is sealed, and what is opened: plain facts.
-/
import Derived.Test.YtdpdokjoinhjpaaDoorCrcRef
namespace Go.Proofs.YtdpdokjoinhjpaaDoor

theorem ofB_append (s t : ByteArray) : ofB (s ++ t) = onL (ofB s) t.data.toList := by
  unfold ofB
  rw [ByteArray.data_append, Array.toList_append, onL_append]
theorem sealB_size (s : ByteArray) : (sealB s).size = s.size + 3 := by
  unfold sealB
  rw [ByteArray.size_append]
  rfl
theorem sealB_cut (s : ByteArray) : (sealB s).extract 0 s.size = s := by
  unfold sealB
  rw [ByteArray.extract_append, Nat.sub_self, Nat.zero_sub, ByteArray.extract_zero_size]
  have : (ByteArray.mk (tail3 (ofB s)).toArray).extract 0 0 = ByteArray.empty := by
    rw [ByteArray.ext_iff, ByteArray.data_extract]
    simp
  rw [this, ByteArray.append_empty]
theorem sealB_of (s : ByteArray) : ofB (sealB s) = 0 := by
  rw [sealB, ofB_append]
  exact onL_tail _ (ofB_lt s)
theorem open_seal (s : ByteArray) : openB (sealB s) = s ∧ openE (sealB s) = 0 := by
  have h3 : ¬ (sealB s).size < 3 := by rw [sealB_size]; omega
  have e : (sealB s).extract 0 ((sealB s).size - 3) = s := by
    rw [sealB_size, show s.size + 3 - 3 = s.size by omega, sealB_cut]
  have h := openB_yes h3 (by rw [e])
  rw [e] at h
  exact h
/-- A text of three bytes or more is its head, and three bytes. -/
theorem split3 (s : ByteArray) (h : 3 ≤ s.size) : ∃ a b c, s = s.extract 0 (s.size - 3) ++ ⟨#[a, b, c]⟩ := by
  have e : s = s.extract 0 (s.size - 3) ++ s.extract (s.size - 3) s.size := by
    rw [ByteArray.extract_append_extract, Nat.min_eq_left (by omega), Nat.max_eq_right (by omega), ByteArray.extract_zero_size]
  have hl : (s.extract (s.size - 3) s.size).data.size = 3 := by
    have : (s.extract (s.size - 3) s.size).size = 3 := by rw [ByteArray.size_extract]; omega
    exact this
  match hd : s.extract (s.size - 3) s.size, hl with
  | ⟨⟨[a, b, c]⟩⟩, _ => exact ⟨a, b, c, e.trans (by rw [hd])⟩
/-- What opens is what has the sum 0. -/
theorem seal_iff (s : ByteArray) (h : 3 ≤ s.size) : sealB (s.extract 0 (s.size - 3)) = s ↔ ofB s = 0 := by
  obtain ⟨a, b, c, e⟩ := split3 s h
  generalize s.extract 0 (s.size - 3) = x at e
  subst e
  constructor
  · intro h2
    rw [← h2, sealB_of]
  · intro h2
    rw [ofB_append] at h2
    have := onL_three _ (ofB_lt x) a b c h2
    unfold sealB
    rw [← this]
theorem open_zero (s : ByteArray) (h : 3 ≤ s.size) (hz : ofB s = 0) : openB s = s.extract 0 (s.size - 3) ∧ openE s = 0 ∧ sealB (s.extract 0 (s.size - 3)) = s :=
  have h2 := (seal_iff s h).2 hz
  ⟨(openB_yes (by omega) h2).1, (openB_yes (by omega) h2).2, h2⟩
theorem open_some (s : ByteArray) (h : 3 ≤ s.size) (hz : ofB s ≠ 0) : openB s = ⟨#[]⟩ ∧ openE s = 8 :=
  openB_no (by omega) fun h2 => hz ((seal_iff s h).1 h2)

/-- One byte of a text is another one. -/
theorem of_set (s : ByteArray) (i : Nat) (h : i < s.size) (c : UInt8) (hc : c ≠ s[i]) : ofB ⟨s.data.set i c h⟩ ≠ ofB s := by
  have hi : i < s.data.toList.length := by rw [Array.length_toList]; exact h
  have e1 : s.data.toList = s.data.toList.take i ++ s[i] :: s.data.toList.drop (i + 1) := by
    conv => lhs; rw [← List.take_append_drop i s.data.toList, List.drop_eq_getElem_cons hi]
    rfl
  have e2 : (s.data.set i c h).toList = s.data.toList.take i ++ c :: s.data.toList.drop (i + 1) := by
    rw [Array.toList_set, List.set_eq_take_append_cons_drop, if_pos hi]
  unfold ofB
  rw [e2]
  conv => rhs; rw [e1]
  exact onL_one _ (by decide) _ _ _ _ hc
end Go.Proofs.YtdpdokjoinhjpaaDoor
