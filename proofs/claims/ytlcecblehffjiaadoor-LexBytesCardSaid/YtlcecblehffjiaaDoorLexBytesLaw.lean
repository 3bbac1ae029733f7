/-
  Layer 6: the walk of the statement on bytes.
-/
import Derived.Test.YtlcecblehffjiaaDoorLexFix
namespace Go.Proofs.YtlcecblehffjiaaDoor
open Go.RowKit

/-- A token equals itself. -/
theorem eqTok (t : Tok) (w : World) : (Op.equalIn 10000 46 (tokV t) (tokV t)).run Tryd.prog w = .ok true w := by
  unfold tokV tokC
  simp [go_sem]
theorem neqTok (t : Tok) (w : World) : (binOp .neq 46 (tokV t) (tokV t)).run Tryd.prog w = .ok (.bool false) w := by
  rw [run_neq_struct, eqTok]
  rfl
theorem eqlTok (t : Tok) (w : World) : (binOp .eql 46 (tokV t) (tokV t)).run Tryd.prog w = .ok (.bool true) w := by
  rw [run_eql_struct, eqTok]
  rfl
theorem str1 (w : World) (c : Nat) (hc : c < 256) : (convert 43 9 (.slice (some ⟨w.heap.size, 0, none⟩) 1 1)).run Tryd.prog (w.alloc (.cells #[.int .u8 (c : Int)] 5)) = .ok (.string ⟨#[c.toUInt8]⟩) (w.alloc (.cells #[.int .u8 (c : Int)] 5)) := by
  have h := run_convert_bytes_back (P := Tryd.prog) (w.alloc (.cells #[.int .u8 (c : Int)] 5)) 43 9 5 ⟨w.heap.size, 0, none⟩ 1 [c.toUInt8] Tryd.underlying43 Tryd.underlying5 Tryd.underlying9 (fun j hj => by
    obtain rfl : j = 0 := by simpa using hj
    rw [Addr.add_lit]
    unfold World.cell?
    rw [heap_alloc_new]
    simp
    omega)
  exact h
theorem str2 (w : World) (c : Nat) (hc : c < 256) : (convert 43 9 (.slice (some ⟨w.heap.size, 0, none⟩) 2 2)).run Tryd.prog (w.alloc (.cells #[.int .u8 92, .int .u8 (c : Int)] 5)) = .ok (.string ⟨#[92, c.toUInt8]⟩) (w.alloc (.cells #[.int .u8 92, .int .u8 (c : Int)] 5)) := by
  have h := run_convert_bytes_back (P := Tryd.prog) (w.alloc (.cells #[.int .u8 92, .int .u8 (c : Int)] 5)) 43 9 5 ⟨w.heap.size, 0, none⟩ 2 [92, c.toUInt8] Tryd.underlying43 Tryd.underlying5 Tryd.underlying9 (fun j hj => by
    rw [Addr.add_lit]
    unfold World.cell?
    rw [heap_alloc_new]
    rcases (show j = 0 ∨ j = 1 by simp at hj; omega) with rfl | rfl
    · rfl
    · simp
      omega)
  exact h
/-- What stands for itself. -/
theorem bytes_own (c : Nat) (hc : c < 256) (h : mem (ofBytes [46, 94, 36, 124, 40, 41, 91, 93, 123, 125, 42, 43, 63, 92]) c = false) : lexZ ⟨#[c.toUInt8]⟩ = ([⟨0, oneS c, 0, 0, 0, 0, ByteArray.empty⟩], 0) := by
  have hb : bt ⟨#[c.toUInt8]⟩ 0 = c := by
    show (c.toUInt8).toNat = c
    simp
    omega
  have ht : tokZ ⟨#[c.toUInt8]⟩ 0 = (⟨0, oneS c, 0, 0, 0, 0, ByteArray.empty⟩, 1, 0) := by
    rw [tok_byte (fun d hd => by
      rw [hb]
      rintro rfl
      revert h
      simp only [List.mem_cons, List.mem_nil_iff, or_false] at hd
      rcases hd with rfl | rfl | rfl | rfl | rfl | rfl | rfl | rfl | rfl | rfl | rfl | rfl | rfl | rfl <;> decide +kernel), hb]
    rfl
  have hz : (ByteArray.mk #[c.toUInt8]).size = 1 := rfl
  unfold lexZ
  rw [if_neg (by rw [hz]; decide), hz, lexF, if_neg (by rw [hz]; decide), ht, if_neg (show ¬ (0 : Int) ≠ 0 by decide), lexF, if_pos (show (ByteArray.mk #[c.toUInt8]).size ≤ 1 from Nat.le_refl _)]
  rfl
theorem bytes_esc (c : Nat) (hc : c < 256) (h : mem (span 97 123 ||| span 65 91 ||| span 48 58) c = false) : lexZ ⟨#[92, c.toUInt8]⟩ = ([⟨0, oneS c, 0, 0, 0, 0, ByteArray.empty⟩], 0) := by
  have hb : bt ⟨#[92, c.toUInt8]⟩ 1 = c := by
    show (c.toUInt8).toNat = c
    simp
    omega
  have hb0 : bt ⟨#[92, c.toUInt8]⟩ 0 = 92 := rfl
  have hz : (ByteArray.mk #[92, c.toUInt8]).size = 2 := rfl
  have H : ∀ c : Fin 256, mem (span 97 123 ||| span 65 91 ||| span 48 58) c.val = false → nameS c.val = none ∧ mem plainC c.val = true ∧ c.val ≠ 120 ∧ c.val ≠ 98 ∧ c.val ≠ 66 ∧ ¬ (49 ≤ c.val ∧ c.val ≤ 57) := by decide +kernel
  obtain ⟨h1, h2, h3, h4, h5, h6⟩ := H ⟨c, hc⟩ h
  have he : escZ ⟨#[92, c.toUInt8]⟩ 0 = (oneS c, 2) := by
    rw [esc_plain (by rw [hz]; decide) (by rw [hb]; exact h1) (by rw [hb]; exact h3) (by rw [hb]; exact hc), hb, if_pos h2]
  have ht : tokZ ⟨#[92, c.toUInt8]⟩ 0 = (⟨0, oneS c, 0, 0, 0, 0, ByteArray.empty⟩, 2, 0) := by
    rw [tok_esc hb0, hb, if_neg h4, if_neg h5, if_neg h6, he, if_neg (show ¬ (2 : Nat) = 0 by decide)]
    rfl
  unfold lexZ
  rw [if_neg (by rw [hz]; decide), hz, lexF, if_neg (by rw [hz]; decide), ht, if_neg (show ¬ (0 : Int) ≠ 0 by decide), lexF, if_pos (show (ByteArray.mk #[92, c.toUInt8]).size ≤ 2 from Nat.le_refl _)]
  rfl
/-- A slice of one token. -/
theorem own_one {w : World} {base : Nat} {v : Value} {t : Tok} (h : w.ownsRow base 46 10 v 1 (toksC [t])) : ∃ g cap, v = .slice (some ⟨g, 0, none⟩) 1 cap ∧ g < w.heap.size ∧ w.rangeAt g 0 (tokC t).toList := by
  rcases h.2 with ⟨-, h2⟩ | ⟨g, cap, cur, h1, -, h2, -, -, -, -⟩
  · exact absurd h2 (by decide)
  · exact ⟨g, cap, h1, (Array.getElem?_eq_some_iff.1 h2).1, fun j v hv => by
      have := h.cells (g := g) (by rw [h1]; rfl) j v (by simpa [toksC] using hv)
      rw [Addr.add_lit] at this
      exact this⟩
theorem range_call {w w' : World} {g : Nat} {l : List Value} (h : w.rangeAt g 0 l) (hg : g < w.heap.size) (hb : Below w.heap.size w w') : w'.rangeAt g 0 l := fun j v hv => (hb.cell (p := ⟨g, 0 + j, none⟩) hg).trans (h j v hv)
theorem boxT_range {T : TypeId} {w : World} {g : Nat} {t : Tok} (h : BoxT T w g t) : w.rangeAt g 0 (tokC t).toList := fun j v hv => by
  rw [Nat.zero_add, cell_of_row w g j _ _ _ h, ← hv, Array.getElem?_toList]
theorem tokR_y {ops : Array Oper} {a : Act} {o : Oper} {x : Operand} {S : World → Prop} (g : Nat) (t : Tok) (hS : ∀ w, S w → w.rangeAt g 0 (tokC t).toList) (ho : o.op = .load 46 x) (hx : a.eval x = .pointer (some ⟨g, 0, none⟩))
    (hw : Region.wanted o (yielded ops a.tmps) = true) : YieldsIf Tryd.prog ops S o (tokV t) a :=
  yieldsIf_load_mid hw 46 x ho g 0 hx (tokC t).toList _ hS Tryd.underlying46 rfl (by rw [Array.length_toList, tokC_size]; exact sizeTok)
theorem neqTok_y {ops : Array Oper} {a : Act} {o : Oper} {x y : Operand} {S : World → Prop} (t : Tok) (ho : o.op = .binOp .neq 46 x y 46) (hx : a.eval x = tokV t) (hy : a.eval y = tokV t)
    (hw : Region.wanted o (yielded ops a.tmps) = true) : YieldsIf Tryd.prog ops S o (.bool false) a := by
  refine Or.inl ⟨hw, fun w _ => ?_⟩
  unfold execOp
  simp only [ho, hx, hy]
  have h := neqTok t w
  unfold tokV at h ⊢
  generalize tokC t = C at h ⊢
  have hg : (eqGuard .neq 46 x y (.agg C) (.agg C)).run Tryd.prog w = .ok () w := by kernel_rfl
  simp only [Sem.run_bind, hg, Result.andThen_ok, h]
  rfl
set_option maxRecDepth 100000 in
set_option maxHeartbeats 16000000 in
theorem bytes_nn (hE : ErrsOk) (hC : CloneOk) (c : Nat) (w : World) (hc : c < 256) (hw : Tabs w) (ho : mem (ofBytes [46, 94, 36, 124, 40, 41, 91, 93, 123, 125, 42, 43, 63, 92]) c = false) (hl : mem (span 97 123 ||| span 65 91 ||| span 48 58) c = false) : Calls Tryd.prog 6 #[.int .u8 (c : Int)] w fun e w' => e = .returned (.bool true) ∧ Below w.heap.size w w' := by
  have HL1 := Lib.hid (fun w (h : Tabs w) => lex_any hE hC ⟨#[c.toUInt8]⟩ w h.err h.tab h.op)
  have HL2 := Lib.hid (fun w (h : Tabs w) => lex_any hE hC ⟨#[92, c.toUInt8]⟩ w h.err h.tab h.op)
  have HF := Lib.hid (fun w (h : Tabs w) => fixed_any hE hC w h)
  have HT := Lib.hid hw
  have HOn := Lib.hid (fun w => one_any (c : Int) w (by omega) (by omega))
  rw [show ((c : Nat) : Int).toNat = c from rfl, one_eq hc] at HOn
  have HOf := Lib.hid (fun w => of_any ⟨#[46, 94, 36, 124, 40, 41, 91, 93, 123, 125, 42, 43, 63, 92]⟩ w (by decide))
  rw [show (ByteArray.mk #[46, 94, 36, 124, 40, 41, 91, 93, 123, 125, 42, 43, 63, 92]).data.toList = [46, 94, 36, 124, 40, 41, 91, 93, 123, 125, 42, 43, 63, 92] from rfl] at HOf
  have HH1 := Lib.hid (fun w => has_any (ofBytes [46, 94, 36, 124, 40, 41, 91, 93, 123, 125, 42, 43, 63, 92]) (c : Int) w (by omega) (by omega))
  have HH2 := Lib.hid (fun w => has_any (span 97 123 ||| span 65 91 ||| span 48 58) (c : Int) w (by omega) (by omega))
  rw [show ((c : Nat) : Int).toNat = c from rfl, ho] at HH1
  rw [show ((c : Nat) : Int).toNat = c from rfl, hl] at HH2
  have HR1 := Lib.hid (fun w => range_any 97 122 w (by decide) (by decide) (by decide) (by decide))
  have HR2 := Lib.hid (fun w => range_any 65 90 w (by decide) (by decide) (by decide) (by decide))
  have HR3 := Lib.hid (fun w => range_any 48 57 w (by decide) (by decide) (by decide) (by decide))
  have HO1 := Lib.hid (fun w => or_any (span 97 123) (span 65 91) w)
  have HO2 := Lib.hid (fun w => or_any (span 97 123 ||| span 65 91) (span 48 58) w)
  rw [show span (97 : Int).toNat ((122 : Int).toNat + 1) = span 97 123 from rfl] at HR1
  rw [show span (65 : Int).toNat ((90 : Int).toNat + 1) = span 65 91 from rfl] at HR2
  rw [show span (48 : Int).toNat ((57 : Int).toNat + 1) = span 48 58 from rfl] at HR3
  rw [bytes_own c hc ho] at HL1
  rw [bytes_esc c hc hl] at HL2
  have hs1 := str1 w c hc
  clear hw hE hC ho hl
  generalize hOO : ofBytes [46, 94, 36, 124, 40, 41, 91, 93, 123, 125, 42, 43, 63, 92] = OO at HOf HH1
  generalize hLL : span 97 123 ||| span 65 91 ||| span 48 58 = LL at HO2 HH2
  generalize hLM : span 97 123 ||| span 65 91 = LM at HO1 HO2
  generalize hA : span 97 123 = SA at HR1 HO1
  generalize hB : span 65 91 = SB at HR2 HO1
  generalize hD : span 48 58 = SD at HR3 HO2
  clear hOO hLL hLM hA hB hD
  obtain ⟨T, hT⟩ : ∃ T : Tok, T = ⟨0, oneS c, 0, 0, 0, 0, ByteArray.empty⟩ := ⟨_, rfl⟩
  rw [← hT] at HL1
  rw [← hT] at HL2
  have HTT := Lib.hid hT
  have hTS : oneS c = T.S := by rw [hT]
  rw [hTS] at HOn
  have HTc := Lib.hid (show tokC T = #[.int .i64 0, .int .u64 (W T.S 0), .int .u64 (W T.S 1), .int .u64 (W T.S 2), .int .u64 (W T.S 3), .int .i64 0, .int .i64 0, .int .i64 0, .int .i64 0, .string ⟨#[]⟩] by rw [hT]; rfl)
  clear hT hTS
  go_enter Tryd.func6, Tryd.ntmps6
  go_wp2_with fail
  clear hs1
  with_reducible refine (HL1.out _ (HT.out.alloc _)).mono ?_
  rintro e w1 ⟨v1, rfl, ho1, hb⟩
  have HB1 := Lib.hid (((Below.refl _ w).alloc (Nat.le_refl _) _).trans (hb.mono (show w.heap.size ≤ _ by simp)))
  clear hb
  obtain ⟨g1, cap1, hv1, hlt1, hr1⟩ := own_one ho1
  subst hv1
  clear ho1
  have HLt1 := Lib.hid hlt1
  have HR1' := Lib.hid hr1
  clear hlt1 hr1
  have hs2 := str2 w1 c hc
  go_wp2_with fail
  clear hs2
  have hb : Below w1.heap.size w1 (World.alloc w1 (.cells #[.int .u8 92, .int .u8 (c : Int)] 5)) := (Below.refl _ w1).alloc (Nat.le_refl _) _
  have HR1' := Lib.hid (range_call HR1'.out HLt1.out hb)
  have HLt1 := Lib.hid (Nat.lt_of_lt_of_le HLt1.out hb.size)
  clear hb
  with_reducible refine (HL2.out _ ((HT.out.call HB1.out).alloc _)).mono ?_
  rintro e w2 ⟨v2, rfl, ho2, hb⟩
  have HR1' := Lib.hid (range_call HR1'.out HLt1.out hb)
  have HLt1 := Lib.hid (Nat.lt_of_lt_of_le HLt1.out hb.size)
  have HB2 := Lib.hid (thenB (HB1.out.alloc HB1.out.size _) hb (HB1.out.alloc HB1.out.size _).size)
  clear hb
  obtain ⟨g2, cap2, hv2, hlt2, hr2⟩ := own_one ho2
  subst hv2
  clear ho2
  have HLt2 := Lib.hid hlt2
  have HR2' := Lib.hid hr2
  clear hlt2 hr2
  go_wp2_with fail
  with_reducible refine (HOn.out _).mono ?_
  rintro e w3 ⟨rfl, hb⟩
  have HR1' := Lib.hid (range_call HR1'.out HLt1.out hb)
  have HLt1 := Lib.hid (Nat.lt_of_lt_of_le HLt1.out hb.size)
  have HR2' := Lib.hid (range_call HR2'.out HLt2.out hb)
  have HLt2 := Lib.hid (Nat.lt_of_lt_of_le HLt2.out hb.size)
  have HB3 := Lib.hid (thenB HB2.out hb HB2.out.size)
  clear hb
  go_wp2_with fail
  have hBT : BoxT 46 (World.alloc w3 (.cells #[.int .i64 0, .int .u64 (W T.S 0), .int .u64 (W T.S 1), .int .u64 (W T.S 2), .int .u64 (W T.S 3), .int .i64 0, .int .i64 0, .int .i64 0, .int .i64 0, .string ⟨#[]⟩] 46)) w3.heap.size T := newT HTc.out.symm
  have HBT := Lib.hid hBT
  clear hBT
  have hb : Below w3.heap.size w3 (World.alloc w3 (.cells #[.int .i64 0, .int .u64 (W T.S 0), .int .u64 (W T.S 1), .int .u64 (W T.S 2), .int .u64 (W T.S 3), .int .i64 0, .int .i64 0, .int .i64 0, .int .i64 0, .string ⟨#[]⟩] 46)) := (Below.refl _ w3).alloc (Nat.le_refl _) _
  have HR1' := Lib.hid (range_call HR1'.out HLt1.out hb)
  have HLt1 := Lib.hid (Nat.lt_of_lt_of_le HLt1.out hb.size)
  have HR2' := Lib.hid (range_call HR2'.out HLt2.out hb)
  have HLt2 := Lib.hid (Nat.lt_of_lt_of_le HLt2.out hb.size)
  have HB4 := Lib.hid (thenB HB3.out hb HB3.out.size)
  clear hb
  with_reducible refine (HOf.out _).mono ?_
  rintro e x0 ⟨rfl, hb⟩
  have HBT := Lib.hid (HBT.out.below hb HBT.out.lt)
  have HR1' := Lib.hid (range_call HR1'.out HLt1.out hb)
  have HLt1 := Lib.hid (Nat.lt_of_lt_of_le HLt1.out hb.size)
  have HR2' := Lib.hid (range_call HR2'.out HLt2.out hb)
  have HLt2 := Lib.hid (Nat.lt_of_lt_of_le HLt2.out hb.size)
  have HB4 := Lib.hid (thenB HB4.out hb HB4.out.size)
  clear hb
  go_wp2_with fail
  with_reducible refine (HH1.out _).mono ?_
  rintro e x1 ⟨rfl, hb⟩
  have HBT := Lib.hid (HBT.out.below hb HBT.out.lt)
  have HR1' := Lib.hid (range_call HR1'.out HLt1.out hb)
  have HLt1 := Lib.hid (Nat.lt_of_lt_of_le HLt1.out hb.size)
  have HR2' := Lib.hid (range_call HR2'.out HLt2.out hb)
  have HLt2 := Lib.hid (Nat.lt_of_lt_of_le HLt2.out hb.size)
  have HB4 := Lib.hid (thenB HB4.out hb HB4.out.size)
  clear hb
  go_wp2_with fail
  with_reducible refine (HR1.out _).mono ?_
  rintro e x2 ⟨rfl, hb⟩
  have HBT := Lib.hid (HBT.out.below hb HBT.out.lt)
  have HR1' := Lib.hid (range_call HR1'.out HLt1.out hb)
  have HLt1 := Lib.hid (Nat.lt_of_lt_of_le HLt1.out hb.size)
  have HR2' := Lib.hid (range_call HR2'.out HLt2.out hb)
  have HLt2 := Lib.hid (Nat.lt_of_lt_of_le HLt2.out hb.size)
  have HB4 := Lib.hid (thenB HB4.out hb HB4.out.size)
  clear hb
  go_wp2_with fail
  with_reducible refine (HR2.out _).mono ?_
  rintro e x3 ⟨rfl, hb⟩
  have HBT := Lib.hid (HBT.out.below hb HBT.out.lt)
  have HR1' := Lib.hid (range_call HR1'.out HLt1.out hb)
  have HLt1 := Lib.hid (Nat.lt_of_lt_of_le HLt1.out hb.size)
  have HR2' := Lib.hid (range_call HR2'.out HLt2.out hb)
  have HLt2 := Lib.hid (Nat.lt_of_lt_of_le HLt2.out hb.size)
  have HB4 := Lib.hid (thenB HB4.out hb HB4.out.size)
  clear hb
  go_wp2_with fail
  with_reducible refine (HO1.out _).mono ?_
  rintro e x4 ⟨rfl, hb⟩
  have HBT := Lib.hid (HBT.out.below hb HBT.out.lt)
  have HR1' := Lib.hid (range_call HR1'.out HLt1.out hb)
  have HLt1 := Lib.hid (Nat.lt_of_lt_of_le HLt1.out hb.size)
  have HR2' := Lib.hid (range_call HR2'.out HLt2.out hb)
  have HLt2 := Lib.hid (Nat.lt_of_lt_of_le HLt2.out hb.size)
  have HB4 := Lib.hid (thenB HB4.out hb HB4.out.size)
  clear hb
  go_wp2_with fail
  with_reducible refine (HR3.out _).mono ?_
  rintro e x5 ⟨rfl, hb⟩
  have HBT := Lib.hid (HBT.out.below hb HBT.out.lt)
  have HR1' := Lib.hid (range_call HR1'.out HLt1.out hb)
  have HLt1 := Lib.hid (Nat.lt_of_lt_of_le HLt1.out hb.size)
  have HR2' := Lib.hid (range_call HR2'.out HLt2.out hb)
  have HLt2 := Lib.hid (Nat.lt_of_lt_of_le HLt2.out hb.size)
  have HB4 := Lib.hid (thenB HB4.out hb HB4.out.size)
  clear hb
  go_wp2_with fail
  with_reducible refine (HO2.out _).mono ?_
  rintro e x6 ⟨rfl, hb⟩
  have HBT := Lib.hid (HBT.out.below hb HBT.out.lt)
  have HR1' := Lib.hid (range_call HR1'.out HLt1.out hb)
  have HLt1 := Lib.hid (Nat.lt_of_lt_of_le HLt1.out hb.size)
  have HR2' := Lib.hid (range_call HR2'.out HLt2.out hb)
  have HLt2 := Lib.hid (Nat.lt_of_lt_of_le HLt2.out hb.size)
  have HB4 := Lib.hid (thenB HB4.out hb HB4.out.size)
  clear hb
  go_wp2_with fail
  with_reducible refine (HH2.out _).mono ?_
  rintro e x7 ⟨rfl, hb⟩
  have HBT := Lib.hid (HBT.out.below hb HBT.out.lt)
  have HR1' := Lib.hid (range_call HR1'.out HLt1.out hb)
  have HLt1 := Lib.hid (Nat.lt_of_lt_of_le HLt1.out hb.size)
  have HR2' := Lib.hid (range_call HR2'.out HLt2.out hb)
  have HLt2 := Lib.hid (Nat.lt_of_lt_of_le HLt2.out hb.size)
  have HB4 := Lib.hid (thenB HB4.out hb HB4.out.size)
  clear hb
  go_wp2_with fail
  have hS0 : (x7.rangeAt g1 0 (tokC T).toList) ∧ x7.rangeAt w3.heap.size 0 (tokC T).toList ∧ (x7.rangeAt g2 0 (tokC T).toList) ∧ Below w.heap.size w x7 := ⟨HR1'.out, boxT_range HBT.out, HR2'.out, HB4.out⟩
  have hT0 := HT.out.call HB4.out
  refine wp_region_held_drew (S := fun u => (u.rangeAt g1 0 (tokC T).toList) ∧ u.rangeAt w3.heap.size 0 (tokC T).toList ∧ (u.rangeAt g2 0 (tokC T).toList) ∧ Below w.heap.size w u) (by kernel_rfl) (show _ from ⟨hS0.1, hS0.2.1, hS0.2.2.1, hS0.2.2.2.drew⟩) (fun hS0 => ?_)
  have hT0 : Tabs x7.drew := HT.out.call hS0.2.2.2
  refine takeAt 0 37 (.bool false) rfl rfl (by kernel_rfl) (by kernel_rfl) (by kernel_rfl) (fun _ _ _ h => h) (yields (by rfl) (fun w => by kernel_rfl)) hS0 ?_
  simp only [Act.put, List.setIfInBounds_toArray, List.set_cons_zero, List.set_cons_succ]
  refine takeAt 1 38 (.bool true) rfl rfl (by kernel_rfl) (by kernel_rfl) (by kernel_rfl) (fun _ _ _ h => h) (yields (by rfl) (fun w => by kernel_rfl)) hS0 ?_
  simp only [Act.put, List.setIfInBounds_toArray, List.set_cons_zero, List.set_cons_succ]
  refine takeAt 2 39 (.bool true) rfl rfl (by kernel_rfl) (by kernel_rfl) (by kernel_rfl) (fun _ _ _ h => h) (yields (by rfl) (fun w => by kernel_rfl)) hS0 ?_
  simp only [Act.put, List.setIfInBounds_toArray, List.set_cons_zero, List.set_cons_succ]
  refine takeAt 3 40 (.int .i64 0) rfl rfl (by kernel_rfl) (by kernel_rfl) (by kernel_rfl) (fun _ _ _ h => h) (yields (by rfl) (fun w => by kernel_rfl)) hS0 ?_
  simp only [Act.put, List.setIfInBounds_toArray, List.set_cons_zero, List.set_cons_succ]
  refine takeAt 4 41 (.bool false) rfl rfl (by kernel_rfl) (by kernel_rfl) (by kernel_rfl) (fun _ _ _ h => h) (yields (by rfl) (fun w => by kernel_rfl)) hS0 ?_
  simp only [Act.put, List.setIfInBounds_toArray, List.set_cons_zero, List.set_cons_succ]
  refine takeAt 5 42 (.bool false) rfl rfl (by kernel_rfl) (by kernel_rfl) (by kernel_rfl) (fun _ _ _ h => h) (yields (by rfl) (fun w => by kernel_rfl)) hS0 ?_
  simp only [Act.put, List.setIfInBounds_toArray, List.set_cons_zero, List.set_cons_succ]
  refine takeAt 6 43 (.slice (some ⟨g1, 0, none⟩) 1 cap1) rfl rfl (by kernel_rfl) (by kernel_rfl) (by kernel_rfl) (fun _ _ _ h => h) (yields (by rfl) (fun w => by kernel_rfl)) hS0 ?_
  simp only [Act.put, List.setIfInBounds_toArray, List.set_cons_zero, List.set_cons_succ]
  refine takeAt 7 44 (.int .i64 1) rfl rfl (by kernel_rfl) (by kernel_rfl) (by kernel_rfl) (fun _ _ _ h => h) (yields (by rfl) (fun w => by kernel_rfl)) hS0 ?_
  simp only [Act.put, List.setIfInBounds_toArray, List.set_cons_zero, List.set_cons_succ]
  refine takeAt 8 45 (.bool false) rfl rfl (by kernel_rfl) (by kernel_rfl) (by kernel_rfl) (fun _ _ _ h => h) (yields (by rfl) (fun w => by kernel_rfl)) hS0 ?_
  simp only [Act.put, List.setIfInBounds_toArray, List.set_cons_zero, List.set_cons_succ]
  refine takeAt 9 46 (.bool false) rfl rfl (by kernel_rfl) (by kernel_rfl) (by kernel_rfl) (fun _ _ _ h => h) (yields (by rfl) (fun w => by kernel_rfl)) hS0 ?_
  simp only [Act.put, List.setIfInBounds_toArray, List.set_cons_zero, List.set_cons_succ]
  refine takeAt 10 47 (.bool false) rfl rfl (by kernel_rfl) (by kernel_rfl) (by kernel_rfl) (fun _ _ _ h => h) (yields (by rfl) (fun w => by kernel_rfl)) hS0 ?_
  simp only [Act.put, List.setIfInBounds_toArray, List.set_cons_zero, List.set_cons_succ]
  refine takeAt 11 48 (.slice (some ⟨g1, 0, none⟩) 1 cap1) rfl rfl (by kernel_rfl) (by kernel_rfl) (by kernel_rfl) (fun _ _ _ h => h) (yields (by rfl) (fun w => by kernel_rfl)) hS0 ?_
  simp only [Act.put, List.setIfInBounds_toArray, List.set_cons_zero, List.set_cons_succ]
  as_aux_lemma =>
    refine takeAt 12 49 (.pointer (some ⟨g1, 0, none⟩)) rfl rfl (by kernel_rfl) (by kernel_rfl) (by kernel_rfl) (fun _ _ _ h => h) (yields (by rfl) (fun w => by kernel_rfl)) hS0 ?_
    simp only [Act.put, List.setIfInBounds_toArray, List.set_cons_zero, List.set_cons_succ]
    refine takeAt 13 50 (tokV T) rfl rfl (by kernel_rfl) (by kernel_rfl) (by kernel_rfl) (fun _ _ _ h => h) (tokR_y (g1) T (fun _ h => h.1) rfl rfl (by rfl)) hS0 ?_
    simp only [Act.put, List.setIfInBounds_toArray, List.set_cons_zero, List.set_cons_succ]
    refine takeAt 14 51 (tokV T) rfl rfl (by kernel_rfl) (by kernel_rfl) (by kernel_rfl) (fun _ _ _ h => h) (tokR_y (w3.heap.size) T (fun _ h => h.2.1) rfl rfl (by rfl)) hS0 ?_
    simp only [Act.put, List.setIfInBounds_toArray, List.set_cons_zero, List.set_cons_succ]
    refine takeAt 15 52 (.bool false) rfl rfl (by kernel_rfl) (by kernel_rfl) (by kernel_rfl) (fun _ _ _ h => h) (neqTok_y T rfl rfl rfl (by rfl)) hS0 ?_
    simp only [Act.put, List.setIfInBounds_toArray, List.set_cons_zero, List.set_cons_succ]
    refine takeAt 16 53 (.bool false) rfl rfl (by kernel_rfl) (by kernel_rfl) (by kernel_rfl) (fun _ _ _ h => h) (yields (by rfl) (fun w => by kernel_rfl)) hS0 ?_
    simp only [Act.put, List.setIfInBounds_toArray, List.set_cons_zero, List.set_cons_succ]
    refine takeAt 17 54 (.bool false) rfl rfl (by kernel_rfl) (by kernel_rfl) (by kernel_rfl) (fun _ _ _ h => h) (yields (by rfl) (fun w => by kernel_rfl)) hS0 ?_
    simp only [Act.put, List.setIfInBounds_toArray, List.set_cons_zero, List.set_cons_succ]
    refine takeAt 18 55 (.bool false) rfl rfl (by kernel_rfl) (by kernel_rfl) (by kernel_rfl) (fun _ _ _ h => h) (yields (by rfl) (fun w => by kernel_rfl)) hS0 ?_
    simp only [Act.put, List.setIfInBounds_toArray, List.set_cons_zero, List.set_cons_succ]
    refine takeAt 19 56 (.bool false) rfl rfl (by kernel_rfl) (by kernel_rfl) (by kernel_rfl) (fun _ _ _ h => h) (yields (by rfl) (fun w => by kernel_rfl)) hS0 ?_
    simp only [Act.put, List.setIfInBounds_toArray, List.set_cons_zero, List.set_cons_succ]
    refine takeAt 20 57 (.bool true) rfl rfl (by kernel_rfl) (by kernel_rfl) (by kernel_rfl) (fun _ _ _ h => h) (yields (by rfl) (fun w => by kernel_rfl)) hS0 ?_
    simp only [Act.put, List.setIfInBounds_toArray, List.set_cons_zero, List.set_cons_succ]
    refine takeAt 21 58 (.bool true) rfl rfl (by kernel_rfl) (by kernel_rfl) (by kernel_rfl) (fun _ _ _ h => h) (yields (by rfl) (fun w => by kernel_rfl)) hS0 ?_
    simp only [Act.put, List.setIfInBounds_toArray, List.set_cons_zero, List.set_cons_succ]
    refine takeAt 22 59 (.int .i64 0) rfl rfl (by kernel_rfl) (by kernel_rfl) (by kernel_rfl) (fun _ _ _ h => h) (yields (by rfl) (fun w => by kernel_rfl)) hS0 ?_
    simp only [Act.put, List.setIfInBounds_toArray, List.set_cons_zero, List.set_cons_succ]
    refine takeAt 23 60 (.bool false) rfl rfl (by kernel_rfl) (by kernel_rfl) (by kernel_rfl) (fun _ _ _ h => h) (yields (by rfl) (fun w => by kernel_rfl)) hS0 ?_
    simp only [Act.put, List.setIfInBounds_toArray, List.set_cons_zero, List.set_cons_succ]
    as_aux_lemma =>
      refine takeAt 24 61 (.bool false) rfl rfl (by kernel_rfl) (by kernel_rfl) (by kernel_rfl) (fun _ _ _ h => h) (yields (by rfl) (fun w => by kernel_rfl)) hS0 ?_
      simp only [Act.put, List.setIfInBounds_toArray, List.set_cons_zero, List.set_cons_succ]
      refine takeAt 25 62 (.slice (some ⟨g2, 0, none⟩) 1 cap2) rfl rfl (by kernel_rfl) (by kernel_rfl) (by kernel_rfl) (fun _ _ _ h => h) (yields (by rfl) (fun w => by kernel_rfl)) hS0 ?_
      simp only [Act.put, List.setIfInBounds_toArray, List.set_cons_zero, List.set_cons_succ]
      refine takeAt 26 63 (.int .i64 1) rfl rfl (by kernel_rfl) (by kernel_rfl) (by kernel_rfl) (fun _ _ _ h => h) (yields (by rfl) (fun w => by kernel_rfl)) hS0 ?_
      simp only [Act.put, List.setIfInBounds_toArray, List.set_cons_zero, List.set_cons_succ]
      refine takeAt 27 64 (.bool false) rfl rfl (by kernel_rfl) (by kernel_rfl) (by kernel_rfl) (fun _ _ _ h => h) (yields (by rfl) (fun w => by kernel_rfl)) hS0 ?_
      simp only [Act.put, List.setIfInBounds_toArray, List.set_cons_zero, List.set_cons_succ]
      refine takeAt 28 65 (.bool false) rfl rfl (by kernel_rfl) (by kernel_rfl) (by kernel_rfl) (fun _ _ _ h => h) (yields (by rfl) (fun w => by kernel_rfl)) hS0 ?_
      simp only [Act.put, List.setIfInBounds_toArray, List.set_cons_zero, List.set_cons_succ]
      refine takeAt 29 66 (.bool false) rfl rfl (by kernel_rfl) (by kernel_rfl) (by kernel_rfl) (fun _ _ _ h => h) (yields (by rfl) (fun w => by kernel_rfl)) hS0 ?_
      simp only [Act.put, List.setIfInBounds_toArray, List.set_cons_zero, List.set_cons_succ]
      refine takeAt 30 67 (.slice (some ⟨g2, 0, none⟩) 1 cap2) rfl rfl (by kernel_rfl) (by kernel_rfl) (by kernel_rfl) (fun _ _ _ h => h) (yields (by rfl) (fun w => by kernel_rfl)) hS0 ?_
      simp only [Act.put, List.setIfInBounds_toArray, List.set_cons_zero, List.set_cons_succ]
      refine takeAt 31 68 (.pointer (some ⟨g2, 0, none⟩)) rfl rfl (by kernel_rfl) (by kernel_rfl) (by kernel_rfl) (fun _ _ _ h => h) (yields (by rfl) (fun w => by kernel_rfl)) hS0 ?_
      simp only [Act.put, List.setIfInBounds_toArray, List.set_cons_zero, List.set_cons_succ]
      refine takeAt 32 69 (tokV T) rfl rfl (by kernel_rfl) (by kernel_rfl) (by kernel_rfl) (fun _ _ _ h => h) (tokR_y (g2) T (fun _ h => h.2.2.1) rfl rfl (by rfl)) hS0 ?_
      simp only [Act.put, List.setIfInBounds_toArray, List.set_cons_zero, List.set_cons_succ]
      refine takeAt 33 70 (tokV T) rfl rfl (by kernel_rfl) (by kernel_rfl) (by kernel_rfl) (fun _ _ _ h => h) (tokR_y (w3.heap.size) T (fun _ h => h.2.1) rfl rfl (by rfl)) hS0 ?_
      simp only [Act.put, List.setIfInBounds_toArray, List.set_cons_zero, List.set_cons_succ]
      refine takeAt 34 71 (.bool false) rfl rfl (by kernel_rfl) (by kernel_rfl) (by kernel_rfl) (fun _ _ _ h => h) (neqTok_y T rfl rfl rfl (by rfl)) hS0 ?_
      simp only [Act.put, List.setIfInBounds_toArray, List.set_cons_zero, List.set_cons_succ]
      refine takeAt 35 72 (.bool false) rfl rfl (by kernel_rfl) (by kernel_rfl) (by kernel_rfl) (fun _ _ _ h => h) (yields (by rfl) (fun w => by kernel_rfl)) hS0 ?_
      simp only [Act.put, List.setIfInBounds_toArray, List.set_cons_zero, List.set_cons_succ]
      as_aux_lemma =>
        refine takeAt 36 73 (.bool false) rfl rfl (by kernel_rfl) (by kernel_rfl) (by kernel_rfl) (fun _ _ _ h => h) (yields (by rfl) (fun w => by kernel_rfl)) hS0 ?_
        simp only [Act.put, List.setIfInBounds_toArray, List.set_cons_zero, List.set_cons_succ]
        refine takeAt 37 74 (.bool false) rfl rfl (by kernel_rfl) (by kernel_rfl) (by kernel_rfl) (fun _ _ _ h => h) (yields (by rfl) (fun w => by kernel_rfl)) hS0 ?_
        simp only [Act.put, List.setIfInBounds_toArray, List.set_cons_zero, List.set_cons_succ]
        refine wpAnyH_done (by kernel_rfl) ?_ _
        go_wp2_with fail
        refine (HF.out _ hT0).mono ?_
        rintro e w6 ⟨rfl, hb⟩
        have HB6 := Lib.hid (thenB hS0.2.2.2 hb hS0.2.2.2.size)
        clear hb
        go_wp2_with fail
        go_ret
        exact ⟨rfl, HB6.out⟩
set_option maxRecDepth 100000 in
set_option maxHeartbeats 16000000 in
theorem bytes_ny (hE : ErrsOk) (hC : CloneOk) (c : Nat) (w : World) (hc : c < 256) (hw : Tabs w) (ho : mem (ofBytes [46, 94, 36, 124, 40, 41, 91, 93, 123, 125, 42, 43, 63, 92]) c = false) (hl : mem (span 97 123 ||| span 65 91 ||| span 48 58) c = true) : Calls Tryd.prog 6 #[.int .u8 (c : Int)] w fun e w' => e = .returned (.bool true) ∧ Below w.heap.size w w' := by
  have HL1 := Lib.hid (fun w (h : Tabs w) => lex_any hE hC ⟨#[c.toUInt8]⟩ w h.err h.tab h.op)
  have HL2 := Lib.hid (fun w (h : Tabs w) => lex_any hE hC ⟨#[92, c.toUInt8]⟩ w h.err h.tab h.op)
  have HF := Lib.hid (fun w (h : Tabs w) => fixed_any hE hC w h)
  have HT := Lib.hid hw
  have HOn := Lib.hid (fun w => one_any (c : Int) w (by omega) (by omega))
  rw [show ((c : Nat) : Int).toNat = c from rfl, one_eq hc] at HOn
  have HOf := Lib.hid (fun w => of_any ⟨#[46, 94, 36, 124, 40, 41, 91, 93, 123, 125, 42, 43, 63, 92]⟩ w (by decide))
  rw [show (ByteArray.mk #[46, 94, 36, 124, 40, 41, 91, 93, 123, 125, 42, 43, 63, 92]).data.toList = [46, 94, 36, 124, 40, 41, 91, 93, 123, 125, 42, 43, 63, 92] from rfl] at HOf
  have HH1 := Lib.hid (fun w => has_any (ofBytes [46, 94, 36, 124, 40, 41, 91, 93, 123, 125, 42, 43, 63, 92]) (c : Int) w (by omega) (by omega))
  have HH2 := Lib.hid (fun w => has_any (span 97 123 ||| span 65 91 ||| span 48 58) (c : Int) w (by omega) (by omega))
  rw [show ((c : Nat) : Int).toNat = c from rfl, ho] at HH1
  rw [show ((c : Nat) : Int).toNat = c from rfl, hl] at HH2
  have HR1 := Lib.hid (fun w => range_any 97 122 w (by decide) (by decide) (by decide) (by decide))
  have HR2 := Lib.hid (fun w => range_any 65 90 w (by decide) (by decide) (by decide) (by decide))
  have HR3 := Lib.hid (fun w => range_any 48 57 w (by decide) (by decide) (by decide) (by decide))
  have HO1 := Lib.hid (fun w => or_any (span 97 123) (span 65 91) w)
  have HO2 := Lib.hid (fun w => or_any (span 97 123 ||| span 65 91) (span 48 58) w)
  rw [show span (97 : Int).toNat ((122 : Int).toNat + 1) = span 97 123 from rfl] at HR1
  rw [show span (65 : Int).toNat ((90 : Int).toNat + 1) = span 65 91 from rfl] at HR2
  rw [show span (48 : Int).toNat ((57 : Int).toNat + 1) = span 48 58 from rfl] at HR3
  rw [bytes_own c hc ho] at HL1
  have hs1 := str1 w c hc
  clear hw hE hC ho hl
  generalize hOO : ofBytes [46, 94, 36, 124, 40, 41, 91, 93, 123, 125, 42, 43, 63, 92] = OO at HOf HH1
  generalize hLL : span 97 123 ||| span 65 91 ||| span 48 58 = LL at HO2 HH2
  generalize hLM : span 97 123 ||| span 65 91 = LM at HO1 HO2
  generalize hA : span 97 123 = SA at HR1 HO1
  generalize hB : span 65 91 = SB at HR2 HO1
  generalize hD : span 48 58 = SD at HR3 HO2
  clear hOO hLL hLM hA hB hD
  obtain ⟨T, hT⟩ : ∃ T : Tok, T = ⟨0, oneS c, 0, 0, 0, 0, ByteArray.empty⟩ := ⟨_, rfl⟩
  rw [← hT] at HL1
  have HTT := Lib.hid hT
  have hTS : oneS c = T.S := by rw [hT]
  rw [hTS] at HOn
  have HTc := Lib.hid (show tokC T = #[.int .i64 0, .int .u64 (W T.S 0), .int .u64 (W T.S 1), .int .u64 (W T.S 2), .int .u64 (W T.S 3), .int .i64 0, .int .i64 0, .int .i64 0, .int .i64 0, .string ⟨#[]⟩] by rw [hT]; rfl)
  clear hT hTS
  go_enter Tryd.func6, Tryd.ntmps6
  go_wp2_with fail
  clear hs1
  with_reducible refine (HL1.out _ (HT.out.alloc _)).mono ?_
  rintro e w1 ⟨v1, rfl, ho1, hb⟩
  have HB1 := Lib.hid (((Below.refl _ w).alloc (Nat.le_refl _) _).trans (hb.mono (show w.heap.size ≤ _ by simp)))
  clear hb
  obtain ⟨g1, cap1, hv1, hlt1, hr1⟩ := own_one ho1
  subst hv1
  clear ho1
  have HLt1 := Lib.hid hlt1
  have HR1' := Lib.hid hr1
  clear hlt1 hr1
  have hs2 := str2 w1 c hc
  go_wp2_with fail
  clear hs2
  have hb : Below w1.heap.size w1 (World.alloc w1 (.cells #[.int .u8 92, .int .u8 (c : Int)] 5)) := (Below.refl _ w1).alloc (Nat.le_refl _) _
  have HR1' := Lib.hid (range_call HR1'.out HLt1.out hb)
  have HLt1 := Lib.hid (Nat.lt_of_lt_of_le HLt1.out hb.size)
  clear hb
  with_reducible refine (HL2.out _ ((HT.out.call HB1.out).alloc _)).mono ?_
  rintro e w2 ⟨v2, rfl, ho2, hb⟩
  have HR1' := Lib.hid (range_call HR1'.out HLt1.out hb)
  have HLt1 := Lib.hid (Nat.lt_of_lt_of_le HLt1.out hb.size)
  have HB2 := Lib.hid (thenB (HB1.out.alloc HB1.out.size _) hb (HB1.out.alloc HB1.out.size _).size)
  clear hb
  generalize (lexZ ⟨#[92, c.toUInt8]⟩).2 = e2
  clear ho2
  go_wp2_with fail
  with_reducible refine (HOn.out _).mono ?_
  rintro e w3 ⟨rfl, hb⟩
  have HR1' := Lib.hid (range_call HR1'.out HLt1.out hb)
  have HLt1 := Lib.hid (Nat.lt_of_lt_of_le HLt1.out hb.size)
  have HB3 := Lib.hid (thenB HB2.out hb HB2.out.size)
  clear hb
  go_wp2_with fail
  have hBT : BoxT 46 (World.alloc w3 (.cells #[.int .i64 0, .int .u64 (W T.S 0), .int .u64 (W T.S 1), .int .u64 (W T.S 2), .int .u64 (W T.S 3), .int .i64 0, .int .i64 0, .int .i64 0, .int .i64 0, .string ⟨#[]⟩] 46)) w3.heap.size T := newT HTc.out.symm
  have HBT := Lib.hid hBT
  clear hBT
  have hb : Below w3.heap.size w3 (World.alloc w3 (.cells #[.int .i64 0, .int .u64 (W T.S 0), .int .u64 (W T.S 1), .int .u64 (W T.S 2), .int .u64 (W T.S 3), .int .i64 0, .int .i64 0, .int .i64 0, .int .i64 0, .string ⟨#[]⟩] 46)) := (Below.refl _ w3).alloc (Nat.le_refl _) _
  have HR1' := Lib.hid (range_call HR1'.out HLt1.out hb)
  have HLt1 := Lib.hid (Nat.lt_of_lt_of_le HLt1.out hb.size)
  have HB4 := Lib.hid (thenB HB3.out hb HB3.out.size)
  clear hb
  with_reducible refine (HOf.out _).mono ?_
  rintro e x0 ⟨rfl, hb⟩
  have HBT := Lib.hid (HBT.out.below hb HBT.out.lt)
  have HR1' := Lib.hid (range_call HR1'.out HLt1.out hb)
  have HLt1 := Lib.hid (Nat.lt_of_lt_of_le HLt1.out hb.size)
  have HB4 := Lib.hid (thenB HB4.out hb HB4.out.size)
  clear hb
  go_wp2_with fail
  with_reducible refine (HH1.out _).mono ?_
  rintro e x1 ⟨rfl, hb⟩
  have HBT := Lib.hid (HBT.out.below hb HBT.out.lt)
  have HR1' := Lib.hid (range_call HR1'.out HLt1.out hb)
  have HLt1 := Lib.hid (Nat.lt_of_lt_of_le HLt1.out hb.size)
  have HB4 := Lib.hid (thenB HB4.out hb HB4.out.size)
  clear hb
  go_wp2_with fail
  with_reducible refine (HR1.out _).mono ?_
  rintro e x2 ⟨rfl, hb⟩
  have HBT := Lib.hid (HBT.out.below hb HBT.out.lt)
  have HR1' := Lib.hid (range_call HR1'.out HLt1.out hb)
  have HLt1 := Lib.hid (Nat.lt_of_lt_of_le HLt1.out hb.size)
  have HB4 := Lib.hid (thenB HB4.out hb HB4.out.size)
  clear hb
  go_wp2_with fail
  with_reducible refine (HR2.out _).mono ?_
  rintro e x3 ⟨rfl, hb⟩
  have HBT := Lib.hid (HBT.out.below hb HBT.out.lt)
  have HR1' := Lib.hid (range_call HR1'.out HLt1.out hb)
  have HLt1 := Lib.hid (Nat.lt_of_lt_of_le HLt1.out hb.size)
  have HB4 := Lib.hid (thenB HB4.out hb HB4.out.size)
  clear hb
  go_wp2_with fail
  with_reducible refine (HO1.out _).mono ?_
  rintro e x4 ⟨rfl, hb⟩
  have HBT := Lib.hid (HBT.out.below hb HBT.out.lt)
  have HR1' := Lib.hid (range_call HR1'.out HLt1.out hb)
  have HLt1 := Lib.hid (Nat.lt_of_lt_of_le HLt1.out hb.size)
  have HB4 := Lib.hid (thenB HB4.out hb HB4.out.size)
  clear hb
  go_wp2_with fail
  with_reducible refine (HR3.out _).mono ?_
  rintro e x5 ⟨rfl, hb⟩
  have HBT := Lib.hid (HBT.out.below hb HBT.out.lt)
  have HR1' := Lib.hid (range_call HR1'.out HLt1.out hb)
  have HLt1 := Lib.hid (Nat.lt_of_lt_of_le HLt1.out hb.size)
  have HB4 := Lib.hid (thenB HB4.out hb HB4.out.size)
  clear hb
  go_wp2_with fail
  with_reducible refine (HO2.out _).mono ?_
  rintro e x6 ⟨rfl, hb⟩
  have HBT := Lib.hid (HBT.out.below hb HBT.out.lt)
  have HR1' := Lib.hid (range_call HR1'.out HLt1.out hb)
  have HLt1 := Lib.hid (Nat.lt_of_lt_of_le HLt1.out hb.size)
  have HB4 := Lib.hid (thenB HB4.out hb HB4.out.size)
  clear hb
  go_wp2_with fail
  with_reducible refine (HH2.out _).mono ?_
  rintro e x7 ⟨rfl, hb⟩
  have HBT := Lib.hid (HBT.out.below hb HBT.out.lt)
  have HR1' := Lib.hid (range_call HR1'.out HLt1.out hb)
  have HLt1 := Lib.hid (Nat.lt_of_lt_of_le HLt1.out hb.size)
  have HB4 := Lib.hid (thenB HB4.out hb HB4.out.size)
  clear hb
  go_wp2_with fail
  have hS0 : (x7.rangeAt g1 0 (tokC T).toList) ∧ x7.rangeAt w3.heap.size 0 (tokC T).toList ∧ (True) ∧ Below w.heap.size w x7 := ⟨HR1'.out, boxT_range HBT.out, trivial, HB4.out⟩
  have hT0 := HT.out.call HB4.out
  refine wp_region_held_drew (S := fun u => (u.rangeAt g1 0 (tokC T).toList) ∧ u.rangeAt w3.heap.size 0 (tokC T).toList ∧ (True) ∧ Below w.heap.size w u) (by kernel_rfl) (show _ from ⟨hS0.1, hS0.2.1, hS0.2.2.1, hS0.2.2.2.drew⟩) (fun hS0 => ?_)
  have hT0 : Tabs x7.drew := HT.out.call hS0.2.2.2
  refine takeAt 0 37 (.bool false) rfl rfl (by kernel_rfl) (by kernel_rfl) (by kernel_rfl) (fun _ _ _ h => h) (yields (by rfl) (fun w => by kernel_rfl)) hS0 ?_
  simp only [Act.put, List.setIfInBounds_toArray, List.set_cons_zero, List.set_cons_succ]
  refine takeAt 1 38 (.bool true) rfl rfl (by kernel_rfl) (by kernel_rfl) (by kernel_rfl) (fun _ _ _ h => h) (yields (by rfl) (fun w => by kernel_rfl)) hS0 ?_
  simp only [Act.put, List.setIfInBounds_toArray, List.set_cons_zero, List.set_cons_succ]
  refine takeAt 2 39 (.bool true) rfl rfl (by kernel_rfl) (by kernel_rfl) (by kernel_rfl) (fun _ _ _ h => h) (yields (by rfl) (fun w => by kernel_rfl)) hS0 ?_
  simp only [Act.put, List.setIfInBounds_toArray, List.set_cons_zero, List.set_cons_succ]
  refine takeAt 3 40 (.int .i64 0) rfl rfl (by kernel_rfl) (by kernel_rfl) (by kernel_rfl) (fun _ _ _ h => h) (yields (by rfl) (fun w => by kernel_rfl)) hS0 ?_
  simp only [Act.put, List.setIfInBounds_toArray, List.set_cons_zero, List.set_cons_succ]
  refine takeAt 4 41 (.bool false) rfl rfl (by kernel_rfl) (by kernel_rfl) (by kernel_rfl) (fun _ _ _ h => h) (yields (by rfl) (fun w => by kernel_rfl)) hS0 ?_
  simp only [Act.put, List.setIfInBounds_toArray, List.set_cons_zero, List.set_cons_succ]
  refine takeAt 5 42 (.bool false) rfl rfl (by kernel_rfl) (by kernel_rfl) (by kernel_rfl) (fun _ _ _ h => h) (yields (by rfl) (fun w => by kernel_rfl)) hS0 ?_
  simp only [Act.put, List.setIfInBounds_toArray, List.set_cons_zero, List.set_cons_succ]
  refine takeAt 6 43 (.slice (some ⟨g1, 0, none⟩) 1 cap1) rfl rfl (by kernel_rfl) (by kernel_rfl) (by kernel_rfl) (fun _ _ _ h => h) (yields (by rfl) (fun w => by kernel_rfl)) hS0 ?_
  simp only [Act.put, List.setIfInBounds_toArray, List.set_cons_zero, List.set_cons_succ]
  refine takeAt 7 44 (.int .i64 1) rfl rfl (by kernel_rfl) (by kernel_rfl) (by kernel_rfl) (fun _ _ _ h => h) (yields (by rfl) (fun w => by kernel_rfl)) hS0 ?_
  simp only [Act.put, List.setIfInBounds_toArray, List.set_cons_zero, List.set_cons_succ]
  refine takeAt 8 45 (.bool false) rfl rfl (by kernel_rfl) (by kernel_rfl) (by kernel_rfl) (fun _ _ _ h => h) (yields (by rfl) (fun w => by kernel_rfl)) hS0 ?_
  simp only [Act.put, List.setIfInBounds_toArray, List.set_cons_zero, List.set_cons_succ]
  refine takeAt 9 46 (.bool false) rfl rfl (by kernel_rfl) (by kernel_rfl) (by kernel_rfl) (fun _ _ _ h => h) (yields (by rfl) (fun w => by kernel_rfl)) hS0 ?_
  simp only [Act.put, List.setIfInBounds_toArray, List.set_cons_zero, List.set_cons_succ]
  refine takeAt 10 47 (.bool false) rfl rfl (by kernel_rfl) (by kernel_rfl) (by kernel_rfl) (fun _ _ _ h => h) (yields (by rfl) (fun w => by kernel_rfl)) hS0 ?_
  simp only [Act.put, List.setIfInBounds_toArray, List.set_cons_zero, List.set_cons_succ]
  refine takeAt 11 48 (.slice (some ⟨g1, 0, none⟩) 1 cap1) rfl rfl (by kernel_rfl) (by kernel_rfl) (by kernel_rfl) (fun _ _ _ h => h) (yields (by rfl) (fun w => by kernel_rfl)) hS0 ?_
  simp only [Act.put, List.setIfInBounds_toArray, List.set_cons_zero, List.set_cons_succ]
  as_aux_lemma =>
    refine takeAt 12 49 (.pointer (some ⟨g1, 0, none⟩)) rfl rfl (by kernel_rfl) (by kernel_rfl) (by kernel_rfl) (fun _ _ _ h => h) (yields (by rfl) (fun w => by kernel_rfl)) hS0 ?_
    simp only [Act.put, List.setIfInBounds_toArray, List.set_cons_zero, List.set_cons_succ]
    refine takeAt 13 50 (tokV T) rfl rfl (by kernel_rfl) (by kernel_rfl) (by kernel_rfl) (fun _ _ _ h => h) (tokR_y (g1) T (fun _ h => h.1) rfl rfl (by rfl)) hS0 ?_
    simp only [Act.put, List.setIfInBounds_toArray, List.set_cons_zero, List.set_cons_succ]
    refine takeAt 14 51 (tokV T) rfl rfl (by kernel_rfl) (by kernel_rfl) (by kernel_rfl) (fun _ _ _ h => h) (tokR_y (w3.heap.size) T (fun _ h => h.2.1) rfl rfl (by rfl)) hS0 ?_
    simp only [Act.put, List.setIfInBounds_toArray, List.set_cons_zero, List.set_cons_succ]
    refine takeAt 15 52 (.bool false) rfl rfl (by kernel_rfl) (by kernel_rfl) (by kernel_rfl) (fun _ _ _ h => h) (neqTok_y T rfl rfl rfl (by rfl)) hS0 ?_
    simp only [Act.put, List.setIfInBounds_toArray, List.set_cons_zero, List.set_cons_succ]
    refine takeAt 16 53 (.bool false) rfl rfl (by kernel_rfl) (by kernel_rfl) (by kernel_rfl) (fun _ _ _ h => h) (yields (by rfl) (fun w => by kernel_rfl)) hS0 ?_
    simp only [Act.put, List.setIfInBounds_toArray, List.set_cons_zero, List.set_cons_succ]
    refine takeAt 17 54 (.bool false) rfl rfl (by kernel_rfl) (by kernel_rfl) (by kernel_rfl) (fun _ _ _ h => h) (yields (by rfl) (fun w => by kernel_rfl)) hS0 ?_
    simp only [Act.put, List.setIfInBounds_toArray, List.set_cons_zero, List.set_cons_succ]
    refine takeAt 18 55 (.bool false) rfl rfl (by kernel_rfl) (by kernel_rfl) (by kernel_rfl) (fun _ _ _ h => h) (yields (by rfl) (fun w => by kernel_rfl)) hS0 ?_
    simp only [Act.put, List.setIfInBounds_toArray, List.set_cons_zero, List.set_cons_succ]
    refine takeAt 19 56 (.bool true) rfl rfl (by kernel_rfl) (by kernel_rfl) (by kernel_rfl) (fun _ _ _ h => h) (yields (by rfl) (fun w => by kernel_rfl)) hS0 ?_
    simp only [Act.put, List.setIfInBounds_toArray, List.set_cons_zero, List.set_cons_succ]
    refine takeAt 20 57 (.bool false) rfl rfl (by kernel_rfl) (by kernel_rfl) (by kernel_rfl) (fun _ _ _ h => h) (yields (by rfl) (fun w => by kernel_rfl)) hS0 ?_
    simp only [Act.put, List.setIfInBounds_toArray, List.set_cons_zero, List.set_cons_succ]
    refine takeAt 21 58 (.bool false) rfl rfl (by kernel_rfl) (by kernel_rfl) (by kernel_rfl) (fun _ _ _ h => h) (yields (by rfl) (fun w => by kernel_rfl)) hS0 ?_
    simp only [Act.put, List.setIfInBounds_toArray, List.set_cons_zero, List.set_cons_succ]
    refine takeAt 22 59 (undef) rfl rfl (by kernel_rfl) (by kernel_rfl) (by kernel_rfl) (fun _ _ _ h => h) (skipped (by rfl)) hS0 ?_
    simp only [Act.put, List.setIfInBounds_toArray, List.set_cons_zero, List.set_cons_succ]
    refine takeAt 23 60 (undef) rfl rfl (by kernel_rfl) (by kernel_rfl) (by kernel_rfl) (fun _ _ _ h => h) (skipped (by rfl)) hS0 ?_
    simp only [Act.put, List.setIfInBounds_toArray, List.set_cons_zero, List.set_cons_succ]
    as_aux_lemma =>
      refine takeAt 24 61 (undef) rfl rfl (by kernel_rfl) (by kernel_rfl) (by kernel_rfl) (fun _ _ _ h => h) (skipped (by rfl)) hS0 ?_
      simp only [Act.put, List.setIfInBounds_toArray, List.set_cons_zero, List.set_cons_succ]
      refine takeAt 25 62 (undef) rfl rfl (by kernel_rfl) (by kernel_rfl) (by kernel_rfl) (fun _ _ _ h => h) (skipped (by rfl)) hS0 ?_
      simp only [Act.put, List.setIfInBounds_toArray, List.set_cons_zero, List.set_cons_succ]
      refine takeAt 26 63 (undef) rfl rfl (by kernel_rfl) (by kernel_rfl) (by kernel_rfl) (fun _ _ _ h => h) (skipped (by rfl)) hS0 ?_
      simp only [Act.put, List.setIfInBounds_toArray, List.set_cons_zero, List.set_cons_succ]
      refine takeAt 27 64 (undef) rfl rfl (by kernel_rfl) (by kernel_rfl) (by kernel_rfl) (fun _ _ _ h => h) (skipped (by rfl)) hS0 ?_
      simp only [Act.put, List.setIfInBounds_toArray, List.set_cons_zero, List.set_cons_succ]
      refine takeAt 28 65 (undef) rfl rfl (by kernel_rfl) (by kernel_rfl) (by kernel_rfl) (fun _ _ _ h => h) (skipped (by rfl)) hS0 ?_
      simp only [Act.put, List.setIfInBounds_toArray, List.set_cons_zero, List.set_cons_succ]
      refine takeAt 29 66 (undef) rfl rfl (by kernel_rfl) (by kernel_rfl) (by kernel_rfl) (fun _ _ _ h => h) (skipped (by rfl)) hS0 ?_
      simp only [Act.put, List.setIfInBounds_toArray, List.set_cons_zero, List.set_cons_succ]
      refine takeAt 30 67 (undef) rfl rfl (by kernel_rfl) (by kernel_rfl) (by kernel_rfl) (fun _ _ _ h => h) (skipped (by rfl)) hS0 ?_
      simp only [Act.put, List.setIfInBounds_toArray, List.set_cons_zero, List.set_cons_succ]
      refine takeAt 31 68 (undef) rfl rfl (by kernel_rfl) (by kernel_rfl) (by kernel_rfl) (fun _ _ _ h => h) (skipped (by rfl)) hS0 ?_
      simp only [Act.put, List.setIfInBounds_toArray, List.set_cons_zero, List.set_cons_succ]
      refine takeAt 32 69 (undef) rfl rfl (by kernel_rfl) (by kernel_rfl) (by kernel_rfl) (fun _ _ _ h => h) (skipped (by rfl)) hS0 ?_
      simp only [Act.put, List.setIfInBounds_toArray, List.set_cons_zero, List.set_cons_succ]
      refine takeAt 33 70 (undef) rfl rfl (by kernel_rfl) (by kernel_rfl) (by kernel_rfl) (fun _ _ _ h => h) (skipped (by rfl)) hS0 ?_
      simp only [Act.put, List.setIfInBounds_toArray, List.set_cons_zero, List.set_cons_succ]
      refine takeAt 34 71 (undef) rfl rfl (by kernel_rfl) (by kernel_rfl) (by kernel_rfl) (fun _ _ _ h => h) (skipped (by rfl)) hS0 ?_
      simp only [Act.put, List.setIfInBounds_toArray, List.set_cons_zero, List.set_cons_succ]
      refine takeAt 35 72 (undef) rfl rfl (by kernel_rfl) (by kernel_rfl) (by kernel_rfl) (fun _ _ _ h => h) (skipped (by rfl)) hS0 ?_
      simp only [Act.put, List.setIfInBounds_toArray, List.set_cons_zero, List.set_cons_succ]
      as_aux_lemma =>
        refine takeAt 36 73 (.bool false) rfl rfl (by kernel_rfl) (by kernel_rfl) (by kernel_rfl) (fun _ _ _ h => h) (yields (by rfl) (fun w => by kernel_rfl)) hS0 ?_
        simp only [Act.put, List.setIfInBounds_toArray, List.set_cons_zero, List.set_cons_succ]
        refine takeAt 37 74 (.bool false) rfl rfl (by kernel_rfl) (by kernel_rfl) (by kernel_rfl) (fun _ _ _ h => h) (yields (by rfl) (fun w => by kernel_rfl)) hS0 ?_
        simp only [Act.put, List.setIfInBounds_toArray, List.set_cons_zero, List.set_cons_succ]
        refine wpAnyH_done (by kernel_rfl) ?_ _
        go_wp2_with fail
        refine (HF.out _ hT0).mono ?_
        rintro e w6 ⟨rfl, hb⟩
        have HB6 := Lib.hid (thenB hS0.2.2.2 hb hS0.2.2.2.size)
        clear hb
        go_wp2_with fail
        go_ret
        exact ⟨rfl, HB6.out⟩
set_option maxRecDepth 100000 in
set_option maxHeartbeats 16000000 in
theorem bytes_yn (hE : ErrsOk) (hC : CloneOk) (c : Nat) (w : World) (hc : c < 256) (hw : Tabs w) (ho : mem (ofBytes [46, 94, 36, 124, 40, 41, 91, 93, 123, 125, 42, 43, 63, 92]) c = true) (hl : mem (span 97 123 ||| span 65 91 ||| span 48 58) c = false) : Calls Tryd.prog 6 #[.int .u8 (c : Int)] w fun e w' => e = .returned (.bool true) ∧ Below w.heap.size w w' := by
  have HL1 := Lib.hid (fun w (h : Tabs w) => lex_any hE hC ⟨#[c.toUInt8]⟩ w h.err h.tab h.op)
  have HL2 := Lib.hid (fun w (h : Tabs w) => lex_any hE hC ⟨#[92, c.toUInt8]⟩ w h.err h.tab h.op)
  have HF := Lib.hid (fun w (h : Tabs w) => fixed_any hE hC w h)
  have HT := Lib.hid hw
  have HOn := Lib.hid (fun w => one_any (c : Int) w (by omega) (by omega))
  rw [show ((c : Nat) : Int).toNat = c from rfl, one_eq hc] at HOn
  have HOf := Lib.hid (fun w => of_any ⟨#[46, 94, 36, 124, 40, 41, 91, 93, 123, 125, 42, 43, 63, 92]⟩ w (by decide))
  rw [show (ByteArray.mk #[46, 94, 36, 124, 40, 41, 91, 93, 123, 125, 42, 43, 63, 92]).data.toList = [46, 94, 36, 124, 40, 41, 91, 93, 123, 125, 42, 43, 63, 92] from rfl] at HOf
  have HH1 := Lib.hid (fun w => has_any (ofBytes [46, 94, 36, 124, 40, 41, 91, 93, 123, 125, 42, 43, 63, 92]) (c : Int) w (by omega) (by omega))
  have HH2 := Lib.hid (fun w => has_any (span 97 123 ||| span 65 91 ||| span 48 58) (c : Int) w (by omega) (by omega))
  rw [show ((c : Nat) : Int).toNat = c from rfl, ho] at HH1
  rw [show ((c : Nat) : Int).toNat = c from rfl, hl] at HH2
  have HR1 := Lib.hid (fun w => range_any 97 122 w (by decide) (by decide) (by decide) (by decide))
  have HR2 := Lib.hid (fun w => range_any 65 90 w (by decide) (by decide) (by decide) (by decide))
  have HR3 := Lib.hid (fun w => range_any 48 57 w (by decide) (by decide) (by decide) (by decide))
  have HO1 := Lib.hid (fun w => or_any (span 97 123) (span 65 91) w)
  have HO2 := Lib.hid (fun w => or_any (span 97 123 ||| span 65 91) (span 48 58) w)
  rw [show span (97 : Int).toNat ((122 : Int).toNat + 1) = span 97 123 from rfl] at HR1
  rw [show span (65 : Int).toNat ((90 : Int).toNat + 1) = span 65 91 from rfl] at HR2
  rw [show span (48 : Int).toNat ((57 : Int).toNat + 1) = span 48 58 from rfl] at HR3
  rw [bytes_esc c hc hl] at HL2
  have hs1 := str1 w c hc
  clear hw hE hC ho hl
  generalize hOO : ofBytes [46, 94, 36, 124, 40, 41, 91, 93, 123, 125, 42, 43, 63, 92] = OO at HOf HH1
  generalize hLL : span 97 123 ||| span 65 91 ||| span 48 58 = LL at HO2 HH2
  generalize hLM : span 97 123 ||| span 65 91 = LM at HO1 HO2
  generalize hA : span 97 123 = SA at HR1 HO1
  generalize hB : span 65 91 = SB at HR2 HO1
  generalize hD : span 48 58 = SD at HR3 HO2
  clear hOO hLL hLM hA hB hD
  obtain ⟨T, hT⟩ : ∃ T : Tok, T = ⟨0, oneS c, 0, 0, 0, 0, ByteArray.empty⟩ := ⟨_, rfl⟩
  rw [← hT] at HL2
  have HTT := Lib.hid hT
  have hTS : oneS c = T.S := by rw [hT]
  rw [hTS] at HOn
  have HTc := Lib.hid (show tokC T = #[.int .i64 0, .int .u64 (W T.S 0), .int .u64 (W T.S 1), .int .u64 (W T.S 2), .int .u64 (W T.S 3), .int .i64 0, .int .i64 0, .int .i64 0, .int .i64 0, .string ⟨#[]⟩] by rw [hT]; rfl)
  clear hT hTS
  go_enter Tryd.func6, Tryd.ntmps6
  go_wp2_with fail
  clear hs1
  with_reducible refine (HL1.out _ (HT.out.alloc _)).mono ?_
  rintro e w1 ⟨v1, rfl, ho1, hb⟩
  have HB1 := Lib.hid (((Below.refl _ w).alloc (Nat.le_refl _) _).trans (hb.mono (show w.heap.size ≤ _ by simp)))
  clear hb
  generalize (lexZ ⟨#[c.toUInt8]⟩).2 = e1
  clear ho1
  have hs2 := str2 w1 c hc
  go_wp2_with fail
  clear hs2
  with_reducible refine (HL2.out _ ((HT.out.call HB1.out).alloc _)).mono ?_
  rintro e w2 ⟨v2, rfl, ho2, hb⟩
  have HB2 := Lib.hid (thenB (HB1.out.alloc HB1.out.size _) hb (HB1.out.alloc HB1.out.size _).size)
  clear hb
  obtain ⟨g2, cap2, hv2, hlt2, hr2⟩ := own_one ho2
  subst hv2
  clear ho2
  have HLt2 := Lib.hid hlt2
  have HR2' := Lib.hid hr2
  clear hlt2 hr2
  go_wp2_with fail
  with_reducible refine (HOn.out _).mono ?_
  rintro e w3 ⟨rfl, hb⟩
  have HR2' := Lib.hid (range_call HR2'.out HLt2.out hb)
  have HLt2 := Lib.hid (Nat.lt_of_lt_of_le HLt2.out hb.size)
  have HB3 := Lib.hid (thenB HB2.out hb HB2.out.size)
  clear hb
  go_wp2_with fail
  have hBT : BoxT 46 (World.alloc w3 (.cells #[.int .i64 0, .int .u64 (W T.S 0), .int .u64 (W T.S 1), .int .u64 (W T.S 2), .int .u64 (W T.S 3), .int .i64 0, .int .i64 0, .int .i64 0, .int .i64 0, .string ⟨#[]⟩] 46)) w3.heap.size T := newT HTc.out.symm
  have HBT := Lib.hid hBT
  clear hBT
  have hb : Below w3.heap.size w3 (World.alloc w3 (.cells #[.int .i64 0, .int .u64 (W T.S 0), .int .u64 (W T.S 1), .int .u64 (W T.S 2), .int .u64 (W T.S 3), .int .i64 0, .int .i64 0, .int .i64 0, .int .i64 0, .string ⟨#[]⟩] 46)) := (Below.refl _ w3).alloc (Nat.le_refl _) _
  have HR2' := Lib.hid (range_call HR2'.out HLt2.out hb)
  have HLt2 := Lib.hid (Nat.lt_of_lt_of_le HLt2.out hb.size)
  have HB4 := Lib.hid (thenB HB3.out hb HB3.out.size)
  clear hb
  with_reducible refine (HOf.out _).mono ?_
  rintro e x0 ⟨rfl, hb⟩
  have HBT := Lib.hid (HBT.out.below hb HBT.out.lt)
  have HR2' := Lib.hid (range_call HR2'.out HLt2.out hb)
  have HLt2 := Lib.hid (Nat.lt_of_lt_of_le HLt2.out hb.size)
  have HB4 := Lib.hid (thenB HB4.out hb HB4.out.size)
  clear hb
  go_wp2_with fail
  with_reducible refine (HH1.out _).mono ?_
  rintro e x1 ⟨rfl, hb⟩
  have HBT := Lib.hid (HBT.out.below hb HBT.out.lt)
  have HR2' := Lib.hid (range_call HR2'.out HLt2.out hb)
  have HLt2 := Lib.hid (Nat.lt_of_lt_of_le HLt2.out hb.size)
  have HB4 := Lib.hid (thenB HB4.out hb HB4.out.size)
  clear hb
  go_wp2_with fail
  with_reducible refine (HR1.out _).mono ?_
  rintro e x2 ⟨rfl, hb⟩
  have HBT := Lib.hid (HBT.out.below hb HBT.out.lt)
  have HR2' := Lib.hid (range_call HR2'.out HLt2.out hb)
  have HLt2 := Lib.hid (Nat.lt_of_lt_of_le HLt2.out hb.size)
  have HB4 := Lib.hid (thenB HB4.out hb HB4.out.size)
  clear hb
  go_wp2_with fail
  with_reducible refine (HR2.out _).mono ?_
  rintro e x3 ⟨rfl, hb⟩
  have HBT := Lib.hid (HBT.out.below hb HBT.out.lt)
  have HR2' := Lib.hid (range_call HR2'.out HLt2.out hb)
  have HLt2 := Lib.hid (Nat.lt_of_lt_of_le HLt2.out hb.size)
  have HB4 := Lib.hid (thenB HB4.out hb HB4.out.size)
  clear hb
  go_wp2_with fail
  with_reducible refine (HO1.out _).mono ?_
  rintro e x4 ⟨rfl, hb⟩
  have HBT := Lib.hid (HBT.out.below hb HBT.out.lt)
  have HR2' := Lib.hid (range_call HR2'.out HLt2.out hb)
  have HLt2 := Lib.hid (Nat.lt_of_lt_of_le HLt2.out hb.size)
  have HB4 := Lib.hid (thenB HB4.out hb HB4.out.size)
  clear hb
  go_wp2_with fail
  with_reducible refine (HR3.out _).mono ?_
  rintro e x5 ⟨rfl, hb⟩
  have HBT := Lib.hid (HBT.out.below hb HBT.out.lt)
  have HR2' := Lib.hid (range_call HR2'.out HLt2.out hb)
  have HLt2 := Lib.hid (Nat.lt_of_lt_of_le HLt2.out hb.size)
  have HB4 := Lib.hid (thenB HB4.out hb HB4.out.size)
  clear hb
  go_wp2_with fail
  with_reducible refine (HO2.out _).mono ?_
  rintro e x6 ⟨rfl, hb⟩
  have HBT := Lib.hid (HBT.out.below hb HBT.out.lt)
  have HR2' := Lib.hid (range_call HR2'.out HLt2.out hb)
  have HLt2 := Lib.hid (Nat.lt_of_lt_of_le HLt2.out hb.size)
  have HB4 := Lib.hid (thenB HB4.out hb HB4.out.size)
  clear hb
  go_wp2_with fail
  with_reducible refine (HH2.out _).mono ?_
  rintro e x7 ⟨rfl, hb⟩
  have HBT := Lib.hid (HBT.out.below hb HBT.out.lt)
  have HR2' := Lib.hid (range_call HR2'.out HLt2.out hb)
  have HLt2 := Lib.hid (Nat.lt_of_lt_of_le HLt2.out hb.size)
  have HB4 := Lib.hid (thenB HB4.out hb HB4.out.size)
  clear hb
  go_wp2_with fail
  have hS0 : (True) ∧ x7.rangeAt w3.heap.size 0 (tokC T).toList ∧ (x7.rangeAt g2 0 (tokC T).toList) ∧ Below w.heap.size w x7 := ⟨trivial, boxT_range HBT.out, HR2'.out, HB4.out⟩
  have hT0 := HT.out.call HB4.out
  refine wp_region_held_drew (S := fun u => (True) ∧ u.rangeAt w3.heap.size 0 (tokC T).toList ∧ (u.rangeAt g2 0 (tokC T).toList) ∧ Below w.heap.size w u) (by kernel_rfl) (show _ from ⟨hS0.1, hS0.2.1, hS0.2.2.1, hS0.2.2.2.drew⟩) (fun hS0 => ?_)
  have hT0 : Tabs x7.drew := HT.out.call hS0.2.2.2
  refine takeAt 0 37 (.bool true) rfl rfl (by kernel_rfl) (by kernel_rfl) (by kernel_rfl) (fun _ _ _ h => h) (yields (by rfl) (fun w => by kernel_rfl)) hS0 ?_
  simp only [Act.put, List.setIfInBounds_toArray, List.set_cons_zero, List.set_cons_succ]
  refine takeAt 1 38 (.bool false) rfl rfl (by kernel_rfl) (by kernel_rfl) (by kernel_rfl) (fun _ _ _ h => h) (yields (by rfl) (fun w => by kernel_rfl)) hS0 ?_
  simp only [Act.put, List.setIfInBounds_toArray, List.set_cons_zero, List.set_cons_succ]
  refine takeAt 2 39 (.bool false) rfl rfl (by kernel_rfl) (by kernel_rfl) (by kernel_rfl) (fun _ _ _ h => h) (yields (by rfl) (fun w => by kernel_rfl)) hS0 ?_
  simp only [Act.put, List.setIfInBounds_toArray, List.set_cons_zero, List.set_cons_succ]
  refine takeAt 3 40 (undef) rfl rfl (by kernel_rfl) (by kernel_rfl) (by kernel_rfl) (fun _ _ _ h => h) (skipped (by rfl)) hS0 ?_
  simp only [Act.put, List.setIfInBounds_toArray, List.set_cons_zero, List.set_cons_succ]
  refine takeAt 4 41 (undef) rfl rfl (by kernel_rfl) (by kernel_rfl) (by kernel_rfl) (fun _ _ _ h => h) (skipped (by rfl)) hS0 ?_
  simp only [Act.put, List.setIfInBounds_toArray, List.set_cons_zero, List.set_cons_succ]
  refine takeAt 5 42 (undef) rfl rfl (by kernel_rfl) (by kernel_rfl) (by kernel_rfl) (fun _ _ _ h => h) (skipped (by rfl)) hS0 ?_
  simp only [Act.put, List.setIfInBounds_toArray, List.set_cons_zero, List.set_cons_succ]
  refine takeAt 6 43 (undef) rfl rfl (by kernel_rfl) (by kernel_rfl) (by kernel_rfl) (fun _ _ _ h => h) (skipped (by rfl)) hS0 ?_
  simp only [Act.put, List.setIfInBounds_toArray, List.set_cons_zero, List.set_cons_succ]
  refine takeAt 7 44 (undef) rfl rfl (by kernel_rfl) (by kernel_rfl) (by kernel_rfl) (fun _ _ _ h => h) (skipped (by rfl)) hS0 ?_
  simp only [Act.put, List.setIfInBounds_toArray, List.set_cons_zero, List.set_cons_succ]
  refine takeAt 8 45 (undef) rfl rfl (by kernel_rfl) (by kernel_rfl) (by kernel_rfl) (fun _ _ _ h => h) (skipped (by rfl)) hS0 ?_
  simp only [Act.put, List.setIfInBounds_toArray, List.set_cons_zero, List.set_cons_succ]
  refine takeAt 9 46 (undef) rfl rfl (by kernel_rfl) (by kernel_rfl) (by kernel_rfl) (fun _ _ _ h => h) (skipped (by rfl)) hS0 ?_
  simp only [Act.put, List.setIfInBounds_toArray, List.set_cons_zero, List.set_cons_succ]
  refine takeAt 10 47 (undef) rfl rfl (by kernel_rfl) (by kernel_rfl) (by kernel_rfl) (fun _ _ _ h => h) (skipped (by rfl)) hS0 ?_
  simp only [Act.put, List.setIfInBounds_toArray, List.set_cons_zero, List.set_cons_succ]
  refine takeAt 11 48 (undef) rfl rfl (by kernel_rfl) (by kernel_rfl) (by kernel_rfl) (fun _ _ _ h => h) (skipped (by rfl)) hS0 ?_
  simp only [Act.put, List.setIfInBounds_toArray, List.set_cons_zero, List.set_cons_succ]
  as_aux_lemma =>
    refine takeAt 12 49 (undef) rfl rfl (by kernel_rfl) (by kernel_rfl) (by kernel_rfl) (fun _ _ _ h => h) (skipped (by rfl)) hS0 ?_
    simp only [Act.put, List.setIfInBounds_toArray, List.set_cons_zero, List.set_cons_succ]
    refine takeAt 13 50 (undef) rfl rfl (by kernel_rfl) (by kernel_rfl) (by kernel_rfl) (fun _ _ _ h => h) (skipped (by rfl)) hS0 ?_
    simp only [Act.put, List.setIfInBounds_toArray, List.set_cons_zero, List.set_cons_succ]
    refine takeAt 14 51 (undef) rfl rfl (by kernel_rfl) (by kernel_rfl) (by kernel_rfl) (fun _ _ _ h => h) (skipped (by rfl)) hS0 ?_
    simp only [Act.put, List.setIfInBounds_toArray, List.set_cons_zero, List.set_cons_succ]
    refine takeAt 15 52 (undef) rfl rfl (by kernel_rfl) (by kernel_rfl) (by kernel_rfl) (fun _ _ _ h => h) (skipped (by rfl)) hS0 ?_
    simp only [Act.put, List.setIfInBounds_toArray, List.set_cons_zero, List.set_cons_succ]
    refine takeAt 16 53 (undef) rfl rfl (by kernel_rfl) (by kernel_rfl) (by kernel_rfl) (fun _ _ _ h => h) (skipped (by rfl)) hS0 ?_
    simp only [Act.put, List.setIfInBounds_toArray, List.set_cons_zero, List.set_cons_succ]
    refine takeAt 17 54 (.bool false) rfl rfl (by kernel_rfl) (by kernel_rfl) (by kernel_rfl) (fun _ _ _ h => h) (yields (by rfl) (fun w => by kernel_rfl)) hS0 ?_
    simp only [Act.put, List.setIfInBounds_toArray, List.set_cons_zero, List.set_cons_succ]
    refine takeAt 18 55 (.bool false) rfl rfl (by kernel_rfl) (by kernel_rfl) (by kernel_rfl) (fun _ _ _ h => h) (yields (by rfl) (fun w => by kernel_rfl)) hS0 ?_
    simp only [Act.put, List.setIfInBounds_toArray, List.set_cons_zero, List.set_cons_succ]
    refine takeAt 19 56 (.bool false) rfl rfl (by kernel_rfl) (by kernel_rfl) (by kernel_rfl) (fun _ _ _ h => h) (yields (by rfl) (fun w => by kernel_rfl)) hS0 ?_
    simp only [Act.put, List.setIfInBounds_toArray, List.set_cons_zero, List.set_cons_succ]
    refine takeAt 20 57 (.bool true) rfl rfl (by kernel_rfl) (by kernel_rfl) (by kernel_rfl) (fun _ _ _ h => h) (yields (by rfl) (fun w => by kernel_rfl)) hS0 ?_
    simp only [Act.put, List.setIfInBounds_toArray, List.set_cons_zero, List.set_cons_succ]
    refine takeAt 21 58 (.bool true) rfl rfl (by kernel_rfl) (by kernel_rfl) (by kernel_rfl) (fun _ _ _ h => h) (yields (by rfl) (fun w => by kernel_rfl)) hS0 ?_
    simp only [Act.put, List.setIfInBounds_toArray, List.set_cons_zero, List.set_cons_succ]
    refine takeAt 22 59 (.int .i64 0) rfl rfl (by kernel_rfl) (by kernel_rfl) (by kernel_rfl) (fun _ _ _ h => h) (yields (by rfl) (fun w => by kernel_rfl)) hS0 ?_
    simp only [Act.put, List.setIfInBounds_toArray, List.set_cons_zero, List.set_cons_succ]
    refine takeAt 23 60 (.bool false) rfl rfl (by kernel_rfl) (by kernel_rfl) (by kernel_rfl) (fun _ _ _ h => h) (yields (by rfl) (fun w => by kernel_rfl)) hS0 ?_
    simp only [Act.put, List.setIfInBounds_toArray, List.set_cons_zero, List.set_cons_succ]
    as_aux_lemma =>
      refine takeAt 24 61 (.bool false) rfl rfl (by kernel_rfl) (by kernel_rfl) (by kernel_rfl) (fun _ _ _ h => h) (yields (by rfl) (fun w => by kernel_rfl)) hS0 ?_
      simp only [Act.put, List.setIfInBounds_toArray, List.set_cons_zero, List.set_cons_succ]
      refine takeAt 25 62 (.slice (some ⟨g2, 0, none⟩) 1 cap2) rfl rfl (by kernel_rfl) (by kernel_rfl) (by kernel_rfl) (fun _ _ _ h => h) (yields (by rfl) (fun w => by kernel_rfl)) hS0 ?_
      simp only [Act.put, List.setIfInBounds_toArray, List.set_cons_zero, List.set_cons_succ]
      refine takeAt 26 63 (.int .i64 1) rfl rfl (by kernel_rfl) (by kernel_rfl) (by kernel_rfl) (fun _ _ _ h => h) (yields (by rfl) (fun w => by kernel_rfl)) hS0 ?_
      simp only [Act.put, List.setIfInBounds_toArray, List.set_cons_zero, List.set_cons_succ]
      refine takeAt 27 64 (.bool false) rfl rfl (by kernel_rfl) (by kernel_rfl) (by kernel_rfl) (fun _ _ _ h => h) (yields (by rfl) (fun w => by kernel_rfl)) hS0 ?_
      simp only [Act.put, List.setIfInBounds_toArray, List.set_cons_zero, List.set_cons_succ]
      refine takeAt 28 65 (.bool false) rfl rfl (by kernel_rfl) (by kernel_rfl) (by kernel_rfl) (fun _ _ _ h => h) (yields (by rfl) (fun w => by kernel_rfl)) hS0 ?_
      simp only [Act.put, List.setIfInBounds_toArray, List.set_cons_zero, List.set_cons_succ]
      refine takeAt 29 66 (.bool false) rfl rfl (by kernel_rfl) (by kernel_rfl) (by kernel_rfl) (fun _ _ _ h => h) (yields (by rfl) (fun w => by kernel_rfl)) hS0 ?_
      simp only [Act.put, List.setIfInBounds_toArray, List.set_cons_zero, List.set_cons_succ]
      refine takeAt 30 67 (.slice (some ⟨g2, 0, none⟩) 1 cap2) rfl rfl (by kernel_rfl) (by kernel_rfl) (by kernel_rfl) (fun _ _ _ h => h) (yields (by rfl) (fun w => by kernel_rfl)) hS0 ?_
      simp only [Act.put, List.setIfInBounds_toArray, List.set_cons_zero, List.set_cons_succ]
      refine takeAt 31 68 (.pointer (some ⟨g2, 0, none⟩)) rfl rfl (by kernel_rfl) (by kernel_rfl) (by kernel_rfl) (fun _ _ _ h => h) (yields (by rfl) (fun w => by kernel_rfl)) hS0 ?_
      simp only [Act.put, List.setIfInBounds_toArray, List.set_cons_zero, List.set_cons_succ]
      refine takeAt 32 69 (tokV T) rfl rfl (by kernel_rfl) (by kernel_rfl) (by kernel_rfl) (fun _ _ _ h => h) (tokR_y (g2) T (fun _ h => h.2.2.1) rfl rfl (by rfl)) hS0 ?_
      simp only [Act.put, List.setIfInBounds_toArray, List.set_cons_zero, List.set_cons_succ]
      refine takeAt 33 70 (tokV T) rfl rfl (by kernel_rfl) (by kernel_rfl) (by kernel_rfl) (fun _ _ _ h => h) (tokR_y (w3.heap.size) T (fun _ h => h.2.1) rfl rfl (by rfl)) hS0 ?_
      simp only [Act.put, List.setIfInBounds_toArray, List.set_cons_zero, List.set_cons_succ]
      refine takeAt 34 71 (.bool false) rfl rfl (by kernel_rfl) (by kernel_rfl) (by kernel_rfl) (fun _ _ _ h => h) (neqTok_y T rfl rfl rfl (by rfl)) hS0 ?_
      simp only [Act.put, List.setIfInBounds_toArray, List.set_cons_zero, List.set_cons_succ]
      refine takeAt 35 72 (.bool false) rfl rfl (by kernel_rfl) (by kernel_rfl) (by kernel_rfl) (fun _ _ _ h => h) (yields (by rfl) (fun w => by kernel_rfl)) hS0 ?_
      simp only [Act.put, List.setIfInBounds_toArray, List.set_cons_zero, List.set_cons_succ]
      as_aux_lemma =>
        refine takeAt 36 73 (.bool false) rfl rfl (by kernel_rfl) (by kernel_rfl) (by kernel_rfl) (fun _ _ _ h => h) (yields (by rfl) (fun w => by kernel_rfl)) hS0 ?_
        simp only [Act.put, List.setIfInBounds_toArray, List.set_cons_zero, List.set_cons_succ]
        refine takeAt 37 74 (.bool false) rfl rfl (by kernel_rfl) (by kernel_rfl) (by kernel_rfl) (fun _ _ _ h => h) (yields (by rfl) (fun w => by kernel_rfl)) hS0 ?_
        simp only [Act.put, List.setIfInBounds_toArray, List.set_cons_zero, List.set_cons_succ]
        refine wpAnyH_done (by kernel_rfl) ?_ _
        go_wp2_with fail
        refine (HF.out _ hT0).mono ?_
        rintro e w6 ⟨rfl, hb⟩
        have HB6 := Lib.hid (thenB hS0.2.2.2 hb hS0.2.2.2.size)
        clear hb
        go_wp2_with fail
        go_ret
        exact ⟨rfl, HB6.out⟩
set_option maxRecDepth 100000 in
set_option maxHeartbeats 16000000 in
theorem bytes_yy (hE : ErrsOk) (hC : CloneOk) (c : Nat) (w : World) (hc : c < 256) (hw : Tabs w) (ho : mem (ofBytes [46, 94, 36, 124, 40, 41, 91, 93, 123, 125, 42, 43, 63, 92]) c = true) (hl : mem (span 97 123 ||| span 65 91 ||| span 48 58) c = true) : Calls Tryd.prog 6 #[.int .u8 (c : Int)] w fun e w' => e = .returned (.bool true) ∧ Below w.heap.size w w' := by
  have HL1 := Lib.hid (fun w (h : Tabs w) => lex_any hE hC ⟨#[c.toUInt8]⟩ w h.err h.tab h.op)
  have HL2 := Lib.hid (fun w (h : Tabs w) => lex_any hE hC ⟨#[92, c.toUInt8]⟩ w h.err h.tab h.op)
  have HF := Lib.hid (fun w (h : Tabs w) => fixed_any hE hC w h)
  have HT := Lib.hid hw
  have HOn := Lib.hid (fun w => one_any (c : Int) w (by omega) (by omega))
  rw [show ((c : Nat) : Int).toNat = c from rfl, one_eq hc] at HOn
  have HOf := Lib.hid (fun w => of_any ⟨#[46, 94, 36, 124, 40, 41, 91, 93, 123, 125, 42, 43, 63, 92]⟩ w (by decide))
  rw [show (ByteArray.mk #[46, 94, 36, 124, 40, 41, 91, 93, 123, 125, 42, 43, 63, 92]).data.toList = [46, 94, 36, 124, 40, 41, 91, 93, 123, 125, 42, 43, 63, 92] from rfl] at HOf
  have HH1 := Lib.hid (fun w => has_any (ofBytes [46, 94, 36, 124, 40, 41, 91, 93, 123, 125, 42, 43, 63, 92]) (c : Int) w (by omega) (by omega))
  have HH2 := Lib.hid (fun w => has_any (span 97 123 ||| span 65 91 ||| span 48 58) (c : Int) w (by omega) (by omega))
  rw [show ((c : Nat) : Int).toNat = c from rfl, ho] at HH1
  rw [show ((c : Nat) : Int).toNat = c from rfl, hl] at HH2
  have HR1 := Lib.hid (fun w => range_any 97 122 w (by decide) (by decide) (by decide) (by decide))
  have HR2 := Lib.hid (fun w => range_any 65 90 w (by decide) (by decide) (by decide) (by decide))
  have HR3 := Lib.hid (fun w => range_any 48 57 w (by decide) (by decide) (by decide) (by decide))
  have HO1 := Lib.hid (fun w => or_any (span 97 123) (span 65 91) w)
  have HO2 := Lib.hid (fun w => or_any (span 97 123 ||| span 65 91) (span 48 58) w)
  rw [show span (97 : Int).toNat ((122 : Int).toNat + 1) = span 97 123 from rfl] at HR1
  rw [show span (65 : Int).toNat ((90 : Int).toNat + 1) = span 65 91 from rfl] at HR2
  rw [show span (48 : Int).toNat ((57 : Int).toNat + 1) = span 48 58 from rfl] at HR3
  have hs1 := str1 w c hc
  clear hw hE hC ho hl
  generalize hOO : ofBytes [46, 94, 36, 124, 40, 41, 91, 93, 123, 125, 42, 43, 63, 92] = OO at HOf HH1
  generalize hLL : span 97 123 ||| span 65 91 ||| span 48 58 = LL at HO2 HH2
  generalize hLM : span 97 123 ||| span 65 91 = LM at HO1 HO2
  generalize hA : span 97 123 = SA at HR1 HO1
  generalize hB : span 65 91 = SB at HR2 HO1
  generalize hD : span 48 58 = SD at HR3 HO2
  clear hOO hLL hLM hA hB hD
  obtain ⟨T, hT⟩ : ∃ T : Tok, T = ⟨0, oneS c, 0, 0, 0, 0, ByteArray.empty⟩ := ⟨_, rfl⟩
  have HTT := Lib.hid hT
  have hTS : oneS c = T.S := by rw [hT]
  rw [hTS] at HOn
  have HTc := Lib.hid (show tokC T = #[.int .i64 0, .int .u64 (W T.S 0), .int .u64 (W T.S 1), .int .u64 (W T.S 2), .int .u64 (W T.S 3), .int .i64 0, .int .i64 0, .int .i64 0, .int .i64 0, .string ⟨#[]⟩] by rw [hT]; rfl)
  clear hT hTS
  go_enter Tryd.func6, Tryd.ntmps6
  go_wp2_with fail
  clear hs1
  with_reducible refine (HL1.out _ (HT.out.alloc _)).mono ?_
  rintro e w1 ⟨v1, rfl, ho1, hb⟩
  have HB1 := Lib.hid (((Below.refl _ w).alloc (Nat.le_refl _) _).trans (hb.mono (show w.heap.size ≤ _ by simp)))
  clear hb
  generalize (lexZ ⟨#[c.toUInt8]⟩).2 = e1
  clear ho1
  have hs2 := str2 w1 c hc
  go_wp2_with fail
  clear hs2
  with_reducible refine (HL2.out _ ((HT.out.call HB1.out).alloc _)).mono ?_
  rintro e w2 ⟨v2, rfl, ho2, hb⟩
  have HB2 := Lib.hid (thenB (HB1.out.alloc HB1.out.size _) hb (HB1.out.alloc HB1.out.size _).size)
  clear hb
  generalize (lexZ ⟨#[92, c.toUInt8]⟩).2 = e2
  clear ho2
  go_wp2_with fail
  with_reducible refine (HOn.out _).mono ?_
  rintro e w3 ⟨rfl, hb⟩
  have HB3 := Lib.hid (thenB HB2.out hb HB2.out.size)
  clear hb
  go_wp2_with fail
  have hBT : BoxT 46 (World.alloc w3 (.cells #[.int .i64 0, .int .u64 (W T.S 0), .int .u64 (W T.S 1), .int .u64 (W T.S 2), .int .u64 (W T.S 3), .int .i64 0, .int .i64 0, .int .i64 0, .int .i64 0, .string ⟨#[]⟩] 46)) w3.heap.size T := newT HTc.out.symm
  have HBT := Lib.hid hBT
  clear hBT
  have hb : Below w3.heap.size w3 (World.alloc w3 (.cells #[.int .i64 0, .int .u64 (W T.S 0), .int .u64 (W T.S 1), .int .u64 (W T.S 2), .int .u64 (W T.S 3), .int .i64 0, .int .i64 0, .int .i64 0, .int .i64 0, .string ⟨#[]⟩] 46)) := (Below.refl _ w3).alloc (Nat.le_refl _) _
  have HB4 := Lib.hid (thenB HB3.out hb HB3.out.size)
  clear hb
  with_reducible refine (HOf.out _).mono ?_
  rintro e x0 ⟨rfl, hb⟩
  have HBT := Lib.hid (HBT.out.below hb HBT.out.lt)
  have HB4 := Lib.hid (thenB HB4.out hb HB4.out.size)
  clear hb
  go_wp2_with fail
  with_reducible refine (HH1.out _).mono ?_
  rintro e x1 ⟨rfl, hb⟩
  have HBT := Lib.hid (HBT.out.below hb HBT.out.lt)
  have HB4 := Lib.hid (thenB HB4.out hb HB4.out.size)
  clear hb
  go_wp2_with fail
  with_reducible refine (HR1.out _).mono ?_
  rintro e x2 ⟨rfl, hb⟩
  have HBT := Lib.hid (HBT.out.below hb HBT.out.lt)
  have HB4 := Lib.hid (thenB HB4.out hb HB4.out.size)
  clear hb
  go_wp2_with fail
  with_reducible refine (HR2.out _).mono ?_
  rintro e x3 ⟨rfl, hb⟩
  have HBT := Lib.hid (HBT.out.below hb HBT.out.lt)
  have HB4 := Lib.hid (thenB HB4.out hb HB4.out.size)
  clear hb
  go_wp2_with fail
  with_reducible refine (HO1.out _).mono ?_
  rintro e x4 ⟨rfl, hb⟩
  have HBT := Lib.hid (HBT.out.below hb HBT.out.lt)
  have HB4 := Lib.hid (thenB HB4.out hb HB4.out.size)
  clear hb
  go_wp2_with fail
  with_reducible refine (HR3.out _).mono ?_
  rintro e x5 ⟨rfl, hb⟩
  have HBT := Lib.hid (HBT.out.below hb HBT.out.lt)
  have HB4 := Lib.hid (thenB HB4.out hb HB4.out.size)
  clear hb
  go_wp2_with fail
  with_reducible refine (HO2.out _).mono ?_
  rintro e x6 ⟨rfl, hb⟩
  have HBT := Lib.hid (HBT.out.below hb HBT.out.lt)
  have HB4 := Lib.hid (thenB HB4.out hb HB4.out.size)
  clear hb
  go_wp2_with fail
  with_reducible refine (HH2.out _).mono ?_
  rintro e x7 ⟨rfl, hb⟩
  have HBT := Lib.hid (HBT.out.below hb HBT.out.lt)
  have HB4 := Lib.hid (thenB HB4.out hb HB4.out.size)
  clear hb
  go_wp2_with fail
  have hS0 : (True) ∧ x7.rangeAt w3.heap.size 0 (tokC T).toList ∧ (True) ∧ Below w.heap.size w x7 := ⟨trivial, boxT_range HBT.out, trivial, HB4.out⟩
  have hT0 := HT.out.call HB4.out
  refine wp_region_held_drew (S := fun u => (True) ∧ u.rangeAt w3.heap.size 0 (tokC T).toList ∧ (True) ∧ Below w.heap.size w u) (by kernel_rfl) (show _ from ⟨hS0.1, hS0.2.1, hS0.2.2.1, hS0.2.2.2.drew⟩) (fun hS0 => ?_)
  have hT0 : Tabs x7.drew := HT.out.call hS0.2.2.2
  refine takeAt 0 37 (.bool true) rfl rfl (by kernel_rfl) (by kernel_rfl) (by kernel_rfl) (fun _ _ _ h => h) (yields (by rfl) (fun w => by kernel_rfl)) hS0 ?_
  simp only [Act.put, List.setIfInBounds_toArray, List.set_cons_zero, List.set_cons_succ]
  refine takeAt 1 38 (.bool false) rfl rfl (by kernel_rfl) (by kernel_rfl) (by kernel_rfl) (fun _ _ _ h => h) (yields (by rfl) (fun w => by kernel_rfl)) hS0 ?_
  simp only [Act.put, List.setIfInBounds_toArray, List.set_cons_zero, List.set_cons_succ]
  refine takeAt 2 39 (.bool false) rfl rfl (by kernel_rfl) (by kernel_rfl) (by kernel_rfl) (fun _ _ _ h => h) (yields (by rfl) (fun w => by kernel_rfl)) hS0 ?_
  simp only [Act.put, List.setIfInBounds_toArray, List.set_cons_zero, List.set_cons_succ]
  refine takeAt 3 40 (undef) rfl rfl (by kernel_rfl) (by kernel_rfl) (by kernel_rfl) (fun _ _ _ h => h) (skipped (by rfl)) hS0 ?_
  simp only [Act.put, List.setIfInBounds_toArray, List.set_cons_zero, List.set_cons_succ]
  refine takeAt 4 41 (undef) rfl rfl (by kernel_rfl) (by kernel_rfl) (by kernel_rfl) (fun _ _ _ h => h) (skipped (by rfl)) hS0 ?_
  simp only [Act.put, List.setIfInBounds_toArray, List.set_cons_zero, List.set_cons_succ]
  refine takeAt 5 42 (undef) rfl rfl (by kernel_rfl) (by kernel_rfl) (by kernel_rfl) (fun _ _ _ h => h) (skipped (by rfl)) hS0 ?_
  simp only [Act.put, List.setIfInBounds_toArray, List.set_cons_zero, List.set_cons_succ]
  refine takeAt 6 43 (undef) rfl rfl (by kernel_rfl) (by kernel_rfl) (by kernel_rfl) (fun _ _ _ h => h) (skipped (by rfl)) hS0 ?_
  simp only [Act.put, List.setIfInBounds_toArray, List.set_cons_zero, List.set_cons_succ]
  refine takeAt 7 44 (undef) rfl rfl (by kernel_rfl) (by kernel_rfl) (by kernel_rfl) (fun _ _ _ h => h) (skipped (by rfl)) hS0 ?_
  simp only [Act.put, List.setIfInBounds_toArray, List.set_cons_zero, List.set_cons_succ]
  refine takeAt 8 45 (undef) rfl rfl (by kernel_rfl) (by kernel_rfl) (by kernel_rfl) (fun _ _ _ h => h) (skipped (by rfl)) hS0 ?_
  simp only [Act.put, List.setIfInBounds_toArray, List.set_cons_zero, List.set_cons_succ]
  refine takeAt 9 46 (undef) rfl rfl (by kernel_rfl) (by kernel_rfl) (by kernel_rfl) (fun _ _ _ h => h) (skipped (by rfl)) hS0 ?_
  simp only [Act.put, List.setIfInBounds_toArray, List.set_cons_zero, List.set_cons_succ]
  refine takeAt 10 47 (undef) rfl rfl (by kernel_rfl) (by kernel_rfl) (by kernel_rfl) (fun _ _ _ h => h) (skipped (by rfl)) hS0 ?_
  simp only [Act.put, List.setIfInBounds_toArray, List.set_cons_zero, List.set_cons_succ]
  refine takeAt 11 48 (undef) rfl rfl (by kernel_rfl) (by kernel_rfl) (by kernel_rfl) (fun _ _ _ h => h) (skipped (by rfl)) hS0 ?_
  simp only [Act.put, List.setIfInBounds_toArray, List.set_cons_zero, List.set_cons_succ]
  as_aux_lemma =>
    refine takeAt 12 49 (undef) rfl rfl (by kernel_rfl) (by kernel_rfl) (by kernel_rfl) (fun _ _ _ h => h) (skipped (by rfl)) hS0 ?_
    simp only [Act.put, List.setIfInBounds_toArray, List.set_cons_zero, List.set_cons_succ]
    refine takeAt 13 50 (undef) rfl rfl (by kernel_rfl) (by kernel_rfl) (by kernel_rfl) (fun _ _ _ h => h) (skipped (by rfl)) hS0 ?_
    simp only [Act.put, List.setIfInBounds_toArray, List.set_cons_zero, List.set_cons_succ]
    refine takeAt 14 51 (undef) rfl rfl (by kernel_rfl) (by kernel_rfl) (by kernel_rfl) (fun _ _ _ h => h) (skipped (by rfl)) hS0 ?_
    simp only [Act.put, List.setIfInBounds_toArray, List.set_cons_zero, List.set_cons_succ]
    refine takeAt 15 52 (undef) rfl rfl (by kernel_rfl) (by kernel_rfl) (by kernel_rfl) (fun _ _ _ h => h) (skipped (by rfl)) hS0 ?_
    simp only [Act.put, List.setIfInBounds_toArray, List.set_cons_zero, List.set_cons_succ]
    refine takeAt 16 53 (undef) rfl rfl (by kernel_rfl) (by kernel_rfl) (by kernel_rfl) (fun _ _ _ h => h) (skipped (by rfl)) hS0 ?_
    simp only [Act.put, List.setIfInBounds_toArray, List.set_cons_zero, List.set_cons_succ]
    refine takeAt 17 54 (.bool false) rfl rfl (by kernel_rfl) (by kernel_rfl) (by kernel_rfl) (fun _ _ _ h => h) (yields (by rfl) (fun w => by kernel_rfl)) hS0 ?_
    simp only [Act.put, List.setIfInBounds_toArray, List.set_cons_zero, List.set_cons_succ]
    refine takeAt 18 55 (.bool false) rfl rfl (by kernel_rfl) (by kernel_rfl) (by kernel_rfl) (fun _ _ _ h => h) (yields (by rfl) (fun w => by kernel_rfl)) hS0 ?_
    simp only [Act.put, List.setIfInBounds_toArray, List.set_cons_zero, List.set_cons_succ]
    refine takeAt 19 56 (.bool true) rfl rfl (by kernel_rfl) (by kernel_rfl) (by kernel_rfl) (fun _ _ _ h => h) (yields (by rfl) (fun w => by kernel_rfl)) hS0 ?_
    simp only [Act.put, List.setIfInBounds_toArray, List.set_cons_zero, List.set_cons_succ]
    refine takeAt 20 57 (.bool false) rfl rfl (by kernel_rfl) (by kernel_rfl) (by kernel_rfl) (fun _ _ _ h => h) (yields (by rfl) (fun w => by kernel_rfl)) hS0 ?_
    simp only [Act.put, List.setIfInBounds_toArray, List.set_cons_zero, List.set_cons_succ]
    refine takeAt 21 58 (.bool false) rfl rfl (by kernel_rfl) (by kernel_rfl) (by kernel_rfl) (fun _ _ _ h => h) (yields (by rfl) (fun w => by kernel_rfl)) hS0 ?_
    simp only [Act.put, List.setIfInBounds_toArray, List.set_cons_zero, List.set_cons_succ]
    refine takeAt 22 59 (undef) rfl rfl (by kernel_rfl) (by kernel_rfl) (by kernel_rfl) (fun _ _ _ h => h) (skipped (by rfl)) hS0 ?_
    simp only [Act.put, List.setIfInBounds_toArray, List.set_cons_zero, List.set_cons_succ]
    refine takeAt 23 60 (undef) rfl rfl (by kernel_rfl) (by kernel_rfl) (by kernel_rfl) (fun _ _ _ h => h) (skipped (by rfl)) hS0 ?_
    simp only [Act.put, List.setIfInBounds_toArray, List.set_cons_zero, List.set_cons_succ]
    as_aux_lemma =>
      refine takeAt 24 61 (undef) rfl rfl (by kernel_rfl) (by kernel_rfl) (by kernel_rfl) (fun _ _ _ h => h) (skipped (by rfl)) hS0 ?_
      simp only [Act.put, List.setIfInBounds_toArray, List.set_cons_zero, List.set_cons_succ]
      refine takeAt 25 62 (undef) rfl rfl (by kernel_rfl) (by kernel_rfl) (by kernel_rfl) (fun _ _ _ h => h) (skipped (by rfl)) hS0 ?_
      simp only [Act.put, List.setIfInBounds_toArray, List.set_cons_zero, List.set_cons_succ]
      refine takeAt 26 63 (undef) rfl rfl (by kernel_rfl) (by kernel_rfl) (by kernel_rfl) (fun _ _ _ h => h) (skipped (by rfl)) hS0 ?_
      simp only [Act.put, List.setIfInBounds_toArray, List.set_cons_zero, List.set_cons_succ]
      refine takeAt 27 64 (undef) rfl rfl (by kernel_rfl) (by kernel_rfl) (by kernel_rfl) (fun _ _ _ h => h) (skipped (by rfl)) hS0 ?_
      simp only [Act.put, List.setIfInBounds_toArray, List.set_cons_zero, List.set_cons_succ]
      refine takeAt 28 65 (undef) rfl rfl (by kernel_rfl) (by kernel_rfl) (by kernel_rfl) (fun _ _ _ h => h) (skipped (by rfl)) hS0 ?_
      simp only [Act.put, List.setIfInBounds_toArray, List.set_cons_zero, List.set_cons_succ]
      refine takeAt 29 66 (undef) rfl rfl (by kernel_rfl) (by kernel_rfl) (by kernel_rfl) (fun _ _ _ h => h) (skipped (by rfl)) hS0 ?_
      simp only [Act.put, List.setIfInBounds_toArray, List.set_cons_zero, List.set_cons_succ]
      refine takeAt 30 67 (undef) rfl rfl (by kernel_rfl) (by kernel_rfl) (by kernel_rfl) (fun _ _ _ h => h) (skipped (by rfl)) hS0 ?_
      simp only [Act.put, List.setIfInBounds_toArray, List.set_cons_zero, List.set_cons_succ]
      refine takeAt 31 68 (undef) rfl rfl (by kernel_rfl) (by kernel_rfl) (by kernel_rfl) (fun _ _ _ h => h) (skipped (by rfl)) hS0 ?_
      simp only [Act.put, List.setIfInBounds_toArray, List.set_cons_zero, List.set_cons_succ]
      refine takeAt 32 69 (undef) rfl rfl (by kernel_rfl) (by kernel_rfl) (by kernel_rfl) (fun _ _ _ h => h) (skipped (by rfl)) hS0 ?_
      simp only [Act.put, List.setIfInBounds_toArray, List.set_cons_zero, List.set_cons_succ]
      refine takeAt 33 70 (undef) rfl rfl (by kernel_rfl) (by kernel_rfl) (by kernel_rfl) (fun _ _ _ h => h) (skipped (by rfl)) hS0 ?_
      simp only [Act.put, List.setIfInBounds_toArray, List.set_cons_zero, List.set_cons_succ]
      refine takeAt 34 71 (undef) rfl rfl (by kernel_rfl) (by kernel_rfl) (by kernel_rfl) (fun _ _ _ h => h) (skipped (by rfl)) hS0 ?_
      simp only [Act.put, List.setIfInBounds_toArray, List.set_cons_zero, List.set_cons_succ]
      refine takeAt 35 72 (undef) rfl rfl (by kernel_rfl) (by kernel_rfl) (by kernel_rfl) (fun _ _ _ h => h) (skipped (by rfl)) hS0 ?_
      simp only [Act.put, List.setIfInBounds_toArray, List.set_cons_zero, List.set_cons_succ]
      as_aux_lemma =>
        refine takeAt 36 73 (.bool false) rfl rfl (by kernel_rfl) (by kernel_rfl) (by kernel_rfl) (fun _ _ _ h => h) (yields (by rfl) (fun w => by kernel_rfl)) hS0 ?_
        simp only [Act.put, List.setIfInBounds_toArray, List.set_cons_zero, List.set_cons_succ]
        refine takeAt 37 74 (.bool false) rfl rfl (by kernel_rfl) (by kernel_rfl) (by kernel_rfl) (fun _ _ _ h => h) (yields (by rfl) (fun w => by kernel_rfl)) hS0 ?_
        simp only [Act.put, List.setIfInBounds_toArray, List.set_cons_zero, List.set_cons_succ]
        refine wpAnyH_done (by kernel_rfl) ?_ _
        go_wp2_with fail
        refine (HF.out _ hT0).mono ?_
        rintro e w6 ⟨rfl, hb⟩
        have HB6 := Lib.hid (thenB hS0.2.2.2 hb hS0.2.2.2.size)
        clear hb
        go_wp2_with fail
        go_ret
        exact ⟨rfl, HB6.out⟩
theorem lexBytes_any (hE : ErrsOk) (hC : CloneOk) (c : Nat) (w : World) (hc : c < 256) (hw : Tabs w) : Calls Tryd.prog 6 #[.int .u8 (c : Int)] w fun e w' => e = .returned (.bool true) ∧ Below w.heap.size w w' := by
  cases ho : mem (ofBytes [46, 94, 36, 124, 40, 41, 91, 93, 123, 125, 42, 43, 63, 92]) c <;> cases hl : mem (span 97 123 ||| span 65 91 ||| span 48 58) c
  · exact bytes_nn hE hC c w hc hw ho hl
  · exact bytes_ny hE hC c w hc hw ho hl
  · exact bytes_yn hE hC c w hc hw ho hl
  · exact bytes_yy hE hC c w hc hw ho hl
end Go.Proofs.YtlcecblehffjiaaDoor
