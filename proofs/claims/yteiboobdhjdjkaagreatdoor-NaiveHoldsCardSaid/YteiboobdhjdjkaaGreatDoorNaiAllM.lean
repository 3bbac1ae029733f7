import Derived.Test.YteiboobdhjdjkaaGreatDoorNaiTreeM
import Derived.Test.YteiboobdhjdjkaaGreatDoorMz
namespace Go.Proofs.YteiboobdhjdjkaaGreatDoor.Nai
open Go.RowKit
open Ast (Nd At12 NodesAt Nodes siz rightZ)
open Cap (Cp cpC zrC BoxV)
attribute [local go_sem] Oper.semAt_some
theorem mtW_is (rb nb o : Nat) (z : Int) (w : World) : Below w.heap.size w (mtW rb nb o z w) ∧ (mtW rb nb o z w).heap.size = w.heap.size + 4 ∧ BoxV 44 (mtW rb nb o z w) w.heap.size (cpC zrC) ∧ BoxV 88 (mtW rb nb o z w) (w.heap.size + 1) #[ptr rb] ∧
  BoxV 129 (mtW rb nb o z w) (w.heap.size + 1 + 1) #[.pointer (some ⟨nb, o, none⟩)] ∧ BoxV 93 (mtW rb nb o z w) (w.heap.size + 1 + 1 + 1) (spA z (some ⟨w.heap.size, 0, none⟩)) := by
 have e0 : w.drew.heap.size = w.heap.size := rfl
 refine ⟨?_, by simp [mtW, e0], ((BoxV.new (T := 44) w.drew _).alloc _).alloc _ |>.alloc _, ?_, ?_, ?_⟩
 ·unfold mtW
  exact ((((below_drewN (Below.refl w.heap.size w) 1).alloc (Nat.le_refl _) _).alloc (by simp) _).alloc (by simp; omega) _).alloc (by simp; omega) _
 ·have := BoxV.new (T := 88) (w.drew.alloc (.cells (cpC zrC) 44)) #[ptr rb]
  rw [World.size_alloc] at this
  exact (this.alloc _).alloc _
 ·have := BoxV.new (T := 129) ((w.drew.alloc (.cells (cpC zrC) 44)).alloc (.cells #[ptr rb] 88)) #[.pointer (some ⟨nb, o, none⟩)]
  rw [World.size_alloc, World.size_alloc] at this
  exact this.alloc _
 ·have := BoxV.new (T := 93) (((w.drew.alloc (.cells (cpC zrC) 44)).alloc (.cells #[ptr rb] 88)).alloc (.cells #[.pointer (some ⟨nb, o, none⟩)] 129)) (spA z (some ⟨w.heap.size, 0, none⟩))
  rw [World.size_alloc, World.size_alloc, World.size_alloc] at this
  exact this
def AllEnd (w : World) (r D : Nat) (L : List Sp) (u : World) : Prop := ∃ v, Below w.heap.size w u ∧ BoxV 29 u r #[v] ∧ u.ownsRow (D + 2) 61 28 v L.length (L.flatMap stL)
theorem AllEnd.put {w : World} {r D : Nat} {L : List Sp} {u : World} (h : AllEnd w r D L u) (hr : r < D) (hD : w.heap.size ≤ D) {k : Nat} (hk : k = D ∨ k = D + 1) (x : Obj) : AllEnd w r D L (u.putObj k x) := by
 obtain ⟨v, h1, h2, h3⟩ := h
 exact ⟨v, below_put h1 (by omega) x, box_put h2 (by omega) x, owns_same h3 (fun c e => World.putObj_heap_other (by have := (h3.lt c e).1; omega))⟩
theorem owns_base {u : World} {base base' : Nat} {e : TypeId} {size n : Nat} {v : Value} {xs : List Value} (h : u.ownsRow base e size v n xs) (hb : base' ≤ base) : u.ownsRow base' e size v n xs := by
 refine ⟨h.1, ?_⟩
 rcases h.2 with e | ⟨b, cap, cur, e, h0, k⟩
 ·exact .inl e
 ·exact .inr ⟨b, cap, cur, e, Nat.le_trans hb h0, k⟩
def AllR (mb r D many : Nat) (v : Value) (O : Nat → Prop) (l : List Sp) (u u' : World) : Prop :=
 ∃ v', BoxV 3 u' mb #[.int .i64 (many : Int)] ∧ BoxV 29 u' r #[v'] ∧ u'.ownsRow (D + 2) 61 28 v' l.length (l.flatMap stL) ∧ Below 0 u u' ∧ (∀ c, c < u.heap.size → ¬ O c → u'.heap[c]? = u.heap[c]?) ∧ (v'.ownBlock = v.ownBlock ∨ ∀ c, v'.ownBlock = some c → u.heap.size ≤ c)
theorem AllR.put {mb r D many : Nat} {v : Value} {O : Nat → Prop} {l : List Sp} {u u' : World} (h : AllR mb r D many v O l u u') (hO : O (D + 1)) (hm : mb < D) (hr : r < D) (x : Obj) : AllR mb r D many v O l u (u'.putObj (D + 1) x) := by
 obtain ⟨v', h1, h2, h3, h4, h5, h6⟩ := h
 refine ⟨v', box_put h1 (by omega) x, box_put h2 (by omega) x, owns_same h3 (fun c e => World.putObj_heap_other (by have := (h3.lt c e).1; omega)), below_put h4 (Nat.zero_le _) x, fun c k1 k2 => (World.putObj_heap_other ?_).trans (h5 c k1 k2), h6⟩
 intro e
 exact k2 (e ▸ hO)
theorem AllR.ext {mb r D many : Nat} {v : Value} {O : Nat → Prop} {l : List Sp} {u u' : World} {r1 r2 : Loop} {m : Bool} (h : AllR mb r D many v O l u u') (hO : AllO mb r D v O) (hrec : if m = true then RecAt D r1 u' ∧ l.length < many else RecAt D r2 u' ∧ l.length = many) :
  ∃ O', AllJ mb r D many r1 r2 l m O' u' ∧ ExtO O O' u u' := by
 obtain ⟨v', h1, h2, h3, h4, h5, h6⟩ := h
 refine ⟨fun c => c = mb ∨ c = r ∨ c = D ∨ c = D + 1 ∨ v'.ownBlock = some c, ⟨v', fun c => Iff.rfl, h1, h2, h3, hrec⟩, h4, fun c k1 k2 => ⟨h5 c k1 k2, ?_⟩⟩
 rintro (e | e | e | e | e)
 ·exact k2 ((hO c).2 (.inl e))
 ·exact k2 ((hO c).2 (.inr (.inl e)))
 ·exact k2 ((hO c).2 (.inr (.inr (.inl e))))
 ·exact k2 ((hO c).2 (.inr (.inr (.inr (.inl e)))))
 ·rcases h6 with q | q
  ·exact k2 ((hO c).2 (.inr (.inr (.inr (.inr (by rw [← q]; exact e))))))
  ·have := q c e; omega
set_option maxRecDepth 100000 in
set_option maxHeartbeats 4000000 in
theorem nall_any (hS : Ast.SortOk) (hN : Ast.SortNone) (hlib : Cap.LibOk) (b o n cap : Nat) (l : Nat → Nd) (s : ByteArray) (p m : Nat) (w : World) (hl : NodesAt w b o n l) (hr : rightZ l n = 0) (hn : n ≤ 1000000) (hs : s.size ≤ 10000) (hp : p ≤ s.size) (hm : 1 ≤ m ∧ m ≤ 1000)
  (hw : ∀ i, i < n → WdsN (l i)) (hli : (reT l n n).lite s.size) (L : List Sp) (hL : (outs (outsE s (reT l n n) (p, zrC))).take m = L) :
  Calls Tryz.prog 15 #[.agg #[.slice (some ⟨b, o, none⟩) n cap], .string s, .int .i64 (p : Int), .int .i64 (m : Int)] w fun e w' => ∃ v, e = .returned (.tuple #[v, .int .i64 0]) ∧ Below w.heap.size w w' ∧ w'.ownsRow w.heap.size 61 28 v L.length (L.flatMap stL) := by
 refine (callsIn_wide (n := 0)).1 ?_
 refine callsIn_of_wp_marks Tryz.func15 rfl trivial ?_ rfl
 simp only [Tryz.ntmps15, List.size_toArray, List.length_cons, List.length_nil, Nat.reduceAdd, Nat.reduceSub, Array.replicate_succ, Array.replicate_zero, List.push_toArray, List.append_toArray, List.nil_append, List.cons_append]
 have hz : Ast.shapeZ l n = 0 := by
  unfold rightZ at hr
  by_cases h : Ast.shapeZ l n ≠ 0
  ·rw [if_pos h] at hr; exact absurd hr h
  ·omega
 obtain ⟨hpos, hsz⟩ : 0 < n ∧ siz l n = n := (Ast.form_0 (Ast.shape_0 hz).1).2
 have hmay : mayZ l n s.size = 0 := by unfold mayZ; rw [if_neg (by omega), if_neg (by omega)]
 have hNs : Nodes w (some ⟨b, o, none⟩) n l := fun i hi => ⟨b, o, rfl, hl.1, hl.2 i hi⟩
 obtain ⟨W1, hW1⟩ : ∃ W1, (w.alloc (.cells #[.slice (some ⟨b, o, none⟩) n cap] 24)).alloc (.cells #[.int .i64 (m : Int)] 3) = W1 := ⟨_, rfl⟩
 have hB1 : Below w.heap.size w W1 := by rw [← hW1]; go_grown
 have hs1 : W1.heap.size = w.heap.size + 2 := by rw [← hW1]; simp
 have ht1 : BoxV 24 W1 w.heap.size #[.slice (some ⟨b, o, none⟩) n cap] := by rw [← hW1]; exact (BoxV.new _ _).alloc _
 have hm1 : BoxV 3 W1 (w.heap.size + 1) #[.int .i64 (m : Int)] := by
  rw [← hW1]
  have := BoxV.new (T := 3) (w.alloc (.cells #[.slice (some ⟨b, o, none⟩) n cap] 24)) #[.int .i64 (m : Int)]
  rwa [World.size_alloc] at this
 have HMay := Lib.hid (mayRead_any hS hN (some ⟨b, o, none⟩) n cap l s W1 hn (hNs.below hB1 (Nat.le_refl _)) (by omega))
 have HT1 := Lib.hid ht1
 have HM1 := Lib.hid hm1
 have HS1 := Lib.hid hs1
 have HB1 := Lib.hid hB1
 have HZ := Lib.hid (And.intro hz (And.intro hpos hsz))
 have HNs := Lib.hid hNs
 have HL := Lib.hid hl
 have HLL := Lib.hid hL
 have HP := Lib.hid hp
 have HM := Lib.hid hm
 have HSz := Lib.hid hs
 have HA := Lib.hid (And.intro hw hli)
 have c0 := ht1.get 0 rfl
 rw [hmay] at HMay
 clear hS hN hz hpos hsz hmay hNs hB1 hs1 ht1 hm1 hl hr hL hp hm hs hw hli
 gi_wp2
 refine ⟨trivial, rfl, (callsIn_wide.2 HMay.out).mono ?_⟩
 rintro e w2 ⟨rfl, hb2⟩
 rename_i K hK
 refine hK _ _ ?_
 clear hK K c0 HMay hW1
 have hlt := HM1.out.lt
 have c0 := (HT1.out.below hb2 HT1.out.lt).get 0 rfl
 have c1 := (HM1.out.below hb2 HM1.out.lt).get 0 rfl
 have hp0 : ¬ ((p : Int) < 0) := by omega
 have hp1 : ¬ ((s.size : Int) < (p : Int)) := by have := HP.out; omega
 have hm0 : ¬ ((m : Int) < 0) := by omega
 have hm1 : ¬ ((1000 : Int) < (m : Int)) := by have := HM.out; omega
 have hm2 : ((m : Int) == 0) = false := by have := HM.out; simp; omega
 have HM2 := Lib.hid (HM1.out.below hb2 HM1.out.lt)
 have HT2 := Lib.hid (HT1.out.below hb2 HT1.out.lt)
 have hs2 : w.heap.size + 2 ≤ w2.heap.size := by have := hb2.size; have := HS1.out; omega
 obtain ⟨W3, hW3⟩ : ∃ W3, w2.alloc (.cells #[.slice none 0 0] 29) = W3 := ⟨_, rfl⟩
 have hB3 : Below w2.heap.size w2 W3 := by rw [← hW3]; go_grown
 have hr3 : BoxV 29 W3 w2.heap.size #[.slice none 0 0] := by rw [← hW3]; exact BoxV.new _ _
 have hs3 : W3.heap.size = w2.heap.size + 1 := by rw [← hW3]; simp
 have c3 := (HT2.out.below hB3 HT2.out.lt).get 0 rfl
 have HBW3 := Lib.hid (show Below w.heap.size w W3 from (HB1.out.trans (hb2.mono HB1.out.size)).trans (hB3.mono (Nat.le_trans HB1.out.size hb2.size)))
 have HB3 := Lib.hid hB3
 have HR3 := Lib.hid hr3
 have HS3 := Lib.hid (And.intro hs2 hs3)
 clear hB3 hr3 hs2 hs3 hb2
 gi_wp2
 refine ⟨trivial, rfl, (callsIn_wide.2 (newReader_any (some ⟨b, o, none⟩) n cap l s W3 hn HZ.out.2.2 HZ.out.1 (HNs.out.below HBW3.out (Nat.le_refl _)))).mono ?_⟩
 rintro e w4 ⟨rb, kb, rfl, hb4, hrb, hkb, hrd, hrow⟩
 rename_i K hK
 refine hK _ _ ?_
 clear hK K c0 c1 c3 hW3
 obtain ⟨q, hq⟩ : ∃ q, n = q + 1 := ⟨n - 1, by have := HZ.out.2.1; omega⟩
 have HRD := Lib.hid hrd
 have HROW := Lib.hid hrow
 have HB4 := Lib.hid (And.intro hb4 (And.intro hrb hkb))
 have HQ := Lib.hid hq
 clear hrd hrow hb4 hrb hkb hq
 gi_wp2
 refine ⟨trivial, rfl, (callsIn_wide.2 (matches_any rb b o n cap q _ _ (p : Int) w4 hn HQ.out HRD.out)).mono ?_⟩
 rintro e w5 ⟨rfl, hw5⟩
 rename_i K hK
 refine hK _ _ ?_
 clear hK K
 have HW5 := Lib.hid hw5
 clear hw5 hlt
 gi_wp2
 obtain ⟨hm1b, hm1s, hmC, hmR, hmN, hmX⟩ := mtW_is rb b (o + q * 12) (p : Int) w4
 rw [← HW5.out] at hm1b hm1s hmC hmR hmN hmX
 obtain ⟨hb4, hrb, hkb⟩ := HB4.out
 have hs2 := HS3.out.1
 have hs3 := HS3.out.2
 have hsz1 := HS1.out
 have h34 := hb4.size
 have hlr := HRD.out.lt
 have hlk := HROW.out.lt
 obtain ⟨mb, hmb⟩ : ∃ mb, w.heap.size + 1 = mb := ⟨_, rfl⟩
 obtain ⟨r, hre⟩ : ∃ r, w2.heap.size = r := ⟨_, rfl⟩
 obtain ⟨D, hD⟩ : ∃ D, w5.heap.size = D := ⟨_, rfl⟩
 have hmbr : mb < r := by omega
 have hrD : r < D := by omega
 have hwD : w.heap.size ≤ D := by omega
 have hwm : w.heap.size < mb := by omega
 have HMR := Lib.hid (And.intro hmbr (And.intro hrD (And.intro hwD hwm)))
 have HMB := Lib.hid hmb
 have HRE := Lib.hid hre
 have HD := Lib.hid hD
 refine range_law (σ := Unit) rfl (enters_of Tryz.func98 (by kernel_rfl) rfl) (fun _ u => AllEnd w r D L u) (fun c _ u => c = .exit 0 ∧ AllEnd w r D L u) ?_ ?_ ?_ ?_ ?_
 ·rintro _ u o2 h
  exact h.put hrD hwD (.inr (by rw [hD])) o2
 ·rintro c _ u o2 ⟨h0, h⟩
  exact ⟨h0, h.put hrD hwD (.inr (by rw [hD])) o2⟩
 ·intro fn
  rw [hD]
  generalize hr1' : recL D fn _ _ _ _ .ready none = rr1
  have C : Cons { rb := rb, nb := b, no := o, n := n, cap := cap, kb := kb, kc := n, l := l, bk := backN l n, s := s, N := 3 * n } (D + 1) (AllJ mb r D m rr1 { rr1 with state := .done, pending := some (.exit 0) }) := by
   refine ⟨AllJ.told _ _ _ _ _ _, ?_⟩
   rintro pre O u y2 q2 ⟨v, hO, h2, h3, h4, h1, hlen⟩ hc2 hnq hy2
   subst hr1'
   have hO4 := (hO (D + 1)).2 (.inr (.inr (.inr (.inl rfl))))
   refine yield_mono (round_law (D := D) rfl (fun u' => (pre ++ [y2]).length < m ∧ AllR mb r D m v O (pre ++ [y2]) u u') (fun c u' => c = .exit 0 ∧ (pre ++ [y2]).length = m ∧ AllR mb r D m v O (pre ++ [y2]) u u') ?_ ?_ h1 ?_) ?_
   ·rintro u' o2 ⟨k0, k1⟩
    exact ⟨k0, k1.put hO4 (by omega) hrD o2⟩
   ·rintro c u' o2 ⟨k, k0, k1⟩
    exact ⟨k, k0, k1.put hO4 (by omega) hrD o2⟩
   ·obtain ⟨A1, c1, rfl⟩ := owns_len h4
    subst hmb
    subst hre
    have H1 := Lib.hid h1
    have H2 := Lib.hid h2
    have H3 := Lib.hid h3
    have H4 := Lib.hid h4
    have HC2 := Lib.hid hc2
    have HQ2 := Lib.hid hnq
    have HOO := Lib.hid hO
    have HLN := Lib.hid hlen
    clear h1 h2 h3 h4 hc2 hnq hy2 hO hlen hO4 hmbr hrD hwD hwm hD HMB HRE hm1b hm1s hmC hmR hmN hmX hb4 hrb hkb hs2 hs3 hsz1 h34 hlr hlk hm2 hp0 hp1 hm0 hm1
    gi_wp2
    have hl0 := (Array.getElem?_eq_some_iff.1 H1.out.dfr).1
    have hl1 := (Array.getElem?_eq_some_iff.1 H1.out.lp).1
    refine ⟨H1.out.keep (Below.heap_alloc _ _ _ hl0) (Below.heap_alloc _ _ _ hl1), ?_⟩
    generalize hrb : recL D fn _ _ _ _ LoopState.busy none = rb'
    obtain ⟨u1, hu1⟩ : ∃ u1, (u.alloc (.cells #[.int .i64 (y2.1 : Int), .pointer (some ⟨q2, 0, none⟩)] 93)).putObj (D + 1) (.loop rb') = u1 := ⟨_, rfl⟩
    have hO0 := (HOO.out (w.heap.size + 1)).2 (.inl rfl)
    have hO1 := (HOO.out w2.heap.size).2 (.inr (.inl rfl))
    have hO2 := (HOO.out D).2 (.inr (.inr (.inl rfl)))
    have hO4 := (HOO.out (D + 1)).2 (.inr (.inr (.inr (.inl rfl))))
    have hOv : ∀ c, (Value.slice A1 pre.length c1).ownBlock = some c → O c := fun c e => (HOO.out c).2 (.inr (.inr (.inr (.inr e))))
    have hmr := HMR.out
    have hlen := HLN.out
    have hm := HM.out
    have own1 := fun c e => H4.out.lt c e
    have k0 : RecAt D rb' u1 := by
     rw [← hu1]
     exact (H1.out.keep (Below.heap_alloc _ _ _ hl0) (Below.heap_alloc _ _ _ hl1)).put rb'
    have k1 : BoxV 93 u1 u.heap.size (spA (y2.1 : Int) (some ⟨q2, 0, none⟩)) := by rw [← hu1]; exact box_put (BoxV.new _ _) (by omega) _
    have k2 : BoxV 3 u1 (w.heap.size + 1) #[.int .i64 (m : Int)] := by rw [← hu1]; exact box_put (H2.out.alloc _) (by omega) _
    have k3 : BoxV 29 u1 w2.heap.size #[.slice A1 pre.length c1] := by rw [← hu1]; exact box_put (H3.out.alloc _) (by omega) _
    have k4 : BoxV 44 u1 q2 (cpC y2.2) := by rw [← hu1]; exact box_put (HC2.out.alloc _) (fun e => HQ2.out (e ▸ hO4)) _
    have k5 : u1.ownsRow (D + 2) 61 28 (.slice A1 pre.length c1) pre.length (pre.flatMap stL) := by
     rw [← hu1]
     exact owns_same H4.out fun c e => (World.putObj_heap_other (by have := (own1 c e).1; omega)).trans (Below.heap_alloc _ _ _ (own1 c e).2)
    have k6 : Below 0 u u1 := by rw [← hu1]; exact below_put ((Below.refl 0 u).alloc (Nat.zero_le _) _) (Nat.zero_le _) _
    have k7 : ∀ c, c < u.heap.size → ¬ O c → u1.heap[c]? = u.heap[c]? := fun c h1 h2 => by
     rw [← hu1]
     exact (World.putObj_heap_other (by rintro rfl; exact h2 hO4)).trans (Below.heap_alloc _ _ _ h1)
    have k8 : u1.heap.size = u.heap.size + 1 := by rw [← hu1]; simp [World.putObj]
    obtain ⟨u2, hu2⟩ : ∃ u2, u1.drew.alloc (.cells (stA y2) 61) = u2 := ⟨_, rfl⟩
    have hB2 : Below u1.heap.size u1 u2 := by rw [← hu2]; exact (below_drewN (Below.refl _ u1) 1).alloc (Nat.le_refl _) _
    have hu2s : BoxV 61 u2 u1.heap.size (stA y2) := by rw [← hu2]; exact BoxV.new _ _
    have hO2' : u2.ownsRow (D + 2) 61 28 (.slice A1 pre.length c1) pre.length (pre.flatMap stL) := owns_same k5 fun c e => hB2.block c (by have := (own1 c e).2; omega)
    obtain ⟨ip, hip, hp1, hp2, hp3⟩ := info_parts infoSt
    obtain ⟨v', w3, hrun, hown, hgr, -, hv'⟩ := run_append_own_at (P := Tryz.prog) (w := u2) (D + 2) 29 29 61 ip _ 28 168 Tryz.underlying29 hip hp1 hp2 hp3 rfl (by decide) (.slice A1 pre.length c1) _ _ hO2' ⟨u1.heap.size, 0, none⟩ 1 1 (stL y2) rfl
     (by
      intro j x hj
      rw [addr_add]
      exact hu2s.get j (stA_get hj)) (stL_one y2) (by unfold maxLen; omega) (by omega) (by have := hB2.size; omega)
    obtain ⟨A2, c2, rfl⟩ := owns_len hown
    obtain ⟨k', hk'⟩ : ∃ k, pre.length + 1 = k := ⟨_, rfl⟩
    rw [hk'] at hrun hown hv'
    have hr2 : BoxV 29 u2 w2.heap.size #[.slice A1 pre.length c1] := k3.below hB2 k3.lt
    have ne9 : ∀ c, ¬ O c ∨ c < D + 2 ∨ u.heap.size ≤ c → some c ≠ (Value.slice A1 pre.length c1).ownBlock := fun c h e => by
     have h1 := own1 c e.symm
     rcases h with h | h | h
     ·exact h (hOv c e.symm)
     ·omega
     ·omega
    have hr3 : BoxV 29 w3 w2.heap.size #[.slice A1 pre.length c1] := (hgr.block _ hr2.lt (ne9 _ (.inr (.inl (by omega))))).trans hr2
    have hm3 : BoxV 3 w3 (w.heap.size + 1) #[.int .i64 (m : Int)] := (hgr.block _ (k2.below hB2 k2.lt).lt (ne9 _ (.inr (.inl (by omega))))).trans (k2.below hB2 k2.lt)
    have hx3 : BoxV 93 w3 u.heap.size (spA (y2.1 : Int) (some ⟨q2, 0, none⟩)) := (hgr.block _ (k1.below hB2 k1.lt).lt (ne9 _ (.inr (.inr (Nat.le_refl _))))).trans (k1.below hB2 k1.lt)
    have hc3 : BoxV 44 w3 q2 (cpC y2.2) := (hgr.block _ (k4.below hB2 k4.lt).lt (ne9 _ (.inl HQ2.out))).trans (k4.below hB2 k4.lt)
    obtain ⟨w9, hw9⟩ : ∃ w9, w3.setCell ⟨w2.heap.size, 0, none⟩ (.slice A2 k' c2) = w9 := ⟨_, rfl⟩
    have far : ∀ c, c ≠ w2.heap.size → w9.heap[c]? = w3.heap[c]? := fun c hc => by rw [← hw9]; exact heap_setCell_other _ _ _ _ hc
    have hr9 : BoxV 29 w9 w2.heap.size #[.slice A2 k' c2] := by rw [← hw9]; exact hr3.put 0 _
    have hm9 : BoxV 3 w9 (w.heap.size + 1) #[.int .i64 (m : Int)] := (far _ (by omega)).trans hm3
    have hgs := hgr.size
    have hBs := hB2.size
    have back : ∀ c, c < u1.heap.size → c ≠ w2.heap.size → some c ≠ (Value.slice A1 pre.length c1).ownBlock → w9.heap[c]? = u1.heap[c]? := fun c h1 h2 h3 => (far c h2).trans ((hgr.block c (by omega) h3).trans (hB2.block c h1))
    have P0 := Lib.hid (show RecAt D rb' w9 from k0.keep (back _ (by omega) (by omega) (ne9 _ (.inr (.inl (by omega))))) (back _ (by omega) (by omega) (ne9 _ (.inr (.inl (by omega))))))
    have PL := Lib.hid (show (pre ++ [y2]).length = k' by rw [← hk']; simp)
    have P1 := Lib.hid (show AllR (w.heap.size + 1) w2.heap.size D m (.slice A1 pre.length c1) O (pre ++ [y2]) u w9 by
     refine ⟨.slice A2 k' c2, hm9, hr9, ?_, ?_, fun c h1 h2 => ?_, ?_⟩
     ·rw [PL.out, List.flatMap_append]
      have hh : w9.ownsRow (D + 2) 61 28 (.slice A2 k' c2) k' (pre.flatMap stL ++ stL y2) := owns_same hown fun c e => far c (by have := (hown.lt c e).1; omega)
      simpa using hh
     ·rw [← hw9]
      exact (k6.trans ((hB2.mono (Nat.zero_le _)).trans ⟨hgr.os, hgr.tape, hgr.output, hgr.size, fun c hc => absurd hc (by omega)⟩)).setCell (Nat.zero_le _) _
     ·exact (back c (by omega) (fun e => h2 (e ▸ hO1)) (ne9 c (.inl h2))).trans (k7 c h1 h2)
     ·rcases hv' with e | e
      ·exact .inl e
      ·exact .inr fun c h => by rw [e] at h; injection h with h; omega)
    have e9 := hr9.get 0 rfl
    have e10 := hm9.get 0 rfl
    have hS : BoxV 93 u1.drew u.heap.size (spA (y2.1 : Int) (some ⟨q2, 0, none⟩)) ∧ BoxV 44 u1.drew q2 (cpC y2.2) := ⟨k1, k4⟩
    have hS2 : BoxV 93 u2 u.heap.size (spA (y2.1 : Int) (some ⟨q2, 0, none⟩)) ∧ BoxV 44 u2 q2 (cpC y2.2) := ⟨k1.below hB2 k1.lt, k4.below hB2 k4.lt⟩
    have hS3 : BoxV 93 w3 u.heap.size (spA (y2.1 : Int) (some ⟨q2, 0, none⟩)) ∧ BoxV 44 w3 q2 (cpC y2.2) := ⟨hx3, hc3⟩
    have hS4 : BoxV 93 w9 u.heap.size (spA (y2.1 : Int) (some ⟨q2, 0, none⟩)) ∧ BoxV 44 w9 q2 (cpC y2.2) := ⟨(far _ (by omega)).trans hx3, (far q2 (fun e => HQ2.out (by rw [e]; exact hO1))).trans hc3⟩
    rw [hu1]
    have HV := Lib.hid (And.intro hk' (And.intro k8 (And.intro hgs hBs)))
    clear hk' k8 hgs hBs hmr hlen hm hl0 hl1
    gi_wp2
    refine region_in (S := fun u' => BoxV 93 u' u.heap.size (spA (y2.1 : Int) (some ⟨q2, 0, none⟩)) ∧ BoxV 44 u' q2 (cpC y2.2)) (by kernel_rfl) (no_defer (by kernel_rfl)) (by rintro ⟨_, _, h⟩; exact h) ?_
    refine takeAt 1 44 (ptr u.heap.size) rfl rfl (by kernel_rfl) (by kernel_rfl) (by kernel_rfl) (fun _ _ _ h => h) (yields (by rfl) (fun w => by kernel_rfl)) hS ?_
    simp only [Act.put, sA, s0, sS]
    refine takeAt 2 45 (.int .i64 (y2.1 : Int)) rfl rfl (by kernel_rfl) (by kernel_rfl) (by kernel_rfl) (fun _ _ _ h => h) (ldI_y u.heap.size 0 _ (fun _ h => h.1.get 0 rfl) rfl rfl (by rfl)) hS ?_
    simp only [Act.put, sA, s0, sS]
    refine takeAt 3 46 (.pointer (some ⟨u.heap.size, 1, none⟩)) rfl rfl (by kernel_rfl) (by kernel_rfl) (by kernel_rfl) (fun _ _ _ h => h) (yields (by rfl) (fun w => by kernel_rfl)) hS ?_
    simp only [Act.put, sA, s0, sS]
    refine takeAt 4 47 (ptr q2) rfl rfl (by kernel_rfl) (by kernel_rfl) (by kernel_rfl) (fun _ _ _ h => h) (ldPC_y u.heap.size 1 _ (fun _ h => h.1.get 1 rfl) rfl rfl (by rfl)) hS ?_
    simp only [Act.put, sA, s0, sS]
    refine takeAt 5 48 (ptr q2) rfl rfl (by kernel_rfl) (by kernel_rfl) (by kernel_rfl) (fun _ _ _ h => h) (yields (by rfl) (fun w => by kernel_rfl)) hS ?_
    simp only [Act.put, sA, s0, sS]
    refine takeAt 6 49 (.agg (cpC y2.2)) rfl rfl (by kernel_rfl) (by kernel_rfl) (by kernel_rfl) (fun _ _ _ h => h) (ldC_y q2 y2.2 (fun _ h => h.2) rfl rfl (by rfl)) hS ?_
    simp only [Act.put, sA, s0, sS]
    refine takeAt 7 50 (.agg (stA y2)) rfl rfl (by kernel_rfl) (by kernel_rfl) (by kernel_rfl) (fun _ _ _ h => h) (yields (by rfl) (fun w => by kernel_rfl)) hS ?_
    simp only [Act.put, sA, s0, sS]
    refine wpAnyH_ready (rs := [0, 8]) (by kernel_rfl) (by simp) (AllReadyH.cons rfl (valStep 0 43 (.slice A1 pre.length c1) u1.drew rfl (by rfl) (ldSS_run w2.heap.size _ (show BoxV 29 u1.drew w2.heap.size #[.slice A1 pre.length c1] from k3) rfl rfl) hS ?_) (AllReadyH.cons rfl (valStep 8 51 (.slice (some ⟨u1.heap.size, 0, none⟩) 1 1) u2 rfl (by rfl) (by rw [← hu2]; kernel_rfl) hS2 ?_) AllReadyH.nil))
    ·simp only [Act.put, sA, s0, sS]
     refine valAt 8 51 (.slice (some ⟨u1.heap.size, 0, none⟩) 1 1) u2 rfl rfl (by kernel_rfl) (by rfl) (by rw [← hu2]; kernel_rfl) hS2 ?_
     simp only [Act.put, sA, s0, sS]
     refine valAt 9 52 (.slice A2 k' c2) w3 rfl rfl (by kernel_rfl) (by rfl) (append_run rfl rfl rfl hrun) hS3 ?_
     simp only [Act.put, sA, s0, sS]
     refine Cap.skipAt 10 w9 rfl rfl (by kernel_rfl) (by rfl) (by rw [← hw9]; exact stSS_run w2.heap.size _ A2 k' c2 hr3 rfl rfl rfl) hS4 ?_
     refine wpAnyH_done (by kernel_rfl) ?_ _
     clear hrun hown hv' hr2 hr3 hm3 hx3 hc3 hw9 far hr9 hm9 back hS hS2 hS3 hS4 k0 k1 k2 k3 k4 k5 k6 k7 hu1 hu2 hB2 hu2s hO2' hgr ne9
     by_cases hk : k' = m
     ·gi_wp2
      exact ⟨P0.out, rfl, HV.out.1.trans hk, P1.out⟩
     ·have hq : ((k' : Int) == (m : Int)) = false := by simp; omega
      have hq2 : ¬ ((k' : Int) = (m : Int)) := by omega
      have HK := Lib.hid hk
      clear hk
      gi_wp2
      exact ⟨P0.out, by have := HK.out; have := HV.out.1; have := HLN.out; omega, P1.out⟩
    ·simp only [Act.put, sA, s0, sS]
     refine valAt 0 43 (.slice A1 pre.length c1) u2 rfl rfl (by kernel_rfl) (by rfl) (ldSS_run w2.heap.size _ hr2 rfl rfl) hS2 ?_
     simp only [Act.put, sA, s0, sS]
     refine valAt 9 52 (.slice A2 k' c2) w3 rfl rfl (by kernel_rfl) (by rfl) (append_run rfl rfl rfl hrun) hS3 ?_
     simp only [Act.put, sA, s0, sS]
     refine Cap.skipAt 10 w9 rfl rfl (by kernel_rfl) (by rfl) (by rw [← hw9]; exact stSS_run w2.heap.size _ A2 k' c2 hr3 rfl rfl rfl) hS4 ?_
     refine wpAnyH_done (by kernel_rfl) ?_ _
     clear hrun hown hv' hr2 hr3 hm3 hx3 hc3 hw9 far hr9 hm9 back hS hS2 hS3 hS4 k0 k1 k2 k3 k4 k5 k6 k7 hu1 hu2 hB2 hu2s hO2' hgr ne9
     by_cases hk : k' = m
     ·gi_wp2
      exact ⟨P0.out, rfl, HV.out.1.trans hk, P1.out⟩
     ·have hq : ((k' : Int) == (m : Int)) = false := by simp; omega
      have hq2 : ¬ ((k' : Int) = (m : Int)) := by omega
      have HK := Lib.hid hk
      clear hk
      gi_wp2
      exact ⟨P0.out, by have := HK.out; have := HV.out.1; have := HLN.out; omega, P1.out⟩
   ·rintro e u' (⟨rfl, k0, k1, k2⟩ | ⟨c, rfl, k0, rfl, k1, k2⟩)
    ·obtain ⟨O', k3, k4⟩ := k2.ext (m := true) (r2 := _) hO ⟨k0, k1⟩
     exact ⟨true, O', rfl, k3, k4⟩
    ·obtain ⟨O', k3, k4⟩ := k2.ext (m := false) (r1 := _) hO ⟨k0, k1⟩
     exact ⟨false, O', rfl, k3, k4⟩
  have hlw := HBW3.out.size
  obtain ⟨W, hW⟩ : ∃ W, (w5.alloc (.deferred (some []))).alloc (.loop rr1) = W := ⟨_, rfl⟩
  have hB : Below w5.heap.size w5 W := by rw [← hW]; go_grown
  have hrec : RecAt D rr1 W := by
   rw [← hW, ← hD]
   constructor
   ·have : (w5.alloc (.deferred (some []))).heap.size = w5.heap.size + 1 := by simp
    rw [← this]
    exact heap_alloc_new _ _
   ·exact (Below.heap_alloc _ _ _ (by simp)).trans (heap_alloc_new _ _)
  rw [hW]
  have hBw5 : Below w4.heap.size w4 W := hm1b.trans (hB.mono hm1b.size)
  have hBw3 : Below W3.heap.size W3 W := hb4.trans (hBw5.mono h34)
  have hBw : Below w.heap.size w W := HBW3.out.trans (hBw3.mono hlw)
  obtain ⟨Y, hY⟩ : ∃ Y : Nat → Prop, Y = fun c => c = mb ∨ c = r ∨ c = D ∨ c = D + 1 := ⟨_, rfl⟩
  have hYn : ∀ c, c ≠ mb → c ≠ r → c ≠ D → c ≠ D + 1 → ¬ Y c := fun c h2 h3 h4 h5 => by
   rw [hY]
   rintro (e | e | e | e)
   ·exact h2 e
   ·exact h3 e
   ·exact h4 e
   ·exact h5 e
  have hbw := HL.out.1
  have hYb : ¬ Y b := hYn b (by omega) (by omega) (by omega) (by omega)
  have hsz0 := (show siz l n ≠ 0 by have h0 := HZ.out.2.1; rw [HZ.out.2.2]; omega)
  have hs := HSz.out
  have hR : RdAt { rb := rb, nb := b, no := o, n := n, cap := cap, kb := kb, kc := n, l := l, bk := backN l n, s := s, N := 3 * n } Y W := {
   box := ⟨HRD.out.below hBw5 hlr, hYn rb (by omega) (by omega) (by omega) (by omega)⟩
   nod := ⟨Nat.lt_of_lt_of_le hbw hBw.size, fun i hi => (HL.out.2 i hi).keep fun j => hBw.cell (p := ⟨b, j, none⟩) hbw⟩
   nodX := hYb
   bkl := Nat.lt_of_lt_of_le hlk hBw5.size
   bkX := hYn kb (by omega) (by omega) (by omega) (by omega)
   bkc := fun i hi => (hBw5.cell (p := ⟨kb, i, none⟩) hlk).trans (HROW.out.cell hi) }
  refine Calls.mono (iter_any (r := reT l n n) (given_any _ (by show s.size ≤ _; omega) (fun i hi => by
    show backN l n i ≤ _
    unfold backN
    split
    ·rename_i hi1
     have := Ast.len_bd l (i + 1) (Ast.siz_of_whole HZ.out.2.2 hi)
     omega
    ·omega) hlib) ⟨reT_is n (Nat.le_refl _) hsz0, reT_fine HA.out.1 n (Nat.le_refl _) hsz0, by show (reT l n n).sz ≤ 3 * n; have := reT_sz (n := n) n hsz0; have := Ast.siz_le l n; omega⟩ HA.out.2 C Y W (p, zrC) w4.heap.size b (o + q * 12) (w4.heap.size + 1) (w4.heap.size + 1 + 1) (w4.heap.size + 1 + 1 + 1) Y
   ⟨hmR.below hB hmR.lt, hYn _ (by omega) (by omega) (by omega) (by omega)⟩ ⟨hmN.below hB hmN.lt, hYn _ (by omega) (by omega) (by omega) (by omega)⟩ ⟨hmX.below hB hmX.lt, hYn _ (by omega) (by omega) (by omega) (by omega)⟩
   (Nat.lt_of_lt_of_le hbw hBw.size) hYb ?_ ⟨hmC.below hB hmC.lt, hYn _ (by omega) (by omega) (by omega) (by omega)⟩ HP.out hR ?_ (fun _ h => h) ?_) ?_
  ·have hqn := HQ.out
   have := hR.nod.2 q (by show q < n; omega)
   rw [show q = n - 1 by omega] at this ⊢
   rw [← reT_at n (siz_ne hsz0)]
   exact this
  ·have hm1 : BoxV 3 W mb #[.int .i64 (m : Int)] := by rw [← hmb]; exact (HM2.out.below HB3.out HM2.out.lt).below hBw3 (by omega)
   refine ⟨.slice none 0 0, ?_, ?_, ?_, World.ownsRow_nil _ _ _ _, hrec, ?_⟩
   ·intro c
    rw [hY]
    simp [Value.ownBlock]
   ·exact hm1
   ·rw [← hre]; exact HR3.out.below hBw3 HR3.out.lt
   ·show 0 < m
    have := HM.out
    omega
  ·intro c h
   rw [hY] at h
   have h1 := (Array.getElem?_eq_some_iff.1 hrec.lp).1
   rcases h with e | e | e | e <;> omega
  ·rintro e w' ⟨hv, told, m', O', X', hJ, hE, h1, h2⟩
   refine ⟨hv, ?_⟩
   have hBw' : Below w.heap.size w w' := by
    refine ⟨hE.below.os.trans hBw.os, hE.below.tape.trans hBw.tape, hE.below.output.trans hBw.output, Nat.le_trans hBw.size hE.below.size, fun c hcl => ?_⟩
    exact (hE.keep c (Nat.lt_of_lt_of_le hcl hBw.size) (hYn c (by omega) (by omega) (by omega) (by omega))).1.trans (hBw.block c hcl)
   obtain ⟨v, k0, k1, k2, k3, k4⟩ := hJ
   cases m' with
   | true =>
     have hLt : told = L := by rw [← HLL.out, ← h1 rfl]; exact (List.take_of_length_le (by have := k4.2; omega)).symm
     subst hr1'
     rw [← hLt]
     exact .inl ⟨(), k4.1, v, hBw', k2, k3⟩
   | false =>
     have hLt : told = L := by
      obtain ⟨t, ht⟩ := h2
      rw [← HLL.out, ← ht, ← k4.2]
      simp
     subst hr1'
     rw [← hLt]
     exact .inr ⟨.exit 0, (), k4.1, rfl, v, hBw', k2, k3⟩
 ·rintro _ u ⟨v, h1, h2, h3⟩ hd
  obtain ⟨A1, c1, rfl⟩ := owns_len h3
  have e0 := h2.get 0 rfl
  rw [hD] at hd
  have H1 := Lib.hid h1
  have H3 := Lib.hid h3
  clear h1 h2 h3 hD hmbr hrD hwD hwm hmb hm1b hm1s hmC hmR hmN hmX hb4 hrb hkb hs2 hs3 hsz1 h34 hlr hlk
  gi_wp2
  rw [HD.out]
  refine ⟨by simp, .inl ⟨_, _, rfl, run_takeDeferred hd, ?_⟩⟩
  refine ⟨.tuple #[.slice A1 L.length c1, .int .i64 0], by simp [results, Tryz.results15, go_sem], _, rfl, below_put H1.out HMR.out.2.2.1 _, owns_base (owns_same H3.out fun c e => World.putObj_heap_other (by have := (H3.out.lt c e).1; omega)) (by have := HMR.out.2.2.1; omega)⟩
 ·rintro c _ u ⟨rfl, v, h1, h2, h3⟩ hd
  obtain ⟨A1, c1, rfl⟩ := owns_len h3
  have e0 := h2.get 0 rfl
  rw [hD] at hd
  have H1 := Lib.hid h1
  have H3 := Lib.hid h3
  clear h1 h2 h3 hD hmbr hrD hwD hwm hmb hm1b hm1s hmC hmR hmN hmX hb4 hrb hkb hs2 hs3 hsz1 h34 hlr hlk
  gi_wp2
  rw [HD.out]
  refine ⟨by simp, .inl ⟨_, _, rfl, run_takeDeferred hd, ?_⟩⟩
  refine ⟨.tuple #[.slice A1 L.length c1, .int .i64 0], by simp [results, Tryz.results15, go_sem], _, rfl, below_put H1.out HMR.out.2.2.1 _, owns_base (owns_same H3.out fun c e => World.putObj_heap_other (by have := (H3.out.lt c e).1; omega)) (by have := HMR.out.2.2.1; omega)⟩
end Go.Proofs.YteiboobdhjdjkaaGreatDoor.Nai
namespace Go.Proofs.YteiboobdhjdjkaaGreatDoor.Nai
open Go.RowKit
open Ast (Nd)
open Cap (Cp cpC zrC BoxV)
def DefOk (B : Nat) (w : World) : List Deferred → Prop
 | [] => True
 | d :: ds => (∃ D, d = { target := .collected D, args := #[] } ∧ B ≤ D ∧ w.heap[D]? = some (Obj.deferred (some [])) ∧ ∀ d' ∈ ds, d' ≠ d) ∧ DefOk B w ds
theorem DefOk.keep {B : Nat} {w w' : World} (hs : ∀ D : Nat, w.heap[D]? = some (Obj.deferred (some [])) → w'.heap[D]? = w.heap[D]?) : ∀ {ds : List Deferred}, DefOk B w ds → DefOk B w' ds
 | [], _ => trivial
 | _ :: _, ⟨⟨D, h1, h2, h3, h4⟩, h5⟩ => ⟨⟨D, h1, h2, (hs D h3).trans h3, h4⟩, DefOk.keep hs h5⟩
theorem DefOk.lt {B : Nat} {w : World} : ∀ {ds : List Deferred}, DefOk B w ds → ∀ d ∈ ds, ∃ D, d = { target := .collected D, args := #[] } ∧ B ≤ D ∧ w.heap[D]? = some (Obj.deferred (some []))
 | _ :: _, ⟨⟨D, h1, h2, h3, _⟩, h5⟩, d, hd => by
   rcases List.mem_cons.1 hd with rfl | hd
   ·exact ⟨D, h1, h2, h3⟩
   ·exact DefOk.lt h5 d hd
theorem DefOk.cons {B D : Nat} {w : World} {ds : List Deferred} (h : DefOk B w ds) (hB : B ≤ D) (hD : w.heap[D]? = some (Obj.deferred (some []))) (hn : ∀ d ∈ ds, ∀ k : Nat, d = { target := .collected k, args := #[] } → k < D) : DefOk B w ({ target := .collected D, args := #[] } :: ds) :=
 ⟨⟨D, rfl, hB, hD, fun d hd e => by have := hn d hd D e; omega⟩, h⟩
theorem DefOk.take {B : Nat} {w : World} {d : Deferred} {D : Nat} (hd : d = { target := .collected D, args := #[] }) : ∀ {ds : List Deferred}, DefOk B w ds → (∀ d' ∈ ds, d' ≠ d) → DefOk B (w.putObj D (.deferred none)) ds
 | [], _, _ => trivial
 | e :: ds, ⟨⟨E, h1, h2, h3, h4⟩, h5⟩, hn => by
   refine ⟨⟨E, h1, h2, (World.putObj_heap_other ?_).trans h3, h4⟩, DefOk.take hd h5 fun d' h => hn d' (List.mem_cons_of_mem _ h)⟩
   rintro rfl
   exact hn e (List.mem_cons_self ..) (h1.trans hd.symm)
theorem leaves_defs {F : Fence} {n : Nat} {P : Program} {fn : Func} {tmps : Array Value} {R : Ending → World → Prop} {B : Nat} {T : World → Prop} (hT : ∀ w, T w → ∃ v, (results fn tmps).run P w = .ok v w ∧ R (.returned v) w)
  (hP : ∀ (w : World) (D : Nat), T w → B ≤ D → w.heap[D]? = some (Obj.deferred (some [])) → T (w.putObj D (.deferred none))) : ∀ (ds : List Deferred) (w : World), DefOk B w ds → T w → LeavesInM F n P fn tmps R ds .returning w
 | [], w, _, h => hT w h
 | d :: ds, w, ⟨⟨D, h1, h2, h3, h4⟩, h5⟩, h => ⟨by simp, .inl ⟨D, _, by rw [h1], run_takeDeferred h3, leaves_defs hT hP ds _ (DefOk.take h1 h5 h4) (hP w D h h2 h3)⟩⟩
def findF (s : ByteArray) (r : Re) : Nat → Nat → Option (Nat × Sp)
 | 0, _ => none
 | f + 1, p => match (outs (outsE s r (p, zrC))).head? with
   | some z => some (p, z)
   | none => findF s r f (p + 1)
def mtA : Option (Nat × Sp) → Array Value
 | some (p, z) => #[.int .i64 (p : Int), .int .i64 (z.1 : Int)] ++ cpC z.2
 | none => #[.int .i64 0, .int .i64 0] ++ cpC zrC
def FndO (g k9 D : Nat) (O : Nat → Prop) : Prop := ∀ c, O c ↔ c = g + 1 ∨ c = g + 1 + 1 ∨ c = g + 1 + 1 + 1 ∨ c = k9 ∨ c = D ∨ c = D + 1
structure FndB (g : Nat) (x : Option (Nat × Sp)) (u : World) : Prop where
 m : BoxV 46 u (g + 1) (mtA x)
 b : BoxV 4 u (g + 1 + 1) #[.bool x.isSome]
 e : BoxV 30 u (g + 1 + 1 + 1) #[.int .i64 0]
theorem FndB.same {g : Nat} {x : Option (Nat × Sp)} {u u' : World} (h : FndB g x u) (hs : ∀ c, c = g + 1 ∨ c = g + 1 + 1 ∨ c = g + 1 + 1 + 1 → u'.heap[c]? = u.heap[c]?) : FndB g x u' :=
 ⟨(hs _ (.inl rfl)).trans h.m, (hs _ (.inr (.inl rfl))).trans h.b, (hs _ (.inr (.inr rfl))).trans h.e⟩
def FndJ (g k9 D k : Nat) (r1 r2 : Loop) (pre : List Sp) (m : Bool) (O : Nat → Prop) (u : World) : Prop :=
 FndO g k9 D O ∧ BoxV 3 u k9 #[.int .i64 (k : Int)] ∧ if m = true then pre = [] ∧ RecAt D r1 u ∧ FndB g none u else ∃ v, pre = [v] ∧ RecAt D r2 u ∧ FndB g (some (k, v)) u
theorem FndJ.same {g k9 D k : Nat} {r1 r2 : Loop} {pre : List Sp} {m : Bool} {O : Nat → Prop} {u u' : World} (h : FndJ g k9 D k r1 r2 pre m O u) (hs : ∀ c, O c → u'.heap[c]? = u.heap[c]?) : FndJ g k9 D k r1 r2 pre m O u' := by
 obtain ⟨h1, h2, h3⟩ := h
 have kb : ∀ c, c = g + 1 ∨ c = g + 1 + 1 ∨ c = g + 1 + 1 + 1 → u'.heap[c]? = u.heap[c]? := fun c hc => hs c ((h1 c).2 (by rcases hc with e | e | e <;> simp [e]))
 have k1 := hs _ ((h1 D).2 (by simp))
 have k2 := hs _ ((h1 (D + 1)).2 (by simp))
 refine ⟨h1, (hs _ ((h1 k9).2 (by simp))).trans h2, ?_⟩
 cases m with
 | true => exact ⟨h3.1, h3.2.1.keep k1 k2, h3.2.2.same kb⟩
 | false =>
   obtain ⟨v, e, h4, h5⟩ := h3
   exact ⟨v, e, h4.keep k1 k2, h5.same kb⟩
theorem FndJ.own {g k9 D k : Nat} {r1 r2 : Loop} {pre : List Sp} {m : Bool} {O : Nat → Prop} {u : World} (h : FndJ g k9 D k r1 r2 pre m O u) : ∀ c, O c → c < u.heap.size := by
 obtain ⟨h1, h2, h3⟩ := h
 have key : ∀ (x : Option (Nat × Sp)) (r : Loop), FndB g x u → RecAt D r u → ∀ c, O c → c < u.heap.size := by
  intro x r hb hr c hc
  rcases (h1 c).1 hc with rfl | rfl | rfl | rfl | rfl | rfl
  ·exact hb.m.lt
  ·exact hb.b.lt
  ·exact hb.e.lt
  ·exact h2.lt
  ·exact (Array.getElem?_eq_some_iff.1 hr.dfr).1
  ·exact (Array.getElem?_eq_some_iff.1 hr.lp).1
 cases m with
 | true => exact key none r1 h3.2.2 h3.2.1
 | false =>
   obtain ⟨v, -, h4, h5⟩ := h3
   exact key _ r2 h5 h4
theorem FndJ.told (g k9 D k : Nat) (r1 r2 : Loop) : Told (FndJ g k9 D k r1 r2) where
 own := FndJ.own
 keep := fun h _ hs => h.same hs
 cell := by
  intro pre m O u mb2 b0 b h hb hn
  refine h.same fun c hc => heap_setCell_other _ _ _ _ ?_
  intro e
  have e : c = mb2 := e
  exact hn (e ▸ hc)
def FndX (g k9 k : Nat) (O : Nat → Prop) (y : Sp) (u : World) (c : Code) (v : World) : Prop := c = .ret ∧ ExtO O O u v ∧ FndB g (some (k, y)) v ∧ BoxV 3 v k9 #[.int .i64 (k : Int)]
theorem FndX.put {g k9 k D : Nat} {O : Nat → Prop} {y : Sp} {u v : World} {c : Code} (h : FndX g k9 k O y u c v) (hO : O (D + 1)) (hg : g + 1 + 1 + 1 < D) (hk : k9 < D) (x : Obj) : FndX g k9 k O y u c (v.putObj (D + 1) x) :=
 ⟨h.1, h.2.1.put hO x, h.2.2.1.same fun c hc => World.putObj_heap_other (by omega), box_put h.2.2.2 (by omega) x⟩
theorem ExtO.row {O : Nat → Prop} {u v : World} (h : ExtO O O u v) {b : Nat} (hl : O b) (cs : Array Value) : ExtO O O u (v.setRow b cs) := by
 refine h.trans ⟨(setRow_below v b cs).mono (Nat.zero_le _), fun c _ hn => ⟨setRow_other _ _ _ _ (fun e => hn ?_), hn⟩⟩
 rw [e]
 exact hl
section
variable {a : Act} {o : Oper} {x y : Operand} {w : World}
theorem stB_run (g : Nat) (b0 : Value) (hg : BoxV 4 w g #[b0]) (ho : o.op = .store 4 x y) (hx : a.eval x = .pointer (some ⟨g, 0, none⟩)) (hy : a.eval y = .bool true) : (execOp a.eval o).run Tryz.prog w = .ok .skip (w.setCell ⟨g, 0, none⟩ (.bool true)) := by
 have hf := hg.free 0
 have hc := hg.get 0 rfl
 unfold execOp
 simp only [ho, hx, hy]
 simp [go_sem, hf, hc]
theorem stE_run (g : Nat) (b0 : Value) (hg : BoxV 30 w g #[b0]) (ho : o.op = .store 30 x y) (hx : a.eval x = .pointer (some ⟨g, 0, none⟩)) (hy : a.eval y = .int .i64 0) : (execOp a.eval o).run Tryz.prog w = .ok .skip (w.setCell ⟨g, 0, none⟩ (.int .i64 0)) := by
 have hf := hg.free 0
 have hc := hg.get 0 rfl
 unfold execOp
 simp only [ho, hx, hy]
 simp [go_sem, hf, hc]
end
theorem sizeMt : (Tryz.prog.info? 46).map (·.size) = some 29 := by kernel_rfl
theorem storeRowIn {P : Program} {n : Nat} {ops : Array Oper} {rest : List Oper} {o : Oper} {a : Act} {w : World} {Q : Exit → Act → World → Prop} (hgd : o.guard = none) (ty : TypeId) (x y : Operand) (ho : o.op = .store ty x y)
  (g : Nat) (cells : Array Value) (hx : a.eval x = .pointer (some ⟨g, 0, none⟩)) (hy : a.eval y = .agg cells)
  (t : TypeId) (old : Array Value) (hg : w.heap[g]? = some (.cells old t (0, 0))) (hi : (P.info? ty).map (·.size) = some cells.size)
  (hold : old.size = cells.size) (h1 : cells.all (·.oneCell') = true)
  (h : wpListIn Fence.wide n P ops Q rest (a.put o.dst undef) (w.setRow g cells)) : wpListIn Fence.wide n P ops Q (o :: rest) a w := by
 unfold wpListIn
 rw [if_pos (by simp [Region.wanted, hgd])]
 refine ⟨fun _ _ => trivial, ?_⟩
 have hrun : (execOp a.eval o).run P w = .ok .skip (w.setRow g cells) := by
  unfold execOp
  simp only [ho, hx, hy, Instr.storeAt, Instr.sureAddr, Sem.run_bind, Sem.run_pure, Result.andThen_ok, run_storeVar_row w g t ty old cells hg hi hold h1]
 rw [show o.semAt Fence.wide.round a.eval = execOp a.eval o from rfl, hrun]
 exact h
theorem resM {fn : Func} {p q r : Tmp} {b : Bool} {cs : Array Value} {w : World} (h : fn.results = #[.cell p 46, .cell q 4, .cell r 30]) (tmps : Array Value) {g g2 g3 : Nat} (hp : tmps.getD p undef = .pointer (some ⟨g, 0, none⟩)) (hq : tmps.getD q undef = .pointer (some ⟨g2, 0, none⟩)) (hr : tmps.getD r undef = .pointer (some ⟨g3, 0, none⟩))
  (hs : cs.size = 29) (hg : BoxV 46 w g cs) (hg2 : BoxV 4 w g2 #[.bool b]) (hg3 : BoxV 30 w g3 #[.int .i64 0]) :
  (results fn tmps).run Tryz.prog w = .ok (.tuple #[.agg cs, .bool b, .int .i64 0]) w := by
 have hp' : tmps[p]?.getD undef = .pointer (some ⟨g, 0, none⟩) := by simpa using hp
 have hq' : tmps[q]?.getD undef = .pointer (some ⟨g2, 0, none⟩) := by simpa using hq
 have hr' : tmps[r]?.getD undef = .pointer (some ⟨g3, 0, none⟩) := by simpa using hr
 have hl := run_loadVar_row w g _ 46 _ _ _ hg Tryz.underlying46 rfl (sizeMt.trans (by rw [hs]))
 have hc2 := hg2.get 0 rfl
 have hc3 := hg3.get 0 rfl
 have hl2 : (loadVar 4 ⟨g2, 0, none⟩).run Tryz.prog w = .ok (.bool b) w := by simp [go_sem, hc2]
 have hl3 : (loadVar 30 ⟨g3, 0, none⟩).run Tryz.prog w = .ok (.int .i64 0) w := by simp [go_sem, hc3]
 simp [results, h, hp', hq', hr', asAddr, hl, hl2, hl3]
theorem mtA_size (x : Option (Nat × Sp)) : (mtA x).size = 29 := by rcases x with _ | ⟨p, z⟩ <;> simp [mtA]
theorem mtA_one (x : Option (Nat × Sp)) : (mtA x).all (·.oneCell') = true := by rcases x with _ | ⟨p, z⟩ <;> simp [mtA, Value.oneCell']
theorem find_leaves {fn : Func} {tmps : Array Value} {w : World} {M : Option (Nat × Sp)} {B : Nat} (hfr : fn.results = #[.cell 4 46, .cell 5 4, .cell 6 30]) (hp : tmps.getD 4 undef = ptr (w.heap.size + 1)) (hq : tmps.getD 5 undef = ptr (w.heap.size + 1 + 1)) (hr : tmps.getD 6 undef = ptr (w.heap.size + 1 + 1 + 1)) (hB : w.heap.size + 1 + 1 + 1 < B) (ds : List Deferred) (u : World) (hd : DefOk B u ds) (hb : Below w.heap.size w u) (hm : FndB w.heap.size M u) :
  LeavesInM Fence.wide 0 Tryz.prog fn tmps (fun e w' => e = .returned (.tuple #[.agg (mtA M), .bool M.isSome, .int .i64 0]) ∧ Below w.heap.size w w') ds .returning u :=
 leaves_defs (B := B) (T := fun u => Below w.heap.size w u ∧ FndB w.heap.size M u) (fun u h => ⟨_, resM hfr tmps hp hq hr (mtA_size M) h.2.m h.2.b h.2.e, rfl, h.1⟩)
  (fun u D h h1 _ => ⟨below_put h.1 (by omega) _, h.2.same fun c hc => World.putObj_heap_other (by omega)⟩) ds u hd ⟨hb, hm⟩
theorem findF_some {s : ByteArray} {r : Re} {f p : Nat} {z : Sp} (h : (outs (outsE s r (p, zrC))).head? = some z) : findF s r (f + 1) p = some (p, z) := by rw [findF, h]
theorem findF_none {s : ByteArray} {r : Re} {f p : Nat} (h : outs (outsE s r (p, zrC)) = []) : findF s r (f + 1) p = findF s r f (p + 1) := by rw [findF, h]; rfl
end Go.Proofs.YteiboobdhjdjkaaGreatDoor.Nai
