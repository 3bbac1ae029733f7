import Derived.Test.YteggpecbeagohaaGreatDoorStpTreeM
import Derived.Test.YteggpecbeagohaaGreatDoorParBuiltM
import Derived.Test.YteggpecbeagohaaGreatDoorCapKitM
namespace Go.Proofs.YteggpecbeagohaaGreatDoor.Stp
open Go.RowKit
open Frm (Fr Pl frC frL frI dpI putF zF Wf mayF idF I64 ptr slc plL plC loadFr storeFr resFB getF sizeFr owns_block)
open Cap (Cp cpC zrC withZ agN agB byB)
open Ast (Nd At12 NodesAt kidsZ Nodes)
abbrev patF : ByteArray := ⟨#[97, 124, 40, 98, 41]⟩
abbrev txtF : ByteArray := ⟨#[98]⟩
def treeF : Nat → Nd := (parseZ patF).1.2
def CF (m : Int) : Mx := ⟨treeF, 4, fun i => (backN treeF 4 i : Int), txtF, m⟩
theorem pat_f : parseZ patF = ((4, treeF), 0) := by
 have h1 : (parseZ patF).1.1 = 4 := by kernel_rfl
 have h2 : (parseZ patF).2 = 0 := by kernel_rfl
 unfold treeF
 rw [← h1, ← h2]
theorem right_f : Ast.rightZ treeF 4 = 0 := by kernel_rfl
def noF : Nat → Nd := fun _ => nd0 0
theorem right_no : Ast.rightZ noF 0 = 3 := by kernel_rfl
theorem sane_f (m : Int) : Sane (CF m) [(zF, 0)] := by
 refine .first (tok_of right_f (by show 1 ≤ 10000; omega)) fun j hj _ => ?_
 have h : (parseZ patF).2 = 0 := by kernel_rfl
 have h1 : (parseZ patF).1.1 = 4 := by kernel_rfl
 exact parse_words h j (by rw [h1]; exact hj)
def B1 := beginZ (CF 100) [(zF, 0)] 0
theorem b1 : B1.1.f = 1 ∧ B1.1.p = 0 ∧ B1.2.1 = 0 ∧ B1.2.2.length = 2 := ⟨by kernel_rfl, by kernel_rfl, by kernel_rfl, by kernel_rfl⟩
def N1 := nextZ (CF 100) B1.2.2 B1.1
theorem n1 : N1.1.k = 3 ∧ N1.1.a.f = 2 ∧ N1.1.b.f = 3 ∧ N1.2.1 = 0 ∧ N1.2.2.length = 4 := ⟨by kernel_rfl, by kernel_rfl, by kernel_rfl, by kernel_rfl, by kernel_rfl⟩
def N2 := nextZ (CF 100) N1.2.2 N1.1.a
theorem n2 : N2.1.k = 0 ∧ N2.2.1 = 0 ∧ N2.2.2.length = 4 := ⟨by kernel_rfl, by kernel_rfl, by kernel_rfl⟩
def R1 := runF (CF 100) 50 N2.2.2 B1.1 50
theorem r1 : R1.1.1.f = 0 ∧ R1.1.1.p = 1 ∧ R1.1.2.1 = true ∧ R1.2.length = 6 := ⟨by kernel_rfl, by kernel_rfl, by kernel_rfl, by kernel_rfl⟩
theorem r2 : 0 < R1.1.2.2 := of_decide_eq_true (by kernel_rfl)
theorem r3 : Cap.plX R1.1.1.c 1 = 0 ∧ Cap.plY R1.1.1.c 1 = 1 ∧ Cap.plB R1.1.1.c 1 = true := ⟨by kernel_rfl, by kernel_rfl, by kernel_rfl⟩
def B2 := beginZ (CF 1) [(zF, 0)] 0
theorem b2 : B2.2.1 = 0 ∧ B2.2.2.length = 2 := ⟨by kernel_rfl, by kernel_rfl⟩
def N3 := nextZ (CF 1) B2.2.2 B2.1
theorem n3 : N3.2.1 = 4 := by kernel_rfl
def N4 := nextZ (CF 100) R1.2 ⟨99, 0, zrC⟩
theorem n4 : N4.2.1 = 1 ∧ N4.2.2 = R1.2 := ⟨by kernel_rfl, by kernel_rfl⟩
theorem j1 : joinZ 1 B1.1 R1.1.1 false = (zCf, false) := by rfl
theorem s1 : Sane (CF 100) B1.2.2 := by
 rcases begin_res (sane_f 100) (by simp) 0 ⟨by omega, by show (0 : Int) ≤ 1; omega⟩ with ⟨M1, i, e, -, h, -⟩ | ⟨M1, e, -⟩
 ·unfold B1; rw [e]; exact h
 ·have h := b1.2.2.1
  unfold B1 at h; rw [e] at h
  exact absurd h (by show ¬ (4 : Int) = 0; omega)
theorem s2 : Sane (CF 100) N1.2.2 := (s1.next (by rw [b1.2.2.2]; omega) _).1
theorem s3 : Sane (CF 100) N2.2.2 := (s2.next (by rw [n1.2.2.2.2]; omega) _).1
theorem s4 : Sane (CF 100) R1.2 := (s3.run 50 (by rw [n2.2.2]; omega) _).1
theorem s5 : Sane (CF 1) B2.2.2 := by
 rcases begin_res (sane_f 1) (by simp) 0 ⟨by omega, by show (0 : Int) ≤ 1; omega⟩ with ⟨M1, i, e, -, h, -⟩ | ⟨M1, e, -⟩
 ·unfold B2; rw [e]; exact h
 ·have h := b2.1
  unfold B2 at h; rw [e] at h
  exact absurd h (by show ¬ (4 : Int) = 0; omega)
theorem ld_part {ops : Array Oper} {rest : List Oper} {o : Oper} {a : Act} {w : World} {Q : Exit → Act → World → Prop} (hgd : o.guard = none) (x : Operand) (ho : o.op = .load 26 x) (g : Nat) (c : Cf) (hx : a.eval x = .pointer (some ⟨g, 2, none⟩)) (hg : Frm.BoxV 28 w g (cfA c))
  (h : wpList Tryz.prog ops Q rest (a.put o.dst (.agg (cpC c.c))) w) : wpList Tryz.prog ops Q (o :: rest) a w := by
 refine wpList_load_mid hgd 26 x ho g 2 hx (cpC c.c).toList _ (fun i v hv => hg.get _ ?_) Tryz.underlying26 rfl (by kernel_rfl) h
 rw [cfA, List.getElem?_toArray, Nat.add_comm]
 exact hv
theorem bCf99 {o : Oper} {a : Act} {w : World} (ho : o.op = .build 28 #[(0, .const (.int .i64 99))]) : (execOp a.eval o).run Tryz.prog w = .ok (.value (.agg (cfA ⟨99, 0, zrC⟩))) w := by
 unfold execOp
 simp only [ho]
 kernel_rfl
theorem has_put {T : TypeId} {g : Nat} {cs : Array Value} {u v : World} (k : Put T g cs u v) : ∀ {L : List (TypeId × Nat × Array Value)}, (∀ e, e ∈ L → e.2.1 < g) → Has L u → Has L v
 | [], _, _ => trivial
 | e :: r, hl, h => ⟨(k.other _ (Nat.ne_of_lt (hl e (by simp)))).trans h.1, has_put k (fun x hx => hl x (by simp [hx])) h.2⟩
theorem Has.lt {w : World} : ∀ {L : List (TypeId × Nat × Array Value)}, Has L w → ∀ e, e ∈ L → e.2.1 < w.heap.size
 | [], _, e, he => by cases he
 | x :: r, h, e, he => by
   rcases List.mem_cons.mp he with rfl | he
   ·exact Frm.BoxV.lt h.1
   ·exact Has.lt h.2 e he
theorem Has.more {L : List (TypeId × Nat × Array Value)} {w u v : World} {T : TypeId} {cs0 cs : Array Value} (h : Has L w) (x : New T cs0 w u) (k : Put T w.heap.size cs u v) : Has ((T, w.heap.size, cs) :: L) v :=
 ⟨k.box, has_put k h.lt (h.call x.low)⟩
theorem Pair.more {w0 w u v : World} {t : Nat} {H1 H2 : Wh} {C1 C2 : Mx} {o1 o2 : Option Nat} {M1 M2 : List Pl} {T : TypeId} {cs0 cs : Array Value} (h : Pair w0 t H1 H2 C1 C2 o1 o2 M1 M2 w) (hT : T ≠ 112 ∧ T ≠ 85) (x : New T cs0 w u) (k : Put T w.heap.size cs u v) : Pair w0 t H1 H2 C1 C2 o1 o2 M1 M2 v :=
 (h.below x.low).put x.box hT h.sizes.2 k
section
variable {o : Oper} {a : Act} {w : World} {x y : Operand}
theorem ldCf_run (g : Nat) (c : Cf) (ho : o.op = .load 28 x) (hx : a.eval x = .pointer (some ⟨g, 0, none⟩)) (hg : Frm.BoxV 28 w g (cfA c)) : (execOp a.eval o).run Tryz.prog w = .ok (.value (.agg (cfA c))) w := by
 unfold execOp
 simp only [ho, hx, Instr.loadAt, Instr.sureAddr, Sem.run_bind, Sem.run_pure, Result.andThen_ok, run_loadVar_row w g _ _ _ _ _ hg Tryz.underlying28 rfl sizeCf]
theorem eqZ_run (ho : o.op = .binOp .eql 28 x y 28) (hx : a.eval x = .agg (cfA zCf)) (hy : a.eval y = .agg (cfA zCf)) : (execOp a.eval o).run Tryz.prog w = .ok (.value (.bool true)) w := by
 unfold execOp
 simp only [ho, hx, hy]
 kernel_rfl
end
set_option maxRecDepth 100000 in
set_option maxHeartbeats 8000000 in
theorem fixed_any (K : PKit) (hLib : Cap.LibA) (hCl : Cap.CloneOk) (w : World) (hw : Tabs w) : Calls Tryz.prog 9 #[] w fun e w' => e = .returned (.bool true) ∧ Below w.heap.size w w' := by
 have HK := Lib.hid (And.intro K (And.intro hLib hCl))
 have PA := Lib.hid (fun w hw => parse_at K patF 4 0 treeF pat_f w hw)
 have HW := Lib.hid hw
 clear K hLib hCl hw
 go_enter Tryz.func9, Tryz.ntmps9
 go_wp2_with fail
 refine (PA.out w HW.out).mono ?_
 rintro e w1 ⟨A, cap, rfl, hT, hB⟩
 have hA : ∃ b o, A = some ⟨b, o, none⟩ := by
  obtain ⟨b, o, h, -⟩ := hT.nodes 0 (by show 0 < 4; omega)
  exact ⟨b, o, h⟩
 obtain ⟨b, o, rfl⟩ := hA
 obtain ⟨v1, hv1⟩ : ∃ v, w1.alloc (.cells #[.slice (some ⟨b, o, none⟩) 4 cap] 43) = v := ⟨_, rfl⟩
 obtain ⟨g1, hg1⟩ : ∃ g, w1.heap.size = g := ⟨_, rfl⟩
 have L1 := Lib.hid (show Below w.heap.size w v1 from hB.trans (hv1 ▸ (Below.refl _ w1).alloc hB.size _))
 have X1 := Lib.hid (show Frm.BoxV 43 v1 g1 #[.slice (some ⟨b, o, none⟩) 4 cap] from hg1 ▸ hv1 ▸ Frm.BoxV.new w1 _)
 have T1 := Lib.hid (show Nodes v1 (some ⟨b, o, none⟩) 4 treeF from hT.nodes.below (B := w1.heap.size) (hv1 ▸ (Below.refl _ w1).alloc (Nat.le_refl _) _) (Nat.le_refl _))
 have HV := Lib.hid hv1
 have x1 := X1.out.get 0 rfl
 clear hT hB hv1 HW PA
 go_wp2_with fail
 clear x1
 rw [HV.out]
 refine (new_any HK.out.1.sort HK.out.1.none HK.out.2.2 (some ⟨b, o, none⟩) 4 cap treeF txtF 100 v1 (by omega) (fun e => by cases e) T1.out (by show 1 ≤ _; omega)).mono ?_
 rintro e v2 ⟨hB, ⟨h, -⟩ | ⟨-, ⟨h, -⟩ | ⟨-, ⟨h, -⟩ | ⟨-, H1, b1, m1, q1, rfl, hm, p1, p2, p3, p4, p5, p6⟩⟩⟩⟩
 case inl => exact absurd right_f h
 case inr.inl => exact absurd h (by show ¬ 10000 < 1; omega)
 case inr.inr.inl => omega
 have L2 := Lib.hid (L1.out.trans (hB.mono L1.out.size))
 have X2 := Lib.hid (X1.out.below hB X1.out.lt)
 have T2 := Lib.hid (T1.out.below hB (Nat.le_refl _))
 have HM := Lib.hid (show Mch v2 H1 (CF 100) b1 m1 (some q1) [(zF, 0)] from hm)
 have P1 := Lib.hid (show v1.heap.size ≤ H1.p ∧ v1.heap.size ≤ b1 ∧ v1.heap.size ≤ m1 ∧ v1.heap.size ≤ q1 from ⟨p1, p2, p3, p4⟩)
 clear hB hm p1 p2 p3 p4 p5 p6 X1 T1 HV
 go_wp2_with fail
 refine (new_any HK.out.1.sort HK.out.1.none HK.out.2.2 none 0 0 noF ⟨#[]⟩ 100 v2 (by omega) (fun e => ⟨rfl, rfl⟩) (fun i hi => absurd hi (Nat.not_lt_zero i)) (by show 0 ≤ _; omega)).mono ?_
 rintro e v3 ⟨hB, ⟨-, rfl⟩ | ⟨h, -⟩⟩
 case inr => rw [right_no] at h; omega
 rw [right_no]
 have L3 := Lib.hid (L2.out.trans (hB.mono L2.out.size))
 have X3 := Lib.hid (X2.out.below hB X2.out.lt)
 have T3 := Lib.hid (T2.out.below hB (Nat.le_refl _))
 have HM3 := Lib.hid (HM.out.below hB (Nat.le_refl _))
 clear hB HM X2 T2
 have x3 := X3.out.get 0 rfl
 go_wp2_with fail
 clear x3
 refine (new_any HK.out.1.sort HK.out.1.none HK.out.2.2 (some ⟨b, o, none⟩) 4 cap treeF ⟨#[]⟩ (-1) v3 (by omega) (fun e => by cases e) T3.out (by show 0 ≤ _; omega)).mono ?_
 rintro e v4 ⟨hB, ⟨h, -⟩ | ⟨-, ⟨h, -⟩ | ⟨-, ⟨-, rfl⟩ | ⟨h, -⟩⟩⟩⟩
 case inl => exact absurd right_f h
 case inr.inl => exact absurd h (by show ¬ 10000 < 0; omega)
 case inr.inr.inr => omega
 have L4 := Lib.hid (L3.out.trans (hB.mono L3.out.size))
 have X4 := Lib.hid (X3.out.below hB X3.out.lt)
 have T4 := Lib.hid (T3.out.below hB (Nat.le_refl _))
 have HM4 := Lib.hid (HM3.out.below hB (Nat.le_refl _))
 clear hB HM3 X3 T3
 have x4 := X4.out.get 0 rfl
 go_wp2_with fail
 clear x4
 refine (new_any HK.out.1.sort HK.out.1.none HK.out.2.2 (some ⟨b, o, none⟩) 4 cap treeF txtF 1 v4 (by omega) (fun e => by cases e) T4.out (by show 1 ≤ _; omega)).mono ?_
 rintro e v5 ⟨hB, ⟨h, -⟩ | ⟨-, ⟨h, -⟩ | ⟨-, ⟨h, -⟩ | ⟨-, H2, b2, m2, q2, rfl, hm, p1, p2, p3, p4, p5, p6⟩⟩⟩⟩
 case inl => exact absurd right_f h
 case inr.inl => exact absurd h (by show ¬ 10000 < 1; omega)
 case inr.inr.inl => omega
 have PR := Lib.hid (show Pair w v5.heap.size H1 H2 (CF 100) (CF 1) (some q1) (some q2) [(zF, 0)] [(zF, 0)] v5 from by
  have hm1 := HM4.out.below hB (Nat.le_refl _)
  have l1 := HM4.out.low
  have l2 := hm.low
  have z1 := hB.size
  have z0 := L1.out.size
  have z4 := L4.out.size
  have k1 := P1.out
  obtain ⟨-, ⟨cs, T, e1⟩, -⟩ := HM4.out.ms.old q1 rfl
  have e1 := lt_of_block e1
  obtain ⟨-, ⟨cs, T, e2⟩, -⟩ := hm.ms.old q2 rfl
  have e2 := lt_of_block e2
  refine ⟨L4.out.trans (hB.mono L4.out.size), ⟨Nat.le_refl _, by omega, by omega, by omega, by omega, by omega, by omega, by omega, fun q e => by cases e; omega, fun q e => by cases e; omega⟩, b1, m1, b2, m2, hm1, hm, by omega, by omega, fun j hj => ?_, fun j hj => ?_⟩
  ·have hj' : v4.heap.size ≤ j := by
    rcases hj with rfl | rfl | rfl | rfl | rfl | e
    ·omega
    ·omega
    ·omega
    ·omega
    ·omega
    ·cases e; omega
   omega
  ·have hj' : j < v4.heap.size := by
    rcases hj with rfl | rfl | rfl | rfl | rfl | e
    ·omega
    ·omega
    ·omega
    ·omega
    ·omega
    ·cases e; omega
   omega)
 clear hB HM4 X4 T4 L1 L2 L3 L4 P1 hm p1 p2 p3 p4 p5 p6 b1 b2 m1 m2
 go_wp2_with fail
 have BX := Lib.hid (show Has [] v5 from trivial)
 have O1 := (sane_f 100).ok
 have O2 := (sane_f 1).ok
 refine (PR.out.begin_no (sane_f 100).ok 2 (by show ¬ (0 ≤ (2 : Int) ∧ (2 : Int) ≤ 1); omega)).mono ?_
 rintro e v6 ⟨rfl, hB⟩
 have PR6 := Lib.hid (PR.out.below hB)
 have BX6 := Lib.hid (BX.out.call hB)
 clear hB PR BX O1 O2
 go_wp2_with (refine allocCf rfl (by rfl) ?_)
 intro u X
 go_wp2_with (refine putCf rfl _ _ rfl v6.heap.size zCf (cfA zCf) rfl rfl (cfA_size _) X.out.box ?_)
 intro v7 Y
 have PR7 := Lib.hid (PR6.out.more (by decide) X.out Y.out)
 have BX7 := Lib.hid (BX6.out.more X.out Y.out)
 clear X Y PR6 BX6
 go_wp2_with fail
 refine (PR7.out.begins (sane_f 100).ok (by simp) 0 ⟨by omega, by show (0 : Int) ≤ 1; omega⟩).mono ?_
 rintro e v8 ⟨rfl, hP, -, hh⟩
 rw [show beginZ (CF 100) [(zF, 0)] 0 = B1 from rfl] at hP ⊢
 have PR8 := Lib.hid hP
 have BX8 := Lib.hid (hh _ (by unfold Own; simp; try decide) BX7.out)
 clear hP hh PR7 BX7
 rw [b1.2.2.1]
 go_wp2_with (refine allocCf rfl (by rfl) ?_)
 intro u X
 go_wp2_with (refine putCf rfl _ _ rfl v8.heap.size B1.1 (cfA zCf) rfl rfl (cfA_size _) X.out.box ?_)
 intro v9 Y
 have PR9 := Lib.hid (PR8.out.more (by decide) X.out Y.out)
 have BX9 := Lib.hid (BX8.out.more X.out Y.out)
 clear X Y PR8 BX8
 go_wp2_with (refine loadCf rfl _ rfl v8.heap.size B1.1 rfl BX9.out.1 ?_)
 refine (PR9.out.next HK.out.2.1 s1 (by rw [b1.2.2.2]; omega) B1.1).mono ?_
 rintro e v10 ⟨rfl, hP, -, hh⟩
 rw [show nextZ (CF 100) B1.2.2 B1.1 = N1 from rfl] at hP ⊢
 have PR10 := Lib.hid hP
 have BX10 := Lib.hid (hh _ (by unfold Own; simp; try decide) BX9.out)
 clear hP hh PR9 BX9
 rw [n1.2.2.2.1]
 go_wp2_with (refine allocSq rfl (by rfl) ?_)
 intro u X
 go_wp2_with (refine putSq rfl _ _ rfl v10.heap.size N1.1 (sqA failQ) rfl rfl (sqA_size _) X.out.box ?_)
 intro v11 Y
 have PR11 := Lib.hid (PR10.out.more (by decide) X.out Y.out)
 have BX11 := Lib.hid (BX10.out.more X.out Y.out)
 clear X Y PR10 BX10
 go_wp2_with (refine loadA rfl _ rfl v10.heap.size N1.1 rfl BX11.out.1 ?_)
 refine (PR11.out.next HK.out.2.1 s2 (by rw [n1.2.2.2.2]; omega) N1.1.a).mono ?_
 rintro e v12 ⟨rfl, hP, -, hh⟩
 rw [show nextZ (CF 100) N1.2.2 N1.1.a = N2 from rfl] at hP ⊢
 have PR12 := Lib.hid hP
 have BX12 := Lib.hid (hh _ (by unfold Own; simp; try decide) BX11.out)
 clear hP hh PR11 BX11
 rw [n2.2.1]
 go_wp2_with (refine allocSq rfl (by rfl) ?_)
 intro u X
 go_wp2_with (refine putSq rfl _ _ rfl v12.heap.size N2.1 (sqA failQ) rfl rfl (sqA_size _) X.out.box ?_)
 intro v13 Y
 have PR13 := Lib.hid (PR12.out.more (by decide) X.out Y.out)
 have BX13 := Lib.hid (BX12.out.more X.out Y.out)
 clear X Y PR12 BX12
 go_wp2_with (refine loadCf rfl _ rfl v8.heap.size B1.1 rfl BX13.out.2.2.1 ?_)
 refine (show Calls Tryz.prog 18 #[ptr H1.p, .agg (cfA B1.1), .int .i64 50] v13 _ from PR13.out.run HK.out.2.1 s3 50 (by rw [n2.2.2]; omega) B1.1).mono ?_
 rintro e v14 ⟨rfl, hP, -, hh⟩
 rw [show runF (CF 100) 50 N2.2.2 B1.1 50 = R1 from rfl] at hP ⊢
 have PR14 := Lib.hid hP
 have BX14 := Lib.hid (hh _ (by unfold Own; simp; try decide) BX13.out)
 clear hP hh PR13 BX13
 rw [r1.2.2.1]
 go_wp2_with (refine allocCf rfl (by rfl) ?_)
 intro u X
 go_wp2_with (refine putCf rfl _ _ rfl v14.heap.size R1.1.1 (cfA zCf) rfl rfl (cfA_size _) X.out.box ?_)
 intro v15 Y
 have PR15 := Lib.hid (PR14.out.more (by decide) X.out Y.out)
 have BX15 := Lib.hid (BX14.out.more X.out Y.out)
 clear X Y PR14 BX14
 go_wp2_with fail
 refine (PR15.out.swap.begins (sane_f 1).ok (by simp) 0 ⟨by omega, by show (0 : Int) ≤ 1; omega⟩).mono ?_
 rintro e v16 ⟨rfl, hP, -, hh⟩
 rw [show beginZ (CF 1) [(zF, 0)] 0 = B2 from rfl] at hP ⊢
 have PR16 := Lib.hid hP.swap
 have BX16 := Lib.hid (hh _ (by unfold Own; simp; try decide) BX15.out)
 clear hP hh PR15 BX15
 rw [b2.1]
 go_wp2_with (refine allocCf rfl (by rfl) ?_)
 intro u X
 go_wp2_with (refine putCf rfl _ _ rfl v16.heap.size B2.1 (cfA zCf) rfl rfl (cfA_size _) X.out.box ?_)
 intro v17 Y
 have PR17 := Lib.hid (PR16.out.more (by decide) X.out Y.out)
 have BX17 := Lib.hid (BX16.out.more X.out Y.out)
 clear X Y PR16 BX16
 go_wp2_with (refine loadCf rfl _ rfl v16.heap.size B2.1 rfl BX17.out.1 ?_)
 refine (PR17.out.swap.next HK.out.2.1 s5 (by rw [b2.2]; omega) B2.1).mono ?_
 rintro e v18 ⟨rfl, hP, -, hh⟩
 rw [show nextZ (CF 1) B2.2.2 B2.1 = N3 from rfl] at hP ⊢
 have PR18 := Lib.hid hP.swap
 have BX18 := Lib.hid (hh _ (by unfold Own; simp; try decide) BX17.out)
 clear hP hh PR17 BX17
 rw [n3]
 go_wp2_with (refine allocSq rfl (by rfl) ?_)
 intro u X
 go_wp2_with (refine putSq rfl _ _ rfl v18.heap.size N3.1 (sqA failQ) rfl rfl (sqA_size _) X.out.box ?_)
 intro v19 Y
 have PR19 := Lib.hid (PR18.out.more (by decide) X.out Y.out)
 have BX19 := Lib.hid (BX18.out.more X.out Y.out)
 clear X Y PR18 BX18
 go_wp2_with (refine lineW _ _ (by rfl) (bCf99 rfl) ?_)
 refine (PR19.out.next HK.out.2.1 s4 (by rw [r1.2.2.2]; omega) ⟨99, 0, zrC⟩).mono ?_
 rintro e v20 ⟨rfl, hP, -, hh⟩
 rw [show nextZ (CF 100) R1.2 ⟨99, 0, zrC⟩ = N4 from rfl] at hP ⊢
 have PR20 := Lib.hid hP
 have BX20 := Lib.hid (hh _ (by unfold Own; simp; try decide) BX19.out)
 clear hP hh PR19 BX19
 rw [n4.1]
 go_wp2_with (refine allocSq rfl (by rfl) ?_)
 intro u X
 go_wp2_with (refine putSq rfl _ _ rfl v20.heap.size N4.1 (sqA failQ) rfl rfl (sqA_size _) X.out.box ?_)
 intro v21 Y
 have PR21 := Lib.hid (PR20.out.more (by decide) X.out Y.out)
 have BX21 := Lib.hid (BX20.out.more X.out Y.out)
 clear X Y PR20 BX20
 go_wp2_with (first | refine loadCf rfl _ rfl v8.heap.size B1.1 rfl BX21.out.2.2.2.2.2.2.1 ?_ | refine loadCf rfl _ rfl v14.heap.size R1.1.1 rfl BX21.out.2.2.2.1 ?_)
 refine (join_any 1 B1.1 R1.1.1 false v21).mono ?_
 rintro e v22 ⟨rfl, hB⟩
 rw [j1]
 have PR22 := Lib.hid (PR21.out.below hB)
 have BX22 := Lib.hid (BX21.out.call hB)
 clear hB PR21 BX21
 go_wp2_with (refine allocCf rfl (by rfl) ?_)
 intro u X
 go_wp2_with (refine putCf rfl _ _ rfl v22.heap.size zCf (cfA zCf) rfl rfl (cfA_size _) X.out.box ?_)
 intro v23 Y
 have PR23 := Lib.hid (PR22.out.more (by decide) X.out Y.out)
 have BX23 := Lib.hid (BX22.out.more X.out Y.out)
 clear X Y PR22 BX22
 go_wp2_with (refine ld_part rfl _ rfl v14.heap.size R1.1.1 rfl BX23.out.2.2.2.2.1 ?_)
 refine (Cap.get_any R1.1.1.c 1 v23).mono ?_
 rintro e v24 ⟨rfl, hB⟩
 rw [r3.1, r3.2.1, r3.2.2]
 have PR24 := Lib.hid (PR23.out.below hB)
 have BX24 := Lib.hid (BX23.out.call hB)
 clear hB PR23 BX23
 have rp := r2
 have k1 := BX24.out.2.2.2.2.1.get 0 (cf_get0 _)
 have k2 := BX24.out.2.2.2.2.1.get 1 (cf_get1 _)
 have k3 := BX24.out.2.2.2.2.2.1.get 0 (sq_get0 _)
 have k4 := BX24.out.2.2.2.2.2.2.1.get 0 (sq_get0 _)
 have k5 := BX24.out.2.2.2.2.2.2.1.get _ (sq_a _ (j := 0) rfl)
 have k6 := BX24.out.2.2.2.2.2.2.1.get _ (sq_b _ (j := 0) rfl)
 have k7 := BX24.out.2.2.2.2.2.2.2.1.get 0 (cf_get0 _)
 have LN := Lib.hid PR24.out.len
 rw [r1.1] at k1
 rw [r1.2.1] at k2
 rw [n2.1] at k3
 rw [n1.1] at k4
 rw [n1.2.1] at k5
 rw [n1.2.2.1] at k6
 rw [b1.1] at k7
 go_wp2_with (first | refine lineW _ _ (by rfl) (ldCf_run v22.heap.size zCf rfl rfl BX24.out.1) ?_ | refine lineW _ _ (by rfl) (bCf0 rfl) ?_ | refine lineW _ _ (by rfl) (eqZ_run rfl rfl rfl) ?_)
 refine LN.out.mono ?_
 rintro e v25 ⟨rfl, hB⟩
 rw [show ((N4.2.2.length : Nat) : Int) - 1 = 5 by rw [n4.2, r1.2.2.2]; rfl]
 have PR25 := Lib.hid (PR24.out.below hB)
 clear hB PR24 BX24 LN k1 k2 k3 k4 k5 k6 k7 rp
 go_wp2_with fail
 go_ret
 exact ⟨rfl, PR25.out.low⟩
end Go.Proofs.YteggpecbeagohaaGreatDoor.Stp
