/- order.Pack. -/
import Derived.Test.YtheakienigmkhaaOrTh
import Derived.Test.YtheakienigmkhaaPgChecksWalk
namespace Go.Proofs.Ytheakienigmkhaa
open Go.RowKit Go.Shelf

def OrPackR (w w' : World) (e : Ending) (p : Pg) : Prop := if rightB p = true then ∃ v, e = .returned (.tuple #[v, .int .i64 0]) ∧ OwnPg w' w.heap.size v (packP p) else e = .returned (.tuple #[.agg #[.int .i64 0, .int .i64 0, .slice none 0 0, .slice none 0 0], .int .i64 80])
theorem pk_regs_ok {p : Pg} (hr : rightB p = true) : (0 ≤ p.ins ∧ p.ins ≤ 1000) ∧ (pkOuts p ≠ [] ∧ (pkOuts p).length ≤ 1000 ∧ ∀ x ∈ pkOuts p, 0 ≤ x ∧ x ≤ 1000) ∧ (psAt p p.code.length).code.length ≤ 100000 ∧ ∀ i ∈ (psAt p p.code.length).code, 1 ≤ i.op ∧ i.op ≤ 8 ∧ 0 ≤ i.to ∧ i.to ≤ 1000 ∧ ∀ x ∈ asksL i, 0 ≤ x ∧ x ≤ 1000 := by
  have hq := pk_right hr
  obtain ⟨q1, q2, q3, q4, q5, q6, q7, q8⟩ := right_parts hq
  obtain ⟨p1, p2, p3, _⟩ := right_parts hr
  refine ⟨⟨by omega, by omega⟩, ⟨fun h => ?_, ?_, fun x hx => ?_⟩, ?_, fun i hi => ?_⟩
  · have : (packP p).outs.length = 0 := by show (pkOuts p).length = 0; rw [h]; rfl
    omega
  · have : (pkOuts p).length ≤ 128 := q6
    omega
  · have := out_toNat hq (r := x) hx
    omega
  · have : (psAt p p.code.length).code.length ≤ 16384 := q4
    omega
  · obtain ⟨k, hk, rfl⟩ := List.mem_iff_getElem.1 hi
    have e : (psAt p p.code.length).code[k] = cd (packP p).code k := by show _ = (packP p).code.getD k _; rw [List.getD_eq_getElem?_getD, List.getElem?_eq_getElem (show k < (packP p).code.length from hk)]; rfl
    rw [e]
    have m := may_parts (q8 k hk)
    refine ⟨m.2.2.2.2.2.2.1, m.2.2.2.2.2.2.2.1, m.1, by omega, fun x hx => ?_⟩
    have := ask_toNat hq hk hx
    omega
set_option maxRecDepth 100000 in
set_option maxHeartbeats 8000000 in
theorem orpack_any (v : Value) (p : Pg) (w : World) (h : PgAt w v p) (hl4 : rightB p = true → p.code.length ≤ 400) :
    Calls Try.prog 15 #[v] w fun e w' => OrPackR w w' e p ∧ Below w.heap.size w w' := by
  have HP := hide h
  have HP0 := hide h
  have HL := hide hl4
  obtain ⟨ca, cc, oa, oc, rfl, hc, ho⟩ := h
  have KC := hide hc
  have KO := hide ho
  have KO0 := hide ho
  clear hc ho hl4
  go_enter Try.func15, Try.ntmps15
  go_upto_region 1 with fail
  have b1 := below_alloc w (.cells #[.int .i64 p.ins, .int .i64 p.regs, .slice ca p.code.length cc, .slice oa p.outs.length oc] 25)
  have b2 := below_alloc (w.alloc (.cells #[.int .i64 p.ins, .int .i64 p.regs, .slice ca p.code.length cc, .slice oa p.outs.length oc] 25)) (.cells #[.int .i64 0, .int .i64 0, .slice none 0 0, .slice none 0 0] 25)
  have PX := hide ((Box4.new w 25 (.int .i64 p.ins) (.int .i64 p.regs) (.slice ca p.code.length cc) (.slice oa p.outs.length oc)).step b2)
  have RX := hide (Box4.new (w.alloc (.cells #[.int .i64 p.ins, .int .i64 p.regs, .slice ca p.code.length cc, .slice oa p.outs.length oc] 25)) 25 (.int .i64 0) (.int .i64 0) (.slice none 0 0) (.slice none 0 0))
  rw [World.size_alloc] at RX
  replace KC := hide ((KC.out.below b1).below b2)
  replace KO := hide ((KO.out.below b1).below b2)
  replace HP := hide ((HP.out.below b1).below b2)
  have HB := hide (b1.trans (b2.mono b1.size))
  clear b1 b2
  generalize ((w.alloc (.cells #[.int .i64 p.ins, .int .i64 p.regs, .slice ca p.code.length cc, .slice oa p.outs.length oc] 25)).alloc (.cells #[.int .i64 0, .int .i64 0, .slice none 0 0, .slice none 0 0] 25)) = w1 at *
  obtain ⟨B0, hB⟩ : ∃ B, B = w.heap.size := ⟨_, rfl⟩
  have HZ := hide hB
  rw [← hB] at PX RX ⊢
  clear hB
  obtain ⟨R, hR⟩ : ∃ R, R = B0 + 1 := ⟨_, rfl⟩
  have HR := hide hR
  rw [← hR] at RX ⊢
  clear hR
  have c0 := PX.out.cell0
  have c1 := PX.out.cell1
  have c2 := PX.out.cell2
  have c3 := PX.out.cell3
  have r0 := RX.out.cell0
  have r1 := RX.out.cell1
  have r2 := RX.out.cell2
  have r3 := RX.out.cell3
  have f0 := RX.out.free 0
  have f1 := RX.out.free 1
  have f2 := RX.out.free 2
  have f3 := RX.out.free 3
  go_wp2_with fail
  refine (check_any _ p _ HP.out).mono ?_
  rintro e w2 ⟨rfl, hb⟩
  replace KC := hide (KC.out.below hb)
  replace KO := hide (KO.out.below hb)
  replace HP := hide (HP.out.below hb)
  replace PX := hide (PX.out.step hb)
  replace RX := hide (RX.out.step hb)
  replace HB := hide (HB.out.trans (hb.mono HB.out.size))
  clear hb c0 c1 c2 c3 r0 r1 r2 r3 f0 f1 f2 f3
  cases hr : rightB p with
  | false =>
    have HRR := hide hr
    rw [ck_wrong hr]
    clear hr
    generalize chkK p = kk
    have r0 := RX.out.cell0
    have r1 := RX.out.cell1
    have r2 := RX.out.cell2
    have r3 := RX.out.cell3
    have f0 := RX.out.free 0
    have f1 := RX.out.free 1
    have f2 := RX.out.free 2
    have f3 := RX.out.free 3
    go_wp2
    refine ret_pge rfl R _ _ _ _ rfl (RX.out.put _ _ _ _) rfl ?_
    refine ⟨?_, ?_⟩
    · unfold OrPackR; rw [HRR.out, if_neg (by decide)]; rfl
    · exact below_put4 HB.out (by have := HR.out; have := HZ.out; omega) _ _ _ _
  | true =>
    have HRR := hide hr
    rw [ck_right hr]
    clear hr
    have LR := hide RX.out.lt
    have c0 := PX.out.cell0
    have c1 := PX.out.cell1
    have c2 := PX.out.cell2
    have c3 := PX.out.cell3
    go_wp2_with fail
    refine (lives_any _ p _ HP.out HRR.out (HL.out HRR.out)).mono ?_
    rintro e w3 ⟨⟨gf, gs, rfl, hF, hS, hgf, hgs, hne⟩, hb⟩
    replace KC := hide (KC.out.below hb)
    replace KO := hide (KO.out.below hb)
    replace HP := hide (HP.out.below hb)
    replace PX := hide (PX.out.step hb)
    replace RX := hide (RX.out.step hb)
    replace HB := hide (HB.out.trans (hb.mono HB.out.size))
    have W2 := hide hb.size
    have FX := hide hF
    have SX := hide hS
    have GE := hide (And.intro hgf (And.intro hgs hne))
    clear hF hS hgf hgs hne hb c0 c1 c2 c3
    go_upto_region 5 with fail
    have hb := below_alloc w3 (.cells #[.slice (some ⟨gf, 0, none⟩) (p.ins.toNat + 1) (p.ins.toNat + 1), .slice (some ⟨gs, 0, none⟩) p.code.length p.code.length] 67)
    have LX := hide (Box2.new w3 67 (.slice (some ⟨gf, 0, none⟩) (p.ins.toNat + 1) (p.ins.toNat + 1)) (.slice (some ⟨gs, 0, none⟩) p.code.length p.code.length))
    replace KC := hide (KC.out.below hb)
    replace KO := hide (KO.out.below hb)
    replace HP := hide (HP.out.below hb)
    replace PX := hide (PX.out.step hb)
    replace RX := hide (RX.out.step hb)
    replace FX := hide (FX.out.step hb)
    replace SX := hide (SX.out.step hb)
    replace HB := hide (HB.out.trans (hb.mono HB.out.size))
    have W3 := hide hb.size
    have W3l := hide (show w3.heap.size < (w3.alloc (.cells #[.slice (some ⟨gf, 0, none⟩) (p.ins.toNat + 1) (p.ins.toNat + 1), .slice (some ⟨gs, 0, none⟩) p.code.length p.code.length] 67)).heap.size by rw [World.size_alloc]; omega)
    clear hb
    generalize w3.alloc (.cells #[.slice (some ⟨gf, 0, none⟩) (p.ins.toNat + 1) (p.ins.toNat + 1), .slice (some ⟨gs, 0, none⟩) p.code.length p.code.length] 67) = w4 at *
    generalize hLb : w3.heap.size = Lb at *
    have HLb := hide hLb
    clear hLb
    have B4R := hide (show B0 < w4.heap.size ∧ R < w4.heap.size ∧ gs < w4.heap.size from ⟨PX.out.lt, RX.out.lt, SX.out.lt⟩)
    have P4 := PX
    have R4 := RX
    have C4 := KC
    have c0 := PX.out.cell0
    have c1 := PX.out.cell1
    have c2 := PX.out.cell2
    have c3 := PX.out.cell3
    have l0 := LX.out.cell0
    have l1 := LX.out.cell1
    go_wp2_with fail
    refine (orbegin_any _ p _ HP.out HRR.out gf gs p.code.length FX.out).mono ?_
    rintro e w5 ⟨⟨S, gO, gU, rfl, hS, hO, hU, h1, h2, h3, hne⟩, hb⟩
    replace KC := hide (KC.out.below hb)
    replace KO := hide (KO.out.below hb)
    replace HP := hide (HP.out.below hb)
    replace PX := hide (PX.out.step hb)
    replace RX := hide (RX.out.step hb)
    replace LX := hide (LX.out.step hb)
    replace SX := hide (SX.out.step hb)
    have BB := hide hb
    have ZS := hide hS
    have ZO := hide hO
    have ZU := hide hU
    have GS := hide (And.intro h1 (And.intro h2 (And.intro h3 hne)))
    clear hb hS hO hU h1 h2 h3 hne c0 c1 c2 c3 l0 l1
    have c0 := PX.out.cell0
    have c1 := PX.out.cell1
    have c2 := PX.out.cell2
    have c3 := PX.out.cell3
    go_upto_region 7 with fail
    have hb := below_alloc w5 (.cells #[.int .i64 p.ins, .int .i64 0, .slice none 0 0, .slice none 0 0] 25)
    have QX := hide (Box4.new w5 25 (.int .i64 p.ins) (.int .i64 0) (.slice none 0 0) (.slice none 0 0))
    have LT5 := hide (And.intro ZS.out.lt (And.intro ZO.out.lt (And.intro ZU.out.lt BB.out.size)))
    replace KC := hide (KC.out.below hb)
    replace KO := hide (KO.out.below hb)
    replace HP := hide (HP.out.below hb)
    replace PX := hide (PX.out.step hb)
    replace RX := hide (RX.out.step hb)
    replace LX := hide (LX.out.step hb)
    replace SX := hide (SX.out.step hb)
    replace ZS := hide (ZS.out.step hb)
    replace ZO := hide (ZO.out.step hb)
    replace ZU := hide (ZU.out.step hb)
    replace BB := hide (BB.out.trans (hb.mono BB.out.size))
    have W5 := hide hb.size
    have W5l := hide (show w5.heap.size < (w5.alloc (.cells #[.int .i64 p.ins, .int .i64 0, .slice none 0 0, .slice none 0 0] 25)).heap.size by rw [World.size_alloc]; omega)
    clear hb c0 c1 c2 c3
    generalize w5.alloc (.cells #[.int .i64 p.ins, .int .i64 0, .slice none 0 0, .slice none 0 0] 25) = w6 at *
    generalize hQ : w5.heap.size = Q at *
    have HQ := hide hQ
    clear hQ
    have c0 := PX.out.cell0
    have c1 := PX.out.cell1
    have c2 := PX.out.cell2
    have c3 := PX.out.cell3
    have l0 := LX.out.cell0
    have l1 := LX.out.cell1
    go_wp2_with fail
    refine (through_any p HRR.out w4 w6 S gO gU gf gs _ C4.out BB.out ZS.out ZO.out ZU.out SX.out ⟨GS.out.2.1, GS.out.2.2.1, GS.out.2.2.2⟩ ⟨by have h1 := GS.out.2.1; have h2 := B4R.out.2.2; omega, by have h1 := GS.out.2.2.1; have h2 := B4R.out.2.2; omega⟩ _).mono ?_
    rintro e w7 ⟨vc, rfl, hT⟩
    obtain ⟨va, vcap, hva⟩ := own_slice hT.oc
    subst hva
    obtain ⟨cn, hcn⟩ : ∃ cn, cn = (psAt p p.code.length).code.length := ⟨_, rfl⟩
    rw [← hcn] at hT ⊢
    have CN := hide hcn
    have TT := hide hT
    clear hcn hT c0 c1 c2 c3 l0 l1
    replace BB := hide TT.out.bel
    clear PX RX KC KO HP LX SX FX
    have QX7 := hide ((TT.out.kp Q W5l.out (by have := LT5.out.2.1; omega) (by have := LT5.out.2.2.1; omega)).trans QX.out)
    have q0 := (show Box4 w7 Q 25 _ _ _ _ from QX7.out).cell2
    have q1 := (show Box4 w7 Q 25 _ _ _ _ from QX7.out).free 2
    go_upto_region 8 with fail
    clear q0 q1
    have b8 := (Below.refl Q w7).setCell (p := ⟨Q, 2, none⟩) (Nat.le_refl _) (.slice va cn vcap)
    have BB8 := hide (BB.out.setCell (p := ⟨Q, 2, none⟩) LT5.out.2.2.2 (.slice va cn vcap))
    have Q8 := hide (Box4.set2 QX7.out (.slice va cn vcap))
    have S8 := hide (TT.out.sx.set_ne (C := Q) (o := 2) (by have := LT5.out.1; omega) (.slice va cn vcap))
    have O8 := hide (TT.out.ro.other (b := Q) (o := 2) (by have := LT5.out.2.1; omega) (.slice va cn vcap))
    have OC8 := hide (ownsRow_setCell_below TT.out.oc (a := ⟨Q, 2, none⟩) W5l.out (.slice va cn vcap))
    have SZ8 := hide (Nat.le_trans TT.out.sz b8.size)
    clear b8 BB QX7
    obtain ⟨w8, hw8⟩ : ∃ w8, w8 = w7.setCell ⟨Q, 2, none⟩ (.slice va cn vcap) := ⟨_, rfl⟩
    rw [← hw8] at BB8 Q8 S8 O8 OC8 SZ8 ⊢
    clear hw8 TT
    have P8 := hide (P4.out.step BB8.out)
    have c0 := P8.out.cell0
    have c1 := P8.out.cell1
    have c2 := P8.out.cell2
    have c3 := P8.out.cell3
    go_wp2_with fail
    refine (given_any S gO gU p.regs.toNat _ p.outs _ w8 S8.out O8.out (psAt_inv HRR.out p.code.length (Nat.le_refl _)).lo (KO0.out.below (HB.out.trans (BB8.out.mono HB.out.size))) (by have := (right_parts HRR.out).2.2.2.2.2.1; omega) (fun k hk => by have h1 := (right_parts HRR.out).2.2.2.2.2.2.1 k hk; omega)).mono ?_
    rintro e w9 ⟨gA, rfl, hgA, hA, hb⟩
    clear c0 c1 c2 c3
    have eL : (gvL (psAt p p.code.length).of p.outs).length = p.outs.length := by simp [gvL]
    have hA2 := hA.own (by rw [eL]; have := (right_parts HRR.out).2.2.2.2.2.1; omega) (Nat.le_trans SZ8.out hgA)
    rw [eL] at hA2
    have OO9 : Hid (OwnO w9 w6.heap.size (.slice (some ⟨gA, 0, none⟩) p.outs.length p.outs.length) (pkOuts p)) := hide hA2
    clear hA2 eL hA hgA
    have Q9 := hide (Box4.step (show Box4 w8 Q 25 _ _ _ _ from Q8.out) hb)
    have OC9 := hide (own_below OC8.out hb)
    have BB9 := hide (BB8.out.trans (hb.mono BB8.out.size))
    clear hb Q8 S8 O8 OC8 SZ8 BB8 P8
    have q0 := (show Box4 w9 Q 25 _ _ _ _ from Q9.out).cell0
    have q1 := (show Box4 w9 Q 25 _ _ _ _ from Q9.out).cell1
    have q2 := (show Box4 w9 Q 25 _ _ _ _ from Q9.out).cell2
    have q3 := (show Box4 w9 Q 25 _ _ _ _ from Q9.out).cell3
    have g0 := (show Box4 w9 Q 25 _ _ _ _ from Q9.out).free 0
    have g1 := (show Box4 w9 Q 25 _ _ _ _ from Q9.out).free 1
    have g2 := (show Box4 w9 Q 25 _ _ _ _ from Q9.out).free 2
    have g3 := (show Box4 w9 Q 25 _ _ _ _ from Q9.out).free 3
    go_upto_region 9 with fail
    clear q0 q1 q2 q3 g0 g1 g2 g3
    have BB10 := hide (BB9.out.setCell (p := ⟨Q, 3, none⟩) LT5.out.2.2.2 (.slice (some ⟨gA, 0, none⟩) p.outs.length p.outs.length))
    have Q10 := hide (Box4.set3 (show Box4 w9 Q 25 _ _ _ _ from Q9.out) (.slice (some ⟨gA, 0, none⟩) p.outs.length p.outs.length))
    have OC10 := hide (ownsRow_setCell_below OC9.out (a := ⟨Q, 3, none⟩) W5l.out (.slice (some ⟨gA, 0, none⟩) p.outs.length p.outs.length))
    have OO10 := hide (ownsRow_setCell_below OO9.out (a := ⟨Q, 3, none⟩) W5l.out (.slice (some ⟨gA, 0, none⟩) p.outs.length p.outs.length))
    obtain ⟨w10, hw10⟩ : ∃ w10, w10 = w9.setCell ⟨Q, 3, none⟩ (.slice (some ⟨gA, 0, none⟩) p.outs.length p.outs.length) := ⟨_, rfl⟩
    rw [← hw10] at BB10 Q10 OC10 OO10 ⊢
    clear hw10 Q9 OC9 OO9 BB9
    have q0 := (show Box4 w10 Q 25 _ _ _ _ from Q10.out).cell0
    have q1 := (show Box4 w10 Q 25 _ _ _ _ from Q10.out).cell1
    have q2 := (show Box4 w10 Q 25 _ _ _ _ from Q10.out).cell2
    have q3 := (show Box4 w10 Q 25 _ _ _ _ from Q10.out).cell3
    have g0 := (show Box4 w10 Q 25 _ _ _ _ from Q10.out).free 0
    have g1 := (show Box4 w10 Q 25 _ _ _ _ from Q10.out).free 1
    have g2 := (show Box4 w10 Q 25 _ _ _ _ from Q10.out).free 2
    have g3 := (show Box4 w10 Q 25 _ _ _ _ from Q10.out).free 3
    go_wp2_with fail
    refine (regsof_any (.agg #[.int .i64 p.ins, .int .i64 0, (.slice va cn vcap), (.slice (some ⟨gA, 0, none⟩) p.outs.length p.outs.length)]) ⟨p.ins, 0, (psAt p p.code.length).code, pkOuts p⟩ w10 (OwnPg.at ⟨_, _, rfl, (show OwnC w10 w6.heap.size (.slice va cn vcap) (psAt p p.code.length).code from OC10.out), (show OwnO w10 w6.heap.size (.slice (some ⟨gA, 0, none⟩) p.outs.length p.outs.length) (pkOuts p) from OO10.out)⟩) (pk_regs_ok HRR.out).1 (pk_regs_ok HRR.out).2.1 (pk_regs_ok HRR.out).2.2.1 (pk_regs_ok HRR.out).2.2.2).mono ?_
    rintro e w11 ⟨rfl, hb⟩
    clear q0 q1 q2 q3 g0 g1 g2 g3
    dsimp only
    have hpk : regsOf p.ins (psAt p p.code.length).code (pkOuts p) = (packP p).regs := rfl
    rw [hpk]
    clear hpk
    obtain ⟨rg, hrg⟩ : ∃ rg, rg = (packP p).regs := ⟨_, rfl⟩
    rw [← hrg]
    have RG := hide hrg
    clear hrg
    have Q11 := hide (Box4.step (show Box4 w10 Q 25 _ _ _ _ from Q10.out) hb)
    have OC11 := hide (own_below OC10.out hb)
    have OO11 := hide (own_below OO10.out hb)
    have BB11 := hide (BB10.out.trans (hb.mono BB10.out.size))
    clear hb Q10 OC10 OO10 BB10
    have q0 := (show Box4 w11 Q 25 _ _ _ _ from Q11.out).cell0
    have q1 := (show Box4 w11 Q 25 _ _ _ _ from Q11.out).cell1
    have q2 := (show Box4 w11 Q 25 _ _ _ _ from Q11.out).cell2
    have q3 := (show Box4 w11 Q 25 _ _ _ _ from Q11.out).cell3
    have g0 := (show Box4 w11 Q 25 _ _ _ _ from Q11.out).free 0
    have g1 := (show Box4 w11 Q 25 _ _ _ _ from Q11.out).free 1
    have g2 := (show Box4 w11 Q 25 _ _ _ _ from Q11.out).free 2
    have g3 := (show Box4 w11 Q 25 _ _ _ _ from Q11.out).free 3
    go_upto_region 10 with fail
    clear q0 q1 q2 q3 g0 g1 g2 g3
    have BB12 := hide (BB11.out.setCell (p := ⟨Q, 1, none⟩) LT5.out.2.2.2 (.int .i64 rg))
    have Q12 : Hid (Box4 (w11.setCell ⟨Q, 1, none⟩ (.int .i64 rg)) Q 25 (.int .i64 p.ins) (.int .i64 rg) (.slice va cn vcap) (.slice (some ⟨gA, 0, none⟩) p.outs.length p.outs.length)) := hide (Box4.set (show Box4 w11 Q 25 _ _ _ _ from Q11.out) 1 (.int .i64 rg))
    have OC12 := hide (ownsRow_setCell_below OC11.out (a := ⟨Q, 1, none⟩) W5l.out (.int .i64 rg))
    have OO12 := hide (ownsRow_setCell_below OO11.out (a := ⟨Q, 1, none⟩) W5l.out (.int .i64 rg))
    obtain ⟨w12, hw12⟩ : ∃ w12, w12 = w11.setCell ⟨Q, 1, none⟩ (.int .i64 rg) := ⟨_, rfl⟩
    rw [← hw12] at BB12 Q12 OC12 OO12 ⊢
    clear hw12 Q11 OC11 OO11 BB11
    have R12 := hide (R4.out.step BB12.out)
    have r0 := R12.out.cell0
    have r1 := R12.out.cell1
    have r2 := R12.out.cell2
    have r3 := R12.out.cell3
    have f0 := R12.out.free 0
    have f1 := R12.out.free 1
    have f2 := R12.out.free 2
    have f3 := R12.out.free 3
    have q0 := (show Box4 w12 Q 25 _ _ _ _ from Q12.out).cell0
    have q1 := (show Box4 w12 Q 25 _ _ _ _ from Q12.out).cell1
    have q2 := (show Box4 w12 Q 25 _ _ _ _ from Q12.out).cell2
    have q3 := (show Box4 w12 Q 25 _ _ _ _ from Q12.out).cell3
    have g0 := (show Box4 w12 Q 25 _ _ _ _ from Q12.out).free 0
    have g1 := (show Box4 w12 Q 25 _ _ _ _ from Q12.out).free 1
    have g2 := (show Box4 w12 Q 25 _ _ _ _ from Q12.out).free 2
    have g3 := (show Box4 w12 Q 25 _ _ _ _ from Q12.out).free 3
    go_wp2
    refine ret_pge rfl R _ _ _ _ rfl (R12.out.put _ _ _ _) rfl ?_
    refine ⟨?_, ?_⟩
    · unfold OrPackR
      rw [HRR.out, if_pos rfl]
      refine ⟨_, rfl, _, _, by rw [show (packP p).regs = rg from RG.out.symm]; rfl, ?_, ?_⟩
      · exact own_base (own_put (show OwnC w12 w6.heap.size (.slice va cn vcap) (packP p).code from OC12.out) (by have := B4R.out.2.1; have := LT5.out.2.2.2; have := W5l.out; omega) _ _ _ _) (by have := HB.out.size; have := LT5.out.2.2.2; have := W5l.out; omega)
      · exact own_base (own_put (show OwnO w12 w6.heap.size (.slice (some ⟨gA, 0, none⟩) p.outs.length p.outs.length) (packP p).outs from OO12.out) (by have := B4R.out.2.1; have := LT5.out.2.2.2; have := W5l.out; omega) _ _ _ _) (by have := HB.out.size; have := LT5.out.2.2.2; have := W5l.out; omega)
    · exact below_put4 (HB.out.trans (BB12.out.mono HB.out.size)) (by have := HR.out; have := HZ.out; omega) _ _ _ _
end Go.Proofs.Ytheakienigmkhaa
