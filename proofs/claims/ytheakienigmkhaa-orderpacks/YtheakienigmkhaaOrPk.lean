/- swageref16.Pack: the document's registers given anew. -/
import Derived.Test.YtheakienigmkhaaOrPk0
import Derived.Test.YtheakienigmkhaaPgApp
import Derived.Deep.CutRange
namespace Go.Proofs.Ytheakienigmkhaa
open Go.RowKit
attribute [local go_sem] Oper.semAt_some

set_option maxRecDepth 100000 in
set_option maxHeartbeats 16000000 in
theorem rorpack_any (v : Value) (p : Pg) (w : World) (h : PgAt w v p) (hr : rightB p = true) (hk2 : p.code.length ≤ 400) :
    Calls Try.prog 18 #[v] w fun e w' => (∃ v, e = .returned v ∧ OwnPg w' w.heap.size v (packP p)) ∧ Below w.heap.size w w' := by
  have HP := hide h
  have HP0 := hide h
  have HRR := hide hr
  have LN := hide hk2
  have LO := hide (show p.outs.length ≤ 128 from (right_parts hr).2.2.2.2.2.1)
  have LI := hide (show 1 ≤ p.ins ∧ p.ins ≤ 128 ∧ p.regs ≤ 128 from by have h := right_parts hr; omega)
  obtain ⟨ca, cc, oa, oc, rfl, hc, ho⟩ := h
  have KC := hide hc
  have KO := hide ho
  clear hc ho hr hk2
  go_enter Try.func18, Try.ntmps18
  go_upto_region 1 with fail
  have b1 := below_alloc w (.cells #[.int .i64 p.ins, .int .i64 p.regs, .slice ca p.code.length cc, .slice oa p.outs.length oc] 25)
  have b2 := below_alloc (w.alloc (.cells #[.int .i64 p.ins, .int .i64 p.regs, .slice ca p.code.length cc, .slice oa p.outs.length oc] 25)) (.cells #[.int .i64 0, .int .i64 0, .slice none 0 0, .slice none 0 0] 25)
  have PX := hide ((Box4.new w 25 (.int .i64 p.ins) (.int .i64 p.regs) (.slice ca p.code.length cc) (.slice oa p.outs.length oc)).step b2)
  have RX := hide (Box4.new (w.alloc (.cells #[.int .i64 p.ins, .int .i64 p.regs, .slice ca p.code.length cc, .slice oa p.outs.length oc] 25)) 25 (.int .i64 0) (.int .i64 0) (.slice none 0 0) (.slice none 0 0))
  rw [World.size_alloc] at RX
  replace HP := hide ((HP.out.below b1).below b2)
  have HB := hide (b1.trans (b2.mono b1.size))
  clear b1 b2
  generalize ((w.alloc (.cells #[.int .i64 p.ins, .int .i64 p.regs, .slice ca p.code.length cc, .slice oa p.outs.length oc] 25)).alloc (.cells #[.int .i64 0, .int .i64 0, .slice none 0 0, .slice none 0 0] 25)) = w1 at *
  obtain ⟨B, hB⟩ : ∃ B, B = w.heap.size := ⟨_, rfl⟩
  have HZ := hide hB
  rw [← hB] at PX RX ⊢
  clear hB
  obtain ⟨R, hR⟩ : ∃ R, R = B + 1 := ⟨_, rfl⟩
  have HR := hide hR
  rw [← hR] at RX ⊢
  clear hR
  have c0 := PX.out.cell0
  have c1 := PX.out.cell1
  have c2 := PX.out.cell2
  have c3 := PX.out.cell3
  go_wp2_with fail
  refine (rneeded_right _ p _ HP.out HRR.out).mono ?_
  rintro e w2 ⟨gn, rfl, hn, hb⟩
  replace PX := hide (PX.out.step hb)
  replace RX := hide (RX.out.step hb)
  have NB : Hid (OwnB w2 w.heap.size (.slice (some ⟨gn, 0, none⟩) p.code.length p.code.length) (ndL p)) := hide (own_base hn HB.out.size)
  replace HB := hide (HB.out.trans (hb.mono HB.out.size))
  clear hb hn HP c0 c1 c2 c3
  have c0 := PX.out.cell0
  have c1 := PX.out.cell1
  have c2 := PX.out.cell2
  have c3 := PX.out.cell3
  go_upto_region 3 with fail
  clear c0 c1 c2 c3
  have hb := below_alloc w2 (.cells #[.int .i64 p.ins, .int .i64 p.ins, .slice none 0 0, .slice none 0 0] 25)
  have OX := hide (Box4.new w2 25 (.int .i64 p.ins) (.int .i64 p.ins) (.slice none 0 0) (.slice none 0 0))
  have LR := hide RX.out.lt
  have LB := hide PX.out.lt
  have GO := hide HB.out.size
  have S0 : Hid (PkS w B R w2.heap.size p (.slice ca p.code.length cc) (.slice oa p.outs.length oc) (.slice (some ⟨gn, 0, none⟩) p.code.length p.code.length) p.ins (.slice none 0 0) (.slice none 0 0) (.slice none 0 0) [] [] (begL p 0) (w2.alloc (.cells #[.int .i64 p.ins, .int .i64 p.ins, .slice none 0 0, .slice none 0 0] 25))) := hide ⟨HB.out.trans (hb.mono HB.out.size), PX.out.step hb, RX.out.step hb, OX.out, World.ownsRow_nil _ _ _ _, World.ownsRow_nil _ _ _ _, own_below NB.out hb, World.ownsRow_nil _ _ _ _, ⟨by have := LB.out; omega, by have := LR.out; omega, GO.out, by have := HR.out; have := HZ.out; omega⟩⟩
  clear PX RX OX NB HB hb LB LR GO
  generalize w2.alloc (.cells #[.int .i64 p.ins, .int .i64 p.ins, .slice none 0 0, .slice none 0 0] 25) = w3 at *
  generalize w2.heap.size = O at *
  go_wp2
  go_loopw [5, 6] (fun lv rv wr => ∃ r : Nat, (r : Int) ≤ p.ins ∧ rv = .int .i64 (r : Nat) ∧ PkS w B R O p (.slice ca p.code.length cc) (.slice oa p.outs.length oc) (.slice (some ⟨gn, 0, none⟩) p.code.length p.code.length) p.ins (.slice none 0 0) (.slice none 0 0) lv [] [] (begL p r) wr) (fun _ rv _ => p.ins.toNat - (intOf rv).toNat)
  case atStart => exact ⟨0, by have := LI.out; omega, rfl, S0.out⟩
  case round =>
    clear S0
    obtain ⟨r, hr, rfl, hs⟩ := hrel
    have SS := hide hs
    obtain ⟨la, lcap, rfl⟩ := own_slice hs.pl
    clear hs
    have li := LI.out
    generalize hbl : (begL p r).length = bn at *
    have BN := hide hbl
    clear hbl
    have HRW := hide hr
    have c0 := SS.out.px.cell0
    have c1 := SS.out.px.cell1
    have c2 := SS.out.px.cell2
    have c3 := SS.out.px.cell3
    by_cases hlt : (r : Int) < p.ins
    · go_wp2_with fail
      refine (until_any _ _ p _ (HP0.out.below SS.out.bel) (OwnB.bools SS.out.nb) HRR.out LN.out (-1 - (r : Int)) (by have := LI.out; omega)).mono ?_
      rintro e w4 ⟨rfl, hb⟩
      replace SS := hide (SS.out.step hb)
      have BS := hide (begL_succ p r)
      obtain ⟨u, hu⟩ : ∃ u, u = untF p (-1 - (r : Int)) := ⟨_, rfl⟩
      rw [← hu] at BS ⊢
      clear hu hb c0 c1 c2 c3
      by_cases h0 : 0 ≤ u
      · rw [if_pos h0] at BS
        have al := below_alloc w4 (.cells #[.int .i64 (-1 - (r : Int)), .int .i64 (r : Nat)] 77)
        have BO : (w4.alloc (.cells #[.int .i64 (-1 - (r : Int)), .int .i64 (r : Nat)] 77)).heap[w4.heap.size]? = some (.cells (plC (-1 - (r : Int), (r : Int))).toArray 77 (0, 0)) := heap_alloc_new _ _
        have S5 := hide (SS.out.step al)
        clear al
        go_wp2_with (at_builtin; refine wpList_op rfl fun K hK => ?_; refine wp_appPl _ _ _ rfl w.heap.size (.slice la bn lcap) (begL p r) rfl S5.out.pl _ _ (-1 - (r : Int), (r : Int)) rfl BO (by have := BN.out; have := LI.out; have h := plbeg_len p r; omega) S5.out.bel.size ?_; intro v' w6 hown hgrow; refine hK _ _ ?_)
        have S6 := hide (S5.out.appL hgrow hown)
        clear hown hgrow BO S5
        rw [← BS.out] at S6
        go_wp2
        go_roundw
        case rel => exact ⟨r + 1, by omega, by go_num, S6.out⟩
        case measure => have := LI.out; simp [intOf]; omega
      · rw [if_neg h0, List.append_nil] at BS
        have S6 := hide (show PkS w B R O p (.slice ca p.code.length cc) (.slice oa p.outs.length oc) (.slice (some ⟨gn, 0, none⟩) p.code.length p.code.length) p.ins (.slice none 0 0) (.slice none 0 0) (.slice la bn lcap) [] [] (begL p (r + 1)) w4 by rw [BS.out]; exact SS.out)
        go_wp2
        go_roundw
        case rel => exact ⟨r + 1, by omega, by go_num, S6.out⟩
        case measure => have := LI.out; simp [intOf]; omega
    · have e : ((r : Nat) : Int) = p.ins := by omega
      have er : r = p.ins.toNat := by omega
      subst er
      clear e li
      clear HRW hr
      obtain ⟨w3a, hw3⟩ : ∃ w3a, w3a = wr := ⟨_, rfl⟩
      subst hw3
      go_wp2_with fail
      refine (until_any _ _ p _ (HP0.out.below SS.out.bel) (OwnB.bools SS.out.nb) HRR.out LN.out (-1000) (by have := LI.out; omega)).mono ?_
      rintro e w4 ⟨rfl, hb⟩
      replace SS := hide (SS.out.step hb)
      clear hb c0 c1 c2 c3
      have c0 := SS.out.px.cell0
      have c1 := SS.out.px.cell1
      have c2 := SS.out.px.cell2
      have c3 := SS.out.px.cell3
      obtain ⟨u, hu⟩ : ∃ u, untF p (-1000) = u := ⟨_, rfl⟩
      have HU := hide hu
      rw [hu]
      clear hu
      go_upto_if 46 with fail
      go_cut [5] from 17 (fun lv wc => PkS w B R O p (.slice ca p.code.length cc) (.slice oa p.outs.length oc) (.slice (some ⟨gn, 0, none⟩) p.code.length p.code.length) (plR p 0) (.slice none 0 0) (.slice none 0 0) lv [] [] (plL p 0) wc)
      case first =>
        by_cases h0 : 0 ≤ u
        · have EL : Hid (plL p 0 = begL p p.ins.toNat ++ [(-1000, p.ins)] ∧ plR p 0 = p.ins + 1) := hide (by
            show plL0 p = _ ∧ plR0 p = _
            unfold plL0 plR0
            rw [HU.out, if_pos h0, if_pos h0]; exact ⟨rfl, rfl⟩)
          have al := below_alloc w4 (.cells #[.int .i64 (-1000), .int .i64 p.ins] 77)
          have BO : (w4.alloc (.cells #[.int .i64 (-1000), .int .i64 p.ins] 77)).heap[w4.heap.size]? = some (.cells (plC (-1000, p.ins)).toArray 77 (0, 0)) := heap_alloc_new _ _
          have S5 := hide (SS.out.step al)
          clear al
          go_wp2_with (at_builtin; refine wpList_op rfl fun K hK => ?_; refine wp_appPl _ _ _ rfl w.heap.size (.slice la bn lcap) (begL p p.ins.toNat) rfl S5.out.pl _ _ (-1000, p.ins) rfl BO (by have := BN.out; have := LI.out; have h := plbeg_len p p.ins.toNat; omega) S5.out.bel.size ?_; intro v' w6 hown hgrow; have S6 := hide (S5.out.appL hgrow hown); have o1 := S6.out.ox.cell1; have f1 := S6.out.ox.free 1; have p0 := S6.out.px.cell0; have li := LI.out; refine hK _ _ ?_)
          clear hown hgrow BO S5
          have S7 := hide (S6.out.setM (p.ins + 1))
          go_meet
          case rel => rw [EL.out.1, EL.out.2]; exact S7.out
        · have EL : Hid (plL p 0 = begL p p.ins.toNat ∧ plR p 0 = p.ins) := hide (by
            show plL0 p = _ ∧ plR0 p = _
            unfold plL0 plR0
            rw [HU.out, if_neg h0, if_neg h0, List.append_nil]; exact ⟨rfl, rfl⟩)
          go_wp2
          go_meet
          case rel => rw [EL.out.1, EL.out.2]; exact SS.out
      case rest =>
        have SS2 := hide hcut
        clear hcut SS BN hlt
        obtain ⟨w5, hw5⟩ : ∃ w5, w5 = wc := ⟨_, rfl⟩
        subst hw5
        clear c0 c1 c2 c3
        skip
        go_wp2
        go_loopw [5, 7, 8, 9, 10, 11, 12, 13, 14, 15] (fun lv kv _ _ _ _ _ _ _ _ wr => ∃ (k : Nat) (vc : Value), k ≤ p.code.length ∧ kv = .int .i64 (k : Nat) ∧ PkS w B R O p (.slice ca p.code.length cc) (.slice oa p.outs.length oc) (.slice (some ⟨gn, 0, none⟩) p.code.length p.code.length) (plR p k) vc (.slice none 0 0) lv (psAt p k).code [] (plL p k) wr) (fun _ kv _ _ _ _ _ _ _ _ _ => p.code.length - (intOf kv).toNat)
        case atStart => exact ⟨0, _, Nat.zero_le _, rfl, SS2.out⟩
        case round =>
          clear SS2
          obtain ⟨k, vc, hk, rfl, hs⟩ := hrel
          have SS := hide hs
          obtain ⟨la, lcap, rfl⟩ := own_slice hs.pl
          obtain ⟨va, vcap, rfl⟩ := own_slice hs.oc
          clear hs
          have ln := LN.out
          have li := LI.out
          obtain ⟨wk, hwk⟩ : ∃ wk, wk = wr := ⟨_, rfl⟩
          subst hwk
          by_cases hlt : k < p.code.length
          · have HL := hide hlt
            have c2 := SS.out.px.cell2
            have kn := OwnB.cell SS.out.nb (k := k) (by rw [ndL_lengthO]; exact hlt)
            rw [ndL_get p hlt] at kn
            by_cases hs : setA p k = -1
            · rw [show decide (setA p k ≠ -1) = false by simp [hs]] at kn
              have HI0 := hide hs
              go_wp2
              go_roundw
              case rel => exact ⟨k + 1, _, by omega, by go_num, by rw [plL_idle HI0.out, plR_idle HI0.out, psAt_idle HI0.out]; exact SS.out⟩
              case measure => simp [intOf]; omega
            · rw [show decide (setA p k ≠ -1) = true by simp [hs]] at kn
              have HS := hide hs
              obtain ⟨b1, o1, rfl, hic⟩ := CodeAt.at (KC.out.below SS.out.bel) hlt
              obtain ⟨i, hi⟩ : ∃ i, i = cd p.code k := ⟨_, rfl⟩
              rw [← hi] at hic
              have HI := hide hi
              have i0 := hic.cell0
              have i1 := hic.cell1
              have i2 := hic.cell2
              have i3 := hic.cell3
              have i4 := hic.cell4
              clear hic hi
              go_upto_region 17 with fail
              have hb := below_alloc wk (.cells #[.int .i64 i.op, .int .i64 i.to, .int .i64 i.a, .int .i64 i.b, .int .i64 i.c] 40)
              have IX : Hid (Box5 (wk.alloc (.cells #[.int .i64 i.op, .int .i64 i.to, .int .i64 i.a, .int .i64 i.b, .int .i64 i.c] 40)) wk.heap.size 40 i) := hide (Box5.new wk 40 i)
              replace SS := hide (SS.out.step hb)
              clear hb i0 i1 i2 i3 i4 c2 kn
              generalize wk.alloc (.cells #[.int .i64 i.op, .int .i64 i.to, .int .i64 i.a, .int .i64 i.b, .int .i64 i.c] 40) = w4 at *
              generalize wk.heap.size = I1 at *
              have i0 := IX.out.cells.cell0
              have i1 := IX.out.cells.cell1
              have i2 := IX.out.cells.cell2
              have i3 := IX.out.cells.cell3
              have i4 := IX.out.cells.cell4
              simp only [Nat.zero_add] at i1 i2 i3 i4
              go_wp2_with fail
              refine (rasks_any i _).mono ?_
              rintro e w6 ⟨⟨vA, rfl, hva⟩, hb⟩
              obtain ⟨a1, c1', rfl, _, _, _⟩ := id hva
              replace SS := hide (SS.out.step hb)
              replace IX := hide (IX.out.step hb)
              clear hva hb i0 i1 i2 i3 i4
              have OPB : Hid (1 ≤ i.op ∧ i.op ≤ 8) := hide (by have h8 := (right_parts HRR.out).2.2.2.2.2.2.2 k HL.out; rw [← HI.out] at h8; have := may_parts h8; exact ⟨this.2.2.2.2.2.2.1, this.2.2.2.2.2.2.2.1⟩)
              have WH : Hid (∀ a ∈ asksL i, (-100000 ≤ a ∧ a ≤ 100000) ∧ whereF (plL p k) (heldF p k a) = ot (psAt p k).of a.toNat) := hide (fun a ha => by rw [HI.out] at ha; have h1 := ask_toNat HRR.out HL.out ha; exact ⟨by omega, pl_where HRR.out HL.out HS.out ha⟩)
              have WA := hide (WH.out i.a (by rw [asks_shape i OPB.out]; split <;> simp))
              obtain ⟨ya, hya⟩ : ∃ ya, ya = ot (psAt p k).of i.a.toNat := ⟨_, rfl⟩
              have YA := hide hya
              rw [← hya] at WA
              clear hya
              have LL : Hid ((plL p k).length ≤ 1000) := hide (by have := plL_len p k; have := LI.out; have := HL.out; have := LN.out; omega)
              go_upto_region 18 with fail
              go_cut [10] from 57 to 163 (fun xv wc => ∃ X : Nat, xv = .pointer (some ⟨X, 0, none⟩) ∧ w6.heap.size ≤ X ∧ Below w6.heap.size w6 wc ∧ Box5 wc X 40 ⟨i.op, 0, ya, 0, i.c⟩)
              case first =>
                refine wp_calm (fun w' => Below w6.heap.size w6 w') (fun _ => true) 15 #[false, false, false, false, false, false, false, false, false, false, false, false, false, false, false] (by kernel_rfl) rfl rfl ?_
                have HF := hide ((Below.refl w6.heap.size w6).drew)
                generalize w6.drew = w6d at *
                refine Calm.takeL 15 (i := 0) (v := ?_) (a' := ?_) (l' := #[true, false, false, false, false, false, false, false, false, false, false, false, false, false, false]) (d := some 76) (by kernel_rfl) rfl (by kernel_rfl) (by kernel_rfl) (by kernel_rfl) (by kernel_rfl) (fun _ _ _ h => h) HF.out rfl ?_ rfl rfl ?_ ?_
                rotate_left
                · intro w' hF; clear hF; go_simp; try rfl
                rotate_left
                · simp only [Act.put]; exact rfl
                refine Calm.takeL 15 (i := 1) (v := ?_) (a' := ?_) (l' := #[true, true, false, false, false, false, false, false, false, false, false, false, false, false, false]) (d := some 77) (by kernel_rfl) rfl (by kernel_rfl) (by kernel_rfl) (by kernel_rfl) (by kernel_rfl) (fun _ _ _ h => h) HF.out rfl ?_ rfl rfl ?_ ?_
                rotate_left
                · intro w' hF; have c0 := (PkS.step SS.out hF).px.cell0; have c1 := (PkS.step SS.out hF).px.cell1; have c2 := (PkS.step SS.out hF).px.cell2; have c3 := (PkS.step SS.out hF).px.cell3; have i0 := (Box5.step IX.out hF).cells.cell0; have i1 := (Box5.step IX.out hF).cells.cell1; have i2 := (Box5.step IX.out hF).cells.cell2; have i3 := (Box5.step IX.out hF).cells.cell3; have i4 := (Box5.step IX.out hF).cells.cell4; simp only [Nat.zero_add] at i1 i2 i3 i4; clear hF; go_simp; try rfl
                rotate_left
                · simp only [Act.put]; exact rfl
                refine Calm.takeL 15 (i := 2) (v := ?_) (a' := ?_) (l' := #[true, true, true, false, false, false, false, false, false, false, false, false, false, false, false]) (d := some 78) (by kernel_rfl) rfl (by kernel_rfl) (by kernel_rfl) (by kernel_rfl) (by kernel_rfl) (fun _ _ _ h => h) HF.out rfl ?_ rfl rfl ?_ ?_
                rotate_left
                · intro w' hF; clear hF; go_simp; try rfl
                rotate_left
                · simp only [Act.put]; exact rfl
                refine Calm.takeL 15 (i := 3) (v := ?_) (a' := ?_) (l' := #[true, true, true, true, false, false, false, false, false, false, false, false, false, false, false]) (d := some 79) (by kernel_rfl) rfl (by kernel_rfl) (by kernel_rfl) (by kernel_rfl) (by kernel_rfl) (fun _ _ _ h => h) HF.out rfl ?_ rfl rfl ?_ ?_
                rotate_left
                · intro w' hF; have c0 := (PkS.step SS.out hF).px.cell0; have c1 := (PkS.step SS.out hF).px.cell1; have c2 := (PkS.step SS.out hF).px.cell2; have c3 := (PkS.step SS.out hF).px.cell3; have i0 := (Box5.step IX.out hF).cells.cell0; have i1 := (Box5.step IX.out hF).cells.cell1; have i2 := (Box5.step IX.out hF).cells.cell2; have i3 := (Box5.step IX.out hF).cells.cell3; have i4 := (Box5.step IX.out hF).cells.cell4; simp only [Nat.zero_add] at i1 i2 i3 i4; clear hF; go_simp; try rfl
                rotate_left
                · simp only [Act.put]; exact rfl
                refine Calm.takeL 15 (i := 4) (v := ?_) (a' := ?_) (l' := #[true, true, true, true, true, false, false, false, false, false, false, false, false, false, false]) (d := some 80) (by kernel_rfl) rfl (by kernel_rfl) (by kernel_rfl) (by kernel_rfl) (by kernel_rfl) (fun _ _ _ h => h) HF.out rfl ?_ rfl rfl ?_ ?_
                rotate_left
                · intro w' hF; clear hF; go_simp; try rfl
                rotate_left
                · simp only [Act.put]; exact rfl
                refine Calm.takeL 15 (i := 5) (v := ?_) (a' := ?_) (l' := #[true, true, true, true, true, true, false, false, false, false, false, false, false, false, false]) (d := some 81) (by kernel_rfl) rfl (by kernel_rfl) (by kernel_rfl) (by kernel_rfl) (by kernel_rfl) (fun _ _ _ h => h) HF.out rfl ?_ rfl rfl ?_ ?_
                rotate_left
                · intro w' hF; have c0 := (PkS.step SS.out hF).px.cell0; have c1 := (PkS.step SS.out hF).px.cell1; have c2 := (PkS.step SS.out hF).px.cell2; have c3 := (PkS.step SS.out hF).px.cell3; have i0 := (Box5.step IX.out hF).cells.cell0; have i1 := (Box5.step IX.out hF).cells.cell1; have i2 := (Box5.step IX.out hF).cells.cell2; have i3 := (Box5.step IX.out hF).cells.cell3; have i4 := (Box5.step IX.out hF).cells.cell4; simp only [Nat.zero_add] at i1 i2 i3 i4; clear hF; go_simp; try rfl
                rotate_left
                · simp only [Act.put]; exact rfl
                refine Calm.takeL 15 (i := 6) (v := ?_) (a' := ?_) (l' := #[true, true, true, true, true, true, true, false, false, false, false, false, false, false, false]) (d := some 82) (by kernel_rfl) rfl (by kernel_rfl) (by kernel_rfl) (by kernel_rfl) (by kernel_rfl) (fun _ _ _ h => h) HF.out rfl ?_ rfl rfl ?_ ?_
                rotate_left
                · intro w' hF; clear hF; go_simp; try rfl
                rotate_left
                · simp only [Act.put]; exact rfl
                refine Calm.takeL 15 (i := 7) (v := ?_) (a' := ?_) (l' := #[true, true, true, true, true, true, true, true, false, false, false, false, false, false, false]) (d := some 83) (by kernel_rfl) rfl (by kernel_rfl) (by kernel_rfl) (by kernel_rfl) (by kernel_rfl) (fun _ _ _ h => h) HF.out rfl ?_ rfl rfl ?_ ?_
                rotate_left
                · intro w' hF; clear hF; go_simp; try rfl
                rotate_left
                · simp only [Act.put]; exact rfl
                refine Calm.takeL 15 (i := 8) (v := ?_) (a' := ?_) (l' := #[true, true, true, true, true, true, true, true, true, false, false, false, false, false, false]) (d := some 84) (by kernel_rfl) rfl (by kernel_rfl) (by kernel_rfl) (by kernel_rfl) (by kernel_rfl) (fun _ _ _ h => h) HF.out rfl ?_ rfl rfl ?_ ?_
                rotate_left
                · intro w' hF; clear hF; go_simp; try rfl
                rotate_left
                · simp only [Act.put]; exact rfl
                refine Calm.takeL 15 (i := 9) (v := ?_) (a' := ?_) (l' := #[true, true, true, true, true, true, true, true, true, true, false, false, false, false, false]) (d := some 85) (by kernel_rfl) rfl (by kernel_rfl) (by kernel_rfl) (by kernel_rfl) (by kernel_rfl) (fun _ _ _ h => h) HF.out rfl ?_ rfl rfl ?_ ?_
                rotate_left
                · intro w' hF; have c0 := (PkS.step SS.out hF).px.cell0; have c1 := (PkS.step SS.out hF).px.cell1; have c2 := (PkS.step SS.out hF).px.cell2; have c3 := (PkS.step SS.out hF).px.cell3; have i0 := (Box5.step IX.out hF).cells.cell0; have i1 := (Box5.step IX.out hF).cells.cell1; have i2 := (Box5.step IX.out hF).cells.cell2; have i3 := (Box5.step IX.out hF).cells.cell3; have i4 := (Box5.step IX.out hF).cells.cell4; simp only [Nat.zero_add] at i1 i2 i3 i4; clear hF; go_simp; try rfl
                rotate_left
                · simp only [Act.put]; exact rfl
                refine Calm.two (i := 10) (j := 13) (l := #[true, true, true, true, true, true, true, true, true, true, true, false, false, false, false]) (l' := #[true, true, true, true, true, true, true, true, true, true, false, false, false, true, false]) (by kernel_rfl) rfl rfl rfl rfl rfl rfl (fun K hK => ?_) (fun K hK => ?_)
                · go_simp
                  have hh := held_any _ _ p _ (HP0.out.below (PkS.step SS.out HF.out).bel) (OwnB.bools (PkS.step SS.out HF.out).nb) k (Nat.le_of_lt HL.out) LN.out i.a WA.out.1
                  refine hh.mono ?_
                  clear hh
                  rintro e w7 ⟨rfl, hb⟩
                  have HF' := hide (HF.out.trans ((hb).mono HF.out.size))
                  refine hK _ _ (fun _ => HF'.out) ?_
                  clear hK K HF hb
                  have HF := hide HF'.out
                  clear HF'
                  refine Calm.two (i := 11) (j := 13) (l := #[true, true, true, true, true, true, true, true, true, true, true, true, false, false, false]) (l' := #[true, true, true, true, true, true, true, true, true, true, true, false, false, true, false]) (by kernel_rfl) rfl rfl rfl rfl rfl rfl (fun K hK => ?_) (fun K hK => ?_)
                  · go_simp
                    have hh := where_b w.heap.size _ (plL p k) _ (PkS.step SS.out HF.out).pl (by have := LL.out; omega) (heldF p k i.a)
                    rw [WA.out.2] at hh
                    refine hh.mono ?_
                    clear hh
                    rintro e w8 ⟨rfl, hb⟩
                    have HF' := hide (HF.out.trans ((hb).mono HF.out.size))
                    refine hK _ _ (fun _ => HF'.out) ?_
                    clear hK K HF hb
                    have HF := hide HF'.out
                    clear HF'
                    refine Calm.takeL 15 (i := 12) (v := ?_) (a' := ?_) (l' := #[true, true, true, true, true, true, true, true, true, true, true, true, true, false, false]) (d := some 88) (by kernel_rfl) rfl (by kernel_rfl) (by kernel_rfl) (by kernel_rfl) (by kernel_rfl) (fun _ _ _ h => h) HF.out rfl ?_ rfl rfl ?_ ?_
                    rotate_left
                    · intro w' hF; clear hF; go_simp; try rfl
                    rotate_left
                    · simp only [Act.put]; exact rfl
                    refine Calm.one (i := 13) (l' := #[true, true, true, true, true, true, true, true, true, true, true, true, true, true, false]) (by kernel_rfl) rfl rfl rfl fun K hK => ?_
                    go_simp
                    have al := below_alloc w8 (.cells #[.int .i64 0, .int .i64 0, .int .i64 0, .int .i64 0, .int .i64 0] 40)
                    have HF' := hide (HF.out.trans ((al).mono HF.out.size))
                    have BXX := hide (show Box5 (w8.alloc (.cells #[.int .i64 0, .int .i64 0, .int .i64 0, .int .i64 0, .int .i64 0] 40)) w8.heap.size 40 ⟨0, 0, 0, 0, 0⟩ from Box5.new w8 40 ⟨0, 0, 0, 0, 0⟩)
                    have GEX := hide (HF.out.size)
                    refine hK _ _ (fun _ => HF'.out) ?_
                    clear hK K HF al
                    have HF := hide HF'.out
                    clear HF'
                    generalize w8.alloc (.cells #[.int .i64 0, .int .i64 0, .int .i64 0, .int .i64 0, .int .i64 0] 40) = wzX at *
                    generalize w8.heap.size = gX at *
                    refine Calm.one (i := 14) (l' := #[true, true, true, true, true, true, true, true, true, true, true, true, true, true, true]) (by kernel_rfl) rfl rfl rfl fun K hK => ?_
                    have hc0 := (Box5.cells BXX.out).cell0
                    have hc1 := (Box5.cells BXX.out).cell1
                    have hc2 := (Box5.cells BXX.out).cell2
                    have hc3 := (Box5.cells BXX.out).cell3
                    have hc4 := (Box5.cells BXX.out).cell4
                    simp only [Nat.zero_add] at hc1 hc2 hc3 hc4
                    have hf0 := Box5.free BXX.out 0
                    have hf1 := Box5.free BXX.out 1
                    have hf2 := Box5.free BXX.out 2
                    have hf3 := Box5.free BXX.out 3
                    have hf4 := Box5.free BXX.out 4
                    go_simp
                    have HF' := hide (((((HF.out.setCell (p := ⟨gX, 0, none⟩) GEX.out (.int .i64 i.op)).setCell (p := ⟨gX, 1, none⟩) GEX.out (.int .i64 0)).setCell (p := ⟨gX, 2, none⟩) GEX.out (.int .i64 ya)).setCell (p := ⟨gX, 3, none⟩) GEX.out (.int .i64 0)).setCell (p := ⟨gX, 4, none⟩) GEX.out (.int .i64 i.c))
                    replace BXX : Hid (Box5 (((((wzX.setCell ⟨gX, 0, none⟩ (.int .i64 i.op)).setCell ⟨gX, 1, none⟩ (.int .i64 0)).setCell ⟨gX, 2, none⟩ (.int .i64 ya)).setCell ⟨gX, 3, none⟩ (.int .i64 0)).setCell ⟨gX, 4, none⟩ (.int .i64 i.c)) gX 40 ⟨i.op, 0, ya, 0, i.c⟩) := hide (Box5.put5 BXX.out ⟨i.op, 0, ya, 0, i.c⟩)
                    refine hK _ _ (fun _ => HF'.out) ?_
                    clear hK K HF hc0 hf0 hc1 hf1 hc2 hf2 hc3 hf3 hc4 hf4
                    have HF := hide HF'.out
                    clear HF'
                    generalize (((((wzX.setCell ⟨gX, 0, none⟩ (.int .i64 i.op)).setCell ⟨gX, 1, none⟩ (.int .i64 0)).setCell ⟨gX, 2, none⟩ (.int .i64 ya)).setCell ⟨gX, 3, none⟩ (.int .i64 0)).setCell ⟨gX, 4, none⟩ (.int .i64 i.c)) = wz9 at *
                    refine Calm.done (by kernel_rfl) ?_
                    try simp only [List.setIfInBounds_toArray, List.set_cons_succ, List.set_cons_zero]
                    go_wp2
                    go_meet
                    case rel => exact ⟨gX, rfl, GEX.out, HF.out, BXX.out⟩
                  · go_simp
                    have al := below_alloc w7 (.cells #[.int .i64 0, .int .i64 0, .int .i64 0, .int .i64 0, .int .i64 0] 40)
                    have HF' := hide (HF.out.trans ((al).mono HF.out.size))
                    have BXX := hide (show Box5 (w7.alloc (.cells #[.int .i64 0, .int .i64 0, .int .i64 0, .int .i64 0, .int .i64 0] 40)) w7.heap.size 40 ⟨0, 0, 0, 0, 0⟩ from Box5.new w7 40 ⟨0, 0, 0, 0, 0⟩)
                    have GEX := hide (HF.out.size)
                    refine hK _ _ (fun _ => HF'.out) ?_
                    clear hK K HF al
                    have HF := hide HF'.out
                    clear HF'
                    generalize w7.alloc (.cells #[.int .i64 0, .int .i64 0, .int .i64 0, .int .i64 0, .int .i64 0] 40) = wzX at *
                    generalize w7.heap.size = gX at *
                    refine Calm.one (i := 11) (l' := #[true, true, true, true, true, true, true, true, true, true, true, true, false, true, false]) (by kernel_rfl) rfl rfl rfl fun K hK => ?_
                    go_simp
                    have hh := where_b w.heap.size _ (plL p k) _ (PkS.step SS.out HF.out).pl (by have := LL.out; omega) (heldF p k i.a)
                    rw [WA.out.2] at hh
                    refine hh.mono ?_
                    clear hh
                    rintro e w8 ⟨rfl, hb⟩
                    replace BXX := hide (BXX.out.step hb)
                    have HF' := hide (HF.out.trans ((hb).mono HF.out.size))
                    refine hK _ _ (fun _ => HF'.out) ?_
                    clear hK K HF hb
                    have HF := hide HF'.out
                    clear HF'
                    refine Calm.takeL 15 (i := 12) (v := ?_) (a' := ?_) (l' := #[true, true, true, true, true, true, true, true, true, true, true, true, true, true, false]) (d := some 88) (by kernel_rfl) rfl (by kernel_rfl) (by kernel_rfl) (by kernel_rfl) (by kernel_rfl) (fun _ _ _ h => h) HF.out rfl ?_ rfl rfl ?_ ?_
                    rotate_left
                    · intro w' hF; clear hF; go_simp; try rfl
                    rotate_left
                    · simp only [Act.put]; exact rfl
                    refine Calm.one (i := 14) (l' := #[true, true, true, true, true, true, true, true, true, true, true, true, true, true, true]) (by kernel_rfl) rfl rfl rfl fun K hK => ?_
                    have hc0 := (Box5.cells BXX.out).cell0
                    have hc1 := (Box5.cells BXX.out).cell1
                    have hc2 := (Box5.cells BXX.out).cell2
                    have hc3 := (Box5.cells BXX.out).cell3
                    have hc4 := (Box5.cells BXX.out).cell4
                    simp only [Nat.zero_add] at hc1 hc2 hc3 hc4
                    have hf0 := Box5.free BXX.out 0
                    have hf1 := Box5.free BXX.out 1
                    have hf2 := Box5.free BXX.out 2
                    have hf3 := Box5.free BXX.out 3
                    have hf4 := Box5.free BXX.out 4
                    go_simp
                    have HF' := hide (((((HF.out.setCell (p := ⟨gX, 0, none⟩) GEX.out (.int .i64 i.op)).setCell (p := ⟨gX, 1, none⟩) GEX.out (.int .i64 0)).setCell (p := ⟨gX, 2, none⟩) GEX.out (.int .i64 ya)).setCell (p := ⟨gX, 3, none⟩) GEX.out (.int .i64 0)).setCell (p := ⟨gX, 4, none⟩) GEX.out (.int .i64 i.c))
                    replace BXX : Hid (Box5 (((((w8.setCell ⟨gX, 0, none⟩ (.int .i64 i.op)).setCell ⟨gX, 1, none⟩ (.int .i64 0)).setCell ⟨gX, 2, none⟩ (.int .i64 ya)).setCell ⟨gX, 3, none⟩ (.int .i64 0)).setCell ⟨gX, 4, none⟩ (.int .i64 i.c)) gX 40 ⟨i.op, 0, ya, 0, i.c⟩) := hide (Box5.put5 BXX.out ⟨i.op, 0, ya, 0, i.c⟩)
                    refine hK _ _ (fun _ => HF'.out) ?_
                    clear hK K HF hc0 hf0 hc1 hf1 hc2 hf2 hc3 hf3 hc4 hf4
                    have HF := hide HF'.out
                    clear HF'
                    generalize (((((w8.setCell ⟨gX, 0, none⟩ (.int .i64 i.op)).setCell ⟨gX, 1, none⟩ (.int .i64 0)).setCell ⟨gX, 2, none⟩ (.int .i64 ya)).setCell ⟨gX, 3, none⟩ (.int .i64 0)).setCell ⟨gX, 4, none⟩ (.int .i64 i.c)) = wz9 at *
                    refine Calm.done (by kernel_rfl) ?_
                    try simp only [List.setIfInBounds_toArray, List.set_cons_succ, List.set_cons_zero]
                    go_wp2
                    go_meet
                    case rel => exact ⟨gX, rfl, GEX.out, HF.out, BXX.out⟩
                · go_simp
                  have al := below_alloc w6d (.cells #[.int .i64 0, .int .i64 0, .int .i64 0, .int .i64 0, .int .i64 0] 40)
                  have HF' := hide (HF.out.trans ((al).mono HF.out.size))
                  have BXX := hide (show Box5 (w6d.alloc (.cells #[.int .i64 0, .int .i64 0, .int .i64 0, .int .i64 0, .int .i64 0] 40)) w6d.heap.size 40 ⟨0, 0, 0, 0, 0⟩ from Box5.new w6d 40 ⟨0, 0, 0, 0, 0⟩)
                  have GEX := hide (HF.out.size)
                  refine hK _ _ (fun _ => HF'.out) ?_
                  clear hK K HF al
                  have HF := hide HF'.out
                  clear HF'
                  generalize w6d.alloc (.cells #[.int .i64 0, .int .i64 0, .int .i64 0, .int .i64 0, .int .i64 0] 40) = wzX at *
                  generalize w6d.heap.size = gX at *
                  refine Calm.one (i := 10) (l' := #[true, true, true, true, true, true, true, true, true, true, true, false, false, true, false]) (by kernel_rfl) rfl rfl rfl fun K hK => ?_
                  go_simp
                  have hh := held_any _ _ p _ (HP0.out.below (PkS.step SS.out HF.out).bel) (OwnB.bools (PkS.step SS.out HF.out).nb) k (Nat.le_of_lt HL.out) LN.out i.a WA.out.1
                  refine hh.mono ?_
                  clear hh
                  rintro e w7 ⟨rfl, hb⟩
                  replace BXX := hide (BXX.out.step hb)
                  have HF' := hide (HF.out.trans ((hb).mono HF.out.size))
                  refine hK _ _ (fun _ => HF'.out) ?_
                  clear hK K HF hb
                  have HF := hide HF'.out
                  clear HF'
                  refine Calm.one (i := 11) (l' := #[true, true, true, true, true, true, true, true, true, true, true, true, false, true, false]) (by kernel_rfl) rfl rfl rfl fun K hK => ?_
                  go_simp
                  have hh := where_b w.heap.size _ (plL p k) _ (PkS.step SS.out HF.out).pl (by have := LL.out; omega) (heldF p k i.a)
                  rw [WA.out.2] at hh
                  refine hh.mono ?_
                  clear hh
                  rintro e w8 ⟨rfl, hb⟩
                  replace BXX := hide (BXX.out.step hb)
                  have HF' := hide (HF.out.trans ((hb).mono HF.out.size))
                  refine hK _ _ (fun _ => HF'.out) ?_
                  clear hK K HF hb
                  have HF := hide HF'.out
                  clear HF'
                  refine Calm.takeL 15 (i := 12) (v := ?_) (a' := ?_) (l' := #[true, true, true, true, true, true, true, true, true, true, true, true, true, true, false]) (d := some 88) (by kernel_rfl) rfl (by kernel_rfl) (by kernel_rfl) (by kernel_rfl) (by kernel_rfl) (fun _ _ _ h => h) HF.out rfl ?_ rfl rfl ?_ ?_
                  rotate_left
                  · intro w' hF; clear hF; go_simp; try rfl
                  rotate_left
                  · simp only [Act.put]; exact rfl
                  refine Calm.one (i := 14) (l' := #[true, true, true, true, true, true, true, true, true, true, true, true, true, true, true]) (by kernel_rfl) rfl rfl rfl fun K hK => ?_
                  have hc0 := (Box5.cells BXX.out).cell0
                  have hc1 := (Box5.cells BXX.out).cell1
                  have hc2 := (Box5.cells BXX.out).cell2
                  have hc3 := (Box5.cells BXX.out).cell3
                  have hc4 := (Box5.cells BXX.out).cell4
                  simp only [Nat.zero_add] at hc1 hc2 hc3 hc4
                  have hf0 := Box5.free BXX.out 0
                  have hf1 := Box5.free BXX.out 1
                  have hf2 := Box5.free BXX.out 2
                  have hf3 := Box5.free BXX.out 3
                  have hf4 := Box5.free BXX.out 4
                  go_simp
                  have HF' := hide (((((HF.out.setCell (p := ⟨gX, 0, none⟩) GEX.out (.int .i64 i.op)).setCell (p := ⟨gX, 1, none⟩) GEX.out (.int .i64 0)).setCell (p := ⟨gX, 2, none⟩) GEX.out (.int .i64 ya)).setCell (p := ⟨gX, 3, none⟩) GEX.out (.int .i64 0)).setCell (p := ⟨gX, 4, none⟩) GEX.out (.int .i64 i.c))
                  replace BXX : Hid (Box5 (((((w8.setCell ⟨gX, 0, none⟩ (.int .i64 i.op)).setCell ⟨gX, 1, none⟩ (.int .i64 0)).setCell ⟨gX, 2, none⟩ (.int .i64 ya)).setCell ⟨gX, 3, none⟩ (.int .i64 0)).setCell ⟨gX, 4, none⟩ (.int .i64 i.c)) gX 40 ⟨i.op, 0, ya, 0, i.c⟩) := hide (Box5.put5 BXX.out ⟨i.op, 0, ya, 0, i.c⟩)
                  refine hK _ _ (fun _ => HF'.out) ?_
                  clear hK K HF hc0 hf0 hc1 hf1 hc2 hf2 hc3 hf3 hc4 hf4
                  have HF := hide HF'.out
                  clear HF'
                  generalize (((((w8.setCell ⟨gX, 0, none⟩ (.int .i64 i.op)).setCell ⟨gX, 1, none⟩ (.int .i64 0)).setCell ⟨gX, 2, none⟩ (.int .i64 ya)).setCell ⟨gX, 3, none⟩ (.int .i64 0)).setCell ⟨gX, 4, none⟩ (.int .i64 i.c)) = wz9 at *
                  refine Calm.done (by kernel_rfl) ?_
                  try simp only [List.setIfInBounds_toArray, List.set_cons_succ, List.set_cons_zero]
                  go_wp2
                  go_meet
                  case rel => exact ⟨gX, rfl, GEX.out, HF.out, BXX.out⟩
              case rest =>
                obtain ⟨X, rfl, hgx, hb, hx⟩ := hcut
                have GX := hide hgx
                have WX := hide hb
                have BX := hide hx
                clear hgx hb hx
                have XV : Hid (w.heap.size ≤ X ∧ Value.ownBlock (.slice va (psAt p k).code.length vcap) ≠ some X) := hide ⟨by have h1 := SS.out.bel.size; have h2 := GX.out; omega, fun e => by have h1 := (World.ownsRow.lt SS.out.oc X e).2; have h2 := GX.out; omega⟩
                obtain ⟨w9, hw9⟩ : ∃ w9, w9 = wc := ⟨_, rfl⟩
                subst hw9
                obtain ⟨yb, hyb⟩ : ∃ yb, yb = if twoB i.op = true then ot (psAt p k).of i.b.toNat else 0 := ⟨_, rfl⟩
                have YB := hide hyb
                clear hyb
                go_upto_if 91 with fail
                go_cut [10] from 57 to 163 (fun xv wc => xv = .pointer (some ⟨X, 0, none⟩) ∧ Below w6.heap.size w6 wc ∧ Box5 wc X 40 ⟨i.op, 0, ya, yb, i.c⟩)
                case first =>
                  cases h2 : twoB i.op with
                  | false =>
                    have YE : Hid (yb = 0) := hide (by rw [YB.out, h2]; rfl)
                    have al : (asksL i).length = 1 := by rw [asks_shape i OPB.out, h2]; rfl
                    have BX2 := hide BX.out
                    have BX2 : Hid (Box5 w9 X 40 ⟨i.op, 0, ya, yb, i.c⟩) := hide (by rw [YE.out]; exact BX.out)
                    go_wp2
                    go_meet
                    case rel => exact ⟨rfl, WX.out, BX2.out⟩
                  | true =>
                    have YE : Hid (yb = ot (psAt p k).of i.b.toNat) := hide (by rw [YB.out, h2]; rfl)
                    have WB := hide (WH.out i.b (by rw [asks_shape i OPB.out, h2]; simp))
                    have al : (asksL i).length = 2 := by rw [asks_shape i OPB.out, h2]; rfl
                    have c0 := (PkS.step SS.out WX.out).px.cell0
                    have c1 := (PkS.step SS.out WX.out).px.cell1
                    have c2 := (PkS.step SS.out WX.out).px.cell2
                    have c3 := (PkS.step SS.out WX.out).px.cell3
                    replace IX := hide (IX.out.step WX.out)
                    have i0 := IX.out.cells.cell0
                    have i1 := IX.out.cells.cell1
                    have i2 := IX.out.cells.cell2
                    have i3 := IX.out.cells.cell3
                    have i4 := IX.out.cells.cell4
                    simp only [Nat.zero_add] at i1 i2 i3 i4
                    go_wp2_with fail
                    refine (held_any _ _ p _ (HP0.out.below (PkS.step SS.out WX.out).bel) (OwnB.bools (PkS.step SS.out WX.out).nb) k (Nat.le_of_lt HL.out) LN.out i.b WB.out.1).mono ?_
                    rintro e w10 ⟨rfl, hb⟩
                    have BX2 := hide (BX.out.step hb)
                    replace WX := hide (WX.out.trans (hb.mono WX.out.size))
                    clear hb c0 c1 c2 c3 i0 i1 i2 i3 i4 al
                    go_wp2_with fail
                    have hh := where_b w.heap.size _ (plL p k) _ (PkS.step SS.out WX.out).pl (by have := LL.out; omega) (heldF p k i.b)
                    rw [WB.out.2, ← YE.out] at hh
                    refine hh.mono ?_
                    clear hh
                    rintro e w11 ⟨rfl, hb⟩
                    replace BX2 := hide (BX2.out.step hb)
                    replace WX := hide (WX.out.trans (hb.mono WX.out.size))
                    clear hb
                    have f3 := Box5.free BX2.out 3
                    have x3 := (Box5.cells BX2.out).cell3
                    simp only [Nat.zero_add] at x3
                    go_wp2
                    go_meet
                    case rel => exact ⟨rfl, WX.out.setCell (p := ⟨X, 3, none⟩) GX.out _, BX2.out.set3 yb⟩
                case rest =>
                  obtain ⟨rfl, hb, hx⟩ := hcut
                  replace WX := hide hb
                  replace BX := hide hx
                  clear hb hx
                  obtain ⟨w12, hw12⟩ : ∃ w12, w12 = wc := ⟨_, rfl⟩
                  subst hw12
                  replace SS := hide (PkS.step SS.out WX.out)
                  skip
                  have SZ := hide (show w6.heap.size ≤ w12.heap.size from WX.out.size)
                  have W12 := hide (Below.refl w12.heap.size w12)
                  go_wp2
                  go_loopw [11, 12] (fun rv av wr => ∃ a : Nat, a ≤ (plL p k).length ∧ av = .int .i64 (a : Nat) ∧ Below w12.heap.size w12 wr ∧ OwnPl wr w12.heap.size rv (keptP p k (plL p k) a)) (fun _ av _ => (plL p k).length - (intOf av).toNat)
                  case atStart => exact ⟨0, Nat.zero_le _, rfl, W12.out, OwnPl.nil _ _⟩
                  case round =>
                    clear W12
                    obtain ⟨a, ha, rfl, hb, hw⟩ := hrel
                    have W12 := hide hb
                    have RO := hide hw
                    obtain ⟨ra, rcap, rfl⟩ := own_slice hw
                    clear hb hw
                    obtain ⟨wl, hwl⟩ : ∃ wl, wl = wr := ⟨_, rfl⟩
                    subst hwl
                    have ll := LL.out
                    have KL := hide (keptP_len p k (plL p k) a)
                    have KS := hide (fun h => keptP_succ (p := p) (k := k) (L := plL p k) (a := a) h)
                    generalize hkn : (keptP p k (plL p k) a).length = kn at *
                    have KN := hide hkn
                    clear hkn
                    by_cases al : a < (plL p k).length
                    · have KS2 := hide (KS.out al)
                      clear KS
                      have YI : Hid ((plL p k).getD a (0, 0) ∈ plL p k) := hide (by rw [List.getD_eq_getElem?_getD, List.getElem?_eq_getElem al]; exact List.getElem_mem al)
                      have YS := hide (pl_small HRR.out (Nat.le_of_lt HL.out) YI.out)
                      have KA : Hid (∃ g, la = some ⟨g, 0, none⟩ ∧ ∀ w', Below w12.heap.size w12 w' → w'.cell? ⟨g, a * 2, none⟩ = some (.int .i64 ((plL p k).getD a (0, 0)).1) ∧ w'.cell? ⟨g, a * 2 + 1, none⟩ = some (.int .i64 ((plL p k).getD a (0, 0)).2)) := hide (by
                        obtain ⟨g, e, _⟩ := OwnPl.at' SS.out.pl al
                        refine ⟨g, e, fun w' hb => ?_⟩
                        obtain ⟨g2, e2, h⟩ := OwnPl.at' (PkS.step SS.out hb).pl al
                        rw [e] at e2; cases e2; exact h)
                      obtain ⟨g, rfl, ka⟩ := KA.out
                      replace KA := hide ka
                      clear ka
                      have AL := hide al
                      obtain ⟨y, hy⟩ : ∃ y, y = (plL p k).getD a (0, 0) := ⟨_, rfl⟩
                      rw [← hy] at KA KS2 YS
                      clear hy YI
                      obtain ⟨y0, y1⟩ := y
                      obtain ⟨u, hu⟩ : ∃ u, u = untF p y0 := ⟨_, rfl⟩
                      have HU := hide hu
                      clear hu
                      go_upto_region 25 with fail
                      replace RO := hide (own_below RO.out ((Below.refl wl.heap.size wl).drew))
                      refine wp_calm (fun w' => Below w12.heap.size w12 w') (fun _ => true) 10 #[false, false, false, false, false, false, false, false, false, false] (by kernel_rfl) rfl rfl ?_
                      have HF := hide (W12.out.drew)
                      generalize wl.drew = wld at *
                      refine Calm.take (i := 0) (v := ?_) (a' := ?_) (l' := #[true, false, false, false, false, false, false, false, false, false]) (d := some 107) rfl (by kernel_rfl) (by kernel_rfl) (by kernel_rfl) (by kernel_rfl) (fun _ _ _ h => h) HF.out rfl ?_ rfl rfl ?_ ?_
                      rotate_left
                      · intro w' hF; have c0 := (PkS.step SS.out hF).px.cell0; have c1 := (PkS.step SS.out hF).px.cell1; have c2 := (PkS.step SS.out hF).px.cell2; have c3 := (PkS.step SS.out hF).px.cell3; have k0 := (KA.out _ hF).1; have k1 := (KA.out _ hF).2; clear hF; go_simp; try rfl
                      rotate_left
                      · simp only [Act.put]; exact rfl
                      refine Calm.take (i := 1) (v := ?_) (a' := ?_) (l' := #[true, true, false, false, false, false, false, false, false, false]) (d := some 108) rfl (by kernel_rfl) (by kernel_rfl) (by kernel_rfl) (by kernel_rfl) (fun _ _ _ h => h) HF.out rfl ?_ rfl rfl ?_ ?_
                      rotate_left
                      · intro w' hF; clear hF; go_simp; try rfl
                      rotate_left
                      · simp only [Act.put]; exact rfl
                      refine Calm.take (i := 2) (v := ?_) (a' := ?_) (l' := #[true, true, true, false, false, false, false, false, false, false]) (d := some 109) rfl (by kernel_rfl) (by kernel_rfl) (by kernel_rfl) (by kernel_rfl) (fun _ _ _ h => h) HF.out rfl ?_ rfl rfl ?_ ?_
                      rotate_left
                      · intro w' hF; clear hF; go_simp; try rfl
                      rotate_left
                      · simp only [Act.put]; exact rfl
                      refine Calm.take (i := 3) (v := ?_) (a' := ?_) (l' := #[true, true, true, true, false, false, false, false, false, false]) (d := some 110) rfl (by kernel_rfl) (by kernel_rfl) (by kernel_rfl) (by kernel_rfl) (fun _ _ _ h => h) HF.out rfl ?_ rfl rfl ?_ ?_
                      rotate_left
                      · intro w' hF; clear hF; go_simp; try rfl
                      rotate_left
                      · simp only [Act.put]; exact rfl
                      refine Calm.take (i := 4) (v := ?_) (a' := ?_) (l' := #[true, true, true, true, true, false, false, false, false, false]) (d := some 111) rfl (by kernel_rfl) (by kernel_rfl) (by kernel_rfl) (by kernel_rfl) (fun _ _ _ h => h) HF.out rfl ?_ rfl rfl ?_ ?_
                      rotate_left
                      · intro w' hF; clear hF; go_simp; try rfl
                      rotate_left
                      · simp only [Act.put]; exact rfl
                      refine Calm.take (i := 5) (v := ?_) (a' := ?_) (l' := #[true, true, true, true, true, true, false, false, false, false]) (d := some 112) rfl (by kernel_rfl) (by kernel_rfl) (by kernel_rfl) (by kernel_rfl) (fun _ _ _ h => h) HF.out rfl ?_ rfl rfl ?_ ?_
                      rotate_left
                      · intro w' hF; clear hF; go_simp; try rfl
                      rotate_left
                      · simp only [Act.put]; exact rfl
                      refine Calm.take (i := 6) (v := ?_) (a' := ?_) (l' := #[true, true, true, true, true, true, true, false, false, false]) (d := some 113) rfl (by kernel_rfl) (by kernel_rfl) (by kernel_rfl) (by kernel_rfl) (fun _ _ _ h => h) HF.out rfl ?_ rfl rfl ?_ ?_
                      rotate_left
                      · intro w' hF; have c0 := (PkS.step SS.out hF).px.cell0; have c1 := (PkS.step SS.out hF).px.cell1; have c2 := (PkS.step SS.out hF).px.cell2; have c3 := (PkS.step SS.out hF).px.cell3; have k0 := (KA.out _ hF).1; have k1 := (KA.out _ hF).2; clear hF; go_simp; try rfl
                      rotate_left
                      · simp only [Act.put]; exact rfl
                      refine Calm.take (i := 8) (v := ?_) (a' := ?_) (l' := #[true, true, true, true, true, true, true, false, true, false]) (d := some 115) rfl (by kernel_rfl) (by kernel_rfl) (by kernel_rfl) (by kernel_rfl) (fun _ _ _ h => h) HF.out rfl ?_ rfl rfl ?_ ?_
                      rotate_left
                      · intro w' hF; clear hF; go_simp; try rfl
                      rotate_left
                      · simp only [Act.put]; exact rfl
                      refine Calm.one (i := 7) (l' := #[true, true, true, true, true, true, true, true, true, false]) (by kernel_rfl) rfl rfl rfl fun K hK => ?_
                      go_simp
                      have hh := until_any _ _ p _ (HP0.out.below (PkS.step SS.out HF.out).bel) (OwnB.bools (PkS.step SS.out HF.out).nb) HRR.out LN.out y0 (by have h := YS.out; dsimp only at h; have := HL.out; have := LN.out; omega)
                      rw [← HU.out] at hh
                      refine hh.mono ?_
                      clear hh
                      rintro e w13 ⟨rfl, hb⟩
                      replace RO := hide (own_below RO.out hb)
                      have HF' := hide (HF.out.trans ((hb).mono HF.out.size))
                      refine hK _ _ (fun _ => HF'.out) ?_
                      clear hK K HF hb
                      have HF := hide HF'.out
                      clear HF'
                      refine Calm.take (i := 9) (v := ?_) (a' := ?_) (l' := #[true, true, true, true, true, true, true, true, true, true]) (d := some 116) rfl (by kernel_rfl) (by kernel_rfl) (by kernel_rfl) (by kernel_rfl) (fun _ _ _ h => h) HF.out rfl ?_ rfl rfl ?_ ?_
                      rotate_left
                      · intro w' hF; clear hF; go_simp; try rfl
                      rotate_left
                      · simp only [Act.put]; exact rfl
                      refine Calm.done (by kernel_rfl) ?_
                      by_cases hq : u = (k : Int)
                      · have e2 : Hid (keptP p k (plL p k) (a + 1) = keptP p k (plL p k) a) := hide (by rw [KS2.out]; dsimp only; rw [← HU.out, if_neg (fun h => h hq)])
                        subst hq
                        have AL2 := AL.out
                        go_wp2
                        go_roundw
                        case rel => exact ⟨a + 1, by omega, by go_num, HF.out, by rw [e2.out]; exact RO.out⟩
                        case measure => simp [intOf]; omega
                      · have e2 : Hid (keptP p k (plL p k) (a + 1) = keptP p k (plL p k) a ++ [(y0, y1)]) := hide (by rw [KS2.out]; dsimp only; rw [← HU.out, if_pos hq])
                        have hq2 : (u == (k : Int)) = false := by simpa using hq
                        have AL2 := AL.out
                        have k0 := (KA.out _ HF.out).1
                        have k1 := (KA.out _ HF.out).2
                        dsimp only at k0 k1
                        have al := below_alloc w13 (.cells #[.int .i64 y0, .int .i64 y1] 77)
                        have BO : (w13.alloc (.cells #[.int .i64 y0, .int .i64 y1] 77)).heap[w13.heap.size]? = some (.cells (plC (y0, y1)).toArray 77 (0, 0)) := heap_alloc_new _ _
                        have HF2 := hide (HF.out.trans (al.mono HF.out.size))
                        have RO2 := hide (OwnPl.below RO.out al)
                        clear al
                        go_wp2_with (at_builtin; refine wpList_op rfl fun K hK => ?_; refine wp_appPl _ _ _ rfl w12.heap.size (.slice ra kn rcap) (keptP p k (plL p k) a) rfl RO2.out _ _ (y0, y1) rfl BO (by have := KN.out; have := KL.out; have := LL.out; omega) HF2.out.size ?_; intro v' w14 hown hgrow; refine hK _ _ ?_)
                        have HF3 := hide (HF2.out.grown hgrow HF2.out.size (fun g hg => (World.ownsRow.lt RO2.out g hg).1))
                        have RO3 := hide hown
                        clear hown hgrow BO k0 k1
                        go_wp2
                        go_roundw
                        case rel => exact ⟨a + 1, by omega, by go_num, HF3.out, by rw [e2.out]; exact RO3.out⟩
                        case measure => simp [intOf]; omega
                    · have e : a = (plL p k).length := by omega
                      subst e
                      rw [keptP_all] at RO KN
                      clear KS KL
                      have KKL : Hid (kn ≤ 1000) := hide (by rw [← KN.out, ← keptP_all]; have := keptP_len p k (plL p k) (plL p k).length; have := LL.out; omega)
                      have S3 := hide ((PkS.step SS.out W12.out).withL RO.out SS.out.bel.size)
                      have BX3 := hide (BX.out.step W12.out)
                      clear W12 RO BX WX SS IX
                      skip
                      obtain ⟨t, ht⟩ : ∃ t, t = seatOf (psAt p k).un k := ⟨_, rfl⟩
                      have HT := hide ht
                      have TB : Hid (∀ r : Nat, r ≤ t → takenB (plK p k) r kn = decide (r < t)) := hide (fun r h => by rw [ht] at h ⊢; rw [← KN.out]; exact taken_below HRR.out HL.out HS.out h)
                      have TS : Hid (t < 128) := hide (by have := ((psAt_inv HRR.out k (Nat.le_of_lt HL.out)).seat HRR.out HL.out HS.out).1; have := LI.out; omega)
                      clear ht
                      have kn2 := KN.out
                      skip
                      go_wp2
                      go_loopw [13, 14, 15] (fun rv tv _ wr => wl = wr ∧ ∃ (r : Nat) (b : Bool), r ≤ t ∧ rv = .int .i64 (r : Nat) ∧ tv = .bool b ∧ (b = false → r = t)) (fun rv tv _ _ => 2 * (t - (intOf rv).toNat) + bitOf tv)
                      case atStart => exact ⟨rfl, 0, true, Nat.zero_le _, rfl, rfl, fun h => by simp at h⟩
                      case round =>
                        obtain ⟨rfl, r, b, hr, rfl, rfl, hb⟩ := hrel
                        have RT := hide hr
                        have HBT := hide hb
                        clear hr hb
                        cases b with
                        | true =>
                          have kk := KKL.out
                          have ts := TS.out
                          go_wp2
                          go_loopw [14, 15] (fun tv av wr => wl = wr ∧ ∃ a : Nat, a ≤ kn ∧ av = .int .i64 (a : Nat) ∧ tv = .bool (takenB (plK p k) r a)) (fun _ av _ => kn - (intOf av).toNat)
                          case atStart => exact ⟨rfl, 0, Nat.zero_le _, rfl, rfl⟩
                          case round =>
                            obtain ⟨rfl, a, ha, rfl, rfl⟩ := hrel
                            by_cases al : a < kn
                            · obtain ⟨g, e1, k0, k1⟩ := OwnPl.at' S3.out.pl (k := a) (by rw [KN.out]; exact al)
                              have ET := hide (takenB_succ (L := plK p k) (a := a) (r := (r : Int)) (by rw [KN.out]; exact al))
                              generalize (plK p k).getD a (0, 0) = y at *
                              obtain ⟨y0, y1⟩ := y
                              dsimp only at k0 k1
                              subst e1
                              by_cases hq : y1 = (r : Int)
                              · have ET2 : Hid (takenB (plK p k) r (a + 1) = true) := hide (by rw [ET.out]; simp [hq])
                                subst hq
                                go_wp2
                                go_roundw
                                case rel => exact ⟨by first | trivial | rfl, a + 1, by omega, by go_num, by rw [ET2.out]⟩
                                case measure => simp [intOf]; omega
                              · have ET2 : Hid (takenB (plK p k) r (a + 1) = takenB (plK p k) r a) := hide (by rw [ET.out]; simp [hq])
                                have hq2 : (y1 == (r : Int)) = false := by simpa using hq
                                go_wp2
                                go_roundw
                                case rel => exact ⟨by first | trivial | rfl, a + 1, by omega, by go_num, by rw [ET2.out]⟩
                                case measure => simp [intOf]; omega
                            · have e : a = kn := by omega
                              rw [e, TB.out r RT.out]
                              by_cases hq : r < t
                              · rw [decide_eq_true hq]
                                go_wp2
                                go_roundw
                                case rel => exact ⟨by first | trivial | rfl, r + 1, true, by omega, by go_num, rfl, fun h => by simp at h⟩
                                case measure => simp [intOf, bitOf]; omega
                              · rw [decide_eq_false hq]
                                have rt := RT.out
                                go_wp2
                                go_roundw
                                case rel => exact ⟨by first | trivial | rfl, r, false, by omega, rfl, rfl, fun _ => by omega⟩
                                case measure => simp [intOf, bitOf]; try omega
                        | false =>
                          have e : r = t := HBT.out rfl
                          subst e
                          have ts := TS.out
                          have kl := HL.out
                          have f1 := Box5.free BX3.out 1
                          have x1 := (Box5.cells BX3.out).cell1
                          simp only [Nat.zero_add] at x1
                          go_upto_region 40 with fail
                          clear f1 x1
                          have XA : Hid (PkS w B R O p (.slice (some ⟨b1, o1, none⟩) p.code.length cc) (.slice oa p.outs.length oc) (.slice (some ⟨gn, 0, none⟩) p.code.length p.code.length) (plR p k) (.slice va (psAt p k).code.length vcap) (.slice none 0 0) (.slice ra kn rcap) (psAt p k).code [] (plK p k) (wl.setCell ⟨X, 1, none⟩ (.int .i64 (r : Nat)))) := hide (S3.out.setX BX3.out XV.out.1 XV.out.2 _)
                          have BX4 := hide (BX3.out.set1 (r : Int))
                          clear S3 BX3
                          obtain ⟨w15, hw15⟩ : ∃ w15, w15 = wl.setCell ⟨X, 1, none⟩ (.int .i64 (r : Nat)) := ⟨_, rfl⟩
                          rw [← hw15] at XA BX4 ⊢
                          clear hw15
                          have S5a := hide XA.out
                          clear XA
                          have al := below_alloc w15 (.cells #[.int .i64 (k : Nat), .int .i64 (r : Nat)] 77)
                          have BO : (w15.alloc (.cells #[.int .i64 (k : Nat), .int .i64 (r : Nat)] 77)).heap[w15.heap.size]? = some (.cells (plC ((k : Int), (r : Int))).toArray 77 (0, 0)) := heap_alloc_new _ _
                          have S5 := hide (S5a.out.step al)
                          have BX5 := hide (BX4.out.step al)
                          clear al S5a BX4
                          have ST : Hid (plL p (k + 1) = plK p k ++ [((k : Int), (r : Int))] ∧ plR p (k + 1) = max (plR p k) ((r : Int) + 1) ∧ (psAt p (k + 1)).code = (psAt p k).code ++ [⟨i.op, r, ya, yb, i.c⟩]) := hide (by
                            refine ⟨by rw [plL_need HS.out, plStep_eq, ← HT.out], by rw [plR_need HS.out, ← HT.out], ?_⟩
                            rw [psAt_need HS.out]
                            show _ ++ [mvd (cd p.code k) _ _] = _
                            rw [← HI.out, ← HT.out, YA.out, YB.out]; rfl)
                          have RB : Hid (plR p k ≤ 1000) := hide (by have h := plR_mono p k (p.code.length - k); rw [show k + (p.code.length - k) = p.code.length by have := HL.out; omega, plR_regs HRR.out] at h; have := (right_parts (pk_right HRR.out)).2.2.1; omega)
                          have RB0 : Hid (0 ≤ plR p k) := hide (by have h := (pl_inv HRR.out k (Nat.le_of_lt HL.out)).seats (p.ins - 1); have h2 := h.2 (.inl (by omega)); have := LI.out; omega)
                          obtain ⟨m, hm⟩ : ∃ m, m = plR p k := ⟨_, rfl⟩
                          rw [← hm] at S5 ST RB RB0
                          clear hm
                          obtain ⟨cn, hcn⟩ : ∃ cn, cn = (psAt p k).code.length := ⟨_, rfl⟩
                          have CNL : Hid (cn ≤ 400) := hide (by rw [hcn]; have h1 := psAt_code_le p k; have := HL.out; have := LN.out; omega)
                          have CN := hide hcn
                          rw [← hcn] at S5
                          clear hcn
                          have rb := RB.out
                          have rb0 := RB0.out
                          by_cases hm : m < (r : Int) + 1
                          · go_wp2_with (first | (at_builtin; refine wpList_op rfl fun K hK => ?_; refine wp_appPl _ _ _ rfl w.heap.size (.slice ra kn rcap) (plK p k) rfl S5.out.pl _ _ ((k : Int), (r : Int)) rfl BO (by have h1 := KKL.out; have h2 := KN.out; omega) S5.out.bel.size ?_; intro v' w16 hown hgrow; have S6 := hide (S5.out.appL hgrow hown); have BX6 : Hid (Box5 w16 X 40 ⟨i.op, r, ya, yb, i.c⟩) := hide ((hgrow.block X BX5.out.lt (fun e => cellsRow S5.out.pl BX5.out (by decide) e.symm)).trans BX5.out); have o1' := S6.out.ox.cell1; have f1 := S6.out.ox.free 1; have S7 := hide (S6.out.setM ((r : Int) + 1)); have BX7 : Hid (Box5 (w16.setCell ⟨O, 1, none⟩ (.int .i64 ((r : Int) + 1))) X 40 ⟨i.op, r, ya, yb, i.c⟩) := hide (BX6.out.set_ne (fun e => box45_ne S6.out.ox BX6.out e) _); have o2 := S7.out.ox.cell2; have q2 := S7.out.ox.free 2; have x0 := (Box5.cells BX7.out).cell0; have x1 := (Box5.cells BX7.out).cell1; have x2 := (Box5.cells BX7.out).cell2; have x3 := (Box5.cells BX7.out).cell3; have x4 := (Box5.cells BX7.out).cell4; simp only [Nat.zero_add] at x1 x2 x3 x4; have al := below_alloc (w16.setCell ⟨O, 1, none⟩ (.int .i64 ((r : Int) + 1))) (.cells #[.int .i64 i.op, .int .i64 (r : Nat), .int .i64 ya, .int .i64 yb, .int .i64 i.c] 40); have BO2 := code1 (w16.setCell ⟨O, 1, none⟩ (.int .i64 ((r : Int) + 1))) ⟨i.op, r, ya, yb, i.c⟩ (n := w16.heap.size) (by first | rfl | simp); have S8 := hide (S7.out.step al); clear al; refine hK _ _ ?_) | (at_builtin; refine wpList_op rfl fun K hK => ?_; refine wp_appC _ _ rfl w.heap.size (.slice va cn vcap) (psAt p k).code rfl S8.out.oc _ [⟨i.op, r, ya, yb, i.c⟩] rfl BO2 (by have h1 := CNL.out; have h2 := CN.out; simp only [List.length_singleton]; omega) S8.out.bel.size ?_; intro vN w17 hown2 hgrow2; obtain ⟨nN, cN, hvN⟩ := own_slice hown2; obtain ⟨mN, hmN⟩ : ∃ mN, mN = ((psAt p k).code ++ [(⟨i.op, r, ya, yb, i.c⟩ : Ins)]).length := ⟨_, rfl⟩; rw [← hmN] at hvN; clear hmN; subst hvN; have o3 := (S8.out.growC hgrow2).cell2; have q3 := (S8.out.growC hgrow2).free 2; refine hK _ _ ?_))
                            have S9 := hide (S8.out.appC hgrow2 hown2)
                            rw [← ST.out.2.2, ← ST.out.1] at S9
                            go_roundw
                            case rel => exact ⟨k + 1, _, by have := HL.out; omega, by have := HL.out; have := LN.out; go_num, by rw [ST.out.2.1, show max m ((r : Int) + 1) = (r : Int) + 1 by omega]; exact S9.out⟩
                            case measure => have := HL.out; simp [intOf]; omega
                          · go_wp2_with (first | (at_builtin; refine wpList_op rfl fun K hK => ?_; refine wp_appPl _ _ _ rfl w.heap.size (.slice ra kn rcap) (plK p k) rfl S5.out.pl _ _ ((k : Int), (r : Int)) rfl BO (by have h1 := KKL.out; have h2 := KN.out; omega) S5.out.bel.size ?_; intro v' w16 hown hgrow; have S6 := hide (S5.out.appL hgrow hown); have BX6 : Hid (Box5 w16 X 40 ⟨i.op, r, ya, yb, i.c⟩) := hide ((hgrow.block X BX5.out.lt (fun e => cellsRow S5.out.pl BX5.out (by decide) e.symm)).trans BX5.out); have o1' := S6.out.ox.cell1; have f1 := S6.out.ox.free 1; have S7 := hide (S6.out); have BX7 : Hid (Box5 w16 X 40 ⟨i.op, r, ya, yb, i.c⟩) := hide (BX6.out); have o2 := S7.out.ox.cell2; have q2 := S7.out.ox.free 2; have x0 := (Box5.cells BX7.out).cell0; have x1 := (Box5.cells BX7.out).cell1; have x2 := (Box5.cells BX7.out).cell2; have x3 := (Box5.cells BX7.out).cell3; have x4 := (Box5.cells BX7.out).cell4; simp only [Nat.zero_add] at x1 x2 x3 x4; have al := below_alloc w16 (.cells #[.int .i64 i.op, .int .i64 (r : Nat), .int .i64 ya, .int .i64 yb, .int .i64 i.c] 40); have BO2 := code1 w16 ⟨i.op, r, ya, yb, i.c⟩ (n := w16.heap.size) (by first | rfl | simp); have S8 := hide (S7.out.step al); clear al; refine hK _ _ ?_) | (at_builtin; refine wpList_op rfl fun K hK => ?_; refine wp_appC _ _ rfl w.heap.size (.slice va cn vcap) (psAt p k).code rfl S8.out.oc _ [⟨i.op, r, ya, yb, i.c⟩] rfl BO2 (by have h1 := CNL.out; have h2 := CN.out; simp only [List.length_singleton]; omega) S8.out.bel.size ?_; intro vN w17 hown2 hgrow2; obtain ⟨nN, cN, hvN⟩ := own_slice hown2; obtain ⟨mN, hmN⟩ : ∃ mN, mN = ((psAt p k).code ++ [(⟨i.op, r, ya, yb, i.c⟩ : Ins)]).length := ⟨_, rfl⟩; rw [← hmN] at hvN; clear hmN; subst hvN; have o3 := (S8.out.growC hgrow2).cell2; have q3 := (S8.out.growC hgrow2).free 2; refine hK _ _ ?_))
                            have S9 := hide (S8.out.appC hgrow2 hown2)
                            rw [← ST.out.2.2, ← ST.out.1] at S9
                            go_roundw
                            case rel => exact ⟨k + 1, _, by have := HL.out; omega, by have := HL.out; have := LN.out; go_num, by rw [ST.out.2.1, show max m ((r : Int) + 1) = m by omega]; exact S9.out⟩
                            case measure => have := HL.out; simp [intOf]; omega
          · have e : k = p.code.length := by omega
            subst e
            have PR := hide (plR_regs HRR.out)
            have LL : Hid ((plL p p.code.length).length ≤ 1000) := hide (by have := plL_len p p.code.length; have := LI.out; have := LN.out; omega)
            have lo := LO.out
            have c2 := SS.out.px.cell2
            go_wp2
            clear c2
            go_loopw [16] (fun av wr => ∃ (a : Nat) (vo : Value), a ≤ p.outs.length ∧ av = .int .i64 (a : Nat) ∧ PkS w B R O p (.slice ca p.code.length cc) (.slice oa p.outs.length oc) (.slice (some ⟨gn, 0, none⟩) p.code.length p.code.length) (plR p p.code.length) (.slice va (psAt p p.code.length).code.length vcap) vo (.slice la (plL p p.code.length).length lcap) (psAt p p.code.length).code ((pkOuts p).take a) (plL p p.code.length) wr) (fun av _ => p.outs.length - (intOf av).toNat)
            case atStart => exact ⟨0, _, Nat.zero_le _, rfl, SS.out⟩
            case round =>
              clear SS
              obtain ⟨a, vo, ha, rfl, hs⟩ := hrel
              have SS := hide hs
              obtain ⟨ya, ycap, hyv⟩ := own_slice hs.oo
              have el : ((pkOuts p).take a).length = a := by rw [List.length_take]; unfold pkOuts; rw [List.length_map]; omega
              rw [el] at hyv
              subst hyv
              clear hs el
              obtain ⟨wf, hwf⟩ : ∃ wf, wf = wr := ⟨_, rfl⟩
              subst hwf
              have c3 := SS.out.px.cell3
              by_cases al : a < p.outs.length
              · have KA : Hid (∃ b off, oa = some ⟨b, off, none⟩ ∧ ∀ w', Below wf.heap.size wf w' → w'.cell? ⟨b, off + a, none⟩ = some (.int .i64 (ot p.outs a))) := hide (by
                  obtain ⟨b, off, e, _⟩ := (KO.out.below SS.out.bel).at al
                  refine ⟨b, off, e, fun w' hb => ?_⟩
                  obtain ⟨b2, o2, e2, h⟩ := (KO.out.below (SS.out.step hb).bel).at al
                  rw [e] at e2; cases e2; exact h)
                obtain ⟨b, off, rfl, ka⟩ := KA.out
                replace KA := hide ka
                clear ka
                have om : ot p.outs a ∈ p.outs := by unfold ot; simp [al]
                have WA : Hid ((-100000 ≤ ot p.outs a ∧ ot p.outs a ≤ 100000) ∧ whereF (plL p p.code.length) (heldF p p.code.length (ot p.outs a)) = ot (psAt p p.code.length).of (ot p.outs a).toNat) := hide ⟨by have := out_toNat HRR.out om; have := LI.out; omega, pl_outs HRR.out om⟩
                have TK := hide (pkOuts_take al)
                have AL := hide al
                obtain ⟨q, hq⟩ : ∃ q, q = ot p.outs a := ⟨_, rfl⟩
                rw [← hq] at KA WA TK
                clear hq om
                obtain ⟨y, hy⟩ : ∃ y, y = ot (psAt p p.code.length).of q.toNat := ⟨_, rfl⟩
                rw [← hy] at WA TK
                clear hy
                go_upto_region 47 with fail
                clear c3
                refine wp_calm (fun w' => Below wf.heap.size wf w') (fun j => j != 16 && j != 17 && j != 18) 19 #[false, false, false, false, false, false, false, false, false, false, false, false, false, false, false, false, false, false, false] (by kernel_rfl) rfl rfl ?_
                have HF := hide ((Below.refl wf.heap.size wf).drew)
                generalize wf.drew = wfd at *
                refine Calm.takeL 19 (i := 0) (v := ?_) (a' := ?_) (l' := #[true, false, false, false, false, false, false, false, false, false, false, false, false, false, false, false, false, false, false]) (d := some 171) (by kernel_rfl) rfl (by kernel_rfl) (by kernel_rfl) (by kernel_rfl) (by kernel_rfl) (fun _ _ _ h => h) HF.out rfl ?_ rfl rfl ?_ ?_
                rotate_left
                · intro w' hF; clear hF; go_simp; try rfl
                rotate_left
                · simp only [Act.put]; exact rfl
                refine Calm.takeL 19 (i := 1) (v := ?_) (a' := ?_) (l' := #[true, true, false, false, false, false, false, false, false, false, false, false, false, false, false, false, false, false, false]) (d := some 172) (by kernel_rfl) rfl (by kernel_rfl) (by kernel_rfl) (by kernel_rfl) (by kernel_rfl) (fun _ _ _ h => h) HF.out rfl ?_ rfl rfl ?_ ?_
                rotate_left
                · intro w' hF; have c0 := (PkS.step SS.out hF).px.cell0; have c1 := (PkS.step SS.out hF).px.cell1; have c2 := (PkS.step SS.out hF).px.cell2; have c3 := (PkS.step SS.out hF).px.cell3; have o3 := (PkS.step SS.out hF).ox.cell3; have k1 := KA.out _ hF; clear hF; go_simp; try rfl
                rotate_left
                · simp only [Act.put]; exact rfl
                refine Calm.takeL 19 (i := 2) (v := ?_) (a' := ?_) (l' := #[true, true, true, false, false, false, false, false, false, false, false, false, false, false, false, false, false, false, false]) (d := some 173) (by kernel_rfl) rfl (by kernel_rfl) (by kernel_rfl) (by kernel_rfl) (by kernel_rfl) (fun _ _ _ h => h) HF.out rfl ?_ rfl rfl ?_ ?_
                rotate_left
                · intro w' hF; clear hF; go_simp; try rfl
                rotate_left
                · simp only [Act.put]; exact rfl
                refine Calm.takeL 19 (i := 3) (v := ?_) (a' := ?_) (l' := #[true, true, true, true, false, false, false, false, false, false, false, false, false, false, false, false, false, false, false]) (d := some 174) (by kernel_rfl) rfl (by kernel_rfl) (by kernel_rfl) (by kernel_rfl) (by kernel_rfl) (fun _ _ _ h => h) HF.out rfl ?_ rfl rfl ?_ ?_
                rotate_left
                · intro w' hF; have c0 := (PkS.step SS.out hF).px.cell0; have c1 := (PkS.step SS.out hF).px.cell1; have c2 := (PkS.step SS.out hF).px.cell2; have c3 := (PkS.step SS.out hF).px.cell3; have o3 := (PkS.step SS.out hF).ox.cell3; have k1 := KA.out _ hF; clear hF; go_simp; try rfl
                rotate_left
                · simp only [Act.put]; exact rfl
                refine Calm.takeL 19 (i := 4) (v := ?_) (a' := ?_) (l' := #[true, true, true, true, true, false, false, false, false, false, false, false, false, false, false, false, false, false, false]) (d := some 175) (by kernel_rfl) rfl (by kernel_rfl) (by kernel_rfl) (by kernel_rfl) (by kernel_rfl) (fun _ _ _ h => h) HF.out rfl ?_ rfl rfl ?_ ?_
                rotate_left
                · intro w' hF; clear hF; go_simp; try rfl
                rotate_left
                · simp only [Act.put]; exact rfl
                refine Calm.takeL 19 (i := 5) (v := ?_) (a' := ?_) (l' := #[true, true, true, true, true, true, false, false, false, false, false, false, false, false, false, false, false, false, false]) (d := some 176) (by kernel_rfl) rfl (by kernel_rfl) (by kernel_rfl) (by kernel_rfl) (by kernel_rfl) (fun _ _ _ h => h) HF.out rfl ?_ rfl rfl ?_ ?_
                rotate_left
                · intro w' hF; clear hF; go_simp; try rfl
                rotate_left
                · simp only [Act.put]; exact rfl
                refine Calm.takeL 19 (i := 6) (v := ?_) (a' := ?_) (l' := #[true, true, true, true, true, true, true, false, false, false, false, false, false, false, false, false, false, false, false]) (d := some 177) (by kernel_rfl) rfl (by kernel_rfl) (by kernel_rfl) (by kernel_rfl) (by kernel_rfl) (fun _ _ _ h => h) HF.out rfl ?_ rfl rfl ?_ ?_
                rotate_left
                · intro w' hF; have c0 := (PkS.step SS.out hF).px.cell0; have c1 := (PkS.step SS.out hF).px.cell1; have c2 := (PkS.step SS.out hF).px.cell2; have c3 := (PkS.step SS.out hF).px.cell3; have o3 := (PkS.step SS.out hF).ox.cell3; have k1 := KA.out _ hF; clear hF; go_simp; try rfl
                rotate_left
                · simp only [Act.put]; exact rfl
                refine Calm.takeL 19 (i := 7) (v := ?_) (a' := ?_) (l' := #[true, true, true, true, true, true, true, true, false, false, false, false, false, false, false, false, false, false, false]) (d := some 178) (by kernel_rfl) rfl (by kernel_rfl) (by kernel_rfl) (by kernel_rfl) (by kernel_rfl) (fun _ _ _ h => h) HF.out rfl ?_ rfl rfl ?_ ?_
                rotate_left
                · intro w' hF; clear hF; go_simp; try rfl
                rotate_left
                · simp only [Act.put]; exact rfl
                refine Calm.takeL 19 (i := 8) (v := ?_) (a' := ?_) (l' := #[true, true, true, true, true, true, true, true, true, false, false, false, false, false, false, false, false, false, false]) (d := some 179) (by kernel_rfl) rfl (by kernel_rfl) (by kernel_rfl) (by kernel_rfl) (by kernel_rfl) (fun _ _ _ h => h) HF.out rfl ?_ rfl rfl ?_ ?_
                rotate_left
                · intro w' hF; clear hF; go_simp; try rfl
                rotate_left
                · simp only [Act.put]; exact rfl
                refine Calm.takeL 19 (i := 9) (v := ?_) (a' := ?_) (l' := #[true, true, true, true, true, true, true, true, true, true, false, false, false, false, false, false, false, false, false]) (d := some 180) (by kernel_rfl) rfl (by kernel_rfl) (by kernel_rfl) (by kernel_rfl) (by kernel_rfl) (fun _ _ _ h => h) HF.out rfl ?_ rfl rfl ?_ ?_
                rotate_left
                · intro w' hF; have c0 := (PkS.step SS.out hF).px.cell0; have c1 := (PkS.step SS.out hF).px.cell1; have c2 := (PkS.step SS.out hF).px.cell2; have c3 := (PkS.step SS.out hF).px.cell3; have o3 := (PkS.step SS.out hF).ox.cell3; have k1 := KA.out _ hF; clear hF; go_simp; try rfl
                rotate_left
                · simp only [Act.put]; exact rfl
                refine Calm.takeL 19 (i := 10) (v := ?_) (a' := ?_) (l' := #[true, true, true, true, true, true, true, true, true, true, true, false, false, false, false, false, false, false, false]) (d := some 181) (by kernel_rfl) rfl (by kernel_rfl) (by kernel_rfl) (by kernel_rfl) (by kernel_rfl) (fun _ _ _ h => h) HF.out rfl ?_ rfl rfl ?_ ?_
                rotate_left
                · intro w' hF; clear hF; go_simp; try rfl
                rotate_left
                · simp only [Act.put]; exact rfl
                refine Calm.takeL 19 (i := 11) (v := ?_) (a' := ?_) (l' := #[true, true, true, true, true, true, true, true, true, true, true, true, false, false, false, false, false, false, false]) (d := some 182) (by kernel_rfl) rfl (by kernel_rfl) (by kernel_rfl) (by kernel_rfl) (by kernel_rfl) (fun _ _ _ h => h) HF.out rfl ?_ rfl rfl ?_ ?_
                rotate_left
                · intro w' hF; clear hF; go_simp; try rfl
                rotate_left
                · simp only [Act.put]; exact rfl
                refine Calm.takeL 19 (i := 12) (v := ?_) (a' := ?_) (l' := #[true, true, true, true, true, true, true, true, true, true, true, true, true, false, false, false, false, false, false]) (d := some 183) (by kernel_rfl) rfl (by kernel_rfl) (by kernel_rfl) (by kernel_rfl) (by kernel_rfl) (fun _ _ _ h => h) HF.out rfl ?_ rfl rfl ?_ ?_
                rotate_left
                · intro w' hF; have c0 := (PkS.step SS.out hF).px.cell0; have c1 := (PkS.step SS.out hF).px.cell1; have c2 := (PkS.step SS.out hF).px.cell2; have c3 := (PkS.step SS.out hF).px.cell3; have o3 := (PkS.step SS.out hF).ox.cell3; have k1 := KA.out _ hF; clear hF; go_simp; try rfl
                rotate_left
                · simp only [Act.put]; exact rfl
                refine Calm.one (i := 13) (l' := #[true, true, true, true, true, true, true, true, true, true, true, true, true, true, false, false, false, false, false]) (by kernel_rfl) rfl rfl rfl fun K hK => ?_
                go_simp
                have hh := held_any _ _ p _ (HP0.out.below (PkS.step SS.out HF.out).bel) (OwnB.bools (PkS.step SS.out HF.out).nb) p.code.length (Nat.le_refl _) LN.out q WA.out.1
                refine hh.mono ?_
                clear hh
                rintro e w7 ⟨rfl, hb⟩
                have HF' := hide (HF.out.trans ((hb).mono HF.out.size))
                refine hK _ _ (fun _ => HF'.out) ?_
                clear hK K HF hb
                have HF := hide HF'.out
                clear HF'
                refine Calm.one (i := 14) (l' := #[true, true, true, true, true, true, true, true, true, true, true, true, true, true, true, false, false, false, false]) (by kernel_rfl) rfl rfl rfl fun K hK => ?_
                go_simp
                have hh := where_b w.heap.size _ (plL p p.code.length) _ (PkS.step SS.out HF.out).pl (by have := LL.out; omega) (heldF p p.code.length q)
                rw [WA.out.2] at hh
                refine hh.mono ?_
                clear hh
                rintro e w8 ⟨rfl, hb⟩
                have HF' := hide (HF.out.trans ((hb).mono HF.out.size))
                refine hK _ _ (fun _ => HF'.out) ?_
                clear hK K HF hb
                have HF := hide HF'.out
                clear HF'
                refine Calm.one (i := 15) (l' := #[true, true, true, true, true, true, true, true, true, true, true, true, true, true, true, true, false, false, false]) (by kernel_rfl) rfl rfl rfl fun K hK => ?_
                go_simp
                have al := below_alloc w8 (.cells #[.int .i64 y] 3)
                have HF' := hide (HF.out.trans ((al).mono HF.out.size))
                have BXe := hide (int1 w8 y rfl)
                have GEe := hide (HF.out.size)
                refine hK _ _ (fun _ => HF'.out) ?_
                clear hK K HF al
                have HF := hide HF'.out
                clear HF'
                generalize w8.alloc (.cells #[.int .i64 y] 3) = wze at *
                generalize w8.heap.size = ge at *
                refine Calm.one (i := 16) (l' := #[true, true, true, true, true, true, true, true, true, true, true, true, true, true, true, true, true, false, false]) (by kernel_rfl) rfl rfl rfl fun K hK => ?_
                refine wp_appO (.tmp 172) (.tmp 186) rfl w.heap.size (.slice ya a ycap) ((pkOuts p).take a) rfl (PkS.step SS.out HF.out).oo _ [y] rfl BXe.out (by rw [List.length_take]; have := LO.out; simp only [List.length_singleton]; have := AL.out; omega) (PkS.step SS.out HF.out).bel.size ?_
                intro v' w9 hown hgrow
                obtain ⟨nN, cN, hvN⟩ := own_slice hown
                obtain ⟨mN, hmN⟩ : ∃ mN, mN = ((pkOuts p).take a ++ [y]).length := ⟨_, rfl⟩
                rw [← hmN] at hvN
                clear hmN
                subst hvN
                have kx' := (PkS.step SS.out HF.out).growO hgrow
                have y3 := kx'.cell3
                have z3 := kx'.free 3
                have JN := hide ((PkS.step SS.out HF.out).appO hgrow hown)
                rw [← TK.out] at JN
                clear hgrow hown kx'
                refine hK _ _ (fun h => absurd h (by decide)) ?_
                clear hK K
                refine Calm.one (i := 17) (l' := #[true, true, true, true, true, true, true, true, true, true, true, true, true, true, true, true, true, true, false]) (by kernel_rfl) rfl rfl rfl fun K hK => ?_
                go_simp
                refine hK _ _ (fun h => absurd h (by decide)) ?_
                clear hK K
                refine Calm.one (i := 18) (l' := #[true, true, true, true, true, true, true, true, true, true, true, true, true, true, true, true, true, true, true]) (by kernel_rfl) rfl rfl rfl fun K hK => ?_
                go_simp
                refine hK _ _ (fun h => absurd h (by decide)) ?_
                clear hK K
                refine Calm.done (by kernel_rfl) ?_
                clear HF BXe
                try simp only [List.setIfInBounds_toArray, List.set_cons_succ, List.set_cons_zero]
                go_wp2
                go_roundw
                case rel => exact ⟨a + 1, _, by have := AL.out; omega, by have := AL.out; have := LO.out; go_num, JN.out⟩
                case measure => have := AL.out; simp [intOf]; omega
              · have e : a = p.outs.length := by omega
                subst e
                have ET : (pkOuts p).take p.outs.length = pkOuts p := List.take_of_length_le (by unfold pkOuts; rw [List.length_map]; exact Nat.le_refl _)
                rw [ET] at SS
                have x0 := SS.out.ox.cell0
                have x1 := SS.out.ox.cell1
                have x2 := SS.out.ox.cell2
                have x3 := SS.out.ox.cell3
                have r0 := SS.out.rx.cell0
                have r1 := SS.out.rx.cell1
                have r2 := SS.out.rx.cell2
                have r3 := SS.out.rx.cell3
                have f0 := SS.out.rx.free 0
                have f1 := SS.out.rx.free 1
                have f2 := SS.out.rx.free 2
                have f3 := SS.out.rx.free 3
                go_wp2
                refine ret_pg rfl R _ _ _ _ rfl (SS.out.rx.put _ _ _ _) rfl ?_
                refine ⟨⟨_, rfl, _, _, by rw [← PR.out]; rfl, ?_, ?_⟩, ?_⟩
                · exact own_put4 SS.out.oc SS.out.rx _ _ _ _
                · exact own_put4 SS.out.oo SS.out.rx _ _ _ _
                · exact below_put4 SS.out.bel SS.out.ne.2.2.2 _ _ _ _
end Go.Proofs.Ytheakienigmkhaa
