/- swagelaw16.OrderPacks answers true at all programs, and turns nothing that was there. -/
import Derived.Test.YtheakienigmkhaaOrPk
import Derived.Test.YtheakienigmkhaaOrAe
import Derived.Test.YtheakienigmkhaaOrSp
import Derived.Test.YtheakienigmkhaaOrLw
import Derived.Test.YtheakienigmkhaaPgRight
import Derived.Deep.CutRange
namespace Go.Proofs.Ytheakienigmkhaa
open Go.RowKit

set_option linter.unusedVariables false
set_option maxRecDepth 100000 in
set_option maxHeartbeats 16000000 in
theorem orpacks_walk (v : Value) (p : Pg) (w : World) (h : PgAt w v p) :
    Calls Try.prog 4 #[v] w fun e w' => e = .returned (.bool true) ∧ Below w.heap.size w w' := by
  have HP := hide h
  obtain ⟨ca, cc, oa, oc, rfl, hc, ho⟩ := h
  clear hc ho
  go_enter Try.func4, Try.ntmps4
  go_upto_region 1 with fail
  have hb := below_alloc w (.cells #[.int .i64 p.ins, .int .i64 p.regs, .slice ca p.code.length cc, .slice oa p.outs.length oc] 25)
  have PX := hide (Box4.new w 25 (.int .i64 p.ins) (.int .i64 p.regs) (.slice ca p.code.length cc) (.slice oa p.outs.length oc))
  replace HP := hide (HP.out.below hb)
  have HB := hide hb
  clear hb
  generalize w.alloc (.cells #[.int .i64 p.ins, .int .i64 p.regs, .slice ca p.code.length cc, .slice oa p.outs.length oc] 25) = w1 at *
  obtain ⟨B, hBB⟩ : ∃ B, B = w.heap.size := ⟨_, rfl⟩
  rw [← hBB] at PX ⊢
  have HZ := hide hBB
  clear hBB
  go_wp2_with fail
  refine (lv16_any _).mono ?_
  rintro e w2 ⟨rfl, hb⟩
  replace HP := hide (HP.out.below hb)
  replace PX := hide (PX.out.step hb)
  replace HB := hide (HB.out.trans (hb.mono HB.out.size))
  clear hb
  have c0 := PX.out.cell0
  have c1 := PX.out.cell1
  have c2 := PX.out.cell2
  have c3 := PX.out.cell3
  go_wp2_with fail
  refine (lg16_any _ p _ HP.out).mono ?_
  rintro e w3 ⟨rfl, hb⟩
  replace HP := hide (HP.out.below hb)
  replace PX := hide (PX.out.step hb)
  replace HB := hide (HB.out.trans (hb.mono HB.out.size))
  clear hb
  clear c0 c1 c2 c3
  cases hlg : lg16 p with
  | true =>
    go_wp2
    go_ret
    exact ⟨rfl, HB.out⟩
  | false =>
    have LE : Hid (p.code.length ≤ 40 ∧ p.outs.length ≤ 40) := hide (by unfold lg16 at hlg; simp at hlg; omega)
    clear hlg
    have c0 := PX.out.cell0
    have c1 := PX.out.cell1
    have c2 := PX.out.cell2
    have c3 := PX.out.cell3
    go_wp2_with fail
    refine (rcopy_big _ p _ HP.out ⟨by have := LE.out.1; omega, by have := LE.out.2; omega⟩).mono ?_
    rintro e w4 ⟨⟨vk, rfl, hown⟩, hb⟩
    have hk := hown.at
    obtain ⟨a3, k3, a4, k4, hv, _, _⟩ := id hk
    replace hv : vk = .agg #[.int .i64 p.ins, .int .i64 p.regs, .slice a3 p.code.length k3, .slice a4 p.outs.length k4] := hv
    subst hv
    have HK := hide hk
    clear hown hk
    clear c0 c1 c2 c3
    replace HP := hide (HP.out.below hb)
    replace PX := hide (PX.out.step hb)
    replace HB := hide (HB.out.trans (hb.mono HB.out.size))
    clear hb
    go_upto_region 6 with fail
    have hb := below_alloc w4 (.cells #[.int .i64 p.ins, .int .i64 p.regs, .slice a3 p.code.length k3, .slice a4 p.outs.length k4] 25)
    have KX : Hid (Box4 (w4.alloc (.cells #[.int .i64 p.ins, .int .i64 p.regs, .slice a3 p.code.length k3, .slice a4 p.outs.length k4] 25)) w4.heap.size 25 (.int .i64 p.ins) (.int .i64 p.regs) (.slice a3 p.code.length k3) (.slice a4 p.outs.length k4)) := hide (Box4.new w4 25 _ _ _ _)
    replace HP := hide (HP.out.below hb)
    replace HK := hide (HK.out.below hb)
    replace PX := hide (PX.out.step hb)
    replace HB := hide (HB.out.trans (hb.mono HB.out.size))
    clear hb
    generalize w4.alloc (.cells #[.int .i64 p.ins, .int .i64 p.regs, .slice a3 p.code.length k3, .slice a4 p.outs.length k4] 25) = w5 at *
    generalize w4.heap.size = K at *
    have c0 := PX.out.cell0
    have c1 := PX.out.cell1
    have c2 := PX.out.cell2
    have c3 := PX.out.cell3
    go_wp2_with fail
    refine (orpack_any _ p _ HP.out (fun _ => by have := LE.out.1; omega)).mono ?_
    rintro e w6 ⟨hR, hb⟩
    unfold OrPackR at hR
    clear c0 c1 c2 c3
    cases hr : rightB p with
    | false =>
      rw [hr, if_neg (by decide)] at hR
      subst hR
      have RP := hide hr
      clear hr
      replace HP := hide (HP.out.below hb)
      replace HK := hide (HK.out.below hb)
      replace PX := hide (PX.out.step hb)
      replace KX := hide (KX.out.step hb)
      replace HB := hide (HB.out.trans (hb.mono HB.out.size))
      clear hb
      go_upto_region 7 with fail
      have hb := below_alloc w6 (.cells #[.int .i64 0, .int .i64 0, .slice none 0 0, .slice none 0 0] 25)
      have QX : Hid (Box4 (w6.alloc (.cells #[.int .i64 0, .int .i64 0, .slice none 0 0, .slice none 0 0] 25)) w6.heap.size 25 (.int .i64 0) (.int .i64 0) (.slice none 0 0) (.slice none 0 0)) := hide (Box4.new w6 25 _ _ _ _)
      replace HP := hide (HP.out.below hb)
      replace HK := hide (HK.out.below hb)
      replace PX := hide (PX.out.step hb)
      replace KX := hide (KX.out.step hb)
      replace HB := hide (HB.out.trans (hb.mono HB.out.size))
      clear hb
      generalize w6.alloc (.cells #[.int .i64 0, .int .i64 0, .slice none 0 0, .slice none 0 0] 25) = w7 at *
      generalize w6.heap.size = Q at *
      have c0 := PX.out.cell0
      have c1 := PX.out.cell1
      have c2 := PX.out.cell2
      have c3 := PX.out.cell3
      go_wp2_with fail
      refine (oralive_any _ p _ HP.out (fun _ => by have := LE.out.1; omega)).mono ?_
      rintro e w8 ⟨hA, hb⟩
      unfold OrAlR at hA
      rw [RP.out, if_neg (by decide)] at hA
      subst hA
      clear c0 c1 c2 c3
      replace HP := hide (HP.out.below hb)
      replace PX := hide (PX.out.step hb)
      replace QX := hide (QX.out.step hb)
      replace HB := hide (HB.out.trans (hb.mono HB.out.size))
      clear hb
      have c0 := PX.out.cell0
      have c1 := PX.out.cell1
      have c2 := PX.out.cell2
      have c3 := PX.out.cell3
      go_wp2_with fail
      refine (rright_any _ p _ HP.out).mono ?_
      rintro e w9 ⟨rfl, hb⟩
      rw [RP.out]
      clear c0 c1 c2 c3
      replace HP := hide (HP.out.below hb)
      replace QX := hide (QX.out.step hb)
      replace HB := hide (HB.out.trans (hb.mono HB.out.size))
      clear hb
      have d0 := QX.out.cell0
      have d1 := QX.out.cell1
      have d2 := QX.out.cell2
      have d3 := QX.out.cell3
      go_wp2_with fail
      refine (empty16_zero _).mono ?_
      rintro e w10 ⟨rfl, hb⟩
      clear d0 d1 d2 d3
      replace HB := hide (HB.out.trans (hb.mono HB.out.size))
      clear hb
      go_wp2_with fail
      refine (lv16_any _).mono ?_
      rintro e w11 ⟨rfl, hb⟩
      replace HB := hide (HB.out.trans (hb.mono HB.out.size))
      clear hb
      go_wp2
      go_ret
      exact ⟨by first | rfl | simp, HB.out⟩
    | true =>
      rw [hr, if_pos rfl] at hR
      obtain ⟨vq, rfl, vc, vo, hv, h1, h2⟩ := hR
      have RQ := hide (pk_right hr)
      have AG := hide (pk_again hr)
      have RW := hide (fun v w h => rorpack_any v p w h hr (by have := LE.out.1; omega))
      have RA := hide (fun v w h => roralive_any v p w h hr (by have := LE.out.1; omega))
      have RG := hide (And.intro (pk_fewer hr) (And.intro (pk_regs hr) (And.intro (show (packP p).code.length ≤ p.code.length from psAt_code_le p _) (show (packP p).outs.length = p.outs.length from by show (pkOuts p).length = _; unfold pkOuts; rw [List.length_map]))))
      have RN := hide (fun j hj => pk_needed hr (j := j) hj)
      have RM := hide (mostN_small hr (k := p.code.length) (by have := LE.out.1; omega))
      have RI := hide (show 1 ≤ p.ins ∧ p.ins ≤ p.regs ∧ p.regs ≤ 128 from by have h := right_parts hr; omega)
      have RP := hide hr
      generalize packP p = q at *
      obtain ⟨mo, hmo⟩ : ∃ mo, mo = mostN p p.code.length := ⟨_, rfl⟩
      have MO := hide hmo
      rw [← hmo] at RG RM
      clear hmo
      have h1' : OwnC w6 w5.heap.size vc q.code := h1
      have h2' : OwnO w6 w5.heap.size vo q.outs := h2
      clear h1 h2
      obtain ⟨qa, qc, hqa⟩ := own_slice h1'
      subst hqa
      obtain ⟨ra, rc, hra⟩ := own_slice h2'
      subst hra
      replace hv : vq = .agg #[.int .i64 q.ins, .int .i64 q.regs, .slice qa q.code.length qc, .slice ra q.outs.length rc] := hv
      subst hv
      have OC := hide h1'
      have OO := hide h2'
      have HB0 := hide HB.out
      have HW := hide hb
      clear hr h1' h2' hb HB
      go_upto_region 7 with fail
      have hb := below_alloc w6 (.cells #[.int .i64 q.ins, .int .i64 q.regs, .slice qa q.code.length qc, .slice ra q.outs.length rc] 25)
      have QX : Hid (Box4 (w6.alloc (.cells #[.int .i64 q.ins, .int .i64 q.regs, .slice qa q.code.length qc, .slice ra q.outs.length rc] 25)) w6.heap.size 25 (.int .i64 q.ins) (.int .i64 q.regs) (.slice qa q.code.length qc) (.slice ra q.outs.length rc)) := hide (Box4.new w6 25 _ _ _ _)
      replace OC := hide (own_below OC.out hb)
      replace OO := hide (own_below OO.out hb)
      replace HW := hide (HW.out.trans (hb.mono HW.out.size))
      clear hb
      generalize w6.alloc (.cells #[.int .i64 q.ins, .int .i64 q.regs, .slice qa q.code.length qc, .slice ra q.outs.length rc] 25) = w7 at *
      generalize w6.heap.size = Q at *
      have c0 := (PX.out.step HW.out).cell0
      have c1 := (PX.out.step HW.out).cell1
      have c2 := (PX.out.step HW.out).cell2
      have c3 := (PX.out.step HW.out).cell3
      go_wp2_with fail
      refine (oralive_any _ p _ (HP.out.below HW.out) (fun _ => by have := LE.out.1; omega)).mono ?_
      rintro e w8 ⟨hA, hb⟩
      unfold OrAlR at hA
      rw [RP.out, if_pos rfl, ← MO.out] at hA
      subst hA
      clear c0 c1 c2 c3
      replace OC := hide (own_below OC.out hb)
      replace OO := hide (own_below OO.out hb)
      replace QX := hide (QX.out.step hb)
      replace HW := hide (HW.out.trans (hb.mono HW.out.size))
      clear hb
      have c0 := (PX.out.step HW.out).cell0
      have c1 := (PX.out.step HW.out).cell1
      have c2 := (PX.out.step HW.out).cell2
      have c3 := (PX.out.step HW.out).cell3
      go_wp2_with fail
      refine (rright_any _ p _ (HP.out.below HW.out)).mono ?_
      rintro e w9 ⟨rfl, hb⟩
      rw [RP.out]
      clear c0 c1 c2 c3
      replace OC := hide (own_below OC.out hb)
      replace OO := hide (own_below OO.out hb)
      replace QX := hide (QX.out.step hb)
      replace HW := hide (HW.out.trans (hb.mono HW.out.size))
      clear hb
      obtain ⟨NW, hNW⟩ : ∃ NW, NW = w9.heap.size := ⟨_, rfl⟩
      have QL : Hid ((∀ k, Value.ownBlock (.slice qa q.code.length qc) = some k → k < NW) ∧ (∀ k, Value.ownBlock (.slice ra q.outs.length rc) = some k → k < NW)) := hide (by rw [hNW]; exact ⟨fun k e => (World.ownsRow.lt OC.out k e).2, fun k e => (World.ownsRow.lt OO.out k e).2⟩)
      have c0 := (PX.out.step HW.out).cell0
      have c1 := (PX.out.step HW.out).cell1
      have c2 := (PX.out.step HW.out).cell2
      have c3 := (PX.out.step HW.out).cell3
      go_wp2_with fail
      refine (RW.out _ _ (HP.out.below HW.out)).mono ?_
      rintro e w10 ⟨⟨vw, rfl, hown⟩, hb⟩
      rw [← hNW] at hown
      clear hNW
      obtain ⟨wvc, wvo, hv, g1, g2⟩ := hown
      obtain ⟨wa, wcp, hwa⟩ := own_slice g1
      subst hwa
      obtain ⟨xa, xcp, hxa⟩ := own_slice g2
      subst hxa
      replace hv : vw = .agg #[.int .i64 q.ins, .int .i64 q.regs, .slice wa q.code.length wcp, .slice xa q.outs.length xcp] := hv
      subst hv
      have WC : Hid (OwnC w10 NW (.slice wa q.code.length wcp) q.code) := hide g1
      have WO : Hid (OwnO w10 NW (.slice xa q.outs.length xcp) q.outs) := hide g2
      clear g1 g2
      clear c0 c1 c2 c3
      replace OC := hide (own_below OC.out hb)
      replace OO := hide (own_below OO.out hb)
      replace QX := hide (QX.out.step hb)
      replace HW := hide (HW.out.trans (hb.mono HW.out.size))
      clear hb
      go_upto_region 12 with fail
      have hb := below_alloc w10 (.cells #[.int .i64 q.ins, .int .i64 q.regs, .slice wa q.code.length wcp, .slice xa q.outs.length xcp] 25)
      have WX : Hid (Box4 (w10.alloc (.cells #[.int .i64 q.ins, .int .i64 q.regs, .slice wa q.code.length wcp, .slice xa q.outs.length xcp] 25)) w10.heap.size 25 (.int .i64 q.ins) (.int .i64 q.regs) (.slice wa q.code.length wcp) (.slice xa q.outs.length xcp)) := hide (Box4.new w10 25 _ _ _ _)
      replace OC := hide (own_below OC.out hb)
      replace OO := hide (own_below OO.out hb)
      replace WC := hide (own_below WC.out hb)
      replace WO := hide (own_below WO.out hb)
      replace QX := hide (QX.out.step hb)
      replace HW := hide (HW.out.trans (hb.mono HW.out.size))
      clear hb
      generalize w10.alloc (.cells #[.int .i64 q.ins, .int .i64 q.regs, .slice wa q.code.length wcp, .slice xa q.outs.length xcp] 25) = w11 at *
      generalize w10.heap.size = X at *
      have c0 := (PX.out.step HW.out).cell0
      have c1 := (PX.out.step HW.out).cell1
      have c2 := (PX.out.step HW.out).cell2
      have c3 := (PX.out.step HW.out).cell3
      go_wp2_with fail
      have hh := RA.out _ _ (HP.out.below HW.out)
      rw [← MO.out] at hh
      refine hh.mono ?_
      clear hh
      rintro e w12 ⟨rfl, hb⟩
      clear c0 c1 c2 c3
      replace OC := hide (own_below OC.out hb)
      replace OO := hide (own_below OO.out hb)
      replace WC := hide (own_below WC.out hb)
      replace WO := hide (own_below WO.out hb)
      replace QX := hide (QX.out.step hb)
      replace WX := hide (WX.out.step hb)
      replace HW := hide (HW.out.trans (hb.mono HW.out.size))
      clear hb
      have c0 := QX.out.cell0
      have c1 := QX.out.cell1
      have c2 := QX.out.cell2
      have c3 := QX.out.cell3
      go_wp2_with fail
      refine (rright_any _ q _ (OwnPg.at (p := q) ⟨_, _, rfl, OC.out, OO.out⟩)).mono ?_
      rintro e w13 ⟨rfl, hb⟩
      rw [RQ.out]
      clear c0 c1 c2 c3
      replace OC := hide (own_below OC.out hb)
      replace OO := hide (own_below OO.out hb)
      replace WC := hide (own_below WC.out hb)
      replace WO := hide (own_below WO.out hb)
      replace QX := hide (QX.out.step hb)
      replace WX := hide (WX.out.step hb)
      replace HW := hide (HW.out.trans (hb.mono HW.out.size))
      clear hb
      have c0 := QX.out.cell0
      have c1 := QX.out.cell1
      have c2 := QX.out.cell2
      have c3 := QX.out.cell3
      have d0 := WX.out.cell0
      have d1 := WX.out.cell1
      have d2 := WX.out.cell2
      have d3 := WX.out.cell3
      go_wp2_with fail
      refine (rsame_any _ _ q q _ (OwnPg.at (p := q) ⟨_, _, rfl, OC.out, OO.out⟩) (OwnPg.at (p := q) ⟨_, _, rfl, WC.out, WO.out⟩)).mono ?_
      rintro e w14 ⟨rfl, hb⟩
      rw [eqB_yes rfl]
      clear c0 c1 c2 c3 d0 d1 d2 d3
      replace OC := hide (own_below OC.out hb)
      replace OO := hide (own_below OO.out hb)
      replace WC := hide (own_below WC.out hb)
      replace WO := hide (own_below WO.out hb)
      replace QX := hide (QX.out.step hb)
      replace WX := hide (WX.out.step hb)
      replace HW := hide (HW.out.trans (hb.mono HW.out.size))
      clear hb
      have c0 := (PX.out.step HW.out).cell0
      have c1 := (PX.out.step HW.out).cell1
      have c2 := (PX.out.step HW.out).cell2
      have c3 := (PX.out.step HW.out).cell3
      have d0 := QX.out.cell0
      have d1 := QX.out.cell1
      have d2 := QX.out.cell2
      have d3 := QX.out.cell3
      have rg1 := RG.out.1
      have rg2 := RG.out.2.1
      have rg3 := RG.out.2.2.1
      have rm := RM.out
      have ri := RI.out
      go_upto_region 16 with fail
      go_cut [107] from 15 (fun bv wc => bv = .bool false ∧ wc = w14)
      case first =>
        by_cases h1 : (mo : Int) + 1 < q.regs
        · have h2 : ¬ p.ins + 1 < q.regs := by omega
          have h3 : q.regs ≤ p.ins + 1 := by omega
          go_wp2
          go_meet
          case rel => exact ⟨by first | trivial | rfl | simp [h2], by first | trivial | rfl⟩
        · go_wp2
          go_meet
          case rel => exact ⟨by first | trivial | rfl, by first | trivial | rfl⟩
      case rest =>
        obtain ⟨rfl, rfl⟩ := hcut
        clear c0 c1 c2 c3 d0 d1 d2 d3 rg1 rg2 rg3 rm ri
        have c0 := QX.out.cell0
        have c1 := QX.out.cell1
        have c2 := QX.out.cell2
        have c3 := QX.out.cell3
        go_wp2_with fail
        refine (rneeded_right _ q _ (OwnPg.at (p := q) ⟨_, _, rfl, OC.out, OO.out⟩) RQ.out).mono ?_
        rintro e w15 ⟨gq, rfl, hn, hb⟩
        clear c0 c1 c2 c3
        have NQ := hide hn
        clear hn
        replace OC := hide (own_below OC.out hb)
        replace OO := hide (own_below OO.out hb)
        replace WC := hide (own_below WC.out hb)
        replace WO := hide (own_below WO.out hb)
        replace QX := hide (QX.out.step hb)
        replace WX := hide (WX.out.step hb)
        replace HW := hide (HW.out.trans (hb.mono HW.out.size))
        clear hb
        have QN : Hid (q.code.length ≤ 16384) := hide (right_parts RQ.out).2.2.2.1
        go_wp2
        go_loopw [2, 13] (fun _ kv wr => ∃ k : Nat, k ≤ q.code.length ∧ kv = .int .i64 (k : Nat) ∧ w15 = wr) (fun _ kv _ => q.code.length - (intOf kv).toNat)
        case atStart => exact ⟨0, Nat.zero_le _, rfl, rfl⟩
        case round =>
          obtain ⟨k, hk, rfl, rfl⟩ := hrel
          have qn := QN.out
          by_cases hlt : k < q.code.length
          · have kn := OwnB.cell NQ.out (k := k) (by rw [ndL_lengthO]; exact hlt)
            rw [RN.out k hlt] at kn
            go_wp2
            go_roundw
            case rel => exact ⟨k + 1, by omega, by go_num, by first | trivial | rfl⟩
            case measure => simp [intOf]; omega
          · have e : k = q.code.length := by omega
            subst e
            have c0 := QX.out.cell0
            have c1 := QX.out.cell1
            have c2 := QX.out.cell2
            have c3 := QX.out.cell3
            obtain ⟨NY, hNY⟩ : ∃ NY, NY = w15.heap.size := ⟨_, rfl⟩
            have QL2 : Hid ((∀ k, Value.ownBlock (.slice qa q.code.length qc) = some k → k < NY) ∧ (∀ k, Value.ownBlock (.slice ra q.outs.length rc) = some k → k < NY)) := hide (by rw [hNY]; exact ⟨fun k e => (World.ownsRow.lt OC.out k e).2, fun k e => (World.ownsRow.lt OO.out k e).2⟩)
            go_wp2_with fail
            refine (orpack_any _ q _ (OwnPg.at (p := q) ⟨_, _, rfl, OC.out, OO.out⟩) (fun _ => by have := RG.out.2.2.1; have := LE.out.1; omega)).mono ?_
            rintro e w16 ⟨hR, hb⟩
            unfold OrPackR at hR
            rw [RQ.out, if_pos rfl, AG.out, ← hNY] at hR
            clear hNY
            obtain ⟨vy, rfl, yvc, yvo, hv, g1, g2⟩ := hR
            obtain ⟨ya, yc, hya⟩ := own_slice g1
            subst hya
            obtain ⟨za, zc, hza⟩ := own_slice g2
            subst hza
            replace hv : vy = .agg #[.int .i64 q.ins, .int .i64 q.regs, .slice ya q.code.length yc, .slice za q.outs.length zc] := hv
            subst hv
            have YC : Hid (OwnC w16 NY (.slice ya q.code.length yc) q.code) := hide g1
            have YO : Hid (OwnO w16 NY (.slice za q.outs.length zc) q.outs) := hide g2
            clear g1 g2
            clear c0 c1 c2 c3
            replace OC := hide (own_below OC.out hb)
            replace OO := hide (own_below OO.out hb)
            replace WC := hide (own_below WC.out hb)
            replace WO := hide (own_below WO.out hb)
            replace QX := hide (QX.out.step hb)
            replace WX := hide (WX.out.step hb)
            replace HW := hide (HW.out.trans (hb.mono HW.out.size))
            clear hb
            go_upto_region 25 with fail
            have hb := below_alloc w16 (.cells #[.int .i64 q.ins, .int .i64 q.regs, .slice ya q.code.length yc, .slice za q.outs.length zc] 25)
            have YX : Hid (Box4 (w16.alloc (.cells #[.int .i64 q.ins, .int .i64 q.regs, .slice ya q.code.length yc, .slice za q.outs.length zc] 25)) w16.heap.size 25 (.int .i64 q.ins) (.int .i64 q.regs) (.slice ya q.code.length yc) (.slice za q.outs.length zc)) := hide (Box4.new w16 25 _ _ _ _)
            replace OC := hide (own_below OC.out hb)
            replace OO := hide (own_below OO.out hb)
            replace WC := hide (own_below WC.out hb)
            replace WO := hide (own_below WO.out hb)
            replace YC := hide (own_below YC.out hb)
            replace YO := hide (own_below YO.out hb)
            replace QX := hide (QX.out.step hb)
            replace WX := hide (WX.out.step hb)
            replace HW := hide (HW.out.trans (hb.mono HW.out.size))
            clear hb
            generalize w16.alloc (.cells #[.int .i64 q.ins, .int .i64 q.regs, .slice ya q.code.length yc, .slice za q.outs.length zc] 25) = w17 at *
            generalize w16.heap.size = Y at *
            have c0 := QX.out.cell0
            have c1 := QX.out.cell1
            have c2 := QX.out.cell2
            have c3 := QX.out.cell3
            go_wp2_with fail
            refine (spoil_any _ q w5.heap.size _ _ _ rfl OC.out OO.out HW.out.size).mono ?_
            rintro e w18 ⟨rfl, hs⟩
            have SS := hide hs
            clear hs
            clear c0 c1 c2 c3
            replace WX := hide (SS.out.box WX.out OC.out OO.out (by decide) (by decide))
            replace YX := hide (SS.out.box YX.out OC.out OO.out (by decide) (by decide))
            replace WC : Hid (OwnC w18 NW (.slice wa q.code.length wcp) q.code) := hide (SS.out.own WC.out QL.out.1 QL.out.2)
            replace WO : Hid (OwnO w18 NW (.slice xa q.outs.length xcp) q.outs) := hide (SS.out.own WO.out QL.out.1 QL.out.2)
            replace YC : Hid (OwnC w18 NY (.slice ya q.code.length yc) q.code) := hide (SS.out.own YC.out QL2.out.1 QL2.out.2)
            replace YO : Hid (OwnO w18 NY (.slice za q.outs.length zc) q.outs) := hide (SS.out.own YO.out QL2.out.1 QL2.out.2)
            replace HW := hide (HW.out.trans SS.out.bel)
            clear OC OO QX SS
            have c0 := YX.out.cell0
            have c1 := YX.out.cell1
            have c2 := YX.out.cell2
            have c3 := YX.out.cell3
            have d0 := WX.out.cell0
            have d1 := WX.out.cell1
            have d2 := WX.out.cell2
            have d3 := WX.out.cell3
            go_wp2_with fail
            refine (rsame_any _ _ q q _ (OwnPg.at (p := q) ⟨_, _, rfl, YC.out, YO.out⟩) (OwnPg.at (p := q) ⟨_, _, rfl, WC.out, WO.out⟩)).mono ?_
            rintro e w19 ⟨rfl, hb⟩
            rw [eqB_yes rfl]
            clear c0 c1 c2 c3 d0 d1 d2 d3
            replace HW := hide (HW.out.trans (hb.mono HW.out.size))
            clear hb
            have c0 := (PX.out.step HW.out).cell0
            have c1 := (PX.out.step HW.out).cell1
            have c2 := (PX.out.step HW.out).cell2
            have c3 := (PX.out.step HW.out).cell3
            have d0 := (KX.out.step HW.out).cell0
            have d1 := (KX.out.step HW.out).cell1
            have d2 := (KX.out.step HW.out).cell2
            have d3 := (KX.out.step HW.out).cell3
            go_wp2_with fail
            refine (rsame_any _ _ p p _ (HP.out.below HW.out) (HK.out.below HW.out)).mono ?_
            rintro e w20 ⟨rfl, hb⟩
            rw [eqB_yes rfl]
            clear c0 c1 c2 c3 d0 d1 d2 d3
            replace HW := hide (HW.out.trans (hb.mono HW.out.size))
            clear hb
            go_wp2
            go_ret
            exact ⟨rfl, HB0.out.trans (HW.out.mono HB0.out.size)⟩
end Go.Proofs.Ytheakienigmkhaa
