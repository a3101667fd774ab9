/- swagelaw14.SharePass answers true at all programs, and turns nothing that was there. -/
import Derived.Test.YtcciojlbfaanmaaShRp
import Derived.Test.YtcciojlbfaanmaaShLw
import Derived.Test.YtcciojlbfaanmaaPgRowW
namespace Go.Proofs.Ytcciojlbfaanmaa
open Go.RowKit

set_option maxRecDepth 100000 in
set_option linter.unusedVariables false
set_option maxHeartbeats 16000000 in
theorem shpass_walk (v : Value) (p : Pg) (w : World) (h : PgAt w v p) :
    Calls Try.prog 3 #[v] w fun e w' => e = .returned (.bool true) ∧ Below w.heap.size w w' := by
  have HP := hide h
  obtain ⟨ca, cc, oa, oc, rfl, hc, ho⟩ := h
  clear hc ho
  go_enter Try.func3, Try.ntmps3
  go_upto_region 1 with fail
  have hb := below_alloc w (.cells #[.int .i64 p.ins, .int .i64 p.regs, .slice ca p.code.length cc, .slice oa p.outs.length oc] 25)
  have PX := hide (Box4.new w 25 (.int .i64 p.ins) (.int .i64 p.regs) (.slice ca p.code.length cc) (.slice oa p.outs.length oc))
  replace HP := hide (HP.out.below hb)
  have HB := hide hb
  clear hb
  generalize w.alloc (.cells #[.int .i64 p.ins, .int .i64 p.regs, .slice ca p.code.length cc, .slice oa p.outs.length oc] 25) = w1 at *
  obtain ⟨B, hBB⟩ : ∃ B, B = w.heap.size := ⟨_, rfl⟩
  rw [← hBB] at PX ⊢
  have HZ := hide hBB
  clear hBB
  go_wp2_with fail
  refine (lv_any _).mono ?_
  rintro e w2 ⟨rfl, hb⟩
  replace HP := hide (HP.out.below hb)
  replace PX := hide (PX.out.step hb)
  replace HB := hide (HB.out.trans (hb.mono HB.out.size))
  clear hb
  have c0 := PX.out.cell0
  have c1 := PX.out.cell1
  have c2 := PX.out.cell2
  have c3 := PX.out.cell3
  go_wp2_with fail
  refine (lg14_any _ p _ HP.out).mono ?_
  rintro e w3 ⟨rfl, hb⟩
  replace HP := hide (HP.out.below hb)
  replace PX := hide (PX.out.step hb)
  replace HB := hide (HB.out.trans (hb.mono HB.out.size))
  clear hb
  clear c0 c1 c2 c3
  cases hlg : lg14 p with
  | true =>
    go_wp2
    go_ret
    exact ⟨rfl, HB.out⟩
  | false =>
    have LE : Hid (p.code.length ≤ 150 ∧ p.outs.length ≤ 150) := hide (by unfold lg14 at hlg; simp at hlg; omega)
    clear hlg
    have c0 := PX.out.cell0
    have c1 := PX.out.cell1
    have c2 := PX.out.cell2
    have c3 := PX.out.cell3
    go_wp2_with fail
    refine (rcopy_big _ p _ HP.out ⟨by have := LE.out.1; omega, by have := LE.out.2; omega⟩).mono ?_
    rintro e w4 ⟨⟨vk, rfl, hown⟩, hb⟩
    have hk := hown.at
    obtain ⟨a3, k3, a4, k4, hv, _, _⟩ := id hk
    replace hv : vk = .agg #[.int .i64 p.ins, .int .i64 p.regs, .slice a3 p.code.length k3, .slice a4 p.outs.length k4] := hv
    subst hv
    have HK := hide hk
    clear hown hk
    clear c0 c1 c2 c3
    replace HP := hide (HP.out.below hb)
    replace PX := hide (PX.out.step hb)
    replace HB := hide (HB.out.trans (hb.mono HB.out.size))
    clear hb
    go_upto_region 6 with fail
    have hb := below_alloc w4 (.cells #[.int .i64 p.ins, .int .i64 p.regs, .slice a3 p.code.length k3, .slice a4 p.outs.length k4] 25)
    have KX : Hid (Box4 (w4.alloc (.cells #[.int .i64 p.ins, .int .i64 p.regs, .slice a3 p.code.length k3, .slice a4 p.outs.length k4] 25)) w4.heap.size 25 (.int .i64 p.ins) (.int .i64 p.regs) (.slice a3 p.code.length k3) (.slice a4 p.outs.length k4)) := hide (Box4.new w4 25 _ _ _ _)
    replace HP := hide (HP.out.below hb)
    replace HK := hide (HK.out.below hb)
    replace PX := hide (PX.out.step hb)
    replace HB := hide (HB.out.trans (hb.mono HB.out.size))
    clear hb
    generalize w4.alloc (.cells #[.int .i64 p.ins, .int .i64 p.regs, .slice a3 p.code.length k3, .slice a4 p.outs.length k4] 25) = w5 at *
    generalize w4.heap.size = K at *
    have c0 := PX.out.cell0
    have c1 := PX.out.cell1
    have c2 := PX.out.cell2
    have c3 := PX.out.cell3
    go_wp2_with fail
    refine (spass_any _ p _ HP.out).mono ?_
    rintro e w6 ⟨hR, hb⟩
    unfold ShPassR at hR
    clear c0 c1 c2 c3
    cases hr : rightB p with
    | false =>
      rw [hr, if_neg (by decide)] at hR
      subst hR
      have RP := hide hr
      clear hr
      replace HP := hide (HP.out.below hb)
      replace HK := hide (HK.out.below hb)
      replace PX := hide (PX.out.step hb)
      replace KX := hide (KX.out.step hb)
      replace HB := hide (HB.out.trans (hb.mono HB.out.size))
      clear hb
      go_upto_region 7 with fail
      have hb := below_alloc w6 (.cells #[.int .i64 0, .int .i64 0, .slice none 0 0, .slice none 0 0] 25)
      have QX : Hid (Box4 (w6.alloc (.cells #[.int .i64 0, .int .i64 0, .slice none 0 0, .slice none 0 0] 25)) w6.heap.size 25 (.int .i64 0) (.int .i64 0) (.slice none 0 0) (.slice none 0 0)) := hide (Box4.new w6 25 _ _ _ _)
      replace HP := hide (HP.out.below hb)
      replace HK := hide (HK.out.below hb)
      replace PX := hide (PX.out.step hb)
      replace KX := hide (KX.out.step hb)
      replace HB := hide (HB.out.trans (hb.mono HB.out.size))
      clear hb
      generalize w6.alloc (.cells #[.int .i64 0, .int .i64 0, .slice none 0 0, .slice none 0 0] 25) = w7 at *
      generalize w6.heap.size = Q at *
      have c0 := PX.out.cell0
      have c1 := PX.out.cell1
      have c2 := PX.out.cell2
      have c3 := PX.out.cell3
      go_wp2_with fail
      refine (rright_any _ p _ HP.out).mono ?_
      rintro e w9 ⟨rfl, hb⟩
      rw [RP.out]
      clear c0 c1 c2 c3
      replace HP := hide (HP.out.below hb)
      replace QX := hide (QX.out.step hb)
      replace HB := hide (HB.out.trans (hb.mono HB.out.size))
      clear hb
      have d0 := QX.out.cell0
      have d1 := QX.out.cell1
      have d2 := QX.out.cell2
      have d3 := QX.out.cell3
      go_wp2_with fail
      refine (empty14_zero _).mono ?_
      rintro e w10 ⟨rfl, hb⟩
      clear d0 d1 d2 d3
      replace HB := hide (HB.out.trans (hb.mono HB.out.size))
      clear hb
      go_wp2_with fail
      refine (lv_any _).mono ?_
      rintro e w11 ⟨rfl, hb⟩
      replace HB := hide (HB.out.trans (hb.mono HB.out.size))
      clear hb
      go_wp2
      go_ret
      exact ⟨by first | rfl | simp, HB.out⟩
    | true =>
      rw [hr, if_pos rfl] at hR
      obtain ⟨vq, rfl, vc, vo, hv, h1, h2⟩ := hR
      have RQ := hide (sh_right hr)
      have AG := hide (sh_again hr)
      have RW := hide (fun v w h => rspass_any v p w h hr)
      have RP := hide hr
      generalize shP p = q at *
      have h1' : OwnC w6 w5.heap.size vc q.code := h1
      have h2' : OwnO w6 w5.heap.size vo q.outs := h2
      clear h1 h2
      obtain ⟨qa, qc, hqa⟩ := own_slice h1'
      subst hqa
      obtain ⟨ra, rc, hra⟩ := own_slice h2'
      subst hra
      replace hv : vq = .agg #[.int .i64 q.ins, .int .i64 q.regs, .slice qa q.code.length qc, .slice ra q.outs.length rc] := hv
      subst hv
      have OC := hide h1'
      have OO := hide h2'
      have HB0 := hide HB.out
      have HW := hide hb
      clear hr h1' h2' hb HB
      go_upto_region 7 with fail
      have hb := below_alloc w6 (.cells #[.int .i64 q.ins, .int .i64 q.regs, .slice qa q.code.length qc, .slice ra q.outs.length rc] 25)
      have QX : Hid (Box4 (w6.alloc (.cells #[.int .i64 q.ins, .int .i64 q.regs, .slice qa q.code.length qc, .slice ra q.outs.length rc] 25)) w6.heap.size 25 (.int .i64 q.ins) (.int .i64 q.regs) (.slice qa q.code.length qc) (.slice ra q.outs.length rc)) := hide (Box4.new w6 25 _ _ _ _)
      replace OC := hide (own_below OC.out hb)
      replace OO := hide (own_below OO.out hb)
      replace HW := hide (HW.out.trans (hb.mono HW.out.size))
      clear hb
      generalize w6.alloc (.cells #[.int .i64 q.ins, .int .i64 q.regs, .slice qa q.code.length qc, .slice ra q.outs.length rc] 25) = w7 at *
      generalize w6.heap.size = Q at *
      have c0 := (PX.out.step HW.out).cell0
      have c1 := (PX.out.step HW.out).cell1
      have c2 := (PX.out.step HW.out).cell2
      have c3 := (PX.out.step HW.out).cell3
      go_wp2_with fail
      refine (rright_any _ p _ (HP.out.below HW.out)).mono ?_
      rintro e w9 ⟨rfl, hb⟩
      rw [RP.out]
      clear c0 c1 c2 c3
      replace OC := hide (own_below OC.out hb)
      replace OO := hide (own_below OO.out hb)
      replace QX := hide (QX.out.step hb)
      replace HW := hide (HW.out.trans (hb.mono HW.out.size))
      clear hb
      have c0 := (PX.out.step HW.out).cell0
      have c1 := (PX.out.step HW.out).cell1
      have c2 := (PX.out.step HW.out).cell2
      have c3 := (PX.out.step HW.out).cell3
      go_wp2_with fail
      refine (RW.out _ _ (HP.out.below HW.out)).mono ?_
      rintro e w10 ⟨⟨vw, rfl, hown⟩, hb⟩
      have hk := hown.at
      obtain ⟨wa, wc, xa, xc, hv, _, _⟩ := id hk
      replace hv : vw = .agg #[.int .i64 q.ins, .int .i64 q.regs, .slice wa q.code.length wc, .slice xa q.outs.length xc] := hv
      subst hv
      have HT := hide hk
      clear hown hk
      clear c0 c1 c2 c3
      replace OC := hide (own_below OC.out hb)
      replace OO := hide (own_below OO.out hb)
      replace QX := hide (QX.out.step hb)
      replace HW := hide (HW.out.trans (hb.mono HW.out.size))
      clear hb
      go_upto_region 11 with fail
      have hb := below_alloc w10 (.cells #[.int .i64 q.ins, .int .i64 q.regs, .slice wa q.code.length wc, .slice xa q.outs.length xc] 25)
      have WX : Hid (Box4 (w10.alloc (.cells #[.int .i64 q.ins, .int .i64 q.regs, .slice wa q.code.length wc, .slice xa q.outs.length xc] 25)) w10.heap.size 25 (.int .i64 q.ins) (.int .i64 q.regs) (.slice wa q.code.length wc) (.slice xa q.outs.length xc)) := hide (Box4.new w10 25 _ _ _ _)
      replace HT := hide (HT.out.below hb)
      replace OC := hide (own_below OC.out hb)
      replace OO := hide (own_below OO.out hb)
      replace QX := hide (QX.out.step hb)
      replace HW := hide (HW.out.trans (hb.mono HW.out.size))
      clear hb
      generalize w10.alloc (.cells #[.int .i64 q.ins, .int .i64 q.regs, .slice wa q.code.length wc, .slice xa q.outs.length xc] 25) = w11 at *
      generalize w10.heap.size = X at *
      have c0 := QX.out.cell0
      have c1 := QX.out.cell1
      have c2 := QX.out.cell2
      have c3 := QX.out.cell3
      have d0 := WX.out.cell0
      have d1 := WX.out.cell1
      have d2 := WX.out.cell2
      have d3 := WX.out.cell3
      go_wp2_with fail
      refine (rsame_any _ _ q q _ (OwnPg.at (p := q) ⟨_, _, rfl, OC.out, OO.out⟩) HT.out).mono ?_
      rintro e w12 ⟨rfl, hb⟩
      rw [eqB_yes rfl]
      clear c0 c1 c2 c3 d0 d1 d2 d3
      replace HT := hide (HT.out.below hb)
      replace OC := hide (own_below OC.out hb)
      replace OO := hide (own_below OO.out hb)
      replace QX := hide (QX.out.step hb)
      replace WX := hide (WX.out.step hb)
      replace HW := hide (HW.out.trans (hb.mono HW.out.size))
      clear hb
      go_wp2_with fail
      refine (lv_any _).mono ?_
      rintro e w13 ⟨rfl, hb⟩
      replace HT := hide (HT.out.below hb)
      replace OC := hide (own_below OC.out hb)
      replace OO := hide (own_below OO.out hb)
      replace QX := hide (QX.out.step hb)
      replace WX := hide (WX.out.step hb)
      replace HW := hide (HW.out.trans (hb.mono HW.out.size))
      clear hb
      have c0 := QX.out.cell0
      have c1 := QX.out.cell1
      have c2 := QX.out.cell2
      have c3 := QX.out.cell3
      go_wp2_with fail
      refine (spass_any _ q _ (OwnPg.at (p := q) ⟨_, _, rfl, OC.out, OO.out⟩)).mono ?_
      rintro e w14 ⟨hR, hb⟩
      unfold ShPassR at hR
      rw [RQ.out, if_pos rfl, AG.out] at hR
      obtain ⟨vy, rfl, hown⟩ := hR
      have hk := hown.at
      obtain ⟨ya, yc, za, zc, hv, _, _⟩ := id hk
      replace hv : vy = .agg #[.int .i64 q.ins, .int .i64 q.regs, .slice ya q.code.length yc, .slice za q.outs.length zc] := hv
      subst hv
      have HY := hide hk
      clear hown hk
      clear c0 c1 c2 c3
      replace HT := hide (HT.out.below hb)
      replace OC := hide (own_below OC.out hb)
      replace OO := hide (own_below OO.out hb)
      replace QX := hide (QX.out.step hb)
      replace WX := hide (WX.out.step hb)
      replace HW := hide (HW.out.trans (hb.mono HW.out.size))
      clear hb
      go_upto_region 14 with fail
      have hb := below_alloc w14 (.cells #[.int .i64 q.ins, .int .i64 q.regs, .slice ya q.code.length yc, .slice za q.outs.length zc] 25)
      have YX : Hid (Box4 (w14.alloc (.cells #[.int .i64 q.ins, .int .i64 q.regs, .slice ya q.code.length yc, .slice za q.outs.length zc] 25)) w14.heap.size 25 (.int .i64 q.ins) (.int .i64 q.regs) (.slice ya q.code.length yc) (.slice za q.outs.length zc)) := hide (Box4.new w14 25 _ _ _ _)
      replace HT := hide (HT.out.below hb)
      replace HY := hide (HY.out.below hb)
      replace OC := hide (own_below OC.out hb)
      replace OO := hide (own_below OO.out hb)
      replace QX := hide (QX.out.step hb)
      replace WX := hide (WX.out.step hb)
      replace HW := hide (HW.out.trans (hb.mono HW.out.size))
      clear hb
      generalize w14.alloc (.cells #[.int .i64 q.ins, .int .i64 q.regs, .slice ya q.code.length yc, .slice za q.outs.length zc] 25) = w15 at *
      generalize w14.heap.size = Y at *
      have c0 := YX.out.cell0
      have c1 := YX.out.cell1
      have c2 := YX.out.cell2
      have c3 := YX.out.cell3
      have d0 := WX.out.cell0
      have d1 := WX.out.cell1
      have d2 := WX.out.cell2
      have d3 := WX.out.cell3
      go_wp2_with fail
      refine (rsame_any _ _ q q _ HY.out HT.out).mono ?_
      rintro e w16 ⟨rfl, hb⟩
      rw [eqB_yes rfl]
      clear c0 c1 c2 c3 d0 d1 d2 d3
      replace OC := hide (own_below OC.out hb)
      replace OO := hide (own_below OO.out hb)
      replace QX := hide (QX.out.step hb)
      replace HW := hide (HW.out.trans (hb.mono HW.out.size))
      clear hb
      clear HT HY WX YX
      have d0 := QX.out.cell0
      have d1 := QX.out.cell1
      have d2 := QX.out.cell2
      have d3 := QX.out.cell3
      go_upto_region 16 with fail
      go_quiet (fail)
      have RS : Hid (RowW (w16.drewN nq) w5.heap.size 34 5 (.slice qa qc qc) qc ∧ RowW (w16.drewN nq) w5.heap.size 3 1 (.slice ra rc rc) rc) := hide ⟨(own_cap OC.out).alloc (below_drewN (Below.refl _ _) _), (own_cap OO.out).alloc (below_drewN (Below.refl _ _) _)⟩
      replace HW := hide (below_drewN HW.out nq)
      clear d0 d1 d2 d3 QX OC OO
      generalize w16.drewN nq = w17 at *
      have M5 := hide (row_max RS.out.1)
      have M6 := hide (row_max RS.out.2)
      go_upto_region 18 with fail
      have m5 := M5.out
      go_loopw [12] (fun kv wr => ∃ k : Nat, k ≤ qc ∧ kv = .int .i64 k ∧ Below w5.heap.size w5 wr ∧ RowW wr w5.heap.size 34 5 (.slice qa qc qc) qc ∧ RowW wr w5.heap.size 3 1 (.slice ra rc rc) rc) (fun kv _ => qc - (intOf kv).toNat)
      case atStart => exact ⟨0, Nat.zero_le _, rfl, HW.out, RS.out⟩
      case round =>
        clear HW RS
        obtain ⟨k, hk, rfl, hwr, hrs⟩ := hrel
        have HW := hide hwr
        have RS := hide hrs
        clear hwr hrs
        by_cases hlt : k < qc
        · obtain ⟨g, rfl⟩ := row_some RS.out.1 (by omega)
          obtain ⟨⟨z0, e0⟩, f0⟩ := row_cell RS.out.1 (j := k * 5) (by omega)
          obtain ⟨⟨z1, e1⟩, f1⟩ := row_cell RS.out.1 (j := k * 5 + 1) (by omega)
          obtain ⟨⟨z2, e2⟩, f2⟩ := row_cell RS.out.1 (j := k * 5 + 2) (by omega)
          obtain ⟨⟨z3, e3⟩, f3⟩ := row_cell RS.out.1 (j := k * 5 + 3) (by omega)
          obtain ⟨⟨z4, e4⟩, f4⟩ := row_cell RS.out.1 (j := k * 5 + 4) (by omega)
          have GE := hide (row_block RS.out.1).1
          go_wp2
          go_roundw
          case rel =>
            refine ⟨k + 1, by omega, by go_num, ?_, ?_⟩
            · exact ((((HW.out.setCell (p := ⟨g, _, none⟩) GE.out _).setCell (p := ⟨g, _, none⟩) GE.out _).setCell (p := ⟨g, _, none⟩) GE.out _).setCell (p := ⟨g, _, none⟩) GE.out _).setCell (p := ⟨g, _, none⟩) GE.out _
            · exact rows_set (rows_set (rows_set (rows_set (rows_set RS.out (by decide) _ _) (by decide) _ _) (by decide) _ _) (by decide) _ _) (by decide) _ _
          case measure => simp [intOf]; omega
        · have e : k = qc := by omega
          subst e
          go_upto_region 22 with fail
          clear m5
          have m6 := M6.out
          go_loopw [13] (fun kv wr => ∃ k : Nat, k ≤ rc ∧ kv = .int .i64 k ∧ Below w5.heap.size w5 wr ∧ RowW wr w5.heap.size 3 1 (.slice ra rc rc) rc) (fun kv _ => rc - (intOf kv).toNat)
          case atStart => exact ⟨0, Nat.zero_le _, rfl, HW.out, RS.out.2⟩
          case round =>
            clear HW RS
            obtain ⟨k, hk, rfl, hwr, hrs⟩ := hrel
            have HW := hide hwr
            have RS := hide hrs
            clear hwr hrs
            by_cases hlt : k < rc
            · obtain ⟨g, rfl⟩ := row_some RS.out (by omega)
              obtain ⟨⟨z0, e0⟩, f0⟩ := row_cell RS.out (j := k) (by omega)
              have GE := hide (row_block RS.out).1
              go_wp2
              go_roundw
              case rel => exact ⟨k + 1, by omega, by go_num, HW.out.setCell (p := ⟨g, _, none⟩) GE.out _, row_set RS.out _ _⟩
              case measure => simp [intOf]; omega
            · have e : k = rc := by omega
              subst e
              have PX' := hide (PX.out.step HW.out)
              have KX' := hide (KX.out.step HW.out)
              have c0 := PX'.out.cell0
              have c1 := PX'.out.cell1
              have c2 := PX'.out.cell2
              have c3 := PX'.out.cell3
              have g0 := KX'.out.cell0
              have g1 := KX'.out.cell1
              have g2 := KX'.out.cell2
              have g3 := KX'.out.cell3
              go_wp2_with fail
              refine (rsame_any _ _ p p _ (HP.out.below HW.out) (HK.out.below HW.out)).mono ?_
              rintro e w18 ⟨rfl, hb⟩
              rw [eqB_yes rfl]
              replace HW := hide (HW.out.trans (hb.mono HW.out.size))
              clear hb c0 c1 c2 c3 g0 g1 g2 g3
              go_wp2
              go_ret
              exact ⟨rfl, HB0.out.trans (HW.out.mono HB0.out.size)⟩
end Go.Proofs.Ytcciojlbfaanmaa
