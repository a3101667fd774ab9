/- swagelaw13.FoldAgain answers true at all programs, and turns nothing that was there. -/
import Derived.Test.YtokgdegfcncahaaDoorFoA
import Derived.Test.YtokgdegfcncahaaDoorFoWk
namespace Go.Proofs.YtokgdegfcncahaaDoor
open Go.RowKit

structure AS (w : World) (B Q : Nat) (p : Pg) (ca oa qa ra : Option Addr) (cc oc qc rc : Nat) (wr : World) : Prop where
  bel : Below w.heap.size w wr
  px : Box4 wr B 36 (.int .i64 p.ins) (.int .i64 p.regs) (.slice ca p.code.length cc) (.slice oa p.outs.length oc)
  qx : Box4 wr Q 36 (.int .i64 p.ins) (.int .i64 p.regs) (.slice qa (fold p.code).length qc) (.slice ra p.outs.length rc)
  hp : PgAt wr (.agg #[.int .i64 p.ins, .int .i64 p.regs, .slice ca p.code.length cc, .slice oa p.outs.length oc]) p
  hq : PgAt wr (.agg #[.int .i64 p.ins, .int .i64 p.regs, .slice qa (fold p.code).length qc, .slice ra p.outs.length rc]) (pasP p)
theorem AS.step {w wr w' : World} {B Q : Nat} {p : Pg} {ca oa qa ra : Option Addr} {cc oc qc rc : Nat} (h : AS w B Q p ca oa qa ra cc oc qc rc wr) (hb : Below wr.heap.size wr w') : AS w B Q p ca oa qa ra cc oc qc rc w' :=
  ⟨h.bel.trans (hb.mono h.bel.size), h.px.step hb, h.qx.step hb, h.hp.below hb, h.hq.below hb⟩
theorem pgAt_code {w : World} {a b c d : Value} {p : Pg} (h : PgAt w (.agg #[a, b, c, d]) p) : CodeAt w c p.code := by
  obtain ⟨ca, cc, oa, oc, hv, hc, _⟩ := h
  simp only [Value.agg.injEq, Array.mk.injEq, List.cons.injEq, and_true] at hv
  rw [hv.2.2.1]
  exact hc
theorem plE_own {i : Ins} (hm : mayB i 128 = true) (h : plI i = i) : plE i = .returned (.tuple #[.agg #[.int .i64 i.op, .int .i64 i.to, .int .i64 i.a, .int .i64 i.b, .int .i64 i.c], .bool false]) := by
  unfold plE plV plT
  rw [hm, if_pos rfl, h, eqI_yes rfl]
  rfl
theorem meT_none {i j : Ins} (h : meI i j = none) : meT i j = none := by unfold meT; rw [h]; split <;> rfl
set_option maxRecDepth 100000 in
set_option maxHeartbeats 16000000 in
theorem fagain_walk (v : Value) (p : Pg) (w : World) (h : PgAt w v p) (hT : TabW64 w) :
    Calls Tryd.prog 6 #[v] w fun e w' => e = .returned (.bool true) ∧ Below w.heap.size w w' := by
  have HP := hide h
  have HT0 := hide hT
  obtain ⟨ca, cc, oa, oc, rfl, hc, ho⟩ := h
  clear hc ho hT
  go_enter Tryd.func6, Tryd.ntmps6
  go_upto_region 1 with fail
  have hb := below_alloc w (.cells #[.int .i64 p.ins, .int .i64 p.regs, .slice ca p.code.length cc, .slice oa p.outs.length oc] 36)
  have PX := hide (Box4.new w 36 (.int .i64 p.ins) (.int .i64 p.regs) (.slice ca p.code.length cc) (.slice oa p.outs.length oc))
  replace HP := hide (HP.out.below hb)
  have HB := hide hb
  clear hb
  generalize w.alloc (.cells #[.int .i64 p.ins, .int .i64 p.regs, .slice ca p.code.length cc, .slice oa p.outs.length oc] 36) = w1 at *
  obtain ⟨B, hBB⟩ : ∃ B, B = w.heap.size := ⟨_, rfl⟩
  rw [← hBB] at PX ⊢
  have HZ := hide hBB
  clear hBB
  go_wp2_with fail
  refine (works_any _ (HT0.out.below HB.out)).mono ?_
  rintro e w2 ⟨rfl, hb⟩
  replace HP := hide (HP.out.below hb)
  replace PX := hide (PX.out.step hb)
  replace HB := hide (HB.out.trans (hb.mono HB.out.size))
  clear hb
  have c0 := PX.out.cell0
  have c1 := PX.out.cell1
  have c2 := PX.out.cell2
  have c3 := PX.out.cell3
  go_wp2_with fail
  refine (lg_any _ p _ HP.out).mono ?_
  rintro e w3 ⟨rfl, hb⟩
  replace HP := hide (HP.out.below hb)
  replace PX := hide (PX.out.step hb)
  replace HB := hide (HB.out.trans (hb.mono HB.out.size))
  clear hb
  clear c0 c1 c2 c3
  cases hlg : lgB p with
  | true =>
    go_wp2
    go_ret
    exact ⟨rfl, HB.out⟩
  | false =>
    clear hlg
    have c0 := PX.out.cell0
    have c1 := PX.out.cell1
    have c2 := PX.out.cell2
    have c3 := PX.out.cell3
    go_wp2_with fail
    refine (pass_any _ p _ HP.out (HT0.out.below HB.out)).mono ?_
    rintro e w4 ⟨hR, hb⟩
    unfold PassR at hR
    replace HP := hide (HP.out.below hb)
    replace PX := hide (PX.out.step hb)
    replace HB := hide (HB.out.trans (hb.mono HB.out.size))
    clear hb
    clear c0 c1 c2 c3
    cases hr : rightB p with
    | false =>
      rw [hr, if_neg (by decide)] at hR
      subst hR
      go_wp2
      go_ret
      exact ⟨by first | rfl | simp, HB.out.trans ((below_alloc _ _).mono HB.out.size)⟩
    | true =>
      rw [hr, if_pos rfl] at hR
      obtain ⟨vq, rfl, hown⟩ := hR
      have hq := hown.at
      obtain ⟨qa, qc, ra, rc, hv, _, _⟩ := id hq
      replace hv : vq = .agg #[.int .i64 p.ins, .int .i64 p.regs, .slice qa (fold p.code).length qc, .slice ra p.outs.length rc] := hv
      subst hv
      have HQ := hide hq
      have RP := hide hr
      clear hown hq hr
      go_upto_region 6 with fail
      have hb := below_alloc w4 (.cells #[.int .i64 p.ins, .int .i64 p.regs, .slice qa (fold p.code).length qc, .slice ra p.outs.length rc] 36)
      have N0 : Hid (AS w B w4.heap.size p ca oa qa ra cc oc qc rc (w4.alloc (.cells #[.int .i64 p.ins, .int .i64 p.regs, .slice qa (fold p.code).length qc, .slice ra p.outs.length rc] 36))) := hide ⟨HB.out.trans (hb.mono HB.out.size), PX.out.step hb, Box4.new w4 36 (.int .i64 p.ins) (.int .i64 p.regs) (.slice qa (fold p.code).length qc) (.slice ra p.outs.length rc), HP.out.below hb, HQ.out.below hb⟩
      clear hb HB PX HP HQ
      generalize w4.alloc (.cells #[.int .i64 p.ins, .int .i64 p.regs, .slice qa (fold p.code).length qc, .slice ra p.outs.length rc] 36) = w5 at *
      generalize w4.heap.size = Q at *
      obtain ⟨p1, p2, p3, p4, p5, p6, p7, p8⟩ := right_parts RP.out
      have MF : Hid (∀ i ∈ p.code, mayB i 128 = true) := hide (mem_may fun k hk => may_mono (p8 k hk) (by omega))
      have FL : (fold p.code).length ≤ p.code.length := fold_length p.code
      have FL2 : (fold p.code).length ≤ 16384 := by omega
      clear p1 p2 p3 p4 p5 p6 p7 p8
      have n0 : ¬ ((p.code.length : Nat) : Int) < (((fold p.code).length : Nat) : Int) := by omega
      have c2 := N0.out.px.cell2
      have d2 := N0.out.qx.cell2
      go_wp2
      clear c2 d2 n0
      go_loopw [39, 5, 6, 7, 8, 9, 10] (fun kv _ _ _ _ _ _ wr => ∃ k : Nat, k ≤ (fold p.code).length ∧ kv = .int .i64 k ∧ AS w B Q p ca oa qa ra cc oc qc rc wr) (fun kv _ _ _ _ _ _ _ => (fold p.code).length - (intOf kv).toNat)
      case atStart => exact ⟨0, Nat.zero_le _, rfl, N0.out⟩
      case round =>
        clear N0
        obtain ⟨k, hk, rfl, hA⟩ := hrel
        have HA := hide hA
        clear hA
        by_cases hlt : k < (fold p.code).length
        · obtain ⟨b0, off, he, k1⟩ := (show CodeAt _ _ (fold p.code) from pgAt_code HA.out.hq).at hlt
          subst he
          obtain ⟨x, hx⟩ : ∃ x, x = cd (fold p.code) k := ⟨_, rfl⟩
          have GG := fold_get p.code MF.out k hlt
          rw [← hx] at k1 GG
          obtain ⟨g1, g2, g3⟩ := GG
          have GP := hide g1
          have GM := hide g3
          have MX : Hid (mayB x 128 = true) := hide (by rw [hx, cd_lt hlt]; exact fold_may p.code MF.out _ (List.getElem_mem hlt))
          have GN : Hid (noB x = false) := hide g2
          clear g1 g2 g3 hx
          have k10 := k1.cell0
          have k11 := k1.cell1
          have k12 := k1.cell2
          have k13 := k1.cell3
          have k14 := k1.cell4
          clear k1
          go_upto_region 13 with fail
          clear k10 k11 k12 k13 k14
          have hb := below_alloc wr (.cells #[.int .i64 x.op, .int .i64 x.to, .int .i64 x.a, .int .i64 x.b, .int .i64 x.c] 24)
          have BX : Hid (Box5 (wr.alloc (.cells #[.int .i64 x.op, .int .i64 x.to, .int .i64 x.a, .int .i64 x.b, .int .i64 x.c] 24)) wr.heap.size 24 x) := hide (Box5.new wr 24 x)
          replace HA := hide (HA.out.step hb)
          clear hb
          generalize wr.alloc (.cells #[.int .i64 x.op, .int .i64 x.to, .int .i64 x.a, .int .i64 x.b, .int .i64 x.c] 24) = w6 at *
          generalize wr.heap.size = B6 at *
          have k0 := BX.out.cells.cell0
          have k1 := BX.out.cells.cell1
          have k2 := BX.out.cells.cell2
          have k3 := BX.out.cells.cell3
          have k4 := BX.out.cells.cell4
          simp only [Nat.zero_add] at k1 k2 k3 k4
          go_wp2_with fail
          refine (Plain_any x _ (HT0.out.below HA.out.bel)).mono ?_
          rintro e w7 ⟨rfl, hb⟩
          rw [plE_own MX.out GP.out]
          replace HA := hide (HA.out.step hb)
          replace BX := hide (BX.out.step hb)
          clear hb k0 k1 k2 k3 k4
          go_upto_region 14 with fail
          have hb := below_alloc w7 (.cells #[.int .i64 x.op, .int .i64 x.to, .int .i64 x.a, .int .i64 x.b, .int .i64 x.c] 24)
          have BY : Hid (Box5 (w7.alloc (.cells #[.int .i64 x.op, .int .i64 x.to, .int .i64 x.a, .int .i64 x.b, .int .i64 x.c] 24)) w7.heap.size 24 x) := hide (Box5.new w7 24 x)
          replace HA := hide (HA.out.step hb)
          replace BX := hide (BX.out.step hb)
          clear hb
          generalize w7.alloc (.cells #[.int .i64 x.op, .int .i64 x.to, .int .i64 x.a, .int .i64 x.b, .int .i64 x.c] 24) = w8 at *
          generalize w7.heap.size = B7 at *
          have a0 := BX.out.cells.cell0
          have a1 := BX.out.cells.cell1
          have a2 := BX.out.cells.cell2
          have a3 := BX.out.cells.cell3
          have a4 := BX.out.cells.cell4
          simp only [Nat.zero_add] at a1 a2 a3 a4
          have y0 := BY.out.cells.cell0
          have y1 := BY.out.cells.cell1
          have y2 := BY.out.cells.cell2
          have y3 := BY.out.cells.cell3
          have y4 := BY.out.cells.cell4
          simp only [Nat.zero_add] at y1 y2 y3 y4
          by_cases e1 : x.op = 1
          · have e2 : (x.to == x.a) = false := by have := GN.out; unfold noB at this; simp [e1] at this; simpa using this
            replace e1 : (x.op == 1) = true := by simpa using e1
            by_cases k0' : k = 0
            · subst k0'
              go_wp2
              go_roundw
              case rel => exact ⟨0 + 1, by omega, by go_num, HA.out⟩
              case measure => simp [intOf]; omega
            · obtain ⟨m, rfl⟩ : ∃ m, k = m + 1 := ⟨k - 1, by omega⟩
              have kp : (0 : Int) < ((m + 1 : Nat) : Int) := by omega
              go_upto_region 17 with fail
              clear a0 a1 a2 a3 a4 y0 y1 y2 y3 y4
              obtain ⟨b1, off1, he1, k1⟩ := (show CodeAt _ _ (fold p.code) from pgAt_code HA.out.hq).at (i := m) (by omega)
              simp only [Option.some.injEq, Addr.mk.injEq] at he1
              obtain ⟨rfl, rfl, _⟩ := he1
              obtain ⟨y, hy⟩ : ∃ y, y = cd (fold p.code) m := ⟨_, rfl⟩
              rw [← hy] at k1
              have IC := hide k1
              have MN : Hid (meT y x = none) := hide (meT_none (by rw [hy]; exact GM.out (by omega)))
              clear k1 hy
              have m2 : IntKind.i64.wrap (m : Int) = m := by rw [IntKind.wrap_i64]; omega
              have m3 : (m : Int) < (((fold p.code).length : Nat) : Int) := by omega
              refine wp_calm (fun w' => Below w8.heap.size w8 w') (fun _ => true) 14 #[false, false, false, false, false, false, false, false, false, false, false, false, false, false] (by kernel_rfl) rfl rfl ?_
              have HF := hide ((Below.refl w8.heap.size w8).drew)
              generalize w8.drew = w8d at *
              refine Calm.takeL 14 (i := 0) (v := ?_) (a' := ?_) (l' := #[true, false, false, false, false, false, false, false, false, false, false, false, false, false]) (d := some 70) (by kernel_rfl) rfl (by kernel_rfl) (by kernel_rfl) (by kernel_rfl) (by kernel_rfl) (fun _ _ _ h => h) HF.out rfl ?_ rfl rfl ?_ ?_
              rotate_left
              · intro w' hF; clear hF; go_simp; try rfl
              rotate_left
              · simp only [Act.put]; exact rfl
              refine Calm.takeL 14 (i := 1) (v := ?_) (a' := ?_) (l' := #[true, true, false, false, false, false, false, false, false, false, false, false, false, false]) (d := some 71) (by kernel_rfl) rfl (by kernel_rfl) (by kernel_rfl) (by kernel_rfl) (by kernel_rfl) (fun _ _ _ h => h) HF.out rfl ?_ rfl rfl ?_ ?_
              rotate_left
              · intro w' hF; have e0 := (HA.out.qx.step hF).cell2; have g0 := (IC.out.step hF).cell0; have g1 := (IC.out.step hF).cell1; have g2 := (IC.out.step hF).cell2; have g3 := (IC.out.step hF).cell3; have g4 := (IC.out.step hF).cell4; have h0 := (BX.out.step hF).cells.cell0; have h1 := (BX.out.step hF).cells.cell1; have h2 := (BX.out.step hF).cells.cell2; have h3 := (BX.out.step hF).cells.cell3; have h4 := (BX.out.step hF).cells.cell4; simp only [Nat.zero_add] at h1 h2 h3 h4; clear hF; go_simp; try rfl
              rotate_left
              · simp only [Act.put]; exact rfl
              refine Calm.takeL 14 (i := 2) (v := ?_) (a' := ?_) (l' := #[true, true, true, false, false, false, false, false, false, false, false, false, false, false]) (d := some 72) (by kernel_rfl) rfl (by kernel_rfl) (by kernel_rfl) (by kernel_rfl) (by kernel_rfl) (fun _ _ _ h => h) HF.out rfl ?_ rfl rfl ?_ ?_
              rotate_left
              · intro w' hF; clear hF; go_simp; try rfl
              rotate_left
              · simp only [Act.put]; exact rfl
              refine Calm.takeL 14 (i := 3) (v := ?_) (a' := ?_) (l' := #[true, true, true, true, false, false, false, false, false, false, false, false, false, false]) (d := some 73) (by kernel_rfl) rfl (by kernel_rfl) (by kernel_rfl) (by kernel_rfl) (by kernel_rfl) (fun _ _ _ h => h) HF.out rfl ?_ rfl rfl ?_ ?_
              rotate_left
              · intro w' hF; clear hF; go_simp; try rfl
              rotate_left
              · simp only [Act.put]; exact rfl
              refine Calm.takeL 14 (i := 4) (v := ?_) (a' := ?_) (l' := #[true, true, true, true, true, false, false, false, false, false, false, false, false, false]) (d := some 74) (by kernel_rfl) rfl (by kernel_rfl) (by kernel_rfl) (by kernel_rfl) (by kernel_rfl) (fun _ _ _ h => h) HF.out rfl ?_ rfl rfl ?_ ?_
              rotate_left
              · intro w' hF; clear hF; go_simp; try rfl
              rotate_left
              · simp only [Act.put]; exact rfl
              refine Calm.takeL 14 (i := 5) (v := ?_) (a' := ?_) (l' := #[true, true, true, true, true, true, false, false, false, false, false, false, false, false]) (d := some 75) (by kernel_rfl) rfl (by kernel_rfl) (by kernel_rfl) (by kernel_rfl) (by kernel_rfl) (fun _ _ _ h => h) HF.out rfl ?_ rfl rfl ?_ ?_
              rotate_left
              · intro w' hF; have e0 := (HA.out.qx.step hF).cell2; have g0 := (IC.out.step hF).cell0; have g1 := (IC.out.step hF).cell1; have g2 := (IC.out.step hF).cell2; have g3 := (IC.out.step hF).cell3; have g4 := (IC.out.step hF).cell4; have h0 := (BX.out.step hF).cells.cell0; have h1 := (BX.out.step hF).cells.cell1; have h2 := (BX.out.step hF).cells.cell2; have h3 := (BX.out.step hF).cells.cell3; have h4 := (BX.out.step hF).cells.cell4; simp only [Nat.zero_add] at h1 h2 h3 h4; clear hF; go_simp; try rfl
              rotate_left
              · simp only [Act.put]; exact rfl
              refine Calm.takeL 14 (i := 6) (v := ?_) (a' := ?_) (l' := #[true, true, true, true, true, true, true, false, false, false, false, false, false, false]) (d := some 76) (by kernel_rfl) rfl (by kernel_rfl) (by kernel_rfl) (by kernel_rfl) (by kernel_rfl) (fun _ _ _ h => h) HF.out rfl ?_ rfl rfl ?_ ?_
              rotate_left
              · intro w' hF; have e0 := (HA.out.qx.step hF).cell2; have g0 := (IC.out.step hF).cell0; have g1 := (IC.out.step hF).cell1; have g2 := (IC.out.step hF).cell2; have g3 := (IC.out.step hF).cell3; have g4 := (IC.out.step hF).cell4; have h0 := (BX.out.step hF).cells.cell0; have h1 := (BX.out.step hF).cells.cell1; have h2 := (BX.out.step hF).cells.cell2; have h3 := (BX.out.step hF).cells.cell3; have h4 := (BX.out.step hF).cells.cell4; simp only [Nat.zero_add] at h1 h2 h3 h4; clear hF; go_simp; try rfl
              rotate_left
              · simp only [Act.put]; exact rfl
              refine Calm.two (i := 7) (j := 11) (l := #[true, true, true, true, true, true, true, true, false, false, false, false, false, false]) (l' := #[true, true, true, true, true, true, true, false, false, false, false, true, false, false]) (by kernel_rfl) rfl rfl rfl rfl rfl rfl (fun K hK => ?_) (fun K hK => ?_)
              · go_simp
                refine (Melt_any y x _ (HT0.out.below (HA.out.bel.trans (HF.out.mono HA.out.bel.size)))).mono ?_
                rintro e u1 ⟨rfl, hb⟩
                rw [MN.out]
                unfold mlE mlV
                dsimp only [Option.getD_none, Option.isSome_none]
                have HF' := hide (HF.out.trans ((hb).mono HF.out.size))
                refine hK _ _ (fun _ => HF'.out) ?_
                clear hK K HF hb
                have HF := hide HF'.out
                clear HF'
                refine Calm.takeL 14 (i := 8) (v := ?_) (a' := ?_) (l' := #[true, true, true, true, true, true, true, true, true, false, false, false, false, false]) (d := some 69) (by kernel_rfl) rfl (by kernel_rfl) (by kernel_rfl) (by kernel_rfl) (by kernel_rfl) (fun _ _ _ h => h) HF.out rfl ?_ rfl rfl ?_ ?_
                rotate_left
                · intro w' hF; clear hF; go_simp; try rfl
                rotate_left
                · simp only [Act.put]; exact rfl
                refine Calm.takeL 14 (i := 9) (v := ?_) (a' := ?_) (l' := #[true, true, true, true, true, true, true, true, true, true, false, false, false, false]) (d := some 78) (by kernel_rfl) rfl (by kernel_rfl) (by kernel_rfl) (by kernel_rfl) (by kernel_rfl) (fun _ _ _ h => h) HF.out rfl ?_ rfl rfl ?_ ?_
                rotate_left
                · intro w' hF; clear hF; go_simp; try rfl
                rotate_left
                · simp only [Act.put]; exact rfl
                refine Calm.takeL 14 (i := 10) (v := ?_) (a' := ?_) (l' := #[true, true, true, true, true, true, true, true, true, true, true, false, false, false]) (d := some 79) (by kernel_rfl) rfl (by kernel_rfl) (by kernel_rfl) (by kernel_rfl) (by kernel_rfl) (fun _ _ _ h => h) HF.out rfl ?_ rfl rfl ?_ ?_
                rotate_left
                · intro w' hF; clear hF; go_simp; try rfl
                rotate_left
                · simp only [Act.put]; exact rfl
                refine Calm.one (i := 11) (l' := #[true, true, true, true, true, true, true, true, true, true, true, true, false, false]) (by kernel_rfl) rfl rfl rfl fun K hK => ?_
                go_simp
                have al := below_alloc u1 (.cells #[.int .i64 0, .int .i64 0, .int .i64 0, .int .i64 0, .int .i64 0] 24)
                have HF' := hide (HF.out.trans ((al).mono HF.out.size))
                have BXx := hide (show Box5 (u1.alloc (.cells #[.int .i64 0, .int .i64 0, .int .i64 0, .int .i64 0, .int .i64 0] 24)) u1.heap.size 24 ⟨0, 0, 0, 0, 0⟩ from Box5.new u1 24 ⟨0, 0, 0, 0, 0⟩)
                have GEx := hide (HF.out.size)
                refine hK _ _ (fun _ => HF'.out) ?_
                clear hK K HF al
                have HF := hide HF'.out
                clear HF'
                generalize u1.alloc (.cells #[.int .i64 0, .int .i64 0, .int .i64 0, .int .i64 0, .int .i64 0] 24) = wzx at *
                generalize u1.heap.size = gx at *
                refine Calm.one (i := 12) (l' := #[true, true, true, true, true, true, true, true, true, true, true, true, true, false]) (by kernel_rfl) rfl rfl rfl fun K hK => ?_
                have r0 := BXx.out.cells.cell0
                have r1 := BXx.out.cells.cell1
                have r2 := BXx.out.cells.cell2
                have r3 := BXx.out.cells.cell3
                have r4 := BXx.out.cells.cell4
                simp only [Nat.zero_add] at r1 r2 r3 r4
                have s0 := BXx.out.free 0
                have s1 := BXx.out.free 1
                have s2 := BXx.out.free 2
                have s3 := BXx.out.free 3
                have s4 := BXx.out.free 4
                go_simp
                have HF' := hide (below_put5 HF.out GEx.out (.int .i64 0) (.int .i64 0) (.int .i64 0) (.int .i64 0) (.int .i64 0))
                replace BXx := hide (BXx.out.put ⟨0, 0, 0, 0, 0⟩)
                try dsimp only at BXx
                refine hK _ _ (fun _ => HF'.out) ?_
                clear hK K HF r0 r1 r2 r3 r4 s0 s1 s2 s3 s4
                have HF := hide HF'.out
                clear HF'
                generalize (((((wzx.setCell ⟨gx, 0, none⟩ (.int .i64 0)).setCell ⟨gx, 1, none⟩ (.int .i64 0)).setCell ⟨gx, 2, none⟩ (.int .i64 0)).setCell ⟨gx, 3, none⟩ (.int .i64 0)).setCell ⟨gx, 4, none⟩ (.int .i64 0)) = w9 at *
                refine Calm.takeL 14 (i := 13) (v := ?_) (a' := ?_) (l' := #[true, true, true, true, true, true, true, true, true, true, true, true, true, true]) (d := some 10) (by kernel_rfl) rfl (by kernel_rfl) (by kernel_rfl) (by kernel_rfl) (by kernel_rfl) (fun _ _ _ h => h) HF.out rfl ?_ rfl rfl ?_ ?_
                rotate_left
                · intro w' hF; clear hF; go_simp; try rfl
                rotate_left
                · simp only [Act.put]; exact rfl
                refine Calm.done (by kernel_rfl) ?_
                replace HA := hide (HA.out.step HF.out)
                clear HF BXx IC BX BY
                go_wp2
                go_roundw
                case rel => exact ⟨m + 1 + 1, by omega, by go_num, HA.out⟩
                case measure => simp [intOf]; omega
              · go_simp
                have al := below_alloc w8d (.cells #[.int .i64 0, .int .i64 0, .int .i64 0, .int .i64 0, .int .i64 0] 24)
                have HF' := hide (HF.out.trans ((al).mono HF.out.size))
                have BXx := hide (show Box5 (w8d.alloc (.cells #[.int .i64 0, .int .i64 0, .int .i64 0, .int .i64 0, .int .i64 0] 24)) w8d.heap.size 24 ⟨0, 0, 0, 0, 0⟩ from Box5.new w8d 24 ⟨0, 0, 0, 0, 0⟩)
                have GEx := hide (HF.out.size)
                refine hK _ _ (fun _ => HF'.out) ?_
                clear hK K HF al
                have HF := hide HF'.out
                clear HF'
                generalize w8d.alloc (.cells #[.int .i64 0, .int .i64 0, .int .i64 0, .int .i64 0, .int .i64 0] 24) = wzx at *
                generalize w8d.heap.size = gx at *
                refine Calm.one (i := 7) (l' := #[true, true, true, true, true, true, true, true, false, false, false, true, false, false]) (by kernel_rfl) rfl rfl rfl fun K hK => ?_
                go_simp
                refine (Melt_any y x _ (HT0.out.below (HA.out.bel.trans (HF.out.mono HA.out.bel.size)))).mono ?_
                rintro e u1 ⟨rfl, hb⟩
                rw [MN.out]
                unfold mlE mlV
                dsimp only [Option.getD_none, Option.isSome_none]
                replace BXx := hide (BXx.out.step hb)
                have HF' := hide (HF.out.trans ((hb).mono HF.out.size))
                refine hK _ _ (fun _ => HF'.out) ?_
                clear hK K HF hb
                have HF := hide HF'.out
                clear HF'
                refine Calm.takeL 14 (i := 8) (v := ?_) (a' := ?_) (l' := #[true, true, true, true, true, true, true, true, true, false, false, true, false, false]) (d := some 69) (by kernel_rfl) rfl (by kernel_rfl) (by kernel_rfl) (by kernel_rfl) (by kernel_rfl) (fun _ _ _ h => h) HF.out rfl ?_ rfl rfl ?_ ?_
                rotate_left
                · intro w' hF; clear hF; go_simp; try rfl
                rotate_left
                · simp only [Act.put]; exact rfl
                refine Calm.takeL 14 (i := 9) (v := ?_) (a' := ?_) (l' := #[true, true, true, true, true, true, true, true, true, true, false, true, false, false]) (d := some 78) (by kernel_rfl) rfl (by kernel_rfl) (by kernel_rfl) (by kernel_rfl) (by kernel_rfl) (fun _ _ _ h => h) HF.out rfl ?_ rfl rfl ?_ ?_
                rotate_left
                · intro w' hF; clear hF; go_simp; try rfl
                rotate_left
                · simp only [Act.put]; exact rfl
                refine Calm.takeL 14 (i := 10) (v := ?_) (a' := ?_) (l' := #[true, true, true, true, true, true, true, true, true, true, true, true, false, false]) (d := some 79) (by kernel_rfl) rfl (by kernel_rfl) (by kernel_rfl) (by kernel_rfl) (by kernel_rfl) (fun _ _ _ h => h) HF.out rfl ?_ rfl rfl ?_ ?_
                rotate_left
                · intro w' hF; clear hF; go_simp; try rfl
                rotate_left
                · simp only [Act.put]; exact rfl
                refine Calm.one (i := 12) (l' := #[true, true, true, true, true, true, true, true, true, true, true, true, true, false]) (by kernel_rfl) rfl rfl rfl fun K hK => ?_
                have r0 := BXx.out.cells.cell0
                have r1 := BXx.out.cells.cell1
                have r2 := BXx.out.cells.cell2
                have r3 := BXx.out.cells.cell3
                have r4 := BXx.out.cells.cell4
                simp only [Nat.zero_add] at r1 r2 r3 r4
                have s0 := BXx.out.free 0
                have s1 := BXx.out.free 1
                have s2 := BXx.out.free 2
                have s3 := BXx.out.free 3
                have s4 := BXx.out.free 4
                go_simp
                have HF' := hide (below_put5 HF.out GEx.out (.int .i64 0) (.int .i64 0) (.int .i64 0) (.int .i64 0) (.int .i64 0))
                replace BXx := hide (BXx.out.put ⟨0, 0, 0, 0, 0⟩)
                try dsimp only at BXx
                refine hK _ _ (fun _ => HF'.out) ?_
                clear hK K HF r0 r1 r2 r3 r4 s0 s1 s2 s3 s4
                have HF := hide HF'.out
                clear HF'
                generalize (((((u1.setCell ⟨gx, 0, none⟩ (.int .i64 0)).setCell ⟨gx, 1, none⟩ (.int .i64 0)).setCell ⟨gx, 2, none⟩ (.int .i64 0)).setCell ⟨gx, 3, none⟩ (.int .i64 0)).setCell ⟨gx, 4, none⟩ (.int .i64 0)) = w9 at *
                refine Calm.takeL 14 (i := 13) (v := ?_) (a' := ?_) (l' := #[true, true, true, true, true, true, true, true, true, true, true, true, true, true]) (d := some 10) (by kernel_rfl) rfl (by kernel_rfl) (by kernel_rfl) (by kernel_rfl) (by kernel_rfl) (fun _ _ _ h => h) HF.out rfl ?_ rfl rfl ?_ ?_
                rotate_left
                · intro w' hF; clear hF; go_simp; try rfl
                rotate_left
                · simp only [Act.put]; exact rfl
                refine Calm.done (by kernel_rfl) ?_
                replace HA := hide (HA.out.step HF.out)
                clear HF BXx IC BX BY
                go_wp2
                go_roundw
                case rel => exact ⟨m + 1 + 1, by omega, by go_num, HA.out⟩
                case measure => simp [intOf]; omega
          · replace e1 : (x.op == 1) = false := by simpa using e1
            by_cases k0' : k = 0
            · subst k0'
              go_wp2
              go_roundw
              case rel => exact ⟨0 + 1, by omega, by go_num, HA.out⟩
              case measure => simp [intOf]; omega
            · obtain ⟨m, rfl⟩ : ∃ m, k = m + 1 := ⟨k - 1, by omega⟩
              have kp : (0 : Int) < ((m + 1 : Nat) : Int) := by omega
              go_upto_region 17 with fail
              clear a0 a1 a2 a3 a4 y0 y1 y2 y3 y4
              obtain ⟨b1, off1, he1, k1⟩ := (show CodeAt _ _ (fold p.code) from pgAt_code HA.out.hq).at (i := m) (by omega)
              simp only [Option.some.injEq, Addr.mk.injEq] at he1
              obtain ⟨rfl, rfl, _⟩ := he1
              obtain ⟨y, hy⟩ : ∃ y, y = cd (fold p.code) m := ⟨_, rfl⟩
              rw [← hy] at k1
              have IC := hide k1
              have MN : Hid (meT y x = none) := hide (meT_none (by rw [hy]; exact GM.out (by omega)))
              clear k1 hy
              have m2 : IntKind.i64.wrap (m : Int) = m := by rw [IntKind.wrap_i64]; omega
              have m3 : (m : Int) < (((fold p.code).length : Nat) : Int) := by omega
              refine wp_calm (fun w' => Below w8.heap.size w8 w') (fun _ => true) 14 #[false, false, false, false, false, false, false, false, false, false, false, false, false, false] (by kernel_rfl) rfl rfl ?_
              have HF := hide ((Below.refl w8.heap.size w8).drew)
              generalize w8.drew = w8d at *
              refine Calm.takeL 14 (i := 0) (v := ?_) (a' := ?_) (l' := #[true, false, false, false, false, false, false, false, false, false, false, false, false, false]) (d := some 70) (by kernel_rfl) rfl (by kernel_rfl) (by kernel_rfl) (by kernel_rfl) (by kernel_rfl) (fun _ _ _ h => h) HF.out rfl ?_ rfl rfl ?_ ?_
              rotate_left
              · intro w' hF; clear hF; go_simp; try rfl
              rotate_left
              · simp only [Act.put]; exact rfl
              refine Calm.takeL 14 (i := 1) (v := ?_) (a' := ?_) (l' := #[true, true, false, false, false, false, false, false, false, false, false, false, false, false]) (d := some 71) (by kernel_rfl) rfl (by kernel_rfl) (by kernel_rfl) (by kernel_rfl) (by kernel_rfl) (fun _ _ _ h => h) HF.out rfl ?_ rfl rfl ?_ ?_
              rotate_left
              · intro w' hF; have e0 := (HA.out.qx.step hF).cell2; have g0 := (IC.out.step hF).cell0; have g1 := (IC.out.step hF).cell1; have g2 := (IC.out.step hF).cell2; have g3 := (IC.out.step hF).cell3; have g4 := (IC.out.step hF).cell4; have h0 := (BX.out.step hF).cells.cell0; have h1 := (BX.out.step hF).cells.cell1; have h2 := (BX.out.step hF).cells.cell2; have h3 := (BX.out.step hF).cells.cell3; have h4 := (BX.out.step hF).cells.cell4; simp only [Nat.zero_add] at h1 h2 h3 h4; clear hF; go_simp; try rfl
              rotate_left
              · simp only [Act.put]; exact rfl
              refine Calm.takeL 14 (i := 2) (v := ?_) (a' := ?_) (l' := #[true, true, true, false, false, false, false, false, false, false, false, false, false, false]) (d := some 72) (by kernel_rfl) rfl (by kernel_rfl) (by kernel_rfl) (by kernel_rfl) (by kernel_rfl) (fun _ _ _ h => h) HF.out rfl ?_ rfl rfl ?_ ?_
              rotate_left
              · intro w' hF; clear hF; go_simp; try rfl
              rotate_left
              · simp only [Act.put]; exact rfl
              refine Calm.takeL 14 (i := 3) (v := ?_) (a' := ?_) (l' := #[true, true, true, true, false, false, false, false, false, false, false, false, false, false]) (d := some 73) (by kernel_rfl) rfl (by kernel_rfl) (by kernel_rfl) (by kernel_rfl) (by kernel_rfl) (fun _ _ _ h => h) HF.out rfl ?_ rfl rfl ?_ ?_
              rotate_left
              · intro w' hF; clear hF; go_simp; try rfl
              rotate_left
              · simp only [Act.put]; exact rfl
              refine Calm.takeL 14 (i := 4) (v := ?_) (a' := ?_) (l' := #[true, true, true, true, true, false, false, false, false, false, false, false, false, false]) (d := some 74) (by kernel_rfl) rfl (by kernel_rfl) (by kernel_rfl) (by kernel_rfl) (by kernel_rfl) (fun _ _ _ h => h) HF.out rfl ?_ rfl rfl ?_ ?_
              rotate_left
              · intro w' hF; clear hF; go_simp; try rfl
              rotate_left
              · simp only [Act.put]; exact rfl
              refine Calm.takeL 14 (i := 5) (v := ?_) (a' := ?_) (l' := #[true, true, true, true, true, true, false, false, false, false, false, false, false, false]) (d := some 75) (by kernel_rfl) rfl (by kernel_rfl) (by kernel_rfl) (by kernel_rfl) (by kernel_rfl) (fun _ _ _ h => h) HF.out rfl ?_ rfl rfl ?_ ?_
              rotate_left
              · intro w' hF; have e0 := (HA.out.qx.step hF).cell2; have g0 := (IC.out.step hF).cell0; have g1 := (IC.out.step hF).cell1; have g2 := (IC.out.step hF).cell2; have g3 := (IC.out.step hF).cell3; have g4 := (IC.out.step hF).cell4; have h0 := (BX.out.step hF).cells.cell0; have h1 := (BX.out.step hF).cells.cell1; have h2 := (BX.out.step hF).cells.cell2; have h3 := (BX.out.step hF).cells.cell3; have h4 := (BX.out.step hF).cells.cell4; simp only [Nat.zero_add] at h1 h2 h3 h4; clear hF; go_simp; try rfl
              rotate_left
              · simp only [Act.put]; exact rfl
              refine Calm.takeL 14 (i := 6) (v := ?_) (a' := ?_) (l' := #[true, true, true, true, true, true, true, false, false, false, false, false, false, false]) (d := some 76) (by kernel_rfl) rfl (by kernel_rfl) (by kernel_rfl) (by kernel_rfl) (by kernel_rfl) (fun _ _ _ h => h) HF.out rfl ?_ rfl rfl ?_ ?_
              rotate_left
              · intro w' hF; have e0 := (HA.out.qx.step hF).cell2; have g0 := (IC.out.step hF).cell0; have g1 := (IC.out.step hF).cell1; have g2 := (IC.out.step hF).cell2; have g3 := (IC.out.step hF).cell3; have g4 := (IC.out.step hF).cell4; have h0 := (BX.out.step hF).cells.cell0; have h1 := (BX.out.step hF).cells.cell1; have h2 := (BX.out.step hF).cells.cell2; have h3 := (BX.out.step hF).cells.cell3; have h4 := (BX.out.step hF).cells.cell4; simp only [Nat.zero_add] at h1 h2 h3 h4; clear hF; go_simp; try rfl
              rotate_left
              · simp only [Act.put]; exact rfl
              refine Calm.two (i := 7) (j := 11) (l := #[true, true, true, true, true, true, true, true, false, false, false, false, false, false]) (l' := #[true, true, true, true, true, true, true, false, false, false, false, true, false, false]) (by kernel_rfl) rfl rfl rfl rfl rfl rfl (fun K hK => ?_) (fun K hK => ?_)
              · go_simp
                refine (Melt_any y x _ (HT0.out.below (HA.out.bel.trans (HF.out.mono HA.out.bel.size)))).mono ?_
                rintro e u1 ⟨rfl, hb⟩
                rw [MN.out]
                unfold mlE mlV
                dsimp only [Option.getD_none, Option.isSome_none]
                have HF' := hide (HF.out.trans ((hb).mono HF.out.size))
                refine hK _ _ (fun _ => HF'.out) ?_
                clear hK K HF hb
                have HF := hide HF'.out
                clear HF'
                refine Calm.takeL 14 (i := 8) (v := ?_) (a' := ?_) (l' := #[true, true, true, true, true, true, true, true, true, false, false, false, false, false]) (d := some 69) (by kernel_rfl) rfl (by kernel_rfl) (by kernel_rfl) (by kernel_rfl) (by kernel_rfl) (fun _ _ _ h => h) HF.out rfl ?_ rfl rfl ?_ ?_
                rotate_left
                · intro w' hF; clear hF; go_simp; try rfl
                rotate_left
                · simp only [Act.put]; exact rfl
                refine Calm.takeL 14 (i := 9) (v := ?_) (a' := ?_) (l' := #[true, true, true, true, true, true, true, true, true, true, false, false, false, false]) (d := some 78) (by kernel_rfl) rfl (by kernel_rfl) (by kernel_rfl) (by kernel_rfl) (by kernel_rfl) (fun _ _ _ h => h) HF.out rfl ?_ rfl rfl ?_ ?_
                rotate_left
                · intro w' hF; clear hF; go_simp; try rfl
                rotate_left
                · simp only [Act.put]; exact rfl
                refine Calm.takeL 14 (i := 10) (v := ?_) (a' := ?_) (l' := #[true, true, true, true, true, true, true, true, true, true, true, false, false, false]) (d := some 79) (by kernel_rfl) rfl (by kernel_rfl) (by kernel_rfl) (by kernel_rfl) (by kernel_rfl) (fun _ _ _ h => h) HF.out rfl ?_ rfl rfl ?_ ?_
                rotate_left
                · intro w' hF; clear hF; go_simp; try rfl
                rotate_left
                · simp only [Act.put]; exact rfl
                refine Calm.one (i := 11) (l' := #[true, true, true, true, true, true, true, true, true, true, true, true, false, false]) (by kernel_rfl) rfl rfl rfl fun K hK => ?_
                go_simp
                have al := below_alloc u1 (.cells #[.int .i64 0, .int .i64 0, .int .i64 0, .int .i64 0, .int .i64 0] 24)
                have HF' := hide (HF.out.trans ((al).mono HF.out.size))
                have BXx := hide (show Box5 (u1.alloc (.cells #[.int .i64 0, .int .i64 0, .int .i64 0, .int .i64 0, .int .i64 0] 24)) u1.heap.size 24 ⟨0, 0, 0, 0, 0⟩ from Box5.new u1 24 ⟨0, 0, 0, 0, 0⟩)
                have GEx := hide (HF.out.size)
                refine hK _ _ (fun _ => HF'.out) ?_
                clear hK K HF al
                have HF := hide HF'.out
                clear HF'
                generalize u1.alloc (.cells #[.int .i64 0, .int .i64 0, .int .i64 0, .int .i64 0, .int .i64 0] 24) = wzx at *
                generalize u1.heap.size = gx at *
                refine Calm.one (i := 12) (l' := #[true, true, true, true, true, true, true, true, true, true, true, true, true, false]) (by kernel_rfl) rfl rfl rfl fun K hK => ?_
                have r0 := BXx.out.cells.cell0
                have r1 := BXx.out.cells.cell1
                have r2 := BXx.out.cells.cell2
                have r3 := BXx.out.cells.cell3
                have r4 := BXx.out.cells.cell4
                simp only [Nat.zero_add] at r1 r2 r3 r4
                have s0 := BXx.out.free 0
                have s1 := BXx.out.free 1
                have s2 := BXx.out.free 2
                have s3 := BXx.out.free 3
                have s4 := BXx.out.free 4
                go_simp
                have HF' := hide (below_put5 HF.out GEx.out (.int .i64 0) (.int .i64 0) (.int .i64 0) (.int .i64 0) (.int .i64 0))
                replace BXx := hide (BXx.out.put ⟨0, 0, 0, 0, 0⟩)
                try dsimp only at BXx
                refine hK _ _ (fun _ => HF'.out) ?_
                clear hK K HF r0 r1 r2 r3 r4 s0 s1 s2 s3 s4
                have HF := hide HF'.out
                clear HF'
                generalize (((((wzx.setCell ⟨gx, 0, none⟩ (.int .i64 0)).setCell ⟨gx, 1, none⟩ (.int .i64 0)).setCell ⟨gx, 2, none⟩ (.int .i64 0)).setCell ⟨gx, 3, none⟩ (.int .i64 0)).setCell ⟨gx, 4, none⟩ (.int .i64 0)) = w9 at *
                refine Calm.takeL 14 (i := 13) (v := ?_) (a' := ?_) (l' := #[true, true, true, true, true, true, true, true, true, true, true, true, true, true]) (d := some 10) (by kernel_rfl) rfl (by kernel_rfl) (by kernel_rfl) (by kernel_rfl) (by kernel_rfl) (fun _ _ _ h => h) HF.out rfl ?_ rfl rfl ?_ ?_
                rotate_left
                · intro w' hF; clear hF; go_simp; try rfl
                rotate_left
                · simp only [Act.put]; exact rfl
                refine Calm.done (by kernel_rfl) ?_
                replace HA := hide (HA.out.step HF.out)
                clear HF BXx IC BX BY
                go_wp2
                go_roundw
                case rel => exact ⟨m + 1 + 1, by omega, by go_num, HA.out⟩
                case measure => simp [intOf]; omega
              · go_simp
                have al := below_alloc w8d (.cells #[.int .i64 0, .int .i64 0, .int .i64 0, .int .i64 0, .int .i64 0] 24)
                have HF' := hide (HF.out.trans ((al).mono HF.out.size))
                have BXx := hide (show Box5 (w8d.alloc (.cells #[.int .i64 0, .int .i64 0, .int .i64 0, .int .i64 0, .int .i64 0] 24)) w8d.heap.size 24 ⟨0, 0, 0, 0, 0⟩ from Box5.new w8d 24 ⟨0, 0, 0, 0, 0⟩)
                have GEx := hide (HF.out.size)
                refine hK _ _ (fun _ => HF'.out) ?_
                clear hK K HF al
                have HF := hide HF'.out
                clear HF'
                generalize w8d.alloc (.cells #[.int .i64 0, .int .i64 0, .int .i64 0, .int .i64 0, .int .i64 0] 24) = wzx at *
                generalize w8d.heap.size = gx at *
                refine Calm.one (i := 7) (l' := #[true, true, true, true, true, true, true, true, false, false, false, true, false, false]) (by kernel_rfl) rfl rfl rfl fun K hK => ?_
                go_simp
                refine (Melt_any y x _ (HT0.out.below (HA.out.bel.trans (HF.out.mono HA.out.bel.size)))).mono ?_
                rintro e u1 ⟨rfl, hb⟩
                rw [MN.out]
                unfold mlE mlV
                dsimp only [Option.getD_none, Option.isSome_none]
                replace BXx := hide (BXx.out.step hb)
                have HF' := hide (HF.out.trans ((hb).mono HF.out.size))
                refine hK _ _ (fun _ => HF'.out) ?_
                clear hK K HF hb
                have HF := hide HF'.out
                clear HF'
                refine Calm.takeL 14 (i := 8) (v := ?_) (a' := ?_) (l' := #[true, true, true, true, true, true, true, true, true, false, false, true, false, false]) (d := some 69) (by kernel_rfl) rfl (by kernel_rfl) (by kernel_rfl) (by kernel_rfl) (by kernel_rfl) (fun _ _ _ h => h) HF.out rfl ?_ rfl rfl ?_ ?_
                rotate_left
                · intro w' hF; clear hF; go_simp; try rfl
                rotate_left
                · simp only [Act.put]; exact rfl
                refine Calm.takeL 14 (i := 9) (v := ?_) (a' := ?_) (l' := #[true, true, true, true, true, true, true, true, true, true, false, true, false, false]) (d := some 78) (by kernel_rfl) rfl (by kernel_rfl) (by kernel_rfl) (by kernel_rfl) (by kernel_rfl) (fun _ _ _ h => h) HF.out rfl ?_ rfl rfl ?_ ?_
                rotate_left
                · intro w' hF; clear hF; go_simp; try rfl
                rotate_left
                · simp only [Act.put]; exact rfl
                refine Calm.takeL 14 (i := 10) (v := ?_) (a' := ?_) (l' := #[true, true, true, true, true, true, true, true, true, true, true, true, false, false]) (d := some 79) (by kernel_rfl) rfl (by kernel_rfl) (by kernel_rfl) (by kernel_rfl) (by kernel_rfl) (fun _ _ _ h => h) HF.out rfl ?_ rfl rfl ?_ ?_
                rotate_left
                · intro w' hF; clear hF; go_simp; try rfl
                rotate_left
                · simp only [Act.put]; exact rfl
                refine Calm.one (i := 12) (l' := #[true, true, true, true, true, true, true, true, true, true, true, true, true, false]) (by kernel_rfl) rfl rfl rfl fun K hK => ?_
                have r0 := BXx.out.cells.cell0
                have r1 := BXx.out.cells.cell1
                have r2 := BXx.out.cells.cell2
                have r3 := BXx.out.cells.cell3
                have r4 := BXx.out.cells.cell4
                simp only [Nat.zero_add] at r1 r2 r3 r4
                have s0 := BXx.out.free 0
                have s1 := BXx.out.free 1
                have s2 := BXx.out.free 2
                have s3 := BXx.out.free 3
                have s4 := BXx.out.free 4
                go_simp
                have HF' := hide (below_put5 HF.out GEx.out (.int .i64 0) (.int .i64 0) (.int .i64 0) (.int .i64 0) (.int .i64 0))
                replace BXx := hide (BXx.out.put ⟨0, 0, 0, 0, 0⟩)
                try dsimp only at BXx
                refine hK _ _ (fun _ => HF'.out) ?_
                clear hK K HF r0 r1 r2 r3 r4 s0 s1 s2 s3 s4
                have HF := hide HF'.out
                clear HF'
                generalize (((((u1.setCell ⟨gx, 0, none⟩ (.int .i64 0)).setCell ⟨gx, 1, none⟩ (.int .i64 0)).setCell ⟨gx, 2, none⟩ (.int .i64 0)).setCell ⟨gx, 3, none⟩ (.int .i64 0)).setCell ⟨gx, 4, none⟩ (.int .i64 0)) = w9 at *
                refine Calm.takeL 14 (i := 13) (v := ?_) (a' := ?_) (l' := #[true, true, true, true, true, true, true, true, true, true, true, true, true, true]) (d := some 10) (by kernel_rfl) rfl (by kernel_rfl) (by kernel_rfl) (by kernel_rfl) (by kernel_rfl) (fun _ _ _ h => h) HF.out rfl ?_ rfl rfl ?_ ?_
                rotate_left
                · intro w' hF; clear hF; go_simp; try rfl
                rotate_left
                · simp only [Act.put]; exact rfl
                refine Calm.done (by kernel_rfl) ?_
                replace HA := hide (HA.out.step HF.out)
                clear HF BXx IC BX BY
                go_wp2
                go_roundw
                case rel => exact ⟨m + 1 + 1, by omega, by go_num, HA.out⟩
                case measure => simp [intOf]; omega
        · have e : k = (fold p.code).length := by omega
          subst e
          have RQ := hide (pas_right RP.out)
          have d0 := HA.out.qx.cell0
          have d1 := HA.out.qx.cell1
          have d2 := HA.out.qx.cell2
          have d3 := HA.out.qx.cell3
          go_wp2_with fail
          refine (pass_any _ (pasP p) _ HA.out.hq (HT0.out.below HA.out.bel)).mono ?_
          rintro e w10 ⟨hR, hb⟩
          unfold PassR at hR
          rw [RQ.out, if_pos rfl, pas_again RP.out] at hR
          obtain ⟨v2, rfl, hown⟩ := hR
          have h2 := hown.at
          obtain ⟨xa, xc, ya, yc, hv, _, _⟩ := id h2
          replace hv : v2 = .agg #[.int .i64 p.ins, .int .i64 p.regs, .slice xa (fold p.code).length xc, .slice ya p.outs.length yc] := hv
          subst hv
          have H2 := hide h2
          replace HA := hide (HA.out.step hb)
          clear hown h2 hb d0 d1 d2 d3
          go_upto_region 22 with fail
          have hb := below_alloc w10 (.cells #[.int .i64 p.ins, .int .i64 p.regs, .slice xa (fold p.code).length xc, .slice ya p.outs.length yc] 36)
          have EX : Hid (Box4 (w10.alloc (.cells #[.int .i64 p.ins, .int .i64 p.regs, .slice xa (fold p.code).length xc, .slice ya p.outs.length yc] 36)) w10.heap.size 36 (.int .i64 p.ins) (.int .i64 p.regs) (.slice xa (fold p.code).length xc) (.slice ya p.outs.length yc)) := hide (Box4.new w10 36 _ _ _ _)
          replace HA := hide (HA.out.step hb)
          replace H2 := hide (H2.out.below hb)
          clear hb
          generalize w10.alloc (.cells #[.int .i64 p.ins, .int .i64 p.regs, .slice xa (fold p.code).length xc, .slice ya p.outs.length yc] 36) = w11 at *
          generalize w10.heap.size = E1 at *
          have c0 := HA.out.px.cell0
          have c1 := HA.out.px.cell1
          have c2 := HA.out.px.cell2
          have c3 := HA.out.px.cell3
          go_wp2_with fail
          refine (count_right _ p _ HA.out.hp RP.out).mono ?_
          rintro e w12 ⟨rfl, hb⟩
          replace HA := hide (HA.out.step hb)
          replace H2 := hide (H2.out.below hb)
          replace EX := hide (EX.out.step hb)
          clear hb c0 c1 c2 c3
          unfold cntI Ins.vals
          dsimp only
          go_upto_region 23 with fail
          have hb := below_alloc w12 (.cells #[.int .i64 (cnt 0 p.code), .int .i64 (cnt 1 p.code), .int .i64 (cnt 2 p.code), .int .i64 (cnt 3 p.code), .int .i64 (cnt 4 p.code)] 47)
          have KX : Hid (Box5 (w12.alloc (.cells #[.int .i64 (cnt 0 p.code), .int .i64 (cnt 1 p.code), .int .i64 (cnt 2 p.code), .int .i64 (cnt 3 p.code), .int .i64 (cnt 4 p.code)] 47)) w12.heap.size 47 (cntI p.code)) := hide (Box5.new w12 47 (cntI p.code))
          replace HA := hide (HA.out.step hb)
          replace H2 := hide (H2.out.below hb)
          replace EX := hide (EX.out.step hb)
          clear hb
          generalize w12.alloc (.cells #[.int .i64 (cnt 0 p.code), .int .i64 (cnt 1 p.code), .int .i64 (cnt 2 p.code), .int .i64 (cnt 3 p.code), .int .i64 (cnt 4 p.code)] 47) = w13 at *
          generalize w12.heap.size = E2 at *
          have d0 := HA.out.qx.cell0
          have d1 := HA.out.qx.cell1
          have d2 := HA.out.qx.cell2
          have d3 := HA.out.qx.cell3
          go_wp2_with fail
          refine (count_right _ (pasP p) _ HA.out.hq RQ.out).mono ?_
          rintro e w14 ⟨rfl, hb⟩
          replace HA := hide (HA.out.step hb)
          replace H2 := hide (H2.out.below hb)
          replace EX := hide (EX.out.step hb)
          replace KX := hide (KX.out.step hb)
          clear hb d0 d1 d2 d3
          unfold cntI Ins.vals
          dsimp only
          rw [show (pasP p).code = fold p.code from rfl]
          go_upto_region 24 with fail
          have hb := below_alloc w14 (.cells #[.int .i64 (cnt 0 (fold p.code)), .int .i64 (cnt 1 (fold p.code)), .int .i64 (cnt 2 (fold p.code)), .int .i64 (cnt 3 (fold p.code)), .int .i64 (cnt 4 (fold p.code))] 47)
          have LX : Hid (Box5 (w14.alloc (.cells #[.int .i64 (cnt 0 (fold p.code)), .int .i64 (cnt 1 (fold p.code)), .int .i64 (cnt 2 (fold p.code)), .int .i64 (cnt 3 (fold p.code)), .int .i64 (cnt 4 (fold p.code))] 47)) w14.heap.size 47 (cntI (fold p.code))) := hide (Box5.new w14 47 (cntI (fold p.code)))
          replace HA := hide (HA.out.step hb)
          replace H2 := hide (H2.out.below hb)
          replace EX := hide (EX.out.step hb)
          replace KX := hide (KX.out.step hb)
          clear hb
          generalize w14.alloc (.cells #[.int .i64 (cnt 0 (fold p.code)), .int .i64 (cnt 1 (fold p.code)), .int .i64 (cnt 2 (fold p.code)), .int .i64 (cnt 3 (fold p.code)), .int .i64 (cnt 4 (fold p.code))] 47) = w15 at *
          generalize w14.heap.size = E3 at *
          have d0 := HA.out.qx.cell0
          have d1 := HA.out.qx.cell1
          have d2 := HA.out.qx.cell2
          have d3 := HA.out.qx.cell3
          have x0 := EX.out.cell0
          have x1 := EX.out.cell1
          have x2 := EX.out.cell2
          have x3 := EX.out.cell3
          go_wp2_with fail
          refine (same_any _ _ (pasP p) (pasP p) _ H2.out HA.out.hq).mono ?_
          rintro e w16 ⟨rfl, hb⟩
          rw [eqB_yes rfl]
          replace HA := hide (HA.out.step hb)
          replace KX := hide (KX.out.step hb)
          replace LX := hide (LX.out.step hb)
          clear hb d0 d1 d2 d3 x0 x1 x2 x3
          have z2 := KX.out.cells.cell2
          have z3 := KX.out.cells.cell3
          have l2 := LX.out.cells.cell2
          have l3 := LX.out.cells.cell3
          simp only [Nat.zero_add] at z2 z3 l2 l3
          unfold cntI at z2 z3 l2 l3
          dsimp only at z2 z3 l2 l3
          obtain ⟨n2, n3⟩ := fold_cnt MF.out
          go_wp2
          go_ret
          exact ⟨by first | rfl | simp, HA.out.bel⟩
end Go.Proofs.YtokgdegfcncahaaDoor
