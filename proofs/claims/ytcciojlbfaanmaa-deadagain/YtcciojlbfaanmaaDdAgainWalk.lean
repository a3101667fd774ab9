/- swagelaw15.DeadAgain answers true at all programs, and turns nothing that was there. -/
import Derived.Test.YtcciojlbfaanmaaDdWk
import Derived.Test.YtcciojlbfaanmaaCalmL
namespace Go.Proofs.Ytcciojlbfaanmaa
open Go.RowKit

theorem ixs_none (n k : Nat) : ixsK (List.replicate n false) k = [] := by
  unfold ixsK
  rw [List.filter_eq_nil_iff]
  intro j _
  rw [bl_replicate]; decide
theorem idR_nums {p : Pg} (h : rightB p = true) : (nums (ixsK (idR p) (idR p).length)).length + (ddP p).code.length = p.code.length := by
  have e : idR p = idL p := by unfold idR; rw [h]; rfl
  rw [e, idL_length, ← stK_all]
  have := stK_idK p p.code.length
  unfold nums
  rw [List.length_map]
  exact this
theorem idR_dd {p : Pg} (h : rightB p = true) : nums (ixsK (idR (ddP p)) (idR (ddP p)).length) = [] := by
  have e : idR (ddP p) = idL (ddP p) := by unfold idR; rw [dd_right h]; rfl
  rw [e, dd_idle, ixs_none]; rfl
theorem lg15_few {p : Pg} (h : lg15 p = false) (hr : rightB p = true) : p.code.length ≤ 400 := by
  have := (right_parts hr).2.2.2.1
  unfold lg15 at h
  simp at h
  omega
set_option maxRecDepth 100000 in
set_option linter.unusedVariables false
set_option maxHeartbeats 16000000 in
theorem dagain_walk (v : Value) (p : Pg) (w : World) (h : PgAt w v p) :
    Calls Try.prog 7 #[v] w fun e w' => e = .returned (.bool true) ∧ Below w.heap.size w w' := by
  have HP := hide h
  obtain ⟨ca, cc, oa, oc, rfl, hc, ho⟩ := h
  clear hc ho
  go_enter Try.func7, Try.ntmps7
  go_upto_region 1 with fail
  have hb := below_alloc w (.cells #[.int .i64 p.ins, .int .i64 p.regs, .slice ca p.code.length cc, .slice oa p.outs.length oc] 25)
  have PX := hide (Box4.new w 25 (.int .i64 p.ins) (.int .i64 p.regs) (.slice ca p.code.length cc) (.slice oa p.outs.length oc))
  replace HP := hide (HP.out.below hb)
  have HB := hide hb
  clear hb
  generalize w.alloc (.cells #[.int .i64 p.ins, .int .i64 p.regs, .slice ca p.code.length cc, .slice oa p.outs.length oc] 25) = w1 at *
  obtain ⟨B, hBB⟩ : ∃ B, B = w.heap.size := ⟨_, rfl⟩
  rw [← hBB] at PX ⊢
  have HZ := hide hBB
  clear hBB
  go_wp2_with fail
  refine (dwork_any _).mono ?_
  rintro e w2 ⟨rfl, hb⟩
  replace HP := hide (HP.out.below hb)
  replace PX := hide (PX.out.step hb)
  replace HB := hide (HB.out.trans (hb.mono HB.out.size))
  clear hb
  have c0 := PX.out.cell0
  have c1 := PX.out.cell1
  have c2 := PX.out.cell2
  have c3 := PX.out.cell3
  go_wp2_with fail
  refine (lg15_any _ p _ HP.out).mono ?_
  rintro e w3 ⟨rfl, hb⟩
  replace HP := hide (HP.out.below hb)
  replace PX := hide (PX.out.step hb)
  replace HB := hide (HB.out.trans (hb.mono HB.out.size))
  clear hb
  clear c0 c1 c2 c3
  cases hlg : lg15 p with
  | true =>
    go_wp2
    go_ret
    exact ⟨rfl, HB.out⟩
  | false =>
    have LE := hide (fun hr => lg15_few hlg hr)
    clear hlg
    have c0 := PX.out.cell0
    have c1 := PX.out.cell1
    have c2 := PX.out.cell2
    have c3 := PX.out.cell3
    go_wp2_with fail
    refine (dpass_any _ p _ HP.out LE.out).mono ?_
    rintro e w4 ⟨hR, hb⟩
    unfold DdPassR at hR
    clear c0 c1 c2 c3
    cases hr : rightB p with
    | false =>
      rw [hr, if_neg (by decide)] at hR
      subst hR
      replace HP := hide (HP.out.below hb)
      replace PX := hide (PX.out.step hb)
      replace HB := hide (HB.out.trans (hb.mono HB.out.size))
      clear hb
      go_wp2
      go_ret
      exact ⟨by first | rfl | simp, HB.out.trans ((below_alloc _ _).mono HB.out.size)⟩
    | true =>
      rw [hr, if_pos rfl] at hR
      obtain ⟨vq, rfl, vc, vo, hv, h1, h2⟩ := hR
      have LP := hide (LE.out hr)
      have LQ : Hid ((ddP p).code.length ≤ 400) := hide (Nat.le_trans (stay_length _ _) (LE.out hr))
      have RQ := hide (dd_right hr)
      have AG := hide (dd_again p)
      have AK := hide (dd_asked p)
      have NQ := hide (dd_needed p)
      have IQ := hide (idR_dd hr)
      have IN := hide (idR_nums hr)
      have RR : Hid ((ddP p).regs = p.regs) := hide rfl
      have RP := hide hr
      generalize ddP p = q at *
      have h1' : OwnC w4 w3.heap.size vc q.code := h1
      have h2' : OwnO w4 w3.heap.size vo q.outs := h2
      clear h1 h2
      obtain ⟨qa, qc, hqa⟩ := own_slice h1'
      subst hqa
      obtain ⟨ra, rc, hra⟩ := own_slice h2'
      subst hra
      replace hv : vq = .agg #[.int .i64 q.ins, .int .i64 q.regs, .slice qa q.code.length qc, .slice ra q.outs.length rc] := hv
      subst hv
      have HQ : Hid (PgAt w4 (.agg #[.int .i64 q.ins, .int .i64 q.regs, .slice qa q.code.length qc, .slice ra q.outs.length rc]) q) := hide (OwnPg.at (p := q) ⟨_, _, rfl, h1', h2'⟩)
      clear hr h1' h2'
      replace HP := hide (HP.out.below hb)
      replace PX := hide (PX.out.step hb)
      replace HB := hide (HB.out.trans (hb.mono HB.out.size))
      clear hb
      go_upto_region 6 with fail
      have hb := below_alloc w4 (.cells #[.int .i64 q.ins, .int .i64 q.regs, .slice qa q.code.length qc, .slice ra q.outs.length rc] 25)
      have QX : Hid (Box4 (w4.alloc (.cells #[.int .i64 q.ins, .int .i64 q.regs, .slice qa q.code.length qc, .slice ra q.outs.length rc] 25)) w4.heap.size 25 (.int .i64 q.ins) (.int .i64 q.regs) (.slice qa q.code.length qc) (.slice ra q.outs.length rc)) := hide (Box4.new w4 25 _ _ _ _)
      replace HP := hide (HP.out.below hb)
      replace HQ := hide (HQ.out.below hb)
      replace PX := hide (PX.out.step hb)
      replace HB := hide (HB.out.trans (hb.mono HB.out.size))
      clear hb
      generalize w4.alloc (.cells #[.int .i64 q.ins, .int .i64 q.regs, .slice qa q.code.length qc, .slice ra q.outs.length rc] 25) = w5 at *
      generalize w4.heap.size = Q at *
      have c0 := QX.out.cell0
      have c1 := QX.out.cell1
      have c2 := QX.out.cell2
      have c3 := QX.out.cell3
      go_wp2_with fail
      refine (needed_right _ q _ HQ.out RQ.out LQ.out).mono ?_
      rw [NQ.out]
      rintro e w6 ⟨gn, rfl, hon, hb⟩
      have NB : Hid (BoolsAt w6 (.slice (some ⟨gn, 0, none⟩) q.code.length q.code.length) (List.replicate q.code.length true)) := hide (by have := hon.bools; exact this)
      clear hon c0 c1 c2 c3
      replace HP := hide (HP.out.below hb)
      replace HQ := hide (HQ.out.below hb)
      replace PX := hide (PX.out.step hb)
      replace QX := hide (QX.out.step hb)
      replace HB := hide (HB.out.trans (hb.mono HB.out.size))
      clear hb
      have c0 := QX.out.cell0
      have c1 := QX.out.cell1
      have c2 := QX.out.cell2
      have c3 := QX.out.cell3
      go_wp2_with fail
      refine (dpass_any _ q _ HQ.out (fun _ => LQ.out)).mono ?_
      rintro e w7 ⟨hR, hb⟩
      unfold DdPassR at hR
      rw [RQ.out, if_pos rfl, AG.out] at hR
      obtain ⟨vy, rfl, hown⟩ := hR
      have hk := hown.at
      obtain ⟨ya, yc, za, zc, hv, _, _⟩ := id hk
      replace hv : vy = .agg #[.int .i64 q.ins, .int .i64 q.regs, .slice ya q.code.length yc, .slice za q.outs.length zc] := hv
      subst hv
      have HY := hide hk
      clear hown hk c0 c1 c2 c3
      replace NB := hide (NB.out.below hb)
      replace HP := hide (HP.out.below hb)
      replace HQ := hide (HQ.out.below hb)
      replace PX := hide (PX.out.step hb)
      replace QX := hide (QX.out.step hb)
      replace HB := hide (HB.out.trans (hb.mono HB.out.size))
      clear hb
      go_upto_region 10 with fail
      have hb0 := below_alloc w7 (.cells #[.int .i64 q.ins, .int .i64 q.regs, .slice ya q.code.length yc, .slice za q.outs.length zc] 25)
      replace NB := hide (NB.out.below hb0)
      clear hb0
      have hb := below_alloc w7 (.cells #[.int .i64 q.ins, .int .i64 q.regs, .slice ya q.code.length yc, .slice za q.outs.length zc] 25)
      have YX : Hid (Box4 (w7.alloc (.cells #[.int .i64 q.ins, .int .i64 q.regs, .slice ya q.code.length yc, .slice za q.outs.length zc] 25)) w7.heap.size 25 (.int .i64 q.ins) (.int .i64 q.regs) (.slice ya q.code.length yc) (.slice za q.outs.length zc)) := hide (Box4.new w7 25 _ _ _ _)
      replace HP := hide (HP.out.below hb)
      replace HQ := hide (HQ.out.below hb)
      replace HY := hide (HY.out.below hb)
      replace PX := hide (PX.out.step hb)
      replace QX := hide (QX.out.step hb)
      replace HB := hide (HB.out.trans (hb.mono HB.out.size))
      clear hb
      generalize w7.alloc (.cells #[.int .i64 q.ins, .int .i64 q.regs, .slice ya q.code.length yc, .slice za q.outs.length zc] 25) = w8 at *
      generalize w7.heap.size = Y at *
      have c0 := PX.out.cell0
      have c1 := PX.out.cell1
      have c2 := PX.out.cell2
      have c3 := PX.out.cell3
      go_wp2_with fail
      refine (asked_any _ p _ HP.out (LE.out)).mono ?_
      rintro e w9 ⟨hR, hb⟩
      unfold AskR at hR
      rw [RP.out, if_pos rfl] at hR
      obtain ⟨gA, rfl, hoa⟩ := hR
      have AB := hide hoa.bools
      clear hoa c0 c1 c2 c3
      replace NB := hide (NB.out.below hb)
      replace HP := hide (HP.out.below hb)
      replace HQ := hide (HQ.out.below hb)
      replace HY := hide (HY.out.below hb)
      replace PX := hide (PX.out.step hb)
      replace QX := hide (QX.out.step hb)
      replace YX := hide (YX.out.step hb)
      replace HB := hide (HB.out.trans (hb.mono HB.out.size))
      clear hb
      have c0 := QX.out.cell0
      have c1 := QX.out.cell1
      have c2 := QX.out.cell2
      have c3 := QX.out.cell3
      go_wp2_with fail
      refine (asked_any _ q _ HQ.out (fun _ => LQ.out)).mono ?_
      rintro e w10 ⟨hR, hb⟩
      unfold AskR at hR
      rw [RQ.out, if_pos rfl] at hR
      obtain ⟨gC, rfl, hoa⟩ := hR
      have CB := hide hoa.bools
      clear hoa c0 c1 c2 c3
      replace NB := hide (NB.out.below hb)
      replace AB := hide (AB.out.below hb)
      replace HP := hide (HP.out.below hb)
      replace HQ := hide (HQ.out.below hb)
      replace HY := hide (HY.out.below hb)
      replace PX := hide (PX.out.step hb)
      replace QX := hide (QX.out.step hb)
      replace YX := hide (YX.out.step hb)
      replace HB := hide (HB.out.trans (hb.mono HB.out.size))
      clear hb
      go_upto_region 12 with fail
      refine wp_calm (fun w' => Below w10.heap.size w10 w') (fun _ => true) 49 #[false, false, false, false, false, false, false, false, false, false, false, false, false, false, false, false, false, false, false, false, false, false, false, false, false, false, false, false, false, false, false, false, false, false, false, false, false, false, false, false, false, false, false, false, false, false, false, false, false] (by kernel_rfl) rfl rfl ?_
      have HF := hide ((Below.refl w10.heap.size w10).drew)
      generalize w10.drew = w10d at *
      refine Calm.takeL 49 (i := 0) (v := ?_) (a' := ?_) (l' := #[true, false, false, false, false, false, false, false, false, false, false, false, false, false, false, false, false, false, false, false, false, false, false, false, false, false, false, false, false, false, false, false, false, false, false, false, false, false, false, false, false, false, false, false, false, false, false, false, false]) (d := some 45) (by kernel_rfl) rfl (by kernel_rfl) (by kernel_rfl) (by kernel_rfl) (by kernel_rfl) (fun _ _ _ h => h) HF.out rfl ?_ rfl rfl ?_ ?_
      rotate_left
      · intro w' hF; clear hF; go_simp; try rfl
      rotate_left
      · simp only [Act.put]; exact rfl
      refine Calm.takeL 49 (i := 1) (v := ?_) (a' := ?_) (l' := #[true, true, false, false, false, false, false, false, false, false, false, false, false, false, false, false, false, false, false, false, false, false, false, false, false, false, false, false, false, false, false, false, false, false, false, false, false, false, false, false, false, false, false, false, false, false, false, false, false]) (d := some 46) (by kernel_rfl) rfl (by kernel_rfl) (by kernel_rfl) (by kernel_rfl) (by kernel_rfl) (fun _ _ _ h => h) HF.out rfl ?_ rfl rfl ?_ ?_
      rotate_left
      · intro w' hF; clear hF; go_simp; try rfl
      rotate_left
      · simp only [Act.put]; exact rfl
      refine Calm.takeL 49 (i := 2) (v := ?_) (a' := ?_) (l' := #[true, true, true, false, false, false, false, false, false, false, false, false, false, false, false, false, false, false, false, false, false, false, false, false, false, false, false, false, false, false, false, false, false, false, false, false, false, false, false, false, false, false, false, false, false, false, false, false, false]) (d := some 47) (by kernel_rfl) rfl (by kernel_rfl) (by kernel_rfl) (by kernel_rfl) (by kernel_rfl) (fun _ _ _ h => h) HF.out rfl ?_ rfl rfl ?_ ?_
      rotate_left
      · intro w' hF; clear hF; go_simp; try rfl
      rotate_left
      · simp only [Act.put]; exact rfl
      refine Calm.takeL 49 (i := 3) (v := ?_) (a' := ?_) (l' := #[true, true, true, true, false, false, false, false, false, false, false, false, false, false, false, false, false, false, false, false, false, false, false, false, false, false, false, false, false, false, false, false, false, false, false, false, false, false, false, false, false, false, false, false, false, false, false, false, false]) (d := some 48) (by kernel_rfl) rfl (by kernel_rfl) (by kernel_rfl) (by kernel_rfl) (by kernel_rfl) (fun _ _ _ h => h) HF.out (by kernel_rfl) ?_ rfl rfl ?_ ?_
      rotate_left
      · intro w' hF; clear hF; go_simp; try rfl
      rotate_left
      · simp only [Act.put]; exact rfl
      refine Calm.takeL 49 (i := 4) (v := ?_) (a' := ?_) (l' := #[true, true, true, true, true, false, false, false, false, false, false, false, false, false, false, false, false, false, false, false, false, false, false, false, false, false, false, false, false, false, false, false, false, false, false, false, false, false, false, false, false, false, false, false, false, false, false, false, false]) (d := some 49) (by kernel_rfl) rfl (by kernel_rfl) (by kernel_rfl) (by kernel_rfl) (by kernel_rfl) (fun _ _ _ h => h) HF.out (by kernel_rfl) ?_ rfl rfl ?_ ?_
      rotate_left
      · intro w' hF; clear hF; go_simp; try rfl
      rotate_left
      · simp only [Act.put]; exact rfl
      refine Calm.takeL 49 (i := 5) (v := ?_) (a' := ?_) (l' := #[true, true, true, true, true, true, false, false, false, false, false, false, false, false, false, false, false, false, false, false, false, false, false, false, false, false, false, false, false, false, false, false, false, false, false, false, false, false, false, false, false, false, false, false, false, false, false, false, false]) (d := some 50) (by kernel_rfl) rfl (by kernel_rfl) (by kernel_rfl) (by kernel_rfl) (by kernel_rfl) (fun _ _ _ h => h) HF.out rfl ?_ rfl rfl ?_ ?_
      rotate_left
      · intro w' hF; clear hF; go_simp; try rfl
      rotate_left
      · simp only [Act.put]; exact rfl
      refine Calm.takeL 49 (i := 6) (v := ?_) (a' := ?_) (l' := #[true, true, true, true, true, true, true, false, false, false, false, false, false, false, false, false, false, false, false, false, false, false, false, false, false, false, false, false, false, false, false, false, false, false, false, false, false, false, false, false, false, false, false, false, false, false, false, false, false]) (d := some 51) (by kernel_rfl) rfl (by kernel_rfl) (by kernel_rfl) (by kernel_rfl) (by kernel_rfl) (fun _ _ _ h => h) HF.out rfl ?_ rfl rfl ?_ ?_
      rotate_left
      · intro w' hF; clear hF; go_simp; try rfl
      rotate_left
      · simp only [Act.put]; exact rfl
      refine Calm.takeL 49 (i := 7) (v := ?_) (a' := ?_) (l' := #[true, true, true, true, true, true, true, true, false, false, false, false, false, false, false, false, false, false, false, false, false, false, false, false, false, false, false, false, false, false, false, false, false, false, false, false, false, false, false, false, false, false, false, false, false, false, false, false, false]) (d := some 52) (by kernel_rfl) rfl (by kernel_rfl) (by kernel_rfl) (by kernel_rfl) (by kernel_rfl) (fun _ _ _ h => h) HF.out (by kernel_rfl) ?_ rfl rfl ?_ ?_
      rotate_left
      · intro w' hF; clear hF; go_simp; try rfl
      rotate_left
      · simp only [Act.put]; exact rfl
      refine Calm.takeL 49 (i := 8) (v := ?_) (a' := ?_) (l' := #[true, true, true, true, true, true, true, true, true, false, false, false, false, false, false, false, false, false, false, false, false, false, false, false, false, false, false, false, false, false, false, false, false, false, false, false, false, false, false, false, false, false, false, false, false, false, false, false, false]) (d := some 53) (by kernel_rfl) rfl (by kernel_rfl) (by kernel_rfl) (by kernel_rfl) (by kernel_rfl) (fun _ _ _ h => h) HF.out (by kernel_rfl) ?_ rfl rfl ?_ ?_
      rotate_left
      · intro w' hF; clear hF; go_simp; try rfl
      rotate_left
      · simp only [Act.put]; exact rfl
      refine Calm.takeL 49 (i := 9) (v := ?_) (a' := ?_) (l' := #[true, true, true, true, true, true, true, true, true, true, false, false, false, false, false, false, false, false, false, false, false, false, false, false, false, false, false, false, false, false, false, false, false, false, false, false, false, false, false, false, false, false, false, false, false, false, false, false, false]) (d := some 54) (by kernel_rfl) rfl (by kernel_rfl) (by kernel_rfl) (by kernel_rfl) (by kernel_rfl) (fun _ _ _ h => h) HF.out rfl ?_ rfl rfl ?_ ?_
      rotate_left
      · intro w' hF; clear hF; go_simp; try rfl
      rotate_left
      · simp only [Act.put]; exact rfl
      refine Calm.takeL 49 (i := 10) (v := ?_) (a' := ?_) (l' := #[true, true, true, true, true, true, true, true, true, true, true, false, false, false, false, false, false, false, false, false, false, false, false, false, false, false, false, false, false, false, false, false, false, false, false, false, false, false, false, false, false, false, false, false, false, false, false, false, false]) (d := some 55) (by kernel_rfl) rfl (by kernel_rfl) (by kernel_rfl) (by kernel_rfl) (by kernel_rfl) (fun _ _ _ h => h) HF.out rfl ?_ rfl rfl ?_ ?_
      rotate_left
      · intro w' hF; clear hF; go_simp; try rfl
      rotate_left
      · simp only [Act.put]; exact rfl
      refine Calm.takeL 49 (i := 11) (v := ?_) (a' := ?_) (l' := #[true, true, true, true, true, true, true, true, true, true, true, true, false, false, false, false, false, false, false, false, false, false, false, false, false, false, false, false, false, false, false, false, false, false, false, false, false, false, false, false, false, false, false, false, false, false, false, false, false]) (d := some 56) (by kernel_rfl) rfl (by kernel_rfl) (by kernel_rfl) (by kernel_rfl) (by kernel_rfl) (fun _ _ _ h => h) HF.out (by kernel_rfl) ?_ rfl rfl ?_ ?_
      rotate_left
      · intro w' hF; clear hF; go_simp; try rfl
      rotate_left
      · simp only [Act.put]; exact rfl
      refine Calm.takeL 49 (i := 12) (v := ?_) (a' := ?_) (l' := #[true, true, true, true, true, true, true, true, true, true, true, true, true, false, false, false, false, false, false, false, false, false, false, false, false, false, false, false, false, false, false, false, false, false, false, false, false, false, false, false, false, false, false, false, false, false, false, false, false]) (d := some 57) (by kernel_rfl) rfl (by kernel_rfl) (by kernel_rfl) (by kernel_rfl) (by kernel_rfl) (fun _ _ _ h => h) HF.out (by kernel_rfl) ?_ rfl rfl ?_ ?_
      rotate_left
      · intro w' hF; clear hF; go_simp; try rfl
      rotate_left
      · simp only [Act.put]; exact rfl
      refine Calm.takeL 49 (i := 13) (v := ?_) (a' := ?_) (l' := #[true, true, true, true, true, true, true, true, true, true, true, true, true, true, false, false, false, false, false, false, false, false, false, false, false, false, false, false, false, false, false, false, false, false, false, false, false, false, false, false, false, false, false, false, false, false, false, false, false]) (d := some 58) (by kernel_rfl) rfl (by kernel_rfl) (by kernel_rfl) (by kernel_rfl) (by kernel_rfl) (fun _ _ _ h => h) HF.out rfl ?_ rfl rfl ?_ ?_
      rotate_left
      · intro w' hF; clear hF; go_simp; try rfl
      rotate_left
      · simp only [Act.put]; exact rfl
      refine Calm.takeL 49 (i := 14) (v := ?_) (a' := ?_) (l' := #[true, true, true, true, true, true, true, true, true, true, true, true, true, true, true, false, false, false, false, false, false, false, false, false, false, false, false, false, false, false, false, false, false, false, false, false, false, false, false, false, false, false, false, false, false, false, false, false, false]) (d := some 59) (by kernel_rfl) rfl (by kernel_rfl) (by kernel_rfl) (by kernel_rfl) (by kernel_rfl) (fun _ _ _ h => h) HF.out rfl ?_ rfl rfl ?_ ?_
      rotate_left
      · intro w' hF; clear hF; go_simp; try rfl
      rotate_left
      · simp only [Act.put]; exact rfl
      refine Calm.takeL 49 (i := 15) (v := ?_) (a' := ?_) (l' := #[true, true, true, true, true, true, true, true, true, true, true, true, true, true, true, true, false, false, false, false, false, false, false, false, false, false, false, false, false, false, false, false, false, false, false, false, false, false, false, false, false, false, false, false, false, false, false, false, false]) (d := some 60) (by kernel_rfl) rfl (by kernel_rfl) (by kernel_rfl) (by kernel_rfl) (by kernel_rfl) (fun _ _ _ h => h) HF.out (by kernel_rfl) ?_ rfl rfl ?_ ?_
      rotate_left
      · intro w' hF; clear hF; go_simp; try rfl
      rotate_left
      · simp only [Act.put]; exact rfl
      refine Calm.one (i := 16) (l' := #[true, true, true, true, true, true, true, true, true, true, true, true, true, true, true, true, true, false, false, false, false, false, false, false, false, false, false, false, false, false, false, false, false, false, false, false, false, false, false, false, false, false, false, false, false, false, false, false, false]) (by kernel_rfl) rfl (by kernel_rfl) rfl fun K hK => ?_
      go_simp
      refine (contains_ones _ q.code.length _ (NB.out.below HF.out)).mono ?_
      rintro e u1 ⟨rfl, hb⟩
      have HF' := hide (HF.out.trans ((hb).mono HF.out.size))
      refine hK _ _ (fun _ => HF'.out) ?_
      clear hK K HF hb
      have HF := hide HF'.out
      clear HF'
      refine Calm.takeL 49 (i := 17) (v := ?_) (a' := ?_) (l' := #[true, true, true, true, true, true, true, true, true, true, true, true, true, true, true, true, true, true, false, false, false, false, false, false, false, false, false, false, false, false, false, false, false, false, false, false, false, false, false, false, false, false, false, false, false, false, false, false, false]) (d := some 62) (by kernel_rfl) rfl (by kernel_rfl) (by kernel_rfl) (by kernel_rfl) (by kernel_rfl) (fun _ _ _ h => h) HF.out (by kernel_rfl) ?_ rfl rfl ?_ ?_
      rotate_left
      · intro w' hF; clear hF; go_simp; try rfl
      rotate_left
      · simp only [Act.put]; exact rfl
      refine Calm.takeL 49 (i := 18) (v := ?_) (a' := ?_) (l' := #[true, true, true, true, true, true, true, true, true, true, true, true, true, true, true, true, true, true, true, false, false, false, false, false, false, false, false, false, false, false, false, false, false, false, false, false, false, false, false, false, false, false, false, false, false, false, false, false, false]) (d := some 63) (by kernel_rfl) rfl (by kernel_rfl) (by kernel_rfl) (by kernel_rfl) (by kernel_rfl) (fun _ _ _ h => h) HF.out rfl ?_ rfl rfl ?_ ?_
      rotate_left
      · intro w' hF; clear hF; go_simp; try rfl
      rotate_left
      · simp only [Act.put]; exact rfl
      refine Calm.takeL 49 (i := 19) (v := ?_) (a' := ?_) (l' := #[true, true, true, true, true, true, true, true, true, true, true, true, true, true, true, true, true, true, true, true, false, false, false, false, false, false, false, false, false, false, false, false, false, false, false, false, false, false, false, false, false, false, false, false, false, false, false, false, false]) (d := some 64) (by kernel_rfl) rfl (by kernel_rfl) (by kernel_rfl) (by kernel_rfl) (by kernel_rfl) (fun _ _ _ h => h) HF.out rfl ?_ rfl rfl ?_ ?_
      rotate_left
      · intro w' hF; clear hF; go_simp; try rfl
      rotate_left
      · simp only [Act.put]; exact rfl
      refine Calm.takeL 49 (i := 20) (v := ?_) (a' := ?_) (l' := #[true, true, true, true, true, true, true, true, true, true, true, true, true, true, true, true, true, true, true, true, true, false, false, false, false, false, false, false, false, false, false, false, false, false, false, false, false, false, false, false, false, false, false, false, false, false, false, false, false]) (d := some 65) (by kernel_rfl) rfl (by kernel_rfl) (by kernel_rfl) (by kernel_rfl) (by kernel_rfl) (fun _ _ _ h => h) HF.out (by kernel_rfl) ?_ rfl rfl ?_ ?_
      rotate_left
      · intro w' hF; have e0 := (PX.out.step hF).cell0; have e1 := (PX.out.step hF).cell1; have e2 := (PX.out.step hF).cell2; have e3 := (PX.out.step hF).cell3; have g0 := (QX.out.step hF).cell0; have g1 := (QX.out.step hF).cell1; have g2 := (QX.out.step hF).cell2; have g3 := (QX.out.step hF).cell3; have y0 := (YX.out.step hF).cell0; have y1 := (YX.out.step hF).cell1; have y2 := (YX.out.step hF).cell2; have y3 := (YX.out.step hF).cell3; clear hF; go_simp; try rfl
      rotate_left
      · simp only [Act.put]; exact rfl
      refine Calm.takeL 49 (i := 21) (v := ?_) (a' := ?_) (l' := #[true, true, true, true, true, true, true, true, true, true, true, true, true, true, true, true, true, true, true, true, true, true, false, false, false, false, false, false, false, false, false, false, false, false, false, false, false, false, false, false, false, false, false, false, false, false, false, false, false]) (d := some 66) (by kernel_rfl) rfl (by kernel_rfl) (by kernel_rfl) (by kernel_rfl) (by kernel_rfl) (fun _ _ _ h => h) HF.out (by kernel_rfl) ?_ rfl rfl ?_ ?_
      rotate_left
      · intro w' hF; have e0 := (PX.out.step hF).cell0; have e1 := (PX.out.step hF).cell1; have e2 := (PX.out.step hF).cell2; have e3 := (PX.out.step hF).cell3; have g0 := (QX.out.step hF).cell0; have g1 := (QX.out.step hF).cell1; have g2 := (QX.out.step hF).cell2; have g3 := (QX.out.step hF).cell3; have y0 := (YX.out.step hF).cell0; have y1 := (YX.out.step hF).cell1; have y2 := (YX.out.step hF).cell2; have y3 := (YX.out.step hF).cell3; clear hF; go_simp; try rfl
      rotate_left
      · simp only [Act.put]; exact rfl
      refine Calm.one (i := 22) (l' := #[true, true, true, true, true, true, true, true, true, true, true, true, true, true, true, true, true, true, true, true, true, true, true, false, false, false, false, false, false, false, false, false, false, false, false, false, false, false, false, false, false, false, false, false, false, false, false, false, false]) (by kernel_rfl) rfl (by kernel_rfl) rfl fun K hK => ?_
      go_simp
      refine (same_any _ _ q q _ (HY.out.below HF.out) (HQ.out.below HF.out)).mono ?_
      rintro e u2 ⟨rfl, hb⟩
      rw [eqB_yes rfl]
      have HF' := hide (HF.out.trans ((hb).mono HF.out.size))
      refine hK _ _ (fun _ => HF'.out) ?_
      clear hK K HF hb
      have HF := hide HF'.out
      clear HF'
      refine Calm.takeL 49 (i := 23) (v := ?_) (a' := ?_) (l' := #[true, true, true, true, true, true, true, true, true, true, true, true, true, true, true, true, true, true, true, true, true, true, true, true, false, false, false, false, false, false, false, false, false, false, false, false, false, false, false, false, false, false, false, false, false, false, false, false, false]) (d := some 68) (by kernel_rfl) rfl (by kernel_rfl) (by kernel_rfl) (by kernel_rfl) (by kernel_rfl) (fun _ _ _ h => h) HF.out rfl ?_ rfl rfl ?_ ?_
      rotate_left
      · intro w' hF; clear hF; go_simp; try rfl
      rotate_left
      · simp only [Act.put]; exact rfl
      refine Calm.takeL 49 (i := 24) (v := ?_) (a' := ?_) (l' := #[true, true, true, true, true, true, true, true, true, true, true, true, true, true, true, true, true, true, true, true, true, true, true, true, true, false, false, false, false, false, false, false, false, false, false, false, false, false, false, false, false, false, false, false, false, false, false, false, false]) (d := some 69) (by kernel_rfl) rfl (by kernel_rfl) (by kernel_rfl) (by kernel_rfl) (by kernel_rfl) (fun _ _ _ h => h) HF.out rfl ?_ rfl rfl ?_ ?_
      rotate_left
      · intro w' hF; clear hF; go_simp; try rfl
      rotate_left
      · simp only [Act.put]; exact rfl
      refine Calm.takeL 49 (i := 25) (v := ?_) (a' := ?_) (l' := #[true, true, true, true, true, true, true, true, true, true, true, true, true, true, true, true, true, true, true, true, true, true, true, true, true, true, false, false, false, false, false, false, false, false, false, false, false, false, false, false, false, false, false, false, false, false, false, false, false]) (d := some 70) (by kernel_rfl) rfl (by kernel_rfl) (by kernel_rfl) (by kernel_rfl) (by kernel_rfl) (fun _ _ _ h => h) HF.out (by kernel_rfl) ?_ rfl rfl ?_ ?_
      rotate_left
      · intro w' hF; clear hF; go_simp; try rfl
      rotate_left
      · simp only [Act.put]; exact rfl
      refine Calm.takeL 49 (i := 26) (v := ?_) (a' := ?_) (l' := #[true, true, true, true, true, true, true, true, true, true, true, true, true, true, true, true, true, true, true, true, true, true, true, true, true, true, true, false, false, false, false, false, false, false, false, false, false, false, false, false, false, false, false, false, false, false, false, false, false]) (d := some 71) (by kernel_rfl) rfl (by kernel_rfl) (by kernel_rfl) (by kernel_rfl) (by kernel_rfl) (fun _ _ _ h => h) HF.out (by kernel_rfl) ?_ rfl rfl ?_ ?_
      rotate_left
      · intro w' hF; have e0 := (PX.out.step hF).cell0; have e1 := (PX.out.step hF).cell1; have e2 := (PX.out.step hF).cell2; have e3 := (PX.out.step hF).cell3; have g0 := (QX.out.step hF).cell0; have g1 := (QX.out.step hF).cell1; have g2 := (QX.out.step hF).cell2; have g3 := (QX.out.step hF).cell3; have y0 := (YX.out.step hF).cell0; have y1 := (YX.out.step hF).cell1; have y2 := (YX.out.step hF).cell2; have y3 := (YX.out.step hF).cell3; clear hF; go_simp; try rfl
      rotate_left
      · simp only [Act.put]; exact rfl
      refine Calm.takeL 49 (i := 27) (v := ?_) (a' := ?_) (l' := #[true, true, true, true, true, true, true, true, true, true, true, true, true, true, true, true, true, true, true, true, true, true, true, true, true, true, true, true, false, false, false, false, false, false, false, false, false, false, false, false, false, false, false, false, false, false, false, false, false]) (d := some 72) (by kernel_rfl) rfl (by kernel_rfl) (by kernel_rfl) (by kernel_rfl) (by kernel_rfl) (fun _ _ _ h => h) HF.out (by kernel_rfl) ?_ rfl rfl ?_ ?_
      rotate_left
      · intro w' hF; clear hF; go_simp; try rfl
      rotate_left
      · simp only [Act.put]; exact rfl
      refine Calm.takeL 49 (i := 28) (v := ?_) (a' := ?_) (l' := #[true, true, true, true, true, true, true, true, true, true, true, true, true, true, true, true, true, true, true, true, true, true, true, true, true, true, true, true, true, false, false, false, false, false, false, false, false, false, false, false, false, false, false, false, false, false, false, false, false]) (d := some 73) (by kernel_rfl) rfl (by kernel_rfl) (by kernel_rfl) (by kernel_rfl) (by kernel_rfl) (fun _ _ _ h => h) HF.out (by kernel_rfl) ?_ rfl rfl ?_ ?_
      rotate_left
      · intro w' hF; have e0 := (PX.out.step hF).cell0; have e1 := (PX.out.step hF).cell1; have e2 := (PX.out.step hF).cell2; have e3 := (PX.out.step hF).cell3; have g0 := (QX.out.step hF).cell0; have g1 := (QX.out.step hF).cell1; have g2 := (QX.out.step hF).cell2; have g3 := (QX.out.step hF).cell3; have y0 := (YX.out.step hF).cell0; have y1 := (YX.out.step hF).cell1; have y2 := (YX.out.step hF).cell2; have y3 := (YX.out.step hF).cell3; clear hF; go_simp; try rfl
      rotate_left
      · simp only [Act.put]; exact rfl
      refine Calm.takeL 49 (i := 32) (v := ?_) (a' := ?_) (l' := #[true, true, true, true, true, true, true, true, true, true, true, true, true, true, true, true, true, true, true, true, true, true, true, true, true, true, true, true, true, false, false, false, true, false, false, false, false, false, false, false, false, false, false, false, false, false, false, false, false]) (d := some 77) (by kernel_rfl) rfl (by kernel_rfl) (by kernel_rfl) (by kernel_rfl) (by kernel_rfl) (fun _ _ _ h => h) HF.out (by kernel_rfl) ?_ rfl rfl ?_ ?_
      rotate_left
      · intro w' hF; clear hF; go_simp; try rfl
      rotate_left
      · simp only [Act.put]; exact rfl
      refine Calm.takeL 49 (i := 33) (v := ?_) (a' := ?_) (l' := #[true, true, true, true, true, true, true, true, true, true, true, true, true, true, true, true, true, true, true, true, true, true, true, true, true, true, true, true, true, false, false, false, true, true, false, false, false, false, false, false, false, false, false, false, false, false, false, false, false]) (d := some 78) (by kernel_rfl) rfl (by kernel_rfl) (by kernel_rfl) (by kernel_rfl) (by kernel_rfl) (fun _ _ _ h => h) HF.out (by kernel_rfl) ?_ rfl rfl ?_ ?_
      rotate_left
      · intro w' hF; have e0 := (PX.out.step hF).cell0; have e1 := (PX.out.step hF).cell1; have e2 := (PX.out.step hF).cell2; have e3 := (PX.out.step hF).cell3; have g0 := (QX.out.step hF).cell0; have g1 := (QX.out.step hF).cell1; have g2 := (QX.out.step hF).cell2; have g3 := (QX.out.step hF).cell3; have y0 := (YX.out.step hF).cell0; have y1 := (YX.out.step hF).cell1; have y2 := (YX.out.step hF).cell2; have y3 := (YX.out.step hF).cell3; clear hF; go_simp; try rfl
      rotate_left
      · simp only [Act.put]; exact rfl
      refine Calm.takeL 49 (i := 34) (v := ?_) (a' := ?_) (l' := #[true, true, true, true, true, true, true, true, true, true, true, true, true, true, true, true, true, true, true, true, true, true, true, true, true, true, true, true, true, false, false, false, true, true, true, false, false, false, false, false, false, false, false, false, false, false, false, false, false]) (d := some 79) (by kernel_rfl) rfl (by kernel_rfl) (by kernel_rfl) (by kernel_rfl) (by kernel_rfl) (fun _ _ _ h => h) HF.out (by kernel_rfl) ?_ rfl rfl ?_ ?_
      rotate_left
      · intro w' hF; clear hF; go_simp; try rfl
      rotate_left
      · simp only [Act.put]; exact rfl
      refine Calm.one (i := 29) (l' := #[true, true, true, true, true, true, true, true, true, true, true, true, true, true, true, true, true, true, true, true, true, true, true, true, true, true, true, true, true, true, false, false, true, true, true, false, false, false, false, false, false, false, false, false, false, false, false, false, false]) (by kernel_rfl) rfl (by kernel_rfl) rfl fun K hK => ?_
      go_simp
      refine (lidle_any _ p _ (HP.out.below HF.out) LE.out).mono ?_
      rintro e u3 ⟨⟨vo, rfl, hvo⟩, hb⟩
      obtain ⟨na, nc, hna⟩ := own_slice hvo
      obtain ⟨n1, hn1⟩ : ∃ n1, n1 = (nums (ixsK (idR p) (idR p).length)).length := ⟨_, rfl⟩
      rw [← hn1] at hna
      subst hna
      have HW : Hid (IntKind.i64.wrap ((q.code.length : Int) + (n1 : Int)) = (p.code.length : Int)) := hide (by have h1 := IN.out; have h2 := LP.out; rw [← hn1] at h1; have e1 : (q.code.length : Int) + (n1 : Int) = (p.code.length : Int) := (by omega); rw [e1]; exact wr64 (by omega) (by omega))
      clear hvo hn1
      have HF' := hide (HF.out.trans ((hb).mono HF.out.size))
      refine hK _ _ (fun _ => HF'.out) ?_
      clear hK K HF hb
      have HF := hide HF'.out
      clear HF'
      refine Calm.takeL 49 (i := 30) (v := ?_) (a' := ?_) (l' := #[true, true, true, true, true, true, true, true, true, true, true, true, true, true, true, true, true, true, true, true, true, true, true, true, true, true, true, true, true, true, true, false, true, true, true, false, false, false, false, false, false, false, false, false, false, false, false, false, false]) (d := some 75) (by kernel_rfl) rfl (by kernel_rfl) (by kernel_rfl) (by kernel_rfl) (by kernel_rfl) (fun _ _ _ h => h) HF.out (by kernel_rfl) ?_ rfl rfl ?_ ?_
      rotate_left
      · intro w' hF; clear hF; go_simp; try rfl
      rotate_left
      · simp only [Act.put]; exact rfl
      refine Calm.takeL 49 (i := 31) (v := ?_) (a' := ?_) (l' := #[true, true, true, true, true, true, true, true, true, true, true, true, true, true, true, true, true, true, true, true, true, true, true, true, true, true, true, true, true, true, true, true, true, true, true, false, false, false, false, false, false, false, false, false, false, false, false, false, false]) (d := some 76) (by kernel_rfl) rfl (by kernel_rfl) (by kernel_rfl) (by kernel_rfl) (by kernel_rfl) (fun _ _ _ h => h) HF.out (by kernel_rfl) ?_ rfl rfl ?_ ?_
      rotate_left
      · intro w' hF; clear hF; go_simp; rw [HW.out]; try rfl
      rotate_left
      · simp only [Act.put]; exact rfl
      refine Calm.takeL 49 (i := 35) (v := ?_) (a' := ?_) (l' := #[true, true, true, true, true, true, true, true, true, true, true, true, true, true, true, true, true, true, true, true, true, true, true, true, true, true, true, true, true, true, true, true, true, true, true, true, false, false, false, false, false, false, false, false, false, false, false, false, false]) (d := some 80) (by kernel_rfl) rfl (by kernel_rfl) (by kernel_rfl) (by kernel_rfl) (by kernel_rfl) (fun _ _ _ h => h) HF.out (by kernel_rfl) ?_ rfl rfl ?_ ?_
      rotate_left
      · intro w' hF; clear hF; go_simp; exact rfl; try rfl
      rotate_left
      · simp only [Act.put]; exact rfl
      refine Calm.takeL 49 (i := 36) (v := ?_) (a' := ?_) (l' := #[true, true, true, true, true, true, true, true, true, true, true, true, true, true, true, true, true, true, true, true, true, true, true, true, true, true, true, true, true, true, true, true, true, true, true, true, true, false, false, false, false, false, false, false, false, false, false, false, false]) (d := some 81) (by kernel_rfl) rfl (by kernel_rfl) (by kernel_rfl) (by kernel_rfl) (by kernel_rfl) (fun _ _ _ h => h) HF.out rfl ?_ rfl rfl ?_ ?_
      rotate_left
      · intro w' hF; clear hF; go_simp; try rfl
      rotate_left
      · simp only [Act.put]; exact rfl
      refine Calm.takeL 49 (i := 37) (v := ?_) (a' := ?_) (l' := #[true, true, true, true, true, true, true, true, true, true, true, true, true, true, true, true, true, true, true, true, true, true, true, true, true, true, true, true, true, true, true, true, true, true, true, true, true, true, false, false, false, false, false, false, false, false, false, false, false]) (d := some 82) (by kernel_rfl) rfl (by kernel_rfl) (by kernel_rfl) (by kernel_rfl) (by kernel_rfl) (fun _ _ _ h => h) HF.out rfl ?_ rfl rfl ?_ ?_
      rotate_left
      · intro w' hF; clear hF; go_simp; try rfl
      rotate_left
      · simp only [Act.put]; exact rfl
      refine Calm.takeL 49 (i := 38) (v := ?_) (a' := ?_) (l' := #[true, true, true, true, true, true, true, true, true, true, true, true, true, true, true, true, true, true, true, true, true, true, true, true, true, true, true, true, true, true, true, true, true, true, true, true, true, true, true, false, false, false, false, false, false, false, false, false, false]) (d := some 83) (by kernel_rfl) rfl (by kernel_rfl) (by kernel_rfl) (by kernel_rfl) (by kernel_rfl) (fun _ _ _ h => h) HF.out (by kernel_rfl) ?_ rfl rfl ?_ ?_
      rotate_left
      · intro w' hF; clear hF; go_simp; try rfl
      rotate_left
      · simp only [Act.put]; exact rfl
      refine Calm.takeL 49 (i := 39) (v := ?_) (a' := ?_) (l' := #[true, true, true, true, true, true, true, true, true, true, true, true, true, true, true, true, true, true, true, true, true, true, true, true, true, true, true, true, true, true, true, true, true, true, true, true, true, true, true, true, false, false, false, false, false, false, false, false, false]) (d := some 84) (by kernel_rfl) rfl (by kernel_rfl) (by kernel_rfl) (by kernel_rfl) (by kernel_rfl) (fun _ _ _ h => h) HF.out (by kernel_rfl) ?_ rfl rfl ?_ ?_
      rotate_left
      · intro w' hF; clear hF; go_simp; try rfl
      rotate_left
      · simp only [Act.put]; exact rfl
      refine Calm.one (i := 40) (l' := #[true, true, true, true, true, true, true, true, true, true, true, true, true, true, true, true, true, true, true, true, true, true, true, true, true, true, true, true, true, true, true, true, true, true, true, true, true, true, true, true, true, false, false, false, false, false, false, false, false]) (by kernel_rfl) rfl (by kernel_rfl) rfl fun K hK => ?_
      go_simp
      refine (eqbl_any _ _ (askd p) (askd q) _ (AB.out.below HF.out) (CB.out.below HF.out)).mono ?_
      rintro e u4 ⟨rfl, hb⟩
      rw [eqB_yes AK.out.symm]
      have HF' := hide (HF.out.trans ((hb).mono HF.out.size))
      refine hK _ _ (fun _ => HF'.out) ?_
      clear hK K HF hb
      have HF := hide HF'.out
      clear HF'
      refine Calm.takeL 49 (i := 41) (v := ?_) (a' := ?_) (l' := #[true, true, true, true, true, true, true, true, true, true, true, true, true, true, true, true, true, true, true, true, true, true, true, true, true, true, true, true, true, true, true, true, true, true, true, true, true, true, true, true, true, true, false, false, false, false, false, false, false]) (d := some 86) (by kernel_rfl) rfl (by kernel_rfl) (by kernel_rfl) (by kernel_rfl) (by kernel_rfl) (fun _ _ _ h => h) HF.out rfl ?_ rfl rfl ?_ ?_
      rotate_left
      · intro w' hF; clear hF; go_simp; try rfl
      rotate_left
      · simp only [Act.put]; exact rfl
      refine Calm.takeL 49 (i := 42) (v := ?_) (a' := ?_) (l' := #[true, true, true, true, true, true, true, true, true, true, true, true, true, true, true, true, true, true, true, true, true, true, true, true, true, true, true, true, true, true, true, true, true, true, true, true, true, true, true, true, true, true, true, false, false, false, false, false, false]) (d := some 87) (by kernel_rfl) rfl (by kernel_rfl) (by kernel_rfl) (by kernel_rfl) (by kernel_rfl) (fun _ _ _ h => h) HF.out rfl ?_ rfl rfl ?_ ?_
      rotate_left
      · intro w' hF; clear hF; go_simp; try rfl
      rotate_left
      · simp only [Act.put]; exact rfl
      refine Calm.takeL 49 (i := 43) (v := ?_) (a' := ?_) (l' := #[true, true, true, true, true, true, true, true, true, true, true, true, true, true, true, true, true, true, true, true, true, true, true, true, true, true, true, true, true, true, true, true, true, true, true, true, true, true, true, true, true, true, true, true, false, false, false, false, false]) (d := some 88) (by kernel_rfl) rfl (by kernel_rfl) (by kernel_rfl) (by kernel_rfl) (by kernel_rfl) (fun _ _ _ h => h) HF.out (by kernel_rfl) ?_ rfl rfl ?_ ?_
      rotate_left
      · intro w' hF; have e0 := (PX.out.step hF).cell0; have e1 := (PX.out.step hF).cell1; have e2 := (PX.out.step hF).cell2; have e3 := (PX.out.step hF).cell3; have g0 := (QX.out.step hF).cell0; have g1 := (QX.out.step hF).cell1; have g2 := (QX.out.step hF).cell2; have g3 := (QX.out.step hF).cell3; have y0 := (YX.out.step hF).cell0; have y1 := (YX.out.step hF).cell1; have y2 := (YX.out.step hF).cell2; have y3 := (YX.out.step hF).cell3; clear hF; go_simp; try rfl
      rotate_left
      · simp only [Act.put]; exact rfl
      refine Calm.one (i := 44) (l' := #[true, true, true, true, true, true, true, true, true, true, true, true, true, true, true, true, true, true, true, true, true, true, true, true, true, true, true, true, true, true, true, true, true, true, true, true, true, true, true, true, true, true, true, true, true, false, false, false, false]) (by kernel_rfl) rfl (by kernel_rfl) rfl fun K hK => ?_
      go_simp
      refine (lidle_any _ q _ (HQ.out.below HF.out) (fun _ => LQ.out)).mono ?_
      rw [IQ.out]
      rintro e u5 ⟨⟨vo2, rfl, hvo⟩, hb⟩
      obtain ⟨nb, nd, hna⟩ := own_slice hvo
      replace hna : vo2 = .slice nb 0 nd := hna
      subst hna
      clear hvo
      have HF' := hide (HF.out.trans ((hb).mono HF.out.size))
      refine hK _ _ (fun _ => HF'.out) ?_
      clear hK K HF hb
      have HF := hide HF'.out
      clear HF'
      refine Calm.takeL 49 (i := 45) (v := ?_) (a' := ?_) (l' := #[true, true, true, true, true, true, true, true, true, true, true, true, true, true, true, true, true, true, true, true, true, true, true, true, true, true, true, true, true, true, true, true, true, true, true, true, true, true, true, true, true, true, true, true, true, true, false, false, false]) (d := some 90) (by kernel_rfl) rfl (by kernel_rfl) (by kernel_rfl) (by kernel_rfl) (by kernel_rfl) (fun _ _ _ h => h) HF.out (by kernel_rfl) ?_ rfl rfl ?_ ?_
      rotate_left
      · intro w' hF; clear hF; go_simp; try rfl
      rotate_left
      · simp only [Act.put]; exact rfl
      refine Calm.takeL 49 (i := 46) (v := ?_) (a' := ?_) (l' := #[true, true, true, true, true, true, true, true, true, true, true, true, true, true, true, true, true, true, true, true, true, true, true, true, true, true, true, true, true, true, true, true, true, true, true, true, true, true, true, true, true, true, true, true, true, true, true, false, false]) (d := some 91) (by kernel_rfl) rfl (by kernel_rfl) (by kernel_rfl) (by kernel_rfl) (by kernel_rfl) (fun _ _ _ h => h) HF.out (by kernel_rfl) ?_ rfl rfl ?_ ?_
      rotate_left
      · intro w' hF; clear hF; go_simp; try rfl
      rotate_left
      · simp only [Act.put]; exact rfl
      refine Calm.takeL 49 (i := 47) (v := ?_) (a' := ?_) (l' := #[true, true, true, true, true, true, true, true, true, true, true, true, true, true, true, true, true, true, true, true, true, true, true, true, true, true, true, true, true, true, true, true, true, true, true, true, true, true, true, true, true, true, true, true, true, true, true, true, false]) (d := some 92) (by kernel_rfl) rfl (by kernel_rfl) (by kernel_rfl) (by kernel_rfl) (by kernel_rfl) (fun _ _ _ h => h) HF.out rfl ?_ rfl rfl ?_ ?_
      rotate_left
      · intro w' hF; clear hF; go_simp; try rfl
      rotate_left
      · simp only [Act.put]; exact rfl
      refine Calm.takeL 49 (i := 48) (v := ?_) (a' := ?_) (l' := #[true, true, true, true, true, true, true, true, true, true, true, true, true, true, true, true, true, true, true, true, true, true, true, true, true, true, true, true, true, true, true, true, true, true, true, true, true, true, true, true, true, true, true, true, true, true, true, true, true]) (d := some 2) (by kernel_rfl) rfl (by kernel_rfl) (by kernel_rfl) (by kernel_rfl) (by kernel_rfl) (fun _ _ _ h => h) HF.out rfl ?_ rfl rfl ?_ ?_
      rotate_left
      · intro w' hF; clear hF; go_simp; try rfl
      rotate_left
      · simp only [Act.put]; exact rfl
      refine Calm.done (by kernel_rfl) ?_
      have hb := HF.out
      replace HB := hide (HB.out.trans (hb.mono HB.out.size))
      go_wp2
      go_ret
      exact ⟨by first | rfl | simp, HB.out⟩
end Go.Proofs.Ytcciojlbfaanmaa
