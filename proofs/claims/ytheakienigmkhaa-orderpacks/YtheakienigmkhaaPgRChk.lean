/- The document's Check. -/
import Derived.Test.YtheakienigmkhaaPgChk
import Derived.Test.YtheakienigmkhaaPgRMay
import Derived.Test.YtheakienigmkhaaCalm
namespace Go.Proofs.Ytheakienigmkhaa
open Go.RowKit

theorem num_no {p : Pg} (h : ¬ (1 ≤ p.ins ∧ p.ins ≤ p.regs ∧ p.regs ≤ 128 ∧ p.code.length ≤ 16384 ∧ 1 ≤ p.outs.length ∧ p.outs.length ≤ 128)) : headB p = false := by
  unfold headB
  have : numB p = false := by
    cases e : numB p with
    | false => rfl
    | true => unfold numB at e; simp only [Bool.and_eq_true, decide_eq_true_eq] at e; omega
  rw [this]; rfl
theorem num_yes {p : Pg} (h1 : 1 ≤ p.ins) (h2 : p.ins ≤ p.regs) (h3 : p.regs ≤ 128) (h4 : p.code.length ≤ 16384) (h5 : 1 ≤ p.outs.length) (h6 : p.outs.length ≤ 128) : numB p = true := by
  unfold numB; simp only [Bool.and_eq_true, decide_eq_true_eq]; omega

set_option maxRecDepth 100000 in
set_option maxHeartbeats 4000000 in
theorem rcheck_any (v : Value) (p : Pg) (w : World) (h : PgAt w v p) :
    Calls Try.prog 29 #[v] w fun e w' => e = rkV p ∧ Below w.heap.size w w' := by
  obtain ⟨ca, cc, oa, oc, rfl, hc, ho⟩ := h
  have HC := hide hc
  have HO := hide ho
  clear hc ho
  go_enter Try.func29, Try.ntmps29
  go_upto_region 1 with fail
  have hb := below_alloc w (.cells #[.int .i64 p.ins, .int .i64 p.regs, .slice ca p.code.length cc, .slice oa p.outs.length oc] 25)
  have PX := hide (Box4.new w 25 (.int .i64 p.ins) (.int .i64 p.regs) (.slice ca p.code.length cc) (.slice oa p.outs.length oc))
  replace HC := hide (HC.out.below hb)
  replace HO := hide (HO.out.below hb)
  have HB := hide hb
  clear hb
  generalize w.alloc (.cells #[.int .i64 p.ins, .int .i64 p.regs, .slice ca p.code.length cc, .slice oa p.outs.length oc] 25) = w1 at *
  obtain ⟨B, hB⟩ : ∃ B, B = w.heap.size := ⟨_, rfl⟩
  have HZ := hide hB
  rw [← hB] at PX ⊢
  clear hB
  have c0 := PX.out.cell0
  have c1 := PX.out.cell1
  have c2 := PX.out.cell2
  have c3 := PX.out.cell3
  have leave : ∀ (hh : headB p = false), rkV p = .returned (.tuple #[.int .i64 (-1), .bool true]) := fun hh => by
    obtain ⟨r1, r2⟩ := right_no hh
    unfold rkV; rw [r1, r2]; rfl
  have LV := hide leave
  clear leave
  by_cases q1 : p.ins < 1
  · go_wp2
    go_ret2
    exact ⟨(LV.out (num_no (by omega))).symm ▸ rfl, HB.out⟩
  by_cases q2 : p.regs < p.ins
  · go_wp2
    go_ret2
    exact ⟨(LV.out (num_no (by omega))).symm ▸ rfl, HB.out⟩
  by_cases q3 : 128 < p.regs
  · go_wp2
    go_ret2
    exact ⟨(LV.out (num_no (by omega))).symm ▸ rfl, HB.out⟩
  by_cases q4 : (16384 : Int) < (p.code.length : Int)
  · go_wp2
    go_ret2
    exact ⟨(LV.out (num_no (by omega))).symm ▸ rfl, HB.out⟩
  by_cases q5 : (p.outs.length : Int) < 1
  · go_wp2
    go_ret2
    exact ⟨(LV.out (num_no (by omega))).symm ▸ rfl, HB.out⟩
  by_cases q6 : (128 : Int) < (p.outs.length : Int)
  · go_wp2
    go_ret2
    exact ⟨(LV.out (num_no (by omega))).symm ▸ rfl, HB.out⟩
  have HN : Hid (numB p = true) := hide (num_yes (by omega) (by omega) (by omega) (by omega) (by omega) (by omega))
  have HS : Hid (p.outs.length ≤ 128 ∧ p.code.length ≤ 16384) := hide ⟨by omega, by omega⟩
  go_upto_region 4 with fail
  clear q1 q2 q3 q4 q5 q6
  obtain ⟨s1, s2⟩ := HS.out
  go_loopw [4] (fun iv wr => ∃ i : Nat, i ≤ p.outs.length ∧ iv = .int .i64 i ∧ Below w1.heap.size w1 wr ∧ ∀ j, j < i → regB p.regs (ot p.outs j) = true) (fun iv _ => p.outs.length - (intOf iv).toNat)
  case atStart => exact ⟨0, Nat.zero_le _, rfl, Below.refl _ _, fun j h => absurd h (Nat.not_lt_zero _)⟩
  case round =>
    obtain ⟨i, hi, rfl, hwr, hf⟩ := hrel
    have HF := hide hf
    have HV := hide hwr
    clear hf hwr c0 c1 c2 c3
    replace PX := hide (PX.out.step HV.out)
    replace HC := hide (HC.out.below HV.out)
    replace HO := hide (HO.out.below HV.out)
    replace HB := hide (HB.out.trans (HV.out.mono HB.out.size))
    have c0 := PX.out.cell0
    have c1 := PX.out.cell1
    have c2 := PX.out.cell2
    have c3 := PX.out.cell3
    by_cases hlt : i < p.outs.length
    · obtain ⟨b, off, rfl, k1⟩ := HO.out.at hlt
      obtain ⟨r, hr⟩ : ∃ r, r = ot p.outs i := ⟨_, rfl⟩
      rw [← hr] at k1
      have HR := hide hr
      clear hr
      by_cases h1 : r < 0
      · go_wp2
        go_quiet (fail)
        go_wp2
        go_ret2
        refine ⟨(LV.out ?_).symm ▸ rfl, below_drewN HB.out _⟩
        unfold headB
        rw [all_not hlt (by rw [← HR.out]; unfold regB; simp; omega), Bool.and_false]
      · by_cases h2 : p.regs ≤ r
        · go_wp2
          go_quiet (fail)
          go_wp2
          go_ret2
          refine ⟨(LV.out ?_).symm ▸ rfl, below_drewN HB.out _⟩
          unfold headB
          rw [all_not hlt (by rw [← HR.out]; unfold regB; simp; omega), Bool.and_false]
        · go_wp2
          go_quiet (fail)
          go_wp2
          go_roundw
          case rel => exact ⟨i + 1, by omega, by go_num, below_drewN HV.out _, fun j hj => by
            rcases Nat.lt_or_ge j i with h | h
            · exact HF.out j h
            · have e : j = i := by omega
              subst e
              rw [← HR.out]; unfold regB; simp; omega⟩
          case measure => simp [intOf]; omega
    · have e : i = p.outs.length := by omega
      subst e
      have HH : Hid (headB p = true) := hide (by unfold headB; rw [HN.out, all_of HF.out]; rfl)
      clear HF HN LV
      generalize wr = w2 at *
      go_upto_region 9 with fail
      go_loopw [5] (fun iv wq => ∃ i : Nat, i ≤ p.code.length ∧ iv = .int .i64 i ∧ Below w2.heap.size w2 wq ∧ ∀ j, j < i → mayB (cd p.code j) p.regs = true) (fun iv _ => p.code.length - (intOf iv).toNat)
      case atStart => exact ⟨0, Nat.zero_le _, rfl, Below.refl _ _, fun j h => absurd h (Nat.not_lt_zero _)⟩
      case round =>
        obtain ⟨i, hi, rfl, hwr, hf⟩ := hrel
        have HF := hide hf
        have HW := hide hwr
        clear hf hwr c0 c1 c2 c3
        replace PX := hide (PX.out.step HW.out)
        have c1 := PX.out.cell1
        have c2 := PX.out.cell2
        by_cases hlt : i < p.code.length
        · obtain ⟨b, off, rfl, k1⟩ := HC.out.at hlt
          replace k1 := k1.step HW.out
          obtain ⟨x, hx⟩ : ∃ x, x = cd p.code i := ⟨_, rfl⟩
          rw [← hx] at k1
          have HX := hide hx
          clear hx
          have IX := hide k1
          clear k1
          go_upto_region 11 with fail
          have HF0 := hide HF.out
          clear HF
          refine wp_calm (fun w' => Below w2.heap.size w2 w' ∧ Box4 w' B 25 (.int .i64 p.ins) (.int .i64 p.regs) (.slice (some ⟨b, off, none⟩) p.code.length cc) (.slice oa p.outs.length oc) ∧ InsC w' b (off + i * 5) x) (fun _ => true) 9 #[false, false, false, false, false, false, false, false, false] (by kernel_rfl) rfl rfl ?_
          have HF := hide (And.intro HW.out.drew (And.intro PX.out.drew IX.out.drew))
          generalize wr.drew = wrd at *
          refine Calm.take (i := 0) (v := ?_) (a' := ?_) (l' := #[true, false, false, false, false, false, false, false, false]) (d := some 69) rfl (by kernel_rfl) (by kernel_rfl) (by kernel_rfl) (by kernel_rfl) (fun _ _ _ h => h) HF.out rfl ?_ rfl rfl ?_ ?_
          rotate_left
          · intro w' hF; clear hF; go_simp; try rfl
          rotate_left
          · simp only [Act.put]; exact rfl
          refine Calm.take (i := 1) (v := ?_) (a' := ?_) (l' := #[true, true, false, false, false, false, false, false, false]) (d := some 70) rfl (by kernel_rfl) (by kernel_rfl) (by kernel_rfl) (by kernel_rfl) (fun _ _ _ h => h) HF.out rfl ?_ rfl rfl ?_ ?_
          rotate_left
          · intro w' hF; have f10 := hF.2.1.cell0; have f11 := hF.2.1.cell1; have f12 := hF.2.1.cell2; have f13 := hF.2.1.cell3; have f20 := hF.2.2.cell0; have f21 := hF.2.2.cell1; have f22 := hF.2.2.cell2; have f23 := hF.2.2.cell3; have f24 := hF.2.2.cell4; clear hF; go_simp; try rfl
          rotate_left
          · simp only [Act.put]; exact rfl
          refine Calm.take (i := 2) (v := ?_) (a' := ?_) (l' := #[true, true, true, false, false, false, false, false, false]) (d := some 71) rfl (by kernel_rfl) (by kernel_rfl) (by kernel_rfl) (by kernel_rfl) (fun _ _ _ h => h) HF.out rfl ?_ rfl rfl ?_ ?_
          rotate_left
          · intro w' hF; clear hF; go_simp; try rfl
          rotate_left
          · simp only [Act.put]; exact rfl
          refine Calm.take (i := 3) (v := ?_) (a' := ?_) (l' := #[true, true, true, true, false, false, false, false, false]) (d := some 72) rfl (by kernel_rfl) (by kernel_rfl) (by kernel_rfl) (by kernel_rfl) (fun _ _ _ h => h) HF.out rfl ?_ rfl rfl ?_ ?_
          rotate_left
          · intro w' hF; clear hF; go_simp; try rfl
          rotate_left
          · simp only [Act.put]; exact rfl
          refine Calm.take (i := 4) (v := ?_) (a' := ?_) (l' := #[true, true, true, true, true, false, false, false, false]) (d := some 73) rfl (by kernel_rfl) (by kernel_rfl) (by kernel_rfl) (by kernel_rfl) (fun _ _ _ h => h) HF.out rfl ?_ rfl rfl ?_ ?_
          rotate_left
          · intro w' hF; have f10 := hF.2.1.cell0; have f11 := hF.2.1.cell1; have f12 := hF.2.1.cell2; have f13 := hF.2.1.cell3; have f20 := hF.2.2.cell0; have f21 := hF.2.2.cell1; have f22 := hF.2.2.cell2; have f23 := hF.2.2.cell3; have f24 := hF.2.2.cell4; clear hF; go_simp; try rfl
          rotate_left
          · simp only [Act.put]; exact rfl
          refine Calm.take (i := 5) (v := ?_) (a' := ?_) (l' := #[true, true, true, true, true, true, false, false, false]) (d := some 74) rfl (by kernel_rfl) (by kernel_rfl) (by kernel_rfl) (by kernel_rfl) (fun _ _ _ h => h) HF.out rfl ?_ rfl rfl ?_ ?_
          rotate_left
          · intro w' hF; clear hF; go_simp; try rfl
          rotate_left
          · simp only [Act.put]; exact rfl
          refine Calm.take (i := 6) (v := ?_) (a' := ?_) (l' := #[true, true, true, true, true, true, true, false, false]) (d := some 75) rfl (by kernel_rfl) (by kernel_rfl) (by kernel_rfl) (by kernel_rfl) (fun _ _ _ h => h) HF.out rfl ?_ rfl rfl ?_ ?_
          rotate_left
          · intro w' hF; have f10 := hF.2.1.cell0; have f11 := hF.2.1.cell1; have f12 := hF.2.1.cell2; have f13 := hF.2.1.cell3; have f20 := hF.2.2.cell0; have f21 := hF.2.2.cell1; have f22 := hF.2.2.cell2; have f23 := hF.2.2.cell3; have f24 := hF.2.2.cell4; clear hF; go_simp; try rfl
          rotate_left
          · simp only [Act.put]; exact rfl
          refine Calm.one (i := 7) (l' := #[true, true, true, true, true, true, true, true, false]) (by kernel_rfl) rfl rfl rfl fun K hK => ?_
          go_simp
          refine (rmay_any x p.regs _).mono ?_
          rintro e w5 ⟨rfl, hb⟩
          have HF' := hide (And.intro (HF.out.1.trans ((hb).mono HF.out.1.size)) (And.intro (HF.out.2.1.step (hb)) (HF.out.2.2.step (hb))))
          refine hK _ _ (fun _ => HF'.out) ?_
          clear hK K HF hb
          have HF := hide HF'.out
          clear HF'
          refine Calm.take (i := 8) (v := ?_) (a' := ?_) (l' := #[true, true, true, true, true, true, true, true, true]) (d := some 77) rfl (by kernel_rfl) (by kernel_rfl) (by kernel_rfl) (by kernel_rfl) (fun _ _ _ h => h) HF.out rfl ?_ rfl rfl ?_ ?_
          rotate_left
          · intro w' hF; clear hF; go_simp; try rfl
          rotate_left
          · simp only [Act.put]; exact rfl
          refine Calm.done (by kernel_rfl) ?_
          replace HW := hide HF.out.1
          clear HF PX IX c1 c2
          cases hmay : mayB x p.regs with
          | false =>
            have HY := hide hmay
            clear hmay
            go_wp2
            go_ret2
            obtain ⟨r1, r2⟩ := right_bad HH.out hlt (by rw [← HX.out]; exact HY.out) HF0.out
            unfold rkV
            rw [r1, r2]
            exact ⟨rfl, HB.out.trans (HW.out.mono HB.out.size)⟩
          | true =>
            have HY := hide hmay
            clear hmay
            go_wp2
            go_roundw
            case rel =>
              refine ⟨i + 1, by omega, by go_num, ?_, fun j hj => ?_⟩
              · exact HW.out
              · rcases Nat.lt_or_ge j i with h | h
                · exact HF0.out j h
                · have e : j = i := by omega
                  subst e
                  rw [← HX.out]; exact HY.out
            case measure => simp [intOf]; omega
        · have e : i = p.code.length := by omega
          subst e
          go_wp2
          go_ret2
          obtain ⟨r1, r2⟩ := right_yes HH.out HF.out
          unfold rkV
          rw [r1, r2]
          exact ⟨rfl, HB.out.trans (HW.out.mono HB.out.size)⟩
end Go.Proofs.Ytheakienigmkhaa
