/- swagelaw02.of and swagelaw02.is: a number as the program and as the document's answers have it; integer.Int's Limbs. -/
import Derived.Test.YtnldhpleicpjfaaR2Limbs
namespace Go.Proofs.Ytnldhpleicpjfaa
open Go.RowKit

set_option maxRecDepth 100000 in
set_option maxHeartbeats 1000000 in
theorem ilimbs_any (v : Value) (z : Int) (w : World) (h : IntAt w v z) (hl : (lim z.natAbs).length ≤ 1000000000) :
    Calls Try.prog 12 #[v] w fun e w' => ∃ l, e = .returned (.tuple #[.bool (decide (z < 0)), l]) ∧ Nums w' l (lim z.natAbs) ∧ Below w.heap.size w w' := by
  obtain ⟨b, n, a, c, rfl, hn, rfl, h0⟩ := h
  have hb : decide (sg b n < 0) = b := by
    cases b with
    | true => have : n ≠ 0 := fun e => absurd (h0 e) (by decide)
              rw [sg_true, decide_eq_true (by omega)]
    | false => rw [sg_false, decide_eq_false (by omega)]
  rw [sg_abs] at hl ⊢
  rw [hb]
  have HE := hide (boxes1 w (.bool b) (.slice a (lim n).length c))
  have HN := hide (hn.below HE.out.2)
  clear hn h0 hb
  go_enter Try.func12, Try.ntmps12
  go_wp2_with fail
  refine wp_calm (fun w' => Below w.heap.size w w' ∧ Box w' w.heap.size (.bool b) (.slice a (lim n).length c)) (fun _ => true) 7 #[false, false, false, false, false, false, false] (by kernel_rfl) rfl rfl ?_
  have HF := hide (And.intro HE.out.2.drew HE.out.1.drew)
  refine Calm.take (i := 0) (v := ?_) (a' := ?_) (l' := #[true, false, false, false, false, false, false]) (d := some 4) rfl (by kernel_rfl) (by kernel_rfl) (by kernel_rfl) (by kernel_rfl) (fun _ _ _ h => h) HF.out rfl ?_ rfl rfl ?_ ?_
  rotate_left
  · intro w' hF; clear hF; go_simp; try rfl
  rotate_left
  · simp only [Act.put]; exact rfl
  refine Calm.take (i := 1) (v := ?_) (a' := ?_) (l' := #[true, true, false, false, false, false, false]) (d := some 5) rfl (by kernel_rfl) (by kernel_rfl) (by kernel_rfl) (by kernel_rfl) (fun _ _ _ h => h) HF.out rfl ?_ rfl rfl ?_ ?_
  rotate_left
  · intro w' hF; have f10 := hF.2.cell0; have f11 := hF.2.cell1; clear hF; go_simp; try rfl
  rotate_left
  · simp only [Act.put]; exact rfl
  refine Calm.take (i := 2) (v := ?_) (a' := ?_) (l' := #[true, true, true, false, false, false, false]) (d := some 6) rfl (by kernel_rfl) (by kernel_rfl) (by kernel_rfl) (by kernel_rfl) (fun _ _ _ h => h) HF.out rfl ?_ rfl rfl ?_ ?_
  rotate_left
  · intro w' hF; clear hF; go_simp; try rfl
  rotate_left
  · simp only [Act.put]; exact rfl
  refine Calm.take (i := 3) (v := ?_) (a' := ?_) (l' := #[true, true, true, true, false, false, false]) (d := some 7) rfl (by kernel_rfl) (by kernel_rfl) (by kernel_rfl) (by kernel_rfl) (fun _ _ _ h => h) HF.out rfl ?_ rfl rfl ?_ ?_
  rotate_left
  · intro w' hF; have f10 := hF.2.cell0; have f11 := hF.2.cell1; clear hF; go_simp; try rfl
  rotate_left
  · simp only [Act.put]; exact rfl
  refine Calm.one (i := 4) (l' := #[true, true, true, true, true, false, false]) (by kernel_rfl) rfl rfl rfl fun K hK => ?_
  go_simp
  refine (norm_any _ (lim n) _ HN.out.drew hl).mono ?_
  rintro e u0 ⟨l, rfl, _, n, hb⟩
  rw [val_lim] at n
  try replace BX := hide (BX.out.step hb)
  have T1 := hide n
  clear n
  have HF' := hide (And.intro (HF.out.1.trans ((hb).mono HF.out.1.size)) (HF.out.2.step (hb)))
  refine hK _ _ (fun _ => HF'.out) ?_
  clear hK K HF hb
  have HF := hide HF'.out
  clear HF'
  refine Calm.take (i := 5) (v := ?_) (a' := ?_) (l' := #[true, true, true, true, true, true, false]) (d := some 2) rfl (by kernel_rfl) (by kernel_rfl) (by kernel_rfl) (by kernel_rfl) (fun _ _ _ h => h) HF.out rfl ?_ rfl rfl ?_ ?_
  rotate_left
  · intro w' hF; clear hF; go_simp; try rfl
  rotate_left
  · simp only [Act.put]; exact rfl
  refine Calm.take (i := 6) (v := ?_) (a' := ?_) (l' := #[true, true, true, true, true, true, true]) (d := some 3) rfl (by kernel_rfl) (by kernel_rfl) (by kernel_rfl) (by kernel_rfl) (fun _ _ _ h => h) HF.out rfl ?_ rfl rfl ?_ ?_
  rotate_left
  · intro w' hF; clear hF; go_simp; try rfl
  rotate_left
  · simp only [Act.put]; exact rfl
  refine Calm.done (by kernel_rfl) ?_
  go_wp2
  go_ret2
  exact ⟨l, rfl, T1.out, HF.out.1⟩

set_option maxRecDepth 100000 in
set_option maxHeartbeats 1000000 in
theorem is_yes (v u : Value) (z : Int) (w : World) (h : IntAt w v z) (k : RInt w u z) (hl : (lim z.natAbs).length ≤ 1000000000) (hr : (D.lim z.natAbs).length ≤ 1000000000) :
    Calls Try.prog 10 #[v, u] w fun e w' => e = .returned (.bool true) ∧ Below w.heap.size w w' := by
  have I1 := hide h
  have I2 := hide k
  obtain ⟨b, n, a, c, rfl, hn, e1, h0⟩ := h
  obtain ⟨b', n', a', c', rfl, hn', e2, h0'⟩ := k
  have hbz : decide (z < 0) = b' := by
    subst e2
    cases b' with
    | true => have : n' ≠ 0 := fun e => absurd (h0' e) (by decide)
              rw [sg_true, decide_eq_true (by omega)]
    | false => rw [sg_false, decide_eq_false (by omega)]
  have HBX : Hid (Box ((w.alloc (.cells #[.bool b, .slice a (lim n).length c] 28)).alloc (.cells #[.bool b', .slice a' (D.lim n').length c'] 30)) w.heap.size (.bool b) (.slice a (lim n).length c)) := hide ((Box.new w _ _).step (below_alloc _ _))
  have HRX : Hid (Box2 ((w.alloc (.cells #[.bool b, .slice a (lim n).length c] 28)).alloc (.cells #[.bool b', .slice a' (D.lim n').length c'] 30)) (w.heap.size + 1) 30 (.bool b') (.slice a' (D.lim n').length c')) := hide (by have := Box2.new (w.alloc (.cells #[.bool b, .slice a (lim n).length c] 28)) 30 (.bool b') (.slice a' (D.lim n').length c'); rwa [World.size_alloc] at this)
  have HB : Hid (Below w.heap.size w ((w.alloc (.cells #[.bool b, .slice a (lim n).length c] 28)).alloc (.cells #[.bool b', .slice a' (D.lim n').length c'] 30))) := hide ((below_alloc _ _).trans ((below_alloc _ _).mono (by simp)))
  replace I1 := hide (I1.out.below HB.out)
  replace I2 := hide (I2.out.below HB.out)
  clear hn hn' h0 h0' e1 e2
  go_enter Try.func10, Try.ntmps10
  go_wp2_with fail
  refine (ilimbs_any _ z _ I1.out hl).mono ?_
  rintro e w1 ⟨l1, rfl, n1, hb1⟩
  rw [hbz]
  replace HRX := hide (HRX.out.step hb1)
  replace HB := hide (HB.out.trans (hb1.mono HB.out.size))
  replace I2 := hide (I2.out.below hb1)
  have hr0 := HRX.out.cell0
  have hr1 := HRX.out.cell1
  have HN1 := hide n1
  clear hb1 n1 HBX I1
  go_wp2_with fail
  refine (rlimbs_any _ z _ I2.out hr).mono ?_
  rintro e w2 ⟨l2, rfl, n2, hb2⟩
  replace HRX := hide (HRX.out.step hb2)
  replace HB := hide (HB.out.trans (hb2.mono HB.out.size))
  replace HN1 := hide (HN1.out.below hb2)
  have HN2 := hide n2
  clear hr0 hr1 hb2 n2 I2
  have hr0 := HRX.out.cell0
  generalize lim z.natAbs = L at *
  obtain ⟨_, a1, c1, rfl, _, hm1, hcc1⟩ := HN1.out
  obtain ⟨_, a2, c2, rfl, _, hm2, hcc2⟩ := HN2.out
  have HC1 := hide hcc1
  have HC2 := hide hcc2
  clear hcc1 hcc2
  unfold maxLen at hm1 hm2
  cases b'
  all_goals
    go_wp2
    go_loopw [8] (fun iv wr => ∃ k : Nat, k ≤ L.length ∧ iv = .int .i64 k ∧ ∃ q, wr = w2.drewN q) (fun iv _ => L.length - (intOf iv).toNat)
    case atStart => exact ⟨0, Nat.zero_le _, rfl, 0, rfl⟩
    case round =>
      obtain ⟨k, hk, rfl, q, rfl⟩ := hrel
      by_cases hlt : k < L.length
      · obtain ⟨B1, o1, rfl, hx1⟩ := HC1.out (ne_nil hlt)
        obtain ⟨B2, o2, rfl, hx2⟩ := HC2.out (ne_nil hlt)
        have k1 := hx1 k hlt
        have k2 := hx2 k hlt
        clear hx1 hx2
        have hxk : lm L k < 4294967296 := HN1.out.ok.at k
        have hltI : (k : Int) < (L.length : Int) := by omega
        go_wp2
        go_quiet (fail)
        go_wp2
        go_roundw
        case rel => exact ⟨k + 1, by omega, by go_num, _, rfl⟩
        case measure => simp [intOf]; omega
      · go_wp2
        go_ret
        exact ⟨rfl, below_drewN HB.out _⟩
end Go.Proofs.Ytnldhpleicpjfaa
