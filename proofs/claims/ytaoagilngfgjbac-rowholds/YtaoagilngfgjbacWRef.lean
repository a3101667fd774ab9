/- swageref04's Cmp, Same, IsZero. -/
import Derived.Test.YtaoagilngfgjbacWCmp
import Derived.Test.YtaoagilngfgjbacWList
import Derived.Test.YtaoagilngfgjbacR2Cmp
namespace Go.Proofs.Ytaoagilngfgjbac
open Go.RowKit

theorem leadI_zero_iff : ∀ (zs : List Int), (leadI zs == 0) = true ↔ ∀ z ∈ zs, z = 0
  | [] => by simp [leadI]
  | z :: r => by
    have ih := leadI_zero_iff r
    by_cases h : z = 0
    · subst h
      rw [show leadI (0 :: r) = leadI r from if_pos rfl, ih]
      simp
    · rw [show leadI (z :: r) = sgnI z from if_neg h]
      have := sgnI_ne0 h
      rw [this]
      simp [h]

set_option maxRecDepth 100000 in
set_option maxHeartbeats 4000000 in
theorem r4cmp_any (va vb : Value) (xs ys : List Int) (w : World) (h1 : RInts w va xs) (h2 : RInts w vb ys) :
    Calls Try.prog 9 #[va, vb] w fun e w' => e = .returned (.int .i64 (rowCmp xs ys)) ∧ Below w.heap.size w w' := by
  have H1 := hide h1
  have H2 := hide h2
  obtain ⟨a, cap, rfl, hcap, hmx, _⟩ := h1
  obtain ⟨a', cap', rfl, hcap', hmx', _⟩ := h2
  unfold maxLen at hmx hmx'
  unfold rowCmp
  by_cases hl : xs.length = ys.length
  · rw [if_pos hl]
    generalize hyl : ys.length = ny at *
    subst hl
    have HL := hide hyl
    clear hyl
    go_enter Try.func9, Try.ntmps9
    go_wp2
    go_loopw [5, 6] (fun iv _ wr => ∃ k : Nat, k ≤ xs.length ∧ iv = .int .i64 k ∧ Below w.heap.size w wr ∧ cmpL (xs.drop k) (ys.drop k) = cmpL xs ys) (fun iv _ _ => xs.length - (intOf iv).toNat)
    case atStart => exact ⟨0, Nat.zero_le _, rfl, Below.refl _ _, rfl⟩
    case round =>
      obtain ⟨k, hk, rfl, hbel, hld⟩ := hrel
      have HB := hide hbel
      have HD := hide hld
      clear hbel hld
      by_cases hlt : k < xs.length
      · obtain ⟨b, off, rfl, s, m, l, c, k1, k2, k3⟩ := (H1.out.below HB.out).at hlt
        obtain ⟨b2, off2, rfl, s2, m2, l2, c2, q1, q2, q3⟩ := (H2.out.below HB.out).at (i := k) (by rw [HL.out]; exact hlt)
        have HZ := hide (cmpL_drop (ys := ys) hlt (by rw [HL.out]; exact hlt))
        have K1 := hide k1
        have K2 := hide k2
        have Q1 := hide q1
        have Q2 := hide q2
        have I1 := hide k3
        have I2 := hide q3
        clear k1 k2 k3 q1 q2 q3
        generalize xs.getD k 0 = x at *
        generalize ys.getD k 0 = y at *
        by_cases hz : x = y
        · have SG : cmpZ x y = 0 := by rw [hz]; exact cmpZ_self y
          have HZ0 := hide hz
          have HS := hide SG
          clear hz SG
          go_wp2_with fail
          refine wp_calm (fun w' => Below w.heap.size w w' ∧ CellAt w' ⟨b, off + k * 2, none⟩ (.bool s) ∧ CellAt w' ⟨b, off + k * 2 + 1, none⟩ (.slice m l c) ∧ CellAt w' ⟨b2, off2 + k * 2, none⟩ (.bool s2) ∧ CellAt w' ⟨b2, off2 + k * 2 + 1, none⟩ (.slice m2 l2 c2) ∧ RInt w' (.agg #[.bool s, .slice m l c]) x ∧ RInt w' (.agg #[.bool s2, .slice m2 l2 c2]) y) (fun _ => true) 10 #[false, false, false, false, false, false, false, false, false, false] (by kernel_rfl) rfl rfl ?_
          have HF := hide (And.intro (HB.out.drew) (And.intro (K1.out.drew) (And.intro (K2.out.drew) (And.intro (Q1.out.drew) (And.intro (Q2.out.drew) (And.intro (I1.out.drew) (I2.out.drew)))))))
          generalize wr.drew = wrd at *
          refine Calm.take (i := 0) (v := ?_) (a' := ?_) (l' := #[true, false, false, false, false, false, false, false, false, false]) (d := some 23) rfl (by kernel_rfl) (by kernel_rfl) (by kernel_rfl) (by kernel_rfl) (fun _ _ _ h => h) HF.out rfl ?_ rfl rfl ?_ ?_
          rotate_left
          · intro w' hF; clear hF; go_simp; try rfl
          rotate_left
          · simp only [Act.put]; exact rfl
          refine Calm.take (i := 1) (v := ?_) (a' := ?_) (l' := #[true, true, false, false, false, false, false, false, false, false]) (d := some 24) rfl (by kernel_rfl) (by kernel_rfl) (by kernel_rfl) (by kernel_rfl) (fun _ _ _ h => h) HF.out rfl ?_ rfl rfl ?_ ?_
          rotate_left
          · intro w' hF; clear hF; go_simp; try rfl
          rotate_left
          · simp only [Act.put]; exact rfl
          refine Calm.take (i := 2) (v := ?_) (a' := ?_) (l' := #[true, true, true, false, false, false, false, false, false, false]) (d := some 25) rfl (by kernel_rfl) (by kernel_rfl) (by kernel_rfl) (by kernel_rfl) (fun _ _ _ h => h) HF.out rfl ?_ rfl rfl ?_ ?_
          rotate_left
          · intro w' hF; clear hF; go_simp; try rfl
          rotate_left
          · simp only [Act.put]; exact rfl
          refine Calm.take (i := 3) (v := ?_) (a' := ?_) (l' := #[true, true, true, true, false, false, false, false, false, false]) (d := some 26) rfl (by kernel_rfl) (by kernel_rfl) (by kernel_rfl) (by kernel_rfl) (fun _ _ _ h => h) HF.out rfl ?_ rfl rfl ?_ ?_
          rotate_left
          · intro w' hF; have f10 := hF.2.1.out; have f20 := hF.2.2.1.out; have f30 := hF.2.2.2.1.out; have f40 := hF.2.2.2.2.1.out; clear hF; go_simp; try rfl
          rotate_left
          · simp only [Act.put]; exact rfl
          refine Calm.take (i := 4) (v := ?_) (a' := ?_) (l' := #[true, true, true, true, true, false, false, false, false, false]) (d := some 27) rfl (by kernel_rfl) (by kernel_rfl) (by kernel_rfl) (by kernel_rfl) (fun _ _ _ h => h) HF.out rfl ?_ rfl rfl ?_ ?_
          rotate_left
          · intro w' hF; clear hF; go_simp; try rfl
          rotate_left
          · simp only [Act.put]; exact rfl
          refine Calm.take (i := 5) (v := ?_) (a' := ?_) (l' := #[true, true, true, true, true, true, false, false, false, false]) (d := some 28) rfl (by kernel_rfl) (by kernel_rfl) (by kernel_rfl) (by kernel_rfl) (fun _ _ _ h => h) HF.out rfl ?_ rfl rfl ?_ ?_
          rotate_left
          · intro w' hF; clear hF; go_simp; try rfl
          rotate_left
          · simp only [Act.put]; exact rfl
          refine Calm.take (i := 6) (v := ?_) (a' := ?_) (l' := #[true, true, true, true, true, true, true, false, false, false]) (d := some 29) rfl (by kernel_rfl) (by kernel_rfl) (by kernel_rfl) (by kernel_rfl) (fun _ _ _ h => h) HF.out rfl ?_ rfl rfl ?_ ?_
          rotate_left
          · intro w' hF; clear hF; go_simp; try rfl
          rotate_left
          · simp only [Act.put]; exact rfl
          refine Calm.take (i := 7) (v := ?_) (a' := ?_) (l' := #[true, true, true, true, true, true, true, true, false, false]) (d := some 30) rfl (by kernel_rfl) (by kernel_rfl) (by kernel_rfl) (by kernel_rfl) (fun _ _ _ h => h) HF.out rfl ?_ rfl rfl ?_ ?_
          rotate_left
          · intro w' hF; have f10 := hF.2.1.out; have f20 := hF.2.2.1.out; have f30 := hF.2.2.2.1.out; have f40 := hF.2.2.2.2.1.out; clear hF; go_simp; try rfl
          rotate_left
          · simp only [Act.put]; exact rfl
          refine Calm.one (i := 8) (l' := #[true, true, true, true, true, true, true, true, true, false]) (by kernel_rfl) rfl rfl rfl fun K hK => ?_
          go_simp
          refine (rcmp_any _ _ x y _ HF.out.2.2.2.2.2.1 HF.out.2.2.2.2.2.2).mono ?_
          rintro e w1 ⟨rfl, hb⟩
          rw [HS.out]
          have HF' := hide (And.intro (HF.out.1.trans ((hb).mono HF.out.1.size)) (And.intro (HF.out.2.1.step (hb)) (And.intro (HF.out.2.2.1.step (hb)) (And.intro (HF.out.2.2.2.1.step (hb)) (And.intro (HF.out.2.2.2.2.1.step (hb)) (And.intro (HF.out.2.2.2.2.2.1.below (hb)) (HF.out.2.2.2.2.2.2.below (hb))))))))
          refine hK _ _ (fun _ => HF'.out) ?_
          clear hK K HF hb
          have HF := hide HF'.out
          clear HF'
          refine Calm.take (i := 9) (v := ?_) (a' := ?_) (l' := #[true, true, true, true, true, true, true, true, true, true]) (d := some 6) rfl (by kernel_rfl) (by kernel_rfl) (by kernel_rfl) (by kernel_rfl) (fun _ _ _ h => h) HF.out rfl ?_ rfl rfl ?_ ?_
          rotate_left
          · intro w' hF; clear hF; go_simp; try rfl
          rotate_left
          · simp only [Act.put]; exact rfl
          refine Calm.done (by kernel_rfl) ?_
          replace HB := hide HF.out.1
          clear HF K1 K2 Q1 Q2 I1 I2
          go_wp2
          go_roundw
          case rel => exact ⟨k + 1, by omega, by go_num, HB.out, by rw [← HD.out, HZ.out, if_pos HZ0.out]⟩
          case measure => simp [intOf]; omega
        · have SG := cmpZ_nz hz
          have HG : Hid (cmpZ x y = cmpL xs ys) := hide (by rw [← HD.out, HZ.out, if_neg hz])
          have HS := hide SG
          clear hz SG
          go_wp2_with fail
          refine wp_calm (fun w' => Below w.heap.size w w' ∧ CellAt w' ⟨b, off + k * 2, none⟩ (.bool s) ∧ CellAt w' ⟨b, off + k * 2 + 1, none⟩ (.slice m l c) ∧ CellAt w' ⟨b2, off2 + k * 2, none⟩ (.bool s2) ∧ CellAt w' ⟨b2, off2 + k * 2 + 1, none⟩ (.slice m2 l2 c2) ∧ RInt w' (.agg #[.bool s, .slice m l c]) x ∧ RInt w' (.agg #[.bool s2, .slice m2 l2 c2]) y) (fun _ => true) 10 #[false, false, false, false, false, false, false, false, false, false] (by kernel_rfl) rfl rfl ?_
          have HF := hide (And.intro (HB.out.drew) (And.intro (K1.out.drew) (And.intro (K2.out.drew) (And.intro (Q1.out.drew) (And.intro (Q2.out.drew) (And.intro (I1.out.drew) (I2.out.drew)))))))
          generalize wr.drew = wrd at *
          refine Calm.take (i := 0) (v := ?_) (a' := ?_) (l' := #[true, false, false, false, false, false, false, false, false, false]) (d := some 23) rfl (by kernel_rfl) (by kernel_rfl) (by kernel_rfl) (by kernel_rfl) (fun _ _ _ h => h) HF.out rfl ?_ rfl rfl ?_ ?_
          rotate_left
          · intro w' hF; clear hF; go_simp; try rfl
          rotate_left
          · simp only [Act.put]; exact rfl
          refine Calm.take (i := 1) (v := ?_) (a' := ?_) (l' := #[true, true, false, false, false, false, false, false, false, false]) (d := some 24) rfl (by kernel_rfl) (by kernel_rfl) (by kernel_rfl) (by kernel_rfl) (fun _ _ _ h => h) HF.out rfl ?_ rfl rfl ?_ ?_
          rotate_left
          · intro w' hF; clear hF; go_simp; try rfl
          rotate_left
          · simp only [Act.put]; exact rfl
          refine Calm.take (i := 2) (v := ?_) (a' := ?_) (l' := #[true, true, true, false, false, false, false, false, false, false]) (d := some 25) rfl (by kernel_rfl) (by kernel_rfl) (by kernel_rfl) (by kernel_rfl) (fun _ _ _ h => h) HF.out rfl ?_ rfl rfl ?_ ?_
          rotate_left
          · intro w' hF; clear hF; go_simp; try rfl
          rotate_left
          · simp only [Act.put]; exact rfl
          refine Calm.take (i := 3) (v := ?_) (a' := ?_) (l' := #[true, true, true, true, false, false, false, false, false, false]) (d := some 26) rfl (by kernel_rfl) (by kernel_rfl) (by kernel_rfl) (by kernel_rfl) (fun _ _ _ h => h) HF.out rfl ?_ rfl rfl ?_ ?_
          rotate_left
          · intro w' hF; have f10 := hF.2.1.out; have f20 := hF.2.2.1.out; have f30 := hF.2.2.2.1.out; have f40 := hF.2.2.2.2.1.out; clear hF; go_simp; try rfl
          rotate_left
          · simp only [Act.put]; exact rfl
          refine Calm.take (i := 4) (v := ?_) (a' := ?_) (l' := #[true, true, true, true, true, false, false, false, false, false]) (d := some 27) rfl (by kernel_rfl) (by kernel_rfl) (by kernel_rfl) (by kernel_rfl) (fun _ _ _ h => h) HF.out rfl ?_ rfl rfl ?_ ?_
          rotate_left
          · intro w' hF; clear hF; go_simp; try rfl
          rotate_left
          · simp only [Act.put]; exact rfl
          refine Calm.take (i := 5) (v := ?_) (a' := ?_) (l' := #[true, true, true, true, true, true, false, false, false, false]) (d := some 28) rfl (by kernel_rfl) (by kernel_rfl) (by kernel_rfl) (by kernel_rfl) (fun _ _ _ h => h) HF.out rfl ?_ rfl rfl ?_ ?_
          rotate_left
          · intro w' hF; clear hF; go_simp; try rfl
          rotate_left
          · simp only [Act.put]; exact rfl
          refine Calm.take (i := 6) (v := ?_) (a' := ?_) (l' := #[true, true, true, true, true, true, true, false, false, false]) (d := some 29) rfl (by kernel_rfl) (by kernel_rfl) (by kernel_rfl) (by kernel_rfl) (fun _ _ _ h => h) HF.out rfl ?_ rfl rfl ?_ ?_
          rotate_left
          · intro w' hF; clear hF; go_simp; try rfl
          rotate_left
          · simp only [Act.put]; exact rfl
          refine Calm.take (i := 7) (v := ?_) (a' := ?_) (l' := #[true, true, true, true, true, true, true, true, false, false]) (d := some 30) rfl (by kernel_rfl) (by kernel_rfl) (by kernel_rfl) (by kernel_rfl) (fun _ _ _ h => h) HF.out rfl ?_ rfl rfl ?_ ?_
          rotate_left
          · intro w' hF; have f10 := hF.2.1.out; have f20 := hF.2.2.1.out; have f30 := hF.2.2.2.1.out; have f40 := hF.2.2.2.2.1.out; clear hF; go_simp; try rfl
          rotate_left
          · simp only [Act.put]; exact rfl
          refine Calm.one (i := 8) (l' := #[true, true, true, true, true, true, true, true, true, false]) (by kernel_rfl) rfl rfl rfl fun K hK => ?_
          go_simp
          refine (rcmp_any _ _ x y _ HF.out.2.2.2.2.2.1 HF.out.2.2.2.2.2.2).mono ?_
          rintro e w1 ⟨rfl, hb⟩
          have SG := HS.out
          generalize cmpZ x y = sz at *
          have HF' := hide (And.intro (HF.out.1.trans ((hb).mono HF.out.1.size)) (And.intro (HF.out.2.1.step (hb)) (And.intro (HF.out.2.2.1.step (hb)) (And.intro (HF.out.2.2.2.1.step (hb)) (And.intro (HF.out.2.2.2.2.1.step (hb)) (And.intro (HF.out.2.2.2.2.2.1.below (hb)) (HF.out.2.2.2.2.2.2.below (hb))))))))
          refine hK _ _ (fun _ => HF'.out) ?_
          clear hK K HF hb
          have HF := hide HF'.out
          clear HF'
          refine Calm.take (i := 9) (v := ?_) (a' := ?_) (l' := #[true, true, true, true, true, true, true, true, true, true]) (d := some 6) rfl (by kernel_rfl) (by kernel_rfl) (by kernel_rfl) (by kernel_rfl) (fun _ _ _ h => h) HF.out rfl ?_ rfl rfl ?_ ?_
          rotate_left
          · intro w' hF; clear hF; go_simp; try rfl
          rotate_left
          · simp only [Act.put]; exact rfl
          refine Calm.done (by kernel_rfl) ?_
          replace HB := hide HF.out.1
          clear HF K1 K2 Q1 Q2 I1 I2
          go_wp2
          go_ret
          exact ⟨by rw [HG.out]; rfl, HB.out⟩
      · have e : k = xs.length := by omega
        subst e
        have HG : Hid (cmpL xs ys = 0) := hide (by rw [← HD.out, List.drop_length]; rfl)
        go_wp2
        go_ret
        exact ⟨by rw [HG.out]; rfl, HB.out⟩
  · rw [if_neg hl]
    have hne : ((xs.length : Int) = (ys.length : Int)) = False := by simp only [eq_iff_iff, iff_false]; omega
    by_cases hlt : xs.length < ys.length
    · rw [if_pos hlt]
      have h3 : (xs.length : Int) < (ys.length : Int) := by omega
      go_enter Try.func9, Try.ntmps9
      go_wp2
      go_ret
      exact ⟨rfl, Below.refl _ _⟩
    · rw [if_neg hlt]
      have h3 : ¬ (xs.length : Int) < (ys.length : Int) := by omega
      go_enter Try.func9, Try.ntmps9
      go_wp2
      go_ret
      exact ⟨rfl, Below.refl _ _⟩
set_option maxRecDepth 100000 in
set_option maxHeartbeats 4000000 in
theorem r4same_any (va vb : Value) (xs ys : List Int) (w : World) (h1 : RInts w va xs) (h2 : RInts w vb ys) :
    Calls Try.prog 11 #[va, vb] w fun e w' => e = .returned (.bool (rowCmp xs ys == 0)) ∧ Below w.heap.size w w' := by
  have H1 := hide h1
  have H2 := hide h2
  obtain ⟨a, cap, rfl, hcap, hmx, _⟩ := h1
  obtain ⟨a', cap', rfl, hcap', hmx', _⟩ := h2
  unfold maxLen at hmx hmx'
  unfold rowCmp
  by_cases hl : xs.length = ys.length
  · rw [if_pos hl]
    generalize hyl : ys.length = ny at *
    subst hl
    have HL := hide hyl
    clear hyl
    go_enter Try.func11, Try.ntmps11
    go_wp2
    go_loopw [5] (fun iv wr => ∃ k : Nat, k ≤ xs.length ∧ iv = .int .i64 k ∧ Below w.heap.size w wr ∧ cmpL (xs.drop k) (ys.drop k) = cmpL xs ys) (fun iv _ => xs.length - (intOf iv).toNat)
    case atStart => exact ⟨0, Nat.zero_le _, rfl, Below.refl _ _, rfl⟩
    case round =>
      obtain ⟨k, hk, rfl, hbel, hld⟩ := hrel
      have HB := hide hbel
      have HD := hide hld
      clear hbel hld
      by_cases hlt : k < xs.length
      · obtain ⟨b, off, rfl, s, m, l, c, k1, k2, k3⟩ := (H1.out.below HB.out).at hlt
        obtain ⟨b2, off2, rfl, s2, m2, l2, c2, q1, q2, q3⟩ := (H2.out.below HB.out).at (i := k) (by rw [HL.out]; exact hlt)
        have HZ := hide (cmpL_drop (ys := ys) hlt (by rw [HL.out]; exact hlt))
        have K1 := hide k1
        have K2 := hide k2
        have Q1 := hide q1
        have Q2 := hide q2
        have I1 := hide k3
        have I2 := hide q3
        clear k1 k2 k3 q1 q2 q3
        generalize xs.getD k 0 = x at *
        generalize ys.getD k 0 = y at *
        by_cases hz : x = y
        · have SG : cmpZ x y = 0 := by rw [hz]; exact cmpZ_self y
          have HZ0 := hide hz
          have HS := hide SG
          clear hz SG
          go_wp2_with fail
          refine wp_calm (fun w' => Below w.heap.size w w' ∧ CellAt w' ⟨b, off + k * 2, none⟩ (.bool s) ∧ CellAt w' ⟨b, off + k * 2 + 1, none⟩ (.slice m l c) ∧ CellAt w' ⟨b2, off2 + k * 2, none⟩ (.bool s2) ∧ CellAt w' ⟨b2, off2 + k * 2 + 1, none⟩ (.slice m2 l2 c2) ∧ RInt w' (.agg #[.bool s, .slice m l c]) x ∧ RInt w' (.agg #[.bool s2, .slice m2 l2 c2]) y) (fun _ => true) 10 #[false, false, false, false, false, false, false, false, false, false] (by kernel_rfl) rfl rfl ?_
          have HF := hide (And.intro (HB.out.drew) (And.intro (K1.out.drew) (And.intro (K2.out.drew) (And.intro (Q1.out.drew) (And.intro (Q2.out.drew) (And.intro (I1.out.drew) (I2.out.drew)))))))
          generalize wr.drew = wrd at *
          refine Calm.take (i := 0) (v := ?_) (a' := ?_) (l' := #[true, false, false, false, false, false, false, false, false, false]) (d := some 17) rfl (by kernel_rfl) (by kernel_rfl) (by kernel_rfl) (by kernel_rfl) (fun _ _ _ h => h) HF.out rfl ?_ rfl rfl ?_ ?_
          rotate_left
          · intro w' hF; clear hF; go_simp; try rfl
          rotate_left
          · simp only [Act.put]; exact rfl
          refine Calm.take (i := 1) (v := ?_) (a' := ?_) (l' := #[true, true, false, false, false, false, false, false, false, false]) (d := some 18) rfl (by kernel_rfl) (by kernel_rfl) (by kernel_rfl) (by kernel_rfl) (fun _ _ _ h => h) HF.out rfl ?_ rfl rfl ?_ ?_
          rotate_left
          · intro w' hF; clear hF; go_simp; try rfl
          rotate_left
          · simp only [Act.put]; exact rfl
          refine Calm.take (i := 2) (v := ?_) (a' := ?_) (l' := #[true, true, true, false, false, false, false, false, false, false]) (d := some 19) rfl (by kernel_rfl) (by kernel_rfl) (by kernel_rfl) (by kernel_rfl) (fun _ _ _ h => h) HF.out rfl ?_ rfl rfl ?_ ?_
          rotate_left
          · intro w' hF; clear hF; go_simp; try rfl
          rotate_left
          · simp only [Act.put]; exact rfl
          refine Calm.take (i := 3) (v := ?_) (a' := ?_) (l' := #[true, true, true, true, false, false, false, false, false, false]) (d := some 20) rfl (by kernel_rfl) (by kernel_rfl) (by kernel_rfl) (by kernel_rfl) (fun _ _ _ h => h) HF.out rfl ?_ rfl rfl ?_ ?_
          rotate_left
          · intro w' hF; have f10 := hF.2.1.out; have f20 := hF.2.2.1.out; have f30 := hF.2.2.2.1.out; have f40 := hF.2.2.2.2.1.out; clear hF; go_simp; try rfl
          rotate_left
          · simp only [Act.put]; exact rfl
          refine Calm.take (i := 4) (v := ?_) (a' := ?_) (l' := #[true, true, true, true, true, false, false, false, false, false]) (d := some 21) rfl (by kernel_rfl) (by kernel_rfl) (by kernel_rfl) (by kernel_rfl) (fun _ _ _ h => h) HF.out rfl ?_ rfl rfl ?_ ?_
          rotate_left
          · intro w' hF; clear hF; go_simp; try rfl
          rotate_left
          · simp only [Act.put]; exact rfl
          refine Calm.take (i := 5) (v := ?_) (a' := ?_) (l' := #[true, true, true, true, true, true, false, false, false, false]) (d := some 22) rfl (by kernel_rfl) (by kernel_rfl) (by kernel_rfl) (by kernel_rfl) (fun _ _ _ h => h) HF.out rfl ?_ rfl rfl ?_ ?_
          rotate_left
          · intro w' hF; clear hF; go_simp; try rfl
          rotate_left
          · simp only [Act.put]; exact rfl
          refine Calm.take (i := 6) (v := ?_) (a' := ?_) (l' := #[true, true, true, true, true, true, true, false, false, false]) (d := some 23) rfl (by kernel_rfl) (by kernel_rfl) (by kernel_rfl) (by kernel_rfl) (fun _ _ _ h => h) HF.out rfl ?_ rfl rfl ?_ ?_
          rotate_left
          · intro w' hF; clear hF; go_simp; try rfl
          rotate_left
          · simp only [Act.put]; exact rfl
          refine Calm.take (i := 7) (v := ?_) (a' := ?_) (l' := #[true, true, true, true, true, true, true, true, false, false]) (d := some 24) rfl (by kernel_rfl) (by kernel_rfl) (by kernel_rfl) (by kernel_rfl) (fun _ _ _ h => h) HF.out rfl ?_ rfl rfl ?_ ?_
          rotate_left
          · intro w' hF; have f10 := hF.2.1.out; have f20 := hF.2.2.1.out; have f30 := hF.2.2.2.1.out; have f40 := hF.2.2.2.2.1.out; clear hF; go_simp; try rfl
          rotate_left
          · simp only [Act.put]; exact rfl
          refine Calm.one (i := 8) (l' := #[true, true, true, true, true, true, true, true, true, false]) (by kernel_rfl) rfl rfl rfl fun K hK => ?_
          go_simp
          refine (rcmp_any _ _ x y _ HF.out.2.2.2.2.2.1 HF.out.2.2.2.2.2.2).mono ?_
          rintro e w1 ⟨rfl, hb⟩
          rw [HS.out]
          have HF' := hide (And.intro (HF.out.1.trans ((hb).mono HF.out.1.size)) (And.intro (HF.out.2.1.step (hb)) (And.intro (HF.out.2.2.1.step (hb)) (And.intro (HF.out.2.2.2.1.step (hb)) (And.intro (HF.out.2.2.2.2.1.step (hb)) (And.intro (HF.out.2.2.2.2.2.1.below (hb)) (HF.out.2.2.2.2.2.2.below (hb))))))))
          refine hK _ _ (fun _ => HF'.out) ?_
          clear hK K HF hb
          have HF := hide HF'.out
          clear HF'
          refine Calm.take (i := 9) (v := ?_) (a' := ?_) (l' := #[true, true, true, true, true, true, true, true, true, true]) (d := some 26) rfl (by kernel_rfl) (by kernel_rfl) (by kernel_rfl) (by kernel_rfl) (fun _ _ _ h => h) HF.out rfl ?_ rfl rfl ?_ ?_
          rotate_left
          · intro w' hF; clear hF; go_simp; try rfl
          rotate_left
          · simp only [Act.put]; exact rfl
          refine Calm.done (by kernel_rfl) ?_
          replace HB := hide HF.out.1
          clear HF K1 K2 Q1 Q2 I1 I2
          go_wp2
          go_roundw
          case rel => exact ⟨k + 1, by omega, by go_num, HB.out, by rw [← HD.out, HZ.out, if_pos HZ0.out]⟩
          case measure => simp [intOf]; omega
        · have SG := cmpZ_nz hz
          have HG : Hid (cmpZ x y = cmpL xs ys) := hide (by rw [← HD.out, HZ.out, if_neg hz])
          have HS := hide SG
          clear hz SG
          go_wp2_with fail
          refine wp_calm (fun w' => Below w.heap.size w w' ∧ CellAt w' ⟨b, off + k * 2, none⟩ (.bool s) ∧ CellAt w' ⟨b, off + k * 2 + 1, none⟩ (.slice m l c) ∧ CellAt w' ⟨b2, off2 + k * 2, none⟩ (.bool s2) ∧ CellAt w' ⟨b2, off2 + k * 2 + 1, none⟩ (.slice m2 l2 c2) ∧ RInt w' (.agg #[.bool s, .slice m l c]) x ∧ RInt w' (.agg #[.bool s2, .slice m2 l2 c2]) y) (fun _ => true) 10 #[false, false, false, false, false, false, false, false, false, false] (by kernel_rfl) rfl rfl ?_
          have HF := hide (And.intro (HB.out.drew) (And.intro (K1.out.drew) (And.intro (K2.out.drew) (And.intro (Q1.out.drew) (And.intro (Q2.out.drew) (And.intro (I1.out.drew) (I2.out.drew)))))))
          generalize wr.drew = wrd at *
          refine Calm.take (i := 0) (v := ?_) (a' := ?_) (l' := #[true, false, false, false, false, false, false, false, false, false]) (d := some 17) rfl (by kernel_rfl) (by kernel_rfl) (by kernel_rfl) (by kernel_rfl) (fun _ _ _ h => h) HF.out rfl ?_ rfl rfl ?_ ?_
          rotate_left
          · intro w' hF; clear hF; go_simp; try rfl
          rotate_left
          · simp only [Act.put]; exact rfl
          refine Calm.take (i := 1) (v := ?_) (a' := ?_) (l' := #[true, true, false, false, false, false, false, false, false, false]) (d := some 18) rfl (by kernel_rfl) (by kernel_rfl) (by kernel_rfl) (by kernel_rfl) (fun _ _ _ h => h) HF.out rfl ?_ rfl rfl ?_ ?_
          rotate_left
          · intro w' hF; clear hF; go_simp; try rfl
          rotate_left
          · simp only [Act.put]; exact rfl
          refine Calm.take (i := 2) (v := ?_) (a' := ?_) (l' := #[true, true, true, false, false, false, false, false, false, false]) (d := some 19) rfl (by kernel_rfl) (by kernel_rfl) (by kernel_rfl) (by kernel_rfl) (fun _ _ _ h => h) HF.out rfl ?_ rfl rfl ?_ ?_
          rotate_left
          · intro w' hF; clear hF; go_simp; try rfl
          rotate_left
          · simp only [Act.put]; exact rfl
          refine Calm.take (i := 3) (v := ?_) (a' := ?_) (l' := #[true, true, true, true, false, false, false, false, false, false]) (d := some 20) rfl (by kernel_rfl) (by kernel_rfl) (by kernel_rfl) (by kernel_rfl) (fun _ _ _ h => h) HF.out rfl ?_ rfl rfl ?_ ?_
          rotate_left
          · intro w' hF; have f10 := hF.2.1.out; have f20 := hF.2.2.1.out; have f30 := hF.2.2.2.1.out; have f40 := hF.2.2.2.2.1.out; clear hF; go_simp; try rfl
          rotate_left
          · simp only [Act.put]; exact rfl
          refine Calm.take (i := 4) (v := ?_) (a' := ?_) (l' := #[true, true, true, true, true, false, false, false, false, false]) (d := some 21) rfl (by kernel_rfl) (by kernel_rfl) (by kernel_rfl) (by kernel_rfl) (fun _ _ _ h => h) HF.out rfl ?_ rfl rfl ?_ ?_
          rotate_left
          · intro w' hF; clear hF; go_simp; try rfl
          rotate_left
          · simp only [Act.put]; exact rfl
          refine Calm.take (i := 5) (v := ?_) (a' := ?_) (l' := #[true, true, true, true, true, true, false, false, false, false]) (d := some 22) rfl (by kernel_rfl) (by kernel_rfl) (by kernel_rfl) (by kernel_rfl) (fun _ _ _ h => h) HF.out rfl ?_ rfl rfl ?_ ?_
          rotate_left
          · intro w' hF; clear hF; go_simp; try rfl
          rotate_left
          · simp only [Act.put]; exact rfl
          refine Calm.take (i := 6) (v := ?_) (a' := ?_) (l' := #[true, true, true, true, true, true, true, false, false, false]) (d := some 23) rfl (by kernel_rfl) (by kernel_rfl) (by kernel_rfl) (by kernel_rfl) (fun _ _ _ h => h) HF.out rfl ?_ rfl rfl ?_ ?_
          rotate_left
          · intro w' hF; clear hF; go_simp; try rfl
          rotate_left
          · simp only [Act.put]; exact rfl
          refine Calm.take (i := 7) (v := ?_) (a' := ?_) (l' := #[true, true, true, true, true, true, true, true, false, false]) (d := some 24) rfl (by kernel_rfl) (by kernel_rfl) (by kernel_rfl) (by kernel_rfl) (fun _ _ _ h => h) HF.out rfl ?_ rfl rfl ?_ ?_
          rotate_left
          · intro w' hF; have f10 := hF.2.1.out; have f20 := hF.2.2.1.out; have f30 := hF.2.2.2.1.out; have f40 := hF.2.2.2.2.1.out; clear hF; go_simp; try rfl
          rotate_left
          · simp only [Act.put]; exact rfl
          refine Calm.one (i := 8) (l' := #[true, true, true, true, true, true, true, true, true, false]) (by kernel_rfl) rfl rfl rfl fun K hK => ?_
          go_simp
          refine (rcmp_any _ _ x y _ HF.out.2.2.2.2.2.1 HF.out.2.2.2.2.2.2).mono ?_
          rintro e w1 ⟨rfl, hb⟩
          have SG := HS.out
          generalize cmpZ x y = sz at *
          have HF' := hide (And.intro (HF.out.1.trans ((hb).mono HF.out.1.size)) (And.intro (HF.out.2.1.step (hb)) (And.intro (HF.out.2.2.1.step (hb)) (And.intro (HF.out.2.2.2.1.step (hb)) (And.intro (HF.out.2.2.2.2.1.step (hb)) (And.intro (HF.out.2.2.2.2.2.1.below (hb)) (HF.out.2.2.2.2.2.2.below (hb))))))))
          refine hK _ _ (fun _ => HF'.out) ?_
          clear hK K HF hb
          have HF := hide HF'.out
          clear HF'
          refine Calm.take (i := 9) (v := ?_) (a' := ?_) (l' := #[true, true, true, true, true, true, true, true, true, true]) (d := some 26) rfl (by kernel_rfl) (by kernel_rfl) (by kernel_rfl) (by kernel_rfl) (fun _ _ _ h => h) HF.out rfl ?_ rfl rfl ?_ ?_
          rotate_left
          · intro w' hF; clear hF; go_simp; try rfl
          rotate_left
          · simp only [Act.put]; exact rfl
          refine Calm.done (by kernel_rfl) ?_
          replace HB := hide HF.out.1
          clear HF K1 K2 Q1 Q2 I1 I2
          go_wp2
          go_ret
          exact ⟨by rw [← HG.out, SG]; rfl, HB.out⟩
      · have e : k = xs.length := by omega
        subst e
        have HG : Hid (cmpL xs ys = 0) := hide (by rw [← HD.out, List.drop_length]; rfl)
        go_wp2
        go_ret
        exact ⟨by rw [HG.out]; rfl, HB.out⟩
  · rw [if_neg hl]
    have hne : ((xs.length : Int) = (ys.length : Int)) = False := by simp only [eq_iff_iff, iff_false]; omega
    have h3 : ((if xs.length < ys.length then (-1 : Int) else 1) == 0) = false := by split <;> rfl
    rw [h3]
    clear h3
    go_enter Try.func11, Try.ntmps11
    go_wp2
    go_ret
    exact ⟨rfl, Below.refl _ _⟩

set_option maxRecDepth 100000 in
set_option maxHeartbeats 4000000 in
theorem r4zero_any (va : Value) (zs : List Int) (w : World) (h : RInts w va zs) :
    Calls Try.prog 13 #[va] w fun e w' => e = .returned (.bool (leadI zs == 0)) ∧ Below w.heap.size w w' := by
  have HI := hide h
  obtain ⟨a, cap, rfl, hcap, hmx, _⟩ := h
  unfold maxLen at hmx
  go_enter Try.func13, Try.ntmps13
  go_wp2
  go_loopw [3] (fun iv wr => ∃ k : Nat, k ≤ zs.length ∧ iv = .int .i64 k ∧ Below w.heap.size w wr ∧ leadI (zs.drop k) = leadI zs) (fun iv _ => zs.length - (intOf iv).toNat)
  case atStart => exact ⟨0, Nat.zero_le _, rfl, Below.refl _ _, rfl⟩
  case round =>
    obtain ⟨k, hk, rfl, hbel, hld⟩ := hrel
    have HB := hide hbel
    have HD := hide hld
    clear hbel hld
    by_cases hlt : k < zs.length
    · obtain ⟨b, off, rfl, s, m, l, c, k1, k2, k3⟩ := (HI.out.below HB.out).at hlt
      have IX := hide k3
      have e1 := k1.out
      have e2 := k2.out
      have HZ := hide (lead_drop hlt)
      clear k1 k2 k3
      generalize zs.getD k 0 = z at *
      go_wp2_with fail
      refine (rsign_any _ z _ IX.out).mono ?_
      rintro e w1 ⟨rfl, hb⟩
      replace HB := hide (HB.out.trans (hb.mono HB.out.size))
      clear hb e1 e2 IX
      by_cases hz : z = 0
      · have SG : sgnI z = 0 := by rw [hz]; rfl
        have HZ0 := hide hz
        clear hz
        rw [SG]
        clear SG
        go_wp2
        go_roundw
        case rel => exact ⟨k + 1, by omega, by go_num, HB.out, by rw [← HD.out, HZ.out, if_pos HZ0.out]⟩
        case measure => simp [intOf]; omega
      · have SG := sgnI_ne0 hz
        have HG : Hid (sgnI z = leadI zs) := hide (by rw [← HD.out, HZ.out, if_neg hz])
        clear hz
        generalize sgnI z = sz at *
        go_wp2
        go_ret
        exact ⟨by rw [← HG.out, SG]; rfl, HB.out⟩
    · have e : k = zs.length := by omega
      subst e
      have HG : Hid (leadI zs = 0) := hide (by rw [← HD.out, List.drop_length]; rfl)
      go_wp2
      go_ret
      exact ⟨by rw [HG.out]; rfl, HB.out⟩
end Go.Proofs.Ytaoagilngfgjbac
