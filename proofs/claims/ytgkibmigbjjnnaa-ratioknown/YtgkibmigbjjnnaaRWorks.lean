/- swagelaw03.works answers true. -/
import Derived.Test.YtgkibmigbjjnnaaRAdd
import Derived.Test.YtgkibmigbjjnnaaROver
import Derived.Test.YtgkibmigbjjnnaaRCmp
import Derived.Test.YtgkibmigbjjnnaaRText
import Derived.Deep.Cut
namespace Go.Proofs.Ytgkibmigbjjnnaa
open Go.RowKit

@[reducible] def decSz (k : Nat) (z : Int) : Decidable (SzI k z) := inferInstanceAs (Decidable (_ < _))
theorem w3_x : rtxt (Rat.divInt 6 (-4)) = ⟨#[45, 51, 47, 50]⟩ := by kernel_rfl
theorem w3_y : rtxt ((Rat.divInt 6 (-4)) / ((3 : Int) : Rat)) = ⟨#[45, 49, 47, 50]⟩ := by kernel_rfl
theorem w3_z : rtxt (((Rat.divInt 6 (-4)) / ((3 : Int) : Rat)) + (Rat.divInt 6 (-4))) = ⟨#[45, 50]⟩ := by kernel_rfl
theorem w3_w : decide (((((Rat.divInt 6 (-4)) / ((3 : Int) : Rat)) + (Rat.divInt 6 (-4)))).den = 1) = true := by kernel_rfl
theorem w3_d : itxt ((((((Rat.divInt 6 (-4)) / ((3 : Int) : Rat)) + (Rat.divInt 6 (-4)))).den : Nat) : Int) = ⟨#[49]⟩ := by kernel_rfl
theorem w3_f : itxt (((Rat.divInt 6 (-4))).floor) = ⟨#[45, 50]⟩ := by kernel_rfl
theorem w3_sx : SzR 1 (Rat.divInt 6 (-4)) := ⟨@of_decide_eq_true _ (decSz _ _) (by kernel_rfl), @of_decide_eq_true _ (decSz _ _) (by kernel_rfl)⟩
theorem w3_sy : SzR 1 ((Rat.divInt 6 (-4)) / ((3 : Int) : Rat)) := ⟨@of_decide_eq_true _ (decSz _ _) (by kernel_rfl), @of_decide_eq_true _ (decSz _ _) (by kernel_rfl)⟩
theorem w3_sz : SzR 1 (((Rat.divInt 6 (-4)) / ((3 : Int) : Rat)) + (Rat.divInt 6 (-4))) := ⟨@of_decide_eq_true _ (decSz _ _) (by kernel_rfl), @of_decide_eq_true _ (decSz _ _) (by kernel_rfl)⟩
theorem w3_s3 : SzR 1 ((3 : Int) : Rat) := ⟨@of_decide_eq_true _ (decSz _ _) (by kernel_rfl), @of_decide_eq_true _ (decSz _ _) (by kernel_rfl)⟩
theorem w3_n3 : ((3 : Int) : Rat) ≠ 0 := by intro e; exact absurd (congrArg Rat.num e) (by decide)
theorem w3_sf : SzI 1 (((Rat.divInt 6 (-4))).floor) := @of_decide_eq_true _ (decSz _ _) (by kernel_rfl)

set_option maxRecDepth 100000 in
set_option maxHeartbeats 16000000 in
theorem works3_any (w : World) :
    Calls Try.prog 6 #[] w fun e w' => e = .returned (.bool true) ∧ Below w.heap.size w w' := by
  have HB := hide (Below.refl w.heap.size w)
  go_enter Try.func6, Try.ntmps6
  go_wp2_with fail
  refine (iof_any 6 _ (by decide) (by decide)).mono ?_
  rintro e u1 ⟨v, rfl, n, hb⟩
  replace HB := hide (HB.out.trans ((hb).mono HB.out.size))
  have T1 := hide (n)
  clear hb n
  go_wp2_with fail
  refine (iof_any (-4) _ (by decide) (by decide)).mono ?_
  rintro e u2 ⟨v, rfl, n, hb⟩
  replace HB := hide (HB.out.trans ((hb).mono HB.out.size))
  replace T1 := hide (T1.out.below (hb))
  have T2 := hide (n)
  clear hb n
  go_wp2_with fail
  refine (rtmake_any _ _ 6 (-4) _ T1.out T2.out (Nat.le_trans (lim_length_le (k := 1) (by decide)) (by decide)) (Nat.le_trans (lim_length_le (k := 1) (by decide)) (by decide)) (by decide)).mono ?_
  rintro e u3 ⟨v, rfl, n, hb⟩
  obtain ⟨s1, m1, n1, c1, t1, o1, p1, d1, rfl, n⟩ := n.cells
  replace HB := hide (HB.out.trans ((hb).mono HB.out.size))
  replace T1 := hide (T1.out.below (hb))
  replace T2 := hide (T2.out.below (hb))
  have IX := hide (n)
  clear hb n
  clear T1
  clear T2
  go_wp2_with fail
  have hg1 := HB.out.size
  have V1 := Box4.new u3 (.bool s1) (.slice m1 n1 c1) (.bool t1) (.slice o1 p1 d1)
  replace V1 := hide V1
  have al := below_alloc u3 (.cells #[.bool s1, .slice m1 n1 c1, .bool t1, .slice o1 p1 d1] 27)
  replace HB := hide (HB.out.trans ((al).mono HB.out.size))
  replace IX := hide (IX.out.below (al))
  clear al
  generalize (u3.alloc (.cells #[.bool s1, .slice m1 n1 c1, .bool t1, .slice o1 p1 d1] 27)) = u3a at *
  generalize u3.heap.size = g1 at *
  go_cut [3, 4] from 12 (fun pt0 pe0 wx => ∃ gq s2 m2 n2 c2 t2 o2 p2 d2, pt0 = .pointer (some ⟨gq, 0, none⟩) ∧ pe0 = .int .i64 0 ∧ ((g1 < gq)) ∧ Below w.heap.size w wx ∧ Box4 wx g1 (.bool s1) (.slice m1 n1 c1) (.bool t1) (.slice o1 p1 d1) ∧ RatAt wx (.agg #[.bool s1, .slice m1 n1 c1, .bool t1, .slice o1 p1 d1]) (Rat.divInt 6 (-4)) ∧ Box4 wx gq (.bool s2) (.slice m2 n2 c2) (.bool t2) (.slice o2 p2 d2) ∧ RatAt wx (.agg #[.bool s2, .slice m2 n2 c2, .bool t2, .slice o2 p2 d2]) ((Rat.divInt 6 (-4)) / ((3 : Int) : Rat)))
  case first =>
    obtain ⟨F, hF⟩ : ∃ F : World → Prop, F = (fun w' => Below w.heap.size w w' ∧ Box4 w' g1 (.bool s1) (.slice m1 n1 c1) (.bool t1) (.slice o1 p1 d1) ∧ RatAt w' (.agg #[.bool s1, .slice m1 n1 c1, .bool t1, .slice o1 p1 d1]) (Rat.divInt 6 (-4))) := ⟨_, rfl⟩
    have FU : Hid (∀ W, F W → (Below w.heap.size w W ∧ Box4 W g1 (.bool s1) (.slice m1 n1 c1) (.bool t1) (.slice o1 p1 d1) ∧ RatAt W (.agg #[.bool s1, .slice m1 n1 c1, .bool t1, .slice o1 p1 d1]) (Rat.divInt 6 (-4)))) := hide (fun W h => by rw [hF] at h; exact h)
    have FM : Hid (∀ W, (Below w.heap.size w W ∧ Box4 W g1 (.bool s1) (.slice m1 n1 c1) (.bool t1) (.slice o1 p1 d1) ∧ RatAt W (.agg #[.bool s1, .slice m1 n1 c1, .bool t1, .slice o1 p1 d1]) (Rat.divInt 6 (-4))) → F W) := hide (fun W h => by rw [hF]; exact h)
    clear hF
    have FS : Hid (∀ W W', F W → Below W.heap.size W W' → F W') := hide (fun W W' h hb => by
      have h := FU.out W h
      exact FM.out W' (And.intro (h.1.trans ((hb).mono h.1.size)) (And.intro (h.2.1.step (hb)) (h.2.2.below (hb)))))
    have FC : Hid (∀ W, F W → (W.cell? ⟨g1, 0, none⟩ = some (.bool s1) ∧ W.cell? ⟨g1, 1, none⟩ = some (.slice m1 n1 c1) ∧ W.cell? ⟨g1, 2, none⟩ = some (.bool t1) ∧ W.cell? ⟨g1, 3, none⟩ = some (.slice o1 p1 d1))) := hide (fun W h => by
      have h := FU.out W h
      exact ⟨h.2.1.cell0, h.2.1.cell1, h.2.1.cell2, h.2.1.cell3⟩)
    have FL : Hid (∀ W, F W → (g1 < W.heap.size)) := hide (fun W h => by
      have h := FU.out W h
      exact h.2.1.lt)
    have FP4 : Hid (∀ W g (x1 x2 x3 x4 : Value), F W → Box4 W g (.bool false) (.slice none 0 0) (.bool false) (.slice none 0 0) → (g1 < g) → F ((((W.setCell ⟨g, 0, none⟩ x1).setCell ⟨g, 1, none⟩ x2).setCell ⟨g, 2, none⟩ x3).setCell ⟨g, 3, none⟩ x4)) := hide (fun W g x1 x2 x3 x4 h hX hl => by
      have h := FU.out W h
      exact FM.out _ (And.intro (below_put4 h.1 (show w.heap.size ≤ g by omega) x1 x2 x3 x4) (And.intro (h.2.1.other4 (C := g) (by omega) x1 x2 x3 x4) (h.2.2.keep (hX.keeps (by simp) (by simp) (by simp) (by simp) x1 x2 x3 x4)))))
    refine wp_calm F (fun _ => true) 10 #[false, false, false, false, false, false, false, false, false, false] (by kernel_rfl) rfl rfl ?_
    have HF := hide (FM.out _ (And.intro (HB.out.drew) (And.intro (V1.out.drew) (IX.out.drew))))
    generalize u3a.drew = u3ad at *
    refine Calm.take (i := 0) (v := ?_) (a' := ?_) (l' := #[true, false, false, false, false, false, false, false, false, false]) (d := some 13) rfl (by kernel_rfl) (by kernel_rfl) (by kernel_rfl) (by kernel_rfl) (fun _ _ _ h => h) HF.out rfl ?_ rfl rfl ?_ ?_
    rotate_left
    · intro w' hF; obtain ⟨f0, f1, f2, f3⟩ := FC.out _ hF; clear hF; go_simp; try rfl
    rotate_left
    · simp only [Act.put]; exact rfl
    refine Calm.two (i := 1) (j := 7) (l := #[true, true, false, false, false, false, false, false, false, false]) (l' := #[true, false, false, false, false, false, false, true, false, false]) (by kernel_rfl) rfl rfl rfl rfl rfl rfl (fun K hK => ?_) (fun K hK => ?_)
    · go_simp
      refine (iof_any 3 _ (by decide) (by decide)).mono ?_
      rintro e u4 ⟨v, rfl, n, hb⟩
      have T1 := hide (n)
      replace HF := hide (FS.out _ _ HF.out hb)
      refine hK _ _ (fun _ => HF.out) ?_
      clear hK K hb n
      refine Calm.two (i := 2) (j := 7) (l := #[true, true, true, false, false, false, false, false, false, false]) (l' := #[true, true, false, false, false, false, false, true, false, false]) (by kernel_rfl) rfl rfl rfl rfl rfl rfl (fun K hK => ?_) (fun K hK => ?_)
      · go_simp
        refine (whole_any _ 3 _ T1.out).mono ?_
        rintro e u5 ⟨v, rfl, n, hb⟩
        clear T1
        have T2 := hide (n)
        replace HF := hide (FS.out _ _ HF.out hb)
        refine hK _ _ (fun _ => HF.out) ?_
        clear hK K hb n
        refine Calm.two (i := 3) (j := 7) (l := #[true, true, true, true, false, false, false, false, false, false]) (l' := #[true, true, true, false, false, false, false, true, false, false]) (by kernel_rfl) rfl rfl rfl rfl rfl rfl (fun K hK => ?_) (fun K hK => ?_)
        · go_simp
          refine (rtover_any _ _ (Rat.divInt 6 (-4)) ((3 : Int) : Rat) _ (FU.out _ HF.out).2.2 T2.out (w3_sx.mono (by decide)) (w3_s3.mono (by decide)) w3_n3).mono ?_
          rintro e u6 ⟨v, rfl, n, hb⟩
          obtain ⟨s2, m2, n2, c2, t2, o2, p2, d2, rfl, n⟩ := n.cells
          clear T2
          have IY := hide (n)
          replace HF := hide (FS.out _ _ HF.out hb)
          refine hK _ _ (fun _ => HF.out) ?_
          clear hK K hb n
          refine Calm.take (i := 4) (v := ?_) (a' := ?_) (l' := #[true, true, true, true, true, false, false, false, false, false]) (d := some 12) rfl (by kernel_rfl) (by kernel_rfl) (by kernel_rfl) (by kernel_rfl) (fun _ _ _ h => h) HF.out rfl ?_ rfl rfl ?_ ?_
          rotate_left
          · intro w' hF; clear hF; go_simp; try rfl
          rotate_left
          · simp only [Act.put]; exact rfl
          refine Calm.take (i := 5) (v := ?_) (a' := ?_) (l' := #[true, true, true, true, true, true, false, false, false, false]) (d := some 17) rfl (by kernel_rfl) (by kernel_rfl) (by kernel_rfl) (by kernel_rfl) (fun _ _ _ h => h) HF.out rfl ?_ rfl rfl ?_ ?_
          rotate_left
          · intro w' hF; clear hF; go_simp; try rfl
          rotate_left
          · simp only [Act.put]; exact rfl
          refine Calm.take (i := 6) (v := ?_) (a' := ?_) (l' := #[true, true, true, true, true, true, true, false, false, false]) (d := some 18) rfl (by kernel_rfl) (by kernel_rfl) (by kernel_rfl) (by kernel_rfl) (fun _ _ _ h => h) HF.out rfl ?_ rfl rfl ?_ ?_
          rotate_left
          · intro w' hF; clear hF; go_simp; try rfl
          rotate_left
          · simp only [Act.put]; exact rfl
          refine Calm.one (i := 7) (l' := #[true, true, true, true, true, true, true, true, false, false]) (by kernel_rfl) rfl rfl rfl fun K hK => ?_
          go_simp
          have al := below_alloc u6 (.cells #[.bool false, .slice none 0 0, .bool false, .slice none 0 0] 27)
          replace IY := hide (IY.out.below (al))
          have BXq := hide (Box4.new u6 (.bool false) (.slice none 0 0) (.bool false) (.slice none 0 0))
          have LTq := hide (FL.out _ HF.out)
          replace HF := hide (FS.out _ _ HF.out al)
          refine hK _ _ (fun _ => HF.out) ?_
          clear hK K al
          generalize u6.alloc (.cells #[.bool false, .slice none 0 0, .bool false, .slice none 0 0] 27) = wzq at *
          generalize u6.heap.size = gq at *
          refine Calm.one (i := 8) (l' := #[true, true, true, true, true, true, true, true, true, false]) (by kernel_rfl) rfl rfl rfl fun K hK => ?_
          have hc0 := BXq.out.cell0
          have hc1 := BXq.out.cell1
          have hc2 := BXq.out.cell2
          have hc3 := BXq.out.cell3
          have hf0 := BXq.out.free 0
          have hf1 := BXq.out.free 1
          have hf2 := BXq.out.free 2
          have hf3 := BXq.out.free 3
          go_simp
          replace HF := hide (FP4.out _ gq (.bool s2) (.slice m2 n2 c2) (.bool t2) (.slice o2 p2 d2) HF.out BXq.out LTq.out)
          replace IY := hide (IY.out.keep (BXq.out.keeps (by simp) (by simp) (by simp) (by simp) (.bool s2) (.slice m2 n2 c2) (.bool t2) (.slice o2 p2 d2)))
          replace BXq := hide (BXq.out.put (.bool s2) (.slice m2 n2 c2) (.bool t2) (.slice o2 p2 d2))
          refine hK _ _ (fun _ => HF.out) ?_
          clear hK K hc0 hf0 hc1 hf1 hc2 hf2 hc3 hf3
          generalize ((((wzq.setCell ⟨gq, 0, none⟩ (.bool s2)).setCell ⟨gq, 1, none⟩ (.slice m2 n2 c2)).setCell ⟨gq, 2, none⟩ (.bool t2)).setCell ⟨gq, 3, none⟩ (.slice o2 p2 d2)) = ws8 at *
          refine Calm.take (i := 9) (v := ?_) (a' := ?_) (l' := #[true, true, true, true, true, true, true, true, true, true]) (d := some 4) rfl (by kernel_rfl) (by kernel_rfl) (by kernel_rfl) (by kernel_rfl) (fun _ _ _ h => h) HF.out rfl ?_ rfl rfl ?_ ?_
          rotate_left
          · intro w' hF; clear hF; go_simp; try rfl
          rotate_left
          · simp only [Act.put]; exact rfl
          refine Calm.done (by kernel_rfl) ?_
          have h := FU.out _ HF.out
          go_wp2
          go_meet
          case rel => exact ⟨gq, s2, m2, n2, c2, t2, o2, p2, d2, rfl, rfl, LTq.out, h.1, h.2.1, h.2.2, BXq.out, IY.out⟩
        · go_simp
          have al := below_alloc u5 (.cells #[.bool false, .slice none 0 0, .bool false, .slice none 0 0] 27)
          replace T2 := hide (T2.out.below (al))
          have BXq := hide (Box4.new u5 (.bool false) (.slice none 0 0) (.bool false) (.slice none 0 0))
          have LTq := hide (FL.out _ HF.out)
          replace HF := hide (FS.out _ _ HF.out al)
          refine hK _ _ (fun _ => HF.out) ?_
          clear hK K al
          generalize u5.alloc (.cells #[.bool false, .slice none 0 0, .bool false, .slice none 0 0] 27) = wzq at *
          generalize u5.heap.size = gq at *
          refine Calm.one (i := 3) (l' := #[true, true, true, true, false, false, false, true, false, false]) (by kernel_rfl) rfl rfl rfl fun K hK => ?_
          go_simp
          refine (rtover_any _ _ (Rat.divInt 6 (-4)) ((3 : Int) : Rat) _ (FU.out _ HF.out).2.2 T2.out (w3_sx.mono (by decide)) (w3_s3.mono (by decide)) w3_n3).mono ?_
          rintro e u6 ⟨v, rfl, n, hb⟩
          obtain ⟨s2, m2, n2, c2, t2, o2, p2, d2, rfl, n⟩ := n.cells
          clear T2
          replace BXq := hide (BXq.out.step hb)
          have IY := hide (n)
          replace HF := hide (FS.out _ _ HF.out hb)
          refine hK _ _ (fun _ => HF.out) ?_
          clear hK K hb n
          refine Calm.take (i := 4) (v := ?_) (a' := ?_) (l' := #[true, true, true, true, true, false, false, true, false, false]) (d := some 12) rfl (by kernel_rfl) (by kernel_rfl) (by kernel_rfl) (by kernel_rfl) (fun _ _ _ h => h) HF.out rfl ?_ rfl rfl ?_ ?_
          rotate_left
          · intro w' hF; clear hF; go_simp; try rfl
          rotate_left
          · simp only [Act.put]; exact rfl
          refine Calm.take (i := 5) (v := ?_) (a' := ?_) (l' := #[true, true, true, true, true, true, false, true, false, false]) (d := some 17) rfl (by kernel_rfl) (by kernel_rfl) (by kernel_rfl) (by kernel_rfl) (fun _ _ _ h => h) HF.out rfl ?_ rfl rfl ?_ ?_
          rotate_left
          · intro w' hF; clear hF; go_simp; try rfl
          rotate_left
          · simp only [Act.put]; exact rfl
          refine Calm.take (i := 6) (v := ?_) (a' := ?_) (l' := #[true, true, true, true, true, true, true, true, false, false]) (d := some 18) rfl (by kernel_rfl) (by kernel_rfl) (by kernel_rfl) (by kernel_rfl) (fun _ _ _ h => h) HF.out rfl ?_ rfl rfl ?_ ?_
          rotate_left
          · intro w' hF; clear hF; go_simp; try rfl
          rotate_left
          · simp only [Act.put]; exact rfl
          refine Calm.one (i := 8) (l' := #[true, true, true, true, true, true, true, true, true, false]) (by kernel_rfl) rfl rfl rfl fun K hK => ?_
          have hc0 := BXq.out.cell0
          have hc1 := BXq.out.cell1
          have hc2 := BXq.out.cell2
          have hc3 := BXq.out.cell3
          have hf0 := BXq.out.free 0
          have hf1 := BXq.out.free 1
          have hf2 := BXq.out.free 2
          have hf3 := BXq.out.free 3
          go_simp
          replace HF := hide (FP4.out _ gq (.bool s2) (.slice m2 n2 c2) (.bool t2) (.slice o2 p2 d2) HF.out BXq.out LTq.out)
          replace IY := hide (IY.out.keep (BXq.out.keeps (by simp) (by simp) (by simp) (by simp) (.bool s2) (.slice m2 n2 c2) (.bool t2) (.slice o2 p2 d2)))
          replace BXq := hide (BXq.out.put (.bool s2) (.slice m2 n2 c2) (.bool t2) (.slice o2 p2 d2))
          refine hK _ _ (fun _ => HF.out) ?_
          clear hK K hc0 hf0 hc1 hf1 hc2 hf2 hc3 hf3
          generalize ((((u6.setCell ⟨gq, 0, none⟩ (.bool s2)).setCell ⟨gq, 1, none⟩ (.slice m2 n2 c2)).setCell ⟨gq, 2, none⟩ (.bool t2)).setCell ⟨gq, 3, none⟩ (.slice o2 p2 d2)) = ws8 at *
          refine Calm.take (i := 9) (v := ?_) (a' := ?_) (l' := #[true, true, true, true, true, true, true, true, true, true]) (d := some 4) rfl (by kernel_rfl) (by kernel_rfl) (by kernel_rfl) (by kernel_rfl) (fun _ _ _ h => h) HF.out rfl ?_ rfl rfl ?_ ?_
          rotate_left
          · intro w' hF; clear hF; go_simp; try rfl
          rotate_left
          · simp only [Act.put]; exact rfl
          refine Calm.done (by kernel_rfl) ?_
          have h := FU.out _ HF.out
          go_wp2
          go_meet
          case rel => exact ⟨gq, s2, m2, n2, c2, t2, o2, p2, d2, rfl, rfl, LTq.out, h.1, h.2.1, h.2.2, BXq.out, IY.out⟩
      · go_simp
        have al := below_alloc u4 (.cells #[.bool false, .slice none 0 0, .bool false, .slice none 0 0] 27)
        replace T1 := hide (T1.out.below (al))
        have BXq := hide (Box4.new u4 (.bool false) (.slice none 0 0) (.bool false) (.slice none 0 0))
        have LTq := hide (FL.out _ HF.out)
        replace HF := hide (FS.out _ _ HF.out al)
        refine hK _ _ (fun _ => HF.out) ?_
        clear hK K al
        generalize u4.alloc (.cells #[.bool false, .slice none 0 0, .bool false, .slice none 0 0] 27) = wzq at *
        generalize u4.heap.size = gq at *
        refine Calm.one (i := 2) (l' := #[true, true, true, false, false, false, false, true, false, false]) (by kernel_rfl) rfl rfl rfl fun K hK => ?_
        go_simp
        refine (whole_any _ 3 _ T1.out).mono ?_
        rintro e u5 ⟨v, rfl, n, hb⟩
        clear T1
        replace BXq := hide (BXq.out.step hb)
        have T2 := hide (n)
        replace HF := hide (FS.out _ _ HF.out hb)
        refine hK _ _ (fun _ => HF.out) ?_
        clear hK K hb n
        refine Calm.one (i := 3) (l' := #[true, true, true, true, false, false, false, true, false, false]) (by kernel_rfl) rfl rfl rfl fun K hK => ?_
        go_simp
        refine (rtover_any _ _ (Rat.divInt 6 (-4)) ((3 : Int) : Rat) _ (FU.out _ HF.out).2.2 T2.out (w3_sx.mono (by decide)) (w3_s3.mono (by decide)) w3_n3).mono ?_
        rintro e u6 ⟨v, rfl, n, hb⟩
        obtain ⟨s2, m2, n2, c2, t2, o2, p2, d2, rfl, n⟩ := n.cells
        clear T2
        replace BXq := hide (BXq.out.step hb)
        have IY := hide (n)
        replace HF := hide (FS.out _ _ HF.out hb)
        refine hK _ _ (fun _ => HF.out) ?_
        clear hK K hb n
        refine Calm.take (i := 4) (v := ?_) (a' := ?_) (l' := #[true, true, true, true, true, false, false, true, false, false]) (d := some 12) rfl (by kernel_rfl) (by kernel_rfl) (by kernel_rfl) (by kernel_rfl) (fun _ _ _ h => h) HF.out rfl ?_ rfl rfl ?_ ?_
        rotate_left
        · intro w' hF; clear hF; go_simp; try rfl
        rotate_left
        · simp only [Act.put]; exact rfl
        refine Calm.take (i := 5) (v := ?_) (a' := ?_) (l' := #[true, true, true, true, true, true, false, true, false, false]) (d := some 17) rfl (by kernel_rfl) (by kernel_rfl) (by kernel_rfl) (by kernel_rfl) (fun _ _ _ h => h) HF.out rfl ?_ rfl rfl ?_ ?_
        rotate_left
        · intro w' hF; clear hF; go_simp; try rfl
        rotate_left
        · simp only [Act.put]; exact rfl
        refine Calm.take (i := 6) (v := ?_) (a' := ?_) (l' := #[true, true, true, true, true, true, true, true, false, false]) (d := some 18) rfl (by kernel_rfl) (by kernel_rfl) (by kernel_rfl) (by kernel_rfl) (fun _ _ _ h => h) HF.out rfl ?_ rfl rfl ?_ ?_
        rotate_left
        · intro w' hF; clear hF; go_simp; try rfl
        rotate_left
        · simp only [Act.put]; exact rfl
        refine Calm.one (i := 8) (l' := #[true, true, true, true, true, true, true, true, true, false]) (by kernel_rfl) rfl rfl rfl fun K hK => ?_
        have hc0 := BXq.out.cell0
        have hc1 := BXq.out.cell1
        have hc2 := BXq.out.cell2
        have hc3 := BXq.out.cell3
        have hf0 := BXq.out.free 0
        have hf1 := BXq.out.free 1
        have hf2 := BXq.out.free 2
        have hf3 := BXq.out.free 3
        go_simp
        replace HF := hide (FP4.out _ gq (.bool s2) (.slice m2 n2 c2) (.bool t2) (.slice o2 p2 d2) HF.out BXq.out LTq.out)
        replace IY := hide (IY.out.keep (BXq.out.keeps (by simp) (by simp) (by simp) (by simp) (.bool s2) (.slice m2 n2 c2) (.bool t2) (.slice o2 p2 d2)))
        replace BXq := hide (BXq.out.put (.bool s2) (.slice m2 n2 c2) (.bool t2) (.slice o2 p2 d2))
        refine hK _ _ (fun _ => HF.out) ?_
        clear hK K hc0 hf0 hc1 hf1 hc2 hf2 hc3 hf3
        generalize ((((u6.setCell ⟨gq, 0, none⟩ (.bool s2)).setCell ⟨gq, 1, none⟩ (.slice m2 n2 c2)).setCell ⟨gq, 2, none⟩ (.bool t2)).setCell ⟨gq, 3, none⟩ (.slice o2 p2 d2)) = ws8 at *
        refine Calm.take (i := 9) (v := ?_) (a' := ?_) (l' := #[true, true, true, true, true, true, true, true, true, true]) (d := some 4) rfl (by kernel_rfl) (by kernel_rfl) (by kernel_rfl) (by kernel_rfl) (fun _ _ _ h => h) HF.out rfl ?_ rfl rfl ?_ ?_
        rotate_left
        · intro w' hF; clear hF; go_simp; try rfl
        rotate_left
        · simp only [Act.put]; exact rfl
        refine Calm.done (by kernel_rfl) ?_
        have h := FU.out _ HF.out
        go_wp2
        go_meet
        case rel => exact ⟨gq, s2, m2, n2, c2, t2, o2, p2, d2, rfl, rfl, LTq.out, h.1, h.2.1, h.2.2, BXq.out, IY.out⟩
    · go_simp
      have al := below_alloc u3ad (.cells #[.bool false, .slice none 0 0, .bool false, .slice none 0 0] 27)
      have BXq := hide (Box4.new u3ad (.bool false) (.slice none 0 0) (.bool false) (.slice none 0 0))
      have LTq := hide (FL.out _ HF.out)
      replace HF := hide (FS.out _ _ HF.out al)
      refine hK _ _ (fun _ => HF.out) ?_
      clear hK K al
      generalize u3ad.alloc (.cells #[.bool false, .slice none 0 0, .bool false, .slice none 0 0] 27) = wzq at *
      generalize u3ad.heap.size = gq at *
      refine Calm.one (i := 1) (l' := #[true, true, false, false, false, false, false, true, false, false]) (by kernel_rfl) rfl rfl rfl fun K hK => ?_
      go_simp
      refine (iof_any 3 _ (by decide) (by decide)).mono ?_
      rintro e u4 ⟨v, rfl, n, hb⟩
      replace BXq := hide (BXq.out.step hb)
      have T1 := hide (n)
      replace HF := hide (FS.out _ _ HF.out hb)
      refine hK _ _ (fun _ => HF.out) ?_
      clear hK K hb n
      refine Calm.one (i := 2) (l' := #[true, true, true, false, false, false, false, true, false, false]) (by kernel_rfl) rfl rfl rfl fun K hK => ?_
      go_simp
      refine (whole_any _ 3 _ T1.out).mono ?_
      rintro e u5 ⟨v, rfl, n, hb⟩
      clear T1
      replace BXq := hide (BXq.out.step hb)
      have T2 := hide (n)
      replace HF := hide (FS.out _ _ HF.out hb)
      refine hK _ _ (fun _ => HF.out) ?_
      clear hK K hb n
      refine Calm.one (i := 3) (l' := #[true, true, true, true, false, false, false, true, false, false]) (by kernel_rfl) rfl rfl rfl fun K hK => ?_
      go_simp
      refine (rtover_any _ _ (Rat.divInt 6 (-4)) ((3 : Int) : Rat) _ (FU.out _ HF.out).2.2 T2.out (w3_sx.mono (by decide)) (w3_s3.mono (by decide)) w3_n3).mono ?_
      rintro e u6 ⟨v, rfl, n, hb⟩
      obtain ⟨s2, m2, n2, c2, t2, o2, p2, d2, rfl, n⟩ := n.cells
      clear T2
      replace BXq := hide (BXq.out.step hb)
      have IY := hide (n)
      replace HF := hide (FS.out _ _ HF.out hb)
      refine hK _ _ (fun _ => HF.out) ?_
      clear hK K hb n
      refine Calm.take (i := 4) (v := ?_) (a' := ?_) (l' := #[true, true, true, true, true, false, false, true, false, false]) (d := some 12) rfl (by kernel_rfl) (by kernel_rfl) (by kernel_rfl) (by kernel_rfl) (fun _ _ _ h => h) HF.out rfl ?_ rfl rfl ?_ ?_
      rotate_left
      · intro w' hF; clear hF; go_simp; try rfl
      rotate_left
      · simp only [Act.put]; exact rfl
      refine Calm.take (i := 5) (v := ?_) (a' := ?_) (l' := #[true, true, true, true, true, true, false, true, false, false]) (d := some 17) rfl (by kernel_rfl) (by kernel_rfl) (by kernel_rfl) (by kernel_rfl) (fun _ _ _ h => h) HF.out rfl ?_ rfl rfl ?_ ?_
      rotate_left
      · intro w' hF; clear hF; go_simp; try rfl
      rotate_left
      · simp only [Act.put]; exact rfl
      refine Calm.take (i := 6) (v := ?_) (a' := ?_) (l' := #[true, true, true, true, true, true, true, true, false, false]) (d := some 18) rfl (by kernel_rfl) (by kernel_rfl) (by kernel_rfl) (by kernel_rfl) (fun _ _ _ h => h) HF.out rfl ?_ rfl rfl ?_ ?_
      rotate_left
      · intro w' hF; clear hF; go_simp; try rfl
      rotate_left
      · simp only [Act.put]; exact rfl
      refine Calm.one (i := 8) (l' := #[true, true, true, true, true, true, true, true, true, false]) (by kernel_rfl) rfl rfl rfl fun K hK => ?_
      have hc0 := BXq.out.cell0
      have hc1 := BXq.out.cell1
      have hc2 := BXq.out.cell2
      have hc3 := BXq.out.cell3
      have hf0 := BXq.out.free 0
      have hf1 := BXq.out.free 1
      have hf2 := BXq.out.free 2
      have hf3 := BXq.out.free 3
      go_simp
      replace HF := hide (FP4.out _ gq (.bool s2) (.slice m2 n2 c2) (.bool t2) (.slice o2 p2 d2) HF.out BXq.out LTq.out)
      replace IY := hide (IY.out.keep (BXq.out.keeps (by simp) (by simp) (by simp) (by simp) (.bool s2) (.slice m2 n2 c2) (.bool t2) (.slice o2 p2 d2)))
      replace BXq := hide (BXq.out.put (.bool s2) (.slice m2 n2 c2) (.bool t2) (.slice o2 p2 d2))
      refine hK _ _ (fun _ => HF.out) ?_
      clear hK K hc0 hf0 hc1 hf1 hc2 hf2 hc3 hf3
      generalize ((((u6.setCell ⟨gq, 0, none⟩ (.bool s2)).setCell ⟨gq, 1, none⟩ (.slice m2 n2 c2)).setCell ⟨gq, 2, none⟩ (.bool t2)).setCell ⟨gq, 3, none⟩ (.slice o2 p2 d2)) = ws8 at *
      refine Calm.take (i := 9) (v := ?_) (a' := ?_) (l' := #[true, true, true, true, true, true, true, true, true, true]) (d := some 4) rfl (by kernel_rfl) (by kernel_rfl) (by kernel_rfl) (by kernel_rfl) (fun _ _ _ h => h) HF.out rfl ?_ rfl rfl ?_ ?_
      rotate_left
      · intro w' hF; clear hF; go_simp; try rfl
      rotate_left
      · simp only [Act.put]; exact rfl
      refine Calm.done (by kernel_rfl) ?_
      have h := FU.out _ HF.out
      go_wp2
      go_meet
      case rel => exact ⟨gq, s2, m2, n2, c2, t2, o2, p2, d2, rfl, rfl, LTq.out, h.1, h.2.1, h.2.2, BXq.out, IY.out⟩
  case rest =>
  obtain ⟨gq, s2, m2, n2, c2, t2, o2, p2, d2, rfl, rfl, hlts, h0, h1, h2, bq, eIY⟩ := hcut
  clear HB V1 IX
  have HB := hide h0
  have V1 := hide h1
  have IX := hide h2
  have LTS2 := hide hlts
  have Vq := hide bq
  have IY := hide eIY
  clear hlts h0 h1 h2 bq eIY
  generalize hwc : wc = wc2 at *
  clear hwc
  have hV10 := V1.out.cell0
  have hV11 := V1.out.cell1
  have hV12 := V1.out.cell2
  have hV13 := V1.out.cell3
  have hVq0 := Vq.out.cell0
  have hVq1 := Vq.out.cell1
  have hVq2 := Vq.out.cell2
  have hVq3 := Vq.out.cell3
  go_wp2_with fail
  refine (rtadd_any _ _ ((Rat.divInt 6 (-4)) / ((3 : Int) : Rat)) (Rat.divInt 6 (-4)) _ IY.out IX.out (w3_sy.mono (by decide)) (w3_sx.mono (by decide))).mono ?_
  rintro e u7 ⟨v, rfl, n, hb⟩
  obtain ⟨s3, m3, n3, c3, t3, o3, p3, d3, rfl, n⟩ := n.cells
  clear hV10 hV11 hV12 hV13
  clear hVq0 hVq1 hVq2 hVq3
  replace HB := hide (HB.out.trans ((hb).mono HB.out.size))
  replace IX := hide (IX.out.below (hb))
  replace V1 := hide (V1.out.step (hb))
  replace Vq := hide (Vq.out.step (hb))
  replace IY := hide (IY.out.below (hb))
  have IZ := hide (n)
  clear hb n
  have hV10 := V1.out.cell0
  have hV11 := V1.out.cell1
  have hV12 := V1.out.cell2
  have hV13 := V1.out.cell3
  have hlt := V1.out.lt
  go_wp2_with fail
  clear hlt
  clear hV10 hV11 hV12 hV13
  have Vz := Box4.new u7 (.bool s3) (.slice m3 n3 c3) (.bool t3) (.slice o3 p3 d3)
  replace Vz := hide Vz
  have al := below_alloc u7 (.cells #[.bool s3, .slice m3 n3 c3, .bool t3, .slice o3 p3 d3] 27)
  replace HB := hide (HB.out.trans ((al).mono HB.out.size))
  replace IX := hide (IX.out.below (al))
  replace V1 := hide (V1.out.step (al))
  replace Vq := hide (Vq.out.step (al))
  replace IY := hide (IY.out.below (al))
  replace IZ := hide (IZ.out.below (al))
  clear al
  generalize (u7.alloc (.cells #[.bool s3, .slice m3 n3 c3, .bool t3, .slice o3 p3 d3] 27)) = u7a at *
  generalize u7.heap.size = gz at *
  refine (rttext_any _ (Rat.divInt 6 (-4)) _ IX.out (w3_sx.mono (by decide))).mono ?_
  rintro e u8 ⟨he, hb⟩
  rw [w3_x] at he
  subst he
  replace HB := hide (HB.out.trans ((hb).mono HB.out.size))
  replace IX := hide (IX.out.below (hb))
  replace V1 := hide (V1.out.step (hb))
  replace Vq := hide (Vq.out.step (hb))
  replace IY := hide (IY.out.below (hb))
  replace IZ := hide (IZ.out.below (hb))
  replace Vz := hide (Vz.out.step (hb))
  clear hb
  have hV10 := V1.out.cell0
  have hV11 := V1.out.cell1
  have hV12 := V1.out.cell2
  have hV13 := V1.out.cell3
  have hVq0 := Vq.out.cell0
  have hVq1 := Vq.out.cell1
  have hVq2 := Vq.out.cell2
  have hVq3 := Vq.out.cell3
  have hVz0 := Vz.out.cell0
  have hVz1 := Vz.out.cell1
  have hVz2 := Vz.out.cell2
  have hVz3 := Vz.out.cell3
  go_wp2_with fail
  refine (rttext_any _ ((Rat.divInt 6 (-4)) / ((3 : Int) : Rat)) _ IY.out (w3_sy.mono (by decide))).mono ?_
  rintro e u9 ⟨he, hb⟩
  rw [w3_y] at he
  subst he
  clear hV10 hV11 hV12 hV13
  clear hVq0 hVq1 hVq2 hVq3
  clear hVz0 hVz1 hVz2 hVz3
  replace HB := hide (HB.out.trans ((hb).mono HB.out.size))
  replace IX := hide (IX.out.below (hb))
  replace V1 := hide (V1.out.step (hb))
  replace Vq := hide (Vq.out.step (hb))
  replace IY := hide (IY.out.below (hb))
  replace IZ := hide (IZ.out.below (hb))
  replace Vz := hide (Vz.out.step (hb))
  clear hb
  have hV10 := V1.out.cell0
  have hV11 := V1.out.cell1
  have hV12 := V1.out.cell2
  have hV13 := V1.out.cell3
  have hVq0 := Vq.out.cell0
  have hVq1 := Vq.out.cell1
  have hVq2 := Vq.out.cell2
  have hVq3 := Vq.out.cell3
  have hVz0 := Vz.out.cell0
  have hVz1 := Vz.out.cell1
  have hVz2 := Vz.out.cell2
  have hVz3 := Vz.out.cell3
  go_wp2_with fail
  refine (rttext_any _ (((Rat.divInt 6 (-4)) / ((3 : Int) : Rat)) + (Rat.divInt 6 (-4))) _ IZ.out (w3_sz.mono (by decide))).mono ?_
  rintro e u10 ⟨he, hb⟩
  rw [w3_z] at he
  subst he
  clear hV10 hV11 hV12 hV13
  clear hVq0 hVq1 hVq2 hVq3
  clear hVz0 hVz1 hVz2 hVz3
  replace HB := hide (HB.out.trans ((hb).mono HB.out.size))
  replace IX := hide (IX.out.below (hb))
  replace V1 := hide (V1.out.step (hb))
  replace Vq := hide (Vq.out.step (hb))
  replace IY := hide (IY.out.below (hb))
  replace IZ := hide (IZ.out.below (hb))
  replace Vz := hide (Vz.out.step (hb))
  clear hb
  have hV10 := V1.out.cell0
  have hV11 := V1.out.cell1
  have hV12 := V1.out.cell2
  have hV13 := V1.out.cell3
  have hVq0 := Vq.out.cell0
  have hVq1 := Vq.out.cell1
  have hVq2 := Vq.out.cell2
  have hVq3 := Vq.out.cell3
  have hVz0 := Vz.out.cell0
  have hVz1 := Vz.out.cell1
  have hVz2 := Vz.out.cell2
  have hVz3 := Vz.out.cell3
  go_wp2_with fail
  refine (iswhole_any _ (((Rat.divInt 6 (-4)) / ((3 : Int) : Rat)) + (Rat.divInt 6 (-4))) _ IZ.out).mono ?_
  rintro e u11 ⟨he, hb⟩
  rw [w3_w] at he
  subst he
  clear hV10 hV11 hV12 hV13
  clear hVq0 hVq1 hVq2 hVq3
  clear hVz0 hVz1 hVz2 hVz3
  replace HB := hide (HB.out.trans ((hb).mono HB.out.size))
  replace IX := hide (IX.out.below (hb))
  replace V1 := hide (V1.out.step (hb))
  replace Vq := hide (Vq.out.step (hb))
  replace IY := hide (IY.out.below (hb))
  replace IZ := hide (IZ.out.below (hb))
  replace Vz := hide (Vz.out.step (hb))
  clear hb
  have hV10 := V1.out.cell0
  have hV11 := V1.out.cell1
  have hV12 := V1.out.cell2
  have hV13 := V1.out.cell3
  have hVq0 := Vq.out.cell0
  have hVq1 := Vq.out.cell1
  have hVq2 := Vq.out.cell2
  have hVq3 := Vq.out.cell3
  have hVz0 := Vz.out.cell0
  have hVz1 := Vz.out.cell1
  have hVz2 := Vz.out.cell2
  have hVz3 := Vz.out.cell3
  go_wp2_with fail
  refine (den_any _ (((Rat.divInt 6 (-4)) / ((3 : Int) : Rat)) + (Rat.divInt 6 (-4))) _ IZ.out).mono ?_
  rintro e u12 ⟨v, rfl, n, hb⟩
  clear hV10 hV11 hV12 hV13
  clear hVq0 hVq1 hVq2 hVq3
  clear hVz0 hVz1 hVz2 hVz3
  replace HB := hide (HB.out.trans ((hb).mono HB.out.size))
  replace IX := hide (IX.out.below (hb))
  replace V1 := hide (V1.out.step (hb))
  replace Vq := hide (Vq.out.step (hb))
  replace IY := hide (IY.out.below (hb))
  replace IZ := hide (IZ.out.below (hb))
  replace Vz := hide (Vz.out.step (hb))
  have T1 := hide (n)
  clear hb n
  go_wp2_with fail
  refine (itext_any _ _ _ T1.out (w3_sz.den.len (by decide))).mono ?_
  rintro e u13 ⟨he, hb⟩
  rw [w3_d] at he
  subst he
  replace HB := hide (HB.out.trans ((hb).mono HB.out.size))
  replace IX := hide (IX.out.below (hb))
  replace V1 := hide (V1.out.step (hb))
  replace Vq := hide (Vq.out.step (hb))
  replace IY := hide (IY.out.below (hb))
  replace IZ := hide (IZ.out.below (hb))
  replace Vz := hide (Vz.out.step (hb))
  replace T1 := hide (T1.out.below (hb))
  clear hb
  clear T1
  have hV10 := V1.out.cell0
  have hV11 := V1.out.cell1
  have hV12 := V1.out.cell2
  have hV13 := V1.out.cell3
  have hVq0 := Vq.out.cell0
  have hVq1 := Vq.out.cell1
  have hVq2 := Vq.out.cell2
  have hVq3 := Vq.out.cell3
  have hVz0 := Vz.out.cell0
  have hVz1 := Vz.out.cell1
  have hVz2 := Vz.out.cell2
  have hVz3 := Vz.out.cell3
  go_wp2_with fail
  refine (rtfloor_any _ (Rat.divInt 6 (-4)) _ IX.out (w3_sx.mono (by decide))).mono ?_
  rintro e u14 ⟨v, rfl, n, hb⟩
  clear hV10 hV11 hV12 hV13
  clear hVq0 hVq1 hVq2 hVq3
  clear hVz0 hVz1 hVz2 hVz3
  replace HB := hide (HB.out.trans ((hb).mono HB.out.size))
  replace IX := hide (IX.out.below (hb))
  replace V1 := hide (V1.out.step (hb))
  replace Vq := hide (Vq.out.step (hb))
  replace IY := hide (IY.out.below (hb))
  replace IZ := hide (IZ.out.below (hb))
  replace Vz := hide (Vz.out.step (hb))
  have T1 := hide (n)
  clear hb n
  go_wp2_with fail
  refine (itext_any _ _ _ T1.out (w3_sf.len (by decide))).mono ?_
  rintro e u15 ⟨he, hb⟩
  rw [w3_f] at he
  subst he
  replace HB := hide (HB.out.trans ((hb).mono HB.out.size))
  replace IX := hide (IX.out.below (hb))
  replace V1 := hide (V1.out.step (hb))
  replace Vq := hide (Vq.out.step (hb))
  replace IY := hide (IY.out.below (hb))
  replace IZ := hide (IZ.out.below (hb))
  replace Vz := hide (Vz.out.step (hb))
  replace T1 := hide (T1.out.below (hb))
  clear hb
  go_wp2
  go_ret
  exact ⟨rfl, HB.out⟩
end Go.Proofs.Ytgkibmigbjjnnaa
