/- ratio.Rat's Over. -/
import Derived.Test.YtpbfbjipdacbkaaRMul
import Derived.Deep.Cut
namespace Go.Proofs.Ytpbfbjipdacbkaa
open Go.RowKit

set_option maxRecDepth 100000 in
set_option maxHeartbeats 4000000 in
theorem rtover_zero (v1 v2 : Value) (x y : Rat) (w : World) (h1 : RatAt w v1 x) (h2 : RatAt w v2 y) (hz : y = 0) :
    Calls Try.prog 14 #[v1, v2] w fun e w' => ∃ v', e = .returned (.tuple #[v', .int .i64 2]) ∧ RatAt w' v' 0 ∧ Below w.heap.size w w' := by
  have HZ : Hid (y.num = 0) := hide (by rw [hz]; rfl)
  clear hz
  obtain ⟨s1, m1, n1, c1, t1, o1, p1, d1, rfl, i1⟩ := h1.cells
  have I1 := hide i1
  clear h1 i1
  obtain ⟨s2, m2, n2, c2, t2, o2, p2, d2, rfl, i2⟩ := h2.cells
  have I2 := hide i2
  clear h2 i2
  have P0 := Box4.new w (.bool s1) (.slice m1 n1 c1) (.bool t1) (.slice o1 p1 d1)
  replace P0 := P0.step (below_alloc _ (.cells #[.bool s2, .slice m2 n2 c2, .bool t2, .slice o2 p2 d2] 27))
  replace P0 := P0.step (below_alloc _ (.cells #[.bool false, .slice none 0 0, .bool false, .slice none 0 0] 27))
  replace P0 := hide P0
  have P1 := Box4.new (w.alloc (.cells #[.bool s1, .slice m1 n1 c1, .bool t1, .slice o1 p1 d1] 27)) (.bool s2) (.slice m2 n2 c2) (.bool t2) (.slice o2 p2 d2)
  simp only [World.size_alloc] at P1
  replace P1 := P1.step (below_alloc _ (.cells #[.bool false, .slice none 0 0, .bool false, .slice none 0 0] 27))
  replace P1 := hide P1
  have P2 := Box4.new ((w.alloc (.cells #[.bool s1, .slice m1 n1 c1, .bool t1, .slice o1 p1 d1] 27)).alloc (.cells #[.bool s2, .slice m2 n2 c2, .bool t2, .slice o2 p2 d2] 27)) (.bool false) (.slice none 0 0) (.bool false) (.slice none 0 0)
  simp only [World.size_alloc] at P2
  replace P2 := hide P2
  have HB := below_alloc w (.cells #[.bool s1, .slice m1 n1 c1, .bool t1, .slice o1 p1 d1] 27)
  replace HB := HB.trans ((below_alloc _ (.cells #[.bool s2, .slice m2 n2 c2, .bool t2, .slice o2 p2 d2] 27)).mono (by simp only [World.size_alloc]; omega))
  replace HB := HB.trans ((below_alloc _ (.cells #[.bool false, .slice none 0 0, .bool false, .slice none 0 0] 27)).mono (by simp only [World.size_alloc]; omega))
  replace I1 := hide (I1.out.below HB)
  replace I2 := hide (I2.out.below HB)
  replace HB := hide HB
  go_enter Try.func14, Try.ntmps14
  go_wp2_with fail
  generalize (((w.alloc (.cells #[.bool s1, .slice m1 n1 c1, .bool t1, .slice o1 p1 d1] 27)).alloc (.cells #[.bool s2, .slice m2 n2 c2, .bool t2, .slice o2 p2 d2] 27)).alloc (.cells #[.bool false, .slice none 0 0, .bool false, .slice none 0 0] 27)) = w0 at *
  go_cut [6, 7] from 8 (fun pt0 pe0 wx => ∃ gt s3 m3 n3 c3 t3 o3 p3 d3, pt0 = .pointer (some ⟨gt, 0, none⟩) ∧ pe0 = .int .i64 2 ∧ ((w.heap.size < gt ∧ (w.heap.size + 1) < gt ∧ (w.heap.size + 1 + 1) < gt)) ∧ Below w.heap.size w wx ∧ Box4 wx w.heap.size (.bool s1) (.slice m1 n1 c1) (.bool t1) (.slice o1 p1 d1) ∧ Box4 wx (w.heap.size + 1) (.bool s2) (.slice m2 n2 c2) (.bool t2) (.slice o2 p2 d2) ∧ Box4 wx (w.heap.size + 1 + 1) (.bool false) (.slice none 0 0) (.bool false) (.slice none 0 0) ∧ RatAt wx (.agg #[.bool s1, .slice m1 n1 c1, .bool t1, .slice o1 p1 d1]) x ∧ RatAt wx (.agg #[.bool s2, .slice m2 n2 c2, .bool t2, .slice o2 p2 d2]) y ∧ Box4 wx gt (.bool s3) (.slice m3 n3 c3) (.bool t3) (.slice o3 p3 d3) ∧ RatAt wx (.agg #[.bool s3, .slice m3 n3 c3, .bool t3, .slice o3 p3 d3]) 0)
  case first =>
    obtain ⟨F, hF⟩ : ∃ F : World → Prop, F = (fun w' => Below w.heap.size w w' ∧ Box4 w' w.heap.size (.bool s1) (.slice m1 n1 c1) (.bool t1) (.slice o1 p1 d1) ∧ Box4 w' (w.heap.size + 1) (.bool s2) (.slice m2 n2 c2) (.bool t2) (.slice o2 p2 d2) ∧ Box4 w' (w.heap.size + 1 + 1) (.bool false) (.slice none 0 0) (.bool false) (.slice none 0 0) ∧ RatAt w' (.agg #[.bool s1, .slice m1 n1 c1, .bool t1, .slice o1 p1 d1]) x ∧ RatAt w' (.agg #[.bool s2, .slice m2 n2 c2, .bool t2, .slice o2 p2 d2]) y) := ⟨_, rfl⟩
    have FU : Hid (∀ W, F W → (Below w.heap.size w W ∧ Box4 W w.heap.size (.bool s1) (.slice m1 n1 c1) (.bool t1) (.slice o1 p1 d1) ∧ Box4 W (w.heap.size + 1) (.bool s2) (.slice m2 n2 c2) (.bool t2) (.slice o2 p2 d2) ∧ Box4 W (w.heap.size + 1 + 1) (.bool false) (.slice none 0 0) (.bool false) (.slice none 0 0) ∧ RatAt W (.agg #[.bool s1, .slice m1 n1 c1, .bool t1, .slice o1 p1 d1]) x ∧ RatAt W (.agg #[.bool s2, .slice m2 n2 c2, .bool t2, .slice o2 p2 d2]) y)) := hide (fun W h => by rw [hF] at h; exact h)
    have FM : Hid (∀ W, (Below w.heap.size w W ∧ Box4 W w.heap.size (.bool s1) (.slice m1 n1 c1) (.bool t1) (.slice o1 p1 d1) ∧ Box4 W (w.heap.size + 1) (.bool s2) (.slice m2 n2 c2) (.bool t2) (.slice o2 p2 d2) ∧ Box4 W (w.heap.size + 1 + 1) (.bool false) (.slice none 0 0) (.bool false) (.slice none 0 0) ∧ RatAt W (.agg #[.bool s1, .slice m1 n1 c1, .bool t1, .slice o1 p1 d1]) x ∧ RatAt W (.agg #[.bool s2, .slice m2 n2 c2, .bool t2, .slice o2 p2 d2]) y) → F W) := hide (fun W h => by rw [hF]; exact h)
    clear hF
    have FS : Hid (∀ W W', F W → Below W.heap.size W W' → F W') := hide (fun W W' h hb => by
      have h := FU.out W h
      exact FM.out W' (And.intro (h.1.trans ((hb).mono h.1.size)) (And.intro (h.2.1.step (hb)) (And.intro (h.2.2.1.step (hb)) (And.intro (h.2.2.2.1.step (hb)) (And.intro (h.2.2.2.2.1.below (hb)) (h.2.2.2.2.2.below (hb))))))))
    have FC : Hid (∀ W, F W → (W.cell? ⟨w.heap.size, 0, none⟩ = some (.bool s1) ∧ W.cell? ⟨w.heap.size, 1, none⟩ = some (.slice m1 n1 c1) ∧ W.cell? ⟨w.heap.size, 2, none⟩ = some (.bool t1) ∧ W.cell? ⟨w.heap.size, 3, none⟩ = some (.slice o1 p1 d1) ∧ W.cell? ⟨(w.heap.size + 1), 0, none⟩ = some (.bool s2) ∧ W.cell? ⟨(w.heap.size + 1), 1, none⟩ = some (.slice m2 n2 c2) ∧ W.cell? ⟨(w.heap.size + 1), 2, none⟩ = some (.bool t2) ∧ W.cell? ⟨(w.heap.size + 1), 3, none⟩ = some (.slice o2 p2 d2) ∧ W.cell? ⟨(w.heap.size + 1 + 1), 0, none⟩ = some (.bool false) ∧ W.cell? ⟨(w.heap.size + 1 + 1), 1, none⟩ = some (.slice none 0 0) ∧ W.cell? ⟨(w.heap.size + 1 + 1), 2, none⟩ = some (.bool false) ∧ W.cell? ⟨(w.heap.size + 1 + 1), 3, none⟩ = some (.slice none 0 0))) := hide (fun W h => by
      have h := FU.out W h
      exact ⟨h.2.1.cell0, h.2.1.cell1, h.2.1.cell2, h.2.1.cell3, h.2.2.1.cell0, h.2.2.1.cell1, h.2.2.1.cell2, h.2.2.1.cell3, h.2.2.2.1.cell0, h.2.2.2.1.cell1, h.2.2.2.1.cell2, h.2.2.2.1.cell3⟩)
    have FL : Hid (∀ W, F W → (w.heap.size < W.heap.size ∧ (w.heap.size + 1) < W.heap.size ∧ (w.heap.size + 1 + 1) < W.heap.size)) := hide (fun W h => by
      have h := FU.out W h
      exact ⟨h.2.1.lt, h.2.2.1.lt, h.2.2.2.1.lt⟩)
    have FP4 : Hid (∀ W g (x1 x2 x3 x4 : Value), F W → Box4 W g (.bool false) (.slice none 0 0) (.bool false) (.slice none 0 0) → (w.heap.size < g ∧ (w.heap.size + 1) < g ∧ (w.heap.size + 1 + 1) < g) → F ((((W.setCell ⟨g, 0, none⟩ x1).setCell ⟨g, 1, none⟩ x2).setCell ⟨g, 2, none⟩ x3).setCell ⟨g, 3, none⟩ x4)) := hide (fun W g x1 x2 x3 x4 h hX hl => by
      have h := FU.out W h
      exact FM.out _ (And.intro (below_put4 h.1 (show w.heap.size ≤ g by omega) x1 x2 x3 x4) (And.intro (h.2.1.other4 (C := g) (by omega) x1 x2 x3 x4) (And.intro (h.2.2.1.other4 (C := g) (by omega) x1 x2 x3 x4) (And.intro (h.2.2.2.1.other4 (C := g) (by omega) x1 x2 x3 x4) (And.intro (h.2.2.2.2.1.keep (hX.keeps (by simp) (by simp) (by simp) (by simp) x1 x2 x3 x4)) (h.2.2.2.2.2.keep (hX.keeps (by simp) (by simp) (by simp) (by simp) x1 x2 x3 x4))))))))
    refine wp_calm F (fun _ => true) 11 #[false, false, false, false, false, false, false, false, false, false, false] (by kernel_rfl) rfl rfl ?_
    have HF := hide (FM.out _ (And.intro (HB.out.drew) (And.intro (P0.out.drew) (And.intro (P1.out.drew) (And.intro (P2.out.drew) (And.intro (I1.out.drew) (I2.out.drew)))))))
    generalize w0.drew = w0d at *
    refine Calm.take (i := 0) (v := ?_) (a' := ?_) (l' := #[true, false, false, false, false, false, false, false, false, false, false]) (d := some 9) rfl (by kernel_rfl) (by kernel_rfl) (by kernel_rfl) (by kernel_rfl) (fun _ _ _ h => h) HF.out rfl ?_ rfl rfl ?_ ?_
    rotate_left
    · intro w' hF; obtain ⟨f0, f1, f2, f3, f4, f5, f6, f7, f8, f9, f10, f11⟩ := FC.out _ hF; clear hF; go_simp; try rfl
    rotate_left
    · simp only [Act.put]; exact rfl
    refine Calm.take (i := 2) (v := ?_) (a' := ?_) (l' := #[true, false, true, false, false, false, false, false, false, false, false]) (d := some 11) rfl (by kernel_rfl) (by kernel_rfl) (by kernel_rfl) (by kernel_rfl) (fun _ _ _ h => h) HF.out rfl ?_ rfl rfl ?_ ?_
    rotate_left
    · intro w' hF; clear hF; go_simp; try rfl
    rotate_left
    · simp only [Act.put]; exact rfl
    refine Calm.take (i := 3) (v := ?_) (a' := ?_) (l' := #[true, false, true, true, false, false, false, false, false, false, false]) (d := some 12) rfl (by kernel_rfl) (by kernel_rfl) (by kernel_rfl) (by kernel_rfl) (fun _ _ _ h => h) HF.out rfl ?_ rfl rfl ?_ ?_
    rotate_left
    · intro w' hF; obtain ⟨f0, f1, f2, f3, f4, f5, f6, f7, f8, f9, f10, f11⟩ := FC.out _ hF; clear hF; go_simp; try rfl
    rotate_left
    · simp only [Act.put]; exact rfl
    refine Calm.two (i := 1) (j := 8) (l := #[true, true, true, true, false, false, false, false, false, false, false]) (l' := #[true, false, true, true, false, false, false, false, true, false, false]) (by kernel_rfl) rfl rfl rfl rfl rfl rfl (fun K hK => ?_) (fun K hK => ?_)
    · go_simp
      refine (den_any _ y _ (FU.out _ HF.out).2.2.2.2.2).mono ?_
      rintro e u1 ⟨v, rfl, n, hb⟩
      have T1 := hide (n)
      replace HF := hide (FS.out _ _ HF.out hb)
      refine hK _ _ (fun _ => HF.out) ?_
      clear hK K hb n
      refine Calm.two (i := 4) (j := 8) (l := #[true, true, true, true, true, false, false, false, false, false, false]) (l' := #[true, true, true, true, false, false, false, false, true, false, false]) (by kernel_rfl) rfl rfl rfl rfl rfl rfl (fun K hK => ?_) (fun K hK => ?_)
      · go_simp
        refine (rmake_zero _ _ (y.den : Int) y.num _ T1.out (FU.out _ HF.out).2.2.2.2.2.num HZ.out).mono ?_
        rintro e u2 ⟨v, rfl, n, hb⟩
        obtain ⟨s3, m3, n3, c3, t3, o3, p3, d3, rfl, n⟩ := n.cells
        clear T1
        have TT := hide (n)
        replace HF := hide (FS.out _ _ HF.out hb)
        refine hK _ _ (fun _ => HF.out) ?_
        clear hK K hb n
        refine Calm.take (i := 5) (v := ?_) (a' := ?_) (l' := #[true, true, true, true, true, true, false, false, false, false, false]) (d := some 8) rfl (by kernel_rfl) (by kernel_rfl) (by kernel_rfl) (by kernel_rfl) (fun _ _ _ h => h) HF.out rfl ?_ rfl rfl ?_ ?_
        rotate_left
        · intro w' hF; clear hF; go_simp; try rfl
        rotate_left
        · simp only [Act.put]; exact rfl
        refine Calm.take (i := 6) (v := ?_) (a' := ?_) (l' := #[true, true, true, true, true, true, true, false, false, false, false]) (d := some 14) rfl (by kernel_rfl) (by kernel_rfl) (by kernel_rfl) (by kernel_rfl) (fun _ _ _ h => h) HF.out rfl ?_ rfl rfl ?_ ?_
        rotate_left
        · intro w' hF; clear hF; go_simp; try rfl
        rotate_left
        · simp only [Act.put]; exact rfl
        refine Calm.take (i := 7) (v := ?_) (a' := ?_) (l' := #[true, true, true, true, true, true, true, true, false, false, false]) (d := some 15) rfl (by kernel_rfl) (by kernel_rfl) (by kernel_rfl) (by kernel_rfl) (fun _ _ _ h => h) HF.out rfl ?_ rfl rfl ?_ ?_
        rotate_left
        · intro w' hF; clear hF; go_simp; try rfl
        rotate_left
        · simp only [Act.put]; exact rfl
        refine Calm.one (i := 8) (l' := #[true, true, true, true, true, true, true, true, true, false, false]) (by kernel_rfl) rfl rfl rfl fun K hK => ?_
        go_simp
        have al := below_alloc u2 (.cells #[.bool false, .slice none 0 0, .bool false, .slice none 0 0] 27)
        replace TT := hide (TT.out.below (al))
        have BXt := hide (Box4.new u2 (.bool false) (.slice none 0 0) (.bool false) (.slice none 0 0))
        have LTt := hide (FL.out _ HF.out)
        replace HF := hide (FS.out _ _ HF.out al)
        refine hK _ _ (fun _ => HF.out) ?_
        clear hK K al
        generalize u2.alloc (.cells #[.bool false, .slice none 0 0, .bool false, .slice none 0 0] 27) = wzt at *
        generalize u2.heap.size = gt at *
        refine Calm.one (i := 9) (l' := #[true, true, true, true, true, true, true, true, true, true, false]) (by kernel_rfl) rfl rfl rfl fun K hK => ?_
        have hc0 := BXt.out.cell0
        have hc1 := BXt.out.cell1
        have hc2 := BXt.out.cell2
        have hc3 := BXt.out.cell3
        have hf0 := BXt.out.free 0
        have hf1 := BXt.out.free 1
        have hf2 := BXt.out.free 2
        have hf3 := BXt.out.free 3
        go_simp
        replace HF := hide (FP4.out _ gt (.bool s3) (.slice m3 n3 c3) (.bool t3) (.slice o3 p3 d3) HF.out BXt.out LTt.out)
        replace TT := hide (TT.out.keep (BXt.out.keeps (by simp) (by simp) (by simp) (by simp) (.bool s3) (.slice m3 n3 c3) (.bool t3) (.slice o3 p3 d3)))
        replace BXt := hide (BXt.out.put (.bool s3) (.slice m3 n3 c3) (.bool t3) (.slice o3 p3 d3))
        refine hK _ _ (fun _ => HF.out) ?_
        clear hK K hc0 hf0 hc1 hf1 hc2 hf2 hc3 hf3
        generalize ((((wzt.setCell ⟨gt, 0, none⟩ (.bool s3)).setCell ⟨gt, 1, none⟩ (.slice m3 n3 c3)).setCell ⟨gt, 2, none⟩ (.bool t3)).setCell ⟨gt, 3, none⟩ (.slice o3 p3 d3)) = ws9 at *
        refine Calm.take (i := 10) (v := ?_) (a' := ?_) (l' := #[true, true, true, true, true, true, true, true, true, true, true]) (d := some 7) rfl (by kernel_rfl) (by kernel_rfl) (by kernel_rfl) (by kernel_rfl) (fun _ _ _ h => h) HF.out rfl ?_ rfl rfl ?_ ?_
        rotate_left
        · intro w' hF; clear hF; go_simp; try rfl
        rotate_left
        · simp only [Act.put]; exact rfl
        refine Calm.done (by kernel_rfl) ?_
        have h := FU.out _ HF.out
        go_wp2
        go_meet
        case rel => exact ⟨gt, s3, m3, n3, c3, t3, o3, p3, d3, rfl, rfl, LTt.out, h.1, h.2.1, h.2.2.1, h.2.2.2.1, h.2.2.2.2.1, h.2.2.2.2.2, BXt.out, TT.out⟩
      · go_simp
        have al := below_alloc u1 (.cells #[.bool false, .slice none 0 0, .bool false, .slice none 0 0] 27)
        replace T1 := hide (T1.out.below (al))
        have BXt := hide (Box4.new u1 (.bool false) (.slice none 0 0) (.bool false) (.slice none 0 0))
        have LTt := hide (FL.out _ HF.out)
        replace HF := hide (FS.out _ _ HF.out al)
        refine hK _ _ (fun _ => HF.out) ?_
        clear hK K al
        generalize u1.alloc (.cells #[.bool false, .slice none 0 0, .bool false, .slice none 0 0] 27) = wzt at *
        generalize u1.heap.size = gt at *
        refine Calm.one (i := 4) (l' := #[true, true, true, true, true, false, false, false, true, false, false]) (by kernel_rfl) rfl rfl rfl fun K hK => ?_
        go_simp
        refine (rmake_zero _ _ (y.den : Int) y.num _ T1.out (FU.out _ HF.out).2.2.2.2.2.num HZ.out).mono ?_
        rintro e u2 ⟨v, rfl, n, hb⟩
        obtain ⟨s3, m3, n3, c3, t3, o3, p3, d3, rfl, n⟩ := n.cells
        clear T1
        replace BXt := hide (BXt.out.step hb)
        have TT := hide (n)
        replace HF := hide (FS.out _ _ HF.out hb)
        refine hK _ _ (fun _ => HF.out) ?_
        clear hK K hb n
        refine Calm.take (i := 5) (v := ?_) (a' := ?_) (l' := #[true, true, true, true, true, true, false, false, true, false, false]) (d := some 8) rfl (by kernel_rfl) (by kernel_rfl) (by kernel_rfl) (by kernel_rfl) (fun _ _ _ h => h) HF.out rfl ?_ rfl rfl ?_ ?_
        rotate_left
        · intro w' hF; clear hF; go_simp; try rfl
        rotate_left
        · simp only [Act.put]; exact rfl
        refine Calm.take (i := 6) (v := ?_) (a' := ?_) (l' := #[true, true, true, true, true, true, true, false, true, false, false]) (d := some 14) rfl (by kernel_rfl) (by kernel_rfl) (by kernel_rfl) (by kernel_rfl) (fun _ _ _ h => h) HF.out rfl ?_ rfl rfl ?_ ?_
        rotate_left
        · intro w' hF; clear hF; go_simp; try rfl
        rotate_left
        · simp only [Act.put]; exact rfl
        refine Calm.take (i := 7) (v := ?_) (a' := ?_) (l' := #[true, true, true, true, true, true, true, true, true, false, false]) (d := some 15) rfl (by kernel_rfl) (by kernel_rfl) (by kernel_rfl) (by kernel_rfl) (fun _ _ _ h => h) HF.out rfl ?_ rfl rfl ?_ ?_
        rotate_left
        · intro w' hF; clear hF; go_simp; try rfl
        rotate_left
        · simp only [Act.put]; exact rfl
        refine Calm.one (i := 9) (l' := #[true, true, true, true, true, true, true, true, true, true, false]) (by kernel_rfl) rfl rfl rfl fun K hK => ?_
        have hc0 := BXt.out.cell0
        have hc1 := BXt.out.cell1
        have hc2 := BXt.out.cell2
        have hc3 := BXt.out.cell3
        have hf0 := BXt.out.free 0
        have hf1 := BXt.out.free 1
        have hf2 := BXt.out.free 2
        have hf3 := BXt.out.free 3
        go_simp
        replace HF := hide (FP4.out _ gt (.bool s3) (.slice m3 n3 c3) (.bool t3) (.slice o3 p3 d3) HF.out BXt.out LTt.out)
        replace TT := hide (TT.out.keep (BXt.out.keeps (by simp) (by simp) (by simp) (by simp) (.bool s3) (.slice m3 n3 c3) (.bool t3) (.slice o3 p3 d3)))
        replace BXt := hide (BXt.out.put (.bool s3) (.slice m3 n3 c3) (.bool t3) (.slice o3 p3 d3))
        refine hK _ _ (fun _ => HF.out) ?_
        clear hK K hc0 hf0 hc1 hf1 hc2 hf2 hc3 hf3
        generalize ((((u2.setCell ⟨gt, 0, none⟩ (.bool s3)).setCell ⟨gt, 1, none⟩ (.slice m3 n3 c3)).setCell ⟨gt, 2, none⟩ (.bool t3)).setCell ⟨gt, 3, none⟩ (.slice o3 p3 d3)) = ws9 at *
        refine Calm.take (i := 10) (v := ?_) (a' := ?_) (l' := #[true, true, true, true, true, true, true, true, true, true, true]) (d := some 7) rfl (by kernel_rfl) (by kernel_rfl) (by kernel_rfl) (by kernel_rfl) (fun _ _ _ h => h) HF.out rfl ?_ rfl rfl ?_ ?_
        rotate_left
        · intro w' hF; clear hF; go_simp; try rfl
        rotate_left
        · simp only [Act.put]; exact rfl
        refine Calm.done (by kernel_rfl) ?_
        have h := FU.out _ HF.out
        go_wp2
        go_meet
        case rel => exact ⟨gt, s3, m3, n3, c3, t3, o3, p3, d3, rfl, rfl, LTt.out, h.1, h.2.1, h.2.2.1, h.2.2.2.1, h.2.2.2.2.1, h.2.2.2.2.2, BXt.out, TT.out⟩
    · go_simp
      have al := below_alloc w0d (.cells #[.bool false, .slice none 0 0, .bool false, .slice none 0 0] 27)
      have BXt := hide (Box4.new w0d (.bool false) (.slice none 0 0) (.bool false) (.slice none 0 0))
      have LTt := hide (FL.out _ HF.out)
      replace HF := hide (FS.out _ _ HF.out al)
      refine hK _ _ (fun _ => HF.out) ?_
      clear hK K al
      generalize w0d.alloc (.cells #[.bool false, .slice none 0 0, .bool false, .slice none 0 0] 27) = wzt at *
      generalize w0d.heap.size = gt at *
      refine Calm.one (i := 1) (l' := #[true, true, true, true, false, false, false, false, true, false, false]) (by kernel_rfl) rfl rfl rfl fun K hK => ?_
      go_simp
      refine (den_any _ y _ (FU.out _ HF.out).2.2.2.2.2).mono ?_
      rintro e u1 ⟨v, rfl, n, hb⟩
      replace BXt := hide (BXt.out.step hb)
      have T1 := hide (n)
      replace HF := hide (FS.out _ _ HF.out hb)
      refine hK _ _ (fun _ => HF.out) ?_
      clear hK K hb n
      refine Calm.one (i := 4) (l' := #[true, true, true, true, true, false, false, false, true, false, false]) (by kernel_rfl) rfl rfl rfl fun K hK => ?_
      go_simp
      refine (rmake_zero _ _ (y.den : Int) y.num _ T1.out (FU.out _ HF.out).2.2.2.2.2.num HZ.out).mono ?_
      rintro e u2 ⟨v, rfl, n, hb⟩
      obtain ⟨s3, m3, n3, c3, t3, o3, p3, d3, rfl, n⟩ := n.cells
      clear T1
      replace BXt := hide (BXt.out.step hb)
      have TT := hide (n)
      replace HF := hide (FS.out _ _ HF.out hb)
      refine hK _ _ (fun _ => HF.out) ?_
      clear hK K hb n
      refine Calm.take (i := 5) (v := ?_) (a' := ?_) (l' := #[true, true, true, true, true, true, false, false, true, false, false]) (d := some 8) rfl (by kernel_rfl) (by kernel_rfl) (by kernel_rfl) (by kernel_rfl) (fun _ _ _ h => h) HF.out rfl ?_ rfl rfl ?_ ?_
      rotate_left
      · intro w' hF; clear hF; go_simp; try rfl
      rotate_left
      · simp only [Act.put]; exact rfl
      refine Calm.take (i := 6) (v := ?_) (a' := ?_) (l' := #[true, true, true, true, true, true, true, false, true, false, false]) (d := some 14) rfl (by kernel_rfl) (by kernel_rfl) (by kernel_rfl) (by kernel_rfl) (fun _ _ _ h => h) HF.out rfl ?_ rfl rfl ?_ ?_
      rotate_left
      · intro w' hF; clear hF; go_simp; try rfl
      rotate_left
      · simp only [Act.put]; exact rfl
      refine Calm.take (i := 7) (v := ?_) (a' := ?_) (l' := #[true, true, true, true, true, true, true, true, true, false, false]) (d := some 15) rfl (by kernel_rfl) (by kernel_rfl) (by kernel_rfl) (by kernel_rfl) (fun _ _ _ h => h) HF.out rfl ?_ rfl rfl ?_ ?_
      rotate_left
      · intro w' hF; clear hF; go_simp; try rfl
      rotate_left
      · simp only [Act.put]; exact rfl
      refine Calm.one (i := 9) (l' := #[true, true, true, true, true, true, true, true, true, true, false]) (by kernel_rfl) rfl rfl rfl fun K hK => ?_
      have hc0 := BXt.out.cell0
      have hc1 := BXt.out.cell1
      have hc2 := BXt.out.cell2
      have hc3 := BXt.out.cell3
      have hf0 := BXt.out.free 0
      have hf1 := BXt.out.free 1
      have hf2 := BXt.out.free 2
      have hf3 := BXt.out.free 3
      go_simp
      replace HF := hide (FP4.out _ gt (.bool s3) (.slice m3 n3 c3) (.bool t3) (.slice o3 p3 d3) HF.out BXt.out LTt.out)
      replace TT := hide (TT.out.keep (BXt.out.keeps (by simp) (by simp) (by simp) (by simp) (.bool s3) (.slice m3 n3 c3) (.bool t3) (.slice o3 p3 d3)))
      replace BXt := hide (BXt.out.put (.bool s3) (.slice m3 n3 c3) (.bool t3) (.slice o3 p3 d3))
      refine hK _ _ (fun _ => HF.out) ?_
      clear hK K hc0 hf0 hc1 hf1 hc2 hf2 hc3 hf3
      generalize ((((u2.setCell ⟨gt, 0, none⟩ (.bool s3)).setCell ⟨gt, 1, none⟩ (.slice m3 n3 c3)).setCell ⟨gt, 2, none⟩ (.bool t3)).setCell ⟨gt, 3, none⟩ (.slice o3 p3 d3)) = ws9 at *
      refine Calm.take (i := 10) (v := ?_) (a' := ?_) (l' := #[true, true, true, true, true, true, true, true, true, true, true]) (d := some 7) rfl (by kernel_rfl) (by kernel_rfl) (by kernel_rfl) (by kernel_rfl) (fun _ _ _ h => h) HF.out rfl ?_ rfl rfl ?_ ?_
      rotate_left
      · intro w' hF; clear hF; go_simp; try rfl
      rotate_left
      · simp only [Act.put]; exact rfl
      refine Calm.done (by kernel_rfl) ?_
      have h := FU.out _ HF.out
      go_wp2
      go_meet
      case rel => exact ⟨gt, s3, m3, n3, c3, t3, o3, p3, d3, rfl, rfl, LTt.out, h.1, h.2.1, h.2.2.1, h.2.2.2.1, h.2.2.2.2.1, h.2.2.2.2.2, BXt.out, TT.out⟩
  case rest =>
  obtain ⟨gt, s3, m3, n3, c3, t3, o3, p3, d3, rfl, rfl, hlts, h0, h1, h2, h3, h4, h5, bt, eTT⟩ := hcut
  clear HB P0 P1 P2 I1 I2
  have HB := hide h0
  have P0 := hide h1
  have P1 := hide h2
  have P2 := hide h3
  have I1 := hide h4
  have I2 := hide h5
  have LTS1 := hide hlts
  have Vt := hide bt
  have TT := hide eTT
  clear hlts h0 h1 h2 h3 h4 h5 bt eTT
  generalize hwc : wc = wc1 at *
  clear hwc
  have hP20 := P2.out.cell0
  have hP21 := P2.out.cell1
  have hP22 := P2.out.cell2
  have hP23 := P2.out.cell3
  have fP20 := P2.out.free 0
  have fP21 := P2.out.free 1
  have fP22 := P2.out.free 2
  have fP23 := P2.out.free 3
  go_wp2
  refine ret_rate rfl (w.heap.size + 1 + 1) _ _ _ _ rfl (P2.out.put _ _ _ _) rfl ?_
  exact ⟨_, rfl, ⟨false, none, 0, 0, false, none, 0, 0, rfl, int_zero0 _, int_zero0 _⟩, below_put4 HB.out (by omega) _ _ _ _⟩

set_option maxRecDepth 100000 in
set_option maxHeartbeats 4000000 in
theorem rtover_any (v1 v2 : Value) (x y : Rat) (w : World) (h1 : RatAt w v1 x) (h2 : RatAt w v2 y) (hx : SzR 100000000 x) (hy : SzR 100000000 y) (hz : y ≠ 0) :
    Calls Try.prog 14 #[v1, v2] w fun e w' => ∃ v', e = .returned (.tuple #[v', .int .i64 0]) ∧ RatAt w' v' (x / y) ∧ Below w.heap.size w w' := by
  have HX := hide hx
  have HY := hide hy
  have HZ := hide (fun e : y.num = 0 => hz (Rat.num_eq_zero.1 e))
  have HI := hide (hy.inv hz)
  clear hx hy hz
  obtain ⟨s1, m1, n1, c1, t1, o1, p1, d1, rfl, i1⟩ := h1.cells
  have I1 := hide i1
  clear h1 i1
  obtain ⟨s2, m2, n2, c2, t2, o2, p2, d2, rfl, i2⟩ := h2.cells
  have I2 := hide i2
  clear h2 i2
  have P0 := Box4.new w (.bool s1) (.slice m1 n1 c1) (.bool t1) (.slice o1 p1 d1)
  replace P0 := P0.step (below_alloc _ (.cells #[.bool s2, .slice m2 n2 c2, .bool t2, .slice o2 p2 d2] 27))
  replace P0 := P0.step (below_alloc _ (.cells #[.bool false, .slice none 0 0, .bool false, .slice none 0 0] 27))
  replace P0 := hide P0
  have P1 := Box4.new (w.alloc (.cells #[.bool s1, .slice m1 n1 c1, .bool t1, .slice o1 p1 d1] 27)) (.bool s2) (.slice m2 n2 c2) (.bool t2) (.slice o2 p2 d2)
  simp only [World.size_alloc] at P1
  replace P1 := P1.step (below_alloc _ (.cells #[.bool false, .slice none 0 0, .bool false, .slice none 0 0] 27))
  replace P1 := hide P1
  have P2 := Box4.new ((w.alloc (.cells #[.bool s1, .slice m1 n1 c1, .bool t1, .slice o1 p1 d1] 27)).alloc (.cells #[.bool s2, .slice m2 n2 c2, .bool t2, .slice o2 p2 d2] 27)) (.bool false) (.slice none 0 0) (.bool false) (.slice none 0 0)
  simp only [World.size_alloc] at P2
  replace P2 := hide P2
  have HB := below_alloc w (.cells #[.bool s1, .slice m1 n1 c1, .bool t1, .slice o1 p1 d1] 27)
  replace HB := HB.trans ((below_alloc _ (.cells #[.bool s2, .slice m2 n2 c2, .bool t2, .slice o2 p2 d2] 27)).mono (by simp only [World.size_alloc]; omega))
  replace HB := HB.trans ((below_alloc _ (.cells #[.bool false, .slice none 0 0, .bool false, .slice none 0 0] 27)).mono (by simp only [World.size_alloc]; omega))
  replace I1 := hide (I1.out.below HB)
  replace I2 := hide (I2.out.below HB)
  replace HB := hide HB
  go_enter Try.func14, Try.ntmps14
  go_wp2_with fail
  generalize (((w.alloc (.cells #[.bool s1, .slice m1 n1 c1, .bool t1, .slice o1 p1 d1] 27)).alloc (.cells #[.bool s2, .slice m2 n2 c2, .bool t2, .slice o2 p2 d2] 27)).alloc (.cells #[.bool false, .slice none 0 0, .bool false, .slice none 0 0] 27)) = w0 at *
  go_cut [6, 7] from 8 (fun pt0 pe0 wx => ∃ gt s3 m3 n3 c3 t3 o3 p3 d3, pt0 = .pointer (some ⟨gt, 0, none⟩) ∧ pe0 = .int .i64 0 ∧ ((w.heap.size < gt ∧ (w.heap.size + 1) < gt ∧ (w.heap.size + 1 + 1) < gt)) ∧ Below w.heap.size w wx ∧ Box4 wx w.heap.size (.bool s1) (.slice m1 n1 c1) (.bool t1) (.slice o1 p1 d1) ∧ Box4 wx (w.heap.size + 1) (.bool s2) (.slice m2 n2 c2) (.bool t2) (.slice o2 p2 d2) ∧ Box4 wx (w.heap.size + 1 + 1) (.bool false) (.slice none 0 0) (.bool false) (.slice none 0 0) ∧ RatAt wx (.agg #[.bool s1, .slice m1 n1 c1, .bool t1, .slice o1 p1 d1]) x ∧ RatAt wx (.agg #[.bool s2, .slice m2 n2 c2, .bool t2, .slice o2 p2 d2]) y ∧ Box4 wx gt (.bool s3) (.slice m3 n3 c3) (.bool t3) (.slice o3 p3 d3) ∧ RatAt wx (.agg #[.bool s3, .slice m3 n3 c3, .bool t3, .slice o3 p3 d3]) (Rat.divInt (y.den : Int) y.num))
  case first =>
    obtain ⟨F, hF⟩ : ∃ F : World → Prop, F = (fun w' => Below w.heap.size w w' ∧ Box4 w' w.heap.size (.bool s1) (.slice m1 n1 c1) (.bool t1) (.slice o1 p1 d1) ∧ Box4 w' (w.heap.size + 1) (.bool s2) (.slice m2 n2 c2) (.bool t2) (.slice o2 p2 d2) ∧ Box4 w' (w.heap.size + 1 + 1) (.bool false) (.slice none 0 0) (.bool false) (.slice none 0 0) ∧ RatAt w' (.agg #[.bool s1, .slice m1 n1 c1, .bool t1, .slice o1 p1 d1]) x ∧ RatAt w' (.agg #[.bool s2, .slice m2 n2 c2, .bool t2, .slice o2 p2 d2]) y) := ⟨_, rfl⟩
    have FU : Hid (∀ W, F W → (Below w.heap.size w W ∧ Box4 W w.heap.size (.bool s1) (.slice m1 n1 c1) (.bool t1) (.slice o1 p1 d1) ∧ Box4 W (w.heap.size + 1) (.bool s2) (.slice m2 n2 c2) (.bool t2) (.slice o2 p2 d2) ∧ Box4 W (w.heap.size + 1 + 1) (.bool false) (.slice none 0 0) (.bool false) (.slice none 0 0) ∧ RatAt W (.agg #[.bool s1, .slice m1 n1 c1, .bool t1, .slice o1 p1 d1]) x ∧ RatAt W (.agg #[.bool s2, .slice m2 n2 c2, .bool t2, .slice o2 p2 d2]) y)) := hide (fun W h => by rw [hF] at h; exact h)
    have FM : Hid (∀ W, (Below w.heap.size w W ∧ Box4 W w.heap.size (.bool s1) (.slice m1 n1 c1) (.bool t1) (.slice o1 p1 d1) ∧ Box4 W (w.heap.size + 1) (.bool s2) (.slice m2 n2 c2) (.bool t2) (.slice o2 p2 d2) ∧ Box4 W (w.heap.size + 1 + 1) (.bool false) (.slice none 0 0) (.bool false) (.slice none 0 0) ∧ RatAt W (.agg #[.bool s1, .slice m1 n1 c1, .bool t1, .slice o1 p1 d1]) x ∧ RatAt W (.agg #[.bool s2, .slice m2 n2 c2, .bool t2, .slice o2 p2 d2]) y) → F W) := hide (fun W h => by rw [hF]; exact h)
    clear hF
    have FS : Hid (∀ W W', F W → Below W.heap.size W W' → F W') := hide (fun W W' h hb => by
      have h := FU.out W h
      exact FM.out W' (And.intro (h.1.trans ((hb).mono h.1.size)) (And.intro (h.2.1.step (hb)) (And.intro (h.2.2.1.step (hb)) (And.intro (h.2.2.2.1.step (hb)) (And.intro (h.2.2.2.2.1.below (hb)) (h.2.2.2.2.2.below (hb))))))))
    have FC : Hid (∀ W, F W → (W.cell? ⟨w.heap.size, 0, none⟩ = some (.bool s1) ∧ W.cell? ⟨w.heap.size, 1, none⟩ = some (.slice m1 n1 c1) ∧ W.cell? ⟨w.heap.size, 2, none⟩ = some (.bool t1) ∧ W.cell? ⟨w.heap.size, 3, none⟩ = some (.slice o1 p1 d1) ∧ W.cell? ⟨(w.heap.size + 1), 0, none⟩ = some (.bool s2) ∧ W.cell? ⟨(w.heap.size + 1), 1, none⟩ = some (.slice m2 n2 c2) ∧ W.cell? ⟨(w.heap.size + 1), 2, none⟩ = some (.bool t2) ∧ W.cell? ⟨(w.heap.size + 1), 3, none⟩ = some (.slice o2 p2 d2) ∧ W.cell? ⟨(w.heap.size + 1 + 1), 0, none⟩ = some (.bool false) ∧ W.cell? ⟨(w.heap.size + 1 + 1), 1, none⟩ = some (.slice none 0 0) ∧ W.cell? ⟨(w.heap.size + 1 + 1), 2, none⟩ = some (.bool false) ∧ W.cell? ⟨(w.heap.size + 1 + 1), 3, none⟩ = some (.slice none 0 0))) := hide (fun W h => by
      have h := FU.out W h
      exact ⟨h.2.1.cell0, h.2.1.cell1, h.2.1.cell2, h.2.1.cell3, h.2.2.1.cell0, h.2.2.1.cell1, h.2.2.1.cell2, h.2.2.1.cell3, h.2.2.2.1.cell0, h.2.2.2.1.cell1, h.2.2.2.1.cell2, h.2.2.2.1.cell3⟩)
    have FL : Hid (∀ W, F W → (w.heap.size < W.heap.size ∧ (w.heap.size + 1) < W.heap.size ∧ (w.heap.size + 1 + 1) < W.heap.size)) := hide (fun W h => by
      have h := FU.out W h
      exact ⟨h.2.1.lt, h.2.2.1.lt, h.2.2.2.1.lt⟩)
    have FP4 : Hid (∀ W g (x1 x2 x3 x4 : Value), F W → Box4 W g (.bool false) (.slice none 0 0) (.bool false) (.slice none 0 0) → (w.heap.size < g ∧ (w.heap.size + 1) < g ∧ (w.heap.size + 1 + 1) < g) → F ((((W.setCell ⟨g, 0, none⟩ x1).setCell ⟨g, 1, none⟩ x2).setCell ⟨g, 2, none⟩ x3).setCell ⟨g, 3, none⟩ x4)) := hide (fun W g x1 x2 x3 x4 h hX hl => by
      have h := FU.out W h
      exact FM.out _ (And.intro (below_put4 h.1 (show w.heap.size ≤ g by omega) x1 x2 x3 x4) (And.intro (h.2.1.other4 (C := g) (by omega) x1 x2 x3 x4) (And.intro (h.2.2.1.other4 (C := g) (by omega) x1 x2 x3 x4) (And.intro (h.2.2.2.1.other4 (C := g) (by omega) x1 x2 x3 x4) (And.intro (h.2.2.2.2.1.keep (hX.keeps (by simp) (by simp) (by simp) (by simp) x1 x2 x3 x4)) (h.2.2.2.2.2.keep (hX.keeps (by simp) (by simp) (by simp) (by simp) x1 x2 x3 x4))))))))
    refine wp_calm F (fun _ => true) 11 #[false, false, false, false, false, false, false, false, false, false, false] (by kernel_rfl) rfl rfl ?_
    have HF := hide (FM.out _ (And.intro (HB.out.drew) (And.intro (P0.out.drew) (And.intro (P1.out.drew) (And.intro (P2.out.drew) (And.intro (I1.out.drew) (I2.out.drew)))))))
    generalize w0.drew = w0d at *
    refine Calm.take (i := 0) (v := ?_) (a' := ?_) (l' := #[true, false, false, false, false, false, false, false, false, false, false]) (d := some 9) rfl (by kernel_rfl) (by kernel_rfl) (by kernel_rfl) (by kernel_rfl) (fun _ _ _ h => h) HF.out rfl ?_ rfl rfl ?_ ?_
    rotate_left
    · intro w' hF; obtain ⟨f0, f1, f2, f3, f4, f5, f6, f7, f8, f9, f10, f11⟩ := FC.out _ hF; clear hF; go_simp; try rfl
    rotate_left
    · simp only [Act.put]; exact rfl
    refine Calm.take (i := 2) (v := ?_) (a' := ?_) (l' := #[true, false, true, false, false, false, false, false, false, false, false]) (d := some 11) rfl (by kernel_rfl) (by kernel_rfl) (by kernel_rfl) (by kernel_rfl) (fun _ _ _ h => h) HF.out rfl ?_ rfl rfl ?_ ?_
    rotate_left
    · intro w' hF; clear hF; go_simp; try rfl
    rotate_left
    · simp only [Act.put]; exact rfl
    refine Calm.take (i := 3) (v := ?_) (a' := ?_) (l' := #[true, false, true, true, false, false, false, false, false, false, false]) (d := some 12) rfl (by kernel_rfl) (by kernel_rfl) (by kernel_rfl) (by kernel_rfl) (fun _ _ _ h => h) HF.out rfl ?_ rfl rfl ?_ ?_
    rotate_left
    · intro w' hF; obtain ⟨f0, f1, f2, f3, f4, f5, f6, f7, f8, f9, f10, f11⟩ := FC.out _ hF; clear hF; go_simp; try rfl
    rotate_left
    · simp only [Act.put]; exact rfl
    refine Calm.two (i := 1) (j := 8) (l := #[true, true, true, true, false, false, false, false, false, false, false]) (l' := #[true, false, true, true, false, false, false, false, true, false, false]) (by kernel_rfl) rfl rfl rfl rfl rfl rfl (fun K hK => ?_) (fun K hK => ?_)
    · go_simp
      refine (den_any _ y _ (FU.out _ HF.out).2.2.2.2.2).mono ?_
      rintro e u1 ⟨v, rfl, n, hb⟩
      have T1 := hide (n)
      replace HF := hide (FS.out _ _ HF.out hb)
      refine hK _ _ (fun _ => HF.out) ?_
      clear hK K hb n
      refine Calm.two (i := 4) (j := 8) (l := #[true, true, true, true, true, false, false, false, false, false, false]) (l' := #[true, true, true, true, false, false, false, false, true, false, false]) (by kernel_rfl) rfl rfl rfl rfl rfl rfl (fun K hK => ?_) (fun K hK => ?_)
      · go_simp
        refine (rmake_any _ _ (y.den : Int) y.num _ T1.out (FU.out _ HF.out).2.2.2.2.2.num (SzI.len HY.out.den (by decide)) (SzI.len HY.out.num (by decide)) HZ.out).mono ?_
        rintro e u2 ⟨v, rfl, n, hb⟩
        obtain ⟨s3, m3, n3, c3, t3, o3, p3, d3, rfl, n⟩ := n.cells
        clear T1
        have TT := hide (n)
        replace HF := hide (FS.out _ _ HF.out hb)
        refine hK _ _ (fun _ => HF.out) ?_
        clear hK K hb n
        refine Calm.take (i := 5) (v := ?_) (a' := ?_) (l' := #[true, true, true, true, true, true, false, false, false, false, false]) (d := some 8) rfl (by kernel_rfl) (by kernel_rfl) (by kernel_rfl) (by kernel_rfl) (fun _ _ _ h => h) HF.out rfl ?_ rfl rfl ?_ ?_
        rotate_left
        · intro w' hF; clear hF; go_simp; try rfl
        rotate_left
        · simp only [Act.put]; exact rfl
        refine Calm.take (i := 6) (v := ?_) (a' := ?_) (l' := #[true, true, true, true, true, true, true, false, false, false, false]) (d := some 14) rfl (by kernel_rfl) (by kernel_rfl) (by kernel_rfl) (by kernel_rfl) (fun _ _ _ h => h) HF.out rfl ?_ rfl rfl ?_ ?_
        rotate_left
        · intro w' hF; clear hF; go_simp; try rfl
        rotate_left
        · simp only [Act.put]; exact rfl
        refine Calm.take (i := 7) (v := ?_) (a' := ?_) (l' := #[true, true, true, true, true, true, true, true, false, false, false]) (d := some 15) rfl (by kernel_rfl) (by kernel_rfl) (by kernel_rfl) (by kernel_rfl) (fun _ _ _ h => h) HF.out rfl ?_ rfl rfl ?_ ?_
        rotate_left
        · intro w' hF; clear hF; go_simp; try rfl
        rotate_left
        · simp only [Act.put]; exact rfl
        refine Calm.one (i := 8) (l' := #[true, true, true, true, true, true, true, true, true, false, false]) (by kernel_rfl) rfl rfl rfl fun K hK => ?_
        go_simp
        have al := below_alloc u2 (.cells #[.bool false, .slice none 0 0, .bool false, .slice none 0 0] 27)
        replace TT := hide (TT.out.below (al))
        have BXt := hide (Box4.new u2 (.bool false) (.slice none 0 0) (.bool false) (.slice none 0 0))
        have LTt := hide (FL.out _ HF.out)
        replace HF := hide (FS.out _ _ HF.out al)
        refine hK _ _ (fun _ => HF.out) ?_
        clear hK K al
        generalize u2.alloc (.cells #[.bool false, .slice none 0 0, .bool false, .slice none 0 0] 27) = wzt at *
        generalize u2.heap.size = gt at *
        refine Calm.one (i := 9) (l' := #[true, true, true, true, true, true, true, true, true, true, false]) (by kernel_rfl) rfl rfl rfl fun K hK => ?_
        have hc0 := BXt.out.cell0
        have hc1 := BXt.out.cell1
        have hc2 := BXt.out.cell2
        have hc3 := BXt.out.cell3
        have hf0 := BXt.out.free 0
        have hf1 := BXt.out.free 1
        have hf2 := BXt.out.free 2
        have hf3 := BXt.out.free 3
        go_simp
        replace HF := hide (FP4.out _ gt (.bool s3) (.slice m3 n3 c3) (.bool t3) (.slice o3 p3 d3) HF.out BXt.out LTt.out)
        replace TT := hide (TT.out.keep (BXt.out.keeps (by simp) (by simp) (by simp) (by simp) (.bool s3) (.slice m3 n3 c3) (.bool t3) (.slice o3 p3 d3)))
        replace BXt := hide (BXt.out.put (.bool s3) (.slice m3 n3 c3) (.bool t3) (.slice o3 p3 d3))
        refine hK _ _ (fun _ => HF.out) ?_
        clear hK K hc0 hf0 hc1 hf1 hc2 hf2 hc3 hf3
        generalize ((((wzt.setCell ⟨gt, 0, none⟩ (.bool s3)).setCell ⟨gt, 1, none⟩ (.slice m3 n3 c3)).setCell ⟨gt, 2, none⟩ (.bool t3)).setCell ⟨gt, 3, none⟩ (.slice o3 p3 d3)) = ws9 at *
        refine Calm.take (i := 10) (v := ?_) (a' := ?_) (l' := #[true, true, true, true, true, true, true, true, true, true, true]) (d := some 7) rfl (by kernel_rfl) (by kernel_rfl) (by kernel_rfl) (by kernel_rfl) (fun _ _ _ h => h) HF.out rfl ?_ rfl rfl ?_ ?_
        rotate_left
        · intro w' hF; clear hF; go_simp; try rfl
        rotate_left
        · simp only [Act.put]; exact rfl
        refine Calm.done (by kernel_rfl) ?_
        have h := FU.out _ HF.out
        go_wp2
        go_meet
        case rel => exact ⟨gt, s3, m3, n3, c3, t3, o3, p3, d3, rfl, rfl, LTt.out, h.1, h.2.1, h.2.2.1, h.2.2.2.1, h.2.2.2.2.1, h.2.2.2.2.2, BXt.out, TT.out⟩
      · go_simp
        have al := below_alloc u1 (.cells #[.bool false, .slice none 0 0, .bool false, .slice none 0 0] 27)
        replace T1 := hide (T1.out.below (al))
        have BXt := hide (Box4.new u1 (.bool false) (.slice none 0 0) (.bool false) (.slice none 0 0))
        have LTt := hide (FL.out _ HF.out)
        replace HF := hide (FS.out _ _ HF.out al)
        refine hK _ _ (fun _ => HF.out) ?_
        clear hK K al
        generalize u1.alloc (.cells #[.bool false, .slice none 0 0, .bool false, .slice none 0 0] 27) = wzt at *
        generalize u1.heap.size = gt at *
        refine Calm.one (i := 4) (l' := #[true, true, true, true, true, false, false, false, true, false, false]) (by kernel_rfl) rfl rfl rfl fun K hK => ?_
        go_simp
        refine (rmake_any _ _ (y.den : Int) y.num _ T1.out (FU.out _ HF.out).2.2.2.2.2.num (SzI.len HY.out.den (by decide)) (SzI.len HY.out.num (by decide)) HZ.out).mono ?_
        rintro e u2 ⟨v, rfl, n, hb⟩
        obtain ⟨s3, m3, n3, c3, t3, o3, p3, d3, rfl, n⟩ := n.cells
        clear T1
        replace BXt := hide (BXt.out.step hb)
        have TT := hide (n)
        replace HF := hide (FS.out _ _ HF.out hb)
        refine hK _ _ (fun _ => HF.out) ?_
        clear hK K hb n
        refine Calm.take (i := 5) (v := ?_) (a' := ?_) (l' := #[true, true, true, true, true, true, false, false, true, false, false]) (d := some 8) rfl (by kernel_rfl) (by kernel_rfl) (by kernel_rfl) (by kernel_rfl) (fun _ _ _ h => h) HF.out rfl ?_ rfl rfl ?_ ?_
        rotate_left
        · intro w' hF; clear hF; go_simp; try rfl
        rotate_left
        · simp only [Act.put]; exact rfl
        refine Calm.take (i := 6) (v := ?_) (a' := ?_) (l' := #[true, true, true, true, true, true, true, false, true, false, false]) (d := some 14) rfl (by kernel_rfl) (by kernel_rfl) (by kernel_rfl) (by kernel_rfl) (fun _ _ _ h => h) HF.out rfl ?_ rfl rfl ?_ ?_
        rotate_left
        · intro w' hF; clear hF; go_simp; try rfl
        rotate_left
        · simp only [Act.put]; exact rfl
        refine Calm.take (i := 7) (v := ?_) (a' := ?_) (l' := #[true, true, true, true, true, true, true, true, true, false, false]) (d := some 15) rfl (by kernel_rfl) (by kernel_rfl) (by kernel_rfl) (by kernel_rfl) (fun _ _ _ h => h) HF.out rfl ?_ rfl rfl ?_ ?_
        rotate_left
        · intro w' hF; clear hF; go_simp; try rfl
        rotate_left
        · simp only [Act.put]; exact rfl
        refine Calm.one (i := 9) (l' := #[true, true, true, true, true, true, true, true, true, true, false]) (by kernel_rfl) rfl rfl rfl fun K hK => ?_
        have hc0 := BXt.out.cell0
        have hc1 := BXt.out.cell1
        have hc2 := BXt.out.cell2
        have hc3 := BXt.out.cell3
        have hf0 := BXt.out.free 0
        have hf1 := BXt.out.free 1
        have hf2 := BXt.out.free 2
        have hf3 := BXt.out.free 3
        go_simp
        replace HF := hide (FP4.out _ gt (.bool s3) (.slice m3 n3 c3) (.bool t3) (.slice o3 p3 d3) HF.out BXt.out LTt.out)
        replace TT := hide (TT.out.keep (BXt.out.keeps (by simp) (by simp) (by simp) (by simp) (.bool s3) (.slice m3 n3 c3) (.bool t3) (.slice o3 p3 d3)))
        replace BXt := hide (BXt.out.put (.bool s3) (.slice m3 n3 c3) (.bool t3) (.slice o3 p3 d3))
        refine hK _ _ (fun _ => HF.out) ?_
        clear hK K hc0 hf0 hc1 hf1 hc2 hf2 hc3 hf3
        generalize ((((u2.setCell ⟨gt, 0, none⟩ (.bool s3)).setCell ⟨gt, 1, none⟩ (.slice m3 n3 c3)).setCell ⟨gt, 2, none⟩ (.bool t3)).setCell ⟨gt, 3, none⟩ (.slice o3 p3 d3)) = ws9 at *
        refine Calm.take (i := 10) (v := ?_) (a' := ?_) (l' := #[true, true, true, true, true, true, true, true, true, true, true]) (d := some 7) rfl (by kernel_rfl) (by kernel_rfl) (by kernel_rfl) (by kernel_rfl) (fun _ _ _ h => h) HF.out rfl ?_ rfl rfl ?_ ?_
        rotate_left
        · intro w' hF; clear hF; go_simp; try rfl
        rotate_left
        · simp only [Act.put]; exact rfl
        refine Calm.done (by kernel_rfl) ?_
        have h := FU.out _ HF.out
        go_wp2
        go_meet
        case rel => exact ⟨gt, s3, m3, n3, c3, t3, o3, p3, d3, rfl, rfl, LTt.out, h.1, h.2.1, h.2.2.1, h.2.2.2.1, h.2.2.2.2.1, h.2.2.2.2.2, BXt.out, TT.out⟩
    · go_simp
      have al := below_alloc w0d (.cells #[.bool false, .slice none 0 0, .bool false, .slice none 0 0] 27)
      have BXt := hide (Box4.new w0d (.bool false) (.slice none 0 0) (.bool false) (.slice none 0 0))
      have LTt := hide (FL.out _ HF.out)
      replace HF := hide (FS.out _ _ HF.out al)
      refine hK _ _ (fun _ => HF.out) ?_
      clear hK K al
      generalize w0d.alloc (.cells #[.bool false, .slice none 0 0, .bool false, .slice none 0 0] 27) = wzt at *
      generalize w0d.heap.size = gt at *
      refine Calm.one (i := 1) (l' := #[true, true, true, true, false, false, false, false, true, false, false]) (by kernel_rfl) rfl rfl rfl fun K hK => ?_
      go_simp
      refine (den_any _ y _ (FU.out _ HF.out).2.2.2.2.2).mono ?_
      rintro e u1 ⟨v, rfl, n, hb⟩
      replace BXt := hide (BXt.out.step hb)
      have T1 := hide (n)
      replace HF := hide (FS.out _ _ HF.out hb)
      refine hK _ _ (fun _ => HF.out) ?_
      clear hK K hb n
      refine Calm.one (i := 4) (l' := #[true, true, true, true, true, false, false, false, true, false, false]) (by kernel_rfl) rfl rfl rfl fun K hK => ?_
      go_simp
      refine (rmake_any _ _ (y.den : Int) y.num _ T1.out (FU.out _ HF.out).2.2.2.2.2.num (SzI.len HY.out.den (by decide)) (SzI.len HY.out.num (by decide)) HZ.out).mono ?_
      rintro e u2 ⟨v, rfl, n, hb⟩
      obtain ⟨s3, m3, n3, c3, t3, o3, p3, d3, rfl, n⟩ := n.cells
      clear T1
      replace BXt := hide (BXt.out.step hb)
      have TT := hide (n)
      replace HF := hide (FS.out _ _ HF.out hb)
      refine hK _ _ (fun _ => HF.out) ?_
      clear hK K hb n
      refine Calm.take (i := 5) (v := ?_) (a' := ?_) (l' := #[true, true, true, true, true, true, false, false, true, false, false]) (d := some 8) rfl (by kernel_rfl) (by kernel_rfl) (by kernel_rfl) (by kernel_rfl) (fun _ _ _ h => h) HF.out rfl ?_ rfl rfl ?_ ?_
      rotate_left
      · intro w' hF; clear hF; go_simp; try rfl
      rotate_left
      · simp only [Act.put]; exact rfl
      refine Calm.take (i := 6) (v := ?_) (a' := ?_) (l' := #[true, true, true, true, true, true, true, false, true, false, false]) (d := some 14) rfl (by kernel_rfl) (by kernel_rfl) (by kernel_rfl) (by kernel_rfl) (fun _ _ _ h => h) HF.out rfl ?_ rfl rfl ?_ ?_
      rotate_left
      · intro w' hF; clear hF; go_simp; try rfl
      rotate_left
      · simp only [Act.put]; exact rfl
      refine Calm.take (i := 7) (v := ?_) (a' := ?_) (l' := #[true, true, true, true, true, true, true, true, true, false, false]) (d := some 15) rfl (by kernel_rfl) (by kernel_rfl) (by kernel_rfl) (by kernel_rfl) (fun _ _ _ h => h) HF.out rfl ?_ rfl rfl ?_ ?_
      rotate_left
      · intro w' hF; clear hF; go_simp; try rfl
      rotate_left
      · simp only [Act.put]; exact rfl
      refine Calm.one (i := 9) (l' := #[true, true, true, true, true, true, true, true, true, true, false]) (by kernel_rfl) rfl rfl rfl fun K hK => ?_
      have hc0 := BXt.out.cell0
      have hc1 := BXt.out.cell1
      have hc2 := BXt.out.cell2
      have hc3 := BXt.out.cell3
      have hf0 := BXt.out.free 0
      have hf1 := BXt.out.free 1
      have hf2 := BXt.out.free 2
      have hf3 := BXt.out.free 3
      go_simp
      replace HF := hide (FP4.out _ gt (.bool s3) (.slice m3 n3 c3) (.bool t3) (.slice o3 p3 d3) HF.out BXt.out LTt.out)
      replace TT := hide (TT.out.keep (BXt.out.keeps (by simp) (by simp) (by simp) (by simp) (.bool s3) (.slice m3 n3 c3) (.bool t3) (.slice o3 p3 d3)))
      replace BXt := hide (BXt.out.put (.bool s3) (.slice m3 n3 c3) (.bool t3) (.slice o3 p3 d3))
      refine hK _ _ (fun _ => HF.out) ?_
      clear hK K hc0 hf0 hc1 hf1 hc2 hf2 hc3 hf3
      generalize ((((u2.setCell ⟨gt, 0, none⟩ (.bool s3)).setCell ⟨gt, 1, none⟩ (.slice m3 n3 c3)).setCell ⟨gt, 2, none⟩ (.bool t3)).setCell ⟨gt, 3, none⟩ (.slice o3 p3 d3)) = ws9 at *
      refine Calm.take (i := 10) (v := ?_) (a' := ?_) (l' := #[true, true, true, true, true, true, true, true, true, true, true]) (d := some 7) rfl (by kernel_rfl) (by kernel_rfl) (by kernel_rfl) (by kernel_rfl) (fun _ _ _ h => h) HF.out rfl ?_ rfl rfl ?_ ?_
      rotate_left
      · intro w' hF; clear hF; go_simp; try rfl
      rotate_left
      · simp only [Act.put]; exact rfl
      refine Calm.done (by kernel_rfl) ?_
      have h := FU.out _ HF.out
      go_wp2
      go_meet
      case rel => exact ⟨gt, s3, m3, n3, c3, t3, o3, p3, d3, rfl, rfl, LTt.out, h.1, h.2.1, h.2.2.1, h.2.2.2.1, h.2.2.2.2.1, h.2.2.2.2.2, BXt.out, TT.out⟩
  case rest =>
  obtain ⟨gt, s3, m3, n3, c3, t3, o3, p3, d3, rfl, rfl, hlts, h0, h1, h2, h3, h4, h5, bt, eTT⟩ := hcut
  clear HB P0 P1 P2 I1 I2
  have HB := hide h0
  have P0 := hide h1
  have P1 := hide h2
  have P2 := hide h3
  have I1 := hide h4
  have I2 := hide h5
  have LTS1 := hide hlts
  have Vt := hide bt
  have TT := hide eTT
  clear hlts h0 h1 h2 h3 h4 h5 bt eTT
  generalize hwc : wc = wc1 at *
  clear hwc
  have hP00 := P0.out.cell0
  have hP01 := P0.out.cell1
  have hP02 := P0.out.cell2
  have hP03 := P0.out.cell3
  have hVt0 := Vt.out.cell0
  have hVt1 := Vt.out.cell1
  have hVt2 := Vt.out.cell2
  have hVt3 := Vt.out.cell3
  go_wp2_with fail
  refine (rtmul_any _ _ x (Rat.divInt (y.den : Int) y.num) _ I1.out TT.out HX.out (by have := HI.out; rwa [Rat.inv_def] at this)).mono ?_
  rintro e u3 ⟨v, rfl, n, hb⟩
  obtain ⟨s9, m9, n9, c9, t9, o9, p9, d9, rfl, n⟩ := n.cells
  clear hP00 hP01 hP02 hP03
  clear hVt0 hVt1 hVt2 hVt3
  replace I1 := hide (I1.out.below (hb))
  replace I2 := hide (I2.out.below (hb))
  replace P0 := hide (P0.out.step (hb))
  replace P1 := hide (P1.out.step (hb))
  replace P2 := hide (P2.out.step (hb))
  replace HB := hide (HB.out.trans ((hb).mono HB.out.size))
  replace Vt := hide (Vt.out.step (hb))
  replace TT := hide (TT.out.below (hb))
  have TR := hide (n)
  clear hb n
  have hP20 := P2.out.cell0
  have hP21 := P2.out.cell1
  have hP22 := P2.out.cell2
  have hP23 := P2.out.cell3
  have fP20 := P2.out.free 0
  have fP21 := P2.out.free 1
  have fP22 := P2.out.free 2
  have fP23 := P2.out.free 3
  go_wp2
  refine ret_rate rfl (w.heap.size + 1 + 1) _ _ _ _ rfl (P2.out.put _ _ _ _) rfl ?_
  exact ⟨_, rfl, by rw [Rat.div_def, Rat.inv_def]; exact TR.out.keep (P2.out.keeps (by simp) (by simp) (by simp) (by simp) _ _ _ _), below_put4 HB.out (by omega) _ _ _ _⟩

end Go.Proofs.Ytpbfbjipdacbkaa
