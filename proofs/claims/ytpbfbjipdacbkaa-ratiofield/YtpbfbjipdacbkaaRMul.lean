/- ratio.Rat's Mul. -/
import Derived.Test.YtpbfbjipdacbkaaRLow
import Derived.Deep.Cut
namespace Go.Proofs.Ytpbfbjipdacbkaa
open Go.RowKit

set_option maxRecDepth 100000 in
set_option maxHeartbeats 8000000 in
theorem rtmul_any (v1 v2 : Value) (x y : Rat) (w : World) (h1 : RatAt w v1 x) (h2 : RatAt w v2 y) (hx : SzR 100000000 x) (hy : SzR 100000000 y) :
    Calls Try.prog 21 #[v1, v2] w fun e w' => ∃ v', e = .returned v' ∧ RatAt w' v' (x * y) ∧ Below w.heap.size w w' := by
  have zx : (x.den : Int) ≠ 0 := by have := x.den_nz; omega
  have zy : (y.den : Int) ≠ 0 := by have := y.den_nz; omega
  have DA := hide (SzR.divInt zy hx.num hy.den)
  have DB := hide (SzR.divInt zx hy.num hx.den)
  have ZX := hide zx
  have ZY := hide zy
  have HX := hide hx
  have HY := hide hy
  clear zx zy hx hy
  obtain ⟨s1, m1, n1, c1, t1, o1, p1, d1, rfl, i1⟩ := h1.cells
  have I1 := hide i1
  clear h1 i1
  obtain ⟨s2, m2, n2, c2, t2, o2, p2, d2, rfl, i2⟩ := h2.cells
  have I2 := hide i2
  clear h2 i2
  have P0 := Box4.new w (.bool s1) (.slice m1 n1 c1) (.bool t1) (.slice o1 p1 d1)
  replace P0 := P0.step (below_alloc _ (.cells #[.bool s2, .slice m2 n2 c2, .bool t2, .slice o2 p2 d2] 27))
  replace P0 := P0.step (below_alloc _ (.cells #[.bool false, .slice none 0 0, .bool false, .slice none 0 0] 27))
  replace P0 := hide P0
  have P1 := Box4.new (w.alloc (.cells #[.bool s1, .slice m1 n1 c1, .bool t1, .slice o1 p1 d1] 27)) (.bool s2) (.slice m2 n2 c2) (.bool t2) (.slice o2 p2 d2)
  simp only [World.size_alloc] at P1
  replace P1 := P1.step (below_alloc _ (.cells #[.bool false, .slice none 0 0, .bool false, .slice none 0 0] 27))
  replace P1 := hide P1
  have P2 := Box4.new ((w.alloc (.cells #[.bool s1, .slice m1 n1 c1, .bool t1, .slice o1 p1 d1] 27)).alloc (.cells #[.bool s2, .slice m2 n2 c2, .bool t2, .slice o2 p2 d2] 27)) (.bool false) (.slice none 0 0) (.bool false) (.slice none 0 0)
  simp only [World.size_alloc] at P2
  replace P2 := hide P2
  have HB := below_alloc w (.cells #[.bool s1, .slice m1 n1 c1, .bool t1, .slice o1 p1 d1] 27)
  replace HB := HB.trans ((below_alloc _ (.cells #[.bool s2, .slice m2 n2 c2, .bool t2, .slice o2 p2 d2] 27)).mono (by simp only [World.size_alloc]; omega))
  replace HB := HB.trans ((below_alloc _ (.cells #[.bool false, .slice none 0 0, .bool false, .slice none 0 0] 27)).mono (by simp only [World.size_alloc]; omega))
  replace I1 := hide (I1.out.below HB)
  replace I2 := hide (I2.out.below HB)
  replace HB := hide HB
  go_enter Try.func21, Try.ntmps21
  go_wp2_with fail
  generalize (((w.alloc (.cells #[.bool s1, .slice m1 n1 c1, .bool t1, .slice o1 p1 d1] 27)).alloc (.cells #[.bool s2, .slice m2 n2 c2, .bool t2, .slice o2 p2 d2] 27)).alloc (.cells #[.bool false, .slice none 0 0, .bool false, .slice none 0 0] 27)) = w0 at *
  go_cut [5, 6] from 7 (fun pt0 pt1 wx => ∃ ga s3 m3 n3 c3 t3 o3 p3 d3 gb s4 m4 n4 c4 t4 o4 p4 d4, pt0 = .pointer (some ⟨ga, 0, none⟩) ∧ pt1 = .pointer (some ⟨gb, 0, none⟩) ∧ ((w.heap.size < ga ∧ (w.heap.size + 1) < ga ∧ (w.heap.size + 1 + 1) < ga) ∧ (w.heap.size < gb ∧ (w.heap.size + 1) < gb ∧ (w.heap.size + 1 + 1) < gb) ∧ ga ≠ gb) ∧ Below w.heap.size w wx ∧ Box4 wx w.heap.size (.bool s1) (.slice m1 n1 c1) (.bool t1) (.slice o1 p1 d1) ∧ Box4 wx (w.heap.size + 1) (.bool s2) (.slice m2 n2 c2) (.bool t2) (.slice o2 p2 d2) ∧ Box4 wx (w.heap.size + 1 + 1) (.bool false) (.slice none 0 0) (.bool false) (.slice none 0 0) ∧ RatAt wx (.agg #[.bool s1, .slice m1 n1 c1, .bool t1, .slice o1 p1 d1]) x ∧ RatAt wx (.agg #[.bool s2, .slice m2 n2 c2, .bool t2, .slice o2 p2 d2]) y ∧ Box4 wx ga (.bool s3) (.slice m3 n3 c3) (.bool t3) (.slice o3 p3 d3) ∧ Box4 wx gb (.bool s4) (.slice m4 n4 c4) (.bool t4) (.slice o4 p4 d4) ∧ RatAt wx (.agg #[.bool s3, .slice m3 n3 c3, .bool t3, .slice o3 p3 d3]) (Rat.divInt x.num (y.den : Int)) ∧ RatAt wx (.agg #[.bool s4, .slice m4 n4 c4, .bool t4, .slice o4 p4 d4]) (Rat.divInt y.num (x.den : Int)))
  case first =>
    obtain ⟨F, hF⟩ : ∃ F : World → Prop, F = (fun w' => Below w.heap.size w w' ∧ Box4 w' w.heap.size (.bool s1) (.slice m1 n1 c1) (.bool t1) (.slice o1 p1 d1) ∧ Box4 w' (w.heap.size + 1) (.bool s2) (.slice m2 n2 c2) (.bool t2) (.slice o2 p2 d2) ∧ Box4 w' (w.heap.size + 1 + 1) (.bool false) (.slice none 0 0) (.bool false) (.slice none 0 0) ∧ RatAt w' (.agg #[.bool s1, .slice m1 n1 c1, .bool t1, .slice o1 p1 d1]) x ∧ RatAt w' (.agg #[.bool s2, .slice m2 n2 c2, .bool t2, .slice o2 p2 d2]) y) := ⟨_, rfl⟩
    have FU : Hid (∀ W, F W → (Below w.heap.size w W ∧ Box4 W w.heap.size (.bool s1) (.slice m1 n1 c1) (.bool t1) (.slice o1 p1 d1) ∧ Box4 W (w.heap.size + 1) (.bool s2) (.slice m2 n2 c2) (.bool t2) (.slice o2 p2 d2) ∧ Box4 W (w.heap.size + 1 + 1) (.bool false) (.slice none 0 0) (.bool false) (.slice none 0 0) ∧ RatAt W (.agg #[.bool s1, .slice m1 n1 c1, .bool t1, .slice o1 p1 d1]) x ∧ RatAt W (.agg #[.bool s2, .slice m2 n2 c2, .bool t2, .slice o2 p2 d2]) y)) := hide (fun W h => by rw [hF] at h; exact h)
    have FM : Hid (∀ W, (Below w.heap.size w W ∧ Box4 W w.heap.size (.bool s1) (.slice m1 n1 c1) (.bool t1) (.slice o1 p1 d1) ∧ Box4 W (w.heap.size + 1) (.bool s2) (.slice m2 n2 c2) (.bool t2) (.slice o2 p2 d2) ∧ Box4 W (w.heap.size + 1 + 1) (.bool false) (.slice none 0 0) (.bool false) (.slice none 0 0) ∧ RatAt W (.agg #[.bool s1, .slice m1 n1 c1, .bool t1, .slice o1 p1 d1]) x ∧ RatAt W (.agg #[.bool s2, .slice m2 n2 c2, .bool t2, .slice o2 p2 d2]) y) → F W) := hide (fun W h => by rw [hF]; exact h)
    clear hF
    have FS : Hid (∀ W W', F W → Below W.heap.size W W' → F W') := hide (fun W W' h hb => by
      have h := FU.out W h
      exact FM.out W' (And.intro (h.1.trans ((hb).mono h.1.size)) (And.intro (h.2.1.step (hb)) (And.intro (h.2.2.1.step (hb)) (And.intro (h.2.2.2.1.step (hb)) (And.intro (h.2.2.2.2.1.below (hb)) (h.2.2.2.2.2.below (hb))))))))
    have FC : Hid (∀ W, F W → (W.cell? ⟨w.heap.size, 0, none⟩ = some (.bool s1) ∧ W.cell? ⟨w.heap.size, 1, none⟩ = some (.slice m1 n1 c1) ∧ W.cell? ⟨w.heap.size, 2, none⟩ = some (.bool t1) ∧ W.cell? ⟨w.heap.size, 3, none⟩ = some (.slice o1 p1 d1) ∧ W.cell? ⟨(w.heap.size + 1), 0, none⟩ = some (.bool s2) ∧ W.cell? ⟨(w.heap.size + 1), 1, none⟩ = some (.slice m2 n2 c2) ∧ W.cell? ⟨(w.heap.size + 1), 2, none⟩ = some (.bool t2) ∧ W.cell? ⟨(w.heap.size + 1), 3, none⟩ = some (.slice o2 p2 d2) ∧ W.cell? ⟨(w.heap.size + 1 + 1), 0, none⟩ = some (.bool false) ∧ W.cell? ⟨(w.heap.size + 1 + 1), 1, none⟩ = some (.slice none 0 0) ∧ W.cell? ⟨(w.heap.size + 1 + 1), 2, none⟩ = some (.bool false) ∧ W.cell? ⟨(w.heap.size + 1 + 1), 3, none⟩ = some (.slice none 0 0))) := hide (fun W h => by
      have h := FU.out W h
      exact ⟨h.2.1.cell0, h.2.1.cell1, h.2.1.cell2, h.2.1.cell3, h.2.2.1.cell0, h.2.2.1.cell1, h.2.2.1.cell2, h.2.2.1.cell3, h.2.2.2.1.cell0, h.2.2.2.1.cell1, h.2.2.2.1.cell2, h.2.2.2.1.cell3⟩)
    have FL : Hid (∀ W, F W → (w.heap.size < W.heap.size ∧ (w.heap.size + 1) < W.heap.size ∧ (w.heap.size + 1 + 1) < W.heap.size)) := hide (fun W h => by
      have h := FU.out W h
      exact ⟨h.2.1.lt, h.2.2.1.lt, h.2.2.2.1.lt⟩)
    have FP4 : Hid (∀ W g (x1 x2 x3 x4 : Value), F W → Box4 W g (.bool false) (.slice none 0 0) (.bool false) (.slice none 0 0) → (w.heap.size < g ∧ (w.heap.size + 1) < g ∧ (w.heap.size + 1 + 1) < g) → F ((((W.setCell ⟨g, 0, none⟩ x1).setCell ⟨g, 1, none⟩ x2).setCell ⟨g, 2, none⟩ x3).setCell ⟨g, 3, none⟩ x4)) := hide (fun W g x1 x2 x3 x4 h hX hl => by
      have h := FU.out W h
      exact FM.out _ (And.intro (below_put4 h.1 (show w.heap.size ≤ g by omega) x1 x2 x3 x4) (And.intro (h.2.1.other4 (C := g) (by omega) x1 x2 x3 x4) (And.intro (h.2.2.1.other4 (C := g) (by omega) x1 x2 x3 x4) (And.intro (h.2.2.2.1.other4 (C := g) (by omega) x1 x2 x3 x4) (And.intro (h.2.2.2.2.1.keep (hX.keeps (by simp) (by simp) (by simp) (by simp) x1 x2 x3 x4)) (h.2.2.2.2.2.keep (hX.keeps (by simp) (by simp) (by simp) (by simp) x1 x2 x3 x4))))))))
    refine wp_calm F (fun _ => true) 14 #[false, false, false, false, false, false, false, false, false, false, false, false, false, false] (by kernel_rfl) rfl rfl ?_
    have HF := hide (FM.out _ (And.intro (HB.out.drew) (And.intro (P0.out.drew) (And.intro (P1.out.drew) (And.intro (P2.out.drew) (And.intro (I1.out.drew) (I2.out.drew)))))))
    generalize w0.drew = w0d at *
    refine Calm.take (i := 0) (v := ?_) (a' := ?_) (l' := #[true, false, false, false, false, false, false, false, false, false, false, false, false, false]) (d := some 7) rfl (by kernel_rfl) (by kernel_rfl) (by kernel_rfl) (by kernel_rfl) (fun _ _ _ h => h) HF.out rfl ?_ rfl rfl ?_ ?_
    rotate_left
    · intro w' hF; clear hF; go_simp; try rfl
    rotate_left
    · simp only [Act.put]; exact rfl
    refine Calm.take (i := 1) (v := ?_) (a' := ?_) (l' := #[true, true, false, false, false, false, false, false, false, false, false, false, false, false]) (d := some 8) rfl (by kernel_rfl) (by kernel_rfl) (by kernel_rfl) (by kernel_rfl) (fun _ _ _ h => h) HF.out rfl ?_ rfl rfl ?_ ?_
    rotate_left
    · intro w' hF; obtain ⟨f0, f1, f2, f3, f4, f5, f6, f7, f8, f9, f10, f11⟩ := FC.out _ hF; clear hF; go_simp; try rfl
    rotate_left
    · simp only [Act.put]; exact rfl
    refine Calm.take (i := 2) (v := ?_) (a' := ?_) (l' := #[true, true, true, false, false, false, false, false, false, false, false, false, false, false]) (d := some 9) rfl (by kernel_rfl) (by kernel_rfl) (by kernel_rfl) (by kernel_rfl) (fun _ _ _ h => h) HF.out rfl ?_ rfl rfl ?_ ?_
    rotate_left
    · intro w' hF; obtain ⟨f0, f1, f2, f3, f4, f5, f6, f7, f8, f9, f10, f11⟩ := FC.out _ hF; clear hF; go_simp; try rfl
    rotate_left
    · simp only [Act.put]; exact rfl
    refine Calm.take (i := 5) (v := ?_) (a' := ?_) (l' := #[true, true, true, false, false, true, false, false, false, false, false, false, false, false]) (d := some 12) rfl (by kernel_rfl) (by kernel_rfl) (by kernel_rfl) (by kernel_rfl) (fun _ _ _ h => h) HF.out rfl ?_ rfl rfl ?_ ?_
    rotate_left
    · intro w' hF; clear hF; go_simp; try rfl
    rotate_left
    · simp only [Act.put]; exact rfl
    refine Calm.take (i := 6) (v := ?_) (a' := ?_) (l' := #[true, true, true, false, false, true, true, false, false, false, false, false, false, false]) (d := some 13) rfl (by kernel_rfl) (by kernel_rfl) (by kernel_rfl) (by kernel_rfl) (fun _ _ _ h => h) HF.out rfl ?_ rfl rfl ?_ ?_
    rotate_left
    · intro w' hF; obtain ⟨f0, f1, f2, f3, f4, f5, f6, f7, f8, f9, f10, f11⟩ := FC.out _ hF; clear hF; go_simp; try rfl
    rotate_left
    · simp only [Act.put]; exact rfl
    refine Calm.take (i := 7) (v := ?_) (a' := ?_) (l' := #[true, true, true, false, false, true, true, true, false, false, false, false, false, false]) (d := some 14) rfl (by kernel_rfl) (by kernel_rfl) (by kernel_rfl) (by kernel_rfl) (fun _ _ _ h => h) HF.out rfl ?_ rfl rfl ?_ ?_
    rotate_left
    · intro w' hF; obtain ⟨f0, f1, f2, f3, f4, f5, f6, f7, f8, f9, f10, f11⟩ := FC.out _ hF; clear hF; go_simp; try rfl
    rotate_left
    · simp only [Act.put]; exact rfl
    refine Calm.three (i := 3) (j := 10) (m := 11) (l := #[true, true, true, true, false, true, true, true, false, false, false, false, false, false]) (l' := #[true, true, true, false, false, true, true, true, false, false, true, false, false, false]) (l'' := #[true, true, true, false, false, true, true, true, false, false, false, true, false, false]) (by kernel_rfl) rfl rfl rfl rfl rfl rfl rfl rfl rfl (fun K hK => ?_) (fun K hK => ?_) (fun K hK => ?_)
    · go_simp
      refine (den_any _ y _ (FU.out _ HF.out).2.2.2.2.2).mono ?_
      rintro e u1 ⟨v, rfl, n, hb⟩
      have TD := hide (n)
      replace HF := hide (FS.out _ _ HF.out hb)
      refine hK _ _ (fun _ => HF.out) ?_
      clear hK K hb n
      refine Calm.three (i := 4) (j := 10) (m := 11) (l := #[true, true, true, true, true, true, true, true, false, false, false, false, false, false]) (l' := #[true, true, true, true, false, true, true, true, false, false, true, false, false, false]) (l'' := #[true, true, true, true, false, true, true, true, false, false, false, true, false, false]) (by kernel_rfl) rfl rfl rfl rfl rfl rfl rfl rfl rfl (fun K hK => ?_) (fun K hK => ?_) (fun K hK => ?_)
      · go_simp
        refine (lowest_any _ _ x.num (y.den : Int) _ (FU.out _ HF.out).2.2.2.2.1.num TD.out (SzI.len HX.out.num (by decide)) (SzI.len HY.out.den (by decide)) ZY.out).mono ?_
        rintro e u2 ⟨v, rfl, n, hb⟩
        obtain ⟨s3, m3, n3, c3, t3, o3, p3, d3, rfl, n⟩ := n.cells
        clear TD
        have TA := hide (n)
        replace HF := hide (FS.out _ _ HF.out hb)
        refine hK _ _ (fun _ => HF.out) ?_
        clear hK K hb n
        refine Calm.three (i := 8) (j := 10) (m := 11) (l := #[true, true, true, true, true, true, true, true, true, false, false, false, false, false]) (l' := #[true, true, true, true, true, true, true, true, false, false, true, false, false, false]) (l'' := #[true, true, true, true, true, true, true, true, false, false, false, true, false, false]) (by kernel_rfl) rfl rfl rfl rfl rfl rfl rfl rfl rfl (fun K hK => ?_) (fun K hK => ?_) (fun K hK => ?_)
        · go_simp
          refine (den_any _ x _ (FU.out _ HF.out).2.2.2.2.1).mono ?_
          rintro e u3 ⟨v, rfl, n, hb⟩
          replace TA := hide (TA.out.below (hb))
          have TE := hide (n)
          replace HF := hide (FS.out _ _ HF.out hb)
          refine hK _ _ (fun _ => HF.out) ?_
          clear hK K hb n
          refine Calm.three (i := 9) (j := 10) (m := 11) (l := #[true, true, true, true, true, true, true, true, true, true, false, false, false, false]) (l' := #[true, true, true, true, true, true, true, true, true, false, true, false, false, false]) (l'' := #[true, true, true, true, true, true, true, true, true, false, false, true, false, false]) (by kernel_rfl) rfl rfl rfl rfl rfl rfl rfl rfl rfl (fun K hK => ?_) (fun K hK => ?_) (fun K hK => ?_)
          · go_simp
            refine (lowest_any _ _ y.num (x.den : Int) _ (FU.out _ HF.out).2.2.2.2.2.num TE.out (SzI.len HY.out.num (by decide)) (SzI.len HX.out.den (by decide)) ZX.out).mono ?_
            rintro e u4 ⟨v, rfl, n, hb⟩
            obtain ⟨s4, m4, n4, c4, t4, o4, p4, d4, rfl, n⟩ := n.cells
            replace TA := hide (TA.out.below (hb))
            clear TE
            have TB := hide (n)
            replace HF := hide (FS.out _ _ HF.out hb)
            refine hK _ _ (fun _ => HF.out) ?_
            clear hK K hb n
            refine Calm.two (i := 10) (j := 11) (l := #[true, true, true, true, true, true, true, true, true, true, true, false, false, false]) (l' := #[true, true, true, true, true, true, true, true, true, true, false, true, false, false]) (by kernel_rfl) rfl rfl rfl rfl rfl rfl (fun K hK => ?_) (fun K hK => ?_)
            · go_simp
              have al := below_alloc u4 (.cells #[.bool false, .slice none 0 0, .bool false, .slice none 0 0] 27)
              replace TA := hide (TA.out.below (al))
              replace TB := hide (TB.out.below (al))
              have BXa := hide (Box4.new u4 (.bool false) (.slice none 0 0) (.bool false) (.slice none 0 0))
              have LTa := hide (FL.out _ HF.out)
              replace HF := hide (FS.out _ _ HF.out al)
              refine hK _ _ (fun _ => HF.out) ?_
              clear hK K al
              generalize u4.alloc (.cells #[.bool false, .slice none 0 0, .bool false, .slice none 0 0] 27) = wza at *
              generalize u4.heap.size = ga at *
              refine Calm.one (i := 11) (l' := #[true, true, true, true, true, true, true, true, true, true, true, true, false, false]) (by kernel_rfl) rfl rfl rfl fun K hK => ?_
              go_simp
              have al := below_alloc wza (.cells #[.bool false, .slice none 0 0, .bool false, .slice none 0 0] 27)
              replace TA := hide (TA.out.below (al))
              replace TB := hide (TB.out.below (al))
              have LTab := hide (BXa.out.lt)
              replace BXa := hide (BXa.out.step al)
              have BXb := hide (Box4.new wza (.bool false) (.slice none 0 0) (.bool false) (.slice none 0 0))
              have LTb := hide (FL.out _ HF.out)
              replace HF := hide (FS.out _ _ HF.out al)
              refine hK _ _ (fun _ => HF.out) ?_
              clear hK K al
              generalize wza.alloc (.cells #[.bool false, .slice none 0 0, .bool false, .slice none 0 0] 27) = wzb at *
              generalize wza.heap.size = gb at *
              refine Calm.one (i := 12) (l' := #[true, true, true, true, true, true, true, true, true, true, true, true, true, false]) (by kernel_rfl) rfl rfl rfl fun K hK => ?_
              have hc0 := BXa.out.cell0
              have hc1 := BXa.out.cell1
              have hc2 := BXa.out.cell2
              have hc3 := BXa.out.cell3
              have hf0 := BXa.out.free 0
              have hf1 := BXa.out.free 1
              have hf2 := BXa.out.free 2
              have hf3 := BXa.out.free 3
              go_simp
              replace HF := hide (FP4.out _ ga (.bool s3) (.slice m3 n3 c3) (.bool t3) (.slice o3 p3 d3) HF.out BXa.out LTa.out)
              replace TA := hide (TA.out.keep (BXa.out.keeps (by simp) (by simp) (by simp) (by simp) (.bool s3) (.slice m3 n3 c3) (.bool t3) (.slice o3 p3 d3)))
              replace TB := hide (TB.out.keep (BXa.out.keeps (by simp) (by simp) (by simp) (by simp) (.bool s3) (.slice m3 n3 c3) (.bool t3) (.slice o3 p3 d3)))
              replace BXb := hide (BXb.out.other4 (C := ga) (by first | exact Nat.ne_of_lt LTab.out | exact Nat.ne_of_gt LTba.out) (.bool s3) (.slice m3 n3 c3) (.bool t3) (.slice o3 p3 d3))
              replace BXa := hide (BXa.out.put (.bool s3) (.slice m3 n3 c3) (.bool t3) (.slice o3 p3 d3))
              refine hK _ _ (fun _ => HF.out) ?_
              clear hK K hc0 hf0 hc1 hf1 hc2 hf2 hc3 hf3
              generalize ((((wzb.setCell ⟨ga, 0, none⟩ (.bool s3)).setCell ⟨ga, 1, none⟩ (.slice m3 n3 c3)).setCell ⟨ga, 2, none⟩ (.bool t3)).setCell ⟨ga, 3, none⟩ (.slice o3 p3 d3)) = ws12 at *
              refine Calm.one (i := 13) (l' := #[true, true, true, true, true, true, true, true, true, true, true, true, true, true]) (by kernel_rfl) rfl rfl rfl fun K hK => ?_
              have hc0 := BXb.out.cell0
              have hc1 := BXb.out.cell1
              have hc2 := BXb.out.cell2
              have hc3 := BXb.out.cell3
              have hf0 := BXb.out.free 0
              have hf1 := BXb.out.free 1
              have hf2 := BXb.out.free 2
              have hf3 := BXb.out.free 3
              go_simp
              replace HF := hide (FP4.out _ gb (.bool s4) (.slice m4 n4 c4) (.bool t4) (.slice o4 p4 d4) HF.out BXb.out LTb.out)
              replace TA := hide (TA.out.keep (BXb.out.keeps (by simp) (by simp) (by simp) (by simp) (.bool s4) (.slice m4 n4 c4) (.bool t4) (.slice o4 p4 d4)))
              replace TB := hide (TB.out.keep (BXb.out.keeps (by simp) (by simp) (by simp) (by simp) (.bool s4) (.slice m4 n4 c4) (.bool t4) (.slice o4 p4 d4)))
              replace BXa := hide (BXa.out.other4 (C := gb) (by first | exact Nat.ne_of_lt LTba.out | exact Nat.ne_of_gt LTab.out) (.bool s4) (.slice m4 n4 c4) (.bool t4) (.slice o4 p4 d4))
              replace BXb := hide (BXb.out.put (.bool s4) (.slice m4 n4 c4) (.bool t4) (.slice o4 p4 d4))
              refine hK _ _ (fun _ => HF.out) ?_
              clear hK K hc0 hf0 hc1 hf1 hc2 hf2 hc3 hf3
              generalize ((((ws12.setCell ⟨gb, 0, none⟩ (.bool s4)).setCell ⟨gb, 1, none⟩ (.slice m4 n4 c4)).setCell ⟨gb, 2, none⟩ (.bool t4)).setCell ⟨gb, 3, none⟩ (.slice o4 p4 d4)) = ws13 at *
              refine Calm.done (by kernel_rfl) ?_
              have h := FU.out _ HF.out
              go_wp2
              go_meet
              case rel => exact ⟨ga, s3, m3, n3, c3, t3, o3, p3, d3, gb, s4, m4, n4, c4, t4, o4, p4, d4, rfl, rfl, ⟨LTa.out, LTb.out, by first | exact Nat.ne_of_lt LTab.out | exact Nat.ne_of_gt LTba.out⟩, h.1, h.2.1, h.2.2.1, h.2.2.2.1, h.2.2.2.2.1, h.2.2.2.2.2, BXa.out, BXb.out, TA.out, TB.out⟩
            · go_simp
              have al := below_alloc u4 (.cells #[.bool false, .slice none 0 0, .bool false, .slice none 0 0] 27)
              replace TA := hide (TA.out.below (al))
              replace TB := hide (TB.out.below (al))
              have BXb := hide (Box4.new u4 (.bool false) (.slice none 0 0) (.bool false) (.slice none 0 0))
              have LTb := hide (FL.out _ HF.out)
              replace HF := hide (FS.out _ _ HF.out al)
              refine hK _ _ (fun _ => HF.out) ?_
              clear hK K al
              generalize u4.alloc (.cells #[.bool false, .slice none 0 0, .bool false, .slice none 0 0] 27) = wzb at *
              generalize u4.heap.size = gb at *
              refine Calm.one (i := 10) (l' := #[true, true, true, true, true, true, true, true, true, true, true, true, false, false]) (by kernel_rfl) rfl rfl rfl fun K hK => ?_
              go_simp
              have al := below_alloc wzb (.cells #[.bool false, .slice none 0 0, .bool false, .slice none 0 0] 27)
              replace TA := hide (TA.out.below (al))
              replace TB := hide (TB.out.below (al))
              have LTba := hide (BXb.out.lt)
              replace BXb := hide (BXb.out.step al)
              have BXa := hide (Box4.new wzb (.bool false) (.slice none 0 0) (.bool false) (.slice none 0 0))
              have LTa := hide (FL.out _ HF.out)
              replace HF := hide (FS.out _ _ HF.out al)
              refine hK _ _ (fun _ => HF.out) ?_
              clear hK K al
              generalize wzb.alloc (.cells #[.bool false, .slice none 0 0, .bool false, .slice none 0 0] 27) = wza at *
              generalize wzb.heap.size = ga at *
              refine Calm.one (i := 12) (l' := #[true, true, true, true, true, true, true, true, true, true, true, true, true, false]) (by kernel_rfl) rfl rfl rfl fun K hK => ?_
              have hc0 := BXa.out.cell0
              have hc1 := BXa.out.cell1
              have hc2 := BXa.out.cell2
              have hc3 := BXa.out.cell3
              have hf0 := BXa.out.free 0
              have hf1 := BXa.out.free 1
              have hf2 := BXa.out.free 2
              have hf3 := BXa.out.free 3
              go_simp
              replace HF := hide (FP4.out _ ga (.bool s3) (.slice m3 n3 c3) (.bool t3) (.slice o3 p3 d3) HF.out BXa.out LTa.out)
              replace TA := hide (TA.out.keep (BXa.out.keeps (by simp) (by simp) (by simp) (by simp) (.bool s3) (.slice m3 n3 c3) (.bool t3) (.slice o3 p3 d3)))
              replace TB := hide (TB.out.keep (BXa.out.keeps (by simp) (by simp) (by simp) (by simp) (.bool s3) (.slice m3 n3 c3) (.bool t3) (.slice o3 p3 d3)))
              replace BXb := hide (BXb.out.other4 (C := ga) (by first | exact Nat.ne_of_lt LTab.out | exact Nat.ne_of_gt LTba.out) (.bool s3) (.slice m3 n3 c3) (.bool t3) (.slice o3 p3 d3))
              replace BXa := hide (BXa.out.put (.bool s3) (.slice m3 n3 c3) (.bool t3) (.slice o3 p3 d3))
              refine hK _ _ (fun _ => HF.out) ?_
              clear hK K hc0 hf0 hc1 hf1 hc2 hf2 hc3 hf3
              generalize ((((wza.setCell ⟨ga, 0, none⟩ (.bool s3)).setCell ⟨ga, 1, none⟩ (.slice m3 n3 c3)).setCell ⟨ga, 2, none⟩ (.bool t3)).setCell ⟨ga, 3, none⟩ (.slice o3 p3 d3)) = ws12 at *
              refine Calm.one (i := 13) (l' := #[true, true, true, true, true, true, true, true, true, true, true, true, true, true]) (by kernel_rfl) rfl rfl rfl fun K hK => ?_
              have hc0 := BXb.out.cell0
              have hc1 := BXb.out.cell1
              have hc2 := BXb.out.cell2
              have hc3 := BXb.out.cell3
              have hf0 := BXb.out.free 0
              have hf1 := BXb.out.free 1
              have hf2 := BXb.out.free 2
              have hf3 := BXb.out.free 3
              go_simp
              replace HF := hide (FP4.out _ gb (.bool s4) (.slice m4 n4 c4) (.bool t4) (.slice o4 p4 d4) HF.out BXb.out LTb.out)
              replace TA := hide (TA.out.keep (BXb.out.keeps (by simp) (by simp) (by simp) (by simp) (.bool s4) (.slice m4 n4 c4) (.bool t4) (.slice o4 p4 d4)))
              replace TB := hide (TB.out.keep (BXb.out.keeps (by simp) (by simp) (by simp) (by simp) (.bool s4) (.slice m4 n4 c4) (.bool t4) (.slice o4 p4 d4)))
              replace BXa := hide (BXa.out.other4 (C := gb) (by first | exact Nat.ne_of_lt LTba.out | exact Nat.ne_of_gt LTab.out) (.bool s4) (.slice m4 n4 c4) (.bool t4) (.slice o4 p4 d4))
              replace BXb := hide (BXb.out.put (.bool s4) (.slice m4 n4 c4) (.bool t4) (.slice o4 p4 d4))
              refine hK _ _ (fun _ => HF.out) ?_
              clear hK K hc0 hf0 hc1 hf1 hc2 hf2 hc3 hf3
              generalize ((((ws12.setCell ⟨gb, 0, none⟩ (.bool s4)).setCell ⟨gb, 1, none⟩ (.slice m4 n4 c4)).setCell ⟨gb, 2, none⟩ (.bool t4)).setCell ⟨gb, 3, none⟩ (.slice o4 p4 d4)) = ws13 at *
              refine Calm.done (by kernel_rfl) ?_
              have h := FU.out _ HF.out
              go_wp2
              go_meet
              case rel => exact ⟨ga, s3, m3, n3, c3, t3, o3, p3, d3, gb, s4, m4, n4, c4, t4, o4, p4, d4, rfl, rfl, ⟨LTa.out, LTb.out, by first | exact Nat.ne_of_lt LTab.out | exact Nat.ne_of_gt LTba.out⟩, h.1, h.2.1, h.2.2.1, h.2.2.2.1, h.2.2.2.2.1, h.2.2.2.2.2, BXa.out, BXb.out, TA.out, TB.out⟩
          · go_simp
            have al := below_alloc u3 (.cells #[.bool false, .slice none 0 0, .bool false, .slice none 0 0] 27)
            replace TA := hide (TA.out.below (al))
            replace TE := hide (TE.out.below (al))
            have BXa := hide (Box4.new u3 (.bool false) (.slice none 0 0) (.bool false) (.slice none 0 0))
            have LTa := hide (FL.out _ HF.out)
            replace HF := hide (FS.out _ _ HF.out al)
            refine hK _ _ (fun _ => HF.out) ?_
            clear hK K al
            generalize u3.alloc (.cells #[.bool false, .slice none 0 0, .bool false, .slice none 0 0] 27) = wza at *
            generalize u3.heap.size = ga at *
            refine Calm.two (i := 9) (j := 11) (l := #[true, true, true, true, true, true, true, true, true, true, true, false, false, false]) (l' := #[true, true, true, true, true, true, true, true, true, false, true, true, false, false]) (by kernel_rfl) rfl rfl rfl rfl rfl rfl (fun K hK => ?_) (fun K hK => ?_)
            · go_simp
              refine (lowest_any _ _ y.num (x.den : Int) _ (FU.out _ HF.out).2.2.2.2.2.num TE.out (SzI.len HY.out.num (by decide)) (SzI.len HX.out.den (by decide)) ZX.out).mono ?_
              rintro e u4 ⟨v, rfl, n, hb⟩
              obtain ⟨s4, m4, n4, c4, t4, o4, p4, d4, rfl, n⟩ := n.cells
              replace TA := hide (TA.out.below (hb))
              clear TE
              replace BXa := hide (BXa.out.step hb)
              have TB := hide (n)
              replace HF := hide (FS.out _ _ HF.out hb)
              refine hK _ _ (fun _ => HF.out) ?_
              clear hK K hb n
              refine Calm.one (i := 11) (l' := #[true, true, true, true, true, true, true, true, true, true, true, true, false, false]) (by kernel_rfl) rfl rfl rfl fun K hK => ?_
              go_simp
              have al := below_alloc u4 (.cells #[.bool false, .slice none 0 0, .bool false, .slice none 0 0] 27)
              replace TA := hide (TA.out.below (al))
              replace TB := hide (TB.out.below (al))
              have LTab := hide (BXa.out.lt)
              replace BXa := hide (BXa.out.step al)
              have BXb := hide (Box4.new u4 (.bool false) (.slice none 0 0) (.bool false) (.slice none 0 0))
              have LTb := hide (FL.out _ HF.out)
              replace HF := hide (FS.out _ _ HF.out al)
              refine hK _ _ (fun _ => HF.out) ?_
              clear hK K al
              generalize u4.alloc (.cells #[.bool false, .slice none 0 0, .bool false, .slice none 0 0] 27) = wzb at *
              generalize u4.heap.size = gb at *
              refine Calm.one (i := 12) (l' := #[true, true, true, true, true, true, true, true, true, true, true, true, true, false]) (by kernel_rfl) rfl rfl rfl fun K hK => ?_
              have hc0 := BXa.out.cell0
              have hc1 := BXa.out.cell1
              have hc2 := BXa.out.cell2
              have hc3 := BXa.out.cell3
              have hf0 := BXa.out.free 0
              have hf1 := BXa.out.free 1
              have hf2 := BXa.out.free 2
              have hf3 := BXa.out.free 3
              go_simp
              replace HF := hide (FP4.out _ ga (.bool s3) (.slice m3 n3 c3) (.bool t3) (.slice o3 p3 d3) HF.out BXa.out LTa.out)
              replace TA := hide (TA.out.keep (BXa.out.keeps (by simp) (by simp) (by simp) (by simp) (.bool s3) (.slice m3 n3 c3) (.bool t3) (.slice o3 p3 d3)))
              replace TB := hide (TB.out.keep (BXa.out.keeps (by simp) (by simp) (by simp) (by simp) (.bool s3) (.slice m3 n3 c3) (.bool t3) (.slice o3 p3 d3)))
              replace BXb := hide (BXb.out.other4 (C := ga) (by first | exact Nat.ne_of_lt LTab.out | exact Nat.ne_of_gt LTba.out) (.bool s3) (.slice m3 n3 c3) (.bool t3) (.slice o3 p3 d3))
              replace BXa := hide (BXa.out.put (.bool s3) (.slice m3 n3 c3) (.bool t3) (.slice o3 p3 d3))
              refine hK _ _ (fun _ => HF.out) ?_
              clear hK K hc0 hf0 hc1 hf1 hc2 hf2 hc3 hf3
              generalize ((((wzb.setCell ⟨ga, 0, none⟩ (.bool s3)).setCell ⟨ga, 1, none⟩ (.slice m3 n3 c3)).setCell ⟨ga, 2, none⟩ (.bool t3)).setCell ⟨ga, 3, none⟩ (.slice o3 p3 d3)) = ws12 at *
              refine Calm.one (i := 13) (l' := #[true, true, true, true, true, true, true, true, true, true, true, true, true, true]) (by kernel_rfl) rfl rfl rfl fun K hK => ?_
              have hc0 := BXb.out.cell0
              have hc1 := BXb.out.cell1
              have hc2 := BXb.out.cell2
              have hc3 := BXb.out.cell3
              have hf0 := BXb.out.free 0
              have hf1 := BXb.out.free 1
              have hf2 := BXb.out.free 2
              have hf3 := BXb.out.free 3
              go_simp
              replace HF := hide (FP4.out _ gb (.bool s4) (.slice m4 n4 c4) (.bool t4) (.slice o4 p4 d4) HF.out BXb.out LTb.out)
              replace TA := hide (TA.out.keep (BXb.out.keeps (by simp) (by simp) (by simp) (by simp) (.bool s4) (.slice m4 n4 c4) (.bool t4) (.slice o4 p4 d4)))
              replace TB := hide (TB.out.keep (BXb.out.keeps (by simp) (by simp) (by simp) (by simp) (.bool s4) (.slice m4 n4 c4) (.bool t4) (.slice o4 p4 d4)))
              replace BXa := hide (BXa.out.other4 (C := gb) (by first | exact Nat.ne_of_lt LTba.out | exact Nat.ne_of_gt LTab.out) (.bool s4) (.slice m4 n4 c4) (.bool t4) (.slice o4 p4 d4))
              replace BXb := hide (BXb.out.put (.bool s4) (.slice m4 n4 c4) (.bool t4) (.slice o4 p4 d4))
              refine hK _ _ (fun _ => HF.out) ?_
              clear hK K hc0 hf0 hc1 hf1 hc2 hf2 hc3 hf3
              generalize ((((ws12.setCell ⟨gb, 0, none⟩ (.bool s4)).setCell ⟨gb, 1, none⟩ (.slice m4 n4 c4)).setCell ⟨gb, 2, none⟩ (.bool t4)).setCell ⟨gb, 3, none⟩ (.slice o4 p4 d4)) = ws13 at *
              refine Calm.done (by kernel_rfl) ?_
              have h := FU.out _ HF.out
              go_wp2
              go_meet
              case rel => exact ⟨ga, s3, m3, n3, c3, t3, o3, p3, d3, gb, s4, m4, n4, c4, t4, o4, p4, d4, rfl, rfl, ⟨LTa.out, LTb.out, by first | exact Nat.ne_of_lt LTab.out | exact Nat.ne_of_gt LTba.out⟩, h.1, h.2.1, h.2.2.1, h.2.2.2.1, h.2.2.2.2.1, h.2.2.2.2.2, BXa.out, BXb.out, TA.out, TB.out⟩
            · go_simp
              have al := below_alloc wza (.cells #[.bool false, .slice none 0 0, .bool false, .slice none 0 0] 27)
              replace TA := hide (TA.out.below (al))
              replace TE := hide (TE.out.below (al))
              have LTab := hide (BXa.out.lt)
              replace BXa := hide (BXa.out.step al)
              have BXb := hide (Box4.new wza (.bool false) (.slice none 0 0) (.bool false) (.slice none 0 0))
              have LTb := hide (FL.out _ HF.out)
              replace HF := hide (FS.out _ _ HF.out al)
              refine hK _ _ (fun _ => HF.out) ?_
              clear hK K al
              generalize wza.alloc (.cells #[.bool false, .slice none 0 0, .bool false, .slice none 0 0] 27) = wzb at *
              generalize wza.heap.size = gb at *
              refine Calm.one (i := 9) (l' := #[true, true, true, true, true, true, true, true, true, true, true, true, false, false]) (by kernel_rfl) rfl rfl rfl fun K hK => ?_
              go_simp
              refine (lowest_any _ _ y.num (x.den : Int) _ (FU.out _ HF.out).2.2.2.2.2.num TE.out (SzI.len HY.out.num (by decide)) (SzI.len HX.out.den (by decide)) ZX.out).mono ?_
              rintro e u4 ⟨v, rfl, n, hb⟩
              obtain ⟨s4, m4, n4, c4, t4, o4, p4, d4, rfl, n⟩ := n.cells
              replace TA := hide (TA.out.below (hb))
              clear TE
              replace BXa := hide (BXa.out.step hb)
              replace BXb := hide (BXb.out.step hb)
              have TB := hide (n)
              replace HF := hide (FS.out _ _ HF.out hb)
              refine hK _ _ (fun _ => HF.out) ?_
              clear hK K hb n
              refine Calm.one (i := 12) (l' := #[true, true, true, true, true, true, true, true, true, true, true, true, true, false]) (by kernel_rfl) rfl rfl rfl fun K hK => ?_
              have hc0 := BXa.out.cell0
              have hc1 := BXa.out.cell1
              have hc2 := BXa.out.cell2
              have hc3 := BXa.out.cell3
              have hf0 := BXa.out.free 0
              have hf1 := BXa.out.free 1
              have hf2 := BXa.out.free 2
              have hf3 := BXa.out.free 3
              go_simp
              replace HF := hide (FP4.out _ ga (.bool s3) (.slice m3 n3 c3) (.bool t3) (.slice o3 p3 d3) HF.out BXa.out LTa.out)
              replace TA := hide (TA.out.keep (BXa.out.keeps (by simp) (by simp) (by simp) (by simp) (.bool s3) (.slice m3 n3 c3) (.bool t3) (.slice o3 p3 d3)))
              replace TB := hide (TB.out.keep (BXa.out.keeps (by simp) (by simp) (by simp) (by simp) (.bool s3) (.slice m3 n3 c3) (.bool t3) (.slice o3 p3 d3)))
              replace BXb := hide (BXb.out.other4 (C := ga) (by first | exact Nat.ne_of_lt LTab.out | exact Nat.ne_of_gt LTba.out) (.bool s3) (.slice m3 n3 c3) (.bool t3) (.slice o3 p3 d3))
              replace BXa := hide (BXa.out.put (.bool s3) (.slice m3 n3 c3) (.bool t3) (.slice o3 p3 d3))
              refine hK _ _ (fun _ => HF.out) ?_
              clear hK K hc0 hf0 hc1 hf1 hc2 hf2 hc3 hf3
              generalize ((((u4.setCell ⟨ga, 0, none⟩ (.bool s3)).setCell ⟨ga, 1, none⟩ (.slice m3 n3 c3)).setCell ⟨ga, 2, none⟩ (.bool t3)).setCell ⟨ga, 3, none⟩ (.slice o3 p3 d3)) = ws12 at *
              refine Calm.one (i := 13) (l' := #[true, true, true, true, true, true, true, true, true, true, true, true, true, true]) (by kernel_rfl) rfl rfl rfl fun K hK => ?_
              have hc0 := BXb.out.cell0
              have hc1 := BXb.out.cell1
              have hc2 := BXb.out.cell2
              have hc3 := BXb.out.cell3
              have hf0 := BXb.out.free 0
              have hf1 := BXb.out.free 1
              have hf2 := BXb.out.free 2
              have hf3 := BXb.out.free 3
              go_simp
              replace HF := hide (FP4.out _ gb (.bool s4) (.slice m4 n4 c4) (.bool t4) (.slice o4 p4 d4) HF.out BXb.out LTb.out)
              replace TA := hide (TA.out.keep (BXb.out.keeps (by simp) (by simp) (by simp) (by simp) (.bool s4) (.slice m4 n4 c4) (.bool t4) (.slice o4 p4 d4)))
              replace TB := hide (TB.out.keep (BXb.out.keeps (by simp) (by simp) (by simp) (by simp) (.bool s4) (.slice m4 n4 c4) (.bool t4) (.slice o4 p4 d4)))
              replace BXa := hide (BXa.out.other4 (C := gb) (by first | exact Nat.ne_of_lt LTba.out | exact Nat.ne_of_gt LTab.out) (.bool s4) (.slice m4 n4 c4) (.bool t4) (.slice o4 p4 d4))
              replace BXb := hide (BXb.out.put (.bool s4) (.slice m4 n4 c4) (.bool t4) (.slice o4 p4 d4))
              refine hK _ _ (fun _ => HF.out) ?_
              clear hK K hc0 hf0 hc1 hf1 hc2 hf2 hc3 hf3
              generalize ((((ws12.setCell ⟨gb, 0, none⟩ (.bool s4)).setCell ⟨gb, 1, none⟩ (.slice m4 n4 c4)).setCell ⟨gb, 2, none⟩ (.bool t4)).setCell ⟨gb, 3, none⟩ (.slice o4 p4 d4)) = ws13 at *
              refine Calm.done (by kernel_rfl) ?_
              have h := FU.out _ HF.out
              go_wp2
              go_meet
              case rel => exact ⟨ga, s3, m3, n3, c3, t3, o3, p3, d3, gb, s4, m4, n4, c4, t4, o4, p4, d4, rfl, rfl, ⟨LTa.out, LTb.out, by first | exact Nat.ne_of_lt LTab.out | exact Nat.ne_of_gt LTba.out⟩, h.1, h.2.1, h.2.2.1, h.2.2.2.1, h.2.2.2.2.1, h.2.2.2.2.2, BXa.out, BXb.out, TA.out, TB.out⟩
          · go_simp
            have al := below_alloc u3 (.cells #[.bool false, .slice none 0 0, .bool false, .slice none 0 0] 27)
            replace TA := hide (TA.out.below (al))
            replace TE := hide (TE.out.below (al))
            have BXb := hide (Box4.new u3 (.bool false) (.slice none 0 0) (.bool false) (.slice none 0 0))
            have LTb := hide (FL.out _ HF.out)
            replace HF := hide (FS.out _ _ HF.out al)
            refine hK _ _ (fun _ => HF.out) ?_
            clear hK K al
            generalize u3.alloc (.cells #[.bool false, .slice none 0 0, .bool false, .slice none 0 0] 27) = wzb at *
            generalize u3.heap.size = gb at *
            refine Calm.two (i := 9) (j := 10) (l := #[true, true, true, true, true, true, true, true, true, true, false, true, false, false]) (l' := #[true, true, true, true, true, true, true, true, true, false, true, true, false, false]) (by kernel_rfl) rfl rfl rfl rfl rfl rfl (fun K hK => ?_) (fun K hK => ?_)
            · go_simp
              refine (lowest_any _ _ y.num (x.den : Int) _ (FU.out _ HF.out).2.2.2.2.2.num TE.out (SzI.len HY.out.num (by decide)) (SzI.len HX.out.den (by decide)) ZX.out).mono ?_
              rintro e u4 ⟨v, rfl, n, hb⟩
              obtain ⟨s4, m4, n4, c4, t4, o4, p4, d4, rfl, n⟩ := n.cells
              replace TA := hide (TA.out.below (hb))
              clear TE
              replace BXb := hide (BXb.out.step hb)
              have TB := hide (n)
              replace HF := hide (FS.out _ _ HF.out hb)
              refine hK _ _ (fun _ => HF.out) ?_
              clear hK K hb n
              refine Calm.one (i := 10) (l' := #[true, true, true, true, true, true, true, true, true, true, true, true, false, false]) (by kernel_rfl) rfl rfl rfl fun K hK => ?_
              go_simp
              have al := below_alloc u4 (.cells #[.bool false, .slice none 0 0, .bool false, .slice none 0 0] 27)
              replace TA := hide (TA.out.below (al))
              replace TB := hide (TB.out.below (al))
              have LTba := hide (BXb.out.lt)
              replace BXb := hide (BXb.out.step al)
              have BXa := hide (Box4.new u4 (.bool false) (.slice none 0 0) (.bool false) (.slice none 0 0))
              have LTa := hide (FL.out _ HF.out)
              replace HF := hide (FS.out _ _ HF.out al)
              refine hK _ _ (fun _ => HF.out) ?_
              clear hK K al
              generalize u4.alloc (.cells #[.bool false, .slice none 0 0, .bool false, .slice none 0 0] 27) = wza at *
              generalize u4.heap.size = ga at *
              refine Calm.one (i := 12) (l' := #[true, true, true, true, true, true, true, true, true, true, true, true, true, false]) (by kernel_rfl) rfl rfl rfl fun K hK => ?_
              have hc0 := BXa.out.cell0
              have hc1 := BXa.out.cell1
              have hc2 := BXa.out.cell2
              have hc3 := BXa.out.cell3
              have hf0 := BXa.out.free 0
              have hf1 := BXa.out.free 1
              have hf2 := BXa.out.free 2
              have hf3 := BXa.out.free 3
              go_simp
              replace HF := hide (FP4.out _ ga (.bool s3) (.slice m3 n3 c3) (.bool t3) (.slice o3 p3 d3) HF.out BXa.out LTa.out)
              replace TA := hide (TA.out.keep (BXa.out.keeps (by simp) (by simp) (by simp) (by simp) (.bool s3) (.slice m3 n3 c3) (.bool t3) (.slice o3 p3 d3)))
              replace TB := hide (TB.out.keep (BXa.out.keeps (by simp) (by simp) (by simp) (by simp) (.bool s3) (.slice m3 n3 c3) (.bool t3) (.slice o3 p3 d3)))
              replace BXb := hide (BXb.out.other4 (C := ga) (by first | exact Nat.ne_of_lt LTab.out | exact Nat.ne_of_gt LTba.out) (.bool s3) (.slice m3 n3 c3) (.bool t3) (.slice o3 p3 d3))
              replace BXa := hide (BXa.out.put (.bool s3) (.slice m3 n3 c3) (.bool t3) (.slice o3 p3 d3))
              refine hK _ _ (fun _ => HF.out) ?_
              clear hK K hc0 hf0 hc1 hf1 hc2 hf2 hc3 hf3
              generalize ((((wza.setCell ⟨ga, 0, none⟩ (.bool s3)).setCell ⟨ga, 1, none⟩ (.slice m3 n3 c3)).setCell ⟨ga, 2, none⟩ (.bool t3)).setCell ⟨ga, 3, none⟩ (.slice o3 p3 d3)) = ws12 at *
              refine Calm.one (i := 13) (l' := #[true, true, true, true, true, true, true, true, true, true, true, true, true, true]) (by kernel_rfl) rfl rfl rfl fun K hK => ?_
              have hc0 := BXb.out.cell0
              have hc1 := BXb.out.cell1
              have hc2 := BXb.out.cell2
              have hc3 := BXb.out.cell3
              have hf0 := BXb.out.free 0
              have hf1 := BXb.out.free 1
              have hf2 := BXb.out.free 2
              have hf3 := BXb.out.free 3
              go_simp
              replace HF := hide (FP4.out _ gb (.bool s4) (.slice m4 n4 c4) (.bool t4) (.slice o4 p4 d4) HF.out BXb.out LTb.out)
              replace TA := hide (TA.out.keep (BXb.out.keeps (by simp) (by simp) (by simp) (by simp) (.bool s4) (.slice m4 n4 c4) (.bool t4) (.slice o4 p4 d4)))
              replace TB := hide (TB.out.keep (BXb.out.keeps (by simp) (by simp) (by simp) (by simp) (.bool s4) (.slice m4 n4 c4) (.bool t4) (.slice o4 p4 d4)))
              replace BXa := hide (BXa.out.other4 (C := gb) (by first | exact Nat.ne_of_lt LTba.out | exact Nat.ne_of_gt LTab.out) (.bool s4) (.slice m4 n4 c4) (.bool t4) (.slice o4 p4 d4))
              replace BXb := hide (BXb.out.put (.bool s4) (.slice m4 n4 c4) (.bool t4) (.slice o4 p4 d4))
              refine hK _ _ (fun _ => HF.out) ?_
              clear hK K hc0 hf0 hc1 hf1 hc2 hf2 hc3 hf3
              generalize ((((ws12.setCell ⟨gb, 0, none⟩ (.bool s4)).setCell ⟨gb, 1, none⟩ (.slice m4 n4 c4)).setCell ⟨gb, 2, none⟩ (.bool t4)).setCell ⟨gb, 3, none⟩ (.slice o4 p4 d4)) = ws13 at *
              refine Calm.done (by kernel_rfl) ?_
              have h := FU.out _ HF.out
              go_wp2
              go_meet
              case rel => exact ⟨ga, s3, m3, n3, c3, t3, o3, p3, d3, gb, s4, m4, n4, c4, t4, o4, p4, d4, rfl, rfl, ⟨LTa.out, LTb.out, by first | exact Nat.ne_of_lt LTab.out | exact Nat.ne_of_gt LTba.out⟩, h.1, h.2.1, h.2.2.1, h.2.2.2.1, h.2.2.2.2.1, h.2.2.2.2.2, BXa.out, BXb.out, TA.out, TB.out⟩
            · go_simp
              have al := below_alloc wzb (.cells #[.bool false, .slice none 0 0, .bool false, .slice none 0 0] 27)
              replace TA := hide (TA.out.below (al))
              replace TE := hide (TE.out.below (al))
              have LTba := hide (BXb.out.lt)
              replace BXb := hide (BXb.out.step al)
              have BXa := hide (Box4.new wzb (.bool false) (.slice none 0 0) (.bool false) (.slice none 0 0))
              have LTa := hide (FL.out _ HF.out)
              replace HF := hide (FS.out _ _ HF.out al)
              refine hK _ _ (fun _ => HF.out) ?_
              clear hK K al
              generalize wzb.alloc (.cells #[.bool false, .slice none 0 0, .bool false, .slice none 0 0] 27) = wza at *
              generalize wzb.heap.size = ga at *
              refine Calm.one (i := 9) (l' := #[true, true, true, true, true, true, true, true, true, true, true, true, false, false]) (by kernel_rfl) rfl rfl rfl fun K hK => ?_
              go_simp
              refine (lowest_any _ _ y.num (x.den : Int) _ (FU.out _ HF.out).2.2.2.2.2.num TE.out (SzI.len HY.out.num (by decide)) (SzI.len HX.out.den (by decide)) ZX.out).mono ?_
              rintro e u4 ⟨v, rfl, n, hb⟩
              obtain ⟨s4, m4, n4, c4, t4, o4, p4, d4, rfl, n⟩ := n.cells
              replace TA := hide (TA.out.below (hb))
              clear TE
              replace BXb := hide (BXb.out.step hb)
              replace BXa := hide (BXa.out.step hb)
              have TB := hide (n)
              replace HF := hide (FS.out _ _ HF.out hb)
              refine hK _ _ (fun _ => HF.out) ?_
              clear hK K hb n
              refine Calm.one (i := 12) (l' := #[true, true, true, true, true, true, true, true, true, true, true, true, true, false]) (by kernel_rfl) rfl rfl rfl fun K hK => ?_
              have hc0 := BXa.out.cell0
              have hc1 := BXa.out.cell1
              have hc2 := BXa.out.cell2
              have hc3 := BXa.out.cell3
              have hf0 := BXa.out.free 0
              have hf1 := BXa.out.free 1
              have hf2 := BXa.out.free 2
              have hf3 := BXa.out.free 3
              go_simp
              replace HF := hide (FP4.out _ ga (.bool s3) (.slice m3 n3 c3) (.bool t3) (.slice o3 p3 d3) HF.out BXa.out LTa.out)
              replace TA := hide (TA.out.keep (BXa.out.keeps (by simp) (by simp) (by simp) (by simp) (.bool s3) (.slice m3 n3 c3) (.bool t3) (.slice o3 p3 d3)))
              replace TB := hide (TB.out.keep (BXa.out.keeps (by simp) (by simp) (by simp) (by simp) (.bool s3) (.slice m3 n3 c3) (.bool t3) (.slice o3 p3 d3)))
              replace BXb := hide (BXb.out.other4 (C := ga) (by first | exact Nat.ne_of_lt LTab.out | exact Nat.ne_of_gt LTba.out) (.bool s3) (.slice m3 n3 c3) (.bool t3) (.slice o3 p3 d3))
              replace BXa := hide (BXa.out.put (.bool s3) (.slice m3 n3 c3) (.bool t3) (.slice o3 p3 d3))
              refine hK _ _ (fun _ => HF.out) ?_
              clear hK K hc0 hf0 hc1 hf1 hc2 hf2 hc3 hf3
              generalize ((((u4.setCell ⟨ga, 0, none⟩ (.bool s3)).setCell ⟨ga, 1, none⟩ (.slice m3 n3 c3)).setCell ⟨ga, 2, none⟩ (.bool t3)).setCell ⟨ga, 3, none⟩ (.slice o3 p3 d3)) = ws12 at *
              refine Calm.one (i := 13) (l' := #[true, true, true, true, true, true, true, true, true, true, true, true, true, true]) (by kernel_rfl) rfl rfl rfl fun K hK => ?_
              have hc0 := BXb.out.cell0
              have hc1 := BXb.out.cell1
              have hc2 := BXb.out.cell2
              have hc3 := BXb.out.cell3
              have hf0 := BXb.out.free 0
              have hf1 := BXb.out.free 1
              have hf2 := BXb.out.free 2
              have hf3 := BXb.out.free 3
              go_simp
              replace HF := hide (FP4.out _ gb (.bool s4) (.slice m4 n4 c4) (.bool t4) (.slice o4 p4 d4) HF.out BXb.out LTb.out)
              replace TA := hide (TA.out.keep (BXb.out.keeps (by simp) (by simp) (by simp) (by simp) (.bool s4) (.slice m4 n4 c4) (.bool t4) (.slice o4 p4 d4)))
              replace TB := hide (TB.out.keep (BXb.out.keeps (by simp) (by simp) (by simp) (by simp) (.bool s4) (.slice m4 n4 c4) (.bool t4) (.slice o4 p4 d4)))
              replace BXa := hide (BXa.out.other4 (C := gb) (by first | exact Nat.ne_of_lt LTba.out | exact Nat.ne_of_gt LTab.out) (.bool s4) (.slice m4 n4 c4) (.bool t4) (.slice o4 p4 d4))
              replace BXb := hide (BXb.out.put (.bool s4) (.slice m4 n4 c4) (.bool t4) (.slice o4 p4 d4))
              refine hK _ _ (fun _ => HF.out) ?_
              clear hK K hc0 hf0 hc1 hf1 hc2 hf2 hc3 hf3
              generalize ((((ws12.setCell ⟨gb, 0, none⟩ (.bool s4)).setCell ⟨gb, 1, none⟩ (.slice m4 n4 c4)).setCell ⟨gb, 2, none⟩ (.bool t4)).setCell ⟨gb, 3, none⟩ (.slice o4 p4 d4)) = ws13 at *
              refine Calm.done (by kernel_rfl) ?_
              have h := FU.out _ HF.out
              go_wp2
              go_meet
              case rel => exact ⟨ga, s3, m3, n3, c3, t3, o3, p3, d3, gb, s4, m4, n4, c4, t4, o4, p4, d4, rfl, rfl, ⟨LTa.out, LTb.out, by first | exact Nat.ne_of_lt LTab.out | exact Nat.ne_of_gt LTba.out⟩, h.1, h.2.1, h.2.2.1, h.2.2.2.1, h.2.2.2.2.1, h.2.2.2.2.2, BXa.out, BXb.out, TA.out, TB.out⟩
        · go_simp
          have al := below_alloc u2 (.cells #[.bool false, .slice none 0 0, .bool false, .slice none 0 0] 27)
          replace TA := hide (TA.out.below (al))
          have BXa := hide (Box4.new u2 (.bool false) (.slice none 0 0) (.bool false) (.slice none 0 0))
          have LTa := hide (FL.out _ HF.out)
          replace HF := hide (FS.out _ _ HF.out al)
          refine hK _ _ (fun _ => HF.out) ?_
          clear hK K al
          generalize u2.alloc (.cells #[.bool false, .slice none 0 0, .bool false, .slice none 0 0] 27) = wza at *
          generalize u2.heap.size = ga at *
          refine Calm.two (i := 8) (j := 11) (l := #[true, true, true, true, true, true, true, true, true, false, true, false, false, false]) (l' := #[true, true, true, true, true, true, true, true, false, false, true, true, false, false]) (by kernel_rfl) rfl rfl rfl rfl rfl rfl (fun K hK => ?_) (fun K hK => ?_)
          · go_simp
            refine (den_any _ x _ (FU.out _ HF.out).2.2.2.2.1).mono ?_
            rintro e u3 ⟨v, rfl, n, hb⟩
            replace TA := hide (TA.out.below (hb))
            replace BXa := hide (BXa.out.step hb)
            have TE := hide (n)
            replace HF := hide (FS.out _ _ HF.out hb)
            refine hK _ _ (fun _ => HF.out) ?_
            clear hK K hb n
            refine Calm.two (i := 9) (j := 11) (l := #[true, true, true, true, true, true, true, true, true, true, true, false, false, false]) (l' := #[true, true, true, true, true, true, true, true, true, false, true, true, false, false]) (by kernel_rfl) rfl rfl rfl rfl rfl rfl (fun K hK => ?_) (fun K hK => ?_)
            · go_simp
              refine (lowest_any _ _ y.num (x.den : Int) _ (FU.out _ HF.out).2.2.2.2.2.num TE.out (SzI.len HY.out.num (by decide)) (SzI.len HX.out.den (by decide)) ZX.out).mono ?_
              rintro e u4 ⟨v, rfl, n, hb⟩
              obtain ⟨s4, m4, n4, c4, t4, o4, p4, d4, rfl, n⟩ := n.cells
              replace TA := hide (TA.out.below (hb))
              clear TE
              replace BXa := hide (BXa.out.step hb)
              have TB := hide (n)
              replace HF := hide (FS.out _ _ HF.out hb)
              refine hK _ _ (fun _ => HF.out) ?_
              clear hK K hb n
              refine Calm.one (i := 11) (l' := #[true, true, true, true, true, true, true, true, true, true, true, true, false, false]) (by kernel_rfl) rfl rfl rfl fun K hK => ?_
              go_simp
              have al := below_alloc u4 (.cells #[.bool false, .slice none 0 0, .bool false, .slice none 0 0] 27)
              replace TA := hide (TA.out.below (al))
              replace TB := hide (TB.out.below (al))
              have LTab := hide (BXa.out.lt)
              replace BXa := hide (BXa.out.step al)
              have BXb := hide (Box4.new u4 (.bool false) (.slice none 0 0) (.bool false) (.slice none 0 0))
              have LTb := hide (FL.out _ HF.out)
              replace HF := hide (FS.out _ _ HF.out al)
              refine hK _ _ (fun _ => HF.out) ?_
              clear hK K al
              generalize u4.alloc (.cells #[.bool false, .slice none 0 0, .bool false, .slice none 0 0] 27) = wzb at *
              generalize u4.heap.size = gb at *
              refine Calm.one (i := 12) (l' := #[true, true, true, true, true, true, true, true, true, true, true, true, true, false]) (by kernel_rfl) rfl rfl rfl fun K hK => ?_
              have hc0 := BXa.out.cell0
              have hc1 := BXa.out.cell1
              have hc2 := BXa.out.cell2
              have hc3 := BXa.out.cell3
              have hf0 := BXa.out.free 0
              have hf1 := BXa.out.free 1
              have hf2 := BXa.out.free 2
              have hf3 := BXa.out.free 3
              go_simp
              replace HF := hide (FP4.out _ ga (.bool s3) (.slice m3 n3 c3) (.bool t3) (.slice o3 p3 d3) HF.out BXa.out LTa.out)
              replace TA := hide (TA.out.keep (BXa.out.keeps (by simp) (by simp) (by simp) (by simp) (.bool s3) (.slice m3 n3 c3) (.bool t3) (.slice o3 p3 d3)))
              replace TB := hide (TB.out.keep (BXa.out.keeps (by simp) (by simp) (by simp) (by simp) (.bool s3) (.slice m3 n3 c3) (.bool t3) (.slice o3 p3 d3)))
              replace BXb := hide (BXb.out.other4 (C := ga) (by first | exact Nat.ne_of_lt LTab.out | exact Nat.ne_of_gt LTba.out) (.bool s3) (.slice m3 n3 c3) (.bool t3) (.slice o3 p3 d3))
              replace BXa := hide (BXa.out.put (.bool s3) (.slice m3 n3 c3) (.bool t3) (.slice o3 p3 d3))
              refine hK _ _ (fun _ => HF.out) ?_
              clear hK K hc0 hf0 hc1 hf1 hc2 hf2 hc3 hf3
              generalize ((((wzb.setCell ⟨ga, 0, none⟩ (.bool s3)).setCell ⟨ga, 1, none⟩ (.slice m3 n3 c3)).setCell ⟨ga, 2, none⟩ (.bool t3)).setCell ⟨ga, 3, none⟩ (.slice o3 p3 d3)) = ws12 at *
              refine Calm.one (i := 13) (l' := #[true, true, true, true, true, true, true, true, true, true, true, true, true, true]) (by kernel_rfl) rfl rfl rfl fun K hK => ?_
              have hc0 := BXb.out.cell0
              have hc1 := BXb.out.cell1
              have hc2 := BXb.out.cell2
              have hc3 := BXb.out.cell3
              have hf0 := BXb.out.free 0
              have hf1 := BXb.out.free 1
              have hf2 := BXb.out.free 2
              have hf3 := BXb.out.free 3
              go_simp
              replace HF := hide (FP4.out _ gb (.bool s4) (.slice m4 n4 c4) (.bool t4) (.slice o4 p4 d4) HF.out BXb.out LTb.out)
              replace TA := hide (TA.out.keep (BXb.out.keeps (by simp) (by simp) (by simp) (by simp) (.bool s4) (.slice m4 n4 c4) (.bool t4) (.slice o4 p4 d4)))
              replace TB := hide (TB.out.keep (BXb.out.keeps (by simp) (by simp) (by simp) (by simp) (.bool s4) (.slice m4 n4 c4) (.bool t4) (.slice o4 p4 d4)))
              replace BXa := hide (BXa.out.other4 (C := gb) (by first | exact Nat.ne_of_lt LTba.out | exact Nat.ne_of_gt LTab.out) (.bool s4) (.slice m4 n4 c4) (.bool t4) (.slice o4 p4 d4))
              replace BXb := hide (BXb.out.put (.bool s4) (.slice m4 n4 c4) (.bool t4) (.slice o4 p4 d4))
              refine hK _ _ (fun _ => HF.out) ?_
              clear hK K hc0 hf0 hc1 hf1 hc2 hf2 hc3 hf3
              generalize ((((ws12.setCell ⟨gb, 0, none⟩ (.bool s4)).setCell ⟨gb, 1, none⟩ (.slice m4 n4 c4)).setCell ⟨gb, 2, none⟩ (.bool t4)).setCell ⟨gb, 3, none⟩ (.slice o4 p4 d4)) = ws13 at *
              refine Calm.done (by kernel_rfl) ?_
              have h := FU.out _ HF.out
              go_wp2
              go_meet
              case rel => exact ⟨ga, s3, m3, n3, c3, t3, o3, p3, d3, gb, s4, m4, n4, c4, t4, o4, p4, d4, rfl, rfl, ⟨LTa.out, LTb.out, by first | exact Nat.ne_of_lt LTab.out | exact Nat.ne_of_gt LTba.out⟩, h.1, h.2.1, h.2.2.1, h.2.2.2.1, h.2.2.2.2.1, h.2.2.2.2.2, BXa.out, BXb.out, TA.out, TB.out⟩
            · go_simp
              have al := below_alloc u3 (.cells #[.bool false, .slice none 0 0, .bool false, .slice none 0 0] 27)
              replace TA := hide (TA.out.below (al))
              replace TE := hide (TE.out.below (al))
              have LTab := hide (BXa.out.lt)
              replace BXa := hide (BXa.out.step al)
              have BXb := hide (Box4.new u3 (.bool false) (.slice none 0 0) (.bool false) (.slice none 0 0))
              have LTb := hide (FL.out _ HF.out)
              replace HF := hide (FS.out _ _ HF.out al)
              refine hK _ _ (fun _ => HF.out) ?_
              clear hK K al
              generalize u3.alloc (.cells #[.bool false, .slice none 0 0, .bool false, .slice none 0 0] 27) = wzb at *
              generalize u3.heap.size = gb at *
              refine Calm.one (i := 9) (l' := #[true, true, true, true, true, true, true, true, true, true, true, true, false, false]) (by kernel_rfl) rfl rfl rfl fun K hK => ?_
              go_simp
              refine (lowest_any _ _ y.num (x.den : Int) _ (FU.out _ HF.out).2.2.2.2.2.num TE.out (SzI.len HY.out.num (by decide)) (SzI.len HX.out.den (by decide)) ZX.out).mono ?_
              rintro e u4 ⟨v, rfl, n, hb⟩
              obtain ⟨s4, m4, n4, c4, t4, o4, p4, d4, rfl, n⟩ := n.cells
              replace TA := hide (TA.out.below (hb))
              clear TE
              replace BXa := hide (BXa.out.step hb)
              replace BXb := hide (BXb.out.step hb)
              have TB := hide (n)
              replace HF := hide (FS.out _ _ HF.out hb)
              refine hK _ _ (fun _ => HF.out) ?_
              clear hK K hb n
              refine Calm.one (i := 12) (l' := #[true, true, true, true, true, true, true, true, true, true, true, true, true, false]) (by kernel_rfl) rfl rfl rfl fun K hK => ?_
              have hc0 := BXa.out.cell0
              have hc1 := BXa.out.cell1
              have hc2 := BXa.out.cell2
              have hc3 := BXa.out.cell3
              have hf0 := BXa.out.free 0
              have hf1 := BXa.out.free 1
              have hf2 := BXa.out.free 2
              have hf3 := BXa.out.free 3
              go_simp
              replace HF := hide (FP4.out _ ga (.bool s3) (.slice m3 n3 c3) (.bool t3) (.slice o3 p3 d3) HF.out BXa.out LTa.out)
              replace TA := hide (TA.out.keep (BXa.out.keeps (by simp) (by simp) (by simp) (by simp) (.bool s3) (.slice m3 n3 c3) (.bool t3) (.slice o3 p3 d3)))
              replace TB := hide (TB.out.keep (BXa.out.keeps (by simp) (by simp) (by simp) (by simp) (.bool s3) (.slice m3 n3 c3) (.bool t3) (.slice o3 p3 d3)))
              replace BXb := hide (BXb.out.other4 (C := ga) (by first | exact Nat.ne_of_lt LTab.out | exact Nat.ne_of_gt LTba.out) (.bool s3) (.slice m3 n3 c3) (.bool t3) (.slice o3 p3 d3))
              replace BXa := hide (BXa.out.put (.bool s3) (.slice m3 n3 c3) (.bool t3) (.slice o3 p3 d3))
              refine hK _ _ (fun _ => HF.out) ?_
              clear hK K hc0 hf0 hc1 hf1 hc2 hf2 hc3 hf3
              generalize ((((u4.setCell ⟨ga, 0, none⟩ (.bool s3)).setCell ⟨ga, 1, none⟩ (.slice m3 n3 c3)).setCell ⟨ga, 2, none⟩ (.bool t3)).setCell ⟨ga, 3, none⟩ (.slice o3 p3 d3)) = ws12 at *
              refine Calm.one (i := 13) (l' := #[true, true, true, true, true, true, true, true, true, true, true, true, true, true]) (by kernel_rfl) rfl rfl rfl fun K hK => ?_
              have hc0 := BXb.out.cell0
              have hc1 := BXb.out.cell1
              have hc2 := BXb.out.cell2
              have hc3 := BXb.out.cell3
              have hf0 := BXb.out.free 0
              have hf1 := BXb.out.free 1
              have hf2 := BXb.out.free 2
              have hf3 := BXb.out.free 3
              go_simp
              replace HF := hide (FP4.out _ gb (.bool s4) (.slice m4 n4 c4) (.bool t4) (.slice o4 p4 d4) HF.out BXb.out LTb.out)
              replace TA := hide (TA.out.keep (BXb.out.keeps (by simp) (by simp) (by simp) (by simp) (.bool s4) (.slice m4 n4 c4) (.bool t4) (.slice o4 p4 d4)))
              replace TB := hide (TB.out.keep (BXb.out.keeps (by simp) (by simp) (by simp) (by simp) (.bool s4) (.slice m4 n4 c4) (.bool t4) (.slice o4 p4 d4)))
              replace BXa := hide (BXa.out.other4 (C := gb) (by first | exact Nat.ne_of_lt LTba.out | exact Nat.ne_of_gt LTab.out) (.bool s4) (.slice m4 n4 c4) (.bool t4) (.slice o4 p4 d4))
              replace BXb := hide (BXb.out.put (.bool s4) (.slice m4 n4 c4) (.bool t4) (.slice o4 p4 d4))
              refine hK _ _ (fun _ => HF.out) ?_
              clear hK K hc0 hf0 hc1 hf1 hc2 hf2 hc3 hf3
              generalize ((((ws12.setCell ⟨gb, 0, none⟩ (.bool s4)).setCell ⟨gb, 1, none⟩ (.slice m4 n4 c4)).setCell ⟨gb, 2, none⟩ (.bool t4)).setCell ⟨gb, 3, none⟩ (.slice o4 p4 d4)) = ws13 at *
              refine Calm.done (by kernel_rfl) ?_
              have h := FU.out _ HF.out
              go_wp2
              go_meet
              case rel => exact ⟨ga, s3, m3, n3, c3, t3, o3, p3, d3, gb, s4, m4, n4, c4, t4, o4, p4, d4, rfl, rfl, ⟨LTa.out, LTb.out, by first | exact Nat.ne_of_lt LTab.out | exact Nat.ne_of_gt LTba.out⟩, h.1, h.2.1, h.2.2.1, h.2.2.2.1, h.2.2.2.2.1, h.2.2.2.2.2, BXa.out, BXb.out, TA.out, TB.out⟩
          · go_simp
            have al := below_alloc wza (.cells #[.bool false, .slice none 0 0, .bool false, .slice none 0 0] 27)
            replace TA := hide (TA.out.below (al))
            have LTab := hide (BXa.out.lt)
            replace BXa := hide (BXa.out.step al)
            have BXb := hide (Box4.new wza (.bool false) (.slice none 0 0) (.bool false) (.slice none 0 0))
            have LTb := hide (FL.out _ HF.out)
            replace HF := hide (FS.out _ _ HF.out al)
            refine hK _ _ (fun _ => HF.out) ?_
            clear hK K al
            generalize wza.alloc (.cells #[.bool false, .slice none 0 0, .bool false, .slice none 0 0] 27) = wzb at *
            generalize wza.heap.size = gb at *
            refine Calm.one (i := 8) (l' := #[true, true, true, true, true, true, true, true, true, false, true, true, false, false]) (by kernel_rfl) rfl rfl rfl fun K hK => ?_
            go_simp
            refine (den_any _ x _ (FU.out _ HF.out).2.2.2.2.1).mono ?_
            rintro e u3 ⟨v, rfl, n, hb⟩
            replace TA := hide (TA.out.below (hb))
            replace BXa := hide (BXa.out.step hb)
            replace BXb := hide (BXb.out.step hb)
            have TE := hide (n)
            replace HF := hide (FS.out _ _ HF.out hb)
            refine hK _ _ (fun _ => HF.out) ?_
            clear hK K hb n
            refine Calm.one (i := 9) (l' := #[true, true, true, true, true, true, true, true, true, true, true, true, false, false]) (by kernel_rfl) rfl rfl rfl fun K hK => ?_
            go_simp
            refine (lowest_any _ _ y.num (x.den : Int) _ (FU.out _ HF.out).2.2.2.2.2.num TE.out (SzI.len HY.out.num (by decide)) (SzI.len HX.out.den (by decide)) ZX.out).mono ?_
            rintro e u4 ⟨v, rfl, n, hb⟩
            obtain ⟨s4, m4, n4, c4, t4, o4, p4, d4, rfl, n⟩ := n.cells
            replace TA := hide (TA.out.below (hb))
            clear TE
            replace BXa := hide (BXa.out.step hb)
            replace BXb := hide (BXb.out.step hb)
            have TB := hide (n)
            replace HF := hide (FS.out _ _ HF.out hb)
            refine hK _ _ (fun _ => HF.out) ?_
            clear hK K hb n
            refine Calm.one (i := 12) (l' := #[true, true, true, true, true, true, true, true, true, true, true, true, true, false]) (by kernel_rfl) rfl rfl rfl fun K hK => ?_
            have hc0 := BXa.out.cell0
            have hc1 := BXa.out.cell1
            have hc2 := BXa.out.cell2
            have hc3 := BXa.out.cell3
            have hf0 := BXa.out.free 0
            have hf1 := BXa.out.free 1
            have hf2 := BXa.out.free 2
            have hf3 := BXa.out.free 3
            go_simp
            replace HF := hide (FP4.out _ ga (.bool s3) (.slice m3 n3 c3) (.bool t3) (.slice o3 p3 d3) HF.out BXa.out LTa.out)
            replace TA := hide (TA.out.keep (BXa.out.keeps (by simp) (by simp) (by simp) (by simp) (.bool s3) (.slice m3 n3 c3) (.bool t3) (.slice o3 p3 d3)))
            replace TB := hide (TB.out.keep (BXa.out.keeps (by simp) (by simp) (by simp) (by simp) (.bool s3) (.slice m3 n3 c3) (.bool t3) (.slice o3 p3 d3)))
            replace BXb := hide (BXb.out.other4 (C := ga) (by first | exact Nat.ne_of_lt LTab.out | exact Nat.ne_of_gt LTba.out) (.bool s3) (.slice m3 n3 c3) (.bool t3) (.slice o3 p3 d3))
            replace BXa := hide (BXa.out.put (.bool s3) (.slice m3 n3 c3) (.bool t3) (.slice o3 p3 d3))
            refine hK _ _ (fun _ => HF.out) ?_
            clear hK K hc0 hf0 hc1 hf1 hc2 hf2 hc3 hf3
            generalize ((((u4.setCell ⟨ga, 0, none⟩ (.bool s3)).setCell ⟨ga, 1, none⟩ (.slice m3 n3 c3)).setCell ⟨ga, 2, none⟩ (.bool t3)).setCell ⟨ga, 3, none⟩ (.slice o3 p3 d3)) = ws12 at *
            refine Calm.one (i := 13) (l' := #[true, true, true, true, true, true, true, true, true, true, true, true, true, true]) (by kernel_rfl) rfl rfl rfl fun K hK => ?_
            have hc0 := BXb.out.cell0
            have hc1 := BXb.out.cell1
            have hc2 := BXb.out.cell2
            have hc3 := BXb.out.cell3
            have hf0 := BXb.out.free 0
            have hf1 := BXb.out.free 1
            have hf2 := BXb.out.free 2
            have hf3 := BXb.out.free 3
            go_simp
            replace HF := hide (FP4.out _ gb (.bool s4) (.slice m4 n4 c4) (.bool t4) (.slice o4 p4 d4) HF.out BXb.out LTb.out)
            replace TA := hide (TA.out.keep (BXb.out.keeps (by simp) (by simp) (by simp) (by simp) (.bool s4) (.slice m4 n4 c4) (.bool t4) (.slice o4 p4 d4)))
            replace TB := hide (TB.out.keep (BXb.out.keeps (by simp) (by simp) (by simp) (by simp) (.bool s4) (.slice m4 n4 c4) (.bool t4) (.slice o4 p4 d4)))
            replace BXa := hide (BXa.out.other4 (C := gb) (by first | exact Nat.ne_of_lt LTba.out | exact Nat.ne_of_gt LTab.out) (.bool s4) (.slice m4 n4 c4) (.bool t4) (.slice o4 p4 d4))
            replace BXb := hide (BXb.out.put (.bool s4) (.slice m4 n4 c4) (.bool t4) (.slice o4 p4 d4))
            refine hK _ _ (fun _ => HF.out) ?_
            clear hK K hc0 hf0 hc1 hf1 hc2 hf2 hc3 hf3
            generalize ((((ws12.setCell ⟨gb, 0, none⟩ (.bool s4)).setCell ⟨gb, 1, none⟩ (.slice m4 n4 c4)).setCell ⟨gb, 2, none⟩ (.bool t4)).setCell ⟨gb, 3, none⟩ (.slice o4 p4 d4)) = ws13 at *
            refine Calm.done (by kernel_rfl) ?_
            have h := FU.out _ HF.out
            go_wp2
            go_meet
            case rel => exact ⟨ga, s3, m3, n3, c3, t3, o3, p3, d3, gb, s4, m4, n4, c4, t4, o4, p4, d4, rfl, rfl, ⟨LTa.out, LTb.out, by first | exact Nat.ne_of_lt LTab.out | exact Nat.ne_of_gt LTba.out⟩, h.1, h.2.1, h.2.2.1, h.2.2.2.1, h.2.2.2.2.1, h.2.2.2.2.2, BXa.out, BXb.out, TA.out, TB.out⟩
        · go_simp
          have al := below_alloc u2 (.cells #[.bool false, .slice none 0 0, .bool false, .slice none 0 0] 27)
          replace TA := hide (TA.out.below (al))
          have BXb := hide (Box4.new u2 (.bool false) (.slice none 0 0) (.bool false) (.slice none 0 0))
          have LTb := hide (FL.out _ HF.out)
          replace HF := hide (FS.out _ _ HF.out al)
          refine hK _ _ (fun _ => HF.out) ?_
          clear hK K al
          generalize u2.alloc (.cells #[.bool false, .slice none 0 0, .bool false, .slice none 0 0] 27) = wzb at *
          generalize u2.heap.size = gb at *
          refine Calm.two (i := 8) (j := 10) (l := #[true, true, true, true, true, true, true, true, true, false, false, true, false, false]) (l' := #[true, true, true, true, true, true, true, true, false, false, true, true, false, false]) (by kernel_rfl) rfl rfl rfl rfl rfl rfl (fun K hK => ?_) (fun K hK => ?_)
          · go_simp
            refine (den_any _ x _ (FU.out _ HF.out).2.2.2.2.1).mono ?_
            rintro e u3 ⟨v, rfl, n, hb⟩
            replace TA := hide (TA.out.below (hb))
            replace BXb := hide (BXb.out.step hb)
            have TE := hide (n)
            replace HF := hide (FS.out _ _ HF.out hb)
            refine hK _ _ (fun _ => HF.out) ?_
            clear hK K hb n
            refine Calm.two (i := 9) (j := 10) (l := #[true, true, true, true, true, true, true, true, true, true, false, true, false, false]) (l' := #[true, true, true, true, true, true, true, true, true, false, true, true, false, false]) (by kernel_rfl) rfl rfl rfl rfl rfl rfl (fun K hK => ?_) (fun K hK => ?_)
            · go_simp
              refine (lowest_any _ _ y.num (x.den : Int) _ (FU.out _ HF.out).2.2.2.2.2.num TE.out (SzI.len HY.out.num (by decide)) (SzI.len HX.out.den (by decide)) ZX.out).mono ?_
              rintro e u4 ⟨v, rfl, n, hb⟩
              obtain ⟨s4, m4, n4, c4, t4, o4, p4, d4, rfl, n⟩ := n.cells
              replace TA := hide (TA.out.below (hb))
              clear TE
              replace BXb := hide (BXb.out.step hb)
              have TB := hide (n)
              replace HF := hide (FS.out _ _ HF.out hb)
              refine hK _ _ (fun _ => HF.out) ?_
              clear hK K hb n
              refine Calm.one (i := 10) (l' := #[true, true, true, true, true, true, true, true, true, true, true, true, false, false]) (by kernel_rfl) rfl rfl rfl fun K hK => ?_
              go_simp
              have al := below_alloc u4 (.cells #[.bool false, .slice none 0 0, .bool false, .slice none 0 0] 27)
              replace TA := hide (TA.out.below (al))
              replace TB := hide (TB.out.below (al))
              have LTba := hide (BXb.out.lt)
              replace BXb := hide (BXb.out.step al)
              have BXa := hide (Box4.new u4 (.bool false) (.slice none 0 0) (.bool false) (.slice none 0 0))
              have LTa := hide (FL.out _ HF.out)
              replace HF := hide (FS.out _ _ HF.out al)
              refine hK _ _ (fun _ => HF.out) ?_
              clear hK K al
              generalize u4.alloc (.cells #[.bool false, .slice none 0 0, .bool false, .slice none 0 0] 27) = wza at *
              generalize u4.heap.size = ga at *
              refine Calm.one (i := 12) (l' := #[true, true, true, true, true, true, true, true, true, true, true, true, true, false]) (by kernel_rfl) rfl rfl rfl fun K hK => ?_
              have hc0 := BXa.out.cell0
              have hc1 := BXa.out.cell1
              have hc2 := BXa.out.cell2
              have hc3 := BXa.out.cell3
              have hf0 := BXa.out.free 0
              have hf1 := BXa.out.free 1
              have hf2 := BXa.out.free 2
              have hf3 := BXa.out.free 3
              go_simp
              replace HF := hide (FP4.out _ ga (.bool s3) (.slice m3 n3 c3) (.bool t3) (.slice o3 p3 d3) HF.out BXa.out LTa.out)
              replace TA := hide (TA.out.keep (BXa.out.keeps (by simp) (by simp) (by simp) (by simp) (.bool s3) (.slice m3 n3 c3) (.bool t3) (.slice o3 p3 d3)))
              replace TB := hide (TB.out.keep (BXa.out.keeps (by simp) (by simp) (by simp) (by simp) (.bool s3) (.slice m3 n3 c3) (.bool t3) (.slice o3 p3 d3)))
              replace BXb := hide (BXb.out.other4 (C := ga) (by first | exact Nat.ne_of_lt LTab.out | exact Nat.ne_of_gt LTba.out) (.bool s3) (.slice m3 n3 c3) (.bool t3) (.slice o3 p3 d3))
              replace BXa := hide (BXa.out.put (.bool s3) (.slice m3 n3 c3) (.bool t3) (.slice o3 p3 d3))
              refine hK _ _ (fun _ => HF.out) ?_
              clear hK K hc0 hf0 hc1 hf1 hc2 hf2 hc3 hf3
              generalize ((((wza.setCell ⟨ga, 0, none⟩ (.bool s3)).setCell ⟨ga, 1, none⟩ (.slice m3 n3 c3)).setCell ⟨ga, 2, none⟩ (.bool t3)).setCell ⟨ga, 3, none⟩ (.slice o3 p3 d3)) = ws12 at *
              refine Calm.one (i := 13) (l' := #[true, true, true, true, true, true, true, true, true, true, true, true, true, true]) (by kernel_rfl) rfl rfl rfl fun K hK => ?_
              have hc0 := BXb.out.cell0
              have hc1 := BXb.out.cell1
              have hc2 := BXb.out.cell2
              have hc3 := BXb.out.cell3
              have hf0 := BXb.out.free 0
              have hf1 := BXb.out.free 1
              have hf2 := BXb.out.free 2
              have hf3 := BXb.out.free 3
              go_simp
              replace HF := hide (FP4.out _ gb (.bool s4) (.slice m4 n4 c4) (.bool t4) (.slice o4 p4 d4) HF.out BXb.out LTb.out)
              replace TA := hide (TA.out.keep (BXb.out.keeps (by simp) (by simp) (by simp) (by simp) (.bool s4) (.slice m4 n4 c4) (.bool t4) (.slice o4 p4 d4)))
              replace TB := hide (TB.out.keep (BXb.out.keeps (by simp) (by simp) (by simp) (by simp) (.bool s4) (.slice m4 n4 c4) (.bool t4) (.slice o4 p4 d4)))
              replace BXa := hide (BXa.out.other4 (C := gb) (by first | exact Nat.ne_of_lt LTba.out | exact Nat.ne_of_gt LTab.out) (.bool s4) (.slice m4 n4 c4) (.bool t4) (.slice o4 p4 d4))
              replace BXb := hide (BXb.out.put (.bool s4) (.slice m4 n4 c4) (.bool t4) (.slice o4 p4 d4))
              refine hK _ _ (fun _ => HF.out) ?_
              clear hK K hc0 hf0 hc1 hf1 hc2 hf2 hc3 hf3
              generalize ((((ws12.setCell ⟨gb, 0, none⟩ (.bool s4)).setCell ⟨gb, 1, none⟩ (.slice m4 n4 c4)).setCell ⟨gb, 2, none⟩ (.bool t4)).setCell ⟨gb, 3, none⟩ (.slice o4 p4 d4)) = ws13 at *
              refine Calm.done (by kernel_rfl) ?_
              have h := FU.out _ HF.out
              go_wp2
              go_meet
              case rel => exact ⟨ga, s3, m3, n3, c3, t3, o3, p3, d3, gb, s4, m4, n4, c4, t4, o4, p4, d4, rfl, rfl, ⟨LTa.out, LTb.out, by first | exact Nat.ne_of_lt LTab.out | exact Nat.ne_of_gt LTba.out⟩, h.1, h.2.1, h.2.2.1, h.2.2.2.1, h.2.2.2.2.1, h.2.2.2.2.2, BXa.out, BXb.out, TA.out, TB.out⟩
            · go_simp
              have al := below_alloc u3 (.cells #[.bool false, .slice none 0 0, .bool false, .slice none 0 0] 27)
              replace TA := hide (TA.out.below (al))
              replace TE := hide (TE.out.below (al))
              have LTba := hide (BXb.out.lt)
              replace BXb := hide (BXb.out.step al)
              have BXa := hide (Box4.new u3 (.bool false) (.slice none 0 0) (.bool false) (.slice none 0 0))
              have LTa := hide (FL.out _ HF.out)
              replace HF := hide (FS.out _ _ HF.out al)
              refine hK _ _ (fun _ => HF.out) ?_
              clear hK K al
              generalize u3.alloc (.cells #[.bool false, .slice none 0 0, .bool false, .slice none 0 0] 27) = wza at *
              generalize u3.heap.size = ga at *
              refine Calm.one (i := 9) (l' := #[true, true, true, true, true, true, true, true, true, true, true, true, false, false]) (by kernel_rfl) rfl rfl rfl fun K hK => ?_
              go_simp
              refine (lowest_any _ _ y.num (x.den : Int) _ (FU.out _ HF.out).2.2.2.2.2.num TE.out (SzI.len HY.out.num (by decide)) (SzI.len HX.out.den (by decide)) ZX.out).mono ?_
              rintro e u4 ⟨v, rfl, n, hb⟩
              obtain ⟨s4, m4, n4, c4, t4, o4, p4, d4, rfl, n⟩ := n.cells
              replace TA := hide (TA.out.below (hb))
              clear TE
              replace BXb := hide (BXb.out.step hb)
              replace BXa := hide (BXa.out.step hb)
              have TB := hide (n)
              replace HF := hide (FS.out _ _ HF.out hb)
              refine hK _ _ (fun _ => HF.out) ?_
              clear hK K hb n
              refine Calm.one (i := 12) (l' := #[true, true, true, true, true, true, true, true, true, true, true, true, true, false]) (by kernel_rfl) rfl rfl rfl fun K hK => ?_
              have hc0 := BXa.out.cell0
              have hc1 := BXa.out.cell1
              have hc2 := BXa.out.cell2
              have hc3 := BXa.out.cell3
              have hf0 := BXa.out.free 0
              have hf1 := BXa.out.free 1
              have hf2 := BXa.out.free 2
              have hf3 := BXa.out.free 3
              go_simp
              replace HF := hide (FP4.out _ ga (.bool s3) (.slice m3 n3 c3) (.bool t3) (.slice o3 p3 d3) HF.out BXa.out LTa.out)
              replace TA := hide (TA.out.keep (BXa.out.keeps (by simp) (by simp) (by simp) (by simp) (.bool s3) (.slice m3 n3 c3) (.bool t3) (.slice o3 p3 d3)))
              replace TB := hide (TB.out.keep (BXa.out.keeps (by simp) (by simp) (by simp) (by simp) (.bool s3) (.slice m3 n3 c3) (.bool t3) (.slice o3 p3 d3)))
              replace BXb := hide (BXb.out.other4 (C := ga) (by first | exact Nat.ne_of_lt LTab.out | exact Nat.ne_of_gt LTba.out) (.bool s3) (.slice m3 n3 c3) (.bool t3) (.slice o3 p3 d3))
              replace BXa := hide (BXa.out.put (.bool s3) (.slice m3 n3 c3) (.bool t3) (.slice o3 p3 d3))
              refine hK _ _ (fun _ => HF.out) ?_
              clear hK K hc0 hf0 hc1 hf1 hc2 hf2 hc3 hf3
              generalize ((((u4.setCell ⟨ga, 0, none⟩ (.bool s3)).setCell ⟨ga, 1, none⟩ (.slice m3 n3 c3)).setCell ⟨ga, 2, none⟩ (.bool t3)).setCell ⟨ga, 3, none⟩ (.slice o3 p3 d3)) = ws12 at *
              refine Calm.one (i := 13) (l' := #[true, true, true, true, true, true, true, true, true, true, true, true, true, true]) (by kernel_rfl) rfl rfl rfl fun K hK => ?_
              have hc0 := BXb.out.cell0
              have hc1 := BXb.out.cell1
              have hc2 := BXb.out.cell2
              have hc3 := BXb.out.cell3
              have hf0 := BXb.out.free 0
              have hf1 := BXb.out.free 1
              have hf2 := BXb.out.free 2
              have hf3 := BXb.out.free 3
              go_simp
              replace HF := hide (FP4.out _ gb (.bool s4) (.slice m4 n4 c4) (.bool t4) (.slice o4 p4 d4) HF.out BXb.out LTb.out)
              replace TA := hide (TA.out.keep (BXb.out.keeps (by simp) (by simp) (by simp) (by simp) (.bool s4) (.slice m4 n4 c4) (.bool t4) (.slice o4 p4 d4)))
              replace TB := hide (TB.out.keep (BXb.out.keeps (by simp) (by simp) (by simp) (by simp) (.bool s4) (.slice m4 n4 c4) (.bool t4) (.slice o4 p4 d4)))
              replace BXa := hide (BXa.out.other4 (C := gb) (by first | exact Nat.ne_of_lt LTba.out | exact Nat.ne_of_gt LTab.out) (.bool s4) (.slice m4 n4 c4) (.bool t4) (.slice o4 p4 d4))
              replace BXb := hide (BXb.out.put (.bool s4) (.slice m4 n4 c4) (.bool t4) (.slice o4 p4 d4))
              refine hK _ _ (fun _ => HF.out) ?_
              clear hK K hc0 hf0 hc1 hf1 hc2 hf2 hc3 hf3
              generalize ((((ws12.setCell ⟨gb, 0, none⟩ (.bool s4)).setCell ⟨gb, 1, none⟩ (.slice m4 n4 c4)).setCell ⟨gb, 2, none⟩ (.bool t4)).setCell ⟨gb, 3, none⟩ (.slice o4 p4 d4)) = ws13 at *
              refine Calm.done (by kernel_rfl) ?_
              have h := FU.out _ HF.out
              go_wp2
              go_meet
              case rel => exact ⟨ga, s3, m3, n3, c3, t3, o3, p3, d3, gb, s4, m4, n4, c4, t4, o4, p4, d4, rfl, rfl, ⟨LTa.out, LTb.out, by first | exact Nat.ne_of_lt LTab.out | exact Nat.ne_of_gt LTba.out⟩, h.1, h.2.1, h.2.2.1, h.2.2.2.1, h.2.2.2.2.1, h.2.2.2.2.2, BXa.out, BXb.out, TA.out, TB.out⟩
          · go_simp
            have al := below_alloc wzb (.cells #[.bool false, .slice none 0 0, .bool false, .slice none 0 0] 27)
            replace TA := hide (TA.out.below (al))
            have LTba := hide (BXb.out.lt)
            replace BXb := hide (BXb.out.step al)
            have BXa := hide (Box4.new wzb (.bool false) (.slice none 0 0) (.bool false) (.slice none 0 0))
            have LTa := hide (FL.out _ HF.out)
            replace HF := hide (FS.out _ _ HF.out al)
            refine hK _ _ (fun _ => HF.out) ?_
            clear hK K al
            generalize wzb.alloc (.cells #[.bool false, .slice none 0 0, .bool false, .slice none 0 0] 27) = wza at *
            generalize wzb.heap.size = ga at *
            refine Calm.one (i := 8) (l' := #[true, true, true, true, true, true, true, true, true, false, true, true, false, false]) (by kernel_rfl) rfl rfl rfl fun K hK => ?_
            go_simp
            refine (den_any _ x _ (FU.out _ HF.out).2.2.2.2.1).mono ?_
            rintro e u3 ⟨v, rfl, n, hb⟩
            replace TA := hide (TA.out.below (hb))
            replace BXb := hide (BXb.out.step hb)
            replace BXa := hide (BXa.out.step hb)
            have TE := hide (n)
            replace HF := hide (FS.out _ _ HF.out hb)
            refine hK _ _ (fun _ => HF.out) ?_
            clear hK K hb n
            refine Calm.one (i := 9) (l' := #[true, true, true, true, true, true, true, true, true, true, true, true, false, false]) (by kernel_rfl) rfl rfl rfl fun K hK => ?_
            go_simp
            refine (lowest_any _ _ y.num (x.den : Int) _ (FU.out _ HF.out).2.2.2.2.2.num TE.out (SzI.len HY.out.num (by decide)) (SzI.len HX.out.den (by decide)) ZX.out).mono ?_
            rintro e u4 ⟨v, rfl, n, hb⟩
            obtain ⟨s4, m4, n4, c4, t4, o4, p4, d4, rfl, n⟩ := n.cells
            replace TA := hide (TA.out.below (hb))
            clear TE
            replace BXb := hide (BXb.out.step hb)
            replace BXa := hide (BXa.out.step hb)
            have TB := hide (n)
            replace HF := hide (FS.out _ _ HF.out hb)
            refine hK _ _ (fun _ => HF.out) ?_
            clear hK K hb n
            refine Calm.one (i := 12) (l' := #[true, true, true, true, true, true, true, true, true, true, true, true, true, false]) (by kernel_rfl) rfl rfl rfl fun K hK => ?_
            have hc0 := BXa.out.cell0
            have hc1 := BXa.out.cell1
            have hc2 := BXa.out.cell2
            have hc3 := BXa.out.cell3
            have hf0 := BXa.out.free 0
            have hf1 := BXa.out.free 1
            have hf2 := BXa.out.free 2
            have hf3 := BXa.out.free 3
            go_simp
            replace HF := hide (FP4.out _ ga (.bool s3) (.slice m3 n3 c3) (.bool t3) (.slice o3 p3 d3) HF.out BXa.out LTa.out)
            replace TA := hide (TA.out.keep (BXa.out.keeps (by simp) (by simp) (by simp) (by simp) (.bool s3) (.slice m3 n3 c3) (.bool t3) (.slice o3 p3 d3)))
            replace TB := hide (TB.out.keep (BXa.out.keeps (by simp) (by simp) (by simp) (by simp) (.bool s3) (.slice m3 n3 c3) (.bool t3) (.slice o3 p3 d3)))
            replace BXb := hide (BXb.out.other4 (C := ga) (by first | exact Nat.ne_of_lt LTab.out | exact Nat.ne_of_gt LTba.out) (.bool s3) (.slice m3 n3 c3) (.bool t3) (.slice o3 p3 d3))
            replace BXa := hide (BXa.out.put (.bool s3) (.slice m3 n3 c3) (.bool t3) (.slice o3 p3 d3))
            refine hK _ _ (fun _ => HF.out) ?_
            clear hK K hc0 hf0 hc1 hf1 hc2 hf2 hc3 hf3
            generalize ((((u4.setCell ⟨ga, 0, none⟩ (.bool s3)).setCell ⟨ga, 1, none⟩ (.slice m3 n3 c3)).setCell ⟨ga, 2, none⟩ (.bool t3)).setCell ⟨ga, 3, none⟩ (.slice o3 p3 d3)) = ws12 at *
            refine Calm.one (i := 13) (l' := #[true, true, true, true, true, true, true, true, true, true, true, true, true, true]) (by kernel_rfl) rfl rfl rfl fun K hK => ?_
            have hc0 := BXb.out.cell0
            have hc1 := BXb.out.cell1
            have hc2 := BXb.out.cell2
            have hc3 := BXb.out.cell3
            have hf0 := BXb.out.free 0
            have hf1 := BXb.out.free 1
            have hf2 := BXb.out.free 2
            have hf3 := BXb.out.free 3
            go_simp
            replace HF := hide (FP4.out _ gb (.bool s4) (.slice m4 n4 c4) (.bool t4) (.slice o4 p4 d4) HF.out BXb.out LTb.out)
            replace TA := hide (TA.out.keep (BXb.out.keeps (by simp) (by simp) (by simp) (by simp) (.bool s4) (.slice m4 n4 c4) (.bool t4) (.slice o4 p4 d4)))
            replace TB := hide (TB.out.keep (BXb.out.keeps (by simp) (by simp) (by simp) (by simp) (.bool s4) (.slice m4 n4 c4) (.bool t4) (.slice o4 p4 d4)))
            replace BXa := hide (BXa.out.other4 (C := gb) (by first | exact Nat.ne_of_lt LTba.out | exact Nat.ne_of_gt LTab.out) (.bool s4) (.slice m4 n4 c4) (.bool t4) (.slice o4 p4 d4))
            replace BXb := hide (BXb.out.put (.bool s4) (.slice m4 n4 c4) (.bool t4) (.slice o4 p4 d4))
            refine hK _ _ (fun _ => HF.out) ?_
            clear hK K hc0 hf0 hc1 hf1 hc2 hf2 hc3 hf3
            generalize ((((ws12.setCell ⟨gb, 0, none⟩ (.bool s4)).setCell ⟨gb, 1, none⟩ (.slice m4 n4 c4)).setCell ⟨gb, 2, none⟩ (.bool t4)).setCell ⟨gb, 3, none⟩ (.slice o4 p4 d4)) = ws13 at *
            refine Calm.done (by kernel_rfl) ?_
            have h := FU.out _ HF.out
            go_wp2
            go_meet
            case rel => exact ⟨ga, s3, m3, n3, c3, t3, o3, p3, d3, gb, s4, m4, n4, c4, t4, o4, p4, d4, rfl, rfl, ⟨LTa.out, LTb.out, by first | exact Nat.ne_of_lt LTab.out | exact Nat.ne_of_gt LTba.out⟩, h.1, h.2.1, h.2.2.1, h.2.2.2.1, h.2.2.2.2.1, h.2.2.2.2.2, BXa.out, BXb.out, TA.out, TB.out⟩
      · go_simp
        have al := below_alloc u1 (.cells #[.bool false, .slice none 0 0, .bool false, .slice none 0 0] 27)
        replace TD := hide (TD.out.below (al))
        have BXa := hide (Box4.new u1 (.bool false) (.slice none 0 0) (.bool false) (.slice none 0 0))
        have LTa := hide (FL.out _ HF.out)
        replace HF := hide (FS.out _ _ HF.out al)
        refine hK _ _ (fun _ => HF.out) ?_
        clear hK K al
        generalize u1.alloc (.cells #[.bool false, .slice none 0 0, .bool false, .slice none 0 0] 27) = wza at *
        generalize u1.heap.size = ga at *
        refine Calm.two (i := 4) (j := 11) (l := #[true, true, true, true, true, true, true, true, false, false, true, false, false, false]) (l' := #[true, true, true, true, false, true, true, true, false, false, true, true, false, false]) (by kernel_rfl) rfl rfl rfl rfl rfl rfl (fun K hK => ?_) (fun K hK => ?_)
        · go_simp
          refine (lowest_any _ _ x.num (y.den : Int) _ (FU.out _ HF.out).2.2.2.2.1.num TD.out (SzI.len HX.out.num (by decide)) (SzI.len HY.out.den (by decide)) ZY.out).mono ?_
          rintro e u2 ⟨v, rfl, n, hb⟩
          obtain ⟨s3, m3, n3, c3, t3, o3, p3, d3, rfl, n⟩ := n.cells
          clear TD
          replace BXa := hide (BXa.out.step hb)
          have TA := hide (n)
          replace HF := hide (FS.out _ _ HF.out hb)
          refine hK _ _ (fun _ => HF.out) ?_
          clear hK K hb n
          refine Calm.two (i := 8) (j := 11) (l := #[true, true, true, true, true, true, true, true, true, false, true, false, false, false]) (l' := #[true, true, true, true, true, true, true, true, false, false, true, true, false, false]) (by kernel_rfl) rfl rfl rfl rfl rfl rfl (fun K hK => ?_) (fun K hK => ?_)
          · go_simp
            refine (den_any _ x _ (FU.out _ HF.out).2.2.2.2.1).mono ?_
            rintro e u3 ⟨v, rfl, n, hb⟩
            replace TA := hide (TA.out.below (hb))
            replace BXa := hide (BXa.out.step hb)
            have TE := hide (n)
            replace HF := hide (FS.out _ _ HF.out hb)
            refine hK _ _ (fun _ => HF.out) ?_
            clear hK K hb n
            refine Calm.two (i := 9) (j := 11) (l := #[true, true, true, true, true, true, true, true, true, true, true, false, false, false]) (l' := #[true, true, true, true, true, true, true, true, true, false, true, true, false, false]) (by kernel_rfl) rfl rfl rfl rfl rfl rfl (fun K hK => ?_) (fun K hK => ?_)
            · go_simp
              refine (lowest_any _ _ y.num (x.den : Int) _ (FU.out _ HF.out).2.2.2.2.2.num TE.out (SzI.len HY.out.num (by decide)) (SzI.len HX.out.den (by decide)) ZX.out).mono ?_
              rintro e u4 ⟨v, rfl, n, hb⟩
              obtain ⟨s4, m4, n4, c4, t4, o4, p4, d4, rfl, n⟩ := n.cells
              replace TA := hide (TA.out.below (hb))
              clear TE
              replace BXa := hide (BXa.out.step hb)
              have TB := hide (n)
              replace HF := hide (FS.out _ _ HF.out hb)
              refine hK _ _ (fun _ => HF.out) ?_
              clear hK K hb n
              refine Calm.one (i := 11) (l' := #[true, true, true, true, true, true, true, true, true, true, true, true, false, false]) (by kernel_rfl) rfl rfl rfl fun K hK => ?_
              go_simp
              have al := below_alloc u4 (.cells #[.bool false, .slice none 0 0, .bool false, .slice none 0 0] 27)
              replace TA := hide (TA.out.below (al))
              replace TB := hide (TB.out.below (al))
              have LTab := hide (BXa.out.lt)
              replace BXa := hide (BXa.out.step al)
              have BXb := hide (Box4.new u4 (.bool false) (.slice none 0 0) (.bool false) (.slice none 0 0))
              have LTb := hide (FL.out _ HF.out)
              replace HF := hide (FS.out _ _ HF.out al)
              refine hK _ _ (fun _ => HF.out) ?_
              clear hK K al
              generalize u4.alloc (.cells #[.bool false, .slice none 0 0, .bool false, .slice none 0 0] 27) = wzb at *
              generalize u4.heap.size = gb at *
              refine Calm.one (i := 12) (l' := #[true, true, true, true, true, true, true, true, true, true, true, true, true, false]) (by kernel_rfl) rfl rfl rfl fun K hK => ?_
              have hc0 := BXa.out.cell0
              have hc1 := BXa.out.cell1
              have hc2 := BXa.out.cell2
              have hc3 := BXa.out.cell3
              have hf0 := BXa.out.free 0
              have hf1 := BXa.out.free 1
              have hf2 := BXa.out.free 2
              have hf3 := BXa.out.free 3
              go_simp
              replace HF := hide (FP4.out _ ga (.bool s3) (.slice m3 n3 c3) (.bool t3) (.slice o3 p3 d3) HF.out BXa.out LTa.out)
              replace TA := hide (TA.out.keep (BXa.out.keeps (by simp) (by simp) (by simp) (by simp) (.bool s3) (.slice m3 n3 c3) (.bool t3) (.slice o3 p3 d3)))
              replace TB := hide (TB.out.keep (BXa.out.keeps (by simp) (by simp) (by simp) (by simp) (.bool s3) (.slice m3 n3 c3) (.bool t3) (.slice o3 p3 d3)))
              replace BXb := hide (BXb.out.other4 (C := ga) (by first | exact Nat.ne_of_lt LTab.out | exact Nat.ne_of_gt LTba.out) (.bool s3) (.slice m3 n3 c3) (.bool t3) (.slice o3 p3 d3))
              replace BXa := hide (BXa.out.put (.bool s3) (.slice m3 n3 c3) (.bool t3) (.slice o3 p3 d3))
              refine hK _ _ (fun _ => HF.out) ?_
              clear hK K hc0 hf0 hc1 hf1 hc2 hf2 hc3 hf3
              generalize ((((wzb.setCell ⟨ga, 0, none⟩ (.bool s3)).setCell ⟨ga, 1, none⟩ (.slice m3 n3 c3)).setCell ⟨ga, 2, none⟩ (.bool t3)).setCell ⟨ga, 3, none⟩ (.slice o3 p3 d3)) = ws12 at *
              refine Calm.one (i := 13) (l' := #[true, true, true, true, true, true, true, true, true, true, true, true, true, true]) (by kernel_rfl) rfl rfl rfl fun K hK => ?_
              have hc0 := BXb.out.cell0
              have hc1 := BXb.out.cell1
              have hc2 := BXb.out.cell2
              have hc3 := BXb.out.cell3
              have hf0 := BXb.out.free 0
              have hf1 := BXb.out.free 1
              have hf2 := BXb.out.free 2
              have hf3 := BXb.out.free 3
              go_simp
              replace HF := hide (FP4.out _ gb (.bool s4) (.slice m4 n4 c4) (.bool t4) (.slice o4 p4 d4) HF.out BXb.out LTb.out)
              replace TA := hide (TA.out.keep (BXb.out.keeps (by simp) (by simp) (by simp) (by simp) (.bool s4) (.slice m4 n4 c4) (.bool t4) (.slice o4 p4 d4)))
              replace TB := hide (TB.out.keep (BXb.out.keeps (by simp) (by simp) (by simp) (by simp) (.bool s4) (.slice m4 n4 c4) (.bool t4) (.slice o4 p4 d4)))
              replace BXa := hide (BXa.out.other4 (C := gb) (by first | exact Nat.ne_of_lt LTba.out | exact Nat.ne_of_gt LTab.out) (.bool s4) (.slice m4 n4 c4) (.bool t4) (.slice o4 p4 d4))
              replace BXb := hide (BXb.out.put (.bool s4) (.slice m4 n4 c4) (.bool t4) (.slice o4 p4 d4))
              refine hK _ _ (fun _ => HF.out) ?_
              clear hK K hc0 hf0 hc1 hf1 hc2 hf2 hc3 hf3
              generalize ((((ws12.setCell ⟨gb, 0, none⟩ (.bool s4)).setCell ⟨gb, 1, none⟩ (.slice m4 n4 c4)).setCell ⟨gb, 2, none⟩ (.bool t4)).setCell ⟨gb, 3, none⟩ (.slice o4 p4 d4)) = ws13 at *
              refine Calm.done (by kernel_rfl) ?_
              have h := FU.out _ HF.out
              go_wp2
              go_meet
              case rel => exact ⟨ga, s3, m3, n3, c3, t3, o3, p3, d3, gb, s4, m4, n4, c4, t4, o4, p4, d4, rfl, rfl, ⟨LTa.out, LTb.out, by first | exact Nat.ne_of_lt LTab.out | exact Nat.ne_of_gt LTba.out⟩, h.1, h.2.1, h.2.2.1, h.2.2.2.1, h.2.2.2.2.1, h.2.2.2.2.2, BXa.out, BXb.out, TA.out, TB.out⟩
            · go_simp
              have al := below_alloc u3 (.cells #[.bool false, .slice none 0 0, .bool false, .slice none 0 0] 27)
              replace TA := hide (TA.out.below (al))
              replace TE := hide (TE.out.below (al))
              have LTab := hide (BXa.out.lt)
              replace BXa := hide (BXa.out.step al)
              have BXb := hide (Box4.new u3 (.bool false) (.slice none 0 0) (.bool false) (.slice none 0 0))
              have LTb := hide (FL.out _ HF.out)
              replace HF := hide (FS.out _ _ HF.out al)
              refine hK _ _ (fun _ => HF.out) ?_
              clear hK K al
              generalize u3.alloc (.cells #[.bool false, .slice none 0 0, .bool false, .slice none 0 0] 27) = wzb at *
              generalize u3.heap.size = gb at *
              refine Calm.one (i := 9) (l' := #[true, true, true, true, true, true, true, true, true, true, true, true, false, false]) (by kernel_rfl) rfl rfl rfl fun K hK => ?_
              go_simp
              refine (lowest_any _ _ y.num (x.den : Int) _ (FU.out _ HF.out).2.2.2.2.2.num TE.out (SzI.len HY.out.num (by decide)) (SzI.len HX.out.den (by decide)) ZX.out).mono ?_
              rintro e u4 ⟨v, rfl, n, hb⟩
              obtain ⟨s4, m4, n4, c4, t4, o4, p4, d4, rfl, n⟩ := n.cells
              replace TA := hide (TA.out.below (hb))
              clear TE
              replace BXa := hide (BXa.out.step hb)
              replace BXb := hide (BXb.out.step hb)
              have TB := hide (n)
              replace HF := hide (FS.out _ _ HF.out hb)
              refine hK _ _ (fun _ => HF.out) ?_
              clear hK K hb n
              refine Calm.one (i := 12) (l' := #[true, true, true, true, true, true, true, true, true, true, true, true, true, false]) (by kernel_rfl) rfl rfl rfl fun K hK => ?_
              have hc0 := BXa.out.cell0
              have hc1 := BXa.out.cell1
              have hc2 := BXa.out.cell2
              have hc3 := BXa.out.cell3
              have hf0 := BXa.out.free 0
              have hf1 := BXa.out.free 1
              have hf2 := BXa.out.free 2
              have hf3 := BXa.out.free 3
              go_simp
              replace HF := hide (FP4.out _ ga (.bool s3) (.slice m3 n3 c3) (.bool t3) (.slice o3 p3 d3) HF.out BXa.out LTa.out)
              replace TA := hide (TA.out.keep (BXa.out.keeps (by simp) (by simp) (by simp) (by simp) (.bool s3) (.slice m3 n3 c3) (.bool t3) (.slice o3 p3 d3)))
              replace TB := hide (TB.out.keep (BXa.out.keeps (by simp) (by simp) (by simp) (by simp) (.bool s3) (.slice m3 n3 c3) (.bool t3) (.slice o3 p3 d3)))
              replace BXb := hide (BXb.out.other4 (C := ga) (by first | exact Nat.ne_of_lt LTab.out | exact Nat.ne_of_gt LTba.out) (.bool s3) (.slice m3 n3 c3) (.bool t3) (.slice o3 p3 d3))
              replace BXa := hide (BXa.out.put (.bool s3) (.slice m3 n3 c3) (.bool t3) (.slice o3 p3 d3))
              refine hK _ _ (fun _ => HF.out) ?_
              clear hK K hc0 hf0 hc1 hf1 hc2 hf2 hc3 hf3
              generalize ((((u4.setCell ⟨ga, 0, none⟩ (.bool s3)).setCell ⟨ga, 1, none⟩ (.slice m3 n3 c3)).setCell ⟨ga, 2, none⟩ (.bool t3)).setCell ⟨ga, 3, none⟩ (.slice o3 p3 d3)) = ws12 at *
              refine Calm.one (i := 13) (l' := #[true, true, true, true, true, true, true, true, true, true, true, true, true, true]) (by kernel_rfl) rfl rfl rfl fun K hK => ?_
              have hc0 := BXb.out.cell0
              have hc1 := BXb.out.cell1
              have hc2 := BXb.out.cell2
              have hc3 := BXb.out.cell3
              have hf0 := BXb.out.free 0
              have hf1 := BXb.out.free 1
              have hf2 := BXb.out.free 2
              have hf3 := BXb.out.free 3
              go_simp
              replace HF := hide (FP4.out _ gb (.bool s4) (.slice m4 n4 c4) (.bool t4) (.slice o4 p4 d4) HF.out BXb.out LTb.out)
              replace TA := hide (TA.out.keep (BXb.out.keeps (by simp) (by simp) (by simp) (by simp) (.bool s4) (.slice m4 n4 c4) (.bool t4) (.slice o4 p4 d4)))
              replace TB := hide (TB.out.keep (BXb.out.keeps (by simp) (by simp) (by simp) (by simp) (.bool s4) (.slice m4 n4 c4) (.bool t4) (.slice o4 p4 d4)))
              replace BXa := hide (BXa.out.other4 (C := gb) (by first | exact Nat.ne_of_lt LTba.out | exact Nat.ne_of_gt LTab.out) (.bool s4) (.slice m4 n4 c4) (.bool t4) (.slice o4 p4 d4))
              replace BXb := hide (BXb.out.put (.bool s4) (.slice m4 n4 c4) (.bool t4) (.slice o4 p4 d4))
              refine hK _ _ (fun _ => HF.out) ?_
              clear hK K hc0 hf0 hc1 hf1 hc2 hf2 hc3 hf3
              generalize ((((ws12.setCell ⟨gb, 0, none⟩ (.bool s4)).setCell ⟨gb, 1, none⟩ (.slice m4 n4 c4)).setCell ⟨gb, 2, none⟩ (.bool t4)).setCell ⟨gb, 3, none⟩ (.slice o4 p4 d4)) = ws13 at *
              refine Calm.done (by kernel_rfl) ?_
              have h := FU.out _ HF.out
              go_wp2
              go_meet
              case rel => exact ⟨ga, s3, m3, n3, c3, t3, o3, p3, d3, gb, s4, m4, n4, c4, t4, o4, p4, d4, rfl, rfl, ⟨LTa.out, LTb.out, by first | exact Nat.ne_of_lt LTab.out | exact Nat.ne_of_gt LTba.out⟩, h.1, h.2.1, h.2.2.1, h.2.2.2.1, h.2.2.2.2.1, h.2.2.2.2.2, BXa.out, BXb.out, TA.out, TB.out⟩
          · go_simp
            have al := below_alloc u2 (.cells #[.bool false, .slice none 0 0, .bool false, .slice none 0 0] 27)
            replace TA := hide (TA.out.below (al))
            have LTab := hide (BXa.out.lt)
            replace BXa := hide (BXa.out.step al)
            have BXb := hide (Box4.new u2 (.bool false) (.slice none 0 0) (.bool false) (.slice none 0 0))
            have LTb := hide (FL.out _ HF.out)
            replace HF := hide (FS.out _ _ HF.out al)
            refine hK _ _ (fun _ => HF.out) ?_
            clear hK K al
            generalize u2.alloc (.cells #[.bool false, .slice none 0 0, .bool false, .slice none 0 0] 27) = wzb at *
            generalize u2.heap.size = gb at *
            refine Calm.one (i := 8) (l' := #[true, true, true, true, true, true, true, true, true, false, true, true, false, false]) (by kernel_rfl) rfl rfl rfl fun K hK => ?_
            go_simp
            refine (den_any _ x _ (FU.out _ HF.out).2.2.2.2.1).mono ?_
            rintro e u3 ⟨v, rfl, n, hb⟩
            replace TA := hide (TA.out.below (hb))
            replace BXa := hide (BXa.out.step hb)
            replace BXb := hide (BXb.out.step hb)
            have TE := hide (n)
            replace HF := hide (FS.out _ _ HF.out hb)
            refine hK _ _ (fun _ => HF.out) ?_
            clear hK K hb n
            refine Calm.one (i := 9) (l' := #[true, true, true, true, true, true, true, true, true, true, true, true, false, false]) (by kernel_rfl) rfl rfl rfl fun K hK => ?_
            go_simp
            refine (lowest_any _ _ y.num (x.den : Int) _ (FU.out _ HF.out).2.2.2.2.2.num TE.out (SzI.len HY.out.num (by decide)) (SzI.len HX.out.den (by decide)) ZX.out).mono ?_
            rintro e u4 ⟨v, rfl, n, hb⟩
            obtain ⟨s4, m4, n4, c4, t4, o4, p4, d4, rfl, n⟩ := n.cells
            replace TA := hide (TA.out.below (hb))
            clear TE
            replace BXa := hide (BXa.out.step hb)
            replace BXb := hide (BXb.out.step hb)
            have TB := hide (n)
            replace HF := hide (FS.out _ _ HF.out hb)
            refine hK _ _ (fun _ => HF.out) ?_
            clear hK K hb n
            refine Calm.one (i := 12) (l' := #[true, true, true, true, true, true, true, true, true, true, true, true, true, false]) (by kernel_rfl) rfl rfl rfl fun K hK => ?_
            have hc0 := BXa.out.cell0
            have hc1 := BXa.out.cell1
            have hc2 := BXa.out.cell2
            have hc3 := BXa.out.cell3
            have hf0 := BXa.out.free 0
            have hf1 := BXa.out.free 1
            have hf2 := BXa.out.free 2
            have hf3 := BXa.out.free 3
            go_simp
            replace HF := hide (FP4.out _ ga (.bool s3) (.slice m3 n3 c3) (.bool t3) (.slice o3 p3 d3) HF.out BXa.out LTa.out)
            replace TA := hide (TA.out.keep (BXa.out.keeps (by simp) (by simp) (by simp) (by simp) (.bool s3) (.slice m3 n3 c3) (.bool t3) (.slice o3 p3 d3)))
            replace TB := hide (TB.out.keep (BXa.out.keeps (by simp) (by simp) (by simp) (by simp) (.bool s3) (.slice m3 n3 c3) (.bool t3) (.slice o3 p3 d3)))
            replace BXb := hide (BXb.out.other4 (C := ga) (by first | exact Nat.ne_of_lt LTab.out | exact Nat.ne_of_gt LTba.out) (.bool s3) (.slice m3 n3 c3) (.bool t3) (.slice o3 p3 d3))
            replace BXa := hide (BXa.out.put (.bool s3) (.slice m3 n3 c3) (.bool t3) (.slice o3 p3 d3))
            refine hK _ _ (fun _ => HF.out) ?_
            clear hK K hc0 hf0 hc1 hf1 hc2 hf2 hc3 hf3
            generalize ((((u4.setCell ⟨ga, 0, none⟩ (.bool s3)).setCell ⟨ga, 1, none⟩ (.slice m3 n3 c3)).setCell ⟨ga, 2, none⟩ (.bool t3)).setCell ⟨ga, 3, none⟩ (.slice o3 p3 d3)) = ws12 at *
            refine Calm.one (i := 13) (l' := #[true, true, true, true, true, true, true, true, true, true, true, true, true, true]) (by kernel_rfl) rfl rfl rfl fun K hK => ?_
            have hc0 := BXb.out.cell0
            have hc1 := BXb.out.cell1
            have hc2 := BXb.out.cell2
            have hc3 := BXb.out.cell3
            have hf0 := BXb.out.free 0
            have hf1 := BXb.out.free 1
            have hf2 := BXb.out.free 2
            have hf3 := BXb.out.free 3
            go_simp
            replace HF := hide (FP4.out _ gb (.bool s4) (.slice m4 n4 c4) (.bool t4) (.slice o4 p4 d4) HF.out BXb.out LTb.out)
            replace TA := hide (TA.out.keep (BXb.out.keeps (by simp) (by simp) (by simp) (by simp) (.bool s4) (.slice m4 n4 c4) (.bool t4) (.slice o4 p4 d4)))
            replace TB := hide (TB.out.keep (BXb.out.keeps (by simp) (by simp) (by simp) (by simp) (.bool s4) (.slice m4 n4 c4) (.bool t4) (.slice o4 p4 d4)))
            replace BXa := hide (BXa.out.other4 (C := gb) (by first | exact Nat.ne_of_lt LTba.out | exact Nat.ne_of_gt LTab.out) (.bool s4) (.slice m4 n4 c4) (.bool t4) (.slice o4 p4 d4))
            replace BXb := hide (BXb.out.put (.bool s4) (.slice m4 n4 c4) (.bool t4) (.slice o4 p4 d4))
            refine hK _ _ (fun _ => HF.out) ?_
            clear hK K hc0 hf0 hc1 hf1 hc2 hf2 hc3 hf3
            generalize ((((ws12.setCell ⟨gb, 0, none⟩ (.bool s4)).setCell ⟨gb, 1, none⟩ (.slice m4 n4 c4)).setCell ⟨gb, 2, none⟩ (.bool t4)).setCell ⟨gb, 3, none⟩ (.slice o4 p4 d4)) = ws13 at *
            refine Calm.done (by kernel_rfl) ?_
            have h := FU.out _ HF.out
            go_wp2
            go_meet
            case rel => exact ⟨ga, s3, m3, n3, c3, t3, o3, p3, d3, gb, s4, m4, n4, c4, t4, o4, p4, d4, rfl, rfl, ⟨LTa.out, LTb.out, by first | exact Nat.ne_of_lt LTab.out | exact Nat.ne_of_gt LTba.out⟩, h.1, h.2.1, h.2.2.1, h.2.2.2.1, h.2.2.2.2.1, h.2.2.2.2.2, BXa.out, BXb.out, TA.out, TB.out⟩
        · go_simp
          have al := below_alloc wza (.cells #[.bool false, .slice none 0 0, .bool false, .slice none 0 0] 27)
          replace TD := hide (TD.out.below (al))
          have LTab := hide (BXa.out.lt)
          replace BXa := hide (BXa.out.step al)
          have BXb := hide (Box4.new wza (.bool false) (.slice none 0 0) (.bool false) (.slice none 0 0))
          have LTb := hide (FL.out _ HF.out)
          replace HF := hide (FS.out _ _ HF.out al)
          refine hK _ _ (fun _ => HF.out) ?_
          clear hK K al
          generalize wza.alloc (.cells #[.bool false, .slice none 0 0, .bool false, .slice none 0 0] 27) = wzb at *
          generalize wza.heap.size = gb at *
          refine Calm.one (i := 4) (l' := #[true, true, true, true, true, true, true, true, false, false, true, true, false, false]) (by kernel_rfl) rfl rfl rfl fun K hK => ?_
          go_simp
          refine (lowest_any _ _ x.num (y.den : Int) _ (FU.out _ HF.out).2.2.2.2.1.num TD.out (SzI.len HX.out.num (by decide)) (SzI.len HY.out.den (by decide)) ZY.out).mono ?_
          rintro e u2 ⟨v, rfl, n, hb⟩
          obtain ⟨s3, m3, n3, c3, t3, o3, p3, d3, rfl, n⟩ := n.cells
          clear TD
          replace BXa := hide (BXa.out.step hb)
          replace BXb := hide (BXb.out.step hb)
          have TA := hide (n)
          replace HF := hide (FS.out _ _ HF.out hb)
          refine hK _ _ (fun _ => HF.out) ?_
          clear hK K hb n
          refine Calm.one (i := 8) (l' := #[true, true, true, true, true, true, true, true, true, false, true, true, false, false]) (by kernel_rfl) rfl rfl rfl fun K hK => ?_
          go_simp
          refine (den_any _ x _ (FU.out _ HF.out).2.2.2.2.1).mono ?_
          rintro e u3 ⟨v, rfl, n, hb⟩
          replace TA := hide (TA.out.below (hb))
          replace BXa := hide (BXa.out.step hb)
          replace BXb := hide (BXb.out.step hb)
          have TE := hide (n)
          replace HF := hide (FS.out _ _ HF.out hb)
          refine hK _ _ (fun _ => HF.out) ?_
          clear hK K hb n
          refine Calm.one (i := 9) (l' := #[true, true, true, true, true, true, true, true, true, true, true, true, false, false]) (by kernel_rfl) rfl rfl rfl fun K hK => ?_
          go_simp
          refine (lowest_any _ _ y.num (x.den : Int) _ (FU.out _ HF.out).2.2.2.2.2.num TE.out (SzI.len HY.out.num (by decide)) (SzI.len HX.out.den (by decide)) ZX.out).mono ?_
          rintro e u4 ⟨v, rfl, n, hb⟩
          obtain ⟨s4, m4, n4, c4, t4, o4, p4, d4, rfl, n⟩ := n.cells
          replace TA := hide (TA.out.below (hb))
          clear TE
          replace BXa := hide (BXa.out.step hb)
          replace BXb := hide (BXb.out.step hb)
          have TB := hide (n)
          replace HF := hide (FS.out _ _ HF.out hb)
          refine hK _ _ (fun _ => HF.out) ?_
          clear hK K hb n
          refine Calm.one (i := 12) (l' := #[true, true, true, true, true, true, true, true, true, true, true, true, true, false]) (by kernel_rfl) rfl rfl rfl fun K hK => ?_
          have hc0 := BXa.out.cell0
          have hc1 := BXa.out.cell1
          have hc2 := BXa.out.cell2
          have hc3 := BXa.out.cell3
          have hf0 := BXa.out.free 0
          have hf1 := BXa.out.free 1
          have hf2 := BXa.out.free 2
          have hf3 := BXa.out.free 3
          go_simp
          replace HF := hide (FP4.out _ ga (.bool s3) (.slice m3 n3 c3) (.bool t3) (.slice o3 p3 d3) HF.out BXa.out LTa.out)
          replace TA := hide (TA.out.keep (BXa.out.keeps (by simp) (by simp) (by simp) (by simp) (.bool s3) (.slice m3 n3 c3) (.bool t3) (.slice o3 p3 d3)))
          replace TB := hide (TB.out.keep (BXa.out.keeps (by simp) (by simp) (by simp) (by simp) (.bool s3) (.slice m3 n3 c3) (.bool t3) (.slice o3 p3 d3)))
          replace BXb := hide (BXb.out.other4 (C := ga) (by first | exact Nat.ne_of_lt LTab.out | exact Nat.ne_of_gt LTba.out) (.bool s3) (.slice m3 n3 c3) (.bool t3) (.slice o3 p3 d3))
          replace BXa := hide (BXa.out.put (.bool s3) (.slice m3 n3 c3) (.bool t3) (.slice o3 p3 d3))
          refine hK _ _ (fun _ => HF.out) ?_
          clear hK K hc0 hf0 hc1 hf1 hc2 hf2 hc3 hf3
          generalize ((((u4.setCell ⟨ga, 0, none⟩ (.bool s3)).setCell ⟨ga, 1, none⟩ (.slice m3 n3 c3)).setCell ⟨ga, 2, none⟩ (.bool t3)).setCell ⟨ga, 3, none⟩ (.slice o3 p3 d3)) = ws12 at *
          refine Calm.one (i := 13) (l' := #[true, true, true, true, true, true, true, true, true, true, true, true, true, true]) (by kernel_rfl) rfl rfl rfl fun K hK => ?_
          have hc0 := BXb.out.cell0
          have hc1 := BXb.out.cell1
          have hc2 := BXb.out.cell2
          have hc3 := BXb.out.cell3
          have hf0 := BXb.out.free 0
          have hf1 := BXb.out.free 1
          have hf2 := BXb.out.free 2
          have hf3 := BXb.out.free 3
          go_simp
          replace HF := hide (FP4.out _ gb (.bool s4) (.slice m4 n4 c4) (.bool t4) (.slice o4 p4 d4) HF.out BXb.out LTb.out)
          replace TA := hide (TA.out.keep (BXb.out.keeps (by simp) (by simp) (by simp) (by simp) (.bool s4) (.slice m4 n4 c4) (.bool t4) (.slice o4 p4 d4)))
          replace TB := hide (TB.out.keep (BXb.out.keeps (by simp) (by simp) (by simp) (by simp) (.bool s4) (.slice m4 n4 c4) (.bool t4) (.slice o4 p4 d4)))
          replace BXa := hide (BXa.out.other4 (C := gb) (by first | exact Nat.ne_of_lt LTba.out | exact Nat.ne_of_gt LTab.out) (.bool s4) (.slice m4 n4 c4) (.bool t4) (.slice o4 p4 d4))
          replace BXb := hide (BXb.out.put (.bool s4) (.slice m4 n4 c4) (.bool t4) (.slice o4 p4 d4))
          refine hK _ _ (fun _ => HF.out) ?_
          clear hK K hc0 hf0 hc1 hf1 hc2 hf2 hc3 hf3
          generalize ((((ws12.setCell ⟨gb, 0, none⟩ (.bool s4)).setCell ⟨gb, 1, none⟩ (.slice m4 n4 c4)).setCell ⟨gb, 2, none⟩ (.bool t4)).setCell ⟨gb, 3, none⟩ (.slice o4 p4 d4)) = ws13 at *
          refine Calm.done (by kernel_rfl) ?_
          have h := FU.out _ HF.out
          go_wp2
          go_meet
          case rel => exact ⟨ga, s3, m3, n3, c3, t3, o3, p3, d3, gb, s4, m4, n4, c4, t4, o4, p4, d4, rfl, rfl, ⟨LTa.out, LTb.out, by first | exact Nat.ne_of_lt LTab.out | exact Nat.ne_of_gt LTba.out⟩, h.1, h.2.1, h.2.2.1, h.2.2.2.1, h.2.2.2.2.1, h.2.2.2.2.2, BXa.out, BXb.out, TA.out, TB.out⟩
      · go_simp
        have al := below_alloc u1 (.cells #[.bool false, .slice none 0 0, .bool false, .slice none 0 0] 27)
        replace TD := hide (TD.out.below (al))
        have BXb := hide (Box4.new u1 (.bool false) (.slice none 0 0) (.bool false) (.slice none 0 0))
        have LTb := hide (FL.out _ HF.out)
        replace HF := hide (FS.out _ _ HF.out al)
        refine hK _ _ (fun _ => HF.out) ?_
        clear hK K al
        generalize u1.alloc (.cells #[.bool false, .slice none 0 0, .bool false, .slice none 0 0] 27) = wzb at *
        generalize u1.heap.size = gb at *
        refine Calm.two (i := 4) (j := 10) (l := #[true, true, true, true, true, true, true, true, false, false, false, true, false, false]) (l' := #[true, true, true, true, false, true, true, true, false, false, true, true, false, false]) (by kernel_rfl) rfl rfl rfl rfl rfl rfl (fun K hK => ?_) (fun K hK => ?_)
        · go_simp
          refine (lowest_any _ _ x.num (y.den : Int) _ (FU.out _ HF.out).2.2.2.2.1.num TD.out (SzI.len HX.out.num (by decide)) (SzI.len HY.out.den (by decide)) ZY.out).mono ?_
          rintro e u2 ⟨v, rfl, n, hb⟩
          obtain ⟨s3, m3, n3, c3, t3, o3, p3, d3, rfl, n⟩ := n.cells
          clear TD
          replace BXb := hide (BXb.out.step hb)
          have TA := hide (n)
          replace HF := hide (FS.out _ _ HF.out hb)
          refine hK _ _ (fun _ => HF.out) ?_
          clear hK K hb n
          refine Calm.two (i := 8) (j := 10) (l := #[true, true, true, true, true, true, true, true, true, false, false, true, false, false]) (l' := #[true, true, true, true, true, true, true, true, false, false, true, true, false, false]) (by kernel_rfl) rfl rfl rfl rfl rfl rfl (fun K hK => ?_) (fun K hK => ?_)
          · go_simp
            refine (den_any _ x _ (FU.out _ HF.out).2.2.2.2.1).mono ?_
            rintro e u3 ⟨v, rfl, n, hb⟩
            replace TA := hide (TA.out.below (hb))
            replace BXb := hide (BXb.out.step hb)
            have TE := hide (n)
            replace HF := hide (FS.out _ _ HF.out hb)
            refine hK _ _ (fun _ => HF.out) ?_
            clear hK K hb n
            refine Calm.two (i := 9) (j := 10) (l := #[true, true, true, true, true, true, true, true, true, true, false, true, false, false]) (l' := #[true, true, true, true, true, true, true, true, true, false, true, true, false, false]) (by kernel_rfl) rfl rfl rfl rfl rfl rfl (fun K hK => ?_) (fun K hK => ?_)
            · go_simp
              refine (lowest_any _ _ y.num (x.den : Int) _ (FU.out _ HF.out).2.2.2.2.2.num TE.out (SzI.len HY.out.num (by decide)) (SzI.len HX.out.den (by decide)) ZX.out).mono ?_
              rintro e u4 ⟨v, rfl, n, hb⟩
              obtain ⟨s4, m4, n4, c4, t4, o4, p4, d4, rfl, n⟩ := n.cells
              replace TA := hide (TA.out.below (hb))
              clear TE
              replace BXb := hide (BXb.out.step hb)
              have TB := hide (n)
              replace HF := hide (FS.out _ _ HF.out hb)
              refine hK _ _ (fun _ => HF.out) ?_
              clear hK K hb n
              refine Calm.one (i := 10) (l' := #[true, true, true, true, true, true, true, true, true, true, true, true, false, false]) (by kernel_rfl) rfl rfl rfl fun K hK => ?_
              go_simp
              have al := below_alloc u4 (.cells #[.bool false, .slice none 0 0, .bool false, .slice none 0 0] 27)
              replace TA := hide (TA.out.below (al))
              replace TB := hide (TB.out.below (al))
              have LTba := hide (BXb.out.lt)
              replace BXb := hide (BXb.out.step al)
              have BXa := hide (Box4.new u4 (.bool false) (.slice none 0 0) (.bool false) (.slice none 0 0))
              have LTa := hide (FL.out _ HF.out)
              replace HF := hide (FS.out _ _ HF.out al)
              refine hK _ _ (fun _ => HF.out) ?_
              clear hK K al
              generalize u4.alloc (.cells #[.bool false, .slice none 0 0, .bool false, .slice none 0 0] 27) = wza at *
              generalize u4.heap.size = ga at *
              refine Calm.one (i := 12) (l' := #[true, true, true, true, true, true, true, true, true, true, true, true, true, false]) (by kernel_rfl) rfl rfl rfl fun K hK => ?_
              have hc0 := BXa.out.cell0
              have hc1 := BXa.out.cell1
              have hc2 := BXa.out.cell2
              have hc3 := BXa.out.cell3
              have hf0 := BXa.out.free 0
              have hf1 := BXa.out.free 1
              have hf2 := BXa.out.free 2
              have hf3 := BXa.out.free 3
              go_simp
              replace HF := hide (FP4.out _ ga (.bool s3) (.slice m3 n3 c3) (.bool t3) (.slice o3 p3 d3) HF.out BXa.out LTa.out)
              replace TA := hide (TA.out.keep (BXa.out.keeps (by simp) (by simp) (by simp) (by simp) (.bool s3) (.slice m3 n3 c3) (.bool t3) (.slice o3 p3 d3)))
              replace TB := hide (TB.out.keep (BXa.out.keeps (by simp) (by simp) (by simp) (by simp) (.bool s3) (.slice m3 n3 c3) (.bool t3) (.slice o3 p3 d3)))
              replace BXb := hide (BXb.out.other4 (C := ga) (by first | exact Nat.ne_of_lt LTab.out | exact Nat.ne_of_gt LTba.out) (.bool s3) (.slice m3 n3 c3) (.bool t3) (.slice o3 p3 d3))
              replace BXa := hide (BXa.out.put (.bool s3) (.slice m3 n3 c3) (.bool t3) (.slice o3 p3 d3))
              refine hK _ _ (fun _ => HF.out) ?_
              clear hK K hc0 hf0 hc1 hf1 hc2 hf2 hc3 hf3
              generalize ((((wza.setCell ⟨ga, 0, none⟩ (.bool s3)).setCell ⟨ga, 1, none⟩ (.slice m3 n3 c3)).setCell ⟨ga, 2, none⟩ (.bool t3)).setCell ⟨ga, 3, none⟩ (.slice o3 p3 d3)) = ws12 at *
              refine Calm.one (i := 13) (l' := #[true, true, true, true, true, true, true, true, true, true, true, true, true, true]) (by kernel_rfl) rfl rfl rfl fun K hK => ?_
              have hc0 := BXb.out.cell0
              have hc1 := BXb.out.cell1
              have hc2 := BXb.out.cell2
              have hc3 := BXb.out.cell3
              have hf0 := BXb.out.free 0
              have hf1 := BXb.out.free 1
              have hf2 := BXb.out.free 2
              have hf3 := BXb.out.free 3
              go_simp
              replace HF := hide (FP4.out _ gb (.bool s4) (.slice m4 n4 c4) (.bool t4) (.slice o4 p4 d4) HF.out BXb.out LTb.out)
              replace TA := hide (TA.out.keep (BXb.out.keeps (by simp) (by simp) (by simp) (by simp) (.bool s4) (.slice m4 n4 c4) (.bool t4) (.slice o4 p4 d4)))
              replace TB := hide (TB.out.keep (BXb.out.keeps (by simp) (by simp) (by simp) (by simp) (.bool s4) (.slice m4 n4 c4) (.bool t4) (.slice o4 p4 d4)))
              replace BXa := hide (BXa.out.other4 (C := gb) (by first | exact Nat.ne_of_lt LTba.out | exact Nat.ne_of_gt LTab.out) (.bool s4) (.slice m4 n4 c4) (.bool t4) (.slice o4 p4 d4))
              replace BXb := hide (BXb.out.put (.bool s4) (.slice m4 n4 c4) (.bool t4) (.slice o4 p4 d4))
              refine hK _ _ (fun _ => HF.out) ?_
              clear hK K hc0 hf0 hc1 hf1 hc2 hf2 hc3 hf3
              generalize ((((ws12.setCell ⟨gb, 0, none⟩ (.bool s4)).setCell ⟨gb, 1, none⟩ (.slice m4 n4 c4)).setCell ⟨gb, 2, none⟩ (.bool t4)).setCell ⟨gb, 3, none⟩ (.slice o4 p4 d4)) = ws13 at *
              refine Calm.done (by kernel_rfl) ?_
              have h := FU.out _ HF.out
              go_wp2
              go_meet
              case rel => exact ⟨ga, s3, m3, n3, c3, t3, o3, p3, d3, gb, s4, m4, n4, c4, t4, o4, p4, d4, rfl, rfl, ⟨LTa.out, LTb.out, by first | exact Nat.ne_of_lt LTab.out | exact Nat.ne_of_gt LTba.out⟩, h.1, h.2.1, h.2.2.1, h.2.2.2.1, h.2.2.2.2.1, h.2.2.2.2.2, BXa.out, BXb.out, TA.out, TB.out⟩
            · go_simp
              have al := below_alloc u3 (.cells #[.bool false, .slice none 0 0, .bool false, .slice none 0 0] 27)
              replace TA := hide (TA.out.below (al))
              replace TE := hide (TE.out.below (al))
              have LTba := hide (BXb.out.lt)
              replace BXb := hide (BXb.out.step al)
              have BXa := hide (Box4.new u3 (.bool false) (.slice none 0 0) (.bool false) (.slice none 0 0))
              have LTa := hide (FL.out _ HF.out)
              replace HF := hide (FS.out _ _ HF.out al)
              refine hK _ _ (fun _ => HF.out) ?_
              clear hK K al
              generalize u3.alloc (.cells #[.bool false, .slice none 0 0, .bool false, .slice none 0 0] 27) = wza at *
              generalize u3.heap.size = ga at *
              refine Calm.one (i := 9) (l' := #[true, true, true, true, true, true, true, true, true, true, true, true, false, false]) (by kernel_rfl) rfl rfl rfl fun K hK => ?_
              go_simp
              refine (lowest_any _ _ y.num (x.den : Int) _ (FU.out _ HF.out).2.2.2.2.2.num TE.out (SzI.len HY.out.num (by decide)) (SzI.len HX.out.den (by decide)) ZX.out).mono ?_
              rintro e u4 ⟨v, rfl, n, hb⟩
              obtain ⟨s4, m4, n4, c4, t4, o4, p4, d4, rfl, n⟩ := n.cells
              replace TA := hide (TA.out.below (hb))
              clear TE
              replace BXb := hide (BXb.out.step hb)
              replace BXa := hide (BXa.out.step hb)
              have TB := hide (n)
              replace HF := hide (FS.out _ _ HF.out hb)
              refine hK _ _ (fun _ => HF.out) ?_
              clear hK K hb n
              refine Calm.one (i := 12) (l' := #[true, true, true, true, true, true, true, true, true, true, true, true, true, false]) (by kernel_rfl) rfl rfl rfl fun K hK => ?_
              have hc0 := BXa.out.cell0
              have hc1 := BXa.out.cell1
              have hc2 := BXa.out.cell2
              have hc3 := BXa.out.cell3
              have hf0 := BXa.out.free 0
              have hf1 := BXa.out.free 1
              have hf2 := BXa.out.free 2
              have hf3 := BXa.out.free 3
              go_simp
              replace HF := hide (FP4.out _ ga (.bool s3) (.slice m3 n3 c3) (.bool t3) (.slice o3 p3 d3) HF.out BXa.out LTa.out)
              replace TA := hide (TA.out.keep (BXa.out.keeps (by simp) (by simp) (by simp) (by simp) (.bool s3) (.slice m3 n3 c3) (.bool t3) (.slice o3 p3 d3)))
              replace TB := hide (TB.out.keep (BXa.out.keeps (by simp) (by simp) (by simp) (by simp) (.bool s3) (.slice m3 n3 c3) (.bool t3) (.slice o3 p3 d3)))
              replace BXb := hide (BXb.out.other4 (C := ga) (by first | exact Nat.ne_of_lt LTab.out | exact Nat.ne_of_gt LTba.out) (.bool s3) (.slice m3 n3 c3) (.bool t3) (.slice o3 p3 d3))
              replace BXa := hide (BXa.out.put (.bool s3) (.slice m3 n3 c3) (.bool t3) (.slice o3 p3 d3))
              refine hK _ _ (fun _ => HF.out) ?_
              clear hK K hc0 hf0 hc1 hf1 hc2 hf2 hc3 hf3
              generalize ((((u4.setCell ⟨ga, 0, none⟩ (.bool s3)).setCell ⟨ga, 1, none⟩ (.slice m3 n3 c3)).setCell ⟨ga, 2, none⟩ (.bool t3)).setCell ⟨ga, 3, none⟩ (.slice o3 p3 d3)) = ws12 at *
              refine Calm.one (i := 13) (l' := #[true, true, true, true, true, true, true, true, true, true, true, true, true, true]) (by kernel_rfl) rfl rfl rfl fun K hK => ?_
              have hc0 := BXb.out.cell0
              have hc1 := BXb.out.cell1
              have hc2 := BXb.out.cell2
              have hc3 := BXb.out.cell3
              have hf0 := BXb.out.free 0
              have hf1 := BXb.out.free 1
              have hf2 := BXb.out.free 2
              have hf3 := BXb.out.free 3
              go_simp
              replace HF := hide (FP4.out _ gb (.bool s4) (.slice m4 n4 c4) (.bool t4) (.slice o4 p4 d4) HF.out BXb.out LTb.out)
              replace TA := hide (TA.out.keep (BXb.out.keeps (by simp) (by simp) (by simp) (by simp) (.bool s4) (.slice m4 n4 c4) (.bool t4) (.slice o4 p4 d4)))
              replace TB := hide (TB.out.keep (BXb.out.keeps (by simp) (by simp) (by simp) (by simp) (.bool s4) (.slice m4 n4 c4) (.bool t4) (.slice o4 p4 d4)))
              replace BXa := hide (BXa.out.other4 (C := gb) (by first | exact Nat.ne_of_lt LTba.out | exact Nat.ne_of_gt LTab.out) (.bool s4) (.slice m4 n4 c4) (.bool t4) (.slice o4 p4 d4))
              replace BXb := hide (BXb.out.put (.bool s4) (.slice m4 n4 c4) (.bool t4) (.slice o4 p4 d4))
              refine hK _ _ (fun _ => HF.out) ?_
              clear hK K hc0 hf0 hc1 hf1 hc2 hf2 hc3 hf3
              generalize ((((ws12.setCell ⟨gb, 0, none⟩ (.bool s4)).setCell ⟨gb, 1, none⟩ (.slice m4 n4 c4)).setCell ⟨gb, 2, none⟩ (.bool t4)).setCell ⟨gb, 3, none⟩ (.slice o4 p4 d4)) = ws13 at *
              refine Calm.done (by kernel_rfl) ?_
              have h := FU.out _ HF.out
              go_wp2
              go_meet
              case rel => exact ⟨ga, s3, m3, n3, c3, t3, o3, p3, d3, gb, s4, m4, n4, c4, t4, o4, p4, d4, rfl, rfl, ⟨LTa.out, LTb.out, by first | exact Nat.ne_of_lt LTab.out | exact Nat.ne_of_gt LTba.out⟩, h.1, h.2.1, h.2.2.1, h.2.2.2.1, h.2.2.2.2.1, h.2.2.2.2.2, BXa.out, BXb.out, TA.out, TB.out⟩
          · go_simp
            have al := below_alloc u2 (.cells #[.bool false, .slice none 0 0, .bool false, .slice none 0 0] 27)
            replace TA := hide (TA.out.below (al))
            have LTba := hide (BXb.out.lt)
            replace BXb := hide (BXb.out.step al)
            have BXa := hide (Box4.new u2 (.bool false) (.slice none 0 0) (.bool false) (.slice none 0 0))
            have LTa := hide (FL.out _ HF.out)
            replace HF := hide (FS.out _ _ HF.out al)
            refine hK _ _ (fun _ => HF.out) ?_
            clear hK K al
            generalize u2.alloc (.cells #[.bool false, .slice none 0 0, .bool false, .slice none 0 0] 27) = wza at *
            generalize u2.heap.size = ga at *
            refine Calm.one (i := 8) (l' := #[true, true, true, true, true, true, true, true, true, false, true, true, false, false]) (by kernel_rfl) rfl rfl rfl fun K hK => ?_
            go_simp
            refine (den_any _ x _ (FU.out _ HF.out).2.2.2.2.1).mono ?_
            rintro e u3 ⟨v, rfl, n, hb⟩
            replace TA := hide (TA.out.below (hb))
            replace BXb := hide (BXb.out.step hb)
            replace BXa := hide (BXa.out.step hb)
            have TE := hide (n)
            replace HF := hide (FS.out _ _ HF.out hb)
            refine hK _ _ (fun _ => HF.out) ?_
            clear hK K hb n
            refine Calm.one (i := 9) (l' := #[true, true, true, true, true, true, true, true, true, true, true, true, false, false]) (by kernel_rfl) rfl rfl rfl fun K hK => ?_
            go_simp
            refine (lowest_any _ _ y.num (x.den : Int) _ (FU.out _ HF.out).2.2.2.2.2.num TE.out (SzI.len HY.out.num (by decide)) (SzI.len HX.out.den (by decide)) ZX.out).mono ?_
            rintro e u4 ⟨v, rfl, n, hb⟩
            obtain ⟨s4, m4, n4, c4, t4, o4, p4, d4, rfl, n⟩ := n.cells
            replace TA := hide (TA.out.below (hb))
            clear TE
            replace BXb := hide (BXb.out.step hb)
            replace BXa := hide (BXa.out.step hb)
            have TB := hide (n)
            replace HF := hide (FS.out _ _ HF.out hb)
            refine hK _ _ (fun _ => HF.out) ?_
            clear hK K hb n
            refine Calm.one (i := 12) (l' := #[true, true, true, true, true, true, true, true, true, true, true, true, true, false]) (by kernel_rfl) rfl rfl rfl fun K hK => ?_
            have hc0 := BXa.out.cell0
            have hc1 := BXa.out.cell1
            have hc2 := BXa.out.cell2
            have hc3 := BXa.out.cell3
            have hf0 := BXa.out.free 0
            have hf1 := BXa.out.free 1
            have hf2 := BXa.out.free 2
            have hf3 := BXa.out.free 3
            go_simp
            replace HF := hide (FP4.out _ ga (.bool s3) (.slice m3 n3 c3) (.bool t3) (.slice o3 p3 d3) HF.out BXa.out LTa.out)
            replace TA := hide (TA.out.keep (BXa.out.keeps (by simp) (by simp) (by simp) (by simp) (.bool s3) (.slice m3 n3 c3) (.bool t3) (.slice o3 p3 d3)))
            replace TB := hide (TB.out.keep (BXa.out.keeps (by simp) (by simp) (by simp) (by simp) (.bool s3) (.slice m3 n3 c3) (.bool t3) (.slice o3 p3 d3)))
            replace BXb := hide (BXb.out.other4 (C := ga) (by first | exact Nat.ne_of_lt LTab.out | exact Nat.ne_of_gt LTba.out) (.bool s3) (.slice m3 n3 c3) (.bool t3) (.slice o3 p3 d3))
            replace BXa := hide (BXa.out.put (.bool s3) (.slice m3 n3 c3) (.bool t3) (.slice o3 p3 d3))
            refine hK _ _ (fun _ => HF.out) ?_
            clear hK K hc0 hf0 hc1 hf1 hc2 hf2 hc3 hf3
            generalize ((((u4.setCell ⟨ga, 0, none⟩ (.bool s3)).setCell ⟨ga, 1, none⟩ (.slice m3 n3 c3)).setCell ⟨ga, 2, none⟩ (.bool t3)).setCell ⟨ga, 3, none⟩ (.slice o3 p3 d3)) = ws12 at *
            refine Calm.one (i := 13) (l' := #[true, true, true, true, true, true, true, true, true, true, true, true, true, true]) (by kernel_rfl) rfl rfl rfl fun K hK => ?_
            have hc0 := BXb.out.cell0
            have hc1 := BXb.out.cell1
            have hc2 := BXb.out.cell2
            have hc3 := BXb.out.cell3
            have hf0 := BXb.out.free 0
            have hf1 := BXb.out.free 1
            have hf2 := BXb.out.free 2
            have hf3 := BXb.out.free 3
            go_simp
            replace HF := hide (FP4.out _ gb (.bool s4) (.slice m4 n4 c4) (.bool t4) (.slice o4 p4 d4) HF.out BXb.out LTb.out)
            replace TA := hide (TA.out.keep (BXb.out.keeps (by simp) (by simp) (by simp) (by simp) (.bool s4) (.slice m4 n4 c4) (.bool t4) (.slice o4 p4 d4)))
            replace TB := hide (TB.out.keep (BXb.out.keeps (by simp) (by simp) (by simp) (by simp) (.bool s4) (.slice m4 n4 c4) (.bool t4) (.slice o4 p4 d4)))
            replace BXa := hide (BXa.out.other4 (C := gb) (by first | exact Nat.ne_of_lt LTba.out | exact Nat.ne_of_gt LTab.out) (.bool s4) (.slice m4 n4 c4) (.bool t4) (.slice o4 p4 d4))
            replace BXb := hide (BXb.out.put (.bool s4) (.slice m4 n4 c4) (.bool t4) (.slice o4 p4 d4))
            refine hK _ _ (fun _ => HF.out) ?_
            clear hK K hc0 hf0 hc1 hf1 hc2 hf2 hc3 hf3
            generalize ((((ws12.setCell ⟨gb, 0, none⟩ (.bool s4)).setCell ⟨gb, 1, none⟩ (.slice m4 n4 c4)).setCell ⟨gb, 2, none⟩ (.bool t4)).setCell ⟨gb, 3, none⟩ (.slice o4 p4 d4)) = ws13 at *
            refine Calm.done (by kernel_rfl) ?_
            have h := FU.out _ HF.out
            go_wp2
            go_meet
            case rel => exact ⟨ga, s3, m3, n3, c3, t3, o3, p3, d3, gb, s4, m4, n4, c4, t4, o4, p4, d4, rfl, rfl, ⟨LTa.out, LTb.out, by first | exact Nat.ne_of_lt LTab.out | exact Nat.ne_of_gt LTba.out⟩, h.1, h.2.1, h.2.2.1, h.2.2.2.1, h.2.2.2.2.1, h.2.2.2.2.2, BXa.out, BXb.out, TA.out, TB.out⟩
        · go_simp
          have al := below_alloc wzb (.cells #[.bool false, .slice none 0 0, .bool false, .slice none 0 0] 27)
          replace TD := hide (TD.out.below (al))
          have LTba := hide (BXb.out.lt)
          replace BXb := hide (BXb.out.step al)
          have BXa := hide (Box4.new wzb (.bool false) (.slice none 0 0) (.bool false) (.slice none 0 0))
          have LTa := hide (FL.out _ HF.out)
          replace HF := hide (FS.out _ _ HF.out al)
          refine hK _ _ (fun _ => HF.out) ?_
          clear hK K al
          generalize wzb.alloc (.cells #[.bool false, .slice none 0 0, .bool false, .slice none 0 0] 27) = wza at *
          generalize wzb.heap.size = ga at *
          refine Calm.one (i := 4) (l' := #[true, true, true, true, true, true, true, true, false, false, true, true, false, false]) (by kernel_rfl) rfl rfl rfl fun K hK => ?_
          go_simp
          refine (lowest_any _ _ x.num (y.den : Int) _ (FU.out _ HF.out).2.2.2.2.1.num TD.out (SzI.len HX.out.num (by decide)) (SzI.len HY.out.den (by decide)) ZY.out).mono ?_
          rintro e u2 ⟨v, rfl, n, hb⟩
          obtain ⟨s3, m3, n3, c3, t3, o3, p3, d3, rfl, n⟩ := n.cells
          clear TD
          replace BXb := hide (BXb.out.step hb)
          replace BXa := hide (BXa.out.step hb)
          have TA := hide (n)
          replace HF := hide (FS.out _ _ HF.out hb)
          refine hK _ _ (fun _ => HF.out) ?_
          clear hK K hb n
          refine Calm.one (i := 8) (l' := #[true, true, true, true, true, true, true, true, true, false, true, true, false, false]) (by kernel_rfl) rfl rfl rfl fun K hK => ?_
          go_simp
          refine (den_any _ x _ (FU.out _ HF.out).2.2.2.2.1).mono ?_
          rintro e u3 ⟨v, rfl, n, hb⟩
          replace TA := hide (TA.out.below (hb))
          replace BXb := hide (BXb.out.step hb)
          replace BXa := hide (BXa.out.step hb)
          have TE := hide (n)
          replace HF := hide (FS.out _ _ HF.out hb)
          refine hK _ _ (fun _ => HF.out) ?_
          clear hK K hb n
          refine Calm.one (i := 9) (l' := #[true, true, true, true, true, true, true, true, true, true, true, true, false, false]) (by kernel_rfl) rfl rfl rfl fun K hK => ?_
          go_simp
          refine (lowest_any _ _ y.num (x.den : Int) _ (FU.out _ HF.out).2.2.2.2.2.num TE.out (SzI.len HY.out.num (by decide)) (SzI.len HX.out.den (by decide)) ZX.out).mono ?_
          rintro e u4 ⟨v, rfl, n, hb⟩
          obtain ⟨s4, m4, n4, c4, t4, o4, p4, d4, rfl, n⟩ := n.cells
          replace TA := hide (TA.out.below (hb))
          clear TE
          replace BXb := hide (BXb.out.step hb)
          replace BXa := hide (BXa.out.step hb)
          have TB := hide (n)
          replace HF := hide (FS.out _ _ HF.out hb)
          refine hK _ _ (fun _ => HF.out) ?_
          clear hK K hb n
          refine Calm.one (i := 12) (l' := #[true, true, true, true, true, true, true, true, true, true, true, true, true, false]) (by kernel_rfl) rfl rfl rfl fun K hK => ?_
          have hc0 := BXa.out.cell0
          have hc1 := BXa.out.cell1
          have hc2 := BXa.out.cell2
          have hc3 := BXa.out.cell3
          have hf0 := BXa.out.free 0
          have hf1 := BXa.out.free 1
          have hf2 := BXa.out.free 2
          have hf3 := BXa.out.free 3
          go_simp
          replace HF := hide (FP4.out _ ga (.bool s3) (.slice m3 n3 c3) (.bool t3) (.slice o3 p3 d3) HF.out BXa.out LTa.out)
          replace TA := hide (TA.out.keep (BXa.out.keeps (by simp) (by simp) (by simp) (by simp) (.bool s3) (.slice m3 n3 c3) (.bool t3) (.slice o3 p3 d3)))
          replace TB := hide (TB.out.keep (BXa.out.keeps (by simp) (by simp) (by simp) (by simp) (.bool s3) (.slice m3 n3 c3) (.bool t3) (.slice o3 p3 d3)))
          replace BXb := hide (BXb.out.other4 (C := ga) (by first | exact Nat.ne_of_lt LTab.out | exact Nat.ne_of_gt LTba.out) (.bool s3) (.slice m3 n3 c3) (.bool t3) (.slice o3 p3 d3))
          replace BXa := hide (BXa.out.put (.bool s3) (.slice m3 n3 c3) (.bool t3) (.slice o3 p3 d3))
          refine hK _ _ (fun _ => HF.out) ?_
          clear hK K hc0 hf0 hc1 hf1 hc2 hf2 hc3 hf3
          generalize ((((u4.setCell ⟨ga, 0, none⟩ (.bool s3)).setCell ⟨ga, 1, none⟩ (.slice m3 n3 c3)).setCell ⟨ga, 2, none⟩ (.bool t3)).setCell ⟨ga, 3, none⟩ (.slice o3 p3 d3)) = ws12 at *
          refine Calm.one (i := 13) (l' := #[true, true, true, true, true, true, true, true, true, true, true, true, true, true]) (by kernel_rfl) rfl rfl rfl fun K hK => ?_
          have hc0 := BXb.out.cell0
          have hc1 := BXb.out.cell1
          have hc2 := BXb.out.cell2
          have hc3 := BXb.out.cell3
          have hf0 := BXb.out.free 0
          have hf1 := BXb.out.free 1
          have hf2 := BXb.out.free 2
          have hf3 := BXb.out.free 3
          go_simp
          replace HF := hide (FP4.out _ gb (.bool s4) (.slice m4 n4 c4) (.bool t4) (.slice o4 p4 d4) HF.out BXb.out LTb.out)
          replace TA := hide (TA.out.keep (BXb.out.keeps (by simp) (by simp) (by simp) (by simp) (.bool s4) (.slice m4 n4 c4) (.bool t4) (.slice o4 p4 d4)))
          replace TB := hide (TB.out.keep (BXb.out.keeps (by simp) (by simp) (by simp) (by simp) (.bool s4) (.slice m4 n4 c4) (.bool t4) (.slice o4 p4 d4)))
          replace BXa := hide (BXa.out.other4 (C := gb) (by first | exact Nat.ne_of_lt LTba.out | exact Nat.ne_of_gt LTab.out) (.bool s4) (.slice m4 n4 c4) (.bool t4) (.slice o4 p4 d4))
          replace BXb := hide (BXb.out.put (.bool s4) (.slice m4 n4 c4) (.bool t4) (.slice o4 p4 d4))
          refine hK _ _ (fun _ => HF.out) ?_
          clear hK K hc0 hf0 hc1 hf1 hc2 hf2 hc3 hf3
          generalize ((((ws12.setCell ⟨gb, 0, none⟩ (.bool s4)).setCell ⟨gb, 1, none⟩ (.slice m4 n4 c4)).setCell ⟨gb, 2, none⟩ (.bool t4)).setCell ⟨gb, 3, none⟩ (.slice o4 p4 d4)) = ws13 at *
          refine Calm.done (by kernel_rfl) ?_
          have h := FU.out _ HF.out
          go_wp2
          go_meet
          case rel => exact ⟨ga, s3, m3, n3, c3, t3, o3, p3, d3, gb, s4, m4, n4, c4, t4, o4, p4, d4, rfl, rfl, ⟨LTa.out, LTb.out, by first | exact Nat.ne_of_lt LTab.out | exact Nat.ne_of_gt LTba.out⟩, h.1, h.2.1, h.2.2.1, h.2.2.2.1, h.2.2.2.2.1, h.2.2.2.2.2, BXa.out, BXb.out, TA.out, TB.out⟩
    · go_simp
      have al := below_alloc w0d (.cells #[.bool false, .slice none 0 0, .bool false, .slice none 0 0] 27)
      have BXa := hide (Box4.new w0d (.bool false) (.slice none 0 0) (.bool false) (.slice none 0 0))
      have LTa := hide (FL.out _ HF.out)
      replace HF := hide (FS.out _ _ HF.out al)
      refine hK _ _ (fun _ => HF.out) ?_
      clear hK K al
      generalize w0d.alloc (.cells #[.bool false, .slice none 0 0, .bool false, .slice none 0 0] 27) = wza at *
      generalize w0d.heap.size = ga at *
      refine Calm.two (i := 3) (j := 11) (l := #[true, true, true, true, false, true, true, true, false, false, true, false, false, false]) (l' := #[true, true, true, false, false, true, true, true, false, false, true, true, false, false]) (by kernel_rfl) rfl rfl rfl rfl rfl rfl (fun K hK => ?_) (fun K hK => ?_)
      · go_simp
        refine (den_any _ y _ (FU.out _ HF.out).2.2.2.2.2).mono ?_
        rintro e u1 ⟨v, rfl, n, hb⟩
        replace BXa := hide (BXa.out.step hb)
        have TD := hide (n)
        replace HF := hide (FS.out _ _ HF.out hb)
        refine hK _ _ (fun _ => HF.out) ?_
        clear hK K hb n
        refine Calm.two (i := 4) (j := 11) (l := #[true, true, true, true, true, true, true, true, false, false, true, false, false, false]) (l' := #[true, true, true, true, false, true, true, true, false, false, true, true, false, false]) (by kernel_rfl) rfl rfl rfl rfl rfl rfl (fun K hK => ?_) (fun K hK => ?_)
        · go_simp
          refine (lowest_any _ _ x.num (y.den : Int) _ (FU.out _ HF.out).2.2.2.2.1.num TD.out (SzI.len HX.out.num (by decide)) (SzI.len HY.out.den (by decide)) ZY.out).mono ?_
          rintro e u2 ⟨v, rfl, n, hb⟩
          obtain ⟨s3, m3, n3, c3, t3, o3, p3, d3, rfl, n⟩ := n.cells
          clear TD
          replace BXa := hide (BXa.out.step hb)
          have TA := hide (n)
          replace HF := hide (FS.out _ _ HF.out hb)
          refine hK _ _ (fun _ => HF.out) ?_
          clear hK K hb n
          refine Calm.two (i := 8) (j := 11) (l := #[true, true, true, true, true, true, true, true, true, false, true, false, false, false]) (l' := #[true, true, true, true, true, true, true, true, false, false, true, true, false, false]) (by kernel_rfl) rfl rfl rfl rfl rfl rfl (fun K hK => ?_) (fun K hK => ?_)
          · go_simp
            refine (den_any _ x _ (FU.out _ HF.out).2.2.2.2.1).mono ?_
            rintro e u3 ⟨v, rfl, n, hb⟩
            replace TA := hide (TA.out.below (hb))
            replace BXa := hide (BXa.out.step hb)
            have TE := hide (n)
            replace HF := hide (FS.out _ _ HF.out hb)
            refine hK _ _ (fun _ => HF.out) ?_
            clear hK K hb n
            refine Calm.two (i := 9) (j := 11) (l := #[true, true, true, true, true, true, true, true, true, true, true, false, false, false]) (l' := #[true, true, true, true, true, true, true, true, true, false, true, true, false, false]) (by kernel_rfl) rfl rfl rfl rfl rfl rfl (fun K hK => ?_) (fun K hK => ?_)
            · go_simp
              refine (lowest_any _ _ y.num (x.den : Int) _ (FU.out _ HF.out).2.2.2.2.2.num TE.out (SzI.len HY.out.num (by decide)) (SzI.len HX.out.den (by decide)) ZX.out).mono ?_
              rintro e u4 ⟨v, rfl, n, hb⟩
              obtain ⟨s4, m4, n4, c4, t4, o4, p4, d4, rfl, n⟩ := n.cells
              replace TA := hide (TA.out.below (hb))
              clear TE
              replace BXa := hide (BXa.out.step hb)
              have TB := hide (n)
              replace HF := hide (FS.out _ _ HF.out hb)
              refine hK _ _ (fun _ => HF.out) ?_
              clear hK K hb n
              refine Calm.one (i := 11) (l' := #[true, true, true, true, true, true, true, true, true, true, true, true, false, false]) (by kernel_rfl) rfl rfl rfl fun K hK => ?_
              go_simp
              have al := below_alloc u4 (.cells #[.bool false, .slice none 0 0, .bool false, .slice none 0 0] 27)
              replace TA := hide (TA.out.below (al))
              replace TB := hide (TB.out.below (al))
              have LTab := hide (BXa.out.lt)
              replace BXa := hide (BXa.out.step al)
              have BXb := hide (Box4.new u4 (.bool false) (.slice none 0 0) (.bool false) (.slice none 0 0))
              have LTb := hide (FL.out _ HF.out)
              replace HF := hide (FS.out _ _ HF.out al)
              refine hK _ _ (fun _ => HF.out) ?_
              clear hK K al
              generalize u4.alloc (.cells #[.bool false, .slice none 0 0, .bool false, .slice none 0 0] 27) = wzb at *
              generalize u4.heap.size = gb at *
              refine Calm.one (i := 12) (l' := #[true, true, true, true, true, true, true, true, true, true, true, true, true, false]) (by kernel_rfl) rfl rfl rfl fun K hK => ?_
              have hc0 := BXa.out.cell0
              have hc1 := BXa.out.cell1
              have hc2 := BXa.out.cell2
              have hc3 := BXa.out.cell3
              have hf0 := BXa.out.free 0
              have hf1 := BXa.out.free 1
              have hf2 := BXa.out.free 2
              have hf3 := BXa.out.free 3
              go_simp
              replace HF := hide (FP4.out _ ga (.bool s3) (.slice m3 n3 c3) (.bool t3) (.slice o3 p3 d3) HF.out BXa.out LTa.out)
              replace TA := hide (TA.out.keep (BXa.out.keeps (by simp) (by simp) (by simp) (by simp) (.bool s3) (.slice m3 n3 c3) (.bool t3) (.slice o3 p3 d3)))
              replace TB := hide (TB.out.keep (BXa.out.keeps (by simp) (by simp) (by simp) (by simp) (.bool s3) (.slice m3 n3 c3) (.bool t3) (.slice o3 p3 d3)))
              replace BXb := hide (BXb.out.other4 (C := ga) (by first | exact Nat.ne_of_lt LTab.out | exact Nat.ne_of_gt LTba.out) (.bool s3) (.slice m3 n3 c3) (.bool t3) (.slice o3 p3 d3))
              replace BXa := hide (BXa.out.put (.bool s3) (.slice m3 n3 c3) (.bool t3) (.slice o3 p3 d3))
              refine hK _ _ (fun _ => HF.out) ?_
              clear hK K hc0 hf0 hc1 hf1 hc2 hf2 hc3 hf3
              generalize ((((wzb.setCell ⟨ga, 0, none⟩ (.bool s3)).setCell ⟨ga, 1, none⟩ (.slice m3 n3 c3)).setCell ⟨ga, 2, none⟩ (.bool t3)).setCell ⟨ga, 3, none⟩ (.slice o3 p3 d3)) = ws12 at *
              refine Calm.one (i := 13) (l' := #[true, true, true, true, true, true, true, true, true, true, true, true, true, true]) (by kernel_rfl) rfl rfl rfl fun K hK => ?_
              have hc0 := BXb.out.cell0
              have hc1 := BXb.out.cell1
              have hc2 := BXb.out.cell2
              have hc3 := BXb.out.cell3
              have hf0 := BXb.out.free 0
              have hf1 := BXb.out.free 1
              have hf2 := BXb.out.free 2
              have hf3 := BXb.out.free 3
              go_simp
              replace HF := hide (FP4.out _ gb (.bool s4) (.slice m4 n4 c4) (.bool t4) (.slice o4 p4 d4) HF.out BXb.out LTb.out)
              replace TA := hide (TA.out.keep (BXb.out.keeps (by simp) (by simp) (by simp) (by simp) (.bool s4) (.slice m4 n4 c4) (.bool t4) (.slice o4 p4 d4)))
              replace TB := hide (TB.out.keep (BXb.out.keeps (by simp) (by simp) (by simp) (by simp) (.bool s4) (.slice m4 n4 c4) (.bool t4) (.slice o4 p4 d4)))
              replace BXa := hide (BXa.out.other4 (C := gb) (by first | exact Nat.ne_of_lt LTba.out | exact Nat.ne_of_gt LTab.out) (.bool s4) (.slice m4 n4 c4) (.bool t4) (.slice o4 p4 d4))
              replace BXb := hide (BXb.out.put (.bool s4) (.slice m4 n4 c4) (.bool t4) (.slice o4 p4 d4))
              refine hK _ _ (fun _ => HF.out) ?_
              clear hK K hc0 hf0 hc1 hf1 hc2 hf2 hc3 hf3
              generalize ((((ws12.setCell ⟨gb, 0, none⟩ (.bool s4)).setCell ⟨gb, 1, none⟩ (.slice m4 n4 c4)).setCell ⟨gb, 2, none⟩ (.bool t4)).setCell ⟨gb, 3, none⟩ (.slice o4 p4 d4)) = ws13 at *
              refine Calm.done (by kernel_rfl) ?_
              have h := FU.out _ HF.out
              go_wp2
              go_meet
              case rel => exact ⟨ga, s3, m3, n3, c3, t3, o3, p3, d3, gb, s4, m4, n4, c4, t4, o4, p4, d4, rfl, rfl, ⟨LTa.out, LTb.out, by first | exact Nat.ne_of_lt LTab.out | exact Nat.ne_of_gt LTba.out⟩, h.1, h.2.1, h.2.2.1, h.2.2.2.1, h.2.2.2.2.1, h.2.2.2.2.2, BXa.out, BXb.out, TA.out, TB.out⟩
            · go_simp
              have al := below_alloc u3 (.cells #[.bool false, .slice none 0 0, .bool false, .slice none 0 0] 27)
              replace TA := hide (TA.out.below (al))
              replace TE := hide (TE.out.below (al))
              have LTab := hide (BXa.out.lt)
              replace BXa := hide (BXa.out.step al)
              have BXb := hide (Box4.new u3 (.bool false) (.slice none 0 0) (.bool false) (.slice none 0 0))
              have LTb := hide (FL.out _ HF.out)
              replace HF := hide (FS.out _ _ HF.out al)
              refine hK _ _ (fun _ => HF.out) ?_
              clear hK K al
              generalize u3.alloc (.cells #[.bool false, .slice none 0 0, .bool false, .slice none 0 0] 27) = wzb at *
              generalize u3.heap.size = gb at *
              refine Calm.one (i := 9) (l' := #[true, true, true, true, true, true, true, true, true, true, true, true, false, false]) (by kernel_rfl) rfl rfl rfl fun K hK => ?_
              go_simp
              refine (lowest_any _ _ y.num (x.den : Int) _ (FU.out _ HF.out).2.2.2.2.2.num TE.out (SzI.len HY.out.num (by decide)) (SzI.len HX.out.den (by decide)) ZX.out).mono ?_
              rintro e u4 ⟨v, rfl, n, hb⟩
              obtain ⟨s4, m4, n4, c4, t4, o4, p4, d4, rfl, n⟩ := n.cells
              replace TA := hide (TA.out.below (hb))
              clear TE
              replace BXa := hide (BXa.out.step hb)
              replace BXb := hide (BXb.out.step hb)
              have TB := hide (n)
              replace HF := hide (FS.out _ _ HF.out hb)
              refine hK _ _ (fun _ => HF.out) ?_
              clear hK K hb n
              refine Calm.one (i := 12) (l' := #[true, true, true, true, true, true, true, true, true, true, true, true, true, false]) (by kernel_rfl) rfl rfl rfl fun K hK => ?_
              have hc0 := BXa.out.cell0
              have hc1 := BXa.out.cell1
              have hc2 := BXa.out.cell2
              have hc3 := BXa.out.cell3
              have hf0 := BXa.out.free 0
              have hf1 := BXa.out.free 1
              have hf2 := BXa.out.free 2
              have hf3 := BXa.out.free 3
              go_simp
              replace HF := hide (FP4.out _ ga (.bool s3) (.slice m3 n3 c3) (.bool t3) (.slice o3 p3 d3) HF.out BXa.out LTa.out)
              replace TA := hide (TA.out.keep (BXa.out.keeps (by simp) (by simp) (by simp) (by simp) (.bool s3) (.slice m3 n3 c3) (.bool t3) (.slice o3 p3 d3)))
              replace TB := hide (TB.out.keep (BXa.out.keeps (by simp) (by simp) (by simp) (by simp) (.bool s3) (.slice m3 n3 c3) (.bool t3) (.slice o3 p3 d3)))
              replace BXb := hide (BXb.out.other4 (C := ga) (by first | exact Nat.ne_of_lt LTab.out | exact Nat.ne_of_gt LTba.out) (.bool s3) (.slice m3 n3 c3) (.bool t3) (.slice o3 p3 d3))
              replace BXa := hide (BXa.out.put (.bool s3) (.slice m3 n3 c3) (.bool t3) (.slice o3 p3 d3))
              refine hK _ _ (fun _ => HF.out) ?_
              clear hK K hc0 hf0 hc1 hf1 hc2 hf2 hc3 hf3
              generalize ((((u4.setCell ⟨ga, 0, none⟩ (.bool s3)).setCell ⟨ga, 1, none⟩ (.slice m3 n3 c3)).setCell ⟨ga, 2, none⟩ (.bool t3)).setCell ⟨ga, 3, none⟩ (.slice o3 p3 d3)) = ws12 at *
              refine Calm.one (i := 13) (l' := #[true, true, true, true, true, true, true, true, true, true, true, true, true, true]) (by kernel_rfl) rfl rfl rfl fun K hK => ?_
              have hc0 := BXb.out.cell0
              have hc1 := BXb.out.cell1
              have hc2 := BXb.out.cell2
              have hc3 := BXb.out.cell3
              have hf0 := BXb.out.free 0
              have hf1 := BXb.out.free 1
              have hf2 := BXb.out.free 2
              have hf3 := BXb.out.free 3
              go_simp
              replace HF := hide (FP4.out _ gb (.bool s4) (.slice m4 n4 c4) (.bool t4) (.slice o4 p4 d4) HF.out BXb.out LTb.out)
              replace TA := hide (TA.out.keep (BXb.out.keeps (by simp) (by simp) (by simp) (by simp) (.bool s4) (.slice m4 n4 c4) (.bool t4) (.slice o4 p4 d4)))
              replace TB := hide (TB.out.keep (BXb.out.keeps (by simp) (by simp) (by simp) (by simp) (.bool s4) (.slice m4 n4 c4) (.bool t4) (.slice o4 p4 d4)))
              replace BXa := hide (BXa.out.other4 (C := gb) (by first | exact Nat.ne_of_lt LTba.out | exact Nat.ne_of_gt LTab.out) (.bool s4) (.slice m4 n4 c4) (.bool t4) (.slice o4 p4 d4))
              replace BXb := hide (BXb.out.put (.bool s4) (.slice m4 n4 c4) (.bool t4) (.slice o4 p4 d4))
              refine hK _ _ (fun _ => HF.out) ?_
              clear hK K hc0 hf0 hc1 hf1 hc2 hf2 hc3 hf3
              generalize ((((ws12.setCell ⟨gb, 0, none⟩ (.bool s4)).setCell ⟨gb, 1, none⟩ (.slice m4 n4 c4)).setCell ⟨gb, 2, none⟩ (.bool t4)).setCell ⟨gb, 3, none⟩ (.slice o4 p4 d4)) = ws13 at *
              refine Calm.done (by kernel_rfl) ?_
              have h := FU.out _ HF.out
              go_wp2
              go_meet
              case rel => exact ⟨ga, s3, m3, n3, c3, t3, o3, p3, d3, gb, s4, m4, n4, c4, t4, o4, p4, d4, rfl, rfl, ⟨LTa.out, LTb.out, by first | exact Nat.ne_of_lt LTab.out | exact Nat.ne_of_gt LTba.out⟩, h.1, h.2.1, h.2.2.1, h.2.2.2.1, h.2.2.2.2.1, h.2.2.2.2.2, BXa.out, BXb.out, TA.out, TB.out⟩
          · go_simp
            have al := below_alloc u2 (.cells #[.bool false, .slice none 0 0, .bool false, .slice none 0 0] 27)
            replace TA := hide (TA.out.below (al))
            have LTab := hide (BXa.out.lt)
            replace BXa := hide (BXa.out.step al)
            have BXb := hide (Box4.new u2 (.bool false) (.slice none 0 0) (.bool false) (.slice none 0 0))
            have LTb := hide (FL.out _ HF.out)
            replace HF := hide (FS.out _ _ HF.out al)
            refine hK _ _ (fun _ => HF.out) ?_
            clear hK K al
            generalize u2.alloc (.cells #[.bool false, .slice none 0 0, .bool false, .slice none 0 0] 27) = wzb at *
            generalize u2.heap.size = gb at *
            refine Calm.one (i := 8) (l' := #[true, true, true, true, true, true, true, true, true, false, true, true, false, false]) (by kernel_rfl) rfl rfl rfl fun K hK => ?_
            go_simp
            refine (den_any _ x _ (FU.out _ HF.out).2.2.2.2.1).mono ?_
            rintro e u3 ⟨v, rfl, n, hb⟩
            replace TA := hide (TA.out.below (hb))
            replace BXa := hide (BXa.out.step hb)
            replace BXb := hide (BXb.out.step hb)
            have TE := hide (n)
            replace HF := hide (FS.out _ _ HF.out hb)
            refine hK _ _ (fun _ => HF.out) ?_
            clear hK K hb n
            refine Calm.one (i := 9) (l' := #[true, true, true, true, true, true, true, true, true, true, true, true, false, false]) (by kernel_rfl) rfl rfl rfl fun K hK => ?_
            go_simp
            refine (lowest_any _ _ y.num (x.den : Int) _ (FU.out _ HF.out).2.2.2.2.2.num TE.out (SzI.len HY.out.num (by decide)) (SzI.len HX.out.den (by decide)) ZX.out).mono ?_
            rintro e u4 ⟨v, rfl, n, hb⟩
            obtain ⟨s4, m4, n4, c4, t4, o4, p4, d4, rfl, n⟩ := n.cells
            replace TA := hide (TA.out.below (hb))
            clear TE
            replace BXa := hide (BXa.out.step hb)
            replace BXb := hide (BXb.out.step hb)
            have TB := hide (n)
            replace HF := hide (FS.out _ _ HF.out hb)
            refine hK _ _ (fun _ => HF.out) ?_
            clear hK K hb n
            refine Calm.one (i := 12) (l' := #[true, true, true, true, true, true, true, true, true, true, true, true, true, false]) (by kernel_rfl) rfl rfl rfl fun K hK => ?_
            have hc0 := BXa.out.cell0
            have hc1 := BXa.out.cell1
            have hc2 := BXa.out.cell2
            have hc3 := BXa.out.cell3
            have hf0 := BXa.out.free 0
            have hf1 := BXa.out.free 1
            have hf2 := BXa.out.free 2
            have hf3 := BXa.out.free 3
            go_simp
            replace HF := hide (FP4.out _ ga (.bool s3) (.slice m3 n3 c3) (.bool t3) (.slice o3 p3 d3) HF.out BXa.out LTa.out)
            replace TA := hide (TA.out.keep (BXa.out.keeps (by simp) (by simp) (by simp) (by simp) (.bool s3) (.slice m3 n3 c3) (.bool t3) (.slice o3 p3 d3)))
            replace TB := hide (TB.out.keep (BXa.out.keeps (by simp) (by simp) (by simp) (by simp) (.bool s3) (.slice m3 n3 c3) (.bool t3) (.slice o3 p3 d3)))
            replace BXb := hide (BXb.out.other4 (C := ga) (by first | exact Nat.ne_of_lt LTab.out | exact Nat.ne_of_gt LTba.out) (.bool s3) (.slice m3 n3 c3) (.bool t3) (.slice o3 p3 d3))
            replace BXa := hide (BXa.out.put (.bool s3) (.slice m3 n3 c3) (.bool t3) (.slice o3 p3 d3))
            refine hK _ _ (fun _ => HF.out) ?_
            clear hK K hc0 hf0 hc1 hf1 hc2 hf2 hc3 hf3
            generalize ((((u4.setCell ⟨ga, 0, none⟩ (.bool s3)).setCell ⟨ga, 1, none⟩ (.slice m3 n3 c3)).setCell ⟨ga, 2, none⟩ (.bool t3)).setCell ⟨ga, 3, none⟩ (.slice o3 p3 d3)) = ws12 at *
            refine Calm.one (i := 13) (l' := #[true, true, true, true, true, true, true, true, true, true, true, true, true, true]) (by kernel_rfl) rfl rfl rfl fun K hK => ?_
            have hc0 := BXb.out.cell0
            have hc1 := BXb.out.cell1
            have hc2 := BXb.out.cell2
            have hc3 := BXb.out.cell3
            have hf0 := BXb.out.free 0
            have hf1 := BXb.out.free 1
            have hf2 := BXb.out.free 2
            have hf3 := BXb.out.free 3
            go_simp
            replace HF := hide (FP4.out _ gb (.bool s4) (.slice m4 n4 c4) (.bool t4) (.slice o4 p4 d4) HF.out BXb.out LTb.out)
            replace TA := hide (TA.out.keep (BXb.out.keeps (by simp) (by simp) (by simp) (by simp) (.bool s4) (.slice m4 n4 c4) (.bool t4) (.slice o4 p4 d4)))
            replace TB := hide (TB.out.keep (BXb.out.keeps (by simp) (by simp) (by simp) (by simp) (.bool s4) (.slice m4 n4 c4) (.bool t4) (.slice o4 p4 d4)))
            replace BXa := hide (BXa.out.other4 (C := gb) (by first | exact Nat.ne_of_lt LTba.out | exact Nat.ne_of_gt LTab.out) (.bool s4) (.slice m4 n4 c4) (.bool t4) (.slice o4 p4 d4))
            replace BXb := hide (BXb.out.put (.bool s4) (.slice m4 n4 c4) (.bool t4) (.slice o4 p4 d4))
            refine hK _ _ (fun _ => HF.out) ?_
            clear hK K hc0 hf0 hc1 hf1 hc2 hf2 hc3 hf3
            generalize ((((ws12.setCell ⟨gb, 0, none⟩ (.bool s4)).setCell ⟨gb, 1, none⟩ (.slice m4 n4 c4)).setCell ⟨gb, 2, none⟩ (.bool t4)).setCell ⟨gb, 3, none⟩ (.slice o4 p4 d4)) = ws13 at *
            refine Calm.done (by kernel_rfl) ?_
            have h := FU.out _ HF.out
            go_wp2
            go_meet
            case rel => exact ⟨ga, s3, m3, n3, c3, t3, o3, p3, d3, gb, s4, m4, n4, c4, t4, o4, p4, d4, rfl, rfl, ⟨LTa.out, LTb.out, by first | exact Nat.ne_of_lt LTab.out | exact Nat.ne_of_gt LTba.out⟩, h.1, h.2.1, h.2.2.1, h.2.2.2.1, h.2.2.2.2.1, h.2.2.2.2.2, BXa.out, BXb.out, TA.out, TB.out⟩
        · go_simp
          have al := below_alloc u1 (.cells #[.bool false, .slice none 0 0, .bool false, .slice none 0 0] 27)
          replace TD := hide (TD.out.below (al))
          have LTab := hide (BXa.out.lt)
          replace BXa := hide (BXa.out.step al)
          have BXb := hide (Box4.new u1 (.bool false) (.slice none 0 0) (.bool false) (.slice none 0 0))
          have LTb := hide (FL.out _ HF.out)
          replace HF := hide (FS.out _ _ HF.out al)
          refine hK _ _ (fun _ => HF.out) ?_
          clear hK K al
          generalize u1.alloc (.cells #[.bool false, .slice none 0 0, .bool false, .slice none 0 0] 27) = wzb at *
          generalize u1.heap.size = gb at *
          refine Calm.one (i := 4) (l' := #[true, true, true, true, true, true, true, true, false, false, true, true, false, false]) (by kernel_rfl) rfl rfl rfl fun K hK => ?_
          go_simp
          refine (lowest_any _ _ x.num (y.den : Int) _ (FU.out _ HF.out).2.2.2.2.1.num TD.out (SzI.len HX.out.num (by decide)) (SzI.len HY.out.den (by decide)) ZY.out).mono ?_
          rintro e u2 ⟨v, rfl, n, hb⟩
          obtain ⟨s3, m3, n3, c3, t3, o3, p3, d3, rfl, n⟩ := n.cells
          clear TD
          replace BXa := hide (BXa.out.step hb)
          replace BXb := hide (BXb.out.step hb)
          have TA := hide (n)
          replace HF := hide (FS.out _ _ HF.out hb)
          refine hK _ _ (fun _ => HF.out) ?_
          clear hK K hb n
          refine Calm.one (i := 8) (l' := #[true, true, true, true, true, true, true, true, true, false, true, true, false, false]) (by kernel_rfl) rfl rfl rfl fun K hK => ?_
          go_simp
          refine (den_any _ x _ (FU.out _ HF.out).2.2.2.2.1).mono ?_
          rintro e u3 ⟨v, rfl, n, hb⟩
          replace TA := hide (TA.out.below (hb))
          replace BXa := hide (BXa.out.step hb)
          replace BXb := hide (BXb.out.step hb)
          have TE := hide (n)
          replace HF := hide (FS.out _ _ HF.out hb)
          refine hK _ _ (fun _ => HF.out) ?_
          clear hK K hb n
          refine Calm.one (i := 9) (l' := #[true, true, true, true, true, true, true, true, true, true, true, true, false, false]) (by kernel_rfl) rfl rfl rfl fun K hK => ?_
          go_simp
          refine (lowest_any _ _ y.num (x.den : Int) _ (FU.out _ HF.out).2.2.2.2.2.num TE.out (SzI.len HY.out.num (by decide)) (SzI.len HX.out.den (by decide)) ZX.out).mono ?_
          rintro e u4 ⟨v, rfl, n, hb⟩
          obtain ⟨s4, m4, n4, c4, t4, o4, p4, d4, rfl, n⟩ := n.cells
          replace TA := hide (TA.out.below (hb))
          clear TE
          replace BXa := hide (BXa.out.step hb)
          replace BXb := hide (BXb.out.step hb)
          have TB := hide (n)
          replace HF := hide (FS.out _ _ HF.out hb)
          refine hK _ _ (fun _ => HF.out) ?_
          clear hK K hb n
          refine Calm.one (i := 12) (l' := #[true, true, true, true, true, true, true, true, true, true, true, true, true, false]) (by kernel_rfl) rfl rfl rfl fun K hK => ?_
          have hc0 := BXa.out.cell0
          have hc1 := BXa.out.cell1
          have hc2 := BXa.out.cell2
          have hc3 := BXa.out.cell3
          have hf0 := BXa.out.free 0
          have hf1 := BXa.out.free 1
          have hf2 := BXa.out.free 2
          have hf3 := BXa.out.free 3
          go_simp
          replace HF := hide (FP4.out _ ga (.bool s3) (.slice m3 n3 c3) (.bool t3) (.slice o3 p3 d3) HF.out BXa.out LTa.out)
          replace TA := hide (TA.out.keep (BXa.out.keeps (by simp) (by simp) (by simp) (by simp) (.bool s3) (.slice m3 n3 c3) (.bool t3) (.slice o3 p3 d3)))
          replace TB := hide (TB.out.keep (BXa.out.keeps (by simp) (by simp) (by simp) (by simp) (.bool s3) (.slice m3 n3 c3) (.bool t3) (.slice o3 p3 d3)))
          replace BXb := hide (BXb.out.other4 (C := ga) (by first | exact Nat.ne_of_lt LTab.out | exact Nat.ne_of_gt LTba.out) (.bool s3) (.slice m3 n3 c3) (.bool t3) (.slice o3 p3 d3))
          replace BXa := hide (BXa.out.put (.bool s3) (.slice m3 n3 c3) (.bool t3) (.slice o3 p3 d3))
          refine hK _ _ (fun _ => HF.out) ?_
          clear hK K hc0 hf0 hc1 hf1 hc2 hf2 hc3 hf3
          generalize ((((u4.setCell ⟨ga, 0, none⟩ (.bool s3)).setCell ⟨ga, 1, none⟩ (.slice m3 n3 c3)).setCell ⟨ga, 2, none⟩ (.bool t3)).setCell ⟨ga, 3, none⟩ (.slice o3 p3 d3)) = ws12 at *
          refine Calm.one (i := 13) (l' := #[true, true, true, true, true, true, true, true, true, true, true, true, true, true]) (by kernel_rfl) rfl rfl rfl fun K hK => ?_
          have hc0 := BXb.out.cell0
          have hc1 := BXb.out.cell1
          have hc2 := BXb.out.cell2
          have hc3 := BXb.out.cell3
          have hf0 := BXb.out.free 0
          have hf1 := BXb.out.free 1
          have hf2 := BXb.out.free 2
          have hf3 := BXb.out.free 3
          go_simp
          replace HF := hide (FP4.out _ gb (.bool s4) (.slice m4 n4 c4) (.bool t4) (.slice o4 p4 d4) HF.out BXb.out LTb.out)
          replace TA := hide (TA.out.keep (BXb.out.keeps (by simp) (by simp) (by simp) (by simp) (.bool s4) (.slice m4 n4 c4) (.bool t4) (.slice o4 p4 d4)))
          replace TB := hide (TB.out.keep (BXb.out.keeps (by simp) (by simp) (by simp) (by simp) (.bool s4) (.slice m4 n4 c4) (.bool t4) (.slice o4 p4 d4)))
          replace BXa := hide (BXa.out.other4 (C := gb) (by first | exact Nat.ne_of_lt LTba.out | exact Nat.ne_of_gt LTab.out) (.bool s4) (.slice m4 n4 c4) (.bool t4) (.slice o4 p4 d4))
          replace BXb := hide (BXb.out.put (.bool s4) (.slice m4 n4 c4) (.bool t4) (.slice o4 p4 d4))
          refine hK _ _ (fun _ => HF.out) ?_
          clear hK K hc0 hf0 hc1 hf1 hc2 hf2 hc3 hf3
          generalize ((((ws12.setCell ⟨gb, 0, none⟩ (.bool s4)).setCell ⟨gb, 1, none⟩ (.slice m4 n4 c4)).setCell ⟨gb, 2, none⟩ (.bool t4)).setCell ⟨gb, 3, none⟩ (.slice o4 p4 d4)) = ws13 at *
          refine Calm.done (by kernel_rfl) ?_
          have h := FU.out _ HF.out
          go_wp2
          go_meet
          case rel => exact ⟨ga, s3, m3, n3, c3, t3, o3, p3, d3, gb, s4, m4, n4, c4, t4, o4, p4, d4, rfl, rfl, ⟨LTa.out, LTb.out, by first | exact Nat.ne_of_lt LTab.out | exact Nat.ne_of_gt LTba.out⟩, h.1, h.2.1, h.2.2.1, h.2.2.2.1, h.2.2.2.2.1, h.2.2.2.2.2, BXa.out, BXb.out, TA.out, TB.out⟩
      · go_simp
        have al := below_alloc wza (.cells #[.bool false, .slice none 0 0, .bool false, .slice none 0 0] 27)
        have LTab := hide (BXa.out.lt)
        replace BXa := hide (BXa.out.step al)
        have BXb := hide (Box4.new wza (.bool false) (.slice none 0 0) (.bool false) (.slice none 0 0))
        have LTb := hide (FL.out _ HF.out)
        replace HF := hide (FS.out _ _ HF.out al)
        refine hK _ _ (fun _ => HF.out) ?_
        clear hK K al
        generalize wza.alloc (.cells #[.bool false, .slice none 0 0, .bool false, .slice none 0 0] 27) = wzb at *
        generalize wza.heap.size = gb at *
        refine Calm.one (i := 3) (l' := #[true, true, true, true, false, true, true, true, false, false, true, true, false, false]) (by kernel_rfl) rfl rfl rfl fun K hK => ?_
        go_simp
        refine (den_any _ y _ (FU.out _ HF.out).2.2.2.2.2).mono ?_
        rintro e u1 ⟨v, rfl, n, hb⟩
        replace BXa := hide (BXa.out.step hb)
        replace BXb := hide (BXb.out.step hb)
        have TD := hide (n)
        replace HF := hide (FS.out _ _ HF.out hb)
        refine hK _ _ (fun _ => HF.out) ?_
        clear hK K hb n
        refine Calm.one (i := 4) (l' := #[true, true, true, true, true, true, true, true, false, false, true, true, false, false]) (by kernel_rfl) rfl rfl rfl fun K hK => ?_
        go_simp
        refine (lowest_any _ _ x.num (y.den : Int) _ (FU.out _ HF.out).2.2.2.2.1.num TD.out (SzI.len HX.out.num (by decide)) (SzI.len HY.out.den (by decide)) ZY.out).mono ?_
        rintro e u2 ⟨v, rfl, n, hb⟩
        obtain ⟨s3, m3, n3, c3, t3, o3, p3, d3, rfl, n⟩ := n.cells
        clear TD
        replace BXa := hide (BXa.out.step hb)
        replace BXb := hide (BXb.out.step hb)
        have TA := hide (n)
        replace HF := hide (FS.out _ _ HF.out hb)
        refine hK _ _ (fun _ => HF.out) ?_
        clear hK K hb n
        refine Calm.one (i := 8) (l' := #[true, true, true, true, true, true, true, true, true, false, true, true, false, false]) (by kernel_rfl) rfl rfl rfl fun K hK => ?_
        go_simp
        refine (den_any _ x _ (FU.out _ HF.out).2.2.2.2.1).mono ?_
        rintro e u3 ⟨v, rfl, n, hb⟩
        replace TA := hide (TA.out.below (hb))
        replace BXa := hide (BXa.out.step hb)
        replace BXb := hide (BXb.out.step hb)
        have TE := hide (n)
        replace HF := hide (FS.out _ _ HF.out hb)
        refine hK _ _ (fun _ => HF.out) ?_
        clear hK K hb n
        refine Calm.one (i := 9) (l' := #[true, true, true, true, true, true, true, true, true, true, true, true, false, false]) (by kernel_rfl) rfl rfl rfl fun K hK => ?_
        go_simp
        refine (lowest_any _ _ y.num (x.den : Int) _ (FU.out _ HF.out).2.2.2.2.2.num TE.out (SzI.len HY.out.num (by decide)) (SzI.len HX.out.den (by decide)) ZX.out).mono ?_
        rintro e u4 ⟨v, rfl, n, hb⟩
        obtain ⟨s4, m4, n4, c4, t4, o4, p4, d4, rfl, n⟩ := n.cells
        replace TA := hide (TA.out.below (hb))
        clear TE
        replace BXa := hide (BXa.out.step hb)
        replace BXb := hide (BXb.out.step hb)
        have TB := hide (n)
        replace HF := hide (FS.out _ _ HF.out hb)
        refine hK _ _ (fun _ => HF.out) ?_
        clear hK K hb n
        refine Calm.one (i := 12) (l' := #[true, true, true, true, true, true, true, true, true, true, true, true, true, false]) (by kernel_rfl) rfl rfl rfl fun K hK => ?_
        have hc0 := BXa.out.cell0
        have hc1 := BXa.out.cell1
        have hc2 := BXa.out.cell2
        have hc3 := BXa.out.cell3
        have hf0 := BXa.out.free 0
        have hf1 := BXa.out.free 1
        have hf2 := BXa.out.free 2
        have hf3 := BXa.out.free 3
        go_simp
        replace HF := hide (FP4.out _ ga (.bool s3) (.slice m3 n3 c3) (.bool t3) (.slice o3 p3 d3) HF.out BXa.out LTa.out)
        replace TA := hide (TA.out.keep (BXa.out.keeps (by simp) (by simp) (by simp) (by simp) (.bool s3) (.slice m3 n3 c3) (.bool t3) (.slice o3 p3 d3)))
        replace TB := hide (TB.out.keep (BXa.out.keeps (by simp) (by simp) (by simp) (by simp) (.bool s3) (.slice m3 n3 c3) (.bool t3) (.slice o3 p3 d3)))
        replace BXb := hide (BXb.out.other4 (C := ga) (by first | exact Nat.ne_of_lt LTab.out | exact Nat.ne_of_gt LTba.out) (.bool s3) (.slice m3 n3 c3) (.bool t3) (.slice o3 p3 d3))
        replace BXa := hide (BXa.out.put (.bool s3) (.slice m3 n3 c3) (.bool t3) (.slice o3 p3 d3))
        refine hK _ _ (fun _ => HF.out) ?_
        clear hK K hc0 hf0 hc1 hf1 hc2 hf2 hc3 hf3
        generalize ((((u4.setCell ⟨ga, 0, none⟩ (.bool s3)).setCell ⟨ga, 1, none⟩ (.slice m3 n3 c3)).setCell ⟨ga, 2, none⟩ (.bool t3)).setCell ⟨ga, 3, none⟩ (.slice o3 p3 d3)) = ws12 at *
        refine Calm.one (i := 13) (l' := #[true, true, true, true, true, true, true, true, true, true, true, true, true, true]) (by kernel_rfl) rfl rfl rfl fun K hK => ?_
        have hc0 := BXb.out.cell0
        have hc1 := BXb.out.cell1
        have hc2 := BXb.out.cell2
        have hc3 := BXb.out.cell3
        have hf0 := BXb.out.free 0
        have hf1 := BXb.out.free 1
        have hf2 := BXb.out.free 2
        have hf3 := BXb.out.free 3
        go_simp
        replace HF := hide (FP4.out _ gb (.bool s4) (.slice m4 n4 c4) (.bool t4) (.slice o4 p4 d4) HF.out BXb.out LTb.out)
        replace TA := hide (TA.out.keep (BXb.out.keeps (by simp) (by simp) (by simp) (by simp) (.bool s4) (.slice m4 n4 c4) (.bool t4) (.slice o4 p4 d4)))
        replace TB := hide (TB.out.keep (BXb.out.keeps (by simp) (by simp) (by simp) (by simp) (.bool s4) (.slice m4 n4 c4) (.bool t4) (.slice o4 p4 d4)))
        replace BXa := hide (BXa.out.other4 (C := gb) (by first | exact Nat.ne_of_lt LTba.out | exact Nat.ne_of_gt LTab.out) (.bool s4) (.slice m4 n4 c4) (.bool t4) (.slice o4 p4 d4))
        replace BXb := hide (BXb.out.put (.bool s4) (.slice m4 n4 c4) (.bool t4) (.slice o4 p4 d4))
        refine hK _ _ (fun _ => HF.out) ?_
        clear hK K hc0 hf0 hc1 hf1 hc2 hf2 hc3 hf3
        generalize ((((ws12.setCell ⟨gb, 0, none⟩ (.bool s4)).setCell ⟨gb, 1, none⟩ (.slice m4 n4 c4)).setCell ⟨gb, 2, none⟩ (.bool t4)).setCell ⟨gb, 3, none⟩ (.slice o4 p4 d4)) = ws13 at *
        refine Calm.done (by kernel_rfl) ?_
        have h := FU.out _ HF.out
        go_wp2
        go_meet
        case rel => exact ⟨ga, s3, m3, n3, c3, t3, o3, p3, d3, gb, s4, m4, n4, c4, t4, o4, p4, d4, rfl, rfl, ⟨LTa.out, LTb.out, by first | exact Nat.ne_of_lt LTab.out | exact Nat.ne_of_gt LTba.out⟩, h.1, h.2.1, h.2.2.1, h.2.2.2.1, h.2.2.2.2.1, h.2.2.2.2.2, BXa.out, BXb.out, TA.out, TB.out⟩
    · go_simp
      have al := below_alloc w0d (.cells #[.bool false, .slice none 0 0, .bool false, .slice none 0 0] 27)
      have BXb := hide (Box4.new w0d (.bool false) (.slice none 0 0) (.bool false) (.slice none 0 0))
      have LTb := hide (FL.out _ HF.out)
      replace HF := hide (FS.out _ _ HF.out al)
      refine hK _ _ (fun _ => HF.out) ?_
      clear hK K al
      generalize w0d.alloc (.cells #[.bool false, .slice none 0 0, .bool false, .slice none 0 0] 27) = wzb at *
      generalize w0d.heap.size = gb at *
      refine Calm.two (i := 3) (j := 10) (l := #[true, true, true, true, false, true, true, true, false, false, false, true, false, false]) (l' := #[true, true, true, false, false, true, true, true, false, false, true, true, false, false]) (by kernel_rfl) rfl rfl rfl rfl rfl rfl (fun K hK => ?_) (fun K hK => ?_)
      · go_simp
        refine (den_any _ y _ (FU.out _ HF.out).2.2.2.2.2).mono ?_
        rintro e u1 ⟨v, rfl, n, hb⟩
        replace BXb := hide (BXb.out.step hb)
        have TD := hide (n)
        replace HF := hide (FS.out _ _ HF.out hb)
        refine hK _ _ (fun _ => HF.out) ?_
        clear hK K hb n
        refine Calm.two (i := 4) (j := 10) (l := #[true, true, true, true, true, true, true, true, false, false, false, true, false, false]) (l' := #[true, true, true, true, false, true, true, true, false, false, true, true, false, false]) (by kernel_rfl) rfl rfl rfl rfl rfl rfl (fun K hK => ?_) (fun K hK => ?_)
        · go_simp
          refine (lowest_any _ _ x.num (y.den : Int) _ (FU.out _ HF.out).2.2.2.2.1.num TD.out (SzI.len HX.out.num (by decide)) (SzI.len HY.out.den (by decide)) ZY.out).mono ?_
          rintro e u2 ⟨v, rfl, n, hb⟩
          obtain ⟨s3, m3, n3, c3, t3, o3, p3, d3, rfl, n⟩ := n.cells
          clear TD
          replace BXb := hide (BXb.out.step hb)
          have TA := hide (n)
          replace HF := hide (FS.out _ _ HF.out hb)
          refine hK _ _ (fun _ => HF.out) ?_
          clear hK K hb n
          refine Calm.two (i := 8) (j := 10) (l := #[true, true, true, true, true, true, true, true, true, false, false, true, false, false]) (l' := #[true, true, true, true, true, true, true, true, false, false, true, true, false, false]) (by kernel_rfl) rfl rfl rfl rfl rfl rfl (fun K hK => ?_) (fun K hK => ?_)
          · go_simp
            refine (den_any _ x _ (FU.out _ HF.out).2.2.2.2.1).mono ?_
            rintro e u3 ⟨v, rfl, n, hb⟩
            replace TA := hide (TA.out.below (hb))
            replace BXb := hide (BXb.out.step hb)
            have TE := hide (n)
            replace HF := hide (FS.out _ _ HF.out hb)
            refine hK _ _ (fun _ => HF.out) ?_
            clear hK K hb n
            refine Calm.two (i := 9) (j := 10) (l := #[true, true, true, true, true, true, true, true, true, true, false, true, false, false]) (l' := #[true, true, true, true, true, true, true, true, true, false, true, true, false, false]) (by kernel_rfl) rfl rfl rfl rfl rfl rfl (fun K hK => ?_) (fun K hK => ?_)
            · go_simp
              refine (lowest_any _ _ y.num (x.den : Int) _ (FU.out _ HF.out).2.2.2.2.2.num TE.out (SzI.len HY.out.num (by decide)) (SzI.len HX.out.den (by decide)) ZX.out).mono ?_
              rintro e u4 ⟨v, rfl, n, hb⟩
              obtain ⟨s4, m4, n4, c4, t4, o4, p4, d4, rfl, n⟩ := n.cells
              replace TA := hide (TA.out.below (hb))
              clear TE
              replace BXb := hide (BXb.out.step hb)
              have TB := hide (n)
              replace HF := hide (FS.out _ _ HF.out hb)
              refine hK _ _ (fun _ => HF.out) ?_
              clear hK K hb n
              refine Calm.one (i := 10) (l' := #[true, true, true, true, true, true, true, true, true, true, true, true, false, false]) (by kernel_rfl) rfl rfl rfl fun K hK => ?_
              go_simp
              have al := below_alloc u4 (.cells #[.bool false, .slice none 0 0, .bool false, .slice none 0 0] 27)
              replace TA := hide (TA.out.below (al))
              replace TB := hide (TB.out.below (al))
              have LTba := hide (BXb.out.lt)
              replace BXb := hide (BXb.out.step al)
              have BXa := hide (Box4.new u4 (.bool false) (.slice none 0 0) (.bool false) (.slice none 0 0))
              have LTa := hide (FL.out _ HF.out)
              replace HF := hide (FS.out _ _ HF.out al)
              refine hK _ _ (fun _ => HF.out) ?_
              clear hK K al
              generalize u4.alloc (.cells #[.bool false, .slice none 0 0, .bool false, .slice none 0 0] 27) = wza at *
              generalize u4.heap.size = ga at *
              refine Calm.one (i := 12) (l' := #[true, true, true, true, true, true, true, true, true, true, true, true, true, false]) (by kernel_rfl) rfl rfl rfl fun K hK => ?_
              have hc0 := BXa.out.cell0
              have hc1 := BXa.out.cell1
              have hc2 := BXa.out.cell2
              have hc3 := BXa.out.cell3
              have hf0 := BXa.out.free 0
              have hf1 := BXa.out.free 1
              have hf2 := BXa.out.free 2
              have hf3 := BXa.out.free 3
              go_simp
              replace HF := hide (FP4.out _ ga (.bool s3) (.slice m3 n3 c3) (.bool t3) (.slice o3 p3 d3) HF.out BXa.out LTa.out)
              replace TA := hide (TA.out.keep (BXa.out.keeps (by simp) (by simp) (by simp) (by simp) (.bool s3) (.slice m3 n3 c3) (.bool t3) (.slice o3 p3 d3)))
              replace TB := hide (TB.out.keep (BXa.out.keeps (by simp) (by simp) (by simp) (by simp) (.bool s3) (.slice m3 n3 c3) (.bool t3) (.slice o3 p3 d3)))
              replace BXb := hide (BXb.out.other4 (C := ga) (by first | exact Nat.ne_of_lt LTab.out | exact Nat.ne_of_gt LTba.out) (.bool s3) (.slice m3 n3 c3) (.bool t3) (.slice o3 p3 d3))
              replace BXa := hide (BXa.out.put (.bool s3) (.slice m3 n3 c3) (.bool t3) (.slice o3 p3 d3))
              refine hK _ _ (fun _ => HF.out) ?_
              clear hK K hc0 hf0 hc1 hf1 hc2 hf2 hc3 hf3
              generalize ((((wza.setCell ⟨ga, 0, none⟩ (.bool s3)).setCell ⟨ga, 1, none⟩ (.slice m3 n3 c3)).setCell ⟨ga, 2, none⟩ (.bool t3)).setCell ⟨ga, 3, none⟩ (.slice o3 p3 d3)) = ws12 at *
              refine Calm.one (i := 13) (l' := #[true, true, true, true, true, true, true, true, true, true, true, true, true, true]) (by kernel_rfl) rfl rfl rfl fun K hK => ?_
              have hc0 := BXb.out.cell0
              have hc1 := BXb.out.cell1
              have hc2 := BXb.out.cell2
              have hc3 := BXb.out.cell3
              have hf0 := BXb.out.free 0
              have hf1 := BXb.out.free 1
              have hf2 := BXb.out.free 2
              have hf3 := BXb.out.free 3
              go_simp
              replace HF := hide (FP4.out _ gb (.bool s4) (.slice m4 n4 c4) (.bool t4) (.slice o4 p4 d4) HF.out BXb.out LTb.out)
              replace TA := hide (TA.out.keep (BXb.out.keeps (by simp) (by simp) (by simp) (by simp) (.bool s4) (.slice m4 n4 c4) (.bool t4) (.slice o4 p4 d4)))
              replace TB := hide (TB.out.keep (BXb.out.keeps (by simp) (by simp) (by simp) (by simp) (.bool s4) (.slice m4 n4 c4) (.bool t4) (.slice o4 p4 d4)))
              replace BXa := hide (BXa.out.other4 (C := gb) (by first | exact Nat.ne_of_lt LTba.out | exact Nat.ne_of_gt LTab.out) (.bool s4) (.slice m4 n4 c4) (.bool t4) (.slice o4 p4 d4))
              replace BXb := hide (BXb.out.put (.bool s4) (.slice m4 n4 c4) (.bool t4) (.slice o4 p4 d4))
              refine hK _ _ (fun _ => HF.out) ?_
              clear hK K hc0 hf0 hc1 hf1 hc2 hf2 hc3 hf3
              generalize ((((ws12.setCell ⟨gb, 0, none⟩ (.bool s4)).setCell ⟨gb, 1, none⟩ (.slice m4 n4 c4)).setCell ⟨gb, 2, none⟩ (.bool t4)).setCell ⟨gb, 3, none⟩ (.slice o4 p4 d4)) = ws13 at *
              refine Calm.done (by kernel_rfl) ?_
              have h := FU.out _ HF.out
              go_wp2
              go_meet
              case rel => exact ⟨ga, s3, m3, n3, c3, t3, o3, p3, d3, gb, s4, m4, n4, c4, t4, o4, p4, d4, rfl, rfl, ⟨LTa.out, LTb.out, by first | exact Nat.ne_of_lt LTab.out | exact Nat.ne_of_gt LTba.out⟩, h.1, h.2.1, h.2.2.1, h.2.2.2.1, h.2.2.2.2.1, h.2.2.2.2.2, BXa.out, BXb.out, TA.out, TB.out⟩
            · go_simp
              have al := below_alloc u3 (.cells #[.bool false, .slice none 0 0, .bool false, .slice none 0 0] 27)
              replace TA := hide (TA.out.below (al))
              replace TE := hide (TE.out.below (al))
              have LTba := hide (BXb.out.lt)
              replace BXb := hide (BXb.out.step al)
              have BXa := hide (Box4.new u3 (.bool false) (.slice none 0 0) (.bool false) (.slice none 0 0))
              have LTa := hide (FL.out _ HF.out)
              replace HF := hide (FS.out _ _ HF.out al)
              refine hK _ _ (fun _ => HF.out) ?_
              clear hK K al
              generalize u3.alloc (.cells #[.bool false, .slice none 0 0, .bool false, .slice none 0 0] 27) = wza at *
              generalize u3.heap.size = ga at *
              refine Calm.one (i := 9) (l' := #[true, true, true, true, true, true, true, true, true, true, true, true, false, false]) (by kernel_rfl) rfl rfl rfl fun K hK => ?_
              go_simp
              refine (lowest_any _ _ y.num (x.den : Int) _ (FU.out _ HF.out).2.2.2.2.2.num TE.out (SzI.len HY.out.num (by decide)) (SzI.len HX.out.den (by decide)) ZX.out).mono ?_
              rintro e u4 ⟨v, rfl, n, hb⟩
              obtain ⟨s4, m4, n4, c4, t4, o4, p4, d4, rfl, n⟩ := n.cells
              replace TA := hide (TA.out.below (hb))
              clear TE
              replace BXb := hide (BXb.out.step hb)
              replace BXa := hide (BXa.out.step hb)
              have TB := hide (n)
              replace HF := hide (FS.out _ _ HF.out hb)
              refine hK _ _ (fun _ => HF.out) ?_
              clear hK K hb n
              refine Calm.one (i := 12) (l' := #[true, true, true, true, true, true, true, true, true, true, true, true, true, false]) (by kernel_rfl) rfl rfl rfl fun K hK => ?_
              have hc0 := BXa.out.cell0
              have hc1 := BXa.out.cell1
              have hc2 := BXa.out.cell2
              have hc3 := BXa.out.cell3
              have hf0 := BXa.out.free 0
              have hf1 := BXa.out.free 1
              have hf2 := BXa.out.free 2
              have hf3 := BXa.out.free 3
              go_simp
              replace HF := hide (FP4.out _ ga (.bool s3) (.slice m3 n3 c3) (.bool t3) (.slice o3 p3 d3) HF.out BXa.out LTa.out)
              replace TA := hide (TA.out.keep (BXa.out.keeps (by simp) (by simp) (by simp) (by simp) (.bool s3) (.slice m3 n3 c3) (.bool t3) (.slice o3 p3 d3)))
              replace TB := hide (TB.out.keep (BXa.out.keeps (by simp) (by simp) (by simp) (by simp) (.bool s3) (.slice m3 n3 c3) (.bool t3) (.slice o3 p3 d3)))
              replace BXb := hide (BXb.out.other4 (C := ga) (by first | exact Nat.ne_of_lt LTab.out | exact Nat.ne_of_gt LTba.out) (.bool s3) (.slice m3 n3 c3) (.bool t3) (.slice o3 p3 d3))
              replace BXa := hide (BXa.out.put (.bool s3) (.slice m3 n3 c3) (.bool t3) (.slice o3 p3 d3))
              refine hK _ _ (fun _ => HF.out) ?_
              clear hK K hc0 hf0 hc1 hf1 hc2 hf2 hc3 hf3
              generalize ((((u4.setCell ⟨ga, 0, none⟩ (.bool s3)).setCell ⟨ga, 1, none⟩ (.slice m3 n3 c3)).setCell ⟨ga, 2, none⟩ (.bool t3)).setCell ⟨ga, 3, none⟩ (.slice o3 p3 d3)) = ws12 at *
              refine Calm.one (i := 13) (l' := #[true, true, true, true, true, true, true, true, true, true, true, true, true, true]) (by kernel_rfl) rfl rfl rfl fun K hK => ?_
              have hc0 := BXb.out.cell0
              have hc1 := BXb.out.cell1
              have hc2 := BXb.out.cell2
              have hc3 := BXb.out.cell3
              have hf0 := BXb.out.free 0
              have hf1 := BXb.out.free 1
              have hf2 := BXb.out.free 2
              have hf3 := BXb.out.free 3
              go_simp
              replace HF := hide (FP4.out _ gb (.bool s4) (.slice m4 n4 c4) (.bool t4) (.slice o4 p4 d4) HF.out BXb.out LTb.out)
              replace TA := hide (TA.out.keep (BXb.out.keeps (by simp) (by simp) (by simp) (by simp) (.bool s4) (.slice m4 n4 c4) (.bool t4) (.slice o4 p4 d4)))
              replace TB := hide (TB.out.keep (BXb.out.keeps (by simp) (by simp) (by simp) (by simp) (.bool s4) (.slice m4 n4 c4) (.bool t4) (.slice o4 p4 d4)))
              replace BXa := hide (BXa.out.other4 (C := gb) (by first | exact Nat.ne_of_lt LTba.out | exact Nat.ne_of_gt LTab.out) (.bool s4) (.slice m4 n4 c4) (.bool t4) (.slice o4 p4 d4))
              replace BXb := hide (BXb.out.put (.bool s4) (.slice m4 n4 c4) (.bool t4) (.slice o4 p4 d4))
              refine hK _ _ (fun _ => HF.out) ?_
              clear hK K hc0 hf0 hc1 hf1 hc2 hf2 hc3 hf3
              generalize ((((ws12.setCell ⟨gb, 0, none⟩ (.bool s4)).setCell ⟨gb, 1, none⟩ (.slice m4 n4 c4)).setCell ⟨gb, 2, none⟩ (.bool t4)).setCell ⟨gb, 3, none⟩ (.slice o4 p4 d4)) = ws13 at *
              refine Calm.done (by kernel_rfl) ?_
              have h := FU.out _ HF.out
              go_wp2
              go_meet
              case rel => exact ⟨ga, s3, m3, n3, c3, t3, o3, p3, d3, gb, s4, m4, n4, c4, t4, o4, p4, d4, rfl, rfl, ⟨LTa.out, LTb.out, by first | exact Nat.ne_of_lt LTab.out | exact Nat.ne_of_gt LTba.out⟩, h.1, h.2.1, h.2.2.1, h.2.2.2.1, h.2.2.2.2.1, h.2.2.2.2.2, BXa.out, BXb.out, TA.out, TB.out⟩
          · go_simp
            have al := below_alloc u2 (.cells #[.bool false, .slice none 0 0, .bool false, .slice none 0 0] 27)
            replace TA := hide (TA.out.below (al))
            have LTba := hide (BXb.out.lt)
            replace BXb := hide (BXb.out.step al)
            have BXa := hide (Box4.new u2 (.bool false) (.slice none 0 0) (.bool false) (.slice none 0 0))
            have LTa := hide (FL.out _ HF.out)
            replace HF := hide (FS.out _ _ HF.out al)
            refine hK _ _ (fun _ => HF.out) ?_
            clear hK K al
            generalize u2.alloc (.cells #[.bool false, .slice none 0 0, .bool false, .slice none 0 0] 27) = wza at *
            generalize u2.heap.size = ga at *
            refine Calm.one (i := 8) (l' := #[true, true, true, true, true, true, true, true, true, false, true, true, false, false]) (by kernel_rfl) rfl rfl rfl fun K hK => ?_
            go_simp
            refine (den_any _ x _ (FU.out _ HF.out).2.2.2.2.1).mono ?_
            rintro e u3 ⟨v, rfl, n, hb⟩
            replace TA := hide (TA.out.below (hb))
            replace BXb := hide (BXb.out.step hb)
            replace BXa := hide (BXa.out.step hb)
            have TE := hide (n)
            replace HF := hide (FS.out _ _ HF.out hb)
            refine hK _ _ (fun _ => HF.out) ?_
            clear hK K hb n
            refine Calm.one (i := 9) (l' := #[true, true, true, true, true, true, true, true, true, true, true, true, false, false]) (by kernel_rfl) rfl rfl rfl fun K hK => ?_
            go_simp
            refine (lowest_any _ _ y.num (x.den : Int) _ (FU.out _ HF.out).2.2.2.2.2.num TE.out (SzI.len HY.out.num (by decide)) (SzI.len HX.out.den (by decide)) ZX.out).mono ?_
            rintro e u4 ⟨v, rfl, n, hb⟩
            obtain ⟨s4, m4, n4, c4, t4, o4, p4, d4, rfl, n⟩ := n.cells
            replace TA := hide (TA.out.below (hb))
            clear TE
            replace BXb := hide (BXb.out.step hb)
            replace BXa := hide (BXa.out.step hb)
            have TB := hide (n)
            replace HF := hide (FS.out _ _ HF.out hb)
            refine hK _ _ (fun _ => HF.out) ?_
            clear hK K hb n
            refine Calm.one (i := 12) (l' := #[true, true, true, true, true, true, true, true, true, true, true, true, true, false]) (by kernel_rfl) rfl rfl rfl fun K hK => ?_
            have hc0 := BXa.out.cell0
            have hc1 := BXa.out.cell1
            have hc2 := BXa.out.cell2
            have hc3 := BXa.out.cell3
            have hf0 := BXa.out.free 0
            have hf1 := BXa.out.free 1
            have hf2 := BXa.out.free 2
            have hf3 := BXa.out.free 3
            go_simp
            replace HF := hide (FP4.out _ ga (.bool s3) (.slice m3 n3 c3) (.bool t3) (.slice o3 p3 d3) HF.out BXa.out LTa.out)
            replace TA := hide (TA.out.keep (BXa.out.keeps (by simp) (by simp) (by simp) (by simp) (.bool s3) (.slice m3 n3 c3) (.bool t3) (.slice o3 p3 d3)))
            replace TB := hide (TB.out.keep (BXa.out.keeps (by simp) (by simp) (by simp) (by simp) (.bool s3) (.slice m3 n3 c3) (.bool t3) (.slice o3 p3 d3)))
            replace BXb := hide (BXb.out.other4 (C := ga) (by first | exact Nat.ne_of_lt LTab.out | exact Nat.ne_of_gt LTba.out) (.bool s3) (.slice m3 n3 c3) (.bool t3) (.slice o3 p3 d3))
            replace BXa := hide (BXa.out.put (.bool s3) (.slice m3 n3 c3) (.bool t3) (.slice o3 p3 d3))
            refine hK _ _ (fun _ => HF.out) ?_
            clear hK K hc0 hf0 hc1 hf1 hc2 hf2 hc3 hf3
            generalize ((((u4.setCell ⟨ga, 0, none⟩ (.bool s3)).setCell ⟨ga, 1, none⟩ (.slice m3 n3 c3)).setCell ⟨ga, 2, none⟩ (.bool t3)).setCell ⟨ga, 3, none⟩ (.slice o3 p3 d3)) = ws12 at *
            refine Calm.one (i := 13) (l' := #[true, true, true, true, true, true, true, true, true, true, true, true, true, true]) (by kernel_rfl) rfl rfl rfl fun K hK => ?_
            have hc0 := BXb.out.cell0
            have hc1 := BXb.out.cell1
            have hc2 := BXb.out.cell2
            have hc3 := BXb.out.cell3
            have hf0 := BXb.out.free 0
            have hf1 := BXb.out.free 1
            have hf2 := BXb.out.free 2
            have hf3 := BXb.out.free 3
            go_simp
            replace HF := hide (FP4.out _ gb (.bool s4) (.slice m4 n4 c4) (.bool t4) (.slice o4 p4 d4) HF.out BXb.out LTb.out)
            replace TA := hide (TA.out.keep (BXb.out.keeps (by simp) (by simp) (by simp) (by simp) (.bool s4) (.slice m4 n4 c4) (.bool t4) (.slice o4 p4 d4)))
            replace TB := hide (TB.out.keep (BXb.out.keeps (by simp) (by simp) (by simp) (by simp) (.bool s4) (.slice m4 n4 c4) (.bool t4) (.slice o4 p4 d4)))
            replace BXa := hide (BXa.out.other4 (C := gb) (by first | exact Nat.ne_of_lt LTba.out | exact Nat.ne_of_gt LTab.out) (.bool s4) (.slice m4 n4 c4) (.bool t4) (.slice o4 p4 d4))
            replace BXb := hide (BXb.out.put (.bool s4) (.slice m4 n4 c4) (.bool t4) (.slice o4 p4 d4))
            refine hK _ _ (fun _ => HF.out) ?_
            clear hK K hc0 hf0 hc1 hf1 hc2 hf2 hc3 hf3
            generalize ((((ws12.setCell ⟨gb, 0, none⟩ (.bool s4)).setCell ⟨gb, 1, none⟩ (.slice m4 n4 c4)).setCell ⟨gb, 2, none⟩ (.bool t4)).setCell ⟨gb, 3, none⟩ (.slice o4 p4 d4)) = ws13 at *
            refine Calm.done (by kernel_rfl) ?_
            have h := FU.out _ HF.out
            go_wp2
            go_meet
            case rel => exact ⟨ga, s3, m3, n3, c3, t3, o3, p3, d3, gb, s4, m4, n4, c4, t4, o4, p4, d4, rfl, rfl, ⟨LTa.out, LTb.out, by first | exact Nat.ne_of_lt LTab.out | exact Nat.ne_of_gt LTba.out⟩, h.1, h.2.1, h.2.2.1, h.2.2.2.1, h.2.2.2.2.1, h.2.2.2.2.2, BXa.out, BXb.out, TA.out, TB.out⟩
        · go_simp
          have al := below_alloc u1 (.cells #[.bool false, .slice none 0 0, .bool false, .slice none 0 0] 27)
          replace TD := hide (TD.out.below (al))
          have LTba := hide (BXb.out.lt)
          replace BXb := hide (BXb.out.step al)
          have BXa := hide (Box4.new u1 (.bool false) (.slice none 0 0) (.bool false) (.slice none 0 0))
          have LTa := hide (FL.out _ HF.out)
          replace HF := hide (FS.out _ _ HF.out al)
          refine hK _ _ (fun _ => HF.out) ?_
          clear hK K al
          generalize u1.alloc (.cells #[.bool false, .slice none 0 0, .bool false, .slice none 0 0] 27) = wza at *
          generalize u1.heap.size = ga at *
          refine Calm.one (i := 4) (l' := #[true, true, true, true, true, true, true, true, false, false, true, true, false, false]) (by kernel_rfl) rfl rfl rfl fun K hK => ?_
          go_simp
          refine (lowest_any _ _ x.num (y.den : Int) _ (FU.out _ HF.out).2.2.2.2.1.num TD.out (SzI.len HX.out.num (by decide)) (SzI.len HY.out.den (by decide)) ZY.out).mono ?_
          rintro e u2 ⟨v, rfl, n, hb⟩
          obtain ⟨s3, m3, n3, c3, t3, o3, p3, d3, rfl, n⟩ := n.cells
          clear TD
          replace BXb := hide (BXb.out.step hb)
          replace BXa := hide (BXa.out.step hb)
          have TA := hide (n)
          replace HF := hide (FS.out _ _ HF.out hb)
          refine hK _ _ (fun _ => HF.out) ?_
          clear hK K hb n
          refine Calm.one (i := 8) (l' := #[true, true, true, true, true, true, true, true, true, false, true, true, false, false]) (by kernel_rfl) rfl rfl rfl fun K hK => ?_
          go_simp
          refine (den_any _ x _ (FU.out _ HF.out).2.2.2.2.1).mono ?_
          rintro e u3 ⟨v, rfl, n, hb⟩
          replace TA := hide (TA.out.below (hb))
          replace BXb := hide (BXb.out.step hb)
          replace BXa := hide (BXa.out.step hb)
          have TE := hide (n)
          replace HF := hide (FS.out _ _ HF.out hb)
          refine hK _ _ (fun _ => HF.out) ?_
          clear hK K hb n
          refine Calm.one (i := 9) (l' := #[true, true, true, true, true, true, true, true, true, true, true, true, false, false]) (by kernel_rfl) rfl rfl rfl fun K hK => ?_
          go_simp
          refine (lowest_any _ _ y.num (x.den : Int) _ (FU.out _ HF.out).2.2.2.2.2.num TE.out (SzI.len HY.out.num (by decide)) (SzI.len HX.out.den (by decide)) ZX.out).mono ?_
          rintro e u4 ⟨v, rfl, n, hb⟩
          obtain ⟨s4, m4, n4, c4, t4, o4, p4, d4, rfl, n⟩ := n.cells
          replace TA := hide (TA.out.below (hb))
          clear TE
          replace BXb := hide (BXb.out.step hb)
          replace BXa := hide (BXa.out.step hb)
          have TB := hide (n)
          replace HF := hide (FS.out _ _ HF.out hb)
          refine hK _ _ (fun _ => HF.out) ?_
          clear hK K hb n
          refine Calm.one (i := 12) (l' := #[true, true, true, true, true, true, true, true, true, true, true, true, true, false]) (by kernel_rfl) rfl rfl rfl fun K hK => ?_
          have hc0 := BXa.out.cell0
          have hc1 := BXa.out.cell1
          have hc2 := BXa.out.cell2
          have hc3 := BXa.out.cell3
          have hf0 := BXa.out.free 0
          have hf1 := BXa.out.free 1
          have hf2 := BXa.out.free 2
          have hf3 := BXa.out.free 3
          go_simp
          replace HF := hide (FP4.out _ ga (.bool s3) (.slice m3 n3 c3) (.bool t3) (.slice o3 p3 d3) HF.out BXa.out LTa.out)
          replace TA := hide (TA.out.keep (BXa.out.keeps (by simp) (by simp) (by simp) (by simp) (.bool s3) (.slice m3 n3 c3) (.bool t3) (.slice o3 p3 d3)))
          replace TB := hide (TB.out.keep (BXa.out.keeps (by simp) (by simp) (by simp) (by simp) (.bool s3) (.slice m3 n3 c3) (.bool t3) (.slice o3 p3 d3)))
          replace BXb := hide (BXb.out.other4 (C := ga) (by first | exact Nat.ne_of_lt LTab.out | exact Nat.ne_of_gt LTba.out) (.bool s3) (.slice m3 n3 c3) (.bool t3) (.slice o3 p3 d3))
          replace BXa := hide (BXa.out.put (.bool s3) (.slice m3 n3 c3) (.bool t3) (.slice o3 p3 d3))
          refine hK _ _ (fun _ => HF.out) ?_
          clear hK K hc0 hf0 hc1 hf1 hc2 hf2 hc3 hf3
          generalize ((((u4.setCell ⟨ga, 0, none⟩ (.bool s3)).setCell ⟨ga, 1, none⟩ (.slice m3 n3 c3)).setCell ⟨ga, 2, none⟩ (.bool t3)).setCell ⟨ga, 3, none⟩ (.slice o3 p3 d3)) = ws12 at *
          refine Calm.one (i := 13) (l' := #[true, true, true, true, true, true, true, true, true, true, true, true, true, true]) (by kernel_rfl) rfl rfl rfl fun K hK => ?_
          have hc0 := BXb.out.cell0
          have hc1 := BXb.out.cell1
          have hc2 := BXb.out.cell2
          have hc3 := BXb.out.cell3
          have hf0 := BXb.out.free 0
          have hf1 := BXb.out.free 1
          have hf2 := BXb.out.free 2
          have hf3 := BXb.out.free 3
          go_simp
          replace HF := hide (FP4.out _ gb (.bool s4) (.slice m4 n4 c4) (.bool t4) (.slice o4 p4 d4) HF.out BXb.out LTb.out)
          replace TA := hide (TA.out.keep (BXb.out.keeps (by simp) (by simp) (by simp) (by simp) (.bool s4) (.slice m4 n4 c4) (.bool t4) (.slice o4 p4 d4)))
          replace TB := hide (TB.out.keep (BXb.out.keeps (by simp) (by simp) (by simp) (by simp) (.bool s4) (.slice m4 n4 c4) (.bool t4) (.slice o4 p4 d4)))
          replace BXa := hide (BXa.out.other4 (C := gb) (by first | exact Nat.ne_of_lt LTba.out | exact Nat.ne_of_gt LTab.out) (.bool s4) (.slice m4 n4 c4) (.bool t4) (.slice o4 p4 d4))
          replace BXb := hide (BXb.out.put (.bool s4) (.slice m4 n4 c4) (.bool t4) (.slice o4 p4 d4))
          refine hK _ _ (fun _ => HF.out) ?_
          clear hK K hc0 hf0 hc1 hf1 hc2 hf2 hc3 hf3
          generalize ((((ws12.setCell ⟨gb, 0, none⟩ (.bool s4)).setCell ⟨gb, 1, none⟩ (.slice m4 n4 c4)).setCell ⟨gb, 2, none⟩ (.bool t4)).setCell ⟨gb, 3, none⟩ (.slice o4 p4 d4)) = ws13 at *
          refine Calm.done (by kernel_rfl) ?_
          have h := FU.out _ HF.out
          go_wp2
          go_meet
          case rel => exact ⟨ga, s3, m3, n3, c3, t3, o3, p3, d3, gb, s4, m4, n4, c4, t4, o4, p4, d4, rfl, rfl, ⟨LTa.out, LTb.out, by first | exact Nat.ne_of_lt LTab.out | exact Nat.ne_of_gt LTba.out⟩, h.1, h.2.1, h.2.2.1, h.2.2.2.1, h.2.2.2.2.1, h.2.2.2.2.2, BXa.out, BXb.out, TA.out, TB.out⟩
      · go_simp
        have al := below_alloc wzb (.cells #[.bool false, .slice none 0 0, .bool false, .slice none 0 0] 27)
        have LTba := hide (BXb.out.lt)
        replace BXb := hide (BXb.out.step al)
        have BXa := hide (Box4.new wzb (.bool false) (.slice none 0 0) (.bool false) (.slice none 0 0))
        have LTa := hide (FL.out _ HF.out)
        replace HF := hide (FS.out _ _ HF.out al)
        refine hK _ _ (fun _ => HF.out) ?_
        clear hK K al
        generalize wzb.alloc (.cells #[.bool false, .slice none 0 0, .bool false, .slice none 0 0] 27) = wza at *
        generalize wzb.heap.size = ga at *
        refine Calm.one (i := 3) (l' := #[true, true, true, true, false, true, true, true, false, false, true, true, false, false]) (by kernel_rfl) rfl rfl rfl fun K hK => ?_
        go_simp
        refine (den_any _ y _ (FU.out _ HF.out).2.2.2.2.2).mono ?_
        rintro e u1 ⟨v, rfl, n, hb⟩
        replace BXb := hide (BXb.out.step hb)
        replace BXa := hide (BXa.out.step hb)
        have TD := hide (n)
        replace HF := hide (FS.out _ _ HF.out hb)
        refine hK _ _ (fun _ => HF.out) ?_
        clear hK K hb n
        refine Calm.one (i := 4) (l' := #[true, true, true, true, true, true, true, true, false, false, true, true, false, false]) (by kernel_rfl) rfl rfl rfl fun K hK => ?_
        go_simp
        refine (lowest_any _ _ x.num (y.den : Int) _ (FU.out _ HF.out).2.2.2.2.1.num TD.out (SzI.len HX.out.num (by decide)) (SzI.len HY.out.den (by decide)) ZY.out).mono ?_
        rintro e u2 ⟨v, rfl, n, hb⟩
        obtain ⟨s3, m3, n3, c3, t3, o3, p3, d3, rfl, n⟩ := n.cells
        clear TD
        replace BXb := hide (BXb.out.step hb)
        replace BXa := hide (BXa.out.step hb)
        have TA := hide (n)
        replace HF := hide (FS.out _ _ HF.out hb)
        refine hK _ _ (fun _ => HF.out) ?_
        clear hK K hb n
        refine Calm.one (i := 8) (l' := #[true, true, true, true, true, true, true, true, true, false, true, true, false, false]) (by kernel_rfl) rfl rfl rfl fun K hK => ?_
        go_simp
        refine (den_any _ x _ (FU.out _ HF.out).2.2.2.2.1).mono ?_
        rintro e u3 ⟨v, rfl, n, hb⟩
        replace TA := hide (TA.out.below (hb))
        replace BXb := hide (BXb.out.step hb)
        replace BXa := hide (BXa.out.step hb)
        have TE := hide (n)
        replace HF := hide (FS.out _ _ HF.out hb)
        refine hK _ _ (fun _ => HF.out) ?_
        clear hK K hb n
        refine Calm.one (i := 9) (l' := #[true, true, true, true, true, true, true, true, true, true, true, true, false, false]) (by kernel_rfl) rfl rfl rfl fun K hK => ?_
        go_simp
        refine (lowest_any _ _ y.num (x.den : Int) _ (FU.out _ HF.out).2.2.2.2.2.num TE.out (SzI.len HY.out.num (by decide)) (SzI.len HX.out.den (by decide)) ZX.out).mono ?_
        rintro e u4 ⟨v, rfl, n, hb⟩
        obtain ⟨s4, m4, n4, c4, t4, o4, p4, d4, rfl, n⟩ := n.cells
        replace TA := hide (TA.out.below (hb))
        clear TE
        replace BXb := hide (BXb.out.step hb)
        replace BXa := hide (BXa.out.step hb)
        have TB := hide (n)
        replace HF := hide (FS.out _ _ HF.out hb)
        refine hK _ _ (fun _ => HF.out) ?_
        clear hK K hb n
        refine Calm.one (i := 12) (l' := #[true, true, true, true, true, true, true, true, true, true, true, true, true, false]) (by kernel_rfl) rfl rfl rfl fun K hK => ?_
        have hc0 := BXa.out.cell0
        have hc1 := BXa.out.cell1
        have hc2 := BXa.out.cell2
        have hc3 := BXa.out.cell3
        have hf0 := BXa.out.free 0
        have hf1 := BXa.out.free 1
        have hf2 := BXa.out.free 2
        have hf3 := BXa.out.free 3
        go_simp
        replace HF := hide (FP4.out _ ga (.bool s3) (.slice m3 n3 c3) (.bool t3) (.slice o3 p3 d3) HF.out BXa.out LTa.out)
        replace TA := hide (TA.out.keep (BXa.out.keeps (by simp) (by simp) (by simp) (by simp) (.bool s3) (.slice m3 n3 c3) (.bool t3) (.slice o3 p3 d3)))
        replace TB := hide (TB.out.keep (BXa.out.keeps (by simp) (by simp) (by simp) (by simp) (.bool s3) (.slice m3 n3 c3) (.bool t3) (.slice o3 p3 d3)))
        replace BXb := hide (BXb.out.other4 (C := ga) (by first | exact Nat.ne_of_lt LTab.out | exact Nat.ne_of_gt LTba.out) (.bool s3) (.slice m3 n3 c3) (.bool t3) (.slice o3 p3 d3))
        replace BXa := hide (BXa.out.put (.bool s3) (.slice m3 n3 c3) (.bool t3) (.slice o3 p3 d3))
        refine hK _ _ (fun _ => HF.out) ?_
        clear hK K hc0 hf0 hc1 hf1 hc2 hf2 hc3 hf3
        generalize ((((u4.setCell ⟨ga, 0, none⟩ (.bool s3)).setCell ⟨ga, 1, none⟩ (.slice m3 n3 c3)).setCell ⟨ga, 2, none⟩ (.bool t3)).setCell ⟨ga, 3, none⟩ (.slice o3 p3 d3)) = ws12 at *
        refine Calm.one (i := 13) (l' := #[true, true, true, true, true, true, true, true, true, true, true, true, true, true]) (by kernel_rfl) rfl rfl rfl fun K hK => ?_
        have hc0 := BXb.out.cell0
        have hc1 := BXb.out.cell1
        have hc2 := BXb.out.cell2
        have hc3 := BXb.out.cell3
        have hf0 := BXb.out.free 0
        have hf1 := BXb.out.free 1
        have hf2 := BXb.out.free 2
        have hf3 := BXb.out.free 3
        go_simp
        replace HF := hide (FP4.out _ gb (.bool s4) (.slice m4 n4 c4) (.bool t4) (.slice o4 p4 d4) HF.out BXb.out LTb.out)
        replace TA := hide (TA.out.keep (BXb.out.keeps (by simp) (by simp) (by simp) (by simp) (.bool s4) (.slice m4 n4 c4) (.bool t4) (.slice o4 p4 d4)))
        replace TB := hide (TB.out.keep (BXb.out.keeps (by simp) (by simp) (by simp) (by simp) (.bool s4) (.slice m4 n4 c4) (.bool t4) (.slice o4 p4 d4)))
        replace BXa := hide (BXa.out.other4 (C := gb) (by first | exact Nat.ne_of_lt LTba.out | exact Nat.ne_of_gt LTab.out) (.bool s4) (.slice m4 n4 c4) (.bool t4) (.slice o4 p4 d4))
        replace BXb := hide (BXb.out.put (.bool s4) (.slice m4 n4 c4) (.bool t4) (.slice o4 p4 d4))
        refine hK _ _ (fun _ => HF.out) ?_
        clear hK K hc0 hf0 hc1 hf1 hc2 hf2 hc3 hf3
        generalize ((((ws12.setCell ⟨gb, 0, none⟩ (.bool s4)).setCell ⟨gb, 1, none⟩ (.slice m4 n4 c4)).setCell ⟨gb, 2, none⟩ (.bool t4)).setCell ⟨gb, 3, none⟩ (.slice o4 p4 d4)) = ws13 at *
        refine Calm.done (by kernel_rfl) ?_
        have h := FU.out _ HF.out
        go_wp2
        go_meet
        case rel => exact ⟨ga, s3, m3, n3, c3, t3, o3, p3, d3, gb, s4, m4, n4, c4, t4, o4, p4, d4, rfl, rfl, ⟨LTa.out, LTb.out, by first | exact Nat.ne_of_lt LTab.out | exact Nat.ne_of_gt LTba.out⟩, h.1, h.2.1, h.2.2.1, h.2.2.2.1, h.2.2.2.2.1, h.2.2.2.2.2, BXa.out, BXb.out, TA.out, TB.out⟩
  case rest =>
  obtain ⟨ga, s3, m3, n3, c3, t3, o3, p3, d3, gb, s4, m4, n4, c4, t4, o4, p4, d4, rfl, rfl, hlts, h0, h1, h2, h3, h4, h5, ba, bb, eTA, eTB⟩ := hcut
  clear HB P0 P1 P2 I1 I2
  have HB := hide h0
  have P0 := hide h1
  have P1 := hide h2
  have P2 := hide h3
  have I1 := hide h4
  have I2 := hide h5
  have LTS1 := hide hlts
  have Va := hide ba
  have TA := hide eTA
  have Vb := hide bb
  have TB := hide eTB
  clear hlts h0 h1 h2 h3 h4 h5 ba bb eTA eTB
  generalize hwc : wc = wc1 at *
  clear hwc
  go_wp2_with fail
  have LTS := hide LTS1.out
  replace P2 := hide P2.out.drew
  refine wp_calm (fun w' => Below w.heap.size w w' ∧ Box4 w' ga (.bool s3) (.slice m3 n3 c3) (.bool t3) (.slice o3 p3 d3) ∧ Box4 w' gb (.bool s4) (.slice m4 n4 c4) (.bool t4) (.slice o4 p4 d4) ∧ RatAt w' (.agg #[.bool s3, .slice m3 n3 c3, .bool t3, .slice o3 p3 d3]) (Rat.divInt x.num (y.den : Int)) ∧ RatAt w' (.agg #[.bool s4, .slice m4 n4 c4, .bool t4, .slice o4 p4 d4]) (Rat.divInt y.num (x.den : Int))) (fun _ => true) 12 #[false, false, false, false, false, false, false, false, false, false, false, false] (by kernel_rfl) rfl rfl ?_
  have HF := hide (And.intro (HB.out.drew) (And.intro (Va.out.drew) (And.intro (Vb.out.drew) (And.intro (TA.out.drew) (TB.out.drew)))))
  generalize wc1.drew = wc1d at *
  refine Calm.take (i := 0) (v := ?_) (a' := ?_) (l' := #[true, false, false, false, false, false, false, false, false, false, false, false]) (d := some 17) rfl (by kernel_rfl) (by kernel_rfl) (by kernel_rfl) (by kernel_rfl) (fun _ _ _ h => h) HF.out rfl ?_ rfl rfl ?_ ?_
  rotate_left
  · intro w' hF; clear hF; go_simp; try rfl
  rotate_left
  · simp only [Act.put]; exact rfl
  refine Calm.take (i := 1) (v := ?_) (a' := ?_) (l' := #[true, true, false, false, false, false, false, false, false, false, false, false]) (d := some 18) rfl (by kernel_rfl) (by kernel_rfl) (by kernel_rfl) (by kernel_rfl) (fun _ _ _ h => h) HF.out rfl ?_ rfl rfl ?_ ?_
  rotate_left
  · intro w' hF; have f10 := hF.2.1.cell0; have f11 := hF.2.1.cell1; have f12 := hF.2.1.cell2; have f13 := hF.2.1.cell3; have f20 := hF.2.2.1.cell0; have f21 := hF.2.2.1.cell1; have f22 := hF.2.2.1.cell2; have f23 := hF.2.2.1.cell3; clear hF; go_simp; try rfl
  rotate_left
  · simp only [Act.put]; exact rfl
  refine Calm.take (i := 2) (v := ?_) (a' := ?_) (l' := #[true, true, true, false, false, false, false, false, false, false, false, false]) (d := some 19) rfl (by kernel_rfl) (by kernel_rfl) (by kernel_rfl) (by kernel_rfl) (fun _ _ _ h => h) HF.out rfl ?_ rfl rfl ?_ ?_
  rotate_left
  · intro w' hF; clear hF; go_simp; try rfl
  rotate_left
  · simp only [Act.put]; exact rfl
  refine Calm.take (i := 3) (v := ?_) (a' := ?_) (l' := #[true, true, true, true, false, false, false, false, false, false, false, false]) (d := some 20) rfl (by kernel_rfl) (by kernel_rfl) (by kernel_rfl) (by kernel_rfl) (fun _ _ _ h => h) HF.out rfl ?_ rfl rfl ?_ ?_
  rotate_left
  · intro w' hF; have f10 := hF.2.1.cell0; have f11 := hF.2.1.cell1; have f12 := hF.2.1.cell2; have f13 := hF.2.1.cell3; have f20 := hF.2.2.1.cell0; have f21 := hF.2.2.1.cell1; have f22 := hF.2.2.1.cell2; have f23 := hF.2.2.1.cell3; clear hF; go_simp; try rfl
  rotate_left
  · simp only [Act.put]; exact rfl
  refine Calm.take (i := 5) (v := ?_) (a' := ?_) (l' := #[true, true, true, true, false, true, false, false, false, false, false, false]) (d := some 22) rfl (by kernel_rfl) (by kernel_rfl) (by kernel_rfl) (by kernel_rfl) (fun _ _ _ h => h) HF.out rfl ?_ rfl rfl ?_ ?_
  rotate_left
  · intro w' hF; have f10 := hF.2.1.cell0; have f11 := hF.2.1.cell1; have f12 := hF.2.1.cell2; have f13 := hF.2.1.cell3; have f20 := hF.2.2.1.cell0; have f21 := hF.2.2.1.cell1; have f22 := hF.2.2.1.cell2; have f23 := hF.2.2.1.cell3; clear hF; go_simp; try rfl
  rotate_left
  · simp only [Act.put]; exact rfl
  refine Calm.take (i := 7) (v := ?_) (a' := ?_) (l' := #[true, true, true, true, false, true, false, true, false, false, false, false]) (d := some 24) rfl (by kernel_rfl) (by kernel_rfl) (by kernel_rfl) (by kernel_rfl) (fun _ _ _ h => h) HF.out rfl ?_ rfl rfl ?_ ?_
  rotate_left
  · intro w' hF; have f10 := hF.2.1.cell0; have f11 := hF.2.1.cell1; have f12 := hF.2.1.cell2; have f13 := hF.2.1.cell3; have f20 := hF.2.2.1.cell0; have f21 := hF.2.2.1.cell1; have f22 := hF.2.2.1.cell2; have f23 := hF.2.2.1.cell3; clear hF; go_simp; try rfl
  rotate_left
  · simp only [Act.put]; exact rfl
  refine Calm.one (i := 4) (l' := #[true, true, true, true, true, true, false, true, false, false, false, false]) (by kernel_rfl) rfl rfl rfl fun K hK => ?_
  go_simp
  refine (imul_any _ _ (Rat.divInt x.num (y.den : Int)).num (Rat.divInt y.num (x.den : Int)).num _ HF.out.2.2.2.1.num HF.out.2.2.2.2.num (SzI.len DA.out.1 (by decide)) (SzI.len DB.out.1 (by decide))).mono ?_
  rintro e u1 ⟨v, rfl, n, hb⟩
  replace P2 := hide (P2.out.step (hb))
  have HF' := hide (And.intro (HF.out.1.trans ((hb).mono HF.out.1.size)) (And.intro (HF.out.2.1.step (hb)) (And.intro (HF.out.2.2.1.step (hb)) (And.intro (HF.out.2.2.2.1.below (hb)) (HF.out.2.2.2.2.below (hb))))))
  have T1 := hide (n)
  refine hK _ _ (fun _ => HF'.out) ?_
  clear hK K HF hb n
  have HF := hide HF'.out
  clear HF'
  refine Calm.one (i := 6) (l' := #[true, true, true, true, true, true, true, true, false, false, false, false]) (by kernel_rfl) rfl rfl rfl fun K hK => ?_
  go_simp
  refine (den_any _ (Rat.divInt x.num (y.den : Int)) _ HF.out.2.2.2.1).mono ?_
  rintro e u2 ⟨v, rfl, n, hb⟩
  replace P2 := hide (P2.out.step (hb))
  replace T1 := hide (T1.out.below (hb))
  have HF' := hide (And.intro (HF.out.1.trans ((hb).mono HF.out.1.size)) (And.intro (HF.out.2.1.step (hb)) (And.intro (HF.out.2.2.1.step (hb)) (And.intro (HF.out.2.2.2.1.below (hb)) (HF.out.2.2.2.2.below (hb))))))
  have T2 := hide (n)
  refine hK _ _ (fun _ => HF'.out) ?_
  clear hK K HF hb n
  have HF := hide HF'.out
  clear HF'
  refine Calm.one (i := 8) (l' := #[true, true, true, true, true, true, true, true, true, false, false, false]) (by kernel_rfl) rfl rfl rfl fun K hK => ?_
  go_simp
  refine (den_any _ (Rat.divInt y.num (x.den : Int)) _ HF.out.2.2.2.2).mono ?_
  rintro e u3 ⟨v, rfl, n, hb⟩
  replace P2 := hide (P2.out.step (hb))
  replace T1 := hide (T1.out.below (hb))
  replace T2 := hide (T2.out.below (hb))
  have HF' := hide (And.intro (HF.out.1.trans ((hb).mono HF.out.1.size)) (And.intro (HF.out.2.1.step (hb)) (And.intro (HF.out.2.2.1.step (hb)) (And.intro (HF.out.2.2.2.1.below (hb)) (HF.out.2.2.2.2.below (hb))))))
  have T3 := hide (n)
  refine hK _ _ (fun _ => HF'.out) ?_
  clear hK K HF hb n
  have HF := hide HF'.out
  clear HF'
  refine Calm.one (i := 9) (l' := #[true, true, true, true, true, true, true, true, true, true, false, false]) (by kernel_rfl) rfl rfl rfl fun K hK => ?_
  go_simp
  refine (imul_any _ _ ((Rat.divInt x.num (y.den : Int)).den : Int) ((Rat.divInt y.num (x.den : Int)).den : Int) _ T2.out T3.out (SzI.len DA.out.2 (by decide)) (SzI.len DB.out.2 (by decide))).mono ?_
  rintro e u4 ⟨v, rfl, n, hb⟩
  replace P2 := hide (P2.out.step (hb))
  replace T1 := hide (T1.out.below (hb))
  clear T2
  clear T3
  have HF' := hide (And.intro (HF.out.1.trans ((hb).mono HF.out.1.size)) (And.intro (HF.out.2.1.step (hb)) (And.intro (HF.out.2.2.1.step (hb)) (And.intro (HF.out.2.2.2.1.below (hb)) (HF.out.2.2.2.2.below (hb))))))
  have T4 := hide (n)
  refine hK _ _ (fun _ => HF'.out) ?_
  clear hK K HF hb n
  have HF := hide HF'.out
  clear HF'
  refine Calm.one (i := 10) (l' := #[true, true, true, true, true, true, true, true, true, true, true, false]) (by kernel_rfl) rfl rfl rfl fun K hK => ?_
  go_simp
  refine (rmade_any _ _ (x * y) _ (by rw [(mul_terms x y).1]; exact T1.out) (by rw [(mul_terms x y).2, Int.natCast_mul]; exact T4.out)).mono ?_
  rintro e u5 ⟨v, rfl, n, hb⟩
  obtain ⟨s9, m9, n9, c9, t9, o9, p9, d9, rfl, n⟩ := n.cells
  replace P2 := hide (P2.out.step (hb))
  clear T1
  clear T4
  have HF' := hide (And.intro (HF.out.1.trans ((hb).mono HF.out.1.size)) (And.intro (HF.out.2.1.step (hb)) (And.intro (HF.out.2.2.1.step (hb)) (And.intro (HF.out.2.2.2.1.below (hb)) (HF.out.2.2.2.2.below (hb))))))
  have TR := hide (n)
  refine hK _ _ (fun _ => HF'.out) ?_
  clear hK K HF hb n
  have HF := hide HF'.out
  clear HF'
  refine Calm.one (i := 11) (l' := #[true, true, true, true, true, true, true, true, true, true, true, true]) (by kernel_rfl) rfl rfl rfl fun K hK => ?_
  have hc0 := P2.out.cell0
  have hc1 := P2.out.cell1
  have hc2 := P2.out.cell2
  have hc3 := P2.out.cell3
  have hf0 := P2.out.free 0
  have hf1 := P2.out.free 1
  have hf2 := P2.out.free 2
  have hf3 := P2.out.free 3
  go_simp
  have HF' := hide (And.intro (below_put4 HF.out.1 (show w.heap.size ≤ (w.heap.size + 1 + 1) by have hx := LTS.out; omega) (.bool s9) (.slice m9 n9 c9) (.bool t9) (.slice o9 p9 d9)) (And.intro (HF.out.2.1.other4 (C := (w.heap.size + 1 + 1)) (by have hx := LTS.out; omega) (.bool s9) (.slice m9 n9 c9) (.bool t9) (.slice o9 p9 d9)) (And.intro (HF.out.2.2.1.other4 (C := (w.heap.size + 1 + 1)) (by have hx := LTS.out; omega) (.bool s9) (.slice m9 n9 c9) (.bool t9) (.slice o9 p9 d9)) (And.intro (HF.out.2.2.2.1.keep (P2.out.keeps (by simp) (by simp) (by simp) (by simp) (.bool s9) (.slice m9 n9 c9) (.bool t9) (.slice o9 p9 d9))) (HF.out.2.2.2.2.keep (P2.out.keeps (by simp) (by simp) (by simp) (by simp) (.bool s9) (.slice m9 n9 c9) (.bool t9) (.slice o9 p9 d9)))))))
  replace TR := hide (TR.out.keep (P2.out.keeps (by simp) (by simp) (by simp) (by simp) (.bool s9) (.slice m9 n9 c9) (.bool t9) (.slice o9 p9 d9)))
  replace P2 := hide (P2.out.put (.bool s9) (.slice m9 n9 c9) (.bool t9) (.slice o9 p9 d9))
  refine hK _ _ (fun _ => HF'.out) ?_
  clear hK K HF hc0 hf0 hc1 hf1 hc2 hf2 hc3 hf3
  have HF := hide HF'.out
  clear HF'
  generalize ((((u5.setCell ⟨(w.heap.size + 1 + 1), 0, none⟩ (.bool s9)).setCell ⟨(w.heap.size + 1 + 1), 1, none⟩ (.slice m9 n9 c9)).setCell ⟨(w.heap.size + 1 + 1), 2, none⟩ (.bool t9)).setCell ⟨(w.heap.size + 1 + 1), 3, none⟩ (.slice o9 p9 d9)) = u8 at *
  refine Calm.done (by kernel_rfl) ?_
  replace HB := hide HF.out.1
  replace Va := hide HF.out.2.1
  replace Vb := hide HF.out.2.2.1
  replace TA := hide HF.out.2.2.2.1
  replace TB := hide HF.out.2.2.2.2
  clear HF
  clear I1
  clear I2
  clear P0
  clear P1
  go_wp2
  refine ret_rat rfl (w.heap.size + 1 + 1) _ _ _ _ rfl P2.out rfl ?_
  exact ⟨_, rfl, TR.out, HB.out⟩
end Go.Proofs.Ytpbfbjipdacbkaa
