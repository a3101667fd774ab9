/- ratio.Rat's Add and Sub. -/
import Derived.Test.YtpbfbjipdacbkaaRLow
import Derived.Deep.Cut
namespace Go.Proofs.Ytpbfbjipdacbkaa
open Go.RowKit

theorem iproduct_big (v : Value) (x y z : Int) (w : World) (h : Ints w v [x, y, z]) (sx : SzI 100000000 x) (sy : SzI 100000000 y) (sz : SzI 100000000 z) :
    Calls Try.prog 66 #[v] w fun e w' => ∃ v', e = .returned v' ∧ IntAt w' v' (x * y * z) ∧ Below w.heap.size w w' := by
  refine (iproduct_any v [x, y, z] w h ?_ ?_).mono ?_
  · intro k hk
    match k, hk with
    | 0, _ => exact SzI.one.len (by decide)
    | 1, _ => exact (SzI.one.mul sx).len (by decide)
    | 2, _ => exact ((SzI.one.mul sx).mul sy).len (by decide)
    | 3, _ => exact (((SzI.one.mul sx).mul sy).mul sz).len (by decide)
  · intro k hk
    match k, hk with
    | 0, _ => exact sx.len (by decide)
    | 1, _ => exact sy.len (by decide)
    | 2, _ => exact sz.len (by decide)
  · rintro e w' ⟨v', rfl, hi, hb⟩
    refine ⟨v', rfl, ?_, hb⟩
    have : accZ (· * ·) 1 [x, y, z] 3 = x * y * z := by simp [accZ]
    exact this ▸ hi

set_option maxRecDepth 100000 in
set_option maxHeartbeats 16000000 in
theorem rtadd_any (v1 v2 : Value) (x y : Rat) (w : World) (h1 : RatAt w v1 x) (h2 : RatAt w v2 y) (hx : SzR 100000000 x) (hy : SzR 100000000 y) :
    Calls Try.prog 20 #[v1, v2] w fun e w' => ∃ v', e = .returned v' ∧ RatAt w' v' (x + y) ∧ Below w.heap.size w w' := by
  have HG0 : Hid (gdn x y ≠ 0) := hide (by have := gdn_pos x y; omega)
  have SA := hide (sz_sA hx y)
  have SB := hide (sz_sB hy x)
  have SG := hide (sz_gdn hx y)
  have SS := hide (sz_sS hx hy)
  have DR := hide (SzR.divInt HG0.out SS.out SG.out)
  have HX := hide hx
  have HY := hide hy
  clear hx hy
  obtain ⟨s1, m1, n1, c1, t1, o1, p1, d1, rfl, i1⟩ := h1.cells
  have I1 := hide i1
  clear h1 i1
  obtain ⟨s2, m2, n2, c2, t2, o2, p2, d2, rfl, i2⟩ := h2.cells
  have I2 := hide i2
  clear h2 i2
  have P0 := Box4.new w (.bool s1) (.slice m1 n1 c1) (.bool t1) (.slice o1 p1 d1)
  replace P0 := P0.step (below_alloc _ (.cells #[.bool s2, .slice m2 n2 c2, .bool t2, .slice o2 p2 d2] 27))
  replace P0 := P0.step (below_alloc _ (.cells #[.bool false, .slice none 0 0, .bool false, .slice none 0 0] 27))
  replace P0 := hide P0
  have P1 := Box4.new (w.alloc (.cells #[.bool s1, .slice m1 n1 c1, .bool t1, .slice o1 p1 d1] 27)) (.bool s2) (.slice m2 n2 c2) (.bool t2) (.slice o2 p2 d2)
  simp only [World.size_alloc] at P1
  replace P1 := P1.step (below_alloc _ (.cells #[.bool false, .slice none 0 0, .bool false, .slice none 0 0] 27))
  replace P1 := hide P1
  have P2 := Box4.new ((w.alloc (.cells #[.bool s1, .slice m1 n1 c1, .bool t1, .slice o1 p1 d1] 27)).alloc (.cells #[.bool s2, .slice m2 n2 c2, .bool t2, .slice o2 p2 d2] 27)) (.bool false) (.slice none 0 0) (.bool false) (.slice none 0 0)
  simp only [World.size_alloc] at P2
  replace P2 := hide P2
  have HB := below_alloc w (.cells #[.bool s1, .slice m1 n1 c1, .bool t1, .slice o1 p1 d1] 27)
  replace HB := HB.trans ((below_alloc _ (.cells #[.bool s2, .slice m2 n2 c2, .bool t2, .slice o2 p2 d2] 27)).mono (by simp only [World.size_alloc]; omega))
  replace HB := HB.trans ((below_alloc _ (.cells #[.bool false, .slice none 0 0, .bool false, .slice none 0 0] 27)).mono (by simp only [World.size_alloc]; omega))
  replace I1 := hide (I1.out.below HB)
  replace I2 := hide (I2.out.below HB)
  replace HB := hide HB
  go_enter Try.func20, Try.ntmps20
  go_wp2_with fail
  generalize (((w.alloc (.cells #[.bool s1, .slice m1 n1 c1, .bool t1, .slice o1 p1 d1] 27)).alloc (.cells #[.bool s2, .slice m2 n2 c2, .bool t2, .slice o2 p2 d2] 27)).alloc (.cells #[.bool false, .slice none 0 0, .bool false, .slice none 0 0] 27)) = w0 at *
  go_cut [5] from 9 (fun pt0 wx => ∃ gg s3 m3 n3 c3, pt0 = .pointer (some ⟨gg, 0, none⟩) ∧ ((w.heap.size < gg ∧ (w.heap.size + 1) < gg ∧ (w.heap.size + 1 + 1) < gg)) ∧ Below w.heap.size w wx ∧ Box4 wx w.heap.size (.bool s1) (.slice m1 n1 c1) (.bool t1) (.slice o1 p1 d1) ∧ Box4 wx (w.heap.size + 1) (.bool s2) (.slice m2 n2 c2) (.bool t2) (.slice o2 p2 d2) ∧ Box4 wx (w.heap.size + 1 + 1) (.bool false) (.slice none 0 0) (.bool false) (.slice none 0 0) ∧ RatAt wx (.agg #[.bool s1, .slice m1 n1 c1, .bool t1, .slice o1 p1 d1]) x ∧ RatAt wx (.agg #[.bool s2, .slice m2 n2 c2, .bool t2, .slice o2 p2 d2]) y ∧ Box wx gg (.bool s3) (.slice m3 n3 c3) ∧ IntAt wx (.agg #[.bool s3, .slice m3 n3 c3]) (gdn x y))
  case first =>
    obtain ⟨F, hF⟩ : ∃ F : World → Prop, F = (fun w' => Below w.heap.size w w' ∧ Box4 w' w.heap.size (.bool s1) (.slice m1 n1 c1) (.bool t1) (.slice o1 p1 d1) ∧ Box4 w' (w.heap.size + 1) (.bool s2) (.slice m2 n2 c2) (.bool t2) (.slice o2 p2 d2) ∧ Box4 w' (w.heap.size + 1 + 1) (.bool false) (.slice none 0 0) (.bool false) (.slice none 0 0) ∧ RatAt w' (.agg #[.bool s1, .slice m1 n1 c1, .bool t1, .slice o1 p1 d1]) x ∧ RatAt w' (.agg #[.bool s2, .slice m2 n2 c2, .bool t2, .slice o2 p2 d2]) y) := ⟨_, rfl⟩
    have FU : Hid (∀ W, F W → (Below w.heap.size w W ∧ Box4 W w.heap.size (.bool s1) (.slice m1 n1 c1) (.bool t1) (.slice o1 p1 d1) ∧ Box4 W (w.heap.size + 1) (.bool s2) (.slice m2 n2 c2) (.bool t2) (.slice o2 p2 d2) ∧ Box4 W (w.heap.size + 1 + 1) (.bool false) (.slice none 0 0) (.bool false) (.slice none 0 0) ∧ RatAt W (.agg #[.bool s1, .slice m1 n1 c1, .bool t1, .slice o1 p1 d1]) x ∧ RatAt W (.agg #[.bool s2, .slice m2 n2 c2, .bool t2, .slice o2 p2 d2]) y)) := hide (fun W h => by rw [hF] at h; exact h)
    have FM : Hid (∀ W, (Below w.heap.size w W ∧ Box4 W w.heap.size (.bool s1) (.slice m1 n1 c1) (.bool t1) (.slice o1 p1 d1) ∧ Box4 W (w.heap.size + 1) (.bool s2) (.slice m2 n2 c2) (.bool t2) (.slice o2 p2 d2) ∧ Box4 W (w.heap.size + 1 + 1) (.bool false) (.slice none 0 0) (.bool false) (.slice none 0 0) ∧ RatAt W (.agg #[.bool s1, .slice m1 n1 c1, .bool t1, .slice o1 p1 d1]) x ∧ RatAt W (.agg #[.bool s2, .slice m2 n2 c2, .bool t2, .slice o2 p2 d2]) y) → F W) := hide (fun W h => by rw [hF]; exact h)
    clear hF
    have FS : Hid (∀ W W', F W → Below W.heap.size W W' → F W') := hide (fun W W' h hb => by
      have h := FU.out W h
      exact FM.out W' (And.intro (h.1.trans ((hb).mono h.1.size)) (And.intro (h.2.1.step (hb)) (And.intro (h.2.2.1.step (hb)) (And.intro (h.2.2.2.1.step (hb)) (And.intro (h.2.2.2.2.1.below (hb)) (h.2.2.2.2.2.below (hb))))))))
    have FC : Hid (∀ W, F W → (W.cell? ⟨w.heap.size, 0, none⟩ = some (.bool s1) ∧ W.cell? ⟨w.heap.size, 1, none⟩ = some (.slice m1 n1 c1) ∧ W.cell? ⟨w.heap.size, 2, none⟩ = some (.bool t1) ∧ W.cell? ⟨w.heap.size, 3, none⟩ = some (.slice o1 p1 d1) ∧ W.cell? ⟨(w.heap.size + 1), 0, none⟩ = some (.bool s2) ∧ W.cell? ⟨(w.heap.size + 1), 1, none⟩ = some (.slice m2 n2 c2) ∧ W.cell? ⟨(w.heap.size + 1), 2, none⟩ = some (.bool t2) ∧ W.cell? ⟨(w.heap.size + 1), 3, none⟩ = some (.slice o2 p2 d2) ∧ W.cell? ⟨(w.heap.size + 1 + 1), 0, none⟩ = some (.bool false) ∧ W.cell? ⟨(w.heap.size + 1 + 1), 1, none⟩ = some (.slice none 0 0) ∧ W.cell? ⟨(w.heap.size + 1 + 1), 2, none⟩ = some (.bool false) ∧ W.cell? ⟨(w.heap.size + 1 + 1), 3, none⟩ = some (.slice none 0 0))) := hide (fun W h => by
      have h := FU.out W h
      exact ⟨h.2.1.cell0, h.2.1.cell1, h.2.1.cell2, h.2.1.cell3, h.2.2.1.cell0, h.2.2.1.cell1, h.2.2.1.cell2, h.2.2.1.cell3, h.2.2.2.1.cell0, h.2.2.2.1.cell1, h.2.2.2.1.cell2, h.2.2.2.1.cell3⟩)
    have FL : Hid (∀ W, F W → (w.heap.size < W.heap.size ∧ (w.heap.size + 1) < W.heap.size ∧ (w.heap.size + 1 + 1) < W.heap.size)) := hide (fun W h => by
      have h := FU.out W h
      exact ⟨h.2.1.lt, h.2.2.1.lt, h.2.2.2.1.lt⟩)
    have FP2 : Hid (∀ W g (x1 x2 : Value), F W → Box W g (.bool false) (.slice none 0 0) → (w.heap.size < g ∧ (w.heap.size + 1) < g ∧ (w.heap.size + 1 + 1) < g) → F ((W.setCell ⟨g, 0, none⟩ x1).setCell ⟨g, 1, none⟩ x2)) := hide (fun W g x1 x2 h hX hl => by
      have h := FU.out W h
      exact FM.out _ (And.intro (below_put h.1 (show w.heap.size ≤ g by omega) x1 x2) (And.intro (h.2.1.other (C := g) (by omega) x1 x2) (And.intro (h.2.2.1.other (C := g) (by omega) x1 x2) (And.intro (h.2.2.2.1.other (C := g) (by omega) x1 x2) (And.intro (h.2.2.2.2.1.keep (hX.keeps (by simp) (by simp) x1 x2)) (h.2.2.2.2.2.keep (hX.keeps (by simp) (by simp) x1 x2))))))))
    refine wp_calm F (fun _ => true) 7 #[false, false, false, false, false, false, false] (by kernel_rfl) rfl rfl ?_
    have HF := hide (FM.out _ (And.intro (HB.out.drew) (And.intro (P0.out.drew) (And.intro (P1.out.drew) (And.intro (P2.out.drew) (And.intro (I1.out.drew) (I2.out.drew)))))))
    generalize w0.drew = w0d at *
    refine Calm.take (i := 0) (v := ?_) (a' := ?_) (l' := #[true, false, false, false, false, false, false]) (d := some 9) rfl (by kernel_rfl) (by kernel_rfl) (by kernel_rfl) (by kernel_rfl) (fun _ _ _ h => h) HF.out rfl ?_ rfl rfl ?_ ?_
    rotate_left
    · intro w' hF; obtain ⟨f0, f1, f2, f3, f4, f5, f6, f7, f8, f9, f10, f11⟩ := FC.out _ hF; clear hF; go_simp; try rfl
    rotate_left
    · simp only [Act.put]; exact rfl
    refine Calm.take (i := 2) (v := ?_) (a' := ?_) (l' := #[true, false, true, false, false, false, false]) (d := some 11) rfl (by kernel_rfl) (by kernel_rfl) (by kernel_rfl) (by kernel_rfl) (fun _ _ _ h => h) HF.out rfl ?_ rfl rfl ?_ ?_
    rotate_left
    · intro w' hF; obtain ⟨f0, f1, f2, f3, f4, f5, f6, f7, f8, f9, f10, f11⟩ := FC.out _ hF; clear hF; go_simp; try rfl
    rotate_left
    · simp only [Act.put]; exact rfl
    refine Calm.two (i := 1) (j := 5) (l := #[true, true, true, false, false, false, false]) (l' := #[true, false, true, false, false, true, false]) (by kernel_rfl) rfl rfl rfl rfl rfl rfl (fun K hK => ?_) (fun K hK => ?_)
    · go_simp
      refine (den_any _ x _ (FU.out _ HF.out).2.2.2.2.1).mono ?_
      rintro e u1 ⟨v, rfl, n, hb⟩
      have T1 := hide (n)
      replace HF := hide (FS.out _ _ HF.out hb)
      refine hK _ _ (fun _ => HF.out) ?_
      clear hK K hb n
      refine Calm.two (i := 3) (j := 5) (l := #[true, true, true, true, false, false, false]) (l' := #[true, true, true, false, false, true, false]) (by kernel_rfl) rfl rfl rfl rfl rfl rfl (fun K hK => ?_) (fun K hK => ?_)
      · go_simp
        refine (den_any _ y _ (FU.out _ HF.out).2.2.2.2.2).mono ?_
        rintro e u2 ⟨v, rfl, n, hb⟩
        replace T1 := hide (T1.out.below (hb))
        have T2 := hide (n)
        replace HF := hide (FS.out _ _ HF.out hb)
        refine hK _ _ (fun _ => HF.out) ?_
        clear hK K hb n
        refine Calm.two (i := 4) (j := 5) (l := #[true, true, true, true, true, false, false]) (l' := #[true, true, true, true, false, true, false]) (by kernel_rfl) rfl rfl rfl rfl rfl rfl (fun K hK => ?_) (fun K hK => ?_)
        · go_simp
          refine (igcd_any _ _ (x.den : Int) (y.den : Int) _ T1.out T2.out (SzI.len HX.out.den (by decide)) (SzI.len HY.out.den (by decide))).mono ?_
          rintro e u3 ⟨v, rfl, n, hb⟩
          obtain ⟨s3, m3, n3, c3, rfl, n⟩ := n.cells
          clear T1
          clear T2
          have TG := hide (n)
          replace HF := hide (FS.out _ _ HF.out hb)
          refine hK _ _ (fun _ => HF.out) ?_
          clear hK K hb n
          refine Calm.one (i := 5) (l' := #[true, true, true, true, true, true, false]) (by kernel_rfl) rfl rfl rfl fun K hK => ?_
          go_simp
          have al := below_alloc u3 (.cells #[.bool false, .slice none 0 0] 25)
          replace TG := hide (TG.out.below (al))
          have BXg := hide (Box.new u3 (.bool false) (.slice none 0 0))
          have LTg := hide (FL.out _ HF.out)
          replace HF := hide (FS.out _ _ HF.out al)
          refine hK _ _ (fun _ => HF.out) ?_
          clear hK K al
          generalize u3.alloc (.cells #[.bool false, .slice none 0 0] 25) = wzg at *
          generalize u3.heap.size = gg at *
          refine Calm.one (i := 6) (l' := #[true, true, true, true, true, true, true]) (by kernel_rfl) rfl rfl rfl fun K hK => ?_
          have hc0 := BXg.out.cell0
          have hc1 := BXg.out.cell1
          have hf0 := BXg.out.free 0
          have hf1 := BXg.out.free 1
          go_simp
          replace HF := hide (FP2.out _ gg (.bool s3) (.slice m3 n3 c3) HF.out BXg.out LTg.out)
          replace TG := hide (TG.out.keep (BXg.out.keeps (by simp) (by simp) (.bool s3) (.slice m3 n3 c3)))
          replace BXg := hide (BXg.out.put (.bool s3) (.slice m3 n3 c3))
          refine hK _ _ (fun _ => HF.out) ?_
          clear hK K hc0 hf0 hc1 hf1
          generalize ((wzg.setCell ⟨gg, 0, none⟩ (.bool s3)).setCell ⟨gg, 1, none⟩ (.slice m3 n3 c3)) = ws6 at *
          refine Calm.done (by kernel_rfl) ?_
          have h := FU.out _ HF.out
          go_wp2
          go_meet
          case rel => exact ⟨gg, s3, m3, n3, c3, rfl, LTg.out, h.1, h.2.1, h.2.2.1, h.2.2.2.1, h.2.2.2.2.1, h.2.2.2.2.2, BXg.out, TG.out⟩
        · go_simp
          have al := below_alloc u2 (.cells #[.bool false, .slice none 0 0] 25)
          replace T1 := hide (T1.out.below (al))
          replace T2 := hide (T2.out.below (al))
          have BXg := hide (Box.new u2 (.bool false) (.slice none 0 0))
          have LTg := hide (FL.out _ HF.out)
          replace HF := hide (FS.out _ _ HF.out al)
          refine hK _ _ (fun _ => HF.out) ?_
          clear hK K al
          generalize u2.alloc (.cells #[.bool false, .slice none 0 0] 25) = wzg at *
          generalize u2.heap.size = gg at *
          refine Calm.one (i := 4) (l' := #[true, true, true, true, true, true, false]) (by kernel_rfl) rfl rfl rfl fun K hK => ?_
          go_simp
          refine (igcd_any _ _ (x.den : Int) (y.den : Int) _ T1.out T2.out (SzI.len HX.out.den (by decide)) (SzI.len HY.out.den (by decide))).mono ?_
          rintro e u3 ⟨v, rfl, n, hb⟩
          obtain ⟨s3, m3, n3, c3, rfl, n⟩ := n.cells
          clear T1
          clear T2
          replace BXg := hide (BXg.out.step hb)
          have TG := hide (n)
          replace HF := hide (FS.out _ _ HF.out hb)
          refine hK _ _ (fun _ => HF.out) ?_
          clear hK K hb n
          refine Calm.one (i := 6) (l' := #[true, true, true, true, true, true, true]) (by kernel_rfl) rfl rfl rfl fun K hK => ?_
          have hc0 := BXg.out.cell0
          have hc1 := BXg.out.cell1
          have hf0 := BXg.out.free 0
          have hf1 := BXg.out.free 1
          go_simp
          replace HF := hide (FP2.out _ gg (.bool s3) (.slice m3 n3 c3) HF.out BXg.out LTg.out)
          replace TG := hide (TG.out.keep (BXg.out.keeps (by simp) (by simp) (.bool s3) (.slice m3 n3 c3)))
          replace BXg := hide (BXg.out.put (.bool s3) (.slice m3 n3 c3))
          refine hK _ _ (fun _ => HF.out) ?_
          clear hK K hc0 hf0 hc1 hf1
          generalize ((u3.setCell ⟨gg, 0, none⟩ (.bool s3)).setCell ⟨gg, 1, none⟩ (.slice m3 n3 c3)) = ws6 at *
          refine Calm.done (by kernel_rfl) ?_
          have h := FU.out _ HF.out
          go_wp2
          go_meet
          case rel => exact ⟨gg, s3, m3, n3, c3, rfl, LTg.out, h.1, h.2.1, h.2.2.1, h.2.2.2.1, h.2.2.2.2.1, h.2.2.2.2.2, BXg.out, TG.out⟩
      · go_simp
        have al := below_alloc u1 (.cells #[.bool false, .slice none 0 0] 25)
        replace T1 := hide (T1.out.below (al))
        have BXg := hide (Box.new u1 (.bool false) (.slice none 0 0))
        have LTg := hide (FL.out _ HF.out)
        replace HF := hide (FS.out _ _ HF.out al)
        refine hK _ _ (fun _ => HF.out) ?_
        clear hK K al
        generalize u1.alloc (.cells #[.bool false, .slice none 0 0] 25) = wzg at *
        generalize u1.heap.size = gg at *
        refine Calm.one (i := 3) (l' := #[true, true, true, true, false, true, false]) (by kernel_rfl) rfl rfl rfl fun K hK => ?_
        go_simp
        refine (den_any _ y _ (FU.out _ HF.out).2.2.2.2.2).mono ?_
        rintro e u2 ⟨v, rfl, n, hb⟩
        replace T1 := hide (T1.out.below (hb))
        replace BXg := hide (BXg.out.step hb)
        have T2 := hide (n)
        replace HF := hide (FS.out _ _ HF.out hb)
        refine hK _ _ (fun _ => HF.out) ?_
        clear hK K hb n
        refine Calm.one (i := 4) (l' := #[true, true, true, true, true, true, false]) (by kernel_rfl) rfl rfl rfl fun K hK => ?_
        go_simp
        refine (igcd_any _ _ (x.den : Int) (y.den : Int) _ T1.out T2.out (SzI.len HX.out.den (by decide)) (SzI.len HY.out.den (by decide))).mono ?_
        rintro e u3 ⟨v, rfl, n, hb⟩
        obtain ⟨s3, m3, n3, c3, rfl, n⟩ := n.cells
        clear T1
        clear T2
        replace BXg := hide (BXg.out.step hb)
        have TG := hide (n)
        replace HF := hide (FS.out _ _ HF.out hb)
        refine hK _ _ (fun _ => HF.out) ?_
        clear hK K hb n
        refine Calm.one (i := 6) (l' := #[true, true, true, true, true, true, true]) (by kernel_rfl) rfl rfl rfl fun K hK => ?_
        have hc0 := BXg.out.cell0
        have hc1 := BXg.out.cell1
        have hf0 := BXg.out.free 0
        have hf1 := BXg.out.free 1
        go_simp
        replace HF := hide (FP2.out _ gg (.bool s3) (.slice m3 n3 c3) HF.out BXg.out LTg.out)
        replace TG := hide (TG.out.keep (BXg.out.keeps (by simp) (by simp) (.bool s3) (.slice m3 n3 c3)))
        replace BXg := hide (BXg.out.put (.bool s3) (.slice m3 n3 c3))
        refine hK _ _ (fun _ => HF.out) ?_
        clear hK K hc0 hf0 hc1 hf1
        generalize ((u3.setCell ⟨gg, 0, none⟩ (.bool s3)).setCell ⟨gg, 1, none⟩ (.slice m3 n3 c3)) = ws6 at *
        refine Calm.done (by kernel_rfl) ?_
        have h := FU.out _ HF.out
        go_wp2
        go_meet
        case rel => exact ⟨gg, s3, m3, n3, c3, rfl, LTg.out, h.1, h.2.1, h.2.2.1, h.2.2.2.1, h.2.2.2.2.1, h.2.2.2.2.2, BXg.out, TG.out⟩
    · go_simp
      have al := below_alloc w0d (.cells #[.bool false, .slice none 0 0] 25)
      have BXg := hide (Box.new w0d (.bool false) (.slice none 0 0))
      have LTg := hide (FL.out _ HF.out)
      replace HF := hide (FS.out _ _ HF.out al)
      refine hK _ _ (fun _ => HF.out) ?_
      clear hK K al
      generalize w0d.alloc (.cells #[.bool false, .slice none 0 0] 25) = wzg at *
      generalize w0d.heap.size = gg at *
      refine Calm.one (i := 1) (l' := #[true, true, true, false, false, true, false]) (by kernel_rfl) rfl rfl rfl fun K hK => ?_
      go_simp
      refine (den_any _ x _ (FU.out _ HF.out).2.2.2.2.1).mono ?_
      rintro e u1 ⟨v, rfl, n, hb⟩
      replace BXg := hide (BXg.out.step hb)
      have T1 := hide (n)
      replace HF := hide (FS.out _ _ HF.out hb)
      refine hK _ _ (fun _ => HF.out) ?_
      clear hK K hb n
      refine Calm.one (i := 3) (l' := #[true, true, true, true, false, true, false]) (by kernel_rfl) rfl rfl rfl fun K hK => ?_
      go_simp
      refine (den_any _ y _ (FU.out _ HF.out).2.2.2.2.2).mono ?_
      rintro e u2 ⟨v, rfl, n, hb⟩
      replace T1 := hide (T1.out.below (hb))
      replace BXg := hide (BXg.out.step hb)
      have T2 := hide (n)
      replace HF := hide (FS.out _ _ HF.out hb)
      refine hK _ _ (fun _ => HF.out) ?_
      clear hK K hb n
      refine Calm.one (i := 4) (l' := #[true, true, true, true, true, true, false]) (by kernel_rfl) rfl rfl rfl fun K hK => ?_
      go_simp
      refine (igcd_any _ _ (x.den : Int) (y.den : Int) _ T1.out T2.out (SzI.len HX.out.den (by decide)) (SzI.len HY.out.den (by decide))).mono ?_
      rintro e u3 ⟨v, rfl, n, hb⟩
      obtain ⟨s3, m3, n3, c3, rfl, n⟩ := n.cells
      clear T1
      clear T2
      replace BXg := hide (BXg.out.step hb)
      have TG := hide (n)
      replace HF := hide (FS.out _ _ HF.out hb)
      refine hK _ _ (fun _ => HF.out) ?_
      clear hK K hb n
      refine Calm.one (i := 6) (l' := #[true, true, true, true, true, true, true]) (by kernel_rfl) rfl rfl rfl fun K hK => ?_
      have hc0 := BXg.out.cell0
      have hc1 := BXg.out.cell1
      have hf0 := BXg.out.free 0
      have hf1 := BXg.out.free 1
      go_simp
      replace HF := hide (FP2.out _ gg (.bool s3) (.slice m3 n3 c3) HF.out BXg.out LTg.out)
      replace TG := hide (TG.out.keep (BXg.out.keeps (by simp) (by simp) (.bool s3) (.slice m3 n3 c3)))
      replace BXg := hide (BXg.out.put (.bool s3) (.slice m3 n3 c3))
      refine hK _ _ (fun _ => HF.out) ?_
      clear hK K hc0 hf0 hc1 hf1
      generalize ((u3.setCell ⟨gg, 0, none⟩ (.bool s3)).setCell ⟨gg, 1, none⟩ (.slice m3 n3 c3)) = ws6 at *
      refine Calm.done (by kernel_rfl) ?_
      have h := FU.out _ HF.out
      go_wp2
      go_meet
      case rel => exact ⟨gg, s3, m3, n3, c3, rfl, LTg.out, h.1, h.2.1, h.2.2.1, h.2.2.2.1, h.2.2.2.2.1, h.2.2.2.2.2, BXg.out, TG.out⟩
  case rest =>
  obtain ⟨gg, s3, m3, n3, c3, rfl, hlts, h0, h1, h2, h3, h4, h5, bg, eTG⟩ := hcut
  clear HB P0 P1 P2 I1 I2
  have HB := hide h0
  have P0 := hide h1
  have P1 := hide h2
  have P2 := hide h3
  have I1 := hide h4
  have I2 := hide h5
  have LTS1 := hide hlts
  have Vg := hide bg
  have TG := hide eTG
  clear hlts h0 h1 h2 h3 h4 h5 bg eTG
  generalize hwc : wc = wc1 at *
  clear hwc
  go_wp2_with fail
  go_cut [6, 7] from 14 (fun pt0 pt1 wx => ∃ ga s4 m4 n4 c4 gb s5 m5 n5 c5, pt0 = .pointer (some ⟨ga, 0, none⟩) ∧ pt1 = .pointer (some ⟨gb, 0, none⟩) ∧ ((w.heap.size < ga ∧ (w.heap.size + 1) < ga ∧ (w.heap.size + 1 + 1) < ga ∧ gg < ga) ∧ (w.heap.size < gb ∧ (w.heap.size + 1) < gb ∧ (w.heap.size + 1 + 1) < gb ∧ gg < gb) ∧ ga ≠ gb) ∧ Below w.heap.size w wx ∧ Box4 wx w.heap.size (.bool s1) (.slice m1 n1 c1) (.bool t1) (.slice o1 p1 d1) ∧ Box4 wx (w.heap.size + 1) (.bool s2) (.slice m2 n2 c2) (.bool t2) (.slice o2 p2 d2) ∧ Box4 wx (w.heap.size + 1 + 1) (.bool false) (.slice none 0 0) (.bool false) (.slice none 0 0) ∧ RatAt wx (.agg #[.bool s1, .slice m1 n1 c1, .bool t1, .slice o1 p1 d1]) x ∧ RatAt wx (.agg #[.bool s2, .slice m2 n2 c2, .bool t2, .slice o2 p2 d2]) y ∧ Box wx gg (.bool s3) (.slice m3 n3 c3) ∧ IntAt wx (.agg #[.bool s3, .slice m3 n3 c3]) (gdn x y) ∧ Box wx ga (.bool s4) (.slice m4 n4 c4) ∧ Box wx gb (.bool s5) (.slice m5 n5 c5) ∧ IntAt wx (.agg #[.bool s4, .slice m4 n4 c4]) (sA x y) ∧ IntAt wx (.agg #[.bool s5, .slice m5 n5 c5]) (sB x y))
  case first =>
    obtain ⟨F, hF⟩ : ∃ F : World → Prop, F = (fun w' => Below w.heap.size w w' ∧ Box4 w' w.heap.size (.bool s1) (.slice m1 n1 c1) (.bool t1) (.slice o1 p1 d1) ∧ Box4 w' (w.heap.size + 1) (.bool s2) (.slice m2 n2 c2) (.bool t2) (.slice o2 p2 d2) ∧ Box4 w' (w.heap.size + 1 + 1) (.bool false) (.slice none 0 0) (.bool false) (.slice none 0 0) ∧ RatAt w' (.agg #[.bool s1, .slice m1 n1 c1, .bool t1, .slice o1 p1 d1]) x ∧ RatAt w' (.agg #[.bool s2, .slice m2 n2 c2, .bool t2, .slice o2 p2 d2]) y ∧ Box w' gg (.bool s3) (.slice m3 n3 c3) ∧ IntAt w' (.agg #[.bool s3, .slice m3 n3 c3]) (gdn x y)) := ⟨_, rfl⟩
    have FU : Hid (∀ W, F W → (Below w.heap.size w W ∧ Box4 W w.heap.size (.bool s1) (.slice m1 n1 c1) (.bool t1) (.slice o1 p1 d1) ∧ Box4 W (w.heap.size + 1) (.bool s2) (.slice m2 n2 c2) (.bool t2) (.slice o2 p2 d2) ∧ Box4 W (w.heap.size + 1 + 1) (.bool false) (.slice none 0 0) (.bool false) (.slice none 0 0) ∧ RatAt W (.agg #[.bool s1, .slice m1 n1 c1, .bool t1, .slice o1 p1 d1]) x ∧ RatAt W (.agg #[.bool s2, .slice m2 n2 c2, .bool t2, .slice o2 p2 d2]) y ∧ Box W gg (.bool s3) (.slice m3 n3 c3) ∧ IntAt W (.agg #[.bool s3, .slice m3 n3 c3]) (gdn x y))) := hide (fun W h => by rw [hF] at h; exact h)
    have FM : Hid (∀ W, (Below w.heap.size w W ∧ Box4 W w.heap.size (.bool s1) (.slice m1 n1 c1) (.bool t1) (.slice o1 p1 d1) ∧ Box4 W (w.heap.size + 1) (.bool s2) (.slice m2 n2 c2) (.bool t2) (.slice o2 p2 d2) ∧ Box4 W (w.heap.size + 1 + 1) (.bool false) (.slice none 0 0) (.bool false) (.slice none 0 0) ∧ RatAt W (.agg #[.bool s1, .slice m1 n1 c1, .bool t1, .slice o1 p1 d1]) x ∧ RatAt W (.agg #[.bool s2, .slice m2 n2 c2, .bool t2, .slice o2 p2 d2]) y ∧ Box W gg (.bool s3) (.slice m3 n3 c3) ∧ IntAt W (.agg #[.bool s3, .slice m3 n3 c3]) (gdn x y)) → F W) := hide (fun W h => by rw [hF]; exact h)
    clear hF
    have FS : Hid (∀ W W', F W → Below W.heap.size W W' → F W') := hide (fun W W' h hb => by
      have h := FU.out W h
      exact FM.out W' (And.intro (h.1.trans ((hb).mono h.1.size)) (And.intro (h.2.1.step (hb)) (And.intro (h.2.2.1.step (hb)) (And.intro (h.2.2.2.1.step (hb)) (And.intro (h.2.2.2.2.1.below (hb)) (And.intro (h.2.2.2.2.2.1.below (hb)) (And.intro (h.2.2.2.2.2.2.1.step (hb)) (h.2.2.2.2.2.2.2.below (hb))))))))))
    have FC : Hid (∀ W, F W → (W.cell? ⟨w.heap.size, 0, none⟩ = some (.bool s1) ∧ W.cell? ⟨w.heap.size, 1, none⟩ = some (.slice m1 n1 c1) ∧ W.cell? ⟨w.heap.size, 2, none⟩ = some (.bool t1) ∧ W.cell? ⟨w.heap.size, 3, none⟩ = some (.slice o1 p1 d1) ∧ W.cell? ⟨(w.heap.size + 1), 0, none⟩ = some (.bool s2) ∧ W.cell? ⟨(w.heap.size + 1), 1, none⟩ = some (.slice m2 n2 c2) ∧ W.cell? ⟨(w.heap.size + 1), 2, none⟩ = some (.bool t2) ∧ W.cell? ⟨(w.heap.size + 1), 3, none⟩ = some (.slice o2 p2 d2) ∧ W.cell? ⟨(w.heap.size + 1 + 1), 0, none⟩ = some (.bool false) ∧ W.cell? ⟨(w.heap.size + 1 + 1), 1, none⟩ = some (.slice none 0 0) ∧ W.cell? ⟨(w.heap.size + 1 + 1), 2, none⟩ = some (.bool false) ∧ W.cell? ⟨(w.heap.size + 1 + 1), 3, none⟩ = some (.slice none 0 0) ∧ W.cell? ⟨gg, 0, none⟩ = some (.bool s3) ∧ W.cell? ⟨gg, 1, none⟩ = some (.slice m3 n3 c3))) := hide (fun W h => by
      have h := FU.out W h
      exact ⟨h.2.1.cell0, h.2.1.cell1, h.2.1.cell2, h.2.1.cell3, h.2.2.1.cell0, h.2.2.1.cell1, h.2.2.1.cell2, h.2.2.1.cell3, h.2.2.2.1.cell0, h.2.2.2.1.cell1, h.2.2.2.1.cell2, h.2.2.2.1.cell3, h.2.2.2.2.2.2.1.cell0, h.2.2.2.2.2.2.1.cell1⟩)
    have FL : Hid (∀ W, F W → (w.heap.size < W.heap.size ∧ (w.heap.size + 1) < W.heap.size ∧ (w.heap.size + 1 + 1) < W.heap.size ∧ gg < W.heap.size)) := hide (fun W h => by
      have h := FU.out W h
      exact ⟨h.2.1.lt, h.2.2.1.lt, h.2.2.2.1.lt, h.2.2.2.2.2.2.1.lt⟩)
    have FP2 : Hid (∀ W g (x1 x2 : Value), F W → Box W g (.bool false) (.slice none 0 0) → (w.heap.size < g ∧ (w.heap.size + 1) < g ∧ (w.heap.size + 1 + 1) < g ∧ gg < g) → F ((W.setCell ⟨g, 0, none⟩ x1).setCell ⟨g, 1, none⟩ x2)) := hide (fun W g x1 x2 h hX hl => by
      have h := FU.out W h
      exact FM.out _ (And.intro (below_put h.1 (show w.heap.size ≤ g by omega) x1 x2) (And.intro (h.2.1.other (C := g) (by omega) x1 x2) (And.intro (h.2.2.1.other (C := g) (by omega) x1 x2) (And.intro (h.2.2.2.1.other (C := g) (by omega) x1 x2) (And.intro (h.2.2.2.2.1.keep (hX.keeps (by simp) (by simp) x1 x2)) (And.intro (h.2.2.2.2.2.1.keep (hX.keeps (by simp) (by simp) x1 x2)) (And.intro (h.2.2.2.2.2.2.1.other (C := g) (by omega) x1 x2) (h.2.2.2.2.2.2.2.keep (hX.keeps (by simp) (by simp) x1 x2))))))))))
    refine wp_calm F (fun _ => true) 12 #[false, false, false, false, false, false, false, false, false, false, false, false] (by kernel_rfl) rfl rfl ?_
    have HF := hide (FM.out _ (And.intro (HB.out.drew) (And.intro (P0.out.drew) (And.intro (P1.out.drew) (And.intro (P2.out.drew) (And.intro (I1.out.drew) (And.intro (I2.out.drew) (And.intro (Vg.out.drew) (TG.out.drew)))))))))
    generalize wc1.drew = wc1d at *
    refine Calm.take (i := 0) (v := ?_) (a' := ?_) (l' := #[true, false, false, false, false, false, false, false, false, false, false, false]) (d := some 14) rfl (by kernel_rfl) (by kernel_rfl) (by kernel_rfl) (by kernel_rfl) (fun _ _ _ h => h) HF.out rfl ?_ rfl rfl ?_ ?_
    rotate_left
    · intro w' hF; obtain ⟨f0, f1, f2, f3, f4, f5, f6, f7, f8, f9, f10, f11, f12, f13⟩ := FC.out _ hF; clear hF; go_simp; try rfl
    rotate_left
    · simp only [Act.put]; exact rfl
    refine Calm.take (i := 2) (v := ?_) (a' := ?_) (l' := #[true, false, true, false, false, false, false, false, false, false, false, false]) (d := some 16) rfl (by kernel_rfl) (by kernel_rfl) (by kernel_rfl) (by kernel_rfl) (fun _ _ _ h => h) HF.out rfl ?_ rfl rfl ?_ ?_
    rotate_left
    · intro w' hF; obtain ⟨f0, f1, f2, f3, f4, f5, f6, f7, f8, f9, f10, f11, f12, f13⟩ := FC.out _ hF; clear hF; go_simp; try rfl
    rotate_left
    · simp only [Act.put]; exact rfl
    refine Calm.take (i := 4) (v := ?_) (a' := ?_) (l' := #[true, false, true, false, true, false, false, false, false, false, false, false]) (d := some 18) rfl (by kernel_rfl) (by kernel_rfl) (by kernel_rfl) (by kernel_rfl) (fun _ _ _ h => h) HF.out rfl ?_ rfl rfl ?_ ?_
    rotate_left
    · intro w' hF; obtain ⟨f0, f1, f2, f3, f4, f5, f6, f7, f8, f9, f10, f11, f12, f13⟩ := FC.out _ hF; clear hF; go_simp; try rfl
    rotate_left
    · simp only [Act.put]; exact rfl
    refine Calm.take (i := 6) (v := ?_) (a' := ?_) (l' := #[true, false, true, false, true, false, true, false, false, false, false, false]) (d := some 20) rfl (by kernel_rfl) (by kernel_rfl) (by kernel_rfl) (by kernel_rfl) (fun _ _ _ h => h) HF.out rfl ?_ rfl rfl ?_ ?_
    rotate_left
    · intro w' hF; obtain ⟨f0, f1, f2, f3, f4, f5, f6, f7, f8, f9, f10, f11, f12, f13⟩ := FC.out _ hF; clear hF; go_simp; try rfl
    rotate_left
    · simp only [Act.put]; exact rfl
    refine Calm.three (i := 1) (j := 8) (m := 9) (l := #[true, true, true, false, true, false, true, false, false, false, false, false]) (l' := #[true, false, true, false, true, false, true, false, true, false, false, false]) (l'' := #[true, false, true, false, true, false, true, false, false, true, false, false]) (by kernel_rfl) rfl rfl rfl rfl rfl rfl rfl rfl rfl (fun K hK => ?_) (fun K hK => ?_) (fun K hK => ?_)
    · go_simp
      refine (den_any _ x _ (FU.out _ HF.out).2.2.2.2.1).mono ?_
      rintro e u1 ⟨v, rfl, n, hb⟩
      have T1 := hide (n)
      replace HF := hide (FS.out _ _ HF.out hb)
      refine hK _ _ (fun _ => HF.out) ?_
      clear hK K hb n
      refine Calm.three (i := 3) (j := 8) (m := 9) (l := #[true, true, true, true, true, false, true, false, false, false, false, false]) (l' := #[true, true, true, false, true, false, true, false, true, false, false, false]) (l'' := #[true, true, true, false, true, false, true, false, false, true, false, false]) (by kernel_rfl) rfl rfl rfl rfl rfl rfl rfl rfl rfl (fun K hK => ?_) (fun K hK => ?_) (fun K hK => ?_)
      · go_simp
        refine (quotient_any _ _ (x.den : Int) (gdn x y) _ T1.out (FU.out _ HF.out).2.2.2.2.2.2.2 (SzI.len HX.out.den (by decide)) (SzI.len SG.out (by decide)) HG0.out).mono ?_
        rintro e u2 ⟨v, rfl, n, hb⟩
        obtain ⟨s4, m4, n4, c4, rfl, n⟩ := n.cells
        clear T1
        have TA := hide (n)
        replace HF := hide (FS.out _ _ HF.out hb)
        refine hK _ _ (fun _ => HF.out) ?_
        clear hK K hb n
        refine Calm.three (i := 5) (j := 8) (m := 9) (l := #[true, true, true, true, true, true, true, false, false, false, false, false]) (l' := #[true, true, true, true, true, false, true, false, true, false, false, false]) (l'' := #[true, true, true, true, true, false, true, false, false, true, false, false]) (by kernel_rfl) rfl rfl rfl rfl rfl rfl rfl rfl rfl (fun K hK => ?_) (fun K hK => ?_) (fun K hK => ?_)
        · go_simp
          refine (den_any _ y _ (FU.out _ HF.out).2.2.2.2.2.1).mono ?_
          rintro e u3 ⟨v, rfl, n, hb⟩
          replace TA := hide (TA.out.below (hb))
          have T2 := hide (n)
          replace HF := hide (FS.out _ _ HF.out hb)
          refine hK _ _ (fun _ => HF.out) ?_
          clear hK K hb n
          refine Calm.three (i := 7) (j := 8) (m := 9) (l := #[true, true, true, true, true, true, true, true, false, false, false, false]) (l' := #[true, true, true, true, true, true, true, false, true, false, false, false]) (l'' := #[true, true, true, true, true, true, true, false, false, true, false, false]) (by kernel_rfl) rfl rfl rfl rfl rfl rfl rfl rfl rfl (fun K hK => ?_) (fun K hK => ?_) (fun K hK => ?_)
          · go_simp
            refine (quotient_any _ _ (y.den : Int) (gdn x y) _ T2.out (FU.out _ HF.out).2.2.2.2.2.2.2 (SzI.len HY.out.den (by decide)) (SzI.len SG.out (by decide)) HG0.out).mono ?_
            rintro e u4 ⟨v, rfl, n, hb⟩
            obtain ⟨s5, m5, n5, c5, rfl, n⟩ := n.cells
            replace TA := hide (TA.out.below (hb))
            clear T2
            have TB := hide (n)
            replace HF := hide (FS.out _ _ HF.out hb)
            refine hK _ _ (fun _ => HF.out) ?_
            clear hK K hb n
            refine Calm.two (i := 8) (j := 9) (l := #[true, true, true, true, true, true, true, true, true, false, false, false]) (l' := #[true, true, true, true, true, true, true, true, false, true, false, false]) (by kernel_rfl) rfl rfl rfl rfl rfl rfl (fun K hK => ?_) (fun K hK => ?_)
            · go_simp
              have al := below_alloc u4 (.cells #[.bool false, .slice none 0 0] 25)
              replace TA := hide (TA.out.below (al))
              replace TB := hide (TB.out.below (al))
              have BXa := hide (Box.new u4 (.bool false) (.slice none 0 0))
              have LTa := hide (FL.out _ HF.out)
              replace HF := hide (FS.out _ _ HF.out al)
              refine hK _ _ (fun _ => HF.out) ?_
              clear hK K al
              generalize u4.alloc (.cells #[.bool false, .slice none 0 0] 25) = wza at *
              generalize u4.heap.size = ga at *
              refine Calm.one (i := 9) (l' := #[true, true, true, true, true, true, true, true, true, true, false, false]) (by kernel_rfl) rfl rfl rfl fun K hK => ?_
              go_simp
              have al := below_alloc wza (.cells #[.bool false, .slice none 0 0] 25)
              replace TA := hide (TA.out.below (al))
              replace TB := hide (TB.out.below (al))
              have LTab := hide (BXa.out.lt)
              replace BXa := hide (BXa.out.step al)
              have BXb := hide (Box.new wza (.bool false) (.slice none 0 0))
              have LTb := hide (FL.out _ HF.out)
              replace HF := hide (FS.out _ _ HF.out al)
              refine hK _ _ (fun _ => HF.out) ?_
              clear hK K al
              generalize wza.alloc (.cells #[.bool false, .slice none 0 0] 25) = wzb at *
              generalize wza.heap.size = gb at *
              refine Calm.one (i := 10) (l' := #[true, true, true, true, true, true, true, true, true, true, true, false]) (by kernel_rfl) rfl rfl rfl fun K hK => ?_
              have hc0 := BXa.out.cell0
              have hc1 := BXa.out.cell1
              have hf0 := BXa.out.free 0
              have hf1 := BXa.out.free 1
              go_simp
              replace HF := hide (FP2.out _ ga (.bool s4) (.slice m4 n4 c4) HF.out BXa.out LTa.out)
              replace TA := hide (TA.out.keep (BXa.out.keeps (by simp) (by simp) (.bool s4) (.slice m4 n4 c4)))
              replace TB := hide (TB.out.keep (BXa.out.keeps (by simp) (by simp) (.bool s4) (.slice m4 n4 c4)))
              replace BXb := hide (BXb.out.other (C := ga) (by first | exact Nat.ne_of_lt LTab.out | exact Nat.ne_of_gt LTba.out) (.bool s4) (.slice m4 n4 c4))
              replace BXa := hide (BXa.out.put (.bool s4) (.slice m4 n4 c4))
              refine hK _ _ (fun _ => HF.out) ?_
              clear hK K hc0 hf0 hc1 hf1
              generalize ((wzb.setCell ⟨ga, 0, none⟩ (.bool s4)).setCell ⟨ga, 1, none⟩ (.slice m4 n4 c4)) = ws10 at *
              refine Calm.one (i := 11) (l' := #[true, true, true, true, true, true, true, true, true, true, true, true]) (by kernel_rfl) rfl rfl rfl fun K hK => ?_
              have hc0 := BXb.out.cell0
              have hc1 := BXb.out.cell1
              have hf0 := BXb.out.free 0
              have hf1 := BXb.out.free 1
              go_simp
              replace HF := hide (FP2.out _ gb (.bool s5) (.slice m5 n5 c5) HF.out BXb.out LTb.out)
              replace TA := hide (TA.out.keep (BXb.out.keeps (by simp) (by simp) (.bool s5) (.slice m5 n5 c5)))
              replace TB := hide (TB.out.keep (BXb.out.keeps (by simp) (by simp) (.bool s5) (.slice m5 n5 c5)))
              replace BXa := hide (BXa.out.other (C := gb) (by first | exact Nat.ne_of_lt LTba.out | exact Nat.ne_of_gt LTab.out) (.bool s5) (.slice m5 n5 c5))
              replace BXb := hide (BXb.out.put (.bool s5) (.slice m5 n5 c5))
              refine hK _ _ (fun _ => HF.out) ?_
              clear hK K hc0 hf0 hc1 hf1
              generalize ((ws10.setCell ⟨gb, 0, none⟩ (.bool s5)).setCell ⟨gb, 1, none⟩ (.slice m5 n5 c5)) = ws11 at *
              refine Calm.done (by kernel_rfl) ?_
              have h := FU.out _ HF.out
              go_wp2
              go_meet
              case rel => exact ⟨ga, s4, m4, n4, c4, gb, s5, m5, n5, c5, rfl, rfl, ⟨LTa.out, LTb.out, by first | exact Nat.ne_of_lt LTab.out | exact Nat.ne_of_gt LTba.out⟩, h.1, h.2.1, h.2.2.1, h.2.2.2.1, h.2.2.2.2.1, h.2.2.2.2.2.1, h.2.2.2.2.2.2.1, h.2.2.2.2.2.2.2, BXa.out, BXb.out, TA.out, TB.out⟩
            · go_simp
              have al := below_alloc u4 (.cells #[.bool false, .slice none 0 0] 25)
              replace TA := hide (TA.out.below (al))
              replace TB := hide (TB.out.below (al))
              have BXb := hide (Box.new u4 (.bool false) (.slice none 0 0))
              have LTb := hide (FL.out _ HF.out)
              replace HF := hide (FS.out _ _ HF.out al)
              refine hK _ _ (fun _ => HF.out) ?_
              clear hK K al
              generalize u4.alloc (.cells #[.bool false, .slice none 0 0] 25) = wzb at *
              generalize u4.heap.size = gb at *
              refine Calm.one (i := 8) (l' := #[true, true, true, true, true, true, true, true, true, true, false, false]) (by kernel_rfl) rfl rfl rfl fun K hK => ?_
              go_simp
              have al := below_alloc wzb (.cells #[.bool false, .slice none 0 0] 25)
              replace TA := hide (TA.out.below (al))
              replace TB := hide (TB.out.below (al))
              have LTba := hide (BXb.out.lt)
              replace BXb := hide (BXb.out.step al)
              have BXa := hide (Box.new wzb (.bool false) (.slice none 0 0))
              have LTa := hide (FL.out _ HF.out)
              replace HF := hide (FS.out _ _ HF.out al)
              refine hK _ _ (fun _ => HF.out) ?_
              clear hK K al
              generalize wzb.alloc (.cells #[.bool false, .slice none 0 0] 25) = wza at *
              generalize wzb.heap.size = ga at *
              refine Calm.one (i := 10) (l' := #[true, true, true, true, true, true, true, true, true, true, true, false]) (by kernel_rfl) rfl rfl rfl fun K hK => ?_
              have hc0 := BXa.out.cell0
              have hc1 := BXa.out.cell1
              have hf0 := BXa.out.free 0
              have hf1 := BXa.out.free 1
              go_simp
              replace HF := hide (FP2.out _ ga (.bool s4) (.slice m4 n4 c4) HF.out BXa.out LTa.out)
              replace TA := hide (TA.out.keep (BXa.out.keeps (by simp) (by simp) (.bool s4) (.slice m4 n4 c4)))
              replace TB := hide (TB.out.keep (BXa.out.keeps (by simp) (by simp) (.bool s4) (.slice m4 n4 c4)))
              replace BXb := hide (BXb.out.other (C := ga) (by first | exact Nat.ne_of_lt LTab.out | exact Nat.ne_of_gt LTba.out) (.bool s4) (.slice m4 n4 c4))
              replace BXa := hide (BXa.out.put (.bool s4) (.slice m4 n4 c4))
              refine hK _ _ (fun _ => HF.out) ?_
              clear hK K hc0 hf0 hc1 hf1
              generalize ((wza.setCell ⟨ga, 0, none⟩ (.bool s4)).setCell ⟨ga, 1, none⟩ (.slice m4 n4 c4)) = ws10 at *
              refine Calm.one (i := 11) (l' := #[true, true, true, true, true, true, true, true, true, true, true, true]) (by kernel_rfl) rfl rfl rfl fun K hK => ?_
              have hc0 := BXb.out.cell0
              have hc1 := BXb.out.cell1
              have hf0 := BXb.out.free 0
              have hf1 := BXb.out.free 1
              go_simp
              replace HF := hide (FP2.out _ gb (.bool s5) (.slice m5 n5 c5) HF.out BXb.out LTb.out)
              replace TA := hide (TA.out.keep (BXb.out.keeps (by simp) (by simp) (.bool s5) (.slice m5 n5 c5)))
              replace TB := hide (TB.out.keep (BXb.out.keeps (by simp) (by simp) (.bool s5) (.slice m5 n5 c5)))
              replace BXa := hide (BXa.out.other (C := gb) (by first | exact Nat.ne_of_lt LTba.out | exact Nat.ne_of_gt LTab.out) (.bool s5) (.slice m5 n5 c5))
              replace BXb := hide (BXb.out.put (.bool s5) (.slice m5 n5 c5))
              refine hK _ _ (fun _ => HF.out) ?_
              clear hK K hc0 hf0 hc1 hf1
              generalize ((ws10.setCell ⟨gb, 0, none⟩ (.bool s5)).setCell ⟨gb, 1, none⟩ (.slice m5 n5 c5)) = ws11 at *
              refine Calm.done (by kernel_rfl) ?_
              have h := FU.out _ HF.out
              go_wp2
              go_meet
              case rel => exact ⟨ga, s4, m4, n4, c4, gb, s5, m5, n5, c5, rfl, rfl, ⟨LTa.out, LTb.out, by first | exact Nat.ne_of_lt LTab.out | exact Nat.ne_of_gt LTba.out⟩, h.1, h.2.1, h.2.2.1, h.2.2.2.1, h.2.2.2.2.1, h.2.2.2.2.2.1, h.2.2.2.2.2.2.1, h.2.2.2.2.2.2.2, BXa.out, BXb.out, TA.out, TB.out⟩
          · go_simp
            have al := below_alloc u3 (.cells #[.bool false, .slice none 0 0] 25)
            replace TA := hide (TA.out.below (al))
            replace T2 := hide (T2.out.below (al))
            have BXa := hide (Box.new u3 (.bool false) (.slice none 0 0))
            have LTa := hide (FL.out _ HF.out)
            replace HF := hide (FS.out _ _ HF.out al)
            refine hK _ _ (fun _ => HF.out) ?_
            clear hK K al
            generalize u3.alloc (.cells #[.bool false, .slice none 0 0] 25) = wza at *
            generalize u3.heap.size = ga at *
            refine Calm.two (i := 7) (j := 9) (l := #[true, true, true, true, true, true, true, true, true, false, false, false]) (l' := #[true, true, true, true, true, true, true, false, true, true, false, false]) (by kernel_rfl) rfl rfl rfl rfl rfl rfl (fun K hK => ?_) (fun K hK => ?_)
            · go_simp
              refine (quotient_any _ _ (y.den : Int) (gdn x y) _ T2.out (FU.out _ HF.out).2.2.2.2.2.2.2 (SzI.len HY.out.den (by decide)) (SzI.len SG.out (by decide)) HG0.out).mono ?_
              rintro e u4 ⟨v, rfl, n, hb⟩
              obtain ⟨s5, m5, n5, c5, rfl, n⟩ := n.cells
              replace TA := hide (TA.out.below (hb))
              clear T2
              replace BXa := hide (BXa.out.step hb)
              have TB := hide (n)
              replace HF := hide (FS.out _ _ HF.out hb)
              refine hK _ _ (fun _ => HF.out) ?_
              clear hK K hb n
              refine Calm.one (i := 9) (l' := #[true, true, true, true, true, true, true, true, true, true, false, false]) (by kernel_rfl) rfl rfl rfl fun K hK => ?_
              go_simp
              have al := below_alloc u4 (.cells #[.bool false, .slice none 0 0] 25)
              replace TA := hide (TA.out.below (al))
              replace TB := hide (TB.out.below (al))
              have LTab := hide (BXa.out.lt)
              replace BXa := hide (BXa.out.step al)
              have BXb := hide (Box.new u4 (.bool false) (.slice none 0 0))
              have LTb := hide (FL.out _ HF.out)
              replace HF := hide (FS.out _ _ HF.out al)
              refine hK _ _ (fun _ => HF.out) ?_
              clear hK K al
              generalize u4.alloc (.cells #[.bool false, .slice none 0 0] 25) = wzb at *
              generalize u4.heap.size = gb at *
              refine Calm.one (i := 10) (l' := #[true, true, true, true, true, true, true, true, true, true, true, false]) (by kernel_rfl) rfl rfl rfl fun K hK => ?_
              have hc0 := BXa.out.cell0
              have hc1 := BXa.out.cell1
              have hf0 := BXa.out.free 0
              have hf1 := BXa.out.free 1
              go_simp
              replace HF := hide (FP2.out _ ga (.bool s4) (.slice m4 n4 c4) HF.out BXa.out LTa.out)
              replace TA := hide (TA.out.keep (BXa.out.keeps (by simp) (by simp) (.bool s4) (.slice m4 n4 c4)))
              replace TB := hide (TB.out.keep (BXa.out.keeps (by simp) (by simp) (.bool s4) (.slice m4 n4 c4)))
              replace BXb := hide (BXb.out.other (C := ga) (by first | exact Nat.ne_of_lt LTab.out | exact Nat.ne_of_gt LTba.out) (.bool s4) (.slice m4 n4 c4))
              replace BXa := hide (BXa.out.put (.bool s4) (.slice m4 n4 c4))
              refine hK _ _ (fun _ => HF.out) ?_
              clear hK K hc0 hf0 hc1 hf1
              generalize ((wzb.setCell ⟨ga, 0, none⟩ (.bool s4)).setCell ⟨ga, 1, none⟩ (.slice m4 n4 c4)) = ws10 at *
              refine Calm.one (i := 11) (l' := #[true, true, true, true, true, true, true, true, true, true, true, true]) (by kernel_rfl) rfl rfl rfl fun K hK => ?_
              have hc0 := BXb.out.cell0
              have hc1 := BXb.out.cell1
              have hf0 := BXb.out.free 0
              have hf1 := BXb.out.free 1
              go_simp
              replace HF := hide (FP2.out _ gb (.bool s5) (.slice m5 n5 c5) HF.out BXb.out LTb.out)
              replace TA := hide (TA.out.keep (BXb.out.keeps (by simp) (by simp) (.bool s5) (.slice m5 n5 c5)))
              replace TB := hide (TB.out.keep (BXb.out.keeps (by simp) (by simp) (.bool s5) (.slice m5 n5 c5)))
              replace BXa := hide (BXa.out.other (C := gb) (by first | exact Nat.ne_of_lt LTba.out | exact Nat.ne_of_gt LTab.out) (.bool s5) (.slice m5 n5 c5))
              replace BXb := hide (BXb.out.put (.bool s5) (.slice m5 n5 c5))
              refine hK _ _ (fun _ => HF.out) ?_
              clear hK K hc0 hf0 hc1 hf1
              generalize ((ws10.setCell ⟨gb, 0, none⟩ (.bool s5)).setCell ⟨gb, 1, none⟩ (.slice m5 n5 c5)) = ws11 at *
              refine Calm.done (by kernel_rfl) ?_
              have h := FU.out _ HF.out
              go_wp2
              go_meet
              case rel => exact ⟨ga, s4, m4, n4, c4, gb, s5, m5, n5, c5, rfl, rfl, ⟨LTa.out, LTb.out, by first | exact Nat.ne_of_lt LTab.out | exact Nat.ne_of_gt LTba.out⟩, h.1, h.2.1, h.2.2.1, h.2.2.2.1, h.2.2.2.2.1, h.2.2.2.2.2.1, h.2.2.2.2.2.2.1, h.2.2.2.2.2.2.2, BXa.out, BXb.out, TA.out, TB.out⟩
            · go_simp
              have al := below_alloc wza (.cells #[.bool false, .slice none 0 0] 25)
              replace TA := hide (TA.out.below (al))
              replace T2 := hide (T2.out.below (al))
              have LTab := hide (BXa.out.lt)
              replace BXa := hide (BXa.out.step al)
              have BXb := hide (Box.new wza (.bool false) (.slice none 0 0))
              have LTb := hide (FL.out _ HF.out)
              replace HF := hide (FS.out _ _ HF.out al)
              refine hK _ _ (fun _ => HF.out) ?_
              clear hK K al
              generalize wza.alloc (.cells #[.bool false, .slice none 0 0] 25) = wzb at *
              generalize wza.heap.size = gb at *
              refine Calm.one (i := 7) (l' := #[true, true, true, true, true, true, true, true, true, true, false, false]) (by kernel_rfl) rfl rfl rfl fun K hK => ?_
              go_simp
              refine (quotient_any _ _ (y.den : Int) (gdn x y) _ T2.out (FU.out _ HF.out).2.2.2.2.2.2.2 (SzI.len HY.out.den (by decide)) (SzI.len SG.out (by decide)) HG0.out).mono ?_
              rintro e u4 ⟨v, rfl, n, hb⟩
              obtain ⟨s5, m5, n5, c5, rfl, n⟩ := n.cells
              replace TA := hide (TA.out.below (hb))
              clear T2
              replace BXa := hide (BXa.out.step hb)
              replace BXb := hide (BXb.out.step hb)
              have TB := hide (n)
              replace HF := hide (FS.out _ _ HF.out hb)
              refine hK _ _ (fun _ => HF.out) ?_
              clear hK K hb n
              refine Calm.one (i := 10) (l' := #[true, true, true, true, true, true, true, true, true, true, true, false]) (by kernel_rfl) rfl rfl rfl fun K hK => ?_
              have hc0 := BXa.out.cell0
              have hc1 := BXa.out.cell1
              have hf0 := BXa.out.free 0
              have hf1 := BXa.out.free 1
              go_simp
              replace HF := hide (FP2.out _ ga (.bool s4) (.slice m4 n4 c4) HF.out BXa.out LTa.out)
              replace TA := hide (TA.out.keep (BXa.out.keeps (by simp) (by simp) (.bool s4) (.slice m4 n4 c4)))
              replace TB := hide (TB.out.keep (BXa.out.keeps (by simp) (by simp) (.bool s4) (.slice m4 n4 c4)))
              replace BXb := hide (BXb.out.other (C := ga) (by first | exact Nat.ne_of_lt LTab.out | exact Nat.ne_of_gt LTba.out) (.bool s4) (.slice m4 n4 c4))
              replace BXa := hide (BXa.out.put (.bool s4) (.slice m4 n4 c4))
              refine hK _ _ (fun _ => HF.out) ?_
              clear hK K hc0 hf0 hc1 hf1
              generalize ((u4.setCell ⟨ga, 0, none⟩ (.bool s4)).setCell ⟨ga, 1, none⟩ (.slice m4 n4 c4)) = ws10 at *
              refine Calm.one (i := 11) (l' := #[true, true, true, true, true, true, true, true, true, true, true, true]) (by kernel_rfl) rfl rfl rfl fun K hK => ?_
              have hc0 := BXb.out.cell0
              have hc1 := BXb.out.cell1
              have hf0 := BXb.out.free 0
              have hf1 := BXb.out.free 1
              go_simp
              replace HF := hide (FP2.out _ gb (.bool s5) (.slice m5 n5 c5) HF.out BXb.out LTb.out)
              replace TA := hide (TA.out.keep (BXb.out.keeps (by simp) (by simp) (.bool s5) (.slice m5 n5 c5)))
              replace TB := hide (TB.out.keep (BXb.out.keeps (by simp) (by simp) (.bool s5) (.slice m5 n5 c5)))
              replace BXa := hide (BXa.out.other (C := gb) (by first | exact Nat.ne_of_lt LTba.out | exact Nat.ne_of_gt LTab.out) (.bool s5) (.slice m5 n5 c5))
              replace BXb := hide (BXb.out.put (.bool s5) (.slice m5 n5 c5))
              refine hK _ _ (fun _ => HF.out) ?_
              clear hK K hc0 hf0 hc1 hf1
              generalize ((ws10.setCell ⟨gb, 0, none⟩ (.bool s5)).setCell ⟨gb, 1, none⟩ (.slice m5 n5 c5)) = ws11 at *
              refine Calm.done (by kernel_rfl) ?_
              have h := FU.out _ HF.out
              go_wp2
              go_meet
              case rel => exact ⟨ga, s4, m4, n4, c4, gb, s5, m5, n5, c5, rfl, rfl, ⟨LTa.out, LTb.out, by first | exact Nat.ne_of_lt LTab.out | exact Nat.ne_of_gt LTba.out⟩, h.1, h.2.1, h.2.2.1, h.2.2.2.1, h.2.2.2.2.1, h.2.2.2.2.2.1, h.2.2.2.2.2.2.1, h.2.2.2.2.2.2.2, BXa.out, BXb.out, TA.out, TB.out⟩
          · go_simp
            have al := below_alloc u3 (.cells #[.bool false, .slice none 0 0] 25)
            replace TA := hide (TA.out.below (al))
            replace T2 := hide (T2.out.below (al))
            have BXb := hide (Box.new u3 (.bool false) (.slice none 0 0))
            have LTb := hide (FL.out _ HF.out)
            replace HF := hide (FS.out _ _ HF.out al)
            refine hK _ _ (fun _ => HF.out) ?_
            clear hK K al
            generalize u3.alloc (.cells #[.bool false, .slice none 0 0] 25) = wzb at *
            generalize u3.heap.size = gb at *
            refine Calm.two (i := 7) (j := 8) (l := #[true, true, true, true, true, true, true, true, false, true, false, false]) (l' := #[true, true, true, true, true, true, true, false, true, true, false, false]) (by kernel_rfl) rfl rfl rfl rfl rfl rfl (fun K hK => ?_) (fun K hK => ?_)
            · go_simp
              refine (quotient_any _ _ (y.den : Int) (gdn x y) _ T2.out (FU.out _ HF.out).2.2.2.2.2.2.2 (SzI.len HY.out.den (by decide)) (SzI.len SG.out (by decide)) HG0.out).mono ?_
              rintro e u4 ⟨v, rfl, n, hb⟩
              obtain ⟨s5, m5, n5, c5, rfl, n⟩ := n.cells
              replace TA := hide (TA.out.below (hb))
              clear T2
              replace BXb := hide (BXb.out.step hb)
              have TB := hide (n)
              replace HF := hide (FS.out _ _ HF.out hb)
              refine hK _ _ (fun _ => HF.out) ?_
              clear hK K hb n
              refine Calm.one (i := 8) (l' := #[true, true, true, true, true, true, true, true, true, true, false, false]) (by kernel_rfl) rfl rfl rfl fun K hK => ?_
              go_simp
              have al := below_alloc u4 (.cells #[.bool false, .slice none 0 0] 25)
              replace TA := hide (TA.out.below (al))
              replace TB := hide (TB.out.below (al))
              have LTba := hide (BXb.out.lt)
              replace BXb := hide (BXb.out.step al)
              have BXa := hide (Box.new u4 (.bool false) (.slice none 0 0))
              have LTa := hide (FL.out _ HF.out)
              replace HF := hide (FS.out _ _ HF.out al)
              refine hK _ _ (fun _ => HF.out) ?_
              clear hK K al
              generalize u4.alloc (.cells #[.bool false, .slice none 0 0] 25) = wza at *
              generalize u4.heap.size = ga at *
              refine Calm.one (i := 10) (l' := #[true, true, true, true, true, true, true, true, true, true, true, false]) (by kernel_rfl) rfl rfl rfl fun K hK => ?_
              have hc0 := BXa.out.cell0
              have hc1 := BXa.out.cell1
              have hf0 := BXa.out.free 0
              have hf1 := BXa.out.free 1
              go_simp
              replace HF := hide (FP2.out _ ga (.bool s4) (.slice m4 n4 c4) HF.out BXa.out LTa.out)
              replace TA := hide (TA.out.keep (BXa.out.keeps (by simp) (by simp) (.bool s4) (.slice m4 n4 c4)))
              replace TB := hide (TB.out.keep (BXa.out.keeps (by simp) (by simp) (.bool s4) (.slice m4 n4 c4)))
              replace BXb := hide (BXb.out.other (C := ga) (by first | exact Nat.ne_of_lt LTab.out | exact Nat.ne_of_gt LTba.out) (.bool s4) (.slice m4 n4 c4))
              replace BXa := hide (BXa.out.put (.bool s4) (.slice m4 n4 c4))
              refine hK _ _ (fun _ => HF.out) ?_
              clear hK K hc0 hf0 hc1 hf1
              generalize ((wza.setCell ⟨ga, 0, none⟩ (.bool s4)).setCell ⟨ga, 1, none⟩ (.slice m4 n4 c4)) = ws10 at *
              refine Calm.one (i := 11) (l' := #[true, true, true, true, true, true, true, true, true, true, true, true]) (by kernel_rfl) rfl rfl rfl fun K hK => ?_
              have hc0 := BXb.out.cell0
              have hc1 := BXb.out.cell1
              have hf0 := BXb.out.free 0
              have hf1 := BXb.out.free 1
              go_simp
              replace HF := hide (FP2.out _ gb (.bool s5) (.slice m5 n5 c5) HF.out BXb.out LTb.out)
              replace TA := hide (TA.out.keep (BXb.out.keeps (by simp) (by simp) (.bool s5) (.slice m5 n5 c5)))
              replace TB := hide (TB.out.keep (BXb.out.keeps (by simp) (by simp) (.bool s5) (.slice m5 n5 c5)))
              replace BXa := hide (BXa.out.other (C := gb) (by first | exact Nat.ne_of_lt LTba.out | exact Nat.ne_of_gt LTab.out) (.bool s5) (.slice m5 n5 c5))
              replace BXb := hide (BXb.out.put (.bool s5) (.slice m5 n5 c5))
              refine hK _ _ (fun _ => HF.out) ?_
              clear hK K hc0 hf0 hc1 hf1
              generalize ((ws10.setCell ⟨gb, 0, none⟩ (.bool s5)).setCell ⟨gb, 1, none⟩ (.slice m5 n5 c5)) = ws11 at *
              refine Calm.done (by kernel_rfl) ?_
              have h := FU.out _ HF.out
              go_wp2
              go_meet
              case rel => exact ⟨ga, s4, m4, n4, c4, gb, s5, m5, n5, c5, rfl, rfl, ⟨LTa.out, LTb.out, by first | exact Nat.ne_of_lt LTab.out | exact Nat.ne_of_gt LTba.out⟩, h.1, h.2.1, h.2.2.1, h.2.2.2.1, h.2.2.2.2.1, h.2.2.2.2.2.1, h.2.2.2.2.2.2.1, h.2.2.2.2.2.2.2, BXa.out, BXb.out, TA.out, TB.out⟩
            · go_simp
              have al := below_alloc wzb (.cells #[.bool false, .slice none 0 0] 25)
              replace TA := hide (TA.out.below (al))
              replace T2 := hide (T2.out.below (al))
              have LTba := hide (BXb.out.lt)
              replace BXb := hide (BXb.out.step al)
              have BXa := hide (Box.new wzb (.bool false) (.slice none 0 0))
              have LTa := hide (FL.out _ HF.out)
              replace HF := hide (FS.out _ _ HF.out al)
              refine hK _ _ (fun _ => HF.out) ?_
              clear hK K al
              generalize wzb.alloc (.cells #[.bool false, .slice none 0 0] 25) = wza at *
              generalize wzb.heap.size = ga at *
              refine Calm.one (i := 7) (l' := #[true, true, true, true, true, true, true, true, true, true, false, false]) (by kernel_rfl) rfl rfl rfl fun K hK => ?_
              go_simp
              refine (quotient_any _ _ (y.den : Int) (gdn x y) _ T2.out (FU.out _ HF.out).2.2.2.2.2.2.2 (SzI.len HY.out.den (by decide)) (SzI.len SG.out (by decide)) HG0.out).mono ?_
              rintro e u4 ⟨v, rfl, n, hb⟩
              obtain ⟨s5, m5, n5, c5, rfl, n⟩ := n.cells
              replace TA := hide (TA.out.below (hb))
              clear T2
              replace BXb := hide (BXb.out.step hb)
              replace BXa := hide (BXa.out.step hb)
              have TB := hide (n)
              replace HF := hide (FS.out _ _ HF.out hb)
              refine hK _ _ (fun _ => HF.out) ?_
              clear hK K hb n
              refine Calm.one (i := 10) (l' := #[true, true, true, true, true, true, true, true, true, true, true, false]) (by kernel_rfl) rfl rfl rfl fun K hK => ?_
              have hc0 := BXa.out.cell0
              have hc1 := BXa.out.cell1
              have hf0 := BXa.out.free 0
              have hf1 := BXa.out.free 1
              go_simp
              replace HF := hide (FP2.out _ ga (.bool s4) (.slice m4 n4 c4) HF.out BXa.out LTa.out)
              replace TA := hide (TA.out.keep (BXa.out.keeps (by simp) (by simp) (.bool s4) (.slice m4 n4 c4)))
              replace TB := hide (TB.out.keep (BXa.out.keeps (by simp) (by simp) (.bool s4) (.slice m4 n4 c4)))
              replace BXb := hide (BXb.out.other (C := ga) (by first | exact Nat.ne_of_lt LTab.out | exact Nat.ne_of_gt LTba.out) (.bool s4) (.slice m4 n4 c4))
              replace BXa := hide (BXa.out.put (.bool s4) (.slice m4 n4 c4))
              refine hK _ _ (fun _ => HF.out) ?_
              clear hK K hc0 hf0 hc1 hf1
              generalize ((u4.setCell ⟨ga, 0, none⟩ (.bool s4)).setCell ⟨ga, 1, none⟩ (.slice m4 n4 c4)) = ws10 at *
              refine Calm.one (i := 11) (l' := #[true, true, true, true, true, true, true, true, true, true, true, true]) (by kernel_rfl) rfl rfl rfl fun K hK => ?_
              have hc0 := BXb.out.cell0
              have hc1 := BXb.out.cell1
              have hf0 := BXb.out.free 0
              have hf1 := BXb.out.free 1
              go_simp
              replace HF := hide (FP2.out _ gb (.bool s5) (.slice m5 n5 c5) HF.out BXb.out LTb.out)
              replace TA := hide (TA.out.keep (BXb.out.keeps (by simp) (by simp) (.bool s5) (.slice m5 n5 c5)))
              replace TB := hide (TB.out.keep (BXb.out.keeps (by simp) (by simp) (.bool s5) (.slice m5 n5 c5)))
              replace BXa := hide (BXa.out.other (C := gb) (by first | exact Nat.ne_of_lt LTba.out | exact Nat.ne_of_gt LTab.out) (.bool s5) (.slice m5 n5 c5))
              replace BXb := hide (BXb.out.put (.bool s5) (.slice m5 n5 c5))
              refine hK _ _ (fun _ => HF.out) ?_
              clear hK K hc0 hf0 hc1 hf1
              generalize ((ws10.setCell ⟨gb, 0, none⟩ (.bool s5)).setCell ⟨gb, 1, none⟩ (.slice m5 n5 c5)) = ws11 at *
              refine Calm.done (by kernel_rfl) ?_
              have h := FU.out _ HF.out
              go_wp2
              go_meet
              case rel => exact ⟨ga, s4, m4, n4, c4, gb, s5, m5, n5, c5, rfl, rfl, ⟨LTa.out, LTb.out, by first | exact Nat.ne_of_lt LTab.out | exact Nat.ne_of_gt LTba.out⟩, h.1, h.2.1, h.2.2.1, h.2.2.2.1, h.2.2.2.2.1, h.2.2.2.2.2.1, h.2.2.2.2.2.2.1, h.2.2.2.2.2.2.2, BXa.out, BXb.out, TA.out, TB.out⟩
        · go_simp
          have al := below_alloc u2 (.cells #[.bool false, .slice none 0 0] 25)
          replace TA := hide (TA.out.below (al))
          have BXa := hide (Box.new u2 (.bool false) (.slice none 0 0))
          have LTa := hide (FL.out _ HF.out)
          replace HF := hide (FS.out _ _ HF.out al)
          refine hK _ _ (fun _ => HF.out) ?_
          clear hK K al
          generalize u2.alloc (.cells #[.bool false, .slice none 0 0] 25) = wza at *
          generalize u2.heap.size = ga at *
          refine Calm.two (i := 5) (j := 9) (l := #[true, true, true, true, true, true, true, false, true, false, false, false]) (l' := #[true, true, true, true, true, false, true, false, true, true, false, false]) (by kernel_rfl) rfl rfl rfl rfl rfl rfl (fun K hK => ?_) (fun K hK => ?_)
          · go_simp
            refine (den_any _ y _ (FU.out _ HF.out).2.2.2.2.2.1).mono ?_
            rintro e u3 ⟨v, rfl, n, hb⟩
            replace TA := hide (TA.out.below (hb))
            replace BXa := hide (BXa.out.step hb)
            have T2 := hide (n)
            replace HF := hide (FS.out _ _ HF.out hb)
            refine hK _ _ (fun _ => HF.out) ?_
            clear hK K hb n
            refine Calm.two (i := 7) (j := 9) (l := #[true, true, true, true, true, true, true, true, true, false, false, false]) (l' := #[true, true, true, true, true, true, true, false, true, true, false, false]) (by kernel_rfl) rfl rfl rfl rfl rfl rfl (fun K hK => ?_) (fun K hK => ?_)
            · go_simp
              refine (quotient_any _ _ (y.den : Int) (gdn x y) _ T2.out (FU.out _ HF.out).2.2.2.2.2.2.2 (SzI.len HY.out.den (by decide)) (SzI.len SG.out (by decide)) HG0.out).mono ?_
              rintro e u4 ⟨v, rfl, n, hb⟩
              obtain ⟨s5, m5, n5, c5, rfl, n⟩ := n.cells
              replace TA := hide (TA.out.below (hb))
              clear T2
              replace BXa := hide (BXa.out.step hb)
              have TB := hide (n)
              replace HF := hide (FS.out _ _ HF.out hb)
              refine hK _ _ (fun _ => HF.out) ?_
              clear hK K hb n
              refine Calm.one (i := 9) (l' := #[true, true, true, true, true, true, true, true, true, true, false, false]) (by kernel_rfl) rfl rfl rfl fun K hK => ?_
              go_simp
              have al := below_alloc u4 (.cells #[.bool false, .slice none 0 0] 25)
              replace TA := hide (TA.out.below (al))
              replace TB := hide (TB.out.below (al))
              have LTab := hide (BXa.out.lt)
              replace BXa := hide (BXa.out.step al)
              have BXb := hide (Box.new u4 (.bool false) (.slice none 0 0))
              have LTb := hide (FL.out _ HF.out)
              replace HF := hide (FS.out _ _ HF.out al)
              refine hK _ _ (fun _ => HF.out) ?_
              clear hK K al
              generalize u4.alloc (.cells #[.bool false, .slice none 0 0] 25) = wzb at *
              generalize u4.heap.size = gb at *
              refine Calm.one (i := 10) (l' := #[true, true, true, true, true, true, true, true, true, true, true, false]) (by kernel_rfl) rfl rfl rfl fun K hK => ?_
              have hc0 := BXa.out.cell0
              have hc1 := BXa.out.cell1
              have hf0 := BXa.out.free 0
              have hf1 := BXa.out.free 1
              go_simp
              replace HF := hide (FP2.out _ ga (.bool s4) (.slice m4 n4 c4) HF.out BXa.out LTa.out)
              replace TA := hide (TA.out.keep (BXa.out.keeps (by simp) (by simp) (.bool s4) (.slice m4 n4 c4)))
              replace TB := hide (TB.out.keep (BXa.out.keeps (by simp) (by simp) (.bool s4) (.slice m4 n4 c4)))
              replace BXb := hide (BXb.out.other (C := ga) (by first | exact Nat.ne_of_lt LTab.out | exact Nat.ne_of_gt LTba.out) (.bool s4) (.slice m4 n4 c4))
              replace BXa := hide (BXa.out.put (.bool s4) (.slice m4 n4 c4))
              refine hK _ _ (fun _ => HF.out) ?_
              clear hK K hc0 hf0 hc1 hf1
              generalize ((wzb.setCell ⟨ga, 0, none⟩ (.bool s4)).setCell ⟨ga, 1, none⟩ (.slice m4 n4 c4)) = ws10 at *
              refine Calm.one (i := 11) (l' := #[true, true, true, true, true, true, true, true, true, true, true, true]) (by kernel_rfl) rfl rfl rfl fun K hK => ?_
              have hc0 := BXb.out.cell0
              have hc1 := BXb.out.cell1
              have hf0 := BXb.out.free 0
              have hf1 := BXb.out.free 1
              go_simp
              replace HF := hide (FP2.out _ gb (.bool s5) (.slice m5 n5 c5) HF.out BXb.out LTb.out)
              replace TA := hide (TA.out.keep (BXb.out.keeps (by simp) (by simp) (.bool s5) (.slice m5 n5 c5)))
              replace TB := hide (TB.out.keep (BXb.out.keeps (by simp) (by simp) (.bool s5) (.slice m5 n5 c5)))
              replace BXa := hide (BXa.out.other (C := gb) (by first | exact Nat.ne_of_lt LTba.out | exact Nat.ne_of_gt LTab.out) (.bool s5) (.slice m5 n5 c5))
              replace BXb := hide (BXb.out.put (.bool s5) (.slice m5 n5 c5))
              refine hK _ _ (fun _ => HF.out) ?_
              clear hK K hc0 hf0 hc1 hf1
              generalize ((ws10.setCell ⟨gb, 0, none⟩ (.bool s5)).setCell ⟨gb, 1, none⟩ (.slice m5 n5 c5)) = ws11 at *
              refine Calm.done (by kernel_rfl) ?_
              have h := FU.out _ HF.out
              go_wp2
              go_meet
              case rel => exact ⟨ga, s4, m4, n4, c4, gb, s5, m5, n5, c5, rfl, rfl, ⟨LTa.out, LTb.out, by first | exact Nat.ne_of_lt LTab.out | exact Nat.ne_of_gt LTba.out⟩, h.1, h.2.1, h.2.2.1, h.2.2.2.1, h.2.2.2.2.1, h.2.2.2.2.2.1, h.2.2.2.2.2.2.1, h.2.2.2.2.2.2.2, BXa.out, BXb.out, TA.out, TB.out⟩
            · go_simp
              have al := below_alloc u3 (.cells #[.bool false, .slice none 0 0] 25)
              replace TA := hide (TA.out.below (al))
              replace T2 := hide (T2.out.below (al))
              have LTab := hide (BXa.out.lt)
              replace BXa := hide (BXa.out.step al)
              have BXb := hide (Box.new u3 (.bool false) (.slice none 0 0))
              have LTb := hide (FL.out _ HF.out)
              replace HF := hide (FS.out _ _ HF.out al)
              refine hK _ _ (fun _ => HF.out) ?_
              clear hK K al
              generalize u3.alloc (.cells #[.bool false, .slice none 0 0] 25) = wzb at *
              generalize u3.heap.size = gb at *
              refine Calm.one (i := 7) (l' := #[true, true, true, true, true, true, true, true, true, true, false, false]) (by kernel_rfl) rfl rfl rfl fun K hK => ?_
              go_simp
              refine (quotient_any _ _ (y.den : Int) (gdn x y) _ T2.out (FU.out _ HF.out).2.2.2.2.2.2.2 (SzI.len HY.out.den (by decide)) (SzI.len SG.out (by decide)) HG0.out).mono ?_
              rintro e u4 ⟨v, rfl, n, hb⟩
              obtain ⟨s5, m5, n5, c5, rfl, n⟩ := n.cells
              replace TA := hide (TA.out.below (hb))
              clear T2
              replace BXa := hide (BXa.out.step hb)
              replace BXb := hide (BXb.out.step hb)
              have TB := hide (n)
              replace HF := hide (FS.out _ _ HF.out hb)
              refine hK _ _ (fun _ => HF.out) ?_
              clear hK K hb n
              refine Calm.one (i := 10) (l' := #[true, true, true, true, true, true, true, true, true, true, true, false]) (by kernel_rfl) rfl rfl rfl fun K hK => ?_
              have hc0 := BXa.out.cell0
              have hc1 := BXa.out.cell1
              have hf0 := BXa.out.free 0
              have hf1 := BXa.out.free 1
              go_simp
              replace HF := hide (FP2.out _ ga (.bool s4) (.slice m4 n4 c4) HF.out BXa.out LTa.out)
              replace TA := hide (TA.out.keep (BXa.out.keeps (by simp) (by simp) (.bool s4) (.slice m4 n4 c4)))
              replace TB := hide (TB.out.keep (BXa.out.keeps (by simp) (by simp) (.bool s4) (.slice m4 n4 c4)))
              replace BXb := hide (BXb.out.other (C := ga) (by first | exact Nat.ne_of_lt LTab.out | exact Nat.ne_of_gt LTba.out) (.bool s4) (.slice m4 n4 c4))
              replace BXa := hide (BXa.out.put (.bool s4) (.slice m4 n4 c4))
              refine hK _ _ (fun _ => HF.out) ?_
              clear hK K hc0 hf0 hc1 hf1
              generalize ((u4.setCell ⟨ga, 0, none⟩ (.bool s4)).setCell ⟨ga, 1, none⟩ (.slice m4 n4 c4)) = ws10 at *
              refine Calm.one (i := 11) (l' := #[true, true, true, true, true, true, true, true, true, true, true, true]) (by kernel_rfl) rfl rfl rfl fun K hK => ?_
              have hc0 := BXb.out.cell0
              have hc1 := BXb.out.cell1
              have hf0 := BXb.out.free 0
              have hf1 := BXb.out.free 1
              go_simp
              replace HF := hide (FP2.out _ gb (.bool s5) (.slice m5 n5 c5) HF.out BXb.out LTb.out)
              replace TA := hide (TA.out.keep (BXb.out.keeps (by simp) (by simp) (.bool s5) (.slice m5 n5 c5)))
              replace TB := hide (TB.out.keep (BXb.out.keeps (by simp) (by simp) (.bool s5) (.slice m5 n5 c5)))
              replace BXa := hide (BXa.out.other (C := gb) (by first | exact Nat.ne_of_lt LTba.out | exact Nat.ne_of_gt LTab.out) (.bool s5) (.slice m5 n5 c5))
              replace BXb := hide (BXb.out.put (.bool s5) (.slice m5 n5 c5))
              refine hK _ _ (fun _ => HF.out) ?_
              clear hK K hc0 hf0 hc1 hf1
              generalize ((ws10.setCell ⟨gb, 0, none⟩ (.bool s5)).setCell ⟨gb, 1, none⟩ (.slice m5 n5 c5)) = ws11 at *
              refine Calm.done (by kernel_rfl) ?_
              have h := FU.out _ HF.out
              go_wp2
              go_meet
              case rel => exact ⟨ga, s4, m4, n4, c4, gb, s5, m5, n5, c5, rfl, rfl, ⟨LTa.out, LTb.out, by first | exact Nat.ne_of_lt LTab.out | exact Nat.ne_of_gt LTba.out⟩, h.1, h.2.1, h.2.2.1, h.2.2.2.1, h.2.2.2.2.1, h.2.2.2.2.2.1, h.2.2.2.2.2.2.1, h.2.2.2.2.2.2.2, BXa.out, BXb.out, TA.out, TB.out⟩
          · go_simp
            have al := below_alloc wza (.cells #[.bool false, .slice none 0 0] 25)
            replace TA := hide (TA.out.below (al))
            have LTab := hide (BXa.out.lt)
            replace BXa := hide (BXa.out.step al)
            have BXb := hide (Box.new wza (.bool false) (.slice none 0 0))
            have LTb := hide (FL.out _ HF.out)
            replace HF := hide (FS.out _ _ HF.out al)
            refine hK _ _ (fun _ => HF.out) ?_
            clear hK K al
            generalize wza.alloc (.cells #[.bool false, .slice none 0 0] 25) = wzb at *
            generalize wza.heap.size = gb at *
            refine Calm.one (i := 5) (l' := #[true, true, true, true, true, true, true, false, true, true, false, false]) (by kernel_rfl) rfl rfl rfl fun K hK => ?_
            go_simp
            refine (den_any _ y _ (FU.out _ HF.out).2.2.2.2.2.1).mono ?_
            rintro e u3 ⟨v, rfl, n, hb⟩
            replace TA := hide (TA.out.below (hb))
            replace BXa := hide (BXa.out.step hb)
            replace BXb := hide (BXb.out.step hb)
            have T2 := hide (n)
            replace HF := hide (FS.out _ _ HF.out hb)
            refine hK _ _ (fun _ => HF.out) ?_
            clear hK K hb n
            refine Calm.one (i := 7) (l' := #[true, true, true, true, true, true, true, true, true, true, false, false]) (by kernel_rfl) rfl rfl rfl fun K hK => ?_
            go_simp
            refine (quotient_any _ _ (y.den : Int) (gdn x y) _ T2.out (FU.out _ HF.out).2.2.2.2.2.2.2 (SzI.len HY.out.den (by decide)) (SzI.len SG.out (by decide)) HG0.out).mono ?_
            rintro e u4 ⟨v, rfl, n, hb⟩
            obtain ⟨s5, m5, n5, c5, rfl, n⟩ := n.cells
            replace TA := hide (TA.out.below (hb))
            clear T2
            replace BXa := hide (BXa.out.step hb)
            replace BXb := hide (BXb.out.step hb)
            have TB := hide (n)
            replace HF := hide (FS.out _ _ HF.out hb)
            refine hK _ _ (fun _ => HF.out) ?_
            clear hK K hb n
            refine Calm.one (i := 10) (l' := #[true, true, true, true, true, true, true, true, true, true, true, false]) (by kernel_rfl) rfl rfl rfl fun K hK => ?_
            have hc0 := BXa.out.cell0
            have hc1 := BXa.out.cell1
            have hf0 := BXa.out.free 0
            have hf1 := BXa.out.free 1
            go_simp
            replace HF := hide (FP2.out _ ga (.bool s4) (.slice m4 n4 c4) HF.out BXa.out LTa.out)
            replace TA := hide (TA.out.keep (BXa.out.keeps (by simp) (by simp) (.bool s4) (.slice m4 n4 c4)))
            replace TB := hide (TB.out.keep (BXa.out.keeps (by simp) (by simp) (.bool s4) (.slice m4 n4 c4)))
            replace BXb := hide (BXb.out.other (C := ga) (by first | exact Nat.ne_of_lt LTab.out | exact Nat.ne_of_gt LTba.out) (.bool s4) (.slice m4 n4 c4))
            replace BXa := hide (BXa.out.put (.bool s4) (.slice m4 n4 c4))
            refine hK _ _ (fun _ => HF.out) ?_
            clear hK K hc0 hf0 hc1 hf1
            generalize ((u4.setCell ⟨ga, 0, none⟩ (.bool s4)).setCell ⟨ga, 1, none⟩ (.slice m4 n4 c4)) = ws10 at *
            refine Calm.one (i := 11) (l' := #[true, true, true, true, true, true, true, true, true, true, true, true]) (by kernel_rfl) rfl rfl rfl fun K hK => ?_
            have hc0 := BXb.out.cell0
            have hc1 := BXb.out.cell1
            have hf0 := BXb.out.free 0
            have hf1 := BXb.out.free 1
            go_simp
            replace HF := hide (FP2.out _ gb (.bool s5) (.slice m5 n5 c5) HF.out BXb.out LTb.out)
            replace TA := hide (TA.out.keep (BXb.out.keeps (by simp) (by simp) (.bool s5) (.slice m5 n5 c5)))
            replace TB := hide (TB.out.keep (BXb.out.keeps (by simp) (by simp) (.bool s5) (.slice m5 n5 c5)))
            replace BXa := hide (BXa.out.other (C := gb) (by first | exact Nat.ne_of_lt LTba.out | exact Nat.ne_of_gt LTab.out) (.bool s5) (.slice m5 n5 c5))
            replace BXb := hide (BXb.out.put (.bool s5) (.slice m5 n5 c5))
            refine hK _ _ (fun _ => HF.out) ?_
            clear hK K hc0 hf0 hc1 hf1
            generalize ((ws10.setCell ⟨gb, 0, none⟩ (.bool s5)).setCell ⟨gb, 1, none⟩ (.slice m5 n5 c5)) = ws11 at *
            refine Calm.done (by kernel_rfl) ?_
            have h := FU.out _ HF.out
            go_wp2
            go_meet
            case rel => exact ⟨ga, s4, m4, n4, c4, gb, s5, m5, n5, c5, rfl, rfl, ⟨LTa.out, LTb.out, by first | exact Nat.ne_of_lt LTab.out | exact Nat.ne_of_gt LTba.out⟩, h.1, h.2.1, h.2.2.1, h.2.2.2.1, h.2.2.2.2.1, h.2.2.2.2.2.1, h.2.2.2.2.2.2.1, h.2.2.2.2.2.2.2, BXa.out, BXb.out, TA.out, TB.out⟩
        · go_simp
          have al := below_alloc u2 (.cells #[.bool false, .slice none 0 0] 25)
          replace TA := hide (TA.out.below (al))
          have BXb := hide (Box.new u2 (.bool false) (.slice none 0 0))
          have LTb := hide (FL.out _ HF.out)
          replace HF := hide (FS.out _ _ HF.out al)
          refine hK _ _ (fun _ => HF.out) ?_
          clear hK K al
          generalize u2.alloc (.cells #[.bool false, .slice none 0 0] 25) = wzb at *
          generalize u2.heap.size = gb at *
          refine Calm.two (i := 5) (j := 8) (l := #[true, true, true, true, true, true, true, false, false, true, false, false]) (l' := #[true, true, true, true, true, false, true, false, true, true, false, false]) (by kernel_rfl) rfl rfl rfl rfl rfl rfl (fun K hK => ?_) (fun K hK => ?_)
          · go_simp
            refine (den_any _ y _ (FU.out _ HF.out).2.2.2.2.2.1).mono ?_
            rintro e u3 ⟨v, rfl, n, hb⟩
            replace TA := hide (TA.out.below (hb))
            replace BXb := hide (BXb.out.step hb)
            have T2 := hide (n)
            replace HF := hide (FS.out _ _ HF.out hb)
            refine hK _ _ (fun _ => HF.out) ?_
            clear hK K hb n
            refine Calm.two (i := 7) (j := 8) (l := #[true, true, true, true, true, true, true, true, false, true, false, false]) (l' := #[true, true, true, true, true, true, true, false, true, true, false, false]) (by kernel_rfl) rfl rfl rfl rfl rfl rfl (fun K hK => ?_) (fun K hK => ?_)
            · go_simp
              refine (quotient_any _ _ (y.den : Int) (gdn x y) _ T2.out (FU.out _ HF.out).2.2.2.2.2.2.2 (SzI.len HY.out.den (by decide)) (SzI.len SG.out (by decide)) HG0.out).mono ?_
              rintro e u4 ⟨v, rfl, n, hb⟩
              obtain ⟨s5, m5, n5, c5, rfl, n⟩ := n.cells
              replace TA := hide (TA.out.below (hb))
              clear T2
              replace BXb := hide (BXb.out.step hb)
              have TB := hide (n)
              replace HF := hide (FS.out _ _ HF.out hb)
              refine hK _ _ (fun _ => HF.out) ?_
              clear hK K hb n
              refine Calm.one (i := 8) (l' := #[true, true, true, true, true, true, true, true, true, true, false, false]) (by kernel_rfl) rfl rfl rfl fun K hK => ?_
              go_simp
              have al := below_alloc u4 (.cells #[.bool false, .slice none 0 0] 25)
              replace TA := hide (TA.out.below (al))
              replace TB := hide (TB.out.below (al))
              have LTba := hide (BXb.out.lt)
              replace BXb := hide (BXb.out.step al)
              have BXa := hide (Box.new u4 (.bool false) (.slice none 0 0))
              have LTa := hide (FL.out _ HF.out)
              replace HF := hide (FS.out _ _ HF.out al)
              refine hK _ _ (fun _ => HF.out) ?_
              clear hK K al
              generalize u4.alloc (.cells #[.bool false, .slice none 0 0] 25) = wza at *
              generalize u4.heap.size = ga at *
              refine Calm.one (i := 10) (l' := #[true, true, true, true, true, true, true, true, true, true, true, false]) (by kernel_rfl) rfl rfl rfl fun K hK => ?_
              have hc0 := BXa.out.cell0
              have hc1 := BXa.out.cell1
              have hf0 := BXa.out.free 0
              have hf1 := BXa.out.free 1
              go_simp
              replace HF := hide (FP2.out _ ga (.bool s4) (.slice m4 n4 c4) HF.out BXa.out LTa.out)
              replace TA := hide (TA.out.keep (BXa.out.keeps (by simp) (by simp) (.bool s4) (.slice m4 n4 c4)))
              replace TB := hide (TB.out.keep (BXa.out.keeps (by simp) (by simp) (.bool s4) (.slice m4 n4 c4)))
              replace BXb := hide (BXb.out.other (C := ga) (by first | exact Nat.ne_of_lt LTab.out | exact Nat.ne_of_gt LTba.out) (.bool s4) (.slice m4 n4 c4))
              replace BXa := hide (BXa.out.put (.bool s4) (.slice m4 n4 c4))
              refine hK _ _ (fun _ => HF.out) ?_
              clear hK K hc0 hf0 hc1 hf1
              generalize ((wza.setCell ⟨ga, 0, none⟩ (.bool s4)).setCell ⟨ga, 1, none⟩ (.slice m4 n4 c4)) = ws10 at *
              refine Calm.one (i := 11) (l' := #[true, true, true, true, true, true, true, true, true, true, true, true]) (by kernel_rfl) rfl rfl rfl fun K hK => ?_
              have hc0 := BXb.out.cell0
              have hc1 := BXb.out.cell1
              have hf0 := BXb.out.free 0
              have hf1 := BXb.out.free 1
              go_simp
              replace HF := hide (FP2.out _ gb (.bool s5) (.slice m5 n5 c5) HF.out BXb.out LTb.out)
              replace TA := hide (TA.out.keep (BXb.out.keeps (by simp) (by simp) (.bool s5) (.slice m5 n5 c5)))
              replace TB := hide (TB.out.keep (BXb.out.keeps (by simp) (by simp) (.bool s5) (.slice m5 n5 c5)))
              replace BXa := hide (BXa.out.other (C := gb) (by first | exact Nat.ne_of_lt LTba.out | exact Nat.ne_of_gt LTab.out) (.bool s5) (.slice m5 n5 c5))
              replace BXb := hide (BXb.out.put (.bool s5) (.slice m5 n5 c5))
              refine hK _ _ (fun _ => HF.out) ?_
              clear hK K hc0 hf0 hc1 hf1
              generalize ((ws10.setCell ⟨gb, 0, none⟩ (.bool s5)).setCell ⟨gb, 1, none⟩ (.slice m5 n5 c5)) = ws11 at *
              refine Calm.done (by kernel_rfl) ?_
              have h := FU.out _ HF.out
              go_wp2
              go_meet
              case rel => exact ⟨ga, s4, m4, n4, c4, gb, s5, m5, n5, c5, rfl, rfl, ⟨LTa.out, LTb.out, by first | exact Nat.ne_of_lt LTab.out | exact Nat.ne_of_gt LTba.out⟩, h.1, h.2.1, h.2.2.1, h.2.2.2.1, h.2.2.2.2.1, h.2.2.2.2.2.1, h.2.2.2.2.2.2.1, h.2.2.2.2.2.2.2, BXa.out, BXb.out, TA.out, TB.out⟩
            · go_simp
              have al := below_alloc u3 (.cells #[.bool false, .slice none 0 0] 25)
              replace TA := hide (TA.out.below (al))
              replace T2 := hide (T2.out.below (al))
              have LTba := hide (BXb.out.lt)
              replace BXb := hide (BXb.out.step al)
              have BXa := hide (Box.new u3 (.bool false) (.slice none 0 0))
              have LTa := hide (FL.out _ HF.out)
              replace HF := hide (FS.out _ _ HF.out al)
              refine hK _ _ (fun _ => HF.out) ?_
              clear hK K al
              generalize u3.alloc (.cells #[.bool false, .slice none 0 0] 25) = wza at *
              generalize u3.heap.size = ga at *
              refine Calm.one (i := 7) (l' := #[true, true, true, true, true, true, true, true, true, true, false, false]) (by kernel_rfl) rfl rfl rfl fun K hK => ?_
              go_simp
              refine (quotient_any _ _ (y.den : Int) (gdn x y) _ T2.out (FU.out _ HF.out).2.2.2.2.2.2.2 (SzI.len HY.out.den (by decide)) (SzI.len SG.out (by decide)) HG0.out).mono ?_
              rintro e u4 ⟨v, rfl, n, hb⟩
              obtain ⟨s5, m5, n5, c5, rfl, n⟩ := n.cells
              replace TA := hide (TA.out.below (hb))
              clear T2
              replace BXb := hide (BXb.out.step hb)
              replace BXa := hide (BXa.out.step hb)
              have TB := hide (n)
              replace HF := hide (FS.out _ _ HF.out hb)
              refine hK _ _ (fun _ => HF.out) ?_
              clear hK K hb n
              refine Calm.one (i := 10) (l' := #[true, true, true, true, true, true, true, true, true, true, true, false]) (by kernel_rfl) rfl rfl rfl fun K hK => ?_
              have hc0 := BXa.out.cell0
              have hc1 := BXa.out.cell1
              have hf0 := BXa.out.free 0
              have hf1 := BXa.out.free 1
              go_simp
              replace HF := hide (FP2.out _ ga (.bool s4) (.slice m4 n4 c4) HF.out BXa.out LTa.out)
              replace TA := hide (TA.out.keep (BXa.out.keeps (by simp) (by simp) (.bool s4) (.slice m4 n4 c4)))
              replace TB := hide (TB.out.keep (BXa.out.keeps (by simp) (by simp) (.bool s4) (.slice m4 n4 c4)))
              replace BXb := hide (BXb.out.other (C := ga) (by first | exact Nat.ne_of_lt LTab.out | exact Nat.ne_of_gt LTba.out) (.bool s4) (.slice m4 n4 c4))
              replace BXa := hide (BXa.out.put (.bool s4) (.slice m4 n4 c4))
              refine hK _ _ (fun _ => HF.out) ?_
              clear hK K hc0 hf0 hc1 hf1
              generalize ((u4.setCell ⟨ga, 0, none⟩ (.bool s4)).setCell ⟨ga, 1, none⟩ (.slice m4 n4 c4)) = ws10 at *
              refine Calm.one (i := 11) (l' := #[true, true, true, true, true, true, true, true, true, true, true, true]) (by kernel_rfl) rfl rfl rfl fun K hK => ?_
              have hc0 := BXb.out.cell0
              have hc1 := BXb.out.cell1
              have hf0 := BXb.out.free 0
              have hf1 := BXb.out.free 1
              go_simp
              replace HF := hide (FP2.out _ gb (.bool s5) (.slice m5 n5 c5) HF.out BXb.out LTb.out)
              replace TA := hide (TA.out.keep (BXb.out.keeps (by simp) (by simp) (.bool s5) (.slice m5 n5 c5)))
              replace TB := hide (TB.out.keep (BXb.out.keeps (by simp) (by simp) (.bool s5) (.slice m5 n5 c5)))
              replace BXa := hide (BXa.out.other (C := gb) (by first | exact Nat.ne_of_lt LTba.out | exact Nat.ne_of_gt LTab.out) (.bool s5) (.slice m5 n5 c5))
              replace BXb := hide (BXb.out.put (.bool s5) (.slice m5 n5 c5))
              refine hK _ _ (fun _ => HF.out) ?_
              clear hK K hc0 hf0 hc1 hf1
              generalize ((ws10.setCell ⟨gb, 0, none⟩ (.bool s5)).setCell ⟨gb, 1, none⟩ (.slice m5 n5 c5)) = ws11 at *
              refine Calm.done (by kernel_rfl) ?_
              have h := FU.out _ HF.out
              go_wp2
              go_meet
              case rel => exact ⟨ga, s4, m4, n4, c4, gb, s5, m5, n5, c5, rfl, rfl, ⟨LTa.out, LTb.out, by first | exact Nat.ne_of_lt LTab.out | exact Nat.ne_of_gt LTba.out⟩, h.1, h.2.1, h.2.2.1, h.2.2.2.1, h.2.2.2.2.1, h.2.2.2.2.2.1, h.2.2.2.2.2.2.1, h.2.2.2.2.2.2.2, BXa.out, BXb.out, TA.out, TB.out⟩
          · go_simp
            have al := below_alloc wzb (.cells #[.bool false, .slice none 0 0] 25)
            replace TA := hide (TA.out.below (al))
            have LTba := hide (BXb.out.lt)
            replace BXb := hide (BXb.out.step al)
            have BXa := hide (Box.new wzb (.bool false) (.slice none 0 0))
            have LTa := hide (FL.out _ HF.out)
            replace HF := hide (FS.out _ _ HF.out al)
            refine hK _ _ (fun _ => HF.out) ?_
            clear hK K al
            generalize wzb.alloc (.cells #[.bool false, .slice none 0 0] 25) = wza at *
            generalize wzb.heap.size = ga at *
            refine Calm.one (i := 5) (l' := #[true, true, true, true, true, true, true, false, true, true, false, false]) (by kernel_rfl) rfl rfl rfl fun K hK => ?_
            go_simp
            refine (den_any _ y _ (FU.out _ HF.out).2.2.2.2.2.1).mono ?_
            rintro e u3 ⟨v, rfl, n, hb⟩
            replace TA := hide (TA.out.below (hb))
            replace BXb := hide (BXb.out.step hb)
            replace BXa := hide (BXa.out.step hb)
            have T2 := hide (n)
            replace HF := hide (FS.out _ _ HF.out hb)
            refine hK _ _ (fun _ => HF.out) ?_
            clear hK K hb n
            refine Calm.one (i := 7) (l' := #[true, true, true, true, true, true, true, true, true, true, false, false]) (by kernel_rfl) rfl rfl rfl fun K hK => ?_
            go_simp
            refine (quotient_any _ _ (y.den : Int) (gdn x y) _ T2.out (FU.out _ HF.out).2.2.2.2.2.2.2 (SzI.len HY.out.den (by decide)) (SzI.len SG.out (by decide)) HG0.out).mono ?_
            rintro e u4 ⟨v, rfl, n, hb⟩
            obtain ⟨s5, m5, n5, c5, rfl, n⟩ := n.cells
            replace TA := hide (TA.out.below (hb))
            clear T2
            replace BXb := hide (BXb.out.step hb)
            replace BXa := hide (BXa.out.step hb)
            have TB := hide (n)
            replace HF := hide (FS.out _ _ HF.out hb)
            refine hK _ _ (fun _ => HF.out) ?_
            clear hK K hb n
            refine Calm.one (i := 10) (l' := #[true, true, true, true, true, true, true, true, true, true, true, false]) (by kernel_rfl) rfl rfl rfl fun K hK => ?_
            have hc0 := BXa.out.cell0
            have hc1 := BXa.out.cell1
            have hf0 := BXa.out.free 0
            have hf1 := BXa.out.free 1
            go_simp
            replace HF := hide (FP2.out _ ga (.bool s4) (.slice m4 n4 c4) HF.out BXa.out LTa.out)
            replace TA := hide (TA.out.keep (BXa.out.keeps (by simp) (by simp) (.bool s4) (.slice m4 n4 c4)))
            replace TB := hide (TB.out.keep (BXa.out.keeps (by simp) (by simp) (.bool s4) (.slice m4 n4 c4)))
            replace BXb := hide (BXb.out.other (C := ga) (by first | exact Nat.ne_of_lt LTab.out | exact Nat.ne_of_gt LTba.out) (.bool s4) (.slice m4 n4 c4))
            replace BXa := hide (BXa.out.put (.bool s4) (.slice m4 n4 c4))
            refine hK _ _ (fun _ => HF.out) ?_
            clear hK K hc0 hf0 hc1 hf1
            generalize ((u4.setCell ⟨ga, 0, none⟩ (.bool s4)).setCell ⟨ga, 1, none⟩ (.slice m4 n4 c4)) = ws10 at *
            refine Calm.one (i := 11) (l' := #[true, true, true, true, true, true, true, true, true, true, true, true]) (by kernel_rfl) rfl rfl rfl fun K hK => ?_
            have hc0 := BXb.out.cell0
            have hc1 := BXb.out.cell1
            have hf0 := BXb.out.free 0
            have hf1 := BXb.out.free 1
            go_simp
            replace HF := hide (FP2.out _ gb (.bool s5) (.slice m5 n5 c5) HF.out BXb.out LTb.out)
            replace TA := hide (TA.out.keep (BXb.out.keeps (by simp) (by simp) (.bool s5) (.slice m5 n5 c5)))
            replace TB := hide (TB.out.keep (BXb.out.keeps (by simp) (by simp) (.bool s5) (.slice m5 n5 c5)))
            replace BXa := hide (BXa.out.other (C := gb) (by first | exact Nat.ne_of_lt LTba.out | exact Nat.ne_of_gt LTab.out) (.bool s5) (.slice m5 n5 c5))
            replace BXb := hide (BXb.out.put (.bool s5) (.slice m5 n5 c5))
            refine hK _ _ (fun _ => HF.out) ?_
            clear hK K hc0 hf0 hc1 hf1
            generalize ((ws10.setCell ⟨gb, 0, none⟩ (.bool s5)).setCell ⟨gb, 1, none⟩ (.slice m5 n5 c5)) = ws11 at *
            refine Calm.done (by kernel_rfl) ?_
            have h := FU.out _ HF.out
            go_wp2
            go_meet
            case rel => exact ⟨ga, s4, m4, n4, c4, gb, s5, m5, n5, c5, rfl, rfl, ⟨LTa.out, LTb.out, by first | exact Nat.ne_of_lt LTab.out | exact Nat.ne_of_gt LTba.out⟩, h.1, h.2.1, h.2.2.1, h.2.2.2.1, h.2.2.2.2.1, h.2.2.2.2.2.1, h.2.2.2.2.2.2.1, h.2.2.2.2.2.2.2, BXa.out, BXb.out, TA.out, TB.out⟩
      · go_simp
        have al := below_alloc u1 (.cells #[.bool false, .slice none 0 0] 25)
        replace T1 := hide (T1.out.below (al))
        have BXa := hide (Box.new u1 (.bool false) (.slice none 0 0))
        have LTa := hide (FL.out _ HF.out)
        replace HF := hide (FS.out _ _ HF.out al)
        refine hK _ _ (fun _ => HF.out) ?_
        clear hK K al
        generalize u1.alloc (.cells #[.bool false, .slice none 0 0] 25) = wza at *
        generalize u1.heap.size = ga at *
        refine Calm.two (i := 3) (j := 9) (l := #[true, true, true, true, true, false, true, false, true, false, false, false]) (l' := #[true, true, true, false, true, false, true, false, true, true, false, false]) (by kernel_rfl) rfl rfl rfl rfl rfl rfl (fun K hK => ?_) (fun K hK => ?_)
        · go_simp
          refine (quotient_any _ _ (x.den : Int) (gdn x y) _ T1.out (FU.out _ HF.out).2.2.2.2.2.2.2 (SzI.len HX.out.den (by decide)) (SzI.len SG.out (by decide)) HG0.out).mono ?_
          rintro e u2 ⟨v, rfl, n, hb⟩
          obtain ⟨s4, m4, n4, c4, rfl, n⟩ := n.cells
          clear T1
          replace BXa := hide (BXa.out.step hb)
          have TA := hide (n)
          replace HF := hide (FS.out _ _ HF.out hb)
          refine hK _ _ (fun _ => HF.out) ?_
          clear hK K hb n
          refine Calm.two (i := 5) (j := 9) (l := #[true, true, true, true, true, true, true, false, true, false, false, false]) (l' := #[true, true, true, true, true, false, true, false, true, true, false, false]) (by kernel_rfl) rfl rfl rfl rfl rfl rfl (fun K hK => ?_) (fun K hK => ?_)
          · go_simp
            refine (den_any _ y _ (FU.out _ HF.out).2.2.2.2.2.1).mono ?_
            rintro e u3 ⟨v, rfl, n, hb⟩
            replace TA := hide (TA.out.below (hb))
            replace BXa := hide (BXa.out.step hb)
            have T2 := hide (n)
            replace HF := hide (FS.out _ _ HF.out hb)
            refine hK _ _ (fun _ => HF.out) ?_
            clear hK K hb n
            refine Calm.two (i := 7) (j := 9) (l := #[true, true, true, true, true, true, true, true, true, false, false, false]) (l' := #[true, true, true, true, true, true, true, false, true, true, false, false]) (by kernel_rfl) rfl rfl rfl rfl rfl rfl (fun K hK => ?_) (fun K hK => ?_)
            · go_simp
              refine (quotient_any _ _ (y.den : Int) (gdn x y) _ T2.out (FU.out _ HF.out).2.2.2.2.2.2.2 (SzI.len HY.out.den (by decide)) (SzI.len SG.out (by decide)) HG0.out).mono ?_
              rintro e u4 ⟨v, rfl, n, hb⟩
              obtain ⟨s5, m5, n5, c5, rfl, n⟩ := n.cells
              replace TA := hide (TA.out.below (hb))
              clear T2
              replace BXa := hide (BXa.out.step hb)
              have TB := hide (n)
              replace HF := hide (FS.out _ _ HF.out hb)
              refine hK _ _ (fun _ => HF.out) ?_
              clear hK K hb n
              refine Calm.one (i := 9) (l' := #[true, true, true, true, true, true, true, true, true, true, false, false]) (by kernel_rfl) rfl rfl rfl fun K hK => ?_
              go_simp
              have al := below_alloc u4 (.cells #[.bool false, .slice none 0 0] 25)
              replace TA := hide (TA.out.below (al))
              replace TB := hide (TB.out.below (al))
              have LTab := hide (BXa.out.lt)
              replace BXa := hide (BXa.out.step al)
              have BXb := hide (Box.new u4 (.bool false) (.slice none 0 0))
              have LTb := hide (FL.out _ HF.out)
              replace HF := hide (FS.out _ _ HF.out al)
              refine hK _ _ (fun _ => HF.out) ?_
              clear hK K al
              generalize u4.alloc (.cells #[.bool false, .slice none 0 0] 25) = wzb at *
              generalize u4.heap.size = gb at *
              refine Calm.one (i := 10) (l' := #[true, true, true, true, true, true, true, true, true, true, true, false]) (by kernel_rfl) rfl rfl rfl fun K hK => ?_
              have hc0 := BXa.out.cell0
              have hc1 := BXa.out.cell1
              have hf0 := BXa.out.free 0
              have hf1 := BXa.out.free 1
              go_simp
              replace HF := hide (FP2.out _ ga (.bool s4) (.slice m4 n4 c4) HF.out BXa.out LTa.out)
              replace TA := hide (TA.out.keep (BXa.out.keeps (by simp) (by simp) (.bool s4) (.slice m4 n4 c4)))
              replace TB := hide (TB.out.keep (BXa.out.keeps (by simp) (by simp) (.bool s4) (.slice m4 n4 c4)))
              replace BXb := hide (BXb.out.other (C := ga) (by first | exact Nat.ne_of_lt LTab.out | exact Nat.ne_of_gt LTba.out) (.bool s4) (.slice m4 n4 c4))
              replace BXa := hide (BXa.out.put (.bool s4) (.slice m4 n4 c4))
              refine hK _ _ (fun _ => HF.out) ?_
              clear hK K hc0 hf0 hc1 hf1
              generalize ((wzb.setCell ⟨ga, 0, none⟩ (.bool s4)).setCell ⟨ga, 1, none⟩ (.slice m4 n4 c4)) = ws10 at *
              refine Calm.one (i := 11) (l' := #[true, true, true, true, true, true, true, true, true, true, true, true]) (by kernel_rfl) rfl rfl rfl fun K hK => ?_
              have hc0 := BXb.out.cell0
              have hc1 := BXb.out.cell1
              have hf0 := BXb.out.free 0
              have hf1 := BXb.out.free 1
              go_simp
              replace HF := hide (FP2.out _ gb (.bool s5) (.slice m5 n5 c5) HF.out BXb.out LTb.out)
              replace TA := hide (TA.out.keep (BXb.out.keeps (by simp) (by simp) (.bool s5) (.slice m5 n5 c5)))
              replace TB := hide (TB.out.keep (BXb.out.keeps (by simp) (by simp) (.bool s5) (.slice m5 n5 c5)))
              replace BXa := hide (BXa.out.other (C := gb) (by first | exact Nat.ne_of_lt LTba.out | exact Nat.ne_of_gt LTab.out) (.bool s5) (.slice m5 n5 c5))
              replace BXb := hide (BXb.out.put (.bool s5) (.slice m5 n5 c5))
              refine hK _ _ (fun _ => HF.out) ?_
              clear hK K hc0 hf0 hc1 hf1
              generalize ((ws10.setCell ⟨gb, 0, none⟩ (.bool s5)).setCell ⟨gb, 1, none⟩ (.slice m5 n5 c5)) = ws11 at *
              refine Calm.done (by kernel_rfl) ?_
              have h := FU.out _ HF.out
              go_wp2
              go_meet
              case rel => exact ⟨ga, s4, m4, n4, c4, gb, s5, m5, n5, c5, rfl, rfl, ⟨LTa.out, LTb.out, by first | exact Nat.ne_of_lt LTab.out | exact Nat.ne_of_gt LTba.out⟩, h.1, h.2.1, h.2.2.1, h.2.2.2.1, h.2.2.2.2.1, h.2.2.2.2.2.1, h.2.2.2.2.2.2.1, h.2.2.2.2.2.2.2, BXa.out, BXb.out, TA.out, TB.out⟩
            · go_simp
              have al := below_alloc u3 (.cells #[.bool false, .slice none 0 0] 25)
              replace TA := hide (TA.out.below (al))
              replace T2 := hide (T2.out.below (al))
              have LTab := hide (BXa.out.lt)
              replace BXa := hide (BXa.out.step al)
              have BXb := hide (Box.new u3 (.bool false) (.slice none 0 0))
              have LTb := hide (FL.out _ HF.out)
              replace HF := hide (FS.out _ _ HF.out al)
              refine hK _ _ (fun _ => HF.out) ?_
              clear hK K al
              generalize u3.alloc (.cells #[.bool false, .slice none 0 0] 25) = wzb at *
              generalize u3.heap.size = gb at *
              refine Calm.one (i := 7) (l' := #[true, true, true, true, true, true, true, true, true, true, false, false]) (by kernel_rfl) rfl rfl rfl fun K hK => ?_
              go_simp
              refine (quotient_any _ _ (y.den : Int) (gdn x y) _ T2.out (FU.out _ HF.out).2.2.2.2.2.2.2 (SzI.len HY.out.den (by decide)) (SzI.len SG.out (by decide)) HG0.out).mono ?_
              rintro e u4 ⟨v, rfl, n, hb⟩
              obtain ⟨s5, m5, n5, c5, rfl, n⟩ := n.cells
              replace TA := hide (TA.out.below (hb))
              clear T2
              replace BXa := hide (BXa.out.step hb)
              replace BXb := hide (BXb.out.step hb)
              have TB := hide (n)
              replace HF := hide (FS.out _ _ HF.out hb)
              refine hK _ _ (fun _ => HF.out) ?_
              clear hK K hb n
              refine Calm.one (i := 10) (l' := #[true, true, true, true, true, true, true, true, true, true, true, false]) (by kernel_rfl) rfl rfl rfl fun K hK => ?_
              have hc0 := BXa.out.cell0
              have hc1 := BXa.out.cell1
              have hf0 := BXa.out.free 0
              have hf1 := BXa.out.free 1
              go_simp
              replace HF := hide (FP2.out _ ga (.bool s4) (.slice m4 n4 c4) HF.out BXa.out LTa.out)
              replace TA := hide (TA.out.keep (BXa.out.keeps (by simp) (by simp) (.bool s4) (.slice m4 n4 c4)))
              replace TB := hide (TB.out.keep (BXa.out.keeps (by simp) (by simp) (.bool s4) (.slice m4 n4 c4)))
              replace BXb := hide (BXb.out.other (C := ga) (by first | exact Nat.ne_of_lt LTab.out | exact Nat.ne_of_gt LTba.out) (.bool s4) (.slice m4 n4 c4))
              replace BXa := hide (BXa.out.put (.bool s4) (.slice m4 n4 c4))
              refine hK _ _ (fun _ => HF.out) ?_
              clear hK K hc0 hf0 hc1 hf1
              generalize ((u4.setCell ⟨ga, 0, none⟩ (.bool s4)).setCell ⟨ga, 1, none⟩ (.slice m4 n4 c4)) = ws10 at *
              refine Calm.one (i := 11) (l' := #[true, true, true, true, true, true, true, true, true, true, true, true]) (by kernel_rfl) rfl rfl rfl fun K hK => ?_
              have hc0 := BXb.out.cell0
              have hc1 := BXb.out.cell1
              have hf0 := BXb.out.free 0
              have hf1 := BXb.out.free 1
              go_simp
              replace HF := hide (FP2.out _ gb (.bool s5) (.slice m5 n5 c5) HF.out BXb.out LTb.out)
              replace TA := hide (TA.out.keep (BXb.out.keeps (by simp) (by simp) (.bool s5) (.slice m5 n5 c5)))
              replace TB := hide (TB.out.keep (BXb.out.keeps (by simp) (by simp) (.bool s5) (.slice m5 n5 c5)))
              replace BXa := hide (BXa.out.other (C := gb) (by first | exact Nat.ne_of_lt LTba.out | exact Nat.ne_of_gt LTab.out) (.bool s5) (.slice m5 n5 c5))
              replace BXb := hide (BXb.out.put (.bool s5) (.slice m5 n5 c5))
              refine hK _ _ (fun _ => HF.out) ?_
              clear hK K hc0 hf0 hc1 hf1
              generalize ((ws10.setCell ⟨gb, 0, none⟩ (.bool s5)).setCell ⟨gb, 1, none⟩ (.slice m5 n5 c5)) = ws11 at *
              refine Calm.done (by kernel_rfl) ?_
              have h := FU.out _ HF.out
              go_wp2
              go_meet
              case rel => exact ⟨ga, s4, m4, n4, c4, gb, s5, m5, n5, c5, rfl, rfl, ⟨LTa.out, LTb.out, by first | exact Nat.ne_of_lt LTab.out | exact Nat.ne_of_gt LTba.out⟩, h.1, h.2.1, h.2.2.1, h.2.2.2.1, h.2.2.2.2.1, h.2.2.2.2.2.1, h.2.2.2.2.2.2.1, h.2.2.2.2.2.2.2, BXa.out, BXb.out, TA.out, TB.out⟩
          · go_simp
            have al := below_alloc u2 (.cells #[.bool false, .slice none 0 0] 25)
            replace TA := hide (TA.out.below (al))
            have LTab := hide (BXa.out.lt)
            replace BXa := hide (BXa.out.step al)
            have BXb := hide (Box.new u2 (.bool false) (.slice none 0 0))
            have LTb := hide (FL.out _ HF.out)
            replace HF := hide (FS.out _ _ HF.out al)
            refine hK _ _ (fun _ => HF.out) ?_
            clear hK K al
            generalize u2.alloc (.cells #[.bool false, .slice none 0 0] 25) = wzb at *
            generalize u2.heap.size = gb at *
            refine Calm.one (i := 5) (l' := #[true, true, true, true, true, true, true, false, true, true, false, false]) (by kernel_rfl) rfl rfl rfl fun K hK => ?_
            go_simp
            refine (den_any _ y _ (FU.out _ HF.out).2.2.2.2.2.1).mono ?_
            rintro e u3 ⟨v, rfl, n, hb⟩
            replace TA := hide (TA.out.below (hb))
            replace BXa := hide (BXa.out.step hb)
            replace BXb := hide (BXb.out.step hb)
            have T2 := hide (n)
            replace HF := hide (FS.out _ _ HF.out hb)
            refine hK _ _ (fun _ => HF.out) ?_
            clear hK K hb n
            refine Calm.one (i := 7) (l' := #[true, true, true, true, true, true, true, true, true, true, false, false]) (by kernel_rfl) rfl rfl rfl fun K hK => ?_
            go_simp
            refine (quotient_any _ _ (y.den : Int) (gdn x y) _ T2.out (FU.out _ HF.out).2.2.2.2.2.2.2 (SzI.len HY.out.den (by decide)) (SzI.len SG.out (by decide)) HG0.out).mono ?_
            rintro e u4 ⟨v, rfl, n, hb⟩
            obtain ⟨s5, m5, n5, c5, rfl, n⟩ := n.cells
            replace TA := hide (TA.out.below (hb))
            clear T2
            replace BXa := hide (BXa.out.step hb)
            replace BXb := hide (BXb.out.step hb)
            have TB := hide (n)
            replace HF := hide (FS.out _ _ HF.out hb)
            refine hK _ _ (fun _ => HF.out) ?_
            clear hK K hb n
            refine Calm.one (i := 10) (l' := #[true, true, true, true, true, true, true, true, true, true, true, false]) (by kernel_rfl) rfl rfl rfl fun K hK => ?_
            have hc0 := BXa.out.cell0
            have hc1 := BXa.out.cell1
            have hf0 := BXa.out.free 0
            have hf1 := BXa.out.free 1
            go_simp
            replace HF := hide (FP2.out _ ga (.bool s4) (.slice m4 n4 c4) HF.out BXa.out LTa.out)
            replace TA := hide (TA.out.keep (BXa.out.keeps (by simp) (by simp) (.bool s4) (.slice m4 n4 c4)))
            replace TB := hide (TB.out.keep (BXa.out.keeps (by simp) (by simp) (.bool s4) (.slice m4 n4 c4)))
            replace BXb := hide (BXb.out.other (C := ga) (by first | exact Nat.ne_of_lt LTab.out | exact Nat.ne_of_gt LTba.out) (.bool s4) (.slice m4 n4 c4))
            replace BXa := hide (BXa.out.put (.bool s4) (.slice m4 n4 c4))
            refine hK _ _ (fun _ => HF.out) ?_
            clear hK K hc0 hf0 hc1 hf1
            generalize ((u4.setCell ⟨ga, 0, none⟩ (.bool s4)).setCell ⟨ga, 1, none⟩ (.slice m4 n4 c4)) = ws10 at *
            refine Calm.one (i := 11) (l' := #[true, true, true, true, true, true, true, true, true, true, true, true]) (by kernel_rfl) rfl rfl rfl fun K hK => ?_
            have hc0 := BXb.out.cell0
            have hc1 := BXb.out.cell1
            have hf0 := BXb.out.free 0
            have hf1 := BXb.out.free 1
            go_simp
            replace HF := hide (FP2.out _ gb (.bool s5) (.slice m5 n5 c5) HF.out BXb.out LTb.out)
            replace TA := hide (TA.out.keep (BXb.out.keeps (by simp) (by simp) (.bool s5) (.slice m5 n5 c5)))
            replace TB := hide (TB.out.keep (BXb.out.keeps (by simp) (by simp) (.bool s5) (.slice m5 n5 c5)))
            replace BXa := hide (BXa.out.other (C := gb) (by first | exact Nat.ne_of_lt LTba.out | exact Nat.ne_of_gt LTab.out) (.bool s5) (.slice m5 n5 c5))
            replace BXb := hide (BXb.out.put (.bool s5) (.slice m5 n5 c5))
            refine hK _ _ (fun _ => HF.out) ?_
            clear hK K hc0 hf0 hc1 hf1
            generalize ((ws10.setCell ⟨gb, 0, none⟩ (.bool s5)).setCell ⟨gb, 1, none⟩ (.slice m5 n5 c5)) = ws11 at *
            refine Calm.done (by kernel_rfl) ?_
            have h := FU.out _ HF.out
            go_wp2
            go_meet
            case rel => exact ⟨ga, s4, m4, n4, c4, gb, s5, m5, n5, c5, rfl, rfl, ⟨LTa.out, LTb.out, by first | exact Nat.ne_of_lt LTab.out | exact Nat.ne_of_gt LTba.out⟩, h.1, h.2.1, h.2.2.1, h.2.2.2.1, h.2.2.2.2.1, h.2.2.2.2.2.1, h.2.2.2.2.2.2.1, h.2.2.2.2.2.2.2, BXa.out, BXb.out, TA.out, TB.out⟩
        · go_simp
          have al := below_alloc wza (.cells #[.bool false, .slice none 0 0] 25)
          replace T1 := hide (T1.out.below (al))
          have LTab := hide (BXa.out.lt)
          replace BXa := hide (BXa.out.step al)
          have BXb := hide (Box.new wza (.bool false) (.slice none 0 0))
          have LTb := hide (FL.out _ HF.out)
          replace HF := hide (FS.out _ _ HF.out al)
          refine hK _ _ (fun _ => HF.out) ?_
          clear hK K al
          generalize wza.alloc (.cells #[.bool false, .slice none 0 0] 25) = wzb at *
          generalize wza.heap.size = gb at *
          refine Calm.one (i := 3) (l' := #[true, true, true, true, true, false, true, false, true, true, false, false]) (by kernel_rfl) rfl rfl rfl fun K hK => ?_
          go_simp
          refine (quotient_any _ _ (x.den : Int) (gdn x y) _ T1.out (FU.out _ HF.out).2.2.2.2.2.2.2 (SzI.len HX.out.den (by decide)) (SzI.len SG.out (by decide)) HG0.out).mono ?_
          rintro e u2 ⟨v, rfl, n, hb⟩
          obtain ⟨s4, m4, n4, c4, rfl, n⟩ := n.cells
          clear T1
          replace BXa := hide (BXa.out.step hb)
          replace BXb := hide (BXb.out.step hb)
          have TA := hide (n)
          replace HF := hide (FS.out _ _ HF.out hb)
          refine hK _ _ (fun _ => HF.out) ?_
          clear hK K hb n
          refine Calm.one (i := 5) (l' := #[true, true, true, true, true, true, true, false, true, true, false, false]) (by kernel_rfl) rfl rfl rfl fun K hK => ?_
          go_simp
          refine (den_any _ y _ (FU.out _ HF.out).2.2.2.2.2.1).mono ?_
          rintro e u3 ⟨v, rfl, n, hb⟩
          replace TA := hide (TA.out.below (hb))
          replace BXa := hide (BXa.out.step hb)
          replace BXb := hide (BXb.out.step hb)
          have T2 := hide (n)
          replace HF := hide (FS.out _ _ HF.out hb)
          refine hK _ _ (fun _ => HF.out) ?_
          clear hK K hb n
          refine Calm.one (i := 7) (l' := #[true, true, true, true, true, true, true, true, true, true, false, false]) (by kernel_rfl) rfl rfl rfl fun K hK => ?_
          go_simp
          refine (quotient_any _ _ (y.den : Int) (gdn x y) _ T2.out (FU.out _ HF.out).2.2.2.2.2.2.2 (SzI.len HY.out.den (by decide)) (SzI.len SG.out (by decide)) HG0.out).mono ?_
          rintro e u4 ⟨v, rfl, n, hb⟩
          obtain ⟨s5, m5, n5, c5, rfl, n⟩ := n.cells
          replace TA := hide (TA.out.below (hb))
          clear T2
          replace BXa := hide (BXa.out.step hb)
          replace BXb := hide (BXb.out.step hb)
          have TB := hide (n)
          replace HF := hide (FS.out _ _ HF.out hb)
          refine hK _ _ (fun _ => HF.out) ?_
          clear hK K hb n
          refine Calm.one (i := 10) (l' := #[true, true, true, true, true, true, true, true, true, true, true, false]) (by kernel_rfl) rfl rfl rfl fun K hK => ?_
          have hc0 := BXa.out.cell0
          have hc1 := BXa.out.cell1
          have hf0 := BXa.out.free 0
          have hf1 := BXa.out.free 1
          go_simp
          replace HF := hide (FP2.out _ ga (.bool s4) (.slice m4 n4 c4) HF.out BXa.out LTa.out)
          replace TA := hide (TA.out.keep (BXa.out.keeps (by simp) (by simp) (.bool s4) (.slice m4 n4 c4)))
          replace TB := hide (TB.out.keep (BXa.out.keeps (by simp) (by simp) (.bool s4) (.slice m4 n4 c4)))
          replace BXb := hide (BXb.out.other (C := ga) (by first | exact Nat.ne_of_lt LTab.out | exact Nat.ne_of_gt LTba.out) (.bool s4) (.slice m4 n4 c4))
          replace BXa := hide (BXa.out.put (.bool s4) (.slice m4 n4 c4))
          refine hK _ _ (fun _ => HF.out) ?_
          clear hK K hc0 hf0 hc1 hf1
          generalize ((u4.setCell ⟨ga, 0, none⟩ (.bool s4)).setCell ⟨ga, 1, none⟩ (.slice m4 n4 c4)) = ws10 at *
          refine Calm.one (i := 11) (l' := #[true, true, true, true, true, true, true, true, true, true, true, true]) (by kernel_rfl) rfl rfl rfl fun K hK => ?_
          have hc0 := BXb.out.cell0
          have hc1 := BXb.out.cell1
          have hf0 := BXb.out.free 0
          have hf1 := BXb.out.free 1
          go_simp
          replace HF := hide (FP2.out _ gb (.bool s5) (.slice m5 n5 c5) HF.out BXb.out LTb.out)
          replace TA := hide (TA.out.keep (BXb.out.keeps (by simp) (by simp) (.bool s5) (.slice m5 n5 c5)))
          replace TB := hide (TB.out.keep (BXb.out.keeps (by simp) (by simp) (.bool s5) (.slice m5 n5 c5)))
          replace BXa := hide (BXa.out.other (C := gb) (by first | exact Nat.ne_of_lt LTba.out | exact Nat.ne_of_gt LTab.out) (.bool s5) (.slice m5 n5 c5))
          replace BXb := hide (BXb.out.put (.bool s5) (.slice m5 n5 c5))
          refine hK _ _ (fun _ => HF.out) ?_
          clear hK K hc0 hf0 hc1 hf1
          generalize ((ws10.setCell ⟨gb, 0, none⟩ (.bool s5)).setCell ⟨gb, 1, none⟩ (.slice m5 n5 c5)) = ws11 at *
          refine Calm.done (by kernel_rfl) ?_
          have h := FU.out _ HF.out
          go_wp2
          go_meet
          case rel => exact ⟨ga, s4, m4, n4, c4, gb, s5, m5, n5, c5, rfl, rfl, ⟨LTa.out, LTb.out, by first | exact Nat.ne_of_lt LTab.out | exact Nat.ne_of_gt LTba.out⟩, h.1, h.2.1, h.2.2.1, h.2.2.2.1, h.2.2.2.2.1, h.2.2.2.2.2.1, h.2.2.2.2.2.2.1, h.2.2.2.2.2.2.2, BXa.out, BXb.out, TA.out, TB.out⟩
      · go_simp
        have al := below_alloc u1 (.cells #[.bool false, .slice none 0 0] 25)
        replace T1 := hide (T1.out.below (al))
        have BXb := hide (Box.new u1 (.bool false) (.slice none 0 0))
        have LTb := hide (FL.out _ HF.out)
        replace HF := hide (FS.out _ _ HF.out al)
        refine hK _ _ (fun _ => HF.out) ?_
        clear hK K al
        generalize u1.alloc (.cells #[.bool false, .slice none 0 0] 25) = wzb at *
        generalize u1.heap.size = gb at *
        refine Calm.two (i := 3) (j := 8) (l := #[true, true, true, true, true, false, true, false, false, true, false, false]) (l' := #[true, true, true, false, true, false, true, false, true, true, false, false]) (by kernel_rfl) rfl rfl rfl rfl rfl rfl (fun K hK => ?_) (fun K hK => ?_)
        · go_simp
          refine (quotient_any _ _ (x.den : Int) (gdn x y) _ T1.out (FU.out _ HF.out).2.2.2.2.2.2.2 (SzI.len HX.out.den (by decide)) (SzI.len SG.out (by decide)) HG0.out).mono ?_
          rintro e u2 ⟨v, rfl, n, hb⟩
          obtain ⟨s4, m4, n4, c4, rfl, n⟩ := n.cells
          clear T1
          replace BXb := hide (BXb.out.step hb)
          have TA := hide (n)
          replace HF := hide (FS.out _ _ HF.out hb)
          refine hK _ _ (fun _ => HF.out) ?_
          clear hK K hb n
          refine Calm.two (i := 5) (j := 8) (l := #[true, true, true, true, true, true, true, false, false, true, false, false]) (l' := #[true, true, true, true, true, false, true, false, true, true, false, false]) (by kernel_rfl) rfl rfl rfl rfl rfl rfl (fun K hK => ?_) (fun K hK => ?_)
          · go_simp
            refine (den_any _ y _ (FU.out _ HF.out).2.2.2.2.2.1).mono ?_
            rintro e u3 ⟨v, rfl, n, hb⟩
            replace TA := hide (TA.out.below (hb))
            replace BXb := hide (BXb.out.step hb)
            have T2 := hide (n)
            replace HF := hide (FS.out _ _ HF.out hb)
            refine hK _ _ (fun _ => HF.out) ?_
            clear hK K hb n
            refine Calm.two (i := 7) (j := 8) (l := #[true, true, true, true, true, true, true, true, false, true, false, false]) (l' := #[true, true, true, true, true, true, true, false, true, true, false, false]) (by kernel_rfl) rfl rfl rfl rfl rfl rfl (fun K hK => ?_) (fun K hK => ?_)
            · go_simp
              refine (quotient_any _ _ (y.den : Int) (gdn x y) _ T2.out (FU.out _ HF.out).2.2.2.2.2.2.2 (SzI.len HY.out.den (by decide)) (SzI.len SG.out (by decide)) HG0.out).mono ?_
              rintro e u4 ⟨v, rfl, n, hb⟩
              obtain ⟨s5, m5, n5, c5, rfl, n⟩ := n.cells
              replace TA := hide (TA.out.below (hb))
              clear T2
              replace BXb := hide (BXb.out.step hb)
              have TB := hide (n)
              replace HF := hide (FS.out _ _ HF.out hb)
              refine hK _ _ (fun _ => HF.out) ?_
              clear hK K hb n
              refine Calm.one (i := 8) (l' := #[true, true, true, true, true, true, true, true, true, true, false, false]) (by kernel_rfl) rfl rfl rfl fun K hK => ?_
              go_simp
              have al := below_alloc u4 (.cells #[.bool false, .slice none 0 0] 25)
              replace TA := hide (TA.out.below (al))
              replace TB := hide (TB.out.below (al))
              have LTba := hide (BXb.out.lt)
              replace BXb := hide (BXb.out.step al)
              have BXa := hide (Box.new u4 (.bool false) (.slice none 0 0))
              have LTa := hide (FL.out _ HF.out)
              replace HF := hide (FS.out _ _ HF.out al)
              refine hK _ _ (fun _ => HF.out) ?_
              clear hK K al
              generalize u4.alloc (.cells #[.bool false, .slice none 0 0] 25) = wza at *
              generalize u4.heap.size = ga at *
              refine Calm.one (i := 10) (l' := #[true, true, true, true, true, true, true, true, true, true, true, false]) (by kernel_rfl) rfl rfl rfl fun K hK => ?_
              have hc0 := BXa.out.cell0
              have hc1 := BXa.out.cell1
              have hf0 := BXa.out.free 0
              have hf1 := BXa.out.free 1
              go_simp
              replace HF := hide (FP2.out _ ga (.bool s4) (.slice m4 n4 c4) HF.out BXa.out LTa.out)
              replace TA := hide (TA.out.keep (BXa.out.keeps (by simp) (by simp) (.bool s4) (.slice m4 n4 c4)))
              replace TB := hide (TB.out.keep (BXa.out.keeps (by simp) (by simp) (.bool s4) (.slice m4 n4 c4)))
              replace BXb := hide (BXb.out.other (C := ga) (by first | exact Nat.ne_of_lt LTab.out | exact Nat.ne_of_gt LTba.out) (.bool s4) (.slice m4 n4 c4))
              replace BXa := hide (BXa.out.put (.bool s4) (.slice m4 n4 c4))
              refine hK _ _ (fun _ => HF.out) ?_
              clear hK K hc0 hf0 hc1 hf1
              generalize ((wza.setCell ⟨ga, 0, none⟩ (.bool s4)).setCell ⟨ga, 1, none⟩ (.slice m4 n4 c4)) = ws10 at *
              refine Calm.one (i := 11) (l' := #[true, true, true, true, true, true, true, true, true, true, true, true]) (by kernel_rfl) rfl rfl rfl fun K hK => ?_
              have hc0 := BXb.out.cell0
              have hc1 := BXb.out.cell1
              have hf0 := BXb.out.free 0
              have hf1 := BXb.out.free 1
              go_simp
              replace HF := hide (FP2.out _ gb (.bool s5) (.slice m5 n5 c5) HF.out BXb.out LTb.out)
              replace TA := hide (TA.out.keep (BXb.out.keeps (by simp) (by simp) (.bool s5) (.slice m5 n5 c5)))
              replace TB := hide (TB.out.keep (BXb.out.keeps (by simp) (by simp) (.bool s5) (.slice m5 n5 c5)))
              replace BXa := hide (BXa.out.other (C := gb) (by first | exact Nat.ne_of_lt LTba.out | exact Nat.ne_of_gt LTab.out) (.bool s5) (.slice m5 n5 c5))
              replace BXb := hide (BXb.out.put (.bool s5) (.slice m5 n5 c5))
              refine hK _ _ (fun _ => HF.out) ?_
              clear hK K hc0 hf0 hc1 hf1
              generalize ((ws10.setCell ⟨gb, 0, none⟩ (.bool s5)).setCell ⟨gb, 1, none⟩ (.slice m5 n5 c5)) = ws11 at *
              refine Calm.done (by kernel_rfl) ?_
              have h := FU.out _ HF.out
              go_wp2
              go_meet
              case rel => exact ⟨ga, s4, m4, n4, c4, gb, s5, m5, n5, c5, rfl, rfl, ⟨LTa.out, LTb.out, by first | exact Nat.ne_of_lt LTab.out | exact Nat.ne_of_gt LTba.out⟩, h.1, h.2.1, h.2.2.1, h.2.2.2.1, h.2.2.2.2.1, h.2.2.2.2.2.1, h.2.2.2.2.2.2.1, h.2.2.2.2.2.2.2, BXa.out, BXb.out, TA.out, TB.out⟩
            · go_simp
              have al := below_alloc u3 (.cells #[.bool false, .slice none 0 0] 25)
              replace TA := hide (TA.out.below (al))
              replace T2 := hide (T2.out.below (al))
              have LTba := hide (BXb.out.lt)
              replace BXb := hide (BXb.out.step al)
              have BXa := hide (Box.new u3 (.bool false) (.slice none 0 0))
              have LTa := hide (FL.out _ HF.out)
              replace HF := hide (FS.out _ _ HF.out al)
              refine hK _ _ (fun _ => HF.out) ?_
              clear hK K al
              generalize u3.alloc (.cells #[.bool false, .slice none 0 0] 25) = wza at *
              generalize u3.heap.size = ga at *
              refine Calm.one (i := 7) (l' := #[true, true, true, true, true, true, true, true, true, true, false, false]) (by kernel_rfl) rfl rfl rfl fun K hK => ?_
              go_simp
              refine (quotient_any _ _ (y.den : Int) (gdn x y) _ T2.out (FU.out _ HF.out).2.2.2.2.2.2.2 (SzI.len HY.out.den (by decide)) (SzI.len SG.out (by decide)) HG0.out).mono ?_
              rintro e u4 ⟨v, rfl, n, hb⟩
              obtain ⟨s5, m5, n5, c5, rfl, n⟩ := n.cells
              replace TA := hide (TA.out.below (hb))
              clear T2
              replace BXb := hide (BXb.out.step hb)
              replace BXa := hide (BXa.out.step hb)
              have TB := hide (n)
              replace HF := hide (FS.out _ _ HF.out hb)
              refine hK _ _ (fun _ => HF.out) ?_
              clear hK K hb n
              refine Calm.one (i := 10) (l' := #[true, true, true, true, true, true, true, true, true, true, true, false]) (by kernel_rfl) rfl rfl rfl fun K hK => ?_
              have hc0 := BXa.out.cell0
              have hc1 := BXa.out.cell1
              have hf0 := BXa.out.free 0
              have hf1 := BXa.out.free 1
              go_simp
              replace HF := hide (FP2.out _ ga (.bool s4) (.slice m4 n4 c4) HF.out BXa.out LTa.out)
              replace TA := hide (TA.out.keep (BXa.out.keeps (by simp) (by simp) (.bool s4) (.slice m4 n4 c4)))
              replace TB := hide (TB.out.keep (BXa.out.keeps (by simp) (by simp) (.bool s4) (.slice m4 n4 c4)))
              replace BXb := hide (BXb.out.other (C := ga) (by first | exact Nat.ne_of_lt LTab.out | exact Nat.ne_of_gt LTba.out) (.bool s4) (.slice m4 n4 c4))
              replace BXa := hide (BXa.out.put (.bool s4) (.slice m4 n4 c4))
              refine hK _ _ (fun _ => HF.out) ?_
              clear hK K hc0 hf0 hc1 hf1
              generalize ((u4.setCell ⟨ga, 0, none⟩ (.bool s4)).setCell ⟨ga, 1, none⟩ (.slice m4 n4 c4)) = ws10 at *
              refine Calm.one (i := 11) (l' := #[true, true, true, true, true, true, true, true, true, true, true, true]) (by kernel_rfl) rfl rfl rfl fun K hK => ?_
              have hc0 := BXb.out.cell0
              have hc1 := BXb.out.cell1
              have hf0 := BXb.out.free 0
              have hf1 := BXb.out.free 1
              go_simp
              replace HF := hide (FP2.out _ gb (.bool s5) (.slice m5 n5 c5) HF.out BXb.out LTb.out)
              replace TA := hide (TA.out.keep (BXb.out.keeps (by simp) (by simp) (.bool s5) (.slice m5 n5 c5)))
              replace TB := hide (TB.out.keep (BXb.out.keeps (by simp) (by simp) (.bool s5) (.slice m5 n5 c5)))
              replace BXa := hide (BXa.out.other (C := gb) (by first | exact Nat.ne_of_lt LTba.out | exact Nat.ne_of_gt LTab.out) (.bool s5) (.slice m5 n5 c5))
              replace BXb := hide (BXb.out.put (.bool s5) (.slice m5 n5 c5))
              refine hK _ _ (fun _ => HF.out) ?_
              clear hK K hc0 hf0 hc1 hf1
              generalize ((ws10.setCell ⟨gb, 0, none⟩ (.bool s5)).setCell ⟨gb, 1, none⟩ (.slice m5 n5 c5)) = ws11 at *
              refine Calm.done (by kernel_rfl) ?_
              have h := FU.out _ HF.out
              go_wp2
              go_meet
              case rel => exact ⟨ga, s4, m4, n4, c4, gb, s5, m5, n5, c5, rfl, rfl, ⟨LTa.out, LTb.out, by first | exact Nat.ne_of_lt LTab.out | exact Nat.ne_of_gt LTba.out⟩, h.1, h.2.1, h.2.2.1, h.2.2.2.1, h.2.2.2.2.1, h.2.2.2.2.2.1, h.2.2.2.2.2.2.1, h.2.2.2.2.2.2.2, BXa.out, BXb.out, TA.out, TB.out⟩
          · go_simp
            have al := below_alloc u2 (.cells #[.bool false, .slice none 0 0] 25)
            replace TA := hide (TA.out.below (al))
            have LTba := hide (BXb.out.lt)
            replace BXb := hide (BXb.out.step al)
            have BXa := hide (Box.new u2 (.bool false) (.slice none 0 0))
            have LTa := hide (FL.out _ HF.out)
            replace HF := hide (FS.out _ _ HF.out al)
            refine hK _ _ (fun _ => HF.out) ?_
            clear hK K al
            generalize u2.alloc (.cells #[.bool false, .slice none 0 0] 25) = wza at *
            generalize u2.heap.size = ga at *
            refine Calm.one (i := 5) (l' := #[true, true, true, true, true, true, true, false, true, true, false, false]) (by kernel_rfl) rfl rfl rfl fun K hK => ?_
            go_simp
            refine (den_any _ y _ (FU.out _ HF.out).2.2.2.2.2.1).mono ?_
            rintro e u3 ⟨v, rfl, n, hb⟩
            replace TA := hide (TA.out.below (hb))
            replace BXb := hide (BXb.out.step hb)
            replace BXa := hide (BXa.out.step hb)
            have T2 := hide (n)
            replace HF := hide (FS.out _ _ HF.out hb)
            refine hK _ _ (fun _ => HF.out) ?_
            clear hK K hb n
            refine Calm.one (i := 7) (l' := #[true, true, true, true, true, true, true, true, true, true, false, false]) (by kernel_rfl) rfl rfl rfl fun K hK => ?_
            go_simp
            refine (quotient_any _ _ (y.den : Int) (gdn x y) _ T2.out (FU.out _ HF.out).2.2.2.2.2.2.2 (SzI.len HY.out.den (by decide)) (SzI.len SG.out (by decide)) HG0.out).mono ?_
            rintro e u4 ⟨v, rfl, n, hb⟩
            obtain ⟨s5, m5, n5, c5, rfl, n⟩ := n.cells
            replace TA := hide (TA.out.below (hb))
            clear T2
            replace BXb := hide (BXb.out.step hb)
            replace BXa := hide (BXa.out.step hb)
            have TB := hide (n)
            replace HF := hide (FS.out _ _ HF.out hb)
            refine hK _ _ (fun _ => HF.out) ?_
            clear hK K hb n
            refine Calm.one (i := 10) (l' := #[true, true, true, true, true, true, true, true, true, true, true, false]) (by kernel_rfl) rfl rfl rfl fun K hK => ?_
            have hc0 := BXa.out.cell0
            have hc1 := BXa.out.cell1
            have hf0 := BXa.out.free 0
            have hf1 := BXa.out.free 1
            go_simp
            replace HF := hide (FP2.out _ ga (.bool s4) (.slice m4 n4 c4) HF.out BXa.out LTa.out)
            replace TA := hide (TA.out.keep (BXa.out.keeps (by simp) (by simp) (.bool s4) (.slice m4 n4 c4)))
            replace TB := hide (TB.out.keep (BXa.out.keeps (by simp) (by simp) (.bool s4) (.slice m4 n4 c4)))
            replace BXb := hide (BXb.out.other (C := ga) (by first | exact Nat.ne_of_lt LTab.out | exact Nat.ne_of_gt LTba.out) (.bool s4) (.slice m4 n4 c4))
            replace BXa := hide (BXa.out.put (.bool s4) (.slice m4 n4 c4))
            refine hK _ _ (fun _ => HF.out) ?_
            clear hK K hc0 hf0 hc1 hf1
            generalize ((u4.setCell ⟨ga, 0, none⟩ (.bool s4)).setCell ⟨ga, 1, none⟩ (.slice m4 n4 c4)) = ws10 at *
            refine Calm.one (i := 11) (l' := #[true, true, true, true, true, true, true, true, true, true, true, true]) (by kernel_rfl) rfl rfl rfl fun K hK => ?_
            have hc0 := BXb.out.cell0
            have hc1 := BXb.out.cell1
            have hf0 := BXb.out.free 0
            have hf1 := BXb.out.free 1
            go_simp
            replace HF := hide (FP2.out _ gb (.bool s5) (.slice m5 n5 c5) HF.out BXb.out LTb.out)
            replace TA := hide (TA.out.keep (BXb.out.keeps (by simp) (by simp) (.bool s5) (.slice m5 n5 c5)))
            replace TB := hide (TB.out.keep (BXb.out.keeps (by simp) (by simp) (.bool s5) (.slice m5 n5 c5)))
            replace BXa := hide (BXa.out.other (C := gb) (by first | exact Nat.ne_of_lt LTba.out | exact Nat.ne_of_gt LTab.out) (.bool s5) (.slice m5 n5 c5))
            replace BXb := hide (BXb.out.put (.bool s5) (.slice m5 n5 c5))
            refine hK _ _ (fun _ => HF.out) ?_
            clear hK K hc0 hf0 hc1 hf1
            generalize ((ws10.setCell ⟨gb, 0, none⟩ (.bool s5)).setCell ⟨gb, 1, none⟩ (.slice m5 n5 c5)) = ws11 at *
            refine Calm.done (by kernel_rfl) ?_
            have h := FU.out _ HF.out
            go_wp2
            go_meet
            case rel => exact ⟨ga, s4, m4, n4, c4, gb, s5, m5, n5, c5, rfl, rfl, ⟨LTa.out, LTb.out, by first | exact Nat.ne_of_lt LTab.out | exact Nat.ne_of_gt LTba.out⟩, h.1, h.2.1, h.2.2.1, h.2.2.2.1, h.2.2.2.2.1, h.2.2.2.2.2.1, h.2.2.2.2.2.2.1, h.2.2.2.2.2.2.2, BXa.out, BXb.out, TA.out, TB.out⟩
        · go_simp
          have al := below_alloc wzb (.cells #[.bool false, .slice none 0 0] 25)
          replace T1 := hide (T1.out.below (al))
          have LTba := hide (BXb.out.lt)
          replace BXb := hide (BXb.out.step al)
          have BXa := hide (Box.new wzb (.bool false) (.slice none 0 0))
          have LTa := hide (FL.out _ HF.out)
          replace HF := hide (FS.out _ _ HF.out al)
          refine hK _ _ (fun _ => HF.out) ?_
          clear hK K al
          generalize wzb.alloc (.cells #[.bool false, .slice none 0 0] 25) = wza at *
          generalize wzb.heap.size = ga at *
          refine Calm.one (i := 3) (l' := #[true, true, true, true, true, false, true, false, true, true, false, false]) (by kernel_rfl) rfl rfl rfl fun K hK => ?_
          go_simp
          refine (quotient_any _ _ (x.den : Int) (gdn x y) _ T1.out (FU.out _ HF.out).2.2.2.2.2.2.2 (SzI.len HX.out.den (by decide)) (SzI.len SG.out (by decide)) HG0.out).mono ?_
          rintro e u2 ⟨v, rfl, n, hb⟩
          obtain ⟨s4, m4, n4, c4, rfl, n⟩ := n.cells
          clear T1
          replace BXb := hide (BXb.out.step hb)
          replace BXa := hide (BXa.out.step hb)
          have TA := hide (n)
          replace HF := hide (FS.out _ _ HF.out hb)
          refine hK _ _ (fun _ => HF.out) ?_
          clear hK K hb n
          refine Calm.one (i := 5) (l' := #[true, true, true, true, true, true, true, false, true, true, false, false]) (by kernel_rfl) rfl rfl rfl fun K hK => ?_
          go_simp
          refine (den_any _ y _ (FU.out _ HF.out).2.2.2.2.2.1).mono ?_
          rintro e u3 ⟨v, rfl, n, hb⟩
          replace TA := hide (TA.out.below (hb))
          replace BXb := hide (BXb.out.step hb)
          replace BXa := hide (BXa.out.step hb)
          have T2 := hide (n)
          replace HF := hide (FS.out _ _ HF.out hb)
          refine hK _ _ (fun _ => HF.out) ?_
          clear hK K hb n
          refine Calm.one (i := 7) (l' := #[true, true, true, true, true, true, true, true, true, true, false, false]) (by kernel_rfl) rfl rfl rfl fun K hK => ?_
          go_simp
          refine (quotient_any _ _ (y.den : Int) (gdn x y) _ T2.out (FU.out _ HF.out).2.2.2.2.2.2.2 (SzI.len HY.out.den (by decide)) (SzI.len SG.out (by decide)) HG0.out).mono ?_
          rintro e u4 ⟨v, rfl, n, hb⟩
          obtain ⟨s5, m5, n5, c5, rfl, n⟩ := n.cells
          replace TA := hide (TA.out.below (hb))
          clear T2
          replace BXb := hide (BXb.out.step hb)
          replace BXa := hide (BXa.out.step hb)
          have TB := hide (n)
          replace HF := hide (FS.out _ _ HF.out hb)
          refine hK _ _ (fun _ => HF.out) ?_
          clear hK K hb n
          refine Calm.one (i := 10) (l' := #[true, true, true, true, true, true, true, true, true, true, true, false]) (by kernel_rfl) rfl rfl rfl fun K hK => ?_
          have hc0 := BXa.out.cell0
          have hc1 := BXa.out.cell1
          have hf0 := BXa.out.free 0
          have hf1 := BXa.out.free 1
          go_simp
          replace HF := hide (FP2.out _ ga (.bool s4) (.slice m4 n4 c4) HF.out BXa.out LTa.out)
          replace TA := hide (TA.out.keep (BXa.out.keeps (by simp) (by simp) (.bool s4) (.slice m4 n4 c4)))
          replace TB := hide (TB.out.keep (BXa.out.keeps (by simp) (by simp) (.bool s4) (.slice m4 n4 c4)))
          replace BXb := hide (BXb.out.other (C := ga) (by first | exact Nat.ne_of_lt LTab.out | exact Nat.ne_of_gt LTba.out) (.bool s4) (.slice m4 n4 c4))
          replace BXa := hide (BXa.out.put (.bool s4) (.slice m4 n4 c4))
          refine hK _ _ (fun _ => HF.out) ?_
          clear hK K hc0 hf0 hc1 hf1
          generalize ((u4.setCell ⟨ga, 0, none⟩ (.bool s4)).setCell ⟨ga, 1, none⟩ (.slice m4 n4 c4)) = ws10 at *
          refine Calm.one (i := 11) (l' := #[true, true, true, true, true, true, true, true, true, true, true, true]) (by kernel_rfl) rfl rfl rfl fun K hK => ?_
          have hc0 := BXb.out.cell0
          have hc1 := BXb.out.cell1
          have hf0 := BXb.out.free 0
          have hf1 := BXb.out.free 1
          go_simp
          replace HF := hide (FP2.out _ gb (.bool s5) (.slice m5 n5 c5) HF.out BXb.out LTb.out)
          replace TA := hide (TA.out.keep (BXb.out.keeps (by simp) (by simp) (.bool s5) (.slice m5 n5 c5)))
          replace TB := hide (TB.out.keep (BXb.out.keeps (by simp) (by simp) (.bool s5) (.slice m5 n5 c5)))
          replace BXa := hide (BXa.out.other (C := gb) (by first | exact Nat.ne_of_lt LTba.out | exact Nat.ne_of_gt LTab.out) (.bool s5) (.slice m5 n5 c5))
          replace BXb := hide (BXb.out.put (.bool s5) (.slice m5 n5 c5))
          refine hK _ _ (fun _ => HF.out) ?_
          clear hK K hc0 hf0 hc1 hf1
          generalize ((ws10.setCell ⟨gb, 0, none⟩ (.bool s5)).setCell ⟨gb, 1, none⟩ (.slice m5 n5 c5)) = ws11 at *
          refine Calm.done (by kernel_rfl) ?_
          have h := FU.out _ HF.out
          go_wp2
          go_meet
          case rel => exact ⟨ga, s4, m4, n4, c4, gb, s5, m5, n5, c5, rfl, rfl, ⟨LTa.out, LTb.out, by first | exact Nat.ne_of_lt LTab.out | exact Nat.ne_of_gt LTba.out⟩, h.1, h.2.1, h.2.2.1, h.2.2.2.1, h.2.2.2.2.1, h.2.2.2.2.2.1, h.2.2.2.2.2.2.1, h.2.2.2.2.2.2.2, BXa.out, BXb.out, TA.out, TB.out⟩
    · go_simp
      have al := below_alloc wc1d (.cells #[.bool false, .slice none 0 0] 25)
      have BXa := hide (Box.new wc1d (.bool false) (.slice none 0 0))
      have LTa := hide (FL.out _ HF.out)
      replace HF := hide (FS.out _ _ HF.out al)
      refine hK _ _ (fun _ => HF.out) ?_
      clear hK K al
      generalize wc1d.alloc (.cells #[.bool false, .slice none 0 0] 25) = wza at *
      generalize wc1d.heap.size = ga at *
      refine Calm.two (i := 1) (j := 9) (l := #[true, true, true, false, true, false, true, false, true, false, false, false]) (l' := #[true, false, true, false, true, false, true, false, true, true, false, false]) (by kernel_rfl) rfl rfl rfl rfl rfl rfl (fun K hK => ?_) (fun K hK => ?_)
      · go_simp
        refine (den_any _ x _ (FU.out _ HF.out).2.2.2.2.1).mono ?_
        rintro e u1 ⟨v, rfl, n, hb⟩
        replace BXa := hide (BXa.out.step hb)
        have T1 := hide (n)
        replace HF := hide (FS.out _ _ HF.out hb)
        refine hK _ _ (fun _ => HF.out) ?_
        clear hK K hb n
        refine Calm.two (i := 3) (j := 9) (l := #[true, true, true, true, true, false, true, false, true, false, false, false]) (l' := #[true, true, true, false, true, false, true, false, true, true, false, false]) (by kernel_rfl) rfl rfl rfl rfl rfl rfl (fun K hK => ?_) (fun K hK => ?_)
        · go_simp
          refine (quotient_any _ _ (x.den : Int) (gdn x y) _ T1.out (FU.out _ HF.out).2.2.2.2.2.2.2 (SzI.len HX.out.den (by decide)) (SzI.len SG.out (by decide)) HG0.out).mono ?_
          rintro e u2 ⟨v, rfl, n, hb⟩
          obtain ⟨s4, m4, n4, c4, rfl, n⟩ := n.cells
          clear T1
          replace BXa := hide (BXa.out.step hb)
          have TA := hide (n)
          replace HF := hide (FS.out _ _ HF.out hb)
          refine hK _ _ (fun _ => HF.out) ?_
          clear hK K hb n
          refine Calm.two (i := 5) (j := 9) (l := #[true, true, true, true, true, true, true, false, true, false, false, false]) (l' := #[true, true, true, true, true, false, true, false, true, true, false, false]) (by kernel_rfl) rfl rfl rfl rfl rfl rfl (fun K hK => ?_) (fun K hK => ?_)
          · go_simp
            refine (den_any _ y _ (FU.out _ HF.out).2.2.2.2.2.1).mono ?_
            rintro e u3 ⟨v, rfl, n, hb⟩
            replace TA := hide (TA.out.below (hb))
            replace BXa := hide (BXa.out.step hb)
            have T2 := hide (n)
            replace HF := hide (FS.out _ _ HF.out hb)
            refine hK _ _ (fun _ => HF.out) ?_
            clear hK K hb n
            refine Calm.two (i := 7) (j := 9) (l := #[true, true, true, true, true, true, true, true, true, false, false, false]) (l' := #[true, true, true, true, true, true, true, false, true, true, false, false]) (by kernel_rfl) rfl rfl rfl rfl rfl rfl (fun K hK => ?_) (fun K hK => ?_)
            · go_simp
              refine (quotient_any _ _ (y.den : Int) (gdn x y) _ T2.out (FU.out _ HF.out).2.2.2.2.2.2.2 (SzI.len HY.out.den (by decide)) (SzI.len SG.out (by decide)) HG0.out).mono ?_
              rintro e u4 ⟨v, rfl, n, hb⟩
              obtain ⟨s5, m5, n5, c5, rfl, n⟩ := n.cells
              replace TA := hide (TA.out.below (hb))
              clear T2
              replace BXa := hide (BXa.out.step hb)
              have TB := hide (n)
              replace HF := hide (FS.out _ _ HF.out hb)
              refine hK _ _ (fun _ => HF.out) ?_
              clear hK K hb n
              refine Calm.one (i := 9) (l' := #[true, true, true, true, true, true, true, true, true, true, false, false]) (by kernel_rfl) rfl rfl rfl fun K hK => ?_
              go_simp
              have al := below_alloc u4 (.cells #[.bool false, .slice none 0 0] 25)
              replace TA := hide (TA.out.below (al))
              replace TB := hide (TB.out.below (al))
              have LTab := hide (BXa.out.lt)
              replace BXa := hide (BXa.out.step al)
              have BXb := hide (Box.new u4 (.bool false) (.slice none 0 0))
              have LTb := hide (FL.out _ HF.out)
              replace HF := hide (FS.out _ _ HF.out al)
              refine hK _ _ (fun _ => HF.out) ?_
              clear hK K al
              generalize u4.alloc (.cells #[.bool false, .slice none 0 0] 25) = wzb at *
              generalize u4.heap.size = gb at *
              refine Calm.one (i := 10) (l' := #[true, true, true, true, true, true, true, true, true, true, true, false]) (by kernel_rfl) rfl rfl rfl fun K hK => ?_
              have hc0 := BXa.out.cell0
              have hc1 := BXa.out.cell1
              have hf0 := BXa.out.free 0
              have hf1 := BXa.out.free 1
              go_simp
              replace HF := hide (FP2.out _ ga (.bool s4) (.slice m4 n4 c4) HF.out BXa.out LTa.out)
              replace TA := hide (TA.out.keep (BXa.out.keeps (by simp) (by simp) (.bool s4) (.slice m4 n4 c4)))
              replace TB := hide (TB.out.keep (BXa.out.keeps (by simp) (by simp) (.bool s4) (.slice m4 n4 c4)))
              replace BXb := hide (BXb.out.other (C := ga) (by first | exact Nat.ne_of_lt LTab.out | exact Nat.ne_of_gt LTba.out) (.bool s4) (.slice m4 n4 c4))
              replace BXa := hide (BXa.out.put (.bool s4) (.slice m4 n4 c4))
              refine hK _ _ (fun _ => HF.out) ?_
              clear hK K hc0 hf0 hc1 hf1
              generalize ((wzb.setCell ⟨ga, 0, none⟩ (.bool s4)).setCell ⟨ga, 1, none⟩ (.slice m4 n4 c4)) = ws10 at *
              refine Calm.one (i := 11) (l' := #[true, true, true, true, true, true, true, true, true, true, true, true]) (by kernel_rfl) rfl rfl rfl fun K hK => ?_
              have hc0 := BXb.out.cell0
              have hc1 := BXb.out.cell1
              have hf0 := BXb.out.free 0
              have hf1 := BXb.out.free 1
              go_simp
              replace HF := hide (FP2.out _ gb (.bool s5) (.slice m5 n5 c5) HF.out BXb.out LTb.out)
              replace TA := hide (TA.out.keep (BXb.out.keeps (by simp) (by simp) (.bool s5) (.slice m5 n5 c5)))
              replace TB := hide (TB.out.keep (BXb.out.keeps (by simp) (by simp) (.bool s5) (.slice m5 n5 c5)))
              replace BXa := hide (BXa.out.other (C := gb) (by first | exact Nat.ne_of_lt LTba.out | exact Nat.ne_of_gt LTab.out) (.bool s5) (.slice m5 n5 c5))
              replace BXb := hide (BXb.out.put (.bool s5) (.slice m5 n5 c5))
              refine hK _ _ (fun _ => HF.out) ?_
              clear hK K hc0 hf0 hc1 hf1
              generalize ((ws10.setCell ⟨gb, 0, none⟩ (.bool s5)).setCell ⟨gb, 1, none⟩ (.slice m5 n5 c5)) = ws11 at *
              refine Calm.done (by kernel_rfl) ?_
              have h := FU.out _ HF.out
              go_wp2
              go_meet
              case rel => exact ⟨ga, s4, m4, n4, c4, gb, s5, m5, n5, c5, rfl, rfl, ⟨LTa.out, LTb.out, by first | exact Nat.ne_of_lt LTab.out | exact Nat.ne_of_gt LTba.out⟩, h.1, h.2.1, h.2.2.1, h.2.2.2.1, h.2.2.2.2.1, h.2.2.2.2.2.1, h.2.2.2.2.2.2.1, h.2.2.2.2.2.2.2, BXa.out, BXb.out, TA.out, TB.out⟩
            · go_simp
              have al := below_alloc u3 (.cells #[.bool false, .slice none 0 0] 25)
              replace TA := hide (TA.out.below (al))
              replace T2 := hide (T2.out.below (al))
              have LTab := hide (BXa.out.lt)
              replace BXa := hide (BXa.out.step al)
              have BXb := hide (Box.new u3 (.bool false) (.slice none 0 0))
              have LTb := hide (FL.out _ HF.out)
              replace HF := hide (FS.out _ _ HF.out al)
              refine hK _ _ (fun _ => HF.out) ?_
              clear hK K al
              generalize u3.alloc (.cells #[.bool false, .slice none 0 0] 25) = wzb at *
              generalize u3.heap.size = gb at *
              refine Calm.one (i := 7) (l' := #[true, true, true, true, true, true, true, true, true, true, false, false]) (by kernel_rfl) rfl rfl rfl fun K hK => ?_
              go_simp
              refine (quotient_any _ _ (y.den : Int) (gdn x y) _ T2.out (FU.out _ HF.out).2.2.2.2.2.2.2 (SzI.len HY.out.den (by decide)) (SzI.len SG.out (by decide)) HG0.out).mono ?_
              rintro e u4 ⟨v, rfl, n, hb⟩
              obtain ⟨s5, m5, n5, c5, rfl, n⟩ := n.cells
              replace TA := hide (TA.out.below (hb))
              clear T2
              replace BXa := hide (BXa.out.step hb)
              replace BXb := hide (BXb.out.step hb)
              have TB := hide (n)
              replace HF := hide (FS.out _ _ HF.out hb)
              refine hK _ _ (fun _ => HF.out) ?_
              clear hK K hb n
              refine Calm.one (i := 10) (l' := #[true, true, true, true, true, true, true, true, true, true, true, false]) (by kernel_rfl) rfl rfl rfl fun K hK => ?_
              have hc0 := BXa.out.cell0
              have hc1 := BXa.out.cell1
              have hf0 := BXa.out.free 0
              have hf1 := BXa.out.free 1
              go_simp
              replace HF := hide (FP2.out _ ga (.bool s4) (.slice m4 n4 c4) HF.out BXa.out LTa.out)
              replace TA := hide (TA.out.keep (BXa.out.keeps (by simp) (by simp) (.bool s4) (.slice m4 n4 c4)))
              replace TB := hide (TB.out.keep (BXa.out.keeps (by simp) (by simp) (.bool s4) (.slice m4 n4 c4)))
              replace BXb := hide (BXb.out.other (C := ga) (by first | exact Nat.ne_of_lt LTab.out | exact Nat.ne_of_gt LTba.out) (.bool s4) (.slice m4 n4 c4))
              replace BXa := hide (BXa.out.put (.bool s4) (.slice m4 n4 c4))
              refine hK _ _ (fun _ => HF.out) ?_
              clear hK K hc0 hf0 hc1 hf1
              generalize ((u4.setCell ⟨ga, 0, none⟩ (.bool s4)).setCell ⟨ga, 1, none⟩ (.slice m4 n4 c4)) = ws10 at *
              refine Calm.one (i := 11) (l' := #[true, true, true, true, true, true, true, true, true, true, true, true]) (by kernel_rfl) rfl rfl rfl fun K hK => ?_
              have hc0 := BXb.out.cell0
              have hc1 := BXb.out.cell1
              have hf0 := BXb.out.free 0
              have hf1 := BXb.out.free 1
              go_simp
              replace HF := hide (FP2.out _ gb (.bool s5) (.slice m5 n5 c5) HF.out BXb.out LTb.out)
              replace TA := hide (TA.out.keep (BXb.out.keeps (by simp) (by simp) (.bool s5) (.slice m5 n5 c5)))
              replace TB := hide (TB.out.keep (BXb.out.keeps (by simp) (by simp) (.bool s5) (.slice m5 n5 c5)))
              replace BXa := hide (BXa.out.other (C := gb) (by first | exact Nat.ne_of_lt LTba.out | exact Nat.ne_of_gt LTab.out) (.bool s5) (.slice m5 n5 c5))
              replace BXb := hide (BXb.out.put (.bool s5) (.slice m5 n5 c5))
              refine hK _ _ (fun _ => HF.out) ?_
              clear hK K hc0 hf0 hc1 hf1
              generalize ((ws10.setCell ⟨gb, 0, none⟩ (.bool s5)).setCell ⟨gb, 1, none⟩ (.slice m5 n5 c5)) = ws11 at *
              refine Calm.done (by kernel_rfl) ?_
              have h := FU.out _ HF.out
              go_wp2
              go_meet
              case rel => exact ⟨ga, s4, m4, n4, c4, gb, s5, m5, n5, c5, rfl, rfl, ⟨LTa.out, LTb.out, by first | exact Nat.ne_of_lt LTab.out | exact Nat.ne_of_gt LTba.out⟩, h.1, h.2.1, h.2.2.1, h.2.2.2.1, h.2.2.2.2.1, h.2.2.2.2.2.1, h.2.2.2.2.2.2.1, h.2.2.2.2.2.2.2, BXa.out, BXb.out, TA.out, TB.out⟩
          · go_simp
            have al := below_alloc u2 (.cells #[.bool false, .slice none 0 0] 25)
            replace TA := hide (TA.out.below (al))
            have LTab := hide (BXa.out.lt)
            replace BXa := hide (BXa.out.step al)
            have BXb := hide (Box.new u2 (.bool false) (.slice none 0 0))
            have LTb := hide (FL.out _ HF.out)
            replace HF := hide (FS.out _ _ HF.out al)
            refine hK _ _ (fun _ => HF.out) ?_
            clear hK K al
            generalize u2.alloc (.cells #[.bool false, .slice none 0 0] 25) = wzb at *
            generalize u2.heap.size = gb at *
            refine Calm.one (i := 5) (l' := #[true, true, true, true, true, true, true, false, true, true, false, false]) (by kernel_rfl) rfl rfl rfl fun K hK => ?_
            go_simp
            refine (den_any _ y _ (FU.out _ HF.out).2.2.2.2.2.1).mono ?_
            rintro e u3 ⟨v, rfl, n, hb⟩
            replace TA := hide (TA.out.below (hb))
            replace BXa := hide (BXa.out.step hb)
            replace BXb := hide (BXb.out.step hb)
            have T2 := hide (n)
            replace HF := hide (FS.out _ _ HF.out hb)
            refine hK _ _ (fun _ => HF.out) ?_
            clear hK K hb n
            refine Calm.one (i := 7) (l' := #[true, true, true, true, true, true, true, true, true, true, false, false]) (by kernel_rfl) rfl rfl rfl fun K hK => ?_
            go_simp
            refine (quotient_any _ _ (y.den : Int) (gdn x y) _ T2.out (FU.out _ HF.out).2.2.2.2.2.2.2 (SzI.len HY.out.den (by decide)) (SzI.len SG.out (by decide)) HG0.out).mono ?_
            rintro e u4 ⟨v, rfl, n, hb⟩
            obtain ⟨s5, m5, n5, c5, rfl, n⟩ := n.cells
            replace TA := hide (TA.out.below (hb))
            clear T2
            replace BXa := hide (BXa.out.step hb)
            replace BXb := hide (BXb.out.step hb)
            have TB := hide (n)
            replace HF := hide (FS.out _ _ HF.out hb)
            refine hK _ _ (fun _ => HF.out) ?_
            clear hK K hb n
            refine Calm.one (i := 10) (l' := #[true, true, true, true, true, true, true, true, true, true, true, false]) (by kernel_rfl) rfl rfl rfl fun K hK => ?_
            have hc0 := BXa.out.cell0
            have hc1 := BXa.out.cell1
            have hf0 := BXa.out.free 0
            have hf1 := BXa.out.free 1
            go_simp
            replace HF := hide (FP2.out _ ga (.bool s4) (.slice m4 n4 c4) HF.out BXa.out LTa.out)
            replace TA := hide (TA.out.keep (BXa.out.keeps (by simp) (by simp) (.bool s4) (.slice m4 n4 c4)))
            replace TB := hide (TB.out.keep (BXa.out.keeps (by simp) (by simp) (.bool s4) (.slice m4 n4 c4)))
            replace BXb := hide (BXb.out.other (C := ga) (by first | exact Nat.ne_of_lt LTab.out | exact Nat.ne_of_gt LTba.out) (.bool s4) (.slice m4 n4 c4))
            replace BXa := hide (BXa.out.put (.bool s4) (.slice m4 n4 c4))
            refine hK _ _ (fun _ => HF.out) ?_
            clear hK K hc0 hf0 hc1 hf1
            generalize ((u4.setCell ⟨ga, 0, none⟩ (.bool s4)).setCell ⟨ga, 1, none⟩ (.slice m4 n4 c4)) = ws10 at *
            refine Calm.one (i := 11) (l' := #[true, true, true, true, true, true, true, true, true, true, true, true]) (by kernel_rfl) rfl rfl rfl fun K hK => ?_
            have hc0 := BXb.out.cell0
            have hc1 := BXb.out.cell1
            have hf0 := BXb.out.free 0
            have hf1 := BXb.out.free 1
            go_simp
            replace HF := hide (FP2.out _ gb (.bool s5) (.slice m5 n5 c5) HF.out BXb.out LTb.out)
            replace TA := hide (TA.out.keep (BXb.out.keeps (by simp) (by simp) (.bool s5) (.slice m5 n5 c5)))
            replace TB := hide (TB.out.keep (BXb.out.keeps (by simp) (by simp) (.bool s5) (.slice m5 n5 c5)))
            replace BXa := hide (BXa.out.other (C := gb) (by first | exact Nat.ne_of_lt LTba.out | exact Nat.ne_of_gt LTab.out) (.bool s5) (.slice m5 n5 c5))
            replace BXb := hide (BXb.out.put (.bool s5) (.slice m5 n5 c5))
            refine hK _ _ (fun _ => HF.out) ?_
            clear hK K hc0 hf0 hc1 hf1
            generalize ((ws10.setCell ⟨gb, 0, none⟩ (.bool s5)).setCell ⟨gb, 1, none⟩ (.slice m5 n5 c5)) = ws11 at *
            refine Calm.done (by kernel_rfl) ?_
            have h := FU.out _ HF.out
            go_wp2
            go_meet
            case rel => exact ⟨ga, s4, m4, n4, c4, gb, s5, m5, n5, c5, rfl, rfl, ⟨LTa.out, LTb.out, by first | exact Nat.ne_of_lt LTab.out | exact Nat.ne_of_gt LTba.out⟩, h.1, h.2.1, h.2.2.1, h.2.2.2.1, h.2.2.2.2.1, h.2.2.2.2.2.1, h.2.2.2.2.2.2.1, h.2.2.2.2.2.2.2, BXa.out, BXb.out, TA.out, TB.out⟩
        · go_simp
          have al := below_alloc u1 (.cells #[.bool false, .slice none 0 0] 25)
          replace T1 := hide (T1.out.below (al))
          have LTab := hide (BXa.out.lt)
          replace BXa := hide (BXa.out.step al)
          have BXb := hide (Box.new u1 (.bool false) (.slice none 0 0))
          have LTb := hide (FL.out _ HF.out)
          replace HF := hide (FS.out _ _ HF.out al)
          refine hK _ _ (fun _ => HF.out) ?_
          clear hK K al
          generalize u1.alloc (.cells #[.bool false, .slice none 0 0] 25) = wzb at *
          generalize u1.heap.size = gb at *
          refine Calm.one (i := 3) (l' := #[true, true, true, true, true, false, true, false, true, true, false, false]) (by kernel_rfl) rfl rfl rfl fun K hK => ?_
          go_simp
          refine (quotient_any _ _ (x.den : Int) (gdn x y) _ T1.out (FU.out _ HF.out).2.2.2.2.2.2.2 (SzI.len HX.out.den (by decide)) (SzI.len SG.out (by decide)) HG0.out).mono ?_
          rintro e u2 ⟨v, rfl, n, hb⟩
          obtain ⟨s4, m4, n4, c4, rfl, n⟩ := n.cells
          clear T1
          replace BXa := hide (BXa.out.step hb)
          replace BXb := hide (BXb.out.step hb)
          have TA := hide (n)
          replace HF := hide (FS.out _ _ HF.out hb)
          refine hK _ _ (fun _ => HF.out) ?_
          clear hK K hb n
          refine Calm.one (i := 5) (l' := #[true, true, true, true, true, true, true, false, true, true, false, false]) (by kernel_rfl) rfl rfl rfl fun K hK => ?_
          go_simp
          refine (den_any _ y _ (FU.out _ HF.out).2.2.2.2.2.1).mono ?_
          rintro e u3 ⟨v, rfl, n, hb⟩
          replace TA := hide (TA.out.below (hb))
          replace BXa := hide (BXa.out.step hb)
          replace BXb := hide (BXb.out.step hb)
          have T2 := hide (n)
          replace HF := hide (FS.out _ _ HF.out hb)
          refine hK _ _ (fun _ => HF.out) ?_
          clear hK K hb n
          refine Calm.one (i := 7) (l' := #[true, true, true, true, true, true, true, true, true, true, false, false]) (by kernel_rfl) rfl rfl rfl fun K hK => ?_
          go_simp
          refine (quotient_any _ _ (y.den : Int) (gdn x y) _ T2.out (FU.out _ HF.out).2.2.2.2.2.2.2 (SzI.len HY.out.den (by decide)) (SzI.len SG.out (by decide)) HG0.out).mono ?_
          rintro e u4 ⟨v, rfl, n, hb⟩
          obtain ⟨s5, m5, n5, c5, rfl, n⟩ := n.cells
          replace TA := hide (TA.out.below (hb))
          clear T2
          replace BXa := hide (BXa.out.step hb)
          replace BXb := hide (BXb.out.step hb)
          have TB := hide (n)
          replace HF := hide (FS.out _ _ HF.out hb)
          refine hK _ _ (fun _ => HF.out) ?_
          clear hK K hb n
          refine Calm.one (i := 10) (l' := #[true, true, true, true, true, true, true, true, true, true, true, false]) (by kernel_rfl) rfl rfl rfl fun K hK => ?_
          have hc0 := BXa.out.cell0
          have hc1 := BXa.out.cell1
          have hf0 := BXa.out.free 0
          have hf1 := BXa.out.free 1
          go_simp
          replace HF := hide (FP2.out _ ga (.bool s4) (.slice m4 n4 c4) HF.out BXa.out LTa.out)
          replace TA := hide (TA.out.keep (BXa.out.keeps (by simp) (by simp) (.bool s4) (.slice m4 n4 c4)))
          replace TB := hide (TB.out.keep (BXa.out.keeps (by simp) (by simp) (.bool s4) (.slice m4 n4 c4)))
          replace BXb := hide (BXb.out.other (C := ga) (by first | exact Nat.ne_of_lt LTab.out | exact Nat.ne_of_gt LTba.out) (.bool s4) (.slice m4 n4 c4))
          replace BXa := hide (BXa.out.put (.bool s4) (.slice m4 n4 c4))
          refine hK _ _ (fun _ => HF.out) ?_
          clear hK K hc0 hf0 hc1 hf1
          generalize ((u4.setCell ⟨ga, 0, none⟩ (.bool s4)).setCell ⟨ga, 1, none⟩ (.slice m4 n4 c4)) = ws10 at *
          refine Calm.one (i := 11) (l' := #[true, true, true, true, true, true, true, true, true, true, true, true]) (by kernel_rfl) rfl rfl rfl fun K hK => ?_
          have hc0 := BXb.out.cell0
          have hc1 := BXb.out.cell1
          have hf0 := BXb.out.free 0
          have hf1 := BXb.out.free 1
          go_simp
          replace HF := hide (FP2.out _ gb (.bool s5) (.slice m5 n5 c5) HF.out BXb.out LTb.out)
          replace TA := hide (TA.out.keep (BXb.out.keeps (by simp) (by simp) (.bool s5) (.slice m5 n5 c5)))
          replace TB := hide (TB.out.keep (BXb.out.keeps (by simp) (by simp) (.bool s5) (.slice m5 n5 c5)))
          replace BXa := hide (BXa.out.other (C := gb) (by first | exact Nat.ne_of_lt LTba.out | exact Nat.ne_of_gt LTab.out) (.bool s5) (.slice m5 n5 c5))
          replace BXb := hide (BXb.out.put (.bool s5) (.slice m5 n5 c5))
          refine hK _ _ (fun _ => HF.out) ?_
          clear hK K hc0 hf0 hc1 hf1
          generalize ((ws10.setCell ⟨gb, 0, none⟩ (.bool s5)).setCell ⟨gb, 1, none⟩ (.slice m5 n5 c5)) = ws11 at *
          refine Calm.done (by kernel_rfl) ?_
          have h := FU.out _ HF.out
          go_wp2
          go_meet
          case rel => exact ⟨ga, s4, m4, n4, c4, gb, s5, m5, n5, c5, rfl, rfl, ⟨LTa.out, LTb.out, by first | exact Nat.ne_of_lt LTab.out | exact Nat.ne_of_gt LTba.out⟩, h.1, h.2.1, h.2.2.1, h.2.2.2.1, h.2.2.2.2.1, h.2.2.2.2.2.1, h.2.2.2.2.2.2.1, h.2.2.2.2.2.2.2, BXa.out, BXb.out, TA.out, TB.out⟩
      · go_simp
        have al := below_alloc wza (.cells #[.bool false, .slice none 0 0] 25)
        have LTab := hide (BXa.out.lt)
        replace BXa := hide (BXa.out.step al)
        have BXb := hide (Box.new wza (.bool false) (.slice none 0 0))
        have LTb := hide (FL.out _ HF.out)
        replace HF := hide (FS.out _ _ HF.out al)
        refine hK _ _ (fun _ => HF.out) ?_
        clear hK K al
        generalize wza.alloc (.cells #[.bool false, .slice none 0 0] 25) = wzb at *
        generalize wza.heap.size = gb at *
        refine Calm.one (i := 1) (l' := #[true, true, true, false, true, false, true, false, true, true, false, false]) (by kernel_rfl) rfl rfl rfl fun K hK => ?_
        go_simp
        refine (den_any _ x _ (FU.out _ HF.out).2.2.2.2.1).mono ?_
        rintro e u1 ⟨v, rfl, n, hb⟩
        replace BXa := hide (BXa.out.step hb)
        replace BXb := hide (BXb.out.step hb)
        have T1 := hide (n)
        replace HF := hide (FS.out _ _ HF.out hb)
        refine hK _ _ (fun _ => HF.out) ?_
        clear hK K hb n
        refine Calm.one (i := 3) (l' := #[true, true, true, true, true, false, true, false, true, true, false, false]) (by kernel_rfl) rfl rfl rfl fun K hK => ?_
        go_simp
        refine (quotient_any _ _ (x.den : Int) (gdn x y) _ T1.out (FU.out _ HF.out).2.2.2.2.2.2.2 (SzI.len HX.out.den (by decide)) (SzI.len SG.out (by decide)) HG0.out).mono ?_
        rintro e u2 ⟨v, rfl, n, hb⟩
        obtain ⟨s4, m4, n4, c4, rfl, n⟩ := n.cells
        clear T1
        replace BXa := hide (BXa.out.step hb)
        replace BXb := hide (BXb.out.step hb)
        have TA := hide (n)
        replace HF := hide (FS.out _ _ HF.out hb)
        refine hK _ _ (fun _ => HF.out) ?_
        clear hK K hb n
        refine Calm.one (i := 5) (l' := #[true, true, true, true, true, true, true, false, true, true, false, false]) (by kernel_rfl) rfl rfl rfl fun K hK => ?_
        go_simp
        refine (den_any _ y _ (FU.out _ HF.out).2.2.2.2.2.1).mono ?_
        rintro e u3 ⟨v, rfl, n, hb⟩
        replace TA := hide (TA.out.below (hb))
        replace BXa := hide (BXa.out.step hb)
        replace BXb := hide (BXb.out.step hb)
        have T2 := hide (n)
        replace HF := hide (FS.out _ _ HF.out hb)
        refine hK _ _ (fun _ => HF.out) ?_
        clear hK K hb n
        refine Calm.one (i := 7) (l' := #[true, true, true, true, true, true, true, true, true, true, false, false]) (by kernel_rfl) rfl rfl rfl fun K hK => ?_
        go_simp
        refine (quotient_any _ _ (y.den : Int) (gdn x y) _ T2.out (FU.out _ HF.out).2.2.2.2.2.2.2 (SzI.len HY.out.den (by decide)) (SzI.len SG.out (by decide)) HG0.out).mono ?_
        rintro e u4 ⟨v, rfl, n, hb⟩
        obtain ⟨s5, m5, n5, c5, rfl, n⟩ := n.cells
        replace TA := hide (TA.out.below (hb))
        clear T2
        replace BXa := hide (BXa.out.step hb)
        replace BXb := hide (BXb.out.step hb)
        have TB := hide (n)
        replace HF := hide (FS.out _ _ HF.out hb)
        refine hK _ _ (fun _ => HF.out) ?_
        clear hK K hb n
        refine Calm.one (i := 10) (l' := #[true, true, true, true, true, true, true, true, true, true, true, false]) (by kernel_rfl) rfl rfl rfl fun K hK => ?_
        have hc0 := BXa.out.cell0
        have hc1 := BXa.out.cell1
        have hf0 := BXa.out.free 0
        have hf1 := BXa.out.free 1
        go_simp
        replace HF := hide (FP2.out _ ga (.bool s4) (.slice m4 n4 c4) HF.out BXa.out LTa.out)
        replace TA := hide (TA.out.keep (BXa.out.keeps (by simp) (by simp) (.bool s4) (.slice m4 n4 c4)))
        replace TB := hide (TB.out.keep (BXa.out.keeps (by simp) (by simp) (.bool s4) (.slice m4 n4 c4)))
        replace BXb := hide (BXb.out.other (C := ga) (by first | exact Nat.ne_of_lt LTab.out | exact Nat.ne_of_gt LTba.out) (.bool s4) (.slice m4 n4 c4))
        replace BXa := hide (BXa.out.put (.bool s4) (.slice m4 n4 c4))
        refine hK _ _ (fun _ => HF.out) ?_
        clear hK K hc0 hf0 hc1 hf1
        generalize ((u4.setCell ⟨ga, 0, none⟩ (.bool s4)).setCell ⟨ga, 1, none⟩ (.slice m4 n4 c4)) = ws10 at *
        refine Calm.one (i := 11) (l' := #[true, true, true, true, true, true, true, true, true, true, true, true]) (by kernel_rfl) rfl rfl rfl fun K hK => ?_
        have hc0 := BXb.out.cell0
        have hc1 := BXb.out.cell1
        have hf0 := BXb.out.free 0
        have hf1 := BXb.out.free 1
        go_simp
        replace HF := hide (FP2.out _ gb (.bool s5) (.slice m5 n5 c5) HF.out BXb.out LTb.out)
        replace TA := hide (TA.out.keep (BXb.out.keeps (by simp) (by simp) (.bool s5) (.slice m5 n5 c5)))
        replace TB := hide (TB.out.keep (BXb.out.keeps (by simp) (by simp) (.bool s5) (.slice m5 n5 c5)))
        replace BXa := hide (BXa.out.other (C := gb) (by first | exact Nat.ne_of_lt LTba.out | exact Nat.ne_of_gt LTab.out) (.bool s5) (.slice m5 n5 c5))
        replace BXb := hide (BXb.out.put (.bool s5) (.slice m5 n5 c5))
        refine hK _ _ (fun _ => HF.out) ?_
        clear hK K hc0 hf0 hc1 hf1
        generalize ((ws10.setCell ⟨gb, 0, none⟩ (.bool s5)).setCell ⟨gb, 1, none⟩ (.slice m5 n5 c5)) = ws11 at *
        refine Calm.done (by kernel_rfl) ?_
        have h := FU.out _ HF.out
        go_wp2
        go_meet
        case rel => exact ⟨ga, s4, m4, n4, c4, gb, s5, m5, n5, c5, rfl, rfl, ⟨LTa.out, LTb.out, by first | exact Nat.ne_of_lt LTab.out | exact Nat.ne_of_gt LTba.out⟩, h.1, h.2.1, h.2.2.1, h.2.2.2.1, h.2.2.2.2.1, h.2.2.2.2.2.1, h.2.2.2.2.2.2.1, h.2.2.2.2.2.2.2, BXa.out, BXb.out, TA.out, TB.out⟩
    · go_simp
      have al := below_alloc wc1d (.cells #[.bool false, .slice none 0 0] 25)
      have BXb := hide (Box.new wc1d (.bool false) (.slice none 0 0))
      have LTb := hide (FL.out _ HF.out)
      replace HF := hide (FS.out _ _ HF.out al)
      refine hK _ _ (fun _ => HF.out) ?_
      clear hK K al
      generalize wc1d.alloc (.cells #[.bool false, .slice none 0 0] 25) = wzb at *
      generalize wc1d.heap.size = gb at *
      refine Calm.two (i := 1) (j := 8) (l := #[true, true, true, false, true, false, true, false, false, true, false, false]) (l' := #[true, false, true, false, true, false, true, false, true, true, false, false]) (by kernel_rfl) rfl rfl rfl rfl rfl rfl (fun K hK => ?_) (fun K hK => ?_)
      · go_simp
        refine (den_any _ x _ (FU.out _ HF.out).2.2.2.2.1).mono ?_
        rintro e u1 ⟨v, rfl, n, hb⟩
        replace BXb := hide (BXb.out.step hb)
        have T1 := hide (n)
        replace HF := hide (FS.out _ _ HF.out hb)
        refine hK _ _ (fun _ => HF.out) ?_
        clear hK K hb n
        refine Calm.two (i := 3) (j := 8) (l := #[true, true, true, true, true, false, true, false, false, true, false, false]) (l' := #[true, true, true, false, true, false, true, false, true, true, false, false]) (by kernel_rfl) rfl rfl rfl rfl rfl rfl (fun K hK => ?_) (fun K hK => ?_)
        · go_simp
          refine (quotient_any _ _ (x.den : Int) (gdn x y) _ T1.out (FU.out _ HF.out).2.2.2.2.2.2.2 (SzI.len HX.out.den (by decide)) (SzI.len SG.out (by decide)) HG0.out).mono ?_
          rintro e u2 ⟨v, rfl, n, hb⟩
          obtain ⟨s4, m4, n4, c4, rfl, n⟩ := n.cells
          clear T1
          replace BXb := hide (BXb.out.step hb)
          have TA := hide (n)
          replace HF := hide (FS.out _ _ HF.out hb)
          refine hK _ _ (fun _ => HF.out) ?_
          clear hK K hb n
          refine Calm.two (i := 5) (j := 8) (l := #[true, true, true, true, true, true, true, false, false, true, false, false]) (l' := #[true, true, true, true, true, false, true, false, true, true, false, false]) (by kernel_rfl) rfl rfl rfl rfl rfl rfl (fun K hK => ?_) (fun K hK => ?_)
          · go_simp
            refine (den_any _ y _ (FU.out _ HF.out).2.2.2.2.2.1).mono ?_
            rintro e u3 ⟨v, rfl, n, hb⟩
            replace TA := hide (TA.out.below (hb))
            replace BXb := hide (BXb.out.step hb)
            have T2 := hide (n)
            replace HF := hide (FS.out _ _ HF.out hb)
            refine hK _ _ (fun _ => HF.out) ?_
            clear hK K hb n
            refine Calm.two (i := 7) (j := 8) (l := #[true, true, true, true, true, true, true, true, false, true, false, false]) (l' := #[true, true, true, true, true, true, true, false, true, true, false, false]) (by kernel_rfl) rfl rfl rfl rfl rfl rfl (fun K hK => ?_) (fun K hK => ?_)
            · go_simp
              refine (quotient_any _ _ (y.den : Int) (gdn x y) _ T2.out (FU.out _ HF.out).2.2.2.2.2.2.2 (SzI.len HY.out.den (by decide)) (SzI.len SG.out (by decide)) HG0.out).mono ?_
              rintro e u4 ⟨v, rfl, n, hb⟩
              obtain ⟨s5, m5, n5, c5, rfl, n⟩ := n.cells
              replace TA := hide (TA.out.below (hb))
              clear T2
              replace BXb := hide (BXb.out.step hb)
              have TB := hide (n)
              replace HF := hide (FS.out _ _ HF.out hb)
              refine hK _ _ (fun _ => HF.out) ?_
              clear hK K hb n
              refine Calm.one (i := 8) (l' := #[true, true, true, true, true, true, true, true, true, true, false, false]) (by kernel_rfl) rfl rfl rfl fun K hK => ?_
              go_simp
              have al := below_alloc u4 (.cells #[.bool false, .slice none 0 0] 25)
              replace TA := hide (TA.out.below (al))
              replace TB := hide (TB.out.below (al))
              have LTba := hide (BXb.out.lt)
              replace BXb := hide (BXb.out.step al)
              have BXa := hide (Box.new u4 (.bool false) (.slice none 0 0))
              have LTa := hide (FL.out _ HF.out)
              replace HF := hide (FS.out _ _ HF.out al)
              refine hK _ _ (fun _ => HF.out) ?_
              clear hK K al
              generalize u4.alloc (.cells #[.bool false, .slice none 0 0] 25) = wza at *
              generalize u4.heap.size = ga at *
              refine Calm.one (i := 10) (l' := #[true, true, true, true, true, true, true, true, true, true, true, false]) (by kernel_rfl) rfl rfl rfl fun K hK => ?_
              have hc0 := BXa.out.cell0
              have hc1 := BXa.out.cell1
              have hf0 := BXa.out.free 0
              have hf1 := BXa.out.free 1
              go_simp
              replace HF := hide (FP2.out _ ga (.bool s4) (.slice m4 n4 c4) HF.out BXa.out LTa.out)
              replace TA := hide (TA.out.keep (BXa.out.keeps (by simp) (by simp) (.bool s4) (.slice m4 n4 c4)))
              replace TB := hide (TB.out.keep (BXa.out.keeps (by simp) (by simp) (.bool s4) (.slice m4 n4 c4)))
              replace BXb := hide (BXb.out.other (C := ga) (by first | exact Nat.ne_of_lt LTab.out | exact Nat.ne_of_gt LTba.out) (.bool s4) (.slice m4 n4 c4))
              replace BXa := hide (BXa.out.put (.bool s4) (.slice m4 n4 c4))
              refine hK _ _ (fun _ => HF.out) ?_
              clear hK K hc0 hf0 hc1 hf1
              generalize ((wza.setCell ⟨ga, 0, none⟩ (.bool s4)).setCell ⟨ga, 1, none⟩ (.slice m4 n4 c4)) = ws10 at *
              refine Calm.one (i := 11) (l' := #[true, true, true, true, true, true, true, true, true, true, true, true]) (by kernel_rfl) rfl rfl rfl fun K hK => ?_
              have hc0 := BXb.out.cell0
              have hc1 := BXb.out.cell1
              have hf0 := BXb.out.free 0
              have hf1 := BXb.out.free 1
              go_simp
              replace HF := hide (FP2.out _ gb (.bool s5) (.slice m5 n5 c5) HF.out BXb.out LTb.out)
              replace TA := hide (TA.out.keep (BXb.out.keeps (by simp) (by simp) (.bool s5) (.slice m5 n5 c5)))
              replace TB := hide (TB.out.keep (BXb.out.keeps (by simp) (by simp) (.bool s5) (.slice m5 n5 c5)))
              replace BXa := hide (BXa.out.other (C := gb) (by first | exact Nat.ne_of_lt LTba.out | exact Nat.ne_of_gt LTab.out) (.bool s5) (.slice m5 n5 c5))
              replace BXb := hide (BXb.out.put (.bool s5) (.slice m5 n5 c5))
              refine hK _ _ (fun _ => HF.out) ?_
              clear hK K hc0 hf0 hc1 hf1
              generalize ((ws10.setCell ⟨gb, 0, none⟩ (.bool s5)).setCell ⟨gb, 1, none⟩ (.slice m5 n5 c5)) = ws11 at *
              refine Calm.done (by kernel_rfl) ?_
              have h := FU.out _ HF.out
              go_wp2
              go_meet
              case rel => exact ⟨ga, s4, m4, n4, c4, gb, s5, m5, n5, c5, rfl, rfl, ⟨LTa.out, LTb.out, by first | exact Nat.ne_of_lt LTab.out | exact Nat.ne_of_gt LTba.out⟩, h.1, h.2.1, h.2.2.1, h.2.2.2.1, h.2.2.2.2.1, h.2.2.2.2.2.1, h.2.2.2.2.2.2.1, h.2.2.2.2.2.2.2, BXa.out, BXb.out, TA.out, TB.out⟩
            · go_simp
              have al := below_alloc u3 (.cells #[.bool false, .slice none 0 0] 25)
              replace TA := hide (TA.out.below (al))
              replace T2 := hide (T2.out.below (al))
              have LTba := hide (BXb.out.lt)
              replace BXb := hide (BXb.out.step al)
              have BXa := hide (Box.new u3 (.bool false) (.slice none 0 0))
              have LTa := hide (FL.out _ HF.out)
              replace HF := hide (FS.out _ _ HF.out al)
              refine hK _ _ (fun _ => HF.out) ?_
              clear hK K al
              generalize u3.alloc (.cells #[.bool false, .slice none 0 0] 25) = wza at *
              generalize u3.heap.size = ga at *
              refine Calm.one (i := 7) (l' := #[true, true, true, true, true, true, true, true, true, true, false, false]) (by kernel_rfl) rfl rfl rfl fun K hK => ?_
              go_simp
              refine (quotient_any _ _ (y.den : Int) (gdn x y) _ T2.out (FU.out _ HF.out).2.2.2.2.2.2.2 (SzI.len HY.out.den (by decide)) (SzI.len SG.out (by decide)) HG0.out).mono ?_
              rintro e u4 ⟨v, rfl, n, hb⟩
              obtain ⟨s5, m5, n5, c5, rfl, n⟩ := n.cells
              replace TA := hide (TA.out.below (hb))
              clear T2
              replace BXb := hide (BXb.out.step hb)
              replace BXa := hide (BXa.out.step hb)
              have TB := hide (n)
              replace HF := hide (FS.out _ _ HF.out hb)
              refine hK _ _ (fun _ => HF.out) ?_
              clear hK K hb n
              refine Calm.one (i := 10) (l' := #[true, true, true, true, true, true, true, true, true, true, true, false]) (by kernel_rfl) rfl rfl rfl fun K hK => ?_
              have hc0 := BXa.out.cell0
              have hc1 := BXa.out.cell1
              have hf0 := BXa.out.free 0
              have hf1 := BXa.out.free 1
              go_simp
              replace HF := hide (FP2.out _ ga (.bool s4) (.slice m4 n4 c4) HF.out BXa.out LTa.out)
              replace TA := hide (TA.out.keep (BXa.out.keeps (by simp) (by simp) (.bool s4) (.slice m4 n4 c4)))
              replace TB := hide (TB.out.keep (BXa.out.keeps (by simp) (by simp) (.bool s4) (.slice m4 n4 c4)))
              replace BXb := hide (BXb.out.other (C := ga) (by first | exact Nat.ne_of_lt LTab.out | exact Nat.ne_of_gt LTba.out) (.bool s4) (.slice m4 n4 c4))
              replace BXa := hide (BXa.out.put (.bool s4) (.slice m4 n4 c4))
              refine hK _ _ (fun _ => HF.out) ?_
              clear hK K hc0 hf0 hc1 hf1
              generalize ((u4.setCell ⟨ga, 0, none⟩ (.bool s4)).setCell ⟨ga, 1, none⟩ (.slice m4 n4 c4)) = ws10 at *
              refine Calm.one (i := 11) (l' := #[true, true, true, true, true, true, true, true, true, true, true, true]) (by kernel_rfl) rfl rfl rfl fun K hK => ?_
              have hc0 := BXb.out.cell0
              have hc1 := BXb.out.cell1
              have hf0 := BXb.out.free 0
              have hf1 := BXb.out.free 1
              go_simp
              replace HF := hide (FP2.out _ gb (.bool s5) (.slice m5 n5 c5) HF.out BXb.out LTb.out)
              replace TA := hide (TA.out.keep (BXb.out.keeps (by simp) (by simp) (.bool s5) (.slice m5 n5 c5)))
              replace TB := hide (TB.out.keep (BXb.out.keeps (by simp) (by simp) (.bool s5) (.slice m5 n5 c5)))
              replace BXa := hide (BXa.out.other (C := gb) (by first | exact Nat.ne_of_lt LTba.out | exact Nat.ne_of_gt LTab.out) (.bool s5) (.slice m5 n5 c5))
              replace BXb := hide (BXb.out.put (.bool s5) (.slice m5 n5 c5))
              refine hK _ _ (fun _ => HF.out) ?_
              clear hK K hc0 hf0 hc1 hf1
              generalize ((ws10.setCell ⟨gb, 0, none⟩ (.bool s5)).setCell ⟨gb, 1, none⟩ (.slice m5 n5 c5)) = ws11 at *
              refine Calm.done (by kernel_rfl) ?_
              have h := FU.out _ HF.out
              go_wp2
              go_meet
              case rel => exact ⟨ga, s4, m4, n4, c4, gb, s5, m5, n5, c5, rfl, rfl, ⟨LTa.out, LTb.out, by first | exact Nat.ne_of_lt LTab.out | exact Nat.ne_of_gt LTba.out⟩, h.1, h.2.1, h.2.2.1, h.2.2.2.1, h.2.2.2.2.1, h.2.2.2.2.2.1, h.2.2.2.2.2.2.1, h.2.2.2.2.2.2.2, BXa.out, BXb.out, TA.out, TB.out⟩
          · go_simp
            have al := below_alloc u2 (.cells #[.bool false, .slice none 0 0] 25)
            replace TA := hide (TA.out.below (al))
            have LTba := hide (BXb.out.lt)
            replace BXb := hide (BXb.out.step al)
            have BXa := hide (Box.new u2 (.bool false) (.slice none 0 0))
            have LTa := hide (FL.out _ HF.out)
            replace HF := hide (FS.out _ _ HF.out al)
            refine hK _ _ (fun _ => HF.out) ?_
            clear hK K al
            generalize u2.alloc (.cells #[.bool false, .slice none 0 0] 25) = wza at *
            generalize u2.heap.size = ga at *
            refine Calm.one (i := 5) (l' := #[true, true, true, true, true, true, true, false, true, true, false, false]) (by kernel_rfl) rfl rfl rfl fun K hK => ?_
            go_simp
            refine (den_any _ y _ (FU.out _ HF.out).2.2.2.2.2.1).mono ?_
            rintro e u3 ⟨v, rfl, n, hb⟩
            replace TA := hide (TA.out.below (hb))
            replace BXb := hide (BXb.out.step hb)
            replace BXa := hide (BXa.out.step hb)
            have T2 := hide (n)
            replace HF := hide (FS.out _ _ HF.out hb)
            refine hK _ _ (fun _ => HF.out) ?_
            clear hK K hb n
            refine Calm.one (i := 7) (l' := #[true, true, true, true, true, true, true, true, true, true, false, false]) (by kernel_rfl) rfl rfl rfl fun K hK => ?_
            go_simp
            refine (quotient_any _ _ (y.den : Int) (gdn x y) _ T2.out (FU.out _ HF.out).2.2.2.2.2.2.2 (SzI.len HY.out.den (by decide)) (SzI.len SG.out (by decide)) HG0.out).mono ?_
            rintro e u4 ⟨v, rfl, n, hb⟩
            obtain ⟨s5, m5, n5, c5, rfl, n⟩ := n.cells
            replace TA := hide (TA.out.below (hb))
            clear T2
            replace BXb := hide (BXb.out.step hb)
            replace BXa := hide (BXa.out.step hb)
            have TB := hide (n)
            replace HF := hide (FS.out _ _ HF.out hb)
            refine hK _ _ (fun _ => HF.out) ?_
            clear hK K hb n
            refine Calm.one (i := 10) (l' := #[true, true, true, true, true, true, true, true, true, true, true, false]) (by kernel_rfl) rfl rfl rfl fun K hK => ?_
            have hc0 := BXa.out.cell0
            have hc1 := BXa.out.cell1
            have hf0 := BXa.out.free 0
            have hf1 := BXa.out.free 1
            go_simp
            replace HF := hide (FP2.out _ ga (.bool s4) (.slice m4 n4 c4) HF.out BXa.out LTa.out)
            replace TA := hide (TA.out.keep (BXa.out.keeps (by simp) (by simp) (.bool s4) (.slice m4 n4 c4)))
            replace TB := hide (TB.out.keep (BXa.out.keeps (by simp) (by simp) (.bool s4) (.slice m4 n4 c4)))
            replace BXb := hide (BXb.out.other (C := ga) (by first | exact Nat.ne_of_lt LTab.out | exact Nat.ne_of_gt LTba.out) (.bool s4) (.slice m4 n4 c4))
            replace BXa := hide (BXa.out.put (.bool s4) (.slice m4 n4 c4))
            refine hK _ _ (fun _ => HF.out) ?_
            clear hK K hc0 hf0 hc1 hf1
            generalize ((u4.setCell ⟨ga, 0, none⟩ (.bool s4)).setCell ⟨ga, 1, none⟩ (.slice m4 n4 c4)) = ws10 at *
            refine Calm.one (i := 11) (l' := #[true, true, true, true, true, true, true, true, true, true, true, true]) (by kernel_rfl) rfl rfl rfl fun K hK => ?_
            have hc0 := BXb.out.cell0
            have hc1 := BXb.out.cell1
            have hf0 := BXb.out.free 0
            have hf1 := BXb.out.free 1
            go_simp
            replace HF := hide (FP2.out _ gb (.bool s5) (.slice m5 n5 c5) HF.out BXb.out LTb.out)
            replace TA := hide (TA.out.keep (BXb.out.keeps (by simp) (by simp) (.bool s5) (.slice m5 n5 c5)))
            replace TB := hide (TB.out.keep (BXb.out.keeps (by simp) (by simp) (.bool s5) (.slice m5 n5 c5)))
            replace BXa := hide (BXa.out.other (C := gb) (by first | exact Nat.ne_of_lt LTba.out | exact Nat.ne_of_gt LTab.out) (.bool s5) (.slice m5 n5 c5))
            replace BXb := hide (BXb.out.put (.bool s5) (.slice m5 n5 c5))
            refine hK _ _ (fun _ => HF.out) ?_
            clear hK K hc0 hf0 hc1 hf1
            generalize ((ws10.setCell ⟨gb, 0, none⟩ (.bool s5)).setCell ⟨gb, 1, none⟩ (.slice m5 n5 c5)) = ws11 at *
            refine Calm.done (by kernel_rfl) ?_
            have h := FU.out _ HF.out
            go_wp2
            go_meet
            case rel => exact ⟨ga, s4, m4, n4, c4, gb, s5, m5, n5, c5, rfl, rfl, ⟨LTa.out, LTb.out, by first | exact Nat.ne_of_lt LTab.out | exact Nat.ne_of_gt LTba.out⟩, h.1, h.2.1, h.2.2.1, h.2.2.2.1, h.2.2.2.2.1, h.2.2.2.2.2.1, h.2.2.2.2.2.2.1, h.2.2.2.2.2.2.2, BXa.out, BXb.out, TA.out, TB.out⟩
        · go_simp
          have al := below_alloc u1 (.cells #[.bool false, .slice none 0 0] 25)
          replace T1 := hide (T1.out.below (al))
          have LTba := hide (BXb.out.lt)
          replace BXb := hide (BXb.out.step al)
          have BXa := hide (Box.new u1 (.bool false) (.slice none 0 0))
          have LTa := hide (FL.out _ HF.out)
          replace HF := hide (FS.out _ _ HF.out al)
          refine hK _ _ (fun _ => HF.out) ?_
          clear hK K al
          generalize u1.alloc (.cells #[.bool false, .slice none 0 0] 25) = wza at *
          generalize u1.heap.size = ga at *
          refine Calm.one (i := 3) (l' := #[true, true, true, true, true, false, true, false, true, true, false, false]) (by kernel_rfl) rfl rfl rfl fun K hK => ?_
          go_simp
          refine (quotient_any _ _ (x.den : Int) (gdn x y) _ T1.out (FU.out _ HF.out).2.2.2.2.2.2.2 (SzI.len HX.out.den (by decide)) (SzI.len SG.out (by decide)) HG0.out).mono ?_
          rintro e u2 ⟨v, rfl, n, hb⟩
          obtain ⟨s4, m4, n4, c4, rfl, n⟩ := n.cells
          clear T1
          replace BXb := hide (BXb.out.step hb)
          replace BXa := hide (BXa.out.step hb)
          have TA := hide (n)
          replace HF := hide (FS.out _ _ HF.out hb)
          refine hK _ _ (fun _ => HF.out) ?_
          clear hK K hb n
          refine Calm.one (i := 5) (l' := #[true, true, true, true, true, true, true, false, true, true, false, false]) (by kernel_rfl) rfl rfl rfl fun K hK => ?_
          go_simp
          refine (den_any _ y _ (FU.out _ HF.out).2.2.2.2.2.1).mono ?_
          rintro e u3 ⟨v, rfl, n, hb⟩
          replace TA := hide (TA.out.below (hb))
          replace BXb := hide (BXb.out.step hb)
          replace BXa := hide (BXa.out.step hb)
          have T2 := hide (n)
          replace HF := hide (FS.out _ _ HF.out hb)
          refine hK _ _ (fun _ => HF.out) ?_
          clear hK K hb n
          refine Calm.one (i := 7) (l' := #[true, true, true, true, true, true, true, true, true, true, false, false]) (by kernel_rfl) rfl rfl rfl fun K hK => ?_
          go_simp
          refine (quotient_any _ _ (y.den : Int) (gdn x y) _ T2.out (FU.out _ HF.out).2.2.2.2.2.2.2 (SzI.len HY.out.den (by decide)) (SzI.len SG.out (by decide)) HG0.out).mono ?_
          rintro e u4 ⟨v, rfl, n, hb⟩
          obtain ⟨s5, m5, n5, c5, rfl, n⟩ := n.cells
          replace TA := hide (TA.out.below (hb))
          clear T2
          replace BXb := hide (BXb.out.step hb)
          replace BXa := hide (BXa.out.step hb)
          have TB := hide (n)
          replace HF := hide (FS.out _ _ HF.out hb)
          refine hK _ _ (fun _ => HF.out) ?_
          clear hK K hb n
          refine Calm.one (i := 10) (l' := #[true, true, true, true, true, true, true, true, true, true, true, false]) (by kernel_rfl) rfl rfl rfl fun K hK => ?_
          have hc0 := BXa.out.cell0
          have hc1 := BXa.out.cell1
          have hf0 := BXa.out.free 0
          have hf1 := BXa.out.free 1
          go_simp
          replace HF := hide (FP2.out _ ga (.bool s4) (.slice m4 n4 c4) HF.out BXa.out LTa.out)
          replace TA := hide (TA.out.keep (BXa.out.keeps (by simp) (by simp) (.bool s4) (.slice m4 n4 c4)))
          replace TB := hide (TB.out.keep (BXa.out.keeps (by simp) (by simp) (.bool s4) (.slice m4 n4 c4)))
          replace BXb := hide (BXb.out.other (C := ga) (by first | exact Nat.ne_of_lt LTab.out | exact Nat.ne_of_gt LTba.out) (.bool s4) (.slice m4 n4 c4))
          replace BXa := hide (BXa.out.put (.bool s4) (.slice m4 n4 c4))
          refine hK _ _ (fun _ => HF.out) ?_
          clear hK K hc0 hf0 hc1 hf1
          generalize ((u4.setCell ⟨ga, 0, none⟩ (.bool s4)).setCell ⟨ga, 1, none⟩ (.slice m4 n4 c4)) = ws10 at *
          refine Calm.one (i := 11) (l' := #[true, true, true, true, true, true, true, true, true, true, true, true]) (by kernel_rfl) rfl rfl rfl fun K hK => ?_
          have hc0 := BXb.out.cell0
          have hc1 := BXb.out.cell1
          have hf0 := BXb.out.free 0
          have hf1 := BXb.out.free 1
          go_simp
          replace HF := hide (FP2.out _ gb (.bool s5) (.slice m5 n5 c5) HF.out BXb.out LTb.out)
          replace TA := hide (TA.out.keep (BXb.out.keeps (by simp) (by simp) (.bool s5) (.slice m5 n5 c5)))
          replace TB := hide (TB.out.keep (BXb.out.keeps (by simp) (by simp) (.bool s5) (.slice m5 n5 c5)))
          replace BXa := hide (BXa.out.other (C := gb) (by first | exact Nat.ne_of_lt LTba.out | exact Nat.ne_of_gt LTab.out) (.bool s5) (.slice m5 n5 c5))
          replace BXb := hide (BXb.out.put (.bool s5) (.slice m5 n5 c5))
          refine hK _ _ (fun _ => HF.out) ?_
          clear hK K hc0 hf0 hc1 hf1
          generalize ((ws10.setCell ⟨gb, 0, none⟩ (.bool s5)).setCell ⟨gb, 1, none⟩ (.slice m5 n5 c5)) = ws11 at *
          refine Calm.done (by kernel_rfl) ?_
          have h := FU.out _ HF.out
          go_wp2
          go_meet
          case rel => exact ⟨ga, s4, m4, n4, c4, gb, s5, m5, n5, c5, rfl, rfl, ⟨LTa.out, LTb.out, by first | exact Nat.ne_of_lt LTab.out | exact Nat.ne_of_gt LTba.out⟩, h.1, h.2.1, h.2.2.1, h.2.2.2.1, h.2.2.2.2.1, h.2.2.2.2.2.1, h.2.2.2.2.2.2.1, h.2.2.2.2.2.2.2, BXa.out, BXb.out, TA.out, TB.out⟩
      · go_simp
        have al := below_alloc wzb (.cells #[.bool false, .slice none 0 0] 25)
        have LTba := hide (BXb.out.lt)
        replace BXb := hide (BXb.out.step al)
        have BXa := hide (Box.new wzb (.bool false) (.slice none 0 0))
        have LTa := hide (FL.out _ HF.out)
        replace HF := hide (FS.out _ _ HF.out al)
        refine hK _ _ (fun _ => HF.out) ?_
        clear hK K al
        generalize wzb.alloc (.cells #[.bool false, .slice none 0 0] 25) = wza at *
        generalize wzb.heap.size = ga at *
        refine Calm.one (i := 1) (l' := #[true, true, true, false, true, false, true, false, true, true, false, false]) (by kernel_rfl) rfl rfl rfl fun K hK => ?_
        go_simp
        refine (den_any _ x _ (FU.out _ HF.out).2.2.2.2.1).mono ?_
        rintro e u1 ⟨v, rfl, n, hb⟩
        replace BXb := hide (BXb.out.step hb)
        replace BXa := hide (BXa.out.step hb)
        have T1 := hide (n)
        replace HF := hide (FS.out _ _ HF.out hb)
        refine hK _ _ (fun _ => HF.out) ?_
        clear hK K hb n
        refine Calm.one (i := 3) (l' := #[true, true, true, true, true, false, true, false, true, true, false, false]) (by kernel_rfl) rfl rfl rfl fun K hK => ?_
        go_simp
        refine (quotient_any _ _ (x.den : Int) (gdn x y) _ T1.out (FU.out _ HF.out).2.2.2.2.2.2.2 (SzI.len HX.out.den (by decide)) (SzI.len SG.out (by decide)) HG0.out).mono ?_
        rintro e u2 ⟨v, rfl, n, hb⟩
        obtain ⟨s4, m4, n4, c4, rfl, n⟩ := n.cells
        clear T1
        replace BXb := hide (BXb.out.step hb)
        replace BXa := hide (BXa.out.step hb)
        have TA := hide (n)
        replace HF := hide (FS.out _ _ HF.out hb)
        refine hK _ _ (fun _ => HF.out) ?_
        clear hK K hb n
        refine Calm.one (i := 5) (l' := #[true, true, true, true, true, true, true, false, true, true, false, false]) (by kernel_rfl) rfl rfl rfl fun K hK => ?_
        go_simp
        refine (den_any _ y _ (FU.out _ HF.out).2.2.2.2.2.1).mono ?_
        rintro e u3 ⟨v, rfl, n, hb⟩
        replace TA := hide (TA.out.below (hb))
        replace BXb := hide (BXb.out.step hb)
        replace BXa := hide (BXa.out.step hb)
        have T2 := hide (n)
        replace HF := hide (FS.out _ _ HF.out hb)
        refine hK _ _ (fun _ => HF.out) ?_
        clear hK K hb n
        refine Calm.one (i := 7) (l' := #[true, true, true, true, true, true, true, true, true, true, false, false]) (by kernel_rfl) rfl rfl rfl fun K hK => ?_
        go_simp
        refine (quotient_any _ _ (y.den : Int) (gdn x y) _ T2.out (FU.out _ HF.out).2.2.2.2.2.2.2 (SzI.len HY.out.den (by decide)) (SzI.len SG.out (by decide)) HG0.out).mono ?_
        rintro e u4 ⟨v, rfl, n, hb⟩
        obtain ⟨s5, m5, n5, c5, rfl, n⟩ := n.cells
        replace TA := hide (TA.out.below (hb))
        clear T2
        replace BXb := hide (BXb.out.step hb)
        replace BXa := hide (BXa.out.step hb)
        have TB := hide (n)
        replace HF := hide (FS.out _ _ HF.out hb)
        refine hK _ _ (fun _ => HF.out) ?_
        clear hK K hb n
        refine Calm.one (i := 10) (l' := #[true, true, true, true, true, true, true, true, true, true, true, false]) (by kernel_rfl) rfl rfl rfl fun K hK => ?_
        have hc0 := BXa.out.cell0
        have hc1 := BXa.out.cell1
        have hf0 := BXa.out.free 0
        have hf1 := BXa.out.free 1
        go_simp
        replace HF := hide (FP2.out _ ga (.bool s4) (.slice m4 n4 c4) HF.out BXa.out LTa.out)
        replace TA := hide (TA.out.keep (BXa.out.keeps (by simp) (by simp) (.bool s4) (.slice m4 n4 c4)))
        replace TB := hide (TB.out.keep (BXa.out.keeps (by simp) (by simp) (.bool s4) (.slice m4 n4 c4)))
        replace BXb := hide (BXb.out.other (C := ga) (by first | exact Nat.ne_of_lt LTab.out | exact Nat.ne_of_gt LTba.out) (.bool s4) (.slice m4 n4 c4))
        replace BXa := hide (BXa.out.put (.bool s4) (.slice m4 n4 c4))
        refine hK _ _ (fun _ => HF.out) ?_
        clear hK K hc0 hf0 hc1 hf1
        generalize ((u4.setCell ⟨ga, 0, none⟩ (.bool s4)).setCell ⟨ga, 1, none⟩ (.slice m4 n4 c4)) = ws10 at *
        refine Calm.one (i := 11) (l' := #[true, true, true, true, true, true, true, true, true, true, true, true]) (by kernel_rfl) rfl rfl rfl fun K hK => ?_
        have hc0 := BXb.out.cell0
        have hc1 := BXb.out.cell1
        have hf0 := BXb.out.free 0
        have hf1 := BXb.out.free 1
        go_simp
        replace HF := hide (FP2.out _ gb (.bool s5) (.slice m5 n5 c5) HF.out BXb.out LTb.out)
        replace TA := hide (TA.out.keep (BXb.out.keeps (by simp) (by simp) (.bool s5) (.slice m5 n5 c5)))
        replace TB := hide (TB.out.keep (BXb.out.keeps (by simp) (by simp) (.bool s5) (.slice m5 n5 c5)))
        replace BXa := hide (BXa.out.other (C := gb) (by first | exact Nat.ne_of_lt LTba.out | exact Nat.ne_of_gt LTab.out) (.bool s5) (.slice m5 n5 c5))
        replace BXb := hide (BXb.out.put (.bool s5) (.slice m5 n5 c5))
        refine hK _ _ (fun _ => HF.out) ?_
        clear hK K hc0 hf0 hc1 hf1
        generalize ((ws10.setCell ⟨gb, 0, none⟩ (.bool s5)).setCell ⟨gb, 1, none⟩ (.slice m5 n5 c5)) = ws11 at *
        refine Calm.done (by kernel_rfl) ?_
        have h := FU.out _ HF.out
        go_wp2
        go_meet
        case rel => exact ⟨ga, s4, m4, n4, c4, gb, s5, m5, n5, c5, rfl, rfl, ⟨LTa.out, LTb.out, by first | exact Nat.ne_of_lt LTab.out | exact Nat.ne_of_gt LTba.out⟩, h.1, h.2.1, h.2.2.1, h.2.2.2.1, h.2.2.2.2.1, h.2.2.2.2.2.1, h.2.2.2.2.2.2.1, h.2.2.2.2.2.2.2, BXa.out, BXb.out, TA.out, TB.out⟩
  case rest =>
  obtain ⟨ga, s4, m4, n4, c4, gb, s5, m5, n5, c5, rfl, rfl, hlts, h0, h1, h2, h3, h4, h5, h6, h7, ba, bb, eTA, eTB⟩ := hcut
  clear HB P0 P1 P2 I1 I2 Vg TG
  have HB := hide h0
  have P0 := hide h1
  have P1 := hide h2
  have P2 := hide h3
  have I1 := hide h4
  have I2 := hide h5
  have Vg := hide h6
  have TG := hide h7
  have LTS2 := hide hlts
  have Va := hide ba
  have TA := hide eTA
  have Vb := hide bb
  have TB := hide eTB
  clear hlts h0 h1 h2 h3 h4 h5 h6 h7 ba bb eTA eTB
  generalize hwc : wc = wc2 at *
  clear hwc
  go_wp2_with fail
  go_cut [8] from 22 (fun pt0 wx => ∃ gr s6 m6 n6 c6 t6 o6 p6 d6, pt0 = .pointer (some ⟨gr, 0, none⟩) ∧ ((w.heap.size < gr ∧ (w.heap.size + 1) < gr ∧ (w.heap.size + 1 + 1) < gr ∧ gg < gr ∧ ga < gr ∧ gb < gr)) ∧ Below w.heap.size w wx ∧ Box4 wx w.heap.size (.bool s1) (.slice m1 n1 c1) (.bool t1) (.slice o1 p1 d1) ∧ Box4 wx (w.heap.size + 1) (.bool s2) (.slice m2 n2 c2) (.bool t2) (.slice o2 p2 d2) ∧ Box4 wx (w.heap.size + 1 + 1) (.bool false) (.slice none 0 0) (.bool false) (.slice none 0 0) ∧ RatAt wx (.agg #[.bool s1, .slice m1 n1 c1, .bool t1, .slice o1 p1 d1]) x ∧ RatAt wx (.agg #[.bool s2, .slice m2 n2 c2, .bool t2, .slice o2 p2 d2]) y ∧ Box wx gg (.bool s3) (.slice m3 n3 c3) ∧ IntAt wx (.agg #[.bool s3, .slice m3 n3 c3]) (gdn x y) ∧ Box wx ga (.bool s4) (.slice m4 n4 c4) ∧ Box wx gb (.bool s5) (.slice m5 n5 c5) ∧ IntAt wx (.agg #[.bool s4, .slice m4 n4 c4]) (sA x y) ∧ IntAt wx (.agg #[.bool s5, .slice m5 n5 c5]) (sB x y) ∧ Box4 wx gr (.bool s6) (.slice m6 n6 c6) (.bool t6) (.slice o6 p6 d6) ∧ RatAt wx (.agg #[.bool s6, .slice m6 n6 c6, .bool t6, .slice o6 p6 d6]) (Rat.divInt (sS x y) (gdn x y)))
  case first =>
    obtain ⟨F, hF⟩ : ∃ F : World → Prop, F = (fun w' => Below w.heap.size w w' ∧ Box4 w' w.heap.size (.bool s1) (.slice m1 n1 c1) (.bool t1) (.slice o1 p1 d1) ∧ Box4 w' (w.heap.size + 1) (.bool s2) (.slice m2 n2 c2) (.bool t2) (.slice o2 p2 d2) ∧ Box4 w' (w.heap.size + 1 + 1) (.bool false) (.slice none 0 0) (.bool false) (.slice none 0 0) ∧ RatAt w' (.agg #[.bool s1, .slice m1 n1 c1, .bool t1, .slice o1 p1 d1]) x ∧ RatAt w' (.agg #[.bool s2, .slice m2 n2 c2, .bool t2, .slice o2 p2 d2]) y ∧ Box w' gg (.bool s3) (.slice m3 n3 c3) ∧ IntAt w' (.agg #[.bool s3, .slice m3 n3 c3]) (gdn x y) ∧ Box w' ga (.bool s4) (.slice m4 n4 c4) ∧ Box w' gb (.bool s5) (.slice m5 n5 c5) ∧ IntAt w' (.agg #[.bool s4, .slice m4 n4 c4]) (sA x y) ∧ IntAt w' (.agg #[.bool s5, .slice m5 n5 c5]) (sB x y)) := ⟨_, rfl⟩
    have FU : Hid (∀ W, F W → (Below w.heap.size w W ∧ Box4 W w.heap.size (.bool s1) (.slice m1 n1 c1) (.bool t1) (.slice o1 p1 d1) ∧ Box4 W (w.heap.size + 1) (.bool s2) (.slice m2 n2 c2) (.bool t2) (.slice o2 p2 d2) ∧ Box4 W (w.heap.size + 1 + 1) (.bool false) (.slice none 0 0) (.bool false) (.slice none 0 0) ∧ RatAt W (.agg #[.bool s1, .slice m1 n1 c1, .bool t1, .slice o1 p1 d1]) x ∧ RatAt W (.agg #[.bool s2, .slice m2 n2 c2, .bool t2, .slice o2 p2 d2]) y ∧ Box W gg (.bool s3) (.slice m3 n3 c3) ∧ IntAt W (.agg #[.bool s3, .slice m3 n3 c3]) (gdn x y) ∧ Box W ga (.bool s4) (.slice m4 n4 c4) ∧ Box W gb (.bool s5) (.slice m5 n5 c5) ∧ IntAt W (.agg #[.bool s4, .slice m4 n4 c4]) (sA x y) ∧ IntAt W (.agg #[.bool s5, .slice m5 n5 c5]) (sB x y))) := hide (fun W h => by rw [hF] at h; exact h)
    have FM : Hid (∀ W, (Below w.heap.size w W ∧ Box4 W w.heap.size (.bool s1) (.slice m1 n1 c1) (.bool t1) (.slice o1 p1 d1) ∧ Box4 W (w.heap.size + 1) (.bool s2) (.slice m2 n2 c2) (.bool t2) (.slice o2 p2 d2) ∧ Box4 W (w.heap.size + 1 + 1) (.bool false) (.slice none 0 0) (.bool false) (.slice none 0 0) ∧ RatAt W (.agg #[.bool s1, .slice m1 n1 c1, .bool t1, .slice o1 p1 d1]) x ∧ RatAt W (.agg #[.bool s2, .slice m2 n2 c2, .bool t2, .slice o2 p2 d2]) y ∧ Box W gg (.bool s3) (.slice m3 n3 c3) ∧ IntAt W (.agg #[.bool s3, .slice m3 n3 c3]) (gdn x y) ∧ Box W ga (.bool s4) (.slice m4 n4 c4) ∧ Box W gb (.bool s5) (.slice m5 n5 c5) ∧ IntAt W (.agg #[.bool s4, .slice m4 n4 c4]) (sA x y) ∧ IntAt W (.agg #[.bool s5, .slice m5 n5 c5]) (sB x y)) → F W) := hide (fun W h => by rw [hF]; exact h)
    clear hF
    have FS : Hid (∀ W W', F W → Below W.heap.size W W' → F W') := hide (fun W W' h hb => by
      have h := FU.out W h
      exact FM.out W' (And.intro (h.1.trans ((hb).mono h.1.size)) (And.intro (h.2.1.step (hb)) (And.intro (h.2.2.1.step (hb)) (And.intro (h.2.2.2.1.step (hb)) (And.intro (h.2.2.2.2.1.below (hb)) (And.intro (h.2.2.2.2.2.1.below (hb)) (And.intro (h.2.2.2.2.2.2.1.step (hb)) (And.intro (h.2.2.2.2.2.2.2.1.below (hb)) (And.intro (h.2.2.2.2.2.2.2.2.1.step (hb)) (And.intro (h.2.2.2.2.2.2.2.2.2.1.step (hb)) (And.intro (h.2.2.2.2.2.2.2.2.2.2.1.below (hb)) (h.2.2.2.2.2.2.2.2.2.2.2.below (hb))))))))))))))
    have FC : Hid (∀ W, F W → (W.cell? ⟨w.heap.size, 0, none⟩ = some (.bool s1) ∧ W.cell? ⟨w.heap.size, 1, none⟩ = some (.slice m1 n1 c1) ∧ W.cell? ⟨w.heap.size, 2, none⟩ = some (.bool t1) ∧ W.cell? ⟨w.heap.size, 3, none⟩ = some (.slice o1 p1 d1) ∧ W.cell? ⟨(w.heap.size + 1), 0, none⟩ = some (.bool s2) ∧ W.cell? ⟨(w.heap.size + 1), 1, none⟩ = some (.slice m2 n2 c2) ∧ W.cell? ⟨(w.heap.size + 1), 2, none⟩ = some (.bool t2) ∧ W.cell? ⟨(w.heap.size + 1), 3, none⟩ = some (.slice o2 p2 d2) ∧ W.cell? ⟨(w.heap.size + 1 + 1), 0, none⟩ = some (.bool false) ∧ W.cell? ⟨(w.heap.size + 1 + 1), 1, none⟩ = some (.slice none 0 0) ∧ W.cell? ⟨(w.heap.size + 1 + 1), 2, none⟩ = some (.bool false) ∧ W.cell? ⟨(w.heap.size + 1 + 1), 3, none⟩ = some (.slice none 0 0) ∧ W.cell? ⟨gg, 0, none⟩ = some (.bool s3) ∧ W.cell? ⟨gg, 1, none⟩ = some (.slice m3 n3 c3) ∧ W.cell? ⟨ga, 0, none⟩ = some (.bool s4) ∧ W.cell? ⟨ga, 1, none⟩ = some (.slice m4 n4 c4) ∧ W.cell? ⟨gb, 0, none⟩ = some (.bool s5) ∧ W.cell? ⟨gb, 1, none⟩ = some (.slice m5 n5 c5))) := hide (fun W h => by
      have h := FU.out W h
      exact ⟨h.2.1.cell0, h.2.1.cell1, h.2.1.cell2, h.2.1.cell3, h.2.2.1.cell0, h.2.2.1.cell1, h.2.2.1.cell2, h.2.2.1.cell3, h.2.2.2.1.cell0, h.2.2.2.1.cell1, h.2.2.2.1.cell2, h.2.2.2.1.cell3, h.2.2.2.2.2.2.1.cell0, h.2.2.2.2.2.2.1.cell1, h.2.2.2.2.2.2.2.2.1.cell0, h.2.2.2.2.2.2.2.2.1.cell1, h.2.2.2.2.2.2.2.2.2.1.cell0, h.2.2.2.2.2.2.2.2.2.1.cell1⟩)
    have FL : Hid (∀ W, F W → (w.heap.size < W.heap.size ∧ (w.heap.size + 1) < W.heap.size ∧ (w.heap.size + 1 + 1) < W.heap.size ∧ gg < W.heap.size ∧ ga < W.heap.size ∧ gb < W.heap.size)) := hide (fun W h => by
      have h := FU.out W h
      exact ⟨h.2.1.lt, h.2.2.1.lt, h.2.2.2.1.lt, h.2.2.2.2.2.2.1.lt, h.2.2.2.2.2.2.2.2.1.lt, h.2.2.2.2.2.2.2.2.2.1.lt⟩)
    have FP4 : Hid (∀ W g (x1 x2 x3 x4 : Value), F W → Box4 W g (.bool false) (.slice none 0 0) (.bool false) (.slice none 0 0) → (w.heap.size < g ∧ (w.heap.size + 1) < g ∧ (w.heap.size + 1 + 1) < g ∧ gg < g ∧ ga < g ∧ gb < g) → F ((((W.setCell ⟨g, 0, none⟩ x1).setCell ⟨g, 1, none⟩ x2).setCell ⟨g, 2, none⟩ x3).setCell ⟨g, 3, none⟩ x4)) := hide (fun W g x1 x2 x3 x4 h hX hl => by
      have h := FU.out W h
      exact FM.out _ (And.intro (below_put4 h.1 (show w.heap.size ≤ g by omega) x1 x2 x3 x4) (And.intro (h.2.1.other4 (C := g) (by omega) x1 x2 x3 x4) (And.intro (h.2.2.1.other4 (C := g) (by omega) x1 x2 x3 x4) (And.intro (h.2.2.2.1.other4 (C := g) (by omega) x1 x2 x3 x4) (And.intro (h.2.2.2.2.1.keep (hX.keeps (by simp) (by simp) (by simp) (by simp) x1 x2 x3 x4)) (And.intro (h.2.2.2.2.2.1.keep (hX.keeps (by simp) (by simp) (by simp) (by simp) x1 x2 x3 x4)) (And.intro (h.2.2.2.2.2.2.1.other4 (C := g) (by omega) x1 x2 x3 x4) (And.intro (h.2.2.2.2.2.2.2.1.keep (hX.keeps (by simp) (by simp) (by simp) (by simp) x1 x2 x3 x4)) (And.intro (h.2.2.2.2.2.2.2.2.1.other4 (C := g) (by omega) x1 x2 x3 x4) (And.intro (h.2.2.2.2.2.2.2.2.2.1.other4 (C := g) (by omega) x1 x2 x3 x4) (And.intro (h.2.2.2.2.2.2.2.2.2.2.1.keep (hX.keeps (by simp) (by simp) (by simp) (by simp) x1 x2 x3 x4)) (h.2.2.2.2.2.2.2.2.2.2.2.keep (hX.keeps (by simp) (by simp) (by simp) (by simp) x1 x2 x3 x4))))))))))))))
    refine wp_calm F (fun _ => true) 13 #[false, false, false, false, false, false, false, false, false, false, false, false, false] (by kernel_rfl) rfl rfl ?_
    have HF := hide (FM.out _ (And.intro (HB.out.drew) (And.intro (P0.out.drew) (And.intro (P1.out.drew) (And.intro (P2.out.drew) (And.intro (I1.out.drew) (And.intro (I2.out.drew) (And.intro (Vg.out.drew) (And.intro (TG.out.drew) (And.intro (Va.out.drew) (And.intro (Vb.out.drew) (And.intro (TA.out.drew) (TB.out.drew)))))))))))))
    generalize wc2.drew = wc2d at *
    refine Calm.take (i := 0) (v := ?_) (a' := ?_) (l' := #[true, false, false, false, false, false, false, false, false, false, false, false, false]) (d := some 22) rfl (by kernel_rfl) (by kernel_rfl) (by kernel_rfl) (by kernel_rfl) (fun _ _ _ h => h) HF.out rfl ?_ rfl rfl ?_ ?_
    rotate_left
    · intro w' hF; clear hF; go_simp; try rfl
    rotate_left
    · simp only [Act.put]; exact rfl
    refine Calm.take (i := 1) (v := ?_) (a' := ?_) (l' := #[true, true, false, false, false, false, false, false, false, false, false, false, false]) (d := some 23) rfl (by kernel_rfl) (by kernel_rfl) (by kernel_rfl) (by kernel_rfl) (fun _ _ _ h => h) HF.out rfl ?_ rfl rfl ?_ ?_
    rotate_left
    · intro w' hF; obtain ⟨f0, f1, f2, f3, f4, f5, f6, f7, f8, f9, f10, f11, f12, f13, f14, f15, f16, f17⟩ := FC.out _ hF; clear hF; go_simp; try rfl
    rotate_left
    · simp only [Act.put]; exact rfl
    refine Calm.take (i := 2) (v := ?_) (a' := ?_) (l' := #[true, true, true, false, false, false, false, false, false, false, false, false, false]) (d := some 24) rfl (by kernel_rfl) (by kernel_rfl) (by kernel_rfl) (by kernel_rfl) (fun _ _ _ h => h) HF.out rfl ?_ rfl rfl ?_ ?_
    rotate_left
    · intro w' hF; obtain ⟨f0, f1, f2, f3, f4, f5, f6, f7, f8, f9, f10, f11, f12, f13, f14, f15, f16, f17⟩ := FC.out _ hF; clear hF; go_simp; try rfl
    rotate_left
    · simp only [Act.put]; exact rfl
    refine Calm.take (i := 4) (v := ?_) (a' := ?_) (l' := #[true, true, true, false, true, false, false, false, false, false, false, false, false]) (d := some 26) rfl (by kernel_rfl) (by kernel_rfl) (by kernel_rfl) (by kernel_rfl) (fun _ _ _ h => h) HF.out rfl ?_ rfl rfl ?_ ?_
    rotate_left
    · intro w' hF; clear hF; go_simp; try rfl
    rotate_left
    · simp only [Act.put]; exact rfl
    refine Calm.take (i := 5) (v := ?_) (a' := ?_) (l' := #[true, true, true, false, true, true, false, false, false, false, false, false, false]) (d := some 27) rfl (by kernel_rfl) (by kernel_rfl) (by kernel_rfl) (by kernel_rfl) (fun _ _ _ h => h) HF.out rfl ?_ rfl rfl ?_ ?_
    rotate_left
    · intro w' hF; obtain ⟨f0, f1, f2, f3, f4, f5, f6, f7, f8, f9, f10, f11, f12, f13, f14, f15, f16, f17⟩ := FC.out _ hF; clear hF; go_simp; try rfl
    rotate_left
    · simp only [Act.put]; exact rfl
    refine Calm.take (i := 6) (v := ?_) (a' := ?_) (l' := #[true, true, true, false, true, true, true, false, false, false, false, false, false]) (d := some 28) rfl (by kernel_rfl) (by kernel_rfl) (by kernel_rfl) (by kernel_rfl) (fun _ _ _ h => h) HF.out rfl ?_ rfl rfl ?_ ?_
    rotate_left
    · intro w' hF; obtain ⟨f0, f1, f2, f3, f4, f5, f6, f7, f8, f9, f10, f11, f12, f13, f14, f15, f16, f17⟩ := FC.out _ hF; clear hF; go_simp; try rfl
    rotate_left
    · simp only [Act.put]; exact rfl
    refine Calm.take (i := 9) (v := ?_) (a' := ?_) (l' := #[true, true, true, false, true, true, true, false, false, true, false, false, false]) (d := some 31) rfl (by kernel_rfl) (by kernel_rfl) (by kernel_rfl) (by kernel_rfl) (fun _ _ _ h => h) HF.out rfl ?_ rfl rfl ?_ ?_
    rotate_left
    · intro w' hF; obtain ⟨f0, f1, f2, f3, f4, f5, f6, f7, f8, f9, f10, f11, f12, f13, f14, f15, f16, f17⟩ := FC.out _ hF; clear hF; go_simp; try rfl
    rotate_left
    · simp only [Act.put]; exact rfl
    refine Calm.two (i := 3) (j := 11) (l := #[true, true, true, true, true, true, true, false, false, true, false, false, false]) (l' := #[true, true, true, false, true, true, true, false, false, true, false, true, false]) (by kernel_rfl) rfl rfl rfl rfl rfl rfl (fun K hK => ?_) (fun K hK => ?_)
    · go_simp
      refine (imul_any _ _ x.num (sB x y) _ (FU.out _ HF.out).2.2.2.2.1.num (FU.out _ HF.out).2.2.2.2.2.2.2.2.2.2.2 (SzI.len HX.out.num (by decide)) (SzI.len SB.out (by decide))).mono ?_
      rintro e u1 ⟨v, rfl, n, hb⟩
      have T1 := hide (n)
      replace HF := hide (FS.out _ _ HF.out hb)
      refine hK _ _ (fun _ => HF.out) ?_
      clear hK K hb n
      refine Calm.two (i := 7) (j := 11) (l := #[true, true, true, true, true, true, true, true, false, true, false, false, false]) (l' := #[true, true, true, true, true, true, true, false, false, true, false, true, false]) (by kernel_rfl) rfl rfl rfl rfl rfl rfl (fun K hK => ?_) (fun K hK => ?_)
      · go_simp
        refine (imul_any _ _ y.num (sA x y) _ (FU.out _ HF.out).2.2.2.2.2.1.num (FU.out _ HF.out).2.2.2.2.2.2.2.2.2.2.1 (SzI.len HY.out.num (by decide)) (SzI.len SA.out (by decide))).mono ?_
        rintro e u2 ⟨v, rfl, n, hb⟩
        replace T1 := hide (T1.out.below (hb))
        have T2 := hide (n)
        replace HF := hide (FS.out _ _ HF.out hb)
        refine hK _ _ (fun _ => HF.out) ?_
        clear hK K hb n
        refine Calm.two (i := 8) (j := 11) (l := #[true, true, true, true, true, true, true, true, true, true, false, false, false]) (l' := #[true, true, true, true, true, true, true, true, false, true, false, true, false]) (by kernel_rfl) rfl rfl rfl rfl rfl rfl (fun K hK => ?_) (fun K hK => ?_)
        · go_simp
          refine (iadd_any _ _ (x.num * sB x y) (y.num * sA x y) _ T1.out T2.out (SzI.len (HX.out.num.mul SB.out) (by decide)) (SzI.len (HY.out.num.mul SA.out) (by decide))).mono ?_
          rintro e u3 ⟨v, rfl, n, hb⟩
          clear T1
          clear T2
          have T3 := hide (n)
          replace HF := hide (FS.out _ _ HF.out hb)
          refine hK _ _ (fun _ => HF.out) ?_
          clear hK K hb n
          refine Calm.two (i := 10) (j := 11) (l := #[true, true, true, true, true, true, true, true, true, true, true, false, false]) (l' := #[true, true, true, true, true, true, true, true, true, true, false, true, false]) (by kernel_rfl) rfl rfl rfl rfl rfl rfl (fun K hK => ?_) (fun K hK => ?_)
          · go_simp
            refine (lowest_any _ _ (sS x y) (gdn x y) _ T3.out (FU.out _ HF.out).2.2.2.2.2.2.2.1 (SzI.len SS.out (by decide)) (SzI.len SG.out (by decide)) HG0.out).mono ?_
            rintro e u4 ⟨v, rfl, n, hb⟩
            obtain ⟨s6, m6, n6, c6, t6, o6, p6, d6, rfl, n⟩ := n.cells
            clear T3
            have TR := hide (n)
            replace HF := hide (FS.out _ _ HF.out hb)
            refine hK _ _ (fun _ => HF.out) ?_
            clear hK K hb n
            refine Calm.one (i := 11) (l' := #[true, true, true, true, true, true, true, true, true, true, true, true, false]) (by kernel_rfl) rfl rfl rfl fun K hK => ?_
            go_simp
            have al := below_alloc u4 (.cells #[.bool false, .slice none 0 0, .bool false, .slice none 0 0] 27)
            replace TR := hide (TR.out.below (al))
            have BXr := hide (Box4.new u4 (.bool false) (.slice none 0 0) (.bool false) (.slice none 0 0))
            have LTr := hide (FL.out _ HF.out)
            replace HF := hide (FS.out _ _ HF.out al)
            refine hK _ _ (fun _ => HF.out) ?_
            clear hK K al
            generalize u4.alloc (.cells #[.bool false, .slice none 0 0, .bool false, .slice none 0 0] 27) = wzr at *
            generalize u4.heap.size = gr at *
            refine Calm.one (i := 12) (l' := #[true, true, true, true, true, true, true, true, true, true, true, true, true]) (by kernel_rfl) rfl rfl rfl fun K hK => ?_
            have hc0 := BXr.out.cell0
            have hc1 := BXr.out.cell1
            have hc2 := BXr.out.cell2
            have hc3 := BXr.out.cell3
            have hf0 := BXr.out.free 0
            have hf1 := BXr.out.free 1
            have hf2 := BXr.out.free 2
            have hf3 := BXr.out.free 3
            go_simp
            replace HF := hide (FP4.out _ gr (.bool s6) (.slice m6 n6 c6) (.bool t6) (.slice o6 p6 d6) HF.out BXr.out LTr.out)
            replace TR := hide (TR.out.keep (BXr.out.keeps (by simp) (by simp) (by simp) (by simp) (.bool s6) (.slice m6 n6 c6) (.bool t6) (.slice o6 p6 d6)))
            replace BXr := hide (BXr.out.put (.bool s6) (.slice m6 n6 c6) (.bool t6) (.slice o6 p6 d6))
            refine hK _ _ (fun _ => HF.out) ?_
            clear hK K hc0 hf0 hc1 hf1 hc2 hf2 hc3 hf3
            generalize ((((wzr.setCell ⟨gr, 0, none⟩ (.bool s6)).setCell ⟨gr, 1, none⟩ (.slice m6 n6 c6)).setCell ⟨gr, 2, none⟩ (.bool t6)).setCell ⟨gr, 3, none⟩ (.slice o6 p6 d6)) = ws12 at *
            refine Calm.done (by kernel_rfl) ?_
            have h := FU.out _ HF.out
            go_wp2
            go_meet
            case rel => exact ⟨gr, s6, m6, n6, c6, t6, o6, p6, d6, rfl, LTr.out, h.1, h.2.1, h.2.2.1, h.2.2.2.1, h.2.2.2.2.1, h.2.2.2.2.2.1, h.2.2.2.2.2.2.1, h.2.2.2.2.2.2.2.1, h.2.2.2.2.2.2.2.2.1, h.2.2.2.2.2.2.2.2.2.1, h.2.2.2.2.2.2.2.2.2.2.1, h.2.2.2.2.2.2.2.2.2.2.2, BXr.out, TR.out⟩
          · go_simp
            have al := below_alloc u3 (.cells #[.bool false, .slice none 0 0, .bool false, .slice none 0 0] 27)
            replace T3 := hide (T3.out.below (al))
            have BXr := hide (Box4.new u3 (.bool false) (.slice none 0 0) (.bool false) (.slice none 0 0))
            have LTr := hide (FL.out _ HF.out)
            replace HF := hide (FS.out _ _ HF.out al)
            refine hK _ _ (fun _ => HF.out) ?_
            clear hK K al
            generalize u3.alloc (.cells #[.bool false, .slice none 0 0, .bool false, .slice none 0 0] 27) = wzr at *
            generalize u3.heap.size = gr at *
            refine Calm.one (i := 10) (l' := #[true, true, true, true, true, true, true, true, true, true, true, true, false]) (by kernel_rfl) rfl rfl rfl fun K hK => ?_
            go_simp
            refine (lowest_any _ _ (sS x y) (gdn x y) _ T3.out (FU.out _ HF.out).2.2.2.2.2.2.2.1 (SzI.len SS.out (by decide)) (SzI.len SG.out (by decide)) HG0.out).mono ?_
            rintro e u4 ⟨v, rfl, n, hb⟩
            obtain ⟨s6, m6, n6, c6, t6, o6, p6, d6, rfl, n⟩ := n.cells
            clear T3
            replace BXr := hide (BXr.out.step hb)
            have TR := hide (n)
            replace HF := hide (FS.out _ _ HF.out hb)
            refine hK _ _ (fun _ => HF.out) ?_
            clear hK K hb n
            refine Calm.one (i := 12) (l' := #[true, true, true, true, true, true, true, true, true, true, true, true, true]) (by kernel_rfl) rfl rfl rfl fun K hK => ?_
            have hc0 := BXr.out.cell0
            have hc1 := BXr.out.cell1
            have hc2 := BXr.out.cell2
            have hc3 := BXr.out.cell3
            have hf0 := BXr.out.free 0
            have hf1 := BXr.out.free 1
            have hf2 := BXr.out.free 2
            have hf3 := BXr.out.free 3
            go_simp
            replace HF := hide (FP4.out _ gr (.bool s6) (.slice m6 n6 c6) (.bool t6) (.slice o6 p6 d6) HF.out BXr.out LTr.out)
            replace TR := hide (TR.out.keep (BXr.out.keeps (by simp) (by simp) (by simp) (by simp) (.bool s6) (.slice m6 n6 c6) (.bool t6) (.slice o6 p6 d6)))
            replace BXr := hide (BXr.out.put (.bool s6) (.slice m6 n6 c6) (.bool t6) (.slice o6 p6 d6))
            refine hK _ _ (fun _ => HF.out) ?_
            clear hK K hc0 hf0 hc1 hf1 hc2 hf2 hc3 hf3
            generalize ((((u4.setCell ⟨gr, 0, none⟩ (.bool s6)).setCell ⟨gr, 1, none⟩ (.slice m6 n6 c6)).setCell ⟨gr, 2, none⟩ (.bool t6)).setCell ⟨gr, 3, none⟩ (.slice o6 p6 d6)) = ws12 at *
            refine Calm.done (by kernel_rfl) ?_
            have h := FU.out _ HF.out
            go_wp2
            go_meet
            case rel => exact ⟨gr, s6, m6, n6, c6, t6, o6, p6, d6, rfl, LTr.out, h.1, h.2.1, h.2.2.1, h.2.2.2.1, h.2.2.2.2.1, h.2.2.2.2.2.1, h.2.2.2.2.2.2.1, h.2.2.2.2.2.2.2.1, h.2.2.2.2.2.2.2.2.1, h.2.2.2.2.2.2.2.2.2.1, h.2.2.2.2.2.2.2.2.2.2.1, h.2.2.2.2.2.2.2.2.2.2.2, BXr.out, TR.out⟩
        · go_simp
          have al := below_alloc u2 (.cells #[.bool false, .slice none 0 0, .bool false, .slice none 0 0] 27)
          replace T1 := hide (T1.out.below (al))
          replace T2 := hide (T2.out.below (al))
          have BXr := hide (Box4.new u2 (.bool false) (.slice none 0 0) (.bool false) (.slice none 0 0))
          have LTr := hide (FL.out _ HF.out)
          replace HF := hide (FS.out _ _ HF.out al)
          refine hK _ _ (fun _ => HF.out) ?_
          clear hK K al
          generalize u2.alloc (.cells #[.bool false, .slice none 0 0, .bool false, .slice none 0 0] 27) = wzr at *
          generalize u2.heap.size = gr at *
          refine Calm.one (i := 8) (l' := #[true, true, true, true, true, true, true, true, true, true, false, true, false]) (by kernel_rfl) rfl rfl rfl fun K hK => ?_
          go_simp
          refine (iadd_any _ _ (x.num * sB x y) (y.num * sA x y) _ T1.out T2.out (SzI.len (HX.out.num.mul SB.out) (by decide)) (SzI.len (HY.out.num.mul SA.out) (by decide))).mono ?_
          rintro e u3 ⟨v, rfl, n, hb⟩
          clear T1
          clear T2
          replace BXr := hide (BXr.out.step hb)
          have T3 := hide (n)
          replace HF := hide (FS.out _ _ HF.out hb)
          refine hK _ _ (fun _ => HF.out) ?_
          clear hK K hb n
          refine Calm.one (i := 10) (l' := #[true, true, true, true, true, true, true, true, true, true, true, true, false]) (by kernel_rfl) rfl rfl rfl fun K hK => ?_
          go_simp
          refine (lowest_any _ _ (sS x y) (gdn x y) _ T3.out (FU.out _ HF.out).2.2.2.2.2.2.2.1 (SzI.len SS.out (by decide)) (SzI.len SG.out (by decide)) HG0.out).mono ?_
          rintro e u4 ⟨v, rfl, n, hb⟩
          obtain ⟨s6, m6, n6, c6, t6, o6, p6, d6, rfl, n⟩ := n.cells
          clear T3
          replace BXr := hide (BXr.out.step hb)
          have TR := hide (n)
          replace HF := hide (FS.out _ _ HF.out hb)
          refine hK _ _ (fun _ => HF.out) ?_
          clear hK K hb n
          refine Calm.one (i := 12) (l' := #[true, true, true, true, true, true, true, true, true, true, true, true, true]) (by kernel_rfl) rfl rfl rfl fun K hK => ?_
          have hc0 := BXr.out.cell0
          have hc1 := BXr.out.cell1
          have hc2 := BXr.out.cell2
          have hc3 := BXr.out.cell3
          have hf0 := BXr.out.free 0
          have hf1 := BXr.out.free 1
          have hf2 := BXr.out.free 2
          have hf3 := BXr.out.free 3
          go_simp
          replace HF := hide (FP4.out _ gr (.bool s6) (.slice m6 n6 c6) (.bool t6) (.slice o6 p6 d6) HF.out BXr.out LTr.out)
          replace TR := hide (TR.out.keep (BXr.out.keeps (by simp) (by simp) (by simp) (by simp) (.bool s6) (.slice m6 n6 c6) (.bool t6) (.slice o6 p6 d6)))
          replace BXr := hide (BXr.out.put (.bool s6) (.slice m6 n6 c6) (.bool t6) (.slice o6 p6 d6))
          refine hK _ _ (fun _ => HF.out) ?_
          clear hK K hc0 hf0 hc1 hf1 hc2 hf2 hc3 hf3
          generalize ((((u4.setCell ⟨gr, 0, none⟩ (.bool s6)).setCell ⟨gr, 1, none⟩ (.slice m6 n6 c6)).setCell ⟨gr, 2, none⟩ (.bool t6)).setCell ⟨gr, 3, none⟩ (.slice o6 p6 d6)) = ws12 at *
          refine Calm.done (by kernel_rfl) ?_
          have h := FU.out _ HF.out
          go_wp2
          go_meet
          case rel => exact ⟨gr, s6, m6, n6, c6, t6, o6, p6, d6, rfl, LTr.out, h.1, h.2.1, h.2.2.1, h.2.2.2.1, h.2.2.2.2.1, h.2.2.2.2.2.1, h.2.2.2.2.2.2.1, h.2.2.2.2.2.2.2.1, h.2.2.2.2.2.2.2.2.1, h.2.2.2.2.2.2.2.2.2.1, h.2.2.2.2.2.2.2.2.2.2.1, h.2.2.2.2.2.2.2.2.2.2.2, BXr.out, TR.out⟩
      · go_simp
        have al := below_alloc u1 (.cells #[.bool false, .slice none 0 0, .bool false, .slice none 0 0] 27)
        replace T1 := hide (T1.out.below (al))
        have BXr := hide (Box4.new u1 (.bool false) (.slice none 0 0) (.bool false) (.slice none 0 0))
        have LTr := hide (FL.out _ HF.out)
        replace HF := hide (FS.out _ _ HF.out al)
        refine hK _ _ (fun _ => HF.out) ?_
        clear hK K al
        generalize u1.alloc (.cells #[.bool false, .slice none 0 0, .bool false, .slice none 0 0] 27) = wzr at *
        generalize u1.heap.size = gr at *
        refine Calm.one (i := 7) (l' := #[true, true, true, true, true, true, true, true, false, true, false, true, false]) (by kernel_rfl) rfl rfl rfl fun K hK => ?_
        go_simp
        refine (imul_any _ _ y.num (sA x y) _ (FU.out _ HF.out).2.2.2.2.2.1.num (FU.out _ HF.out).2.2.2.2.2.2.2.2.2.2.1 (SzI.len HY.out.num (by decide)) (SzI.len SA.out (by decide))).mono ?_
        rintro e u2 ⟨v, rfl, n, hb⟩
        replace T1 := hide (T1.out.below (hb))
        replace BXr := hide (BXr.out.step hb)
        have T2 := hide (n)
        replace HF := hide (FS.out _ _ HF.out hb)
        refine hK _ _ (fun _ => HF.out) ?_
        clear hK K hb n
        refine Calm.one (i := 8) (l' := #[true, true, true, true, true, true, true, true, true, true, false, true, false]) (by kernel_rfl) rfl rfl rfl fun K hK => ?_
        go_simp
        refine (iadd_any _ _ (x.num * sB x y) (y.num * sA x y) _ T1.out T2.out (SzI.len (HX.out.num.mul SB.out) (by decide)) (SzI.len (HY.out.num.mul SA.out) (by decide))).mono ?_
        rintro e u3 ⟨v, rfl, n, hb⟩
        clear T1
        clear T2
        replace BXr := hide (BXr.out.step hb)
        have T3 := hide (n)
        replace HF := hide (FS.out _ _ HF.out hb)
        refine hK _ _ (fun _ => HF.out) ?_
        clear hK K hb n
        refine Calm.one (i := 10) (l' := #[true, true, true, true, true, true, true, true, true, true, true, true, false]) (by kernel_rfl) rfl rfl rfl fun K hK => ?_
        go_simp
        refine (lowest_any _ _ (sS x y) (gdn x y) _ T3.out (FU.out _ HF.out).2.2.2.2.2.2.2.1 (SzI.len SS.out (by decide)) (SzI.len SG.out (by decide)) HG0.out).mono ?_
        rintro e u4 ⟨v, rfl, n, hb⟩
        obtain ⟨s6, m6, n6, c6, t6, o6, p6, d6, rfl, n⟩ := n.cells
        clear T3
        replace BXr := hide (BXr.out.step hb)
        have TR := hide (n)
        replace HF := hide (FS.out _ _ HF.out hb)
        refine hK _ _ (fun _ => HF.out) ?_
        clear hK K hb n
        refine Calm.one (i := 12) (l' := #[true, true, true, true, true, true, true, true, true, true, true, true, true]) (by kernel_rfl) rfl rfl rfl fun K hK => ?_
        have hc0 := BXr.out.cell0
        have hc1 := BXr.out.cell1
        have hc2 := BXr.out.cell2
        have hc3 := BXr.out.cell3
        have hf0 := BXr.out.free 0
        have hf1 := BXr.out.free 1
        have hf2 := BXr.out.free 2
        have hf3 := BXr.out.free 3
        go_simp
        replace HF := hide (FP4.out _ gr (.bool s6) (.slice m6 n6 c6) (.bool t6) (.slice o6 p6 d6) HF.out BXr.out LTr.out)
        replace TR := hide (TR.out.keep (BXr.out.keeps (by simp) (by simp) (by simp) (by simp) (.bool s6) (.slice m6 n6 c6) (.bool t6) (.slice o6 p6 d6)))
        replace BXr := hide (BXr.out.put (.bool s6) (.slice m6 n6 c6) (.bool t6) (.slice o6 p6 d6))
        refine hK _ _ (fun _ => HF.out) ?_
        clear hK K hc0 hf0 hc1 hf1 hc2 hf2 hc3 hf3
        generalize ((((u4.setCell ⟨gr, 0, none⟩ (.bool s6)).setCell ⟨gr, 1, none⟩ (.slice m6 n6 c6)).setCell ⟨gr, 2, none⟩ (.bool t6)).setCell ⟨gr, 3, none⟩ (.slice o6 p6 d6)) = ws12 at *
        refine Calm.done (by kernel_rfl) ?_
        have h := FU.out _ HF.out
        go_wp2
        go_meet
        case rel => exact ⟨gr, s6, m6, n6, c6, t6, o6, p6, d6, rfl, LTr.out, h.1, h.2.1, h.2.2.1, h.2.2.2.1, h.2.2.2.2.1, h.2.2.2.2.2.1, h.2.2.2.2.2.2.1, h.2.2.2.2.2.2.2.1, h.2.2.2.2.2.2.2.2.1, h.2.2.2.2.2.2.2.2.2.1, h.2.2.2.2.2.2.2.2.2.2.1, h.2.2.2.2.2.2.2.2.2.2.2, BXr.out, TR.out⟩
    · go_simp
      have al := below_alloc wc2d (.cells #[.bool false, .slice none 0 0, .bool false, .slice none 0 0] 27)
      have BXr := hide (Box4.new wc2d (.bool false) (.slice none 0 0) (.bool false) (.slice none 0 0))
      have LTr := hide (FL.out _ HF.out)
      replace HF := hide (FS.out _ _ HF.out al)
      refine hK _ _ (fun _ => HF.out) ?_
      clear hK K al
      generalize wc2d.alloc (.cells #[.bool false, .slice none 0 0, .bool false, .slice none 0 0] 27) = wzr at *
      generalize wc2d.heap.size = gr at *
      refine Calm.one (i := 3) (l' := #[true, true, true, true, true, true, true, false, false, true, false, true, false]) (by kernel_rfl) rfl rfl rfl fun K hK => ?_
      go_simp
      refine (imul_any _ _ x.num (sB x y) _ (FU.out _ HF.out).2.2.2.2.1.num (FU.out _ HF.out).2.2.2.2.2.2.2.2.2.2.2 (SzI.len HX.out.num (by decide)) (SzI.len SB.out (by decide))).mono ?_
      rintro e u1 ⟨v, rfl, n, hb⟩
      replace BXr := hide (BXr.out.step hb)
      have T1 := hide (n)
      replace HF := hide (FS.out _ _ HF.out hb)
      refine hK _ _ (fun _ => HF.out) ?_
      clear hK K hb n
      refine Calm.one (i := 7) (l' := #[true, true, true, true, true, true, true, true, false, true, false, true, false]) (by kernel_rfl) rfl rfl rfl fun K hK => ?_
      go_simp
      refine (imul_any _ _ y.num (sA x y) _ (FU.out _ HF.out).2.2.2.2.2.1.num (FU.out _ HF.out).2.2.2.2.2.2.2.2.2.2.1 (SzI.len HY.out.num (by decide)) (SzI.len SA.out (by decide))).mono ?_
      rintro e u2 ⟨v, rfl, n, hb⟩
      replace T1 := hide (T1.out.below (hb))
      replace BXr := hide (BXr.out.step hb)
      have T2 := hide (n)
      replace HF := hide (FS.out _ _ HF.out hb)
      refine hK _ _ (fun _ => HF.out) ?_
      clear hK K hb n
      refine Calm.one (i := 8) (l' := #[true, true, true, true, true, true, true, true, true, true, false, true, false]) (by kernel_rfl) rfl rfl rfl fun K hK => ?_
      go_simp
      refine (iadd_any _ _ (x.num * sB x y) (y.num * sA x y) _ T1.out T2.out (SzI.len (HX.out.num.mul SB.out) (by decide)) (SzI.len (HY.out.num.mul SA.out) (by decide))).mono ?_
      rintro e u3 ⟨v, rfl, n, hb⟩
      clear T1
      clear T2
      replace BXr := hide (BXr.out.step hb)
      have T3 := hide (n)
      replace HF := hide (FS.out _ _ HF.out hb)
      refine hK _ _ (fun _ => HF.out) ?_
      clear hK K hb n
      refine Calm.one (i := 10) (l' := #[true, true, true, true, true, true, true, true, true, true, true, true, false]) (by kernel_rfl) rfl rfl rfl fun K hK => ?_
      go_simp
      refine (lowest_any _ _ (sS x y) (gdn x y) _ T3.out (FU.out _ HF.out).2.2.2.2.2.2.2.1 (SzI.len SS.out (by decide)) (SzI.len SG.out (by decide)) HG0.out).mono ?_
      rintro e u4 ⟨v, rfl, n, hb⟩
      obtain ⟨s6, m6, n6, c6, t6, o6, p6, d6, rfl, n⟩ := n.cells
      clear T3
      replace BXr := hide (BXr.out.step hb)
      have TR := hide (n)
      replace HF := hide (FS.out _ _ HF.out hb)
      refine hK _ _ (fun _ => HF.out) ?_
      clear hK K hb n
      refine Calm.one (i := 12) (l' := #[true, true, true, true, true, true, true, true, true, true, true, true, true]) (by kernel_rfl) rfl rfl rfl fun K hK => ?_
      have hc0 := BXr.out.cell0
      have hc1 := BXr.out.cell1
      have hc2 := BXr.out.cell2
      have hc3 := BXr.out.cell3
      have hf0 := BXr.out.free 0
      have hf1 := BXr.out.free 1
      have hf2 := BXr.out.free 2
      have hf3 := BXr.out.free 3
      go_simp
      replace HF := hide (FP4.out _ gr (.bool s6) (.slice m6 n6 c6) (.bool t6) (.slice o6 p6 d6) HF.out BXr.out LTr.out)
      replace TR := hide (TR.out.keep (BXr.out.keeps (by simp) (by simp) (by simp) (by simp) (.bool s6) (.slice m6 n6 c6) (.bool t6) (.slice o6 p6 d6)))
      replace BXr := hide (BXr.out.put (.bool s6) (.slice m6 n6 c6) (.bool t6) (.slice o6 p6 d6))
      refine hK _ _ (fun _ => HF.out) ?_
      clear hK K hc0 hf0 hc1 hf1 hc2 hf2 hc3 hf3
      generalize ((((u4.setCell ⟨gr, 0, none⟩ (.bool s6)).setCell ⟨gr, 1, none⟩ (.slice m6 n6 c6)).setCell ⟨gr, 2, none⟩ (.bool t6)).setCell ⟨gr, 3, none⟩ (.slice o6 p6 d6)) = ws12 at *
      refine Calm.done (by kernel_rfl) ?_
      have h := FU.out _ HF.out
      go_wp2
      go_meet
      case rel => exact ⟨gr, s6, m6, n6, c6, t6, o6, p6, d6, rfl, LTr.out, h.1, h.2.1, h.2.2.1, h.2.2.2.1, h.2.2.2.2.1, h.2.2.2.2.2.1, h.2.2.2.2.2.2.1, h.2.2.2.2.2.2.2.1, h.2.2.2.2.2.2.2.2.1, h.2.2.2.2.2.2.2.2.2.1, h.2.2.2.2.2.2.2.2.2.2.1, h.2.2.2.2.2.2.2.2.2.2.2, BXr.out, TR.out⟩
  case rest =>
  obtain ⟨gr, s6, m6, n6, c6, t6, o6, p6, d6, rfl, hlts, h0, h1, h2, h3, h4, h5, h6, h7, h8, h9, h10, h11, br, eTR⟩ := hcut
  clear HB P0 P1 P2 I1 I2 Vg TG Va Vb TA TB
  have HB := hide h0
  have P0 := hide h1
  have P1 := hide h2
  have P2 := hide h3
  have I1 := hide h4
  have I2 := hide h5
  have Vg := hide h6
  have TG := hide h7
  have Va := hide h8
  have Vb := hide h9
  have TA := hide h10
  have TB := hide h11
  have LTS3 := hide hlts
  have Vr := hide br
  have TR := hide eTR
  clear hlts h0 h1 h2 h3 h4 h5 h6 h7 h8 h9 h10 h11 br eTR
  generalize hwc : wc = wc3 at *
  clear hwc
  go_wp2_with fail
  have LTS := hide (And.intro LTS2.out LTS3.out)
  replace P2 := hide P2.out.drew
  refine wp_calm (fun w' => Below w.heap.size w w' ∧ Box w' ga (.bool s4) (.slice m4 n4 c4) ∧ Box w' gb (.bool s5) (.slice m5 n5 c5) ∧ Box4 w' gr (.bool s6) (.slice m6 n6 c6) (.bool t6) (.slice o6 p6 d6) ∧ IntAt w' (.agg #[.bool s4, .slice m4 n4 c4]) (sA x y) ∧ IntAt w' (.agg #[.bool s5, .slice m5 n5 c5]) (sB x y) ∧ RatAt w' (.agg #[.bool s6, .slice m6 n6 c6, .bool t6, .slice o6 p6 d6]) (Rat.divInt (sS x y) (gdn x y))) (fun _ => true) 10 #[false, false, false, false, false, false, false, false, false, false] (by kernel_rfl) rfl rfl ?_
  have HF := hide (And.intro (HB.out.drew) (And.intro (Va.out.drew) (And.intro (Vb.out.drew) (And.intro (Vr.out.drew) (And.intro (TA.out.drew) (And.intro (TB.out.drew) (TR.out.drew)))))))
  generalize wc3.drew = wc3d at *
  refine Calm.take (i := 0) (v := ?_) (a' := ?_) (l' := #[true, false, false, false, false, false, false, false, false, false]) (d := some 33) rfl (by kernel_rfl) (by kernel_rfl) (by kernel_rfl) (by kernel_rfl) (fun _ _ _ h => h) HF.out rfl ?_ rfl rfl ?_ ?_
  rotate_left
  · intro w' hF; clear hF; go_simp; try rfl
  rotate_left
  · simp only [Act.put]; exact rfl
  refine Calm.take (i := 1) (v := ?_) (a' := ?_) (l' := #[true, true, false, false, false, false, false, false, false, false]) (d := some 34) rfl (by kernel_rfl) (by kernel_rfl) (by kernel_rfl) (by kernel_rfl) (fun _ _ _ h => h) HF.out rfl ?_ rfl rfl ?_ ?_
  rotate_left
  · intro w' hF; have f10 := hF.2.1.cell0; have f11 := hF.2.1.cell1; have f20 := hF.2.2.1.cell0; have f21 := hF.2.2.1.cell1; have f30 := hF.2.2.2.1.cell0; have f31 := hF.2.2.2.1.cell1; have f32 := hF.2.2.2.1.cell2; have f33 := hF.2.2.2.1.cell3; clear hF; go_simp; try rfl
  rotate_left
  · simp only [Act.put]; exact rfl
  refine Calm.take (i := 2) (v := ?_) (a' := ?_) (l' := #[true, true, true, false, false, false, false, false, false, false]) (d := some 35) rfl (by kernel_rfl) (by kernel_rfl) (by kernel_rfl) (by kernel_rfl) (fun _ _ _ h => h) HF.out rfl ?_ rfl rfl ?_ ?_
  rotate_left
  · intro w' hF; have f10 := hF.2.1.cell0; have f11 := hF.2.1.cell1; have f20 := hF.2.2.1.cell0; have f21 := hF.2.2.1.cell1; have f30 := hF.2.2.2.1.cell0; have f31 := hF.2.2.2.1.cell1; have f32 := hF.2.2.2.1.cell2; have f33 := hF.2.2.2.1.cell3; clear hF; go_simp; try rfl
  rotate_left
  · simp only [Act.put]; exact rfl
  refine Calm.take (i := 3) (v := ?_) (a' := ?_) (l' := #[true, true, true, true, false, false, false, false, false, false]) (d := some 36) rfl (by kernel_rfl) (by kernel_rfl) (by kernel_rfl) (by kernel_rfl) (fun _ _ _ h => h) HF.out rfl ?_ rfl rfl ?_ ?_
  rotate_left
  · intro w' hF; have f10 := hF.2.1.cell0; have f11 := hF.2.1.cell1; have f20 := hF.2.2.1.cell0; have f21 := hF.2.2.1.cell1; have f30 := hF.2.2.2.1.cell0; have f31 := hF.2.2.2.1.cell1; have f32 := hF.2.2.2.1.cell2; have f33 := hF.2.2.2.1.cell3; clear hF; go_simp; try rfl
  rotate_left
  · simp only [Act.put]; exact rfl
  refine Calm.take (i := 4) (v := ?_) (a' := ?_) (l' := #[true, true, true, true, true, false, false, false, false, false]) (d := some 37) rfl (by kernel_rfl) (by kernel_rfl) (by kernel_rfl) (by kernel_rfl) (fun _ _ _ h => h) HF.out rfl ?_ rfl rfl ?_ ?_
  rotate_left
  · intro w' hF; have f10 := hF.2.1.cell0; have f11 := hF.2.1.cell1; have f20 := hF.2.2.1.cell0; have f21 := hF.2.2.1.cell1; have f30 := hF.2.2.2.1.cell0; have f31 := hF.2.2.2.1.cell1; have f32 := hF.2.2.2.1.cell2; have f33 := hF.2.2.2.1.cell3; clear hF; go_simp; try rfl
  rotate_left
  · simp only [Act.put]; exact rfl
  refine Calm.one (i := 5) (l' := #[true, true, true, true, true, true, false, false, false, false]) (by kernel_rfl) rfl rfl rfl fun K hK => ?_
  go_simp
  refine (den_any _ (Rat.divInt (sS x y) (gdn x y)) _ HF.out.2.2.2.2.2.2).mono ?_
  rintro e u1 ⟨v, rfl, n, hb⟩
  obtain ⟨s7, m7, n7, c7, rfl, n⟩ := n.cells
  replace P2 := hide (P2.out.step (hb))
  have HF' := hide (And.intro (HF.out.1.trans ((hb).mono HF.out.1.size)) (And.intro (HF.out.2.1.step (hb)) (And.intro (HF.out.2.2.1.step (hb)) (And.intro (HF.out.2.2.2.1.step (hb)) (And.intro (HF.out.2.2.2.2.1.below (hb)) (And.intro (HF.out.2.2.2.2.2.1.below (hb)) (HF.out.2.2.2.2.2.2.below (hb))))))))
  have T1 := hide (n)
  refine hK _ _ (fun _ => HF'.out) ?_
  clear hK K HF hb n
  have HF := hide HF'.out
  clear HF'
  refine Calm.one (i := 6) (l' := #[true, true, true, true, true, true, true, false, false, false]) (by kernel_rfl) rfl rfl rfl fun K hK => ?_
  go_simp
  have al := below_alloc u1 (.cells #[.bool s4, .slice m4 n4 c4, .bool s5, .slice m5 n5 c5, .bool s7, .slice m7 n7 c7] 25)
  have HF' := hide (And.intro (HF.out.1.trans ((al).mono HF.out.1.size)) (And.intro (HF.out.2.1.step (al)) (And.intro (HF.out.2.2.1.step (al)) (And.intro (HF.out.2.2.2.1.step (al)) (And.intro (HF.out.2.2.2.2.1.below (al)) (And.intro (HF.out.2.2.2.2.2.1.below (al)) (HF.out.2.2.2.2.2.2.below (al))))))))
  have BXl := hide (ints_lit3 (t := 25) HF.out.2.2.2.2.1 HF.out.2.2.2.2.2.1 T1.out)
  replace P2 := hide (P2.out.step (al))
  replace T1 := hide (T1.out.below (al))
  have LT1l := hide (HF.out.2.1.lt)
  have LT2l := hide (HF.out.2.2.1.lt)
  have LT3l := hide (HF.out.2.2.2.1.lt)
  have GEl := hide (HF.out.1.size)
  refine hK _ _ (fun _ => HF'.out) ?_
  clear hK K HF al
  have HF := hide HF'.out
  clear HF'
  generalize u1.alloc (.cells #[.bool s4, .slice m4 n4 c4, .bool s5, .slice m5 n5 c5, .bool s7, .slice m7 n7 c7] 25) = wzl at *
  generalize u1.heap.size = gl at *
  refine Calm.one (i := 7) (l' := #[true, true, true, true, true, true, true, true, false, false]) (by kernel_rfl) rfl rfl rfl fun K hK => ?_
  go_simp
  refine (iproduct_big _ (sA x y) (sB x y) ((Rat.divInt (sS x y) (gdn x y)).den : Int) _ BXl.out (SA.out) (SB.out) DR.out.2).mono ?_
  rintro e u2 ⟨v, rfl, n, hb⟩
  replace P2 := hide (P2.out.step (hb))
  replace T1 := hide (T1.out.below (hb))
  replace BXl := hide (BXl.out.below hb)
  have HF' := hide (And.intro (HF.out.1.trans ((hb).mono HF.out.1.size)) (And.intro (HF.out.2.1.step (hb)) (And.intro (HF.out.2.2.1.step (hb)) (And.intro (HF.out.2.2.2.1.step (hb)) (And.intro (HF.out.2.2.2.2.1.below (hb)) (And.intro (HF.out.2.2.2.2.2.1.below (hb)) (HF.out.2.2.2.2.2.2.below (hb))))))))
  have T2 := hide (n)
  refine hK _ _ (fun _ => HF'.out) ?_
  clear hK K HF hb n
  have HF := hide HF'.out
  clear HF'
  refine Calm.one (i := 8) (l' := #[true, true, true, true, true, true, true, true, true, false]) (by kernel_rfl) rfl rfl rfl fun K hK => ?_
  go_simp
  refine (rmade_any _ _ (x + y) _ (by rw [(add_terms x y).1]; exact HF.out.2.2.2.2.2.2.num) (by rw [(add_terms x y).2]; exact T2.out)).mono ?_
  rintro e u3 ⟨v, rfl, n, hb⟩
  obtain ⟨s9, m9, n9, c9, t9, o9, p9, d9, rfl, n⟩ := n.cells
  replace P2 := hide (P2.out.step (hb))
  clear T1
  clear T2
  replace BXl := hide (BXl.out.below hb)
  have HF' := hide (And.intro (HF.out.1.trans ((hb).mono HF.out.1.size)) (And.intro (HF.out.2.1.step (hb)) (And.intro (HF.out.2.2.1.step (hb)) (And.intro (HF.out.2.2.2.1.step (hb)) (And.intro (HF.out.2.2.2.2.1.below (hb)) (And.intro (HF.out.2.2.2.2.2.1.below (hb)) (HF.out.2.2.2.2.2.2.below (hb))))))))
  have TQ := hide (n)
  refine hK _ _ (fun _ => HF'.out) ?_
  clear hK K HF hb n
  have HF := hide HF'.out
  clear HF'
  refine Calm.one (i := 9) (l' := #[true, true, true, true, true, true, true, true, true, true]) (by kernel_rfl) rfl rfl rfl fun K hK => ?_
  have hc0 := P2.out.cell0
  have hc1 := P2.out.cell1
  have hc2 := P2.out.cell2
  have hc3 := P2.out.cell3
  have hf0 := P2.out.free 0
  have hf1 := P2.out.free 1
  have hf2 := P2.out.free 2
  have hf3 := P2.out.free 3
  go_simp
  have HF' := hide (And.intro (below_put4 HF.out.1 (show w.heap.size ≤ (w.heap.size + 1 + 1) by have hx := LTS.out; omega) (.bool s9) (.slice m9 n9 c9) (.bool t9) (.slice o9 p9 d9)) (And.intro (HF.out.2.1.other4 (C := (w.heap.size + 1 + 1)) (by have hx := LTS.out; omega) (.bool s9) (.slice m9 n9 c9) (.bool t9) (.slice o9 p9 d9)) (And.intro (HF.out.2.2.1.other4 (C := (w.heap.size + 1 + 1)) (by have hx := LTS.out; omega) (.bool s9) (.slice m9 n9 c9) (.bool t9) (.slice o9 p9 d9)) (And.intro (HF.out.2.2.2.1.other4 (C := (w.heap.size + 1 + 1)) (by have hx := LTS.out; omega) (.bool s9) (.slice m9 n9 c9) (.bool t9) (.slice o9 p9 d9)) (And.intro (HF.out.2.2.2.2.1.keep (P2.out.keeps (by simp) (by simp) (by simp) (by simp) (.bool s9) (.slice m9 n9 c9) (.bool t9) (.slice o9 p9 d9))) (And.intro (HF.out.2.2.2.2.2.1.keep (P2.out.keeps (by simp) (by simp) (by simp) (by simp) (.bool s9) (.slice m9 n9 c9) (.bool t9) (.slice o9 p9 d9))) (HF.out.2.2.2.2.2.2.keep (P2.out.keeps (by simp) (by simp) (by simp) (by simp) (.bool s9) (.slice m9 n9 c9) (.bool t9) (.slice o9 p9 d9)))))))))
  replace TQ := hide (TQ.out.keep (P2.out.keeps (by simp) (by simp) (by simp) (by simp) (.bool s9) (.slice m9 n9 c9) (.bool t9) (.slice o9 p9 d9)))
  clear BXl
  replace P2 := hide (P2.out.put (.bool s9) (.slice m9 n9 c9) (.bool t9) (.slice o9 p9 d9))
  refine hK _ _ (fun _ => HF'.out) ?_
  clear hK K HF hc0 hf0 hc1 hf1 hc2 hf2 hc3 hf3
  have HF := hide HF'.out
  clear HF'
  generalize ((((u3.setCell ⟨(w.heap.size + 1 + 1), 0, none⟩ (.bool s9)).setCell ⟨(w.heap.size + 1 + 1), 1, none⟩ (.slice m9 n9 c9)).setCell ⟨(w.heap.size + 1 + 1), 2, none⟩ (.bool t9)).setCell ⟨(w.heap.size + 1 + 1), 3, none⟩ (.slice o9 p9 d9)) = u8 at *
  refine Calm.done (by kernel_rfl) ?_
  replace HB := hide HF.out.1
  replace Va := hide HF.out.2.1
  replace Vb := hide HF.out.2.2.1
  replace Vr := hide HF.out.2.2.2.1
  replace TA := hide HF.out.2.2.2.2.1
  replace TB := hide HF.out.2.2.2.2.2.1
  replace TR := hide HF.out.2.2.2.2.2.2
  clear HF
  clear I1
  clear I2
  clear P0
  clear P1
  clear Vg
  clear TG
  go_wp2
  refine ret_rat rfl (w.heap.size + 1 + 1) _ _ _ _ rfl P2.out rfl ?_
  exact ⟨_, rfl, TQ.out, HB.out⟩

set_option maxRecDepth 100000 in
set_option maxHeartbeats 4000000 in
theorem rtsub_any (v1 v2 : Value) (x y : Rat) (w : World) (h1 : RatAt w v1 x) (h2 : RatAt w v2 y) (hx : SzR 100000000 x) (hy : SzR 100000000 y) :
    Calls Try.prog 24 #[v1, v2] w fun e w' => ∃ v', e = .returned v' ∧ RatAt w' v' (x - y) ∧ Below w.heap.size w w' := by
  have HX := hide hx
  have HY := hide hy
  clear hx hy
  obtain ⟨s1, m1, n1, c1, t1, o1, p1, d1, rfl, i1⟩ := h1.cells
  have I1 := hide i1
  clear h1 i1
  obtain ⟨s2, m2, n2, c2, t2, o2, p2, d2, rfl, i2⟩ := h2.cells
  have I2 := hide i2
  clear h2 i2
  have P0 := Box4.new w (.bool s1) (.slice m1 n1 c1) (.bool t1) (.slice o1 p1 d1)
  replace P0 := P0.step (below_alloc _ (.cells #[.bool s2, .slice m2 n2 c2, .bool t2, .slice o2 p2 d2] 27))
  replace P0 := P0.step (below_alloc _ (.cells #[.bool false, .slice none 0 0, .bool false, .slice none 0 0] 27))
  replace P0 := hide P0
  have P1 := Box4.new (w.alloc (.cells #[.bool s1, .slice m1 n1 c1, .bool t1, .slice o1 p1 d1] 27)) (.bool s2) (.slice m2 n2 c2) (.bool t2) (.slice o2 p2 d2)
  simp only [World.size_alloc] at P1
  replace P1 := P1.step (below_alloc _ (.cells #[.bool false, .slice none 0 0, .bool false, .slice none 0 0] 27))
  replace P1 := hide P1
  have P2 := Box4.new ((w.alloc (.cells #[.bool s1, .slice m1 n1 c1, .bool t1, .slice o1 p1 d1] 27)).alloc (.cells #[.bool s2, .slice m2 n2 c2, .bool t2, .slice o2 p2 d2] 27)) (.bool false) (.slice none 0 0) (.bool false) (.slice none 0 0)
  simp only [World.size_alloc] at P2
  replace P2 := hide P2
  have HB := below_alloc w (.cells #[.bool s1, .slice m1 n1 c1, .bool t1, .slice o1 p1 d1] 27)
  replace HB := HB.trans ((below_alloc _ (.cells #[.bool s2, .slice m2 n2 c2, .bool t2, .slice o2 p2 d2] 27)).mono (by simp only [World.size_alloc]; omega))
  replace HB := HB.trans ((below_alloc _ (.cells #[.bool false, .slice none 0 0, .bool false, .slice none 0 0] 27)).mono (by simp only [World.size_alloc]; omega))
  replace I1 := hide (I1.out.below HB)
  replace I2 := hide (I2.out.below HB)
  replace HB := hide HB
  go_enter Try.func24, Try.ntmps24
  go_wp2_with fail
  generalize (((w.alloc (.cells #[.bool s1, .slice m1 n1 c1, .bool t1, .slice o1 p1 d1] 27)).alloc (.cells #[.bool s2, .slice m2 n2 c2, .bool t2, .slice o2 p2 d2] 27)).alloc (.cells #[.bool false, .slice none 0 0, .bool false, .slice none 0 0] 27)) = w0 at *
  have LTS : Hid True := hide trivial
  replace P2 := hide P2.out.drew
  refine wp_calm (fun w' => Below w.heap.size w w' ∧ Box4 w' w.heap.size (.bool s1) (.slice m1 n1 c1) (.bool t1) (.slice o1 p1 d1) ∧ Box4 w' (w.heap.size + 1) (.bool s2) (.slice m2 n2 c2) (.bool t2) (.slice o2 p2 d2) ∧ RatAt w' (.agg #[.bool s1, .slice m1 n1 c1, .bool t1, .slice o1 p1 d1]) x ∧ RatAt w' (.agg #[.bool s2, .slice m2 n2 c2, .bool t2, .slice o2 p2 d2]) y) (fun _ => true) 5 #[false, false, false, false, false] (by kernel_rfl) rfl rfl ?_
  have HF := hide (And.intro (HB.out.drew) (And.intro (P0.out.drew) (And.intro (P1.out.drew) (And.intro (I1.out.drew) (I2.out.drew)))))
  generalize w0.drew = w0d at *
  refine Calm.take (i := 0) (v := ?_) (a' := ?_) (l' := #[true, false, false, false, false]) (d := some 5) rfl (by kernel_rfl) (by kernel_rfl) (by kernel_rfl) (by kernel_rfl) (fun _ _ _ h => h) HF.out rfl ?_ rfl rfl ?_ ?_
  rotate_left
  · intro w' hF; have f10 := hF.2.1.cell0; have f11 := hF.2.1.cell1; have f12 := hF.2.1.cell2; have f13 := hF.2.1.cell3; have f20 := hF.2.2.1.cell0; have f21 := hF.2.2.1.cell1; have f22 := hF.2.2.1.cell2; have f23 := hF.2.2.1.cell3; clear hF; go_simp; try rfl
  rotate_left
  · simp only [Act.put]; exact rfl
  refine Calm.take (i := 1) (v := ?_) (a' := ?_) (l' := #[true, true, false, false, false]) (d := some 6) rfl (by kernel_rfl) (by kernel_rfl) (by kernel_rfl) (by kernel_rfl) (fun _ _ _ h => h) HF.out rfl ?_ rfl rfl ?_ ?_
  rotate_left
  · intro w' hF; have f10 := hF.2.1.cell0; have f11 := hF.2.1.cell1; have f12 := hF.2.1.cell2; have f13 := hF.2.1.cell3; have f20 := hF.2.2.1.cell0; have f21 := hF.2.2.1.cell1; have f22 := hF.2.2.1.cell2; have f23 := hF.2.2.1.cell3; clear hF; go_simp; try rfl
  rotate_left
  · simp only [Act.put]; exact rfl
  refine Calm.one (i := 2) (l' := #[true, true, true, false, false]) (by kernel_rfl) rfl rfl rfl fun K hK => ?_
  go_simp
  refine (rtneg_any _ y _ HF.out.2.2.2.2).mono ?_
  rintro e u1 ⟨v, rfl, n, hb⟩
  replace P2 := hide (P2.out.step (hb))
  have HF' := hide (And.intro (HF.out.1.trans ((hb).mono HF.out.1.size)) (And.intro (HF.out.2.1.step (hb)) (And.intro (HF.out.2.2.1.step (hb)) (And.intro (HF.out.2.2.2.1.below (hb)) (HF.out.2.2.2.2.below (hb))))))
  have T1 := hide (n)
  refine hK _ _ (fun _ => HF'.out) ?_
  clear hK K HF hb n
  have HF := hide HF'.out
  clear HF'
  refine Calm.one (i := 3) (l' := #[true, true, true, true, false]) (by kernel_rfl) rfl rfl rfl fun K hK => ?_
  go_simp
  refine (rtadd_any _ _ x (-y) _ HF.out.2.2.2.1 T1.out HX.out HY.out.neg).mono ?_
  rintro e u2 ⟨v, rfl, n, hb⟩
  obtain ⟨s9, m9, n9, c9, t9, o9, p9, d9, rfl, n⟩ := n.cells
  replace P2 := hide (P2.out.step (hb))
  clear T1
  have HF' := hide (And.intro (HF.out.1.trans ((hb).mono HF.out.1.size)) (And.intro (HF.out.2.1.step (hb)) (And.intro (HF.out.2.2.1.step (hb)) (And.intro (HF.out.2.2.2.1.below (hb)) (HF.out.2.2.2.2.below (hb))))))
  have TR := hide (n)
  refine hK _ _ (fun _ => HF'.out) ?_
  clear hK K HF hb n
  have HF := hide HF'.out
  clear HF'
  refine Calm.one (i := 4) (l' := #[true, true, true, true, true]) (by kernel_rfl) rfl rfl rfl fun K hK => ?_
  have hc0 := P2.out.cell0
  have hc1 := P2.out.cell1
  have hc2 := P2.out.cell2
  have hc3 := P2.out.cell3
  have hf0 := P2.out.free 0
  have hf1 := P2.out.free 1
  have hf2 := P2.out.free 2
  have hf3 := P2.out.free 3
  go_simp
  have HF' := hide (And.intro (below_put4 HF.out.1 (show w.heap.size ≤ (w.heap.size + 1 + 1) by have hx := LTS.out; omega) (.bool s9) (.slice m9 n9 c9) (.bool t9) (.slice o9 p9 d9)) (And.intro (HF.out.2.1.other4 (C := (w.heap.size + 1 + 1)) (by have hx := LTS.out; omega) (.bool s9) (.slice m9 n9 c9) (.bool t9) (.slice o9 p9 d9)) (And.intro (HF.out.2.2.1.other4 (C := (w.heap.size + 1 + 1)) (by have hx := LTS.out; omega) (.bool s9) (.slice m9 n9 c9) (.bool t9) (.slice o9 p9 d9)) (And.intro (HF.out.2.2.2.1.keep (P2.out.keeps (by simp) (by simp) (by simp) (by simp) (.bool s9) (.slice m9 n9 c9) (.bool t9) (.slice o9 p9 d9))) (HF.out.2.2.2.2.keep (P2.out.keeps (by simp) (by simp) (by simp) (by simp) (.bool s9) (.slice m9 n9 c9) (.bool t9) (.slice o9 p9 d9)))))))
  replace TR := hide (TR.out.keep (P2.out.keeps (by simp) (by simp) (by simp) (by simp) (.bool s9) (.slice m9 n9 c9) (.bool t9) (.slice o9 p9 d9)))
  replace P2 := hide (P2.out.put (.bool s9) (.slice m9 n9 c9) (.bool t9) (.slice o9 p9 d9))
  refine hK _ _ (fun _ => HF'.out) ?_
  clear hK K HF hc0 hf0 hc1 hf1 hc2 hf2 hc3 hf3
  have HF := hide HF'.out
  clear HF'
  generalize ((((u2.setCell ⟨(w.heap.size + 1 + 1), 0, none⟩ (.bool s9)).setCell ⟨(w.heap.size + 1 + 1), 1, none⟩ (.slice m9 n9 c9)).setCell ⟨(w.heap.size + 1 + 1), 2, none⟩ (.bool t9)).setCell ⟨(w.heap.size + 1 + 1), 3, none⟩ (.slice o9 p9 d9)) = u8 at *
  refine Calm.done (by kernel_rfl) ?_
  replace HB := hide HF.out.1
  replace P0 := hide HF.out.2.1
  replace P1 := hide HF.out.2.2.1
  replace I1 := hide HF.out.2.2.2.1
  replace I2 := hide HF.out.2.2.2.2
  clear HF
  go_wp2
  refine ret_rat rfl (w.heap.size + 1 + 1) _ _ _ _ rfl P2.out rfl ?_
  exact ⟨_, rfl, by rw [Rat.sub_eq_add_neg]; exact TR.out, HB.out⟩
end Go.Proofs.Ytpbfbjipdacbkaa
