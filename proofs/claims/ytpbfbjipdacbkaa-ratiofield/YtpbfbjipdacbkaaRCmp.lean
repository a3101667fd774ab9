/- ratio.Rat's Cmp and Floor. -/
import Derived.Test.YtpbfbjipdacbkaaRLow
import Derived.Deep.Cut
namespace Go.Proofs.Ytpbfbjipdacbkaa
open Go.RowKit

set_option maxRecDepth 100000 in
set_option maxHeartbeats 4000000 in
theorem rtcmp_any (v1 v2 : Value) (x y : Rat) (w : World) (h1 : RatAt w v1 x) (h2 : RatAt w v2 y) (hx : SzR 100000000 x) (hy : SzR 100000000 y) :
    Calls Try.prog 22 #[v1, v2] w fun e w' => e = .returned (.int .i64 (cmpZ (x.num * (y.den : Int)) (y.num * (x.den : Int)))) ∧ Below w.heap.size w w' := by
  have HX := hide hx
  have HY := hide hy
  clear hx hy
  obtain ⟨s1, m1, n1, c1, t1, o1, p1, d1, rfl, i1⟩ := h1.cells
  have I1 := hide i1
  clear h1 i1
  obtain ⟨s2, m2, n2, c2, t2, o2, p2, d2, rfl, i2⟩ := h2.cells
  have I2 := hide i2
  clear h2 i2
  have P0 := Box4.new w (.bool s1) (.slice m1 n1 c1) (.bool t1) (.slice o1 p1 d1)
  replace P0 := P0.step (below_alloc _ (.cells #[.bool s2, .slice m2 n2 c2, .bool t2, .slice o2 p2 d2] 27))
  replace P0 := hide P0
  have P1 := Box4.new (w.alloc (.cells #[.bool s1, .slice m1 n1 c1, .bool t1, .slice o1 p1 d1] 27)) (.bool s2) (.slice m2 n2 c2) (.bool t2) (.slice o2 p2 d2)
  simp only [World.size_alloc] at P1
  replace P1 := hide P1
  have HB := below_alloc w (.cells #[.bool s1, .slice m1 n1 c1, .bool t1, .slice o1 p1 d1] 27)
  replace HB := HB.trans ((below_alloc _ (.cells #[.bool s2, .slice m2 n2 c2, .bool t2, .slice o2 p2 d2] 27)).mono (by simp only [World.size_alloc]; omega))
  replace I1 := hide (I1.out.below HB)
  replace I2 := hide (I2.out.below HB)
  replace HB := hide HB
  go_enter Try.func22, Try.ntmps22
  go_wp2_with fail
  generalize ((w.alloc (.cells #[.bool s1, .slice m1 n1 c1, .bool t1, .slice o1 p1 d1] 27)).alloc (.cells #[.bool s2, .slice m2 n2 c2, .bool t2, .slice o2 p2 d2] 27)) = w0 at *
  refine wp_calm (fun w' => Below w.heap.size w w' ∧ Box4 w' w.heap.size (.bool s1) (.slice m1 n1 c1) (.bool t1) (.slice o1 p1 d1) ∧ Box4 w' (w.heap.size + 1) (.bool s2) (.slice m2 n2 c2) (.bool t2) (.slice o2 p2 d2) ∧ RatAt w' (.agg #[.bool s1, .slice m1 n1 c1, .bool t1, .slice o1 p1 d1]) x ∧ RatAt w' (.agg #[.bool s2, .slice m2 n2 c2, .bool t2, .slice o2 p2 d2]) y) (fun _ => true) 12 #[false, false, false, false, false, false, false, false, false, false, false, false] (by kernel_rfl) rfl rfl ?_
  have HF := hide (And.intro (HB.out.drew) (And.intro (P0.out.drew) (And.intro (P1.out.drew) (And.intro (I1.out.drew) (I2.out.drew)))))
  generalize w0.drew = w0d at *
  refine Calm.take (i := 0) (v := ?_) (a' := ?_) (l' := #[true, false, false, false, false, false, false, false, false, false, false, false]) (d := some 5) rfl (by kernel_rfl) (by kernel_rfl) (by kernel_rfl) (by kernel_rfl) (fun _ _ _ h => h) HF.out rfl ?_ rfl rfl ?_ ?_
  rotate_left
  · intro w' hF; clear hF; go_simp; try rfl
  rotate_left
  · simp only [Act.put]; exact rfl
  refine Calm.take (i := 1) (v := ?_) (a' := ?_) (l' := #[true, true, false, false, false, false, false, false, false, false, false, false]) (d := some 6) rfl (by kernel_rfl) (by kernel_rfl) (by kernel_rfl) (by kernel_rfl) (fun _ _ _ h => h) HF.out rfl ?_ rfl rfl ?_ ?_
  rotate_left
  · intro w' hF; have f10 := hF.2.1.cell0; have f11 := hF.2.1.cell1; have f12 := hF.2.1.cell2; have f13 := hF.2.1.cell3; have f20 := hF.2.2.1.cell0; have f21 := hF.2.2.1.cell1; have f22 := hF.2.2.1.cell2; have f23 := hF.2.2.1.cell3; clear hF; go_simp; try rfl
  rotate_left
  · simp only [Act.put]; exact rfl
  refine Calm.take (i := 2) (v := ?_) (a' := ?_) (l' := #[true, true, true, false, false, false, false, false, false, false, false, false]) (d := some 7) rfl (by kernel_rfl) (by kernel_rfl) (by kernel_rfl) (by kernel_rfl) (fun _ _ _ h => h) HF.out rfl ?_ rfl rfl ?_ ?_
  rotate_left
  · intro w' hF; have f10 := hF.2.1.cell0; have f11 := hF.2.1.cell1; have f12 := hF.2.1.cell2; have f13 := hF.2.1.cell3; have f20 := hF.2.2.1.cell0; have f21 := hF.2.2.1.cell1; have f22 := hF.2.2.1.cell2; have f23 := hF.2.2.1.cell3; clear hF; go_simp; try rfl
  rotate_left
  · simp only [Act.put]; exact rfl
  refine Calm.take (i := 5) (v := ?_) (a' := ?_) (l' := #[true, true, true, false, false, true, false, false, false, false, false, false]) (d := some 10) rfl (by kernel_rfl) (by kernel_rfl) (by kernel_rfl) (by kernel_rfl) (fun _ _ _ h => h) HF.out rfl ?_ rfl rfl ?_ ?_
  rotate_left
  · intro w' hF; clear hF; go_simp; try rfl
  rotate_left
  · simp only [Act.put]; exact rfl
  refine Calm.take (i := 6) (v := ?_) (a' := ?_) (l' := #[true, true, true, false, false, true, true, false, false, false, false, false]) (d := some 11) rfl (by kernel_rfl) (by kernel_rfl) (by kernel_rfl) (by kernel_rfl) (fun _ _ _ h => h) HF.out rfl ?_ rfl rfl ?_ ?_
  rotate_left
  · intro w' hF; have f10 := hF.2.1.cell0; have f11 := hF.2.1.cell1; have f12 := hF.2.1.cell2; have f13 := hF.2.1.cell3; have f20 := hF.2.2.1.cell0; have f21 := hF.2.2.1.cell1; have f22 := hF.2.2.1.cell2; have f23 := hF.2.2.1.cell3; clear hF; go_simp; try rfl
  rotate_left
  · simp only [Act.put]; exact rfl
  refine Calm.take (i := 7) (v := ?_) (a' := ?_) (l' := #[true, true, true, false, false, true, true, true, false, false, false, false]) (d := some 12) rfl (by kernel_rfl) (by kernel_rfl) (by kernel_rfl) (by kernel_rfl) (fun _ _ _ h => h) HF.out rfl ?_ rfl rfl ?_ ?_
  rotate_left
  · intro w' hF; have f10 := hF.2.1.cell0; have f11 := hF.2.1.cell1; have f12 := hF.2.1.cell2; have f13 := hF.2.1.cell3; have f20 := hF.2.2.1.cell0; have f21 := hF.2.2.1.cell1; have f22 := hF.2.2.1.cell2; have f23 := hF.2.2.1.cell3; clear hF; go_simp; try rfl
  rotate_left
  · simp only [Act.put]; exact rfl
  refine Calm.one (i := 3) (l' := #[true, true, true, true, false, true, true, true, false, false, false, false]) (by kernel_rfl) rfl rfl rfl fun K hK => ?_
  go_simp
  refine (den_any _ y _ HF.out.2.2.2.2).mono ?_
  rintro e u1 ⟨v, rfl, n, hb⟩
  have HF' := hide (And.intro (HF.out.1.trans ((hb).mono HF.out.1.size)) (And.intro (HF.out.2.1.step (hb)) (And.intro (HF.out.2.2.1.step (hb)) (And.intro (HF.out.2.2.2.1.below (hb)) (HF.out.2.2.2.2.below (hb))))))
  have T1 := hide (n)
  refine hK _ _ (fun _ => HF'.out) ?_
  clear hK K HF hb n
  have HF := hide HF'.out
  clear HF'
  refine Calm.one (i := 4) (l' := #[true, true, true, true, true, true, true, true, false, false, false, false]) (by kernel_rfl) rfl rfl rfl fun K hK => ?_
  go_simp
  refine (imul_any _ _ x.num (y.den : Int) _ HF.out.2.2.2.1.num T1.out (SzI.len HX.out.num (by decide)) (SzI.len HY.out.den (by decide))).mono ?_
  rintro e u2 ⟨v, rfl, n, hb⟩
  clear T1
  have HF' := hide (And.intro (HF.out.1.trans ((hb).mono HF.out.1.size)) (And.intro (HF.out.2.1.step (hb)) (And.intro (HF.out.2.2.1.step (hb)) (And.intro (HF.out.2.2.2.1.below (hb)) (HF.out.2.2.2.2.below (hb))))))
  have T2 := hide (n)
  refine hK _ _ (fun _ => HF'.out) ?_
  clear hK K HF hb n
  have HF := hide HF'.out
  clear HF'
  refine Calm.one (i := 8) (l' := #[true, true, true, true, true, true, true, true, true, false, false, false]) (by kernel_rfl) rfl rfl rfl fun K hK => ?_
  go_simp
  refine (den_any _ x _ HF.out.2.2.2.1).mono ?_
  rintro e u3 ⟨v, rfl, n, hb⟩
  replace T2 := hide (T2.out.below (hb))
  have HF' := hide (And.intro (HF.out.1.trans ((hb).mono HF.out.1.size)) (And.intro (HF.out.2.1.step (hb)) (And.intro (HF.out.2.2.1.step (hb)) (And.intro (HF.out.2.2.2.1.below (hb)) (HF.out.2.2.2.2.below (hb))))))
  have T3 := hide (n)
  refine hK _ _ (fun _ => HF'.out) ?_
  clear hK K HF hb n
  have HF := hide HF'.out
  clear HF'
  refine Calm.one (i := 9) (l' := #[true, true, true, true, true, true, true, true, true, true, false, false]) (by kernel_rfl) rfl rfl rfl fun K hK => ?_
  go_simp
  refine (imul_any _ _ y.num (x.den : Int) _ HF.out.2.2.2.2.num T3.out (SzI.len HY.out.num (by decide)) (SzI.len HX.out.den (by decide))).mono ?_
  rintro e u4 ⟨v, rfl, n, hb⟩
  replace T2 := hide (T2.out.below (hb))
  clear T3
  have HF' := hide (And.intro (HF.out.1.trans ((hb).mono HF.out.1.size)) (And.intro (HF.out.2.1.step (hb)) (And.intro (HF.out.2.2.1.step (hb)) (And.intro (HF.out.2.2.2.1.below (hb)) (HF.out.2.2.2.2.below (hb))))))
  have T4 := hide (n)
  refine hK _ _ (fun _ => HF'.out) ?_
  clear hK K HF hb n
  have HF := hide HF'.out
  clear HF'
  refine Calm.one (i := 10) (l' := #[true, true, true, true, true, true, true, true, true, true, true, false]) (by kernel_rfl) rfl rfl rfl fun K hK => ?_
  go_simp
  refine (icmp_any _ _ (x.num * (y.den : Int)) (y.num * (x.den : Int)) _ T2.out T4.out).mono ?_
  rintro e u5 ⟨rfl, hb⟩
  clear T2
  clear T4
  have HF' := hide (And.intro (HF.out.1.trans ((hb).mono HF.out.1.size)) (And.intro (HF.out.2.1.step (hb)) (And.intro (HF.out.2.2.1.step (hb)) (And.intro (HF.out.2.2.2.1.below (hb)) (HF.out.2.2.2.2.below (hb))))))
  refine hK _ _ (fun _ => HF'.out) ?_
  clear hK K HF hb
  have HF := hide HF'.out
  clear HF'
  refine Calm.take (i := 11) (v := ?_) (a' := ?_) (l' := #[true, true, true, true, true, true, true, true, true, true, true, true]) (d := some 4) rfl (by kernel_rfl) (by kernel_rfl) (by kernel_rfl) (by kernel_rfl) (fun _ _ _ h => h) HF.out rfl ?_ rfl rfl ?_ ?_
  rotate_left
  · intro w' hF; clear hF; go_simp; try rfl
  rotate_left
  · simp only [Act.put]; exact rfl
  refine Calm.done (by kernel_rfl) ?_
  replace HB := hide HF.out.1
  replace P0 := hide HF.out.2.1
  replace P1 := hide HF.out.2.2.1
  replace I1 := hide HF.out.2.2.2.1
  replace I2 := hide HF.out.2.2.2.2
  clear HF
  go_wp2
  go_ret
  exact ⟨rfl, HB.out⟩

set_option maxRecDepth 100000 in
set_option maxHeartbeats 4000000 in
theorem rtfloor_any (v1 : Value) (x : Rat) (w : World) (h1 : RatAt w v1 x) (hx : SzR 100000000 x) :
    Calls Try.prog 37 #[v1] w fun e w' => ∃ v', e = .returned v' ∧ IntAt w' v' x.floor ∧ Below w.heap.size w w' := by
  have HX := hide hx
  clear hx
  obtain ⟨s1, m1, n1, c1, t1, o1, p1, d1, rfl, i1⟩ := h1.cells
  have I1 := hide i1
  clear h1 i1
  have P0 := Box4.new w (.bool s1) (.slice m1 n1 c1) (.bool t1) (.slice o1 p1 d1)
  replace P0 := P0.step (below_alloc _ (.cells #[.bool false, .slice none 0 0] 25))
  replace P0 := hide P0
  have P1 := Box.new (w.alloc (.cells #[.bool s1, .slice m1 n1 c1, .bool t1, .slice o1 p1 d1] 27)) (.bool false) (.slice none 0 0)
  simp only [World.size_alloc] at P1
  replace P1 := hide P1
  have HB := below_alloc w (.cells #[.bool s1, .slice m1 n1 c1, .bool t1, .slice o1 p1 d1] 27)
  replace HB := HB.trans ((below_alloc _ (.cells #[.bool false, .slice none 0 0] 25)).mono (by simp only [World.size_alloc]; omega))
  replace I1 := hide (I1.out.below HB)
  replace HB := hide HB
  go_enter Try.func37, Try.ntmps37
  go_wp2_with fail
  generalize ((w.alloc (.cells #[.bool s1, .slice m1 n1 c1, .bool t1, .slice o1 p1 d1] 27)).alloc (.cells #[.bool false, .slice none 0 0] 25)) = w0 at *
  go_cut [3, 4] from 6 (fun pt0 pt1 wx => ∃ ga s2 m2 n2 c2 gb s3 m3 n3 c3, pt0 = .pointer (some ⟨ga, 0, none⟩) ∧ pt1 = .pointer (some ⟨gb, 0, none⟩) ∧ ((w.heap.size < ga ∧ (w.heap.size + 1) < ga) ∧ (w.heap.size < gb ∧ (w.heap.size + 1) < gb) ∧ ga ≠ gb) ∧ Below w.heap.size w wx ∧ Box4 wx w.heap.size (.bool s1) (.slice m1 n1 c1) (.bool t1) (.slice o1 p1 d1) ∧ Box wx (w.heap.size + 1) (.bool false) (.slice none 0 0) ∧ RatAt wx (.agg #[.bool s1, .slice m1 n1 c1, .bool t1, .slice o1 p1 d1]) x ∧ Box wx ga (.bool s2) (.slice m2 n2 c2) ∧ Box wx gb (.bool s3) (.slice m3 n3 c3) ∧ IntAt wx (.agg #[.bool s2, .slice m2 n2 c2]) (x.num / (x.den : Int)) ∧ IntAt wx (.agg #[.bool s3, .slice m3 n3 c3]) (x.num % (x.den : Int)))
  case first =>
    obtain ⟨F, hF⟩ : ∃ F : World → Prop, F = (fun w' => Below w.heap.size w w' ∧ Box4 w' w.heap.size (.bool s1) (.slice m1 n1 c1) (.bool t1) (.slice o1 p1 d1) ∧ Box w' (w.heap.size + 1) (.bool false) (.slice none 0 0) ∧ RatAt w' (.agg #[.bool s1, .slice m1 n1 c1, .bool t1, .slice o1 p1 d1]) x) := ⟨_, rfl⟩
    have FU : Hid (∀ W, F W → (Below w.heap.size w W ∧ Box4 W w.heap.size (.bool s1) (.slice m1 n1 c1) (.bool t1) (.slice o1 p1 d1) ∧ Box W (w.heap.size + 1) (.bool false) (.slice none 0 0) ∧ RatAt W (.agg #[.bool s1, .slice m1 n1 c1, .bool t1, .slice o1 p1 d1]) x)) := hide (fun W h => by rw [hF] at h; exact h)
    have FM : Hid (∀ W, (Below w.heap.size w W ∧ Box4 W w.heap.size (.bool s1) (.slice m1 n1 c1) (.bool t1) (.slice o1 p1 d1) ∧ Box W (w.heap.size + 1) (.bool false) (.slice none 0 0) ∧ RatAt W (.agg #[.bool s1, .slice m1 n1 c1, .bool t1, .slice o1 p1 d1]) x) → F W) := hide (fun W h => by rw [hF]; exact h)
    clear hF
    have FS : Hid (∀ W W', F W → Below W.heap.size W W' → F W') := hide (fun W W' h hb => by
      have h := FU.out W h
      exact FM.out W' (And.intro (h.1.trans ((hb).mono h.1.size)) (And.intro (h.2.1.step (hb)) (And.intro (h.2.2.1.step (hb)) (h.2.2.2.below (hb))))))
    have FC : Hid (∀ W, F W → (W.cell? ⟨w.heap.size, 0, none⟩ = some (.bool s1) ∧ W.cell? ⟨w.heap.size, 1, none⟩ = some (.slice m1 n1 c1) ∧ W.cell? ⟨w.heap.size, 2, none⟩ = some (.bool t1) ∧ W.cell? ⟨w.heap.size, 3, none⟩ = some (.slice o1 p1 d1) ∧ W.cell? ⟨(w.heap.size + 1), 0, none⟩ = some (.bool false) ∧ W.cell? ⟨(w.heap.size + 1), 1, none⟩ = some (.slice none 0 0))) := hide (fun W h => by
      have h := FU.out W h
      exact ⟨h.2.1.cell0, h.2.1.cell1, h.2.1.cell2, h.2.1.cell3, h.2.2.1.cell0, h.2.2.1.cell1⟩)
    have FL : Hid (∀ W, F W → (w.heap.size < W.heap.size ∧ (w.heap.size + 1) < W.heap.size)) := hide (fun W h => by
      have h := FU.out W h
      exact ⟨h.2.1.lt, h.2.2.1.lt⟩)
    have FP2 : Hid (∀ W g (x1 x2 : Value), F W → Box W g (.bool false) (.slice none 0 0) → (w.heap.size < g ∧ (w.heap.size + 1) < g) → F ((W.setCell ⟨g, 0, none⟩ x1).setCell ⟨g, 1, none⟩ x2)) := hide (fun W g x1 x2 h hX hl => by
      have h := FU.out W h
      exact FM.out _ (And.intro (below_put h.1 (show w.heap.size ≤ g by omega) x1 x2) (And.intro (h.2.1.other (C := g) (by omega) x1 x2) (And.intro (h.2.2.1.other (C := g) (by omega) x1 x2) (h.2.2.2.keep (hX.keeps (by simp) (by simp) x1 x2))))))
    refine wp_calm F (fun _ => true) 14 #[false, false, false, false, false, false, false, false, false, false, false, false, false, false] (by kernel_rfl) rfl rfl ?_
    have HF := hide (FM.out _ (And.intro (HB.out.drew) (And.intro (P0.out.drew) (And.intro (P1.out.drew) (I1.out.drew)))))
    generalize w0.drew = w0d at *
    refine Calm.take (i := 0) (v := ?_) (a' := ?_) (l' := #[true, false, false, false, false, false, false, false, false, false, false, false, false, false]) (d := some 7) rfl (by kernel_rfl) (by kernel_rfl) (by kernel_rfl) (by kernel_rfl) (fun _ _ _ h => h) HF.out rfl ?_ rfl rfl ?_ ?_
    rotate_left
    · intro w' hF; clear hF; go_simp; try rfl
    rotate_left
    · simp only [Act.put]; exact rfl
    refine Calm.take (i := 1) (v := ?_) (a' := ?_) (l' := #[true, true, false, false, false, false, false, false, false, false, false, false, false, false]) (d := some 8) rfl (by kernel_rfl) (by kernel_rfl) (by kernel_rfl) (by kernel_rfl) (fun _ _ _ h => h) HF.out rfl ?_ rfl rfl ?_ ?_
    rotate_left
    · intro w' hF; obtain ⟨f0, f1, f2, f3, f4, f5⟩ := FC.out _ hF; clear hF; go_simp; try rfl
    rotate_left
    · simp only [Act.put]; exact rfl
    refine Calm.take (i := 2) (v := ?_) (a' := ?_) (l' := #[true, true, true, false, false, false, false, false, false, false, false, false, false, false]) (d := some 9) rfl (by kernel_rfl) (by kernel_rfl) (by kernel_rfl) (by kernel_rfl) (fun _ _ _ h => h) HF.out rfl ?_ rfl rfl ?_ ?_
    rotate_left
    · intro w' hF; obtain ⟨f0, f1, f2, f3, f4, f5⟩ := FC.out _ hF; clear hF; go_simp; try rfl
    rotate_left
    · simp only [Act.put]; exact rfl
    refine Calm.three (i := 3) (j := 9) (m := 10) (l := #[true, true, true, true, false, false, false, false, false, false, false, false, false, false]) (l' := #[true, true, true, false, false, false, false, false, false, true, false, false, false, false]) (l'' := #[true, true, true, false, false, false, false, false, false, false, true, false, false, false]) (by kernel_rfl) rfl rfl rfl rfl rfl rfl rfl rfl rfl (fun K hK => ?_) (fun K hK => ?_) (fun K hK => ?_)
    · go_simp
      refine (den_any _ x _ (FU.out _ HF.out).2.2.2).mono ?_
      rintro e u1 ⟨v, rfl, n, hb⟩
      have T1 := hide (n)
      replace HF := hide (FS.out _ _ HF.out hb)
      refine hK _ _ (fun _ => HF.out) ?_
      clear hK K hb n
      refine Calm.three (i := 4) (j := 9) (m := 10) (l := #[true, true, true, true, true, false, false, false, false, false, false, false, false, false]) (l' := #[true, true, true, true, false, false, false, false, false, true, false, false, false, false]) (l'' := #[true, true, true, true, false, false, false, false, false, false, true, false, false, false]) (by kernel_rfl) rfl rfl rfl rfl rfl rfl rfl rfl rfl (fun K hK => ?_) (fun K hK => ?_) (fun K hK => ?_)
      · go_simp
        refine (idivmod_any _ _ x.num (x.den : Int) _ (FU.out _ HF.out).2.2.2.num T1.out (SzI.len HX.out.num (by decide)) (SzI.len HX.out.den (by decide)) (by have := x.den_nz; omega)).mono ?_
        rintro e u2 ⟨vq, vr, rfl, n, n', hb⟩
        obtain ⟨s2, m2, n2, c2, rfl, n⟩ := n.cells
        obtain ⟨s3, m3, n3, c3, rfl, n'⟩ := n'.cells
        clear T1
        have TQ := hide (n)
        have TM := hide (n')
        replace HF := hide (FS.out _ _ HF.out hb)
        refine hK _ _ (fun _ => HF.out) ?_
        clear hK K hb n n'
        refine Calm.take (i := 5) (v := ?_) (a' := ?_) (l' := #[true, true, true, true, true, true, false, false, false, false, false, false, false, false]) (d := some 6) rfl (by kernel_rfl) (by kernel_rfl) (by kernel_rfl) (by kernel_rfl) (fun _ _ _ h => h) HF.out rfl ?_ rfl rfl ?_ ?_
        rotate_left
        · intro w' hF; clear hF; go_simp; try rfl
        rotate_left
        · simp only [Act.put]; exact rfl
        refine Calm.take (i := 6) (v := ?_) (a' := ?_) (l' := #[true, true, true, true, true, true, true, false, false, false, false, false, false, false]) (d := some 12) rfl (by kernel_rfl) (by kernel_rfl) (by kernel_rfl) (by kernel_rfl) (fun _ _ _ h => h) HF.out rfl ?_ rfl rfl ?_ ?_
        rotate_left
        · intro w' hF; clear hF; go_simp; try rfl
        rotate_left
        · simp only [Act.put]; exact rfl
        refine Calm.take (i := 7) (v := ?_) (a' := ?_) (l' := #[true, true, true, true, true, true, true, true, false, false, false, false, false, false]) (d := some 13) rfl (by kernel_rfl) (by kernel_rfl) (by kernel_rfl) (by kernel_rfl) (fun _ _ _ h => h) HF.out rfl ?_ rfl rfl ?_ ?_
        rotate_left
        · intro w' hF; clear hF; go_simp; try rfl
        rotate_left
        · simp only [Act.put]; exact rfl
        refine Calm.take (i := 8) (v := ?_) (a' := ?_) (l' := #[true, true, true, true, true, true, true, true, true, false, false, false, false, false]) (d := some 14) rfl (by kernel_rfl) (by kernel_rfl) (by kernel_rfl) (by kernel_rfl) (fun _ _ _ h => h) HF.out rfl ?_ rfl rfl ?_ ?_
        rotate_left
        · intro w' hF; clear hF; go_simp; try rfl
        rotate_left
        · simp only [Act.put]; exact rfl
        refine Calm.two (i := 9) (j := 10) (l := #[true, true, true, true, true, true, true, true, true, true, false, false, false, false]) (l' := #[true, true, true, true, true, true, true, true, true, false, true, false, false, false]) (by kernel_rfl) rfl rfl rfl rfl rfl rfl (fun K hK => ?_) (fun K hK => ?_)
        · go_simp
          have al := below_alloc u2 (.cells #[.bool false, .slice none 0 0] 25)
          replace TQ := hide (TQ.out.below (al))
          replace TM := hide (TM.out.below (al))
          have BXa := hide (Box.new u2 (.bool false) (.slice none 0 0))
          have LTa := hide (FL.out _ HF.out)
          replace HF := hide (FS.out _ _ HF.out al)
          refine hK _ _ (fun _ => HF.out) ?_
          clear hK K al
          generalize u2.alloc (.cells #[.bool false, .slice none 0 0] 25) = wza at *
          generalize u2.heap.size = ga at *
          refine Calm.one (i := 10) (l' := #[true, true, true, true, true, true, true, true, true, true, true, false, false, false]) (by kernel_rfl) rfl rfl rfl fun K hK => ?_
          go_simp
          have al := below_alloc wza (.cells #[.bool false, .slice none 0 0] 25)
          replace TQ := hide (TQ.out.below (al))
          replace TM := hide (TM.out.below (al))
          have LTab := hide (BXa.out.lt)
          replace BXa := hide (BXa.out.step al)
          have BXb := hide (Box.new wza (.bool false) (.slice none 0 0))
          have LTb := hide (FL.out _ HF.out)
          replace HF := hide (FS.out _ _ HF.out al)
          refine hK _ _ (fun _ => HF.out) ?_
          clear hK K al
          generalize wza.alloc (.cells #[.bool false, .slice none 0 0] 25) = wzb at *
          generalize wza.heap.size = gb at *
          refine Calm.one (i := 11) (l' := #[true, true, true, true, true, true, true, true, true, true, true, true, false, false]) (by kernel_rfl) rfl rfl rfl fun K hK => ?_
          have hc0 := BXa.out.cell0
          have hc1 := BXa.out.cell1
          have hf0 := BXa.out.free 0
          have hf1 := BXa.out.free 1
          go_simp
          replace HF := hide (FP2.out _ ga (.bool s2) (.slice m2 n2 c2) HF.out BXa.out LTa.out)
          replace TQ := hide (TQ.out.keep (BXa.out.keeps (by simp) (by simp) (.bool s2) (.slice m2 n2 c2)))
          replace TM := hide (TM.out.keep (BXa.out.keeps (by simp) (by simp) (.bool s2) (.slice m2 n2 c2)))
          replace BXb := hide (BXb.out.other (C := ga) (by first | exact Nat.ne_of_lt LTab.out | exact Nat.ne_of_gt LTba.out) (.bool s2) (.slice m2 n2 c2))
          replace BXa := hide (BXa.out.put (.bool s2) (.slice m2 n2 c2))
          refine hK _ _ (fun _ => HF.out) ?_
          clear hK K hc0 hf0 hc1 hf1
          generalize ((wzb.setCell ⟨ga, 0, none⟩ (.bool s2)).setCell ⟨ga, 1, none⟩ (.slice m2 n2 c2)) = ws11 at *
          refine Calm.one (i := 12) (l' := #[true, true, true, true, true, true, true, true, true, true, true, true, true, false]) (by kernel_rfl) rfl rfl rfl fun K hK => ?_
          have hc0 := BXb.out.cell0
          have hc1 := BXb.out.cell1
          have hf0 := BXb.out.free 0
          have hf1 := BXb.out.free 1
          go_simp
          replace HF := hide (FP2.out _ gb (.bool s3) (.slice m3 n3 c3) HF.out BXb.out LTb.out)
          replace TQ := hide (TQ.out.keep (BXb.out.keeps (by simp) (by simp) (.bool s3) (.slice m3 n3 c3)))
          replace TM := hide (TM.out.keep (BXb.out.keeps (by simp) (by simp) (.bool s3) (.slice m3 n3 c3)))
          replace BXa := hide (BXa.out.other (C := gb) (by first | exact Nat.ne_of_lt LTba.out | exact Nat.ne_of_gt LTab.out) (.bool s3) (.slice m3 n3 c3))
          replace BXb := hide (BXb.out.put (.bool s3) (.slice m3 n3 c3))
          refine hK _ _ (fun _ => HF.out) ?_
          clear hK K hc0 hf0 hc1 hf1
          generalize ((ws11.setCell ⟨gb, 0, none⟩ (.bool s3)).setCell ⟨gb, 1, none⟩ (.slice m3 n3 c3)) = ws12 at *
          refine Calm.take (i := 13) (v := ?_) (a' := ?_) (l' := #[true, true, true, true, true, true, true, true, true, true, true, true, true, true]) (d := some 5) rfl (by kernel_rfl) (by kernel_rfl) (by kernel_rfl) (by kernel_rfl) (fun _ _ _ h => h) HF.out rfl ?_ rfl rfl ?_ ?_
          rotate_left
          · intro w' hF; clear hF; go_simp; try rfl
          rotate_left
          · simp only [Act.put]; exact rfl
          refine Calm.done (by kernel_rfl) ?_
          have h := FU.out _ HF.out
          go_wp2
          go_meet
          case rel => exact ⟨ga, s2, m2, n2, c2, gb, s3, m3, n3, c3, rfl, rfl, ⟨LTa.out, LTb.out, by first | exact Nat.ne_of_lt LTab.out | exact Nat.ne_of_gt LTba.out⟩, h.1, h.2.1, h.2.2.1, h.2.2.2, BXa.out, BXb.out, TQ.out, TM.out⟩
        · go_simp
          have al := below_alloc u2 (.cells #[.bool false, .slice none 0 0] 25)
          replace TQ := hide (TQ.out.below (al))
          replace TM := hide (TM.out.below (al))
          have BXb := hide (Box.new u2 (.bool false) (.slice none 0 0))
          have LTb := hide (FL.out _ HF.out)
          replace HF := hide (FS.out _ _ HF.out al)
          refine hK _ _ (fun _ => HF.out) ?_
          clear hK K al
          generalize u2.alloc (.cells #[.bool false, .slice none 0 0] 25) = wzb at *
          generalize u2.heap.size = gb at *
          refine Calm.one (i := 9) (l' := #[true, true, true, true, true, true, true, true, true, true, true, false, false, false]) (by kernel_rfl) rfl rfl rfl fun K hK => ?_
          go_simp
          have al := below_alloc wzb (.cells #[.bool false, .slice none 0 0] 25)
          replace TQ := hide (TQ.out.below (al))
          replace TM := hide (TM.out.below (al))
          have LTba := hide (BXb.out.lt)
          replace BXb := hide (BXb.out.step al)
          have BXa := hide (Box.new wzb (.bool false) (.slice none 0 0))
          have LTa := hide (FL.out _ HF.out)
          replace HF := hide (FS.out _ _ HF.out al)
          refine hK _ _ (fun _ => HF.out) ?_
          clear hK K al
          generalize wzb.alloc (.cells #[.bool false, .slice none 0 0] 25) = wza at *
          generalize wzb.heap.size = ga at *
          refine Calm.one (i := 11) (l' := #[true, true, true, true, true, true, true, true, true, true, true, true, false, false]) (by kernel_rfl) rfl rfl rfl fun K hK => ?_
          have hc0 := BXa.out.cell0
          have hc1 := BXa.out.cell1
          have hf0 := BXa.out.free 0
          have hf1 := BXa.out.free 1
          go_simp
          replace HF := hide (FP2.out _ ga (.bool s2) (.slice m2 n2 c2) HF.out BXa.out LTa.out)
          replace TQ := hide (TQ.out.keep (BXa.out.keeps (by simp) (by simp) (.bool s2) (.slice m2 n2 c2)))
          replace TM := hide (TM.out.keep (BXa.out.keeps (by simp) (by simp) (.bool s2) (.slice m2 n2 c2)))
          replace BXb := hide (BXb.out.other (C := ga) (by first | exact Nat.ne_of_lt LTab.out | exact Nat.ne_of_gt LTba.out) (.bool s2) (.slice m2 n2 c2))
          replace BXa := hide (BXa.out.put (.bool s2) (.slice m2 n2 c2))
          refine hK _ _ (fun _ => HF.out) ?_
          clear hK K hc0 hf0 hc1 hf1
          generalize ((wza.setCell ⟨ga, 0, none⟩ (.bool s2)).setCell ⟨ga, 1, none⟩ (.slice m2 n2 c2)) = ws11 at *
          refine Calm.one (i := 12) (l' := #[true, true, true, true, true, true, true, true, true, true, true, true, true, false]) (by kernel_rfl) rfl rfl rfl fun K hK => ?_
          have hc0 := BXb.out.cell0
          have hc1 := BXb.out.cell1
          have hf0 := BXb.out.free 0
          have hf1 := BXb.out.free 1
          go_simp
          replace HF := hide (FP2.out _ gb (.bool s3) (.slice m3 n3 c3) HF.out BXb.out LTb.out)
          replace TQ := hide (TQ.out.keep (BXb.out.keeps (by simp) (by simp) (.bool s3) (.slice m3 n3 c3)))
          replace TM := hide (TM.out.keep (BXb.out.keeps (by simp) (by simp) (.bool s3) (.slice m3 n3 c3)))
          replace BXa := hide (BXa.out.other (C := gb) (by first | exact Nat.ne_of_lt LTba.out | exact Nat.ne_of_gt LTab.out) (.bool s3) (.slice m3 n3 c3))
          replace BXb := hide (BXb.out.put (.bool s3) (.slice m3 n3 c3))
          refine hK _ _ (fun _ => HF.out) ?_
          clear hK K hc0 hf0 hc1 hf1
          generalize ((ws11.setCell ⟨gb, 0, none⟩ (.bool s3)).setCell ⟨gb, 1, none⟩ (.slice m3 n3 c3)) = ws12 at *
          refine Calm.take (i := 13) (v := ?_) (a' := ?_) (l' := #[true, true, true, true, true, true, true, true, true, true, true, true, true, true]) (d := some 5) rfl (by kernel_rfl) (by kernel_rfl) (by kernel_rfl) (by kernel_rfl) (fun _ _ _ h => h) HF.out rfl ?_ rfl rfl ?_ ?_
          rotate_left
          · intro w' hF; clear hF; go_simp; try rfl
          rotate_left
          · simp only [Act.put]; exact rfl
          refine Calm.done (by kernel_rfl) ?_
          have h := FU.out _ HF.out
          go_wp2
          go_meet
          case rel => exact ⟨ga, s2, m2, n2, c2, gb, s3, m3, n3, c3, rfl, rfl, ⟨LTa.out, LTb.out, by first | exact Nat.ne_of_lt LTab.out | exact Nat.ne_of_gt LTba.out⟩, h.1, h.2.1, h.2.2.1, h.2.2.2, BXa.out, BXb.out, TQ.out, TM.out⟩
      · go_simp
        have al := below_alloc u1 (.cells #[.bool false, .slice none 0 0] 25)
        replace T1 := hide (T1.out.below (al))
        have BXa := hide (Box.new u1 (.bool false) (.slice none 0 0))
        have LTa := hide (FL.out _ HF.out)
        replace HF := hide (FS.out _ _ HF.out al)
        refine hK _ _ (fun _ => HF.out) ?_
        clear hK K al
        generalize u1.alloc (.cells #[.bool false, .slice none 0 0] 25) = wza at *
        generalize u1.heap.size = ga at *
        refine Calm.two (i := 4) (j := 10) (l := #[true, true, true, true, true, false, false, false, false, true, false, false, false, false]) (l' := #[true, true, true, true, false, false, false, false, false, true, true, false, false, false]) (by kernel_rfl) rfl rfl rfl rfl rfl rfl (fun K hK => ?_) (fun K hK => ?_)
        · go_simp
          refine (idivmod_any _ _ x.num (x.den : Int) _ (FU.out _ HF.out).2.2.2.num T1.out (SzI.len HX.out.num (by decide)) (SzI.len HX.out.den (by decide)) (by have := x.den_nz; omega)).mono ?_
          rintro e u2 ⟨vq, vr, rfl, n, n', hb⟩
          obtain ⟨s2, m2, n2, c2, rfl, n⟩ := n.cells
          obtain ⟨s3, m3, n3, c3, rfl, n'⟩ := n'.cells
          clear T1
          replace BXa := hide (BXa.out.step hb)
          have TQ := hide (n)
          have TM := hide (n')
          replace HF := hide (FS.out _ _ HF.out hb)
          refine hK _ _ (fun _ => HF.out) ?_
          clear hK K hb n n'
          refine Calm.take (i := 5) (v := ?_) (a' := ?_) (l' := #[true, true, true, true, true, true, false, false, false, true, false, false, false, false]) (d := some 6) rfl (by kernel_rfl) (by kernel_rfl) (by kernel_rfl) (by kernel_rfl) (fun _ _ _ h => h) HF.out rfl ?_ rfl rfl ?_ ?_
          rotate_left
          · intro w' hF; clear hF; go_simp; try rfl
          rotate_left
          · simp only [Act.put]; exact rfl
          refine Calm.take (i := 6) (v := ?_) (a' := ?_) (l' := #[true, true, true, true, true, true, true, false, false, true, false, false, false, false]) (d := some 12) rfl (by kernel_rfl) (by kernel_rfl) (by kernel_rfl) (by kernel_rfl) (fun _ _ _ h => h) HF.out rfl ?_ rfl rfl ?_ ?_
          rotate_left
          · intro w' hF; clear hF; go_simp; try rfl
          rotate_left
          · simp only [Act.put]; exact rfl
          refine Calm.take (i := 7) (v := ?_) (a' := ?_) (l' := #[true, true, true, true, true, true, true, true, false, true, false, false, false, false]) (d := some 13) rfl (by kernel_rfl) (by kernel_rfl) (by kernel_rfl) (by kernel_rfl) (fun _ _ _ h => h) HF.out rfl ?_ rfl rfl ?_ ?_
          rotate_left
          · intro w' hF; clear hF; go_simp; try rfl
          rotate_left
          · simp only [Act.put]; exact rfl
          refine Calm.take (i := 8) (v := ?_) (a' := ?_) (l' := #[true, true, true, true, true, true, true, true, true, true, false, false, false, false]) (d := some 14) rfl (by kernel_rfl) (by kernel_rfl) (by kernel_rfl) (by kernel_rfl) (fun _ _ _ h => h) HF.out rfl ?_ rfl rfl ?_ ?_
          rotate_left
          · intro w' hF; clear hF; go_simp; try rfl
          rotate_left
          · simp only [Act.put]; exact rfl
          refine Calm.one (i := 10) (l' := #[true, true, true, true, true, true, true, true, true, true, true, false, false, false]) (by kernel_rfl) rfl rfl rfl fun K hK => ?_
          go_simp
          have al := below_alloc u2 (.cells #[.bool false, .slice none 0 0] 25)
          replace TQ := hide (TQ.out.below (al))
          replace TM := hide (TM.out.below (al))
          have LTab := hide (BXa.out.lt)
          replace BXa := hide (BXa.out.step al)
          have BXb := hide (Box.new u2 (.bool false) (.slice none 0 0))
          have LTb := hide (FL.out _ HF.out)
          replace HF := hide (FS.out _ _ HF.out al)
          refine hK _ _ (fun _ => HF.out) ?_
          clear hK K al
          generalize u2.alloc (.cells #[.bool false, .slice none 0 0] 25) = wzb at *
          generalize u2.heap.size = gb at *
          refine Calm.one (i := 11) (l' := #[true, true, true, true, true, true, true, true, true, true, true, true, false, false]) (by kernel_rfl) rfl rfl rfl fun K hK => ?_
          have hc0 := BXa.out.cell0
          have hc1 := BXa.out.cell1
          have hf0 := BXa.out.free 0
          have hf1 := BXa.out.free 1
          go_simp
          replace HF := hide (FP2.out _ ga (.bool s2) (.slice m2 n2 c2) HF.out BXa.out LTa.out)
          replace TQ := hide (TQ.out.keep (BXa.out.keeps (by simp) (by simp) (.bool s2) (.slice m2 n2 c2)))
          replace TM := hide (TM.out.keep (BXa.out.keeps (by simp) (by simp) (.bool s2) (.slice m2 n2 c2)))
          replace BXb := hide (BXb.out.other (C := ga) (by first | exact Nat.ne_of_lt LTab.out | exact Nat.ne_of_gt LTba.out) (.bool s2) (.slice m2 n2 c2))
          replace BXa := hide (BXa.out.put (.bool s2) (.slice m2 n2 c2))
          refine hK _ _ (fun _ => HF.out) ?_
          clear hK K hc0 hf0 hc1 hf1
          generalize ((wzb.setCell ⟨ga, 0, none⟩ (.bool s2)).setCell ⟨ga, 1, none⟩ (.slice m2 n2 c2)) = ws11 at *
          refine Calm.one (i := 12) (l' := #[true, true, true, true, true, true, true, true, true, true, true, true, true, false]) (by kernel_rfl) rfl rfl rfl fun K hK => ?_
          have hc0 := BXb.out.cell0
          have hc1 := BXb.out.cell1
          have hf0 := BXb.out.free 0
          have hf1 := BXb.out.free 1
          go_simp
          replace HF := hide (FP2.out _ gb (.bool s3) (.slice m3 n3 c3) HF.out BXb.out LTb.out)
          replace TQ := hide (TQ.out.keep (BXb.out.keeps (by simp) (by simp) (.bool s3) (.slice m3 n3 c3)))
          replace TM := hide (TM.out.keep (BXb.out.keeps (by simp) (by simp) (.bool s3) (.slice m3 n3 c3)))
          replace BXa := hide (BXa.out.other (C := gb) (by first | exact Nat.ne_of_lt LTba.out | exact Nat.ne_of_gt LTab.out) (.bool s3) (.slice m3 n3 c3))
          replace BXb := hide (BXb.out.put (.bool s3) (.slice m3 n3 c3))
          refine hK _ _ (fun _ => HF.out) ?_
          clear hK K hc0 hf0 hc1 hf1
          generalize ((ws11.setCell ⟨gb, 0, none⟩ (.bool s3)).setCell ⟨gb, 1, none⟩ (.slice m3 n3 c3)) = ws12 at *
          refine Calm.take (i := 13) (v := ?_) (a' := ?_) (l' := #[true, true, true, true, true, true, true, true, true, true, true, true, true, true]) (d := some 5) rfl (by kernel_rfl) (by kernel_rfl) (by kernel_rfl) (by kernel_rfl) (fun _ _ _ h => h) HF.out rfl ?_ rfl rfl ?_ ?_
          rotate_left
          · intro w' hF; clear hF; go_simp; try rfl
          rotate_left
          · simp only [Act.put]; exact rfl
          refine Calm.done (by kernel_rfl) ?_
          have h := FU.out _ HF.out
          go_wp2
          go_meet
          case rel => exact ⟨ga, s2, m2, n2, c2, gb, s3, m3, n3, c3, rfl, rfl, ⟨LTa.out, LTb.out, by first | exact Nat.ne_of_lt LTab.out | exact Nat.ne_of_gt LTba.out⟩, h.1, h.2.1, h.2.2.1, h.2.2.2, BXa.out, BXb.out, TQ.out, TM.out⟩
        · go_simp
          have al := below_alloc wza (.cells #[.bool false, .slice none 0 0] 25)
          replace T1 := hide (T1.out.below (al))
          have LTab := hide (BXa.out.lt)
          replace BXa := hide (BXa.out.step al)
          have BXb := hide (Box.new wza (.bool false) (.slice none 0 0))
          have LTb := hide (FL.out _ HF.out)
          replace HF := hide (FS.out _ _ HF.out al)
          refine hK _ _ (fun _ => HF.out) ?_
          clear hK K al
          generalize wza.alloc (.cells #[.bool false, .slice none 0 0] 25) = wzb at *
          generalize wza.heap.size = gb at *
          refine Calm.one (i := 4) (l' := #[true, true, true, true, true, false, false, false, false, true, true, false, false, false]) (by kernel_rfl) rfl rfl rfl fun K hK => ?_
          go_simp
          refine (idivmod_any _ _ x.num (x.den : Int) _ (FU.out _ HF.out).2.2.2.num T1.out (SzI.len HX.out.num (by decide)) (SzI.len HX.out.den (by decide)) (by have := x.den_nz; omega)).mono ?_
          rintro e u2 ⟨vq, vr, rfl, n, n', hb⟩
          obtain ⟨s2, m2, n2, c2, rfl, n⟩ := n.cells
          obtain ⟨s3, m3, n3, c3, rfl, n'⟩ := n'.cells
          clear T1
          replace BXa := hide (BXa.out.step hb)
          replace BXb := hide (BXb.out.step hb)
          have TQ := hide (n)
          have TM := hide (n')
          replace HF := hide (FS.out _ _ HF.out hb)
          refine hK _ _ (fun _ => HF.out) ?_
          clear hK K hb n n'
          refine Calm.take (i := 5) (v := ?_) (a' := ?_) (l' := #[true, true, true, true, true, true, false, false, false, true, true, false, false, false]) (d := some 6) rfl (by kernel_rfl) (by kernel_rfl) (by kernel_rfl) (by kernel_rfl) (fun _ _ _ h => h) HF.out rfl ?_ rfl rfl ?_ ?_
          rotate_left
          · intro w' hF; clear hF; go_simp; try rfl
          rotate_left
          · simp only [Act.put]; exact rfl
          refine Calm.take (i := 6) (v := ?_) (a' := ?_) (l' := #[true, true, true, true, true, true, true, false, false, true, true, false, false, false]) (d := some 12) rfl (by kernel_rfl) (by kernel_rfl) (by kernel_rfl) (by kernel_rfl) (fun _ _ _ h => h) HF.out rfl ?_ rfl rfl ?_ ?_
          rotate_left
          · intro w' hF; clear hF; go_simp; try rfl
          rotate_left
          · simp only [Act.put]; exact rfl
          refine Calm.take (i := 7) (v := ?_) (a' := ?_) (l' := #[true, true, true, true, true, true, true, true, false, true, true, false, false, false]) (d := some 13) rfl (by kernel_rfl) (by kernel_rfl) (by kernel_rfl) (by kernel_rfl) (fun _ _ _ h => h) HF.out rfl ?_ rfl rfl ?_ ?_
          rotate_left
          · intro w' hF; clear hF; go_simp; try rfl
          rotate_left
          · simp only [Act.put]; exact rfl
          refine Calm.take (i := 8) (v := ?_) (a' := ?_) (l' := #[true, true, true, true, true, true, true, true, true, true, true, false, false, false]) (d := some 14) rfl (by kernel_rfl) (by kernel_rfl) (by kernel_rfl) (by kernel_rfl) (fun _ _ _ h => h) HF.out rfl ?_ rfl rfl ?_ ?_
          rotate_left
          · intro w' hF; clear hF; go_simp; try rfl
          rotate_left
          · simp only [Act.put]; exact rfl
          refine Calm.one (i := 11) (l' := #[true, true, true, true, true, true, true, true, true, true, true, true, false, false]) (by kernel_rfl) rfl rfl rfl fun K hK => ?_
          have hc0 := BXa.out.cell0
          have hc1 := BXa.out.cell1
          have hf0 := BXa.out.free 0
          have hf1 := BXa.out.free 1
          go_simp
          replace HF := hide (FP2.out _ ga (.bool s2) (.slice m2 n2 c2) HF.out BXa.out LTa.out)
          replace TQ := hide (TQ.out.keep (BXa.out.keeps (by simp) (by simp) (.bool s2) (.slice m2 n2 c2)))
          replace TM := hide (TM.out.keep (BXa.out.keeps (by simp) (by simp) (.bool s2) (.slice m2 n2 c2)))
          replace BXb := hide (BXb.out.other (C := ga) (by first | exact Nat.ne_of_lt LTab.out | exact Nat.ne_of_gt LTba.out) (.bool s2) (.slice m2 n2 c2))
          replace BXa := hide (BXa.out.put (.bool s2) (.slice m2 n2 c2))
          refine hK _ _ (fun _ => HF.out) ?_
          clear hK K hc0 hf0 hc1 hf1
          generalize ((u2.setCell ⟨ga, 0, none⟩ (.bool s2)).setCell ⟨ga, 1, none⟩ (.slice m2 n2 c2)) = ws11 at *
          refine Calm.one (i := 12) (l' := #[true, true, true, true, true, true, true, true, true, true, true, true, true, false]) (by kernel_rfl) rfl rfl rfl fun K hK => ?_
          have hc0 := BXb.out.cell0
          have hc1 := BXb.out.cell1
          have hf0 := BXb.out.free 0
          have hf1 := BXb.out.free 1
          go_simp
          replace HF := hide (FP2.out _ gb (.bool s3) (.slice m3 n3 c3) HF.out BXb.out LTb.out)
          replace TQ := hide (TQ.out.keep (BXb.out.keeps (by simp) (by simp) (.bool s3) (.slice m3 n3 c3)))
          replace TM := hide (TM.out.keep (BXb.out.keeps (by simp) (by simp) (.bool s3) (.slice m3 n3 c3)))
          replace BXa := hide (BXa.out.other (C := gb) (by first | exact Nat.ne_of_lt LTba.out | exact Nat.ne_of_gt LTab.out) (.bool s3) (.slice m3 n3 c3))
          replace BXb := hide (BXb.out.put (.bool s3) (.slice m3 n3 c3))
          refine hK _ _ (fun _ => HF.out) ?_
          clear hK K hc0 hf0 hc1 hf1
          generalize ((ws11.setCell ⟨gb, 0, none⟩ (.bool s3)).setCell ⟨gb, 1, none⟩ (.slice m3 n3 c3)) = ws12 at *
          refine Calm.take (i := 13) (v := ?_) (a' := ?_) (l' := #[true, true, true, true, true, true, true, true, true, true, true, true, true, true]) (d := some 5) rfl (by kernel_rfl) (by kernel_rfl) (by kernel_rfl) (by kernel_rfl) (fun _ _ _ h => h) HF.out rfl ?_ rfl rfl ?_ ?_
          rotate_left
          · intro w' hF; clear hF; go_simp; try rfl
          rotate_left
          · simp only [Act.put]; exact rfl
          refine Calm.done (by kernel_rfl) ?_
          have h := FU.out _ HF.out
          go_wp2
          go_meet
          case rel => exact ⟨ga, s2, m2, n2, c2, gb, s3, m3, n3, c3, rfl, rfl, ⟨LTa.out, LTb.out, by first | exact Nat.ne_of_lt LTab.out | exact Nat.ne_of_gt LTba.out⟩, h.1, h.2.1, h.2.2.1, h.2.2.2, BXa.out, BXb.out, TQ.out, TM.out⟩
      · go_simp
        have al := below_alloc u1 (.cells #[.bool false, .slice none 0 0] 25)
        replace T1 := hide (T1.out.below (al))
        have BXb := hide (Box.new u1 (.bool false) (.slice none 0 0))
        have LTb := hide (FL.out _ HF.out)
        replace HF := hide (FS.out _ _ HF.out al)
        refine hK _ _ (fun _ => HF.out) ?_
        clear hK K al
        generalize u1.alloc (.cells #[.bool false, .slice none 0 0] 25) = wzb at *
        generalize u1.heap.size = gb at *
        refine Calm.two (i := 4) (j := 9) (l := #[true, true, true, true, true, false, false, false, false, false, true, false, false, false]) (l' := #[true, true, true, true, false, false, false, false, false, true, true, false, false, false]) (by kernel_rfl) rfl rfl rfl rfl rfl rfl (fun K hK => ?_) (fun K hK => ?_)
        · go_simp
          refine (idivmod_any _ _ x.num (x.den : Int) _ (FU.out _ HF.out).2.2.2.num T1.out (SzI.len HX.out.num (by decide)) (SzI.len HX.out.den (by decide)) (by have := x.den_nz; omega)).mono ?_
          rintro e u2 ⟨vq, vr, rfl, n, n', hb⟩
          obtain ⟨s2, m2, n2, c2, rfl, n⟩ := n.cells
          obtain ⟨s3, m3, n3, c3, rfl, n'⟩ := n'.cells
          clear T1
          replace BXb := hide (BXb.out.step hb)
          have TQ := hide (n)
          have TM := hide (n')
          replace HF := hide (FS.out _ _ HF.out hb)
          refine hK _ _ (fun _ => HF.out) ?_
          clear hK K hb n n'
          refine Calm.take (i := 5) (v := ?_) (a' := ?_) (l' := #[true, true, true, true, true, true, false, false, false, false, true, false, false, false]) (d := some 6) rfl (by kernel_rfl) (by kernel_rfl) (by kernel_rfl) (by kernel_rfl) (fun _ _ _ h => h) HF.out rfl ?_ rfl rfl ?_ ?_
          rotate_left
          · intro w' hF; clear hF; go_simp; try rfl
          rotate_left
          · simp only [Act.put]; exact rfl
          refine Calm.take (i := 6) (v := ?_) (a' := ?_) (l' := #[true, true, true, true, true, true, true, false, false, false, true, false, false, false]) (d := some 12) rfl (by kernel_rfl) (by kernel_rfl) (by kernel_rfl) (by kernel_rfl) (fun _ _ _ h => h) HF.out rfl ?_ rfl rfl ?_ ?_
          rotate_left
          · intro w' hF; clear hF; go_simp; try rfl
          rotate_left
          · simp only [Act.put]; exact rfl
          refine Calm.take (i := 7) (v := ?_) (a' := ?_) (l' := #[true, true, true, true, true, true, true, true, false, false, true, false, false, false]) (d := some 13) rfl (by kernel_rfl) (by kernel_rfl) (by kernel_rfl) (by kernel_rfl) (fun _ _ _ h => h) HF.out rfl ?_ rfl rfl ?_ ?_
          rotate_left
          · intro w' hF; clear hF; go_simp; try rfl
          rotate_left
          · simp only [Act.put]; exact rfl
          refine Calm.take (i := 8) (v := ?_) (a' := ?_) (l' := #[true, true, true, true, true, true, true, true, true, false, true, false, false, false]) (d := some 14) rfl (by kernel_rfl) (by kernel_rfl) (by kernel_rfl) (by kernel_rfl) (fun _ _ _ h => h) HF.out rfl ?_ rfl rfl ?_ ?_
          rotate_left
          · intro w' hF; clear hF; go_simp; try rfl
          rotate_left
          · simp only [Act.put]; exact rfl
          refine Calm.one (i := 9) (l' := #[true, true, true, true, true, true, true, true, true, true, true, false, false, false]) (by kernel_rfl) rfl rfl rfl fun K hK => ?_
          go_simp
          have al := below_alloc u2 (.cells #[.bool false, .slice none 0 0] 25)
          replace TQ := hide (TQ.out.below (al))
          replace TM := hide (TM.out.below (al))
          have LTba := hide (BXb.out.lt)
          replace BXb := hide (BXb.out.step al)
          have BXa := hide (Box.new u2 (.bool false) (.slice none 0 0))
          have LTa := hide (FL.out _ HF.out)
          replace HF := hide (FS.out _ _ HF.out al)
          refine hK _ _ (fun _ => HF.out) ?_
          clear hK K al
          generalize u2.alloc (.cells #[.bool false, .slice none 0 0] 25) = wza at *
          generalize u2.heap.size = ga at *
          refine Calm.one (i := 11) (l' := #[true, true, true, true, true, true, true, true, true, true, true, true, false, false]) (by kernel_rfl) rfl rfl rfl fun K hK => ?_
          have hc0 := BXa.out.cell0
          have hc1 := BXa.out.cell1
          have hf0 := BXa.out.free 0
          have hf1 := BXa.out.free 1
          go_simp
          replace HF := hide (FP2.out _ ga (.bool s2) (.slice m2 n2 c2) HF.out BXa.out LTa.out)
          replace TQ := hide (TQ.out.keep (BXa.out.keeps (by simp) (by simp) (.bool s2) (.slice m2 n2 c2)))
          replace TM := hide (TM.out.keep (BXa.out.keeps (by simp) (by simp) (.bool s2) (.slice m2 n2 c2)))
          replace BXb := hide (BXb.out.other (C := ga) (by first | exact Nat.ne_of_lt LTab.out | exact Nat.ne_of_gt LTba.out) (.bool s2) (.slice m2 n2 c2))
          replace BXa := hide (BXa.out.put (.bool s2) (.slice m2 n2 c2))
          refine hK _ _ (fun _ => HF.out) ?_
          clear hK K hc0 hf0 hc1 hf1
          generalize ((wza.setCell ⟨ga, 0, none⟩ (.bool s2)).setCell ⟨ga, 1, none⟩ (.slice m2 n2 c2)) = ws11 at *
          refine Calm.one (i := 12) (l' := #[true, true, true, true, true, true, true, true, true, true, true, true, true, false]) (by kernel_rfl) rfl rfl rfl fun K hK => ?_
          have hc0 := BXb.out.cell0
          have hc1 := BXb.out.cell1
          have hf0 := BXb.out.free 0
          have hf1 := BXb.out.free 1
          go_simp
          replace HF := hide (FP2.out _ gb (.bool s3) (.slice m3 n3 c3) HF.out BXb.out LTb.out)
          replace TQ := hide (TQ.out.keep (BXb.out.keeps (by simp) (by simp) (.bool s3) (.slice m3 n3 c3)))
          replace TM := hide (TM.out.keep (BXb.out.keeps (by simp) (by simp) (.bool s3) (.slice m3 n3 c3)))
          replace BXa := hide (BXa.out.other (C := gb) (by first | exact Nat.ne_of_lt LTba.out | exact Nat.ne_of_gt LTab.out) (.bool s3) (.slice m3 n3 c3))
          replace BXb := hide (BXb.out.put (.bool s3) (.slice m3 n3 c3))
          refine hK _ _ (fun _ => HF.out) ?_
          clear hK K hc0 hf0 hc1 hf1
          generalize ((ws11.setCell ⟨gb, 0, none⟩ (.bool s3)).setCell ⟨gb, 1, none⟩ (.slice m3 n3 c3)) = ws12 at *
          refine Calm.take (i := 13) (v := ?_) (a' := ?_) (l' := #[true, true, true, true, true, true, true, true, true, true, true, true, true, true]) (d := some 5) rfl (by kernel_rfl) (by kernel_rfl) (by kernel_rfl) (by kernel_rfl) (fun _ _ _ h => h) HF.out rfl ?_ rfl rfl ?_ ?_
          rotate_left
          · intro w' hF; clear hF; go_simp; try rfl
          rotate_left
          · simp only [Act.put]; exact rfl
          refine Calm.done (by kernel_rfl) ?_
          have h := FU.out _ HF.out
          go_wp2
          go_meet
          case rel => exact ⟨ga, s2, m2, n2, c2, gb, s3, m3, n3, c3, rfl, rfl, ⟨LTa.out, LTb.out, by first | exact Nat.ne_of_lt LTab.out | exact Nat.ne_of_gt LTba.out⟩, h.1, h.2.1, h.2.2.1, h.2.2.2, BXa.out, BXb.out, TQ.out, TM.out⟩
        · go_simp
          have al := below_alloc wzb (.cells #[.bool false, .slice none 0 0] 25)
          replace T1 := hide (T1.out.below (al))
          have LTba := hide (BXb.out.lt)
          replace BXb := hide (BXb.out.step al)
          have BXa := hide (Box.new wzb (.bool false) (.slice none 0 0))
          have LTa := hide (FL.out _ HF.out)
          replace HF := hide (FS.out _ _ HF.out al)
          refine hK _ _ (fun _ => HF.out) ?_
          clear hK K al
          generalize wzb.alloc (.cells #[.bool false, .slice none 0 0] 25) = wza at *
          generalize wzb.heap.size = ga at *
          refine Calm.one (i := 4) (l' := #[true, true, true, true, true, false, false, false, false, true, true, false, false, false]) (by kernel_rfl) rfl rfl rfl fun K hK => ?_
          go_simp
          refine (idivmod_any _ _ x.num (x.den : Int) _ (FU.out _ HF.out).2.2.2.num T1.out (SzI.len HX.out.num (by decide)) (SzI.len HX.out.den (by decide)) (by have := x.den_nz; omega)).mono ?_
          rintro e u2 ⟨vq, vr, rfl, n, n', hb⟩
          obtain ⟨s2, m2, n2, c2, rfl, n⟩ := n.cells
          obtain ⟨s3, m3, n3, c3, rfl, n'⟩ := n'.cells
          clear T1
          replace BXb := hide (BXb.out.step hb)
          replace BXa := hide (BXa.out.step hb)
          have TQ := hide (n)
          have TM := hide (n')
          replace HF := hide (FS.out _ _ HF.out hb)
          refine hK _ _ (fun _ => HF.out) ?_
          clear hK K hb n n'
          refine Calm.take (i := 5) (v := ?_) (a' := ?_) (l' := #[true, true, true, true, true, true, false, false, false, true, true, false, false, false]) (d := some 6) rfl (by kernel_rfl) (by kernel_rfl) (by kernel_rfl) (by kernel_rfl) (fun _ _ _ h => h) HF.out rfl ?_ rfl rfl ?_ ?_
          rotate_left
          · intro w' hF; clear hF; go_simp; try rfl
          rotate_left
          · simp only [Act.put]; exact rfl
          refine Calm.take (i := 6) (v := ?_) (a' := ?_) (l' := #[true, true, true, true, true, true, true, false, false, true, true, false, false, false]) (d := some 12) rfl (by kernel_rfl) (by kernel_rfl) (by kernel_rfl) (by kernel_rfl) (fun _ _ _ h => h) HF.out rfl ?_ rfl rfl ?_ ?_
          rotate_left
          · intro w' hF; clear hF; go_simp; try rfl
          rotate_left
          · simp only [Act.put]; exact rfl
          refine Calm.take (i := 7) (v := ?_) (a' := ?_) (l' := #[true, true, true, true, true, true, true, true, false, true, true, false, false, false]) (d := some 13) rfl (by kernel_rfl) (by kernel_rfl) (by kernel_rfl) (by kernel_rfl) (fun _ _ _ h => h) HF.out rfl ?_ rfl rfl ?_ ?_
          rotate_left
          · intro w' hF; clear hF; go_simp; try rfl
          rotate_left
          · simp only [Act.put]; exact rfl
          refine Calm.take (i := 8) (v := ?_) (a' := ?_) (l' := #[true, true, true, true, true, true, true, true, true, true, true, false, false, false]) (d := some 14) rfl (by kernel_rfl) (by kernel_rfl) (by kernel_rfl) (by kernel_rfl) (fun _ _ _ h => h) HF.out rfl ?_ rfl rfl ?_ ?_
          rotate_left
          · intro w' hF; clear hF; go_simp; try rfl
          rotate_left
          · simp only [Act.put]; exact rfl
          refine Calm.one (i := 11) (l' := #[true, true, true, true, true, true, true, true, true, true, true, true, false, false]) (by kernel_rfl) rfl rfl rfl fun K hK => ?_
          have hc0 := BXa.out.cell0
          have hc1 := BXa.out.cell1
          have hf0 := BXa.out.free 0
          have hf1 := BXa.out.free 1
          go_simp
          replace HF := hide (FP2.out _ ga (.bool s2) (.slice m2 n2 c2) HF.out BXa.out LTa.out)
          replace TQ := hide (TQ.out.keep (BXa.out.keeps (by simp) (by simp) (.bool s2) (.slice m2 n2 c2)))
          replace TM := hide (TM.out.keep (BXa.out.keeps (by simp) (by simp) (.bool s2) (.slice m2 n2 c2)))
          replace BXb := hide (BXb.out.other (C := ga) (by first | exact Nat.ne_of_lt LTab.out | exact Nat.ne_of_gt LTba.out) (.bool s2) (.slice m2 n2 c2))
          replace BXa := hide (BXa.out.put (.bool s2) (.slice m2 n2 c2))
          refine hK _ _ (fun _ => HF.out) ?_
          clear hK K hc0 hf0 hc1 hf1
          generalize ((u2.setCell ⟨ga, 0, none⟩ (.bool s2)).setCell ⟨ga, 1, none⟩ (.slice m2 n2 c2)) = ws11 at *
          refine Calm.one (i := 12) (l' := #[true, true, true, true, true, true, true, true, true, true, true, true, true, false]) (by kernel_rfl) rfl rfl rfl fun K hK => ?_
          have hc0 := BXb.out.cell0
          have hc1 := BXb.out.cell1
          have hf0 := BXb.out.free 0
          have hf1 := BXb.out.free 1
          go_simp
          replace HF := hide (FP2.out _ gb (.bool s3) (.slice m3 n3 c3) HF.out BXb.out LTb.out)
          replace TQ := hide (TQ.out.keep (BXb.out.keeps (by simp) (by simp) (.bool s3) (.slice m3 n3 c3)))
          replace TM := hide (TM.out.keep (BXb.out.keeps (by simp) (by simp) (.bool s3) (.slice m3 n3 c3)))
          replace BXa := hide (BXa.out.other (C := gb) (by first | exact Nat.ne_of_lt LTba.out | exact Nat.ne_of_gt LTab.out) (.bool s3) (.slice m3 n3 c3))
          replace BXb := hide (BXb.out.put (.bool s3) (.slice m3 n3 c3))
          refine hK _ _ (fun _ => HF.out) ?_
          clear hK K hc0 hf0 hc1 hf1
          generalize ((ws11.setCell ⟨gb, 0, none⟩ (.bool s3)).setCell ⟨gb, 1, none⟩ (.slice m3 n3 c3)) = ws12 at *
          refine Calm.take (i := 13) (v := ?_) (a' := ?_) (l' := #[true, true, true, true, true, true, true, true, true, true, true, true, true, true]) (d := some 5) rfl (by kernel_rfl) (by kernel_rfl) (by kernel_rfl) (by kernel_rfl) (fun _ _ _ h => h) HF.out rfl ?_ rfl rfl ?_ ?_
          rotate_left
          · intro w' hF; clear hF; go_simp; try rfl
          rotate_left
          · simp only [Act.put]; exact rfl
          refine Calm.done (by kernel_rfl) ?_
          have h := FU.out _ HF.out
          go_wp2
          go_meet
          case rel => exact ⟨ga, s2, m2, n2, c2, gb, s3, m3, n3, c3, rfl, rfl, ⟨LTa.out, LTb.out, by first | exact Nat.ne_of_lt LTab.out | exact Nat.ne_of_gt LTba.out⟩, h.1, h.2.1, h.2.2.1, h.2.2.2, BXa.out, BXb.out, TQ.out, TM.out⟩
    · go_simp
      have al := below_alloc w0d (.cells #[.bool false, .slice none 0 0] 25)
      have BXa := hide (Box.new w0d (.bool false) (.slice none 0 0))
      have LTa := hide (FL.out _ HF.out)
      replace HF := hide (FS.out _ _ HF.out al)
      refine hK _ _ (fun _ => HF.out) ?_
      clear hK K al
      generalize w0d.alloc (.cells #[.bool false, .slice none 0 0] 25) = wza at *
      generalize w0d.heap.size = ga at *
      refine Calm.two (i := 3) (j := 10) (l := #[true, true, true, true, false, false, false, false, false, true, false, false, false, false]) (l' := #[true, true, true, false, false, false, false, false, false, true, true, false, false, false]) (by kernel_rfl) rfl rfl rfl rfl rfl rfl (fun K hK => ?_) (fun K hK => ?_)
      · go_simp
        refine (den_any _ x _ (FU.out _ HF.out).2.2.2).mono ?_
        rintro e u1 ⟨v, rfl, n, hb⟩
        replace BXa := hide (BXa.out.step hb)
        have T1 := hide (n)
        replace HF := hide (FS.out _ _ HF.out hb)
        refine hK _ _ (fun _ => HF.out) ?_
        clear hK K hb n
        refine Calm.two (i := 4) (j := 10) (l := #[true, true, true, true, true, false, false, false, false, true, false, false, false, false]) (l' := #[true, true, true, true, false, false, false, false, false, true, true, false, false, false]) (by kernel_rfl) rfl rfl rfl rfl rfl rfl (fun K hK => ?_) (fun K hK => ?_)
        · go_simp
          refine (idivmod_any _ _ x.num (x.den : Int) _ (FU.out _ HF.out).2.2.2.num T1.out (SzI.len HX.out.num (by decide)) (SzI.len HX.out.den (by decide)) (by have := x.den_nz; omega)).mono ?_
          rintro e u2 ⟨vq, vr, rfl, n, n', hb⟩
          obtain ⟨s2, m2, n2, c2, rfl, n⟩ := n.cells
          obtain ⟨s3, m3, n3, c3, rfl, n'⟩ := n'.cells
          clear T1
          replace BXa := hide (BXa.out.step hb)
          have TQ := hide (n)
          have TM := hide (n')
          replace HF := hide (FS.out _ _ HF.out hb)
          refine hK _ _ (fun _ => HF.out) ?_
          clear hK K hb n n'
          refine Calm.take (i := 5) (v := ?_) (a' := ?_) (l' := #[true, true, true, true, true, true, false, false, false, true, false, false, false, false]) (d := some 6) rfl (by kernel_rfl) (by kernel_rfl) (by kernel_rfl) (by kernel_rfl) (fun _ _ _ h => h) HF.out rfl ?_ rfl rfl ?_ ?_
          rotate_left
          · intro w' hF; clear hF; go_simp; try rfl
          rotate_left
          · simp only [Act.put]; exact rfl
          refine Calm.take (i := 6) (v := ?_) (a' := ?_) (l' := #[true, true, true, true, true, true, true, false, false, true, false, false, false, false]) (d := some 12) rfl (by kernel_rfl) (by kernel_rfl) (by kernel_rfl) (by kernel_rfl) (fun _ _ _ h => h) HF.out rfl ?_ rfl rfl ?_ ?_
          rotate_left
          · intro w' hF; clear hF; go_simp; try rfl
          rotate_left
          · simp only [Act.put]; exact rfl
          refine Calm.take (i := 7) (v := ?_) (a' := ?_) (l' := #[true, true, true, true, true, true, true, true, false, true, false, false, false, false]) (d := some 13) rfl (by kernel_rfl) (by kernel_rfl) (by kernel_rfl) (by kernel_rfl) (fun _ _ _ h => h) HF.out rfl ?_ rfl rfl ?_ ?_
          rotate_left
          · intro w' hF; clear hF; go_simp; try rfl
          rotate_left
          · simp only [Act.put]; exact rfl
          refine Calm.take (i := 8) (v := ?_) (a' := ?_) (l' := #[true, true, true, true, true, true, true, true, true, true, false, false, false, false]) (d := some 14) rfl (by kernel_rfl) (by kernel_rfl) (by kernel_rfl) (by kernel_rfl) (fun _ _ _ h => h) HF.out rfl ?_ rfl rfl ?_ ?_
          rotate_left
          · intro w' hF; clear hF; go_simp; try rfl
          rotate_left
          · simp only [Act.put]; exact rfl
          refine Calm.one (i := 10) (l' := #[true, true, true, true, true, true, true, true, true, true, true, false, false, false]) (by kernel_rfl) rfl rfl rfl fun K hK => ?_
          go_simp
          have al := below_alloc u2 (.cells #[.bool false, .slice none 0 0] 25)
          replace TQ := hide (TQ.out.below (al))
          replace TM := hide (TM.out.below (al))
          have LTab := hide (BXa.out.lt)
          replace BXa := hide (BXa.out.step al)
          have BXb := hide (Box.new u2 (.bool false) (.slice none 0 0))
          have LTb := hide (FL.out _ HF.out)
          replace HF := hide (FS.out _ _ HF.out al)
          refine hK _ _ (fun _ => HF.out) ?_
          clear hK K al
          generalize u2.alloc (.cells #[.bool false, .slice none 0 0] 25) = wzb at *
          generalize u2.heap.size = gb at *
          refine Calm.one (i := 11) (l' := #[true, true, true, true, true, true, true, true, true, true, true, true, false, false]) (by kernel_rfl) rfl rfl rfl fun K hK => ?_
          have hc0 := BXa.out.cell0
          have hc1 := BXa.out.cell1
          have hf0 := BXa.out.free 0
          have hf1 := BXa.out.free 1
          go_simp
          replace HF := hide (FP2.out _ ga (.bool s2) (.slice m2 n2 c2) HF.out BXa.out LTa.out)
          replace TQ := hide (TQ.out.keep (BXa.out.keeps (by simp) (by simp) (.bool s2) (.slice m2 n2 c2)))
          replace TM := hide (TM.out.keep (BXa.out.keeps (by simp) (by simp) (.bool s2) (.slice m2 n2 c2)))
          replace BXb := hide (BXb.out.other (C := ga) (by first | exact Nat.ne_of_lt LTab.out | exact Nat.ne_of_gt LTba.out) (.bool s2) (.slice m2 n2 c2))
          replace BXa := hide (BXa.out.put (.bool s2) (.slice m2 n2 c2))
          refine hK _ _ (fun _ => HF.out) ?_
          clear hK K hc0 hf0 hc1 hf1
          generalize ((wzb.setCell ⟨ga, 0, none⟩ (.bool s2)).setCell ⟨ga, 1, none⟩ (.slice m2 n2 c2)) = ws11 at *
          refine Calm.one (i := 12) (l' := #[true, true, true, true, true, true, true, true, true, true, true, true, true, false]) (by kernel_rfl) rfl rfl rfl fun K hK => ?_
          have hc0 := BXb.out.cell0
          have hc1 := BXb.out.cell1
          have hf0 := BXb.out.free 0
          have hf1 := BXb.out.free 1
          go_simp
          replace HF := hide (FP2.out _ gb (.bool s3) (.slice m3 n3 c3) HF.out BXb.out LTb.out)
          replace TQ := hide (TQ.out.keep (BXb.out.keeps (by simp) (by simp) (.bool s3) (.slice m3 n3 c3)))
          replace TM := hide (TM.out.keep (BXb.out.keeps (by simp) (by simp) (.bool s3) (.slice m3 n3 c3)))
          replace BXa := hide (BXa.out.other (C := gb) (by first | exact Nat.ne_of_lt LTba.out | exact Nat.ne_of_gt LTab.out) (.bool s3) (.slice m3 n3 c3))
          replace BXb := hide (BXb.out.put (.bool s3) (.slice m3 n3 c3))
          refine hK _ _ (fun _ => HF.out) ?_
          clear hK K hc0 hf0 hc1 hf1
          generalize ((ws11.setCell ⟨gb, 0, none⟩ (.bool s3)).setCell ⟨gb, 1, none⟩ (.slice m3 n3 c3)) = ws12 at *
          refine Calm.take (i := 13) (v := ?_) (a' := ?_) (l' := #[true, true, true, true, true, true, true, true, true, true, true, true, true, true]) (d := some 5) rfl (by kernel_rfl) (by kernel_rfl) (by kernel_rfl) (by kernel_rfl) (fun _ _ _ h => h) HF.out rfl ?_ rfl rfl ?_ ?_
          rotate_left
          · intro w' hF; clear hF; go_simp; try rfl
          rotate_left
          · simp only [Act.put]; exact rfl
          refine Calm.done (by kernel_rfl) ?_
          have h := FU.out _ HF.out
          go_wp2
          go_meet
          case rel => exact ⟨ga, s2, m2, n2, c2, gb, s3, m3, n3, c3, rfl, rfl, ⟨LTa.out, LTb.out, by first | exact Nat.ne_of_lt LTab.out | exact Nat.ne_of_gt LTba.out⟩, h.1, h.2.1, h.2.2.1, h.2.2.2, BXa.out, BXb.out, TQ.out, TM.out⟩
        · go_simp
          have al := below_alloc u1 (.cells #[.bool false, .slice none 0 0] 25)
          replace T1 := hide (T1.out.below (al))
          have LTab := hide (BXa.out.lt)
          replace BXa := hide (BXa.out.step al)
          have BXb := hide (Box.new u1 (.bool false) (.slice none 0 0))
          have LTb := hide (FL.out _ HF.out)
          replace HF := hide (FS.out _ _ HF.out al)
          refine hK _ _ (fun _ => HF.out) ?_
          clear hK K al
          generalize u1.alloc (.cells #[.bool false, .slice none 0 0] 25) = wzb at *
          generalize u1.heap.size = gb at *
          refine Calm.one (i := 4) (l' := #[true, true, true, true, true, false, false, false, false, true, true, false, false, false]) (by kernel_rfl) rfl rfl rfl fun K hK => ?_
          go_simp
          refine (idivmod_any _ _ x.num (x.den : Int) _ (FU.out _ HF.out).2.2.2.num T1.out (SzI.len HX.out.num (by decide)) (SzI.len HX.out.den (by decide)) (by have := x.den_nz; omega)).mono ?_
          rintro e u2 ⟨vq, vr, rfl, n, n', hb⟩
          obtain ⟨s2, m2, n2, c2, rfl, n⟩ := n.cells
          obtain ⟨s3, m3, n3, c3, rfl, n'⟩ := n'.cells
          clear T1
          replace BXa := hide (BXa.out.step hb)
          replace BXb := hide (BXb.out.step hb)
          have TQ := hide (n)
          have TM := hide (n')
          replace HF := hide (FS.out _ _ HF.out hb)
          refine hK _ _ (fun _ => HF.out) ?_
          clear hK K hb n n'
          refine Calm.take (i := 5) (v := ?_) (a' := ?_) (l' := #[true, true, true, true, true, true, false, false, false, true, true, false, false, false]) (d := some 6) rfl (by kernel_rfl) (by kernel_rfl) (by kernel_rfl) (by kernel_rfl) (fun _ _ _ h => h) HF.out rfl ?_ rfl rfl ?_ ?_
          rotate_left
          · intro w' hF; clear hF; go_simp; try rfl
          rotate_left
          · simp only [Act.put]; exact rfl
          refine Calm.take (i := 6) (v := ?_) (a' := ?_) (l' := #[true, true, true, true, true, true, true, false, false, true, true, false, false, false]) (d := some 12) rfl (by kernel_rfl) (by kernel_rfl) (by kernel_rfl) (by kernel_rfl) (fun _ _ _ h => h) HF.out rfl ?_ rfl rfl ?_ ?_
          rotate_left
          · intro w' hF; clear hF; go_simp; try rfl
          rotate_left
          · simp only [Act.put]; exact rfl
          refine Calm.take (i := 7) (v := ?_) (a' := ?_) (l' := #[true, true, true, true, true, true, true, true, false, true, true, false, false, false]) (d := some 13) rfl (by kernel_rfl) (by kernel_rfl) (by kernel_rfl) (by kernel_rfl) (fun _ _ _ h => h) HF.out rfl ?_ rfl rfl ?_ ?_
          rotate_left
          · intro w' hF; clear hF; go_simp; try rfl
          rotate_left
          · simp only [Act.put]; exact rfl
          refine Calm.take (i := 8) (v := ?_) (a' := ?_) (l' := #[true, true, true, true, true, true, true, true, true, true, true, false, false, false]) (d := some 14) rfl (by kernel_rfl) (by kernel_rfl) (by kernel_rfl) (by kernel_rfl) (fun _ _ _ h => h) HF.out rfl ?_ rfl rfl ?_ ?_
          rotate_left
          · intro w' hF; clear hF; go_simp; try rfl
          rotate_left
          · simp only [Act.put]; exact rfl
          refine Calm.one (i := 11) (l' := #[true, true, true, true, true, true, true, true, true, true, true, true, false, false]) (by kernel_rfl) rfl rfl rfl fun K hK => ?_
          have hc0 := BXa.out.cell0
          have hc1 := BXa.out.cell1
          have hf0 := BXa.out.free 0
          have hf1 := BXa.out.free 1
          go_simp
          replace HF := hide (FP2.out _ ga (.bool s2) (.slice m2 n2 c2) HF.out BXa.out LTa.out)
          replace TQ := hide (TQ.out.keep (BXa.out.keeps (by simp) (by simp) (.bool s2) (.slice m2 n2 c2)))
          replace TM := hide (TM.out.keep (BXa.out.keeps (by simp) (by simp) (.bool s2) (.slice m2 n2 c2)))
          replace BXb := hide (BXb.out.other (C := ga) (by first | exact Nat.ne_of_lt LTab.out | exact Nat.ne_of_gt LTba.out) (.bool s2) (.slice m2 n2 c2))
          replace BXa := hide (BXa.out.put (.bool s2) (.slice m2 n2 c2))
          refine hK _ _ (fun _ => HF.out) ?_
          clear hK K hc0 hf0 hc1 hf1
          generalize ((u2.setCell ⟨ga, 0, none⟩ (.bool s2)).setCell ⟨ga, 1, none⟩ (.slice m2 n2 c2)) = ws11 at *
          refine Calm.one (i := 12) (l' := #[true, true, true, true, true, true, true, true, true, true, true, true, true, false]) (by kernel_rfl) rfl rfl rfl fun K hK => ?_
          have hc0 := BXb.out.cell0
          have hc1 := BXb.out.cell1
          have hf0 := BXb.out.free 0
          have hf1 := BXb.out.free 1
          go_simp
          replace HF := hide (FP2.out _ gb (.bool s3) (.slice m3 n3 c3) HF.out BXb.out LTb.out)
          replace TQ := hide (TQ.out.keep (BXb.out.keeps (by simp) (by simp) (.bool s3) (.slice m3 n3 c3)))
          replace TM := hide (TM.out.keep (BXb.out.keeps (by simp) (by simp) (.bool s3) (.slice m3 n3 c3)))
          replace BXa := hide (BXa.out.other (C := gb) (by first | exact Nat.ne_of_lt LTba.out | exact Nat.ne_of_gt LTab.out) (.bool s3) (.slice m3 n3 c3))
          replace BXb := hide (BXb.out.put (.bool s3) (.slice m3 n3 c3))
          refine hK _ _ (fun _ => HF.out) ?_
          clear hK K hc0 hf0 hc1 hf1
          generalize ((ws11.setCell ⟨gb, 0, none⟩ (.bool s3)).setCell ⟨gb, 1, none⟩ (.slice m3 n3 c3)) = ws12 at *
          refine Calm.take (i := 13) (v := ?_) (a' := ?_) (l' := #[true, true, true, true, true, true, true, true, true, true, true, true, true, true]) (d := some 5) rfl (by kernel_rfl) (by kernel_rfl) (by kernel_rfl) (by kernel_rfl) (fun _ _ _ h => h) HF.out rfl ?_ rfl rfl ?_ ?_
          rotate_left
          · intro w' hF; clear hF; go_simp; try rfl
          rotate_left
          · simp only [Act.put]; exact rfl
          refine Calm.done (by kernel_rfl) ?_
          have h := FU.out _ HF.out
          go_wp2
          go_meet
          case rel => exact ⟨ga, s2, m2, n2, c2, gb, s3, m3, n3, c3, rfl, rfl, ⟨LTa.out, LTb.out, by first | exact Nat.ne_of_lt LTab.out | exact Nat.ne_of_gt LTba.out⟩, h.1, h.2.1, h.2.2.1, h.2.2.2, BXa.out, BXb.out, TQ.out, TM.out⟩
      · go_simp
        have al := below_alloc wza (.cells #[.bool false, .slice none 0 0] 25)
        have LTab := hide (BXa.out.lt)
        replace BXa := hide (BXa.out.step al)
        have BXb := hide (Box.new wza (.bool false) (.slice none 0 0))
        have LTb := hide (FL.out _ HF.out)
        replace HF := hide (FS.out _ _ HF.out al)
        refine hK _ _ (fun _ => HF.out) ?_
        clear hK K al
        generalize wza.alloc (.cells #[.bool false, .slice none 0 0] 25) = wzb at *
        generalize wza.heap.size = gb at *
        refine Calm.one (i := 3) (l' := #[true, true, true, true, false, false, false, false, false, true, true, false, false, false]) (by kernel_rfl) rfl rfl rfl fun K hK => ?_
        go_simp
        refine (den_any _ x _ (FU.out _ HF.out).2.2.2).mono ?_
        rintro e u1 ⟨v, rfl, n, hb⟩
        replace BXa := hide (BXa.out.step hb)
        replace BXb := hide (BXb.out.step hb)
        have T1 := hide (n)
        replace HF := hide (FS.out _ _ HF.out hb)
        refine hK _ _ (fun _ => HF.out) ?_
        clear hK K hb n
        refine Calm.one (i := 4) (l' := #[true, true, true, true, true, false, false, false, false, true, true, false, false, false]) (by kernel_rfl) rfl rfl rfl fun K hK => ?_
        go_simp
        refine (idivmod_any _ _ x.num (x.den : Int) _ (FU.out _ HF.out).2.2.2.num T1.out (SzI.len HX.out.num (by decide)) (SzI.len HX.out.den (by decide)) (by have := x.den_nz; omega)).mono ?_
        rintro e u2 ⟨vq, vr, rfl, n, n', hb⟩
        obtain ⟨s2, m2, n2, c2, rfl, n⟩ := n.cells
        obtain ⟨s3, m3, n3, c3, rfl, n'⟩ := n'.cells
        clear T1
        replace BXa := hide (BXa.out.step hb)
        replace BXb := hide (BXb.out.step hb)
        have TQ := hide (n)
        have TM := hide (n')
        replace HF := hide (FS.out _ _ HF.out hb)
        refine hK _ _ (fun _ => HF.out) ?_
        clear hK K hb n n'
        refine Calm.take (i := 5) (v := ?_) (a' := ?_) (l' := #[true, true, true, true, true, true, false, false, false, true, true, false, false, false]) (d := some 6) rfl (by kernel_rfl) (by kernel_rfl) (by kernel_rfl) (by kernel_rfl) (fun _ _ _ h => h) HF.out rfl ?_ rfl rfl ?_ ?_
        rotate_left
        · intro w' hF; clear hF; go_simp; try rfl
        rotate_left
        · simp only [Act.put]; exact rfl
        refine Calm.take (i := 6) (v := ?_) (a' := ?_) (l' := #[true, true, true, true, true, true, true, false, false, true, true, false, false, false]) (d := some 12) rfl (by kernel_rfl) (by kernel_rfl) (by kernel_rfl) (by kernel_rfl) (fun _ _ _ h => h) HF.out rfl ?_ rfl rfl ?_ ?_
        rotate_left
        · intro w' hF; clear hF; go_simp; try rfl
        rotate_left
        · simp only [Act.put]; exact rfl
        refine Calm.take (i := 7) (v := ?_) (a' := ?_) (l' := #[true, true, true, true, true, true, true, true, false, true, true, false, false, false]) (d := some 13) rfl (by kernel_rfl) (by kernel_rfl) (by kernel_rfl) (by kernel_rfl) (fun _ _ _ h => h) HF.out rfl ?_ rfl rfl ?_ ?_
        rotate_left
        · intro w' hF; clear hF; go_simp; try rfl
        rotate_left
        · simp only [Act.put]; exact rfl
        refine Calm.take (i := 8) (v := ?_) (a' := ?_) (l' := #[true, true, true, true, true, true, true, true, true, true, true, false, false, false]) (d := some 14) rfl (by kernel_rfl) (by kernel_rfl) (by kernel_rfl) (by kernel_rfl) (fun _ _ _ h => h) HF.out rfl ?_ rfl rfl ?_ ?_
        rotate_left
        · intro w' hF; clear hF; go_simp; try rfl
        rotate_left
        · simp only [Act.put]; exact rfl
        refine Calm.one (i := 11) (l' := #[true, true, true, true, true, true, true, true, true, true, true, true, false, false]) (by kernel_rfl) rfl rfl rfl fun K hK => ?_
        have hc0 := BXa.out.cell0
        have hc1 := BXa.out.cell1
        have hf0 := BXa.out.free 0
        have hf1 := BXa.out.free 1
        go_simp
        replace HF := hide (FP2.out _ ga (.bool s2) (.slice m2 n2 c2) HF.out BXa.out LTa.out)
        replace TQ := hide (TQ.out.keep (BXa.out.keeps (by simp) (by simp) (.bool s2) (.slice m2 n2 c2)))
        replace TM := hide (TM.out.keep (BXa.out.keeps (by simp) (by simp) (.bool s2) (.slice m2 n2 c2)))
        replace BXb := hide (BXb.out.other (C := ga) (by first | exact Nat.ne_of_lt LTab.out | exact Nat.ne_of_gt LTba.out) (.bool s2) (.slice m2 n2 c2))
        replace BXa := hide (BXa.out.put (.bool s2) (.slice m2 n2 c2))
        refine hK _ _ (fun _ => HF.out) ?_
        clear hK K hc0 hf0 hc1 hf1
        generalize ((u2.setCell ⟨ga, 0, none⟩ (.bool s2)).setCell ⟨ga, 1, none⟩ (.slice m2 n2 c2)) = ws11 at *
        refine Calm.one (i := 12) (l' := #[true, true, true, true, true, true, true, true, true, true, true, true, true, false]) (by kernel_rfl) rfl rfl rfl fun K hK => ?_
        have hc0 := BXb.out.cell0
        have hc1 := BXb.out.cell1
        have hf0 := BXb.out.free 0
        have hf1 := BXb.out.free 1
        go_simp
        replace HF := hide (FP2.out _ gb (.bool s3) (.slice m3 n3 c3) HF.out BXb.out LTb.out)
        replace TQ := hide (TQ.out.keep (BXb.out.keeps (by simp) (by simp) (.bool s3) (.slice m3 n3 c3)))
        replace TM := hide (TM.out.keep (BXb.out.keeps (by simp) (by simp) (.bool s3) (.slice m3 n3 c3)))
        replace BXa := hide (BXa.out.other (C := gb) (by first | exact Nat.ne_of_lt LTba.out | exact Nat.ne_of_gt LTab.out) (.bool s3) (.slice m3 n3 c3))
        replace BXb := hide (BXb.out.put (.bool s3) (.slice m3 n3 c3))
        refine hK _ _ (fun _ => HF.out) ?_
        clear hK K hc0 hf0 hc1 hf1
        generalize ((ws11.setCell ⟨gb, 0, none⟩ (.bool s3)).setCell ⟨gb, 1, none⟩ (.slice m3 n3 c3)) = ws12 at *
        refine Calm.take (i := 13) (v := ?_) (a' := ?_) (l' := #[true, true, true, true, true, true, true, true, true, true, true, true, true, true]) (d := some 5) rfl (by kernel_rfl) (by kernel_rfl) (by kernel_rfl) (by kernel_rfl) (fun _ _ _ h => h) HF.out rfl ?_ rfl rfl ?_ ?_
        rotate_left
        · intro w' hF; clear hF; go_simp; try rfl
        rotate_left
        · simp only [Act.put]; exact rfl
        refine Calm.done (by kernel_rfl) ?_
        have h := FU.out _ HF.out
        go_wp2
        go_meet
        case rel => exact ⟨ga, s2, m2, n2, c2, gb, s3, m3, n3, c3, rfl, rfl, ⟨LTa.out, LTb.out, by first | exact Nat.ne_of_lt LTab.out | exact Nat.ne_of_gt LTba.out⟩, h.1, h.2.1, h.2.2.1, h.2.2.2, BXa.out, BXb.out, TQ.out, TM.out⟩
    · go_simp
      have al := below_alloc w0d (.cells #[.bool false, .slice none 0 0] 25)
      have BXb := hide (Box.new w0d (.bool false) (.slice none 0 0))
      have LTb := hide (FL.out _ HF.out)
      replace HF := hide (FS.out _ _ HF.out al)
      refine hK _ _ (fun _ => HF.out) ?_
      clear hK K al
      generalize w0d.alloc (.cells #[.bool false, .slice none 0 0] 25) = wzb at *
      generalize w0d.heap.size = gb at *
      refine Calm.two (i := 3) (j := 9) (l := #[true, true, true, true, false, false, false, false, false, false, true, false, false, false]) (l' := #[true, true, true, false, false, false, false, false, false, true, true, false, false, false]) (by kernel_rfl) rfl rfl rfl rfl rfl rfl (fun K hK => ?_) (fun K hK => ?_)
      · go_simp
        refine (den_any _ x _ (FU.out _ HF.out).2.2.2).mono ?_
        rintro e u1 ⟨v, rfl, n, hb⟩
        replace BXb := hide (BXb.out.step hb)
        have T1 := hide (n)
        replace HF := hide (FS.out _ _ HF.out hb)
        refine hK _ _ (fun _ => HF.out) ?_
        clear hK K hb n
        refine Calm.two (i := 4) (j := 9) (l := #[true, true, true, true, true, false, false, false, false, false, true, false, false, false]) (l' := #[true, true, true, true, false, false, false, false, false, true, true, false, false, false]) (by kernel_rfl) rfl rfl rfl rfl rfl rfl (fun K hK => ?_) (fun K hK => ?_)
        · go_simp
          refine (idivmod_any _ _ x.num (x.den : Int) _ (FU.out _ HF.out).2.2.2.num T1.out (SzI.len HX.out.num (by decide)) (SzI.len HX.out.den (by decide)) (by have := x.den_nz; omega)).mono ?_
          rintro e u2 ⟨vq, vr, rfl, n, n', hb⟩
          obtain ⟨s2, m2, n2, c2, rfl, n⟩ := n.cells
          obtain ⟨s3, m3, n3, c3, rfl, n'⟩ := n'.cells
          clear T1
          replace BXb := hide (BXb.out.step hb)
          have TQ := hide (n)
          have TM := hide (n')
          replace HF := hide (FS.out _ _ HF.out hb)
          refine hK _ _ (fun _ => HF.out) ?_
          clear hK K hb n n'
          refine Calm.take (i := 5) (v := ?_) (a' := ?_) (l' := #[true, true, true, true, true, true, false, false, false, false, true, false, false, false]) (d := some 6) rfl (by kernel_rfl) (by kernel_rfl) (by kernel_rfl) (by kernel_rfl) (fun _ _ _ h => h) HF.out rfl ?_ rfl rfl ?_ ?_
          rotate_left
          · intro w' hF; clear hF; go_simp; try rfl
          rotate_left
          · simp only [Act.put]; exact rfl
          refine Calm.take (i := 6) (v := ?_) (a' := ?_) (l' := #[true, true, true, true, true, true, true, false, false, false, true, false, false, false]) (d := some 12) rfl (by kernel_rfl) (by kernel_rfl) (by kernel_rfl) (by kernel_rfl) (fun _ _ _ h => h) HF.out rfl ?_ rfl rfl ?_ ?_
          rotate_left
          · intro w' hF; clear hF; go_simp; try rfl
          rotate_left
          · simp only [Act.put]; exact rfl
          refine Calm.take (i := 7) (v := ?_) (a' := ?_) (l' := #[true, true, true, true, true, true, true, true, false, false, true, false, false, false]) (d := some 13) rfl (by kernel_rfl) (by kernel_rfl) (by kernel_rfl) (by kernel_rfl) (fun _ _ _ h => h) HF.out rfl ?_ rfl rfl ?_ ?_
          rotate_left
          · intro w' hF; clear hF; go_simp; try rfl
          rotate_left
          · simp only [Act.put]; exact rfl
          refine Calm.take (i := 8) (v := ?_) (a' := ?_) (l' := #[true, true, true, true, true, true, true, true, true, false, true, false, false, false]) (d := some 14) rfl (by kernel_rfl) (by kernel_rfl) (by kernel_rfl) (by kernel_rfl) (fun _ _ _ h => h) HF.out rfl ?_ rfl rfl ?_ ?_
          rotate_left
          · intro w' hF; clear hF; go_simp; try rfl
          rotate_left
          · simp only [Act.put]; exact rfl
          refine Calm.one (i := 9) (l' := #[true, true, true, true, true, true, true, true, true, true, true, false, false, false]) (by kernel_rfl) rfl rfl rfl fun K hK => ?_
          go_simp
          have al := below_alloc u2 (.cells #[.bool false, .slice none 0 0] 25)
          replace TQ := hide (TQ.out.below (al))
          replace TM := hide (TM.out.below (al))
          have LTba := hide (BXb.out.lt)
          replace BXb := hide (BXb.out.step al)
          have BXa := hide (Box.new u2 (.bool false) (.slice none 0 0))
          have LTa := hide (FL.out _ HF.out)
          replace HF := hide (FS.out _ _ HF.out al)
          refine hK _ _ (fun _ => HF.out) ?_
          clear hK K al
          generalize u2.alloc (.cells #[.bool false, .slice none 0 0] 25) = wza at *
          generalize u2.heap.size = ga at *
          refine Calm.one (i := 11) (l' := #[true, true, true, true, true, true, true, true, true, true, true, true, false, false]) (by kernel_rfl) rfl rfl rfl fun K hK => ?_
          have hc0 := BXa.out.cell0
          have hc1 := BXa.out.cell1
          have hf0 := BXa.out.free 0
          have hf1 := BXa.out.free 1
          go_simp
          replace HF := hide (FP2.out _ ga (.bool s2) (.slice m2 n2 c2) HF.out BXa.out LTa.out)
          replace TQ := hide (TQ.out.keep (BXa.out.keeps (by simp) (by simp) (.bool s2) (.slice m2 n2 c2)))
          replace TM := hide (TM.out.keep (BXa.out.keeps (by simp) (by simp) (.bool s2) (.slice m2 n2 c2)))
          replace BXb := hide (BXb.out.other (C := ga) (by first | exact Nat.ne_of_lt LTab.out | exact Nat.ne_of_gt LTba.out) (.bool s2) (.slice m2 n2 c2))
          replace BXa := hide (BXa.out.put (.bool s2) (.slice m2 n2 c2))
          refine hK _ _ (fun _ => HF.out) ?_
          clear hK K hc0 hf0 hc1 hf1
          generalize ((wza.setCell ⟨ga, 0, none⟩ (.bool s2)).setCell ⟨ga, 1, none⟩ (.slice m2 n2 c2)) = ws11 at *
          refine Calm.one (i := 12) (l' := #[true, true, true, true, true, true, true, true, true, true, true, true, true, false]) (by kernel_rfl) rfl rfl rfl fun K hK => ?_
          have hc0 := BXb.out.cell0
          have hc1 := BXb.out.cell1
          have hf0 := BXb.out.free 0
          have hf1 := BXb.out.free 1
          go_simp
          replace HF := hide (FP2.out _ gb (.bool s3) (.slice m3 n3 c3) HF.out BXb.out LTb.out)
          replace TQ := hide (TQ.out.keep (BXb.out.keeps (by simp) (by simp) (.bool s3) (.slice m3 n3 c3)))
          replace TM := hide (TM.out.keep (BXb.out.keeps (by simp) (by simp) (.bool s3) (.slice m3 n3 c3)))
          replace BXa := hide (BXa.out.other (C := gb) (by first | exact Nat.ne_of_lt LTba.out | exact Nat.ne_of_gt LTab.out) (.bool s3) (.slice m3 n3 c3))
          replace BXb := hide (BXb.out.put (.bool s3) (.slice m3 n3 c3))
          refine hK _ _ (fun _ => HF.out) ?_
          clear hK K hc0 hf0 hc1 hf1
          generalize ((ws11.setCell ⟨gb, 0, none⟩ (.bool s3)).setCell ⟨gb, 1, none⟩ (.slice m3 n3 c3)) = ws12 at *
          refine Calm.take (i := 13) (v := ?_) (a' := ?_) (l' := #[true, true, true, true, true, true, true, true, true, true, true, true, true, true]) (d := some 5) rfl (by kernel_rfl) (by kernel_rfl) (by kernel_rfl) (by kernel_rfl) (fun _ _ _ h => h) HF.out rfl ?_ rfl rfl ?_ ?_
          rotate_left
          · intro w' hF; clear hF; go_simp; try rfl
          rotate_left
          · simp only [Act.put]; exact rfl
          refine Calm.done (by kernel_rfl) ?_
          have h := FU.out _ HF.out
          go_wp2
          go_meet
          case rel => exact ⟨ga, s2, m2, n2, c2, gb, s3, m3, n3, c3, rfl, rfl, ⟨LTa.out, LTb.out, by first | exact Nat.ne_of_lt LTab.out | exact Nat.ne_of_gt LTba.out⟩, h.1, h.2.1, h.2.2.1, h.2.2.2, BXa.out, BXb.out, TQ.out, TM.out⟩
        · go_simp
          have al := below_alloc u1 (.cells #[.bool false, .slice none 0 0] 25)
          replace T1 := hide (T1.out.below (al))
          have LTba := hide (BXb.out.lt)
          replace BXb := hide (BXb.out.step al)
          have BXa := hide (Box.new u1 (.bool false) (.slice none 0 0))
          have LTa := hide (FL.out _ HF.out)
          replace HF := hide (FS.out _ _ HF.out al)
          refine hK _ _ (fun _ => HF.out) ?_
          clear hK K al
          generalize u1.alloc (.cells #[.bool false, .slice none 0 0] 25) = wza at *
          generalize u1.heap.size = ga at *
          refine Calm.one (i := 4) (l' := #[true, true, true, true, true, false, false, false, false, true, true, false, false, false]) (by kernel_rfl) rfl rfl rfl fun K hK => ?_
          go_simp
          refine (idivmod_any _ _ x.num (x.den : Int) _ (FU.out _ HF.out).2.2.2.num T1.out (SzI.len HX.out.num (by decide)) (SzI.len HX.out.den (by decide)) (by have := x.den_nz; omega)).mono ?_
          rintro e u2 ⟨vq, vr, rfl, n, n', hb⟩
          obtain ⟨s2, m2, n2, c2, rfl, n⟩ := n.cells
          obtain ⟨s3, m3, n3, c3, rfl, n'⟩ := n'.cells
          clear T1
          replace BXb := hide (BXb.out.step hb)
          replace BXa := hide (BXa.out.step hb)
          have TQ := hide (n)
          have TM := hide (n')
          replace HF := hide (FS.out _ _ HF.out hb)
          refine hK _ _ (fun _ => HF.out) ?_
          clear hK K hb n n'
          refine Calm.take (i := 5) (v := ?_) (a' := ?_) (l' := #[true, true, true, true, true, true, false, false, false, true, true, false, false, false]) (d := some 6) rfl (by kernel_rfl) (by kernel_rfl) (by kernel_rfl) (by kernel_rfl) (fun _ _ _ h => h) HF.out rfl ?_ rfl rfl ?_ ?_
          rotate_left
          · intro w' hF; clear hF; go_simp; try rfl
          rotate_left
          · simp only [Act.put]; exact rfl
          refine Calm.take (i := 6) (v := ?_) (a' := ?_) (l' := #[true, true, true, true, true, true, true, false, false, true, true, false, false, false]) (d := some 12) rfl (by kernel_rfl) (by kernel_rfl) (by kernel_rfl) (by kernel_rfl) (fun _ _ _ h => h) HF.out rfl ?_ rfl rfl ?_ ?_
          rotate_left
          · intro w' hF; clear hF; go_simp; try rfl
          rotate_left
          · simp only [Act.put]; exact rfl
          refine Calm.take (i := 7) (v := ?_) (a' := ?_) (l' := #[true, true, true, true, true, true, true, true, false, true, true, false, false, false]) (d := some 13) rfl (by kernel_rfl) (by kernel_rfl) (by kernel_rfl) (by kernel_rfl) (fun _ _ _ h => h) HF.out rfl ?_ rfl rfl ?_ ?_
          rotate_left
          · intro w' hF; clear hF; go_simp; try rfl
          rotate_left
          · simp only [Act.put]; exact rfl
          refine Calm.take (i := 8) (v := ?_) (a' := ?_) (l' := #[true, true, true, true, true, true, true, true, true, true, true, false, false, false]) (d := some 14) rfl (by kernel_rfl) (by kernel_rfl) (by kernel_rfl) (by kernel_rfl) (fun _ _ _ h => h) HF.out rfl ?_ rfl rfl ?_ ?_
          rotate_left
          · intro w' hF; clear hF; go_simp; try rfl
          rotate_left
          · simp only [Act.put]; exact rfl
          refine Calm.one (i := 11) (l' := #[true, true, true, true, true, true, true, true, true, true, true, true, false, false]) (by kernel_rfl) rfl rfl rfl fun K hK => ?_
          have hc0 := BXa.out.cell0
          have hc1 := BXa.out.cell1
          have hf0 := BXa.out.free 0
          have hf1 := BXa.out.free 1
          go_simp
          replace HF := hide (FP2.out _ ga (.bool s2) (.slice m2 n2 c2) HF.out BXa.out LTa.out)
          replace TQ := hide (TQ.out.keep (BXa.out.keeps (by simp) (by simp) (.bool s2) (.slice m2 n2 c2)))
          replace TM := hide (TM.out.keep (BXa.out.keeps (by simp) (by simp) (.bool s2) (.slice m2 n2 c2)))
          replace BXb := hide (BXb.out.other (C := ga) (by first | exact Nat.ne_of_lt LTab.out | exact Nat.ne_of_gt LTba.out) (.bool s2) (.slice m2 n2 c2))
          replace BXa := hide (BXa.out.put (.bool s2) (.slice m2 n2 c2))
          refine hK _ _ (fun _ => HF.out) ?_
          clear hK K hc0 hf0 hc1 hf1
          generalize ((u2.setCell ⟨ga, 0, none⟩ (.bool s2)).setCell ⟨ga, 1, none⟩ (.slice m2 n2 c2)) = ws11 at *
          refine Calm.one (i := 12) (l' := #[true, true, true, true, true, true, true, true, true, true, true, true, true, false]) (by kernel_rfl) rfl rfl rfl fun K hK => ?_
          have hc0 := BXb.out.cell0
          have hc1 := BXb.out.cell1
          have hf0 := BXb.out.free 0
          have hf1 := BXb.out.free 1
          go_simp
          replace HF := hide (FP2.out _ gb (.bool s3) (.slice m3 n3 c3) HF.out BXb.out LTb.out)
          replace TQ := hide (TQ.out.keep (BXb.out.keeps (by simp) (by simp) (.bool s3) (.slice m3 n3 c3)))
          replace TM := hide (TM.out.keep (BXb.out.keeps (by simp) (by simp) (.bool s3) (.slice m3 n3 c3)))
          replace BXa := hide (BXa.out.other (C := gb) (by first | exact Nat.ne_of_lt LTba.out | exact Nat.ne_of_gt LTab.out) (.bool s3) (.slice m3 n3 c3))
          replace BXb := hide (BXb.out.put (.bool s3) (.slice m3 n3 c3))
          refine hK _ _ (fun _ => HF.out) ?_
          clear hK K hc0 hf0 hc1 hf1
          generalize ((ws11.setCell ⟨gb, 0, none⟩ (.bool s3)).setCell ⟨gb, 1, none⟩ (.slice m3 n3 c3)) = ws12 at *
          refine Calm.take (i := 13) (v := ?_) (a' := ?_) (l' := #[true, true, true, true, true, true, true, true, true, true, true, true, true, true]) (d := some 5) rfl (by kernel_rfl) (by kernel_rfl) (by kernel_rfl) (by kernel_rfl) (fun _ _ _ h => h) HF.out rfl ?_ rfl rfl ?_ ?_
          rotate_left
          · intro w' hF; clear hF; go_simp; try rfl
          rotate_left
          · simp only [Act.put]; exact rfl
          refine Calm.done (by kernel_rfl) ?_
          have h := FU.out _ HF.out
          go_wp2
          go_meet
          case rel => exact ⟨ga, s2, m2, n2, c2, gb, s3, m3, n3, c3, rfl, rfl, ⟨LTa.out, LTb.out, by first | exact Nat.ne_of_lt LTab.out | exact Nat.ne_of_gt LTba.out⟩, h.1, h.2.1, h.2.2.1, h.2.2.2, BXa.out, BXb.out, TQ.out, TM.out⟩
      · go_simp
        have al := below_alloc wzb (.cells #[.bool false, .slice none 0 0] 25)
        have LTba := hide (BXb.out.lt)
        replace BXb := hide (BXb.out.step al)
        have BXa := hide (Box.new wzb (.bool false) (.slice none 0 0))
        have LTa := hide (FL.out _ HF.out)
        replace HF := hide (FS.out _ _ HF.out al)
        refine hK _ _ (fun _ => HF.out) ?_
        clear hK K al
        generalize wzb.alloc (.cells #[.bool false, .slice none 0 0] 25) = wza at *
        generalize wzb.heap.size = ga at *
        refine Calm.one (i := 3) (l' := #[true, true, true, true, false, false, false, false, false, true, true, false, false, false]) (by kernel_rfl) rfl rfl rfl fun K hK => ?_
        go_simp
        refine (den_any _ x _ (FU.out _ HF.out).2.2.2).mono ?_
        rintro e u1 ⟨v, rfl, n, hb⟩
        replace BXb := hide (BXb.out.step hb)
        replace BXa := hide (BXa.out.step hb)
        have T1 := hide (n)
        replace HF := hide (FS.out _ _ HF.out hb)
        refine hK _ _ (fun _ => HF.out) ?_
        clear hK K hb n
        refine Calm.one (i := 4) (l' := #[true, true, true, true, true, false, false, false, false, true, true, false, false, false]) (by kernel_rfl) rfl rfl rfl fun K hK => ?_
        go_simp
        refine (idivmod_any _ _ x.num (x.den : Int) _ (FU.out _ HF.out).2.2.2.num T1.out (SzI.len HX.out.num (by decide)) (SzI.len HX.out.den (by decide)) (by have := x.den_nz; omega)).mono ?_
        rintro e u2 ⟨vq, vr, rfl, n, n', hb⟩
        obtain ⟨s2, m2, n2, c2, rfl, n⟩ := n.cells
        obtain ⟨s3, m3, n3, c3, rfl, n'⟩ := n'.cells
        clear T1
        replace BXb := hide (BXb.out.step hb)
        replace BXa := hide (BXa.out.step hb)
        have TQ := hide (n)
        have TM := hide (n')
        replace HF := hide (FS.out _ _ HF.out hb)
        refine hK _ _ (fun _ => HF.out) ?_
        clear hK K hb n n'
        refine Calm.take (i := 5) (v := ?_) (a' := ?_) (l' := #[true, true, true, true, true, true, false, false, false, true, true, false, false, false]) (d := some 6) rfl (by kernel_rfl) (by kernel_rfl) (by kernel_rfl) (by kernel_rfl) (fun _ _ _ h => h) HF.out rfl ?_ rfl rfl ?_ ?_
        rotate_left
        · intro w' hF; clear hF; go_simp; try rfl
        rotate_left
        · simp only [Act.put]; exact rfl
        refine Calm.take (i := 6) (v := ?_) (a' := ?_) (l' := #[true, true, true, true, true, true, true, false, false, true, true, false, false, false]) (d := some 12) rfl (by kernel_rfl) (by kernel_rfl) (by kernel_rfl) (by kernel_rfl) (fun _ _ _ h => h) HF.out rfl ?_ rfl rfl ?_ ?_
        rotate_left
        · intro w' hF; clear hF; go_simp; try rfl
        rotate_left
        · simp only [Act.put]; exact rfl
        refine Calm.take (i := 7) (v := ?_) (a' := ?_) (l' := #[true, true, true, true, true, true, true, true, false, true, true, false, false, false]) (d := some 13) rfl (by kernel_rfl) (by kernel_rfl) (by kernel_rfl) (by kernel_rfl) (fun _ _ _ h => h) HF.out rfl ?_ rfl rfl ?_ ?_
        rotate_left
        · intro w' hF; clear hF; go_simp; try rfl
        rotate_left
        · simp only [Act.put]; exact rfl
        refine Calm.take (i := 8) (v := ?_) (a' := ?_) (l' := #[true, true, true, true, true, true, true, true, true, true, true, false, false, false]) (d := some 14) rfl (by kernel_rfl) (by kernel_rfl) (by kernel_rfl) (by kernel_rfl) (fun _ _ _ h => h) HF.out rfl ?_ rfl rfl ?_ ?_
        rotate_left
        · intro w' hF; clear hF; go_simp; try rfl
        rotate_left
        · simp only [Act.put]; exact rfl
        refine Calm.one (i := 11) (l' := #[true, true, true, true, true, true, true, true, true, true, true, true, false, false]) (by kernel_rfl) rfl rfl rfl fun K hK => ?_
        have hc0 := BXa.out.cell0
        have hc1 := BXa.out.cell1
        have hf0 := BXa.out.free 0
        have hf1 := BXa.out.free 1
        go_simp
        replace HF := hide (FP2.out _ ga (.bool s2) (.slice m2 n2 c2) HF.out BXa.out LTa.out)
        replace TQ := hide (TQ.out.keep (BXa.out.keeps (by simp) (by simp) (.bool s2) (.slice m2 n2 c2)))
        replace TM := hide (TM.out.keep (BXa.out.keeps (by simp) (by simp) (.bool s2) (.slice m2 n2 c2)))
        replace BXb := hide (BXb.out.other (C := ga) (by first | exact Nat.ne_of_lt LTab.out | exact Nat.ne_of_gt LTba.out) (.bool s2) (.slice m2 n2 c2))
        replace BXa := hide (BXa.out.put (.bool s2) (.slice m2 n2 c2))
        refine hK _ _ (fun _ => HF.out) ?_
        clear hK K hc0 hf0 hc1 hf1
        generalize ((u2.setCell ⟨ga, 0, none⟩ (.bool s2)).setCell ⟨ga, 1, none⟩ (.slice m2 n2 c2)) = ws11 at *
        refine Calm.one (i := 12) (l' := #[true, true, true, true, true, true, true, true, true, true, true, true, true, false]) (by kernel_rfl) rfl rfl rfl fun K hK => ?_
        have hc0 := BXb.out.cell0
        have hc1 := BXb.out.cell1
        have hf0 := BXb.out.free 0
        have hf1 := BXb.out.free 1
        go_simp
        replace HF := hide (FP2.out _ gb (.bool s3) (.slice m3 n3 c3) HF.out BXb.out LTb.out)
        replace TQ := hide (TQ.out.keep (BXb.out.keeps (by simp) (by simp) (.bool s3) (.slice m3 n3 c3)))
        replace TM := hide (TM.out.keep (BXb.out.keeps (by simp) (by simp) (.bool s3) (.slice m3 n3 c3)))
        replace BXa := hide (BXa.out.other (C := gb) (by first | exact Nat.ne_of_lt LTba.out | exact Nat.ne_of_gt LTab.out) (.bool s3) (.slice m3 n3 c3))
        replace BXb := hide (BXb.out.put (.bool s3) (.slice m3 n3 c3))
        refine hK _ _ (fun _ => HF.out) ?_
        clear hK K hc0 hf0 hc1 hf1
        generalize ((ws11.setCell ⟨gb, 0, none⟩ (.bool s3)).setCell ⟨gb, 1, none⟩ (.slice m3 n3 c3)) = ws12 at *
        refine Calm.take (i := 13) (v := ?_) (a' := ?_) (l' := #[true, true, true, true, true, true, true, true, true, true, true, true, true, true]) (d := some 5) rfl (by kernel_rfl) (by kernel_rfl) (by kernel_rfl) (by kernel_rfl) (fun _ _ _ h => h) HF.out rfl ?_ rfl rfl ?_ ?_
        rotate_left
        · intro w' hF; clear hF; go_simp; try rfl
        rotate_left
        · simp only [Act.put]; exact rfl
        refine Calm.done (by kernel_rfl) ?_
        have h := FU.out _ HF.out
        go_wp2
        go_meet
        case rel => exact ⟨ga, s2, m2, n2, c2, gb, s3, m3, n3, c3, rfl, rfl, ⟨LTa.out, LTb.out, by first | exact Nat.ne_of_lt LTab.out | exact Nat.ne_of_gt LTba.out⟩, h.1, h.2.1, h.2.2.1, h.2.2.2, BXa.out, BXb.out, TQ.out, TM.out⟩
  case rest =>
  obtain ⟨ga, s2, m2, n2, c2, gb, s3, m3, n3, c3, rfl, rfl, hlts, h0, h1, h2, h3, ba, bb, eTQ, eTM⟩ := hcut
  clear HB P0 P1 I1
  have HB := hide h0
  have P0 := hide h1
  have P1 := hide h2
  have I1 := hide h3
  have LTS1 := hide hlts
  have Va := hide ba
  have TQ := hide eTQ
  have Vb := hide bb
  have TM := hide eTM
  clear hlts h0 h1 h2 h3 ba bb eTQ eTM
  generalize hwc : wc = wc1 at *
  clear hwc
  have hVa0 := Va.out.cell0
  have hVa1 := Va.out.cell1
  have hP10 := P1.out.cell0
  have hP11 := P1.out.cell1
  have fP10 := P1.out.free 0
  have fP11 := P1.out.free 1
  go_wp2
  refine ret_int rfl (w.heap.size + 1) _ _ _ _ rfl (P1.out.put _ _) rfl ?_
  exact ⟨_, rfl, by rw [Rat.floor_def]; exact TQ.out.keep (P1.out.keeps (by simp) (by simp) _ _), below_put HB.out (by omega) _ _⟩
end Go.Proofs.Ytpbfbjipdacbkaa
