/- swagelaw03.RatioField answers true at every three fractions' texts, and its arguments read behind the call as before it; there are no conditions. -/
import Derived.Test.YtpbfbjipdacbkaaRThreeM
import Derived.Test.YtpbfbjipdacbkaaRWorksM
import Derived.Deep.Cut
import Derived.Test.YtpbfbjipdacbkaaRows
import Derived.WalkKit
import Derived.ProofKit
import Derived.OpenShut
import Derived.ShutString
import Derived.ChangeOld
import Derived.Below
import Derived.Lib.SmallJoins
namespace Go.Proofs.Ytpbfbjipdacbkaa
open Go.RowKit

/-- truths, by the bits of a number -/
def bs (n m : Nat) : Array Bool := ((List.range n).map fun i => m.testBit i).toArray
theorem below_three (w : World) (a b c : Obj) : Below w.heap.size w (((w.alloc a).alloc b).alloc c) :=
  ((below_alloc _ _).trans ((below_alloc _ _).mono (by simp))).trans ((below_alloc _ _).mono (by simp; omega))
theorem decide_rfl {x y : Rat} (h : x = y) : decide (x = y) = true := decide_eq_true h

set_option maxRecDepth 100000 in
set_option maxHeartbeats 40000000 in
theorem rfield_walk (b0 b1 b2 b3 b4 b5 : ByteArray) (w : World) (l0 : b0.size ≤ 9223372036854775807) (l1 : b1.size ≤ 9223372036854775807) (l2 : b2.size ≤ 9223372036854775807) (l3 : b3.size ≤ 9223372036854775807) (l4 : b4.size ≤ 9223372036854775807) (l5 : b5.size ≤ 9223372036854775807) :
    Calls Try.prog 8 #[.agg #[.string b0, .string b1], .agg #[.string b2, .string b3], .agg #[.string b4, .string b5]] w fun e w' => e = .returned (.bool true) ∧ Below w.heap.size w w' := by
  have P0 := BoxF.new w (.string b0) (.string b1)
  replace P0 := P0.step (below_alloc _ (.cells #[.string b2, .string b3] 51))
  replace P0 := P0.step (below_alloc _ (.cells #[.string b4, .string b5] 51))
  replace P0 := hide P0
  have P1 := BoxF.new (w.alloc (.cells #[.string b0, .string b1] 51)) (.string b2) (.string b3)
  simp only [World.size_alloc] at P1
  replace P1 := P1.step (below_alloc _ (.cells #[.string b4, .string b5] 51))
  replace P1 := hide P1
  have P2 := BoxF.new ((w.alloc (.cells #[.string b0, .string b1] 51)).alloc (.cells #[.string b2, .string b3] 51)) (.string b4) (.string b5)
  simp only [World.size_alloc] at P2
  replace P2 := hide P2
  have HB := below_alloc w (.cells #[.string b0, .string b1] 51)
  replace HB := HB.trans ((below_alloc _ (.cells #[.string b2, .string b3] 51)).mono (by simp only [World.size_alloc]; omega))
  replace HB := HB.trans ((below_alloc _ (.cells #[.string b4, .string b5] 51)).mono (by simp only [World.size_alloc]; omega))
  replace HB := hide HB
  go_enter Try.func8, Try.ntmps8
  go_wp2_with fail
  generalize (((w.alloc (.cells #[.string b0, .string b1] 51)).alloc (.cells #[.string b2, .string b3] 51)).alloc (.cells #[.string b4, .string b5] 51)) = w0 at *
  refine (works3_any _).mono ?_
  rintro e u1 ⟨rfl, hb⟩
  replace P0 := hide (P0.out.step (hb))
  replace P1 := hide (P1.out.step (hb))
  replace P2 := hide (P2.out.step (hb))
  replace HB := hide (HB.out.trans ((hb).mono HB.out.size))
  clear hb
  have hP00 := P0.out.cell0
  have hP01 := P0.out.cell1
  have hP10 := P1.out.cell0
  have hP11 := P1.out.cell1
  have hP20 := P2.out.cell0
  have hP21 := P2.out.cell1
  go_wp2_with fail
  refine (three_any b0 b1 b2 b3 b4 b5 _ l0 l1 l2 l3 l4 l5).mono ?_
  rintro e u2 ⟨⟨v1, v2, v3, x, y, z, ok, rfl, nx, ny, nz, sx, sy, sz⟩, hb⟩
  obtain ⟨s1, m1, n1, c1, t1, o1, p1, d1, rfl, nx⟩ := nx.cells
  obtain ⟨s2, m2, n2, c2, t2, o2, p2, d2, rfl, ny⟩ := ny.cells
  obtain ⟨s3, m3, n3, c3, t3, o3, p3, d3, rfl, nz⟩ := nz.cells
  have SX := hide sx
  have SY := hide sy
  have SZ := hide sz
  clear hP00 hP01
  clear hP10 hP11
  clear hP20 hP21
  replace P0 := hide (P0.out.step (hb))
  replace P1 := hide (P1.out.step (hb))
  replace P2 := hide (P2.out.step (hb))
  replace HB := hide (HB.out.trans ((hb).mono HB.out.size))
  have IX := hide (nx)
  have IY := hide (ny)
  have IZ := hide (nz)
  clear hb nx ny nz sx sy sz
  clear P0
  clear P1
  clear P2
  cases ok with
  | false =>
    go_wp2
    go_ret
    exact ⟨rfl, HB.out.trans ((below_three u2 _ _ _).mono HB.out.size)⟩
  | true =>
    go_wp2_with fail
    have hg := HB.out.size
    have VX := Box4.new u2 (.bool s1) (.slice m1 n1 c1) (.bool t1) (.slice o1 p1 d1)
    replace VX := VX.step (below_alloc _ (.cells #[.bool s2, .slice m2 n2 c2, .bool t2, .slice o2 p2 d2] 27))
    replace VX := VX.step (below_alloc _ (.cells #[.bool s3, .slice m3 n3 c3, .bool t3, .slice o3 p3 d3] 27))
    replace VX := hide VX
    have VY := Box4.new (u2.alloc (.cells #[.bool s1, .slice m1 n1 c1, .bool t1, .slice o1 p1 d1] 27)) (.bool s2) (.slice m2 n2 c2) (.bool t2) (.slice o2 p2 d2)
    simp only [World.size_alloc] at VY
    replace VY := VY.step (below_alloc _ (.cells #[.bool s3, .slice m3 n3 c3, .bool t3, .slice o3 p3 d3] 27))
    replace VY := hide VY
    have VZ := Box4.new ((u2.alloc (.cells #[.bool s1, .slice m1 n1 c1, .bool t1, .slice o1 p1 d1] 27)).alloc (.cells #[.bool s2, .slice m2 n2 c2, .bool t2, .slice o2 p2 d2] 27)) (.bool s3) (.slice m3 n3 c3) (.bool t3) (.slice o3 p3 d3)
    simp only [World.size_alloc] at VZ
    replace VZ := hide VZ
    have al := below_alloc u2 (.cells #[.bool s1, .slice m1 n1 c1, .bool t1, .slice o1 p1 d1] 27)
    replace al := al.trans ((below_alloc _ (.cells #[.bool s2, .slice m2 n2 c2, .bool t2, .slice o2 p2 d2] 27)).mono (by simp only [World.size_alloc]; omega))
    replace al := al.trans ((below_alloc _ (.cells #[.bool s3, .slice m3 n3 c3, .bool t3, .slice o3 p3 d3] 27)).mono (by simp only [World.size_alloc]; omega))
    replace HB := hide (HB.out.trans ((al).mono HB.out.size))
    replace IX := hide (IX.out.below (al))
    replace IY := hide (IY.out.below (al))
    replace IZ := hide (IZ.out.below (al))
    clear al
    generalize (((u2.alloc (.cells #[.bool s1, .slice m1 n1 c1, .bool t1, .slice o1 p1 d1] 27)).alloc (.cells #[.bool s2, .slice m2 n2 c2, .bool t2, .slice o2 p2 d2] 27)).alloc (.cells #[.bool s3, .slice m3 n3 c3, .bool t3, .slice o3 p3 d3] 27)) = u2a at *
    generalize u2.heap.size = gv at *
    refine wp_calm (fun w' => Below w.heap.size w w' ∧ Box4 w' gv (.bool s1) (.slice m1 n1 c1) (.bool t1) (.slice o1 p1 d1) ∧ Box4 w' (gv + 1) (.bool s2) (.slice m2 n2 c2) (.bool t2) (.slice o2 p2 d2) ∧ Box4 w' (gv + 1 + 1) (.bool s3) (.slice m3 n3 c3) (.bool t3) (.slice o3 p3 d3) ∧ RatAt w' (.agg #[.bool s1, .slice m1 n1 c1, .bool t1, .slice o1 p1 d1]) x ∧ RatAt w' (.agg #[.bool s2, .slice m2 n2 c2, .bool t2, .slice o2 p2 d2]) y ∧ RatAt w' (.agg #[.bool s3, .slice m3 n3 c3, .bool t3, .slice o3 p3 d3]) z) (fun _ => true) 83 (bs 83 0) (by kernel_rfl) rfl (by kernel_rfl) ?_
    have HF := hide (And.intro (HB.out.drew) (And.intro (VX.out.drew) (And.intro (VY.out.drew) (And.intro (VZ.out.drew) (And.intro (IX.out.drew) (And.intro (IY.out.drew) (IZ.out.drew)))))))
    generalize u2a.drew = u2ad at *
    refine Calm.take (i := 0) (v := ?_) (a' := ?_) (l' := (bs 83 1)) (d := some 26) rfl (by kernel_rfl) (by kernel_rfl) (by kernel_rfl) (by kernel_rfl) (fun _ _ _ h => h) HF.out rfl ?_ (by kernel_rfl) rfl ?_ ?_
    rotate_left
    · intro w' hF; have f10 := hF.2.1.cell0; have f11 := hF.2.1.cell1; have f12 := hF.2.1.cell2; have f13 := hF.2.1.cell3; have f20 := hF.2.2.1.cell0; have f21 := hF.2.2.1.cell1; have f22 := hF.2.2.1.cell2; have f23 := hF.2.2.1.cell3; have f30 := hF.2.2.2.1.cell0; have f31 := hF.2.2.2.1.cell1; have f32 := hF.2.2.2.1.cell2; have f33 := hF.2.2.2.1.cell3; clear hF; go_simp; try rfl
    rotate_left
    · simp only [Act.put]; exact rfl
    refine Calm.take (i := 1) (v := ?_) (a' := ?_) (l' := (bs 83 3)) (d := some 27) rfl (by kernel_rfl) (by kernel_rfl) (by kernel_rfl) (by kernel_rfl) (fun _ _ _ h => h) HF.out rfl ?_ (by kernel_rfl) rfl ?_ ?_
    rotate_left
    · intro w' hF; have f10 := hF.2.1.cell0; have f11 := hF.2.1.cell1; have f12 := hF.2.1.cell2; have f13 := hF.2.1.cell3; have f20 := hF.2.2.1.cell0; have f21 := hF.2.2.1.cell1; have f22 := hF.2.2.1.cell2; have f23 := hF.2.2.1.cell3; have f30 := hF.2.2.2.1.cell0; have f31 := hF.2.2.2.1.cell1; have f32 := hF.2.2.2.1.cell2; have f33 := hF.2.2.2.1.cell3; clear hF; go_simp; try rfl
    rotate_left
    · simp only [Act.put]; exact rfl
    refine Calm.take (i := 3) (v := ?_) (a' := ?_) (l' := (bs 83 11)) (d := some 29) rfl (by kernel_rfl) (by kernel_rfl) (by kernel_rfl) (by kernel_rfl) (fun _ _ _ h => h) HF.out rfl ?_ (by kernel_rfl) rfl ?_ ?_
    rotate_left
    · intro w' hF; have f10 := hF.2.1.cell0; have f11 := hF.2.1.cell1; have f12 := hF.2.1.cell2; have f13 := hF.2.1.cell3; have f20 := hF.2.2.1.cell0; have f21 := hF.2.2.1.cell1; have f22 := hF.2.2.1.cell2; have f23 := hF.2.2.1.cell3; have f30 := hF.2.2.2.1.cell0; have f31 := hF.2.2.2.1.cell1; have f32 := hF.2.2.2.1.cell2; have f33 := hF.2.2.2.1.cell3; clear hF; go_simp; try rfl
    rotate_left
    · simp only [Act.put]; exact rfl
    refine Calm.take (i := 4) (v := ?_) (a' := ?_) (l' := (bs 83 27)) (d := some 30) rfl (by kernel_rfl) (by kernel_rfl) (by kernel_rfl) (by kernel_rfl) (fun _ _ _ h => h) HF.out rfl ?_ (by kernel_rfl) rfl ?_ ?_
    rotate_left
    · intro w' hF; have f10 := hF.2.1.cell0; have f11 := hF.2.1.cell1; have f12 := hF.2.1.cell2; have f13 := hF.2.1.cell3; have f20 := hF.2.2.1.cell0; have f21 := hF.2.2.1.cell1; have f22 := hF.2.2.1.cell2; have f23 := hF.2.2.1.cell3; have f30 := hF.2.2.2.1.cell0; have f31 := hF.2.2.2.1.cell1; have f32 := hF.2.2.2.1.cell2; have f33 := hF.2.2.2.1.cell3; clear hF; go_simp; try rfl
    rotate_left
    · simp only [Act.put]; exact rfl
    refine Calm.one (i := 2) (l' := (bs 83 31)) (by kernel_rfl) rfl rfl (by kernel_rfl) fun K hK => ?_
    go_simp
    refine (rtadd_any _ _ x y _ HF.out.2.2.2.2.1 HF.out.2.2.2.2.2.1 (SX.out.mono (by decide)) (SY.out.mono (by decide))).mono ?_
    rintro e w11 ⟨v, rfl, n, hb⟩
    have HF' := hide (And.intro (HF.out.1.trans ((hb).mono HF.out.1.size)) (And.intro (HF.out.2.1.step (hb)) (And.intro (HF.out.2.2.1.step (hb)) (And.intro (HF.out.2.2.2.1.step (hb)) (And.intro (HF.out.2.2.2.2.1.below (hb)) (And.intro (HF.out.2.2.2.2.2.1.below (hb)) (HF.out.2.2.2.2.2.2.below (hb))))))))
    have T1 := hide (n)
    refine hK _ _ (fun _ => HF'.out) ?_
    clear hK K HF hb n
    have HF := hide HF'.out
    clear HF'
    refine Calm.one (i := 5) (l' := (bs 83 63)) (by kernel_rfl) rfl rfl (by kernel_rfl) fun K hK => ?_
    go_simp
    refine (rtadd_any _ _ y x _ HF.out.2.2.2.2.2.1 HF.out.2.2.2.2.1 (SY.out.mono (by decide)) (SX.out.mono (by decide))).mono ?_
    rintro e w12 ⟨v, rfl, n, hb⟩
    replace T1 := hide (T1.out.below (hb))
    have HF' := hide (And.intro (HF.out.1.trans ((hb).mono HF.out.1.size)) (And.intro (HF.out.2.1.step (hb)) (And.intro (HF.out.2.2.1.step (hb)) (And.intro (HF.out.2.2.2.1.step (hb)) (And.intro (HF.out.2.2.2.2.1.below (hb)) (And.intro (HF.out.2.2.2.2.2.1.below (hb)) (HF.out.2.2.2.2.2.2.below (hb))))))))
    have T2 := hide (n)
    refine hK _ _ (fun _ => HF'.out) ?_
    clear hK K HF hb n
    have HF := hide HF'.out
    clear HF'
    refine Calm.one (i := 6) (l' := (bs 83 127)) (by kernel_rfl) rfl rfl (by kernel_rfl) fun K hK => ?_
    go_simp
    refine (same_any _ _ (x + y) (y + x) _ T1.out T2.out).mono ?_
    rintro e w13 ⟨he, hb⟩
    rw [decide_rfl (Rat.add_comm _ _)] at he
    subst he
    clear T1
    clear T2
    have HF' := hide (And.intro (HF.out.1.trans ((hb).mono HF.out.1.size)) (And.intro (HF.out.2.1.step (hb)) (And.intro (HF.out.2.2.1.step (hb)) (And.intro (HF.out.2.2.2.1.step (hb)) (And.intro (HF.out.2.2.2.2.1.below (hb)) (And.intro (HF.out.2.2.2.2.2.1.below (hb)) (HF.out.2.2.2.2.2.2.below (hb))))))))
    refine hK _ _ (fun _ => HF'.out) ?_
    clear hK K HF hb
    have HF := hide HF'.out
    clear HF'
    refine Calm.take (i := 7) (v := ?_) (a' := ?_) (l' := (bs 83 255)) (d := some 33) rfl (by kernel_rfl) (by kernel_rfl) (by kernel_rfl) (by kernel_rfl) (fun _ _ _ h => h) HF.out rfl ?_ (by kernel_rfl) rfl ?_ ?_
    rotate_left
    · intro w' hF; clear hF; go_simp; try rfl
    rotate_left
    · simp only [Act.put]; exact rfl
    refine Calm.take (i := 8) (v := ?_) (a' := ?_) (l' := (bs 83 511)) (d := some 34) rfl (by kernel_rfl) (by kernel_rfl) (by kernel_rfl) (by kernel_rfl) (fun _ _ _ h => h) HF.out rfl ?_ (by kernel_rfl) rfl ?_ ?_
    rotate_left
    · intro w' hF; clear hF; go_simp; try rfl
    rotate_left
    · simp only [Act.put]; exact rfl
    refine Calm.take (i := 9) (v := ?_) (a' := ?_) (l' := (bs 83 1023)) (d := some 35) rfl (by kernel_rfl) (by kernel_rfl) (by kernel_rfl) (by kernel_rfl) (fun _ _ _ h => h) HF.out (by kernel_rfl) ?_ (by kernel_rfl) rfl ?_ ?_
    rotate_left
    · intro w' hF; have f10 := hF.2.1.cell0; have f11 := hF.2.1.cell1; have f12 := hF.2.1.cell2; have f13 := hF.2.1.cell3; have f20 := hF.2.2.1.cell0; have f21 := hF.2.2.1.cell1; have f22 := hF.2.2.1.cell2; have f23 := hF.2.2.1.cell3; have f30 := hF.2.2.2.1.cell0; have f31 := hF.2.2.2.1.cell1; have f32 := hF.2.2.2.1.cell2; have f33 := hF.2.2.2.1.cell3; clear hF; go_simp; try rfl
    rotate_left
    · simp only [Act.put]; exact rfl
    refine Calm.take (i := 10) (v := ?_) (a' := ?_) (l' := (bs 83 2047)) (d := some 36) rfl (by kernel_rfl) (by kernel_rfl) (by kernel_rfl) (by kernel_rfl) (fun _ _ _ h => h) HF.out (by kernel_rfl) ?_ (by kernel_rfl) rfl ?_ ?_
    rotate_left
    · intro w' hF; have f10 := hF.2.1.cell0; have f11 := hF.2.1.cell1; have f12 := hF.2.1.cell2; have f13 := hF.2.1.cell3; have f20 := hF.2.2.1.cell0; have f21 := hF.2.2.1.cell1; have f22 := hF.2.2.1.cell2; have f23 := hF.2.2.1.cell3; have f30 := hF.2.2.2.1.cell0; have f31 := hF.2.2.2.1.cell1; have f32 := hF.2.2.2.1.cell2; have f33 := hF.2.2.2.1.cell3; clear hF; go_simp; try rfl
    rotate_left
    · simp only [Act.put]; exact rfl
    refine Calm.take (i := 12) (v := ?_) (a' := ?_) (l' := (bs 83 6143)) (d := some 38) rfl (by kernel_rfl) (by kernel_rfl) (by kernel_rfl) (by kernel_rfl) (fun _ _ _ h => h) HF.out (by kernel_rfl) ?_ (by kernel_rfl) rfl ?_ ?_
    rotate_left
    · intro w' hF; have f10 := hF.2.1.cell0; have f11 := hF.2.1.cell1; have f12 := hF.2.1.cell2; have f13 := hF.2.1.cell3; have f20 := hF.2.2.1.cell0; have f21 := hF.2.2.1.cell1; have f22 := hF.2.2.1.cell2; have f23 := hF.2.2.1.cell3; have f30 := hF.2.2.2.1.cell0; have f31 := hF.2.2.2.1.cell1; have f32 := hF.2.2.2.1.cell2; have f33 := hF.2.2.2.1.cell3; clear hF; go_simp; try rfl
    rotate_left
    · simp only [Act.put]; exact rfl
    refine Calm.take (i := 13) (v := ?_) (a' := ?_) (l' := (bs 83 14335)) (d := some 39) rfl (by kernel_rfl) (by kernel_rfl) (by kernel_rfl) (by kernel_rfl) (fun _ _ _ h => h) HF.out (by kernel_rfl) ?_ (by kernel_rfl) rfl ?_ ?_
    rotate_left
    · intro w' hF; have f10 := hF.2.1.cell0; have f11 := hF.2.1.cell1; have f12 := hF.2.1.cell2; have f13 := hF.2.1.cell3; have f20 := hF.2.2.1.cell0; have f21 := hF.2.2.1.cell1; have f22 := hF.2.2.1.cell2; have f23 := hF.2.2.1.cell3; have f30 := hF.2.2.2.1.cell0; have f31 := hF.2.2.2.1.cell1; have f32 := hF.2.2.2.1.cell2; have f33 := hF.2.2.2.1.cell3; clear hF; go_simp; try rfl
    rotate_left
    · simp only [Act.put]; exact rfl
    refine Calm.one (i := 11) (l' := (bs 83 16383)) (by kernel_rfl) rfl (by kernel_rfl) (by kernel_rfl) fun K hK => ?_
    go_simp
    refine (rtmul_any _ _ x y _ HF.out.2.2.2.2.1 HF.out.2.2.2.2.2.1 (SX.out.mono (by decide)) (SY.out.mono (by decide))).mono ?_
    rintro e w14 ⟨v, rfl, n, hb⟩
    have HF' := hide (And.intro (HF.out.1.trans ((hb).mono HF.out.1.size)) (And.intro (HF.out.2.1.step (hb)) (And.intro (HF.out.2.2.1.step (hb)) (And.intro (HF.out.2.2.2.1.step (hb)) (And.intro (HF.out.2.2.2.2.1.below (hb)) (And.intro (HF.out.2.2.2.2.2.1.below (hb)) (HF.out.2.2.2.2.2.2.below (hb))))))))
    have T4 := hide (n)
    refine hK _ _ (fun _ => HF'.out) ?_
    clear hK K HF hb n
    have HF := hide HF'.out
    clear HF'
    refine Calm.one (i := 14) (l' := (bs 83 32767)) (by kernel_rfl) rfl (by kernel_rfl) (by kernel_rfl) fun K hK => ?_
    go_simp
    refine (rtmul_any _ _ y x _ HF.out.2.2.2.2.2.1 HF.out.2.2.2.2.1 (SY.out.mono (by decide)) (SX.out.mono (by decide))).mono ?_
    rintro e w15 ⟨v, rfl, n, hb⟩
    replace T4 := hide (T4.out.below (hb))
    have HF' := hide (And.intro (HF.out.1.trans ((hb).mono HF.out.1.size)) (And.intro (HF.out.2.1.step (hb)) (And.intro (HF.out.2.2.1.step (hb)) (And.intro (HF.out.2.2.2.1.step (hb)) (And.intro (HF.out.2.2.2.2.1.below (hb)) (And.intro (HF.out.2.2.2.2.2.1.below (hb)) (HF.out.2.2.2.2.2.2.below (hb))))))))
    have T5 := hide (n)
    refine hK _ _ (fun _ => HF'.out) ?_
    clear hK K HF hb n
    have HF := hide HF'.out
    clear HF'
    refine Calm.one (i := 15) (l' := (bs 83 65535)) (by kernel_rfl) rfl (by kernel_rfl) (by kernel_rfl) fun K hK => ?_
    go_simp
    refine (same_any _ _ (x * y) (y * x) _ T4.out T5.out).mono ?_
    rintro e w16 ⟨he, hb⟩
    rw [decide_rfl (Rat.mul_comm _ _)] at he
    subst he
    clear T4
    clear T5
    have HF' := hide (And.intro (HF.out.1.trans ((hb).mono HF.out.1.size)) (And.intro (HF.out.2.1.step (hb)) (And.intro (HF.out.2.2.1.step (hb)) (And.intro (HF.out.2.2.2.1.step (hb)) (And.intro (HF.out.2.2.2.2.1.below (hb)) (And.intro (HF.out.2.2.2.2.2.1.below (hb)) (HF.out.2.2.2.2.2.2.below (hb))))))))
    refine hK _ _ (fun _ => HF'.out) ?_
    clear hK K HF hb
    have HF := hide HF'.out
    clear HF'
    refine Calm.take (i := 16) (v := ?_) (a' := ?_) (l' := (bs 83 131071)) (d := some 42) rfl (by kernel_rfl) (by kernel_rfl) (by kernel_rfl) (by kernel_rfl) (fun _ _ _ h => h) HF.out (by kernel_rfl) ?_ (by kernel_rfl) rfl ?_ ?_
    rotate_left
    · intro w' hF; clear hF; go_simp; try rfl
    rotate_left
    · simp only [Act.put]; exact rfl
    refine Calm.take (i := 17) (v := ?_) (a' := ?_) (l' := (bs 83 262143)) (d := some 43) rfl (by kernel_rfl) (by kernel_rfl) (by kernel_rfl) (by kernel_rfl) (fun _ _ _ h => h) HF.out rfl ?_ (by kernel_rfl) rfl ?_ ?_
    rotate_left
    · intro w' hF; clear hF; go_simp; try rfl
    rotate_left
    · simp only [Act.put]; exact rfl
    refine Calm.take (i := 18) (v := ?_) (a' := ?_) (l' := (bs 83 524287)) (d := some 44) rfl (by kernel_rfl) (by kernel_rfl) (by kernel_rfl) (by kernel_rfl) (fun _ _ _ h => h) HF.out rfl ?_ (by kernel_rfl) rfl ?_ ?_
    rotate_left
    · intro w' hF; clear hF; go_simp; try rfl
    rotate_left
    · simp only [Act.put]; exact rfl
    refine Calm.take (i := 19) (v := ?_) (a' := ?_) (l' := (bs 83 1048575)) (d := some 45) rfl (by kernel_rfl) (by kernel_rfl) (by kernel_rfl) (by kernel_rfl) (fun _ _ _ h => h) HF.out (by kernel_rfl) ?_ (by kernel_rfl) rfl ?_ ?_
    rotate_left
    · intro w' hF; have f10 := hF.2.1.cell0; have f11 := hF.2.1.cell1; have f12 := hF.2.1.cell2; have f13 := hF.2.1.cell3; have f20 := hF.2.2.1.cell0; have f21 := hF.2.2.1.cell1; have f22 := hF.2.2.1.cell2; have f23 := hF.2.2.1.cell3; have f30 := hF.2.2.2.1.cell0; have f31 := hF.2.2.2.1.cell1; have f32 := hF.2.2.2.1.cell2; have f33 := hF.2.2.2.1.cell3; clear hF; go_simp; try rfl
    rotate_left
    · simp only [Act.put]; exact rfl
    refine Calm.take (i := 20) (v := ?_) (a' := ?_) (l' := (bs 83 2097151)) (d := some 46) rfl (by kernel_rfl) (by kernel_rfl) (by kernel_rfl) (by kernel_rfl) (fun _ _ _ h => h) HF.out (by kernel_rfl) ?_ (by kernel_rfl) rfl ?_ ?_
    rotate_left
    · intro w' hF; have f10 := hF.2.1.cell0; have f11 := hF.2.1.cell1; have f12 := hF.2.1.cell2; have f13 := hF.2.1.cell3; have f20 := hF.2.2.1.cell0; have f21 := hF.2.2.1.cell1; have f22 := hF.2.2.1.cell2; have f23 := hF.2.2.1.cell3; have f30 := hF.2.2.2.1.cell0; have f31 := hF.2.2.2.1.cell1; have f32 := hF.2.2.2.1.cell2; have f33 := hF.2.2.2.1.cell3; clear hF; go_simp; try rfl
    rotate_left
    · simp only [Act.put]; exact rfl
    refine Calm.take (i := 22) (v := ?_) (a' := ?_) (l' := (bs 83 6291455)) (d := some 48) rfl (by kernel_rfl) (by kernel_rfl) (by kernel_rfl) (by kernel_rfl) (fun _ _ _ h => h) HF.out (by kernel_rfl) ?_ (by kernel_rfl) rfl ?_ ?_
    rotate_left
    · intro w' hF; have f10 := hF.2.1.cell0; have f11 := hF.2.1.cell1; have f12 := hF.2.1.cell2; have f13 := hF.2.1.cell3; have f20 := hF.2.2.1.cell0; have f21 := hF.2.2.1.cell1; have f22 := hF.2.2.1.cell2; have f23 := hF.2.2.1.cell3; have f30 := hF.2.2.2.1.cell0; have f31 := hF.2.2.2.1.cell1; have f32 := hF.2.2.2.1.cell2; have f33 := hF.2.2.2.1.cell3; clear hF; go_simp; try rfl
    rotate_left
    · simp only [Act.put]; exact rfl
    refine Calm.take (i := 24) (v := ?_) (a' := ?_) (l' := (bs 83 23068671)) (d := some 50) rfl (by kernel_rfl) (by kernel_rfl) (by kernel_rfl) (by kernel_rfl) (fun _ _ _ h => h) HF.out (by kernel_rfl) ?_ (by kernel_rfl) rfl ?_ ?_
    rotate_left
    · intro w' hF; have f10 := hF.2.1.cell0; have f11 := hF.2.1.cell1; have f12 := hF.2.1.cell2; have f13 := hF.2.1.cell3; have f20 := hF.2.2.1.cell0; have f21 := hF.2.2.1.cell1; have f22 := hF.2.2.1.cell2; have f23 := hF.2.2.1.cell3; have f30 := hF.2.2.2.1.cell0; have f31 := hF.2.2.2.1.cell1; have f32 := hF.2.2.2.1.cell2; have f33 := hF.2.2.2.1.cell3; clear hF; go_simp; try rfl
    rotate_left
    · simp only [Act.put]; exact rfl
    refine Calm.take (i := 25) (v := ?_) (a' := ?_) (l' := (bs 83 56623103)) (d := some 51) rfl (by kernel_rfl) (by kernel_rfl) (by kernel_rfl) (by kernel_rfl) (fun _ _ _ h => h) HF.out (by kernel_rfl) ?_ (by kernel_rfl) rfl ?_ ?_
    rotate_left
    · intro w' hF; have f10 := hF.2.1.cell0; have f11 := hF.2.1.cell1; have f12 := hF.2.1.cell2; have f13 := hF.2.1.cell3; have f20 := hF.2.2.1.cell0; have f21 := hF.2.2.1.cell1; have f22 := hF.2.2.1.cell2; have f23 := hF.2.2.1.cell3; have f30 := hF.2.2.2.1.cell0; have f31 := hF.2.2.2.1.cell1; have f32 := hF.2.2.2.1.cell2; have f33 := hF.2.2.2.1.cell3; clear hF; go_simp; try rfl
    rotate_left
    · simp only [Act.put]; exact rfl
    refine Calm.take (i := 26) (v := ?_) (a' := ?_) (l' := (bs 83 123731967)) (d := some 52) rfl (by kernel_rfl) (by kernel_rfl) (by kernel_rfl) (by kernel_rfl) (fun _ _ _ h => h) HF.out (by kernel_rfl) ?_ (by kernel_rfl) rfl ?_ ?_
    rotate_left
    · intro w' hF; have f10 := hF.2.1.cell0; have f11 := hF.2.1.cell1; have f12 := hF.2.1.cell2; have f13 := hF.2.1.cell3; have f20 := hF.2.2.1.cell0; have f21 := hF.2.2.1.cell1; have f22 := hF.2.2.1.cell2; have f23 := hF.2.2.1.cell3; have f30 := hF.2.2.2.1.cell0; have f31 := hF.2.2.2.1.cell1; have f32 := hF.2.2.2.1.cell2; have f33 := hF.2.2.2.1.cell3; clear hF; go_simp; try rfl
    rotate_left
    · simp only [Act.put]; exact rfl
    refine Calm.one (i := 21) (l' := (bs 83 125829119)) (by kernel_rfl) rfl (by kernel_rfl) (by kernel_rfl) fun K hK => ?_
    go_simp
    refine (rtadd_any _ _ x y _ HF.out.2.2.2.2.1 HF.out.2.2.2.2.2.1 (SX.out.mono (by decide)) (SY.out.mono (by decide))).mono ?_
    rintro e w17 ⟨v, rfl, n, hb⟩
    have HF' := hide (And.intro (HF.out.1.trans ((hb).mono HF.out.1.size)) (And.intro (HF.out.2.1.step (hb)) (And.intro (HF.out.2.2.1.step (hb)) (And.intro (HF.out.2.2.2.1.step (hb)) (And.intro (HF.out.2.2.2.2.1.below (hb)) (And.intro (HF.out.2.2.2.2.2.1.below (hb)) (HF.out.2.2.2.2.2.2.below (hb))))))))
    have T7 := hide (n)
    refine hK _ _ (fun _ => HF'.out) ?_
    clear hK K HF hb n
    have HF := hide HF'.out
    clear HF'
    refine Calm.one (i := 23) (l' := (bs 83 134217727)) (by kernel_rfl) rfl (by kernel_rfl) (by kernel_rfl) fun K hK => ?_
    go_simp
    refine (rtadd_any _ _ (x + y) z _ T7.out HF.out.2.2.2.2.2.2 ((SzR.add SX.out SY.out).mono (by decide)) (SZ.out.mono (by decide))).mono ?_
    rintro e w18 ⟨v, rfl, n, hb⟩
    clear T7
    have HF' := hide (And.intro (HF.out.1.trans ((hb).mono HF.out.1.size)) (And.intro (HF.out.2.1.step (hb)) (And.intro (HF.out.2.2.1.step (hb)) (And.intro (HF.out.2.2.2.1.step (hb)) (And.intro (HF.out.2.2.2.2.1.below (hb)) (And.intro (HF.out.2.2.2.2.2.1.below (hb)) (HF.out.2.2.2.2.2.2.below (hb))))))))
    have T8 := hide (n)
    refine hK _ _ (fun _ => HF'.out) ?_
    clear hK K HF hb n
    have HF := hide HF'.out
    clear HF'
    refine Calm.one (i := 27) (l' := (bs 83 268435455)) (by kernel_rfl) rfl (by kernel_rfl) (by kernel_rfl) fun K hK => ?_
    go_simp
    refine (rtadd_any _ _ y z _ HF.out.2.2.2.2.2.1 HF.out.2.2.2.2.2.2 (SY.out.mono (by decide)) (SZ.out.mono (by decide))).mono ?_
    rintro e w19 ⟨v, rfl, n, hb⟩
    replace T8 := hide (T8.out.below (hb))
    have HF' := hide (And.intro (HF.out.1.trans ((hb).mono HF.out.1.size)) (And.intro (HF.out.2.1.step (hb)) (And.intro (HF.out.2.2.1.step (hb)) (And.intro (HF.out.2.2.2.1.step (hb)) (And.intro (HF.out.2.2.2.2.1.below (hb)) (And.intro (HF.out.2.2.2.2.2.1.below (hb)) (HF.out.2.2.2.2.2.2.below (hb))))))))
    have T9 := hide (n)
    refine hK _ _ (fun _ => HF'.out) ?_
    clear hK K HF hb n
    have HF := hide HF'.out
    clear HF'
    refine Calm.one (i := 28) (l' := (bs 83 536870911)) (by kernel_rfl) rfl (by kernel_rfl) (by kernel_rfl) fun K hK => ?_
    go_simp
    refine (rtadd_any _ _ x (y + z) _ HF.out.2.2.2.2.1 T9.out (SX.out.mono (by decide)) ((SzR.add SY.out SZ.out).mono (by decide))).mono ?_
    rintro e w20 ⟨v, rfl, n, hb⟩
    replace T8 := hide (T8.out.below (hb))
    clear T9
    have HF' := hide (And.intro (HF.out.1.trans ((hb).mono HF.out.1.size)) (And.intro (HF.out.2.1.step (hb)) (And.intro (HF.out.2.2.1.step (hb)) (And.intro (HF.out.2.2.2.1.step (hb)) (And.intro (HF.out.2.2.2.2.1.below (hb)) (And.intro (HF.out.2.2.2.2.2.1.below (hb)) (HF.out.2.2.2.2.2.2.below (hb))))))))
    have T10 := hide (n)
    refine hK _ _ (fun _ => HF'.out) ?_
    clear hK K HF hb n
    have HF := hide HF'.out
    clear HF'
    refine Calm.one (i := 29) (l' := (bs 83 1073741823)) (by kernel_rfl) rfl (by kernel_rfl) (by kernel_rfl) fun K hK => ?_
    go_simp
    refine (same_any _ _ ((x + y) + z) (x + (y + z)) _ T8.out T10.out).mono ?_
    rintro e w21 ⟨he, hb⟩
    rw [decide_rfl (Rat.add_assoc _ _ _)] at he
    subst he
    clear T8
    clear T10
    have HF' := hide (And.intro (HF.out.1.trans ((hb).mono HF.out.1.size)) (And.intro (HF.out.2.1.step (hb)) (And.intro (HF.out.2.2.1.step (hb)) (And.intro (HF.out.2.2.2.1.step (hb)) (And.intro (HF.out.2.2.2.2.1.below (hb)) (And.intro (HF.out.2.2.2.2.2.1.below (hb)) (HF.out.2.2.2.2.2.2.below (hb))))))))
    refine hK _ _ (fun _ => HF'.out) ?_
    clear hK K HF hb
    have HF := hide HF'.out
    clear HF'
    refine Calm.take (i := 30) (v := ?_) (a' := ?_) (l' := (bs 83 2147483647)) (d := some 56) rfl (by kernel_rfl) (by kernel_rfl) (by kernel_rfl) (by kernel_rfl) (fun _ _ _ h => h) HF.out (by kernel_rfl) ?_ (by kernel_rfl) rfl ?_ ?_
    rotate_left
    · intro w' hF; clear hF; go_simp; try rfl
    rotate_left
    · simp only [Act.put]; exact rfl
    refine Calm.take (i := 31) (v := ?_) (a' := ?_) (l' := (bs 83 4294967295)) (d := some 57) rfl (by kernel_rfl) (by kernel_rfl) (by kernel_rfl) (by kernel_rfl) (fun _ _ _ h => h) HF.out rfl ?_ (by kernel_rfl) rfl ?_ ?_
    rotate_left
    · intro w' hF; clear hF; go_simp; try rfl
    rotate_left
    · simp only [Act.put]; exact rfl
    refine Calm.take (i := 32) (v := ?_) (a' := ?_) (l' := (bs 83 8589934591)) (d := some 58) rfl (by kernel_rfl) (by kernel_rfl) (by kernel_rfl) (by kernel_rfl) (fun _ _ _ h => h) HF.out rfl ?_ (by kernel_rfl) rfl ?_ ?_
    rotate_left
    · intro w' hF; clear hF; go_simp; try rfl
    rotate_left
    · simp only [Act.put]; exact rfl
    refine Calm.take (i := 33) (v := ?_) (a' := ?_) (l' := (bs 83 17179869183)) (d := some 59) rfl (by kernel_rfl) (by kernel_rfl) (by kernel_rfl) (by kernel_rfl) (fun _ _ _ h => h) HF.out (by kernel_rfl) ?_ (by kernel_rfl) rfl ?_ ?_
    rotate_left
    · intro w' hF; have f10 := hF.2.1.cell0; have f11 := hF.2.1.cell1; have f12 := hF.2.1.cell2; have f13 := hF.2.1.cell3; have f20 := hF.2.2.1.cell0; have f21 := hF.2.2.1.cell1; have f22 := hF.2.2.1.cell2; have f23 := hF.2.2.1.cell3; have f30 := hF.2.2.2.1.cell0; have f31 := hF.2.2.2.1.cell1; have f32 := hF.2.2.2.1.cell2; have f33 := hF.2.2.2.1.cell3; clear hF; go_simp; try rfl
    rotate_left
    · simp only [Act.put]; exact rfl
    refine Calm.take (i := 34) (v := ?_) (a' := ?_) (l' := (bs 83 34359738367)) (d := some 60) rfl (by kernel_rfl) (by kernel_rfl) (by kernel_rfl) (by kernel_rfl) (fun _ _ _ h => h) HF.out (by kernel_rfl) ?_ (by kernel_rfl) rfl ?_ ?_
    rotate_left
    · intro w' hF; have f10 := hF.2.1.cell0; have f11 := hF.2.1.cell1; have f12 := hF.2.1.cell2; have f13 := hF.2.1.cell3; have f20 := hF.2.2.1.cell0; have f21 := hF.2.2.1.cell1; have f22 := hF.2.2.1.cell2; have f23 := hF.2.2.1.cell3; have f30 := hF.2.2.2.1.cell0; have f31 := hF.2.2.2.1.cell1; have f32 := hF.2.2.2.1.cell2; have f33 := hF.2.2.2.1.cell3; clear hF; go_simp; try rfl
    rotate_left
    · simp only [Act.put]; exact rfl
    refine Calm.take (i := 36) (v := ?_) (a' := ?_) (l' := (bs 83 103079215103)) (d := some 62) rfl (by kernel_rfl) (by kernel_rfl) (by kernel_rfl) (by kernel_rfl) (fun _ _ _ h => h) HF.out (by kernel_rfl) ?_ (by kernel_rfl) rfl ?_ ?_
    rotate_left
    · intro w' hF; have f10 := hF.2.1.cell0; have f11 := hF.2.1.cell1; have f12 := hF.2.1.cell2; have f13 := hF.2.1.cell3; have f20 := hF.2.2.1.cell0; have f21 := hF.2.2.1.cell1; have f22 := hF.2.2.1.cell2; have f23 := hF.2.2.1.cell3; have f30 := hF.2.2.2.1.cell0; have f31 := hF.2.2.2.1.cell1; have f32 := hF.2.2.2.1.cell2; have f33 := hF.2.2.2.1.cell3; clear hF; go_simp; try rfl
    rotate_left
    · simp only [Act.put]; exact rfl
    refine Calm.take (i := 38) (v := ?_) (a' := ?_) (l' := (bs 83 377957122047)) (d := some 64) rfl (by kernel_rfl) (by kernel_rfl) (by kernel_rfl) (by kernel_rfl) (fun _ _ _ h => h) HF.out (by kernel_rfl) ?_ (by kernel_rfl) rfl ?_ ?_
    rotate_left
    · intro w' hF; have f10 := hF.2.1.cell0; have f11 := hF.2.1.cell1; have f12 := hF.2.1.cell2; have f13 := hF.2.1.cell3; have f20 := hF.2.2.1.cell0; have f21 := hF.2.2.1.cell1; have f22 := hF.2.2.1.cell2; have f23 := hF.2.2.1.cell3; have f30 := hF.2.2.2.1.cell0; have f31 := hF.2.2.2.1.cell1; have f32 := hF.2.2.2.1.cell2; have f33 := hF.2.2.2.1.cell3; clear hF; go_simp; try rfl
    rotate_left
    · simp only [Act.put]; exact rfl
    refine Calm.take (i := 39) (v := ?_) (a' := ?_) (l' := (bs 83 927712935935)) (d := some 65) rfl (by kernel_rfl) (by kernel_rfl) (by kernel_rfl) (by kernel_rfl) (fun _ _ _ h => h) HF.out (by kernel_rfl) ?_ (by kernel_rfl) rfl ?_ ?_
    rotate_left
    · intro w' hF; have f10 := hF.2.1.cell0; have f11 := hF.2.1.cell1; have f12 := hF.2.1.cell2; have f13 := hF.2.1.cell3; have f20 := hF.2.2.1.cell0; have f21 := hF.2.2.1.cell1; have f22 := hF.2.2.1.cell2; have f23 := hF.2.2.1.cell3; have f30 := hF.2.2.2.1.cell0; have f31 := hF.2.2.2.1.cell1; have f32 := hF.2.2.2.1.cell2; have f33 := hF.2.2.2.1.cell3; clear hF; go_simp; try rfl
    rotate_left
    · simp only [Act.put]; exact rfl
    refine Calm.take (i := 40) (v := ?_) (a' := ?_) (l' := (bs 83 2027224563711)) (d := some 66) rfl (by kernel_rfl) (by kernel_rfl) (by kernel_rfl) (by kernel_rfl) (fun _ _ _ h => h) HF.out (by kernel_rfl) ?_ (by kernel_rfl) rfl ?_ ?_
    rotate_left
    · intro w' hF; have f10 := hF.2.1.cell0; have f11 := hF.2.1.cell1; have f12 := hF.2.1.cell2; have f13 := hF.2.1.cell3; have f20 := hF.2.2.1.cell0; have f21 := hF.2.2.1.cell1; have f22 := hF.2.2.1.cell2; have f23 := hF.2.2.1.cell3; have f30 := hF.2.2.2.1.cell0; have f31 := hF.2.2.2.1.cell1; have f32 := hF.2.2.2.1.cell2; have f33 := hF.2.2.2.1.cell3; clear hF; go_simp; try rfl
    rotate_left
    · simp only [Act.put]; exact rfl
    refine Calm.one (i := 35) (l' := (bs 83 2061584302079)) (by kernel_rfl) rfl (by kernel_rfl) (by kernel_rfl) fun K hK => ?_
    go_simp
    refine (rtmul_any _ _ x y _ HF.out.2.2.2.2.1 HF.out.2.2.2.2.2.1 (SX.out.mono (by decide)) (SY.out.mono (by decide))).mono ?_
    rintro e w22 ⟨v, rfl, n, hb⟩
    have HF' := hide (And.intro (HF.out.1.trans ((hb).mono HF.out.1.size)) (And.intro (HF.out.2.1.step (hb)) (And.intro (HF.out.2.2.1.step (hb)) (And.intro (HF.out.2.2.2.1.step (hb)) (And.intro (HF.out.2.2.2.2.1.below (hb)) (And.intro (HF.out.2.2.2.2.2.1.below (hb)) (HF.out.2.2.2.2.2.2.below (hb))))))))
    have T12 := hide (n)
    refine hK _ _ (fun _ => HF'.out) ?_
    clear hK K HF hb n
    have HF := hide HF'.out
    clear HF'
    refine Calm.one (i := 37) (l' := (bs 83 2199023255551)) (by kernel_rfl) rfl (by kernel_rfl) (by kernel_rfl) fun K hK => ?_
    go_simp
    refine (rtmul_any _ _ (x * y) z _ T12.out HF.out.2.2.2.2.2.2 ((SzR.mul SX.out SY.out).mono (by decide)) (SZ.out.mono (by decide))).mono ?_
    rintro e w23 ⟨v, rfl, n, hb⟩
    clear T12
    have HF' := hide (And.intro (HF.out.1.trans ((hb).mono HF.out.1.size)) (And.intro (HF.out.2.1.step (hb)) (And.intro (HF.out.2.2.1.step (hb)) (And.intro (HF.out.2.2.2.1.step (hb)) (And.intro (HF.out.2.2.2.2.1.below (hb)) (And.intro (HF.out.2.2.2.2.2.1.below (hb)) (HF.out.2.2.2.2.2.2.below (hb))))))))
    have T13 := hide (n)
    refine hK _ _ (fun _ => HF'.out) ?_
    clear hK K HF hb n
    have HF := hide HF'.out
    clear HF'
    refine Calm.one (i := 41) (l' := (bs 83 4398046511103)) (by kernel_rfl) rfl (by kernel_rfl) (by kernel_rfl) fun K hK => ?_
    go_simp
    refine (rtmul_any _ _ y z _ HF.out.2.2.2.2.2.1 HF.out.2.2.2.2.2.2 (SY.out.mono (by decide)) (SZ.out.mono (by decide))).mono ?_
    rintro e w24 ⟨v, rfl, n, hb⟩
    replace T13 := hide (T13.out.below (hb))
    have HF' := hide (And.intro (HF.out.1.trans ((hb).mono HF.out.1.size)) (And.intro (HF.out.2.1.step (hb)) (And.intro (HF.out.2.2.1.step (hb)) (And.intro (HF.out.2.2.2.1.step (hb)) (And.intro (HF.out.2.2.2.2.1.below (hb)) (And.intro (HF.out.2.2.2.2.2.1.below (hb)) (HF.out.2.2.2.2.2.2.below (hb))))))))
    have T14 := hide (n)
    refine hK _ _ (fun _ => HF'.out) ?_
    clear hK K HF hb n
    have HF := hide HF'.out
    clear HF'
    refine Calm.one (i := 42) (l' := (bs 83 8796093022207)) (by kernel_rfl) rfl (by kernel_rfl) (by kernel_rfl) fun K hK => ?_
    go_simp
    refine (rtmul_any _ _ x (y * z) _ HF.out.2.2.2.2.1 T14.out (SX.out.mono (by decide)) ((SzR.mul SY.out SZ.out).mono (by decide))).mono ?_
    rintro e w25 ⟨v, rfl, n, hb⟩
    replace T13 := hide (T13.out.below (hb))
    clear T14
    have HF' := hide (And.intro (HF.out.1.trans ((hb).mono HF.out.1.size)) (And.intro (HF.out.2.1.step (hb)) (And.intro (HF.out.2.2.1.step (hb)) (And.intro (HF.out.2.2.2.1.step (hb)) (And.intro (HF.out.2.2.2.2.1.below (hb)) (And.intro (HF.out.2.2.2.2.2.1.below (hb)) (HF.out.2.2.2.2.2.2.below (hb))))))))
    have T15 := hide (n)
    refine hK _ _ (fun _ => HF'.out) ?_
    clear hK K HF hb n
    have HF := hide HF'.out
    clear HF'
    refine Calm.one (i := 43) (l' := (bs 83 17592186044415)) (by kernel_rfl) rfl (by kernel_rfl) (by kernel_rfl) fun K hK => ?_
    go_simp
    refine (same_any _ _ ((x * y) * z) (x * (y * z)) _ T13.out T15.out).mono ?_
    rintro e w26 ⟨he, hb⟩
    rw [decide_rfl (Rat.mul_assoc _ _ _)] at he
    subst he
    clear T13
    clear T15
    have HF' := hide (And.intro (HF.out.1.trans ((hb).mono HF.out.1.size)) (And.intro (HF.out.2.1.step (hb)) (And.intro (HF.out.2.2.1.step (hb)) (And.intro (HF.out.2.2.2.1.step (hb)) (And.intro (HF.out.2.2.2.2.1.below (hb)) (And.intro (HF.out.2.2.2.2.2.1.below (hb)) (HF.out.2.2.2.2.2.2.below (hb))))))))
    refine hK _ _ (fun _ => HF'.out) ?_
    clear hK K HF hb
    have HF := hide HF'.out
    clear HF'
    refine Calm.take (i := 44) (v := ?_) (a' := ?_) (l' := (bs 83 35184372088831)) (d := some 70) rfl (by kernel_rfl) (by kernel_rfl) (by kernel_rfl) (by kernel_rfl) (fun _ _ _ h => h) HF.out (by kernel_rfl) ?_ (by kernel_rfl) rfl ?_ ?_
    rotate_left
    · intro w' hF; clear hF; go_simp; try rfl
    rotate_left
    · simp only [Act.put]; exact rfl
    refine Calm.take (i := 45) (v := ?_) (a' := ?_) (l' := (bs 83 70368744177663)) (d := some 71) rfl (by kernel_rfl) (by kernel_rfl) (by kernel_rfl) (by kernel_rfl) (fun _ _ _ h => h) HF.out rfl ?_ (by kernel_rfl) rfl ?_ ?_
    rotate_left
    · intro w' hF; clear hF; go_simp; try rfl
    rotate_left
    · simp only [Act.put]; exact rfl
    refine Calm.take (i := 46) (v := ?_) (a' := ?_) (l' := (bs 83 140737488355327)) (d := some 72) rfl (by kernel_rfl) (by kernel_rfl) (by kernel_rfl) (by kernel_rfl) (fun _ _ _ h => h) HF.out rfl ?_ (by kernel_rfl) rfl ?_ ?_
    rotate_left
    · intro w' hF; clear hF; go_simp; try rfl
    rotate_left
    · simp only [Act.put]; exact rfl
    refine Calm.take (i := 47) (v := ?_) (a' := ?_) (l' := (bs 83 281474976710655)) (d := some 73) rfl (by kernel_rfl) (by kernel_rfl) (by kernel_rfl) (by kernel_rfl) (fun _ _ _ h => h) HF.out (by kernel_rfl) ?_ (by kernel_rfl) rfl ?_ ?_
    rotate_left
    · intro w' hF; have f10 := hF.2.1.cell0; have f11 := hF.2.1.cell1; have f12 := hF.2.1.cell2; have f13 := hF.2.1.cell3; have f20 := hF.2.2.1.cell0; have f21 := hF.2.2.1.cell1; have f22 := hF.2.2.1.cell2; have f23 := hF.2.2.1.cell3; have f30 := hF.2.2.2.1.cell0; have f31 := hF.2.2.2.1.cell1; have f32 := hF.2.2.2.1.cell2; have f33 := hF.2.2.2.1.cell3; clear hF; go_simp; try rfl
    rotate_left
    · simp only [Act.put]; exact rfl
    refine Calm.take (i := 48) (v := ?_) (a' := ?_) (l' := (bs 83 562949953421311)) (d := some 74) rfl (by kernel_rfl) (by kernel_rfl) (by kernel_rfl) (by kernel_rfl) (fun _ _ _ h => h) HF.out (by kernel_rfl) ?_ (by kernel_rfl) rfl ?_ ?_
    rotate_left
    · intro w' hF; have f10 := hF.2.1.cell0; have f11 := hF.2.1.cell1; have f12 := hF.2.1.cell2; have f13 := hF.2.1.cell3; have f20 := hF.2.2.1.cell0; have f21 := hF.2.2.1.cell1; have f22 := hF.2.2.1.cell2; have f23 := hF.2.2.1.cell3; have f30 := hF.2.2.2.1.cell0; have f31 := hF.2.2.2.1.cell1; have f32 := hF.2.2.2.1.cell2; have f33 := hF.2.2.2.1.cell3; clear hF; go_simp; try rfl
    rotate_left
    · simp only [Act.put]; exact rfl
    refine Calm.take (i := 49) (v := ?_) (a' := ?_) (l' := (bs 83 1125899906842623)) (d := some 75) rfl (by kernel_rfl) (by kernel_rfl) (by kernel_rfl) (by kernel_rfl) (fun _ _ _ h => h) HF.out (by kernel_rfl) ?_ (by kernel_rfl) rfl ?_ ?_
    rotate_left
    · intro w' hF; have f10 := hF.2.1.cell0; have f11 := hF.2.1.cell1; have f12 := hF.2.1.cell2; have f13 := hF.2.1.cell3; have f20 := hF.2.2.1.cell0; have f21 := hF.2.2.1.cell1; have f22 := hF.2.2.1.cell2; have f23 := hF.2.2.1.cell3; have f30 := hF.2.2.2.1.cell0; have f31 := hF.2.2.2.1.cell1; have f32 := hF.2.2.2.1.cell2; have f33 := hF.2.2.2.1.cell3; clear hF; go_simp; try rfl
    rotate_left
    · simp only [Act.put]; exact rfl
    refine Calm.take (i := 52) (v := ?_) (a' := ?_) (l' := (bs 83 5629499534213119)) (d := some 78) rfl (by kernel_rfl) (by kernel_rfl) (by kernel_rfl) (by kernel_rfl) (fun _ _ _ h => h) HF.out (by kernel_rfl) ?_ (by kernel_rfl) rfl ?_ ?_
    rotate_left
    · intro w' hF; have f10 := hF.2.1.cell0; have f11 := hF.2.1.cell1; have f12 := hF.2.1.cell2; have f13 := hF.2.1.cell3; have f20 := hF.2.2.1.cell0; have f21 := hF.2.2.1.cell1; have f22 := hF.2.2.1.cell2; have f23 := hF.2.2.1.cell3; have f30 := hF.2.2.2.1.cell0; have f31 := hF.2.2.2.1.cell1; have f32 := hF.2.2.2.1.cell2; have f33 := hF.2.2.2.1.cell3; clear hF; go_simp; try rfl
    rotate_left
    · simp only [Act.put]; exact rfl
    refine Calm.take (i := 53) (v := ?_) (a' := ?_) (l' := (bs 83 14636698788954111)) (d := some 79) rfl (by kernel_rfl) (by kernel_rfl) (by kernel_rfl) (by kernel_rfl) (fun _ _ _ h => h) HF.out (by kernel_rfl) ?_ (by kernel_rfl) rfl ?_ ?_
    rotate_left
    · intro w' hF; have f10 := hF.2.1.cell0; have f11 := hF.2.1.cell1; have f12 := hF.2.1.cell2; have f13 := hF.2.1.cell3; have f20 := hF.2.2.1.cell0; have f21 := hF.2.2.1.cell1; have f22 := hF.2.2.1.cell2; have f23 := hF.2.2.1.cell3; have f30 := hF.2.2.2.1.cell0; have f31 := hF.2.2.2.1.cell1; have f32 := hF.2.2.2.1.cell2; have f33 := hF.2.2.2.1.cell3; clear hF; go_simp; try rfl
    rotate_left
    · simp only [Act.put]; exact rfl
    refine Calm.take (i := 55) (v := ?_) (a' := ?_) (l' := (bs 83 50665495807918079)) (d := some 81) rfl (by kernel_rfl) (by kernel_rfl) (by kernel_rfl) (by kernel_rfl) (fun _ _ _ h => h) HF.out (by kernel_rfl) ?_ (by kernel_rfl) rfl ?_ ?_
    rotate_left
    · intro w' hF; have f10 := hF.2.1.cell0; have f11 := hF.2.1.cell1; have f12 := hF.2.1.cell2; have f13 := hF.2.1.cell3; have f20 := hF.2.2.1.cell0; have f21 := hF.2.2.1.cell1; have f22 := hF.2.2.1.cell2; have f23 := hF.2.2.1.cell3; have f30 := hF.2.2.2.1.cell0; have f31 := hF.2.2.2.1.cell1; have f32 := hF.2.2.2.1.cell2; have f33 := hF.2.2.2.1.cell3; clear hF; go_simp; try rfl
    rotate_left
    · simp only [Act.put]; exact rfl
    refine Calm.take (i := 56) (v := ?_) (a' := ?_) (l' := (bs 83 122723089845846015)) (d := some 82) rfl (by kernel_rfl) (by kernel_rfl) (by kernel_rfl) (by kernel_rfl) (fun _ _ _ h => h) HF.out (by kernel_rfl) ?_ (by kernel_rfl) rfl ?_ ?_
    rotate_left
    · intro w' hF; have f10 := hF.2.1.cell0; have f11 := hF.2.1.cell1; have f12 := hF.2.1.cell2; have f13 := hF.2.1.cell3; have f20 := hF.2.2.1.cell0; have f21 := hF.2.2.1.cell1; have f22 := hF.2.2.1.cell2; have f23 := hF.2.2.1.cell3; have f30 := hF.2.2.2.1.cell0; have f31 := hF.2.2.2.1.cell1; have f32 := hF.2.2.2.1.cell2; have f33 := hF.2.2.2.1.cell3; clear hF; go_simp; try rfl
    rotate_left
    · simp only [Act.put]; exact rfl
    refine Calm.one (i := 50) (l' := (bs 83 123848989752688639)) (by kernel_rfl) rfl (by kernel_rfl) (by kernel_rfl) fun K hK => ?_
    go_simp
    refine (rtadd_any _ _ y z _ HF.out.2.2.2.2.2.1 HF.out.2.2.2.2.2.2 (SY.out.mono (by decide)) (SZ.out.mono (by decide))).mono ?_
    rintro e w27 ⟨v, rfl, n, hb⟩
    have HF' := hide (And.intro (HF.out.1.trans ((hb).mono HF.out.1.size)) (And.intro (HF.out.2.1.step (hb)) (And.intro (HF.out.2.2.1.step (hb)) (And.intro (HF.out.2.2.2.1.step (hb)) (And.intro (HF.out.2.2.2.2.1.below (hb)) (And.intro (HF.out.2.2.2.2.2.1.below (hb)) (HF.out.2.2.2.2.2.2.below (hb))))))))
    have T17 := hide (n)
    refine hK _ _ (fun _ => HF'.out) ?_
    clear hK K HF hb n
    have HF := hide HF'.out
    clear HF'
    refine Calm.one (i := 51) (l' := (bs 83 126100789566373887)) (by kernel_rfl) rfl (by kernel_rfl) (by kernel_rfl) fun K hK => ?_
    go_simp
    refine (rtmul_any _ _ x (y + z) _ HF.out.2.2.2.2.1 T17.out (SX.out.mono (by decide)) ((SzR.add SY.out SZ.out).mono (by decide))).mono ?_
    rintro e w28 ⟨v, rfl, n, hb⟩
    clear T17
    have HF' := hide (And.intro (HF.out.1.trans ((hb).mono HF.out.1.size)) (And.intro (HF.out.2.1.step (hb)) (And.intro (HF.out.2.2.1.step (hb)) (And.intro (HF.out.2.2.2.1.step (hb)) (And.intro (HF.out.2.2.2.2.1.below (hb)) (And.intro (HF.out.2.2.2.2.2.1.below (hb)) (HF.out.2.2.2.2.2.2.below (hb))))))))
    have T18 := hide (n)
    refine hK _ _ (fun _ => HF'.out) ?_
    clear hK K HF hb n
    have HF := hide HF'.out
    clear HF'
    refine Calm.one (i := 54) (l' := (bs 83 144115188075855871)) (by kernel_rfl) rfl (by kernel_rfl) (by kernel_rfl) fun K hK => ?_
    go_simp
    refine (rtmul_any _ _ x y _ HF.out.2.2.2.2.1 HF.out.2.2.2.2.2.1 (SX.out.mono (by decide)) (SY.out.mono (by decide))).mono ?_
    rintro e w29 ⟨v, rfl, n, hb⟩
    replace T18 := hide (T18.out.below (hb))
    have HF' := hide (And.intro (HF.out.1.trans ((hb).mono HF.out.1.size)) (And.intro (HF.out.2.1.step (hb)) (And.intro (HF.out.2.2.1.step (hb)) (And.intro (HF.out.2.2.2.1.step (hb)) (And.intro (HF.out.2.2.2.2.1.below (hb)) (And.intro (HF.out.2.2.2.2.2.1.below (hb)) (HF.out.2.2.2.2.2.2.below (hb))))))))
    have T19 := hide (n)
    refine hK _ _ (fun _ => HF'.out) ?_
    clear hK K HF hb n
    have HF := hide HF'.out
    clear HF'
    refine Calm.one (i := 57) (l' := (bs 83 288230376151711743)) (by kernel_rfl) rfl (by kernel_rfl) (by kernel_rfl) fun K hK => ?_
    go_simp
    refine (rtmul_any _ _ x z _ HF.out.2.2.2.2.1 HF.out.2.2.2.2.2.2 (SX.out.mono (by decide)) (SZ.out.mono (by decide))).mono ?_
    rintro e w30 ⟨v, rfl, n, hb⟩
    replace T18 := hide (T18.out.below (hb))
    replace T19 := hide (T19.out.below (hb))
    have HF' := hide (And.intro (HF.out.1.trans ((hb).mono HF.out.1.size)) (And.intro (HF.out.2.1.step (hb)) (And.intro (HF.out.2.2.1.step (hb)) (And.intro (HF.out.2.2.2.1.step (hb)) (And.intro (HF.out.2.2.2.2.1.below (hb)) (And.intro (HF.out.2.2.2.2.2.1.below (hb)) (HF.out.2.2.2.2.2.2.below (hb))))))))
    have T20 := hide (n)
    refine hK _ _ (fun _ => HF'.out) ?_
    clear hK K HF hb n
    have HF := hide HF'.out
    clear HF'
    refine Calm.one (i := 58) (l' := (bs 83 576460752303423487)) (by kernel_rfl) rfl (by kernel_rfl) (by kernel_rfl) fun K hK => ?_
    go_simp
    refine (rtadd_any _ _ (x * y) (x * z) _ T19.out T20.out ((SzR.mul SX.out SY.out).mono (by decide)) ((SzR.mul SX.out SZ.out).mono (by decide))).mono ?_
    rintro e w31 ⟨v, rfl, n, hb⟩
    replace T18 := hide (T18.out.below (hb))
    clear T19
    clear T20
    have HF' := hide (And.intro (HF.out.1.trans ((hb).mono HF.out.1.size)) (And.intro (HF.out.2.1.step (hb)) (And.intro (HF.out.2.2.1.step (hb)) (And.intro (HF.out.2.2.2.1.step (hb)) (And.intro (HF.out.2.2.2.2.1.below (hb)) (And.intro (HF.out.2.2.2.2.2.1.below (hb)) (HF.out.2.2.2.2.2.2.below (hb))))))))
    have T21 := hide (n)
    refine hK _ _ (fun _ => HF'.out) ?_
    clear hK K HF hb n
    have HF := hide HF'.out
    clear HF'
    refine Calm.one (i := 59) (l' := (bs 83 1152921504606846975)) (by kernel_rfl) rfl (by kernel_rfl) (by kernel_rfl) fun K hK => ?_
    go_simp
    refine (same_any _ _ (x * (y + z)) ((x * y) + (x * z)) _ T18.out T21.out).mono ?_
    rintro e w32 ⟨he, hb⟩
    rw [decide_rfl (Rat.mul_add _ _ _)] at he
    subst he
    clear T18
    clear T21
    have HF' := hide (And.intro (HF.out.1.trans ((hb).mono HF.out.1.size)) (And.intro (HF.out.2.1.step (hb)) (And.intro (HF.out.2.2.1.step (hb)) (And.intro (HF.out.2.2.2.1.step (hb)) (And.intro (HF.out.2.2.2.2.1.below (hb)) (And.intro (HF.out.2.2.2.2.2.1.below (hb)) (HF.out.2.2.2.2.2.2.below (hb))))))))
    refine hK _ _ (fun _ => HF'.out) ?_
    clear hK K HF hb
    have HF := hide HF'.out
    clear HF'
    refine Calm.take (i := 60) (v := ?_) (a' := ?_) (l' := (bs 83 2305843009213693951)) (d := some 86) rfl (by kernel_rfl) (by kernel_rfl) (by kernel_rfl) (by kernel_rfl) (fun _ _ _ h => h) HF.out (by kernel_rfl) ?_ (by kernel_rfl) rfl ?_ ?_
    rotate_left
    · intro w' hF; clear hF; go_simp; try rfl
    rotate_left
    · simp only [Act.put]; exact rfl
    refine Calm.take (i := 61) (v := ?_) (a' := ?_) (l' := (bs 83 4611686018427387903)) (d := some 87) rfl (by kernel_rfl) (by kernel_rfl) (by kernel_rfl) (by kernel_rfl) (fun _ _ _ h => h) HF.out rfl ?_ (by kernel_rfl) rfl ?_ ?_
    rotate_left
    · intro w' hF; clear hF; go_simp; try rfl
    rotate_left
    · simp only [Act.put]; exact rfl
    refine Calm.take (i := 62) (v := ?_) (a' := ?_) (l' := (bs 83 9223372036854775807)) (d := some 88) rfl (by kernel_rfl) (by kernel_rfl) (by kernel_rfl) (by kernel_rfl) (fun _ _ _ h => h) HF.out rfl ?_ (by kernel_rfl) rfl ?_ ?_
    rotate_left
    · intro w' hF; clear hF; go_simp; try rfl
    rotate_left
    · simp only [Act.put]; exact rfl
    refine Calm.take (i := 63) (v := ?_) (a' := ?_) (l' := (bs 83 18446744073709551615)) (d := some 89) rfl (by kernel_rfl) (by kernel_rfl) (by kernel_rfl) (by kernel_rfl) (fun _ _ _ h => h) HF.out (by kernel_rfl) ?_ (by kernel_rfl) rfl ?_ ?_
    rotate_left
    · intro w' hF; have f10 := hF.2.1.cell0; have f11 := hF.2.1.cell1; have f12 := hF.2.1.cell2; have f13 := hF.2.1.cell3; have f20 := hF.2.2.1.cell0; have f21 := hF.2.2.1.cell1; have f22 := hF.2.2.1.cell2; have f23 := hF.2.2.1.cell3; have f30 := hF.2.2.2.1.cell0; have f31 := hF.2.2.2.1.cell1; have f32 := hF.2.2.2.1.cell2; have f33 := hF.2.2.2.1.cell3; clear hF; go_simp; try rfl
    rotate_left
    · simp only [Act.put]; exact rfl
    refine Calm.take (i := 64) (v := ?_) (a' := ?_) (l' := (bs 83 36893488147419103231)) (d := some 90) rfl (by kernel_rfl) (by kernel_rfl) (by kernel_rfl) (by kernel_rfl) (fun _ _ _ h => h) HF.out (by kernel_rfl) ?_ (by kernel_rfl) rfl ?_ ?_
    rotate_left
    · intro w' hF; have f10 := hF.2.1.cell0; have f11 := hF.2.1.cell1; have f12 := hF.2.1.cell2; have f13 := hF.2.1.cell3; have f20 := hF.2.2.1.cell0; have f21 := hF.2.2.1.cell1; have f22 := hF.2.2.1.cell2; have f23 := hF.2.2.1.cell3; have f30 := hF.2.2.2.1.cell0; have f31 := hF.2.2.2.1.cell1; have f32 := hF.2.2.2.1.cell2; have f33 := hF.2.2.2.1.cell3; clear hF; go_simp; try rfl
    rotate_left
    · simp only [Act.put]; exact rfl
    refine Calm.take (i := 66) (v := ?_) (a' := ?_) (l' := (bs 83 110680464442257309695)) (d := some 92) rfl (by kernel_rfl) (by kernel_rfl) (by kernel_rfl) (by kernel_rfl) (fun _ _ _ h => h) HF.out (by kernel_rfl) ?_ (by kernel_rfl) rfl ?_ ?_
    rotate_left
    · intro w' hF; have f10 := hF.2.1.cell0; have f11 := hF.2.1.cell1; have f12 := hF.2.1.cell2; have f13 := hF.2.1.cell3; have f20 := hF.2.2.1.cell0; have f21 := hF.2.2.1.cell1; have f22 := hF.2.2.1.cell2; have f23 := hF.2.2.1.cell3; have f30 := hF.2.2.2.1.cell0; have f31 := hF.2.2.2.1.cell1; have f32 := hF.2.2.2.1.cell2; have f33 := hF.2.2.2.1.cell3; clear hF; go_simp; try rfl
    rotate_left
    · simp only [Act.put]; exact rfl
    refine Calm.take (i := 68) (v := ?_) (a' := ?_) (l' := (bs 83 405828369621610135551)) (d := some 94) rfl (by kernel_rfl) (by kernel_rfl) (by kernel_rfl) (by kernel_rfl) (fun _ _ _ h => h) HF.out (by kernel_rfl) ?_ (by kernel_rfl) rfl ?_ ?_
    rotate_left
    · intro w' hF; have f10 := hF.2.1.cell0; have f11 := hF.2.1.cell1; have f12 := hF.2.1.cell2; have f13 := hF.2.1.cell3; have f20 := hF.2.2.1.cell0; have f21 := hF.2.2.1.cell1; have f22 := hF.2.2.1.cell2; have f23 := hF.2.2.1.cell3; have f30 := hF.2.2.2.1.cell0; have f31 := hF.2.2.2.1.cell1; have f32 := hF.2.2.2.1.cell2; have f33 := hF.2.2.2.1.cell3; clear hF; go_simp; try rfl
    rotate_left
    · simp only [Act.put]; exact rfl
    refine Calm.one (i := 65) (l' := (bs 83 442721857769029238783)) (by kernel_rfl) rfl (by kernel_rfl) (by kernel_rfl) fun K hK => ?_
    go_simp
    refine (rtadd_any _ _ x y _ HF.out.2.2.2.2.1 HF.out.2.2.2.2.2.1 (SX.out.mono (by decide)) (SY.out.mono (by decide))).mono ?_
    rintro e w33 ⟨v, rfl, n, hb⟩
    have HF' := hide (And.intro (HF.out.1.trans ((hb).mono HF.out.1.size)) (And.intro (HF.out.2.1.step (hb)) (And.intro (HF.out.2.2.1.step (hb)) (And.intro (HF.out.2.2.2.1.step (hb)) (And.intro (HF.out.2.2.2.2.1.below (hb)) (And.intro (HF.out.2.2.2.2.2.1.below (hb)) (HF.out.2.2.2.2.2.2.below (hb))))))))
    have T23 := hide (n)
    refine hK _ _ (fun _ => HF'.out) ?_
    clear hK K HF hb n
    have HF := hide HF'.out
    clear HF'
    refine Calm.one (i := 67) (l' := (bs 83 590295810358705651711)) (by kernel_rfl) rfl (by kernel_rfl) (by kernel_rfl) fun K hK => ?_
    go_simp
    refine (rtsub_any _ _ (x + y) y _ T23.out HF.out.2.2.2.2.2.1 ((SzR.add SX.out SY.out).mono (by decide)) (SY.out.mono (by decide))).mono ?_
    rintro e w34 ⟨v, rfl, n, hb⟩
    clear T23
    have HF' := hide (And.intro (HF.out.1.trans ((hb).mono HF.out.1.size)) (And.intro (HF.out.2.1.step (hb)) (And.intro (HF.out.2.2.1.step (hb)) (And.intro (HF.out.2.2.2.1.step (hb)) (And.intro (HF.out.2.2.2.2.1.below (hb)) (And.intro (HF.out.2.2.2.2.2.1.below (hb)) (HF.out.2.2.2.2.2.2.below (hb))))))))
    have T24 := hide (n)
    refine hK _ _ (fun _ => HF'.out) ?_
    clear hK K HF hb n
    have HF := hide HF'.out
    clear HF'
    refine Calm.one (i := 69) (l' := (bs 83 1180591620717411303423)) (by kernel_rfl) rfl (by kernel_rfl) (by kernel_rfl) fun K hK => ?_
    go_simp
    refine (same_any _ _ ((x + y) - y) x _ T24.out HF.out.2.2.2.2.1).mono ?_
    rintro e w35 ⟨he, hb⟩
    rw [decide_rfl (Rat.add_sub_cancel)] at he
    subst he
    clear T24
    have HF' := hide (And.intro (HF.out.1.trans ((hb).mono HF.out.1.size)) (And.intro (HF.out.2.1.step (hb)) (And.intro (HF.out.2.2.1.step (hb)) (And.intro (HF.out.2.2.2.1.step (hb)) (And.intro (HF.out.2.2.2.2.1.below (hb)) (And.intro (HF.out.2.2.2.2.2.1.below (hb)) (HF.out.2.2.2.2.2.2.below (hb))))))))
    refine hK _ _ (fun _ => HF'.out) ?_
    clear hK K HF hb
    have HF := hide HF'.out
    clear HF'
    refine Calm.take (i := 70) (v := ?_) (a' := ?_) (l' := (bs 83 2361183241434822606847)) (d := some 96) rfl (by kernel_rfl) (by kernel_rfl) (by kernel_rfl) (by kernel_rfl) (fun _ _ _ h => h) HF.out (by kernel_rfl) ?_ (by kernel_rfl) rfl ?_ ?_
    rotate_left
    · intro w' hF; clear hF; go_simp; try rfl
    rotate_left
    · simp only [Act.put]; exact rfl
    refine Calm.take (i := 71) (v := ?_) (a' := ?_) (l' := (bs 83 4722366482869645213695)) (d := some 97) rfl (by kernel_rfl) (by kernel_rfl) (by kernel_rfl) (by kernel_rfl) (fun _ _ _ h => h) HF.out rfl ?_ (by kernel_rfl) rfl ?_ ?_
    rotate_left
    · intro w' hF; clear hF; go_simp; try rfl
    rotate_left
    · simp only [Act.put]; exact rfl
    refine Calm.take (i := 72) (v := ?_) (a' := ?_) (l' := (bs 83 9444732965739290427391)) (d := some 98) rfl (by kernel_rfl) (by kernel_rfl) (by kernel_rfl) (by kernel_rfl) (fun _ _ _ h => h) HF.out rfl ?_ (by kernel_rfl) rfl ?_ ?_
    rotate_left
    · intro w' hF; clear hF; go_simp; try rfl
    rotate_left
    · simp only [Act.put]; exact rfl
    refine Calm.take (i := 73) (v := ?_) (a' := ?_) (l' := (bs 83 18889465931478580854783)) (d := some 99) rfl (by kernel_rfl) (by kernel_rfl) (by kernel_rfl) (by kernel_rfl) (fun _ _ _ h => h) HF.out (by kernel_rfl) ?_ (by kernel_rfl) rfl ?_ ?_
    rotate_left
    · intro w' hF; have f10 := hF.2.1.cell0; have f11 := hF.2.1.cell1; have f12 := hF.2.1.cell2; have f13 := hF.2.1.cell3; have f20 := hF.2.2.1.cell0; have f21 := hF.2.2.1.cell1; have f22 := hF.2.2.1.cell2; have f23 := hF.2.2.1.cell3; have f30 := hF.2.2.2.1.cell0; have f31 := hF.2.2.2.1.cell1; have f32 := hF.2.2.2.1.cell2; have f33 := hF.2.2.2.1.cell3; clear hF; go_simp; try rfl
    rotate_left
    · simp only [Act.put]; exact rfl
    refine Calm.take (i := 74) (v := ?_) (a' := ?_) (l' := (bs 83 37778931862957161709567)) (d := some 100) rfl (by kernel_rfl) (by kernel_rfl) (by kernel_rfl) (by kernel_rfl) (fun _ _ _ h => h) HF.out (by kernel_rfl) ?_ (by kernel_rfl) rfl ?_ ?_
    rotate_left
    · intro w' hF; have f10 := hF.2.1.cell0; have f11 := hF.2.1.cell1; have f12 := hF.2.1.cell2; have f13 := hF.2.1.cell3; have f20 := hF.2.2.1.cell0; have f21 := hF.2.2.1.cell1; have f22 := hF.2.2.1.cell2; have f23 := hF.2.2.1.cell3; have f30 := hF.2.2.2.1.cell0; have f31 := hF.2.2.2.1.cell1; have f32 := hF.2.2.2.1.cell2; have f33 := hF.2.2.2.1.cell3; clear hF; go_simp; try rfl
    rotate_left
    · simp only [Act.put]; exact rfl
    refine Calm.take (i := 76) (v := ?_) (a' := ?_) (l' := (bs 83 113336795588871485128703)) (d := some 102) rfl (by kernel_rfl) (by kernel_rfl) (by kernel_rfl) (by kernel_rfl) (fun _ _ _ h => h) HF.out (by kernel_rfl) ?_ (by kernel_rfl) rfl ?_ ?_
    rotate_left
    · intro w' hF; have f10 := hF.2.1.cell0; have f11 := hF.2.1.cell1; have f12 := hF.2.1.cell2; have f13 := hF.2.1.cell3; have f20 := hF.2.2.1.cell0; have f21 := hF.2.2.1.cell1; have f22 := hF.2.2.1.cell2; have f23 := hF.2.2.1.cell3; have f30 := hF.2.2.2.1.cell0; have f31 := hF.2.2.2.1.cell1; have f32 := hF.2.2.2.1.cell2; have f33 := hF.2.2.2.1.cell3; clear hF; go_simp; try rfl
    rotate_left
    · simp only [Act.put]; exact rfl
    refine Calm.take (i := 77) (v := ?_) (a' := ?_) (l' := (bs 83 264452523040700131966975)) (d := some 103) rfl (by kernel_rfl) (by kernel_rfl) (by kernel_rfl) (by kernel_rfl) (fun _ _ _ h => h) HF.out (by kernel_rfl) ?_ (by kernel_rfl) rfl ?_ ?_
    rotate_left
    · intro w' hF; have f10 := hF.2.1.cell0; have f11 := hF.2.1.cell1; have f12 := hF.2.1.cell2; have f13 := hF.2.1.cell3; have f20 := hF.2.2.1.cell0; have f21 := hF.2.2.1.cell1; have f22 := hF.2.2.1.cell2; have f23 := hF.2.2.1.cell3; have f30 := hF.2.2.2.1.cell0; have f31 := hF.2.2.2.1.cell1; have f32 := hF.2.2.2.1.cell2; have f33 := hF.2.2.2.1.cell3; clear hF; go_simp; try rfl
    rotate_left
    · simp only [Act.put]; exact rfl
    refine Calm.one (i := 75) (l' := (bs 83 302231454903657293676543)) (by kernel_rfl) rfl (by kernel_rfl) (by kernel_rfl) fun K hK => ?_
    go_simp
    refine (rtsub_any _ _ x y _ HF.out.2.2.2.2.1 HF.out.2.2.2.2.2.1 (SX.out.mono (by decide)) (SY.out.mono (by decide))).mono ?_
    rintro e w36 ⟨v, rfl, n, hb⟩
    have HF' := hide (And.intro (HF.out.1.trans ((hb).mono HF.out.1.size)) (And.intro (HF.out.2.1.step (hb)) (And.intro (HF.out.2.2.1.step (hb)) (And.intro (HF.out.2.2.2.1.step (hb)) (And.intro (HF.out.2.2.2.2.1.below (hb)) (And.intro (HF.out.2.2.2.2.2.1.below (hb)) (HF.out.2.2.2.2.2.2.below (hb))))))))
    have T26 := hide (n)
    refine hK _ _ (fun _ => HF'.out) ?_
    clear hK K HF hb n
    have HF := hide HF'.out
    clear HF'
    refine Calm.one (i := 78) (l' := (bs 83 604462909807314587353087)) (by kernel_rfl) rfl (by kernel_rfl) (by kernel_rfl) fun K hK => ?_
    go_simp
    refine (rtneg_any _ y _ HF.out.2.2.2.2.2.1).mono ?_
    rintro e w37 ⟨v, rfl, n, hb⟩
    replace T26 := hide (T26.out.below (hb))
    have HF' := hide (And.intro (HF.out.1.trans ((hb).mono HF.out.1.size)) (And.intro (HF.out.2.1.step (hb)) (And.intro (HF.out.2.2.1.step (hb)) (And.intro (HF.out.2.2.2.1.step (hb)) (And.intro (HF.out.2.2.2.2.1.below (hb)) (And.intro (HF.out.2.2.2.2.2.1.below (hb)) (HF.out.2.2.2.2.2.2.below (hb))))))))
    have T27 := hide (n)
    refine hK _ _ (fun _ => HF'.out) ?_
    clear hK K HF hb n
    have HF := hide HF'.out
    clear HF'
    refine Calm.one (i := 79) (l' := (bs 83 1208925819614629174706175)) (by kernel_rfl) rfl (by kernel_rfl) (by kernel_rfl) fun K hK => ?_
    go_simp
    refine (rtadd_any _ _ x (-y) _ HF.out.2.2.2.2.1 T27.out (SX.out.mono (by decide)) ((SzR.neg SY.out).mono (by decide))).mono ?_
    rintro e w38 ⟨v, rfl, n, hb⟩
    replace T26 := hide (T26.out.below (hb))
    clear T27
    have HF' := hide (And.intro (HF.out.1.trans ((hb).mono HF.out.1.size)) (And.intro (HF.out.2.1.step (hb)) (And.intro (HF.out.2.2.1.step (hb)) (And.intro (HF.out.2.2.2.1.step (hb)) (And.intro (HF.out.2.2.2.2.1.below (hb)) (And.intro (HF.out.2.2.2.2.2.1.below (hb)) (HF.out.2.2.2.2.2.2.below (hb))))))))
    have T28 := hide (n)
    refine hK _ _ (fun _ => HF'.out) ?_
    clear hK K HF hb n
    have HF := hide HF'.out
    clear HF'
    refine Calm.one (i := 80) (l' := (bs 83 2417851639229258349412351)) (by kernel_rfl) rfl (by kernel_rfl) (by kernel_rfl) fun K hK => ?_
    go_simp
    refine (same_any _ _ (x - y) (x + (-y)) _ T26.out T28.out).mono ?_
    rintro e w39 ⟨he, hb⟩
    rw [decide_rfl (Rat.sub_eq_add_neg _ _)] at he
    subst he
    clear T26
    clear T28
    have HF' := hide (And.intro (HF.out.1.trans ((hb).mono HF.out.1.size)) (And.intro (HF.out.2.1.step (hb)) (And.intro (HF.out.2.2.1.step (hb)) (And.intro (HF.out.2.2.2.1.step (hb)) (And.intro (HF.out.2.2.2.2.1.below (hb)) (And.intro (HF.out.2.2.2.2.2.1.below (hb)) (HF.out.2.2.2.2.2.2.below (hb))))))))
    refine hK _ _ (fun _ => HF'.out) ?_
    clear hK K HF hb
    have HF := hide HF'.out
    clear HF'
    refine Calm.take (i := 81) (v := ?_) (a' := ?_) (l' := (bs 83 4835703278458516698824703)) (d := some 107) rfl (by kernel_rfl) (by kernel_rfl) (by kernel_rfl) (by kernel_rfl) (fun _ _ _ h => h) HF.out (by kernel_rfl) ?_ (by kernel_rfl) rfl ?_ ?_
    rotate_left
    · intro w' hF; clear hF; go_simp; try rfl
    rotate_left
    · simp only [Act.put]; exact rfl
    refine Calm.take (i := 82) (v := ?_) (a' := ?_) (l' := (bs 83 9671406556917033397649407)) (d := some 108) rfl (by kernel_rfl) (by kernel_rfl) (by kernel_rfl) (by kernel_rfl) (fun _ _ _ h => h) HF.out rfl ?_ (by kernel_rfl) rfl ?_ ?_
    rotate_left
    · intro w' hF; clear hF; go_simp; try rfl
    rotate_left
    · simp only [Act.put]; exact rfl
    refine Calm.done (by kernel_rfl) ?_
    replace HB := hide HF.out.1
    replace VX := hide HF.out.2.1
    replace VY := hide HF.out.2.2.1
    replace VZ := hide HF.out.2.2.2.1
    replace IX := hide HF.out.2.2.2.2.1
    replace IY := hide HF.out.2.2.2.2.2.1
    replace IZ := hide HF.out.2.2.2.2.2.2
    clear HF
    have HNE : Hid (y = 0 ∨ y ≠ 0) := hide (Decidable.em _)
    simp only [List.setIfInBounds_toArray, List.set_cons_succ, List.set_cons_zero]
    go_wp2_with fail
    try simp only [List.setIfInBounds_toArray, List.set_cons_succ, List.set_cons_zero]
    rcases HNE.out with hz | hz
    · have HZ := hide hz
      clear hz
      go_cut [11, 12] from 109 (fun pt0 pe0 wx => ∃ gq s4 m4 n4 c4 t4 o4 p4 d4, pt0 = .pointer (some ⟨gq, 0, none⟩) ∧ pe0 = .int .i64 2 ∧ ((gv < gq ∧ (gv + 1) < gq ∧ (gv + 1 + 1) < gq)) ∧ Below w.heap.size w wx ∧ Box4 wx gv (.bool s1) (.slice m1 n1 c1) (.bool t1) (.slice o1 p1 d1) ∧ Box4 wx (gv + 1) (.bool s2) (.slice m2 n2 c2) (.bool t2) (.slice o2 p2 d2) ∧ Box4 wx (gv + 1 + 1) (.bool s3) (.slice m3 n3 c3) (.bool t3) (.slice o3 p3 d3) ∧ RatAt wx (.agg #[.bool s1, .slice m1 n1 c1, .bool t1, .slice o1 p1 d1]) x ∧ RatAt wx (.agg #[.bool s2, .slice m2 n2 c2, .bool t2, .slice o2 p2 d2]) y ∧ RatAt wx (.agg #[.bool s3, .slice m3 n3 c3, .bool t3, .slice o3 p3 d3]) z ∧ Box4 wx gq (.bool s4) (.slice m4 n4 c4) (.bool t4) (.slice o4 p4 d4) ∧ RatAt wx (.agg #[.bool s4, .slice m4 n4 c4, .bool t4, .slice o4 p4 d4]) 0)
      case first =>
        obtain ⟨F, hF⟩ : ∃ F : World → Prop, F = (fun w' => Below w.heap.size w w' ∧ Box4 w' gv (.bool s1) (.slice m1 n1 c1) (.bool t1) (.slice o1 p1 d1) ∧ Box4 w' (gv + 1) (.bool s2) (.slice m2 n2 c2) (.bool t2) (.slice o2 p2 d2) ∧ Box4 w' (gv + 1 + 1) (.bool s3) (.slice m3 n3 c3) (.bool t3) (.slice o3 p3 d3) ∧ RatAt w' (.agg #[.bool s1, .slice m1 n1 c1, .bool t1, .slice o1 p1 d1]) x ∧ RatAt w' (.agg #[.bool s2, .slice m2 n2 c2, .bool t2, .slice o2 p2 d2]) y ∧ RatAt w' (.agg #[.bool s3, .slice m3 n3 c3, .bool t3, .slice o3 p3 d3]) z) := ⟨_, rfl⟩
        have FU : Hid (∀ W, F W → (Below w.heap.size w W ∧ Box4 W gv (.bool s1) (.slice m1 n1 c1) (.bool t1) (.slice o1 p1 d1) ∧ Box4 W (gv + 1) (.bool s2) (.slice m2 n2 c2) (.bool t2) (.slice o2 p2 d2) ∧ Box4 W (gv + 1 + 1) (.bool s3) (.slice m3 n3 c3) (.bool t3) (.slice o3 p3 d3) ∧ RatAt W (.agg #[.bool s1, .slice m1 n1 c1, .bool t1, .slice o1 p1 d1]) x ∧ RatAt W (.agg #[.bool s2, .slice m2 n2 c2, .bool t2, .slice o2 p2 d2]) y ∧ RatAt W (.agg #[.bool s3, .slice m3 n3 c3, .bool t3, .slice o3 p3 d3]) z)) := hide (fun W h => by rw [hF] at h; exact h)
        have FM : Hid (∀ W, (Below w.heap.size w W ∧ Box4 W gv (.bool s1) (.slice m1 n1 c1) (.bool t1) (.slice o1 p1 d1) ∧ Box4 W (gv + 1) (.bool s2) (.slice m2 n2 c2) (.bool t2) (.slice o2 p2 d2) ∧ Box4 W (gv + 1 + 1) (.bool s3) (.slice m3 n3 c3) (.bool t3) (.slice o3 p3 d3) ∧ RatAt W (.agg #[.bool s1, .slice m1 n1 c1, .bool t1, .slice o1 p1 d1]) x ∧ RatAt W (.agg #[.bool s2, .slice m2 n2 c2, .bool t2, .slice o2 p2 d2]) y ∧ RatAt W (.agg #[.bool s3, .slice m3 n3 c3, .bool t3, .slice o3 p3 d3]) z) → F W) := hide (fun W h => by rw [hF]; exact h)
        clear hF
        have FS : Hid (∀ W W', F W → Below W.heap.size W W' → F W') := hide (fun W W' h hb => by
          have h := FU.out W h
          exact FM.out W' (And.intro (h.1.trans ((hb).mono h.1.size)) (And.intro (h.2.1.step (hb)) (And.intro (h.2.2.1.step (hb)) (And.intro (h.2.2.2.1.step (hb)) (And.intro (h.2.2.2.2.1.below (hb)) (And.intro (h.2.2.2.2.2.1.below (hb)) (h.2.2.2.2.2.2.below (hb)))))))))
        have FC : Hid (∀ W, F W → (W.cell? ⟨gv, 0, none⟩ = some (.bool s1) ∧ W.cell? ⟨gv, 1, none⟩ = some (.slice m1 n1 c1) ∧ W.cell? ⟨gv, 2, none⟩ = some (.bool t1) ∧ W.cell? ⟨gv, 3, none⟩ = some (.slice o1 p1 d1) ∧ W.cell? ⟨(gv + 1), 0, none⟩ = some (.bool s2) ∧ W.cell? ⟨(gv + 1), 1, none⟩ = some (.slice m2 n2 c2) ∧ W.cell? ⟨(gv + 1), 2, none⟩ = some (.bool t2) ∧ W.cell? ⟨(gv + 1), 3, none⟩ = some (.slice o2 p2 d2) ∧ W.cell? ⟨(gv + 1 + 1), 0, none⟩ = some (.bool s3) ∧ W.cell? ⟨(gv + 1 + 1), 1, none⟩ = some (.slice m3 n3 c3) ∧ W.cell? ⟨(gv + 1 + 1), 2, none⟩ = some (.bool t3) ∧ W.cell? ⟨(gv + 1 + 1), 3, none⟩ = some (.slice o3 p3 d3))) := hide (fun W h => by
          have h := FU.out W h
          exact ⟨h.2.1.cell0, h.2.1.cell1, h.2.1.cell2, h.2.1.cell3, h.2.2.1.cell0, h.2.2.1.cell1, h.2.2.1.cell2, h.2.2.1.cell3, h.2.2.2.1.cell0, h.2.2.2.1.cell1, h.2.2.2.1.cell2, h.2.2.2.1.cell3⟩)
        have FL : Hid (∀ W, F W → (gv < W.heap.size ∧ (gv + 1) < W.heap.size ∧ (gv + 1 + 1) < W.heap.size)) := hide (fun W h => by
          have h := FU.out W h
          exact ⟨h.2.1.lt, h.2.2.1.lt, h.2.2.2.1.lt⟩)
        have FP4 : Hid (∀ W g (x1 x2 x3 x4 : Value), F W → Box4 W g (.bool false) (.slice none 0 0) (.bool false) (.slice none 0 0) → (gv < g ∧ (gv + 1) < g ∧ (gv + 1 + 1) < g) → F ((((W.setCell ⟨g, 0, none⟩ x1).setCell ⟨g, 1, none⟩ x2).setCell ⟨g, 2, none⟩ x3).setCell ⟨g, 3, none⟩ x4)) := hide (fun W g x1 x2 x3 x4 h hX hl => by
          have h := FU.out W h
          exact FM.out _ (And.intro (below_put4 h.1 (show w.heap.size ≤ g by omega) x1 x2 x3 x4) (And.intro (h.2.1.other4 (C := g) (by omega) x1 x2 x3 x4) (And.intro (h.2.2.1.other4 (C := g) (by omega) x1 x2 x3 x4) (And.intro (h.2.2.2.1.other4 (C := g) (by omega) x1 x2 x3 x4) (And.intro (h.2.2.2.2.1.keep (hX.keeps (by simp) (by simp) (by simp) (by simp) x1 x2 x3 x4)) (And.intro (h.2.2.2.2.2.1.keep (hX.keeps (by simp) (by simp) (by simp) (by simp) x1 x2 x3 x4)) (h.2.2.2.2.2.2.keep (hX.keeps (by simp) (by simp) (by simp) (by simp) x1 x2 x3 x4)))))))))
        refine wp_calm F (fun _ => true) 11 #[false, false, false, false, false, false, false, false, false, false, false] (by kernel_rfl) rfl rfl ?_
        have HF := hide (FM.out _ (And.intro (HB.out.drew) (And.intro (VX.out.drew) (And.intro (VY.out.drew) (And.intro (VZ.out.drew) (And.intro (IX.out.drew) (And.intro (IY.out.drew) (IZ.out.drew))))))))
        generalize w39.drew = w39d at *
        refine Calm.take (i := 0) (v := ?_) (a' := ?_) (l' := #[true, false, false, false, false, false, false, false, false, false, false]) (d := some 110) rfl (by kernel_rfl) (by kernel_rfl) (by kernel_rfl) (by kernel_rfl) (fun _ _ _ h => h) HF.out rfl ?_ rfl rfl ?_ ?_
        rotate_left
        · intro w' hF; obtain ⟨f0, f1, f2, f3, f4, f5, f6, f7, f8, f9, f10, f11⟩ := FC.out _ hF; clear hF; go_simp; try rfl
        rotate_left
        · simp only [Act.put]; exact rfl
        refine Calm.take (i := 1) (v := ?_) (a' := ?_) (l' := #[true, true, false, false, false, false, false, false, false, false, false]) (d := some 111) rfl (by kernel_rfl) (by kernel_rfl) (by kernel_rfl) (by kernel_rfl) (fun _ _ _ h => h) HF.out rfl ?_ rfl rfl ?_ ?_
        rotate_left
        · intro w' hF; obtain ⟨f0, f1, f2, f3, f4, f5, f6, f7, f8, f9, f10, f11⟩ := FC.out _ hF; clear hF; go_simp; try rfl
        rotate_left
        · simp only [Act.put]; exact rfl
        refine Calm.take (i := 3) (v := ?_) (a' := ?_) (l' := #[true, true, false, true, false, false, false, false, false, false, false]) (d := some 113) rfl (by kernel_rfl) (by kernel_rfl) (by kernel_rfl) (by kernel_rfl) (fun _ _ _ h => h) HF.out rfl ?_ rfl rfl ?_ ?_
        rotate_left
        · intro w' hF; obtain ⟨f0, f1, f2, f3, f4, f5, f6, f7, f8, f9, f10, f11⟩ := FC.out _ hF; clear hF; go_simp; try rfl
        rotate_left
        · simp only [Act.put]; exact rfl
        refine Calm.two (i := 2) (j := 8) (l := #[true, true, true, true, false, false, false, false, false, false, false]) (l' := #[true, true, false, true, false, false, false, false, true, false, false]) (by kernel_rfl) rfl rfl rfl rfl rfl rfl (fun K hK => ?_) (fun K hK => ?_)
        · go_simp
          refine (rtmul_any _ _ x y _ (FU.out _ HF.out).2.2.2.2.1 (FU.out _ HF.out).2.2.2.2.2.1 (SX.out.mono (by decide)) (SY.out.mono (by decide))).mono ?_
          rintro e v1 ⟨v, rfl, n, hb⟩
          have T1 := hide (n)
          replace HF := hide (FS.out _ _ HF.out hb)
          refine hK _ _ (fun _ => HF.out) ?_
          clear hK K hb n
          refine Calm.two (i := 4) (j := 8) (l := #[true, true, true, true, true, false, false, false, false, false, false]) (l' := #[true, true, true, true, false, false, false, false, true, false, false]) (by kernel_rfl) rfl rfl rfl rfl rfl rfl (fun K hK => ?_) (fun K hK => ?_)
          · go_simp
            refine (rtover_zero _ _ (x * y) y _ T1.out (FU.out _ HF.out).2.2.2.2.2.1 HZ.out).mono ?_
            rintro e v2 ⟨v, rfl, n, hb⟩
            obtain ⟨s4, m4, n4, c4, t4, o4, p4, d4, rfl, n⟩ := n.cells
            clear T1
            have IQ := hide (n)
            replace HF := hide (FS.out _ _ HF.out hb)
            refine hK _ _ (fun _ => HF.out) ?_
            clear hK K hb n
            refine Calm.take (i := 5) (v := ?_) (a' := ?_) (l' := #[true, true, true, true, true, true, false, false, false, false, false]) (d := some 109) rfl (by kernel_rfl) (by kernel_rfl) (by kernel_rfl) (by kernel_rfl) (fun _ _ _ h => h) HF.out rfl ?_ rfl rfl ?_ ?_
            rotate_left
            · intro w' hF; clear hF; go_simp; try rfl
            rotate_left
            · simp only [Act.put]; exact rfl
            refine Calm.take (i := 6) (v := ?_) (a' := ?_) (l' := #[true, true, true, true, true, true, true, false, false, false, false]) (d := some 115) rfl (by kernel_rfl) (by kernel_rfl) (by kernel_rfl) (by kernel_rfl) (fun _ _ _ h => h) HF.out rfl ?_ rfl rfl ?_ ?_
            rotate_left
            · intro w' hF; clear hF; go_simp; try rfl
            rotate_left
            · simp only [Act.put]; exact rfl
            refine Calm.take (i := 7) (v := ?_) (a' := ?_) (l' := #[true, true, true, true, true, true, true, true, false, false, false]) (d := some 116) rfl (by kernel_rfl) (by kernel_rfl) (by kernel_rfl) (by kernel_rfl) (fun _ _ _ h => h) HF.out rfl ?_ rfl rfl ?_ ?_
            rotate_left
            · intro w' hF; clear hF; go_simp; try rfl
            rotate_left
            · simp only [Act.put]; exact rfl
            refine Calm.one (i := 8) (l' := #[true, true, true, true, true, true, true, true, true, false, false]) (by kernel_rfl) rfl rfl rfl fun K hK => ?_
            go_simp
            have al := below_alloc v2 (.cells #[.bool false, .slice none 0 0, .bool false, .slice none 0 0] 27)
            replace IQ := hide (IQ.out.below (al))
            have BXq := hide (Box4.new v2 (.bool false) (.slice none 0 0) (.bool false) (.slice none 0 0))
            have LTq := hide (FL.out _ HF.out)
            replace HF := hide (FS.out _ _ HF.out al)
            refine hK _ _ (fun _ => HF.out) ?_
            clear hK K al
            generalize v2.alloc (.cells #[.bool false, .slice none 0 0, .bool false, .slice none 0 0] 27) = wzq at *
            generalize v2.heap.size = gq at *
            refine Calm.one (i := 9) (l' := #[true, true, true, true, true, true, true, true, true, true, false]) (by kernel_rfl) rfl rfl rfl fun K hK => ?_
            have hc0 := BXq.out.cell0
            have hc1 := BXq.out.cell1
            have hc2 := BXq.out.cell2
            have hc3 := BXq.out.cell3
            have hf0 := BXq.out.free 0
            have hf1 := BXq.out.free 1
            have hf2 := BXq.out.free 2
            have hf3 := BXq.out.free 3
            go_simp
            replace HF := hide (FP4.out _ gq (.bool s4) (.slice m4 n4 c4) (.bool t4) (.slice o4 p4 d4) HF.out BXq.out LTq.out)
            replace IQ := hide (IQ.out.keep (BXq.out.keeps (by simp) (by simp) (by simp) (by simp) (.bool s4) (.slice m4 n4 c4) (.bool t4) (.slice o4 p4 d4)))
            replace BXq := hide (BXq.out.put (.bool s4) (.slice m4 n4 c4) (.bool t4) (.slice o4 p4 d4))
            refine hK _ _ (fun _ => HF.out) ?_
            clear hK K hc0 hf0 hc1 hf1 hc2 hf2 hc3 hf3
            generalize ((((wzq.setCell ⟨gq, 0, none⟩ (.bool s4)).setCell ⟨gq, 1, none⟩ (.slice m4 n4 c4)).setCell ⟨gq, 2, none⟩ (.bool t4)).setCell ⟨gq, 3, none⟩ (.slice o4 p4 d4)) = ws9 at *
            refine Calm.take (i := 10) (v := ?_) (a' := ?_) (l' := #[true, true, true, true, true, true, true, true, true, true, true]) (d := some 12) rfl (by kernel_rfl) (by kernel_rfl) (by kernel_rfl) (by kernel_rfl) (fun _ _ _ h => h) HF.out rfl ?_ rfl rfl ?_ ?_
            rotate_left
            · intro w' hF; clear hF; go_simp; try rfl
            rotate_left
            · simp only [Act.put]; exact rfl
            refine Calm.done (by kernel_rfl) ?_
            have h := FU.out _ HF.out
            go_wp2
            go_meet
            case rel => exact ⟨gq, s4, m4, n4, c4, t4, o4, p4, d4, rfl, rfl, LTq.out, h.1, h.2.1, h.2.2.1, h.2.2.2.1, h.2.2.2.2.1, h.2.2.2.2.2.1, h.2.2.2.2.2.2, BXq.out, IQ.out⟩
          · go_simp
            have al := below_alloc v1 (.cells #[.bool false, .slice none 0 0, .bool false, .slice none 0 0] 27)
            replace T1 := hide (T1.out.below (al))
            have BXq := hide (Box4.new v1 (.bool false) (.slice none 0 0) (.bool false) (.slice none 0 0))
            have LTq := hide (FL.out _ HF.out)
            replace HF := hide (FS.out _ _ HF.out al)
            refine hK _ _ (fun _ => HF.out) ?_
            clear hK K al
            generalize v1.alloc (.cells #[.bool false, .slice none 0 0, .bool false, .slice none 0 0] 27) = wzq at *
            generalize v1.heap.size = gq at *
            refine Calm.one (i := 4) (l' := #[true, true, true, true, true, false, false, false, true, false, false]) (by kernel_rfl) rfl rfl rfl fun K hK => ?_
            go_simp
            refine (rtover_zero _ _ (x * y) y _ T1.out (FU.out _ HF.out).2.2.2.2.2.1 HZ.out).mono ?_
            rintro e v2 ⟨v, rfl, n, hb⟩
            obtain ⟨s4, m4, n4, c4, t4, o4, p4, d4, rfl, n⟩ := n.cells
            clear T1
            replace BXq := hide (BXq.out.step hb)
            have IQ := hide (n)
            replace HF := hide (FS.out _ _ HF.out hb)
            refine hK _ _ (fun _ => HF.out) ?_
            clear hK K hb n
            refine Calm.take (i := 5) (v := ?_) (a' := ?_) (l' := #[true, true, true, true, true, true, false, false, true, false, false]) (d := some 109) rfl (by kernel_rfl) (by kernel_rfl) (by kernel_rfl) (by kernel_rfl) (fun _ _ _ h => h) HF.out rfl ?_ rfl rfl ?_ ?_
            rotate_left
            · intro w' hF; clear hF; go_simp; try rfl
            rotate_left
            · simp only [Act.put]; exact rfl
            refine Calm.take (i := 6) (v := ?_) (a' := ?_) (l' := #[true, true, true, true, true, true, true, false, true, false, false]) (d := some 115) rfl (by kernel_rfl) (by kernel_rfl) (by kernel_rfl) (by kernel_rfl) (fun _ _ _ h => h) HF.out rfl ?_ rfl rfl ?_ ?_
            rotate_left
            · intro w' hF; clear hF; go_simp; try rfl
            rotate_left
            · simp only [Act.put]; exact rfl
            refine Calm.take (i := 7) (v := ?_) (a' := ?_) (l' := #[true, true, true, true, true, true, true, true, true, false, false]) (d := some 116) rfl (by kernel_rfl) (by kernel_rfl) (by kernel_rfl) (by kernel_rfl) (fun _ _ _ h => h) HF.out rfl ?_ rfl rfl ?_ ?_
            rotate_left
            · intro w' hF; clear hF; go_simp; try rfl
            rotate_left
            · simp only [Act.put]; exact rfl
            refine Calm.one (i := 9) (l' := #[true, true, true, true, true, true, true, true, true, true, false]) (by kernel_rfl) rfl rfl rfl fun K hK => ?_
            have hc0 := BXq.out.cell0
            have hc1 := BXq.out.cell1
            have hc2 := BXq.out.cell2
            have hc3 := BXq.out.cell3
            have hf0 := BXq.out.free 0
            have hf1 := BXq.out.free 1
            have hf2 := BXq.out.free 2
            have hf3 := BXq.out.free 3
            go_simp
            replace HF := hide (FP4.out _ gq (.bool s4) (.slice m4 n4 c4) (.bool t4) (.slice o4 p4 d4) HF.out BXq.out LTq.out)
            replace IQ := hide (IQ.out.keep (BXq.out.keeps (by simp) (by simp) (by simp) (by simp) (.bool s4) (.slice m4 n4 c4) (.bool t4) (.slice o4 p4 d4)))
            replace BXq := hide (BXq.out.put (.bool s4) (.slice m4 n4 c4) (.bool t4) (.slice o4 p4 d4))
            refine hK _ _ (fun _ => HF.out) ?_
            clear hK K hc0 hf0 hc1 hf1 hc2 hf2 hc3 hf3
            generalize ((((v2.setCell ⟨gq, 0, none⟩ (.bool s4)).setCell ⟨gq, 1, none⟩ (.slice m4 n4 c4)).setCell ⟨gq, 2, none⟩ (.bool t4)).setCell ⟨gq, 3, none⟩ (.slice o4 p4 d4)) = ws9 at *
            refine Calm.take (i := 10) (v := ?_) (a' := ?_) (l' := #[true, true, true, true, true, true, true, true, true, true, true]) (d := some 12) rfl (by kernel_rfl) (by kernel_rfl) (by kernel_rfl) (by kernel_rfl) (fun _ _ _ h => h) HF.out rfl ?_ rfl rfl ?_ ?_
            rotate_left
            · intro w' hF; clear hF; go_simp; try rfl
            rotate_left
            · simp only [Act.put]; exact rfl
            refine Calm.done (by kernel_rfl) ?_
            have h := FU.out _ HF.out
            go_wp2
            go_meet
            case rel => exact ⟨gq, s4, m4, n4, c4, t4, o4, p4, d4, rfl, rfl, LTq.out, h.1, h.2.1, h.2.2.1, h.2.2.2.1, h.2.2.2.2.1, h.2.2.2.2.2.1, h.2.2.2.2.2.2, BXq.out, IQ.out⟩
        · go_simp
          have al := below_alloc w39d (.cells #[.bool false, .slice none 0 0, .bool false, .slice none 0 0] 27)
          have BXq := hide (Box4.new w39d (.bool false) (.slice none 0 0) (.bool false) (.slice none 0 0))
          have LTq := hide (FL.out _ HF.out)
          replace HF := hide (FS.out _ _ HF.out al)
          refine hK _ _ (fun _ => HF.out) ?_
          clear hK K al
          generalize w39d.alloc (.cells #[.bool false, .slice none 0 0, .bool false, .slice none 0 0] 27) = wzq at *
          generalize w39d.heap.size = gq at *
          refine Calm.one (i := 2) (l' := #[true, true, true, true, false, false, false, false, true, false, false]) (by kernel_rfl) rfl rfl rfl fun K hK => ?_
          go_simp
          refine (rtmul_any _ _ x y _ (FU.out _ HF.out).2.2.2.2.1 (FU.out _ HF.out).2.2.2.2.2.1 (SX.out.mono (by decide)) (SY.out.mono (by decide))).mono ?_
          rintro e v1 ⟨v, rfl, n, hb⟩
          replace BXq := hide (BXq.out.step hb)
          have T1 := hide (n)
          replace HF := hide (FS.out _ _ HF.out hb)
          refine hK _ _ (fun _ => HF.out) ?_
          clear hK K hb n
          refine Calm.one (i := 4) (l' := #[true, true, true, true, true, false, false, false, true, false, false]) (by kernel_rfl) rfl rfl rfl fun K hK => ?_
          go_simp
          refine (rtover_zero _ _ (x * y) y _ T1.out (FU.out _ HF.out).2.2.2.2.2.1 HZ.out).mono ?_
          rintro e v2 ⟨v, rfl, n, hb⟩
          obtain ⟨s4, m4, n4, c4, t4, o4, p4, d4, rfl, n⟩ := n.cells
          clear T1
          replace BXq := hide (BXq.out.step hb)
          have IQ := hide (n)
          replace HF := hide (FS.out _ _ HF.out hb)
          refine hK _ _ (fun _ => HF.out) ?_
          clear hK K hb n
          refine Calm.take (i := 5) (v := ?_) (a' := ?_) (l' := #[true, true, true, true, true, true, false, false, true, false, false]) (d := some 109) rfl (by kernel_rfl) (by kernel_rfl) (by kernel_rfl) (by kernel_rfl) (fun _ _ _ h => h) HF.out rfl ?_ rfl rfl ?_ ?_
          rotate_left
          · intro w' hF; clear hF; go_simp; try rfl
          rotate_left
          · simp only [Act.put]; exact rfl
          refine Calm.take (i := 6) (v := ?_) (a' := ?_) (l' := #[true, true, true, true, true, true, true, false, true, false, false]) (d := some 115) rfl (by kernel_rfl) (by kernel_rfl) (by kernel_rfl) (by kernel_rfl) (fun _ _ _ h => h) HF.out rfl ?_ rfl rfl ?_ ?_
          rotate_left
          · intro w' hF; clear hF; go_simp; try rfl
          rotate_left
          · simp only [Act.put]; exact rfl
          refine Calm.take (i := 7) (v := ?_) (a' := ?_) (l' := #[true, true, true, true, true, true, true, true, true, false, false]) (d := some 116) rfl (by kernel_rfl) (by kernel_rfl) (by kernel_rfl) (by kernel_rfl) (fun _ _ _ h => h) HF.out rfl ?_ rfl rfl ?_ ?_
          rotate_left
          · intro w' hF; clear hF; go_simp; try rfl
          rotate_left
          · simp only [Act.put]; exact rfl
          refine Calm.one (i := 9) (l' := #[true, true, true, true, true, true, true, true, true, true, false]) (by kernel_rfl) rfl rfl rfl fun K hK => ?_
          have hc0 := BXq.out.cell0
          have hc1 := BXq.out.cell1
          have hc2 := BXq.out.cell2
          have hc3 := BXq.out.cell3
          have hf0 := BXq.out.free 0
          have hf1 := BXq.out.free 1
          have hf2 := BXq.out.free 2
          have hf3 := BXq.out.free 3
          go_simp
          replace HF := hide (FP4.out _ gq (.bool s4) (.slice m4 n4 c4) (.bool t4) (.slice o4 p4 d4) HF.out BXq.out LTq.out)
          replace IQ := hide (IQ.out.keep (BXq.out.keeps (by simp) (by simp) (by simp) (by simp) (.bool s4) (.slice m4 n4 c4) (.bool t4) (.slice o4 p4 d4)))
          replace BXq := hide (BXq.out.put (.bool s4) (.slice m4 n4 c4) (.bool t4) (.slice o4 p4 d4))
          refine hK _ _ (fun _ => HF.out) ?_
          clear hK K hc0 hf0 hc1 hf1 hc2 hf2 hc3 hf3
          generalize ((((v2.setCell ⟨gq, 0, none⟩ (.bool s4)).setCell ⟨gq, 1, none⟩ (.slice m4 n4 c4)).setCell ⟨gq, 2, none⟩ (.bool t4)).setCell ⟨gq, 3, none⟩ (.slice o4 p4 d4)) = ws9 at *
          refine Calm.take (i := 10) (v := ?_) (a' := ?_) (l' := #[true, true, true, true, true, true, true, true, true, true, true]) (d := some 12) rfl (by kernel_rfl) (by kernel_rfl) (by kernel_rfl) (by kernel_rfl) (fun _ _ _ h => h) HF.out rfl ?_ rfl rfl ?_ ?_
          rotate_left
          · intro w' hF; clear hF; go_simp; try rfl
          rotate_left
          · simp only [Act.put]; exact rfl
          refine Calm.done (by kernel_rfl) ?_
          have h := FU.out _ HF.out
          go_wp2
          go_meet
          case rel => exact ⟨gq, s4, m4, n4, c4, t4, o4, p4, d4, rfl, rfl, LTq.out, h.1, h.2.1, h.2.2.1, h.2.2.2.1, h.2.2.2.2.1, h.2.2.2.2.2.1, h.2.2.2.2.2.2, BXq.out, IQ.out⟩
      case rest =>
      obtain ⟨gq, s4, m4, n4, c4, t4, o4, p4, d4, rfl, rfl, hlts, h0, h1, h2, h3, h4, h5, h6, bq, eIQ⟩ := hcut
      clear HB VX VY VZ IX IY IZ
      have HB := hide h0
      have VX := hide h1
      have VY := hide h2
      have VZ := hide h3
      have IX := hide h4
      have IY := hide h5
      have IZ := hide h6
      have LTS8 := hide hlts
      have Vq := hide bq
      have IQ := hide eIQ
      clear hlts h0 h1 h2 h3 h4 h5 h6 bq eIQ
      generalize hwc : wc = wc8 at *
      clear hwc
      have hVY0 := VY.out.cell0
      have hVY1 := VY.out.cell1
      have hVY2 := VY.out.cell2
      have hVY3 := VY.out.cell3
      go_wp2_with fail
      refine (rsgn_any _ y _ IY.out).mono ?_
      rintro e v3 ⟨he, hb⟩
      clear hVY0 hVY1 hVY2 hVY3
      replace HB := hide (HB.out.trans ((hb).mono HB.out.size))
      replace IX := hide (IX.out.below (hb))
      replace IY := hide (IY.out.below (hb))
      replace IZ := hide (IZ.out.below (hb))
      replace VX := hide (VX.out.step (hb))
      replace VY := hide (VY.out.step (hb))
      replace VZ := hide (VZ.out.step (hb))
      replace Vq := hide (Vq.out.step (hb))
      replace IQ := hide (IQ.out.below (hb))
      clear hb
      rw [show sgnI y.num = 0 from by rw [HZ.out]; rfl] at he
      subst he
      go_wp2
      go_ret
      exact ⟨rfl, HB.out⟩
    · have HZ := hide hz
      clear hz
      go_cut [11, 12] from 109 (fun pt0 pe0 wx => ∃ gq s4 m4 n4 c4 t4 o4 p4 d4, pt0 = .pointer (some ⟨gq, 0, none⟩) ∧ pe0 = .int .i64 0 ∧ ((gv < gq ∧ (gv + 1) < gq ∧ (gv + 1 + 1) < gq)) ∧ Below w.heap.size w wx ∧ Box4 wx gv (.bool s1) (.slice m1 n1 c1) (.bool t1) (.slice o1 p1 d1) ∧ Box4 wx (gv + 1) (.bool s2) (.slice m2 n2 c2) (.bool t2) (.slice o2 p2 d2) ∧ Box4 wx (gv + 1 + 1) (.bool s3) (.slice m3 n3 c3) (.bool t3) (.slice o3 p3 d3) ∧ RatAt wx (.agg #[.bool s1, .slice m1 n1 c1, .bool t1, .slice o1 p1 d1]) x ∧ RatAt wx (.agg #[.bool s2, .slice m2 n2 c2, .bool t2, .slice o2 p2 d2]) y ∧ RatAt wx (.agg #[.bool s3, .slice m3 n3 c3, .bool t3, .slice o3 p3 d3]) z ∧ Box4 wx gq (.bool s4) (.slice m4 n4 c4) (.bool t4) (.slice o4 p4 d4) ∧ RatAt wx (.agg #[.bool s4, .slice m4 n4 c4, .bool t4, .slice o4 p4 d4]) ((x * y) / y))
      case first =>
        obtain ⟨F, hF⟩ : ∃ F : World → Prop, F = (fun w' => Below w.heap.size w w' ∧ Box4 w' gv (.bool s1) (.slice m1 n1 c1) (.bool t1) (.slice o1 p1 d1) ∧ Box4 w' (gv + 1) (.bool s2) (.slice m2 n2 c2) (.bool t2) (.slice o2 p2 d2) ∧ Box4 w' (gv + 1 + 1) (.bool s3) (.slice m3 n3 c3) (.bool t3) (.slice o3 p3 d3) ∧ RatAt w' (.agg #[.bool s1, .slice m1 n1 c1, .bool t1, .slice o1 p1 d1]) x ∧ RatAt w' (.agg #[.bool s2, .slice m2 n2 c2, .bool t2, .slice o2 p2 d2]) y ∧ RatAt w' (.agg #[.bool s3, .slice m3 n3 c3, .bool t3, .slice o3 p3 d3]) z) := ⟨_, rfl⟩
        have FU : Hid (∀ W, F W → (Below w.heap.size w W ∧ Box4 W gv (.bool s1) (.slice m1 n1 c1) (.bool t1) (.slice o1 p1 d1) ∧ Box4 W (gv + 1) (.bool s2) (.slice m2 n2 c2) (.bool t2) (.slice o2 p2 d2) ∧ Box4 W (gv + 1 + 1) (.bool s3) (.slice m3 n3 c3) (.bool t3) (.slice o3 p3 d3) ∧ RatAt W (.agg #[.bool s1, .slice m1 n1 c1, .bool t1, .slice o1 p1 d1]) x ∧ RatAt W (.agg #[.bool s2, .slice m2 n2 c2, .bool t2, .slice o2 p2 d2]) y ∧ RatAt W (.agg #[.bool s3, .slice m3 n3 c3, .bool t3, .slice o3 p3 d3]) z)) := hide (fun W h => by rw [hF] at h; exact h)
        have FM : Hid (∀ W, (Below w.heap.size w W ∧ Box4 W gv (.bool s1) (.slice m1 n1 c1) (.bool t1) (.slice o1 p1 d1) ∧ Box4 W (gv + 1) (.bool s2) (.slice m2 n2 c2) (.bool t2) (.slice o2 p2 d2) ∧ Box4 W (gv + 1 + 1) (.bool s3) (.slice m3 n3 c3) (.bool t3) (.slice o3 p3 d3) ∧ RatAt W (.agg #[.bool s1, .slice m1 n1 c1, .bool t1, .slice o1 p1 d1]) x ∧ RatAt W (.agg #[.bool s2, .slice m2 n2 c2, .bool t2, .slice o2 p2 d2]) y ∧ RatAt W (.agg #[.bool s3, .slice m3 n3 c3, .bool t3, .slice o3 p3 d3]) z) → F W) := hide (fun W h => by rw [hF]; exact h)
        clear hF
        have FS : Hid (∀ W W', F W → Below W.heap.size W W' → F W') := hide (fun W W' h hb => by
          have h := FU.out W h
          exact FM.out W' (And.intro (h.1.trans ((hb).mono h.1.size)) (And.intro (h.2.1.step (hb)) (And.intro (h.2.2.1.step (hb)) (And.intro (h.2.2.2.1.step (hb)) (And.intro (h.2.2.2.2.1.below (hb)) (And.intro (h.2.2.2.2.2.1.below (hb)) (h.2.2.2.2.2.2.below (hb)))))))))
        have FC : Hid (∀ W, F W → (W.cell? ⟨gv, 0, none⟩ = some (.bool s1) ∧ W.cell? ⟨gv, 1, none⟩ = some (.slice m1 n1 c1) ∧ W.cell? ⟨gv, 2, none⟩ = some (.bool t1) ∧ W.cell? ⟨gv, 3, none⟩ = some (.slice o1 p1 d1) ∧ W.cell? ⟨(gv + 1), 0, none⟩ = some (.bool s2) ∧ W.cell? ⟨(gv + 1), 1, none⟩ = some (.slice m2 n2 c2) ∧ W.cell? ⟨(gv + 1), 2, none⟩ = some (.bool t2) ∧ W.cell? ⟨(gv + 1), 3, none⟩ = some (.slice o2 p2 d2) ∧ W.cell? ⟨(gv + 1 + 1), 0, none⟩ = some (.bool s3) ∧ W.cell? ⟨(gv + 1 + 1), 1, none⟩ = some (.slice m3 n3 c3) ∧ W.cell? ⟨(gv + 1 + 1), 2, none⟩ = some (.bool t3) ∧ W.cell? ⟨(gv + 1 + 1), 3, none⟩ = some (.slice o3 p3 d3))) := hide (fun W h => by
          have h := FU.out W h
          exact ⟨h.2.1.cell0, h.2.1.cell1, h.2.1.cell2, h.2.1.cell3, h.2.2.1.cell0, h.2.2.1.cell1, h.2.2.1.cell2, h.2.2.1.cell3, h.2.2.2.1.cell0, h.2.2.2.1.cell1, h.2.2.2.1.cell2, h.2.2.2.1.cell3⟩)
        have FL : Hid (∀ W, F W → (gv < W.heap.size ∧ (gv + 1) < W.heap.size ∧ (gv + 1 + 1) < W.heap.size)) := hide (fun W h => by
          have h := FU.out W h
          exact ⟨h.2.1.lt, h.2.2.1.lt, h.2.2.2.1.lt⟩)
        have FP4 : Hid (∀ W g (x1 x2 x3 x4 : Value), F W → Box4 W g (.bool false) (.slice none 0 0) (.bool false) (.slice none 0 0) → (gv < g ∧ (gv + 1) < g ∧ (gv + 1 + 1) < g) → F ((((W.setCell ⟨g, 0, none⟩ x1).setCell ⟨g, 1, none⟩ x2).setCell ⟨g, 2, none⟩ x3).setCell ⟨g, 3, none⟩ x4)) := hide (fun W g x1 x2 x3 x4 h hX hl => by
          have h := FU.out W h
          exact FM.out _ (And.intro (below_put4 h.1 (show w.heap.size ≤ g by omega) x1 x2 x3 x4) (And.intro (h.2.1.other4 (C := g) (by omega) x1 x2 x3 x4) (And.intro (h.2.2.1.other4 (C := g) (by omega) x1 x2 x3 x4) (And.intro (h.2.2.2.1.other4 (C := g) (by omega) x1 x2 x3 x4) (And.intro (h.2.2.2.2.1.keep (hX.keeps (by simp) (by simp) (by simp) (by simp) x1 x2 x3 x4)) (And.intro (h.2.2.2.2.2.1.keep (hX.keeps (by simp) (by simp) (by simp) (by simp) x1 x2 x3 x4)) (h.2.2.2.2.2.2.keep (hX.keeps (by simp) (by simp) (by simp) (by simp) x1 x2 x3 x4)))))))))
        refine wp_calm F (fun _ => true) 11 #[false, false, false, false, false, false, false, false, false, false, false] (by kernel_rfl) rfl rfl ?_
        have HF := hide (FM.out _ (And.intro (HB.out.drew) (And.intro (VX.out.drew) (And.intro (VY.out.drew) (And.intro (VZ.out.drew) (And.intro (IX.out.drew) (And.intro (IY.out.drew) (IZ.out.drew))))))))
        generalize w39.drew = w39d at *
        refine Calm.take (i := 0) (v := ?_) (a' := ?_) (l' := #[true, false, false, false, false, false, false, false, false, false, false]) (d := some 110) rfl (by kernel_rfl) (by kernel_rfl) (by kernel_rfl) (by kernel_rfl) (fun _ _ _ h => h) HF.out rfl ?_ rfl rfl ?_ ?_
        rotate_left
        · intro w' hF; obtain ⟨f0, f1, f2, f3, f4, f5, f6, f7, f8, f9, f10, f11⟩ := FC.out _ hF; clear hF; go_simp; try rfl
        rotate_left
        · simp only [Act.put]; exact rfl
        refine Calm.take (i := 1) (v := ?_) (a' := ?_) (l' := #[true, true, false, false, false, false, false, false, false, false, false]) (d := some 111) rfl (by kernel_rfl) (by kernel_rfl) (by kernel_rfl) (by kernel_rfl) (fun _ _ _ h => h) HF.out rfl ?_ rfl rfl ?_ ?_
        rotate_left
        · intro w' hF; obtain ⟨f0, f1, f2, f3, f4, f5, f6, f7, f8, f9, f10, f11⟩ := FC.out _ hF; clear hF; go_simp; try rfl
        rotate_left
        · simp only [Act.put]; exact rfl
        refine Calm.take (i := 3) (v := ?_) (a' := ?_) (l' := #[true, true, false, true, false, false, false, false, false, false, false]) (d := some 113) rfl (by kernel_rfl) (by kernel_rfl) (by kernel_rfl) (by kernel_rfl) (fun _ _ _ h => h) HF.out rfl ?_ rfl rfl ?_ ?_
        rotate_left
        · intro w' hF; obtain ⟨f0, f1, f2, f3, f4, f5, f6, f7, f8, f9, f10, f11⟩ := FC.out _ hF; clear hF; go_simp; try rfl
        rotate_left
        · simp only [Act.put]; exact rfl
        refine Calm.two (i := 2) (j := 8) (l := #[true, true, true, true, false, false, false, false, false, false, false]) (l' := #[true, true, false, true, false, false, false, false, true, false, false]) (by kernel_rfl) rfl rfl rfl rfl rfl rfl (fun K hK => ?_) (fun K hK => ?_)
        · go_simp
          refine (rtmul_any _ _ x y _ (FU.out _ HF.out).2.2.2.2.1 (FU.out _ HF.out).2.2.2.2.2.1 (SX.out.mono (by decide)) (SY.out.mono (by decide))).mono ?_
          rintro e v1 ⟨v, rfl, n, hb⟩
          have T1 := hide (n)
          replace HF := hide (FS.out _ _ HF.out hb)
          refine hK _ _ (fun _ => HF.out) ?_
          clear hK K hb n
          refine Calm.two (i := 4) (j := 8) (l := #[true, true, true, true, true, false, false, false, false, false, false]) (l' := #[true, true, true, true, false, false, false, false, true, false, false]) (by kernel_rfl) rfl rfl rfl rfl rfl rfl (fun K hK => ?_) (fun K hK => ?_)
          · go_simp
            refine (rtover_any _ _ (x * y) y _ T1.out (FU.out _ HF.out).2.2.2.2.2.1 ((SzR.mul SX.out SY.out).mono (by decide)) (SY.out.mono (by decide)) HZ.out).mono ?_
            rintro e v2 ⟨v, rfl, n, hb⟩
            obtain ⟨s4, m4, n4, c4, t4, o4, p4, d4, rfl, n⟩ := n.cells
            clear T1
            have IQ := hide (n)
            replace HF := hide (FS.out _ _ HF.out hb)
            refine hK _ _ (fun _ => HF.out) ?_
            clear hK K hb n
            refine Calm.take (i := 5) (v := ?_) (a' := ?_) (l' := #[true, true, true, true, true, true, false, false, false, false, false]) (d := some 109) rfl (by kernel_rfl) (by kernel_rfl) (by kernel_rfl) (by kernel_rfl) (fun _ _ _ h => h) HF.out rfl ?_ rfl rfl ?_ ?_
            rotate_left
            · intro w' hF; clear hF; go_simp; try rfl
            rotate_left
            · simp only [Act.put]; exact rfl
            refine Calm.take (i := 6) (v := ?_) (a' := ?_) (l' := #[true, true, true, true, true, true, true, false, false, false, false]) (d := some 115) rfl (by kernel_rfl) (by kernel_rfl) (by kernel_rfl) (by kernel_rfl) (fun _ _ _ h => h) HF.out rfl ?_ rfl rfl ?_ ?_
            rotate_left
            · intro w' hF; clear hF; go_simp; try rfl
            rotate_left
            · simp only [Act.put]; exact rfl
            refine Calm.take (i := 7) (v := ?_) (a' := ?_) (l' := #[true, true, true, true, true, true, true, true, false, false, false]) (d := some 116) rfl (by kernel_rfl) (by kernel_rfl) (by kernel_rfl) (by kernel_rfl) (fun _ _ _ h => h) HF.out rfl ?_ rfl rfl ?_ ?_
            rotate_left
            · intro w' hF; clear hF; go_simp; try rfl
            rotate_left
            · simp only [Act.put]; exact rfl
            refine Calm.one (i := 8) (l' := #[true, true, true, true, true, true, true, true, true, false, false]) (by kernel_rfl) rfl rfl rfl fun K hK => ?_
            go_simp
            have al := below_alloc v2 (.cells #[.bool false, .slice none 0 0, .bool false, .slice none 0 0] 27)
            replace IQ := hide (IQ.out.below (al))
            have BXq := hide (Box4.new v2 (.bool false) (.slice none 0 0) (.bool false) (.slice none 0 0))
            have LTq := hide (FL.out _ HF.out)
            replace HF := hide (FS.out _ _ HF.out al)
            refine hK _ _ (fun _ => HF.out) ?_
            clear hK K al
            generalize v2.alloc (.cells #[.bool false, .slice none 0 0, .bool false, .slice none 0 0] 27) = wzq at *
            generalize v2.heap.size = gq at *
            refine Calm.one (i := 9) (l' := #[true, true, true, true, true, true, true, true, true, true, false]) (by kernel_rfl) rfl rfl rfl fun K hK => ?_
            have hc0 := BXq.out.cell0
            have hc1 := BXq.out.cell1
            have hc2 := BXq.out.cell2
            have hc3 := BXq.out.cell3
            have hf0 := BXq.out.free 0
            have hf1 := BXq.out.free 1
            have hf2 := BXq.out.free 2
            have hf3 := BXq.out.free 3
            go_simp
            replace HF := hide (FP4.out _ gq (.bool s4) (.slice m4 n4 c4) (.bool t4) (.slice o4 p4 d4) HF.out BXq.out LTq.out)
            replace IQ := hide (IQ.out.keep (BXq.out.keeps (by simp) (by simp) (by simp) (by simp) (.bool s4) (.slice m4 n4 c4) (.bool t4) (.slice o4 p4 d4)))
            replace BXq := hide (BXq.out.put (.bool s4) (.slice m4 n4 c4) (.bool t4) (.slice o4 p4 d4))
            refine hK _ _ (fun _ => HF.out) ?_
            clear hK K hc0 hf0 hc1 hf1 hc2 hf2 hc3 hf3
            generalize ((((wzq.setCell ⟨gq, 0, none⟩ (.bool s4)).setCell ⟨gq, 1, none⟩ (.slice m4 n4 c4)).setCell ⟨gq, 2, none⟩ (.bool t4)).setCell ⟨gq, 3, none⟩ (.slice o4 p4 d4)) = ws9 at *
            refine Calm.take (i := 10) (v := ?_) (a' := ?_) (l' := #[true, true, true, true, true, true, true, true, true, true, true]) (d := some 12) rfl (by kernel_rfl) (by kernel_rfl) (by kernel_rfl) (by kernel_rfl) (fun _ _ _ h => h) HF.out rfl ?_ rfl rfl ?_ ?_
            rotate_left
            · intro w' hF; clear hF; go_simp; try rfl
            rotate_left
            · simp only [Act.put]; exact rfl
            refine Calm.done (by kernel_rfl) ?_
            have h := FU.out _ HF.out
            go_wp2
            go_meet
            case rel => exact ⟨gq, s4, m4, n4, c4, t4, o4, p4, d4, rfl, rfl, LTq.out, h.1, h.2.1, h.2.2.1, h.2.2.2.1, h.2.2.2.2.1, h.2.2.2.2.2.1, h.2.2.2.2.2.2, BXq.out, IQ.out⟩
          · go_simp
            have al := below_alloc v1 (.cells #[.bool false, .slice none 0 0, .bool false, .slice none 0 0] 27)
            replace T1 := hide (T1.out.below (al))
            have BXq := hide (Box4.new v1 (.bool false) (.slice none 0 0) (.bool false) (.slice none 0 0))
            have LTq := hide (FL.out _ HF.out)
            replace HF := hide (FS.out _ _ HF.out al)
            refine hK _ _ (fun _ => HF.out) ?_
            clear hK K al
            generalize v1.alloc (.cells #[.bool false, .slice none 0 0, .bool false, .slice none 0 0] 27) = wzq at *
            generalize v1.heap.size = gq at *
            refine Calm.one (i := 4) (l' := #[true, true, true, true, true, false, false, false, true, false, false]) (by kernel_rfl) rfl rfl rfl fun K hK => ?_
            go_simp
            refine (rtover_any _ _ (x * y) y _ T1.out (FU.out _ HF.out).2.2.2.2.2.1 ((SzR.mul SX.out SY.out).mono (by decide)) (SY.out.mono (by decide)) HZ.out).mono ?_
            rintro e v2 ⟨v, rfl, n, hb⟩
            obtain ⟨s4, m4, n4, c4, t4, o4, p4, d4, rfl, n⟩ := n.cells
            clear T1
            replace BXq := hide (BXq.out.step hb)
            have IQ := hide (n)
            replace HF := hide (FS.out _ _ HF.out hb)
            refine hK _ _ (fun _ => HF.out) ?_
            clear hK K hb n
            refine Calm.take (i := 5) (v := ?_) (a' := ?_) (l' := #[true, true, true, true, true, true, false, false, true, false, false]) (d := some 109) rfl (by kernel_rfl) (by kernel_rfl) (by kernel_rfl) (by kernel_rfl) (fun _ _ _ h => h) HF.out rfl ?_ rfl rfl ?_ ?_
            rotate_left
            · intro w' hF; clear hF; go_simp; try rfl
            rotate_left
            · simp only [Act.put]; exact rfl
            refine Calm.take (i := 6) (v := ?_) (a' := ?_) (l' := #[true, true, true, true, true, true, true, false, true, false, false]) (d := some 115) rfl (by kernel_rfl) (by kernel_rfl) (by kernel_rfl) (by kernel_rfl) (fun _ _ _ h => h) HF.out rfl ?_ rfl rfl ?_ ?_
            rotate_left
            · intro w' hF; clear hF; go_simp; try rfl
            rotate_left
            · simp only [Act.put]; exact rfl
            refine Calm.take (i := 7) (v := ?_) (a' := ?_) (l' := #[true, true, true, true, true, true, true, true, true, false, false]) (d := some 116) rfl (by kernel_rfl) (by kernel_rfl) (by kernel_rfl) (by kernel_rfl) (fun _ _ _ h => h) HF.out rfl ?_ rfl rfl ?_ ?_
            rotate_left
            · intro w' hF; clear hF; go_simp; try rfl
            rotate_left
            · simp only [Act.put]; exact rfl
            refine Calm.one (i := 9) (l' := #[true, true, true, true, true, true, true, true, true, true, false]) (by kernel_rfl) rfl rfl rfl fun K hK => ?_
            have hc0 := BXq.out.cell0
            have hc1 := BXq.out.cell1
            have hc2 := BXq.out.cell2
            have hc3 := BXq.out.cell3
            have hf0 := BXq.out.free 0
            have hf1 := BXq.out.free 1
            have hf2 := BXq.out.free 2
            have hf3 := BXq.out.free 3
            go_simp
            replace HF := hide (FP4.out _ gq (.bool s4) (.slice m4 n4 c4) (.bool t4) (.slice o4 p4 d4) HF.out BXq.out LTq.out)
            replace IQ := hide (IQ.out.keep (BXq.out.keeps (by simp) (by simp) (by simp) (by simp) (.bool s4) (.slice m4 n4 c4) (.bool t4) (.slice o4 p4 d4)))
            replace BXq := hide (BXq.out.put (.bool s4) (.slice m4 n4 c4) (.bool t4) (.slice o4 p4 d4))
            refine hK _ _ (fun _ => HF.out) ?_
            clear hK K hc0 hf0 hc1 hf1 hc2 hf2 hc3 hf3
            generalize ((((v2.setCell ⟨gq, 0, none⟩ (.bool s4)).setCell ⟨gq, 1, none⟩ (.slice m4 n4 c4)).setCell ⟨gq, 2, none⟩ (.bool t4)).setCell ⟨gq, 3, none⟩ (.slice o4 p4 d4)) = ws9 at *
            refine Calm.take (i := 10) (v := ?_) (a' := ?_) (l' := #[true, true, true, true, true, true, true, true, true, true, true]) (d := some 12) rfl (by kernel_rfl) (by kernel_rfl) (by kernel_rfl) (by kernel_rfl) (fun _ _ _ h => h) HF.out rfl ?_ rfl rfl ?_ ?_
            rotate_left
            · intro w' hF; clear hF; go_simp; try rfl
            rotate_left
            · simp only [Act.put]; exact rfl
            refine Calm.done (by kernel_rfl) ?_
            have h := FU.out _ HF.out
            go_wp2
            go_meet
            case rel => exact ⟨gq, s4, m4, n4, c4, t4, o4, p4, d4, rfl, rfl, LTq.out, h.1, h.2.1, h.2.2.1, h.2.2.2.1, h.2.2.2.2.1, h.2.2.2.2.2.1, h.2.2.2.2.2.2, BXq.out, IQ.out⟩
        · go_simp
          have al := below_alloc w39d (.cells #[.bool false, .slice none 0 0, .bool false, .slice none 0 0] 27)
          have BXq := hide (Box4.new w39d (.bool false) (.slice none 0 0) (.bool false) (.slice none 0 0))
          have LTq := hide (FL.out _ HF.out)
          replace HF := hide (FS.out _ _ HF.out al)
          refine hK _ _ (fun _ => HF.out) ?_
          clear hK K al
          generalize w39d.alloc (.cells #[.bool false, .slice none 0 0, .bool false, .slice none 0 0] 27) = wzq at *
          generalize w39d.heap.size = gq at *
          refine Calm.one (i := 2) (l' := #[true, true, true, true, false, false, false, false, true, false, false]) (by kernel_rfl) rfl rfl rfl fun K hK => ?_
          go_simp
          refine (rtmul_any _ _ x y _ (FU.out _ HF.out).2.2.2.2.1 (FU.out _ HF.out).2.2.2.2.2.1 (SX.out.mono (by decide)) (SY.out.mono (by decide))).mono ?_
          rintro e v1 ⟨v, rfl, n, hb⟩
          replace BXq := hide (BXq.out.step hb)
          have T1 := hide (n)
          replace HF := hide (FS.out _ _ HF.out hb)
          refine hK _ _ (fun _ => HF.out) ?_
          clear hK K hb n
          refine Calm.one (i := 4) (l' := #[true, true, true, true, true, false, false, false, true, false, false]) (by kernel_rfl) rfl rfl rfl fun K hK => ?_
          go_simp
          refine (rtover_any _ _ (x * y) y _ T1.out (FU.out _ HF.out).2.2.2.2.2.1 ((SzR.mul SX.out SY.out).mono (by decide)) (SY.out.mono (by decide)) HZ.out).mono ?_
          rintro e v2 ⟨v, rfl, n, hb⟩
          obtain ⟨s4, m4, n4, c4, t4, o4, p4, d4, rfl, n⟩ := n.cells
          clear T1
          replace BXq := hide (BXq.out.step hb)
          have IQ := hide (n)
          replace HF := hide (FS.out _ _ HF.out hb)
          refine hK _ _ (fun _ => HF.out) ?_
          clear hK K hb n
          refine Calm.take (i := 5) (v := ?_) (a' := ?_) (l' := #[true, true, true, true, true, true, false, false, true, false, false]) (d := some 109) rfl (by kernel_rfl) (by kernel_rfl) (by kernel_rfl) (by kernel_rfl) (fun _ _ _ h => h) HF.out rfl ?_ rfl rfl ?_ ?_
          rotate_left
          · intro w' hF; clear hF; go_simp; try rfl
          rotate_left
          · simp only [Act.put]; exact rfl
          refine Calm.take (i := 6) (v := ?_) (a' := ?_) (l' := #[true, true, true, true, true, true, true, false, true, false, false]) (d := some 115) rfl (by kernel_rfl) (by kernel_rfl) (by kernel_rfl) (by kernel_rfl) (fun _ _ _ h => h) HF.out rfl ?_ rfl rfl ?_ ?_
          rotate_left
          · intro w' hF; clear hF; go_simp; try rfl
          rotate_left
          · simp only [Act.put]; exact rfl
          refine Calm.take (i := 7) (v := ?_) (a' := ?_) (l' := #[true, true, true, true, true, true, true, true, true, false, false]) (d := some 116) rfl (by kernel_rfl) (by kernel_rfl) (by kernel_rfl) (by kernel_rfl) (fun _ _ _ h => h) HF.out rfl ?_ rfl rfl ?_ ?_
          rotate_left
          · intro w' hF; clear hF; go_simp; try rfl
          rotate_left
          · simp only [Act.put]; exact rfl
          refine Calm.one (i := 9) (l' := #[true, true, true, true, true, true, true, true, true, true, false]) (by kernel_rfl) rfl rfl rfl fun K hK => ?_
          have hc0 := BXq.out.cell0
          have hc1 := BXq.out.cell1
          have hc2 := BXq.out.cell2
          have hc3 := BXq.out.cell3
          have hf0 := BXq.out.free 0
          have hf1 := BXq.out.free 1
          have hf2 := BXq.out.free 2
          have hf3 := BXq.out.free 3
          go_simp
          replace HF := hide (FP4.out _ gq (.bool s4) (.slice m4 n4 c4) (.bool t4) (.slice o4 p4 d4) HF.out BXq.out LTq.out)
          replace IQ := hide (IQ.out.keep (BXq.out.keeps (by simp) (by simp) (by simp) (by simp) (.bool s4) (.slice m4 n4 c4) (.bool t4) (.slice o4 p4 d4)))
          replace BXq := hide (BXq.out.put (.bool s4) (.slice m4 n4 c4) (.bool t4) (.slice o4 p4 d4))
          refine hK _ _ (fun _ => HF.out) ?_
          clear hK K hc0 hf0 hc1 hf1 hc2 hf2 hc3 hf3
          generalize ((((v2.setCell ⟨gq, 0, none⟩ (.bool s4)).setCell ⟨gq, 1, none⟩ (.slice m4 n4 c4)).setCell ⟨gq, 2, none⟩ (.bool t4)).setCell ⟨gq, 3, none⟩ (.slice o4 p4 d4)) = ws9 at *
          refine Calm.take (i := 10) (v := ?_) (a' := ?_) (l' := #[true, true, true, true, true, true, true, true, true, true, true]) (d := some 12) rfl (by kernel_rfl) (by kernel_rfl) (by kernel_rfl) (by kernel_rfl) (fun _ _ _ h => h) HF.out rfl ?_ rfl rfl ?_ ?_
          rotate_left
          · intro w' hF; clear hF; go_simp; try rfl
          rotate_left
          · simp only [Act.put]; exact rfl
          refine Calm.done (by kernel_rfl) ?_
          have h := FU.out _ HF.out
          go_wp2
          go_meet
          case rel => exact ⟨gq, s4, m4, n4, c4, t4, o4, p4, d4, rfl, rfl, LTq.out, h.1, h.2.1, h.2.2.1, h.2.2.2.1, h.2.2.2.2.1, h.2.2.2.2.2.1, h.2.2.2.2.2.2, BXq.out, IQ.out⟩
      case rest =>
      obtain ⟨gq, s4, m4, n4, c4, t4, o4, p4, d4, rfl, rfl, hlts, h0, h1, h2, h3, h4, h5, h6, bq, eIQ⟩ := hcut
      clear HB VX VY VZ IX IY IZ
      have HB := hide h0
      have VX := hide h1
      have VY := hide h2
      have VZ := hide h3
      have IX := hide h4
      have IY := hide h5
      have IZ := hide h6
      have LTS8 := hide hlts
      have Vq := hide bq
      have IQ := hide eIQ
      clear hlts h0 h1 h2 h3 h4 h5 h6 bq eIQ
      generalize hwc : wc = wc8 at *
      clear hwc
      have hVY0 := VY.out.cell0
      have hVY1 := VY.out.cell1
      have hVY2 := VY.out.cell2
      have hVY3 := VY.out.cell3
      go_wp2_with fail
      refine (rsgn_any _ y _ IY.out).mono ?_
      rintro e v3 ⟨he, hb⟩
      clear hVY0 hVY1 hVY2 hVY3
      replace HB := hide (HB.out.trans ((hb).mono HB.out.size))
      replace IX := hide (IX.out.below (hb))
      replace IY := hide (IY.out.below (hb))
      replace IZ := hide (IZ.out.below (hb))
      replace VX := hide (VX.out.step (hb))
      replace VY := hide (VY.out.step (hb))
      replace VZ := hide (VZ.out.step (hb))
      replace Vq := hide (Vq.out.step (hb))
      replace IQ := hide (IQ.out.below (hb))
      clear hb
      have SG : ¬ sgnI y.num = 0 := by
        have hn : y.num ≠ 0 := fun e => HZ.out (Rat.num_eq_zero.1 e)
        unfold sgnI; split <;> (try split) <;> omega
      have SG' : (sgnI y.num == 0) = false := by simpa using SG
      generalize sgnI y.num = sd at *
      subst he
      have hVX0 := VX.out.cell0
      have hVX1 := VX.out.cell1
      have hVX2 := VX.out.cell2
      have hVX3 := VX.out.cell3
      have hVq0 := Vq.out.cell0
      have hVq1 := Vq.out.cell1
      have hVq2 := Vq.out.cell2
      have hVq3 := Vq.out.cell3
      go_wp2_with fail
      clear hVX0 hVX1 hVX2 hVX3
      clear hVq0 hVq1 hVq2 hVq3
      clear SG SG'
      refine (same_any _ _ (x * y / y) x _ IQ.out IX.out).mono ?_
      rintro e v4 ⟨he, hb⟩
      rw [decide_rfl (Rat.mul_div_cancel HZ.out)] at he
      subst he
      replace HB := hide (HB.out.trans ((hb).mono HB.out.size))
      replace IX := hide (IX.out.below (hb))
      replace IY := hide (IY.out.below (hb))
      replace IZ := hide (IZ.out.below (hb))
      replace VX := hide (VX.out.step (hb))
      replace VY := hide (VY.out.step (hb))
      replace VZ := hide (VZ.out.step (hb))
      replace Vq := hide (Vq.out.step (hb))
      replace IQ := hide (IQ.out.below (hb))
      clear hb
      go_wp2
      go_ret
      exact ⟨rfl, HB.out⟩
end Go.Proofs.Ytpbfbjipdacbkaa

namespace Go.Proofs.Ytpbfbjipdacbkaa
open Go.ChangeShapes Go.WideShapes Go.ChangeAt Go.RowKit Go.Joins
open Go.ChangeMaps (open_string shut_string)
set_option linter.unusedVariables false

theorem ratioField_own : ownKnob Try.prog.godebug = none := by kernel_rfl
theorem ratioField_laidOut : laidOutB Try.prog = true := by kernel_rfl
theorem ratioField_cells : Try.prog.cellsOf 51 = 2 := by kernel_rfl

set_option maxRecDepth 100000 in
theorem ratioField_lifted (os : Os) (started : os.Started) (H : Type) (enc : TypeId × Value → H) :
    ReturnsInHanded {} Try.checked os 8 .any (Rows.ratioFieldSpec.pre6 enc Try.prog Try.f8 Rows.ratioFieldRow.domain false) (Rows.ratioFieldSpec.post enc Try.prog Try.f8 false true false false) := by
  refine returnsInHanded_of_change (C := Try.checked) ratioField_own started (by kernel_rfl) Try.func8
    (ChangeSpec.witness6 (enc := enc) (C := Try.checked) false ⟨#[], #[.agg #[.string ByteArray.empty, .string ByteArray.empty], .agg #[.string ByteArray.empty, .string ByteArray.empty], .agg #[.string ByteArray.empty, .string ByteArray.empty]], []⟩ 8 (by kernel_rfl) (by kernel_rfl) (by kernel_rfl) (by kernel_rfl)) ?_
  intro W base args ds gs before hval0 hW hcnd _
  have hval : ∀ (j : Nat) t v, Try.f8.params[j]? = some t → args[j]? = some v → Value.okWide Try.prog W .any base t v := hval0
  have hW' := hW
  obtain ⟨p, q, hA0, hV, rfl, hfz, hnd⟩ := hW
  have hA : DataW.TrodAll enc Try.prog W 0 (fun _ => true) true Try.f8.params.toList args.toList ds p := hA0
  rw [Try.params8] at hA hval
  obtain ⟨v0, vs0, d0, ds0, p0, q0, hargs, rfl, rfl, h0, r0⟩ := trodAll_cons hA
  obtain ⟨v1, vs1, d1, ds1, p1, q1, rfl, rfl, rfl, h1, r1⟩ := trodAll_cons r0
  obtain ⟨v2, vs2, d2, ds2, p2, q2, rfl, rfl, rfl, h2, r2⟩ := trodAll_cons r1
  obtain ⟨rfl, rfl, rfl⟩ := trodAll_nil r2
  obtain rfl : args = #[v0, v1, v2] := by cases args; simp_all
  obtain ⟨rfl, rfl⟩ := trodVars_none hV
  have k0 := h0
  have lt0 : ∀ x ∈ p0, x.block < W.heap.size := by obtain ⟨m, hm⟩ := k0; exact DataW.trod_lt m _ _ _ hm
  obtain ⟨s0, t0, rfl, ls0, lt0s⟩ : ∃ a b, v0 = .agg #[.string a, .string b] ∧ a.size ≤ maxLen ∧ b.size ≤ maxLen := by
    obtain ⟨u0, u1, y0, y1, m, rfl, _, _, hy0, hy1⟩ := open_agg2 Try.underlying51 (by kernel_rfl) ratioField_cells (hval 0 51 v0 rfl rfl) h0
    obtain ⟨a, e0, _, ha⟩ := DataW.trod_string Try.underlying9 hy0
    obtain ⟨b, e1, _, hb⟩ := DataW.trod_string Try.underlying9 hy1
    simp only [List.cons.injEq, and_true] at e0 e1
    subst e0
    subst e1
    exact ⟨a, b, rfl, ha, hb⟩
  have k1 := h1
  have lt1 : ∀ x ∈ p1, x.block < W.heap.size := by obtain ⟨m, hm⟩ := k1; exact DataW.trod_lt m _ _ _ hm
  obtain ⟨s1, t1, rfl, ls1, lt1s⟩ : ∃ a b, v1 = .agg #[.string a, .string b] ∧ a.size ≤ maxLen ∧ b.size ≤ maxLen := by
    obtain ⟨u0, u1, y0, y1, m, rfl, _, _, hy0, hy1⟩ := open_agg2 Try.underlying51 (by kernel_rfl) ratioField_cells (hval 1 51 v1 rfl rfl) h1
    obtain ⟨a, e0, _, ha⟩ := DataW.trod_string Try.underlying9 hy0
    obtain ⟨b, e1, _, hb⟩ := DataW.trod_string Try.underlying9 hy1
    simp only [List.cons.injEq, and_true] at e0 e1
    subst e0
    subst e1
    exact ⟨a, b, rfl, ha, hb⟩
  have k2 := h2
  have lt2 : ∀ x ∈ p2, x.block < W.heap.size := by obtain ⟨m, hm⟩ := k2; exact DataW.trod_lt m _ _ _ hm
  obtain ⟨s2, t2, rfl, ls2, lt2s⟩ : ∃ a b, v2 = .agg #[.string a, .string b] ∧ a.size ≤ maxLen ∧ b.size ≤ maxLen := by
    obtain ⟨u0, u1, y0, y1, m, rfl, _, _, hy0, hy1⟩ := open_agg2 Try.underlying51 (by kernel_rfl) ratioField_cells (hval 2 51 v2 rfl rfl) h2
    obtain ⟨a, e0, _, ha⟩ := DataW.trod_string Try.underlying9 hy0
    obtain ⟨b, e1, _, hb⟩ := DataW.trod_string Try.underlying9 hy1
    simp only [List.cons.injEq, and_true] at e0 e1
    subst e0
    subst e1
    exact ⟨a, b, rfl, ha, hb⟩
  clear hA0 hval0
  refine (rfield_walk s0 t0 s1 t1 s2 t2 W (by have := ls0; unfold maxLen at this; omega) (by have := lt0s; unfold maxLen at this; omega) (by have := ls1; unfold maxLen at this; omega) (by have := lt1s; unfold maxLen at this; omega) (by have := ls2; unfold maxLen at this; omega) (by have := lt2s; unfold maxLen at this; omega)).mono fun e W' ⟨he, bel⟩ => ?_
  subst he
  exact ⟨_, rfl, _, _, _, [], _, [], hW', trodAll_mk1 (shut_bool Try.underlying4 _), (trodAll_cons_mk (Below.trod ratioField_laidOut (by kernel_rfl) (of_decide_eq_true (by kernel_rfl)) k0 bel lt0) (trodAll_cons_mk (Below.trod ratioField_laidOut (by kernel_rfl) (of_decide_eq_true (by kernel_rfl)) k1 bel lt1) (trodAll_cons_mk (Below.trod ratioField_laidOut (by kernel_rfl) (of_decide_eq_true (by kernel_rfl)) k2 bel lt2) trodAll_mk0))), rfl, bel.frame _, fun h => by cases h⟩

theorem ratioField_over : Rows.ratioFieldRow.holds Try.pinned (OpenSpec.ofChange Rows.ratioFieldSpec) :=
  OpenClaim.holds_of_wide 8 Try.f8 rfl rfl rfl rfl rfl rfl rfl ⟨rfl, rfl, rfl, rfl, rfl⟩ rfl rfl rfl rfl rfl (by kernel_rfl) Try.func8 (by kernel_rfl)
    (of_decide_eq_true (by kernel_rfl)) (by unfold Func.isWrapper; first | (rw [if_pos (by decide +kernel)]; kernel_rfl) | (rw [if_neg (by decide +kernel)]; exact ⟨rfl, rfl⟩))
    (fun os started H enc _ => ratioField_lifted os started H enc)

theorem ratioField_holds : Rows.RatioFieldSaid := ratioField_over
#print axioms ratioField_holds
end Go.Proofs.Ytpbfbjipdacbkaa
